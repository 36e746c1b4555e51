/-
  The walk of RtoBounds: it answers true, if the calls do what they are to do.
-/
import Derived.Test.YtmdekgcgfcdppaaAwake07
import Derived.Deep.DeepCutAuto
namespace Go.Proofs.Ytmdekgcgfcdppaa
open Go.RowKit Go.BigFrame
set_option linter.unusedVariables false

set_option maxRecDepth 100000 in
set_option maxHeartbeats 3200000 in
theorem bounds_walk {b : Bool} {m f sg mx fi gn ls gt bu times L G v v0 n : Int} (l0 : 1 ≤ L) (l1 : L ≤ 1099511627776) (g0 : 1 ≤ G) (g1 : G ≤ 1099511627776) (h1 : min L G ≤ v) (h2 : v ≤ G) (h3 : v0 ≤ v) (h4 : n < L ∨ G < n ∨ v0 = n) (h5 : 1 ≤ n) (HL : heldT ls = L) (HG : heldT gt = G) (O1 : ∀ w, Calls Try.prog 14 #[.agg #[.bool b, .int .i64 m, .int .i64 f], .agg #[.int .i64 sg, .int .i64 mx, .int .i64 fi, .int .i64 gn, .int .i64 ls, .int .i64 gt, .int .i64 bu], .int .i64 times] w fun e w' => e = .returned (.int .i64 v) ∧ Kept w w') (O0 : ∀ w, Calls Try.prog 14 #[.agg #[.bool b, .int .i64 m, .int .i64 f], .agg #[.int .i64 sg, .int .i64 mx, .int .i64 fi, .int .i64 gn, .int .i64 ls, .int .i64 gt, .int .i64 bu], .int .i64 0] w fun e w' => e = .returned (.int .i64 v0) ∧ Kept w w') (B1 : ∀ w, Calls Try.prog 11 #[.agg #[.bool b, .int .i64 m, .int .i64 f], .agg #[.int .i64 sg, .int .i64 mx, .int .i64 fi, .int .i64 gn, .int .i64 ls, .int .i64 gt, .int .i64 bu]] w fun e w' => e = .returned (.int .i64 n) ∧ Kept w w') (AW : ∀ w, Calls Try.prog 9 #[] w fun e w' => e = .returned (.bool true) ∧ Kept w w') (w : World) : Calls Try.prog 4 #[.agg #[.bool b, .int .i64 m, .int .i64 f], .agg #[.int .i64 sg, .int .i64 mx, .int .i64 fi, .int .i64 gn, .int .i64 ls, .int .i64 gt, .int .i64 bu], .int .i64 times] w fun e w' => e = .returned (.bool true) ∧ Kept w w' := by
  have HL' := Lib.hid HL
  have HG' := Lib.hid HG
  have O1' := Lib.hid O1
  have O0' := Lib.hid O0
  have B1' := Lib.hid B1
  clear HL HG O1 O0 B1
  have AW' := Lib.hid AW
  clear AW
  go_enter Try.func4, Try.ntmps4
  go_upto_region 1 with fail
  generalize hW : World.alloc (World.alloc w (.cells #[.bool b, .int .i64 m, .int .i64 f] 23)) (.cells #[.int .i64 sg, .int .i64 mx, .int .i64 fi, .int .i64 gn, .int .i64 ls, .int .i64 gt, .int .i64 bu] 25) = W_p
  have K_p : Kept w W_p := by subst hW; exact ((Kept.refl _).alloc _ _).alloc _ _
  have H_r := Lib.hid (show W_p.cell? ⟨w.heap.size, 0, none⟩ = some (.bool b) ∧ W_p.cell? ⟨w.heap.size, 1, none⟩ = some (.int .i64 m) ∧ W_p.cell? ⟨w.heap.size, 2, none⟩ = some (.int .i64 f) from by subst hW; simp [go_sem])
  have H_c := Lib.hid (show W_p.cell? ⟨w.heap.size + 1, 0, none⟩ = some (.int .i64 sg) ∧ W_p.cell? ⟨w.heap.size + 1, 1, none⟩ = some (.int .i64 mx) ∧ W_p.cell? ⟨w.heap.size + 1, 2, none⟩ = some (.int .i64 fi) ∧ W_p.cell? ⟨w.heap.size + 1, 3, none⟩ = some (.int .i64 gn) ∧ W_p.cell? ⟨w.heap.size + 1, 4, none⟩ = some (.int .i64 ls) ∧ W_p.cell? ⟨w.heap.size + 1, 5, none⟩ = some (.int .i64 gt) ∧ W_p.cell? ⟨w.heap.size + 1, 6, none⟩ = some (.int .i64 bu) from by subst hW; simp [go_sem])
  have lp : w.heap.size + 2 ≤ W_p.heap.size := by subst hW; simp
  clear hW
  generalize hg : w.heap.size = g_r at *
  go_wp2_with fail
  refine (AW'.out _).mono ?_
  rintro e w1 ⟨rfl, k1⟩
  go_upto_region 2 with fail
  go_cut [8] (fun s8 wx => s8 = .int .i64 L ∧ Kept w1 wx)
  case first =>
    obtain ⟨c_c0, c_c1, c_c2, c_c3, c_c4, c_c5, c_c6⟩ := Kept.all7 (show Kept W_p w1 from (by (repeat (first | with_reducible exact Kept.refl _ | with_reducible apply Kept.drew | with_reducible apply Kept.alloc | ((with_reducible apply Kept.set); focus (simp <;> omega)) | ((with_reducible apply Kept.via); focus with_reducible assumption))))) H_c
    have hh := HL'.out
    rw [heldT_is] at hh
    have HH := Lib.hid hh
    clear hh
    rcases Int.lt_trichotomy ls 1 with hz | hz | hz
    · (go_wp2_with fail; go_meet; exact ⟨int_same_r (by have hh := HH.out; omega), (by (repeat (first | with_reducible exact Kept.refl _ | with_reducible apply Kept.drew | with_reducible apply Kept.alloc | ((with_reducible apply Kept.set); focus (simp <;> omega)) | ((with_reducible apply Kept.via); focus with_reducible assumption))))⟩)
    · subst hz; (go_wp2_with fail; go_meet; exact ⟨int_same_r (by have hh := HH.out; omega), (by (repeat (first | with_reducible exact Kept.refl _ | with_reducible apply Kept.drew | with_reducible apply Kept.alloc | ((with_reducible apply Kept.set); focus (simp <;> omega)) | ((with_reducible apply Kept.via); focus with_reducible assumption))))⟩)
    · rcases Int.lt_trichotomy ls 1099511627776 with hy | hy | hy
      · (go_wp2_with fail; go_meet; exact ⟨int_same_r (by have hh := HH.out; omega), (by (repeat (first | with_reducible exact Kept.refl _ | with_reducible apply Kept.drew | with_reducible apply Kept.alloc | ((with_reducible apply Kept.set); focus (simp <;> omega)) | ((with_reducible apply Kept.via); focus with_reducible assumption))))⟩)
      · subst hy; (go_wp2_with fail; go_meet; exact ⟨int_same_r (by have hh := HH.out; omega), (by (repeat (first | with_reducible exact Kept.refl _ | with_reducible apply Kept.drew | with_reducible apply Kept.alloc | ((with_reducible apply Kept.set); focus (simp <;> omega)) | ((with_reducible apply Kept.via); focus with_reducible assumption))))⟩)
      · (go_wp2_with fail; go_meet; exact ⟨int_same_r (by have hh := HH.out; omega), (by (repeat (first | with_reducible exact Kept.refl _ | with_reducible apply Kept.drew | with_reducible apply Kept.alloc | ((with_reducible apply Kept.set); focus (simp <;> omega)) | ((with_reducible apply Kept.via); focus with_reducible assumption))))⟩)
  obtain ⟨rfl, k2⟩ := hcut
  generalize wc = w2 at *
  go_upto_region 3 with fail
  go_cut [9] (fun s9 wx => s9 = .int .i64 G ∧ Kept w2 wx)
  case first =>
    obtain ⟨c_c0, c_c1, c_c2, c_c3, c_c4, c_c5, c_c6⟩ := Kept.all7 (show Kept W_p w2 from (by (repeat (first | with_reducible exact Kept.refl _ | with_reducible apply Kept.drew | with_reducible apply Kept.alloc | ((with_reducible apply Kept.set); focus (simp <;> omega)) | ((with_reducible apply Kept.via); focus with_reducible assumption))))) H_c
    have hh := HG'.out
    rw [heldT_is] at hh
    have HH := Lib.hid hh
    clear hh
    rcases Int.lt_trichotomy gt 1 with hz | hz | hz
    · (go_wp2_with fail; go_meet; exact ⟨int_same_r (by have hh := HH.out; omega), (by (repeat (first | with_reducible exact Kept.refl _ | with_reducible apply Kept.drew | with_reducible apply Kept.alloc | ((with_reducible apply Kept.set); focus (simp <;> omega)) | ((with_reducible apply Kept.via); focus with_reducible assumption))))⟩)
    · subst hz; (go_wp2_with fail; go_meet; exact ⟨int_same_r (by have hh := HH.out; omega), (by (repeat (first | with_reducible exact Kept.refl _ | with_reducible apply Kept.drew | with_reducible apply Kept.alloc | ((with_reducible apply Kept.set); focus (simp <;> omega)) | ((with_reducible apply Kept.via); focus with_reducible assumption))))⟩)
    · rcases Int.lt_trichotomy gt 1099511627776 with hy | hy | hy
      · (go_wp2_with fail; go_meet; exact ⟨int_same_r (by have hh := HH.out; omega), (by (repeat (first | with_reducible exact Kept.refl _ | with_reducible apply Kept.drew | with_reducible apply Kept.alloc | ((with_reducible apply Kept.set); focus (simp <;> omega)) | ((with_reducible apply Kept.via); focus with_reducible assumption))))⟩)
      · subst hy; (go_wp2_with fail; go_meet; exact ⟨int_same_r (by have hh := HH.out; omega), (by (repeat (first | with_reducible exact Kept.refl _ | with_reducible apply Kept.drew | with_reducible apply Kept.alloc | ((with_reducible apply Kept.set); focus (simp <;> omega)) | ((with_reducible apply Kept.via); focus with_reducible assumption))))⟩)
      · (go_wp2_with fail; go_meet; exact ⟨int_same_r (by have hh := HH.out; omega), (by (repeat (first | with_reducible exact Kept.refl _ | with_reducible apply Kept.drew | with_reducible apply Kept.alloc | ((with_reducible apply Kept.set); focus (simp <;> omega)) | ((with_reducible apply Kept.via); focus with_reducible assumption))))⟩)
  obtain ⟨rfl, k3⟩ := hcut
  generalize wc = w3 at *
  obtain ⟨c_r0, c_r1, c_r2⟩ := Kept.all3 (show Kept W_p w3 from (by (repeat (first | with_reducible exact Kept.refl _ | with_reducible apply Kept.drew | with_reducible apply Kept.alloc | ((with_reducible apply Kept.set); focus (simp <;> omega)) | ((with_reducible apply Kept.via); focus with_reducible assumption))))) H_r
  obtain ⟨c_c0, c_c1, c_c2, c_c3, c_c4, c_c5, c_c6⟩ := Kept.all7 (show Kept W_p w3 from (by (repeat (first | with_reducible exact Kept.refl _ | with_reducible apply Kept.drew | with_reducible apply Kept.alloc | ((with_reducible apply Kept.set); focus (simp <;> omega)) | ((with_reducible apply Kept.via); focus with_reducible assumption))))) H_c
  go_wp2_with fail
  refine (O1'.out _).mono ?_
  rintro e w4 ⟨rfl, k4⟩
  clear c_r0 c_r1 c_r2 c_c0 c_c1 c_c2 c_c3 c_c4 c_c5 c_c6
  obtain ⟨c_r0, c_r1, c_r2⟩ := Kept.all3 (show Kept W_p w4 from (by (repeat (first | with_reducible exact Kept.refl _ | with_reducible apply Kept.drew | with_reducible apply Kept.alloc | ((with_reducible apply Kept.set); focus (simp <;> omega)) | ((with_reducible apply Kept.via); focus with_reducible assumption))))) H_r
  obtain ⟨c_c0, c_c1, c_c2, c_c3, c_c4, c_c5, c_c6⟩ := Kept.all7 (show Kept W_p w4 from (by (repeat (first | with_reducible exact Kept.refl _ | with_reducible apply Kept.drew | with_reducible apply Kept.alloc | ((with_reducible apply Kept.set); focus (simp <;> omega)) | ((with_reducible apply Kept.via); focus with_reducible assumption))))) H_c
  go_wp2_with fail
  refine (O0'.out _).mono ?_
  rintro e w5 ⟨rfl, k5⟩
  clear c_r0 c_r1 c_r2 c_c0 c_c1 c_c2 c_c3 c_c4 c_c5 c_c6
  obtain ⟨c_r0, c_r1, c_r2⟩ := Kept.all3 (show Kept W_p w5 from (by (repeat (first | with_reducible exact Kept.refl _ | with_reducible apply Kept.drew | with_reducible apply Kept.alloc | ((with_reducible apply Kept.set); focus (simp <;> omega)) | ((with_reducible apply Kept.via); focus with_reducible assumption))))) H_r
  obtain ⟨c_c0, c_c1, c_c2, c_c3, c_c4, c_c5, c_c6⟩ := Kept.all7 (show Kept W_p w5 from (by (repeat (first | with_reducible exact Kept.refl _ | with_reducible apply Kept.drew | with_reducible apply Kept.alloc | ((with_reducible apply Kept.set); focus (simp <;> omega)) | ((with_reducible apply Kept.via); focus with_reducible assumption))))) H_c
  go_wp2_with fail
  refine (B1'.out _).mono ?_
  rintro e w6 ⟨rfl, k6⟩
  clear c_r0 c_r1 c_r2 c_c0 c_c1 c_c2 c_c3 c_c4 c_c5 c_c6
  have kk : Kept w w6 := (by (repeat (first | with_reducible exact Kept.refl _ | with_reducible apply Kept.drew | with_reducible apply Kept.alloc | ((with_reducible apply Kept.set); focus (simp <;> omega)) | ((with_reducible apply Kept.via); focus with_reducible assumption))))
  have d2 : decide (v ≤ G) = true := by simp [h2]
  have d3 : decide (v0 ≤ v) = true := by simp [h3]
  have d5 : decide (1 ≤ n) = true := by simp [h5]
  have e1 : ∀ x, min L G = x → decide (x ≤ v) = true := fun x hx => by simp; omega
  rcases Int.lt_trichotomy L G with ho | ho | ho
  · have mn : min L G = L := by omega
    have d1 := e1 L (by omega)
    clear e1
    by_cases a1 : n < L
    · have a1' : decide (n < L) = true := by simp [a1]
      go_wp2
      go_ret
      exact ⟨rfl, kk⟩
    · have a1' : decide (n < L) = false := by simp; omega
      by_cases a2 : G < n
      · have a2' : decide (G < n) = true := by simp [a2]
        go_wp2
        go_ret
        exact ⟨rfl, kk⟩
      · have a2' : decide (G < n) = false := by simp; omega
        obtain rfl : v0 = n := by omega
        go_wp2
        go_ret
        exact ⟨rfl, kk⟩
  · subst ho
    have d1 := e1 L (by omega)
    clear e1
    by_cases a1 : n < L
    · have a1' : decide (n < L) = true := by simp [a1]
      go_wp2
      go_ret
      exact ⟨rfl, kk⟩
    · have a1' : decide (n < L) = false := by simp; omega
      by_cases a2 : L < n
      · have a2' : decide (L < n) = true := by simp [a2]
        go_wp2
        go_ret
        exact ⟨rfl, kk⟩
      · have a2' : decide (L < n) = false := by simp; omega
        obtain rfl : v0 = n := by omega
        go_wp2
        go_ret
        exact ⟨rfl, kk⟩
  · have mn : min L G = G := by omega
    have d1 := e1 G (by omega)
    clear e1
    by_cases a1 : n < L
    · have a1' : decide (n < L) = true := by simp [a1]
      go_wp2
      go_ret
      exact ⟨rfl, kk⟩
    · have a1' : decide (n < L) = false := by simp; omega
      by_cases a2 : G < n
      · have a2' : decide (G < n) = true := by simp [a2]
        go_wp2
        go_ret
        exact ⟨rfl, kk⟩
      · have a2' : decide (G < n) = false := by simp; omega
        obtain rfl : v0 = n := by omega
        go_wp2
        go_ret
        exact ⟨rfl, kk⟩
theorem rtoBounds_walk (BC : BaseC) (OC : OfC) (UC : BackC) (AC : AllC) (b : Bool) (m f sg mx fi gn ls gt bu times : Int) (w : World) (tm : In64 times) : Calls Try.prog 4 #[.agg #[.bool b, .int .i64 m, .int .i64 f], .agg #[.int .i64 sg, .int .i64 mx, .int .i64 fi, .int .i64 gn, .int .i64 ls, .int .i64 gt, .int .i64 bu], .int .i64 times] w fun e w' => e = .returned (.bool true) ∧ Kept w w' := by
  obtain ⟨n, hb⟩ := base_ex b m f gn
  have r := base_range hb
  have l := heldT_range ls
  have g := heldT_range gt
  have q := first_range (n := n) r.1 l.1 g.1
  have d := dbl_range q.1 q.2.1 times.toNat
  refine bounds_walk l.1 l.2 g.1 g.2 (by omega) d.2 d.1 ?_ r.1 rfl rfl (fun w => OC _ _ _ _ _ _ _ _ _ _ _ _ tm ⟨n, hb, rfl⟩ w) (fun w => OC _ _ _ _ _ _ _ _ _ _ _ _ (by unfold In64; omega) ⟨n, hb, rfl⟩ w) (fun w => BC _ _ _ _ _ _ _ _ _ _ _ hb w) (fun w => awake07 BC OC UC AC w) w
  show n < heldT ls ∨ heldT gt < n ∨ firstOf n (heldT ls) (heldT gt) = n
  unfold firstOf; omega
end Go.Proofs.Ytmdekgcgfcdppaa
