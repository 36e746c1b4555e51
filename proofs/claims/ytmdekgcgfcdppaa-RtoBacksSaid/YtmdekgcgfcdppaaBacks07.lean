/-
  The walk of RtoBacks: it answers true, if the calls do what they are to do.
-/
import Derived.Test.YtmdekgcgfcdppaaAwake07
import Derived.Deep.DeepCutAuto
namespace Go.Proofs.Ytmdekgcgfcdppaa
open Go.RowKit Go.BigFrame
set_option linter.unusedVariables false

set_option maxRecDepth 100000 in
set_option maxHeartbeats 3200000 in
theorem backs_walk {b : Bool} {m f sg mx fi gn ls gt bu G : Int} (g0 : 1 ≤ G) (g1 : G ≤ 1099511627776) (Inv : Nat → Int → Prop) (I0 : Inv 0 0)
    (IS : ∀ k n, k < 60 → Inv k n → ∃ m' v : Int, 0 ≤ n ∧ n ≤ 40 ∧ Inv (k + 1) m' ∧ ((m' = n ∧ v = G) ∨ (m' = n + 1 ∧ v < G)) ∧ (∀ w, Calls Try.prog 15 #[.agg #[.bool b, .int .i64 m, .int .i64 f], .agg #[.int .i64 sg, .int .i64 mx, .int .i64 fi, .int .i64 gn, .int .i64 ls, .int .i64 gt, .int .i64 bu], .int .i64 n] w fun e w' => e = .returned (.int .i64 m') ∧ Kept w w') ∧ ∀ w, Calls Try.prog 14 #[.agg #[.bool b, .int .i64 m, .int .i64 f], .agg #[.int .i64 sg, .int .i64 mx, .int .i64 fi, .int .i64 gn, .int .i64 ls, .int .i64 gt, .int .i64 bu], .int .i64 n] w fun e w' => e = .returned (.int .i64 v) ∧ Kept w w')
    (IE : ∀ n, Inv 60 n → n ≤ 40 ∧ ∀ w, Calls Try.prog 14 #[.agg #[.bool b, .int .i64 m, .int .i64 f], .agg #[.int .i64 sg, .int .i64 mx, .int .i64 fi, .int .i64 gn, .int .i64 ls, .int .i64 gt, .int .i64 bu], .int .i64 n] w fun e w' => e = .returned (.int .i64 G) ∧ Kept w w') (HG : heldT gt = G) (AW : ∀ w, Calls Try.prog 9 #[] w fun e w' => e = .returned (.bool true) ∧ Kept w w') (w : World) : Calls Try.prog 6 #[.agg #[.bool b, .int .i64 m, .int .i64 f], .agg #[.int .i64 sg, .int .i64 mx, .int .i64 fi, .int .i64 gn, .int .i64 ls, .int .i64 gt, .int .i64 bu]] w fun e w' => e = .returned (.bool true) ∧ Kept w w' := by
  have HG' := Lib.hid HG
  clear HG
  have AW' := Lib.hid AW
  clear AW
  have IS' := Lib.hid IS
  have IE' := Lib.hid IE
  clear IS IE
  go_enter Try.func6, Try.ntmps6
  go_upto_region 1 with fail
  generalize hW : World.alloc (World.alloc w (.cells #[.bool b, .int .i64 m, .int .i64 f] 23)) (.cells #[.int .i64 sg, .int .i64 mx, .int .i64 fi, .int .i64 gn, .int .i64 ls, .int .i64 gt, .int .i64 bu] 25) = W_p
  have K_p : Kept w W_p := by subst hW; exact ((Kept.refl _).alloc _ _).alloc _ _
  have H_r := Lib.hid (show W_p.cell? ⟨w.heap.size, 0, none⟩ = some (.bool b) ∧ W_p.cell? ⟨w.heap.size, 1, none⟩ = some (.int .i64 m) ∧ W_p.cell? ⟨w.heap.size, 2, none⟩ = some (.int .i64 f) from by subst hW; simp [go_sem])
  have H_c := Lib.hid (show W_p.cell? ⟨w.heap.size + 1, 0, none⟩ = some (.int .i64 sg) ∧ W_p.cell? ⟨w.heap.size + 1, 1, none⟩ = some (.int .i64 mx) ∧ W_p.cell? ⟨w.heap.size + 1, 2, none⟩ = some (.int .i64 fi) ∧ W_p.cell? ⟨w.heap.size + 1, 3, none⟩ = some (.int .i64 gn) ∧ W_p.cell? ⟨w.heap.size + 1, 4, none⟩ = some (.int .i64 ls) ∧ W_p.cell? ⟨w.heap.size + 1, 5, none⟩ = some (.int .i64 gt) ∧ W_p.cell? ⟨w.heap.size + 1, 6, none⟩ = some (.int .i64 bu) from by subst hW; simp [go_sem])
  have lp : w.heap.size + 2 ≤ W_p.heap.size := by subst hW; simp
  clear hW
  generalize hg : w.heap.size = g_r at *
  go_wp2_with fail
  refine (AW'.out _).mono ?_
  rintro e w1 ⟨rfl, k1⟩
  go_upto_region 2 with fail
  go_cut [6] (fun s6 wx => s6 = .int .i64 G ∧ Kept w1 wx)
  case first =>
    obtain ⟨c_c0, c_c1, c_c2, c_c3, c_c4, c_c5, c_c6⟩ := Kept.all7 (show Kept W_p w1 from (by (repeat (first | with_reducible exact Kept.refl _ | with_reducible apply Kept.drew | with_reducible apply Kept.alloc | ((with_reducible apply Kept.set); focus (simp <;> omega)) | ((with_reducible apply Kept.via); focus with_reducible assumption))))) H_c
    have hh := HG'.out
    rw [heldT_is] at hh
    have HH := Lib.hid hh
    clear hh
    rcases Int.lt_trichotomy gt 1 with hz | hz | hz
    · (go_wp2_with fail; go_meet; exact ⟨int_same_r (by have hh := HH.out; omega), (by (repeat (first | with_reducible exact Kept.refl _ | with_reducible apply Kept.drew | with_reducible apply Kept.alloc | ((with_reducible apply Kept.set); focus (simp <;> omega)) | ((with_reducible apply Kept.via); focus with_reducible assumption))))⟩)
    · subst hz; (go_wp2_with fail; go_meet; exact ⟨int_same_r (by have hh := HH.out; omega), (by (repeat (first | with_reducible exact Kept.refl _ | with_reducible apply Kept.drew | with_reducible apply Kept.alloc | ((with_reducible apply Kept.set); focus (simp <;> omega)) | ((with_reducible apply Kept.via); focus with_reducible assumption))))⟩)
    · rcases Int.lt_trichotomy gt 1099511627776 with hy | hy | hy
      · (go_wp2_with fail; go_meet; exact ⟨int_same_r (by have hh := HH.out; omega), (by (repeat (first | with_reducible exact Kept.refl _ | with_reducible apply Kept.drew | with_reducible apply Kept.alloc | ((with_reducible apply Kept.set); focus (simp <;> omega)) | ((with_reducible apply Kept.via); focus with_reducible assumption))))⟩)
      · subst hy; (go_wp2_with fail; go_meet; exact ⟨int_same_r (by have hh := HH.out; omega), (by (repeat (first | with_reducible exact Kept.refl _ | with_reducible apply Kept.drew | with_reducible apply Kept.alloc | ((with_reducible apply Kept.set); focus (simp <;> omega)) | ((with_reducible apply Kept.via); focus with_reducible assumption))))⟩)
      · (go_wp2_with fail; go_meet; exact ⟨int_same_r (by have hh := HH.out; omega), (by (repeat (first | with_reducible exact Kept.refl _ | with_reducible apply Kept.drew | with_reducible apply Kept.alloc | ((with_reducible apply Kept.set); focus (simp <;> omega)) | ((with_reducible apply Kept.via); focus with_reducible assumption))))⟩)
  obtain ⟨rfl, k2⟩ := hcut
  generalize wc = w2 at *
  have kl : Kept W_p w2 := (by (repeat (first | with_reducible exact Kept.refl _ | with_reducible apply Kept.drew | with_reducible apply Kept.alloc | ((with_reducible apply Kept.set); focus (simp <;> omega)) | ((with_reducible apply Kept.via); focus with_reducible assumption))))
  go_wp2
  go_loopw [7, 8] (fun nv i wr => ∃ (k : Nat) (n : Int), k ≤ 60 ∧ i = .int .i64 k ∧ nv = .int .i64 n ∧ Inv k n ∧ Kept W_p wr) (fun _ i _ => 60 - (intOf i).toNat)
  case atStart => exact ⟨0, 0, Nat.zero_le _, rfl, rfl, I0, kl⟩
  case round =>
    clear kl I0
    obtain ⟨k, n, hk, rfl, rfl, hI, kw⟩ := hrel
    by_cases hlt : k < 60
    · obtain ⟨m2, v, n0, n1, hI2, hc, U, O⟩ := IS'.out k n hlt hI
      have HU := Lib.hid U
      have HO := Lib.hid O
      have HI := Lib.hid hI2
      clear U O hI2 hI
      rcases hc with ⟨rfl, rfl⟩ | ⟨rfl, hv⟩
      · obtain ⟨c_r0, c_r1, c_r2⟩ := Kept.all3 (show Kept W_p wr from (by (repeat (first | with_reducible exact Kept.refl _ | with_reducible apply Kept.drew | with_reducible apply Kept.alloc | ((with_reducible apply Kept.set); focus (simp <;> omega)) | ((with_reducible apply Kept.via); focus with_reducible assumption))))) H_r
        obtain ⟨c_c0, c_c1, c_c2, c_c3, c_c4, c_c5, c_c6⟩ := Kept.all7 (show Kept W_p wr from (by (repeat (first | with_reducible exact Kept.refl _ | with_reducible apply Kept.drew | with_reducible apply Kept.alloc | ((with_reducible apply Kept.set); focus (simp <;> omega)) | ((with_reducible apply Kept.via); focus with_reducible assumption))))) H_c
        go_wp2_with fail
        refine (HU.out _).mono ?_
        rintro e w51 ⟨rfl, k51⟩
        clear c_r0 c_r1 c_r2 c_c0 c_c1 c_c2 c_c3 c_c4 c_c5 c_c6
        obtain ⟨c_r0, c_r1, c_r2⟩ := Kept.all3 (show Kept W_p w51 from (by (repeat (first | with_reducible exact Kept.refl _ | with_reducible apply Kept.drew | with_reducible apply Kept.alloc | ((with_reducible apply Kept.set); focus (simp <;> omega)) | ((with_reducible apply Kept.via); focus with_reducible assumption))))) H_r
        obtain ⟨c_c0, c_c1, c_c2, c_c3, c_c4, c_c5, c_c6⟩ := Kept.all7 (show Kept W_p w51 from (by (repeat (first | with_reducible exact Kept.refl _ | with_reducible apply Kept.drew | with_reducible apply Kept.alloc | ((with_reducible apply Kept.set); focus (simp <;> omega)) | ((with_reducible apply Kept.via); focus with_reducible assumption))))) H_c
        go_wp2_with fail
        refine (HO.out _).mono ?_
        rintro e w52 ⟨rfl, k52⟩
        clear c_r0 c_r1 c_r2 c_c0 c_c1 c_c2 c_c3 c_c4 c_c5 c_c6
        go_wp2
        go_roundw
        case rel => exact ⟨k + 1, _, by omega, by go_num, rfl, HI.out, (by (repeat (first | with_reducible exact Kept.refl _ | with_reducible apply Kept.drew | with_reducible apply Kept.alloc | ((with_reducible apply Kept.set); focus (simp <;> omega)) | ((with_reducible apply Kept.via); focus with_reducible assumption))))⟩
        case measure => simp [intOf]; omega
      · have d1 : (n + 1 == n) = false := by simp; omega
        have d2 : (v == G) = false := by simp; omega
        obtain ⟨c_r0, c_r1, c_r2⟩ := Kept.all3 (show Kept W_p wr from (by (repeat (first | with_reducible exact Kept.refl _ | with_reducible apply Kept.drew | with_reducible apply Kept.alloc | ((with_reducible apply Kept.set); focus (simp <;> omega)) | ((with_reducible apply Kept.via); focus with_reducible assumption))))) H_r
        obtain ⟨c_c0, c_c1, c_c2, c_c3, c_c4, c_c5, c_c6⟩ := Kept.all7 (show Kept W_p wr from (by (repeat (first | with_reducible exact Kept.refl _ | with_reducible apply Kept.drew | with_reducible apply Kept.alloc | ((with_reducible apply Kept.set); focus (simp <;> omega)) | ((with_reducible apply Kept.via); focus with_reducible assumption))))) H_c
        go_wp2_with fail
        refine (HU.out _).mono ?_
        rintro e w51 ⟨rfl, k51⟩
        clear c_r0 c_r1 c_r2 c_c0 c_c1 c_c2 c_c3 c_c4 c_c5 c_c6
        obtain ⟨c_r0, c_r1, c_r2⟩ := Kept.all3 (show Kept W_p w51 from (by (repeat (first | with_reducible exact Kept.refl _ | with_reducible apply Kept.drew | with_reducible apply Kept.alloc | ((with_reducible apply Kept.set); focus (simp <;> omega)) | ((with_reducible apply Kept.via); focus with_reducible assumption))))) H_r
        obtain ⟨c_c0, c_c1, c_c2, c_c3, c_c4, c_c5, c_c6⟩ := Kept.all7 (show Kept W_p w51 from (by (repeat (first | with_reducible exact Kept.refl _ | with_reducible apply Kept.drew | with_reducible apply Kept.alloc | ((with_reducible apply Kept.set); focus (simp <;> omega)) | ((with_reducible apply Kept.via); focus with_reducible assumption))))) H_c
        go_wp2_with fail
        refine (HO.out _).mono ?_
        rintro e w52 ⟨rfl, k52⟩
        clear c_r0 c_r1 c_r2 c_c0 c_c1 c_c2 c_c3 c_c4 c_c5 c_c6
        go_wp2
        go_roundw
        case rel => exact ⟨k + 1, _, by omega, by go_num, rfl, HI.out, (by (repeat (first | with_reducible exact Kept.refl _ | with_reducible apply Kept.drew | with_reducible apply Kept.alloc | ((with_reducible apply Kept.set); focus (simp <;> omega)) | ((with_reducible apply Kept.via); focus with_reducible assumption))))⟩
        case measure => simp [intOf]; omega
    · obtain rfl : k = 60 := by omega
      obtain ⟨n1, O⟩ := IE'.out n hI
      have HO := Lib.hid O
      clear O hI hk
      obtain ⟨c_r0, c_r1, c_r2⟩ := Kept.all3 (show Kept W_p wr from (by (repeat (first | with_reducible exact Kept.refl _ | with_reducible apply Kept.drew | with_reducible apply Kept.alloc | ((with_reducible apply Kept.set); focus (simp <;> omega)) | ((with_reducible apply Kept.via); focus with_reducible assumption))))) H_r
      obtain ⟨c_c0, c_c1, c_c2, c_c3, c_c4, c_c5, c_c6⟩ := Kept.all7 (show Kept W_p wr from (by (repeat (first | with_reducible exact Kept.refl _ | with_reducible apply Kept.drew | with_reducible apply Kept.alloc | ((with_reducible apply Kept.set); focus (simp <;> omega)) | ((with_reducible apply Kept.via); focus with_reducible assumption))))) H_c
      go_wp2_with fail
      refine (HO.out _).mono ?_
      rintro e w61 ⟨rfl, k61⟩
      clear c_r0 c_r1 c_r2 c_c0 c_c1 c_c2 c_c3 c_c4 c_c5 c_c6
      go_wp2
      go_ret
      exact ⟨rfl, (by (repeat (first | with_reducible exact Kept.refl _ | with_reducible apply Kept.drew | with_reducible apply Kept.alloc | ((with_reducible apply Kept.set); focus (simp <;> omega)) | ((with_reducible apply Kept.via); focus with_reducible assumption))))⟩
theorem rtoBacks_walk (BC : BaseC) (OC : OfC) (UC : BackC) (AC : AllC) (b : Bool) (m f sg mx fi gn ls gt bu : Int) (w : World) : Calls Try.prog 6 #[.agg #[.bool b, .int .i64 m, .int .i64 f], .agg #[.int .i64 sg, .int .i64 mx, .int .i64 fi, .int .i64 gn, .int .i64 ls, .int .i64 gt, .int .i64 bu]] w fun e w' => e = .returned (.bool true) ∧ Kept w w' := by
  obtain ⟨N, hb⟩ := base_ex b m f gn
  have r := base_range hb
  have g := heldT_range gt
  have q := first_range (n := N) r.1 (heldT_range ls).1 g.1
  refine backs_walk g.1 g.2 (fun k n => 0 ≤ n ∧ n ≤ 40 ∧ (n = k ∨ OfIs b m f gn ls gt n (heldT gt))) ⟨by omega, by omega, Or.inl rfl⟩ (fun k n hk hI => ?_) (fun n hI => ?_) rfl (fun w => awake07 BC OC UC AC w) w
  · obtain ⟨n0, n1, h⟩ := hI
    obtain ⟨v, hv⟩ := of_ex b m f gn ls gt n
    have rv := of_range hv
    by_cases e : v < heldT gt
    · have few := of_few hv e
      have hn : n = k := by
        rcases h with h | h
        · exact h
        · have := of_one hv h; omega
      exact ⟨n + 1, v, n0, n1, ⟨by omega, by omega, Or.inl (by omega)⟩, Or.inr ⟨rfl, e⟩, fun w => UC _ _ _ _ _ _ _ _ _ _ _ _ (by unfold In64; omega) (Or.inr ⟨n0, v, hv, Or.inl ⟨e, rfl⟩⟩) w, fun w => OC _ _ _ _ _ _ _ _ _ _ _ _ (by unfold In64; omega) hv w⟩
    · obtain rfl : v = heldT gt := by omega
      exact ⟨n, _, n0, n1, ⟨n0, n1, Or.inr hv⟩, Or.inl ⟨rfl, rfl⟩, fun w => UC _ _ _ _ _ _ _ _ _ _ _ _ (by unfold In64; omega) (Or.inr ⟨n0, _, hv, Or.inr ⟨rfl, rfl⟩⟩) w, fun w => OC _ _ _ _ _ _ _ _ _ _ _ _ (by unfold In64; omega) hv w⟩
  · obtain ⟨n0, n1, h⟩ := hI
    rcases h with h | h
    · omega
    · exact ⟨n1, fun w => OC _ _ _ _ _ _ _ _ _ _ _ _ (by unfold In64; omega) h w⟩
end Go.Proofs.Ytmdekgcgfcdppaa
