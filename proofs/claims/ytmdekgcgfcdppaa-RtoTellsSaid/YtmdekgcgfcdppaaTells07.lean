/-
  The walk of RtoTells: it answers true, if the calls do what they are to do.
-/
import Derived.Test.YtmdekgcgfcdppaaAwake07
import Derived.Test.YtmdekgcgfcdppaaRef07
import Derived.Deep.DeepCutAuto
namespace Go.Proofs.Ytmdekgcgfcdppaa
open Go.RowKit Go.BigFrame
set_option linter.unusedVariables false

theorem Kept.all2 {w1 w2 : World} {p0 p1 : Addr} {v0 v1 : Value} (k : Kept w1 w2) (h : Hid (w1.cell? p0 = some v0 ∧ w1.cell? p1 = some v1)) : w2.cell? p0 = some v0 ∧ w2.cell? p1 = some v1 := ⟨k.read h.out.1, k.read h.out.2⟩
theorem kw2 {W : World} {p0 p1 : Addr} {v0 v1 : Value} (h : Hid (W.cell? p0 = some v0 ∧ W.cell? p1 = some v1)) : (∀ p : KW W, p.w.cell? p0 = some v0) ∧ (∀ p : KW W, p.w.cell? p1 = some v1) :=
  ⟨fun p => p.k.read h.out.1, fun p => p.k.read h.out.2⟩
set_option maxRecDepth 100000 in
set_option maxHeartbeats 3200000 in
theorem tells7_long (b : Bool) (m f sg mx fi gn ls gt bu : Int) (A : Option Addr) (len cap : Nat) (hl : 100 < len) (hm : len ≤ 9223372036854775807)  (AW : ∀ w, Calls Try.prog 9 #[] w fun e w' => e = .returned (.bool true) ∧ Kept w w') (w : World) : Calls Try.prog 3 #[.agg #[.bool b, .int .i64 m, .int .i64 f], .agg #[.int .i64 sg, .int .i64 mx, .int .i64 fi, .int .i64 gn, .int .i64 ls, .int .i64 gt, .int .i64 bu], .slice A len cap] w fun e w' => e = .returned (.bool true) ∧ Kept w w' := by
  have AW' := Lib.hid AW
  clear AW
  have hd : decide ((100 : Int) < (len : Int)) = true := by simp; omega
  go_enter Try.func3, Try.ntmps3
  go_upto_region 1 with fail
  generalize hW : World.alloc (World.alloc w (.cells #[.bool b, .int .i64 m, .int .i64 f] 23)) (.cells #[.int .i64 sg, .int .i64 mx, .int .i64 fi, .int .i64 gn, .int .i64 ls, .int .i64 gt, .int .i64 bu] 25) = W_p
  have K_p : Kept w W_p := by subst hW; exact ((Kept.refl _).alloc _ _).alloc _ _
  have H_r := Lib.hid (show W_p.cell? ⟨w.heap.size, 0, none⟩ = some (.bool b) ∧ W_p.cell? ⟨w.heap.size, 1, none⟩ = some (.int .i64 m) ∧ W_p.cell? ⟨w.heap.size, 2, none⟩ = some (.int .i64 f) from by subst hW; simp [go_sem])
  have H_c := Lib.hid (show W_p.cell? ⟨w.heap.size + 1, 0, none⟩ = some (.int .i64 sg) ∧ W_p.cell? ⟨w.heap.size + 1, 1, none⟩ = some (.int .i64 mx) ∧ W_p.cell? ⟨w.heap.size + 1, 2, none⟩ = some (.int .i64 fi) ∧ W_p.cell? ⟨w.heap.size + 1, 3, none⟩ = some (.int .i64 gn) ∧ W_p.cell? ⟨w.heap.size + 1, 4, none⟩ = some (.int .i64 ls) ∧ W_p.cell? ⟨w.heap.size + 1, 5, none⟩ = some (.int .i64 gt) ∧ W_p.cell? ⟨w.heap.size + 1, 6, none⟩ = some (.int .i64 bu) from by subst hW; simp [go_sem])
  have lp : w.heap.size + 2 ≤ W_p.heap.size := by subst hW; simp
  clear hW
  generalize hg : w.heap.size = g_r at *
  go_wp2_with fail
  refine (AW'.out _).mono ?_
  rintro e w1 ⟨rfl, k1⟩
  go_wp2
  go_ret
  exact ⟨rfl, (by (repeat (first | with_reducible exact Kept.refl _ | with_reducible apply Kept.drew | with_reducible apply Kept.alloc | ((with_reducible apply Kept.set); focus (simp <;> omega)) | ((with_reducible apply Kept.via); focus with_reducible assumption))))⟩
set_option maxRecDepth 100000 in
set_option maxHeartbeats 3200000 in
theorem tells7_short {b : Bool} {m f sg mx fi gn ls gt bu n : Int} (A : Option Addr) (len cap : Nat) (zs : List Int) (V : Nat → Int) (hl : len ≤ 100) (AL : ∀ w, RowAt w A len (fun j => .int .i64 (zs.getD j 0)) → Calls Try.prog 10 #[.agg #[.bool b, .int .i64 m, .int .i64 f], .agg #[.int .i64 sg, .int .i64 mx, .int .i64 fi, .int .i64 gn, .int .i64 ls, .int .i64 gt, .int .i64 bu], .slice A len cap] w fun e w' => ∃ (B : Option Addr) (c : Nat), e = .returned (.slice B len c) ∧ RowAt w' B len (fun j => .int .i64 (V j)) ∧ Kept w w') (B1 : ∀ w, Calls Try.prog 11 #[.agg #[.bool b, .int .i64 m, .int .i64 f], .agg #[.int .i64 sg, .int .i64 mx, .int .i64 fi, .int .i64 gn, .int .i64 ls, .int .i64 gt, .int .i64 bu]] w fun e w' => e = .returned (.int .i64 n) ∧ Kept w w') (B2 : ∀ w, Calls Try.prog 12 #[.agg #[.bool b, .int .i64 m, .int .i64 f], .agg #[.int .i64 sg, .int .i64 mx, .int .i64 fi, .int .i64 gn, .int .i64 ls, .int .i64 gt, .int .i64 bu]] w fun e w' => e = .returned (.int .i64 n) ∧ Kept w w') (ST : ∀ k, k < len → ∀ z v, zs.getD k 0 = z → V k = v → (∀ w, Calls Try.prog 14 #[.agg #[.bool b, .int .i64 m, .int .i64 f], .agg #[.int .i64 sg, .int .i64 mx, .int .i64 fi, .int .i64 gn, .int .i64 ls, .int .i64 gt, .int .i64 bu], .int .i64 z] w fun e w' => e = .returned (.int .i64 v) ∧ Kept w w') ∧ (∀ w, Calls Try.prog 13 #[.agg #[.bool b, .int .i64 m, .int .i64 f], .agg #[.int .i64 sg, .int .i64 mx, .int .i64 fi, .int .i64 gn, .int .i64 ls, .int .i64 gt, .int .i64 bu], .int .i64 z] w fun e w' => e = .returned (.int .i64 v) ∧ Kept w w') ∧ ∃ u, (∀ w, Calls Try.prog 15 #[.agg #[.bool b, .int .i64 m, .int .i64 f], .agg #[.int .i64 sg, .int .i64 mx, .int .i64 fi, .int .i64 gn, .int .i64 ls, .int .i64 gt, .int .i64 bu], .int .i64 z] w fun e w' => e = .returned (.int .i64 u) ∧ Kept w w') ∧ ∀ w, Calls Try.prog 16 #[.agg #[.bool b, .int .i64 m, .int .i64 f], .agg #[.int .i64 sg, .int .i64 mx, .int .i64 fi, .int .i64 gn, .int .i64 ls, .int .i64 gt, .int .i64 bu], .int .i64 z] w fun e w' => e = .returned (.int .i64 u) ∧ Kept w w') (AW : ∀ w, Calls Try.prog 9 #[] w fun e w' => e = .returned (.bool true) ∧ Kept w w') (w : World) (hr : RowAt w A len (fun j => .int .i64 (zs.getD j 0))) : Calls Try.prog 3 #[.agg #[.bool b, .int .i64 m, .int .i64 f], .agg #[.int .i64 sg, .int .i64 mx, .int .i64 fi, .int .i64 gn, .int .i64 ls, .int .i64 gt, .int .i64 bu], .slice A len cap] w fun e w' => e = .returned (.bool true) ∧ Kept w w' := by
  have AL' := Lib.hid AL
  have B1' := Lib.hid B1
  have B2' := Lib.hid B2
  have ST' := Lib.hid ST
  clear AL B1 B2 ST
  have AW' := Lib.hid AW
  clear AW
  have hd : decide ((100 : Int) < (len : Int)) = false := by simp; omega
  have HR := Lib.hid hr
  clear hr
  go_enter Try.func3, Try.ntmps3
  go_upto_region 1 with fail
  generalize hW : World.alloc (World.alloc w (.cells #[.bool b, .int .i64 m, .int .i64 f] 23)) (.cells #[.int .i64 sg, .int .i64 mx, .int .i64 fi, .int .i64 gn, .int .i64 ls, .int .i64 gt, .int .i64 bu] 25) = W_p
  have K_p : Kept w W_p := by subst hW; exact ((Kept.refl _).alloc _ _).alloc _ _
  have H_r := Lib.hid (show W_p.cell? ⟨w.heap.size, 0, none⟩ = some (.bool b) ∧ W_p.cell? ⟨w.heap.size, 1, none⟩ = some (.int .i64 m) ∧ W_p.cell? ⟨w.heap.size, 2, none⟩ = some (.int .i64 f) from by subst hW; simp [go_sem])
  have H_c := Lib.hid (show W_p.cell? ⟨w.heap.size + 1, 0, none⟩ = some (.int .i64 sg) ∧ W_p.cell? ⟨w.heap.size + 1, 1, none⟩ = some (.int .i64 mx) ∧ W_p.cell? ⟨w.heap.size + 1, 2, none⟩ = some (.int .i64 fi) ∧ W_p.cell? ⟨w.heap.size + 1, 3, none⟩ = some (.int .i64 gn) ∧ W_p.cell? ⟨w.heap.size + 1, 4, none⟩ = some (.int .i64 ls) ∧ W_p.cell? ⟨w.heap.size + 1, 5, none⟩ = some (.int .i64 gt) ∧ W_p.cell? ⟨w.heap.size + 1, 6, none⟩ = some (.int .i64 bu) from by subst hW; simp [go_sem])
  have lp : w.heap.size + 2 ≤ W_p.heap.size := by subst hW; simp
  clear hW
  generalize hg : w.heap.size = g_r at *
  go_wp2_with fail
  refine (AW'.out _).mono ?_
  rintro e w1 ⟨rfl, k1⟩
  obtain ⟨c_r0, c_r1, c_r2⟩ := Kept.all3 (show Kept W_p w1 from (by (repeat (first | with_reducible exact Kept.refl _ | with_reducible apply Kept.drew | with_reducible apply Kept.alloc | ((with_reducible apply Kept.set); focus (simp <;> omega)) | ((with_reducible apply Kept.via); focus with_reducible assumption))))) H_r
  obtain ⟨c_c0, c_c1, c_c2, c_c3, c_c4, c_c5, c_c6⟩ := Kept.all7 (show Kept W_p w1 from (by (repeat (first | with_reducible exact Kept.refl _ | with_reducible apply Kept.drew | with_reducible apply Kept.alloc | ((with_reducible apply Kept.set); focus (simp <;> omega)) | ((with_reducible apply Kept.via); focus with_reducible assumption))))) H_c
  go_wp2_with fail
  refine (AL'.out _ (HR.out.kept (by (repeat (first | with_reducible exact Kept.refl _ | with_reducible apply Kept.drew | with_reducible apply Kept.alloc | ((with_reducible apply Kept.set); focus (simp <;> omega)) | ((with_reducible apply Kept.via); focus with_reducible assumption)))))).mono ?_
  rintro e w2 ⟨B, cb, rfl, hB, k2⟩
  clear c_r0 c_r1 c_r2 c_c0 c_c1 c_c2 c_c3 c_c4 c_c5 c_c6
  have HB := Lib.hid hB
  clear hB
  go_upto_region 5 with fail
  have B_r := Lib.hid (Kept.all3 (show Kept W_p w2 from (by (repeat (first | with_reducible exact Kept.refl _ | with_reducible apply Kept.drew | with_reducible apply Kept.alloc | ((with_reducible apply Kept.set); focus (simp <;> omega)) | ((with_reducible apply Kept.via); focus with_reducible assumption))))) H_r)
  have B_c := Lib.hid (Kept.all7 (show Kept W_p w2 from (by (repeat (first | with_reducible exact Kept.refl _ | with_reducible apply Kept.drew | with_reducible apply Kept.alloc | ((with_reducible apply Kept.set); focus (simp <;> omega)) | ((with_reducible apply Kept.via); focus with_reducible assumption))))) H_c)
  have kall : Kept w w2 := (by (repeat (first | with_reducible exact Kept.refl _ | with_reducible apply Kept.drew | with_reducible apply Kept.alloc | ((with_reducible apply Kept.set); focus (simp <;> omega)) | ((with_reducible apply Kept.via); focus with_reducible assumption))))
  obtain ⟨q_r0, q_r1, q_r2⟩ := kw3 B_r
  obtain ⟨q_c0, q_c1, q_c2, q_c3, q_c4, q_c5, q_c6⟩ := kw7 B_c
  clear B_r B_c
  refine wp_region_kept (by kernel_rfl) (by as_aux_lemma => kernel_rfl) ?_
  repeat (go_big_quiet_step (first | (with_reducible exact kept_of (B1'.out _)) | (with_reducible exact kept_of (B2'.out _))))
  refine wpQuiet_nil ?_
  intro wq hw'
  have kq : Kept w2 wq := by obtain ⟨p, rfl⟩ := hw'; exact p.k
  clear hw'
  clear kall
  have KQ : Kept W_p wq := (by (repeat (first | with_reducible exact Kept.refl _ | with_reducible apply Kept.drew | with_reducible apply Kept.alloc | ((with_reducible apply Kept.set); focus (simp <;> omega)) | ((with_reducible apply Kept.via); focus with_reducible assumption))))
  have HBQ := Lib.hid (HB.out.kept kq)
  go_wp2
  go_loopw [9] (fun i wr => ∃ k : Nat, k ≤ len ∧ i = .int .i64 k ∧ Kept wq wr) (fun i _ => len - (intOf i).toNat)
  case atStart => exact ⟨0, Nat.zero_le _, rfl, Kept.refl _⟩
  case round =>
    obtain ⟨k, hk, rfl, kw⟩ := hrel
    have KW_ := Kept.trans KQ kw
    by_cases hlt : k < len
    · have hltI : (k : Int) < (len : Int) := by omega
      obtain ⟨ba, oa, rfl, hc⟩ := (HR.out.kept (Kept.trans K_p KW_)) (by omega)
      have c1 : wr.cell? ⟨ba, oa + k, none⟩ = some (.int .i64 (zs.getD k 0)) := hc k hlt
      obtain ⟨bb, ob, rfl, hb⟩ := (HBQ.out.kept kw) (by omega)
      have c2 : wr.cell? ⟨bb, ob + k, none⟩ = some (.int .i64 (V k)) := hb k hlt
      clear hc hb
      obtain ⟨S1, S2, u, S3, S4⟩ := ST'.out k hlt _ _ rfl rfl
      generalize zs.getD k 0 = z at *
      generalize V k = v at *
      have S1' := Lib.hid S1
      have S2' := Lib.hid S2
      have S3' := Lib.hid S3
      have S4' := Lib.hid S4
      have H_w := Lib.hid (And.intro c1 c2)
      clear S1 S2 S3 S4 c1 c2
      go_upto_region 10 with fail
      have B1_r := Lib.hid (Kept.all3 (show Kept W_p wr from (by (repeat (first | with_reducible exact Kept.refl _ | with_reducible apply Kept.drew | with_reducible apply Kept.alloc | ((with_reducible apply Kept.set); focus (simp <;> omega)) | ((with_reducible apply Kept.via); focus with_reducible assumption))))) H_r)
      have B1_c := Lib.hid (Kept.all7 (show Kept W_p wr from (by (repeat (first | with_reducible exact Kept.refl _ | with_reducible apply Kept.drew | with_reducible apply Kept.alloc | ((with_reducible apply Kept.set); focus (simp <;> omega)) | ((with_reducible apply Kept.via); focus with_reducible assumption))))) H_c)
      have B1_w := Lib.hid (Kept.all2 (show Kept wr wr from (by (repeat (first | with_reducible exact Kept.refl _ | with_reducible apply Kept.drew | with_reducible apply Kept.alloc | ((with_reducible apply Kept.set); focus (simp <;> omega)) | ((with_reducible apply Kept.via); focus with_reducible assumption))))) H_w)
      have kall1 : Kept w wr := (by (repeat (first | with_reducible exact Kept.refl _ | with_reducible apply Kept.drew | with_reducible apply Kept.alloc | ((with_reducible apply Kept.set); focus (simp <;> omega)) | ((with_reducible apply Kept.via); focus with_reducible assumption))))
      obtain ⟨q1_r0, q1_r1, q1_r2⟩ := kw3 B1_r
      obtain ⟨q1_c0, q1_c1, q1_c2, q1_c3, q1_c4, q1_c5, q1_c6⟩ := kw7 B1_c
      obtain ⟨q1_w0, q1_w1⟩ := kw2 B1_w
      clear B1_r B1_c B1_w
      refine wp_region_kept (by kernel_rfl) (by as_aux_lemma => kernel_rfl) ?_
      repeat (go_big_quiet_step (first | (with_reducible exact kept_of (S2'.out _))))
      refine wpQuiet_nil ?_
      intro wq1 hw'
      have kq1 : Kept wr wq1 := by obtain ⟨p, rfl⟩ := hw'; exact p.k
      clear hw'
      clear kall1
      go_upto_region 11 with fail
      have B2_r := Lib.hid (Kept.all3 (show Kept W_p wq1 from (by (repeat (first | with_reducible exact Kept.refl _ | with_reducible apply Kept.drew | with_reducible apply Kept.alloc | ((with_reducible apply Kept.set); focus (simp <;> omega)) | ((with_reducible apply Kept.via); focus with_reducible assumption))))) H_r)
      have B2_c := Lib.hid (Kept.all7 (show Kept W_p wq1 from (by (repeat (first | with_reducible exact Kept.refl _ | with_reducible apply Kept.drew | with_reducible apply Kept.alloc | ((with_reducible apply Kept.set); focus (simp <;> omega)) | ((with_reducible apply Kept.via); focus with_reducible assumption))))) H_c)
      have B2_w := Lib.hid (Kept.all2 (show Kept wr wq1 from (by (repeat (first | with_reducible exact Kept.refl _ | with_reducible apply Kept.drew | with_reducible apply Kept.alloc | ((with_reducible apply Kept.set); focus (simp <;> omega)) | ((with_reducible apply Kept.via); focus with_reducible assumption))))) H_w)
      have kall2 : Kept w wq1 := (by (repeat (first | with_reducible exact Kept.refl _ | with_reducible apply Kept.drew | with_reducible apply Kept.alloc | ((with_reducible apply Kept.set); focus (simp <;> omega)) | ((with_reducible apply Kept.via); focus with_reducible assumption))))
      obtain ⟨q2_r0, q2_r1, q2_r2⟩ := kw3 B2_r
      obtain ⟨q2_c0, q2_c1, q2_c2, q2_c3, q2_c4, q2_c5, q2_c6⟩ := kw7 B2_c
      obtain ⟨q2_w0, q2_w1⟩ := kw2 B2_w
      clear B2_r B2_c B2_w
      refine wp_region_kept (by kernel_rfl) (by as_aux_lemma => kernel_rfl) ?_
      repeat (go_big_quiet_step (first | (with_reducible exact kept_of (S1'.out _)) | (with_reducible exact kept_of (S3'.out _)) | (with_reducible exact kept_of (S4'.out _))))
      refine wpQuiet_nil ?_
      intro wq2 hw'
      have kq2 : Kept wq1 wq2 := by obtain ⟨p, rfl⟩ := hw'; exact p.k
      clear hw'
      clear kall2
      go_wp2
      go_roundw
      case rel => exact ⟨k + 1, by omega, by go_num, Kept.trans (Kept.trans kw kq1) kq2⟩
      case measure => simp [intOf]; omega
    · obtain rfl : k = len := by omega
      go_wp2
      go_ret
      exact ⟨rfl, Kept.trans K_p KW_⟩
theorem rtoTells_walk (BC : BaseC) (OC : OfC) (UC : BackC) (AC : AllC) (b : Bool) (m f sg mx fi gn ls gt bu : Int) (A : Option Addr) (len cap : Nat) (zs : List Int) (w : World) (hl : zs.length = len) (hz : ∀ n ∈ zs, In64 n) (hm : len ≤ 9223372036854775807) (hr : RowAt w A len (fun j => .int .i64 (zs.getD j 0))) : Calls Try.prog 3 #[.agg #[.bool b, .int .i64 m, .int .i64 f], .agg #[.int .i64 sg, .int .i64 mx, .int .i64 fi, .int .i64 gn, .int .i64 ls, .int .i64 gt, .int .i64 bu], .slice A len cap] w fun e w' => e = .returned (.bool true) ∧ Kept w w' := by
  by_cases h : len ≤ 100
  · obtain ⟨n, hb⟩ := base_ex b m f gn
    have hin : ∀ k, k < len → In64 (zs.getD k 0) := fun k hk => by
      have hk' : k < zs.length := by omega
      have : zs.getD k 0 = zs[k] := by simp [List.getD, hk']
      rw [this]; exact hz _ (List.getElem_mem hk')
    have hv : ∀ z, OfIs b m f gn ls gt z (dblN (heldT gt) (firstOf n (heldT ls) (heldT gt)) z.toNat) := fun z => ⟨n, hb, rfl⟩
    refine tells7_short A len cap zs (fun k => dblN (heldT gt) (firstOf n (heldT ls) (heldT gt)) (zs.getD k 0).toNat) h (fun w hr => AC _ _ _ _ _ _ _ _ _ _ A len cap zs _ (by omega) (fun k hk => ⟨hin k hk, hv _⟩) w hr)
      (fun w => BC _ _ _ _ _ _ _ _ _ _ _ hb w) (fun w => refBase_ok7 hb w) (fun k hk z v ez ev => ?_) (fun w => awake07 BC OC UC AC w) w hr
    subst ez ev
    obtain ⟨u, hu⟩ := back_ex b m f gn ls gt (zs.getD k 0)
    exact ⟨fun w => OC _ _ _ _ _ _ _ _ _ _ _ _ (hin k hk) (hv _) w, fun w => refOf_ok7 (hin k hk) (hv _) w, u, fun w => UC _ _ _ _ _ _ _ _ _ _ _ _ (hin k hk) hu w, fun w => refBack_ok7 (hin k hk) hu w⟩
  · exact tells7_long b m f sg mx fi gn ls gt bu A len cap (by omega) hm (fun w => awake07 BC OC UC AC w) w
end Go.Proofs.Ytmdekgcgfcdppaa
