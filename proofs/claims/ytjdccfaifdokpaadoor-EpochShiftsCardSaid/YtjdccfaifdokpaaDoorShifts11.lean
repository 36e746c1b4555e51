/-
  The walk of EpochShifts: it answers true, if the calls do what they are to do.
-/
import Derived.Test.YtjdccfaifdokpaaDoorAwake11
import Derived.Deep.RegionHeld3
import Derived.Deep.DeepCutAuto
namespace Go.Proofs.YtjdccfaifdokpaaDoor
open Go.RowKit Go.BigFrame
set_option linter.unusedVariables false

theorem shift_off {h : Ep} (d : Int) (o : h.on = false) : shiftE h d = h := by unfold shiftE; rw [if_pos (Or.inl o)]
theorem shift_none {h : Ep} {d : Int} (o : d < 1) : shiftE h d = h := by unfold shiftE; rw [if_pos (Or.inr o)]
theorem shift_on {s f m k es d : Int} (o : 1 ≤ d) : shiftE ⟨true, s, f, m, k, es⟩ d = ⟨true, if 1099511627776 < s + d then 1099511627776 else s + d, f, m, k, es⟩ := by
  unfold shiftE; rw [if_neg (by simp; omega)]
theorem shift_twice (h : Ep) {a b : Int} (ha : 0 ≤ a) (hb : 0 ≤ b) : shiftE (shiftE h a) b = shiftE h (a + b) := by
  obtain ⟨on, s, f, m, k, es⟩ := h
  cases on
  · rw [shift_off _ rfl, shift_off _ rfl, shift_off _ rfl]
  · by_cases x : a < 1
    · obtain rfl : a = 0 := by omega
      rw [shift_none (d := 0) (by omega), Int.zero_add]
    · by_cases y : b < 1
      · obtain rfl : b = 0 := by omega
        rw [Int.add_zero, shift_none (d := 0) (by omega)]
      · rw [shift_on (by omega), shift_on (by omega), shift_on (by omega)]
        congr 1
        repeat' split
        all_goals omega
set_option maxRecDepth 100000 in
set_option maxHeartbeats 1600000 in
theorem shifts11_off_y (CC : ECheckC) (KC_ : EKC) (FC : EFastC) (BC : EBeginC) (SC : EShiftC) {s f m k es a b : Int} {x1 : Ep} (ie : In64E (⟨false, s, f, m, k, es⟩ : Ep)) (i1 : In64E x1) (ix : In64E (⟨false, s, f, m, k, es⟩ : Ep)) (a0 : 0 ≤ a) (a1 : a ≤ 4294967295) (b0 : 0 ≤ b) (b1 : b ≤ 4294967295) (e1 : shiftE (⟨false, s, f, m, k, es⟩ : Ep) a = x1) (e2 : shiftE x1 b = (⟨false, s, f, m, k, es⟩ : Ep)) (e3 : shiftE (⟨false, s, f, m, k, es⟩ : Ep) (a + b) = (⟨false, s, f, m, k, es⟩ : Ep)) (ve : true = true ↔ MayE (⟨false, s, f, m, k, es⟩ : Ep)) (vx : MayE (⟨false, s, f, m, k, es⟩ : Ep) → MayE (⟨false, s, f, m, k, es⟩ : Ep)) (w : World) (T_ : Tens w) : Calls Tryd.prog 8 #[.agg #[.bool false, .int .i64 s, .int .i64 f, .int .i64 m, .int .i64 k, .int .i64 es], .int .u32 a, .int .u32 b] w fun e w' => e = .returned (.bool true) ∧ Kept w w' := by
  have CC' := Lib.hid CC
  have KC' := Lib.hid KC_
  have FC' := Lib.hid FC
  have BC' := Lib.hid BC
  have SC' := Lib.hid SC
  have AW' := Lib.hid (fun w TT_ => awake11 CC KC_ FC BC SC w TT_)
  clear CC KC_ FC BC SC
  have T := Lib.hid T_
  clear T_
  have IE := Lib.hid ie
  have I1 := Lib.hid i1
  have IX := Lib.hid ix
  have E1 := Lib.hid e1
  have E2 := Lib.hid e2
  have E3 := Lib.hid e3
  have QV := Lib.hid (fun w TT_ => CC'.out (⟨false, s, f, m, k, es⟩ : Ep) true ie ve w TT_)
  have QX := Lib.hid (fun w TT_ => CC'.out (⟨false, s, f, m, k, es⟩ : Ep) true ix ⟨fun _ => vx (ve.1 rfl), fun _ => rfl⟩ w TT_)
  have IA := Lib.hid (show In64 a from by unfold In64; omega)
  have IB := Lib.hid (show In64 b from by unfold In64; omega)
  have IC := Lib.hid (show In64 (a + b) from by unfold In64; omega)
  clear ie i1 ix e1 e2 e3 ve vx
  go_enter Tryd.func8, Tryd.ntmps8
  go_upto_region 1 with fail
  generalize hW : World.alloc w (.cells #[.bool false, .int .i64 s, .int .i64 f, .int .i64 m, .int .i64 k, .int .i64 es] 23) = W0
  have KW0 : Kept w W0 := by subst hW; exact (Kept.refl _).alloc _ _
  have RW0 := Lib.hid (show RE W0 w.heap.size (⟨false, s, f, m, k, es⟩ : Ep) from by subst hW; exact re_new w (⟨false, s, f, m, k, es⟩ : Ep) _)
  have LW0 : w.heap.size < W0.heap.size := by subst hW; simp
  clear hW
  generalize hgW0 : w.heap.size = gW0 at *
  go_wp2_with fail
  refine (AW'.out _ (Tens.kept T.out (by (repeat (first | with_reducible exact Kept.refl _ | with_reducible apply Kept.drew | with_reducible apply Kept.alloc | ((with_reducible apply Kept.set); focus (simp <;> omega)) | ((with_reducible apply Kept.via); focus with_reducible assumption)))))).mono ?_
  rintro e w1 ⟨rfl, k1⟩
  have k0 := Kept.trans KW0 k1
  have R1 := Lib.hid (RW0.out.kept k1)
  clear RW0 KW0 k1
  obtain ⟨c0, c1, c2, c3, c4, c5⟩ := (show w1.cell? ⟨gW0, 0, none⟩ = some (.bool false) ∧ w1.cell? ⟨gW0, 1, none⟩ = some (.int .i64 s) ∧ w1.cell? ⟨gW0, 2, none⟩ = some (.int .i64 f) ∧ w1.cell? ⟨gW0, 3, none⟩ = some (.int .i64 m) ∧ w1.cell? ⟨gW0, 4, none⟩ = some (.int .i64 k) ∧ w1.cell? ⟨gW0, 5, none⟩ = some (.int .i64 es) from (R1.out).1)
  go_wp2_with fail
  refine (SC'.out (⟨false, s, f, m, k, es⟩ : Ep) x1 a IE.out IA.out E1.out _).mono ?_
  rintro e w2 ⟨rfl, k2⟩
  clear c0 c1 c2 c3 c4 c5
  go_wp2_with fail
  refine (SC'.out x1 (⟨false, s, f, m, k, es⟩ : Ep) b I1.out IB.out E2.out _).mono ?_
  rintro e w3 ⟨rfl, k3⟩
  go_upto_region 3 with fail
  generalize hW : World.alloc w3 (.cells #[.bool false, .int .i64 s, .int .i64 f, .int .i64 m, .int .i64 k, .int .i64 es] 23) = Wx
  have KWx : Kept w3 Wx := by subst hW; exact (Kept.refl _).alloc _ _
  have RWx := Lib.hid (show RE Wx w3.heap.size (⟨false, s, f, m, k, es⟩ : Ep) from by subst hW; exact re_new w3 (⟨false, s, f, m, k, es⟩ : Ep) _)
  have LWx : w3.heap.size < Wx.heap.size := by subst hW; simp
  clear hW
  generalize hgWx : w3.heap.size = gWx at *
  have kx := Kept.trans (Kept.trans k2 k3) KWx
  have R2 := Lib.hid (R1.out.kept kx)
  have k4 := Kept.trans k0 kx
  clear R1 k0 kx k2 k3 KWx
  obtain ⟨c0, c1, c2, c3, c4, c5⟩ := (show Wx.cell? ⟨gW0, 0, none⟩ = some (.bool false) ∧ Wx.cell? ⟨gW0, 1, none⟩ = some (.int .i64 s) ∧ Wx.cell? ⟨gW0, 2, none⟩ = some (.int .i64 f) ∧ Wx.cell? ⟨gW0, 3, none⟩ = some (.int .i64 m) ∧ Wx.cell? ⟨gW0, 4, none⟩ = some (.int .i64 k) ∧ Wx.cell? ⟨gW0, 5, none⟩ = some (.int .i64 es) from (R2.out).1)
  go_wp2_with fail
  refine (SC'.out (⟨false, s, f, m, k, es⟩ : Ep) (⟨false, s, f, m, k, es⟩ : Ep) (a + b) IE.out IC.out E3.out _).mono ?_
  rintro e w5 ⟨rfl, k5⟩
  clear c0 c1 c2 c3 c4 c5
  go_upto_region 4 with fail
  generalize hW : World.alloc w5 (.cells #[.bool false, .int .i64 s, .int .i64 f, .int .i64 m, .int .i64 k, .int .i64 es] 23) = Wy
  have KWy : Kept w5 Wy := by subst hW; exact (Kept.refl _).alloc _ _
  have RWy := Lib.hid (show RE Wy w5.heap.size (⟨false, s, f, m, k, es⟩ : Ep) from by subst hW; exact re_new w5 (⟨false, s, f, m, k, es⟩ : Ep) _)
  have LWy : w5.heap.size < Wy.heap.size := by subst hW; simp
  clear hW
  generalize hgWy : w5.heap.size = gWy at *
  have ky := Kept.trans k5 KWy
  have R3 := Lib.hid (R2.out.kept ky)
  have X3 := Lib.hid (RWx.out.kept ky)
  have k6 := Kept.trans k4 ky
  have l1 := R3.out.ne
  have l2 := X3.out.ne
  clear R2 k4 ky k5 KWy RWx
  obtain ⟨c0, c1, c2, c3, c4, c5⟩ := (show Wy.cell? ⟨gW0, 0, none⟩ = some (.bool false) ∧ Wy.cell? ⟨gW0, 1, none⟩ = some (.int .i64 s) ∧ Wy.cell? ⟨gW0, 2, none⟩ = some (.int .i64 f) ∧ Wy.cell? ⟨gW0, 3, none⟩ = some (.int .i64 m) ∧ Wy.cell? ⟨gW0, 4, none⟩ = some (.int .i64 k) ∧ Wy.cell? ⟨gW0, 5, none⟩ = some (.int .i64 es) from (R3.out).1)
  obtain ⟨d0, d1, d2, d3, d4, d5⟩ := (show Wy.cell? ⟨gWx, 0, none⟩ = some (.bool false) ∧ Wy.cell? ⟨gWx, 1, none⟩ = some (.int .i64 s) ∧ Wy.cell? ⟨gWx, 2, none⟩ = some (.int .i64 f) ∧ Wy.cell? ⟨gWx, 3, none⟩ = some (.int .i64 m) ∧ Wy.cell? ⟨gWx, 4, none⟩ = some (.int .i64 k) ∧ Wy.cell? ⟨gWx, 5, none⟩ = some (.int .i64 es) from (X3.out).1)
  go_upto_region 6 with fail
  generalize hW : World.alloc Wy (.cells #[.bool false, .int .i64 s, .int .i64 f, .int .i64 m, .int .i64 k, .int .i64 es] 23) = Wz
  have KWz : Kept Wy Wz := by subst hW; exact (Kept.refl _).alloc _ _
  have RWz := Lib.hid (show RE Wz Wy.heap.size (⟨false, s, f, m, k, es⟩ : Ep) from by subst hW; exact re_new Wy (⟨false, s, f, m, k, es⟩ : Ep) _)
  have LWz : Wy.heap.size < Wz.heap.size := by subst hW; simp
  clear hW
  generalize hgWz : Wy.heap.size = gWz at *
  clear c0 c1 c2 c3 c4 c5 d0 d1 d2 d3 d4 d5
  have R4 := Lib.hid (R3.out.kept KWz)
  have X4 := Lib.hid (X3.out.kept KWz)
  have Y4 := Lib.hid (RWy.out.kept KWz)
  have k7 := Kept.trans k6 KWz
  clear R3 X3 RWy k6 KWz
  obtain ⟨c0, c1, c2, c3, c4, c5⟩ := (show Wz.cell? ⟨gW0, 0, none⟩ = some (.bool false) ∧ Wz.cell? ⟨gW0, 1, none⟩ = some (.int .i64 s) ∧ Wz.cell? ⟨gW0, 2, none⟩ = some (.int .i64 f) ∧ Wz.cell? ⟨gW0, 3, none⟩ = some (.int .i64 m) ∧ Wz.cell? ⟨gW0, 4, none⟩ = some (.int .i64 k) ∧ Wz.cell? ⟨gW0, 5, none⟩ = some (.int .i64 es) from (R4.out).1)
  obtain ⟨d0, d1, d2, d3, d4, d5⟩ := (show Wz.cell? ⟨gWx, 0, none⟩ = some (.bool false) ∧ Wz.cell? ⟨gWx, 1, none⟩ = some (.int .i64 s) ∧ Wz.cell? ⟨gWx, 2, none⟩ = some (.int .i64 f) ∧ Wz.cell? ⟨gWx, 3, none⟩ = some (.int .i64 m) ∧ Wz.cell? ⟨gWx, 4, none⟩ = some (.int .i64 k) ∧ Wz.cell? ⟨gWx, 5, none⟩ = some (.int .i64 es) from (X4.out).1)
  obtain ⟨f0, f1, f2, f3, f4, f5⟩ := (show Wz.cell? ⟨gWy, 0, none⟩ = some (.bool false) ∧ Wz.cell? ⟨gWy, 1, none⟩ = some (.int .i64 s) ∧ Wz.cell? ⟨gWy, 2, none⟩ = some (.int .i64 f) ∧ Wz.cell? ⟨gWy, 3, none⟩ = some (.int .i64 m) ∧ Wz.cell? ⟨gWy, 4, none⟩ = some (.int .i64 k) ∧ Wz.cell? ⟨gWy, 5, none⟩ = some (.int .i64 es) from (Y4.out).1)
  obtain ⟨z0, z1, z2, z3, z4, z5⟩ := (show Wz.cell? ⟨gWz, 0, none⟩ = some (.bool false) ∧ Wz.cell? ⟨gWz, 1, none⟩ = some (.int .i64 s) ∧ Wz.cell? ⟨gWz, 2, none⟩ = some (.int .i64 f) ∧ Wz.cell? ⟨gWz, 3, none⟩ = some (.int .i64 m) ∧ Wz.cell? ⟨gWz, 4, none⟩ = some (.int .i64 k) ∧ Wz.cell? ⟨gWz, 5, none⟩ = some (.int .i64 es) from (RWz.out).1)
  go_wp2_with fail
  refine (QV.out _ (Tens.kept T.out (by (repeat (first | with_reducible exact Kept.refl _ | with_reducible apply Kept.drew | with_reducible apply Kept.alloc | ((with_reducible apply Kept.set); focus (simp <;> omega)) | ((with_reducible apply Kept.via); focus with_reducible assumption)))))).mono ?_
  rintro e w8 ⟨rfl, k8⟩
  clear c0 c1 c2 c3 c4 c5 d0 d1 d2 d3 d4 d5 f0 f1 f2 f3 f4 f5 z0 z1 z2 z3 z4 z5
  have R4_ := Lib.hid (R4.out.kept k8)
  have X4_ := Lib.hid (X4.out.kept k8)
  have Y4_ := Lib.hid (Y4.out.kept k8)
  have RWz_ := Lib.hid (RWz.out.kept k8)
  clear R4 X4 Y4 RWz
  obtain ⟨c0, c1, c2, c3, c4, c5⟩ := (show w8.cell? ⟨gW0, 0, none⟩ = some (.bool false) ∧ w8.cell? ⟨gW0, 1, none⟩ = some (.int .i64 s) ∧ w8.cell? ⟨gW0, 2, none⟩ = some (.int .i64 f) ∧ w8.cell? ⟨gW0, 3, none⟩ = some (.int .i64 m) ∧ w8.cell? ⟨gW0, 4, none⟩ = some (.int .i64 k) ∧ w8.cell? ⟨gW0, 5, none⟩ = some (.int .i64 es) from (R4_.out).1)
  obtain ⟨d0, d1, d2, d3, d4, d5⟩ := (show w8.cell? ⟨gWx, 0, none⟩ = some (.bool false) ∧ w8.cell? ⟨gWx, 1, none⟩ = some (.int .i64 s) ∧ w8.cell? ⟨gWx, 2, none⟩ = some (.int .i64 f) ∧ w8.cell? ⟨gWx, 3, none⟩ = some (.int .i64 m) ∧ w8.cell? ⟨gWx, 4, none⟩ = some (.int .i64 k) ∧ w8.cell? ⟨gWx, 5, none⟩ = some (.int .i64 es) from (X4_.out).1)
  obtain ⟨f0, f1, f2, f3, f4, f5⟩ := (show w8.cell? ⟨gWy, 0, none⟩ = some (.bool false) ∧ w8.cell? ⟨gWy, 1, none⟩ = some (.int .i64 s) ∧ w8.cell? ⟨gWy, 2, none⟩ = some (.int .i64 f) ∧ w8.cell? ⟨gWy, 3, none⟩ = some (.int .i64 m) ∧ w8.cell? ⟨gWy, 4, none⟩ = some (.int .i64 k) ∧ w8.cell? ⟨gWy, 5, none⟩ = some (.int .i64 es) from (Y4_.out).1)
  obtain ⟨z0, z1, z2, z3, z4, z5⟩ := (show w8.cell? ⟨gWz, 0, none⟩ = some (.bool false) ∧ w8.cell? ⟨gWz, 1, none⟩ = some (.int .i64 s) ∧ w8.cell? ⟨gWz, 2, none⟩ = some (.int .i64 f) ∧ w8.cell? ⟨gWz, 3, none⟩ = some (.int .i64 m) ∧ w8.cell? ⟨gWz, 4, none⟩ = some (.int .i64 k) ∧ w8.cell? ⟨gWz, 5, none⟩ = some (.int .i64 es) from (RWz_.out).1)
  go_wp2_with fail
  refine (QX.out _ (Tens.kept T.out (by (repeat (first | with_reducible exact Kept.refl _ | with_reducible apply Kept.drew | with_reducible apply Kept.alloc | ((with_reducible apply Kept.set); focus (simp <;> omega)) | ((with_reducible apply Kept.via); focus with_reducible assumption)))))).mono ?_
  rintro e w9 ⟨rfl, k9⟩
  clear c0 c1 c2 c3 c4 c5 d0 d1 d2 d3 d4 d5 f0 f1 f2 f3 f4 f5 z0 z1 z2 z3 z4 z5
  have R4__ := Lib.hid (R4_.out.kept k9)
  have X4__ := Lib.hid (X4_.out.kept k9)
  have Y4__ := Lib.hid (Y4_.out.kept k9)
  have RWz__ := Lib.hid (RWz_.out.kept k9)
  clear R4_ X4_ Y4_ RWz_
  obtain ⟨c0, c1, c2, c3, c4, c5⟩ := (show w9.cell? ⟨gW0, 0, none⟩ = some (.bool false) ∧ w9.cell? ⟨gW0, 1, none⟩ = some (.int .i64 s) ∧ w9.cell? ⟨gW0, 2, none⟩ = some (.int .i64 f) ∧ w9.cell? ⟨gW0, 3, none⟩ = some (.int .i64 m) ∧ w9.cell? ⟨gW0, 4, none⟩ = some (.int .i64 k) ∧ w9.cell? ⟨gW0, 5, none⟩ = some (.int .i64 es) from (R4__.out).1)
  obtain ⟨d0, d1, d2, d3, d4, d5⟩ := (show w9.cell? ⟨gWx, 0, none⟩ = some (.bool false) ∧ w9.cell? ⟨gWx, 1, none⟩ = some (.int .i64 s) ∧ w9.cell? ⟨gWx, 2, none⟩ = some (.int .i64 f) ∧ w9.cell? ⟨gWx, 3, none⟩ = some (.int .i64 m) ∧ w9.cell? ⟨gWx, 4, none⟩ = some (.int .i64 k) ∧ w9.cell? ⟨gWx, 5, none⟩ = some (.int .i64 es) from (X4__.out).1)
  obtain ⟨f0, f1, f2, f3, f4, f5⟩ := (show w9.cell? ⟨gWy, 0, none⟩ = some (.bool false) ∧ w9.cell? ⟨gWy, 1, none⟩ = some (.int .i64 s) ∧ w9.cell? ⟨gWy, 2, none⟩ = some (.int .i64 f) ∧ w9.cell? ⟨gWy, 3, none⟩ = some (.int .i64 m) ∧ w9.cell? ⟨gWy, 4, none⟩ = some (.int .i64 k) ∧ w9.cell? ⟨gWy, 5, none⟩ = some (.int .i64 es) from (Y4__.out).1)
  obtain ⟨z0, z1, z2, z3, z4, z5⟩ := (show w9.cell? ⟨gWz, 0, none⟩ = some (.bool false) ∧ w9.cell? ⟨gWz, 1, none⟩ = some (.int .i64 s) ∧ w9.cell? ⟨gWz, 2, none⟩ = some (.int .i64 f) ∧ w9.cell? ⟨gWz, 3, none⟩ = some (.int .i64 m) ∧ w9.cell? ⟨gWz, 4, none⟩ = some (.int .i64 k) ∧ w9.cell? ⟨gWz, 5, none⟩ = some (.int .i64 es) from (RWz__.out).1)
  go_wp2
  go_ret
  exact ⟨rfl, (by (repeat (first | with_reducible exact Kept.refl _ | with_reducible apply Kept.drew | with_reducible apply Kept.alloc | ((with_reducible apply Kept.set); focus (simp <;> omega)) | ((with_reducible apply Kept.via); focus with_reducible assumption))))⟩
set_option maxRecDepth 100000 in
set_option maxHeartbeats 1600000 in
theorem shifts11_off_n (CC : ECheckC) (KC_ : EKC) (FC : EFastC) (BC : EBeginC) (SC : EShiftC) {s f m k es a b : Int} {x1 : Ep} (ie : In64E (⟨false, s, f, m, k, es⟩ : Ep)) (i1 : In64E x1) (ix : In64E (⟨false, s, f, m, k, es⟩ : Ep)) (a0 : 0 ≤ a) (a1 : a ≤ 4294967295) (b0 : 0 ≤ b) (b1 : b ≤ 4294967295) (e1 : shiftE (⟨false, s, f, m, k, es⟩ : Ep) a = x1) (e2 : shiftE x1 b = (⟨false, s, f, m, k, es⟩ : Ep)) (e3 : shiftE (⟨false, s, f, m, k, es⟩ : Ep) (a + b) = (⟨false, s, f, m, k, es⟩ : Ep)) (ve : false = true ↔ MayE (⟨false, s, f, m, k, es⟩ : Ep)) (vx : MayE (⟨false, s, f, m, k, es⟩ : Ep) → MayE (⟨false, s, f, m, k, es⟩ : Ep)) (w : World) (T_ : Tens w) : Calls Tryd.prog 8 #[.agg #[.bool false, .int .i64 s, .int .i64 f, .int .i64 m, .int .i64 k, .int .i64 es], .int .u32 a, .int .u32 b] w fun e w' => e = .returned (.bool true) ∧ Kept w w' := by
  have CC' := Lib.hid CC
  have KC' := Lib.hid KC_
  have FC' := Lib.hid FC
  have BC' := Lib.hid BC
  have SC' := Lib.hid SC
  have AW' := Lib.hid (fun w TT_ => awake11 CC KC_ FC BC SC w TT_)
  clear CC KC_ FC BC SC
  have T := Lib.hid T_
  clear T_
  have IE := Lib.hid ie
  have I1 := Lib.hid i1
  have IX := Lib.hid ix
  have E1 := Lib.hid e1
  have E2 := Lib.hid e2
  have E3 := Lib.hid e3
  have QV := Lib.hid (fun w TT_ => CC'.out (⟨false, s, f, m, k, es⟩ : Ep) false ie ve w TT_)
  have IA := Lib.hid (show In64 a from by unfold In64; omega)
  have IB := Lib.hid (show In64 b from by unfold In64; omega)
  have IC := Lib.hid (show In64 (a + b) from by unfold In64; omega)
  clear ie i1 ix e1 e2 e3 ve vx
  go_enter Tryd.func8, Tryd.ntmps8
  go_upto_region 1 with fail
  generalize hW : World.alloc w (.cells #[.bool false, .int .i64 s, .int .i64 f, .int .i64 m, .int .i64 k, .int .i64 es] 23) = W0
  have KW0 : Kept w W0 := by subst hW; exact (Kept.refl _).alloc _ _
  have RW0 := Lib.hid (show RE W0 w.heap.size (⟨false, s, f, m, k, es⟩ : Ep) from by subst hW; exact re_new w (⟨false, s, f, m, k, es⟩ : Ep) _)
  have LW0 : w.heap.size < W0.heap.size := by subst hW; simp
  clear hW
  generalize hgW0 : w.heap.size = gW0 at *
  go_wp2_with fail
  refine (AW'.out _ (Tens.kept T.out (by (repeat (first | with_reducible exact Kept.refl _ | with_reducible apply Kept.drew | with_reducible apply Kept.alloc | ((with_reducible apply Kept.set); focus (simp <;> omega)) | ((with_reducible apply Kept.via); focus with_reducible assumption)))))).mono ?_
  rintro e w1 ⟨rfl, k1⟩
  have k0 := Kept.trans KW0 k1
  have R1 := Lib.hid (RW0.out.kept k1)
  clear RW0 KW0 k1
  obtain ⟨c0, c1, c2, c3, c4, c5⟩ := (show w1.cell? ⟨gW0, 0, none⟩ = some (.bool false) ∧ w1.cell? ⟨gW0, 1, none⟩ = some (.int .i64 s) ∧ w1.cell? ⟨gW0, 2, none⟩ = some (.int .i64 f) ∧ w1.cell? ⟨gW0, 3, none⟩ = some (.int .i64 m) ∧ w1.cell? ⟨gW0, 4, none⟩ = some (.int .i64 k) ∧ w1.cell? ⟨gW0, 5, none⟩ = some (.int .i64 es) from (R1.out).1)
  go_wp2_with fail
  refine (SC'.out (⟨false, s, f, m, k, es⟩ : Ep) x1 a IE.out IA.out E1.out _).mono ?_
  rintro e w2 ⟨rfl, k2⟩
  clear c0 c1 c2 c3 c4 c5
  go_wp2_with fail
  refine (SC'.out x1 (⟨false, s, f, m, k, es⟩ : Ep) b I1.out IB.out E2.out _).mono ?_
  rintro e w3 ⟨rfl, k3⟩
  go_upto_region 3 with fail
  generalize hW : World.alloc w3 (.cells #[.bool false, .int .i64 s, .int .i64 f, .int .i64 m, .int .i64 k, .int .i64 es] 23) = Wx
  have KWx : Kept w3 Wx := by subst hW; exact (Kept.refl _).alloc _ _
  have RWx := Lib.hid (show RE Wx w3.heap.size (⟨false, s, f, m, k, es⟩ : Ep) from by subst hW; exact re_new w3 (⟨false, s, f, m, k, es⟩ : Ep) _)
  have LWx : w3.heap.size < Wx.heap.size := by subst hW; simp
  clear hW
  generalize hgWx : w3.heap.size = gWx at *
  have kx := Kept.trans (Kept.trans k2 k3) KWx
  have R2 := Lib.hid (R1.out.kept kx)
  have k4 := Kept.trans k0 kx
  clear R1 k0 kx k2 k3 KWx
  obtain ⟨c0, c1, c2, c3, c4, c5⟩ := (show Wx.cell? ⟨gW0, 0, none⟩ = some (.bool false) ∧ Wx.cell? ⟨gW0, 1, none⟩ = some (.int .i64 s) ∧ Wx.cell? ⟨gW0, 2, none⟩ = some (.int .i64 f) ∧ Wx.cell? ⟨gW0, 3, none⟩ = some (.int .i64 m) ∧ Wx.cell? ⟨gW0, 4, none⟩ = some (.int .i64 k) ∧ Wx.cell? ⟨gW0, 5, none⟩ = some (.int .i64 es) from (R2.out).1)
  go_wp2_with fail
  refine (SC'.out (⟨false, s, f, m, k, es⟩ : Ep) (⟨false, s, f, m, k, es⟩ : Ep) (a + b) IE.out IC.out E3.out _).mono ?_
  rintro e w5 ⟨rfl, k5⟩
  clear c0 c1 c2 c3 c4 c5
  go_upto_region 4 with fail
  generalize hW : World.alloc w5 (.cells #[.bool false, .int .i64 s, .int .i64 f, .int .i64 m, .int .i64 k, .int .i64 es] 23) = Wy
  have KWy : Kept w5 Wy := by subst hW; exact (Kept.refl _).alloc _ _
  have RWy := Lib.hid (show RE Wy w5.heap.size (⟨false, s, f, m, k, es⟩ : Ep) from by subst hW; exact re_new w5 (⟨false, s, f, m, k, es⟩ : Ep) _)
  have LWy : w5.heap.size < Wy.heap.size := by subst hW; simp
  clear hW
  generalize hgWy : w5.heap.size = gWy at *
  have ky := Kept.trans k5 KWy
  have R3 := Lib.hid (R2.out.kept ky)
  have X3 := Lib.hid (RWx.out.kept ky)
  have k6 := Kept.trans k4 ky
  have l1 := R3.out.ne
  have l2 := X3.out.ne
  clear R2 k4 ky k5 KWy RWx
  obtain ⟨c0, c1, c2, c3, c4, c5⟩ := (show Wy.cell? ⟨gW0, 0, none⟩ = some (.bool false) ∧ Wy.cell? ⟨gW0, 1, none⟩ = some (.int .i64 s) ∧ Wy.cell? ⟨gW0, 2, none⟩ = some (.int .i64 f) ∧ Wy.cell? ⟨gW0, 3, none⟩ = some (.int .i64 m) ∧ Wy.cell? ⟨gW0, 4, none⟩ = some (.int .i64 k) ∧ Wy.cell? ⟨gW0, 5, none⟩ = some (.int .i64 es) from (R3.out).1)
  obtain ⟨d0, d1, d2, d3, d4, d5⟩ := (show Wy.cell? ⟨gWx, 0, none⟩ = some (.bool false) ∧ Wy.cell? ⟨gWx, 1, none⟩ = some (.int .i64 s) ∧ Wy.cell? ⟨gWx, 2, none⟩ = some (.int .i64 f) ∧ Wy.cell? ⟨gWx, 3, none⟩ = some (.int .i64 m) ∧ Wy.cell? ⟨gWx, 4, none⟩ = some (.int .i64 k) ∧ Wy.cell? ⟨gWx, 5, none⟩ = some (.int .i64 es) from (X3.out).1)
  go_upto_region 6 with fail
  generalize hW : World.alloc Wy (.cells #[.bool false, .int .i64 s, .int .i64 f, .int .i64 m, .int .i64 k, .int .i64 es] 23) = Wz
  have KWz : Kept Wy Wz := by subst hW; exact (Kept.refl _).alloc _ _
  have RWz := Lib.hid (show RE Wz Wy.heap.size (⟨false, s, f, m, k, es⟩ : Ep) from by subst hW; exact re_new Wy (⟨false, s, f, m, k, es⟩ : Ep) _)
  have LWz : Wy.heap.size < Wz.heap.size := by subst hW; simp
  clear hW
  generalize hgWz : Wy.heap.size = gWz at *
  clear c0 c1 c2 c3 c4 c5 d0 d1 d2 d3 d4 d5
  have R4 := Lib.hid (R3.out.kept KWz)
  have X4 := Lib.hid (X3.out.kept KWz)
  have Y4 := Lib.hid (RWy.out.kept KWz)
  have k7 := Kept.trans k6 KWz
  clear R3 X3 RWy k6 KWz
  obtain ⟨c0, c1, c2, c3, c4, c5⟩ := (show Wz.cell? ⟨gW0, 0, none⟩ = some (.bool false) ∧ Wz.cell? ⟨gW0, 1, none⟩ = some (.int .i64 s) ∧ Wz.cell? ⟨gW0, 2, none⟩ = some (.int .i64 f) ∧ Wz.cell? ⟨gW0, 3, none⟩ = some (.int .i64 m) ∧ Wz.cell? ⟨gW0, 4, none⟩ = some (.int .i64 k) ∧ Wz.cell? ⟨gW0, 5, none⟩ = some (.int .i64 es) from (R4.out).1)
  obtain ⟨d0, d1, d2, d3, d4, d5⟩ := (show Wz.cell? ⟨gWx, 0, none⟩ = some (.bool false) ∧ Wz.cell? ⟨gWx, 1, none⟩ = some (.int .i64 s) ∧ Wz.cell? ⟨gWx, 2, none⟩ = some (.int .i64 f) ∧ Wz.cell? ⟨gWx, 3, none⟩ = some (.int .i64 m) ∧ Wz.cell? ⟨gWx, 4, none⟩ = some (.int .i64 k) ∧ Wz.cell? ⟨gWx, 5, none⟩ = some (.int .i64 es) from (X4.out).1)
  obtain ⟨f0, f1, f2, f3, f4, f5⟩ := (show Wz.cell? ⟨gWy, 0, none⟩ = some (.bool false) ∧ Wz.cell? ⟨gWy, 1, none⟩ = some (.int .i64 s) ∧ Wz.cell? ⟨gWy, 2, none⟩ = some (.int .i64 f) ∧ Wz.cell? ⟨gWy, 3, none⟩ = some (.int .i64 m) ∧ Wz.cell? ⟨gWy, 4, none⟩ = some (.int .i64 k) ∧ Wz.cell? ⟨gWy, 5, none⟩ = some (.int .i64 es) from (Y4.out).1)
  obtain ⟨z0, z1, z2, z3, z4, z5⟩ := (show Wz.cell? ⟨gWz, 0, none⟩ = some (.bool false) ∧ Wz.cell? ⟨gWz, 1, none⟩ = some (.int .i64 s) ∧ Wz.cell? ⟨gWz, 2, none⟩ = some (.int .i64 f) ∧ Wz.cell? ⟨gWz, 3, none⟩ = some (.int .i64 m) ∧ Wz.cell? ⟨gWz, 4, none⟩ = some (.int .i64 k) ∧ Wz.cell? ⟨gWz, 5, none⟩ = some (.int .i64 es) from (RWz.out).1)
  go_wp2_with fail
  refine (QV.out _ (Tens.kept T.out (by (repeat (first | with_reducible exact Kept.refl _ | with_reducible apply Kept.drew | with_reducible apply Kept.alloc | ((with_reducible apply Kept.set); focus (simp <;> omega)) | ((with_reducible apply Kept.via); focus with_reducible assumption)))))).mono ?_
  rintro e w8 ⟨rfl, k8⟩
  clear c0 c1 c2 c3 c4 c5 d0 d1 d2 d3 d4 d5 f0 f1 f2 f3 f4 f5 z0 z1 z2 z3 z4 z5
  have R4_ := Lib.hid (R4.out.kept k8)
  have X4_ := Lib.hid (X4.out.kept k8)
  have Y4_ := Lib.hid (Y4.out.kept k8)
  have RWz_ := Lib.hid (RWz.out.kept k8)
  clear R4 X4 Y4 RWz
  obtain ⟨c0, c1, c2, c3, c4, c5⟩ := (show w8.cell? ⟨gW0, 0, none⟩ = some (.bool false) ∧ w8.cell? ⟨gW0, 1, none⟩ = some (.int .i64 s) ∧ w8.cell? ⟨gW0, 2, none⟩ = some (.int .i64 f) ∧ w8.cell? ⟨gW0, 3, none⟩ = some (.int .i64 m) ∧ w8.cell? ⟨gW0, 4, none⟩ = some (.int .i64 k) ∧ w8.cell? ⟨gW0, 5, none⟩ = some (.int .i64 es) from (R4_.out).1)
  obtain ⟨d0, d1, d2, d3, d4, d5⟩ := (show w8.cell? ⟨gWx, 0, none⟩ = some (.bool false) ∧ w8.cell? ⟨gWx, 1, none⟩ = some (.int .i64 s) ∧ w8.cell? ⟨gWx, 2, none⟩ = some (.int .i64 f) ∧ w8.cell? ⟨gWx, 3, none⟩ = some (.int .i64 m) ∧ w8.cell? ⟨gWx, 4, none⟩ = some (.int .i64 k) ∧ w8.cell? ⟨gWx, 5, none⟩ = some (.int .i64 es) from (X4_.out).1)
  obtain ⟨f0, f1, f2, f3, f4, f5⟩ := (show w8.cell? ⟨gWy, 0, none⟩ = some (.bool false) ∧ w8.cell? ⟨gWy, 1, none⟩ = some (.int .i64 s) ∧ w8.cell? ⟨gWy, 2, none⟩ = some (.int .i64 f) ∧ w8.cell? ⟨gWy, 3, none⟩ = some (.int .i64 m) ∧ w8.cell? ⟨gWy, 4, none⟩ = some (.int .i64 k) ∧ w8.cell? ⟨gWy, 5, none⟩ = some (.int .i64 es) from (Y4_.out).1)
  obtain ⟨z0, z1, z2, z3, z4, z5⟩ := (show w8.cell? ⟨gWz, 0, none⟩ = some (.bool false) ∧ w8.cell? ⟨gWz, 1, none⟩ = some (.int .i64 s) ∧ w8.cell? ⟨gWz, 2, none⟩ = some (.int .i64 f) ∧ w8.cell? ⟨gWz, 3, none⟩ = some (.int .i64 m) ∧ w8.cell? ⟨gWz, 4, none⟩ = some (.int .i64 k) ∧ w8.cell? ⟨gWz, 5, none⟩ = some (.int .i64 es) from (RWz_.out).1)
  go_wp2
  go_ret
  exact ⟨rfl, (by (repeat (first | with_reducible exact Kept.refl _ | with_reducible apply Kept.drew | with_reducible apply Kept.alloc | ((with_reducible apply Kept.set); focus (simp <;> omega)) | ((with_reducible apply Kept.via); focus with_reducible assumption))))⟩
set_option maxRecDepth 100000 in
set_option maxHeartbeats 1600000 in
theorem shifts11_on_y (CC : ECheckC) (KC_ : EKC) (FC : EFastC) (BC : EBeginC) (SC : EShiftC) {s f m k es a b st : Int} {x1 : Ep} (ie : In64E (⟨true, s, f, m, k, es⟩ : Ep)) (i1 : In64E x1) (ix : In64E (⟨true, st, f, m, k, es⟩ : Ep)) (a0 : 0 ≤ a) (a1 : a ≤ 4294967295) (b0 : 0 ≤ b) (b1 : b ≤ 4294967295) (e1 : shiftE (⟨true, s, f, m, k, es⟩ : Ep) a = x1) (e2 : shiftE x1 b = (⟨true, st, f, m, k, es⟩ : Ep)) (e3 : shiftE (⟨true, s, f, m, k, es⟩ : Ep) (a + b) = (⟨true, st, f, m, k, es⟩ : Ep)) (ve : true = true ↔ MayE (⟨true, s, f, m, k, es⟩ : Ep)) (vx : MayE (⟨true, s, f, m, k, es⟩ : Ep) → MayE (⟨true, st, f, m, k, es⟩ : Ep)) (o : s ≤ st) (w : World) (T_ : Tens w) : Calls Tryd.prog 8 #[.agg #[.bool true, .int .i64 s, .int .i64 f, .int .i64 m, .int .i64 k, .int .i64 es], .int .u32 a, .int .u32 b] w fun e w' => e = .returned (.bool true) ∧ Kept w w' := by
  have CC' := Lib.hid CC
  have KC' := Lib.hid KC_
  have FC' := Lib.hid FC
  have BC' := Lib.hid BC
  have SC' := Lib.hid SC
  have AW' := Lib.hid (fun w TT_ => awake11 CC KC_ FC BC SC w TT_)
  clear CC KC_ FC BC SC
  have T := Lib.hid T_
  clear T_
  have IE := Lib.hid ie
  have I1 := Lib.hid i1
  have IX := Lib.hid ix
  have E1 := Lib.hid e1
  have E2 := Lib.hid e2
  have E3 := Lib.hid e3
  have QV := Lib.hid (fun w TT_ => CC'.out (⟨true, s, f, m, k, es⟩ : Ep) true ie ve w TT_)
  have QX := Lib.hid (fun w TT_ => CC'.out (⟨true, st, f, m, k, es⟩ : Ep) true ix ⟨fun _ => vx (ve.1 rfl), fun _ => rfl⟩ w TT_)
  have d1 : decide (s ≤ st) = true := by simp [o]
  have IA := Lib.hid (show In64 a from by unfold In64; omega)
  have IB := Lib.hid (show In64 b from by unfold In64; omega)
  have IC := Lib.hid (show In64 (a + b) from by unfold In64; omega)
  clear ie i1 ix e1 e2 e3 ve vx
  go_enter Tryd.func8, Tryd.ntmps8
  go_upto_region 1 with fail
  generalize hW : World.alloc w (.cells #[.bool true, .int .i64 s, .int .i64 f, .int .i64 m, .int .i64 k, .int .i64 es] 23) = W0
  have KW0 : Kept w W0 := by subst hW; exact (Kept.refl _).alloc _ _
  have RW0 := Lib.hid (show RE W0 w.heap.size (⟨true, s, f, m, k, es⟩ : Ep) from by subst hW; exact re_new w (⟨true, s, f, m, k, es⟩ : Ep) _)
  have LW0 : w.heap.size < W0.heap.size := by subst hW; simp
  clear hW
  generalize hgW0 : w.heap.size = gW0 at *
  go_wp2_with fail
  refine (AW'.out _ (Tens.kept T.out (by (repeat (first | with_reducible exact Kept.refl _ | with_reducible apply Kept.drew | with_reducible apply Kept.alloc | ((with_reducible apply Kept.set); focus (simp <;> omega)) | ((with_reducible apply Kept.via); focus with_reducible assumption)))))).mono ?_
  rintro e w1 ⟨rfl, k1⟩
  have k0 := Kept.trans KW0 k1
  have R1 := Lib.hid (RW0.out.kept k1)
  clear RW0 KW0 k1
  obtain ⟨c0, c1, c2, c3, c4, c5⟩ := (show w1.cell? ⟨gW0, 0, none⟩ = some (.bool true) ∧ w1.cell? ⟨gW0, 1, none⟩ = some (.int .i64 s) ∧ w1.cell? ⟨gW0, 2, none⟩ = some (.int .i64 f) ∧ w1.cell? ⟨gW0, 3, none⟩ = some (.int .i64 m) ∧ w1.cell? ⟨gW0, 4, none⟩ = some (.int .i64 k) ∧ w1.cell? ⟨gW0, 5, none⟩ = some (.int .i64 es) from (R1.out).1)
  go_wp2_with fail
  refine (SC'.out (⟨true, s, f, m, k, es⟩ : Ep) x1 a IE.out IA.out E1.out _).mono ?_
  rintro e w2 ⟨rfl, k2⟩
  clear c0 c1 c2 c3 c4 c5
  go_wp2_with fail
  refine (SC'.out x1 (⟨true, st, f, m, k, es⟩ : Ep) b I1.out IB.out E2.out _).mono ?_
  rintro e w3 ⟨rfl, k3⟩
  go_upto_region 3 with fail
  generalize hW : World.alloc w3 (.cells #[.bool true, .int .i64 st, .int .i64 f, .int .i64 m, .int .i64 k, .int .i64 es] 23) = Wx
  have KWx : Kept w3 Wx := by subst hW; exact (Kept.refl _).alloc _ _
  have RWx := Lib.hid (show RE Wx w3.heap.size (⟨true, st, f, m, k, es⟩ : Ep) from by subst hW; exact re_new w3 (⟨true, st, f, m, k, es⟩ : Ep) _)
  have LWx : w3.heap.size < Wx.heap.size := by subst hW; simp
  clear hW
  generalize hgWx : w3.heap.size = gWx at *
  have kx := Kept.trans (Kept.trans k2 k3) KWx
  have R2 := Lib.hid (R1.out.kept kx)
  have k4 := Kept.trans k0 kx
  clear R1 k0 kx k2 k3 KWx
  obtain ⟨c0, c1, c2, c3, c4, c5⟩ := (show Wx.cell? ⟨gW0, 0, none⟩ = some (.bool true) ∧ Wx.cell? ⟨gW0, 1, none⟩ = some (.int .i64 s) ∧ Wx.cell? ⟨gW0, 2, none⟩ = some (.int .i64 f) ∧ Wx.cell? ⟨gW0, 3, none⟩ = some (.int .i64 m) ∧ Wx.cell? ⟨gW0, 4, none⟩ = some (.int .i64 k) ∧ Wx.cell? ⟨gW0, 5, none⟩ = some (.int .i64 es) from (R2.out).1)
  go_wp2_with fail
  refine (SC'.out (⟨true, s, f, m, k, es⟩ : Ep) (⟨true, st, f, m, k, es⟩ : Ep) (a + b) IE.out IC.out E3.out _).mono ?_
  rintro e w5 ⟨rfl, k5⟩
  clear c0 c1 c2 c3 c4 c5
  go_upto_region 4 with fail
  generalize hW : World.alloc w5 (.cells #[.bool true, .int .i64 st, .int .i64 f, .int .i64 m, .int .i64 k, .int .i64 es] 23) = Wy
  have KWy : Kept w5 Wy := by subst hW; exact (Kept.refl _).alloc _ _
  have RWy := Lib.hid (show RE Wy w5.heap.size (⟨true, st, f, m, k, es⟩ : Ep) from by subst hW; exact re_new w5 (⟨true, st, f, m, k, es⟩ : Ep) _)
  have LWy : w5.heap.size < Wy.heap.size := by subst hW; simp
  clear hW
  generalize hgWy : w5.heap.size = gWy at *
  have ky := Kept.trans k5 KWy
  have R3 := Lib.hid (R2.out.kept ky)
  have X3 := Lib.hid (RWx.out.kept ky)
  have k6 := Kept.trans k4 ky
  have l1 := R3.out.ne
  have l2 := X3.out.ne
  clear R2 k4 ky k5 KWy RWx
  obtain ⟨c0, c1, c2, c3, c4, c5⟩ := (show Wy.cell? ⟨gW0, 0, none⟩ = some (.bool true) ∧ Wy.cell? ⟨gW0, 1, none⟩ = some (.int .i64 s) ∧ Wy.cell? ⟨gW0, 2, none⟩ = some (.int .i64 f) ∧ Wy.cell? ⟨gW0, 3, none⟩ = some (.int .i64 m) ∧ Wy.cell? ⟨gW0, 4, none⟩ = some (.int .i64 k) ∧ Wy.cell? ⟨gW0, 5, none⟩ = some (.int .i64 es) from (R3.out).1)
  obtain ⟨d0, d1, d2, d3, d4, d5⟩ := (show Wy.cell? ⟨gWx, 0, none⟩ = some (.bool true) ∧ Wy.cell? ⟨gWx, 1, none⟩ = some (.int .i64 st) ∧ Wy.cell? ⟨gWx, 2, none⟩ = some (.int .i64 f) ∧ Wy.cell? ⟨gWx, 3, none⟩ = some (.int .i64 m) ∧ Wy.cell? ⟨gWx, 4, none⟩ = some (.int .i64 k) ∧ Wy.cell? ⟨gWx, 5, none⟩ = some (.int .i64 es) from (X3.out).1)
  go_upto_region 6 with fail
  generalize hW : World.alloc Wy (.cells #[.bool true, .int .i64 s, .int .i64 f, .int .i64 m, .int .i64 k, .int .i64 es] 23) = Wz
  have KWz : Kept Wy Wz := by subst hW; exact (Kept.refl _).alloc _ _
  have RWz := Lib.hid (show RE Wz Wy.heap.size (⟨true, s, f, m, k, es⟩ : Ep) from by subst hW; exact re_new Wy (⟨true, s, f, m, k, es⟩ : Ep) _)
  have LWz : Wy.heap.size < Wz.heap.size := by subst hW; simp
  clear hW
  generalize hgWz : Wy.heap.size = gWz at *
  clear c0 c1 c2 c3 c4 c5 d0 d1 d2 d3 d4 d5
  have R4 := Lib.hid (R3.out.kept KWz)
  have X4 := Lib.hid (X3.out.kept KWz)
  have Y4 := Lib.hid (RWy.out.kept KWz)
  have k7 := Kept.trans k6 KWz
  clear R3 X3 RWy k6 KWz
  obtain ⟨c0, c1, c2, c3, c4, c5⟩ := (show Wz.cell? ⟨gW0, 0, none⟩ = some (.bool true) ∧ Wz.cell? ⟨gW0, 1, none⟩ = some (.int .i64 s) ∧ Wz.cell? ⟨gW0, 2, none⟩ = some (.int .i64 f) ∧ Wz.cell? ⟨gW0, 3, none⟩ = some (.int .i64 m) ∧ Wz.cell? ⟨gW0, 4, none⟩ = some (.int .i64 k) ∧ Wz.cell? ⟨gW0, 5, none⟩ = some (.int .i64 es) from (R4.out).1)
  obtain ⟨d0, d1, d2, d3, d4, d5⟩ := (show Wz.cell? ⟨gWx, 0, none⟩ = some (.bool true) ∧ Wz.cell? ⟨gWx, 1, none⟩ = some (.int .i64 st) ∧ Wz.cell? ⟨gWx, 2, none⟩ = some (.int .i64 f) ∧ Wz.cell? ⟨gWx, 3, none⟩ = some (.int .i64 m) ∧ Wz.cell? ⟨gWx, 4, none⟩ = some (.int .i64 k) ∧ Wz.cell? ⟨gWx, 5, none⟩ = some (.int .i64 es) from (X4.out).1)
  obtain ⟨f0, f1, f2, f3, f4, f5⟩ := (show Wz.cell? ⟨gWy, 0, none⟩ = some (.bool true) ∧ Wz.cell? ⟨gWy, 1, none⟩ = some (.int .i64 st) ∧ Wz.cell? ⟨gWy, 2, none⟩ = some (.int .i64 f) ∧ Wz.cell? ⟨gWy, 3, none⟩ = some (.int .i64 m) ∧ Wz.cell? ⟨gWy, 4, none⟩ = some (.int .i64 k) ∧ Wz.cell? ⟨gWy, 5, none⟩ = some (.int .i64 es) from (Y4.out).1)
  obtain ⟨z0, z1, z2, z3, z4, z5⟩ := (show Wz.cell? ⟨gWz, 0, none⟩ = some (.bool true) ∧ Wz.cell? ⟨gWz, 1, none⟩ = some (.int .i64 s) ∧ Wz.cell? ⟨gWz, 2, none⟩ = some (.int .i64 f) ∧ Wz.cell? ⟨gWz, 3, none⟩ = some (.int .i64 m) ∧ Wz.cell? ⟨gWz, 4, none⟩ = some (.int .i64 k) ∧ Wz.cell? ⟨gWz, 5, none⟩ = some (.int .i64 es) from (RWz.out).1)
  go_wp2_with fail
  refine (QV.out _ (Tens.kept T.out (by (repeat (first | with_reducible exact Kept.refl _ | with_reducible apply Kept.drew | with_reducible apply Kept.alloc | ((with_reducible apply Kept.set); focus (simp <;> omega)) | ((with_reducible apply Kept.via); focus with_reducible assumption)))))).mono ?_
  rintro e w8 ⟨rfl, k8⟩
  clear c0 c1 c2 c3 c4 c5 d0 d1 d2 d3 d4 d5 f0 f1 f2 f3 f4 f5 z0 z1 z2 z3 z4 z5
  have R4_ := Lib.hid (R4.out.kept k8)
  have X4_ := Lib.hid (X4.out.kept k8)
  have Y4_ := Lib.hid (Y4.out.kept k8)
  have RWz_ := Lib.hid (RWz.out.kept k8)
  clear R4 X4 Y4 RWz
  obtain ⟨c0, c1, c2, c3, c4, c5⟩ := (show w8.cell? ⟨gW0, 0, none⟩ = some (.bool true) ∧ w8.cell? ⟨gW0, 1, none⟩ = some (.int .i64 s) ∧ w8.cell? ⟨gW0, 2, none⟩ = some (.int .i64 f) ∧ w8.cell? ⟨gW0, 3, none⟩ = some (.int .i64 m) ∧ w8.cell? ⟨gW0, 4, none⟩ = some (.int .i64 k) ∧ w8.cell? ⟨gW0, 5, none⟩ = some (.int .i64 es) from (R4_.out).1)
  obtain ⟨d0, d1, d2, d3, d4, d5⟩ := (show w8.cell? ⟨gWx, 0, none⟩ = some (.bool true) ∧ w8.cell? ⟨gWx, 1, none⟩ = some (.int .i64 st) ∧ w8.cell? ⟨gWx, 2, none⟩ = some (.int .i64 f) ∧ w8.cell? ⟨gWx, 3, none⟩ = some (.int .i64 m) ∧ w8.cell? ⟨gWx, 4, none⟩ = some (.int .i64 k) ∧ w8.cell? ⟨gWx, 5, none⟩ = some (.int .i64 es) from (X4_.out).1)
  obtain ⟨f0, f1, f2, f3, f4, f5⟩ := (show w8.cell? ⟨gWy, 0, none⟩ = some (.bool true) ∧ w8.cell? ⟨gWy, 1, none⟩ = some (.int .i64 st) ∧ w8.cell? ⟨gWy, 2, none⟩ = some (.int .i64 f) ∧ w8.cell? ⟨gWy, 3, none⟩ = some (.int .i64 m) ∧ w8.cell? ⟨gWy, 4, none⟩ = some (.int .i64 k) ∧ w8.cell? ⟨gWy, 5, none⟩ = some (.int .i64 es) from (Y4_.out).1)
  obtain ⟨z0, z1, z2, z3, z4, z5⟩ := (show w8.cell? ⟨gWz, 0, none⟩ = some (.bool true) ∧ w8.cell? ⟨gWz, 1, none⟩ = some (.int .i64 s) ∧ w8.cell? ⟨gWz, 2, none⟩ = some (.int .i64 f) ∧ w8.cell? ⟨gWz, 3, none⟩ = some (.int .i64 m) ∧ w8.cell? ⟨gWz, 4, none⟩ = some (.int .i64 k) ∧ w8.cell? ⟨gWz, 5, none⟩ = some (.int .i64 es) from (RWz_.out).1)
  go_wp2_with fail
  refine (QX.out _ (Tens.kept T.out (by (repeat (first | with_reducible exact Kept.refl _ | with_reducible apply Kept.drew | with_reducible apply Kept.alloc | ((with_reducible apply Kept.set); focus (simp <;> omega)) | ((with_reducible apply Kept.via); focus with_reducible assumption)))))).mono ?_
  rintro e w9 ⟨rfl, k9⟩
  clear c0 c1 c2 c3 c4 c5 d0 d1 d2 d3 d4 d5 f0 f1 f2 f3 f4 f5 z0 z1 z2 z3 z4 z5
  have R4__ := Lib.hid (R4_.out.kept k9)
  have X4__ := Lib.hid (X4_.out.kept k9)
  have Y4__ := Lib.hid (Y4_.out.kept k9)
  have RWz__ := Lib.hid (RWz_.out.kept k9)
  clear R4_ X4_ Y4_ RWz_
  obtain ⟨c0, c1, c2, c3, c4, c5⟩ := (show w9.cell? ⟨gW0, 0, none⟩ = some (.bool true) ∧ w9.cell? ⟨gW0, 1, none⟩ = some (.int .i64 s) ∧ w9.cell? ⟨gW0, 2, none⟩ = some (.int .i64 f) ∧ w9.cell? ⟨gW0, 3, none⟩ = some (.int .i64 m) ∧ w9.cell? ⟨gW0, 4, none⟩ = some (.int .i64 k) ∧ w9.cell? ⟨gW0, 5, none⟩ = some (.int .i64 es) from (R4__.out).1)
  obtain ⟨d0, d1, d2, d3, d4, d5⟩ := (show w9.cell? ⟨gWx, 0, none⟩ = some (.bool true) ∧ w9.cell? ⟨gWx, 1, none⟩ = some (.int .i64 st) ∧ w9.cell? ⟨gWx, 2, none⟩ = some (.int .i64 f) ∧ w9.cell? ⟨gWx, 3, none⟩ = some (.int .i64 m) ∧ w9.cell? ⟨gWx, 4, none⟩ = some (.int .i64 k) ∧ w9.cell? ⟨gWx, 5, none⟩ = some (.int .i64 es) from (X4__.out).1)
  obtain ⟨f0, f1, f2, f3, f4, f5⟩ := (show w9.cell? ⟨gWy, 0, none⟩ = some (.bool true) ∧ w9.cell? ⟨gWy, 1, none⟩ = some (.int .i64 st) ∧ w9.cell? ⟨gWy, 2, none⟩ = some (.int .i64 f) ∧ w9.cell? ⟨gWy, 3, none⟩ = some (.int .i64 m) ∧ w9.cell? ⟨gWy, 4, none⟩ = some (.int .i64 k) ∧ w9.cell? ⟨gWy, 5, none⟩ = some (.int .i64 es) from (Y4__.out).1)
  obtain ⟨z0, z1, z2, z3, z4, z5⟩ := (show w9.cell? ⟨gWz, 0, none⟩ = some (.bool true) ∧ w9.cell? ⟨gWz, 1, none⟩ = some (.int .i64 s) ∧ w9.cell? ⟨gWz, 2, none⟩ = some (.int .i64 f) ∧ w9.cell? ⟨gWz, 3, none⟩ = some (.int .i64 m) ∧ w9.cell? ⟨gWz, 4, none⟩ = some (.int .i64 k) ∧ w9.cell? ⟨gWz, 5, none⟩ = some (.int .i64 es) from (RWz__.out).1)
  go_wp2
  go_ret
  exact ⟨rfl, (by (repeat (first | with_reducible exact Kept.refl _ | with_reducible apply Kept.drew | with_reducible apply Kept.alloc | ((with_reducible apply Kept.set); focus (simp <;> omega)) | ((with_reducible apply Kept.via); focus with_reducible assumption))))⟩
set_option maxRecDepth 100000 in
set_option maxHeartbeats 1600000 in
theorem shifts11_on_n (CC : ECheckC) (KC_ : EKC) (FC : EFastC) (BC : EBeginC) (SC : EShiftC) {s f m k es a b st : Int} {x1 : Ep} (ie : In64E (⟨true, s, f, m, k, es⟩ : Ep)) (i1 : In64E x1) (ix : In64E (⟨true, st, f, m, k, es⟩ : Ep)) (a0 : 0 ≤ a) (a1 : a ≤ 4294967295) (b0 : 0 ≤ b) (b1 : b ≤ 4294967295) (e1 : shiftE (⟨true, s, f, m, k, es⟩ : Ep) a = x1) (e2 : shiftE x1 b = (⟨true, st, f, m, k, es⟩ : Ep)) (e3 : shiftE (⟨true, s, f, m, k, es⟩ : Ep) (a + b) = (⟨true, st, f, m, k, es⟩ : Ep)) (ve : false = true ↔ MayE (⟨true, s, f, m, k, es⟩ : Ep)) (vx : MayE (⟨true, s, f, m, k, es⟩ : Ep) → MayE (⟨true, st, f, m, k, es⟩ : Ep)) (w : World) (T_ : Tens w) : Calls Tryd.prog 8 #[.agg #[.bool true, .int .i64 s, .int .i64 f, .int .i64 m, .int .i64 k, .int .i64 es], .int .u32 a, .int .u32 b] w fun e w' => e = .returned (.bool true) ∧ Kept w w' := by
  have CC' := Lib.hid CC
  have KC' := Lib.hid KC_
  have FC' := Lib.hid FC
  have BC' := Lib.hid BC
  have SC' := Lib.hid SC
  have AW' := Lib.hid (fun w TT_ => awake11 CC KC_ FC BC SC w TT_)
  clear CC KC_ FC BC SC
  have T := Lib.hid T_
  clear T_
  have IE := Lib.hid ie
  have I1 := Lib.hid i1
  have IX := Lib.hid ix
  have E1 := Lib.hid e1
  have E2 := Lib.hid e2
  have E3 := Lib.hid e3
  have QV := Lib.hid (fun w TT_ => CC'.out (⟨true, s, f, m, k, es⟩ : Ep) false ie ve w TT_)
  have IA := Lib.hid (show In64 a from by unfold In64; omega)
  have IB := Lib.hid (show In64 b from by unfold In64; omega)
  have IC := Lib.hid (show In64 (a + b) from by unfold In64; omega)
  clear ie i1 ix e1 e2 e3 ve vx
  go_enter Tryd.func8, Tryd.ntmps8
  go_upto_region 1 with fail
  generalize hW : World.alloc w (.cells #[.bool true, .int .i64 s, .int .i64 f, .int .i64 m, .int .i64 k, .int .i64 es] 23) = W0
  have KW0 : Kept w W0 := by subst hW; exact (Kept.refl _).alloc _ _
  have RW0 := Lib.hid (show RE W0 w.heap.size (⟨true, s, f, m, k, es⟩ : Ep) from by subst hW; exact re_new w (⟨true, s, f, m, k, es⟩ : Ep) _)
  have LW0 : w.heap.size < W0.heap.size := by subst hW; simp
  clear hW
  generalize hgW0 : w.heap.size = gW0 at *
  go_wp2_with fail
  refine (AW'.out _ (Tens.kept T.out (by (repeat (first | with_reducible exact Kept.refl _ | with_reducible apply Kept.drew | with_reducible apply Kept.alloc | ((with_reducible apply Kept.set); focus (simp <;> omega)) | ((with_reducible apply Kept.via); focus with_reducible assumption)))))).mono ?_
  rintro e w1 ⟨rfl, k1⟩
  have k0 := Kept.trans KW0 k1
  have R1 := Lib.hid (RW0.out.kept k1)
  clear RW0 KW0 k1
  obtain ⟨c0, c1, c2, c3, c4, c5⟩ := (show w1.cell? ⟨gW0, 0, none⟩ = some (.bool true) ∧ w1.cell? ⟨gW0, 1, none⟩ = some (.int .i64 s) ∧ w1.cell? ⟨gW0, 2, none⟩ = some (.int .i64 f) ∧ w1.cell? ⟨gW0, 3, none⟩ = some (.int .i64 m) ∧ w1.cell? ⟨gW0, 4, none⟩ = some (.int .i64 k) ∧ w1.cell? ⟨gW0, 5, none⟩ = some (.int .i64 es) from (R1.out).1)
  go_wp2_with fail
  refine (SC'.out (⟨true, s, f, m, k, es⟩ : Ep) x1 a IE.out IA.out E1.out _).mono ?_
  rintro e w2 ⟨rfl, k2⟩
  clear c0 c1 c2 c3 c4 c5
  go_wp2_with fail
  refine (SC'.out x1 (⟨true, st, f, m, k, es⟩ : Ep) b I1.out IB.out E2.out _).mono ?_
  rintro e w3 ⟨rfl, k3⟩
  go_upto_region 3 with fail
  generalize hW : World.alloc w3 (.cells #[.bool true, .int .i64 st, .int .i64 f, .int .i64 m, .int .i64 k, .int .i64 es] 23) = Wx
  have KWx : Kept w3 Wx := by subst hW; exact (Kept.refl _).alloc _ _
  have RWx := Lib.hid (show RE Wx w3.heap.size (⟨true, st, f, m, k, es⟩ : Ep) from by subst hW; exact re_new w3 (⟨true, st, f, m, k, es⟩ : Ep) _)
  have LWx : w3.heap.size < Wx.heap.size := by subst hW; simp
  clear hW
  generalize hgWx : w3.heap.size = gWx at *
  have kx := Kept.trans (Kept.trans k2 k3) KWx
  have R2 := Lib.hid (R1.out.kept kx)
  have k4 := Kept.trans k0 kx
  clear R1 k0 kx k2 k3 KWx
  obtain ⟨c0, c1, c2, c3, c4, c5⟩ := (show Wx.cell? ⟨gW0, 0, none⟩ = some (.bool true) ∧ Wx.cell? ⟨gW0, 1, none⟩ = some (.int .i64 s) ∧ Wx.cell? ⟨gW0, 2, none⟩ = some (.int .i64 f) ∧ Wx.cell? ⟨gW0, 3, none⟩ = some (.int .i64 m) ∧ Wx.cell? ⟨gW0, 4, none⟩ = some (.int .i64 k) ∧ Wx.cell? ⟨gW0, 5, none⟩ = some (.int .i64 es) from (R2.out).1)
  go_wp2_with fail
  refine (SC'.out (⟨true, s, f, m, k, es⟩ : Ep) (⟨true, st, f, m, k, es⟩ : Ep) (a + b) IE.out IC.out E3.out _).mono ?_
  rintro e w5 ⟨rfl, k5⟩
  clear c0 c1 c2 c3 c4 c5
  go_upto_region 4 with fail
  generalize hW : World.alloc w5 (.cells #[.bool true, .int .i64 st, .int .i64 f, .int .i64 m, .int .i64 k, .int .i64 es] 23) = Wy
  have KWy : Kept w5 Wy := by subst hW; exact (Kept.refl _).alloc _ _
  have RWy := Lib.hid (show RE Wy w5.heap.size (⟨true, st, f, m, k, es⟩ : Ep) from by subst hW; exact re_new w5 (⟨true, st, f, m, k, es⟩ : Ep) _)
  have LWy : w5.heap.size < Wy.heap.size := by subst hW; simp
  clear hW
  generalize hgWy : w5.heap.size = gWy at *
  have ky := Kept.trans k5 KWy
  have R3 := Lib.hid (R2.out.kept ky)
  have X3 := Lib.hid (RWx.out.kept ky)
  have k6 := Kept.trans k4 ky
  have l1 := R3.out.ne
  have l2 := X3.out.ne
  clear R2 k4 ky k5 KWy RWx
  obtain ⟨c0, c1, c2, c3, c4, c5⟩ := (show Wy.cell? ⟨gW0, 0, none⟩ = some (.bool true) ∧ Wy.cell? ⟨gW0, 1, none⟩ = some (.int .i64 s) ∧ Wy.cell? ⟨gW0, 2, none⟩ = some (.int .i64 f) ∧ Wy.cell? ⟨gW0, 3, none⟩ = some (.int .i64 m) ∧ Wy.cell? ⟨gW0, 4, none⟩ = some (.int .i64 k) ∧ Wy.cell? ⟨gW0, 5, none⟩ = some (.int .i64 es) from (R3.out).1)
  obtain ⟨d0, d1, d2, d3, d4, d5⟩ := (show Wy.cell? ⟨gWx, 0, none⟩ = some (.bool true) ∧ Wy.cell? ⟨gWx, 1, none⟩ = some (.int .i64 st) ∧ Wy.cell? ⟨gWx, 2, none⟩ = some (.int .i64 f) ∧ Wy.cell? ⟨gWx, 3, none⟩ = some (.int .i64 m) ∧ Wy.cell? ⟨gWx, 4, none⟩ = some (.int .i64 k) ∧ Wy.cell? ⟨gWx, 5, none⟩ = some (.int .i64 es) from (X3.out).1)
  go_upto_region 6 with fail
  generalize hW : World.alloc Wy (.cells #[.bool true, .int .i64 s, .int .i64 f, .int .i64 m, .int .i64 k, .int .i64 es] 23) = Wz
  have KWz : Kept Wy Wz := by subst hW; exact (Kept.refl _).alloc _ _
  have RWz := Lib.hid (show RE Wz Wy.heap.size (⟨true, s, f, m, k, es⟩ : Ep) from by subst hW; exact re_new Wy (⟨true, s, f, m, k, es⟩ : Ep) _)
  have LWz : Wy.heap.size < Wz.heap.size := by subst hW; simp
  clear hW
  generalize hgWz : Wy.heap.size = gWz at *
  clear c0 c1 c2 c3 c4 c5 d0 d1 d2 d3 d4 d5
  have R4 := Lib.hid (R3.out.kept KWz)
  have X4 := Lib.hid (X3.out.kept KWz)
  have Y4 := Lib.hid (RWy.out.kept KWz)
  have k7 := Kept.trans k6 KWz
  clear R3 X3 RWy k6 KWz
  obtain ⟨c0, c1, c2, c3, c4, c5⟩ := (show Wz.cell? ⟨gW0, 0, none⟩ = some (.bool true) ∧ Wz.cell? ⟨gW0, 1, none⟩ = some (.int .i64 s) ∧ Wz.cell? ⟨gW0, 2, none⟩ = some (.int .i64 f) ∧ Wz.cell? ⟨gW0, 3, none⟩ = some (.int .i64 m) ∧ Wz.cell? ⟨gW0, 4, none⟩ = some (.int .i64 k) ∧ Wz.cell? ⟨gW0, 5, none⟩ = some (.int .i64 es) from (R4.out).1)
  obtain ⟨d0, d1, d2, d3, d4, d5⟩ := (show Wz.cell? ⟨gWx, 0, none⟩ = some (.bool true) ∧ Wz.cell? ⟨gWx, 1, none⟩ = some (.int .i64 st) ∧ Wz.cell? ⟨gWx, 2, none⟩ = some (.int .i64 f) ∧ Wz.cell? ⟨gWx, 3, none⟩ = some (.int .i64 m) ∧ Wz.cell? ⟨gWx, 4, none⟩ = some (.int .i64 k) ∧ Wz.cell? ⟨gWx, 5, none⟩ = some (.int .i64 es) from (X4.out).1)
  obtain ⟨f0, f1, f2, f3, f4, f5⟩ := (show Wz.cell? ⟨gWy, 0, none⟩ = some (.bool true) ∧ Wz.cell? ⟨gWy, 1, none⟩ = some (.int .i64 st) ∧ Wz.cell? ⟨gWy, 2, none⟩ = some (.int .i64 f) ∧ Wz.cell? ⟨gWy, 3, none⟩ = some (.int .i64 m) ∧ Wz.cell? ⟨gWy, 4, none⟩ = some (.int .i64 k) ∧ Wz.cell? ⟨gWy, 5, none⟩ = some (.int .i64 es) from (Y4.out).1)
  obtain ⟨z0, z1, z2, z3, z4, z5⟩ := (show Wz.cell? ⟨gWz, 0, none⟩ = some (.bool true) ∧ Wz.cell? ⟨gWz, 1, none⟩ = some (.int .i64 s) ∧ Wz.cell? ⟨gWz, 2, none⟩ = some (.int .i64 f) ∧ Wz.cell? ⟨gWz, 3, none⟩ = some (.int .i64 m) ∧ Wz.cell? ⟨gWz, 4, none⟩ = some (.int .i64 k) ∧ Wz.cell? ⟨gWz, 5, none⟩ = some (.int .i64 es) from (RWz.out).1)
  go_wp2_with fail
  refine (QV.out _ (Tens.kept T.out (by (repeat (first | with_reducible exact Kept.refl _ | with_reducible apply Kept.drew | with_reducible apply Kept.alloc | ((with_reducible apply Kept.set); focus (simp <;> omega)) | ((with_reducible apply Kept.via); focus with_reducible assumption)))))).mono ?_
  rintro e w8 ⟨rfl, k8⟩
  clear c0 c1 c2 c3 c4 c5 d0 d1 d2 d3 d4 d5 f0 f1 f2 f3 f4 f5 z0 z1 z2 z3 z4 z5
  have R4_ := Lib.hid (R4.out.kept k8)
  have X4_ := Lib.hid (X4.out.kept k8)
  have Y4_ := Lib.hid (Y4.out.kept k8)
  have RWz_ := Lib.hid (RWz.out.kept k8)
  clear R4 X4 Y4 RWz
  obtain ⟨c0, c1, c2, c3, c4, c5⟩ := (show w8.cell? ⟨gW0, 0, none⟩ = some (.bool true) ∧ w8.cell? ⟨gW0, 1, none⟩ = some (.int .i64 s) ∧ w8.cell? ⟨gW0, 2, none⟩ = some (.int .i64 f) ∧ w8.cell? ⟨gW0, 3, none⟩ = some (.int .i64 m) ∧ w8.cell? ⟨gW0, 4, none⟩ = some (.int .i64 k) ∧ w8.cell? ⟨gW0, 5, none⟩ = some (.int .i64 es) from (R4_.out).1)
  obtain ⟨d0, d1, d2, d3, d4, d5⟩ := (show w8.cell? ⟨gWx, 0, none⟩ = some (.bool true) ∧ w8.cell? ⟨gWx, 1, none⟩ = some (.int .i64 st) ∧ w8.cell? ⟨gWx, 2, none⟩ = some (.int .i64 f) ∧ w8.cell? ⟨gWx, 3, none⟩ = some (.int .i64 m) ∧ w8.cell? ⟨gWx, 4, none⟩ = some (.int .i64 k) ∧ w8.cell? ⟨gWx, 5, none⟩ = some (.int .i64 es) from (X4_.out).1)
  obtain ⟨f0, f1, f2, f3, f4, f5⟩ := (show w8.cell? ⟨gWy, 0, none⟩ = some (.bool true) ∧ w8.cell? ⟨gWy, 1, none⟩ = some (.int .i64 st) ∧ w8.cell? ⟨gWy, 2, none⟩ = some (.int .i64 f) ∧ w8.cell? ⟨gWy, 3, none⟩ = some (.int .i64 m) ∧ w8.cell? ⟨gWy, 4, none⟩ = some (.int .i64 k) ∧ w8.cell? ⟨gWy, 5, none⟩ = some (.int .i64 es) from (Y4_.out).1)
  obtain ⟨z0, z1, z2, z3, z4, z5⟩ := (show w8.cell? ⟨gWz, 0, none⟩ = some (.bool true) ∧ w8.cell? ⟨gWz, 1, none⟩ = some (.int .i64 s) ∧ w8.cell? ⟨gWz, 2, none⟩ = some (.int .i64 f) ∧ w8.cell? ⟨gWz, 3, none⟩ = some (.int .i64 m) ∧ w8.cell? ⟨gWz, 4, none⟩ = some (.int .i64 k) ∧ w8.cell? ⟨gWz, 5, none⟩ = some (.int .i64 es) from (RWz_.out).1)
  go_wp2
  go_ret
  exact ⟨rfl, (by (repeat (first | with_reducible exact Kept.refl _ | with_reducible apply Kept.drew | with_reducible apply Kept.alloc | ((with_reducible apply Kept.set); focus (simp <;> omega)) | ((with_reducible apply Kept.via); focus with_reducible assumption))))⟩
theorem epochShifts_walk (CC : ECheckC) (KC_ : EKC) (FC : EFastC) (BC : EBeginC) (SC : EShiftC) (on : Bool) (s f m k es a b : Int) (w : World) (T_ : Tens w) (ie : In64E ⟨on, s, f, m, k, es⟩) (a0 : 0 ≤ a) (a1 : a ≤ 4294967295) (b0 : 0 ≤ b) (b1 : b ≤ 4294967295) : Calls Tryd.prog 8 #[.agg #[.bool on, .int .i64 s, .int .i64 f, .int .i64 m, .int .i64 k, .int .i64 es], .int .u32 a, .int .u32 b] w fun e w' => e = .returned (.bool true) ∧ Kept w w' := by
  have ia : In64 a := by unfold In64; omega
  have ib : In64 b := by unfold In64; omega
  cases on
  · by_cases mv : MayE ⟨false, s, f, m, k, es⟩
    · exact shifts11_off_y CC KC_ FC BC SC ie ie ie a0 a1 b0 b1 (shift_off _ rfl) (shift_off _ rfl) (shift_off _ rfl) ⟨fun _ => mv, fun _ => rfl⟩ id w T_
    · exact shifts11_off_n CC KC_ FC BC SC ie ie ie a0 a1 b0 b1 (shift_off _ rfl) (shift_off _ rfl) (shift_off _ rfl) ⟨fun h => absurd h (by simp), fun h => absurd h mv⟩ id w T_
  · have tw := shift_twice ⟨true, s, f, m, k, es⟩ a0 b0
    have i1 := shift_in64 ie ia
    have i2 := shift_in64 i1 ib
    have mm : MayE ⟨true, s, f, m, k, es⟩ → MayE (shiftE (shiftE ⟨true, s, f, m, k, es⟩ a) b) := fun h => shift_may (shift_may h)
    obtain ⟨st, hs, hst⟩ : ∃ st, shiftE ⟨true, s, f, m, k, es⟩ (a + b) = ⟨true, st, f, m, k, es⟩ ∧ (MayE ⟨true, s, f, m, k, es⟩ → s ≤ st) := by
      by_cases x : a + b < 1
      · exact ⟨s, shift_none x, fun _ => Int.le_refl _⟩
      · refine ⟨_, shift_on (by omega), fun h => ?_⟩
        rcases h with ⟨h, _⟩ | ⟨_, ht, _⟩
        · exact absurd h (by simp)
        · have ht' : 0 ≤ s ∧ s ≤ 1099511627776 := ht
          split <;> omega
    rw [tw, hs] at i2 mm
    by_cases mv : MayE ⟨true, s, f, m, k, es⟩
    · exact shifts11_on_y CC KC_ FC BC SC ie i1 i2 a0 a1 b0 b1 rfl (tw.trans hs) hs ⟨fun _ => mv, fun _ => rfl⟩ mm (hst mv) w T_
    · exact shifts11_on_n CC KC_ FC BC SC ie i1 i2 a0 a1 b0 b1 rfl (tw.trans hs) hs ⟨fun h => absurd h (by simp), fun h => absurd h mv⟩ mm w T_
end Go.Proofs.YtjdccfaifdokpaaDoor
