/-
  The walk of EpochBegins: it answers true, if the calls do what they are to do.
-/
import Derived.Test.YtjdccfaifdokpaaDoorAwake11
import Derived.Deep.RegionHeld3
import Derived.Deep.DeepCutAuto
namespace Go.Proofs.YtjdccfaifdokpaaDoor
open Go.RowKit Go.BigFrame
set_option linter.unusedVariables false

set_option maxRecDepth 100000 in
set_option maxHeartbeats 1600000 in
theorem begins11_n0 (CC : ECheckC) (KC_ : EKC) (FC : EFastC) (BC : EBeginC) (SC : EShiftC) {a n m : Int} (ia : In64 a) (in_ : In64 n) (im : In64 m) (e : BeginIs a n m (⟨false, 0, 0, 0, 0, 0⟩ : Ep) 201) (d0 : decide (a < 0) = true) (w : World) (T_ : Tens w) : Calls Tryd.prog 6 #[.int .i64 a, .int .i64 n, .int .i64 m] w fun e w' => e = .returned (.bool true) ∧ Kept w w' := by
  have CC' := Lib.hid CC
  have KC' := Lib.hid KC_
  have FC' := Lib.hid FC
  have BC' := Lib.hid BC
  have SC' := Lib.hid SC
  have AW' := Lib.hid (fun w TT_ => awake11 CC KC_ FC BC SC w TT_)
  clear CC KC_ FC BC SC
  have T := Lib.hid T_
  clear T_
  have QB := Lib.hid (fun w TT_ => BC'.out a n m (⟨false, 0, 0, 0, 0, 0⟩ : Ep) 201 ia in_ im e w TT_)
  clear ia in_ im e
  go_enter Tryd.func6, Tryd.ntmps6
  go_wp2_with fail
  refine (AW'.out _ (Tens.kept T.out (by (repeat (first | with_reducible exact Kept.refl _ | with_reducible apply Kept.drew | with_reducible apply Kept.alloc | ((with_reducible apply Kept.set); focus (simp <;> omega)) | ((with_reducible apply Kept.via); focus with_reducible assumption)))))).mono ?_
  rintro e w1 ⟨rfl, k1⟩
  go_wp2_with fail
  refine (QB.out _ (Tens.kept T.out (by (repeat (first | with_reducible exact Kept.refl _ | with_reducible apply Kept.drew | with_reducible apply Kept.alloc | ((with_reducible apply Kept.set); focus (simp <;> omega)) | ((with_reducible apply Kept.via); focus with_reducible assumption)))))).mono ?_
  rintro e w2 ⟨rfl, k2⟩
  go_upto_region 3 with fail
  generalize hW : World.alloc w2 (.cells #[.bool false, .int .i64 0, .int .i64 0, .int .i64 0, .int .i64 0, .int .i64 0] 23) = Wa
  have KWa : Kept w2 Wa := by subst hW; exact (Kept.refl _).alloc _ _
  have RWa := Lib.hid (show RE Wa w2.heap.size (⟨false, 0, 0, 0, 0, 0⟩ : Ep) from by subst hW; exact re_new w2 (⟨false, 0, 0, 0, 0, 0⟩ : Ep) _)
  have LWa : w2.heap.size < Wa.heap.size := by subst hW; simp
  clear hW
  generalize hgWa : w2.heap.size = gWa at *
  obtain ⟨c0, c1, c2, c3, c4, c5⟩ := (show Wa.cell? ⟨gWa, 0, none⟩ = some (.bool false) ∧ Wa.cell? ⟨gWa, 1, none⟩ = some (.int .i64 0) ∧ Wa.cell? ⟨gWa, 2, none⟩ = some (.int .i64 0) ∧ Wa.cell? ⟨gWa, 3, none⟩ = some (.int .i64 0) ∧ Wa.cell? ⟨gWa, 4, none⟩ = some (.int .i64 0) ∧ Wa.cell? ⟨gWa, 5, none⟩ = some (.int .i64 0) from (RWa.out).1)
  go_wp2
  go_ret
  exact ⟨rfl, (by (repeat (first | with_reducible exact Kept.refl _ | with_reducible apply Kept.drew | with_reducible apply Kept.alloc | ((with_reducible apply Kept.set); focus (simp <;> omega)) | ((with_reducible apply Kept.via); focus with_reducible assumption))))⟩
set_option maxRecDepth 100000 in
set_option maxHeartbeats 1600000 in
theorem begins11_n1 (CC : ECheckC) (KC_ : EKC) (FC : EFastC) (BC : EBeginC) (SC : EShiftC) {a n m : Int} (ia : In64 a) (in_ : In64 n) (im : In64 m) (e : BeginIs a n m (⟨false, 0, 0, 0, 0, 0⟩ : Ep) 201) (d0 : decide (a < 0) = false) (d1 : decide (1099511627776 < a) = true) (w : World) (T_ : Tens w) : Calls Tryd.prog 6 #[.int .i64 a, .int .i64 n, .int .i64 m] w fun e w' => e = .returned (.bool true) ∧ Kept w w' := by
  have CC' := Lib.hid CC
  have KC' := Lib.hid KC_
  have FC' := Lib.hid FC
  have BC' := Lib.hid BC
  have SC' := Lib.hid SC
  have AW' := Lib.hid (fun w TT_ => awake11 CC KC_ FC BC SC w TT_)
  clear CC KC_ FC BC SC
  have T := Lib.hid T_
  clear T_
  have QB := Lib.hid (fun w TT_ => BC'.out a n m (⟨false, 0, 0, 0, 0, 0⟩ : Ep) 201 ia in_ im e w TT_)
  clear ia in_ im e
  go_enter Tryd.func6, Tryd.ntmps6
  go_wp2_with fail
  refine (AW'.out _ (Tens.kept T.out (by (repeat (first | with_reducible exact Kept.refl _ | with_reducible apply Kept.drew | with_reducible apply Kept.alloc | ((with_reducible apply Kept.set); focus (simp <;> omega)) | ((with_reducible apply Kept.via); focus with_reducible assumption)))))).mono ?_
  rintro e w1 ⟨rfl, k1⟩
  go_wp2_with fail
  refine (QB.out _ (Tens.kept T.out (by (repeat (first | with_reducible exact Kept.refl _ | with_reducible apply Kept.drew | with_reducible apply Kept.alloc | ((with_reducible apply Kept.set); focus (simp <;> omega)) | ((with_reducible apply Kept.via); focus with_reducible assumption)))))).mono ?_
  rintro e w2 ⟨rfl, k2⟩
  go_upto_region 3 with fail
  generalize hW : World.alloc w2 (.cells #[.bool false, .int .i64 0, .int .i64 0, .int .i64 0, .int .i64 0, .int .i64 0] 23) = Wa
  have KWa : Kept w2 Wa := by subst hW; exact (Kept.refl _).alloc _ _
  have RWa := Lib.hid (show RE Wa w2.heap.size (⟨false, 0, 0, 0, 0, 0⟩ : Ep) from by subst hW; exact re_new w2 (⟨false, 0, 0, 0, 0, 0⟩ : Ep) _)
  have LWa : w2.heap.size < Wa.heap.size := by subst hW; simp
  clear hW
  generalize hgWa : w2.heap.size = gWa at *
  obtain ⟨c0, c1, c2, c3, c4, c5⟩ := (show Wa.cell? ⟨gWa, 0, none⟩ = some (.bool false) ∧ Wa.cell? ⟨gWa, 1, none⟩ = some (.int .i64 0) ∧ Wa.cell? ⟨gWa, 2, none⟩ = some (.int .i64 0) ∧ Wa.cell? ⟨gWa, 3, none⟩ = some (.int .i64 0) ∧ Wa.cell? ⟨gWa, 4, none⟩ = some (.int .i64 0) ∧ Wa.cell? ⟨gWa, 5, none⟩ = some (.int .i64 0) from (RWa.out).1)
  go_wp2
  go_ret
  exact ⟨rfl, (by (repeat (first | with_reducible exact Kept.refl _ | with_reducible apply Kept.drew | with_reducible apply Kept.alloc | ((with_reducible apply Kept.set); focus (simp <;> omega)) | ((with_reducible apply Kept.via); focus with_reducible assumption))))⟩
set_option maxRecDepth 100000 in
set_option maxHeartbeats 1600000 in
theorem begins11_n2 (CC : ECheckC) (KC_ : EKC) (FC : EFastC) (BC : EBeginC) (SC : EShiftC) {a n m : Int} (ia : In64 a) (in_ : In64 n) (im : In64 m) (e : BeginIs a n m (⟨false, 0, 0, 0, 0, 0⟩ : Ep) 201) (d0 : decide (a < 0) = false) (d1 : decide (1099511627776 < a) = false) (d2 : decide (n < 0) = true) (w : World) (T_ : Tens w) : Calls Tryd.prog 6 #[.int .i64 a, .int .i64 n, .int .i64 m] w fun e w' => e = .returned (.bool true) ∧ Kept w w' := by
  have CC' := Lib.hid CC
  have KC' := Lib.hid KC_
  have FC' := Lib.hid FC
  have BC' := Lib.hid BC
  have SC' := Lib.hid SC
  have AW' := Lib.hid (fun w TT_ => awake11 CC KC_ FC BC SC w TT_)
  clear CC KC_ FC BC SC
  have T := Lib.hid T_
  clear T_
  have QB := Lib.hid (fun w TT_ => BC'.out a n m (⟨false, 0, 0, 0, 0, 0⟩ : Ep) 201 ia in_ im e w TT_)
  clear ia in_ im e
  go_enter Tryd.func6, Tryd.ntmps6
  go_wp2_with fail
  refine (AW'.out _ (Tens.kept T.out (by (repeat (first | with_reducible exact Kept.refl _ | with_reducible apply Kept.drew | with_reducible apply Kept.alloc | ((with_reducible apply Kept.set); focus (simp <;> omega)) | ((with_reducible apply Kept.via); focus with_reducible assumption)))))).mono ?_
  rintro e w1 ⟨rfl, k1⟩
  go_wp2_with fail
  refine (QB.out _ (Tens.kept T.out (by (repeat (first | with_reducible exact Kept.refl _ | with_reducible apply Kept.drew | with_reducible apply Kept.alloc | ((with_reducible apply Kept.set); focus (simp <;> omega)) | ((with_reducible apply Kept.via); focus with_reducible assumption)))))).mono ?_
  rintro e w2 ⟨rfl, k2⟩
  go_upto_region 3 with fail
  generalize hW : World.alloc w2 (.cells #[.bool false, .int .i64 0, .int .i64 0, .int .i64 0, .int .i64 0, .int .i64 0] 23) = Wa
  have KWa : Kept w2 Wa := by subst hW; exact (Kept.refl _).alloc _ _
  have RWa := Lib.hid (show RE Wa w2.heap.size (⟨false, 0, 0, 0, 0, 0⟩ : Ep) from by subst hW; exact re_new w2 (⟨false, 0, 0, 0, 0, 0⟩ : Ep) _)
  have LWa : w2.heap.size < Wa.heap.size := by subst hW; simp
  clear hW
  generalize hgWa : w2.heap.size = gWa at *
  obtain ⟨c0, c1, c2, c3, c4, c5⟩ := (show Wa.cell? ⟨gWa, 0, none⟩ = some (.bool false) ∧ Wa.cell? ⟨gWa, 1, none⟩ = some (.int .i64 0) ∧ Wa.cell? ⟨gWa, 2, none⟩ = some (.int .i64 0) ∧ Wa.cell? ⟨gWa, 3, none⟩ = some (.int .i64 0) ∧ Wa.cell? ⟨gWa, 4, none⟩ = some (.int .i64 0) ∧ Wa.cell? ⟨gWa, 5, none⟩ = some (.int .i64 0) from (RWa.out).1)
  go_wp2
  go_ret
  exact ⟨rfl, (by (repeat (first | with_reducible exact Kept.refl _ | with_reducible apply Kept.drew | with_reducible apply Kept.alloc | ((with_reducible apply Kept.set); focus (simp <;> omega)) | ((with_reducible apply Kept.via); focus with_reducible assumption))))⟩
set_option maxRecDepth 100000 in
set_option maxHeartbeats 1600000 in
theorem begins11_n3 (CC : ECheckC) (KC_ : EKC) (FC : EFastC) (BC : EBeginC) (SC : EShiftC) {a n m : Int} (ia : In64 a) (in_ : In64 n) (im : In64 m) (e : BeginIs a n m (⟨false, 0, 0, 0, 0, 0⟩ : Ep) 201) (d0 : decide (a < 0) = false) (d1 : decide (1099511627776 < a) = false) (d2 : decide (n < 0) = false) (d3 : decide (68719476736 < n) = true) (w : World) (T_ : Tens w) : Calls Tryd.prog 6 #[.int .i64 a, .int .i64 n, .int .i64 m] w fun e w' => e = .returned (.bool true) ∧ Kept w w' := by
  have CC' := Lib.hid CC
  have KC' := Lib.hid KC_
  have FC' := Lib.hid FC
  have BC' := Lib.hid BC
  have SC' := Lib.hid SC
  have AW' := Lib.hid (fun w TT_ => awake11 CC KC_ FC BC SC w TT_)
  clear CC KC_ FC BC SC
  have T := Lib.hid T_
  clear T_
  have QB := Lib.hid (fun w TT_ => BC'.out a n m (⟨false, 0, 0, 0, 0, 0⟩ : Ep) 201 ia in_ im e w TT_)
  clear ia in_ im e
  go_enter Tryd.func6, Tryd.ntmps6
  go_wp2_with fail
  refine (AW'.out _ (Tens.kept T.out (by (repeat (first | with_reducible exact Kept.refl _ | with_reducible apply Kept.drew | with_reducible apply Kept.alloc | ((with_reducible apply Kept.set); focus (simp <;> omega)) | ((with_reducible apply Kept.via); focus with_reducible assumption)))))).mono ?_
  rintro e w1 ⟨rfl, k1⟩
  go_wp2_with fail
  refine (QB.out _ (Tens.kept T.out (by (repeat (first | with_reducible exact Kept.refl _ | with_reducible apply Kept.drew | with_reducible apply Kept.alloc | ((with_reducible apply Kept.set); focus (simp <;> omega)) | ((with_reducible apply Kept.via); focus with_reducible assumption)))))).mono ?_
  rintro e w2 ⟨rfl, k2⟩
  go_upto_region 3 with fail
  generalize hW : World.alloc w2 (.cells #[.bool false, .int .i64 0, .int .i64 0, .int .i64 0, .int .i64 0, .int .i64 0] 23) = Wa
  have KWa : Kept w2 Wa := by subst hW; exact (Kept.refl _).alloc _ _
  have RWa := Lib.hid (show RE Wa w2.heap.size (⟨false, 0, 0, 0, 0, 0⟩ : Ep) from by subst hW; exact re_new w2 (⟨false, 0, 0, 0, 0, 0⟩ : Ep) _)
  have LWa : w2.heap.size < Wa.heap.size := by subst hW; simp
  clear hW
  generalize hgWa : w2.heap.size = gWa at *
  obtain ⟨c0, c1, c2, c3, c4, c5⟩ := (show Wa.cell? ⟨gWa, 0, none⟩ = some (.bool false) ∧ Wa.cell? ⟨gWa, 1, none⟩ = some (.int .i64 0) ∧ Wa.cell? ⟨gWa, 2, none⟩ = some (.int .i64 0) ∧ Wa.cell? ⟨gWa, 3, none⟩ = some (.int .i64 0) ∧ Wa.cell? ⟨gWa, 4, none⟩ = some (.int .i64 0) ∧ Wa.cell? ⟨gWa, 5, none⟩ = some (.int .i64 0) from (RWa.out).1)
  go_wp2
  go_ret
  exact ⟨rfl, (by (repeat (first | with_reducible exact Kept.refl _ | with_reducible apply Kept.drew | with_reducible apply Kept.alloc | ((with_reducible apply Kept.set); focus (simp <;> omega)) | ((with_reducible apply Kept.via); focus with_reducible assumption))))⟩
set_option maxRecDepth 100000 in
set_option maxHeartbeats 1600000 in
theorem begins11_n4 (CC : ECheckC) (KC_ : EKC) (FC : EFastC) (BC : EBeginC) (SC : EShiftC) {a n m : Int} (ia : In64 a) (in_ : In64 n) (im : In64 m) (e : BeginIs a n m (⟨false, 0, 0, 0, 0, 0⟩ : Ep) 201) (d0 : decide (a < 0) = false) (d1 : decide (1099511627776 < a) = false) (d2 : decide (n < 0) = false) (d3 : decide (68719476736 < n) = false) (d4 : decide (m < 0) = true) (w : World) (T_ : Tens w) : Calls Tryd.prog 6 #[.int .i64 a, .int .i64 n, .int .i64 m] w fun e w' => e = .returned (.bool true) ∧ Kept w w' := by
  have CC' := Lib.hid CC
  have KC' := Lib.hid KC_
  have FC' := Lib.hid FC
  have BC' := Lib.hid BC
  have SC' := Lib.hid SC
  have AW' := Lib.hid (fun w TT_ => awake11 CC KC_ FC BC SC w TT_)
  clear CC KC_ FC BC SC
  have T := Lib.hid T_
  clear T_
  have QB := Lib.hid (fun w TT_ => BC'.out a n m (⟨false, 0, 0, 0, 0, 0⟩ : Ep) 201 ia in_ im e w TT_)
  clear ia in_ im e
  go_enter Tryd.func6, Tryd.ntmps6
  go_wp2_with fail
  refine (AW'.out _ (Tens.kept T.out (by (repeat (first | with_reducible exact Kept.refl _ | with_reducible apply Kept.drew | with_reducible apply Kept.alloc | ((with_reducible apply Kept.set); focus (simp <;> omega)) | ((with_reducible apply Kept.via); focus with_reducible assumption)))))).mono ?_
  rintro e w1 ⟨rfl, k1⟩
  go_wp2_with fail
  refine (QB.out _ (Tens.kept T.out (by (repeat (first | with_reducible exact Kept.refl _ | with_reducible apply Kept.drew | with_reducible apply Kept.alloc | ((with_reducible apply Kept.set); focus (simp <;> omega)) | ((with_reducible apply Kept.via); focus with_reducible assumption)))))).mono ?_
  rintro e w2 ⟨rfl, k2⟩
  go_upto_region 3 with fail
  generalize hW : World.alloc w2 (.cells #[.bool false, .int .i64 0, .int .i64 0, .int .i64 0, .int .i64 0, .int .i64 0] 23) = Wa
  have KWa : Kept w2 Wa := by subst hW; exact (Kept.refl _).alloc _ _
  have RWa := Lib.hid (show RE Wa w2.heap.size (⟨false, 0, 0, 0, 0, 0⟩ : Ep) from by subst hW; exact re_new w2 (⟨false, 0, 0, 0, 0, 0⟩ : Ep) _)
  have LWa : w2.heap.size < Wa.heap.size := by subst hW; simp
  clear hW
  generalize hgWa : w2.heap.size = gWa at *
  obtain ⟨c0, c1, c2, c3, c4, c5⟩ := (show Wa.cell? ⟨gWa, 0, none⟩ = some (.bool false) ∧ Wa.cell? ⟨gWa, 1, none⟩ = some (.int .i64 0) ∧ Wa.cell? ⟨gWa, 2, none⟩ = some (.int .i64 0) ∧ Wa.cell? ⟨gWa, 3, none⟩ = some (.int .i64 0) ∧ Wa.cell? ⟨gWa, 4, none⟩ = some (.int .i64 0) ∧ Wa.cell? ⟨gWa, 5, none⟩ = some (.int .i64 0) from (RWa.out).1)
  go_wp2
  go_ret
  exact ⟨rfl, (by (repeat (first | with_reducible exact Kept.refl _ | with_reducible apply Kept.drew | with_reducible apply Kept.alloc | ((with_reducible apply Kept.set); focus (simp <;> omega)) | ((with_reducible apply Kept.via); focus with_reducible assumption))))⟩
set_option maxRecDepth 100000 in
set_option maxHeartbeats 1600000 in
theorem begins11_n5 (CC : ECheckC) (KC_ : EKC) (FC : EFastC) (BC : EBeginC) (SC : EShiftC) {a n m : Int} (ia : In64 a) (in_ : In64 n) (im : In64 m) (e : BeginIs a n m (⟨false, 0, 0, 0, 0, 0⟩ : Ep) 201) (d0 : decide (a < 0) = false) (d1 : decide (1099511627776 < a) = false) (d2 : decide (n < 0) = false) (d3 : decide (68719476736 < n) = false) (d4 : decide (m < 0) = false) (d5 : decide (68719476736 < m) = true) (w : World) (T_ : Tens w) : Calls Tryd.prog 6 #[.int .i64 a, .int .i64 n, .int .i64 m] w fun e w' => e = .returned (.bool true) ∧ Kept w w' := by
  have CC' := Lib.hid CC
  have KC' := Lib.hid KC_
  have FC' := Lib.hid FC
  have BC' := Lib.hid BC
  have SC' := Lib.hid SC
  have AW' := Lib.hid (fun w TT_ => awake11 CC KC_ FC BC SC w TT_)
  clear CC KC_ FC BC SC
  have T := Lib.hid T_
  clear T_
  have QB := Lib.hid (fun w TT_ => BC'.out a n m (⟨false, 0, 0, 0, 0, 0⟩ : Ep) 201 ia in_ im e w TT_)
  clear ia in_ im e
  go_enter Tryd.func6, Tryd.ntmps6
  go_wp2_with fail
  refine (AW'.out _ (Tens.kept T.out (by (repeat (first | with_reducible exact Kept.refl _ | with_reducible apply Kept.drew | with_reducible apply Kept.alloc | ((with_reducible apply Kept.set); focus (simp <;> omega)) | ((with_reducible apply Kept.via); focus with_reducible assumption)))))).mono ?_
  rintro e w1 ⟨rfl, k1⟩
  go_wp2_with fail
  refine (QB.out _ (Tens.kept T.out (by (repeat (first | with_reducible exact Kept.refl _ | with_reducible apply Kept.drew | with_reducible apply Kept.alloc | ((with_reducible apply Kept.set); focus (simp <;> omega)) | ((with_reducible apply Kept.via); focus with_reducible assumption)))))).mono ?_
  rintro e w2 ⟨rfl, k2⟩
  go_upto_region 3 with fail
  generalize hW : World.alloc w2 (.cells #[.bool false, .int .i64 0, .int .i64 0, .int .i64 0, .int .i64 0, .int .i64 0] 23) = Wa
  have KWa : Kept w2 Wa := by subst hW; exact (Kept.refl _).alloc _ _
  have RWa := Lib.hid (show RE Wa w2.heap.size (⟨false, 0, 0, 0, 0, 0⟩ : Ep) from by subst hW; exact re_new w2 (⟨false, 0, 0, 0, 0, 0⟩ : Ep) _)
  have LWa : w2.heap.size < Wa.heap.size := by subst hW; simp
  clear hW
  generalize hgWa : w2.heap.size = gWa at *
  obtain ⟨c0, c1, c2, c3, c4, c5⟩ := (show Wa.cell? ⟨gWa, 0, none⟩ = some (.bool false) ∧ Wa.cell? ⟨gWa, 1, none⟩ = some (.int .i64 0) ∧ Wa.cell? ⟨gWa, 2, none⟩ = some (.int .i64 0) ∧ Wa.cell? ⟨gWa, 3, none⟩ = some (.int .i64 0) ∧ Wa.cell? ⟨gWa, 4, none⟩ = some (.int .i64 0) ∧ Wa.cell? ⟨gWa, 5, none⟩ = some (.int .i64 0) from (RWa.out).1)
  go_wp2
  go_ret
  exact ⟨rfl, (by (repeat (first | with_reducible exact Kept.refl _ | with_reducible apply Kept.drew | with_reducible apply Kept.alloc | ((with_reducible apply Kept.set); focus (simp <;> omega)) | ((with_reducible apply Kept.via); focus with_reducible assumption))))⟩
set_option maxRecDepth 100000 in
set_option maxHeartbeats 1600000 in
theorem begins11_hi (CC : ECheckC) (KC_ : EKC) (FC : EFastC) (BC : EBeginC) (SC : EShiftC) {a n m mx k : Int} (ia : In64 a) (in_ : In64 n) (im : In64 m) (e : BeginIs a n m (⟨true, a, n, mx, k, n⟩ : Ep) 0) (em : (if n < m then m else n) = mx) (d0 : decide (n < m) = true) (w : World) (T_ : Tens w) : Calls Tryd.prog 6 #[.int .i64 a, .int .i64 n, .int .i64 m] w fun e w' => e = .returned (.bool true) ∧ Kept w w' := by
  have CC' := Lib.hid CC
  have KC' := Lib.hid KC_
  have FC' := Lib.hid FC
  have BC' := Lib.hid BC
  have SC' := Lib.hid SC
  have AW' := Lib.hid (fun w TT_ => awake11 CC KC_ FC BC SC w TT_)
  clear CC KC_ FC BC SC
  have T := Lib.hid T_
  clear T_
  have QB := Lib.hid (fun w TT_ => BC'.out a n m (⟨true, a, n, mx, k, n⟩ : Ep) 0 ia in_ im e w TT_)
  have QC := Lib.hid (fun w TT_ => CC'.out (⟨true, a, n, mx, k, n⟩ : Ep) true (begin_in64 e) ⟨fun _ => begin_may e, fun _ => rfl⟩ w TT_)
  clear ia in_ im e
  go_enter Tryd.func6, Tryd.ntmps6
  go_wp2_with fail
  refine (AW'.out _ (Tens.kept T.out (by (repeat (first | with_reducible exact Kept.refl _ | with_reducible apply Kept.drew | with_reducible apply Kept.alloc | ((with_reducible apply Kept.set); focus (simp <;> omega)) | ((with_reducible apply Kept.via); focus with_reducible assumption)))))).mono ?_
  rintro e w1 ⟨rfl, k1⟩
  go_wp2_with fail
  refine (QB.out _ (Tens.kept T.out (by (repeat (first | with_reducible exact Kept.refl _ | with_reducible apply Kept.drew | with_reducible apply Kept.alloc | ((with_reducible apply Kept.set); focus (simp <;> omega)) | ((with_reducible apply Kept.via); focus with_reducible assumption)))))).mono ?_
  rintro e w2 ⟨rfl, k2⟩
  go_upto_region 3 with fail
  generalize hW : World.alloc w2 (.cells #[.bool true, .int .i64 a, .int .i64 n, .int .i64 mx, .int .i64 k, .int .i64 n] 23) = Wa
  have KWa : Kept w2 Wa := by subst hW; exact (Kept.refl _).alloc _ _
  have RWa := Lib.hid (show RE Wa w2.heap.size (⟨true, a, n, mx, k, n⟩ : Ep) from by subst hW; exact re_new w2 (⟨true, a, n, mx, k, n⟩ : Ep) _)
  have LWa : w2.heap.size < Wa.heap.size := by subst hW; simp
  clear hW
  generalize hgWa : w2.heap.size = gWa at *
  obtain ⟨c0, c1, c2, c3, c4, c5⟩ := (show Wa.cell? ⟨gWa, 0, none⟩ = some (.bool true) ∧ Wa.cell? ⟨gWa, 1, none⟩ = some (.int .i64 a) ∧ Wa.cell? ⟨gWa, 2, none⟩ = some (.int .i64 n) ∧ Wa.cell? ⟨gWa, 3, none⟩ = some (.int .i64 mx) ∧ Wa.cell? ⟨gWa, 4, none⟩ = some (.int .i64 k) ∧ Wa.cell? ⟨gWa, 5, none⟩ = some (.int .i64 n) from (RWa.out).1)
  go_wp2_with fail
  refine (QC.out _ (Tens.kept T.out (by (repeat (first | with_reducible exact Kept.refl _ | with_reducible apply Kept.drew | with_reducible apply Kept.alloc | ((with_reducible apply Kept.set); focus (simp <;> omega)) | ((with_reducible apply Kept.via); focus with_reducible assumption)))))).mono ?_
  rintro e w3 ⟨rfl, k3⟩
  clear c0 c1 c2 c3 c4 c5
  have R2 := Lib.hid (RWa.out.kept k3)
  obtain ⟨c0, c1, c2, c3, c4, c5⟩ := (show w3.cell? ⟨gWa, 0, none⟩ = some (.bool true) ∧ w3.cell? ⟨gWa, 1, none⟩ = some (.int .i64 a) ∧ w3.cell? ⟨gWa, 2, none⟩ = some (.int .i64 n) ∧ w3.cell? ⟨gWa, 3, none⟩ = some (.int .i64 mx) ∧ w3.cell? ⟨gWa, 4, none⟩ = some (.int .i64 k) ∧ w3.cell? ⟨gWa, 5, none⟩ = some (.int .i64 n) from (R2.out).1)
  go_wp2
  go_ret
  exact ⟨rfl, (by (repeat (first | with_reducible exact Kept.refl _ | with_reducible apply Kept.drew | with_reducible apply Kept.alloc | ((with_reducible apply Kept.set); focus (simp <;> omega)) | ((with_reducible apply Kept.via); focus with_reducible assumption))))⟩
set_option maxRecDepth 100000 in
set_option maxHeartbeats 1600000 in
theorem begins11_lo (CC : ECheckC) (KC_ : EKC) (FC : EFastC) (BC : EBeginC) (SC : EShiftC) {a n m mx : Int} (ia : In64 a) (in_ : In64 n) (im : In64 m) (e : BeginIs a n m (⟨true, a, n, mx, 0, n⟩ : Ep) 0) (em : (if n < m then m else n) = mx) (d0 : decide (n < m) = false) (w : World) (T_ : Tens w) : Calls Tryd.prog 6 #[.int .i64 a, .int .i64 n, .int .i64 m] w fun e w' => e = .returned (.bool true) ∧ Kept w w' := by
  have CC' := Lib.hid CC
  have KC' := Lib.hid KC_
  have FC' := Lib.hid FC
  have BC' := Lib.hid BC
  have SC' := Lib.hid SC
  have AW' := Lib.hid (fun w TT_ => awake11 CC KC_ FC BC SC w TT_)
  clear CC KC_ FC BC SC
  have T := Lib.hid T_
  clear T_
  have QB := Lib.hid (fun w TT_ => BC'.out a n m (⟨true, a, n, mx, 0, n⟩ : Ep) 0 ia in_ im e w TT_)
  have QC := Lib.hid (fun w TT_ => CC'.out (⟨true, a, n, mx, 0, n⟩ : Ep) true (begin_in64 e) ⟨fun _ => begin_may e, fun _ => rfl⟩ w TT_)
  clear ia in_ im e
  go_enter Tryd.func6, Tryd.ntmps6
  go_wp2_with fail
  refine (AW'.out _ (Tens.kept T.out (by (repeat (first | with_reducible exact Kept.refl _ | with_reducible apply Kept.drew | with_reducible apply Kept.alloc | ((with_reducible apply Kept.set); focus (simp <;> omega)) | ((with_reducible apply Kept.via); focus with_reducible assumption)))))).mono ?_
  rintro e w1 ⟨rfl, k1⟩
  go_wp2_with fail
  refine (QB.out _ (Tens.kept T.out (by (repeat (first | with_reducible exact Kept.refl _ | with_reducible apply Kept.drew | with_reducible apply Kept.alloc | ((with_reducible apply Kept.set); focus (simp <;> omega)) | ((with_reducible apply Kept.via); focus with_reducible assumption)))))).mono ?_
  rintro e w2 ⟨rfl, k2⟩
  go_upto_region 3 with fail
  generalize hW : World.alloc w2 (.cells #[.bool true, .int .i64 a, .int .i64 n, .int .i64 mx, .int .i64 0, .int .i64 n] 23) = Wa
  have KWa : Kept w2 Wa := by subst hW; exact (Kept.refl _).alloc _ _
  have RWa := Lib.hid (show RE Wa w2.heap.size (⟨true, a, n, mx, 0, n⟩ : Ep) from by subst hW; exact re_new w2 (⟨true, a, n, mx, 0, n⟩ : Ep) _)
  have LWa : w2.heap.size < Wa.heap.size := by subst hW; simp
  clear hW
  generalize hgWa : w2.heap.size = gWa at *
  obtain ⟨c0, c1, c2, c3, c4, c5⟩ := (show Wa.cell? ⟨gWa, 0, none⟩ = some (.bool true) ∧ Wa.cell? ⟨gWa, 1, none⟩ = some (.int .i64 a) ∧ Wa.cell? ⟨gWa, 2, none⟩ = some (.int .i64 n) ∧ Wa.cell? ⟨gWa, 3, none⟩ = some (.int .i64 mx) ∧ Wa.cell? ⟨gWa, 4, none⟩ = some (.int .i64 0) ∧ Wa.cell? ⟨gWa, 5, none⟩ = some (.int .i64 n) from (RWa.out).1)
  go_wp2_with fail
  refine (QC.out _ (Tens.kept T.out (by (repeat (first | with_reducible exact Kept.refl _ | with_reducible apply Kept.drew | with_reducible apply Kept.alloc | ((with_reducible apply Kept.set); focus (simp <;> omega)) | ((with_reducible apply Kept.via); focus with_reducible assumption)))))).mono ?_
  rintro e w3 ⟨rfl, k3⟩
  clear c0 c1 c2 c3 c4 c5
  have R2 := Lib.hid (RWa.out.kept k3)
  obtain ⟨c0, c1, c2, c3, c4, c5⟩ := (show w3.cell? ⟨gWa, 0, none⟩ = some (.bool true) ∧ w3.cell? ⟨gWa, 1, none⟩ = some (.int .i64 a) ∧ w3.cell? ⟨gWa, 2, none⟩ = some (.int .i64 n) ∧ w3.cell? ⟨gWa, 3, none⟩ = some (.int .i64 mx) ∧ w3.cell? ⟨gWa, 4, none⟩ = some (.int .i64 0) ∧ w3.cell? ⟨gWa, 5, none⟩ = some (.int .i64 n) from (R2.out).1)
  go_wp2
  go_ret
  exact ⟨rfl, (by (repeat (first | with_reducible exact Kept.refl _ | with_reducible apply Kept.drew | with_reducible apply Kept.alloc | ((with_reducible apply Kept.set); focus (simp <;> omega)) | ((with_reducible apply Kept.via); focus with_reducible assumption))))⟩
theorem epochBegins_walk (CC : ECheckC) (KC_ : EKC) (FC : EFastC) (BC : EBeginC) (SC : EShiftC) (a n m : Int) (w : World) (T_ : Tens w) (ia : In64 a) (in_ : In64 n) (im : In64 m) : Calls Tryd.prog 6 #[.int .i64 a, .int .i64 n, .int .i64 m] w fun e w' => e = .returned (.bool true) ∧ Kept w w' := by
  by_cases h : IsTime a ∧ IsWin n ∧ IsWin m
  · obtain ⟨k, hk⟩ := k_ex ((if m < n then n else m) - n)
    have e : BeginIs a n m ⟨true, a, n, if m < n then n else m, k, n⟩ 0 := Or.inr ⟨h.1, h.2.1, h.2.2, rfl, k, hk, rfl⟩
    by_cases o : n < m
    · exact begins11_hi CC KC_ FC BC SC ia in_ im e (by rw [if_pos o, if_neg (by omega)]) (by simp [o]) w T_
    · have k0 := k_zero hk (by split <;> omega)
      subst k0
      exact begins11_lo CC KC_ FC BC SC ia in_ im e (by rw [if_neg o]; split <;> omega) (by simp; omega) w T_
  · have e : BeginIs a n m Ep.new 201 := Or.inl ⟨h, rfl, rfl⟩
    unfold IsTime IsWin at h
    by_cases h0 : a < 0
    · exact begins11_n0 CC KC_ FC BC SC ia in_ im e (by simp; omega) w T_
    by_cases h1 : 1099511627776 < a
    · exact begins11_n1 CC KC_ FC BC SC ia in_ im e (by simp; omega) (by simp; omega) w T_
    by_cases h2 : n < 0
    · exact begins11_n2 CC KC_ FC BC SC ia in_ im e (by simp; omega) (by simp; omega) (by simp; omega) w T_
    by_cases h3 : 68719476736 < n
    · exact begins11_n3 CC KC_ FC BC SC ia in_ im e (by simp; omega) (by simp; omega) (by simp; omega) (by simp; omega) w T_
    by_cases h4 : m < 0
    · exact begins11_n4 CC KC_ FC BC SC ia in_ im e (by simp; omega) (by simp; omega) (by simp; omega) (by simp; omega) (by simp; omega) w T_
    by_cases h5 : 68719476736 < m
    · exact begins11_n5 CC KC_ FC BC SC ia in_ im e (by simp; omega) (by simp; omega) (by simp; omega) (by simp; omega) (by simp; omega) (by simp; omega) w T_
    omega
end Go.Proofs.YtjdccfaifdokpaaDoor
