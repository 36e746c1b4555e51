/-
  The walk of RateParts: it answers true, if the calls do what they are to do.
-/
import Derived.Test.YtjfeobkkkgalaaaAwake17
import Derived.Deep.RegionHeld3
import Derived.Deep.DeepCutAuto
namespace Go.Proofs.Ytjfeobkkkgalaaa
open Go.RowKit Go.BigFrame
set_option linter.unusedVariables false

set_option maxRecDepth 100000 in
set_option maxHeartbeats 1600000 in
theorem parts17_top (GC : VGainC) (FC : VFirstC) (OC : VOfC) (SC : VSpanC) {a b n x y z : Int} (a0 : 0 ≤ a) (a1 : a ≤ 4294967295) (b0 : 0 ≤ b) (b1 : b ≤ 4294967295) (n0 : 0 ≤ n) (n1 : n ≤ 4294967295) (f0 : spanT a (1 + n) = x) (f1 : spanT b (1 + n) = y) (f2 : spanT (a + b) (1 + n) = z) (x0 : 0 ≤ x) (x1 : x ≤ 1099511627776) (y0 : 0 ≤ y) (y1 : y ≤ 1099511627776) (z0 : 0 ≤ z) (z1 : z ≤ 1099511627776) (h : z = 1099511627776) (w : World) : Calls Try.prog 7 #[.int .u32 a, .int .u32 b, .int .u32 n] w fun e w' => e = .returned (.bool true) ∧ Kept w w' := by
  have GC' := Lib.hid GC
  have FC' := Lib.hid FC
  have OC' := Lib.hid OC
  have SC' := Lib.hid SC
  have AW' := Lib.hid (fun w => awake17 GC FC OC SC w)
  clear GC FC OC SC
  have Q0 := Lib.hid (fun w_ => SC'.out a (1 + n) x (by unfold In64; omega) (by unfold In64; omega) f0 w_)
  have Q1 := Lib.hid (fun w_ => SC'.out b (1 + n) y (by unfold In64; omega) (by unfold In64; omega) f1 w_)
  have Q2 := Lib.hid (fun w_ => SC'.out (a + b) (1 + n) z (by unfold In64; omega) (by unfold In64; omega) f2 w_)
  clear f0 f1 f2
  subst h
  go_enter Try.func7, Try.ntmps7
  go_wp2_with fail
  refine (AW'.out _).mono ?_
  rintro e w20 ⟨rfl, k20⟩
  go_wp2_with fail
  refine (Q0.out _).mono ?_
  rintro e w21 ⟨rfl, k21⟩
  go_wp2_with fail
  refine (Q1.out _).mono ?_
  rintro e w22 ⟨rfl, k22⟩
  go_wp2_with fail
  refine (Q2.out _).mono ?_
  rintro e w23 ⟨rfl, k23⟩
  go_wp2
  go_ret
  exact ⟨rfl, (by (repeat (first | with_reducible exact Kept.refl _ | with_reducible apply Kept.drew | with_reducible apply Kept.alloc | ((with_reducible apply Kept.set); focus (simp <;> omega)) | ((with_reducible apply Kept.via); focus with_reducible assumption))))⟩
set_option maxRecDepth 100000 in
set_option maxHeartbeats 1600000 in
theorem parts17_in (GC : VGainC) (FC : VFirstC) (OC : VOfC) (SC : VSpanC) {a b n x y z : Int} (a0 : 0 ≤ a) (a1 : a ≤ 4294967295) (b0 : 0 ≤ b) (b1 : b ≤ 4294967295) (n0 : 0 ≤ n) (n1 : n ≤ 4294967295) (f0 : spanT a (1 + n) = x) (f1 : spanT b (1 + n) = y) (f2 : spanT (a + b) (1 + n) = z) (x0 : 0 ≤ x) (x1 : x ≤ 1099511627776) (y0 : 0 ≤ y) (y1 : y ≤ 1099511627776) (z0 : 0 ≤ z) (z1 : z ≤ 1099511627776) (h : ¬ z = 1099511627776) (o0 : z ≤ x + y) (o1 : x + y - z ≤ 1) (w : World) : Calls Try.prog 7 #[.int .u32 a, .int .u32 b, .int .u32 n] w fun e w' => e = .returned (.bool true) ∧ Kept w w' := by
  have GC' := Lib.hid GC
  have FC' := Lib.hid FC
  have OC' := Lib.hid OC
  have SC' := Lib.hid SC
  have AW' := Lib.hid (fun w => awake17 GC FC OC SC w)
  clear GC FC OC SC
  have Q0 := Lib.hid (fun w_ => SC'.out a (1 + n) x (by unfold In64; omega) (by unfold In64; omega) f0 w_)
  have Q1 := Lib.hid (fun w_ => SC'.out b (1 + n) y (by unfold In64; omega) (by unfold In64; omega) f1 w_)
  have Q2 := Lib.hid (fun w_ => SC'.out (a + b) (1 + n) z (by unfold In64; omega) (by unfold In64; omega) f2 w_)
  clear f0 f1 f2
  have d0 : decide (z ≤ x + y) = true := by simp [o0]
  have d1 : decide (x + y - z ≤ 1) = true := by simp [o1]
  go_enter Try.func7, Try.ntmps7
  go_wp2_with fail
  refine (AW'.out _).mono ?_
  rintro e w20 ⟨rfl, k20⟩
  go_wp2_with fail
  refine (Q0.out _).mono ?_
  rintro e w21 ⟨rfl, k21⟩
  go_wp2_with fail
  refine (Q1.out _).mono ?_
  rintro e w22 ⟨rfl, k22⟩
  go_wp2_with fail
  refine (Q2.out _).mono ?_
  rintro e w23 ⟨rfl, k23⟩
  go_wp2
  go_ret
  exact ⟨rfl, (by (repeat (first | with_reducible exact Kept.refl _ | with_reducible apply Kept.drew | with_reducible apply Kept.alloc | ((with_reducible apply Kept.set); focus (simp <;> omega)) | ((with_reducible apply Kept.via); focus with_reducible assumption))))⟩
theorem rateParts_walk (GC : VGainC) (FC : VFirstC) (OC : VOfC) (SC : VSpanC) (a b n : Int) (w : World) (a0 : 0 ≤ a) (a1 : a ≤ 4294967295) (b0 : 0 ≤ b) (b1 : b ≤ 4294967295) (n0 : 0 ≤ n) (n1 : n ≤ 4294967295) : Calls Try.prog 7 #[.int .u32 a, .int .u32 b, .int .u32 n] w fun e w' => e = .returned (.bool true) ∧ Kept w w' := by
  have rx := span_range a (1 + n)
  have ry := span_range b (1 + n)
  have rz := span_range (a + b) (1 + n)
  have q := span_parts (a := a) (b := b) (r := 1 + n) a0 b0 (by omega)
  by_cases h : spanT (a + b) (1 + n) = 1099511627776
  · exact parts17_top GC FC OC SC a0 a1 b0 b1 n0 n1 rfl rfl rfl rx.1 rx.2 ry.1 ry.2 rz.1 rz.2 h w
  · rcases q with q | q
    · exact absurd q h
    · exact parts17_in GC FC OC SC a0 a1 b0 b1 n0 n1 rfl rfl rfl rx.1 rx.2 ry.1 ry.2 rz.1 rz.2 h q.1 q.2 w
end Go.Proofs.Ytjfeobkkkgalaaa
