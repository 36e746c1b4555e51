/-
  The walk of LeastSince: it answers true, if the calls do what they are to do.
-/
import Derived.Test.YtpbchcpbjflnoaaAwake08
import Derived.Test.YtpbchcpbjflnoaaRef08
import Derived.Deep.DeepCutAuto
namespace Go.Proofs.Ytpbchcpbjflnoaa
open Go.RowKit Go.BigFrame
set_option linter.unusedVariables false

set_option maxRecDepth 100000 in
set_option maxHeartbeats 1600000 in
theorem since8_long {A : Option Addr} {len cap : Nat} {l : List (Int × Int)} {a c at_ : Int} (hl : 100 < len) (hm : len ≤ 9223372036854775807) (AW : ∀ w, Calls Try.prog 9 #[] w fun e w' => e = .returned (.bool true) ∧ Kept w w') (w : World) (hr : RowM w A l) : Calls Try.prog 5 #[.slice A len cap, .int .u32 a, .int .u32 c, .int .i64 at_] w fun e w' => e = .returned (.bool true) ∧ Kept w w' := by
  have HR := Lib.hid hr
  clear hr
  have AW' := Lib.hid AW
  clear AW
  have hd : decide ((100 : Int) < (len : Int)) = true := by simp; omega
  go_enter Try.func5, Try.ntmps5
  go_wp2_with fail
  refine (AW'.out _).mono ?_
  rintro e w1 ⟨rfl, k1⟩
  go_wp2
  go_ret
  exact ⟨rfl, (by (repeat (first | with_reducible exact Kept.refl _ | with_reducible apply Kept.drew | with_reducible apply Kept.alloc | ((with_reducible apply Kept.set); focus (simp <;> omega)) | ((with_reducible apply Kept.via); focus with_reducible assumption))))⟩
set_option maxRecDepth 100000 in
set_option maxHeartbeats 1600000 in
theorem since8_bad {A : Option Addr} {len cap : Nat} {l : List (Int × Int)} {a c at_ : Int} (hl : len ≤ 100) (AW : ∀ w, Calls Try.prog 9 #[] w fun e w' => e = .returned (.bool true) ∧ Kept w w') (C1 : ∀ w, RowM w A l → Calls Try.prog 17 #[.slice A len cap] w fun e w' => e = .returned (.bool false) ∧ Kept w w') (w : World) (hr : RowM w A l) : Calls Try.prog 5 #[.slice A len cap, .int .u32 a, .int .u32 c, .int .i64 at_] w fun e w' => e = .returned (.bool true) ∧ Kept w w' := by
  have HR := Lib.hid hr
  clear hr
  have AW' := Lib.hid AW
  have C1' := Lib.hid C1
  clear AW C1
  have hd : decide ((100 : Int) < (len : Int)) = false := by simp; omega
  go_enter Try.func5, Try.ntmps5
  go_wp2_with fail
  refine (AW'.out _).mono ?_
  rintro e w1 ⟨rfl, k1⟩
  go_wp2_with fail
  refine (C1'.out _ (HR.out.kept k1)).mono ?_
  rintro e w2 ⟨rfl, k2⟩
  go_wp2
  go_ret
  exact ⟨rfl, (by (repeat (first | with_reducible exact Kept.refl _ | with_reducible apply Kept.drew | with_reducible apply Kept.alloc | ((with_reducible apply Kept.set); focus (simp <;> omega)) | ((with_reducible apply Kept.via); focus with_reducible assumption))))⟩
set_option maxRecDepth 100000 in
set_option maxHeartbeats 1600000 in
theorem since8_neg {A : Option Addr} {len cap : Nat} {l : List (Int × Int)} {a c at_ : Int} (hl : len ≤ 100) (ha : at_ < 0) (AW : ∀ w, Calls Try.prog 9 #[] w fun e w' => e = .returned (.bool true) ∧ Kept w w') (C1 : ∀ w, RowM w A l → Calls Try.prog 17 #[.slice A len cap] w fun e w' => e = .returned (.bool true) ∧ Kept w w') (w : World) (hr : RowM w A l) : Calls Try.prog 5 #[.slice A len cap, .int .u32 a, .int .u32 c, .int .i64 at_] w fun e w' => e = .returned (.bool true) ∧ Kept w w' := by
  have HR := Lib.hid hr
  clear hr
  have AW' := Lib.hid AW
  have C1' := Lib.hid C1
  clear AW C1
  have hd : decide ((100 : Int) < (len : Int)) = false := by simp; omega
  go_enter Try.func5, Try.ntmps5
  go_wp2_with fail
  refine (AW'.out _).mono ?_
  rintro e w1 ⟨rfl, k1⟩
  go_wp2_with fail
  refine (C1'.out _ (HR.out.kept k1)).mono ?_
  rintro e w2 ⟨rfl, k2⟩
  go_wp2
  go_ret
  exact ⟨rfl, (by (repeat (first | with_reducible exact Kept.refl _ | with_reducible apply Kept.drew | with_reducible apply Kept.alloc | ((with_reducible apply Kept.set); focus (simp <;> omega)) | ((with_reducible apply Kept.via); focus with_reducible assumption))))⟩
set_option maxRecDepth 100000 in
set_option maxHeartbeats 1600000 in
theorem since8_late {A : Option Addr} {len cap : Nat} {l : List (Int × Int)} {a c at_ : Int} (hl : len ≤ 100) (ha : 1099511627776 < at_) (AW : ∀ w, Calls Try.prog 9 #[] w fun e w' => e = .returned (.bool true) ∧ Kept w w') (C1 : ∀ w, RowM w A l → Calls Try.prog 17 #[.slice A len cap] w fun e w' => e = .returned (.bool true) ∧ Kept w w') (w : World) (hr : RowM w A l) : Calls Try.prog 5 #[.slice A len cap, .int .u32 a, .int .u32 c, .int .i64 at_] w fun e w' => e = .returned (.bool true) ∧ Kept w w' := by
  have HR := Lib.hid hr
  clear hr
  have AW' := Lib.hid AW
  have C1' := Lib.hid C1
  clear AW C1
  have hd : decide ((100 : Int) < (len : Int)) = false := by simp; omega
  go_enter Try.func5, Try.ntmps5
  go_wp2_with fail
  refine (AW'.out _).mono ?_
  rintro e w1 ⟨rfl, k1⟩
  go_wp2_with fail
  refine (C1'.out _ (HR.out.kept k1)).mono ?_
  rintro e w2 ⟨rfl, k2⟩
  go_wp2
  go_ret
  exact ⟨rfl, (by (repeat (first | with_reducible exact Kept.refl _ | with_reducible apply Kept.drew | with_reducible apply Kept.alloc | ((with_reducible apply Kept.set); focus (simp <;> omega)) | ((with_reducible apply Kept.via); focus with_reducible assumption))))⟩
set_option maxRecDepth 100000 in
set_option maxHeartbeats 1600000 in
theorem since8_no {A : Option Addr} {len cap : Nat} {l : List (Int × Int)} {a c at_ : Int} {p q n m : Int} (hl : len ≤ 100) (a0 : 0 ≤ at_) (a1 : at_ ≤ 1099511627776) (p0 : 0 ≤ p) (p1 : p ≤ 4294967295) (q0 : 0 ≤ q) (q1 : q ≤ 4294967295) (ep : (if c < a then c else a) = p) (eq : (if a < c then c else a) = q) {b : Bool}  (AW : ∀ w, Calls Try.prog 9 #[] w fun e w' => e = .returned (.bool true) ∧ Kept w w') (C1 : ∀ w, RowM w A l → Calls Try.prog 17 #[.slice A len cap] w fun e w' => e = .returned (.bool true) ∧ Kept w w') (S1 : ∀ w, RowM w A l → Calls Try.prog 15 #[.slice A len cap, .int .i64 p, .int .i64 at_] w fun e w' => e = .returned (.tuple #[.int .i64 n, .bool false]) ∧ Kept w w') (S2 : ∀ w, RowM w A l → Calls Try.prog 15 #[.slice A len cap, .int .i64 q, .int .i64 at_] w fun e w' => e = .returned (.tuple #[.int .i64 m, .bool b]) ∧ Kept w w') (S3 : ∀ w, RowM w A l → Calls Try.prog 19 #[.slice A len cap, .int .i64 (at_ - p), .int .i64 at_] w fun e w' => e = .returned (.tuple #[.int .i64 n, .bool false]) ∧ Kept w w') (w : World) (hr : RowM w A l) : Calls Try.prog 5 #[.slice A len cap, .int .u32 a, .int .u32 c, .int .i64 at_] w fun e w' => e = .returned (.bool true) ∧ Kept w w' := by
  have HR := Lib.hid hr
  clear hr
  have AW' := Lib.hid AW
  have C1' := Lib.hid C1
  have S1' := Lib.hid S1
  have S2' := Lib.hid S2
  have S3' := Lib.hid S3
  clear AW C1 S1 S2 S3
  have hd : decide ((100 : Int) < (len : Int)) = false := by simp; omega
  have ha : decide (at_ < 0) = false := by simp; omega
  have ha2 : decide (1099511627776 < at_) = false := by simp; omega
  go_enter Try.func5, Try.ntmps5
  go_wp2_with fail
  refine (AW'.out _).mono ?_
  rintro e w1 ⟨rfl, k1⟩
  go_wp2_with fail
  refine (C1'.out _ (HR.out.kept k1)).mono ?_
  rintro e w2 ⟨rfl, k2⟩
  go_wp2_with fail
  refine (S1'.out _ (HR.out.kept (Kept.trans k1 k2))).mono ?_
  rintro e w3 ⟨rfl, k3⟩
  go_wp2_with fail
  refine (S2'.out _ (HR.out.kept (Kept.trans (Kept.trans k1 k2) k3))).mono ?_
  rintro e w4 ⟨rfl, k4⟩
  go_wp2_with fail
  refine (S3'.out _ (HR.out.kept (Kept.trans (Kept.trans (Kept.trans k1 k2) k3) k4))).mono ?_
  rintro e w5 ⟨rfl, k5⟩
  go_wp2
  go_ret
  exact ⟨rfl, (by (repeat (first | with_reducible exact Kept.refl _ | with_reducible apply Kept.drew | with_reducible apply Kept.alloc | ((with_reducible apply Kept.set); focus (simp <;> omega)) | ((with_reducible apply Kept.via); focus with_reducible assumption))))⟩
set_option maxRecDepth 100000 in
set_option maxHeartbeats 1600000 in
theorem since8_yes {A : Option Addr} {len cap : Nat} {l : List (Int × Int)} {a c at_ : Int} {p q n m : Int} (hl : len ≤ 100) (a0 : 0 ≤ at_) (a1 : at_ ≤ 1099511627776) (p0 : 0 ≤ p) (p1 : p ≤ 4294967295) (q0 : 0 ≤ q) (q1 : q ≤ 4294967295) (ep : (if c < a then c else a) = p) (eq : (if a < c then c else a) = q) (hmn : m ≤ n)  (AW : ∀ w, Calls Try.prog 9 #[] w fun e w' => e = .returned (.bool true) ∧ Kept w w') (C1 : ∀ w, RowM w A l → Calls Try.prog 17 #[.slice A len cap] w fun e w' => e = .returned (.bool true) ∧ Kept w w') (S1 : ∀ w, RowM w A l → Calls Try.prog 15 #[.slice A len cap, .int .i64 p, .int .i64 at_] w fun e w' => e = .returned (.tuple #[.int .i64 n, .bool true]) ∧ Kept w w') (S2 : ∀ w, RowM w A l → Calls Try.prog 15 #[.slice A len cap, .int .i64 q, .int .i64 at_] w fun e w' => e = .returned (.tuple #[.int .i64 m, .bool true]) ∧ Kept w w') (S3 : ∀ w, RowM w A l → Calls Try.prog 19 #[.slice A len cap, .int .i64 (at_ - p), .int .i64 at_] w fun e w' => e = .returned (.tuple #[.int .i64 n, .bool true]) ∧ Kept w w') (w : World) (hr : RowM w A l) : Calls Try.prog 5 #[.slice A len cap, .int .u32 a, .int .u32 c, .int .i64 at_] w fun e w' => e = .returned (.bool true) ∧ Kept w w' := by
  have HR := Lib.hid hr
  clear hr
  have AW' := Lib.hid AW
  have C1' := Lib.hid C1
  have S1' := Lib.hid S1
  have S2' := Lib.hid S2
  have S3' := Lib.hid S3
  clear AW C1 S1 S2 S3
  have hd : decide ((100 : Int) < (len : Int)) = false := by simp; omega
  have ha : decide (at_ < 0) = false := by simp; omega
  have ha2 : decide (1099511627776 < at_) = false := by simp; omega
  have hd3 : decide (m ≤ n) = true := by simp [hmn]
  go_enter Try.func5, Try.ntmps5
  go_wp2_with fail
  refine (AW'.out _).mono ?_
  rintro e w1 ⟨rfl, k1⟩
  go_wp2_with fail
  refine (C1'.out _ (HR.out.kept k1)).mono ?_
  rintro e w2 ⟨rfl, k2⟩
  go_wp2_with fail
  refine (S1'.out _ (HR.out.kept (Kept.trans k1 k2))).mono ?_
  rintro e w3 ⟨rfl, k3⟩
  go_wp2_with fail
  refine (S2'.out _ (HR.out.kept (Kept.trans (Kept.trans k1 k2) k3))).mono ?_
  rintro e w4 ⟨rfl, k4⟩
  go_wp2_with fail
  refine (S3'.out _ (HR.out.kept (Kept.trans (Kept.trans (Kept.trans k1 k2) k3) k4))).mono ?_
  rintro e w5 ⟨rfl, k5⟩
  go_wp2
  go_ret
  exact ⟨rfl, (by (repeat (first | with_reducible exact Kept.refl _ | with_reducible apply Kept.drew | with_reducible apply Kept.alloc | ((with_reducible apply Kept.set); focus (simp <;> omega)) | ((with_reducible apply Kept.via); focus with_reducible assumption))))⟩
theorem leastSince_walk (CC : LCheckC) (PC : LPutC) (OC : LOfC) (SC : LSinceC) (A : Option Addr) (cap : Nat) (l : List (Int × Int)) (a c at_ : Int) (w : World) (hs : SliceOk A l.length cap) (hi : ∀ m ∈ l, In64 m.1 ∧ In64 m.2) (ha : 0 ≤ a ∧ a ≤ 4294967295) (hc : 0 ≤ c ∧ c ≤ 4294967295) (hr : RowM w A l) : Calls Try.prog 5 #[.slice A l.length cap, .int .u32 a, .int .u32 c, .int .i64 at_] w fun e w' => e = .returned (.bool true) ∧ Kept w w' := by
  have AW := fun w => awake08 CC PC OC SC w
  by_cases hl : l.length ≤ 100
  · by_cases hm : MayL l
    · have CY := fun w hr => check_use CC (A := A) (cap := cap) (l := l) (v := true) rfl hs (by omega) (by simp [hm]) w hr
      by_cases a0 : at_ < 0
      · exact since8_neg hl a0 AW CY w hr
      · by_cases a1 : 1099511627776 < at_
        · exact since8_late hl a1 AW CY w hr
        · have p0 : 0 ≤ (if c < a then c else a) ∧ (if c < a then c else a) ≤ 4294967295 := by split <;> omega
          have q0 : 0 ≤ (if a < c then c else a) ∧ (if a < c then c else a) ≤ 4294967295 := by split <;> omega
          have pq : (if c < a then c else a) ≤ (if a < c then c else a) := by split <;> split <;> omega
          generalize hp : (if c < a then c else a) = p at *
          generalize hq : (if a < c then c else a) = q at *
          obtain ⟨n, b, h1⟩ := since_ex l p at_
          obtain ⟨m, d, h2⟩ := since_ex l q at_
          have S1 := fun w hr => since_use SC (A := A) (cap := cap) rfl hs (by omega) hi (by unfold In64; omega) (by unfold In64; omega) h1 w hr
          have S2 := fun w hr => since_use SC (A := A) (cap := cap) rfl hs (by omega) hi (by unfold In64; omega) (by unfold In64; omega) h2 w hr
          have S3 := fun w hr => refLeast8_ok A l.length cap l (at_ - p) at_ n b rfl (by omega) (since_least h1 hm p0.1) w hr
          have wd := since_wide h1 h2 hm p0.1 pq
          cases b with
          | false => exact since8_no hl (by omega) (by omega) p0.1 p0.2 q0.1 q0.2 hp hq AW CY S1 S2 S3 w hr
          | true =>
            obtain ⟨rfl, hmn⟩ := wd rfl
            exact since8_yes hl (by omega) (by omega) p0.1 p0.2 q0.1 q0.2 hp hq hmn AW CY S1 S2 S3 w hr
    · exact since8_bad hl AW (fun w hr => check_use CC (A := A) (cap := cap) (l := l) (v := false) rfl hs (by omega) (by simp [hm]) w hr) w hr
  · exact since8_long (by omega) (by have := hs.1; have := hs.2.1; omega) AW w hr
end Go.Proofs.Ytpbchcpbjflnoaa
