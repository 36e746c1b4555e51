/-
  Contracts of the document's answers of layer 15.
-/
import Derived.Test.YtmafibibpjmjbaaCon15
import Derived.Test.YtmafibibpjmjbaaRef11
import Derived.Deep.DeepCutAuto
namespace Go.Proofs.Ytmafibibpjmjbaa
open Go.RowKit Go.BigFrame
set_option linter.unusedVariables false

set_option maxRecDepth 100000 in
set_option maxHeartbeats 1600000 in
theorem refGiv15_ok {v g : Int} (h : givG v = g) (w : World) : Calls Try.prog 20 #[.int .i64 v] w fun e w' => e = .returned (.int .i64 g) ∧ Kept w w' := by
  have C := Lib.hid (fun w => clampLift v 131072 68719476736 g (by rw [← h]; rfl) w)
  clear h
  go_enter Try.func20, Try.ntmps20
  go_wp2_with fail
  refine (C.out _).mono ?_
  rintro e w20 ⟨rfl, k20⟩
  go_wp2
  go_ret
  exact ⟨rfl, (by (repeat (first | with_reducible exact Kept.refl _ | with_reducible apply Kept.drew | with_reducible apply Kept.alloc | ((with_reducible apply Kept.set); focus (simp <;> omega)) | ((with_reducible apply Kept.via); focus with_reducible assumption))))⟩
set_option maxRecDepth 100000 in
set_option maxHeartbeats 1600000 in
theorem refLeast15_ok {v n : Int} (h : leastC v = n) (w : World) : Calls Try.prog 13 #[.int .i64 v] w fun e w' => e = .returned (.int .i64 n) ∧ Kept w w' := by
  have gr := givG_range v
  obtain ⟨g, eg⟩ : ∃ g, givG v = g := ⟨_, rfl⟩
  have G := Lib.hid (fun w => refGiv15_ok eg w)
  have e : (if g * 7 / 10 < 131072 then 131072 else g * 7 / 10) = n := by rw [← h, ← eg]; rfl
  rw [eg] at gr
  have FL := Lib.hid (fun w => refFloor_ok (a := g) (b := 7) (c := 10) (by unfold In64; omega) (by unfold In64; omega) (by unfold In64; omega) (part_yes (by omega) (by unfold In64; omega)) w)
  generalize g * 7 / 10 = q at *
  have e2 : max q 131072 = n := by rw [← e]; split <;> omega
  clear h eg
  go_enter Try.func13, Try.ntmps13
  go_wp2_with fail
  refine (G.out _).mono ?_
  rintro e w20 ⟨rfl, k20⟩
  go_wp2_with fail
  refine (FL.out _).mono ?_
  rintro e w21 ⟨rfl, k21⟩
  go_wp2
  go_ret
  exact ⟨rfl, (by (repeat (first | with_reducible exact Kept.refl _ | with_reducible apply Kept.drew | with_reducible apply Kept.alloc | ((with_reducible apply Kept.set); focus (simp <;> omega)) | ((with_reducible apply Kept.via); focus with_reducible assumption))))⟩
set_option maxRecDepth 100000 in
set_option maxHeartbeats 1600000 in
theorem refLoss15_ok {v last a b : Int} (hl : In64 last) (h1 : leastC v = a) (h2 : fastN last (givG v) = b) (w : World) : Calls Try.prog 10 #[.int .i64 v, .int .i64 last] w fun e w' => e = .returned (.tuple #[.int .i64 a, .int .i64 b]) ∧ Kept w w' := by
  have gr := givG_range v
  obtain ⟨g, eg⟩ : ∃ g, givG v = g := ⟨_, rfl⟩
  rw [eg] at gr h2
  have LE := Lib.hid (fun w => refLeast15_ok h1 w)
  have G := Lib.hid (fun w => refGiv15_ok eg w)
  have FA := Lib.hid (fun w => refFast_ok hl (show In64 g from by unfold In64; omega) h2 w)
  clear h1 h2 eg hl
  go_enter Try.func10, Try.ntmps10
  go_wp2_with fail
  refine (LE.out _).mono ?_
  rintro e w20 ⟨rfl, k20⟩
  go_wp2_with fail
  refine (G.out _).mono ?_
  rintro e w21 ⟨rfl, k21⟩
  go_wp2_with fail
  refine (FA.out _).mono ?_
  rintro e w22 ⟨rfl, k22⟩
  go_wp2
  go_ret2
  exact ⟨rfl, (by (repeat (first | with_reducible exact Kept.refl _ | with_reducible apply Kept.drew | with_reducible apply Kept.alloc | ((with_reducible apply Kept.set); focus (simp <;> omega)) | ((with_reducible apply Kept.via); focus with_reducible assumption))))⟩
def MRel (v n : Int) (w : World) (s5 s6 : Value) (wr : World) : Prop := ∃ (k : Nat) (m : Int), s5 = .int .i64 m ∧ s6 = .int .i64 k ∧ m = manyC v k ∧ (k = 0 ∨ (k : Int) ≤ n) ∧ Kept w wr
set_option maxRecDepth 100000 in
set_option maxHeartbeats 1600000 in
theorem refMany15_ok {v n r : Int} (hn : In64 n) (h : manyC v n.toNat = r) (w : World) : Calls Try.prog 15 #[.int .i64 v, .int .i64 n] w fun e w' => e = .returned (.int .i64 r) ∧ Kept w w' := by
  have G := Lib.hid (fun w => refGiv15_ok (v := v) rfl w)
  have H := Lib.hid h
  have g0 : manyC v 0 = givG v := rfl
  generalize givG v = g at *
  have n1 : n ≤ 9223372036854775807 := hn.2
  clear h hn
  go_enter Try.func15, Try.ntmps15
  go_wp2_with fail
  refine (G.out _).mono ?_
  rintro e w1 ⟨rfl, k1⟩
  go_wp2_with fail
  go_loopw [5, 6] (fun s5 s6 wr => MRel v n w s5 s6 wr) (fun s5 _ _ => (intOf s5).toNat)
  case atStart => exact ⟨0, g, rfl, rfl, g0.symm, Or.inl rfl, k1⟩
  case round =>
    obtain ⟨k, m, rfl, rfl, hm, hk, kw⟩ := hrel
    have mr := manyC_range v k
    rw [← hm] at mr
    have HM := Lib.hid hm
    clear hm
    by_cases h1 : (k : Int) < n
    · have d1 : decide ((k : Int) < n) = true := by simp [h1]
      by_cases h2 : 131072 < m
      · have d2 : decide (131072 < m) = true := by simp [h2]
        have LE := Lib.hid (fun w => refLeast15_ok (v := m) rfl w)
        have less := (leastC_less (w := m) (by omega)).2 h2
        have lr := leastC_range m
        have NX := Lib.hid (show leastC m = manyC v (k + 1) from by rw [HM.out]; rfl)
        generalize leastC m = m2 at *
        go_wp2_with fail
        refine (LE.out _).mono ?_
        rintro e w2 ⟨rfl, k2⟩
        go_wp2_with fail
        go_roundw
        case rel => exact ⟨k + 1, m2, rfl, by go_num, NX.out, Or.inr (by omega), Kept.trans kw k2⟩
        case measure => simp [intOf]; omega
      · have d2 : decide (131072 < m) = false := by simp; omega
        have E := Lib.hid (show m = r from by
          have e : manyC v k = 131072 := by rw [← HM.out]; omega
          have q := manyC_two e (n.toNat - k)
          rw [show k + (n.toNat - k) = n.toNat by omega, H.out] at q
          omega)
        go_wp2
        go_ret
        exact ⟨by rw [E.out]; rfl, kw⟩
    · have d1 : decide ((k : Int) < n) = false := by simp; omega
      have E := Lib.hid (show m = r from by
        have e : n.toNat = k := by omega
        rw [HM.out, ← H.out, e])
      go_wp2
      go_ret
      exact ⟨by rw [E.out]; rfl, kw⟩
end Go.Proofs.Ytmafibibpjmjbaa
