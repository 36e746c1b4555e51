/-
  The call 'awake' of layer 9's statements answers true, if the calls do what they are to do.
-/
import Derived.Test.YtchlllgdbkmdaaaCon09
import Derived.Deep.DeepCutAuto
namespace Go.Proofs.Ytchlllgdbkmdaaa
open Go.RowKit Go.BigFrame
set_option linter.unusedVariables false

theorem a9k1 : AckIs 0 10 5 12 0 10 false 0 := Or.inr (Or.inr (Or.inr ⟨⟨by omega, by omega, by omega, by omega⟩, by omega, rfl, rfl, rfl, rfl⟩))
theorem a9k2 : AckIs 0 10 10 25 1 25 true 0 := Or.inr (Or.inr (Or.inl ⟨⟨by omega, by omega, by omega, by omega⟩, by omega, by omega, rfl, rfl, rfl, rfl⟩))
theorem a9k3 : AckIs 1 25 5 4 1 25 false 201 := Or.inl ⟨by omega, rfl, rfl, rfl, rfl⟩
theorem a9n : (3 : Int) = (cntS (fun k => [0, 5, 10, 30].getD k 0) (fun k => [10, 12, 25, 40].getD k 0) (min 4 4)).1 := by decide
theorem a9i1 : ∀ k : Nat, k < 4 → In64 ([0, 5, 10, 30].getD k 0) := fun k hk => by
  rcases (show k = 0 ∨ k = 1 ∨ k = 2 ∨ k = 3 by omega) with rfl | rfl | rfl | rfl <;> (unfold In64; decide)
theorem a9i2 : ∀ k : Nat, k < 4 → In64 ([10, 12, 25, 40].getD k 0) := fun k hk => by
  rcases (show k = 0 ∨ k = 1 ∨ k = 2 ∨ k = 3 by omega) with rfl | rfl | rfl | rfl <;> (unfold In64; decide)
set_option maxRecDepth 100000 in
set_option maxHeartbeats 1600000 in
theorem awake09 (BC : RBeginC) (KC_ : RAckC) (CC : RCheckC) (NC : RCountC) (w : World) : Calls Try.prog 6 #[] w fun e w' => e = .returned (.bool true) ∧ Kept w w' := by
  have BC' := Lib.hid BC
  have KC' := Lib.hid KC_
  have CC' := Lib.hid CC
  have NC' := Lib.hid NC
  clear BC KC_ CC NC
  go_enter Try.func6, Try.ntmps6
  go_wp2_with fail
  refine (BC'.out 10 10 (by unfold In64; omega) (by split <;> omega) _).mono ?_
  rintro e w1 ⟨rfl, k1⟩
  go_wp2_with fail
  refine (KC'.out (0) (10) (5) (12) (0) (10) (false) (0) (by unfold In64; omega) (by unfold In64; omega) (by unfold In64; omega) (by unfold In64; omega) a9k1 _).mono ?_
  rintro e w2 ⟨rfl, k2⟩
  go_upto_region 2 with fail
  generalize hW : World.alloc w2 (.cells #[.int .i64 0, .int .i64 10] 25) = Wa
  have KWa : Kept w2 Wa := by subst hW; exact (Kept.refl _).alloc _ _
  have RWa := Lib.hid (show RD Wa w2.heap.size 0 10 from by subst hW; exact ⟨⟨by simp [go_sem], by simp [go_sem]⟩, by simp [go_sem], by simp [go_sem]⟩)
  have LWa : w2.heap.size < Wa.heap.size := by subst hW; simp
  clear hW
  generalize hgWa : w2.heap.size = gWa at *
  obtain ⟨⟨c0, c1⟩, c2, c3⟩ := RWa.out
  go_wp2_with fail
  refine (KC'.out (0) (10) (10) (25) (1) (25) (true) (0) (by unfold In64; omega) (by unfold In64; omega) (by unfold In64; omega) (by unfold In64; omega) a9k2 _).mono ?_
  rintro e w3 ⟨rfl, k3⟩
  clear c0 c1 c2 c3
  have RWa2 := Lib.hid (RWa.out.kept k3)
  go_upto_region 3 with fail
  generalize hW : World.alloc w3 (.cells #[.int .i64 1, .int .i64 25] 25) = Wb
  have KWb : Kept w3 Wb := by subst hW; exact (Kept.refl _).alloc _ _
  have RWb := Lib.hid (show RD Wb w3.heap.size 1 25 from by subst hW; exact ⟨⟨by simp [go_sem], by simp [go_sem]⟩, by simp [go_sem], by simp [go_sem]⟩)
  have LWb : w3.heap.size < Wb.heap.size := by subst hW; simp
  clear hW
  generalize hgWb : w3.heap.size = gWb at *
  obtain ⟨⟨c0, c1⟩, c2, c3⟩ := RWb.out
  go_wp2_with fail
  refine (KC'.out (1) (25) (5) (4) (1) (25) (false) (201) (by unfold In64; omega) (by unfold In64; omega) (by unfold In64; omega) (by unfold In64; omega) a9k3 _).mono ?_
  rintro e w4 ⟨rfl, k4⟩
  clear c0 c1 c2 c3
  have RWa3 := Lib.hid ((RWa2.out.kept KWb).kept k4)
  have RWb3 := Lib.hid (RWb.out.kept k4)
  go_upto_region 4 with fail
  generalize hW : World.alloc w4 (.cells #[.int .i64 1, .int .i64 25] 25) = Wc
  have KWc : Kept w4 Wc := by subst hW; exact (Kept.refl _).alloc _ _
  have RWc := Lib.hid (show RD Wc w4.heap.size 1 25 from by subst hW; exact ⟨⟨by simp [go_sem], by simp [go_sem]⟩, by simp [go_sem], by simp [go_sem]⟩)
  have LWc : w4.heap.size < Wc.heap.size := by subst hW; simp
  clear hW
  generalize hgWc : w4.heap.size = gWc at *
  have RWa4 := Lib.hid (RWa3.out.kept KWc)
  have RWb4 := Lib.hid (RWb3.out.kept KWc)
  have kall := Kept.trans (Kept.trans (Kept.trans (show Kept w Wa from Kept.trans (Kept.trans k1 k2) KWa) (Kept.trans k3 KWb)) k4) KWc
  clear RWa RWa2 RWa3 RWb RWb3 RWc
  obtain ⟨⟨c0, c1⟩, c2, c3⟩ := RWa4.out
  obtain ⟨⟨d0, d1⟩, d2, d3⟩ := RWb4.out
  go_wp2_with fail
  refine (BC'.out (-3) 0 (by unfold In64; omega) (by split <;> omega) _).mono ?_
  rintro e w5 ⟨rfl, k5⟩
  have c0 := k5.read c0
  have c1 := k5.read c1
  have d0 := k5.read d0
  have d1 := k5.read d1
  go_wp2_with fail
  refine (CC'.out 1 25 true (by unfold In64; omega) (by unfold In64; omega) (by simp) _).mono ?_
  rintro e w6 ⟨rfl, k6⟩
  have d0 := k6.read d0
  go_wp2_with fail
  refine (CC'.out (-1) 0 false (by unfold In64; omega) (by unfold In64; omega) (by simp) _).mono ?_
  rintro e w7 ⟨rfl, k7⟩
  go_wp2_with fail
  refine (NC'.out (some ⟨_, 0, none⟩) 4 4 [0, 5, 10, 30] (some ⟨_, 0, none⟩) 4 4 [10, 12, 25, 40] 3 (by omega) (by omega) (by omega) (by omega) a9i1 a9i2 a9n _ (fun _ => ⟨_, 0, rfl, fun k hk => ?_⟩) (fun _ => ⟨_, 0, rfl, fun k hk => ?_⟩)).mono ?_
  · rcases (show k = 0 ∨ k = 1 ∨ k = 2 ∨ k = 3 by omega) with rfl | rfl | rfl | rfl <;> simp [go_sem]
  · rcases (show k = 0 ∨ k = 1 ∨ k = 2 ∨ k = 3 by omega) with rfl | rfl | rfl | rfl <;> simp [go_sem]
  rintro e w8 ⟨rfl, k8⟩
  go_wp2
  go_ret
  exact ⟨rfl, (by (repeat (first | with_reducible exact Kept.refl _ | with_reducible apply Kept.drew | with_reducible apply Kept.alloc | ((with_reducible apply Kept.set); focus (simp <;> omega)) | ((with_reducible apply Kept.via); focus with_reducible assumption))))⟩
end Go.Proofs.Ytchlllgdbkmdaaa
