/-
  What the calls of package cut do.
-/
import Derived.Test.YtmafibibpjmjbaaCon15
import Derived.Test.YtmafibibpjmjbaaPartA04
import Derived.Test.YtmafibibpjmjbaaEpoch11
import Derived.Test.YtmafibibpjmjbaaMapOf
import Derived.Test.YtmafibibpjmjbaaRoom
import Derived.Test.YtmafibibpjmjbaaOne01
import Derived.OwnWalk
import Derived.Deep.RegionHeld3
import Derived.Deep.RegionWith
import Derived.Deep.DeepCutAuto
namespace Go.Proofs.Ytmafibibpjmjbaa
open Go.RowKit Go.BigFrame
set_option linter.unusedVariables false

set_option maxRecDepth 100000 in
set_option maxHeartbeats 1600000 in
theorem ctaken {v g : Int} (h : givG v = g) (w : World) : Calls Try.prog 16 #[.int .i64 v] w fun e w' => e = .returned (.int .i64 g) ∧ Kept w w' := by
  have ec : clampAt v 131072 68719476736 = g := by rw [← h]; rfl
  have C0 : ∀ w, Calls Try.prog 22 #[.int .i64 v, .int .i64 131072, .int .i64 68719476736] w fun e w' => e = .returned (.int .i64 g) ∧ Kept w w' := fun w => (clamp_any_s v 131072 68719476736 w).mono (fun _ _ ⟨x, k⟩ => ⟨by rw [ec] at x; exact x, k ▸ Kept.refl _⟩)
  have C := Lib.hid C0
  clear h ec C0
  go_enter Try.func16, Try.ntmps16
  go_wp2_with fail
  refine (C.out _).mono ?_
  rintro e w1 ⟨rfl, k1⟩
  go_wp2
  go_ret
  exact ⟨rfl, (by (repeat (first | with_reducible exact Kept.refl _ | with_reducible apply Kept.drew | with_reducible apply Kept.alloc | ((with_reducible apply Kept.set); focus (simp <;> omega)) | ((with_reducible apply Kept.via); focus with_reducible assumption))))⟩
set_option maxRecDepth 100000 in
set_option maxHeartbeats 1600000 in
theorem cpart {g n : Int} (gr : 131072 ≤ g ∧ g ≤ 68719476736) (h : leastC g = n) (w : World) : Calls Try.prog 27 #[.int .i64 g] w fun e w' => e = .returned (.int .i64 n) ∧ Kept w w' := by
  have e : (if g * 7 / 10 < 131072 then 131072 else g * 7 / 10) = n := by rw [← h]; unfold leastC; rw [givG_of gr]
  have FL := Lib.hid (fun w => Floor_ok (a := g) (b := 7) (c := 10) (by unfold In64; omega) (by unfold In64; omega) (by unfold In64; omega) (part_yes (by omega) (by unfold In64; omega)) w)
  generalize g * 7 / 10 = q at *
  have e2 : max q 131072 = n := by rw [← e]; split <;> omega
  have e3 : (if q < 131072 then 131072 else q) = n := e
  clear h e
  go_enter Try.func27, Try.ntmps27
  go_wp2_with fail
  refine (FL.out _).mono ?_
  rintro e w1 ⟨rfl, k1⟩
  go_wp2
  go_ret
  exact ⟨rfl, (by (repeat (first | with_reducible exact Kept.refl _ | with_reducible apply Kept.drew | with_reducible apply Kept.alloc | ((with_reducible apply Kept.set); focus (simp <;> omega)) | ((with_reducible apply Kept.via); focus with_reducible assumption))))⟩
set_option maxRecDepth 100000 in
set_option maxHeartbeats 1600000 in
theorem cfew {g : Int} (w : World) : Calls Try.prog 28 #[.int .i64 g] w fun e w' => e = .returned (.int .i64 131072) ∧ Kept w w' := by
  go_enter Try.func28, Try.ntmps28
  go_wp2
  go_ret
  exact ⟨rfl, Kept.refl _⟩
/-- The map of what is left. -/
def TabC (w : World) (b : Nat) : Prop := ∃ c0 c1 : Nat, MapAt w b #[⟨.int .i64 0, .func (.func 27) #[] #[], c0⟩, ⟨.int .i64 1, .func (.func 28) #[] #[], c1⟩]
theorem TabC.kept {w w' : World} {b : Nat} (h : TabC w b) (k : Kept w w') : TabC w' b := by
  obtain ⟨c0, c1, h⟩ := h
  exact ⟨c0, c1, h.kept k⟩
theorem TabC.look0 {w : World} {b : Nat} (h : TabC w b) : (Instr.lookup 41 (.map (some b)) (.int .i64 0) false).run Try.prog w = .ok (.func (.func 27) #[] #[]) w := by
  obtain ⟨c0, c1, h⟩ := h
  exact map_look (i := 0) Try.underlying41 Try.underlying3 h (by simp [Instr.findNow, Instr.sameNow])
theorem TabC.look1 {w : World} {b : Nat} (h : TabC w b) : (Instr.lookup 41 (.map (some b)) (.int .i64 1) false).run Try.prog w = .ok (.func (.func 28) #[] #[]) w := by
  obtain ⟨c0, c1, h⟩ := h
  exact map_look (i := 1) Try.underlying41 Try.underlying3 h (by simp [Instr.findNow, Instr.sameNow])
set_option maxRecDepth 100000 in
set_option maxHeartbeats 1600000 in
theorem cleaves (w : World) : Calls Try.prog 23 #[] w fun e w' => ∃ b, e = .returned (.map (some b)) ∧ TabC w' b ∧ Kept w w' := by
  go_enter Try.func23, Try.ntmps23
  go_wp2_with (first
    | (refine wpList_map_kept rfl _ rfl w (Kept.refl _) ?_; intro w1 b hb _ M1 k1)
    | (refine wpList_insert_kept rfl _ _ _ _ rfl _ _ Try.underlying41 Try.underlying3 w b #[] 0 _ rfl rfl rfl M1 (by simp [Instr.findNow]) k1 hb ?_; intro w2 c0 M2 k2 _)
    | (refine wpList_insert_kept rfl _ _ _ _ rfl _ _ Try.underlying41 Try.underlying3 w b #[⟨.int .i64 0, .func (.func 27) #[] #[], c0⟩] 1 _ rfl rfl rfl M2 (by simp [Instr.findNow, Instr.sameNow]) k2 hb ?_; intro w3 c1 M3 k3 _))
  go_ret
  exact ⟨b, rfl, ⟨_, _, M3⟩, k3⟩
set_option maxRecDepth 100000 in
set_option maxHeartbeats 1600000 in
theorem cbeh_loss {g n : Int} (gr : 131072 ≤ g ∧ g ≤ 68719476736) (h : leastC g = n) (w : World) : Calls Try.prog 17 #[.int .i64 g, .int .i64 0] w fun e w' => e = .returned (.int .i64 n) ∧ Kept w w' := by
  have P := Lib.hid (fun w => cpart gr h w)
  clear h gr
  go_enter Try.func17, Try.ntmps17
  go_wp2_with fail
  refine (cleaves _).mono ?_
  rintro e w1 ⟨b, rfl, M, k1⟩
  have LK := TabC.look0 M
  go_wp2_with fail
  refine (P.out _).mono ?_
  rintro e w2 ⟨rfl, k2⟩
  go_wp2
  go_ret
  exact ⟨rfl, Kept.trans k1 k2⟩
set_option maxRecDepth 100000 in
set_option maxHeartbeats 1600000 in
theorem cbeh_late {g : Int}  (w : World) : Calls Try.prog 17 #[.int .i64 g, .int .i64 1] w fun e w' => e = .returned (.int .i64 131072) ∧ Kept w w' := by
  have P := Lib.hid (fun w => cfew (g := g) w)
  go_enter Try.func17, Try.ntmps17
  go_wp2_with fail
  refine (cleaves _).mono ?_
  rintro e w1 ⟨b, rfl, M, k1⟩
  have LK := TabC.look1 M
  go_wp2_with fail
  refine (P.out _).mono ?_
  rintro e w2 ⟨rfl, k2⟩
  go_wp2
  go_ret
  exact ⟨rfl, Kept.trans k1 k2⟩
set_option maxRecDepth 100000 in
set_option maxHeartbeats 1600000 in
theorem cnext {g last b : Int} (gr : 131072 ≤ g ∧ g ≤ 68719476736) (hl : In64 last) (h : fastN last g = b) (w : World) : Calls Try.prog 18 #[.int .i64 g, .int .i64 last] w fun e w' => e = .returned (.int .i64 b) ∧ Kept w w' := by
  have P := Lib.hid (fun w => efast_c last g b hl (by unfold In64; omega) h w)
  clear h gr hl
  go_enter Try.func18, Try.ntmps18
  go_wp2_with fail
  refine (P.out _).mono ?_
  rintro e w1 ⟨rfl, k1⟩
  go_wp2
  go_ret
  exact ⟨rfl, (by (repeat (first | with_reducible exact Kept.refl _ | with_reducible apply Kept.drew | with_reducible apply Kept.alloc | ((with_reducible apply Kept.set); focus (simp <;> omega)) | ((with_reducible apply Kept.via); focus with_reducible assumption))))⟩
set_option maxRecDepth 100000 in
set_option maxHeartbeats 1600000 in
theorem cleast_any {v n : Int} (h : leastC v = n) (w : World) : Calls Try.prog 12 #[.int .i64 v] w fun e w' => e = .returned (.int .i64 n) ∧ Kept w w' := by
  have gr := givG_range v
  obtain ⟨g, eg⟩ : ∃ g, givG v = g := ⟨_, rfl⟩
  have T := Lib.hid (fun w => ctaken eg w)
  have eL : leastC g = leastC v := by rw [← eg]; unfold leastC; rw [givG_twice]
  rw [eg] at gr
  have B := Lib.hid (fun w => cbeh_loss gr (eL.trans h) w)
  clear eg gr eL h
  go_enter Try.func12, Try.ntmps12
  go_wp2_with fail
  refine (T.out _).mono ?_
  rintro e w20 ⟨rfl, k20⟩
  go_wp2_with fail
  refine (B.out _).mono ?_
  rintro e w21 ⟨rfl, k21⟩
  go_wp2
  go_ret
  exact ⟨rfl, (by (repeat (first | with_reducible exact Kept.refl _ | with_reducible apply Kept.drew | with_reducible apply Kept.alloc | ((with_reducible apply Kept.set); focus (simp <;> omega)) | ((with_reducible apply Kept.via); focus with_reducible assumption))))⟩
theorem tleast_c : TLeastC := fun v n _ h w => cleast_any h w
set_option maxRecDepth 100000 in
set_option maxHeartbeats 1600000 in
theorem closs_any {v last a b : Int} (hl : In64 last) (h : leastC v = a) (h2 : fastN last (givG v) = b) (w : World) : Calls Try.prog 9 #[.int .i64 v, .int .i64 last] w fun e w' => e = .returned (.tuple #[.int .i64 a, .int .i64 b]) ∧ Kept w w' := by
  have gr := givG_range v
  obtain ⟨g, eg⟩ : ∃ g, givG v = g := ⟨_, rfl⟩
  have T := Lib.hid (fun w => ctaken eg w)
  have eL : leastC g = leastC v := by rw [← eg]; unfold leastC; rw [givG_twice]
  rw [eg] at gr
  rw [eg] at h2
  have B := Lib.hid (fun w => cbeh_loss gr (eL.trans h) w)
  have X := Lib.hid (fun w => cnext gr hl h2 w)
  clear eg gr eL h h2 hl
  go_enter Try.func9, Try.ntmps9
  go_wp2_with fail
  refine (T.out _).mono ?_
  rintro e w20 ⟨rfl, k20⟩
  go_wp2_with fail
  refine (B.out _).mono ?_
  rintro e w21 ⟨rfl, k21⟩
  go_wp2_with fail
  refine (X.out _).mono ?_
  rintro e w22 ⟨rfl, k22⟩
  go_wp2
  go_ret2
  exact ⟨rfl, (by (repeat (first | with_reducible exact Kept.refl _ | with_reducible apply Kept.drew | with_reducible apply Kept.alloc | ((with_reducible apply Kept.set); focus (simp <;> omega)) | ((with_reducible apply Kept.via); focus with_reducible assumption))))⟩
theorem tloss_c : TLossC := fun v last a b _ hl h h2 w => closs_any hl h h2 w
set_option maxRecDepth 100000 in
set_option maxHeartbeats 1600000 in
theorem ctime_any {v last a b : Int} (hl : In64 last) (h : leastC v = a) (h2 : fastN last (givG v) = b) (w : World) : Calls Try.prog 11 #[.int .i64 v, .int .i64 last] w fun e w' => e = .returned (.tuple #[.int .i64 131072, .int .i64 a, .int .i64 b]) ∧ Kept w w' := by
  have gr := givG_range v
  obtain ⟨g, eg⟩ : ∃ g, givG v = g := ⟨_, rfl⟩
  have T := Lib.hid (fun w => ctaken eg w)
  have eL : leastC g = leastC v := by rw [← eg]; unfold leastC; rw [givG_twice]
  rw [eg] at gr
  rw [eg] at h2
  have D := Lib.hid (fun w => cbeh_late (g := g) w)
  have B := Lib.hid (fun w => cbeh_loss gr (eL.trans h) w)
  have X := Lib.hid (fun w => cnext gr hl h2 w)
  clear eg gr eL h h2 hl
  go_enter Try.func11, Try.ntmps11
  go_wp2_with fail
  refine (T.out _).mono ?_
  rintro e w20 ⟨rfl, k20⟩
  go_wp2_with fail
  refine (D.out _).mono ?_
  rintro e w21 ⟨rfl, k21⟩
  go_wp2_with fail
  refine (B.out _).mono ?_
  rintro e w22 ⟨rfl, k22⟩
  go_wp2_with fail
  refine (X.out _).mono ?_
  rintro e w23 ⟨rfl, k23⟩
  go_wp2
  simp [bodyPost, results, Try.results11, go_sem, *]
  exact (by (repeat (first | with_reducible exact Kept.refl _ | with_reducible apply Kept.drew | with_reducible apply Kept.alloc | ((with_reducible apply Kept.set); focus (simp <;> omega)) | ((with_reducible apply Kept.via); focus with_reducible assumption))))
theorem ttimeout_c : TTimeoutC := fun v last a b _ hl h h2 w => ctime_any hl h h2 w
def MRel15 (v n : Int) (w : World) (s1 s5 : Value) (wr : World) : Prop := ∃ (k : Nat) (j m : Int), s1 = .int .i64 j ∧ s5 = .int .i64 m ∧ j = n - k ∧ m = manyC v k ∧ (k = 0 ∨ (k : Int) ≤ n) ∧ Kept w wr
set_option maxRecDepth 100000 in
set_option maxHeartbeats 1600000 in
theorem cmany_any {v n r : Int} (hn : In64 n) (h : manyC v n.toNat = r) (w : World) : Calls Try.prog 14 #[.int .i64 v, .int .i64 n] w fun e w' => e = .returned (.int .i64 r) ∧ Kept w w' := by
  have G := Lib.hid (fun w => ctaken (v := v) rfl w)
  have H := Lib.hid h
  have g0 : manyC v 0 = givG v := rfl
  generalize givG v = g at *
  have n1 : -9223372036854775808 ≤ n ∧ n ≤ 9223372036854775807 := hn
  clear h hn
  go_enter Try.func14, Try.ntmps14
  go_wp2_with fail
  refine (G.out _).mono ?_
  rintro e w1 ⟨rfl, k1⟩
  go_wp2_with fail
  go_loopw [1, 5] (fun s1 s5 wr => MRel15 v n w s1 s5 wr) (fun s1 _ _ => (intOf s1).toNat)
  case atStart => exact ⟨0, n, g, rfl, rfl, by omega, g0.symm, Or.inl rfl, k1⟩
  case round =>
    obtain ⟨k, j, m, rfl, rfl, hj, hm, hk, kw⟩ := hrel
    have mr := manyC_range v k
    rw [← hm] at mr
    have HM := Lib.hid hm
    have jr : -9223372036854775808 ≤ j ∧ j ≤ 9223372036854775807 := by omega
    have J := Lib.hid (And.intro hj hk)
    clear hm hj hk
    by_cases h1 : 1 ≤ j
    · have d1 : decide (1 ≤ j) = true := by simp [h1]
      by_cases h2 : 131072 < m
      · have d2 : decide (131072 < m) = true := by simp [h2]
        have LE := Lib.hid (fun w => cbeh_loss (g := m) mr rfl w)
        have lr := leastC_range m
        have NX := Lib.hid (show leastC m = manyC v (k + 1) from by rw [HM.out]; rfl)
        generalize leastC m = m2 at *
        go_wp2_with fail
        refine (LE.out _).mono ?_
        rintro e w2 ⟨rfl, k2⟩
        go_wp2_with fail
        go_roundw
        case rel => exact ⟨k + 1, j - 1, m2, by go_num, rfl, by have := J.out.1; omega, NX.out, Or.inr (by have := J.out.1; omega), Kept.trans kw k2⟩
        case measure => simp [intOf]; omega
      · have d2 : decide (131072 < m) = false := by simp; omega
        have E := Lib.hid (show m = r from by
          have e : manyC v k = 131072 := by rw [← HM.out]; omega
          have q := manyC_two e (n.toNat - k)
          have := J.out
          rw [show k + (n.toNat - k) = n.toNat by omega, H.out] at q
          omega)
        go_wp2
        go_ret
        exact ⟨by rw [E.out]; rfl, kw⟩
    · have d1 : decide (1 ≤ j) = false := by simp; omega
      have E := Lib.hid (show m = r from by
        have := J.out
        have e : n.toNat = k := by omega
        rw [HM.out, ← H.out, e])
      go_wp2
      go_ret
      exact ⟨by rw [E.out]; rfl, kw⟩
theorem tmany_c : TManyC := fun v k n _ hk h w => cmany_any hk h w
end Go.Proofs.Ytmafibibpjmjbaa
