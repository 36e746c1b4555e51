/-
  What the calls of package round do.
-/
import Derived.Test.YtchlllgdbkmdaaaCon09
import Derived.OwnWalk
import Derived.Deep.RegionHeld3
import Derived.Deep.DeepCutAuto
namespace Go.Proofs.Ytchlllgdbkmdaaa
open Go.RowKit Go.BigFrame
set_option linter.unusedVariables false

set_option maxRecDepth 100000 in
set_option maxHeartbeats 1600000 in
theorem rchk_n {id en : Int} (h : decide (0 ≤ id) = false) (w : World) : Calls Try.prog 9 #[.agg #[.int .i64 id, .int .i64 en]] w fun e w' => e = .returned (.bool false) ∧ Kept w w' := by
  go_enter Try.func9, Try.ntmps9
  go_wp2
  go_ret
  exact ⟨rfl, (by (repeat (first | with_reducible exact Kept.refl _ | with_reducible apply Kept.drew | with_reducible apply Kept.alloc | ((with_reducible apply Kept.set); focus (simp <;> omega)) | ((with_reducible apply Kept.via); focus with_reducible assumption))))⟩
set_option maxRecDepth 100000 in
set_option maxHeartbeats 1600000 in
theorem rchk_m {id en : Int} (h : decide (0 ≤ id) = true) (h2 : decide (0 ≤ en) = false) (w : World) : Calls Try.prog 9 #[.agg #[.int .i64 id, .int .i64 en]] w fun e w' => e = .returned (.bool false) ∧ Kept w w' := by
  go_enter Try.func9, Try.ntmps9
  go_wp2
  go_ret
  exact ⟨rfl, (by (repeat (first | with_reducible exact Kept.refl _ | with_reducible apply Kept.drew | with_reducible apply Kept.alloc | ((with_reducible apply Kept.set); focus (simp <;> omega)) | ((with_reducible apply Kept.via); focus with_reducible assumption))))⟩
set_option maxRecDepth 100000 in
set_option maxHeartbeats 1600000 in
theorem rchk_y {id en : Int} (h : decide (0 ≤ id) = true) (h2 : decide (0 ≤ en) = true) (w : World) : Calls Try.prog 9 #[.agg #[.int .i64 id, .int .i64 en]] w fun e w' => e = .returned (.bool true) ∧ Kept w w' := by
  go_enter Try.func9, Try.ntmps9
  go_wp2
  go_ret
  exact ⟨rfl, (by (repeat (first | with_reducible exact Kept.refl _ | with_reducible apply Kept.drew | with_reducible apply Kept.alloc | ((with_reducible apply Kept.set); focus (simp <;> omega)) | ((with_reducible apply Kept.via); focus with_reducible assumption))))⟩
theorem rcheck_c : RCheckC := fun id en v _ _ hv w => by
  by_cases h : 0 ≤ id
  · by_cases h2 : 0 ≤ en
    · obtain rfl : v = true := hv.2 ⟨h, h2⟩
      exact rchk_y (by simp [h]) (by simp [h2]) w
    · obtain rfl : v = false := by cases v with
        | false => rfl
        | true => exact absurd (hv.1 rfl).2 h2
      exact rchk_m (by simp [h]) (by simp; omega) w
  · obtain rfl : v = false := by cases v with
      | false => rfl
      | true => exact absurd (hv.1 rfl).1 h
    exact rchk_n (by simp; omega) w
set_option maxRecDepth 100000 in
set_option maxHeartbeats 1600000 in
theorem rbeg_n {s : Int} (h : s < 0) (w : World) : Calls Try.prog 7 #[.int .i64 s] w fun e w' => e = .returned (.agg #[.int .i64 0, .int .i64 0]) ∧ Kept w w' := by
  go_enter Try.func7, Try.ntmps7
  go_wp2
  (try (simp [bodyPost, results, Try.results7, go_sem, *]))
  (try (exact (by (repeat (first | with_reducible exact Kept.refl _ | with_reducible apply Kept.drew | with_reducible apply Kept.alloc | ((with_reducible apply Kept.set); focus (simp <;> omega)) | ((with_reducible apply Kept.via); focus with_reducible assumption))))))
set_option maxRecDepth 100000 in
set_option maxHeartbeats 1600000 in
theorem rbeg_y {s : Int} (h : 0 ≤ s) (w : World) : Calls Try.prog 7 #[.int .i64 s] w fun e w' => e = .returned (.agg #[.int .i64 0, .int .i64 s]) ∧ Kept w w' := by
  go_enter Try.func7, Try.ntmps7
  go_wp2
  (try (simp [bodyPost, results, Try.results7, go_sem, *]))
  (try (exact (by (repeat (first | with_reducible exact Kept.refl _ | with_reducible apply Kept.drew | with_reducible apply Kept.alloc | ((with_reducible apply Kept.set); focus (simp <;> omega)) | ((with_reducible apply Kept.via); focus with_reducible assumption))))))
theorem rbegin_c : RBeginC := fun s v _ hv w => by
  by_cases h : s < 0
  · rw [if_pos h] at hv
    subst hv
    exact rbeg_n h w
  · rw [if_neg h] at hv
    subst hv
    exact rbeg_y (by omega) w
set_option maxRecDepth 100000 in
set_option maxHeartbeats 1600000 in
theorem rack_1 {id en er : Int} (g : Nat) (w : World) (c0 : w.cell? ⟨g, 0, none⟩ = some (.int .i64 id)) (c1 : w.cell? ⟨g, 1, none⟩ = some (.int .i64 en)) : Calls Try.prog 11 #[.int .i64 er, .pointer (some ⟨g, 0, none⟩)] w fun e w' => e = .returned (.tuple #[.agg #[.int .i64 id, .int .i64 en], .bool false, .int .i64 er]) ∧ Kept w w' := by
  go_enter Try.func11, Try.ntmps11
  go_upto_region 1 with fail
  generalize hW : (World.alloc w (.cells #[.int .i64 0, .int .i64 0] 25)) = W0
  have Z0 := Lib.hid (show RD W0 w.heap.size 0 0 from by subst hW; exact ⟨⟨by simp [go_sem], by simp [go_sem]⟩, by simp [go_sem], by simp [go_sem]⟩)
  have k0 : Kept w W0 := by subst hW; exact (Kept.refl _).alloc _ _
  clear hW
  have gw : g < w.heap.size := cell_lt c0
  generalize hg : w.heap.size = z at *
  have gl : w.heap.size ≤ z := by omega
  have ne0 : ¬ g = z := by omega
  have d0 := k0.read c0
  have d1 := k0.read c1
  clear c0 c1
  obtain ⟨⟨z0, z1⟩, zf0, zf1⟩ := Z0.out
  go_wp2
  simp [bodyPost, results, Try.results11, go_sem, *]
  exact (by (repeat (first | with_reducible exact Kept.refl _ | with_reducible apply Kept.drew | with_reducible apply Kept.alloc | ((with_reducible apply Kept.set); focus (simp <;> omega)) | ((with_reducible apply Kept.via); focus with_reducible assumption))))
set_option maxRecDepth 100000 in
set_option maxHeartbeats 1600000 in
theorem rack_bad {id en told sent : Int} (CK : ∀ w, Calls Try.prog 9 #[.agg #[.int .i64 id, .int .i64 en]] w fun e w' => e = .returned (.bool false) ∧ Kept w w')  (w : World) : Calls Try.prog 8 #[.agg #[.int .i64 id, .int .i64 en], .int .i64 told, .int .i64 sent] w fun e w' => e = .returned (.tuple #[.agg #[.int .i64 id, .int .i64 en], .bool false, .int .i64 201]) ∧ Kept w w' := by
  have CK' := Lib.hid CK
  clear CK
  go_enter Try.func8, Try.ntmps8
  go_upto_region 2 with fail
  generalize hW : (World.alloc (World.alloc w (.cells #[.int .i64 id, .int .i64 en] 25)) (.cells #[.int .i64 0, .int .i64 0] 25)) = W0
  have R0 := Lib.hid (show RD W0 w.heap.size id en from by subst hW; exact ⟨⟨by simp [go_sem], by simp [go_sem]⟩, by simp [go_sem], by simp [go_sem]⟩)
  have Z0 := Lib.hid (show RD W0 (w.heap.size + 1) 0 0 from by subst hW; exact ⟨⟨by simp [go_sem], by simp [go_sem]⟩, by simp [go_sem], by simp [go_sem]⟩)
  have k0 : Kept w W0 := by subst hW; exact ((Kept.refl _).alloc _ _).alloc _ _
  clear hW
  generalize hg : w.heap.size = g at *
  have gw : w.heap.size ≤ g + 1 := by omega
  obtain ⟨c0, c1⟩ := R0.out.1
  go_wp2_with fail
  refine (CK'.out _).mono ?_
  rintro e w1 ⟨rfl, k1⟩
  clear c0 c1
  have R1 := Lib.hid (R0.out.kept k1)
  have Z1 := Lib.hid (Z0.out.kept k1)
  have kk := Kept.trans k0 k1
  clear R0 Z0 k0 k1
  have ne0 := R1.out.ne
  have ne1 := Z1.out.ne
  obtain ⟨c0, c1⟩ := R1.out.1
  go_wp2_with fail
  refine (rack_1 (id := id) (en := en) (er := 201) g _ c0 c1).mono ?_
  rintro e w2 ⟨rfl, k2⟩
  clear c0 c1
  have Z2 := Lib.hid (Z1.out.kept k2)
  have ne2 := Z2.out.ne
  have kk2 := Kept.trans kk k2
  clear Z1 kk k2
  obtain ⟨⟨z0, z1⟩, zf0, zf1⟩ := Z2.out
  go_wp2
  simp [bodyPost, results, Try.results8, go_sem, *]
  exact (by (repeat (first | with_reducible exact Kept.refl _ | with_reducible apply Kept.drew | with_reducible apply Kept.alloc | ((with_reducible apply Kept.set); focus (simp <;> omega)) | ((with_reducible apply Kept.via); focus with_reducible assumption))))
set_option maxRecDepth 100000 in
set_option maxHeartbeats 1600000 in
theorem rack_neg {id en told sent : Int} (CK : ∀ w, Calls Try.prog 9 #[.agg #[.int .i64 id, .int .i64 en]] w fun e w' => e = .returned (.bool true) ∧ Kept w w') (d0 : decide (told < 0) = true) (w : World) : Calls Try.prog 8 #[.agg #[.int .i64 id, .int .i64 en], .int .i64 told, .int .i64 sent] w fun e w' => e = .returned (.tuple #[.agg #[.int .i64 id, .int .i64 en], .bool false, .int .i64 201]) ∧ Kept w w' := by
  have CK' := Lib.hid CK
  clear CK
  go_enter Try.func8, Try.ntmps8
  go_upto_region 2 with fail
  generalize hW : (World.alloc (World.alloc w (.cells #[.int .i64 id, .int .i64 en] 25)) (.cells #[.int .i64 0, .int .i64 0] 25)) = W0
  have R0 := Lib.hid (show RD W0 w.heap.size id en from by subst hW; exact ⟨⟨by simp [go_sem], by simp [go_sem]⟩, by simp [go_sem], by simp [go_sem]⟩)
  have Z0 := Lib.hid (show RD W0 (w.heap.size + 1) 0 0 from by subst hW; exact ⟨⟨by simp [go_sem], by simp [go_sem]⟩, by simp [go_sem], by simp [go_sem]⟩)
  have k0 : Kept w W0 := by subst hW; exact ((Kept.refl _).alloc _ _).alloc _ _
  clear hW
  generalize hg : w.heap.size = g at *
  have gw : w.heap.size ≤ g + 1 := by omega
  obtain ⟨c0, c1⟩ := R0.out.1
  go_wp2_with fail
  refine (CK'.out _).mono ?_
  rintro e w1 ⟨rfl, k1⟩
  clear c0 c1
  have R1 := Lib.hid (R0.out.kept k1)
  have Z1 := Lib.hid (Z0.out.kept k1)
  have kk := Kept.trans k0 k1
  clear R0 Z0 k0 k1
  have ne0 := R1.out.ne
  have ne1 := Z1.out.ne
  obtain ⟨c0, c1⟩ := R1.out.1
  go_wp2_with fail
  refine (rack_1 (id := id) (en := en) (er := 201) g _ c0 c1).mono ?_
  rintro e w2 ⟨rfl, k2⟩
  clear c0 c1
  have Z2 := Lib.hid (Z1.out.kept k2)
  have ne2 := Z2.out.ne
  have kk2 := Kept.trans kk k2
  clear Z1 kk k2
  obtain ⟨⟨z0, z1⟩, zf0, zf1⟩ := Z2.out
  go_wp2
  simp [bodyPost, results, Try.results8, go_sem, *]
  exact (by (repeat (first | with_reducible exact Kept.refl _ | with_reducible apply Kept.drew | with_reducible apply Kept.alloc | ((with_reducible apply Kept.set); focus (simp <;> omega)) | ((with_reducible apply Kept.via); focus with_reducible assumption))))
set_option maxRecDepth 100000 in
set_option maxHeartbeats 1600000 in
theorem rack_few {id en told sent : Int} (CK : ∀ w, Calls Try.prog 9 #[.agg #[.int .i64 id, .int .i64 en]] w fun e w' => e = .returned (.bool true) ∧ Kept w w') (d0 : decide (told < 0) = false) (d1 : decide (sent < told) = true) (w : World) : Calls Try.prog 8 #[.agg #[.int .i64 id, .int .i64 en], .int .i64 told, .int .i64 sent] w fun e w' => e = .returned (.tuple #[.agg #[.int .i64 id, .int .i64 en], .bool false, .int .i64 201]) ∧ Kept w w' := by
  have CK' := Lib.hid CK
  clear CK
  go_enter Try.func8, Try.ntmps8
  go_upto_region 2 with fail
  generalize hW : (World.alloc (World.alloc w (.cells #[.int .i64 id, .int .i64 en] 25)) (.cells #[.int .i64 0, .int .i64 0] 25)) = W0
  have R0 := Lib.hid (show RD W0 w.heap.size id en from by subst hW; exact ⟨⟨by simp [go_sem], by simp [go_sem]⟩, by simp [go_sem], by simp [go_sem]⟩)
  have Z0 := Lib.hid (show RD W0 (w.heap.size + 1) 0 0 from by subst hW; exact ⟨⟨by simp [go_sem], by simp [go_sem]⟩, by simp [go_sem], by simp [go_sem]⟩)
  have k0 : Kept w W0 := by subst hW; exact ((Kept.refl _).alloc _ _).alloc _ _
  clear hW
  generalize hg : w.heap.size = g at *
  have gw : w.heap.size ≤ g + 1 := by omega
  obtain ⟨c0, c1⟩ := R0.out.1
  go_wp2_with fail
  refine (CK'.out _).mono ?_
  rintro e w1 ⟨rfl, k1⟩
  clear c0 c1
  have R1 := Lib.hid (R0.out.kept k1)
  have Z1 := Lib.hid (Z0.out.kept k1)
  have kk := Kept.trans k0 k1
  clear R0 Z0 k0 k1
  have ne0 := R1.out.ne
  have ne1 := Z1.out.ne
  obtain ⟨c0, c1⟩ := R1.out.1
  go_wp2_with fail
  refine (rack_1 (id := id) (en := en) (er := 201) g _ c0 c1).mono ?_
  rintro e w2 ⟨rfl, k2⟩
  clear c0 c1
  have Z2 := Lib.hid (Z1.out.kept k2)
  have ne2 := Z2.out.ne
  have kk2 := Kept.trans kk k2
  clear Z1 kk k2
  obtain ⟨⟨z0, z1⟩, zf0, zf1⟩ := Z2.out
  go_wp2
  simp [bodyPost, results, Try.results8, go_sem, *]
  exact (by (repeat (first | with_reducible exact Kept.refl _ | with_reducible apply Kept.drew | with_reducible apply Kept.alloc | ((with_reducible apply Kept.set); focus (simp <;> omega)) | ((with_reducible apply Kept.via); focus with_reducible assumption))))
set_option maxRecDepth 100000 in
set_option maxHeartbeats 1600000 in
theorem rack_not {id en told sent : Int} (CK : ∀ w, Calls Try.prog 9 #[.agg #[.int .i64 id, .int .i64 en]] w fun e w' => e = .returned (.bool true) ∧ Kept w w') (d0 : decide (told < 0) = false) (d1 : decide (sent < told) = false) (d2 : decide (told < en) = true) (w : World) : Calls Try.prog 8 #[.agg #[.int .i64 id, .int .i64 en], .int .i64 told, .int .i64 sent] w fun e w' => e = .returned (.tuple #[.agg #[.int .i64 id, .int .i64 en], .bool false, .int .i64 0]) ∧ Kept w w' := by
  have CK' := Lib.hid CK
  clear CK
  go_enter Try.func8, Try.ntmps8
  go_upto_region 2 with fail
  generalize hW : (World.alloc (World.alloc w (.cells #[.int .i64 id, .int .i64 en] 25)) (.cells #[.int .i64 0, .int .i64 0] 25)) = W0
  have R0 := Lib.hid (show RD W0 w.heap.size id en from by subst hW; exact ⟨⟨by simp [go_sem], by simp [go_sem]⟩, by simp [go_sem], by simp [go_sem]⟩)
  have Z0 := Lib.hid (show RD W0 (w.heap.size + 1) 0 0 from by subst hW; exact ⟨⟨by simp [go_sem], by simp [go_sem]⟩, by simp [go_sem], by simp [go_sem]⟩)
  have k0 : Kept w W0 := by subst hW; exact ((Kept.refl _).alloc _ _).alloc _ _
  clear hW
  generalize hg : w.heap.size = g at *
  have gw : w.heap.size ≤ g + 1 := by omega
  obtain ⟨c0, c1⟩ := R0.out.1
  go_wp2_with fail
  refine (CK'.out _).mono ?_
  rintro e w1 ⟨rfl, k1⟩
  clear c0 c1
  have R1 := Lib.hid (R0.out.kept k1)
  have Z1 := Lib.hid (Z0.out.kept k1)
  have kk := Kept.trans k0 k1
  clear R0 Z0 k0 k1
  have ne0 := R1.out.ne
  have ne1 := Z1.out.ne
  obtain ⟨c0, c1⟩ := R1.out.1
  go_wp2_with fail
  refine (rack_1 (id := id) (en := en) (er := 0) g _ c0 c1).mono ?_
  rintro e w2 ⟨rfl, k2⟩
  clear c0 c1
  have Z2 := Lib.hid (Z1.out.kept k2)
  have ne2 := Z2.out.ne
  have kk2 := Kept.trans kk k2
  clear Z1 kk k2
  obtain ⟨⟨z0, z1⟩, zf0, zf1⟩ := Z2.out
  go_wp2
  simp [bodyPost, results, Try.results8, go_sem, *]
  exact (by (repeat (first | with_reducible exact Kept.refl _ | with_reducible apply Kept.drew | with_reducible apply Kept.alloc | ((with_reducible apply Kept.set); focus (simp <;> omega)) | ((with_reducible apply Kept.via); focus with_reducible assumption))))
set_option maxRecDepth 100000 in
set_option maxHeartbeats 1600000 in
theorem rack_last {id en told sent : Int} (CK : ∀ w, Calls Try.prog 9 #[.agg #[.int .i64 id, .int .i64 en]] w fun e w' => e = .returned (.bool true) ∧ Kept w w') (d0 : decide (told < 0) = false) (d1 : decide (sent < told) = false) (d2 : decide (told < en) = false) (d3 : id = 9223372036854775807) (w : World) : Calls Try.prog 8 #[.agg #[.int .i64 id, .int .i64 en], .int .i64 told, .int .i64 sent] w fun e w' => e = .returned (.tuple #[.agg #[.int .i64 id, .int .i64 en], .bool false, .int .i64 201]) ∧ Kept w w' := by
  have CK' := Lib.hid CK
  clear CK
  have d4 : (id == 9223372036854775807) = true := by simp [d3]
  clear d3
  go_enter Try.func8, Try.ntmps8
  go_upto_region 2 with fail
  generalize hW : (World.alloc (World.alloc w (.cells #[.int .i64 id, .int .i64 en] 25)) (.cells #[.int .i64 0, .int .i64 0] 25)) = W0
  have R0 := Lib.hid (show RD W0 w.heap.size id en from by subst hW; exact ⟨⟨by simp [go_sem], by simp [go_sem]⟩, by simp [go_sem], by simp [go_sem]⟩)
  have Z0 := Lib.hid (show RD W0 (w.heap.size + 1) 0 0 from by subst hW; exact ⟨⟨by simp [go_sem], by simp [go_sem]⟩, by simp [go_sem], by simp [go_sem]⟩)
  have k0 : Kept w W0 := by subst hW; exact ((Kept.refl _).alloc _ _).alloc _ _
  clear hW
  generalize hg : w.heap.size = g at *
  have gw : w.heap.size ≤ g + 1 := by omega
  obtain ⟨c0, c1⟩ := R0.out.1
  go_wp2_with fail
  refine (CK'.out _).mono ?_
  rintro e w1 ⟨rfl, k1⟩
  clear c0 c1
  have R1 := Lib.hid (R0.out.kept k1)
  have Z1 := Lib.hid (Z0.out.kept k1)
  have kk := Kept.trans k0 k1
  clear R0 Z0 k0 k1
  have ne0 := R1.out.ne
  have ne1 := Z1.out.ne
  obtain ⟨c0, c1⟩ := R1.out.1
  go_wp2_with fail
  refine (rack_1 (id := id) (en := en) (er := 201) g _ c0 c1).mono ?_
  rintro e w2 ⟨rfl, k2⟩
  clear c0 c1
  have Z2 := Lib.hid (Z1.out.kept k2)
  have ne2 := Z2.out.ne
  have kk2 := Kept.trans kk k2
  clear Z1 kk k2
  obtain ⟨⟨z0, z1⟩, zf0, zf1⟩ := Z2.out
  go_wp2
  simp [bodyPost, results, Try.results8, go_sem, *]
  exact (by (repeat (first | with_reducible exact Kept.refl _ | with_reducible apply Kept.drew | with_reducible apply Kept.alloc | ((with_reducible apply Kept.set); focus (simp <;> omega)) | ((with_reducible apply Kept.via); focus with_reducible assumption))))
set_option maxRecDepth 100000 in
set_option maxHeartbeats 1600000 in
theorem rack_next {id en told sent : Int} (CK : ∀ w, Calls Try.prog 9 #[.agg #[.int .i64 id, .int .i64 en]] w fun e w' => e = .returned (.bool true) ∧ Kept w w') (d0 : decide (told < 0) = false) (d1 : decide (sent < told) = false) (d2 : decide (told < en) = false) (i0 : 0 ≤ id) (d3 : id < 9223372036854775807) (w : World) : Calls Try.prog 8 #[.agg #[.int .i64 id, .int .i64 en], .int .i64 told, .int .i64 sent] w fun e w' => e = .returned (.tuple #[.agg #[.int .i64 (id + 1), .int .i64 sent], .bool true, .int .i64 0]) ∧ Kept w w' := by
  have CK' := Lib.hid CK
  clear CK
  have d4 : (id == 9223372036854775807) = false := by simp; omega
  go_enter Try.func8, Try.ntmps8
  go_upto_region 2 with fail
  generalize hW : (World.alloc (World.alloc w (.cells #[.int .i64 id, .int .i64 en] 25)) (.cells #[.int .i64 0, .int .i64 0] 25)) = W0
  have R0 := Lib.hid (show RD W0 w.heap.size id en from by subst hW; exact ⟨⟨by simp [go_sem], by simp [go_sem]⟩, by simp [go_sem], by simp [go_sem]⟩)
  have Z0 := Lib.hid (show RD W0 (w.heap.size + 1) 0 0 from by subst hW; exact ⟨⟨by simp [go_sem], by simp [go_sem]⟩, by simp [go_sem], by simp [go_sem]⟩)
  have k0 : Kept w W0 := by subst hW; exact ((Kept.refl _).alloc _ _).alloc _ _
  clear hW
  generalize hg : w.heap.size = g at *
  have gw : w.heap.size ≤ g + 1 := by omega
  obtain ⟨c0, c1⟩ := R0.out.1
  go_wp2_with fail
  refine (CK'.out _).mono ?_
  rintro e w1 ⟨rfl, k1⟩
  clear c0 c1
  have R1 := Lib.hid (R0.out.kept k1)
  have Z1 := Lib.hid (Z0.out.kept k1)
  have kk := Kept.trans k0 k1
  clear R0 Z0 k0 k1
  have ne0 := R1.out.ne
  have ne1 := Z1.out.ne
  obtain ⟨c0, c1⟩ := R1.out.1
  obtain ⟨⟨z0, z1⟩, zf0, zf1⟩ := Z1.out
  go_wp2
  simp [bodyPost, results, Try.results8, go_sem, *]
  exact (by (repeat (first | with_reducible exact Kept.refl _ | with_reducible apply Kept.drew | with_reducible apply Kept.alloc | ((with_reducible apply Kept.set); focus (simp <;> omega)) | ((with_reducible apply Kept.via); focus with_reducible assumption))))
theorem rack_c : RAckC := fun id en told sent id' en' b er hi he ht hs h w => by
  have CK := fun (v : Bool) (hv : v = true ↔ 0 ≤ id ∧ 0 ≤ en) w => rcheck_c id en v hi he hv w
  rcases h with ⟨h, rfl, rfl, rfl, rfl⟩ | ⟨h, h1, h2, rfl, rfl, rfl, rfl⟩ | ⟨h, h1, h2, rfl, rfl, rfl, rfl⟩ | ⟨h, h1, rfl, rfl, rfl, rfl⟩
  · by_cases c : 0 ≤ id' ∧ 0 ≤ en'
    · by_cases d : told < 0
      · exact rack_neg (fun w => CK true (by simp; exact c) w) (by simp [d]) w
      · exact rack_few (fun w => CK true (by simp; exact c) w) (by simp; omega) (by simp; omega) w
    · exact rack_bad (fun w => CK false (by simp; omega) w) w
  · exact rack_last (fun w => CK true (by simp; omega) w) (by simp; omega) (by simp; omega) (by simp; omega) h2 w
  · exact rack_next (fun w => CK true (by simp; omega) w) (by simp; omega) (by simp; omega) (by simp; omega) (by omega) h2 w
  · exact rack_not (fun w => CK true (by simp; omega) w) (by simp; omega) (by simp; omega) (by simp; omega) w
set_option maxRecDepth 100000 in
set_option maxHeartbeats 6400000 in
theorem rcount_c : RCountC := fun A len cap zs A2 len2 cap2 zs2 nq hc hcm hc2 hcm2 hz hz2 hnq w hr hr2 => by
  subst hnq
  have KC' := Lib.hid rack_c
  have BC' := Lib.hid rbegin_c
  have HR := Lib.hid hr
  have HR2 := Lib.hid hr2
  have HZ := Lib.hid hz
  have HZ2 := Lib.hid hz2
  clear hr hr2 hz hz2
  obtain ⟨m, hm⟩ : ∃ m, min len len2 = m := ⟨_, rfl⟩
  rw [hm]
  have HM := Lib.hid hm
  clear hm
  go_enter Try.func10, Try.ntmps10
  go_wp2_with fail
  refine (BC'.out 0 0 (by unfold In64; omega) (by split <;> omega) _).mono ?_
  rintro e w2 ⟨rfl, k2⟩
  have gb := Kept.below k2
  go_upto_region 2 with fail
  generalize hW : World.alloc w2 (.cells #[.int .i64 0, .int .i64 0] 25) = Wr
  have KWr : Kept w2 Wr := by subst hW; exact (Kept.refl _).alloc _ _
  have RWr := Lib.hid (show RD Wr w2.heap.size 0 0 from by subst hW; exact ⟨⟨by simp [go_sem], by simp [go_sem]⟩, by simp [go_sem], by simp [go_sem]⟩)
  have LWr : w2.heap.size < Wr.heap.size := by subst hW; simp
  clear hW
  generalize hgWr : w2.heap.size = gWr at *
  have gw : w.heap.size ≤ gWr := by omega
  clear gb
  have k0 := Kept.trans k2 KWr
  clear k2 KWr
  go_cut [16, 17] (fun s16 s17 wx => s16 = .int .i64 (m : Int) ∧ s17 = .int .i64 0 ∧ Kept Wr wx)
  case first =>
    rcases Nat.lt_or_ge len2 len with hx | hx
    · obtain rfl : m = len2 := by have := HM.out; omega
      go_wp2_with fail
      go_meet
      exact ⟨by simp <;> omega, rfl, (by (repeat (first | with_reducible exact Kept.refl _ | with_reducible apply Kept.drew | with_reducible apply Kept.alloc | ((with_reducible apply Kept.set); focus (simp <;> omega)) | ((with_reducible apply Kept.via); focus with_reducible assumption))))⟩
    · obtain rfl : m = len := by have := HM.out; omega
      go_wp2_with fail
      go_meet
      exact ⟨by simp <;> omega, rfl, (by (repeat (first | with_reducible exact Kept.refl _ | with_reducible apply Kept.drew | with_reducible apply Kept.alloc | ((with_reducible apply Kept.set); focus (simp <;> omega)) | ((with_reducible apply Kept.via); focus with_reducible assumption))))⟩
  obtain ⟨rfl, rfl, kc⟩ := hcut
  have RWc := Lib.hid (RWr.out.kept kc)
  have kb := Kept.trans k0 kc
  clear RWr k0 kc
  have hml : m ≤ len ∧ m ≤ len2 := by have := HM.out; omega
  go_wp2
  go_loopw [6, 17] (fun nv i wr => ∃ (k : Nat) (n : Int), k ≤ m ∧ nv = .int .i64 n ∧ i = .int .i64 k ∧ n = (cntS (fun k => zs.getD k 0) (fun k => zs2.getD k 0) k).1 ∧ RD wr gWr n (cntS (fun k => zs.getD k 0) (fun k => zs2.getD k 0) k).2 ∧ Kept w wr) (fun _ i _ => m - (intOf i).toNat)
  case atStart => exact ⟨0, 0, Nat.zero_le _, rfl, rfl, rfl, RWc.out, kb⟩
  case round =>
    clear kb LWr
    obtain ⟨k, n, hk, rfl, rfl, hn, hD, kw⟩ := hrel
    have RR := Lib.hid hD
    have CN := Lib.hid hn
    clear hD hn
    have gne := RR.out.ne
    by_cases hlt : k < m
    · have hltI0 : (k : Int) < (m : Int) := by omega
      have hltI : (k : Int) < (len : Int) := by omega
      have hltI2 : (k : Int) < (len2 : Int) := by omega
      obtain ⟨b, off, eA, hc1⟩ := (HR.out.kept kw) (by omega)
      obtain ⟨b2, off2, eA2, hc3⟩ := (HR2.out.kept kw) (by omega)
      subst eA eA2
      have x1 : wr.cell? ⟨b, off + k, none⟩ = some (.int .i64 (zs.getD k 0)) := hc1 k (by omega)
      have x2 : wr.cell? ⟨b2, off2 + k, none⟩ = some (.int .i64 (zs2.getD k 0)) := hc3 k (by omega)
      clear hc1 hc3
      obtain ⟨ov, er, hack, hov⟩ := cnt_ack (f := fun k => zs.getD k 0) (g := fun k => zs2.getD k 0) (k := k) (by omega)
      have RNG := Lib.hid (cnt_range (fun k => zs.getD k 0) (fun k => zs2.getD k 0) k)
      have RNG2 := Lib.hid (cnt_range (fun k => zs.getD k 0) (fun k => zs2.getD k 0) (k + 1))
      have IE := Lib.hid (cnt_in64 (f := fun k => zs.getD k 0) (g := fun k => zs2.getD k 0) k (fun j hj => HZ2.out j (by omega)))
      have IZ := Lib.hid (HZ.out k (by omega))
      have IZ2 := Lib.hid (HZ2.out k (by omega))
      obtain ⟨en, hen⟩ : ∃ en, (cntS (fun k => zs.getD k 0) (fun k => zs2.getD k 0) k).2 = en := ⟨_, rfl⟩
      obtain ⟨id2, hid2⟩ : ∃ id2, (cntS (fun k => zs.getD k 0) (fun k => zs2.getD k 0) (k + 1)).1 = id2 := ⟨_, rfl⟩
      obtain ⟨en2, hen2⟩ : ∃ en2, (cntS (fun k => zs.getD k 0) (fun k => zs2.getD k 0) (k + 1)).2 = en2 := ⟨_, rfl⟩
      rw [← CN.out, hen, hid2, hen2] at hack
      rw [hid2] at hov
      rw [← CN.out] at hov
      rw [hen] at RR IE
      have AK := Lib.hid hack
      have E3 := Lib.hid (And.intro hid2 hen2)
      clear hack hen hid2 hen2
      have n0 : 0 ≤ n ∧ n ≤ (k : Int) := by have := RNG.out; have := CN.out; omega
      have HA := Lib.hid (HR.out.kept kw)
      have HA2 := Lib.hid (HR2.out.kept kw)
      generalize zs.getD k 0 = z at x1 AK IZ
      generalize zs2.getD k 0 = z2 at x2 AK IZ2
      obtain ⟨⟨c0, c1⟩, c2, c3⟩ := RR.out
      go_upto_region 5 with fail
      have base := Lib.hid (show wr.cell? ⟨gWr, 0, none⟩ = some (.int .i64 n) ∧ wr.cell? ⟨gWr, 1, none⟩ = some (.int .i64 en) ∧ wr.cell? ⟨b, off + k, none⟩ = some (.int .i64 z) ∧ wr.cell? ⟨b2, off2 + k, none⟩ = some (.int .i64 z2) from ⟨c0, c1, x1, x2⟩)
      go_cut [8, 9, 10] (fun s9 s10 s11 wx => ∃ g : Nat, s9 = .pointer (some ⟨g, 0, none⟩) ∧ s10 = .bool ov ∧ s11 = .int .i64 er ∧ RD wx g id2 en2 ∧ wr.heap.size ≤ g ∧ Kept wr wx)
      case first =>
        go_region_held3 (fun w' => w'.cell? ⟨gWr, 0, none⟩ = some (.int .i64 n) ∧ w'.cell? ⟨gWr, 1, none⟩ = some (.int .i64 en) ∧ w'.cell? ⟨b, off + k, none⟩ = some (.int .i64 z) ∧ w'.cell? ⟨b2, off2 + k, none⟩ = some (.int .i64 z2))
          ((refine Kept.alln4 ?_ base; focus ((repeat (first | with_reducible exact Kept.refl _ | with_reducible apply Kept.drew | with_reducible apply Kept.alloc | ((with_reducible apply Kept.set); focus (simp <;> omega)) | ((with_reducible apply Kept.via); focus with_reducible assumption))); done)))
          (first | (go_at_call 8; refine (KC'.out (n) (en) (z) (z2) (id2) (en2) (ov) (er) (by unfold In64; omega) IE.out IZ.out IZ2.out AK.out _).mono ?_; rintro e v1 ⟨rfl, i1⟩; (try (first | (with_reducible have nr := Room2.newD i1) | (with_reducible have nr := Room2.new i1) | (with_reducible have nr := Room2.kept nr i1))); have y1 := Kept.below i1; (try simp at y1); (try (obtain ⟨nx, ny, na1, na2, nb1, nb2⟩ := nr))))
        all_goals
          go_wp2_with fail
          go_meet
          exact ⟨_, rfl, rfl, rfl, ⟨⟨by simp [*, go_sem], by simp [*, go_sem]⟩, by simp [*, go_sem], by simp [*, go_sem]⟩, (by first | omega | (simp; omega)), (by (repeat (first | with_reducible exact Kept.refl _ | with_reducible apply Kept.drew | with_reducible apply Kept.alloc | ((with_reducible apply Kept.set); focus (simp <;> omega)) | ((with_reducible apply Kept.via); focus with_reducible assumption))))⟩
      obtain ⟨gq, rfl, rfl, rfl, hq, hgq, K_q⟩ := hcut
      generalize wc = W_q at *
      have RQ := Lib.hid hq
      have RR2 := Lib.hid (RR.out.kept K_q)
      have kwq := Kept.trans kw K_q
      have nn1 : ¬ gq = gWr := by omega
      have nn2 : ¬ gWr = gq := by omega
      have gle : w.heap.size ≤ gWr := by omega
      have HA3 := Lib.hid (HA.out.kept K_q)
      have HA4 := Lib.hid (HA2.out.kept K_q)
      clear hq base c0 c1 c2 c3 x1 x2 K_q
      obtain ⟨⟨c0, c1⟩, c2, c3⟩ := RR2.out
      obtain ⟨⟨d0, d1⟩, d2, d3⟩ := RQ.out
      rcases hov with ⟨rfl, h2⟩ | ⟨rfl, h2⟩
      · have h3 := h2.symm
        clear h2
        subst h3
        go_wp2
        go_roundw
        case rel => exact ⟨k + 1, n + 1, by omega, rfl, by go_num, E3.out.1.symm, by rw [E3.out.2]; exact ⟨⟨by simp [*, go_sem], by simp [*, go_sem]⟩, by simp [*, go_sem], by simp [*, go_sem]⟩, (by (repeat (first | with_reducible exact Kept.refl _ | with_reducible apply Kept.drew | with_reducible apply Kept.alloc | ((with_reducible apply Kept.set); focus (simp <;> omega)) | ((with_reducible apply Kept.via); focus with_reducible assumption))))⟩
        case measure => simp [intOf]; omega
      · have h3 := h2.symm
        clear h2
        subst h3
        obtain rfl : en2 = en := by have := AK.out; unfold AckIs at this; simp at this; omega
        go_wp2
        go_roundw
        case rel => exact ⟨k + 1, n, by omega, rfl, by go_num, E3.out.1.symm, by rw [E3.out.2]; exact ⟨⟨by simp [*, go_sem], by simp [*, go_sem]⟩, by simp [*, go_sem], by simp [*, go_sem]⟩, (by (repeat (first | with_reducible exact Kept.refl _ | with_reducible apply Kept.drew | with_reducible apply Kept.alloc | ((with_reducible apply Kept.set); focus (simp <;> omega)) | ((with_reducible apply Kept.via); focus with_reducible assumption))))⟩
        case measure => simp [intOf]; omega
    · obtain rfl : k = m := by omega
      have g2 : decide ((k : Int) < (k : Int)) = false := by simp
      go_wp2
      go_ret
      exact ⟨by rw [CN.out]; rfl, kw⟩
end Go.Proofs.Ytchlllgdbkmdaaa
