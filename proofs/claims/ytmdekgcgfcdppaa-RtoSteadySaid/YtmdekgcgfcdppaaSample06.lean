/-
  Contracts of Sample of package rtt.
-/
import Derived.Test.YtmdekgcgfcdppaaRtt06
import Derived.Test.YtmdekgcgfcdppaaTail
import Derived.Deep.DeepCutAuto
import Derived.Deep.RegionWith
namespace Go.Proofs.Ytmdekgcgfcdppaa
open Go.RowKit Go.BigFrame
set_option linter.unusedVariables false

/-- Cells of what is known, which may be written. -/
def RC (w : World) (g : Nat) (b : Bool) (m f : Int) : Prop := (w.cell? ⟨g, 0, none⟩ = some (.bool b) ∧ w.cell? ⟨g, 1, none⟩ = some (.int .i64 m) ∧ w.cell? ⟨g, 2, none⟩ = some (.int .i64 f)) ∧ Thaw3 w g
theorem RC.kept {w1 w2 : World} {g : Nat} {b : Bool} {m f : Int} (q : RC w1 g b m f) (k : Kept w1 w2) : RC w2 g b m f :=
  ⟨⟨k.read q.1.1, k.read q.1.2.1, k.read q.1.2.2⟩, q.2.kept k⟩
set_option maxRecDepth 100000 in
set_option maxHeartbeats 1600000 in
theorem with_walk {b : Bool} {m f t p g q : Int} (p0 : 0 ≤ p) (p1 : p ≤ 1073741824) (g0 : 0 ≤ g) (g1 : g ≤ 1073741824) (r0 : 0 ≤ q) (r1 : q ≤ 1073741824) (m0 : 8 ≤ m) (m1 : m ≤ 8589934592) (f0 : 0 ≤ f) (f1 : f ≤ 4294967296) (t0 : 1 ≤ t) (t1 : t ≤ 1073741824) (ME : ∀ w, Calls Try.prog 29 #[.agg #[.bool b, .int .i64 m, .int .i64 f]] w fun e w' => e = .returned (.int .i64 p) ∧ Kept w w') (AP : ∀ w, Calls Try.prog 31 #[.int .i64 t, .int .i64 p] w fun e w' => e = .returned (.int .i64 g) ∧ Kept w w') (FA : ∀ w, Calls Try.prog 32 #[.agg #[.bool b, .int .i64 m, .int .i64 f]] w fun e w' => e = .returned (.int .i64 q) ∧ Kept w w') (MF : ∀ w, Calls Try.prog 29 #[.agg #[.bool b, .int .i64 m, .int .i64 (f + (g - q))]] w fun e w' => e = .returned (.int .i64 p) ∧ Kept w w') (w : World) :
    Calls Try.prog 28 #[.agg #[.bool b, .int .i64 m, .int .i64 f], .int .i64 t] w fun e w' => e = .returned (.agg #[.bool b, .int .i64 (m + (t - p)), .int .i64 (f + (g - q))]) ∧ Kept w w' := by
  have ME' := Lib.hid ME
  have AP' := Lib.hid AP
  have FA' := Lib.hid FA
  have MF' := Lib.hid MF
  clear ME AP FA MF
  go_enter Try.func28, Try.ntmps28
  go_upto_region 1 with fail
  generalize hW : (World.alloc (World.alloc w (.cells #[.bool b, .int .i64 m, .int .i64 f] 47)) (.cells #[.bool false, .int .i64 0, .int .i64 0] 47)) = W0
  have base := Lib.hid (show W0.cell? ⟨w.heap.size, 0, none⟩ = some (.bool b) ∧ W0.cell? ⟨w.heap.size, 1, none⟩ = some (.int .i64 m) ∧ W0.cell? ⟨w.heap.size, 2, none⟩ = some (.int .i64 f) from by subst hW; simp [go_sem])
  have th : Thaw3 W0 (w.heap.size) := by subst hW; exact ⟨by simp [go_sem], by simp [go_sem], by simp [go_sem]⟩
  have room : Room3 W0 (w.heap.size + 1) := by subst hW; exact ⟨_, _, _, by first | (simp [go_sem]; done) | (simp [go_sem]; rfl), by first | (simp [go_sem]; done) | (simp [go_sem]; rfl), by first | (simp [go_sem]; done) | (simp [go_sem]; rfl), by simp [go_sem], by simp [go_sem], by simp [go_sem]⟩
  have kw : Kept w W0 := by subst hW; exact (by (repeat (first | with_reducible exact Kept.refl _ | with_reducible apply Kept.drew | with_reducible apply Kept.alloc | ((with_reducible apply Kept.set); focus (simp <;> omega)) | ((with_reducible apply Kept.via); focus with_reducible assumption))))
  clear hW
  go_upto_region 1 with fail
  obtain ⟨q0, q1, q2⟩ := kw3 base
  refine wp_region_kept_tail 13 (by kernel_rfl) (by kernel_rfl) ?_
  simp only [List.take_succ_cons, List.take_zero, List.drop_succ_cons, List.drop_zero]
  repeat (go_big_quiet_step (first | (with_reducible exact kept_of (ME'.out _)) | (with_reducible exact kept_of (AP'.out _)) | (with_reducible exact kept_of (FA'.out _))))
  refine wpQuiet_nil ?_
  intro wa hw'
  have ka : Kept W0 wa := by obtain ⟨p, rfl⟩ := hw'; exact p.k
  clear hw' q0 q1 q2
  obtain ⟨q0, q1, q2⟩ := Kept.all3 ka base
  obtain ⟨h0, h1, h2⟩ := th.kept ka
  go_upto_region 2 with fail
  generalize hW : (World.setCell wa ⟨w.heap.size, 2, none⟩ (.int .i64 (f + (g - q)))) = W1
  have base' := Lib.hid (show W1.cell? ⟨w.heap.size, 0, none⟩ = some (.bool b) ∧ W1.cell? ⟨w.heap.size, 1, none⟩ = some (.int .i64 m) ∧ W1.cell? ⟨w.heap.size, 2, none⟩ = some (.int .i64 (f + (g - q))) from by subst hW; simp [*, go_sem])
  have th' : Thaw3 W1 (w.heap.size) := by subst hW; exact ⟨by simp [*, go_sem], by simp [*, go_sem], by simp [*, go_sem]⟩
  have room' : Room3 W1 (w.heap.size + 1) := by subst hW; exact Room3.setCell (Room3.kept room ka) (by simp) _
  have kw' : Kept w W1 := by subst hW; exact (by (repeat (first | with_reducible exact Kept.refl _ | with_reducible apply Kept.drew | with_reducible apply Kept.alloc | ((with_reducible apply Kept.set); focus (simp <;> omega)) | ((with_reducible apply Kept.via); focus with_reducible assumption))))
  clear hW q0 q1 q2 h0 h1 h2 base th room ka kw
  have base := base'
  have th := th'
  clear base' th'
  go_upto_region 2 with fail
  obtain ⟨q0, q1, q2⟩ := kw3 base
  refine wp_region_kept_tail 10 (by kernel_rfl) (by kernel_rfl) ?_
  simp only [List.take_succ_cons, List.take_zero, List.drop_succ_cons, List.drop_zero]
  repeat (go_big_quiet_step (first | (with_reducible exact kept_of (MF'.out _))))
  refine wpQuiet_nil ?_
  intro wb hw'
  have kb : Kept W1 wb := by obtain ⟨p, rfl⟩ := hw'; exact p.k
  clear hw' q0 q1 q2
  obtain ⟨q0, q1, q2⟩ := Kept.all3 kb base
  obtain ⟨h0, h1, h2⟩ := th.kept kb
  go_upto_region 3 with fail
  have room2 := Room3.setCell (Room3.kept room' kb) (show w.heap.size + 1 ≠ (⟨w.heap.size, 1, none⟩ : Addr).block by simp) (.int .i64 (m + (t - p)))
  obtain ⟨nx, ny, nz, na1, na2, na3, nb1, nb2, nb3⟩ := room2
  go_wp2
  simp [bodyPost, results, Try.results28, go_sem, *]
  exact (by (repeat (first | with_reducible exact Kept.refl _ | with_reducible apply Kept.drew | with_reducible apply Kept.alloc | ((with_reducible apply Kept.set); focus (simp <;> omega)) | ((with_reducible apply Kept.via); focus with_reducible assumption))))
theorem field_known (a c : Int) (w : World) : (Instr.field 47 (.agg #[.bool true, .int .i64 a, .int .i64 c]) 0).run Try.prog w = .ok (.agg #[.bool true, .int .i64 a, .int .i64 c]) w := by rfl
set_option maxRecDepth 100000 in
set_option maxHeartbeats 1600000 in
theorem sample_bad {b : Bool} {m f t : Int} (MY : ∀ w, Calls Try.prog 25 #[.agg #[.bool b, .int .i64 m, .int .i64 f]] w fun e w' => e = .returned (.bool false) ∧ Kept w w') (w : World) : Calls Try.prog 17 #[.agg #[.bool b, .int .i64 m, .int .i64 f], .int .i64 t] w fun e w' => e = .returned (.tuple #[.agg #[.bool b, .int .i64 m, .int .i64 f], .int .i64 201]) ∧ Kept w w' := by
  have MY' := Lib.hid MY
  clear MY
  go_enter Try.func17, Try.ntmps17
  go_upto_region 2 with fail
  generalize hW : (World.alloc (World.alloc (World.alloc w (.cells #[.bool b, .int .i64 m, .int .i64 f] 23)) (.cells #[.bool false, .int .i64 0, .int .i64 0] 23)) (.cells #[.bool b, .int .i64 m, .int .i64 f] 47)) = W0
  have base := Lib.hid (show W0.cell? ⟨w.heap.size, 0, none⟩ = some (.bool b) ∧ W0.cell? ⟨w.heap.size, 1, none⟩ = some (.int .i64 m) ∧ W0.cell? ⟨w.heap.size, 2, none⟩ = some (.int .i64 f) ∧ W0.cell? ⟨w.heap.size + 1 + 1, 0, none⟩ = some (.bool b) ∧ W0.cell? ⟨w.heap.size + 1 + 1, 1, none⟩ = some (.int .i64 m) ∧ W0.cell? ⟨w.heap.size + 1 + 1, 2, none⟩ = some (.int .i64 f) from by subst hW; simp [go_sem])
  have room : Room3 W0 (w.heap.size + 1) := by subst hW; exact ⟨_, _, _, by first | (simp [go_sem]; done) | (simp [go_sem]; rfl), by first | (simp [go_sem]; done) | (simp [go_sem]; rfl), by first | (simp [go_sem]; done) | (simp [go_sem]; rfl), by simp [go_sem], by simp [go_sem], by simp [go_sem]⟩
  have kw : Kept w W0 := by subst hW; exact (by (repeat (first | with_reducible exact Kept.refl _ | with_reducible apply Kept.drew | with_reducible apply Kept.alloc | ((with_reducible apply Kept.set); focus (simp <;> omega)) | ((with_reducible apply Kept.via); focus with_reducible assumption))))
  clear hW
  obtain ⟨c0, c1, c2, d0, d1, d2⟩ := base.out
  go_wp2_with fail
  refine (MY'.out _).mono ?_
  rintro e w1 ⟨rfl, k1⟩
  clear c0 c1 c2 d0 d1 d2
  obtain ⟨c0, c1, c2, d0, d1, d2⟩ := Kept.all6 k1 base
  obtain ⟨nx, ny, nz, na1, na2, na3, nb1, nb2, nb3⟩ := Room3.kept room k1
  go_wp2
  simp [bodyPost, results, Try.results17, go_sem, *]
  exact (by (repeat (first | with_reducible exact Kept.refl _ | with_reducible apply Kept.drew | with_reducible apply Kept.alloc | ((with_reducible apply Kept.set); focus (simp <;> omega)) | ((with_reducible apply Kept.via); focus with_reducible assumption))))
set_option maxRecDepth 100000 in
set_option maxHeartbeats 1600000 in
theorem sample_late {b : Bool} {m f t : Int} (MY : ∀ w, Calls Try.prog 25 #[.agg #[.bool b, .int .i64 m, .int .i64 f]] w fun e w' => e = .returned (.bool true) ∧ Kept w w') (WI : ∀ w, Calls Try.prog 26 #[.int .i64 t, .int .i64 1, .int .i64 1073741824] w fun e w' => e = .returned (.bool false) ∧ Kept w w') (w : World) : Calls Try.prog 17 #[.agg #[.bool b, .int .i64 m, .int .i64 f], .int .i64 t] w fun e w' => e = .returned (.tuple #[.agg #[.bool b, .int .i64 m, .int .i64 f], .int .i64 201]) ∧ Kept w w' := by
  have MY' := Lib.hid MY
  have WI' := Lib.hid WI
  clear MY WI
  go_enter Try.func17, Try.ntmps17
  go_upto_region 2 with fail
  generalize hW : (World.alloc (World.alloc (World.alloc w (.cells #[.bool b, .int .i64 m, .int .i64 f] 23)) (.cells #[.bool false, .int .i64 0, .int .i64 0] 23)) (.cells #[.bool b, .int .i64 m, .int .i64 f] 47)) = W0
  have base := Lib.hid (show W0.cell? ⟨w.heap.size, 0, none⟩ = some (.bool b) ∧ W0.cell? ⟨w.heap.size, 1, none⟩ = some (.int .i64 m) ∧ W0.cell? ⟨w.heap.size, 2, none⟩ = some (.int .i64 f) ∧ W0.cell? ⟨w.heap.size + 1 + 1, 0, none⟩ = some (.bool b) ∧ W0.cell? ⟨w.heap.size + 1 + 1, 1, none⟩ = some (.int .i64 m) ∧ W0.cell? ⟨w.heap.size + 1 + 1, 2, none⟩ = some (.int .i64 f) from by subst hW; simp [go_sem])
  have room : Room3 W0 (w.heap.size + 1) := by subst hW; exact ⟨_, _, _, by first | (simp [go_sem]; done) | (simp [go_sem]; rfl), by first | (simp [go_sem]; done) | (simp [go_sem]; rfl), by first | (simp [go_sem]; done) | (simp [go_sem]; rfl), by simp [go_sem], by simp [go_sem], by simp [go_sem]⟩
  have kw : Kept w W0 := by subst hW; exact (by (repeat (first | with_reducible exact Kept.refl _ | with_reducible apply Kept.drew | with_reducible apply Kept.alloc | ((with_reducible apply Kept.set); focus (simp <;> omega)) | ((with_reducible apply Kept.via); focus with_reducible assumption))))
  clear hW
  obtain ⟨c0, c1, c2, d0, d1, d2⟩ := base.out
  go_wp2_with fail
  refine (MY'.out _).mono ?_
  rintro e w1 ⟨rfl, k1⟩
  clear c0 c1 c2 d0 d1 d2
  obtain ⟨c0, c1, c2, d0, d1, d2⟩ := Kept.all6 k1 base
  go_wp2_with fail
  refine (WI'.out _).mono ?_
  rintro e w2 ⟨rfl, k2⟩
  clear c0 c1 c2 d0 d1 d2
  obtain ⟨c0, c1, c2, d0, d1, d2⟩ := Kept.all6 (Kept.trans k1 k2) base
  obtain ⟨nx, ny, nz, na1, na2, na3, nb1, nb2, nb3⟩ := Room3.kept room (Kept.trans k1 k2)
  go_wp2
  simp [bodyPost, results, Try.results17, go_sem, *]
  exact (by (repeat (first | with_reducible exact Kept.refl _ | with_reducible apply Kept.drew | with_reducible apply Kept.alloc | ((with_reducible apply Kept.set); focus (simp <;> omega)) | ((with_reducible apply Kept.via); focus with_reducible assumption))))
set_option maxRecDepth 100000 in
set_option maxHeartbeats 1600000 in
theorem sample_first {m f t a c : Int} (MY : ∀ w, Calls Try.prog 25 #[.agg #[.bool false, .int .i64 m, .int .i64 f]] w fun e w' => e = .returned (.bool true) ∧ Kept w w') (WI : ∀ w, Calls Try.prog 26 #[.int .i64 t, .int .i64 1, .int .i64 1073741824] w fun e w' => e = .returned (.bool true) ∧ Kept w w') (FI : ∀ w, Calls Try.prog 27 #[.int .i64 t] w fun e w' => e = .returned (.agg #[.bool true, .int .i64 a, .int .i64 c]) ∧ Kept w w') (w : World) : Calls Try.prog 17 #[.agg #[.bool false, .int .i64 m, .int .i64 f], .int .i64 t] w fun e w' => e = .returned (.tuple #[.agg #[.bool true, .int .i64 a, .int .i64 c], .int .i64 0]) ∧ Kept w w' := by
  have MY' := Lib.hid MY
  have WI' := Lib.hid WI
  have FI' := Lib.hid FI
  clear MY WI FI
  have fl := field_known a c
  go_enter Try.func17, Try.ntmps17
  go_upto_region 2 with fail
  generalize hW : (World.alloc (World.alloc (World.alloc w (.cells #[.bool false, .int .i64 m, .int .i64 f] 23)) (.cells #[.bool false, .int .i64 0, .int .i64 0] 23)) (.cells #[.bool false, .int .i64 m, .int .i64 f] 47)) = W0
  have base := Lib.hid (show W0.cell? ⟨w.heap.size, 0, none⟩ = some (.bool false) ∧ W0.cell? ⟨w.heap.size, 1, none⟩ = some (.int .i64 m) ∧ W0.cell? ⟨w.heap.size, 2, none⟩ = some (.int .i64 f) ∧ W0.cell? ⟨w.heap.size + 1 + 1, 0, none⟩ = some (.bool false) ∧ W0.cell? ⟨w.heap.size + 1 + 1, 1, none⟩ = some (.int .i64 m) ∧ W0.cell? ⟨w.heap.size + 1 + 1, 2, none⟩ = some (.int .i64 f) from by subst hW; simp [go_sem])
  have room : Room3 W0 (w.heap.size + 1) := by subst hW; exact ⟨_, _, _, by first | (simp [go_sem]; done) | (simp [go_sem]; rfl), by first | (simp [go_sem]; done) | (simp [go_sem]; rfl), by first | (simp [go_sem]; done) | (simp [go_sem]; rfl), by simp [go_sem], by simp [go_sem], by simp [go_sem]⟩
  have kw : Kept w W0 := by subst hW; exact (by (repeat (first | with_reducible exact Kept.refl _ | with_reducible apply Kept.drew | with_reducible apply Kept.alloc | ((with_reducible apply Kept.set); focus (simp <;> omega)) | ((with_reducible apply Kept.via); focus with_reducible assumption))))
  clear hW
  obtain ⟨c0, c1, c2, d0, d1, d2⟩ := base.out
  go_wp2_with fail
  refine (MY'.out _).mono ?_
  rintro e w1 ⟨rfl, k1⟩
  clear c0 c1 c2 d0 d1 d2
  obtain ⟨c0, c1, c2, d0, d1, d2⟩ := Kept.all6 k1 base
  go_wp2_with fail
  refine (WI'.out _).mono ?_
  rintro e w2 ⟨rfl, k2⟩
  clear c0 c1 c2 d0 d1 d2
  obtain ⟨c0, c1, c2, d0, d1, d2⟩ := Kept.all6 (Kept.trans k1 k2) base
  go_wp2_with fail
  refine (FI'.out _).mono ?_
  rintro e w3 ⟨rfl, k3⟩
  clear c0 c1 c2 d0 d1 d2
  obtain ⟨c0, c1, c2, d0, d1, d2⟩ := Kept.all6 (Kept.trans (Kept.trans k1 k2) k3) base
  obtain ⟨nx, ny, nz, na1, na2, na3, nb1, nb2, nb3⟩ := Room3.kept room (Kept.trans (Kept.trans k1 k2) k3)
  go_wp2
  simp [bodyPost, results, Try.results17, go_sem, *]
  exact (by (repeat (first | with_reducible exact Kept.refl _ | with_reducible apply Kept.drew | with_reducible apply Kept.alloc | ((with_reducible apply Kept.set); focus (simp <;> omega)) | ((with_reducible apply Kept.via); focus with_reducible assumption))))
set_option maxRecDepth 100000 in
set_option maxHeartbeats 1600000 in
theorem sample_more {m f t a c : Int} (MY : ∀ w, Calls Try.prog 25 #[.agg #[.bool true, .int .i64 m, .int .i64 f]] w fun e w' => e = .returned (.bool true) ∧ Kept w w') (WI : ∀ w, Calls Try.prog 26 #[.int .i64 t, .int .i64 1, .int .i64 1073741824] w fun e w' => e = .returned (.bool true) ∧ Kept w w') (WT : ∀ w, Calls Try.prog 28 #[.agg #[.bool true, .int .i64 m, .int .i64 f], .int .i64 t] w fun e w' => e = .returned (.agg #[.bool true, .int .i64 a, .int .i64 c]) ∧ Kept w w') (w : World) : Calls Try.prog 17 #[.agg #[.bool true, .int .i64 m, .int .i64 f], .int .i64 t] w fun e w' => e = .returned (.tuple #[.agg #[.bool true, .int .i64 a, .int .i64 c], .int .i64 0]) ∧ Kept w w' := by
  have MY' := Lib.hid MY
  have WI' := Lib.hid WI
  have WT' := Lib.hid WT
  clear MY WI WT
  have fl := field_known a c
  go_enter Try.func17, Try.ntmps17
  go_upto_region 2 with fail
  generalize hW : (World.alloc (World.alloc (World.alloc w (.cells #[.bool true, .int .i64 m, .int .i64 f] 23)) (.cells #[.bool false, .int .i64 0, .int .i64 0] 23)) (.cells #[.bool true, .int .i64 m, .int .i64 f] 47)) = W0
  have base := Lib.hid (show W0.cell? ⟨w.heap.size, 0, none⟩ = some (.bool true) ∧ W0.cell? ⟨w.heap.size, 1, none⟩ = some (.int .i64 m) ∧ W0.cell? ⟨w.heap.size, 2, none⟩ = some (.int .i64 f) ∧ W0.cell? ⟨w.heap.size + 1 + 1, 0, none⟩ = some (.bool true) ∧ W0.cell? ⟨w.heap.size + 1 + 1, 1, none⟩ = some (.int .i64 m) ∧ W0.cell? ⟨w.heap.size + 1 + 1, 2, none⟩ = some (.int .i64 f) from by subst hW; simp [go_sem])
  have room : Room3 W0 (w.heap.size + 1) := by subst hW; exact ⟨_, _, _, by first | (simp [go_sem]; done) | (simp [go_sem]; rfl), by first | (simp [go_sem]; done) | (simp [go_sem]; rfl), by first | (simp [go_sem]; done) | (simp [go_sem]; rfl), by simp [go_sem], by simp [go_sem], by simp [go_sem]⟩
  have kw : Kept w W0 := by subst hW; exact (by (repeat (first | with_reducible exact Kept.refl _ | with_reducible apply Kept.drew | with_reducible apply Kept.alloc | ((with_reducible apply Kept.set); focus (simp <;> omega)) | ((with_reducible apply Kept.via); focus with_reducible assumption))))
  clear hW
  obtain ⟨c0, c1, c2, d0, d1, d2⟩ := base.out
  go_wp2_with fail
  refine (MY'.out _).mono ?_
  rintro e w1 ⟨rfl, k1⟩
  clear c0 c1 c2 d0 d1 d2
  obtain ⟨c0, c1, c2, d0, d1, d2⟩ := Kept.all6 k1 base
  go_wp2_with fail
  refine (WI'.out _).mono ?_
  rintro e w2 ⟨rfl, k2⟩
  clear c0 c1 c2 d0 d1 d2
  obtain ⟨c0, c1, c2, d0, d1, d2⟩ := Kept.all6 (Kept.trans k1 k2) base
  go_wp2_with fail
  refine (WT'.out _).mono ?_
  rintro e w3 ⟨rfl, k3⟩
  clear c0 c1 c2 d0 d1 d2
  obtain ⟨c0, c1, c2, d0, d1, d2⟩ := Kept.all6 (Kept.trans (Kept.trans k1 k2) k3) base
  obtain ⟨nx, ny, nz, na1, na2, na3, nb1, nb2, nb3⟩ := Room3.kept room (Kept.trans (Kept.trans k1 k2) k3)
  go_wp2
  simp [bodyPost, results, Try.results17, go_sem, *]
  exact (by (repeat (first | with_reducible exact Kept.refl _ | with_reducible apply Kept.drew | with_reducible apply Kept.alloc | ((with_reducible apply Kept.set); focus (simp <;> omega)) | ((with_reducible apply Kept.via); focus with_reducible assumption))))
theorem gap_range {a b : Int} (a0 : 0 ≤ a) (a1 : a ≤ 1073741824) (b0 : 0 ≤ b) (b1 : b ≤ 1073741824) : 0 ≤ gapOf a b ∧ gapOf a b ≤ 1073741824 := by
  unfold gapOf; split <;> omega
theorem with_ok {m f t : Int} (hr : MayRtt true m f) (ht : IsTrip t) (w : World) : Calls Try.prog 28 #[.agg #[.bool true, .int .i64 m, .int .i64 f], .int .i64 t] w fun e w' => e = .returned (.agg #[.bool true, .int .i64 (m + t - m / 8), .int .i64 (f + gapOf t (m / 8) - f / 4)]) ∧ Kept w w' := by
  have h : 8 ≤ m ∧ m ≤ 8589934592 ∧ 0 ≤ f ∧ f ≤ 4294967296 := by unfold MayRtt at hr; simpa using hr
  obtain ⟨h1, h2, h3, h4⟩ := h
  obtain ⟨t0, t1⟩ := ht
  obtain ⟨g0, g1⟩ := gap_range (a := t) (b := m / 8) (by omega) (by omega) (by omega) (by omega)
  have e1 : m + t - m / 8 = m + (t - m / 8) := by omega
  have e2 : f + gapOf t (m / 8) - f / 4 = f + (gapOf t (m / 8) - f / 4) := by omega
  rw [e1, e2]
  exact with_walk (by omega) (by omega) g0 g1 (by omega) (by omega) h1 h2 h3 h4 t0 t1
    (fun w => mean_ok (by unfold In64; omega) (Int.tdiv_eq_ediv_of_nonneg (by omega)) w)
    (fun w => apart_ok (by omega) (by omega) (by omega) (by omega) rfl w)
    (fun w => far_ok (by unfold In64; omega) (Int.tdiv_eq_ediv_of_nonneg (by omega)) w)
    (fun w => mean_ok (by unfold In64; omega) (Int.tdiv_eq_ediv_of_nonneg (by omega)) w) w
theorem Sample_ok {b b' : Bool} {m f t m' f' er : Int} (h : SampleIs b m f t b' m' f' er) (w : World) : Calls Try.prog 17 #[.agg #[.bool b, .int .i64 m, .int .i64 f], .int .i64 t] w fun e w' => e = .returned (.tuple #[.agg #[.bool b', .int .i64 m', .int .i64 f'], .int .i64 er]) ∧ Kept w w' := by
  rcases h with ⟨h, rfl, rfl, rfl, rfl⟩ | ⟨h, ht, rfl, rfl, rfl, rfl, rfl⟩ | ⟨h, ht, rfl, rfl, rfl, rfl, rfl⟩
  · by_cases hr : MayRtt b' m' f'
    · exact sample_late (fun w => may_yes hr w) (fun w => within_no (fun hh => h ⟨hr, hh⟩) w) w
    · exact sample_bad (fun w => may_no hr w) w
  · exact sample_first (fun w => may_yes h w) (fun w => within_yes ht.1 ht.2 w) (fun w => first_ok ht w) w
  · exact sample_more (fun w => may_yes h w) (fun w => within_yes ht.1 ht.2 w) (fun w => with_ok h ht w) w
theorem sample_ex (b : Bool) (m f t : Int) : ∃ b' m' f' er, SampleIs b m f t b' m' f' er := by
  by_cases hr : MayRtt b m f ∧ IsTrip t
  · cases b
    · exact ⟨_, _, _, _, Or.inr (Or.inl ⟨hr.1, hr.2, rfl, rfl, rfl, rfl, rfl⟩)⟩
    · exact ⟨_, _, _, _, Or.inr (Or.inr ⟨hr.1, hr.2, rfl, rfl, rfl, rfl, rfl⟩)⟩
  · exact ⟨_, _, _, _, Or.inl ⟨hr, rfl, rfl, rfl, rfl⟩⟩
/-- What is known may be behind a time, if it might be ahead of it. -/
theorem sample_may {b b' : Bool} {m f t m' f' er : Int} (h : SampleIs b m f t b' m' f' er) (hm : MayRtt b m f) : MayRtt b' m' f' := by
  rcases h with ⟨h, rfl, rfl, rfl, rfl⟩ | ⟨h, ht, rfl, rfl, rfl, rfl, rfl⟩ | ⟨h, ht, rfl, rfl, rfl, rfl, rfl⟩
  · exact hm
  · unfold IsTrip at ht; exact Or.inr ⟨rfl, by omega, by omega, by omega, by omega⟩
  · have k : 8 ≤ m ∧ m ≤ 8589934592 ∧ 0 ≤ f ∧ f ≤ 4294967296 := by unfold MayRtt at h; simpa using h
    obtain ⟨g0, g1⟩ := gap_range (a := t) (b := m / 8) (by unfold IsTrip at ht; omega) (by unfold IsTrip at ht; omega) (by omega) (by omega)
    unfold IsTrip at ht
    exact Or.inr ⟨rfl, by omega, by omega, by omega, by omega⟩
end Go.Proofs.Ytmdekgcgfcdppaa
