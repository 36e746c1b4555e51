/-
  Contracts of the document's answers of layer 17.
-/
import Derived.Test.YtjfeobkkkgalaaaCon17
import Derived.Test.YtjfeobkkkgalaaaRefR06
import Derived.Test.YtjfeobkkkgalaaaRef04
import Derived.Test.YtjfeobkkkgalaaaRefN02
import Derived.Test.YtjfeobkkkgalaaaOne01
import Derived.Test.YtjfeobkkkgalaaaRoom
import Derived.Deep.DeepCutAuto
namespace Go.Proofs.Ytjfeobkkkgalaaa
open Go.RowKit Go.BigFrame
set_option linter.unusedVariables false

theorem clampLift17 (a b c n : Int) (hn : clampAt a b c = n) (w : World) : Calls Try.prog 25 #[.int .i64 a, .int .i64 b, .int .i64 c] w fun e w' => e = .returned (.int .i64 n) ∧ Kept w w' :=
  (refClamp_lit_s a b c n w hn).mono (fun _ _ ⟨h, k⟩ => ⟨h, k ▸ Kept.refl _⟩)
set_option maxRecDepth 100000 in
set_option maxHeartbeats 1600000 in
theorem ref17_no_t {b : Bool} {v sg m f wc g ph pl qh ql rest k n : Int} {pb qb : Bool} (g0 : 1 ≤ g) (g1 : g ≤ 65535) (hn : (if k < 1 then 1 else k) = n) (w : World) (CK : ∀ w, Calls Try.prog 23 #[.agg #[.bool b, .int .i64 m, .int .i64 f]] w fun e w' => e = .returned (.bool false) ∧ Kept w w') (C1 : ∀ w, Calls Try.prog 25 #[.int .i64 v, .int .i64 0, .int .i64 68719476736] w fun e w' => e = .returned (.int .i64 wc) ∧ Kept w w') (C2 : ∀ w, Calls Try.prog 25 #[.int .i64 sg, .int .i64 1, .int .i64 65535] w fun e w' => e = .returned (.int .i64 g) ∧ Kept w w') (MU : ∀ w, Calls Try.prog 16 #[.int .i64 wc, .int .i64 (2000000 * g)] w fun e w' => e = .returned (.agg #[.bool pb, .int .u64 ph, .int .u64 pl]) ∧ Kept w w') (DV : ∀ w, Calls Try.prog 26 #[.agg #[.bool pb, .int .u64 ph, .int .u64 pl], .int .u64 6553600000] w fun e w' => e = .returned (.tuple #[.agg #[.bool qb, .int .u64 qh, .int .u64 ql], .int .u64 rest, .int .i64 0]) ∧ Kept w w') (IN : ∀ w, Calls Try.prog 27 #[.agg #[.bool qb, .int .u64 qh, .int .u64 ql]] w fun e w' => e = .returned (.int .i64 k) ∧ Kept w w') : Calls Try.prog 13 #[.int .i64 v, .int .i64 sg, .agg #[.bool b, .int .i64 m, .int .i64 f], .bool true] w fun e w' => e = .returned (.int .i64 n) ∧ Kept w w' := by
  have CK' := Lib.hid CK
  have C1' := Lib.hid C1
  have C2' := Lib.hid C2
  have MU' := Lib.hid MU
  have DV' := Lib.hid DV
  have IN' := Lib.hid IN
  clear CK C1 C2 MU DV IN
  have hn2 : max k 1 = n := by rw [← hn]; split <;> omega
  go_enter Try.func13, Try.ntmps13
  go_upto_region 1 with fail
  generalize hW : World.alloc w (.cells #[.bool b, .int .i64 m, .int .i64 f] 23) = W_r
  have K_r : Kept w W_r := by subst hW; exact (Kept.refl _).alloc _ _
  have H_r := Lib.hid (show W_r.cell? ⟨w.heap.size, 0, none⟩ = some (.bool b) ∧ W_r.cell? ⟨w.heap.size, 1, none⟩ = some (.int .i64 m) ∧ W_r.cell? ⟨w.heap.size, 2, none⟩ = some (.int .i64 f) from by subst hW; simp [go_sem])
  clear hW
  generalize w.heap.size = g_r at *
  obtain ⟨cr0, cr1, cr2⟩ := Kept.all3 (show Kept W_r W_r from (by (repeat (first | with_reducible exact Kept.refl _ | with_reducible apply Kept.drew | with_reducible apply Kept.alloc | ((with_reducible apply Kept.set); focus (simp <;> omega)) | ((with_reducible apply Kept.via); focus with_reducible assumption))))) H_r
  go_wp2_with fail
  refine (CK'.out _).mono ?_
  rintro e w20 ⟨rfl, k20⟩
  clear cr0 cr1 cr2
  obtain ⟨cr0, cr1, cr2⟩ := Kept.all3 (show Kept W_r w20 from (by (repeat (first | with_reducible exact Kept.refl _ | with_reducible apply Kept.drew | with_reducible apply Kept.alloc | ((with_reducible apply Kept.set); focus (simp <;> omega)) | ((with_reducible apply Kept.via); focus with_reducible assumption))))) H_r
  go_wp2_with fail
  refine (C1'.out _).mono ?_
  rintro e w41 ⟨rfl, k41⟩
  clear cr0 cr1 cr2
  go_wp2_with fail
  refine (C2'.out _).mono ?_
  rintro e w42 ⟨rfl, k42⟩
  go_wp2_with fail
  refine (MU'.out _).mono ?_
  rintro e w43 ⟨rfl, k43⟩
  go_upto_region 11 with fail
  generalize hW : World.alloc w43 (.cells #[.bool pb, .int .u64 ph, .int .u64 pl] 35) = W_x
  have K_x : Kept w43 W_x := by subst hW; exact (Kept.refl _).alloc _ _
  have H_x := Lib.hid (show W_x.cell? ⟨w43.heap.size, 0, none⟩ = some (.bool pb) ∧ W_x.cell? ⟨w43.heap.size, 1, none⟩ = some (.int .u64 ph) ∧ W_x.cell? ⟨w43.heap.size, 2, none⟩ = some (.int .u64 pl) from by subst hW; simp [go_sem])
  clear hW
  generalize w43.heap.size = g_x at *
  obtain ⟨c_x0, c_x1, c_x2⟩ := Kept.all3 (show Kept W_x W_x from (by (repeat (first | with_reducible exact Kept.refl _ | with_reducible apply Kept.drew | with_reducible apply Kept.alloc | ((with_reducible apply Kept.set); focus (simp <;> omega)) | ((with_reducible apply Kept.via); focus with_reducible assumption))))) H_x
  go_wp2_with fail
  refine (DV'.out _).mono ?_
  rintro e w44 ⟨rfl, k44⟩
  clear c_x0 c_x1 c_x2
  go_upto_region 12 with fail
  generalize hW : World.alloc w44 (.cells #[.bool qb, .int .u64 qh, .int .u64 ql] 35) = W_q
  have K_q : Kept w44 W_q := by subst hW; exact (Kept.refl _).alloc _ _
  have H_q := Lib.hid (show W_q.cell? ⟨w44.heap.size, 0, none⟩ = some (.bool qb) ∧ W_q.cell? ⟨w44.heap.size, 1, none⟩ = some (.int .u64 qh) ∧ W_q.cell? ⟨w44.heap.size, 2, none⟩ = some (.int .u64 ql) from by subst hW; simp [go_sem])
  clear hW
  generalize w44.heap.size = g_q at *
  obtain ⟨c_q0, c_q1, c_q2⟩ := Kept.all3 (show Kept W_q W_q from (by (repeat (first | with_reducible exact Kept.refl _ | with_reducible apply Kept.drew | with_reducible apply Kept.alloc | ((with_reducible apply Kept.set); focus (simp <;> omega)) | ((with_reducible apply Kept.via); focus with_reducible assumption))))) H_q
  go_wp2_with fail
  refine (IN'.out _).mono ?_
  rintro e w45 ⟨rfl, k45⟩
  clear c_q0 c_q1 c_q2
  go_wp2
  go_ret
  exact ⟨rfl, (by (repeat (first | with_reducible exact Kept.refl _ | with_reducible apply Kept.drew | with_reducible apply Kept.alloc | ((with_reducible apply Kept.set); focus (simp <;> omega)) | ((with_reducible apply Kept.via); focus with_reducible assumption))))⟩
set_option maxRecDepth 100000 in
set_option maxHeartbeats 1600000 in
theorem ref17_off_t {v sg m f wc g ph pl qh ql rest k n : Int} {pb qb : Bool} (g0 : 1 ≤ g) (g1 : g ≤ 65535) (hn : (if k < 1 then 1 else k) = n) (w : World) (CK : ∀ w, Calls Try.prog 23 #[.agg #[.bool false, .int .i64 m, .int .i64 f]] w fun e w' => e = .returned (.bool true) ∧ Kept w w') (C1 : ∀ w, Calls Try.prog 25 #[.int .i64 v, .int .i64 0, .int .i64 68719476736] w fun e w' => e = .returned (.int .i64 wc) ∧ Kept w w') (C2 : ∀ w, Calls Try.prog 25 #[.int .i64 sg, .int .i64 1, .int .i64 65535] w fun e w' => e = .returned (.int .i64 g) ∧ Kept w w') (MU : ∀ w, Calls Try.prog 16 #[.int .i64 wc, .int .i64 (2000000 * g)] w fun e w' => e = .returned (.agg #[.bool pb, .int .u64 ph, .int .u64 pl]) ∧ Kept w w') (DV : ∀ w, Calls Try.prog 26 #[.agg #[.bool pb, .int .u64 ph, .int .u64 pl], .int .u64 6553600000] w fun e w' => e = .returned (.tuple #[.agg #[.bool qb, .int .u64 qh, .int .u64 ql], .int .u64 rest, .int .i64 0]) ∧ Kept w w') (IN : ∀ w, Calls Try.prog 27 #[.agg #[.bool qb, .int .u64 qh, .int .u64 ql]] w fun e w' => e = .returned (.int .i64 k) ∧ Kept w w') : Calls Try.prog 13 #[.int .i64 v, .int .i64 sg, .agg #[.bool false, .int .i64 m, .int .i64 f], .bool true] w fun e w' => e = .returned (.int .i64 n) ∧ Kept w w' := by
  have CK' := Lib.hid CK
  have C1' := Lib.hid C1
  have C2' := Lib.hid C2
  have MU' := Lib.hid MU
  have DV' := Lib.hid DV
  have IN' := Lib.hid IN
  clear CK C1 C2 MU DV IN
  have hn2 : max k 1 = n := by rw [← hn]; split <;> omega
  go_enter Try.func13, Try.ntmps13
  go_upto_region 1 with fail
  generalize hW : World.alloc w (.cells #[.bool false, .int .i64 m, .int .i64 f] 23) = W_r
  have K_r : Kept w W_r := by subst hW; exact (Kept.refl _).alloc _ _
  have H_r := Lib.hid (show W_r.cell? ⟨w.heap.size, 0, none⟩ = some (.bool false) ∧ W_r.cell? ⟨w.heap.size, 1, none⟩ = some (.int .i64 m) ∧ W_r.cell? ⟨w.heap.size, 2, none⟩ = some (.int .i64 f) from by subst hW; simp [go_sem])
  clear hW
  generalize w.heap.size = g_r at *
  obtain ⟨cr0, cr1, cr2⟩ := Kept.all3 (show Kept W_r W_r from (by (repeat (first | with_reducible exact Kept.refl _ | with_reducible apply Kept.drew | with_reducible apply Kept.alloc | ((with_reducible apply Kept.set); focus (simp <;> omega)) | ((with_reducible apply Kept.via); focus with_reducible assumption))))) H_r
  go_wp2_with fail
  refine (CK'.out _).mono ?_
  rintro e w20 ⟨rfl, k20⟩
  clear cr0 cr1 cr2
  obtain ⟨cr0, cr1, cr2⟩ := Kept.all3 (show Kept W_r w20 from (by (repeat (first | with_reducible exact Kept.refl _ | with_reducible apply Kept.drew | with_reducible apply Kept.alloc | ((with_reducible apply Kept.set); focus (simp <;> omega)) | ((with_reducible apply Kept.via); focus with_reducible assumption))))) H_r
  go_wp2_with fail
  refine (C1'.out _).mono ?_
  rintro e w41 ⟨rfl, k41⟩
  clear cr0 cr1 cr2
  go_wp2_with fail
  refine (C2'.out _).mono ?_
  rintro e w42 ⟨rfl, k42⟩
  go_wp2_with fail
  refine (MU'.out _).mono ?_
  rintro e w43 ⟨rfl, k43⟩
  go_upto_region 11 with fail
  generalize hW : World.alloc w43 (.cells #[.bool pb, .int .u64 ph, .int .u64 pl] 35) = W_x
  have K_x : Kept w43 W_x := by subst hW; exact (Kept.refl _).alloc _ _
  have H_x := Lib.hid (show W_x.cell? ⟨w43.heap.size, 0, none⟩ = some (.bool pb) ∧ W_x.cell? ⟨w43.heap.size, 1, none⟩ = some (.int .u64 ph) ∧ W_x.cell? ⟨w43.heap.size, 2, none⟩ = some (.int .u64 pl) from by subst hW; simp [go_sem])
  clear hW
  generalize w43.heap.size = g_x at *
  obtain ⟨c_x0, c_x1, c_x2⟩ := Kept.all3 (show Kept W_x W_x from (by (repeat (first | with_reducible exact Kept.refl _ | with_reducible apply Kept.drew | with_reducible apply Kept.alloc | ((with_reducible apply Kept.set); focus (simp <;> omega)) | ((with_reducible apply Kept.via); focus with_reducible assumption))))) H_x
  go_wp2_with fail
  refine (DV'.out _).mono ?_
  rintro e w44 ⟨rfl, k44⟩
  clear c_x0 c_x1 c_x2
  go_upto_region 12 with fail
  generalize hW : World.alloc w44 (.cells #[.bool qb, .int .u64 qh, .int .u64 ql] 35) = W_q
  have K_q : Kept w44 W_q := by subst hW; exact (Kept.refl _).alloc _ _
  have H_q := Lib.hid (show W_q.cell? ⟨w44.heap.size, 0, none⟩ = some (.bool qb) ∧ W_q.cell? ⟨w44.heap.size, 1, none⟩ = some (.int .u64 qh) ∧ W_q.cell? ⟨w44.heap.size, 2, none⟩ = some (.int .u64 ql) from by subst hW; simp [go_sem])
  clear hW
  generalize w44.heap.size = g_q at *
  obtain ⟨c_q0, c_q1, c_q2⟩ := Kept.all3 (show Kept W_q W_q from (by (repeat (first | with_reducible exact Kept.refl _ | with_reducible apply Kept.drew | with_reducible apply Kept.alloc | ((with_reducible apply Kept.set); focus (simp <;> omega)) | ((with_reducible apply Kept.via); focus with_reducible assumption))))) H_q
  go_wp2_with fail
  refine (IN'.out _).mono ?_
  rintro e w45 ⟨rfl, k45⟩
  clear c_q0 c_q1 c_q2
  go_wp2
  go_ret
  exact ⟨rfl, (by (repeat (first | with_reducible exact Kept.refl _ | with_reducible apply Kept.drew | with_reducible apply Kept.alloc | ((with_reducible apply Kept.set); focus (simp <;> omega)) | ((with_reducible apply Kept.via); focus with_reducible assumption))))⟩
set_option maxRecDepth 100000 in
set_option maxHeartbeats 1600000 in
theorem ref17_on_t {v sg m f wc g ph pl qh ql rest k n tt : Int} {pb qb : Bool} (g0 : 1 ≤ g) (g1 : g ≤ 65535) (t0 : 1 ≤ tt) (t1 : tt ≤ 1073741824) (hn : (if k < 1 then 1 else k) = n) (w : World) (CK : ∀ w, Calls Try.prog 23 #[.agg #[.bool true, .int .i64 m, .int .i64 f]] w fun e w' => e = .returned (.bool true) ∧ Kept w w') (ME : ∀ w, Calls Try.prog 24 #[.agg #[.bool true, .int .i64 m, .int .i64 f]] w fun e w' => e = .returned (.int .i64 tt) ∧ Kept w w') (C1 : ∀ w, Calls Try.prog 25 #[.int .i64 v, .int .i64 0, .int .i64 68719476736] w fun e w' => e = .returned (.int .i64 wc) ∧ Kept w w') (C2 : ∀ w, Calls Try.prog 25 #[.int .i64 sg, .int .i64 1, .int .i64 65535] w fun e w' => e = .returned (.int .i64 g) ∧ Kept w w') (MU : ∀ w, Calls Try.prog 16 #[.int .i64 wc, .int .i64 (2000000 * g)] w fun e w' => e = .returned (.agg #[.bool pb, .int .u64 ph, .int .u64 pl]) ∧ Kept w w') (DV : ∀ w, Calls Try.prog 26 #[.agg #[.bool pb, .int .u64 ph, .int .u64 pl], .int .u64 (65536 * tt)] w fun e w' => e = .returned (.tuple #[.agg #[.bool qb, .int .u64 qh, .int .u64 ql], .int .u64 rest, .int .i64 0]) ∧ Kept w w') (IN : ∀ w, Calls Try.prog 27 #[.agg #[.bool qb, .int .u64 qh, .int .u64 ql]] w fun e w' => e = .returned (.int .i64 k) ∧ Kept w w') : Calls Try.prog 13 #[.int .i64 v, .int .i64 sg, .agg #[.bool true, .int .i64 m, .int .i64 f], .bool true] w fun e w' => e = .returned (.int .i64 n) ∧ Kept w w' := by
  have CK' := Lib.hid CK
  have ME' := Lib.hid ME
  have C1' := Lib.hid C1
  have C2' := Lib.hid C2
  have MU' := Lib.hid MU
  have DV' := Lib.hid DV
  have IN' := Lib.hid IN
  clear CK ME C1 C2 MU DV IN
  have hn2 : max k 1 = n := by rw [← hn]; split <;> omega
  go_enter Try.func13, Try.ntmps13
  go_upto_region 1 with fail
  generalize hW : World.alloc w (.cells #[.bool true, .int .i64 m, .int .i64 f] 23) = W_r
  have K_r : Kept w W_r := by subst hW; exact (Kept.refl _).alloc _ _
  have H_r := Lib.hid (show W_r.cell? ⟨w.heap.size, 0, none⟩ = some (.bool true) ∧ W_r.cell? ⟨w.heap.size, 1, none⟩ = some (.int .i64 m) ∧ W_r.cell? ⟨w.heap.size, 2, none⟩ = some (.int .i64 f) from by subst hW; simp [go_sem])
  clear hW
  generalize w.heap.size = g_r at *
  obtain ⟨cr0, cr1, cr2⟩ := Kept.all3 (show Kept W_r W_r from (by (repeat (first | with_reducible exact Kept.refl _ | with_reducible apply Kept.drew | with_reducible apply Kept.alloc | ((with_reducible apply Kept.set); focus (simp <;> omega)) | ((with_reducible apply Kept.via); focus with_reducible assumption))))) H_r
  go_wp2_with fail
  refine (CK'.out _).mono ?_
  rintro e w20 ⟨rfl, k20⟩
  clear cr0 cr1 cr2
  obtain ⟨cr0, cr1, cr2⟩ := Kept.all3 (show Kept W_r w20 from (by (repeat (first | with_reducible exact Kept.refl _ | with_reducible apply Kept.drew | with_reducible apply Kept.alloc | ((with_reducible apply Kept.set); focus (simp <;> omega)) | ((with_reducible apply Kept.via); focus with_reducible assumption))))) H_r
  go_wp2_with fail
  refine (ME'.out _).mono ?_
  rintro e w21 ⟨rfl, k21⟩
  go_wp2_with fail
  refine (C1'.out _).mono ?_
  rintro e w41 ⟨rfl, k41⟩
  clear cr0 cr1 cr2
  go_wp2_with fail
  refine (C2'.out _).mono ?_
  rintro e w42 ⟨rfl, k42⟩
  go_wp2_with fail
  refine (MU'.out _).mono ?_
  rintro e w43 ⟨rfl, k43⟩
  go_upto_region 11 with fail
  generalize hW : World.alloc w43 (.cells #[.bool pb, .int .u64 ph, .int .u64 pl] 35) = W_x
  have K_x : Kept w43 W_x := by subst hW; exact (Kept.refl _).alloc _ _
  have H_x := Lib.hid (show W_x.cell? ⟨w43.heap.size, 0, none⟩ = some (.bool pb) ∧ W_x.cell? ⟨w43.heap.size, 1, none⟩ = some (.int .u64 ph) ∧ W_x.cell? ⟨w43.heap.size, 2, none⟩ = some (.int .u64 pl) from by subst hW; simp [go_sem])
  clear hW
  generalize w43.heap.size = g_x at *
  obtain ⟨c_x0, c_x1, c_x2⟩ := Kept.all3 (show Kept W_x W_x from (by (repeat (first | with_reducible exact Kept.refl _ | with_reducible apply Kept.drew | with_reducible apply Kept.alloc | ((with_reducible apply Kept.set); focus (simp <;> omega)) | ((with_reducible apply Kept.via); focus with_reducible assumption))))) H_x
  go_wp2_with fail
  refine (DV'.out _).mono ?_
  rintro e w44 ⟨rfl, k44⟩
  clear c_x0 c_x1 c_x2
  go_upto_region 12 with fail
  generalize hW : World.alloc w44 (.cells #[.bool qb, .int .u64 qh, .int .u64 ql] 35) = W_q
  have K_q : Kept w44 W_q := by subst hW; exact (Kept.refl _).alloc _ _
  have H_q := Lib.hid (show W_q.cell? ⟨w44.heap.size, 0, none⟩ = some (.bool qb) ∧ W_q.cell? ⟨w44.heap.size, 1, none⟩ = some (.int .u64 qh) ∧ W_q.cell? ⟨w44.heap.size, 2, none⟩ = some (.int .u64 ql) from by subst hW; simp [go_sem])
  clear hW
  generalize w44.heap.size = g_q at *
  obtain ⟨c_q0, c_q1, c_q2⟩ := Kept.all3 (show Kept W_q W_q from (by (repeat (first | with_reducible exact Kept.refl _ | with_reducible apply Kept.drew | with_reducible apply Kept.alloc | ((with_reducible apply Kept.set); focus (simp <;> omega)) | ((with_reducible apply Kept.via); focus with_reducible assumption))))) H_q
  go_wp2_with fail
  refine (IN'.out _).mono ?_
  rintro e w45 ⟨rfl, k45⟩
  clear c_q0 c_q1 c_q2
  go_wp2
  go_ret
  exact ⟨rfl, (by (repeat (first | with_reducible exact Kept.refl _ | with_reducible apply Kept.drew | with_reducible apply Kept.alloc | ((with_reducible apply Kept.set); focus (simp <;> omega)) | ((with_reducible apply Kept.via); focus with_reducible assumption))))⟩
set_option maxRecDepth 100000 in
set_option maxHeartbeats 1600000 in
theorem ref17_no_f {b : Bool} {v sg m f wc g ph pl qh ql rest k n : Int} {pb qb : Bool} (g0 : 1 ≤ g) (g1 : g ≤ 65535) (hn : (if k < 1 then 1 else k) = n) (w : World) (CK : ∀ w, Calls Try.prog 23 #[.agg #[.bool b, .int .i64 m, .int .i64 f]] w fun e w' => e = .returned (.bool false) ∧ Kept w w') (C1 : ∀ w, Calls Try.prog 25 #[.int .i64 v, .int .i64 0, .int .i64 68719476736] w fun e w' => e = .returned (.int .i64 wc) ∧ Kept w w') (C2 : ∀ w, Calls Try.prog 25 #[.int .i64 sg, .int .i64 1, .int .i64 65535] w fun e w' => e = .returned (.int .i64 g) ∧ Kept w w') (MU : ∀ w, Calls Try.prog 16 #[.int .i64 wc, .int .i64 (5000000 * g)] w fun e w' => e = .returned (.agg #[.bool pb, .int .u64 ph, .int .u64 pl]) ∧ Kept w w') (DV : ∀ w, Calls Try.prog 26 #[.agg #[.bool pb, .int .u64 ph, .int .u64 pl], .int .u64 26214400000] w fun e w' => e = .returned (.tuple #[.agg #[.bool qb, .int .u64 qh, .int .u64 ql], .int .u64 rest, .int .i64 0]) ∧ Kept w w') (IN : ∀ w, Calls Try.prog 27 #[.agg #[.bool qb, .int .u64 qh, .int .u64 ql]] w fun e w' => e = .returned (.int .i64 k) ∧ Kept w w') : Calls Try.prog 13 #[.int .i64 v, .int .i64 sg, .agg #[.bool b, .int .i64 m, .int .i64 f], .bool false] w fun e w' => e = .returned (.int .i64 n) ∧ Kept w w' := by
  have CK' := Lib.hid CK
  have C1' := Lib.hid C1
  have C2' := Lib.hid C2
  have MU' := Lib.hid MU
  have DV' := Lib.hid DV
  have IN' := Lib.hid IN
  clear CK C1 C2 MU DV IN
  have hn2 : max k 1 = n := by rw [← hn]; split <;> omega
  go_enter Try.func13, Try.ntmps13
  go_upto_region 1 with fail
  generalize hW : World.alloc w (.cells #[.bool b, .int .i64 m, .int .i64 f] 23) = W_r
  have K_r : Kept w W_r := by subst hW; exact (Kept.refl _).alloc _ _
  have H_r := Lib.hid (show W_r.cell? ⟨w.heap.size, 0, none⟩ = some (.bool b) ∧ W_r.cell? ⟨w.heap.size, 1, none⟩ = some (.int .i64 m) ∧ W_r.cell? ⟨w.heap.size, 2, none⟩ = some (.int .i64 f) from by subst hW; simp [go_sem])
  clear hW
  generalize w.heap.size = g_r at *
  obtain ⟨cr0, cr1, cr2⟩ := Kept.all3 (show Kept W_r W_r from (by (repeat (first | with_reducible exact Kept.refl _ | with_reducible apply Kept.drew | with_reducible apply Kept.alloc | ((with_reducible apply Kept.set); focus (simp <;> omega)) | ((with_reducible apply Kept.via); focus with_reducible assumption))))) H_r
  go_wp2_with fail
  refine (CK'.out _).mono ?_
  rintro e w20 ⟨rfl, k20⟩
  clear cr0 cr1 cr2
  obtain ⟨cr0, cr1, cr2⟩ := Kept.all3 (show Kept W_r w20 from (by (repeat (first | with_reducible exact Kept.refl _ | with_reducible apply Kept.drew | with_reducible apply Kept.alloc | ((with_reducible apply Kept.set); focus (simp <;> omega)) | ((with_reducible apply Kept.via); focus with_reducible assumption))))) H_r
  go_wp2_with fail
  refine (C1'.out _).mono ?_
  rintro e w41 ⟨rfl, k41⟩
  clear cr0 cr1 cr2
  go_wp2_with fail
  refine (C2'.out _).mono ?_
  rintro e w42 ⟨rfl, k42⟩
  go_wp2_with fail
  refine (MU'.out _).mono ?_
  rintro e w43 ⟨rfl, k43⟩
  go_upto_region 11 with fail
  generalize hW : World.alloc w43 (.cells #[.bool pb, .int .u64 ph, .int .u64 pl] 35) = W_x
  have K_x : Kept w43 W_x := by subst hW; exact (Kept.refl _).alloc _ _
  have H_x := Lib.hid (show W_x.cell? ⟨w43.heap.size, 0, none⟩ = some (.bool pb) ∧ W_x.cell? ⟨w43.heap.size, 1, none⟩ = some (.int .u64 ph) ∧ W_x.cell? ⟨w43.heap.size, 2, none⟩ = some (.int .u64 pl) from by subst hW; simp [go_sem])
  clear hW
  generalize w43.heap.size = g_x at *
  obtain ⟨c_x0, c_x1, c_x2⟩ := Kept.all3 (show Kept W_x W_x from (by (repeat (first | with_reducible exact Kept.refl _ | with_reducible apply Kept.drew | with_reducible apply Kept.alloc | ((with_reducible apply Kept.set); focus (simp <;> omega)) | ((with_reducible apply Kept.via); focus with_reducible assumption))))) H_x
  go_wp2_with fail
  refine (DV'.out _).mono ?_
  rintro e w44 ⟨rfl, k44⟩
  clear c_x0 c_x1 c_x2
  go_upto_region 12 with fail
  generalize hW : World.alloc w44 (.cells #[.bool qb, .int .u64 qh, .int .u64 ql] 35) = W_q
  have K_q : Kept w44 W_q := by subst hW; exact (Kept.refl _).alloc _ _
  have H_q := Lib.hid (show W_q.cell? ⟨w44.heap.size, 0, none⟩ = some (.bool qb) ∧ W_q.cell? ⟨w44.heap.size, 1, none⟩ = some (.int .u64 qh) ∧ W_q.cell? ⟨w44.heap.size, 2, none⟩ = some (.int .u64 ql) from by subst hW; simp [go_sem])
  clear hW
  generalize w44.heap.size = g_q at *
  obtain ⟨c_q0, c_q1, c_q2⟩ := Kept.all3 (show Kept W_q W_q from (by (repeat (first | with_reducible exact Kept.refl _ | with_reducible apply Kept.drew | with_reducible apply Kept.alloc | ((with_reducible apply Kept.set); focus (simp <;> omega)) | ((with_reducible apply Kept.via); focus with_reducible assumption))))) H_q
  go_wp2_with fail
  refine (IN'.out _).mono ?_
  rintro e w45 ⟨rfl, k45⟩
  clear c_q0 c_q1 c_q2
  go_wp2
  go_ret
  exact ⟨rfl, (by (repeat (first | with_reducible exact Kept.refl _ | with_reducible apply Kept.drew | with_reducible apply Kept.alloc | ((with_reducible apply Kept.set); focus (simp <;> omega)) | ((with_reducible apply Kept.via); focus with_reducible assumption))))⟩
set_option maxRecDepth 100000 in
set_option maxHeartbeats 1600000 in
theorem ref17_off_f {v sg m f wc g ph pl qh ql rest k n : Int} {pb qb : Bool} (g0 : 1 ≤ g) (g1 : g ≤ 65535) (hn : (if k < 1 then 1 else k) = n) (w : World) (CK : ∀ w, Calls Try.prog 23 #[.agg #[.bool false, .int .i64 m, .int .i64 f]] w fun e w' => e = .returned (.bool true) ∧ Kept w w') (C1 : ∀ w, Calls Try.prog 25 #[.int .i64 v, .int .i64 0, .int .i64 68719476736] w fun e w' => e = .returned (.int .i64 wc) ∧ Kept w w') (C2 : ∀ w, Calls Try.prog 25 #[.int .i64 sg, .int .i64 1, .int .i64 65535] w fun e w' => e = .returned (.int .i64 g) ∧ Kept w w') (MU : ∀ w, Calls Try.prog 16 #[.int .i64 wc, .int .i64 (5000000 * g)] w fun e w' => e = .returned (.agg #[.bool pb, .int .u64 ph, .int .u64 pl]) ∧ Kept w w') (DV : ∀ w, Calls Try.prog 26 #[.agg #[.bool pb, .int .u64 ph, .int .u64 pl], .int .u64 26214400000] w fun e w' => e = .returned (.tuple #[.agg #[.bool qb, .int .u64 qh, .int .u64 ql], .int .u64 rest, .int .i64 0]) ∧ Kept w w') (IN : ∀ w, Calls Try.prog 27 #[.agg #[.bool qb, .int .u64 qh, .int .u64 ql]] w fun e w' => e = .returned (.int .i64 k) ∧ Kept w w') : Calls Try.prog 13 #[.int .i64 v, .int .i64 sg, .agg #[.bool false, .int .i64 m, .int .i64 f], .bool false] w fun e w' => e = .returned (.int .i64 n) ∧ Kept w w' := by
  have CK' := Lib.hid CK
  have C1' := Lib.hid C1
  have C2' := Lib.hid C2
  have MU' := Lib.hid MU
  have DV' := Lib.hid DV
  have IN' := Lib.hid IN
  clear CK C1 C2 MU DV IN
  have hn2 : max k 1 = n := by rw [← hn]; split <;> omega
  go_enter Try.func13, Try.ntmps13
  go_upto_region 1 with fail
  generalize hW : World.alloc w (.cells #[.bool false, .int .i64 m, .int .i64 f] 23) = W_r
  have K_r : Kept w W_r := by subst hW; exact (Kept.refl _).alloc _ _
  have H_r := Lib.hid (show W_r.cell? ⟨w.heap.size, 0, none⟩ = some (.bool false) ∧ W_r.cell? ⟨w.heap.size, 1, none⟩ = some (.int .i64 m) ∧ W_r.cell? ⟨w.heap.size, 2, none⟩ = some (.int .i64 f) from by subst hW; simp [go_sem])
  clear hW
  generalize w.heap.size = g_r at *
  obtain ⟨cr0, cr1, cr2⟩ := Kept.all3 (show Kept W_r W_r from (by (repeat (first | with_reducible exact Kept.refl _ | with_reducible apply Kept.drew | with_reducible apply Kept.alloc | ((with_reducible apply Kept.set); focus (simp <;> omega)) | ((with_reducible apply Kept.via); focus with_reducible assumption))))) H_r
  go_wp2_with fail
  refine (CK'.out _).mono ?_
  rintro e w20 ⟨rfl, k20⟩
  clear cr0 cr1 cr2
  obtain ⟨cr0, cr1, cr2⟩ := Kept.all3 (show Kept W_r w20 from (by (repeat (first | with_reducible exact Kept.refl _ | with_reducible apply Kept.drew | with_reducible apply Kept.alloc | ((with_reducible apply Kept.set); focus (simp <;> omega)) | ((with_reducible apply Kept.via); focus with_reducible assumption))))) H_r
  go_wp2_with fail
  refine (C1'.out _).mono ?_
  rintro e w41 ⟨rfl, k41⟩
  clear cr0 cr1 cr2
  go_wp2_with fail
  refine (C2'.out _).mono ?_
  rintro e w42 ⟨rfl, k42⟩
  go_wp2_with fail
  refine (MU'.out _).mono ?_
  rintro e w43 ⟨rfl, k43⟩
  go_upto_region 11 with fail
  generalize hW : World.alloc w43 (.cells #[.bool pb, .int .u64 ph, .int .u64 pl] 35) = W_x
  have K_x : Kept w43 W_x := by subst hW; exact (Kept.refl _).alloc _ _
  have H_x := Lib.hid (show W_x.cell? ⟨w43.heap.size, 0, none⟩ = some (.bool pb) ∧ W_x.cell? ⟨w43.heap.size, 1, none⟩ = some (.int .u64 ph) ∧ W_x.cell? ⟨w43.heap.size, 2, none⟩ = some (.int .u64 pl) from by subst hW; simp [go_sem])
  clear hW
  generalize w43.heap.size = g_x at *
  obtain ⟨c_x0, c_x1, c_x2⟩ := Kept.all3 (show Kept W_x W_x from (by (repeat (first | with_reducible exact Kept.refl _ | with_reducible apply Kept.drew | with_reducible apply Kept.alloc | ((with_reducible apply Kept.set); focus (simp <;> omega)) | ((with_reducible apply Kept.via); focus with_reducible assumption))))) H_x
  go_wp2_with fail
  refine (DV'.out _).mono ?_
  rintro e w44 ⟨rfl, k44⟩
  clear c_x0 c_x1 c_x2
  go_upto_region 12 with fail
  generalize hW : World.alloc w44 (.cells #[.bool qb, .int .u64 qh, .int .u64 ql] 35) = W_q
  have K_q : Kept w44 W_q := by subst hW; exact (Kept.refl _).alloc _ _
  have H_q := Lib.hid (show W_q.cell? ⟨w44.heap.size, 0, none⟩ = some (.bool qb) ∧ W_q.cell? ⟨w44.heap.size, 1, none⟩ = some (.int .u64 qh) ∧ W_q.cell? ⟨w44.heap.size, 2, none⟩ = some (.int .u64 ql) from by subst hW; simp [go_sem])
  clear hW
  generalize w44.heap.size = g_q at *
  obtain ⟨c_q0, c_q1, c_q2⟩ := Kept.all3 (show Kept W_q W_q from (by (repeat (first | with_reducible exact Kept.refl _ | with_reducible apply Kept.drew | with_reducible apply Kept.alloc | ((with_reducible apply Kept.set); focus (simp <;> omega)) | ((with_reducible apply Kept.via); focus with_reducible assumption))))) H_q
  go_wp2_with fail
  refine (IN'.out _).mono ?_
  rintro e w45 ⟨rfl, k45⟩
  clear c_q0 c_q1 c_q2
  go_wp2
  go_ret
  exact ⟨rfl, (by (repeat (first | with_reducible exact Kept.refl _ | with_reducible apply Kept.drew | with_reducible apply Kept.alloc | ((with_reducible apply Kept.set); focus (simp <;> omega)) | ((with_reducible apply Kept.via); focus with_reducible assumption))))⟩
set_option maxRecDepth 100000 in
set_option maxHeartbeats 1600000 in
theorem ref17_on_f {v sg m f wc g ph pl qh ql rest k n tt : Int} {pb qb : Bool} (g0 : 1 ≤ g) (g1 : g ≤ 65535) (t0 : 1 ≤ tt) (t1 : tt ≤ 1073741824) (hn : (if k < 1 then 1 else k) = n) (w : World) (CK : ∀ w, Calls Try.prog 23 #[.agg #[.bool true, .int .i64 m, .int .i64 f]] w fun e w' => e = .returned (.bool true) ∧ Kept w w') (ME : ∀ w, Calls Try.prog 24 #[.agg #[.bool true, .int .i64 m, .int .i64 f]] w fun e w' => e = .returned (.int .i64 tt) ∧ Kept w w') (C1 : ∀ w, Calls Try.prog 25 #[.int .i64 v, .int .i64 0, .int .i64 68719476736] w fun e w' => e = .returned (.int .i64 wc) ∧ Kept w w') (C2 : ∀ w, Calls Try.prog 25 #[.int .i64 sg, .int .i64 1, .int .i64 65535] w fun e w' => e = .returned (.int .i64 g) ∧ Kept w w') (MU : ∀ w, Calls Try.prog 16 #[.int .i64 wc, .int .i64 (5000000 * g)] w fun e w' => e = .returned (.agg #[.bool pb, .int .u64 ph, .int .u64 pl]) ∧ Kept w w') (DV : ∀ w, Calls Try.prog 26 #[.agg #[.bool pb, .int .u64 ph, .int .u64 pl], .int .u64 (262144 * tt)] w fun e w' => e = .returned (.tuple #[.agg #[.bool qb, .int .u64 qh, .int .u64 ql], .int .u64 rest, .int .i64 0]) ∧ Kept w w') (IN : ∀ w, Calls Try.prog 27 #[.agg #[.bool qb, .int .u64 qh, .int .u64 ql]] w fun e w' => e = .returned (.int .i64 k) ∧ Kept w w') : Calls Try.prog 13 #[.int .i64 v, .int .i64 sg, .agg #[.bool true, .int .i64 m, .int .i64 f], .bool false] w fun e w' => e = .returned (.int .i64 n) ∧ Kept w w' := by
  have CK' := Lib.hid CK
  have ME' := Lib.hid ME
  have C1' := Lib.hid C1
  have C2' := Lib.hid C2
  have MU' := Lib.hid MU
  have DV' := Lib.hid DV
  have IN' := Lib.hid IN
  clear CK ME C1 C2 MU DV IN
  have hn2 : max k 1 = n := by rw [← hn]; split <;> omega
  go_enter Try.func13, Try.ntmps13
  go_upto_region 1 with fail
  generalize hW : World.alloc w (.cells #[.bool true, .int .i64 m, .int .i64 f] 23) = W_r
  have K_r : Kept w W_r := by subst hW; exact (Kept.refl _).alloc _ _
  have H_r := Lib.hid (show W_r.cell? ⟨w.heap.size, 0, none⟩ = some (.bool true) ∧ W_r.cell? ⟨w.heap.size, 1, none⟩ = some (.int .i64 m) ∧ W_r.cell? ⟨w.heap.size, 2, none⟩ = some (.int .i64 f) from by subst hW; simp [go_sem])
  clear hW
  generalize w.heap.size = g_r at *
  obtain ⟨cr0, cr1, cr2⟩ := Kept.all3 (show Kept W_r W_r from (by (repeat (first | with_reducible exact Kept.refl _ | with_reducible apply Kept.drew | with_reducible apply Kept.alloc | ((with_reducible apply Kept.set); focus (simp <;> omega)) | ((with_reducible apply Kept.via); focus with_reducible assumption))))) H_r
  go_wp2_with fail
  refine (CK'.out _).mono ?_
  rintro e w20 ⟨rfl, k20⟩
  clear cr0 cr1 cr2
  obtain ⟨cr0, cr1, cr2⟩ := Kept.all3 (show Kept W_r w20 from (by (repeat (first | with_reducible exact Kept.refl _ | with_reducible apply Kept.drew | with_reducible apply Kept.alloc | ((with_reducible apply Kept.set); focus (simp <;> omega)) | ((with_reducible apply Kept.via); focus with_reducible assumption))))) H_r
  go_wp2_with fail
  refine (ME'.out _).mono ?_
  rintro e w21 ⟨rfl, k21⟩
  go_wp2_with fail
  refine (C1'.out _).mono ?_
  rintro e w41 ⟨rfl, k41⟩
  clear cr0 cr1 cr2
  go_wp2_with fail
  refine (C2'.out _).mono ?_
  rintro e w42 ⟨rfl, k42⟩
  go_wp2_with fail
  refine (MU'.out _).mono ?_
  rintro e w43 ⟨rfl, k43⟩
  go_upto_region 11 with fail
  generalize hW : World.alloc w43 (.cells #[.bool pb, .int .u64 ph, .int .u64 pl] 35) = W_x
  have K_x : Kept w43 W_x := by subst hW; exact (Kept.refl _).alloc _ _
  have H_x := Lib.hid (show W_x.cell? ⟨w43.heap.size, 0, none⟩ = some (.bool pb) ∧ W_x.cell? ⟨w43.heap.size, 1, none⟩ = some (.int .u64 ph) ∧ W_x.cell? ⟨w43.heap.size, 2, none⟩ = some (.int .u64 pl) from by subst hW; simp [go_sem])
  clear hW
  generalize w43.heap.size = g_x at *
  obtain ⟨c_x0, c_x1, c_x2⟩ := Kept.all3 (show Kept W_x W_x from (by (repeat (first | with_reducible exact Kept.refl _ | with_reducible apply Kept.drew | with_reducible apply Kept.alloc | ((with_reducible apply Kept.set); focus (simp <;> omega)) | ((with_reducible apply Kept.via); focus with_reducible assumption))))) H_x
  go_wp2_with fail
  refine (DV'.out _).mono ?_
  rintro e w44 ⟨rfl, k44⟩
  clear c_x0 c_x1 c_x2
  go_upto_region 12 with fail
  generalize hW : World.alloc w44 (.cells #[.bool qb, .int .u64 qh, .int .u64 ql] 35) = W_q
  have K_q : Kept w44 W_q := by subst hW; exact (Kept.refl _).alloc _ _
  have H_q := Lib.hid (show W_q.cell? ⟨w44.heap.size, 0, none⟩ = some (.bool qb) ∧ W_q.cell? ⟨w44.heap.size, 1, none⟩ = some (.int .u64 qh) ∧ W_q.cell? ⟨w44.heap.size, 2, none⟩ = some (.int .u64 ql) from by subst hW; simp [go_sem])
  clear hW
  generalize w44.heap.size = g_q at *
  obtain ⟨c_q0, c_q1, c_q2⟩ := Kept.all3 (show Kept W_q W_q from (by (repeat (first | with_reducible exact Kept.refl _ | with_reducible apply Kept.drew | with_reducible apply Kept.alloc | ((with_reducible apply Kept.set); focus (simp <;> omega)) | ((with_reducible apply Kept.via); focus with_reducible assumption))))) H_q
  go_wp2_with fail
  refine (IN'.out _).mono ?_
  rintro e w45 ⟨rfl, k45⟩
  clear c_q0 c_q1 c_q2
  go_wp2
  go_ret
  exact ⟨rfl, (by (repeat (first | with_reducible exact Kept.refl _ | with_reducible apply Kept.drew | with_reducible apply Kept.alloc | ((with_reducible apply Kept.set); focus (simp <;> omega)) | ((with_reducible apply Kept.via); focus with_reducible assumption))))⟩
theorem refOf17_ok {v sg m f n : Int} {b s : Bool} (hv : In64 v) (hs : In64 sg) (hm : In64 m) (hf : In64 f) (e : ofT v sg b m f s = n) (w : World) : Calls Try.prog 13 #[.int .i64 v, .int .i64 sg, .agg #[.bool b, .int .i64 m, .int .i64 f], .bool s] w fun e w' => e = .returned (.int .i64 n) ∧ Kept w w' := by
  have gr := gapK_range v
  have sr := segT_range sg
  have tr := timeT_range b m f
  have go := go_bound (s := s) gr sr tr.1
  have gp := go_pos (s := s) gr.1 sr.1 tr.1
  have pr := prod_bound (s := s) gr sr
  have C1 := fun w => clampLift17 v 0 68719476736 (gapK v) rfl w
  have C2 := fun w => clampLift17 sg 1 65535 (segT sg) rfl w
  have hn : (if goT s (gapK v) (segT sg) (timeT b m f) < 1 then 1 else goT s (gapK v) (segT sg) (timeT b m f)) = n := e
  generalize gapK v = wc at *
  generalize segT sg = g at *
  have key : ∀ (num den tt : Int), numT s = num → denT s = den → timeT b m f = tt → 1 ≤ den → den ≤ 4 → ∀ (mul dv : Int), mul = num * 1000000 * g → dv = den * 65536 * tt → ∃ pb ph pl qb qh ql rest, (∀ w, Calls Try.prog 16 #[.int .i64 wc, .int .i64 mul] w fun e w' => e = .returned (.agg #[.bool pb, .int .u64 ph, .int .u64 pl]) ∧ Kept w w') ∧ (∀ w, Calls Try.prog 26 #[.agg #[.bool pb, .int .u64 ph, .int .u64 pl], .int .u64 dv] w fun e w' => e = .returned (.tuple #[.agg #[.bool qb, .int .u64 qh, .int .u64 ql], .int .u64 rest, .int .i64 0]) ∧ Kept w w') ∧ (∀ w, Calls Try.prog 27 #[.agg #[.bool qb, .int .u64 qh, .int .u64 ql]] w fun e w' => e = .returned (.int .i64 (goT s wc g (timeT b m f))) ∧ Kept w w') := fun num den tt e1 e2 e3 d1 d4 mul dv em ed => by
    have q : goT s wc g (timeT b m f) = wc * mul / dv := by unfold goT; rw [e1, e2, e3, ← em, ← ed]
    rw [e1, ← em] at pr
    rw [e3] at tr
    have dv1 : 65536 ≤ dv ∧ dv ≤ 281474976710656 := by
      rw [ed]
      have a1 := Int.mul_le_mul (show (1:Int) * 65536 ≤ den * 65536 by omega) tr.1 (by omega) (by omega)
      have a2 := Int.mul_le_mul (show den * 65536 ≤ 262144 by omega) tr.2 (by omega) (by omega)
      omega
    have iw : In64 wc := by unfold In64; omega
    have im : In64 mul := by unfold In64; omega
    obtain ⟨pb, ph, pl, rp⟩ := rep_ex _ (mul_in iw im)
    obtain ⟨qb, qh, ql, rq⟩ := rep_ex (wc * mul / dv) (by rw [← q]; unfold InBig; omega)
    have DV := fun w => refDiv_ok (d := dv) rp.1 rp.2.1 ⟨by omega, by omega⟩ (by omega) (by rw [rp.2.2.1]; exact rq) w
    have IN := fun w => refInt_ok (b := qb) rq.1 rq.2.1 w
    rw [rq.2.2.1, ← q, heldAt_of (by unfold In64; omega)] at IN
    exact ⟨pb, ph, pl, qb, qh, ql, _, fun w => refMul_rep iw im rp w, DV, IN⟩
  by_cases hr : MayRtt b m f
  · have CK := fun w => refCheck_yes_r hr w
    cases b with
    | false =>
      have et : timeT false m f = 100000 := if_neg (fun z => by have := z.2; cases this)
      cases s with
      | true =>
        obtain ⟨pb, ph, pl, qb, qh, ql, rest, MU, DV, IN⟩ := key 2 1 100000 rfl rfl et (by omega) (by omega) (2000000 * g) 6553600000 (by omega) (by omega)
        exact ref17_off_t sr.1 sr.2 hn w CK C1 C2 MU DV IN
      | false =>
        obtain ⟨pb, ph, pl, qb, qh, ql, rest, MU, DV, IN⟩ := key 5 4 100000 rfl rfl et (by omega) (by omega) (5000000 * g) 26214400000 (by omega) (by omega)
        exact ref17_off_f sr.1 sr.2 hn w CK C1 C2 MU DV IN
    | true =>
      have et : timeT true m f = m.tdiv 8 := if_pos ⟨hr, rfl⟩
      have ME := fun w => refMean_ok (b := true) (m := m) (f := f) hm rfl w
      rw [et] at tr
      cases s with
      | true =>
        obtain ⟨pb, ph, pl, qb, qh, ql, rest, MU, DV, IN⟩ := key 2 1 (m.tdiv 8) rfl rfl et (by omega) (by omega) (2000000 * g) (65536 * m.tdiv 8) (by omega) (by omega)
        exact ref17_on_t sr.1 sr.2 tr.1 tr.2 hn w CK ME C1 C2 MU DV IN
      | false =>
        obtain ⟨pb, ph, pl, qb, qh, ql, rest, MU, DV, IN⟩ := key 5 4 (m.tdiv 8) rfl rfl et (by omega) (by omega) (5000000 * g) (262144 * m.tdiv 8) (by omega) (by omega)
        exact ref17_on_f sr.1 sr.2 tr.1 tr.2 hn w CK ME C1 C2 MU DV IN
  · have CK := fun w => refCheck_no_r hr w
    have et : timeT b m f = 100000 := if_neg (fun z => hr z.1)
    cases s with
    | true =>
      obtain ⟨pb, ph, pl, qb, qh, ql, rest, MU, DV, IN⟩ := key 2 1 100000 rfl rfl et (by omega) (by omega) (2000000 * g) 6553600000 (by omega) (by omega)
      exact ref17_no_t sr.1 sr.2 hn w CK C1 C2 MU DV IN
    | false =>
      obtain ⟨pb, ph, pl, qb, qh, ql, rest, MU, DV, IN⟩ := key 5 4 100000 rfl rfl et (by omega) (by omega) (5000000 * g) 26214400000 (by omega) (by omega)
      exact ref17_no_f sr.1 sr.2 hn w CK C1 C2 MU DV IN
set_option maxRecDepth 100000 in
set_option maxHeartbeats 1600000 in
theorem refSpan17_ok {v r n : Int} (hv : In64 v) (hr : In64 r) (e : spanT v r = n) (w : World) : Calls Try.prog 15 #[.int .i64 v, .int .i64 r] w fun e w' => e = .returned (.int .i64 n) ∧ Kept w w' := by
  obtain ⟨a, ea⟩ : ∃ a, (if v < 0 then 0 else v) = a := ⟨_, rfl⟩
  obtain ⟨c, ec⟩ : ∃ c, (if r < 1 then 1 else r) = c := ⟨_, rfl⟩
  have ea2 : max v 0 = a := by rw [← ea]; split <;> omega
  have ec2 : max r 1 = c := by rw [← ec]; split <;> omega
  have ia : In64 a ∧ 0 ≤ a := by rw [← ea]; unfold In64 at *; split <;> omega
  have ic : In64 c ∧ 1 ≤ c := by rw [← ec]; unfold In64 at *; split <;> omega
  have es : spanC v r = ceilOf (a * 1000000) c := by unfold spanC; rw [ea, ec]
  have p0 : 0 ≤ ceilOf (a * 1000000) c := ceil_pos (by omega) ic.2
  have en : (if 1099511627776 < ceilOf (a * 1000000) c then 1099511627776 else ceilOf (a * 1000000) c) = n := by rw [← e, ← es]; rfl
  clear e es ea ec hv hr
  by_cases h : In64 (ceilOf (a * 1000000) c)
  · have CE := Lib.hid (fun w => refCeil_ok (a := a) (b := 1000000) (c := c) ia.1 (by unfold In64; omega) ic.1 (part_yes ic.2 h) w)
    generalize ceilOf (a * 1000000) c = q at *
    by_cases h2 : 1099511627776 < q
    · rw [if_pos h2] at en
      have d0 : decide (1099511627776 < q) = true := by simp [h2]
      clear h ia ic
      go_enter Try.func15, Try.ntmps15
      go_wp2_with fail
      refine (CE.out _).mono ?_
      rintro e w1 ⟨rfl, k1⟩
      go_wp2
      go_ret
      exact ⟨by rw [← en]; rfl, k1⟩
    · rw [if_neg h2] at en
      have d0 : decide (1099511627776 < q) = false := by simp [h2]
      clear h ia ic
      subst en
      go_enter Try.func15, Try.ntmps15
      go_wp2_with fail
      refine (CE.out _).mono ?_
      rintro e w1 ⟨rfl, k1⟩
      go_wp2
      go_ret
      exact ⟨rfl, k1⟩
  · have CE := Lib.hid (fun w => refCeil_ok (a := a) (b := 1000000) (c := c) ia.1 (by unfold In64; omega) ic.1 (part_over ic.2 h) w)
    have h2 : 1099511627776 < ceilOf (a * 1000000) c := by unfold In64 at h; omega
    rw [if_pos h2] at en
    clear h ia ic h2 p0
    go_enter Try.func15, Try.ntmps15
    go_wp2_with fail
    refine (CE.out _).mono ?_
    rintro e w1 ⟨rfl, k1⟩
    go_wp2
    go_ret
    exact ⟨by rw [← en]; rfl, k1⟩
end Go.Proofs.Ytjfeobkkkgalaaa
