/-
  Contracts of package root's powers, and of 'within'.
-/
import Derived.Test.YtdbikeehoildlaaDoorMath03
import Derived.Test.YtdbikeehoildlaaDoorSemA02
import Derived.Deep.RegionHeld3
import Derived.Deep.DeepCutAuto
namespace Go.Proofs.YtdbikeehoildlaaDoor
open Go.RowKit

theorem sz_lo (l : Int) : sz 0 l = l := by unfold sz; omega
theorem sq_in {n : Int} (hn : Word n) : InBig (n * n) := by
  unfold Word at hn
  have := sq_le (a := n) (b := 18446744073709551615) hn.1 (by omega)
  have := sq_nonneg hn.1
  unfold InBig; omega
theorem square_rep {n : Int} (hn : Word n) : ∃ h l, Rep false h l (n * n) := by
  obtain ⟨b, h, l, r⟩ := rep_ex _ (sq_in hn)
  have e : b = false := by rw [r.2.2.2]; have := sq_nonneg hn.1; simp; omega
  subst e
  exact ⟨h, l, r⟩
theorem cube_rep {n : Int} (hn : 0 ≤ n) (l : n ≤ 6981463658331) : ∃ h l, Rep false h l (n * n * n) := by
  have c := (cube_fits hn).2 l
  obtain ⟨b, h, l, r⟩ := rep_ex (n * n * n) (by have := cu_nonneg hn; unfold InBig; omega)
  have e : b = false := by rw [r.2.2.2]; have := cu_nonneg hn; simp; omega
  subst e
  exact ⟨h, l, r⟩
theorem cube_over {n : Int} (hn : 0 ≤ n) (l : 6981463658331 < n) : ¬ InBig (n * n * n) := by
  have := (cube_fits hn); unfold InBig; omega
set_option maxHeartbeats 400000 in
theorem Square_ok {n h l : Int} (hn : Word n) (r : Rep false h l (n * n)) (w : World) : Calls Tryd.prog 81 #[.int .u64 n] w fun e w' => e = .returned (.agg #[.bool false, .int .u64 h, .int .u64 l]) ∧ Kept w w' := by
  have C := Lib.hid (fun w => Scale_yes (b := false) (h := h) (l := l) (b1 := false) (xh := 0) (xl := n) word_zero hn hn (by rw [numOf_false, sz_lo]; exact r) w)
  clear r hn
  go_enter Tryd.func81, Tryd.ntmps81
  go_wp2_with fail
  refine (C.out _).mono ?_
  rintro e w1 ⟨rfl, k1⟩
  have z1 : w.heap.size < w1.heap.size := by have := Kept.below k1; simp at this; omega
  obtain ⟨x, y, z, a1, a2, a3, b1, b2, b3⟩ : Room3 w1 w.heap.size := Room3.kept (by exact ⟨_, _, _, by first | (simp [go_sem]; done) | (simp [go_sem]; rfl), by first | (simp [go_sem]; done) | (simp [go_sem]; rfl), by first | (simp [go_sem]; done) | (simp [go_sem]; rfl), by simp [go_sem], by simp [go_sem], by simp [go_sem]⟩) k1
  go_wp2
  simp [bodyPost, results, Tryd.results81, go_sem, *]
  exact (by (repeat (first | with_reducible exact Kept.refl _ | with_reducible apply Kept.drew | with_reducible apply Kept.alloc | ((with_reducible apply Kept.set); focus (simp <;> omega)) | ((with_reducible apply Kept.via); focus with_reducible assumption))))
set_option maxHeartbeats 400000 in
theorem Cube_ok {n h l : Int} (hn : Word n) (r : Rep false h l (n * n * n)) (w : World) : Calls Tryd.prog 77 #[.int .u64 n] w fun e w' => e = .returned (.tuple #[.agg #[.bool false, .int .u64 h, .int .u64 l], .int .i64 0]) ∧ Kept w w' := by
  obtain ⟨sh, sl, rs⟩ := square_rep hn
  have C1 := Lib.hid (fun w => Square_ok hn rs w)
  have C2 := Lib.hid (fun w => Scale_yes (b := false) (h := h) (l := l) (b1 := false) (xh := sh) (xl := sl) rs.1 rs.2.1 hn (by rw [rs.2.2.1]; exact r) w)
  clear r hn rs
  go_enter Tryd.func77, Tryd.ntmps77
  go_wp2_with fail
  refine (C1.out _).mono ?_
  rintro e w1 ⟨rfl, k1⟩
  go_wp2_with fail
  refine (C2.out _).mono ?_
  rintro e w2 ⟨rfl, k2⟩
  obtain ⟨x, y, z, a1, a2, a3, b1, b2, b3⟩ : Room3 w2 w.heap.size := (Room3.kept (by exact ⟨_, _, _, by first | (simp [go_sem]; done) | (simp [go_sem]; rfl), by first | (simp [go_sem]; done) | (simp [go_sem]; rfl), by first | (simp [go_sem]; done) | (simp [go_sem]; rfl), by simp [go_sem], by simp [go_sem], by simp [go_sem]⟩) k1).kept k2
  go_wp2
  simp [bodyPost, results, Tryd.results77, go_sem, *]
  exact (by (repeat (first | with_reducible exact Kept.refl _ | with_reducible apply Kept.drew | with_reducible apply Kept.alloc | ((with_reducible apply Kept.set); focus (simp <;> omega)) | ((with_reducible apply Kept.via); focus with_reducible assumption))))
set_option maxHeartbeats 400000 in
theorem Cube_no {n : Int} (hn : Word n) (r : ¬ InBig (n * n * n)) (w : World) : Calls Tryd.prog 77 #[.int .u64 n] w fun e w' => e = .returned (.tuple #[.agg #[.bool false, .int .u64 0, .int .u64 0], .int .i64 10]) ∧ Kept w w' := by
  obtain ⟨sh, sl, rs⟩ := square_rep hn
  have C1 := Lib.hid (fun w => Square_ok hn rs w)
  have C2 := Lib.hid (fun w => Scale_over (b1 := false) (xh := sh) (xl := sl) rs.1 rs.2.1 hn (by rw [rs.2.2.1]; exact r) w)
  clear r hn rs
  go_enter Tryd.func77, Tryd.ntmps77
  go_wp2_with fail
  refine (C1.out _).mono ?_
  rintro e w1 ⟨rfl, k1⟩
  go_wp2_with fail
  refine (C2.out _).mono ?_
  rintro e w2 ⟨rfl, k2⟩
  obtain ⟨x, y, z, a1, a2, a3, b1, b2, b3⟩ : Room3 w2 w.heap.size := (Room3.kept (by exact ⟨_, _, _, by first | (simp [go_sem]; done) | (simp [go_sem]; rfl), by first | (simp [go_sem]; done) | (simp [go_sem]; rfl), by first | (simp [go_sem]; done) | (simp [go_sem]; rfl), by simp [go_sem], by simp [go_sem], by simp [go_sem]⟩) k1).kept k2
  go_wp2
  simp [bodyPost, results, Tryd.results77, go_sem, *]
  exact (by (repeat (first | with_reducible exact Kept.refl _ | with_reducible apply Kept.drew | with_reducible apply Kept.alloc | ((with_reducible apply Kept.set); focus (simp <;> omega)) | ((with_reducible apply Kept.via); focus with_reducible assumption))))

set_option maxHeartbeats 400000 in
theorem within_any (b : Bool) (ph pl xh xl c : Int) (w : World) (C : ∀ w, Calls Tryd.prog 33 #[.agg #[.bool false, .int .u64 ph, .int .u64 pl], .agg #[.bool false, .int .u64 xh, .int .u64 xl]] w fun e w' => e = .returned (.int .i64 c) ∧ Kept w w') :
    Calls Tryd.prog 78 #[.agg #[.bool false, .int .u64 ph, .int .u64 pl], .agg #[.bool b, .int .u64 xh, .int .u64 xl]] w fun e w' => e = .returned (.bool (decide (c ≤ 0))) ∧ Kept w w' := by
  have C' := Lib.hid C
  clear C
  go_enter Tryd.func78, Tryd.ntmps78
  go_wp2_with fail
  refine (C'.out _).mono ?_
  rintro e w1 ⟨rfl, k1⟩
  go_wp2
  go_ret
  exact ⟨rfl, (by (repeat (first | with_reducible exact Kept.refl _ | with_reducible apply Kept.drew | with_reducible apply Kept.alloc | ((with_reducible apply Kept.set); focus (simp <;> omega)) | ((with_reducible apply Kept.via); focus with_reducible assumption))))⟩
theorem within_ok {b : Bool} {ph pl xh xl : Int} (h1 : Word ph) (h2 : Word pl) (h3 : Word xh) (h4 : Word xl) (w : World) :
    Calls Tryd.prog 78 #[.agg #[.bool false, .int .u64 ph, .int .u64 pl], .agg #[.bool b, .int .u64 xh, .int .u64 xl]] w fun e w' => e = .returned (.bool (decide (sz ph pl ≤ sz xh xl))) ∧ Kept w w' := by
  have := within_any b ph pl xh xl _ w (Cmp_ok (b1 := false) (b2 := false) h1 h2 h3 h4)
  rw [show decide (sz ph pl ≤ sz xh xl) = decide (cmpI (numOf false ph pl) (numOf false xh xl) ≤ 0) by rw [decide_eq_decide, numOf_false, numOf_false]; unfold cmpI; split; omega; split <;> omega]
  exact this
end Go.Proofs.YtdbikeehoildlaaDoor
