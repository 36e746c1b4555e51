/-
  The function laid: a copy of marks, with one more behind, in memory of its own.
-/
import Derived.Test.YtpbchcpbjflnoaaMarks08
import Derived.Test.YtpbchcpbjflnoaaCopyN
import Derived.Deep.DeepCutAuto
namespace Go.Proofs.Ytpbchcpbjflnoaa
open Go.RowKit Go.BigFrame
set_option linter.unusedVariables false

theorem infoMark8 : (Try.prog.info? 28).map (fun i => (i.zero, i.size, i.bytes)) = some (some (.agg #[.int .i64 0, .int .i64 0]), 2, 16) := by kernel_rfl
theorem flatM_at (l : List (Int × Int)) (j : Nat) (u : Value) (h : (flatM l)[j]? = some u) : ∃ k, k < l.length ∧ ((j = k * 2 ∧ u = .int .i64 (mk l k).1) ∨ (j = k * 2 + 1 ∧ u = .int .i64 (mk l k).2)) := by
  have hj : j < (flatM l).length := by
    rcases Nat.lt_or_ge j (flatM l).length with z | z
    · exact z
    · rw [List.getElem?_eq_none z] at h; cases h
  rw [flatM_len] at hj
  have q := flatM_get l (j / 2) (by omega)
  refine ⟨j / 2, by omega, ?_⟩
  rcases (show j = j / 2 * 2 ∨ j = j / 2 * 2 + 1 by omega) with e | e
  · rw [← e, h] at q; exact Or.inl ⟨e, Option.some.inj q.1⟩
  · rw [← e, h] at q; exact Or.inr ⟨e, Option.some.inj q.2⟩
/-- The cells of a row of marks, as what is copied. -/
theorem row_flat {w : World} {A : Option Addr} {l : List (Int × Int)} (h : RowM w A l) : ∀ ad, A = some ad → ∀ j u, (flatM l)[j]? = some u → w.cell? (ad.add j) = some u := fun ad e j u hj => by
  obtain ⟨k, hk, hc⟩ := flatM_at l j u hj
  obtain ⟨b, off, e2, hr⟩ := h (by omega)
  rw [e2] at e
  obtain rfl := Option.some.inj e
  rw [Addr.add_lit]
  rcases hc with ⟨rfl, rfl⟩ | ⟨rfl, rfl⟩
  · exact (hr k hk).1
  · rw [← Nat.add_assoc]; exact (hr k hk).2
theorem cells_two_at {w w2 : World} {ad : Addr} {t n : Int} (k : Kept w w2) (h : Hid (w.cell? (ad.add 0) = some (.int .i64 t) ∧ w.cell? (ad.add 1) = some (.int .i64 n))) : ∀ j u, [Value.int .i64 t, .int .i64 n][j]? = some u → w2.cell? (ad.add j) = some u := by
  intro j u hj
  match j, hj with
  | 0, hj => simp at hj; subst hj; exact k.read h.out.1
  | 1, hj => simp at hj; subst hj; exact k.read h.out.2
  | j + 2, hj => simp at hj
theorem flatM_one (l : List (Int × Int)) : ∀ u ∈ flatM l, u.oneCell' = true := by
  intro u hu
  simp only [flatM, List.mem_flatMap] at hu
  obtain ⟨m, _, hu⟩ := hu
  simp at hu
  rcases hu with rfl | rfl <;> rfl
set_option maxRecDepth 100000 in
set_option maxHeartbeats 1600000 in
theorem laid_none (A : Option Addr) (len cap : Nat) (l : List (Int × Int)) (hs : SliceOk A len cap) (hn : l.length = len) (hl : len ≤ 1099511627776) (w : World) (hr : RowM w A l) : Calls Try.prog 21 #[.slice A len cap, .slice none 0 0] w fun e w' => ∃ (B : Option Addr) (c : Nat), e = .returned (.slice B len c) ∧ SliceOk B len c ∧ (∀ W, Kept W w → ∀ A0, RowN W w' A0 B l) ∧ Kept w w' := by
  have HR := Lib.hid hr
  have HN := Lib.hid hn
  have HA := Lib.hid (show A = none → len = 0 ∧ cap = 0 from fun h => by have := hs.2.2 h; have := hs.1; omega)
  clear hr hs hn
  obtain ⟨i0, hi, hz0, hz1, hz2⟩ := info_parts infoMark8
  obtain ⟨g0, hg⟩ : ∃ g0, w.heap.size = g0 := ⟨_, rfl⟩
  go_enter Try.func21, Try.ntmps21
  go_wp2_with (at_make; (refine wpList_make_len_kept rfl _ _ 22 rfl w g0 hg 28 i0 (.agg #[.int .i64 0, .int .i64 0]) 2 Try.underlying22 hi hz0 hz1 (Kept.refl _) _ _ _ _ len len rfl rfl rfl (by first | rfl | (simp; done) | omega) (by omega) (by rw [hz2]; omega) (by unfold maxLen; omega) ?_))
  intro w1 xs own1 k1 _
  obtain ⟨w2, hrun, own2, k2, _⟩ := copy_own (P := Try.prog) w g0 hg 22 22 3 28 i0 2 Try.underlying22 hi hz1 g0 len len xs own1 k1 A len cap rfl HA.out (flatM l) (by rw [flatM_len, HN.out]) (row_flat (HR.out.kept k1)) (flatM_one l)
  have OW := Lib.hid own2
  clear own1 own2
  go_wp2_with (at_builtin; refine wpList_append_none_kept rfl _ _ 22 rfl g0 28 i0 2 Try.underlying22 hi _ len (flatM l) rfl OW.out rfl ?_)
  go_ret
  obtain ⟨B, c, e, sok, hrow⟩ := own_rowM (l := l) (by rw [HN.out]; exact OW.out)
  cases e
  rw [HN.out] at sok
  exact ⟨_, _, rfl, sok, fun W hW A0 => hrow W (by have := hW.2.size; omega) A0, k2⟩
set_option maxRecDepth 100000 in
set_option maxHeartbeats 1600000 in
theorem laid_one (A : Option Addr) (len cap : Nat) (l : List (Int × Int)) (hs : SliceOk A len cap) (hn : l.length = len) (hl : len ≤ 1099511627776) (t n : Int) (ad : Addr) (w : World) (c0 : w.cell? (ad.add 0) = some (.int .i64 t)) (c1 : w.cell? (ad.add 1) = some (.int .i64 n)) (hr : RowM w A l) : Calls Try.prog 21 #[.slice A len cap, .slice (some ad) 1 1] w fun e w' => ∃ (B : Option Addr) (c : Nat), e = .returned (.slice B (len + 1) c) ∧ SliceOk B (len + 1) c ∧ (∀ W, Kept W w → ∀ A0, RowN W w' A0 B (l ++ [(t, n)])) ∧ Kept w w' := by
  have HR := Lib.hid hr
  have HN := Lib.hid hn
  have HA := Lib.hid (show A = none → len = 0 ∧ cap = 0 from fun h => by have := hs.2.2 h; have := hs.1; omega)
  clear hr hs hn
  obtain ⟨i0, hi, hz0, hz1, hz2⟩ := info_parts infoMark8
  obtain ⟨g0, hg⟩ : ∃ g0, w.heap.size = g0 := ⟨_, rfl⟩
  have HC := Lib.hid (And.intro c0 c1)
  clear c0 c1
  go_enter Try.func21, Try.ntmps21
  go_wp2_with (at_make; (refine wpList_make_len_kept rfl _ _ 22 rfl w g0 hg 28 i0 (.agg #[.int .i64 0, .int .i64 0]) 2 Try.underlying22 hi hz0 hz1 (Kept.refl _) _ _ _ _ len (len + 1) rfl rfl rfl (by first | rfl | (simp; done) | omega) (by omega) (by rw [hz2]; omega) (by unfold maxLen; omega) ?_))
  intro w1 xs own1 k1 _
  obtain ⟨w2, hrun, own2, k2, _⟩ := copy_own (P := Try.prog) w g0 hg 22 22 3 28 i0 2 Try.underlying22 hi hz1 g0 len (len + 1) xs own1 k1 A len cap rfl HA.out (flatM l) (by rw [flatM_len, HN.out]) (row_flat (HR.out.kept k1)) (flatM_one l)
  have OW := Lib.hid own2
  clear own1 own2
  go_wp2_with (at_builtin; refine wpList_append_spare_kept rfl _ _ 22 rfl w g0 hg 28 i0 2 Try.underlying22 hi hz1 g0 len (len + 1) (flatM l) rfl OW.out k2 ad 1 1 [.int .i64 t, .int .i64 n] rfl rfl (cells_two_at k2 HC) (by intro u hu; simp at hu; rcases hu with rfl | rfl <;> rfl) (Nat.le_refl _) ?_)
  intro w3 own3 k3 _ _
  have OW3 := Lib.hid own3
  clear own3
  go_wp2
  go_ret
  obtain ⟨B, c, e, sok, hrow⟩ := own_rowM (l := l ++ [(t, n)]) (by rw [List.length_append, HN.out, flatM_app]; exact OW3.out)
  simp only [List.length_append, HN.out, List.length_singleton] at e sok
  cases e
  exact ⟨_, _, rfl, sok, fun W hW A0 => hrow W (by have := hW.2.size; omega) A0, k3⟩
end Go.Proofs.Ytpbchcpbjflnoaa
