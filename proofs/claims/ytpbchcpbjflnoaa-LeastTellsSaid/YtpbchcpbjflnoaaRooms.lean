/-
  More plain words on worlds: cells that stay as they were.
-/
import Derived.Test.YtpbchcpbjflnoaaRows
import Derived.Test.YtpbchcpbjflnoaaWide
import Derived.WalkKit
import Derived.WalkSpells
import Derived.Lib.Hide
import Derived.WalkLawsBesides
import Derived.Deep.RegionHeld3
import Derived.Deep.DeepCutAuto
namespace Go.Proofs.Ytpbchcpbjflnoaa
open Go.RowKit

theorem Room3.newD {w1 w2 : World} {x y z : Value} {t : TypeId} (k : Kept (w1.alloc (.cells #[x, y, z] t)).drew w2) : Room3 w2 w1.heap.size :=
  Room3.kept ⟨x, y, z, by simp [go_sem], by simp [go_sem], by simp [go_sem], by simp [go_sem], by simp [go_sem], by simp [go_sem]⟩ k
theorem Room2.newD {w1 w2 : World} {x y : Value} {t : TypeId} (k : Kept (w1.alloc (.cells #[x, y] t)).drew w2) : Room2 w2 w1.heap.size :=
  Room2.kept ⟨x, y, by simp [go_sem], by simp [go_sem], by simp [go_sem], by simp [go_sem]⟩ k
theorem Kept.below {w1 w2 : World} (k : Kept w1 w2) : w1.heap.size ≤ w2.heap.size := k.2.size
theorem Kept.all3 {w1 w2 : World} {p0 p1 p2 : Addr} {v0 v1 v2 : Value} (k : Kept w1 w2) (h : Hid (w1.cell? p0 = some v0 ∧ w1.cell? p1 = some v1 ∧ w1.cell? p2 = some v2)) : w2.cell? p0 = some v0 ∧ w2.cell? p1 = some v1 ∧ w2.cell? p2 = some v2 := by
  obtain ⟨h0, h1, h2⟩ := h.out
  exact ⟨k.read h0, k.read h1, k.read h2⟩
theorem Kept.all6 {w1 w2 : World} {p0 p1 p2 p3 p4 p5 : Addr} {v0 v1 v2 v3 v4 v5 : Value} (k : Kept w1 w2) (h : Hid (w1.cell? p0 = some v0 ∧ w1.cell? p1 = some v1 ∧ w1.cell? p2 = some v2 ∧ w1.cell? p3 = some v3 ∧ w1.cell? p4 = some v4 ∧ w1.cell? p5 = some v5)) : w2.cell? p0 = some v0 ∧ w2.cell? p1 = some v1 ∧ w2.cell? p2 = some v2 ∧ w2.cell? p3 = some v3 ∧ w2.cell? p4 = some v4 ∧ w2.cell? p5 = some v5 := by
  obtain ⟨h0, h1, h2, h3, h4, h5⟩ := h.out
  exact ⟨k.read h0, k.read h1, k.read h2, k.read h3, k.read h4, k.read h5⟩
theorem Kept.all9 {w1 w2 : World} {p0 p1 p2 p3 p4 p5 p6 p7 p8 : Addr} {v0 v1 v2 v3 v4 v5 v6 v7 v8 : Value} (k : Kept w1 w2) (h : Hid (w1.cell? p0 = some v0 ∧ w1.cell? p1 = some v1 ∧ w1.cell? p2 = some v2 ∧ w1.cell? p3 = some v3 ∧ w1.cell? p4 = some v4 ∧ w1.cell? p5 = some v5 ∧ w1.cell? p6 = some v6 ∧ w1.cell? p7 = some v7 ∧ w1.cell? p8 = some v8)) : w2.cell? p0 = some v0 ∧ w2.cell? p1 = some v1 ∧ w2.cell? p2 = some v2 ∧ w2.cell? p3 = some v3 ∧ w2.cell? p4 = some v4 ∧ w2.cell? p5 = some v5 ∧ w2.cell? p6 = some v6 ∧ w2.cell? p7 = some v7 ∧ w2.cell? p8 = some v8 := by
  obtain ⟨h0, h1, h2, h3, h4, h5, h6, h7, h8⟩ := h.out
  exact ⟨k.read h0, k.read h1, k.read h2, k.read h3, k.read h4, k.read h5, k.read h6, k.read h7, k.read h8⟩
theorem Kept.all12 {w1 w2 : World} {p0 p1 p2 p3 p4 p5 p6 p7 p8 p9 p10 p11 : Addr} {v0 v1 v2 v3 v4 v5 v6 v7 v8 v9 v10 v11 : Value} (k : Kept w1 w2) (h : Hid (w1.cell? p0 = some v0 ∧ w1.cell? p1 = some v1 ∧ w1.cell? p2 = some v2 ∧ w1.cell? p3 = some v3 ∧ w1.cell? p4 = some v4 ∧ w1.cell? p5 = some v5 ∧ w1.cell? p6 = some v6 ∧ w1.cell? p7 = some v7 ∧ w1.cell? p8 = some v8 ∧ w1.cell? p9 = some v9 ∧ w1.cell? p10 = some v10 ∧ w1.cell? p11 = some v11)) : w2.cell? p0 = some v0 ∧ w2.cell? p1 = some v1 ∧ w2.cell? p2 = some v2 ∧ w2.cell? p3 = some v3 ∧ w2.cell? p4 = some v4 ∧ w2.cell? p5 = some v5 ∧ w2.cell? p6 = some v6 ∧ w2.cell? p7 = some v7 ∧ w2.cell? p8 = some v8 ∧ w2.cell? p9 = some v9 ∧ w2.cell? p10 = some v10 ∧ w2.cell? p11 = some v11 := by
  obtain ⟨h0, h1, h2, h3, h4, h5, h6, h7, h8, h9, h10, h11⟩ := h.out
  exact ⟨k.read h0, k.read h1, k.read h2, k.read h3, k.read h4, k.read h5, k.read h6, k.read h7, k.read h8, k.read h9, k.read h10, k.read h11⟩

theorem Kept.set {W w' : World} {a : Addr} {v : Value} (ha : W.heap.size ≤ a.block) (h : Kept W w') : Kept W (w'.setCell a v) := h.setCell ha v
theorem Kept.via {a b c : World} (k : Kept b c) (h : Kept a b) : Kept a c := h.trans k
theorem read_far {w : World} {p q : Addr} {u v : Value} (h : w.cell? q = some v) (hb : q.block ≠ p.block) : (w.setCell p u).cell? q = some v :=
  (World.cell?_setCell_other w p q u (fun e => hb (by rw [e]))).trans h
theorem far3 {w1 : World} {p0 p1 p2 : Addr} {v0 v1 v2 : Value} {b : Nat} {x y z : Value} (h : w1.cell? p0 = some v0 ∧ w1.cell? p1 = some v1 ∧ w1.cell? p2 = some v2) (f : p0.block ≠ b ∧ p1.block ≠ b ∧ p2.block ≠ b) : (((w1.setCell ⟨b, 0, none⟩ x).setCell ⟨b, 1, none⟩ y).setCell ⟨b, 2, none⟩ z).cell? p0 = some v0 ∧ (((w1.setCell ⟨b, 0, none⟩ x).setCell ⟨b, 1, none⟩ y).setCell ⟨b, 2, none⟩ z).cell? p1 = some v1 ∧ (((w1.setCell ⟨b, 0, none⟩ x).setCell ⟨b, 1, none⟩ y).setCell ⟨b, 2, none⟩ z).cell? p2 = some v2 := by
  obtain ⟨h0, h1, h2⟩ := h
  obtain ⟨f0, f1, f2⟩ := f
  exact ⟨read_far (read_far (read_far h0 f0) f0) f0, read_far (read_far (read_far h1 f1) f1) f1, read_far (read_far (read_far h2 f2) f2) f2⟩
theorem far6 {w1 : World} {p0 p1 p2 p3 p4 p5 : Addr} {v0 v1 v2 v3 v4 v5 : Value} {b : Nat} {x y z : Value} (h : w1.cell? p0 = some v0 ∧ w1.cell? p1 = some v1 ∧ w1.cell? p2 = some v2 ∧ w1.cell? p3 = some v3 ∧ w1.cell? p4 = some v4 ∧ w1.cell? p5 = some v5) (f : p0.block ≠ b ∧ p1.block ≠ b ∧ p2.block ≠ b ∧ p3.block ≠ b ∧ p4.block ≠ b ∧ p5.block ≠ b) : (((w1.setCell ⟨b, 0, none⟩ x).setCell ⟨b, 1, none⟩ y).setCell ⟨b, 2, none⟩ z).cell? p0 = some v0 ∧ (((w1.setCell ⟨b, 0, none⟩ x).setCell ⟨b, 1, none⟩ y).setCell ⟨b, 2, none⟩ z).cell? p1 = some v1 ∧ (((w1.setCell ⟨b, 0, none⟩ x).setCell ⟨b, 1, none⟩ y).setCell ⟨b, 2, none⟩ z).cell? p2 = some v2 ∧ (((w1.setCell ⟨b, 0, none⟩ x).setCell ⟨b, 1, none⟩ y).setCell ⟨b, 2, none⟩ z).cell? p3 = some v3 ∧ (((w1.setCell ⟨b, 0, none⟩ x).setCell ⟨b, 1, none⟩ y).setCell ⟨b, 2, none⟩ z).cell? p4 = some v4 ∧ (((w1.setCell ⟨b, 0, none⟩ x).setCell ⟨b, 1, none⟩ y).setCell ⟨b, 2, none⟩ z).cell? p5 = some v5 := by
  obtain ⟨h0, h1, h2, h3, h4, h5⟩ := h
  obtain ⟨f0, f1, f2, f3, f4, f5⟩ := f
  exact ⟨read_far (read_far (read_far h0 f0) f0) f0, read_far (read_far (read_far h1 f1) f1) f1, read_far (read_far (read_far h2 f2) f2) f2, read_far (read_far (read_far h3 f3) f3) f3, read_far (read_far (read_far h4 f4) f4) f4, read_far (read_far (read_far h5 f5) f5) f5⟩
theorem far9 {w1 : World} {p0 p1 p2 p3 p4 p5 p6 p7 p8 : Addr} {v0 v1 v2 v3 v4 v5 v6 v7 v8 : Value} {b : Nat} {x y z : Value} (h : w1.cell? p0 = some v0 ∧ w1.cell? p1 = some v1 ∧ w1.cell? p2 = some v2 ∧ w1.cell? p3 = some v3 ∧ w1.cell? p4 = some v4 ∧ w1.cell? p5 = some v5 ∧ w1.cell? p6 = some v6 ∧ w1.cell? p7 = some v7 ∧ w1.cell? p8 = some v8) (f : p0.block ≠ b ∧ p1.block ≠ b ∧ p2.block ≠ b ∧ p3.block ≠ b ∧ p4.block ≠ b ∧ p5.block ≠ b ∧ p6.block ≠ b ∧ p7.block ≠ b ∧ p8.block ≠ b) : (((w1.setCell ⟨b, 0, none⟩ x).setCell ⟨b, 1, none⟩ y).setCell ⟨b, 2, none⟩ z).cell? p0 = some v0 ∧ (((w1.setCell ⟨b, 0, none⟩ x).setCell ⟨b, 1, none⟩ y).setCell ⟨b, 2, none⟩ z).cell? p1 = some v1 ∧ (((w1.setCell ⟨b, 0, none⟩ x).setCell ⟨b, 1, none⟩ y).setCell ⟨b, 2, none⟩ z).cell? p2 = some v2 ∧ (((w1.setCell ⟨b, 0, none⟩ x).setCell ⟨b, 1, none⟩ y).setCell ⟨b, 2, none⟩ z).cell? p3 = some v3 ∧ (((w1.setCell ⟨b, 0, none⟩ x).setCell ⟨b, 1, none⟩ y).setCell ⟨b, 2, none⟩ z).cell? p4 = some v4 ∧ (((w1.setCell ⟨b, 0, none⟩ x).setCell ⟨b, 1, none⟩ y).setCell ⟨b, 2, none⟩ z).cell? p5 = some v5 ∧ (((w1.setCell ⟨b, 0, none⟩ x).setCell ⟨b, 1, none⟩ y).setCell ⟨b, 2, none⟩ z).cell? p6 = some v6 ∧ (((w1.setCell ⟨b, 0, none⟩ x).setCell ⟨b, 1, none⟩ y).setCell ⟨b, 2, none⟩ z).cell? p7 = some v7 ∧ (((w1.setCell ⟨b, 0, none⟩ x).setCell ⟨b, 1, none⟩ y).setCell ⟨b, 2, none⟩ z).cell? p8 = some v8 := by
  obtain ⟨h0, h1, h2, h3, h4, h5, h6, h7, h8⟩ := h
  obtain ⟨f0, f1, f2, f3, f4, f5, f6, f7, f8⟩ := f
  exact ⟨read_far (read_far (read_far h0 f0) f0) f0, read_far (read_far (read_far h1 f1) f1) f1, read_far (read_far (read_far h2 f2) f2) f2, read_far (read_far (read_far h3 f3) f3) f3, read_far (read_far (read_far h4 f4) f4) f4, read_far (read_far (read_far h5 f5) f5) f5, read_far (read_far (read_far h6 f6) f6) f6, read_far (read_far (read_far h7 f7) f7) f7, read_far (read_far (read_far h8 f8) f8) f8⟩
theorem far12 {w1 : World} {p0 p1 p2 p3 p4 p5 p6 p7 p8 p9 p10 p11 : Addr} {v0 v1 v2 v3 v4 v5 v6 v7 v8 v9 v10 v11 : Value} {b : Nat} {x y z : Value} (h : w1.cell? p0 = some v0 ∧ w1.cell? p1 = some v1 ∧ w1.cell? p2 = some v2 ∧ w1.cell? p3 = some v3 ∧ w1.cell? p4 = some v4 ∧ w1.cell? p5 = some v5 ∧ w1.cell? p6 = some v6 ∧ w1.cell? p7 = some v7 ∧ w1.cell? p8 = some v8 ∧ w1.cell? p9 = some v9 ∧ w1.cell? p10 = some v10 ∧ w1.cell? p11 = some v11) (f : p0.block ≠ b ∧ p1.block ≠ b ∧ p2.block ≠ b ∧ p3.block ≠ b ∧ p4.block ≠ b ∧ p5.block ≠ b ∧ p6.block ≠ b ∧ p7.block ≠ b ∧ p8.block ≠ b ∧ p9.block ≠ b ∧ p10.block ≠ b ∧ p11.block ≠ b) : (((w1.setCell ⟨b, 0, none⟩ x).setCell ⟨b, 1, none⟩ y).setCell ⟨b, 2, none⟩ z).cell? p0 = some v0 ∧ (((w1.setCell ⟨b, 0, none⟩ x).setCell ⟨b, 1, none⟩ y).setCell ⟨b, 2, none⟩ z).cell? p1 = some v1 ∧ (((w1.setCell ⟨b, 0, none⟩ x).setCell ⟨b, 1, none⟩ y).setCell ⟨b, 2, none⟩ z).cell? p2 = some v2 ∧ (((w1.setCell ⟨b, 0, none⟩ x).setCell ⟨b, 1, none⟩ y).setCell ⟨b, 2, none⟩ z).cell? p3 = some v3 ∧ (((w1.setCell ⟨b, 0, none⟩ x).setCell ⟨b, 1, none⟩ y).setCell ⟨b, 2, none⟩ z).cell? p4 = some v4 ∧ (((w1.setCell ⟨b, 0, none⟩ x).setCell ⟨b, 1, none⟩ y).setCell ⟨b, 2, none⟩ z).cell? p5 = some v5 ∧ (((w1.setCell ⟨b, 0, none⟩ x).setCell ⟨b, 1, none⟩ y).setCell ⟨b, 2, none⟩ z).cell? p6 = some v6 ∧ (((w1.setCell ⟨b, 0, none⟩ x).setCell ⟨b, 1, none⟩ y).setCell ⟨b, 2, none⟩ z).cell? p7 = some v7 ∧ (((w1.setCell ⟨b, 0, none⟩ x).setCell ⟨b, 1, none⟩ y).setCell ⟨b, 2, none⟩ z).cell? p8 = some v8 ∧ (((w1.setCell ⟨b, 0, none⟩ x).setCell ⟨b, 1, none⟩ y).setCell ⟨b, 2, none⟩ z).cell? p9 = some v9 ∧ (((w1.setCell ⟨b, 0, none⟩ x).setCell ⟨b, 1, none⟩ y).setCell ⟨b, 2, none⟩ z).cell? p10 = some v10 ∧ (((w1.setCell ⟨b, 0, none⟩ x).setCell ⟨b, 1, none⟩ y).setCell ⟨b, 2, none⟩ z).cell? p11 = some v11 := by
  obtain ⟨h0, h1, h2, h3, h4, h5, h6, h7, h8, h9, h10, h11⟩ := h
  obtain ⟨f0, f1, f2, f3, f4, f5, f6, f7, f8, f9, f10, f11⟩ := f
  exact ⟨read_far (read_far (read_far h0 f0) f0) f0, read_far (read_far (read_far h1 f1) f1) f1, read_far (read_far (read_far h2 f2) f2) f2, read_far (read_far (read_far h3 f3) f3) f3, read_far (read_far (read_far h4 f4) f4) f4, read_far (read_far (read_far h5 f5) f5) f5, read_far (read_far (read_far h6 f6) f6) f6, read_far (read_far (read_far h7 f7) f7) f7, read_far (read_far (read_far h8 f8) f8) f8, read_far (read_far (read_far h9 f9) f9) f9, read_far (read_far (read_far h10 f10) f10) f10, read_far (read_far (read_far h11 f11) f11) f11⟩

/-- Three cells that may be written. -/
def Thaw3 (w : World) (b : Nat) : Prop := w.frozen? ⟨b, 0, none⟩ = false ∧ w.frozen? ⟨b, 1, none⟩ = false ∧ w.frozen? ⟨b, 2, none⟩ = false
theorem Thaw3.kept {w1 w2 : World} {b : Nat} (h : Thaw3 w1 b) (k : Kept w1 w2) : Thaw3 w2 b := ⟨k.thaw h.1, k.thaw h.2.1, k.thaw h.2.2⟩

end Go.Proofs.Ytpbchcpbjflnoaa
