/-
  What the calls of package bucket are to do, as premises.
-/
import Derived.Test.YtlgpeafphanobaaTold18
import Derived.Test.YtlgpeafphanobaaFrame
import Derived.Test.YtlgpeafphanobaaRoom
namespace Go.Proofs.Ytlgpeafphanobaa
open Go.RowKit

/-- A bucket's two cells, that may be written. -/
def RB (w : World) (g : Nat) (x y : Int) : Prop := (w.cell? ⟨g, 0, none⟩ = some (.int .i64 x) ∧ w.cell? ⟨g, 1, none⟩ = some (.int .i64 y)) ∧ w.frozen? ⟨g, 0, none⟩ = false ∧ w.frozen? ⟨g, 1, none⟩ = false
theorem RB.kept {w w' : World} {g : Nat} {x y : Int} (h : RB w g x y) (k : Kept w w') : RB w' g x y := ⟨⟨k.read h.1.1, k.read h.1.2⟩, k.thaw h.2.1, k.thaw h.2.2⟩
theorem RB.ne {w : World} {g : Nat} {x y : Int} (h : RB w g x y) : g < w.heap.size := cell_lt h.1.1
instance (a h at_ rate most a' h' er : Int) : Decidable (FillIs a h at_ rate most a' h' er) := by unfold FillIs IsTime; infer_instance
instance (a h n h' er : Int) : Decidable (TakeIs a h n h' er) := by unfold TakeIs; infer_instance
def BuCheckC : Prop := ∀ (a h : Int) (v : Bool), In64 a → In64 h → (v = true ↔ MayB a h) → ∀ w, Calls Try.prog 14 #[.agg #[.int .i64 a, .int .i64 h]] w fun e w' => e = .returned (.bool v) ∧ Kept w w'
def BuFillC : Prop := ∀ a h at_ rate most a' h' er : Int, In64 a → In64 h → In64 at_ → In64 rate → In64 most → FillIs a h at_ rate most a' h' er → ∀ w, Calls Try.prog 10 #[.agg #[.int .i64 a, .int .i64 h], .int .i64 at_, .int .i64 rate, .int .i64 most] w fun e w' => e = .returned (.tuple #[.agg #[.int .i64 a', .int .i64 h'], .int .i64 er]) ∧ Kept w w'
def BuTakeC : Prop := ∀ a h n h' er : Int, In64 a → In64 h → In64 n → TakeIs a h n h' er → ∀ w, Calls Try.prog 12 #[.agg #[.int .i64 a, .int .i64 h], .int .i64 n] w fun e w' => e = .returned (.tuple #[.agg #[.int .i64 a, .int .i64 h'], .int .i64 er]) ∧ Kept w w'
def BuWaitC : Prop := ∀ a h n rate t : Int, In64 a → In64 h → In64 n → In64 rate → waitB a h n rate = t → ∀ w, Calls Try.prog 16 #[.agg #[.int .i64 a, .int .i64 h], .int .i64 n, .int .i64 rate] w fun e w' => e = .returned (.int .i64 t) ∧ Kept w w'
def BuBytesC : Prop := ∀ a h t : Int, In64 a → In64 h → bytesB a h = t → ∀ w, Calls Try.prog 18 #[.agg #[.int .i64 a, .int .i64 h]] w fun e w' => e = .returned (.int .i64 t) ∧ Kept w w'
theorem fill_in64 {a h at_ rate most a' h' er : Int} (ia : In64 a) (ih : In64 h) (it : In64 at_) (f : FillIs a h at_ rate most a' h' er) : In64 a' ∧ In64 h' := by
  rcases f with ⟨_, rfl, rfl, _⟩ | ⟨_, _, rfl, rfl, _⟩ | ⟨_, _, _, rfl, rfl, _⟩ | ⟨m, t, l, rfl, rfl, _⟩
  · exact ⟨ia, ih⟩
  · exact ⟨ia, ih⟩
  · exact ⟨ia, ih⟩
  · have r := fill_range (rate := rate) (d := a' - a) (most := most) m.2.1 m.2.2 (by omega)
    have := m.2.1
    exact ⟨it, by unfold In64; omega⟩
theorem take_in64 {a h n h' er : Int} (ih : In64 h) (f : TakeIs a h n h' er) : In64 h' := by
  rcases f with ⟨_, rfl, _⟩ | ⟨_, _, _, rfl, _⟩ | ⟨m, n0, l, rfl, _⟩
  · exact ih
  · exact ih
  · have := m.2.1; unfold In64 at *; omega
theorem fill_err {a h at_ rate most a' h' er : Int} (f : FillIs a h at_ rate most a' h' er) : er = 0 ∨ er = 201 ∨ er = 51 ∨ er = 50 := by
  rcases f with ⟨_, _, _, rfl⟩ | ⟨_, _, _, _, rfl⟩ | ⟨_, _, _, _, _, rfl⟩ | ⟨_, _, _, _, _, rfl⟩ <;> simp
end Go.Proofs.Ytlgpeafphanobaa
