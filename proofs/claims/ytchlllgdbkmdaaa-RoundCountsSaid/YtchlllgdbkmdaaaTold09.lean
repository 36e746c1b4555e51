/-
  Plain words of layer 9: rounds there and back.
-/
import Derived.Test.YtchlllgdbkmdaaaClock05
namespace Go.Proofs.Ytchlllgdbkmdaaa
open Go.RowKit

/-- What a round is behind what is told, whether it was over, and the error. -/
def AckIs (id en told sent id' en' : Int) (b : Bool) (er : Int) : Prop :=
  (¬ (0 ≤ id ∧ 0 ≤ en ∧ 0 ≤ told ∧ told ≤ sent) ∧ id' = id ∧ en' = en ∧ b = false ∧ er = 201) ∨
  ((0 ≤ id ∧ 0 ≤ en ∧ 0 ≤ told ∧ told ≤ sent) ∧ en ≤ told ∧ id = 9223372036854775807 ∧ id' = id ∧ en' = en ∧ b = false ∧ er = 201) ∨
  ((0 ≤ id ∧ 0 ≤ en ∧ 0 ≤ told ∧ told ≤ sent) ∧ en ≤ told ∧ id < 9223372036854775807 ∧ id' = id + 1 ∧ en' = sent ∧ b = true ∧ er = 0) ∨
  ((0 ≤ id ∧ 0 ≤ en ∧ 0 ≤ told ∧ told ≤ sent) ∧ told < en ∧ id' = id ∧ en' = en ∧ b = false ∧ er = 0)
theorem ack_ex {id en told sent : Int} (hid : id ≤ 9223372036854775807) : ∃ id' en' b er, AckIs id en told sent id' en' b er := by
  by_cases h : 0 ≤ id ∧ 0 ≤ en ∧ 0 ≤ told ∧ told ≤ sent
  · by_cases h1 : en ≤ told
    · by_cases h2 : id = 9223372036854775807
      · exact ⟨_, _, _, _, Or.inr (Or.inl ⟨h, h1, h2, rfl, rfl, rfl, rfl⟩)⟩
      · exact ⟨_, _, _, _, Or.inr (Or.inr (Or.inl ⟨h, h1, by omega, rfl, rfl, rfl, rfl⟩))⟩
    · exact ⟨_, _, _, _, Or.inr (Or.inr (Or.inr ⟨h, by omega, rfl, rfl, rfl, rfl⟩))⟩
  · exact ⟨_, _, _, _, Or.inl ⟨h, rfl, rfl, rfl, rfl⟩⟩
/-- A round behind the first ones of two rows: its number, and its end. -/
def cntS (f g : Nat → Int) : Nat → Int × Int
  | 0 => (0, 0)
  | k + 1 => if 0 ≤ f k ∧ f k ≤ g k ∧ (cntS f g k).2 ≤ f k then ((cntS f g k).1 + 1, g k) else cntS f g k
theorem cnt_zero (f g : Nat → Int) : cntS f g 0 = (0, 0) := rfl
theorem cnt_next (f g : Nat → Int) (k : Nat) : cntS f g (k + 1) = if 0 ≤ f k ∧ f k ≤ g k ∧ (cntS f g k).2 ≤ f k then ((cntS f g k).1 + 1, g k) else cntS f g k := rfl
theorem cnt_range (f g : Nat → Int) : ∀ k : Nat, 0 ≤ (cntS f g k).1 ∧ (cntS f g k).1 ≤ k ∧ 0 ≤ (cntS f g k).2
  | 0 => ⟨Int.le_refl _, Int.le_refl _, Int.le_refl _⟩
  | k + 1 => by
    have := cnt_range f g k
    rw [cnt_next]
    split
    · rename_i h; exact ⟨by show 0 ≤ (cntS f g k).1 + 1; omega, by show (cntS f g k).1 + 1 ≤ ((k + 1 : Nat) : Int); omega, by show 0 ≤ g k; omega⟩
    · omega
theorem cnt_in64 {f g : Nat → Int} : ∀ k : Nat, (∀ j, j < k → In64 (g j)) → In64 (cntS f g k).2
  | 0, _ => by unfold In64; rw [cnt_zero]; omega
  | k + 1, h => by
    have := cnt_in64 (f := f) k (fun j hj => h j (by omega))
    rw [cnt_next]
    split
    · exact h k (by omega)
    · exact this
theorem cnt_ack {f g : Nat → Int} {k : Nat} (hk : k < 9223372036854775807) : ∃ (b : Bool) (er : Int), AckIs (cntS f g k).1 (cntS f g k).2 (f k) (g k) (cntS f g (k + 1)).1 (cntS f g (k + 1)).2 b er ∧ ((b = true ∧ (cntS f g (k + 1)).1 = (cntS f g k).1 + 1) ∨ (b = false ∧ (cntS f g (k + 1)).1 = (cntS f g k).1)) := by
  have r := cnt_range f g k
  rw [cnt_next]
  by_cases h : 0 ≤ f k ∧ f k ≤ g k ∧ (cntS f g k).2 ≤ f k
  · rw [if_pos h]
    exact ⟨true, 0, Or.inr (Or.inr (Or.inl ⟨⟨r.1, r.2.2, h.1, h.2.1⟩, h.2.2, by omega, rfl, rfl, rfl, rfl⟩)), Or.inl ⟨rfl, rfl⟩⟩
  · rw [if_neg h]
    by_cases h1 : 0 ≤ f k ∧ f k ≤ g k
    · exact ⟨false, 0, Or.inr (Or.inr (Or.inr ⟨⟨r.1, r.2.2, h1.1, h1.2⟩, by omega, rfl, rfl, rfl, rfl⟩)), Or.inr ⟨rfl, rfl⟩⟩
    · exact ⟨false, 201, Or.inl ⟨fun z => h1 ⟨z.2.2.1, z.2.2.2⟩, rfl, rfl, rfl, rfl⟩, Or.inr ⟨rfl, rfl⟩⟩
theorem cnt_less {f g f2 g2 : Nat → Int} : ∀ k : Nat, (∀ j, j < k → f j = f2 j ∧ g j = g2 j) → cntS f g k = cntS f2 g2 k
  | 0, _ => rfl
  | k + 1, h => by
    rw [cnt_next, cnt_next, cnt_less k (fun j hj => h j (by omega)), (h k (by omega)).1, (h k (by omega)).2]
end Go.Proofs.Ytchlllgdbkmdaaa
