/-
  Plain words of layer 10: when slow start is to end.
-/
import Derived.Test.YtmafibibpjmjbaaClock05
namespace Go.Proofs.Ytmafibibpjmjbaa
open Go.RowKit

/-- What tells that slow start is to end. -/
structure Hs where
  last : Int
  least : Int
  many : Int
  gentle : Bool
  done : Bool
  base : Int
  rounds : Int
theorem Hs.same {a b : Hs} (h : a.last = b.last ∧ a.least = b.least ∧ a.many = b.many ∧ a.gentle = b.gentle ∧ a.done = b.done ∧ a.base = b.base ∧ a.rounds = b.rounds) : a = b := by
  obtain ⟨_, _, _, _, _, _, _⟩ := a
  obtain ⟨_, _, _, _, _, _, _⟩ := b
  obtain ⟨h0, h1, h2, h3, h4, h5, h6⟩ := h
  cases h0; cases h1; cases h2; cases h3; cases h4; cases h5; cases h6; rfl
instance : DecidableEq Hs := fun a b => decidable_of_iff (a.last = b.last ∧ a.least = b.least ∧ a.many = b.many ∧ a.gentle = b.gentle ∧ a.done = b.done ∧ a.base = b.base ∧ a.rounds = b.rounds) ⟨Hs.same, fun e => by subst e; exact ⟨rfl, rfl, rfl, rfl, rfl, rfl, rfl⟩⟩
/-- Nothing yet. -/
def Hs.new : Hs := ⟨0, 0, 0, false, false, 0, 0⟩
def In64H (h : Hs) : Prop := In64 h.last ∧ In64 h.least ∧ In64 h.many ∧ In64 h.base ∧ In64 h.rounds
/-- It may be. -/
def MayH (h : Hs) : Prop := (0 ≤ h.last ∧ h.last ≤ 1073741824) ∧ (0 ≤ h.least ∧ h.least ≤ 1073741824) ∧ (0 ≤ h.many ∧ h.many ≤ 8) ∧ (h.many = 0 ↔ h.least = 0) ∧
  ((h.gentle = true ∧ h.done = false ∧ 1 ≤ h.base ∧ h.base ≤ 1073741824 ∧ 0 ≤ h.rounds ∧ h.rounds ≤ 5) ∨ (h.gentle = false ∧ h.base = 0 ∧ h.rounds = 0))
instance (h : Hs) : Decidable (MayH h) := by unfold MayH; infer_instance
/-- By how much a time is too long. -/
def thrN (n : Int) : Int := if n.tdiv 8 < 4000 then 4000 else if 16000 < n.tdiv 8 then 16000 else n.tdiv 8
theorem thr_range (n : Int) : 4000 ≤ thrN n ∧ thrN n ≤ 16000 := by unfold thrN; repeat' split; all_goals omega
/-- The least time, behind one more. -/
def lessN (a t : Int) : Int := if a = 0 ∨ t < a then t else a
/-- How many, behind one more. -/
def moreN (m : Int) : Int := if m < 8 then m + 1 else m
def IsTime10 (t : Int) : Prop := 1 ≤ t ∧ t ≤ 1073741824
instance (t : Int) : Decidable (IsTime10 t) := by unfold IsTime10; infer_instance
/-- Behind one time more. -/
def sampleH (h : Hs) (t : Int) : Hs × Int :=
  if MayH h ∧ IsTime10 t then
    if moreN h.many < 8 ∨ h.done = true then (⟨h.last, lessN h.least t, moreN h.many, h.gentle, h.done, h.base, h.rounds⟩, 0)
    else if h.gentle = true ∧ lessN h.least t < h.base then (⟨h.last, lessN h.least t, 8, false, false, 0, 0⟩, 0)
    else if h.gentle = false ∧ h.last ≠ 0 ∧ h.last + thrN h.last ≤ lessN h.least t then (⟨h.last, lessN h.least t, 8, true, false, lessN h.least t, 0⟩, 0)
    else (⟨h.last, lessN h.least t, moreN h.many, h.gentle, h.done, h.base, h.rounds⟩, 0)
  else (h, 201)
/-- Behind a round. -/
def roundH (h : Hs) : Hs × Int :=
  if MayH h then
    if h.gentle = false then (⟨h.least, 0, 0, false, h.done, h.base, h.rounds⟩, 0)
    else if 5 ≤ h.rounds + 1 then (⟨h.least, 0, 0, false, true, 0, 0⟩, 0)
    else (⟨h.least, 0, 0, true, h.done, h.base, h.rounds + 1⟩, 0)
  else (h, 201)
/-- A time; 0: a round is over. -/
def stepH (h : Hs) (t : Int) : Hs × Int := if t = 0 then roundH h else sampleH h t
/-- Behind the first ones of some steps. -/
def allH (h : Hs) (f : Nat → Int) : Nat → Hs
  | 0 => h
  | k + 1 => (stepH (allH h f k) (f k)).1
theorem all_zero (h : Hs) (f : Nat → Int) : allH h f 0 = h := rfl
theorem all_next (h : Hs) (f : Nat → Int) (k : Nat) : allH h f (k + 1) = (stepH (allH h f k) (f k)).1 := rfl
/-- By how much slow start grows. -/
def partH (h : Hs) (n : Int) : Int := if h.done = true ∨ n < 0 then 0 else if h.gentle = true then n / 4 else n

theorem less_range {a t : Int} (ha : 0 ≤ a ∧ a ≤ 1073741824) (ht : IsTime10 t) : 1 ≤ lessN a t ∧ lessN a t ≤ 1073741824 ∧ lessN a t ≤ t := by
  unfold IsTime10 at ht; unfold lessN; split <;> omega
theorem more_range {m : Int} (hm : 0 ≤ m ∧ m ≤ 8) : 1 ≤ moreN m ∧ moreN m ≤ 8 := by unfold moreN; split <;> omega
theorem may_in64 {h : Hs} (m : MayH h) : In64H h := by
  obtain ⟨a, b, c, _, e⟩ := m
  have e' : 0 ≤ h.base ∧ h.base ≤ 1073741824 ∧ 0 ≤ h.rounds ∧ h.rounds ≤ 5 := by rcases e with e | e <;> omega
  unfold In64H In64; omega
theorem sample_in {h : Hs} {t : Int} (m : MayH h) (ht : IsTime10 t) : (sampleH h t).2 = 0 := by
  unfold sampleH; rw [if_pos ⟨m, ht⟩]; repeat' split
  all_goals rfl
theorem sample_out {h : Hs} {t : Int} (m : ¬ (MayH h ∧ IsTime10 t)) : sampleH h t = (h, 201) := by unfold sampleH; rw [if_neg m]
theorem round_in {h : Hs} (m : MayH h) : (roundH h).2 = 0 := by
  unfold roundH; rw [if_pos m]; repeat' split
  all_goals rfl
theorem round_out {h : Hs} (m : ¬ MayH h) : roundH h = (h, 201) := by unfold roundH; rw [if_neg m]
theorem sample_may {h : Hs} {t : Int} (m : MayH h) : MayH (sampleH h t).1 := by
  by_cases ht : IsTime10 t
  · have m' := m
    obtain ⟨a, b, c, d, e⟩ := m'
    have L := less_range b ht
    have M := more_range c
    unfold sampleH
    rw [if_pos ⟨m, ht⟩]
    have z : lessN h.least t ≠ 0 := by omega
    have z2 : moreN h.many ≠ 0 := by omega
    split
    · exact ⟨a, ⟨by show 0 ≤ lessN h.least t; omega, L.2.1⟩, ⟨by show 0 ≤ moreN h.many; omega, M.2⟩, ⟨fun x => absurd x z2, fun x => absurd x z⟩, e⟩
    · split
      · exact ⟨a, ⟨by show 0 ≤ lessN h.least t; omega, L.2.1⟩, ⟨by show (0 : Int) ≤ 8; omega, Int.le_refl _⟩, ⟨fun x => absurd x (show ¬ ((8 : Int) = 0) by decide), fun x => absurd x z⟩, Or.inr ⟨rfl, rfl, rfl⟩⟩
      · split
        · exact ⟨a, ⟨by show 0 ≤ lessN h.least t; omega, L.2.1⟩, ⟨by show (0 : Int) ≤ 8; omega, Int.le_refl _⟩, ⟨fun x => absurd x (show ¬ ((8 : Int) = 0) by decide), fun x => absurd x z⟩, Or.inl ⟨rfl, rfl, L.1, L.2.1, Int.le_refl _, by show (0 : Int) ≤ 5; omega⟩⟩
        · exact ⟨a, ⟨by show 0 ≤ lessN h.least t; omega, L.2.1⟩, ⟨by show 0 ≤ moreN h.many; omega, M.2⟩, ⟨fun x => absurd x z2, fun x => absurd x z⟩, e⟩
  · rw [sample_out (fun z => ht z.2)]; exact m
theorem round_may {h : Hs} (m : MayH h) : MayH (roundH h).1 := by
  have m' := m
  obtain ⟨a, b, c, d, e⟩ := m'
  unfold roundH
  rw [if_pos m]
  have Z : ∀ x : Int, (0 ≤ x ∧ x ≤ 1073741824) → ((0 : Int) ≤ 0 ∧ (0 : Int) ≤ 1073741824) ∧ ((0 : Int) ≤ 0 ∧ (0 : Int) ≤ 8) := fun _ _ => by omega
  split
  · rename_i hg
    rcases e with e | e
    · rw [hg] at e; exact absurd e.1 (by simp)
    · exact ⟨b, (Z _ b).1, (Z _ b).2, Iff.rfl, Or.inr ⟨rfl, e.2.1, e.2.2⟩⟩
  · rename_i hg
    rcases e with e | e
    · split
      · exact ⟨b, (Z _ b).1, (Z _ b).2, Iff.rfl, Or.inr ⟨rfl, rfl, rfl⟩⟩
      · rename_i h5
        exact ⟨b, (Z _ b).1, (Z _ b).2, Iff.rfl, Or.inl ⟨rfl, e.2.1, e.2.2.1, e.2.2.2.1, by show 0 ≤ h.rounds + 1; omega, by show h.rounds + 1 ≤ 5; omega⟩⟩
    · exact absurd e.1 hg
theorem step_may {h : Hs} {t : Int} (m : MayH h) : MayH (stepH h t).1 := by
  unfold stepH; split
  · exact round_may m
  · exact sample_may m
theorem step_out {h : Hs} {t : Int} (e : (stepH h t).2 ≠ 0) : (stepH h t).1 = h ∧ (stepH h t).2 = 201 := by
  unfold stepH at e ⊢
  by_cases h0 : t = 0
  · rw [if_pos h0] at e ⊢
    by_cases m : MayH h
    · exact absurd (round_in m) e
    · rw [round_out m]; exact ⟨rfl, rfl⟩
  · rw [if_neg h0] at e ⊢
    by_cases m : MayH h ∧ IsTime10 t
    · exact absurd (sample_in m.1 m.2) e
    · rw [sample_out m]; exact ⟨rfl, rfl⟩
theorem step_bad {h : Hs} {t : Int} (m : ¬ MayH h) : stepH h t = (h, 201) := by
  unfold stepH; split
  · exact round_out m
  · exact sample_out (fun z => m z.1)
theorem step_done {h : Hs} {t : Int} (d : h.done = true) : (stepH h t).1.done = true := by
  unfold stepH; split
  · unfold roundH; split
    · rename_i m
      split
      · exact d
      · rename_i hg
        rcases m.2.2.2.2 with e | e
        · rw [e.2.1] at d; cases d
        · exact absurd e.1 hg
    · exact d
  · unfold sampleH; split
    · rw [if_pos (Or.inr d)]; exact d
    · exact d
theorem step_in64 {h : Hs} {t : Int} (i : In64H h) : In64H (stepH h t).1 := by
  by_cases m : MayH h
  · exact may_in64 (step_may m)
  · rw [step_bad m]; exact i
theorem new_may : MayH Hs.new := by decide
theorem all_may {h : Hs} {f : Nat → Int} (m : MayH h) : ∀ k, MayH (allH h f k)
  | 0 => m
  | k + 1 => by rw [all_next]; exact step_may (all_may m k)
theorem all_in64 {h : Hs} {f : Nat → Int} (i : In64H h) : ∀ k, In64H (allH h f k)
  | 0 => i
  | k + 1 => by rw [all_next]; exact step_in64 (all_in64 i k)
theorem all_same {h : Hs} {f g : Nat → Int} : ∀ k, (∀ j, j < k → f j = g j) → allH h f k = allH h g k
  | 0, _ => rfl
  | k + 1, e => by rw [all_next, all_next, all_same k (fun j hj => e j (by omega)), e k (by omega)]
/-- Five rounds bring it to its end. -/
theorem five_end {h : Hs} (m : MayH h) : (allH h (fun _ => 0) 5).gentle = false ∧ (allH h (fun _ => 0) 5).done = (h.done || h.gentle) := by
  have st : ∀ x : Hs, (stepH x 0) = roundH x := fun x => by unfold stepH; rw [if_pos rfl]
  have one : ∀ x : Hs, MayH x → x.gentle = false → (roundH x).1.gentle = false ∧ (roundH x).1.done = x.done := fun x mx gx => by
    unfold roundH; rw [if_pos mx, if_pos gx]; exact ⟨rfl, rfl⟩
  have two : ∀ x : Hs, MayH x → x.gentle = true → (5 ≤ x.rounds + 1 ∧ (roundH x).1.gentle = false ∧ (roundH x).1.done = true) ∨ (x.rounds + 1 < 5 ∧ (roundH x).1.gentle = true ∧ (roundH x).1.rounds = x.rounds + 1) := fun x mx gx => by
    unfold roundH; rw [if_pos mx, if_neg (by rw [gx]; simp)]
    split
    · exact Or.inl ⟨by assumption, rfl, rfl⟩
    · exact Or.inr ⟨by omega, rfl, rfl⟩
  have key : ∀ k : Nat, (h.gentle = false ∧ (allH h (fun _ => 0) k).gentle = false ∧ (allH h (fun _ => 0) k).done = h.done) ∨ (h.gentle = true ∧ (((allH h (fun _ => 0) k).gentle = true ∧ h.rounds + k = (allH h (fun _ => 0) k).rounds ∧ (k = 0 ∨ (allH h (fun _ => 0) k).rounds < 5)) ∨ ((allH h (fun _ => 0) k).gentle = false ∧ (allH h (fun _ => 0) k).done = true))) := fun k => by
    induction k with
    | zero =>
      cases hg : h.gentle with
      | false => exact Or.inl ⟨rfl, hg, rfl⟩
      | true => exact Or.inr ⟨rfl, Or.inl ⟨hg, by rw [all_zero]; simp, Or.inl rfl⟩⟩
    | succ k ih =>
      have mk := all_may (f := fun _ => 0) m k
      rw [all_next, st]
      rcases ih with ⟨a, b, c⟩ | ⟨a, ⟨b, c, d⟩ | ⟨b, c⟩⟩
      · have o := one _ mk b; exact Or.inl ⟨a, o.1, o.2.trans c⟩
      · rcases two _ mk b with ⟨x, y, z⟩ | ⟨x, y, z⟩
        · exact Or.inr ⟨a, Or.inr ⟨y, z⟩⟩
        · exact Or.inr ⟨a, Or.inl ⟨y, by rw [z]; omega, Or.inr (by rw [z]; exact x)⟩⟩
      · have o := one _ mk b; exact Or.inr ⟨a, Or.inr ⟨o.1, o.2.trans c⟩⟩
  have hr : h.gentle = true → 0 ≤ h.rounds := fun g => by
    rcases m.2.2.2.2 with e | e
    · exact e.2.2.2.2.1
    · rw [g] at e; cases e.1
  rcases key 5 with ⟨a, b, c⟩ | ⟨a, ⟨b, c, d⟩ | ⟨b, c⟩⟩
  · exact ⟨b, by rw [c, a]; simp⟩
  · have := hr a; omega
  · exact ⟨b, by rw [c, a]; simp⟩
theorem part_ge {h : Hs} {n : Int} : 0 ≤ partH h n ∧ partH h n ≤ max n 0 := by unfold partH; repeat' split; all_goals omega
theorem part_mono {h : Hs} {a b : Int} (hab : a ≤ b) : partH h a ≤ partH h b := by
  unfold partH
  cases h.done <;> cases h.gentle <;> simp <;> (repeat' split) <;> omega
theorem sample_least {h : Hs} {t : Int} (m : MayH h) (ht : IsTime10 t) : (sampleH h t).1.least = lessN h.least t ∧ (sampleH h t).1.many = moreN h.many := by
  have M := more_range m.2.2.1
  unfold sampleH
  rw [if_pos ⟨m, ht⟩]
  split
  · exact ⟨rfl, rfl⟩
  · rename_i hn
    have e : moreN h.many = 8 := by
      have : ¬ moreN h.many < 8 := fun z => hn (Or.inl z)
      omega
    split
    · exact ⟨rfl, e.symm⟩
    · split
      · exact ⟨rfl, e.symm⟩
      · exact ⟨rfl, rfl⟩
theorem round_least {h : Hs} (m : MayH h) : (roundH h).1.last = h.least ∧ (roundH h).1.least = 0 ∧ (roundH h).1.many = 0 := by
  unfold roundH
  rw [if_pos m]
  repeat' split
  all_goals exact ⟨rfl, rfl, rfl⟩
/-- What a time makes gentle, or swift. -/
theorem sample_enters {h : Hs} {t : Int} (m : MayH h) (ht : IsTime10 t) {k : Hs} (e : (sampleH h t).1 = k) : k.done = h.done ∧ 0 ≤ k.least ∧ k.least ≤ 1073741824 ∧
    ((h.gentle = false ∧ h.done = false ∧ k.gentle = false ∧ ¬ (0 < h.last ∧ h.last + thrN h.last ≤ k.least ∧ k.many = 8)) ∨
     (h.gentle = false ∧ h.done = false ∧ k.gentle = true ∧ k.base = k.least ∧ (0 < h.last ∧ h.last + thrN h.last ≤ k.least ∧ k.many = 8)) ∨
     (h.gentle = false ∧ h.done = true ∧ k.gentle = false) ∨
     (h.gentle = true ∧ h.done = false ∧ k.gentle = true ∧ k.many ≠ 8) ∨
     (h.gentle = true ∧ h.done = false ∧ k.gentle = true ∧ k.many = 8 ∧ h.base ≤ k.least) ∨
     (h.gentle = true ∧ h.done = false ∧ k.gentle = false ∧ k.many = 8 ∧ k.least < h.base)) := by
  have L := less_range m.2.1 ht
  have M := more_range m.2.2.1
  have la := m.1
  have gd : h.gentle = true → h.done = false := fun g => by
    rcases m.2.2.2.2 with x | x
    · exact x.2.1
    · rw [g] at x; cases x.1
  unfold sampleH at e
  rw [if_pos ⟨m, ht⟩] at e
  by_cases c1 : moreN h.many < 8 ∨ h.done = true
  · rw [if_pos c1] at e
    subst e
    refine ⟨rfl, by show 0 ≤ lessN h.least t; omega, L.2.1, ?_⟩
    show (h.gentle = false ∧ h.done = false ∧ h.gentle = false ∧ ¬ (0 < h.last ∧ h.last + thrN h.last ≤ lessN h.least t ∧ moreN h.many = 8)) ∨ (h.gentle = false ∧ h.done = false ∧ h.gentle = true ∧ h.base = lessN h.least t ∧ (0 < h.last ∧ h.last + thrN h.last ≤ lessN h.least t ∧ moreN h.many = 8)) ∨ (h.gentle = false ∧ h.done = true ∧ h.gentle = false) ∨ (h.gentle = true ∧ h.done = false ∧ h.gentle = true ∧ moreN h.many ≠ 8) ∨ (h.gentle = true ∧ h.done = false ∧ h.gentle = true ∧ moreN h.many = 8 ∧ h.base ≤ lessN h.least t) ∨ (h.gentle = true ∧ h.done = false ∧ h.gentle = false ∧ moreN h.many = 8 ∧ lessN h.least t < h.base)
    cases hg : h.gentle <;> cases hd : h.done
    · rw [hd] at c1
      have c2 : moreN h.many < 8 := by rcases c1 with c | c; exact c; cases c
      exact Or.inl ⟨rfl, rfl, rfl, by omega⟩
    · exact Or.inr (Or.inr (Or.inl ⟨rfl, rfl, rfl⟩))
    · rw [hd] at c1
      have c2 : moreN h.many < 8 := by rcases c1 with c | c; exact c; cases c
      exact Or.inr (Or.inr (Or.inr (Or.inl ⟨rfl, rfl, rfl, by omega⟩)))
    · have := gd hg; rw [hd] at this; cases this
  · rw [if_neg c1] at e
    have hd : h.done = false := by cases hd : h.done; rfl; exact absurd (Or.inr hd) c1
    have c2 : moreN h.many = 8 := by
      have : ¬ moreN h.many < 8 := fun z => c1 (Or.inl z)
      omega
    by_cases c3 : h.gentle = true ∧ lessN h.least t < h.base
    · rw [if_pos c3] at e
      subst e
      exact ⟨hd.symm, by show 0 ≤ lessN h.least t; omega, L.2.1, Or.inr (Or.inr (Or.inr (Or.inr (Or.inr ⟨c3.1, hd, rfl, rfl, c3.2⟩))))⟩
    · rw [if_neg c3] at e
      by_cases c4 : h.gentle = false ∧ h.last ≠ 0 ∧ h.last + thrN h.last ≤ lessN h.least t
      · rw [if_pos c4] at e
        subst e
        exact ⟨hd.symm, by show 0 ≤ lessN h.least t; omega, L.2.1, Or.inr (Or.inl ⟨c4.1, hd, rfl, rfl, by omega, c4.2.2, rfl⟩)⟩
      · rw [if_neg c4] at e
        subst e
        refine ⟨rfl, by show 0 ≤ lessN h.least t; omega, L.2.1, ?_⟩
        cases hg : h.gentle
        · exact Or.inl ⟨rfl, hd, rfl, fun z => c4 ⟨hg, by omega, z.2.1⟩⟩
        · exact Or.inr (Or.inr (Or.inr (Or.inr (Or.inl ⟨rfl, hd, rfl, c2, by
            show h.base ≤ lessN h.least t
            exact Int.not_lt.1 (fun z => c3 ⟨hg, z⟩)⟩))))
end Go.Proofs.Ytmafibibpjmjbaa
