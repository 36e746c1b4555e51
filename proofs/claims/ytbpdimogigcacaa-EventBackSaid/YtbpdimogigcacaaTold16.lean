/-
  Plain words of layer 16: what is on its way.
-/
import Derived.Test.YtbpdimogigcacaaClock05
namespace Go.Proofs.Ytbpdimogigcacaa
open Go.RowKit

/-- A flight may be. -/
def MayF (s t o : Int) : Prop := 0 ≤ s ∧ 0 ≤ t ∧ 0 ≤ o ∧ t + o ≤ s
instance (s t o : Int) : Decidable (MayF s t o) := by unfold MayF; infer_instance
/-- How much room is left. -/
def roomF (s t o room : Int) : Int := if ¬ MayF s t o ∨ room ≤ o then 0 else room - o
theorem room_range {s t o room : Int} (hr : room ≤ 9223372036854775807) : 0 ≤ roomF s t o room ∧ roomF s t o room ≤ 9223372036854775807 := by
  unfold roomF
  by_cases m : MayF s t o
  · have := m.2.2.1
    split <;> omega
  · rw [if_pos (Or.inl m)]; omega
/-- What is sent. -/
def SendIs (s t o n room s' t' o' er : Int) : Prop :=
  (¬ (MayF s t o ∧ 1 ≤ n) ∧ s' = s ∧ t' = t ∧ o' = o ∧ er = 201) ∨ (MayF s t o ∧ 1 ≤ n ∧ 9223372036854775807 < s + n ∧ s' = s ∧ t' = t ∧ o' = o ∧ er = 10) ∨
  (MayF s t o ∧ 1 ≤ n ∧ s + n ≤ 9223372036854775807 ∧ roomF s t o room < n ∧ s' = s ∧ t' = t ∧ o' = o ∧ er = 203) ∨
  (MayF s t o ∧ 1 ≤ n ∧ s + n ≤ 9223372036854775807 ∧ n ≤ roomF s t o room ∧ s' = s + n ∧ t' = t ∧ o' = o + n ∧ er = 0)
theorem send_ex (s t o n room : Int) : ∃ s' t' o' er, SendIs s t o n room s' t' o' er := by
  by_cases m : MayF s t o ∧ 1 ≤ n
  · by_cases c : 9223372036854775807 < s + n
    · exact ⟨_, _, _, _, Or.inr (Or.inl ⟨m.1, m.2, c, rfl, rfl, rfl, rfl⟩)⟩
    · by_cases d : roomF s t o room < n
      · exact ⟨_, _, _, _, Or.inr (Or.inr (Or.inl ⟨m.1, m.2, by omega, d, rfl, rfl, rfl, rfl⟩))⟩
      · exact ⟨_, _, _, _, Or.inr (Or.inr (Or.inr ⟨m.1, m.2, by omega, by omega, rfl, rfl, rfl, rfl⟩))⟩
  · exact ⟨_, _, _, _, Or.inl ⟨m, rfl, rfl, rfl, rfl⟩⟩
/-- What is told of (told is n), or lost (told is 0). -/
def LessIs (s t o n told s' t' o' er : Int) : Prop :=
  (¬ (MayF s t o ∧ 1 ≤ n) ∧ s' = s ∧ t' = t ∧ o' = o ∧ er = 201) ∨ (MayF s t o ∧ 1 ≤ n ∧ o < n ∧ s' = s ∧ t' = t ∧ o' = o ∧ er = 202) ∨
  (MayF s t o ∧ 1 ≤ n ∧ n ≤ o ∧ s' = s ∧ t' = t + told ∧ o' = o - n ∧ er = 0)
theorem less_ex (s t o n told : Int) : ∃ s' t' o' er, LessIs s t o n told s' t' o' er := by
  by_cases m : MayF s t o ∧ 1 ≤ n
  · by_cases c : o < n
    · exact ⟨_, _, _, _, Or.inr (Or.inl ⟨m.1, m.2, c, rfl, rfl, rfl, rfl⟩)⟩
    · exact ⟨_, _, _, _, Or.inr (Or.inr ⟨m.1, m.2, by omega, rfl, rfl, rfl, rfl⟩)⟩
  · exact ⟨_, _, _, _, Or.inl ⟨m, rfl, rfl, rfl, rfl⟩⟩
theorem send_may {s t o n room s' t' o' er : Int} (h : SendIs s t o n room s' t' o' er) (m : MayF s t o) : MayF s' t' o' := by
  rcases h with ⟨_, rfl, rfl, rfl, _⟩ | ⟨_, _, _, rfl, rfl, rfl, _⟩ | ⟨_, _, _, _, rfl, rfl, rfl, _⟩ | ⟨_, n0, _, _, rfl, rfl, rfl, _⟩
  · exact m
  · exact m
  · exact m
  · unfold MayF at *; omega
theorem less_may {s t o n told s' t' o' er : Int} (h : LessIs s t o n told s' t' o' er) (m : MayF s t o) (ht : told = 0 ∨ told = n) : MayF s' t' o' := by
  rcases h with ⟨_, rfl, rfl, rfl, _⟩ | ⟨_, _, _, rfl, rfl, rfl, _⟩ | ⟨_, n0, _, rfl, rfl, rfl, _⟩
  · exact m
  · exact m
  · unfold MayF at *; omega
theorem send_in64 {s t o n room s' t' o' er : Int} (hs : In64 s) (ht : In64 t) (ho : In64 o) (h : SendIs s t o n room s' t' o' er) : In64 s' ∧ In64 t' ∧ In64 o' := by
  rcases h with ⟨_, rfl, rfl, rfl, _⟩ | ⟨_, _, _, rfl, rfl, rfl, _⟩ | ⟨_, _, _, _, rfl, rfl, rfl, _⟩ | ⟨m, n0, c, _, rfl, rfl, rfl, _⟩
  · exact ⟨hs, ht, ho⟩
  · exact ⟨hs, ht, ho⟩
  · exact ⟨hs, ht, ho⟩
  · unfold MayF at m; unfold In64 at *; omega
theorem less_in64 {s t o n told s' t' o' er : Int} (hs : In64 s) (ht : In64 t) (ho : In64 o) (hd : told = 0 ∨ told = n) (h : LessIs s t o n told s' t' o' er) : In64 s' ∧ In64 t' ∧ In64 o' := by
  rcases h with ⟨_, rfl, rfl, rfl, _⟩ | ⟨_, _, _, rfl, rfl, rfl, _⟩ | ⟨m, n0, c, rfl, rfl, rfl, _⟩
  · exact ⟨hs, ht, ho⟩
  · exact ⟨hs, ht, ho⟩
  · unfold MayF at m; unfold In64 at *; omega
/-- A flight, as three numbers. -/
abbrev Fl := Int × Int × Int
/-- An act, as three numbers. -/
abbrev Ac := Int × Int × Int
def ActIs (f : Fl) (x : Ac) (f' : Fl) (er : Int) : Prop :=
  (x.1 = 0 ∧ SendIs f.1 f.2.1 f.2.2 x.2.1 x.2.2 f'.1 f'.2.1 f'.2.2 er) ∨ (x.1 = 1 ∧ LessIs f.1 f.2.1 f.2.2 x.2.1 x.2.1 f'.1 f'.2.1 f'.2.2 er) ∨
  (x.1 = 2 ∧ LessIs f.1 f.2.1 f.2.2 x.2.1 0 f'.1 f'.2.1 f'.2.2 er) ∨ (¬ (x.1 = 0 ∨ x.1 = 1 ∨ x.1 = 2) ∧ f' = f ∧ er = 201)
theorem act_ex (f : Fl) (x : Ac) : ∃ f' er, ActIs f x f' er := by
  by_cases h0 : x.1 = 0
  · obtain ⟨a, b, c, er, h⟩ := send_ex f.1 f.2.1 f.2.2 x.2.1 x.2.2
    exact ⟨(a, b, c), er, Or.inl ⟨h0, h⟩⟩
  · by_cases h1 : x.1 = 1
    · obtain ⟨a, b, c, er, h⟩ := less_ex f.1 f.2.1 f.2.2 x.2.1 x.2.1
      exact ⟨(a, b, c), er, Or.inr (Or.inl ⟨h1, h⟩)⟩
    · by_cases h2 : x.1 = 2
      · obtain ⟨a, b, c, er, h⟩ := less_ex f.1 f.2.1 f.2.2 x.2.1 0
        exact ⟨(a, b, c), er, Or.inr (Or.inr (Or.inl ⟨h2, h⟩))⟩
      · exact ⟨f, 201, Or.inr (Or.inr (Or.inr ⟨by omega, rfl, rfl⟩))⟩
def FlIn (f : Fl) : Prop := In64 f.1 ∧ In64 f.2.1 ∧ In64 f.2.2
theorem act_in64 {f f' : Fl} {x : Ac} {er : Int} (h : ActIs f x f' er) (i : FlIn f) : FlIn f' := by
  rcases h with ⟨_, h⟩ | ⟨_, h⟩ | ⟨_, h⟩ | ⟨_, rfl, _⟩
  · exact send_in64 i.1 i.2.1 i.2.2 h
  · exact less_in64 i.1 i.2.1 i.2.2 (Or.inr rfl) h
  · exact less_in64 i.1 i.2.1 i.2.2 (Or.inl rfl) h
  · exact i
/-- The answer of an act, told. -/
noncomputable def actF (f : Fl) (x : Ac) : Fl := (act_ex f x).choose
noncomputable def actE (f : Fl) (x : Ac) : Int := (act_ex f x).choose_spec.choose
theorem act_is (f : Fl) (x : Ac) : ActIs f x (actF f x) (actE f x) := (act_ex f x).choose_spec.choose_spec
theorem send_one {s t o n room a b c er a2 b2 c2 eq : Int} (h : SendIs s t o n room a b c er) (k : SendIs s t o n room a2 b2 c2 eq) : a = a2 ∧ b = b2 ∧ c = c2 ∧ er = eq := by
  unfold SendIs at h k
  by_cases m : MayF s t o
  · simp only [m, true_and] at h k; omega
  · simp only [m, false_and, not_false_iff, true_and, or_false] at h k; omega
theorem less_one {s t o n told a b c er a2 b2 c2 eq : Int} (h : LessIs s t o n told a b c er) (k : LessIs s t o n told a2 b2 c2 eq) : a = a2 ∧ b = b2 ∧ c = c2 ∧ er = eq := by
  unfold LessIs at h k
  by_cases m : MayF s t o
  · simp only [m, true_and] at h k; omega
  · simp only [m, false_and, not_false_iff, true_and, or_false] at h k; omega
theorem act_one {f f' g' : Fl} {x : Ac} {er eq : Int} (h : ActIs f x f' er) (k : ActIs f x g' eq) : f' = g' ∧ er = eq := by
  have key : ∀ {a b : Fl} {p q : Int}, (a.1 = b.1 ∧ a.2.1 = b.2.1 ∧ a.2.2 = b.2.2 ∧ p = q) → a = b ∧ p = q := fun ⟨x, y, z, u⟩ => ⟨Prod.ext x (Prod.ext y z), u⟩
  rcases h with ⟨h0, h⟩ | ⟨h0, h⟩ | ⟨h0, h⟩ | ⟨h0, h, h'⟩ <;> rcases k with ⟨k0, k⟩ | ⟨k0, k⟩ | ⟨k0, k⟩ | ⟨k0, k, k'⟩ <;> first | (exfalso; omega) | exact key (send_one h k) | exact key (less_one h k) | exact ⟨h.trans k.symm, h'.trans k'.symm⟩
/-- A flight behind acts, and their errors. -/
noncomputable def doF : Fl → List Ac → Fl
  | f, [] => f
  | f, x :: l => doF (actF f x) l
noncomputable def doE : Fl → List Ac → List Int
  | _, [] => []
  | f, x :: l => actE f x :: doE (actF f x) l
theorem doE_len : ∀ (l : List Ac) (f : Fl), (doE f l).length = l.length
  | [], _ => rfl
  | _ :: l, f => by simp [doE, doE_len l]
theorem doF_app : ∀ (l m : List Ac) (f : Fl), doF f (l ++ m) = doF (doF f l) m
  | [], _, _ => rfl
  | x :: l, m, f => by simp [doF, doF_app l m]
theorem doE_app : ∀ (l m : List Ac) (f : Fl), doE f (l ++ m) = doE f l ++ doE (doF f l) m
  | [], _, _ => rfl
  | x :: l, m, f => by simp [doF, doE, doE_app l m]
theorem do_in64 : ∀ (l : List Ac) (f : Fl), FlIn f → FlIn (doF f l)
  | [], _, i => i
  | x :: l, f, i => do_in64 l _ (act_in64 (act_is f x) i)
end Go.Proofs.Ytbpdimogigcacaa
