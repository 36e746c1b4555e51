/-
  Plain words of layer 8: marks, and the least number of some time.
-/
import Derived.Test.YtpbchcpbjflnoaaClock05
namespace Go.Proofs.Ytpbchcpbjflnoaa

/-- A mark at its place: its time, and its number. -/
def mk (l : List (Int × Int)) (k : Nat) : Int × Int := l.getD k (0, 0)
/-- Marks may be. -/
def MayL (l : List (Int × Int)) : Prop := ∀ k, k < l.length → IsTime (mk l k).1 ∧ (0 < k → (mk l (k - 1)).1 ≤ (mk l k).1 ∧ (mk l (k - 1)).2 < (mk l k).2)
instance (l : List (Int × Int)) : Decidable (MayL l) := by unfold MayL IsTime; infer_instance
theorem mk_lt {l : List (Int × Int)} {k : Nat} (h : k < l.length) : l[k]? = some (mk l k) := by simp [mk, List.getD, h]
theorem mk_mem {l : List (Int × Int)} {k : Nat} (h : k < l.length) : mk l k ∈ l := List.mem_of_getElem? (mk_lt h)
theorem mk_of_mem {l : List (Int × Int)} {m : Int × Int} (h : m ∈ l) : ∃ k, k < l.length ∧ mk l k = m := by
  obtain ⟨k, hk⟩ := List.mem_iff_getElem?.1 h
  have hl : k < l.length := by
    rcases Nat.lt_or_ge k l.length with h1 | h1
    · exact h1
    · rw [List.getElem?_eq_none h1] at hk; cases hk
  refine ⟨k, hl, ?_⟩
  rw [mk_lt hl] at hk; exact Option.some.inj hk
theorem mk_app_lt {l r : List (Int × Int)} {k : Nat} (h : k < l.length) : mk (l ++ r) k = mk l k := by
  simp [mk, List.getD, List.getElem?_append_left h]
theorem mk_app_at {l : List (Int × Int)} {m : Int × Int} : mk (l ++ [m]) l.length = m := by simp [mk, List.getD]
theorem mk_take {l : List (Int × Int)} {k j : Nat} (h : j < k) : mk (l.take k) j = mk l j := by simp [mk, List.getD, h]
theorem mk_map {l : List (Int × Int)} {f : Int × Int → Int × Int} {k : Nat} (h : k < l.length) : mk (l.map f) k = f (mk l k) := by
  have h2 : k < (l.map f).length := by simpa using h
  have e := mk_lt h2
  rw [List.getElem?_map, mk_lt h] at e
  exact (Option.some.inj e).symm
theorem may_nil : MayL [] := fun k h => absurd h (by simp)
/-- Of marks that may be those behind are later, and greater. -/
theorem may_rise {l : List (Int × Int)} (h : MayL l) (i : Nat) : ∀ d, i + d < l.length → (mk l i).1 ≤ (mk l (i + d)).1 ∧ (0 < d → (mk l i).2 < (mk l (i + d)).2)
  | 0, _ => ⟨Int.le_refl _, fun h => absurd h (by omega)⟩
  | d + 1, hd => by
    have a := may_rise h i d (by omega)
    have b := (h (i + (d + 1)) hd).2 (by omega)
    rw [show i + (d + 1) - 1 = i + d by omega] at b
    by_cases z : d = 0
    · subst z; exact ⟨b.1, fun _ => b.2⟩
    · have c := a.2 (by omega); exact ⟨by omega, fun _ => by omega⟩
theorem may_le {l : List (Int × Int)} (h : MayL l) {i j : Nat} (hij : i ≤ j) (hj : j < l.length) : (mk l i).1 ≤ (mk l j).1 ∧ (mk l i).2 ≤ (mk l j).2 := by
  have a := may_rise h i (j - i) (by omega)
  rw [show i + (j - i) = j by omega] at a
  by_cases z : j - i = 0
  · rw [show i = j by omega]; exact ⟨Int.le_refl _, Int.le_refl _⟩
  · have c := a.2 (by omega); exact ⟨a.1, by omega⟩
theorem may_take {l : List (Int × Int)} (h : MayL l) (k : Nat) : MayL (l.take k) := fun j hj => by
  have hj' : j < k ∧ j < l.length := by simp at hj; omega
  rw [mk_take hj'.1, mk_take (show j - 1 < k by omega)]
  exact h j hj'.2

/-- The last mark. -/
def lastOf (l : List (Int × Int)) : Int × Int := mk l (l.length - 1)
theorem lastOf_app (l : List (Int × Int)) (m : Int × Int) : lastOf (l ++ [m]) = m := by
  unfold lastOf; rw [show (l ++ [m]).length - 1 = l.length by simp]; exact mk_app_at
theorem may_last {l : List (Int × Int)} (h : MayL l) {m : Int × Int} (hm : m ∈ l) : m.1 ≤ (lastOf l).1 ∧ m.2 ≤ (lastOf l).2 := by
  obtain ⟨k, hk, rfl⟩ := mk_of_mem hm
  exact may_le h (by omega) (by omega)
theorem may_app {l : List (Int × Int)} (h : MayL l) {m : Int × Int} (ht : IsTime m.1) (hl : l ≠ [] → (lastOf l).1 ≤ m.1 ∧ (lastOf l).2 < m.2) : MayL (l ++ [m]) := fun k hk => by
  have hk' : k < l.length ∨ k = l.length := by simp at hk; omega
  rcases hk' with hk' | rfl
  · rw [mk_app_lt hk', mk_app_lt (show k - 1 < l.length by omega)]; exact h k hk'
  · rw [mk_app_at]
    refine ⟨ht, fun h0 => ?_⟩
    rw [mk_app_lt (show l.length - 1 < l.length by omega)]
    exact hl (by intro e; simp [e] at h0)

/-- The marks that stay, when a number is put. -/
def keptL (l : List (Int × Int)) (from_ n : Int) : List (Int × Int) := l.filter (fun m => decide (m.2 < n) && decide (from_ ≤ m.1))
theorem keptL_next (l : List (Int × Int)) (from_ n : Int) {k : Nat} (h : k < l.length) :
    keptL (l.take (k + 1)) from_ n = keptL (l.take k) from_ n ++ (if (mk l k).2 < n ∧ from_ ≤ (mk l k).1 then [mk l k] else []) := by
  have e : l.take (k + 1) = l.take k ++ [mk l k] := by
    rw [List.take_add_one, mk_lt h]; rfl
  unfold keptL
  rw [e, List.filter_append]
  congr 1
  by_cases g : (mk l k).2 < n ∧ from_ ≤ (mk l k).1
  · rw [if_pos g]; simp [g]
  · rw [if_neg g]; simp only [List.filter_cons, List.filter_nil]; rw [if_neg]; simpa using g
theorem keptL_mem {l : List (Int × Int)} {from_ n : Int} {m : Int × Int} : m ∈ keptL l from_ n ↔ m ∈ l ∧ m.2 < n ∧ from_ ≤ m.1 := by
  unfold keptL; simp [List.mem_filter]
theorem keptL_len (l : List (Int × Int)) (from_ n : Int) : (keptL l from_ n).length ≤ l.length := List.length_filter_le _ _
/-- By pairs that follow one another. -/
theorem may_pair {l : List (Int × Int)} : MayL l ↔ (∀ m ∈ l, IsTime m.1) ∧ l.Pairwise (fun a b => a.1 ≤ b.1 ∧ a.2 < b.2) := by
  constructor
  · intro h
    refine ⟨fun m hm => ?_, ?_⟩
    · obtain ⟨k, hk, rfl⟩ := mk_of_mem hm; exact (h k hk).1
    · rw [List.pairwise_iff_getElem]
      intro i j hi hj hij
      have a := may_rise h i (j - i) (by omega)
      rw [show i + (j - i) = j by omega] at a
      have ei := mk_lt hi; have ej := mk_lt hj
      rw [List.getElem?_eq_getElem hi] at ei
      rw [List.getElem?_eq_getElem hj] at ej
      rw [Option.some.inj ei, Option.some.inj ej]
      exact ⟨a.1, a.2 (by omega)⟩
  · rintro ⟨h1, h2⟩ k hk
    refine ⟨h1 _ (mk_mem hk), fun h0 => ?_⟩
    rw [List.pairwise_iff_getElem] at h2
    have a := h2 (k - 1) k (by omega) hk (by omega)
    have ei := mk_lt (show k - 1 < l.length by omega); have ej := mk_lt hk
    rw [List.getElem?_eq_getElem (show k - 1 < l.length by omega)] at ei
    rw [List.getElem?_eq_getElem hk] at ej
    rw [Option.some.inj ei, Option.some.inj ej] at a
    exact a
theorem keptL_may {l : List (Int × Int)} (h : MayL l) (from_ n : Int) : MayL (keptL l from_ n) := by
  rw [may_pair] at h ⊢
  refine ⟨fun m hm => h.1 m (keptL_mem.1 hm).1, h.2.sublist List.filter_sublist⟩

/-- What stands behind a number that is put, and its error. -/
def PutIs (l : List (Int × Int)) (window at_ n : Int) (l' : List (Int × Int)) (er : Int) : Prop :=
  (¬ (MayL l ∧ IsTime at_ ∧ 0 ≤ window) ∧ l' = l ∧ er = 51) ∨
  (MayL l ∧ IsTime at_ ∧ 0 ≤ window ∧ l ≠ [] ∧ at_ < (lastOf l).1 ∧ l' = l ∧ er = 50) ∨
  (MayL l ∧ IsTime at_ ∧ 0 ≤ window ∧ (l = [] ∨ (lastOf l).1 ≤ at_) ∧ l' = keptL l (at_ - window) n ++ [(at_, n)] ∧ er = 0)
theorem put_ex (l : List (Int × Int)) (window at_ n : Int) : ∃ l' er, PutIs l window at_ n l' er := by
  by_cases h : MayL l ∧ IsTime at_ ∧ 0 ≤ window
  · by_cases g : l ≠ [] ∧ at_ < (lastOf l).1
    · exact ⟨_, _, Or.inr (Or.inl ⟨h.1, h.2.1, h.2.2, g.1, g.2, rfl, rfl⟩)⟩
    · refine ⟨_, _, Or.inr (Or.inr ⟨h.1, h.2.1, h.2.2, ?_, rfl, rfl⟩)⟩
      by_cases e : l = []
      · exact Or.inl e
      · exact Or.inr (Int.not_lt.1 (fun z => g ⟨e, z⟩))
  · exact ⟨_, _, Or.inl ⟨h, rfl, rfl⟩⟩
theorem put_one {l : List (Int × Int)} {window at_ n : Int} {l1 l2 : List (Int × Int)} {e1 e2 : Int} (h1 : PutIs l window at_ n l1 e1) (h2 : PutIs l window at_ n l2 e2) : l1 = l2 ∧ e1 = e2 := by
  rcases h1 with ⟨a, rfl, rfl⟩ | ⟨a, b, c, d, e, rfl, rfl⟩ | ⟨a, b, c, d, rfl, rfl⟩ <;> rcases h2 with ⟨a', rfl, rfl⟩ | ⟨a', b', c', d', e', rfl, rfl⟩ | ⟨a', b', c', d', rfl, rfl⟩
  · exact ⟨rfl, rfl⟩
  · exact absurd ⟨a', b', c'⟩ a
  · exact absurd ⟨a', b', c'⟩ a
  · exact absurd ⟨a, b, c⟩ a'
  · exact ⟨rfl, rfl⟩
  · rcases d' with d' | d'
    · exact absurd d' d
    · omega
  · exact absurd ⟨a, b, c⟩ a'
  · rcases d with d | d
    · exact absurd d d'
    · omega
  · exact ⟨rfl, rfl⟩
theorem put_may {l : List (Int × Int)} {window at_ n : Int} {l' : List (Int × Int)} {er : Int} (h : PutIs l window at_ n l' er) (hm : MayL l) : MayL l' := by
  rcases h with ⟨a, rfl, rfl⟩ | ⟨a, b, c, d, e, rfl, rfl⟩ | ⟨a, b, c, d, rfl, rfl⟩
  · exact hm
  · exact hm
  · refine may_app (keptL_may hm _ _) b (fun hne => ?_)
    have hk : 0 < (keptL l (at_ - window) n).length := by
      rcases Nat.eq_zero_or_pos (keptL l (at_ - window) n).length with z | z
      · exact absurd (List.eq_nil_of_length_eq_zero z) hne
      · exact z
    have hin := mk_mem (show (keptL l (at_ - window) n).length - 1 < (keptL l (at_ - window) n).length by omega)
    have hq := keptL_mem.1 hin
    have hl := may_last hm hq.1
    refine ⟨?_, hq.2.1⟩
    rcases d with d | d
    · rw [d] at hq; exact absurd hq.1 (by simp)
    · have : (lastOf (keptL l (at_ - window) n)).1 ≤ (lastOf l).1 := hl.1
      show (lastOf (keptL l (at_ - window) n)).1 ≤ at_
      omega
theorem put_len {l : List (Int × Int)} {window at_ n : Int} {l' : List (Int × Int)} {er : Int} (h : PutIs l window at_ n l' er) : l'.length ≤ l.length + 1 := by
  rcases h with ⟨a, rfl, rfl⟩ | ⟨a, b, c, d, e, rfl, rfl⟩ | ⟨a, b, c, d, rfl, rfl⟩
  · omega
  · omega
  · have := keptL_len l (at_ - window) n; simp; omega
theorem put_err {l : List (Int × Int)} {window at_ n : Int} {l' : List (Int × Int)} {er : Int} (h : PutIs l window at_ n l' er) : er = 0 ∨ er = 50 ∨ er = 51 := by
  rcases h with ⟨_, _, rfl⟩ | ⟨_, _, _, _, _, _, rfl⟩ | ⟨_, _, _, _, _, rfl⟩ <;> simp

/-- The first mark's number. -/
def LOfIs (l : List (Int × Int)) (n : Int) (b : Bool) : Prop := (MayL l ∧ l ≠ [] ∧ n = (mk l 0).2 ∧ b = true) ∨ (¬ (MayL l ∧ l ≠ []) ∧ n = 0 ∧ b = false)
theorem lof_ex (l : List (Int × Int)) : ∃ n b, LOfIs l n b := by
  by_cases h : MayL l ∧ l ≠ []
  · exact ⟨_, _, Or.inl ⟨h.1, h.2, rfl, rfl⟩⟩
  · exact ⟨_, _, Or.inr ⟨h, rfl, rfl⟩⟩
theorem lof_one {l : List (Int × Int)} {n m : Int} {b c : Bool} (h1 : LOfIs l n b) (h2 : LOfIs l m c) : n = m ∧ b = c := by
  rcases h1 with ⟨a, d, rfl, rfl⟩ | ⟨a, rfl, rfl⟩ <;> rcases h2 with ⟨a', d', rfl, rfl⟩ | ⟨a', rfl, rfl⟩
  · exact ⟨rfl, rfl⟩
  · exact absurd ⟨a, d⟩ a'
  · exact absurd ⟨a', d'⟩ a
  · exact ⟨rfl, rfl⟩
/-- A mark lies in some time. -/
def InT (l : List (Int × Int)) (from_ til : Int) (k : Nat) : Prop := from_ ≤ (mk l k).1 ∧ (mk l k).1 ≤ til
instance (l : List (Int × Int)) (from_ til : Int) (k : Nat) : Decidable (InT l from_ til k) := by unfold InT; infer_instance
/-- The number of the first mark of some time. -/
def SinceIs (l : List (Int × Int)) (window at_ n : Int) (b : Bool) : Prop :=
  (¬ (MayL l ∧ 0 ≤ window) ∧ n = 0 ∧ b = false) ∨
  (MayL l ∧ 0 ≤ window ∧ ((∃ k, k < l.length ∧ InT l (at_ - window) at_ k ∧ (∀ j, j < k → ¬ InT l (at_ - window) at_ j) ∧ n = (mk l k).2 ∧ b = true) ∨ ((∀ k, k < l.length → ¬ InT l (at_ - window) at_ k) ∧ n = 0 ∧ b = false)))
theorem first_ex (p : Nat → Prop) [DecidablePred p] : ∀ m : Nat, (∃ k, k < m ∧ p k ∧ ∀ j, j < k → ¬ p j) ∨ ∀ k, k < m → ¬ p k
  | 0 => Or.inr (fun k h => absurd h (by omega))
  | m + 1 => by
    rcases first_ex p m with ⟨k, hk, h⟩ | h
    · exact Or.inl ⟨k, by omega, h⟩
    · by_cases hm : p m
      · exact Or.inl ⟨m, by omega, hm, h⟩
      · exact Or.inr (fun k hk => by
          rcases (show k < m ∨ k = m by omega) with g | rfl
          · exact h k g
          · exact hm)
theorem since_ex (l : List (Int × Int)) (window at_ : Int) : ∃ n b, SinceIs l window at_ n b := by
  by_cases h : MayL l ∧ 0 ≤ window
  · rcases first_ex (InT l (at_ - window) at_) l.length with ⟨k, hk, h1, h2⟩ | h1
    · exact ⟨_, _, Or.inr ⟨h.1, h.2, Or.inl ⟨k, hk, h1, h2, rfl, rfl⟩⟩⟩
    · exact ⟨_, _, Or.inr ⟨h.1, h.2, Or.inr ⟨h1, rfl, rfl⟩⟩⟩
  · exact ⟨_, _, Or.inl ⟨h, rfl, rfl⟩⟩
theorem since_one {l : List (Int × Int)} {window at_ n m : Int} {b c : Bool} (h1 : SinceIs l window at_ n b) (h2 : SinceIs l window at_ m c) : n = m ∧ b = c := by
  rcases h1 with ⟨a, rfl, rfl⟩ | ⟨a, d, ⟨k, hk, h, g, rfl, rfl⟩ | ⟨h, rfl, rfl⟩⟩ <;> rcases h2 with ⟨a', rfl, rfl⟩ | ⟨a', d', ⟨k', hk', h', g', rfl, rfl⟩ | ⟨h', rfl, rfl⟩⟩
  · exact ⟨rfl, rfl⟩
  · exact absurd ⟨a', d'⟩ a
  · exact ⟨rfl, rfl⟩
  · exact absurd ⟨a, d⟩ a'
  · rcases Nat.lt_trichotomy k k' with z | rfl | z
    · exact absurd h (g' k z)
    · exact ⟨rfl, rfl⟩
    · exact absurd h' (g k' z)
  · exact absurd h (h' k hk)
  · exact ⟨rfl, rfl⟩
  · exact absurd h' (h k' hk')
  · exact ⟨rfl, rfl⟩

/-- The least number of those ahead of a place, in some time. -/
def LeastTo (l : List (Int × Int)) (from_ til : Int) (m : Nat) (n : Int) (b : Bool) : Prop :=
  ((∀ k, k < m → ¬ InT l from_ til k) ∧ n = 0 ∧ b = false) ∨ (b = true ∧ (∃ k, k < m ∧ InT l from_ til k ∧ n = (mk l k).2) ∧ ∀ k, k < m → InT l from_ til k → n ≤ (mk l k).2)
theorem least_zero (l : List (Int × Int)) (from_ til : Int) : LeastTo l from_ til 0 0 false := Or.inl ⟨fun k h => absurd h (by omega), rfl, rfl⟩
theorem least_skip {l : List (Int × Int)} {from_ til : Int} {m : Nat} {n : Int} {b : Bool} (h : LeastTo l from_ til m n b) (hs : ¬ InT l from_ til m ∨ (b = true ∧ n ≤ (mk l m).2)) : LeastTo l from_ til (m + 1) n b := by
  rcases h with ⟨a, rfl, rfl⟩ | ⟨rfl, ⟨k, hk, h1, h2⟩, h3⟩
  · refine Or.inl ⟨fun k hk => ?_, rfl, rfl⟩
    rcases (show k < m ∨ k = m by omega) with g | rfl
    · exact a k g
    · rcases hs with hs | hs
      · exact hs
      · cases hs.1
  · refine Or.inr ⟨rfl, ⟨k, by omega, h1, h2⟩, fun j hj hin => ?_⟩
    rcases (show j < m ∨ j = m by omega) with g | rfl
    · exact h3 j g hin
    · rcases hs with hs | hs
      · exact absurd hin hs
      · exact hs.2
theorem least_take {l : List (Int × Int)} {from_ til : Int} {m : Nat} {n : Int} {b : Bool} (h : LeastTo l from_ til m n b) (hin : InT l from_ til m) (hs : b = false ∨ (mk l m).2 < n) : LeastTo l from_ til (m + 1) (mk l m).2 true := by
  refine Or.inr ⟨rfl, ⟨m, by omega, hin, rfl⟩, fun j hj hj2 => ?_⟩
  rcases (show j < m ∨ j = m by omega) with g | rfl
  · rcases h with ⟨a, rfl, rfl⟩ | ⟨rfl, _, h3⟩
    · exact absurd hj2 (a j g)
    · have := h3 j g hj2
      rcases hs with hs | hs
      · cases hs
      · omega
  · exact Int.le_refl _
theorem least_one {l : List (Int × Int)} {from_ til : Int} {m : Nat} {n k : Int} {b c : Bool} (h1 : LeastTo l from_ til m n b) (h2 : LeastTo l from_ til m k c) : n = k ∧ b = c := by
  rcases h1 with ⟨a, rfl, rfl⟩ | ⟨rfl, ⟨i, hi, hin, rfl⟩, h⟩ <;> rcases h2 with ⟨a', rfl, rfl⟩ | ⟨rfl, ⟨i', hi', hin', rfl⟩, h'⟩
  · exact ⟨rfl, rfl⟩
  · exact absurd hin' (a i' hi')
  · exact absurd hin (a' i hi)
  · exact ⟨by have := h i' hi' hin'; have := h' i hi hin; omega, rfl⟩
theorem least_ex (l : List (Int × Int)) (from_ til : Int) : ∀ m, ∃ n b, LeastTo l from_ til m n b
  | 0 => ⟨_, _, least_zero l from_ til⟩
  | m + 1 => by
    obtain ⟨n, b, h⟩ := least_ex l from_ til m
    by_cases hin : InT l from_ til m
    · by_cases hs : b = false ∨ (mk l m).2 < n
      · exact ⟨_, _, least_take h hin hs⟩
      · exact ⟨_, _, least_skip h (Or.inr (by cases b <;> simp at hs ⊢; omega))⟩
    · exact ⟨_, _, least_skip h (Or.inl hin)⟩
/-- Of marks that may be the first one of some time is the least one. -/
theorem since_least {l : List (Int × Int)} {window at_ n : Int} {b : Bool} (h : SinceIs l window at_ n b) (hm : MayL l) (hw : 0 ≤ window) : LeastTo l (at_ - window) at_ l.length n b := by
  rcases h with ⟨a, _, _⟩ | ⟨_, _, ⟨k, hk, h, g, rfl, rfl⟩ | ⟨h, rfl, rfl⟩⟩
  · exact absurd ⟨hm, hw⟩ a
  · refine Or.inr ⟨rfl, ⟨k, hk, h, rfl⟩, fun j hj hin => ?_⟩
    have : k ≤ j := by
      rcases Nat.lt_or_ge j k with z | z
      · exact absurd hin (g j z)
      · exact z
    exact (may_le hm this hj).2
  · exact Or.inl ⟨h, rfl, rfl⟩
/-- A lesser time has no lesser number. -/
theorem since_wide {l : List (Int × Int)} {a c at_ n m : Int} {b d : Bool} (h1 : SinceIs l a at_ n b) (h2 : SinceIs l c at_ m d) (hm : MayL l) (ha : 0 ≤ a) (hac : a ≤ c) : b = true → d = true ∧ m ≤ n := by
  intro hb
  have e1 := since_least h1 hm ha
  have e2 := since_least h2 hm (by omega)
  rcases e1 with ⟨_, _, rfl⟩ | ⟨_, ⟨k, hk, hin, rfl⟩, _⟩
  · cases hb
  · have hin2 : InT l (at_ - c) at_ k := by unfold InT at *; omega
    rcases e2 with ⟨g, _, _⟩ | ⟨rfl, _, g⟩
    · exact absurd hin2 (g k hk)
    · exact ⟨rfl, g k hk hin2⟩

/-- What holds of marks, and of all that were put and not refused, of one window. -/
def LInv (l all : List (Int × Int)) (window : Int) : Prop :=
  (l = [] ∧ all = []) ∨
  (MayL l ∧ l ≠ [] ∧ all ≠ [] ∧ lastOf l = lastOf all ∧ (∀ m ∈ l, m ∈ all ∧ (lastOf all).1 - window ≤ m.1) ∧ (∀ a ∈ all, IsTime a.1 ∧ a.1 ≤ (lastOf all).1) ∧ ∀ a ∈ all, (lastOf all).1 - window ≤ a.1 → ∃ m ∈ l, a.1 ≤ m.1 ∧ m.2 ≤ a.2)
theorem linv_may {l all : List (Int × Int)} {window : Int} (h : LInv l all window) : MayL l := by
  rcases h with ⟨rfl, _⟩ | h
  · exact may_nil
  · exact h.1
theorem linv_put {l all l' : List (Int × Int)} {window at_ n er : Int} (hw : 0 ≤ window) (h : LInv l all window) (hp : PutIs l window at_ n l' er) : LInv l' (if er = 0 then all ++ [(at_, n)] else all) window := by
  rcases hp with ⟨a, rfl, rfl⟩ | ⟨a, b, c, d, e, rfl, rfl⟩ | ⟨hm, ht, _, hl, rfl, rfl⟩
  · rw [if_neg (by decide)]; exact h
  · rw [if_neg (by decide)]; exact h
  · rw [if_pos rfl]
    have hp : PutIs l window at_ n (keptL l (at_ - window) n ++ [(at_, n)]) 0 := Or.inr (Or.inr ⟨hm, ht, hw, hl, rfl, rfl⟩)
    refine Or.inr ⟨put_may hp hm, by simp, by simp, by rw [lastOf_app, lastOf_app], ?_, ?_, ?_⟩
    · intro m hmem
      rw [lastOf_app]
      simp only [List.mem_append, List.mem_singleton] at hmem
      rcases hmem with hmem | rfl
      · have q := keptL_mem.1 hmem
        refine ⟨?_, q.2.2⟩
        rcases h with ⟨rfl, _⟩ | h
        · exact absurd q.1 (by simp)
        · exact List.mem_append_left _ (h.2.2.2.2.1 m q.1).1
      · exact ⟨by simp, by show at_ - window ≤ at_; omega⟩
    · intro a ha
      rw [lastOf_app]
      simp only [List.mem_append, List.mem_singleton] at ha
      rcases ha with ha | rfl
      · rcases h with ⟨_, rfl⟩ | h
        · exact absurd ha (by simp)
        · have q := h.2.2.2.2.2.1 a ha
          have hl2 : (lastOf l).1 ≤ at_ := by
            rcases hl with hl | hl
            · exact absurd hl h.2.1
            · exact hl
          rw [h.2.2.2.1] at hl2
          exact ⟨q.1, by show a.1 ≤ at_; omega⟩
      · exact ⟨ht, Int.le_refl _⟩
    · intro a ha hin
      rw [lastOf_app] at hin
      simp only [List.mem_append, List.mem_singleton] at ha
      rcases ha with ha | rfl
      · rcases h with ⟨_, rfl⟩ | h
        · exact absurd ha (by simp)
        · have hl2 : (lastOf l).1 ≤ at_ := by
            rcases hl with hl | hl
            · exact absurd hl h.2.1
            · exact hl
          rw [h.2.2.2.1] at hl2
          have q := h.2.2.2.2.2.1 a ha
          obtain ⟨m, hm1, hm2, hm3⟩ := h.2.2.2.2.2.2 a ha (by have : (at_, n).1 - window ≤ a.1 := hin; simp at this; omega)
          by_cases g : m.2 < n
          · refine ⟨m, List.mem_append_left _ (keptL_mem.2 ⟨hm1, g, ?_⟩), hm2, hm3⟩
            have : (at_, n).1 - window ≤ a.1 := hin
            simp at this; omega
          · exact ⟨(at_, n), by simp, by show a.1 ≤ at_; omega, by show n ≤ a.2; omega⟩
      · exact ⟨(at_, n), by simp, Int.le_refl _, Int.le_refl _⟩
/-- The least one of the marks is that of all that were put, in that time. -/
theorem linv_of {l all : List (Int × Int)} {window n : Int} {b : Bool} (h : LInv l all window) (ho : LOfIs l n b) (t : Int) (ht : all ≠ [] → t = (lastOf all).1) : LeastTo all (t - window) t all.length n b := by
  rcases h with ⟨rfl, rfl⟩ | ⟨hm, hl, ha, he, h1, h2, h3⟩
  · rcases ho with ⟨_, z, _, _⟩ | ⟨_, rfl, rfl⟩
    · exact absurd rfl z
    · exact Or.inl ⟨fun k h => absurd h (by simp), rfl, rfl⟩
  · rw [ht ha]
    rcases ho with ⟨_, _, rfl, rfl⟩ | ⟨z, _, _⟩
    · have hlen : 0 < l.length := by
        rcases Nat.eq_zero_or_pos l.length with z | z
        · exact absurd (List.eq_nil_of_length_eq_zero z) hl
        · exact z
      have q := h1 _ (mk_mem hlen)
      obtain ⟨k, hk, ek⟩ := mk_of_mem q.1
      have q2 := h2 _ q.1
      refine Or.inr ⟨rfl, ⟨k, hk, ?_, by rw [ek]⟩, fun j hj hin => ?_⟩
      · unfold InT; rw [ek]; exact ⟨q.2, q2.2⟩
      · obtain ⟨m, hm1, hm2, hm3⟩ := h3 _ (mk_mem hj) hin.1
        obtain ⟨i, hi, rfl⟩ := mk_of_mem hm1
        have := (may_le hm (Nat.zero_le i) hi).2
        omega
    · exact absurd ⟨hm, hl⟩ z
/-- Of a window of all time all count. -/
theorem linv_all {l all : List (Int × Int)} {n : Int} {b : Bool} (h : LInv l all 1099511627776) (ho : LOfIs l n b) : LeastTo all 0 1099511627776 all.length n b := by
  have e := linv_of h ho (lastOf all).1 (fun _ => rfl)
  have tm : ∀ k, k < all.length → IsTime (mk all k).1 ∧ (mk all k).1 ≤ (lastOf all).1 ∧ (lastOf all).1 ≤ 1099511627776 := fun k hk => by
    rcases h with ⟨_, rfl⟩ | ⟨_, _, ha, _, _, h2, _⟩
    · exact absurd hk (by simp)
    · have q := h2 _ (mk_mem hk)
      have hlen : 0 < all.length := by omega
      have r := h2 (lastOf all) (mk_mem (by omega))
      exact ⟨q.1, q.2, r.1.2⟩
  have hin : ∀ k, k < all.length → (InT all ((lastOf all).1 - 1099511627776) (lastOf all).1 k ↔ InT all 0 1099511627776 k) := fun k hk => by
    have q := tm k hk
    unfold InT; unfold IsTime at q; omega
  rcases e with ⟨a, rfl, rfl⟩ | ⟨rfl, ⟨k, hk, h1, h2⟩, h3⟩
  · exact Or.inl ⟨fun k hk hi => a k hk ((hin k hk).2 hi), rfl, rfl⟩
  · exact Or.inr ⟨rfl, ⟨k, hk, (hin k hk).1 h1, h2⟩, fun j hj hi => h3 j hj ((hin j hj).2 hi)⟩
/-- Of a window of 0 the last time alone counts. -/
theorem linv_none {l all : List (Int × Int)} (h : LInv l all 0) : (l = [] ↔ all = []) ∧ ∀ k, k < l.length → all ≠ [] ∧ (mk l k).1 = (lastOf all).1 := by
  rcases h with ⟨rfl, rfl⟩ | ⟨hm, hl, ha, he, h1, h2, h3⟩
  · exact ⟨by simp, fun k h => absurd h (by simp)⟩
  · refine ⟨⟨fun e => absurd e hl, fun e => absurd e ha⟩, fun k hk => ⟨ha, ?_⟩⟩
    have q := h1 _ (mk_mem hk)
    have r := h2 _ q.1
    omega
/-- Two windows refuse the same. -/
theorem linv_same {l1 l2 all l1' l2' : List (Int × Int)} {w1 w2 at_ n e1 e2 : Int} (h1 : LInv l1 all w1) (h2 : LInv l2 all w2) (g1 : 0 ≤ w1) (g2 : 0 ≤ w2) (p1 : PutIs l1 w1 at_ n l1' e1) (p2 : PutIs l2 w2 at_ n l2' e2) : e1 = e2 := by
  have m1 := linv_may h1
  have m2 := linv_may h2
  have key : (l1 ≠ [] ↔ l2 ≠ []) ∧ (l1 ≠ [] → lastOf l1 = lastOf l2) := by
    rcases h1 with ⟨rfl, ra⟩ | ⟨_, a, b, c, _⟩ <;> rcases h2 with ⟨rfl, rb⟩ | ⟨_, a', b', c', _⟩
    · simp
    · exact absurd ra b'
    · exact absurd rb b
    · exact ⟨⟨fun _ => a', fun _ => a⟩, fun _ => by rw [c, c']⟩
  rcases p1 with ⟨a, rfl, rfl⟩ | ⟨a, b, c, d, e, rfl, rfl⟩ | ⟨a, b, c, d, rfl, rfl⟩ <;> rcases p2 with ⟨a', rfl, rfl⟩ | ⟨a', b', c', d', e', rfl, rfl⟩ | ⟨a', b', c', d', rfl, rfl⟩
  · rfl
  · exact absurd ⟨m1, b', g1⟩ a
  · exact absurd ⟨m1, b', g1⟩ a
  · exact absurd ⟨m2, b, g2⟩ a'
  · rfl
  · rcases d' with d' | d'
    · exact absurd d' (key.1.1 d)
    · rw [← key.2 d] at d'; omega
  · exact absurd ⟨m2, b, g2⟩ a'
  · rcases d with d | d
    · exact absurd d (key.1.2 d')
    · rw [key.2 (key.1.2 d')] at d; omega
  · rfl

/-- Marks that are all so much later. -/
def laterL (by_ : Int) (l : List (Int × Int)) : List (Int × Int) := l.map (fun m => (m.1 + by_, m.2))
theorem later_mk {by_ : Int} {l : List (Int × Int)} {k : Nat} (h : k < l.length) : mk (laterL by_ l) k = ((mk l k).1 + by_, (mk l k).2) := mk_map h
theorem later_len (by_ : Int) (l : List (Int × Int)) : (laterL by_ l).length = l.length := by simp [laterL]
theorem later_may {by_ : Int} {l : List (Int × Int)} (h0 : 0 ≤ by_) (h1 : by_ ≤ 4294967296) (ht : ∀ m ∈ l, 0 ≤ m.1 ∧ m.1 ≤ 4294967296) : MayL (laterL by_ l) ↔ MayL l := by
  constructor
  · intro h k hk
    have a := h k (by rw [later_len]; exact hk)
    have t := ht _ (mk_mem hk)
    refine ⟨by unfold IsTime; omega, fun h0 => ?_⟩
    have b := a.2 h0
    rw [later_mk hk, later_mk (show k - 1 < l.length by omega)] at b
    exact ⟨by have := b.1; simp at this; omega, b.2⟩
  · intro h k hk
    rw [later_len] at hk
    have a := h k hk
    have t := ht _ (mk_mem hk)
    rw [later_mk hk]
    refine ⟨by unfold IsTime; simp; omega, fun h0 => ?_⟩
    rw [later_mk (show k - 1 < l.length by omega)]
    exact ⟨by have := (a.2 h0).1; simp; omega, (a.2 h0).2⟩
theorem later_kept (by_ from_ n : Int) (l : List (Int × Int)) : keptL (laterL by_ l) (from_ + by_) n = laterL by_ (keptL l from_ n) := by
  unfold keptL laterL
  rw [List.filter_map]
  congr 1
  apply List.filter_congr
  intro m _
  simp
theorem later_last {by_ : Int} {l : List (Int × Int)} (h : l ≠ []) : (lastOf (laterL by_ l)).1 = (lastOf l).1 + by_ := by
  have hlen : 0 < l.length := by
    rcases Nat.eq_zero_or_pos l.length with z | z
    · exact absurd (List.eq_nil_of_length_eq_zero z) h
    · exact z
  unfold lastOf
  rw [later_len, later_mk (by omega)]
theorem later_put {by_ window at_ n er : Int} {l l' : List (Int × Int)} (h0 : 0 ≤ by_) (h1 : by_ ≤ 4294967296) (ht : ∀ m ∈ l, 0 ≤ m.1 ∧ m.1 ≤ 4294967296) (ha : 0 ≤ at_ ∧ at_ ≤ 4294967296) (hp : PutIs l window at_ n l' er) :
    PutIs (laterL by_ l) window (at_ + by_) n (laterL by_ l') er ∧ ∀ m ∈ l', 0 ≤ m.1 ∧ m.1 ≤ 4294967296 := by
  have hm := later_may h0 h1 ht
  have hA : IsTime at_ := by unfold IsTime; omega
  have hB : IsTime (at_ + by_) := by unfold IsTime; omega
  rcases hp with ⟨a, rfl, rfl⟩ | ⟨a, b, c, d, e, rfl, rfl⟩ | ⟨a, b, c, d, rfl, rfl⟩
  · exact ⟨Or.inl ⟨fun z => a ⟨hm.1 z.1, hA, z.2.2⟩, rfl, rfl⟩, ht⟩
  · refine ⟨Or.inr (Or.inl ⟨hm.2 a, hB, c, by simpa [laterL] using d, by rw [later_last d]; omega, rfl, rfl⟩), ht⟩
  · refine ⟨Or.inr (Or.inr ⟨hm.2 a, hB, c, ?_, ?_, rfl⟩), ?_⟩
    · rcases d with d | d
      · exact Or.inl (by rw [d]; rfl)
      · by_cases z : l = []
        · exact Or.inl (by rw [z]; rfl)
        · exact Or.inr (by rw [later_last z]; omega)
    · rw [show at_ + by_ - window = at_ - window + by_ by omega, later_kept]
      simp [laterL]
    · intro m hmem
      simp only [List.mem_append, List.mem_singleton] at hmem
      rcases hmem with hmem | rfl
      · exact ht m (keptL_mem.1 hmem).1
      · exact ha

/-- Some of those ahead, in order: what is left til be found. -/
theorem seek_no {l : List (Int × Int)} {from_ n : Int} {i j : Nat} (h : keptL (l.drop j) from_ n = (keptL l from_ n).drop i) (hi : i < (keptL l from_ n).length) (hj : j < l.length) (hne : mk l j ≠ mk (keptL l from_ n) i) : keptL (l.drop (j + 1)) from_ n = (keptL l from_ n).drop i := by
  have e : l.drop j = mk l j :: l.drop (j + 1) := by
    rw [List.drop_eq_getElem_cons hj]; congr 1
    have q := mk_lt hj; rw [List.getElem?_eq_getElem hj] at q; exact Option.some.inj q
  have e2 : (keptL l from_ n).drop i = mk (keptL l from_ n) i :: (keptL l from_ n).drop (i + 1) := by
    rw [List.drop_eq_getElem_cons hi]; congr 1
    have q := mk_lt hi; rw [List.getElem?_eq_getElem hi] at q; exact Option.some.inj q
  rw [← h, e]
  unfold keptL
  rw [List.filter_cons]
  by_cases g : (decide ((mk l j).2 < n) && decide (from_ ≤ (mk l j).1)) = true
  · exfalso
    rw [e, e2] at h
    unfold keptL at h
    rw [List.filter_cons, if_pos g] at h
    exact hne (List.cons.inj h).1
  · rw [if_neg g]
theorem seek_yes {l : List (Int × Int)} {from_ n : Int} {i j : Nat} (h : keptL (l.drop j) from_ n = (keptL l from_ n).drop i) (hi : i < (keptL l from_ n).length) (hj : j < l.length) (he : mk l j = mk (keptL l from_ n) i) : keptL (l.drop (j + 1)) from_ n = (keptL l from_ n).drop (i + 1) := by
  have e : l.drop j = mk l j :: l.drop (j + 1) := by
    rw [List.drop_eq_getElem_cons hj]; congr 1
    have q := mk_lt hj; rw [List.getElem?_eq_getElem hj] at q; exact Option.some.inj q
  have e2 : (keptL l from_ n).drop i = mk (keptL l from_ n) i :: (keptL l from_ n).drop (i + 1) := by
    rw [List.drop_eq_getElem_cons hi]; congr 1
    have q := mk_lt hi; rw [List.getElem?_eq_getElem hi] at q; exact Option.some.inj q
  have g : (decide ((mk l j).2 < n) && decide (from_ ≤ (mk l j).1)) = true := by
    rw [he]
    have q := keptL_mem.1 (mk_mem hi)
    simp [q.2.1, q.2.2]
  rw [e, e2] at h
  unfold keptL at h
  rw [List.filter_cons, if_pos g] at h
  exact (List.cons.inj h).2
theorem seek_more {l : List (Int × Int)} {from_ n : Int} {i j : Nat} (h : keptL (l.drop j) from_ n = (keptL l from_ n).drop i) (hi : i < (keptL l from_ n).length) : j < l.length := by
  rcases Nat.lt_or_ge j l.length with z | z
  · exact z
  · rw [List.drop_eq_nil_of_le z] at h
    have := congrArg List.length h
    simp [keptL] at this
    unfold keptL at hi
    omega
end Go.Proofs.Ytpbchcpbjflnoaa
