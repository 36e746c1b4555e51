/-
  A region that draws its order, whose head only reads and calls, and whose tail writes in one forced order: the head in the order of the text, over the worlds that have kept a world, then the tail.
-/
import Derived.Test.YtbpdimogigcacaaRoom
import Derived.StillTail
namespace Go.Proofs.Ytbpdimogigcacaa
open Go.RowKit

section
variable {P : Program} {C : World → Prop}

/-- How many have not come up. -/
def unl (a : Array Bool) : Nat := a.toList.count false
theorem unl_set {a : Array Bool} {i : Nat} (h : a.getD i true = false) : unl (a.setIfInBounds i true) + 1 = unl a := by
  have hi : i < a.size := by
    rcases Nat.lt_or_ge i a.size with h' | h'
    · exact h'
    · simp [Array.getElem?_eq_none h'] at h
  have hv : a[i] = false := by simpa [hi] using h
  have hl : i < a.toList.length := by simpa using hi
  have hc := List.count_set (l := a.toList) (a := true) (b := false) hl
  have hm : 0 < a.toList.count false := List.count_pos_iff.2 (by rw [← hv]; simp)
  have hv' : a.toList[i]'hl = false := by simpa using hv
  unfold unl
  rw [Array.toList_setIfInBounds, hc, hv']
  simp only [beq_self_eq_true, if_true, show (true == false) = false from rfl, Bool.false_eq_true, if_false]
  omega
theorem unl_zero {a : Array Bool} (h : unl a = 0) (j : Nat) (hj : j < a.size) : a[j] = true := by
  unfold unl at h
  have := List.count_eq_zero.1 h
  cases hv : a[j] with
  | true => rfl
  | false => exact absurd (by rw [← hv]; simp) this
theorem unl_least {a : Array Bool} : ∀ j, a.getD j true = false → ∃ k, k ≤ j ∧ a.getD k true = false ∧ ∀ i, i < k → a.getD i true = true := by
  intro j
  induction j using Nat.strongRecOn with
  | _ j ih =>
    intro h
    by_cases hx : ∃ i, i < j ∧ a.getD i true = false
    · obtain ⟨i, hi, hf⟩ := hx
      obtain ⟨k, hk, h1, h2⟩ := ih i hi hf
      exact ⟨k, by omega, h1, h2⟩
    · refine ⟨j, Nat.le_refl _, h, fun i hi => ?_⟩
      cases hv : a.getD i true with
      | true => rfl
      | false => exact absurd ⟨i, hi, hv⟩ hx
theorem unl_some {a : Array Bool} {f : Nat} (h : unl a = f + 1) : ∃ j, j < a.size ∧ a.getD j true = false := by
  unfold unl at h
  have hm : false ∈ a.toList := List.count_pos_iff.1 (by omega)
  obtain ⟨j, hj, he⟩ := List.getElem_of_mem hm
  have hj' : j < a.size := by simpa using hj
  exact ⟨j, hj', by simp at he; simp [hj', he]⟩

/-- The head's edges point down, and its guards lie in it. -/
def lowB (ops : Array Oper) (n : Nat) : Bool :=
  (List.range n).all fun i => match ops[i]? with
    | some o => (o.after.all fun e => decide (e.on < i)) && (match o.guard with | some (g, _) => decide (g < n) | none => true)
    | none => true
theorem lowB_spec {ops : Array Oper} {n i : Nat} {o : Oper} (h : lowB ops n = true) (hi : i < n) (ho : ops[i]? = some o) : (∀ e ∈ o.after, e.on < i) ∧ ∀ g b, o.guard = some (g, b) → g < n := by
  have h1 := List.all_eq_true.1 h i (List.mem_range.2 hi)
  simp only [ho, Bool.and_eq_true] at h1
  refine ⟨fun e he => ?_, fun g b hg => ?_⟩
  · have := Array.all_eq_true_iff_forall_mem.1 h1.1 e he
    simpa using this
  · have := h1.2
    simp only [hg] at this
    simpa using this

variable {ops H : Array Oper} {n : Nat}

theorem wanted_head {o : Oper} {t : Array Value} (hH : ∀ j, j < n → H[j]? = ops[j]?) (hg : ∀ g b, o.guard = some (g, b) → g < n) : Region.wanted o (yielded H t) = Region.wanted o (yielded ops t) := by
  unfold Region.wanted
  cases h : o.guard with
  | none => rfl
  | some p =>
    obtain ⟨g, b⟩ := p
    simp only [yielded, hH g (hg g b h)]

/-- The head's orders among all of them. -/
theorem head_sim {Q : Act → Prop} {Q' : Exit → Act → World → Prop} {g : Nat} (hs : Region.sinkB .any ops n = true) (hc : Region.chainB .any ops n = true) (hn : n < ops.size) (hH : ∀ j, j < n → H[j]? = ops[j]?) (hl : lowB ops n = true)
    (hQ : ∀ (ls : Array Bool) (a : Act) (w : World), ls.size = ops.size → (∀ j, j < n → ls.getD j false = true) → (∀ j, n ≤ j → j < ops.size → ls.getD j true = false) → C w → Q a → wpAny P .any ops Q' g ls a w) :
    ∀ (f : Nat) (lh ls : Array Bool) (a : Act) (w : World), lh.size = n → HeadInv .any ops n ls → (∀ j, j < n → ls.getD j true = lh.getD j true) → unl lh = f → C w → wpAnyQ P .any H C Q f lh a → wpAny P .any ops Q' (f + g) ls a w
  | 0, lh, ls, a, w, h1, inv, h2, h3, hw, h => by
    rw [Nat.zero_add]
    refine hQ ls a w inv.size (fun j hj => ?_) inv.tail hw h.2
    have e := unl_zero h3 j (by omega)
    have := h2 j hj
    have hj' : j < ls.size := by rw [inv.size]; omega
    have hj2 : j < lh.size := by omega
    simp [hj', hj2, e] at this ⊢
    exact this
  | f + 1, lh, ls, a, w, h1, inv, h2, h3, hw, h => by
    rw [show f + 1 + g = (f + g) + 1 by omega]
    obtain ⟨j0, hj0, hf0⟩ := unl_some h3
    obtain ⟨k, hk, hkf, hkl⟩ := unl_least j0 hf0
    have hkn : k < n := by omega
    have hkf' : ls.getD k true = false := by rw [h2 k hkn]; exact hkf
    have look : ∀ i o, i < n → ops[i]? = some o → ∀ e ∈ o.after, e.on < n := fun i o hi ho e he => by
      have := (lowB_spec hl hi ho).1 e he; omega
    have same : ∀ j, j < n → ls.getD j false = lh.getD j false := fun j hj => by
      have := h2 j hj
      have hj' : j < ls.size := by rw [inv.size]; omega
      have hj2 : j < lh.size := by omega
      simpa [hj', hj2] using this
    have rk : k ∈ Region.ready .any ops ls := by
      have hks : k < ops.size := by omega
      refine mem_ready.2 ⟨hkf', ops[k], by simp [hks], fun e he _ => ?_⟩
      have hlt := (lowB_spec hl hkn (o := ops[k]) (by simp [hks])).1 e he
      have := hkl e.on hlt
      rw [same _ (by omega)]
      have hj2 : e.on < lh.size := by omega
      simpa [hj2] using this
    refine ⟨fun h0 => absurd rk (by rw [h0]; simp), fun i hi => ?_⟩
    have hin : i < n := by
      rcases Nat.lt_or_ge i n with h' | h'
      · exact h'
      · exact absurd hi (tail_waits hs hc hn inv _ k rfl hkn hkf' i h')
    obtain ⟨hu, o, ho, hall⟩ := mem_ready.1 hi
    have hHi : H[i]? = some o := by rw [hH i hin, ho]
    have hi' : i ∈ Region.ready .any H lh := mem_ready.2 ⟨by rw [← h2 i hin]; exact hu, o, hHi, fun e he hb => by rw [← same _ (look i o hin ho e he)]; exact hall e he hb⟩
    have hq := h.2 i hi'
    have next : ∀ (a' : Act) (w' : World), C w' → wpAnyQ P .any H C Q f (lh.setIfInBounds i true) a' → wpAny P .any ops Q' (f + g) (ls.setIfInBounds i true) a' w' := fun a' w' hw' h' => by
      refine head_sim hs hc hn hH hl hQ f _ _ a' w' (by simp [h1]) (inv.set hi hin) (fun j hj => ?_) ?_ hw' h'
      · by_cases hij : i = j
        · subst hij
          have hj' : i < ls.size := by rw [inv.size]; omega
          have hj2 : i < lh.size := by omega
          simp [hj', hj2]
        · rw [getD_set_ne true hij, getD_set_ne true hij]; exact h2 j hj
      · have := unl_set (a := lh) (i := i) (by rw [← h2 i hin]; exact hu)
        omega
    unfold qOp at hq
    unfold wpOp
    simp only [hHi] at hq
    simp only [ho]
    rw [wanted_head hH (lowB_spec hl hin ho).2] at hq
    split
    · rename_i hw1; simp only [hw1, if_true] at hq; exact .inl (Oper.wp_of_quiet hw next hq)
    · rename_i hw1; simp only [hw1] at hq; exact next _ _ hw hq

/-- The tail, whose order is forced. -/
theorem seq_any {Q' : Exit → Act → World → Prop} {md : Region.Mode} : ∀ (l : List Oper) (k : Nat) (ls : Array Bool) (a : Act) (w : World), (∀ j, j < l.length → l[j]? = ops[k + j]?) →
    Region.seqB md ops l.length k ls = true → wpList P ops Q' l a w → wpAny P md ops Q' l.length ls a w
  | [], _, _, _, _, _, hB, h => ⟨by simpa [Region.seqB] using hB, h⟩
  | o :: l, k, ls, a, w, hl, hB, h => by
    have h0 : ops[k]? = some o := by simpa using (hl 0 (by simp)).symm
    simp only [List.length_cons, Region.seqB, Bool.and_eq_true, decide_eq_true_eq] at hB
    refine ⟨fun h1 => absurd h1 (by rw [hB.1]; simp), fun i hi => ?_⟩
    obtain rfl : i = k := by rw [hB.1] at hi; simpa using hi
    have hw : wpOp P ops Q' i (wpList P ops Q' l) a w := by unfold wpOp; simp only [h0]; exact h
    exact wpOp_mono (fun a' w' h' => seq_any l (i + 1) _ a' w' (fun j hj => by have := hl (j + 1) (by simp; omega); simpa [Nat.add_assoc, Nat.add_comm 1 j] using this) hB.2 h') hw

/-- All that is asked of the region's text. -/
def tailB (l : List Oper) (n : Nat) : Bool :=
  Region.lexB .any (l.take n).toArray && decide (n < l.length) && Region.sinkB .any l.toArray n && Region.chainB .any l.toArray n && lowB l.toArray n && Region.seqB .any l.toArray (l.length - n) n (List.replicate n true ++ List.replicate (l.length - n) false).toArray

theorem wp_region_tail {id : Nat} {Q : Exit → Act → World → Prop} {a : Act} {w : World} {l : List Oper} (n : Nat) (hm : P.follows .mixedOrders = true) (hB : tailB l n = true) (hC : C { w with drawn := w.drawn + 1 })
    (h : wpQuiet P (l.take n).toArray C (fun a' => ∀ w', C w' → wpList P l.toArray Q (l.drop n) a' w') (l.take n) a) : (Code.region id l.toArray true).wp P Q a w := by
  simp only [tailB, Bool.and_eq_true, decide_eq_true_eq] at hB
  obtain ⟨⟨⟨⟨⟨hlex, hn⟩, hs⟩, hc⟩, hl⟩, hq⟩ := hB
  simp only [Region.lexB, Bool.and_eq_true] at hlex
  have hlen : (l.take n).length = n := by simp; omega
  have H0 := wpAnyQ_lex (C := C) (md := .any) hlex.1 (l.take n) 0 (Array.replicate (l.take n).toArray.size false) a (by simp) (by simpa using hlex.2) h
  rw [hlen] at H0
  refine wp_region_any hm ?_
  have hgd : ∀ j, (Array.replicate l.toArray.size false).getD j false = false := fun j => getD_replicate_false _ _
  have inv0 : HeadInv .any l.toArray n (Array.replicate l.toArray.size false) :=
    ⟨by simp, fun j oj _ hl' => (by rw [hgd] at hl'; cases hl'), fun t _ ht => getD_in (by simpa using ht) (hgd t)⟩
  have := head_sim (P := P) (C := C) (ops := l.toArray) (H := (l.take n).toArray) (n := n) (Q' := Q) (g := l.length - n) hs hc (by simpa using hn) (fun j hj => by simp [hj]) hl
    (fun ls a' w' z1 z2 z3 hw' hq' => by
      have e : ls = (List.replicate n true ++ List.replicate (l.length - n) false).toArray := by
        apply Array.ext
        · simp [z1]; omega
        · intro i h1 h2
          rcases Nat.lt_or_ge i n with hi | hi
          · have := z2 i hi
            simp [h1] at this
            simp [hi, this]
          · have := z3 i hi (by rw [← z1]; exact h1)
            simp [h1] at this
            simp [List.getElem_append, Nat.not_lt.2 hi, this]
      rw [e]
      have hd : (l.drop n).length = l.length - n := by simp
      have := seq_any (P := P) (ops := l.toArray) (Q' := Q) (md := .any) (l.drop n) n (List.replicate n true ++ List.replicate (l.length - n) false).toArray a' w' (fun j _ => by simp [List.getElem?_drop]) (by rw [hd]; exact hq) (hq' w' hw')
      rwa [hd] at this)
    n (Array.replicate (l.take n).toArray.size false) (Array.replicate l.toArray.size false) a { w with drawn := w.drawn + 1 } (by simp; omega) inv0
    (fun j hj => by simp [Array.getD, show j < l.length by omega, show j < min n l.length by omega]) (by simp [unl]; omega) hC H0
  rw [show n + (l.length - n) = l.length by omega] at this
  simpa using this

theorem wp_region_kept_tail {id : Nat} {Q : Exit → Act → World → Prop} {a : Act} {W : World} {l : List Oper} (n : Nat) (hm : P.follows .mixedOrders = true) (hB : tailB l n = true)
    (h : wpQuiet P (l.take n).toArray (fun w' => ∃ p : KW W, w' = p.w) (fun a' => ∀ w', (∃ p : KW W, w' = p.w) → wpList P l.toArray Q (l.drop n) a' w') (l.take n) a) : (Code.region id l.toArray true).wp P Q a W :=
  wp_region_tail (C := fun w' => ∃ p : KW W, w' = p.w) n hm hB ⟨⟨W.drew, (Kept.refl _).drew⟩, rfl⟩ h
end
end Go.Proofs.Ytbpdimogigcacaa
