/-
  The same as Tail, with a tail whose order is forced but for values that are moved: these may come up whenever they like.
-/
import Derived.Test.YtbpdimogigcacaaTail
import Derived.Orders
namespace Go.Proofs.Ytbpdimogigcacaa
open Go.RowKit

section
variable {P : Program} {C : World → Prop} {ops H : Array Oper} {n : Nat}

/-- All of the head comes ahead of its last one, and all behind it waits for that, or for one behind it. -/
def pivotB (md : Region.Mode) (ops : Array Oper) (n : Nat) : Bool :=
  decide (0 < n) && Region.sinkB md ops (n - 1) && (List.range ops.size).all fun t => decide (t < n) || Region.waitsFor md ops t (n - 1) || (List.range t).any fun j => decide (n ≤ j) && Region.waitsFor md ops t j
theorem pivot_listed {md : Region.Mode} {m : Nat} {listed : Array Bool} (hs : Region.sinkB md ops m = true) (hc : ∀ j oj, ops[j]? = some oj → listed.getD j false = true → ∀ e ∈ oj.after, Region.binds md e = true → listed.getD e.on false = true) (hm : listed.getD m false = true) :
    ∀ (d k : Nat), m - k = d → k < m → listed.getD k false = true := by
  intro d
  induction d using Nat.strongRecOn with
  | _ d ih =>
    intro k hd hk
    have h1 := List.all_eq_true.1 hs k (List.mem_range.2 hk)
    obtain ⟨j, hj, hj2⟩ := List.any_eq_true.1 h1
    simp only [Bool.and_eq_true, decide_eq_true_eq] at hj2
    obtain ⟨oj, hoj, e, he, hb, hon⟩ := Region.waitsFor_spec hj2.2
    have hjm : j ≤ m := by have := List.mem_range.1 hj; omega
    have hl : listed.getD j false = true := by
      rcases (show j = m ∨ j < m by omega) with rfl | g
      · exact hm
      · exact ih (m - j) (by omega) j rfl g
    have := hc j oj hoj hl e he hb
    rwa [hon] at this
theorem pivot_waits {md : Region.Mode} {n : Nat} {listed : Array Bool} (hp : pivotB md ops n = true) (inv : HeadInv md ops n listed) (k : Nat) (hk : k < n) (hun : listed.getD k true = false) (t : Nat) (ht : n ≤ t) : t ∉ Region.ready md ops listed := by
  intro hr
  simp only [pivotB, Bool.and_eq_true, decide_eq_true_eq] at hp
  obtain ⟨⟨h0, hs⟩, ha⟩ := hp
  obtain ⟨_, ot, hot, hall⟩ := mem_ready.1 hr
  have htlt : t < ops.size := (Array.getElem?_eq_some_iff.1 hot).1
  have h1 := List.all_eq_true.1 ha t (List.mem_range.2 htlt)
  simp only [Bool.or_eq_true, decide_eq_true_eq] at h1
  rcases h1 with (h1 | h1) | h1
  · omega
  · obtain ⟨o', ho', e, he, hb, hon⟩ := Region.waitsFor_spec h1
    obtain rfl : o' = ot := Option.some.inj (ho'.symm.trans hot)
    have hm := hall e he hb
    rw [hon] at hm
    have hk' : listed.getD k false = true := by
      rcases (show k = n - 1 ∨ k < n - 1 by omega) with rfl | g
      · exact hm
      · exact pivot_listed hs inv.closed hm _ k rfl g
    rw [getD_both hun] at hk'
    cases hk'
  · obtain ⟨j, hj, hj2⟩ := List.any_eq_true.1 h1
    simp only [Bool.and_eq_true, decide_eq_true_eq] at hj2
    obtain ⟨o', ho', e, he, hb, hon⟩ := Region.waitsFor_spec hj2.2
    obtain rfl : o' = ot := Option.some.inj (ho'.symm.trans hot)
    have hm := hall e he hb
    have hjt := List.mem_range.1 hj
    have hjl : j < ops.size := by omega
    rw [hon, getD_both (inv.tail j hj2.1 hjl)] at hm
    cases hm

/-- The head's orders among all of them. -/
theorem head_simF {Q : Act → Prop} {Q' : Exit → Act → World → Prop} {g : Nat} (hp : pivotB .any ops n = true) (hn : n < ops.size) (hH : ∀ j, j < n → H[j]? = ops[j]?) (hl : lowB ops n = true)
    (hQ : ∀ (ls : Array Bool) (a : Act) (w : World), ls.size = ops.size → (∀ j, j < n → ls.getD j false = true) → (∀ j, n ≤ j → j < ops.size → ls.getD j true = false) → C w → Q a → wpAny P .any ops Q' g ls a w) :
    ∀ (f : Nat) (lh ls : Array Bool) (a : Act) (w : World), lh.size = n → HeadInv .any ops n ls → (∀ j, j < n → ls.getD j true = lh.getD j true) → unl lh = f → C w → wpAnyQ P .any H C Q f lh a → wpAny P .any ops Q' (f + g) ls a w
  | 0, lh, ls, a, w, h1, inv, h2, h3, hw, h => by
    rw [Nat.zero_add]
    refine hQ ls a w inv.size (fun j hj => ?_) inv.tail hw h.2
    have e := unl_zero h3 j (by omega)
    have := h2 j hj
    have hj' : j < ls.size := by rw [inv.size]; omega
    have hj2 : j < lh.size := by omega
    simp [hj', hj2, e] at this ⊢
    exact this
  | f + 1, lh, ls, a, w, h1, inv, h2, h3, hw, h => by
    rw [show f + 1 + g = (f + g) + 1 by omega]
    obtain ⟨j0, hj0, hf0⟩ := unl_some h3
    obtain ⟨k, hk, hkf, hkl⟩ := unl_least j0 hf0
    have hkn : k < n := by omega
    have hkf' : ls.getD k true = false := by rw [h2 k hkn]; exact hkf
    have look : ∀ i o, i < n → ops[i]? = some o → ∀ e ∈ o.after, e.on < n := fun i o hi ho e he => by
      have := (lowB_spec hl hi ho).1 e he; omega
    have same : ∀ j, j < n → ls.getD j false = lh.getD j false := fun j hj => by
      have := h2 j hj
      have hj' : j < ls.size := by rw [inv.size]; omega
      have hj2 : j < lh.size := by omega
      simpa [hj', hj2] using this
    have rk : k ∈ Region.ready .any ops ls := by
      have hks : k < ops.size := by omega
      refine mem_ready.2 ⟨hkf', ops[k], by simp [hks], fun e he _ => ?_⟩
      have hlt := (lowB_spec hl hkn (o := ops[k]) (by simp [hks])).1 e he
      have := hkl e.on hlt
      rw [same _ (by omega)]
      have hj2 : e.on < lh.size := by omega
      simpa [hj2] using this
    refine ⟨fun h0 => absurd rk (by rw [h0]; simp), fun i hi => ?_⟩
    have hin : i < n := by
      rcases Nat.lt_or_ge i n with h' | h'
      · exact h'
      · exact absurd hi (pivot_waits hp inv k hkn hkf' i h')
    obtain ⟨hu, o, ho, hall⟩ := mem_ready.1 hi
    have hHi : H[i]? = some o := by rw [hH i hin, ho]
    have hi' : i ∈ Region.ready .any H lh := mem_ready.2 ⟨by rw [← h2 i hin]; exact hu, o, hHi, fun e he hb => by rw [← same _ (look i o hin ho e he)]; exact hall e he hb⟩
    have hq := h.2 i hi'
    have next : ∀ (a' : Act) (w' : World), C w' → wpAnyQ P .any H C Q f (lh.setIfInBounds i true) a' → wpAny P .any ops Q' (f + g) (ls.setIfInBounds i true) a' w' := fun a' w' hw' h' => by
      refine head_simF hp hn hH hl hQ f _ _ a' w' (by simp [h1]) (inv.set hi hin) (fun j hj => ?_) ?_ hw' h'
      · by_cases hij : i = j
        · subst hij
          have hj' : i < ls.size := by rw [inv.size]; omega
          have hj2 : i < lh.size := by omega
          simp [hj', hj2]
        · rw [getD_set_ne true hij, getD_set_ne true hij]; exact h2 j hj
      · have := unl_set (a := lh) (i := i) (by rw [← h2 i hin]; exact hu)
        omega
    unfold qOp at hq
    unfold wpOp
    simp only [hHi] at hq
    simp only [ho]
    rw [wanted_head hH (lowB_spec hl hin ho).2] at hq
    split
    · rename_i hw1; simp only [hw1, if_true] at hq; exact .inl (Oper.wp_of_quiet hw next hq)
    · rename_i hw1; simp only [hw1] at hq; exact next _ _ hw hq

/-- A value is moved. -/
def moveAt (ops : Array Oper) (k : Nat) : Bool := match ops[k]? with
  | some o => (match o.op with | .move _ => true | _ => false)
  | none => false
/-- One behind the other, but for what is moved. -/
def seqF (md : Region.Mode) (ops : Array Oper) : Nat → Nat → Array Bool → Bool
  | 0, _, ls => (Region.ready md ops ls).isEmpty
  | g + 1, k, ls => (decide (Region.ready md ops ls = [k]) || (moveAt ops k && Region.free md ops ls k && (Region.ready md ops ls).contains k)) && seqF md ops g (k + 1) (ls.setIfInBounds k true)
theorem move_run {o : Oper} {x : Operand} (hx : o.op = .move x) (a : Act) (w : World) : (execOp a.eval o).run P w = .ok (.value (a.eval x)) w := by
  simp [execOp, hx]
theorem move_asks {o : Oper} {x : Operand} (hx : o.op = .move x) (a : Act) (w : World) : ¬ o.asks P a w := by
  intro h
  have := h.1
  simp only [execOp, hx] at this
  exact absurd (show noRoomEvent ∈ #[] from this) (by simp)
theorem seq_free {Q' : Exit → Act → World → Prop} {md : Region.Mode} (hns : Region.noSelect ops = true) (hQ : ∀ d v c (a : Act) w, Q' (.panic c) (a.put d v) w → Q' (.panic c) a w) : ∀ (l : List Oper) (k : Nat) (ls : Array Bool) (a : Act) (w : World), (∀ j, j < l.length → l[j]? = ops[k + j]?) →
    seqF md ops l.length k ls = true → wpList P ops Q' l a w → wpAny P md ops Q' l.length ls a w
  | [], _, _, _, _, _, hB, h => ⟨by simpa [seqF] using hB, h⟩
  | o :: l, k, ls, a, w, hl, hB, h => by
    have h0 : ops[k]? = some o := by simpa using (hl 0 (by simp)).symm
    have hl' : ∀ j, j < l.length → l[j]? = ops[k + 1 + j]? := fun j hj => by have := hl (j + 1) (by simp; omega); simpa [Nat.add_assoc, Nat.add_comm 1 j] using this
    simp only [List.length_cons, seqF, Bool.and_eq_true, Bool.or_eq_true, decide_eq_true_eq] at hB
    rcases hB.1 with hr | ⟨⟨hm, hf⟩, hc⟩
    · refine ⟨fun h1 => absurd h1 (by rw [hr]; simp), fun i hi => ?_⟩
      obtain rfl : i = k := by rw [hr] at hi; simpa using hi
      have hw : wpOp P ops Q' i (wpList P ops Q' l) a w := by unfold wpOp; simp only [h0]; exact h
      exact wpOp_mono (fun a' w' h' => seq_free hns hQ l (i + 1) _ a' w' hl' hB.2 h') hw
    · unfold moveAt at hm
      simp only [h0] at hm
      obtain ⟨x, hx⟩ : ∃ x, o.op = .move x := by
        cases ho : o.op <;> simp only [ho] at hm <;> first | exact ⟨_, rfl⟩ | cases hm
      by_cases hw : Region.wanted o (yielded ops a.tmps) = true
      · have h' : wpList P ops Q' l (a.put o.dst (a.eval x)) w := by
          simp only [wpList, hw, if_true] at h
          rcases h with h | h
          · unfold Oper.wp at h; rw [move_run hx] at h; exact h
          · exact absurd h.1 (move_asks hx a w)
        exact wpAny_take h0 hns hf hc (fun c a w q => hQ _ _ c a w q) (Or.inl ⟨hw, fun w => move_run hx a w⟩) (seq_free hns hQ l (k + 1) _ _ w hl' hB.2 h')
      · have hw' : Region.wanted o (yielded ops a.tmps) = false := by simpa using hw
        have h' : wpList P ops Q' l (a.put o.dst undef) w := by
          simp only [wpList, hw', Bool.false_eq_true, if_false] at h
          exact h
        exact wpAny_take h0 hns hf hc (fun c a w q => hQ _ _ c a w q) (Or.inr ⟨hw', rfl⟩) (seq_free hns hQ l (k + 1) _ _ w hl' hB.2 h')

/-- All that is asked of the region's text. -/
def tailF (l : List Oper) (n : Nat) : Bool :=
  Region.lexB .any (l.take n).toArray && decide (n < l.length) && pivotB .any l.toArray n && lowB l.toArray n && seqF .any l.toArray (l.length - n) n (List.replicate n true ++ List.replicate (l.length - n) false).toArray && Region.noSelect l.toArray

theorem wp_region_tailF {id : Nat} {Q : Exit → Act → World → Prop} {a : Act} {w : World} {l : List Oper} (n : Nat) (hm : P.follows .mixedOrders = true) (hB : tailF l n = true) (hQ : ∀ d v c (a : Act) w, Q (.panic c) (a.put d v) w → Q (.panic c) a w) (hC : C { w with drawn := w.drawn + 1 })
    (h : wpQuiet P (l.take n).toArray C (fun a' => ∀ w', C w' → wpList P l.toArray Q (l.drop n) a' w') (l.take n) a) : (Code.region id l.toArray true).wp P Q a w := by
  simp only [tailF, Bool.and_eq_true, decide_eq_true_eq] at hB
  obtain ⟨⟨⟨⟨⟨hlex, hn⟩, hp⟩, hl⟩, hq⟩, hns⟩ := hB
  simp only [Region.lexB, Bool.and_eq_true] at hlex
  have hlen : (l.take n).length = n := by simp; omega
  have H0 := wpAnyQ_lex (C := C) (md := .any) hlex.1 (l.take n) 0 (Array.replicate (l.take n).toArray.size false) a (by simp) (by simpa using hlex.2) h
  rw [hlen] at H0
  refine wp_region_any hm ?_
  have hgd : ∀ j, (Array.replicate l.toArray.size false).getD j false = false := fun j => getD_replicate_false _ _
  have inv0 : HeadInv .any l.toArray n (Array.replicate l.toArray.size false) :=
    ⟨by simp, fun j oj _ hl' => (by rw [hgd] at hl'; cases hl'), fun t _ ht => getD_in (by simpa using ht) (hgd t)⟩
  have := head_simF (P := P) (C := C) (ops := l.toArray) (H := (l.take n).toArray) (n := n) (Q' := Q) (g := l.length - n) hp (by simpa using hn) (fun j hj => by simp [hj]) hl
    (fun ls a' w' z1 z2 z3 hw' hq' => by
      have e : ls = (List.replicate n true ++ List.replicate (l.length - n) false).toArray := by
        apply Array.ext
        · simp [z1]; omega
        · intro i h1 h2
          rcases Nat.lt_or_ge i n with hi | hi
          · have := z2 i hi
            simp [h1] at this
            simp [hi, this]
          · have := z3 i hi (by rw [← z1]; exact h1)
            simp [h1] at this
            simp [List.getElem_append, Nat.not_lt.2 hi, this]
      rw [e]
      have hd : (l.drop n).length = l.length - n := by simp
      have := seq_free (P := P) (ops := l.toArray) (Q' := Q) (md := .any) hns hQ (l.drop n) n (List.replicate n true ++ List.replicate (l.length - n) false).toArray a' w' (fun j _ => by simp [List.getElem?_drop]) (by rw [hd]; exact hq) (hq' w' hw')
      rwa [hd] at this)
    n (Array.replicate (l.take n).toArray.size false) (Array.replicate l.toArray.size false) a { w with drawn := w.drawn + 1 } (by simp; omega) inv0
    (fun j hj => by simp [Array.getD, show j < l.length by omega, show j < min n l.length by omega]) (by simp [unl]; omega) hC H0
  rw [show n + (l.length - n) = l.length by omega] at this
  simpa using this

theorem wp_region_kept_tailF {id : Nat} {Q : Exit → Act → World → Prop} {a : Act} {W : World} {l : List Oper} (n : Nat) (hm : P.follows .mixedOrders = true) (hB : tailF l n = true) (hQ : ∀ d v c (a : Act) w, Q (.panic c) (a.put d v) w → Q (.panic c) a w)
    (h : wpQuiet P (l.take n).toArray (fun w' => ∃ p : KW W, w' = p.w) (fun a' => ∀ w', (∃ p : KW W, w' = p.w) → wpList P l.toArray Q (l.drop n) a' w') (l.take n) a) : (Code.region id l.toArray true).wp P Q a W :=
  wp_region_tailF (C := fun w' => ∃ p : KW W, w' = p.w) n hm hB hQ ⟨⟨W.drew, (Kept.refl _).drew⟩, rfl⟩ h
end
end Go.Proofs.Ytbpdimogigcacaa
