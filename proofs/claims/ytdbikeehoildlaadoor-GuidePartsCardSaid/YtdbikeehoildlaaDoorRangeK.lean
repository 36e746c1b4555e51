/-
  A RANGE OVER A FUNCTION of which nothing turns that was ('Kept'): a contract for the iterator and a law for the loop, both said in 'Kept', so that a function that holds such a loop says of the world behind it what all our functions say.
-/
import Derived.Test.YtdbikeehoildlaaDoorWide
import Derived.RangeFuncFrom
import Derived.RangeFuncCalls
import Derived.RangeFuncLeaves
namespace Go.Proofs.YtdbikeehoildlaaDoor
open Go Go.RowKit

theorem frozen_obj {w : World} {a : Addr} {o : Obj} (h : w.heap[a.block]? = some o) (ho : o.isCells = false) : w.frozen? a = false := by
  cases o <;> simp_all [World.frozen?, Obj.isCells]
theorem frozen_allocObj (w : World) (o : Obj) (ho : o.isCells = false) (a : Addr) : (w.alloc o).frozen? a = w.frozen? a := by
  by_cases h : a.block = w.heap.size
  · have e1 : (w.alloc o).heap[a.block]? = some o := by rw [h]; exact World.alloc_heap_new w o
    have e2 : w.heap[a.block]? = none := by rw [h]; simp
    rw [frozen_obj e1 ho]
    simp [World.frozen?, e2]
  · exact World.frozen?_alloc_old _ _ _ h
theorem frozen_putObj {w : World} {l : Nat} {o o' : Obj} (hl : w.heap[l]? = some o) (ho : o.isCells = false) (ho' : o'.isCells = false) (a : Addr) : (w.putObj l o').frozen? a = w.frozen? a := by
  have hlt : l < w.heap.size := (Array.getElem?_eq_some_iff.1 hl).1
  by_cases h : a.block = l
  · rw [frozen_obj (o := o') (by rw [h]; exact World.putObj_heap_same hlt) ho', frozen_obj (o := o) (by rw [h]; exact hl) ho]
  · exact World.frozen?_of_block (World.putObj_heap_other h)
theorem keptB_of {W w' : World} (h : Below W.heap.size W w') (hf : ∀ a, w'.frozen? a = W.frozen? a) : Kept W w' := ⟨⟨h.frame _, hf, h.size⟩, h⟩
theorem Kept.allocObj {W w' : World} (h : Kept W w') (o : Obj) (ho : o.isCells = false) : Kept W (w'.alloc o) :=
  keptB_of (h.2.alloc h.2.size o) fun a => (frozen_allocObj w' o ho a).trans (h.1.2.1 a)
theorem Kept.putObj {W w' : World} (h : Kept W w') {l : Nat} {o o' : Obj} (hW : W.heap.size ≤ l) (hl : w'.heap[l]? = some o) (ho : o.isCells = false) (ho' : o'.isCells = false) : Kept W (w'.putObj l o') :=
  keptB_of (h.2.grown (grownBy_putObj' w' l o') h.2.size fun k e => by cases e; exact hW) fun a => (frozen_putObj hl ho ho' a).trans (h.1.2.1 a)
/-- What is turned, and turned back behind what was kept, was kept. -/
theorem Kept.turned {W W3 : World} {l : Nat} {o ob : Obj} (hl : W.heap[l]? = some o) (ho : o.isCells = false) (hb : ob.isCells = false) (h : Kept (W.putObj l ob) W3) : Kept W (W3.putObj l o) := by
  have hlt : l < W.heap.size := (Array.getElem?_eq_some_iff.1 hl).1
  have h3 : W3.heap[l]? = some ob := (h.2.block l (by simpa using hlt)).trans (World.putObj_heap_same hlt)
  refine keptB_of ⟨h.2.os, h.2.tape, h.2.output, by have := h.2.size; simp at this ⊢; omega, fun k hk => ?_⟩ fun a => ?_
  · by_cases e : k = l
    · subst e; rw [World.putObj_heap_same (by have := h.2.size; simp at this; omega), hl]
    · rw [World.putObj_heap_other e, h.2.block k (by simpa using hk), World.putObj_heap_other e]
  · rw [frozen_putObj h3 hb ho, h.1.2.1, frozen_putObj hl ho hb]
theorem Kept.others {W W' : World} (h : Kept W W') : KeepsOthers W W' := ⟨h.2.size, fun _ _ hk _ => (h.2.block _ (Array.getElem?_eq_some_iff.1 hk).1).trans hk⟩

/-- What is said stays so behind all that is kept, and behind the turn of a block that is no cells and lies at or beyond B. -/
def StayK {β : Type} (B : Nat) (I : β → World → Prop) : Prop :=
  (∀ s A C, I s A → Kept A C → I s C) ∧ (∀ s A l o o', I s A → B ≤ l → A.heap[l]? = some o → o.isCells = false → o'.isCells = false → I s (A.putObj l o'))
theorem StayK.and {β : Type} {B : Nat} {I I' : β → World → Prop} (h : StayK B I) (h' : StayK B I') : StayK B (fun s W => I s W ∧ I' s W) :=
  ⟨fun s A C x k => ⟨h.1 s A C x.1 k, h'.1 s A C x.2 k⟩, fun s A l o o' x a b c d => ⟨h.2 s A l o o' x.1 a b c d, h'.2 s A l o o' x.2 a b c d⟩⟩
theorem stay_pure {β : Type} (B : Nat) (p : β → Prop) : StayK B (fun s (_ : World) => p s) := ⟨fun _ _ _ x _ => x, fun _ _ _ _ _ x _ _ _ _ => x⟩
theorem stay_kept {β : Type} {B : Nat} {w : World} (h : w.heap.size ≤ B) : StayK B (fun (_ : β) W => Kept w W) :=
  ⟨fun _ _ _ x k => x.trans k, fun _ _ _ _ _ x a b c d => x.putObj (Nat.le_trans h a) b c d⟩
theorem cell_putObj {w : World} {p : Addr} {v : Value} {l : Nat} {o : Obj} (o' : Obj) (h : w.cell? p = some v) (hl : w.heap[l]? = some o) (ho : o.isCells = false) : (w.putObj l o').cell? p = some v :=
  cell_kept h (grownBy_putObj' w l o') fun r e => by cases e; exact ⟨o, hl, ho⟩
/-- A cell that may be written. -/
def OpenAt (W : World) (p : Addr) (v : Value) : Prop := W.cell? p = some v ∧ W.frozen? p = false
theorem stay_open {β : Type} (B : Nat) (p : Addr) (v : β → Value) : StayK B (fun s W => OpenAt W p (v s)) :=
  ⟨fun _ _ _ x k => ⟨k.read x.1, k.thaw x.2⟩, fun _ _ _ _ o' x _ b c d => ⟨cell_putObj o' x.1 b c, (frozen_putObj b c d _).trans x.2⟩⟩
theorem stay_cell {β : Type} (B : Nat) (p : Addr) (v : β → Value) : StayK B (fun s W => W.cell? p = some (v s)) :=
  ⟨fun _ _ _ x k => k.read x, fun _ _ _ _ o' x _ b c _ => cell_putObj o' x b c⟩

theorem StayK.ex {β γ : Type} {B : Nat} {I : γ → β → World → Prop} (h : ∀ g, StayK B (I g)) : StayK B (fun s W => ∃ g, I g s W) :=
  ⟨fun s A C ⟨g, x⟩ k => ⟨g, (h g).1 s A C x k⟩, fun s A l o o' ⟨g, x⟩ a b c d => ⟨g, (h g).2 s A l o o' x a b c d⟩⟩

/-- AN ITERATOR's CONTRACT: whatever stays so behind what is kept is carried from round to round; a round that goes on has kept all. -/
def SeqK {α : Type} (F : Fence) (n : Nat) (P : Program) (g : Nat) (lb : Array Value) (encs : α → Array Value) (S Sp : List α → Prop) (N : Nat) (w : World) : Prop :=
  ∀ (l : Nat) (J Jx : List α → World → Prop) (W : World), Kept w W → (∀ s A C, J s A → Kept A C → J s C) → (∀ s A C, Jx s A → Kept A C → Jx s C) →
    (∀ pre x W1, J pre W1 → pre.length < N → YieldAt F (n - 1) P l (encs x) W1 fun e W' =>
      (e = .returned (.bool true) ∧ J (pre ++ [x]) W' ∧ Kept W1 W') ∨ (e = .returned (.bool false) ∧ Jx (pre ++ [x]) W')) →
    J [] W →
    CallsIn F n P g (#[.func (.yield l) #[] #[]] ++ lb) W fun e W' => (∃ v, e = .returned v) ∧ ((∃ xs, S xs ∧ J xs W') ∨ (∃ pre, Sp pre ∧ Jx pre W'))

/-- The loop's record at l, and the block for its rounds' deferred calls, of which there are none. -/
structure LoopAt (W : World) (l : Nat) (r : Loop) : Prop where
  here : W.heap[l]? = some (.loop r)
  own : W.heap[r.defers]? = some (.deferred (some []))
theorem Kept.at {W W' : World} {k : Nat} {o : Obj} (h : W.heap[k]? = some o) (k2 : Kept W W') : W'.heap[k]? = some o := (k2.2.block _ (Array.getElem?_eq_some_iff.1 h).1).trans h
theorem LoopAt.ne {W : World} {l : Nat} {r : Loop} (h : LoopAt W l r) : r.defers ≠ l := fun e => by have := h.own; rw [e, h.here] at this; cases this
theorem LoopAt.kept {W W' : World} {l : Nat} {r : Loop} (h : LoopAt W l r) (k : Kept W W') : LoopAt W' l r := ⟨Kept.at h.here k, Kept.at h.own k⟩
theorem LoopAt.others {W W' : World} {l : Nat} {r : Loop} (h : LoopAt W l r) (k : KeepsOthers W W') : LoopAt W' l r := ⟨k.same _ _ h.here rfl, k.same _ _ h.own rfl⟩
theorem LoopAt.turn {W : World} {l : Nat} {r : Loop} (h : LoopAt W l r) (s : LoopState) (p : Option Code) : LoopAt (W.putObj l (.loop { r with state := s, pending := p })) l { r with state := s, pending := p } :=
  ⟨World.putObj_heap_same (Array.getElem?_eq_some_iff.1 h.here).1, (World.putObj_heap_other h.ne).trans h.own⟩

/-- How a round's body may be left: it goes on, and has kept all; or it returns. -/
def RoundEnd (W : World) (I X : World → Prop) : Exit → Act → World → Prop
  | .normal, _, W' => Kept W W' ∧ I W'
  | .ret, _, W' => KeepsOthers W W' ∧ X W'
  | _, _, _ => False

/-- ONE ROUND: of a loop whose record is ready. What the assignment to the loop's variable leaves is said by Ax. -/
theorem yield_kept {F : Fence} {m : Nat} {P : Program} {W : World} {l B : Nat} {r : Loop} {args : Array Value} {I I' X : World → Prop} {Ax : Act → World → Prop} (hr : r.state = .ready) (hp : r.pending = none) (h : LoopAt W l r) (hB : B ≤ l)
    (hfn : F.fn r.fn) (hs : args.size = r.params.size) (hI : StayK B fun (_ : Unit) => I) (hX : StayK B fun (_ : Unit) => X) (hI' : StayK B fun (_ : Unit) => I') (hA : StayK B Ax) (hi : I W)
    (ha : ∀ K : Act → World → Prop, (∀ a1 W1, Kept W W1 → Ax a1 W1 → K a1 W1) → r.assign.wpIn (F.inRound l) m P (Exit.then K (fun _ _ _ => False)) { tmps := (r.params.zip args).foldl (fun t (p, v) => t.setIfInBounds p v) r.tmps, defers := [] } W)
    (hb : ∀ a1 W2, I W2 → Ax a1 W2 → r.body.wpIn (F.inRound l) m P (RoundEnd W2 I' X) a1 W2) :
    YieldAt F m P l args W fun e W' => (e = .returned (.bool true) ∧ (LoopAt W' l r ∧ I' W') ∧ Kept W W') ∨ (e = .returned (.bool false) ∧ LoopAt W' l { r with state := .done, pending := some .ret } ∧ X W') := by
  obtain ⟨st, pe, fn, tmps, params, assign, body, dd⟩ := r
  cases hr; cases hp
  refine ⟨fn, _, assign, body, run_yield (P := P) (args := args) h.here hs, roundIn_of_wpIn hfn (ha _ fun a1 W1 k1 hx => ?_)⟩
  have h1 := h.kept k1
  refine ⟨_, run_beginRound h1.here rfl, ?_⟩
  have hb2 := h1.turn .busy none
  refine wpIn_mono (hb a1 _ (hI.2 () _ _ _ (.loop ⟨.busy, none, fn, tmps, params, assign, body, dd⟩) (hI.1 () _ _ hi k1) hB h1.here rfl rfl) (hA.2 _ _ _ _ (.loop ⟨.busy, none, fn, tmps, params, assign, body, dd⟩) hx hB h1.here rfl rfl)) ?_
  intro e a3 W3 hpost
  cases e with
  | normal =>
    obtain ⟨k, i⟩ := hpost
    have h3 := hb2.kept k
    have h4 := h3.turn .ready none
    exact ⟨_, _, run_endRound none h3.here, .inl ⟨rfl, ⟨h4, hI'.2 () _ _ _ _ i hB h3.here rfl rfl⟩, k1.trans (Kept.turned h1.here rfl rfl k)⟩⟩
  | ret =>
    obtain ⟨k, x⟩ := hpost
    have h3 := hb2.others k
    have h4 := h3.turn .done (some .ret)
    exact ⟨_, _, run_endRound (some .ret) h3.here, .inr ⟨rfl, h4, hX.2 () _ _ _ _ x hB h3.here rfl rfl⟩⟩
  | exit id => exact hpost.elim
  | goto t => exact hpost.elim
  | panic ch => exact hpost.elim
  | outgrown => exact hpost.elim

/-- THE LOOP: its body goes on or returns. I says what lies between two rounds, X what lies where a round has returned. -/
theorem rangeFunc_kept {F : Fence} {n : Nat} {P : Program} {α : Type} {g : Operand} {ps : Array Tmp} {assign body : Code} {Q : Exit → Act → World → Prop} {a : Act} {w : World}
    (hro : F.round = none) (h1 : 1 ≤ n) {gf : Nat} {lb : Array Value} (hg : a.eval g = .func (.func gf) #[] lb) (hFg : F.fn gf) (eg : ∀ args w, (callFunc gf args).run P w = .ok (.enter gf args) w)
    {encs : α → Array Value} {S Sp : List α → Prop} {N : Nat} (hseq : SeqK F (n - 1) P gf lb encs S Sp N w) (hps : ∀ x, (encs x).size = ps.size)
    (I X : List α → World → Prop) (hI : ∀ l, StayK w.heap.size fun (_ : Unit) => I l) (hX : ∀ l, StayK w.heap.size fun (_ : Unit) => X l) (h0 : I [] w) (Ax : α → Act → World → Prop) (hA : ∀ x, StayK w.heap.size (Ax x))
    (hassign : ∀ (l : Nat) (pre : List α) (x : α) (W : World) (K : Act → World → Prop), I pre W → (∀ a' W', Kept W W' → Ax x a' W' → K a' W') →
      assign.wpIn (F.inRound l) (n - 1 - 1) P (Exit.then K (fun _ _ _ => False)) { tmps := (ps.zip (encs x)).foldl (fun t (p, v) => t.setIfInBounds p v) a.tmps, defers := [] } W)
    (hbody : ∀ (l : Nat) (pre : List α) (x : α) (a' : Act) (W : World), I pre W → Ax x a' W → pre.length < N → body.wpIn (F.inRound l) (n - 1 - 1) P (RoundEnd W (I (pre ++ [x])) (X (pre ++ [x]))) a' W)
    (hdone : ∀ (D : Nat) (xs : List α) (W : World), w.heap.size ≤ D → S xs → I xs W → W.heap[D]? = some (.deferred (some [])) → Q .normal { a with defers := { target := .collected D, args := #[] } :: a.defers } W)
    (hstop : ∀ (D : Nat) (pre : List α) (W : World), w.heap.size ≤ D → Sp pre → X pre W → W.heap[D]? = some (.deferred (some [])) → Code.ret.wpIn F n P Q { a with defers := { target := .collected D, args := #[] } :: a.defers } W) :
    (Code.rangeFunc g ps assign body).wpIn F n P Q a w := by
  refine wpIn_rangeFunc fun fn hfn => ?_
  rw [hro]
  obtain ⟨r, hr⟩ : ∃ r : Loop, r = ⟨.ready, none, fn, a.tmps, ps, assign, body, w.heap.size⟩ := ⟨_, rfl⟩
  obtain ⟨W1, hW1⟩ : ∃ W1, (w.alloc (.deferred (some []))).alloc (.loop r) = W1 := ⟨_, rfl⟩
  have kk : Kept w W1 := by rw [← hW1]; exact ((Kept.refl w).allocObj _ rfl).allocObj _ rfl
  have hd : r.defers = w.heap.size := by rw [hr]
  have hL : LoopAt W1 (w.heap.size + 1) r := by
    rw [← hW1]
    exact ⟨by have := World.alloc_heap_new (w.alloc (.deferred (some []))) (.loop r); rwa [World.size_alloc] at this, by rw [hd]; exact (Below.heap_alloc _ _ _ (by simp)).trans (World.alloc_heap_new w _)⟩
  have he : (Instr.enterLoop fn a.tmps ps assign body none).run P w = .ok (w.heap.size + 1, [{ target := .collected w.heap.size, args := #[] }]) W1 := by rw [← hW1, hr]; exact run_enterLoop_outer _ _ _ _ _
  refine ⟨w.heap.size + 1, [{ target := .collected w.heap.size, args := #[] }], W1, { target := .fn (.func gf) lb, args := #[.func (.yield (w.heap.size + 1)) #[] #[]] }, W1, gf, #[.func (.yield (w.heap.size + 1)) #[] #[]] ++ lb, W1, he, ?_, ?_, ?_, fun _ => h1, ?_⟩
  · simp only [resolve, hg]
    simp [go_sem]
  · intro f' hf'; simp [Target.leads] at hf'; subst hf'; exact hFg
  · simp [invoke, go_sem, eg]
  have hS := hseq (w.heap.size + 1)
    (fun pre W => LoopAt W (w.heap.size + 1) r ∧ I pre W)
    (fun pre W => LoopAt W (w.heap.size + 1) { r with state := .done, pending := some .ret } ∧ X pre W) _ kk
    (fun s A C h k => ⟨h.1.kept k, (hI s).1 () A C h.2 k⟩) (fun s A C h k => ⟨h.1.kept k, (hX s).1 () A C h.2 k⟩)
    (fun pre x W h hlen => yield_kept (r := r) (B := w.heap.size) (by rw [hr]) (by rw [hr]) h.1 (Nat.le_succ _) (by rw [hr]; exact hfn) (by rw [hr]; exact hps x) (hI pre) (hX (pre ++ [x])) (hI (pre ++ [x])) (hA x) h.2 (fun K => by rw [hr]; exact hassign _ pre x W K h.2) (fun a' W2 i hx => by rw [hr]; exact hbody _ pre x a' W2 i hx hlen))
    ⟨hL, (hI []).1 () _ _ h0 kk⟩
  refine hS.mono ?_
  rintro e W2 ⟨⟨v, rfl⟩, (⟨xs, hs, hl, hi⟩ | ⟨pre, hs, hl, hx⟩)⟩
  · have ho := hl.own
    rw [hd] at ho
    have hp : r.pending = none := by rw [hr]
    have := run_endLoop (P := P) hl.here (by rw [hr]; simp)
    rw [hp] at this
    exact ⟨none, _, this, hdone _ xs _ (Nat.le_refl _) hs ((hI xs).2 () _ _ _ (.loop { r with state := .exhausted, pending := none }) hi (Nat.le_succ _) hl.here rfl rfl) ((World.putObj_heap_other (by omega)).trans ho)⟩
  · have ho := hl.own
    rw [show ({ r with state := .done, pending := some .ret } : Loop).defers = w.heap.size from hd] at ho
    exact ⟨some .ret, _, run_endLoop (P := P) hl.here (by simp), hstop _ pre _ (Nat.le_refl _) hs ((hX pre).2 () _ _ _ (.loop { r with state := .exhausted, pending := some .ret }) hx (Nat.le_succ _) hl.here rfl rfl) ((World.putObj_heap_other (by omega)).trans ho)⟩
end Go.Proofs.YtdbikeehoildlaaDoor
