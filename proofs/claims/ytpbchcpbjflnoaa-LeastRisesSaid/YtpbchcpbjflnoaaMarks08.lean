/-
  Marks as a row of cells, and what the calls of package least are to do, as premises.
-/
import Derived.Test.YtpbchcpbjflnoaaTold08
import Derived.Test.YtpbchcpbjflnoaaAggRow
import Derived.Test.YtpbchcpbjflnoaaApp
namespace Go.Proofs.Ytpbchcpbjflnoaa
open Go.RowKit Go.WideShapes

theorem ret_b {a b : Bool} (h : a = b) : Ending.returned (.bool a) = Ending.returned (.bool b) := by rw [h]
/-- Marks lie in a row, two cells each. -/
def RowM (w : World) (A : Option Addr) (l : List (Int × Int)) : Prop := 0 < l.length → ∃ b off : Nat, A = some ⟨b, off, none⟩ ∧ ∀ k, k < l.length → w.cell? ⟨b, off + k * 2, none⟩ = some (.int .i64 (mk l k).1) ∧ w.cell? ⟨b, off + k * 2 + 1, none⟩ = some (.int .i64 (mk l k).2)
theorem RowM.kept {w w' : World} {A : Option Addr} {l : List (Int × Int)} (h : RowM w A l) (k : Kept w w') : RowM w' A l := fun hn => by
  obtain ⟨b, off, e, hc⟩ := h hn
  exact ⟨b, off, e, fun j hj => ⟨k.read (hc j hj).1, k.read (hc j hj).2⟩⟩
theorem rowM_nil (w : World) (A : Option Addr) : RowM w A [] := fun h => absurd h (by simp)
/-- A slice lies in memory that is new since a world, or where another one lies. -/
def FromN (W w : World) (A0 A : Option Addr) : Prop := ∀ a, A = some a → (W.heap.size ≤ a.block ∧ a.block < w.heap.size) ∨ ∃ a0, A0 = some a0 ∧ a0.block = a.block
/-- Marks lie in a row, in such memory. -/
def RowN (W w : World) (A0 A : Option Addr) (l : List (Int × Int)) : Prop := RowM w A l ∧ FromN W w A0 A
theorem RowN.row {W w : World} {A0 A : Option Addr} {l : List (Int × Int)} (h : RowN W w A0 A l) : RowM w A l := h.1
theorem RowM.self {W w : World} {A : Option Addr} {l : List (Int × Int)} (h : RowM w A l) : RowN W w A A l := ⟨h, fun a e => Or.inr ⟨a, e, rfl⟩⟩
/-- A slice does not lie in some row, but in what there is. -/
def OffR (w : World) (row : Option Nat) (A : Option Addr) : Prop := ∀ a, A = some a → some a.block ≠ row ∧ a.block < w.heap.size
theorem offR_none (w : World) (row : Option Nat) : OffR w row none := fun a h => by cases h
theorem OffR.kept {w w' : World} {row : Option Nat} {A : Option Addr} (h : OffR w row A) (k : Kept w w') : OffR w' row A := fun a e => ⟨(h a e).1, Nat.lt_of_lt_of_le (h a e).2 k.2.size⟩
theorem OffR.new {W w : World} {row : Option Nat} {A0 A : Option Addr} (h : OffR W row A0) (f : FromN W w A0 A) (hr : ∀ g, row = some g → g < W.heap.size) (k : Kept W w) : OffR w row A := fun a e => by
  rcases f a e with ⟨f1, f2⟩ | ⟨a0, e0, f1⟩
  · exact ⟨fun z => by have := hr _ z.symm; omega, f2⟩
  · have := h a0 e0
    rw [f1] at this
    exact ⟨this.1, Nat.lt_of_lt_of_le this.2 k.2.size⟩
theorem OffR.grown {w w' : World} {row row2 : Option Nat} {A : Option Addr} (h : OffR w row A) (hg : w.grownBy w' row) (hr : row2 = row ∨ row2 = some w.heap.size) : OffR w' row2 A := fun a e => by
  have q := h a e
  refine ⟨fun z => ?_, Nat.lt_of_lt_of_le q.2 hg.size⟩
  rcases hr with hr | hr
  · exact q.1 (z.trans hr)
  · rw [hr] at z; have := Option.some.inj z; omega
theorem RowM.grown {w w' : World} {row : Option Nat} {A : Option Addr} {l : List (Int × Int)} (h : RowM w A l) (o : OffR w row A) (hg : w.grownBy w' row) : RowM w' A l := fun hn => by
  obtain ⟨b, off, e, hc⟩ := h hn
  have q := (o _ e).1
  exact ⟨b, off, e, fun j hj => ⟨hg.cell (hc j hj).1 q, hg.cell (hc j hj).2 q⟩⟩
/-- The cells of marks. -/
def flatM (l : List (Int × Int)) : List Value := l.flatMap (fun m => [.int .i64 m.1, .int .i64 m.2])
theorem flatM_app (l r : List (Int × Int)) : flatM (l ++ r) = flatM l ++ flatM r := by simp [flatM]
theorem flatM_len (l : List (Int × Int)) : (flatM l).length = l.length * 2 := by
  induction l with
  | nil => rfl
  | cons a l ih => simp only [flatM, List.flatMap_cons, List.length_append, List.length_cons] at *; simp at *; omega
theorem flatM_get : ∀ (l : List (Int × Int)) (k : Nat), k < l.length → (flatM l)[k * 2]? = some (.int .i64 (mk l k).1) ∧ (flatM l)[k * 2 + 1]? = some (.int .i64 (mk l k).2)
  | [], k, h => absurd h (by simp)
  | a :: l, 0, _ => ⟨rfl, rfl⟩
  | a :: l, k + 1, h => by
    have e : flatM (a :: l) = .int .i64 a.1 :: .int .i64 a.2 :: flatM l := rfl
    have hm : mk (a :: l) (k + 1) = mk l k := by simp [mk, List.getD]
    rw [e, hm, show (k + 1) * 2 = k * 2 + 1 + 1 by omega]
    simpa using flatM_get l k (by simpa using h)
/-- What is owned, as a row of marks. -/
theorem own_rowM {w : World} {base : Nat} {e : TypeId} {v : Value} {l : List (Int × Int)} (h : w.ownsRow base e 2 v l.length (flatM l)) : ∃ (B : Option Addr) (c : Nat), v = .slice B l.length c ∧ SliceOk B l.length c ∧ ∀ W : World, W.heap.size ≤ base → ∀ A0, RowN W w A0 B l := by
  rcases h.2 with ⟨rfl, e0⟩ | ⟨g, cap, cur, rfl, hb, hg, hc, hm, _, _⟩
  · refine ⟨none, 0, by rw [e0], ⟨by omega, by omega, fun _ => rfl⟩, fun W _ A0 => ⟨fun h0 => absurd h0 (by omega), fun a h => by cases h⟩⟩
  · refine ⟨some ⟨g, 0, none⟩, cap, rfl, ⟨hc, by simp only [maxLen] at hm; omega, fun h => by cases h⟩, fun W hW A0 => ⟨fun hn => ⟨g, 0, rfl, fun k hk => ?_⟩, fun a ha => by cases ha; exact Or.inl ⟨by show _ ≤ g; omega, (h.lt g rfl).2⟩⟩⟩
    have c0 := h.cells (g := g) rfl (k * 2) _ (flatM_get l k hk).1
    have c1 := h.cells (g := g) rfl (k * 2 + 1) _ (flatM_get l k hk).2
    rw [Addr.add_lit] at c0 c1
    exact ⟨c0, by rw [← Nat.add_assoc] at c1; exact c1⟩
/-- Marks that came in. -/
theorem marks_of {H : Type} {enc : TypeId × Value → H} {P : Program} {w : World} {base : Nat} {held : Bool} {t e : TypeId} {v : Value} {d : DataW H} {ps : List MemPlace}
    (ht : P.underlying t = some (.slice e)) (hl : leavesOf P 2 e = some [.i .i64, .i .i64]) (hC : P.cellsOf e = 2) (hv : ∃ a len cap, v = .slice a len cap) (h : DataW.Trod enc P w base (fun _ => true) held t v d ps) :
    ∃ (A : Option Addr) (cap : Nat) (l : List (Int × Int)), v = .slice A l.length cap ∧ SliceOk A l.length cap ∧ RowM w A l ∧ ∀ m ∈ l, In64 m.1 ∧ In64 m.2 := by
  obtain ⟨A, len, cap, E, rfl, hs, hE, hr⟩ := row_of_leaves 2 ht hl (by omega) hv h
  obtain ⟨F, hF⟩ := Go.Deep.choose_lt (n := len) (p := fun i (m : Int × Int) => E i = [.int .i64 m.1, .int .i64 m.2] ∧ In64 m.1 ∧ In64 m.2) (fun i hi => by
    obtain ⟨x, vs, e1, w1, y, vs2, e2, w2, e3⟩ := hE i hi
    have e3' : vs2 = [] := e3
    subst e3' e2
    exact ⟨(x, y), e1, in64_of_wf w1, in64_of_wf w2⟩)
  have hlen : ((List.range len).map F).length = len := by simp
  have hmk : ∀ k, k < len → mk ((List.range len).map F) k = F k := fun k hk => by simp [mk, List.getD, hk]
  refine ⟨A, cap, (List.range len).map F, by rw [hlen], by rw [hlen]; exact hs, fun h0 => ?_, fun m hm => ?_⟩
  · rw [hlen] at h0
    obtain ⟨b, off, rfl, hc⟩ := hr h0
    refine ⟨b, off, rfl, fun k hk => ?_⟩
    rw [hlen] at hk
    have c0 := hc k hk 0 (by omega)
    have c1 := hc k hk 1 (by omega)
    rw [hC, (hF k hk).1] at c0 c1
    rw [hmk k hk]
    exact ⟨c0, c1⟩
  · obtain ⟨k, hk, rfl⟩ := List.mem_map.1 hm
    exact (hF k (by simpa using hk)).2

/-- What the calls of package least are to do. -/
def LCheckC : Prop := ∀ (A : Option Addr) (cap : Nat) (l : List (Int × Int)) (v : Bool), SliceOk A l.length cap → l.length ≤ 1099511627776 → (v = true ↔ MayL l) → ∀ w, RowM w A l → Calls Try.prog 17 #[.slice A l.length cap] w fun e w' => e = .returned (.bool v) ∧ Kept w w'
def LPutC : Prop := ∀ (A : Option Addr) (cap : Nat) (l : List (Int × Int)) (window at_ n : Int) (l' : List (Int × Int)) (er : Int), SliceOk A l.length cap → l.length ≤ 1099511627776 → (∀ m ∈ l, In64 m.1 ∧ In64 m.2) → In64 window → In64 at_ → In64 n → PutIs l window at_ n l' er → ∀ w, RowM w A l →
  Calls Try.prog 10 #[.slice A l.length cap, .int .i64 window, .int .i64 at_, .int .i64 n] w fun e w' => ∃ (B : Option Addr) (c : Nat), e = .returned (.tuple #[.slice B l'.length c, .int .i64 er]) ∧ SliceOk B l'.length c ∧ RowN w w' A B l' ∧ Kept w w'
def LOfC : Prop := ∀ (A : Option Addr) (cap : Nat) (l : List (Int × Int)) (n : Int) (b : Bool), SliceOk A l.length cap → l.length ≤ 1099511627776 → LOfIs l n b → ∀ w, RowM w A l → Calls Try.prog 13 #[.slice A l.length cap] w fun e w' => e = .returned (.tuple #[.int .i64 n, .bool b]) ∧ Kept w w'
def LSinceC : Prop := ∀ (A : Option Addr) (cap : Nat) (l : List (Int × Int)) (window at_ n : Int) (b : Bool), SliceOk A l.length cap → l.length ≤ 1099511627776 → (∀ m ∈ l, In64 m.1 ∧ In64 m.2) → In64 window → In64 at_ → SinceIs l window at_ n b → ∀ w, RowM w A l →
  Calls Try.prog 15 #[.slice A l.length cap, .int .i64 window, .int .i64 at_] w fun e w' => e = .returned (.tuple #[.int .i64 n, .bool b]) ∧ Kept w w'

section
variable {A : Option Addr} {len cap : Nat} {l : List (Int × Int)}
theorem check_use (C : LCheckC) {v : Bool} (hn : l.length = len) (hs : SliceOk A len cap) (hl : len ≤ 1099511627776) (hv : v = true ↔ MayL l) (w : World) (hr : RowM w A l) : Calls Try.prog 17 #[.slice A len cap] w fun e w' => e = .returned (.bool v) ∧ Kept w w' := by
  subst hn; exact C A cap l v hs hl hv w hr
theorem put_use (C : LPutC) {len2 : Nat} {window at_ n er : Int} {l' : List (Int × Int)} (hn : l.length = len) (hn2 : l'.length = len2) (hs : SliceOk A len cap) (hl : len ≤ 1099511627776) (hi : ∀ m ∈ l, In64 m.1 ∧ In64 m.2) (hw : In64 window) (ha : In64 at_) (h0 : In64 n) (h : PutIs l window at_ n l' er) (w : World) (hr : RowM w A l) :
    Calls Try.prog 10 #[.slice A len cap, .int .i64 window, .int .i64 at_, .int .i64 n] w fun e w' => ∃ (B : Option Addr) (c : Nat), e = .returned (.tuple #[.slice B len2 c, .int .i64 er]) ∧ SliceOk B len2 c ∧ RowN w w' A B l' ∧ Kept w w' := by
  subst hn hn2; exact C A cap l window at_ n l' er hs hl hi hw ha h0 h w hr
theorem of_use (C : LOfC) {n : Int} {b : Bool} (hn : l.length = len) (hs : SliceOk A len cap) (hl : len ≤ 1099511627776) (h : LOfIs l n b) (w : World) (hr : RowM w A l) : Calls Try.prog 13 #[.slice A len cap] w fun e w' => e = .returned (.tuple #[.int .i64 n, .bool b]) ∧ Kept w w' := by
  subst hn; exact C A cap l n b hs hl h w hr
theorem since_use (C : LSinceC) {window at_ n : Int} {b : Bool} (hn : l.length = len) (hs : SliceOk A len cap) (hl : len ≤ 1099511627776) (hi : ∀ m ∈ l, In64 m.1 ∧ In64 m.2) (hw : In64 window) (ha : In64 at_) (h : SinceIs l window at_ n b) (w : World) (hr : RowM w A l) :
    Calls Try.prog 15 #[.slice A len cap, .int .i64 window, .int .i64 at_] w fun e w' => e = .returned (.tuple #[.int .i64 n, .bool b]) ∧ Kept w w' := by
  subst hn; exact C A cap l window at_ n b hs hl hi hw ha h w hr
end
theorem put_in64 {l l' : List (Int × Int)} {window at_ n er : Int} (h : PutIs l window at_ n l' er) (hi : ∀ m ∈ l, In64 m.1 ∧ In64 m.2) (ha : In64 at_) (hn : In64 n) : ∀ m ∈ l', In64 m.1 ∧ In64 m.2 := by
  rcases h with ⟨_, rfl, _⟩ | ⟨_, _, _, _, _, rfl, _⟩ | ⟨_, _, _, _, rfl, _⟩
  · exact hi
  · exact hi
  · intro m hm
    simp only [List.mem_append, List.mem_singleton] at hm
    rcases hm with hm | rfl
    · exact hi m (keptL_mem.1 hm).1
    · exact ⟨ha, hn⟩
theorem own_rowS {w : World} {base : Nat} {e : TypeId} {B : Option Addr} {n c : Nat} {l : List (Int × Int)} (h : w.ownsRow base e 2 (.slice B n c) n (flatM l)) (hn : l.length = n) : RowM w B l ∧ SliceOk B n c := by
  subst hn
  obtain ⟨B', c', he, hs, hr⟩ := own_rowM h
  cases he
  exact ⟨(hr { w with heap := #[] } (Nat.zero_le _) none).1, hs⟩
theorem own_rowV {w : World} {base : Nat} {e : TypeId} {v : Value} {n : Nat} {l : List (Int × Int)} (h : w.ownsRow base e 2 v n (flatM l)) (hn : l.length = n) : ∃ (B : Option Addr) (c : Nat), v = .slice B n c ∧ SliceOk B n c := by
  subst hn
  obtain ⟨B, c, he, hs, _⟩ := own_rowM h
  exact ⟨B, c, he, hs⟩
theorem lastOf_mk {l : List (Int × Int)} {j : Nat} (h : l.length = j + 1) : mk l j = lastOf l := by unfold lastOf; rw [h]; rfl
theorem ne_of_len {l : List (Int × Int)} {j : Nat} (h : l.length = j + 1) : l ≠ [] := fun e => by rw [e] at h; simp at h
theorem linv_time {l all : List (Int × Int)} {window : Int} (h : LInv l all window) (ha : all ≠ []) : IsTime (lastOf all).1 := by
  rcases h with ⟨_, e⟩ | ⟨_, _, _, _, _, h2, _⟩
  · exact absurd e ha
  · have hl : 0 < all.length := by
      rcases Nat.eq_zero_or_pos all.length with z | z
      · exact absurd (List.eq_nil_of_length_eq_zero z) ha
      · exact z
    exact (h2 (lastOf all) (mk_mem (by omega))).1
end Go.Proofs.Ytpbchcpbjflnoaa
