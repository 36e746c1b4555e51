/-
  'make' of a length and a greater room, 'copy' of elements of any size, and 'append' of none, on a slice that the call itself has made: what was there is kept.
-/
import Derived.Test.YtbpdimogigcacaaApp
import Derived.Laws.CopyOwn
namespace Go.Proofs.Ytbpdimogigcacaa
open Go.RowKit

section
variable {P : Program} {w : World}
theorem run_copy_size (w : World) (dT sT ty elem : TypeId) (i : TypeInfo) (size : Nat) (hu : P.underlying dT = some (.slice elem)) (hi : P.info? elem = some i) (hsize : i.size = size)
    (g o dLen dCap : Nat) (a : Addr) (sLen sCap : Nat) (cur : Array Value) (t : TypeId) (cs : List Value) (hg : w.heap[g]? = some (.cells cur t (0, 0))) (n : Nat) (hn : n = Nat.min sLen dLen) (hl : cs.length = n * size)
    (hsrc : ∀ j v, cs[j]? = some v → w.cell? (a.add j) = some v) (hfit : o + cs.length ≤ cur.size) (h1 : ∀ v ∈ cs, v.oneCell' = true) :
    (Builtin.copy_ #[dT, sT] ty #[.slice (some ⟨g, o, none⟩) dLen dCap, .slice (some a) sLen sCap]).run P w =
      .ok (goInt n) (w.setRow g (cur.toList.take o ++ cs ++ cur.toList.drop (o + cs.length)).toArray) := by
  have hld := run_loadCells_list (P := P) w a cs hsrc
  have hst := run_storeCells_at P g o t cs 0 cur w hg (by simpa using hfit) h1
  rw [hl] at hld
  simp [Builtin.copy_, run_underlying hu, Builtin.lenOf, Builtin.firstCells, sizeOf, typeInfo, hi, hsize, ← hn, hld, hst]
theorem run_copy_size_none (w : World) (dT sT ty elem : TypeId) (i : TypeInfo) (hu : P.underlying dT = some (.slice elem)) (hi : P.info? elem = some i) (g dLen dCap : Nat) :
    (Builtin.copy_ #[dT, sT] ty #[.slice (some ⟨g, 0, none⟩) dLen dCap, .slice none 0 0]).run P w = .ok (goInt 0) w := by
  simp [Builtin.copy_, run_underlying hu, Builtin.lenOf, Builtin.firstCells, sizeOf, typeInfo, hi, storeCells]

theorem grown_setRow (w : World) (g : Nat) (cs : Array Value) : w.grownBy (w.setRow g cs) (some g) :=
  ⟨rfl, rfl, rfl, by simp [World.setRow], fun k _ hk => setRow_other w g k cs (fun e => hk (by rw [e]))⟩

/-- 'copy' onto the whole length of a slice that the call has made. -/
theorem copy_own (W : World) (base : Nat) (hb : W.heap.size = base) (dT sT ty e : TypeId) (i : TypeInfo) (size : Nat) (hu : P.underlying dT = some (.slice e)) (hi : P.info? e = some i) (hsize : i.size = size)
    (g n c : Nat) (xs : List Value) (hown : w.ownsRow base e size (.slice (some ⟨g, 0, none⟩) n c) n xs) (hk : Kept W w)
    (A : Option Addr) (m mc : Nat) (hm : m = n) (hA : A = none → m = 0 ∧ mc = 0) (cs : List Value) (hl : cs.length = n * size) (hsrc : ∀ ad, A = some ad → ∀ j u, cs[j]? = some u → w.cell? (ad.add j) = some u) (h1 : ∀ u ∈ cs, u.oneCell' = true) :
    ∃ w', (Builtin.copy_ #[dT, sT] ty #[.slice (some ⟨g, 0, none⟩) n c, .slice A m mc]).run P w = .ok (goInt n) w' ∧ w'.ownsRow base e size (.slice (some ⟨g, 0, none⟩) n c) n cs ∧ Kept W w' ∧ w.grownBy w' (some g) := by
  subst hb
  subst hm
  rcases hown.2 with ⟨h0, _⟩ | ⟨g', cap', cur, hv, hbg, hgg, hnc, hcm, hcs, htake⟩
  · cases h0
  · cases hv
    cases A with
    | none =>
      obtain ⟨rfl, rfl⟩ := hA rfl
      refine ⟨w, run_copy_size_none w dT sT ty e i hu hi g _ _, ⟨hl, Or.inr ⟨g, c, cur, rfl, hbg, hgg, hnc, hcm, hcs, ?_⟩⟩, hk, World.grownBy.refl _ _⟩
      have : cs = [] := List.eq_nil_of_length_eq_zero (by simpa using hl)
      simp [this]
    | some ad =>
      have hfit : 0 + cs.length ≤ cur.size := by rw [hl, hcs, Nat.zero_add]; exact Nat.mul_le_mul_right _ hnc
      have r := run_copy_size (P := P) w dT sT ty e i size hu hi hsize g 0 m c ad m mc cur e cs hgg m (by simp) hl (hsrc ad rfl) hfit h1
      have hG := grown_setRow w g (cur.toList.take 0 ++ cs ++ cur.toList.drop (0 + cs.length)).toArray
      refine ⟨_, r, ⟨hl, Or.inr ⟨g, c, _, rfl, hbg, setRow_heap w g cur _ e (0, 0) hgg, hnc, hcm, ?_, ?_⟩⟩, hk.grownBy hG (fun x => thaw_setRow hgg x) (fun k h => by cases h; exact hbg), hG⟩
      · simp only [List.size_toArray, List.length_append, List.length_take, List.length_drop, Array.length_toList]; omega
      · simp [← hl]

/-- The operation 'copy(all, l)'. -/
theorem wpList_copy_kept {ops : Array Oper} {rest : List Oper} {o : Oper} {a : Act} {Q : Exit → Act → World → Prop} (hgd : o.guard = none) (d s : Operand) (dT sT : TypeId)
    (ho : o.op = .call { callee := .builtin .copy, args := #[d, s], argTypes := #[dT, sT] })
    (W : World) (base : Nat) (hb : W.heap.size = base) (e : TypeId) (i : TypeInfo) (size : Nat) (hu : P.underlying dT = some (.slice e)) (hi : P.info? e = some i) (hsize : i.size = size)
    (g n c : Nat) (xs : List Value) (hd : a.eval d = .slice (some ⟨g, 0, none⟩) n c) (hown : w.ownsRow base e size (.slice (some ⟨g, 0, none⟩) n c) n xs) (hk : Kept W w)
    (A : Option Addr) (m mc : Nat) (hs : a.eval s = .slice A m mc) (hm : m = n) (hA : A = none → m = 0 ∧ mc = 0) (cs : List Value) (hl : cs.length = n * size) (hsrc : ∀ ad, A = some ad → ∀ j u, cs[j]? = some u → w.cell? (ad.add j) = some u) (h1 : ∀ u ∈ cs, u.oneCell' = true)
    (h : ∀ w', w'.ownsRow base e size (.slice (some ⟨g, 0, none⟩) n c) n cs → Kept W w' → w.grownBy w' (some g) → wpList P ops Q rest (a.put o.dst (goInt n)) w') : wpList P ops Q (o :: rest) a w := by
  refine wpList_plain hgd fun K hK => ?_
  obtain ⟨w', hr, h2, h3, h4⟩ := copy_own (P := P) W base hb dT sT o.type e i size hu hi hsize g n c xs hown hk A m mc hm hA cs hl hsrc h1
  unfold Oper.wp execOp
  simp only [ho, resolve, invoke, builtin, Sem.run_bind, Sem.run_pure, Result.andThen_ok, List.map_toArray, List.map_cons, List.map_nil, hd, hs, hr]
  exact hK _ _ (h w' h2 h3 h4)

/-- The operation 'append(all, nil...)'. -/
theorem wpList_append_none_kept {ops : Array Oper} {rest : List Oper} {o : Oper} {a : Act} {Q : Exit → Act → World → Prop} (hgd : o.guard = none) (s x : Operand) (t : TypeId)
    (ho : o.op = .call { callee := .builtin .append, args := #[s, x], argTypes := #[t, t] })
    (base : Nat) (e : TypeId) (i : TypeInfo) (size : Nat) (ht : P.underlying t = some (.slice e)) (hi : P.info? e = some i)
    (v : Value) (n : Nat) (xs : List Value) (hs : a.eval s = v) (hown : w.ownsRow base e size v n xs) (hx : a.eval x = .slice none 0 0)
    (h : wpList P ops Q rest (a.put o.dst v) w) : wpList P ops Q (o :: rest) a w := by
  refine wpList_plain hgd fun K hK => ?_
  have hr := run_append_owned_none (P := P) w base t o.type e i size ht hi v n xs hown
  unfold Oper.wp execOp
  simp only [ho, resolve, invoke, builtin, Sem.run_bind, Sem.run_pure, Result.andThen_ok, List.map_toArray, List.map_cons, List.map_nil, hs, hx, hr]
  exact hK _ _ h

/-- The operation: 'make([]T, n, c)', n and c variables. -/
theorem wpList_make_len_kept {ops : Array Oper} {rest : List Oper} {o : Oper} {a : Act} {Q : Exit → Act → World → Prop} (hg : o.guard = none) (l c : Operand) (t : TypeId) (hop : o.op = Op.makeSlice t l c)
    (W : World) (base : Nat) (hb : W.heap.size = base) (e : TypeId) (i : TypeInfo) (z : Value) (size : Nat) (h1 : P.underlying t = some (.slice e)) (h2 : P.info? e = some i) (h3 : i.zero = some z) (h4 : i.size = size) (hk : Kept W w)
    (kl kc : IntKind) (L C : Int) (n m : Nat) (hl : a.eval l = .int kl L) (hc : a.eval c = .int kc C) (hL : L = (n : Int)) (hC : C = (m : Int)) (hnm : n ≤ m) (b2 : i.bytes * m ≤ 281474976710656) (b3 : m ≤ maxLen)
    (hK : ∀ w' xs, w'.ownsRow base e size (.slice (some ⟨w.heap.size, 0, none⟩) n m) n xs → Kept W w' → w.grownBy w' none → wpList P ops Q rest (a.put o.dst (.slice (some ⟨w.heap.size, 0, none⟩) n m)) w') :
    wpList P ops Q (o :: rest) a w := by
  subst hb
  refine wpList_plain hg fun K hK' => ?_
  have h63' : (m : Int) ≤ 9223372036854775807 := by have h := b3; simp only [maxLen] at h; omega
  have hb' : (i.bytes : Int) * (m : Int) ≤ 281474976710656 := by
    have h : ((i.bytes * m : Nat) : Int) ≤ 281474976710656 := by omega
    rwa [Int.natCast_mul] at h
  have r := run_make (P := P) w t e i z h1 h2 h3 kl kc n m (by omega) (by omega) hb' h63'
  simp only [Int.toNat_natCast] at r
  have hG := World.grownBy_alloc w (.cells (madeCells z.cells (m * i.size)) e) none
  subst hL
  subst hC
  subst h4
  unfold Oper.wp
  simp [execOp, hop, hl, hc, r, Result.andThen]
  refine hK' _ _ (hK _ ((madeCells z.cells (m * i.size)).toList.take (n * i.size)) ⟨?_, Or.inr ⟨_, m, _, rfl, hk.2.size, ?_, hnm, b3, size_madeCells _ _, rfl⟩⟩ (hk.grownBy hG (fun x => thaw_alloc w _ _ x) (fun k hk' => by cases hk')) hG)
  · rw [List.length_take, Array.length_toList, size_madeCells]
    have := Nat.mul_le_mul_right i.size hnm
    omega
  · show (w.heap.push _)[w.heap.size]? = _
    simp
end
end Go.Proofs.Ytbpdimogigcacaa
