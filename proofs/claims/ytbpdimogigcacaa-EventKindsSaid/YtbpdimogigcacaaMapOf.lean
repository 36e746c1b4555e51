/-
  A map of ints to anything, that the call itself has made: what is put in it, and what is looked up.
-/
import Derived.Test.YtbpdimogigcacaaApp
import Derived.MapKept
import Derived.Carry
import Derived.Maps.Own
namespace Go.Proofs.Ytbpdimogigcacaa
open Go.RowKit

/-- A block is a map of just these. -/
def MapAt (w : World) (b : Nat) (es : Array MapEntry) : Prop := ∃ c, w.heap[b]? = some (.map es c)
theorem MapAt.lt {w : World} {b : Nat} {es : Array MapEntry} (h : MapAt w b es) : b < w.heap.size := by
  obtain ⟨c, h⟩ := h
  exact (Array.getElem?_eq_some_iff.1 h).1
theorem MapAt.kept {w w' : World} {b : Nat} {es : Array MapEntry} (h : MapAt w b es) (k : Kept w w') : MapAt w' b es := by
  have hl := h.lt
  obtain ⟨c, h⟩ := h
  exact ⟨c, (k.2.block b hl).trans h⟩
theorem mapAt_new (w : World) : MapAt (w.alloc (.map #[] 0)) w.heap.size #[] := ⟨0, (MapKept.heap_alloc w _).1⟩
theorem Kept.allocMap {W w' : World} (h : Kept W w') (es : Array MapEntry) (c : Nat) : Kept W (w'.alloc (.map es c)) :=
  h.grownBy (World.grownBy_alloc w' _ Option.none) (fun a => frozen?_alloc_map w' es c a) (fun _ e => by cases e)
theorem frozen_setMap {w : World} {b : Nat} {es es' : Array MapEntry} {c c' : Nat} (hb : w.heap[b]? = some (.map es c)) (a : Addr) : World.frozen? { w with heap := w.heap.setIfInBounds b (.map es' c') } a = w.frozen? a := by
  by_cases h : a.block = b
  · subst h
    have e := (MapKept.heap_set (o' := .map es' c') hb).1
    simp only [World.frozen?, hb, e]
  · exact World.frozen?_of_block ((MapKept.heap_set (o' := .map es' c') hb).2 a.block h)

section
variable {P : Program} {w : World}

theorem map_put_run {t k e : TypeId} {b : Nat} {es : Array MapEntry} {c : Nat} {x : Int} {v : Value} (ht : P.underlying t = some (.map k e)) (hk : P.underlying k = some (.int .i64)) (hb : w.heap[b]? = some (.map es c))
    (hf : Instr.findNow (.int .i64) (.int .i64 x) es.toList 0 = some none) :
    (Instr.mapUpdate t (.map (some b)) (.int .i64 x) v).run P w = .ok () { w with heap := w.heap.setIfInBounds b (.map (es.push ⟨.int .i64 x, v, c⟩) (c + 1)) } := by
  have h1 := MapKept.run_checkKey (P := P) (w := w) (k := .int .i64 x) hk (by trivial) false 9999
  have h2 := MapKept.run_findKey (P := P) (w := w) hk hf
  simp [Instr.mapUpdate, run_underlying ht, MapKept.run_getObj_map hb, h1, h2, MapKept.run_setObj_map _ hb, Result.andThen]

/-- What is looked up is what lies there. -/
theorem map_look {t k e : TypeId} {b : Nat} {es : Array MapEntry} {x : Int} {i : Nat} {v : Value} (ht : P.underlying t = some (.map k e)) (hk : P.underlying k = some (.int .i64)) (hb : MapAt w b es)
    (hf : Instr.findNow (.int .i64) (.int .i64 x) es.toList 0 = some (some (i, v))) :
    (Instr.lookup t (.map (some b)) (.int .i64 x) false).run P w = .ok v w := by
  obtain ⟨c, hb⟩ := hb
  have h1 := MapKept.run_checkKey (P := P) (w := w) (k := .int .i64 x) hk (by trivial) es.isEmpty 9999
  have h2 := MapKept.run_findKey (P := P) (w := w) hk hf
  simp [Instr.lookup, run_underlying ht, MapKept.run_getObj_map hb, h1, h2, Result.andThen]

/-- What is looked up with 'v, ok' is what lies there. -/
theorem map_look_ok {t k e : TypeId} {b : Nat} {es : Array MapEntry} {x : Int} {i : Nat} {v : Value} (ht : P.underlying t = some (.map k e)) (hk : P.underlying k = some (.int .i64)) (hb : MapAt w b es)
    (hf : Instr.findNow (.int .i64) (.int .i64 x) es.toList 0 = some (some (i, v))) :
    (Instr.lookup t (.map (some b)) (.int .i64 x) true).run P w = .ok (.tuple #[v, .bool true]) w := by
  obtain ⟨c, hb⟩ := hb
  have h1 := MapKept.run_checkKey (P := P) (w := w) (k := .int .i64 x) hk (by trivial) es.isEmpty 9999
  have h2 := MapKept.run_findKey (P := P) (w := w) hk hf
  simp [Instr.lookup, run_underlying ht, MapKept.run_getObj_map hb, h1, h2, Result.andThen]
/-- What is not in it: the zero value, and no. -/
theorem map_miss_ok {t k e : TypeId} {b : Nat} {es : Array MapEntry} {x : Int} {z : Value} (ht : P.underlying t = some (.map k e)) (hk : P.underlying k = some (.int .i64)) (hz : (P.info? e).map (fun i => i.zero) = some (some z)) (hb : MapAt w b es)
    (hf : Instr.findNow (.int .i64) (.int .i64 x) es.toList 0 = some none) :
    (Instr.lookup t (.map (some b)) (.int .i64 x) true).run P w = .ok (.tuple #[z, .bool false]) w := by
  obtain ⟨c, hb⟩ := hb
  obtain ⟨i, hi, hz⟩ := Option.map_eq_some_iff.1 hz
  have h1 := MapKept.run_checkKey (P := P) (w := w) (k := .int .i64 x) hk (by trivial) es.isEmpty 9999
  have h2 := MapKept.run_findKey (P := P) (w := w) hk hf
  simp [Instr.lookup, run_underlying ht, MapKept.run_getObj_map hb, h1, h2, Result.andThen, zeroValue, typeInfo, hi, hz]

/-- The operation 'm[k] = v', k not yet in it. -/
theorem wpList_put_kept {ops : Array Oper} {rest : List Oper} {o : Oper} {a : Act} {Q : Exit → Act → World → Prop} (hg : o.guard = none) (m x v : Operand) (t : TypeId) (hop : o.op = Op.mapUpdate t m x v)
    (k e : TypeId) (ht : P.underlying t = some (.map k e)) (hk : P.underlying k = some (.int .i64)) (W : World) (b : Nat) (es : Array MapEntry) (n : Int) (val : Value)
    (hm : a.eval m = .map (some b)) (hx : a.eval x = .int .i64 n) (hv : a.eval v = val) (hb : MapAt w b es) (hf : Instr.findNow (.int .i64) (.int .i64 n) es.toList 0 = some none) (kW : Kept W w) (hW : W.heap.size ≤ b)
    (hK : ∀ w' c, MapAt w' b (es.push ⟨.int .i64 n, val, c⟩) → Kept W w' → w.grownBy w' (some b) → wpList P ops Q rest (a.put o.dst undef) w') :
    wpList P ops Q (o :: rest) a w := by
  refine wpList_plain hg fun K' hK' => ?_
  obtain ⟨c, hb⟩ := hb
  have hrun := map_put_run (P := P) (v := val) ht hk hb hf
  have hs := MapKept.heap_set (o' := .map (es.push ⟨.int .i64 n, val, c⟩) (c + 1)) hb
  have hgr : w.grownBy { w with heap := w.heap.setIfInBounds b (.map (es.push ⟨.int .i64 n, val, c⟩) (c + 1)) } (some b) := ⟨rfl, rfl, rfl, by simp, fun i _ hi => hs.2 i (fun e => hi (by rw [e]))⟩
  unfold Oper.wp
  simp [execOp, hop, hm, hx, hv, hrun, Result.andThen]
  exact hK' _ _ (hK _ c ⟨_, hs.1⟩ (kW.grownBy hgr (frozen_setMap hb) (fun k e => by cases e; exact hW)) hgr)
/-- The same in a map that is written out. -/
theorem wpList_insert_kept {ops : Array Oper} {rest : List Oper} {o : Oper} {a : Act} {Q : Exit → Act → World → Prop} (hg : o.guard = none) (m x v : Operand) (t : TypeId) (hop : o.op = Op.insert t m x v)
    (k e : TypeId) (ht : P.underlying t = some (.map k e)) (hk : P.underlying k = some (.int .i64)) (W : World) (b : Nat) (es : Array MapEntry) (n : Int) (val : Value)
    (hm : a.eval m = .map (some b)) (hx : a.eval x = .int .i64 n) (hv : a.eval v = val) (hb : MapAt w b es) (hf : Instr.findNow (.int .i64) (.int .i64 n) es.toList 0 = some none) (kW : Kept W w) (hW : W.heap.size ≤ b)
    (hK : ∀ w' c, MapAt w' b (es.push ⟨.int .i64 n, val, c⟩) → Kept W w' → w.grownBy w' (some b) → wpList P ops Q rest (a.put o.dst undef) w') :
    wpList P ops Q (o :: rest) a w := by
  refine wpList_plain hg fun K' hK' => ?_
  obtain ⟨c, hb⟩ := hb
  have hrun := map_put_run (P := P) (v := val) ht hk hb hf
  have hs := MapKept.heap_set (o' := .map (es.push ⟨.int .i64 n, val, c⟩) (c + 1)) hb
  have hgr : w.grownBy { w with heap := w.heap.setIfInBounds b (.map (es.push ⟨.int .i64 n, val, c⟩) (c + 1)) } (some b) := ⟨rfl, rfl, rfl, by simp, fun i _ hi => hs.2 i (fun e => hi (by rw [e]))⟩
  unfold Oper.wp
  simp [execOp, hop, hm, hx, hv, hrun, Result.andThen]
  exact hK' _ _ (hK _ c ⟨_, hs.1⟩ (kW.grownBy hgr (frozen_setMap hb) (fun k e => by cases e; exact hW)) hgr)
/-- The operation 'map[K]V{..}', ahead of what is put in it. -/
theorem wpList_map_kept {ops : Array Oper} {rest : List Oper} {o : Oper} {a : Act} {Q : Exit → Act → World → Prop} (hg : o.guard = none) (t : TypeId) (hop : o.op = Op.makeMap t none) (W : World) (kW : Kept W w)
    (hK : ∀ w' b, W.heap.size ≤ b → w.heap.size = b → MapAt w' b #[] → Kept W w' → wpList P ops Q rest (a.put o.dst (.map (some b))) w') :
    wpList P ops Q (o :: rest) a w := by
  refine wpList_plain hg fun K' hK' => ?_
  have hrun := run_makeMap (P := P) t w
  unfold Oper.wp
  simp [execOp, hop, hrun, Result.andThen]
  exact hK' _ _ (hK _ _ kW.2.size rfl (mapAt_new w) (kW.allocMap _ _))
end
end Go.Proofs.Ytbpdimogigcacaa
