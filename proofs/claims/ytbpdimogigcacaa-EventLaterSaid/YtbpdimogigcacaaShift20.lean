/-
  Raw events that all come so much later: plain words of layer 20.
-/
import Derived.Test.YtbpdimogigcacaaRefB20
import Derived.Test.YtbpdimogigcacaaRises20
namespace Go.Proofs.Ytbpdimogigcacaa
open Go.RowKit Go.BigFrame

/-- So much later. -/
def shV (d : Int) (e : Ev) : Ev := (e.1, e.2.1 + d, e.2.2.1, e.2.2.2)
def shL (d : Int) (x : List Int) : List Int := if 1 < x.length then x.set 1 (x.getD 1 0 + d) else x
theorem shL_len (d : Int) (x : List Int) : (shL d x).length = x.length := by unfold shL; split <;> simp
/-- Its time is of 32 bits, if there is one. -/
def GoodL (x : List Int) : Prop := 1 < x.length → 0 ≤ x.getD 1 0 ∧ x.getD 1 0 < 4294967296
theorem shL_dec {d : Int} (d0 : 0 ≤ d) (d1 : d ≤ 4294967295) {x : List Int} (g : GoodL x) : decE (shL d x) = decE x ∧ (decE x = 0 → decV (shL d x) = shV d (decV x)) := by
  by_cases h4 : x.length = 4
  · obtain ⟨p, q, r, s, rfl⟩ : ∃ p q r s, x = [p, q, r, s] := by
      match x, h4 with
      | [p, q, r, s], _ => exact ⟨p, q, r, s, rfl⟩
    have gq := g (by simp)
    have g0 : 0 ≤ q := gq.1
    have g1 : q < 4294967296 := gq.2
    have e : shL d [p, q, r, s] = [p, q + d, r, s] := rfl
    have c : chkV (p, q + d, r, s) = chkV (p, q, r, s) := by
      unfold chkV
      dsimp only
      rw [if_neg (show ¬ (q + d < 0 ∨ 1099511627776 < q + d) by omega), if_neg (show ¬ (q < 0 ∨ 1099511627776 < q) by omega)]
    have e1 : decE [p, q + d, r, s] = chkV (p, q + d, r, s) := by unfold decE; exact (if_pos rfl).trans rfl
    have e2 : decE [p, q, r, s] = chkV (p, q, r, s) := by unfold decE; exact (if_pos rfl).trans rfl
    rw [e, e1, e2, c]
    refine ⟨rfl, fun z => ?_⟩
    have v1 : decV [p, q + d, r, s] = (p, q + d, r, s) := by unfold decV; rw [if_pos ⟨rfl, c.trans z⟩]; rfl
    have v2 : decV [p, q, r, s] = (p, q, r, s) := by unfold decV; rw [if_pos ⟨rfl, z⟩]; rfl
    rw [v1, v2]; rfl
  · have e1 : decE (shL d x) = 201 := by unfold decE; rw [if_neg (by rw [shL_len]; exact h4)]
    have e2 : decE x = 201 := by unfold decE; rw [if_neg h4]
    rw [e1, e2]
    exact ⟨rfl, fun z => absurd z (by decide)⟩
theorem lastV_map {d : Int} {l : List Ev} (h : l ≠ []) : (lastV (l.map (shV d))).2.1 = (lastV l).2.1 + d := by
  have n : l.length - 1 < l.length := by cases l with
    | nil => exact absurd rfl h
    | cons a l => simp
  have e : lastV (l.map (shV d)) = shV d (lastV l) := by
    unfold lastV ev0
    rw [List.length_map]
    simp [List.getD, n]
  rw [e]; rfl
theorem shift_step {d : Int} (d0 : 0 ≤ d) (d1 : d ≤ 4294967295) {l : List Ev} {x : List Int} (g : GoodL x) : stepE (l.map (shV d)) (shL d x) = stepE l x := by
  obtain ⟨e, v⟩ := shL_dec d0 d1 g
  unfold stepE
  rw [e]
  by_cases z : decE x = 0
  · by_cases n : l = []
    · rw [n]; simp
    · have c : ((decV (shL d x)).2.1 < (lastV (l.map (shV d))).2.1) ↔ ((decV x).2.1 < (lastV l).2.1) := by
        rw [v z, lastV_map n]
        show (decV x).2.1 + d < _ ↔ _
        omega
      have n2 : l.map (shV d) ≠ [] := fun q => n (List.map_eq_nil_iff.1 q)
      by_cases b : (decV x).2.1 < (lastV l).2.1
      · rw [if_pos ⟨z, n2, c.2 b⟩, if_pos ⟨z, n, b⟩]
      · rw [if_neg (fun q => b (c.1 q.2.2)), if_neg (fun q => b q.2.2)]
  · rw [if_neg (fun q => z q.1), if_neg (fun q => z q.1)]
theorem shift_all {d : Int} (d0 : 0 ≤ d) (d1 : d ≤ 4294967295) {R : Nat → List Int} : ∀ j : Nat, (∀ i, i < j → GoodL (R i)) → aV (fun i => shL d (R i)) j = (aV R j).map (shV d) ∧ aB (fun i => shL d (R i)) j = aB R j
  | 0, _ => ⟨rfl, rfl⟩
  | j + 1, h => by
    obtain ⟨h1, h2⟩ := shift_all d0 d1 j (fun i hi => h i (by omega))
    have g := h j (by omega)
    have s := shift_step d0 d1 (l := aV R j) g
    rw [aV_next, aB_next, aV_next, aB_next, h1, h2, s]
    refine ⟨?_, rfl⟩
    by_cases z : stepE (aV R j) (R j) = 0
    · rw [if_pos z, if_pos z, List.map_append, List.map_singleton]
      have q : decE (R j) = 0 := by unfold stepE at z; split at z; cases z; exact z
      rw [(shL_dec d0 d1 g).2 q]
    · rw [if_neg z, if_neg z]
theorem ev0_map {d : Int} {l : List Ev} {i : Nat} (h : i < l.length) : ev0 (l.map (shV d)) i = shV d (ev0 l i) := by simp [ev0, List.getD, h]
theorem RowK.grown {κ : IntKind} {w w' : World} {A : Option Addr} {l : List Int} {row : Option Nat} (h : RowK κ w A l) (hg : w.grownBy w' row) (hn : ∀ a, A = some a → row ≠ some a.block) : RowK κ w' A l := fun h0 => by
  obtain ⟨b, off, e, hc⟩ := h h0
  exact ⟨b, off, e, fun i hi => hg.cell (hc i hi) (fun q => hn _ e q.symm)⟩
theorem shL_in {d : Int} (d0 : 0 ≤ d) (d1 : d ≤ 4294967295) {x : List Int} (g : GoodL x) (h : ∀ y ∈ x, In64 y) : ∀ y ∈ shL d x, In64 y := fun y hy => by
  unfold shL at hy
  split at hy
  · rename_i hl
    rcases List.mem_or_eq_of_mem_set hy with q | q
    · exact h y q
    · have := g hl; rw [q]; unfold In64; omega
  · exact h y hy
end Go.Proofs.Ytbpdimogigcacaa
