/-
  Plain words of layer 20: events.
-/
import Derived.Test.YtbpdimogigcacaaClock05
namespace Go.Proofs.Ytbpdimogigcacaa
open Go.RowKit

/-- An event: its kind, when, how many bytes, a time there and back. -/
abbrev Ev := Int × Int × Int × Int
def EvIn (e : Ev) : Prop := In64 e.1 ∧ In64 e.2.1 ∧ In64 e.2.2.1 ∧ In64 e.2.2.2
def rttV (k r : Int) : Int := if r ≠ 0 ∧ (k ≠ 1 ∨ r < 0 ∨ 1073741824 < r) then 201 else 0
/-- Whether an event may be: its error. -/
def chkV (e : Ev) : Int := if e.1 < 1 ∨ 7 < e.1 then 200 else if e.2.1 < 0 ∨ 1099511627776 < e.2.1 then 51 else
  if e.1 = 1 ∨ e.1 = 2 ∨ e.1 = 6 then (if e.2.2.1 < 1 ∨ 1073741824 < e.2.2.1 then 201 else rttV e.1 e.2.2.2) else if e.2.2.1 ≠ 0 then 201 else rttV e.1 e.2.2.2
def MayV (e : Ev) : Prop := (1 ≤ e.1 ∧ e.1 ≤ 7) ∧ (0 ≤ e.2.1 ∧ e.2.1 ≤ 1099511627776) ∧ (((e.1 = 1 ∨ e.1 = 2 ∨ e.1 = 6) ∧ 1 ≤ e.2.2.1 ∧ e.2.2.1 ≤ 1073741824) ∨ (¬ (e.1 = 1 ∨ e.1 = 2 ∨ e.1 = 6) ∧ e.2.2.1 = 0)) ∧ (e.2.2.2 = 0 ∨ (e.1 = 1 ∧ 0 ≤ e.2.2.2 ∧ e.2.2.2 ≤ 1073741824))
theorem chk_may {e : Ev} : chkV e = 0 ↔ MayV e := by
  unfold chkV MayV rttV
  repeat' split
  all_goals omega
theorem chk_vals (e : Ev) : chkV e = 0 ∨ chkV e = 200 ∨ chkV e = 51 ∨ chkV e = 201 := by
  unfold chkV rttV
  repeat' split
  all_goals omega
/-- What some numbers decode to. -/
def evOf (l : List Int) : Ev := (l.getD 0 0, l.getD 1 0, l.getD 2 0, l.getD 3 0)
def decE (l : List Int) : Int := if l.length = 4 then chkV (evOf l) else 201
def decV (l : List Int) : Ev := if l.length = 4 ∧ chkV (evOf l) = 0 then evOf l else (0, 0, 0, 0)
theorem dec_ok {l : List Int} (h : decE l = 0) : l.length = 4 ∧ decV l = evOf l ∧ MayV (decV l) := by
  unfold decE at h
  split at h
  · rename_i q
    have e : decV l = evOf l := by unfold decV; rw [if_pos ⟨q, h⟩]
    exact ⟨q, e, by rw [e]; exact chk_may.1 h⟩
  · cases h
theorem dec_no {l : List Int} (h : ¬ decE l = 0) : decV l = (0, 0, 0, 0) := by
  unfold decV decE at *
  split
  · rename_i q; rw [if_pos q.1] at h; exact absurd q.2 h
  · rfl
theorem dec_in {l : List Int} (h : ∀ n ∈ l, In64 n) : EvIn (decV l) := by
  unfold decV
  split
  · rename_i q
    have k : ∀ i, i < 4 → In64 (l.getD i 0) := fun i hi => by
      have : l.getD i 0 = l[i] := by simp [List.getD, show i < l.length by omega]
      rw [this]; exact h _ (List.getElem_mem _)
    exact ⟨k 0 (by omega), k 1 (by omega), k 2 (by omega), k 3 (by omega)⟩
  · unfold EvIn In64; decide
def ev0 (l : List Ev) (k : Nat) : Ev := l.getD k (0, 0, 0, 0)
def lastV (l : List Ev) : Ev := ev0 l (l.length - 1)
/-- One more: its error, and what is told then. -/
def stepE (out : List Ev) (x : List Int) : Int := if decE x = 0 ∧ out ≠ [] ∧ (decV x).2.1 < (lastV out).2.1 then 50 else decE x
def stepV (s : List Ev × List Int) (x : List Int) : List Ev × List Int := (if stepE s.1 x = 0 then s.1 ++ [decV x] else s.1, s.2 ++ [stepE s.1 x])
def allV (raw : List (List Int)) : List Ev × List Int := raw.foldl stepV ([], [])
theorem all_next (raw : List (List Int)) (x : List Int) : allV (raw ++ [x]) = stepV (allV raw) x := by unfold allV; rw [List.foldl_append]; rfl
theorem fold_len : ∀ (raw : List (List Int)) (s : List Ev × List Int), (raw.foldl stepV s).2.length = s.2.length + raw.length ∧ (raw.foldl stepV s).1.length ≤ s.1.length + raw.length
  | [], s => ⟨rfl, Nat.le_refl _⟩
  | x :: raw, s => by
    have h := fold_len raw (stepV s x)
    have e : (stepV s x).2.length = s.2.length + 1 := by unfold stepV; simp
    have e2 : (stepV s x).1.length ≤ s.1.length + 1 := by unfold stepV; simp only []; split <;> simp
    simp only [List.foldl_cons, List.length_cons]
    omega
theorem all_len (raw : List (List Int)) : (allV raw).2.length = raw.length ∧ (allV raw).1.length ≤ raw.length := by
  have := fold_len raw ([], []); unfold allV; simpa using this
/-- Events that rise, and may be. -/
def OkV (l : List Ev) : Prop := (∀ e ∈ l, MayV e) ∧ ∀ i, i + 1 < l.length → (ev0 l i).2.1 ≤ (ev0 l (i + 1)).2.1
theorem step_ok {s : List Ev × List Int} {x : List Int} (h : OkV s.1) : OkV (stepV s x).1 := by
  unfold stepV
  simp only []
  split
  · rename_i z
    have zd : decE x = 0 := by unfold stepE at z; split at z; cases z; exact z
    refine ⟨fun e he => ?_, fun i hi => ?_⟩
    · rcases List.mem_append.1 he with q | q
      · exact h.1 e q
      · simp at q; rw [q]; exact (dec_ok zd).2.2
    · rw [List.length_append, List.length_singleton] at hi
      by_cases l : i + 1 < s.1.length
      · have a1 : ev0 (s.1 ++ [decV x]) i = ev0 s.1 i := by unfold ev0; simp [List.getD, List.getElem?_append_left (show i < s.1.length by omega)]
        have a2 : ev0 (s.1 ++ [decV x]) (i + 1) = ev0 s.1 (i + 1) := by unfold ev0; simp [List.getD, List.getElem?_append_left l]
        rw [a1, a2]; exact h.2 i l
      · have e : i + 1 = s.1.length := by omega
        have a1 : ev0 (s.1 ++ [decV x]) i = lastV s.1 := by
          unfold lastV ev0; rw [← e]; simp [List.getD, List.getElem?_append_left (show i < s.1.length by omega)]
        have a2 : ev0 (s.1 ++ [decV x]) (i + 1) = decV x := by unfold ev0; rw [e]; simp [List.getD]
        rw [a1, a2]
        unfold stepE at z
        split at z
        · cases z
        · rename_i q
          have ne : s.1 ≠ [] := fun y => by rw [y] at e; simp at e
          rcases Int.lt_or_le (decV x).2.1 (lastV s.1).2.1 with y | y
          · exact absurd ⟨zd, ne, y⟩ q
          · exact y
  · exact h
theorem fold_ok : ∀ (raw : List (List Int)) (s : List Ev × List Int), OkV s.1 → OkV (raw.foldl stepV s).1
  | [], _, h => h
  | _ :: raw, _, h => fold_ok raw _ (step_ok h)
theorem all_ok (raw : List (List Int)) : OkV (allV raw).1 := fold_ok raw _ ⟨by simp, fun i h => absurd h (by simp)⟩
end Go.Proofs.Ytbpdimogigcacaa
