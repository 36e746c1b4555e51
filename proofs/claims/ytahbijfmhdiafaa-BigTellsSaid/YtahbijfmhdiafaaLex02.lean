/-
  That the great region of 'awake' may be walked in the order of its text: facts of their own, in parts, for they take the kernel much room.
-/
import Derived.Test.YtahbijfmhdiafaaRows
import Derived.BigQuiet
namespace Go.Proofs.Ytahbijfmhdiafaa

/-- The operations of a region, by its number. -/
def regionOps (id : Nat) : Code → Option (Array Oper)
  | .region i ops _ => if i = id then some ops else none
  | .seq a b => match regionOps id a with
    | some x => some x
    | none => regionOps id b
  | .block _ c => regionOps id c
  | .loop c => regionOps id c
  | .cond _ a b => match regionOps id a with
    | some x => some x
    | none => regionOps id b
  | _ => none

/-- Some of the text's order. -/
def lexPart (md : Region.Mode) (ops : Array Oper) : Nat → Nat → Array Bool → Bool
  | 0, _, _ => true
  | f + 1, k, listed => (Region.ready md ops listed).contains k && Region.free md ops listed k && lexPart md ops f (k + 1) (listed.setIfInBounds k true)
/-- The marks behind it. -/
def marks : Nat → Nat → Array Bool → Array Bool
  | 0, _, listed => listed
  | f + 1, k, listed => marks f (k + 1) (listed.setIfInBounds k true)
theorem lex_split (md : Region.Mode) (ops : Array Oper) (n : Nat) : ∀ (m k : Nat) (listed : Array Bool), lexPart md ops m k listed = true → Region.lexFrom md ops n (k + m) (marks m k listed) = true → Region.lexFrom md ops (m + n) k listed = true
  | 0, k, listed, _, h => by simpa [marks] using h
  | m + 1, k, listed, p, h => by
    simp only [lexPart, Bool.and_eq_true] at p
    rw [show m + 1 + n = (m + n) + 1 by omega]
    simp only [Region.lexFrom, Bool.and_eq_true]
    refine ⟨p.1, lex_split md ops n m (k + 1) _ p.2 ?_⟩
    rw [show k + 1 + m = k + (m + 1) by omega]
    exact h

noncomputable def awakeOps : Array Oper := (Try.f9.body.bind (regionOps 10)).getD #[]
theorem awake_size : awakeOps.size = 92 := by kernel_rfl
theorem awake_none : Region.noSelect awakeOps = true := by kernel_rfl
noncomputable def marks0 : Array Bool := Array.replicate 92 false
theorem awake_p1 : lexPart .any awakeOps 12 0 marks0 = true := by kernel_rfl
theorem awake_p2 : lexPart .any awakeOps 12 12 (marks 12 0 marks0) = true := by kernel_rfl
theorem awake_p3 : lexPart .any awakeOps 16 24 (marks 12 12 (marks 12 0 marks0)) = true := by kernel_rfl
theorem awake_p4 : lexPart .any awakeOps 20 40 (marks 16 24 (marks 12 12 (marks 12 0 marks0))) = true := by kernel_rfl
theorem awake_p5 : Region.lexFrom .any awakeOps 32 60 (marks 20 40 (marks 16 24 (marks 12 12 (marks 12 0 marks0)))) = true := by kernel_rfl
theorem lexB_awake : Region.lexB .any awakeOps = true := by
  unfold Region.lexB
  rw [awake_none, awake_size, Bool.true_and]
  exact lex_split .any _ 80 12 0 _ awake_p1 (lex_split .any _ 68 12 12 _ awake_p2 (lex_split .any _ 52 16 24 _ awake_p3 (lex_split .any _ 32 20 40 _ awake_p4 awake_p5)))

end Go.Proofs.Ytahbijfmhdiafaa
