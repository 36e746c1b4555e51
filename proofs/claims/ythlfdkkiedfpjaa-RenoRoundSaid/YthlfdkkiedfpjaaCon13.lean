/-
  What the calls of package reno are to do, as premises.
-/
import Derived.Test.YthlfdkkiedfpjaaTold13
import Derived.Test.YthlfdkkiedfpjaaFrame
namespace Go.Proofs.Ythlfdkkiedfpjaa
open Go.RowKit

def NPartC : Prop := ∀ est prior a b : Int, In64 est → In64 prior → numR est prior = a → denR est prior = b → ∀ w, Calls Try.prog 9 #[.int .i64 est, .int .i64 prior] w fun e w' => e = .returned (.tuple #[.int .i64 a, .int .i64 b]) ∧ Kept w w'
def NStepC : Prop := ∀ est prior v told n : Int, In64 est → In64 prior → In64 v → In64 told → stepR est prior v told = n → ∀ w, Calls Try.prog 10 #[.int .i64 est, .int .i64 prior, .int .i64 v, .int .i64 told] w fun e w' => e = .returned (.int .i64 n) ∧ Kept w w'
def NStepsC : Prop := ∀ (A : Option Addr) (cap : Nat) (l : List Int) (est prior v n : Int), l.length ≤ cap → cap ≤ 9223372036854775807 → l.length ≤ 1099511627776 → (∀ x ∈ l, In64 x) → In64 est → In64 prior → In64 v → stepsR est prior v l = n → ∀ w, RowAt w A l.length (fun k => .int .i64 (l.getD k 0)) → Calls Try.prog 12 #[.int .i64 est, .int .i64 prior, .int .i64 v, .slice A l.length cap] w fun e w' => e = .returned (.int .i64 n) ∧ Kept w w'
theorem steps_use (C : NStepsC) {A : Option Addr} {len cap : Nat} {l : List Int} {est prior v n : Int} (hn : l.length = len) (hc : len ≤ cap) (hm : cap ≤ 9223372036854775807) (hl : len ≤ 1099511627776) (hi : ∀ x ∈ l, In64 x) (he : In64 est) (hp : In64 prior) (hv : In64 v) (h : stepsR est prior v l = n) (w : World) (hr : RowAt w A len (fun k => .int .i64 (l.getD k 0))) : Calls Try.prog 12 #[.int .i64 est, .int .i64 prior, .int .i64 v, .slice A len cap] w fun e w' => e = .returned (.int .i64 n) ∧ Kept w w' := by
  subst hn; exact C A cap l est prior v n hc hm hl hi he hp hv h w hr
end Go.Proofs.Ythlfdkkiedfpjaa
