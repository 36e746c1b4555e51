/-
  What the calls of package rto are to do, as premises.
-/
import Derived.Test.YtmdekgcgfcdppaaTold07
import Derived.Test.YtmdekgcgfcdppaaFrame
namespace Go.Proofs.Ytmdekgcgfcdppaa
open Go.RowKit

def BaseC : Prop := ∀ (b : Bool) (m f sg mx fi gn ls gt bu n : Int), BaseIs b m f gn n → ∀ w, Calls Try.prog 11 #[.agg #[.bool b, .int .i64 m, .int .i64 f], .agg #[.int .i64 sg, .int .i64 mx, .int .i64 fi, .int .i64 gn, .int .i64 ls, .int .i64 gt, .int .i64 bu]] w fun e w' => e = .returned (.int .i64 n) ∧ Kept w w'
def OfC : Prop := ∀ (b : Bool) (m f sg mx fi gn ls gt bu times v : Int), In64 times → OfIs b m f gn ls gt times v → ∀ w, Calls Try.prog 14 #[.agg #[.bool b, .int .i64 m, .int .i64 f], .agg #[.int .i64 sg, .int .i64 mx, .int .i64 fi, .int .i64 gn, .int .i64 ls, .int .i64 gt, .int .i64 bu], .int .i64 times] w fun e w' => e = .returned (.int .i64 v) ∧ Kept w w'
def BackC : Prop := ∀ (b : Bool) (m f sg mx fi gn ls gt bu times u : Int), In64 times → BackIs b m f gn ls gt times u → ∀ w, Calls Try.prog 15 #[.agg #[.bool b, .int .i64 m, .int .i64 f], .agg #[.int .i64 sg, .int .i64 mx, .int .i64 fi, .int .i64 gn, .int .i64 ls, .int .i64 gt, .int .i64 bu], .int .i64 times] w fun e w' => e = .returned (.int .i64 u) ∧ Kept w w'
def AllC : Prop := ∀ (b : Bool) (m f sg mx fi gn ls gt bu : Int) (A : Option Addr) (len cap : Nat) (zs : List Int) (V : Nat → Int), len ≤ 1000000 → (∀ k, k < len → In64 (zs.getD k 0) ∧ OfIs b m f gn ls gt (zs.getD k 0) (V k)) → ∀ w, RowAt w A len (fun j => .int .i64 (zs.getD j 0)) → Calls Try.prog 10 #[.agg #[.bool b, .int .i64 m, .int .i64 f], .agg #[.int .i64 sg, .int .i64 mx, .int .i64 fi, .int .i64 gn, .int .i64 ls, .int .i64 gt, .int .i64 bu], .slice A len cap] w fun e w' => ∃ (B : Option Addr) (c : Nat), e = .returned (.slice B len c) ∧ RowAt w' B len (fun j => .int .i64 (V j)) ∧ Kept w w'
end Go.Proofs.Ytmdekgcgfcdppaa
