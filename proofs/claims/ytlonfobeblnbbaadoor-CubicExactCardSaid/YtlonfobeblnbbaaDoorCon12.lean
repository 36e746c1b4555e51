/-
  What the calls of package cubic are to do, as premises.
-/
import Derived.Test.YtlonfobeblnbbaaDoorTold12
import Derived.Test.YtlonfobeblnbbaaDoorCon11
namespace Go.Proofs.YtlonfobeblnbbaaDoor
open Go.RowKit

def URiseC : Prop := ∀ d n : Int, In64 d → riseN d = n → ∀ w, Calls Tryd.prog 13 #[.int .i64 d] w fun e w' => e = .returned (.int .i64 n) ∧ Kept w w'
def UAtC : Prop := ∀ (h : Ep) (now n : Int), In64E h → In64 now → atN h now = n → ∀ w, Tens w → Calls Tryd.prog 15 #[.agg #[.bool h.on, .int .i64 h.start, .int .i64 h.first, .int .i64 h.most, .int .i64 h.k, .int .i64 h.est], .int .i64 now] w fun e w' => e = .returned (.int .i64 n) ∧ Kept w w'
def UTargetC : Prop := ∀ (h : Ep) (now v n : Int), In64E h → In64 now → In64 v → targetN h now v = n → ∀ w, Tens w → Calls Tryd.prog 17 #[.agg #[.bool h.on, .int .i64 h.start, .int .i64 h.first, .int .i64 h.most, .int .i64 h.k, .int .i64 h.est], .int .i64 now, .int .i64 v] w fun e w' => e = .returned (.int .i64 n) ∧ Kept w w'
def UReachC : Prop := ∀ (h : Ep) (v n : Int) (b : Bool), In64E h → In64 v → ReachIs h v n b → ∀ w, Tens w → Calls Tryd.prog 11 #[.agg #[.bool h.on, .int .i64 h.start, .int .i64 h.first, .int .i64 h.most, .int .i64 h.k, .int .i64 h.est], .int .i64 v] w fun e w' => e = .returned (.tuple #[.int .i64 n, .bool b]) ∧ Kept w w'
end Go.Proofs.YtlonfobeblnbbaaDoor
