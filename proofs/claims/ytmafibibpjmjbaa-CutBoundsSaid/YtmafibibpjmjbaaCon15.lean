/-
  What the calls of package cut are to do, as premises.
-/
import Derived.Test.YtmafibibpjmjbaaTold15
import Derived.Test.YtmafibibpjmjbaaFrame
namespace Go.Proofs.Ytmafibibpjmjbaa
open Go.RowKit

def TLeastC : Prop := ∀ v n : Int, In64 v → leastC v = n → ∀ w, Calls Try.prog 12 #[.int .i64 v] w fun e w' => e = .returned (.int .i64 n) ∧ Kept w w'
def TLossC : Prop := ∀ v last a b : Int, In64 v → In64 last → leastC v = a → fastN last (givG v) = b → ∀ w, Calls Try.prog 9 #[.int .i64 v, .int .i64 last] w fun e w' => e = .returned (.tuple #[.int .i64 a, .int .i64 b]) ∧ Kept w w'
def TTimeoutC : Prop := ∀ v last a b : Int, In64 v → In64 last → leastC v = a → fastN last (givG v) = b → ∀ w, Calls Try.prog 11 #[.int .i64 v, .int .i64 last] w fun e w' => e = .returned (.tuple #[.int .i64 131072, .int .i64 a, .int .i64 b]) ∧ Kept w w'
def TManyC : Prop := ∀ v k n : Int, In64 v → In64 k → manyC v k.toNat = n → ∀ w, Calls Try.prog 14 #[.int .i64 v, .int .i64 k] w fun e w' => e = .returned (.int .i64 n) ∧ Kept w w'
end Go.Proofs.Ytmafibibpjmjbaa
