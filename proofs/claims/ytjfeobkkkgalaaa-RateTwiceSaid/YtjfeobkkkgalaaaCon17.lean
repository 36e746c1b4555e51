/-
  What the calls of package rate are to do, as premises.
-/
import Derived.Test.YtjfeobkkkgalaaaTold17
import Derived.Test.YtjfeobkkkgalaaaFrame
namespace Go.Proofs.Ytjfeobkkkgalaaa
open Go.RowKit

def VGainC : Prop := ∀ (s : Bool) (a b : Int), numT s = a → denT s = b → ∀ w, Calls Try.prog 10 #[.bool s] w fun e w' => e = .returned (.tuple #[.int .i64 a, .int .i64 b]) ∧ Kept w w'
def VFirstC : Prop := ∀ w, Calls Try.prog 11 #[] w fun e w' => e = .returned (.int .i64 100000) ∧ Kept w w'
def VOfC : Prop := ∀ (v seg : Int) (b : Bool) (m f : Int) (s : Bool) (n : Int), In64 v → In64 seg → In64 m → In64 f → ofT v seg b m f s = n → ∀ w, Calls Try.prog 12 #[.int .i64 v, .int .i64 seg, .agg #[.bool b, .int .i64 m, .int .i64 f], .bool s] w fun e w' => e = .returned (.int .i64 n) ∧ Kept w w'
def VSpanC : Prop := ∀ v r n : Int, In64 v → In64 r → spanT v r = n → ∀ w, Calls Try.prog 14 #[.int .i64 v, .int .i64 r] w fun e w' => e = .returned (.int .i64 n) ∧ Kept w w'
end Go.Proofs.Ytjfeobkkkgalaaa
