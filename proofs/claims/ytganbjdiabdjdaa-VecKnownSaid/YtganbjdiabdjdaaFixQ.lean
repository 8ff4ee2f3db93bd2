/-
  The plain functions of the reference for layer 1: Right, told, Check, Add, Sub, Neg.
-/
import Derived.Test.YtganbjdiabdjdaaFixJ
namespace Go.Proofs.Ytganbjdiabdjdaa
open Go.RowKit

end Go.Proofs.Ytganbjdiabdjdaa
