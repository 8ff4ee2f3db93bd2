/-
  The plain functions of the reference for layer 1: Right, told, Check, Add, Sub, Neg.
-/
import Derived.Test.YtnfapdmbkpkkdaaFixJ
namespace Go.Proofs.Ytnfapdmbkpkkdaa
open Go.RowKit

end Go.Proofs.Ytnfapdmbkpkkdaa
