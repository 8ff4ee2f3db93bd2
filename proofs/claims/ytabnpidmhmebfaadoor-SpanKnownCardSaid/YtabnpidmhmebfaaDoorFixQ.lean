/-
  The plain functions of the reference for layer 1: Right, told, Check, Add, Sub, Neg.
-/
import Derived.Test.YtabnpidmhmebfaaDoorFixJ
namespace Go.Proofs.YtabnpidmhmebfaaDoor
open Go.RowKit

end Go.Proofs.YtabnpidmhmebfaaDoor
