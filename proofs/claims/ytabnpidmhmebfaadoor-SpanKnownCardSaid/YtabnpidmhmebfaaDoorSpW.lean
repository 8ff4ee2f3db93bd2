/-
  The reference for layer 2: result, Add, Sub, Neg, Abs, Min, Max, Hull, Meet, Has, Mid, Width, Sign.
-/
import Derived.Test.YtabnpidmhmebfaaDoorSpS
namespace Go.Proofs.YtabnpidmhmebfaaDoor
open Go.RowKit

def resR (l h : Int) (f : Bool) : Int × Int × Int := if f = true then limS l h else (0, 0, 6)

theorem undrewW {A B : World} (h : Below A.drew.heap.size A.drew B) : Below A.heap.size A B := (Below.drew (Below.refl A.heap.size A)).trans h

end Go.Proofs.YtabnpidmhmebfaaDoor
