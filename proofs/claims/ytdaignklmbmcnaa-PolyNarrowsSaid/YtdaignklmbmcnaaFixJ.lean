/-
  Walks of package fix: FromDec. And the closures of the statements' package.
-/
import Derived.Test.YtdaignklmbmcnaaFixI
namespace Go.Proofs.Ytdaignklmbmcnaa
open Go.RowKit

/-- Since the world w only memory was made: closed to the walk. -/
def Since (w w' : World) : Prop := Below w.heap.size w w'
theorem Since.refl (w : World) : Since w w := Below.refl _ _
theorem Since.out {w w' : World} (h : Since w w') : Below w.heap.size w w' := h
theorem Since.step {w a b : World} (h : Since w a) (k : Below a.heap.size a b) : Since w b := h.trans (k.mono h.size)

theorem pow10_bd (k : Nat) (h : k < 13) : 1 ≤ (10 ^ k : Nat) ∧ (10 ^ k : Nat) ≤ 1000000000000 := by
  have h1 : (10 ^ k : Nat) ≤ 10 ^ 12 := Nat.pow_le_pow_right (by omega) (by omega)
  have h2 := Nat.pow_pos (n := k) (show 0 < 10 by omega)
  omega

def decR (n k : Int) : Int × Int × Int :=
  if k < 0 ∨ 13 ≤ k then (0, 0, 2)
  else if (lim (rq false (n * 4294967296) (10 ^ k.toNat : Nat))).2 = 0 ∧ (lim (rq true (n * 4294967296) (10 ^ k.toNat : Nat))).2 = 0 then
    (rq false (n * 4294967296) (10 ^ k.toNat : Nat), rq true (n * 4294967296) (10 ^ k.toNat : Nat), 0) else (0, 0, 6)

theorem lim_cases (q : Int) : lim q = (q, 0) ∧ -4503599627370496 ≤ q ∧ q ≤ 4503599627370496 ∨ lim q = (0, 6) ∧ (q < -4503599627370496 ∨ 4503599627370496 < q) := by
  unfold lim; split <;> simp_all <;> omega

end Go.Proofs.Ytdaignklmbmcnaa
