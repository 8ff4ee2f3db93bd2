/-
  The walk of SpanMakes.
-/
import Derived.Test.YtabnpidmhmebfaaDoorSpR
import Derived.Test.YtabnpidmhmebfaaDoorSpT
import Derived.Deep.RegionHeld3
namespace Go.Proofs.YtabnpidmhmebfaaDoor
open Go.RowKit

theorem keepA {w w' : World} {o : Obj} {p : Addr} {v : Value} (hb : Below (w.alloc o).heap.size (w.alloc o) w') (h : w.cell? p = some v) : w'.cell? p = some v :=
  bkeep hb (bkeep ((Below.refl _ w).alloc (Nat.le_refl _) o) h)
theorem newA2 {w w' : World} {a b : Value} {t : TypeId} (hb : Below (w.alloc (.cells #[a, b] t)).heap.size (w.alloc (.cells #[a, b] t)) w') : w'.cell? ⟨w.heap.size, 0, none⟩ = some a ∧ w'.cell? ⟨w.heap.size, 1, none⟩ = some b :=
  ⟨bkeep hb (by simp), bkeep hb (by simp)⟩
theorem Since.stepD {w a b : World} (h : Since w a) (k : Below a.drew.heap.size a.drew b) : Since w b := by
  have h' : Since w a.drew := Below.drew h.out
  exact h'.step k
theorem sinceA {w a b : World} {o : Obj} (h : Since w a) (k : Below (a.alloc o).heap.size (a.alloc o) b) : Since w b :=
  Since.step (w := w) (a := a.alloc o) (h.out.alloc h.out.size o) k

end Go.Proofs.YtabnpidmhmebfaaDoor
