/-
  What the walks of the statements about pairs of intervals share.
-/
import Derived.Test.YtabnpidmhmebfaaDoorSpV
import Derived.Test.YtabnpidmhmebfaaDoorSpW
namespace Go.Proofs.YtabnpidmhmebfaaDoor
open Go.RowKit

theorem PrsAt.alloc {w : World} {B : Nat} {f : Nat → Int × Int × Int × Int} {o : Obj} (h : PrsAt w B f) : PrsAt (w.alloc o) B f := h.keep ((Below.refl w.heap.size w).alloc (Nat.le_refl _) o)
theorem newA4 {w w' : World} {a b c d : Value} {t : TypeId} (hb : Below (w.alloc (.cells #[a, b, c, d] t)).heap.size (w.alloc (.cells #[a, b, c, d] t)) w') :
    w'.cell? ⟨w.heap.size, 0, none⟩ = some a ∧ w'.cell? ⟨w.heap.size, 1, none⟩ = some b ∧ w'.cell? ⟨w.heap.size, 2, none⟩ = some c ∧ w'.cell? ⟨w.heap.size, 3, none⟩ = some d :=
  ⟨bkeep hb (by simp), bkeep hb (by simp), bkeep hb (by simp), bkeep hb (by simp)⟩
theorem Since.alloc {w a : World} {o : Obj} (h : Since w a) : Since w (a.alloc o) := Below.alloc h.out h.out.size o
theorem cellHere0 (w : World) (x y : Value) (t : TypeId) : (w.alloc (.cells #[x, y] t)).cell? ⟨w.heap.size, 0, none⟩ = some x := by simp
theorem cellHere1 (w : World) (x y : Value) (t : TypeId) : (w.alloc (.cells #[x, y] t)).cell? ⟨w.heap.size, 1, none⟩ = some y := by simp

theorem ownFst (w : World) (x y : Value) (t : TypeId) (o : Obj) (k : Nat) (hk : k = w.heap.size) : Own ((w.alloc (.cells #[x, y] t)).alloc o) k x y := by subst hk; exact ownAlloc (ownHere w x y t)
theorem ownSnd (w : World) (x y : Value) (t : TypeId) (k : Nat) (hk : k = w.heap.size) : Own (w.alloc (.cells #[x, y] t)) k x y := by subst hk; exact ownHere w x y t
theorem Own.drew {w : World} {b : Nat} {x y : Value} (h : Own w b x y) : Own w.drew b x y := h
theorem PrsAt.drew {w : World} {B : Nat} {f : Nat → Int × Int × Int × Int} (h : PrsAt w B f) : PrsAt w.drew B f := h
theorem Since.drew {w a : World} (h : Since w a) : Since w a.drew := Below.drew h.out

/-- A box of two cells, written anew: what else lies stays. -/
theorem cellSet2 {w : World} {b : Nat} {x y v : Value} {p : Addr} (h : w.cell? p = some v) (hne : p.block ≠ b) : ((w.setCell ⟨b, 0, none⟩ x).setCell ⟨b, 1, none⟩ y).cell? p = some v := by
  rw [World.cell?_setCell_far _ _ _ _ (fun e => hne e.symm), World.cell?_setCell_far _ _ _ _ (fun e => hne e.symm)]; exact h
theorem PrsAt.set2 {w : World} {B b : Nat} {f : Nat → Int × Int × Int × Int} {x y : Value} (h : PrsAt w B f) (hne : B ≠ b) : PrsAt ((w.setCell ⟨b, 0, none⟩ x).setCell ⟨b, 1, none⟩ y) B f :=
  fun i hi => ⟨cellSet2 (h i hi).1 hne, cellSet2 (h i hi).2.1 hne, cellSet2 (h i hi).2.2.1 hne, cellSet2 (h i hi).2.2.2 hne⟩
theorem Since.set2 {w a : World} {b : Nat} {x y : Value} (h : Since w a) (hb : w.heap.size ≤ b) : Since w ((a.setCell ⟨b, 0, none⟩ x).setCell ⟨b, 1, none⟩ y) :=
  Below.setCell (Below.setCell h.out hb x) hb y
theorem Own.of_set2 {w : World} {b : Nat} {x y x' y' : Value} (h : Own w b x y) : Own ((w.setCell ⟨b, 0, none⟩ x').setCell ⟨b, 1, none⟩ y') b x' y' := by
  obtain ⟨h0, h1, h2, h3, h4⟩ := h
  refine ⟨?_, ?_, ?_, ?_, by simpa using h4⟩ <;> simp [go_sem, h0, h1, h2, h3]
theorem Own.far_set2 {w : World} {b b' : Nat} {x y x' y' : Value} (h : Own w b x y) (hne : b ≠ b') : Own ((w.setCell ⟨b', 0, none⟩ x').setCell ⟨b', 1, none⟩ y') b x y := by
  obtain ⟨h0, h1, h2, h3, h4⟩ := h
  exact ⟨cellSet2 h0 hne, cellSet2 h1 hne, by simpa using h2, by simpa using h3, by simpa using h4⟩

end Go.Proofs.YtabnpidmhmebfaaDoor
