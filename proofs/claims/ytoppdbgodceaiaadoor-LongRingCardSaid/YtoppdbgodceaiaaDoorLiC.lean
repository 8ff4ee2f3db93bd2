/-
  Boxes that are written anew; the statements' helper size.
-/
import Derived.Test.YtoppdbgodceaiaaDoorLhF
namespace Go.Proofs.YtoppdbgodceaiaaDoor
open Go.RowKit

theorem undrew3 {w w' : World} (h : Below w.drew.heap.size w.drew w') : Below w.heap.size w w' := (Below.refl w.heap.size w).drew.trans h
theorem lkeepB {w w' : World} {p : Addr} {v : Value} {B : Nat} (hb : Below B w w') (hp : p.block < B) (h : w.cell? p = some v) : w'.cell? p = some v := (hb.cell hp).trans h
theorem Bx.putP {w : World} {g : Nat} {x y : Value} {t : TypeId} (h : Bx w g x y t) (x' y' : Value) : Bx ((w.setCell ⟨g, 0, none⟩ x').setCell ⟨g, 1, none⟩ y') g x' y' t := (h.set0 x').set1 y'
theorem Bx.farP {w : World} {g h : Nat} {x y : Value} {t : TypeId} (k : Bx w h x y t) (hn : h ≠ g) (x' y' : Value) : Bx ((w.setCell ⟨g, 0, none⟩ x').setCell ⟨g, 1, none⟩ y') h x y t := (k.other hn x').other hn y'
theorem Lg.put {w : World} {V : Value} {z : Int} (L : Lg w V z) {g : Nat} {p : Bool} {a : Option Addr} {n k : Nat} {t : TypeId} (b : Bx w g (.bool p) (.slice a n k) t) (p' : Bool) (a' : Option Addr) (n' k' : Nat) : Lg ((w.setCell ⟨g, 0, none⟩ (.bool p')).setCell ⟨g, 1, none⟩ (.slice a' n' k')) V z := by
  obtain ⟨s, rfl, h⟩ := L
  exact ⟨s, rfl, h.boxed b (nb _) (ns _ _ _) _⟩
end Go.Proofs.YtoppdbgodceaiaaDoor
