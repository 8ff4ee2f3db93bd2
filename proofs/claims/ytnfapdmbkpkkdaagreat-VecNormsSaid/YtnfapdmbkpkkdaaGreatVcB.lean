/-
  Package vec: operations on the components of vectors; sums, norms; calculators of one or two vectors.
-/
import Derived.Test.YtnfapdmbkpkkdaaGreatVcA
import Derived.Deep.RegionHeld3
import Derived.Deep.DeepCutAuto
namespace Go.Proofs.YtnfapdmbkpkkdaaGreat
open Go.RowKit

theorem fo_assoc (e x y : Int) : fo (fo e x) y = fo e (fo x y) := by
  unfold fo
  by_cases h : e = 0
  · rw [if_pos h, if_pos h]
  · rw [if_neg h, if_neg h, if_neg h]
theorem fo_zero (x : Int) : fo 0 x = x := if_pos rfl
/-- Three intervals and an error. -/
structure VR where
  x0 : Int
  x1 : Int
  y0 : Int
  y1 : Int
  z0 : Int
  z1 : Int
  e : Int
def vPairR (R : Int → Int → Int → Int → Int × Int × Int) (a0 a1 a2 a3 a4 a5 b0 b1 b2 b3 b4 b5 : Int) : VR :=
  ⟨(R a0 a1 b0 b1).1, (R a0 a1 b0 b1).2.1, (R a2 a3 b2 b3).1, (R a2 a3 b2 b3).2.1, (R a4 a5 b4 b5).1, (R a4 a5 b4 b5).2.1, fo (R a0 a1 b0 b1).2.2 (fo (R a2 a3 b2 b3).2.2 (R a4 a5 b4 b5).2.2)⟩
def vEachR (R : Int → Int → Int × Int × Int) (a0 a1 a2 a3 a4 a5 : Int) : VR :=
  ⟨(R a0 a1).1, (R a0 a1).2.1, (R a2 a3).1, (R a2 a3).2.1, (R a4 a5).1, (R a4 a5).2.1, fo (R a0 a1).2.2 (fo (R a2 a3).2.2 (R a4 a5).2.2)⟩
theorem Bn.far6 {w : World} {g h : Nat} {xs : Array Value} {t : TypeId} (k : Bn w h xs t) (hn : h ≠ g) (u0 u1 u2 u3 u4 u5 : Value) :
    Bn ((((((w.setCell ⟨g, 0, none⟩ u0).setCell ⟨g, 1, none⟩ u1).setCell ⟨g, 2, none⟩ u2).setCell ⟨g, 3, none⟩ u3).setCell ⟨g, 4, none⟩ u4).setCell ⟨g, 5, none⟩ u5) h xs t :=
  (((((k.far hn 0 u0).far hn 1 u1).far hn 2 u2).far hn 3 u3).far hn 4 u4).far hn 5 u5
theorem cellFar6 {w : World} {g h i : Nat} {x : Value} (k : w.cell? ⟨h, i, none⟩ = some x) (hn : h ≠ g) (u0 u1 u2 u3 u4 u5 : Value) :
    ((((((w.setCell ⟨g, 0, none⟩ u0).setCell ⟨g, 1, none⟩ u1).setCell ⟨g, 2, none⟩ u2).setCell ⟨g, 3, none⟩ u3).setCell ⟨g, 4, none⟩ u4).setCell ⟨g, 5, none⟩ u5).cell? ⟨h, i, none⟩ = some x :=
  (((((((Ke.refl g w).trans (Ke.set _ g 0 u0)).trans (Ke.set _ g 1 u1)).trans (Ke.set _ g 2 u2)).trans (Ke.set _ g 3 u3)).trans (Ke.set _ g 4 u4)).trans (Ke.set _ g 5 u5)).cellK k hn
theorem cellFar2 {w : World} {g h i : Nat} {x : Value} (k : w.cell? ⟨h, i, none⟩ = some x) (hn : h ≠ g) (u0 u1 : Value) : ((w.setCell ⟨g, 0, none⟩ u0).setCell ⟨g, 1, none⟩ u1).cell? ⟨h, i, none⟩ = some x :=
  (((Ke.refl g w).trans (Ke.set _ g 0 u0)).trans (Ke.set _ g 1 u1)).cellK k hn
theorem cellDrewI {w : World} {p : Addr} {v : Value} (h : w.cell? p = some v) : w.drew.cell? p = some v := h
theorem vUndrew {w w' : World} (h : Below w.drew.heap.size w.drew w') : Below w.heap.size w w' := (Below.refl w.heap.size w).drew.trans h
theorem vUnalloc {w w' : World} {o : Obj} (h : Below (w.alloc o).heap.size (w.alloc o) w') : Below w.heap.size w w' := ((Below.refl w.heap.size w).alloc (Nat.le_refl _) o).trans (h.mono (by simp))
theorem below6 {B g : Nat} {v w : World} (h : Below B v w) (hg : B ≤ g) (u0 u1 u2 u3 u4 u5 : Value) :
    Below B v ((((((w.setCell ⟨g, 0, none⟩ u0).setCell ⟨g, 1, none⟩ u1).setCell ⟨g, 2, none⟩ u2).setCell ⟨g, 3, none⟩ u3).setCell ⟨g, 4, none⟩ u4).setCell ⟨g, 5, none⟩ u5) :=
  (((((h.setCell hg u0).setCell hg u1).setCell hg u2).setCell hg u3).setCell hg u4).setCell hg u5
theorem below2 {B g : Nat} {v w : World} (h : Below B v w) (hg : B ≤ g) (u0 u1 : Value) : Below B v ((w.setCell ⟨g, 0, none⟩ u0).setCell ⟨g, 1, none⟩ u1) := (h.setCell hg u0).setCell hg u1
theorem clDrew {w : World} {p : Nat} {e : Int} (h : Cl w p e) : Cl w.drew p e := h
theorem keDrew {c : Nat} {w w' : World} (h : Ke c w.drew w') : Ke c w w' := ⟨h.os, h.tape, h.output, h.size, h.block⟩
theorem Bn.far2 {w : World} {g h : Nat} {xs : Array Value} {t : TypeId} (k : Bn w h xs t) (hn : h ≠ g) (u0 u1 : Value) : Bn ((w.setCell ⟨g, 0, none⟩ u0).setCell ⟨g, 1, none⟩ u1) h xs t :=
  (k.far hn 0 u0).far hn 1 u1
theorem Ke.put6 {c g : Nat} {w u : World} (h : Ke c w u) (hg : w.heap.size ≤ g) (u0 u1 u2 u3 u4 u5 : Value) :
    Ke c w ((((((u.setCell ⟨g, 0, none⟩ u0).setCell ⟨g, 1, none⟩ u1).setCell ⟨g, 2, none⟩ u2).setCell ⟨g, 3, none⟩ u3).setCell ⟨g, 4, none⟩ u4).setCell ⟨g, 5, none⟩ u5) :=
  (((((h.put hg 0 u0).put hg 1 u1).put hg 2 u2).put hg 3 u3).put hg 4 u4).put hg 5 u5
theorem Ke.put2 {c g : Nat} {w u : World} (h : Ke c w u) (hg : w.heap.size ≤ g) (u0 u1 : Value) : Ke c w ((u.setCell ⟨g, 0, none⟩ u0).setCell ⟨g, 1, none⟩ u1) :=
  (h.put hg 0 u0).put hg 1 u1
end Go.Proofs.YtnfapdmbkpkkdaaGreat
