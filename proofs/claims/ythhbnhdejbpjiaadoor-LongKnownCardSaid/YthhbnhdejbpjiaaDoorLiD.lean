/-
  Boxes written anew; the helpers made, own, size.
-/
import Derived.Test.YthhbnhdejbpjiaaDoorLhF
import Derived.Deep.AppendLies
import Derived.Deep.RegionLaw
import Derived.BigRegion
namespace Go.Proofs.YthhbnhdejbpjiaaDoor
open Go.RowKit

theorem undrew3 {w w' : World} (h : Below w.drew.heap.size w.drew w') : Below w.heap.size w w' := (Below.refl w.heap.size w).drew.trans h
theorem lkeepB {w w' : World} {p : Addr} {v : Value} {B : Nat} (hb : Below B w w') (hp : p.block < B) (h : w.cell? p = some v) : w'.cell? p = some v := (hb.cell hp).trans h
theorem Bx.putP {w : World} {g : Nat} {x y : Value} {t : TypeId} (h : Bx w g x y t) (x' y' : Value) : Bx ((w.setCell ⟨g, 0, none⟩ x').setCell ⟨g, 1, none⟩ y') g x' y' t := (h.set0 x').set1 y'
theorem Bx.farP {w : World} {g h : Nat} {x y : Value} {t : TypeId} (k : Bx w h x y t) (hn : h ≠ g) (x' y' : Value) : Bx ((w.setCell ⟨g, 0, none⟩ x').setCell ⟨g, 1, none⟩ y') h x y t := (k.other hn x').other hn y'
theorem Lg.put {w : World} {V : Value} {z : Int} (L : Lg w V z) {g : Nat} {p : Bool} {a : Option Addr} {n k : Nat} {t : TypeId} (b : Bx w g (.bool p) (.slice a n k) t) (p' : Bool) (a' : Option Addr) (n' k' : Nat) : Lg ((w.setCell ⟨g, 0, none⟩ (.bool p')).setCell ⟨g, 1, none⟩ (.slice a' n' k')) V z := by
  obtain ⟨s, rfl, h⟩ := L
  exact ⟨s, rfl, h.boxed b (nb _) (ns _ _ _) _⟩

theorem made_lg {ng : Bool} {a : List Int} {k : Nat} {w : World} {v : Value} (da : Dg a) (hk : k ≤ a.length) (Ho : a.take k = dg (vl a)) (hv : Ls w v (a.take k)) :
    Lg w (.agg #[.bool (ng && decide ((0 : Int) < (k : Int))), v]) (if ng then -(vl a) else vl a) := by
  have v0 := vl_nonneg da
  have e : (((if ng then -(vl a) else vl a) : Int).natAbs : Int) = vl a := by cases ng <;> simp <;> omega
  refine ⟨v, ?_, by rw [e, ← Ho]; exact hv⟩
  have hl : (dg (vl a)).length = k := by rw [← Ho, List.length_take]; omega
  have h1 : 0 < k ↔ 0 < vl a := by
    constructor
    · intro h
      rcases (by omega : vl a = 0 ∨ 0 < vl a) with h' | h'
      · rw [h', dg_zero] at hl; simp at hl; omega
      · exact h'
    · intro h
      have := dg_len_pos h
      omega
  congr 3
  cases ng
  · simp; omega
  · simp
    constructor <;> intro h <;> omega

theorem own_heap {w w' : World} {base : Nat} {e : TypeId} {size : Nat} {v : Value} {n : Nat} {xs : List Value} (h : w.ownsRow base e size v n xs) (hh : w'.heap = w.heap) : w'.ownsRow base e size v n xs := by
  unfold World.ownsRow at *
  rw [hh]; exact h
theorem news_heap {w w' : World} (x : Value) (t : TypeId) (hh : w'.heap = (w.alloc (.cells #[x] t)).heap) : ∀ (j : Nat) (u : Value), [x][j]? = some u → w'.cell? (Addr.add ⟨w.heap.size, 0, none⟩ j) = some u := by
  intro j u h
  have := one_at w x t j u h
  rw [← this]
  exact World.cell?_of_block (by rw [hh])
end Go.Proofs.YthhbnhdejbpjiaaDoor
