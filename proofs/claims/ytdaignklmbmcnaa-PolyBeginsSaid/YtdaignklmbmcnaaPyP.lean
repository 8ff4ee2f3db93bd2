/-
  What the walks of layer 8's statements share: boxes, rows of the call's own.
-/
import Derived.Test.YtdaignklmbmcnaaPyJ
namespace Go.Proofs.Ytdaignklmbmcnaa
open Go.RowKit

/-- A box of two numbers of the call's own. -/
def B2F (w : World) (b : Nat) (x y : Int) : Prop := w.cell? ⟨b, 0, none⟩ = some (.int .i64 x) ∧ w.cell? ⟨b, 1, none⟩ = some (.int .i64 y) ∧ w.frozen? ⟨b, 0, none⟩ = false ∧ w.frozen? ⟨b, 1, none⟩ = false
theorem B2F.lt {w : World} {b : Nat} {x y : Int} (h : B2F w b x y) : b < w.heap.size := by
  have := World.block_lt_of_cell? w _ h.1
  simpa using this
theorem B2F.keep {w w' : World} {b : Nat} {x y : Int} (h : B2F w b x y) (hb : Below w.heap.size w w') : B2F w' b x y :=
  ⟨bkeep hb h.1, bkeep hb h.2.1, (hb.frozen (p := ⟨b, 0, none⟩) h.lt).trans h.2.2.1, (hb.frozen (p := ⟨b, 1, none⟩) h.lt).trans h.2.2.2⟩
theorem B2F.alloc {w : World} {b : Nat} {x y : Int} (h : B2F w b x y) (o : Obj) : B2F (w.alloc o) b x y := h.keep ((Below.refl _ _).alloc (Nat.le_refl _) o)
theorem B2F.new (w : World) (x y : Int) (t : TypeId) : B2F (w.alloc (.cells #[.int .i64 x, .int .i64 y] t)) w.heap.size x y := ⟨by simp, by simp, by simp, by simp⟩
theorem B2F.set {w : World} {b : Nat} {x y : Int} (h : B2F w b x y) (x' y' : Int) : B2F ((w.setCell ⟨b, 0, none⟩ (.int .i64 x')).setCell ⟨b, 1, none⟩ (.int .i64 y')) b x' y' := by
  obtain ⟨h0, h1, h2, h3⟩ := h
  refine ⟨?_, ?_, ?_, ?_⟩ <;> simp [go_sem, h0, h1, h2, h3]
theorem B2F.far {w : World} {b c : Nat} {x y : Int} (h : B2F w b x y) (hne : b ≠ c) (u v : Value) : B2F ((w.setCell ⟨c, 0, none⟩ u).setCell ⟨c, 1, none⟩ v) b x y := by
  obtain ⟨h0, h1, h2, h3⟩ := h
  have hne' : c ≠ b := fun e => hne e.symm
  refine ⟨?_, ?_, ?_, ?_⟩ <;> simp [go_sem, h0, h1, h2, h3]
/-- A box of a draft. -/
def B3 (w : World) (b : Nat) (x y z : Int) : Prop := w.cell? ⟨b, 0, none⟩ = some (.int .i64 x) ∧ w.cell? ⟨b, 1, none⟩ = some (.int .u8 y) ∧ w.cell? ⟨b, 2, none⟩ = some (.int .u32 z)
theorem B3.keep {w w' : World} {b : Nat} {x y z : Int} (h : B3 w b x y z) (hb : Below w.heap.size w w') : B3 w' b x y z := ⟨bkeep hb h.1, bkeep hb h.2.1, bkeep hb h.2.2⟩
theorem B3.new (w : World) (x y z : Int) (t : TypeId) : B3 (w.alloc (.cells #[.int .i64 x, .int .u8 y, .int .u32 z] t)) w.heap.size x y z := ⟨by simp, by simp, by simp⟩
theorem B3.far {w : World} {b c : Nat} {x y z : Int} (h : B3 w b x y z) (hne : b ≠ c) (u v : Value) : B3 ((w.setCell ⟨c, 0, none⟩ u).setCell ⟨c, 1, none⟩ v) b x y z := by
  obtain ⟨h0, h1, h2⟩ := h
  have hne' : c ≠ b := fun e => hne e.symm
  refine ⟨?_, ?_, ?_⟩ <;> simp [go_sem, h0, h1, h2]
theorem Sn.far {w : World} {c : Nat} {v : Value} {l : List (Int × Int)} (h : Sn w v l) (hne : v.ownBlock ≠ some c) (hf : ∀ a n k, v = .slice (some a) n k → a.off = 0 ∧ a.spot = none) (x y : Value) : Sn ((w.setCell ⟨c, 0, none⟩ x).setCell ⟨c, 1, none⟩ y) v l := by
  obtain ⟨a, cap, rfl, hl, hc⟩ := h
  refine ⟨a, cap, rfl, hl, fun hi => ?_⟩
  obtain ⟨b, off, rfl, h⟩ := hc hi
  refine ⟨b, off, rfl, fun i hi => ?_⟩
  have hb : b ≠ c := fun e => by
    have := (hf _ _ _ rfl).1
    simp at this
    subst this
    exact hne (by rw [e]; rfl)
  obtain ⟨h0, h1⟩ := h i hi
  rw [World.cell?_setCell_other _ _ _ _ (by simp <;> omega), World.cell?_setCell_other _ _ _ _ (by simp <;> omega), World.cell?_setCell_other _ _ _ _ (by simp <;> omega), World.cell?_setCell_other _ _ _ _ (by simp <;> omega)]
  exact ⟨h0, h1⟩
theorem own_far {w : World} {base : Nat} {e : TypeId} {size n c : Nat} {v : Value} {xs : List Value} (h : w.ownsRow base e size v n xs) (hne : v.ownBlock ≠ some c) (x y : Value) : ((w.setCell ⟨c, 0, none⟩ x).setCell ⟨c, 1, none⟩ y).ownsRow base e size v n xs :=
  h.kept (row := some c) ⟨rfl, rfl, rfl, by simp, fun k hk hn => by
    have hkc : k ≠ c := fun e => hn (by rw [e])
    rw [heap_setCell_other _ _ _ _ hkc, heap_setCell_other _ _ _ _ hkc]⟩ (.inr hne)
theorem own_heap8 {w w' : World} {base : Nat} {e : TypeId} {size : Nat} {v : Value} {n : Nat} {xs : List Value} (h : w.ownsRow base e size v n xs) (hh : w'.heap = w.heap) : w'.ownsRow base e size v n xs := by
  unfold World.ownsRow at *
  rw [hh]; exact h
theorem two_heap {w w' : World} (x y : Value) (t : TypeId) (hh : w'.heap = (w.alloc (.cells #[x, y] t)).heap) : ∀ (j : Nat) (u : Value), [x, y][j]? = some u → w'.cell? (Addr.add ⟨w.heap.size, 0, none⟩ j) = some u := by
  intro j u h
  have := two_at w x y t j u h
  rw [← this]
  exact World.cell?_of_block (by rw [hh])
theorem two_below {w w' v : World} (x y : Value) (t : TypeId) (hb : Below (w.alloc (.cells #[x, y] t)).heap.size (w.alloc (.cells #[x, y] t)) w') (hh : v.heap = w'.heap) : ∀ (j : Nat) (u : Value), [x, y][j]? = some u → v.cell? (Addr.add ⟨w.heap.size, 0, none⟩ j) = some u := by
  intro j u h
  have := bkeep hb (two_at w x y t j u h)
  rw [← this]
  exact World.cell?_of_block (by rw [hh])
theorem undrew8 {A B : World} (h : Below A.drew.heap.size A.drew B) : Below A.heap.size A B := (Below.drew (Below.refl A.heap.size A)).trans h
theorem ownsLow {w : World} {b b' : Nat} {e : TypeId} {size n : Nat} {v : Value} {xs : List Value} (h : w.ownsRow b e size v n xs) (hb : b' ≤ b) : w.ownsRow b' e size v n xs :=
  ⟨h.1, h.2.imp id fun ⟨g, cap, cur, h1, h2, h3⟩ => ⟨g, cap, cur, h1, Nat.le_trans hb h2, h3⟩⟩
theorem polyEval_eq {w : World} {v : Value} {l : List (Int × Int)} {x y a b c : Int} (h : Sn w v l) (e : evR l x y = (a, b, c)) : Calls Try.prog 13 #[v, .agg #[.int .i64 x, .int .i64 y]] w fun r w' => r = .returned (.tuple #[.agg #[.int .i64 a, .int .i64 b], .int .i64 c]) ∧ Below w.heap.size w w' := by
  have := polyEval_any v l x y w h
  rw [e] at this; exact this
theorem polySlope_eq {w : World} {v : Value} {l : List (Int × Int)} {x y a b c : Int} (h : Sn w v l) (e : slR l x y = (a, b, c)) : Calls Try.prog 15 #[v, .agg #[.int .i64 x, .int .i64 y]] w fun r w' => r = .returned (.tuple #[.agg #[.int .i64 a, .int .i64 b], .int .i64 c]) ∧ Below w.heap.size w w' := by
  have := polySlope_any v l x y w h
  rw [e] at this; exact this

end Go.Proofs.Ytdaignklmbmcnaa
