/-
  Walks of package long: combined.
-/
import Derived.Test.YtoppdbgodceaiaaDoorLgO
namespace Go.Proofs.YtoppdbgodceaiaaDoor
open Go.RowKit

/-- Block g is a box of two cells. -/
def Bx (w : World) (g : Nat) (x y : Value) (t : TypeId) : Prop := w.heap[g]? = some (.cells #[x, y] t (0, 0))
theorem Bx.new (w : World) (x y : Value) (t : TypeId) : Bx (w.alloc (.cells #[x, y] t)) w.heap.size x y t := heap_alloc_new w _
theorem Bx.lt {w : World} {g : Nat} {x y : Value} {t : TypeId} (h : Bx w g x y t) : g < w.heap.size := (Array.getElem?_eq_some_iff.1 h).1
theorem Bx.keep {w w' : World} {g : Nat} {x y : Value} {t : TypeId} (h : Bx w g x y t) (hb : Below w.heap.size w w') : Bx w' g x y t := by
  have hl := h.lt
  unfold Bx at *
  rw [hb.block g hl]; exact h
theorem Bx.alloc {w : World} {g : Nat} {x y : Value} {t : TypeId} (h : Bx w g x y t) (o : Obj) : Bx (w.alloc o) g x y t :=
  h.keep (Below.alloc (Below.refl _ _) (Nat.le_refl _) o)
theorem Bx.c0 {w : World} {g : Nat} {x y : Value} {t : TypeId} (h : Bx w g x y t) : w.cell? ⟨g, 0, none⟩ = some x := by
  rw [cell_of_row w g 0 _ t (0, 0) h]; rfl
theorem Bx.c1 {w : World} {g : Nat} {x y : Value} {t : TypeId} (h : Bx w g x y t) : w.cell? ⟨g, 1, none⟩ = some y := by
  rw [cell_of_row w g 1 _ t (0, 0) h]; rfl
theorem Bx.f {w : World} {g : Nat} {x y : Value} {t : TypeId} (h : Bx w g x y t) (i : Nat) : w.frozen? ⟨g, i, none⟩ = false := frozen_of_row w g i _ t h
theorem Bx.set0 {w : World} {g : Nat} {x y : Value} {t : TypeId} (h : Bx w g x y t) (u : Value) : Bx (w.setCell ⟨g, 0, none⟩ u) g u y t := by
  unfold Bx at *
  rw [heap_setCell_same w g 0 _ t _ h]; rfl
theorem Bx.set1 {w : World} {g : Nat} {x y : Value} {t : TypeId} (h : Bx w g x y t) (u : Value) : Bx (w.setCell ⟨g, 1, none⟩ u) g x u t := by
  unfold Bx at *
  rw [heap_setCell_same w g 1 _ t _ h]; rfl
/-- A slice of numbers does not lie in a box that holds none. -/
theorem Ls.box {w : World} {v : Value} {l : List Int} (h : Ls w v l) {g o : Nat} {x y : Value} {t : TypeId} (hb : Bx w g x y t) (hx : ∀ n, x ≠ .int .i64 n) (hy : ∀ n, y ≠ .int .i64 n) (u : Value) : Ls (w.setCell ⟨g, o, none⟩ u) v l := by
  obtain ⟨a, cap, rfl, hl, hc⟩ := h
  refine ⟨a, cap, rfl, hl, fun hi => ?_⟩
  obtain ⟨b, off, rfl, h⟩ := hc hi
  refine ⟨b, off, rfl, fun i hi => ?_⟩
  have hne : b ≠ g := by
    intro e
    subst e
    have h2 := h i hi
    rw [cell_of_row w b _ _ t (0, 0) hb] at h2
    match hk : off + i with
    | 0 => rw [hk] at h2; simp at h2; exact hx _ h2
    | 1 => rw [hk] at h2; simp at h2; exact hy _ h2
    | k + 2 => rw [hk] at h2; simp at h2
  rw [← h i hi]
  exact World.cell?_of_block (w := w) (Below.heap_setCell w ⟨g, o, none⟩ u b hne)
/-- A result laid into its box. -/
theorem Ls.boxed {w : World} {v : Value} {l : List Int} (h : Ls w v l) {g : Nat} {p : Bool} {x y : Value} {t : TypeId} (hb : Bx w g x y t) (hx : ∀ n, x ≠ .int .i64 n) (hy : ∀ n, y ≠ .int .i64 n) (u : Value) : Ls ((w.setCell ⟨g, 0, none⟩ (.bool p)).setCell ⟨g, 1, none⟩ u) v l :=
  (h.box hb hx hy _).box (hb.set0 _) (fun n e => by cases e) hy u
theorem len_add {x y : Int} (x0 : 0 ≤ x) (y0 : 0 ≤ y) {k : Nat} (l1 : (dg x).length ≤ k) (l2 : (dg y).length ≤ k) : (dg (x + y)).length ≤ k + 1 := by
  refine dg_len_le (by omega) ?_
  have h1 := (dg_len x0 k).1 l1
  have h2 := (dg_len y0 k).1 l2
  have h3 := pow9 k
  rw [Int.pow_succ]
  omega
theorem len_mul {x y : Int} (x0 : 0 ≤ x) (y0 : 0 ≤ y) : (dg (x * y)).length ≤ (dg x).length + (dg y).length := by
  refine dg_len_le (Int.mul_nonneg x0 y0) ?_
  have h1 := dg_lt x0
  have h2 := dg_lt y0
  rw [Int.pow_add]
  have e1 := Int.mul_le_mul_of_nonneg_left (show y ≤ 1000000000 ^ (dg y).length - 1 by omega) x0
  have e2 := Int.mul_le_mul_of_nonneg_right (show x ≤ 1000000000 ^ (dg x).length - 1 by omega) (show (0 : Int) ≤ 1000000000 ^ (dg y).length - 1 by have := pow9 (dg y).length; omega)
  have e3 : ((1000000000 : Int) ^ (dg x).length - 1) * (1000000000 ^ (dg y).length - 1) = 1000000000 ^ (dg x).length * 1000000000 ^ (dg y).length - 1000000000 ^ (dg x).length - 1000000000 ^ (dg y).length + 1 := by grind
  have := pow9 (dg x).length
  have := pow9 (dg y).length
  omega
theorem nb (p : Bool) : ∀ n, Value.bool p ≠ .int .i64 n := fun _ e => by cases e
theorem ns (a : Option Addr) (n c : Nat) : ∀ m, Value.slice a n c ≠ .int .i64 m := fun _ e => by cases e

set_option maxRecDepth 100000 in
theorem comb_plus (b1 b2 ng : Bool) (s1 s2 : Value) (x y z : Int) (w : World) (x0 : 0 ≤ x) (y0 : 0 ≤ y) (h1 : Ls w s1 (dg x)) (h2 : Ls w s2 (dg y)) (l1 : (dg x).length ≤ 600) (l2 : (dg y).length ≤ 600) (hz : z = if ng then -(x + y) else x + y) :
    Calls Tryd.prog 76 #[.func (.func 100) #[] #[], .agg #[.bool b1, s1], .agg #[.bool b2, s2], .bool ng] w fun e w' => RL z e w' ∧ Below w.heap.size w w' := by
  have a1 := Below.alloc (Below.refl w.heap.size w) (Nat.le_refl _) (.cells #[.bool b1, s1] 24)
  have a2 := Below.alloc a1 a1.size (.cells #[.bool b2, s2] 24)
  have a3 := Below.alloc a2 a2.size (.cells #[.bool false, .slice none 0 0] 24)
  have hp := plus_num s1 s2 x y _ x0 y0 (h1.keep a3) (h2.keep a3) (by omega) (by omega)
  obtain ⟨pa, ca, rfl, hca', hqa⟩ := h1
  obtain ⟨pb, cb, rfl, hcb', hqb⟩ := h2
  clear hca' hqa hcb' hqb
  have bx : Bx (((w.alloc (.cells #[.bool b1, .slice pa (dg x).length ca] 24)).alloc (.cells #[.bool b2, .slice pb (dg y).length cb] 24)).alloc (.cells #[.bool false, .slice none 0 0] 24)) (w.heap.size + 1 + 1) (.bool false) (.slice none 0 0) 24 := by
    have := Bx.new ((w.alloc (.cells #[.bool b1, .slice pa (dg x).length ca] 24)).alloc (.cells #[.bool b2, .slice pb (dg y).length cb] 24)) (.bool false) (.slice none 0 0) 24
    rwa [show ((w.alloc (.cells #[.bool b1, .slice pa (dg x).length ca] 24)).alloc (.cells #[.bool b2, .slice pb (dg y).length cb] 24)).heap.size = w.heap.size + 1 + 1 by simp] at this
  have hnn : 0 ≤ x + y := by omega
  have hlen : (dg (x + y)).length ≤ 100000 := by have := len_add x0 y0 l1 l2; omega
  generalize hr : x + y = r at *
  have hsig := hz
  replace hr := Lib.hid hr
  go_enter Tryd.func76, Tryd.ntmps76
  go_wp2_with fail
  go_at_call 100
  refine hp.mono ?_
  rintro e w1 ⟨v, rfl, hv, hb1⟩
  have B1 := a3.trans (hb1.mono a3.size)
  have bx1 := bx.keep hb1
  clear hp bx hb1 a1 a2 a3
  have hsg := signed_num ng v r z w1 hnn hv hlen hsig
  go_wp2_with fail
  go_at_call 74
  refine hsg.mono ?_
  rintro e w2 ⟨hRL, hb2⟩
  have B2 := B1.trans (hb2.mono B1.size)
  have bx2 := bx1.keep hb2
  have hz5 := bx2.lt
  have r0 := bx2.c0
  have r1 := bx2.c1
  have z0 := bx2.f 0
  have z1 := bx2.f 1
  clear hsg hb2 B1 bx1
  rcases hRL with ⟨hl, V, rfl, s, rfl, hs⟩ | ⟨hl, rfl⟩
  · obtain ⟨sg, hsg⟩ : ∃ sg, decide (z < 0) = sg := ⟨_, rfl⟩
    rw [hsg]
    replace hsg := Lib.hid hsg
    have hs' := hs
    obtain ⟨ps, cs, rfl, _, _⟩ := hs
    clear hsig hz
    go_wp2
    refine bodyPost_ret (v := .tuple #[.agg #[.bool sg, .slice ps (dg (z.natAbs : Int)).length cs], .int .i64 0]) (by simp [results, Tryd.results76, go_sem, hz5, r0, r1, z0, z1]) rfl ⟨?_, by (repeat (first | with_reducible exact Below.refl _ _ | with_reducible assumption | refine Below.alloc ?_ (by (try simp); try omega) _ | refine Below.setCell ?_ (by (try simp); try omega) _ | refine below_drewN ?_ _ | refine Below.drew ?_ | (with_reducible refine Below.trans ?_ (Below.mono (by assumption) (by (try simp); try omega)))))⟩
    refine .inl ⟨hl, _, rfl, _, by rw [hsg.out], ?_⟩
    exact hs'.boxed bx2 (nb _) (ns _ _ _) _
  · go_wp2
    refine bodyPost_ret (v := .tuple #[.agg #[.bool false, .slice none 0 0], .int .i64 6]) (by simp [results, Tryd.results76, go_sem, hz5, r0, r1, z0, z1]) rfl ⟨.inr ⟨hl, rfl⟩, by (repeat (first | with_reducible exact Below.refl _ _ | with_reducible assumption | refine Below.alloc ?_ (by (try simp); try omega) _ | refine Below.setCell ?_ (by (try simp); try omega) _ | refine below_drewN ?_ _ | refine Below.drew ?_ | (with_reducible refine Below.trans ?_ (Below.mono (by assumption) (by (try simp); try omega)))))⟩
set_option maxRecDepth 100000 in
theorem comb_minus (b1 b2 ng : Bool) (s1 s2 : Value) (x y z : Int) (w : World) (x0 : 0 ≤ x) (y0 : 0 ≤ y) (h1 : Ls w s1 (dg x)) (h2 : Ls w s2 (dg y)) (l1 : (dg x).length ≤ 600) (l2 : (dg y).length ≤ 600) (hyx : y ≤ x) (hz : z = if ng then -(x - y) else x - y) :
    Calls Tryd.prog 76 #[.func (.func 101) #[] #[], .agg #[.bool b1, s1], .agg #[.bool b2, s2], .bool ng] w fun e w' => RL z e w' ∧ Below w.heap.size w w' := by
  have a1 := Below.alloc (Below.refl w.heap.size w) (Nat.le_refl _) (.cells #[.bool b1, s1] 24)
  have a2 := Below.alloc a1 a1.size (.cells #[.bool b2, s2] 24)
  have a3 := Below.alloc a2 a2.size (.cells #[.bool false, .slice none 0 0] 24)
  have hp := minus_num s1 s2 x y _ y0 hyx (h1.keep a3) (h2.keep a3) (by omega)
  obtain ⟨pa, ca, rfl, hca', hqa⟩ := h1
  obtain ⟨pb, cb, rfl, hcb', hqb⟩ := h2
  clear hca' hqa hcb' hqb
  have bx : Bx (((w.alloc (.cells #[.bool b1, .slice pa (dg x).length ca] 24)).alloc (.cells #[.bool b2, .slice pb (dg y).length cb] 24)).alloc (.cells #[.bool false, .slice none 0 0] 24)) (w.heap.size + 1 + 1) (.bool false) (.slice none 0 0) 24 := by
    have := Bx.new ((w.alloc (.cells #[.bool b1, .slice pa (dg x).length ca] 24)).alloc (.cells #[.bool b2, .slice pb (dg y).length cb] 24)) (.bool false) (.slice none 0 0) 24
    rwa [show ((w.alloc (.cells #[.bool b1, .slice pa (dg x).length ca] 24)).alloc (.cells #[.bool b2, .slice pb (dg y).length cb] 24)).heap.size = w.heap.size + 1 + 1 by simp] at this
  have hnn : 0 ≤ x - y := by omega
  have hlen : (dg (x - y)).length ≤ 100000 := by have := dg_len_mono (x := x - y) (y := x) (by omega) (by omega); omega
  generalize hr : x - y = r at *
  have hsig := hz
  replace hr := Lib.hid hr
  go_enter Tryd.func76, Tryd.ntmps76
  go_wp2_with fail
  go_at_call 101
  refine hp.mono ?_
  rintro e w1 ⟨v, rfl, hv, hb1⟩
  have B1 := a3.trans (hb1.mono a3.size)
  have bx1 := bx.keep hb1
  clear hp bx hb1 a1 a2 a3
  have hsg := signed_num ng v r z w1 hnn hv hlen hsig
  go_wp2_with fail
  go_at_call 74
  refine hsg.mono ?_
  rintro e w2 ⟨hRL, hb2⟩
  have B2 := B1.trans (hb2.mono B1.size)
  have bx2 := bx1.keep hb2
  have hz5 := bx2.lt
  have r0 := bx2.c0
  have r1 := bx2.c1
  have z0 := bx2.f 0
  have z1 := bx2.f 1
  clear hsg hb2 B1 bx1
  rcases hRL with ⟨hl, V, rfl, s, rfl, hs⟩ | ⟨hl, rfl⟩
  · obtain ⟨sg, hsg⟩ : ∃ sg, decide (z < 0) = sg := ⟨_, rfl⟩
    rw [hsg]
    replace hsg := Lib.hid hsg
    have hs' := hs
    obtain ⟨ps, cs, rfl, _, _⟩ := hs
    clear hsig hz
    go_wp2
    refine bodyPost_ret (v := .tuple #[.agg #[.bool sg, .slice ps (dg (z.natAbs : Int)).length cs], .int .i64 0]) (by simp [results, Tryd.results76, go_sem, hz5, r0, r1, z0, z1]) rfl ⟨?_, by (repeat (first | with_reducible exact Below.refl _ _ | with_reducible assumption | refine Below.alloc ?_ (by (try simp); try omega) _ | refine Below.setCell ?_ (by (try simp); try omega) _ | refine below_drewN ?_ _ | refine Below.drew ?_ | (with_reducible refine Below.trans ?_ (Below.mono (by assumption) (by (try simp); try omega)))))⟩
    refine .inl ⟨hl, _, rfl, _, by rw [hsg.out], ?_⟩
    exact hs'.boxed bx2 (nb _) (ns _ _ _) _
  · go_wp2
    refine bodyPost_ret (v := .tuple #[.agg #[.bool false, .slice none 0 0], .int .i64 6]) (by simp [results, Tryd.results76, go_sem, hz5, r0, r1, z0, z1]) rfl ⟨.inr ⟨hl, rfl⟩, by (repeat (first | with_reducible exact Below.refl _ _ | with_reducible assumption | refine Below.alloc ?_ (by (try simp); try omega) _ | refine Below.setCell ?_ (by (try simp); try omega) _ | refine below_drewN ?_ _ | refine Below.drew ?_ | (with_reducible refine Below.trans ?_ (Below.mono (by assumption) (by (try simp); try omega)))))⟩
set_option maxRecDepth 100000 in
theorem comb_times (b1 b2 ng : Bool) (s1 s2 : Value) (x y z : Int) (w : World) (x0 : 0 ≤ x) (y0 : 0 ≤ y) (h1 : Ls w s1 (dg x)) (h2 : Ls w s2 (dg y)) (l1 : (dg x).length ≤ 600) (l2 : (dg y).length ≤ 600) (hz : z = if ng then -(x * y) else x * y) :
    Calls Tryd.prog 76 #[.func (.func 77) #[] #[], .agg #[.bool b1, s1], .agg #[.bool b2, s2], .bool ng] w fun e w' => RL z e w' ∧ Below w.heap.size w w' := by
  have a1 := Below.alloc (Below.refl w.heap.size w) (Nat.le_refl _) (.cells #[.bool b1, s1] 24)
  have a2 := Below.alloc a1 a1.size (.cells #[.bool b2, s2] 24)
  have a3 := Below.alloc a2 a2.size (.cells #[.bool false, .slice none 0 0] 24)
  have hp := times_num s1 s2 x y _ x0 y0 (h1.keep a3) (h2.keep a3) (by omega) (by omega)
  obtain ⟨pa, ca, rfl, hca', hqa⟩ := h1
  obtain ⟨pb, cb, rfl, hcb', hqb⟩ := h2
  clear hca' hqa hcb' hqb
  have bx : Bx (((w.alloc (.cells #[.bool b1, .slice pa (dg x).length ca] 24)).alloc (.cells #[.bool b2, .slice pb (dg y).length cb] 24)).alloc (.cells #[.bool false, .slice none 0 0] 24)) (w.heap.size + 1 + 1) (.bool false) (.slice none 0 0) 24 := by
    have := Bx.new ((w.alloc (.cells #[.bool b1, .slice pa (dg x).length ca] 24)).alloc (.cells #[.bool b2, .slice pb (dg y).length cb] 24)) (.bool false) (.slice none 0 0) 24
    rwa [show ((w.alloc (.cells #[.bool b1, .slice pa (dg x).length ca] 24)).alloc (.cells #[.bool b2, .slice pb (dg y).length cb] 24)).heap.size = w.heap.size + 1 + 1 by simp] at this
  have hnn : 0 ≤ x * y := Int.mul_nonneg x0 y0
  have hlen : (dg (x * y)).length ≤ 100000 := by have := len_mul x0 y0; omega
  generalize hr : x * y = r at *
  have hsig := hz
  replace hr := Lib.hid hr
  go_enter Tryd.func76, Tryd.ntmps76
  go_wp2_with fail
  go_at_call 77
  refine hp.mono ?_
  rintro e w1 ⟨v, rfl, hv, hb1⟩
  have B1 := a3.trans (hb1.mono a3.size)
  have bx1 := bx.keep hb1
  clear hp bx hb1 a1 a2 a3
  have hsg := signed_num ng v r z w1 hnn hv hlen hsig
  go_wp2_with fail
  go_at_call 74
  refine hsg.mono ?_
  rintro e w2 ⟨hRL, hb2⟩
  have B2 := B1.trans (hb2.mono B1.size)
  have bx2 := bx1.keep hb2
  have hz5 := bx2.lt
  have r0 := bx2.c0
  have r1 := bx2.c1
  have z0 := bx2.f 0
  have z1 := bx2.f 1
  clear hsg hb2 B1 bx1
  rcases hRL with ⟨hl, V, rfl, s, rfl, hs⟩ | ⟨hl, rfl⟩
  · obtain ⟨sg, hsg⟩ : ∃ sg, decide (z < 0) = sg := ⟨_, rfl⟩
    rw [hsg]
    replace hsg := Lib.hid hsg
    have hs' := hs
    obtain ⟨ps, cs, rfl, _, _⟩ := hs
    clear hsig hz
    go_wp2
    refine bodyPost_ret (v := .tuple #[.agg #[.bool sg, .slice ps (dg (z.natAbs : Int)).length cs], .int .i64 0]) (by simp [results, Tryd.results76, go_sem, hz5, r0, r1, z0, z1]) rfl ⟨?_, by (repeat (first | with_reducible exact Below.refl _ _ | with_reducible assumption | refine Below.alloc ?_ (by (try simp); try omega) _ | refine Below.setCell ?_ (by (try simp); try omega) _ | refine below_drewN ?_ _ | refine Below.drew ?_ | (with_reducible refine Below.trans ?_ (Below.mono (by assumption) (by (try simp); try omega)))))⟩
    refine .inl ⟨hl, _, rfl, _, by rw [hsg.out], ?_⟩
    exact hs'.boxed bx2 (nb _) (ns _ _ _) _
  · go_wp2
    refine bodyPost_ret (v := .tuple #[.agg #[.bool false, .slice none 0 0], .int .i64 6]) (by simp [results, Tryd.results76, go_sem, hz5, r0, r1, z0, z1]) rfl ⟨.inr ⟨hl, rfl⟩, by (repeat (first | with_reducible exact Below.refl _ _ | with_reducible assumption | refine Below.alloc ?_ (by (try simp); try omega) _ | refine Below.setCell ?_ (by (try simp); try omega) _ | refine below_drewN ?_ _ | refine Below.drew ?_ | (with_reducible refine Below.trans ?_ (Below.mono (by assumption) (by (try simp); try omega)))))⟩
end Go.Proofs.YtoppdbgodceaiaaDoor
