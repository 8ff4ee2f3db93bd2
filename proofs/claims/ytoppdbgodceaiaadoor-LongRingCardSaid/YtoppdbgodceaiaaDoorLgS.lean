/-
  Walks of package long: Add, Sub, Mul.
-/
import Derived.Test.YtoppdbgodceaiaaDoorLgQ
namespace Go.Proofs.YtoppdbgodceaiaaDoor
open Go.RowKit

theorem sg_num (x : Int) : sg (decide (x < 0)) (x.natAbs : Int) = x := by
  unfold sg; by_cases h : x < 0 <;> simp [h] <;> omega
set_option maxRecDepth 100000 in
set_option maxHeartbeats 1000000 in
theorem add_raw (b1 b2 : Bool) (s1 s2 : Value) (x y z : Int) (w : World) (x0 : 0 ≤ x) (y0 : 0 ≤ y) (h1 : Ls w s1 (dg x)) (h2 : Ls w s2 (dg y)) (l1 : (dg x).length ≤ 600) (l2 : (dg y).length ≤ 600) (hv1 : ckL b1 (dg x) = 0) (hv2 : ckL b2 (dg y) = 0) (hz : z = sg b1 x + sg b2 y) :
    Calls Tryd.prog 29 #[.agg #[.bool b1, s1], .agg #[.bool b2, s2]] w fun e w' => RL z e w' ∧ Below w.heap.size w w' := by
  have a1 := Below.alloc (Below.refl w.heap.size w) (Nat.le_refl _) (.cells #[.bool b1, s1] 24)
  have a2 := Below.alloc a1 a1.size (.cells #[.bool b2, s2] 24)
  have a3 := Below.alloc a2 a2.size (.cells #[.bool false, .slice none 0 0] 24)
  have h1' := h1
  have h2' := h2
  obtain ⟨pa, ca, rfl, hca', hqa⟩ := h1
  obtain ⟨pb, cb, rfl, hcb', hqb⟩ := h2
  clear hca' hqa hcb' hqb
  have g1 : (w.alloc (.cells #[.bool b1, .slice pa (dg x).length ca] 24)).heap.size = w.heap.size + 1 := by simp
  have g2 : ((w.alloc (.cells #[.bool b1, .slice pa (dg x).length ca] 24)).alloc (.cells #[.bool b2, .slice pb (dg y).length cb] 24)).heap.size = w.heap.size + 1 + 1 := by simp
  have bA : Bx (((w.alloc (.cells #[.bool b1, .slice pa (dg x).length ca] 24)).alloc (.cells #[.bool b2, .slice pb (dg y).length cb] 24)).alloc (.cells #[.bool false, .slice none 0 0] 24)) w.heap.size (.bool b1) (.slice pa (dg x).length ca) 24 := ((Bx.new w _ _ _).alloc _).alloc _
  have bB : Bx (((w.alloc (.cells #[.bool b1, .slice pa (dg x).length ca] 24)).alloc (.cells #[.bool b2, .slice pb (dg y).length cb] 24)).alloc (.cells #[.bool false, .slice none 0 0] 24)) (w.heap.size + 1) (.bool b2) (.slice pb (dg y).length cb) 24 := by
    have := (Bx.new (w.alloc (.cells #[.bool b1, .slice pa (dg x).length ca] 24)) (.bool b2) (.slice pb (dg y).length cb) 24).alloc (.cells #[.bool false, .slice none 0 0] 24)
    rwa [g1] at this
  have bR : Bx (((w.alloc (.cells #[.bool b1, .slice pa (dg x).length ca] 24)).alloc (.cells #[.bool b2, .slice pb (dg y).length cb] 24)).alloc (.cells #[.bool false, .slice none 0 0] 24)) (w.heap.size + 1 + 1) (.bool false) (.slice none 0 0) 24 := by
    have := Bx.new ((w.alloc (.cells #[.bool b1, .slice pa (dg x).length ca] 24)).alloc (.cells #[.bool b2, .slice pb (dg y).length cb] 24)) (.bool false) (.slice none 0 0) 24
    rwa [g2] at this
  have g3 : (((w.alloc (.cells #[.bool b1, .slice pa (dg x).length ca] 24)).alloc (.cells #[.bool b2, .slice pb (dg y).length cb] 24)).alloc (.cells #[.bool false, .slice none 0 0] 24)).heap.size = w.heap.size + 1 + 1 + 1 := by simp
  have a4 := Below.alloc a3 a3.size (.cells #[.bool b1, .slice pa (dg x).length ca, .bool b2, .slice pb (dg y).length cb] 24)
  have bA4 := bA.alloc (.cells #[.bool b1, .slice pa (dg x).length ca, .bool b2, .slice pb (dg y).length cb] 24)
  have bB4 := bB.alloc (.cells #[.bool b1, .slice pa (dg x).length ca, .bool b2, .slice pb (dg y).length cb] 24)
  have bR4 := bR.alloc (.cells #[.bool b1, .slice pa (dg x).length ca, .bool b2, .slice pb (dg y).length cb] 24)
  have hrow := heap_alloc_new (((w.alloc (.cells #[.bool b1, .slice pa (dg x).length ca] 24)).alloc (.cells #[.bool b2, .slice pb (dg y).length cb] 24)).alloc (.cells #[.bool false, .slice none 0 0] 24)) (.cells #[.bool b1, .slice pa (dg x).length ca, .bool b2, .slice pb (dg y).length cb] 24)
  rw [g3] at hrow
  have hck := checkAll2_any b1 b2 _ _ _ _ (w.heap.size + 1 + 1 + 1) ((((w.alloc (.cells #[.bool b1, .slice pa (dg x).length ca] 24)).alloc (.cells #[.bool b2, .slice pb (dg y).length cb] 24)).alloc (.cells #[.bool false, .slice none 0 0] 24)).alloc (.cells #[.bool b1, .slice pa (dg x).length ca, .bool b2, .slice pb (dg y).length cb] 24)) (h1'.keep a4) (h2'.keep a4) (by omega) (by omega) (by rw [cell_of_row _ _ 0 _ _ _ hrow]; rfl) (by rw [cell_of_row _ _ 1 _ _ _ hrow]; rfl) (by rw [cell_of_row _ _ 2 _ _ _ hrow]; rfl) (by rw [cell_of_row _ _ 3 _ _ _ hrow]; rfl)
  rw [hv1, hv2, show ckT 0 0 = 0 from rfl] at hck
  clear hrow bA bB bR g1 g2 g3
  have hs := fun w h h' => sum_any b1 b2 (.slice pa (dg x).length ca) (.slice pb (dg y).length cb) x y z w x0 y0 h h' l1 l2 hz
  clear hz hv1 hv2
  go_enter Tryd.func29, Tryd.ntmps29
  go_wp2_with fail
  go_at_call 64
  refine hck.mono ?_
  rintro e w1 ⟨rfl, hb1⟩
  have B1 := a4.trans (hb1.mono a4.size)
  have bA1 := bA4.keep hb1
  have bB1 := bB4.keep hb1
  have bR1 := bR4.keep hb1
  have cA0' := bA1.c0
  have cA1' := bA1.c1
  have cB0' := bB1.c0
  have cB1' := bB1.c1
  have cR0' := bR1.c0
  have cR1' := bR1.c1
  have h3 := h1'.keep B1
  have h4 := h2'.keep B1
  clear hck bA4 bB4 bR4 hb1 a1 a2 a3 a4
  go_wp2_with fail
  go_at_call 72
  refine (hs _ h3 h4).mono ?_
  rintro e w2 ⟨hRL, hb2⟩
  have B2 := B1.trans (hb2.mono B1.size)
  have bR2 := bR1.keep hb2
  have hz5 := bR2.lt
  have r0 := bR2.c0
  have r1 := bR2.c1
  have z0 := bR2.f 0
  have z1 := bR2.f 1
  clear cA0' cA1' cB0' cB1' cR0' cR1' hb2 B1
  rcases hRL with ⟨hl, V, rfl, s, rfl, hs⟩ | ⟨hl, rfl⟩
  · obtain ⟨sg, hsg⟩ : ∃ sg, decide (z < 0) = sg := ⟨_, rfl⟩
    rw [hsg]
    replace hsg := Lib.hid hsg
    have hs' := hs
    obtain ⟨ps, cs, rfl, _, _⟩ := hs
    go_wp2
    refine bodyPost_ret (v := .tuple #[.agg #[.bool sg, .slice ps (dg (z.natAbs : Int)).length cs], .int .i64 0]) (by simp [results, Tryd.results29, go_sem, hz5, r0, r1, z0, z1]) rfl ⟨?_, by (repeat (first | with_reducible exact Below.refl _ _ | with_reducible assumption | refine Below.alloc ?_ (by (try simp); try omega) _ | refine Below.setCell ?_ (by (try simp); try omega) _ | refine below_drewN ?_ _ | refine Below.drew ?_ | (with_reducible refine Below.trans ?_ (Below.mono (by assumption) (by (try simp); try omega)))))⟩
    refine .inl ⟨hl, _, rfl, _, by rw [hsg.out], ?_⟩
    exact hs'.boxed bR2 (nb _) (ns _ _ _) _
  · go_wp2
    refine bodyPost_ret (v := .tuple #[.agg #[.bool false, .slice none 0 0], .int .i64 6]) (by simp [results, Tryd.results29, go_sem, hz5, r0, r1, z0, z1]) rfl ⟨.inr ⟨hl, rfl⟩, by (repeat (first | with_reducible exact Below.refl _ _ | with_reducible assumption | refine Below.alloc ?_ (by (try simp); try omega) _ | refine Below.setCell ?_ (by (try simp); try omega) _ | refine below_drewN ?_ _ | refine Below.drew ?_ | (with_reducible refine Below.trans ?_ (Below.mono (by assumption) (by (try simp); try omega)))))⟩
theorem add_num (A B : Value) (x y : Int) (w : World) (hA : Lg w A x) (hB : Lg w B y) (l1 : (dg (x.natAbs : Int)).length ≤ 600) (l2 : (dg (y.natAbs : Int)).length ≤ 600) :
    Calls Tryd.prog 29 #[A, B] w fun e w' => RL (x + y) e w' ∧ Below w.heap.size w w' := by
  obtain ⟨s1, rfl, h1⟩ := hA
  obtain ⟨s2, rfl, h2⟩ := hB
  exact add_raw _ _ _ _ _ _ _ w (by omega) (by omega) h1 h2 l1 l2 (ckL_num l1) (ckL_num l2) (by rw [sg_num, sg_num])
set_option maxRecDepth 100000 in
set_option maxHeartbeats 1000000 in
theorem sub_raw (b1 b2 : Bool) (s1 s2 : Value) (x y z : Int) (w : World) (x0 : 0 ≤ x) (y0 : 0 ≤ y) (h1 : Ls w s1 (dg x)) (h2 : Ls w s2 (dg y)) (l1 : (dg x).length ≤ 600) (l2 : (dg y).length ≤ 600) (hv1 : ckL b1 (dg x) = 0) (hv2 : ckL b2 (dg y) = 0) (hz : z = sg b1 x - sg b2 y) :
    Calls Tryd.prog 31 #[.agg #[.bool b1, s1], .agg #[.bool b2, s2]] w fun e w' => RL z e w' ∧ Below w.heap.size w w' := by
  have a1 := Below.alloc (Below.refl w.heap.size w) (Nat.le_refl _) (.cells #[.bool b1, s1] 24)
  have a2 := Below.alloc a1 a1.size (.cells #[.bool b2, s2] 24)
  have a3 := Below.alloc a2 a2.size (.cells #[.bool false, .slice none 0 0] 24)
  have h1' := h1
  have h2' := h2
  obtain ⟨pa, ca, rfl, hca', hqa⟩ := h1
  obtain ⟨pb, cb, rfl, hcb', hqb⟩ := h2
  clear hca' hqa hcb' hqb
  have g1 : (w.alloc (.cells #[.bool b1, .slice pa (dg x).length ca] 24)).heap.size = w.heap.size + 1 := by simp
  have g2 : ((w.alloc (.cells #[.bool b1, .slice pa (dg x).length ca] 24)).alloc (.cells #[.bool b2, .slice pb (dg y).length cb] 24)).heap.size = w.heap.size + 1 + 1 := by simp
  have bA : Bx (((w.alloc (.cells #[.bool b1, .slice pa (dg x).length ca] 24)).alloc (.cells #[.bool b2, .slice pb (dg y).length cb] 24)).alloc (.cells #[.bool false, .slice none 0 0] 24)) w.heap.size (.bool b1) (.slice pa (dg x).length ca) 24 := ((Bx.new w _ _ _).alloc _).alloc _
  have bB : Bx (((w.alloc (.cells #[.bool b1, .slice pa (dg x).length ca] 24)).alloc (.cells #[.bool b2, .slice pb (dg y).length cb] 24)).alloc (.cells #[.bool false, .slice none 0 0] 24)) (w.heap.size + 1) (.bool b2) (.slice pb (dg y).length cb) 24 := by
    have := (Bx.new (w.alloc (.cells #[.bool b1, .slice pa (dg x).length ca] 24)) (.bool b2) (.slice pb (dg y).length cb) 24).alloc (.cells #[.bool false, .slice none 0 0] 24)
    rwa [g1] at this
  have bR : Bx (((w.alloc (.cells #[.bool b1, .slice pa (dg x).length ca] 24)).alloc (.cells #[.bool b2, .slice pb (dg y).length cb] 24)).alloc (.cells #[.bool false, .slice none 0 0] 24)) (w.heap.size + 1 + 1) (.bool false) (.slice none 0 0) 24 := by
    have := Bx.new ((w.alloc (.cells #[.bool b1, .slice pa (dg x).length ca] 24)).alloc (.cells #[.bool b2, .slice pb (dg y).length cb] 24)) (.bool false) (.slice none 0 0) 24
    rwa [g2] at this
  have g3 : (((w.alloc (.cells #[.bool b1, .slice pa (dg x).length ca] 24)).alloc (.cells #[.bool b2, .slice pb (dg y).length cb] 24)).alloc (.cells #[.bool false, .slice none 0 0] 24)).heap.size = w.heap.size + 1 + 1 + 1 := by simp
  have a4 := Below.alloc a3 a3.size (.cells #[.bool b1, .slice pa (dg x).length ca, .bool b2, .slice pb (dg y).length cb] 24)
  have bA4 := bA.alloc (.cells #[.bool b1, .slice pa (dg x).length ca, .bool b2, .slice pb (dg y).length cb] 24)
  have bB4 := bB.alloc (.cells #[.bool b1, .slice pa (dg x).length ca, .bool b2, .slice pb (dg y).length cb] 24)
  have bR4 := bR.alloc (.cells #[.bool b1, .slice pa (dg x).length ca, .bool b2, .slice pb (dg y).length cb] 24)
  have hrow := heap_alloc_new (((w.alloc (.cells #[.bool b1, .slice pa (dg x).length ca] 24)).alloc (.cells #[.bool b2, .slice pb (dg y).length cb] 24)).alloc (.cells #[.bool false, .slice none 0 0] 24)) (.cells #[.bool b1, .slice pa (dg x).length ca, .bool b2, .slice pb (dg y).length cb] 24)
  rw [g3] at hrow
  have hck := checkAll2_any b1 b2 _ _ _ _ (w.heap.size + 1 + 1 + 1) ((((w.alloc (.cells #[.bool b1, .slice pa (dg x).length ca] 24)).alloc (.cells #[.bool b2, .slice pb (dg y).length cb] 24)).alloc (.cells #[.bool false, .slice none 0 0] 24)).alloc (.cells #[.bool b1, .slice pa (dg x).length ca, .bool b2, .slice pb (dg y).length cb] 24)) (h1'.keep a4) (h2'.keep a4) (by omega) (by omega) (by rw [cell_of_row _ _ 0 _ _ _ hrow]; rfl) (by rw [cell_of_row _ _ 1 _ _ _ hrow]; rfl) (by rw [cell_of_row _ _ 2 _ _ _ hrow]; rfl) (by rw [cell_of_row _ _ 3 _ _ _ hrow]; rfl)
  rw [hv1, hv2, show ckT 0 0 = 0 from rfl] at hck
  clear hrow bA bB bR g1 g2 g3
  have hs := fun w h h' => sum_any b1 (!b2) (.slice pa (dg x).length ca) (.slice pb (dg y).length cb) x y z w x0 y0 h h' l1 l2 (by rw [hz]; unfold sg; cases b2 <;> simp <;> omega)
  clear hz hv1 hv2
  go_enter Tryd.func31, Tryd.ntmps31
  go_wp2_with fail
  go_at_call 64
  refine hck.mono ?_
  rintro e w1 ⟨rfl, hb1⟩
  have B1 := a4.trans (hb1.mono a4.size)
  have bA1 := bA4.keep hb1
  have bB1 := bB4.keep hb1
  have bR1 := bR4.keep hb1
  have cA0' := bA1.c0
  have cA1' := bA1.c1
  have cB0' := bB1.c0
  have cB1' := bB1.c1
  have cR0' := bR1.c0
  have cR1' := bR1.c1
  have h3 := h1'.keep B1
  have h4 := h2'.keep B1
  clear hck bA4 bB4 bR4 hb1 a1 a2 a3 a4
  go_wp2_with fail
  go_at_call 72
  refine (hs _ h3 h4).mono ?_
  rintro e w2 ⟨hRL, hb2⟩
  have B2 := B1.trans (hb2.mono B1.size)
  have bR2 := bR1.keep hb2
  have hz5 := bR2.lt
  have r0 := bR2.c0
  have r1 := bR2.c1
  have z0 := bR2.f 0
  have z1 := bR2.f 1
  clear cA0' cA1' cB0' cB1' cR0' cR1' hb2 B1
  rcases hRL with ⟨hl, V, rfl, s, rfl, hs⟩ | ⟨hl, rfl⟩
  · obtain ⟨sg, hsg⟩ : ∃ sg, decide (z < 0) = sg := ⟨_, rfl⟩
    rw [hsg]
    replace hsg := Lib.hid hsg
    have hs' := hs
    obtain ⟨ps, cs, rfl, _, _⟩ := hs
    go_wp2
    refine bodyPost_ret (v := .tuple #[.agg #[.bool sg, .slice ps (dg (z.natAbs : Int)).length cs], .int .i64 0]) (by simp [results, Tryd.results31, go_sem, hz5, r0, r1, z0, z1]) rfl ⟨?_, by (repeat (first | with_reducible exact Below.refl _ _ | with_reducible assumption | refine Below.alloc ?_ (by (try simp); try omega) _ | refine Below.setCell ?_ (by (try simp); try omega) _ | refine below_drewN ?_ _ | refine Below.drew ?_ | (with_reducible refine Below.trans ?_ (Below.mono (by assumption) (by (try simp); try omega)))))⟩
    refine .inl ⟨hl, _, rfl, _, by rw [hsg.out], ?_⟩
    exact hs'.boxed bR2 (nb _) (ns _ _ _) _
  · go_wp2
    refine bodyPost_ret (v := .tuple #[.agg #[.bool false, .slice none 0 0], .int .i64 6]) (by simp [results, Tryd.results31, go_sem, hz5, r0, r1, z0, z1]) rfl ⟨.inr ⟨hl, rfl⟩, by (repeat (first | with_reducible exact Below.refl _ _ | with_reducible assumption | refine Below.alloc ?_ (by (try simp); try omega) _ | refine Below.setCell ?_ (by (try simp); try omega) _ | refine below_drewN ?_ _ | refine Below.drew ?_ | (with_reducible refine Below.trans ?_ (Below.mono (by assumption) (by (try simp); try omega)))))⟩
theorem sub_num (A B : Value) (x y : Int) (w : World) (hA : Lg w A x) (hB : Lg w B y) (l1 : (dg (x.natAbs : Int)).length ≤ 600) (l2 : (dg (y.natAbs : Int)).length ≤ 600) :
    Calls Tryd.prog 31 #[A, B] w fun e w' => RL (x - y) e w' ∧ Below w.heap.size w w' := by
  obtain ⟨s1, rfl, h1⟩ := hA
  obtain ⟨s2, rfl, h2⟩ := hB
  exact sub_raw _ _ _ _ _ _ _ w (by omega) (by omega) h1 h2 l1 l2 (ckL_num l1) (ckL_num l2) (by rw [sg_num, sg_num])
set_option maxRecDepth 100000 in
set_option maxHeartbeats 1000000 in
theorem mul_raw (b1 b2 : Bool) (s1 s2 : Value) (x y z : Int) (w : World) (x0 : 0 ≤ x) (y0 : 0 ≤ y) (h1 : Ls w s1 (dg x)) (h2 : Ls w s2 (dg y)) (l1 : (dg x).length ≤ 600) (l2 : (dg y).length ≤ 600) (hv1 : ckL b1 (dg x) = 0) (hv2 : ckL b2 (dg y) = 0) (hz : z = sg b1 x * sg b2 y) :
    Calls Tryd.prog 36 #[.agg #[.bool b1, s1], .agg #[.bool b2, s2]] w fun e w' => RL z e w' ∧ Below w.heap.size w w' := by
  have a1 := Below.alloc (Below.refl w.heap.size w) (Nat.le_refl _) (.cells #[.bool b1, s1] 24)
  have a2 := Below.alloc a1 a1.size (.cells #[.bool b2, s2] 24)
  have a3 := Below.alloc a2 a2.size (.cells #[.bool false, .slice none 0 0] 24)
  have h1' := h1
  have h2' := h2
  obtain ⟨pa, ca, rfl, hca', hqa⟩ := h1
  obtain ⟨pb, cb, rfl, hcb', hqb⟩ := h2
  clear hca' hqa hcb' hqb
  have g1 : (w.alloc (.cells #[.bool b1, .slice pa (dg x).length ca] 24)).heap.size = w.heap.size + 1 := by simp
  have g2 : ((w.alloc (.cells #[.bool b1, .slice pa (dg x).length ca] 24)).alloc (.cells #[.bool b2, .slice pb (dg y).length cb] 24)).heap.size = w.heap.size + 1 + 1 := by simp
  have bA : Bx (((w.alloc (.cells #[.bool b1, .slice pa (dg x).length ca] 24)).alloc (.cells #[.bool b2, .slice pb (dg y).length cb] 24)).alloc (.cells #[.bool false, .slice none 0 0] 24)) w.heap.size (.bool b1) (.slice pa (dg x).length ca) 24 := ((Bx.new w _ _ _).alloc _).alloc _
  have bB : Bx (((w.alloc (.cells #[.bool b1, .slice pa (dg x).length ca] 24)).alloc (.cells #[.bool b2, .slice pb (dg y).length cb] 24)).alloc (.cells #[.bool false, .slice none 0 0] 24)) (w.heap.size + 1) (.bool b2) (.slice pb (dg y).length cb) 24 := by
    have := (Bx.new (w.alloc (.cells #[.bool b1, .slice pa (dg x).length ca] 24)) (.bool b2) (.slice pb (dg y).length cb) 24).alloc (.cells #[.bool false, .slice none 0 0] 24)
    rwa [g1] at this
  have bR : Bx (((w.alloc (.cells #[.bool b1, .slice pa (dg x).length ca] 24)).alloc (.cells #[.bool b2, .slice pb (dg y).length cb] 24)).alloc (.cells #[.bool false, .slice none 0 0] 24)) (w.heap.size + 1 + 1) (.bool false) (.slice none 0 0) 24 := by
    have := Bx.new ((w.alloc (.cells #[.bool b1, .slice pa (dg x).length ca] 24)).alloc (.cells #[.bool b2, .slice pb (dg y).length cb] 24)) (.bool false) (.slice none 0 0) 24
    rwa [g2] at this
  have g3 : (((w.alloc (.cells #[.bool b1, .slice pa (dg x).length ca] 24)).alloc (.cells #[.bool b2, .slice pb (dg y).length cb] 24)).alloc (.cells #[.bool false, .slice none 0 0] 24)).heap.size = w.heap.size + 1 + 1 + 1 := by simp
  have a4 := Below.alloc a3 a3.size (.cells #[.bool b1, .slice pa (dg x).length ca, .bool b2, .slice pb (dg y).length cb] 24)
  have bA4 := bA.alloc (.cells #[.bool b1, .slice pa (dg x).length ca, .bool b2, .slice pb (dg y).length cb] 24)
  have bB4 := bB.alloc (.cells #[.bool b1, .slice pa (dg x).length ca, .bool b2, .slice pb (dg y).length cb] 24)
  have bR4 := bR.alloc (.cells #[.bool b1, .slice pa (dg x).length ca, .bool b2, .slice pb (dg y).length cb] 24)
  have hrow := heap_alloc_new (((w.alloc (.cells #[.bool b1, .slice pa (dg x).length ca] 24)).alloc (.cells #[.bool b2, .slice pb (dg y).length cb] 24)).alloc (.cells #[.bool false, .slice none 0 0] 24)) (.cells #[.bool b1, .slice pa (dg x).length ca, .bool b2, .slice pb (dg y).length cb] 24)
  rw [g3] at hrow
  have hck := checkAll2_any b1 b2 _ _ _ _ (w.heap.size + 1 + 1 + 1) ((((w.alloc (.cells #[.bool b1, .slice pa (dg x).length ca] 24)).alloc (.cells #[.bool b2, .slice pb (dg y).length cb] 24)).alloc (.cells #[.bool false, .slice none 0 0] 24)).alloc (.cells #[.bool b1, .slice pa (dg x).length ca, .bool b2, .slice pb (dg y).length cb] 24)) (h1'.keep a4) (h2'.keep a4) (by omega) (by omega) (by rw [cell_of_row _ _ 0 _ _ _ hrow]; rfl) (by rw [cell_of_row _ _ 1 _ _ _ hrow]; rfl) (by rw [cell_of_row _ _ 2 _ _ _ hrow]; rfl) (by rw [cell_of_row _ _ 3 _ _ _ hrow]; rfl)
  rw [hv1, hv2, show ckT 0 0 = 0 from rfl] at hck
  clear hrow bA bB bR g1 g2 g3
  have hz' : z = if (b1 != b2) then -(x * y) else x * y := by rw [hz]; unfold sg; cases b1 <;> cases b2 <;> simp [Int.mul_neg, Int.neg_mul, Int.neg_mul_neg]
  have hs := fun w h h' => comb_times b1 b2 (b1 != b2) (.slice pa (dg x).length ca) (.slice pb (dg y).length cb) x y z w x0 y0 h h' l1 l2 hz'
  have hbig : 601 < (dg x).length + (dg y).length → 600 < (dg (z.natAbs : Int)).length := by
    intro h
    have e : (z.natAbs : Int) = x * y := by
      have := Int.mul_nonneg x0 y0
      rw [hz']; split <;> omega
    rw [e]
    have p1 : 0 < x := by
      rcases (by omega : x = 0 ∨ 0 < x) with k | k
      · rw [k, dg_zero] at h; simp at h; omega
      · exact k
    have p2 : 0 < y := by
      rcases (by omega : y = 0 ∨ 0 < y) with k | k
      · rw [k, dg_zero] at h; simp at h; omega
      · exact k
    have g1 := dg_ge p1
    have g2 := dg_ge p2
    rcases Nat.lt_or_ge 600 (dg (x * y)).length with k | k
    · exact k
    · have k2 := (dg_len (Int.mul_nonneg x0 y0) 600).1 k
      have k3 := Int.mul_le_mul g1 g2 (show (0 : Int) ≤ 1000000000 ^ ((dg y).length - 1) by have := pow9 ((dg y).length - 1); omega) x0
      rw [← Int.pow_add] at k3
      have k4 := pow9_le (show 600 ≤ (dg x).length - 1 + ((dg y).length - 1) by omega)
      omega
  replace hbig := Lib.hid hbig
  clear hz hz' hv1 hv2
  go_enter Tryd.func36, Tryd.ntmps36
  go_wp2_with fail
  go_at_call 64
  refine hck.mono ?_
  rintro e w1 ⟨rfl, hb1⟩
  have B1 := a4.trans (hb1.mono a4.size)
  have bA1 := bA4.keep hb1
  have bB1 := bB4.keep hb1
  have bR1 := bR4.keep hb1
  have cA0' := bA1.c0
  have cA1' := bA1.c1
  have cB0' := bB1.c0
  have cB1' := bB1.c1
  have cR0' := bR1.c0
  have cR1' := bR1.c1
  have h3 := h1'.keep B1
  have h4 := h2'.keep B1
  clear hck bA4 bB4 bR4 hb1 a1 a2 a3 a4
  by_cases hl : 601 < (dg x).length + (dg y).length
  · have hbg := hbig.out hl
    have hz5 := bR1.lt
    have z0 := bR1.f 0
    have z1 := bR1.f 1
    have r0 := bR1.c0
    have r1 := bR1.c1
    go_wp2
    refine bodyPost_ret (v := .tuple #[.agg #[.bool false, .slice none 0 0], .int .i64 6]) (by simp [results, Tryd.results36, go_sem, hz5, r0, r1, z0, z1]) rfl ⟨.inr ⟨hbg, rfl⟩, by (repeat (first | with_reducible exact Below.refl _ _ | with_reducible assumption | refine Below.alloc ?_ (by (try simp); try omega) _ | refine Below.setCell ?_ (by (try simp); try omega) _ | refine below_drewN ?_ _ | refine Below.drew ?_ | (with_reducible refine Below.trans ?_ (Below.mono (by assumption) (by (try simp); try omega)))))⟩
  · have hl' : ¬ ((601 : Int) < ((dg x).length : Int) + ((dg y).length : Int)) := by omega
    go_wp2_with fail
    go_at_call 76
    refine (hs _ h3 h4).mono ?_
    rintro e w2 ⟨hRL, hb2⟩
    have B2 := B1.trans (hb2.mono B1.size)
    have bR2 := bR1.keep hb2
    have hz5 := bR2.lt
    have r0 := bR2.c0
    have r1 := bR2.c1
    have z0 := bR2.f 0
    have z1 := bR2.f 1
    clear cA0' cA1' cB0' cB1' cR0' cR1' hb2 B1
    rcases hRL with ⟨hl, V, rfl, s, rfl, hs⟩ | ⟨hl, rfl⟩
    · obtain ⟨sg, hsg⟩ : ∃ sg, decide (z < 0) = sg := ⟨_, rfl⟩
      rw [hsg]
      replace hsg := Lib.hid hsg
      have hs' := hs
      obtain ⟨ps, cs, rfl, _, _⟩ := hs
      go_wp2
      refine bodyPost_ret (v := .tuple #[.agg #[.bool sg, .slice ps (dg (z.natAbs : Int)).length cs], .int .i64 0]) (by simp [results, Tryd.results36, go_sem, hz5, r0, r1, z0, z1]) rfl ⟨?_, by (repeat (first | with_reducible exact Below.refl _ _ | with_reducible assumption | refine Below.alloc ?_ (by (try simp); try omega) _ | refine Below.setCell ?_ (by (try simp); try omega) _ | refine below_drewN ?_ _ | refine Below.drew ?_ | (with_reducible refine Below.trans ?_ (Below.mono (by assumption) (by (try simp); try omega)))))⟩
      refine .inl ⟨hl, _, rfl, _, by rw [hsg.out], ?_⟩
      exact hs'.boxed bR2 (nb _) (ns _ _ _) _
    · go_wp2
      refine bodyPost_ret (v := .tuple #[.agg #[.bool false, .slice none 0 0], .int .i64 6]) (by simp [results, Tryd.results36, go_sem, hz5, r0, r1, z0, z1]) rfl ⟨.inr ⟨hl, rfl⟩, by (repeat (first | with_reducible exact Below.refl _ _ | with_reducible assumption | refine Below.alloc ?_ (by (try simp); try omega) _ | refine Below.setCell ?_ (by (try simp); try omega) _ | refine below_drewN ?_ _ | refine Below.drew ?_ | (with_reducible refine Below.trans ?_ (Below.mono (by assumption) (by (try simp); try omega)))))⟩
theorem mul_num (A B : Value) (x y : Int) (w : World) (hA : Lg w A x) (hB : Lg w B y) (l1 : (dg (x.natAbs : Int)).length ≤ 600) (l2 : (dg (y.natAbs : Int)).length ≤ 600) :
    Calls Tryd.prog 36 #[A, B] w fun e w' => RL (x * y) e w' ∧ Below w.heap.size w w' := by
  obtain ⟨s1, rfl, h1⟩ := hA
  obtain ⟨s2, rfl, h2⟩ := hB
  exact mul_raw _ _ _ _ _ _ _ w (by omega) (by omega) h1 h2 l1 l2 (ckL_num l1) (ckL_num l2) (by rw [sg_num, sg_num])
end Go.Proofs.YtoppdbgodceaiaaDoor
