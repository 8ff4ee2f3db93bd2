/-
  Walks of package long: Gcd of a small number, Sqrt, Div, Same, Of.
-/
import Derived.Test.YthhbnhdejbpjiaaDoorLgU
import Derived.RegionTactic
import Derived.BigRegion
namespace Go.Proofs.YthhbnhdejbpjiaaDoor
open Go.RowKit

theorem gI_nonneg (x y : Int) : 0 ≤ gI x y := by unfold gI; omega
theorem gI_len {x y : Int} (x0 : 0 ≤ x) (y0 : 0 ≤ y) : (dg (gI x y)).length ≤ max (dg x).length (dg y).length := by
  by_cases h : x = 0
  · subst h
    rw [gI_comm, gI_zero y0]; omega
  · have : gI x y ≤ x := by
      unfold gI
      have := Nat.le_of_dvd (show 0 < x.toNat by omega) (Nat.gcd_dvd_left x.toNat y.toNat)
      omega
    have := dg_len_mono (gI_nonneg x y) this
    omega
set_option maxRecDepth 100000 in
theorem comb_gcdS (b1 b2 ng : Bool) (s1 s2 : Value) (x y z : Int) (w : World) (x0 : 0 ≤ x) (y0 : 0 ≤ y) (h1 : Ls w s1 (dg x)) (h2 : Ls w s2 (dg y)) (l1 : (dg x).length ≤ 600) (l2 : (dg y).length ≤ 600) (hsm : (dg x).length ≤ 2 ∨ (dg y).length ≤ 2) (hz : z = if ng then -(gI x y) else gI x y) :
    Calls Tryd.prog 40 #[.func (.func 43) #[] #[], .agg #[.bool b1, s1], .agg #[.bool b2, s2], .bool ng] w fun e w' => RL z e w' ∧ Below w.heap.size w w' := by
  have a1 := Below.alloc (Below.refl w.heap.size w) (Nat.le_refl _) (.cells #[.bool b1, s1] 25)
  have a2 := Below.alloc a1 a1.size (.cells #[.bool b2, s2] 25)
  have a3 := Below.alloc a2 a2.size (.cells #[.bool false, .slice none 0 0] 25)
  have hp := divisor_small s1 s2 x y _ x0 y0 (h1.keep a3) (h2.keep a3) (by omega) (by omega) hsm
  obtain ⟨pa, ca, rfl, hca', hqa⟩ := h1
  obtain ⟨pb, cb, rfl, hcb', hqb⟩ := h2
  clear hca' hqa hcb' hqb
  have bx : Bx (((w.alloc (.cells #[.bool b1, .slice pa (dg x).length ca] 25)).alloc (.cells #[.bool b2, .slice pb (dg y).length cb] 25)).alloc (.cells #[.bool false, .slice none 0 0] 25)) (w.heap.size + 1 + 1) (.bool false) (.slice none 0 0) 25 := by
    have := Bx.new ((w.alloc (.cells #[.bool b1, .slice pa (dg x).length ca] 25)).alloc (.cells #[.bool b2, .slice pb (dg y).length cb] 25)) (.bool false) (.slice none 0 0) 25
    rwa [show ((w.alloc (.cells #[.bool b1, .slice pa (dg x).length ca] 25)).alloc (.cells #[.bool b2, .slice pb (dg y).length cb] 25)).heap.size = w.heap.size + 1 + 1 by simp] at this
  have hnn : 0 ≤ gI x y := gI_nonneg x y
  have hlen : (dg (gI x y)).length ≤ 100000 := by have := gI_len x0 y0; omega
  generalize hr : gI x y = r at *
  have hsig := hz
  replace hr := Lib.hid hr
  go_enter Tryd.func40, Tryd.ntmps40
  go_wp2_with fail
  go_at_call 43
  refine hp.mono ?_
  rintro e w1 ⟨v, rfl, hv, hb1⟩
  have B1 := a3.trans (hb1.mono a3.size)
  have bx1 := bx.keep hb1
  clear hp bx hb1 a1 a2 a3
  have hsg := signed_num ng v r z w1 hnn hv hlen hsig
  go_wp2_with fail
  go_at_call 36
  refine hsg.mono ?_
  rintro e w2 ⟨hRL, hb2⟩
  have B2 := B1.trans (hb2.mono B1.size)
  have bx2 := bx1.keep hb2
  have hz5 := bx2.lt
  have r0 := bx2.c0
  have r1 := bx2.c1
  have z0 := bx2.f 0
  have z1 := bx2.f 1
  clear hsg hb2 B1 bx1
  rcases hRL with ⟨hl, V, rfl, s, rfl, hs⟩ | ⟨hl, rfl⟩
  · obtain ⟨sg, hsg⟩ : ∃ sg, decide (z < 0) = sg := ⟨_, rfl⟩
    rw [hsg]
    replace hsg := Lib.hid hsg
    have hs' := hs
    obtain ⟨ps, cs, rfl, _, _⟩ := hs
    clear hsig hz
    go_wp2
    refine bodyPost_ret (v := .tuple #[.agg #[.bool sg, .slice ps (dg (z.natAbs : Int)).length cs], .int .i64 0]) (by simp [results, Tryd.results40, go_sem, hz5, r0, r1, z0, z1]) rfl ⟨?_, by (repeat (first | with_reducible exact Below.refl _ _ | with_reducible assumption | refine Below.alloc ?_ (by (try simp); try omega) _ | refine Below.setCell ?_ (by (try simp); try omega) _ | refine below_drewN ?_ _ | refine Below.drew ?_ | (with_reducible refine Below.trans ?_ (Below.mono (by assumption) (by (try simp); try omega)))))⟩
    refine .inl ⟨hl, _, rfl, _, by rw [hsg.out], ?_⟩
    exact hs'.boxed bx2 (nb _) (ns _ _ _) _
  · go_wp2
    refine bodyPost_ret (v := .tuple #[.agg #[.bool false, .slice none 0 0], .int .i64 6]) (by simp [results, Tryd.results40, go_sem, hz5, r0, r1, z0, z1]) rfl ⟨.inr ⟨hl, rfl⟩, by (repeat (first | with_reducible exact Below.refl _ _ | with_reducible assumption | refine Below.alloc ?_ (by (try simp); try omega) _ | refine Below.setCell ?_ (by (try simp); try omega) _ | refine below_drewN ?_ _ | refine Below.drew ?_ | (with_reducible refine Below.trans ?_ (Below.mono (by assumption) (by (try simp); try omega)))))⟩
set_option maxRecDepth 100000 in
set_option maxHeartbeats 1000000 in
theorem gcdS_raw (b1 b2 : Bool) (s1 s2 : Value) (x y z : Int) (w : World) (x0 : 0 ≤ x) (y0 : 0 ≤ y) (h1 : Ls w s1 (dg x)) (h2 : Ls w s2 (dg y)) (l1 : (dg x).length ≤ 600) (l2 : (dg y).length ≤ 600) (hsm : (dg x).length ≤ 2 ∨ (dg y).length ≤ 2) (hv1 : ckL b1 (dg x) = 0) (hv2 : ckL b2 (dg y) = 0) (hz : z = gI x y) :
    Calls Tryd.prog 17 #[.agg #[.bool b1, s1], .agg #[.bool b2, s2]] w fun e w' => RL z e w' ∧ Below w.heap.size w w' := by
  have a1 := Below.alloc (Below.refl w.heap.size w) (Nat.le_refl _) (.cells #[.bool b1, s1] 25)
  have a2 := Below.alloc a1 a1.size (.cells #[.bool b2, s2] 25)
  have a3 := Below.alloc a2 a2.size (.cells #[.bool false, .slice none 0 0] 25)
  have h1' := h1
  have h2' := h2
  obtain ⟨pa, ca, rfl, hca', hqa⟩ := h1
  obtain ⟨pb, cb, rfl, hcb', hqb⟩ := h2
  clear hca' hqa hcb' hqb
  have g1 : (w.alloc (.cells #[.bool b1, .slice pa (dg x).length ca] 25)).heap.size = w.heap.size + 1 := by simp
  have g2 : ((w.alloc (.cells #[.bool b1, .slice pa (dg x).length ca] 25)).alloc (.cells #[.bool b2, .slice pb (dg y).length cb] 25)).heap.size = w.heap.size + 1 + 1 := by simp
  have bA : Bx (((w.alloc (.cells #[.bool b1, .slice pa (dg x).length ca] 25)).alloc (.cells #[.bool b2, .slice pb (dg y).length cb] 25)).alloc (.cells #[.bool false, .slice none 0 0] 25)) w.heap.size (.bool b1) (.slice pa (dg x).length ca) 25 := ((Bx.new w _ _ _).alloc _).alloc _
  have bB : Bx (((w.alloc (.cells #[.bool b1, .slice pa (dg x).length ca] 25)).alloc (.cells #[.bool b2, .slice pb (dg y).length cb] 25)).alloc (.cells #[.bool false, .slice none 0 0] 25)) (w.heap.size + 1) (.bool b2) (.slice pb (dg y).length cb) 25 := by
    have := (Bx.new (w.alloc (.cells #[.bool b1, .slice pa (dg x).length ca] 25)) (.bool b2) (.slice pb (dg y).length cb) 25).alloc (.cells #[.bool false, .slice none 0 0] 25)
    rwa [g1] at this
  have bR : Bx (((w.alloc (.cells #[.bool b1, .slice pa (dg x).length ca] 25)).alloc (.cells #[.bool b2, .slice pb (dg y).length cb] 25)).alloc (.cells #[.bool false, .slice none 0 0] 25)) (w.heap.size + 1 + 1) (.bool false) (.slice none 0 0) 25 := by
    have := Bx.new ((w.alloc (.cells #[.bool b1, .slice pa (dg x).length ca] 25)).alloc (.cells #[.bool b2, .slice pb (dg y).length cb] 25)) (.bool false) (.slice none 0 0) 25
    rwa [g2] at this
  have g3 : (((w.alloc (.cells #[.bool b1, .slice pa (dg x).length ca] 25)).alloc (.cells #[.bool b2, .slice pb (dg y).length cb] 25)).alloc (.cells #[.bool false, .slice none 0 0] 25)).heap.size = w.heap.size + 1 + 1 + 1 := by simp
  have a4 := Below.alloc a3 a3.size (.cells #[.bool b1, .slice pa (dg x).length ca, .bool b2, .slice pb (dg y).length cb] 25)
  have bA4 := bA.alloc (.cells #[.bool b1, .slice pa (dg x).length ca, .bool b2, .slice pb (dg y).length cb] 25)
  have bB4 := bB.alloc (.cells #[.bool b1, .slice pa (dg x).length ca, .bool b2, .slice pb (dg y).length cb] 25)
  have bR4 := bR.alloc (.cells #[.bool b1, .slice pa (dg x).length ca, .bool b2, .slice pb (dg y).length cb] 25)
  have hrow := heap_alloc_new (((w.alloc (.cells #[.bool b1, .slice pa (dg x).length ca] 25)).alloc (.cells #[.bool b2, .slice pb (dg y).length cb] 25)).alloc (.cells #[.bool false, .slice none 0 0] 25)) (.cells #[.bool b1, .slice pa (dg x).length ca, .bool b2, .slice pb (dg y).length cb] 25)
  rw [g3] at hrow
  have hck := checkAll2_any b1 b2 _ _ _ _ (w.heap.size + 1 + 1 + 1) ((((w.alloc (.cells #[.bool b1, .slice pa (dg x).length ca] 25)).alloc (.cells #[.bool b2, .slice pb (dg y).length cb] 25)).alloc (.cells #[.bool false, .slice none 0 0] 25)).alloc (.cells #[.bool b1, .slice pa (dg x).length ca, .bool b2, .slice pb (dg y).length cb] 25)) (h1'.keep a4) (h2'.keep a4) (by omega) (by omega) (by rw [cell_of_row _ _ 0 _ _ _ hrow]; rfl) (by rw [cell_of_row _ _ 1 _ _ _ hrow]; rfl) (by rw [cell_of_row _ _ 2 _ _ _ hrow]; rfl) (by rw [cell_of_row _ _ 3 _ _ _ hrow]; rfl)
  rw [hv1, hv2, show ckT 0 0 = 0 from rfl] at hck
  clear hrow bA bB bR g1 g2 g3
  have hs := fun w h h' => comb_gcdS b1 b2 false (.slice pa (dg x).length ca) (.slice pb (dg y).length cb) x y z w x0 y0 h h' l1 l2 hsm (by rw [hz]; rfl)
  clear hz hv1 hv2
  go_enter Tryd.func17, Tryd.ntmps17
  go_wp2_with fail
  go_at_call 38
  refine hck.mono ?_
  rintro e w1 ⟨rfl, hb1⟩
  have B1 := a4.trans (hb1.mono a4.size)
  have bA1 := bA4.keep hb1
  have bB1 := bB4.keep hb1
  have bR1 := bR4.keep hb1
  have cA0' := bA1.c0
  have cA1' := bA1.c1
  have cB0' := bB1.c0
  have cB1' := bB1.c1
  have cR0' := bR1.c0
  have cR1' := bR1.c1
  have h3 := h1'.keep B1
  have h4 := h2'.keep B1
  clear hck bA4 bB4 bR4 hb1 a1 a2 a3 a4
  go_wp2_with fail
  go_at_call 40
  refine (hs _ h3 h4).mono ?_
  rintro e w2 ⟨hRL, hb2⟩
  have B2 := B1.trans (hb2.mono B1.size)
  have bR2 := bR1.keep hb2
  have hz5 := bR2.lt
  have r0 := bR2.c0
  have r1 := bR2.c1
  have z0 := bR2.f 0
  have z1 := bR2.f 1
  clear cA0' cA1' cB0' cB1' cR0' cR1' hb2 B1
  rcases hRL with ⟨hl, V, rfl, s, rfl, hs⟩ | ⟨hl, rfl⟩
  · obtain ⟨sg, hsg⟩ : ∃ sg, decide (z < 0) = sg := ⟨_, rfl⟩
    rw [hsg]
    replace hsg := Lib.hid hsg
    have hs' := hs
    obtain ⟨ps, cs, rfl, _, _⟩ := hs
    go_wp2
    refine bodyPost_ret (v := .tuple #[.agg #[.bool sg, .slice ps (dg (z.natAbs : Int)).length cs], .int .i64 0]) (by simp [results, Tryd.results17, go_sem, hz5, r0, r1, z0, z1]) rfl ⟨?_, by (repeat (first | with_reducible exact Below.refl _ _ | with_reducible assumption | refine Below.alloc ?_ (by (try simp); try omega) _ | refine Below.setCell ?_ (by (try simp); try omega) _ | refine below_drewN ?_ _ | refine Below.drew ?_ | (with_reducible refine Below.trans ?_ (Below.mono (by assumption) (by (try simp); try omega)))))⟩
    refine .inl ⟨hl, _, rfl, _, by rw [hsg.out], ?_⟩
    exact hs'.boxed bR2 (nb _) (ns _ _ _) _
  · go_wp2
    refine bodyPost_ret (v := .tuple #[.agg #[.bool false, .slice none 0 0], .int .i64 6]) (by simp [results, Tryd.results17, go_sem, hz5, r0, r1, z0, z1]) rfl ⟨.inr ⟨hl, rfl⟩, by (repeat (first | with_reducible exact Below.refl _ _ | with_reducible assumption | refine Below.alloc ?_ (by (try simp); try omega) _ | refine Below.setCell ?_ (by (try simp); try omega) _ | refine below_drewN ?_ _ | refine Below.drew ?_ | (with_reducible refine Below.trans ?_ (Below.mono (by assumption) (by (try simp); try omega)))))⟩
theorem gcdS_num (A B : Value) (x y : Int) (w : World) (hA : Lg w A x) (hB : Lg w B y) (l1 : (dg (x.natAbs : Int)).length ≤ 600) (l2 : (dg (y.natAbs : Int)).length ≤ 600) (hsm : (dg (x.natAbs : Int)).length ≤ 2 ∨ (dg (y.natAbs : Int)).length ≤ 2) :
    Calls Tryd.prog 17 #[A, B] w fun e w' => RL (gI (x.natAbs : Int) (y.natAbs : Int)) e w' ∧ Below w.heap.size w w' := by
  obtain ⟨s1, rfl, h1⟩ := hA
  obtain ⟨s2, rfl, h2⟩ := hB
  exact gcdS_raw _ _ _ _ _ _ _ w (by omega) (by omega) h1 h2 l1 l2 hsm (ckL_num l1) (ckL_num l2) rfl
set_option maxRecDepth 100000 in
set_option maxHeartbeats 1000000 in
theorem sqrt_raw (s1 : Value) (x z : Int) (w : World) (x0 : 0 ≤ x) (h1 : Ls w s1 (dg x)) (l1 : (dg x).length ≤ 600) (hz : z = rt x) :
    Calls Tryd.prog 16 #[.agg #[.bool false, s1]] w fun e w' => RL z e w' ∧ Below w.heap.size w w' := by
  have hv1 : ckL false (dg x) = 0 := by
    have := ckL_num (z := x) (by rw [show (x.natAbs : Int) = x by omega]; exact l1)
    rw [show (x.natAbs : Int) = x by omega, show decide (x < 0) = false by simp; omega] at this
    exact this
  have hr := rt_spec x x0
  have hrl := dg_len_mono hr.1 (rt_le_self x0)
  have hroot := fun v w h => root_num x v w x0 h (by omega)
  have hsig := fun d w h => signed_num false d (rt x) z w hr.1 h (by omega) hz
  clear hr hrl hz
  have a1 := Below.alloc (Below.refl w.heap.size w) (Nat.le_refl _) (.cells #[.bool false, s1] 25)
  have a2 := Below.alloc a1 a1.size (.cells #[.bool false, .slice none 0 0] 25)
  have a3 := Below.alloc a2 a2.size (.cells #[.bool false, s1] 25)
  have h1' := h1
  obtain ⟨pa, ca, rfl, hca', hqa⟩ := h1
  clear hca' hqa
  have g1 : (w.alloc (.cells #[.bool false, .slice pa (dg x).length ca] 25)).heap.size = w.heap.size + 1 := by simp
  have g2 : ((w.alloc (.cells #[.bool false, .slice pa (dg x).length ca] 25)).alloc (.cells #[.bool false, .slice none 0 0] 25)).heap.size = w.heap.size + 1 + 1 := by simp
  have bA3 : Bx (((w.alloc (.cells #[.bool false, .slice pa (dg x).length ca] 25)).alloc (.cells #[.bool false, .slice none 0 0] 25)).alloc (.cells #[.bool false, .slice pa (dg x).length ca] 25)) w.heap.size (.bool false) (.slice pa (dg x).length ca) 25 := ((Bx.new w _ _ _).alloc _).alloc _
  have bR3 : Bx (((w.alloc (.cells #[.bool false, .slice pa (dg x).length ca] 25)).alloc (.cells #[.bool false, .slice none 0 0] 25)).alloc (.cells #[.bool false, .slice pa (dg x).length ca] 25)) (w.heap.size + 1) (.bool false) (.slice none 0 0) 25 := by
    have := (Bx.new (w.alloc (.cells #[.bool false, .slice pa (dg x).length ca] 25)) (.bool false) (.slice none 0 0) 25).alloc (.cells #[.bool false, .slice pa (dg x).length ca] 25)
    rwa [g1] at this
  have bC : Bx (((w.alloc (.cells #[.bool false, .slice pa (dg x).length ca] 25)).alloc (.cells #[.bool false, .slice none 0 0] 25)).alloc (.cells #[.bool false, .slice pa (dg x).length ca] 25)) (w.heap.size + 1 + 1) (.bool false) (.slice pa (dg x).length ca) 25 := by
    have := Bx.new ((w.alloc (.cells #[.bool false, .slice pa (dg x).length ca] 25)).alloc (.cells #[.bool false, .slice none 0 0] 25)) (.bool false) (.slice pa (dg x).length ca) 25
    rwa [g2] at this
  have hck := checkAll1_any false _ _ (w.heap.size + 1 + 1) (((w.alloc (.cells #[.bool false, .slice pa (dg x).length ca] 25)).alloc (.cells #[.bool false, .slice none 0 0] 25)).alloc (.cells #[.bool false, .slice pa (dg x).length ca] 25)) (h1'.keep a3) (by omega) bC.c0 bC.c1
  rw [hv1] at hck
  clear bC g1 g2
  go_enter Tryd.func16, Tryd.ntmps16
  go_wp2_with fail
  go_at_call 38
  refine hck.mono ?_
  rintro e w1 ⟨rfl, hb1⟩
  have B1 := a3.trans (hb1.mono a3.size)
  have bA1 := bA3.keep hb1
  have bR1 := bR3.keep hb1
  have cA0' := bA1.c0
  have cA1' := bA1.c1
  have cR0' := bR1.c0
  have cR1' := bR1.c1
  have h3 := h1'.keep B1
  clear hck bA3 bR3 hb1 a1 a2 a3
  go_wp2_with fail
  go_at_call 42
  refine (hroot _ _ h3).mono ?_
  rintro e w2 ⟨v, rfl, hv, hb2⟩
  have B2 := B1.trans (hb2.mono B1.size)
  have bR2' := bR1.keep hb2
  have cR0 := bR2'.c0
  have cR1 := bR2'.c1
  clear hroot cA0' cA1' cR0' cR1' bR1 hb2 B1
  go_wp2_with fail
  go_at_call 36
  refine (hsig v _ hv).mono ?_
  rintro e w3 ⟨hRL, hb3⟩
  have B3 := B2.trans (hb3.mono B2.size)
  have bR2 := bR2'.keep hb3
  have hz5 := bR2.lt
  have r0 := bR2.c0
  have r1 := bR2.c1
  have z0 := bR2.f 0
  have z1 := bR2.f 1
  clear hsig cR0 cR1 hb3 B2 bR2'
  rcases hRL with ⟨hl, V, rfl, s, rfl, hs⟩ | ⟨hl, rfl⟩
  · obtain ⟨sg, hsg⟩ : ∃ sg, decide (z < 0) = sg := ⟨_, rfl⟩
    rw [hsg]
    replace hsg := Lib.hid hsg
    have hs' := hs
    obtain ⟨ps, cs, rfl, _, _⟩ := hs
    go_wp2
    refine bodyPost_ret (v := .tuple #[.agg #[.bool sg, .slice ps (dg (z.natAbs : Int)).length cs], .int .i64 0]) (by simp [results, Tryd.results16, go_sem, hz5, r0, r1, z0, z1]) rfl ⟨?_, by (repeat (first | with_reducible exact Below.refl _ _ | with_reducible assumption | refine Below.alloc ?_ (by (try simp); try omega) _ | refine Below.setCell ?_ (by (try simp); try omega) _ | refine below_drewN ?_ _ | refine Below.drew ?_ | (with_reducible refine Below.trans ?_ (Below.mono (by assumption) (by (try simp); try omega)))))⟩
    refine .inl ⟨hl, _, rfl, _, by rw [hsg.out], ?_⟩
    exact hs'.boxed bR2 (nb _) (ns _ _ _) _
  · go_wp2
    refine bodyPost_ret (v := .tuple #[.agg #[.bool false, .slice none 0 0], .int .i64 6]) (by simp [results, Tryd.results16, go_sem, hz5, r0, r1, z0, z1]) rfl ⟨.inr ⟨hl, rfl⟩, by (repeat (first | with_reducible exact Below.refl _ _ | with_reducible assumption | refine Below.alloc ?_ (by (try simp); try omega) _ | refine Below.setCell ?_ (by (try simp); try omega) _ | refine below_drewN ?_ _ | refine Below.drew ?_ | (with_reducible refine Below.trans ?_ (Below.mono (by assumption) (by (try simp); try omega)))))⟩
theorem sqrt_num (A : Value) (x : Int) (w : World) (hA : Lg w A x) (x0 : 0 ≤ x) (l1 : (dg (x.natAbs : Int)).length ≤ 600) :
    Calls Tryd.prog 16 #[A] w fun e w' => RL (rt x) e w' ∧ Below w.heap.size w w' := by
  obtain ⟨s1, rfl, h1⟩ := hA
  rw [show decide (x < 0) = false by simp; omega]
  rw [show (x.natAbs : Int) = x by omega] at h1 l1
  exact sqrt_raw s1 x _ w x0 h1 l1 rfl
set_option maxRecDepth 100000 in
set_option maxHeartbeats 1000000 in
theorem sqrt_neg_raw (s1 : Value) (x : Int) (w : World) (h1 : Ls w s1 (dg x)) (l1 : (dg x).length ≤ 600) (hv1 : ckL true (dg x) = 0) :
    Calls Tryd.prog 16 #[.agg #[.bool true, s1]] w fun e w' => e = .returned (.tuple #[noL, .int .i64 2]) ∧ Below w.heap.size w w' := by
  have a1 := Below.alloc (Below.refl w.heap.size w) (Nat.le_refl _) (.cells #[.bool true, s1] 25)
  have a2 := Below.alloc a1 a1.size (.cells #[.bool false, .slice none 0 0] 25)
  have a3 := Below.alloc a2 a2.size (.cells #[.bool true, s1] 25)
  have h1' := h1
  obtain ⟨pa, ca, rfl, hca', hqa⟩ := h1
  clear hca' hqa
  have g1 : (w.alloc (.cells #[.bool true, .slice pa (dg x).length ca] 25)).heap.size = w.heap.size + 1 := by simp
  have g2 : ((w.alloc (.cells #[.bool true, .slice pa (dg x).length ca] 25)).alloc (.cells #[.bool false, .slice none 0 0] 25)).heap.size = w.heap.size + 1 + 1 := by simp
  have bA3 : Bx (((w.alloc (.cells #[.bool true, .slice pa (dg x).length ca] 25)).alloc (.cells #[.bool false, .slice none 0 0] 25)).alloc (.cells #[.bool true, .slice pa (dg x).length ca] 25)) w.heap.size (.bool true) (.slice pa (dg x).length ca) 25 := ((Bx.new w _ _ _).alloc _).alloc _
  have bR3 : Bx (((w.alloc (.cells #[.bool true, .slice pa (dg x).length ca] 25)).alloc (.cells #[.bool false, .slice none 0 0] 25)).alloc (.cells #[.bool true, .slice pa (dg x).length ca] 25)) (w.heap.size + 1) (.bool false) (.slice none 0 0) 25 := by
    have := (Bx.new (w.alloc (.cells #[.bool true, .slice pa (dg x).length ca] 25)) (.bool false) (.slice none 0 0) 25).alloc (.cells #[.bool true, .slice pa (dg x).length ca] 25)
    rwa [g1] at this
  have bC : Bx (((w.alloc (.cells #[.bool true, .slice pa (dg x).length ca] 25)).alloc (.cells #[.bool false, .slice none 0 0] 25)).alloc (.cells #[.bool true, .slice pa (dg x).length ca] 25)) (w.heap.size + 1 + 1) (.bool true) (.slice pa (dg x).length ca) 25 := by
    have := Bx.new ((w.alloc (.cells #[.bool true, .slice pa (dg x).length ca] 25)).alloc (.cells #[.bool false, .slice none 0 0] 25)) (.bool true) (.slice pa (dg x).length ca) 25
    rwa [g2] at this
  have hck := checkAll1_any true _ _ (w.heap.size + 1 + 1) (((w.alloc (.cells #[.bool true, .slice pa (dg x).length ca] 25)).alloc (.cells #[.bool false, .slice none 0 0] 25)).alloc (.cells #[.bool true, .slice pa (dg x).length ca] 25)) (h1'.keep a3) (by omega) bC.c0 bC.c1
  rw [hv1] at hck
  clear bC g1 g2
  go_enter Tryd.func16, Tryd.ntmps16
  go_wp2_with fail
  go_at_call 38
  refine hck.mono ?_
  rintro e w1 ⟨rfl, hb1⟩
  have B1 := a3.trans (hb1.mono a3.size)
  have bA1 := bA3.keep hb1
  have bR1 := bR3.keep hb1
  have cA0' := bA1.c0
  have cA1' := bA1.c1
  have cR0' := bR1.c0
  have cR1' := bR1.c1
  have h3 := h1'.keep B1
  clear hck bA3 bR3 hb1 a1 a2 a3
  have hz5 := bR1.lt
  have r0 := bR1.c0
  have r1 := bR1.c1
  have z0 := bR1.f 0
  have z1 := bR1.f 1
  go_wp2
  refine bodyPost_ret (v := .tuple #[.agg #[.bool false, .slice none 0 0], .int .i64 2]) (by simp [results, Tryd.results16, go_sem, hz5, r0, r1, z0, z1]) rfl ⟨rfl, by (repeat (first | with_reducible exact Below.refl _ _ | with_reducible assumption | refine Below.alloc ?_ (by (try simp); try omega) _ | refine Below.setCell ?_ (by (try simp); try omega) _ | refine below_drewN ?_ _ | refine Below.drew ?_ | (with_reducible refine Below.trans ?_ (Below.mono (by assumption) (by (try simp); try omega)))))⟩
theorem sqrt_neg (A : Value) (z : Int) (w : World) (hA : Lg w A z) (z0 : z < 0) (l1 : (dg (z.natAbs : Int)).length ≤ 600) :
    Calls Tryd.prog 16 #[A] w fun e w' => e = .returned (.tuple #[noL, .int .i64 2]) ∧ Below w.heap.size w w' := by
  obtain ⟨s1, rfl, h1⟩ := hA
  have hv := ckL_num l1
  rw [show decide (z < 0) = true by simpa using z0] at hv ⊢
  exact sqrt_neg_raw s1 _ w h1 l1 hv

theorem Bx.other {w : World} {g h o : Nat} {x y : Value} {t : TypeId} (k : Bx w h x y t) (hn : h ≠ g) (u : Value) : Bx (w.setCell ⟨g, o, none⟩ u) h x y t := by
  unfold Bx at *
  rw [Below.heap_setCell w ⟨g, o, none⟩ u h hn]; exact k
theorem Bx.drew {w : World} {h : Nat} {x y : Value} {t : TypeId} (k : Bx w h x y t) : Bx w.drew h x y t := k
set_option maxRecDepth 100000 in
set_option maxHeartbeats 2000000 in
theorem div_raw (b1 b2 : Bool) (s1 s2 : Value) (x y : Int) (w : World) (x0 : 0 ≤ x) (y0 : 0 < y) (h1 : Ls w s1 (dg x)) (h2 : Ls w s2 (dg y)) (l1 : (dg x).length ≤ 600) (l2 : (dg y).length ≤ 600) (hv1 : ckL b1 (dg x) = 0) (hv2 : ckL b2 (dg y) = 0) :
    Calls Tryd.prog 19 #[.agg #[.bool b1, s1], .agg #[.bool b2, s2]] w fun e w' => ∃ v u, e = .returned (.tuple #[.agg #[.bool ((b1 != b2) && decide (0 < x / y)), v], .agg #[.bool (b1 && decide (0 < x % y)), u], .int .i64 0]) ∧ Ls w' v (dg (x / y)) ∧ Ls w' u (dg (x % y)) ∧ Below w.heap.size w w' := by
  have a1 := Below.alloc (Below.refl w.heap.size w) (Nat.le_refl _) (.cells #[.bool b1, s1] 25)
  have a2 := Below.alloc a1 a1.size (.cells #[.bool b2, s2] 25)
  have a3 := Below.alloc a2 a2.size (.cells #[.bool false, .slice none 0 0] 25)
  have h1' := h1
  have h2' := h2
  obtain ⟨pa, ca, rfl, hca', hqa⟩ := h1
  obtain ⟨pb, cb, rfl, hcb', hqb⟩ := h2
  clear hca' hqa hcb' hqb
  have g1 : (w.alloc (.cells #[.bool b1, .slice pa (dg x).length ca] 25)).heap.size = w.heap.size + 1 := by simp
  have g2 : ((w.alloc (.cells #[.bool b1, .slice pa (dg x).length ca] 25)).alloc (.cells #[.bool b2, .slice pb (dg y).length cb] 25)).heap.size = w.heap.size + 1 + 1 := by simp
  have bA : Bx (((w.alloc (.cells #[.bool b1, .slice pa (dg x).length ca] 25)).alloc (.cells #[.bool b2, .slice pb (dg y).length cb] 25)).alloc (.cells #[.bool false, .slice none 0 0] 25)) w.heap.size (.bool b1) (.slice pa (dg x).length ca) 25 := ((Bx.new w _ _ _).alloc _).alloc _
  have bB : Bx (((w.alloc (.cells #[.bool b1, .slice pa (dg x).length ca] 25)).alloc (.cells #[.bool b2, .slice pb (dg y).length cb] 25)).alloc (.cells #[.bool false, .slice none 0 0] 25)) (w.heap.size + 1) (.bool b2) (.slice pb (dg y).length cb) 25 := by
    have := (Bx.new (w.alloc (.cells #[.bool b1, .slice pa (dg x).length ca] 25)) (.bool b2) (.slice pb (dg y).length cb) 25).alloc (.cells #[.bool false, .slice none 0 0] 25)
    rwa [g1] at this
  have bR : Bx (((w.alloc (.cells #[.bool b1, .slice pa (dg x).length ca] 25)).alloc (.cells #[.bool b2, .slice pb (dg y).length cb] 25)).alloc (.cells #[.bool false, .slice none 0 0] 25)) (w.heap.size + 1 + 1) (.bool false) (.slice none 0 0) 25 := by
    have := Bx.new ((w.alloc (.cells #[.bool b1, .slice pa (dg x).length ca] 25)).alloc (.cells #[.bool b2, .slice pb (dg y).length cb] 25)) (.bool false) (.slice none 0 0) 25
    rwa [g2] at this
  have g3 : (((w.alloc (.cells #[.bool b1, .slice pa (dg x).length ca] 25)).alloc (.cells #[.bool b2, .slice pb (dg y).length cb] 25)).alloc (.cells #[.bool false, .slice none 0 0] 25)).heap.size = w.heap.size + 1 + 1 + 1 := by simp
  have g4 : ((((w.alloc (.cells #[.bool b1, .slice pa (dg x).length ca] 25)).alloc (.cells #[.bool b2, .slice pb (dg y).length cb] 25)).alloc (.cells #[.bool false, .slice none 0 0] 25)).alloc (.cells #[.bool false, .slice none 0 0] 25)).heap.size = w.heap.size + 1 + 1 + 1 + 1 := by simp
  have a4 := Below.alloc a3 a3.size (.cells #[.bool false, .slice none 0 0] 25)
  have a5 := Below.alloc a4 a4.size (.cells #[.bool b1, .slice pa (dg x).length ca, .bool b2, .slice pb (dg y).length cb] 25)
  have bA4 := (bA.alloc (.cells #[.bool false, .slice none 0 0] 25)).alloc (.cells #[.bool b1, .slice pa (dg x).length ca, .bool b2, .slice pb (dg y).length cb] 25)
  have bB4 := (bB.alloc (.cells #[.bool false, .slice none 0 0] 25)).alloc (.cells #[.bool b1, .slice pa (dg x).length ca, .bool b2, .slice pb (dg y).length cb] 25)
  have bR4 := (bR.alloc (.cells #[.bool false, .slice none 0 0] 25)).alloc (.cells #[.bool b1, .slice pa (dg x).length ca, .bool b2, .slice pb (dg y).length cb] 25)
  have bS4 : Bx (((((w.alloc (.cells #[.bool b1, .slice pa (dg x).length ca] 25)).alloc (.cells #[.bool b2, .slice pb (dg y).length cb] 25)).alloc (.cells #[.bool false, .slice none 0 0] 25)).alloc (.cells #[.bool false, .slice none 0 0] 25)).alloc (.cells #[.bool b1, .slice pa (dg x).length ca, .bool b2, .slice pb (dg y).length cb] 25)) (w.heap.size + 1 + 1 + 1) (.bool false) (.slice none 0 0) 25 := by
    have := (Bx.new (((w.alloc (.cells #[.bool b1, .slice pa (dg x).length ca] 25)).alloc (.cells #[.bool b2, .slice pb (dg y).length cb] 25)).alloc (.cells #[.bool false, .slice none 0 0] 25)) (.bool false) (.slice none 0 0) 25).alloc (.cells #[.bool b1, .slice pa (dg x).length ca, .bool b2, .slice pb (dg y).length cb] 25)
    rwa [g3] at this
  have hrow := heap_alloc_new ((((w.alloc (.cells #[.bool b1, .slice pa (dg x).length ca] 25)).alloc (.cells #[.bool b2, .slice pb (dg y).length cb] 25)).alloc (.cells #[.bool false, .slice none 0 0] 25)).alloc (.cells #[.bool false, .slice none 0 0] 25)) (.cells #[.bool b1, .slice pa (dg x).length ca, .bool b2, .slice pb (dg y).length cb] 25)
  rw [g4] at hrow
  have hck := checkAll2_any b1 b2 _ _ _ _ (w.heap.size + 1 + 1 + 1 + 1) (((((w.alloc (.cells #[.bool b1, .slice pa (dg x).length ca] 25)).alloc (.cells #[.bool b2, .slice pb (dg y).length cb] 25)).alloc (.cells #[.bool false, .slice none 0 0] 25)).alloc (.cells #[.bool false, .slice none 0 0] 25)).alloc (.cells #[.bool b1, .slice pa (dg x).length ca, .bool b2, .slice pb (dg y).length cb] 25)) (h1'.keep a5) (h2'.keep a5) (by omega) (by omega) (by rw [cell_of_row _ _ 0 _ _ _ hrow]; rfl) (by rw [cell_of_row _ _ 1 _ _ _ hrow]; rfl) (by rw [cell_of_row _ _ 2 _ _ _ hrow]; rfl) (by rw [cell_of_row _ _ 3 _ _ _ hrow]; rfl)
  rw [hv1, hv2, show ckT 0 0 = 0 from rfl] at hck
  clear hrow bA bB bR g1 g2 g3 g4
  have q0 : 0 ≤ x / y := Int.ediv_nonneg x0 (by omega)
  have r0 : 0 ≤ x % y := Int.emod_nonneg x (by omega)
  have lq : (dg (x / y)).length ≤ 600 := by have := dg_len_mono q0 (Int.ediv_le_self y x0); omega
  have lr : (dg (x % y)).length ≤ 600 := by have := dg_len_mono r0 (show x % y ≤ y by have := Int.emod_lt_of_pos x y0; omega); omega
  have hd := fun w h h' => divided_any (.slice pa (dg x).length ca) (.slice pb (dg y).length cb) x y w x0 y0 h h' (by omega) (by omega)
  have hs1 := fun ng d w h => signed_ok ng d (x / y) w q0 h lq
  have hs2 := fun ng d w h => signed_ok ng d (x % y) w r0 h lr
  have hyl := dg_len_pos y0
  clear hv1 hv2 lq lr q0 r0
  generalize decide (0 < x / y) = f1 at *
  generalize decide (0 < x % y) = f2 at *
  generalize x / y = q at *
  generalize x % y = r at *
  generalize (dg x).length = nx at *
  generalize (dg y).length = ny at *
  have hne : ¬ ((ny : Int) = 0) := by omega
  go_enter Tryd.func19, Tryd.ntmps19
  go_wp2_with fail
  go_at_call 38
  refine hck.mono ?_
  rintro e w1 ⟨rfl, hb1⟩
  have B1 := a5.trans (hb1.mono a5.size)
  have bA1 := bA4.keep hb1
  have bB1 := bB4.keep hb1
  have bR1 := bR4.keep hb1
  have bS1 := bS4.keep hb1
  have cA0' := bA1.c0
  have cA1' := bA1.c1
  have cB0' := bB1.c0
  have cB1' := bB1.c1
  have h3 := h1'.keep B1
  have h4 := h2'.keep B1
  clear hck bA4 bB4 bR4 bS4 hb1 a1 a2 a3 a4 a5
  go_wp2_with fail
  go_at_call 44
  refine (hd _ h3 h4).mono ?_
  rintro e w2 ⟨v, u, rfl, hv, hu, hb2⟩
  have B2 := B1.trans (hb2.mono B1.size)
  have bA2 := bA1.keep hb2
  have bB2 := bB1.keep hb2
  have bR2 := bR1.keep hb2
  have bS2 := bS1.keep hb2
  have dA0 := bA2.c0
  have dB0 := bB2.c0
  clear hd h3 h4 h1' h2' bA1 bB1 bR1 bS1 hb2 B1 cA0' cA1' cB0' cB1'
  go_wp2_with fail
  go_at_call 36
  refine (hs1 _ v _ hv).mono ?_
  rintro e w3 ⟨rfl, hb3⟩
  have B3 := B2.trans (hb3.mono B2.size)
  have bA3 := bA2.keep hb3
  have bR3 := bR2.keep hb3
  have bS3 := bS2.keep hb3
  have hv3 := hv.keep hb3
  have hu3 := hu.keep hb3
  have eA0 := bA3.c0
  have eR0 := bR3.c0
  have eR1 := bR3.c1
  have fR0 := bR3.f 0
  have fR1 := bR3.f 1
  clear hs1 bA2 bB2 bR2 bS2 hb3 B2 dA0 dB0 hv hu
  obtain ⟨p1, hp1⟩ : ∃ p1, ((!(b1 == b2)) && f1) = p1 := ⟨_, rfl⟩
  rw [hp1]
  replace hp1 := Lib.hid hp1
  have hv3' := hv3
  obtain ⟨pv, cv, rfl, _, _⟩ := hv3
  have hu3' := hu3
  obtain ⟨pu, cu, rfl, _, _⟩ := hu3
  have hv4 := hv3'.boxed (p := p1) bR3 (nb _) (ns _ _ _) (.slice pv (dg q).length cv)
  have hu4 := hu3'.boxed (p := p1) bR3 (nb _) (ns _ _ _) (.slice pv (dg q).length cv)
  have bR4 := (bR3.set0 (.bool p1)).set1 (.slice pv (dg q).length cv)
  have bS4 := (bS3.other (g := w.heap.size + 1 + 1) (o := 0) (by omega) (.bool p1)).other (g := w.heap.size + 1 + 1) (o := 1) (by omega) (.slice pv (dg q).length cv)
  have bA4 := (bA3.other (g := w.heap.size + 1 + 1) (o := 0) (by omega) (.bool p1)).other (g := w.heap.size + 1 + 1) (o := 1) (by omega) (.slice pv (dg q).length cv)
  go_wp2_with fail
  have B4 : Below w.heap.size w ((w3.setCell ⟨w.heap.size + 1 + 1, 0, none⟩ (.bool p1)).setCell ⟨w.heap.size + 1 + 1, 1, none⟩ (.slice pv (dg q).length cv)) := by (repeat (first | with_reducible exact Below.refl _ _ | with_reducible assumption | refine Below.alloc ?_ (by (try simp); try omega) _ | refine Below.setCell ?_ (by (try simp); try omega) _ | refine below_drewN ?_ _ | refine Below.drew ?_ | (with_reducible refine Below.trans ?_ (Below.mono (by assumption) (by (try simp); try omega)))))
  generalize (w3.setCell ⟨w.heap.size + 1 + 1, 0, none⟩ (.bool p1)).setCell ⟨w.heap.size + 1 + 1, 1, none⟩ (.slice pv (dg q).length cv) = w4 at *
  clear bA3 bR3 bS3 B3 eA0 eR0 eR1 fR0 fR1 hv3' hu3'
  go_at_call 36
  refine (hs2 _ _ _ hu4).mono ?_
  rintro e w5 ⟨rfl, hb5⟩
  have B5 := B4.trans (hb5.mono B4.size)
  have bR5 := bR4.keep hb5
  have bS5 := bS4.keep hb5
  have hv5 := hv4.keep hb5
  have hu5 := hu4.keep hb5
  obtain ⟨p2, hp2⟩ : ∃ p2, (b1 && f2) = p2 := ⟨_, rfl⟩
  rw [hp2]
  replace hp2 := Lib.hid hp2
  have zR := bR5.lt
  have zS := bS5.lt
  have gR0 := bR5.c0
  have gR1 := bR5.c1
  have gS0 := bS5.c0
  have gS1 := bS5.c1
  have kR0 := bR5.f 0
  have kR1 := bR5.f 1
  have kS0 := bS5.f 0
  have kS1 := bS5.f 1
  clear hs2 hb5 B4 bR4 bS4 bA4 hv4 hu4
  have bR6 := (bR5.other (g := w.heap.size + 1 + 1 + 1) (o := 0) (by omega) (.bool p2)).other (g := w.heap.size + 1 + 1 + 1) (o := 1) (by omega) (.slice pu (dg r).length cu)
  have bS6 := (bS5.set0 (.bool p2)).set1 (.slice pu (dg r).length cu)
  have hv6 := hv5.boxed (p := p2) bS5 (nb _) (ns _ _ _) (.slice pu (dg r).length cu)
  have hu6 := hu5.boxed (p := p2) bS5 (nb _) (ns _ _ _) (.slice pu (dg r).length cu)
  go_wp2
  have B6 : Below w.heap.size w ((w5.setCell ⟨w.heap.size + 1 + 1 + 1, 0, none⟩ (.bool p2)).setCell ⟨w.heap.size + 1 + 1 + 1, 1, none⟩ (.slice pu (dg r).length cu)) := by (repeat (first | with_reducible exact Below.refl _ _ | with_reducible assumption | refine Below.alloc ?_ (by (try simp); try omega) _ | refine Below.setCell ?_ (by (try simp); try omega) _ | refine below_drewN ?_ _ | refine Below.drew ?_ | (with_reducible refine Below.trans ?_ (Below.mono (by assumption) (by (try simp); try omega)))))
  generalize (w5.setCell ⟨w.heap.size + 1 + 1 + 1, 0, none⟩ (.bool p2)).setCell ⟨w.heap.size + 1 + 1 + 1, 1, none⟩ (.slice pu (dg r).length cu) = w6 at *
  clear bR5 bS5 B5 gR0 gR1 gS0 gS1 kR0 kR1 kS0 kS1 hv5 hu5 zR zS
  have zR := bR6.lt
  have zS := bS6.lt
  have gR0 := bR6.c0
  have gR1 := bR6.c1
  have gS0 := bS6.c0
  have gS1 := bS6.c1
  have kR0 := bR6.f 0
  have kR1 := bR6.f 1
  have kS0 := bS6.f 0
  have kS1 := bS6.f 1
  have bS7 := (bS6.other (g := w.heap.size + 1 + 1) (o := 0) (by omega) (.bool p1)).other (g := w.heap.size + 1 + 1) (o := 1) (by omega) (.slice pv (dg q).length cv)
  have hv7 := (hv6.boxed (p := p1) bR6 (nb _) (ns _ _ _) (.slice pv (dg q).length cv)).boxed (p := p2) bS7 (nb _) (ns _ _ _) (.slice pu (dg r).length cu)
  have hu7 := (hu6.boxed (p := p1) bR6 (nb _) (ns _ _ _) (.slice pv (dg q).length cv)).boxed (p := p2) bS7 (nb _) (ns _ _ _) (.slice pu (dg r).length cu)
  go_region
  go_wp2
  refine bodyPost_ret (v := .tuple #[.agg #[.bool p1, .slice pv (dg q).length cv], .agg #[.bool p2, .slice pu (dg r).length cu], .int .i64 0]) (by simp [results, Tryd.results19, go_sem, zR, zS, gR0, gR1, gS0, gS1, kR0, kR1, kS0, kS1]) rfl ⟨_, _, ?_, hv7, hu7, by (repeat (first | with_reducible exact Below.refl _ _ | with_reducible assumption | refine Below.alloc ?_ (by (try simp); try omega) _ | refine Below.setCell ?_ (by (try simp); try omega) _ | refine below_drewN ?_ _ | refine Below.drew ?_ | (with_reducible refine Below.trans ?_ (Below.mono (by assumption) (by (try simp); try omega)))))⟩
  rw [← hp1.out, ← hp2.out]; rfl
theorem sg_neg (b : Bool) {x : Int} (x0 : 0 ≤ x) : decide (sg b x < 0) = (b && decide (0 < x)) ∧ ((sg b x).natAbs : Int) = x := by
  unfold sg
  cases b
  · simp; omega
  · by_cases h : 0 < x
    · simp [h]; omega
    · simp [h]; omega
theorem div_num (A B : Value) (x y : Int) (w : World) (hA : Lg w A x) (hB : Lg w B y) (l1 : (dg (x.natAbs : Int)).length ≤ 600) (l2 : (dg (y.natAbs : Int)).length ≤ 600) (y0 : y ≠ 0) :
    Calls Tryd.prog 19 #[A, B] w fun e w' => ∃ Q R, e = .returned (.tuple #[Q, R, .int .i64 0]) ∧ Lg w' Q (x.tdiv y) ∧ Lg w' R (x.tmod y) ∧ Below w.heap.size w w' := by
  obtain ⟨s1, rfl, h1⟩ := hA
  obtain ⟨s2, rfl, h2⟩ := hB
  refine (div_raw _ _ _ _ _ _ w (by omega) (by omega) h1 h2 l1 l2 (ckL_num l1) (ckL_num l2)).mono ?_
  rintro e w' ⟨v, u, rfl, hv, hu, hb⟩
  have q0 : 0 ≤ (x.natAbs : Int) / (y.natAbs : Int) := Int.ediv_nonneg (by omega) (by omega)
  have r0 : 0 ≤ (x.natAbs : Int) % (y.natAbs : Int) := Int.emod_nonneg _ (by omega)
  have eq : x.tdiv y = sg (decide (x < 0) != decide (y < 0)) ((x.natAbs : Int) / (y.natAbs : Int)) := by
    rw [← Int.tdiv_eq_ediv_of_nonneg (by omega)]
    unfold sg
    by_cases hx : x < 0 <;> by_cases hy : y < 0
    · rw [show (x.natAbs : Int) = -x by omega, show (y.natAbs : Int) = -y by omega]; simp [hx, hy]
    · rw [show (x.natAbs : Int) = -x by omega, show (y.natAbs : Int) = y by omega]; simp [hx, hy]
    · rw [show (x.natAbs : Int) = x by omega, show (y.natAbs : Int) = -y by omega]; simp [hx, hy]
    · rw [show (x.natAbs : Int) = x by omega, show (y.natAbs : Int) = y by omega]; simp [hx, hy]
  have er : x.tmod y = sg (decide (x < 0)) ((x.natAbs : Int) % (y.natAbs : Int)) := by
    rw [← Int.tmod_eq_emod_of_nonneg (by omega)]
    unfold sg
    by_cases hx : x < 0 <;> by_cases hy : y < 0
    · rw [show (x.natAbs : Int) = -x by omega, show (y.natAbs : Int) = -y by omega]; simp [hx]
    · rw [show (x.natAbs : Int) = -x by omega, show (y.natAbs : Int) = y by omega]; simp [hx]
    · rw [show (x.natAbs : Int) = x by omega, show (y.natAbs : Int) = -y by omega]; simp [hx]
    · rw [show (x.natAbs : Int) = x by omega, show (y.natAbs : Int) = y by omega]; simp [hx]
  have g1 := sg_neg (decide (x < 0) != decide (y < 0)) q0
  have g2 := sg_neg (decide (x < 0)) r0
  refine ⟨_, _, rfl, ⟨v, ?_, ?_⟩, ⟨u, ?_, ?_⟩, hb⟩
  · rw [eq, g1.1]
  · rw [eq, g1.2]; exact hv
  · rw [er, g2.1]
  · rw [er, g2.2]; exact hu

set_option maxHeartbeats 1000000 in
theorem equal_any (va vb : Value) (a b : List Int) (w : World) (ha : Ls w va a) (hb : Ls w vb b) (la : a.length ≤ 1000000) (lb : b.length ≤ 1000000) :
    Calls Tryd.prog 25 #[va, vb] w fun e w' => e = .returned (.bool (decide (a = b))) ∧ Below w.heap.size w w' := by
  obtain ⟨pa, ca, rfl, ⟨hca', hna⟩, hpa⟩ := ha
  obtain ⟨pb, cb, rfl, ⟨hcb', hnb⟩, hpb⟩ := hb
  by_cases hl : a.length = b.length
  · have hno : ∀ k, k < a.length → el a k ≠ el b k → Hid (decide (a = b) = false) := fun k _ h => Lib.hid (by
      simp; intro e; rw [e] at h; exact h rfl)
    have hyes : (∀ j, j < a.length → el a j = el b j) → Hid (decide (a = b) = true) := fun h => Lib.hid (by
      simp
      apply List.ext_getElem hl
      intro i h1 h2
      have := h i h1
      simpa [el, List.getD_eq_getElem?_getD, List.getElem?_eq_getElem h1, List.getElem?_eq_getElem h2] using this)
    rw [← hl] at hpb
    rw [show b.length = a.length from hl.symm]
    clear hl hca' hcb' hna hnb lb
    generalize decide (a = b) = R at *
    go_enter Tryd.func25, Tryd.ntmps25
    go_wp2
    go_loopw [13] (fun i wr => ∃ (k : Nat), i = .int .i64 k ∧ k ≤ a.length ∧ (∀ j, j < k → el a j = el b j) ∧ Below w.heap.size w wr)
      (fun i _ => a.length - (intOf i).toNat)
    case atStart => exact ⟨0, rfl, Nat.zero_le _, fun j hj => by omega, Below.refl _ _⟩
    case round =>
      obtain ⟨k, rfl, hk, hj, hnx⟩ := hrel
      by_cases hk' : k < a.length
      · obtain ⟨ba, oa, rfl, hxa⟩ := hpa (by omega)
        obtain ⟨bb, ob, rfl, hxb⟩ := hpb (by omega)
        have hx := lkeep hnx (hxa k hk')
        have hy := lkeep hnx (hxb k hk')
        have h1 := hno k hk'
        obtain ⟨x, ex⟩ : ∃ x, el a k = x := ⟨_, rfl⟩
        obtain ⟨y, ey⟩ : ∃ y, el b k = y := ⟨_, rfl⟩
        rw [ex] at hx h1
        rw [ey] at hy h1
        have hxy : x = y → ∀ j, j < k + 1 → el a j = el b j := fun h j hj' => by
          rcases Nat.lt_or_ge j k with c | c
          · exact hj j c
          · rw [show j = k by omega, ex, ey, h]
        clear ex ey hxa hxb hno hyes hj
        by_cases c : x = y
        · subst c
          have h2 := hxy rfl
          clear hxy h1
          go_wp2
          go_quiet (fail)
          go_wp2
          go_roundw
          case rel => exact ⟨k + 1, by simp, by omega, h2, by (repeat (first | with_reducible exact Below.refl _ _ | with_reducible assumption | refine Below.alloc ?_ (by (try simp); try omega) _ | refine Below.setCell ?_ (by (try simp); try omega) _ | refine below_drewN ?_ _ | refine Below.drew ?_ | (with_reducible refine Below.trans ?_ (Below.mono (by assumption) (by (try simp); try omega)))))⟩
          case measure => simp [intOf]; omega
        · have Ho := h1 c
          clear hxy h1
          go_wp2
          go_quiet (fail)
          go_wp2
          go_ret
          exact ⟨by rw [Ho.out]; rfl, by (repeat (first | with_reducible exact Below.refl _ _ | with_reducible assumption | refine Below.alloc ?_ (by (try simp); try omega) _ | refine Below.setCell ?_ (by (try simp); try omega) _ | refine below_drewN ?_ _ | refine Below.drew ?_ | (with_reducible refine Below.trans ?_ (Below.mono (by assumption) (by (try simp); try omega)))))⟩
      · have hka : k = a.length := by omega
        subst hka
        have Ho := hyes hj
        clear hno hyes hj
        go_wp2
        go_ret
        exact ⟨by rw [Ho.out]; rfl, hnx⟩
  · rw [show decide (a = b) = false by simp; intro e; rw [e] at hl; exact hl rfl]
    clear hpa hpb
    go_enter Tryd.func25, Tryd.ntmps25
    go_wp2
    go_ret
    exact ⟨rfl, Below.refl _ _⟩

set_option maxHeartbeats 1000000 in
theorem same_any (b1 b2 : Bool) (s1 s2 : Value) (l m : List Int) (w : World) (h1 : Ls w s1 l) (h2 : Ls w s2 m) (ll : l.length ≤ 1000000) (lm : m.length ≤ 1000000) :
    Calls Tryd.prog 23 #[.agg #[.bool b1, s1], .agg #[.bool b2, s2]] w fun e w' => e = .returned (.bool (b1 == b2 && decide (l = m))) ∧ Below w.heap.size w w' := by
  have a1 := Below.alloc (Below.refl w.heap.size w) (Nat.le_refl _) (.cells #[.bool b1, s1] 25)
  have a2 := Below.alloc a1 a1.size (.cells #[.bool b2, s2] 25)
  have hc := fun w h h' => equal_any s1 s2 l m w h h' ll lm
  have h1' := h1.keep a2
  have h2' := h2.keep a2
  obtain ⟨pa, ca, rfl, _, _⟩ := h1
  obtain ⟨pb, cb, rfl, _, _⟩ := h2
  generalize decide (l = m) = R at *
  generalize l.length = n1 at *
  generalize m.length = n2 at *
  cases hb : (b1 == b2)
  · rw [Bool.false_and]
    go_enter Tryd.func23, Tryd.ntmps23
    go_wp2
    go_ret
    exact ⟨rfl, a2⟩
  · rw [Bool.true_and]
    go_enter Tryd.func23, Tryd.ntmps23
    go_wp2_with (go_at_call 25; refine (hc _ h1' h2').mono ?_; rintro e w1 ⟨rfl, hb1⟩)
    go_ret
    exact ⟨rfl, a2.trans (hb1.mono a2.size)⟩
theorem same_num (A B : Value) (x y : Int) (w : World) (hA : Lg w A x) (hB : Lg w B y) (l1 : (dg (x.natAbs : Int)).length ≤ 600) (l2 : (dg (y.natAbs : Int)).length ≤ 600) :
    Calls Tryd.prog 23 #[A, B] w fun e w' => e = .returned (.bool (decide (x = y))) ∧ Below w.heap.size w w' := by
  obtain ⟨s1, rfl, h1⟩ := hA
  obtain ⟨s2, rfl, h2⟩ := hB
  have e : (decide (x < 0) == decide (y < 0) && decide (dg (x.natAbs : Int) = dg (y.natAbs : Int))) = decide (x = y) := by
    rw [Bool.eq_iff_iff]
    simp
    constructor
    · rintro ⟨h, k⟩
      have := dg_inj (by omega) (by omega) k
      omega
    · rintro rfl; exact ⟨Iff.rfl, rfl⟩
  have := same_any (decide (x < 0)) (decide (y < 0)) s1 s2 _ _ w h1 h2 (by omega) (by omega)
  rwa [e] at this

theorem Bx.keepB {w w' : World} {g B : Nat} {x y : Value} {t : TypeId} (h : Bx w g x y t) (hb : Below B w w') (hg : g < B) : Bx w' g x y t := by
  unfold Bx at *
  rw [hb.block g hg]; exact h
/-- The size of an int, as the conversions give it. -/
theorem size_pos (n : Int) (h : 0 ≤ n) (h1 : n ≤ 9223372036854775807) : IntKind.u64.wrap n = (n.natAbs : Int) := by rw [wrap_in n h (by omega)]; omega
theorem size_neg (n : Int) (h : n < 0) (h1 : -9223372036854775808 ≤ n) : IntKind.u64.wrap (-(IntKind.u64.wrap n)) = (n.natAbs : Int) := by
  rw [IntKind.wrap_u64, IntKind.wrap_u64]; omega
set_option maxRecDepth 100000 in
set_option maxHeartbeats 1600000 in
theorem of_any (n : Int) (w : World) (n0 : -9223372036854775808 ≤ n) (n1 : n ≤ 9223372036854775807) :
    Calls Tryd.prog 24 #[.int .i64 n] w fun e w' => ∃ V, e = .returned V ∧ Lg w' V n ∧ Below w.heap.size w w' := by
  obtain ⟨i0, hi, hz0, hz1, hz2⟩ := info_parts Tryd.infoInt
  have bR : Bx (w.alloc (.cells #[.bool false, .slice none 0 0] 25)) w.heap.size (.bool false) (.slice none 0 0) 25 := Bx.new w _ _ _
  have a1 := Below.alloc (Below.refl w.heap.size w) (Nat.le_refl _) (.cells #[.bool false, .slice none 0 0] 25)
  have hsz : (w.alloc (.cells #[.bool false, .slice none 0 0] 25)).heap.size = w.heap.size + 1 := by simp
  obtain ⟨M, hM⟩ : ∃ M : Int, M = n.natAbs := ⟨_, rfl⟩
  have bM : 0 ≤ M ∧ M ≤ 9223372036854775808 := by omega
  have hlen : (dg M).length ≤ 3 := dg_len_le (by omega) (by omega)
  by_cases hn : n < 0
  all_goals
    first
      | have e1 := size_neg n hn n0
      | have e1 := size_pos n (by omega) n1
    rw [← hM] at e1
    have HM := Lib.hid hM
    clear hM
    go_enter Tryd.func24, Tryd.ntmps24
    go_wp2
    go_loopw [3, 4] (fun n' v wr => ∃ (m : Int) (l : List Int), n' = .int .u64 m ∧ 0 ≤ m ∧ m ≤ 9223372036854775808 ∧ l.length + (dg m).length ≤ 3 ∧ Hid (l ++ dg m = dg M) ∧ wr.ownsRow (w.heap.size + 1) 3 1 v l.length (l.map (Value.int .i64)) ∧ Below (w.heap.size + 1) (w.alloc (.cells #[.bool false, .slice none 0 0] 25)) wr)
      (fun n' _ _ => (intOf n').toNat)
    case atStart => exact ⟨M, [], by first | rfl | rw [e1], bM.1, bM.2, by simpa using hlen, Lib.hid (by simp), World.ownsRow_nil _ _ _ _, Below.refl _ _⟩
    case round =>
      clear e1 hlen bM
      obtain ⟨m, l, rfl, m0, m1, lk, hv, hown, hnx⟩ := hrel
      have bW := bR.keepB hnx (by omega)
      by_cases hm : m = 0
      · subst hm
        have e := hv.out
        rw [dg_zero, List.append_nil] at e
        have hls := Ls.own hown
        rw [e, HM.out] at hls
        have hls' := hls
        obtain ⟨pv, cv, hve, _, _⟩ := hls
        subst hve
        have r0 := bW.c0
        have r1 := bW.c1
        have z0 := bW.f 0
        have z1 := bW.f 1
        have hz5 := bW.lt
        have hB : Below w.heap.size w wr := a1.trans (hnx.mono (Nat.le_succ _))
        clear hown hv e hi hz0 hz1 hz2 hnx a1 bR
        go_wp2
        first
          | refine bodyPost_ret (v := .agg #[.bool true, .slice pv (dg (n.natAbs : Int)).length cv]) (by simp [results, Tryd.results24, go_sem, hz5, r0, r1, z0, z1]) rfl ⟨_, rfl, ⟨_, by rw [show decide (n < 0) = true by simpa using hn], hls'.boxed bW (nb _) (ns _ _ _) _⟩, by (repeat (first | with_reducible exact Below.refl _ _ | with_reducible assumption | refine Below.alloc ?_ (by (try simp); try omega) _ | refine Below.setCell ?_ (by (try simp); try omega) _ | refine below_drewN ?_ _ | refine Below.drew ?_ | (with_reducible refine Below.trans ?_ (Below.mono (by assumption) (by (try simp); try omega)))))⟩
          | refine bodyPost_ret (v := .agg #[.bool false, .slice pv (dg (n.natAbs : Int)).length cv]) (by simp [results, Tryd.results24, go_sem, hz5, r0, r1, z0, z1, hn]) rfl ⟨_, rfl, ⟨_, by rw [show decide (n < 0) = false by simpa using hn], hls'.boxed bW (nb _) (ns _ _ _) _⟩, by (repeat (first | with_reducible exact Below.refl _ _ | with_reducible assumption | refine Below.alloc ?_ (by (try simp); try omega) _ | refine Below.setCell ?_ (by (try simp); try omega) _ | refine below_drewN ?_ _ | refine Below.drew ?_ | (with_reducible refine Below.trans ?_ (Below.mono (by assumption) (by (try simp); try omega)))))⟩
      · have hm1 : 0 < m := by omega
        have hv' := hv.out
        rw [dg_pos hm1, ← List.singleton_append, ← List.append_assoc] at hv'
        have hll : l.length + 1 + (dg (m / 1000000000)).length ≤ 3 := by rw [dg_pos hm1] at lk; simp at lk; omega
        have e2 : IntKind.i64.wrap (m % 1000000000) = m % 1000000000 := IntWalk.i64_in _ (by omega)
        have HV := Lib.hid hv'
        clear hv hv' lk bW
        go_wp2_with (at_builtin; refine wpList_append_own _ rfl _ _ 65 rfl (w.heap.size + 1) 3 i0 (.int .i64 0) 1 8 Tryd.underlying65 hi hz0 hz1 hz2 rfl (by decide) _ _ _ rfl (hown.alloc _) ⟨wr.heap.size, 0, none⟩ 1 1 [.int .i64 (m % 1000000000)] rfl rfl (one_at _ _ _) (one_cell _ _) (by unfold maxLen; omega) (by omega) (by have := hnx.size; simp at this ⊢; omega) ?_)
        intro v' w1 hown' hgrow _
        have hb := (hnx.alloc (by have := hnx.size; simpa using this) (.cells #[.int .i64 (m % 1000000000)] 3)).grown hgrow (by have := hnx.size; simp at this ⊢; omega) (fun k hk => (hown.lt k hk).1)
        clear hown hgrow hnx
        go_wp2
        go_roundw
        case rel =>
          refine ⟨m / 1000000000, l ++ [m % 1000000000], rfl, by omega, by omega, by simp; omega, HV, by rw [List.length_append, List.map_append]; exact hown', hb⟩
        case measure => simp [intOf]; omega
end Go.Proofs.YthhbnhdejbpjiaaDoor
