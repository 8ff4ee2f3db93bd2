/-
  Walk: Gcd of package long, any numbers.
-/
import Derived.Test.YtoppdbgodceaiaaDoorLjH
import Derived.Test.YtoppdbgodceaiaaDoorLiK
namespace Go.Proofs.YtoppdbgodceaiaaDoor
open Go.RowKit

set_option maxRecDepth 100000 in
theorem comb_gcd (b1 b2 ng : Bool) (s1 s2 : Value) (x y z : Int) (w : World) (x0 : 0 ≤ x) (y0 : 0 ≤ y) (h1 : Ls w s1 (dg x)) (h2 : Ls w s2 (dg y)) (l1 : (dg x).length ≤ 600) (l2 : (dg y).length ≤ 600) (hz : z = if ng then -(gI x y) else gI x y) :
    Calls Tryd.prog 76 #[.func (.func 80) #[] #[], .agg #[.bool b1, s1], .agg #[.bool b2, s2], .bool ng] w fun e w' => RL z e w' ∧ Below w.heap.size w w' := by
  have a1 := Below.alloc (Below.refl w.heap.size w) (Nat.le_refl _) (.cells #[.bool b1, s1] 24)
  have a2 := Below.alloc a1 a1.size (.cells #[.bool b2, s2] 24)
  have a3 := Below.alloc a2 a2.size (.cells #[.bool false, .slice none 0 0] 24)
  have hp := divisor_num s1 s2 x y _ x0 y0 (h1.keep a3) (h2.keep a3) (by omega) (by omega)
  obtain ⟨pa, ca, rfl, hca', hqa⟩ := h1
  obtain ⟨pb, cb, rfl, hcb', hqb⟩ := h2
  clear hca' hqa hcb' hqb
  have bx : Bx (((w.alloc (.cells #[.bool b1, .slice pa (dg x).length ca] 24)).alloc (.cells #[.bool b2, .slice pb (dg y).length cb] 24)).alloc (.cells #[.bool false, .slice none 0 0] 24)) (w.heap.size + 1 + 1) (.bool false) (.slice none 0 0) 24 := by
    have := Bx.new ((w.alloc (.cells #[.bool b1, .slice pa (dg x).length ca] 24)).alloc (.cells #[.bool b2, .slice pb (dg y).length cb] 24)) (.bool false) (.slice none 0 0) 24
    rwa [show ((w.alloc (.cells #[.bool b1, .slice pa (dg x).length ca] 24)).alloc (.cells #[.bool b2, .slice pb (dg y).length cb] 24)).heap.size = w.heap.size + 1 + 1 by simp] at this
  have hnn : 0 ≤ gI x y := gI_nonneg x y
  have hlen : (dg (gI x y)).length ≤ 100000 := by have := gI_len x0 y0; omega
  generalize hr : gI x y = r at *
  have hsig := hz
  replace hr := Lib.hid hr
  go_enter Tryd.func76, Tryd.ntmps76
  go_wp2_with fail
  go_at_call 80
  refine hp.mono ?_
  rintro e w1 ⟨v, rfl, hv, hb1⟩
  have B1 := a3.trans (hb1.mono a3.size)
  have bx1 := bx.keep hb1
  clear hp bx hb1 a1 a2 a3
  have hsg := signed_num ng v r z w1 hnn hv hlen hsig
  go_wp2_with fail
  go_at_call 74
  refine hsg.mono ?_
  rintro e w2 ⟨hRL, hb2⟩
  have B2 := B1.trans (hb2.mono B1.size)
  have bx2 := bx1.keep hb2
  have hz5 := bx2.lt
  have r0 := bx2.c0
  have r1 := bx2.c1
  have z0 := bx2.f 0
  have z1 := bx2.f 1
  clear hsg hb2 B1 bx1
  rcases hRL with ⟨hl, V, rfl, s, rfl, hs⟩ | ⟨hl, rfl⟩
  · obtain ⟨sg, hsg⟩ : ∃ sg, decide (z < 0) = sg := ⟨_, rfl⟩
    rw [hsg]
    replace hsg := Lib.hid hsg
    have hs' := hs
    obtain ⟨ps, cs, rfl, _, _⟩ := hs
    clear hsig hz
    go_wp2
    refine bodyPost_ret (v := .tuple #[.agg #[.bool sg, .slice ps (dg (z.natAbs : Int)).length cs], .int .i64 0]) (by simp [results, Tryd.results76, go_sem, hz5, r0, r1, z0, z1]) rfl ⟨?_, by (repeat (first | with_reducible exact Below.refl _ _ | with_reducible assumption | refine Below.alloc ?_ (by (try simp); try omega) _ | refine Below.setCell ?_ (by (try simp); try omega) _ | refine below_drewN ?_ _ | refine Below.drew ?_ | (with_reducible refine Below.trans ?_ (Below.mono (by assumption) (by (try simp); try omega)))))⟩
    refine .inl ⟨hl, _, rfl, _, by rw [hsg.out], ?_⟩
    exact hs'.boxed bx2 (nb _) (ns _ _ _) _
  · go_wp2
    refine bodyPost_ret (v := .tuple #[.agg #[.bool false, .slice none 0 0], .int .i64 6]) (by simp [results, Tryd.results76, go_sem, hz5, r0, r1, z0, z1]) rfl ⟨.inr ⟨hl, rfl⟩, by (repeat (first | with_reducible exact Below.refl _ _ | with_reducible assumption | refine Below.alloc ?_ (by (try simp); try omega) _ | refine Below.setCell ?_ (by (try simp); try omega) _ | refine below_drewN ?_ _ | refine Below.drew ?_ | (with_reducible refine Below.trans ?_ (Below.mono (by assumption) (by (try simp); try omega)))))⟩
set_option maxRecDepth 100000 in
set_option maxHeartbeats 1000000 in
theorem gcd_raw (b1 b2 : Bool) (s1 s2 : Value) (x y z : Int) (w : World) (x0 : 0 ≤ x) (y0 : 0 ≤ y) (h1 : Ls w s1 (dg x)) (h2 : Ls w s2 (dg y)) (l1 : (dg x).length ≤ 600) (l2 : (dg y).length ≤ 600) (hv1 : ckL b1 (dg x) = 0) (hv2 : ckL b2 (dg y) = 0) (hz : z = gI x y) :
    Calls Tryd.prog 40 #[.agg #[.bool b1, s1], .agg #[.bool b2, s2]] w fun e w' => RL z e w' ∧ Below w.heap.size w w' := by
  have a1 := Below.alloc (Below.refl w.heap.size w) (Nat.le_refl _) (.cells #[.bool b1, s1] 24)
  have a2 := Below.alloc a1 a1.size (.cells #[.bool b2, s2] 24)
  have a3 := Below.alloc a2 a2.size (.cells #[.bool false, .slice none 0 0] 24)
  have h1' := h1
  have h2' := h2
  obtain ⟨pa, ca, rfl, hca', hqa⟩ := h1
  obtain ⟨pb, cb, rfl, hcb', hqb⟩ := h2
  clear hca' hqa hcb' hqb
  have g1 : (w.alloc (.cells #[.bool b1, .slice pa (dg x).length ca] 24)).heap.size = w.heap.size + 1 := by simp
  have g2 : ((w.alloc (.cells #[.bool b1, .slice pa (dg x).length ca] 24)).alloc (.cells #[.bool b2, .slice pb (dg y).length cb] 24)).heap.size = w.heap.size + 1 + 1 := by simp
  have bA : Bx (((w.alloc (.cells #[.bool b1, .slice pa (dg x).length ca] 24)).alloc (.cells #[.bool b2, .slice pb (dg y).length cb] 24)).alloc (.cells #[.bool false, .slice none 0 0] 24)) w.heap.size (.bool b1) (.slice pa (dg x).length ca) 24 := ((Bx.new w _ _ _).alloc _).alloc _
  have bB : Bx (((w.alloc (.cells #[.bool b1, .slice pa (dg x).length ca] 24)).alloc (.cells #[.bool b2, .slice pb (dg y).length cb] 24)).alloc (.cells #[.bool false, .slice none 0 0] 24)) (w.heap.size + 1) (.bool b2) (.slice pb (dg y).length cb) 24 := by
    have := (Bx.new (w.alloc (.cells #[.bool b1, .slice pa (dg x).length ca] 24)) (.bool b2) (.slice pb (dg y).length cb) 24).alloc (.cells #[.bool false, .slice none 0 0] 24)
    rwa [g1] at this
  have bR : Bx (((w.alloc (.cells #[.bool b1, .slice pa (dg x).length ca] 24)).alloc (.cells #[.bool b2, .slice pb (dg y).length cb] 24)).alloc (.cells #[.bool false, .slice none 0 0] 24)) (w.heap.size + 1 + 1) (.bool false) (.slice none 0 0) 24 := by
    have := Bx.new ((w.alloc (.cells #[.bool b1, .slice pa (dg x).length ca] 24)).alloc (.cells #[.bool b2, .slice pb (dg y).length cb] 24)) (.bool false) (.slice none 0 0) 24
    rwa [g2] at this
  have g3 : (((w.alloc (.cells #[.bool b1, .slice pa (dg x).length ca] 24)).alloc (.cells #[.bool b2, .slice pb (dg y).length cb] 24)).alloc (.cells #[.bool false, .slice none 0 0] 24)).heap.size = w.heap.size + 1 + 1 + 1 := by simp
  have a4 := Below.alloc a3 a3.size (.cells #[.bool b1, .slice pa (dg x).length ca, .bool b2, .slice pb (dg y).length cb] 24)
  have bA4 := bA.alloc (.cells #[.bool b1, .slice pa (dg x).length ca, .bool b2, .slice pb (dg y).length cb] 24)
  have bB4 := bB.alloc (.cells #[.bool b1, .slice pa (dg x).length ca, .bool b2, .slice pb (dg y).length cb] 24)
  have bR4 := bR.alloc (.cells #[.bool b1, .slice pa (dg x).length ca, .bool b2, .slice pb (dg y).length cb] 24)
  have hrow := heap_alloc_new (((w.alloc (.cells #[.bool b1, .slice pa (dg x).length ca] 24)).alloc (.cells #[.bool b2, .slice pb (dg y).length cb] 24)).alloc (.cells #[.bool false, .slice none 0 0] 24)) (.cells #[.bool b1, .slice pa (dg x).length ca, .bool b2, .slice pb (dg y).length cb] 24)
  rw [g3] at hrow
  have hck := checkAll2_any b1 b2 _ _ _ _ (w.heap.size + 1 + 1 + 1) ((((w.alloc (.cells #[.bool b1, .slice pa (dg x).length ca] 24)).alloc (.cells #[.bool b2, .slice pb (dg y).length cb] 24)).alloc (.cells #[.bool false, .slice none 0 0] 24)).alloc (.cells #[.bool b1, .slice pa (dg x).length ca, .bool b2, .slice pb (dg y).length cb] 24)) (h1'.keep a4) (h2'.keep a4) (by omega) (by omega) (by rw [cell_of_row _ _ 0 _ _ _ hrow]; rfl) (by rw [cell_of_row _ _ 1 _ _ _ hrow]; rfl) (by rw [cell_of_row _ _ 2 _ _ _ hrow]; rfl) (by rw [cell_of_row _ _ 3 _ _ _ hrow]; rfl)
  rw [hv1, hv2, show ckT 0 0 = 0 from rfl] at hck
  clear hrow bA bB bR g1 g2 g3
  have hs := fun w h h' => comb_gcd b1 b2 false (.slice pa (dg x).length ca) (.slice pb (dg y).length cb) x y z w x0 y0 h h' l1 l2 (by rw [hz]; rfl)
  clear hz hv1 hv2
  go_enter Tryd.func40, Tryd.ntmps40
  go_wp2_with fail
  go_at_call 64
  refine hck.mono ?_
  rintro e w1 ⟨rfl, hb1⟩
  have B1 := a4.trans (hb1.mono a4.size)
  have bA1 := bA4.keep hb1
  have bB1 := bB4.keep hb1
  have bR1 := bR4.keep hb1
  have cA0' := bA1.c0
  have cA1' := bA1.c1
  have cB0' := bB1.c0
  have cB1' := bB1.c1
  have cR0' := bR1.c0
  have cR1' := bR1.c1
  have h3 := h1'.keep B1
  have h4 := h2'.keep B1
  clear hck bA4 bB4 bR4 hb1 a1 a2 a3 a4
  go_wp2_with fail
  go_at_call 76
  refine (hs _ h3 h4).mono ?_
  rintro e w2 ⟨hRL, hb2⟩
  have B2 := B1.trans (hb2.mono B1.size)
  have bR2 := bR1.keep hb2
  have hz5 := bR2.lt
  have r0 := bR2.c0
  have r1 := bR2.c1
  have z0 := bR2.f 0
  have z1 := bR2.f 1
  clear cA0' cA1' cB0' cB1' cR0' cR1' hb2 B1
  rcases hRL with ⟨hl, V, rfl, s, rfl, hs⟩ | ⟨hl, rfl⟩
  · obtain ⟨sg, hsg⟩ : ∃ sg, decide (z < 0) = sg := ⟨_, rfl⟩
    rw [hsg]
    replace hsg := Lib.hid hsg
    have hs' := hs
    obtain ⟨ps, cs, rfl, _, _⟩ := hs
    go_wp2
    refine bodyPost_ret (v := .tuple #[.agg #[.bool sg, .slice ps (dg (z.natAbs : Int)).length cs], .int .i64 0]) (by simp [results, Tryd.results40, go_sem, hz5, r0, r1, z0, z1]) rfl ⟨?_, by (repeat (first | with_reducible exact Below.refl _ _ | with_reducible assumption | refine Below.alloc ?_ (by (try simp); try omega) _ | refine Below.setCell ?_ (by (try simp); try omega) _ | refine below_drewN ?_ _ | refine Below.drew ?_ | (with_reducible refine Below.trans ?_ (Below.mono (by assumption) (by (try simp); try omega)))))⟩
    refine .inl ⟨hl, _, rfl, _, by rw [hsg.out], ?_⟩
    exact hs'.boxed bR2 (nb _) (ns _ _ _) _
  · go_wp2
    refine bodyPost_ret (v := .tuple #[.agg #[.bool false, .slice none 0 0], .int .i64 6]) (by simp [results, Tryd.results40, go_sem, hz5, r0, r1, z0, z1]) rfl ⟨.inr ⟨hl, rfl⟩, by (repeat (first | with_reducible exact Below.refl _ _ | with_reducible assumption | refine Below.alloc ?_ (by (try simp); try omega) _ | refine Below.setCell ?_ (by (try simp); try omega) _ | refine below_drewN ?_ _ | refine Below.drew ?_ | (with_reducible refine Below.trans ?_ (Below.mono (by assumption) (by (try simp); try omega)))))⟩
theorem gcd_num (A B : Value) (x y : Int) (w : World) (hA : Lg w A x) (hB : Lg w B y) (l1 : (dg (x.natAbs : Int)).length ≤ 600) (l2 : (dg (y.natAbs : Int)).length ≤ 600) :
    Calls Tryd.prog 40 #[A, B] w fun e w' => RL (gI (x.natAbs : Int) (y.natAbs : Int)) e w' ∧ Below w.heap.size w w' := by
  obtain ⟨s1, rfl, h1⟩ := hA
  obtain ⟨s2, rfl, h2⟩ := hB
  exact gcd_raw _ _ _ _ _ _ _ w (by omega) (by omega) h1 h2 l1 l2 (ckL_num l1) (ckL_num l2) rfl
theorem Dl_gI (x y : Int) (k : Nat) (h1 : Dl x ≤ k) (h2 : Dl y ≤ k) : Dl (gI (x.natAbs : Int) (y.natAbs : Int)) ≤ k := by
  have h := gI_len (x := (x.natAbs : Int)) (y := (y.natAbs : Int)) (by omega) (by omega)
  have h0 := gI_nonneg (x.natAbs : Int) (y.natAbs : Int)
  unfold Dl at *
  rw [show (((gI (x.natAbs : Int) (y.natAbs : Int)).natAbs : Nat) : Int) = gI (x.natAbs : Int) (y.natAbs : Int) by omega]
  omega
theorem gcd_ok (A B : Value) (x y z : Int) (w : World) (hA : Lg w A x) (hB : Lg w B y) (l1 : Dl x ≤ 600) (l2 : Dl y ≤ 600) (hz : gI (x.natAbs : Int) (y.natAbs : Int) = z) :
    Calls Tryd.prog 40 #[A, B] w fun e w' => OkL z e w' ∧ Below w.heap.size w w' := by
  subst hz
  exact (gcd_num A B x y w hA hB l1 l2).mono fun _ _ ⟨h, hb⟩ => ⟨h.ok (Dl_gI x y 600 l1 l2), hb⟩
end Go.Proofs.YtoppdbgodceaiaaDoor
