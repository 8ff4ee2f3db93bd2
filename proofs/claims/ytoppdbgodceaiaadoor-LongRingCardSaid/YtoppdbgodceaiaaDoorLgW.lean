/-
  Walks of package long: Div.
-/
import Derived.Test.YtoppdbgodceaiaaDoorLgV
namespace Go.Proofs.YtoppdbgodceaiaaDoor
open Go.RowKit

theorem Bx.other {w : World} {g h o : Nat} {x y : Value} {t : TypeId} (k : Bx w h x y t) (hn : h ≠ g) (u : Value) : Bx (w.setCell ⟨g, o, none⟩ u) h x y t := by
  unfold Bx at *
  rw [Below.heap_setCell w ⟨g, o, none⟩ u h hn]; exact k
theorem Bx.drew {w : World} {h : Nat} {x y : Value} {t : TypeId} (k : Bx w h x y t) : Bx w.drew h x y t := k
set_option maxRecDepth 100000 in
set_option maxHeartbeats 2000000 in
theorem div_raw (b1 b2 : Bool) (s1 s2 : Value) (x y : Int) (w : World) (x0 : 0 ≤ x) (y0 : 0 < y) (h1 : Ls w s1 (dg x)) (h2 : Ls w s2 (dg y)) (l1 : (dg x).length ≤ 600) (l2 : (dg y).length ≤ 600) (hv1 : ckL b1 (dg x) = 0) (hv2 : ckL b2 (dg y) = 0) :
    Calls Tryd.prog 38 #[.agg #[.bool b1, s1], .agg #[.bool b2, s2]] w fun e w' => ∃ v u, e = .returned (.tuple #[.agg #[.bool ((b1 != b2) && decide (0 < x / y)), v], .agg #[.bool (b1 && decide (0 < x % y)), u], .int .i64 0]) ∧ Ls w' v (dg (x / y)) ∧ Ls w' u (dg (x % y)) ∧ Below w.heap.size w w' := by
  have a1 := Below.alloc (Below.refl w.heap.size w) (Nat.le_refl _) (.cells #[.bool b1, s1] 24)
  have a2 := Below.alloc a1 a1.size (.cells #[.bool b2, s2] 24)
  have a3 := Below.alloc a2 a2.size (.cells #[.bool false, .slice none 0 0] 24)
  have h1' := h1
  have h2' := h2
  obtain ⟨pa, ca, rfl, hca', hqa⟩ := h1
  obtain ⟨pb, cb, rfl, hcb', hqb⟩ := h2
  clear hca' hqa hcb' hqb
  have g1 : (w.alloc (.cells #[.bool b1, .slice pa (dg x).length ca] 24)).heap.size = w.heap.size + 1 := by simp
  have g2 : ((w.alloc (.cells #[.bool b1, .slice pa (dg x).length ca] 24)).alloc (.cells #[.bool b2, .slice pb (dg y).length cb] 24)).heap.size = w.heap.size + 1 + 1 := by simp
  have bA : Bx (((w.alloc (.cells #[.bool b1, .slice pa (dg x).length ca] 24)).alloc (.cells #[.bool b2, .slice pb (dg y).length cb] 24)).alloc (.cells #[.bool false, .slice none 0 0] 24)) w.heap.size (.bool b1) (.slice pa (dg x).length ca) 24 := ((Bx.new w _ _ _).alloc _).alloc _
  have bB : Bx (((w.alloc (.cells #[.bool b1, .slice pa (dg x).length ca] 24)).alloc (.cells #[.bool b2, .slice pb (dg y).length cb] 24)).alloc (.cells #[.bool false, .slice none 0 0] 24)) (w.heap.size + 1) (.bool b2) (.slice pb (dg y).length cb) 24 := by
    have := (Bx.new (w.alloc (.cells #[.bool b1, .slice pa (dg x).length ca] 24)) (.bool b2) (.slice pb (dg y).length cb) 24).alloc (.cells #[.bool false, .slice none 0 0] 24)
    rwa [g1] at this
  have bR : Bx (((w.alloc (.cells #[.bool b1, .slice pa (dg x).length ca] 24)).alloc (.cells #[.bool b2, .slice pb (dg y).length cb] 24)).alloc (.cells #[.bool false, .slice none 0 0] 24)) (w.heap.size + 1 + 1) (.bool false) (.slice none 0 0) 24 := by
    have := Bx.new ((w.alloc (.cells #[.bool b1, .slice pa (dg x).length ca] 24)).alloc (.cells #[.bool b2, .slice pb (dg y).length cb] 24)) (.bool false) (.slice none 0 0) 24
    rwa [g2] at this
  have g3 : (((w.alloc (.cells #[.bool b1, .slice pa (dg x).length ca] 24)).alloc (.cells #[.bool b2, .slice pb (dg y).length cb] 24)).alloc (.cells #[.bool false, .slice none 0 0] 24)).heap.size = w.heap.size + 1 + 1 + 1 := by simp
  have g4 : ((((w.alloc (.cells #[.bool b1, .slice pa (dg x).length ca] 24)).alloc (.cells #[.bool b2, .slice pb (dg y).length cb] 24)).alloc (.cells #[.bool false, .slice none 0 0] 24)).alloc (.cells #[.bool false, .slice none 0 0] 24)).heap.size = w.heap.size + 1 + 1 + 1 + 1 := by simp
  have a4 := Below.alloc a3 a3.size (.cells #[.bool false, .slice none 0 0] 24)
  have a5 := Below.alloc a4 a4.size (.cells #[.bool b1, .slice pa (dg x).length ca, .bool b2, .slice pb (dg y).length cb] 24)
  have bA4 := (bA.alloc (.cells #[.bool false, .slice none 0 0] 24)).alloc (.cells #[.bool b1, .slice pa (dg x).length ca, .bool b2, .slice pb (dg y).length cb] 24)
  have bB4 := (bB.alloc (.cells #[.bool false, .slice none 0 0] 24)).alloc (.cells #[.bool b1, .slice pa (dg x).length ca, .bool b2, .slice pb (dg y).length cb] 24)
  have bR4 := (bR.alloc (.cells #[.bool false, .slice none 0 0] 24)).alloc (.cells #[.bool b1, .slice pa (dg x).length ca, .bool b2, .slice pb (dg y).length cb] 24)
  have bS4 : Bx (((((w.alloc (.cells #[.bool b1, .slice pa (dg x).length ca] 24)).alloc (.cells #[.bool b2, .slice pb (dg y).length cb] 24)).alloc (.cells #[.bool false, .slice none 0 0] 24)).alloc (.cells #[.bool false, .slice none 0 0] 24)).alloc (.cells #[.bool b1, .slice pa (dg x).length ca, .bool b2, .slice pb (dg y).length cb] 24)) (w.heap.size + 1 + 1 + 1) (.bool false) (.slice none 0 0) 24 := by
    have := (Bx.new (((w.alloc (.cells #[.bool b1, .slice pa (dg x).length ca] 24)).alloc (.cells #[.bool b2, .slice pb (dg y).length cb] 24)).alloc (.cells #[.bool false, .slice none 0 0] 24)) (.bool false) (.slice none 0 0) 24).alloc (.cells #[.bool b1, .slice pa (dg x).length ca, .bool b2, .slice pb (dg y).length cb] 24)
    rwa [g3] at this
  have hrow := heap_alloc_new ((((w.alloc (.cells #[.bool b1, .slice pa (dg x).length ca] 24)).alloc (.cells #[.bool b2, .slice pb (dg y).length cb] 24)).alloc (.cells #[.bool false, .slice none 0 0] 24)).alloc (.cells #[.bool false, .slice none 0 0] 24)) (.cells #[.bool b1, .slice pa (dg x).length ca, .bool b2, .slice pb (dg y).length cb] 24)
  rw [g4] at hrow
  have hck := checkAll2_any b1 b2 _ _ _ _ (w.heap.size + 1 + 1 + 1 + 1) (((((w.alloc (.cells #[.bool b1, .slice pa (dg x).length ca] 24)).alloc (.cells #[.bool b2, .slice pb (dg y).length cb] 24)).alloc (.cells #[.bool false, .slice none 0 0] 24)).alloc (.cells #[.bool false, .slice none 0 0] 24)).alloc (.cells #[.bool b1, .slice pa (dg x).length ca, .bool b2, .slice pb (dg y).length cb] 24)) (h1'.keep a5) (h2'.keep a5) (by omega) (by omega) (by rw [cell_of_row _ _ 0 _ _ _ hrow]; rfl) (by rw [cell_of_row _ _ 1 _ _ _ hrow]; rfl) (by rw [cell_of_row _ _ 2 _ _ _ hrow]; rfl) (by rw [cell_of_row _ _ 3 _ _ _ hrow]; rfl)
  rw [hv1, hv2, show ckT 0 0 = 0 from rfl] at hck
  clear hrow bA bB bR g1 g2 g3 g4
  have q0 : 0 ≤ x / y := Int.ediv_nonneg x0 (by omega)
  have r0 : 0 ≤ x % y := Int.emod_nonneg x (by omega)
  have lq : (dg (x / y)).length ≤ 600 := by have := dg_len_mono q0 (Int.ediv_le_self y x0); omega
  have lr : (dg (x % y)).length ≤ 600 := by have := dg_len_mono r0 (show x % y ≤ y by have := Int.emod_lt_of_pos x y0; omega); omega
  have hd := fun w h h' => divided_any (.slice pa (dg x).length ca) (.slice pb (dg y).length cb) x y w x0 y0 h h' (by omega) (by omega)
  have hs1 := fun ng d w h => signed_ok ng d (x / y) w q0 h lq
  have hs2 := fun ng d w h => signed_ok ng d (x % y) w r0 h lr
  have hyl := dg_len_pos y0
  clear hv1 hv2 lq lr q0 r0
  generalize decide (0 < x / y) = f1 at *
  generalize decide (0 < x % y) = f2 at *
  generalize x / y = q at *
  generalize x % y = r at *
  generalize (dg x).length = nx at *
  generalize (dg y).length = ny at *
  have hne : ¬ ((ny : Int) = 0) := by omega
  go_enter Tryd.func38, Tryd.ntmps38
  go_wp2_with fail
  go_at_call 64
  refine hck.mono ?_
  rintro e w1 ⟨rfl, hb1⟩
  have B1 := a5.trans (hb1.mono a5.size)
  have bA1 := bA4.keep hb1
  have bB1 := bB4.keep hb1
  have bR1 := bR4.keep hb1
  have bS1 := bS4.keep hb1
  have cA0' := bA1.c0
  have cA1' := bA1.c1
  have cB0' := bB1.c0
  have cB1' := bB1.c1
  have h3 := h1'.keep B1
  have h4 := h2'.keep B1
  clear hck bA4 bB4 bR4 bS4 hb1 a1 a2 a3 a4 a5
  go_wp2_with fail
  go_at_call 78
  refine (hd _ h3 h4).mono ?_
  rintro e w2 ⟨v, u, rfl, hv, hu, hb2⟩
  have B2 := B1.trans (hb2.mono B1.size)
  have bA2 := bA1.keep hb2
  have bB2 := bB1.keep hb2
  have bR2 := bR1.keep hb2
  have bS2 := bS1.keep hb2
  have dA0 := bA2.c0
  have dB0 := bB2.c0
  clear hd h3 h4 h1' h2' bA1 bB1 bR1 bS1 hb2 B1 cA0' cA1' cB0' cB1'
  go_wp2_with fail
  go_at_call 74
  refine (hs1 _ v _ hv).mono ?_
  rintro e w3 ⟨rfl, hb3⟩
  have B3 := B2.trans (hb3.mono B2.size)
  have bA3 := bA2.keep hb3
  have bR3 := bR2.keep hb3
  have bS3 := bS2.keep hb3
  have hv3 := hv.keep hb3
  have hu3 := hu.keep hb3
  have eA0 := bA3.c0
  have eR0 := bR3.c0
  have eR1 := bR3.c1
  have fR0 := bR3.f 0
  have fR1 := bR3.f 1
  clear hs1 bA2 bB2 bR2 bS2 hb3 B2 dA0 dB0 hv hu
  obtain ⟨p1, hp1⟩ : ∃ p1, ((!(b1 == b2)) && f1) = p1 := ⟨_, rfl⟩
  rw [hp1]
  replace hp1 := Lib.hid hp1
  have hv3' := hv3
  obtain ⟨pv, cv, rfl, _, _⟩ := hv3
  have hu3' := hu3
  obtain ⟨pu, cu, rfl, _, _⟩ := hu3
  have hv4 := hv3'.boxed (p := p1) bR3 (nb _) (ns _ _ _) (.slice pv (dg q).length cv)
  have hu4 := hu3'.boxed (p := p1) bR3 (nb _) (ns _ _ _) (.slice pv (dg q).length cv)
  have bR4 := (bR3.set0 (.bool p1)).set1 (.slice pv (dg q).length cv)
  have bS4 := (bS3.other (g := w.heap.size + 1 + 1) (o := 0) (by omega) (.bool p1)).other (g := w.heap.size + 1 + 1) (o := 1) (by omega) (.slice pv (dg q).length cv)
  have bA4 := (bA3.other (g := w.heap.size + 1 + 1) (o := 0) (by omega) (.bool p1)).other (g := w.heap.size + 1 + 1) (o := 1) (by omega) (.slice pv (dg q).length cv)
  go_wp2_with fail
  have B4 : Below w.heap.size w ((w3.setCell ⟨w.heap.size + 1 + 1, 0, none⟩ (.bool p1)).setCell ⟨w.heap.size + 1 + 1, 1, none⟩ (.slice pv (dg q).length cv)) := by (repeat (first | with_reducible exact Below.refl _ _ | with_reducible assumption | refine Below.alloc ?_ (by (try simp); try omega) _ | refine Below.setCell ?_ (by (try simp); try omega) _ | refine below_drewN ?_ _ | refine Below.drew ?_ | (with_reducible refine Below.trans ?_ (Below.mono (by assumption) (by (try simp); try omega)))))
  generalize (w3.setCell ⟨w.heap.size + 1 + 1, 0, none⟩ (.bool p1)).setCell ⟨w.heap.size + 1 + 1, 1, none⟩ (.slice pv (dg q).length cv) = w4 at *
  clear bA3 bR3 bS3 B3 eA0 eR0 eR1 fR0 fR1 hv3' hu3'
  go_at_call 74
  refine (hs2 _ _ _ hu4).mono ?_
  rintro e w5 ⟨rfl, hb5⟩
  have B5 := B4.trans (hb5.mono B4.size)
  have bR5 := bR4.keep hb5
  have bS5 := bS4.keep hb5
  have hv5 := hv4.keep hb5
  have hu5 := hu4.keep hb5
  obtain ⟨p2, hp2⟩ : ∃ p2, (b1 && f2) = p2 := ⟨_, rfl⟩
  rw [hp2]
  replace hp2 := Lib.hid hp2
  have zR := bR5.lt
  have zS := bS5.lt
  have gR0 := bR5.c0
  have gR1 := bR5.c1
  have gS0 := bS5.c0
  have gS1 := bS5.c1
  have kR0 := bR5.f 0
  have kR1 := bR5.f 1
  have kS0 := bS5.f 0
  have kS1 := bS5.f 1
  clear hs2 hb5 B4 bR4 bS4 bA4 hv4 hu4
  have bR6 := (bR5.other (g := w.heap.size + 1 + 1 + 1) (o := 0) (by omega) (.bool p2)).other (g := w.heap.size + 1 + 1 + 1) (o := 1) (by omega) (.slice pu (dg r).length cu)
  have bS6 := (bS5.set0 (.bool p2)).set1 (.slice pu (dg r).length cu)
  have hv6 := hv5.boxed (p := p2) bS5 (nb _) (ns _ _ _) (.slice pu (dg r).length cu)
  have hu6 := hu5.boxed (p := p2) bS5 (nb _) (ns _ _ _) (.slice pu (dg r).length cu)
  go_wp2
  have B6 : Below w.heap.size w ((w5.setCell ⟨w.heap.size + 1 + 1 + 1, 0, none⟩ (.bool p2)).setCell ⟨w.heap.size + 1 + 1 + 1, 1, none⟩ (.slice pu (dg r).length cu)) := by (repeat (first | with_reducible exact Below.refl _ _ | with_reducible assumption | refine Below.alloc ?_ (by (try simp); try omega) _ | refine Below.setCell ?_ (by (try simp); try omega) _ | refine below_drewN ?_ _ | refine Below.drew ?_ | (with_reducible refine Below.trans ?_ (Below.mono (by assumption) (by (try simp); try omega)))))
  generalize (w5.setCell ⟨w.heap.size + 1 + 1 + 1, 0, none⟩ (.bool p2)).setCell ⟨w.heap.size + 1 + 1 + 1, 1, none⟩ (.slice pu (dg r).length cu) = w6 at *
  clear bR5 bS5 B5 gR0 gR1 gS0 gS1 kR0 kR1 kS0 kS1 hv5 hu5 zR zS
  have zR := bR6.lt
  have zS := bS6.lt
  have gR0 := bR6.c0
  have gR1 := bR6.c1
  have gS0 := bS6.c0
  have gS1 := bS6.c1
  have kR0 := bR6.f 0
  have kR1 := bR6.f 1
  have kS0 := bS6.f 0
  have kS1 := bS6.f 1
  have bS7 := (bS6.other (g := w.heap.size + 1 + 1) (o := 0) (by omega) (.bool p1)).other (g := w.heap.size + 1 + 1) (o := 1) (by omega) (.slice pv (dg q).length cv)
  have hv7 := (hv6.boxed (p := p1) bR6 (nb _) (ns _ _ _) (.slice pv (dg q).length cv)).boxed (p := p2) bS7 (nb _) (ns _ _ _) (.slice pu (dg r).length cu)
  have hu7 := (hu6.boxed (p := p1) bR6 (nb _) (ns _ _ _) (.slice pv (dg q).length cv)).boxed (p := p2) bS7 (nb _) (ns _ _ _) (.slice pu (dg r).length cu)
  go_region
  go_wp2
  refine bodyPost_ret (v := .tuple #[.agg #[.bool p1, .slice pv (dg q).length cv], .agg #[.bool p2, .slice pu (dg r).length cu], .int .i64 0]) (by simp [results, Tryd.results38, go_sem, zR, zS, gR0, gR1, gS0, gS1, kR0, kR1, kS0, kS1]) rfl ⟨_, _, ?_, hv7, hu7, by (repeat (first | with_reducible exact Below.refl _ _ | with_reducible assumption | refine Below.alloc ?_ (by (try simp); try omega) _ | refine Below.setCell ?_ (by (try simp); try omega) _ | refine below_drewN ?_ _ | refine Below.drew ?_ | (with_reducible refine Below.trans ?_ (Below.mono (by assumption) (by (try simp); try omega)))))⟩
  rw [← hp1.out, ← hp2.out]; rfl
theorem sg_neg (b : Bool) {x : Int} (x0 : 0 ≤ x) : decide (sg b x < 0) = (b && decide (0 < x)) ∧ ((sg b x).natAbs : Int) = x := by
  unfold sg
  cases b
  · simp; omega
  · by_cases h : 0 < x
    · simp [h]; omega
    · simp [h]; omega
theorem div_num (A B : Value) (x y : Int) (w : World) (hA : Lg w A x) (hB : Lg w B y) (l1 : (dg (x.natAbs : Int)).length ≤ 600) (l2 : (dg (y.natAbs : Int)).length ≤ 600) (y0 : y ≠ 0) :
    Calls Tryd.prog 38 #[A, B] w fun e w' => ∃ Q R, e = .returned (.tuple #[Q, R, .int .i64 0]) ∧ Lg w' Q (x.tdiv y) ∧ Lg w' R (x.tmod y) ∧ Below w.heap.size w w' := by
  obtain ⟨s1, rfl, h1⟩ := hA
  obtain ⟨s2, rfl, h2⟩ := hB
  refine (div_raw _ _ _ _ _ _ w (by omega) (by omega) h1 h2 l1 l2 (ckL_num l1) (ckL_num l2)).mono ?_
  rintro e w' ⟨v, u, rfl, hv, hu, hb⟩
  have q0 : 0 ≤ (x.natAbs : Int) / (y.natAbs : Int) := Int.ediv_nonneg (by omega) (by omega)
  have r0 : 0 ≤ (x.natAbs : Int) % (y.natAbs : Int) := Int.emod_nonneg _ (by omega)
  have eq : x.tdiv y = sg (decide (x < 0) != decide (y < 0)) ((x.natAbs : Int) / (y.natAbs : Int)) := by
    rw [← Int.tdiv_eq_ediv_of_nonneg (by omega)]
    unfold sg
    by_cases hx : x < 0 <;> by_cases hy : y < 0
    · rw [show (x.natAbs : Int) = -x by omega, show (y.natAbs : Int) = -y by omega]; simp [hx, hy]
    · rw [show (x.natAbs : Int) = -x by omega, show (y.natAbs : Int) = y by omega]; simp [hx, hy]
    · rw [show (x.natAbs : Int) = x by omega, show (y.natAbs : Int) = -y by omega]; simp [hx, hy]
    · rw [show (x.natAbs : Int) = x by omega, show (y.natAbs : Int) = y by omega]; simp [hx, hy]
  have er : x.tmod y = sg (decide (x < 0)) ((x.natAbs : Int) % (y.natAbs : Int)) := by
    rw [← Int.tmod_eq_emod_of_nonneg (by omega)]
    unfold sg
    by_cases hx : x < 0 <;> by_cases hy : y < 0
    · rw [show (x.natAbs : Int) = -x by omega, show (y.natAbs : Int) = -y by omega]; simp [hx]
    · rw [show (x.natAbs : Int) = -x by omega, show (y.natAbs : Int) = y by omega]; simp [hx]
    · rw [show (x.natAbs : Int) = x by omega, show (y.natAbs : Int) = -y by omega]; simp [hx]
    · rw [show (x.natAbs : Int) = x by omega, show (y.natAbs : Int) = y by omega]; simp [hx]
  have g1 := sg_neg (decide (x < 0) != decide (y < 0)) q0
  have g2 := sg_neg (decide (x < 0)) r0
  refine ⟨_, _, rfl, ⟨v, ?_, ?_⟩, ⟨u, ?_, ?_⟩, hb⟩
  · rw [eq, g1.1]
  · rw [eq, g1.2]; exact hv
  · rw [er, g2.1]
  · rw [er, g2.2]; exact hu
end Go.Proofs.YtoppdbgodceaiaaDoor
