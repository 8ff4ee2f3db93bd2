/-
  The reference: Sum, Diff of any numbers; told.
-/
import Derived.Test.YtoppdbgodceaiaaDoorLrD
import Derived.Deep.RegionHeld3
namespace Go.Proofs.YtoppdbgodceaiaaDoor
open Go.RowKit

theorem lg_mk {b : Bool} {s : Value} {y : Int} {w : World} (y0 : 0 < y) (h : Ls w s (dg y)) : Lg w (.agg #[.bool b, s]) (sg b y) := by
  obtain ⟨e1, e2⟩ := sg_neg b (x := y) (by omega)
  refine ⟨s, by rw [e1]; simp [y0], by rw [e2]; exact h⟩
theorem LgV.keep {z : Int} {e : Ending} {w w' : World} (h : LgV z e w) (hb : Below w.heap.size w w') : LgV z e w' := by
  obtain ⟨p, a, n, c, h1, h2⟩ := h
  exact ⟨p, a, n, c, h1, h2.keep hb⟩
theorem Lg.form {w : World} {V : Value} {z : Int} (h : Lg w V z) : ∃ a c, V = .agg #[.bool (decide (z < 0)), .slice a (Dl z) c] ∧ Ls w (.slice a (Dl z) c) (dg (z.natAbs : Int)) := by
  obtain ⟨s, rfl, h⟩ := h
  have h' := h
  obtain ⟨a, c, rfl, _, _⟩ := h
  exact ⟨a, c, rfl, h'⟩

set_option maxRecDepth 100000 in
set_option maxHeartbeats 2000000 in
theorem rdiff_lt (b : Bool) (s1 s2 : Value) (x y : Int) (w : World) (x0 : 0 < x) (y0 : 0 < y) (xy : x < y) (h1 : Ls w s1 (dg x)) (h2 : Ls w s2 (dg y)) (l1 : (dg x).length ≤ 90000) (l2 : (dg y).length ≤ 90000) :
    Calls Tryd.prog 46 #[.agg #[.bool b, s1], .agg #[.bool b, s2]] w fun e w' => LgV (sg b (x - y)) e w' ∧ Below w.heap.size w w' := by
  have p1 := dg_len_pos x0
  have p2 := dg_len_pos y0
  have hlt := fun w h h' => rless_num s1 s2 x y w (by omega) (by omega) h h' (by omega) (by omega)
  rw [show decide (x < y) = true by simpa using xy] at hlt
  have hge := fun w h h' => rdiff_ge b s2 s1 y x w y0 x0 (by omega) h h' l2 l1
  have hmn := fun V w h => rminus_num V (sg b (y - x)) w h (by
    have := dg_len_mono (x := y - x) (y := y) (by omega) (by omega)
    unfold Dl; rw [(sg_neg b (x := y - x) (by omega)).2]; omega)
  rw [show -(sg b (y - x)) = sg b (x - y) by unfold sg; split <;> omega] at hmn
  have h1' := h1
  have h2' := h2
  obtain ⟨pa, ca, rfl, _, _⟩ := h1'
  obtain ⟨pb, cb, rfl, _, _⟩ := h2'
  generalize (dg x).length = n1 at *
  generalize (dg y).length = n2 at *
  have hB : Below w.heap.size w (((w.alloc (.cells #[.bool b, .slice pa n1 ca] 24)).alloc (.cells #[.bool b, .slice pb n2 cb] 24)).alloc (.cells #[.bool false, .slice none 0 0] 24)) := by (repeat (first | with_reducible exact Below.refl _ _ | with_reducible assumption | refine Below.alloc ?_ (by (try simp); try omega) _ | refine Below.setCell ?_ (by (try simp); try omega) _ | refine below_drewN ?_ _ | refine Below.drew ?_ | (with_reducible refine Below.trans ?_ (Below.mono (by assumption) (by (try simp); try omega)))))
  have bA : Bx (((w.alloc (.cells #[.bool b, .slice pa n1 ca] 24)).alloc (.cells #[.bool b, .slice pb n2 cb] 24)).alloc (.cells #[.bool false, .slice none 0 0] 24)) (w.heap.size) (.bool b) (.slice pa n1 ca) 24 := by exact (((Bx.new w (.bool b) (.slice pa n1 ca) 24).alloc (.cells #[.bool b, .slice pb n2 cb] 24)).alloc (.cells #[.bool false, .slice none 0 0] 24))
  have bB : Bx (((w.alloc (.cells #[.bool b, .slice pa n1 ca] 24)).alloc (.cells #[.bool b, .slice pb n2 cb] 24)).alloc (.cells #[.bool false, .slice none 0 0] 24)) (w.heap.size + 1) (.bool b) (.slice pb n2 cb) 24 := by have := ((Bx.new (w.alloc (.cells #[.bool b, .slice pa n1 ca] 24)) (.bool b) (.slice pb n2 cb) 24).alloc (.cells #[.bool false, .slice none 0 0] 24)); simpa using this
  have bR : Bx (((w.alloc (.cells #[.bool b, .slice pa n1 ca] 24)).alloc (.cells #[.bool b, .slice pb n2 cb] 24)).alloc (.cells #[.bool false, .slice none 0 0] 24)) (w.heap.size + 1 + 1) (.bool false) (.slice none 0 0) 24 := by have := (Bx.new ((w.alloc (.cells #[.bool b, .slice pa n1 ca] 24)).alloc (.cells #[.bool b, .slice pb n2 cb] 24)) (.bool false) (.slice none 0 0) 24); simpa using this
  have rbA0 := bA.c0
  have rbA1 := bA.c1
  have rbB0 := bB.c0
  have rbB1 := bB.c1
  replace h1 := h1.keep hB
  replace h2 := h2.keep hB
  have k1 : ((n1 : Int) == 0) = false := by rw [beq_eq_false_iff_ne]; omega
  have k2 : ((n2 : Int) == 0) = false := by rw [beq_eq_false_iff_ne]; omega
  have hbb : (b != b) = false := by simp
  go_enter Tryd.func46, Tryd.ntmps46
  go_wp2_with fail
  go_at_call 83
  refine (hlt _ h1 h2).mono ?_
  rintro e w0 ⟨rfl, hb0⟩
  replace bA := bA.keep hb0
  replace bB := bB.keep hb0
  replace bR := bR.keep hb0
  replace h1 := h1.keep hb0
  replace h2 := h2.keep hb0
  replace hB := hB.trans (hb0.mono hB.size)
  replace rbA0 := bA.c0
  replace rbA1 := bA.c1
  replace rbB0 := bB.c0
  replace rbB1 := bB.c1
  clear hb0 hlt
  go_wp2_with fail
  go_at_call 46
  refine (hge _ h2 h1).mono ?_
  rintro e w2 ⟨⟨p0, a0, n0, c0, rfl, L0⟩, hb2⟩
  replace bA := bA.keep hb2
  replace bB := bB.keep hb2
  replace bR := bR.keep hb2
  replace hB := hB.trans (hb2.mono hB.size)
  clear hb2 hge
  go_wp2_with fail
  go_at_call 75
  refine (hmn _ _ L0).mono ?_
  rintro e w3 ⟨⟨p, pv, nv, cv, rfl, L⟩, hb3⟩
  replace bR := bR.keep hb3
  replace hB := hB.trans (hb3.mono hB.size)
  have rbR0 := bR.c0
  have rbR1 := bR.c1
  have zbR0 := bR.f 0
  have zbR1 := bR.f 1
  have lbR := bR.lt
  have hL := Lib.hid (L.put bR p pv nv cv)
  clear L hb3 rbA0 rbA1 rbB0 rbB1 h1 h2
  go_wp2
  refine bodyPost_ret (v := .agg #[.bool p, .slice pv nv cv]) (by simp [results, Tryd.results46, go_sem, rbR0, rbR1, zbR0, zbR1, lbR]) rfl ⟨⟨_, _, _, _, rfl, hL.out⟩, by (repeat (first | with_reducible exact Below.refl _ _ | with_reducible assumption | refine Below.alloc ?_ (by (try simp); try omega) _ | refine Below.setCell ?_ (by (try simp); try omega) _ | refine below_drewN ?_ _ | refine Below.drew ?_ | (with_reducible refine Below.trans ?_ (Below.mono (by assumption) (by (try simp); try omega)))))⟩
theorem rdiff_same (b : Bool) (s1 s2 : Value) (x y : Int) (w : World) (x0 : 0 < x) (y0 : 0 < y) (h1 : Ls w s1 (dg x)) (h2 : Ls w s2 (dg y)) (l1 : (dg x).length ≤ 90000) (l2 : (dg y).length ≤ 90000) :
    Calls Tryd.prog 46 #[.agg #[.bool b, s1], .agg #[.bool b, s2]] w fun e w' => LgV (sg b (x - y)) e w' ∧ Below w.heap.size w w' := by
  by_cases h : y ≤ x
  · exact rdiff_ge b s1 s2 x y w x0 y0 h h1 h2 l1 l2
  · exact rdiff_lt b s1 s2 x y w x0 y0 (by omega) h1 h2 l1 l2
theorem Lg.split {V : Value} {z : Int} {b : Bool} {y : Int} {w : World} (h : Lg w V z) (y0 : 0 < y) (hz : z = sg b y) : ∃ s, V = .agg #[.bool b, s] ∧ Ls w s (dg y) := by
  obtain ⟨s, rfl, h⟩ := h
  obtain ⟨e1, e2⟩ := sg_neg b (x := y) (by omega)
  refine ⟨s, by rw [hz, e1]; simp [y0], by rw [hz, e2] at h; exact h⟩
set_option maxRecDepth 100000 in
set_option maxHeartbeats 2000000 in
theorem rsum_mixed_true (s1 s2 : Value) (x y z : Int) (w : World) (x0 : 0 < x) (y0 : 0 < y) (h1 : Ls w s1 (dg x)) (h2 : Ls w s2 (dg y)) (l1 : (dg x).length ≤ 90000) (l2 : (dg y).length ≤ 90000) (hz : z = sg true x + sg false y) :
    Calls Tryd.prog 45 #[.agg #[.bool true, s1], .agg #[.bool false, s2]] w fun e w' => LgV z e w' ∧ Below w.heap.size w w' := by
  have p1 := dg_len_pos x0
  have p2 := dg_len_pos y0
  have hmn := fun w h => rminus_num (.agg #[.bool false, s2]) (sg false y) w h (by unfold Dl; rw [(sg_neg false (x := y) (by omega)).2]; omega)
  rw [show -(sg false y) = sg true y from by first | rfl | exact Int.neg_neg y] at hmn
  have hdf : ∀ w V, Ls w s1 (dg x) → Lg w V (sg true y) → Calls Tryd.prog 46 #[.agg #[.bool true, s1], V] w fun e w' => LgV z e w' ∧ Below w.heap.size w w' := fun w V h1 h2 => by
    obtain ⟨s, rfl, h3⟩ := h2.split y0 rfl
    have := rdiff_same true s1 s x y w x0 y0 h1 h3 l1 l2
    rwa [show sg true (x - y) = z by rw [hz]; simp [sg] <;> omega] at this
  clear hz
  have h1' := h1
  have h2' := h2
  obtain ⟨pa, ca, rfl, _, _⟩ := h1'
  obtain ⟨pb, cb, rfl, _, _⟩ := h2'
  generalize (dg x).length = n1 at *
  generalize (dg y).length = n2 at *
  have hB : Below w.heap.size w (((w.alloc (.cells #[.bool true, .slice pa n1 ca] 24)).alloc (.cells #[.bool false, .slice pb n2 cb] 24)).alloc (.cells #[.bool false, .slice none 0 0] 24)) := by (repeat (first | with_reducible exact Below.refl _ _ | with_reducible assumption | refine Below.alloc ?_ (by (try simp); try omega) _ | refine Below.setCell ?_ (by (try simp); try omega) _ | refine below_drewN ?_ _ | refine Below.drew ?_ | (with_reducible refine Below.trans ?_ (Below.mono (by assumption) (by (try simp); try omega)))))
  have bA : Bx (((w.alloc (.cells #[.bool true, .slice pa n1 ca] 24)).alloc (.cells #[.bool false, .slice pb n2 cb] 24)).alloc (.cells #[.bool false, .slice none 0 0] 24)) (w.heap.size) (.bool true) (.slice pa n1 ca) 24 := by exact (((Bx.new w (.bool true) (.slice pa n1 ca) 24).alloc (.cells #[.bool false, .slice pb n2 cb] 24)).alloc (.cells #[.bool false, .slice none 0 0] 24))
  have bB : Bx (((w.alloc (.cells #[.bool true, .slice pa n1 ca] 24)).alloc (.cells #[.bool false, .slice pb n2 cb] 24)).alloc (.cells #[.bool false, .slice none 0 0] 24)) (w.heap.size + 1) (.bool false) (.slice pb n2 cb) 24 := by have := ((Bx.new (w.alloc (.cells #[.bool true, .slice pa n1 ca] 24)) (.bool false) (.slice pb n2 cb) 24).alloc (.cells #[.bool false, .slice none 0 0] 24)); simpa using this
  have bR : Bx (((w.alloc (.cells #[.bool true, .slice pa n1 ca] 24)).alloc (.cells #[.bool false, .slice pb n2 cb] 24)).alloc (.cells #[.bool false, .slice none 0 0] 24)) (w.heap.size + 1 + 1) (.bool false) (.slice none 0 0) 24 := by have := (Bx.new ((w.alloc (.cells #[.bool true, .slice pa n1 ca] 24)).alloc (.cells #[.bool false, .slice pb n2 cb] 24)) (.bool false) (.slice none 0 0) 24); simpa using this
  have rbA0 := bA.c0
  have rbA1 := bA.c1
  have rbB0 := bB.c0
  have rbB1 := bB.c1
  replace h1 := h1.keep hB
  replace h2 := h2.keep hB
  have L2 : Lg (((w.alloc (.cells #[.bool true, .slice pa n1 ca] 24)).alloc (.cells #[.bool false, .slice pb n2 cb] 24)).alloc (.cells #[.bool false, .slice none 0 0] 24)) (.agg #[.bool false, .slice pb n2 cb]) (sg false y) := lg_mk y0 h2
  have k1 : ((n1 : Int) == 0) = false := by rw [beq_eq_false_iff_ne]; omega
  have k2 : ((n2 : Int) == 0) = false := by rw [beq_eq_false_iff_ne]; omega
  go_enter Tryd.func45, Tryd.ntmps45
  go_wp2_with fail
  have L2d : Lg (((w.alloc (.cells #[.bool true, .slice pa n1 ca] 24)).alloc (.cells #[.bool false, .slice pb n2 cb] 24)).alloc (.cells #[.bool false, .slice none 0 0] 24)).drew (.agg #[.bool false, .slice pb n2 cb]) (sg false y) := L2
  have h1d : Ls (((w.alloc (.cells #[.bool true, .slice pa n1 ca] 24)).alloc (.cells #[.bool false, .slice pb n2 cb] 24)).alloc (.cells #[.bool false, .slice none 0 0] 24)).drew (.slice pa n1 ca) (dg x) := h1
  have c0 := rbA0
  have c1 := rbA1
  have c2 := rbB0
  have c3 := rbB1
  generalize (((w.alloc (.cells #[.bool true, .slice pa n1 ca] 24)).alloc (.cells #[.bool false, .slice pb n2 cb] 24)).alloc (.cells #[.bool false, .slice none 0 0] 24)) = w1 at *
  clear L2 h1 h2 rbA0 rbA1 rbB0 rbB1
  go_region_held3 (fun w' => w'.cell? ⟨w.heap.size, 0, none⟩ = some (.bool true) ∧ w'.cell? ⟨w.heap.size, 1, none⟩ = some (.slice pa n1 ca) ∧ w'.cell? ⟨w.heap.size + 1, 0, none⟩ = some (.bool false) ∧ w'.cell? ⟨w.heap.size + 1, 1, none⟩ = some (.slice pb n2 cb))
    ((first | exact ⟨c0, c1, c2, c3⟩ | exact ⟨lkeep hb2 c0, lkeep hb2 c1, lkeep hb2 c2, lkeep hb2 c3⟩ | exact ⟨d0, d1, d2, d3⟩ | (refine ⟨?_, ?_, ?_, ?_⟩ <;> simp [go_sem, d0, d1, d2, d3])))
    (first | (go_at_call 75; (with_reducible refine (hmn _ L2d).mono ?_); rintro e w2 ⟨⟨p0, a0, m0, k0, rfl, L0⟩, hb2⟩) | (go_at_call 46; (with_reducible refine (hdf _ _ (h1d.keep hb2) L0).mono ?_); rintro e w3 ⟨⟨p, pv, nv, cv, rfl, L⟩, hb3⟩; have bR3 := (show Bx w1.drew _ _ _ _ from bR).keep hb2 |>.keep hb3; have r0 := bR3.c0; have r1 := bR3.c1; have f0 := bR3.f 0; have f1 := bR3.f 1; have y3 := bR3.lt; have d0 := lkeep hb3 (lkeep hb2 (show w1.drew.cell? _ = _ from c0)); have d1 := lkeep hb3 (lkeep hb2 (show w1.drew.cell? _ = _ from c1)); have d2 := lkeep hb3 (lkeep hb2 (show w1.drew.cell? _ = _ from c2)); have d3 := lkeep hb3 (lkeep hb2 (show w1.drew.cell? _ = _ from c3))))
  have B2 := hB.drew.trans (hb2.mono hB.drew.size)
  have B3 := B2.trans (hb3.mono B2.size)
  have hL := Lib.hid (L.put bR3 p pv nv cv)
  clear L c0 c1 c2 c3 d0 d1 d2 d3 L0 L2d h1d hmn hdf hb2 hb3 bA bB bR
  go_wp2
  refine bodyPost_ret (v := .agg #[.bool p, .slice pv nv cv]) (by simp [results, Tryd.results45, go_sem, r0, r1, f0, f1, y3]) rfl ⟨⟨_, _, _, _, rfl, hL.out⟩, by (repeat (first | with_reducible exact Below.refl _ _ | with_reducible assumption | refine Below.alloc ?_ (by (try simp); try omega) _ | refine Below.setCell ?_ (by (try simp); try omega) _ | refine below_drewN ?_ _ | refine Below.drew ?_ | (with_reducible refine Below.trans ?_ (Below.mono (by assumption) (by (try simp); try omega)))))⟩
set_option maxRecDepth 100000 in
set_option maxHeartbeats 2000000 in
theorem rsum_mixed_false (s1 s2 : Value) (x y z : Int) (w : World) (x0 : 0 < x) (y0 : 0 < y) (h1 : Ls w s1 (dg x)) (h2 : Ls w s2 (dg y)) (l1 : (dg x).length ≤ 90000) (l2 : (dg y).length ≤ 90000) (hz : z = sg false x + sg true y) :
    Calls Tryd.prog 45 #[.agg #[.bool false, s1], .agg #[.bool true, s2]] w fun e w' => LgV z e w' ∧ Below w.heap.size w w' := by
  have p1 := dg_len_pos x0
  have p2 := dg_len_pos y0
  have hmn := fun w h => rminus_num (.agg #[.bool true, s2]) (sg true y) w h (by unfold Dl; rw [(sg_neg true (x := y) (by omega)).2]; omega)
  rw [show -(sg true y) = sg false y from by first | rfl | exact Int.neg_neg y] at hmn
  have hdf : ∀ w V, Ls w s1 (dg x) → Lg w V (sg false y) → Calls Tryd.prog 46 #[.agg #[.bool false, s1], V] w fun e w' => LgV z e w' ∧ Below w.heap.size w w' := fun w V h1 h2 => by
    obtain ⟨s, rfl, h3⟩ := h2.split y0 rfl
    have := rdiff_same false s1 s x y w x0 y0 h1 h3 l1 l2
    rwa [show sg false (x - y) = z by rw [hz]; simp [sg] <;> omega] at this
  clear hz
  have h1' := h1
  have h2' := h2
  obtain ⟨pa, ca, rfl, _, _⟩ := h1'
  obtain ⟨pb, cb, rfl, _, _⟩ := h2'
  generalize (dg x).length = n1 at *
  generalize (dg y).length = n2 at *
  have hB : Below w.heap.size w (((w.alloc (.cells #[.bool false, .slice pa n1 ca] 24)).alloc (.cells #[.bool true, .slice pb n2 cb] 24)).alloc (.cells #[.bool false, .slice none 0 0] 24)) := by (repeat (first | with_reducible exact Below.refl _ _ | with_reducible assumption | refine Below.alloc ?_ (by (try simp); try omega) _ | refine Below.setCell ?_ (by (try simp); try omega) _ | refine below_drewN ?_ _ | refine Below.drew ?_ | (with_reducible refine Below.trans ?_ (Below.mono (by assumption) (by (try simp); try omega)))))
  have bA : Bx (((w.alloc (.cells #[.bool false, .slice pa n1 ca] 24)).alloc (.cells #[.bool true, .slice pb n2 cb] 24)).alloc (.cells #[.bool false, .slice none 0 0] 24)) (w.heap.size) (.bool false) (.slice pa n1 ca) 24 := by exact (((Bx.new w (.bool false) (.slice pa n1 ca) 24).alloc (.cells #[.bool true, .slice pb n2 cb] 24)).alloc (.cells #[.bool false, .slice none 0 0] 24))
  have bB : Bx (((w.alloc (.cells #[.bool false, .slice pa n1 ca] 24)).alloc (.cells #[.bool true, .slice pb n2 cb] 24)).alloc (.cells #[.bool false, .slice none 0 0] 24)) (w.heap.size + 1) (.bool true) (.slice pb n2 cb) 24 := by have := ((Bx.new (w.alloc (.cells #[.bool false, .slice pa n1 ca] 24)) (.bool true) (.slice pb n2 cb) 24).alloc (.cells #[.bool false, .slice none 0 0] 24)); simpa using this
  have bR : Bx (((w.alloc (.cells #[.bool false, .slice pa n1 ca] 24)).alloc (.cells #[.bool true, .slice pb n2 cb] 24)).alloc (.cells #[.bool false, .slice none 0 0] 24)) (w.heap.size + 1 + 1) (.bool false) (.slice none 0 0) 24 := by have := (Bx.new ((w.alloc (.cells #[.bool false, .slice pa n1 ca] 24)).alloc (.cells #[.bool true, .slice pb n2 cb] 24)) (.bool false) (.slice none 0 0) 24); simpa using this
  have rbA0 := bA.c0
  have rbA1 := bA.c1
  have rbB0 := bB.c0
  have rbB1 := bB.c1
  replace h1 := h1.keep hB
  replace h2 := h2.keep hB
  have L2 : Lg (((w.alloc (.cells #[.bool false, .slice pa n1 ca] 24)).alloc (.cells #[.bool true, .slice pb n2 cb] 24)).alloc (.cells #[.bool false, .slice none 0 0] 24)) (.agg #[.bool true, .slice pb n2 cb]) (sg true y) := lg_mk y0 h2
  have k1 : ((n1 : Int) == 0) = false := by rw [beq_eq_false_iff_ne]; omega
  have k2 : ((n2 : Int) == 0) = false := by rw [beq_eq_false_iff_ne]; omega
  go_enter Tryd.func45, Tryd.ntmps45
  go_wp2_with fail
  have L2d : Lg (((w.alloc (.cells #[.bool false, .slice pa n1 ca] 24)).alloc (.cells #[.bool true, .slice pb n2 cb] 24)).alloc (.cells #[.bool false, .slice none 0 0] 24)).drew (.agg #[.bool true, .slice pb n2 cb]) (sg true y) := L2
  have h1d : Ls (((w.alloc (.cells #[.bool false, .slice pa n1 ca] 24)).alloc (.cells #[.bool true, .slice pb n2 cb] 24)).alloc (.cells #[.bool false, .slice none 0 0] 24)).drew (.slice pa n1 ca) (dg x) := h1
  have c0 := rbA0
  have c1 := rbA1
  have c2 := rbB0
  have c3 := rbB1
  generalize (((w.alloc (.cells #[.bool false, .slice pa n1 ca] 24)).alloc (.cells #[.bool true, .slice pb n2 cb] 24)).alloc (.cells #[.bool false, .slice none 0 0] 24)) = w1 at *
  clear L2 h1 h2 rbA0 rbA1 rbB0 rbB1
  go_region_held3 (fun w' => w'.cell? ⟨w.heap.size, 0, none⟩ = some (.bool false) ∧ w'.cell? ⟨w.heap.size, 1, none⟩ = some (.slice pa n1 ca) ∧ w'.cell? ⟨w.heap.size + 1, 0, none⟩ = some (.bool true) ∧ w'.cell? ⟨w.heap.size + 1, 1, none⟩ = some (.slice pb n2 cb))
    ((first | exact ⟨c0, c1, c2, c3⟩ | exact ⟨lkeep hb2 c0, lkeep hb2 c1, lkeep hb2 c2, lkeep hb2 c3⟩ | exact ⟨d0, d1, d2, d3⟩ | (refine ⟨?_, ?_, ?_, ?_⟩ <;> simp [go_sem, d0, d1, d2, d3])))
    (first | (go_at_call 75; (with_reducible refine (hmn _ L2d).mono ?_); rintro e w2 ⟨⟨p0, a0, m0, k0, rfl, L0⟩, hb2⟩) | (go_at_call 46; (with_reducible refine (hdf _ _ (h1d.keep hb2) L0).mono ?_); rintro e w3 ⟨⟨p, pv, nv, cv, rfl, L⟩, hb3⟩; have bR3 := (show Bx w1.drew _ _ _ _ from bR).keep hb2 |>.keep hb3; have r0 := bR3.c0; have r1 := bR3.c1; have f0 := bR3.f 0; have f1 := bR3.f 1; have y3 := bR3.lt; have d0 := lkeep hb3 (lkeep hb2 (show w1.drew.cell? _ = _ from c0)); have d1 := lkeep hb3 (lkeep hb2 (show w1.drew.cell? _ = _ from c1)); have d2 := lkeep hb3 (lkeep hb2 (show w1.drew.cell? _ = _ from c2)); have d3 := lkeep hb3 (lkeep hb2 (show w1.drew.cell? _ = _ from c3))))
  have B2 := hB.drew.trans (hb2.mono hB.drew.size)
  have B3 := B2.trans (hb3.mono B2.size)
  have hL := Lib.hid (L.put bR3 p pv nv cv)
  clear L c0 c1 c2 c3 d0 d1 d2 d3 L0 L2d h1d hmn hdf hb2 hb3 bA bB bR
  go_wp2
  refine bodyPost_ret (v := .agg #[.bool p, .slice pv nv cv]) (by simp [results, Tryd.results45, go_sem, r0, r1, f0, f1, y3]) rfl ⟨⟨_, _, _, _, rfl, hL.out⟩, by (repeat (first | with_reducible exact Below.refl _ _ | with_reducible assumption | refine Below.alloc ?_ (by (try simp); try omega) _ | refine Below.setCell ?_ (by (try simp); try omega) _ | refine below_drewN ?_ _ | refine Below.drew ?_ | (with_reducible refine Below.trans ?_ (Below.mono (by assumption) (by (try simp); try omega)))))⟩
set_option maxRecDepth 100000 in
set_option maxHeartbeats 2000000 in
theorem rdiff_mixed_true (s1 s2 : Value) (x y z : Int) (w : World) (x0 : 0 < x) (y0 : 0 < y) (h1 : Ls w s1 (dg x)) (h2 : Ls w s2 (dg y)) (l1 : (dg x).length ≤ 90000) (l2 : (dg y).length ≤ 90000) (hz : z = sg true x - sg false y) :
    Calls Tryd.prog 46 #[.agg #[.bool true, s1], .agg #[.bool false, s2]] w fun e w' => LgV z e w' ∧ Below w.heap.size w w' := by
  have p1 := dg_len_pos x0
  have p2 := dg_len_pos y0
  have hmn := fun w h => rminus_num (.agg #[.bool false, s2]) (sg false y) w h (by unfold Dl; rw [(sg_neg false (x := y) (by omega)).2]; omega)
  rw [show -(sg false y) = sg true y from by first | rfl | exact Int.neg_neg y] at hmn
  have hdf : ∀ w V, Ls w s1 (dg x) → Lg w V (sg true y) → Calls Tryd.prog 45 #[.agg #[.bool true, s1], V] w fun e w' => LgV z e w' ∧ Below w.heap.size w w' := fun w V h1 h2 => by
    obtain ⟨s, rfl, h3⟩ := h2.split y0 rfl
    have := rsum_same true s1 s x y w x0 y0 h1 h3 l1 l2
    rwa [show sg true (x + y) = z by rw [hz]; simp [sg] <;> omega] at this
  clear hz
  have h1' := h1
  have h2' := h2
  obtain ⟨pa, ca, rfl, _, _⟩ := h1'
  obtain ⟨pb, cb, rfl, _, _⟩ := h2'
  generalize (dg x).length = n1 at *
  generalize (dg y).length = n2 at *
  have hB : Below w.heap.size w (((w.alloc (.cells #[.bool true, .slice pa n1 ca] 24)).alloc (.cells #[.bool false, .slice pb n2 cb] 24)).alloc (.cells #[.bool false, .slice none 0 0] 24)) := by (repeat (first | with_reducible exact Below.refl _ _ | with_reducible assumption | refine Below.alloc ?_ (by (try simp); try omega) _ | refine Below.setCell ?_ (by (try simp); try omega) _ | refine below_drewN ?_ _ | refine Below.drew ?_ | (with_reducible refine Below.trans ?_ (Below.mono (by assumption) (by (try simp); try omega)))))
  have bA : Bx (((w.alloc (.cells #[.bool true, .slice pa n1 ca] 24)).alloc (.cells #[.bool false, .slice pb n2 cb] 24)).alloc (.cells #[.bool false, .slice none 0 0] 24)) (w.heap.size) (.bool true) (.slice pa n1 ca) 24 := by exact (((Bx.new w (.bool true) (.slice pa n1 ca) 24).alloc (.cells #[.bool false, .slice pb n2 cb] 24)).alloc (.cells #[.bool false, .slice none 0 0] 24))
  have bB : Bx (((w.alloc (.cells #[.bool true, .slice pa n1 ca] 24)).alloc (.cells #[.bool false, .slice pb n2 cb] 24)).alloc (.cells #[.bool false, .slice none 0 0] 24)) (w.heap.size + 1) (.bool false) (.slice pb n2 cb) 24 := by have := ((Bx.new (w.alloc (.cells #[.bool true, .slice pa n1 ca] 24)) (.bool false) (.slice pb n2 cb) 24).alloc (.cells #[.bool false, .slice none 0 0] 24)); simpa using this
  have bR : Bx (((w.alloc (.cells #[.bool true, .slice pa n1 ca] 24)).alloc (.cells #[.bool false, .slice pb n2 cb] 24)).alloc (.cells #[.bool false, .slice none 0 0] 24)) (w.heap.size + 1 + 1) (.bool false) (.slice none 0 0) 24 := by have := (Bx.new ((w.alloc (.cells #[.bool true, .slice pa n1 ca] 24)).alloc (.cells #[.bool false, .slice pb n2 cb] 24)) (.bool false) (.slice none 0 0) 24); simpa using this
  have rbA0 := bA.c0
  have rbA1 := bA.c1
  have rbB0 := bB.c0
  have rbB1 := bB.c1
  replace h1 := h1.keep hB
  replace h2 := h2.keep hB
  have L2 : Lg (((w.alloc (.cells #[.bool true, .slice pa n1 ca] 24)).alloc (.cells #[.bool false, .slice pb n2 cb] 24)).alloc (.cells #[.bool false, .slice none 0 0] 24)) (.agg #[.bool false, .slice pb n2 cb]) (sg false y) := lg_mk y0 h2
  have k1 : ((n1 : Int) == 0) = false := by rw [beq_eq_false_iff_ne]; omega
  have k2 : ((n2 : Int) == 0) = false := by rw [beq_eq_false_iff_ne]; omega
  go_enter Tryd.func46, Tryd.ntmps46
  go_wp2_with fail
  have L2d : Lg (((w.alloc (.cells #[.bool true, .slice pa n1 ca] 24)).alloc (.cells #[.bool false, .slice pb n2 cb] 24)).alloc (.cells #[.bool false, .slice none 0 0] 24)).drew (.agg #[.bool false, .slice pb n2 cb]) (sg false y) := L2
  have h1d : Ls (((w.alloc (.cells #[.bool true, .slice pa n1 ca] 24)).alloc (.cells #[.bool false, .slice pb n2 cb] 24)).alloc (.cells #[.bool false, .slice none 0 0] 24)).drew (.slice pa n1 ca) (dg x) := h1
  have c0 := rbA0
  have c1 := rbA1
  have c2 := rbB0
  have c3 := rbB1
  generalize (((w.alloc (.cells #[.bool true, .slice pa n1 ca] 24)).alloc (.cells #[.bool false, .slice pb n2 cb] 24)).alloc (.cells #[.bool false, .slice none 0 0] 24)) = w1 at *
  clear L2 h1 h2 rbA0 rbA1 rbB0 rbB1
  go_region_held3 (fun w' => w'.cell? ⟨w.heap.size, 0, none⟩ = some (.bool true) ∧ w'.cell? ⟨w.heap.size, 1, none⟩ = some (.slice pa n1 ca) ∧ w'.cell? ⟨w.heap.size + 1, 0, none⟩ = some (.bool false) ∧ w'.cell? ⟨w.heap.size + 1, 1, none⟩ = some (.slice pb n2 cb))
    ((first | exact ⟨c0, c1, c2, c3⟩ | exact ⟨lkeep hb2 c0, lkeep hb2 c1, lkeep hb2 c2, lkeep hb2 c3⟩ | exact ⟨d0, d1, d2, d3⟩ | (refine ⟨?_, ?_, ?_, ?_⟩ <;> simp [go_sem, d0, d1, d2, d3])))
    (first | (go_at_call 75; (with_reducible refine (hmn _ L2d).mono ?_); rintro e w2 ⟨⟨p0, a0, m0, k0, rfl, L0⟩, hb2⟩) | (go_at_call 45; (with_reducible refine (hdf _ _ (h1d.keep hb2) L0).mono ?_); rintro e w3 ⟨⟨p, pv, nv, cv, rfl, L⟩, hb3⟩; have bR3 := (show Bx w1.drew _ _ _ _ from bR).keep hb2 |>.keep hb3; have r0 := bR3.c0; have r1 := bR3.c1; have f0 := bR3.f 0; have f1 := bR3.f 1; have y3 := bR3.lt; have d0 := lkeep hb3 (lkeep hb2 (show w1.drew.cell? _ = _ from c0)); have d1 := lkeep hb3 (lkeep hb2 (show w1.drew.cell? _ = _ from c1)); have d2 := lkeep hb3 (lkeep hb2 (show w1.drew.cell? _ = _ from c2)); have d3 := lkeep hb3 (lkeep hb2 (show w1.drew.cell? _ = _ from c3))))
  have B2 := hB.drew.trans (hb2.mono hB.drew.size)
  have B3 := B2.trans (hb3.mono B2.size)
  have hL := Lib.hid (L.put bR3 p pv nv cv)
  clear L c0 c1 c2 c3 d0 d1 d2 d3 L0 L2d h1d hmn hdf hb2 hb3 bA bB bR
  go_wp2
  refine bodyPost_ret (v := .agg #[.bool p, .slice pv nv cv]) (by simp [results, Tryd.results46, go_sem, r0, r1, f0, f1, y3]) rfl ⟨⟨_, _, _, _, rfl, hL.out⟩, by (repeat (first | with_reducible exact Below.refl _ _ | with_reducible assumption | refine Below.alloc ?_ (by (try simp); try omega) _ | refine Below.setCell ?_ (by (try simp); try omega) _ | refine below_drewN ?_ _ | refine Below.drew ?_ | (with_reducible refine Below.trans ?_ (Below.mono (by assumption) (by (try simp); try omega)))))⟩
set_option maxRecDepth 100000 in
set_option maxHeartbeats 2000000 in
theorem rdiff_mixed_false (s1 s2 : Value) (x y z : Int) (w : World) (x0 : 0 < x) (y0 : 0 < y) (h1 : Ls w s1 (dg x)) (h2 : Ls w s2 (dg y)) (l1 : (dg x).length ≤ 90000) (l2 : (dg y).length ≤ 90000) (hz : z = sg false x - sg true y) :
    Calls Tryd.prog 46 #[.agg #[.bool false, s1], .agg #[.bool true, s2]] w fun e w' => LgV z e w' ∧ Below w.heap.size w w' := by
  have p1 := dg_len_pos x0
  have p2 := dg_len_pos y0
  have hmn := fun w h => rminus_num (.agg #[.bool true, s2]) (sg true y) w h (by unfold Dl; rw [(sg_neg true (x := y) (by omega)).2]; omega)
  rw [show -(sg true y) = sg false y from by first | rfl | exact Int.neg_neg y] at hmn
  have hdf : ∀ w V, Ls w s1 (dg x) → Lg w V (sg false y) → Calls Tryd.prog 45 #[.agg #[.bool false, s1], V] w fun e w' => LgV z e w' ∧ Below w.heap.size w w' := fun w V h1 h2 => by
    obtain ⟨s, rfl, h3⟩ := h2.split y0 rfl
    have := rsum_same false s1 s x y w x0 y0 h1 h3 l1 l2
    rwa [show sg false (x + y) = z by rw [hz]; simp [sg] <;> omega] at this
  clear hz
  have h1' := h1
  have h2' := h2
  obtain ⟨pa, ca, rfl, _, _⟩ := h1'
  obtain ⟨pb, cb, rfl, _, _⟩ := h2'
  generalize (dg x).length = n1 at *
  generalize (dg y).length = n2 at *
  have hB : Below w.heap.size w (((w.alloc (.cells #[.bool false, .slice pa n1 ca] 24)).alloc (.cells #[.bool true, .slice pb n2 cb] 24)).alloc (.cells #[.bool false, .slice none 0 0] 24)) := by (repeat (first | with_reducible exact Below.refl _ _ | with_reducible assumption | refine Below.alloc ?_ (by (try simp); try omega) _ | refine Below.setCell ?_ (by (try simp); try omega) _ | refine below_drewN ?_ _ | refine Below.drew ?_ | (with_reducible refine Below.trans ?_ (Below.mono (by assumption) (by (try simp); try omega)))))
  have bA : Bx (((w.alloc (.cells #[.bool false, .slice pa n1 ca] 24)).alloc (.cells #[.bool true, .slice pb n2 cb] 24)).alloc (.cells #[.bool false, .slice none 0 0] 24)) (w.heap.size) (.bool false) (.slice pa n1 ca) 24 := by exact (((Bx.new w (.bool false) (.slice pa n1 ca) 24).alloc (.cells #[.bool true, .slice pb n2 cb] 24)).alloc (.cells #[.bool false, .slice none 0 0] 24))
  have bB : Bx (((w.alloc (.cells #[.bool false, .slice pa n1 ca] 24)).alloc (.cells #[.bool true, .slice pb n2 cb] 24)).alloc (.cells #[.bool false, .slice none 0 0] 24)) (w.heap.size + 1) (.bool true) (.slice pb n2 cb) 24 := by have := ((Bx.new (w.alloc (.cells #[.bool false, .slice pa n1 ca] 24)) (.bool true) (.slice pb n2 cb) 24).alloc (.cells #[.bool false, .slice none 0 0] 24)); simpa using this
  have bR : Bx (((w.alloc (.cells #[.bool false, .slice pa n1 ca] 24)).alloc (.cells #[.bool true, .slice pb n2 cb] 24)).alloc (.cells #[.bool false, .slice none 0 0] 24)) (w.heap.size + 1 + 1) (.bool false) (.slice none 0 0) 24 := by have := (Bx.new ((w.alloc (.cells #[.bool false, .slice pa n1 ca] 24)).alloc (.cells #[.bool true, .slice pb n2 cb] 24)) (.bool false) (.slice none 0 0) 24); simpa using this
  have rbA0 := bA.c0
  have rbA1 := bA.c1
  have rbB0 := bB.c0
  have rbB1 := bB.c1
  replace h1 := h1.keep hB
  replace h2 := h2.keep hB
  have L2 : Lg (((w.alloc (.cells #[.bool false, .slice pa n1 ca] 24)).alloc (.cells #[.bool true, .slice pb n2 cb] 24)).alloc (.cells #[.bool false, .slice none 0 0] 24)) (.agg #[.bool true, .slice pb n2 cb]) (sg true y) := lg_mk y0 h2
  have k1 : ((n1 : Int) == 0) = false := by rw [beq_eq_false_iff_ne]; omega
  have k2 : ((n2 : Int) == 0) = false := by rw [beq_eq_false_iff_ne]; omega
  go_enter Tryd.func46, Tryd.ntmps46
  go_wp2_with fail
  have L2d : Lg (((w.alloc (.cells #[.bool false, .slice pa n1 ca] 24)).alloc (.cells #[.bool true, .slice pb n2 cb] 24)).alloc (.cells #[.bool false, .slice none 0 0] 24)).drew (.agg #[.bool true, .slice pb n2 cb]) (sg true y) := L2
  have h1d : Ls (((w.alloc (.cells #[.bool false, .slice pa n1 ca] 24)).alloc (.cells #[.bool true, .slice pb n2 cb] 24)).alloc (.cells #[.bool false, .slice none 0 0] 24)).drew (.slice pa n1 ca) (dg x) := h1
  have c0 := rbA0
  have c1 := rbA1
  have c2 := rbB0
  have c3 := rbB1
  generalize (((w.alloc (.cells #[.bool false, .slice pa n1 ca] 24)).alloc (.cells #[.bool true, .slice pb n2 cb] 24)).alloc (.cells #[.bool false, .slice none 0 0] 24)) = w1 at *
  clear L2 h1 h2 rbA0 rbA1 rbB0 rbB1
  go_region_held3 (fun w' => w'.cell? ⟨w.heap.size, 0, none⟩ = some (.bool false) ∧ w'.cell? ⟨w.heap.size, 1, none⟩ = some (.slice pa n1 ca) ∧ w'.cell? ⟨w.heap.size + 1, 0, none⟩ = some (.bool true) ∧ w'.cell? ⟨w.heap.size + 1, 1, none⟩ = some (.slice pb n2 cb))
    ((first | exact ⟨c0, c1, c2, c3⟩ | exact ⟨lkeep hb2 c0, lkeep hb2 c1, lkeep hb2 c2, lkeep hb2 c3⟩ | exact ⟨d0, d1, d2, d3⟩ | (refine ⟨?_, ?_, ?_, ?_⟩ <;> simp [go_sem, d0, d1, d2, d3])))
    (first | (go_at_call 75; (with_reducible refine (hmn _ L2d).mono ?_); rintro e w2 ⟨⟨p0, a0, m0, k0, rfl, L0⟩, hb2⟩) | (go_at_call 45; (with_reducible refine (hdf _ _ (h1d.keep hb2) L0).mono ?_); rintro e w3 ⟨⟨p, pv, nv, cv, rfl, L⟩, hb3⟩; have bR3 := (show Bx w1.drew _ _ _ _ from bR).keep hb2 |>.keep hb3; have r0 := bR3.c0; have r1 := bR3.c1; have f0 := bR3.f 0; have f1 := bR3.f 1; have y3 := bR3.lt; have d0 := lkeep hb3 (lkeep hb2 (show w1.drew.cell? _ = _ from c0)); have d1 := lkeep hb3 (lkeep hb2 (show w1.drew.cell? _ = _ from c1)); have d2 := lkeep hb3 (lkeep hb2 (show w1.drew.cell? _ = _ from c2)); have d3 := lkeep hb3 (lkeep hb2 (show w1.drew.cell? _ = _ from c3))))
  have B2 := hB.drew.trans (hb2.mono hB.drew.size)
  have B3 := B2.trans (hb3.mono B2.size)
  have hL := Lib.hid (L.put bR3 p pv nv cv)
  clear L c0 c1 c2 c3 d0 d1 d2 d3 L0 L2d h1d hmn hdf hb2 hb3 bA bB bR
  go_wp2
  refine bodyPost_ret (v := .agg #[.bool p, .slice pv nv cv]) (by simp [results, Tryd.results46, go_sem, r0, r1, f0, f1, y3]) rfl ⟨⟨_, _, _, _, rfl, hL.out⟩, by (repeat (first | with_reducible exact Below.refl _ _ | with_reducible assumption | refine Below.alloc ?_ (by (try simp); try omega) _ | refine Below.setCell ?_ (by (try simp); try omega) _ | refine below_drewN ?_ _ | refine Below.drew ?_ | (with_reducible refine Below.trans ?_ (Below.mono (by assumption) (by (try simp); try omega)))))⟩
set_option maxRecDepth 100000 in
set_option maxHeartbeats 1000000 in
theorem rsum_0l (b1 b2 : Bool) (pa pb : Option Addr) (n1 n2 ca cb : Nat) (y : Int) (w : World) (hL : Lg w (.agg #[.bool b2, .slice pb n2 cb]) y) :
    Calls Tryd.prog 45 #[.agg #[.bool b1, .slice pa 0 ca], .agg #[.bool b2, .slice pb n2 cb]] w fun e w' => LgV (y) e w' ∧ Below w.heap.size w w' := by
  have hB : Below w.heap.size w (((w.alloc (.cells #[.bool b1, .slice pa 0 ca] 24)).alloc (.cells #[.bool b2, .slice pb n2 cb] 24)).alloc (.cells #[.bool false, .slice none 0 0] 24)) := by (repeat (first | with_reducible exact Below.refl _ _ | with_reducible assumption | refine Below.alloc ?_ (by (try simp); try omega) _ | refine Below.setCell ?_ (by (try simp); try omega) _ | refine below_drewN ?_ _ | refine Below.drew ?_ | (with_reducible refine Below.trans ?_ (Below.mono (by assumption) (by (try simp); try omega)))))
  have bA : Bx (((w.alloc (.cells #[.bool b1, .slice pa 0 ca] 24)).alloc (.cells #[.bool b2, .slice pb n2 cb] 24)).alloc (.cells #[.bool false, .slice none 0 0] 24)) (w.heap.size) (.bool b1) (.slice pa 0 ca) 24 := by exact (((Bx.new w (.bool b1) (.slice pa 0 ca) 24).alloc (.cells #[.bool b2, .slice pb n2 cb] 24)).alloc (.cells #[.bool false, .slice none 0 0] 24))
  have bB : Bx (((w.alloc (.cells #[.bool b1, .slice pa 0 ca] 24)).alloc (.cells #[.bool b2, .slice pb n2 cb] 24)).alloc (.cells #[.bool false, .slice none 0 0] 24)) (w.heap.size + 1) (.bool b2) (.slice pb n2 cb) 24 := by have := ((Bx.new (w.alloc (.cells #[.bool b1, .slice pa 0 ca] 24)) (.bool b2) (.slice pb n2 cb) 24).alloc (.cells #[.bool false, .slice none 0 0] 24)); simpa using this
  have bR : Bx (((w.alloc (.cells #[.bool b1, .slice pa 0 ca] 24)).alloc (.cells #[.bool b2, .slice pb n2 cb] 24)).alloc (.cells #[.bool false, .slice none 0 0] 24)) (w.heap.size + 1 + 1) (.bool false) (.slice none 0 0) 24 := by have := (Bx.new ((w.alloc (.cells #[.bool b1, .slice pa 0 ca] 24)).alloc (.cells #[.bool b2, .slice pb n2 cb] 24)) (.bool false) (.slice none 0 0) 24); simpa using this
  have rbA0 := bA.c0
  have rbA1 := bA.c1
  have rbB0 := bB.c0
  have rbB1 := bB.c1
  have hL0 := hL
  replace hL := hL.keep hB
  have rbR0 := bR.c0
  have rbR1 := bR.c1
  have zbR0 := bR.f 0
  have zbR1 := bR.f 1
  have lbR := bR.lt
  have hL2 := Lib.hid hL0
  clear hL hL0
  go_enter Tryd.func45, Tryd.ntmps45
  go_wp2
  refine bodyPost_ret (v := .agg #[.bool b2, .slice pb n2 cb]) (by simp [results, Tryd.results45, go_sem, rbR0, rbR1, zbR0, zbR1, lbR]) rfl ⟨⟨_, _, _, _, rfl, hL2.out.keep (by (repeat (first | with_reducible exact Below.refl _ _ | with_reducible assumption | refine Below.alloc ?_ (by (try simp); try omega) _ | refine Below.setCell ?_ (by (try simp); try omega) _ | refine below_drewN ?_ _ | refine Below.drew ?_ | (with_reducible refine Below.trans ?_ (Below.mono (by assumption) (by (try simp); try omega))))))⟩, by (repeat (first | with_reducible exact Below.refl _ _ | with_reducible assumption | refine Below.alloc ?_ (by (try simp); try omega) _ | refine Below.setCell ?_ (by (try simp); try omega) _ | refine below_drewN ?_ _ | refine Below.drew ?_ | (with_reducible refine Below.trans ?_ (Below.mono (by assumption) (by (try simp); try omega)))))⟩
set_option maxRecDepth 100000 in
set_option maxHeartbeats 1000000 in
theorem rsum_0r (b1 b2 : Bool) (pa pb : Option Addr) (n1 n2 ca cb : Nat) (x : Int) (w : World) (hL : Lg w (.agg #[.bool b1, .slice pa n1 ca]) x) (hn : 0 < n1) :
    Calls Tryd.prog 45 #[.agg #[.bool b1, .slice pa n1 ca], .agg #[.bool b2, .slice pb 0 cb]] w fun e w' => LgV (x) e w' ∧ Below w.heap.size w w' := by
  have hB : Below w.heap.size w (((w.alloc (.cells #[.bool b1, .slice pa n1 ca] 24)).alloc (.cells #[.bool b2, .slice pb 0 cb] 24)).alloc (.cells #[.bool false, .slice none 0 0] 24)) := by (repeat (first | with_reducible exact Below.refl _ _ | with_reducible assumption | refine Below.alloc ?_ (by (try simp); try omega) _ | refine Below.setCell ?_ (by (try simp); try omega) _ | refine below_drewN ?_ _ | refine Below.drew ?_ | (with_reducible refine Below.trans ?_ (Below.mono (by assumption) (by (try simp); try omega)))))
  have bA : Bx (((w.alloc (.cells #[.bool b1, .slice pa n1 ca] 24)).alloc (.cells #[.bool b2, .slice pb 0 cb] 24)).alloc (.cells #[.bool false, .slice none 0 0] 24)) (w.heap.size) (.bool b1) (.slice pa n1 ca) 24 := by exact (((Bx.new w (.bool b1) (.slice pa n1 ca) 24).alloc (.cells #[.bool b2, .slice pb 0 cb] 24)).alloc (.cells #[.bool false, .slice none 0 0] 24))
  have bB : Bx (((w.alloc (.cells #[.bool b1, .slice pa n1 ca] 24)).alloc (.cells #[.bool b2, .slice pb 0 cb] 24)).alloc (.cells #[.bool false, .slice none 0 0] 24)) (w.heap.size + 1) (.bool b2) (.slice pb 0 cb) 24 := by have := ((Bx.new (w.alloc (.cells #[.bool b1, .slice pa n1 ca] 24)) (.bool b2) (.slice pb 0 cb) 24).alloc (.cells #[.bool false, .slice none 0 0] 24)); simpa using this
  have bR : Bx (((w.alloc (.cells #[.bool b1, .slice pa n1 ca] 24)).alloc (.cells #[.bool b2, .slice pb 0 cb] 24)).alloc (.cells #[.bool false, .slice none 0 0] 24)) (w.heap.size + 1 + 1) (.bool false) (.slice none 0 0) 24 := by have := (Bx.new ((w.alloc (.cells #[.bool b1, .slice pa n1 ca] 24)).alloc (.cells #[.bool b2, .slice pb 0 cb] 24)) (.bool false) (.slice none 0 0) 24); simpa using this
  have rbA0 := bA.c0
  have rbA1 := bA.c1
  have rbB0 := bB.c0
  have rbB1 := bB.c1
  have hL0 := hL
  replace hL := hL.keep hB
  have k1 : ((n1 : Int) == 0) = false := by rw [beq_eq_false_iff_ne]; omega
  have rbR0 := bR.c0
  have rbR1 := bR.c1
  have zbR0 := bR.f 0
  have zbR1 := bR.f 1
  have lbR := bR.lt
  have hL2 := Lib.hid hL0
  clear hL hL0
  go_enter Tryd.func45, Tryd.ntmps45
  go_wp2
  refine bodyPost_ret (v := .agg #[.bool b1, .slice pa n1 ca]) (by simp [results, Tryd.results45, go_sem, rbR0, rbR1, zbR0, zbR1, lbR]) rfl ⟨⟨_, _, _, _, rfl, hL2.out.keep (by (repeat (first | with_reducible exact Below.refl _ _ | with_reducible assumption | refine Below.alloc ?_ (by (try simp); try omega) _ | refine Below.setCell ?_ (by (try simp); try omega) _ | refine below_drewN ?_ _ | refine Below.drew ?_ | (with_reducible refine Below.trans ?_ (Below.mono (by assumption) (by (try simp); try omega))))))⟩, by (repeat (first | with_reducible exact Below.refl _ _ | with_reducible assumption | refine Below.alloc ?_ (by (try simp); try omega) _ | refine Below.setCell ?_ (by (try simp); try omega) _ | refine below_drewN ?_ _ | refine Below.drew ?_ | (with_reducible refine Below.trans ?_ (Below.mono (by assumption) (by (try simp); try omega)))))⟩
set_option maxRecDepth 100000 in
set_option maxHeartbeats 1000000 in
theorem rdiff_0l (b1 b2 : Bool) (pa pb : Option Addr) (n1 n2 ca cb : Nat) (y : Int) (w : World) (hL : Lg w (.agg #[.bool b2, .slice pb n2 cb]) y) (l1 : Dl y ≤ 100000) :
    Calls Tryd.prog 46 #[.agg #[.bool b1, .slice pa 0 ca], .agg #[.bool b2, .slice pb n2 cb]] w fun e w' => LgV (-y) e w' ∧ Below w.heap.size w w' := by
  have hB : Below w.heap.size w (((w.alloc (.cells #[.bool b1, .slice pa 0 ca] 24)).alloc (.cells #[.bool b2, .slice pb n2 cb] 24)).alloc (.cells #[.bool false, .slice none 0 0] 24)) := by (repeat (first | with_reducible exact Below.refl _ _ | with_reducible assumption | refine Below.alloc ?_ (by (try simp); try omega) _ | refine Below.setCell ?_ (by (try simp); try omega) _ | refine below_drewN ?_ _ | refine Below.drew ?_ | (with_reducible refine Below.trans ?_ (Below.mono (by assumption) (by (try simp); try omega)))))
  have bA : Bx (((w.alloc (.cells #[.bool b1, .slice pa 0 ca] 24)).alloc (.cells #[.bool b2, .slice pb n2 cb] 24)).alloc (.cells #[.bool false, .slice none 0 0] 24)) (w.heap.size) (.bool b1) (.slice pa 0 ca) 24 := by exact (((Bx.new w (.bool b1) (.slice pa 0 ca) 24).alloc (.cells #[.bool b2, .slice pb n2 cb] 24)).alloc (.cells #[.bool false, .slice none 0 0] 24))
  have bB : Bx (((w.alloc (.cells #[.bool b1, .slice pa 0 ca] 24)).alloc (.cells #[.bool b2, .slice pb n2 cb] 24)).alloc (.cells #[.bool false, .slice none 0 0] 24)) (w.heap.size + 1) (.bool b2) (.slice pb n2 cb) 24 := by have := ((Bx.new (w.alloc (.cells #[.bool b1, .slice pa 0 ca] 24)) (.bool b2) (.slice pb n2 cb) 24).alloc (.cells #[.bool false, .slice none 0 0] 24)); simpa using this
  have bR : Bx (((w.alloc (.cells #[.bool b1, .slice pa 0 ca] 24)).alloc (.cells #[.bool b2, .slice pb n2 cb] 24)).alloc (.cells #[.bool false, .slice none 0 0] 24)) (w.heap.size + 1 + 1) (.bool false) (.slice none 0 0) 24 := by have := (Bx.new ((w.alloc (.cells #[.bool b1, .slice pa 0 ca] 24)).alloc (.cells #[.bool b2, .slice pb n2 cb] 24)) (.bool false) (.slice none 0 0) 24); simpa using this
  have rbA0 := bA.c0
  have rbA1 := bA.c1
  have rbB0 := bB.c0
  have rbB1 := bB.c1
  have hL0 := hL
  replace hL := hL.keep hB
  have hmn := fun w h => rminus_num (.agg #[.bool b2, .slice pb n2 cb]) y w h l1
  go_enter Tryd.func46, Tryd.ntmps46
  go_wp2_with fail
  go_at_call 75
  refine (hmn _ hL).mono ?_
  rintro e w3 ⟨⟨p, pv, nv, cv, rfl, L⟩, hb3⟩
  replace bR := bR.keep hb3
  replace hB := hB.trans (hb3.mono hB.size)
  have rbR0 := bR.c0
  have rbR1 := bR.c1
  have zbR0 := bR.f 0
  have zbR1 := bR.f 1
  have lbR := bR.lt
  have hL2 := Lib.hid (L.put bR p pv nv cv)
  clear L hb3 rbA0 rbA1 rbB0 rbB1 bA bB hL hmn
  go_wp2
  refine bodyPost_ret (v := .agg #[.bool p, .slice pv nv cv]) (by simp [results, Tryd.results46, go_sem, rbR0, rbR1, zbR0, zbR1, lbR]) rfl ⟨⟨_, _, _, _, rfl, hL2.out⟩, by (repeat (first | with_reducible exact Below.refl _ _ | with_reducible assumption | refine Below.alloc ?_ (by (try simp); try omega) _ | refine Below.setCell ?_ (by (try simp); try omega) _ | refine below_drewN ?_ _ | refine Below.drew ?_ | (with_reducible refine Below.trans ?_ (Below.mono (by assumption) (by (try simp); try omega)))))⟩
set_option maxRecDepth 100000 in
set_option maxHeartbeats 1000000 in
theorem rdiff_0r (b1 b2 : Bool) (pa pb : Option Addr) (n1 n2 ca cb : Nat) (x : Int) (w : World) (hL : Lg w (.agg #[.bool b1, .slice pa n1 ca]) x) (hn : 0 < n1) :
    Calls Tryd.prog 46 #[.agg #[.bool b1, .slice pa n1 ca], .agg #[.bool b2, .slice pb 0 cb]] w fun e w' => LgV (x) e w' ∧ Below w.heap.size w w' := by
  have hB : Below w.heap.size w (((w.alloc (.cells #[.bool b1, .slice pa n1 ca] 24)).alloc (.cells #[.bool b2, .slice pb 0 cb] 24)).alloc (.cells #[.bool false, .slice none 0 0] 24)) := by (repeat (first | with_reducible exact Below.refl _ _ | with_reducible assumption | refine Below.alloc ?_ (by (try simp); try omega) _ | refine Below.setCell ?_ (by (try simp); try omega) _ | refine below_drewN ?_ _ | refine Below.drew ?_ | (with_reducible refine Below.trans ?_ (Below.mono (by assumption) (by (try simp); try omega)))))
  have bA : Bx (((w.alloc (.cells #[.bool b1, .slice pa n1 ca] 24)).alloc (.cells #[.bool b2, .slice pb 0 cb] 24)).alloc (.cells #[.bool false, .slice none 0 0] 24)) (w.heap.size) (.bool b1) (.slice pa n1 ca) 24 := by exact (((Bx.new w (.bool b1) (.slice pa n1 ca) 24).alloc (.cells #[.bool b2, .slice pb 0 cb] 24)).alloc (.cells #[.bool false, .slice none 0 0] 24))
  have bB : Bx (((w.alloc (.cells #[.bool b1, .slice pa n1 ca] 24)).alloc (.cells #[.bool b2, .slice pb 0 cb] 24)).alloc (.cells #[.bool false, .slice none 0 0] 24)) (w.heap.size + 1) (.bool b2) (.slice pb 0 cb) 24 := by have := ((Bx.new (w.alloc (.cells #[.bool b1, .slice pa n1 ca] 24)) (.bool b2) (.slice pb 0 cb) 24).alloc (.cells #[.bool false, .slice none 0 0] 24)); simpa using this
  have bR : Bx (((w.alloc (.cells #[.bool b1, .slice pa n1 ca] 24)).alloc (.cells #[.bool b2, .slice pb 0 cb] 24)).alloc (.cells #[.bool false, .slice none 0 0] 24)) (w.heap.size + 1 + 1) (.bool false) (.slice none 0 0) 24 := by have := (Bx.new ((w.alloc (.cells #[.bool b1, .slice pa n1 ca] 24)).alloc (.cells #[.bool b2, .slice pb 0 cb] 24)) (.bool false) (.slice none 0 0) 24); simpa using this
  have rbA0 := bA.c0
  have rbA1 := bA.c1
  have rbB0 := bB.c0
  have rbB1 := bB.c1
  have hL0 := hL
  replace hL := hL.keep hB
  have k1 : ((n1 : Int) == 0) = false := by rw [beq_eq_false_iff_ne]; omega
  have rbR0 := bR.c0
  have rbR1 := bR.c1
  have zbR0 := bR.f 0
  have zbR1 := bR.f 1
  have lbR := bR.lt
  have hL2 := Lib.hid hL0
  clear hL hL0
  go_enter Tryd.func46, Tryd.ntmps46
  go_wp2
  refine bodyPost_ret (v := .agg #[.bool b1, .slice pa n1 ca]) (by simp [results, Tryd.results46, go_sem, rbR0, rbR1, zbR0, zbR1, lbR]) rfl ⟨⟨_, _, _, _, rfl, hL2.out.keep (by (repeat (first | with_reducible exact Below.refl _ _ | with_reducible assumption | refine Below.alloc ?_ (by (try simp); try omega) _ | refine Below.setCell ?_ (by (try simp); try omega) _ | refine below_drewN ?_ _ | refine Below.drew ?_ | (with_reducible refine Below.trans ?_ (Below.mono (by assumption) (by (try simp); try omega))))))⟩, by (repeat (first | with_reducible exact Below.refl _ _ | with_reducible assumption | refine Below.alloc ?_ (by (try simp); try omega) _ | refine Below.setCell ?_ (by (try simp); try omega) _ | refine below_drewN ?_ _ | refine Below.drew ?_ | (with_reducible refine Below.trans ?_ (Below.mono (by assumption) (by (try simp); try omega)))))⟩
theorem rsum_num (A B : Value) (x y : Int) (w : World) (hA : Lg w A x) (hB : Lg w B y) (l1 : Dl x ≤ 90000) (l2 : Dl y ≤ 90000) :
    Calls Tryd.prog 45 #[A, B] w fun e w' => LgV (x + y) e w' ∧ Below w.heap.size w w' := by
  obtain ⟨pa, ca, rfl, h1⟩ := hA.form
  obtain ⟨pb, cb, rfl, h2⟩ := hB.form
  by_cases hx : x = 0
  · subst hx
    have := rsum_0l (decide ((0 : Int) < 0)) (decide (y < 0)) pa pb 0 (Dl y) ca cb y w hB
    rw [Dl_zero]
    rwa [show (0 : Int) + y = y by omega]
  · by_cases hy : y = 0
    · subst hy
      have := rsum_0r (decide (x < 0)) (decide ((0 : Int) < 0)) pa pb (Dl x) 0 ca cb x w hA (Dl_pos hx)
      rw [Dl_zero]
      rwa [show x + 0 = x by omega]
    · have x0 : 0 < (x.natAbs : Int) := by omega
      have y0 : 0 < (y.natAbs : Int) := by omega
      have ex := sg_num x
      have ey := sg_num y
      by_cases sx : x < 0 <;> by_cases sy : y < 0
      all_goals
        simp only [sx, sy, decide_true, decide_false] at ex ey ⊢
      · have := rsum_same true _ _ _ _ w x0 y0 h1 h2 l1 l2
        rwa [show sg true ((x.natAbs : Int) + (y.natAbs : Int)) = x + y by simp only [sg, if_true] at ex ey ⊢; omega] at this
      · exact rsum_mixed_true _ _ _ _ _ w x0 y0 h1 h2 l1 l2 (by rw [ex, ey])
      · exact rsum_mixed_false _ _ _ _ _ w x0 y0 h1 h2 l1 l2 (by rw [ex, ey])
      · have := rsum_same false _ _ _ _ w x0 y0 h1 h2 l1 l2
        rwa [show sg false ((x.natAbs : Int) + (y.natAbs : Int)) = x + y by simp [sg] at ex ey ⊢; omega] at this
theorem rdiff_num (A B : Value) (x y : Int) (w : World) (hA : Lg w A x) (hB : Lg w B y) (l1 : Dl x ≤ 90000) (l2 : Dl y ≤ 90000) :
    Calls Tryd.prog 46 #[A, B] w fun e w' => LgV (x - y) e w' ∧ Below w.heap.size w w' := by
  obtain ⟨pa, ca, rfl, h1⟩ := hA.form
  obtain ⟨pb, cb, rfl, h2⟩ := hB.form
  by_cases hx : x = 0
  · subst hx
    have := rdiff_0l (decide ((0 : Int) < 0)) (decide (y < 0)) pa pb 0 (Dl y) ca cb y w hB (by omega)
    rw [Dl_zero]
    rwa [show (0 : Int) - y = -y by omega]
  · by_cases hy : y = 0
    · subst hy
      have := rdiff_0r (decide (x < 0)) (decide ((0 : Int) < 0)) pa pb (Dl x) 0 ca cb x w hA (Dl_pos hx)
      rw [Dl_zero]
      rwa [show x - 0 = x by omega]
    · have x0 : 0 < (x.natAbs : Int) := by omega
      have y0 : 0 < (y.natAbs : Int) := by omega
      have ex := sg_num x
      have ey := sg_num y
      by_cases sx : x < 0 <;> by_cases sy : y < 0
      all_goals
        simp only [sx, sy, decide_true, decide_false] at ex ey ⊢
      · have := rdiff_same true _ _ _ _ w x0 y0 h1 h2 l1 l2
        rwa [show sg true ((x.natAbs : Int) - (y.natAbs : Int)) = x - y by simp only [sg, if_true] at ex ey ⊢; omega] at this
      · exact rdiff_mixed_true _ _ _ _ _ w x0 y0 h1 h2 l1 l2 (by rw [ex, ey])
      · exact rdiff_mixed_false _ _ _ _ _ w x0 y0 h1 h2 l1 l2 (by rw [ex, ey])
      · have := rdiff_same false _ _ _ _ w x0 y0 h1 h2 l1 l2
        rwa [show sg false ((x.natAbs : Int) - (y.natAbs : Int)) = x - y by simp [sg] at ex ey ⊢; omega] at this
/-- A result and its error. -/
def OkE (z er : Int) (e : Ending) (w' : World) : Prop := ∃ p a n c, e = .returned (.tuple #[.agg #[.bool p, .slice a n c], .int .i64 er]) ∧ Lg w' (.agg #[.bool p, .slice a n c]) z
theorem OkL.e {z : Int} {e : Ending} {w : World} (h : OkL z e w) : OkE z 0 e w := h
set_option maxRecDepth 100000 in
set_option maxHeartbeats 1000000 in
theorem rtold_ok (A : Value) (x : Int) (w : World) (hA : Lg w A x) (l1 : Dl x ≤ 600) :
    Calls Tryd.prog 73 #[A] w fun e w' => OkE x 0 e w' ∧ Below w.heap.size w w' := by
  obtain ⟨pa, ca, rfl, h1⟩ := hA.form
  generalize decide (x < 0) = b at *
  generalize Dl x = n at *
  have hB : Below w.heap.size w ((w.alloc (.cells #[.bool b, .slice pa n ca] 24)).alloc (.cells #[.bool false, .slice none 0 0] 24)) := by (repeat (first | with_reducible exact Below.refl _ _ | with_reducible assumption | refine Below.alloc ?_ (by (try simp); try omega) _ | refine Below.setCell ?_ (by (try simp); try omega) _ | refine below_drewN ?_ _ | refine Below.drew ?_ | (with_reducible refine Below.trans ?_ (Below.mono (by assumption) (by (try simp); try omega)))))
  have bA : Bx ((w.alloc (.cells #[.bool b, .slice pa n ca] 24)).alloc (.cells #[.bool false, .slice none 0 0] 24)) (w.heap.size) (.bool b) (.slice pa n ca) 24 := by exact ((Bx.new w (.bool b) (.slice pa n ca) 24).alloc (.cells #[.bool false, .slice none 0 0] 24))
  have bR : Bx ((w.alloc (.cells #[.bool b, .slice pa n ca] 24)).alloc (.cells #[.bool false, .slice none 0 0] 24)) (w.heap.size + 1) (.bool false) (.slice none 0 0) 24 := by have := (Bx.new (w.alloc (.cells #[.bool b, .slice pa n ca] 24)) (.bool false) (.slice none 0 0) 24); simpa using this
  have rbA0 := bA.c0
  have rbA1 := bA.c1
  have rbR0 := bR.c0
  have rbR1 := bR.c1
  have zbR0 := bR.f 0
  have zbR1 := bR.f 1
  have lbR := bR.lt
  have k1 : ¬ (600 : Int) < (n : Int) := by omega
  have hL := Lib.hid hA
  clear hA h1
  go_enter Tryd.func73, Tryd.ntmps73
  go_wp2
  refine bodyPost_ret (v := .tuple #[.agg #[.bool b, .slice pa n ca], .int .i64 0]) (by simp [results, Tryd.results73, go_sem, rbR0, rbR1, zbR0, zbR1, lbR]) rfl ⟨⟨_, _, _, _, rfl, hL.out.keep (by (repeat (first | with_reducible exact Below.refl _ _ | with_reducible assumption | refine Below.alloc ?_ (by (try simp); try omega) _ | refine Below.setCell ?_ (by (try simp); try omega) _ | refine below_drewN ?_ _ | refine Below.drew ?_ | (with_reducible refine Below.trans ?_ (Below.mono (by assumption) (by (try simp); try omega))))))⟩, by (repeat (first | with_reducible exact Below.refl _ _ | with_reducible assumption | refine Below.alloc ?_ (by (try simp); try omega) _ | refine Below.setCell ?_ (by (try simp); try omega) _ | refine below_drewN ?_ _ | refine Below.drew ?_ | (with_reducible refine Below.trans ?_ (Below.mono (by assumption) (by (try simp); try omega)))))⟩

end Go.Proofs.YtoppdbgodceaiaaDoor
