/-
  LongFactors: the walk.
-/
import Derived.Test.YtoppdbgodceaiaaDoorLiN
import Derived.Test.YtoppdbgodceaiaaDoorLjI
import Derived.Deep.Cut
namespace Go.Proofs.YtoppdbgodceaiaaDoor
open Go.RowKit

theorem gI_abs (x y : Int) : gI (x.natAbs : Int) (y.natAbs : Int) = ((Nat.gcd x.natAbs y.natAbs : Nat) : Int) := by unfold gI; simp
/-- What LongFactors asks of two numbers, not both 0, and a third one. -/
theorem fac_math (x y z : Int) (h : ¬ (x = 0 ∧ y = 0)) : 0 < gI (x.natAbs : Int) (y.natAbs : Int) ∧ x.tmod (gI (x.natAbs : Int) (y.natAbs : Int)) = 0 ∧ y.tmod (gI (x.natAbs : Int) (y.natAbs : Int)) = 0 ∧
    gI ((x.tdiv (gI (x.natAbs : Int) (y.natAbs : Int))).natAbs : Int) ((y.tdiv (gI (x.natAbs : Int) (y.natAbs : Int))).natAbs : Int) = 1 ∧
    gI ((x * z).natAbs : Int) ((y * z).natAbs : Int) = gI (x.natAbs : Int) (y.natAbs : Int) * (z.natAbs : Int) := by
  rw [gI_abs x y]
  have hp : 0 < Nat.gcd x.natAbs y.natAbs := by
    rcases Nat.eq_zero_or_pos x.natAbs with h1 | h1
    · have : 0 < y.natAbs := by omega
      exact Nat.gcd_pos_of_pos_right _ this
    · exact Nat.gcd_pos_of_pos_left _ h1
  refine ⟨by omega, ?_, ?_, ?_, ?_⟩
  · exact Int.tmod_eq_zero_of_dvd (Int.dvd_natAbs.1 (Int.natCast_dvd_natCast.2 (Nat.gcd_dvd_left _ _)))
  · exact Int.tmod_eq_zero_of_dvd (Int.dvd_natAbs.1 (Int.natCast_dvd_natCast.2 (Nat.gcd_dvd_right _ _)))
  · rw [gI_abs, Int.natAbs_tdiv, Int.natAbs_tdiv, Int.natAbs_natCast]; show ((Nat.gcd (x.natAbs / _) (y.natAbs / _) : Nat) : Int) = 1; rw [Nat.gcd_div (Nat.gcd_dvd_left _ _) (Nat.gcd_dvd_right _ _), Nat.div_self hp]; rfl
  · rw [gI_abs, Int.natAbs_mul, Int.natAbs_mul, Nat.gcd_mul_right]; simp
theorem pt_one : PText [49] 1 := pt_n1
theorem div_okE (A B : Value) (x y q r : Int) (w : World) (hA : Lg w A x) (hB : Lg w B y) (l1 : Dl x ≤ 600) (l2 : Dl y ≤ 600) (y0 : y ≠ 0) (hq : x.tdiv y = q) (hr : x.tmod y = r) :
    Calls Tryd.prog 38 #[A, B] w fun e w' => OkL2 q r e w' ∧ Below w.heap.size w w' := by
  subst hq hr; exact div_ok A B x y w hA hB l1 l2 y0

set_option maxRecDepth 100000 in
set_option maxHeartbeats 16000000 in
theorem longFactors_true (b1 : Bool) (s1 : Value) (l1 : List Int) (b2 : Bool) (s2 : Value) (l2 : List Int) (b3 : Bool) (k3 : Int) (s3 : Value) (m3 : List Int) (b4 : Bool) (k4 : Int) (s4 : Value) (m4 : List Int) (b5 : Bool) (k5 : Int) (s5 : Value) (m5 : List Int) (w : World) (hP : Pw w) (L1 : Ls w s1 l1) (L2 : Ls w s2 l2) (N1 : l1.length ≤ 9223372036854775807) (N2 : l2.length ≤ 9223372036854775807) (K30 : 0 ≤ k3) (K31 : k3 ≤ 255) (W3 : Wd w s3 m3) (K40 : 0 ≤ k4) (K41 : k4 ≤ 255) (W4 : Wd w s4 m4) (K50 : 0 ≤ k5) (K51 : k5 ≤ 255) (W5 : Wd w s5 m5) :
    Calls Tryd.prog 11 #[.agg #[.bool b1, s1, .bool b2, s2, .bool b3, .int .u8 k3, s3, .bool b4, .int .u8 k4, s4], .agg #[.bool b5, .int .u8 k5, s5]] w fun e w' => e = .returned (.bool true) ∧ Below w.heap.size w w' := by
  have hz := drShort_Dl (b := b5) (k := k5) (m := m5) (fun x hx => (W5.choose_spec.choose_spec.2.2.1 x hx).1)
  have L1' := L1
  have L2' := L2
  have W3' := W3
  have W4' := W4
  have W5' := W5
  obtain ⟨q1, r1, rfl, _⟩ := L1'
  obtain ⟨q2, r2, rfl, _⟩ := L2'
  obtain ⟨q3, r3, rfl, _⟩ := W3'
  obtain ⟨q4, r4, rfl, _⟩ := W4'
  obtain ⟨q5, r5, rfl, _⟩ := W5'
  have hB : Below w.heap.size w ((w.alloc (.cells #[.bool b1, .slice q1 l1.length r1, .bool b2, .slice q2 l2.length r2, .bool b3, .int .u8 k3, .slice q3 m3.length r3, .bool b4, .int .u8 k4, .slice q4 m4.length r4] 29)).alloc (.cells #[.bool b5, .int .u8 k5, .slice q5 m5.length r5] 27)) := by (repeat (first | with_reducible exact Below.refl _ _ | with_reducible assumption | refine Below.alloc ?_ (by (try simp); try omega) _ | refine Below.setCell ?_ (by (try simp); try omega) _ | refine below_drewN ?_ _ | refine Below.drew ?_ | (with_reducible refine Below.trans ?_ (Below.mono (by assumption) (by (try simp); try omega)))))
  have c0 : ((w.alloc (.cells #[.bool b1, .slice q1 l1.length r1, .bool b2, .slice q2 l2.length r2, .bool b3, .int .u8 k3, .slice q3 m3.length r3, .bool b4, .int .u8 k4, .slice q4 m4.length r4] 29)).alloc (.cells #[.bool b5, .int .u8 k5, .slice q5 m5.length r5] 27)).cell? ⟨w.heap.size, 0, none⟩ = some (.bool b1) := by simp
  have c1 : ((w.alloc (.cells #[.bool b1, .slice q1 l1.length r1, .bool b2, .slice q2 l2.length r2, .bool b3, .int .u8 k3, .slice q3 m3.length r3, .bool b4, .int .u8 k4, .slice q4 m4.length r4] 29)).alloc (.cells #[.bool b5, .int .u8 k5, .slice q5 m5.length r5] 27)).cell? ⟨w.heap.size, 1, none⟩ = some (.slice q1 l1.length r1) := by simp
  have c2 : ((w.alloc (.cells #[.bool b1, .slice q1 l1.length r1, .bool b2, .slice q2 l2.length r2, .bool b3, .int .u8 k3, .slice q3 m3.length r3, .bool b4, .int .u8 k4, .slice q4 m4.length r4] 29)).alloc (.cells #[.bool b5, .int .u8 k5, .slice q5 m5.length r5] 27)).cell? ⟨w.heap.size, 2, none⟩ = some (.bool b2) := by simp
  have c3 : ((w.alloc (.cells #[.bool b1, .slice q1 l1.length r1, .bool b2, .slice q2 l2.length r2, .bool b3, .int .u8 k3, .slice q3 m3.length r3, .bool b4, .int .u8 k4, .slice q4 m4.length r4] 29)).alloc (.cells #[.bool b5, .int .u8 k5, .slice q5 m5.length r5] 27)).cell? ⟨w.heap.size, 3, none⟩ = some (.slice q2 l2.length r2) := by simp
  have c4 : ((w.alloc (.cells #[.bool b1, .slice q1 l1.length r1, .bool b2, .slice q2 l2.length r2, .bool b3, .int .u8 k3, .slice q3 m3.length r3, .bool b4, .int .u8 k4, .slice q4 m4.length r4] 29)).alloc (.cells #[.bool b5, .int .u8 k5, .slice q5 m5.length r5] 27)).cell? ⟨w.heap.size, 4, none⟩ = some (.bool b3) := by simp
  have c5 : ((w.alloc (.cells #[.bool b1, .slice q1 l1.length r1, .bool b2, .slice q2 l2.length r2, .bool b3, .int .u8 k3, .slice q3 m3.length r3, .bool b4, .int .u8 k4, .slice q4 m4.length r4] 29)).alloc (.cells #[.bool b5, .int .u8 k5, .slice q5 m5.length r5] 27)).cell? ⟨w.heap.size, 5, none⟩ = some (.int .u8 k3) := by simp
  have c6 : ((w.alloc (.cells #[.bool b1, .slice q1 l1.length r1, .bool b2, .slice q2 l2.length r2, .bool b3, .int .u8 k3, .slice q3 m3.length r3, .bool b4, .int .u8 k4, .slice q4 m4.length r4] 29)).alloc (.cells #[.bool b5, .int .u8 k5, .slice q5 m5.length r5] 27)).cell? ⟨w.heap.size, 6, none⟩ = some (.slice q3 m3.length r3) := by simp
  have c7 : ((w.alloc (.cells #[.bool b1, .slice q1 l1.length r1, .bool b2, .slice q2 l2.length r2, .bool b3, .int .u8 k3, .slice q3 m3.length r3, .bool b4, .int .u8 k4, .slice q4 m4.length r4] 29)).alloc (.cells #[.bool b5, .int .u8 k5, .slice q5 m5.length r5] 27)).cell? ⟨w.heap.size, 7, none⟩ = some (.bool b4) := by simp
  have c8 : ((w.alloc (.cells #[.bool b1, .slice q1 l1.length r1, .bool b2, .slice q2 l2.length r2, .bool b3, .int .u8 k3, .slice q3 m3.length r3, .bool b4, .int .u8 k4, .slice q4 m4.length r4] 29)).alloc (.cells #[.bool b5, .int .u8 k5, .slice q5 m5.length r5] 27)).cell? ⟨w.heap.size, 8, none⟩ = some (.int .u8 k4) := by simp
  have c9 : ((w.alloc (.cells #[.bool b1, .slice q1 l1.length r1, .bool b2, .slice q2 l2.length r2, .bool b3, .int .u8 k3, .slice q3 m3.length r3, .bool b4, .int .u8 k4, .slice q4 m4.length r4] 29)).alloc (.cells #[.bool b5, .int .u8 k5, .slice q5 m5.length r5] 27)).cell? ⟨w.heap.size, 9, none⟩ = some (.slice q4 m4.length r4) := by simp
  have e0 : ((w.alloc (.cells #[.bool b1, .slice q1 l1.length r1, .bool b2, .slice q2 l2.length r2, .bool b3, .int .u8 k3, .slice q3 m3.length r3, .bool b4, .int .u8 k4, .slice q4 m4.length r4] 29)).alloc (.cells #[.bool b5, .int .u8 k5, .slice q5 m5.length r5] 27)).cell? ⟨w.heap.size + 1, 0, none⟩ = some (.bool b5) := by simp
  have e1 : ((w.alloc (.cells #[.bool b1, .slice q1 l1.length r1, .bool b2, .slice q2 l2.length r2, .bool b3, .int .u8 k3, .slice q3 m3.length r3, .bool b4, .int .u8 k4, .slice q4 m4.length r4] 29)).alloc (.cells #[.bool b5, .int .u8 k5, .slice q5 m5.length r5] 27)).cell? ⟨w.heap.size + 1, 1, none⟩ = some (.int .u8 k5) := by simp
  have e2 : ((w.alloc (.cells #[.bool b1, .slice q1 l1.length r1, .bool b2, .slice q2 l2.length r2, .bool b3, .int .u8 k3, .slice q3 m3.length r3, .bool b4, .int .u8 k4, .slice q4 m4.length r4] 29)).alloc (.cells #[.bool b5, .int .u8 k5, .slice q5 m5.length r5] 27)).cell? ⟨w.heap.size + 1, 2, none⟩ = some (.slice q5 m5.length r5) := by simp
  go_enter Tryd.func11, Tryd.ntmps11
  go_wp2_with fail
  generalize ((w.alloc (.cells #[.bool b1, .slice q1 l1.length r1, .bool b2, .slice q2 l2.length r2, .bool b3, .int .u8 k3, .slice q3 m3.length r3, .bool b4, .int .u8 k4, .slice q4 m4.length r4] 29)).alloc (.cells #[.bool b5, .int .u8 k5, .slice q5 m5.length r5] 27)) = w1 at *
  obtain ⟨g, hg⟩ : ∃ g, w.heap.size = g := ⟨_, rfl⟩
  simp only [hg] at c0 c1 c2 c3 c4 c5 c6 c7 c8 c9 e0 e1 e2 ⊢
  rw [← hg]
  obtain ⟨z, hzE⟩ : ∃ z, drShortZ b5 k5 m5 = z := ⟨_, rfl⟩
  rw [hzE] at hz
  have hSh := fun w h => drShort_any b5 k5 (.slice q5 m5.length r5) m5 w K50 K51 h
  rw [hzE] at hSh
  clear hzE
  replace hSh := Lib.hid hSh
  go_at_call 16
  refine (works_true _ (hP.keep hB)).mono ?_
  rintro e u1 ⟨rfl, hb⟩
  have hk : Below w1.heap.size w1 u1 := by (repeat (first | with_reducible exact Below.refl _ _ | with_reducible assumption | refine Below.alloc ?_ (by (try simp); try omega) _ | refine Below.setCell ?_ (by (try simp); try omega) _ | refine below_drewN ?_ _ | refine Below.drew ?_ | (with_reducible refine Below.trans ?_ (Below.mono (by assumption) (by (try simp); try omega)))))
  clear hb
  replace c0 := lkeep hk c0
  replace c1 := lkeep hk c1
  replace c2 := lkeep hk c2
  replace c3 := lkeep hk c3
  replace c4 := lkeep hk c4
  replace c5 := lkeep hk c5
  replace c6 := lkeep hk c6
  replace c7 := lkeep hk c7
  replace c8 := lkeep hk c8
  replace c9 := lkeep hk c9
  replace e0 := lkeep hk e0
  replace e1 := lkeep hk e1
  replace e2 := lkeep hk e2
  replace hB := hB.trans (hk.mono hB.size)
  clear hk
  go_wp2_with fail
  go_at_call 20
  refine (pairs_any b1 _ l1 b2 _ l2 b3 k3 _ m3 b4 k4 _ m4 _ (L1.keep hB) (L2.keep hB) N1 N2 K30 K31 (W3.keep hB) K40 K41 (W4.keep hB)).mono ?_
  rintro e u2 ⟨B, f, rfl, PB, hb⟩
  have hk : Below u1.heap.size u1 u2 := by (repeat (first | with_reducible exact Below.refl _ _ | with_reducible assumption | refine Below.alloc ?_ (by (try simp); try omega) _ | refine Below.setCell ?_ (by (try simp); try omega) _ | refine below_drewN ?_ _ | refine Below.drew ?_ | (with_reducible refine Below.trans ?_ (Below.mono (by assumption) (by (try simp); try omega)))))
  clear hb
  clear c0 c1 c2 c3 c4 c5 c6 c7 c8 c9
  replace e0 := lkeep hk e0
  replace e1 := lkeep hk e1
  replace e2 := lkeep hk e2
  replace hB := hB.trans (hk.mono hB.size)
  clear hk
  have WD := W5.keep hB
  clear L1 L2 W3 W4 W5 N1 N2 K30 K31 K40 K41 K50 K51
  go_wp2
  go_loopw [30] (fun i wr => ∃ k : Nat, i = .int .i64 k ∧ k ≤ 2 ∧ Prs wr B f ∧ Wd wr (.slice q5 m5.length r5) m5 ∧ (wr.cell? ⟨g + 1, 0, none⟩ = some (.bool b5) ∧ wr.cell? ⟨g + 1, 1, none⟩ = some (.int .u8 k5) ∧ wr.cell? ⟨g + 1, 2, none⟩ = some (.slice q5 m5.length r5)) ∧ Below w.heap.size w wr)
    (fun i _ => 2 - (intOf i).toNat)
  case atStart => exact ⟨0, rfl, by omega, PB, WD, ⟨e0, e1, e2⟩, hB⟩
  case round =>
    clear PB hB WD e0 e1 e2
    obtain ⟨k, rfl, hk, PB, WD, ⟨e0, e1, e2⟩, hB⟩ := hrel
    by_cases hk4 : k = 2
    · subst hk4; clear PB; go_wp2; go_ret; exact ⟨rfl, hB⟩
    have hki : (k : Int) < 2 := by omega
    have hk1 : k + 1 ≤ 2 := by omega
    obtain ⟨x, y, dx, dy, hf⟩ := PB.num (k + 1) (by omega) (by omega)
    obtain ⟨a0, n0, j0, x0, x1, LX⟩ := PB.at0 (k + 1) (by omega)
    obtain ⟨a1, n1, j1, y0, y1, LY⟩ := PB.at1 (k + 1) (by omega)
    rw [hf] at x0 LX y0 LY
    simp only at x0 LX y0 LY
    replace LX : Lg wr (.agg #[.bool (decide (x < 0)), .slice a0 n0 j0]) x := ⟨_, rfl, LX⟩
    replace LY : Lg wr (.agg #[.bool (decide (y < 0)), .slice a1 n1 j1]) y := ⟨_, rfl, LY⟩
    obtain ⟨p, hp⟩ : ∃ p, decide (x < 0) = p := ⟨_, rfl⟩
    obtain ⟨p', hp'⟩ : ∃ p, decide (y < 0) = p := ⟨_, rfl⟩
    rw [hp] at x0 LX
    rw [hp'] at y0 LY
    clear hf hp hp'
    replace hk4 := Lib.hid hk4
    rw [show 4 * (k + 1) = 4 + k * 4 by omega] at x0 x1 y0 y1
    go_upto_region 6 with fail
    obtain ⟨d0, d1, d2, d3⟩ := cell4 (w := wr) (.bool p) (.slice a0 n0 j0) (.bool p') (.slice a1 n1 j1) 35
    have hB1 : Below w.heap.size w (wr.alloc (.cells #[.bool p, .slice a0 n0 j0, .bool p', .slice a1 n1 j1] 35)) := hB.alloc hB.size _
    have hb : Below wr.heap.size wr (wr.alloc (.cells #[.bool p, .slice a0 n0 j0, .bool p', .slice a1 n1 j1] 35)) := (Below.refl _ _).alloc (Nat.le_refl _) _
    replace PB := PB.keep hb
    replace LX := LX.keep hb
    replace LY := LY.keep hb
    replace WD := WD.keep hb
    replace e0 := lkeep hb e0
    replace e1 := lkeep hb e1
    replace e2 := lkeep hb e2
    clear hb hB x0 x1 y0 y1
    generalize wr.alloc (.cells #[.bool p, .slice a0 n0 j0, .bool p', .slice a1 n1 j1] 35) = v0 at *
    generalize wr.heap.size = g0 at *
    go_cut [7, 8, 9, 24, 25, 26, 27, 28, 29, 30] from 7 (fun v7 v8 v9 v24 v25 v26 v27 v28 v29 v30 wx => ∃ (ga gb gc : Nat) (pC : Bool) (aC : Option Addr) (nC kC : Nat), v7 = .pointer (some ⟨ga, 0, none⟩) ∧ v8 = .pointer (some ⟨gb, 0, none⟩) ∧ v9 = .pointer (some ⟨gc, 0, none⟩) ∧ v24 = .bool true ∧ v25 = .bool false ∧ v26 = .agg #[.bool b1, .slice q1 l1.length r1, .bool b2, .slice q2 l2.length r2, .bool b3, .int .u8 k3, .slice q3 m3.length r3, .bool b4, .int .u8 k4, .slice q4 m4.length r4] ∧ v27 = .slice (some ⟨B, 0, none⟩) 4 4 ∧ v28 = .slice (some ⟨B, 4, none⟩) 2 3 ∧ v29 = .int .i64 2 ∧ v30 = .int .i64 (k : Int) ∧ Bx wx ga (.bool p) (.slice a0 n0 j0) 24 ∧ Bx wx gb (.bool p') (.slice a1 n1 j1) 24 ∧ Bx wx gc (.bool pC) (.slice aC nC kC) 24 ∧ Lg wx (.agg #[.bool pC, .slice aC nC kC]) z ∧ (v0.heap.size ≤ ga ∧ v0.heap.size ≤ gb ∧ v0.heap.size ≤ gc) ∧ (ga ≠ gb ∧ ga ≠ gc ∧ gb ≠ gc) ∧ Below v0.heap.size v0 wx)
    case first =>
      clear PB LX LY hB1 dx dy
      have hB := Below.refl v0.heap.size v0
      have hS : ∀ W, Below v0.heap.size v0 W → W.cell? ⟨g0, 0, none⟩ = some (.bool p) ∧ W.cell? ⟨g0, 1, none⟩ = some (.slice a0 n0 j0) ∧ W.cell? ⟨g0, 2, none⟩ = some (.bool p') ∧ W.cell? ⟨g0, 3, none⟩ = some (.slice a1 n1 j1) ∧ W.cell? ⟨g + 1, 0, none⟩ = some (.bool b5) ∧ W.cell? ⟨g + 1, 1, none⟩ = some (.int .u8 k5) ∧ W.cell? ⟨g + 1, 2, none⟩ = some (.slice q5 m5.length r5) := fun W h => ⟨cell2 d0 h, cell2 d1 h, cell2 d2 h, cell2 d3 h, cell2 e0 h, cell2 e1 h, cell2 e2 h⟩
      refine wp_region_inv (by kernel_rfl) (by kernel_rfl) (fun A listed a' w' => ∃ (l0 l1 l2 l3 l4 l5 l6 l7 l8 l9 l10 l11 : Bool) (x34 x35 x36 x37 x38 x39 x7 x8 x9 : Value), (listed.getD 0 false = l0 ∧ listed.getD 1 false = l1 ∧ listed.getD 2 false = l2 ∧ listed.getD 3 false = l3 ∧ listed.getD 4 false = l4 ∧ listed.getD 5 false = l5 ∧ listed.getD 6 false = l6 ∧ listed.getD 7 false = l7 ∧ listed.getD 8 false = l8 ∧ listed.getD 9 false = l9 ∧ listed.getD 10 false = l10 ∧ listed.getD 11 false = l11) ∧ a' = (((((((((A.put (some 34) x34).put (some 35) x35).put (some 36) x36).put (some 37) x37).put (some 38) x38).put (some 39) x39).put (some 7) x7).put (some 8) x8).put (some 9) x9) ∧ (l0 = true → x34 = .pointer (some ⟨g0, 0, none⟩)) ∧ (l1 = true → x35 = .agg #[.bool p, .slice a0 n0 j0]) ∧ (l2 = true → x36 = .pointer (some ⟨g0, 2, none⟩)) ∧ (l3 = true → x37 = .agg #[.bool p', .slice a1 n1 j1]) ∧ (l4 = true → x38 = .agg #[.bool b5, .int .u8 k5, .slice q5 m5.length r5]) ∧ (l5 = true → ∃ (pC : Bool) (aC : Option Addr) (nC kC : Nat), x39 = .agg #[.bool pC, .slice aC nC kC] ∧ Lg w' x39 z) ∧ BxI v0.heap.size l6 l9 w' x7 x35 ∧ BxI v0.heap.size l7 l10 w' x8 x37 ∧ BxI v0.heap.size l8 l11 w' x9 x39 ∧ (l9 = true → l6 = true ∧ l1 = true) ∧ (l10 = true → l7 = true ∧ l3 = true) ∧ (l11 = true → l8 = true ∧ l5 = true) ∧ (l6 = true → l7 = true → x7 ≠ x8) ∧ (l6 = true → l8 = true → x7 ≠ x9) ∧ (l7 = true → l8 = true → x8 ≠ x9) ∧ Below v0.heap.size v0 w') ?_ ?_ ?_
      · refine ⟨false, false, false, false, false, false, false, false, false, false, false, false, ?_, ?_, ?_, ?_, ?_, ?_, ?_, ?_, ?_, ⟨rfl, rfl, rfl, rfl, rfl, rfl, rfl, rfl, rfl, rfl, rfl, rfl⟩, ?_, (fun h => by cases h), (fun h => by cases h), (fun h => by cases h), (fun h => by cases h), (fun h => by cases h), (fun h => by cases h), (fun h => by cases h), (fun h => by cases h), (fun h => by cases h), (fun h => by cases h), (fun h => by cases h), (fun h => by cases h), (fun h => by cases h), (fun h => by cases h), (fun h => by cases h), (Below.refl _ _).drew⟩
        rotate_left 9
        with_reducible refine put_ex ?_ ?_
        with_reducible refine put_ex ?_ ?_
        with_reducible refine put_ex ?_ ?_
        with_reducible refine put_ex ?_ ?_
        with_reducible refine put_ex ?_ ?_
        with_reducible refine put_ex ?_ ?_
        with_reducible refine put_ex ?_ ?_
        with_reducible refine put_ex ?_ ?_
        with_reducible refine put_ex ?_ ?_
        with_reducible rfl
        all_goals first | (show _ < Array.size _; simp only [List.size_toArray, List.length_cons, List.length_nil]; omega) | skip
      · rintro listed a' w' i hn ⟨l0, l1, l2, l3, l4, l5, l6, l7, l8, l9, l10, l11, x34, x35, x36, x37, x38, x39, x7, x8, x9, ⟨h0, h1, h2, h3, h4, h5, h6, h7, h8, h9, h10, h11⟩, rfl, i0, i1, i2, i3, i4, i5, qa, qb, qc, sa, sb, sc, dab, dac, dbc, hW⟩ hi hnl hdp
        have hi' : i < 12 := hi
        clear hi
        obtain ⟨f0, f1, f2, f3, f4, f5, f6⟩ := hS _ hW
        rcases (by omega : i = 0 ∨ i = 1 ∨ i = 2 ∨ i = 3 ∨ i = 4 ∨ i = 5 ∨ i = 6 ∨ i = 7 ∨ i = 8 ∨ i = 9 ∨ i = 10 ∨ i = 11) with rfl | rfl | rfl | rfl | rfl | rfl | rfl | rfl | rfl | rfl | rfl | rfl
        · -- operation 0
          refine wpOp_step rfl (fun K hK => ?_)
          go_simp
          refine hK _ _ ⟨true, l1, l2, l3, l4, l5, l6, l7, l8, l9, l10, l11, .pointer (some ⟨g0, 0, none⟩), x35, x36, x37, x38, x39, x7, x8, x9, ⟨getD_same (by rw [hn]; decide) _, (getD_other (by decide) _).trans h1, (getD_other (by decide) _).trans h2, (getD_other (by decide) _).trans h3, (getD_other (by decide) _).trans h4, (getD_other (by decide) _).trans h5, (getD_other (by decide) _).trans h6, (getD_other (by decide) _).trans h7, (getD_other (by decide) _).trans h8, (getD_other (by decide) _).trans h9, (getD_other (by decide) _).trans h10, (getD_other (by decide) _).trans h11⟩, by simp only [Act.put, List.setIfInBounds_toArray, List.set_cons_zero, List.set_cons_succ], fun _ => rfl, i1, i2, i3, i4, i5, qa, qb, qc, sa, sb, sc, dab, dac, dbc, hW⟩
        · -- operation 1
          have k0 := hdp 0 (List.elem_iff.1 (by kernel_rfl)); rw [h0] at k0; subst k0
          obtain rfl := i0 rfl
          have e9 : l9 = false := by cases l9; rfl; have := (sa rfl).2; subst this; rw [hnl] at h1; cases h1
          subst e9
          refine wpOp_step rfl (fun K hK => ?_)
          go_simp
          refine hK _ _ ⟨true, true, l2, l3, l4, l5, l6, l7, l8, false, l10, l11, .pointer (some ⟨g0, 0, none⟩), .agg #[.bool p, .slice a0 n0 j0], x36, x37, x38, x39, x7, x8, x9, ⟨(getD_other (by decide) _).trans h0, getD_same (by rw [hn]; decide) _, (getD_other (by decide) _).trans h2, (getD_other (by decide) _).trans h3, (getD_other (by decide) _).trans h4, (getD_other (by decide) _).trans h5, (getD_other (by decide) _).trans h6, (getD_other (by decide) _).trans h7, (getD_other (by decide) _).trans h8, (getD_other (by decide) _).trans h9, (getD_other (by decide) _).trans h10, (getD_other (by decide) _).trans h11⟩, by simp only [Act.put, List.setIfInBounds_toArray, List.set_cons_zero, List.set_cons_succ], fun _ => rfl, fun _ => rfl, i2, i3, i4, i5, qa.val, qb, qc, (fun h => by cases h), sb, sc, dab, dac, dbc, hW⟩
        · -- operation 2
          refine wpOp_step rfl (fun K hK => ?_)
          go_simp
          refine hK _ _ ⟨l0, l1, true, l3, l4, l5, l6, l7, l8, l9, l10, l11, x34, x35, .pointer (some ⟨g0, 2, none⟩), x37, x38, x39, x7, x8, x9, ⟨(getD_other (by decide) _).trans h0, (getD_other (by decide) _).trans h1, getD_same (by rw [hn]; decide) _, (getD_other (by decide) _).trans h3, (getD_other (by decide) _).trans h4, (getD_other (by decide) _).trans h5, (getD_other (by decide) _).trans h6, (getD_other (by decide) _).trans h7, (getD_other (by decide) _).trans h8, (getD_other (by decide) _).trans h9, (getD_other (by decide) _).trans h10, (getD_other (by decide) _).trans h11⟩, by simp only [Act.put, List.setIfInBounds_toArray, List.set_cons_zero, List.set_cons_succ], i0, i1, fun _ => rfl, i3, i4, i5, qa, qb, qc, sa, sb, sc, dab, dac, dbc, hW⟩
        · -- operation 3
          have k2 := hdp 2 (List.elem_iff.1 (by kernel_rfl)); rw [h2] at k2; subst k2
          obtain rfl := i2 rfl
          have e10 : l10 = false := by cases l10; rfl; have := (sb rfl).2; subst this; rw [hnl] at h3; cases h3
          subst e10
          refine wpOp_step rfl (fun K hK => ?_)
          go_simp
          refine hK _ _ ⟨l0, l1, true, true, l4, l5, l6, l7, l8, l9, false, l11, x34, x35, .pointer (some ⟨g0, 2, none⟩), .agg #[.bool p', .slice a1 n1 j1], x38, x39, x7, x8, x9, ⟨(getD_other (by decide) _).trans h0, (getD_other (by decide) _).trans h1, (getD_other (by decide) _).trans h2, getD_same (by rw [hn]; decide) _, (getD_other (by decide) _).trans h4, (getD_other (by decide) _).trans h5, (getD_other (by decide) _).trans h6, (getD_other (by decide) _).trans h7, (getD_other (by decide) _).trans h8, (getD_other (by decide) _).trans h9, (getD_other (by decide) _).trans h10, (getD_other (by decide) _).trans h11⟩, by simp only [Act.put, List.setIfInBounds_toArray, List.set_cons_zero, List.set_cons_succ], i0, i1, fun _ => rfl, fun _ => rfl, i4, i5, qa, qb.val, qc, sa, (fun h => by cases h), sc, dab, dac, dbc, hW⟩
        · -- operation 4
          refine wpOp_step rfl (fun K hK => ?_)
          go_simp
          refine hK _ _ ⟨l0, l1, l2, l3, true, l5, l6, l7, l8, l9, l10, l11, x34, x35, x36, x37, .agg #[.bool b5, .int .u8 k5, .slice q5 m5.length r5], x39, x7, x8, x9, ⟨(getD_other (by decide) _).trans h0, (getD_other (by decide) _).trans h1, (getD_other (by decide) _).trans h2, (getD_other (by decide) _).trans h3, getD_same (by rw [hn]; decide) _, (getD_other (by decide) _).trans h5, (getD_other (by decide) _).trans h6, (getD_other (by decide) _).trans h7, (getD_other (by decide) _).trans h8, (getD_other (by decide) _).trans h9, (getD_other (by decide) _).trans h10, (getD_other (by decide) _).trans h11⟩, by simp only [Act.put, List.setIfInBounds_toArray, List.set_cons_zero, List.set_cons_succ], i0, i1, i2, i3, fun _ => rfl, i5, qa, qb, qc, sa, sb, sc, dab, dac, dbc, hW⟩
        · -- operation 5
          have k4 := hdp 4 (List.elem_iff.1 (by kernel_rfl)); rw [h4] at k4; subst k4
          obtain rfl := i4 rfl
          have e11 : l11 = false := by cases l11; rfl; have := (sc rfl).2; subst this; rw [hnl] at h5; cases h5
          subst e11
          refine wpOp_step rfl (fun K hK => ?_)
          go_simp
          go_at_call 43
          refine (hSh.out _ (WD.keep hW)).mono ?_
          rintro e uz ⟨⟨pC, aC, nC, kC, rfl, LC⟩, hb⟩
          try go_simp
          refine hK _ _ ⟨l0, l1, l2, l3, true, true, l6, l7, l8, l9, l10, false, x34, x35, x36, x37, .agg #[.bool b5, .int .u8 k5, .slice q5 m5.length r5], _, x7, x8, x9, ⟨(getD_other (by decide) _).trans h0, (getD_other (by decide) _).trans h1, (getD_other (by decide) _).trans h2, (getD_other (by decide) _).trans h3, (getD_other (by decide) _).trans h4, getD_same (by rw [hn]; decide) _, (getD_other (by decide) _).trans h6, (getD_other (by decide) _).trans h7, (getD_other (by decide) _).trans h8, (getD_other (by decide) _).trans h9, (getD_other (by decide) _).trans h10, (getD_other (by decide) _).trans h11⟩, by simp only [Act.put, List.setIfInBounds_toArray, List.set_cons_zero, List.set_cons_succ], i0, i1, i2, i3, fun _ => rfl, fun _ => ⟨pC, aC, nC, kC, rfl, LC⟩, (qa.keep hb), (qb.keep hb), (qc.keep hb).val, sa, sb, (fun h => by cases h), dab, dac, dbc, (hW.trans (hb.mono hW.size))⟩
        · -- operation 6
          have e9 : l9 = false := by cases l9; rfl; have := (sa rfl).1; subst this; rw [hnl] at h6; cases h6
          subst e9
          refine wpOp_step rfl (fun K hK => ?_)
          go_simp
          refine hK _ _ ⟨l0, l1, l2, l3, l4, l5, true, l7, l8, false, l10, l11, x34, x35, x36, x37, x38, x39, _, x8, x9, ⟨(getD_other (by decide) _).trans h0, (getD_other (by decide) _).trans h1, (getD_other (by decide) _).trans h2, (getD_other (by decide) _).trans h3, (getD_other (by decide) _).trans h4, (getD_other (by decide) _).trans h5, getD_same (by rw [hn]; decide) _, (getD_other (by decide) _).trans h7, (getD_other (by decide) _).trans h8, (getD_other (by decide) _).trans h9, (getD_other (by decide) _).trans h10, (getD_other (by decide) _).trans h11⟩, by simp only [Act.put, List.setIfInBounds_toArray, List.set_cons_zero, List.set_cons_succ], i0, i1, i2, i3, i4, (fun h => by obtain ⟨pC, aC, nC, kC, e1, e2⟩ := i5 h; exact ⟨pC, aC, nC, kC, e1, e2.allocI _⟩), (fun _ => ⟨_, _, _, _, _, rfl, hW.size, Bx.new _ _ _ _, (fun h => by cases h)⟩), (qb.alloc _), (qc.alloc _), (fun h => by cases h), sb, sc, (fun _ h => (qb.ne h).symm), (fun _ h => (qc.ne h).symm), dbc, (hW.alloc hW.size _)⟩
        · -- operation 7
          have e10 : l10 = false := by cases l10; rfl; have := (sb rfl).1; subst this; rw [hnl] at h7; cases h7
          subst e10
          refine wpOp_step rfl (fun K hK => ?_)
          go_simp
          refine hK _ _ ⟨l0, l1, l2, l3, l4, l5, l6, true, l8, l9, false, l11, x34, x35, x36, x37, x38, x39, x7, _, x9, ⟨(getD_other (by decide) _).trans h0, (getD_other (by decide) _).trans h1, (getD_other (by decide) _).trans h2, (getD_other (by decide) _).trans h3, (getD_other (by decide) _).trans h4, (getD_other (by decide) _).trans h5, (getD_other (by decide) _).trans h6, getD_same (by rw [hn]; decide) _, (getD_other (by decide) _).trans h8, (getD_other (by decide) _).trans h9, (getD_other (by decide) _).trans h10, (getD_other (by decide) _).trans h11⟩, by simp only [Act.put, List.setIfInBounds_toArray, List.set_cons_zero, List.set_cons_succ], i0, i1, i2, i3, i4, (fun h => by obtain ⟨pC, aC, nC, kC, e1, e2⟩ := i5 h; exact ⟨pC, aC, nC, kC, e1, e2.allocI _⟩), (qa.alloc _), (fun _ => ⟨_, _, _, _, _, rfl, hW.size, Bx.new _ _ _ _, (fun h => by cases h)⟩), (qc.alloc _), sa, (fun h => by cases h), sc, (fun h _ => qa.ne h), dac, (fun _ h => (qc.ne h).symm), (hW.alloc hW.size _)⟩
        · -- operation 8
          have e11 : l11 = false := by cases l11; rfl; have := (sc rfl).1; subst this; rw [hnl] at h8; cases h8
          subst e11
          refine wpOp_step rfl (fun K hK => ?_)
          go_simp
          refine hK _ _ ⟨l0, l1, l2, l3, l4, l5, l6, l7, true, l9, l10, false, x34, x35, x36, x37, x38, x39, x7, x8, _, ⟨(getD_other (by decide) _).trans h0, (getD_other (by decide) _).trans h1, (getD_other (by decide) _).trans h2, (getD_other (by decide) _).trans h3, (getD_other (by decide) _).trans h4, (getD_other (by decide) _).trans h5, (getD_other (by decide) _).trans h6, (getD_other (by decide) _).trans h7, getD_same (by rw [hn]; decide) _, (getD_other (by decide) _).trans h9, (getD_other (by decide) _).trans h10, (getD_other (by decide) _).trans h11⟩, by simp only [Act.put, List.setIfInBounds_toArray, List.set_cons_zero, List.set_cons_succ], i0, i1, i2, i3, i4, (fun h => by obtain ⟨pC, aC, nC, kC, e1, e2⟩ := i5 h; exact ⟨pC, aC, nC, kC, e1, e2.allocI _⟩), (qa.alloc _), (qb.alloc _), (fun _ => ⟨_, _, _, _, _, rfl, hW.size, Bx.new _ _ _ _, (fun h => by cases h)⟩), sa, sb, (fun h => by cases h), dab, (fun h _ => qa.ne h), (fun h _ => qb.ne h), (hW.alloc hW.size _)⟩
        · -- operation 9
          have k6 := hdp 6 (List.elem_iff.1 (by kernel_rfl)); rw [h6] at k6; subst k6
          have k1 := hdp 1 (List.elem_iff.1 (by kernel_rfl)); rw [h1] at k1; subst k1
          obtain rfl := i1 rfl
          obtain ⟨gx, b0, e0', n0', k0', rfl, hgx, hbx, hst⟩ := qa rfl
          have r0 := hbx.c0
          have r1 := hbx.c1
          have z0 := hbx.f 0
          have z1 := hbx.f 1
          refine wpOp_step rfl (fun K hK => ?_)
          go_simp
          refine hK _ _ ⟨l0, true, l2, l3, l4, l5, true, l7, l8, true, l10, l11, x34, .agg #[.bool p, .slice a0 n0 j0], x36, x37, x38, x39, _, x8, x9, ⟨(getD_other (by decide) _).trans h0, (getD_other (by decide) _).trans h1, (getD_other (by decide) _).trans h2, (getD_other (by decide) _).trans h3, (getD_other (by decide) _).trans h4, (getD_other (by decide) _).trans h5, (getD_other (by decide) _).trans h6, (getD_other (by decide) _).trans h7, (getD_other (by decide) _).trans h8, getD_same (by rw [hn]; decide) _, (getD_other (by decide) _).trans h10, (getD_other (by decide) _).trans h11⟩, by simp only [Act.put, List.setIfInBounds_toArray, List.set_cons_zero, List.set_cons_succ], i0, (fun _ => rfl), i2, i3, i4, (fun h => by obtain ⟨pC, aC, nC, kC, e1, e2⟩ := i5 h; exact ⟨pC, aC, nC, kC, e1, e2.put hbx _ _ _ _⟩), (fun _ => ⟨_, _, _, _, _, rfl, hgx, hbx.putP _ _, fun _ => rfl⟩), (qb.far (fun h e => dab rfl h e.symm) _ _), (qc.far (fun h e => dac rfl h e.symm) _ _), (fun _ => ⟨rfl, rfl⟩), sb, sc, dab, dac, dbc, ((hW.setCell hgx _).setCell hgx _)⟩
        · -- operation 10
          have k7 := hdp 7 (List.elem_iff.1 (by kernel_rfl)); rw [h7] at k7; subst k7
          have k3 := hdp 3 (List.elem_iff.1 (by kernel_rfl)); rw [h3] at k3; subst k3
          obtain rfl := i3 rfl
          obtain ⟨gx, b0, e0', n0', k0', rfl, hgx, hbx, hst⟩ := qb rfl
          have r0 := hbx.c0
          have r1 := hbx.c1
          have z0 := hbx.f 0
          have z1 := hbx.f 1
          refine wpOp_step rfl (fun K hK => ?_)
          go_simp
          refine hK _ _ ⟨l0, l1, l2, true, l4, l5, l6, true, l8, l9, true, l11, x34, x35, x36, .agg #[.bool p', .slice a1 n1 j1], x38, x39, x7, _, x9, ⟨(getD_other (by decide) _).trans h0, (getD_other (by decide) _).trans h1, (getD_other (by decide) _).trans h2, (getD_other (by decide) _).trans h3, (getD_other (by decide) _).trans h4, (getD_other (by decide) _).trans h5, (getD_other (by decide) _).trans h6, (getD_other (by decide) _).trans h7, (getD_other (by decide) _).trans h8, (getD_other (by decide) _).trans h9, getD_same (by rw [hn]; decide) _, (getD_other (by decide) _).trans h11⟩, by simp only [Act.put, List.setIfInBounds_toArray, List.set_cons_zero, List.set_cons_succ], i0, i1, i2, (fun _ => rfl), i4, (fun h => by obtain ⟨pC, aC, nC, kC, e1, e2⟩ := i5 h; exact ⟨pC, aC, nC, kC, e1, e2.put hbx _ _ _ _⟩), (qa.far (fun h e => dab h rfl e) _ _), (fun _ => ⟨_, _, _, _, _, rfl, hgx, hbx.putP _ _, fun _ => rfl⟩), (qc.far (fun h e => dbc rfl h e.symm) _ _), sa, (fun _ => ⟨rfl, rfl⟩), sc, dab, dac, dbc, ((hW.setCell hgx _).setCell hgx _)⟩
        · -- operation 11
          have k8 := hdp 8 (List.elem_iff.1 (by kernel_rfl)); rw [h8] at k8; subst k8
          have k5 := hdp 5 (List.elem_iff.1 (by kernel_rfl)); rw [h5] at k5; subst k5
          obtain ⟨pC, aC, nC, kC, rfl, LC⟩ := i5 rfl
          obtain ⟨gx, b0, e0', n0', k0', rfl, hgx, hbx, hst⟩ := qc rfl
          have r0 := hbx.c0
          have r1 := hbx.c1
          have z0 := hbx.f 0
          have z1 := hbx.f 1
          refine wpOp_step rfl (fun K hK => ?_)
          go_simp
          refine hK _ _ ⟨l0, l1, l2, l3, l4, true, l6, l7, true, l9, l10, true, x34, x35, x36, x37, x38, _, x7, x8, _, ⟨(getD_other (by decide) _).trans h0, (getD_other (by decide) _).trans h1, (getD_other (by decide) _).trans h2, (getD_other (by decide) _).trans h3, (getD_other (by decide) _).trans h4, (getD_other (by decide) _).trans h5, (getD_other (by decide) _).trans h6, (getD_other (by decide) _).trans h7, (getD_other (by decide) _).trans h8, (getD_other (by decide) _).trans h9, (getD_other (by decide) _).trans h10, getD_same (by rw [hn]; decide) _⟩, by simp only [Act.put, List.setIfInBounds_toArray, List.set_cons_zero, List.set_cons_succ], i0, i1, i2, i3, i4, (fun _ => ⟨pC, aC, nC, kC, rfl, LC.put hbx _ _ _ _⟩), (qa.far (fun h e => dac h rfl e) _ _), (qb.far (fun h e => dbc h rfl e) _ _), (fun _ => ⟨_, _, _, _, _, rfl, hgx, hbx.putP _ _, fun _ => rfl⟩), sa, sb, (fun _ => ⟨rfl, rfl⟩), dab, dac, dbc, ((hW.setCell hgx _).setCell hgx _)⟩
      · rintro listed a' w' ⟨l0, l1, l2, l3, l4, l5, l6, l7, l8, l9, l10, l11, x34, x35, x36, x37, x38, x39, x7, x8, x9, ⟨h0, h1, h2, h3, h4, h5, h6, h7, h8, h9, h10, h11⟩, rfl, i0, i1, i2, i3, i4, i5, qa, qb, qc, sa, sb, sc, dab, dac, dbc, hW⟩ hall
        have k0 := hall 0 (by decide)
        rw [h0] at k0
        subst k0
        have k1 := hall 1 (by decide)
        rw [h1] at k1
        subst k1
        have k2 := hall 2 (by decide)
        rw [h2] at k2
        subst k2
        have k3 := hall 3 (by decide)
        rw [h3] at k3
        subst k3
        have k4 := hall 4 (by decide)
        rw [h4] at k4
        subst k4
        have k5 := hall 5 (by decide)
        rw [h5] at k5
        subst k5
        have k6 := hall 6 (by decide)
        rw [h6] at k6
        subst k6
        have k7 := hall 7 (by decide)
        rw [h7] at k7
        subst k7
        have k8 := hall 8 (by decide)
        rw [h8] at k8
        subst k8
        have k9 := hall 9 (by decide)
        rw [h9] at k9
        subst k9
        have k10 := hall 10 (by decide)
        rw [h10] at k10
        subst k10
        have k11 := hall 11 (by decide)
        rw [h11] at k11
        subst k11
        obtain rfl := i1 rfl
        obtain rfl := i3 rfl
        obtain ⟨pC, aC, nC, kC, rfl, LC⟩ := i5 rfl
        obtain ⟨ga, _, _, _, _, rfl, hga, ba, ea⟩ := qa rfl
        obtain ⟨gb, _, _, _, _, rfl, hgb, bb, eb⟩ := qb rfl
        obtain ⟨gc, _, _, _, _, rfl, hgc, bc, ec⟩ := qc rfl
        have ea' := ea rfl
        have eb' := eb rfl
        have ec' := ec rfl
        simp only [Value.agg.injEq, Array.mk.injEq, List.cons.injEq, Value.bool.injEq, Value.slice.injEq, and_true] at ea' eb' ec'
        obtain ⟨rfl, rfl, rfl, rfl⟩ := ea'
        obtain ⟨rfl, rfl, rfl, rfl⟩ := eb'
        obtain ⟨rfl, rfl, rfl, rfl⟩ := ec'
        have hab : ga ≠ gb := fun e => dab rfl rfl (by rw [e])
        have hac : ga ≠ gc := fun e => dac rfl rfl (by rw [e])
        have hbc : gb ≠ gc := fun e => dbc rfl rfl (by rw [e])
        clear hall
        go_wp2_with fail
        go_meet
        exact ⟨ga, gb, gc, _, _, _, _, rfl, rfl, rfl, rfl, rfl, rfl, rfl, rfl, rfl, rfl, ba, bb, bc, LC, ⟨hga, hgb, hgc⟩, ⟨hab, hac, hbc⟩, hW⟩
    case rest =>
      obtain ⟨gbA, gbB, gbC, pC, aC, nC, kC, rfl, rfl, rfl, rfl, rfl, rfl, rfl, rfl, rfl, rfl, bA, bB, bC, LC, ⟨hga, hgb, hgc⟩, ⟨ltbAbB, ltbAbC, ltbBbC⟩, hX⟩ := hcut
      replace PB := PB.keep hX
      replace LX := LX.keep hX
      replace LY := LY.keep hX
      replace WD := WD.keep hX
      replace e0 := lkeep hX e0
      replace e1 := lkeep hX e1
      replace e2 := lkeep hX e2
      have hB := hB1.trans (hX.mono hB1.size)
      clear hX hga hgb hgc hB1 d0 d1 d2 d3 hSh
      have hfm := fac_math x y z
      have DG := Dl_gI x y 47 dx dy
      have G0 := gI_nonneg (x.natAbs : Int) (y.natAbs : Int)
      obtain ⟨gg, hgg⟩ : ∃ t, gI (x.natAbs : Int) (y.natAbs : Int) = t := ⟨_, rfl⟩
      rw [hgg] at hfm DG G0
      have Hg := Lib.hid hgg
      replace hfm := Lib.hid hfm
      obtain ⟨spX, snX⟩ := LX.nil
      obtain ⟨spY, snY⟩ := LY.nil
      replace snX := Lib.hid snX
      replace snY := Lib.hid snY
      clear hgg spX spY
      have rbA0 : wc.cell? ⟨gbA, 0, none⟩ = some (.bool p) := bA.c0
      have rbA1 : wc.cell? ⟨gbA, 1, none⟩ = some (.slice a0 n0 j0) := bA.c1
      have rbB0 : wc.cell? ⟨gbB, 0, none⟩ = some (.bool p') := bB.c0
      have rbB1 : wc.cell? ⟨gbB, 1, none⟩ = some (.slice a1 n1 j1) := bB.c1
      go_wp2_with fail
      clear rbA0 rbA1 rbB0 rbB1
      go_at_call 40
      refine (gcd_ok _ _ x y gg _ LX LY (by omega) (by omega) Hg.out).mono ?_
      rintro e u3 ⟨⟨pG, aGx, nGx, kGx, rfl, LG⟩, hb⟩
      have hk : Below wc.heap.size wc u3 := by (repeat (first | with_reducible exact Below.refl _ _ | with_reducible assumption | refine Below.alloc ?_ (by (try simp); try omega) _ | refine Below.setCell ?_ (by (try simp); try omega) _ | refine below_drewN ?_ _ | refine Below.drew ?_ | (with_reducible refine Below.trans ?_ (Below.mono (by assumption) (by (try simp); try omega)))))
      clear hb
      replace PB := PB.keep hk
      replace WD := WD.keep hk
      replace LX := LX.keep hk
      replace LY := LY.keep hk
      replace LC := LC.keep hk
      replace bA := bA.keep hk
      replace bB := bB.keep hk
      replace bC := bC.keep hk
      replace e0 := lkeep hk e0
      replace e1 := lkeep hk e1
      replace e2 := lkeep hk e2
      replace hB := hB.trans (hk.mono hB.size)
      clear hk
      obtain ⟨spG, snG⟩ := LG.nil
      have hpG : pG = false := by rw [spG]; simp; omega
      subst hpG
      clear spG snG
      by_cases hxy : x = 0 ∧ y = 0
      · obtain ⟨rfl, rfl⟩ := hxy
        replace snX := snX.out
        replace snY := snY.out
        rw [Dl_zero] at snX snY
        subst snX snY
        have hgz : gg = 0 := by have := Hg.out; rw [show (((0 : Int).natAbs : Nat) : Int) = 0 from rfl, gI_zero (by omega)] at this; exact this.symm
        subst hgz
        go_upto_region 10 with fail
        have hX : Below u3.heap.size u3 (u3.alloc (.cells #[.bool false, .slice aGx nGx kGx] 24)) := by (repeat (first | with_reducible exact Below.refl _ _ | with_reducible assumption | refine Below.alloc ?_ (by (try simp); try omega) _ | refine Below.setCell ?_ (by (try simp); try omega) _ | refine below_drewN ?_ _ | refine Below.drew ?_ | (with_reducible refine Below.trans ?_ (Below.mono (by assumption) (by (try simp); try omega)))))
        have bG : Bx (u3.alloc (.cells #[.bool false, .slice aGx nGx kGx] 24)) (u3.heap.size) (.bool false) (.slice aGx nGx kGx) 24 := by exact (Bx.new u3 (.bool false) (.slice aGx nGx kGx) 24)
        have gebG : w.heap.size ≤ u3.heap.size := by have := hB.size; omega
        have ltbAbG : gbA < u3.heap.size := by have := bA.lt; omega
        have ltbBbG : gbB < u3.heap.size := by have := bB.lt; omega
        have ltbCbG : gbC < u3.heap.size := by have := bC.lt; omega
        replace PB := PB.keep hX
        replace WD := WD.keep hX
        replace LX := LX.keep hX
        replace LY := LY.keep hX
        replace LC := LC.keep hX
        replace LG := LG.keep hX
        replace bA := bA.keep hX
        replace bB := bB.keep hX
        replace bC := bC.keep hX
        replace e0 := lkeep hX e0
        replace e1 := lkeep hX e1
        replace e2 := lkeep hX e2
        replace hB := hB.trans (hX.mono hB.size)
        clear hX
        generalize (u3.alloc (.cells #[.bool false, .slice aGx nGx kGx] 24)) = v4 at *
        generalize u3.heap.size = gbG at *
        have rbA0 : v4.cell? ⟨gbA, 0, none⟩ = some (.bool p) := bA.c0
        have rbA1 : v4.cell? ⟨gbA, 1, none⟩ = some (.slice a0 0 j0) := bA.c1
        have rbB0 : v4.cell? ⟨gbB, 0, none⟩ = some (.bool p') := bB.c0
        have rbB1 : v4.cell? ⟨gbB, 1, none⟩ = some (.slice a1 0 j1) := bB.c1
        have rbG0 : v4.cell? ⟨gbG, 0, none⟩ = some (.bool false) := bG.c0
        have rbG1 : v4.cell? ⟨gbG, 1, none⟩ = some (.slice aGx nGx kGx) := bG.c1
        go_wp2_with fail
        clear rbA0 rbA1 rbB0 rbB1 rbG0 rbG1
        go_at_call 27
        refine (same_lg _ _ 0 _ LG (Lg.zero _) (by omega)).mono ?_
        rintro e u5 ⟨rfl, hb⟩
        have hk : Below v4.heap.size v4 u5 := by (repeat (first | with_reducible exact Below.refl _ _ | with_reducible assumption | refine Below.alloc ?_ (by (try simp); try omega) _ | refine Below.setCell ?_ (by (try simp); try omega) _ | refine below_drewN ?_ _ | refine Below.drew ?_ | (with_reducible refine Below.trans ?_ (Below.mono (by assumption) (by (try simp); try omega)))))
        clear hb
        replace PB := PB.keep hk
        replace WD := WD.keep hk
        replace LX := LX.keep hk
        replace LY := LY.keep hk
        replace LC := LC.keep hk
        replace LG := LG.keep hk
        replace bA := bA.keep hk
        replace bB := bB.keep hk
        replace bC := bC.keep hk
        replace bG := bG.keep hk
        replace e0 := lkeep hk e0
        replace e1 := lkeep hk e1
        replace e2 := lkeep hk e2
        replace hB := hB.trans (hk.mono hB.size)
        clear hk
        clear LX LY LC LG bA bB bC bG
        go_wp2
        go_ret
        exact ⟨rfl, hB⟩
      · obtain ⟨f1, f2, f3, f4, f5⟩ := hfm.out hxy
        replace snX := snX.out
        replace snY := snY.out
        have hsum : ¬ ((n0 : Int) + (n1 : Int) = 0) := by
          intro h
          have h1 : Dl x = 0 := by omega
          have h2 : Dl y = 0 := by omega
          refine hxy ⟨?_, ?_⟩
          · rcases (by omega : x = 0 ∨ x ≠ 0) with h | h
            · exact h
            · have := Dl_pos h; omega
          · rcases (by omega : y = 0 ∨ y ≠ 0) with h | h
            · exact h
            · have := Dl_pos h; omega
        have g0 : gg ≠ 0 := by omega
        have T1 := Dl_tdiv x gg
        have T2 := Dl_tdiv y gg
        have T3 := Dl_mul x z
        have T4 := Dl_mul y z
        have T5 := Dl_gI (x * z) (y * z) 50 (by omega) (by omega)
        rw [f5] at T5
        obtain ⟨qq, hqq⟩ : ∃ t, x.tdiv gg = t := ⟨_, rfl⟩
        obtain ⟨ss, hss⟩ : ∃ t, y.tdiv gg = t := ⟨_, rfl⟩
        obtain ⟨xx, hxx⟩ : ∃ t, x * z = t := ⟨_, rfl⟩
        obtain ⟨yy, hyy⟩ : ∃ t, y * z = t := ⟨_, rfl⟩
        obtain ⟨kk, hkk⟩ : ∃ t, gg * (z.natAbs : Int) = t := ⟨_, rfl⟩
        rw [hqq] at T1 f4
        rw [hss] at T2 f4
        rw [hxx] at T3 f5
        rw [hyy] at T4 f5
        rw [hkk] at T5 f5
        have Hhqq := Lib.hid hqq
        have Hhss := Lib.hid hss
        have Hhxx := Lib.hid hxx
        have Hhyy := Lib.hid hyy
        have Hhkk := Lib.hid hkk
        have Hf2 := Lib.hid f2
        have Hf3 := Lib.hid f3
        have Hf4 := Lib.hid f4
        have Hf5 := Lib.hid f5
        have hn0 : n0 ≤ 1000 := by omega
        have hn1 : n1 ≤ 1000 := by omega
        clear hqq hss hxx hyy hkk f2 f3 f4 f5 hxy hfm snX snY
        have D1 : Dl 1 ≤ 2 := Dl_two (by omega) (by omega)
        have hs1 : sx 1 = (⟨#[49]⟩ : ByteArray) := sx_of pt_one
        go_upto_region 10 with fail
        have hX : Below u3.heap.size u3 (u3.alloc (.cells #[.bool false, .slice aGx nGx kGx] 24)) := by (repeat (first | with_reducible exact Below.refl _ _ | with_reducible assumption | refine Below.alloc ?_ (by (try simp); try omega) _ | refine Below.setCell ?_ (by (try simp); try omega) _ | refine below_drewN ?_ _ | refine Below.drew ?_ | (with_reducible refine Below.trans ?_ (Below.mono (by assumption) (by (try simp); try omega)))))
        have bG : Bx (u3.alloc (.cells #[.bool false, .slice aGx nGx kGx] 24)) (u3.heap.size) (.bool false) (.slice aGx nGx kGx) 24 := by exact (Bx.new u3 (.bool false) (.slice aGx nGx kGx) 24)
        have gebG : w.heap.size ≤ u3.heap.size := by have := hB.size; omega
        have ltbAbG : gbA < u3.heap.size := by have := bA.lt; omega
        have ltbBbG : gbB < u3.heap.size := by have := bB.lt; omega
        have ltbCbG : gbC < u3.heap.size := by have := bC.lt; omega
        replace PB := PB.keep hX
        replace WD := WD.keep hX
        replace LX := LX.keep hX
        replace LY := LY.keep hX
        replace LC := LC.keep hX
        replace LG := LG.keep hX
        replace bA := bA.keep hX
        replace bB := bB.keep hX
        replace bC := bC.keep hX
        replace e0 := lkeep hX e0
        replace e1 := lkeep hX e1
        replace e2 := lkeep hX e2
        replace hB := hB.trans (hX.mono hB.size)
        clear hX
        generalize (u3.alloc (.cells #[.bool false, .slice aGx nGx kGx] 24)) = v4 at *
        generalize u3.heap.size = gbG at *
        have rbA0 : v4.cell? ⟨gbA, 0, none⟩ = some (.bool p) := bA.c0
        have rbA1 : v4.cell? ⟨gbA, 1, none⟩ = some (.slice a0 n0 j0) := bA.c1
        have rbB0 : v4.cell? ⟨gbB, 0, none⟩ = some (.bool p') := bB.c0
        have rbB1 : v4.cell? ⟨gbB, 1, none⟩ = some (.slice a1 n1 j1) := bB.c1
        have rbG0 : v4.cell? ⟨gbG, 0, none⟩ = some (.bool false) := bG.c0
        have rbG1 : v4.cell? ⟨gbG, 1, none⟩ = some (.slice aGx nGx kGx) := bG.c1
        go_wp2_with fail
        clear rbA0 rbA1 rbB0 rbB1 rbG0 rbG1
        go_at_call 38
        refine (div_okE _ _ x gg qq 0 _ LX LG (by omega) (by omega) g0 Hhqq.out Hf2.out).mono ?_
        rintro e u5 ⟨⟨pQ, aQx, nQx, kQx, pR, aRx, nRx, kRx, rfl, LQ, LR⟩, hb⟩
        have hk : Below v4.heap.size v4 u5 := by (repeat (first | with_reducible exact Below.refl _ _ | with_reducible assumption | refine Below.alloc ?_ (by (try simp); try omega) _ | refine Below.setCell ?_ (by (try simp); try omega) _ | refine below_drewN ?_ _ | refine Below.drew ?_ | (with_reducible refine Below.trans ?_ (Below.mono (by assumption) (by (try simp); try omega)))))
        clear hb
        replace PB := PB.keep hk
        replace WD := WD.keep hk
        replace LX := LX.keep hk
        replace LY := LY.keep hk
        replace LC := LC.keep hk
        replace LG := LG.keep hk
        replace bA := bA.keep hk
        replace bB := bB.keep hk
        replace bC := bC.keep hk
        replace bG := bG.keep hk
        replace e0 := lkeep hk e0
        replace e1 := lkeep hk e1
        replace e2 := lkeep hk e2
        replace hB := hB.trans (hk.mono hB.size)
        clear hk
        have hnR := LR.nil.2
        rw [Dl_zero] at hnR
        subst hnR
        have rbB0 : ((u5.alloc (.cells #[.bool pQ, .slice aQx nQx kQx] 24)).alloc (.cells #[.bool pR, .slice aRx 0 kRx] 24)).cell? ⟨gbB, 0, none⟩ = some (.bool p') := ((bB.alloc _).alloc _).c0
        have rbB1 : ((u5.alloc (.cells #[.bool pQ, .slice aQx nQx kQx] 24)).alloc (.cells #[.bool pR, .slice aRx 0 kRx] 24)).cell? ⟨gbB, 1, none⟩ = some (.slice a1 n1 j1) := ((bB.alloc _).alloc _).c1
        have rbG0 : ((u5.alloc (.cells #[.bool pQ, .slice aQx nQx kQx] 24)).alloc (.cells #[.bool pR, .slice aRx 0 kRx] 24)).cell? ⟨gbG, 0, none⟩ = some (.bool false) := ((bG.alloc _).alloc _).c0
        have rbG1 : ((u5.alloc (.cells #[.bool pQ, .slice aQx nQx kQx] 24)).alloc (.cells #[.bool pR, .slice aRx 0 kRx] 24)).cell? ⟨gbG, 1, none⟩ = some (.slice aGx nGx kGx) := ((bG.alloc _).alloc _).c1
        go_wp2_with fail
        clear rbB0 rbB1 rbG0 rbG1
        have hX : Below u5.heap.size u5 ((u5.alloc (.cells #[.bool pQ, .slice aQx nQx kQx] 24)).alloc (.cells #[.bool pR, .slice aRx 0 kRx] 24)) := by (repeat (first | with_reducible exact Below.refl _ _ | with_reducible assumption | refine Below.alloc ?_ (by (try simp); try omega) _ | refine Below.setCell ?_ (by (try simp); try omega) _ | refine below_drewN ?_ _ | refine Below.drew ?_ | (with_reducible refine Below.trans ?_ (Below.mono (by assumption) (by (try simp); try omega)))))
        have bQ : Bx ((u5.alloc (.cells #[.bool pQ, .slice aQx nQx kQx] 24)).alloc (.cells #[.bool pR, .slice aRx 0 kRx] 24)) (u5.heap.size) (.bool pQ) (.slice aQx nQx kQx) 24 := by exact ((Bx.new u5 (.bool pQ) (.slice aQx nQx kQx) 24).alloc _)
        have gebQ : w.heap.size ≤ u5.heap.size := by have := hB.size; omega
        have ltbAbQ : gbA < u5.heap.size := by have := bA.lt; omega
        have ltbBbQ : gbB < u5.heap.size := by have := bB.lt; omega
        have ltbCbQ : gbC < u5.heap.size := by have := bC.lt; omega
        have ltbGbQ : gbG < u5.heap.size := by have := bG.lt; omega
        have bR : Bx ((u5.alloc (.cells #[.bool pQ, .slice aQx nQx kQx] 24)).alloc (.cells #[.bool pR, .slice aRx 0 kRx] 24)) (u5.heap.size + 1) (.bool pR) (.slice aRx 0 kRx) 24 := by have := (Bx.new (u5.alloc (.cells #[.bool pQ, .slice aQx nQx kQx] 24)) (.bool pR) (.slice aRx 0 kRx) 24); simpa using this
        have gebR : w.heap.size ≤ u5.heap.size + 1 := by have := hB.size; omega
        have ltbAbR : gbA < u5.heap.size + 1 := by have := bA.lt; omega
        have ltbBbR : gbB < u5.heap.size + 1 := by have := bB.lt; omega
        have ltbCbR : gbC < u5.heap.size + 1 := by have := bC.lt; omega
        have ltbGbR : gbG < u5.heap.size + 1 := by have := bG.lt; omega
        replace PB := PB.keep hX
        replace WD := WD.keep hX
        replace LX := LX.keep hX
        replace LY := LY.keep hX
        replace LC := LC.keep hX
        replace LG := LG.keep hX
        replace LQ := LQ.keep hX
        replace LR := LR.keep hX
        replace bA := bA.keep hX
        replace bB := bB.keep hX
        replace bC := bC.keep hX
        replace bG := bG.keep hX
        replace e0 := lkeep hX e0
        replace e1 := lkeep hX e1
        replace e2 := lkeep hX e2
        replace hB := hB.trans (hX.mono hB.size)
        clear hX
        generalize ((u5.alloc (.cells #[.bool pQ, .slice aQx nQx kQx] 24)).alloc (.cells #[.bool pR, .slice aRx 0 kRx] 24)) = v6 at *
        generalize hg0 : u5.heap.size = gbQ at *
        generalize hg1 : gbQ + 1 = gbR at *
        have ltbQbR : gbQ < gbR := by omega
        clear hg0 hg1
        go_at_call 38
        refine (div_okE _ _ y gg ss 0 _ LY LG (by omega) (by omega) g0 Hhss.out Hf3.out).mono ?_
        rintro e u7 ⟨⟨pS, aSx, nSx, kSx, pU, aUx, nUx, kUx, rfl, LS, LU⟩, hb⟩
        have hk : Below v6.heap.size v6 u7 := by (repeat (first | with_reducible exact Below.refl _ _ | with_reducible assumption | refine Below.alloc ?_ (by (try simp); try omega) _ | refine Below.setCell ?_ (by (try simp); try omega) _ | refine below_drewN ?_ _ | refine Below.drew ?_ | (with_reducible refine Below.trans ?_ (Below.mono (by assumption) (by (try simp); try omega)))))
        clear hb
        replace PB := PB.keep hk
        replace WD := WD.keep hk
        replace LX := LX.keep hk
        replace LY := LY.keep hk
        replace LC := LC.keep hk
        replace LG := LG.keep hk
        replace LQ := LQ.keep hk
        replace LR := LR.keep hk
        replace bA := bA.keep hk
        replace bB := bB.keep hk
        replace bC := bC.keep hk
        replace bG := bG.keep hk
        replace bQ := bQ.keep hk
        replace bR := bR.keep hk
        replace e0 := lkeep hk e0
        replace e1 := lkeep hk e1
        replace e2 := lkeep hk e2
        replace hB := hB.trans (hk.mono hB.size)
        clear hk
        have hnU := LU.nil.2
        rw [Dl_zero] at hnU
        subst hnU
        have rbQ0 : ((u7.alloc (.cells #[.bool pS, .slice aSx nSx kSx] 24)).alloc (.cells #[.bool pU, .slice aUx 0 kUx] 24)).cell? ⟨gbQ, 0, none⟩ = some (.bool pQ) := ((bQ.alloc _).alloc _).c0
        have rbQ1 : ((u7.alloc (.cells #[.bool pS, .slice aSx nSx kSx] 24)).alloc (.cells #[.bool pU, .slice aUx 0 kUx] 24)).cell? ⟨gbQ, 1, none⟩ = some (.slice aQx nQx kQx) := ((bQ.alloc _).alloc _).c1
        go_wp2_with fail
        clear rbQ0 rbQ1
        have hX : Below u7.heap.size u7 ((u7.alloc (.cells #[.bool pS, .slice aSx nSx kSx] 24)).alloc (.cells #[.bool pU, .slice aUx 0 kUx] 24)) := by (repeat (first | with_reducible exact Below.refl _ _ | with_reducible assumption | refine Below.alloc ?_ (by (try simp); try omega) _ | refine Below.setCell ?_ (by (try simp); try omega) _ | refine below_drewN ?_ _ | refine Below.drew ?_ | (with_reducible refine Below.trans ?_ (Below.mono (by assumption) (by (try simp); try omega)))))
        have bS : Bx ((u7.alloc (.cells #[.bool pS, .slice aSx nSx kSx] 24)).alloc (.cells #[.bool pU, .slice aUx 0 kUx] 24)) (u7.heap.size) (.bool pS) (.slice aSx nSx kSx) 24 := by exact ((Bx.new u7 (.bool pS) (.slice aSx nSx kSx) 24).alloc _)
        have gebS : w.heap.size ≤ u7.heap.size := by have := hB.size; omega
        have ltbAbS : gbA < u7.heap.size := by have := bA.lt; omega
        have ltbBbS : gbB < u7.heap.size := by have := bB.lt; omega
        have ltbCbS : gbC < u7.heap.size := by have := bC.lt; omega
        have ltbGbS : gbG < u7.heap.size := by have := bG.lt; omega
        have ltbQbS : gbQ < u7.heap.size := by have := bQ.lt; omega
        have ltbRbS : gbR < u7.heap.size := by have := bR.lt; omega
        have bU : Bx ((u7.alloc (.cells #[.bool pS, .slice aSx nSx kSx] 24)).alloc (.cells #[.bool pU, .slice aUx 0 kUx] 24)) (u7.heap.size + 1) (.bool pU) (.slice aUx 0 kUx) 24 := by have := (Bx.new (u7.alloc (.cells #[.bool pS, .slice aSx nSx kSx] 24)) (.bool pU) (.slice aUx 0 kUx) 24); simpa using this
        have gebU : w.heap.size ≤ u7.heap.size + 1 := by have := hB.size; omega
        have ltbAbU : gbA < u7.heap.size + 1 := by have := bA.lt; omega
        have ltbBbU : gbB < u7.heap.size + 1 := by have := bB.lt; omega
        have ltbCbU : gbC < u7.heap.size + 1 := by have := bC.lt; omega
        have ltbGbU : gbG < u7.heap.size + 1 := by have := bG.lt; omega
        have ltbQbU : gbQ < u7.heap.size + 1 := by have := bQ.lt; omega
        have ltbRbU : gbR < u7.heap.size + 1 := by have := bR.lt; omega
        replace PB := PB.keep hX
        replace WD := WD.keep hX
        replace LX := LX.keep hX
        replace LY := LY.keep hX
        replace LC := LC.keep hX
        replace LG := LG.keep hX
        replace LQ := LQ.keep hX
        replace LR := LR.keep hX
        replace LS := LS.keep hX
        replace LU := LU.keep hX
        replace bA := bA.keep hX
        replace bB := bB.keep hX
        replace bC := bC.keep hX
        replace bG := bG.keep hX
        replace bQ := bQ.keep hX
        replace bR := bR.keep hX
        replace e0 := lkeep hX e0
        replace e1 := lkeep hX e1
        replace e2 := lkeep hX e2
        replace hB := hB.trans (hX.mono hB.size)
        clear hX
        generalize ((u7.alloc (.cells #[.bool pS, .slice aSx nSx kSx] 24)).alloc (.cells #[.bool pU, .slice aUx 0 kUx] 24)) = v8 at *
        generalize hg0 : u7.heap.size = gbS at *
        generalize hg1 : gbS + 1 = gbU at *
        have ltbSbU : gbS < gbU := by omega
        clear hg0 hg1
        go_at_call 40
        refine (gcd_ok _ _ qq ss 1 _ LQ LS (by omega) (by omega) Hf4.out).mono ?_
        rintro e u9 ⟨⟨pO, aOx, nOx, kOx, rfl, LO⟩, hb⟩
        have hk : Below v8.heap.size v8 u9 := by (repeat (first | with_reducible exact Below.refl _ _ | with_reducible assumption | refine Below.alloc ?_ (by (try simp); try omega) _ | refine Below.setCell ?_ (by (try simp); try omega) _ | refine below_drewN ?_ _ | refine Below.drew ?_ | (with_reducible refine Below.trans ?_ (Below.mono (by assumption) (by (try simp); try omega)))))
        clear hb
        replace PB := PB.keep hk
        replace WD := WD.keep hk
        replace LX := LX.keep hk
        replace LY := LY.keep hk
        replace LC := LC.keep hk
        replace LG := LG.keep hk
        replace LQ := LQ.keep hk
        replace LR := LR.keep hk
        replace LS := LS.keep hk
        replace LU := LU.keep hk
        replace bA := bA.keep hk
        replace bB := bB.keep hk
        replace bC := bC.keep hk
        replace bG := bG.keep hk
        replace bQ := bQ.keep hk
        replace bR := bR.keep hk
        replace bS := bS.keep hk
        replace bU := bU.keep hk
        replace e0 := lkeep hk e0
        replace e1 := lkeep hk e1
        replace e2 := lkeep hk e2
        replace hB := hB.trans (hk.mono hB.size)
        clear hk
        clear LQ LS bQ bS LR LU
        go_upto_region 15 with fail
        have hX : Below u9.heap.size u9 (u9.alloc (.cells #[.bool pO, .slice aOx nOx kOx] 24)) := by (repeat (first | with_reducible exact Below.refl _ _ | with_reducible assumption | refine Below.alloc ?_ (by (try simp); try omega) _ | refine Below.setCell ?_ (by (try simp); try omega) _ | refine below_drewN ?_ _ | refine Below.drew ?_ | (with_reducible refine Below.trans ?_ (Below.mono (by assumption) (by (try simp); try omega)))))
        have bO : Bx (u9.alloc (.cells #[.bool pO, .slice aOx nOx kOx] 24)) (u9.heap.size) (.bool pO) (.slice aOx nOx kOx) 24 := by exact (Bx.new u9 (.bool pO) (.slice aOx nOx kOx) 24)
        have gebO : w.heap.size ≤ u9.heap.size := by have := hB.size; omega
        have ltbAbO : gbA < u9.heap.size := by have := bA.lt; omega
        have ltbBbO : gbB < u9.heap.size := by have := bB.lt; omega
        have ltbCbO : gbC < u9.heap.size := by have := bC.lt; omega
        have ltbGbO : gbG < u9.heap.size := by have := bG.lt; omega
        have ltbRbO : gbR < u9.heap.size := by have := bR.lt; omega
        have ltbUbO : gbU < u9.heap.size := by have := bU.lt; omega
        replace PB := PB.keep hX
        replace WD := WD.keep hX
        replace LX := LX.keep hX
        replace LY := LY.keep hX
        replace LC := LC.keep hX
        replace LG := LG.keep hX
        replace LO := LO.keep hX
        replace bA := bA.keep hX
        replace bB := bB.keep hX
        replace bC := bC.keep hX
        replace bG := bG.keep hX
        replace bR := bR.keep hX
        replace bU := bU.keep hX
        replace e0 := lkeep hX e0
        replace e1 := lkeep hX e1
        replace e2 := lkeep hX e2
        replace hB := hB.trans (hX.mono hB.size)
        clear hX
        generalize (u9.alloc (.cells #[.bool pO, .slice aOx nOx kOx] 24)) = v10 at *
        generalize u9.heap.size = gbO at *
        go_region_held3 (fun w' => w'.cell? ⟨gbG, 0, none⟩ = some (.bool false) ∧ w'.cell? ⟨gbG, 1, none⟩ = some (.slice aGx nGx kGx) ∧ w'.cell? ⟨gbR, 0, none⟩ = some (.bool pR) ∧ w'.cell? ⟨gbR, 1, none⟩ = some (.slice aRx 0 kRx) ∧ w'.cell? ⟨gbU, 0, none⟩ = some (.bool pU) ∧ w'.cell? ⟨gbU, 1, none⟩ = some (.slice aUx 0 kUx) ∧ w'.cell? ⟨gbO, 0, none⟩ = some (.bool pO) ∧ w'.cell? ⟨gbO, 1, none⟩ = some (.slice aOx nOx kOx))
          (first | exact ⟨bG.c0, bG.c1, bR.c0, bR.c1, bU.c0, bU.c1, bO.c0, bO.c1⟩ | exact ⟨(bG.farP (by omega) _ _).c0, (bG.farP (by omega) _ _).c1, (bR.farP (by omega) _ _).c0, (bR.farP (by omega) _ _).c1, (bU.farP (by omega) _ _).c0, (bU.farP (by omega) _ _).c1, (bO.farP (by omega) _ _).c0, (bO.farP (by omega) _ _).c1⟩ | exact ⟨(bG.keep (by (repeat (first | with_reducible exact Below.refl _ _ | with_reducible assumption | refine Below.alloc ?_ (by (try simp); try omega) _ | refine Below.setCell ?_ (by (try simp); try omega) _ | refine below_drewN ?_ _ | refine Below.drew ?_ | (with_reducible refine Below.trans ?_ (Below.mono (by assumption) (by (try simp); try omega))))))).c0, (bG.keep (by (repeat (first | with_reducible exact Below.refl _ _ | with_reducible assumption | refine Below.alloc ?_ (by (try simp); try omega) _ | refine Below.setCell ?_ (by (try simp); try omega) _ | refine below_drewN ?_ _ | refine Below.drew ?_ | (with_reducible refine Below.trans ?_ (Below.mono (by assumption) (by (try simp); try omega))))))).c1, (bR.keep (by (repeat (first | with_reducible exact Below.refl _ _ | with_reducible assumption | refine Below.alloc ?_ (by (try simp); try omega) _ | refine Below.setCell ?_ (by (try simp); try omega) _ | refine below_drewN ?_ _ | refine Below.drew ?_ | (with_reducible refine Below.trans ?_ (Below.mono (by assumption) (by (try simp); try omega))))))).c0, (bR.keep (by (repeat (first | with_reducible exact Below.refl _ _ | with_reducible assumption | refine Below.alloc ?_ (by (try simp); try omega) _ | refine Below.setCell ?_ (by (try simp); try omega) _ | refine below_drewN ?_ _ | refine Below.drew ?_ | (with_reducible refine Below.trans ?_ (Below.mono (by assumption) (by (try simp); try omega))))))).c1, (bU.keep (by (repeat (first | with_reducible exact Below.refl _ _ | with_reducible assumption | refine Below.alloc ?_ (by (try simp); try omega) _ | refine Below.setCell ?_ (by (try simp); try omega) _ | refine below_drewN ?_ _ | refine Below.drew ?_ | (with_reducible refine Below.trans ?_ (Below.mono (by assumption) (by (try simp); try omega))))))).c0, (bU.keep (by (repeat (first | with_reducible exact Below.refl _ _ | with_reducible assumption | refine Below.alloc ?_ (by (try simp); try omega) _ | refine Below.setCell ?_ (by (try simp); try omega) _ | refine below_drewN ?_ _ | refine Below.drew ?_ | (with_reducible refine Below.trans ?_ (Below.mono (by assumption) (by (try simp); try omega))))))).c1, (bO.keep (by (repeat (first | with_reducible exact Below.refl _ _ | with_reducible assumption | refine Below.alloc ?_ (by (try simp); try omega) _ | refine Below.setCell ?_ (by (try simp); try omega) _ | refine below_drewN ?_ _ | refine Below.drew ?_ | (with_reducible refine Below.trans ?_ (Below.mono (by assumption) (by (try simp); try omega))))))).c0, (bO.keep (by (repeat (first | with_reducible exact Below.refl _ _ | with_reducible assumption | refine Below.alloc ?_ (by (try simp); try omega) _ | refine Below.setCell ?_ (by (try simp); try omega) _ | refine below_drewN ?_ _ | refine Below.drew ?_ | (with_reducible refine Below.trans ?_ (Below.mono (by assumption) (by (try simp); try omega))))))).c1⟩)
          (first | (go_at_call 55; (with_reducible refine (is_any _ _).mono ?_); rintro e uz ⟨bq, rfl, hq, hb⟩; (with_reducible (first | (replace hb := undrew3 (undrew3 hb)) | (replace hb := undrew3 hb) | skip)); replace PB := PB.keep hb; replace WD := WD.keep hb; replace LX := LX.keep hb; replace LY := LY.keep hb; replace LC := LC.keep hb; replace LG := LG.keep hb; replace LO := LO.keep hb; replace bA := bA.keep hb; replace bB := bB.keep hb; replace bC := bC.keep hb; replace bG := bG.keep hb; replace bR := bR.keep hb; replace bU := bU.keep hb; replace bO := bO.keep hb; replace e0 := lkeep hb e0; replace e1 := lkeep hb e1; replace e2 := lkeep hb e2; replace hB := hB.trans (hb.mono hB.size); clear hb) | (go_at_call 90; (with_reducible refine (is1_true _ 1 bq _ _ (by first | exact LO | exact LO.keep (by (repeat (first | with_reducible exact Below.refl _ _ | with_reducible assumption | refine Below.alloc ?_ (by (try simp); try omega) _ | refine Below.setCell ?_ (by (try simp); try omega) _ | refine below_drewN ?_ _ | refine Below.drew ?_ | (with_reducible refine Below.trans ?_ (Below.mono (by assumption) (by (try simp); try omega))))))) (by omega) (hP.keep (by (repeat (first | with_reducible exact Below.refl _ _ | with_reducible assumption | refine Below.alloc ?_ (by (try simp); try omega) _ | refine Below.setCell ?_ (by (try simp); try omega) _ | refine below_drewN ?_ _ | refine Below.drew ?_ | (with_reducible refine Below.trans ?_ (Below.mono (by assumption) (by (try simp); try omega))))))) (lkeep (by (repeat (first | with_reducible exact Below.refl _ _ | with_reducible assumption | refine Below.alloc ?_ (by (try simp); try omega) _ | refine Below.setCell ?_ (by (try simp); try omega) _ | refine below_drewN ?_ _ | refine Below.drew ?_ | (with_reducible refine Below.trans ?_ (Below.mono (by assumption) (by (try simp); try omega)))))) hq) hs1).mono ?_); rintro e uz ⟨rfl, hb⟩; (with_reducible (first | (replace hb := undrew3 (undrew3 hb)) | (replace hb := undrew3 hb) | skip)); replace PB := PB.keep hb; replace WD := WD.keep hb; replace LX := LX.keep hb; replace LY := LY.keep hb; replace LC := LC.keep hb; replace LG := LG.keep hb; replace LO := LO.keep hb; replace bA := bA.keep hb; replace bB := bB.keep hb; replace bC := bC.keep hb; replace bG := bG.keep hb; replace bR := bR.keep hb; replace bU := bU.keep hb; replace bO := bO.keep hb; replace e0 := lkeep hb e0; replace e1 := lkeep hb e1; replace e2 := lkeep hb e2; replace hB := hB.trans (hb.mono hB.size); clear hb))
        clear LO bO bR bU
        have rbA0 : uz.cell? ⟨gbA, 0, none⟩ = some (.bool p) := bA.c0
        have rbA1 : uz.cell? ⟨gbA, 1, none⟩ = some (.slice a0 n0 j0) := bA.c1
        have rbC0 : uz.cell? ⟨gbC, 0, none⟩ = some (.bool pC) := bC.c0
        have rbC1 : uz.cell? ⟨gbC, 1, none⟩ = some (.slice aC nC kC) := bC.c1
        go_wp2_with fail
        clear rbA0 rbA1 rbC0 rbC1
        go_at_call 36
        refine (mul_okE _ _ x z xx _ LX LC (by omega) (by omega) Hhxx.out (by omega)).mono ?_
        rintro e u11 ⟨⟨pP, aPx, nPx, kPx, rfl, LP⟩, hb⟩
        have hk : Below uz.heap.size uz u11 := by (repeat (first | with_reducible exact Below.refl _ _ | with_reducible assumption | refine Below.alloc ?_ (by (try simp); try omega) _ | refine Below.setCell ?_ (by (try simp); try omega) _ | refine below_drewN ?_ _ | refine Below.drew ?_ | (with_reducible refine Below.trans ?_ (Below.mono (by assumption) (by (try simp); try omega)))))
        clear hb
        replace PB := PB.keep hk
        replace WD := WD.keep hk
        replace LX := LX.keep hk
        replace LY := LY.keep hk
        replace LC := LC.keep hk
        replace LG := LG.keep hk
        replace bA := bA.keep hk
        replace bB := bB.keep hk
        replace bC := bC.keep hk
        replace bG := bG.keep hk
        replace e0 := lkeep hk e0
        replace e1 := lkeep hk e1
        replace e2 := lkeep hk e2
        replace hB := hB.trans (hk.mono hB.size)
        clear hk
        clear LX bA
        have rbB0 : (u11.alloc (.cells #[.bool pP, .slice aPx nPx kPx] 24)).cell? ⟨gbB, 0, none⟩ = some (.bool p') := (bB.alloc _).c0
        have rbB1 : (u11.alloc (.cells #[.bool pP, .slice aPx nPx kPx] 24)).cell? ⟨gbB, 1, none⟩ = some (.slice a1 n1 j1) := (bB.alloc _).c1
        have rbC0 : (u11.alloc (.cells #[.bool pP, .slice aPx nPx kPx] 24)).cell? ⟨gbC, 0, none⟩ = some (.bool pC) := (bC.alloc _).c0
        have rbC1 : (u11.alloc (.cells #[.bool pP, .slice aPx nPx kPx] 24)).cell? ⟨gbC, 1, none⟩ = some (.slice aC nC kC) := (bC.alloc _).c1
        go_wp2_with fail
        clear rbB0 rbB1 rbC0 rbC1
        have hX : Below u11.heap.size u11 (u11.alloc (.cells #[.bool pP, .slice aPx nPx kPx] 24)) := by (repeat (first | with_reducible exact Below.refl _ _ | with_reducible assumption | refine Below.alloc ?_ (by (try simp); try omega) _ | refine Below.setCell ?_ (by (try simp); try omega) _ | refine below_drewN ?_ _ | refine Below.drew ?_ | (with_reducible refine Below.trans ?_ (Below.mono (by assumption) (by (try simp); try omega)))))
        have bP : Bx (u11.alloc (.cells #[.bool pP, .slice aPx nPx kPx] 24)) (u11.heap.size) (.bool pP) (.slice aPx nPx kPx) 24 := by exact (Bx.new u11 (.bool pP) (.slice aPx nPx kPx) 24)
        have gebP : w.heap.size ≤ u11.heap.size := by have := hB.size; omega
        have ltbBbP : gbB < u11.heap.size := by have := bB.lt; omega
        have ltbCbP : gbC < u11.heap.size := by have := bC.lt; omega
        have ltbGbP : gbG < u11.heap.size := by have := bG.lt; omega
        replace PB := PB.keep hX
        replace WD := WD.keep hX
        replace LY := LY.keep hX
        replace LC := LC.keep hX
        replace LG := LG.keep hX
        replace LP := LP.keep hX
        replace bB := bB.keep hX
        replace bC := bC.keep hX
        replace bG := bG.keep hX
        replace e0 := lkeep hX e0
        replace e1 := lkeep hX e1
        replace e2 := lkeep hX e2
        replace hB := hB.trans (hX.mono hB.size)
        clear hX
        generalize (u11.alloc (.cells #[.bool pP, .slice aPx nPx kPx] 24)) = v12 at *
        generalize u11.heap.size = gbP at *
        go_at_call 36
        refine (mul_okE _ _ y z yy _ LY LC (by omega) (by omega) Hhyy.out (by omega)).mono ?_
        rintro e u13 ⟨⟨pV, aVx, nVx, kVx, rfl, LV⟩, hb⟩
        have hk : Below v12.heap.size v12 u13 := by (repeat (first | with_reducible exact Below.refl _ _ | with_reducible assumption | refine Below.alloc ?_ (by (try simp); try omega) _ | refine Below.setCell ?_ (by (try simp); try omega) _ | refine below_drewN ?_ _ | refine Below.drew ?_ | (with_reducible refine Below.trans ?_ (Below.mono (by assumption) (by (try simp); try omega)))))
        clear hb
        replace PB := PB.keep hk
        replace WD := WD.keep hk
        replace LY := LY.keep hk
        replace LC := LC.keep hk
        replace LG := LG.keep hk
        replace LP := LP.keep hk
        replace bB := bB.keep hk
        replace bC := bC.keep hk
        replace bG := bG.keep hk
        replace bP := bP.keep hk
        replace e0 := lkeep hk e0
        replace e1 := lkeep hk e1
        replace e2 := lkeep hk e2
        replace hB := hB.trans (hk.mono hB.size)
        clear hk
        clear LY bB
        have rbP0 : (u13.alloc (.cells #[.bool pV, .slice aVx nVx kVx] 24)).cell? ⟨gbP, 0, none⟩ = some (.bool pP) := (bP.alloc _).c0
        have rbP1 : (u13.alloc (.cells #[.bool pV, .slice aVx nVx kVx] 24)).cell? ⟨gbP, 1, none⟩ = some (.slice aPx nPx kPx) := (bP.alloc _).c1
        go_wp2_with fail
        clear rbP0 rbP1
        have hX : Below u13.heap.size u13 (u13.alloc (.cells #[.bool pV, .slice aVx nVx kVx] 24)) := by (repeat (first | with_reducible exact Below.refl _ _ | with_reducible assumption | refine Below.alloc ?_ (by (try simp); try omega) _ | refine Below.setCell ?_ (by (try simp); try omega) _ | refine below_drewN ?_ _ | refine Below.drew ?_ | (with_reducible refine Below.trans ?_ (Below.mono (by assumption) (by (try simp); try omega)))))
        have bV : Bx (u13.alloc (.cells #[.bool pV, .slice aVx nVx kVx] 24)) (u13.heap.size) (.bool pV) (.slice aVx nVx kVx) 24 := by exact (Bx.new u13 (.bool pV) (.slice aVx nVx kVx) 24)
        have gebV : w.heap.size ≤ u13.heap.size := by have := hB.size; omega
        have ltbCbV : gbC < u13.heap.size := by have := bC.lt; omega
        have ltbGbV : gbG < u13.heap.size := by have := bG.lt; omega
        have ltbPbV : gbP < u13.heap.size := by have := bP.lt; omega
        replace PB := PB.keep hX
        replace WD := WD.keep hX
        replace LC := LC.keep hX
        replace LG := LG.keep hX
        replace LP := LP.keep hX
        replace LV := LV.keep hX
        replace bC := bC.keep hX
        replace bG := bG.keep hX
        replace bP := bP.keep hX
        replace e0 := lkeep hX e0
        replace e1 := lkeep hX e1
        replace e2 := lkeep hX e2
        replace hB := hB.trans (hX.mono hB.size)
        clear hX
        generalize (u13.alloc (.cells #[.bool pV, .slice aVx nVx kVx] 24)) = v14 at *
        generalize u13.heap.size = gbV at *
        go_at_call 40
        refine (gcd_ok _ _ xx yy kk _ LP LV (by omega) (by omega) Hf5.out).mono ?_
        rintro e u15 ⟨⟨pK, aKx, nKx, kKx, rfl, LK⟩, hb⟩
        have hk : Below v14.heap.size v14 u15 := by (repeat (first | with_reducible exact Below.refl _ _ | with_reducible assumption | refine Below.alloc ?_ (by (try simp); try omega) _ | refine Below.setCell ?_ (by (try simp); try omega) _ | refine below_drewN ?_ _ | refine Below.drew ?_ | (with_reducible refine Below.trans ?_ (Below.mono (by assumption) (by (try simp); try omega)))))
        clear hb
        replace PB := PB.keep hk
        replace WD := WD.keep hk
        replace LC := LC.keep hk
        replace LG := LG.keep hk
        replace LP := LP.keep hk
        replace LV := LV.keep hk
        replace bC := bC.keep hk
        replace bG := bG.keep hk
        replace bP := bP.keep hk
        replace bV := bV.keep hk
        replace e0 := lkeep hk e0
        replace e1 := lkeep hk e1
        replace e2 := lkeep hk e2
        replace hB := hB.trans (hk.mono hB.size)
        clear hk
        clear LP LV bP bV
        go_upto_region 20 with fail
        have hX : Below u15.heap.size u15 (u15.alloc (.cells #[.bool pK, .slice aKx nKx kKx] 24)) := by (repeat (first | with_reducible exact Below.refl _ _ | with_reducible assumption | refine Below.alloc ?_ (by (try simp); try omega) _ | refine Below.setCell ?_ (by (try simp); try omega) _ | refine below_drewN ?_ _ | refine Below.drew ?_ | (with_reducible refine Below.trans ?_ (Below.mono (by assumption) (by (try simp); try omega)))))
        have bK : Bx (u15.alloc (.cells #[.bool pK, .slice aKx nKx kKx] 24)) (u15.heap.size) (.bool pK) (.slice aKx nKx kKx) 24 := by exact (Bx.new u15 (.bool pK) (.slice aKx nKx kKx) 24)
        have gebK : w.heap.size ≤ u15.heap.size := by have := hB.size; omega
        have ltbCbK : gbC < u15.heap.size := by have := bC.lt; omega
        have ltbGbK : gbG < u15.heap.size := by have := bG.lt; omega
        replace PB := PB.keep hX
        replace WD := WD.keep hX
        replace LC := LC.keep hX
        replace LG := LG.keep hX
        replace LK := LK.keep hX
        replace bC := bC.keep hX
        replace bG := bG.keep hX
        replace e0 := lkeep hX e0
        replace e1 := lkeep hX e1
        replace e2 := lkeep hX e2
        replace hB := hB.trans (hX.mono hB.size)
        clear hX
        generalize (u15.alloc (.cells #[.bool pK, .slice aKx nKx kKx] 24)) = v16 at *
        generalize u15.heap.size = gbK at *
        have ubG := bG.lt
        have ubC := bC.lt
        have ubK := bK.lt
        have hzz : Dl (z.natAbs : Int) ≤ 3 := Nat.le_trans (Dl_mono (by omega)) hz
        go_cut [11, 16, 18, 21, 22, 23, 24, 25, 26, 27, 28, 29, 30] from 21 (fun y11 y16 y18 y21 y22 y23 y24 y25 y26 y27 y28 y29 y30 wx => ∃ (gM : Nat) (pM : Bool) (aMx : Option Addr) (nMx kMx : Nat), y11 = .int .i64 0 ∧ y16 = .int .i64 0 ∧ y18 = .int .i64 0 ∧ y21 = .pointer (some ⟨gbK, 0, none⟩) ∧ y24 = .bool true ∧ y25 = .bool false ∧ y26 = .agg #[.bool b1, .slice q1 l1.length r1, .bool b2, .slice q2 l2.length r2, .bool b3, .int .u8 k3, .slice q3 m3.length r3, .bool b4, .int .u8 k4, .slice q4 m4.length r4] ∧ y27 = .slice (some ⟨B, 0, none⟩) 4 4 ∧ y28 = .slice (some ⟨B, 4, none⟩) 2 3 ∧ y29 = .int .i64 2 ∧ y30 = .int .i64 (k : Int) ∧ y23 = .int .i64 0 ∧ y22 = .pointer (some ⟨gM, 0, none⟩) ∧ Bx wx gM (.bool pM) (.slice aMx nMx kMx) 24 ∧ Lg wx (.agg #[.bool pM, .slice aMx nMx kMx]) kk ∧ v16.heap.size ≤ gM ∧ Below v16.heap.size v16 wx)
        case first =>
          have hU := Below.refl v16.heap.size v16
          have lw := hB.size
          clear PB WD LK bK e0 e1 e2
          go_region_held3 (fun w' => w'.cell? ⟨gbG, 0, none⟩ = some (.bool false) ∧ w'.cell? ⟨gbG, 1, none⟩ = some (.slice aGx nGx kGx) ∧ w'.cell? ⟨gbC, 0, none⟩ = some (.bool pC) ∧ w'.cell? ⟨gbC, 1, none⟩ = some (.slice aC nC kC))
            (first | exact ⟨bG.c0, bG.c1, bC.c0, bC.c1⟩ | exact ⟨(bG.farP (by omega) _ _).c0, (bG.farP (by omega) _ _).c1, (bC.farP (by omega) _ _).c0, (bC.farP (by omega) _ _).c1⟩ | exact ⟨(bG.keep (by (repeat (first | with_reducible exact Below.refl _ _ | with_reducible assumption | refine Below.alloc ?_ (by (try simp); try omega) _ | refine Below.setCell ?_ (by (try simp); try omega) _ | refine below_drewN ?_ _ | refine Below.drew ?_ | (with_reducible refine Below.trans ?_ (Below.mono (by assumption) (by (try simp); try omega))))))).c0, (bG.keep (by (repeat (first | with_reducible exact Below.refl _ _ | with_reducible assumption | refine Below.alloc ?_ (by (try simp); try omega) _ | refine Below.setCell ?_ (by (try simp); try omega) _ | refine below_drewN ?_ _ | refine Below.drew ?_ | (with_reducible refine Below.trans ?_ (Below.mono (by assumption) (by (try simp); try omega))))))).c1, (bC.keep (by (repeat (first | with_reducible exact Below.refl _ _ | with_reducible assumption | refine Below.alloc ?_ (by (try simp); try omega) _ | refine Below.setCell ?_ (by (try simp); try omega) _ | refine below_drewN ?_ _ | refine Below.drew ?_ | (with_reducible refine Below.trans ?_ (Below.mono (by assumption) (by (try simp); try omega))))))).c0, (bC.keep (by (repeat (first | with_reducible exact Below.refl _ _ | with_reducible assumption | refine Below.alloc ?_ (by (try simp); try omega) _ | refine Below.setCell ?_ (by (try simp); try omega) _ | refine below_drewN ?_ _ | refine Below.drew ?_ | (with_reducible refine Below.trans ?_ (Below.mono (by assumption) (by (try simp); try omega))))))).c1⟩)
            (first | (go_at_call 54; (with_reducible refine (size_num _ z _ (by first | exact LC | exact LC.keep (by (repeat (first | with_reducible exact Below.refl _ _ | with_reducible assumption | refine Below.alloc ?_ (by (try simp); try omega) _ | refine Below.setCell ?_ (by (try simp); try omega) _ | refine below_drewN ?_ _ | refine Below.drew ?_ | (with_reducible refine Below.trans ?_ (Below.mono (by assumption) (by (try simp); try omega)))))))).mono ?_); rintro e uz ⟨⟨pZ, aZ, nZ, kZ, rfl, LZ⟩, hb⟩; (with_reducible (first | (replace hb := undrew3 (undrew3 hb)) | (replace hb := undrew3 hb) | skip)); replace LC := LC.keep (w' := uz) (by (repeat (first | with_reducible exact Below.refl _ _ | with_reducible assumption | refine Below.alloc ?_ (by (try simp); try omega) _ | refine Below.setCell ?_ (by (try simp); try omega) _ | refine below_drewN ?_ _ | refine Below.drew ?_ | (with_reducible refine Below.trans ?_ (Below.mono (by assumption) (by (try simp); try omega)))))); replace LG := LG.keep (w' := uz) (by (repeat (first | with_reducible exact Below.refl _ _ | with_reducible assumption | refine Below.alloc ?_ (by (try simp); try omega) _ | refine Below.setCell ?_ (by (try simp); try omega) _ | refine below_drewN ?_ _ | refine Below.drew ?_ | (with_reducible refine Below.trans ?_ (Below.mono (by assumption) (by (try simp); try omega)))))); replace bG := bG.keep (w' := uz) (by (repeat (first | with_reducible exact Below.refl _ _ | with_reducible assumption | refine Below.alloc ?_ (by (try simp); try omega) _ | refine Below.setCell ?_ (by (try simp); try omega) _ | refine below_drewN ?_ _ | refine Below.drew ?_ | (with_reducible refine Below.trans ?_ (Below.mono (by assumption) (by (try simp); try omega)))))); replace bC := bC.keep (w' := uz) (by (repeat (first | with_reducible exact Below.refl _ _ | with_reducible assumption | refine Below.alloc ?_ (by (try simp); try omega) _ | refine Below.setCell ?_ (by (try simp); try omega) _ | refine below_drewN ?_ _ | refine Below.drew ?_ | (with_reducible refine Below.trans ?_ (Below.mono (by assumption) (by (try simp); try omega)))))); have lz := hb.size; (first | (replace nb := nb.keep hb) | (have nb := Bx.keep (Bx.new _ _ _ _) hb) | skip); (first | (have nb0 := nb.c0; have nb1 := nb.c1; have nb2 := nb.f 0; have nb3 := nb.f 1; have nb4 := nb.lt) | skip); have hB2 : Below w.heap.size w uz := (by (repeat (first | with_reducible exact Below.refl _ _ | with_reducible assumption | refine Below.alloc ?_ (by (try simp); try omega) _ | refine Below.setCell ?_ (by (try simp); try omega) _ | refine below_drewN ?_ _ | refine Below.drew ?_ | (with_reducible refine Below.trans ?_ (Below.mono (by assumption) (by (try simp); try omega)))))); clear hB; have hB := hB2; clear hB2; have lw := hB.size) | (go_at_call 36; (with_reducible refine (mul_okE _ _ gg (z.natAbs : Int) kk _ (by first | exact LG | exact LG.keep (by (repeat (first | with_reducible exact Below.refl _ _ | with_reducible assumption | refine Below.alloc ?_ (by (try simp); try omega) _ | refine Below.setCell ?_ (by (try simp); try omega) _ | refine below_drewN ?_ _ | refine Below.drew ?_ | (with_reducible refine Below.trans ?_ (Below.mono (by assumption) (by (try simp); try omega))))))) (by first | exact LZ | exact LZ.keep (by (repeat (first | with_reducible exact Below.refl _ _ | with_reducible assumption | refine Below.alloc ?_ (by (try simp); try omega) _ | refine Below.setCell ?_ (by (try simp); try omega) _ | refine below_drewN ?_ _ | refine Below.drew ?_ | (with_reducible refine Below.trans ?_ (Below.mono (by assumption) (by (try simp); try omega))))))) (by omega) (by omega) Hhkk.out (by omega)).mono ?_); rintro e uz ⟨⟨pM, aM, nM, kM, rfl, LM⟩, hb⟩; (with_reducible (first | (replace hb := undrew3 (undrew3 hb)) | (replace hb := undrew3 hb) | skip)); replace LC := LC.keep (w' := uz) (by (repeat (first | with_reducible exact Below.refl _ _ | with_reducible assumption | refine Below.alloc ?_ (by (try simp); try omega) _ | refine Below.setCell ?_ (by (try simp); try omega) _ | refine below_drewN ?_ _ | refine Below.drew ?_ | (with_reducible refine Below.trans ?_ (Below.mono (by assumption) (by (try simp); try omega)))))); replace LG := LG.keep (w' := uz) (by (repeat (first | with_reducible exact Below.refl _ _ | with_reducible assumption | refine Below.alloc ?_ (by (try simp); try omega) _ | refine Below.setCell ?_ (by (try simp); try omega) _ | refine below_drewN ?_ _ | refine Below.drew ?_ | (with_reducible refine Below.trans ?_ (Below.mono (by assumption) (by (try simp); try omega)))))); replace bG := bG.keep (w' := uz) (by (repeat (first | with_reducible exact Below.refl _ _ | with_reducible assumption | refine Below.alloc ?_ (by (try simp); try omega) _ | refine Below.setCell ?_ (by (try simp); try omega) _ | refine below_drewN ?_ _ | refine Below.drew ?_ | (with_reducible refine Below.trans ?_ (Below.mono (by assumption) (by (try simp); try omega)))))); replace bC := bC.keep (w' := uz) (by (repeat (first | with_reducible exact Below.refl _ _ | with_reducible assumption | refine Below.alloc ?_ (by (try simp); try omega) _ | refine Below.setCell ?_ (by (try simp); try omega) _ | refine below_drewN ?_ _ | refine Below.drew ?_ | (with_reducible refine Below.trans ?_ (Below.mono (by assumption) (by (try simp); try omega)))))); have lz := hb.size; (first | (replace nb := nb.keep hb) | (have nb := Bx.keep (Bx.new _ _ _ _) hb) | skip); (first | (have nb0 := nb.c0; have nb1 := nb.c1; have nb2 := nb.f 0; have nb3 := nb.f 1; have nb4 := nb.lt) | skip); have hB2 : Below w.heap.size w uz := (by (repeat (first | with_reducible exact Below.refl _ _ | with_reducible assumption | refine Below.alloc ?_ (by (try simp); try omega) _ | refine Below.setCell ?_ (by (try simp); try omega) _ | refine below_drewN ?_ _ | refine Below.drew ?_ | (with_reducible refine Below.trans ?_ (Below.mono (by assumption) (by (try simp); try omega)))))); clear hB; have hB := hB2; clear hB2; have lw := hB.size))
          all_goals (go_wp2_with fail; go_meet)
          all_goals clear hB
          · exact ⟨_, _, _, _, _, rfl, rfl, rfl, rfl, rfl, rfl, rfl, rfl, rfl, rfl, rfl, rfl, rfl, Bx.new _ _ _ _, LM.keep (by (repeat (first | with_reducible exact Below.refl _ _ | with_reducible assumption | refine Below.alloc ?_ (by (try simp); try omega) _ | refine Below.setCell ?_ (by (try simp); try omega) _ | refine below_drewN ?_ _ | refine Below.drew ?_ | (with_reducible refine Below.trans ?_ (Below.mono (by assumption) (by (try simp); try omega)))))), by omega, by (repeat (first | with_reducible exact Below.refl _ _ | with_reducible assumption | refine Below.alloc ?_ (by (try simp); try omega) _ | refine Below.setCell ?_ (by (try simp); try omega) _ | refine below_drewN ?_ _ | refine Below.drew ?_ | (with_reducible refine Below.trans ?_ (Below.mono (by assumption) (by (try simp); try omega)))))⟩
          · exact ⟨_, _, _, _, _, rfl, rfl, rfl, rfl, rfl, rfl, rfl, rfl, rfl, rfl, rfl, rfl, rfl, nb.putP _ _, LM.put nb _ _ _ _, by omega, by (repeat (first | with_reducible exact Below.refl _ _ | with_reducible assumption | refine Below.alloc ?_ (by (try simp); try omega) _ | refine Below.setCell ?_ (by (try simp); try omega) _ | refine below_drewN ?_ _ | refine Below.drew ?_ | (with_reducible refine Below.trans ?_ (Below.mono (by assumption) (by (try simp); try omega)))))⟩
          · exact ⟨_, _, _, _, _, rfl, rfl, rfl, rfl, rfl, rfl, rfl, rfl, rfl, rfl, rfl, rfl, rfl, nb.putP _ _, LM.put nb _ _ _ _, by omega, by (repeat (first | with_reducible exact Below.refl _ _ | with_reducible assumption | refine Below.alloc ?_ (by (try simp); try omega) _ | refine Below.setCell ?_ (by (try simp); try omega) _ | refine below_drewN ?_ _ | refine Below.drew ?_ | (with_reducible refine Below.trans ?_ (Below.mono (by assumption) (by (try simp); try omega)))))⟩
        case rest =>
          obtain ⟨gbM, pM, aMx, nMx, kMx, rfl, rfl, rfl, rfl, rfl, rfl, rfl, rfl, rfl, rfl, rfl, rfl, rfl, bM, LM, hgM, hX⟩ := hcut
          replace PB := PB.keep hX
          replace WD := WD.keep hX
          replace LC := LC.keep hX
          replace LG := LG.keep hX
          replace LK := LK.keep hX
          replace bC := bC.keep hX
          replace bG := bG.keep hX
          replace bK := bK.keep hX
          replace e0 := lkeep hX e0
          replace e1 := lkeep hX e1
          replace e2 := lkeep hX e2
          replace hB := hB.trans (hX.mono hB.size)
          clear hX
          have ltbKbM : gbK < gbM := by omega
          clear hgM ubG ubC ubK
          clear LG LC bG bC
          have rbK0 : wc.cell? ⟨gbK, 0, none⟩ = some (.bool pK) := bK.c0
          have rbK1 : wc.cell? ⟨gbK, 1, none⟩ = some (.slice aKx nKx kKx) := bK.c1
          have rbM0 : wc.cell? ⟨gbM, 0, none⟩ = some (.bool pM) := bM.c0
          have rbM1 : wc.cell? ⟨gbM, 1, none⟩ = some (.slice aMx nMx kMx) := bM.c1
          go_wp2_with fail
          clear rbK0 rbK1 rbM0 rbM1
          go_at_call 27
          refine (same_lg _ _ kk _ LK LM (by omega)).mono ?_
          rintro e u17 ⟨rfl, hb⟩
          have hk : Below wc.heap.size wc u17 := by (repeat (first | with_reducible exact Below.refl _ _ | with_reducible assumption | refine Below.alloc ?_ (by (try simp); try omega) _ | refine Below.setCell ?_ (by (try simp); try omega) _ | refine below_drewN ?_ _ | refine Below.drew ?_ | (with_reducible refine Below.trans ?_ (Below.mono (by assumption) (by (try simp); try omega)))))
          clear hb
          replace PB := PB.keep hk
          replace WD := WD.keep hk
          replace LK := LK.keep hk
          replace LM := LM.keep hk
          replace bK := bK.keep hk
          replace bM := bM.keep hk
          replace e0 := lkeep hk e0
          replace e1 := lkeep hk e1
          replace e2 := lkeep hk e2
          replace hB := hB.trans (hk.mono hB.size)
          clear hk
          clear LK LM bK bM
          go_wp2
          go_roundw
          case rel => exact ⟨k + 1, by simp, hk1, PB, WD, ⟨e0, e1, e2⟩, hB⟩
          case measure => simp [intOf]; omega
end Go.Proofs.YtoppdbgodceaiaaDoor
