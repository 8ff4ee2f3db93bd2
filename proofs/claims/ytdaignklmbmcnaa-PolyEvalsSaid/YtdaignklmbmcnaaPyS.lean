/-
  The reference: Scale by a whole number from 1 to 100.
-/
import Derived.Test.YtdaignklmbmcnaaPyQ
namespace Go.Proofs.Ytdaignklmbmcnaa
open Go.RowKit

theorem sc_ov (a n : Int) (_n0 : 1 ≤ n) : (ovF (a.natAbs : Int) n 1 = ((a.natAbs : Int) * n, false, true) ∧ (a.natAbs : Int) * n ≤ 4503599627370496) ∨ (ovF (a.natAbs : Int) n 1 = (0, false, false) ∧ 4503599627370496 < (a.natAbs : Int) * n) := by
  unfold ovF
  rw [Int.ediv_one, Int.emod_one]
  by_cases h : (a.natAbs : Int) * n ≤ 4503599627370496
  · left; rw [if_pos h]; exact ⟨rfl, h⟩
  · right; rw [if_neg h]; exact ⟨rfl, by omega⟩

set_option maxHeartbeats 1000000 in
theorem refScale1_any (a n : Int) (up ng : Bool) (w : World) (a0 : -4503599627370496 ≤ a) (a1 : a ≤ 4503599627370496) (n0 : 1 ≤ n) (n1 : n ≤ 100) (hn : ng = (decide (a < 0) != decide (n < 0))) :
    Calls Try.prog 74 #[.int .i64 a, .int .i64 n, .int .i64 1, .bool up] w fun e w' =>
      e = .returned (.tuple #[.int .i64 (putV ng ((a.natAbs : Int) * n)).1, .bool (putV ng ((a.natAbs : Int) * n)).2]) ∧ ∃ m, w' = w.drewN m := by
  have ho := fun w => over_ref (a.natAbs : Int) n 1 w (by omega) (by omega) (by omega) (by omega) (by omega) (by omega)
  have hsa := fun w => refSize_any a w (by omega) (by omega)
  have hsb := fun w => refSize_any n w (by omega) (by omega)
  have en : (n.natAbs : Int) = n := by omega
  rw [en] at hsb
  clear en
  have h2 : 0 ≤ (a.natAbs : Int) * n := Int.mul_nonneg (by omega) (by omega)
  rcases sc_ov a n n0 with ⟨h1, h3⟩ | ⟨h1, h3⟩
  · rw [h1] at ho
    generalize (a.natAbs : Int) * n = Q at *
    have hp := fun w => put_any ng false up Q Q w h2 h3 (by simp)
    dsimp only at ho
    clear h1
    obtain ⟨x, hx⟩ : ∃ x, decide (a < 0) = x := ⟨_, rfl⟩
    obtain ⟨y, hy⟩ : ∃ y, decide (n < 0) = y := ⟨_, rfl⟩
    rw [hx, hy] at hn
    subst hn
    go_enter Try.func74, Try.ntmps74
    go_wp2_with (first | (go_at_call 60; (first | (with_reducible refine (hsa _).mono ?_) | (with_reducible refine (hsb _).mono ?_)); rintro e w' ⟨rfl, rfl⟩) | (go_at_call 80; refine (ho _).mono ?_; rintro e w1 ⟨rfl, n, rfl⟩) | (go_at_call 61; refine (hp _).mono ?_; rintro e w' ⟨rfl, rfl⟩))
    go_ret2
    exact ⟨rfl, _, rfl⟩
  · rw [h1] at ho
    rw [show putV ng ((a.natAbs : Int) * n) = (0, false) by unfold putV; rw [if_pos h3]]
    dsimp only at ho
    clear h1 h2 h3 hn
    go_enter Try.func74, Try.ntmps74
    go_wp2_with (first | (go_at_call 60; (first | (with_reducible refine (hsa _).mono ?_) | (with_reducible refine (hsb _).mono ?_)); rintro e w' ⟨rfl, rfl⟩) | (go_at_call 80; refine (ho _).mono ?_; rintro e w1 ⟨rfl, n, rfl⟩))
    go_ret2
    exact ⟨rfl, _, rfl⟩

set_option maxHeartbeats 1000000 in
theorem refScaled_any (a n : Int) (up : Bool) (w : World) (a0 : -4503599627370496 ≤ a) (a1 : a ≤ 4503599627370496) (n0 : 1 ≤ n) (n1 : n ≤ 100) :
    Calls Try.prog 67 #[.int .i64 a, .int .i64 n, .int .i64 1, .bool up] w fun e w' => e = .returned (.tuple #[.int .i64 (lim (a * n)).1, .int .i64 (lim (a * n)).2]) ∧ ∃ m, w' = w.drewN m := by
  have hc := fun w => right_ok a w a0 a1
  have hQ : 0 ≤ (a.natAbs : Int) * n := Int.mul_nonneg (by omega) (by omega)
  have es : sgR (decide (a < 0) != decide (n < 0)) ((a.natAbs : Int) * n) = lim (a * n) := by
    rw [sgR_lim _ _ hQ]
    have hn : decide (n < 0) = false := by simp; omega
    rw [hn]
    by_cases h : a < 0
    · rw [show (a.natAbs : Int) = -a by omega]; simp [h, Int.neg_mul]
    · rw [show (a.natAbs : Int) = a by omega]; simp [h]
  have hd := fun w => refScale1_any a n up _ w a0 a1 n0 n1 rfl
  have ht := fun w => told_put (decide (a < 0) != decide (n < 0)) ((a.natAbs : Int) * n) w hQ
  rw [es] at ht
  generalize putV (decide (a < 0) != decide (n < 0)) ((a.natAbs : Int) * n) = pv at *
  generalize lim (a * n) = sv at *
  clear es hQ
  go_enter Try.func67, Try.ntmps67
  go_wp2_with (first | (go_at_call 59; refine (hc _).mono ?_; rintro e w' ⟨rfl, rfl⟩) | (go_at_call 74; refine (hd _).mono ?_; rintro e w1 ⟨rfl, n, rfl⟩) | (go_at_call 73; refine (ht _).mono ?_; rintro e w' ⟨rfl, rfl⟩))
  go_ret2
  exact ⟨rfl, _, rfl⟩
theorem refScaleDown_any (a n : Int) (w : World) (a0 : -4503599627370496 ≤ a) (a1 : a ≤ 4503599627370496) (n0 : 1 ≤ n) (n1 : n ≤ 100) :
    Calls Try.prog 52 #[.int .i64 a, .int .i64 n, .int .i64 1] w fun e w' => e = .returned (.tuple #[.int .i64 (lim (a * n)).1, .int .i64 (lim (a * n)).2]) ∧ Below w.heap.size w w' := by
  have h := fun w => refScaled_any a n false w a0 a1 n0 n1
  go_enter Try.func52, Try.ntmps52
  go_wp2_with (go_at_call 67; refine (h _).mono ?_; rintro e w1 ⟨rfl, n, rfl⟩)
  go_ret2
  exact ⟨rfl, by (repeat (first | with_reducible exact Below.refl _ _ | with_reducible assumption | refine Below.alloc ?_ (by (try simp); try omega) _ | refine Below.setCell ?_ (by (try simp); try omega) _ | refine below_drewN ?_ _ | refine Below.drew ?_ | (with_reducible refine Below.trans ?_ (Below.mono (by assumption) (by (try simp); try omega)))))⟩
theorem refScaleUp_any (a n : Int) (w : World) (a0 : -4503599627370496 ≤ a) (a1 : a ≤ 4503599627370496) (n0 : 1 ≤ n) (n1 : n ≤ 100) :
    Calls Try.prog 53 #[.int .i64 a, .int .i64 n, .int .i64 1] w fun e w' => e = .returned (.tuple #[.int .i64 (lim (a * n)).1, .int .i64 (lim (a * n)).2]) ∧ Below w.heap.size w w' := by
  have h := fun w => refScaled_any a n true w a0 a1 n0 n1
  go_enter Try.func53, Try.ntmps53
  go_wp2_with (go_at_call 67; refine (h _).mono ?_; rintro e w1 ⟨rfl, n, rfl⟩)
  go_ret2
  exact ⟨rfl, by (repeat (first | with_reducible exact Below.refl _ _ | with_reducible assumption | refine Below.alloc ?_ (by (try simp); try omega) _ | refine Below.setCell ?_ (by (try simp); try omega) _ | refine below_drewN ?_ _ | refine Below.drew ?_ | (with_reducible refine Below.trans ?_ (Below.mono (by assumption) (by (try simp); try omega)))))⟩

theorem res_false (l h : Int) (w : World) : Calls Try.prog 50 #[.int .i64 l, .int .i64 h, .bool false] w fun e w' => e = .returned (spV (0, 0, 6)) ∧ Below w.heap.size w w' := rResult_any l h false w
theorem res_true (l h : Int) (w : World) (k : ckS l h = 0) : Calls Try.prog 50 #[.int .i64 l, .int .i64 h, .bool true] w fun e w' => e = .returned (spV (l, h, 0)) ∧ Below w.heap.size w w' := by
  have e : resR l h true = (l, h, 0) := by unfold resR limS; rw [if_pos k]; rfl
  have := rResult_any l h true w
  rw [e] at this
  exact this

set_option maxHeartbeats 2000000 in
theorem refScale8_any (a b n : Int) (w : World) (k : ckS a b = 0) (n0 : 1 ≤ n) (n1 : n ≤ 100) :
    Calls Try.prog 34 #[.agg #[.int .i64 a, .int .i64 b], .int .i64 n, .int .i64 1] w fun e w' => e = .returned (spV (sScaleR a b n 1)) ∧ Below w.heap.size w w' := by
  have v := valS k
  have hr := fun w => rRight_ok a b k w
  have da := fun w => refScaleDown_any a n w (by omega) (by omega) n0 n1
  have db := fun w => refScaleDown_any b n w (by omega) (by omega) n0 n1
  have ua := fun w => refScaleUp_any a n w (by omega) (by omega) n0 n1
  have ub := fun w => refScaleUp_any b n w (by omega) (by omega) n0 n1
  have hm : a * n ≤ b * n := Int.mul_le_mul_of_nonneg_right v.2.1 (by omega)
  have hS := Lib.hid (show sScaleR a b n 1 = btw (lim (a * n)) (lim (b * n)) by
    have sn : ∀ (x : Int) (up : Bool), -4503599627370496 ≤ x → x ≤ 4503599627370496 → scaleR up x n 1 = lim (x * n) := fun x up x0 x1 => by
      obtain ⟨m, rfl⟩ : ∃ m : Nat, n = m := ⟨n.toNat, by omega⟩
      exact scale_num x0 x1 (by omega) up
    unfold sScaleR
    rw [if_pos k, if_neg (by omega), sn a false (by omega) (by omega), sn b true (by omega) (by omega)])
  have b0 := ((Below.refl w.heap.size w).alloc (Nat.le_refl _) (.cells #[.int .i64 a, .int .i64 b] 24)).alloc (by simp) (.cells #[.int .i64 0, .int .i64 0] 24)
  have k0 : RfC w.heap.size a b 0 0 ((w.alloc (.cells #[.int .i64 a, .int .i64 b] 24)).alloc (.cells #[.int .i64 0, .int .i64 0] 24)) := by
    refine ⟨⟨?_, ?_⟩, ⟨?_, ?_, ?_, ?_⟩⟩ <;> simp [go_sem]
  have hlim := lim_cases (a * n)
  have hlim' := lim_cases (b * n)
  generalize a * n = p at *
  generalize b * n = q at *
  have hmin : min p q = p := by omega
  have hmax : max p q = q := by omega
  clear k v
  rcases hlim with ⟨h, h0, h1⟩ | ⟨h, h0⟩ <;> rcases hlim' with ⟨h', h0', h1'⟩ | ⟨h', h0'⟩
  · have ht := fun w => res_true p q w (ckS_ok (by omega) hm (by omega))
    rw [h] at da ua hS
    rw [h'] at db ub hS
    have HS := Lib.hid (show sScaleR a b n 1 = (p, q, 0) from hS.out)
    dsimp only at da ua db ub
    clear h h' hS h0 h1 h0' h1'
    go_enter Try.func34, Try.ntmps34
    go_wp2_with fail
    go_at_call 46
    refine (hr _).mono ?_
    rintro e w1 ⟨rfl, hb1⟩
    have K1 := k0.keep hb1
    have B1 : Below w.heap.size w w1 := b0.trans (hb1.mono (by simp; omega))
    have l1 : w.heap.size + 1 < w1.heap.size := by have := hb1.size; simp at this; omega
    obtain ⟨⟨s10, s11⟩, ⟨z10, z11, f10, f11⟩⟩ := K1
    go_wp2_with fail
    go_at_call 52
    refine (da _).mono ?_
    rintro e w2 ⟨rfl, hb2⟩
    first | (replace hb2 := undrewQ hb2) | skip
    have K2 := RfC.keep (B := w.heap.size) (x := a) (y := b) (a := 0) (b := 0) ⟨⟨s10, s11⟩, ⟨z10, z11, f10, f11⟩⟩ hb2
    have B2 : Below w.heap.size w w2 := B1.trans (hb2.mono B1.size)
    have l2 : w.heap.size + 1 < w2.heap.size := by have := hb2.size; omega
    clear s10 s11 z10 z11 f10 f11 hb2
    obtain ⟨⟨s20, s21⟩, ⟨z20, z21, f20, f21⟩⟩ := K2
    go_wp2_with fail
    go_at_call 52
    refine (db _).mono ?_
    rintro e w3 ⟨rfl, hb3⟩
    first | (replace hb3 := undrewQ hb3) | skip
    have K3 := RfC.keep (B := w.heap.size) (x := a) (y := b) (a := 0) (b := 0) ⟨⟨s20, s21⟩, ⟨z20, z21, f20, f21⟩⟩ hb3
    have B3 : Below w.heap.size w w3 := B2.trans (hb3.mono B2.size)
    have l3 : w.heap.size + 1 < w3.heap.size := by have := hb3.size; omega
    clear s20 s21 z20 z21 f20 f21 hb3
    obtain ⟨⟨s30, s31⟩, ⟨z30, z31, f30, f31⟩⟩ := K3
    go_wp2_with fail
    go_at_call 53
    refine (ua _).mono ?_
    rintro e w4 ⟨rfl, hb4⟩
    first | (replace hb4 := undrewQ hb4) | skip
    have K4 := RfC.keep (B := w.heap.size) (x := a) (y := b) (a := 0) (b := 0) ⟨⟨s30, s31⟩, ⟨z30, z31, f30, f31⟩⟩ hb4
    have B4 : Below w.heap.size w w4 := B3.trans (hb4.mono B3.size)
    have l4 : w.heap.size + 1 < w4.heap.size := by have := hb4.size; omega
    clear s30 s31 z30 z31 f30 f31 hb4
    obtain ⟨⟨s40, s41⟩, ⟨z40, z41, f40, f41⟩⟩ := K4
    go_wp2_with fail
    go_at_call 53
    refine (ub _).mono ?_
    rintro e w5 ⟨rfl, hb5⟩
    first | (replace hb5 := undrewQ hb5) | skip
    have K5 := RfC.keep (B := w.heap.size) (x := a) (y := b) (a := 0) (b := 0) ⟨⟨s40, s41⟩, ⟨z40, z41, f40, f41⟩⟩ hb5
    have B5 : Below w.heap.size w w5 := B4.trans (hb5.mono B4.size)
    have l5 : w.heap.size + 1 < w5.heap.size := by have := hb5.size; omega
    clear s40 s41 z40 z41 f40 f41 hb5
    obtain ⟨⟨s50, s51⟩, ⟨z50, z51, f50, f51⟩⟩ := K5
    go_wp2_with fail
    go_at_call 50
    (try simp only [hmin, hmax])
    refine (ht _).mono ?_
    rintro e w6 ⟨rfl, hb6⟩
    first | (replace hb6 := undrewQ hb6) | skip
    obtain ⟨_, ⟨z0, z1, f0, f1⟩⟩ := RfC.keep (B := w.heap.size) (x := a) (y := b) (a := 0) (b := 0) ⟨⟨s50, s51⟩, ⟨z50, z51, f50, f51⟩⟩ hb6
    have B6 : Below w.heap.size w w6 := B5.trans (hb6.mono B5.size)
    clear s50 s51 z50 z51 f50 f51 hb6
    go_wp2
    exact bodyPost_ret (v := .tuple #[.agg #[.int .i64 p, .int .i64 q], .int .i64 0]) (by simp [results, Try.results34, go_sem, z0, z1]) rfl ⟨by rw [HS.out], by (repeat (first | with_reducible exact Below.refl _ _ | with_reducible assumption | refine Below.alloc ?_ (by (try simp); try omega) _ | refine Below.setCell ?_ (by (try simp); try omega) _ | refine below_drewN ?_ _ | refine Below.drew ?_ | (with_reducible refine Below.trans ?_ (Below.mono (by assumption) (by (try simp); try omega)))))⟩
  · have ht := fun l h w => res_false l h w
    rw [h] at da ua hS
    rw [h'] at db ub hS
    have HS := Lib.hid (show sScaleR a b n 1 = (0, 0, 6) from hS.out)
    dsimp only at da ua db ub
    clear h h' hS h0 h1 h0' hmin hmax hm
    go_enter Try.func34, Try.ntmps34
    go_wp2_with fail
    go_at_call 46
    refine (hr _).mono ?_
    rintro e w1 ⟨rfl, hb1⟩
    have K1 := k0.keep hb1
    have B1 : Below w.heap.size w w1 := b0.trans (hb1.mono (by simp; omega))
    have l1 : w.heap.size + 1 < w1.heap.size := by have := hb1.size; simp at this; omega
    obtain ⟨⟨s10, s11⟩, ⟨z10, z11, f10, f11⟩⟩ := K1
    go_wp2_with fail
    go_at_call 52
    refine (da _).mono ?_
    rintro e w2 ⟨rfl, hb2⟩
    first | (replace hb2 := undrewQ hb2) | skip
    have K2 := RfC.keep (B := w.heap.size) (x := a) (y := b) (a := 0) (b := 0) ⟨⟨s10, s11⟩, ⟨z10, z11, f10, f11⟩⟩ hb2
    have B2 : Below w.heap.size w w2 := B1.trans (hb2.mono B1.size)
    have l2 : w.heap.size + 1 < w2.heap.size := by have := hb2.size; omega
    clear s10 s11 z10 z11 f10 f11 hb2
    obtain ⟨⟨s20, s21⟩, ⟨z20, z21, f20, f21⟩⟩ := K2
    go_wp2_with fail
    go_at_call 52
    refine (db _).mono ?_
    rintro e w3 ⟨rfl, hb3⟩
    first | (replace hb3 := undrewQ hb3) | skip
    have K3 := RfC.keep (B := w.heap.size) (x := a) (y := b) (a := 0) (b := 0) ⟨⟨s20, s21⟩, ⟨z20, z21, f20, f21⟩⟩ hb3
    have B3 : Below w.heap.size w w3 := B2.trans (hb3.mono B2.size)
    have l3 : w.heap.size + 1 < w3.heap.size := by have := hb3.size; omega
    clear s20 s21 z20 z21 f20 f21 hb3
    obtain ⟨⟨s30, s31⟩, ⟨z30, z31, f30, f31⟩⟩ := K3
    go_wp2_with fail
    go_at_call 53
    refine (ua _).mono ?_
    rintro e w4 ⟨rfl, hb4⟩
    first | (replace hb4 := undrewQ hb4) | skip
    have K4 := RfC.keep (B := w.heap.size) (x := a) (y := b) (a := 0) (b := 0) ⟨⟨s30, s31⟩, ⟨z30, z31, f30, f31⟩⟩ hb4
    have B4 : Below w.heap.size w w4 := B3.trans (hb4.mono B3.size)
    have l4 : w.heap.size + 1 < w4.heap.size := by have := hb4.size; omega
    clear s30 s31 z30 z31 f30 f31 hb4
    obtain ⟨⟨s40, s41⟩, ⟨z40, z41, f40, f41⟩⟩ := K4
    go_wp2_with fail
    go_at_call 53
    refine (ub _).mono ?_
    rintro e w5 ⟨rfl, hb5⟩
    first | (replace hb5 := undrewQ hb5) | skip
    have K5 := RfC.keep (B := w.heap.size) (x := a) (y := b) (a := 0) (b := 0) ⟨⟨s40, s41⟩, ⟨z40, z41, f40, f41⟩⟩ hb5
    have B5 : Below w.heap.size w w5 := B4.trans (hb5.mono B4.size)
    have l5 : w.heap.size + 1 < w5.heap.size := by have := hb5.size; omega
    clear s40 s41 z40 z41 f40 f41 hb5
    obtain ⟨⟨s50, s51⟩, ⟨z50, z51, f50, f51⟩⟩ := K5
    go_wp2_with fail
    go_at_call 50
    skip
    refine (ht _ _ _).mono ?_
    rintro e w6 ⟨rfl, hb6⟩
    first | (replace hb6 := undrewQ hb6) | skip
    obtain ⟨_, ⟨z0, z1, f0, f1⟩⟩ := RfC.keep (B := w.heap.size) (x := a) (y := b) (a := 0) (b := 0) ⟨⟨s50, s51⟩, ⟨z50, z51, f50, f51⟩⟩ hb6
    have B6 : Below w.heap.size w w6 := B5.trans (hb6.mono B5.size)
    clear s50 s51 z50 z51 f50 f51 hb6
    go_wp2
    exact bodyPost_ret (v := .tuple #[.agg #[.int .i64 0, .int .i64 0], .int .i64 6]) (by simp [results, Try.results34, go_sem, z0, z1]) rfl ⟨by rw [HS.out], by (repeat (first | with_reducible exact Below.refl _ _ | with_reducible assumption | refine Below.alloc ?_ (by (try simp); try omega) _ | refine Below.setCell ?_ (by (try simp); try omega) _ | refine below_drewN ?_ _ | refine Below.drew ?_ | (with_reducible refine Below.trans ?_ (Below.mono (by assumption) (by (try simp); try omega)))))⟩
  · have ht := fun l h w => res_false l h w
    rw [h] at da ua hS
    rw [h'] at db ub hS
    have HS := Lib.hid (show sScaleR a b n 1 = (0, 0, 6) from hS.out)
    dsimp only at da ua db ub
    clear h h' hS h0 h0' h1' hmin hmax hm
    go_enter Try.func34, Try.ntmps34
    go_wp2_with fail
    go_at_call 46
    refine (hr _).mono ?_
    rintro e w1 ⟨rfl, hb1⟩
    have K1 := k0.keep hb1
    have B1 : Below w.heap.size w w1 := b0.trans (hb1.mono (by simp; omega))
    have l1 : w.heap.size + 1 < w1.heap.size := by have := hb1.size; simp at this; omega
    obtain ⟨⟨s10, s11⟩, ⟨z10, z11, f10, f11⟩⟩ := K1
    go_wp2_with fail
    go_at_call 52
    refine (da _).mono ?_
    rintro e w2 ⟨rfl, hb2⟩
    first | (replace hb2 := undrewQ hb2) | skip
    have K2 := RfC.keep (B := w.heap.size) (x := a) (y := b) (a := 0) (b := 0) ⟨⟨s10, s11⟩, ⟨z10, z11, f10, f11⟩⟩ hb2
    have B2 : Below w.heap.size w w2 := B1.trans (hb2.mono B1.size)
    have l2 : w.heap.size + 1 < w2.heap.size := by have := hb2.size; omega
    clear s10 s11 z10 z11 f10 f11 hb2
    obtain ⟨⟨s20, s21⟩, ⟨z20, z21, f20, f21⟩⟩ := K2
    go_wp2_with fail
    go_at_call 52
    refine (db _).mono ?_
    rintro e w3 ⟨rfl, hb3⟩
    first | (replace hb3 := undrewQ hb3) | skip
    have K3 := RfC.keep (B := w.heap.size) (x := a) (y := b) (a := 0) (b := 0) ⟨⟨s20, s21⟩, ⟨z20, z21, f20, f21⟩⟩ hb3
    have B3 : Below w.heap.size w w3 := B2.trans (hb3.mono B2.size)
    have l3 : w.heap.size + 1 < w3.heap.size := by have := hb3.size; omega
    clear s20 s21 z20 z21 f20 f21 hb3
    obtain ⟨⟨s30, s31⟩, ⟨z30, z31, f30, f31⟩⟩ := K3
    go_wp2_with fail
    go_at_call 53
    refine (ua _).mono ?_
    rintro e w4 ⟨rfl, hb4⟩
    first | (replace hb4 := undrewQ hb4) | skip
    have K4 := RfC.keep (B := w.heap.size) (x := a) (y := b) (a := 0) (b := 0) ⟨⟨s30, s31⟩, ⟨z30, z31, f30, f31⟩⟩ hb4
    have B4 : Below w.heap.size w w4 := B3.trans (hb4.mono B3.size)
    have l4 : w.heap.size + 1 < w4.heap.size := by have := hb4.size; omega
    clear s30 s31 z30 z31 f30 f31 hb4
    obtain ⟨⟨s40, s41⟩, ⟨z40, z41, f40, f41⟩⟩ := K4
    go_wp2_with fail
    go_at_call 53
    refine (ub _).mono ?_
    rintro e w5 ⟨rfl, hb5⟩
    first | (replace hb5 := undrewQ hb5) | skip
    have K5 := RfC.keep (B := w.heap.size) (x := a) (y := b) (a := 0) (b := 0) ⟨⟨s40, s41⟩, ⟨z40, z41, f40, f41⟩⟩ hb5
    have B5 : Below w.heap.size w w5 := B4.trans (hb5.mono B4.size)
    have l5 : w.heap.size + 1 < w5.heap.size := by have := hb5.size; omega
    clear s40 s41 z40 z41 f40 f41 hb5
    obtain ⟨⟨s50, s51⟩, ⟨z50, z51, f50, f51⟩⟩ := K5
    go_wp2_with fail
    go_at_call 50
    skip
    refine (ht _ _ _).mono ?_
    rintro e w6 ⟨rfl, hb6⟩
    first | (replace hb6 := undrewQ hb6) | skip
    obtain ⟨_, ⟨z0, z1, f0, f1⟩⟩ := RfC.keep (B := w.heap.size) (x := a) (y := b) (a := 0) (b := 0) ⟨⟨s50, s51⟩, ⟨z50, z51, f50, f51⟩⟩ hb6
    have B6 : Below w.heap.size w w6 := B5.trans (hb6.mono B5.size)
    clear s50 s51 z50 z51 f50 f51 hb6
    go_wp2
    exact bodyPost_ret (v := .tuple #[.agg #[.int .i64 0, .int .i64 0], .int .i64 6]) (by simp [results, Try.results34, go_sem, z0, z1]) rfl ⟨by rw [HS.out], by (repeat (first | with_reducible exact Below.refl _ _ | with_reducible assumption | refine Below.alloc ?_ (by (try simp); try omega) _ | refine Below.setCell ?_ (by (try simp); try omega) _ | refine below_drewN ?_ _ | refine Below.drew ?_ | (with_reducible refine Below.trans ?_ (Below.mono (by assumption) (by (try simp); try omega)))))⟩
  · have ht := fun l h w => res_false l h w
    rw [h] at da ua hS
    rw [h'] at db ub hS
    have HS := Lib.hid (show sScaleR a b n 1 = (0, 0, 6) from hS.out)
    dsimp only at da ua db ub
    clear h h' hS h0 h0' hmin hmax hm
    go_enter Try.func34, Try.ntmps34
    go_wp2_with fail
    go_at_call 46
    refine (hr _).mono ?_
    rintro e w1 ⟨rfl, hb1⟩
    have K1 := k0.keep hb1
    have B1 : Below w.heap.size w w1 := b0.trans (hb1.mono (by simp; omega))
    have l1 : w.heap.size + 1 < w1.heap.size := by have := hb1.size; simp at this; omega
    obtain ⟨⟨s10, s11⟩, ⟨z10, z11, f10, f11⟩⟩ := K1
    go_wp2_with fail
    go_at_call 52
    refine (da _).mono ?_
    rintro e w2 ⟨rfl, hb2⟩
    first | (replace hb2 := undrewQ hb2) | skip
    have K2 := RfC.keep (B := w.heap.size) (x := a) (y := b) (a := 0) (b := 0) ⟨⟨s10, s11⟩, ⟨z10, z11, f10, f11⟩⟩ hb2
    have B2 : Below w.heap.size w w2 := B1.trans (hb2.mono B1.size)
    have l2 : w.heap.size + 1 < w2.heap.size := by have := hb2.size; omega
    clear s10 s11 z10 z11 f10 f11 hb2
    obtain ⟨⟨s20, s21⟩, ⟨z20, z21, f20, f21⟩⟩ := K2
    go_wp2_with fail
    go_at_call 52
    refine (db _).mono ?_
    rintro e w3 ⟨rfl, hb3⟩
    first | (replace hb3 := undrewQ hb3) | skip
    have K3 := RfC.keep (B := w.heap.size) (x := a) (y := b) (a := 0) (b := 0) ⟨⟨s20, s21⟩, ⟨z20, z21, f20, f21⟩⟩ hb3
    have B3 : Below w.heap.size w w3 := B2.trans (hb3.mono B2.size)
    have l3 : w.heap.size + 1 < w3.heap.size := by have := hb3.size; omega
    clear s20 s21 z20 z21 f20 f21 hb3
    obtain ⟨⟨s30, s31⟩, ⟨z30, z31, f30, f31⟩⟩ := K3
    go_wp2_with fail
    go_at_call 53
    refine (ua _).mono ?_
    rintro e w4 ⟨rfl, hb4⟩
    first | (replace hb4 := undrewQ hb4) | skip
    have K4 := RfC.keep (B := w.heap.size) (x := a) (y := b) (a := 0) (b := 0) ⟨⟨s30, s31⟩, ⟨z30, z31, f30, f31⟩⟩ hb4
    have B4 : Below w.heap.size w w4 := B3.trans (hb4.mono B3.size)
    have l4 : w.heap.size + 1 < w4.heap.size := by have := hb4.size; omega
    clear s30 s31 z30 z31 f30 f31 hb4
    obtain ⟨⟨s40, s41⟩, ⟨z40, z41, f40, f41⟩⟩ := K4
    go_wp2_with fail
    go_at_call 53
    refine (ub _).mono ?_
    rintro e w5 ⟨rfl, hb5⟩
    first | (replace hb5 := undrewQ hb5) | skip
    have K5 := RfC.keep (B := w.heap.size) (x := a) (y := b) (a := 0) (b := 0) ⟨⟨s40, s41⟩, ⟨z40, z41, f40, f41⟩⟩ hb5
    have B5 : Below w.heap.size w w5 := B4.trans (hb5.mono B4.size)
    have l5 : w.heap.size + 1 < w5.heap.size := by have := hb5.size; omega
    clear s40 s41 z40 z41 f40 f41 hb5
    obtain ⟨⟨s50, s51⟩, ⟨z50, z51, f50, f51⟩⟩ := K5
    go_wp2_with fail
    go_at_call 50
    skip
    refine (ht _ _ _).mono ?_
    rintro e w6 ⟨rfl, hb6⟩
    first | (replace hb6 := undrewQ hb6) | skip
    obtain ⟨_, ⟨z0, z1, f0, f1⟩⟩ := RfC.keep (B := w.heap.size) (x := a) (y := b) (a := 0) (b := 0) ⟨⟨s50, s51⟩, ⟨z50, z51, f50, f51⟩⟩ hb6
    have B6 : Below w.heap.size w w6 := B5.trans (hb6.mono B5.size)
    clear s50 s51 z50 z51 f50 f51 hb6
    go_wp2
    exact bodyPost_ret (v := .tuple #[.agg #[.int .i64 0, .int .i64 0], .int .i64 6]) (by simp [results, Try.results34, go_sem, z0, z1]) rfl ⟨by rw [HS.out], by (repeat (first | with_reducible exact Below.refl _ _ | with_reducible assumption | refine Below.alloc ?_ (by (try simp); try omega) _ | refine Below.setCell ?_ (by (try simp); try omega) _ | refine below_drewN ?_ _ | refine Below.drew ?_ | (with_reducible refine Below.trans ?_ (Below.mono (by assumption) (by (try simp); try omega)))))⟩
end Go.Proofs.Ytdaignklmbmcnaa
