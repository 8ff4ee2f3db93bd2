/-
  Package span: power for every number; Pow.
-/
import Derived.Test.YtabnpidmhmebfaaDoorSpKa
import Derived.Test.YtabnpidmhmebfaaDoorSpKb
import Derived.Test.YtabnpidmhmebfaaDoorSpKc
import Derived.Test.YtabnpidmhmebfaaDoorSpL
import Derived.Test.YtabnpidmhmebfaaDoorSpG
namespace Go.Proofs.YtabnpidmhmebfaaDoor
open Go.RowKit

/-- The rounded n-th power of a number. -/
def powR (to : Bool) (v n : Int) : Int × Int := lim (rq to (v ^ n.toNat) (4294967296 ^ (n.toNat - 1)))
theorem neg_pow_even (a : Int) (k : Nat) : (-a) ^ (2 * k) = a ^ (2 * k) := by
  induction k with
  | zero => simp
  | succ k ih => rw [show 2 * (k + 1) = 2 * k + 1 + 1 by omega, Int.pow_succ, Int.pow_succ, Int.pow_succ, Int.pow_succ, ih, Int.mul_assoc, Int.mul_assoc, Int.neg_mul_neg]
theorem neg_pow_odd (a : Int) (k : Nat) : (-a) ^ (2 * k + 1) = -(a ^ (2 * k + 1)) := by
  rw [Int.pow_succ, Int.pow_succ, neg_pow_even, Int.mul_neg]
theorem rdN_int (to : Bool) (m o : Nat) : ((rdN to m o : Nat) : Int) = rq to ((m : Int) ^ (o + 1)) (4294967296 ^ o) := by
  have hp : (0 : Int) < 4294967296 ^ o := Int.pow_pos (by omega)
  rw [← rdiv_rq _ _ _ hp]
  have e1 : ((m : Int) ^ (o + 1)) = ((m ^ (o + 1) : Nat) : Int) := by rw [Int.natCast_pow]
  have e2 : ((4294967296 : Int) ^ o) = ((4294967296 ^ o : Nat) : Int) := by rw [Int.natCast_pow]; rfl
  unfold rdN rdiv
  rw [e1, e2, ← Int.natCast_emod, ← Int.natCast_ediv]
  generalize m ^ (o + 1) % 4294967296 ^ o = R
  generalize m ^ (o + 1) / 4294967296 ^ o = Q
  cases to <;> simp
  by_cases h : R = 0
  · simp [h]
  · rw [if_neg h, if_pos (by omega)]; omega
theorem power_num (ng : Bool) (to : Bool) (m o : Nat) : sgR ng ((rdN (to != ng) m o : Nat) : Int) = lim (rq to (if ng then -((m : Int) ^ (o + 1)) else (m : Int) ^ (o + 1)) (4294967296 ^ o)) := by
  rw [sgR_lim _ _ (by omega), rdN_int]
  cases ng with
  | false => simp
  | true => simp [rq_neg]

theorem power_any (v n : Int) (to : Bool) (w : World) (v0 : -4503599627370496 ≤ v) (v1 : v ≤ 4503599627370496) (n1 : 1 ≤ n) (n16 : n ≤ 16) :
    Calls Tryd.prog 46 #[.int .i64 v, .int .i64 n, .bool to] w fun e w' => e = .returned (.tuple #[.int .i64 (powR to v n).1, .int .i64 (powR to v n).2]) ∧ Below w.heap.size w w' := by
  obtain ⟨k, rfl⟩ := Int.eq_ofNat_of_zero_le (show 0 ≤ n by omega)
  obtain ⟨o, rfl⟩ : ∃ o, k = o + 1 := ⟨k - 1, by omega⟩
  have hR : powR to v ((o + 1 : Nat) : Int) = lim (rq to (v ^ (o + 1)) (4294967296 ^ o)) := by unfold powR; simp
  rw [hR]
  clear hR
  rw [show ((o + 1 : Nat) : Int) = (o : Int) + 1 by omega]
  by_cases o0 : o = 0
  · subst o0
    have hl : lim (rq to (v ^ (0 + 1)) (4294967296 ^ 0)) = (v, 0) := by
      rw [show v ^ (0 + 1) = v by rw [Int.pow_succ, Int.pow_zero, Int.one_mul], show (4294967296 : Int) ^ 0 = 1 from Int.pow_zero _, show rq to v 1 = v by unfold rq; cases to <;> simp]
      exact lim_ok v0 v1
    rw [hl]
    by_cases hv : v < 0
    · obtain ⟨m, rfl⟩ : ∃ m : Nat, v = -(m : Int) := ⟨v.natAbs, by omega⟩
      cases to
      · exact power1Odd_false m w (by omega) (by omega)
      · exact power1Odd_true m w (by omega) (by omega)
    · obtain ⟨m, rfl⟩ : ∃ m : Nat, v = (m : Int) := ⟨v.natAbs, by omega⟩
      cases to
      · exact power1Pos_false m w (by omega)
      · exact power1Pos_true m w (by omega)
  by_cases hv : v < 0
  · obtain ⟨m, rfl⟩ : ∃ m : Nat, v = -(m : Int) := ⟨v.natAbs, by omega⟩
    by_cases hp : o % 2 = 0
    · have e : (-(m : Int)) ^ (o + 1) = -((m : Int) ^ (o + 1)) := by
        obtain ⟨k, rfl⟩ : ∃ k, o = 2 * k := ⟨o / 2, by omega⟩
        exact neg_pow_odd _ _
      have hn := power_num true to m o
      rw [if_pos rfl] at hn
      rw [e, ← hn]
      cases to
      · exact powerOdd_false m o w (by omega) (by omega) (by omega) (by omega) (by omega)
      · exact powerOdd_true m o w (by omega) (by omega) (by omega) (by omega) (by omega)
    · have e : (-(m : Int)) ^ (o + 1) = (m : Int) ^ (o + 1) := by
        obtain ⟨k, rfl⟩ : ∃ k, o = 2 * k + 1 := ⟨o / 2, by omega⟩
        exact neg_pow_even _ (k + 1)
      have hn := power_num false to m o
      rw [if_neg (by simp)] at hn
      rw [e, ← hn]
      cases to
      · exact powerEven_false m o w (by omega) (by omega) (by omega) (by omega) (by omega)
      · exact powerEven_true m o w (by omega) (by omega) (by omega) (by omega) (by omega)
  · obtain ⟨m, rfl⟩ : ∃ m : Nat, v = (m : Int) := ⟨v.natAbs, by omega⟩
    have hn := power_num false to m o
    rw [if_neg (by simp)] at hn
    rw [← hn]
    cases to
    · exact powerPos_false m o w (by omega) (by omega) (by omega)
    · exact powerPos_true m o w (by omega) (by omega) (by omega)

theorem pow1_any (x n : Int) (pn : Nat) (w : World) (v0 : -4503599627370496 ≤ x) (v1 : x ≤ 4503599627370496) (n1 : 1 ≤ n) (n16 : n ≤ 16) (hn : w.cell? ⟨pn, 0, none⟩ = some (.int .i64 n)) :
    Calls Tryd.prog 45 #[.int .i64 x, .pointer (some ⟨pn, 0, none⟩)] w fun e w' => e = .returned (.tuple #[.int .i64 (powR false x n).1, .int .i64 (powR false x n).2]) ∧ Below w.heap.size w w' := by
  have hm := fun w => power_any x n false w v0 v1 n1 n16
  generalize powR false x n = R at *
  go_enter Tryd.func45, Tryd.ntmps45
  go_wp2_with (go_at_call 46; refine (hm _).mono ?_; rintro e w1 ⟨rfl, hb1⟩)
  go_ret2
  exact ⟨rfl, by (repeat (first | with_reducible exact Below.refl _ _ | with_reducible assumption | refine Below.alloc ?_ (by (try simp); try omega) _ | refine Below.setCell ?_ (by (try simp); try omega) _ | refine below_drewN ?_ _ | refine Below.drew ?_ | (with_reducible refine Below.trans ?_ (Below.mono (by assumption) (by (try simp); try omega)))))⟩
theorem pow2_any (x n : Int) (pn : Nat) (w : World) (v0 : -4503599627370496 ≤ x) (v1 : x ≤ 4503599627370496) (n1 : 1 ≤ n) (n16 : n ≤ 16) (hn : w.cell? ⟨pn, 0, none⟩ = some (.int .i64 n)) :
    Calls Tryd.prog 47 #[.int .i64 x, .pointer (some ⟨pn, 0, none⟩)] w fun e w' => e = .returned (.tuple #[.int .i64 (powR true x n).1, .int .i64 (powR true x n).2]) ∧ Below w.heap.size w w' := by
  have hm := fun w => power_any x n true w v0 v1 n1 n16
  generalize powR true x n = R at *
  go_enter Tryd.func47, Tryd.ntmps47
  go_wp2_with (go_at_call 46; refine (hm _).mono ?_; rintro e w1 ⟨rfl, hb1⟩)
  go_ret2
  exact ⟨rfl, by (repeat (first | with_reducible exact Below.refl _ _ | with_reducible assumption | refine Below.alloc ?_ (by (try simp); try omega) _ | refine Below.setCell ?_ (by (try simp); try omega) _ | refine below_drewN ?_ _ | refine Below.drew ?_ | (with_reducible refine Below.trans ?_ (Below.mono (by assumption) (by (try simp); try omega)))))⟩
set_option maxHeartbeats 1000000 in
theorem btwPow_any (x y : Int) (n : Int) (pn : Nat) (w : World) (x0 : -4503599627370496 ≤ x) (x1 : x ≤ 4503599627370496) (y0 : -4503599627370496 ≤ y) (y1 : y ≤ 4503599627370496) (n1 : 1 ≤ n) (n16 : n ≤ 16) (hn : w.cell? ⟨pn, 0, none⟩ = some (.int .i64 n)) :
    Calls Tryd.prog 44 #[.agg #[.func (.func 45) #[] #[.pointer (some ⟨pn, 0, none⟩)], .func (.func 47) #[] #[.pointer (some ⟨pn, 0, none⟩)]], .int .i64 x, .int .i64 y] w fun e w' => e = .returned (.tuple #[.agg #[.int .i64 (btw (powR false x n) (powR true y n)).1, .int .i64 (btw (powR false x n) (powR true y n)).2.1], .int .i64 (btw (powR false x n) (powR true y n)).2.2]) ∧ Below w.heap.size w w' := by
  have hd := fun W (hb : Below w.heap.size w W) => pow1_any x n pn W x0 x1 n1 n16 (bkeep hb hn)
  have hu := fun W (hb : Below w.heap.size w W) => pow2_any y n pn W y0 y1 n1 n16 (bkeep hb hn)
  generalize powR false x n = D at *
  generalize powR true y n = U at *
  obtain ⟨p, q⟩ := D
  obtain ⟨r, s⟩ := U
  by_cases h : q = 0
  · subst h
    by_cases k : s = 0
    · subst k
      rw [show btw (p, 0) (r, 0) = (p, r, 0) by unfold btw; rw [if_pos rfl, if_pos rfl]]
      go_enter Tryd.func44, Tryd.ntmps44
      go_wp2_with (first | (go_at_call 45; refine (hd _ (by (repeat (first | with_reducible exact Below.refl _ _ | with_reducible assumption | refine Below.alloc ?_ (by (try simp); try omega) _ | refine Below.setCell ?_ (by (try simp); try omega) _ | refine below_drewN ?_ _ | refine Below.drew ?_ | (with_reducible refine Below.trans ?_ (Below.mono (by assumption) (by (try simp); try omega))))))).mono ?_; rintro e w1 ⟨rfl, hb1⟩; obtain ⟨hc1, hf1⟩ := bcell hb1; have hz1 : w.heap.size + 1 < w1.heap.size := (by have := hb1.size; (try simp at this); omega); have hy1 : w.heap.size + 1 < w1.heap.size := (by omega); have r01 : w1.cell? ⟨w.heap.size + 1, 0, none⟩ = some (.int .i64 0) := bkeep hb1 (by first | (simp [go_sem]; done)); have r11 : w1.cell? ⟨w.heap.size + 1, 1, none⟩ = some (.int .i64 0) := bkeep hb1 (by first | (simp [go_sem]; done)); have z01 : w1.frozen? ⟨w.heap.size + 1, 0, none⟩ = false := bfrz hb1 (by first | omega | (simp; done) | (simp; omega)) (by first | (simp [go_sem]; done)); have z11 : w1.frozen? ⟨w.heap.size + 1, 1, none⟩ = false := bfrz hb1 (by first | omega | (simp; done) | (simp; omega)) (by first | (simp [go_sem]; done))) | (go_at_call 47; refine (hu _ (by (repeat (first | with_reducible exact Below.refl _ _ | with_reducible assumption | refine Below.alloc ?_ (by (try simp); try omega) _ | refine Below.setCell ?_ (by (try simp); try omega) _ | refine below_drewN ?_ _ | refine Below.drew ?_ | (with_reducible refine Below.trans ?_ (Below.mono (by assumption) (by (try simp); try omega))))))).mono ?_; rintro e w2 ⟨rfl, hb2⟩; obtain ⟨hc2, hf2⟩ := bcell hb2; have hz2 : w.heap.size + 1 < w2.heap.size := (by have := hb2.size; (try simp at this); omega); have hy2 : w.heap.size + 1 < w2.heap.size := (by omega); have r02 : w2.cell? ⟨w.heap.size + 1, 0, none⟩ = some (.int .i64 0) := bkeep hb2 (by first | (simp [go_sem]; done) | (simp [go_sem, r01]; done)); have r12 : w2.cell? ⟨w.heap.size + 1, 1, none⟩ = some (.int .i64 0) := bkeep hb2 (by first | (simp [go_sem]; done) | (simp [go_sem, r11]; done)); have z02 : w2.frozen? ⟨w.heap.size + 1, 0, none⟩ = false := bfrz hb2 (by first | omega | (simp; done) | (simp; omega)) (by first | (simp [go_sem]; done) | (simp [go_sem, z01]; done)); have z12 : w2.frozen? ⟨w.heap.size + 1, 1, none⟩ = false := bfrz hb2 (by first | omega | (simp; done) | (simp; omega)) (by first | (simp [go_sem]; done) | (simp [go_sem, z11]; done))))
      exact bodyPost_ret (v := .tuple #[.agg #[.int .i64 p, .int .i64 r], .int .i64 0]) (by simp [results, Tryd.results44, go_sem, r02, r12]) rfl ⟨rfl, by (repeat (first | with_reducible exact Below.refl _ _ | with_reducible assumption | refine Below.alloc ?_ (by (try simp); try omega) _ | refine Below.setCell ?_ (by (try simp); try omega) _ | refine below_drewN ?_ _ | refine Below.drew ?_ | (with_reducible refine Below.trans ?_ (Below.mono (by assumption) (by (try simp); try omega)))))⟩
    · rw [show btw (p, 0) (r, s) = (0, 0, s) by unfold btw; rw [if_pos rfl, if_neg k]]
      have k' : (s != 0) = true := by simpa using k
      go_enter Tryd.func44, Tryd.ntmps44
      go_wp2_with (first | (go_at_call 45; refine (hd _ (by (repeat (first | with_reducible exact Below.refl _ _ | with_reducible assumption | refine Below.alloc ?_ (by (try simp); try omega) _ | refine Below.setCell ?_ (by (try simp); try omega) _ | refine below_drewN ?_ _ | refine Below.drew ?_ | (with_reducible refine Below.trans ?_ (Below.mono (by assumption) (by (try simp); try omega))))))).mono ?_; rintro e w1 ⟨rfl, hb1⟩; obtain ⟨hc1, hf1⟩ := bcell hb1; have hz1 : w.heap.size + 1 < w1.heap.size := (by have := hb1.size; (try simp at this); omega); have hy1 : w.heap.size + 1 < w1.heap.size := (by omega); have r01 : w1.cell? ⟨w.heap.size + 1, 0, none⟩ = some (.int .i64 0) := bkeep hb1 (by first | (simp [go_sem]; done)); have r11 : w1.cell? ⟨w.heap.size + 1, 1, none⟩ = some (.int .i64 0) := bkeep hb1 (by first | (simp [go_sem]; done)); have z01 : w1.frozen? ⟨w.heap.size + 1, 0, none⟩ = false := bfrz hb1 (by first | omega | (simp; done) | (simp; omega)) (by first | (simp [go_sem]; done)); have z11 : w1.frozen? ⟨w.heap.size + 1, 1, none⟩ = false := bfrz hb1 (by first | omega | (simp; done) | (simp; omega)) (by first | (simp [go_sem]; done))) | (go_at_call 47; refine (hu _ (by (repeat (first | with_reducible exact Below.refl _ _ | with_reducible assumption | refine Below.alloc ?_ (by (try simp); try omega) _ | refine Below.setCell ?_ (by (try simp); try omega) _ | refine below_drewN ?_ _ | refine Below.drew ?_ | (with_reducible refine Below.trans ?_ (Below.mono (by assumption) (by (try simp); try omega))))))).mono ?_; rintro e w2 ⟨rfl, hb2⟩; obtain ⟨hc2, hf2⟩ := bcell hb2; have hz2 : w.heap.size + 1 < w2.heap.size := (by have := hb2.size; (try simp at this); omega); have hy2 : w.heap.size + 1 < w2.heap.size := (by omega); have r02 : w2.cell? ⟨w.heap.size + 1, 0, none⟩ = some (.int .i64 0) := bkeep hb2 (by first | (simp [go_sem]; done) | (simp [go_sem, r01]; done)); have r12 : w2.cell? ⟨w.heap.size + 1, 1, none⟩ = some (.int .i64 0) := bkeep hb2 (by first | (simp [go_sem]; done) | (simp [go_sem, r11]; done)); have z02 : w2.frozen? ⟨w.heap.size + 1, 0, none⟩ = false := bfrz hb2 (by first | omega | (simp; done) | (simp; omega)) (by first | (simp [go_sem]; done) | (simp [go_sem, z01]; done)); have z12 : w2.frozen? ⟨w.heap.size + 1, 1, none⟩ = false := bfrz hb2 (by first | omega | (simp; done) | (simp; omega)) (by first | (simp [go_sem]; done) | (simp [go_sem, z11]; done))))
      exact bodyPost_ret (v := .tuple #[.agg #[.int .i64 0, .int .i64 0], .int .i64 s]) (by simp [results, Tryd.results44, go_sem, r02, r12]) rfl ⟨rfl, by (repeat (first | with_reducible exact Below.refl _ _ | with_reducible assumption | refine Below.alloc ?_ (by (try simp); try omega) _ | refine Below.setCell ?_ (by (try simp); try omega) _ | refine below_drewN ?_ _ | refine Below.drew ?_ | (with_reducible refine Below.trans ?_ (Below.mono (by assumption) (by (try simp); try omega)))))⟩
  · rw [show btw (p, q) (r, s) = (0, 0, q) by unfold btw; rw [if_neg h]]
    have h' : (q != 0) = true := by simpa using h
    go_enter Tryd.func44, Tryd.ntmps44
    go_wp2_with (first | (go_at_call 45; refine (hd _ (by (repeat (first | with_reducible exact Below.refl _ _ | with_reducible assumption | refine Below.alloc ?_ (by (try simp); try omega) _ | refine Below.setCell ?_ (by (try simp); try omega) _ | refine below_drewN ?_ _ | refine Below.drew ?_ | (with_reducible refine Below.trans ?_ (Below.mono (by assumption) (by (try simp); try omega))))))).mono ?_; rintro e w1 ⟨rfl, hb1⟩; obtain ⟨hc1, hf1⟩ := bcell hb1; have hz1 : w.heap.size + 1 < w1.heap.size := (by have := hb1.size; (try simp at this); omega); have hy1 : w.heap.size + 1 < w1.heap.size := (by omega); have r01 : w1.cell? ⟨w.heap.size + 1, 0, none⟩ = some (.int .i64 0) := bkeep hb1 (by first | (simp [go_sem]; done)); have r11 : w1.cell? ⟨w.heap.size + 1, 1, none⟩ = some (.int .i64 0) := bkeep hb1 (by first | (simp [go_sem]; done)); have z01 : w1.frozen? ⟨w.heap.size + 1, 0, none⟩ = false := bfrz hb1 (by first | omega | (simp; done) | (simp; omega)) (by first | (simp [go_sem]; done)); have z11 : w1.frozen? ⟨w.heap.size + 1, 1, none⟩ = false := bfrz hb1 (by first | omega | (simp; done) | (simp; omega)) (by first | (simp [go_sem]; done))))
    exact bodyPost_ret (v := .tuple #[.agg #[.int .i64 0, .int .i64 0], .int .i64 q]) (by simp [results, Tryd.results44, go_sem, r01, r11]) rfl ⟨rfl, by (repeat (first | with_reducible exact Below.refl _ _ | with_reducible assumption | refine Below.alloc ?_ (by (try simp); try omega) _ | refine Below.setCell ?_ (by (try simp); try omega) _ | refine below_drewN ?_ _ | refine Below.drew ?_ | (with_reducible refine Below.trans ?_ (Below.mono (by assumption) (by (try simp); try omega)))))⟩

end Go.Proofs.YtabnpidmhmebfaaDoor
