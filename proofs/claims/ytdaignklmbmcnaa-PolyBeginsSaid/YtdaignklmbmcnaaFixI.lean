/-
  Walks of package fix: ratio, mul, div, sqrt, scale, and the functions that the chapter lists.
-/
import Derived.Test.YtdaignklmbmcnaaFixH
namespace Go.Proofs.Ytdaignklmbmcnaa
open Go.RowKit

/-- A quotient of whole numbers, rounded down or up, for a divisor from 1 on. -/
def rq (to : Bool) (n d : Int) : Int := if to then -((-n) / d) else n / d

theorem rdiv_rq (to : Bool) (n d : Int) (hd : 0 < d) : rdiv to n d = rq to n d := by
  unfold rdiv rq
  cases to with
  | false => simp
  | true =>
    simp only [true_and, if_true]
    have m1 := Int.mul_ediv_add_emod n d
    have m2 := Int.mul_ediv_add_emod (-n) d
    have r1 := Int.emod_nonneg n (show d ≠ 0 by omega)
    have r2 := Int.emod_lt_of_pos n hd
    have r3 := Int.emod_nonneg (-n) (show d ≠ 0 by omega)
    have r4 := Int.emod_lt_of_pos (-n) hd
    generalize n / d = q at *
    generalize n % d = r at *
    generalize (-n) / d = q' at *
    generalize (-n) % d = r' at *
    have e : d * (q + q') = -(r + r') := by rw [Int.mul_add]; omega
    by_cases h : 0 < r
    · rw [if_pos h]
      have : q + q' = -1 := by
        apply Int.le_antisymm
        · apply Int.le_of_lt_add_one
          apply Int.lt_of_not_ge
          intro hh
          have := Int.mul_nonneg (show 0 ≤ d by omega) (show 0 ≤ q + q' by omega)
          omega
        · apply Int.le_of_not_gt
          intro hh
          have := Int.mul_le_mul_of_nonneg_left (show q + q' ≤ -2 by omega) (show 0 ≤ d by omega)
          omega
      omega
    · rw [if_neg h]
      have hr : r = 0 := by omega
      have : q + q' = 0 := by
        apply Int.le_antisymm
        · apply Int.le_of_not_gt
          intro hh
          have := Int.mul_le_mul_of_nonneg_left (show 1 ≤ q + q' by omega) (show 0 ≤ d by omega)
          omega
        · apply Int.le_of_not_gt
          intro hh
          have := Int.mul_le_mul_of_nonneg_left (show q + q' ≤ -1 by omega) (show 0 ≤ d by omega)
          omega
      omega

theorem rq_neg (to : Bool) (n d : Int) : rq to (-n) d = -(rq (!to) n d) := by
  unfold rq; cases to <;> simp

theorem sgR_lim (ng : Bool) (m : Int) (hm : 0 ≤ m) : sgR ng m = lim (if ng then -m else m) := by
  unfold sgR lim
  cases ng <;> simp <;> (split <;> split <;> first | rfl | omega)

theorem natAbs_mul (a b : Int) : (a.natAbs : Int) * (b.natAbs : Int) = if (decide (a < 0) != decide (b < 0)) then -(a * b) else a * b := by
  by_cases ha : a < 0 <;> by_cases hb : b < 0
  · rw [show (a.natAbs : Int) = -a by omega, show (b.natAbs : Int) = -b by omega]; simp [ha, hb, Int.neg_mul_neg]
  · rw [show (a.natAbs : Int) = -a by omega, show (b.natAbs : Int) = b by omega]; simp [ha, hb, Int.neg_mul]
  · rw [show (a.natAbs : Int) = a by omega, show (b.natAbs : Int) = -b by omega]; simp [ha, hb, Int.mul_neg]
  · rw [show (a.natAbs : Int) = a by omega, show (b.natAbs : Int) = b by omega]; simp [ha, hb]

theorem ratio_num (a b d : Int) (to : Bool) (hd : 0 < d) (ng : Bool) (hn : ng = (decide (a < 0) != decide (b < 0))) :
    sgR ng (rdiv (to != ng) ((a.natAbs : Int) * (b.natAbs : Int)) d) = lim (rq to (a * b) d) := by
  rw [sgR_lim _ _ (rdiv_nonneg _ _ _ (Int.mul_nonneg (by omega) (by omega)) hd), rdiv_rq _ _ _ hd, natAbs_mul, ← hn]
  cases ng with
  | false => simp
  | true =>
    cases to <;> simp [rq]

theorem ratio_any (a b d : Int) (to : Bool) (w : World) (a0 : -9223372036854775808 ≤ a) (a1 : a ≤ 9223372036854775807) (b0 : -9223372036854775808 ≤ b) (b1 : b ≤ 9223372036854775807) (d0 : 1 ≤ d) (d1 : d ≤ 9223372036854775807) :
    Calls Try.prog 69 #[.int .i64 a, .int .i64 b, .int .i64 d, .bool to] w fun e w' =>
      e = .returned (.tuple #[.int .i64 (lim (rq to (a * b) d)).1, .int .i64 (lim (rq to (a * b) d)).2]) ∧ Below w.heap.size w w' := by
  have hmf : ∀ (fn : Fn) (first cap : Array Value) (w : World), (Instr.makeFunc fn first cap).run Try.prog w = .ok (.func fn first cap) w := fun _ _ _ _ => rfl
  have hs := fun (w : World) (hbx : (w.alloc (.cells #[.int .i64 d] 3)).cell? ⟨w.heap.size, 0, none⟩ = some (.int .i64 d)) =>
    signed_ratio a b d to w.heap.size (w.alloc (.cells #[.int .i64 d] 3)) a0 a1 b0 b1 d0 d1 hbx (decide (a < 0) != decide (b < 0)) rfl _ (Lib.hid rfl)
  rw [ratio_num a b d to (by omega) _ rfl] at hs
  go_enter Try.func69, Try.ntmps69
  go_wp2_with (go_at_call 76; refine (hs _ (by simp)).mono ?_; rintro e w1 ⟨rfl, hb1⟩)
  go_ret2
  exact ⟨rfl, by (repeat (first | with_reducible exact Below.refl _ _ | with_reducible assumption | refine Below.alloc ?_ (by (try simp); try omega) _ | refine Below.setCell ?_ (by (try simp); try omega) _ | refine below_drewN ?_ _ | refine Below.drew ?_ | (with_reducible refine Below.trans ?_ (Below.mono (by assumption) (by (try simp); try omega)))))⟩

/-- Results of two numbers that are checked first, and of an operation. -/
def mulR (to : Bool) (a b : Int) : Int × Int := if ck2 a b = 0 then lim (rq to (a * b) 4294967296) else (0, 2)
theorem mul_any (a b : Int) (to : Bool) (w : World) :
    Calls Try.prog 55 #[.int .i64 a, .int .i64 b, .bool to] w fun e w' =>
      e = .returned (.tuple #[.int .i64 (mulR to a b).1, .int .i64 (mulR to a b).2]) ∧ Below w.heap.size w w' := by
  have hb := both_any a b w
  rcases ck2_cases a b with ⟨h, h0, h1, h2, h3⟩ | ⟨h, h0⟩
  · rw [show mulR to a b = lim (rq to (a * b) 4294967296) by unfold mulR; rw [if_pos h]]
    rw [h] at hb; clear h
    have hr := fun w => ratio_any a b 4294967296 to w (by omega) (by omega) (by omega) (by omega) (by omega) (by omega)
    go_enter Try.func55, Try.ntmps55
    go_wp2_with (first | (go_at_call 68; refine hb.mono ?_; rintro e w' ⟨rfl, rfl⟩) | (go_at_call 69; refine (hr _).mono ?_; rintro e w1 ⟨rfl, hb1⟩))
    go_ret2
    exact ⟨rfl, by (repeat (first | with_reducible exact Below.refl _ _ | with_reducible assumption | refine Below.alloc ?_ (by (try simp); try omega) _ | refine Below.setCell ?_ (by (try simp); try omega) _ | refine below_drewN ?_ _ | refine Below.drew ?_ | (with_reducible refine Below.trans ?_ (Below.mono (by assumption) (by (try simp); try omega)))))⟩
  · rw [show mulR to a b = (0, 2) by unfold mulR; rw [if_neg (by omega)]]
    rw [h] at hb; clear h h0
    go_enter Try.func55, Try.ntmps55
    go_wp2_with (first | (go_at_call 68; refine hb.mono ?_; rintro e w' ⟨rfl, rfl⟩))
    go_ret2
    exact ⟨rfl, by (repeat (first | with_reducible exact Below.refl _ _ | with_reducible assumption | refine Below.alloc ?_ (by (try simp); try omega) _ | refine Below.setCell ?_ (by (try simp); try omega) _ | refine below_drewN ?_ _ | refine Below.drew ?_ | (with_reducible refine Below.trans ?_ (Below.mono (by assumption) (by (try simp); try omega)))))⟩

def divQ (to : Bool) (a b : Int) : Int := if b < 0 then rq to (-(a * 4294967296)) (-b) else rq to (a * 4294967296) b
def divR (to : Bool) (a b : Int) : Int × Int := if ck2 a b = 0 then (if b = 0 then (0, 7) else lim (divQ to a b)) else (0, 2)
theorem div_num (a b : Int) (to : Bool) (hb : b ≠ 0) :
    sgR (decide (a < 0) != decide (b < 0)) (rdiv (to != (decide (a < 0) != decide (b < 0))) ((a.natAbs : Int) * 4294967296) (b.natAbs : Int)) = lim (divQ to a b) := by
  rw [sgR_lim _ _ (rdiv_nonneg _ _ _ (by omega) (by omega)), rdiv_rq _ _ _ (by omega)]
  unfold divQ
  by_cases ha : a < 0 <;> by_cases hb : b < 0
  · rw [show (a.natAbs : Int) = -a by omega, show (b.natAbs : Int) = -b by omega]; simp [ha, hb, Int.neg_mul]
  · rw [show (a.natAbs : Int) = -a by omega, show (b.natAbs : Int) = b by omega]; cases to <;> simp [ha, hb, rq, Int.neg_mul]
  · rw [show (a.natAbs : Int) = a by omega, show (b.natAbs : Int) = -b by omega]; cases to <;> simp [ha, hb, rq]
  · rw [show (a.natAbs : Int) = a by omega, show (b.natAbs : Int) = b by omega]; simp [ha, hb]
def sqrtR (to : Bool) (a : Int) : Int × Int := if ckErr a = 0 ∧ 0 ≤ a then (rootR to (a * 4294967296), 0) else (0, 2)
theorem rootR_bd (to : Bool) (n : Int) (n0 : 0 ≤ n) (n1 : n ≤ 19342813113834066795298816) : 0 ≤ rootR to n ∧ rootR to n ≤ 8796093022208 := by
  obtain ⟨i0, i1, i2, i3⟩ := isqrt_spec n n0 (by omega)
  unfold rootR; split <;> omega
def scaleR (to : Bool) (a n d : Int) : Int × Int :=
  if ckErr a = 0 ∧ -4611686018427387904 ≤ n ∧ n ≤ 4611686018427387904 ∧ 1 ≤ d ∧ d ≤ 4611686018427387904 then lim (rq to (a * n) d) else (0, 2)
theorem scale_any (a n d : Int) (to : Bool) (w : World) (d0 : -9223372036854775808 ≤ d) (d1 : d ≤ 9223372036854775807) :
    Calls Try.prog 72 #[.int .i64 a, .int .i64 n, .int .i64 d, .bool to] w fun e w' =>
      e = .returned (.tuple #[.int .i64 (scaleR to a n d).1, .int .i64 (scaleR to a n d).2]) ∧ Below w.heap.size w w' := by
  have hb := check_any a w
  rcases ckErr_cases a with ⟨h, h0, h1⟩ | ⟨h, h0⟩
  · rw [h] at hb
    by_cases k1 : n < -4611686018427387904
    · rw [show scaleR to a n d = (0, 2) by unfold scaleR; rw [if_neg (by omega)]]
      clear h
      go_enter Try.func72, Try.ntmps72
      go_wp2_with (first | (go_at_call 75; refine hb.mono ?_; rintro e w' ⟨rfl, rfl⟩))
      go_ret2
      exact ⟨rfl, by (repeat (first | with_reducible exact Below.refl _ _ | with_reducible assumption | refine Below.alloc ?_ (by (try simp); try omega) _ | refine Below.setCell ?_ (by (try simp); try omega) _ | refine below_drewN ?_ _ | refine Below.drew ?_ | (with_reducible refine Below.trans ?_ (Below.mono (by assumption) (by (try simp); try omega)))))⟩
    by_cases k2 : 4611686018427387904 < n
    · rw [show scaleR to a n d = (0, 2) by unfold scaleR; rw [if_neg (by omega)]]
      clear h
      go_enter Try.func72, Try.ntmps72
      go_wp2_with (first | (go_at_call 75; refine hb.mono ?_; rintro e w' ⟨rfl, rfl⟩))
      go_ret2
      exact ⟨rfl, by (repeat (first | with_reducible exact Below.refl _ _ | with_reducible assumption | refine Below.alloc ?_ (by (try simp); try omega) _ | refine Below.setCell ?_ (by (try simp); try omega) _ | refine below_drewN ?_ _ | refine Below.drew ?_ | (with_reducible refine Below.trans ?_ (Below.mono (by assumption) (by (try simp); try omega)))))⟩
    by_cases k3 : d < 1
    · rw [show scaleR to a n d = (0, 2) by unfold scaleR; rw [if_neg (by omega)]]
      clear h
      go_enter Try.func72, Try.ntmps72
      go_wp2_with (first | (go_at_call 75; refine hb.mono ?_; rintro e w' ⟨rfl, rfl⟩))
      go_ret2
      exact ⟨rfl, by (repeat (first | with_reducible exact Below.refl _ _ | with_reducible assumption | refine Below.alloc ?_ (by (try simp); try omega) _ | refine Below.setCell ?_ (by (try simp); try omega) _ | refine below_drewN ?_ _ | refine Below.drew ?_ | (with_reducible refine Below.trans ?_ (Below.mono (by assumption) (by (try simp); try omega)))))⟩
    by_cases k4 : 4611686018427387904 < d
    · rw [show scaleR to a n d = (0, 2) by unfold scaleR; rw [if_neg (by omega)]]
      clear h
      go_enter Try.func72, Try.ntmps72
      go_wp2_with (first | (go_at_call 75; refine hb.mono ?_; rintro e w' ⟨rfl, rfl⟩))
      go_ret2
      exact ⟨rfl, by (repeat (first | with_reducible exact Below.refl _ _ | with_reducible assumption | refine Below.alloc ?_ (by (try simp); try omega) _ | refine Below.setCell ?_ (by (try simp); try omega) _ | refine below_drewN ?_ _ | refine Below.drew ?_ | (with_reducible refine Below.trans ?_ (Below.mono (by assumption) (by (try simp); try omega)))))⟩
    rw [show scaleR to a n d = lim (rq to (a * n) d) by unfold scaleR; rw [if_pos ⟨h, by omega, by omega, by omega, by omega⟩]]
    clear h
    have hr := fun w => ratio_any a n d to w (by omega) (by omega) (by omega) (by omega) (by omega) (by omega)
    go_enter Try.func72, Try.ntmps72
    go_wp2_with (first | (go_at_call 75; refine hb.mono ?_; rintro e w' ⟨rfl, rfl⟩) | (go_at_call 69; refine (hr _).mono ?_; rintro e w1 ⟨rfl, hb1⟩))
    go_ret2
    exact ⟨rfl, by (repeat (first | with_reducible exact Below.refl _ _ | with_reducible assumption | refine Below.alloc ?_ (by (try simp); try omega) _ | refine Below.setCell ?_ (by (try simp); try omega) _ | refine below_drewN ?_ _ | refine Below.drew ?_ | (with_reducible refine Below.trans ?_ (Below.mono (by assumption) (by (try simp); try omega)))))⟩
  · rw [show scaleR to a n d = (0, 2) by unfold scaleR; rw [if_neg (by omega)]]
    rw [h] at hb; clear h h0
    go_enter Try.func72, Try.ntmps72
    go_wp2_with (first | (go_at_call 75; refine hb.mono ?_; rintro e w' ⟨rfl, rfl⟩))
    go_ret2
    exact ⟨rfl, by (repeat (first | with_reducible exact Below.refl _ _ | with_reducible assumption | refine Below.alloc ?_ (by (try simp); try omega) _ | refine Below.setCell ?_ (by (try simp); try omega) _ | refine below_drewN ?_ _ | refine Below.drew ?_ | (with_reducible refine Below.trans ?_ (Below.mono (by assumption) (by (try simp); try omega)))))⟩

theorem mulDown_any (a b : Int) (w : World) :
    Calls Try.prog 37 #[.int .i64 a, .int .i64 b] w fun e w' => e = .returned (.tuple #[.int .i64 (mulR false a b).1, .int .i64 (mulR false a b).2]) ∧ Below w.heap.size w w' := by
  go_enter Try.func37, Try.ntmps37
  go_wp2_with (go_at_call 55; refine (mul_any a b false _).mono ?_; rintro e w1 ⟨rfl, hb1⟩)
  go_ret2
  exact ⟨rfl, hb1⟩
theorem mulUp_any (a b : Int) (w : World) :
    Calls Try.prog 38 #[.int .i64 a, .int .i64 b] w fun e w' => e = .returned (.tuple #[.int .i64 (mulR true a b).1, .int .i64 (mulR true a b).2]) ∧ Below w.heap.size w w' := by
  go_enter Try.func38, Try.ntmps38
  go_wp2_with (go_at_call 55; refine (mul_any a b true _).mono ?_; rintro e w1 ⟨rfl, hb1⟩)
  go_ret2
  exact ⟨rfl, hb1⟩
theorem scaleDown_any (a n d : Int) (w : World) (d0 : -9223372036854775808 ≤ d) (d1 : d ≤ 9223372036854775807) :
    Calls Try.prog 63 #[.int .i64 a, .int .i64 n, .int .i64 d] w fun e w' => e = .returned (.tuple #[.int .i64 (scaleR false a n d).1, .int .i64 (scaleR false a n d).2]) ∧ Below w.heap.size w w' := by
  go_enter Try.func63, Try.ntmps63
  go_wp2_with (go_at_call 72; refine (scale_any a n d false _ d0 d1).mono ?_; rintro e w1 ⟨rfl, hb1⟩)
  go_ret2
  exact ⟨rfl, hb1⟩
theorem scaleUp_any (a n d : Int) (w : World) (d0 : -9223372036854775808 ≤ d) (d1 : d ≤ 9223372036854775807) :
    Calls Try.prog 65 #[.int .i64 a, .int .i64 n, .int .i64 d] w fun e w' => e = .returned (.tuple #[.int .i64 (scaleR true a n d).1, .int .i64 (scaleR true a n d).2]) ∧ Below w.heap.size w w' := by
  go_enter Try.func65, Try.ntmps65
  go_wp2_with (go_at_call 72; refine (scale_any a n d true _ d0 d1).mono ?_; rintro e w1 ⟨rfl, hb1⟩)
  go_ret2
  exact ⟨rfl, hb1⟩

end Go.Proofs.Ytdaignklmbmcnaa
