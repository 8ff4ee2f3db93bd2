/-
  The reference for layer 2: Right, Check, Of, Point; drafts of intervals; alike.
-/
import Derived.Test.YtdaignklmbmcnaaSpB
import Derived.Test.YtdaignklmbmcnaaFixQ
import Derived.IntWalk
namespace Go.Proofs.Ytdaignklmbmcnaa
open Go.RowKit

theorem rRight_any (l h : Int) (w : World) :
    Calls Try.prog 46 #[.agg #[.int .i64 l, .int .i64 h]] w fun e w' => e = .returned (.bool (ckS l h == 0)) ∧ Below w.heap.size w w' := by
  rcases right_any l with ⟨k, l0, l1, hc⟩ | ⟨k, l0, hc⟩
  · rcases right_any h with ⟨k', h0, h1, hd⟩ | ⟨k', h0, hd⟩
    · by_cases hl : l ≤ h
      · rw [ckS_ok l0 hl h1]
        clear k k'
        go_enter Try.func46, Try.ntmps46
        go_wp2_with (go_at_call 59; (first | (with_reducible refine (hc _).mono ?_) | (with_reducible refine (hd _).mono ?_)); rintro e w' ⟨rfl, rfl⟩)
        go_ret
        exact ⟨rfl, by (repeat (first | with_reducible exact Below.refl _ _ | with_reducible assumption | refine Below.alloc ?_ (by (try simp); try omega) _ | refine Below.setCell ?_ (by (try simp); try omega) _ | refine below_drewN ?_ _ | refine Below.drew ?_ | (with_reducible refine Below.trans ?_ (Below.mono (by assumption) (by (try simp); try omega)))))⟩
      · rw [ckS_no (by omega)]
        have hl' : decide (l ≤ h) = false := by simpa using hl
        clear k k'
        go_enter Try.func46, Try.ntmps46
        go_wp2_with (go_at_call 59; (first | (with_reducible refine (hc _).mono ?_) | (with_reducible refine (hd _).mono ?_)); rintro e w' ⟨rfl, rfl⟩)
        go_ret
        exact ⟨rfl, by (repeat (first | with_reducible exact Below.refl _ _ | with_reducible assumption | refine Below.alloc ?_ (by (try simp); try omega) _ | refine Below.setCell ?_ (by (try simp); try omega) _ | refine below_drewN ?_ _ | refine Below.drew ?_ | (with_reducible refine Below.trans ?_ (Below.mono (by assumption) (by (try simp); try omega)))))⟩
    · rw [ckS_no (by omega)]
      clear k k'
      go_enter Try.func46, Try.ntmps46
      go_wp2_with (go_at_call 59; (first | (with_reducible refine (hc _).mono ?_) | (with_reducible refine (hd _).mono ?_)); rintro e w' ⟨rfl, rfl⟩)
      go_ret
      exact ⟨rfl, by (repeat (first | with_reducible exact Below.refl _ _ | with_reducible assumption | refine Below.alloc ?_ (by (try simp); try omega) _ | refine Below.setCell ?_ (by (try simp); try omega) _ | refine below_drewN ?_ _ | refine Below.drew ?_ | (with_reducible refine Below.trans ?_ (Below.mono (by assumption) (by (try simp); try omega)))))⟩
  · rw [ckS_no (by omega)]
    clear k
    go_enter Try.func46, Try.ntmps46
    go_wp2_with (go_at_call 59; ((with_reducible refine (hc _).mono ?_)); rintro e w' ⟨rfl, rfl⟩)
    go_ret
    exact ⟨rfl, by (repeat (first | with_reducible exact Below.refl _ _ | with_reducible assumption | refine Below.alloc ?_ (by (try simp); try omega) _ | refine Below.setCell ?_ (by (try simp); try omega) _ | refine below_drewN ?_ _ | refine Below.drew ?_ | (with_reducible refine Below.trans ?_ (Below.mono (by assumption) (by (try simp); try omega)))))⟩
theorem rRight_ok (l h : Int) (e : ckS l h = 0) (w : World) :
    Calls Try.prog 46 #[.agg #[.int .i64 l, .int .i64 h]] w fun e w' => e = .returned (.bool true) ∧ Below w.heap.size w w' := by
  have := rRight_any l h w; rw [e] at this; exact this
theorem rRight_no (l h : Int) (e : ckS l h = 20) (w : World) :
    Calls Try.prog 46 #[.agg #[.int .i64 l, .int .i64 h]] w fun e w' => e = .returned (.bool false) ∧ Below w.heap.size w w' := by
  have := rRight_any l h w; rw [e] at this; exact this

theorem rCheck_any (l h : Int) (w : World) :
    Calls Try.prog 47 #[.agg #[.int .i64 l, .int .i64 h]] w fun e w' => e = .returned (.int .i64 (ckS l h)) ∧ Below w.heap.size w w' := by
  rcases ckS_cases l h with ⟨k, -⟩ | ⟨k, -⟩
  · have hr := rRight_ok l h k
    rw [k]; clear k
    go_enter Try.func47, Try.ntmps47
    go_wp2_with (go_at_call 46; refine (hr _).mono ?_; rintro e w1 ⟨rfl, hb1⟩)
    go_ret
    exact ⟨rfl, by (repeat (first | with_reducible exact Below.refl _ _ | with_reducible assumption | refine Below.alloc ?_ (by (try simp); try omega) _ | refine Below.setCell ?_ (by (try simp); try omega) _ | refine below_drewN ?_ _ | refine Below.drew ?_ | (with_reducible refine Below.trans ?_ (Below.mono (by assumption) (by (try simp); try omega)))))⟩
  · have hr := rRight_no l h k
    rw [k]; clear k
    go_enter Try.func47, Try.ntmps47
    go_wp2_with (go_at_call 46; refine (hr _).mono ?_; rintro e w1 ⟨rfl, hb1⟩)
    go_ret
    exact ⟨rfl, by (repeat (first | with_reducible exact Below.refl _ _ | with_reducible assumption | refine Below.alloc ?_ (by (try simp); try omega) _ | refine Below.setCell ?_ (by (try simp); try omega) _ | refine below_drewN ?_ _ | refine Below.drew ?_ | (with_reducible refine Below.trans ?_ (Below.mono (by assumption) (by (try simp); try omega)))))⟩
theorem pow2_bd (k : Nat) (m : Nat) (h : k < m) (hm : m ≤ 60) : 1 ≤ ((2 : Int) ^ k) ∧ ((2 : Int) ^ k) ≤ 2 ^ (m - 1) := by
  have h1 : (2 ^ k : Nat) ≤ 2 ^ (m - 1) := Nat.pow_le_pow_right (by omega) (by omega)
  have h2 : 0 < (2 ^ k : Nat) := Nat.pow_pos (by omega)
  have e1 : ((2 : Int) ^ k) = ((2 ^ k : Nat) : Int) := by rw [Int.natCast_pow]; rfl
  have e2 : ((2 : Int) ^ (m - 1)) = ((2 ^ (m - 1) : Nat) : Int) := by rw [Int.natCast_pow]; rfl
  rw [e1, e2]; omega
theorem tmod_bd (a T : Int) (hT : 0 < T) : -(T - 1) ≤ a.tmod T ∧ a.tmod T ≤ T - 1 := by
  rcases Int.le_total 0 a with h | h
  · have := Int.tmod_nonneg T h
    have := Int.tmod_lt_of_pos a hT
    omega
  · obtain ⟨b, rfl⟩ : ∃ b, a = -b := ⟨-a, by omega⟩
    rw [Int.neg_tmod]
    have := Int.tmod_nonneg T (show 0 ≤ b by omega)
    have := Int.tmod_lt_of_pos b hT
    omega
set_option maxHeartbeats 1000000 in
theorem drSpan_any (a b c : Int) (b0 : 0 ≤ b) (b1 : b ≤ 255) (c0 : 0 ≤ c) (c1 : c ≤ 4294967295) :
    ∃ lo hi : Int, ckS lo hi = 0 ∧ ∀ w, Calls Try.prog 27 #[.agg #[.int .i64 a, .int .u8 b, .int .u32 c]] w fun r w' => r = .returned (.agg #[.int .i64 lo, .int .i64 hi]) ∧ Below w.heap.size w w' := by
  obtain ⟨p0, p1⟩ := pow2_bd (b % 52).toNat 52 (by omega) (by omega)
  obtain ⟨T, hT⟩ : ∃ T : Int, (2 : Int) ^ (b % 52).toNat = T := ⟨_, rfl⟩
  rw [hT] at p0 p1
  have p1' : T ≤ 2251799813685248 := p1
  have hw : wrap64 T = T := IntWalk.wrap64_in _ (by omega)
  have hw1 : wrap64 (T + 1) = T + 1 := IntWalk.wrap64_in _ (by omega)
  obtain ⟨t0, t1⟩ := tmod_bd a (T + 1) (by omega)
  obtain ⟨lo, hlo⟩ : ∃ lo, a.tmod (T + 1) = lo := ⟨_, rfl⟩
  rw [hlo] at t0 t1
  obtain ⟨hi, hhi⟩ : ∃ hi, min (lo + c) 4503599627370496 = hi := ⟨_, rfl⟩
  have hw2 : wrap64 (lo + c) = lo + c := IntWalk.wrap64_in _ (by omega)
  have hne : (T + 1 == 0) = false := by simp; omega
  refine ⟨lo, hi, ckS_ok (by omega) (by omega) (by omega), fun w => ?_⟩
  clear p1
  go_enter Try.func27, Try.ntmps27
  go_wp2
  exact bodyPost_ret (v := .agg #[.int .i64 lo, .int .i64 hi]) (by simp [results, Try.results27, go_sem]) rfl ⟨rfl, by (repeat (first | with_reducible exact Below.refl _ _ | with_reducible assumption | refine Below.alloc ?_ (by (try simp); try omega) _ | refine Below.setCell ?_ (by (try simp); try omega) _ | refine below_drewN ?_ _ | refine Below.drew ?_ | (with_reducible refine Below.trans ?_ (Below.mono (by assumption) (by (try simp); try omega)))))⟩
set_option maxHeartbeats 1000000 in
theorem drSmall_any (a b c : Int) (b0 : 0 ≤ b) (b1 : b ≤ 255) (c0 : 0 ≤ c) (c1 : c ≤ 4294967295) :
    ∃ lo hi : Int, ckS lo hi = 0 ∧ ∀ w, Calls Try.prog 12 #[.agg #[.int .i64 a, .int .u8 b, .int .u32 c]] w fun r w' => r = .returned (.agg #[.int .i64 lo, .int .i64 hi]) ∧ Below w.heap.size w w' := by
  obtain ⟨p0, p1⟩ := pow2_bd (b % 37).toNat 37 (by omega) (by omega)
  obtain ⟨T, hT⟩ : ∃ T : Int, (2 : Int) ^ (b % 37).toNat = T := ⟨_, rfl⟩
  rw [hT] at p0 p1
  have p1' : T ≤ 68719476736 := p1
  have hw : wrap64 T = T := IntWalk.wrap64_in _ (by omega)
  have hw1 : wrap64 (T + 1) = T + 1 := IntWalk.wrap64_in _ (by omega)
  obtain ⟨t0, t1⟩ := tmod_bd a (T + 1) (by omega)
  obtain ⟨lo, hlo⟩ : ∃ lo, a.tmod (T + 1) = lo := ⟨_, rfl⟩
  rw [hlo] at t0 t1
  obtain ⟨S, hS⟩ : ∃ S : Int, (2 : Int) ^ (b % 32).toNat = S := ⟨_, rfl⟩
  have s0 : 1 ≤ S := by rw [← hS]; exact (pow2_bd (b % 32).toNat 32 (by omega) (by omega)).1
  have q0 : 0 ≤ c / S := Int.ediv_nonneg c0 (by omega)
  have q1 : c / S ≤ c := Int.ediv_le_self _ c0
  obtain ⟨q, hq⟩ : ∃ q, c / S = q := ⟨_, rfl⟩
  rw [hq] at q0 q1
  obtain ⟨hi, hhi⟩ : ∃ hi, lo + q = hi := ⟨_, rfl⟩
  have hw2 : wrap64 hi = hi := IntWalk.wrap64_in _ (by omega)
  have hne : (T + 1 == 0) = false := by simp; omega
  refine ⟨lo, hi, ckS_ok (by omega) (by omega) (by omega), fun w => ?_⟩
  clear p1
  go_enter Try.func12, Try.ntmps12
  go_wp2
  exact bodyPost_ret (v := .agg #[.int .i64 lo, .int .i64 hi]) (by simp [results, Try.results12, go_sem]) rfl ⟨rfl, by (repeat (first | with_reducible exact Below.refl _ _ | with_reducible assumption | refine Below.alloc ?_ (by (try simp); try omega) _ | refine Below.setCell ?_ (by (try simp); try omega) _ | refine below_drewN ?_ _ | refine Below.drew ?_ | (with_reducible refine Below.trans ?_ (Below.mono (by assumption) (by (try simp); try omega)))))⟩

end Go.Proofs.Ytdaignklmbmcnaa
