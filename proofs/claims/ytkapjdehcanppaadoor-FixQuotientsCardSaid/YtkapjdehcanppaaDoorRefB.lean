/-
  The reference for layer 1: size, put, Div, quotient, DivDown, DivUp.
-/
import Derived.Test.YtkapjdehcanppaaDoorRefA
namespace Go.Proofs.YtkapjdehcanppaaDoor
open Go.RowKit

theorem refSize_any (a : Int) (w : World) (h0 : -9223372036854775808 ≤ a) (h1 : a ≤ 9223372036854775807) :
    Calls Tryd.prog 65 #[.int .i64 a] w fun e w' => e = .returned (.int .u64 (a.natAbs : Int)) ∧ w = w' := by
  by_cases h : a < 0
  · go_enter Tryd.func65, Tryd.ntmps65
    go_wp2
    go_ret
    exact ⟨ret_i (by omega), rfl⟩
  · go_enter Tryd.func65, Tryd.ntmps65
    go_wp2
    go_ret
    exact ⟨ret_i (by omega), rfl⟩

/-- A magnitude with its sign, or that it is too great. -/
def putV (ng : Bool) (m : Int) : Int × Bool := if 4503599627370496 < m then (0, false) else (if ng then -m else m, true)
theorem put_any (ng rest up : Bool) (n m : Int) (w : World) (h0 : 0 ≤ n) (h1 : n ≤ 4503599627370496) (hm : m = if rest && (up != ng) then n + 1 else n) :
    Calls Tryd.prog 66 #[.bool ng, .int .u64 n, .bool rest, .bool up] w fun e w' => e = .returned (.tuple #[.int .i64 (putV ng m).1, .bool (putV ng m).2]) ∧ w = w' := by
  by_cases hb : 4503599627370496 < m
  · rw [show putV ng m = (0, false) by unfold putV; rw [if_pos hb]]
    cases ng <;> cases rest <;> cases up <;> simp at hm <;> subst hm <;> first | (exfalso; omega) | skip
    all_goals
      go_enter Tryd.func66, Tryd.ntmps66
      go_wp2
      go_ret2
      exact ⟨rfl, rfl⟩
  · rw [show putV ng m = (if ng then -m else m, true) by unfold putV; rw [if_neg hb]]
    cases ng <;> cases rest <;> cases up <;> simp at hm <;> subst hm
    all_goals
      go_enter Tryd.func66, Tryd.ntmps66
      go_wp2
      go_ret2
      exact ⟨rfl, rfl⟩
theorem told_put (ng : Bool) (m : Int) (w : World) (hm : 0 ≤ m) :
    Calls Tryd.prog 42 #[.int .i64 (putV ng m).1, .bool (putV ng m).2] w fun e w' => e = .returned (.tuple #[.int .i64 (sgR ng m).1, .int .i64 (sgR ng m).2]) ∧ w = w' := by
  by_cases hb : 4503599627370496 < m
  · rw [show putV ng m = (0, false) by unfold putV; rw [if_pos hb], show sgR ng m = (0, 6) by unfold sgR; rw [if_pos hb]]
    exact told_false 0 w
  · rw [show putV ng m = (if ng then -m else m, true) by unfold putV; rw [if_neg hb], sgR_lim ng m hm]
    exact told_true _ w

theorem div_ref_num (a b : Int) (up ng : Bool) (hb : b ≠ 0) :
    (ovR 4294967296 a.natAbs b.natAbs = (4294967296 * (a.natAbs : Int) / (b.natAbs : Int), decide (0 < 4294967296 * (a.natAbs : Int) % (b.natAbs : Int)), true) ∧ 0 ≤ 4294967296 * (a.natAbs : Int) / (b.natAbs : Int) ∧ 4294967296 * (a.natAbs : Int) / (b.natAbs : Int) ≤ 4503599627370496 ∧
      rdiv (up != ng) ((a.natAbs : Int) * 4294967296) (b.natAbs : Int) = if decide (0 < 4294967296 * (a.natAbs : Int) % (b.natAbs : Int)) && (up != ng) then 4294967296 * (a.natAbs : Int) / (b.natAbs : Int) + 1 else 4294967296 * (a.natAbs : Int) / (b.natAbs : Int)) ∨
    (ovR 4294967296 a.natAbs b.natAbs = (0, false, false) ∧ putV ng (rdiv (up != ng) ((a.natAbs : Int) * 4294967296) (b.natAbs : Int)) = (0, false)) := by
  have hd : 0 < (b.natAbs : Int) := by omega
  rw [Int.mul_comm 4294967296]
  have e : (a.natAbs : Int) * 4294967296 = 4294967296 * (a.natAbs : Int) := Int.mul_comm _ _
  have hq0 : 0 ≤ (a.natAbs : Int) * 4294967296 / (b.natAbs : Int) := Int.ediv_nonneg (by omega) (by omega)
  by_cases h : (a.natAbs : Int) * 4294967296 / (b.natAbs : Int) ≤ 4503599627370496
  · left
    refine ⟨by unfold ovR; rw [← e, if_pos h], hq0, h, ?_⟩
    unfold rdiv
    cases up <;> cases ng <;> simp
  · right
    refine ⟨by unfold ovR; rw [← e, if_neg h], ?_⟩
    have : (a.natAbs : Int) * 4294967296 / (b.natAbs : Int) ≤ rdiv (up != ng) ((a.natAbs : Int) * 4294967296) (b.natAbs : Int) := by
      unfold rdiv; split <;> omega
    unfold putV; rw [if_pos (by omega)]

set_option maxHeartbeats 1000000 in
theorem refDiv_any (a b : Int) (up ng : Bool) (w : World) (a0 : -4503599627370496 ≤ a) (a1 : a ≤ 4503599627370496) (b0 : -4503599627370496 ≤ b) (b1 : b ≤ 4503599627370496) (hb : b ≠ 0) (hn : ng = (decide (a < 0) != decide (b < 0))) :
    Calls Tryd.prog 56 #[.int .i64 a, .int .i64 b, .bool up] w fun e w' =>
      e = .returned (.tuple #[.int .i64 (putV ng (rdiv (up != ng) ((a.natAbs : Int) * 4294967296) (b.natAbs : Int))).1, .bool (putV ng (rdiv (up != ng) ((a.natAbs : Int) * 4294967296) (b.natAbs : Int))).2]) ∧ ∃ m, w' = w.drewN m := by
  have ho := fun w => over_ref 4294967296 (a.natAbs : Int) (b.natAbs : Int) w (by omega) (by omega) (by omega) (by omega) (by omega) (by omega)
  have hsa := fun w => refSize_any a w (by omega) (by omega)
  have hsb := fun w => refSize_any b w (by omega) (by omega)
  rcases div_ref_num a b up ng hb with ⟨h1, h2, h3, h4⟩ | ⟨h1, h2⟩
  · rw [h1] at ho
    generalize rdiv (up != ng) ((a.natAbs : Int) * 4294967296) (b.natAbs : Int) = m at *
    generalize 4294967296 * (a.natAbs : Int) / (b.natAbs : Int) = Q at *
    generalize decide (0 < 4294967296 * (a.natAbs : Int) % (b.natAbs : Int)) = rest at *
    have hp := fun w => put_any ng rest up Q m w h2 h3 h4
    dsimp only at ho
    clear h1 h4
    obtain ⟨x, hx⟩ : ∃ x, decide (a < 0) = x := ⟨_, rfl⟩
    obtain ⟨y, hy⟩ : ∃ y, decide (b < 0) = y := ⟨_, rfl⟩
    rw [hx, hy] at hn
    subst hn
    go_enter Tryd.func56, Tryd.ntmps56
    go_wp2_with (first | (go_at_call 65; (first | (with_reducible refine (hsa _).mono ?_) | (with_reducible refine (hsb _).mono ?_)); rintro e w' ⟨rfl, rfl⟩) | (go_at_call 64; refine (ho _).mono ?_; rintro e w1 ⟨rfl, n, rfl⟩) | (go_at_call 66; refine (hp _).mono ?_; rintro e w' ⟨rfl, rfl⟩))
    go_ret2
    exact ⟨rfl, _, rfl⟩
  · rw [h1] at ho
    rw [h2]
    dsimp only at ho
    clear h1 h2 hn
    go_enter Tryd.func56, Tryd.ntmps56
    go_wp2_with (first | (go_at_call 65; (first | (with_reducible refine (hsa _).mono ?_) | (with_reducible refine (hsb _).mono ?_)); rintro e w' ⟨rfl, rfl⟩) | (go_at_call 64; refine (ho _).mono ?_; rintro e w1 ⟨rfl, n, rfl⟩))
    go_ret2
    exact ⟨rfl, _, rfl⟩

theorem refQuot_any (a b : Int) (up : Bool) (w : World) :
    Calls Tryd.prog 44 #[.int .i64 a, .int .i64 b, .bool up] w fun e w' => e = .returned (.tuple #[.int .i64 (divR up a b).1, .int .i64 (divR up a b).2]) ∧ ∃ m, w' = w.drewN m := by
  rcases right_any a with ⟨h, h0, h1, hc⟩ | ⟨h, -, hc⟩
  · rcases right_any b with ⟨k, k0, k1, kc⟩ | ⟨k, -, kc⟩
    · have hck : ck2 a b = 0 := by unfold ck2; rw [if_pos h]; exact k
      clear h k
      by_cases hz : b = 0
      · rw [show divR up a b = (0, 7) by unfold divR; rw [if_pos hck, if_pos hz]]
        clear hck
        subst hz
        go_enter Tryd.func44, Tryd.ntmps44
        go_wp2_with (first | (go_at_call 41; (first | (with_reducible refine (hc _).mono ?_) | (with_reducible refine (kc _).mono ?_)); rintro e w' ⟨rfl, rfl⟩))
        go_ret2
        exact ⟨rfl, 0, rfl⟩
      · rw [show divR up a b = lim (divQ up a b) by unfold divR; rw [if_pos hck, if_neg hz]]
        clear hck
        rw [← div_num a b up hz]
        have hd := fun w => refDiv_any a b up _ w h0 h1 k0 k1 hz rfl
        have ht := fun w => told_put (decide (a < 0) != decide (b < 0)) (rdiv (up != (decide (a < 0) != decide (b < 0))) ((a.natAbs : Int) * 4294967296) (b.natAbs : Int)) w (rdiv_nonneg _ _ _ (by omega) (by omega))
        generalize putV (decide (a < 0) != decide (b < 0)) (rdiv (up != (decide (a < 0) != decide (b < 0))) ((a.natAbs : Int) * 4294967296) (b.natAbs : Int)) = pv at *
        generalize sgR (decide (a < 0) != decide (b < 0)) (rdiv (up != (decide (a < 0) != decide (b < 0))) ((a.natAbs : Int) * 4294967296) (b.natAbs : Int)) = sv at *
        have hz' : (b == 0) = false := by simpa using hz
        go_enter Tryd.func44, Tryd.ntmps44
        go_wp2_with (first | (go_at_call 41; (first | (with_reducible refine (hc _).mono ?_) | (with_reducible refine (kc _).mono ?_)); rintro e w' ⟨rfl, rfl⟩) | (go_at_call 56; refine (hd _).mono ?_; rintro e w1 ⟨rfl, n, rfl⟩) | (go_at_call 42; refine (ht _).mono ?_; rintro e w' ⟨rfl, rfl⟩))
        go_ret2
        exact ⟨rfl, _, rfl⟩
    · rw [show divR up a b = (0, 2) by unfold divR ck2; rw [if_neg (by rw [if_pos h]; omega)]]; clear h k
      go_enter Tryd.func44, Tryd.ntmps44
      go_wp2_with (first | (go_at_call 41; (first | (with_reducible refine (hc _).mono ?_) | (with_reducible refine (kc _).mono ?_)); rintro e w' ⟨rfl, rfl⟩))
      go_ret2
      exact ⟨rfl, 0, rfl⟩
  · rw [show divR up a b = (0, 2) by unfold divR ck2; rw [if_neg (by rw [if_neg (by omega)]; omega)]]; clear h
    go_enter Tryd.func44, Tryd.ntmps44
    go_wp2_with (first | (go_at_call 41; refine (hc _).mono ?_; rintro e w' ⟨rfl, rfl⟩))
    go_ret2
    exact ⟨rfl, 0, rfl⟩
theorem refDivDown_any (a b : Int) (w : World) :
    Calls Tryd.prog 23 #[.int .i64 a, .int .i64 b] w fun e w' => e = .returned (.tuple #[.int .i64 (divR false a b).1, .int .i64 (divR false a b).2]) ∧ Below w.heap.size w w' := by
  go_enter Tryd.func23, Tryd.ntmps23
  go_wp2_with (go_at_call 44; refine (refQuot_any a b false _).mono ?_; rintro e w1 ⟨rfl, n, rfl⟩)
  go_ret2
  exact ⟨rfl, by (repeat (first | with_reducible exact Below.refl _ _ | with_reducible assumption | refine Below.alloc ?_ (by (try simp); try omega) _ | refine Below.setCell ?_ (by (try simp); try omega) _ | refine below_drewN ?_ _ | refine Below.drew ?_ | (with_reducible refine Below.trans ?_ (Below.mono (by assumption) (by (try simp); try omega)))))⟩
theorem refDivUp_any (a b : Int) (w : World) :
    Calls Tryd.prog 24 #[.int .i64 a, .int .i64 b] w fun e w' => e = .returned (.tuple #[.int .i64 (divR true a b).1, .int .i64 (divR true a b).2]) ∧ Below w.heap.size w w' := by
  go_enter Tryd.func24, Tryd.ntmps24
  go_wp2_with (go_at_call 44; refine (refQuot_any a b true _).mono ?_; rintro e w1 ⟨rfl, n, rfl⟩)
  go_ret2
  exact ⟨rfl, by (repeat (first | with_reducible exact Below.refl _ _ | with_reducible assumption | refine Below.alloc ?_ (by (try simp); try omega) _ | refine Below.setCell ?_ (by (try simp); try omega) _ | refine below_drewN ?_ _ | refine Below.drew ?_ | (with_reducible refine Below.trans ?_ (Below.mono (by assumption) (by (try simp); try omega)))))⟩

end Go.Proofs.YtkapjdehcanppaaDoor
