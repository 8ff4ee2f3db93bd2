/-
  The reference for layer 1: size, put, Div, quotient, DivDown, DivUp.
-/
import Derived.Test.YtnfapdmbkpkkdaaGreatRefA
namespace Go.Proofs.YtnfapdmbkpkkdaaGreat
open Go.RowKit

theorem refSize_any (a : Int) (w : World) (h0 : -9223372036854775808 ≤ a) (h1 : a ≤ 9223372036854775807) :
    Calls Tryz.prog 91 #[.int .i64 a] w fun e w' => e = .returned (.int .u64 (a.natAbs : Int)) ∧ w = w' := by
  by_cases h : a < 0
  · go_enter Tryz.func91, Tryz.ntmps91
    go_wp2
    go_ret
    exact ⟨ret_i (by omega), rfl⟩
  · go_enter Tryz.func91, Tryz.ntmps91
    go_wp2
    go_ret
    exact ⟨ret_i (by omega), rfl⟩

/-- A magnitude with its sign, or that it is too great. -/
def putV (ng : Bool) (m : Int) : Int × Bool := if 4503599627370496 < m then (0, false) else (if ng then -m else m, true)
theorem put_any (ng rest up : Bool) (n m : Int) (w : World) (h0 : 0 ≤ n) (h1 : n ≤ 4503599627370496) (hm : m = if rest && (up != ng) then n + 1 else n) :
    Calls Tryz.prog 92 #[.bool ng, .int .u64 n, .bool rest, .bool up] w fun e w' => e = .returned (.tuple #[.int .i64 (putV ng m).1, .bool (putV ng m).2]) ∧ w = w' := by
  by_cases hb : 4503599627370496 < m
  · rw [show putV ng m = (0, false) by unfold putV; rw [if_pos hb]]
    cases ng <;> cases rest <;> cases up <;> simp at hm <;> subst hm <;> first | (exfalso; omega) | skip
    all_goals
      go_enter Tryz.func92, Tryz.ntmps92
      go_wp2
      go_ret2
      exact ⟨rfl, rfl⟩
  · rw [show putV ng m = (if ng then -m else m, true) by unfold putV; rw [if_neg hb]]
    cases ng <;> cases rest <;> cases up <;> simp at hm <;> subst hm
    all_goals
      go_enter Tryz.func92, Tryz.ntmps92
      go_wp2
      go_ret2
      exact ⟨rfl, rfl⟩
theorem div_ref_num (a b : Int) (up ng : Bool) (hb : b ≠ 0) :
    (ovF 4294967296 a.natAbs b.natAbs = (4294967296 * (a.natAbs : Int) / (b.natAbs : Int), decide (0 < 4294967296 * (a.natAbs : Int) % (b.natAbs : Int)), true) ∧ 0 ≤ 4294967296 * (a.natAbs : Int) / (b.natAbs : Int) ∧ 4294967296 * (a.natAbs : Int) / (b.natAbs : Int) ≤ 4503599627370496 ∧
      rdiv (up != ng) ((a.natAbs : Int) * 4294967296) (b.natAbs : Int) = if decide (0 < 4294967296 * (a.natAbs : Int) % (b.natAbs : Int)) && (up != ng) then 4294967296 * (a.natAbs : Int) / (b.natAbs : Int) + 1 else 4294967296 * (a.natAbs : Int) / (b.natAbs : Int)) ∨
    (ovF 4294967296 a.natAbs b.natAbs = (0, false, false) ∧ putV ng (rdiv (up != ng) ((a.natAbs : Int) * 4294967296) (b.natAbs : Int)) = (0, false)) := by
  have hd : 0 < (b.natAbs : Int) := by omega
  rw [Int.mul_comm 4294967296]
  have e : (a.natAbs : Int) * 4294967296 = 4294967296 * (a.natAbs : Int) := Int.mul_comm _ _
  have hq0 : 0 ≤ (a.natAbs : Int) * 4294967296 / (b.natAbs : Int) := Int.ediv_nonneg (by omega) (by omega)
  by_cases h : (a.natAbs : Int) * 4294967296 / (b.natAbs : Int) ≤ 4503599627370496
  · left
    refine ⟨by unfold ovF; rw [← e, if_pos h], hq0, h, ?_⟩
    unfold rdiv
    cases up <;> cases ng <;> simp
  · right
    refine ⟨by unfold ovF; rw [← e, if_neg h], ?_⟩
    have : (a.natAbs : Int) * 4294967296 / (b.natAbs : Int) ≤ rdiv (up != ng) ((a.natAbs : Int) * 4294967296) (b.natAbs : Int) := by
      unfold rdiv; split <;> omega
    unfold putV; rw [if_pos (by omega)]

set_option maxHeartbeats 1000000 in
theorem refDiv_any (a b : Int) (up ng : Bool) (w : World) (a0 : -4503599627370496 ≤ a) (a1 : a ≤ 4503599627370496) (b0 : -4503599627370496 ≤ b) (b1 : b ≤ 4503599627370496) (hb : b ≠ 0) (hn : ng = (decide (a < 0) != decide (b < 0))) :
    Calls Tryz.prog 84 #[.int .i64 a, .int .i64 b, .bool up] w fun e w' =>
      e = .returned (.tuple #[.int .i64 (putV ng (rdiv (up != ng) ((a.natAbs : Int) * 4294967296) (b.natAbs : Int))).1, .bool (putV ng (rdiv (up != ng) ((a.natAbs : Int) * 4294967296) (b.natAbs : Int))).2]) ∧ ∃ m, w' = w.drewN m := by
  have ho := fun w => over_ref 4294967296 (a.natAbs : Int) (b.natAbs : Int) w (by omega) (by omega) (by omega) (by omega) (by omega) (by omega)
  have hsa := fun w => refSize_any a w (by omega) (by omega)
  have hsb := fun w => refSize_any b w (by omega) (by omega)
  rcases div_ref_num a b up ng hb with ⟨h1, h2, h3, h4⟩ | ⟨h1, h2⟩
  · rw [h1] at ho
    generalize rdiv (up != ng) ((a.natAbs : Int) * 4294967296) (b.natAbs : Int) = m at *
    generalize 4294967296 * (a.natAbs : Int) / (b.natAbs : Int) = Q at *
    generalize decide (0 < 4294967296 * (a.natAbs : Int) % (b.natAbs : Int)) = rest at *
    have hp := fun w => put_any ng rest up Q m w h2 h3 h4
    dsimp only at ho
    clear h1 h4
    obtain ⟨x, hx⟩ : ∃ x, decide (a < 0) = x := ⟨_, rfl⟩
    obtain ⟨y, hy⟩ : ∃ y, decide (b < 0) = y := ⟨_, rfl⟩
    rw [hx, hy] at hn
    subst hn
    go_enter Tryz.func84, Tryz.ntmps84
    go_wp2_with (first | (go_at_call 91; (first | (with_reducible refine (hsa _).mono ?_) | (with_reducible refine (hsb _).mono ?_)); rintro e w' ⟨rfl, rfl⟩) | (go_at_call 99; refine (ho _).mono ?_; rintro e w1 ⟨rfl, n, rfl⟩) | (go_at_call 92; refine (hp _).mono ?_; rintro e w' ⟨rfl, rfl⟩))
    go_ret2
    exact ⟨rfl, _, rfl⟩
  · rw [h1] at ho
    rw [h2]
    dsimp only at ho
    clear h1 h2 hn
    go_enter Tryz.func84, Tryz.ntmps84
    go_wp2_with (first | (go_at_call 91; (first | (with_reducible refine (hsa _).mono ?_) | (with_reducible refine (hsb _).mono ?_)); rintro e w' ⟨rfl, rfl⟩) | (go_at_call 99; refine (ho _).mono ?_; rintro e w1 ⟨rfl, n, rfl⟩))
    go_ret2
    exact ⟨rfl, _, rfl⟩

end Go.Proofs.YtnfapdmbkpkkdaaGreat
