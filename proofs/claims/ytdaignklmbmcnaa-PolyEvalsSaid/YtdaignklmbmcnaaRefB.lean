/-
  The reference for layer 1: size, put, Div, quotient, DivDown, DivUp.
-/
import Derived.Test.YtdaignklmbmcnaaRefA
namespace Go.Proofs.Ytdaignklmbmcnaa
open Go.RowKit

theorem refSize_any (a : Int) (w : World) (h0 : -9223372036854775808 ≤ a) (h1 : a ≤ 9223372036854775807) :
    Calls Try.prog 60 #[.int .i64 a] w fun e w' => e = .returned (.int .u64 (a.natAbs : Int)) ∧ w = w' := by
  by_cases h : a < 0
  · go_enter Try.func60, Try.ntmps60
    go_wp2
    go_ret
    exact ⟨ret_i (by omega), rfl⟩
  · go_enter Try.func60, Try.ntmps60
    go_wp2
    go_ret
    exact ⟨ret_i (by omega), rfl⟩

/-- A magnitude with its sign, or that it is too great. -/
def putV (ng : Bool) (m : Int) : Int × Bool := if 4503599627370496 < m then (0, false) else (if ng then -m else m, true)
theorem put_any (ng rest up : Bool) (n m : Int) (w : World) (h0 : 0 ≤ n) (h1 : n ≤ 4503599627370496) (hm : m = if rest && (up != ng) then n + 1 else n) :
    Calls Try.prog 61 #[.bool ng, .int .u64 n, .bool rest, .bool up] w fun e w' => e = .returned (.tuple #[.int .i64 (putV ng m).1, .bool (putV ng m).2]) ∧ w = w' := by
  by_cases hb : 4503599627370496 < m
  · rw [show putV ng m = (0, false) by unfold putV; rw [if_pos hb]]
    cases ng <;> cases rest <;> cases up <;> simp at hm <;> subst hm <;> first | (exfalso; omega) | skip
    all_goals
      go_enter Try.func61, Try.ntmps61
      go_wp2
      go_ret2
      exact ⟨rfl, rfl⟩
  · rw [show putV ng m = (if ng then -m else m, true) by unfold putV; rw [if_neg hb]]
    cases ng <;> cases rest <;> cases up <;> simp at hm <;> subst hm
    all_goals
      go_enter Try.func61, Try.ntmps61
      go_wp2
      go_ret2
      exact ⟨rfl, rfl⟩
theorem told_put (ng : Bool) (m : Int) (w : World) (hm : 0 ≤ m) :
    Calls Try.prog 73 #[.int .i64 (putV ng m).1, .bool (putV ng m).2] w fun e w' => e = .returned (.tuple #[.int .i64 (sgR ng m).1, .int .i64 (sgR ng m).2]) ∧ w = w' := by
  by_cases hb : 4503599627370496 < m
  · rw [show putV ng m = (0, false) by unfold putV; rw [if_pos hb], show sgR ng m = (0, 6) by unfold sgR; rw [if_pos hb]]
    exact told_false 0 w
  · rw [show putV ng m = (if ng then -m else m, true) by unfold putV; rw [if_neg hb], sgR_lim ng m hm]
    exact told_true _ w

theorem div_ref_num (a b : Int) (up ng : Bool) (hb : b ≠ 0) :
    (ovF 4294967296 a.natAbs b.natAbs = (4294967296 * (a.natAbs : Int) / (b.natAbs : Int), decide (0 < 4294967296 * (a.natAbs : Int) % (b.natAbs : Int)), true) ∧ 0 ≤ 4294967296 * (a.natAbs : Int) / (b.natAbs : Int) ∧ 4294967296 * (a.natAbs : Int) / (b.natAbs : Int) ≤ 4503599627370496 ∧
      rdiv (up != ng) ((a.natAbs : Int) * 4294967296) (b.natAbs : Int) = if decide (0 < 4294967296 * (a.natAbs : Int) % (b.natAbs : Int)) && (up != ng) then 4294967296 * (a.natAbs : Int) / (b.natAbs : Int) + 1 else 4294967296 * (a.natAbs : Int) / (b.natAbs : Int)) ∨
    (ovF 4294967296 a.natAbs b.natAbs = (0, false, false) ∧ putV ng (rdiv (up != ng) ((a.natAbs : Int) * 4294967296) (b.natAbs : Int)) = (0, false)) := by
  have hd : 0 < (b.natAbs : Int) := by omega
  rw [Int.mul_comm 4294967296]
  have e : (a.natAbs : Int) * 4294967296 = 4294967296 * (a.natAbs : Int) := Int.mul_comm _ _
  have hq0 : 0 ≤ (a.natAbs : Int) * 4294967296 / (b.natAbs : Int) := Int.ediv_nonneg (by omega) (by omega)
  by_cases h : (a.natAbs : Int) * 4294967296 / (b.natAbs : Int) ≤ 4503599627370496
  · left
    refine ⟨by unfold ovF; rw [← e, if_pos h], hq0, h, ?_⟩
    unfold rdiv
    cases up <;> cases ng <;> simp
  · right
    refine ⟨by unfold ovF; rw [← e, if_neg h], ?_⟩
    have : (a.natAbs : Int) * 4294967296 / (b.natAbs : Int) ≤ rdiv (up != ng) ((a.natAbs : Int) * 4294967296) (b.natAbs : Int) := by
      unfold rdiv; split <;> omega
    unfold putV; rw [if_pos (by omega)]

end Go.Proofs.Ytdaignklmbmcnaa
