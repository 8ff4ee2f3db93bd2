/-
  Walks of package fix: Check, checkBoth, limited, Add, Sub, Neg, magnitude, near.
-/
import Derived.Test.YtkapjdehcanppaaDoorRows
import Derived.WalkKit
import Derived.WalkSpells
import Derived.WalkLawsBesides
namespace Go.Proofs.YtkapjdehcanppaaDoor
open Go.RowKit

def ckErr (a : Int) : Int := if a < -4503599627370496 ∨ 4503599627370496 < a then 2 else 0
theorem ckErr_ok {a : Int} (h0 : -4503599627370496 ≤ a) (h1 : a ≤ 4503599627370496) : ckErr a = 0 := by
  unfold ckErr; rw [if_neg (by omega)]
theorem ckErr_lo {a : Int} (h0 : a < -4503599627370496) : ckErr a = 2 := by
  unfold ckErr; rw [if_pos (by omega)]
theorem ckErr_hi {a : Int} (h0 : 4503599627370496 < a) : ckErr a = 2 := by
  unfold ckErr; rw [if_pos (by omega)]

theorem ret_i {a b : Int} {k : IntKind} (h : a = b) : Ending.returned (.int k a) = .returned (.int k b) := by rw [h]

theorem check_ok (a : Int) (w : World) (h0 : -4503599627370496 ≤ a) (h1 : a ≤ 4503599627370496) :
    Calls Tryd.prog 19 #[.int .i64 a] w fun e w' => e = .returned (.int .i64 0) ∧ w = w' := by
  go_enter Tryd.func19, Tryd.ntmps19
  go_wp2
  go_ret
  exact ⟨rfl, rfl⟩
theorem check_lo (a : Int) (w : World) (h0 : a < -4503599627370496) :
    Calls Tryd.prog 19 #[.int .i64 a] w fun e w' => e = .returned (.int .i64 2) ∧ w = w' := by
  go_enter Tryd.func19, Tryd.ntmps19
  go_wp2
  go_ret
  exact ⟨rfl, rfl⟩
theorem check_hi (a : Int) (w : World) (h0 : 4503599627370496 < a) :
    Calls Tryd.prog 19 #[.int .i64 a] w fun e w' => e = .returned (.int .i64 2) ∧ w = w' := by
  go_enter Tryd.func19, Tryd.ntmps19
  go_wp2
  go_ret
  exact ⟨rfl, rfl⟩
theorem check_any (a : Int) (w : World) :
    Calls Tryd.prog 19 #[.int .i64 a] w fun e w' => e = .returned (.int .i64 (ckErr a)) ∧ w = w' := by
  by_cases h0 : a < -4503599627370496
  · rw [ckErr_lo h0]; exact check_lo a w h0
  by_cases h1 : 4503599627370496 < a
  · rw [ckErr_hi h1]; exact check_hi a w h1
  rw [ckErr_ok (by omega) (by omega)]; exact check_ok a w (by omega) (by omega)

def ck2 (a b : Int) : Int := if ckErr a = 0 then ckErr b else 2
theorem ckErr_cases (a : Int) : ckErr a = 0 ∧ -4503599627370496 ≤ a ∧ a ≤ 4503599627370496 ∨ ckErr a = 2 ∧ (a < -4503599627370496 ∨ 4503599627370496 < a) := by
  unfold ckErr; split <;> omega

theorem both_any (a b : Int) (w : World) :
    Calls Tryd.prog 39 #[.int .i64 a, .int .i64 b] w fun e w' => e = .returned (.int .i64 (ck2 a b)) ∧ w = w' := by
  rcases ckErr_cases a with ⟨h, h0, h1⟩ | ⟨h, h0⟩
  · have e : ck2 a b = ckErr b := by unfold ck2; rw [if_pos h]
    rw [e]; clear e h
    go_enter Tryd.func39, Tryd.ntmps39
    go_wp2_with (go_at_call 19; (first | (with_reducible refine (check_ok a _ h0 h1).mono ?_) | (with_reducible refine (check_any b _).mono ?_)); rintro e w' ⟨rfl, rfl⟩)
    go_ret
    exact ⟨rfl, rfl⟩
  · have e : ck2 a b = 2 := by unfold ck2; rw [if_neg (by omega)]
    have hc := check_any a w
    rw [h] at hc
    rw [e]; clear e h
    go_enter Tryd.func39, Tryd.ntmps39
    go_wp2_with (go_at_call 19; refine hc.mono ?_; rintro e w' ⟨rfl, rfl⟩)
    go_ret
    exact ⟨rfl, rfl⟩

theorem limited_ok (a : Int) (w : World) (h0 : -4503599627370496 ≤ a) (h1 : a ≤ 4503599627370496) :
    Calls Tryd.prog 40 #[.int .i64 a] w fun e w' => e = .returned (.tuple #[.int .i64 a, .int .i64 0]) ∧ w = w' := by
  go_enter Tryd.func40, Tryd.ntmps40
  go_wp2_with (go_at_call 19; refine (check_ok a _ h0 h1).mono ?_; rintro e w' ⟨rfl, rfl⟩)
  go_ret2
  exact ⟨rfl, rfl⟩
theorem limited_big (a : Int) (w : World) (h0 : a < -4503599627370496 ∨ 4503599627370496 < a) :
    Calls Tryd.prog 40 #[.int .i64 a] w fun e w' => e = .returned (.tuple #[.int .i64 0, .int .i64 6]) ∧ w = w' := by
  have hc := check_any a w
  rw [show ckErr a = 2 by unfold ckErr; rw [if_pos h0]] at hc
  go_enter Tryd.func40, Tryd.ntmps40
  go_wp2_with (go_at_call 19; refine hc.mono ?_; rintro e w' ⟨rfl, rfl⟩)
  go_ret2
  exact ⟨rfl, rfl⟩

/-- What 'limited' makes of an exact result. -/
def lim (a : Int) : Int × Int := if a < -4503599627370496 ∨ 4503599627370496 < a then (0, 6) else (a, 0)
/-- Results of two numbers that are checked first. -/
def pairR (a b r : Int) : Int × Int := if ck2 a b = 0 then lim r else (0, 2)
theorem limited_any (a : Int) (w : World) :
    Calls Tryd.prog 40 #[.int .i64 a] w fun e w' => e = .returned (.tuple #[.int .i64 (lim a).1, .int .i64 (lim a).2]) ∧ w = w' := by
  unfold lim
  split
  · exact limited_big a w ‹_›
  · exact limited_ok a w (by omega) (by omega)

theorem ck2_cases (a b : Int) : ck2 a b = 0 ∧ -4503599627370496 ≤ a ∧ a ≤ 4503599627370496 ∧ -4503599627370496 ≤ b ∧ b ≤ 4503599627370496 ∨
    ck2 a b = 2 ∧ (a < -4503599627370496 ∨ 4503599627370496 < a ∨ b < -4503599627370496 ∨ 4503599627370496 < b) := by
  unfold ck2
  rcases ckErr_cases a with ⟨h, h0, h1⟩ | ⟨h, h0⟩ <;> rcases ckErr_cases b with ⟨k, k0, k1⟩ | ⟨k, k0⟩ <;> simp [h, k] <;> omega

theorem add_any (a b : Int) (w : World) :
    Calls Tryd.prog 13 #[.int .i64 a, .int .i64 b] w fun e w' => e = .returned (.tuple #[.int .i64 (pairR a b (a + b)).1, .int .i64 (pairR a b (a + b)).2]) ∧ w = w' := by
  have hb := both_any a b w
  rcases ck2_cases a b with ⟨h, h0, h1, h2, h3⟩ | ⟨h, h0⟩
  · rw [show pairR a b (a + b) = lim (a + b) by unfold pairR; rw [if_pos h]]
    rw [h] at hb; clear h
    go_enter Tryd.func13, Tryd.ntmps13
    go_wp2_with (first | (go_at_call 39; refine hb.mono ?_; rintro e w' ⟨rfl, rfl⟩) | (go_at_call 40; refine (limited_any _ _).mono ?_; rintro e w' ⟨rfl, rfl⟩))
    go_ret2
    exact ⟨rfl, rfl⟩
  · rw [show pairR a b (a + b) = (0, 2) by unfold pairR; rw [if_neg (by omega)]]
    rw [h] at hb; clear h h0
    go_enter Tryd.func13, Tryd.ntmps13
    go_wp2_with (first | (go_at_call 39; refine hb.mono ?_; rintro e w' ⟨rfl, rfl⟩))
    go_ret2
    exact ⟨rfl, rfl⟩
theorem sub_any (a b : Int) (w : World) :
    Calls Tryd.prog 14 #[.int .i64 a, .int .i64 b] w fun e w' => e = .returned (.tuple #[.int .i64 (pairR a b (a - b)).1, .int .i64 (pairR a b (a - b)).2]) ∧ w = w' := by
  have hb := both_any a b w
  rcases ck2_cases a b with ⟨h, h0, h1, h2, h3⟩ | ⟨h, h0⟩
  · rw [show pairR a b (a - b) = lim (a - b) by unfold pairR; rw [if_pos h]]
    rw [h] at hb; clear h
    go_enter Tryd.func14, Tryd.ntmps14
    go_wp2_with (first | (go_at_call 39; refine hb.mono ?_; rintro e w' ⟨rfl, rfl⟩) | (go_at_call 40; refine (limited_any _ _).mono ?_; rintro e w' ⟨rfl, rfl⟩))
    go_ret2
    exact ⟨rfl, rfl⟩
  · rw [show pairR a b (a - b) = (0, 2) by unfold pairR; rw [if_neg (by omega)]]
    rw [h] at hb; clear h h0
    go_enter Tryd.func14, Tryd.ntmps14
    go_wp2_with (first | (go_at_call 39; refine hb.mono ?_; rintro e w' ⟨rfl, rfl⟩))
    go_ret2
    exact ⟨rfl, rfl⟩
def negR (a : Int) : Int × Int := if ckErr a = 0 then (-a, 0) else (0, 2)
theorem neg_any (a : Int) (w : World) :
    Calls Tryd.prog 15 #[.int .i64 a] w fun e w' => e = .returned (.tuple #[.int .i64 (negR a).1, .int .i64 (negR a).2]) ∧ w = w' := by
  have hb := check_any a w
  rcases ckErr_cases a with ⟨h, h0, h1⟩ | ⟨h, h0⟩
  · rw [show negR a = (-a, 0) by unfold negR; rw [if_pos h]]
    rw [h] at hb; clear h
    go_enter Tryd.func15, Tryd.ntmps15
    go_wp2_with (first | (go_at_call 19; refine hb.mono ?_; rintro e w' ⟨rfl, rfl⟩))
    go_ret2
    exact ⟨rfl, rfl⟩
  · rw [show negR a = (0, 2) by unfold negR; rw [if_neg (by omega)]]
    rw [h] at hb; clear h h0
    go_enter Tryd.func15, Tryd.ntmps15
    go_wp2_with (first | (go_at_call 19; refine hb.mono ?_; rintro e w' ⟨rfl, rfl⟩))
    go_ret2
    exact ⟨rfl, rfl⟩

theorem magnitude_any (a : Int) (w : World) (h0 : -9223372036854775808 ≤ a) (h1 : a ≤ 9223372036854775807) :
    Calls Tryd.prog 59 #[.int .i64 a] w fun e w' => e = .returned (.int .u64 (a.natAbs : Int)) ∧ w = w' := by
  by_cases h : a < 0
  · go_enter Tryd.func59, Tryd.ntmps59
    go_wp2
    go_ret
    exact ⟨ret_i (by rw [IntKind.wrap_u64]; unfold wrap64; omega), rfl⟩
  · go_enter Tryd.func59, Tryd.ntmps59
    go_wp2
    go_ret
    exact ⟨ret_i (by omega), rfl⟩

end Go.Proofs.YtkapjdehcanppaaDoor
