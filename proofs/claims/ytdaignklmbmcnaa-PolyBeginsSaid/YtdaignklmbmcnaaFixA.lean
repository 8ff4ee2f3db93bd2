/-
  Walks of package fix: Check, checkBoth, limited, Add, Sub, Neg, magnitude, near.
-/
import Derived.Test.YtdaignklmbmcnaaRows
import Derived.WalkKit
import Derived.WalkSpells
import Derived.WalkLawsBesides
namespace Go.Proofs.Ytdaignklmbmcnaa
open Go.RowKit

def ckErr (a : Int) : Int := if a < -4503599627370496 ∨ 4503599627370496 < a then 2 else 0
theorem ckErr_ok {a : Int} (h0 : -4503599627370496 ≤ a) (h1 : a ≤ 4503599627370496) : ckErr a = 0 := by
  unfold ckErr; rw [if_neg (by omega)]
theorem ckErr_lo {a : Int} (h0 : a < -4503599627370496) : ckErr a = 2 := by
  unfold ckErr; rw [if_pos (by omega)]
theorem ckErr_hi {a : Int} (h0 : 4503599627370496 < a) : ckErr a = 2 := by
  unfold ckErr; rw [if_pos (by omega)]

theorem ret_i {a b : Int} {k : IntKind} (h : a = b) : Ending.returned (.int k a) = .returned (.int k b) := by rw [h]

theorem check_ok (a : Int) (w : World) (h0 : -4503599627370496 ≤ a) (h1 : a ≤ 4503599627370496) :
    Calls Try.prog 75 #[.int .i64 a] w fun e w' => e = .returned (.int .i64 0) ∧ w = w' := by
  go_enter Try.func75, Try.ntmps75
  go_wp2
  go_ret
  exact ⟨rfl, rfl⟩
theorem check_lo (a : Int) (w : World) (h0 : a < -4503599627370496) :
    Calls Try.prog 75 #[.int .i64 a] w fun e w' => e = .returned (.int .i64 2) ∧ w = w' := by
  go_enter Try.func75, Try.ntmps75
  go_wp2
  go_ret
  exact ⟨rfl, rfl⟩
theorem check_hi (a : Int) (w : World) (h0 : 4503599627370496 < a) :
    Calls Try.prog 75 #[.int .i64 a] w fun e w' => e = .returned (.int .i64 2) ∧ w = w' := by
  go_enter Try.func75, Try.ntmps75
  go_wp2
  go_ret
  exact ⟨rfl, rfl⟩
theorem check_any (a : Int) (w : World) :
    Calls Try.prog 75 #[.int .i64 a] w fun e w' => e = .returned (.int .i64 (ckErr a)) ∧ w = w' := by
  by_cases h0 : a < -4503599627370496
  · rw [ckErr_lo h0]; exact check_lo a w h0
  by_cases h1 : 4503599627370496 < a
  · rw [ckErr_hi h1]; exact check_hi a w h1
  rw [ckErr_ok (by omega) (by omega)]; exact check_ok a w (by omega) (by omega)

def ck2 (a b : Int) : Int := if ckErr a = 0 then ckErr b else 2
theorem ckErr_cases (a : Int) : ckErr a = 0 ∧ -4503599627370496 ≤ a ∧ a ≤ 4503599627370496 ∨ ckErr a = 2 ∧ (a < -4503599627370496 ∨ 4503599627370496 < a) := by
  unfold ckErr; split <;> omega

theorem both_any (a b : Int) (w : World) :
    Calls Try.prog 68 #[.int .i64 a, .int .i64 b] w fun e w' => e = .returned (.int .i64 (ck2 a b)) ∧ w = w' := by
  rcases ckErr_cases a with ⟨h, h0, h1⟩ | ⟨h, h0⟩
  · have e : ck2 a b = ckErr b := by unfold ck2; rw [if_pos h]
    rw [e]; clear e h
    go_enter Try.func68, Try.ntmps68
    go_wp2_with (go_at_call 75; (first | (with_reducible refine (check_ok a _ h0 h1).mono ?_) | (with_reducible refine (check_any b _).mono ?_)); rintro e w' ⟨rfl, rfl⟩)
    go_ret
    exact ⟨rfl, rfl⟩
  · have e : ck2 a b = 2 := by unfold ck2; rw [if_neg (by omega)]
    have hc := check_any a w
    rw [h] at hc
    rw [e]; clear e h
    go_enter Try.func68, Try.ntmps68
    go_wp2_with (go_at_call 75; refine hc.mono ?_; rintro e w' ⟨rfl, rfl⟩)
    go_ret
    exact ⟨rfl, rfl⟩

/-- What 'limited' makes of an exact result. -/
def lim (a : Int) : Int × Int := if a < -4503599627370496 ∨ 4503599627370496 < a then (0, 6) else (a, 0)
/-- Results of two numbers that are checked first. -/
def pairR (a b r : Int) : Int × Int := if ck2 a b = 0 then lim r else (0, 2)
theorem ck2_cases (a b : Int) : ck2 a b = 0 ∧ -4503599627370496 ≤ a ∧ a ≤ 4503599627370496 ∧ -4503599627370496 ≤ b ∧ b ≤ 4503599627370496 ∨
    ck2 a b = 2 ∧ (a < -4503599627370496 ∨ 4503599627370496 < a ∨ b < -4503599627370496 ∨ 4503599627370496 < b) := by
  unfold ck2
  rcases ckErr_cases a with ⟨h, h0, h1⟩ | ⟨h, h0⟩ <;> rcases ckErr_cases b with ⟨k, k0, k1⟩ | ⟨k, k0⟩ <;> simp [h, k] <;> omega

def negR (a : Int) : Int × Int := if ckErr a = 0 then (-a, 0) else (0, 2)
theorem magnitude_any (a : Int) (w : World) (h0 : -9223372036854775808 ≤ a) (h1 : a ≤ 9223372036854775807) :
    Calls Try.prog 81 #[.int .i64 a] w fun e w' => e = .returned (.int .u64 (a.natAbs : Int)) ∧ w = w' := by
  by_cases h : a < 0
  · go_enter Try.func81, Try.ntmps81
    go_wp2
    go_ret
    exact ⟨ret_i (by rw [IntKind.wrap_u64]; unfold wrap64; omega), rfl⟩
  · go_enter Try.func81, Try.ntmps81
    go_wp2
    go_ret
    exact ⟨ret_i (by omega), rfl⟩

end Go.Proofs.Ytdaignklmbmcnaa
