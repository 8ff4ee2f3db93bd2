/-
  Walks of package fix: numbers of 128 bits: product, next, exceeds.
-/
import Derived.Test.YtdaignklmbmcnaaFixA
import Derived.Test.YtdaignklmbmcnaaShelf
import Derived.Lib.Hide
namespace Go.Proofs.Ytdaignklmbmcnaa
open Go.RowKit

/-- The upper and the lower half of a number of 128 bits. -/
def hi64 (n : Int) : Int := n / 18446744073709551616
def lo64 (n : Int) : Int := n % 18446744073709551616
theorem lo64_lt (n : Int) : 0 ≤ lo64 n ∧ lo64 n ≤ 18446744073709551615 := by unfold lo64; omega
theorem hi64_lt (n : Int) (h0 : 0 ≤ n) (h1 : n < 340282366920938463463374607431768211456) : 0 ≤ hi64 n ∧ hi64 n ≤ 18446744073709551615 := by unfold hi64; omega

theorem mul64 (a b : Int) (w : World) (a0 : 0 ≤ a) (a1 : a ≤ 18446744073709551615) (b0 : 0 ≤ b) (b1 : b ≤ 18446744073709551615) :
    Calls Try.prog 83 #[.int .u64 a, .int .u64 b] w fun e w' => e = .returned (.tuple #[.int .u64 (hi64 (a * b)), .int .u64 (lo64 (a * b))]) ∧ w = w' := by
  obtain ⟨x, rfl⟩ := Int.eq_ofNat_of_zero_le a0
  obtain ⟨y, rfl⟩ := Int.eq_ofNat_of_zero_le b0
  refine (Try.bits_Mul64 x y (by omega) (by omega) w).mono ?_
  rintro e w' ⟨he, hw⟩
  refine ⟨?_, hw.symm⟩
  rw [he]
  unfold hi64 lo64
  rw [← Int.natCast_mul]
  generalize x * y = n
  rw [show ((n / 18446744073709551616 : Nat) : Int) = (n : Int) / 18446744073709551616 by omega, show ((n % 18446744073709551616 : Nat) : Int) = (n : Int) % 18446744073709551616 by omega]

theorem product_any (a b : Int) (w : World) (a0 : 0 ≤ a) (a1 : a ≤ 18446744073709551615) (b0 : 0 ≤ b) (b1 : b ≤ 18446744073709551615) :
    Calls Try.prog 78 #[.int .u64 a, .int .u64 b] w fun e w' => e = .returned (.agg #[.int .u64 (hi64 (a * b)), .int .u64 (lo64 (a * b))]) ∧ Below w.heap.size w w' := by
  go_enter Try.func78, Try.ntmps78
  go_wp2_with (go_at_call 83; refine (mul64 a b _ a0 a1 b0 b1).mono ?_; rintro e w' ⟨rfl, rfl⟩)
  exact bodyPost_ret (v := .agg #[.int .u64 (hi64 (a * b)), .int .u64 (lo64 (a * b))]) (by simp [results, Try.results78, go_sem]) rfl ⟨rfl, (Below.refl _ _).alloc (Nat.le_refl _) _⟩

theorem exceeds_any (ah al bh bl : Int) (w : World) :
    Calls Try.prog 82 #[.agg #[.int .u64 ah, .int .u64 al], .agg #[.int .u64 bh, .int .u64 bl]] w fun e w' => e = .returned (.bool (decide (bh < ah ∨ ah = bh ∧ bl < al))) ∧ Below w.heap.size w w' := by
  by_cases h : bh < ah
  · rw [show decide (bh < ah ∨ ah = bh ∧ bl < al) = true by simp; omega]
    go_enter Try.func82, Try.ntmps82
    go_wp2
    go_ret
    exact ⟨rfl, ((Below.refl _ _).alloc (Nat.le_refl _) _).alloc (by simp) _⟩
  by_cases h2 : ah = bh
  · subst h2
    rw [show decide (ah < ah ∨ ah = ah ∧ bl < al) = decide (bl < al) by simp]
    go_enter Try.func82, Try.ntmps82
    go_wp2
    go_ret
    exact ⟨rfl, ((Below.refl _ _).alloc (Nat.le_refl _) _).alloc (by simp) _⟩
  · rw [show decide (bh < ah ∨ ah = bh ∧ bl < al) = false by simp; omega]
    have h3 : (ah == bh) = false := by simpa using h2
    go_enter Try.func82, Try.ntmps82
    go_wp2
    go_ret
    exact ⟨rfl, ((Below.refl _ _).alloc (Nat.le_refl _) _).alloc (by simp) _⟩

/-- Whether a number is greater than another one: closed to the walk. -/
def gtB (a b : Int) : Bool := decide (b < a)
theorem exceeds_num (a b : Int) (w : World) :
    Calls Try.prog 82 #[.agg #[.int .u64 (hi64 a), .int .u64 (lo64 a)], .agg #[.int .u64 (hi64 b), .int .u64 (lo64 b)]] w fun e w' => e = .returned (.bool (gtB a b)) ∧ Below w.heap.size w w' := by
  have h := exceeds_any (hi64 a) (lo64 a) (hi64 b) (lo64 b) w
  rw [show decide (hi64 b < hi64 a ∨ hi64 a = hi64 b ∧ lo64 b < lo64 a) = gtB a b by unfold gtB hi64 lo64; rw [decide_eq_decide]; omega] at h
  exact h

theorem add64_1 (x : Int) (w : World) (x0 : 0 ≤ x) :
    (callFunc 87 #[.int .u64 x, .int .u64 1, .int .u64 0]).run Try.prog w =
      .ok (.value (.tuple #[.int .u64 (lo64 (x + 1)), .int .u64 (hi64 (x + 1))])) w := by
  rw [run_callFunc_extern Try.func87 (by kernel_rfl) (by kernel_rfl) (by kernel_rfl) (e := add64Entry) (by kernel_rfl), run_add64 x 1 0 x0 (by omega) (by omega) (by omega)]
  simp only [Result.andThen, Int.add_zero]
  rfl

theorem next_any (n : Int) (w : World) (h0 : 0 ≤ n) (h1 : n < 340282366920938463463374607431768211455) :
    Calls Try.prog 85 #[.agg #[.int .u64 (hi64 n), .int .u64 (lo64 n)]] w fun e w' => e = .returned (.agg #[.int .u64 (hi64 (n + 1)), .int .u64 (lo64 (n + 1))]) ∧ Below w.heap.size w w' := by
  have hl := lo64_lt n
  have hh := hi64_lt n h0 (by omega)
  have hc : 0 ≤ hi64 (lo64 n + 1) ∧ hi64 (lo64 n + 1) ≤ 1 := by unfold hi64; omega
  have hs : hi64 n + hi64 (lo64 n + 1) ≤ 18446744073709551615 := by unfold hi64 lo64; omega
  have e1 := Lib.hid (show hi64 n + hi64 (lo64 n + 1) = hi64 (n + 1) by unfold hi64 lo64; omega)
  have e2 := Lib.hid (show lo64 (lo64 n + 1) = lo64 (n + 1) by unfold lo64; omega)
  go_enter Try.func85, Try.ntmps85
  go_wp2_with (simp only [add64_1 _ _ hl.1])
  rw [e1.out, e2.out]
  exact bodyPost_ret (v := .agg #[.int .u64 (hi64 (n + 1)), .int .u64 (lo64 (n + 1))]) (by simp [results, Try.results85, go_sem]) rfl ⟨rfl, ((Below.refl _ _).alloc (Nat.le_refl _) _).alloc (by simp) _⟩

end Go.Proofs.Ytdaignklmbmcnaa
