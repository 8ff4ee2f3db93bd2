/-
  The reference for layer 1: Sqrt, SqrtDown, SqrtUp.
-/
import Derived.Test.YtnfapdmbkpkkdaaGreatFixQ
import Derived.Test.YtnfapdmbkpkkdaaGreatFixK
namespace Go.Proofs.YtnfapdmbkpkkdaaGreat
open Go.RowKit

/-- One step of the root, two bits at a time: M is the number so far, R its root. -/
theorem rstep (M R rest two : Int) (h1 : rest = M - R * R) (h2 : R * R ≤ M) (h3 : M < (R + 1) * (R + 1)) (t0 : 0 ≤ two) (t1 : two ≤ 3) (_r0 : 0 ≤ R) :
    (4 * R + 1 ≤ 4 * rest + two → (4 * rest + two) - (4 * R + 1) = (4 * M + two) - (2 * R + 1) * (2 * R + 1) ∧ (2 * R + 1) * (2 * R + 1) ≤ 4 * M + two ∧ 4 * M + two < (2 * R + 1 + 1) * (2 * R + 1 + 1)) ∧
    (4 * rest + two < 4 * R + 1 → 4 * rest + two = (4 * M + two) - (2 * R) * (2 * R) ∧ (2 * R) * (2 * R) ≤ 4 * M + two ∧ 4 * M + two < (2 * R + 1) * (2 * R + 1)) := by
  have e1 : (2 * R + 1) * (2 * R + 1) = 4 * (R * R) + 4 * R + 1 := by grind
  have e2 : (2 * R + 1 + 1) * (2 * R + 1 + 1) = 4 * ((R + 1) * (R + 1)) := by grind
  have e3 : (2 * R) * (2 * R) = 4 * (R * R) := by grind
  have e4 : (R + 1) * (R + 1) = R * R + 2 * R + 1 := by grind
  rw [e1, e2, e3]
  rw [e4] at h3 ⊢
  generalize R * R = z at *
  omega

theorem two_bits_hi (a : Int) (k : Nat) (_hk : k < 43) (h : 32 ≤ 2 * (42 - k)) : a * 4294967296 / (4 ^ (42 - k) : Nat) = a / (2 ^ (2 * (42 - k) - 32) : Nat) := by
  have e : (4 ^ (42 - k) : Nat) = 2 ^ (2 * (42 - k) - 32) * 4294967296 := by
    rw [show (4 : Nat) = 2 ^ 2 from rfl, ← Nat.pow_mul, show (4294967296 : Nat) = 2 ^ 32 from rfl, ← Nat.pow_add, show 2 * (42 - k) - 32 + 32 = 2 * (42 - k) by omega]
  rw [e, Int.natCast_mul]
  exact Int.mul_ediv_mul_of_pos_left _ _ (by omega)
theorem two_bits_lo (a : Int) (k : Nat) (_hk : k < 43) (h : 2 * (42 - k) < 32) : a * 4294967296 / (4 ^ (42 - k) : Nat) % 4 = 0 := by
  have e : (4294967296 : Int) = 4 * (4 ^ (15 - (42 - k)) : Nat) * (4 ^ (42 - k) : Nat) := by
    have : (4294967296 : Nat) = 4 * 4 ^ (15 - (42 - k)) * 4 ^ (42 - k) := by
      rw [Nat.mul_assoc, ← Nat.pow_add, show 15 - (42 - k) + (42 - k) = 15 by omega]
    have h2 : ((4294967296 : Nat) : Int) = ((4 * 4 ^ (15 - (42 - k)) * 4 ^ (42 - k) : Nat) : Int) := by rw [← this]
    rw [Int.natCast_mul, Int.natCast_mul] at h2
    exact h2
  have hp : (0 : Int) < (4 ^ (42 - k) : Nat) := by have := Nat.pow_pos (n := 42 - k) (show 0 < 4 by omega); omega
  have e2 : a * 4294967296 = a * (4 * (4 ^ (15 - (42 - k)) : Nat)) * (4 ^ (42 - k) : Nat) := by rw [Int.mul_assoc, ← e]
  rw [e2, Int.mul_ediv_cancel _ (by omega)]
  rw [show a * (4 * ((4 ^ (15 - (42 - k)) : Nat) : Int)) = a * ((4 ^ (15 - (42 - k)) : Nat) : Int) * 4 by grind]
  exact Int.mul_emod_left _ _
theorem four_step (a : Int) (k : Nat) (hk : k < 43) : a * 4294967296 / (4 ^ (42 - k) : Nat) = 4 * (a * 4294967296 / (4 ^ (43 - k) : Nat)) + a * 4294967296 / (4 ^ (42 - k) : Nat) % 4 := by
  have e : (4 ^ (43 - k) : Nat) = 4 ^ (42 - k) * 4 := by rw [show 43 - k = (42 - k) + 1 by omega, Nat.pow_succ]
  rw [e, Int.natCast_mul, ← Int.ediv_ediv_of_nonneg (by omega)]
  omega
theorem root_bd (R M : Int) (h : R * R ≤ M) (hM : M ≤ 19342813113834066795298816) : R ≤ 4398046511104 := by
  apply Int.le_of_not_gt
  intro hh
  have := Int.mul_le_mul (show 4398046511105 ≤ R by omega) (show 4398046511105 ≤ R by omega) (by omega) (by omega)
  omega

set_option maxHeartbeats 2000000 in
theorem refSqrt_any (a : Int) (up : Bool) (w : World) (a0 : 0 ≤ a) (a1 : a ≤ 4503599627370496) :
    Calls Tryz.prog 82 #[.int .i64 a, .bool up] w fun e w' => e = .returned (.int .i64 (rootR up (a * 4294967296))) ∧ w = w' := by
  go_enter Tryz.func82, Tryz.ntmps82
  go_wp2
  go_loop [5, 6, 7] (fun vR vr vi => ∃ k : Nat, ∃ R rest : Int, k ≤ 43 ∧ vi = .int .i64 (42 - (k : Int)) ∧ vR = .int .i64 R ∧ vr = .int .i64 rest ∧ Hid (rest = a * 4294967296 / (4 ^ (43 - k) : Nat) - R * R) ∧ Hid (R * R ≤ a * 4294967296 / (4 ^ (43 - k) : Nat)) ∧ Hid (a * 4294967296 / (4 ^ (43 - k) : Nat) < (R + 1) * (R + 1)) ∧ 0 ≤ R) (fun _ _ vi => (intOf vi + 1).toNat)
  case atStart =>
    have e : a * 4294967296 / ((4 ^ (43 - 0) : Nat) : Int) = 0 := Int.ediv_eq_zero_of_lt (by omega) (by omega)
    exact ⟨0, 0, 0, by omega, rfl, rfl, rfl, by unfold Hid; rw [e]; rfl, by unfold Hid; rw [e]; omega, by unfold Hid; rw [e]; omega, by omega⟩
  case round =>
    obtain ⟨k, R, rest, hk, rfl, rfl, rfl, h1, h2, h3, r0⟩ := hrel
    have hMk : a * 4294967296 / (4 ^ (43 - k) : Nat) ≤ 19342813113834066795298816 := by
      have := Int.ediv_le_self (4 ^ (43 - k) : Nat) (show 0 ≤ a * 4294967296 by omega)
      omega
    have r1 := root_bd R _ h2.out hMk
    have rb : 0 ≤ rest ∧ rest ≤ 2 * R := by
      have e4 : (R + 1) * (R + 1) = R * R + 2 * R + 1 := by grind
      have := h1.out; have := h2.out; have h3' := h3.out
      rw [e4] at h3'
      omega
    obtain ⟨rb0, rb1⟩ := rb
    by_cases hlt : k < 43
    · have hst := four_step a k hlt
      obtain ⟨t, ht⟩ : ∃ t, a * 4294967296 / (4 ^ (42 - k) : Nat) % 4 = t := ⟨_, rfl⟩
      rw [ht] at hst
      have t0 : 0 ≤ t := by omega
      have t1 : t ≤ 3 := by omega
      obtain ⟨s1, s2⟩ := rstep _ R rest t h1.out h2.out h3.out t0 t1 r0
      rw [← hst] at s1 s2
      rw [show 42 - k = 43 - (k + 1) by omega] at s1 s2
      have hnew : ∀ R' rest', rest' = a * 4294967296 / (4 ^ (43 - (k + 1)) : Nat) - R' * R' ∧ R' * R' ≤ a * 4294967296 / (4 ^ (43 - (k + 1)) : Nat) ∧ a * 4294967296 / (4 ^ (43 - (k + 1)) : Nat) < (R' + 1) * (R' + 1) → Hid (rest' = a * 4294967296 / (4 ^ (43 - (k + 1)) : Nat) - R' * R') ∧ Hid (R' * R' ≤ a * 4294967296 / (4 ^ (43 - (k + 1)) : Nat)) ∧ Hid (a * 4294967296 / (4 ^ (43 - (k + 1)) : Nat) < (R' + 1) * (R' + 1)) := fun _ _ h => h
      by_cases hc : 4 * R + 1 ≤ 4 * rest + t
      · obtain ⟨n1, n2, n3⟩ := hnew _ _ (s1 hc)
        by_cases h32 : 32 ≤ 2 * (42 - (k : Int))
        · have hv : (a / 2 ^ (2 * (42 - k) - 32)).tmod 4 = t := by
            rw [show ((2 : Int) ^ (2 * (42 - k) - 32)) = ((2 ^ (2 * (42 - k) - 32) : Nat) : Int) by norm_cast, ← two_bits_hi a k hlt (by omega), Int.tmod_eq_emod_of_nonneg (Int.ediv_nonneg (by omega) (Int.natCast_nonneg _))]
            exact ht
          clear h1 h2 h3 hst s1 s2 hnew ht
          go_wp2
          go_round
          case rel => exact ⟨k + 1, _, _, by omega, by go_num, rfl, rfl, n1, n2, n3, by omega⟩
          case measure => simp [intOf]; omega
        · have t2 : t = 0 := by rw [← ht]; exact two_bits_lo a k hlt (by omega)
          subst t2
          rw [Int.add_zero] at n1
          clear h1 h2 h3 hst s1 s2 hnew ht
          go_wp2
          go_round
          case rel => exact ⟨k + 1, _, _, by omega, by go_num, rfl, rfl, n1, n2, n3, by omega⟩
          case measure => simp [intOf]; omega
      · obtain ⟨n1, n2, n3⟩ := hnew _ _ (s2 (by omega))
        by_cases h32 : 32 ≤ 2 * (42 - (k : Int))
        · have hv : (a / 2 ^ (2 * (42 - k) - 32)).tmod 4 = t := by
            rw [show ((2 : Int) ^ (2 * (42 - k) - 32)) = ((2 ^ (2 * (42 - k) - 32) : Nat) : Int) by norm_cast, ← two_bits_hi a k hlt (by omega), Int.tmod_eq_emod_of_nonneg (Int.ediv_nonneg (by omega) (Int.natCast_nonneg _))]
            exact ht
          clear h1 h2 h3 hst s1 s2 hnew ht
          go_wp2
          go_round
          case rel => exact ⟨k + 1, _, _, by omega, by go_num, rfl, rfl, n1, n2, n3, by omega⟩
          case measure => simp [intOf]; omega
        · have t2 : t = 0 := by rw [← ht]; exact two_bits_lo a k hlt (by omega)
          subst t2
          rw [Int.add_zero] at n1
          clear h1 h2 h3 hst s1 s2 hnew ht
          go_wp2
          go_round
          case rel => exact ⟨k + 1, _, _, by omega, by go_num, rfl, rfl, n1, n2, n3, by omega⟩
          case measure => simp [intOf]; omega
    · have hk43 : k = 43 := by omega
      subst hk43
      have e : a * 4294967296 / ((4 ^ (43 - 43) : Nat) : Int) = a * 4294967296 := by simp
      have g1 := h1.out; have g2 := h2.out; have g3 := h3.out
      rw [e] at g1 g2 g3
      have hR := isqrt_eq (a * 4294967296) R r0 g2 g3 (by omega)
      cases up with
      | false =>
        have Hf := Lib.hid (show rootR false (a * 4294967296) = R by unfold rootR; rw [hR]; simp)
        clear h1 h2 h3 e g1 g2 g3 hR hMk
        go_wp2
        go_ret
        exact ⟨by rw [Hf.out]; rfl, rfl⟩
      | true =>
        by_cases hz : 0 < rest
        · have Hf := Lib.hid (show rootR true (a * 4294967296) = R + 1 by unfold rootR; rw [hR, if_pos ⟨rfl, by omega⟩])
          clear h1 h2 h3 e g1 g2 g3 hR hMk
          go_wp2
          go_ret
          exact ⟨by rw [Hf.out]; rfl, rfl⟩
        · have Hf := Lib.hid (show rootR true (a * 4294967296) = R by unfold rootR; rw [hR, if_neg (by omega)])
          clear h1 h2 h3 e g1 g2 g3 hR hMk
          go_wp2
          go_ret
          exact ⟨by rw [Hf.out]; rfl, rfl⟩

theorem refSqrtX (up : Bool) (a : Int) : (ckErr a = 0 ∧ 0 ≤ a ∧ a ≤ 4503599627370496) ∨ sqrtR up a = (0, 2) ∧ (a < 0 ∨ 4503599627370496 < a) := by
  rcases ckErr_cases a with ⟨h, h0, h1⟩ | ⟨h, h0⟩
  · by_cases hz : a < 0
    · right; refine ⟨?_, Or.inl hz⟩; unfold sqrtR; rw [if_neg (by omega)]
    · left; exact ⟨h, by omega, h1⟩
  · right; refine ⟨?_, by omega⟩; unfold sqrtR; rw [if_neg (by omega)]
end Go.Proofs.YtnfapdmbkpkkdaaGreat
