/-
  The reference for layer 1: over, size, put, Div, quotient.
-/
import Derived.Test.YtdaignklmbmcnaaFixQ
namespace Go.Proofs.Ytdaignklmbmcnaa
open Go.RowKit

/-- What the reference's long division returns. -/
def ovF (a n d : Int) : Int × Bool × Bool := if a * n / d ≤ 4503599627370496 then (a * n / d, decide (0 < a * n % d), true) else (0, false, false)

theorem bit_step (a : Int) (k : Nat) (hk : k < 64) : a / (2 ^ (63 - k) : Nat) = 2 * (a / (2 ^ (64 - k) : Nat)) + a / (2 ^ (63 - k) : Nat) % 2 := by
  have e : (2 ^ (64 - k) : Nat) = 2 ^ (63 - k) * 2 := by rw [show 64 - k = (63 - k) + 1 by omega, Nat.pow_succ]
  rw [e, Int.natCast_mul, ← Int.ediv_ediv_of_nonneg (by omega)]
  omega

theorem ov_bound (A n d bit T : Int) (q r : Int) (hd : 1 ≤ d) (hq : q = A * n / d) (hr : r = A * n % d) (hT : T = (2 * A + bit) * n) (hb : bit = 0 ∨ bit = 1) (hn0 : 0 ≤ n) :
    (2 * q + bit * (n / d)) * d + (2 * r + bit * (n % d)) = T ∧ T / d ≤ 2 * q + 2 + n / d := by
  have m1 := Int.mul_ediv_add_emod (A * n) d
  have m2 := Int.mul_ediv_add_emod n d
  have r0 := Int.emod_nonneg (A * n) (show d ≠ 0 by omega)
  have r1 := Int.emod_lt_of_pos (A * n) (show 0 < d by omega)
  have r2 := Int.emod_lt_of_pos n (show 0 < d by omega)
  have r3 := Int.emod_nonneg n (show d ≠ 0 by omega)
  have hnd : 0 ≤ n / d := Int.ediv_nonneg hn0 (by omega)
  rw [← hq, ← hr] at m1
  rw [← hr] at r0 r1
  generalize n / d = x at *
  generalize n % d = y at *
  have e1 : (2 * q + bit * x) * d + (2 * r + bit * y) = 2 * (d * q + r) + bit * (d * x + y) := by grind
  have e2 : T = 2 * (A * n) + bit * n := by rw [hT]; grind
  refine ⟨by rw [e1, m1, m2, e2], ?_⟩
  apply Int.le_of_lt_add_one
  rw [Kn.div_le_iff (by omega)]
  have e3 : (2 * q + 2 + x + 1) * d = 2 * (d * q) + 2 * d + d * x + d := by grind
  rw [e2, ← m1, ← m2, e3]
  rcases hb with rfl | rfl
  · have : 0 ≤ d * x := Int.mul_nonneg (by omega) hnd
    omega
  · omega

set_option maxHeartbeats 2000000 in
theorem over_ref (a n d : Int) (w : World) (a0 : 0 ≤ a) (a1 : a ≤ 18446744073709551615) (n0 : 0 ≤ n) (n1 : n ≤ 9223372036854775808) (d0 : 1 ≤ d) (d1 : d ≤ 4611686018427387904) :
    Calls Try.prog 80 #[.int .u64 a, .int .u64 n, .int .u64 d] w fun e w' =>
      e = .returned (.tuple #[.int .u64 (ovF a n d).1, .bool (ovF a n d).2.1, .bool (ovF a n d).2.2]) ∧ ∃ m, w' = w.drewN m := by
  have h3 : (d == 0) = false := by simp; omega
  have hnd0 : 0 ≤ n / d := Int.ediv_nonneg n0 (by omega)
  have hnd1 : n / d ≤ 9223372036854775808 := by have := Int.ediv_le_self d n0; omega
  have hnr0 : 0 ≤ n % d := Int.emod_nonneg _ (by omega)
  have hnr1 : n % d < d := Int.emod_lt_of_pos _ (by omega)
  go_enter Try.func80, Try.ntmps80
  go_wp2
  go_loopw [9, 10, 11] (fun vq vr vi wr => ∃ k : Nat, ∃ q r : Int, k ≤ 64 ∧ vi = .int .i64 (63 - (k : Int)) ∧ vq = .int .u64 q ∧ vr = .int .u64 r ∧ Hid (q = a / (2 ^ (64 - k) : Nat) * n / d) ∧ Hid (r = a / (2 ^ (64 - k) : Nat) * n % d) ∧ 0 ≤ q ∧ q ≤ 4503599627370496 ∧ ∃ m, wr = w.drewN m) (fun _ _ i _ => (intOf i + 1).toNat)
  case atStart =>
    have e : a / ((2 ^ (64 - 0) : Nat) : Int) = 0 := Int.ediv_eq_zero_of_lt a0 (by omega)
    exact ⟨0, 0, 0, by omega, rfl, rfl, rfl, by unfold Hid; rw [e]; simp, by unfold Hid; rw [e]; simp, by omega, by omega, 0, rfl⟩
  case round =>
    obtain ⟨k, q, r, hk, rfl, rfl, rfl, hq, hr, q0, q1, m, rfl⟩ := hrel
    have r0 : 0 ≤ r := by rw [hr.out]; exact Int.emod_nonneg _ (by omega)
    have r1 : r < d := by rw [hr.out]; exact Int.emod_lt_of_pos _ (by omega)
    by_cases hlt : k < 64
    · have hbs := bit_step a k hlt
      have hbit : a / (2 ^ (63 - k) : Nat) % 2 = 0 ∨ a / (2 ^ (63 - k) : Nat) % 2 = 1 := by omega
      obtain ⟨T, hT⟩ : ∃ T, T = a / (2 ^ (63 - k) : Nat) * n := ⟨_, rfl⟩
      obtain ⟨o1, o2⟩ := ov_bound (a / (2 ^ (64 - k) : Nat)) n d (a / (2 ^ (63 - k) : Nat) % 2) T q r d0 hq.out hr.out (by rw [hT]; rw [← hbs]) hbit n0
      have ht1 : T / d ≤ 18446744073709551614 := by omega
      have hpow : ((2 : Int) ^ (63 - k)) = ((2 ^ (63 - k) : Nat) : Int) := by norm_cast
      have hs0 : 0 ≤ a / 2 ^ (63 - k) := Int.ediv_nonneg a0 (by rw [hpow]; exact Int.natCast_nonneg _)
      rcases hbit with hb | hb
      · have hv : ((a / 2 ^ (63 - k)).tmod 2 == 1) = false := by
          rw [Int.tmod_eq_emod_of_nonneg hs0, hpow, hb]; rfl
        rw [hb] at o1
        have HS := Lib.hid (show 2 * q * d + 2 * r = T by rw [← o1]; simp)
        clear o1 o2 hbs hb hpow hq hr hs0
        go_wp2
        go_loopw [9, 10] (fun vq vr wr => ∃ q r : Int, vq = .int .u64 q ∧ vr = .int .u64 r ∧ Hid (q * d + r = T) ∧ 0 ≤ q ∧ 0 ≤ r ∧ r ≤ 13835058055282163711 ∧ ∃ m', wr = w.drewN m') (fun _ vr _ => (intOf vr).toNat)
        case atStart => exact ⟨_, _, rfl, rfl, HS, by omega, by omega, by omega, _, rfl⟩
        obtain ⟨x, y, rfl, rfl, hxy, x0, y0, y1, m', rfl⟩ := hrel
        have hxt : x ≤ T / d := by
          rw [Kn.le_div_iff (by omega)]
          have := hxy.out; omega
        by_cases hge : d ≤ y
        · have hx1 : x + 1 ≤ T / d := by
            rw [Kn.le_div_iff (by omega)]
            have := hxy.out
            have e : (x + 1) * d = x * d + d := by grind
            omega
          have e : (x + 1) * d = x * d + d := by grind
          have hn := Lib.hid (show (x + 1) * d + (y - d) = T by have := hxy.out; omega)
          clear e
          clear hxy
          go_wp2
          go_roundw
          case rel => exact ⟨_, _, rfl, rfl, hn, by omega, by omega, by omega, _, rfl⟩
          case measure => simp [intOf]; omega
        · have ex : x = T / d := by
            have := hxy.out
            rw [← this, Int.add_comm, Int.add_mul_ediv_right _ _ (by omega), Int.ediv_eq_zero_of_lt y0 (by omega)]
            omega
          have ey : y = T % d := by
            have := hxy.out
            rw [← this, Int.add_comm, Int.add_mul_emod_self_right]
            exact (Int.emod_eq_of_lt y0 (by omega)).symm
          have Hx := Lib.hid (show x = a / (2 ^ (64 - (k + 1)) : Nat) * n / d by rw [ex, hT, show 64 - (k + 1) = 63 - k by omega])
          have Hy := Lib.hid (show y = a / (2 ^ (64 - (k + 1)) : Nat) * n % d by rw [ey, hT, show 64 - (k + 1) = 63 - k by omega])
          by_cases hbig : 4503599627370496 < x
          · have Hov := Lib.hid (show ovF a n d = (0, false, false) by
              unfold ovF
              rw [if_neg]
              have h1 : T ≤ a * n := by
                rw [hT]
                refine Int.mul_le_mul_of_nonneg_right ?_ n0
                exact Int.ediv_le_self _ a0
              have h2 := Int.ediv_le_ediv (show 0 < d by omega) h1
              omega)
            clear ex ey hxy hT Hx Hy
            go_wp2
            go_ret3
            exact ⟨by rw [Hov.out]; rfl, _, rfl⟩
          · clear ex ey hxy hT
            go_wp2
            go_roundw
            case rel => exact ⟨k + 1, x, y, by omega, by go_num, rfl, rfl, Hx, Hy, x0, by omega, _, rfl⟩
            case measure => simp [intOf]; omega
      · have hv : ((a / 2 ^ (63 - k)).tmod 2 == 1) = true := by
          rw [Int.tmod_eq_emod_of_nonneg hs0, hpow, hb]; rfl
        rw [hb] at o1
        have HS := Lib.hid (show (2 * q + n / d) * d + (2 * r + n % d) = T by rw [← o1]; simp)
        clear o1 o2 hbs hb hpow hq hr hs0
        go_wp2
        go_quiet (fail)
        go_wp2
        go_loopw [9, 10] (fun vq vr wr => ∃ q r : Int, vq = .int .u64 q ∧ vr = .int .u64 r ∧ Hid (q * d + r = T) ∧ 0 ≤ q ∧ 0 ≤ r ∧ r ≤ 13835058055282163711 ∧ ∃ m', wr = w.drewN m') (fun _ vr _ => (intOf vr).toNat)
        case atStart => exact ⟨_, _, rfl, rfl, HS, by omega, by omega, by omega, _, World.drewN_drewN _ _ _⟩
        obtain ⟨x, y, rfl, rfl, hxy, x0, y0, y1, m', rfl⟩ := hrel
        have hxt : x ≤ T / d := by
          rw [Kn.le_div_iff (by omega)]
          have := hxy.out; omega
        by_cases hge : d ≤ y
        · have hx1 : x + 1 ≤ T / d := by
            rw [Kn.le_div_iff (by omega)]
            have := hxy.out
            have e : (x + 1) * d = x * d + d := by grind
            omega
          have e : (x + 1) * d = x * d + d := by grind
          have hn := Lib.hid (show (x + 1) * d + (y - d) = T by have := hxy.out; omega)
          clear e
          clear hxy
          go_wp2
          go_roundw
          case rel => exact ⟨_, _, rfl, rfl, hn, by omega, by omega, by omega, _, rfl⟩
          case measure => simp [intOf]; omega
        · have ex : x = T / d := by
            have := hxy.out
            rw [← this, Int.add_comm, Int.add_mul_ediv_right _ _ (by omega), Int.ediv_eq_zero_of_lt y0 (by omega)]
            omega
          have ey : y = T % d := by
            have := hxy.out
            rw [← this, Int.add_comm, Int.add_mul_emod_self_right]
            exact (Int.emod_eq_of_lt y0 (by omega)).symm
          have Hx := Lib.hid (show x = a / (2 ^ (64 - (k + 1)) : Nat) * n / d by rw [ex, hT, show 64 - (k + 1) = 63 - k by omega])
          have Hy := Lib.hid (show y = a / (2 ^ (64 - (k + 1)) : Nat) * n % d by rw [ey, hT, show 64 - (k + 1) = 63 - k by omega])
          by_cases hbig : 4503599627370496 < x
          · have Hov := Lib.hid (show ovF a n d = (0, false, false) by
              unfold ovF
              rw [if_neg]
              have h1 : T ≤ a * n := by
                rw [hT]
                refine Int.mul_le_mul_of_nonneg_right ?_ n0
                exact Int.ediv_le_self _ a0
              have h2 := Int.ediv_le_ediv (show 0 < d by omega) h1
              omega)
            clear ex ey hxy hT Hx Hy
            go_wp2
            go_ret3
            exact ⟨by rw [Hov.out]; rfl, _, rfl⟩
          · clear ex ey hxy hT
            go_wp2
            go_roundw
            case rel => exact ⟨k + 1, x, y, by omega, by go_num, rfl, rfl, Hx, Hy, x0, by omega, _, rfl⟩
            case measure => simp [intOf]; omega
    · have hk64 : k = 64 := by omega
      subst hk64
      have e : a / ((2 ^ (64 - 64) : Nat) : Int) = a := by simp
      have Hov := Lib.hid (show ovF a n d = (q, decide (0 < r), true) by
        unfold ovF
        have h1 := hq.out
        have h2 := hr.out
        rw [e] at h1 h2
        rw [← h1, ← h2, if_pos q1])
      clear hq hr e
      go_wp2
      go_ret3
      exact ⟨by rw [Hov.out]; rfl, _, rfl⟩

end Go.Proofs.Ytdaignklmbmcnaa
