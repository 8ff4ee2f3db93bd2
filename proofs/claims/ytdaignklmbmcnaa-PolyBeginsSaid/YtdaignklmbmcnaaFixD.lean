/-
  math/bits.Div64: the quotient and the rest, for every number whose upper half is less than the divisor.
-/
import Derived.Test.YtdaignklmbmcnaaFixC
namespace Go.Proofs.Ytdaignklmbmcnaa
open Go.RowKit

theorem bitLenAux_zero (f : Nat) : Lib.bitLenAux f 0 = 0 := by cases f <;> simp [Lib.bitLenAux]
theorem bitLenAux_spec : ∀ (f x : Nat), x < 2 ^ f → x ≠ 0 → x < 2 ^ Lib.bitLenAux f x ∧ 2 ^ (Lib.bitLenAux f x - 1) ≤ x ∧ 1 ≤ Lib.bitLenAux f x ∧ Lib.bitLenAux f x ≤ f
  | 0, x, h, h0 => by
    exact absurd (by simpa using h) h0
  | f + 1, x, h, h0 => by
    simp only [Lib.bitLenAux, if_neg h0]
    by_cases h1 : x / 2 = 0
    · have hx1 : x = 1 := by omega
      subst hx1
      simp [bitLenAux_zero]
    · have ih := bitLenAux_spec f (x / 2) (by rw [Nat.pow_succ] at h; omega) h1
      generalize Lib.bitLenAux f (x / 2) = n at ih
      obtain ⟨i1, i2, i3, i4⟩ := ih
      refine ⟨by rw [Nat.add_comm, Nat.pow_succ]; omega, ?_, by omega, by omega⟩
      rw [show 1 + n - 1 = (n - 1) + 1 by omega, Nat.pow_succ]; omega

/-- The shift that brings a divisor to 64 bits. -/
theorem shift_spec (y : Int) (h0 : 2 ≤ y) (h1 : y ≤ 18446744073709551615) :
    ∃ s : Nat, (64 - (Lib.bitLen y.toNat : Int) = (s : Int)) ∧ s ≤ 62 ∧ 9223372036854775808 ≤ y * (2 ^ s : Nat) ∧ y * (2 ^ s : Nat) < 18446744073709551616 := by
  obtain ⟨n, rfl⟩ := Int.eq_ofNat_of_zero_le (show 0 ≤ y by omega)
  rw [Int.toNat_natCast]
  have h := bitLenAux_spec 64 n (by omega) (by omega)
  rw [show Lib.bitLenAux 64 n = Lib.bitLen n from rfl] at h
  generalize Lib.bitLen n = l at h
  obtain ⟨i1, i2, i3, i4⟩ := h
  have hl : 2 ≤ l := by
    rcases Nat.lt_or_ge l 2 with hh | hh
    · have : l = 1 := by omega
      subst this
      simp at i1; omega
    · exact hh
  refine ⟨64 - l, by omega, by omega, ?_, ?_⟩
  · have : 2 ^ (l - 1) * 2 ^ (64 - l) = (9223372036854775808 : Nat) := by
      rw [← Nat.pow_add, show l - 1 + (64 - l) = 63 by omega]
    have h2 := Nat.mul_le_mul_right (2 ^ (64 - l)) i2
    rw [this] at h2
    have : ((n * 2 ^ (64 - l) : Nat) : Int) = (n : Int) * ((2 ^ (64 - l) : Nat) : Int) := Int.natCast_mul _ _
    omega
  · have : 2 ^ l * 2 ^ (64 - l) = (18446744073709551616 : Nat) := by
      rw [← Nat.pow_add, show l + (64 - l) = 64 by omega]
    have h2 := Nat.mul_lt_mul_of_pos_right i1 (Nat.two_pow_pos (64 - l))
    rw [this] at h2
    have : ((n * 2 ^ (64 - l) : Nat) : Int) = (n : Int) * ((2 ^ (64 - l) : Nat) : Int) := Int.natCast_mul _ _
    omega

theorem and32 (a : Int) (h0 : 0 ≤ a) (h1 : a ≤ 18446744073709551615) : bits .and .u64 a 4294967295 = a % 4294967296 := by
  obtain ⟨n, rfl⟩ := Int.eq_ofNat_of_zero_le h0
  rw [Mul64.maskN n (by omega)]
  omega

theorem or_add (a b : Int) (s : Nat) (a0 : 0 ≤ a) (b0 : 0 ≤ b) (hb : b < (2 ^ s : Nat)) (h : a * (2 ^ s : Nat) + b ≤ 18446744073709551615) :
    bits .or .u64 (a * (2 ^ s : Nat)) b = a * (2 ^ s : Nat) + b := by
  obtain ⟨m, rfl⟩ := Int.eq_ofNat_of_zero_le a0
  obtain ⟨n, rfl⟩ := Int.eq_ofNat_of_zero_le b0
  have e : ((m : Int) * (2 ^ s : Nat)) = ((2 ^ s * m : Nat) : Int) := by rw [Nat.mul_comm, Int.natCast_mul]
  rw [e] at h ⊢
  rw [bits_or_u64_nat _ _ (by omega) (by omega), ← Nat.two_pow_add_eq_or_of_lt (by omega)]
  omega

theorem wrap_in (a : Int) (h0 : 0 ≤ a) (h1 : a < 18446744073709551616) : IntKind.u64.wrap a = a := by rw [IntKind.wrap_u64]; omega

theorem wrap_rest (u d t Y v : Int) (h : u * 4294967296 + d = Y * t + v) (v0 : 0 ≤ v) (v1 : v < 18446744073709551616) :
    IntKind.u64.wrap (IntKind.u64.wrap (IntKind.u64.wrap (u * 4294967296) + d) - IntKind.u64.wrap (t * Y)) = v := by
  simp only [IntKind.wrap_u64]
  rw [Int.mul_comm t Y]
  generalize Y * t = z at *
  omega

set_option maxHeartbeats 400000 in
theorem div64_any (hi lo y : Int) (w : World) (hp : 0 ≤ hi) (hh : hi < y) (y1 : y ≤ 18446744073709551615) (l0 : 0 ≤ lo) (l1 : lo ≤ 18446744073709551615) :
    Calls Try.prog 84 #[.int .u64 hi, .int .u64 lo, .int .u64 y] w fun e w' =>
      e = .returned (.tuple #[.int .u64 ((hi * 18446744073709551616 + lo) / y), .int .u64 ((hi * 18446744073709551616 + lo) % y)]) ∧ ∃ n, w' = w.drewN n := by
  by_cases h0 : hi = 0
  · subst h0
    rw [show 0 * 18446744073709551616 + lo = lo by omega]
    exact div64_small lo y w (by omega) y1 l0 l1
  obtain ⟨s, es, hs, hY0, hY1⟩ := shift_spec y (by omega) y1
  have hpow : ((2 : Int) ^ (s : Int).toNat) = ((2 ^ s : Nat) : Int) := by rw [Int.toNat_natCast]; norm_cast
  have hpow' : ((2 : Int) ^ (64 - (s : Int)).toNat) = ((2 ^ (64 - s) : Nat) : Int) := by
    rw [show (64 - (s : Int)).toNat = 64 - s by omega]; norm_cast
  have hpp : ((2 ^ s : Nat) : Int) * ((2 ^ (64 - s) : Nat) : Int) = 18446744073709551616 := by
    rw [← Int.natCast_mul, ← Nat.pow_add, show s + (64 - s) = 64 by omega]; rfl
  have hPp : (0 : Int) < ((2 ^ s : Nat) : Int) := by have := Nat.two_pow_pos s; omega
  have hPp' : (0 : Int) < ((2 ^ (64 - s) : Nat) : Int) := by have := Nat.two_pow_pos (64 - s); omega
  generalize hP : ((2 ^ s : Nat) : Int) = P at *
  generalize hP' : ((2 ^ (64 - s) : Nat) : Int) = P' at *
  have hw := Kn.whole hi lo y P P' hPp hPp' hpp hp hh l0 (by omega)
  simp only at hw
  obtain ⟨w1, w2, w3, w4⟩ := hw
  have hloP : lo / P' < P := by rw [Kn.div_le_iff hPp', hpp]; omega
  have hlo0 : 0 ≤ lo / P' := Int.ediv_nonneg l0 (by omega)
  have hhiP : 0 ≤ hi * P := Int.mul_nonneg hp (by omega)
  have hL0 : 0 ≤ lo * P := Int.mul_nonneg l0 (by omega)
  have eY : IntKind.u64.wrap (y * P) = y * P := wrap_in _ (by omega) hY1
  have eH : IntKind.u64.wrap (hi * P) = hi * P := wrap_in _ hhiP (by omega)
  have eu : bits .or .u64 (hi * P) (lo / P') = hi * P + lo / P' := by
    rw [← hP]; exact or_add hi _ s hp hlo0 (by rw [hP]; exact hloP) (by rw [hP]; omega)
  have eL : IntKind.u64.wrap (lo * P) = lo * P % 18446744073709551616 := IntKind.wrap_u64 _
  generalize hLn : lo * P % 18446744073709551616 = L at *
  generalize hun : hi * P + lo / P' = u at *
  generalize hYn : y * P = Y at *
  have bL : 0 ≤ L ∧ L < 18446744073709551616 := by rw [← hLn]; omega
  have d1 := Kn.digit Y u (L / 4294967296) w2 w1 (by omega) (by omega)
  have m1 := Int.mul_ediv_add_emod (u * 4294967296 + L / 4294967296) Y
  have v0 : 0 ≤ (u * 4294967296 + L / 4294967296) % Y := Int.emod_nonneg _ (by omega)
  have v1 : (u * 4294967296 + L / 4294967296) % Y < Y := Int.emod_lt_of_pos _ (by omega)
  have d0 := Kn.digit Y ((u * 4294967296 + L / 4294967296) % Y) (L % 4294967296) v0 v1 (by omega) (by omega)
  have m0 := Int.mul_ediv_add_emod ((u * 4294967296 + L / 4294967296) % Y * 4294967296 + L % 4294967296) Y
  have r0 : 0 ≤ ((u * 4294967296 + L / 4294967296) % Y * 4294967296 + L % 4294967296) % Y := Int.emod_nonneg _ (by omega)
  have r1 : ((u * 4294967296 + L / 4294967296) % Y * 4294967296 + L % 4294967296) % Y < Y := Int.emod_lt_of_pos _ (by omega)
  generalize ht1 : (u * 4294967296 + L / 4294967296) / Y = t1 at *
  generalize hv : (u * 4294967296 + L / 4294967296) % Y = v at *
  generalize ht0 : (v * 4294967296 + L % 4294967296) / Y = t0 at *
  generalize hr0 : (v * 4294967296 + L % 4294967296) % Y = q0 at *
  have g1 := Kn.guess (Y / 4294967296) (Y % 4294967296) u (L / 4294967296) (by omega) (by omega) w2 (by omega) (by omega)
  rw [show Y / 4294967296 * 4294967296 + Y % 4294967296 = Y by omega, ht1] at g1
  have g0 := Kn.guess (Y / 4294967296) (Y % 4294967296) v (L % 4294967296) (by omega) (by omega) v0 (by omega) (by omega)
  rw [show Y / 4294967296 * 4294967296 + Y % 4294967296 = Y by omega, ht0] at g0
  have gu : ∀ z : Int, 0 ≤ z → z < Y → 0 ≤ z / (Y / 4294967296) * (Y / 4294967296) ∧ z / (Y / 4294967296) * (Y / 4294967296) ≤ z ∧ z - z / (Y / 4294967296) * (Y / 4294967296) ≤ 4294967295 ∧ z / (Y / 4294967296) ≤ 18446744073709551615 := by
    intro z z0 z1
    have a1 : 0 ≤ z / (Y / 4294967296) := Int.ediv_nonneg z0 (by omega)
    have a2 := Int.mul_ediv_add_emod z (Y / 4294967296)
    have a3 := Int.emod_nonneg z (show Y / 4294967296 ≠ 0 by omega)
    have a4 := Int.emod_lt_of_pos z (show 0 < Y / 4294967296 by omega)
    have a5 : z / (Y / 4294967296) ≤ z := Int.ediv_le_self _ z0
    rw [Int.mul_comm] at a2
    have a6 : 0 ≤ z / (Y / 4294967296) * (Y / 4294967296) := Int.mul_nonneg a1 (by omega)
    omega
  obtain ⟨gu1, gu2, gu3, gu4⟩ := gu u w2 w1
  obtain ⟨gv1, gv2, gv3, gv4⟩ := gu v v0 v1
  refine div64_core hi lo y s Y (Y / 4294967296) (Y % 4294967296) u L (L / 4294967296) (L % 4294967296) _ (u / (Y / 4294967296) * (Y / 4294967296)) (u - u / (Y / 4294967296) * (Y / 4294967296)) w (by omega) hh y1 l0 l1 (by omega) (by omega) es
    (by rw [hpow, hYn]; exact eY) rfl (and32 Y (by omega) (by omega)) (by rw [hpow, hpow', eH]; exact eu) (by rw [hpow]; first | exact eL | (rw [hLn] at *; exact eL)) rfl (and32 L bL.1 (by omega)) rfl (wrap_in _ gu1 (by omega)) rfl
    (by omega) (by omega) (by omega) (by omega) w2 (by omega) (by omega) (by omega) bL.1 (by omega) gu1 gu2 t1 v t0 q0 (by unfold Hid; omega) w1 (by omega) (by omega) (by omega) (by omega)
    ht1 ht0 (by unfold Hid; omega) d1.1 (by omega) g1 gu4 (by omega) gu3 (wrap_rest u _ t1 Y v m1.symm v0 (by omega)) v0 v1
    (v / (Y / 4294967296) * (Y / 4294967296)) (v - v / (Y / 4294967296) * (Y / 4294967296)) (wrap_in _ gv1 (by omega)) rfl gv1 gv2 (by unfold Hid; omega) d0.1 (by omega) g0 gv4 (by omega) gv3
    (wrap_rest v _ t0 Y q0 m0.symm r0 (by omega)) r0 (by omega) _ _ w3 ?_
  unfold Hid
  rw [hpow]; exact w4

end Go.Proofs.Ytdaignklmbmcnaa
