/-
  Plain arithmetic for the division of 128 bits by 64 (Knuth's algorithm D with two digits): no program here.
-/
import Derived.Lib.Hide
namespace Go.Proofs.Ytdaignklmbmcnaa
namespace Kn

theorem mul_le {a b c : Int} (h : a ≤ b) (hc : 0 ≤ c) : a * c ≤ b * c := Int.mul_le_mul_of_nonneg_right h hc

/-- One digit's quotient: what it is, and that it is a digit. -/
theorem digit (Y u d : Int) (hu0 : 0 ≤ u) (hu : u < Y) (hd0 : 0 ≤ d) (hd : d < 4294967296) :
    0 ≤ (u * 4294967296 + d) / Y ∧ (u * 4294967296 + d) / Y < 4294967296 := by
  have hY : 0 < Y := by omega
  refine ⟨Int.ediv_nonneg (by omega) (by omega), ?_⟩
  rw [Int.ediv_lt_iff_lt_mul hY]
  have := mul_le (a := u + 1) (b := Y) (c := 4294967296) (by omega) (by omega)
  omega

theorem div_le_iff {a b c : Int} (hb : 0 < b) : a / b < c ↔ a < c * b := Int.ediv_lt_iff_lt_mul hb
theorem le_div_iff {a b c : Int} (hb : 0 < b) : c ≤ a / b ↔ c * b ≤ a := Int.le_ediv_iff_mul_le hb

/-- The first guess is not too small. -/
theorem guess (yn1 yn0 u d : Int) (h1 : 0 < yn1) (h0 : 0 ≤ yn0) (hu0 : 0 ≤ u) (hd0 : 0 ≤ d) (hd : d < 4294967296) :
    (u * 4294967296 + d) / (yn1 * 4294967296 + yn0) ≤ u / yn1 := by
  have hY : 0 < yn1 * 4294967296 + yn0 := by omega
  rw [le_div_iff h1]
  generalize hq : (u * 4294967296 + d) / (yn1 * 4294967296 + yn0) = q
  have hqY : q * (yn1 * 4294967296 + yn0) ≤ u * 4294967296 + d := by rw [← hq]; exact Int.ediv_mul_le _ (by omega)
  have hq0 : 0 ≤ q := by rw [← hq]; exact Int.ediv_nonneg (by omega) (by omega)
  have e : q * (yn1 * 4294967296 + yn0) = q * yn1 * 4294967296 + q * yn0 := by grind
  have h3 : 0 ≤ q * yn0 := Int.mul_nonneg hq0 h0
  omega

/-- Where the test says yes the guess is too great. -/
theorem high (yn1 yn0 u d q r : Int) (_h1 : 0 < yn1) (_h0 : 0 ≤ yn0) (hu0 : 0 ≤ u) (hu : u < yn1 * 4294967296 + yn0) (hd0 : 0 ≤ d) (hd : d < 4294967296)
    (hr : q * yn1 + r = u) (ht : 4294967296 ≤ q ∨ 4294967296 * r + d < q * yn0) :
    (u * 4294967296 + d) / (yn1 * 4294967296 + yn0) ≤ q - 1 := by
  have hY : 0 < yn1 * 4294967296 + yn0 := by omega
  rcases ht with ht | ht
  · have := (digit _ u d hu0 hu hd0 hd).2
    omega
  · have : (u * 4294967296 + d) / (yn1 * 4294967296 + yn0) < q := by
      rw [div_le_iff hY]
      have e : q * (yn1 * 4294967296 + yn0) = q * yn1 * 4294967296 + q * yn0 := by grind
      omega
    omega

/-- Where it says no the guess is the digit. -/
theorem exact1 (yn1 yn0 u d q r : Int) (h1 : 0 < yn1) (h0 : 0 ≤ yn0)
    (hr : q * yn1 + r = u) (ht : q * yn0 ≤ 4294967296 * r + d) (hg : (u * 4294967296 + d) / (yn1 * 4294967296 + yn0) ≤ q) :
    q = (u * 4294967296 + d) / (yn1 * 4294967296 + yn0) := by
  have hY : 0 < yn1 * 4294967296 + yn0 := by omega
  have : q ≤ (u * 4294967296 + d) / (yn1 * 4294967296 + yn0) := by
    rw [le_div_iff hY]
    have e : q * (yn1 * 4294967296 + yn0) = q * yn1 * 4294967296 + q * yn0 := by grind
    omega
  omega

/-- Where the rest has become too great the guess is the digit, too. -/
theorem exact2 (yn1 yn0 u d q r : Int) (h1 : 0 < yn1) (h0 : 0 ≤ yn0) (h0' : yn0 < 4294967296) (hu : u < yn1 * 4294967296 + yn0) (hd0 : 0 ≤ d) (_hq0 : 0 ≤ q)
    (hr : q * yn1 + r = u) (ht : 4294967296 ≤ r) (hg : (u * 4294967296 + d) / (yn1 * 4294967296 + yn0) ≤ q) :
    q = (u * 4294967296 + d) / (yn1 * 4294967296 + yn0) := by
  have hq : q < 4294967296 := by
    apply Int.lt_of_not_ge
    intro h
    have := mul_le (a := 4294967296) (b := q) (c := yn1) h (by omega)
    omega
  refine exact1 yn1 yn0 u d q r h1 h0 hr ?_ hg
  have : q * yn0 ≤ 4294967296 * 4294967296 := by
    have := Int.mul_le_mul (Int.le_of_lt hq) (Int.le_of_lt h0') h0 (by omega : (0 : Int) ≤ 4294967296)
    exact this
  omega

/-- The whole: the shifted number, divided digit by digit. -/
theorem whole (hi lo y p p' : Int) (hp : 0 < p) (hp' : 0 < p') (hpp : p * p' = 18446744073709551616) (h0 : 0 ≤ hi) (h1 : hi < y) (l0 : 0 ≤ lo) (l1 : lo < 18446744073709551616) :
    let u := hi * p + lo / p'
    let L := lo * p % 18446744073709551616
    let Y := y * p
    let q1 := (u * 4294967296 + L / 4294967296) / Y
    let v := (u * 4294967296 + L / 4294967296) % Y
    u < Y ∧ 0 ≤ u ∧ q1 * 4294967296 + (v * 4294967296 + L % 4294967296) / Y = (hi * 18446744073709551616 + lo) / y ∧
      (v * 4294967296 + L % 4294967296) % Y / p = (hi * 18446744073709551616 + lo) % y := by
  intro u L Y q1 v
  have hlo : lo / p' < p := by
    rw [div_le_iff hp', hpp]; omega
  have hlo0 : 0 ≤ lo / p' := Int.ediv_nonneg l0 (by omega)
  have hY : 0 < Y := Int.mul_pos (by omega) hp
  have huY : u < Y := by
    have := mul_le (a := hi + 1) (b := y) (c := p) (by omega) (by omega)
    have e : (hi + 1) * p = hi * p + p := by grind
    show hi * p + lo / p' < y * p
    omega
  have hu0 : 0 ≤ u := by
    have : 0 ≤ hi * p := Int.mul_nonneg h0 (by omega)
    show 0 ≤ hi * p + lo / p'
    omega
  refine ⟨huY, hu0, ?_⟩
  have hL : lo * p = lo / p' * 18446744073709551616 + L := by
    have e1 := Int.mul_ediv_add_emod lo p'
    have e2 : lo * p = lo / p' * (p * p') + lo % p' * p := by
      have : lo * p = (p' * (lo / p') + lo % p') * p := by rw [e1]
      rw [this]; grind
    rw [hpp] at e2
    have h3 : 0 ≤ lo % p' * p := Int.mul_nonneg (Int.emod_nonneg _ (by omega)) (by omega)
    have h4 : lo % p' * p < 18446744073709551616 := by
      have : lo % p' + 1 ≤ p' := by have := Int.emod_lt_of_pos lo hp'; omega
      have := mul_le this (show 0 ≤ p by omega)
      have e5 : (lo % p' + 1) * p = lo % p' * p + p := by grind
      have e6 : p' * p = 18446744073709551616 := by rw [Int.mul_comm]; exact hpp
      omega
    show lo * p = lo / p' * 18446744073709551616 + lo * p % 18446744073709551616
    omega
  have hN : (hi * 18446744073709551616 + lo) * p = u * 18446744073709551616 + L := by
    have : (hi * 18446744073709551616 + lo) * p = hi * p * 18446744073709551616 + lo * p := by grind
    rw [this, hL]
    show _ = (hi * p + lo / p') * 18446744073709551616 + L
    generalize hi * p = a
    omega
  have hL2 : L = L / 4294967296 * 4294967296 + L % 4294967296 := by omega
  have hv : u * 4294967296 + L / 4294967296 = Y * q1 + v := (Int.mul_ediv_add_emod _ _).symm
  have hw := (Int.mul_ediv_add_emod (v * 4294967296 + L % 4294967296) Y).symm
  generalize (v * 4294967296 + L % 4294967296) / Y = q0 at *
  generalize hr0 : (v * 4294967296 + L % 4294967296) % Y = r0 at *
  have hr0b : 0 ≤ r0 ∧ r0 < Y := by rw [← hr0]; exact ⟨Int.emod_nonneg _ (by omega), Int.emod_lt_of_pos _ hY⟩
  have hN2 : (hi * 18446744073709551616 + lo) * p = (q1 * 4294967296 + q0) * Y + r0 := by
    have e2 : (q1 * 4294967296 + q0) * Y + r0 = (Y * q1) * 4294967296 + (Y * q0 + r0) := by grind
    rw [hN, e2, ← hw]
    generalize Y * q1 = z at *
    omega
  generalize hNN : hi * 18446744073709551616 + lo = N at *
  have hy : 0 < y := by omega
  have hd := Int.mul_ediv_mul_of_pos_left N y hp
  have hm : N * p % (y * p) = N % y * p := by
    rw [Int.mul_comm N p, Int.mul_comm y p, Int.mul_emod_mul_of_pos _ _ hp, Int.mul_comm]
  have hdiv : N * p / Y = q1 * 4294967296 + q0 := by
    rw [hN2]
    rw [Int.add_comm, Int.add_mul_ediv_right _ _ (by omega), Int.ediv_eq_zero_of_lt hr0b.1 hr0b.2]
    omega
  have hmod : N * p % Y = r0 := by
    rw [hN2, Int.add_comm, Int.add_mul_emod_self_right]
    exact Int.emod_eq_of_lt hr0b.1 hr0b.2
  refine ⟨by rw [← hdiv]; exact hd, ?_⟩
  rw [← hmod, show Y = y * p from rfl, hm, Int.mul_ediv_cancel _ (by omega)]

end Kn
end Go.Proofs.Ytdaignklmbmcnaa
