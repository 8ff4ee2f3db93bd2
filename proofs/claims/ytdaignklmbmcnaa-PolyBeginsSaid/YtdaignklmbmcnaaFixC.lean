/-
  The walk of math/bits.Div64.
-/
import Derived.Test.YtdaignklmbmcnaaFixB
import Derived.Test.YtdaignklmbmcnaaFixMath
import Derived.BigQuiet
import Derived.Deep.QuietTactic
namespace Go.Proofs.Ytdaignklmbmcnaa
open Go.RowKit

theorem lz64 (x : Int) (w : World) (h0 : 0 ≤ x) (h1 : x ≤ 18446744073709551615) :
    Calls Try.prog 86 #[.int .u64 x] w fun e w' => e = .returned (.int .i64 (64 - (Lib.bitLen x.toNat : Int))) ∧ w = w' :=
  (Try.bits_LeadingZeros64 x w h0 h1).mono fun _ _ ⟨he, hw⟩ => ⟨he, hw.symm⟩

theorem div64_small (lo y : Int) (w : World) (y0 : 1 ≤ y) (y1 : y ≤ 18446744073709551615) (l0 : 0 ≤ lo) (l1 : lo ≤ 18446744073709551615) :
    Calls Try.prog 84 #[.int .u64 0, .int .u64 lo, .int .u64 y] w fun e w' => e = .returned (.tuple #[.int .u64 (lo / y), .int .u64 (lo % y)]) ∧ ∃ n, w' = w.drewN n := by
  go_enter Try.func84, Try.ntmps84
  go_wp2
  go_quiet (fail)
  go_wp2
  go_ret2
  exact ⟨rfl, _, rfl⟩

set_option maxHeartbeats 1000000 in
theorem div64_core (hi lo y s Y yn1 yn0 u L un1 un0 q p r : Int) (w : World) (hp : 1 ≤ hi) (hh : hi < y) (y1 : y ≤ 18446744073709551615) (_l0 : 0 ≤ lo) (_l1 : lo ≤ 18446744073709551615)
    (s0 : 0 ≤ s) (s1 : s ≤ 62) (es : Hid (64 - (Lib.bitLen y.toNat : Int) = s))
    (eY : IntKind.u64.wrap (y * 2 ^ s.toNat) = Y) (e1 : Y / 4294967296 = yn1) (e0 : bits .and .u64 Y 4294967295 = yn0)
    (eu : bits .or .u64 (IntKind.u64.wrap (hi * 2 ^ s.toNat)) (lo / 2 ^ (64 - s).toNat) = u) (eL : IntKind.u64.wrap (lo * 2 ^ s.toNat) = L)
    (eL1 : L / 4294967296 = un1) (eL0 : bits .and .u64 L 4294967295 = un0) (eq : u / yn1 = q) (ep : IntKind.u64.wrap (q * yn1) = p) (er : u - p = r) 
    (b1 : 1 ≤ yn1) (b1' : yn1 ≤ 4294967295) (b0 : 0 ≤ yn0) (b0' : yn0 ≤ 4294967295) (bu : 0 ≤ u) (bu' : u ≤ 18446744073709551615) (bY : 1 ≤ Y) (bY' : Y ≤ 18446744073709551615) (_bL : 0 ≤ L) (_bL' : L ≤ 18446744073709551615)
    (_bp : 0 ≤ p) (bp' : p ≤ u) (t1 v t0 r0 : Int) (HY : Hid (Y = yn1 * 4294967296 + yn0)) (hu : u < Y) (bn1 : 0 ≤ un1) (bn1' : un1 ≤ 4294967295) (bn0 : 0 ≤ un0) (bn0' : un0 ≤ 4294967295)
    (E1 : Hid ((u * 4294967296 + un1) / Y = t1)) (E0 : Hid ((v * 4294967296 + un0) / Y = t0)) (HI : Hid (u / yn1 * yn1 + r = u))
    (ht1 : 0 ≤ t1) (ht1' : t1 ≤ 4294967295) (hg1 : t1 ≤ u / yn1) (hq64 : u / yn1 ≤ 18446744073709551615) (hr0 : 0 ≤ r) (hr1 : r ≤ 4294967295)
    (ev : IntKind.u64.wrap (IntKind.u64.wrap (IntKind.u64.wrap (u * 4294967296) + un1) - IntKind.u64.wrap (t1 * Y)) = v) (bv : 0 ≤ v) (hv : v < Y)
    (p0 rr0 : Int) (ep0 : IntKind.u64.wrap (v / yn1 * yn1) = p0) (er0 : v - p0 = rr0) (_bp0 : 0 ≤ p0) (bp0' : p0 ≤ v) (HI0 : Hid (v / yn1 * yn1 + rr0 = v))
    (ht0 : 0 ≤ t0) (ht0' : t0 ≤ 4294967295) (hg0 : t0 ≤ v / yn1) (hq640 : v / yn1 ≤ 18446744073709551615) (hrr0 : 0 ≤ rr0) (hrr1 : rr0 ≤ 4294967295)
    (ev0 : IntKind.u64.wrap (IntKind.u64.wrap (IntKind.u64.wrap (v * 4294967296) + un0) - IntKind.u64.wrap (t0 * Y)) = r0) (_br0 : 0 ≤ r0) (_br0' : r0 ≤ 18446744073709551615)
    (Q R : Int) (EQ : Hid (t1 * 4294967296 + t0 = Q)) (ER : Hid (r0 / 2 ^ s.toNat = R)) :
    Calls Try.prog 84 #[.int .u64 hi, .int .u64 lo, .int .u64 y] w fun e w' => e = .returned (.tuple #[.int .u64 Q, .int .u64 R]) ∧ ∃ n, w' = w.drewN n := by
  have h1 : (y == 0) = false := by simp; omega
  have h2 : (hi == 0) = false := by simp; omega
  have h3 : (yn1 == 0) = false := by simp; omega
  go_enter Try.func84, Try.ntmps84
  go_wp2_with (go_at_call 86; refine (lz64 y _ (by omega) (by omega)).mono ?_; rintro e w' ⟨rfl, rfl⟩; rw [es.out])
  clear eY e1 e0 eu eL eL1 eL0 eq ep er
  go_loop [15, 16] (fun a b => ∃ q r : Int, a = .int .u64 q ∧ b = .int .u64 r ∧ Hid (q * yn1 + r = u) ∧ t1 ≤ q ∧ q ≤ 18446744073709551615 ∧ 0 ≤ r ∧ r ≤ 4294967295) (fun a _ => (intOf a).toNat)
  case atStart => exact ⟨_, _, rfl, rfl, HI, hg1, hq64, hr0, hr1⟩
  obtain ⟨q, r, rfl, rfl, hinv, hge, hq64', hr0', hr1'⟩ := hrel
  have hnext : q * yn1 + r = u → q - 1 ≥ 0 → (q - 1) * yn1 + (r + yn1) = u := by intro h _; rw [← h]; grind
  have hyes : 4294967296 ≤ q ∨ 4294967296 * r + un1 < q * yn0 → t1 ≤ q - 1 := fun h => by
    rw [← E1.out, HY.out]; exact Kn.high yn1 yn0 u un1 q r (by omega) b0 bu (by rw [← HY.out]; exact hu) bn1 (by omega) hinv.out h
  have hno : q * yn0 ≤ 4294967296 * r + un1 → q = t1 := fun h => by
    rw [← E1.out, HY.out]; exact Kn.exact1 yn1 yn0 u un1 q r (by omega) b0 hinv.out h (by rw [← HY.out, E1.out]; exact hge)
  have hbr : t1 ≤ q - 1 → 4294967296 ≤ r + yn1 → q = t1 + 1 := fun h k => by
    have := Kn.exact2 yn1 yn0 u un1 (q - 1) (r + yn1) (by omega) b0 (by omega) (by rw [← HY.out]; exact hu) bn1 (by omega) (hnext hinv.out (by omega)) k (by rw [← HY.out, E1.out]; exact h)
    rw [← HY.out, E1.out] at this
    omega
  have Hnext := Lib.hid hnext; have Hyes := Lib.hid hyes; have Hno := Lib.hid hno; have Hbr := Lib.hid hbr
  clear hnext hyes hno hbr
  by_cases hq : 4294967296 ≤ q
  · have hgood := Hyes.out (Or.inl hq)
    by_cases hb : 4294967296 ≤ r + yn1
    · obtain rfl := Hbr.out hgood hb
      clear Hnext Hyes Hno Hbr hinv hge hgood
      go_wp2
      clear hb hq hq64' hr0' hr1'
      clear ev ep0 er0
      go_loop [18, 16] (fun a b => ∃ q r : Int, a = .int .u64 q ∧ b = .int .u64 r ∧ Hid (q * yn1 + r = v) ∧ t0 ≤ q ∧ q ≤ 18446744073709551615 ∧ 0 ≤ r ∧ r ≤ 4294967295) (fun a _ => (intOf a).toNat)
      case atStart => exact ⟨_, _, rfl, rfl, HI0, hg0, hq640, hrr0, hrr1⟩
      obtain ⟨q, r, rfl, rfl, hinv, hge, hq64', hr0', hr1'⟩ := hrel
      have hnext : q * yn1 + r = v → q - 1 ≥ 0 → (q - 1) * yn1 + (r + yn1) = v := by intro h _; rw [← h]; grind
      have hyes : 4294967296 ≤ q ∨ 4294967296 * r + un0 < q * yn0 → t0 ≤ q - 1 := fun h => by
        rw [← E0.out, HY.out]; exact Kn.high yn1 yn0 v un0 q r (by omega) b0 bv (by rw [← HY.out]; exact hv) bn0 (by omega) hinv.out h
      have hno : q * yn0 ≤ 4294967296 * r + un0 → q = t0 := fun h => by
        rw [← E0.out, HY.out]; exact Kn.exact1 yn1 yn0 v un0 q r (by omega) b0 hinv.out h (by rw [← HY.out, E0.out]; exact hge)
      have hbr : t0 ≤ q - 1 → 4294967296 ≤ r + yn1 → q = t0 + 1 := fun h k => by
        have := Kn.exact2 yn1 yn0 v un0 (q - 1) (r + yn1) (by omega) b0 (by omega) (by rw [← HY.out]; exact hv) bn0 (by omega) (hnext hinv.out (by omega)) k (by rw [← HY.out, E0.out]; exact h)
        rw [← HY.out, E0.out] at this
        omega
      have Hnext := Lib.hid hnext; have Hyes := Lib.hid hyes; have Hno := Lib.hid hno; have Hbr := Lib.hid hbr
      clear hnext hyes hno hbr
      by_cases hq : 4294967296 ≤ q
      · have hgood := Hyes.out (Or.inl hq)
        by_cases hb : 4294967296 ≤ r + yn1
        · obtain rfl := Hbr.out hgood hb
          clear Hnext Hyes Hno Hbr hinv hge hgood
          go_wp2
          rw [EQ.out, ER.out]
          go_ret2
          exact ⟨rfl, 0, rfl⟩
        · have hn := Lib.hid (Hnext.out hinv.out (by omega))
          clear Hnext Hyes Hno Hbr hinv hge
          go_wp2
          go_round
          case rel => exact ⟨_, _, rfl, rfl, hn, by omega, by omega, by omega, by omega⟩
          case measure => simp [intOf]; omega
      have hq' : q ≤ 4294967295 := by omega
      have m0 : 0 ≤ q * yn0 := Int.mul_nonneg (by omega) b0
      have m1 : q * yn0 ≤ 18446744065119617025 := by
        have := Int.mul_le_mul hq' b0' b0 (by omega : (0 : Int) ≤ 4294967295)
        omega
      by_cases ht : 4294967296 * r + un0 < q * yn0
      · have hgood := Hyes.out (Or.inr ht)
        by_cases hb : 4294967296 ≤ r + yn1
        · obtain rfl := Hbr.out hgood hb
          clear Hnext Hyes Hno Hbr hinv hge hgood
          go_wp2
          rw [EQ.out, ER.out]
          go_ret2
          exact ⟨rfl, 0, rfl⟩
        · have hn := Lib.hid (Hnext.out hinv.out (by omega))
          clear Hnext Hyes Hno Hbr hinv hge
          go_wp2
          go_round
          case rel => exact ⟨_, _, rfl, rfl, hn, by omega, by omega, by omega, by omega⟩
          case measure => simp [intOf]; omega
      · obtain rfl := Hno.out (by omega)
        clear Hnext Hyes Hno Hbr hinv hge
        go_wp2
        rw [EQ.out, ER.out]
        go_ret2
        exact ⟨rfl, 0, rfl⟩
    · have hn := Lib.hid (Hnext.out hinv.out (by omega))
      clear Hnext Hyes Hno Hbr hinv hge
      go_wp2
      go_round
      case rel => exact ⟨_, _, rfl, rfl, hn, by omega, by omega, by omega, by omega⟩
      case measure => simp [intOf]; omega
  have hq' : q ≤ 4294967295 := by omega
  have m0 : 0 ≤ q * yn0 := Int.mul_nonneg (by omega) b0
  have m1 : q * yn0 ≤ 18446744065119617025 := by
    have := Int.mul_le_mul hq' b0' b0 (by omega : (0 : Int) ≤ 4294967295)
    omega
  by_cases ht : 4294967296 * r + un1 < q * yn0
  · have hgood := Hyes.out (Or.inr ht)
    by_cases hb : 4294967296 ≤ r + yn1
    · obtain rfl := Hbr.out hgood hb
      clear Hnext Hyes Hno Hbr hinv hge hgood
      go_wp2
      clear hb hq hq64' hr0' hr1' ht hq' m0 m1
      clear ev ep0 er0
      go_loop [18, 16] (fun a b => ∃ q r : Int, a = .int .u64 q ∧ b = .int .u64 r ∧ Hid (q * yn1 + r = v) ∧ t0 ≤ q ∧ q ≤ 18446744073709551615 ∧ 0 ≤ r ∧ r ≤ 4294967295) (fun a _ => (intOf a).toNat)
      case atStart => exact ⟨_, _, rfl, rfl, HI0, hg0, hq640, hrr0, hrr1⟩
      obtain ⟨q, r, rfl, rfl, hinv, hge, hq64', hr0', hr1'⟩ := hrel
      have hnext : q * yn1 + r = v → q - 1 ≥ 0 → (q - 1) * yn1 + (r + yn1) = v := by intro h _; rw [← h]; grind
      have hyes : 4294967296 ≤ q ∨ 4294967296 * r + un0 < q * yn0 → t0 ≤ q - 1 := fun h => by
        rw [← E0.out, HY.out]; exact Kn.high yn1 yn0 v un0 q r (by omega) b0 bv (by rw [← HY.out]; exact hv) bn0 (by omega) hinv.out h
      have hno : q * yn0 ≤ 4294967296 * r + un0 → q = t0 := fun h => by
        rw [← E0.out, HY.out]; exact Kn.exact1 yn1 yn0 v un0 q r (by omega) b0 hinv.out h (by rw [← HY.out, E0.out]; exact hge)
      have hbr : t0 ≤ q - 1 → 4294967296 ≤ r + yn1 → q = t0 + 1 := fun h k => by
        have := Kn.exact2 yn1 yn0 v un0 (q - 1) (r + yn1) (by omega) b0 (by omega) (by rw [← HY.out]; exact hv) bn0 (by omega) (hnext hinv.out (by omega)) k (by rw [← HY.out, E0.out]; exact h)
        rw [← HY.out, E0.out] at this
        omega
      have Hnext := Lib.hid hnext; have Hyes := Lib.hid hyes; have Hno := Lib.hid hno; have Hbr := Lib.hid hbr
      clear hnext hyes hno hbr
      by_cases hq : 4294967296 ≤ q
      · have hgood := Hyes.out (Or.inl hq)
        by_cases hb : 4294967296 ≤ r + yn1
        · obtain rfl := Hbr.out hgood hb
          clear Hnext Hyes Hno Hbr hinv hge hgood
          go_wp2
          rw [EQ.out, ER.out]
          go_ret2
          exact ⟨rfl, 0, rfl⟩
        · have hn := Lib.hid (Hnext.out hinv.out (by omega))
          clear Hnext Hyes Hno Hbr hinv hge
          go_wp2
          go_round
          case rel => exact ⟨_, _, rfl, rfl, hn, by omega, by omega, by omega, by omega⟩
          case measure => simp [intOf]; omega
      have hq' : q ≤ 4294967295 := by omega
      have m0 : 0 ≤ q * yn0 := Int.mul_nonneg (by omega) b0
      have m1 : q * yn0 ≤ 18446744065119617025 := by
        have := Int.mul_le_mul hq' b0' b0 (by omega : (0 : Int) ≤ 4294967295)
        omega
      by_cases ht : 4294967296 * r + un0 < q * yn0
      · have hgood := Hyes.out (Or.inr ht)
        by_cases hb : 4294967296 ≤ r + yn1
        · obtain rfl := Hbr.out hgood hb
          clear Hnext Hyes Hno Hbr hinv hge hgood
          go_wp2
          rw [EQ.out, ER.out]
          go_ret2
          exact ⟨rfl, 0, rfl⟩
        · have hn := Lib.hid (Hnext.out hinv.out (by omega))
          clear Hnext Hyes Hno Hbr hinv hge
          go_wp2
          go_round
          case rel => exact ⟨_, _, rfl, rfl, hn, by omega, by omega, by omega, by omega⟩
          case measure => simp [intOf]; omega
      · obtain rfl := Hno.out (by omega)
        clear Hnext Hyes Hno Hbr hinv hge
        go_wp2
        rw [EQ.out, ER.out]
        go_ret2
        exact ⟨rfl, 0, rfl⟩
    · have hn := Lib.hid (Hnext.out hinv.out (by omega))
      clear Hnext Hyes Hno Hbr hinv hge
      go_wp2
      go_round
      case rel => exact ⟨_, _, rfl, rfl, hn, by omega, by omega, by omega, by omega⟩
      case measure => simp [intOf]; omega
  · obtain rfl := Hno.out (by omega)
    clear Hnext Hyes Hno Hbr hinv hge
    go_wp2
    clear hq hq64' hr0' hr1' ht hq' m0 m1
    clear ev ep0 er0
    go_loop [18, 16] (fun a b => ∃ q r : Int, a = .int .u64 q ∧ b = .int .u64 r ∧ Hid (q * yn1 + r = v) ∧ t0 ≤ q ∧ q ≤ 18446744073709551615 ∧ 0 ≤ r ∧ r ≤ 4294967295) (fun a _ => (intOf a).toNat)
    case atStart => exact ⟨_, _, rfl, rfl, HI0, hg0, hq640, hrr0, hrr1⟩
    obtain ⟨q, r, rfl, rfl, hinv, hge, hq64', hr0', hr1'⟩ := hrel
    have hnext : q * yn1 + r = v → q - 1 ≥ 0 → (q - 1) * yn1 + (r + yn1) = v := by intro h _; rw [← h]; grind
    have hyes : 4294967296 ≤ q ∨ 4294967296 * r + un0 < q * yn0 → t0 ≤ q - 1 := fun h => by
      rw [← E0.out, HY.out]; exact Kn.high yn1 yn0 v un0 q r (by omega) b0 bv (by rw [← HY.out]; exact hv) bn0 (by omega) hinv.out h
    have hno : q * yn0 ≤ 4294967296 * r + un0 → q = t0 := fun h => by
      rw [← E0.out, HY.out]; exact Kn.exact1 yn1 yn0 v un0 q r (by omega) b0 hinv.out h (by rw [← HY.out, E0.out]; exact hge)
    have hbr : t0 ≤ q - 1 → 4294967296 ≤ r + yn1 → q = t0 + 1 := fun h k => by
      have := Kn.exact2 yn1 yn0 v un0 (q - 1) (r + yn1) (by omega) b0 (by omega) (by rw [← HY.out]; exact hv) bn0 (by omega) (hnext hinv.out (by omega)) k (by rw [← HY.out, E0.out]; exact h)
      rw [← HY.out, E0.out] at this
      omega
    have Hnext := Lib.hid hnext; have Hyes := Lib.hid hyes; have Hno := Lib.hid hno; have Hbr := Lib.hid hbr
    clear hnext hyes hno hbr
    by_cases hq : 4294967296 ≤ q
    · have hgood := Hyes.out (Or.inl hq)
      by_cases hb : 4294967296 ≤ r + yn1
      · obtain rfl := Hbr.out hgood hb
        clear Hnext Hyes Hno Hbr hinv hge hgood
        go_wp2
        rw [EQ.out, ER.out]
        go_ret2
        exact ⟨rfl, 0, rfl⟩
      · have hn := Lib.hid (Hnext.out hinv.out (by omega))
        clear Hnext Hyes Hno Hbr hinv hge
        go_wp2
        go_round
        case rel => exact ⟨_, _, rfl, rfl, hn, by omega, by omega, by omega, by omega⟩
        case measure => simp [intOf]; omega
    have hq' : q ≤ 4294967295 := by omega
    have m0 : 0 ≤ q * yn0 := Int.mul_nonneg (by omega) b0
    have m1 : q * yn0 ≤ 18446744065119617025 := by
      have := Int.mul_le_mul hq' b0' b0 (by omega : (0 : Int) ≤ 4294967295)
      omega
    by_cases ht : 4294967296 * r + un0 < q * yn0
    · have hgood := Hyes.out (Or.inr ht)
      by_cases hb : 4294967296 ≤ r + yn1
      · obtain rfl := Hbr.out hgood hb
        clear Hnext Hyes Hno Hbr hinv hge hgood
        go_wp2
        rw [EQ.out, ER.out]
        go_ret2
        exact ⟨rfl, 0, rfl⟩
      · have hn := Lib.hid (Hnext.out hinv.out (by omega))
        clear Hnext Hyes Hno Hbr hinv hge
        go_wp2
        go_round
        case rel => exact ⟨_, _, rfl, rfl, hn, by omega, by omega, by omega, by omega⟩
        case measure => simp [intOf]; omega
    · obtain rfl := Hno.out (by omega)
      clear Hnext Hyes Hno Hbr hinv hge
      go_wp2
      rw [EQ.out, ER.out]
      go_ret2
      exact ⟨rfl, 0, rfl⟩

end Go.Proofs.Ytdaignklmbmcnaa
