/-
  Walks of package long: smallRoot; of math/bits: Len.
-/
import Derived.Test.YtoppdbgodceaiaaDoorLgJ
import Derived.Test.YtoppdbgodceaiaaDoorLgR
namespace Go.Proofs.YtoppdbgodceaiaaDoor
open Go.RowKit

theorem bitsLen_any (x : Int) (w : World) (x0 : 0 ≤ x) (x1 : x < 9223372036854775808) :
    Calls Tryd.prog 124 #[.int .u64 x] w fun e w' => e = .returned (.int .i64 (Lib.bitLen x.toNat)) ∧ w' = w := by
  have e1 : IntKind.u64.wrap x = x := wrap_in _ x0 (by omega)
  have hl := fun w => Tryd.bits_Len64 x w x0 (by omega)
  go_enter Tryd.func124, Tryd.ntmps124
  go_wp2_with (go_at_call 136; refine (hl _).mono ?_; rintro e w1 ⟨rfl, rfl⟩)
  go_ret
  exact ⟨rfl, rfl⟩
theorem bitLen_spec (n : Nat) (h0 : n ≠ 0) (h1 : n < 2 ^ 64) : n < 2 ^ Lib.bitLen n ∧ 2 ^ (Lib.bitLen n - 1) ≤ n ∧ 1 ≤ Lib.bitLen n := by
  have h := bitLenAux_spec 64 n h1 h0
  exact ⟨h.1, h.2.1, h.2.2.1⟩
/-- Where the search for a root begins: a power of two that is not less than the root. -/
theorem root_start (x : Int) (x0 : 1 ≤ x) (x1 : x < 1000000000000000000) : ∃ L k : Nat, Lib.bitLen x.toNat = L ∧ 1 ≤ L ∧ L ≤ 60 ∧ k = (L + 1) / 2 ∧ rt x ≤ (2 ^ k : Nat) ∧ 1 ≤ (2 ^ k : Nat) ∧ (2 ^ k : Nat) ≤ 1073741824 := by
  obtain ⟨h1, h2, h3⟩ := bitLen_spec x.toNat (by omega) (by omega)
  refine ⟨_, _, rfl, h3, ?_, rfl, ?_, Nat.one_le_two_pow, ?_⟩
  · rcases Nat.lt_or_ge 60 (Lib.bitLen x.toNat) with h | h
    · have := Nat.pow_le_pow_right (show 0 < 2 by omega) (show 60 ≤ Lib.bitLen x.toNat - 1 by omega)
      omega
    · exact h
  · generalize hk : (Lib.bitLen x.toNat + 1) / 2 = k
    have h4 : 2 ^ Lib.bitLen x.toNat ≤ 2 ^ k * 2 ^ k := by
      rw [← Nat.pow_add]; exact Nat.pow_le_pow_right (by omega) (by omega)
    have h5 : x < (2 ^ k : Nat) * (2 ^ k : Nat) := by
      have : x.toNat < 2 ^ k * 2 ^ k := by omega
      have e : ((2 ^ k * 2 ^ k : Nat) : Int) = (2 ^ k : Nat) * (2 ^ k : Nat) := Int.natCast_mul _ _
      omega
    exact Int.le_of_lt (rt_lt (by omega) (by have := Nat.two_pow_pos k; omega) h5)
  · have h6 : Lib.bitLen x.toNat ≤ 60 := by
      rcases Nat.lt_or_ge 60 (Lib.bitLen x.toNat) with h | h
      · have := Nat.pow_le_pow_right (show 0 < 2 by omega) (show 60 ≤ Lib.bitLen x.toNat - 1 by omega)
        omega
      · exact h
    exact Nat.pow_le_pow_right (n := 2) (by omega) (show (Lib.bitLen x.toNat + 1) / 2 ≤ 30 by omega)
set_option maxHeartbeats 1000000 in
theorem smallRoot_any (x : Int) (w : World) (x0 : 0 ≤ x) (x1 : x < 1000000000000000000) :
    Calls Tryd.prog 110 #[.int .i64 x] w fun e w' => e = .returned (.int .i64 (rt x)) ∧ Below w.heap.size w w' := by
  by_cases h0 : x = 0
  · subst h0
    rw [show rt 0 = 0 from rfl]
    go_enter Tryd.func110, Tryd.ntmps110
    go_wp2
    go_ret
    exact ⟨rfl, Below.refl _ _⟩
  · obtain ⟨L, k, eL, L0, L1, ek, s0, s1, s2⟩ := root_start x (by omega) x1
    have hl := fun w => bitsLen_any x w x0 (by omega)
    rw [eL] at hl
    have e1 : IntKind.u64.wrap x = x := wrap_in _ x0 (by omega)
    have ek' : ((L : Int) + 1) / 2 = (k : Int) := by omega
    obtain ⟨r0, hr0⟩ : ∃ r0 : Int, r0 = (2 ^ k : Nat) := ⟨_, rfl⟩
    rw [← hr0] at s0
    have t1 : 1 ≤ r0 ∧ r0 ≤ 1073741824 := by omega
    have bk : k ≤ 30 := by omega
    have Hr := Lib.hid hr0
    have hx1 : 1 ≤ x := by omega
    have hn := fun r h => newton (x := x) (r := r) hx1 h
    have Hn := Lib.hid hn
    have hrt := Lib.hid (rt_spec x x0)
    clear hn hr0 eL ek s1 s2
    generalize rt x = R at *
    go_enter Tryd.func110, Tryd.ntmps110
    go_wp2_with (go_at_call 124; refine (hl _).mono ?_; rintro e w1 ⟨rfl, rfl⟩)
    have es : wrap64 ((2 : Int) ^ k) = r0 := by
      rw [Hr.out, show ((2 : Int) ^ k) = ((2 ^ k : Nat) : Int) by norm_cast, ← Hr.out]
      unfold wrap64; omega
    go_loopw [3] (fun v wr => ∃ r : Int, v = .int .i64 r ∧ Hid (R ≤ r) ∧ 1 ≤ r ∧ r ≤ 1073741824 ∧ w1 = wr) (fun v _ => (intOf v).toNat)
    case atStart => exact ⟨r0, by rw [es], Lib.hid s0, t1.1, t1.2, rfl⟩
    case round =>
      clear es t1 s0 Hr
      obtain ⟨r, rfl, hR, r1, r2, rfl⟩ := hrel
      obtain ⟨n1, n2, n3, n4, n5, n6⟩ := Hn.out r hR.out
      have hrne : r ≠ 0 := by omega
      obtain ⟨q, hq⟩ : ∃ q, x / r = q := ⟨_, rfl⟩
      rw [hq] at n2 n3 n4 n5
      have hq2 : x.tdiv r = q := by rw [Int.tdiv_eq_ediv_of_nonneg x0, hq]
      by_cases hge : r ≤ (r + q) / 2
      · have hres := n3 hge
        have HR := Lib.hid hres
        clear n2 n3 n6 hres hR
        go_wp2
        go_ret
        exact ⟨by rw [← HR.out]; rfl, Below.refl _ _⟩
      · have n2' := Lib.hid n2
        have hlt : 1 ≤ (r + q) / 2 := by omega
        clear n2 n3 n6 hR
        go_wp2
        go_roundw
        case rel => exact ⟨(r + q) / 2, rfl, n2', hlt, by omega, trivial⟩
        case measure => simp [intOf]; omega

theorem smallIsqrt (x : Int) (x0 : 0 ≤ x) (x1 : x < 1000000000000000000) : 0 ≤ rt x ∧ rt x < 1000000000 := by
  refine ⟨(rt_spec x x0).1, rt_lt x0 (by omega) (by omega)⟩
end Go.Proofs.YtoppdbgodceaiaaDoor
