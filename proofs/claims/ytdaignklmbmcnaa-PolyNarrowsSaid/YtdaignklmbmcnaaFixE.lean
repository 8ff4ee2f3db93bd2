/-
  Walks of package fix: over.
-/
import Derived.Test.YtdaignklmbmcnaaFixD
namespace Go.Proofs.Ytdaignklmbmcnaa
open Go.RowKit

/-- A quotient of natural numbers, rounded down or up. -/
def rdiv (to : Bool) (n d : Int) : Int := if to = true ∧ 0 < n % d then n / d + 1 else n / d

/-- What a callee that only makes memory leaves: all old cells and marks read as before. -/
theorem bcell {W w1 : World} (hb : Below W.heap.size W w1) : (∀ b o, b < W.heap.size → w1.cell? ⟨b, o, none⟩ = W.cell? ⟨b, o, none⟩) ∧ (∀ b o, b < W.heap.size → w1.frozen? ⟨b, o, none⟩ = W.frozen? ⟨b, o, none⟩) :=
  ⟨fun b o h => hb.cell (p := ⟨b, o, none⟩) h, fun b o h => hb.frozen (p := ⟨b, o, none⟩) h⟩

/-- A cell that was there reads as it did behind a callee that only makes memory. -/
theorem bkeep {w w' : World} {p : Addr} {v : Value} (hb : Below w.heap.size w w') (h : w.cell? p = some v) : w'.cell? p = some v :=
  (hb.cell (World.block_lt_of_cell? w _ h)).trans h

theorem over_hi (n d : Int) (hd : 0 < d) : hi64 n / d = hi64 (n / d) := by
  unfold hi64
  rw [Int.ediv_ediv_of_nonneg (by omega), Int.ediv_ediv_of_nonneg (by omega), Int.mul_comm]
theorem over_lo (n d : Int) (hd : 0 < d) : (hi64 n % d * 18446744073709551616 + lo64 n) / d = lo64 (n / d) ∧ (hi64 n % d * 18446744073709551616 + lo64 n) % d = n % d := by
  have e1 := over_hi n d hd
  unfold hi64 lo64 at *
  have m1 := Int.mul_ediv_add_emod (n / 18446744073709551616) d
  have e2 : n = n / 18446744073709551616 % d * 18446744073709551616 + n % 18446744073709551616 + d * (n / 18446744073709551616 / d * 18446744073709551616) := by
    have : n = (d * (n / 18446744073709551616 / d) + n / 18446744073709551616 % d) * 18446744073709551616 + n % 18446744073709551616 := by rw [m1]; omega
    rw [show d * (n / 18446744073709551616 / d * 18446744073709551616) = d * (n / 18446744073709551616 / d) * 18446744073709551616 by grind]
    generalize d * (n / 18446744073709551616 / d) = z at *
    omega
  generalize hm : n / 18446744073709551616 % d * 18446744073709551616 + n % 18446744073709551616 = m at *
  have e3 : n / d = m / d + n / 18446744073709551616 / d * 18446744073709551616 := by
    conv => lhs; rw [e2]
    rw [Int.add_mul_ediv_left _ _ (by omega)]
  have e4 : n % d = m % d := by
    conv => lhs; rw [e2]
    rw [Int.add_mul_emod_self_left]
  have hm0 : 0 ≤ n / 18446744073709551616 % d := Int.emod_nonneg _ (by omega)
  have hm1 : n / 18446744073709551616 % d < d := Int.emod_lt_of_pos _ hd
  have hb : m / d < 18446744073709551616 := by
    rw [Kn.div_le_iff hd]
    have := Kn.mul_le (a := n / 18446744073709551616 % d + 1) (b := d) (c := 18446744073709551616) (by omega) (by omega)
    omega
  have hb0 : 0 ≤ m / d := Int.ediv_nonneg (by omega) (by omega)
  omega

theorem over_any (n d : Int) (to : Bool) (w : World) (n0 : 0 ≤ n) (n1 : n < 340282366920938463463374607431768211456) (d0 : 1 ≤ d) (d1 : d ≤ 18446744073709551615) :
    Calls Try.prog 79 #[.agg #[.int .u64 (hi64 n), .int .u64 (lo64 n)], .int .u64 d, .bool to] w fun e w' =>
      e = .returned (.agg #[.int .u64 (hi64 (rdiv to n d)), .int .u64 (lo64 (rdiv to n d))]) ∧ Below w.heap.size w w' := by
  have hl := lo64_lt n
  have hh := hi64_lt n n0 n1
  have hm0 : 0 ≤ hi64 n % d := Int.emod_nonneg _ (by omega)
  have hm1 : hi64 n % d < d := Int.emod_lt_of_pos _ (by omega)
  have hq0 : 0 ≤ n / d := Int.ediv_nonneg n0 (by omega)
  have hq1 : n / d ≤ n := Int.ediv_le_self _ n0
  have hr0 : 0 ≤ n % d := Int.emod_nonneg _ (by omega)
  have hdiv := fun w => div64_any (hi64 n % d) (lo64 n) d w hm0 hm1 d1 hl.1 hl.2
  rw [(over_lo n d (by omega)).1, (over_lo n d (by omega)).2] at hdiv
  have e1 := over_hi n d (by omega)
  have h3 : (d == 0) = false := by simp; omega
  by_cases ht : to = true
  · subst ht
    by_cases hr : 0 < n % d
    · rw [show rdiv true n d = n / d + 1 by unfold rdiv; rw [if_pos ⟨rfl, hr⟩]]
      go_enter Try.func79, Try.ntmps79
      go_wp2
      go_quiet ((go_at_call 84; exact Calls.quiet_of (hdiv _)))
      have hd2 : 2 ≤ d := by
        rcases Int.lt_or_le d 2 with h | h
        · have : d = 1 := by omega
          subst this; omega
        · exact h
      have hq2 : n / d < 340282366920938463463374607431768211455 := by
        have := Int.ediv_mul_le n (show d ≠ 0 by omega)
        have h2 := Int.mul_le_mul_of_nonneg_left hd2 hq0
        omega
      go_wp2_with (go_at_call 85; refine (next_any (n / d) _ hq0 hq2).mono ?_; rintro e w' ⟨rfl, hb⟩; obtain ⟨hc, hf⟩ := bcell hb)
      exact bodyPost_ret (v := .agg #[.int .u64 (hi64 (n / d + 1)), .int .u64 (lo64 (n / d + 1))]) (by simp [results, Try.results79, go_sem, hc]) rfl ⟨rfl, by (repeat (first | with_reducible exact Below.refl _ _ | with_reducible assumption | refine Below.alloc ?_ (by (try simp); try omega) _ | refine Below.setCell ?_ (by (try simp); try omega) _ | refine below_drewN ?_ _ | refine Below.drew ?_ | (with_reducible refine Below.trans ?_ (Below.mono (by assumption) (by (try simp); try omega)))))⟩
    · rw [show rdiv true n d = n / d by unfold rdiv; rw [if_neg (by simp; omega)]]
      go_enter Try.func79, Try.ntmps79
      go_wp2
      go_quiet ((go_at_call 84; exact Calls.quiet_of (hdiv _)))
      go_wp2
      exact bodyPost_ret (v := .agg #[.int .u64 (hi64 (n / d)), .int .u64 (lo64 (n / d))]) (by simp [results, Try.results79, go_sem]) rfl ⟨rfl, by (repeat (first | with_reducible exact Below.refl _ _ | with_reducible assumption | refine Below.alloc ?_ (by (try simp); try omega) _ | refine Below.setCell ?_ (by (try simp); try omega) _ | refine below_drewN ?_ _ | refine Below.drew ?_ | (with_reducible refine Below.trans ?_ (Below.mono (by assumption) (by (try simp); try omega)))))⟩
  · have ht : to = false := by simpa using ht
    subst ht
    rw [show rdiv false n d = n / d by unfold rdiv; rw [if_neg (by simp)]]
    go_enter Try.func79, Try.ntmps79
    go_wp2
    go_quiet ((go_at_call 84; exact Calls.quiet_of (hdiv _)))
    go_wp2
    exact bodyPost_ret (v := .agg #[.int .u64 (hi64 (n / d)), .int .u64 (lo64 (n / d))]) (by simp [results, Try.results79, go_sem]) rfl ⟨rfl, by (repeat (first | with_reducible exact Below.refl _ _ | with_reducible assumption | refine Below.alloc ?_ (by (try simp); try omega) _ | refine Below.setCell ?_ (by (try simp); try omega) _ | refine below_drewN ?_ _ | refine Below.drew ?_ | (with_reducible refine Below.trans ?_ (Below.mono (by assumption) (by (try simp); try omega)))))⟩

end Go.Proofs.Ytdaignklmbmcnaa
