/-
  The functions of SpanNarrows as values; within, inside.
-/
import Derived.Test.YtpfmhpmpjejdcaaDoorSpAE
namespace Go.Proofs.YtpfmhpmpjejdcaaDoor
open Go.RowKit

theorem withinN_true (a0 a1 b0 b1 : Int) (w : World) (h0 : b0 ≤ a0) (h1 : a1 ≤ b1) :
    Calls Tryd.prog 89 #[.agg #[.int .i64 a0, .int .i64 a1], .agg #[.int .i64 b0, .int .i64 b1]] w fun e w' => e = .returned (.bool true) ∧ Below w.heap.size w w' := by
  go_enter Tryd.func89, Tryd.ntmps89
  go_wp2
  go_ret
  exact ⟨rfl, by (repeat (first | with_reducible exact Below.refl _ _ | with_reducible assumption | refine Below.alloc ?_ (by (try simp); try omega) _ | refine Below.setCell ?_ (by (try simp); try omega) _ | refine below_drewN ?_ _ | refine Below.drew ?_ | (with_reducible refine Below.trans ?_ (Below.mono (by assumption) (by (try simp); try omega)))))⟩
theorem insideN_true (a0 a1 e b0 b1 f : Int) (w : World) (h : f ≠ 0 ∨ (e = 0 ∧ b0 ≤ a0 ∧ a1 ≤ b1)) :
    Calls Tryd.prog 63 #[.agg #[.int .i64 a0, .int .i64 a1], .int .i64 e, .agg #[.int .i64 b0, .int .i64 b1], .int .i64 f] w fun e w' => e = .returned (.bool true) ∧ Below w.heap.size w w' := by
  by_cases hf : f = 0
  · subst hf
    obtain ⟨rfl, h0, h1⟩ : e = 0 ∧ b0 ≤ a0 ∧ a1 ≤ b1 := by rcases h with h | h; exact absurd rfl h; exact h
    have hw := fun w => withinN_true a0 a1 b0 b1 w h0 h1
    clear h h0 h1
    go_enter Tryd.func63, Tryd.ntmps63
    go_wp2_with (go_at_call 89; (with_reducible refine (hw _).mono ?_); rintro e w1 ⟨rfl, hb1⟩; (with_reducible (first | (replace hb1 := undrew hb1) | skip)))
    go_ret
    exact ⟨rfl, by (repeat (first | with_reducible exact Below.refl _ _ | with_reducible assumption | refine Below.alloc ?_ (by (try simp); try omega) _ | refine Below.setCell ?_ (by (try simp); try omega) _ | refine below_drewN ?_ _ | refine Below.drew ?_ | (with_reducible refine Below.trans ?_ (Below.mono (by assumption) (by (try simp); try omega)))))⟩
  · clear h
    go_enter Tryd.func63, Tryd.ntmps63
    go_wp2
    go_ret
    exact ⟨rfl, by (repeat (first | with_reducible exact Below.refl _ _ | with_reducible assumption | refine Below.alloc ?_ (by (try simp); try omega) _ | refine Below.setCell ?_ (by (try simp); try omega) _ | refine below_drewN ?_ _ | refine Below.drew ?_ | (with_reducible refine Below.trans ?_ (Below.mono (by assumption) (by (try simp); try omega)))))⟩
/-- A function of two intervals, as a value: what it gives for two pairs, of which the first lies in the second. -/
def FnIn (g : Nat) (c0 c1 e0 e1 q0 q1 q2 q3 ra rb rc sa sb sc : Int) : Prop :=
  (∀ w : World, Calls Tryd.prog g #[.agg #[.int .i64 c0, .int .i64 c1], .agg #[.int .i64 e0, .int .i64 e1]] w fun e w' => e = .returned (.tuple #[.agg #[.int .i64 ra, .int .i64 rb], .int .i64 rc]) ∧ Below w.heap.size w w') ∧
  (∀ w : World, Calls Tryd.prog g #[.agg #[.int .i64 q0, .int .i64 q1], .agg #[.int .i64 q2, .int .i64 q3]] w fun e w' => e = .returned (.tuple #[.agg #[.int .i64 sa, .int .i64 sb], .int .i64 sc]) ∧ Below w.heap.size w w') ∧
  (sc ≠ 0 ∨ (rc = 0 ∧ sa ≤ ra ∧ rb ≤ sb))
theorem fnIn_mk (g : Nat) (c0 c1 e0 e1 q0 q1 q2 q3 : Int) (R : Int → Int → Int → Int → Int × Int × Int)
    (h : ∀ a b c d w, Calls Tryd.prog g #[.agg #[.int .i64 a, .int .i64 b], .agg #[.int .i64 c, .int .i64 d]] w fun e w' => e = .returned (.tuple #[.agg #[.int .i64 (R a b c d).1, .int .i64 (R a b c d).2.1], .int .i64 (R a b c d).2.2]) ∧ Below w.heap.size w w')
    (hi : Ins (R c0 c1 e0 e1) (R q0 q1 q2 q3)) : FnIn g c0 c1 e0 e1 q0 q1 q2 q3 (R c0 c1 e0 e1).1 (R c0 c1 e0 e1).2.1 (R c0 c1 e0 e1).2.2 (R q0 q1 q2 q3).1 (R q0 q1 q2 q3).2.1 (R q0 q1 q2 q3).2.2 :=
  ⟨fun w => h c0 c1 e0 e1 w, fun w => h q0 q1 q2 q3 w, hi⟩
theorem u64wrap_bd (n : Int) : 0 ≤ IntKind.u64.wrap n ∧ IntKind.u64.wrap n ≤ 18446744073709551615 := by
  have h0 := Int.emod_nonneg n (show (18446744073709551616 : Int) ≠ 0 by decide)
  have h1 := Int.emod_lt_of_pos n (show (0 : Int) < 18446744073709551616 by decide)
  have e : IntKind.u64.wrap n = n % 18446744073709551616 := by first | rfl | simp [IntKind.wrap, IntKind.bits, IntKind.signed]
  rw [e]; omega

end Go.Proofs.YtpfmhpmpjejdcaaDoor
