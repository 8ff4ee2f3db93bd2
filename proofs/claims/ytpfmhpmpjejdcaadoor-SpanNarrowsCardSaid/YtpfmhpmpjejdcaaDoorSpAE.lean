/-
  The statements' at and holds.
-/
import Derived.Test.YtpfmhpmpjejdcaaDoorSpX
import Derived.Test.YtpfmhpmpjejdcaaDoorSpMb
import Derived.IntWalk
import Derived.Deep.QuietTactic
import Derived.BigQuiet
namespace Go.Proofs.YtpfmhpmpjejdcaaDoor
open Go.RowKit

theorem wrapU_in {n : Int} (h0 : 0 ≤ n) (h1 : n < 18446744073709551616) : IntKind.u64.wrap n = n := by
  have e : IntKind.u64.wrap n = n % 18446744073709551616 := by first | rfl | simp [IntKind.wrap, IntKind.bits, IntKind.signed]
  rw [e]; exact Int.emod_eq_of_lt h0 h1
theorem at_any (l h n : Int) (w : World) (h0 : -4503599627370496 ≤ l) (h1 : l ≤ h) (h2 : h ≤ 4503599627370496) (n0 : 0 ≤ n) (_n1 : n ≤ 18446744073709551615) :
    Calls Tryd.prog 48 #[.agg #[.int .i64 l, .int .i64 h], .int .u64 n] w fun e w' => e = .returned (.int .i64 (l + n % (h - l + 1))) ∧ Below w.heap.size w w' := by
  obtain ⟨s, hs⟩ : ∃ s, h - l + 1 = s := ⟨_, rfl⟩
  have s0 : 1 ≤ s := by omega
  have s1 : s ≤ 9007199254740993 := by omega
  have r0 := Int.emod_nonneg n (show s ≠ 0 by omega)
  have r1 := Int.emod_lt_of_pos n (show 0 < s by omega)
  obtain ⟨r, hr⟩ : ∃ r, n % s = r := ⟨_, rfl⟩
  rw [hr] at r0 r1
  rw [hs, hr]
  have hne : (s == 0) = false := by simp; omega
  obtain ⟨t, ht⟩ : ∃ t, h - l = t := ⟨_, rfl⟩
  have e1 : IntKind.i64.wrap (h - l) = t := by rw [ht]; exact IntWalk.i64_in _ (by omega)
  have e2 : IntKind.i64.wrap (t + 1) = s := by rw [← ht, hs]; exact IntWalk.i64_in _ (by omega)
  have e3 : IntKind.u64.wrap s = s := wrapU_in (by omega) (by omega)
  have e4 : n.tmod s = r := by rw [Int.tmod_eq_emod_of_nonneg n0]; exact hr
  have e5 : IntKind.i64.wrap r = r := IntWalk.i64_in _ (by omega)
  have e6 : IntKind.i64.wrap (l + r) = l + r := IntWalk.i64_in _ (by omega)
  clear hs hr ht
  go_enter Tryd.func48, Tryd.ntmps48
  go_wp2
  go_quiet (fail)
  clear e1 e2 e3 e4 e5 e6 hne
  go_wp2
  go_ret
  exact ⟨rfl, by (repeat (first | with_reducible exact Below.refl _ _ | with_reducible assumption | refine Below.alloc ?_ (by (try simp); try omega) _ | refine Below.setCell ?_ (by (try simp); try omega) _ | refine below_drewN ?_ _ | refine Below.drew ?_ | (with_reducible refine Below.trans ?_ (Below.mono (by assumption) (by (try simp); try omega)))))⟩
theorem holds_true (a0 a1 e dn f up g : Int) (w : World) (h : e ≠ 0 ∨ (e = 0 ∧ f = 0 ∧ g = 0 ∧ a0 ≤ dn ∧ up ≤ a1)) :
    Calls Tryd.prog 52 #[.agg #[.int .i64 a0, .int .i64 a1], .int .i64 e, .int .i64 dn, .int .i64 f, .int .i64 up, .int .i64 g] w fun e w' => e = .returned (.bool true) ∧ Below w.heap.size w w' := by
  by_cases he : e = 0
  · obtain ⟨rfl, rfl, rfl, h0, h1⟩ : e = 0 ∧ f = 0 ∧ g = 0 ∧ a0 ≤ dn ∧ up ≤ a1 := by rcases h with h | h; exact absurd he h; exact h
    clear h he
    go_enter Tryd.func52, Tryd.ntmps52
    go_wp2
    go_ret
    exact ⟨rfl, by (repeat (first | with_reducible exact Below.refl _ _ | with_reducible assumption | refine Below.alloc ?_ (by (try simp); try omega) _ | refine Below.setCell ?_ (by (try simp); try omega) _ | refine below_drewN ?_ _ | refine Below.drew ?_ | (with_reducible refine Below.trans ?_ (Below.mono (by assumption) (by (try simp); try omega)))))⟩
  · clear h
    go_enter Tryd.func52, Tryd.ntmps52
    go_wp2
    go_ret
    exact ⟨rfl, by (repeat (first | with_reducible exact Below.refl _ _ | with_reducible assumption | refine Below.alloc ?_ (by (try simp); try omega) _ | refine Below.setCell ?_ (by (try simp); try omega) _ | refine below_drewN ?_ _ | refine Below.drew ?_ | (with_reducible refine Below.trans ?_ (Below.mono (by assumption) (by (try simp); try omega)))))⟩
theorem holdsOf {r : Int × Int × Int} {u v : Int × Int} (h : ∀ l k, r = (l, k, 0) → Fits l k u v) : r.2.2 ≠ 0 ∨ (r.2.2 = 0 ∧ u.2 = 0 ∧ v.2 = 0 ∧ r.1 ≤ u.1 ∧ v.1 ≤ r.2.1) := by
  obtain ⟨l, k, e⟩ := r
  by_cases c : e = 0
  · subst c; exact Or.inr ⟨rfl, h l k rfl⟩
  · exact Or.inl c
theorem add_pt {a b c d x y : Int} (ka : ckS a b = 0) (kc : ckS c d = 0) (x0 : a ≤ x) (x1 : x ≤ b) (y0 : c ≤ y) (y1 : y ≤ d) : ∃ l u e, sAddR a b c d = (l, u, e) ∧ (e ≠ 0 ∨ (e = 0 ∧ l ≤ x + y ∧ x + y ≤ u)) := by
  refine ⟨(sAddR a b c d).1, (sAddR a b c d).2.1, (sAddR a b c d).2.2, rfl, ?_⟩
  unfold sAddR
  rw [if_pos (val2 ka kc)]
  unfold limS
  by_cases g : ckS (a + c) (b + d) = 0
  · rw [if_pos g]; exact Or.inr ⟨rfl, by simp only []; omega, by simp only []; omega⟩
  · rw [if_neg g]; exact Or.inl (by decide)
theorem place {l h : Int} (n : Int) (k : l ≤ h) : ∃ X, l + n % (h - l + 1) = X ∧ l ≤ X ∧ X ≤ h := by
  have := Int.emod_nonneg n (show h - l + 1 ≠ 0 by omega)
  have := Int.emod_lt_of_pos n (show 0 < h - l + 1 by omega)
  exact ⟨_, rfl, by omega, by omega⟩

end Go.Proofs.YtpfmhpmpjejdcaaDoor
