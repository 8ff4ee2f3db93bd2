/-
  The chapter's examples, as the statements look at them: the function works answers true.
-/
import Derived.Test.YtkapjdehcanppaaDoorFixJ
namespace Go.Proofs.YtkapjdehcanppaaDoor
open Go.RowKit

theorem is_any (x : Int) (w : World) :
    Calls Tryd.prog 34 #[.int .i64 x] w fun e w' => ∃ bx : Nat, e = .returned (.func (.func 49) #[] #[.pointer (some ⟨bx, 0, none⟩)]) ∧ w'.cell? ⟨bx, 0, none⟩ = some (.int .i64 x) ∧ Below w.heap.size w w' := by
  have hmf : ∀ (fn : Fn) (first cap : Array Value) (w : World), (Instr.makeFunc fn first cap).run Tryd.prog w = .ok (.func fn first cap) w := fun _ _ _ _ => rfl
  have h : Calls Tryd.prog 34 #[.int .i64 x] w fun e w' => e = .returned (.func (.func 49) #[] #[.pointer (some ⟨w.heap.size, 0, none⟩)]) ∧ w' = w.alloc (.cells #[.int .i64 x] 3) := by
    go_enter Tryd.func34, Tryd.ntmps34
    go_wp2
    go_ret
    exact ⟨rfl, rfl⟩
  refine h.mono ?_
  rintro e w' ⟨rfl, rfl⟩
  exact ⟨_, rfl, by simp, by (repeat (first | with_reducible exact Below.refl _ _ | with_reducible assumption | refine Below.alloc ?_ (by (try simp); try omega) _ | refine Below.setCell ?_ (by (try simp); try omega) _ | refine below_drewN ?_ _ | refine Below.drew ?_ | (with_reducible refine Below.trans ?_ (Below.mono (by assumption) (by (try simp); try omega)))))⟩
theorem fails_any (x : Int) (w : World) :
    Calls Tryd.prog 38 #[.int .i64 x] w fun e w' => ∃ bx : Nat, e = .returned (.func (.func 51) #[] #[.pointer (some ⟨bx, 0, none⟩)]) ∧ w'.cell? ⟨bx, 0, none⟩ = some (.int .i64 x) ∧ Below w.heap.size w w' := by
  have hmf : ∀ (fn : Fn) (first cap : Array Value) (w : World), (Instr.makeFunc fn first cap).run Tryd.prog w = .ok (.func fn first cap) w := fun _ _ _ _ => rfl
  have h : Calls Tryd.prog 38 #[.int .i64 x] w fun e w' => e = .returned (.func (.func 51) #[] #[.pointer (some ⟨w.heap.size, 0, none⟩)]) ∧ w' = w.alloc (.cells #[.int .i64 x] 24) := by
    go_enter Tryd.func38, Tryd.ntmps38
    go_wp2
    go_ret
    exact ⟨rfl, rfl⟩
  refine h.mono ?_
  rintro e w' ⟨rfl, rfl⟩
  exact ⟨_, rfl, by simp, by (repeat (first | with_reducible exact Below.refl _ _ | with_reducible assumption | refine Below.alloc ?_ (by (try simp); try omega) _ | refine Below.setCell ?_ (by (try simp); try omega) _ | refine below_drewN ?_ _ | refine Below.drew ?_ | (with_reducible refine Below.trans ?_ (Below.mono (by assumption) (by (try simp); try omega)))))⟩
theorem is1_true (x : Int) (bx : Nat) (w : World) (hbx : w.cell? ⟨bx, 0, none⟩ = some (.int .i64 x)) :
    Calls Tryd.prog 49 #[.int .i64 x, .int .i64 0, .pointer (some ⟨bx, 0, none⟩)] w fun r w' => r = .returned (.bool true) ∧ w = w' := by
  have h := is1_any x 0 x bx w hbx
  simp at h
  exact h
theorem fails1_true (x : Int) (bx : Nat) (w : World) (hbx : w.cell? ⟨bx, 0, none⟩ = some (.int .i64 x)) :
    Calls Tryd.prog 51 #[.int .i64 0, .int .i64 x, .pointer (some ⟨bx, 0, none⟩)] w fun r w' => r = .returned (.bool true) ∧ w = w' := by
  have h := fails1_any 0 x x bx w hbx
  simp at h
  exact h

theorem isqrt_eq (n r : Int) (r0 : 0 ≤ r) (h0 : r * r ≤ n) (h1 : n < (r + 1) * (r + 1)) (hn : n < 77371252455336267181195264) : isqrt n = r := by
  have hn0 : 0 ≤ n := by have := Int.mul_nonneg r0 r0; omega
  obtain ⟨i0, i1, i2, i3⟩ := isqrt_spec n hn0 hn
  apply Int.le_antisymm
  · apply Int.le_of_lt_add_one
    apply Int.lt_of_not_ge
    intro h
    have := Int.mul_le_mul h h (by omega) (by omega)
    omega
  · apply Int.le_of_lt_add_one
    apply Int.lt_of_not_ge
    intro h
    have := Int.mul_le_mul h h (by omega) (by omega)
    omega
theorem sqrtR_down (a r : Int) (a0 : 0 ≤ a) (a1 : a ≤ 4503599627370496) (r0 : 0 ≤ r) (h0 : r * r ≤ a * 4294967296) (h1 : a * 4294967296 < (r + 1) * (r + 1)) : sqrtR false a = (r, 0) := by
  unfold sqrtR rootR
  rw [if_pos ⟨ckErr_ok (by omega) a1, a0⟩, isqrt_eq _ r r0 h0 h1 (by omega)]
  simp
theorem sqrtR_up (a r : Int) (a0 : 0 ≤ a) (a1 : a ≤ 4503599627370496) (r0 : 0 ≤ r) (h0 : r * r < a * 4294967296) (h1 : a * 4294967296 < (r + 1) * (r + 1)) : sqrtR true a = (r + 1, 0) := by
  unfold sqrtR rootR
  rw [if_pos ⟨ckErr_ok (by omega) a1, a0⟩, isqrt_eq _ r r0 (by omega) h1 (by omega), if_pos ⟨rfl, by omega⟩]
theorem sqrtR_up_exact (a r : Int) (a0 : 0 ≤ a) (a1 : a ≤ 4503599627370496) (r0 : 0 ≤ r) (h0 : r * r = a * 4294967296) : sqrtR true a = (r, 0) := by
  unfold sqrtR rootR
  have h1 : (r + 1) * (r + 1) = r * r + 2 * r + 1 := by grind
  rw [if_pos ⟨ckErr_ok (by omega) a1, a0⟩, isqrt_eq _ r r0 (by omega) (by omega) (by omega), if_neg (by omega)]

end Go.Proofs.YtkapjdehcanppaaDoor
