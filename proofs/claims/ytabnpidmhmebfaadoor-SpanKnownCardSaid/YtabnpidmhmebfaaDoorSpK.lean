/-
  Package span: power: the numbers that its walk meets.
-/
import Derived.Test.YtabnpidmhmebfaaDoorSpJ
import Derived.Deep.QuietTactic
import Derived.BigQuiet
import Derived.IntWalk
namespace Go.Proofs.YtabnpidmhmebfaaDoor
open Go.RowKit

/-- The power of a natural number in units of 2^-32, rounded. -/
def rdN (to : Bool) (m o : Nat) : Nat := if to = true ∧ m ^ (o + 1) % 4294967296 ^ o ≠ 0 then m ^ (o + 1) / 4294967296 ^ o + 1 else m ^ (o + 1) / 4294967296 ^ o
theorem rdN_floor (m o : Nat) : rdN false m o = m ^ (o + 1) / 4294967296 ^ o := by unfold rdN; simp
theorem rdN_exact (m o : Nat) (h : m ^ (o + 1) % 4294967296 ^ o = 0) : rdN true m o = m ^ (o + 1) / 4294967296 ^ o := by unfold rdN; simp [h]
theorem rdN_up (m o : Nat) (h : m ^ (o + 1) % 4294967296 ^ o ≠ 0) : rdN true m o = m ^ (o + 1) / 4294967296 ^ o + 1 := by unfold rdN; simp [h]

theorem digs_drewN {w : World} {b L N k : Nat} (h : Digs w b L N) : Digs (w.drewN k) b L N := World.rowIs.of_block h (by simp)
theorem parts_at {w : World} {b o N : Nat} (h : Digs w b (2 * (o + 1)) N) : At w b o (o + 2) (fun i => dg (N / 4294967296 ^ o) i) := fun i hi => by
  show w.cell? _ = some (.int .u32 ((dg (N / 4294967296 ^ o) i : Nat) : Int))
  rw [← dg_off]; exact h.cell (by omega)
theorem rest_at {w : World} {b o N : Nat} (h : Digs w b (2 * (o + 1)) N) : At w b 0 o (fun i => dg N i) := fun i hi => by
  rw [Nat.zero_add]; exact h.cell (by omega)
theorem parts_row {w : World} {b o N : Nat} (h : Digs w b (2 * (o + 1)) N) : w.rowIs b 41 (o + (o + 2)) (fun i => .int .u32 ((if i < o then dg N i else dg (N / 4294967296 ^ o) (i - o) : Nat))) := by
  rw [show o + (o + 2) = 2 * (o + 1) by omega]
  refine h.congr (fun i hi => ?_)
  by_cases e : i < o
  · rw [if_pos e]
  · rw [if_neg e, ← dg_off, show o + (i - o) = i by omega]
theorem row_at {w : World} {b o M : Nat} {h : Nat → Nat} (hr : w.rowIs b 41 (o + (o + 2)) (fun i => .int .u32 ((if i < o then h i else dg M (i - o) : Nat)))) : At w b o (o + 2) (fun i => dg M i) := fun i hi => by
  have := hr.cell (i := o + i) (by omega)
  rw [if_neg (by omega), show o + i - o = i by omega] at this
  exact this
theorem At.drewN {w : World} {b o M k : Nat} {g : Nat → Nat} (h : At w b o M g) : At (w.drewN k) b o M g := fun i hi => by
  have := h i hi
  simpa using this
/-- The two lower digits make the number modulo 2^64. -/
theorem two_digits (M : Nat) : bits .or .u64 (IntKind.u64.wrap (((dg M 1 : Nat) : Int) * 4294967296)) ((dg M 0 : Nat) : Int) = ((M % 18446744073709551616 : Nat) : Int) := by
  have h0 := dg_lt M 0
  have h1 := dg_lt M 1
  have e : ((M % 18446744073709551616 : Nat) : Int) = ((dg M 1 : Nat) : Int) * 4294967296 + ((dg M 0 : Nat) : Int) := by
    unfold dg; simp only [Nat.pow_zero, Nat.pow_one, Nat.div_one]; omega
  rw [e, wrap_in _ (by omega) (by omega)]
  exact or_add ((dg M 1 : Nat) : Int) ((dg M 0 : Nat) : Int) 32 (by omega) (by omega) (by simp; omega) (by simp; omega)
theorem pow_parts_lt (m o : Nat) (hm : m ≤ 4503599627370496) (_ho : o ≤ 15) : m ^ (o + 1) / 4294967296 ^ o + 1 < 4294967296 ^ (o + 2) := by
  have h1 : m ^ (o + 1) ≤ 4503599627370496 ^ (o + 1) := Nat.pow_le_pow_left hm _
  have h2 : m ^ (o + 1) / 4294967296 ^ o ≤ 4503599627370496 ^ (o + 1) / 4294967296 ^ o := Nat.div_le_div_right h1
  have h3 : 4503599627370496 ^ (o + 1) / 4294967296 ^ o = 1048576 ^ o * 4503599627370496 := by
    rw [show (4503599627370496 : Nat) = 1048576 * 4294967296 by rfl, Nat.mul_pow, Nat.pow_succ, Nat.pow_succ]
    rw [show 1048576 ^ o * 1048576 * (4294967296 ^ o * 4294967296) = (1048576 ^ o * (1048576 * 4294967296)) * 4294967296 ^ o by
      simp only [Nat.mul_assoc, Nat.mul_comm, Nat.mul_left_comm]]
    exact Nat.mul_div_cancel _ (pw_pos o)
  have h4 : 1048576 ^ o ≤ 4294967296 ^ o := Nat.pow_le_pow_left (by omega) _
  have h5 : 1048576 ^ o * 4503599627370496 ≤ 4294967296 ^ o * 4503599627370496 := Nat.mul_le_mul_right _ h4
  have h6 := pw_pos o
  rw [show 4294967296 ^ (o + 2) = 4294967296 ^ o * 18446744073709551616 by rw [Nat.pow_add]]
  omega
theorem rdN_lt (to : Bool) (m o : Nat) (hm : m ≤ 4503599627370496) (ho : o ≤ 15) : rdN to m o < 4294967296 ^ (o + 2) := by
  have := pow_parts_lt m o hm ho
  unfold rdN; split <;> omega
/-- The digits from 2 on are 0 exactly if the number has at most 64 bits. -/
theorem high_zero (M o : Nat) (h : M < 4294967296 ^ (o + 2)) : (∀ i, i < o → dg M (2 + i) = 0) ↔ M < 18446744073709551616 := by
  have e : (∀ i, i < o → dg M (2 + i) = 0) ↔ (∀ i, i < o → dg (M / 18446744073709551616) i = 0) := by
    constructor <;> intro h i hi
    · have := h i hi; rw [dg_off] at this; exact this
    · rw [dg_off]; exact h i hi
  rw [e, dg_zero]
  have h1 : M / 18446744073709551616 < 4294967296 ^ o := by
    rw [Nat.div_lt_iff_lt_mul (by omega)]
    rw [Nat.pow_succ, Nat.pow_succ, Nat.mul_assoc] at h
    exact h
  rw [Nat.mod_eq_of_lt h1]
  omega
theorem sgR_big (ng : Bool) (M : Nat) (h : 4503599627370496 < M) : sgR ng (M : Int) = (0, 6) := by unfold sgR; rw [if_pos (by omega)]
theorem sgR_fit (ng : Bool) (M : Nat) (h : M ≤ 4503599627370496) : sgR ng (M : Int) = (if ng then -(M : Int) else M, 0) := by unfold sgR; rw [if_neg (by omega)]

end Go.Proofs.YtabnpidmhmebfaaDoor
