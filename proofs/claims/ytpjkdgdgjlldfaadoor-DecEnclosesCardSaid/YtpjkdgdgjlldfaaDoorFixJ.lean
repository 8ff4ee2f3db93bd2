/-
  Walks of package fix: FromDec. And the closures of the statements' package.
-/
import Derived.Test.YtpjkdgdgjlldfaaDoorFixI
namespace Go.Proofs.YtpjkdgdgjlldfaaDoor
open Go.RowKit

/-- The table of powers of ten, as memory holds it. -/
def Tens (w : World) : Prop := ∀ k : Nat, k < 13 → w.cell? ⟨0, k, none⟩ = some (.int .i64 (10 ^ k : Nat))
theorem Tens.below {w w' : World} (h : Tens w) (hb : Below w.heap.size w w') : Tens w' := fun k hk => bkeep hb (h k hk)

/-- Since the world w only memory was made: closed to the walk. -/
def Since (w w' : World) : Prop := Below w.heap.size w w'
theorem Since.refl (w : World) : Since w w := Below.refl _ _
theorem Since.out {w w' : World} (h : Since w w') : Below w.heap.size w w' := h
theorem Since.step {w a b : World} (h : Since w a) (k : Below a.heap.size a b) : Since w b := h.trans (k.mono h.size)

theorem pow10_bd (k : Nat) (h : k < 13) : 1 ≤ (10 ^ k : Nat) ∧ (10 ^ k : Nat) ≤ 1000000000000 := by
  have h1 : (10 ^ k : Nat) ≤ 10 ^ 12 := Nat.pow_le_pow_right (by omega) (by omega)
  have h2 := Nat.pow_pos (n := k) (show 0 < 10 by omega)
  omega

def decR (n k : Int) : Int × Int × Int :=
  if k < 0 ∨ 13 ≤ k then (0, 0, 2)
  else if (lim (rq false (n * 4294967296) (10 ^ k.toNat : Nat))).2 = 0 ∧ (lim (rq true (n * 4294967296) (10 ^ k.toNat : Nat))).2 = 0 then
    (rq false (n * 4294967296) (10 ^ k.toNat : Nat), rq true (n * 4294967296) (10 ^ k.toNat : Nat), 0) else (0, 0, 6)

theorem lim_cases (q : Int) : lim q = (q, 0) ∧ -4503599627370496 ≤ q ∧ q ≤ 4503599627370496 ∨ lim q = (0, 6) ∧ (q < -4503599627370496 ∨ 4503599627370496 < q) := by
  unfold lim; split <;> simp_all <;> omega

theorem fromDec_any (n k : Int) (w : World) (ht : Tens w) (n0 : -9223372036854775808 ≤ n) (n1 : n ≤ 9223372036854775807) :
    Calls Tryd.prog 17 #[.int .i64 n, .int .i64 k] w fun e w' =>
      e = .returned (.tuple #[.int .i64 (decR n k).1, .int .i64 (decR n k).2.1, .int .i64 (decR n k).2.2]) ∧ Below w.heap.size w w' := by
  by_cases k1 : k < 0
  · rw [show decR n k = (0, 0, 2) by unfold decR; rw [if_pos (by omega)]]
    clear ht
    go_enter Tryd.func17, Tryd.ntmps17
    go_wp2
    go_ret3
    exact ⟨rfl, by (repeat (first | with_reducible exact Below.refl _ _ | with_reducible assumption | refine Below.alloc ?_ (by (try simp); try omega) _ | refine Below.setCell ?_ (by (try simp); try omega) _ | refine below_drewN ?_ _ | refine Below.drew ?_ | (with_reducible refine Below.trans ?_ (Below.mono (by assumption) (by (try simp); try omega)))))⟩
  by_cases k2 : 13 ≤ k
  · rw [show decR n k = (0, 0, 2) by unfold decR; rw [if_pos (by omega)]]
    clear ht
    go_enter Tryd.func17, Tryd.ntmps17
    go_wp2
    go_ret3
    exact ⟨rfl, by (repeat (first | with_reducible exact Below.refl _ _ | with_reducible assumption | refine Below.alloc ?_ (by (try simp); try omega) _ | refine Below.setCell ?_ (by (try simp); try omega) _ | refine below_drewN ?_ _ | refine Below.drew ?_ | (with_reducible refine Below.trans ?_ (Below.mono (by assumption) (by (try simp); try omega)))))⟩
  obtain ⟨j, rfl⟩ := Int.eq_ofNat_of_zero_le (show 0 ≤ k by omega)
  have hj : j < 13 := by omega
  have hc := ht j hj
  have hlt := World.block_lt_of_cell? w _ hc
  simp at hlt
  obtain ⟨p0, p1⟩ := pow10_bd j hj
  have hd := fun w => ratio_any n 4294967296 (10 ^ j : Nat) false w n0 n1 (by omega) (by omega) (by omega) (by omega)
  have hu := fun w => ratio_any n 4294967296 (10 ^ j : Nat) true w n0 n1 (by omega) (by omega) (by omega) (by omega)
  have hR : decR n j = if (lim (rq false (n * 4294967296) (10 ^ j : Nat))).2 = 0 ∧ (lim (rq true (n * 4294967296) (10 ^ j : Nat))).2 = 0 then
    (rq false (n * 4294967296) (10 ^ j : Nat), rq true (n * 4294967296) (10 ^ j : Nat), 0) else (0, 0, 6) := by
    unfold decR; rw [if_neg (by omega)]; rfl
  generalize rq false (n * 4294967296) (10 ^ j : Nat) = qd at *
  generalize rq true (n * 4294967296) (10 ^ j : Nat) = qu at *
  generalize hD : ((10 ^ j : Nat) : Int) = D at *
  rcases lim_cases qd with ⟨ed, -⟩ | ⟨ed, -⟩
  · rcases lim_cases qu with ⟨eu, -⟩ | ⟨eu, -⟩
    · rw [ed, eu] at hR
      rw [ed] at hd
      rw [eu] at hu
      rw [hR]
      clear hR ed eu ht hD
      go_enter Tryd.func17, Tryd.ntmps17
      go_wp2_with (first | (go_at_call 34; (first | (with_reducible refine (hd _).mono ?_) | (with_reducible refine (hu _).mono ?_)); rintro e w1 ⟨rfl, hb1⟩; obtain ⟨hc1, hf1⟩ := bcell hb1; have hz1 := hb1.size))
      go_ret3
      exact ⟨rfl, by (repeat (first | with_reducible exact Below.refl _ _ | with_reducible assumption | refine Below.alloc ?_ (by (try simp); try omega) _ | refine Below.setCell ?_ (by (try simp); try omega) _ | refine below_drewN ?_ _ | refine Below.drew ?_ | (with_reducible refine Below.trans ?_ (Below.mono (by assumption) (by (try simp); try omega)))))⟩
    · rw [ed, eu] at hR
      rw [ed] at hd
      rw [eu] at hu
      rw [hR]
      clear hR ed eu ht hD
      go_enter Tryd.func17, Tryd.ntmps17
      go_wp2_with (first | (go_at_call 34; (first | (with_reducible refine (hd _).mono ?_) | (with_reducible refine (hu _).mono ?_)); rintro e w1 ⟨rfl, hb1⟩; obtain ⟨hc1, hf1⟩ := bcell hb1; have hz1 := hb1.size))
      go_ret3
      exact ⟨rfl, by (repeat (first | with_reducible exact Below.refl _ _ | with_reducible assumption | refine Below.alloc ?_ (by (try simp); try omega) _ | refine Below.setCell ?_ (by (try simp); try omega) _ | refine below_drewN ?_ _ | refine Below.drew ?_ | (with_reducible refine Below.trans ?_ (Below.mono (by assumption) (by (try simp); try omega)))))⟩
  · rw [ed] at hR
    rw [ed] at hd
    rw [hR]
    clear hR ed ht hD hu
    go_enter Tryd.func17, Tryd.ntmps17
    go_wp2_with (first | (go_at_call 34; refine (hd _).mono ?_; rintro e w1 ⟨rfl, hb1⟩; obtain ⟨hc1, hf1⟩ := bcell hb1; have hz1 := hb1.size))
    go_ret3
    exact ⟨rfl, by (repeat (first | with_reducible exact Below.refl _ _ | with_reducible assumption | refine Below.alloc ?_ (by (try simp); try omega) _ | refine Below.setCell ?_ (by (try simp); try omega) _ | refine below_drewN ?_ _ | refine Below.drew ?_ | (with_reducible refine Below.trans ?_ (Below.mono (by assumption) (by (try simp); try omega)))))⟩

end Go.Proofs.YtpjkdgdgjlldfaaDoor
