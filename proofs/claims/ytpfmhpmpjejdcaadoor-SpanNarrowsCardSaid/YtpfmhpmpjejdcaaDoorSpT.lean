/-
  The references for layers 1 and 2: FromDec, Dec.
-/
import Derived.Test.YtpfmhpmpjejdcaaDoorSpS
import Derived.Test.YtpfmhpmpjejdcaaDoorSpG
import Derived.Test.YtpfmhpmpjejdcaaDoorRefB
import Derived.Test.YtpfmhpmpjejdcaaDoorFixV
namespace Go.Proofs.YtpfmhpmpjejdcaaDoor
open Go.RowKit

/-- The number n / 10^k, rounded, as the reference finds it. -/
theorem dec_ref_num (n : Int) (d : Int) (up ng : Bool) (hd : 0 < d) (_hn : ng = decide (n < 0)) :
    (ovF 4294967296 n.natAbs d = (4294967296 * (n.natAbs : Int) / d, decide (0 < 4294967296 * (n.natAbs : Int) % d), true) ∧ 0 ≤ 4294967296 * (n.natAbs : Int) / d ∧ 4294967296 * (n.natAbs : Int) / d ≤ 4503599627370496 ∧
      rdiv (up != ng) (4294967296 * (n.natAbs : Int)) d = if decide (0 < 4294967296 * (n.natAbs : Int) % d) && (up != ng) then 4294967296 * (n.natAbs : Int) / d + 1 else 4294967296 * (n.natAbs : Int) / d) ∨
    (ovF 4294967296 n.natAbs d = (0, false, false) ∧ putV ng (rdiv (up != ng) (4294967296 * (n.natAbs : Int)) d) = (0, false)) := by
  have hq0 : 0 ≤ 4294967296 * (n.natAbs : Int) / d := Int.ediv_nonneg (by omega) (by omega)
  by_cases h : 4294967296 * (n.natAbs : Int) / d ≤ 4503599627370496
  · left
    refine ⟨by unfold ovF; rw [if_pos h], hq0, h, ?_⟩
    unfold rdiv
    cases up <;> cases ng <;> simp
  · right
    refine ⟨by unfold ovF; rw [if_neg h], ?_⟩
    have : 4294967296 * (n.natAbs : Int) / d ≤ rdiv (up != ng) (4294967296 * (n.natAbs : Int)) d := by
      unfold rdiv; split <;> omega
    unfold putV; rw [if_pos (by omega)]

/-- What the reference tells of n / d. -/
def decV (up : Bool) (n d : Int) : Int × Bool := putV (decide (n < 0)) (rdiv (up != decide (n < 0)) (4294967296 * (n.natAbs : Int)) d)
theorem decV_lim (up : Bool) (n d : Int) (hd : 0 < d) : (decV up n d).2 = true ∧ lim (rq up (n * 4294967296) d) = ((decV up n d).1, 0) ∨ (decV up n d).2 = false ∧ lim (rq up (n * 4294967296) d) = (0, 6) := by
  have e : lim (rq up (n * 4294967296) d) = sgR (decide (n < 0)) (rdiv (up != decide (n < 0)) (4294967296 * (n.natAbs : Int)) d) := by
    rw [sgR_lim _ _ (rdiv_nonneg _ _ _ (by omega) hd), rdiv_rq _ _ _ hd]
    by_cases hn : n < 0
    · simp only [hn, decide_true]
      rw [show (n * 4294967296 : Int) = -(4294967296 * (n.natAbs : Int)) by omega, rq_neg]
      cases up <;> simp
    · simp only [hn, decide_false]
      rw [show (n * 4294967296 : Int) = 4294967296 * (n.natAbs : Int) by omega]
      cases up <;> simp
  rw [e]
  unfold decV putV sgR
  split <;> simp

set_option maxHeartbeats 2000000 in
theorem refDec_any (n : Int) (k : Nat) (up : Bool) (w : World) (n0 : -9223372036854775808 ≤ n) (n1 : n ≤ 9223372036854775807) (hk : k ≤ 12) :
    Calls Tryd.prog 98 #[.int .i64 n, .int .i64 k, .bool up] w fun e w' => e = .returned (.tuple #[.int .i64 (decV up n (10 ^ k : Nat)).1, .bool (decV up n (10 ^ k : Nat)).2]) ∧ ∃ m, w' = w.drewN m := by
  obtain ⟨p0, p1⟩ := pow10_bd k (by omega)
  have ho := fun w => over_ref 4294967296 (n.natAbs : Int) ((10 ^ k : Nat) : Int) w (by omega) (by omega) (by omega) (by omega) (by omega) (by omega)
  have hs := fun w => refSize_any n w n0 n1
  have hstep : ∀ j : Nat, j < k → IntKind.u64.wrap (10 * ((10 ^ j : Nat) : Int)) = ((10 ^ (j + 1) : Nat) : Int) := by
    intro j hj
    obtain ⟨q0, q1⟩ := pow10_bd j (by omega)
    rw [wrap_in _ (by omega) (by omega), Nat.pow_succ]; omega
  have HS := Lib.hid hstep
  have HB := Lib.hid (fun j : Nat => fun h : j < 13 => pow10_bd j h)
  obtain ⟨ng, hng⟩ : ∃ ng, decide (n < 0) = ng := ⟨_, rfl⟩
  rcases dec_ref_num n ((10 ^ k : Nat) : Int) up ng (by omega) hng.symm with ⟨h1, h2, h3, h4⟩ | ⟨h1, h2⟩
  · rw [h1] at ho
    have hp := fun w => put_any ng (decide (0 < 4294967296 * (n.natAbs : Int) % ((10 ^ k : Nat) : Int))) up _ _ w h2 h3 h4
    have e : decV up n (10 ^ k : Nat) = putV ng (rdiv (up != ng) (4294967296 * (n.natAbs : Int)) ((10 ^ k : Nat) : Int)) := by unfold decV; rw [hng]
    rw [e]
    generalize putV ng (rdiv (up != ng) (4294967296 * (n.natAbs : Int)) ((10 ^ k : Nat) : Int)) = pv at *
    generalize 4294967296 * (n.natAbs : Int) / ((10 ^ k : Nat) : Int) = Q at *
    generalize decide (0 < 4294967296 * (n.natAbs : Int) % ((10 ^ k : Nat) : Int)) = rest at *
    dsimp only at ho
    clear h1 h4 hstep e
    go_enter Tryd.func98, Tryd.ntmps98
    go_wp2
    go_loop [8, 9] (fun d i => ∃ j : Nat, j ≤ k ∧ i = .int .i64 j ∧ d = .int .u64 ((10 ^ j : Nat) : Int)) (fun _ i => k - (intOf i).toNat)
    case atStart => exact ⟨0, Nat.zero_le _, rfl, rfl⟩
    case round =>
      obtain ⟨j, hj, rfl, rfl⟩ := hrel
      by_cases hlt : j < k
      · obtain ⟨q0, q1⟩ := HB.out j (by omega)
        have h := HS.out j hlt
        obtain ⟨D, hD⟩ : ∃ D : Int, ((10 ^ j : Nat) : Int) = D := ⟨_, rfl⟩
        rw [hD] at h
        have D0 : 1 ≤ D := by omega
        have D1 : D ≤ 1000000000000 := by omega
        rw [wrap_in _ (by omega) (by omega)] at h
        have HE := Lib.hid h
        rw [hD]
        clear h hD q0 q1
        go_wp2
        go_round
        case rel => exact ⟨j + 1, by omega, by go_num, by rw [HE.out]⟩
        case measure => simp [intOf]; omega
      · obtain rfl : j = k := by omega
        go_wp2_with (first | (go_at_call 113; refine (hs _).mono ?_; rintro e w' ⟨rfl, rfl⟩) | (go_at_call 112; refine (ho _).mono ?_; rintro e w1 ⟨rfl, m1, rfl⟩) | (go_at_call 114; refine (hp _).mono ?_; rintro e w' ⟨rfl, rfl⟩))
        go_ret2
        exact ⟨rfl, _, rfl⟩
  · rw [h1] at ho
    have e : decV up n (10 ^ k : Nat) = (0, false) := by unfold decV; rw [hng]; exact h2
    rw [e]
    dsimp only at ho
    clear h1 h2 hng e hstep
    go_enter Tryd.func98, Tryd.ntmps98
    go_wp2
    go_loop [8, 9] (fun d i => ∃ j : Nat, j ≤ k ∧ i = .int .i64 j ∧ d = .int .u64 ((10 ^ j : Nat) : Int)) (fun _ i => k - (intOf i).toNat)
    case atStart => exact ⟨0, Nat.zero_le _, rfl, rfl⟩
    case round =>
      obtain ⟨j, hj, rfl, rfl⟩ := hrel
      by_cases hlt : j < k
      · obtain ⟨q0, q1⟩ := HB.out j (by omega)
        have h := HS.out j hlt
        obtain ⟨D, hD⟩ : ∃ D : Int, ((10 ^ j : Nat) : Int) = D := ⟨_, rfl⟩
        rw [hD] at h
        have D0 : 1 ≤ D := by omega
        have D1 : D ≤ 1000000000000 := by omega
        rw [wrap_in _ (by omega) (by omega)] at h
        have HE := Lib.hid h
        rw [hD]
        clear h hD q0 q1
        go_wp2
        go_round
        case rel => exact ⟨j + 1, by omega, by go_num, by rw [HE.out]⟩
        case measure => simp [intOf]; omega
      · obtain rfl : j = k := by omega
        go_wp2_with (first | (go_at_call 113; refine (hs _).mono ?_; rintro e w' ⟨rfl, rfl⟩) | (go_at_call 112; refine (ho _).mono ?_; rintro e w1 ⟨rfl, m1, rfl⟩))
        go_ret2
        exact ⟨rfl, _, rfl⟩

theorem refFromDec_any (n k : Int) (w : World) (n0 : -9223372036854775808 ≤ n) (n1 : n ≤ 9223372036854775807) :
    Calls Tryd.prog 73 #[.int .i64 n, .int .i64 k] w fun e w' => e = .returned (.tuple #[.int .i64 (decR n k).1, .int .i64 (decR n k).2.1, .int .i64 (decR n k).2.2]) ∧ ∃ m, w' = w.drewN m := by
  by_cases k1 : k < 0
  · rw [show decR n k = (0, 0, 2) by unfold decR; rw [if_pos (by omega)]]
    go_enter Tryd.func73, Tryd.ntmps73
    go_wp2
    go_ret3
    exact ⟨rfl, 0, rfl⟩
  by_cases k2 : 13 ≤ k
  · rw [show decR n k = (0, 0, 2) by unfold decR; rw [if_pos (by omega)]]
    go_enter Tryd.func73, Tryd.ntmps73
    go_wp2
    go_ret3
    exact ⟨rfl, 0, rfl⟩
  obtain ⟨j, rfl⟩ := Int.eq_ofNat_of_zero_le (show 0 ≤ k by omega)
  obtain ⟨p0, p1⟩ := pow10_bd j (by omega)
  have hd := fun w => refDec_any n j false w n0 n1 (by omega)
  have hu := fun w => refDec_any n j true w n0 n1 (by omega)
  have ed := decV_lim false n ((10 ^ j : Nat) : Int) (by omega)
  have eu := decV_lim true n ((10 ^ j : Nat) : Int) (by omega)
  have hR : decR n j = if (lim (rq false (n * 4294967296) (10 ^ j : Nat))).2 = 0 ∧ (lim (rq true (n * 4294967296) (10 ^ j : Nat))).2 = 0 then
    (rq false (n * 4294967296) (10 ^ j : Nat), rq true (n * 4294967296) (10 ^ j : Nat), 0) else (0, 0, 6) := by
    unfold decR; rw [if_neg (by omega)]; rfl
  have hl : ∀ q x : Int, lim q = (x, 0) → q = x := by
    intro q x h
    rcases lim_cases q with ⟨h', -⟩ | ⟨h', -⟩
    · rw [h'] at h; exact (Prod.mk.inj h).1
    · rw [h'] at h; exact absurd (Prod.mk.inj h).2 (by omega)
  generalize decV false n ((10 ^ j : Nat) : Int) = dv at *
  generalize decV true n ((10 ^ j : Nat) : Int) = uv at *
  obtain ⟨d1, d2⟩ := dv
  obtain ⟨u1, u2⟩ := uv
  rcases ed with ⟨rfl, ed⟩ | ⟨rfl, ed⟩
  · rcases eu with ⟨rfl, eu⟩ | ⟨rfl, eu⟩
    · have r : decR n j = (d1, u1, 0) := by rw [hR, if_pos ⟨by rw [ed], by rw [eu]⟩, hl _ _ ed, hl _ _ eu]
      rw [r]
      clear hR ed eu hl r
      go_enter Tryd.func73, Tryd.ntmps73
      go_wp2_with (go_at_call 98; (first | (with_reducible refine (hd _).mono ?_) | (with_reducible refine (hu _).mono ?_)); rintro e w1 ⟨rfl, m1, rfl⟩)
      go_ret3
      exact ⟨rfl, _, rfl⟩
    · have r : decR n j = (0, 0, 6) := by rw [hR, if_neg (by rw [eu]; simp)]
      rw [r]
      clear hR ed eu hl r
      go_enter Tryd.func73, Tryd.ntmps73
      go_wp2_with (go_at_call 98; (first | (with_reducible refine (hd _).mono ?_) | (with_reducible refine (hu _).mono ?_)); rintro e w1 ⟨rfl, m1, rfl⟩)
      go_ret3
      exact ⟨rfl, _, rfl⟩
  · have r : decR n j = (0, 0, 6) := by rw [hR, if_neg (by rw [ed]; simp)]
    rw [r]
    clear hR ed eu hl r
    go_enter Tryd.func73, Tryd.ntmps73
    go_wp2_with (go_at_call 98; (first | (with_reducible refine (hd _).mono ?_) | (with_reducible refine (hu _).mono ?_)); rintro e w1 ⟨rfl, m1, rfl⟩)
    go_ret3
    exact ⟨rfl, _, rfl⟩

/-- A result of FromDec is always an interval. -/
theorem decR_ok (n k : Int) : (decR n k).2.2 = 0 → ofR (decR n k).1 (decR n k).2.1 = ((decR n k).1, (decR n k).2.1, 0) := by
  intro _
  obtain ⟨b0, b1, b2, b3⟩ := decR_bd n k
  unfold ofR; rw [if_pos (ckS_ok b0 (decR_le n k) b3)]
theorem decR_zero (n k : Int) : (decR n k).2.2 ≠ 0 → (decR n k).1 = 0 ∧ (decR n k).2.1 = 0 := by
  unfold decR
  split
  · simp
  · split <;> simp
theorem sDecR_eq (n k : Int) : sDecR n k = decR n k := by
  unfold sDecR
  split
  · rw [decR_ok n k ‹_›, ← ‹(decR n k).2.2 = 0›]
  · obtain ⟨h1, h2⟩ := decR_zero n k ‹_›
    ext <;> simp [h1, h2]
theorem rDec_any (n k : Int) (w : World) (n0 : -9223372036854775808 ≤ n) (n1 : n ≤ 9223372036854775807) :
    Calls Tryd.prog 22 #[.int .i64 n, .int .i64 k] w fun e w' => e = .returned (.tuple #[.agg #[.int .i64 (sDecR n k).1, .int .i64 (sDecR n k).2.1], .int .i64 (sDecR n k).2.2]) ∧ Below w.heap.size w w' := by
  have hf := fun w => refFromDec_any n k w n0 n1
  rw [sDecR_eq]
  generalize decR n k = r at *
  obtain ⟨a, b, c⟩ := r
  go_enter Tryd.func22, Tryd.ntmps22
  go_wp2_with (go_at_call 73; refine (hf _).mono ?_; rintro e w1 ⟨rfl, m1, rfl⟩)
  exact bodyPost_ret (v := .tuple #[.agg #[.int .i64 a, .int .i64 b], .int .i64 c]) (by simp [results, Tryd.results22, go_sem]) rfl ⟨rfl, by (repeat (first | with_reducible exact Below.refl _ _ | with_reducible assumption | refine Below.alloc ?_ (by (try simp); try omega) _ | refine Below.setCell ?_ (by (try simp); try omega) _ | refine below_drewN ?_ _ | refine Below.drew ?_ | (with_reducible refine Below.trans ?_ (Below.mono (by assumption) (by (try simp); try omega)))))⟩

end Go.Proofs.YtpfmhpmpjejdcaaDoor
