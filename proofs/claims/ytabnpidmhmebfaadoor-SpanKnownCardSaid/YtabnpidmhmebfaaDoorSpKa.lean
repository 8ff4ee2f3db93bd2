/-
  Package span: the walk of power, Pos.
-/
import Derived.Test.YtabnpidmhmebfaaDoorSpK
namespace Go.Proofs.YtabnpidmhmebfaaDoor
open Go.RowKit

set_option maxRecDepth 100000 in
set_option maxHeartbeats 4000000 in
theorem powerPos_false (m o : Nat) (w : World) (hm : m ≤ 4503599627370496) (o0 : 1 ≤ o) (ho : o ≤ 15) :
    Calls Tryd.prog 46 #[.int .i64 (m), .int .i64 (o + 1), .bool false] w fun e w' => e = .returned (.tuple #[.int .i64 (sgR false (rdN false m o : Nat)).1, .int .i64 (sgR false (rdN false m o : Nat)).2]) ∧ Below w.heap.size w w' := by
  have hp := fun w => powerDigits_any m (o + 1) w (by omega) (by omega) (by omega)
  have hMlt := rdN_lt false m o hm ho
  obtain ⟨V, hV⟩ : ∃ V : Int, (m : Int) = V := ⟨_, rfl⟩
  have V0 : 0 ≤ V := by omega
  have V1 : V ≤ 4503599627370496 := by omega
  have hmx : max V (-V) = V := by omega
  simp only [Int.natCast_add, Int.natCast_one] at hp
  rw [hV] at hp ⊢
  clear hV
  have hw1 : IntKind.i64.wrap ((o : Int) + 1 - 1) = o := by rw [Int.add_sub_cancel]; exact IntWalk.i64_in _ (by omega)
  have hlen : 2 * (o + 1) - o = o + 2 := by omega
  have hi1 : 1 < o + 2 := by omega
  have hi0 : 0 < o + 2 := by omega
  have hj1 : (1 : Int) < (o : Int) + 2 := by omega
  have hj0 : (0 : Int) < (o : Int) + 2 := by omega
  obtain ⟨M, hM⟩ : ∃ M, rdN false m o = M := ⟨_, rfl⟩
  have HM := Lib.hid ((rdN_floor m o).symm.trans hM)
  rw [hM] at hMlt ⊢
  clear hM
  obtain ⟨q0, hQ0⟩ : ∃ q0 : Int, ((dg M 0 : Nat) : Int) = q0 := ⟨_, rfl⟩
  obtain ⟨q1, hQ1⟩ : ∃ q1 : Int, ((dg M 1 : Nat) : Int) = q1 := ⟨_, rfl⟩
  have hq0 := dg_lt M 0
  have hq1 := dg_lt M 1
  have htd := two_digits M
  rw [hQ0, hQ1] at htd
  have q00 : 0 ≤ q0 := by omega
  have q01 : q0 ≤ 4294967295 := by omega
  have q10 : 0 ≤ q1 := by omega
  have q11 : q1 ≤ 4294967295 := by omega
  clear hq0 hq1
  obtain ⟨T, hT⟩ : ∃ T : Int, ((M % 18446744073709551616 : Nat) : Int) = T := ⟨_, rfl⟩
  rw [hT] at htd
  have htd' : bits .or .u64 (q1 * 4294967296) q0 = T := by rw [wrap_in _ (by omega) (by omega)] at htd; exact htd
  have T0 : 0 ≤ T := by omega
  have T1 : T ≤ 18446744073709551615 := by omega
  by_cases hA : 4503599627370496 < T
  · rw [sgR_big false M (by omega)]
    clear hT hMlt
    go_enter Tryd.func46, Tryd.ntmps46
    go_wp2_with (go_at_call 62; ((with_reducible refine (hp _).mono ?_); rintro e w1 ⟨rfl, hd1, hb1⟩))
    go_quiet (fail)
    clear hp
    have hd2 := digs_drewN (k := nq) hd1
    have ha := parts_at hd2
    have haB := parts_at hd1
    rw [HM.out] at haB
    clear hd1 hd2
    go_wp2
    rw [HM.out] at ha
    have c0 := ha 0 (by omega)
    have c1 := ha 1 (by omega)
    rw [Nat.add_zero] at c0
    simp only [] at c0 c1
    rw [hQ0] at c0
    rw [hQ1] at c1
    try simp at c0 c1
    go_quiet (fail)
    have ha0 := ha.drewN (k := nq)
    clear ha ha0
    go_wp2
    go_ret2
    exact ⟨rfl, by (repeat (first | with_reducible exact Below.refl _ _ | with_reducible assumption | refine Below.alloc ?_ (by (try simp); try omega) _ | refine Below.setCell ?_ (by (try simp); try omega) _ | refine below_drewN ?_ _ | refine Below.drew ?_ | (with_reducible refine Below.trans ?_ (Below.mono (by assumption) (by (try simp); try omega)))))⟩
  have hA' : T ≤ 4503599627370496 := by omega
  by_cases hB : M < 18446744073709551616
  · have hTM : T = (M : Int) := by omega
    rw [sgR_fit false M (by omega), ← hTM]
    have HH := Lib.hid hB
    clear hT hB hTM hA
    go_enter Tryd.func46, Tryd.ntmps46
    go_wp2_with (go_at_call 62; ((with_reducible refine (hp _).mono ?_); rintro e w1 ⟨rfl, hd1, hb1⟩))
    go_quiet (fail)
    clear hp
    have hd2 := digs_drewN (k := nq) hd1
    have ha := parts_at hd2
    have haB := parts_at hd1
    rw [HM.out] at haB
    clear hd1 hd2
    go_wp2
    rw [HM.out] at ha
    have c0 := ha 0 (by omega)
    have c1 := ha 1 (by omega)
    rw [Nat.add_zero] at c0
    simp only [] at c0 c1
    rw [hQ0] at c0
    rw [hQ1] at c1
    try simp at c0 c1
    go_quiet (fail)
    have ha0 := ha.drewN (k := nq)
    have hz2 := fun W (h : At W w.heap.size o (o + 2) (fun i => dg M i)) => zero_true w.heap.size (o + 2) o o (fun i => dg M (2 + i)) W (by omega) (by omega) (by omega) (fun i hi => by have := h (2 + i) (by omega); rw [Nat.add_assoc]; exact this) ((high_zero M o hMlt).2 HH.out)
    go_wp2_with (go_at_call 63; (refine (hz2 _ (by first | exact ha0 | exact ha | exact haB.drewN | exact haB.drewN.drewN)).mono ?_; rintro e w' ⟨rfl, rfl⟩))
    go_ret2
    exact ⟨rfl, by (repeat (first | with_reducible exact Below.refl _ _ | with_reducible assumption | refine Below.alloc ?_ (by (try simp); try omega) _ | refine Below.setCell ?_ (by (try simp); try omega) _ | refine below_drewN ?_ _ | refine Below.drew ?_ | (with_reducible refine Below.trans ?_ (Below.mono (by assumption) (by (try simp); try omega)))))⟩
  · rw [sgR_big false M (by omega)]
    have HH := Lib.hid hB
    clear hT hB hA
    go_enter Tryd.func46, Tryd.ntmps46
    go_wp2_with (go_at_call 62; ((with_reducible refine (hp _).mono ?_); rintro e w1 ⟨rfl, hd1, hb1⟩))
    go_quiet (fail)
    clear hp
    have hd2 := digs_drewN (k := nq) hd1
    have ha := parts_at hd2
    have haB := parts_at hd1
    rw [HM.out] at haB
    clear hd1 hd2
    go_wp2
    rw [HM.out] at ha
    have c0 := ha 0 (by omega)
    have c1 := ha 1 (by omega)
    rw [Nat.add_zero] at c0
    simp only [] at c0 c1
    rw [hQ0] at c0
    rw [hQ1] at c1
    try simp at c0 c1
    go_quiet (fail)
    have ha0 := ha.drewN (k := nq)
    have hz2 := fun W (h : At W w.heap.size o (o + 2) (fun i => dg M i)) => zero_false w.heap.size (o + 2) o o (fun i => dg M (2 + i)) W (by omega) (by omega) (by omega) (fun i hi => by have := h (2 + i) (by omega); rw [Nat.add_assoc]; exact this) (fun h => HH.out ((high_zero M o hMlt).1 h))
    go_wp2_with (go_at_call 63; (refine (hz2 _ (by first | exact ha0 | exact ha | exact haB.drewN | exact haB.drewN.drewN)).mono ?_; rintro e w' ⟨rfl, rfl⟩))
    go_ret2
    exact ⟨rfl, by (repeat (first | with_reducible exact Below.refl _ _ | with_reducible assumption | refine Below.alloc ?_ (by (try simp); try omega) _ | refine Below.setCell ?_ (by (try simp); try omega) _ | refine below_drewN ?_ _ | refine Below.drew ?_ | (with_reducible refine Below.trans ?_ (Below.mono (by assumption) (by (try simp); try omega)))))⟩

set_option maxRecDepth 100000 in
set_option maxHeartbeats 4000000 in
theorem powerPos_true (m o : Nat) (w : World) (hm : m ≤ 4503599627370496) (o0 : 1 ≤ o) (ho : o ≤ 15) :
    Calls Tryd.prog 46 #[.int .i64 (m), .int .i64 (o + 1), .bool true] w fun e w' => e = .returned (.tuple #[.int .i64 (sgR false (rdN true m o : Nat)).1, .int .i64 (sgR false (rdN true m o : Nat)).2]) ∧ Below w.heap.size w w' := by
  have hp := fun w => powerDigits_any m (o + 1) w (by omega) (by omega) (by omega)
  have hMlt := rdN_lt true m o hm ho
  obtain ⟨V, hV⟩ : ∃ V : Int, (m : Int) = V := ⟨_, rfl⟩
  have V0 : 0 ≤ V := by omega
  have V1 : V ≤ 4503599627370496 := by omega
  have hmx : max V (-V) = V := by omega
  simp only [Int.natCast_add, Int.natCast_one] at hp
  rw [hV] at hp ⊢
  clear hV
  have hw1 : IntKind.i64.wrap ((o : Int) + 1 - 1) = o := by rw [Int.add_sub_cancel]; exact IntWalk.i64_in _ (by omega)
  have hlen : 2 * (o + 1) - o = o + 2 := by omega
  have hi1 : 1 < o + 2 := by omega
  have hi0 : 0 < o + 2 := by omega
  have hj1 : (1 : Int) < (o : Int) + 2 := by omega
  have hj0 : (0 : Int) < (o : Int) + 2 := by omega
  obtain ⟨M, hM⟩ : ∃ M, rdN true m o = M := ⟨_, rfl⟩
  by_cases hR : m ^ (o + 1) % 4294967296 ^ o = 0
  · have HM := Lib.hid ((rdN_exact m o hR).symm.trans hM)
    have HR := Lib.hid hR
    rw [hM] at hMlt ⊢
    clear hM hR
    obtain ⟨q0, hQ0⟩ : ∃ q0 : Int, ((dg M 0 : Nat) : Int) = q0 := ⟨_, rfl⟩
    obtain ⟨q1, hQ1⟩ : ∃ q1 : Int, ((dg M 1 : Nat) : Int) = q1 := ⟨_, rfl⟩
    have hq0 := dg_lt M 0
    have hq1 := dg_lt M 1
    have htd := two_digits M
    rw [hQ0, hQ1] at htd
    have q00 : 0 ≤ q0 := by omega
    have q01 : q0 ≤ 4294967295 := by omega
    have q10 : 0 ≤ q1 := by omega
    have q11 : q1 ≤ 4294967295 := by omega
    clear hq0 hq1
    obtain ⟨T, hT⟩ : ∃ T : Int, ((M % 18446744073709551616 : Nat) : Int) = T := ⟨_, rfl⟩
    rw [hT] at htd
    have htd' : bits .or .u64 (q1 * 4294967296) q0 = T := by rw [wrap_in _ (by omega) (by omega)] at htd; exact htd
    have T0 : 0 ≤ T := by omega
    have T1 : T ≤ 18446744073709551615 := by omega
    by_cases hA : 4503599627370496 < T
    · rw [sgR_big false M (by omega)]
      clear hT hMlt
      go_enter Tryd.func46, Tryd.ntmps46
      go_wp2_with (go_at_call 62; ((with_reducible refine (hp _).mono ?_); rintro e w1 ⟨rfl, hd1, hb1⟩))
      go_quiet (fail)
      clear hp
      have hd2 := digs_drewN (k := nq) hd1
      have ha := parts_at hd2
      have haB := parts_at hd1
      rw [HM.out] at haB
      have hz := zero_true w.heap.size 0 o (2 * (o + 1)) (fun i => dg (m ^ (o + 1)) i) (w1.drewN nq) (by omega) (by omega) (by omega) (rest_at hd2) ((dg_zero _ _).2 HR.out)
      clear hd1 hd2
      go_wp2_with (go_at_call 63; ((with_reducible refine hz.mono ?_); rintro e w' ⟨rfl, rfl⟩))
      clear hz
      rw [HM.out] at ha
      have c0 := ha 0 (by omega)
      have c1 := ha 1 (by omega)
      rw [Nat.add_zero] at c0
      simp only [] at c0 c1
      rw [hQ0] at c0
      rw [hQ1] at c1
      try simp at c0 c1
      go_quiet (fail)
      have ha0 := ha.drewN (k := nq)
      clear ha ha0
      go_wp2
      go_ret2
      exact ⟨rfl, by (repeat (first | with_reducible exact Below.refl _ _ | with_reducible assumption | refine Below.alloc ?_ (by (try simp); try omega) _ | refine Below.setCell ?_ (by (try simp); try omega) _ | refine below_drewN ?_ _ | refine Below.drew ?_ | (with_reducible refine Below.trans ?_ (Below.mono (by assumption) (by (try simp); try omega)))))⟩
    have hA' : T ≤ 4503599627370496 := by omega
    by_cases hB : M < 18446744073709551616
    · have hTM : T = (M : Int) := by omega
      rw [sgR_fit false M (by omega), ← hTM]
      have HH := Lib.hid hB
      clear hT hB hTM hA
      go_enter Tryd.func46, Tryd.ntmps46
      go_wp2_with (go_at_call 62; ((with_reducible refine (hp _).mono ?_); rintro e w1 ⟨rfl, hd1, hb1⟩))
      go_quiet (fail)
      clear hp
      have hd2 := digs_drewN (k := nq) hd1
      have ha := parts_at hd2
      have haB := parts_at hd1
      rw [HM.out] at haB
      have hz := zero_true w.heap.size 0 o (2 * (o + 1)) (fun i => dg (m ^ (o + 1)) i) (w1.drewN nq) (by omega) (by omega) (by omega) (rest_at hd2) ((dg_zero _ _).2 HR.out)
      clear hd1 hd2
      go_wp2_with (go_at_call 63; ((with_reducible refine hz.mono ?_); rintro e w' ⟨rfl, rfl⟩))
      clear hz
      rw [HM.out] at ha
      have c0 := ha 0 (by omega)
      have c1 := ha 1 (by omega)
      rw [Nat.add_zero] at c0
      simp only [] at c0 c1
      rw [hQ0] at c0
      rw [hQ1] at c1
      try simp at c0 c1
      go_quiet (fail)
      have ha0 := ha.drewN (k := nq)
      have hz2 := fun W (h : At W w.heap.size o (o + 2) (fun i => dg M i)) => zero_true w.heap.size (o + 2) o o (fun i => dg M (2 + i)) W (by omega) (by omega) (by omega) (fun i hi => by have := h (2 + i) (by omega); rw [Nat.add_assoc]; exact this) ((high_zero M o hMlt).2 HH.out)
      go_wp2_with (go_at_call 63; (refine (hz2 _ (by first | exact ha0 | exact ha | exact haB.drewN | exact haB.drewN.drewN)).mono ?_; rintro e w' ⟨rfl, rfl⟩))
      go_ret2
      exact ⟨rfl, by (repeat (first | with_reducible exact Below.refl _ _ | with_reducible assumption | refine Below.alloc ?_ (by (try simp); try omega) _ | refine Below.setCell ?_ (by (try simp); try omega) _ | refine below_drewN ?_ _ | refine Below.drew ?_ | (with_reducible refine Below.trans ?_ (Below.mono (by assumption) (by (try simp); try omega)))))⟩
    · rw [sgR_big false M (by omega)]
      have HH := Lib.hid hB
      clear hT hB hA
      go_enter Tryd.func46, Tryd.ntmps46
      go_wp2_with (go_at_call 62; ((with_reducible refine (hp _).mono ?_); rintro e w1 ⟨rfl, hd1, hb1⟩))
      go_quiet (fail)
      clear hp
      have hd2 := digs_drewN (k := nq) hd1
      have ha := parts_at hd2
      have haB := parts_at hd1
      rw [HM.out] at haB
      have hz := zero_true w.heap.size 0 o (2 * (o + 1)) (fun i => dg (m ^ (o + 1)) i) (w1.drewN nq) (by omega) (by omega) (by omega) (rest_at hd2) ((dg_zero _ _).2 HR.out)
      clear hd1 hd2
      go_wp2_with (go_at_call 63; ((with_reducible refine hz.mono ?_); rintro e w' ⟨rfl, rfl⟩))
      clear hz
      rw [HM.out] at ha
      have c0 := ha 0 (by omega)
      have c1 := ha 1 (by omega)
      rw [Nat.add_zero] at c0
      simp only [] at c0 c1
      rw [hQ0] at c0
      rw [hQ1] at c1
      try simp at c0 c1
      go_quiet (fail)
      have ha0 := ha.drewN (k := nq)
      have hz2 := fun W (h : At W w.heap.size o (o + 2) (fun i => dg M i)) => zero_false w.heap.size (o + 2) o o (fun i => dg M (2 + i)) W (by omega) (by omega) (by omega) (fun i hi => by have := h (2 + i) (by omega); rw [Nat.add_assoc]; exact this) (fun h => HH.out ((high_zero M o hMlt).1 h))
      go_wp2_with (go_at_call 63; (refine (hz2 _ (by first | exact ha0 | exact ha | exact haB.drewN | exact haB.drewN.drewN)).mono ?_; rintro e w' ⟨rfl, rfl⟩))
      go_ret2
      exact ⟨rfl, by (repeat (first | with_reducible exact Below.refl _ _ | with_reducible assumption | refine Below.alloc ?_ (by (try simp); try omega) _ | refine Below.setCell ?_ (by (try simp); try omega) _ | refine below_drewN ?_ _ | refine Below.drew ?_ | (with_reducible refine Below.trans ?_ (Below.mono (by assumption) (by (try simp); try omega)))))⟩
  · have HM := Lib.hid ((rdN_up m o hR).symm.trans hM)
    have HR := Lib.hid hR
    rw [hM] at hMlt ⊢
    clear hM hR
    obtain ⟨q0, hQ0⟩ : ∃ q0 : Int, ((dg M 0 : Nat) : Int) = q0 := ⟨_, rfl⟩
    obtain ⟨q1, hQ1⟩ : ∃ q1 : Int, ((dg M 1 : Nat) : Int) = q1 := ⟨_, rfl⟩
    have hq0 := dg_lt M 0
    have hq1 := dg_lt M 1
    have htd := two_digits M
    rw [hQ0, hQ1] at htd
    have q00 : 0 ≤ q0 := by omega
    have q01 : q0 ≤ 4294967295 := by omega
    have q10 : 0 ≤ q1 := by omega
    have q11 : q1 ≤ 4294967295 := by omega
    clear hq0 hq1
    obtain ⟨T, hT⟩ : ∃ T : Int, ((M % 18446744073709551616 : Nat) : Int) = T := ⟨_, rfl⟩
    rw [hT] at htd
    have htd' : bits .or .u64 (q1 * 4294967296) q0 = T := by rw [wrap_in _ (by omega) (by omega)] at htd; exact htd
    have T0 : 0 ≤ T := by omega
    have T1 : T ≤ 18446744073709551615 := by omega
    by_cases hA : 4503599627370496 < T
    · rw [sgR_big false M (by omega)]
      clear hT hMlt
      go_enter Tryd.func46, Tryd.ntmps46
      go_wp2_with (go_at_call 62; ((with_reducible refine (hp _).mono ?_); rintro e w1 ⟨rfl, hd1, hb1⟩))
      go_quiet (fail)
      clear hp
      have hd2 := digs_drewN (k := nq) hd1
      have hz := zero_false w.heap.size 0 o (2 * (o + 1)) (fun i => dg (m ^ (o + 1)) i) (w1.drewN nq) (by omega) (by omega) (by omega) (rest_at hd2) (fun h => HR.out ((dg_zero _ _).1 h))
      have hinc := increment_any w.heap.size o (o + 2) (m ^ (o + 1) / 4294967296 ^ o) (dg (m ^ (o + 1))) (w1.drewN nq) (by omega) (by omega) (parts_row hd2)
      clear hd1 hd2
      go_wp2_with (first | (go_at_call 63; ((with_reducible refine hz.mono ?_); rintro e w' ⟨rfl, rfl⟩)) | (go_at_call 64; ((with_reducible refine hinc.mono ?_); rintro e w2 ⟨⟨v, rfl⟩, hr2, hb2⟩; have ha := row_at hr2)))
      have haB := ha
      rw [HM.out] at haB
      clear hz hinc hr2
      rw [HM.out] at ha
      have c0 := ha 0 (by omega)
      have c1 := ha 1 (by omega)
      rw [Nat.add_zero] at c0
      simp only [] at c0 c1
      rw [hQ0] at c0
      rw [hQ1] at c1
      try simp at c0 c1
      go_quiet (fail)
      have ha0 := ha.drewN (k := nq)
      clear ha ha0
      go_wp2
      go_ret2
      exact ⟨rfl, by (repeat (first | with_reducible exact Below.refl _ _ | with_reducible assumption | refine Below.alloc ?_ (by (try simp); try omega) _ | refine Below.setCell ?_ (by (try simp); try omega) _ | refine below_drewN ?_ _ | refine Below.drew ?_ | (with_reducible refine Below.trans ?_ (Below.mono (by assumption) (by (try simp); try omega)))))⟩
    have hA' : T ≤ 4503599627370496 := by omega
    by_cases hB : M < 18446744073709551616
    · have hTM : T = (M : Int) := by omega
      rw [sgR_fit false M (by omega), ← hTM]
      have HH := Lib.hid hB
      clear hT hB hTM hA
      go_enter Tryd.func46, Tryd.ntmps46
      go_wp2_with (go_at_call 62; ((with_reducible refine (hp _).mono ?_); rintro e w1 ⟨rfl, hd1, hb1⟩))
      go_quiet (fail)
      clear hp
      have hd2 := digs_drewN (k := nq) hd1
      have hz := zero_false w.heap.size 0 o (2 * (o + 1)) (fun i => dg (m ^ (o + 1)) i) (w1.drewN nq) (by omega) (by omega) (by omega) (rest_at hd2) (fun h => HR.out ((dg_zero _ _).1 h))
      have hinc := increment_any w.heap.size o (o + 2) (m ^ (o + 1) / 4294967296 ^ o) (dg (m ^ (o + 1))) (w1.drewN nq) (by omega) (by omega) (parts_row hd2)
      clear hd1 hd2
      go_wp2_with (first | (go_at_call 63; ((with_reducible refine hz.mono ?_); rintro e w' ⟨rfl, rfl⟩)) | (go_at_call 64; ((with_reducible refine hinc.mono ?_); rintro e w2 ⟨⟨v, rfl⟩, hr2, hb2⟩; have ha := row_at hr2)))
      have haB := ha
      rw [HM.out] at haB
      clear hz hinc hr2
      rw [HM.out] at ha
      have c0 := ha 0 (by omega)
      have c1 := ha 1 (by omega)
      rw [Nat.add_zero] at c0
      simp only [] at c0 c1
      rw [hQ0] at c0
      rw [hQ1] at c1
      try simp at c0 c1
      go_quiet (fail)
      have ha0 := ha.drewN (k := nq)
      have hz2 := fun W (h : At W w.heap.size o (o + 2) (fun i => dg M i)) => zero_true w.heap.size (o + 2) o o (fun i => dg M (2 + i)) W (by omega) (by omega) (by omega) (fun i hi => by have := h (2 + i) (by omega); rw [Nat.add_assoc]; exact this) ((high_zero M o hMlt).2 HH.out)
      go_wp2_with (go_at_call 63; (refine (hz2 _ (by first | exact ha0 | exact ha | exact haB.drewN | exact haB.drewN.drewN)).mono ?_; rintro e w' ⟨rfl, rfl⟩))
      go_ret2
      exact ⟨rfl, by (repeat (first | with_reducible exact Below.refl _ _ | with_reducible assumption | refine Below.alloc ?_ (by (try simp); try omega) _ | refine Below.setCell ?_ (by (try simp); try omega) _ | refine below_drewN ?_ _ | refine Below.drew ?_ | (with_reducible refine Below.trans ?_ (Below.mono (by assumption) (by (try simp); try omega)))))⟩
    · rw [sgR_big false M (by omega)]
      have HH := Lib.hid hB
      clear hT hB hA
      go_enter Tryd.func46, Tryd.ntmps46
      go_wp2_with (go_at_call 62; ((with_reducible refine (hp _).mono ?_); rintro e w1 ⟨rfl, hd1, hb1⟩))
      go_quiet (fail)
      clear hp
      have hd2 := digs_drewN (k := nq) hd1
      have hz := zero_false w.heap.size 0 o (2 * (o + 1)) (fun i => dg (m ^ (o + 1)) i) (w1.drewN nq) (by omega) (by omega) (by omega) (rest_at hd2) (fun h => HR.out ((dg_zero _ _).1 h))
      have hinc := increment_any w.heap.size o (o + 2) (m ^ (o + 1) / 4294967296 ^ o) (dg (m ^ (o + 1))) (w1.drewN nq) (by omega) (by omega) (parts_row hd2)
      clear hd1 hd2
      go_wp2_with (first | (go_at_call 63; ((with_reducible refine hz.mono ?_); rintro e w' ⟨rfl, rfl⟩)) | (go_at_call 64; ((with_reducible refine hinc.mono ?_); rintro e w2 ⟨⟨v, rfl⟩, hr2, hb2⟩; have ha := row_at hr2)))
      have haB := ha
      rw [HM.out] at haB
      clear hz hinc hr2
      rw [HM.out] at ha
      have c0 := ha 0 (by omega)
      have c1 := ha 1 (by omega)
      rw [Nat.add_zero] at c0
      simp only [] at c0 c1
      rw [hQ0] at c0
      rw [hQ1] at c1
      try simp at c0 c1
      go_quiet (fail)
      have ha0 := ha.drewN (k := nq)
      have hz2 := fun W (h : At W w.heap.size o (o + 2) (fun i => dg M i)) => zero_false w.heap.size (o + 2) o o (fun i => dg M (2 + i)) W (by omega) (by omega) (by omega) (fun i hi => by have := h (2 + i) (by omega); rw [Nat.add_assoc]; exact this) (fun h => HH.out ((high_zero M o hMlt).1 h))
      go_wp2_with (go_at_call 63; (refine (hz2 _ (by first | exact ha0 | exact ha | exact haB.drewN | exact haB.drewN.drewN)).mono ?_; rintro e w' ⟨rfl, rfl⟩))
      go_ret2
      exact ⟨rfl, by (repeat (first | with_reducible exact Below.refl _ _ | with_reducible assumption | refine Below.alloc ?_ (by (try simp); try omega) _ | refine Below.setCell ?_ (by (try simp); try omega) _ | refine below_drewN ?_ _ | refine Below.drew ?_ | (with_reducible refine Below.trans ?_ (Below.mono (by assumption) (by (try simp); try omega)))))⟩

end Go.Proofs.YtabnpidmhmebfaaDoor
