/-
  DecBack: the walk.
-/
import Derived.Test.YtpjkdgdgjlldfaaDoorDcW
namespace Go.Proofs.YtpjkdgdgjlldfaaDoor
open Go.RowKit

theorem parse_back (m : Int) (d : Nat) (w : World) (hd : d ≤ 18) (m0 : -9223372036854775808 ≤ m) (m1 : m ≤ 9223372036854775807) (hE : Er w) :
    Calls Tryd.prog 12 #[.string (bs (txt m d)), .int .i64 (d : Int)] w fun e w' => e = .returned (.tuple #[.int .i64 m, .int .i64 0]) ∧ Below w.heap.size w w' := by
  have h := parse_any (txt m d) d w (by have := txt_len m d hd m0 m1; omega) hE
  rw [show pR (txt m d) d = (m, 0) from by unfold pR; rw [if_neg (by omega), show ((d : Int)).toNat = d by omega, prs_txt m d m0 m1]] at h
  exact h
theorem text_back (m : Int) (d : Nat) (w : World) (hd : d ≤ 17) (m0 : -9223372036854775808 ≤ 10 * m) (m1 : 10 * m ≤ 9223372036854775807) (hP : Pw w) :
    Calls Tryd.prog 9 #[.int .i64 (10 * m), .int .i64 ((d : Int) + 1)] w fun e w' => e = .returned (.tuple #[.string (bs (txt m d)), .int .i64 0]) ∧ Below w.heap.size w w' := by
  have h := text_ok (10 * m) (d + 1) w (by omega) m0 m1 hP
  rw [txt_ten, show ((d + 1 : Nat) : Int) = (d : Int) + 1 from by push_cast; rfl] at h
  exact h
theorem parse_back10 (m : Int) (d : Nat) (w : World) (hd : d ≤ 17) (m0 : -9223372036854775808 ≤ 10 * m) (m1 : 10 * m ≤ 9223372036854775807) (hE : Er w) :
    Calls Tryd.prog 12 #[.string (bs (txt m d)), .int .i64 ((d : Int) + 1)] w fun e w' => e = .returned (.tuple #[.int .i64 (10 * m), .int .i64 0]) ∧ Below w.heap.size w w' := by
  have h := parse_back (10 * m) (d + 1) w (by omega) m0 m1 hE
  rw [txt_ten, show ((d + 1 : Nat) : Int) = (d : Int) + 1 from by push_cast; rfl] at h
  exact h

set_option maxRecDepth 100000 in
set_option maxHeartbeats 8000000 in
theorem decBack_true (n g : Int) (w : World) (n0 : -9223372036854775808 ≤ n) (n1 : n ≤ 9223372036854775807) (g0 : -9223372036854775808 ≤ g) (g1 : g ≤ 9223372036854775807) (hP0 : Pw w) (hE0 : Er w) :
    Calls Tryd.prog 4 #[.int .i64 n, .int .i64 g] w fun e w' => e = .returned (.bool true) ∧ Below w.heap.size w w' := by
  have hw := works_true w hP0 hE0
  go_enter Tryd.func4, Tryd.ntmps4
  go_wp2_with (go_at_call 7; (with_reducible refine hw.mono ?_); rintro e u0 ⟨rfl, hB⟩)

  obtain ⟨d, hd, hd17⟩ : ∃ d : Nat, wrap64 ((IntKind.u64.wrap g).tmod 18) = (d : Int) ∧ d ≤ 17 := by
    have hu : 0 ≤ IntKind.u64.wrap g := by unfold IntKind.wrap; simp [IntKind.signed, IntKind.bits]; omega
    generalize IntKind.u64.wrap g = U at *
    rw [Int.tmod_eq_emod_of_nonneg hu]
    refine ⟨(U % 18).toNat, ?_, by omega⟩
    have e : wrap64 (U % 18) = U % 18 := by unfold wrap64; omega
    rw [e]; omega
  simp only [hd]
  clear hw hd
  have hidx : ∀ k : Int, 0 ≤ k → k < 3 → ∃ m : Int, (∀ w, (Instr.index 24 (.agg #[.int .i64 n, .int .i64 (n / 1048576), .int .i64 (n / 1099511627776)]) (.int .i64 k)).run Tryd.prog w = .ok (.int .i64 m) w) ∧ -9223372036854775808 ≤ m ∧ m ≤ 9223372036854775807 := by
    intro k h0 h1
    obtain rfl | rfl | rfl : k = 0 ∨ k = 1 ∨ k = 2 := by omega
    · exact ⟨n, fun _ => by kernel_rfl, by omega, by omega⟩
    · exact ⟨n / 1048576, fun _ => by kernel_rfl, by omega, by omega⟩
    · exact ⟨n / 1099511627776, fun _ => by kernel_rfl, by omega, by omega⟩
  replace hidx := Lib.hid hidx
  generalize (.agg #[.int .i64 n, .int .i64 (n / 1048576), .int .i64 (n / 1099511627776)] : Value) = ARR at *
  go_loopw [21] (fun vi wr => ∃ k : Int, 0 ≤ k ∧ k ≤ 3 ∧ vi = .int .i64 k ∧ Below w.heap.size w wr) (fun vi _ => 3 - (intOf vi).toNat)
  case atStart => exact ⟨0, by omega, by omega, rfl, hB⟩
  case round =>
    clear hB
    obtain ⟨k, k0, k3, rfl, hB⟩ := hrel
    have hP := hP0.keep hB
    have hE := hE0.keep hB
    by_cases hk : k < 3
    · obtain ⟨m, hi, m0, m1⟩ := hidx.out k k0 hk
      have f1 := fun w h => text_ok m d w (by omega) m0 m1 h
      have f2 := fun w h => parse_back m d w (by omega) m0 m1 h
      by_cases hb1 : 576460752303423488 < m
      · generalize txt m d = s at *
        clear hidx
        go_wp2_with fail
        go_at_call 9
        (with_reducible refine (f1 _ hP).mono ?_)
        rintro e ut ⟨rfl, hb⟩
        replace hB := belowVia hB hb
        replace hP := hP.keep hb
        replace hE := hE.keep hb
        clear hb
        go_wp2_with fail
        go_at_call 11
        refine (says_any m _).mono ?_
        rintro e ua1 ⟨g1_, rfl, hc, hb⟩
        replace hB := belowVia hB hb
        replace hP := hP.keep hb
        replace hE := hE.keep hb
        clear hb
        go_wp2_with fail
        go_at_call 12
        (with_reducible refine (f2 _ hE).mono ?_)
        rintro e ub1 ⟨rfl, hb⟩
        replace hc := dkeep hb hc
        replace hB := belowVia hB hb
        replace hP := hP.keep hb
        replace hE := hE.keep hb
        clear hb
        go_wp2_with fail
        go_at_call 26
        refine (says1_any m _ _ hc).mono ?_
        rintro e uc1 ⟨rfl, rfl⟩
        clear hc
        go_wp2_with fail
        go_roundw
        case rel => exact ⟨k + 1, by omega, by omega, by go_num, hB⟩
        case measure => simp [intOf]; omega
      · by_cases hb2 : m < -576460752303423488
        · generalize txt m d = s at *
          clear hidx
          go_wp2_with fail
          go_at_call 9
          (with_reducible refine (f1 _ hP).mono ?_)
          rintro e ut ⟨rfl, hb⟩
          replace hB := belowVia hB hb
          replace hP := hP.keep hb
          replace hE := hE.keep hb
          clear hb
          go_wp2_with fail
          go_at_call 11
          refine (says_any m _).mono ?_
          rintro e ua2 ⟨g2_, rfl, hc, hb⟩
          replace hB := belowVia hB hb
          replace hP := hP.keep hb
          replace hE := hE.keep hb
          clear hb
          go_wp2_with fail
          go_at_call 12
          (with_reducible refine (f2 _ hE).mono ?_)
          rintro e ub2 ⟨rfl, hb⟩
          replace hc := dkeep hb hc
          replace hB := belowVia hB hb
          replace hP := hP.keep hb
          replace hE := hE.keep hb
          clear hb
          go_wp2_with fail
          go_at_call 26
          refine (says1_any m _ _ hc).mono ?_
          rintro e uc2 ⟨rfl, rfl⟩
          clear hc
          go_wp2_with fail
          go_roundw
          case rel => exact ⟨k + 1, by omega, by omega, by go_num, hB⟩
          case measure => simp [intOf]; omega
        · have f3 := fun w h => text_back m d w hd17 (by omega) (by omega) h
          have f4 := fun w h => parse_back10 m d w hd17 (by omega) (by omega) h
          have w1 : IntKind.i64.wrap (10 * m) = 10 * m := IntWalk.i64_in _ (by omega)
          have w2 : IntKind.i64.wrap ((d : Int) + 1) = (d : Int) + 1 := IntWalk.i64_in _ (by omega)
          generalize txt m d = s at *
          clear hidx
          go_wp2_with fail
          go_at_call 9
          (with_reducible refine (f1 _ hP).mono ?_)
          rintro e ut ⟨rfl, hb⟩
          replace hB := belowVia hB hb
          replace hP := hP.keep hb
          replace hE := hE.keep hb
          clear hb
          go_wp2_with fail
          go_at_call 11
          refine (says_any m _).mono ?_
          rintro e ua3 ⟨g3_, rfl, hc, hb⟩
          replace hB := belowVia hB hb
          replace hP := hP.keep hb
          replace hE := hE.keep hb
          clear hb
          go_wp2_with fail
          go_at_call 12
          (with_reducible refine (f2 _ hE).mono ?_)
          rintro e ub3 ⟨rfl, hb⟩
          replace hc := dkeep hb hc
          replace hB := belowVia hB hb
          replace hP := hP.keep hb
          replace hE := hE.keep hb
          clear hb
          go_wp2_with fail
          go_at_call 26
          refine (says1_any m _ _ hc).mono ?_
          rintro e uc3 ⟨rfl, rfl⟩
          clear hc
          go_wp2_with fail
          go_at_call 13
          refine (is_any s _).mono ?_
          rintro e ua4 ⟨g4_, rfl, hc, hb⟩
          replace hB := belowVia hB hb
          replace hP := hP.keep hb
          replace hE := hE.keep hb
          clear hb
          go_wp2_with fail
          go_at_call 9
          (with_reducible refine (f3 _ hP).mono ?_)
          rintro e ub4 ⟨rfl, hb⟩
          replace hc := dkeep hb hc
          replace hB := belowVia hB hb
          replace hP := hP.keep hb
          replace hE := hE.keep hb
          clear hb
          go_wp2_with fail
          go_at_call 30
          refine (is1_any s _ _ hc).mono ?_
          rintro e uc4 ⟨rfl, rfl⟩
          clear hc
          go_wp2_with fail
          go_at_call 11
          refine (says_any (10 * m) _).mono ?_
          rintro e ua5 ⟨g5_, rfl, hc, hb⟩
          replace hB := belowVia hB hb
          replace hP := hP.keep hb
          replace hE := hE.keep hb
          clear hb
          go_wp2_with fail
          go_at_call 12
          (with_reducible refine (f4 _ hE).mono ?_)
          rintro e ub5 ⟨rfl, hb⟩
          replace hc := dkeep hb hc
          replace hB := belowVia hB hb
          replace hP := hP.keep hb
          replace hE := hE.keep hb
          clear hb
          go_wp2_with fail
          go_at_call 26
          refine (says1_any (10 * m) _ _ hc).mono ?_
          rintro e uc5 ⟨rfl, rfl⟩
          clear hc
          go_wp2_with fail
          go_roundw
          case rel => exact ⟨k + 1, by omega, by omega, by go_num, hB⟩
          case measure => simp [intOf]; omega
    · go_wp2
      go_ret
      exact ⟨rfl, hB⟩
end Go.Proofs.YtpjkdgdgjlldfaaDoor
