/-
  Package dec: Text, whole.
-/
import Derived.Test.YtpjkdgdgjlldfaaGreatDoorDcT
import Derived.LoopTactic
import Derived.Deep.RegionLaw
namespace Go.Proofs.YtpjkdgdgjlldfaaGreatDoor
open Go.RowKit
set_option maxRecDepth 100000 in
set_option maxHeartbeats 8000000 in
theorem text_pos (n : Int) (d : Nat) (w : World) (hd : d ≤ 18) (n0 : -9223372036854775808 ≤ n) (n1 : n ≤ 9223372036854775807) (hn : 0 ≤ n) (hP : Pw w) :
    Calls Tryz.prog 18 #[.int .i64 n, .int .i64 (d : Int)] w fun e w' => e = .returned (.tuple #[.string (bs (txt n d)), .int .i64 0]) ∧ Below w.heap.size w w' := by
  obtain ⟨iB, hi, hz0, hz1, hz2⟩ := info_parts Tryz.infoByte
  have hlen := txt_len n d hd n0 n1
  obtain ⟨N, hN⟩ : ∃ N : Nat, n.natAbs = N := ⟨_, rfl⟩
  obtain ⟨whole, hwh⟩ : ∃ q : Nat, N / 10 ^ d = q := ⟨_, rfl⟩
  obtain ⟨rest, hre⟩ : ∃ q : Nat, N % 10 ^ d = q := ⟨_, rfl⟩
  obtain ⟨s, hs⟩ : ∃ s, sgn n = s := ⟨_, rfl⟩
  have hpre := txt_pre n d
  have hwho := txt_whole n d
  rw [hN, hwh, hre, hs] at hpre hwho
  have hrl : rest < 10 ^ d := by rw [← hre]; exact Nat.mod_lt _ (Nat.pow_pos (by omega))
  have hwb : whole < 18446744073709551616 := by have := Nat.div_le_self N (10 ^ d); omega
  have hp18 : 10 ^ d ≤ 10 ^ 18 := Nat.pow_le_pow_right (by omega) hd
  have hpp : 0 < 10 ^ d := Nat.pow_pos (by omega)
  obtain ⟨unit, hunit⟩ : ∃ unit : Int, ((10 ^ d : Nat) : Int) = unit := ⟨_, rfl⟩
  have un0 : (0 : Int) < unit := by omega
  have un1 : unit ≤ 1000000000000000000 := by omega
  have e1 : (N : Int) / unit = (whole : Int) := by rw [← hunit, ← hwh]; rfl
  have e2 : (N : Int) % unit = (rest : Int) := by rw [← hunit, ← hre]; rfl
  have e3 : (N : Int).tdiv unit = (whole : Int) := by rw [Int.tdiv_eq_ediv_of_nonneg (by omega)]; exact e1
  have e4 : (N : Int).tmod unit = (rest : Int) := by rw [Int.tmod_eq_emod_of_nonneg (by omega)]; exact e2
  have f1 : IntKind.u64.wrap (whole : Int) = (whole : Int) := wrU (by omega) (by omega)
  have f2 : IntKind.u64.wrap (rest : Int) = (rest : Int) := wrU (by omega) (by omega)
  have f3 : IntKind.u64.wrap unit = unit := wrU (by omega) (by omega)
  have un2 : ¬ unit = 0 := by omega
  have pw0 : ((10 ^ d : Nat) : Int) = unit := hunit
  have Hun := Lib.hid hunit
  have Hrl := Lib.hid hrl
  have Hpre := Lib.hid hpre
  have Hwho := Lib.hid hwho
  have Hlen := Lib.hid hlen
  clear hunit hrl hpre hwho hwh hre hpp hp18 hlen
  have hNn : (N : Int) = n := by omega
  have hw : IntKind.u64.wrap n = (N : Int) := by rw [hNn]; exact wrU (by omega) (by omega)
  have hs0 : s = [] := by rw [← hs]; unfold sgn; rw [if_neg (by omega)]
  have hT0 := Bn.new w #[.slice none 0 0] 27
  have hB : Below w.heap.size w (w.alloc (.cells #[.slice none 0 0] 27)) := by (repeat (first | with_reducible exact Below.refl _ _ | with_reducible assumption | refine Below.alloc ?_ (by (try simp); try omega) _ | refine Below.setCell ?_ (by (try simp); try omega) _ | refine below_drewN ?_ _ | refine Below.drew ?_ | (with_reducible refine Below.trans ?_ (Below.mono (by assumption) (by (try simp); try omega)))))
  clear hNn hN
  go_enter Tryz.func18, Tryz.ntmps18
  go_upto_region 8 with fail
  have hown0 : (w.alloc (.cells #[.slice none 0 0] 27)).ownsRow w.heap.size 5 1 (.slice none 0 0) s.length (Lib.byteCells s) := by rw [hs0]; exact World.ownsRow_nil _ _ _ _
  generalize hz : w.heap.size = z at *
  generalize (w.alloc (.cells #[.slice none 0 0] 27)) = wA at *
  obtain ⟨v0, hv0⟩ : ∃ v0 : Value, v0 = .slice none 0 0 := ⟨_, rfl⟩
  rw [← hv0] at hT0 hown0
  clear hv0 hs0
  have hTsz := hT0.lt
  have hsl : s.length ≤ 1 := by rw [← hs]; unfold sgn; split <;> simp
  have hPA := hP.keep (w' := wA) (hz ▸ hB)
  have cT := hT0.cell 0 v0 rfl
  go_upto_region 9 with (go_at_call 39; (with_reducible refine (power_any d _ hd).mono ?_); rintro e wp ⟨rfl, rfl⟩)
  have hT1 := hT0.alloc (.cells #[.int .u64 unit] 83)
  have hU1 := Bn.new wA #[.int .u64 unit] 83
  have hown1 := hown0.alloc (.cells #[.int .u64 unit] 83)
  have hB1 : Below z w (wA.alloc (.cells #[.int .u64 unit] 83)) := hB.alloc (by omega) _
  have hP1 := hPA.keep ((Below.refl wA.heap.size wA).alloc (Nat.le_refl _) (.cells #[.int .u64 unit] 83))
  clear hT0 hown0 hB hPA cT
  obtain ⟨u, hu⟩ : ∃ u, wA.heap.size = u := ⟨_, rfl⟩
  have hzu : z < u := by omega
  generalize hu' : wA.heap.size = u' at *
  obtain rfl : u' = u := hu
  generalize (wA.alloc (.cells #[.int .u64 unit] 83)) = v1 at *
  go_cut [] from 11 to 48 (fun wx => ∃ v2, Bn wx z #[v2] 27 ∧ Bn wx u' #[.int .u64 unit] 83 ∧ wx.ownsRow z 5 1 v2 (s.length + (Lib.decDigits whole).length) (Lib.byteCells s ++ Lib.byteCells (Lib.decDigits whole)) ∧ Below z w wx)
  case first =>
    have hdl : 0 < s.length + (Lib.decDigits whole).length := by have h0 : (Lib.decDigits whole).length ≠ 0 := fun e => decDigits_ne whole (List.length_eq_zero_iff.1 e); omega
    have cT := hT1.cell 0 v0 rfl
    have cU := hU1.cell 0 (.int .u64 unit) rfl
    go_region_law ((go_simp; go_at_call 45; (refine (appendU_any z s.length whole hwb v0 (Lib.byteCells s) _ (by exact own_heap hown1 rfl) (by have := hT1.lt; show z ≤ v1.heap.size; omega) (by omega) (by exact hP1)).mono ?_); rintro rr uz ⟨v2, rfl, ho, hb, hk⟩; have hT2 := Bn.others (w := v1) hT1 hk (by decide); have hU2 := Bn.others (w := v1) hU1 hk (by decide); have hB2 : Below z w uz := hB1.trans (((Below.refl z v1).drew).trans hb); clear cT cU; have cT := hT2.cell 0 v0 rfl; have zT2 := hT2.f 0; have lT2 := hT2.lt; have cU := hU2.cell 0 (.int .u64 unit) rfl; obtain ⟨gg, cap, rfl⟩ := own_head ho hdl))
    all_goals (go_wp2_with fail; go_meet)
    all_goals exact ⟨_, hT2.put 0 _, hU2.far (by omega) 0 _, own_box ho hT2 (by decide), hB2.setCell (by show z ≤ z; omega) _⟩
  case rest =>
    obtain ⟨v2, hT, hU, hown, hB⟩ := hcut
    clear hT1 hown1 hB1 hP1 hU1 e1 e3 f1
    have cT := hT.cell 0 v2 rfl
    have cU := hU.cell 0 (.int .u64 unit) rfl
    have lT := hT.lt
    have lU := hU.lt
    go_upto_region 11 with fail
    have hT3 := hT.alloc (.cells #[.int .u64 (rest : Int)] 83)
    have hU3 := hU.alloc (.cells #[.int .u64 (rest : Int)] 83)
    have hR3 := Bn.new wc #[.int .u64 (rest : Int)] 83
    have hown3 := hown.alloc (.cells #[.int .u64 (rest : Int)] 83)
    have hB3 : Below z w (wc.alloc (.cells #[.int .u64 (rest : Int)] 83)) := hB.alloc (by omega) _
    clear hT hU hown hB cT cU
    generalize hr : wc.heap.size = r at *
    generalize (wc.alloc (.cells #[.int .u64 (rest : Int)] 83)) = v3 at *
    clear hr
    have hdl : 0 < s.length + (Lib.decDigits whole).length := by have h0 : (Lib.decDigits whole).length ≠ 0 := fun e => decDigits_ne whole (List.length_eq_zero_iff.1 e); omega
    have hdm : s.length + (Lib.decDigits whole).length ≤ 21 := by have := dec_len whole hwb; omega
    rw [show Lib.byteCells s ++ Lib.byteCells (Lib.decDigits whole) = Lib.byteCells (s ++ Lib.decDigits whole) by unfold Lib.byteCells; rw [List.map_append]] at hown3
    by_cases hr0 : rest = 0
    · have cR : v3.cell? ⟨r, 0, none⟩ = some (.int .u64 0) := by rw [hr0] at hR3; exact hR3.cell 0 _ rfl
      have cT := hT3.cell 0 v2 rfl
      have hw2 := Hwho.out hr0
      rw [show s.length + (Lib.decDigits whole).length = (s ++ Lib.decDigits whole).length by rw [List.length_append]] at hown3 hdl hdm
      rw [hw2] at hown3 hdl
      subst hr0
      obtain ⟨g, cap, rfl⟩ := own_head hown3 hdl
      have hcv := run_convert_bytes_back v3 27 9 5 ⟨g, 0, none⟩ cap (txt n d) Tryz.underlying27 Tryz.underlying5 Tryz.underlying9 (fun i hi => by
        rw [Lib.add_plain]
        have := hown3.cellAt i (by omega)
        simpa [Lib.byteCells, hi] using this)
      clear hown3 hdl hdm hw2 Hwho Hpre
      go_wp2_with fail
      refine wp_loop_rounds 1 ?_
      rw [rounds_succ]
      go_wp2
      go_ret2
      subst hz
      exact ⟨rfl, hB3⟩
    · have cR := hR3.cell 0 (.int .u64 (rest : Int)) rfl
      have cT := hT3.cell 0 v2 rfl
      have hgt : (0 : Int) < (rest : Int) := by omega
      have hpre := Hpre.out hr0
      have zT3 := hT3.f 0
      have lT3 := hT3.lt
      have lR3 := hR3.lt
      go_wp2_with (at_builtin; refine wpList_append_own _ rfl _ _ 27 rfl z 5 iB (.int .u8 0) 1 1 Tryz.underlying27 hi hz0 hz1 hz2 rfl (by decide) _ _ _ rfl (hown3.alloc _) ⟨v3.heap.size, 0, none⟩ 1 1 [.int .u8 46] rfl rfl (one_at _ _ _) (one_cell _ _) (by unfold maxLen; omega) (by omega) (by simp; omega) ?_)
      intro v4 w4 hown4 hgrow _
      have hT4 := Bn.grownR hgrow (hT3.alloc (.cells #[.int .u8 46] 5)) (hown3.alloc (.cells #[.int .u8 46] 5)) (by decide)
      have hU4 := Bn.grownR hgrow (hU3.alloc (.cells #[.int .u8 46] 5)) (hown3.alloc (.cells #[.int .u8 46] 5)) (by decide)
      have hR4 := Bn.grownR hgrow (hR3.alloc (.cells #[.int .u8 46] 5)) (hown3.alloc (.cells #[.int .u8 46] 5)) (by decide)
      have hB4 : Below z w w4 := Below.grown (hB3.alloc (by omega) (.cells #[.int .u8 46] 5)) hgrow (by simp; omega) (fun k hk => (hown3.lt k hk).1)
      obtain ⟨g, cap, rfl⟩ := own_head hown4 (by omega)
      clear cR cT zT3 lT3 lR3 hgrow hT3 hU3 hR3 hown3 hB3
      have zT4 := hT4.f 0
      have cT4 := hT4.cell 0 v2 rfl
      have lT4 := hT4.lt
      go_wp2_with fail
      obtain ⟨v5, hv5⟩ : ∃ v5 : Value, Value.slice (some ⟨g, 0, none⟩) (s.length + (Lib.decDigits whole).length + 1) cap = v5 := ⟨_, rfl⟩
      rw [hv5] at hown4
      simp only [hv5]
      have hT5 : Bn (w4.setCell ⟨z, 0, none⟩ v5) z #[v5] 27 := hT4.put 0 v5
      have hU5 : Bn (w4.setCell ⟨z, 0, none⟩ v5) u' #[.int .u64 unit] 83 := hU4.far (by omega) 0 v5
      have hR5 : Bn (w4.setCell ⟨z, 0, none⟩ v5) r #[.int .u64 (rest : Int)] 83 := hR4.far (by omega) 0 v5
      have hown5 : (w4.setCell ⟨z, 0, none⟩ v5).ownsRow z 5 1 v5 (s ++ Lib.decDigits whole ++ [46]).length (Lib.byteCells (s ++ Lib.decDigits whole ++ [46])) := by
        have h := own_box (i := 0) (x := v5) hown4 hT4 (by decide)
        have e1 : (s ++ Lib.decDigits whole ++ [46]).length = s.length + (Lib.decDigits whole).length + 1 := by simp; omega
        have e2 : Lib.byteCells (s ++ Lib.decDigits whole ++ [46]) = Lib.byteCells (s ++ Lib.decDigits whole) ++ [.int .u8 46] := by unfold Lib.byteCells; rw [List.map_append]; rfl
        rw [e1, e2]; exact h
      have hB5 : Below z w (w4.setCell ⟨z, 0, none⟩ v5) := hB4.setCell (by show z ≤ z; omega) _
      clear hT4 hU4 hR4 hown4 hB4 zT4 cT4 lT4
      generalize w4.setCell ⟨z, 0, none⟩ v5 = w5 at *
      clear hv5
      go_loopw [] (fun wr => ∃ (k p : Nat) (X : Int) (T : List UInt8) (v : Value), k ≤ d ∧ Hid (p < 10 ^ (d - k)) ∧ Hid (X = ((p * 10 ^ k : Nat) : Int)) ∧ Hid (T ++ plc (d - k) p = txt n d) ∧ 0 < T.length ∧ Bn wr r #[.int .u64 X] 83 ∧ Bn wr z #[v] 27 ∧ Bn wr u' #[.int .u64 unit] 83 ∧ wr.ownsRow z 5 1 v T.length (Lib.byteCells T) ∧ Below z w wr) (fun wr => 1000 - mT z wr)
      case atStart => exact ⟨0, rest, _, _, _, by omega, Lib.hid (by simpa using Hrl.out), Lib.hid (by simp), Lib.hid hpre, by simp; omega, hR5, hT5, hU5, hown5, hB5⟩
      case round =>
        clear hR5 hT5 hU5 hown5 hB5 hpre hgt hr0 hdl hdm
        obtain ⟨k, p, X, T, v, hkd, hp, hX, hT, hTl, hRk, hTk, hUk, hownk, hBk⟩ := hrel
        have hTle : T.length ≤ 40 := by have h1 := congrArg List.length hT.out; rw [List.length_append] at h1; have := Hlen.out; omega
        by_cases hp0 : p = 0
        · have hX0 : X = 0 := by rw [hX.out, hp0]; simp
          have hTt : T = txt n d := by have h1 := hT.out; rw [hp0, plc_zero, List.append_nil] at h1; exact h1
          subst hX0
          obtain ⟨g, cap, rfl⟩ := own_head hownk hTl
          have hcv := run_convert_bytes_back wr 27 9 5 ⟨g, 0, none⟩ cap T Tryz.underlying27 Tryz.underlying5 Tryz.underlying9 (fun i hi => by
            rw [Lib.add_plain]
            have := hownk.cellAt i (by omega)
            simpa [Lib.byteCells, hi] using this)
          have cR := hRk.cell 0 (.int .u64 0) rfl
          have cT := hTk.cell 0 _ rfl
          replace hTt := Lib.hid hTt
          clear hownk hT hX hp hTle hp0
          go_wp2
          go_ret2
          subst hz
          exact ⟨by rw [hTt.out]; rfl, hBk⟩
        · have hk : k < d := by
            rcases Nat.lt_or_ge k d with h | h
            · exact h
            · exfalso; have h1 := hp.out; rw [show d - k = 0 by omega] at h1; omega
          have hnum := place_nums d k p hk hp.out
          rw [← hX.out, Hun.out] at hnum
          have hpk : 0 < 10 ^ k := Nat.pow_pos (by omega)
          have hx0 : (0 : Int) < X := by rw [hX.out]; have := Nat.mul_pos (Nat.pos_of_ne_zero hp0) hpk; omega
          have hxu : X < unit := by
            rw [hX.out, ← Hun.out]
            have h1 : p * 10 ^ k < 10 ^ (d - k) * 10 ^ k := Nat.mul_lt_mul_of_pos_right hp.out hpk
            rw [← Nat.pow_add, show d - k + k = d by omega] at h1; omega
          have hst := plc_step d k p hk hp0
          have hqd : p / 10 ^ (d - (k + 1)) < 10 := by
            have h1 := hp.out; rw [show d - k = (d - (k + 1)) + 1 by omega] at h1; exact div_lt10 h1
          have hnT : Hid ((T ++ [dig (p / 10 ^ (d - (k + 1)))]) ++ plc (d - (k + 1)) (p % 10 ^ (d - (k + 1))) = txt n d) := Lib.hid (by have h1 := hT.out; rw [hst] at h1; rw [← h1]; simp)
          have hnp : Hid (p % 10 ^ (d - (k + 1)) < 10 ^ (d - (k + 1))) := Lib.hid (Nat.mod_lt _ (Nat.pow_pos (by omega)))
          have hsn := byteCells_snoc T _ hqd
          have hplace := place_any r z u' z T.length X unit _ _ v _ wr hRk hTk hUk hownk (by omega) (by omega) (by omega) (by omega) (by omega) hxu un1 hnum.1.symm hnum.2.symm
          rw [hsn, show T.length + 1 = (T ++ [dig (p / 10 ^ (d - (k + 1)))]).length by simp] at hplace
          have hmT : mT z wr = T.length := by
            obtain ⟨a0, c0, e0⟩ := own_len hownk
            unfold mT; rw [hTk.cell 0 v rfl, e0]
          have cR := hRk.cell 0 (.int .u64 X) rfl
          replace hmT := Lib.hid hmT
          clear hnum hst hsn hqd hpk hownk hT hp hX hxu
          go_wp2_with fail
          go_at_call 46
          refine hplace.mono ?_
          rintro e wn ⟨rfl, v', hR', hT', hU', hown', hb'⟩
          clear hplace cR hRk hTk hUk
          have hmT2 : Hid (mT z wn = (T ++ [dig (p / 10 ^ (d - (k + 1)))]).length) := Lib.hid (by
            obtain ⟨a0, c0, e0⟩ := own_len hown'
            unfold mT; rw [hT'.cell 0 v' rfl, e0])
          go_wp2_with fail
          go_roundw
          case rel => exact ⟨k + 1, _, _, _, v', by omega, hnp, Lib.hid rfl, hnT, by simp, hR', hT', hU', hown', hBk.trans hb'⟩
          case measure => rw [hmT.out, hmT2.out]; simp; omega
set_option maxRecDepth 100000 in
set_option maxHeartbeats 8000000 in
theorem text_neg (n : Int) (d : Nat) (w : World) (hd : d ≤ 18) (n0 : -9223372036854775808 ≤ n) (n1 : n ≤ 9223372036854775807) (hn : n < 0) (hP : Pw w) :
    Calls Tryz.prog 18 #[.int .i64 n, .int .i64 (d : Int)] w fun e w' => e = .returned (.tuple #[.string (bs (txt n d)), .int .i64 0]) ∧ Below w.heap.size w w' := by
  obtain ⟨iB, hi, hz0, hz1, hz2⟩ := info_parts Tryz.infoByte
  have hlen := txt_len n d hd n0 n1
  obtain ⟨N, hN⟩ : ∃ N : Nat, n.natAbs = N := ⟨_, rfl⟩
  obtain ⟨whole, hwh⟩ : ∃ q : Nat, N / 10 ^ d = q := ⟨_, rfl⟩
  obtain ⟨rest, hre⟩ : ∃ q : Nat, N % 10 ^ d = q := ⟨_, rfl⟩
  obtain ⟨s, hs⟩ : ∃ s, sgn n = s := ⟨_, rfl⟩
  have hpre := txt_pre n d
  have hwho := txt_whole n d
  rw [hN, hwh, hre, hs] at hpre hwho
  have hrl : rest < 10 ^ d := by rw [← hre]; exact Nat.mod_lt _ (Nat.pow_pos (by omega))
  have hwb : whole < 18446744073709551616 := by have := Nat.div_le_self N (10 ^ d); omega
  have hp18 : 10 ^ d ≤ 10 ^ 18 := Nat.pow_le_pow_right (by omega) hd
  have hpp : 0 < 10 ^ d := Nat.pow_pos (by omega)
  obtain ⟨unit, hunit⟩ : ∃ unit : Int, ((10 ^ d : Nat) : Int) = unit := ⟨_, rfl⟩
  have un0 : (0 : Int) < unit := by omega
  have un1 : unit ≤ 1000000000000000000 := by omega
  have e1 : (N : Int) / unit = (whole : Int) := by rw [← hunit, ← hwh]; rfl
  have e2 : (N : Int) % unit = (rest : Int) := by rw [← hunit, ← hre]; rfl
  have e3 : (N : Int).tdiv unit = (whole : Int) := by rw [Int.tdiv_eq_ediv_of_nonneg (by omega)]; exact e1
  have e4 : (N : Int).tmod unit = (rest : Int) := by rw [Int.tmod_eq_emod_of_nonneg (by omega)]; exact e2
  have f1 : IntKind.u64.wrap (whole : Int) = (whole : Int) := wrU (by omega) (by omega)
  have f2 : IntKind.u64.wrap (rest : Int) = (rest : Int) := wrU (by omega) (by omega)
  have f3 : IntKind.u64.wrap unit = unit := wrU (by omega) (by omega)
  have un2 : ¬ unit = 0 := by omega
  have pw0 : ((10 ^ d : Nat) : Int) = unit := hunit
  have Hun := Lib.hid hunit
  have Hrl := Lib.hid hrl
  have Hpre := Lib.hid hpre
  have Hwho := Lib.hid hwho
  have Hlen := Lib.hid hlen
  clear hunit hrl hpre hwho hwh hre hpp hp18 hlen
  have hs0 : s = [45] := by rw [← hs]; unfold sgn; rw [if_pos hn]
  obtain ⟨M, hM⟩ : ∃ M : Int, n + 18446744073709551616 = M := ⟨_, rfl⟩
  have hw1 : IntKind.u64.wrap n = M := by unfold IntKind.wrap; simp [IntKind.signed, IntKind.bits]; omega
  have hw2 : IntKind.u64.wrap (-M) = (N : Int) := by unfold IntKind.wrap; simp [IntKind.signed, IntKind.bits]; omega
  have hT00 := Bn.new w #[.slice none 0 0] 27
  have hB0 : Below w.heap.size w (w.alloc (.cells #[.slice none 0 0] 27)) := by (repeat (first | with_reducible exact Below.refl _ _ | with_reducible assumption | refine Below.alloc ?_ (by (try simp); try omega) _ | refine Below.setCell ?_ (by (try simp); try omega) _ | refine below_drewN ?_ _ | refine Below.drew ?_ | (with_reducible refine Below.trans ?_ (Below.mono (by assumption) (by (try simp); try omega)))))
  clear hM hN
  go_enter Tryz.func18, Tryz.ntmps18
  go_upto_region 6 with fail
  generalize hz : w.heap.size = z at *
  generalize (w.alloc (.cells #[.slice none 0 0] 27)) = w1 at *
  have hown00 : w1.ownsRow z 5 1 (.slice none 0 0) 0 [] := World.ownsRow_nil _ _ _ _
  have cT0 := hT00.cell 0 (.slice none 0 0) rfl
  have zT0 := hT00.f 0
  have lT0 := hT00.lt
  go_wp2_with (at_builtin; refine wpList_append_own _ rfl _ _ 27 rfl z 5 iB (.int .u8 0) 1 1 Tryz.underlying27 hi hz0 hz1 hz2 rfl (by decide) _ _ _ rfl (hown00.alloc _) ⟨w1.heap.size, 0, none⟩ 1 1 [.int .u8 45] rfl rfl (one_at _ _ _) (one_cell _ _) (by unfold maxLen; omega) (by omega) (by simp; omega) ?_)
  intro va wb hownb hgrow _
  have hTb := Bn.grownR hgrow (hT00.alloc (.cells #[.int .u8 45] 5)) (hown00.alloc (.cells #[.int .u8 45] 5)) (by decide)
  have hBb : Below z w wb := Below.grown (hB0.alloc (by omega) (.cells #[.int .u8 45] 5)) hgrow (by simp; omega) (fun k hk => (hown00.lt k hk).1)
  obtain ⟨gb, capb, rfl⟩ := own_head hownb (by omega)
  clear cT0 zT0 lT0 hgrow hT00 hown00 hB0
  have zTb := hTb.f 0
  have cTb := hTb.cell 0 (.slice none 0 0) rfl
  have lTb := hTb.lt
  go_upto_region 8 with fail
  obtain ⟨v0, hv0⟩ : ∃ v0 : Value, Value.slice (some ⟨gb, 0, none⟩) (0 + 1) capb = v0 := ⟨_, rfl⟩
  rw [hv0] at hownb
  have hv1 : Value.slice (some ⟨gb, 0, none⟩) 1 capb = v0 := hv0
  simp only [hv1]
  have hT0 : Bn (wb.setCell ⟨z, 0, none⟩ v0) z #[v0] 27 := hTb.put 0 v0
  have hown0 : (wb.setCell ⟨z, 0, none⟩ v0).ownsRow z 5 1 v0 s.length (Lib.byteCells s) := by
    have h := own_box (i := 0) (x := v0) hownb hTb (by decide)
    rw [hs0]; exact h
  have hB : Below z w (wb.setCell ⟨z, 0, none⟩ v0) := hBb.setCell (by show z ≤ z; omega) _
  clear hTb hownb hBb zTb cTb lTb hs0
  generalize wb.setCell ⟨z, 0, none⟩ v0 = wA at *
  clear hv0 hv1
  have hTsz := hT0.lt
  have hsl : s.length ≤ 1 := by rw [← hs]; unfold sgn; split <;> simp
  have hPA := hP.keep (w' := wA) (hz ▸ hB)
  have cT := hT0.cell 0 v0 rfl
  go_upto_region 9 with (go_at_call 39; (with_reducible refine (power_any d _ hd).mono ?_); rintro e wp ⟨rfl, rfl⟩)
  have hT1 := hT0.alloc (.cells #[.int .u64 unit] 83)
  have hU1 := Bn.new wA #[.int .u64 unit] 83
  have hown1 := hown0.alloc (.cells #[.int .u64 unit] 83)
  have hB1 : Below z w (wA.alloc (.cells #[.int .u64 unit] 83)) := hB.alloc (by omega) _
  have hP1 := hPA.keep ((Below.refl wA.heap.size wA).alloc (Nat.le_refl _) (.cells #[.int .u64 unit] 83))
  clear hT0 hown0 hB hPA cT
  obtain ⟨u, hu⟩ : ∃ u, wA.heap.size = u := ⟨_, rfl⟩
  have hzu : z < u := by omega
  generalize hu' : wA.heap.size = u' at *
  obtain rfl : u' = u := hu
  generalize (wA.alloc (.cells #[.int .u64 unit] 83)) = v1 at *
  go_cut [] from 11 to 48 (fun wx => ∃ v2, Bn wx z #[v2] 27 ∧ Bn wx u' #[.int .u64 unit] 83 ∧ wx.ownsRow z 5 1 v2 (s.length + (Lib.decDigits whole).length) (Lib.byteCells s ++ Lib.byteCells (Lib.decDigits whole)) ∧ Below z w wx)
  case first =>
    have hdl : 0 < s.length + (Lib.decDigits whole).length := by have h0 : (Lib.decDigits whole).length ≠ 0 := fun e => decDigits_ne whole (List.length_eq_zero_iff.1 e); omega
    have cT := hT1.cell 0 v0 rfl
    have cU := hU1.cell 0 (.int .u64 unit) rfl
    go_region_law ((go_simp; go_at_call 45; (refine (appendU_any z s.length whole hwb v0 (Lib.byteCells s) _ (by exact own_heap hown1 rfl) (by have := hT1.lt; show z ≤ v1.heap.size; omega) (by omega) (by exact hP1)).mono ?_); rintro rr uz ⟨v2, rfl, ho, hb, hk⟩; have hT2 := Bn.others (w := v1) hT1 hk (by decide); have hU2 := Bn.others (w := v1) hU1 hk (by decide); have hB2 : Below z w uz := hB1.trans (((Below.refl z v1).drew).trans hb); clear cT cU; have cT := hT2.cell 0 v0 rfl; have zT2 := hT2.f 0; have lT2 := hT2.lt; have cU := hU2.cell 0 (.int .u64 unit) rfl; obtain ⟨gg, cap, rfl⟩ := own_head ho hdl))
    all_goals (go_wp2_with fail; go_meet)
    all_goals exact ⟨_, hT2.put 0 _, hU2.far (by omega) 0 _, own_box ho hT2 (by decide), hB2.setCell (by show z ≤ z; omega) _⟩
  case rest =>
    obtain ⟨v2, hT, hU, hown, hB⟩ := hcut
    clear hT1 hown1 hB1 hP1 hU1 e1 e3 f1
    have cT := hT.cell 0 v2 rfl
    have cU := hU.cell 0 (.int .u64 unit) rfl
    have lT := hT.lt
    have lU := hU.lt
    go_upto_region 11 with fail
    have hT3 := hT.alloc (.cells #[.int .u64 (rest : Int)] 83)
    have hU3 := hU.alloc (.cells #[.int .u64 (rest : Int)] 83)
    have hR3 := Bn.new wc #[.int .u64 (rest : Int)] 83
    have hown3 := hown.alloc (.cells #[.int .u64 (rest : Int)] 83)
    have hB3 : Below z w (wc.alloc (.cells #[.int .u64 (rest : Int)] 83)) := hB.alloc (by omega) _
    clear hT hU hown hB cT cU
    generalize hr : wc.heap.size = r at *
    generalize (wc.alloc (.cells #[.int .u64 (rest : Int)] 83)) = v3 at *
    clear hr
    have hdl : 0 < s.length + (Lib.decDigits whole).length := by have h0 : (Lib.decDigits whole).length ≠ 0 := fun e => decDigits_ne whole (List.length_eq_zero_iff.1 e); omega
    have hdm : s.length + (Lib.decDigits whole).length ≤ 21 := by have := dec_len whole hwb; omega
    rw [show Lib.byteCells s ++ Lib.byteCells (Lib.decDigits whole) = Lib.byteCells (s ++ Lib.decDigits whole) by unfold Lib.byteCells; rw [List.map_append]] at hown3
    by_cases hr0 : rest = 0
    · have cR : v3.cell? ⟨r, 0, none⟩ = some (.int .u64 0) := by rw [hr0] at hR3; exact hR3.cell 0 _ rfl
      have cT := hT3.cell 0 v2 rfl
      have hw2 := Hwho.out hr0
      rw [show s.length + (Lib.decDigits whole).length = (s ++ Lib.decDigits whole).length by rw [List.length_append]] at hown3 hdl hdm
      rw [hw2] at hown3 hdl
      subst hr0
      obtain ⟨g, cap, rfl⟩ := own_head hown3 hdl
      have hcv := run_convert_bytes_back v3 27 9 5 ⟨g, 0, none⟩ cap (txt n d) Tryz.underlying27 Tryz.underlying5 Tryz.underlying9 (fun i hi => by
        rw [Lib.add_plain]
        have := hown3.cellAt i (by omega)
        simpa [Lib.byteCells, hi] using this)
      clear hown3 hdl hdm hw2 Hwho Hpre
      go_wp2_with fail
      refine wp_loop_rounds 1 ?_
      rw [rounds_succ]
      go_wp2
      go_ret2
      subst hz
      exact ⟨rfl, hB3⟩
    · have cR := hR3.cell 0 (.int .u64 (rest : Int)) rfl
      have cT := hT3.cell 0 v2 rfl
      have hgt : (0 : Int) < (rest : Int) := by omega
      have hpre := Hpre.out hr0
      have zT3 := hT3.f 0
      have lT3 := hT3.lt
      have lR3 := hR3.lt
      go_wp2_with (at_builtin; refine wpList_append_own _ rfl _ _ 27 rfl z 5 iB (.int .u8 0) 1 1 Tryz.underlying27 hi hz0 hz1 hz2 rfl (by decide) _ _ _ rfl (hown3.alloc _) ⟨v3.heap.size, 0, none⟩ 1 1 [.int .u8 46] rfl rfl (one_at _ _ _) (one_cell _ _) (by unfold maxLen; omega) (by omega) (by simp; omega) ?_)
      intro v4 w4 hown4 hgrow _
      have hT4 := Bn.grownR hgrow (hT3.alloc (.cells #[.int .u8 46] 5)) (hown3.alloc (.cells #[.int .u8 46] 5)) (by decide)
      have hU4 := Bn.grownR hgrow (hU3.alloc (.cells #[.int .u8 46] 5)) (hown3.alloc (.cells #[.int .u8 46] 5)) (by decide)
      have hR4 := Bn.grownR hgrow (hR3.alloc (.cells #[.int .u8 46] 5)) (hown3.alloc (.cells #[.int .u8 46] 5)) (by decide)
      have hB4 : Below z w w4 := Below.grown (hB3.alloc (by omega) (.cells #[.int .u8 46] 5)) hgrow (by simp; omega) (fun k hk => (hown3.lt k hk).1)
      obtain ⟨g, cap, rfl⟩ := own_head hown4 (by omega)
      clear cR cT zT3 lT3 lR3 hgrow hT3 hU3 hR3 hown3 hB3
      have zT4 := hT4.f 0
      have cT4 := hT4.cell 0 v2 rfl
      have lT4 := hT4.lt
      go_wp2_with fail
      obtain ⟨v5, hv5⟩ : ∃ v5 : Value, Value.slice (some ⟨g, 0, none⟩) (s.length + (Lib.decDigits whole).length + 1) cap = v5 := ⟨_, rfl⟩
      rw [hv5] at hown4
      simp only [hv5]
      have hT5 : Bn (w4.setCell ⟨z, 0, none⟩ v5) z #[v5] 27 := hT4.put 0 v5
      have hU5 : Bn (w4.setCell ⟨z, 0, none⟩ v5) u' #[.int .u64 unit] 83 := hU4.far (by omega) 0 v5
      have hR5 : Bn (w4.setCell ⟨z, 0, none⟩ v5) r #[.int .u64 (rest : Int)] 83 := hR4.far (by omega) 0 v5
      have hown5 : (w4.setCell ⟨z, 0, none⟩ v5).ownsRow z 5 1 v5 (s ++ Lib.decDigits whole ++ [46]).length (Lib.byteCells (s ++ Lib.decDigits whole ++ [46])) := by
        have h := own_box (i := 0) (x := v5) hown4 hT4 (by decide)
        have e1 : (s ++ Lib.decDigits whole ++ [46]).length = s.length + (Lib.decDigits whole).length + 1 := by simp; omega
        have e2 : Lib.byteCells (s ++ Lib.decDigits whole ++ [46]) = Lib.byteCells (s ++ Lib.decDigits whole) ++ [.int .u8 46] := by unfold Lib.byteCells; rw [List.map_append]; rfl
        rw [e1, e2]; exact h
      have hB5 : Below z w (w4.setCell ⟨z, 0, none⟩ v5) := hB4.setCell (by show z ≤ z; omega) _
      clear hT4 hU4 hR4 hown4 hB4 zT4 cT4 lT4
      generalize w4.setCell ⟨z, 0, none⟩ v5 = w5 at *
      clear hv5
      go_loopw [] (fun wr => ∃ (k p : Nat) (X : Int) (T : List UInt8) (v : Value), k ≤ d ∧ Hid (p < 10 ^ (d - k)) ∧ Hid (X = ((p * 10 ^ k : Nat) : Int)) ∧ Hid (T ++ plc (d - k) p = txt n d) ∧ 0 < T.length ∧ Bn wr r #[.int .u64 X] 83 ∧ Bn wr z #[v] 27 ∧ Bn wr u' #[.int .u64 unit] 83 ∧ wr.ownsRow z 5 1 v T.length (Lib.byteCells T) ∧ Below z w wr) (fun wr => 1000 - mT z wr)
      case atStart => exact ⟨0, rest, _, _, _, by omega, Lib.hid (by simpa using Hrl.out), Lib.hid (by simp), Lib.hid hpre, by simp; omega, hR5, hT5, hU5, hown5, hB5⟩
      case round =>
        clear hR5 hT5 hU5 hown5 hB5 hpre hgt hr0 hdl hdm
        obtain ⟨k, p, X, T, v, hkd, hp, hX, hT, hTl, hRk, hTk, hUk, hownk, hBk⟩ := hrel
        have hTle : T.length ≤ 40 := by have h1 := congrArg List.length hT.out; rw [List.length_append] at h1; have := Hlen.out; omega
        by_cases hp0 : p = 0
        · have hX0 : X = 0 := by rw [hX.out, hp0]; simp
          have hTt : T = txt n d := by have h1 := hT.out; rw [hp0, plc_zero, List.append_nil] at h1; exact h1
          subst hX0
          obtain ⟨g, cap, rfl⟩ := own_head hownk hTl
          have hcv := run_convert_bytes_back wr 27 9 5 ⟨g, 0, none⟩ cap T Tryz.underlying27 Tryz.underlying5 Tryz.underlying9 (fun i hi => by
            rw [Lib.add_plain]
            have := hownk.cellAt i (by omega)
            simpa [Lib.byteCells, hi] using this)
          have cR := hRk.cell 0 (.int .u64 0) rfl
          have cT := hTk.cell 0 _ rfl
          replace hTt := Lib.hid hTt
          clear hownk hT hX hp hTle hp0
          go_wp2
          go_ret2
          subst hz
          exact ⟨by rw [hTt.out]; rfl, hBk⟩
        · have hk : k < d := by
            rcases Nat.lt_or_ge k d with h | h
            · exact h
            · exfalso; have h1 := hp.out; rw [show d - k = 0 by omega] at h1; omega
          have hnum := place_nums d k p hk hp.out
          rw [← hX.out, Hun.out] at hnum
          have hpk : 0 < 10 ^ k := Nat.pow_pos (by omega)
          have hx0 : (0 : Int) < X := by rw [hX.out]; have := Nat.mul_pos (Nat.pos_of_ne_zero hp0) hpk; omega
          have hxu : X < unit := by
            rw [hX.out, ← Hun.out]
            have h1 : p * 10 ^ k < 10 ^ (d - k) * 10 ^ k := Nat.mul_lt_mul_of_pos_right hp.out hpk
            rw [← Nat.pow_add, show d - k + k = d by omega] at h1; omega
          have hst := plc_step d k p hk hp0
          have hqd : p / 10 ^ (d - (k + 1)) < 10 := by
            have h1 := hp.out; rw [show d - k = (d - (k + 1)) + 1 by omega] at h1; exact div_lt10 h1
          have hnT : Hid ((T ++ [dig (p / 10 ^ (d - (k + 1)))]) ++ plc (d - (k + 1)) (p % 10 ^ (d - (k + 1))) = txt n d) := Lib.hid (by have h1 := hT.out; rw [hst] at h1; rw [← h1]; simp)
          have hnp : Hid (p % 10 ^ (d - (k + 1)) < 10 ^ (d - (k + 1))) := Lib.hid (Nat.mod_lt _ (Nat.pow_pos (by omega)))
          have hsn := byteCells_snoc T _ hqd
          have hplace := place_any r z u' z T.length X unit _ _ v _ wr hRk hTk hUk hownk (by omega) (by omega) (by omega) (by omega) (by omega) hxu un1 hnum.1.symm hnum.2.symm
          rw [hsn, show T.length + 1 = (T ++ [dig (p / 10 ^ (d - (k + 1)))]).length by simp] at hplace
          have hmT : mT z wr = T.length := by
            obtain ⟨a0, c0, e0⟩ := own_len hownk
            unfold mT; rw [hTk.cell 0 v rfl, e0]
          have cR := hRk.cell 0 (.int .u64 X) rfl
          replace hmT := Lib.hid hmT
          clear hnum hst hsn hqd hpk hownk hT hp hX hxu
          go_wp2_with fail
          go_at_call 46
          refine hplace.mono ?_
          rintro e wn ⟨rfl, v', hR', hT', hU', hown', hb'⟩
          clear hplace cR hRk hTk hUk
          have hmT2 : Hid (mT z wn = (T ++ [dig (p / 10 ^ (d - (k + 1)))]).length) := Lib.hid (by
            obtain ⟨a0, c0, e0⟩ := own_len hown'
            unfold mT; rw [hT'.cell 0 v' rfl, e0])
          go_wp2_with fail
          go_roundw
          case rel => exact ⟨k + 1, _, _, _, v', by omega, hnp, Lib.hid rfl, hnT, by simp, hR', hT', hU', hown', hBk.trans hb'⟩
          case measure => rw [hmT.out, hmT2.out]; simp; omega
theorem text_ok (n : Int) (d : Nat) (w : World) (hd : d ≤ 18) (n0 : -9223372036854775808 ≤ n) (n1 : n ≤ 9223372036854775807) (hP : Pw w) :
    Calls Tryz.prog 18 #[.int .i64 n, .int .i64 (d : Int)] w fun e w' => e = .returned (.tuple #[.string (bs (txt n d)), .int .i64 0]) ∧ Below w.heap.size w w' := by
  by_cases h : n < 0
  · exact text_neg n d w hd n0 n1 h hP
  · exact text_pos n d w hd n0 n1 (by omega) hP
theorem text_bad (n d : Int) (w : World) (hd : d < 0 ∨ 18 < d) :
    Calls Tryz.prog 18 #[.int .i64 n, .int .i64 d] w fun e w' => e = .returned (.tuple #[.string (bs []), .int .i64 2]) ∧ Below w.heap.size w w' := by
  by_cases h : d < 0
  · clear hd
    go_enter Tryz.func18, Tryz.ntmps18
    go_wp2
    go_ret2
    exact ⟨rfl, Below.refl _ _⟩
  · have h2 : 18 < d := by omega
    clear hd
    go_enter Tryz.func18, Tryz.ntmps18
    go_wp2
    go_ret2
    exact ⟨rfl, Below.refl _ _⟩
/-- What Text returns. -/
def tR (n d : Int) : List UInt8 × Int := if d < 0 ∨ 18 < d then ([], 2) else (txt n d.toNat, 0)
theorem text_any (n d : Int) (w : World) (n0 : -9223372036854775808 ≤ n) (n1 : n ≤ 9223372036854775807) (hP : Pw w) :
    Calls Tryz.prog 18 #[.int .i64 n, .int .i64 d] w fun e w' => e = .returned (.tuple #[.string (bs (tR n d).1), .int .i64 (tR n d).2]) ∧ Below w.heap.size w w' := by
  unfold tR
  by_cases h : d < 0 ∨ 18 < d
  · rw [if_pos h]; exact text_bad n d w h
  · rw [if_neg h]
    obtain ⟨k, rfl⟩ : ∃ k : Nat, d = k := ⟨d.toNat, by omega⟩
    exact text_ok n k w (by omega) n0 n1 hP
end Go.Proofs.YtpjkdgdgjlldfaaGreatDoor
