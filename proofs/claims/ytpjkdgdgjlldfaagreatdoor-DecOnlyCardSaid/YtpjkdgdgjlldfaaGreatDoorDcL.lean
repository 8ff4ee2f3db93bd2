/-
  DecOnly: the walk.
-/
import Derived.Test.YtpjkdgdgjlldfaaGreatDoorDcW
import Derived.Test.YtpjkdgdgjlldfaaGreatDoorDcNm
import Derived.Test.YtpjkdgdgjlldfaaGreatDoorShelfF
namespace Go.Proofs.YtpjkdgdgjlldfaaGreatDoor
open Go.RowKit

/-- The library's variable MaxLen holds an int. -/
def Mx (w : World) : Prop := ∃ m, w.cell? ⟨0, 0, none⟩ = some (.int .i64 m)
theorem Mx.keep {w w' : World} (h : Mx w) (hb : Below w.heap.size w w') : Mx w' := by
  obtain ⟨m, hm⟩ := h
  exact ⟨m, dkeep hb hm⟩
theorem below_drewsN (w : World) (n : Nat) : Below w.heap.size w (w.drewN n) := below_drewN (Below.refl _ _) n
set_option maxRecDepth 100000 in
set_option maxHeartbeats 8000000 in
theorem decOnly_true (l : List UInt8) (n g : Int) (w : World) (hl : l.length ≤ 9223372036854775807) (n0 : -9223372036854775808 ≤ n) (n1 : n ≤ 9223372036854775807) (g0 : -9223372036854775808 ≤ g) (g1 : g ≤ 9223372036854775807) (hP : Pw w) (hE : Er w) (hM : Mx w) :
    Calls Tryz.prog 5 #[.string (bs l), .int .i64 n, .int .i64 g] w fun e w' => e = .returned (.bool true) ∧ Below w.heap.size w w' := by
  have hB := Below.refl w.heap.size w
  have hw := works_true w hP hE
  obtain ⟨d, hd, hd18⟩ : ∃ d : Nat, wrap64 ((IntKind.u64.wrap g).tmod 19) = (d : Int) ∧ d ≤ 18 := by
    have hu : 0 ≤ IntKind.u64.wrap g := by unfold IntKind.wrap; simp [IntKind.signed, IntKind.bits]; omega
    generalize IntKind.u64.wrap g = U at *
    rw [Int.tmod_eq_emod_of_nonneg hu]
    refine ⟨(U % 19).toNat, ?_, by omega⟩
    have e : wrap64 (U % 19) = U % 19 := by unfold wrap64; omega
    rw [e]; omega
  obtain ⟨q, hq⟩ : ∃ q : Nat, min l.length 60 = q := ⟨_, rfl⟩
  have hmin : min (l.length : Int) 60 = (q : Int) := by omega
  have hx : (bs l).extract 0 q = bs (l.take 60) := by
    rw [bs_extract]; congr 1
    simp only [List.drop_zero, Nat.sub_zero]
    rw [← hq]
    rcases Nat.le_total l.length 60 with h | h
    · rw [Nat.min_eq_left h, List.take_of_length_le (Nat.le_refl _), List.take_of_length_le h]
    · rw [Nat.min_eq_right h]
  have i1 : (0 : Int) ≤ (q : Int) := by omega
  have i2 : (q : Int) ≤ (l.length : Int) := by omega
  have sl : (bs l).size = l.length := rfl
  have hk60 : (l.take 60).length ≤ 60 := by rw [List.length_take]; omega
  obtain ⟨k, hk⟩ : ∃ k, l.take 60 = k := ⟨_, rfl⟩
  rw [hk] at hx hk60
  have hpar := fun w h => parse_any k d w (by omega) h
  rw [show pR k d = prs k d from by unfold pR; rw [if_neg (by omega), show ((d : Int)).toNat = d by omega]] at hpar
  obtain ⟨m, e0, hme⟩ : ∃ m e0, prs k d = (m, e0) := ⟨_, _, rfl⟩
  rw [hme] at hpar
  have htx := fun w h => text_ok n d w hd18 n0 n1 h
  have tl := txt_len n d hd18 n0 n1
  have hpre := pre_txt n d
  have htrim := trim_txt n d
  have hm10 : n.natAbs % 10 ^ d < 10 ^ d := Nat.mod_lt _ (Nat.pow_pos (by omega))
  have hDd := decDigits_isD (n.natAbs / 10 ^ d)
  have hPd := plc_isD d (n.natAbs % 10 ^ d) hm10
  have hPl := plc_length d (n.natAbs % 10 ^ d)
  have hPx := plc_last d (n.natAbs % 10 ^ d) hm10
  have hDn := decDigits_ne (n.natAbs / 10 ^ d)
  have hDz := dec_zero (n.natAbs / 10 ^ d)
  have hDl := dec_len (n.natAbs / 10 ^ d) (by have := Nat.div_le_self n.natAbs (10 ^ d); omega)
  generalize txt n d = t at *
  generalize Lib.decDigits (n.natAbs / 10 ^ d) = D at *
  generalize plc d (n.natAbs % 10 ^ d) = P at *
  have c1 : ∀ w, Calls Tryz.prog 19 #[.string (bs t), .string ⟨#[45]⟩] w fun e w' => e = .returned (.bool (decide (n < 0))) ∧ w' = w := fun w => by
    have h := Tryz.strings_HasPrefix (bs t) ⟨#[45]⟩ w
    rw [show ((⟨#[45]⟩ : ByteArray).data.toList) = [45] from rfl, bs_list, hpre] at h
    exact h
  have c2 : ∀ w, Calls Tryz.prog 21 #[.string (bs t), .string ⟨#[45]⟩] w fun e w' => e = .returned (.string (bs (D ++ pnt P))) ∧ w' = w := fun w => by
    have h := Tryz.strings_TrimPrefix (bs t) ⟨#[45]⟩ w
    rw [show ((⟨#[45]⟩ : ByteArray).data.toList) = [45] from rfl, bs_list, htrim] at h
    exact h
  have hpl : (pnt P).length ≤ P.length + 1 := by unfold pnt; split <;> simp
  have c3 : ∀ w, Mx w → Calls Tryz.prog 20 #[.string (bs (D ++ pnt P)), .string ⟨#[46]⟩] w fun e w' => e = .returned (.tuple #[.string (bs D), .string (bs P), .bool (decide (P ≠ []))]) ∧ Below w.heap.size w w' := fun w ⟨mm, hm⟩ => by
    have h := Tryz.strings_Cut (bs (D ++ pnt P)) ⟨#[46]⟩ mm w (by rw [bs_size, List.length_append]; omega) hm
    rw [show ((⟨#[46]⟩ : ByteArray).data.toList) = [46] from rfl, bs_list, cut_txt D P hDd] at h
    refine h.mono ?_
    rintro e w' ⟨rfl, nn, rfl⟩
    exact ⟨rfl, below_drewsN w nn⟩
  have c4 := add_run D P (by omega) (by omega)
  have c5 : ∀ w, Calls Tryz.prog 22 #[.string (bs (D ++ P)), .string ⟨#[48, 49, 50, 51, 52, 53, 54, 55, 56, 57]⟩] w fun e w' => e = .returned (.string (bs [])) ∧ Below w.heap.size w w' := fun w => by
    have h := Tryz.strings_Trim_laid (bs (D ++ P)) ⟨#[48, 49, 50, 51, 52, 53, 54, 55, 56, 57]⟩ w (by rw [bs_size, List.length_append]; omega) (by decide) (by
      intro j b hb
      have : b ∈ ten := List.mem_of_getElem? hb
      simp [ten] at this
      rcases this with rfl | rfl | rfl | rfl | rfl | rfl | rfl | rfl | rfl | rfl <;> decide)
    rw [show ((⟨#[48, 49, 50, 51, 52, 53, 54, 55, 56, 57]⟩ : ByteArray).data.toList) = ten from rfl, bs_list, trim_digits (D ++ P) (by
      intro b hb
      rcases List.mem_append.mp hb with x | x
      · exact hDd b x
      · exact hPd b x)] at h
    exact h
  have c6 : ∀ w, Calls Tryz.prog 23 #[.string (bs P), .string ⟨#[48]⟩] w fun e w' => e = .returned (.bool false) ∧ w' = w := fun w => by
    have h := Tryz.strings_HasSuffix (bs P) ⟨#[48]⟩ w (by rw [bs_size]; omega)
    rw [show ((⟨#[48]⟩ : ByteArray).data.toList) = [48] from rfl, bs_list, suffix_one, decide_eq_false hPx] at h
    exact h
  have hidx : ∀ w : World, (Instr.index 9 (.string (bs D)) (.int .i64 0)).run Tryz.prog w = .ok (.int .u8 ((D.getD 0 0).toNat : Int)) w := fun w => by
    have h0 : 0 < (bs D).size := Nat.pos_of_ne_zero (fun e => hDn (List.length_eq_zero_iff.1 e))
    rw [run_index_string (h := Tryz.underlying9), dif_pos (by omega), bs_get D _ _]
    rfl
  have st : (bs t).size = t.length := rfl
  have sP : (bs P).size = P.length := rfl
  have tD := bs_toList D
  have tP := bs_toList P
  have tN := bs_toList []
  have t0 : (⟨#[]⟩ : ByteArray).toList = [] := ByteArray.toList_mk []
  have t48 : (⟨#[48]⟩ : ByteArray).toList = [48] := ByteArray.toList_mk [48]
  have qD : (D == []) = false := by simp [hDn]
  have qN : (([] : List UInt8) == []) = true := rfl
  have tl48 : (t.length : Int) ≤ 48 := by omega
  have pl18 : (P.length : Int) ≤ (d : Int) := by omega
  have htxt := fun h : e0 = 0 => txt_prs k d m (by rw [hme, h])
  have hmb := fun h : e0 = 0 => prs_bd k d m (by rw [hme, h])
  have Htxt := Lib.hid htxt
  have Hmb := Lib.hid hmb
  clear htxt hmb hme hpre htrim hm10 hDd hPd hPl hPx hDn hDl tl hq hk hpl
  generalize hbn : decide (n < 0) = bn at *
  generalize t.length = tn at *
  generalize P.length = pn at *
  generalize D ++ P = DP at *
  generalize D ++ pnt P = DQ at *
  go_enter Tryz.func5, Tryz.ntmps5
  go_wp2_with fail
  go_at_call 6
  (with_reducible refine hw.mono ?_)
  rintro e u0 ⟨rfl, hb⟩
  replace hB := belowVia hB hb
  replace hP := hP.keep hb
  replace hE := hE.keep hb
  replace hM := hM.keep hb
  clear hb hw
  go_wp2_with fail
  go_at_call 9
  (with_reducible refine (hpar _ hE).mono ?_)
  rintro e ua ⟨rfl, hb⟩
  replace hB := belowVia hB hb
  replace hP := hP.keep hb
  replace hE := hE.keep hb
  replace hM := hM.keep hb
  clear hb
  by_cases he : e0 = 0
  · have hm0 := Hmb.out he
    have ft := fun w h => text_ok m d w hd18 hm0.1 hm0.2 h
    rw [Htxt.out he] at ft
    subst he
    clear Htxt Hmb
    go_wp2_with fail
    go_at_call 17
    refine (is_any k _).mono ?_
    rintro e va ⟨gk, rfl, hc, hb⟩
    replace hB := belowVia hB hb
    replace hP := hP.keep hb
    replace hE := hE.keep hb
    replace hM := hM.keep hb
    clear hb
    go_wp2_with fail
    go_at_call 18
    (with_reducible refine (ft _ hP).mono ?_)
    rintro e vb ⟨rfl, hb⟩
    replace hc := dkeep hb hc
    replace hB := belowVia hB hb
    replace hP := hP.keep hb
    replace hE := hE.keep hb
    replace hM := hM.keep hb
    clear hb
    go_wp2_with fail
    go_at_call 44
    refine (is1_any k _ _ hc).mono ?_
    rintro e vc ⟨rfl, rfl⟩
    clear hc ft hm0
    by_cases hP0 : P = []
    · have qP : (P == []) = true := by simp [hP0]
      have qd : decide (P ≠ []) = false := by simp [hP0]
      clear hP0
      rcases hDz with hDz | ⟨hDz, hD0⟩
      · have q48 : (D == [48]) = true := by simp [hDz]
        clear hDz hidx
        cases bn
        all_goals
          go_wp2_with fail
          go_at_call 18
          (with_reducible refine (htx _ hP).mono ?_)
          rintro e ub ⟨rfl, hb⟩
          replace hB := belowVia hB hb
          replace hP := hP.keep hb
          replace hE := hE.keep hb
          replace hM := hM.keep hb
          clear hb
          go_wp2_with fail
          go_at_call 19
          (with_reducible refine (c1 _).mono ?_)
          rintro e uc ⟨rfl, rfl⟩
          go_wp2_with fail
          go_at_call 21
          (with_reducible refine (c2 _).mono ?_)
          rintro e ud ⟨rfl, rfl⟩
          go_wp2_with fail
          go_at_call 20
          (with_reducible refine (c3 _ hM).mono ?_)
          rintro e ue ⟨rfl, hb⟩
          replace hB := belowVia hB hb
          replace hP := hP.keep hb
          replace hE := hE.keep hb
          replace hM := hM.keep hb
          clear hb
          go_wp2_with fail
          go_at_call 22
          (with_reducible refine (c5 _).mono ?_)
          rintro e uf ⟨rfl, hb⟩
          replace hB := belowVia hB hb
          replace hP := hP.keep hb
          replace hE := hE.keep hb
          replace hM := hM.keep hb
          clear hb
          go_wp2_with fail
          go_at_call 23
          (with_reducible refine (c6 _).mono ?_)
          rintro e ug ⟨rfl, rfl⟩
          go_wp2
          go_ret
          exact ⟨rfl, hB⟩
      · have q48 : (D == [48]) = false := by simp [hDz]
        have cne : ((D.getD 0 0).toNat : Int) ≠ 48 := by
          intro e; apply hD0; apply UInt8.toNat_inj.mp; have : (48 : UInt8).toNat = 48 := rfl; omega
        have cne2 : (((D.getD 0 0).toNat : Int) == 48) = false := beq_eq_false_iff_ne.2 cne
        have cne3 : (((D.getD 0 0).toNat : Int) != 48) = true := bne_iff_ne.2 cne
        generalize ((D.getD 0 0).toNat : Int) = c0 at *
        clear hDz hD0
        cases bn
        all_goals
          go_wp2_with fail
          go_at_call 18
          (with_reducible refine (htx _ hP).mono ?_)
          rintro e ub ⟨rfl, hb⟩
          replace hB := belowVia hB hb
          replace hP := hP.keep hb
          replace hE := hE.keep hb
          replace hM := hM.keep hb
          clear hb
          go_wp2_with fail
          go_at_call 19
          (with_reducible refine (c1 _).mono ?_)
          rintro e uc ⟨rfl, rfl⟩
          go_wp2_with fail
          go_at_call 21
          (with_reducible refine (c2 _).mono ?_)
          rintro e ud ⟨rfl, rfl⟩
          go_wp2_with fail
          go_at_call 20
          (with_reducible refine (c3 _ hM).mono ?_)
          rintro e ue ⟨rfl, hb⟩
          replace hB := belowVia hB hb
          replace hP := hP.keep hb
          replace hE := hE.keep hb
          replace hM := hM.keep hb
          clear hb
          go_wp2_with fail
          go_at_call 22
          (with_reducible refine (c5 _).mono ?_)
          rintro e uf ⟨rfl, hb⟩
          replace hB := belowVia hB hb
          replace hP := hP.keep hb
          replace hE := hE.keep hb
          replace hM := hM.keep hb
          clear hb
          go_wp2_with fail
          go_at_call 23
          (with_reducible refine (c6 _).mono ?_)
          rintro e ug ⟨rfl, rfl⟩
          go_wp2
          go_ret
          exact ⟨rfl, hB⟩
    · have qP : (P == []) = false := by simp [hP0]
      have qd : decide (P ≠ []) = true := by simp [hP0]
      clear hP0
      rcases hDz with hDz | ⟨hDz, hD0⟩
      · have q48 : (D == [48]) = true := by simp [hDz]
        clear hDz hidx
        cases bn
        all_goals
          go_wp2_with fail
          go_at_call 18
          (with_reducible refine (htx _ hP).mono ?_)
          rintro e ub ⟨rfl, hb⟩
          replace hB := belowVia hB hb
          replace hP := hP.keep hb
          replace hE := hE.keep hb
          replace hM := hM.keep hb
          clear hb
          go_wp2_with fail
          go_at_call 19
          (with_reducible refine (c1 _).mono ?_)
          rintro e uc ⟨rfl, rfl⟩
          go_wp2_with fail
          go_at_call 21
          (with_reducible refine (c2 _).mono ?_)
          rintro e ud ⟨rfl, rfl⟩
          go_wp2_with fail
          go_at_call 20
          (with_reducible refine (c3 _ hM).mono ?_)
          rintro e ue ⟨rfl, hb⟩
          replace hB := belowVia hB hb
          replace hP := hP.keep hb
          replace hE := hE.keep hb
          replace hM := hM.keep hb
          clear hb
          go_wp2_with fail
          go_at_call 22
          (with_reducible refine (c5 _).mono ?_)
          rintro e uf ⟨rfl, hb⟩
          replace hB := belowVia hB hb
          replace hP := hP.keep hb
          replace hE := hE.keep hb
          replace hM := hM.keep hb
          clear hb
          go_wp2_with fail
          go_at_call 23
          (with_reducible refine (c6 _).mono ?_)
          rintro e ug ⟨rfl, rfl⟩
          go_wp2
          go_ret
          exact ⟨rfl, hB⟩
      · have q48 : (D == [48]) = false := by simp [hDz]
        have cne : ((D.getD 0 0).toNat : Int) ≠ 48 := by
          intro e; apply hD0; apply UInt8.toNat_inj.mp; have : (48 : UInt8).toNat = 48 := rfl; omega
        have cne2 : (((D.getD 0 0).toNat : Int) == 48) = false := beq_eq_false_iff_ne.2 cne
        have cne3 : (((D.getD 0 0).toNat : Int) != 48) = true := bne_iff_ne.2 cne
        generalize ((D.getD 0 0).toNat : Int) = c0 at *
        clear hDz hD0
        cases bn
        all_goals
          go_wp2_with fail
          go_at_call 18
          (with_reducible refine (htx _ hP).mono ?_)
          rintro e ub ⟨rfl, hb⟩
          replace hB := belowVia hB hb
          replace hP := hP.keep hb
          replace hE := hE.keep hb
          replace hM := hM.keep hb
          clear hb
          go_wp2_with fail
          go_at_call 19
          (with_reducible refine (c1 _).mono ?_)
          rintro e uc ⟨rfl, rfl⟩
          go_wp2_with fail
          go_at_call 21
          (with_reducible refine (c2 _).mono ?_)
          rintro e ud ⟨rfl, rfl⟩
          go_wp2_with fail
          go_at_call 20
          (with_reducible refine (c3 _ hM).mono ?_)
          rintro e ue ⟨rfl, hb⟩
          replace hB := belowVia hB hb
          replace hP := hP.keep hb
          replace hE := hE.keep hb
          replace hM := hM.keep hb
          clear hb
          go_wp2_with fail
          go_at_call 22
          (with_reducible refine (c5 _).mono ?_)
          rintro e uf ⟨rfl, hb⟩
          replace hB := belowVia hB hb
          replace hP := hP.keep hb
          replace hE := hE.keep hb
          replace hM := hM.keep hb
          clear hb
          go_wp2_with fail
          go_at_call 23
          (with_reducible refine (c6 _).mono ?_)
          rintro e ug ⟨rfl, rfl⟩
          go_wp2
          go_ret
          exact ⟨rfl, hB⟩
  · have he2 : (e0 == 0) = false := beq_eq_false_iff_ne.2 he
    clear Htxt Hmb
    by_cases hP0 : P = []
    · have qP : (P == []) = true := by simp [hP0]
      have qd : decide (P ≠ []) = false := by simp [hP0]
      clear hP0
      rcases hDz with hDz | ⟨hDz, hD0⟩
      · have q48 : (D == [48]) = true := by simp [hDz]
        clear hDz hidx
        cases bn
        all_goals
          go_wp2_with fail
          go_at_call 18
          (with_reducible refine (htx _ hP).mono ?_)
          rintro e ub ⟨rfl, hb⟩
          replace hB := belowVia hB hb
          replace hP := hP.keep hb
          replace hE := hE.keep hb
          replace hM := hM.keep hb
          clear hb
          go_wp2_with fail
          go_at_call 19
          (with_reducible refine (c1 _).mono ?_)
          rintro e uc ⟨rfl, rfl⟩
          go_wp2_with fail
          go_at_call 21
          (with_reducible refine (c2 _).mono ?_)
          rintro e ud ⟨rfl, rfl⟩
          go_wp2_with fail
          go_at_call 20
          (with_reducible refine (c3 _ hM).mono ?_)
          rintro e ue ⟨rfl, hb⟩
          replace hB := belowVia hB hb
          replace hP := hP.keep hb
          replace hE := hE.keep hb
          replace hM := hM.keep hb
          clear hb
          go_wp2_with fail
          go_at_call 22
          (with_reducible refine (c5 _).mono ?_)
          rintro e uf ⟨rfl, hb⟩
          replace hB := belowVia hB hb
          replace hP := hP.keep hb
          replace hE := hE.keep hb
          replace hM := hM.keep hb
          clear hb
          go_wp2_with fail
          go_at_call 23
          (with_reducible refine (c6 _).mono ?_)
          rintro e ug ⟨rfl, rfl⟩
          go_wp2
          go_ret
          exact ⟨rfl, hB⟩
      · have q48 : (D == [48]) = false := by simp [hDz]
        have cne : ((D.getD 0 0).toNat : Int) ≠ 48 := by
          intro e; apply hD0; apply UInt8.toNat_inj.mp; have : (48 : UInt8).toNat = 48 := rfl; omega
        have cne2 : (((D.getD 0 0).toNat : Int) == 48) = false := beq_eq_false_iff_ne.2 cne
        have cne3 : (((D.getD 0 0).toNat : Int) != 48) = true := bne_iff_ne.2 cne
        generalize ((D.getD 0 0).toNat : Int) = c0 at *
        clear hDz hD0
        cases bn
        all_goals
          go_wp2_with fail
          go_at_call 18
          (with_reducible refine (htx _ hP).mono ?_)
          rintro e ub ⟨rfl, hb⟩
          replace hB := belowVia hB hb
          replace hP := hP.keep hb
          replace hE := hE.keep hb
          replace hM := hM.keep hb
          clear hb
          go_wp2_with fail
          go_at_call 19
          (with_reducible refine (c1 _).mono ?_)
          rintro e uc ⟨rfl, rfl⟩
          go_wp2_with fail
          go_at_call 21
          (with_reducible refine (c2 _).mono ?_)
          rintro e ud ⟨rfl, rfl⟩
          go_wp2_with fail
          go_at_call 20
          (with_reducible refine (c3 _ hM).mono ?_)
          rintro e ue ⟨rfl, hb⟩
          replace hB := belowVia hB hb
          replace hP := hP.keep hb
          replace hE := hE.keep hb
          replace hM := hM.keep hb
          clear hb
          go_wp2_with fail
          go_at_call 22
          (with_reducible refine (c5 _).mono ?_)
          rintro e uf ⟨rfl, hb⟩
          replace hB := belowVia hB hb
          replace hP := hP.keep hb
          replace hE := hE.keep hb
          replace hM := hM.keep hb
          clear hb
          go_wp2_with fail
          go_at_call 23
          (with_reducible refine (c6 _).mono ?_)
          rintro e ug ⟨rfl, rfl⟩
          go_wp2
          go_ret
          exact ⟨rfl, hB⟩
    · have qP : (P == []) = false := by simp [hP0]
      have qd : decide (P ≠ []) = true := by simp [hP0]
      clear hP0
      rcases hDz with hDz | ⟨hDz, hD0⟩
      · have q48 : (D == [48]) = true := by simp [hDz]
        clear hDz hidx
        cases bn
        all_goals
          go_wp2_with fail
          go_at_call 18
          (with_reducible refine (htx _ hP).mono ?_)
          rintro e ub ⟨rfl, hb⟩
          replace hB := belowVia hB hb
          replace hP := hP.keep hb
          replace hE := hE.keep hb
          replace hM := hM.keep hb
          clear hb
          go_wp2_with fail
          go_at_call 19
          (with_reducible refine (c1 _).mono ?_)
          rintro e uc ⟨rfl, rfl⟩
          go_wp2_with fail
          go_at_call 21
          (with_reducible refine (c2 _).mono ?_)
          rintro e ud ⟨rfl, rfl⟩
          go_wp2_with fail
          go_at_call 20
          (with_reducible refine (c3 _ hM).mono ?_)
          rintro e ue ⟨rfl, hb⟩
          replace hB := belowVia hB hb
          replace hP := hP.keep hb
          replace hE := hE.keep hb
          replace hM := hM.keep hb
          clear hb
          go_wp2_with fail
          go_at_call 22
          (with_reducible refine (c5 _).mono ?_)
          rintro e uf ⟨rfl, hb⟩
          replace hB := belowVia hB hb
          replace hP := hP.keep hb
          replace hE := hE.keep hb
          replace hM := hM.keep hb
          clear hb
          go_wp2_with fail
          go_at_call 23
          (with_reducible refine (c6 _).mono ?_)
          rintro e ug ⟨rfl, rfl⟩
          go_wp2
          go_ret
          exact ⟨rfl, hB⟩
      · have q48 : (D == [48]) = false := by simp [hDz]
        have cne : ((D.getD 0 0).toNat : Int) ≠ 48 := by
          intro e; apply hD0; apply UInt8.toNat_inj.mp; have : (48 : UInt8).toNat = 48 := rfl; omega
        have cne2 : (((D.getD 0 0).toNat : Int) == 48) = false := beq_eq_false_iff_ne.2 cne
        have cne3 : (((D.getD 0 0).toNat : Int) != 48) = true := bne_iff_ne.2 cne
        generalize ((D.getD 0 0).toNat : Int) = c0 at *
        clear hDz hD0
        cases bn
        all_goals
          go_wp2_with fail
          go_at_call 18
          (with_reducible refine (htx _ hP).mono ?_)
          rintro e ub ⟨rfl, hb⟩
          replace hB := belowVia hB hb
          replace hP := hP.keep hb
          replace hE := hE.keep hb
          replace hM := hM.keep hb
          clear hb
          go_wp2_with fail
          go_at_call 19
          (with_reducible refine (c1 _).mono ?_)
          rintro e uc ⟨rfl, rfl⟩
          go_wp2_with fail
          go_at_call 21
          (with_reducible refine (c2 _).mono ?_)
          rintro e ud ⟨rfl, rfl⟩
          go_wp2_with fail
          go_at_call 20
          (with_reducible refine (c3 _ hM).mono ?_)
          rintro e ue ⟨rfl, hb⟩
          replace hB := belowVia hB hb
          replace hP := hP.keep hb
          replace hE := hE.keep hb
          replace hM := hM.keep hb
          clear hb
          go_wp2_with fail
          go_at_call 22
          (with_reducible refine (c5 _).mono ?_)
          rintro e uf ⟨rfl, hb⟩
          replace hB := belowVia hB hb
          replace hP := hP.keep hb
          replace hE := hE.keep hb
          replace hM := hM.keep hb
          clear hb
          go_wp2_with fail
          go_at_call 23
          (with_reducible refine (c6 _).mono ?_)
          rintro e ug ⟨rfl, rfl⟩
          go_wp2
          go_ret
          exact ⟨rfl, hB⟩
end Go.Proofs.YtpjkdgdgjlldfaaGreatDoor
