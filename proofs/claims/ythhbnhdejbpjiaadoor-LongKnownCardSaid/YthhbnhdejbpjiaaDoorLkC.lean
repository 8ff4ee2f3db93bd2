/-
  LongKnown: the walk.
-/
import Derived.Test.YthhbnhdejbpjiaaDoorLkB
import Derived.Deep.RegionHeld3
import Derived.Deep.DeepCutAuto
namespace Go.Proofs.YthhbnhdejbpjiaaDoor
open Go.RowKit

set_option maxRecDepth 100000 in
set_option maxHeartbeats 16000000 in
theorem longKnown_true (w : World) (hP : Pw w) :
    Calls Tryd.prog 3 #[] w fun e w' => e = .returned (.bool true) ∧ Below w.heap.size w w' := by
  have hB := Below.refl w.heap.size w
  obtain ⟨i0, hi, hz0, hz1, hz2⟩ := info_parts Tryd.infoInt
  have hrep : ∀ w, Calls Tryd.prog 5 #[.string ⟨#[57]⟩, .int .i64 5400] w fun e w' => e = .returned (.string ⟨⟨nn 5400⟩⟩) ∧ Below w.heap.size w w' := fun w => by
    have := Tryd.strings_Repeat ⟨#[57]⟩ 5400 w (by omega) (by decide)
    rwa [show ((⟨#[57]⟩ : ByteArray).data.toList) = [57] from rfl, nines_rep] at this
  have hrep2 : ∀ w, Calls Tryd.prog 5 #[.string ⟨#[57]⟩, .int .i64 2700] w fun e w' => e = .returned (.string ⟨⟨nn 2700⟩⟩) ∧ Below w.heap.size w w' := fun w => by
    have := Tryd.strings_Repeat ⟨#[57]⟩ 2700 w (by omega) (by decide)
    rwa [show ((⟨#[57]⟩ : ByteArray).data.toList) = [57] from rfl, nines_rep] at this
  have hofM := fun w => of_num (nn 5400) mx w pt_mx
  have hof1 : ∀ w, Calls Tryd.prog 6 #[.string ⟨#[49]⟩] w fun e w' => LgV 1 e w' ∧ Below w.heap.size w w' := fun w => of_num [49] 1 w pt_n1
  have hof2 : ∀ w, Calls Tryd.prog 6 #[.string ⟨#[50]⟩] w fun e w' => LgV 2 e w' ∧ Below w.heap.size w w' := fun w => of_num [50] 2 w pt_n2
  have hof0 : ∀ w, Calls Tryd.prog 6 #[.string ⟨#[48]⟩] w fun e w' => LgV 0 e w' ∧ Below w.heap.size w w' := fun w => of_num [48] 0 w pt_n0
  have hofm1 : ∀ w, Calls Tryd.prog 6 #[.string ⟨#[45, 49]⟩] w fun e w' => LgV (-1) e w' ∧ Below w.heap.size w w' := fun w => of_num [45, 49] (-1) w pt_m1
  have hp9 := fun w => parseP_big 57 (nn 5400) w (by decide) (fun h => by injection h with h; exact absurd h (by decide)) (by rw [List.length_cons, nn_len]; omega) (by have := nn_pos (n := 5401) (by omega); rwa [nn5401] at this) (by rw [List.length_cons, nn_len]; omega)
  have hpx := fun w => parseP_no 57 (nn 5399 ++ [120]) w (by decide) (by simp [nn]) (by rw [List.length_cons, List.length_append, nn_len]; simp) (by have := nn_x 5400; rwa [nn_head 5399] at this)
  have hpm9 := fun w => parseN_big (nn 5401) w (by rw [nn_len]; omega) (nn_pos (by omega)) (by rw [nn_len]; omega)
  have hpm := fun w => parse_num (45 :: nn 5400) (-mx) w pt_mmx
  have hisN := fun (A : Value) (bx : Nat) (w : World) (hA : Lg w A mx) (hP : Pw w) (h0 : w.cell? ⟨bx, 0, none⟩ = some (.string ⟨⟨nn 5400⟩⟩)) => is1_true A mx bx _ w hA lm_le hP h0 (sx_of pt_mx)
  have hisM := fun (A : Value) (bx : Nat) (w : World) (hA : Lg w A (-mx)) (hP : Pw w) (h0 : w.cell? ⟨bx, 0, none⟩ = some (.string ⟨⟨45 :: nn 5400⟩⟩)) => is1_true A (-mx) bx _ w hA lmm_le hP h0 (sx_of pt_mmx)
  have hisH := fun (A : Value) (bx : Nat) (w : World) (hA : Lg w A (10 ^ 2700 - 1)) (hP : Pw w) (h0 : w.cell? ⟨bx, 0, none⟩ = some (.string ⟨⟨nn 2700⟩⟩)) => is1_true A (10 ^ 2700 - 1) bx _ w hA pt_half.len hP h0 (sx_of pt_half)
  have his0 := fun (A : Value) (bx : Nat) (w : World) (hA : Lg w A 0) (hP : Pw w) (h0 : w.cell? ⟨bx, 0, none⟩ = some (.string ⟨#[48]⟩)) => is1_true A 0 bx _ w hA l0_le hP h0 (sx_of pt_n0)
  have hd1 := fun (w : World) (hP : Pw w) => divides_true (nn 5400) [49] (nn 5400) [48] mx 1 w pt_mx pt_n1 (by omega) (by rw [Int.tdiv_one]; exact pt_mx) (by rw [Int.tmod_one]; exact pt_n0) hP
  have hd2 := fun (w : World) (hP : Pw w) => divides_true (nn 5400) (nn 5400) [49] [48] mx mx w pt_mx pt_mx (by have := mx_pos; omega) (by rw [Int.tdiv_self (by have := mx_pos; omega)]; exact pt_n1) (by rw [Int.tmod_self]; exact pt_n0) hP
  have e1 : (⟨⟨nn 5400⟩⟩ : ByteArray) ++ ⟨#[57]⟩ = ⟨⟨57 :: nn 5400⟩⟩ := by rw [cat_nn]; exact congrArg (fun l => (⟨⟨l⟩⟩ : ByteArray)) (by rw [nn_succ, nn5401])
  have e2 : (⟨⟨nn 5400⟩⟩ : ByteArray) ++ ⟨#[120]⟩ = ⟨⟨57 :: (nn 5399 ++ [120])⟩⟩ := by rw [cat_nn]; exact congrArg (fun l => (⟨⟨l⟩⟩ : ByteArray)) (nn_head 5399 _)
  have e3 : (⟨#[45]⟩ : ByteArray) ++ ⟨⟨nn 5400⟩⟩ = ⟨⟨45 :: nn 5400⟩⟩ := by rw [cat_bytes]; rfl
  have e4 : (⟨⟨45 :: nn 5400⟩⟩ : ByteArray) ++ ⟨#[57]⟩ = ⟨⟨45 :: nn 5401⟩⟩ := by rw [cat_nn]; exact congrArg (fun l => (⟨⟨l⟩⟩ : ByteArray)) (by rw [List.cons_append, nn_succ])
  have zN : (⟨⟨nn 5400⟩⟩ : ByteArray).size = 5400 := nn_len 5400
  have zM : (⟨⟨45 :: nn 5400⟩⟩ : ByteArray).size = 5401 := by rw [show (⟨⟨45 :: nn 5400⟩⟩ : ByteArray).size = (nn 5400).length + 1 from rfl, nn_len]
  generalize (⟨⟨nn 5400⟩⟩ : ByteArray) = SN at *
  generalize (⟨⟨57 :: nn 5400⟩⟩ : ByteArray) = S9 at *
  generalize (⟨⟨57 :: (nn 5399 ++ [120])⟩⟩ : ByteArray) = Sx at *
  generalize (⟨⟨45 :: nn 5400⟩⟩ : ByteArray) = SM at *
  generalize (⟨⟨45 :: nn 5401⟩⟩ : ByteArray) = SM9 at *
  generalize (⟨⟨nn 2700⟩⟩ : ByteArray) = SH at *
  go_enter Tryd.func3, Tryd.ntmps3
  dsimp only [List.append]
  go_wp2_with fail
  go_at_call 4
  refine (works_true _ hP).mono ?_
  rintro e u1 ⟨rfl, hb⟩
  replace hP := hP.keep hb
  replace hB := hB.trans (hb.mono hB.size)
  clear hb
  go_wp2_with fail
  go_at_call 5
  refine (hrep _).mono ?_
  rintro e u2 ⟨rfl, hb⟩
  have hLB := Ls.one u1 0 _ rfl
  have bB := Bx.new (u1.alloc (.cells #[.int .i64 0] 3)) (.bool false) (.slice (some ⟨u1.heap.size, 0, none⟩) 1 1) 25
  have LB := (hLB.keep ((Below.refl _ _).alloc (Nat.le_refl _) (.cells #[.bool false, .slice (some ⟨u1.heap.size, 0, none⟩) 1 1] 25))).keep hb
  replace bB := bB.keep hb
  have rb0 := bB.c0
  have rb1 := bB.c1
  clear hLB bB
  rw [show (u1.alloc (.cells #[.int .i64 0] 3)).heap.size = u1.heap.size + 1 by simp] at rb0 rb1
  (with_reducible (repeat (first | replace hb := unalloc hb | replace hb := undrew3 hb)))
  replace hP := hP.keep hb
  replace hB := hB.trans (hb.mono hB.size)
  clear hb
  generalize u1.heap.size + 1 = g1 at *
  generalize u1.heap.size = g0 at *
  go_wp2_with fail
  go_at_call 6
  refine (hofM _).mono ?_
  rintro e u3 ⟨⟨pM, aM, nM, kM, rfl, LM⟩, hb⟩
  replace rb0 := lkeep hb rb0
  replace rb1 := lkeep hb rb1
  replace LB := LB.keep hb
  replace hP := hP.keep hb
  replace hB := hB.trans (hb.mono hB.size)
  clear hb
  obtain rfl : pM = false := by rw [LM.parts.1]; exact mx_nn
  obtain rfl : nM = 600 := by rw [LM.parts.2.slen]; exact dgm_len
  go_wp2_with fail
  have bM := Bx.new u3 (.bool false) (.slice aM 600 kM) 25
  have hb : Below u3.heap.size u3 (u3.alloc (.cells #[.bool false, .slice aM 600 kM] 25)) := (Below.refl _ _).alloc (Nat.le_refl _) _
  replace rb0 := lkeep hb rb0
  replace rb1 := lkeep hb rb1
  replace LB := LB.keep hb
  replace LM := LM.keep hb
  replace hP := hP.keep hb
  replace hB := hB.trans (hb.mono hB.size)
  clear hb
  have rm0 := bM.c0
  have rm1 := bM.c1
  clear bM
  generalize (u3.alloc (.cells #[.bool false, .slice aM 600 kM] 25)) = v0 at *
  generalize u3.heap.size = g3 at *
  go_at_call 7
  refine (lk_ckM _ _ LM).mono ?_
  rintro e v1 ⟨rfl, hb⟩
  (with_reducible (repeat (first | replace hb := unalloc hb | replace hb := undrew3 hb)))
  replace rb0 := lkeep hb rb0
  replace rb1 := lkeep hb rb1
  replace rm0 := lkeep hb rm0
  replace rm1 := lkeep hb rm1
  replace LB := LB.keep hb
  replace LM := LM.keep hb
  replace hP := hP.keep hb
  replace hB := hB.trans (hb.mono hB.size)
  clear hb
  go_wp2_with fail
  go_at_call 8
  refine (cloneP _ _ _ LM.parts.2 (by rw [dgm_len]; omega) (by rw [dgm_len]; omega)).mono ?_
  rintro e uc ⟨vc, rfl, hown, hbc⟩
  rw [dgm_len] at hown
  have hle := hbc.size
  have hlx : ((dg (mx.natAbs : Int)).map (Value.int .i64)).length = 600 := by rw [List.length_map]; exact dgm_len
  have hend : ∀ (w' : World) (v' : Value), w'.ownsRow v1.heap.size 3 1 v' (600 + 1) ((dg (mx.natAbs : Int)).map (Value.int .i64) ++ [.int .i64 1]) → Ls w' v' (dg (mx.natAbs : Int) ++ [1]) := fun w' v' h => by
    have e : (dg (mx.natAbs : Int)).map (Value.int .i64) ++ [.int .i64 1] = (dg (mx.natAbs : Int) ++ [1]).map (Value.int .i64) := by rw [List.map_append]; rfl
    have e2 : (dg (mx.natAbs : Int) ++ [1]).length = 600 + 1 := by rw [List.length_append, dgm_len]; rfl
    rw [e, ← e2] at h
    exact Ls.own h
  have Hend := Lib.hid hend
  clear hend
  generalize hX : ((dg (mx.natAbs : Int)).map (Value.int .i64)) = X at *
  clear hX
  go_wp2_with (at_builtin; (refine append_want (by rfl) _ _ _ (by rfl) v1.heap.size 3 i0 (.int .i64 0) 1 8 Tryd.underlying23 hi hz0 hz1 hz2 rfl (by decide) vc 600 X (by rfl) (hown.alloc (.cells #[.int .i64 1] 3)) ⟨uc.heap.size, 0, none⟩ 1 1 [.int .i64 1] (by rfl) (by rfl) (by exact news_heap (w := uc) (.int .i64 1) 3 rfl) (one_cell _ _) (by omega) (by unfold maxLen; omega) (by omega) (by simp; omega) (uc.heap.size + 1) (by simp) ?_; intro gg cap w2 hown' hgrow; refine Hid.out ?_))
  refine Lib.hid ?_
  have hb : Below v1.heap.size v1 w2 := (hbc.alloc hbc.size (.cells #[.int .i64 1] 3)).grown hgrow (by simp; omega) (fun k hk => ((hown.alloc (.cells #[.int .i64 1] 3)).lt k hk).1)
  have LX := Hend.out _ _ hown'
  clear hown hown' hgrow hbc Hend hlx hle
  (with_reducible (repeat (first | replace hb := unalloc hb | replace hb := undrew3 hb)))
  replace rb0 := lkeep hb rb0
  replace rb1 := lkeep hb rb1
  replace rm0 := lkeep hb rm0
  replace rm1 := lkeep hb rm1
  replace LB := LB.keep hb
  replace LM := LM.keep hb
  replace hP := hP.keep hb
  replace hB := hB.trans (hb.mono hB.size)
  clear hb
  go_wp2_with fail
  go_at_call 7
  refine (lk_ckL _ _ _ LX (by rw [List.length_append, dgm_len]; rfl)).mono ?_
  rintro e v2 ⟨rfl, hb⟩
  (with_reducible (repeat (first | replace hb := unalloc hb | replace hb := undrew3 hb)))
  replace rb0 := lkeep hb rb0
  replace rb1 := lkeep hb rb1
  replace rm0 := lkeep hb rm0
  replace rm1 := lkeep hb rm1
  replace LB := LB.keep hb
  replace LM := LM.keep hb
  replace hP := hP.keep hb
  replace hB := hB.trans (hb.mono hB.size)
  clear hb
  clear LX
  go_wp2_with fail
  go_at_call 7
  refine (lk_ckB _ _ LB).mono ?_
  rintro e v3 ⟨rfl, hb⟩
  (with_reducible (repeat (first | replace hb := unalloc hb | replace hb := undrew3 hb)))
  replace rb0 := lkeep hb rb0
  replace rb1 := lkeep hb rb1
  replace rm0 := lkeep hb rm0
  replace rm1 := lkeep hb rm1
  replace LB := LB.keep hb
  replace LM := LM.keep hb
  replace hP := hP.keep hb
  replace hB := hB.trans (hb.mono hB.size)
  clear hb
  go_wp2_with fail
  go_at_call 7
  refine (lk_ckO 1000000000 _ _ rfl ck_big).mono ?_
  rintro e v4 ⟨rfl, hb⟩
  (with_reducible (repeat (first | replace hb := unalloc hb | replace hb := undrew3 hb)))
  replace rb0 := lkeep hb rb0
  replace rb1 := lkeep hb rb1
  replace rm0 := lkeep hb rm0
  replace rm1 := lkeep hb rm1
  replace LB := LB.keep hb
  replace LM := LM.keep hb
  replace hP := hP.keep hb
  replace hB := hB.trans (hb.mono hB.size)
  clear hb
  go_wp2_with fail
  go_at_call 7
  refine (lk_ckO (-1) _ _ rfl ck_min).mono ?_
  rintro e v5 ⟨rfl, hb⟩
  (with_reducible (repeat (first | replace hb := unalloc hb | replace hb := undrew3 hb)))
  replace rb0 := lkeep hb rb0
  replace rb1 := lkeep hb rb1
  replace rm0 := lkeep hb rm0
  replace rm1 := lkeep hb rm1
  replace LB := LB.keep hb
  replace LM := LM.keep hb
  replace hP := hP.keep hb
  replace hB := hB.trans (hb.mono hB.size)
  clear hb
  go_wp2_with fail
  go_at_call 9
  refine (fails_any 6 _).mono ?_
  rintro e v6 ⟨bq, rfl, hq, hb⟩
  (with_reducible (repeat (first | replace hb := unalloc hb | replace hb := undrew3 hb)))
  replace rb0 := lkeep hb rb0
  replace rb1 := lkeep hb rb1
  replace rm0 := lkeep hb rm0
  replace rm1 := lkeep hb rm1
  replace LB := LB.keep hb
  replace LM := LM.keep hb
  replace hP := hP.keep hb
  replace hB := hB.trans (hb.mono hB.size)
  clear hb
  go_wp2_with fail
  go_at_call 10
  refine (hp9 _).mono ?_
  rintro e v7 ⟨rfl, hb⟩
  (with_reducible (repeat (first | replace hb := unalloc hb | replace hb := undrew3 hb)))
  replace rb0 := lkeep hb rb0
  replace rb1 := lkeep hb rb1
  replace rm0 := lkeep hb rm0
  replace rm1 := lkeep hb rm1
  replace LB := LB.keep hb
  replace LM := LM.keep hb
  replace hP := hP.keep hb
  replace hq := lkeep hb hq
  replace hB := hB.trans (hb.mono hB.size)
  clear hb
  go_wp2_with fail
  go_at_call 33
  refine (fails1_true 6 bq _ hq).mono ?_
  rintro e v8 ⟨rfl, hb⟩
  (with_reducible (repeat (first | replace hb := unalloc hb | replace hb := undrew3 hb)))
  replace rb0 := lkeep hb rb0
  replace rb1 := lkeep hb rb1
  replace rm0 := lkeep hb rm0
  replace rm1 := lkeep hb rm1
  replace LB := LB.keep hb
  replace LM := LM.keep hb
  replace hP := hP.keep hb
  replace hB := hB.trans (hb.mono hB.size)
  clear hb
  clear hq
  go_wp2_with fail
  go_at_call 9
  refine (fails_any 5 _).mono ?_
  rintro e v9 ⟨bq, rfl, hq, hb⟩
  (with_reducible (repeat (first | replace hb := unalloc hb | replace hb := undrew3 hb)))
  replace rb0 := lkeep hb rb0
  replace rb1 := lkeep hb rb1
  replace rm0 := lkeep hb rm0
  replace rm1 := lkeep hb rm1
  replace LB := LB.keep hb
  replace LM := LM.keep hb
  replace hP := hP.keep hb
  replace hB := hB.trans (hb.mono hB.size)
  clear hb
  go_wp2_with fail
  go_at_call 10
  refine (hpx _).mono ?_
  rintro e v10 ⟨rfl, hb⟩
  (with_reducible (repeat (first | replace hb := unalloc hb | replace hb := undrew3 hb)))
  replace rb0 := lkeep hb rb0
  replace rb1 := lkeep hb rb1
  replace rm0 := lkeep hb rm0
  replace rm1 := lkeep hb rm1
  replace LB := LB.keep hb
  replace LM := LM.keep hb
  replace hP := hP.keep hb
  replace hq := lkeep hb hq
  replace hB := hB.trans (hb.mono hB.size)
  clear hb
  go_wp2_with fail
  go_at_call 33
  refine (fails1_true 5 bq _ hq).mono ?_
  rintro e v11 ⟨rfl, hb⟩
  (with_reducible (repeat (first | replace hb := unalloc hb | replace hb := undrew3 hb)))
  replace rb0 := lkeep hb rb0
  replace rb1 := lkeep hb rb1
  replace rm0 := lkeep hb rm0
  replace rm1 := lkeep hb rm1
  replace LB := LB.keep hb
  replace LM := LM.keep hb
  replace hP := hP.keep hb
  replace hB := hB.trans (hb.mono hB.size)
  clear hb
  clear hq
  go_wp2_with fail
  go_at_call 9
  refine (fails_any 6 _).mono ?_
  rintro e v12 ⟨bq, rfl, hq, hb⟩
  (with_reducible (repeat (first | replace hb := unalloc hb | replace hb := undrew3 hb)))
  replace rb0 := lkeep hb rb0
  replace rb1 := lkeep hb rb1
  replace rm0 := lkeep hb rm0
  replace rm1 := lkeep hb rm1
  replace LB := LB.keep hb
  replace LM := LM.keep hb
  replace hP := hP.keep hb
  replace hB := hB.trans (hb.mono hB.size)
  clear hb
  go_wp2_with fail
  go_at_call 10
  refine (hpm9 _).mono ?_
  rintro e v13 ⟨rfl, hb⟩
  (with_reducible (repeat (first | replace hb := unalloc hb | replace hb := undrew3 hb)))
  replace rb0 := lkeep hb rb0
  replace rb1 := lkeep hb rb1
  replace rm0 := lkeep hb rm0
  replace rm1 := lkeep hb rm1
  replace LB := LB.keep hb
  replace LM := LM.keep hb
  replace hP := hP.keep hb
  replace hq := lkeep hb hq
  replace hB := hB.trans (hb.mono hB.size)
  clear hb
  go_wp2_with fail
  go_at_call 33
  refine (fails1_true 6 bq _ hq).mono ?_
  rintro e v14 ⟨rfl, hb⟩
  (with_reducible (repeat (first | replace hb := unalloc hb | replace hb := undrew3 hb)))
  replace rb0 := lkeep hb rb0
  replace rb1 := lkeep hb rb1
  replace rm0 := lkeep hb rm0
  replace rm1 := lkeep hb rm1
  replace LB := LB.keep hb
  replace LM := LM.keep hb
  replace hP := hP.keep hb
  replace hB := hB.trans (hb.mono hB.size)
  clear hb
  clear hq
  go_wp2_with fail
  go_at_call 11
  refine (is_any SM _).mono ?_
  rintro e v15 ⟨bq, rfl, hq, hb⟩
  (with_reducible (repeat (first | replace hb := unalloc hb | replace hb := undrew3 hb)))
  replace rb0 := lkeep hb rb0
  replace rb1 := lkeep hb rb1
  replace rm0 := lkeep hb rm0
  replace rm1 := lkeep hb rm1
  replace LB := LB.keep hb
  replace LM := LM.keep hb
  replace hP := hP.keep hb
  replace hB := hB.trans (hb.mono hB.size)
  clear hb
  go_wp2_with fail
  go_at_call 10
  refine (hpm _).mono ?_
  rintro e v16 ⟨⟨pR, aR, nR, kR, rfl, LR⟩, hb⟩
  (with_reducible (repeat (first | replace hb := unalloc hb | replace hb := undrew3 hb)))
  replace rb0 := lkeep hb rb0
  replace rb1 := lkeep hb rb1
  replace rm0 := lkeep hb rm0
  replace rm1 := lkeep hb rm1
  replace LB := LB.keep hb
  replace LM := LM.keep hb
  replace hP := hP.keep hb
  replace hq := lkeep hb hq
  replace hB := hB.trans (hb.mono hB.size)
  clear hb
  go_wp2_with fail
  go_at_call 37
  refine (hisM _ bq _ LR hP hq).mono ?_
  rintro e v17 ⟨rfl, hb⟩
  (with_reducible (repeat (first | replace hb := unalloc hb | replace hb := undrew3 hb)))
  replace rb0 := lkeep hb rb0
  replace rb1 := lkeep hb rb1
  replace rm0 := lkeep hb rm0
  replace rm1 := lkeep hb rm1
  replace LB := LB.keep hb
  replace LM := LM.keep hb
  replace hP := hP.keep hb
  replace hB := hB.trans (hb.mono hB.size)
  clear hb
  clear hq LR
  go_wp2_with fail
  as_aux_lemma =>
    have LA : True := trivial
    have LR : True := trivial
    have hq : True := trivial
    go_region_held3 (fun w' => w'.cell? ⟨g1, 0, none⟩ = some (.bool false) ∧ w'.cell? ⟨g1, 1, none⟩ = some (.slice (some ⟨g0, 0, none⟩) 1 1) ∧ w'.cell? ⟨g3, 0, none⟩ = some (.bool false) ∧ w'.cell? ⟨g3, 1, none⟩ = some (.slice aM 600 kM))
      ((first | exact ⟨rb0, rb1, rm0, rm1⟩))
      (first | (go_at_call 6; (with_reducible refine (hof1 _).mono ?_); (try clear LA); rintro e uz ⟨⟨pA, aA, nA, kA, rfl, LA⟩, hb⟩; (with_reducible (repeat (first | replace hb := unalloc hb | replace hb := undrew3 hb))); replace rb0 := lkeep hb rb0; replace rb1 := lkeep hb rb1; replace rm0 := lkeep hb rm0; replace rm1 := lkeep hb rm1; replace LB := LB.keep hb; replace LM := LM.keep hb; replace hP := hP.keep hb; (try replace LA := LA.keep hb); (try replace LR := LR.keep hb); (try replace hq := lkeep hb hq); replace hB := hB.trans (hb.mono hB.size); clear hb) | (go_at_call 6; (with_reducible refine (hof0 _).mono ?_); (try clear LA); rintro e uz ⟨⟨pA, aA, nA, kA, rfl, LA⟩, hb⟩; (with_reducible (repeat (first | replace hb := unalloc hb | replace hb := undrew3 hb))); replace rb0 := lkeep hb rb0; replace rb1 := lkeep hb rb1; replace rm0 := lkeep hb rm0; replace rm1 := lkeep hb rm1; replace LB := LB.keep hb; replace LM := LM.keep hb; replace hP := hP.keep hb; (try replace LA := LA.keep hb); (try replace LR := LR.keep hb); (try replace hq := lkeep hb hq); replace hB := hB.trans (hb.mono hB.size); clear hb) | (go_at_call 6; (with_reducible refine (hofm1 _).mono ?_); (try clear LA); rintro e uz ⟨⟨pA, aA, nA, kA, rfl, LA⟩, hb⟩; (with_reducible (repeat (first | replace hb := unalloc hb | replace hb := undrew3 hb))); replace rb0 := lkeep hb rb0; replace rb1 := lkeep hb rb1; replace rm0 := lkeep hb rm0; replace rm1 := lkeep hb rm1; replace LB := LB.keep hb; replace LM := LM.keep hb; replace hP := hP.keep hb; (try replace LA := LA.keep hb); (try replace LR := LR.keep hb); (try replace hq := lkeep hb hq); replace hB := hB.trans (hb.mono hB.size); clear hb) | (go_at_call 6; (with_reducible refine (hof2 _).mono ?_); (try clear LA); rintro e uz ⟨⟨pA, aA, nA, kA, rfl, LA⟩, hb⟩; (with_reducible (repeat (first | replace hb := unalloc hb | replace hb := undrew3 hb))); replace rb0 := lkeep hb rb0; replace rb1 := lkeep hb rb1; replace rm0 := lkeep hb rm0; replace rm1 := lkeep hb rm1; replace LB := LB.keep hb; replace LM := LM.keep hb; replace hP := hP.keep hb; (try replace LA := LA.keep hb); (try replace LR := LR.keep hb); (try replace hq := lkeep hb hq); replace hB := hB.trans (hb.mono hB.size); clear hb) | (go_at_call 9; (with_reducible refine (fails_any 6 _).mono ?_); (try clear hq); rintro e uz ⟨bq, rfl, hq, hb⟩; (with_reducible (repeat (first | replace hb := unalloc hb | replace hb := undrew3 hb))); replace rb0 := lkeep hb rb0; replace rb1 := lkeep hb rb1; replace rm0 := lkeep hb rm0; replace rm1 := lkeep hb rm1; replace LB := LB.keep hb; replace LM := LM.keep hb; replace hP := hP.keep hb; (try replace LA := LA.keep hb); (try replace LR := LR.keep hb); (try replace hq := lkeep hb hq); replace hB := hB.trans (hb.mono hB.size); clear hb) | (go_at_call 11; (with_reducible refine (is_any SN _).mono ?_); (try clear hq); rintro e uz ⟨bq, rfl, hq, hb⟩; (with_reducible (repeat (first | replace hb := unalloc hb | replace hb := undrew3 hb))); replace rb0 := lkeep hb rb0; replace rb1 := lkeep hb rb1; replace rm0 := lkeep hb rm0; replace rm1 := lkeep hb rm1; replace LB := LB.keep hb; replace LM := LM.keep hb; replace hP := hP.keep hb; (try replace LA := LA.keep hb); (try replace LR := LR.keep hb); (try replace hq := lkeep hb hq); replace hB := hB.trans (hb.mono hB.size); clear hb) | (go_at_call 11; (with_reducible refine (is_any SM _).mono ?_); (try clear hq); rintro e uz ⟨bq, rfl, hq, hb⟩; (with_reducible (repeat (first | replace hb := unalloc hb | replace hb := undrew3 hb))); replace rb0 := lkeep hb rb0; replace rb1 := lkeep hb rb1; replace rm0 := lkeep hb rm0; replace rm1 := lkeep hb rm1; replace LB := LB.keep hb; replace LM := LM.keep hb; replace hP := hP.keep hb; (try replace LA := LA.keep hb); (try replace LR := LR.keep hb); (try replace hq := lkeep hb hq); replace hB := hB.trans (hb.mono hB.size); clear hb) | (go_at_call 11; (with_reducible refine (is_any ⟨#[48]⟩ _).mono ?_); (try clear hq); rintro e uz ⟨bq, rfl, hq, hb⟩; (with_reducible (repeat (first | replace hb := unalloc hb | replace hb := undrew3 hb))); replace rb0 := lkeep hb rb0; replace rb1 := lkeep hb rb1; replace rm0 := lkeep hb rm0; replace rm1 := lkeep hb rm1; replace LB := LB.keep hb; replace LM := LM.keep hb; replace hP := hP.keep hb; (try replace LA := LA.keep hb); (try replace LR := LR.keep hb); (try replace hq := lkeep hb hq); replace hB := hB.trans (hb.mono hB.size); clear hb) | (go_at_call 33; (with_reducible refine (fails1_true 6 bq _ hq).mono ?_); rintro e uz ⟨rfl, hb⟩; (with_reducible (repeat (first | replace hb := unalloc hb | replace hb := undrew3 hb))); replace rb0 := lkeep hb rb0; replace rb1 := lkeep hb rb1; replace rm0 := lkeep hb rm0; replace rm1 := lkeep hb rm1; replace LB := LB.keep hb; replace LM := LM.keep hb; replace hP := hP.keep hb; (try replace LA := LA.keep hb); (try replace LR := LR.keep hb); (try replace hq := lkeep hb hq); replace hB := hB.trans (hb.mono hB.size); clear hb) | (go_at_call 37; (with_reducible refine (hisN _ bq _ LR hP hq).mono ?_); rintro e uz ⟨rfl, hb⟩; (with_reducible (repeat (first | replace hb := unalloc hb | replace hb := undrew3 hb))); replace rb0 := lkeep hb rb0; replace rb1 := lkeep hb rb1; replace rm0 := lkeep hb rm0; replace rm1 := lkeep hb rm1; replace LB := LB.keep hb; replace LM := LM.keep hb; replace hP := hP.keep hb; (try replace LA := LA.keep hb); (try replace LR := LR.keep hb); (try replace hq := lkeep hb hq); replace hB := hB.trans (hb.mono hB.size); clear hb) | (go_at_call 37; (with_reducible refine (hisM _ bq _ LR hP hq).mono ?_); rintro e uz ⟨rfl, hb⟩; (with_reducible (repeat (first | replace hb := unalloc hb | replace hb := undrew3 hb))); replace rb0 := lkeep hb rb0; replace rb1 := lkeep hb rb1; replace rm0 := lkeep hb rm0; replace rm1 := lkeep hb rm1; replace LB := LB.keep hb; replace LM := LM.keep hb; replace hP := hP.keep hb; (try replace LA := LA.keep hb); (try replace LR := LR.keep hb); (try replace hq := lkeep hb hq); replace hB := hB.trans (hb.mono hB.size); clear hb) | (go_at_call 37; (with_reducible refine (his0 _ bq _ LR hP hq).mono ?_); rintro e uz ⟨rfl, hb⟩; (with_reducible (repeat (first | replace hb := unalloc hb | replace hb := undrew3 hb))); replace rb0 := lkeep hb rb0; replace rb1 := lkeep hb rb1; replace rm0 := lkeep hb rm0; replace rm1 := lkeep hb rm1; replace LB := LB.keep hb; replace LM := LM.keep hb; replace hP := hP.keep hb; (try replace LA := LA.keep hb); (try replace LR := LR.keep hb); (try replace hq := lkeep hb hq); replace hB := hB.trans (hb.mono hB.size); clear hb) | (go_at_call 12; (with_reducible refine (lk_add1 _ _ _ LM LA).mono ?_); rintro e uz ⟨rfl, hb⟩; (with_reducible (repeat (first | replace hb := unalloc hb | replace hb := undrew3 hb))); replace rb0 := lkeep hb rb0; replace rb1 := lkeep hb rb1; replace rm0 := lkeep hb rm0; replace rm1 := lkeep hb rm1; replace LB := LB.keep hb; replace LM := LM.keep hb; replace hP := hP.keep hb; (try replace LA := LA.keep hb); (try replace LR := LR.keep hb); (try replace hq := lkeep hb hq); replace hB := hB.trans (hb.mono hB.size); clear hb) | (go_at_call 12; (with_reducible refine (lk_add0 _ _ _ LM LA).mono ?_); (try clear LR); rintro e uz ⟨⟨pR, aR, nR, kR, rfl, LR⟩, hb⟩; (with_reducible (repeat (first | replace hb := unalloc hb | replace hb := undrew3 hb))); replace rb0 := lkeep hb rb0; replace rb1 := lkeep hb rb1; replace rm0 := lkeep hb rm0; replace rm1 := lkeep hb rm1; replace LB := LB.keep hb; replace LM := LM.keep hb; replace hP := hP.keep hb; (try replace LA := LA.keep hb); (try replace LR := LR.keep hb); (try replace hq := lkeep hb hq); replace hB := hB.trans (hb.mono hB.size); clear hb) | (go_at_call 13; (with_reducible refine (lk_subMM _ _ _ LM LM).mono ?_); (try clear LR); rintro e uz ⟨⟨pR, aR, nR, kR, rfl, LR⟩, hb⟩; (with_reducible (repeat (first | replace hb := unalloc hb | replace hb := undrew3 hb))); replace rb0 := lkeep hb rb0; replace rb1 := lkeep hb rb1; replace rm0 := lkeep hb rm0; replace rm1 := lkeep hb rm1; replace LB := LB.keep hb; replace LM := LM.keep hb; replace hP := hP.keep hb; (try replace LA := LA.keep hb); (try replace LR := LR.keep hb); (try replace hq := lkeep hb hq); replace hB := hB.trans (hb.mono hB.size); clear hb) | (go_at_call 13; (with_reducible refine (lk_subm1 _ _ _ LA LM).mono ?_); rintro e uz ⟨rfl, hb⟩; (with_reducible (repeat (first | replace hb := unalloc hb | replace hb := undrew3 hb))); replace rb0 := lkeep hb rb0; replace rb1 := lkeep hb rb1; replace rm0 := lkeep hb rm0; replace rm1 := lkeep hb rm1; replace LB := LB.keep hb; replace LM := LM.keep hb; replace hP := hP.keep hb; (try replace LA := LA.keep hb); (try replace LR := LR.keep hb); (try replace hq := lkeep hb hq); replace hB := hB.trans (hb.mono hB.size); clear hb) | (go_at_call 14; (with_reducible refine (lk_mul2 _ _ _ LM LA).mono ?_); rintro e uz ⟨rfl, hb⟩; (with_reducible (repeat (first | replace hb := unalloc hb | replace hb := undrew3 hb))); replace rb0 := lkeep hb rb0; replace rb1 := lkeep hb rb1; replace rm0 := lkeep hb rm0; replace rm1 := lkeep hb rm1; replace LB := LB.keep hb; replace LM := LM.keep hb; replace hP := hP.keep hb; (try replace LA := LA.keep hb); (try replace LR := LR.keep hb); (try replace hq := lkeep hb hq); replace hB := hB.trans (hb.mono hB.size); clear hb) | (go_at_call 14; (with_reducible refine (lk_mulm1 _ _ _ LM LA).mono ?_); (try clear LR); rintro e uz ⟨⟨pR, aR, nR, kR, rfl, LR⟩, hb⟩; (with_reducible (repeat (first | replace hb := unalloc hb | replace hb := undrew3 hb))); replace rb0 := lkeep hb rb0; replace rb1 := lkeep hb rb1; replace rm0 := lkeep hb rm0; replace rm1 := lkeep hb rm1; replace LB := LB.keep hb; replace LM := LM.keep hb; replace hP := hP.keep hb; (try replace LA := LA.keep hb); (try replace LR := LR.keep hb); (try replace hq := lkeep hb hq); replace hB := hB.trans (hb.mono hB.size); clear hb) | (go_at_call 15; (with_reducible refine (lk_negM _ _ LM).mono ?_); (try clear LR); rintro e uz ⟨⟨pR, aR, nR, kR, rfl, LR⟩, hb⟩; (with_reducible (repeat (first | replace hb := unalloc hb | replace hb := undrew3 hb))); replace rb0 := lkeep hb rb0; replace rb1 := lkeep hb rb1; replace rm0 := lkeep hb rm0; replace rm1 := lkeep hb rm1; replace LB := LB.keep hb; replace LM := LM.keep hb; replace hP := hP.keep hb; (try replace LA := LA.keep hb); (try replace LR := LR.keep hb); (try replace hq := lkeep hb hq); replace hB := hB.trans (hb.mono hB.size); clear hb) | (go_at_call 15; (with_reducible refine (lk_neg0 _).mono ?_); (try clear LR); rintro e uz ⟨⟨pR, aR, nR, kR, rfl, LR⟩, hb⟩; (with_reducible (repeat (first | replace hb := unalloc hb | replace hb := undrew3 hb))); replace rb0 := lkeep hb rb0; replace rb1 := lkeep hb rb1; replace rm0 := lkeep hb rm0; replace rm1 := lkeep hb rm1; replace LB := LB.keep hb; replace LM := LM.keep hb; replace hP := hP.keep hb; (try replace LA := LA.keep hb); (try replace LR := LR.keep hb); (try replace hq := lkeep hb hq); replace hB := hB.trans (hb.mono hB.size); clear hb))
    go_wp2_with fail
    as_aux_lemma =>
      go_region_held3 (fun w' => w'.cell? ⟨g1, 0, none⟩ = some (.bool false) ∧ w'.cell? ⟨g1, 1, none⟩ = some (.slice (some ⟨g0, 0, none⟩) 1 1) ∧ w'.cell? ⟨g3, 0, none⟩ = some (.bool false) ∧ w'.cell? ⟨g3, 1, none⟩ = some (.slice aM 600 kM))
        ((first | exact ⟨rb0, rb1, rm0, rm1⟩))
        (first | (go_at_call 9; (with_reducible refine (fails_any 30 _).mono ?_); (try clear hq); rintro e uz ⟨bq, rfl, hq, hb⟩; (with_reducible (repeat (first | replace hb := unalloc hb | replace hb := undrew3 hb))); replace rb0 := lkeep hb rb0; replace rb1 := lkeep hb rb1; replace rm0 := lkeep hb rm0; replace rm1 := lkeep hb rm1; replace LB := LB.keep hb; replace LM := LM.keep hb; replace hP := hP.keep hb; (try replace LA := LA.keep hb); (try replace LR := LR.keep hb); (try replace hq := lkeep hb hq); replace hB := hB.trans (hb.mono hB.size); clear hb) | (go_at_call 11; (with_reducible refine (is_any ⟨#[48]⟩ _).mono ?_); (try clear hq); rintro e uz ⟨bq, rfl, hq, hb⟩; (with_reducible (repeat (first | replace hb := unalloc hb | replace hb := undrew3 hb))); replace rb0 := lkeep hb rb0; replace rb1 := lkeep hb rb1; replace rm0 := lkeep hb rm0; replace rm1 := lkeep hb rm1; replace LB := LB.keep hb; replace LM := LM.keep hb; replace hP := hP.keep hb; (try replace LA := LA.keep hb); (try replace LR := LR.keep hb); (try replace hq := lkeep hb hq); replace hB := hB.trans (hb.mono hB.size); clear hb) | (go_at_call 11; (with_reducible refine (is_any SH _).mono ?_); (try clear hq); rintro e uz ⟨bq, rfl, hq, hb⟩; (with_reducible (repeat (first | replace hb := unalloc hb | replace hb := undrew3 hb))); replace rb0 := lkeep hb rb0; replace rb1 := lkeep hb rb1; replace rm0 := lkeep hb rm0; replace rm1 := lkeep hb rm1; replace LB := LB.keep hb; replace LM := LM.keep hb; replace hP := hP.keep hb; (try replace LA := LA.keep hb); (try replace LR := LR.keep hb); (try replace hq := lkeep hb hq); replace hB := hB.trans (hb.mono hB.size); clear hb) | (go_at_call 11; (with_reducible refine (is_any SN _).mono ?_); (try clear hq); rintro e uz ⟨bq, rfl, hq, hb⟩; (with_reducible (repeat (first | replace hb := unalloc hb | replace hb := undrew3 hb))); replace rb0 := lkeep hb rb0; replace rb1 := lkeep hb rb1; replace rm0 := lkeep hb rm0; replace rm1 := lkeep hb rm1; replace LB := LB.keep hb; replace LM := LM.keep hb; replace hP := hP.keep hb; (try replace LA := LA.keep hb); (try replace LR := LR.keep hb); (try replace hq := lkeep hb hq); replace hB := hB.trans (hb.mono hB.size); clear hb) | (go_at_call 33; (with_reducible refine (fails1_true 30 bq _ hq).mono ?_); rintro e uz ⟨rfl, hb⟩; (with_reducible (repeat (first | replace hb := unalloc hb | replace hb := undrew3 hb))); replace rb0 := lkeep hb rb0; replace rb1 := lkeep hb rb1; replace rm0 := lkeep hb rm0; replace rm1 := lkeep hb rm1; replace LB := LB.keep hb; replace LM := LM.keep hb; replace hP := hP.keep hb; (try replace LA := LA.keep hb); (try replace LR := LR.keep hb); (try replace hq := lkeep hb hq); replace hB := hB.trans (hb.mono hB.size); clear hb) | (go_at_call 37; (with_reducible refine (his0 _ bq _ LR hP hq).mono ?_); rintro e uz ⟨rfl, hb⟩; (with_reducible (repeat (first | replace hb := unalloc hb | replace hb := undrew3 hb))); replace rb0 := lkeep hb rb0; replace rb1 := lkeep hb rb1; replace rm0 := lkeep hb rm0; replace rm1 := lkeep hb rm1; replace LB := LB.keep hb; replace LM := LM.keep hb; replace hP := hP.keep hb; (try replace LA := LA.keep hb); (try replace LR := LR.keep hb); (try replace hq := lkeep hb hq); replace hB := hB.trans (hb.mono hB.size); clear hb) | (go_at_call 37; (with_reducible refine (hisH _ bq _ LR hP hq).mono ?_); rintro e uz ⟨rfl, hb⟩; (with_reducible (repeat (first | replace hb := unalloc hb | replace hb := undrew3 hb))); replace rb0 := lkeep hb rb0; replace rb1 := lkeep hb rb1; replace rm0 := lkeep hb rm0; replace rm1 := lkeep hb rm1; replace LB := LB.keep hb; replace LM := LM.keep hb; replace hP := hP.keep hb; (try replace LA := LA.keep hb); (try replace LR := LR.keep hb); (try replace hq := lkeep hb hq); replace hB := hB.trans (hb.mono hB.size); clear hb) | (go_at_call 37; (with_reducible refine (hisN _ bq _ LR hP hq).mono ?_); rintro e uz ⟨rfl, hb⟩; (with_reducible (repeat (first | replace hb := unalloc hb | replace hb := undrew3 hb))); replace rb0 := lkeep hb rb0; replace rb1 := lkeep hb rb1; replace rm0 := lkeep hb rm0; replace rm1 := lkeep hb rm1; replace LB := LB.keep hb; replace LM := LM.keep hb; replace hP := hP.keep hb; (try replace LA := LA.keep hb); (try replace LR := LR.keep hb); (try replace hq := lkeep hb hq); replace hB := hB.trans (hb.mono hB.size); clear hb) | (go_at_call 12; (with_reducible refine (lk_addB1 _ _ _ LB LM).mono ?_); rintro e uz ⟨rfl, hb⟩; (with_reducible (repeat (first | replace hb := unalloc hb | replace hb := undrew3 hb))); replace rb0 := lkeep hb rb0; replace rb1 := lkeep hb rb1; replace rm0 := lkeep hb rm0; replace rm1 := lkeep hb rm1; replace LB := LB.keep hb; replace LM := LM.keep hb; replace hP := hP.keep hb; (try replace LA := LA.keep hb); (try replace LR := LR.keep hb); (try replace hq := lkeep hb hq); replace hB := hB.trans (hb.mono hB.size); clear hb) | (go_at_call 12; (with_reducible refine (lk_addB2 _ _ _ LB LM).mono ?_); rintro e uz ⟨rfl, hb⟩; (with_reducible (repeat (first | replace hb := unalloc hb | replace hb := undrew3 hb))); replace rb0 := lkeep hb rb0; replace rb1 := lkeep hb rb1; replace rm0 := lkeep hb rm0; replace rm1 := lkeep hb rm1; replace LB := LB.keep hb; replace LM := LM.keep hb; replace hP := hP.keep hb; (try replace LA := LA.keep hb); (try replace LR := LR.keep hb); (try replace hq := lkeep hb hq); replace hB := hB.trans (hb.mono hB.size); clear hb) | (go_at_call 15; (with_reducible refine (lk_negB _ _ LB).mono ?_); rintro e uz ⟨rfl, hb⟩; (with_reducible (repeat (first | replace hb := unalloc hb | replace hb := undrew3 hb))); replace rb0 := lkeep hb rb0; replace rb1 := lkeep hb rb1; replace rm0 := lkeep hb rm0; replace rm1 := lkeep hb rm1; replace LB := LB.keep hb; replace LM := LM.keep hb; replace hP := hP.keep hb; (try replace LA := LA.keep hb); (try replace LR := LR.keep hb); (try replace hq := lkeep hb hq); replace hB := hB.trans (hb.mono hB.size); clear hb) | (go_at_call 16; (with_reducible refine (lk_sqrtB _ _ LB).mono ?_); rintro e uz ⟨rfl, hb⟩; (with_reducible (repeat (first | replace hb := unalloc hb | replace hb := undrew3 hb))); replace rb0 := lkeep hb rb0; replace rb1 := lkeep hb rb1; replace rm0 := lkeep hb rm0; replace rm1 := lkeep hb rm1; replace LB := LB.keep hb; replace LM := LM.keep hb; replace hP := hP.keep hb; (try replace LA := LA.keep hb); (try replace LR := LR.keep hb); (try replace hq := lkeep hb hq); replace hB := hB.trans (hb.mono hB.size); clear hb) | (go_at_call 17; (with_reducible refine (lk_gcdB _ _ LB).mono ?_); rintro e uz ⟨rfl, hb⟩; (with_reducible (repeat (first | replace hb := unalloc hb | replace hb := undrew3 hb))); replace rb0 := lkeep hb rb0; replace rb1 := lkeep hb rb1; replace rm0 := lkeep hb rm0; replace rm1 := lkeep hb rm1; replace LB := LB.keep hb; replace LM := LM.keep hb; replace hP := hP.keep hb; (try replace LA := LA.keep hb); (try replace LR := LR.keep hb); (try replace hq := lkeep hb hq); replace hB := hB.trans (hb.mono hB.size); clear hb) | (go_at_call 16; (with_reducible refine (lk_sqrt0 _).mono ?_); (try clear LR); rintro e uz ⟨⟨pR, aR, nR, kR, rfl, LR⟩, hb⟩; (with_reducible (repeat (first | replace hb := unalloc hb | replace hb := undrew3 hb))); replace rb0 := lkeep hb rb0; replace rb1 := lkeep hb rb1; replace rm0 := lkeep hb rm0; replace rm1 := lkeep hb rm1; replace LB := LB.keep hb; replace LM := LM.keep hb; replace hP := hP.keep hb; (try replace LA := LA.keep hb); (try replace LR := LR.keep hb); (try replace hq := lkeep hb hq); replace hB := hB.trans (hb.mono hB.size); clear hb) | (go_at_call 16; (with_reducible refine (lk_sqrtM _ _ LM).mono ?_); (try clear LR); rintro e uz ⟨⟨pR, aR, nR, kR, rfl, LR⟩, hb⟩; (with_reducible (repeat (first | replace hb := unalloc hb | replace hb := undrew3 hb))); replace rb0 := lkeep hb rb0; replace rb1 := lkeep hb rb1; replace rm0 := lkeep hb rm0; replace rm1 := lkeep hb rm1; replace LB := LB.keep hb; replace LM := LM.keep hb; replace hP := hP.keep hb; (try replace LA := LA.keep hb); (try replace LR := LR.keep hb); (try replace hq := lkeep hb hq); replace hB := hB.trans (hb.mono hB.size); clear hb) | (go_at_call 17; (with_reducible refine (lk_gcdM _ _ LM).mono ?_); (try clear LR); rintro e uz ⟨⟨pR, aR, nR, kR, rfl, LR⟩, hb⟩; (with_reducible (repeat (first | replace hb := unalloc hb | replace hb := undrew3 hb))); replace rb0 := lkeep hb rb0; replace rb1 := lkeep hb rb1; replace rm0 := lkeep hb rm0; replace rm1 := lkeep hb rm1; replace LB := LB.keep hb; replace LM := LM.keep hb; replace hP := hP.keep hb; (try replace LA := LA.keep hb); (try replace LR := LR.keep hb); (try replace hq := lkeep hb hq); replace hB := hB.trans (hb.mono hB.size); clear hb) | (go_at_call 5; (with_reducible refine (hrep2 _).mono ?_); rintro e uz ⟨rfl, hb⟩; (with_reducible (repeat (first | replace hb := unalloc hb | replace hb := undrew3 hb))); replace rb0 := lkeep hb rb0; replace rb1 := lkeep hb rb1; replace rm0 := lkeep hb rm0; replace rm1 := lkeep hb rm1; replace LB := LB.keep hb; replace LM := LM.keep hb; replace hP := hP.keep hb; (try replace LA := LA.keep hb); (try replace LR := LR.keep hb); (try replace hq := lkeep hb hq); replace hB := hB.trans (hb.mono hB.size); clear hb))
      clear LA LR hq
      as_aux_lemma =>
        go_wp2_with fail
        go_at_call 18
        refine (hd1 _ hP).mono ?_
        rintro e v18 ⟨rfl, hb⟩
        (with_reducible (repeat (first | replace hb := unalloc hb | replace hb := undrew3 hb)))
        replace rb0 := lkeep hb rb0
        replace rb1 := lkeep hb rb1
        replace rm0 := lkeep hb rm0
        replace rm1 := lkeep hb rm1
        replace LB := LB.keep hb
        replace LM := LM.keep hb
        replace hP := hP.keep hb
        replace hB := hB.trans (hb.mono hB.size)
        clear hb
        go_wp2_with fail
        go_at_call 18
        refine (hd2 _ hP).mono ?_
        rintro e v19 ⟨rfl, hb⟩
        (with_reducible (repeat (first | replace hb := unalloc hb | replace hb := undrew3 hb)))
        replace rb0 := lkeep hb rb0
        replace rb1 := lkeep hb rb1
        replace rm0 := lkeep hb rm0
        replace rm1 := lkeep hb rm1
        replace LB := LB.keep hb
        replace LM := LM.keep hb
        replace hP := hP.keep hb
        replace hB := hB.trans (hb.mono hB.size)
        clear hb
        go_wp2_with fail
        go_at_call 18
        refine (divides_true [48] [45, 51] [48] [48] (0) (-3) _ (.inl ⟨rfl, rfl⟩) (.inr (.inl ⟨[51], rfl, by decide, by decide, by decide⟩)) (by decide) (.inl ⟨rfl, rfl⟩) (.inl ⟨rfl, rfl⟩) hP).mono ?_
        rintro e v20 ⟨rfl, hb⟩
        (with_reducible (repeat (first | replace hb := unalloc hb | replace hb := undrew3 hb)))
        replace rb0 := lkeep hb rb0
        replace rb1 := lkeep hb rb1
        replace rm0 := lkeep hb rm0
        replace rm1 := lkeep hb rm1
        replace LB := LB.keep hb
        replace LM := LM.keep hb
        replace hP := hP.keep hb
        replace hB := hB.trans (hb.mono hB.size)
        clear hb
        go_wp2_with fail
        go_at_call 18
        refine (divides_true [57, 57, 57, 57, 57, 57, 57, 57, 57, 57, 57, 57, 57, 57, 57, 57, 57, 57] [57, 57, 57, 57, 57, 57, 57, 57, 57] [49, 48, 48, 48, 48, 48, 48, 48, 48, 49] [48] (999999999999999999) (999999999) _ (.inr (.inr ⟨by decide, by decide, by decide⟩)) (.inr (.inr ⟨by decide, by decide, by decide⟩)) (by decide) (.inr (.inr ⟨by decide, by decide, by decide⟩)) (.inl ⟨rfl, rfl⟩) hP).mono ?_
        rintro e v21 ⟨rfl, hb⟩
        (with_reducible (repeat (first | replace hb := unalloc hb | replace hb := undrew3 hb)))
        replace rb0 := lkeep hb rb0
        replace rb1 := lkeep hb rb1
        replace rm0 := lkeep hb rm0
        replace rm1 := lkeep hb rm1
        replace LB := LB.keep hb
        replace LM := LM.keep hb
        replace hP := hP.keep hb
        replace hB := hB.trans (hb.mono hB.size)
        clear hb
        go_wp2_with fail
        go_at_call 18
        refine (divides_true [49, 48, 48, 48, 48, 48, 48, 48, 48, 48, 48, 48, 48, 48, 48, 48, 48, 48, 48] [49, 48, 48, 48, 48, 48, 48, 48, 48, 49] [57, 57, 57, 57, 57, 57, 57, 57, 57] [49] (1000000000000000000) (1000000001) _ (.inr (.inr ⟨by decide, by decide, by decide⟩)) (.inr (.inr ⟨by decide, by decide, by decide⟩)) (by decide) (.inr (.inr ⟨by decide, by decide, by decide⟩)) (.inr (.inr ⟨by decide, by decide, by decide⟩)) hP).mono ?_
        rintro e v22 ⟨rfl, hb⟩
        (with_reducible (repeat (first | replace hb := unalloc hb | replace hb := undrew3 hb)))
        replace rb0 := lkeep hb rb0
        replace rb1 := lkeep hb rb1
        replace rm0 := lkeep hb rm0
        replace rm1 := lkeep hb rm1
        replace LB := LB.keep hb
        replace LM := LM.keep hb
        replace hP := hP.keep hb
        replace hB := hB.trans (hb.mono hB.size)
        clear hb
        go_wp2_with fail
        go_at_call 18
        refine (divides_true [52, 57, 57, 57, 57, 57, 57, 57, 57, 53, 48, 48, 48, 48, 48, 48, 48, 48, 48, 48, 48, 48, 48, 48, 48, 48, 48, 57, 57, 57, 57, 57, 57, 57, 57, 56] [53, 48, 48, 48, 48, 48, 48, 48, 48, 48, 48, 48, 48, 48, 48, 48, 48, 48, 48, 48, 48, 48, 48, 48, 48, 48, 49] [57, 57, 57, 57, 57, 57, 57, 57, 56] [53, 48, 48, 48, 48, 48, 48, 48, 48, 48, 48, 48, 48, 48, 48, 48, 48, 48, 48, 48, 48, 48, 48, 48, 48, 48, 48] (499999999500000000000000000999999998) (500000000000000000000000001) _ (.inr (.inr ⟨by decide, by decide, by decide⟩)) (.inr (.inr ⟨by decide, by decide, by decide⟩)) (by decide) (.inr (.inr ⟨by decide, by decide, by decide⟩)) (.inr (.inr ⟨by decide, by decide, by decide⟩)) hP).mono ?_
        rintro e v23 ⟨rfl, hb⟩
        (with_reducible (repeat (first | replace hb := unalloc hb | replace hb := undrew3 hb)))
        replace rb0 := lkeep hb rb0
        replace rb1 := lkeep hb rb1
        replace rm0 := lkeep hb rm0
        replace rm1 := lkeep hb rm1
        replace LB := LB.keep hb
        replace LM := LM.keep hb
        replace hP := hP.keep hb
        replace hB := hB.trans (hb.mono hB.size)
        clear hb
        go_wp2_with fail
        go_at_call 19
        refine (lk_divB1 _ _ LB).mono ?_
        rintro e v24 ⟨rfl, hb⟩
        (with_reducible (repeat (first | replace hb := unalloc hb | replace hb := undrew3 hb)))
        replace rb0 := lkeep hb rb0
        replace rb1 := lkeep hb rb1
        replace rm0 := lkeep hb rm0
        replace rm1 := lkeep hb rm1
        replace LB := LB.keep hb
        replace LM := LM.keep hb
        replace hP := hP.keep hb
        replace hB := hB.trans (hb.mono hB.size)
        clear hb
        have lt1 := World.block_lt_of_cell? _ _ rb0
        have lt3 := World.block_lt_of_cell? _ _ rm0
        simp only [] at lt1 lt3
        go_wp2_with fail
        go_at_call 19
        refine (lk_divB2 _ _ (LB.keep (by (repeat (first | with_reducible exact Below.refl _ _ | with_reducible assumption | refine Below.alloc ?_ (by (try simp); try omega) _ | refine Below.setCell ?_ (by (try simp); try omega) _ | refine below_drewN ?_ _ | refine Below.drew ?_ | (with_reducible refine Below.trans ?_ (Below.mono (by assumption) (by (try simp); try omega)))))))).mono ?_
        rintro e v25 ⟨rfl, hb⟩
        (with_reducible (repeat (first | replace hb := unalloc hb | replace hb := undrew3 hb)))
        replace rb0 := lkeep hb rb0
        replace rb1 := lkeep hb rb1
        replace rm0 := lkeep hb rm0
        replace rm1 := lkeep hb rm1
        replace LB := LB.keep hb
        replace LM := LM.keep hb
        replace hP := hP.keep hb
        replace hB := hB.trans (hb.mono hB.size)
        clear hb
        clear lt1 lt3
        have lt1 := World.block_lt_of_cell? _ _ rb0
        have lt3 := World.block_lt_of_cell? _ _ rm0
        simp only [] at lt1 lt3
        go_wp2_with fail
        go_at_call 6
        refine (of_num [45, 57, 50, 50, 51, 51, 55, 50, 48, 51, 54, 56, 53, 52, 55, 55, 53, 56, 48, 56] (-9223372036854775808) _ (.inr (.inl ⟨[57, 50, 50, 51, 51, 55, 50, 48, 51, 54, 56, 53, 52, 55, 55, 53, 56, 48, 56], rfl, by decide, by decide, by decide⟩))).mono ?_
        rintro e v26 ⟨⟨pA, aA, nA, kA, rfl, LA⟩, hb⟩
        (with_reducible (repeat (first | replace hb := unalloc hb | replace hb := undrew3 hb)))
        replace rb0 := lkeep hb rb0
        replace rb1 := lkeep hb rb1
        replace rm0 := lkeep hb rm0
        replace rm1 := lkeep hb rm1
        replace LB := LB.keep hb
        replace LM := LM.keep hb
        replace hP := hP.keep hb
        replace hB := hB.trans (hb.mono hB.size)
        clear hb
        go_wp2_with fail
        go_at_call 20
        refine (int_num _ (-9223372036854775808) _ LA (PText.len (show PText [45, 57, 50, 50, 51, 51, 55, 50, 48, 51, 54, 56, 53, 52, 55, 55, 53, 56, 48, 56] (-9223372036854775808) from .inr (.inl ⟨[57, 50, 50, 51, 51, 55, 50, 48, 51, 54, 56, 53, 52, 55, 55, 53, 56, 48, 56], rfl, by decide, by decide, by decide⟩)))).mono ?_
        rintro e v27 ⟨rfl, hb⟩
        (with_reducible (repeat (first | replace hb := unalloc hb | replace hb := undrew3 hb)))
        replace rb0 := lkeep hb rb0
        replace rb1 := lkeep hb rb1
        replace rm0 := lkeep hb rm0
        replace rm1 := lkeep hb rm1
        replace LB := LB.keep hb
        replace LM := LM.keep hb
        replace hP := hP.keep hb
        replace hB := hB.trans (hb.mono hB.size)
        clear hb
        clear LA
        rw [show intR (-9223372036854775808) = (-9223372036854775808, 0) from rfl]
        go_wp2_with fail
        go_at_call 6
        refine (of_num [45, 57, 50, 50, 51, 51, 55, 50, 48, 51, 54, 56, 53, 52, 55, 55, 53, 56, 48, 57] (-9223372036854775809) _ (.inr (.inl ⟨[57, 50, 50, 51, 51, 55, 50, 48, 51, 54, 56, 53, 52, 55, 55, 53, 56, 48, 57], rfl, by decide, by decide, by decide⟩))).mono ?_
        rintro e v28 ⟨⟨pA, aA, nA, kA, rfl, LA⟩, hb⟩
        (with_reducible (repeat (first | replace hb := unalloc hb | replace hb := undrew3 hb)))
        replace rb0 := lkeep hb rb0
        replace rb1 := lkeep hb rb1
        replace rm0 := lkeep hb rm0
        replace rm1 := lkeep hb rm1
        replace LB := LB.keep hb
        replace LM := LM.keep hb
        replace hP := hP.keep hb
        replace hB := hB.trans (hb.mono hB.size)
        clear hb
        go_wp2_with fail
        go_at_call 20
        refine (int_num _ (-9223372036854775809) _ LA (PText.len (show PText [45, 57, 50, 50, 51, 51, 55, 50, 48, 51, 54, 56, 53, 52, 55, 55, 53, 56, 48, 57] (-9223372036854775809) from .inr (.inl ⟨[57, 50, 50, 51, 51, 55, 50, 48, 51, 54, 56, 53, 52, 55, 55, 53, 56, 48, 57], rfl, by decide, by decide, by decide⟩)))).mono ?_
        rintro e v29 ⟨rfl, hb⟩
        (with_reducible (repeat (first | replace hb := unalloc hb | replace hb := undrew3 hb)))
        replace rb0 := lkeep hb rb0
        replace rb1 := lkeep hb rb1
        replace rm0 := lkeep hb rm0
        replace rm1 := lkeep hb rm1
        replace LB := LB.keep hb
        replace LM := LM.keep hb
        replace hP := hP.keep hb
        replace hB := hB.trans (hb.mono hB.size)
        clear hb
        clear LA
        rw [show intR (-9223372036854775809) = (0, 6) from rfl]
        go_wp2_with fail
        go_at_call 20
        refine (lk_intB _ _ LB).mono ?_
        rintro e v30 ⟨rfl, hb⟩
        (with_reducible (repeat (first | replace hb := unalloc hb | replace hb := undrew3 hb)))
        replace rb0 := lkeep hb rb0
        replace rb1 := lkeep hb rb1
        replace rm0 := lkeep hb rm0
        replace rm1 := lkeep hb rm1
        replace LB := LB.keep hb
        replace LM := LM.keep hb
        replace hP := hP.keep hb
        replace hB := hB.trans (hb.mono hB.size)
        clear hb
        as_aux_lemma =>
          go_wp2_with fail
          go_at_call 21
          refine (lk_textB _ _ LB).mono ?_
          rintro e v31 ⟨rfl, hb⟩
          (with_reducible (repeat (first | replace hb := unalloc hb | replace hb := undrew3 hb)))
          replace rb0 := lkeep hb rb0
          replace rb1 := lkeep hb rb1
          replace rm0 := lkeep hb rm0
          replace rm1 := lkeep hb rm1
          replace LB := LB.keep hb
          replace LM := LM.keep hb
          replace hP := hP.keep hb
          replace hB := hB.trans (hb.mono hB.size)
          clear hb
          go_wp2_with fail
          go_at_call 22
          refine (lk_cmpB _ _ LB).mono ?_
          rintro e v32 ⟨rfl, hb⟩
          (with_reducible (repeat (first | replace hb := unalloc hb | replace hb := undrew3 hb)))
          replace rb0 := lkeep hb rb0
          replace rb1 := lkeep hb rb1
          replace rm0 := lkeep hb rm0
          replace rm1 := lkeep hb rm1
          replace LB := LB.keep hb
          replace LM := LM.keep hb
          replace hP := hP.keep hb
          replace hB := hB.trans (hb.mono hB.size)
          clear hb
          go_wp2_with fail
          go_at_call 4
          refine (works_true _ hP).mono ?_
          rintro e v33 ⟨rfl, hb⟩
          (with_reducible (repeat (first | replace hb := unalloc hb | replace hb := undrew3 hb)))
          replace rb0 := lkeep hb rb0
          replace rb1 := lkeep hb rb1
          replace rm0 := lkeep hb rm0
          replace rm1 := lkeep hb rm1
          replace LB := LB.keep hb
          replace LM := LM.keep hb
          replace hP := hP.keep hb
          replace hB := hB.trans (hb.mono hB.size)
          clear hb
          go_wp2_with fail
          go_at_call 23
          refine (lk_sameBB _ _ LB).mono ?_
          rintro e v34 ⟨rfl, hb⟩
          (with_reducible (repeat (first | replace hb := unalloc hb | replace hb := undrew3 hb)))
          replace rb0 := lkeep hb rb0
          replace rb1 := lkeep hb rb1
          replace rm0 := lkeep hb rm0
          replace rm1 := lkeep hb rm1
          replace LB := LB.keep hb
          replace LM := LM.keep hb
          replace hP := hP.keep hb
          replace hB := hB.trans (hb.mono hB.size)
          clear hb
          go_wp2_with fail
          go_at_call 23
          refine (lk_sameB0 _ _ LB).mono ?_
          rintro e v35 ⟨rfl, hb⟩
          (with_reducible (repeat (first | replace hb := unalloc hb | replace hb := undrew3 hb)))
          replace rb0 := lkeep hb rb0
          replace rb1 := lkeep hb rb1
          replace rm0 := lkeep hb rm0
          replace rm1 := lkeep hb rm1
          replace LB := LB.keep hb
          replace LM := LM.keep hb
          replace hP := hP.keep hb
          replace hB := hB.trans (hb.mono hB.size)
          clear hb
          go_wp2
          go_ret
          exact ⟨rfl, hB⟩
end Go.Proofs.YthhbnhdejbpjiaaDoor
