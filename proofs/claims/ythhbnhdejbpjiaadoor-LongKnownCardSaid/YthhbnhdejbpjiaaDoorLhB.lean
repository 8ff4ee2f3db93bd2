/-
  Walks of package long: Text.
-/
import Derived.Test.YthhbnhdejbpjiaaDoorLhA
import Derived.Lib.ItoaLen
import Derived.Test.YthhbnhdejbpjiaaDoorShelfC
namespace Go.Proofs.YthhbnhdejbpjiaaDoor
open Go.RowKit

/-- The library's table of powers of ten reads as it should. -/
def Pw (w : World) : Prop := Lib.TabIs Tryd.prog w "internal/strconv.uint64pow10" .u64 Lib.pow10Tab
theorem Pw.keep {w w' : World} (h : Pw w) (hb : Below w.heap.size w w') : Pw w' := Lib.tabBelow_of_tabIs h w' hb
theorem Pw.below {w : World} (h : Pw w) : Lib.TabBelow Tryd.prog w.heap.size w "internal/strconv.uint64pow10" .u64 Lib.pow10Tab := Lib.tabBelow_of_tabIs h

set_option maxRecDepth 100000 in
set_option maxHeartbeats 1000000 in
theorem text_zero (s1 : Value) (w : World) (h1 : Ls w s1 []) :
    Calls Tryd.prog 21 #[.agg #[.bool false, s1]] w fun e w' => e = .returned (.tuple #[.string ⟨⟨[48]⟩⟩, .int .i64 0]) ∧ Below w.heap.size w w' := by
  have hv1 : ckL false [] = 0 := by decide +kernel
  have a1 := Below.alloc (Below.refl w.heap.size w) (Nat.le_refl _) (.cells #[.bool false, s1] 25)
  have a2 := Below.alloc a1 a1.size (.cells #[.bool false, s1] 25)
  have h1' := h1
  obtain ⟨pa, ca, rfl, hca', hqa⟩ := h1
  clear hca' hqa
  have g1 : (w.alloc (.cells #[.bool false, .slice pa 0 ca] 25)).heap.size = w.heap.size + 1 := by simp
  have bA2 : Bx ((w.alloc (.cells #[.bool false, .slice pa 0 ca] 25)).alloc (.cells #[.bool false, .slice pa 0 ca] 25)) w.heap.size (.bool false) (.slice pa 0 ca) 25 := (Bx.new w _ _ _).alloc _
  have bC : Bx ((w.alloc (.cells #[.bool false, .slice pa 0 ca] 25)).alloc (.cells #[.bool false, .slice pa 0 ca] 25)) (w.heap.size + 1) (.bool false) (.slice pa 0 ca) 25 := by
    have := Bx.new (w.alloc (.cells #[.bool false, .slice pa 0 ca] 25)) (.bool false) (.slice pa 0 ca) 25
    rwa [g1] at this
  have hck := checkAll1_any false _ _ (w.heap.size + 1) _ (h1'.keep a2) (by simp) bC.c0 bC.c1
  rw [hv1] at hck
  clear bC g1
  go_enter Tryd.func21, Tryd.ntmps21
  go_wp2_with fail
  go_at_call 38
  refine hck.mono ?_
  rintro e w1 ⟨rfl, hb1⟩
  have B1 := a2.trans (hb1.mono a2.size)
  have bA1 := bA2.keep hb1
  have cA0' := bA1.c0
  have cA1' := bA1.c1
  clear hck hb1 a1 a2
  go_wp2
  go_ret2
  exact ⟨rfl, B1⟩

/-- The top digit is what is left of the number at its place. -/
theorem top_dg {x : Int} (hx : 0 < x) : x / 1000000000 ^ ((dg x).length - 1) = el (dg x) ((dg x).length - 1) := by
  have h := div_step x (by omega) ((dg x).length - 1)
  have hl := dg_len_pos hx
  rw [show (dg x).length - 1 + 1 = (dg x).length by omega, Int.ediv_eq_zero_of_lt (by omega) (dg_lt (by omega))] at h
  omega
theorem up_pos {x : Int} (hx : 0 < x) (i : Nat) (h : i < (dg x).length) : 1 ≤ x / 1000000000 ^ i := by
  have h1 := dg_ge hx
  have h2 := pow9_le (show i ≤ (dg x).length - 1 by omega)
  have h3 := pow9 i
  rw [Int.le_ediv_iff_mul_le h3]; omega
theorem tx_up {x : Int} (hx : 0 < x) (i : Nat) (h : i + 1 < (dg x).length) : tx (x / 1000000000 ^ i) = tx (x / 1000000000 ^ (i + 1)) ++ (Lib.itoa (1000000000 + el (dg x) i)).drop 1 := by
  rw [div_step x (by omega) i]
  have := (dg_dig x (by omega)).el (by omega) i
  exact tx_step _ _ (up_pos hx _ h) this.1 this.2
theorem itoa_len21 (d : Int) (h0 : 0 ≤ d) (h1 : d < 1000000000) : (Lib.itoa d).length ≤ 21 := Lib.itoa_length_le d (by omega) (by omega)
theorem own_head {w : World} {base : Nat} {e : TypeId} {v : Value} {n : Nat} {xs : List Value} (h : w.ownsRow base e 1 v n xs) (hn : 0 < n) : ∃ g cap, v = .slice (some ⟨g, 0, none⟩) n cap := by
  rcases h.2 with ⟨rfl, h0⟩ | ⟨g, cap, cur, rfl, _⟩
  · omega
  · exact ⟨g, cap, rfl⟩
theorem Tryd.infoByte : (Tryd.prog.info? 5).map (fun i => (i.zero, i.size, i.bytes)) = some (some (.int .u8 0), 1, 1) := by kernel_rfl
set_option maxRecDepth 100000 in
set_option maxHeartbeats 2000000 in
theorem text_neg (s1 : Value) (x : Int) (w : World) (x0 : 0 < x) (h1 : Ls w s1 (dg x)) (l1 : (dg x).length ≤ 600) (hP : Pw w) :
    Calls Tryd.prog 21 #[.agg #[.bool true, s1]] w fun e w' => e = .returned (.tuple #[.string ⟨⟨[45] ++ tx x⟩⟩, .int .i64 0]) ∧ Below w.heap.size w w' := by
  have hv1 : ckL true (dg x) = 0 := by
    have := ckL_num (z := -x) (by rw [show (((-x : Int)).natAbs : Int) = x by omega]; exact l1)
    rw [show (((-x : Int)).natAbs : Int) = x by omega, show decide ((-x : Int) < 0) = true by simp; omega] at this
    exact this
  have hn0 := dg_len_pos x0
  have htop : Hid (tx (x / 1000000000 ^ ((dg x).length - 1)) = Lib.itoa (el (dg x) ((dg x).length - 1))) := Lib.hid (by rw [top_dg x0, tx_itoa _ ((dg_dig x (by omega)).el (by omega) _).1])
  have hd := fun i => (dg_dig x (by omega)).el (by omega) i
  have hup := fun i => tx_up x0 i
  have hlen10 := fun i => itoa_pad_len (el (dg x) i) (hd i).1 (hd i).2
  have hlen21 := fun i => itoa_len21 (el (dg x) i) (hd i).1 (hd i).2
  have htx : tx (x / 1000000000 ^ 0) = tx x := by rw [Int.pow_zero, Int.ediv_one]
  have Hup := Lib.hid hup
  have Hl10 := Lib.hid hlen10
  have Hl21 := Lib.hid hlen21
  have Htx := Lib.hid htx
  have Hd := Lib.hid hd
  clear hup hlen10 hlen21 htx hd
  have a1 := Below.alloc (Below.refl w.heap.size w) (Nat.le_refl _) (.cells #[.bool true, s1] 25)
  have a2 := Below.alloc a1 a1.size (.cells #[.bool true, s1] 25)
  have h1' := h1
  obtain ⟨pa, ca, rfl, hca', hqa⟩ := h1
  obtain ⟨pb, po, rfl, hcell⟩ := hqa hn0
  clear hca' hqa
  have g1 : (w.alloc (.cells #[.bool true, .slice (some ⟨pb, po, none⟩) (dg x).length ca] 25)).heap.size = w.heap.size + 1 := by simp
  have bA2 : Bx ((w.alloc (.cells #[.bool true, .slice (some ⟨pb, po, none⟩) (dg x).length ca] 25)).alloc (.cells #[.bool true, .slice (some ⟨pb, po, none⟩) (dg x).length ca] 25)) w.heap.size (.bool true) (.slice (some ⟨pb, po, none⟩) (dg x).length ca) 25 := (Bx.new w _ _ _).alloc _
  have bC : Bx ((w.alloc (.cells #[.bool true, .slice (some ⟨pb, po, none⟩) (dg x).length ca] 25)).alloc (.cells #[.bool true, .slice (some ⟨pb, po, none⟩) (dg x).length ca] 25)) (w.heap.size + 1) (.bool true) (.slice (some ⟨pb, po, none⟩) (dg x).length ca) 25 := by
    have := Bx.new (w.alloc (.cells #[.bool true, .slice (some ⟨pb, po, none⟩) (dg x).length ca] 25)) (.bool true) (.slice (some ⟨pb, po, none⟩) (dg x).length ca) 25
    rwa [g1] at this
  have hck := checkAll1_any true _ _ (w.heap.size + 1) _ (h1'.keep a2) (by omega) bC.c0 bC.c1
  rw [hv1] at hck
  clear bC g1
  have hsl := fun i (hi : i < (dg x).length) => World.block_lt_of_cell? w _ (hcell i hi)
  have Hsl := Lib.hid hsl
  have Hcell := Lib.hid hcell
  clear hcell hsl
  have Hu1 := up_pos x0 ((dg x).length - 1) (by omega)
  generalize hn : (dg x).length = n at *
  clear hn
  go_enter Tryd.func21, Tryd.ntmps21
  go_wp2_with fail
  go_at_call 38
  refine hck.mono ?_
  rintro e w1 ⟨rfl, hb1⟩
  have B1 := a2.trans (hb1.mono a2.size)
  have bA1 := bA2.keep hb1
  have cA0' := bA1.c0
  have cA1' := bA1.c1
  have hP1 := hP.keep B1
  have hcell1 := fun i (hi : i < n) => (B1.cell (Hsl.out i hi)).trans (Hcell.out i hi)
  have Hcell1 := Lib.hid hcell1
  have hne : ((n : Int) == 0) = false := by simp; omega
  obtain ⟨iB, hiB, hzB0, hzB1, hzB2⟩ := info_parts Tryd.infoByte
  clear hck hb1 a1 a2 bA2 hP hcell1 Hsl Hcell
  go_wp2_with (at_make; refine wpList_make_own _ rfl _ _ 55 rfl w1.heap.size 5 iB (.int .u8 0) 1 Tryd.underlying55 hiB hzB0 hzB1 .i64 .i64 (9 * (n : Int) + 1) (9 * n + 1) rfl rfl (by omega) (by rw [hzB2]; omega) (by unfold maxLen; omega) (Nat.le_refl _) ?_)
  intro w2 hown hgrow
  have B2 : Below w1.heap.size w1 w2 := (Below.refl w1.heap.size w1).grown hgrow (Nat.le_refl _) (fun k hk => by cases hk)
  have bA2 := bA1.keep B2
  have cA0 := bA2.c0
  have cA1 := bA2.c1
  clear hgrow cA0' cA1'
  go_wp2_with (at_builtin; refine wpList_append_own _ rfl _ _ 55 rfl w1.heap.size 5 iB (.int .u8 0) 1 1 Tryd.underlying55 hiB hzB0 hzB1 hzB2 rfl (by decide) _ _ _ rfl (hown.alloc _) ⟨w2.heap.size, 0, none⟩ 1 1 [.int .u8 45] rfl rfl (one_at _ _ _) (one_cell _ _) (by unfold maxLen; omega) (by omega) (by have := B2.size; simp at this ⊢; omega) ?_)
  intro v3 w3 hown3 hgrow _
  have B3 : Below w1.heap.size w1 w3 := (B2.alloc (by have := B2.size; simpa using this) (.cells #[.int .u8 45] 5)).grown hgrow (by have := B2.size; simp at this ⊢; omega) (fun k hk => (hown.lt k hk).1)
  clear hgrow
  have B03 := B1.trans (B3.mono B1.size)
  have bA3 := bA1.keep B3
  have dA0 := bA3.c0
  have dA1 := bA3.c1
  have hcl : w3.cell? ⟨pb, po + (n - 1), none⟩ = some (.int .i64 (el (dg x) (n - 1))) := (B3.cell (by have := World.block_lt_of_cell? w1 _ (Hcell1.out (n - 1) (by omega)); simpa using this)).trans (Hcell1.out (n - 1) (by omega))
  have hdl := Hd.out (n - 1)
  have hll := Hl21.out (n - 1)
  obtain ⟨D, hD⟩ : ∃ D, el (dg x) (n - 1) = D := ⟨_, rfl⟩
  rw [hD] at hcl hdl htop hll
  have hap := Tryd.strconv_AppendInt_10 w1.heap.size 1 D (by omega) (by omega) v3 _ w3 hown3 (by have := B3.size; omega) (by omega) (hP1.below.on B3)
  clear hown hD cA0 cA1 B2 bA2 bA3
  go_wp2_with fail
  go_at_call 48
  refine hap.mono ?_
  rintro e w4 ⟨v4, rfl, hown4, hb4, _⟩
  have B4 := B3.trans hb4
  have hT0 : w4.ownsRow w1.heap.size 5 1 v4 ([45] ++ Lib.itoa D).length (Lib.byteCells ([45] ++ Lib.itoa D)) := by
    have e : ([45] ++ Lib.itoa D).length = 1 + (Lib.itoa D).length := by simp <;> omega
    rw [e]; exact hown4
  have Hpos : 0 < ([45] ++ Lib.itoa D).length := by
    have h1 := tx_form (x / 1000000000 ^ (n - 1)) Hu1
    obtain ⟨c, l, e, _⟩ := h1
    rw [← htop.out, e]; simp
  clear hap hown4 hown3 hb4 B3 B03 dA0 dA1 hcl
  go_wp2_with fail
  go_loopw [5, 7] (fun v i wr => ∃ (j : Nat) (T : List UInt8), i = .int .i64 ((j : Int) - 1) ∧ j + 1 ≤ n ∧ Hid (T = [45] ++ tx (x / 1000000000 ^ j)) ∧ 0 < T.length ∧ T.length + 9 * j ≤ 22 + 9 * n ∧ wr.ownsRow w1.heap.size 5 1 v T.length (Lib.byteCells T) ∧ Below w1.heap.size w1 wr)
    (fun _ i _ => (intOf i + 1).toNat)
  case atStart => exact ⟨n - 1, [45] ++ Lib.itoa D, by rw [show ((n - 1 : Nat) : Int) - 1 = (n : Int) - 1 - 1 by omega], by omega, Lib.hid (by rw [htop.out]), Hpos, by simp; omega, hT0, B4⟩
  case round =>
    obtain ⟨j, T, rfl, hjn, hT, hT0', hTl, hown, hB⟩ := hrel
    clear hT0 B4 htop hll Hpos
    by_cases hj : j = 0
    · subst hj
      have hv := hown
      obtain ⟨g, cap, rfl⟩ := own_head hown hT0'
      have hcv := run_convert_bytes_back wr 55 9 5 ⟨g, 0, none⟩ cap T Tryd.underlying55 Tryd.underlying5 Tryd.underlying9 (fun i hi => by
        rw [Lib.add_plain]
        have := hv.cellAt i (by omega)
        simpa [Lib.byteCells, hi] using this)
      have B0 := B1.trans (hB.mono B1.size)
      have HT : Hid (T = [45] ++ tx x) := Lib.hid (by rw [hT.out, Htx.out])
      clear hown hv hT hT0' hTl hjn hB Hcell1
      go_wp2
      go_ret2
      exact ⟨by rw [HT.out]; rfl, B0⟩
    · obtain ⟨k, rfl⟩ : ∃ k, j = k + 1 := ⟨j - 1, by omega⟩
      have hcl : wr.cell? ⟨pb, po + k, none⟩ = some (.int .i64 (el (dg x) k)) := (hB.cell (by have := World.block_lt_of_cell? w1 _ (Hcell1.out k (by omega)); simpa using this)).trans (Hcell1.out k (by omega))
      have bA3 := bA1.keep hB
      have dA0 := bA3.c0
      have dA1 := bA3.c1
      have hdl := Hd.out k
      have hP3 := hP1.keep hB
      have hp10 := Hl10.out k
      have hup := Hup.out k (by omega)
      obtain ⟨P, hPP⟩ : ∃ P, Lib.itoa (1000000000 + el (dg x) k) = P := ⟨_, rfl⟩
      rw [hPP] at hp10 hup
      obtain ⟨D', hD'⟩ : ∃ D', el (dg x) k = D' := ⟨_, rfl⟩
      rw [hD'] at hcl hdl hPP
      have hit := Tryd.strconv_Itoa (1000000000 + D') (by omega) (by omega) wr hP3
      rw [hPP] at hit
      have hsz : (⟨P.toArray⟩ : ByteArray).size = 10 := hp10
      have hex : (⟨P.toArray⟩ : ByteArray).extract 1 10 = ⟨⟨P.drop 1⟩⟩ := by rw [show (⟨P.toArray⟩ : ByteArray) = ⟨⟨P⟩⟩ from rfl, extract_bytes, List.take_of_length_le (by simp; omega)]
      have hQl : (P.drop 1).length = 9 := by simp; omega
      generalize (⟨P.toArray⟩ : ByteArray) = S at *
      have hT2 : Hid (T ++ P.drop 1 = [45] ++ tx (x / 1000000000 ^ k)) := Lib.hid (by rw [hT.out, hup, List.append_assoc])
      generalize P.drop 1 = Q at *
      clear hPP hD' hup hT hP3 hp10 bA3
      go_wp2_with fail
      go_at_call 49
      refine hit.mono ?_
      rintro e w5 ⟨rfl, kk, os, rfl⟩
      have hown5 := Lib.ownsRow_grow hown kk os
      have hB5 := hB.trans (Lib.below_grow w1.heap.size wr hB.size kk os)
      have hsz5 := Lib.size_grow wr kk os
      generalize Go.Sort.grow (wr.drewN kk) os = w5 at *
      clear hit hown hB hcl dA0 dA1
      go_wp2_with (at_builtin; refine Lib.wpList_append_own_string _ rfl _ _ 55 9 rfl w1.heap.size 5 iB Tryd.underlying55 Tryd.underlying9 hiB hzB0 hzB1 hzB2 _ _ _ rfl hown5 ⟨⟨Q⟩⟩ rfl (by show T.length + Q.length ≤ _; unfold maxLen; omega) (by show T.length + Q.length ≤ _; omega) hB5.size ?_)
      intro v6 w6 hown6 hgrow6 _
      have hB6 := hB5.grown hgrow6 hB5.size (fun q hq => (hown5.lt q hq).1)
      have hown7 : w6.ownsRow w1.heap.size 5 1 v6 (T ++ Q).length (Lib.byteCells (T ++ Q)) := by
        rw [Lib.byteCells_append, List.length_append, hQl]; exact hown6
      have hQ1 : 0 < (T ++ Q).length ∧ (T ++ Q).length + 9 * k ≤ 22 + 9 * n := by rw [List.length_append]; omega
      clear hown5 hown6 hgrow6 hB5
      generalize T ++ Q = T2 at *
      go_wp2
      go_roundw
      case rel => exact ⟨k, T2, by simp, by omega, hT2, hQ1.1, hQ1.2, hown7, hB6⟩
      case measure => simp [intOf] <;> omega

set_option maxRecDepth 100000 in
set_option maxHeartbeats 2000000 in
theorem text_pos (s1 : Value) (x : Int) (w : World) (x0 : 0 < x) (h1 : Ls w s1 (dg x)) (l1 : (dg x).length ≤ 600) (hP : Pw w) :
    Calls Tryd.prog 21 #[.agg #[.bool false, s1]] w fun e w' => e = .returned (.tuple #[.string ⟨⟨[] ++ tx x⟩⟩, .int .i64 0]) ∧ Below w.heap.size w w' := by
  have hv1 : ckL false (dg x) = 0 := by
    have := ckL_num (z := x) (by rw [show (((x : Int)).natAbs : Int) = x by omega]; exact l1)
    rw [show (((x : Int)).natAbs : Int) = x by omega, show decide ((x : Int) < 0) = false by simp; omega] at this
    exact this
  have hn0 := dg_len_pos x0
  have htop : Hid (tx (x / 1000000000 ^ ((dg x).length - 1)) = Lib.itoa (el (dg x) ((dg x).length - 1))) := Lib.hid (by rw [top_dg x0, tx_itoa _ ((dg_dig x (by omega)).el (by omega) _).1])
  have hd := fun i => (dg_dig x (by omega)).el (by omega) i
  have hup := fun i => tx_up x0 i
  have hlen10 := fun i => itoa_pad_len (el (dg x) i) (hd i).1 (hd i).2
  have hlen21 := fun i => itoa_len21 (el (dg x) i) (hd i).1 (hd i).2
  have htx : tx (x / 1000000000 ^ 0) = tx x := by rw [Int.pow_zero, Int.ediv_one]
  have Hup := Lib.hid hup
  have Hl10 := Lib.hid hlen10
  have Hl21 := Lib.hid hlen21
  have Htx := Lib.hid htx
  have Hd := Lib.hid hd
  clear hup hlen10 hlen21 htx hd
  have a1 := Below.alloc (Below.refl w.heap.size w) (Nat.le_refl _) (.cells #[.bool false, s1] 25)
  have a2 := Below.alloc a1 a1.size (.cells #[.bool false, s1] 25)
  have h1' := h1
  obtain ⟨pa, ca, rfl, hca', hqa⟩ := h1
  obtain ⟨pb, po, rfl, hcell⟩ := hqa hn0
  clear hca' hqa
  have g1 : (w.alloc (.cells #[.bool false, .slice (some ⟨pb, po, none⟩) (dg x).length ca] 25)).heap.size = w.heap.size + 1 := by simp
  have bA2 : Bx ((w.alloc (.cells #[.bool false, .slice (some ⟨pb, po, none⟩) (dg x).length ca] 25)).alloc (.cells #[.bool false, .slice (some ⟨pb, po, none⟩) (dg x).length ca] 25)) w.heap.size (.bool false) (.slice (some ⟨pb, po, none⟩) (dg x).length ca) 25 := (Bx.new w _ _ _).alloc _
  have bC : Bx ((w.alloc (.cells #[.bool false, .slice (some ⟨pb, po, none⟩) (dg x).length ca] 25)).alloc (.cells #[.bool false, .slice (some ⟨pb, po, none⟩) (dg x).length ca] 25)) (w.heap.size + 1) (.bool false) (.slice (some ⟨pb, po, none⟩) (dg x).length ca) 25 := by
    have := Bx.new (w.alloc (.cells #[.bool false, .slice (some ⟨pb, po, none⟩) (dg x).length ca] 25)) (.bool false) (.slice (some ⟨pb, po, none⟩) (dg x).length ca) 25
    rwa [g1] at this
  have hck := checkAll1_any false _ _ (w.heap.size + 1) _ (h1'.keep a2) (by omega) bC.c0 bC.c1
  rw [hv1] at hck
  clear bC g1
  have hsl := fun i (hi : i < (dg x).length) => World.block_lt_of_cell? w _ (hcell i hi)
  have Hsl := Lib.hid hsl
  have Hcell := Lib.hid hcell
  clear hcell hsl
  have Hu1 := up_pos x0 ((dg x).length - 1) (by omega)
  generalize hn : (dg x).length = n at *
  clear hn
  go_enter Tryd.func21, Tryd.ntmps21
  go_wp2_with fail
  go_at_call 38
  refine hck.mono ?_
  rintro e w1 ⟨rfl, hb1⟩
  have B1 := a2.trans (hb1.mono a2.size)
  have bA1 := bA2.keep hb1
  have cA0' := bA1.c0
  have cA1' := bA1.c1
  have hP1 := hP.keep B1
  have hcell1 := fun i (hi : i < n) => (B1.cell (Hsl.out i hi)).trans (Hcell.out i hi)
  have Hcell1 := Lib.hid hcell1
  have hne : ((n : Int) == 0) = false := by simp; omega
  obtain ⟨iB, hiB, hzB0, hzB1, hzB2⟩ := info_parts Tryd.infoByte
  clear hck hb1 a1 a2 bA2 hP hcell1 Hsl Hcell
  go_wp2_with (at_make; refine wpList_make_own _ rfl _ _ 55 rfl w1.heap.size 5 iB (.int .u8 0) 1 Tryd.underlying55 hiB hzB0 hzB1 .i64 .i64 (9 * (n : Int) + 1) (9 * n + 1) rfl rfl (by omega) (by rw [hzB2]; omega) (by unfold maxLen; omega) (Nat.le_refl _) ?_)
  intro w2 hown hgrow
  have B2 : Below w1.heap.size w1 w2 := (Below.refl w1.heap.size w1).grown hgrow (Nat.le_refl _) (fun k hk => by cases hk)
  have bA2 := bA1.keep B2
  have cA0 := bA2.c0
  have cA1 := bA2.c1
  clear hgrow cA0' cA1'
  have hown3 := hown
  have B3 := B2
  obtain ⟨w3, hw3⟩ : ∃ w3, w3 = w2 := ⟨_, rfl⟩
  subst hw3
  have B03 := B1.trans (B3.mono B1.size)
  have bA3 := bA1.keep B3
  have dA0 := bA3.c0
  have dA1 := bA3.c1
  have hcl : w3.cell? ⟨pb, po + (n - 1), none⟩ = some (.int .i64 (el (dg x) (n - 1))) := (B3.cell (by have := World.block_lt_of_cell? w1 _ (Hcell1.out (n - 1) (by omega)); simpa using this)).trans (Hcell1.out (n - 1) (by omega))
  have hdl := Hd.out (n - 1)
  have hll := Hl21.out (n - 1)
  obtain ⟨D, hD⟩ : ∃ D, el (dg x) (n - 1) = D := ⟨_, rfl⟩
  rw [hD] at hcl hdl htop hll
  have hap := Tryd.strconv_AppendInt_10 w1.heap.size 0 D (by omega) (by omega) _ _ w3 hown3 (by have := B3.size; omega) (by omega) (hP1.below.on B3)
  clear hown hD cA0 cA1 B2 bA2 bA3
  go_wp2_with fail
  go_at_call 48
  refine hap.mono ?_
  rintro e w4 ⟨v4, rfl, hown4, hb4, _⟩
  have B4 := B3.trans hb4
  have hT0 : w4.ownsRow w1.heap.size 5 1 v4 ([] ++ Lib.itoa D).length (Lib.byteCells ([] ++ Lib.itoa D)) := by
    have e : ([] ++ Lib.itoa D).length = 0 + (Lib.itoa D).length := by simp <;> omega
    rw [e]; exact hown4
  have Hpos : 0 < ([] ++ Lib.itoa D).length := by
    have h1 := tx_form (x / 1000000000 ^ (n - 1)) Hu1
    obtain ⟨c, l, e, _⟩ := h1
    rw [← htop.out, e]; simp
  clear hap hown4 hown3 hb4 B3 B03 dA0 dA1 hcl
  go_wp2_with fail
  go_loopw [5, 7] (fun v i wr => ∃ (j : Nat) (T : List UInt8), i = .int .i64 ((j : Int) - 1) ∧ j + 1 ≤ n ∧ Hid (T = [] ++ tx (x / 1000000000 ^ j)) ∧ 0 < T.length ∧ T.length + 9 * j ≤ 22 + 9 * n ∧ wr.ownsRow w1.heap.size 5 1 v T.length (Lib.byteCells T) ∧ Below w1.heap.size w1 wr)
    (fun _ i _ => (intOf i + 1).toNat)
  case atStart => exact ⟨n - 1, [] ++ Lib.itoa D, by rw [show ((n - 1 : Nat) : Int) - 1 = (n : Int) - 1 - 1 by omega], by omega, Lib.hid (by rw [htop.out]), Hpos, by simp; omega, hT0, B4⟩
  case round =>
    obtain ⟨j, T, rfl, hjn, hT, hT0', hTl, hown, hB⟩ := hrel
    clear hT0 B4 htop hll Hpos
    by_cases hj : j = 0
    · subst hj
      have hv := hown
      obtain ⟨g, cap, rfl⟩ := own_head hown hT0'
      have hcv := run_convert_bytes_back wr 55 9 5 ⟨g, 0, none⟩ cap T Tryd.underlying55 Tryd.underlying5 Tryd.underlying9 (fun i hi => by
        rw [Lib.add_plain]
        have := hv.cellAt i (by omega)
        simpa [Lib.byteCells, hi] using this)
      have B0 := B1.trans (hB.mono B1.size)
      have HT : Hid (T = [] ++ tx x) := Lib.hid (by rw [hT.out, Htx.out])
      clear hown hv hT hT0' hTl hjn hB Hcell1
      go_wp2
      go_ret2
      exact ⟨by rw [HT.out]; rfl, B0⟩
    · obtain ⟨k, rfl⟩ : ∃ k, j = k + 1 := ⟨j - 1, by omega⟩
      have hcl : wr.cell? ⟨pb, po + k, none⟩ = some (.int .i64 (el (dg x) k)) := (hB.cell (by have := World.block_lt_of_cell? w1 _ (Hcell1.out k (by omega)); simpa using this)).trans (Hcell1.out k (by omega))
      have bA3 := bA1.keep hB
      have dA0 := bA3.c0
      have dA1 := bA3.c1
      have hdl := Hd.out k
      have hP3 := hP1.keep hB
      have hp10 := Hl10.out k
      have hup := Hup.out k (by omega)
      obtain ⟨P, hPP⟩ : ∃ P, Lib.itoa (1000000000 + el (dg x) k) = P := ⟨_, rfl⟩
      rw [hPP] at hp10 hup
      obtain ⟨D', hD'⟩ : ∃ D', el (dg x) k = D' := ⟨_, rfl⟩
      rw [hD'] at hcl hdl hPP
      have hit := Tryd.strconv_Itoa (1000000000 + D') (by omega) (by omega) wr hP3
      rw [hPP] at hit
      have hsz : (⟨P.toArray⟩ : ByteArray).size = 10 := hp10
      have hex : (⟨P.toArray⟩ : ByteArray).extract 1 10 = ⟨⟨P.drop 1⟩⟩ := by rw [show (⟨P.toArray⟩ : ByteArray) = ⟨⟨P⟩⟩ from rfl, extract_bytes, List.take_of_length_le (by simp; omega)]
      have hQl : (P.drop 1).length = 9 := by simp; omega
      generalize (⟨P.toArray⟩ : ByteArray) = S at *
      have hT2 : Hid (T ++ P.drop 1 = [] ++ tx (x / 1000000000 ^ k)) := Lib.hid (by rw [hT.out, hup, List.append_assoc])
      generalize P.drop 1 = Q at *
      clear hPP hD' hup hT hP3 hp10 bA3
      go_wp2_with fail
      go_at_call 49
      refine hit.mono ?_
      rintro e w5 ⟨rfl, kk, os, rfl⟩
      have hown5 := Lib.ownsRow_grow hown kk os
      have hB5 := hB.trans (Lib.below_grow w1.heap.size wr hB.size kk os)
      have hsz5 := Lib.size_grow wr kk os
      generalize Go.Sort.grow (wr.drewN kk) os = w5 at *
      clear hit hown hB hcl dA0 dA1
      go_wp2_with (at_builtin; refine Lib.wpList_append_own_string _ rfl _ _ 55 9 rfl w1.heap.size 5 iB Tryd.underlying55 Tryd.underlying9 hiB hzB0 hzB1 hzB2 _ _ _ rfl hown5 ⟨⟨Q⟩⟩ rfl (by show T.length + Q.length ≤ _; unfold maxLen; omega) (by show T.length + Q.length ≤ _; omega) hB5.size ?_)
      intro v6 w6 hown6 hgrow6 _
      have hB6 := hB5.grown hgrow6 hB5.size (fun q hq => (hown5.lt q hq).1)
      have hown7 : w6.ownsRow w1.heap.size 5 1 v6 (T ++ Q).length (Lib.byteCells (T ++ Q)) := by
        rw [Lib.byteCells_append, List.length_append, hQl]; exact hown6
      have hQ1 : 0 < (T ++ Q).length ∧ (T ++ Q).length + 9 * k ≤ 22 + 9 * n := by rw [List.length_append]; omega
      clear hown5 hown6 hgrow6 hB5
      generalize T ++ Q = T2 at *
      go_wp2
      go_roundw
      case rel => exact ⟨k, T2, by simp, by omega, hT2, hQ1.1, hQ1.2, hown7, hB6⟩
      case measure => simp [intOf] <;> omega

/-- The text of a number. -/
def sx (z : Int) : ByteArray := ⟨⟨Lib.itoa z⟩⟩
theorem text_num (A : Value) (z : Int) (w : World) (hA : Lg w A z) (l1 : (dg (z.natAbs : Int)).length ≤ 600) (hP : Pw w) :
    Calls Tryd.prog 21 #[A] w fun e w' => e = .returned (.tuple #[.string (sx z), .int .i64 0]) ∧ Below w.heap.size w w' := by
  obtain ⟨s1, rfl, h1⟩ := hA
  unfold sx
  rw [itoa_sign]
  rcases Int.lt_trichotomy z 0 with h | h | h
  · rw [show decide (z < 0) = true by simpa using h, if_pos h]
    exact text_neg s1 _ w (by omega) h1 l1 hP
  · subst h
    rw [show (((0 : Int).natAbs : Nat) : Int) = 0 from rfl, dg_zero] at h1
    have e : tx (((0 : Int).natAbs : Nat) : Int) = [48] := by unfold tx; rw [Lib.decDigits_one (by simp)]; rfl
    rw [e, if_neg (by omega)]
    exact (text_zero s1 w h1)
  · rw [show decide (z < 0) = false by simp; omega, if_neg (by omega)]
    exact text_pos s1 _ w (by omega) h1 l1 hP
end Go.Proofs.YthhbnhdejbpjiaaDoor
