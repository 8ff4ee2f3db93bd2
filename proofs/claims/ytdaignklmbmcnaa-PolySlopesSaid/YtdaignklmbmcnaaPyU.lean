/-
  The reference of layer 8: Slope.
-/
import Derived.Test.YtdaignklmbmcnaaPyS
import Derived.Test.YtdaignklmbmcnaaPyF
import Derived.Test.YtdaignklmbmcnaaPyP
namespace Go.Proofs.Ytdaignklmbmcnaa
open Go.RowKit

theorem pf_take (l : List (Int × Int)) (j : Nat) (h : j < l.length) : l.take (j + 1) = l.take j ++ [pf l j] := by
  unfold pf
  rw [List.take_add_one, List.getElem?_eq_getElem h, List.getD_eq_getElem?_getD, List.getElem?_eq_getElem h]
  rfl
theorem sl_step (l : List (Int × Int)) (j m : Nat) (hm : m = j + 1) (h : m < l.length) : (scV 1 (l.drop 1)).take (j + 1) = (scV 1 (l.drop 1)).take j ++ [((sScaleR (pf l m).1 (pf l m).2 (m : Int) 1).1, (sScaleR (pf l m).1 (pf l m).2 (m : Int) 1).2.1)] := by
  subst hm
  rw [pf_take _ j (by rw [scV_length]; simp; omega), scV_at 1 _ j (by simp; omega), pf_drop1, Nat.add_comm 1 j]
theorem sl_done (l : List (Int × Int)) (x y : Int) (z : ckL l x y = 0) (h : ∀ i, 1 ≤ i → i < l.length → (sScaleR (pf l i).1 (pf l i).2 (i : Int) 1).2.2 = 0) : slR l x y = evR (scV 1 (l.drop 1)) x y := by
  obtain ⟨h8, hok, hxy⟩ := ckL_zero z
  have hE : scE 1 (l.drop 1) = 0 := scE_none 1 _ fun i hi => by
    rw [pf_drop1, Nat.add_comm 1 i]
    exact h (i + 1) (by omega) (by simp at hi; omega)
  have hV : ckL (scV 1 (l.drop 1)) x y = 0 := by
    rw [ckL_ok x y (by rw [scV_length]; simp; omega) (ok_of fun i hi => ?_)]
    · exact hxy
    · rw [scV_length] at hi
      rw [scV_at 1 _ i hi, pf_drop1, Nat.add_comm 1 i]
      simp at hi
      have e := scale_ok (k := i + 1) (hok _ (pf_mem (l := l) (i := i + 1) (by omega))) (by omega) (h (i + 1) (by omega) (by omega))
      rw [e.1]
      exact e.2
  unfold slR evR
  rw [if_pos z, if_pos hE, if_pos hV]
theorem sl_bad (l : List (Int × Int)) (x y : Int) (z : ckL l x y = 0) (m : Nat) (h1 : 1 ≤ m) (hm : m < l.length) (h : ∀ i, 1 ≤ i → i < m → (sScaleR (pf l i).1 (pf l i).2 (i : Int) 1).2.2 = 0) (e : (sScaleR (pf l m).1 (pf l m).2 (m : Int) 1).2.2 ≠ 0) : slR l x y = (0, 0, (sScaleR (pf l m).1 (pf l m).2 (m : Int) 1).2.2) := by
  have hE := scE_at 1 (l.drop 1) (m - 1) (by simp; omega) (fun i hi => by
    rw [pf_drop1, Nat.add_comm 1 i]
    exact h (i + 1) (by omega) (by omega)) (by
    rw [pf_drop1, show m - 1 + 1 = m by omega, show 1 + (m - 1) = m by omega]; exact e)
  rw [pf_drop1, show m - 1 + 1 = m by omega, show 1 + (m - 1) = m by omega] at hE
  unfold slR
  rw [if_pos z, if_neg (by rw [hE]; exact e), hE]

theorem RfC.low {B n : Nat} {x y a b : Int} {A W : World} (h : RfC B x y a b A) (hb : Below n A W) (hn : B + 1 < n) : RfC B x y a b W := by
  obtain ⟨⟨h1, h2⟩, ⟨h3, h4, h5, h6⟩⟩ := h
  have h0 : B < n := by omega
  exact ⟨⟨(hb.cell (p := ⟨B, 0, none⟩) h0).trans h1, (hb.cell (p := ⟨B, 1, none⟩) h0).trans h2⟩, ⟨(hb.cell (p := ⟨B + 1, 0, none⟩) hn).trans h3, (hb.cell (p := ⟨B + 1, 1, none⟩) hn).trans h4, (hb.frozen (p := ⟨B + 1, 0, none⟩) hn).trans h5, (hb.frozen (p := ⟨B + 1, 1, none⟩) hn).trans h6⟩⟩

set_option maxRecDepth 100000 in
set_option maxHeartbeats 4000000 in
theorem refSlope8_any (va : Value) (l : List (Int × Int)) (x y : Int) (w : World) (ha : Sn w va l) :
    Calls Try.prog 16 #[va, .agg #[.int .i64 x, .int .i64 y]] w fun e w' => e = .returned (spV (slR l x y)) ∧ Below w.heap.size w w' := by
  have hc := fun w1 (hb : Below w.heap.size w w1) => refCheck8_any va l x y w1 (ha.keep hb)
  have b0 := ((Below.refl w.heap.size w).alloc (Nat.le_refl _) (.cells #[.int .i64 x, .int .i64 y] 24)).alloc (by simp) (.cells #[.int .i64 0, .int .i64 0] 24)
  have k0 : RfC w.heap.size x y 0 0 ((w.alloc (.cells #[.int .i64 x, .int .i64 y] 24)).alloc (.cells #[.int .i64 0, .int .i64 0] 24)) := by
    refine ⟨⟨?_, ?_⟩, ⟨?_, ?_, ?_, ?_⟩⟩ <;> simp [go_sem]
  by_cases z : ckL l x y = 0
  · obtain ⟨i0, hi, hz0, hz1, hz2⟩ := span_parts
    have hstep := fun j m hm h => Lib.hid (sl_step l j m hm h)
    have hdone := fun h => Lib.hid (sl_done l x y z h)
    have hbad := fun m h1 hm h e => Lib.hid (sl_bad l x y z m h1 hm h e)
    have hN := scV_length 1 (l.drop 1)
    rw [List.length_drop] at hN
    obtain ⟨h8, hok, _⟩ := ckL_zero z
    have hck := fun m (h : m < l.length) => hok _ (pf_mem h)
    rw [z] at hc
    obtain ⟨S, hS⟩ : ∃ S, scV 1 (l.drop 1) = S := ⟨_, rfl⟩
    rw [hS] at hN
    simp only [hS] at hstep hdone
    obtain ⟨pa, ca, rfl, _, hpa⟩ := ha
    obtain ⟨n, hn⟩ : ∃ n, l.length = n := ⟨_, rfl⟩
    rw [hn] at hpa hc hN h8
    simp only [hn] at hck hstep hdone hbad
    replace hn := Lib.hid hn
    clear z hok hS
    go_enter Try.func16, Try.ntmps16
    go_wp2_with fail
    go_at_call 30
    rw [hn.out]
    refine (hc _ b0).mono ?_
    rintro e w1 ⟨rfl, hb1⟩
    have k1 := k0.keep hb1
    have b1 : Below w.heap.size w w1 := b0.trans (hb1.mono (by simp; omega))
    have l1 : w.heap.size + 1 < w1.heap.size := by have := hb1.size; simp at this; omega
    clear hc b0 k0 hb1
    go_wp2
    go_loopw [7, 8] (fun o i wr => ∃ j m : Nat, i = .int .i64 (m : Int) ∧ Hid (m = j + 1) ∧ j ≤ S.length ∧ (∀ i, 1 ≤ i → i < m → (sScaleR (pf l i).1 (pf l i).2 (i : Int) 1).2.2 = 0) ∧ wr.ownsRow w1.heap.size 24 2 o j (rowOf (S.take j)) ∧ RfC w.heap.size x y 0 0 wr ∧ Below w.heap.size w wr ∧ w1.heap.size ≤ wr.heap.size)
      (fun _ i _ => 9 - (intOf i).toNat)
    case atStart => exact ⟨0, 1, rfl, Lib.hid rfl, Nat.zero_le _, fun i h h' => by omega, World.ownsRow_nil w1 _ _ _, k1, b1, Nat.le_refl _⟩
    case round =>
      obtain ⟨j, m, rfl, hmj, hj, hz, hown, K, hB, hl1⟩ := hrel
      have hm1 : 1 ≤ m := by have := hmj.out; omega
      clear k1 b1
      by_cases hk : m < n
      · obtain ⟨b, off, rfl, hcs⟩ := hpa (by omega)
        obtain ⟨c0, c1⟩ := hcs m hk
        replace c0 := bkeep hB c0
        replace c1 := bkeep hB c1
        have hb := World.block_lt_of_cell? wr _ c0
        simp at hb
        have hst := hstep j m hmj.out hk
        have hbd := hbad m hm1 hk hz
        have hk0 := hck m hk
        have hzn : ∀ i, 1 ≤ i → i < m + 1 → (sScaleR (pf l m).1 (pf l m).2 (m : Int) 1).2.2 = 0 → (sScaleR (pf l i).1 (pf l i).2 (i : Int) 1).2.2 = 0 := fun i h1 h2 e => by
          rcases Nat.lt_or_ge i m with h | h
          · exact hz i h1 h
          · rw [show i = m by omega]; exact e
        clear hpa hcs hstep hdone hbad hck hz
        generalize (pf l m).1 = g0 at *
        generalize (pf l m).2 = g1 at *
        have hsc := fun w => refScale8_any g0 g1 (m : Int) w hk0 (by omega) (by omega)
        obtain ⟨⟨r0, r1, r2⟩, hq⟩ : ∃ q, sScaleR g0 g1 (m : Int) 1 = q := ⟨_, rfl⟩
        simp only [hq] at hst hbd hzn hsc
        simp only [spV] at hsc
        clear hq hk0
        go_wp2_with fail
        go_at_call 34
        refine (hsc _).mono ?_
        rintro e v1 ⟨rfl, hb1⟩
        first | (replace hb1 := undrewQ hb1) | skip
        have hown1 := ownsBelow hown hb1
        have K1 := K.keep hb1
        have B1 : Below w.heap.size w v1 := hB.trans (hb1.mono hB.size)
        have lv1 : w.heap.size + 1 < v1.heap.size := by have := hb1.size; omega
        have lv2 : w1.heap.size ≤ v1.heap.size := by have := hb1.size; omega
        clear hown K hB hb1 c0 c1 hb hsc
        by_cases zr : r2 = 0
        · subst zr
          clear hbd
          have hat : ∀ (j : Nat) (u : Value), [Value.int .i64 r0, Value.int .i64 r1][j]? = some u → ((v1.alloc (.cells #[.int .i64 r0, .int .i64 r1] 24)).alloc (.cells #[.int .i64 r0, .int .i64 r1] 24)).cell? ((⟨v1.heap.size + 1, 0, none⟩ : Addr).add j) = some u := by
            have h := two_at (v1.alloc (.cells #[.int .i64 r0, .int .i64 r1] 24)) (.int .i64 r0) (.int .i64 r1) 24
            rw [World.size_alloc] at h
            exact h
          have hj8 : j ≤ 8 := by omega
          have hsz : w1.heap.size ≤ ((v1.alloc (.cells #[.int .i64 r0, .int .i64 r1] 24)).alloc (.cells #[.int .i64 r0, .int .i64 r1] 24)).heap.size := by simp; omega
          go_wp2_with (at_builtin; refine wpList_append_own _ rfl _ _ 22 rfl w1.heap.size 24 i0 (.agg #[.int .i64 0, .int .i64 0]) 2 16 Try.underlying22 hi hz0 hz1 hz2 rfl (by decide) _ _ _ rfl ((hown1.alloc _).alloc _) ⟨v1.heap.size + 1, 0, none⟩ 1 1 [.int .i64 r0, .int .i64 r1] rfl rfl hat (two_cell _ _) (by unfold maxLen; omega) (by omega) hsz ?_)
          intro v' w2 hown' hgrow _
          have hL : Below w1.heap.size v1 w2 := (((Below.refl w1.heap.size v1).alloc lv2 (.cells #[.int .i64 r0, .int .i64 r1] 24)).alloc (by simp; omega) (.cells #[.int .i64 r0, .int .i64 r1] 24)).grown hgrow hsz (fun k hk => (hown1.lt k hk).1)
          have K2 := K1.low hL l1
          have B2 : Below w.heap.size w w2 := B1.trans (hL.mono (by omega))
          have lw2 : w1.heap.size ≤ w2.heap.size := by have := hL.size; omega
          clear hown1 hgrow hat hsz hL K1 B1
          go_wp2
          go_roundw
          case rel => exact ⟨j + 1, m + 1, by simp, Lib.hid (by have := hmj.out; omega), by have := hmj.out; omega, fun i h1 h2 => hzn i h1 h2 trivial, by rw [hst.out, rowOf_append]; exact hown', K2, B2, lw2⟩
          case measure => simp [intOf]; omega
        · have hS := hbd zr
          have zr' : (r2 != 0) = true := by simpa using zr
          obtain ⟨_, ⟨z0, z1, f0, f1⟩⟩ := K1
          go_wp2
          exact bodyPost_ret (v := .tuple #[.agg #[.int .i64 0, .int .i64 0], .int .i64 r2]) (by simp [results, Try.results16, go_sem, z0, z1, lv1]) rfl ⟨by rw [hS.out], by (repeat (first | with_reducible exact Below.refl _ _ | with_reducible assumption | refine Below.alloc ?_ (by (try simp); try omega) _ | refine Below.setCell ?_ (by (try simp); try omega) _ | refine below_drewN ?_ _ | refine Below.drew ?_ | (with_reducible refine Below.trans ?_ (Below.mono (by assumption) (by (try simp); try omega)))))⟩
      · have hjS : j = S.length := by have := hmj.out; omega
        have hD := hdone fun i h1 h2 => hz i h1 (by omega)
        subst hjS
        rw [List.take_length] at hown
        have hSn : Sn wr u7 S := Sn.own hown
        have hE := fun w2 (hb : Below wr.heap.size wr w2) => refEval8_any u7 S x y w2 (hSn.keep hb)
        obtain ⟨⟨e0, e1, e2⟩, hq⟩ : ∃ q, evR S x y = q := ⟨_, rfl⟩
        rw [hq] at hE hD
        simp only [spV] at hE
        clear hpa hstep hdone hbad hck hz hq hSn hown
        obtain ⟨⟨s0, s1⟩, ⟨z0, z1, f0, f1⟩⟩ := K
        go_wp2_with fail
        go_at_call 14
        refine (hE _ (by (repeat (first | with_reducible exact Below.refl _ _ | with_reducible assumption | refine Below.alloc ?_ (by (try simp); try omega) _ | refine Below.setCell ?_ (by (try simp); try omega) _ | refine below_drewN ?_ _ | refine Below.drew ?_ | (with_reducible refine Below.trans ?_ (Below.mono (by assumption) (by (try simp); try omega))))))).mono ?_
        rintro e v1 ⟨rfl, hb1⟩
        first | (replace hb1 := undrewQ hb1) | skip
        obtain ⟨_, ⟨z0', z1', f0', f1'⟩⟩ := RfC.keep (B := w.heap.size) (x := x) (y := y) (a := 0) (b := 0) ⟨⟨s0, s1⟩, ⟨z0, z1, f0, f1⟩⟩ hb1
        have B1 : Below w.heap.size w v1 := hB.trans (hb1.mono hB.size)
        have lv1 : w.heap.size + 1 < v1.heap.size := by have := hb1.size; omega
        clear z0 z1 f0 f1 hb1 hE
        go_wp2
        exact bodyPost_ret (v := .tuple #[.agg #[.int .i64 e0, .int .i64 e1], .int .i64 e2]) (by simp [results, Try.results16, go_sem, z0', z1']) rfl ⟨by rw [hD.out], by (repeat (first | with_reducible exact Below.refl _ _ | with_reducible assumption | refine Below.alloc ?_ (by (try simp); try omega) _ | refine Below.setCell ?_ (by (try simp); try omega) _ | refine below_drewN ?_ _ | refine Below.drew ?_ | (with_reducible refine Below.trans ?_ (Below.mono (by assumption) (by (try simp); try omega)))))⟩
  · have hR := Lib.hid (show slR l x y = (0, 0, ckL l x y) by unfold slR; rw [if_neg z])
    generalize ckL l x y = c at *
    have z' : (c != 0) = true := by simpa using z
    go_enter Try.func16, Try.ntmps16
    go_wp2_with fail
    go_at_call 30
    refine (hc _ b0).mono ?_
    rintro e w1 ⟨rfl, hb1⟩
    obtain ⟨_, ⟨z0, z1, f0, f1⟩⟩ := k0.keep hb1
    have b1 : Below w.heap.size w w1 := b0.trans (hb1.mono (by simp; omega))
    go_wp2
    exact bodyPost_ret (v := .tuple #[.agg #[.int .i64 0, .int .i64 0], .int .i64 c]) (by simp [results, Try.results16, go_sem, z0, z1]) rfl ⟨by rw [hR.out], by (repeat (first | with_reducible exact Below.refl _ _ | with_reducible assumption | refine Below.alloc ?_ (by (try simp); try omega) _ | refine Below.setCell ?_ (by (try simp); try omega) _ | refine below_drewN ?_ _ | refine Below.drew ?_ | (with_reducible refine Below.trans ?_ (Below.mono (by assumption) (by (try simp); try omega)))))⟩
end Go.Proofs.Ytdaignklmbmcnaa
