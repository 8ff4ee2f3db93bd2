/-
  The reference of layer 8: check, Eval.
-/
import Derived.Test.YtdaignklmbmcnaaPyE
import Derived.Test.YtdaignklmbmcnaaPwM
import Derived.Deep.RegionWith
namespace Go.Proofs.Ytdaignklmbmcnaa
open Go.RowKit

theorem mul_err {a b c d : Int} (h : (sMulR a b c d).2.2 ≠ 0) : sMulR a b c d = (0, 0, (sMulR a b c d).2.2) := by
  unfold sMulR at h ⊢
  split
  · rename_i k
    rw [if_pos k] at h
    unfold ovR at h ⊢
    split
    · rename_i k2; rw [if_pos k2] at h; exact absurd rfl h
    · rfl
  · rfl
theorem add_err {a b c d : Int} (h : (sAddR a b c d).2.2 ≠ 0) : sAddR a b c d = (0, 0, (sAddR a b c d).2.2) := by
  unfold sAddR at h ⊢
  split
  · rename_i k
    rw [if_pos k] at h
    unfold limS at h ⊢
    split
    · rename_i k2; rw [if_pos k2] at h; exact absurd rfl h
    · rfl
  · rfl
/-- An error that has come stays. -/
theorem pvl_stick (x y : Int) (l : List (Int × Int)) : ∀ j, j < l.length → (pvl x y (l.drop j)).2.2 ≠ 0 → pvl x y l = pvl x y (l.drop j)
  | 0, _, _ => by rw [List.drop_zero]
  | j + 1, hj, h => by
    have e := pvl_at x y l j (by omega)
    have e2 : pvl x y (l.drop j) = pvl x y (l.drop (j + 1)) := by rw [e]; unfold hst; rw [if_neg h]
    rw [← e2]
    exact pvl_stick x y l j (by omega) (by rw [e2]; exact h)

set_option maxHeartbeats 1000000 in
theorem refCheck8_any (va : Value) (l : List (Int × Int)) (x y : Int) (w : World) (ha : Sn w va l) :
    Calls Try.prog 30 #[va, .agg #[.int .i64 x, .int .i64 y]] w fun e w' => e = .returned (.int .i64 (ckL l x y)) ∧ Below w.heap.size w w' := by
  have hcs := fun w => rCheck_any x y w
  by_cases h8 : 8 < l.length
  · have H := Lib.hid (ckL_long x y h8)
    obtain ⟨pa, ca, rfl, _, _⟩ := ha
    have h8' : decide ((8 : Int) < (l.length : Int)) = true := by simp; omega
    go_enter Try.func30, Try.ntmps30
    go_wp2
    go_ret
    exact ⟨by rw [H.out]; rfl, by (repeat (first | with_reducible exact Below.refl _ _ | with_reducible assumption | refine Below.alloc ?_ (by (try simp); try omega) _ | refine Below.setCell ?_ (by (try simp); try omega) _ | refine below_drewN ?_ _ | refine Below.drew ?_ | (with_reducible refine Below.trans ?_ (Below.mono (by assumption) (by (try simp); try omega)))))⟩
  have hbad := fun i hi k => Lib.hid (ckL_bad (l := l) (i := i) x y (by omega) hi k)
  have hgood := fun k => Lib.hid (ckL_ok (l := l) x y (by omega) k)
  obtain ⟨pa, ca, rfl, _, hpa⟩ := ha
  obtain ⟨n, hn⟩ : ∃ n, l.length = n := ⟨_, rfl⟩
  rw [hn] at hpa hbad h8 ⊢
  have Hn := Lib.hid hn
  clear hn
  have h8' : decide ((8 : Int) < (n : Int)) = false := by simp; omega
  go_enter Try.func30, Try.ntmps30
  go_wp2
  go_loopw [5] (fun i wr => ∃ (k : Nat), i = .int .i64 k ∧ k ≤ n ∧ (∀ j, j < k → ckS (pf l j).1 (pf l j).2 = 0) ∧ Below w.heap.size w wr ∧ w.heap.size < wr.heap.size ∧ wr.cell? ⟨w.heap.size, 0, none⟩ = some (.int .i64 x) ∧ wr.cell? ⟨w.heap.size, 1, none⟩ = some (.int .i64 y))
    (fun i _ => n - (intOf i).toNat)
  case atStart => exact ⟨0, by simp, Nat.zero_le _, fun j hj => by omega, by (repeat (first | with_reducible exact Below.refl _ _ | with_reducible assumption | refine Below.alloc ?_ (by (try simp); try omega) _ | refine Below.setCell ?_ (by (try simp); try omega) _ | refine below_drewN ?_ _ | refine Below.drew ?_ | (with_reducible refine Below.trans ?_ (Below.mono (by assumption) (by (try simp); try omega))))), by simp, by simp, by simp⟩
  case round =>
    obtain ⟨k, rfl, hk, hj, hB, hz, hx, hy⟩ := hrel
    by_cases hk' : k < n
    · obtain ⟨ba, oa, rfl, hca⟩ := hpa (by omega)
      obtain ⟨hc0, hc1⟩ := hca k hk'
      replace hc0 := bkeep hB hc0
      replace hc1 := bkeep hB hc1
      have hb := hbad k hk'
      clear hbad hgood hpa hca
      rcases ckS_cases (pf l k).1 (pf l k).2 with ⟨e, _⟩ | ⟨e, _⟩
      · have hr := fun w => rRight_ok (pf l k).1 (pf l k).2 e w
        have hj' : ∀ j, j < k + 1 → ckS (pf l j).1 (pf l j).2 = 0 := fun j hj' => by
          rcases Nat.lt_or_ge j k with h | h
          · exact hj j h
          · rw [show j = k by omega]; exact e
        clear e hb hj
        generalize (pf l k).1 = c0 at *
        generalize (pf l k).2 = c1 at *
        go_wp2_with (go_at_call 46; refine (hr _).mono ?_; rintro e w1 ⟨rfl, hb1⟩; have hx1 := bkeep hb1 hx; have hy1 := bkeep hb1 hy; have hz1 := hb1.size)
        go_roundw
        case rel => exact ⟨k + 1, by simp, by omega, hj', hB.trans (hb1.mono hB.size), by omega, hx1, hy1⟩
        case measure => simp [intOf]; omega
      · have hr := fun w => rRight_no (pf l k).1 (pf l k).2 e w
        replace hb := hb e
        clear e
        generalize (pf l k).1 = c0 at *
        generalize (pf l k).2 = c1 at *
        go_wp2_with (go_at_call 46; refine (hr _).mono ?_; rintro e w1 ⟨rfl, hb1⟩)
        go_ret
        exact ⟨by rw [hb.out]; rfl, hB.trans (hb1.mono hB.size)⟩
    · have hkn : k = n := by omega
      subst hkn
      have H := hgood (ok_of fun j hj' => hj j (by rw [Hn.out] at hj'; exact hj'))
      clear hgood hbad hj hpa
      go_wp2_with (go_at_call 47; refine (hcs _).mono ?_; rintro e w1 ⟨rfl, hb1⟩)
      go_ret
      exact ⟨by rw [H.out]; rfl, hB.trans (hb1.mono hB.size)⟩
theorem undrewQ {A B : World} (h : Below A.drew.heap.size A.drew B) : Below A.heap.size A B := (Below.drew (Below.refl A.heap.size A)).trans h
/-- What lies in memory between two rounds of the reference. -/
def RfC (B : Nat) (x y _a _b : Int) (W : World) : Prop :=
  (W.cell? ⟨B, 0, none⟩ = some (.int .i64 x) ∧ W.cell? ⟨B, 1, none⟩ = some (.int .i64 y)) ∧
  (W.cell? ⟨B + 1, 0, none⟩ = some (.int .i64 0) ∧ W.cell? ⟨B + 1, 1, none⟩ = some (.int .i64 0) ∧ W.frozen? ⟨B + 1, 0, none⟩ = false ∧ W.frozen? ⟨B + 1, 1, none⟩ = false)
theorem RfC.keep {B : Nat} {x y a b : Int} {A W : World} (h : RfC B x y a b A) (hb : Below A.heap.size A W) : RfC B x y a b W := by
  obtain ⟨⟨h1, h2⟩, ⟨h3, h4, h5, h6⟩⟩ := h
  have hl := World.block_lt_of_cell? A _ h3
  simp at hl
  exact ⟨⟨bkeep hb h1, bkeep hb h2⟩, ⟨bkeep hb h3, bkeep hb h4, (hb.frozen (p := ⟨B + 1, 0, none⟩) hl).trans h5, (hb.frozen (p := ⟨B + 1, 1, none⟩) hl).trans h6⟩⟩
def VbC (b : Nat) (x y : Int) (w : World) : Prop := w.cell? ⟨b, 0, none⟩ = some (.int .i64 x) ∧ w.cell? ⟨b, 1, none⟩ = some (.int .i64 y) ∧ w.frozen? ⟨b, 0, none⟩ = false ∧ w.frozen? ⟨b, 1, none⟩ = false
theorem VbC.keep {w w' : World} {b : Nat} {x y : Int} (h : VbC b x y w) (hb : Below w.heap.size w w') : VbC b x y w' := by
  have hl := World.block_lt_of_cell? w _ h.1
  simp at hl
  exact ⟨bkeep hb h.1, bkeep hb h.2.1, (hb.frozen (p := ⟨b, 0, none⟩) hl).trans h.2.2.1, (hb.frozen (p := ⟨b, 1, none⟩) hl).trans h.2.2.2⟩
theorem VbC.set {w : World} {b : Nat} {x y : Int} (h : VbC b x y w) (x' y' : Int) : VbC b x' y' ((w.setCell ⟨b, 0, none⟩ (.int .i64 x')).setCell ⟨b, 1, none⟩ (.int .i64 y')) := by
  obtain ⟨h0, h1, h2, h3⟩ := h
  refine ⟨?_, ?_, ?_, ?_⟩ <;> simp [go_sem, h0, h1, h2, h3]
theorem RfC.far {w : World} {B c : Nat} {x y a b : Int} (h : RfC B x y a b w) (hc : B + 1 < c) (u v : Value) : RfC B x y a b ((w.setCell ⟨c, 0, none⟩ u).setCell ⟨c, 1, none⟩ v) := by
  obtain ⟨⟨h1, h2⟩, ⟨h3, h4, h5, h6⟩⟩ := h
  have n1 : B ≠ c := by omega
  have n2 : c ≠ B := by omega
  have n3 : B + 1 ≠ c := by omega
  have n4 : c ≠ B + 1 := by omega
  refine ⟨⟨?_, ?_⟩, ⟨?_, ?_, ?_, ?_⟩⟩ <;> simp [go_sem, h1, h2, h3, h4, h5, h6]

set_option maxRecDepth 100000 in
set_option maxHeartbeats 4000000 in
theorem refEval8_any (va : Value) (l : List (Int × Int)) (x y : Int) (w : World) (ha : Sn w va l) :
    Calls Try.prog 14 #[va, .agg #[.int .i64 x, .int .i64 y]] w fun e w' => e = .returned (spV (evR l x y)) ∧ Below w.heap.size w w' := by
  have hc := fun w1 (hb : Below w.heap.size w w1) => refCheck8_any va l x y w1 (ha.keep hb)
  have b0 := ((Below.refl w.heap.size w).alloc (Nat.le_refl _) (.cells #[.int .i64 x, .int .i64 y] 24)).alloc (by simp) (.cells #[.int .i64 0, .int .i64 0] 24)
  have k0 : RfC w.heap.size x y 0 0 ((w.alloc (.cells #[.int .i64 x, .int .i64 y] 24)).alloc (.cells #[.int .i64 0, .int .i64 0] 24)) := by
    refine ⟨⟨?_, ?_⟩, ⟨?_, ?_, ?_, ?_⟩⟩ <;> simp [go_sem]
  by_cases z : ckL l x y = 0
  · have hR := Lib.hid (show evR l x y = pvl x y l by unfold evR; rw [if_pos z])
    rw [z] at hc
    obtain ⟨hl8, _, _⟩ := ckL_zero z
    clear z
    by_cases h0 : l.length = 0
    · have hR2 := Lib.hid (show pvl x y l = (0, 0, 0) by rw [List.length_eq_zero_iff.1 h0]; rfl)
      obtain ⟨pa, ca, rfl, _, _⟩ := ha
      rw [h0] at hc ⊢
      clear h0 hl8
      go_enter Try.func14, Try.ntmps14
      go_wp2_with fail
      go_at_call 30
      refine (hc _ b0).mono ?_
      rintro e w1 ⟨rfl, hb1⟩
      obtain ⟨_, ⟨z0, z1, f0, f1⟩⟩ := k0.keep hb1
      have b1 : Below w.heap.size w w1 := b0.trans (hb1.mono (by simp; omega))
      go_wp2
      exact bodyPost_ret (v := .tuple #[.agg #[.int .i64 0, .int .i64 0], .int .i64 0]) (by simp [results, Try.results14, go_sem, z0, z1]) rfl ⟨by rw [hR.out, hR2.out], by (repeat (first | with_reducible exact Below.refl _ _ | with_reducible assumption | refine Below.alloc ?_ (by (try simp); try omega) _ | refine Below.setCell ?_ (by (try simp); try omega) _ | refine below_drewN ?_ _ | refine Below.drew ?_ | (with_reducible refine Below.trans ?_ (Below.mono (by assumption) (by (try simp); try omega)))))⟩
    · obtain ⟨n, hn⟩ : ∃ n, l.length = n + 1 := ⟨l.length - 1, by omega⟩
      have hlast := pvl_last x y l n hn.symm
      have hat := fun i (h : i + 1 < l.length) => pvl_at x y l i h
      have hst' := fun j hj h => Lib.hid (pvl_stick x y l j hj h)
      have h00 := Lib.hid (show pvl x y (l.drop 0) = pvl x y l by rw [List.drop_zero])
      obtain ⟨pa, ca, rfl, _, hpa⟩ := ha
      obtain ⟨b, off, rfl, hcs⟩ := hpa (by omega)
      have hb := World.block_lt_of_cell? w _ (hcs 0 (by omega)).1
      simp at hb
      obtain ⟨m, hm⟩ : ∃ m, l.length = m := ⟨_, rfl⟩
      rw [hm] at hcs hat hst' hn hc hl8 ⊢
      have hz : ((m : Int) == 0) = false := by simp; omega
      have hs1 : (m : Int) - 1 = (n : Int) := by omega
      have hs2 : (m : Int) - 2 = (n : Int) - 1 := by omega
      have hlt : n < m := by omega
      have Hn := Lib.hid hn
      clear hpa h0 hn hm
      go_enter Try.func14, Try.ntmps14
      go_wp2_with fail
      go_at_call 30
      refine (hc _ b0).mono ?_
      rintro e w1 ⟨rfl, hb1⟩
      have k1 := k0.keep hb1
      have b1 : Below w.heap.size w w1 := b0.trans (hb1.mono (by simp; omega))
      have l1 : w.heap.size + 1 < w1.heap.size := by have := hb1.size; simp at this; omega
      obtain ⟨c0, c1⟩ := hcs n hlt
      replace c0 := bkeep b1 c0
      replace c1 := bkeep b1 c1
      obtain ⟨d0, hd0⟩ : ∃ d0, (pf l n).1 = d0 := ⟨_, rfl⟩
      obtain ⟨d1, hd1⟩ : ∃ d1, (pf l n).2 = d1 := ⟨_, rfl⟩
      rw [hd0, hd1] at hlast
      rw [hd0] at c0
      rw [hd1] at c1
      have k2 := k1.keep ((Below.refl _ _).alloc (Nat.le_refl _) (.cells #[.int .i64 d0, .int .i64 d1] 24))
      have v2 : VbC w1.heap.size d0 d1 (w1.alloc (.cells #[.int .i64 d0, .int .i64 d1] 24)) := ⟨by simp, by simp, by simp, by simp⟩
      have b2 : Below w.heap.size w (w1.alloc (.cells #[.int .i64 d0, .int .i64 d1] 24)) := b1.alloc b1.size _
      have hlast' : Hid (pvl x y (l.drop n) = (d0, d1, 0)) := Lib.hid hlast
      have Hat := Lib.hid hat
      clear hc b0 k0 hb1 k1 b1 hd0 hd1 hlast hat
      go_wp2
      go_loopw [8] (fun i wr => ∃ j : Nat, i = .int .i64 ((j : Int) - 1) ∧ j ≤ n ∧ (∃ a c : Int, Hid (pvl x y (l.drop j) = (a, c, 0)) ∧ VbC w1.heap.size a c wr) ∧ RfC w.heap.size x y 0 0 wr ∧ Below w.heap.size w wr ∧ w1.heap.size < wr.heap.size)
        (fun i _ => (intOf i + 1).toNat)
      case atStart => exact ⟨n, by simp, Nat.le_refl _, ⟨d0, d1, hlast', v2⟩, k2, b2, by simp⟩
      case round =>
        obtain ⟨j, rfl, hj, ⟨a, c, hv, V⟩, K, hB, hz1⟩ := hrel
        clear hlast' v2 k2 b2 c0 c1
        have V' := V
        have K' := K
        obtain ⟨vc0, vc1, vf0, vf1⟩ := V'
        obtain ⟨⟨s0, s1⟩, ⟨z0, z1, f0, f1⟩⟩ := K'
        by_cases hj' : 0 < j
        · obtain ⟨i, rfl⟩ : ∃ i, j = i + 1 := ⟨j - 1, by omega⟩
          have ej : ((i + 1 : Nat) : Int) - 1 = (i : Int) := by omega
          rw [ej]
          obtain ⟨c0, c1⟩ := hcs i (by omega)
          have hai := Hat.out i (by omega)
          rw [hv.out] at hai
          have hsti := hst' i (by omega)
          replace c0 := bkeep hB c0
          replace c1 := bkeep hB c1
          obtain ⟨g0, hg0⟩ : ∃ g0, (pf l i).1 = g0 := ⟨_, rfl⟩
          obtain ⟨g1, hg1⟩ : ∃ g1, (pf l i).2 = g1 := ⟨_, rfl⟩
          rw [hg0] at c0
          rw [hg1] at c1
          obtain ⟨⟨r0, r1, r2⟩, hm⟩ : ∃ q, sMulR a c x y = q := ⟨_, rfl⟩
          have hmul := fun w => rMul_any a c x y w
          rw [hm] at hmul
          clear ej hst' hcs hv
          by_cases zr : r2 = 0
          · subst zr
            obtain ⟨⟨t0, t1, t2⟩, ht⟩ : ∃ q, sAddR r0 r1 g0 g1 = q := ⟨_, rfl⟩
            have hnext : pvl x y (l.drop i) = (t0, t1, t2) := by
              rw [hai]; unfold hst; simp only [if_true, hm, hg0, hg1]; exact ht
            have hadd := fun w => rAdd_any r0 r1 g0 g1 w
            rw [ht] at hadd
            have haerr : t2 ≠ 0 → t0 = 0 ∧ t1 = 0 := fun h => by
              have e := add_err (a := r0) (b := r1) (c := g0) (d := g1) (by rw [ht]; exact h)
              rw [ht] at e
              simp only [Prod.mk.injEq] at e
              exact ⟨e.1, e.2.1⟩
            rw [hnext] at hsti
            replace hnext := Lib.hid hnext
            clear hai hm ht hg0 hg1
            go_wp2_with fail
            go_at_call 31
            refine (hmul _).mono ?_
            rintro e w5 ⟨rfl, hb5⟩
            have V5 := V.keep hb5
            have K5 := K.keep hb5
            have V6 := V5.keep ((Below.refl _ _).alloc (Nat.le_refl _) (.cells #[.int .i64 r0, .int .i64 r1] 24))
            have K6 := K5.keep ((Below.refl _ _).alloc (Nat.le_refl _) (.cells #[.int .i64 r0, .int .i64 r1] 24))
            have B5 : Below w.heap.size w w5 := hB.trans (hb5.mono hB.size)
            have c05 := bkeep hb5 c0
            have c15 := bkeep hb5 c1
            have lz5 : w1.heap.size < w5.heap.size := by have := hb5.size; omega
            have lb5 : b < w5.heap.size := by omega
            have n5 : w1.heap.size ≠ w5.heap.size := by omega
            have n6 : b ≠ w5.heap.size := by omega
            clear V K c0 c1 vc0 vc1 vf0 vf1 s0 s1 z0 z1 f0 f1 hmul
            by_cases zt : t2 = 0
            · subst zt
              go_wp2
              go_region_with (go_at_call 32; (with_reducible refine (hadd _).mono ?_); rintro e w6 ⟨rfl, hb6⟩; replace hb6 := undrewQ hb6; have V7 := V6.keep hb6; have y0 := V7.1; have y1 := V7.2.1; have y2 := V7.2.2.1; have y3 := V7.2.2.2; have K7 := K6.keep hb6; have B7 : Below w.heap.size w w6 := (B5.alloc B5.size _).trans (hb6.mono (by have := B5.size; simp; omega)))
              all_goals
                go_wp2
                go_roundw
                case rel => exact ⟨i, by simp, by omega, ⟨t0, t1, hnext, V7.set t0 t1⟩, K7.far (by omega) _ _, (B7.setCell (p := ⟨w1.heap.size, 0, none⟩) (by simp; omega) _).setCell (p := ⟨w1.heap.size, 1, none⟩) (by simp; omega) _, by have := hb6.size; simp at this ⊢; omega⟩
                case measure => simp [intOf] <;> omega
            · obtain ⟨rfl, rfl⟩ := haerr zt
              have hS := hsti zt
              have zt' : (t2 != 0) = true := by simpa using zt
              clear hsti
              go_wp2
              go_region_with (go_at_call 32; (with_reducible refine (hadd _).mono ?_); rintro e w6 ⟨rfl, hb6⟩; replace hb6 := undrewQ hb6; have V7 := V6.keep hb6; have y0 := V7.1; have y1 := V7.2.1; have y2 := V7.2.2.1; have y3 := V7.2.2.2; have K7 := K6.keep hb6; have B7 : Below w.heap.size w w6 := (B5.alloc B5.size _).trans (hb6.mono (by have := B5.size; simp; omega)); have n7 : w.heap.size + 1 ≠ w1.heap.size := (by omega); have n8 : w1.heap.size ≠ w.heap.size + 1 := (by omega); have z0 := K7.2.1; have z1 := K7.2.2.1; have f0 := K7.2.2.2.1; have f1 := K7.2.2.2.2)
              all_goals
                go_wp2
                exact bodyPost_ret (v := .tuple #[.agg #[.int .i64 0, .int .i64 0], .int .i64 t2]) (by simp [results, Try.results14, go_sem, z0, z1]) rfl ⟨by rw [hR.out, hS.out], by have := B7.size; (repeat (first | with_reducible exact Below.refl _ _ | with_reducible assumption | refine Below.alloc ?_ (by (try simp); try omega) _ | refine Below.setCell ?_ (by (try simp); try omega) _ | refine below_drewN ?_ _ | refine Below.drew ?_ | (with_reducible refine Below.trans ?_ (Below.mono (by assumption) (by (try simp); try omega)))))⟩
          · have hme := mul_err (a := a) (b := c) (c := x) (d := y) (by rw [hm]; exact zr)
            rw [hm] at hme
            simp only [Prod.mk.injEq] at hme
            obtain ⟨rfl, rfl, _⟩ := hme
            have hnext : pvl x y (l.drop i) = (0, 0, r2) := by
              rw [hai]; unfold hst; simp only [if_true, hm, if_neg zr]
            rw [hnext] at hsti
            have hS := hsti zr
            have zr' : (r2 != 0) = true := by simpa using zr
            clear hai hm hg0 hg1 hnext hsti
            go_wp2_with fail
            go_at_call 31
            refine (hmul _).mono ?_
            rintro e w5 ⟨rfl, hb5⟩
            obtain ⟨_, ⟨z0', z1', f0', f1'⟩⟩ := K.keep hb5
            have B5 : Below w.heap.size w w5 := hB.trans (hb5.mono hB.size)
            have ls5 : w.heap.size + 1 < w5.heap.size := by have := hb5.size; omega
            clear z0 z1 f0 f1
            go_wp2
            exact bodyPost_ret (v := .tuple #[.agg #[.int .i64 0, .int .i64 0], .int .i64 r2]) (by simp [results, Try.results14, go_sem, z0', z1', ls5]) rfl ⟨by rw [hR.out, hS.out], by have := B5.size; (repeat (first | with_reducible exact Below.refl _ _ | with_reducible assumption | refine Below.alloc ?_ (by (try simp); try omega) _ | refine Below.setCell ?_ (by (try simp); try omega) _ | refine below_drewN ?_ _ | refine Below.drew ?_ | (with_reducible refine Below.trans ?_ (Below.mono (by assumption) (by (try simp); try omega)))))⟩
        · obtain rfl : j = 0 := by omega
          have hS := h00.out.symm.trans hv.out
          replace hS := Lib.hid hS
          have e1 : ((0 : Nat) : Int) - 1 = -1 := rfl
          rw [e1]
          clear hst' hcs hv
          go_wp2
          exact bodyPost_ret (v := .tuple #[.agg #[.int .i64 a, .int .i64 c], .int .i64 0]) (by simp [results, Try.results14, go_sem, z0, z1]) rfl ⟨by rw [hR.out, hS.out], by (repeat (first | with_reducible exact Below.refl _ _ | with_reducible assumption | refine Below.alloc ?_ (by (try simp); try omega) _ | refine Below.setCell ?_ (by (try simp); try omega) _ | refine below_drewN ?_ _ | refine Below.drew ?_ | (with_reducible refine Below.trans ?_ (Below.mono (by assumption) (by (try simp); try omega)))))⟩
  · have hR := Lib.hid (show evR l x y = (0, 0, ckL l x y) by unfold evR; rw [if_neg z])
    generalize ckL l x y = c at *
    have z' : (c != 0) = true := by simpa using z
    go_enter Try.func14, Try.ntmps14
    go_wp2_with fail
    go_at_call 30
    refine (hc _ b0).mono ?_
    rintro e w1 ⟨rfl, hb1⟩
    obtain ⟨_, ⟨z0, z1, f0, f1⟩⟩ := k0.keep hb1
    have b1 : Below w.heap.size w w1 := b0.trans (hb1.mono (by simp; omega))
    go_wp2
    exact bodyPost_ret (v := .tuple #[.agg #[.int .i64 0, .int .i64 0], .int .i64 c]) (by simp [results, Try.results14, go_sem, z0, z1]) rfl ⟨by rw [hR.out], by (repeat (first | with_reducible exact Below.refl _ _ | with_reducible assumption | refine Below.alloc ?_ (by (try simp); try omega) _ | refine Below.setCell ?_ (by (try simp); try omega) _ | refine below_drewN ?_ _ | refine Below.drew ?_ | (with_reducible refine Below.trans ?_ (Below.mono (by assumption) (by (try simp); try omega)))))⟩
end Go.Proofs.Ytdaignklmbmcnaa
