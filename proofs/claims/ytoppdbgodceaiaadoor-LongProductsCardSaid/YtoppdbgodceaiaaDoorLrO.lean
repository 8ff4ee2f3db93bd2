/-
  LongProducts: the walk.
-/
import Derived.Test.YtoppdbgodceaiaaDoorLrS
import Derived.Deep.Cut
namespace Go.Proofs.YtoppdbgodceaiaaDoor
open Go.RowKit

set_option maxRecDepth 100000 in
set_option maxHeartbeats 16000000 in
theorem longProducts_true (b1 : Bool) (s1 : Value) (l1 : List Int) (b2 : Bool) (s2 : Value) (l2 : List Int) (b3 : Bool) (k3 : Int) (s3 : Value) (m3 : List Int) (b4 : Bool) (k4 : Int) (s4 : Value) (m4 : List Int) (w : World) (hP : Pw w) (L1 : Ls w s1 l1) (L2 : Ls w s2 l2) (N1 : l1.length ≤ 9223372036854775807) (N2 : l2.length ≤ 9223372036854775807) (K30 : 0 ≤ k3) (K31 : k3 ≤ 255) (W3 : Wd w s3 m3) (K40 : 0 ≤ k4) (K41 : k4 ≤ 255) (W4 : Wd w s4 m4) :
    Calls Tryd.prog 5 #[.agg #[.bool b1, s1, .bool b2, s2, .bool b3, .int .u8 k3, s3, .bool b4, .int .u8 k4, s4]] w fun e w' => e = .returned (.bool true) ∧ Below w.heap.size w w' := by
  have L1' := L1
  have L2' := L2
  have W3' := W3
  have W4' := W4
  obtain ⟨q1, r1, rfl, _⟩ := L1'
  obtain ⟨q2, r2, rfl, _⟩ := L2'
  obtain ⟨q3, r3, rfl, _⟩ := W3'
  obtain ⟨q4, r4, rfl, _⟩ := W4'
  have hB : Below w.heap.size w (w.alloc (.cells #[.bool b1, .slice q1 l1.length r1, .bool b2, .slice q2 l2.length r2, .bool b3, .int .u8 k3, .slice q3 m3.length r3, .bool b4, .int .u8 k4, .slice q4 m4.length r4] 29)) := by (repeat (first | with_reducible exact Below.refl _ _ | with_reducible assumption | refine Below.alloc ?_ (by (try simp); try omega) _ | refine Below.setCell ?_ (by (try simp); try omega) _ | refine below_drewN ?_ _ | refine Below.drew ?_ | (with_reducible refine Below.trans ?_ (Below.mono (by assumption) (by (try simp); try omega)))))
  have c0 : (w.alloc (.cells #[.bool b1, .slice q1 l1.length r1, .bool b2, .slice q2 l2.length r2, .bool b3, .int .u8 k3, .slice q3 m3.length r3, .bool b4, .int .u8 k4, .slice q4 m4.length r4] 29)).cell? ⟨w.heap.size, 0, none⟩ = some (.bool b1) := by simp
  have c1 : (w.alloc (.cells #[.bool b1, .slice q1 l1.length r1, .bool b2, .slice q2 l2.length r2, .bool b3, .int .u8 k3, .slice q3 m3.length r3, .bool b4, .int .u8 k4, .slice q4 m4.length r4] 29)).cell? ⟨w.heap.size, 1, none⟩ = some (.slice q1 l1.length r1) := by simp
  have c2 : (w.alloc (.cells #[.bool b1, .slice q1 l1.length r1, .bool b2, .slice q2 l2.length r2, .bool b3, .int .u8 k3, .slice q3 m3.length r3, .bool b4, .int .u8 k4, .slice q4 m4.length r4] 29)).cell? ⟨w.heap.size, 2, none⟩ = some (.bool b2) := by simp
  have c3 : (w.alloc (.cells #[.bool b1, .slice q1 l1.length r1, .bool b2, .slice q2 l2.length r2, .bool b3, .int .u8 k3, .slice q3 m3.length r3, .bool b4, .int .u8 k4, .slice q4 m4.length r4] 29)).cell? ⟨w.heap.size, 3, none⟩ = some (.slice q2 l2.length r2) := by simp
  have c4 : (w.alloc (.cells #[.bool b1, .slice q1 l1.length r1, .bool b2, .slice q2 l2.length r2, .bool b3, .int .u8 k3, .slice q3 m3.length r3, .bool b4, .int .u8 k4, .slice q4 m4.length r4] 29)).cell? ⟨w.heap.size, 4, none⟩ = some (.bool b3) := by simp
  have c5 : (w.alloc (.cells #[.bool b1, .slice q1 l1.length r1, .bool b2, .slice q2 l2.length r2, .bool b3, .int .u8 k3, .slice q3 m3.length r3, .bool b4, .int .u8 k4, .slice q4 m4.length r4] 29)).cell? ⟨w.heap.size, 5, none⟩ = some (.int .u8 k3) := by simp
  have c6 : (w.alloc (.cells #[.bool b1, .slice q1 l1.length r1, .bool b2, .slice q2 l2.length r2, .bool b3, .int .u8 k3, .slice q3 m3.length r3, .bool b4, .int .u8 k4, .slice q4 m4.length r4] 29)).cell? ⟨w.heap.size, 6, none⟩ = some (.slice q3 m3.length r3) := by simp
  have c7 : (w.alloc (.cells #[.bool b1, .slice q1 l1.length r1, .bool b2, .slice q2 l2.length r2, .bool b3, .int .u8 k3, .slice q3 m3.length r3, .bool b4, .int .u8 k4, .slice q4 m4.length r4] 29)).cell? ⟨w.heap.size, 7, none⟩ = some (.bool b4) := by simp
  have c8 : (w.alloc (.cells #[.bool b1, .slice q1 l1.length r1, .bool b2, .slice q2 l2.length r2, .bool b3, .int .u8 k3, .slice q3 m3.length r3, .bool b4, .int .u8 k4, .slice q4 m4.length r4] 29)).cell? ⟨w.heap.size, 8, none⟩ = some (.int .u8 k4) := by simp
  have c9 : (w.alloc (.cells #[.bool b1, .slice q1 l1.length r1, .bool b2, .slice q2 l2.length r2, .bool b3, .int .u8 k3, .slice q3 m3.length r3, .bool b4, .int .u8 k4, .slice q4 m4.length r4] 29)).cell? ⟨w.heap.size, 9, none⟩ = some (.slice q4 m4.length r4) := by simp
  have hi0 : ∀ (p q : Bool) (a b : Option Addr) (n m c d : Nat) w, (Instr.index 35 (.agg #[.bool p, .slice a n c, .bool q, .slice b m d]) (.int .i64 0)).run Tryd.prog w = .ok (.agg #[.bool p, .slice a n c]) w := fun _ _ _ _ _ _ _ _ _ => by kernel_rfl
  have hi1 : ∀ (p q : Bool) (a b : Option Addr) (n m c d : Nat) w, (Instr.index 35 (.agg #[.bool p, .slice a n c, .bool q, .slice b m d]) (.int .i64 1)).run Tryd.prog w = .ok (.agg #[.bool q, .slice b m d]) w := fun _ _ _ _ _ _ _ _ _ => by kernel_rfl
  go_enter Tryd.func5, Tryd.ntmps5
  go_wp2_with fail
  generalize w.alloc (.cells #[.bool b1, .slice q1 l1.length r1, .bool b2, .slice q2 l2.length r2, .bool b3, .int .u8 k3, .slice q3 m3.length r3, .bool b4, .int .u8 k4, .slice q4 m4.length r4] 29) = w1 at *
  obtain ⟨g, hg⟩ : ∃ g, w.heap.size = g := ⟨_, rfl⟩
  simp only [hg] at c0 c1 c2 c3 c4 c5 c6 c7 c8 c9 ⊢
  rw [← hg]
  go_at_call 16
  refine (works_true _ (hP.keep hB)).mono ?_
  rintro e u1 ⟨rfl, hb⟩
  have hk : Below w1.heap.size w1 u1 := by (repeat (first | with_reducible exact Below.refl _ _ | with_reducible assumption | refine Below.alloc ?_ (by (try simp); try omega) _ | refine Below.setCell ?_ (by (try simp); try omega) _ | refine below_drewN ?_ _ | refine Below.drew ?_ | (with_reducible refine Below.trans ?_ (Below.mono (by assumption) (by (try simp); try omega)))))
  clear hb
  replace c0 := lkeep hk c0
  replace c1 := lkeep hk c1
  replace c2 := lkeep hk c2
  replace c3 := lkeep hk c3
  replace c4 := lkeep hk c4
  replace c5 := lkeep hk c5
  replace c6 := lkeep hk c6
  replace c7 := lkeep hk c7
  replace c8 := lkeep hk c8
  replace c9 := lkeep hk c9
  replace hB := hB.trans (hk.mono hB.size)
  clear hk
  go_wp2_with fail
  go_at_call 20
  refine (pairs_any b1 _ l1 b2 _ l2 b3 k3 _ m3 b4 k4 _ m4 _ (L1.keep hB) (L2.keep hB) N1 N2 K30 K31 (W3.keep hB) K40 K41 (W4.keep hB)).mono ?_
  rintro e u2 ⟨B, f, rfl, PB, hb⟩
  have hk : Below u1.heap.size u1 u2 := by (repeat (first | with_reducible exact Below.refl _ _ | with_reducible assumption | refine Below.alloc ?_ (by (try simp); try omega) _ | refine Below.setCell ?_ (by (try simp); try omega) _ | refine below_drewN ?_ _ | refine Below.drew ?_ | (with_reducible refine Below.trans ?_ (Below.mono (by assumption) (by (try simp); try omega)))))
  clear hb
  clear c0 c1 c2 c3 c4 c5 c6 c7 c8 c9
  replace hB := hB.trans (hk.mono hB.size)
  clear hk
  clear L1 L2 W3 W4
  go_wp2
  go_loopw [24] (fun i wr => ∃ k : Nat, i = .int .i64 k ∧ k ≤ 4 ∧ Prs wr B f ∧ Below w.heap.size w wr)
    (fun i _ => 4 - (intOf i).toNat)
  case atStart => exact ⟨0, rfl, by omega, PB, hB⟩
  case round =>
    clear PB hB
    obtain ⟨k, rfl, hk, PB, hB⟩ := hrel
    by_cases hk4 : k = 4
    · subst hk4; clear PB; go_wp2; go_ret; exact ⟨rfl, hB⟩
    have hk' : k < 4 := by omega
    have hki : (k : Int) < 4 := by omega
    have hk1 : k + 1 ≤ 4 := by omega
    obtain ⟨a0, n0, j0, x0, x1, XL⟩ := PB.at0 k hk'
    obtain ⟨a1, n1, j1, y0, y1, YL⟩ := PB.at1 k hk'
    have len0 := PB.len0 k hk'
    have len1 := PB.len1 k hk'
    generalize (f k).1 = p at x0
    generalize (f k).2.1 = l at XL len0
    generalize (f k).2.2.1 = p' at y0
    generalize (f k).2.2.2 = l' at YL len1
    replace hk4 := Lib.hid hk4
    simp only [Nat.mul_comm 4 k] at x0 x1 y0 y1
    go_upto_region 6 with fail
    obtain ⟨d0, d1, d2, d3⟩ := cell4 (w := wr) (.bool p) (.slice a0 n0 j0) (.bool p') (.slice a1 n1 j1) 35
    have hB1 : Below w.heap.size w (wr.alloc (.cells #[.bool p, .slice a0 n0 j0, .bool p', .slice a1 n1 j1] 35)) := hB.alloc hB.size _
    have hb : Below wr.heap.size wr (wr.alloc (.cells #[.bool p, .slice a0 n0 j0, .bool p', .slice a1 n1 j1] 35)) := (Below.refl _ _).alloc (Nat.le_refl _) _
    replace PB := PB.keep hb
    replace XL := XL.keep hb
    replace YL := YL.keep hb
    clear hb hB x0 x1 y0 y1
    generalize wr.alloc (.cells #[.bool p, .slice a0 n0 j0, .bool p', .slice a1 n1 j1] 35) = v0 at *
    generalize wr.heap.size = g0 at *
    go_cut [5, 6, 11, 19, 20, 21, 22, 23, 24] from 7 (fun v5 v6 v11 v19 v20 v21 v22 v23 v24 wx => ∃ (ga gb : Nat) (aA : Option Addr) (nA kA : Nat) (aB : Option Addr) (nB kB : Nat), v5 = .pointer (some ⟨ga, 0, none⟩) ∧ v6 = .pointer (some ⟨gb, 0, none⟩) ∧ v11 = undef ∧ v19 = .bool true ∧ v20 = .bool false ∧ v21 = .agg #[.bool b1, .slice q1 l1.length r1, .bool b2, .slice q2 l2.length r2, .bool b3, .int .u8 k3, .slice q3 m3.length r3, .bool b4, .int .u8 k4, .slice q4 m4.length r4] ∧ v22 = .slice (some ⟨B, 0, none⟩) 4 4 ∧ v23 = .int .i64 4 ∧ v24 = .int .i64 (k : Int) ∧ Bx wx ga (.bool p) (.slice aA nA kA) 24 ∧ Bx wx gb (.bool p') (.slice aB nB kB) 24 ∧ Ls wx (.slice aA nA kA) l ∧ Ls wx (.slice aB nB kB) l' ∧ (v0.heap.size ≤ ga ∧ v0.heap.size ≤ gb) ∧ ga ≠ gb ∧ Below v0.heap.size v0 wx)
    case first =>
      have hB := Below.refl v0.heap.size v0
      have t1 : l.take 60 = l := List.take_of_length_le len0
      have t2 : l'.take 60 = l' := List.take_of_length_le len1
      have ho1 := fun w h => own_any p (.slice a0 n0 j0) l w h (by omega)
      have ho2 := fun w h => own_any p' (.slice a1 n1 j1) l' w h (by omega)
      rw [t1] at ho1
      rw [t2] at ho2
      replace ho1 := Lib.hid ho1
      replace ho2 := Lib.hid ho2
      have HX := Lib.hid XL
      have HY := Lib.hid YL
      clear PB XL YL hB1 t1 t2
      have hS : ∀ W, Below v0.heap.size v0 W → W.cell? ⟨g0, 0, none⟩ = some (.bool p) ∧ W.cell? ⟨g0, 1, none⟩ = some (.slice a0 n0 j0) ∧ W.cell? ⟨g0, 2, none⟩ = some (.bool p') ∧ W.cell? ⟨g0, 3, none⟩ = some (.slice a1 n1 j1) := fun W h => ⟨cell2 d0 h, cell2 d1 h, cell2 d2 h, cell2 d3 h⟩
      refine wp_region_inv (by kernel_rfl) (by kernel_rfl) (fun A listed a' w' => ∃ (l0 l1 l2 l3 l4 l5 l6 l7 l8 l9 : Bool) (x28 x29 x30 x31 x32 x33 x5 x6 : Value), (listed.getD 0 false = l0 ∧ listed.getD 1 false = l1 ∧ listed.getD 2 false = l2 ∧ listed.getD 3 false = l3 ∧ listed.getD 4 false = l4 ∧ listed.getD 5 false = l5 ∧ listed.getD 6 false = l6 ∧ listed.getD 7 false = l7 ∧ listed.getD 8 false = l8 ∧ listed.getD 9 false = l9) ∧ a' = ((((((((A.put (some 28) x28).put (some 29) x29).put (some 30) x30).put (some 31) x31).put (some 32) x32).put (some 33) x33).put (some 5) x5).put (some 6) x6) ∧ (l0 = true → x28 = .pointer (some ⟨g0, 0, none⟩)) ∧ (l1 = true → x29 = .agg #[.bool p, .slice a0 n0 j0]) ∧ (l2 = true → OwnV p l w' x30) ∧ (l3 = true → x31 = .pointer (some ⟨g0, 2, none⟩)) ∧ (l4 = true → x32 = .agg #[.bool p', .slice a1 n1 j1]) ∧ (l5 = true → OwnV p' l' w' x33) ∧ BxI v0.heap.size l6 l8 w' x5 x30 ∧ BxI v0.heap.size l7 l9 w' x6 x33 ∧ (l8 = true → l6 = true ∧ l2 = true) ∧ (l9 = true → l7 = true ∧ l5 = true) ∧ (l6 = true → l7 = true → x5 ≠ x6) ∧ Below v0.heap.size v0 w') ?_ ?_ ?_
      · refine ⟨false, false, false, false, false, false, false, false, false, false, ?_, ?_, ?_, ?_, ?_, ?_, ?_, ?_, ⟨rfl, rfl, rfl, rfl, rfl, rfl, rfl, rfl, rfl, rfl⟩, ?_, (fun h => by cases h), (fun h => by cases h), (fun h => by cases h), (fun h => by cases h), (fun h => by cases h), (fun h => by cases h), (fun h => by cases h), (fun h => by cases h), (fun h => by cases h), (fun h => by cases h), (fun h => by cases h), (Below.refl _ _).drew⟩
        rotate_left 8
        with_reducible refine put_ex ?_ ?_
        with_reducible refine put_ex ?_ ?_
        with_reducible refine put_ex ?_ ?_
        with_reducible refine put_ex ?_ ?_
        with_reducible refine put_ex ?_ ?_
        with_reducible refine put_ex ?_ ?_
        with_reducible refine put_ex ?_ ?_
        with_reducible refine put_ex ?_ ?_
        with_reducible rfl
        all_goals first | (show _ < Array.size _; simp only [List.size_toArray, List.length_cons, List.length_nil]; omega) | skip
      · rintro listed a' w' i hn ⟨l0, l1, l2, l3, l4, l5, l6, l7, l8, l9, x28, x29, x30, x31, x32, x33, x5, x6, ⟨h0, h1, h2, h3, h4, h5, h6, h7, h8, h9⟩, rfl, i0, i1, i2, i3, i4, i5, q6, q7, s8, s9, d6_7, hW⟩ hi hnl hdp
        have hi' : i < 10 := hi
        clear hi
        obtain ⟨f0, f1, f2, f3⟩ := hS _ hW
        rcases (by omega : i = 0 ∨ i = 1 ∨ i = 2 ∨ i = 3 ∨ i = 4 ∨ i = 5 ∨ i = 6 ∨ i = 7 ∨ i = 8 ∨ i = 9) with rfl | rfl | rfl | rfl | rfl | rfl | rfl | rfl | rfl | rfl
        · -- operation 0
          refine wpOp_step rfl (fun K hK => ?_)
          go_simp
          refine hK _ _ ⟨true, l1, l2, l3, l4, l5, l6, l7, l8, l9, .pointer (some ⟨g0, 0, none⟩), x29, x30, x31, x32, x33, x5, x6, ⟨getD_same (by rw [hn]; decide) _, (getD_other (by decide) _).trans h1, (getD_other (by decide) _).trans h2, (getD_other (by decide) _).trans h3, (getD_other (by decide) _).trans h4, (getD_other (by decide) _).trans h5, (getD_other (by decide) _).trans h6, (getD_other (by decide) _).trans h7, (getD_other (by decide) _).trans h8, (getD_other (by decide) _).trans h9⟩, by simp only [Act.put, List.setIfInBounds_toArray, List.set_cons_zero, List.set_cons_succ], fun _ => rfl, i1, i2, i3, i4, i5, q6, q7, s8, s9, d6_7, hW⟩
        · -- operation 1
          have k0 := hdp 0 (List.elem_iff.1 (by kernel_rfl)); rw [h0] at k0; subst k0
          obtain rfl := i0 rfl
          refine wpOp_step rfl (fun K hK => ?_)
          go_simp
          refine hK _ _ ⟨true, true, l2, l3, l4, l5, l6, l7, l8, l9, .pointer (some ⟨g0, 0, none⟩), .agg #[.bool p, .slice a0 n0 j0], x30, x31, x32, x33, x5, x6, ⟨(getD_other (by decide) _).trans h0, getD_same (by rw [hn]; decide) _, (getD_other (by decide) _).trans h2, (getD_other (by decide) _).trans h3, (getD_other (by decide) _).trans h4, (getD_other (by decide) _).trans h5, (getD_other (by decide) _).trans h6, (getD_other (by decide) _).trans h7, (getD_other (by decide) _).trans h8, (getD_other (by decide) _).trans h9⟩, by simp only [Act.put, List.setIfInBounds_toArray, List.set_cons_zero, List.set_cons_succ], fun _ => rfl, fun _ => rfl, i2, i3, i4, i5, q6, q7, s8, s9, d6_7, hW⟩
        · -- operation 2
          have k1 := hdp 1 (List.elem_iff.1 (by kernel_rfl)); rw [h1] at k1; subst k1
          obtain rfl := i1 rfl
          have e8 : l8 = false := by cases l8; rfl; have := (s8 rfl).2; subst this; rw [hnl] at h2; cases h2
          subst e8
          refine wpOp_step rfl (fun K hK => ?_)
          go_simp
          go_at_call 28
          refine (ho1.out _ (HX.out.keep hW)).mono ?_
          rintro e uz ⟨aA, nA, kA, rfl, LA, hb⟩
          try go_simp
          refine hK _ _ ⟨l0, true, true, l3, l4, l5, l6, l7, false, l9, x28, .agg #[.bool p, .slice a0 n0 j0], _, x31, x32, x33, x5, x6, ⟨(getD_other (by decide) _).trans h0, (getD_other (by decide) _).trans h1, getD_same (by rw [hn]; decide) _, (getD_other (by decide) _).trans h3, (getD_other (by decide) _).trans h4, (getD_other (by decide) _).trans h5, (getD_other (by decide) _).trans h6, (getD_other (by decide) _).trans h7, (getD_other (by decide) _).trans h8, (getD_other (by decide) _).trans h9⟩, by simp only [Act.put, List.setIfInBounds_toArray, List.set_cons_zero, List.set_cons_succ], i0, fun _ => rfl, fun _ => ⟨aA, nA, kA, rfl, LA⟩, i3, i4, (fun h => (i5 h).keep hb), (q6.keep hb).val, (q7.keep hb), (fun h => by cases h), s9, d6_7, (hW.trans (hb.mono hW.size))⟩
        · -- operation 3
          refine wpOp_step rfl (fun K hK => ?_)
          go_simp
          refine hK _ _ ⟨l0, l1, l2, true, l4, l5, l6, l7, l8, l9, x28, x29, x30, .pointer (some ⟨g0, 2, none⟩), x32, x33, x5, x6, ⟨(getD_other (by decide) _).trans h0, (getD_other (by decide) _).trans h1, (getD_other (by decide) _).trans h2, getD_same (by rw [hn]; decide) _, (getD_other (by decide) _).trans h4, (getD_other (by decide) _).trans h5, (getD_other (by decide) _).trans h6, (getD_other (by decide) _).trans h7, (getD_other (by decide) _).trans h8, (getD_other (by decide) _).trans h9⟩, by simp only [Act.put, List.setIfInBounds_toArray, List.set_cons_zero, List.set_cons_succ], i0, i1, i2, fun _ => rfl, i4, i5, q6, q7, s8, s9, d6_7, hW⟩
        · -- operation 4
          have k3 := hdp 3 (List.elem_iff.1 (by kernel_rfl)); rw [h3] at k3; subst k3
          obtain rfl := i3 rfl
          refine wpOp_step rfl (fun K hK => ?_)
          go_simp
          refine hK _ _ ⟨l0, l1, l2, true, true, l5, l6, l7, l8, l9, x28, x29, x30, .pointer (some ⟨g0, 2, none⟩), .agg #[.bool p', .slice a1 n1 j1], x33, x5, x6, ⟨(getD_other (by decide) _).trans h0, (getD_other (by decide) _).trans h1, (getD_other (by decide) _).trans h2, (getD_other (by decide) _).trans h3, getD_same (by rw [hn]; decide) _, (getD_other (by decide) _).trans h5, (getD_other (by decide) _).trans h6, (getD_other (by decide) _).trans h7, (getD_other (by decide) _).trans h8, (getD_other (by decide) _).trans h9⟩, by simp only [Act.put, List.setIfInBounds_toArray, List.set_cons_zero, List.set_cons_succ], i0, i1, i2, fun _ => rfl, fun _ => rfl, i5, q6, q7, s8, s9, d6_7, hW⟩
        · -- operation 5
          have k4 := hdp 4 (List.elem_iff.1 (by kernel_rfl)); rw [h4] at k4; subst k4
          have k2 := hdp 2 (List.elem_iff.1 (by kernel_rfl)); rw [h2] at k2; subst k2
          obtain rfl := i4 rfl
          have e9 : l9 = false := by cases l9; rfl; have := (s9 rfl).2; subst this; rw [hnl] at h5; cases h5
          subst e9
          refine wpOp_step rfl (fun K hK => ?_)
          go_simp
          go_at_call 28
          refine (ho2.out _ (HY.out.keep hW)).mono ?_
          rintro e uz ⟨aB, nB, kB, rfl, LB, hb⟩
          try go_simp
          refine hK _ _ ⟨l0, l1, true, l3, true, true, l6, l7, l8, false, x28, x29, x30, x31, .agg #[.bool p', .slice a1 n1 j1], _, x5, x6, ⟨(getD_other (by decide) _).trans h0, (getD_other (by decide) _).trans h1, (getD_other (by decide) _).trans h2, (getD_other (by decide) _).trans h3, (getD_other (by decide) _).trans h4, getD_same (by rw [hn]; decide) _, (getD_other (by decide) _).trans h6, (getD_other (by decide) _).trans h7, (getD_other (by decide) _).trans h8, (getD_other (by decide) _).trans h9⟩, by simp only [Act.put, List.setIfInBounds_toArray, List.set_cons_zero, List.set_cons_succ], i0, i1, (fun h => (i2 h).keep hb), i3, fun _ => rfl, fun _ => ⟨aB, nB, kB, rfl, LB⟩, (q6.keep hb), (q7.keep hb).val, s8, (fun h => by cases h), d6_7, (hW.trans (hb.mono hW.size))⟩
        · -- operation 6
          have e8 : l8 = false := by cases l8; rfl; have := (s8 rfl).1; subst this; rw [hnl] at h6; cases h6
          subst e8
          refine wpOp_step rfl (fun K hK => ?_)
          go_simp
          refine hK _ _ ⟨l0, l1, l2, l3, l4, l5, true, l7, false, l9, x28, x29, x30, x31, x32, x33, _, x6, ⟨(getD_other (by decide) _).trans h0, (getD_other (by decide) _).trans h1, (getD_other (by decide) _).trans h2, (getD_other (by decide) _).trans h3, (getD_other (by decide) _).trans h4, (getD_other (by decide) _).trans h5, getD_same (by rw [hn]; decide) _, (getD_other (by decide) _).trans h7, (getD_other (by decide) _).trans h8, (getD_other (by decide) _).trans h9⟩, by simp only [Act.put, List.setIfInBounds_toArray, List.set_cons_zero, List.set_cons_succ], i0, i1, (fun h => (i2 h).allocI _), i3, i4, (fun h => (i5 h).allocI _), (fun _ => ⟨_, _, _, _, _, rfl, hW.size, Bx.new _ _ _ _, (fun h => by cases h)⟩), (q7.alloc _), (fun h => by cases h), s9, (fun _ h => (q7.ne h).symm), (hW.alloc hW.size _)⟩
        · -- operation 7
          have e9 : l9 = false := by cases l9; rfl; have := (s9 rfl).1; subst this; rw [hnl] at h7; cases h7
          subst e9
          refine wpOp_step rfl (fun K hK => ?_)
          go_simp
          refine hK _ _ ⟨l0, l1, l2, l3, l4, l5, l6, true, l8, false, x28, x29, x30, x31, x32, x33, x5, _, ⟨(getD_other (by decide) _).trans h0, (getD_other (by decide) _).trans h1, (getD_other (by decide) _).trans h2, (getD_other (by decide) _).trans h3, (getD_other (by decide) _).trans h4, (getD_other (by decide) _).trans h5, (getD_other (by decide) _).trans h6, getD_same (by rw [hn]; decide) _, (getD_other (by decide) _).trans h8, (getD_other (by decide) _).trans h9⟩, by simp only [Act.put, List.setIfInBounds_toArray, List.set_cons_zero, List.set_cons_succ], i0, i1, (fun h => (i2 h).allocI _), i3, i4, (fun h => (i5 h).allocI _), (q6.alloc _), (fun _ => ⟨_, _, _, _, _, rfl, hW.size, Bx.new _ _ _ _, (fun h => by cases h)⟩), s8, (fun h => by cases h), (fun h _ => q6.ne h), (hW.alloc hW.size _)⟩
        · -- operation 8
          have k6 := hdp 6 (List.elem_iff.1 (by kernel_rfl)); rw [h6] at k6; subst k6
          have k2 := hdp 2 (List.elem_iff.1 (by kernel_rfl)); rw [h2] at k2; subst k2
          obtain ⟨aA, nA, kA, rfl, LA⟩ := i2 rfl
          obtain ⟨gx, b0, e0', n0', k0', rfl, hgx, hbx, hst⟩ := q6 rfl
          have r0 := hbx.c0
          have r1 := hbx.c1
          have z0 := hbx.f 0
          have z1 := hbx.f 1
          refine wpOp_step rfl (fun K hK => ?_)
          go_simp
          refine hK _ _ ⟨l0, l1, true, l3, l4, l5, true, l7, true, l9, x28, x29, _, x31, x32, x33, _, x6, ⟨(getD_other (by decide) _).trans h0, (getD_other (by decide) _).trans h1, (getD_other (by decide) _).trans h2, (getD_other (by decide) _).trans h3, (getD_other (by decide) _).trans h4, (getD_other (by decide) _).trans h5, (getD_other (by decide) _).trans h6, (getD_other (by decide) _).trans h7, getD_same (by rw [hn]; decide) _, (getD_other (by decide) _).trans h9⟩, by simp only [Act.put, List.setIfInBounds_toArray, List.set_cons_zero, List.set_cons_succ], i0, i1, (fun _ => OwnV.put ⟨aA, nA, kA, rfl, LA⟩ hbx _ _ _ _), i3, i4, (fun h => (i5 h).put hbx _ _ _ _), (fun _ => ⟨_, _, _, _, _, rfl, hgx, hbx.putP _ _, fun _ => rfl⟩), (q7.far (fun h e => d6_7 rfl h e.symm) _ _), (fun _ => ⟨rfl, rfl⟩), s9, d6_7, ((hW.setCell hgx _).setCell hgx _)⟩
        · -- operation 9
          have k7 := hdp 7 (List.elem_iff.1 (by kernel_rfl)); rw [h7] at k7; subst k7
          have k5 := hdp 5 (List.elem_iff.1 (by kernel_rfl)); rw [h5] at k5; subst k5
          obtain ⟨aB, nB, kB, rfl, LB⟩ := i5 rfl
          obtain ⟨gx, b0, e0', n0', k0', rfl, hgx, hbx, hst⟩ := q7 rfl
          have r0 := hbx.c0
          have r1 := hbx.c1
          have z0 := hbx.f 0
          have z1 := hbx.f 1
          refine wpOp_step rfl (fun K hK => ?_)
          go_simp
          refine hK _ _ ⟨l0, l1, l2, l3, l4, true, l6, true, l8, true, x28, x29, x30, x31, x32, _, x5, _, ⟨(getD_other (by decide) _).trans h0, (getD_other (by decide) _).trans h1, (getD_other (by decide) _).trans h2, (getD_other (by decide) _).trans h3, (getD_other (by decide) _).trans h4, (getD_other (by decide) _).trans h5, (getD_other (by decide) _).trans h6, (getD_other (by decide) _).trans h7, (getD_other (by decide) _).trans h8, getD_same (by rw [hn]; decide) _⟩, by simp only [Act.put, List.setIfInBounds_toArray, List.set_cons_zero, List.set_cons_succ], i0, i1, (fun h => (i2 h).put hbx _ _ _ _), i3, i4, (fun _ => OwnV.put ⟨aB, nB, kB, rfl, LB⟩ hbx _ _ _ _), (q6.far (fun h e => d6_7 h rfl e) _ _), (fun _ => ⟨_, _, _, _, _, rfl, hgx, hbx.putP _ _, fun _ => rfl⟩), s8, (fun _ => ⟨rfl, rfl⟩), d6_7, ((hW.setCell hgx _).setCell hgx _)⟩
      · rintro listed a' w' ⟨l0, l1, l2, l3, l4, l5, l6, l7, l8, l9, x28, x29, x30, x31, x32, x33, x5, x6, ⟨h0, h1, h2, h3, h4, h5, h6, h7, h8, h9⟩, rfl, i0, i1, i2, i3, i4, i5, q6, q7, s8, s9, d6_7, hW⟩ hall
        have k0 := hall 0 (by decide)
        rw [h0] at k0
        subst k0
        have k1 := hall 1 (by decide)
        rw [h1] at k1
        subst k1
        have k2 := hall 2 (by decide)
        rw [h2] at k2
        subst k2
        have k3 := hall 3 (by decide)
        rw [h3] at k3
        subst k3
        have k4 := hall 4 (by decide)
        rw [h4] at k4
        subst k4
        have k5 := hall 5 (by decide)
        rw [h5] at k5
        subst k5
        have k6 := hall 6 (by decide)
        rw [h6] at k6
        subst k6
        have k7 := hall 7 (by decide)
        rw [h7] at k7
        subst k7
        have k8 := hall 8 (by decide)
        rw [h8] at k8
        subst k8
        have k9 := hall 9 (by decide)
        rw [h9] at k9
        subst k9
        obtain rfl := i0 rfl
        obtain rfl := i1 rfl
        obtain rfl := i3 rfl
        obtain rfl := i4 rfl
        obtain ⟨aA, nA, kA, rfl, LA⟩ := i2 rfl
        obtain ⟨aB, nB, kB, rfl, LB⟩ := i5 rfl
        obtain ⟨g6, _, _, _, _, rfl, hg6, b6, e6⟩ := q6 rfl
        have e6' := e6 rfl
        obtain ⟨g7, _, _, _, _, rfl, hg7, b7, e7⟩ := q7 rfl
        have e7' := e7 rfl
        simp only [Value.agg.injEq, Array.mk.injEq, List.cons.injEq, Value.bool.injEq, Value.slice.injEq, and_true] at e6' e7'
        obtain ⟨rfl, rfl, rfl, rfl⟩ := e6'
        obtain ⟨rfl, rfl, rfl, rfl⟩ := e7'
        have n6_7 : g6 ≠ g7 := fun e => d6_7 rfl rfl (by rw [e])
        clear hall
        go_wp2_with fail
        go_meet
        exact ⟨g6, g7, _, _, _, _, _, _, rfl, rfl, rfl, rfl, rfl, rfl, rfl, rfl, rfl, b6, b7, LA, LB, ⟨hg6, hg7⟩, n6_7, hW⟩
    case rest =>
      obtain ⟨gbA, gbB, aA, nA, kA, aB, nB, kB, rfl, rfl, rfl, rfl, rfl, rfl, rfl, rfl, rfl, bA, bB, LA, LB, ⟨hga, hgb⟩, ltbAbB, hX⟩ := hcut
      replace PB := PB.keep hX
      replace XL := XL.keep hX
      replace YL := YL.keep hX
      replace d0 := lkeep hX d0
      replace d1 := lkeep hX d1
      replace d2 := lkeep hX d2
      replace d3 := lkeep hX d3
      have hB := hB1.trans (hX.mono hB1.size)
      clear hX hga hgb hB1
      obtain ⟨zM, eM, hzM, _, hM1, hM2⟩ := mul_both p p' l l' (by omega) (by omega)
      obtain ⟨zQ, zR, eQ, hzQ, hzR, hQ1, hQ2⟩ := div_both p p' l l' (by omega) (by omega)
      replace hM1 := Lib.hid hM1
      replace hM2 := Lib.hid hM2
      replace hQ1 := Lib.hid hQ1
      replace hQ2 := Lib.hid hQ2
      have rbA0 : wc.cell? ⟨gbA, 0, none⟩ = some (.bool p) := bA.c0
      have rbA1 : wc.cell? ⟨gbA, 1, none⟩ = some (.slice aA nA kA) := bA.c1
      have rbB0 : wc.cell? ⟨gbB, 0, none⟩ = some (.bool p') := bB.c0
      have rbB1 : wc.cell? ⟨gbB, 1, none⟩ = some (.slice aB nB kB) := bB.c1
      go_wp2_with fail
      clear rbA0 rbA1 rbB0 rbB1
      go_at_call 36
      refine (hM1.out _ _ _ LA LB).mono ?_
      rintro e u3 ⟨⟨pM, aMx, nMx, kMx, rfl, LM⟩, hb⟩
      have hk : Below wc.heap.size wc u3 := by (repeat (first | with_reducible exact Below.refl _ _ | with_reducible assumption | refine Below.alloc ?_ (by (try simp); try omega) _ | refine Below.setCell ?_ (by (try simp); try omega) _ | refine below_drewN ?_ _ | refine Below.drew ?_ | (with_reducible refine Below.trans ?_ (Below.mono (by assumption) (by (try simp); try omega)))))
      clear hb
      replace PB := PB.keep hk
      replace XL := XL.keep hk
      replace YL := YL.keep hk
      replace LA := LA.keep hk
      replace LB := LB.keep hk
      replace bA := bA.keep hk
      replace bB := bB.keep hk
      replace d0 := lkeep hk d0
      replace d1 := lkeep hk d1
      replace d2 := lkeep hk d2
      replace d3 := lkeep hk d3
      replace hB := hB.trans (hk.mono hB.size)
      clear hk
      have LsM := LM.parts.2
      have dlM : (dg (zM.natAbs : Int)).length ≤ 600 := by unfold Dl at hzM; omega
      obtain ⟨zU, zV, eU, hzU, hzV, hU1, hU2⟩ := div_both pM p' _ l' dlM (by omega)
      replace hU1 := Lib.hid hU1
      replace hU2 := Lib.hid hU2
      clear dlM
      have t0 : (u3.alloc (.cells #[.bool pM, .slice aMx nMx kMx] 24)).cell? ⟨g0, 0, none⟩ = some (.bool p) := (cellAlloc1 d0)
      have t1 : (u3.alloc (.cells #[.bool pM, .slice aMx nMx kMx] 24)).cell? ⟨g0, 1, none⟩ = some (.slice a0 n0 j0) := (cellAlloc1 d1)
      have t2 : (u3.alloc (.cells #[.bool pM, .slice aMx nMx kMx] 24)).cell? ⟨g0, 2, none⟩ = some (.bool p') := (cellAlloc1 d2)
      have t3 : (u3.alloc (.cells #[.bool pM, .slice aMx nMx kMx] 24)).cell? ⟨g0, 3, none⟩ = some (.slice a1 n1 j1) := (cellAlloc1 d3)
      go_wp2_with fail
      clear t0 t1 t2 t3
      have hX : Below u3.heap.size u3 (u3.alloc (.cells #[.bool pM, .slice aMx nMx kMx] 24)) := by (repeat (first | with_reducible exact Below.refl _ _ | with_reducible assumption | refine Below.alloc ?_ (by (try simp); try omega) _ | refine Below.setCell ?_ (by (try simp); try omega) _ | refine below_drewN ?_ _ | refine Below.drew ?_ | (with_reducible refine Below.trans ?_ (Below.mono (by assumption) (by (try simp); try omega)))))
      have bM : Bx (u3.alloc (.cells #[.bool pM, .slice aMx nMx kMx] 24)) (u3.heap.size) (.bool pM) (.slice aMx nMx kMx) 24 := by exact (Bx.new u3 (.bool pM) (.slice aMx nMx kMx) 24)
      have gebM : w.heap.size ≤ u3.heap.size := by have := hB.size; omega
      have ltbAbM : gbA < u3.heap.size := by have := bA.lt; omega
      have ltbBbM : gbB < u3.heap.size := by have := bB.lt; omega
      replace PB := PB.keep hX
      replace XL := XL.keep hX
      replace YL := YL.keep hX
      replace LA := LA.keep hX
      replace LB := LB.keep hX
      replace LM := LM.keep hX
      replace LsM := LsM.keep hX
      replace bA := bA.keep hX
      replace bB := bB.keep hX
      replace d0 := lkeep hX d0
      replace d1 := lkeep hX d1
      replace d2 := lkeep hX d2
      replace d3 := lkeep hX d3
      replace hB := hB.trans (hX.mono hB.size)
      clear hX
      generalize (u3.alloc (.cells #[.bool pM, .slice aMx nMx kMx] 24)) = v4 at *
      generalize u3.heap.size = gbM at *
      go_at_call 37
      refine (hM2.out _ _ _ XL YL).mono ?_
      rintro e u5 ⟨⟨pO, aOx, nOx, kOx, rfl, LO⟩, hb⟩
      have hk : Below v4.heap.size v4 u5 := by (repeat (first | with_reducible exact Below.refl _ _ | with_reducible assumption | refine Below.alloc ?_ (by (try simp); try omega) _ | refine Below.setCell ?_ (by (try simp); try omega) _ | refine below_drewN ?_ _ | refine Below.drew ?_ | (with_reducible refine Below.trans ?_ (Below.mono (by assumption) (by (try simp); try omega)))))
      clear hb
      replace PB := PB.keep hk
      replace XL := XL.keep hk
      replace YL := YL.keep hk
      replace LA := LA.keep hk
      replace LB := LB.keep hk
      replace LM := LM.keep hk
      replace LsM := LsM.keep hk
      replace bA := bA.keep hk
      replace bB := bB.keep hk
      replace bM := bM.keep hk
      replace d0 := lkeep hk d0
      replace d1 := lkeep hk d1
      replace d2 := lkeep hk d2
      replace d3 := lkeep hk d3
      replace hB := hB.trans (hk.mono hB.size)
      clear hk
      have rbM0 : (u5.alloc (.cells #[.bool pO, .slice aOx nOx kOx] 24)).cell? ⟨gbM, 0, none⟩ = some (.bool pM) := (bM.alloc _).c0
      have rbM1 : (u5.alloc (.cells #[.bool pO, .slice aOx nOx kOx] 24)).cell? ⟨gbM, 1, none⟩ = some (.slice aMx nMx kMx) := (bM.alloc _).c1
      go_wp2_with fail
      clear rbM0 rbM1
      have hX : Below u5.heap.size u5 (u5.alloc (.cells #[.bool pO, .slice aOx nOx kOx] 24)) := by (repeat (first | with_reducible exact Below.refl _ _ | with_reducible assumption | refine Below.alloc ?_ (by (try simp); try omega) _ | refine Below.setCell ?_ (by (try simp); try omega) _ | refine below_drewN ?_ _ | refine Below.drew ?_ | (with_reducible refine Below.trans ?_ (Below.mono (by assumption) (by (try simp); try omega)))))
      have bO : Bx (u5.alloc (.cells #[.bool pO, .slice aOx nOx kOx] 24)) (u5.heap.size) (.bool pO) (.slice aOx nOx kOx) 24 := by exact (Bx.new u5 (.bool pO) (.slice aOx nOx kOx) 24)
      have gebO : w.heap.size ≤ u5.heap.size := by have := hB.size; omega
      have ltbAbO : gbA < u5.heap.size := by have := bA.lt; omega
      have ltbBbO : gbB < u5.heap.size := by have := bB.lt; omega
      have ltbMbO : gbM < u5.heap.size := by have := bM.lt; omega
      replace PB := PB.keep hX
      replace XL := XL.keep hX
      replace YL := YL.keep hX
      replace LA := LA.keep hX
      replace LB := LB.keep hX
      replace LM := LM.keep hX
      replace LsM := LsM.keep hX
      replace LO := LO.keep hX
      replace bA := bA.keep hX
      replace bB := bB.keep hX
      replace bM := bM.keep hX
      replace d0 := lkeep hX d0
      replace d1 := lkeep hX d1
      replace d2 := lkeep hX d2
      replace d3 := lkeep hX d3
      replace hB := hB.trans (hX.mono hB.size)
      clear hX
      generalize (u5.alloc (.cells #[.bool pO, .slice aOx nOx kOx] 24)) = v6 at *
      generalize u5.heap.size = gbO at *
      go_at_call 35
      refine (alike_true _ _ zM eM _ LM LO (by omega)).mono ?_
      rintro e u7 ⟨rfl, hb⟩
      have hk : Below v6.heap.size v6 u7 := by (repeat (first | with_reducible exact Below.refl _ _ | with_reducible assumption | refine Below.alloc ?_ (by (try simp); try omega) _ | refine Below.setCell ?_ (by (try simp); try omega) _ | refine below_drewN ?_ _ | refine Below.drew ?_ | (with_reducible refine Below.trans ?_ (Below.mono (by assumption) (by (try simp); try omega)))))
      clear hb
      replace PB := PB.keep hk
      replace XL := XL.keep hk
      replace YL := YL.keep hk
      replace LA := LA.keep hk
      replace LB := LB.keep hk
      replace LM := LM.keep hk
      replace LsM := LsM.keep hk
      replace LO := LO.keep hk
      replace bA := bA.keep hk
      replace bB := bB.keep hk
      replace bM := bM.keep hk
      replace bO := bO.keep hk
      replace d0 := lkeep hk d0
      replace d1 := lkeep hk d1
      replace d2 := lkeep hk d2
      replace d3 := lkeep hk d3
      replace hB := hB.trans (hk.mono hB.size)
      clear hk
      clear LM LO bO
      have rbA0 : u7.cell? ⟨gbA, 0, none⟩ = some (.bool p) := bA.c0
      have rbA1 : u7.cell? ⟨gbA, 1, none⟩ = some (.slice aA nA kA) := bA.c1
      have rbM0 : u7.cell? ⟨gbM, 0, none⟩ = some (.bool pM) := bM.c0
      have rbM1 : u7.cell? ⟨gbM, 1, none⟩ = some (.slice aMx nMx kMx) := bM.c1
      go_wp2_with fail
      clear rbA0 rbA1 rbM0 rbM1
      refine wp_loop_rounds 3 ?_
      rw [rounds_succ]
      have rbB0 : (u7.alloc (.cells #[.bool p, .slice aA nA kA] 24)).cell? ⟨gbB, 0, none⟩ = some (.bool p') := (bB.alloc _).c0
      have rbB1 : (u7.alloc (.cells #[.bool p, .slice aA nA kA] 24)).cell? ⟨gbB, 1, none⟩ = some (.slice aB nB kB) := (bB.alloc _).c1
      go_wp2_with fail
      clear rbB0 rbB1
      have hX : Below u7.heap.size u7 (u7.alloc (.cells #[.bool p, .slice aA nA kA] 24)) := by (repeat (first | with_reducible exact Below.refl _ _ | with_reducible assumption | refine Below.alloc ?_ (by (try simp); try omega) _ | refine Below.setCell ?_ (by (try simp); try omega) _ | refine below_drewN ?_ _ | refine Below.drew ?_ | (with_reducible refine Below.trans ?_ (Below.mono (by assumption) (by (try simp); try omega)))))
      have bX0 : Bx (u7.alloc (.cells #[.bool p, .slice aA nA kA] 24)) (u7.heap.size) (.bool p) (.slice aA nA kA) 24 := by exact (Bx.new u7 (.bool p) (.slice aA nA kA) 24)
      have gebX0 : w.heap.size ≤ u7.heap.size := by have := hB.size; omega
      have ltbAbX0 : gbA < u7.heap.size := by have := bA.lt; omega
      have ltbBbX0 : gbB < u7.heap.size := by have := bB.lt; omega
      have ltbMbX0 : gbM < u7.heap.size := by have := bM.lt; omega
      replace PB := PB.keep hX
      replace XL := XL.keep hX
      replace YL := YL.keep hX
      replace LA := LA.keep hX
      replace LB := LB.keep hX
      replace LsM := LsM.keep hX
      replace bA := bA.keep hX
      replace bB := bB.keep hX
      replace bM := bM.keep hX
      replace d0 := lkeep hX d0
      replace d1 := lkeep hX d1
      replace d2 := lkeep hX d2
      replace d3 := lkeep hX d3
      replace hB := hB.trans (hX.mono hB.size)
      clear hX
      generalize (u7.alloc (.cells #[.bool p, .slice aA nA kA] 24)) = v8 at *
      generalize u7.heap.size = gbX0 at *
      go_at_call 38
      refine (hQ1.out _ _ _ LA LB).mono ?_
      rintro e u9 ⟨⟨pQ, aQx, nQx, kQx, pR, aRx, nRx, kRx, rfl, LQ, LR⟩, hb⟩
      have hk : Below v8.heap.size v8 u9 := by (repeat (first | with_reducible exact Below.refl _ _ | with_reducible assumption | refine Below.alloc ?_ (by (try simp); try omega) _ | refine Below.setCell ?_ (by (try simp); try omega) _ | refine below_drewN ?_ _ | refine Below.drew ?_ | (with_reducible refine Below.trans ?_ (Below.mono (by assumption) (by (try simp); try omega)))))
      clear hb
      replace PB := PB.keep hk
      replace XL := XL.keep hk
      replace YL := YL.keep hk
      replace LA := LA.keep hk
      replace LB := LB.keep hk
      replace LsM := LsM.keep hk
      replace bA := bA.keep hk
      replace bB := bB.keep hk
      replace bM := bM.keep hk
      replace bX0 := bX0.keep hk
      replace d0 := lkeep hk d0
      replace d1 := lkeep hk d1
      replace d2 := lkeep hk d2
      replace d3 := lkeep hk d3
      replace hB := hB.trans (hk.mono hB.size)
      clear hk
      have rbX00 : ((u9.alloc (.cells #[.bool pQ, .slice aQx nQx kQx] 24)).alloc (.cells #[.bool pR, .slice aRx nRx kRx] 24)).cell? ⟨gbX0, 0, none⟩ = some (.bool p) := ((bX0.alloc _).alloc _).c0
      have rbX01 : ((u9.alloc (.cells #[.bool pQ, .slice aQx nQx kQx] 24)).alloc (.cells #[.bool pR, .slice aRx nRx kRx] 24)).cell? ⟨gbX0, 1, none⟩ = some (.slice aA nA kA) := ((bX0.alloc _).alloc _).c1
      have t2 : ((u9.alloc (.cells #[.bool pQ, .slice aQx nQx kQx] 24)).alloc (.cells #[.bool pR, .slice aRx nRx kRx] 24)).cell? ⟨g0, 2, none⟩ = some (.bool p') := (cellAlloc1 (cellAlloc1 d2))
      have t3 : ((u9.alloc (.cells #[.bool pQ, .slice aQx nQx kQx] 24)).alloc (.cells #[.bool pR, .slice aRx nRx kRx] 24)).cell? ⟨g0, 3, none⟩ = some (.slice a1 n1 j1) := (cellAlloc1 (cellAlloc1 d3))
      go_wp2_with fail
      clear rbX00 rbX01 t2 t3
      have hX : Below u9.heap.size u9 ((u9.alloc (.cells #[.bool pQ, .slice aQx nQx kQx] 24)).alloc (.cells #[.bool pR, .slice aRx nRx kRx] 24)) := by (repeat (first | with_reducible exact Below.refl _ _ | with_reducible assumption | refine Below.alloc ?_ (by (try simp); try omega) _ | refine Below.setCell ?_ (by (try simp); try omega) _ | refine below_drewN ?_ _ | refine Below.drew ?_ | (with_reducible refine Below.trans ?_ (Below.mono (by assumption) (by (try simp); try omega)))))
      have bQ : Bx ((u9.alloc (.cells #[.bool pQ, .slice aQx nQx kQx] 24)).alloc (.cells #[.bool pR, .slice aRx nRx kRx] 24)) (u9.heap.size) (.bool pQ) (.slice aQx nQx kQx) 24 := by exact ((Bx.new u9 (.bool pQ) (.slice aQx nQx kQx) 24).alloc _)
      have gebQ : w.heap.size ≤ u9.heap.size := by have := hB.size; omega
      have ltbAbQ : gbA < u9.heap.size := by have := bA.lt; omega
      have ltbBbQ : gbB < u9.heap.size := by have := bB.lt; omega
      have ltbMbQ : gbM < u9.heap.size := by have := bM.lt; omega
      have ltbX0bQ : gbX0 < u9.heap.size := by have := bX0.lt; omega
      have bR : Bx ((u9.alloc (.cells #[.bool pQ, .slice aQx nQx kQx] 24)).alloc (.cells #[.bool pR, .slice aRx nRx kRx] 24)) (u9.heap.size + 1) (.bool pR) (.slice aRx nRx kRx) 24 := by have := (Bx.new (u9.alloc (.cells #[.bool pQ, .slice aQx nQx kQx] 24)) (.bool pR) (.slice aRx nRx kRx) 24); simpa using this
      have gebR : w.heap.size ≤ u9.heap.size + 1 := by have := hB.size; omega
      have ltbAbR : gbA < u9.heap.size + 1 := by have := bA.lt; omega
      have ltbBbR : gbB < u9.heap.size + 1 := by have := bB.lt; omega
      have ltbMbR : gbM < u9.heap.size + 1 := by have := bM.lt; omega
      have ltbX0bR : gbX0 < u9.heap.size + 1 := by have := bX0.lt; omega
      replace PB := PB.keep hX
      replace XL := XL.keep hX
      replace YL := YL.keep hX
      replace LA := LA.keep hX
      replace LB := LB.keep hX
      replace LsM := LsM.keep hX
      replace LQ := LQ.keep hX
      replace LR := LR.keep hX
      replace bA := bA.keep hX
      replace bB := bB.keep hX
      replace bM := bM.keep hX
      replace bX0 := bX0.keep hX
      replace d0 := lkeep hX d0
      replace d1 := lkeep hX d1
      replace d2 := lkeep hX d2
      replace d3 := lkeep hX d3
      replace hB := hB.trans (hX.mono hB.size)
      clear hX
      generalize ((u9.alloc (.cells #[.bool pQ, .slice aQx nQx kQx] 24)).alloc (.cells #[.bool pR, .slice aRx nRx kRx] 24)) = v10 at *
      generalize hg0 : u9.heap.size = gbQ at *
      generalize hg1 : gbQ + 1 = gbR at *
      have ltbQbR : gbQ < gbR := by omega
      clear hg0 hg1
      go_at_call 39
      refine (hQ2.out _ _ _ LA YL).mono ?_
      rintro e u11 ⟨⟨pQ2, aQ2x, nQ2x, kQ2x, pR2, aR2x, nR2x, kR2x, rfl, LQ2, LR2⟩, hb⟩
      have hk : Below v10.heap.size v10 u11 := by (repeat (first | with_reducible exact Below.refl _ _ | with_reducible assumption | refine Below.alloc ?_ (by (try simp); try omega) _ | refine Below.setCell ?_ (by (try simp); try omega) _ | refine below_drewN ?_ _ | refine Below.drew ?_ | (with_reducible refine Below.trans ?_ (Below.mono (by assumption) (by (try simp); try omega)))))
      clear hb
      replace PB := PB.keep hk
      replace XL := XL.keep hk
      replace YL := YL.keep hk
      replace LA := LA.keep hk
      replace LB := LB.keep hk
      replace LsM := LsM.keep hk
      replace LQ := LQ.keep hk
      replace LR := LR.keep hk
      replace bA := bA.keep hk
      replace bB := bB.keep hk
      replace bM := bM.keep hk
      replace bX0 := bX0.keep hk
      replace bQ := bQ.keep hk
      replace bR := bR.keep hk
      replace d0 := lkeep hk d0
      replace d1 := lkeep hk d1
      replace d2 := lkeep hk d2
      replace d3 := lkeep hk d3
      replace hB := hB.trans (hk.mono hB.size)
      clear hk
      clear bX0
      have rbQ0 : ((u11.alloc (.cells #[.bool pQ2, .slice aQ2x nQ2x kQ2x] 24)).alloc (.cells #[.bool pR2, .slice aR2x nR2x kR2x] 24)).cell? ⟨gbQ, 0, none⟩ = some (.bool pQ) := ((bQ.alloc _).alloc _).c0
      have rbQ1 : ((u11.alloc (.cells #[.bool pQ2, .slice aQ2x nQ2x kQ2x] 24)).alloc (.cells #[.bool pR2, .slice aR2x nR2x kR2x] 24)).cell? ⟨gbQ, 1, none⟩ = some (.slice aQx nQx kQx) := ((bQ.alloc _).alloc _).c1
      go_wp2_with fail
      clear rbQ0 rbQ1
      have hX : Below u11.heap.size u11 ((u11.alloc (.cells #[.bool pQ2, .slice aQ2x nQ2x kQ2x] 24)).alloc (.cells #[.bool pR2, .slice aR2x nR2x kR2x] 24)) := by (repeat (first | with_reducible exact Below.refl _ _ | with_reducible assumption | refine Below.alloc ?_ (by (try simp); try omega) _ | refine Below.setCell ?_ (by (try simp); try omega) _ | refine below_drewN ?_ _ | refine Below.drew ?_ | (with_reducible refine Below.trans ?_ (Below.mono (by assumption) (by (try simp); try omega)))))
      have bQ2 : Bx ((u11.alloc (.cells #[.bool pQ2, .slice aQ2x nQ2x kQ2x] 24)).alloc (.cells #[.bool pR2, .slice aR2x nR2x kR2x] 24)) (u11.heap.size) (.bool pQ2) (.slice aQ2x nQ2x kQ2x) 24 := by exact ((Bx.new u11 (.bool pQ2) (.slice aQ2x nQ2x kQ2x) 24).alloc _)
      have gebQ2 : w.heap.size ≤ u11.heap.size := by have := hB.size; omega
      have ltbAbQ2 : gbA < u11.heap.size := by have := bA.lt; omega
      have ltbBbQ2 : gbB < u11.heap.size := by have := bB.lt; omega
      have ltbMbQ2 : gbM < u11.heap.size := by have := bM.lt; omega
      have ltbQbQ2 : gbQ < u11.heap.size := by have := bQ.lt; omega
      have ltbRbQ2 : gbR < u11.heap.size := by have := bR.lt; omega
      have bR2 : Bx ((u11.alloc (.cells #[.bool pQ2, .slice aQ2x nQ2x kQ2x] 24)).alloc (.cells #[.bool pR2, .slice aR2x nR2x kR2x] 24)) (u11.heap.size + 1) (.bool pR2) (.slice aR2x nR2x kR2x) 24 := by have := (Bx.new (u11.alloc (.cells #[.bool pQ2, .slice aQ2x nQ2x kQ2x] 24)) (.bool pR2) (.slice aR2x nR2x kR2x) 24); simpa using this
      have gebR2 : w.heap.size ≤ u11.heap.size + 1 := by have := hB.size; omega
      have ltbAbR2 : gbA < u11.heap.size + 1 := by have := bA.lt; omega
      have ltbBbR2 : gbB < u11.heap.size + 1 := by have := bB.lt; omega
      have ltbMbR2 : gbM < u11.heap.size + 1 := by have := bM.lt; omega
      have ltbQbR2 : gbQ < u11.heap.size + 1 := by have := bQ.lt; omega
      have ltbRbR2 : gbR < u11.heap.size + 1 := by have := bR.lt; omega
      replace PB := PB.keep hX
      replace XL := XL.keep hX
      replace YL := YL.keep hX
      replace LA := LA.keep hX
      replace LB := LB.keep hX
      replace LsM := LsM.keep hX
      replace LQ := LQ.keep hX
      replace LR := LR.keep hX
      replace LQ2 := LQ2.keep hX
      replace LR2 := LR2.keep hX
      replace bA := bA.keep hX
      replace bB := bB.keep hX
      replace bM := bM.keep hX
      replace bQ := bQ.keep hX
      replace bR := bR.keep hX
      replace d0 := lkeep hX d0
      replace d1 := lkeep hX d1
      replace d2 := lkeep hX d2
      replace d3 := lkeep hX d3
      replace hB := hB.trans (hX.mono hB.size)
      clear hX
      generalize ((u11.alloc (.cells #[.bool pQ2, .slice aQ2x nQ2x kQ2x] 24)).alloc (.cells #[.bool pR2, .slice aR2x nR2x kR2x] 24)) = v12 at *
      generalize hg0 : u11.heap.size = gbQ2 at *
      generalize hg1 : gbQ2 + 1 = gbR2 at *
      have ltbQ2bR2 : gbQ2 < gbR2 := by omega
      clear hg0 hg1
      go_at_call 35
      refine (alike_true _ _ zQ eQ _ LQ LQ2 hzQ).mono ?_
      rintro e u13 ⟨rfl, hb⟩
      have hk : Below v12.heap.size v12 u13 := by (repeat (first | with_reducible exact Below.refl _ _ | with_reducible assumption | refine Below.alloc ?_ (by (try simp); try omega) _ | refine Below.setCell ?_ (by (try simp); try omega) _ | refine below_drewN ?_ _ | refine Below.drew ?_ | (with_reducible refine Below.trans ?_ (Below.mono (by assumption) (by (try simp); try omega)))))
      clear hb
      replace PB := PB.keep hk
      replace XL := XL.keep hk
      replace YL := YL.keep hk
      replace LA := LA.keep hk
      replace LB := LB.keep hk
      replace LsM := LsM.keep hk
      replace LQ := LQ.keep hk
      replace LR := LR.keep hk
      replace LQ2 := LQ2.keep hk
      replace LR2 := LR2.keep hk
      replace bA := bA.keep hk
      replace bB := bB.keep hk
      replace bM := bM.keep hk
      replace bQ := bQ.keep hk
      replace bR := bR.keep hk
      replace bQ2 := bQ2.keep hk
      replace bR2 := bR2.keep hk
      replace d0 := lkeep hk d0
      replace d1 := lkeep hk d1
      replace d2 := lkeep hk d2
      replace d3 := lkeep hk d3
      replace hB := hB.trans (hk.mono hB.size)
      clear hk
      clear LQ LQ2 bQ bQ2
      have rbR0 : u13.cell? ⟨gbR, 0, none⟩ = some (.bool pR) := bR.c0
      have rbR1 : u13.cell? ⟨gbR, 1, none⟩ = some (.slice aRx nRx kRx) := bR.c1
      have rbR20 : u13.cell? ⟨gbR2, 0, none⟩ = some (.bool pR2) := bR2.c0
      have rbR21 : u13.cell? ⟨gbR2, 1, none⟩ = some (.slice aR2x nR2x kR2x) := bR2.c1
      go_wp2_with fail
      clear rbR0 rbR1 rbR20 rbR21
      go_at_call 35
      refine (alike_true _ _ zR eQ _ LR LR2 hzR).mono ?_
      rintro e u14 ⟨rfl, hb⟩
      have hk : Below u13.heap.size u13 u14 := by (repeat (first | with_reducible exact Below.refl _ _ | with_reducible assumption | refine Below.alloc ?_ (by (try simp); try omega) _ | refine Below.setCell ?_ (by (try simp); try omega) _ | refine below_drewN ?_ _ | refine Below.drew ?_ | (with_reducible refine Below.trans ?_ (Below.mono (by assumption) (by (try simp); try omega)))))
      clear hb
      replace PB := PB.keep hk
      replace XL := XL.keep hk
      replace YL := YL.keep hk
      replace LA := LA.keep hk
      replace LB := LB.keep hk
      replace LsM := LsM.keep hk
      replace LR := LR.keep hk
      replace LR2 := LR2.keep hk
      replace bA := bA.keep hk
      replace bB := bB.keep hk
      replace bM := bM.keep hk
      replace bR := bR.keep hk
      replace bR2 := bR2.keep hk
      replace d0 := lkeep hk d0
      replace d1 := lkeep hk d1
      replace d2 := lkeep hk d2
      replace d3 := lkeep hk d3
      replace hB := hB.trans (hk.mono hB.size)
      clear hk
      clear LR LR2 bR bR2
      go_wp2_with fail
      rw [rounds_succ]
      have rbB0 : (u14.alloc (.cells #[.bool pM, .slice aMx nMx kMx] 24)).cell? ⟨gbB, 0, none⟩ = some (.bool p') := (bB.alloc _).c0
      have rbB1 : (u14.alloc (.cells #[.bool pM, .slice aMx nMx kMx] 24)).cell? ⟨gbB, 1, none⟩ = some (.slice aB nB kB) := (bB.alloc _).c1
      go_wp2_with fail
      clear rbB0 rbB1
      have hX : Below u14.heap.size u14 (u14.alloc (.cells #[.bool pM, .slice aMx nMx kMx] 24)) := by (repeat (first | with_reducible exact Below.refl _ _ | with_reducible assumption | refine Below.alloc ?_ (by (try simp); try omega) _ | refine Below.setCell ?_ (by (try simp); try omega) _ | refine below_drewN ?_ _ | refine Below.drew ?_ | (with_reducible refine Below.trans ?_ (Below.mono (by assumption) (by (try simp); try omega)))))
      have bX1 : Bx (u14.alloc (.cells #[.bool pM, .slice aMx nMx kMx] 24)) (u14.heap.size) (.bool pM) (.slice aMx nMx kMx) 24 := by exact (Bx.new u14 (.bool pM) (.slice aMx nMx kMx) 24)
      have gebX1 : w.heap.size ≤ u14.heap.size := by have := hB.size; omega
      have ltbAbX1 : gbA < u14.heap.size := by have := bA.lt; omega
      have ltbBbX1 : gbB < u14.heap.size := by have := bB.lt; omega
      have ltbMbX1 : gbM < u14.heap.size := by have := bM.lt; omega
      replace PB := PB.keep hX
      replace XL := XL.keep hX
      replace YL := YL.keep hX
      replace LA := LA.keep hX
      replace LB := LB.keep hX
      replace LsM := LsM.keep hX
      replace bA := bA.keep hX
      replace bB := bB.keep hX
      replace bM := bM.keep hX
      replace d0 := lkeep hX d0
      replace d1 := lkeep hX d1
      replace d2 := lkeep hX d2
      replace d3 := lkeep hX d3
      replace hB := hB.trans (hX.mono hB.size)
      clear hX
      generalize (u14.alloc (.cells #[.bool pM, .slice aMx nMx kMx] 24)) = v15 at *
      generalize u14.heap.size = gbX1 at *
      go_at_call 38
      refine (hU1.out _ _ _ LsM LB).mono ?_
      rintro e u16 ⟨⟨pU, aUx, nUx, kUx, pV, aVx, nVx, kVx, rfl, LU, LV⟩, hb⟩
      have hk : Below v15.heap.size v15 u16 := by (repeat (first | with_reducible exact Below.refl _ _ | with_reducible assumption | refine Below.alloc ?_ (by (try simp); try omega) _ | refine Below.setCell ?_ (by (try simp); try omega) _ | refine below_drewN ?_ _ | refine Below.drew ?_ | (with_reducible refine Below.trans ?_ (Below.mono (by assumption) (by (try simp); try omega)))))
      clear hb
      replace PB := PB.keep hk
      replace XL := XL.keep hk
      replace YL := YL.keep hk
      replace LA := LA.keep hk
      replace LB := LB.keep hk
      replace LsM := LsM.keep hk
      replace bA := bA.keep hk
      replace bB := bB.keep hk
      replace bM := bM.keep hk
      replace bX1 := bX1.keep hk
      replace d0 := lkeep hk d0
      replace d1 := lkeep hk d1
      replace d2 := lkeep hk d2
      replace d3 := lkeep hk d3
      replace hB := hB.trans (hk.mono hB.size)
      clear hk
      have rbX10 : ((u16.alloc (.cells #[.bool pU, .slice aUx nUx kUx] 24)).alloc (.cells #[.bool pV, .slice aVx nVx kVx] 24)).cell? ⟨gbX1, 0, none⟩ = some (.bool pM) := ((bX1.alloc _).alloc _).c0
      have rbX11 : ((u16.alloc (.cells #[.bool pU, .slice aUx nUx kUx] 24)).alloc (.cells #[.bool pV, .slice aVx nVx kVx] 24)).cell? ⟨gbX1, 1, none⟩ = some (.slice aMx nMx kMx) := ((bX1.alloc _).alloc _).c1
      have t2 : ((u16.alloc (.cells #[.bool pU, .slice aUx nUx kUx] 24)).alloc (.cells #[.bool pV, .slice aVx nVx kVx] 24)).cell? ⟨g0, 2, none⟩ = some (.bool p') := (cellAlloc1 (cellAlloc1 d2))
      have t3 : ((u16.alloc (.cells #[.bool pU, .slice aUx nUx kUx] 24)).alloc (.cells #[.bool pV, .slice aVx nVx kVx] 24)).cell? ⟨g0, 3, none⟩ = some (.slice a1 n1 j1) := (cellAlloc1 (cellAlloc1 d3))
      go_wp2_with fail
      clear rbX10 rbX11 t2 t3
      have hX : Below u16.heap.size u16 ((u16.alloc (.cells #[.bool pU, .slice aUx nUx kUx] 24)).alloc (.cells #[.bool pV, .slice aVx nVx kVx] 24)) := by (repeat (first | with_reducible exact Below.refl _ _ | with_reducible assumption | refine Below.alloc ?_ (by (try simp); try omega) _ | refine Below.setCell ?_ (by (try simp); try omega) _ | refine below_drewN ?_ _ | refine Below.drew ?_ | (with_reducible refine Below.trans ?_ (Below.mono (by assumption) (by (try simp); try omega)))))
      have bU : Bx ((u16.alloc (.cells #[.bool pU, .slice aUx nUx kUx] 24)).alloc (.cells #[.bool pV, .slice aVx nVx kVx] 24)) (u16.heap.size) (.bool pU) (.slice aUx nUx kUx) 24 := by exact ((Bx.new u16 (.bool pU) (.slice aUx nUx kUx) 24).alloc _)
      have gebU : w.heap.size ≤ u16.heap.size := by have := hB.size; omega
      have ltbAbU : gbA < u16.heap.size := by have := bA.lt; omega
      have ltbBbU : gbB < u16.heap.size := by have := bB.lt; omega
      have ltbMbU : gbM < u16.heap.size := by have := bM.lt; omega
      have ltbX1bU : gbX1 < u16.heap.size := by have := bX1.lt; omega
      have bV : Bx ((u16.alloc (.cells #[.bool pU, .slice aUx nUx kUx] 24)).alloc (.cells #[.bool pV, .slice aVx nVx kVx] 24)) (u16.heap.size + 1) (.bool pV) (.slice aVx nVx kVx) 24 := by have := (Bx.new (u16.alloc (.cells #[.bool pU, .slice aUx nUx kUx] 24)) (.bool pV) (.slice aVx nVx kVx) 24); simpa using this
      have gebV : w.heap.size ≤ u16.heap.size + 1 := by have := hB.size; omega
      have ltbAbV : gbA < u16.heap.size + 1 := by have := bA.lt; omega
      have ltbBbV : gbB < u16.heap.size + 1 := by have := bB.lt; omega
      have ltbMbV : gbM < u16.heap.size + 1 := by have := bM.lt; omega
      have ltbX1bV : gbX1 < u16.heap.size + 1 := by have := bX1.lt; omega
      replace PB := PB.keep hX
      replace XL := XL.keep hX
      replace YL := YL.keep hX
      replace LA := LA.keep hX
      replace LB := LB.keep hX
      replace LsM := LsM.keep hX
      replace LU := LU.keep hX
      replace LV := LV.keep hX
      replace bA := bA.keep hX
      replace bB := bB.keep hX
      replace bM := bM.keep hX
      replace bX1 := bX1.keep hX
      replace d0 := lkeep hX d0
      replace d1 := lkeep hX d1
      replace d2 := lkeep hX d2
      replace d3 := lkeep hX d3
      replace hB := hB.trans (hX.mono hB.size)
      clear hX
      generalize ((u16.alloc (.cells #[.bool pU, .slice aUx nUx kUx] 24)).alloc (.cells #[.bool pV, .slice aVx nVx kVx] 24)) = v17 at *
      generalize hg0 : u16.heap.size = gbU at *
      generalize hg1 : gbU + 1 = gbV at *
      have ltbUbV : gbU < gbV := by omega
      clear hg0 hg1
      go_at_call 39
      refine (hU2.out _ _ _ LsM YL).mono ?_
      rintro e u18 ⟨⟨pU2, aU2x, nU2x, kU2x, pV2, aV2x, nV2x, kV2x, rfl, LU2, LV2⟩, hb⟩
      have hk : Below v17.heap.size v17 u18 := by (repeat (first | with_reducible exact Below.refl _ _ | with_reducible assumption | refine Below.alloc ?_ (by (try simp); try omega) _ | refine Below.setCell ?_ (by (try simp); try omega) _ | refine below_drewN ?_ _ | refine Below.drew ?_ | (with_reducible refine Below.trans ?_ (Below.mono (by assumption) (by (try simp); try omega)))))
      clear hb
      replace PB := PB.keep hk
      replace XL := XL.keep hk
      replace YL := YL.keep hk
      replace LA := LA.keep hk
      replace LB := LB.keep hk
      replace LsM := LsM.keep hk
      replace LU := LU.keep hk
      replace LV := LV.keep hk
      replace bA := bA.keep hk
      replace bB := bB.keep hk
      replace bM := bM.keep hk
      replace bX1 := bX1.keep hk
      replace bU := bU.keep hk
      replace bV := bV.keep hk
      replace d0 := lkeep hk d0
      replace d1 := lkeep hk d1
      replace d2 := lkeep hk d2
      replace d3 := lkeep hk d3
      replace hB := hB.trans (hk.mono hB.size)
      clear hk
      clear bX1
      have rbU0 : ((u18.alloc (.cells #[.bool pU2, .slice aU2x nU2x kU2x] 24)).alloc (.cells #[.bool pV2, .slice aV2x nV2x kV2x] 24)).cell? ⟨gbU, 0, none⟩ = some (.bool pU) := ((bU.alloc _).alloc _).c0
      have rbU1 : ((u18.alloc (.cells #[.bool pU2, .slice aU2x nU2x kU2x] 24)).alloc (.cells #[.bool pV2, .slice aV2x nV2x kV2x] 24)).cell? ⟨gbU, 1, none⟩ = some (.slice aUx nUx kUx) := ((bU.alloc _).alloc _).c1
      go_wp2_with fail
      clear rbU0 rbU1
      have hX : Below u18.heap.size u18 ((u18.alloc (.cells #[.bool pU2, .slice aU2x nU2x kU2x] 24)).alloc (.cells #[.bool pV2, .slice aV2x nV2x kV2x] 24)) := by (repeat (first | with_reducible exact Below.refl _ _ | with_reducible assumption | refine Below.alloc ?_ (by (try simp); try omega) _ | refine Below.setCell ?_ (by (try simp); try omega) _ | refine below_drewN ?_ _ | refine Below.drew ?_ | (with_reducible refine Below.trans ?_ (Below.mono (by assumption) (by (try simp); try omega)))))
      have bU2 : Bx ((u18.alloc (.cells #[.bool pU2, .slice aU2x nU2x kU2x] 24)).alloc (.cells #[.bool pV2, .slice aV2x nV2x kV2x] 24)) (u18.heap.size) (.bool pU2) (.slice aU2x nU2x kU2x) 24 := by exact ((Bx.new u18 (.bool pU2) (.slice aU2x nU2x kU2x) 24).alloc _)
      have gebU2 : w.heap.size ≤ u18.heap.size := by have := hB.size; omega
      have ltbAbU2 : gbA < u18.heap.size := by have := bA.lt; omega
      have ltbBbU2 : gbB < u18.heap.size := by have := bB.lt; omega
      have ltbMbU2 : gbM < u18.heap.size := by have := bM.lt; omega
      have ltbUbU2 : gbU < u18.heap.size := by have := bU.lt; omega
      have ltbVbU2 : gbV < u18.heap.size := by have := bV.lt; omega
      have bV2 : Bx ((u18.alloc (.cells #[.bool pU2, .slice aU2x nU2x kU2x] 24)).alloc (.cells #[.bool pV2, .slice aV2x nV2x kV2x] 24)) (u18.heap.size + 1) (.bool pV2) (.slice aV2x nV2x kV2x) 24 := by have := (Bx.new (u18.alloc (.cells #[.bool pU2, .slice aU2x nU2x kU2x] 24)) (.bool pV2) (.slice aV2x nV2x kV2x) 24); simpa using this
      have gebV2 : w.heap.size ≤ u18.heap.size + 1 := by have := hB.size; omega
      have ltbAbV2 : gbA < u18.heap.size + 1 := by have := bA.lt; omega
      have ltbBbV2 : gbB < u18.heap.size + 1 := by have := bB.lt; omega
      have ltbMbV2 : gbM < u18.heap.size + 1 := by have := bM.lt; omega
      have ltbUbV2 : gbU < u18.heap.size + 1 := by have := bU.lt; omega
      have ltbVbV2 : gbV < u18.heap.size + 1 := by have := bV.lt; omega
      replace PB := PB.keep hX
      replace XL := XL.keep hX
      replace YL := YL.keep hX
      replace LA := LA.keep hX
      replace LB := LB.keep hX
      replace LsM := LsM.keep hX
      replace LU := LU.keep hX
      replace LV := LV.keep hX
      replace LU2 := LU2.keep hX
      replace LV2 := LV2.keep hX
      replace bA := bA.keep hX
      replace bB := bB.keep hX
      replace bM := bM.keep hX
      replace bU := bU.keep hX
      replace bV := bV.keep hX
      replace d0 := lkeep hX d0
      replace d1 := lkeep hX d1
      replace d2 := lkeep hX d2
      replace d3 := lkeep hX d3
      replace hB := hB.trans (hX.mono hB.size)
      clear hX
      generalize ((u18.alloc (.cells #[.bool pU2, .slice aU2x nU2x kU2x] 24)).alloc (.cells #[.bool pV2, .slice aV2x nV2x kV2x] 24)) = v19 at *
      generalize hg0 : u18.heap.size = gbU2 at *
      generalize hg1 : gbU2 + 1 = gbV2 at *
      have ltbU2bV2 : gbU2 < gbV2 := by omega
      clear hg0 hg1
      go_at_call 35
      refine (alike_true _ _ zU eU _ LU LU2 hzU).mono ?_
      rintro e u20 ⟨rfl, hb⟩
      have hk : Below v19.heap.size v19 u20 := by (repeat (first | with_reducible exact Below.refl _ _ | with_reducible assumption | refine Below.alloc ?_ (by (try simp); try omega) _ | refine Below.setCell ?_ (by (try simp); try omega) _ | refine below_drewN ?_ _ | refine Below.drew ?_ | (with_reducible refine Below.trans ?_ (Below.mono (by assumption) (by (try simp); try omega)))))
      clear hb
      replace PB := PB.keep hk
      replace XL := XL.keep hk
      replace YL := YL.keep hk
      replace LA := LA.keep hk
      replace LB := LB.keep hk
      replace LsM := LsM.keep hk
      replace LU := LU.keep hk
      replace LV := LV.keep hk
      replace LU2 := LU2.keep hk
      replace LV2 := LV2.keep hk
      replace bA := bA.keep hk
      replace bB := bB.keep hk
      replace bM := bM.keep hk
      replace bU := bU.keep hk
      replace bV := bV.keep hk
      replace bU2 := bU2.keep hk
      replace bV2 := bV2.keep hk
      replace d0 := lkeep hk d0
      replace d1 := lkeep hk d1
      replace d2 := lkeep hk d2
      replace d3 := lkeep hk d3
      replace hB := hB.trans (hk.mono hB.size)
      clear hk
      clear LU LU2 bU bU2
      have rbV0 : u20.cell? ⟨gbV, 0, none⟩ = some (.bool pV) := bV.c0
      have rbV1 : u20.cell? ⟨gbV, 1, none⟩ = some (.slice aVx nVx kVx) := bV.c1
      have rbV20 : u20.cell? ⟨gbV2, 0, none⟩ = some (.bool pV2) := bV2.c0
      have rbV21 : u20.cell? ⟨gbV2, 1, none⟩ = some (.slice aV2x nV2x kV2x) := bV2.c1
      go_wp2_with fail
      clear rbV0 rbV1 rbV20 rbV21
      go_at_call 35
      refine (alike_true _ _ zV eU _ LV LV2 hzV).mono ?_
      rintro e u21 ⟨rfl, hb⟩
      have hk : Below u20.heap.size u20 u21 := by (repeat (first | with_reducible exact Below.refl _ _ | with_reducible assumption | refine Below.alloc ?_ (by (try simp); try omega) _ | refine Below.setCell ?_ (by (try simp); try omega) _ | refine below_drewN ?_ _ | refine Below.drew ?_ | (with_reducible refine Below.trans ?_ (Below.mono (by assumption) (by (try simp); try omega)))))
      clear hb
      replace PB := PB.keep hk
      replace XL := XL.keep hk
      replace YL := YL.keep hk
      replace LA := LA.keep hk
      replace LB := LB.keep hk
      replace LsM := LsM.keep hk
      replace LV := LV.keep hk
      replace LV2 := LV2.keep hk
      replace bA := bA.keep hk
      replace bB := bB.keep hk
      replace bM := bM.keep hk
      replace bV := bV.keep hk
      replace bV2 := bV2.keep hk
      replace d0 := lkeep hk d0
      replace d1 := lkeep hk d1
      replace d2 := lkeep hk d2
      replace d3 := lkeep hk d3
      replace hB := hB.trans (hk.mono hB.size)
      clear hk
      clear LV LV2 bV bV2
      go_wp2_with fail
      clear LsM bM
      rw [rounds_succ]
      have rbA0 : u21.cell? ⟨gbA, 0, none⟩ = some (.bool p) := bA.c0
      have rbA1 : u21.cell? ⟨gbA, 1, none⟩ = some (.slice aA nA kA) := bA.c1
      have t0 : u21.cell? ⟨g0, 0, none⟩ = some (.bool p) := d0
      have t1 : u21.cell? ⟨g0, 1, none⟩ = some (.slice a0 n0 j0) := d1
      go_wp2_with fail
      clear rbA0 rbA1 t0 t1
      go_at_call 17
      refine (rsame_true p _ _ l _ LA XL (by omega)).mono ?_
      rintro e u22 ⟨rfl, hb⟩
      have hk : Below u21.heap.size u21 u22 := by (repeat (first | with_reducible exact Below.refl _ _ | with_reducible assumption | refine Below.alloc ?_ (by (try simp); try omega) _ | refine Below.setCell ?_ (by (try simp); try omega) _ | refine below_drewN ?_ _ | refine Below.drew ?_ | (with_reducible refine Below.trans ?_ (Below.mono (by assumption) (by (try simp); try omega)))))
      clear hb
      replace PB := PB.keep hk
      replace XL := XL.keep hk
      replace YL := YL.keep hk
      replace LA := LA.keep hk
      replace LB := LB.keep hk
      replace bA := bA.keep hk
      replace bB := bB.keep hk
      replace d0 := lkeep hk d0
      replace d1 := lkeep hk d1
      replace d2 := lkeep hk d2
      replace d3 := lkeep hk d3
      replace hB := hB.trans (hk.mono hB.size)
      clear hk
      have rbB0 : u22.cell? ⟨gbB, 0, none⟩ = some (.bool p') := bB.c0
      have rbB1 : u22.cell? ⟨gbB, 1, none⟩ = some (.slice aB nB kB) := bB.c1
      have t2 : u22.cell? ⟨g0, 2, none⟩ = some (.bool p') := d2
      have t3 : u22.cell? ⟨g0, 3, none⟩ = some (.slice a1 n1 j1) := d3
      go_wp2_with fail
      clear rbB0 rbB1 t2 t3
      go_at_call 17
      refine (rsame_true p' _ _ l' _ LB YL (by omega)).mono ?_
      rintro e u23 ⟨rfl, hb⟩
      have hk : Below u22.heap.size u22 u23 := by (repeat (first | with_reducible exact Below.refl _ _ | with_reducible assumption | refine Below.alloc ?_ (by (try simp); try omega) _ | refine Below.setCell ?_ (by (try simp); try omega) _ | refine below_drewN ?_ _ | refine Below.drew ?_ | (with_reducible refine Below.trans ?_ (Below.mono (by assumption) (by (try simp); try omega)))))
      clear hb
      replace PB := PB.keep hk
      replace XL := XL.keep hk
      replace YL := YL.keep hk
      replace LA := LA.keep hk
      replace LB := LB.keep hk
      replace bA := bA.keep hk
      replace bB := bB.keep hk
      replace d0 := lkeep hk d0
      replace d1 := lkeep hk d1
      replace d2 := lkeep hk d2
      replace d3 := lkeep hk d3
      replace hB := hB.trans (hk.mono hB.size)
      clear hk
      clear XL YL LA LB bA bB d0 d1 d2 d3
      go_wp2
      go_roundw
      case rel => first | exact ⟨k + 1, by simp, hk1, PB, hB⟩ | ((repeat apply Exists.intro); refine ⟨⟨k + 1, ?_, hk1, PB, hB⟩, rfl⟩; simp)
      case measure => simp [intOf]; omega
end Go.Proofs.YtoppdbgodceaiaaDoor
