/-
  LongDivides: the walk.
-/
import Derived.Test.YtoppdbgodceaiaaDoorLiF
import Derived.Test.YtoppdbgodceaiaaDoorLiK
import Derived.Deep.Cut
namespace Go.Proofs.YtoppdbgodceaiaaDoor
open Go.RowKit

theorem same_no (w : World) : Calls Tryd.prog 27 #[noL, noL] w fun e w' => e = .returned (.bool true) ∧ Below w.heap.size w w' := by
  have := same_any false false (.slice none 0 0) (.slice none 0 0) [] [] w (Ls.nil w) (Ls.nil w) (by simp) (by simp)
  simpa using this
theorem cell4 {w : World} (a b c d : Value) (t : TypeId) : (w.alloc (.cells #[a, b, c, d] t)).cell? ⟨w.heap.size, 0, none⟩ = some a ∧ (w.alloc (.cells #[a, b, c, d] t)).cell? ⟨w.heap.size, 1, none⟩ = some b ∧ (w.alloc (.cells #[a, b, c, d] t)).cell? ⟨w.heap.size, 2, none⟩ = some c ∧ (w.alloc (.cells #[a, b, c, d] t)).cell? ⟨w.heap.size, 3, none⟩ = some d := by
  refine ⟨?_, ?_, ?_, ?_⟩ <;> simp
theorem Bx.fst2 (w : World) (x y : Value) (t : TypeId) (o : Obj) : Bx ((w.alloc (.cells #[x, y] t)).alloc o).drew w.heap.size x y t := ((Bx.new w x y t).alloc o).drew
theorem Bx.snd2 (w : World) (x y : Value) (t : TypeId) (o : Obj) : Bx ((w.alloc o).alloc (.cells #[x, y] t)).drew (w.heap.size + 1) x y t := by
  have h := (Bx.new (w.alloc o) x y t).drew
  rwa [show (w.alloc o).heap.size = w.heap.size + 1 by simp] at h
theorem lg_of {w : World} {b : Bool} {s : Value} {l : List Int} (h : Ls w s l) (hc : ckL b l = 0) (hl : l.length ≤ 60) : ∃ z, Lg w (.agg #[.bool b, s]) z ∧ Dl z ≤ 60 := by
  obtain ⟨e1, e2, _⟩ := ckL_lg hc
  refine ⟨numL b l, ⟨s, by rw [← e1], by rw [← e2]; exact h⟩, by unfold Dl; rw [← e2]; exact hl⟩
theorem add_okE (A B : Value) (x y z : Int) (w : World) (hA : Lg w A x) (hB : Lg w B y) (l1 : Dl x ≤ 600) (l2 : Dl y ≤ 600) (e : x + y = z) (l3 : Dl z ≤ 600) :
    Calls Tryd.prog 29 #[A, B] w fun e w' => OkL z e w' ∧ Below w.heap.size w w' := by
  subst e; exact add_ok A B x y w hA hB l1 l2 l3
theorem Lg.nil {w : World} {p : Bool} {a : Option Addr} {n c : Nat} {z : Int} (h : Lg w (.agg #[.bool p, .slice a n c]) z) : p = decide (z < 0) ∧ n = Dl z := by
  obtain ⟨h1, h2⟩ := h.parts
  exact ⟨h1, h2.slen⟩
theorem tmod_sign {x y : Int} (h : x.tmod y ≠ 0) : decide (x.tmod y < 0) = decide (x < 0) := by
  have : x.tmod y < 0 ↔ x < 0 := by
    have e := Int.tmod_tmod_of_dvd x (Int.dvd_refl y)
    rcases (by omega : 0 ≤ x ∨ x < 0) with h0 | h0
    · have := Int.tmod_nonneg y h0; omega
    · have h1 := Int.tmod_nonneg y (show 0 ≤ -x by omega)
      rw [Int.neg_tmod] at h1; omega
  simp [this]
set_option maxRecDepth 100000 in
set_option maxHeartbeats 8000000 in
theorem longDivides_true (b1 : Bool) (s1 : Value) (l1 : List Int) (b2 : Bool) (s2 : Value) (l2 : List Int) (b3 : Bool) (k3 : Int) (s3 : Value) (m3 : List Int) (b4 : Bool) (k4 : Int) (s4 : Value) (m4 : List Int) (w : World) (hP : Pw w) (L1 : Ls w s1 l1) (L2 : Ls w s2 l2) (N1 : l1.length ≤ 9223372036854775807) (N2 : l2.length ≤ 9223372036854775807) (K30 : 0 ≤ k3) (K31 : k3 ≤ 255) (W3 : Wd w s3 m3) (K40 : 0 ≤ k4) (K41 : k4 ≤ 255) (W4 : Wd w s4 m4) :
    Calls Tryd.prog 9 #[.agg #[.bool b1, s1, .bool b2, s2, .bool b3, .int .u8 k3, s3, .bool b4, .int .u8 k4, s4]] w fun e w' => e = .returned (.bool true) ∧ Below w.heap.size w w' := by
  have L1' := L1
  have L2' := L2
  have W3' := W3
  have W4' := W4
  obtain ⟨q1, r1, rfl, _⟩ := L1'
  obtain ⟨q2, r2, rfl, _⟩ := L2'
  obtain ⟨q3, r3, rfl, _⟩ := W3'
  obtain ⟨q4, r4, rfl, _⟩ := W4'
  have hB : Below w.heap.size w (w.alloc (.cells #[.bool b1, .slice q1 l1.length r1, .bool b2, .slice q2 l2.length r2, .bool b3, .int .u8 k3, .slice q3 m3.length r3, .bool b4, .int .u8 k4, .slice q4 m4.length r4] 29)) := by (repeat (first | with_reducible exact Below.refl _ _ | with_reducible assumption | refine Below.alloc ?_ (by (try simp); try omega) _ | refine Below.setCell ?_ (by (try simp); try omega) _ | refine below_drewN ?_ _ | refine Below.drew ?_ | (with_reducible refine Below.trans ?_ (Below.mono (by assumption) (by (try simp); try omega)))))
  have c0 : (w.alloc (.cells #[.bool b1, .slice q1 l1.length r1, .bool b2, .slice q2 l2.length r2, .bool b3, .int .u8 k3, .slice q3 m3.length r3, .bool b4, .int .u8 k4, .slice q4 m4.length r4] 29)).cell? ⟨w.heap.size, 0, none⟩ = some (.bool b1) := by simp
  have c1 : (w.alloc (.cells #[.bool b1, .slice q1 l1.length r1, .bool b2, .slice q2 l2.length r2, .bool b3, .int .u8 k3, .slice q3 m3.length r3, .bool b4, .int .u8 k4, .slice q4 m4.length r4] 29)).cell? ⟨w.heap.size, 1, none⟩ = some (.slice q1 l1.length r1) := by simp
  have c2 : (w.alloc (.cells #[.bool b1, .slice q1 l1.length r1, .bool b2, .slice q2 l2.length r2, .bool b3, .int .u8 k3, .slice q3 m3.length r3, .bool b4, .int .u8 k4, .slice q4 m4.length r4] 29)).cell? ⟨w.heap.size, 2, none⟩ = some (.bool b2) := by simp
  have c3 : (w.alloc (.cells #[.bool b1, .slice q1 l1.length r1, .bool b2, .slice q2 l2.length r2, .bool b3, .int .u8 k3, .slice q3 m3.length r3, .bool b4, .int .u8 k4, .slice q4 m4.length r4] 29)).cell? ⟨w.heap.size, 3, none⟩ = some (.slice q2 l2.length r2) := by simp
  have c4 : (w.alloc (.cells #[.bool b1, .slice q1 l1.length r1, .bool b2, .slice q2 l2.length r2, .bool b3, .int .u8 k3, .slice q3 m3.length r3, .bool b4, .int .u8 k4, .slice q4 m4.length r4] 29)).cell? ⟨w.heap.size, 4, none⟩ = some (.bool b3) := by simp
  have c5 : (w.alloc (.cells #[.bool b1, .slice q1 l1.length r1, .bool b2, .slice q2 l2.length r2, .bool b3, .int .u8 k3, .slice q3 m3.length r3, .bool b4, .int .u8 k4, .slice q4 m4.length r4] 29)).cell? ⟨w.heap.size, 5, none⟩ = some (.int .u8 k3) := by simp
  have c6 : (w.alloc (.cells #[.bool b1, .slice q1 l1.length r1, .bool b2, .slice q2 l2.length r2, .bool b3, .int .u8 k3, .slice q3 m3.length r3, .bool b4, .int .u8 k4, .slice q4 m4.length r4] 29)).cell? ⟨w.heap.size, 6, none⟩ = some (.slice q3 m3.length r3) := by simp
  have c7 : (w.alloc (.cells #[.bool b1, .slice q1 l1.length r1, .bool b2, .slice q2 l2.length r2, .bool b3, .int .u8 k3, .slice q3 m3.length r3, .bool b4, .int .u8 k4, .slice q4 m4.length r4] 29)).cell? ⟨w.heap.size, 7, none⟩ = some (.bool b4) := by simp
  have c8 : (w.alloc (.cells #[.bool b1, .slice q1 l1.length r1, .bool b2, .slice q2 l2.length r2, .bool b3, .int .u8 k3, .slice q3 m3.length r3, .bool b4, .int .u8 k4, .slice q4 m4.length r4] 29)).cell? ⟨w.heap.size, 8, none⟩ = some (.int .u8 k4) := by simp
  have c9 : (w.alloc (.cells #[.bool b1, .slice q1 l1.length r1, .bool b2, .slice q2 l2.length r2, .bool b3, .int .u8 k3, .slice q3 m3.length r3, .bool b4, .int .u8 k4, .slice q4 m4.length r4] 29)).cell? ⟨w.heap.size, 9, none⟩ = some (.slice q4 m4.length r4) := by simp
  go_enter Tryd.func9, Tryd.ntmps9
  go_wp2_with fail
  generalize w.alloc (.cells #[.bool b1, .slice q1 l1.length r1, .bool b2, .slice q2 l2.length r2, .bool b3, .int .u8 k3, .slice q3 m3.length r3, .bool b4, .int .u8 k4, .slice q4 m4.length r4] 29) = w1 at *
  obtain ⟨g, hg⟩ : ∃ g, w.heap.size = g := ⟨_, rfl⟩
  simp only [hg] at c0 c1 c2 c3 c4 c5 c6 c7 c8 c9 ⊢
  rw [← hg]
  go_at_call 16
  refine (works_true _ (hP.keep hB)).mono ?_
  rintro e u1 ⟨rfl, hb⟩
  have hk : Below w1.heap.size w1 u1 := by (repeat (first | with_reducible exact Below.refl _ _ | with_reducible assumption | refine Below.alloc ?_ (by (try simp); try omega) _ | refine Below.setCell ?_ (by (try simp); try omega) _ | refine below_drewN ?_ _ | refine Below.drew ?_ | (with_reducible refine Below.trans ?_ (Below.mono (by assumption) (by (try simp); try omega)))))
  clear hb
  replace c0 := lkeep hk c0
  replace c1 := lkeep hk c1
  replace c2 := lkeep hk c2
  replace c3 := lkeep hk c3
  replace c4 := lkeep hk c4
  replace c5 := lkeep hk c5
  replace c6 := lkeep hk c6
  replace c7 := lkeep hk c7
  replace c8 := lkeep hk c8
  replace c9 := lkeep hk c9
  replace hB := hB.trans (hk.mono hB.size)
  clear hk
  go_wp2_with fail
  go_at_call 20
  refine (pairs_any b1 _ l1 b2 _ l2 b3 k3 _ m3 b4 k4 _ m4 _ (L1.keep hB) (L2.keep hB) N1 N2 K30 K31 (W3.keep hB) K40 K41 (W4.keep hB)).mono ?_
  rintro e u2 ⟨B, f, rfl, PB, hb⟩
  have hk : Below u1.heap.size u1 u2 := by (repeat (first | with_reducible exact Below.refl _ _ | with_reducible assumption | refine Below.alloc ?_ (by (try simp); try omega) _ | refine Below.setCell ?_ (by (try simp); try omega) _ | refine below_drewN ?_ _ | refine Below.drew ?_ | (with_reducible refine Below.trans ?_ (Below.mono (by assumption) (by (try simp); try omega)))))
  clear hb
  clear c0 c1 c2 c3 c4 c5 c6 c7 c8 c9
  replace hB := hB.trans (hk.mono hB.size)
  clear hk
  clear L1 L2 W3 W4
  go_wp2
  go_loopw [21] (fun i wr => ∃ k : Nat, i = .int .i64 k ∧ k ≤ 4 ∧ Prs wr B f ∧ Below w.heap.size w wr)
    (fun i _ => 4 - (intOf i).toNat)
  case atStart => exact ⟨0, rfl, by omega, PB, hB⟩
  case round =>
    clear PB hB
    obtain ⟨k, rfl, hk, PB, hB⟩ := hrel
    by_cases hk4 : k = 4
    · subst hk4; clear PB; go_wp2; go_ret; exact ⟨rfl, hB⟩
    have hk' : k < 4 := by omega
    have hki : (k : Int) < 4 := by omega
    obtain ⟨a0, n0, j0, x0, x1, XL⟩ := PB.at0 k hk'
    obtain ⟨a1, n1, j1, y0, y1, YL⟩ := PB.at1 k hk'
    have len0 := PB.len0 k hk'
    have len1 := PB.len1 k hk'
    generalize (f k).1 = p at x0
    generalize (f k).2.1 = l at XL len0
    generalize (f k).2.2.1 = p' at y0
    generalize (f k).2.2.2 = l' at YL len1
    replace hk4 := Lib.hid hk4
    simp only [Nat.mul_comm 4 k] at x0 x1 y0 y1
    go_upto_region 6 with fail
    obtain ⟨d0, d1, d2, d3⟩ := cell4 (w := wr) (.bool p) (.slice a0 n0 j0) (.bool p') (.slice a1 n1 j1) 35
    have hB1 : Below w.heap.size w (wr.alloc (.cells #[.bool p, .slice a0 n0 j0, .bool p', .slice a1 n1 j1] 35)) := hB.alloc hB.size _
    have hb : Below wr.heap.size wr (wr.alloc (.cells #[.bool p, .slice a0 n0 j0, .bool p', .slice a1 n1 j1] 35)) := (Below.refl _ _).alloc (Nat.le_refl _) _
    replace PB := PB.keep hb
    replace XL := XL.keep hb
    replace YL := YL.keep hb
    clear hb hB x0 x1 y0 y1
    generalize wr.alloc (.cells #[.bool p, .slice a0 n0 j0, .bool p', .slice a1 n1 j1] 35) = v0 at *
    generalize wr.heap.size = g0 at *
    go_cut [5, 6, 16, 17, 18, 19, 20, 21] from 7 (fun v5 v6 v16 v17 v18 v19 v20 v21 wx => ∃ (ga gb : Nat), v16 = .bool true ∧ v17 = .bool false ∧ v18 = .agg #[.bool b1, .slice q1 l1.length r1, .bool b2, .slice q2 l2.length r2, .bool b3, .int .u8 k3, .slice q3 m3.length r3, .bool b4, .int .u8 k4, .slice q4 m4.length r4] ∧ v19 = .slice (some ⟨B, 0, none⟩) 4 4 ∧ v20 = .int .i64 4 ∧ v21 = .int .i64 (k : Int) ∧ v5 = .pointer (some ⟨ga, 0, none⟩) ∧ v6 = .pointer (some ⟨gb, 0, none⟩) ∧ Bx wx ga (.bool p) (.slice a0 n0 j0) 24 ∧ Bx wx gb (.bool p') (.slice a1 n1 j1) 24 ∧ v0.heap.size ≤ ga ∧ v0.heap.size ≤ gb ∧ ga ≠ gb ∧ Below v0.heap.size v0 wx)
    case first =>
      go_region_held3 (fun w' => w'.cell? ⟨g0, 0, none⟩ = some (.bool p) ∧ w'.cell? ⟨g0, 1, none⟩ = some (.slice a0 n0 j0) ∧ w'.cell? ⟨g0, 2, none⟩ = some (.bool p') ∧ w'.cell? ⟨g0, 3, none⟩ = some (.slice a1 n1 j1))
        (first | exact ⟨d0, d1, d2, d3⟩ | exact ⟨cellAlloc1 d0, cellAlloc1 d1, cellAlloc1 d2, cellAlloc1 d3⟩ | exact ⟨cellAlloc2 d0, cellAlloc2 d1, cellAlloc2 d2, cellAlloc2 d3⟩)
        (fail)
      all_goals (go_wp2_with fail; go_meet)
      all_goals clear hB1
      · exact ⟨_, _, rfl, rfl, rfl, rfl, rfl, rfl, rfl, rfl, Bx.fst2 _ _ _ _ _, Bx.snd2 _ _ _ _ _, by omega, by simp, by simp, by (repeat (first | with_reducible exact Below.refl _ _ | with_reducible assumption | refine Below.alloc ?_ (by (try simp); try omega) _ | refine Below.setCell ?_ (by (try simp); try omega) _ | refine below_drewN ?_ _ | refine Below.drew ?_ | (with_reducible refine Below.trans ?_ (Below.mono (by assumption) (by (try simp); try omega)))))⟩
      · exact ⟨_, _, rfl, rfl, rfl, rfl, rfl, rfl, rfl, rfl, Bx.snd2 _ _ _ _ _, Bx.fst2 _ _ _ _ _, by simp, by omega, by simp, by (repeat (first | with_reducible exact Below.refl _ _ | with_reducible assumption | refine Below.alloc ?_ (by (try simp); try omega) _ | refine Below.setCell ?_ (by (try simp); try omega) _ | refine below_drewN ?_ _ | refine Below.drew ?_ | (with_reducible refine Below.trans ?_ (Below.mono (by assumption) (by (try simp); try omega)))))⟩
    case rest =>
      obtain ⟨gbA, gbB, rfl, rfl, rfl, rfl, rfl, rfl, rfl, rfl, bA, bB, hga, hgb, ltbAbB, hX⟩ := hcut
      replace PB := PB.keep hX
      replace XL := XL.keep hX
      replace YL := YL.keep hX
      have hB := hB1.trans (hX.mono hB1.size)
      clear hX hga hgb hB1 d0 d1 d2 d3
      have hk1 : k + 1 ≤ 4 := by omega
      rcases ckL_cases p l with ⟨v1, _⟩ | ⟨v1, _⟩
      · rcases ckL_cases p' l' with ⟨v2, _⟩ | ⟨v2, _⟩
        · obtain ⟨x, LX, dx⟩ := lg_of XL v1 len0
          obtain ⟨y, LY, dy⟩ := lg_of YL v2 len1
          clear XL YL v1 v2
          by_cases hy0 : y = 0
          · subst hy0
            have hn1 := LY.nil.2
            rw [Dl_zero] at hn1
            subst hn1
            clear dy
            have rbA0 : wc.cell? ⟨gbA, 0, none⟩ = some (.bool p) := bA.c0
            have rbA1 : wc.cell? ⟨gbA, 1, none⟩ = some (.slice a0 n0 j0) := bA.c1
            have rbB0 : wc.cell? ⟨gbB, 0, none⟩ = some (.bool p') := bB.c0
            have rbB1 : wc.cell? ⟨gbB, 1, none⟩ = some (.slice a1 0 j1) := bB.c1
            go_wp2_with fail
            clear rbA0 rbA1 rbB0 rbB1
            go_at_call 38
            refine (div_zero _ _ x _ LX LY (by omega)).mono ?_
            rintro e u3 ⟨rfl, hb⟩
            have hk : Below wc.heap.size wc u3 := by (repeat (first | with_reducible exact Below.refl _ _ | with_reducible assumption | refine Below.alloc ?_ (by (try simp); try omega) _ | refine Below.setCell ?_ (by (try simp); try omega) _ | refine below_drewN ?_ _ | refine Below.drew ?_ | (with_reducible refine Below.trans ?_ (Below.mono (by assumption) (by (try simp); try omega)))))
            clear hb
            replace PB := PB.keep hk
            replace LX := LX.keep hk
            replace LY := LY.keep hk
            replace bA := bA.keep hk
            replace bB := bB.keep hk
            replace hB := hB.trans (hk.mono hB.size)
            clear hk
            go_wp2_with fail
            have hX : Below u3.heap.size u3 ((u3.alloc (.cells #[.bool false, .slice none 0 0] 24)).alloc (.cells #[.bool false, .slice none 0 0] 24)) := by (repeat (first | with_reducible exact Below.refl _ _ | with_reducible assumption | refine Below.alloc ?_ (by (try simp); try omega) _ | refine Below.setCell ?_ (by (try simp); try omega) _ | refine below_drewN ?_ _ | refine Below.drew ?_ | (with_reducible refine Below.trans ?_ (Below.mono (by assumption) (by (try simp); try omega)))))
            have bQ : Bx ((u3.alloc (.cells #[.bool false, .slice none 0 0] 24)).alloc (.cells #[.bool false, .slice none 0 0] 24)) (u3.heap.size) (.bool false) (.slice none 0 0) 24 := by exact ((Bx.new u3 (.bool false) (.slice none 0 0) 24).alloc _)
            have gebQ : w.heap.size ≤ u3.heap.size := by have := hB.size; omega
            have ltbAbQ : gbA < u3.heap.size := by have := bA.lt; omega
            have ltbBbQ : gbB < u3.heap.size := by have := bB.lt; omega
            have bR : Bx ((u3.alloc (.cells #[.bool false, .slice none 0 0] 24)).alloc (.cells #[.bool false, .slice none 0 0] 24)) (u3.heap.size + 1) (.bool false) (.slice none 0 0) 24 := by have := (Bx.new (u3.alloc (.cells #[.bool false, .slice none 0 0] 24)) (.bool false) (.slice none 0 0) 24); simpa using this
            have gebR : w.heap.size ≤ u3.heap.size + 1 := by have := hB.size; omega
            have ltbAbR : gbA < u3.heap.size + 1 := by have := bA.lt; omega
            have ltbBbR : gbB < u3.heap.size + 1 := by have := bB.lt; omega
            replace PB := PB.keep hX
            replace LX := LX.keep hX
            replace LY := LY.keep hX
            replace bA := bA.keep hX
            replace bB := bB.keep hX
            replace hB := hB.trans (hX.mono hB.size)
            clear hX
            generalize ((u3.alloc (.cells #[.bool false, .slice none 0 0] 24)).alloc (.cells #[.bool false, .slice none 0 0] 24)) = v4 at *
            generalize hg0 : u3.heap.size = gbQ at *
            generalize hg1 : gbQ + 1 = gbR at *
            have ltbQbR : gbQ < gbR := by omega
            clear hg0 hg1
            go_at_call 27
            refine (same_no _).mono ?_
            rintro e u5 ⟨rfl, hb⟩
            have hk : Below v4.heap.size v4 u5 := by (repeat (first | with_reducible exact Below.refl _ _ | with_reducible assumption | refine Below.alloc ?_ (by (try simp); try omega) _ | refine Below.setCell ?_ (by (try simp); try omega) _ | refine below_drewN ?_ _ | refine Below.drew ?_ | (with_reducible refine Below.trans ?_ (Below.mono (by assumption) (by (try simp); try omega)))))
            clear hb
            replace PB := PB.keep hk
            replace LX := LX.keep hk
            replace LY := LY.keep hk
            replace bA := bA.keep hk
            replace bB := bB.keep hk
            replace bQ := bQ.keep hk
            replace bR := bR.keep hk
            replace hB := hB.trans (hk.mono hB.size)
            clear hk
            have rbR0 : u5.cell? ⟨gbR, 0, none⟩ = some (.bool false) := bR.c0
            have rbR1 : u5.cell? ⟨gbR, 1, none⟩ = some (.slice none 0 0) := bR.c1
            go_wp2_with fail
            clear rbR0 rbR1
            go_at_call 27
            refine (same_no _).mono ?_
            rintro e u6 ⟨rfl, hb⟩
            have hk : Below u5.heap.size u5 u6 := by (repeat (first | with_reducible exact Below.refl _ _ | with_reducible assumption | refine Below.alloc ?_ (by (try simp); try omega) _ | refine Below.setCell ?_ (by (try simp); try omega) _ | refine below_drewN ?_ _ | refine Below.drew ?_ | (with_reducible refine Below.trans ?_ (Below.mono (by assumption) (by (try simp); try omega)))))
            clear hb
            replace PB := PB.keep hk
            replace LX := LX.keep hk
            replace LY := LY.keep hk
            replace bA := bA.keep hk
            replace bB := bB.keep hk
            replace bQ := bQ.keep hk
            replace bR := bR.keep hk
            replace hB := hB.trans (hk.mono hB.size)
            clear hk
            have rbA0 : u6.cell? ⟨gbA, 0, none⟩ = some (.bool p) := bA.c0
            have rbA1 : u6.cell? ⟨gbA, 1, none⟩ = some (.slice a0 n0 j0) := bA.c1
            go_wp2_with fail
            clear rbA0 rbA1
            go_at_call 25
            refine (check_num _ x _ LX (by unfold Dl at dx; omega)).mono ?_
            rintro e u7 ⟨rfl, hb⟩
            have hk : Below u6.heap.size u6 u7 := by (repeat (first | with_reducible exact Below.refl _ _ | with_reducible assumption | refine Below.alloc ?_ (by (try simp); try omega) _ | refine Below.setCell ?_ (by (try simp); try omega) _ | refine below_drewN ?_ _ | refine Below.drew ?_ | (with_reducible refine Below.trans ?_ (Below.mono (by assumption) (by (try simp); try omega)))))
            clear hb
            replace PB := PB.keep hk
            replace LX := LX.keep hk
            replace LY := LY.keep hk
            replace bA := bA.keep hk
            replace bB := bB.keep hk
            replace bQ := bQ.keep hk
            replace bR := bR.keep hk
            replace hB := hB.trans (hk.mono hB.size)
            clear hk
            have rbB0 : u7.cell? ⟨gbB, 0, none⟩ = some (.bool p') := bB.c0
            have rbB1 : u7.cell? ⟨gbB, 1, none⟩ = some (.slice a1 0 j1) := bB.c1
            go_wp2_with fail
            clear rbB0 rbB1
            go_at_call 25
            refine (check_num _ 0 _ LY (by rw [show (((0 : Int).natAbs : Nat) : Int) = 0 from rfl, dg_zero]; decide)).mono ?_
            rintro e u8 ⟨rfl, hb⟩
            have hk : Below u7.heap.size u7 u8 := by (repeat (first | with_reducible exact Below.refl _ _ | with_reducible assumption | refine Below.alloc ?_ (by (try simp); try omega) _ | refine Below.setCell ?_ (by (try simp); try omega) _ | refine below_drewN ?_ _ | refine Below.drew ?_ | (with_reducible refine Below.trans ?_ (Below.mono (by assumption) (by (try simp); try omega)))))
            clear hb
            replace PB := PB.keep hk
            replace LX := LX.keep hk
            replace LY := LY.keep hk
            replace bA := bA.keep hk
            replace bB := bB.keep hk
            replace bQ := bQ.keep hk
            replace bR := bR.keep hk
            replace hB := hB.trans (hk.mono hB.size)
            clear hk
            have rbB0 : u8.cell? ⟨gbB, 0, none⟩ = some (.bool p') := bB.c0
            have rbB1 : u8.cell? ⟨gbB, 1, none⟩ = some (.slice a1 0 j1) := bB.c1
            clear LX LY bA bB bQ bR
            go_wp2
            go_roundw
            case rel => exact ⟨k + 1, by simp, hk1, PB, hB⟩
            case measure => simp [intOf]; omega
          · have hE : x.tdiv y * y + x.tmod y = x := by rw [Int.mul_comm]; exact Int.mul_tdiv_add_tmod x y
            have dQ := Dl_tdiv x y
            have dR := Dl_tmod x hy0
            have dM := Dl_mul (x.tdiv y) y
            have hc : cmpI ((x.tmod y).natAbs : Int) (y.natAbs : Int) = -1 := cmpI_lt (by have := Int.natAbs_tmod x y; have := Nat.mod_lt x.natAbs (show 0 < y.natAbs by omega); omega)
            have hsg := tmod_sign (x := x) (y := y)
            obtain ⟨q, hq⟩ : ∃ q, x.tdiv y = q := ⟨_, rfl⟩
            obtain ⟨r, hr⟩ : ∃ r, x.tmod y = r := ⟨_, rfl⟩
            rw [hq] at dQ dM hE
            rw [hr] at dR hE hc hsg
            have hd := fun w h1 h2 => div_ok (.agg #[.bool p, .slice a0 n0 j0]) (.agg #[.bool p', .slice a1 n1 j1]) x y w h1 h2 (by omega) (by omega) hy0
            rw [hq, hr] at hd
            clear hq hr
            replace hE := Lib.hid hE
            replace hsg := Lib.hid hsg
            have rbA0 : wc.cell? ⟨gbA, 0, none⟩ = some (.bool p) := bA.c0
            have rbA1 : wc.cell? ⟨gbA, 1, none⟩ = some (.slice a0 n0 j0) := bA.c1
            have rbB0 : wc.cell? ⟨gbB, 0, none⟩ = some (.bool p') := bB.c0
            have rbB1 : wc.cell? ⟨gbB, 1, none⟩ = some (.slice a1 n1 j1) := bB.c1
            go_wp2_with fail
            clear rbA0 rbA1 rbB0 rbB1
            go_at_call 38
            refine (hd _ LX LY).mono ?_
            rintro e u3 ⟨⟨pQ, aQ, nQ, kQ, pR, aR, nR, kR, rfl, LQ, LR⟩, hb⟩
            have hk : Below wc.heap.size wc u3 := by (repeat (first | with_reducible exact Below.refl _ _ | with_reducible assumption | refine Below.alloc ?_ (by (try simp); try omega) _ | refine Below.setCell ?_ (by (try simp); try omega) _ | refine below_drewN ?_ _ | refine Below.drew ?_ | (with_reducible refine Below.trans ?_ (Below.mono (by assumption) (by (try simp); try omega)))))
            clear hb
            replace PB := PB.keep hk
            replace LX := LX.keep hk
            replace LY := LY.keep hk
            replace bA := bA.keep hk
            replace bB := bB.keep hk
            replace hB := hB.trans (hk.mono hB.size)
            clear hk
            have rbB0 : ((u3.alloc (.cells #[.bool pQ, .slice aQ nQ kQ] 24)).alloc (.cells #[.bool pR, .slice aR nR kR] 24)).cell? ⟨gbB, 0, none⟩ = some (.bool p') := ((bB.alloc _).alloc _).c0
            have rbB1 : ((u3.alloc (.cells #[.bool pQ, .slice aQ nQ kQ] 24)).alloc (.cells #[.bool pR, .slice aR nR kR] 24)).cell? ⟨gbB, 1, none⟩ = some (.slice a1 n1 j1) := ((bB.alloc _).alloc _).c1
            go_wp2_with fail
            clear rbB0 rbB1
            have hX : Below u3.heap.size u3 ((u3.alloc (.cells #[.bool pQ, .slice aQ nQ kQ] 24)).alloc (.cells #[.bool pR, .slice aR nR kR] 24)) := by (repeat (first | with_reducible exact Below.refl _ _ | with_reducible assumption | refine Below.alloc ?_ (by (try simp); try omega) _ | refine Below.setCell ?_ (by (try simp); try omega) _ | refine below_drewN ?_ _ | refine Below.drew ?_ | (with_reducible refine Below.trans ?_ (Below.mono (by assumption) (by (try simp); try omega)))))
            have bQ : Bx ((u3.alloc (.cells #[.bool pQ, .slice aQ nQ kQ] 24)).alloc (.cells #[.bool pR, .slice aR nR kR] 24)) (u3.heap.size) (.bool pQ) (.slice aQ nQ kQ) 24 := by exact ((Bx.new u3 (.bool pQ) (.slice aQ nQ kQ) 24).alloc _)
            have gebQ : w.heap.size ≤ u3.heap.size := by have := hB.size; omega
            have ltbAbQ : gbA < u3.heap.size := by have := bA.lt; omega
            have ltbBbQ : gbB < u3.heap.size := by have := bB.lt; omega
            have bR : Bx ((u3.alloc (.cells #[.bool pQ, .slice aQ nQ kQ] 24)).alloc (.cells #[.bool pR, .slice aR nR kR] 24)) (u3.heap.size + 1) (.bool pR) (.slice aR nR kR) 24 := by have := (Bx.new (u3.alloc (.cells #[.bool pQ, .slice aQ nQ kQ] 24)) (.bool pR) (.slice aR nR kR) 24); simpa using this
            have gebR : w.heap.size ≤ u3.heap.size + 1 := by have := hB.size; omega
            have ltbAbR : gbA < u3.heap.size + 1 := by have := bA.lt; omega
            have ltbBbR : gbB < u3.heap.size + 1 := by have := bB.lt; omega
            replace PB := PB.keep hX
            replace LX := LX.keep hX
            replace LY := LY.keep hX
            replace LQ := LQ.keep hX
            replace LR := LR.keep hX
            replace bA := bA.keep hX
            replace bB := bB.keep hX
            replace hB := hB.trans (hX.mono hB.size)
            clear hX
            generalize ((u3.alloc (.cells #[.bool pQ, .slice aQ nQ kQ] 24)).alloc (.cells #[.bool pR, .slice aR nR kR] 24)) = v4 at *
            generalize hg0 : u3.heap.size = gbQ at *
            generalize hg1 : gbQ + 1 = gbR at *
            have ltbQbR : gbQ < gbR := by omega
            clear hg0 hg1
            go_at_call 36
            refine (mul_ok _ _ q y _ LQ LY (by omega) (by omega) (by omega)).mono ?_
            rintro e u5 ⟨⟨pM, aM, nM, kM, rfl, LM⟩, hb⟩
            have hk : Below v4.heap.size v4 u5 := by (repeat (first | with_reducible exact Below.refl _ _ | with_reducible assumption | refine Below.alloc ?_ (by (try simp); try omega) _ | refine Below.setCell ?_ (by (try simp); try omega) _ | refine below_drewN ?_ _ | refine Below.drew ?_ | (with_reducible refine Below.trans ?_ (Below.mono (by assumption) (by (try simp); try omega)))))
            clear hb
            replace PB := PB.keep hk
            replace LX := LX.keep hk
            replace LY := LY.keep hk
            replace LQ := LQ.keep hk
            replace LR := LR.keep hk
            replace bA := bA.keep hk
            replace bB := bB.keep hk
            replace bQ := bQ.keep hk
            replace bR := bR.keep hk
            replace hB := hB.trans (hk.mono hB.size)
            clear hk
            have rbR0 : (u5.alloc (.cells #[.bool pM, .slice aM nM kM] 24)).cell? ⟨gbR, 0, none⟩ = some (.bool pR) := (bR.alloc _).c0
            have rbR1 : (u5.alloc (.cells #[.bool pM, .slice aM nM kM] 24)).cell? ⟨gbR, 1, none⟩ = some (.slice aR nR kR) := (bR.alloc _).c1
            go_wp2_with fail
            clear rbR0 rbR1
            have hX : Below u5.heap.size u5 (u5.alloc (.cells #[.bool pM, .slice aM nM kM] 24)) := by (repeat (first | with_reducible exact Below.refl _ _ | with_reducible assumption | refine Below.alloc ?_ (by (try simp); try omega) _ | refine Below.setCell ?_ (by (try simp); try omega) _ | refine below_drewN ?_ _ | refine Below.drew ?_ | (with_reducible refine Below.trans ?_ (Below.mono (by assumption) (by (try simp); try omega)))))
            have bM : Bx (u5.alloc (.cells #[.bool pM, .slice aM nM kM] 24)) (u5.heap.size) (.bool pM) (.slice aM nM kM) 24 := by exact (Bx.new u5 (.bool pM) (.slice aM nM kM) 24)
            have gebM : w.heap.size ≤ u5.heap.size := by have := hB.size; omega
            have ltbAbM : gbA < u5.heap.size := by have := bA.lt; omega
            have ltbBbM : gbB < u5.heap.size := by have := bB.lt; omega
            have ltbQbM : gbQ < u5.heap.size := by have := bQ.lt; omega
            have ltbRbM : gbR < u5.heap.size := by have := bR.lt; omega
            replace PB := PB.keep hX
            replace LX := LX.keep hX
            replace LY := LY.keep hX
            replace LQ := LQ.keep hX
            replace LR := LR.keep hX
            replace LM := LM.keep hX
            replace bA := bA.keep hX
            replace bB := bB.keep hX
            replace bQ := bQ.keep hX
            replace bR := bR.keep hX
            replace hB := hB.trans (hX.mono hB.size)
            clear hX
            generalize (u5.alloc (.cells #[.bool pM, .slice aM nM kM] 24)) = v6 at *
            generalize u5.heap.size = gbM at *
            go_at_call 29
            refine (add_okE _ _ (q * y) r x _ LM LR (by omega) (by omega) hE.out (by omega)).mono ?_
            rintro e u7 ⟨⟨pS, aS, nS, kS, rfl, LS⟩, hb⟩
            have hk : Below v6.heap.size v6 u7 := by (repeat (first | with_reducible exact Below.refl _ _ | with_reducible assumption | refine Below.alloc ?_ (by (try simp); try omega) _ | refine Below.setCell ?_ (by (try simp); try omega) _ | refine below_drewN ?_ _ | refine Below.drew ?_ | (with_reducible refine Below.trans ?_ (Below.mono (by assumption) (by (try simp); try omega)))))
            clear hb
            replace PB := PB.keep hk
            replace LX := LX.keep hk
            replace LY := LY.keep hk
            replace LQ := LQ.keep hk
            replace LR := LR.keep hk
            replace LM := LM.keep hk
            replace bA := bA.keep hk
            replace bB := bB.keep hk
            replace bQ := bQ.keep hk
            replace bR := bR.keep hk
            replace bM := bM.keep hk
            replace hB := hB.trans (hk.mono hB.size)
            clear hk
            clear LQ LM bQ bM
            go_upto_region 13 with fail
            have hX : Below u7.heap.size u7 (u7.alloc (.cells #[.bool pS, .slice aS nS kS] 24)) := by (repeat (first | with_reducible exact Below.refl _ _ | with_reducible assumption | refine Below.alloc ?_ (by (try simp); try omega) _ | refine Below.setCell ?_ (by (try simp); try omega) _ | refine below_drewN ?_ _ | refine Below.drew ?_ | (with_reducible refine Below.trans ?_ (Below.mono (by assumption) (by (try simp); try omega)))))
            have bS : Bx (u7.alloc (.cells #[.bool pS, .slice aS nS kS] 24)) (u7.heap.size) (.bool pS) (.slice aS nS kS) 24 := by exact (Bx.new u7 (.bool pS) (.slice aS nS kS) 24)
            have gebS : w.heap.size ≤ u7.heap.size := by have := hB.size; omega
            have ltbAbS : gbA < u7.heap.size := by have := bA.lt; omega
            have ltbBbS : gbB < u7.heap.size := by have := bB.lt; omega
            have ltbRbS : gbR < u7.heap.size := by have := bR.lt; omega
            replace PB := PB.keep hX
            replace LX := LX.keep hX
            replace LY := LY.keep hX
            replace LR := LR.keep hX
            replace LS := LS.keep hX
            replace bA := bA.keep hX
            replace bB := bB.keep hX
            replace bR := bR.keep hX
            replace hB := hB.trans (hX.mono hB.size)
            clear hX
            generalize (u7.alloc (.cells #[.bool pS, .slice aS nS kS] 24)) = v8 at *
            generalize u7.heap.size = gbS at *
            have e1 : (dg ((((r.natAbs : Int).natAbs : Nat) : Int))).length ≤ 600 := by rw [show (((r.natAbs : Int).natAbs : Nat) : Int) = (r.natAbs : Int) by omega]; unfold Dl at dR; unfold Dl at dy; omega
            have e2 : (dg ((((y.natAbs : Int).natAbs : Nat) : Int))).length ≤ 600 := by rw [show (((y.natAbs : Int).natAbs : Nat) : Int) = (y.natAbs : Int) by omega]; unfold Dl at dy; omega
            go_region_held3 (fun w' => w'.cell? ⟨gbR, 0, none⟩ = some (.bool pR) ∧ w'.cell? ⟨gbR, 1, none⟩ = some (.slice aR nR kR) ∧ w'.cell? ⟨gbB, 0, none⟩ = some (.bool p') ∧ w'.cell? ⟨gbB, 1, none⟩ = some (.slice a1 n1 j1))
              (first | exact ⟨bR.c0, bR.c1, bB.c0, bB.c1⟩ | exact ⟨(bR.farP (by omega) _ _).c0, (bR.farP (by omega) _ _).c1, (bB.farP (by omega) _ _).c0, (bB.farP (by omega) _ _).c1⟩ | exact ⟨(bR.keep (by (repeat (first | with_reducible exact Below.refl _ _ | with_reducible assumption | refine Below.alloc ?_ (by (try simp); try omega) _ | refine Below.setCell ?_ (by (try simp); try omega) _ | refine below_drewN ?_ _ | refine Below.drew ?_ | (with_reducible refine Below.trans ?_ (Below.mono (by assumption) (by (try simp); try omega))))))).c0, (bR.keep (by (repeat (first | with_reducible exact Below.refl _ _ | with_reducible assumption | refine Below.alloc ?_ (by (try simp); try omega) _ | refine Below.setCell ?_ (by (try simp); try omega) _ | refine below_drewN ?_ _ | refine Below.drew ?_ | (with_reducible refine Below.trans ?_ (Below.mono (by assumption) (by (try simp); try omega))))))).c1, (bB.keep (by (repeat (first | with_reducible exact Below.refl _ _ | with_reducible assumption | refine Below.alloc ?_ (by (try simp); try omega) _ | refine Below.setCell ?_ (by (try simp); try omega) _ | refine below_drewN ?_ _ | refine Below.drew ?_ | (with_reducible refine Below.trans ?_ (Below.mono (by assumption) (by (try simp); try omega))))))).c0, (bB.keep (by (repeat (first | with_reducible exact Below.refl _ _ | with_reducible assumption | refine Below.alloc ?_ (by (try simp); try omega) _ | refine Below.setCell ?_ (by (try simp); try omega) _ | refine below_drewN ?_ _ | refine Below.drew ?_ | (with_reducible refine Below.trans ?_ (Below.mono (by assumption) (by (try simp); try omega))))))).c1⟩)
              (first | (go_at_call 54; (with_reducible refine (size_num _ r _ (by first | exact LR | exact LR.keep (by (repeat (first | with_reducible exact Below.refl _ _ | with_reducible assumption | refine Below.alloc ?_ (by (try simp); try omega) _ | refine Below.setCell ?_ (by (try simp); try omega) _ | refine below_drewN ?_ _ | refine Below.drew ?_ | (with_reducible refine Below.trans ?_ (Below.mono (by assumption) (by (try simp); try omega)))))))).mono ?_); rintro e uz ⟨⟨pC, aC, nC, kC, rfl, LC⟩, hb⟩; (with_reducible (first | (replace hb := undrew3 (undrew3 hb)) | (replace hb := undrew3 hb) | skip)); replace PB := PB.keep hb; replace LX := LX.keep hb; replace LY := LY.keep hb; replace LR := LR.keep hb; replace LS := LS.keep hb; replace bA := bA.keep hb; replace bB := bB.keep hb; replace bR := bR.keep hb; replace bS := bS.keep hb; (first | replace LC := LC.keep hb | skip); (first | replace LD := LD.keep hb | skip); replace hB := hB.trans (hb.mono hB.size); clear hb) | (go_at_call 54; (with_reducible refine (size_num _ y _ (by first | exact LY | exact LY.keep (by (repeat (first | with_reducible exact Below.refl _ _ | with_reducible assumption | refine Below.alloc ?_ (by (try simp); try omega) _ | refine Below.setCell ?_ (by (try simp); try omega) _ | refine below_drewN ?_ _ | refine Below.drew ?_ | (with_reducible refine Below.trans ?_ (Below.mono (by assumption) (by (try simp); try omega)))))))).mono ?_); rintro e uz ⟨⟨pD, aD, nD, kD, rfl, LD⟩, hb⟩; (with_reducible (first | (replace hb := undrew3 (undrew3 hb)) | (replace hb := undrew3 hb) | skip)); replace PB := PB.keep hb; replace LX := LX.keep hb; replace LY := LY.keep hb; replace LR := LR.keep hb; replace LS := LS.keep hb; replace bA := bA.keep hb; replace bB := bB.keep hb; replace bR := bR.keep hb; replace bS := bS.keep hb; (first | replace LC := LC.keep hb | skip); (first | replace LD := LD.keep hb | skip); replace hB := hB.trans (hb.mono hB.size); clear hb) | (go_at_call 21; (with_reducible refine (cmp_num _ _ (r.natAbs : Int) (y.natAbs : Int) _ LC LD e1 e2).mono ?_); rintro e uz ⟨rfl, hb⟩; (with_reducible (first | (replace hb := undrew3 (undrew3 hb)) | (replace hb := undrew3 hb) | skip)); replace PB := PB.keep hb; replace LX := LX.keep hb; replace LY := LY.keep hb; replace LR := LR.keep hb; replace LS := LS.keep hb; replace bA := bA.keep hb; replace bB := bB.keep hb; replace bR := bR.keep hb; replace bS := bS.keep hb; (first | replace LC := LC.keep hb | skip); (first | replace LD := LD.keep hb | skip); replace hB := hB.trans (hb.mono hB.size); clear hb))
            clear LY bB
            have rbS0 : uz.cell? ⟨gbS, 0, none⟩ = some (.bool pS) := bS.c0
            have rbS1 : uz.cell? ⟨gbS, 1, none⟩ = some (.slice aS nS kS) := bS.c1
            have rbA0 : uz.cell? ⟨gbA, 0, none⟩ = some (.bool p) := bA.c0
            have rbA1 : uz.cell? ⟨gbA, 1, none⟩ = some (.slice a0 n0 j0) := bA.c1
            go_wp2_with fail
            clear rbS0 rbS1 rbA0 rbA1
            go_at_call 27
            refine (same_lg _ _ x _ LS LX (by omega)).mono ?_
            rintro e u9 ⟨rfl, hb⟩
            have hk : Below uz.heap.size uz u9 := by (repeat (first | with_reducible exact Below.refl _ _ | with_reducible assumption | refine Below.alloc ?_ (by (try simp); try omega) _ | refine Below.setCell ?_ (by (try simp); try omega) _ | refine below_drewN ?_ _ | refine Below.drew ?_ | (with_reducible refine Below.trans ?_ (Below.mono (by assumption) (by (try simp); try omega)))))
            clear hb
            replace PB := PB.keep hk
            replace LX := LX.keep hk
            replace LR := LR.keep hk
            replace LS := LS.keep hk
            replace bA := bA.keep hk
            replace bR := bR.keep hk
            replace bS := bS.keep hk
            replace hB := hB.trans (hk.mono hB.size)
            clear hk
            obtain ⟨sR, nR'⟩ := LR.nil
            obtain ⟨sA, _⟩ := LX.nil
            by_cases hr0 : r = 0
            · rw [hr0, Dl_zero] at nR'
              subst nR'
              have rbR0 : u9.cell? ⟨gbR, 0, none⟩ = some (.bool pR) := bR.c0
              have rbR1 : u9.cell? ⟨gbR, 1, none⟩ = some (.slice aR 0 kR) := bR.c1
              have rbA0 : u9.cell? ⟨gbA, 0, none⟩ = some (.bool p) := bA.c0
              have rbA1 : u9.cell? ⟨gbA, 1, none⟩ = some (.slice a0 n0 j0) := bA.c1
              clear LX LR LS bA bR bS
              go_wp2
              go_roundw
              case rel => exact ⟨k + 1, by simp, hk1, PB, hB⟩
              case measure => simp [intOf]; omega
            · have hp0 := Dl_pos hr0
              rw [← nR'] at hp0
              have hnI : (0 : Int) < (nR : Int) := by omega
              have hpp : pR = p := by rw [sR, sA]; exact hsg.out hr0
              subst hpp
              clear sR sA nR' hp0
              have rbR0 : u9.cell? ⟨gbR, 0, none⟩ = some (.bool pR) := bR.c0
              have rbR1 : u9.cell? ⟨gbR, 1, none⟩ = some (.slice aR nR kR) := bR.c1
              have rbA0 : u9.cell? ⟨gbA, 0, none⟩ = some (.bool pR) := bA.c0
              have rbA1 : u9.cell? ⟨gbA, 1, none⟩ = some (.slice a0 n0 j0) := bA.c1
              clear LX LR LS bA bR bS
              go_wp2
              go_roundw
              case rel => exact ⟨k + 1, by simp, hk1, PB, hB⟩
              case measure => simp [intOf]; omega
        · have hbad : ckT (ckL p l) (ckL p' l') = 30 := by rw [v1, v2]; rfl
          have rbA0 : wc.cell? ⟨gbA, 0, none⟩ = some (.bool p) := bA.c0
          have rbA1 : wc.cell? ⟨gbA, 1, none⟩ = some (.slice a0 n0 j0) := bA.c1
          have rbB0 : wc.cell? ⟨gbB, 0, none⟩ = some (.bool p') := bB.c0
          have rbB1 : wc.cell? ⟨gbB, 1, none⟩ = some (.slice a1 n1 j1) := bB.c1
          go_wp2_with fail
          clear rbA0 rbA1 rbB0 rbB1
          go_at_call 38
          refine (div_bad p p' _ _ l l' _ XL YL (by omega) (by omega) hbad).mono ?_
          rintro e u3 ⟨rfl, hb⟩
          have hk : Below wc.heap.size wc u3 := by (repeat (first | with_reducible exact Below.refl _ _ | with_reducible assumption | refine Below.alloc ?_ (by (try simp); try omega) _ | refine Below.setCell ?_ (by (try simp); try omega) _ | refine below_drewN ?_ _ | refine Below.drew ?_ | (with_reducible refine Below.trans ?_ (Below.mono (by assumption) (by (try simp); try omega)))))
          clear hb
          replace PB := PB.keep hk
          replace XL := XL.keep hk
          replace YL := YL.keep hk
          replace bA := bA.keep hk
          replace bB := bB.keep hk
          replace hB := hB.trans (hk.mono hB.size)
          clear hk
          clear hbad
          go_wp2_with fail
          have hX : Below u3.heap.size u3 ((u3.alloc (.cells #[.bool false, .slice none 0 0] 24)).alloc (.cells #[.bool false, .slice none 0 0] 24)) := by (repeat (first | with_reducible exact Below.refl _ _ | with_reducible assumption | refine Below.alloc ?_ (by (try simp); try omega) _ | refine Below.setCell ?_ (by (try simp); try omega) _ | refine below_drewN ?_ _ | refine Below.drew ?_ | (with_reducible refine Below.trans ?_ (Below.mono (by assumption) (by (try simp); try omega)))))
          have bQ : Bx ((u3.alloc (.cells #[.bool false, .slice none 0 0] 24)).alloc (.cells #[.bool false, .slice none 0 0] 24)) (u3.heap.size) (.bool false) (.slice none 0 0) 24 := by exact ((Bx.new u3 (.bool false) (.slice none 0 0) 24).alloc _)
          have gebQ : w.heap.size ≤ u3.heap.size := by have := hB.size; omega
          have ltbAbQ : gbA < u3.heap.size := by have := bA.lt; omega
          have ltbBbQ : gbB < u3.heap.size := by have := bB.lt; omega
          have bR : Bx ((u3.alloc (.cells #[.bool false, .slice none 0 0] 24)).alloc (.cells #[.bool false, .slice none 0 0] 24)) (u3.heap.size + 1) (.bool false) (.slice none 0 0) 24 := by have := (Bx.new (u3.alloc (.cells #[.bool false, .slice none 0 0] 24)) (.bool false) (.slice none 0 0) 24); simpa using this
          have gebR : w.heap.size ≤ u3.heap.size + 1 := by have := hB.size; omega
          have ltbAbR : gbA < u3.heap.size + 1 := by have := bA.lt; omega
          have ltbBbR : gbB < u3.heap.size + 1 := by have := bB.lt; omega
          replace PB := PB.keep hX
          replace XL := XL.keep hX
          replace YL := YL.keep hX
          replace bA := bA.keep hX
          replace bB := bB.keep hX
          replace hB := hB.trans (hX.mono hB.size)
          clear hX
          generalize ((u3.alloc (.cells #[.bool false, .slice none 0 0] 24)).alloc (.cells #[.bool false, .slice none 0 0] 24)) = v4 at *
          generalize hg0 : u3.heap.size = gbQ at *
          generalize hg1 : gbQ + 1 = gbR at *
          have ltbQbR : gbQ < gbR := by omega
          clear hg0 hg1
          go_at_call 27
          refine (same_no _).mono ?_
          rintro e u5 ⟨rfl, hb⟩
          have hk : Below v4.heap.size v4 u5 := by (repeat (first | with_reducible exact Below.refl _ _ | with_reducible assumption | refine Below.alloc ?_ (by (try simp); try omega) _ | refine Below.setCell ?_ (by (try simp); try omega) _ | refine below_drewN ?_ _ | refine Below.drew ?_ | (with_reducible refine Below.trans ?_ (Below.mono (by assumption) (by (try simp); try omega)))))
          clear hb
          replace PB := PB.keep hk
          replace XL := XL.keep hk
          replace YL := YL.keep hk
          replace bA := bA.keep hk
          replace bB := bB.keep hk
          replace bQ := bQ.keep hk
          replace bR := bR.keep hk
          replace hB := hB.trans (hk.mono hB.size)
          clear hk
          have rbR0 : u5.cell? ⟨gbR, 0, none⟩ = some (.bool false) := bR.c0
          have rbR1 : u5.cell? ⟨gbR, 1, none⟩ = some (.slice none 0 0) := bR.c1
          go_wp2_with fail
          clear rbR0 rbR1
          go_at_call 27
          refine (same_no _).mono ?_
          rintro e u6 ⟨rfl, hb⟩
          have hk : Below u5.heap.size u5 u6 := by (repeat (first | with_reducible exact Below.refl _ _ | with_reducible assumption | refine Below.alloc ?_ (by (try simp); try omega) _ | refine Below.setCell ?_ (by (try simp); try omega) _ | refine below_drewN ?_ _ | refine Below.drew ?_ | (with_reducible refine Below.trans ?_ (Below.mono (by assumption) (by (try simp); try omega)))))
          clear hb
          replace PB := PB.keep hk
          replace XL := XL.keep hk
          replace YL := YL.keep hk
          replace bA := bA.keep hk
          replace bB := bB.keep hk
          replace bQ := bQ.keep hk
          replace bR := bR.keep hk
          replace hB := hB.trans (hk.mono hB.size)
          clear hk
          have rbA0 : u6.cell? ⟨gbA, 0, none⟩ = some (.bool p) := bA.c0
          have rbA1 : u6.cell? ⟨gbA, 1, none⟩ = some (.slice a0 n0 j0) := bA.c1
          go_wp2_with fail
          clear rbA0 rbA1
          go_at_call 25
          refine (check_any p _ l _ XL (by omega)).mono ?_
          rintro e u7 ⟨rfl, hb⟩
          have hk : Below u6.heap.size u6 u7 := by (repeat (first | with_reducible exact Below.refl _ _ | with_reducible assumption | refine Below.alloc ?_ (by (try simp); try omega) _ | refine Below.setCell ?_ (by (try simp); try omega) _ | refine below_drewN ?_ _ | refine Below.drew ?_ | (with_reducible refine Below.trans ?_ (Below.mono (by assumption) (by (try simp); try omega)))))
          clear hb
          replace PB := PB.keep hk
          replace XL := XL.keep hk
          replace YL := YL.keep hk
          replace bA := bA.keep hk
          replace bB := bB.keep hk
          replace bQ := bQ.keep hk
          replace bR := bR.keep hk
          replace hB := hB.trans (hk.mono hB.size)
          clear hk
          rw [v1]
          clear v1
          have rbB0 : u7.cell? ⟨gbB, 0, none⟩ = some (.bool p') := bB.c0
          have rbB1 : u7.cell? ⟨gbB, 1, none⟩ = some (.slice a1 n1 j1) := bB.c1
          go_wp2_with fail
          clear rbB0 rbB1
          go_at_call 25
          refine (check_any p' _ l' _ YL (by omega)).mono ?_
          rintro e u8 ⟨rfl, hb⟩
          have hk : Below u7.heap.size u7 u8 := by (repeat (first | with_reducible exact Below.refl _ _ | with_reducible assumption | refine Below.alloc ?_ (by (try simp); try omega) _ | refine Below.setCell ?_ (by (try simp); try omega) _ | refine below_drewN ?_ _ | refine Below.drew ?_ | (with_reducible refine Below.trans ?_ (Below.mono (by assumption) (by (try simp); try omega)))))
          clear hb
          replace PB := PB.keep hk
          replace XL := XL.keep hk
          replace YL := YL.keep hk
          replace bA := bA.keep hk
          replace bB := bB.keep hk
          replace bQ := bQ.keep hk
          replace bR := bR.keep hk
          replace hB := hB.trans (hk.mono hB.size)
          clear hk
          rw [v2]
          clear v2
          clear XL YL bA bB bQ bR
          go_wp2
          go_roundw
          case rel => exact ⟨k + 1, by simp, hk1, PB, hB⟩
          case measure => simp [intOf]; omega
      · have hbad : ckT (ckL p l) (ckL p' l') = 30 := by rw [v1]; rfl
        have rbA0 : wc.cell? ⟨gbA, 0, none⟩ = some (.bool p) := bA.c0
        have rbA1 : wc.cell? ⟨gbA, 1, none⟩ = some (.slice a0 n0 j0) := bA.c1
        have rbB0 : wc.cell? ⟨gbB, 0, none⟩ = some (.bool p') := bB.c0
        have rbB1 : wc.cell? ⟨gbB, 1, none⟩ = some (.slice a1 n1 j1) := bB.c1
        go_wp2_with fail
        clear rbA0 rbA1 rbB0 rbB1
        go_at_call 38
        refine (div_bad p p' _ _ l l' _ XL YL (by omega) (by omega) hbad).mono ?_
        rintro e u3 ⟨rfl, hb⟩
        have hk : Below wc.heap.size wc u3 := by (repeat (first | with_reducible exact Below.refl _ _ | with_reducible assumption | refine Below.alloc ?_ (by (try simp); try omega) _ | refine Below.setCell ?_ (by (try simp); try omega) _ | refine below_drewN ?_ _ | refine Below.drew ?_ | (with_reducible refine Below.trans ?_ (Below.mono (by assumption) (by (try simp); try omega)))))
        clear hb
        replace PB := PB.keep hk
        replace XL := XL.keep hk
        replace YL := YL.keep hk
        replace bA := bA.keep hk
        replace bB := bB.keep hk
        replace hB := hB.trans (hk.mono hB.size)
        clear hk
        clear hbad
        go_wp2_with fail
        have hX : Below u3.heap.size u3 ((u3.alloc (.cells #[.bool false, .slice none 0 0] 24)).alloc (.cells #[.bool false, .slice none 0 0] 24)) := by (repeat (first | with_reducible exact Below.refl _ _ | with_reducible assumption | refine Below.alloc ?_ (by (try simp); try omega) _ | refine Below.setCell ?_ (by (try simp); try omega) _ | refine below_drewN ?_ _ | refine Below.drew ?_ | (with_reducible refine Below.trans ?_ (Below.mono (by assumption) (by (try simp); try omega)))))
        have bQ : Bx ((u3.alloc (.cells #[.bool false, .slice none 0 0] 24)).alloc (.cells #[.bool false, .slice none 0 0] 24)) (u3.heap.size) (.bool false) (.slice none 0 0) 24 := by exact ((Bx.new u3 (.bool false) (.slice none 0 0) 24).alloc _)
        have gebQ : w.heap.size ≤ u3.heap.size := by have := hB.size; omega
        have ltbAbQ : gbA < u3.heap.size := by have := bA.lt; omega
        have ltbBbQ : gbB < u3.heap.size := by have := bB.lt; omega
        have bR : Bx ((u3.alloc (.cells #[.bool false, .slice none 0 0] 24)).alloc (.cells #[.bool false, .slice none 0 0] 24)) (u3.heap.size + 1) (.bool false) (.slice none 0 0) 24 := by have := (Bx.new (u3.alloc (.cells #[.bool false, .slice none 0 0] 24)) (.bool false) (.slice none 0 0) 24); simpa using this
        have gebR : w.heap.size ≤ u3.heap.size + 1 := by have := hB.size; omega
        have ltbAbR : gbA < u3.heap.size + 1 := by have := bA.lt; omega
        have ltbBbR : gbB < u3.heap.size + 1 := by have := bB.lt; omega
        replace PB := PB.keep hX
        replace XL := XL.keep hX
        replace YL := YL.keep hX
        replace bA := bA.keep hX
        replace bB := bB.keep hX
        replace hB := hB.trans (hX.mono hB.size)
        clear hX
        generalize ((u3.alloc (.cells #[.bool false, .slice none 0 0] 24)).alloc (.cells #[.bool false, .slice none 0 0] 24)) = v4 at *
        generalize hg0 : u3.heap.size = gbQ at *
        generalize hg1 : gbQ + 1 = gbR at *
        have ltbQbR : gbQ < gbR := by omega
        clear hg0 hg1
        go_at_call 27
        refine (same_no _).mono ?_
        rintro e u5 ⟨rfl, hb⟩
        have hk : Below v4.heap.size v4 u5 := by (repeat (first | with_reducible exact Below.refl _ _ | with_reducible assumption | refine Below.alloc ?_ (by (try simp); try omega) _ | refine Below.setCell ?_ (by (try simp); try omega) _ | refine below_drewN ?_ _ | refine Below.drew ?_ | (with_reducible refine Below.trans ?_ (Below.mono (by assumption) (by (try simp); try omega)))))
        clear hb
        replace PB := PB.keep hk
        replace XL := XL.keep hk
        replace YL := YL.keep hk
        replace bA := bA.keep hk
        replace bB := bB.keep hk
        replace bQ := bQ.keep hk
        replace bR := bR.keep hk
        replace hB := hB.trans (hk.mono hB.size)
        clear hk
        have rbR0 : u5.cell? ⟨gbR, 0, none⟩ = some (.bool false) := bR.c0
        have rbR1 : u5.cell? ⟨gbR, 1, none⟩ = some (.slice none 0 0) := bR.c1
        go_wp2_with fail
        clear rbR0 rbR1
        go_at_call 27
        refine (same_no _).mono ?_
        rintro e u6 ⟨rfl, hb⟩
        have hk : Below u5.heap.size u5 u6 := by (repeat (first | with_reducible exact Below.refl _ _ | with_reducible assumption | refine Below.alloc ?_ (by (try simp); try omega) _ | refine Below.setCell ?_ (by (try simp); try omega) _ | refine below_drewN ?_ _ | refine Below.drew ?_ | (with_reducible refine Below.trans ?_ (Below.mono (by assumption) (by (try simp); try omega)))))
        clear hb
        replace PB := PB.keep hk
        replace XL := XL.keep hk
        replace YL := YL.keep hk
        replace bA := bA.keep hk
        replace bB := bB.keep hk
        replace bQ := bQ.keep hk
        replace bR := bR.keep hk
        replace hB := hB.trans (hk.mono hB.size)
        clear hk
        have rbA0 : u6.cell? ⟨gbA, 0, none⟩ = some (.bool p) := bA.c0
        have rbA1 : u6.cell? ⟨gbA, 1, none⟩ = some (.slice a0 n0 j0) := bA.c1
        go_wp2_with fail
        clear rbA0 rbA1
        go_at_call 25
        refine (check_any p _ l _ XL (by omega)).mono ?_
        rintro e u7 ⟨rfl, hb⟩
        have hk : Below u6.heap.size u6 u7 := by (repeat (first | with_reducible exact Below.refl _ _ | with_reducible assumption | refine Below.alloc ?_ (by (try simp); try omega) _ | refine Below.setCell ?_ (by (try simp); try omega) _ | refine below_drewN ?_ _ | refine Below.drew ?_ | (with_reducible refine Below.trans ?_ (Below.mono (by assumption) (by (try simp); try omega)))))
        clear hb
        replace PB := PB.keep hk
        replace XL := XL.keep hk
        replace YL := YL.keep hk
        replace bA := bA.keep hk
        replace bB := bB.keep hk
        replace bQ := bQ.keep hk
        replace bR := bR.keep hk
        replace hB := hB.trans (hk.mono hB.size)
        clear hk
        rw [v1]
        clear v1
        clear XL YL bA bB bQ bR
        go_wp2
        go_roundw
        case rel => exact ⟨k + 1, by simp, hk1, PB, hB⟩
        case measure => simp [intOf]; omega
end Go.Proofs.YtoppdbgodceaiaaDoor
