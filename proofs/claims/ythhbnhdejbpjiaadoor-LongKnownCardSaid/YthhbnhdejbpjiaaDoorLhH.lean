/-
  The statements' helper works answers true.
-/
import Derived.Test.YthhbnhdejbpjiaaDoorLhF
namespace Go.Proofs.YthhbnhdejbpjiaaDoor
open Go.RowKit

theorem belowDrew (w : World) : Below w.heap.size w w.drew := (Below.refl w.heap.size w).drew
set_option maxRecDepth 100000 in
set_option maxHeartbeats 4000000 in
theorem divides_true (la lb lq lr : List UInt8) (x y : Int) (w : World) (hx : PText la x) (hy : PText lb y) (y0 : y ≠ 0) (hq : PText lq (x.tdiv y)) (hr : PText lr (x.tmod y)) (hP : Pw w) :
    Calls Tryd.prog 18 #[.string ⟨⟨la⟩⟩, .string ⟨⟨lb⟩⟩, .string ⟨⟨lq⟩⟩, .string ⟨⟨lr⟩⟩] w fun e w' => e = .returned (.bool true) ∧ Below w.heap.size w w' := by
  have fx := fun w => of_num la x w hx
  have fy := fun w => of_num lb y w hy
  have fq := is_any ⟨⟨lq⟩⟩
  have fr := is_any ⟨⟨lr⟩⟩
  have dx := hx.len
  have dy := hy.len
  have dq := hq.len
  have dr := hr.len
  have sq := sx_of hq
  have sr := sx_of hr
  clear hx hy hq hr
  have Sq := Lib.hid sq
  have Sr := Lib.hid sr
  clear sq sr
  generalize (⟨⟨la⟩⟩ : ByteArray) = A at *
  generalize (⟨⟨lb⟩⟩ : ByteArray) = B at *
  generalize (⟨⟨lq⟩⟩ : ByteArray) = Q at *
  generalize (⟨⟨lr⟩⟩ : ByteArray) = R at *
  go_enter Tryd.func18, Tryd.ntmps18
  go_wp2_with fail
  go_at_call 6
  refine (fx _).mono ?_
  rintro e u1 ⟨⟨p1, a1, n1, c1, rfl, LA⟩, hb⟩
  have hB := hb
  replace hP := hP.keep hb
  clear hb fx
  go_wp2_with fail
  go_at_call 6
  refine (fy _).mono ?_
  rintro e u2 ⟨⟨p2, a2, n2, c2, rfl, LB⟩, hb⟩
  replace LA := LA.keep hb
  replace hP := hP.keep hb
  replace hB := hB.trans (hb.mono hB.size)
  clear hb fy
  go_wp2_with fail
  go_at_call 19
  refine (div_ok _ _ x y _ LA LB dx dy y0).mono ?_
  rintro e u3 ⟨⟨p3, a3, n3, c3, p4, a4, n4, c4, rfl, LQ, LR⟩, hb⟩
  replace hP := hP.keep hb
  replace hB := hB.trans (hb.mono hB.size)
  clear hb LA LB
  go_wp2_with fail
  have hX : Below u3.heap.size u3 ((u3.alloc (.cells #[.bool p3, .slice a3 n3 c3] 25)).alloc (.cells #[.bool p4, .slice a4 n4 c4] 25)) := by (repeat (first | with_reducible exact Below.refl _ _ | with_reducible assumption | refine Below.alloc ?_ (by (try simp); try omega) _ | refine Below.setCell ?_ (by (try simp); try omega) _ | refine below_drewN ?_ _ | refine Below.drew ?_ | (with_reducible refine Below.trans ?_ (Below.mono (by assumption) (by (try simp); try omega)))))
  have c0 : ((u3.alloc (.cells #[.bool p3, .slice a3 n3 c3] 25)).alloc (.cells #[.bool p4, .slice a4 n4 c4] 25)).cell? ⟨u3.heap.size, 0, none⟩ = some (.bool p3) := by simp [go_sem]
  have c1 : ((u3.alloc (.cells #[.bool p3, .slice a3 n3 c3] 25)).alloc (.cells #[.bool p4, .slice a4 n4 c4] 25)).cell? ⟨u3.heap.size, 1, none⟩ = some (.slice a3 n3 c3) := by simp [go_sem]
  have c2 : ((u3.alloc (.cells #[.bool p3, .slice a3 n3 c3] 25)).alloc (.cells #[.bool p4, .slice a4 n4 c4] 25)).cell? ⟨u3.heap.size + 1, 0, none⟩ = some (.bool p4) := by simp [go_sem]
  have c3' : ((u3.alloc (.cells #[.bool p3, .slice a3 n3 c3] 25)).alloc (.cells #[.bool p4, .slice a4 n4 c4] 25)).cell? ⟨u3.heap.size + 1, 1, none⟩ = some (.slice a4 n4 c4) := by simp [go_sem]
  replace LQ := LQ.keep hX
  replace LR := LR.keep hX
  replace hP := hP.keep hX
  replace hB := hB.trans (hX.mono hB.size)
  clear hX
  generalize ((u3.alloc (.cells #[.bool p3, .slice a3 n3 c3] 25)).alloc (.cells #[.bool p4, .slice a4 n4 c4] 25)) = v0 at *
  generalize u3.heap.size = g at *
  go_region_held3 (fun w' => w'.cell? ⟨g, 0, none⟩ = some (.bool p3) ∧ w'.cell? ⟨g, 1, none⟩ = some (.slice a3 n3 c3) ∧ w'.cell? ⟨g + 1, 0, none⟩ = some (.bool p4) ∧ w'.cell? ⟨g + 1, 1, none⟩ = some (.slice a4 n4 c4))
    ((first | exact ⟨c0, c1, c2, c3'⟩))
    (first | (go_at_call 11; refine (fq _).mono ?_; rintro e u5 ⟨bq, rfl, hsq, hb⟩; have hk : Below v0.heap.size v0 u5 := (by (repeat (first | with_reducible exact Below.refl _ _ | with_reducible assumption | refine Below.alloc ?_ (by (try simp); try omega) _ | refine Below.setCell ?_ (by (try simp); try omega) _ | refine below_drewN ?_ _ | refine Below.drew ?_ | (with_reducible refine Below.trans ?_ (Below.mono (by assumption) (by (try simp); try omega)))))); clear hb fq; replace c0 := lkeep hk c0; replace c1 := lkeep hk c1; replace c2 := lkeep hk c2; replace c3' := lkeep hk c3'; replace LQ := LQ.keep hk; replace LR := LR.keep hk; replace hP := hP.keep hk; replace hB := hB.trans (hk.mono hB.size); clear hk) | (go_at_call 11; refine (fr _).mono ?_; rintro e u7 ⟨br, rfl, hsr, hb⟩; clear fr; replace c0 := lkeep hb c0; replace c1 := lkeep hb c1; replace c2 := lkeep hb c2; replace c3' := lkeep hb c3'; replace LR := LR.keep hb; replace hP := hP.keep hb; replace hB := hB.trans (hb.mono hB.size); clear hb) | (go_at_call 37; refine (is1_true _ _ bq Q _ LQ dq hP hsq Sq.out).mono ?_; rintro e u6 ⟨rfl, hb⟩; clear hsq LQ; replace c0 := lkeep hb c0; replace c1 := lkeep hb c1; replace c2 := lkeep hb c2; replace c3' := lkeep hb c3'; replace LR := LR.keep hb; replace hP := hP.keep hb; replace hB := hB.trans (hb.mono hB.size); clear hb) | (go_at_call 37; refine (is1_true _ _ br R _ LR dr hP hsr Sr.out).mono ?_; rintro e u8 ⟨rfl, hb⟩; clear hsr LR; replace c0 := lkeep hb c0; replace c1 := lkeep hb c1; replace c2 := lkeep hb c2; replace c3' := lkeep hb c3'; replace hP := hP.keep hb; replace hB := hB.trans (hb.mono hB.size); clear hb))
  go_wp2
  go_ret
  exact ⟨rfl, hB⟩

theorem Lg.parts {w : World} {p : Bool} {s : Value} {z : Int} (h : Lg w (.agg #[.bool p, s]) z) : p = decide (z < 0) ∧ Ls w s (dg (z.natAbs : Int)) := by
  obtain ⟨s', e, hs⟩ := h
  injection e with e
  have e1 := congrArg (·[0]?) e
  have e2 := congrArg (·[1]?) e
  simp at e1 e2
  subst e2
  exact ⟨e1, hs⟩
theorem Ls.slen {w : World} {a : Option Addr} {n c : Nat} {l : List Int} (h : Ls w (.slice a n c) l) : n = l.length := by
  obtain ⟨_, _, e, _⟩ := h
  injection e
theorem ofInt_ok (n : Int) (w : World) (n0 : -9223372036854775808 ≤ n) (n1 : n ≤ 9223372036854775807) :
    Calls Tryd.prog 24 #[.int .i64 n] w fun e w' => LgV n e w' ∧ Below w.heap.size w w' := by
  refine (of_any n w n0 n1).mono ?_
  rintro e w' ⟨V, rfl, hL, hb⟩
  have hL' := hL
  obtain ⟨s, rfl, a, c, rfl, _⟩ := hL
  exact ⟨⟨_, _, _, _, rfl, hL'⟩, hb⟩
/-- A new row of two numbers. -/
theorem Ls.two (w : World) (x y : Int) (g : Nat) (hg : g = w.heap.size) : Ls (w.alloc (.cells #[.int .i64 x, .int .i64 y] 3)) (.slice (some ⟨g, 0, none⟩) 2 2) [x, y] := by
  subst hg
  refine ⟨_, _, rfl, ⟨Nat.le_refl _, fun h => by cases h⟩, fun _ => ⟨_, _, rfl, fun i hi => ?_⟩⟩
  match i, hi with
  | 0, _ => simp [el]
  | 1, _ => simp [el]
theorem dg_e9 : dg (((-1000000005 : Int).natAbs : Nat) : Int) = [5, 1] := by
  rw [show (((-1000000005 : Int).natAbs : Nat) : Int) = 1000000005 from rfl, dg_two (by omega) (by omega)]; rfl
theorem ck_five : ckL false [5, 0] = 30 := by decide +kernel
theorem ck_neg : ckL true [] = 30 := by decide +kernel
theorem lit_len {l : List UInt8} {z : Int} (h : PText l z) : Dl z ≤ 600 := h.len

set_option maxRecDepth 100000 in
set_option maxHeartbeats 1000000 in
theorem div_zero_raw (b1 b2 : Bool) (s1 s2 : Value) (l m : List Int) (w : World) (h1 : Ls w s1 l) (h2 : Ls w s2 m) (ll : l.length ≤ 1000000) (lm : m.length ≤ 1000000) (hv : ckT (ckL b1 l) (ckL b2 m) = 0) (hm : m.length = 0) :
    Calls Tryd.prog 19 #[.agg #[.bool b1, s1], .agg #[.bool b2, s2]] w fun e w' => e = .returned (.tuple #[noL, noL, .int .i64 7]) ∧ Below w.heap.size w w' := by
  have hm2 := Lib.hid hm
  clear hm
  have a1 := Below.alloc (Below.refl w.heap.size w) (Nat.le_refl _) (.cells #[.bool b1, s1] 25)
  have a2 := Below.alloc a1 a1.size (.cells #[.bool b2, s2] 25)
  have a3 := Below.alloc a2 a2.size (.cells #[.bool false, .slice none 0 0] 25)
  have a4 := Below.alloc a3 a3.size (.cells #[.bool false, .slice none 0 0] 25)
  have a5 := Below.alloc a4 a4.size (.cells #[.bool b1, s1, .bool b2, s2] 25)
  have h1' := h1
  have h2' := h2
  obtain ⟨pa, ca, rfl, hca', hqa⟩ := h1
  obtain ⟨pb, cb, rfl, hcb', hqb⟩ := h2
  clear hca' hqa hcb' hqb
  generalize hsl1 : (Value.slice pa l.length ca) = sl1 at *
  generalize hsl2 : (Value.slice pb m.length cb) = sl2 at *
  have e0 : (((((w.alloc (.cells #[.bool b1, sl1] 25)).alloc (.cells #[.bool b2, sl2] 25)).alloc (.cells #[.bool false, .slice none 0 0] 25)).alloc (.cells #[.bool false, .slice none 0 0] 25)).alloc (.cells #[.bool b1, sl1, .bool b2, sl2] 25)).cell? ⟨w.heap.size + 1 + 1 + 1 + 1, 0, none⟩ = some (.bool b1) := by simp [go_sem]
  have e1 : (((((w.alloc (.cells #[.bool b1, sl1] 25)).alloc (.cells #[.bool b2, sl2] 25)).alloc (.cells #[.bool false, .slice none 0 0] 25)).alloc (.cells #[.bool false, .slice none 0 0] 25)).alloc (.cells #[.bool b1, sl1, .bool b2, sl2] 25)).cell? ⟨w.heap.size + 1 + 1 + 1 + 1, 1, none⟩ = some (sl1) := by simp [go_sem]
  have e2 : (((((w.alloc (.cells #[.bool b1, sl1] 25)).alloc (.cells #[.bool b2, sl2] 25)).alloc (.cells #[.bool false, .slice none 0 0] 25)).alloc (.cells #[.bool false, .slice none 0 0] 25)).alloc (.cells #[.bool b1, sl1, .bool b2, sl2] 25)).cell? ⟨w.heap.size + 1 + 1 + 1 + 1, 2, none⟩ = some (.bool b2) := by simp [go_sem]
  have e3 : (((((w.alloc (.cells #[.bool b1, sl1] 25)).alloc (.cells #[.bool b2, sl2] 25)).alloc (.cells #[.bool false, .slice none 0 0] 25)).alloc (.cells #[.bool false, .slice none 0 0] 25)).alloc (.cells #[.bool b1, sl1, .bool b2, sl2] 25)).cell? ⟨w.heap.size + 1 + 1 + 1 + 1, 3, none⟩ = some (sl2) := by simp [go_sem]
  have hck := checkAll2_any b1 b2 _ _ _ _ (w.heap.size + 1 + 1 + 1 + 1) _ (h1'.keep a5) (h2'.keep a5) ll lm e0 e1 e2 e3
  rw [hv] at hck
  have k0 : ∀ w1, Below (((((w.alloc (.cells #[.bool b1, sl1] 25)).alloc (.cells #[.bool b2, sl2] 25)).alloc (.cells #[.bool false, .slice none 0 0] 25)).alloc (.cells #[.bool false, .slice none 0 0] 25)).alloc (.cells #[.bool b1, sl1, .bool b2, sl2] 25)).heap.size (((((w.alloc (.cells #[.bool b1, sl1] 25)).alloc (.cells #[.bool b2, sl2] 25)).alloc (.cells #[.bool false, .slice none 0 0] 25)).alloc (.cells #[.bool false, .slice none 0 0] 25)).alloc (.cells #[.bool b1, sl1, .bool b2, sl2] 25)) w1 → w1.cell? ⟨w.heap.size, 0, none⟩ = some (.bool b1) ∧ w1.cell? ⟨w.heap.size, 1, none⟩ = some (sl1) ∧ w.heap.size < w1.heap.size ∧ w1.cell? ⟨w.heap.size + 1, 0, none⟩ = some (.bool b2) ∧ w1.cell? ⟨w.heap.size + 1, 1, none⟩ = some (sl2) ∧ w.heap.size + 1 < w1.heap.size ∧ w1.cell? ⟨w.heap.size + 1 + 1, 0, none⟩ = some (.bool false) ∧ w1.frozen? ⟨w.heap.size + 1 + 1, 0, none⟩ = false ∧ w1.cell? ⟨w.heap.size + 1 + 1, 1, none⟩ = some (.slice none 0 0) ∧ w1.frozen? ⟨w.heap.size + 1 + 1, 1, none⟩ = false ∧ w.heap.size + 1 + 1 < w1.heap.size ∧ w1.cell? ⟨w.heap.size + 1 + 1 + 1, 0, none⟩ = some (.bool false) ∧ w1.frozen? ⟨w.heap.size + 1 + 1 + 1, 0, none⟩ = false ∧ w1.cell? ⟨w.heap.size + 1 + 1 + 1, 1, none⟩ = some (.slice none 0 0) ∧ w1.frozen? ⟨w.heap.size + 1 + 1 + 1, 1, none⟩ = false ∧ w.heap.size + 1 + 1 + 1 < w1.heap.size := fun w1 hb => ⟨lkeep hb (by simp [go_sem]), lkeep hb (by simp [go_sem]), by have := hb.size; simp at this; omega, lkeep hb (by simp [go_sem]), lkeep hb (by simp [go_sem]), by have := hb.size; simp at this; omega, lkeep hb (by simp [go_sem]), (hb.frozen (by simp [go_sem] <;> omega)).trans (by simp [go_sem]), lkeep hb (by simp [go_sem]), (hb.frozen (by simp [go_sem] <;> omega)).trans (by simp [go_sem]), by have := hb.size; simp at this; omega, lkeep hb (by simp [go_sem]), (hb.frozen (by simp [go_sem] <;> omega)).trans (by simp [go_sem]), lkeep hb (by simp [go_sem]), (hb.frozen (by simp [go_sem] <;> omega)).trans (by simp [go_sem]), by have := hb.size; simp at this; omega⟩
  clear e0 e1 e2 e3
  subst hsl1 hsl2
  go_enter Tryd.func19, Tryd.ntmps19
  go_wp2_with fail
  go_at_call 38
  refine hck.mono ?_
  rintro e w1 ⟨rfl, hb1⟩
  obtain ⟨c00, c01, y0, c10, c11, y1, c20, z20, c21, z21, y2, c30, z30, c31, z31, y3⟩ := k0 w1 hb1
  have B1 := a5.trans (hb1.mono a5.size)
  clear hck k0 hb1 a1 a2 a3 a4 a5
  rw [hm2.out] at c11
  clear hm2
  go_wp2
  refine bodyPost_ret (v := .tuple #[.agg #[.bool false, .slice none 0 0], .agg #[.bool false, .slice none 0 0], .int .i64 7]) (by simp [results, Tryd.results19, go_sem, c00, c01, y0, c10, c11, y1, c20, z20, c21, z21, y2, c30, z30, c31, z31, y3]) rfl ⟨rfl, by (repeat (first | with_reducible exact Below.refl _ _ | with_reducible assumption | refine Below.alloc ?_ (by (try simp); try omega) _ | refine Below.setCell ?_ (by (try simp); try omega) _ | refine below_drewN ?_ _ | refine Below.drew ?_ | (with_reducible refine Below.trans ?_ (Below.mono (by assumption) (by (try simp); try omega)))))⟩
theorem div_zero (A B : Value) (x : Int) (w : World) (hA : Lg w A x) (hB : Lg w B 0) (l1 : Dl x ≤ 600) :
    Calls Tryd.prog 19 #[A, B] w fun e w' => e = .returned (.tuple #[noL, noL, .int .i64 7]) ∧ Below w.heap.size w w' := by
  obtain ⟨s1, rfl, h1⟩ := hA
  obtain ⟨s2, rfl, h2⟩ := hB
  refine div_zero_raw _ _ s1 s2 _ _ w h1 h2 (by unfold Dl at l1; omega) (by rw [show (((0 : Int).natAbs : Nat) : Int) = 0 from rfl, dg_zero]; decide) ?_ (by rw [show (((0 : Int).natAbs : Nat) : Int) = 0 from rfl, dg_zero]; rfl)
  rw [ckL_num l1, ckL_num (z := 0) (by rw [show (((0 : Int).natAbs : Nat) : Int) = 0 from rfl, dg_zero]; decide)]; rfl
theorem pt_n999999999 : PText [57, 57, 57, 57, 57, 57, 57, 57, 57] 999999999 := .inr (.inr ⟨by decide, by decide, by decide⟩)
theorem pt_n1 : PText [49] 1 := .inr (.inr ⟨by decide, by decide, by decide⟩)
theorem pt_m12 : PText [45, 49, 50] (-12) := .inr (.inl ⟨[49, 50], rfl, by decide, by decide, by decide⟩)
theorem pt_n12 : PText [49, 50] 12 := .inr (.inr ⟨by decide, by decide, by decide⟩)
theorem pt_m18 : PText [45, 49, 56] (-18) := .inr (.inl ⟨[49, 56], rfl, by decide, by decide, by decide⟩)
theorem pt_n0 : PText [48] 0 := .inl ⟨rfl, rfl⟩
theorem pt_n5 : PText [53] 5 := .inr (.inr ⟨by decide, by decide, by decide⟩)
theorem pt_n99999999999999999999 : PText [57, 57, 57, 57, 57, 57, 57, 57, 57, 57, 57, 57, 57, 57, 57, 57, 57, 57, 57, 57] 99999999999999999999 := .inr (.inr ⟨by decide, by decide, by decide⟩)
theorem pt_m1 : PText [45, 49] (-1) := .inr (.inl ⟨[49], rfl, by decide, by decide, by decide⟩)
theorem pt_n9223372036854775808 : PText [57, 50, 50, 51, 51, 55, 50, 48, 51, 54, 56, 53, 52, 55, 55, 53, 56, 48, 56] 9223372036854775808 := .inr (.inr ⟨by decide, by decide, by decide⟩)
theorem pt_n7 : PText [55] 7 := .inr (.inr ⟨by decide, by decide, by decide⟩)
theorem pt_n2 : PText [50] 2 := .inr (.inr ⟨by decide, by decide, by decide⟩)
theorem pt_n3 : PText [51] 3 := .inr (.inr ⟨by decide, by decide, by decide⟩)
theorem pt_m7 : PText [45, 55] (-7) := .inr (.inl ⟨[55], rfl, by decide, by decide, by decide⟩)
theorem pt_m2 : PText [45, 50] (-2) := .inr (.inl ⟨[50], rfl, by decide, by decide, by decide⟩)
theorem pt_m3 : PText [45, 51] (-3) := .inr (.inl ⟨[51], rfl, by decide, by decide, by decide⟩)
theorem pt_n1000000000 : PText [49, 48, 48, 48, 48, 48, 48, 48, 48, 48] 1000000000 := .inr (.inr ⟨by decide, by decide, by decide⟩)
theorem pt_m144 : PText [45, 49, 52, 52] (-144) := .inr (.inl ⟨[49, 52, 52], rfl, by decide, by decide, by decide⟩)
theorem pt_n6 : PText [54] 6 := .inr (.inr ⟨by decide, by decide, by decide⟩)
theorem pt_n9999999999 : PText [57, 57, 57, 57, 57, 57, 57, 57, 57, 57] 9999999999 := .inr (.inr ⟨by decide, by decide, by decide⟩)

theorem num_n6_g : gI (((12 : Int).natAbs : Nat) : Int) ((((-18) : Int).natAbs : Nat) : Int) = 6 := by decide
theorem num_n5_g : gI (((0 : Int).natAbs : Nat) : Int) (((5 : Int).natAbs : Nat) : Int) = 5 := by decide
theorem num_n0_g : gI (((0 : Int).natAbs : Nat) : Int) (((0 : Int).natAbs : Nat) : Int) = 0 := by decide
theorem num_n9999999999_r : rt 99999999999999999999 = 9999999999 := rt_uniq (by omega) (by omega) (by omega)
set_option maxRecDepth 100000 in
set_option maxHeartbeats 8000000 in
theorem works_true (w : World) (hP : Pw w) :
    Calls Tryd.prog 4 #[] w fun e w' => e = .returned (.bool true) ∧ Below w.heap.size w w' := by
  have hB := Below.refl w.heap.size w
  have hi0 : ∀ w, (Instr.index 49 (.agg #[.string ⟨⟨[45, 48]⟩⟩, .string ⟨⟨[48, 48, 55]⟩⟩, .string ⟨⟨[43, 49]⟩⟩, .string ⟨⟨[]⟩⟩]) (.int .i64 0)).run Tryd.prog w = .ok (.string ⟨⟨[45, 48]⟩⟩) w := fun _ => by kernel_rfl
  have hi1 : ∀ w, (Instr.index 49 (.agg #[.string ⟨⟨[45, 48]⟩⟩, .string ⟨⟨[48, 48, 55]⟩⟩, .string ⟨⟨[43, 49]⟩⟩, .string ⟨⟨[]⟩⟩]) (.int .i64 1)).run Tryd.prog w = .ok (.string ⟨⟨[48, 48, 55]⟩⟩) w := fun _ => by kernel_rfl
  have hi2 : ∀ w, (Instr.index 49 (.agg #[.string ⟨⟨[45, 48]⟩⟩, .string ⟨⟨[48, 48, 55]⟩⟩, .string ⟨⟨[43, 49]⟩⟩, .string ⟨⟨[]⟩⟩]) (.int .i64 2)).run Tryd.prog w = .ok (.string ⟨⟨[43, 49]⟩⟩) w := fun _ => by kernel_rfl
  have hi3 : ∀ w, (Instr.index 49 (.agg #[.string ⟨⟨[45, 48]⟩⟩, .string ⟨⟨[48, 48, 55]⟩⟩, .string ⟨⟨[43, 49]⟩⟩, .string ⟨⟨[]⟩⟩]) (.int .i64 3)).run Tryd.prog w = .ok (.string ⟨⟨[]⟩⟩) w := fun _ => by kernel_rfl
  have hfd : ∀ (p : Bool) (a : Option Addr) (n c : Nat) w, (Instr.field 25 (.agg #[.bool p, .slice a n c]) 1).run Tryd.prog w = .ok (.slice a n c) w := fun _ _ _ _ _ => by kernel_rfl
  go_enter Tryd.func4, Tryd.ntmps4
  go_wp2_with fail
  go_at_call 24
  refine (ofInt_ok (-1000000005) _ (by omega) (by omega)).mono ?_
  rintro e u1 ⟨⟨p0, a0, n0, k0, rfl, LA⟩, hb⟩
  have hk := hb
  clear hb
  replace hP := hP.keep hk
  replace hB := hB.trans (hk.mono hB.size)
  clear hk
  obtain ⟨rfl, LS⟩ := LA.parts
  rw [dg_e9] at LS
  rw [show decide ((-1000000005 : Int) < 0) = true from rfl]
  clear LA
  go_wp2_with fail
  go_at_call 25
  refine (equal_any _ _ [5, 1] [5, 1] _ (LS.keep (by (repeat (first | with_reducible exact Below.refl _ _ | with_reducible assumption | refine Below.alloc ?_ (by (try simp); try omega) _ | refine Below.setCell ?_ (by (try simp); try omega) _ | refine below_drewN ?_ _ | refine Below.drew ?_ | (with_reducible refine Below.trans ?_ (Below.mono (by assumption) (by (try simp); try omega))))))) (Ls.two _ 5 1 _ (by simp)) (by decide) (by decide)).mono ?_
  rintro e u2 ⟨rfl, hb⟩
  have hk : Below u1.heap.size u1 u2 := by (repeat (first | with_reducible exact Below.refl _ _ | with_reducible assumption | refine Below.alloc ?_ (by (try simp); try omega) _ | refine Below.setCell ?_ (by (try simp); try omega) _ | refine below_drewN ?_ _ | refine Below.drew ?_ | (with_reducible refine Below.trans ?_ (Below.mono (by assumption) (by (try simp); try omega)))))
  clear hb
  clear LS
  replace hP := hP.keep hk
  replace hB := hB.trans (hk.mono hB.size)
  clear hk
  rw [show decide (([5, 1] : List Int) = [5, 1]) = true from rfl]
  go_wp2_with fail
  go_at_call 24
  refine (ofInt_ok 0 _ (by omega) (by omega)).mono ?_
  rintro e u3 ⟨⟨p0, a0, n1, k0, rfl, LA⟩, hb⟩
  have hk := hb
  clear hb
  replace hP := hP.keep hk
  replace hB := hB.trans (hk.mono hB.size)
  clear hk
  have e0 : n1 = 0 := by have := LA.parts.2.slen; rw [show (((0 : Int).natAbs : Nat) : Int) = 0 from rfl, dg_zero] at this; exact this
  subst e0
  clear LA
  go_wp2_with fail
  go_at_call 11
  refine (is_any ⟨⟨[49, 48, 48, 48, 48, 48, 48, 48, 48, 48]⟩⟩ _).mono ?_
  rintro e u4 ⟨bq, rfl, hq, hb⟩
  have hk := hb
  clear hb
  replace hP := hP.keep hk
  replace hB := hB.trans (hk.mono hB.size)
  clear hk
  go_wp2_with fail
  go_at_call 6
  refine (of_num [57, 57, 57, 57, 57, 57, 57, 57, 57] 999999999 _ pt_n999999999).mono ?_
  rintro e u5 ⟨⟨pA, aA, nA, kA, rfl, LA⟩, hb⟩
  have hk := hb
  clear hb
  replace hP := hP.keep hk
  replace hB := hB.trans (hk.mono hB.size)
  replace hq := lkeep hk hq
  clear hk
  go_wp2_with fail
  go_at_call 6
  refine (of_num [49] 1 _ pt_n1).mono ?_
  rintro e u6 ⟨⟨pB, aB, nB, kB, rfl, LB⟩, hb⟩
  have hk := hb
  clear hb
  replace hP := hP.keep hk
  replace hB := hB.trans (hk.mono hB.size)
  replace hq := lkeep hk hq
  replace LA := LA.keep hk
  clear hk
  go_wp2_with fail
  go_at_call 12
  refine (add_ok _ _ 999999999 1 _ LA LB pt_n999999999.len pt_n1.len (Nat.le_trans (Dl_two (by omega) (by omega)) (by omega))).mono ?_
  rintro e u7 ⟨⟨pR, aR, nR, kR, rfl, LR⟩, hb⟩
  have hk := hb
  clear hb
  clear LA LB
  replace hP := hP.keep hk
  replace hB := hB.trans (hk.mono hB.size)
  replace hq := lkeep hk hq
  clear hk
  go_wp2_with fail
  go_at_call 37
  refine (is1_true _ (999999999 + 1) bq _ _ LR (by rw [show (999999999 + 1 : Int) = 1000000000 from by first | rfl | decide]; exact pt_n1000000000.len) hP hq (by rw [show (999999999 + 1 : Int) = 1000000000 from by first | rfl | decide]; exact sx_of pt_n1000000000)).mono ?_
  rintro e u8 ⟨rfl, hb⟩
  have hk := hb
  clear hb
  clear LR hq
  replace hP := hP.keep hk
  replace hB := hB.trans (hk.mono hB.size)
  clear hk
  go_wp2_with fail
  go_at_call 11
  refine (is_any ⟨⟨[45, 49, 52, 52]⟩⟩ _).mono ?_
  rintro e u9 ⟨bq, rfl, hq, hb⟩
  have hk := hb
  clear hb
  replace hP := hP.keep hk
  replace hB := hB.trans (hk.mono hB.size)
  clear hk
  go_wp2_with fail
  go_at_call 6
  refine (of_num [45, 49, 50] (-12) _ pt_m12).mono ?_
  rintro e u10 ⟨⟨pA, aA, nA, kA, rfl, LA⟩, hb⟩
  have hk := hb
  clear hb
  replace hP := hP.keep hk
  replace hB := hB.trans (hk.mono hB.size)
  replace hq := lkeep hk hq
  clear hk
  go_wp2_with fail
  go_at_call 6
  refine (of_num [49, 50] 12 _ pt_n12).mono ?_
  rintro e u11 ⟨⟨pB, aB, nB, kB, rfl, LB⟩, hb⟩
  have hk := hb
  clear hb
  replace hP := hP.keep hk
  replace hB := hB.trans (hk.mono hB.size)
  replace hq := lkeep hk hq
  replace LA := LA.keep hk
  clear hk
  go_wp2_with fail
  go_at_call 14
  refine (mul_ok _ _ (-12) 12 _ LA LB pt_m12.len pt_n12.len (Nat.le_trans (Dl_two (by omega) (by omega)) (by omega))).mono ?_
  rintro e u12 ⟨⟨pR, aR, nR, kR, rfl, LR⟩, hb⟩
  have hk := hb
  clear hb
  clear LA LB
  replace hP := hP.keep hk
  replace hB := hB.trans (hk.mono hB.size)
  replace hq := lkeep hk hq
  clear hk
  go_wp2_with fail
  go_at_call 37
  refine (is1_true _ (-12 * 12) bq _ _ LR (by rw [show (-12 * 12 : Int) = (-144) from by first | rfl | decide]; exact pt_m144.len) hP hq (by rw [show (-12 * 12 : Int) = (-144) from by first | rfl | decide]; exact sx_of pt_m144)).mono ?_
  rintro e u13 ⟨rfl, hb⟩
  have hk := hb
  clear hb
  clear LR hq
  replace hP := hP.keep hk
  replace hB := hB.trans (hk.mono hB.size)
  clear hk
  go_wp2_with fail
  go_at_call 18
  refine (divides_true [55] [50] [51] [49] 7 2 _ pt_n7 pt_n2 (by decide) pt_n3 pt_n1 hP).mono ?_
  rintro e u14 ⟨rfl, hb⟩
  have hk := hb
  clear hb
  replace hP := hP.keep hk
  replace hB := hB.trans (hk.mono hB.size)
  clear hk
  go_wp2_with fail
  go_at_call 18
  refine (divides_true [45, 55] [50] [45, 51] [45, 49] (-7) 2 _ pt_m7 pt_n2 (by decide) pt_m3 pt_m1 hP).mono ?_
  rintro e u15 ⟨rfl, hb⟩
  have hk := hb
  clear hb
  replace hP := hP.keep hk
  replace hB := hB.trans (hk.mono hB.size)
  clear hk
  go_wp2_with fail
  go_at_call 18
  refine (divides_true [55] [45, 50] [45, 51] [49] 7 (-2) _ pt_n7 pt_m2 (by decide) pt_m3 pt_n1 hP).mono ?_
  rintro e u16 ⟨rfl, hb⟩
  have hk := hb
  clear hb
  replace hP := hP.keep hk
  replace hB := hB.trans (hk.mono hB.size)
  clear hk
  go_wp2_with fail
  go_at_call 18
  refine (divides_true [45, 55] [45, 50] [51] [45, 49] (-7) (-2) _ pt_m7 pt_m2 (by decide) pt_n3 pt_m1 hP).mono ?_
  rintro e u17 ⟨rfl, hb⟩
  have hk := hb
  clear hb
  replace hP := hP.keep hk
  replace hB := hB.trans (hk.mono hB.size)
  clear hk
  go_wp2_with fail
  go_at_call 11
  refine (is_any ⟨⟨[54]⟩⟩ _).mono ?_
  rintro e u18 ⟨bq, rfl, hq, hb⟩
  have hk := hb
  clear hb
  replace hP := hP.keep hk
  replace hB := hB.trans (hk.mono hB.size)
  clear hk
  go_wp2_with fail
  go_at_call 6
  refine (of_num [49, 50] 12 _ pt_n12).mono ?_
  rintro e u19 ⟨⟨pA, aA, nA, kA, rfl, LA⟩, hb⟩
  have hk := hb
  clear hb
  replace hP := hP.keep hk
  replace hB := hB.trans (hk.mono hB.size)
  replace hq := lkeep hk hq
  clear hk
  go_wp2_with fail
  go_at_call 6
  refine (of_num [45, 49, 56] (-18) _ pt_m18).mono ?_
  rintro e u20 ⟨⟨pB, aB, nB, kB, rfl, LB⟩, hb⟩
  have hk := hb
  clear hb
  replace hP := hP.keep hk
  replace hB := hB.trans (hk.mono hB.size)
  replace hq := lkeep hk hq
  replace LA := LA.keep hk
  clear hk
  go_wp2_with fail
  go_at_call 17
  refine (gcdS_ok _ _ 12 (-18) _ LA LB pt_n12.len pt_m18.len (.inl (Dl_two (by omega) (by omega)))).mono ?_
  rintro e u21 ⟨⟨pR, aR, nR, kR, rfl, LR⟩, hb⟩
  have hk := hb
  clear hb
  clear LA LB
  replace hP := hP.keep hk
  replace hB := hB.trans (hk.mono hB.size)
  replace hq := lkeep hk hq
  clear hk
  go_wp2_with fail
  go_at_call 37
  refine (is1_true _ (gI (((12 : Int).natAbs : Nat) : Int) ((((-18) : Int).natAbs : Nat) : Int)) bq _ _ LR (by rw [show (gI (((12 : Int).natAbs : Nat) : Int) ((((-18) : Int).natAbs : Nat) : Int) : Int) = 6 from num_n6_g]; exact pt_n6.len) hP hq (by rw [show (gI (((12 : Int).natAbs : Nat) : Int) ((((-18) : Int).natAbs : Nat) : Int) : Int) = 6 from num_n6_g]; exact sx_of pt_n6)).mono ?_
  rintro e u22 ⟨rfl, hb⟩
  have hk := hb
  clear hb
  clear LR hq
  replace hP := hP.keep hk
  replace hB := hB.trans (hk.mono hB.size)
  clear hk
  go_wp2_with fail
  go_at_call 11
  refine (is_any ⟨⟨[53]⟩⟩ _).mono ?_
  rintro e u23 ⟨bq, rfl, hq, hb⟩
  have hk := hb
  clear hb
  replace hP := hP.keep hk
  replace hB := hB.trans (hk.mono hB.size)
  clear hk
  go_wp2_with fail
  go_at_call 6
  refine (of_num [48] 0 _ pt_n0).mono ?_
  rintro e u24 ⟨⟨pA, aA, nA, kA, rfl, LA⟩, hb⟩
  have hk := hb
  clear hb
  replace hP := hP.keep hk
  replace hB := hB.trans (hk.mono hB.size)
  replace hq := lkeep hk hq
  clear hk
  go_wp2_with fail
  go_at_call 6
  refine (of_num [53] 5 _ pt_n5).mono ?_
  rintro e u25 ⟨⟨pB, aB, nB, kB, rfl, LB⟩, hb⟩
  have hk := hb
  clear hb
  replace hP := hP.keep hk
  replace hB := hB.trans (hk.mono hB.size)
  replace hq := lkeep hk hq
  replace LA := LA.keep hk
  clear hk
  go_wp2_with fail
  go_at_call 17
  refine (gcdS_ok _ _ 0 5 _ LA LB pt_n0.len pt_n5.len (.inl (Dl_two (by omega) (by omega)))).mono ?_
  rintro e u26 ⟨⟨pR, aR, nR, kR, rfl, LR⟩, hb⟩
  have hk := hb
  clear hb
  clear LA LB
  replace hP := hP.keep hk
  replace hB := hB.trans (hk.mono hB.size)
  replace hq := lkeep hk hq
  clear hk
  go_wp2_with fail
  go_at_call 37
  refine (is1_true _ (gI (((0 : Int).natAbs : Nat) : Int) (((5 : Int).natAbs : Nat) : Int)) bq _ _ LR (by rw [show (gI (((0 : Int).natAbs : Nat) : Int) (((5 : Int).natAbs : Nat) : Int) : Int) = 5 from num_n5_g]; exact pt_n5.len) hP hq (by rw [show (gI (((0 : Int).natAbs : Nat) : Int) (((5 : Int).natAbs : Nat) : Int) : Int) = 5 from num_n5_g]; exact sx_of pt_n5)).mono ?_
  rintro e u27 ⟨rfl, hb⟩
  have hk := hb
  clear hb
  clear LR hq
  replace hP := hP.keep hk
  replace hB := hB.trans (hk.mono hB.size)
  clear hk
  go_wp2_with fail
  go_at_call 11
  refine (is_any ⟨⟨[48]⟩⟩ _).mono ?_
  rintro e u28 ⟨bq, rfl, hq, hb⟩
  have hk := hb
  clear hb
  replace hP := hP.keep hk
  replace hB := hB.trans (hk.mono hB.size)
  clear hk
  go_wp2_with fail
  go_at_call 6
  refine (of_num [48] 0 _ pt_n0).mono ?_
  rintro e u29 ⟨⟨pA, aA, nA, kA, rfl, LA⟩, hb⟩
  have hk := hb
  clear hb
  replace hP := hP.keep hk
  replace hB := hB.trans (hk.mono hB.size)
  replace hq := lkeep hk hq
  clear hk
  go_wp2_with fail
  go_at_call 6
  refine (of_num [48] 0 _ pt_n0).mono ?_
  rintro e u30 ⟨⟨pB, aB, nB, kB, rfl, LB⟩, hb⟩
  have hk := hb
  clear hb
  replace hP := hP.keep hk
  replace hB := hB.trans (hk.mono hB.size)
  replace hq := lkeep hk hq
  replace LA := LA.keep hk
  clear hk
  go_wp2_with fail
  go_at_call 17
  refine (gcdS_ok _ _ 0 0 _ LA LB pt_n0.len pt_n0.len (.inl (Dl_two (by omega) (by omega)))).mono ?_
  rintro e u31 ⟨⟨pR, aR, nR, kR, rfl, LR⟩, hb⟩
  have hk := hb
  clear hb
  clear LA LB
  replace hP := hP.keep hk
  replace hB := hB.trans (hk.mono hB.size)
  replace hq := lkeep hk hq
  clear hk
  go_wp2_with fail
  go_at_call 37
  refine (is1_true _ (gI (((0 : Int).natAbs : Nat) : Int) (((0 : Int).natAbs : Nat) : Int)) bq _ _ LR (by rw [show (gI (((0 : Int).natAbs : Nat) : Int) (((0 : Int).natAbs : Nat) : Int) : Int) = 0 from num_n0_g]; exact pt_n0.len) hP hq (by rw [show (gI (((0 : Int).natAbs : Nat) : Int) (((0 : Int).natAbs : Nat) : Int) : Int) = 0 from num_n0_g]; exact sx_of pt_n0)).mono ?_
  rintro e u32 ⟨rfl, hb⟩
  have hk := hb
  clear hb
  clear LR hq
  replace hP := hP.keep hk
  replace hB := hB.trans (hk.mono hB.size)
  clear hk
  go_wp2_with fail
  go_at_call 11
  refine (is_any ⟨⟨[57, 57, 57, 57, 57, 57, 57, 57, 57, 57]⟩⟩ _).mono ?_
  rintro e u33 ⟨bq, rfl, hq, hb⟩
  have hk := hb
  clear hb
  replace hP := hP.keep hk
  replace hB := hB.trans (hk.mono hB.size)
  clear hk
  go_wp2_with fail
  go_at_call 6
  refine (of_num [57, 57, 57, 57, 57, 57, 57, 57, 57, 57, 57, 57, 57, 57, 57, 57, 57, 57, 57, 57] 99999999999999999999 _ pt_n99999999999999999999).mono ?_
  rintro e u34 ⟨⟨pA, aA, nA, kA, rfl, LA⟩, hb⟩
  have hk := hb
  clear hb
  replace hP := hP.keep hk
  replace hB := hB.trans (hk.mono hB.size)
  replace hq := lkeep hk hq
  clear hk
  go_wp2_with fail
  go_at_call 16
  refine (sqrt_ok _ 99999999999999999999 _ LA (by omega) pt_n99999999999999999999.len).mono ?_
  rintro e u35 ⟨⟨pR, aR, nR, kR, rfl, LR⟩, hb⟩
  have hk := hb
  clear hb
  clear LA
  replace hP := hP.keep hk
  replace hB := hB.trans (hk.mono hB.size)
  replace hq := lkeep hk hq
  clear hk
  go_wp2_with fail
  go_at_call 37
  refine (is1_true _ (rt 99999999999999999999) bq _ _ LR (by rw [show (rt 99999999999999999999 : Int) = 9999999999 from num_n9999999999_r]; exact pt_n9999999999.len) hP hq (by rw [show (rt 99999999999999999999 : Int) = 9999999999 from num_n9999999999_r]; exact sx_of pt_n9999999999)).mono ?_
  rintro e u36 ⟨rfl, hb⟩
  have hk := hb
  clear hb
  clear LR hq
  replace hP := hP.keep hk
  replace hB := hB.trans (hk.mono hB.size)
  clear hk
  go_wp2_with fail
  go_at_call 9
  refine (fails_any 2 _).mono ?_
  rintro e u37 ⟨bq, rfl, hq, hb⟩
  have hk := hb
  clear hb
  replace hP := hP.keep hk
  replace hB := hB.trans (hk.mono hB.size)
  clear hk
  go_wp2_with fail
  go_at_call 6
  refine (of_num [45, 49] (-1) _ pt_m1).mono ?_
  rintro e u38 ⟨⟨pA, aA, nA, kA, rfl, LA⟩, hb⟩
  have hk := hb
  clear hb
  replace hP := hP.keep hk
  replace hB := hB.trans (hk.mono hB.size)
  replace hq := lkeep hk hq
  clear hk
  go_wp2_with fail
  go_at_call 16
  refine (sqrt_neg _ (-1) _ LA (by omega) pt_m1.len).mono ?_
  rintro e u39 ⟨rfl, hb⟩
  have hk := hb
  clear hb
  clear LA
  replace hP := hP.keep hk
  replace hB := hB.trans (hk.mono hB.size)
  replace hq := lkeep hk hq
  clear hk
  go_wp2_with fail
  go_at_call 33
  refine (fails1_true 2 bq _ hq).mono ?_
  rintro e u40 ⟨rfl, hb⟩
  have hk := hb
  clear hb
  clear hq
  replace hP := hP.keep hk
  replace hB := hB.trans (hk.mono hB.size)
  clear hk
  go_wp2_with fail
  go_at_call 6
  refine (of_num [49] 1 _ pt_n1).mono ?_
  rintro e u41 ⟨⟨pA, aA, nA, kA, rfl, LA⟩, hb⟩
  have hk := hb
  clear hb
  replace hP := hP.keep hk
  replace hB := hB.trans (hk.mono hB.size)
  clear hk
  go_wp2_with fail
  go_at_call 6
  refine (of_num [48] 0 _ pt_n0).mono ?_
  rintro e u42 ⟨⟨pB, aB, nB, kB, rfl, LB⟩, hb⟩
  have hk := hb
  clear hb
  replace hP := hP.keep hk
  replace hB := hB.trans (hk.mono hB.size)
  replace LA := LA.keep hk
  clear hk
  go_wp2_with fail
  go_at_call 19
  refine (div_zero _ _ 1 _ LA LB pt_n1.len).mono ?_
  rintro e u43 ⟨rfl, hb⟩
  have hk := hb
  clear hb
  clear LA LB
  replace hP := hP.keep hk
  replace hB := hB.trans (hk.mono hB.size)
  clear hk
  go_wp2_with fail
  refine wp_loop_rounds 5 ?_
  rw [rounds_succ]
  go_wp2_with fail
  go_at_call 9
  refine (fails_any 5 _).mono ?_
  rintro e u44 ⟨bq, rfl, hq, hb⟩
  have hk : Below u43.heap.size u43 u44 := by (repeat (first | with_reducible exact Below.refl _ _ | with_reducible assumption | refine Below.alloc ?_ (by (try simp); try omega) _ | refine Below.setCell ?_ (by (try simp); try omega) _ | refine below_drewN ?_ _ | refine Below.drew ?_ | (with_reducible refine Below.trans ?_ (Below.mono (by assumption) (by (try simp); try omega)))))
  clear hb
  replace hP := hP.keep hk
  replace hB := hB.trans (hk.mono hB.size)
  clear hk
  go_wp2_with fail
  go_at_call 10
  refine (parseN_no [48] _ (by decide) rfl).mono ?_
  rintro e u45 ⟨rfl, hb⟩
  have hk := hb
  clear hb
  replace hP := hP.keep hk
  replace hB := hB.trans (hk.mono hB.size)
  replace hq := lkeep hk hq
  clear hk
  go_wp2_with fail
  go_at_call 33
  refine (fails1_true 5 bq _ hq).mono ?_
  rintro e u46 ⟨rfl, hb⟩
  have hk := hb
  clear hb
  clear hq
  replace hP := hP.keep hk
  replace hB := hB.trans (hk.mono hB.size)
  clear hk
  go_wp2_with fail
  rw [rounds_succ]
  go_wp2_with fail
  go_at_call 9
  refine (fails_any 5 _).mono ?_
  rintro e u47 ⟨bq, rfl, hq, hb⟩
  have hk := hb
  clear hb
  replace hP := hP.keep hk
  replace hB := hB.trans (hk.mono hB.size)
  clear hk
  go_wp2_with fail
  go_at_call 10
  refine (parseP_no 48 [48, 55] _ (by decide) (by decide) (by decide) rfl).mono ?_
  rintro e u48 ⟨rfl, hb⟩
  have hk := hb
  clear hb
  replace hP := hP.keep hk
  replace hB := hB.trans (hk.mono hB.size)
  replace hq := lkeep hk hq
  clear hk
  go_wp2_with fail
  go_at_call 33
  refine (fails1_true 5 bq _ hq).mono ?_
  rintro e u49 ⟨rfl, hb⟩
  have hk := hb
  clear hb
  clear hq
  replace hP := hP.keep hk
  replace hB := hB.trans (hk.mono hB.size)
  clear hk
  go_wp2_with fail
  rw [rounds_succ]
  go_wp2_with fail
  go_at_call 9
  refine (fails_any 5 _).mono ?_
  rintro e u50 ⟨bq, rfl, hq, hb⟩
  have hk := hb
  clear hb
  replace hP := hP.keep hk
  replace hB := hB.trans (hk.mono hB.size)
  clear hk
  go_wp2_with fail
  go_at_call 10
  refine (parseP_no 43 [49] _ (by decide) (by decide) (by decide) rfl).mono ?_
  rintro e u51 ⟨rfl, hb⟩
  have hk := hb
  clear hb
  replace hP := hP.keep hk
  replace hB := hB.trans (hk.mono hB.size)
  replace hq := lkeep hk hq
  clear hk
  go_wp2_with fail
  go_at_call 33
  refine (fails1_true 5 bq _ hq).mono ?_
  rintro e u52 ⟨rfl, hb⟩
  have hk := hb
  clear hb
  clear hq
  replace hP := hP.keep hk
  replace hB := hB.trans (hk.mono hB.size)
  clear hk
  go_wp2_with fail
  rw [rounds_succ]
  go_wp2_with fail
  go_at_call 9
  refine (fails_any 5 _).mono ?_
  rintro e u53 ⟨bq, rfl, hq, hb⟩
  have hk := hb
  clear hb
  replace hP := hP.keep hk
  replace hB := hB.trans (hk.mono hB.size)
  clear hk
  go_wp2_with fail
  go_at_call 10
  refine (parse_empty _).mono ?_
  rintro e u54 ⟨rfl, hb⟩
  have hk := hb
  clear hb
  replace hP := hP.keep hk
  replace hB := hB.trans (hk.mono hB.size)
  replace hq := lkeep hk hq
  clear hk
  go_wp2_with fail
  go_at_call 33
  refine (fails1_true 5 bq _ hq).mono ?_
  rintro e u55 ⟨rfl, hb⟩
  have hk := hb
  clear hb
  clear hq
  replace hP := hP.keep hk
  replace hB := hB.trans (hk.mono hB.size)
  clear hk
  go_wp2_with fail
  rw [rounds_succ]
  go_wp2_with fail
  go_at_call 6
  refine (of_num [57, 50, 50, 51, 51, 55, 50, 48, 51, 54, 56, 53, 52, 55, 55, 53, 56, 48, 56] 9223372036854775808 _ pt_n9223372036854775808).mono ?_
  rintro e u56 ⟨⟨pA, aA, nA, kA, rfl, LA⟩, hb⟩
  have hk := hb
  clear hb
  replace hP := hP.keep hk
  replace hB := hB.trans (hk.mono hB.size)
  clear hk
  go_wp2_with fail
  go_at_call 20
  refine (int_num _ 9223372036854775808 _ LA pt_n9223372036854775808.len).mono ?_
  rintro e u57 ⟨rfl, hb⟩
  have hk := hb
  clear hb
  clear LA
  replace hP := hP.keep hk
  replace hB := hB.trans (hk.mono hB.size)
  clear hk
  rw [show intR 9223372036854775808 = (0, 6) from rfl]
  go_wp2_with fail
  go_at_call 7
  refine (check_any false _ [5, 0] _ (Ls.two _ 5 0 _ (by simp)) (by decide)).mono ?_
  rintro e u58 ⟨rfl, hb⟩
  have hk : Below u57.heap.size u57 u58 := by (repeat (first | with_reducible exact Below.refl _ _ | with_reducible assumption | refine Below.alloc ?_ (by (try simp); try omega) _ | refine Below.setCell ?_ (by (try simp); try omega) _ | refine below_drewN ?_ _ | refine Below.drew ?_ | (with_reducible refine Below.trans ?_ (Below.mono (by assumption) (by (try simp); try omega)))))
  clear hb
  replace hP := hP.keep hk
  replace hB := hB.trans (hk.mono hB.size)
  clear hk
  rw [ck_five]
  go_wp2_with fail
  go_at_call 7
  refine (check_any true _ [] _ (Ls.nil _) (by decide)).mono ?_
  rintro e u59 ⟨rfl, hb⟩
  have hk := hb
  clear hb
  replace hP := hP.keep hk
  replace hB := hB.trans (hk.mono hB.size)
  clear hk
  rw [ck_neg]
  go_wp2
  go_ret
  exact ⟨rfl, hB⟩
end Go.Proofs.YthhbnhdejbpjiaaDoor
