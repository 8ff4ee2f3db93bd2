/-
  LongCommon: the walk.
-/
import Derived.Test.YtoppdbgodceaiaaDoorLrS
import Derived.Deep.Cut
namespace Go.Proofs.YtoppdbgodceaiaaDoor
open Go.RowKit

/-- Every block but two is as it was. -/
structure Kp (ga gb : Nat) (v w : World) : Prop where
  sz : v.heap.size ≤ w.heap.size
  blk : ∀ h, h < v.heap.size → h ≠ ga → h ≠ gb → w.heap[h]? = v.heap[h]?
theorem Kp.refl (ga gb : Nat) (v : World) : Kp ga gb v v := ⟨Nat.le_refl _, fun _ _ _ _ => rfl⟩
theorem Kp.drewI {ga gb : Nat} {v w : World} (h : Kp ga gb v w) : Kp ga gb v w.drew := ⟨h.sz, h.blk⟩
theorem Kp.keep {ga gb : Nat} {v w w' : World} (h : Kp ga gb v w) (hb : Below w.heap.size w w') : Kp ga gb v w' :=
  ⟨Nat.le_trans h.sz hb.size, fun k h1 h2 h3 => (hb.block k (Nat.lt_of_lt_of_le h1 h.sz)).trans (h.blk k h1 h2 h3)⟩
theorem Kp.set {ga gb g : Nat} {v w : World} (h : Kp ga gb v w) (hg : g = ga ∨ g = gb) (o : Nat) (u : Value) : Kp ga gb v (w.setCell ⟨g, o, none⟩ u) :=
  ⟨by rw [World.size_setCell]; exact h.sz, fun k h1 h2 h3 => (Below.heap_setCell w ⟨g, o, none⟩ u k (by rcases hg with rfl | rfl <;> assumption)).trans (h.blk k h1 h2 h3)⟩
theorem Kp.cell {ga gb : Nat} {v w : World} (h : Kp ga gb v w) {p : Addr} {x : Value} (hc : v.cell? p = some x) (h1 : p.block ≠ ga) (h2 : p.block ≠ gb) : w.cell? p = some x :=
  (World.cell?_of_block (w := v) (h.blk p.block (World.block_lt_of_cell? v p hc) h1 h2)).trans hc
theorem Kp.bx {ga gb g : Nat} {v w : World} {x y : Value} {t : TypeId} (h : Kp ga gb v w) (hb : Bx v g x y t) (h1 : g ≠ ga) (h2 : g ≠ gb) : Bx w g x y t := by
  unfold Bx at *
  rw [h.blk g (Array.getElem?_eq_some_iff.1 hb).1 h1 h2]; exact hb
theorem not_box {w : World} {g o : Nat} {x y : Value} {t : TypeId} (hb : Bx w g x y t) (hx : ∀ n, x ≠ .int .i64 n) (hy : ∀ n, y ≠ .int .i64 n) {n : Int} (h : w.cell? ⟨g, o, none⟩ = some (.int .i64 n)) : False := by
  rw [cell_of_row w g _ _ t (0, 0) hb] at h
  match o with
  | 0 => simp at h; exact hx _ h
  | 1 => simp at h; exact hy _ h
  | k + 2 => simp at h
theorem Kp.ls {ga gb : Nat} {v w : World} {V : Value} {l : List Int} (h : Kp ga gb v w) (hl : Ls v V l) {p p' : Bool} {a a' : Option Addr} {n k n' k' : Nat} {t t' : TypeId} (hA : Bx v ga (.bool p) (.slice a n k) t) (hB : Bx v gb (.bool p') (.slice a' n' k') t') : Ls w V l := by
  obtain ⟨pp, cap, rfl, h1, h2⟩ := hl
  refine ⟨pp, cap, rfl, h1, fun h0 => ?_⟩
  obtain ⟨b, off, rfl, hc⟩ := h2 h0
  refine ⟨b, off, rfl, fun i hi => h.cell (hc i hi) ?_ ?_⟩
  · rintro rfl; exact not_box hA (nb _) (ns _ _ _) (hc i hi)
  · rintro rfl; exact not_box hB (nb _) (ns _ _ _) (hc i hi)
theorem Kp.prs {ga gb B : Nat} {v w : World} {f : Nat → Bool × List Int × Bool × List Int} (h : Kp ga gb v w) (hp : Prs v B f) {p p' : Bool} {a a' : Option Addr} {n k n' k' : Nat} {t t' : TypeId} (hA : Bx v ga (.bool p) (.slice a n k) t) (hB : Bx v gb (.bool p') (.slice a' n' k') t') (h1 : B ≠ ga) (h2 : B ≠ gb) : Prs w B f where
  at0 := fun k hk => by
    obtain ⟨a, n, c, c0, c1, hl⟩ := hp.at0 k hk
    exact ⟨a, n, c, h.cell c0 h1 h2, h.cell c1 h1 h2, h.ls hl hA hB⟩
  at1 := fun k hk => by
    obtain ⟨a, n, c, c0, c1, hl⟩ := hp.at1 k hk
    exact ⟨a, n, c, h.cell c0 h1 h2, h.cell c1 h1 h2, h.ls hl hA hB⟩
  len0 := hp.len0
  len1 := hp.len1
  num := hp.num
/-- A box that is stored into once. -/
def XB (g : Nat) (b0 : Bool) (e0 : Option Addr) (n0 k0 : Nat) (l : Bool) (w : World) (v : Value) : Prop :=
  (l = false → Bx w g (.bool b0) (.slice e0 n0 k0) 24) ∧ (l = true → ∃ b e n k, v = .agg #[.bool b, .slice e n k] ∧ Bx w g (.bool b) (.slice e n k) 24)
theorem XB.keep {g : Nat} {b0 : Bool} {e0 : Option Addr} {n0 k0 : Nat} {l : Bool} {w w' : World} {v : Value} (h : XB g b0 e0 n0 k0 l w v) (hb : Below w.heap.size w w') : XB g b0 e0 n0 k0 l w' v :=
  ⟨fun hl => (h.1 hl).keep hb, fun hl => by obtain ⟨b, e, n, k, h1, h2⟩ := h.2 hl; exact ⟨b, e, n, k, h1, h2.keep hb⟩⟩
theorem XB.val {g : Nat} {b0 : Bool} {e0 : Option Addr} {n0 k0 : Nat} {w : World} {v v' : Value} (h : XB g b0 e0 n0 k0 false w v) : XB g b0 e0 n0 k0 false w v' :=
  ⟨h.1, fun hl => by cases hl⟩
theorem XB.far {g g' : Nat} {b0 : Bool} {e0 : Option Addr} {n0 k0 : Nat} {l : Bool} {w : World} {v : Value} (h : XB g b0 e0 n0 k0 l w v) (hn : g ≠ g') (x y : Value) : XB g b0 e0 n0 k0 l ((w.setCell ⟨g', 0, none⟩ x).setCell ⟨g', 1, none⟩ y) v :=
  ⟨fun hl => (h.1 hl).farP hn _ _, fun hl => by obtain ⟨b, e, n, k, h1, h2⟩ := h.2 hl; exact ⟨b, e, n, k, h1, h2.farP hn _ _⟩⟩
/-- A call's number. -/
def LgX (z : Int) (w : World) (v : Value) : Prop := ∃ p a n c, v = .agg #[.bool p, .slice a n c] ∧ Lg w v z
theorem LgX.keep {z : Int} {w w' : World} {v : Value} (h : LgX z w v) (hb : Below w.heap.size w w') : LgX z w' v := by
  obtain ⟨p, a, n, c, h1, h2⟩ := h
  exact ⟨p, a, n, c, h1, h2.keep hb⟩
theorem LgX.put {z : Int} {w : World} {v : Value} (h : LgX z w v) {g : Nat} {q : Bool} {a : Option Addr} {n k : Nat} {t : TypeId} (b : Bx w g (.bool q) (.slice a n k) t) (p' : Bool) (a' : Option Addr) (n' k' : Nat) : LgX z ((w.setCell ⟨g, 0, none⟩ (.bool p')).setCell ⟨g, 1, none⟩ (.slice a' n' k')) v := by
  obtain ⟨p, a, n, c, h1, h2⟩ := h
  exact ⟨p, a, n, c, h1, h2.put b _ _ _ _⟩

set_option maxRecDepth 100000 in
set_option maxHeartbeats 16000000 in
theorem longCommon_true (b1 : Bool) (s1 : Value) (l1 : List Int) (b2 : Bool) (s2 : Value) (l2 : List Int) (b3 : Bool) (k3 : Int) (s3 : Value) (m3 : List Int) (b4 : Bool) (k4 : Int) (s4 : Value) (m4 : List Int) (b5 : Bool) (k5 : Int) (s5 : Value) (m5 : List Int) (w : World) (hP : Pw w) (L1 : Ls w s1 l1) (L2 : Ls w s2 l2) (N1 : l1.length ≤ 9223372036854775807) (N2 : l2.length ≤ 9223372036854775807) (K30 : 0 ≤ k3) (K31 : k3 ≤ 255) (W3 : Wd w s3 m3) (K40 : 0 ≤ k4) (K41 : k4 ≤ 255) (W4 : Wd w s4 m4) (K50 : 0 ≤ k5) (K51 : k5 ≤ 255) (W5 : Wd w s5 m5) :
    Calls Tryd.prog 6 #[.agg #[.bool b1, s1, .bool b2, s2, .bool b3, .int .u8 k3, s3, .bool b4, .int .u8 k4, s4], .agg #[.bool b5, .int .u8 k5, s5]] w fun e w' => e = .returned (.bool true) ∧ Below w.heap.size w w' := by
  have hxS := drShort_Dl (b := b5) (k := k5) (m := m5) (fun x hx => (W5.choose_spec.choose_spec.2.2.1 x hx).1)
  have L1' := L1
  have L2' := L2
  have W3' := W3
  have W4' := W4
  have W5' := W5
  obtain ⟨q1, r1, rfl, _⟩ := L1'
  obtain ⟨q2, r2, rfl, _⟩ := L2'
  obtain ⟨q3, r3, rfl, _⟩ := W3'
  obtain ⟨q4, r4, rfl, _⟩ := W4'
  obtain ⟨q5, r5, rfl, _⟩ := W5'
  obtain ⟨zd, hzd⟩ : ∃ zd, drShortZ b5 k5 m5 = zd := ⟨_, rfl⟩
  rw [hzd] at hxS
  have hSh := fun w h => drShort_any b5 k5 (.slice q5 m5.length r5) m5 w K50 K51 h
  rw [hzd] at hSh
  replace hSh := Lib.hid hSh
  clear hzd
  have hB : Below w.heap.size w ((w.alloc (.cells #[.bool b1, .slice q1 l1.length r1, .bool b2, .slice q2 l2.length r2, .bool b3, .int .u8 k3, .slice q3 m3.length r3, .bool b4, .int .u8 k4, .slice q4 m4.length r4] 29)).alloc (.cells #[.bool b5, .int .u8 k5, .slice q5 m5.length r5] 27)) := by (repeat (first | with_reducible exact Below.refl _ _ | with_reducible assumption | refine Below.alloc ?_ (by (try simp); try omega) _ | refine Below.setCell ?_ (by (try simp); try omega) _ | refine below_drewN ?_ _ | refine Below.drew ?_ | (with_reducible refine Below.trans ?_ (Below.mono (by assumption) (by (try simp); try omega)))))
  have c0 : ((w.alloc (.cells #[.bool b1, .slice q1 l1.length r1, .bool b2, .slice q2 l2.length r2, .bool b3, .int .u8 k3, .slice q3 m3.length r3, .bool b4, .int .u8 k4, .slice q4 m4.length r4] 29)).alloc (.cells #[.bool b5, .int .u8 k5, .slice q5 m5.length r5] 27)).cell? ⟨w.heap.size, 0, none⟩ = some (.bool b1) := by simp
  have c1 : ((w.alloc (.cells #[.bool b1, .slice q1 l1.length r1, .bool b2, .slice q2 l2.length r2, .bool b3, .int .u8 k3, .slice q3 m3.length r3, .bool b4, .int .u8 k4, .slice q4 m4.length r4] 29)).alloc (.cells #[.bool b5, .int .u8 k5, .slice q5 m5.length r5] 27)).cell? ⟨w.heap.size, 1, none⟩ = some (.slice q1 l1.length r1) := by simp
  have c2 : ((w.alloc (.cells #[.bool b1, .slice q1 l1.length r1, .bool b2, .slice q2 l2.length r2, .bool b3, .int .u8 k3, .slice q3 m3.length r3, .bool b4, .int .u8 k4, .slice q4 m4.length r4] 29)).alloc (.cells #[.bool b5, .int .u8 k5, .slice q5 m5.length r5] 27)).cell? ⟨w.heap.size, 2, none⟩ = some (.bool b2) := by simp
  have c3 : ((w.alloc (.cells #[.bool b1, .slice q1 l1.length r1, .bool b2, .slice q2 l2.length r2, .bool b3, .int .u8 k3, .slice q3 m3.length r3, .bool b4, .int .u8 k4, .slice q4 m4.length r4] 29)).alloc (.cells #[.bool b5, .int .u8 k5, .slice q5 m5.length r5] 27)).cell? ⟨w.heap.size, 3, none⟩ = some (.slice q2 l2.length r2) := by simp
  have c4 : ((w.alloc (.cells #[.bool b1, .slice q1 l1.length r1, .bool b2, .slice q2 l2.length r2, .bool b3, .int .u8 k3, .slice q3 m3.length r3, .bool b4, .int .u8 k4, .slice q4 m4.length r4] 29)).alloc (.cells #[.bool b5, .int .u8 k5, .slice q5 m5.length r5] 27)).cell? ⟨w.heap.size, 4, none⟩ = some (.bool b3) := by simp
  have c5 : ((w.alloc (.cells #[.bool b1, .slice q1 l1.length r1, .bool b2, .slice q2 l2.length r2, .bool b3, .int .u8 k3, .slice q3 m3.length r3, .bool b4, .int .u8 k4, .slice q4 m4.length r4] 29)).alloc (.cells #[.bool b5, .int .u8 k5, .slice q5 m5.length r5] 27)).cell? ⟨w.heap.size, 5, none⟩ = some (.int .u8 k3) := by simp
  have c6 : ((w.alloc (.cells #[.bool b1, .slice q1 l1.length r1, .bool b2, .slice q2 l2.length r2, .bool b3, .int .u8 k3, .slice q3 m3.length r3, .bool b4, .int .u8 k4, .slice q4 m4.length r4] 29)).alloc (.cells #[.bool b5, .int .u8 k5, .slice q5 m5.length r5] 27)).cell? ⟨w.heap.size, 6, none⟩ = some (.slice q3 m3.length r3) := by simp
  have c7 : ((w.alloc (.cells #[.bool b1, .slice q1 l1.length r1, .bool b2, .slice q2 l2.length r2, .bool b3, .int .u8 k3, .slice q3 m3.length r3, .bool b4, .int .u8 k4, .slice q4 m4.length r4] 29)).alloc (.cells #[.bool b5, .int .u8 k5, .slice q5 m5.length r5] 27)).cell? ⟨w.heap.size, 7, none⟩ = some (.bool b4) := by simp
  have c8 : ((w.alloc (.cells #[.bool b1, .slice q1 l1.length r1, .bool b2, .slice q2 l2.length r2, .bool b3, .int .u8 k3, .slice q3 m3.length r3, .bool b4, .int .u8 k4, .slice q4 m4.length r4] 29)).alloc (.cells #[.bool b5, .int .u8 k5, .slice q5 m5.length r5] 27)).cell? ⟨w.heap.size, 8, none⟩ = some (.int .u8 k4) := by simp
  have c9 : ((w.alloc (.cells #[.bool b1, .slice q1 l1.length r1, .bool b2, .slice q2 l2.length r2, .bool b3, .int .u8 k3, .slice q3 m3.length r3, .bool b4, .int .u8 k4, .slice q4 m4.length r4] 29)).alloc (.cells #[.bool b5, .int .u8 k5, .slice q5 m5.length r5] 27)).cell? ⟨w.heap.size, 9, none⟩ = some (.slice q4 m4.length r4) := by simp
  have e0 : ((w.alloc (.cells #[.bool b1, .slice q1 l1.length r1, .bool b2, .slice q2 l2.length r2, .bool b3, .int .u8 k3, .slice q3 m3.length r3, .bool b4, .int .u8 k4, .slice q4 m4.length r4] 29)).alloc (.cells #[.bool b5, .int .u8 k5, .slice q5 m5.length r5] 27)).cell? ⟨w.heap.size + 1, 0, none⟩ = some (.bool b5) := by simp
  have e1 : ((w.alloc (.cells #[.bool b1, .slice q1 l1.length r1, .bool b2, .slice q2 l2.length r2, .bool b3, .int .u8 k3, .slice q3 m3.length r3, .bool b4, .int .u8 k4, .slice q4 m4.length r4] 29)).alloc (.cells #[.bool b5, .int .u8 k5, .slice q5 m5.length r5] 27)).cell? ⟨w.heap.size + 1, 1, none⟩ = some (.int .u8 k5) := by simp
  have e2 : ((w.alloc (.cells #[.bool b1, .slice q1 l1.length r1, .bool b2, .slice q2 l2.length r2, .bool b3, .int .u8 k3, .slice q3 m3.length r3, .bool b4, .int .u8 k4, .slice q4 m4.length r4] 29)).alloc (.cells #[.bool b5, .int .u8 k5, .slice q5 m5.length r5] 27)).cell? ⟨w.heap.size + 1, 2, none⟩ = some (.slice q5 m5.length r5) := by simp
  go_enter Tryd.func6, Tryd.ntmps6
  go_wp2_with fail
  generalize ((w.alloc (.cells #[.bool b1, .slice q1 l1.length r1, .bool b2, .slice q2 l2.length r2, .bool b3, .int .u8 k3, .slice q3 m3.length r3, .bool b4, .int .u8 k4, .slice q4 m4.length r4] 29)).alloc (.cells #[.bool b5, .int .u8 k5, .slice q5 m5.length r5] 27)) = w1 at *
  obtain ⟨g, hg⟩ : ∃ g, w.heap.size = g := ⟨_, rfl⟩
  simp only [hg] at c0 c1 c2 c3 c4 c5 c6 c7 c8 c9 e0 e1 e2 ⊢
  rw [← hg]
  go_at_call 16
  refine (works_true _ (hP.keep hB)).mono ?_
  rintro e u1 ⟨rfl, hb⟩
  have hk : Below w1.heap.size w1 u1 := by (repeat (first | with_reducible exact Below.refl _ _ | with_reducible assumption | refine Below.alloc ?_ (by (try simp); try omega) _ | refine Below.setCell ?_ (by (try simp); try omega) _ | refine below_drewN ?_ _ | refine Below.drew ?_ | (with_reducible refine Below.trans ?_ (Below.mono (by assumption) (by (try simp); try omega)))))
  clear hb
  replace c0 := lkeep hk c0
  replace c1 := lkeep hk c1
  replace c2 := lkeep hk c2
  replace c3 := lkeep hk c3
  replace c4 := lkeep hk c4
  replace c5 := lkeep hk c5
  replace c6 := lkeep hk c6
  replace c7 := lkeep hk c7
  replace c8 := lkeep hk c8
  replace c9 := lkeep hk c9
  replace e0 := lkeep hk e0
  replace e1 := lkeep hk e1
  replace e2 := lkeep hk e2
  replace hB := hB.trans (hk.mono hB.size)
  clear hk
  go_wp2_with fail
  go_at_call 20
  refine (pairs_any b1 _ l1 b2 _ l2 b3 k3 _ m3 b4 k4 _ m4 _ (L1.keep hB) (L2.keep hB) N1 N2 K30 K31 (W3.keep hB) K40 K41 (W4.keep hB)).mono ?_
  rintro e u2 ⟨B, f, rfl, PB, hb⟩
  have hk : Below u1.heap.size u1 u2 := by (repeat (first | with_reducible exact Below.refl _ _ | with_reducible assumption | refine Below.alloc ?_ (by (try simp); try omega) _ | refine Below.setCell ?_ (by (try simp); try omega) _ | refine below_drewN ?_ _ | refine Below.drew ?_ | (with_reducible refine Below.trans ?_ (Below.mono (by assumption) (by (try simp); try omega)))))
  clear hb
  clear c0 c1 c2 c3 c4 c5 c6 c7 c8 c9
  replace e0 := lkeep hk e0
  replace e1 := lkeep hk e1
  replace e2 := lkeep hk e2
  replace hB := hB.trans (hk.mono hB.size)
  clear hk
  clear L1 L2 W3 W4
  go_wp2
  go_loopw [18] (fun i wr => ∃ k : Nat, i = .int .i64 k ∧ k ≤ 4 ∧ Prs wr B f ∧ (wr.cell? ⟨g + 1, 0, none⟩ = some (.bool b5) ∧ wr.cell? ⟨g + 1, 1, none⟩ = some (.int .u8 k5) ∧ wr.cell? ⟨g + 1, 2, none⟩ = some (.slice q5 m5.length r5)) ∧ Below w.heap.size w wr)
    (fun i _ => 4 - (intOf i).toNat)
  case atStart => exact ⟨0, rfl, by omega, PB, ⟨e0, e1, e2⟩, hB⟩
  case round =>
    clear PB hB e0 e1 e2
    obtain ⟨k, rfl, hk, PB, ⟨e0, e1, e2⟩, hB⟩ := hrel
    by_cases hk4 : k = 4
    · subst hk4; clear PB; go_wp2; go_ret; exact ⟨rfl, hB⟩
    have hk' : k < 4 := by omega
    have hki : (k : Int) < 4 := by omega
    have hk1 : k + 1 ≤ 4 := by omega
    obtain ⟨a0, n0, j0, x0, x1, XL⟩ := PB.at0 k hk'
    obtain ⟨a1, n1, j1, y0, y1, YL⟩ := PB.at1 k hk'
    have len0 := PB.len0 k hk'
    have len1 := PB.len1 k hk'
    have lPB := World.block_lt_of_cell? wr _ x0
    replace lPB : B < wr.heap.size := lPB
    have lED := World.block_lt_of_cell? wr _ e0
    replace lED : g + 1 < wr.heap.size := lED
    generalize (f k).1 = p at x0
    generalize (f k).2.1 = l at XL len0
    generalize (f k).2.2.1 = p' at y0
    generalize (f k).2.2.2 = l' at YL len1
    replace hk4 := Lib.hid hk4
    simp only [Nat.mul_comm 4 k] at x0 x1 y0 y1
    go_upto_region 6 with fail
    obtain ⟨d0, d1, d2, d3⟩ := cell4 (w := wr) (.bool p) (.slice a0 n0 j0) (.bool p') (.slice a1 n1 j1) 35
    have hB1 : Below w.heap.size w (wr.alloc (.cells #[.bool p, .slice a0 n0 j0, .bool p', .slice a1 n1 j1] 35)) := hB.alloc hB.size _
    have hb : Below wr.heap.size wr (wr.alloc (.cells #[.bool p, .slice a0 n0 j0, .bool p', .slice a1 n1 j1] 35)) := (Below.refl _ _).alloc (Nat.le_refl _) _
    replace PB := PB.keep hb
    replace XL := XL.keep hb
    replace YL := YL.keep hb
    replace e0 := lkeep hb e0
    replace e1 := lkeep hb e1
    replace e2 := lkeep hb e2
    have lv0 : wr.heap.size < (wr.alloc (.cells #[.bool p, .slice a0 n0 j0, .bool p', .slice a1 n1 j1] 35)).heap.size := by simp
    clear hb hB x0 x1 y0 y1
    generalize wr.alloc (.cells #[.bool p, .slice a0 n0 j0, .bool p', .slice a1 n1 j1] 35) = v0 at *
    generalize wr.heap.size = g0 at *
    go_cut [7, 8, 13, 14, 15, 16, 17, 18] from 7 (fun v7 v8 v13 v14 v15 v16 v17 v18 wx => ∃ (ga gb : Nat), v7 = .pointer (some ⟨ga, 0, none⟩) ∧ v8 = .pointer (some ⟨gb, 0, none⟩) ∧ v13 = .bool true ∧ v14 = .bool false ∧ v15 = .agg #[.bool b1, .slice q1 l1.length r1, .bool b2, .slice q2 l2.length r2, .bool b3, .int .u8 k3, .slice q3 m3.length r3, .bool b4, .int .u8 k4, .slice q4 m4.length r4] ∧ v16 = .slice (some ⟨B, 0, none⟩) 4 4 ∧ v17 = .int .i64 4 ∧ v18 = .int .i64 (k : Int) ∧ Bx wx ga (.bool p) (.slice a0 n0 j0) 24 ∧ Bx wx gb (.bool p') (.slice a1 n1 j1) 24 ∧ v0.heap.size ≤ ga ∧ v0.heap.size ≤ gb ∧ ga ≠ gb ∧ Below v0.heap.size v0 wx)
    case first =>
      go_region_held3 (fun w' => w'.cell? ⟨g0, 0, none⟩ = some (.bool p) ∧ w'.cell? ⟨g0, 1, none⟩ = some (.slice a0 n0 j0) ∧ w'.cell? ⟨g0, 2, none⟩ = some (.bool p') ∧ w'.cell? ⟨g0, 3, none⟩ = some (.slice a1 n1 j1))
        (first | exact ⟨d0, d1, d2, d3⟩ | exact ⟨cellAlloc1 d0, cellAlloc1 d1, cellAlloc1 d2, cellAlloc1 d3⟩ | exact ⟨cellAlloc2 d0, cellAlloc2 d1, cellAlloc2 d2, cellAlloc2 d3⟩)
        (fail)
      all_goals (go_wp2_with fail; go_meet)
      all_goals clear hB1
      · exact ⟨_, _, rfl, rfl, rfl, rfl, rfl, rfl, rfl, rfl, Bx.fst2 _ _ _ _ _, Bx.snd2 _ _ _ _ _, by omega, by simp, by simp, by (repeat (first | with_reducible exact Below.refl _ _ | with_reducible assumption | refine Below.alloc ?_ (by (try simp); try omega) _ | refine Below.setCell ?_ (by (try simp); try omega) _ | refine below_drewN ?_ _ | refine Below.drew ?_ | (with_reducible refine Below.trans ?_ (Below.mono (by assumption) (by (try simp); try omega)))))⟩
      · exact ⟨_, _, rfl, rfl, rfl, rfl, rfl, rfl, rfl, rfl, Bx.snd2 _ _ _ _ _, Bx.fst2 _ _ _ _ _, by simp, by omega, by simp, by (repeat (first | with_reducible exact Below.refl _ _ | with_reducible assumption | refine Below.alloc ?_ (by (try simp); try omega) _ | refine Below.setCell ?_ (by (try simp); try omega) _ | refine below_drewN ?_ _ | refine Below.drew ?_ | (with_reducible refine Below.trans ?_ (Below.mono (by assumption) (by (try simp); try omega)))))⟩
    case rest =>
      obtain ⟨gbA, gbB, rfl, rfl, rfl, rfl, rfl, rfl, rfl, rfl, bA, bB, hga, hgb, ltbAbB, hX⟩ := hcut
      replace PB := PB.keep hX
      replace XL := XL.keep hX
      replace YL := YL.keep hX
      replace e0 := lkeep hX e0
      replace e1 := lkeep hX e1
      replace e2 := lkeep hX e2
      have hB := hB1.trans (hX.mono hB1.size)
      have hsw := hB1.size
      have gebA : w.heap.size ≤ gbA := by omega
      have gebB : w.heap.size ≤ gbB := by omega
      have lBA : B < gbA := by omega
      have nBA : B ≠ gbA := by omega
      have nBB : B ≠ gbB := by omega
      have neA : g + 1 ≠ gbA := by omega
      have neB : g + 1 ≠ gbB := by omega
      clear hX hga hgb hB1 d0 d1 d2 d3 hsw lPB lED lv0
      obtain ⟨zG, eG, hzG, hok, hG1, hG2⟩ := gcd_both p p' l l' (by omega) (by omega)
      replace hG1 := Lib.hid hG1
      replace hG2 := Lib.hid hG2
      replace hok := Lib.hid hok
      have rbA0 : wc.cell? ⟨gbA, 0, none⟩ = some (.bool p) := bA.c0
      have rbA1 : wc.cell? ⟨gbA, 1, none⟩ = some (.slice a0 n0 j0) := bA.c1
      have rbB0 : wc.cell? ⟨gbB, 0, none⟩ = some (.bool p') := bB.c0
      have rbB1 : wc.cell? ⟨gbB, 1, none⟩ = some (.slice a1 n1 j1) := bB.c1
      go_wp2_with fail
      clear rbA0 rbA1 rbB0 rbB1
      go_at_call 40
      refine (hG1.out _ _ _ XL YL).mono ?_
      rintro e u3 ⟨⟨pS, aSx, nSx, kSx, rfl, LS⟩, hb⟩
      have hk : Below wc.heap.size wc u3 := by (repeat (first | with_reducible exact Below.refl _ _ | with_reducible assumption | refine Below.alloc ?_ (by (try simp); try omega) _ | refine Below.setCell ?_ (by (try simp); try omega) _ | refine below_drewN ?_ _ | refine Below.drew ?_ | (with_reducible refine Below.trans ?_ (Below.mono (by assumption) (by (try simp); try omega)))))
      clear hb
      replace PB := PB.keep hk
      replace XL := XL.keep hk
      replace YL := YL.keep hk
      replace bA := bA.keep hk
      replace bB := bB.keep hk
      replace e0 := lkeep hk e0
      replace e1 := lkeep hk e1
      replace e2 := lkeep hk e2
      replace hB := hB.trans (hk.mono hB.size)
      clear hk
      have rbA0 : (u3.alloc (.cells #[.bool pS, .slice aSx nSx kSx] 24)).cell? ⟨gbA, 0, none⟩ = some (.bool p) := (bA.alloc _).c0
      have rbA1 : (u3.alloc (.cells #[.bool pS, .slice aSx nSx kSx] 24)).cell? ⟨gbA, 1, none⟩ = some (.slice a0 n0 j0) := (bA.alloc _).c1
      have rbB0 : (u3.alloc (.cells #[.bool pS, .slice aSx nSx kSx] 24)).cell? ⟨gbB, 0, none⟩ = some (.bool p') := (bB.alloc _).c0
      have rbB1 : (u3.alloc (.cells #[.bool pS, .slice aSx nSx kSx] 24)).cell? ⟨gbB, 1, none⟩ = some (.slice a1 n1 j1) := (bB.alloc _).c1
      go_wp2_with fail
      clear rbA0 rbA1 rbB0 rbB1
      have hX : Below u3.heap.size u3 (u3.alloc (.cells #[.bool pS, .slice aSx nSx kSx] 24)) := by (repeat (first | with_reducible exact Below.refl _ _ | with_reducible assumption | refine Below.alloc ?_ (by (try simp); try omega) _ | refine Below.setCell ?_ (by (try simp); try omega) _ | refine below_drewN ?_ _ | refine Below.drew ?_ | (with_reducible refine Below.trans ?_ (Below.mono (by assumption) (by (try simp); try omega)))))
      have bS : Bx (u3.alloc (.cells #[.bool pS, .slice aSx nSx kSx] 24)) (u3.heap.size) (.bool pS) (.slice aSx nSx kSx) 24 := by exact (Bx.new u3 (.bool pS) (.slice aSx nSx kSx) 24)
      have gebS : w.heap.size ≤ u3.heap.size := by have := hB.size; omega
      have ltbAbS : gbA < u3.heap.size := by have := bA.lt; omega
      have ltbBbS : gbB < u3.heap.size := by have := bB.lt; omega
      replace PB := PB.keep hX
      replace XL := XL.keep hX
      replace YL := YL.keep hX
      replace LS := LS.keep hX
      replace bA := bA.keep hX
      replace bB := bB.keep hX
      replace e0 := lkeep hX e0
      replace e1 := lkeep hX e1
      replace e2 := lkeep hX e2
      replace hB := hB.trans (hX.mono hB.size)
      clear hX
      generalize (u3.alloc (.cells #[.bool pS, .slice aSx nSx kSx] 24)) = v4 at *
      generalize u3.heap.size = gbS at *
      go_at_call 41
      refine (hG2.out _ _ _ XL YL).mono ?_
      rintro e u5 ⟨⟨pR, aRx, nRx, kRx, rfl, LR⟩, hb⟩
      have hk : Below v4.heap.size v4 u5 := by (repeat (first | with_reducible exact Below.refl _ _ | with_reducible assumption | refine Below.alloc ?_ (by (try simp); try omega) _ | refine Below.setCell ?_ (by (try simp); try omega) _ | refine below_drewN ?_ _ | refine Below.drew ?_ | (with_reducible refine Below.trans ?_ (Below.mono (by assumption) (by (try simp); try omega)))))
      clear hb
      replace PB := PB.keep hk
      replace XL := XL.keep hk
      replace YL := YL.keep hk
      replace LS := LS.keep hk
      replace bA := bA.keep hk
      replace bB := bB.keep hk
      replace bS := bS.keep hk
      replace e0 := lkeep hk e0
      replace e1 := lkeep hk e1
      replace e2 := lkeep hk e2
      replace hB := hB.trans (hk.mono hB.size)
      clear hk
      have rbS0 : (u5.alloc (.cells #[.bool pR, .slice aRx nRx kRx] 24)).cell? ⟨gbS, 0, none⟩ = some (.bool pS) := (bS.alloc _).c0
      have rbS1 : (u5.alloc (.cells #[.bool pR, .slice aRx nRx kRx] 24)).cell? ⟨gbS, 1, none⟩ = some (.slice aSx nSx kSx) := (bS.alloc _).c1
      go_wp2_with fail
      clear rbS0 rbS1
      have hX : Below u5.heap.size u5 (u5.alloc (.cells #[.bool pR, .slice aRx nRx kRx] 24)) := by (repeat (first | with_reducible exact Below.refl _ _ | with_reducible assumption | refine Below.alloc ?_ (by (try simp); try omega) _ | refine Below.setCell ?_ (by (try simp); try omega) _ | refine below_drewN ?_ _ | refine Below.drew ?_ | (with_reducible refine Below.trans ?_ (Below.mono (by assumption) (by (try simp); try omega)))))
      have bR : Bx (u5.alloc (.cells #[.bool pR, .slice aRx nRx kRx] 24)) (u5.heap.size) (.bool pR) (.slice aRx nRx kRx) 24 := by exact (Bx.new u5 (.bool pR) (.slice aRx nRx kRx) 24)
      have gebR : w.heap.size ≤ u5.heap.size := by have := hB.size; omega
      have ltbAbR : gbA < u5.heap.size := by have := bA.lt; omega
      have ltbBbR : gbB < u5.heap.size := by have := bB.lt; omega
      have ltbSbR : gbS < u5.heap.size := by have := bS.lt; omega
      replace PB := PB.keep hX
      replace XL := XL.keep hX
      replace YL := YL.keep hX
      replace LS := LS.keep hX
      replace LR := LR.keep hX
      replace bA := bA.keep hX
      replace bB := bB.keep hX
      replace bS := bS.keep hX
      replace e0 := lkeep hX e0
      replace e1 := lkeep hX e1
      replace e2 := lkeep hX e2
      replace hB := hB.trans (hX.mono hB.size)
      clear hX
      generalize (u5.alloc (.cells #[.bool pR, .slice aRx nRx kRx] 24)) = v6 at *
      generalize u5.heap.size = gbR at *
      go_at_call 35
      refine (alike_true _ _ zG eG _ LS LR (by omega)).mono ?_
      rintro e u7 ⟨rfl, hb⟩
      have hk : Below v6.heap.size v6 u7 := by (repeat (first | with_reducible exact Below.refl _ _ | with_reducible assumption | refine Below.alloc ?_ (by (try simp); try omega) _ | refine Below.setCell ?_ (by (try simp); try omega) _ | refine below_drewN ?_ _ | refine Below.drew ?_ | (with_reducible refine Below.trans ?_ (Below.mono (by assumption) (by (try simp); try omega)))))
      clear hb
      replace PB := PB.keep hk
      replace XL := XL.keep hk
      replace YL := YL.keep hk
      replace LS := LS.keep hk
      replace LR := LR.keep hk
      replace bA := bA.keep hk
      replace bB := bB.keep hk
      replace bS := bS.keep hk
      replace bR := bR.keep hk
      replace e0 := lkeep hk e0
      replace e1 := lkeep hk e1
      replace e2 := lkeep hk e2
      replace hB := hB.trans (hk.mono hB.size)
      clear hk
      clear LS LR
      by_cases he : eG = 0
      · subst he
        obtain ⟨ck1, ck2'⟩ := hok.out rfl
        have LA := (lg_any XL ck1).1
        have LB := (lg_any YL ck2').1
        have dA := (lg_any XL ck1).2
        have dB := (lg_any YL ck2').2
        obtain ⟨x, hx⟩ : ∃ x, numL p l = x := ⟨_, rfl⟩
        obtain ⟨y, hy⟩ : ∃ y, numL p' l' = y := ⟨_, rfl⟩
        rw [hx] at LA dA
        rw [hy] at LB dB
        have dX := Dl_mul x zd
        have dY := Dl_mul y zd
        obtain ⟨u, hu⟩ : ∃ u, x * zd = u := ⟨_, rfl⟩
        obtain ⟨t, ht⟩ : ∃ t, y * zd = t := ⟨_, rfl⟩
        rw [hu] at dX
        rw [ht] at dY
        have hpu := fun w V h h' => rprod_num (.agg #[.bool p, .slice a0 n0 j0]) V x zd w h h' (by omega) (by omega)
        have hpt := fun w V h h' => rprod_num (.agg #[.bool p', .slice a1 n1 j1]) V y zd w h h' (by omega) (by omega)
        rw [hu] at hpu
        rw [ht] at hpt
        replace hpu := Lib.hid hpu
        replace hpt := Lib.hid hpt
        clear hx hy hu ht ck1 ck2' hok hG1 hG2 XL YL
        go_wp2_with fail
        go_cut [7, 8, 9, 10, 11, 12, 13, 14, 15, 16, 17, 18] from 13 (fun v7 v8 v9 v10 v11 v12 v13 v14 v15 v16 v17 v18 wx => ∃ (pU : Bool) (aU : Option Addr) (nU kU : Nat) (pT : Bool) (aT : Option Addr) (nT kT : Nat), v13 = .bool true ∧ v14 = .bool false ∧ v15 = .agg #[.bool b1, .slice q1 l1.length r1, .bool b2, .slice q2 l2.length r2, .bool b3, .int .u8 k3, .slice q3 m3.length r3, .bool b4, .int .u8 k4, .slice q4 m4.length r4] ∧ v16 = .slice (some ⟨B, 0, none⟩) 4 4 ∧ v17 = .int .i64 4 ∧ v9 = .pointer (some ⟨gbS, 0, none⟩) ∧ v10 = .int .i64 0 ∧ v11 = .pointer (some ⟨gbR, 0, none⟩) ∧ v12 = .int .i64 0 ∧ v7 = .pointer (some ⟨gbA, 0, none⟩) ∧ v8 = .pointer (some ⟨gbB, 0, none⟩) ∧ v18 = .int .i64 (k : Int) ∧ Bx wx gbA (.bool pU) (.slice aU nU kU) 24 ∧ Bx wx gbB (.bool pT) (.slice aT nT kT) 24 ∧ Lg wx (.agg #[.bool pU, .slice aU nU kU]) u ∧ Lg wx (.agg #[.bool pT, .slice aT nT kT]) t ∧ Kp gbA gbB u7 wx ∧ Below w.heap.size w wx)
        case first =>
          have hS : ∀ W, Kp gbA gbB u7 W ∧ Below w.heap.size w W → W.cell? ⟨g + 1, 0, none⟩ = some (.bool b5) ∧ W.cell? ⟨g + 1, 1, none⟩ = some (.int .u8 k5) ∧ W.cell? ⟨g + 1, 2, none⟩ = some (.slice q5 m5.length r5) := fun W h => ⟨h.1.cell e0 neA neB, h.1.cell e1 neA neB, h.1.cell e2 neA neB⟩
          have HA := Lib.hid LA
          have HB := Lib.hid LB
          clear PB LA LB
          refine wp_region_inv (by kernel_rfl) (by kernel_rfl) (fun A listed a' w' => ∃ (l0 l1 l2 l3 l4 l5 l6 l7 l8 l9 : Bool) (x46 x47 x48 x49 x50 x51 x52 x53 : Value), (listed.getD 0 false = l0 ∧ listed.getD 1 false = l1 ∧ listed.getD 2 false = l2 ∧ listed.getD 3 false = l3 ∧ listed.getD 4 false = l4 ∧ listed.getD 5 false = l5 ∧ listed.getD 6 false = l6 ∧ listed.getD 7 false = l7 ∧ listed.getD 8 false = l8 ∧ listed.getD 9 false = l9) ∧ a' = ((((((((A.put (some 46) x46).put (some 47) x47).put (some 48) x48).put (some 49) x49).put (some 50) x50).put (some 51) x51).put (some 52) x52).put (some 53) x53) ∧ (l0 = true → x46 = .agg #[.bool p, .slice a0 n0 j0]) ∧ (l1 = true → x47 = .agg #[.bool b5, .int .u8 k5, .slice q5 m5.length r5]) ∧ (l2 = true → LgX zd w' x48) ∧ (l3 = true → LgX u w' x49) ∧ (l4 = true → x50 = .agg #[.bool p', .slice a1 n1 j1]) ∧ (l5 = true → x51 = .agg #[.bool b5, .int .u8 k5, .slice q5 m5.length r5]) ∧ (l6 = true → LgX zd w' x52) ∧ (l7 = true → LgX t w' x53) ∧ XB gbA p a0 n0 j0 l8 w' x49 ∧ XB gbB p' a1 n1 j1 l9 w' x53 ∧ (l8 = true → l0 = true ∧ l3 = true) ∧ (l9 = true → l4 = true ∧ l7 = true) ∧ Lg w' (.agg #[.bool p, .slice a0 n0 j0]) x ∧ Lg w' (.agg #[.bool p', .slice a1 n1 j1]) y ∧ (Kp gbA gbB u7 w' ∧ Below w.heap.size w w')) ?_ ?_ ?_
          · refine ⟨false, false, false, false, false, false, false, false, false, false, ?_, ?_, ?_, ?_, ?_, ?_, ?_, ?_, ⟨rfl, rfl, rfl, rfl, rfl, rfl, rfl, rfl, rfl, rfl⟩, ?_, (fun h => by cases h), (fun h => by cases h), (fun h => by cases h), (fun h => by cases h), (fun h => by cases h), (fun h => by cases h), (fun h => by cases h), (fun h => by cases h), ⟨fun _ => bA, fun h => by cases h⟩, ⟨fun _ => bB, fun h => by cases h⟩, (fun h => by cases h), (fun h => by cases h), HA.out, HB.out, ⟨(Kp.refl _ _ _).drewI, hB.drew⟩⟩
            rotate_left 8
            with_reducible refine put_ex ?_ ?_
            with_reducible refine put_ex ?_ ?_
            with_reducible refine put_ex ?_ ?_
            with_reducible refine put_ex ?_ ?_
            with_reducible refine put_ex ?_ ?_
            with_reducible refine put_ex ?_ ?_
            with_reducible refine put_ex ?_ ?_
            with_reducible refine put_ex ?_ ?_
            with_reducible rfl
            all_goals first | (show _ < Array.size _; simp only [List.size_toArray, List.length_cons, List.length_nil]; omega) | skip
          · rintro listed a' w' i hn ⟨l0, l1, l2, l3, l4, l5, l6, l7, l8, l9, x46, x47, x48, x49, x50, x51, x52, x53, ⟨h0, h1, h2, h3, h4, h5, h6, h7, h8, h9⟩, rfl, i0, i1, i2, i3, i4, i5, i6, i7, qA, qB, sA, sB, QA, QB, hW⟩ hi hnl hdp
            have hi' : i < 10 := hi
            clear hi
            obtain ⟨f0, f1, f2⟩ := hS _ hW
            rcases (by omega : i = 0 ∨ i = 1 ∨ i = 2 ∨ i = 3 ∨ i = 4 ∨ i = 5 ∨ i = 6 ∨ i = 7 ∨ i = 8 ∨ i = 9) with rfl | rfl | rfl | rfl | rfl | rfl | rfl | rfl | rfl | rfl
            · -- operation 0
              have e8 : l8 = false := by cases l8; rfl; have := (sA rfl).1; subst this; rw [hnl] at h0; cases h0
              subst e8
              have hbx := qA.1 rfl
              have r0 := hbx.c0
              have r1 := hbx.c1
              refine wpOp_step rfl (fun K hK => ?_)
              go_simp
              refine hK _ _ ⟨true, l1, l2, l3, l4, l5, l6, l7, false, l9, .agg #[.bool p, .slice a0 n0 j0], x47, x48, x49, x50, x51, x52, x53, ⟨getD_same (by rw [hn]; decide) _, (getD_other (by decide) _).trans h1, (getD_other (by decide) _).trans h2, (getD_other (by decide) _).trans h3, (getD_other (by decide) _).trans h4, (getD_other (by decide) _).trans h5, (getD_other (by decide) _).trans h6, (getD_other (by decide) _).trans h7, (getD_other (by decide) _).trans h8, (getD_other (by decide) _).trans h9⟩, by simp only [Act.put, List.setIfInBounds_toArray, List.set_cons_zero, List.set_cons_succ], fun _ => rfl, i1, i2, i3, i4, i5, i6, i7, qA, qB, (fun h => by cases h), sB, QA, QB, hW⟩
            · -- operation 1
              refine wpOp_step rfl (fun K hK => ?_)
              go_simp
              refine hK _ _ ⟨l0, true, l2, l3, l4, l5, l6, l7, l8, l9, x46, .agg #[.bool b5, .int .u8 k5, .slice q5 m5.length r5], x48, x49, x50, x51, x52, x53, ⟨(getD_other (by decide) _).trans h0, getD_same (by rw [hn]; decide) _, (getD_other (by decide) _).trans h2, (getD_other (by decide) _).trans h3, (getD_other (by decide) _).trans h4, (getD_other (by decide) _).trans h5, (getD_other (by decide) _).trans h6, (getD_other (by decide) _).trans h7, (getD_other (by decide) _).trans h8, (getD_other (by decide) _).trans h9⟩, by simp only [Act.put, List.setIfInBounds_toArray, List.set_cons_zero, List.set_cons_succ], i0, fun _ => rfl, i2, i3, i4, i5, i6, i7, qA, qB, sA, sB, QA, QB, hW⟩
            · -- operation 2
              have k1 := hdp 1 (List.elem_iff.1 (by kernel_rfl)); rw [h1] at k1; subst k1
              obtain rfl := i1 rfl
              refine wpOp_step rfl (fun K hK => ?_)
              go_simp
              go_at_call 43
              refine (hSh.out _ (W5.keep hW.2)).mono ?_
              rintro e uz ⟨⟨pX, aX, nX, kX, rfl, LX⟩, hb⟩
              try go_simp
              refine hK _ _ ⟨l0, true, true, l3, l4, l5, l6, l7, l8, l9, x46, .agg #[.bool b5, .int .u8 k5, .slice q5 m5.length r5], _, x49, x50, x51, x52, x53, ⟨(getD_other (by decide) _).trans h0, (getD_other (by decide) _).trans h1, getD_same (by rw [hn]; decide) _, (getD_other (by decide) _).trans h3, (getD_other (by decide) _).trans h4, (getD_other (by decide) _).trans h5, (getD_other (by decide) _).trans h6, (getD_other (by decide) _).trans h7, (getD_other (by decide) _).trans h8, (getD_other (by decide) _).trans h9⟩, by simp only [Act.put, List.setIfInBounds_toArray, List.set_cons_zero, List.set_cons_succ], i0, fun _ => rfl, fun _ => ⟨pX, aX, nX, kX, rfl, LX⟩, (fun h => (i3 h).keep hb), i4, i5, (fun h => (i6 h).keep hb), (fun h => (i7 h).keep hb), (qA.keep hb), (qB.keep hb), sA, sB, (QA.keep hb), (QB.keep hb), ⟨hW.1.keep hb, hW.2.trans (hb.mono hW.2.size)⟩⟩
            · -- operation 3
              have k0 := hdp 0 (List.elem_iff.1 (by kernel_rfl)); rw [h0] at k0; subst k0
              have k2 := hdp 2 (List.elem_iff.1 (by kernel_rfl)); rw [h2] at k2; subst k2
              obtain rfl := i0 rfl
              obtain ⟨pY, aY, nY, kY, rfl, LY⟩ := i2 rfl
              have e8 : l8 = false := by cases l8; rfl; have := (sA rfl).2; subst this; rw [hnl] at h3; cases h3
              subst e8
              refine wpOp_step rfl (fun K hK => ?_)
              go_simp
              go_at_call 42
              refine (hpu.out _ _ (QA) LY).mono ?_
              rintro e uz ⟨⟨pX, aX, nX, kX, rfl, LX⟩, hb⟩
              try go_simp
              refine hK _ _ ⟨true, l1, true, true, l4, l5, l6, l7, false, l9, .agg #[.bool p, .slice a0 n0 j0], x47, _, _, x50, x51, x52, x53, ⟨(getD_other (by decide) _).trans h0, (getD_other (by decide) _).trans h1, (getD_other (by decide) _).trans h2, getD_same (by rw [hn]; decide) _, (getD_other (by decide) _).trans h4, (getD_other (by decide) _).trans h5, (getD_other (by decide) _).trans h6, (getD_other (by decide) _).trans h7, (getD_other (by decide) _).trans h8, (getD_other (by decide) _).trans h9⟩, by simp only [Act.put, List.setIfInBounds_toArray, List.set_cons_zero, List.set_cons_succ], fun _ => rfl, i1, (fun _ => LgX.keep ⟨pY, aY, nY, kY, rfl, LY⟩ hb), fun _ => ⟨pX, aX, nX, kX, rfl, LX⟩, i4, i5, (fun h => (i6 h).keep hb), (fun h => (i7 h).keep hb), (qA.keep hb).val, (qB.keep hb), (fun h => by cases h), sB, (QA.keep hb), (QB.keep hb), ⟨hW.1.keep hb, hW.2.trans (hb.mono hW.2.size)⟩⟩
            · -- operation 4
              have e9 : l9 = false := by cases l9; rfl; have := (sB rfl).1; subst this; rw [hnl] at h4; cases h4
              subst e9
              have hbx := qB.1 rfl
              have r0 := hbx.c0
              have r1 := hbx.c1
              refine wpOp_step rfl (fun K hK => ?_)
              go_simp
              refine hK _ _ ⟨l0, l1, l2, l3, true, l5, l6, l7, l8, false, x46, x47, x48, x49, .agg #[.bool p', .slice a1 n1 j1], x51, x52, x53, ⟨(getD_other (by decide) _).trans h0, (getD_other (by decide) _).trans h1, (getD_other (by decide) _).trans h2, (getD_other (by decide) _).trans h3, getD_same (by rw [hn]; decide) _, (getD_other (by decide) _).trans h5, (getD_other (by decide) _).trans h6, (getD_other (by decide) _).trans h7, (getD_other (by decide) _).trans h8, (getD_other (by decide) _).trans h9⟩, by simp only [Act.put, List.setIfInBounds_toArray, List.set_cons_zero, List.set_cons_succ], i0, i1, i2, i3, fun _ => rfl, i5, i6, i7, qA, qB, sA, (fun h => by cases h), QA, QB, hW⟩
            · -- operation 5
              refine wpOp_step rfl (fun K hK => ?_)
              go_simp
              refine hK _ _ ⟨l0, l1, l2, l3, l4, true, l6, l7, l8, l9, x46, x47, x48, x49, x50, .agg #[.bool b5, .int .u8 k5, .slice q5 m5.length r5], x52, x53, ⟨(getD_other (by decide) _).trans h0, (getD_other (by decide) _).trans h1, (getD_other (by decide) _).trans h2, (getD_other (by decide) _).trans h3, (getD_other (by decide) _).trans h4, getD_same (by rw [hn]; decide) _, (getD_other (by decide) _).trans h6, (getD_other (by decide) _).trans h7, (getD_other (by decide) _).trans h8, (getD_other (by decide) _).trans h9⟩, by simp only [Act.put, List.setIfInBounds_toArray, List.set_cons_zero, List.set_cons_succ], i0, i1, i2, i3, i4, fun _ => rfl, i6, i7, qA, qB, sA, sB, QA, QB, hW⟩
            · -- operation 6
              have k5 := hdp 5 (List.elem_iff.1 (by kernel_rfl)); rw [h5] at k5; subst k5
              have k3 := hdp 3 (List.elem_iff.1 (by kernel_rfl)); rw [h3] at k3; subst k3
              obtain rfl := i5 rfl
              refine wpOp_step rfl (fun K hK => ?_)
              go_simp
              go_at_call 43
              refine (hSh.out _ (W5.keep hW.2)).mono ?_
              rintro e uz ⟨⟨pX, aX, nX, kX, rfl, LX⟩, hb⟩
              try go_simp
              refine hK _ _ ⟨l0, l1, l2, true, l4, true, true, l7, l8, l9, x46, x47, x48, x49, x50, .agg #[.bool b5, .int .u8 k5, .slice q5 m5.length r5], _, x53, ⟨(getD_other (by decide) _).trans h0, (getD_other (by decide) _).trans h1, (getD_other (by decide) _).trans h2, (getD_other (by decide) _).trans h3, (getD_other (by decide) _).trans h4, (getD_other (by decide) _).trans h5, getD_same (by rw [hn]; decide) _, (getD_other (by decide) _).trans h7, (getD_other (by decide) _).trans h8, (getD_other (by decide) _).trans h9⟩, by simp only [Act.put, List.setIfInBounds_toArray, List.set_cons_zero, List.set_cons_succ], i0, i1, (fun h => (i2 h).keep hb), (fun h => (i3 h).keep hb), i4, fun _ => rfl, fun _ => ⟨pX, aX, nX, kX, rfl, LX⟩, (fun h => (i7 h).keep hb), (qA.keep hb), (qB.keep hb), sA, sB, (QA.keep hb), (QB.keep hb), ⟨hW.1.keep hb, hW.2.trans (hb.mono hW.2.size)⟩⟩
            · -- operation 7
              have k4 := hdp 4 (List.elem_iff.1 (by kernel_rfl)); rw [h4] at k4; subst k4
              have k6 := hdp 6 (List.elem_iff.1 (by kernel_rfl)); rw [h6] at k6; subst k6
              obtain rfl := i4 rfl
              obtain ⟨pY, aY, nY, kY, rfl, LY⟩ := i6 rfl
              have e9 : l9 = false := by cases l9; rfl; have := (sB rfl).2; subst this; rw [hnl] at h7; cases h7
              subst e9
              refine wpOp_step rfl (fun K hK => ?_)
              go_simp
              go_at_call 42
              refine (hpt.out _ _ (QB) LY).mono ?_
              rintro e uz ⟨⟨pX, aX, nX, kX, rfl, LX⟩, hb⟩
              try go_simp
              refine hK _ _ ⟨l0, l1, l2, l3, true, l5, true, true, l8, false, x46, x47, x48, x49, .agg #[.bool p', .slice a1 n1 j1], x51, _, _, ⟨(getD_other (by decide) _).trans h0, (getD_other (by decide) _).trans h1, (getD_other (by decide) _).trans h2, (getD_other (by decide) _).trans h3, (getD_other (by decide) _).trans h4, (getD_other (by decide) _).trans h5, (getD_other (by decide) _).trans h6, getD_same (by rw [hn]; decide) _, (getD_other (by decide) _).trans h8, (getD_other (by decide) _).trans h9⟩, by simp only [Act.put, List.setIfInBounds_toArray, List.set_cons_zero, List.set_cons_succ], i0, i1, (fun h => (i2 h).keep hb), (fun h => (i3 h).keep hb), fun _ => rfl, i5, (fun _ => LgX.keep ⟨pY, aY, nY, kY, rfl, LY⟩ hb), fun _ => ⟨pX, aX, nX, kX, rfl, LX⟩, (qA.keep hb), (qB.keep hb).val, sA, (fun h => by cases h), (QA.keep hb), (QB.keep hb), ⟨hW.1.keep hb, hW.2.trans (hb.mono hW.2.size)⟩⟩
            · -- operation 8
              have k0 := hdp 0 (List.elem_iff.1 (by kernel_rfl)); rw [h0] at k0; subst k0
              have k3 := hdp 3 (List.elem_iff.1 (by kernel_rfl)); rw [h3] at k3; subst k3
              obtain rfl := i0 rfl
              obtain ⟨pY, aY, nY, kY, rfl, LY⟩ := i3 rfl
              have e8 : l8 = false := by rw [← h8]; exact hnl
              subst e8
              have hbx := qA.1 rfl
              have r0 := hbx.c0
              have r1 := hbx.c1
              have z0 := hbx.f 0
              have z1 := hbx.f 1
              refine wpOp_step rfl (fun K hK => ?_)
              go_simp
              refine hK _ _ ⟨true, l1, l2, true, l4, l5, l6, l7, true, l9, .agg #[.bool p, .slice a0 n0 j0], x47, x48, _, x50, x51, x52, x53, ⟨(getD_other (by decide) _).trans h0, (getD_other (by decide) _).trans h1, (getD_other (by decide) _).trans h2, (getD_other (by decide) _).trans h3, (getD_other (by decide) _).trans h4, (getD_other (by decide) _).trans h5, (getD_other (by decide) _).trans h6, (getD_other (by decide) _).trans h7, getD_same (by rw [hn]; decide) _, (getD_other (by decide) _).trans h9⟩, by simp only [Act.put, List.setIfInBounds_toArray, List.set_cons_zero, List.set_cons_succ], (fun _ => rfl), i1, (fun h => (i2 h).put hbx _ _ _ _), (fun _ => LgX.put ⟨pY, aY, nY, kY, rfl, LY⟩ hbx _ _ _ _), i4, i5, (fun h => (i6 h).put hbx _ _ _ _), (fun h => (i7 h).put hbx _ _ _ _), ⟨(fun h => by cases h), fun _ => ⟨_, _, _, _, rfl, hbx.putP _ _⟩⟩, (qB.far ltbAbB.symm _ _), (fun _ => ⟨rfl, rfl⟩), sB, (QA.put hbx _ _ _ _), (QB.put hbx _ _ _ _), ⟨(hW.1.set (.inl rfl) _ _).set (.inl rfl) _ _, (hW.2.setCell gebA _).setCell gebA _⟩⟩
            · -- operation 9
              have k4 := hdp 4 (List.elem_iff.1 (by kernel_rfl)); rw [h4] at k4; subst k4
              have k7 := hdp 7 (List.elem_iff.1 (by kernel_rfl)); rw [h7] at k7; subst k7
              obtain rfl := i4 rfl
              obtain ⟨pY, aY, nY, kY, rfl, LY⟩ := i7 rfl
              have e9 : l9 = false := by rw [← h9]; exact hnl
              subst e9
              have hbx := qB.1 rfl
              have r0 := hbx.c0
              have r1 := hbx.c1
              have z0 := hbx.f 0
              have z1 := hbx.f 1
              refine wpOp_step rfl (fun K hK => ?_)
              go_simp
              refine hK _ _ ⟨l0, l1, l2, l3, true, l5, l6, true, l8, true, x46, x47, x48, x49, .agg #[.bool p', .slice a1 n1 j1], x51, x52, _, ⟨(getD_other (by decide) _).trans h0, (getD_other (by decide) _).trans h1, (getD_other (by decide) _).trans h2, (getD_other (by decide) _).trans h3, (getD_other (by decide) _).trans h4, (getD_other (by decide) _).trans h5, (getD_other (by decide) _).trans h6, (getD_other (by decide) _).trans h7, (getD_other (by decide) _).trans h8, getD_same (by rw [hn]; decide) _⟩, by simp only [Act.put, List.setIfInBounds_toArray, List.set_cons_zero, List.set_cons_succ], i0, i1, (fun h => (i2 h).put hbx _ _ _ _), (fun h => (i3 h).put hbx _ _ _ _), (fun _ => rfl), i5, (fun h => (i6 h).put hbx _ _ _ _), (fun _ => LgX.put ⟨pY, aY, nY, kY, rfl, LY⟩ hbx _ _ _ _), (qA.far ltbAbB _ _), ⟨(fun h => by cases h), fun _ => ⟨_, _, _, _, rfl, hbx.putP _ _⟩⟩, sA, (fun _ => ⟨rfl, rfl⟩), (QA.put hbx _ _ _ _), (QB.put hbx _ _ _ _), ⟨(hW.1.set (.inr rfl) _ _).set (.inr rfl) _ _, (hW.2.setCell gebB _).setCell gebB _⟩⟩
          · rintro listed a' w' ⟨l0, l1, l2, l3, l4, l5, l6, l7, l8, l9, x46, x47, x48, x49, x50, x51, x52, x53, ⟨h0, h1, h2, h3, h4, h5, h6, h7, h8, h9⟩, rfl, i0, i1, i2, i3, i4, i5, i6, i7, qA, qB, sA, sB, QA, QB, hW⟩ hall
            have k0 := hall 0 (by decide)
            rw [h0] at k0
            subst k0
            have k1 := hall 1 (by decide)
            rw [h1] at k1
            subst k1
            have k2 := hall 2 (by decide)
            rw [h2] at k2
            subst k2
            have k3 := hall 3 (by decide)
            rw [h3] at k3
            subst k3
            have k4 := hall 4 (by decide)
            rw [h4] at k4
            subst k4
            have k5 := hall 5 (by decide)
            rw [h5] at k5
            subst k5
            have k6 := hall 6 (by decide)
            rw [h6] at k6
            subst k6
            have k7 := hall 7 (by decide)
            rw [h7] at k7
            subst k7
            have k8 := hall 8 (by decide)
            rw [h8] at k8
            subst k8
            have k9 := hall 9 (by decide)
            rw [h9] at k9
            subst k9
            obtain rfl := i0 rfl
            obtain rfl := i1 rfl
            obtain rfl := i4 rfl
            obtain rfl := i5 rfl
            obtain ⟨pC1, aC1, nC1, kC1, rfl, LC1⟩ := i2 rfl
            obtain ⟨pU, aU, nU, kU, rfl, LU⟩ := i3 rfl
            obtain ⟨pC2, aC2, nC2, kC2, rfl, LC2⟩ := i6 rfl
            obtain ⟨pT, aT, nT, kT, rfl, LT⟩ := i7 rfl
            obtain ⟨_, _, _, _, eA, b8⟩ := qA.2 rfl
            obtain ⟨_, _, _, _, eB, b9⟩ := qB.2 rfl
            simp only [Value.agg.injEq, Array.mk.injEq, List.cons.injEq, Value.bool.injEq, Value.slice.injEq, and_true] at eA eB
            obtain ⟨rfl, rfl, rfl, rfl⟩ := eA
            obtain ⟨rfl, rfl, rfl, rfl⟩ := eB
            clear hall
            go_wp2_with fail
            go_meet
            exact ⟨_, _, _, _, _, _, _, _, rfl, rfl, rfl, rfl, rfl, rfl, rfl, rfl, rfl, rfl, rfl, rfl, b8, b9, LU, LT, hW.1, hW.2⟩
        case rest =>
          obtain ⟨pU, aU, nU, kU, pT, aT, nT, kT, rfl, rfl, rfl, rfl, rfl, rfl, rfl, rfl, rfl, rfl, rfl, rfl, nA, nB, LU, LT, hKp, hB'⟩ := hcut
          have PB2 := hKp.prs PB bA bB nBA nBB
          have e0' := hKp.cell e0 neA neB
          have e1' := hKp.cell e1 neA neB
          have e2' := hKp.cell e2 neA neB
          have ltA : gbA ≠ gbS := by omega
          have ltB : gbB ≠ gbS := by omega
          have ltA2 : gbA ≠ gbR := by omega
          have ltB2 : gbB ≠ gbR := by omega
          have bS2 := hKp.bx bS ltA.symm ltB.symm
          have bR2 := hKp.bx bR ltA2.symm ltB2.symm
          clear PB e0 e1 e2 bA bB bS bR LA LB hB hKp
          have PB := PB2
          have e0 := e0'
          have e1 := e1'
          have e2 := e2'
          have bA := nA
          have bB := nB
          have bS := bS2
          have bR := bR2
          have hB := hB'
          clear PB2 e0' e1' e2' nA nB bS2 bR2 hB' hpu hpt
          have LsU := LU.parts.2
          have LsT := LT.parts.2
          obtain ⟨zH, eH, hzH, _, hH1, hH2⟩ := gcd_both pU pT (dg (u.natAbs : Int)) (dg (t.natAbs : Int)) (by have h65 : Dl u ≤ 65 := (by omega); exact h65) (by have h65 : Dl t ≤ 65 := (by omega); exact h65)
          replace hH1 := Lib.hid hH1
          replace hH2 := Lib.hid hH2
          clear LU LT
          have rbA0 : wc.cell? ⟨gbA, 0, none⟩ = some (.bool pU) := bA.c0
          have rbA1 : wc.cell? ⟨gbA, 1, none⟩ = some (.slice aU nU kU) := bA.c1
          have rbB0 : wc.cell? ⟨gbB, 0, none⟩ = some (.bool pT) := bB.c0
          have rbB1 : wc.cell? ⟨gbB, 1, none⟩ = some (.slice aT nT kT) := bB.c1
          go_wp2_with fail
          clear rbA0 rbA1 rbB0 rbB1
          go_at_call 40
          refine (hH1.out _ _ _ LsU LsT).mono ?_
          rintro e u8 ⟨⟨pH, aHx, nHx, kHx, rfl, LH⟩, hb⟩
          have hk : Below wc.heap.size wc u8 := by (repeat (first | with_reducible exact Below.refl _ _ | with_reducible assumption | refine Below.alloc ?_ (by (try simp); try omega) _ | refine Below.setCell ?_ (by (try simp); try omega) _ | refine below_drewN ?_ _ | refine Below.drew ?_ | (with_reducible refine Below.trans ?_ (Below.mono (by assumption) (by (try simp); try omega)))))
          clear hb
          replace PB := PB.keep hk
          replace LsU := LsU.keep hk
          replace LsT := LsT.keep hk
          replace bA := bA.keep hk
          replace bB := bB.keep hk
          replace bS := bS.keep hk
          replace bR := bR.keep hk
          replace e0 := lkeep hk e0
          replace e1 := lkeep hk e1
          replace e2 := lkeep hk e2
          replace hB := hB.trans (hk.mono hB.size)
          clear hk
          have rbS0 := bS.c0
          have rbS1 := bS.c1
          have zbS0 := bS.f 0
          have zbS1 := bS.f 1
          have rbA0 : ((u8.setCell ⟨gbS, 0, none⟩ (.bool pH)).setCell ⟨gbS, 1, none⟩ (.slice aHx nHx kHx)).cell? ⟨gbA, 0, none⟩ = some (.bool pU) := (bA.farP (by omega) _ _).c0
          have rbA1 : ((u8.setCell ⟨gbS, 0, none⟩ (.bool pH)).setCell ⟨gbS, 1, none⟩ (.slice aHx nHx kHx)).cell? ⟨gbA, 1, none⟩ = some (.slice aU nU kU) := (bA.farP (by omega) _ _).c1
          have rbB0 : ((u8.setCell ⟨gbS, 0, none⟩ (.bool pH)).setCell ⟨gbS, 1, none⟩ (.slice aHx nHx kHx)).cell? ⟨gbB, 0, none⟩ = some (.bool pT) := (bB.farP (by omega) _ _).c0
          have rbB1 : ((u8.setCell ⟨gbS, 0, none⟩ (.bool pH)).setCell ⟨gbS, 1, none⟩ (.slice aHx nHx kHx)).cell? ⟨gbB, 1, none⟩ = some (.slice aT nT kT) := (bB.farP (by omega) _ _).c1
          go_wp2_with fail
          clear rbS0 rbS1 zbS0 zbS1 rbA0 rbA1 rbB0 rbB1
          replace bA : Bx ((u8.setCell ⟨gbS, 0, none⟩ (.bool pH)).setCell ⟨gbS, 1, none⟩ (.slice aHx nHx kHx)) _ _ _ _ := bA.farP (by omega) _ _
          replace bB : Bx ((u8.setCell ⟨gbS, 0, none⟩ (.bool pH)).setCell ⟨gbS, 1, none⟩ (.slice aHx nHx kHx)) _ _ _ _ := bB.farP (by omega) _ _
          replace bR : Bx ((u8.setCell ⟨gbS, 0, none⟩ (.bool pH)).setCell ⟨gbS, 1, none⟩ (.slice aHx nHx kHx)) _ _ _ _ := bR.farP (by omega) _ _
          replace PB : Prs ((u8.setCell ⟨gbS, 0, none⟩ (.bool pH)).setCell ⟨gbS, 1, none⟩ (.slice aHx nHx kHx)) B f := (((Kp.refl gbS gbS u8).set (.inl rfl) _ _).set (.inl rfl) _ _).prs PB bS bS (by omega) (by omega)
          replace LsU : Ls ((u8.setCell ⟨gbS, 0, none⟩ (.bool pH)).setCell ⟨gbS, 1, none⟩ (.slice aHx nHx kHx)) _ _ := LsU.boxed bS (nb _) (ns _ _ _) _
          replace LsT : Ls ((u8.setCell ⟨gbS, 0, none⟩ (.bool pH)).setCell ⟨gbS, 1, none⟩ (.slice aHx nHx kHx)) _ _ := LsT.boxed bS (nb _) (ns _ _ _) _
          replace LH : Lg ((u8.setCell ⟨gbS, 0, none⟩ (.bool pH)).setCell ⟨gbS, 1, none⟩ (.slice aHx nHx kHx)) _ _ := LH.put bS _ _ _ _
          replace e0 : ((u8.setCell ⟨gbS, 0, none⟩ (.bool pH)).setCell ⟨gbS, 1, none⟩ (.slice aHx nHx kHx)).cell? _ = _ := (((Kp.refl gbS gbS u8).set (.inl rfl) _ _).set (.inl rfl) _ _).cell e0 (by show g + 1 ≠ _; omega) (by show g + 1 ≠ _; omega)
          replace e1 : ((u8.setCell ⟨gbS, 0, none⟩ (.bool pH)).setCell ⟨gbS, 1, none⟩ (.slice aHx nHx kHx)).cell? _ = _ := (((Kp.refl gbS gbS u8).set (.inl rfl) _ _).set (.inl rfl) _ _).cell e1 (by show g + 1 ≠ _; omega) (by show g + 1 ≠ _; omega)
          replace e2 : ((u8.setCell ⟨gbS, 0, none⟩ (.bool pH)).setCell ⟨gbS, 1, none⟩ (.slice aHx nHx kHx)).cell? _ = _ := (((Kp.refl gbS gbS u8).set (.inl rfl) _ _).set (.inl rfl) _ _).cell e2 (by show g + 1 ≠ _; omega) (by show g + 1 ≠ _; omega)
          replace bS : Bx ((u8.setCell ⟨gbS, 0, none⟩ (.bool pH)).setCell ⟨gbS, 1, none⟩ (.slice aHx nHx kHx)) _ _ _ _ := bS.putP _ _
          replace hB : Below w.heap.size w ((u8.setCell ⟨gbS, 0, none⟩ (.bool pH)).setCell ⟨gbS, 1, none⟩ (.slice aHx nHx kHx)) := (hB.setCell gebS _).setCell gebS _
          generalize ((u8.setCell ⟨gbS, 0, none⟩ (.bool pH)).setCell ⟨gbS, 1, none⟩ (.slice aHx nHx kHx)) = v9p at *
          go_at_call 41
          refine (hH2.out _ _ _ LsU LsT).mono ?_
          rintro e u10 ⟨⟨pK, aKx, nKx, kKx, rfl, LK⟩, hb⟩
          have hk : Below v9p.heap.size v9p u10 := by (repeat (first | with_reducible exact Below.refl _ _ | with_reducible assumption | refine Below.alloc ?_ (by (try simp); try omega) _ | refine Below.setCell ?_ (by (try simp); try omega) _ | refine below_drewN ?_ _ | refine Below.drew ?_ | (with_reducible refine Below.trans ?_ (Below.mono (by assumption) (by (try simp); try omega)))))
          clear hb
          replace PB := PB.keep hk
          replace LsU := LsU.keep hk
          replace LsT := LsT.keep hk
          replace LH := LH.keep hk
          replace bA := bA.keep hk
          replace bB := bB.keep hk
          replace bS := bS.keep hk
          replace bR := bR.keep hk
          replace e0 := lkeep hk e0
          replace e1 := lkeep hk e1
          replace e2 := lkeep hk e2
          replace hB := hB.trans (hk.mono hB.size)
          clear hk
          have rbR0 := bR.c0
          have rbR1 := bR.c1
          have zbR0 := bR.f 0
          have zbR1 := bR.f 1
          have rbS0 : ((u10.setCell ⟨gbR, 0, none⟩ (.bool pK)).setCell ⟨gbR, 1, none⟩ (.slice aKx nKx kKx)).cell? ⟨gbS, 0, none⟩ = some (.bool pH) := (bS.farP (by omega) _ _).c0
          have rbS1 : ((u10.setCell ⟨gbR, 0, none⟩ (.bool pK)).setCell ⟨gbR, 1, none⟩ (.slice aKx nKx kKx)).cell? ⟨gbS, 1, none⟩ = some (.slice aHx nHx kHx) := (bS.farP (by omega) _ _).c1
          go_wp2_with fail
          clear rbR0 rbR1 zbR0 zbR1 rbS0 rbS1
          replace bA : Bx ((u10.setCell ⟨gbR, 0, none⟩ (.bool pK)).setCell ⟨gbR, 1, none⟩ (.slice aKx nKx kKx)) _ _ _ _ := bA.farP (by omega) _ _
          replace bB : Bx ((u10.setCell ⟨gbR, 0, none⟩ (.bool pK)).setCell ⟨gbR, 1, none⟩ (.slice aKx nKx kKx)) _ _ _ _ := bB.farP (by omega) _ _
          replace bS : Bx ((u10.setCell ⟨gbR, 0, none⟩ (.bool pK)).setCell ⟨gbR, 1, none⟩ (.slice aKx nKx kKx)) _ _ _ _ := bS.farP (by omega) _ _
          replace PB : Prs ((u10.setCell ⟨gbR, 0, none⟩ (.bool pK)).setCell ⟨gbR, 1, none⟩ (.slice aKx nKx kKx)) B f := (((Kp.refl gbR gbR u10).set (.inl rfl) _ _).set (.inl rfl) _ _).prs PB bR bR (by omega) (by omega)
          replace LsU : Ls ((u10.setCell ⟨gbR, 0, none⟩ (.bool pK)).setCell ⟨gbR, 1, none⟩ (.slice aKx nKx kKx)) _ _ := LsU.boxed bR (nb _) (ns _ _ _) _
          replace LsT : Ls ((u10.setCell ⟨gbR, 0, none⟩ (.bool pK)).setCell ⟨gbR, 1, none⟩ (.slice aKx nKx kKx)) _ _ := LsT.boxed bR (nb _) (ns _ _ _) _
          replace LH : Lg ((u10.setCell ⟨gbR, 0, none⟩ (.bool pK)).setCell ⟨gbR, 1, none⟩ (.slice aKx nKx kKx)) _ _ := LH.put bR _ _ _ _
          replace LK : Lg ((u10.setCell ⟨gbR, 0, none⟩ (.bool pK)).setCell ⟨gbR, 1, none⟩ (.slice aKx nKx kKx)) _ _ := LK.put bR _ _ _ _
          replace e0 : ((u10.setCell ⟨gbR, 0, none⟩ (.bool pK)).setCell ⟨gbR, 1, none⟩ (.slice aKx nKx kKx)).cell? _ = _ := (((Kp.refl gbR gbR u10).set (.inl rfl) _ _).set (.inl rfl) _ _).cell e0 (by show g + 1 ≠ _; omega) (by show g + 1 ≠ _; omega)
          replace e1 : ((u10.setCell ⟨gbR, 0, none⟩ (.bool pK)).setCell ⟨gbR, 1, none⟩ (.slice aKx nKx kKx)).cell? _ = _ := (((Kp.refl gbR gbR u10).set (.inl rfl) _ _).set (.inl rfl) _ _).cell e1 (by show g + 1 ≠ _; omega) (by show g + 1 ≠ _; omega)
          replace e2 : ((u10.setCell ⟨gbR, 0, none⟩ (.bool pK)).setCell ⟨gbR, 1, none⟩ (.slice aKx nKx kKx)).cell? _ = _ := (((Kp.refl gbR gbR u10).set (.inl rfl) _ _).set (.inl rfl) _ _).cell e2 (by show g + 1 ≠ _; omega) (by show g + 1 ≠ _; omega)
          replace bR : Bx ((u10.setCell ⟨gbR, 0, none⟩ (.bool pK)).setCell ⟨gbR, 1, none⟩ (.slice aKx nKx kKx)) _ _ _ _ := bR.putP _ _
          replace hB : Below w.heap.size w ((u10.setCell ⟨gbR, 0, none⟩ (.bool pK)).setCell ⟨gbR, 1, none⟩ (.slice aKx nKx kKx)) := (hB.setCell gebR _).setCell gebR _
          generalize ((u10.setCell ⟨gbR, 0, none⟩ (.bool pK)).setCell ⟨gbR, 1, none⟩ (.slice aKx nKx kKx)) = v11p at *
          go_at_call 35
          refine (alike_true _ _ zH eH _ LH LK (by omega)).mono ?_
          rintro e u12 ⟨rfl, hb⟩
          have hk : Below v11p.heap.size v11p u12 := by (repeat (first | with_reducible exact Below.refl _ _ | with_reducible assumption | refine Below.alloc ?_ (by (try simp); try omega) _ | refine Below.setCell ?_ (by (try simp); try omega) _ | refine below_drewN ?_ _ | refine Below.drew ?_ | (with_reducible refine Below.trans ?_ (Below.mono (by assumption) (by (try simp); try omega)))))
          clear hb
          replace PB := PB.keep hk
          replace LsU := LsU.keep hk
          replace LsT := LsT.keep hk
          replace LH := LH.keep hk
          replace LK := LK.keep hk
          replace bA := bA.keep hk
          replace bB := bB.keep hk
          replace bS := bS.keep hk
          replace bR := bR.keep hk
          replace e0 := lkeep hk e0
          replace e1 := lkeep hk e1
          replace e2 := lkeep hk e2
          replace hB := hB.trans (hk.mono hB.size)
          clear hk
          clear LsU LsT LH LK bA bB bS bR
          go_wp2
          go_roundw
          case rel => first | exact ⟨k + 1, by simp, hk1, PB, ⟨e0, e1, e2⟩, hB⟩ | ((repeat apply Exists.intro); refine ⟨⟨k + 1, ?_, hk1, PB, ⟨e0, e1, e2⟩, hB⟩, rfl⟩; simp)
          case measure => simp [intOf]; omega
      · have heb : (eG == 0) = false := by rw [beq_eq_false_iff_ne]; exact he
        clear he
        clear XL YL bA bB bS bR
        go_wp2
        go_roundw
        case rel => first | exact ⟨k + 1, by simp, hk1, PB, ⟨e0, e1, e2⟩, hB⟩ | ((repeat apply Exists.intro); refine ⟨⟨k + 1, ?_, hk1, PB, ⟨e0, e1, e2⟩, hB⟩, rfl⟩; simp)
        case measure => simp [intOf]; omega
end Go.Proofs.YtoppdbgodceaiaaDoor
