/-
  PolyMeans answers true.
-/
import Derived.Test.YtdaignklmbmcnaaPyX
import Derived.Test.YtdaignklmbmcnaaPyF
import Derived.Test.YtdaignklmbmcnaaPyN
import Derived.LoopN
namespace Go.Proofs.Ytdaignklmbmcnaa
open Go.RowKit

theorem B2.alloc {w : World} {b : Nat} {x y : Int} (h : B2 w b x y) (o : Obj) : B2 (w.alloc o) b x y := h.keep ((Below.refl _ _).alloc (Nat.le_refl _) o)
theorem B2.new (w : World) (x y : Int) (t : TypeId) : B2 (w.alloc (.cells #[.int .i64 x, .int .i64 y] t)) w.heap.size x y := ⟨by simp, by simp⟩
theorem Sn.alloc {w : World} {v : Value} {l : List (Int × Int)} (h : Sn w v l) (o : Obj) : Sn (w.alloc o) v l := h.keep ((Below.refl _ _).alloc (Nat.le_refl _) o)
/-- The coefficients, k of which have their upper end put down. -/
def MnC (g n : Nat) (r : List (Int × Int)) (k : Nat) (W : World) : Prop :=
  ∀ j, j < n → W.cell? ⟨g, j * 2, none⟩ = some (.int .i64 (pf r j).1) ∧ W.cell? ⟨g, j * 2 + 1, none⟩ = some (.int .i64 (if j < k then (pf r j).1 else (pf r j).2)) ∧ W.frozen? ⟨g, j * 2, none⟩ = false ∧ W.frozen? ⟨g, j * 2 + 1, none⟩ = false
theorem MnC.keep {g n : Nat} {r : List (Int × Int)} {k : Nat} {W W' : World} (h : MnC g n r k W) (hb : Below W.heap.size W W') : MnC g n r k W' := fun j hj => by
  obtain ⟨h0, h1, h2, h3⟩ := h j hj
  have hl := World.block_lt_of_cell? W _ h0
  simp at hl
  exact ⟨bkeep hb h0, bkeep hb h1, (hb.frozen (p := ⟨g, j * 2, none⟩) hl).trans h2, (hb.frozen (p := ⟨g, j * 2 + 1, none⟩) hl).trans h3⟩
theorem MnC.own {W : World} {base : Nat} {e : TypeId} {g cap : Nat} {r : List (Int × Int)} (h : W.ownsRow base e 2 (.slice (some ⟨g, 0, none⟩) r.length cap) r.length (rowOf r)) : MnC g r.length r 0 W := fun j hj => by
  obtain ⟨g0, g1⟩ := rowOf_at r j hj
  rw [h.cellAt (j * 2) (by omega), h.cellAt (j * 2 + 1) (by omega), h.frozenAt, h.frozenAt, if_neg (by omega)]
  exact ⟨g0, g1, rfl, rfl⟩
theorem MnC.set {g n : Nat} {r : List (Int × Int)} {k : Nat} {W : World} (h : MnC g n r k W) (hk : k < n) (a : Int) (e : (pf r k).1 = a) : MnC g n r (k + 1) (W.setCell ⟨g, k * 2 + 1, none⟩ (.int .i64 a)) := fun j hj => by
  obtain ⟨h0, h1, h2, h3⟩ := h j hj
  simp only [World.frozen?_setCell]
  rw [World.cell?_setCell_other _ _ _ _ (by simp <;> omega)]
  refine ⟨h0, ?_, h2, h3⟩
  by_cases hjk : j = k
  · subst hjk
    rw [World.cell?_setCell_same _ _ _ h1, if_pos (by omega), e]
  · rw [World.cell?_setCell_other _ _ _ _ (by simp <;> omega), h1]
    by_cases c : j < k
    · rw [if_pos c, if_pos (by omega)]
    · rw [if_neg c, if_neg (by omega)]
theorem pf_pin (r : List (Int × Int)) (i : Nat) (h : i < r.length) : pf (pin r) i = ((pf r i).1, (pf r i).1) := by
  simp [pf, pin, List.getD_eq_getElem?_getD, List.getElem?_eq_getElem h]
theorem MnC.sn {g cap : Nat} {r : List (Int × Int)} {W : World} (h : MnC g r.length r r.length W) (hc : r.length ≤ cap) : Sn W (.slice (some ⟨g, 0, none⟩) r.length cap) (pin r) := by
  refine ⟨_, cap, by rw [pin_length], ⟨by rw [pin_length]; exact hc, fun h => by cases h⟩, fun _ => ⟨g, 0, rfl, fun i hi => ?_⟩⟩
  rw [pin_length] at hi
  obtain ⟨h0, h1, _⟩ := h i hi
  rw [if_pos hi] at h1
  rw [Nat.zero_add, pf_pin r i hi]
  exact ⟨h0, h1⟩
theorem Sn.eval {w : World} {v : Value} {l : List (Int × Int)} {x y a b c : Int} (h : Sn w v l) (e : evR l x y = (a, b, c)) : Calls Try.prog 13 #[v, .agg #[.int .i64 x, .int .i64 y]] w fun r w' => r = .returned (.tuple #[.agg #[.int .i64 a, .int .i64 b], .int .i64 c]) ∧ Below w.heap.size w w' := by
  have := polyEval_any v l x y w h
  rw [e] at this; exact this
theorem Sn.slope {w : World} {v : Value} {l : List (Int × Int)} {x y a b c : Int} (h : Sn w v l) (e : slR l x y = (a, b, c)) : Calls Try.prog 15 #[v, .agg #[.int .i64 x, .int .i64 y]] w fun r w' => r = .returned (.tuple #[.agg #[.int .i64 a, .int .i64 b], .int .i64 c]) ∧ Below w.heap.size w w' := by
  have := polySlope_any v l x y w h
  rw [e] at this; exact this
theorem sSub_eq {a b c d x y z : Int} (w : World) (e : sSubR a b c d = (x, y, z)) : Calls Try.prog 20 #[.agg #[.int .i64 a, .int .i64 b], .agg #[.int .i64 c, .int .i64 d]] w fun r w' => r = .returned (.tuple #[.agg #[.int .i64 x, .int .i64 y], .int .i64 z]) ∧ Below w.heap.size w w' := by
  have := sSub_any a b c d w
  rw [e] at this; exact this
theorem sMul_eq {a b c d x y z : Int} (w : World) (e : sMulR a b c d = (x, y, z)) : Calls Try.prog 21 #[.agg #[.int .i64 a, .int .i64 b], .agg #[.int .i64 c, .int .i64 d]] w fun r w' => r = .returned (.tuple #[.agg #[.int .i64 x, .int .i64 y], .int .i64 z]) ∧ Below w.heap.size w w' := by
  have := sMul_any a b c d w
  rw [e] at this; exact this
theorem sMeet_eq {a b c d x y z : Int} (w : World) (e : sMeetR a b c d = (x, y, z)) : Calls Try.prog 22 #[.agg #[.int .i64 a, .int .i64 b], .agg #[.int .i64 c, .int .i64 d]] w fun r w' => r = .returned (.tuple #[.agg #[.int .i64 x, .int .i64 y], .int .i64 z]) ∧ Below w.heap.size w w' := by
  have := sMeet_any a b c d w
  rw [e] at this; exact this

set_option maxRecDepth 100000 in
set_option maxHeartbeats 4000000 in
theorem polyMeans_true (va : Value) (D : List (Int × Int × Int)) (s0 t0 : Int) (w : World) (ha : Dn w va D) :
    Calls Try.prog 7 #[va, .int .i64 s0, .int .i64 t0] w fun r w' => r = .returned (.bool true) ∧ Below w.heap.size w w' := by
  obtain ⟨s, hs⟩ : ∃ s, s0.tmod 68719476736 = s := ⟨_, rfl⟩
  obtain ⟨t, ht⟩ : ∃ t, t0.tmod 68719476736 = t := ⟨_, rfl⟩
  have bs := tmod_bd s0 68719476736 (by omega)
  have bt := tmod_bd t0 68719476736 (by omega)
  rw [hs] at bs
  rw [ht] at bt
  go_enter Try.func7, Try.ntmps7
  go_wp2_with fail
  go_at_call 9
  refine (works_true _).mono ?_
  rintro e w1 ⟨rfl, hb1⟩
  have ha1 := ha.keep hb1
  clear ha
  go_wp2_with fail
  go_at_call 11
  refine (coefsS_any va D w1 ha1).mono ?_
  rintro e w2 ⟨hb2, u, r, rfl, hown, hlen, hsml, hnil⟩
  have hok : Ok r := fun c hc => (hsml c hc).ck
  have hl8 : r.length ≤ 8 := by omega
  clear hsml ha1
  have hB : Below w.heap.size w w2 := hb1.trans (hb2.mono hb1.size)
  have hform : ∃ p cap g, u = .slice p r.length cap ∧ (r.length ≤ cap ∧ (p = none → cap = 0)) ∧ (0 < r.length → p = some ⟨g, 0, none⟩ ∧ w1.heap.size ≤ g ∧ g < w2.heap.size ∧ MnC g r.length r 0 w2) := by
    by_cases h0 : r = []
    · exact ⟨none, 0, 0, by rw [hnil h0, h0]; rfl, by rw [h0]; exact ⟨Nat.le_refl _, fun _ => rfl⟩, fun h => by rw [h0] at h; exact absurd h (by simp)⟩
    · have hp : 0 < r.length := by cases r with
        | nil => exact absurd rfl h0
        | cons _ _ => simp
      have hown' := hown
      rcases hown.2 with ⟨_, h⟩ | ⟨g, cap, cur, h, hg, hh, hc, _⟩
      · omega
      · rw [h] at hown'
        exact ⟨some ⟨g, 0, none⟩, cap, g, h, ⟨hc, fun h => by cases h⟩, fun _ => ⟨rfl, hg, (Array.getElem?_eq_some_iff.1 hh).1, MnC.own hown'⟩⟩
  have hz1 := hb1.size
  clear hb1 hb2 hnil hlen hown
  obtain ⟨p, cap, g, rfl, hcap, hg⟩ := hform
  obtain ⟨n, hn⟩ : ∃ n, r.length = n := ⟨_, rfl⟩
  have hend : ∀ W, (0 < n → p = some ⟨g, 0, none⟩ ∧ MnC g n r n W) → Sn W (.slice p n cap) (pin r) := fun W h => by
    subst hn
    by_cases h0 : 0 < r.length
    · obtain ⟨rfl, h2⟩ := h h0
      exact h2.sn hcap.1
    · exact ⟨p, cap, by rw [pin_length], by rw [pin_length]; exact hcap, fun h => by rw [pin_length] at h; exact absurd h h0⟩
  have means := fun (v0 v1 q0 q1 d0 d1 r0 r1 y0 y1 m0 m1 : Int) (ev : evR (pin r) s s = (v0, v1, 0)) ew es er ey em => means_ok (l := r) (s := s) (t := t) hl8 hok (by omega) (by omega) (by omega) (by omega) (v0 := v0) (v1 := v1) (w0 := q0) (w1 := q1) (d0 := d0) (d1 := d1) (r0 := r0) (r1 := r1) (y0 := y0) (y1 := y1) (m0 := m0) (m1 := m1) ev ew es er ey em
  have Hm := Lib.hid means
  clear means
  rw [hn] at hl8 hg hcap ⊢
  replace hn := Lib.hid hn
  have b0 : B2 (w2.alloc (.cells #[.int .i64 s, .int .i64 s] 24)) w2.heap.size s s := B2.new _ _ _ _
  have b1 : B2 ((w2.alloc (.cells #[.int .i64 s, .int .i64 s] 24)).alloc (.cells #[.int .i64 t, .int .i64 t] 24)) w2.heap.size s s := b0.alloc _
  have b2 : B2 ((w2.alloc (.cells #[.int .i64 s, .int .i64 s] 24)).alloc (.cells #[.int .i64 t, .int .i64 t] 24)) (w2.heap.size + 1) t t := by
    have := B2.new (w2.alloc (.cells #[.int .i64 s, .int .i64 s] 24)) t t 24
    rw [World.size_alloc] at this; exact this
  have hg' : 0 < n → p = some ⟨g, 0, none⟩ ∧ w1.heap.size ≤ g ∧ g < w2.heap.size ∧ MnC g n r 0 ((w2.alloc (.cells #[.int .i64 s, .int .i64 s] 24)).alloc (.cells #[.int .i64 t, .int .i64 t] 24)) := fun h => by
    obtain ⟨h1, h2, h3, h4⟩ := hg h
    exact ⟨h1, h2, h3, h4.keep (((Below.refl _ _).alloc (Nat.le_refl _) _).alloc (by simp) _)⟩
  have hB2 : Below w.heap.size w ((w2.alloc (.cells #[.int .i64 s, .int .i64 s] 24)).alloc (.cells #[.int .i64 t, .int .i64 t] 24)) := (hB.alloc hB.size _).alloc (by have := hB.size; simp; omega) _
  clear b0 hg hB
  replace hs := Lib.hid hs
  replace ht := Lib.hid ht
  have hs1 : s0.tmod 68719476736 = s := hs.out
  have ht1 : t0.tmod 68719476736 = t := ht.out
  go_wp2
  clear hs1 ht1
  go_loopw [36] (fun i wr => ∃ k : Nat, i = .int .i64 k ∧ k ≤ n ∧ (0 < n → p = some ⟨g, 0, none⟩ ∧ w1.heap.size ≤ g ∧ g < w2.heap.size ∧ MnC g n r k wr) ∧ B2 wr w2.heap.size s s ∧ B2 wr (w2.heap.size + 1) t t ∧ Below w.heap.size w wr)
    (fun i _ => n - (intOf i).toNat)
  case atStart => exact ⟨0, by simp, Nat.zero_le _, hg', b1, b2, hB2⟩
  case round =>
    clear hg' b1 b2 hB2
    obtain ⟨k, rfl, hk, hg, q1, q2, hB⟩ := hrel
    by_cases hk' : k < n
    · obtain ⟨rfl, hg1, hg2, hM⟩ := hg (by omega)
      obtain ⟨c0, c1, f0, f1⟩ := hM k hk'
      have hset := fun a e => hM.set hk' a e
      have e0 : (pf r k).1 = (pf r k).1 := rfl
      obtain ⟨x, hx⟩ : ∃ x, (pf r k).1 = x := ⟨_, rfl⟩
      replace hset := hset x hx
      rw [hx] at c0
      rw [if_neg (by omega)] at c1
      replace hx := Lib.hid hx
      clear hM hg hend e0
      have qq1 : B2 (wr.setCell ⟨g, k * 2 + 1, none⟩ (.int .i64 x)) w2.heap.size s s := ⟨by rw [World.cell?_setCell_other _ _ _ _ (by simp <;> omega)]; exact q1.1, by rw [World.cell?_setCell_other _ _ _ _ (by simp <;> omega)]; exact q1.2⟩
      have qq2 : B2 (wr.setCell ⟨g, k * 2 + 1, none⟩ (.int .i64 x)) (w2.heap.size + 1) t t := ⟨by rw [World.cell?_setCell_other _ _ _ _ (by simp <;> omega)]; exact q2.1, by rw [World.cell?_setCell_other _ _ _ _ (by simp <;> omega)]; exact q2.2⟩
      have hB' : Below w.heap.size w (wr.setCell ⟨g, k * 2 + 1, none⟩ (.int .i64 x)) := hB.setCell (by simp; omega) _
      go_wp2
      go_roundw
      case rel => exact ⟨k + 1, by simp, by omega, fun _ => ⟨by simp, hg1, hg2, hset⟩, qq1, qq2, hB'⟩
      case measure => simp [intOf]; omega
    · obtain rfl : k = n := by omega
      have S0 : Sn wr (.slice p k cap) (pin r) := hend wr fun h => ⟨(hg h).1, (hg h).2.2.2⟩
      clear hg hend hcap
      generalize (.slice p k cap : Value) = U at *
      obtain ⟨⟨a0, a1, a2⟩, ea⟩ : ∃ q, evR (pin r) s s = q := ⟨_, rfl⟩
      obtain ⟨⟨b0, b1, b2⟩, eb⟩ : ∃ q, evR (pin r) t t = q := ⟨_, rfl⟩
      obtain ⟨⟨d0, d1, d2⟩, ed⟩ : ∃ q, slR (pin r) (min s t) (max s t) = q := ⟨_, rfl⟩
      replace ea := Lib.hid ea
      replace eb := Lib.hid eb
      replace ed := Lib.hid ed
      obtain ⟨mn, hmn⟩ : ∃ mn, min s t = mn := ⟨_, rfl⟩
      obtain ⟨mx, hmx⟩ : ∃ mx, max s t = mx := ⟨_, rfl⟩
      have c0_P0 := q1.1
      have c0_P1 := q1.2
      go_wp2_with fail
      go_at_call 13
      refine (S0.eval ea.out).mono ?_
      rintro e v0 ⟨rfl, hb⟩
      clear c0_P0 c0_P1
      replace q1 := (q1.keep hb).alloc (.cells #[.int .i64 a0, .int .i64 a1] 24)
      replace q2 := (q2.keep hb).alloc (.cells #[.int .i64 a0, .int .i64 a1] 24)
      have nA := B2.new v0 a0 a1 24
      replace S0 := (S0.keep hb).alloc (.cells #[.int .i64 a0, .int .i64 a1] 24)
      replace hB := (hB.trans (hb.mono hB.size)).alloc (hB.trans (hb.mono hB.size)).size (.cells #[.int .i64 a0, .int .i64 a1] 24)
      clear hb
      have c1_Q0 := q2.1
      have c1_Q1 := q2.2
      go_wp2_with fail
      go_at_call 13
      refine (S0.eval eb.out).mono ?_
      rintro e v1 ⟨rfl, hb⟩
      clear c1_Q0 c1_Q1
      replace q1 := (q1.keep hb).alloc (.cells #[.int .i64 b0, .int .i64 b1] 24)
      replace q2 := (q2.keep hb).alloc (.cells #[.int .i64 b0, .int .i64 b1] 24)
      replace nA := (nA.keep hb).alloc (.cells #[.int .i64 b0, .int .i64 b1] 24)
      have nB := B2.new v1 b0 b1 24
      replace S0 := (S0.keep hb).alloc (.cells #[.int .i64 b0, .int .i64 b1] 24)
      replace hB := (hB.trans (hb.mono hB.size)).alloc (hB.trans (hb.mono hB.size)).size (.cells #[.int .i64 b0, .int .i64 b1] 24)
      clear hb
      have ed1 : slR (pin r) mn mx = (d0, d1, d2) := by rw [← hmn, ← hmx]; exact ed.out
      replace ed1 := Lib.hid ed1
      go_wp2_with fail
      go_at_call 15
      refine (S0.slope ed1.out).mono ?_
      rintro e v2 ⟨rfl, hb⟩
      replace q1 := (q1.keep hb).alloc (.cells #[.int .i64 d0, .int .i64 d1] 24)
      replace q2 := (q2.keep hb).alloc (.cells #[.int .i64 d0, .int .i64 d1] 24)
      replace nA := (nA.keep hb).alloc (.cells #[.int .i64 d0, .int .i64 d1] 24)
      replace nB := (nB.keep hb).alloc (.cells #[.int .i64 d0, .int .i64 d1] 24)
      have nD := B2.new v2 d0 d1 24
      replace S0 := (S0.keep hb).alloc (.cells #[.int .i64 d0, .int .i64 d1] 24)
      replace hB := (hB.trans (hb.mono hB.size)).alloc (hB.trans (hb.mono hB.size)).size (.cells #[.int .i64 d0, .int .i64 d1] 24)
      clear hb
      clear S0 hmn hmx ed1
      by_cases za2 : a2 = 0
      · subst za2
        by_cases zb2 : b2 = 0
        · subst zb2
          by_cases zd2 : d2 = 0
          · subst zd2
            obtain ⟨⟨r0, r1, r2⟩, er⟩ : ∃ q, sSubR b0 b1 a0 a1 = q := ⟨_, rfl⟩
            obtain ⟨⟨y0, y1, y2⟩, ey⟩ : ∃ q, sSubR t t s s = q := ⟨_, rfl⟩
            obtain ⟨⟨m0, m1, m2⟩, em⟩ : ∃ q, sMulR d0 d1 y0 y1 = q := ⟨_, rfl⟩
            replace er := Lib.hid er
            replace ey := Lib.hid ey
            replace em := Lib.hid em
            have c3_B0 := nB.1
            have c3_B1 := nB.2
            have c3_A0 := nA.1
            have c3_A1 := nA.2
            go_wp2_with fail
            go_at_call 20
            refine (sSub_eq _ er.out).mono ?_
            rintro e v3 ⟨rfl, hb⟩
            clear c3_B0 c3_B1
            clear c3_A0 c3_A1
            replace q1 := (q1.keep hb).alloc (.cells #[.int .i64 r0, .int .i64 r1] 24)
            replace q2 := (q2.keep hb).alloc (.cells #[.int .i64 r0, .int .i64 r1] 24)
            replace nA := (nA.keep hb).alloc (.cells #[.int .i64 r0, .int .i64 r1] 24)
            replace nB := (nB.keep hb).alloc (.cells #[.int .i64 r0, .int .i64 r1] 24)
            replace nD := (nD.keep hb).alloc (.cells #[.int .i64 r0, .int .i64 r1] 24)
            have nR := B2.new v3 r0 r1 24
            replace hB := (hB.trans (hb.mono hB.size)).alloc (hB.trans (hb.mono hB.size)).size (.cells #[.int .i64 r0, .int .i64 r1] 24)
            clear hb
            have c4_Q0 := q2.1
            have c4_Q1 := q2.2
            have c4_P0 := q1.1
            have c4_P1 := q1.2
            go_wp2_with fail
            go_at_call 20
            refine (sSub_eq _ ey.out).mono ?_
            rintro e v4 ⟨rfl, hb⟩
            clear c4_Q0 c4_Q1
            clear c4_P0 c4_P1
            replace q1 := (q1.keep hb).alloc (.cells #[.int .i64 y0, .int .i64 y1] 24)
            replace q2 := (q2.keep hb).alloc (.cells #[.int .i64 y0, .int .i64 y1] 24)
            replace nA := (nA.keep hb).alloc (.cells #[.int .i64 y0, .int .i64 y1] 24)
            replace nB := (nB.keep hb).alloc (.cells #[.int .i64 y0, .int .i64 y1] 24)
            replace nD := (nD.keep hb).alloc (.cells #[.int .i64 y0, .int .i64 y1] 24)
            replace nR := (nR.keep hb).alloc (.cells #[.int .i64 y0, .int .i64 y1] 24)
            have nY := B2.new v4 y0 y1 24
            replace hB := (hB.trans (hb.mono hB.size)).alloc (hB.trans (hb.mono hB.size)).size (.cells #[.int .i64 y0, .int .i64 y1] 24)
            clear hb
            have c5_D0 := nD.1
            have c5_D1 := nD.2
            have c5_Y0 := nY.1
            have c5_Y1 := nY.2
            go_wp2_with fail
            go_at_call 21
            refine (sMul_eq _ em.out).mono ?_
            rintro e v5 ⟨rfl, hb⟩
            clear c5_D0 c5_D1
            clear c5_Y0 c5_Y1
            replace q1 := (q1.keep hb).alloc (.cells #[.int .i64 m0, .int .i64 m1] 24)
            replace q2 := (q2.keep hb).alloc (.cells #[.int .i64 m0, .int .i64 m1] 24)
            replace nA := (nA.keep hb).alloc (.cells #[.int .i64 m0, .int .i64 m1] 24)
            replace nB := (nB.keep hb).alloc (.cells #[.int .i64 m0, .int .i64 m1] 24)
            replace nD := (nD.keep hb).alloc (.cells #[.int .i64 m0, .int .i64 m1] 24)
            replace nR := (nR.keep hb).alloc (.cells #[.int .i64 m0, .int .i64 m1] 24)
            replace nY := (nY.keep hb).alloc (.cells #[.int .i64 m0, .int .i64 m1] 24)
            have nM := B2.new v5 m0 m1 24
            replace hB := (hB.trans (hb.mono hB.size)).alloc (hB.trans (hb.mono hB.size)).size (.cells #[.int .i64 m0, .int .i64 m1] 24)
            clear hb
            by_cases zr2 : r2 = 0
            · subst zr2
              by_cases zy2 : y2 = 0
              · subst zy2
                by_cases zm2 : m2 = 0
                · subst zm2
                  obtain ⟨⟨g0, g1, g2⟩, eg⟩ : ∃ q, sMeetR r0 r1 m0 m1 = q := ⟨_, rfl⟩
                  have hz : g2 = 0 := by have := Hm.out _ _ _ _ _ _ _ _ _ _ _ _ ea.out eb.out ed.out er.out ey.out em.out; rw [eg] at this; exact this
                  subst hz
                  replace eg := Lib.hid eg
                  have c6_R0 := nR.1
                  have c6_R1 := nR.2
                  have c6_M0 := nM.1
                  have c6_M1 := nM.2
                  go_wp2_with fail
                  go_at_call 22
                  refine (sMeet_eq _ eg.out).mono ?_
                  rintro e v6 ⟨rfl, hb⟩
                  clear c6_R0 c6_R1
                  clear c6_M0 c6_M1
                  replace hB := hB.trans (hb.mono hB.size)
                  clear hb
                  go_wp2
                  go_ret
                  exact ⟨rfl, hB⟩
                · have ym2 : (m2 != 0) = true := by simpa using zm2
                  go_wp2
                  go_ret
                  exact ⟨rfl, by (repeat (first | with_reducible exact Below.refl _ _ | with_reducible assumption | refine Below.alloc ?_ (by (try simp); try omega) _ | refine Below.setCell ?_ (by (try simp); try omega) _ | refine below_drewN ?_ _ | refine Below.drew ?_ | (with_reducible refine Below.trans ?_ (Below.mono (by assumption) (by (try simp); try omega)))))⟩
              · have yy2 : (y2 != 0) = true := by simpa using zy2
                go_wp2
                go_ret
                exact ⟨rfl, by (repeat (first | with_reducible exact Below.refl _ _ | with_reducible assumption | refine Below.alloc ?_ (by (try simp); try omega) _ | refine Below.setCell ?_ (by (try simp); try omega) _ | refine below_drewN ?_ _ | refine Below.drew ?_ | (with_reducible refine Below.trans ?_ (Below.mono (by assumption) (by (try simp); try omega)))))⟩
            · have yr2 : (r2 != 0) = true := by simpa using zr2
              go_wp2
              go_ret
              exact ⟨rfl, by (repeat (first | with_reducible exact Below.refl _ _ | with_reducible assumption | refine Below.alloc ?_ (by (try simp); try omega) _ | refine Below.setCell ?_ (by (try simp); try omega) _ | refine below_drewN ?_ _ | refine Below.drew ?_ | (with_reducible refine Below.trans ?_ (Below.mono (by assumption) (by (try simp); try omega)))))⟩
          · have yd2 : (d2 != 0) = true := by simpa using zd2
            go_wp2
            go_ret
            exact ⟨rfl, by (repeat (first | with_reducible exact Below.refl _ _ | with_reducible assumption | refine Below.alloc ?_ (by (try simp); try omega) _ | refine Below.setCell ?_ (by (try simp); try omega) _ | refine below_drewN ?_ _ | refine Below.drew ?_ | (with_reducible refine Below.trans ?_ (Below.mono (by assumption) (by (try simp); try omega)))))⟩
        · have yb2 : (b2 != 0) = true := by simpa using zb2
          go_wp2
          go_ret
          exact ⟨rfl, by (repeat (first | with_reducible exact Below.refl _ _ | with_reducible assumption | refine Below.alloc ?_ (by (try simp); try omega) _ | refine Below.setCell ?_ (by (try simp); try omega) _ | refine below_drewN ?_ _ | refine Below.drew ?_ | (with_reducible refine Below.trans ?_ (Below.mono (by assumption) (by (try simp); try omega)))))⟩
      · have ya2 : (a2 != 0) = true := by simpa using za2
        go_wp2
        go_ret
        exact ⟨rfl, by (repeat (first | with_reducible exact Below.refl _ _ | with_reducible assumption | refine Below.alloc ?_ (by (try simp); try omega) _ | refine Below.setCell ?_ (by (try simp); try omega) _ | refine below_drewN ?_ _ | refine Below.drew ?_ | (with_reducible refine Below.trans ?_ (Below.mono (by assumption) (by (try simp); try omega)))))⟩
end Go.Proofs.Ytdaignklmbmcnaa
