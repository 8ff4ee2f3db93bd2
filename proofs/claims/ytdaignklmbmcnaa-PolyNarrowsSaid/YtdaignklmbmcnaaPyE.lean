/-
  Package poly: Eval, Slope.
-/
import Derived.Test.YtdaignklmbmcnaaPyD
namespace Go.Proofs.Ytdaignklmbmcnaa
open Go.RowKit

theorem res2 {W : World} {b : Nat} {x y : Value} {w1 : World} (hb : Below W.heap.size W w1) (h0 : W.cell? ⟨b, 0, none⟩ = some x) (h1 : W.cell? ⟨b, 1, none⟩ = some y) (f0 : W.frozen? ⟨b, 0, none⟩ = false) (f1 : W.frozen? ⟨b, 1, none⟩ = false) :
    w1.cell? ⟨b, 0, none⟩ = some x ∧ w1.cell? ⟨b, 1, none⟩ = some y ∧ w1.frozen? ⟨b, 0, none⟩ = false ∧ w1.frozen? ⟨b, 1, none⟩ = false := by
  have hl := World.block_lt_of_cell? W _ h0
  simp at hl
  exact ⟨bkeep hb h0, bkeep hb h1, (hb.frozen (p := ⟨b, 0, none⟩) hl).trans f0, (hb.frozen (p := ⟨b, 1, none⟩) hl).trans f1⟩
set_option maxRecDepth 100000 in
set_option maxHeartbeats 1000000 in
theorem polyEval_any (va : Value) (l : List (Int × Int)) (x y : Int) (w : World) (ha : Sn w va l) :
    Calls Try.prog 13 #[va, .agg #[.int .i64 x, .int .i64 y]] w fun e w' => e = .returned (spV (evR l x y)) ∧ Below w.heap.size w w' := by
  have hc := fun w1 (hb : Below w.heap.size w w1) => pCheck_any va l x y w1 (ha.keep hb)
  by_cases z : ckL l x y = 0
  · have hv := fun w1 (hb : Below w.heap.size w w1) => value_any va l x y w1 (ha.keep hb) (ckL_zero z).1
    have hR := Lib.hid (show evR l x y = pvl x y l by unfold evR; rw [if_pos z])
    rw [z] at hc
    clear z ha
    generalize pvl x y l = m at *
    obtain ⟨m0, m1, m2⟩ := m
    have b0 := ((Below.refl w.heap.size w).alloc (Nat.le_refl _) (.cells #[.int .i64 x, .int .i64 y] 24)).alloc (by simp) (.cells #[.int .i64 0, .int .i64 0] 24)
    go_enter Try.func13, Try.ntmps13
    go_wp2_with fail
    go_at_call 28
    refine (hc _ b0).mono ?_
    rintro e w1 ⟨rfl, hb1⟩
    obtain ⟨r0, r1, r2, r3⟩ := res2 (b := w.heap.size + 1) (x := .int .i64 0) (y := .int .i64 0) hb1 (by simp) (by simp) (by simp) (by simp)
    have s0 : w1.cell? ⟨w.heap.size, 0, none⟩ = some (.int .i64 x) := bkeep hb1 (by simp)
    have s1 : w1.cell? ⟨w.heap.size, 1, none⟩ = some (.int .i64 y) := bkeep hb1 (by simp)
    have b1 : Below w.heap.size w w1 := b0.trans (hb1.mono (by simp; omega))
    go_wp2_with fail
    go_at_call 29
    refine (hv _ b1).mono ?_
    rintro e w2 ⟨rfl, hb2⟩
    obtain ⟨q0, q1, q2, q3⟩ := res2 (b := w.heap.size + 1) hb2 r0 r1 r2 r3
    skip
    go_wp2
    exact bodyPost_ret (v := .tuple #[.agg #[.int .i64 m0, .int .i64 m1], .int .i64 m2]) (by simp [results, Try.results13, go_sem, q0, q1]) rfl ⟨by rw [hR.out], by have := b1.size; (repeat (first | with_reducible exact Below.refl _ _ | with_reducible assumption | refine Below.alloc ?_ (by (try simp); try omega) _ | refine Below.setCell ?_ (by (try simp); try omega) _ | refine below_drewN ?_ _ | refine Below.drew ?_ | (with_reducible refine Below.trans ?_ (Below.mono (by assumption) (by (try simp); try omega)))))⟩
  · have hR := Lib.hid (show evR l x y = (0, 0, ckL l x y) by unfold evR; rw [if_neg z])
    generalize ckL l x y = c at *
    have z' : (c != 0) = true := by simpa using z
    have b0 := ((Below.refl w.heap.size w).alloc (Nat.le_refl _) (.cells #[.int .i64 x, .int .i64 y] 24)).alloc (by simp) (.cells #[.int .i64 0, .int .i64 0] 24)
    go_enter Try.func13, Try.ntmps13
    go_wp2_with fail
    go_at_call 28
    refine (hc _ b0).mono ?_
    rintro e w1 ⟨rfl, hb1⟩
    obtain ⟨r0, r1, r2, r3⟩ := res2 (b := w.heap.size + 1) (x := .int .i64 0) (y := .int .i64 0) hb1 (by simp) (by simp) (by simp) (by simp)
    have b1 : Below w.heap.size w w1 := b0.trans (hb1.mono (by simp; omega))
    skip
    go_wp2
    exact bodyPost_ret (v := .tuple #[.agg #[.int .i64 0, .int .i64 0], .int .i64 c]) (by simp [results, Try.results13, go_sem, r0, r1]) rfl ⟨by rw [hR.out], by (repeat (first | with_reducible exact Below.refl _ _ | with_reducible assumption | refine Below.alloc ?_ (by (try simp); try omega) _ | refine Below.setCell ?_ (by (try simp); try omega) _ | refine below_drewN ?_ _ | refine Below.drew ?_ | (with_reducible refine Below.trans ?_ (Below.mono (by assumption) (by (try simp); try omega)))))⟩
set_option maxRecDepth 100000 in
set_option maxHeartbeats 1000000 in
theorem polySlope_any (va : Value) (l : List (Int × Int)) (x y : Int) (w : World) (ha : Sn w va l) :
    Calls Try.prog 15 #[va, .agg #[.int .i64 x, .int .i64 y]] w fun e w' => e = .returned (spV (slR l x y)) ∧ Below w.heap.size w w' := by
  have hc := fun w1 (hb : Below w.heap.size w w1) => pCheck_any va l x y w1 (ha.keep hb)
  have b0 := ((Below.refl w.heap.size w).alloc (Nat.le_refl _) (.cells #[.int .i64 x, .int .i64 y] 24)).alloc (by simp) (.cells #[.int .i64 0, .int .i64 0] 24)
  by_cases z : ckL l x y = 0
  · have hl8 := (ckL_zero z).1
    have hd := fun w1 (hb : Below w.heap.size w w1) => derivative_any va l w1 (ha.keep hb) hl8
    have hl := scV_length 1 (l.drop 1)
    rw [List.length_drop] at hl
    have hl' : (scV 1 (l.drop 1)).length ≤ 8 := by omega
    rw [z] at hc
    by_cases ze : scE 1 (l.drop 1) = 0
    · have hR := Lib.hid (show slR l x y = pvl x y (scV 1 (l.drop 1)) by unfold slR; rw [if_pos z, if_pos ze])
      clear z ha hl hl8
      generalize l.drop 1 = r at *
      go_enter Try.func15, Try.ntmps15
      go_wp2_with fail
      go_at_call 28
      refine (hc _ b0).mono ?_
      rintro e w1 ⟨rfl, hb1⟩
      obtain ⟨r0, r1, r2, r3⟩ := res2 (b := w.heap.size + 1) (x := .int .i64 0) (y := .int .i64 0) hb1 (by simp) (by simp) (by simp) (by simp)
      have s0 : w1.cell? ⟨w.heap.size, 0, none⟩ = some (.int .i64 x) := bkeep hb1 (by simp)
      have s1 : w1.cell? ⟨w.heap.size, 1, none⟩ = some (.int .i64 y) := bkeep hb1 (by simp)
      have b1 : Below w.heap.size w w1 := b0.trans (hb1.mono (by simp; omega))
      go_wp2_with fail
      go_at_call 33
      refine (hd _ b1).mono ?_
      rintro e w2 ⟨hb2, u, rfl, hu⟩
      replace hu := hu ze
      rw [ze]
      obtain ⟨q0, q1, q2, q3⟩ := res2 (b := w.heap.size + 1) hb2 r0 r1 r2 r3
      have t0 := bkeep hb2 s0
      have t1 := bkeep hb2 s1
      have b2 : Below w.heap.size w w2 := b1.trans (hb2.mono b1.size)
      have hv := value_any u (scV 1 r) x y w2 hu hl'
      generalize pvl x y (scV 1 r) = m at *
      obtain ⟨m0, m1, m2⟩ := m
      clear b0 b1 r0 r1 r2 r3 s0 s1 hb1 hb2 hc hd hu
      replace ze := Lib.hid ze
      go_wp2_with fail
      go_at_call 29
      refine hv.mono ?_
      rintro e w3 ⟨rfl, hb3⟩
      obtain ⟨p0, p1, p2, p3⟩ := res2 (b := w.heap.size + 1) hb3 q0 q1 q2 q3
      have b3 : Below w.heap.size w w3 := b2.trans (hb3.mono b2.size)
      clear b2 hb3
      go_wp2
      exact bodyPost_ret (v := .tuple #[.agg #[.int .i64 m0, .int .i64 m1], .int .i64 m2]) (by simp [results, Try.results15, go_sem, p0, p1]) rfl ⟨by rw [hR.out], by (repeat (first | with_reducible exact Below.refl _ _ | with_reducible assumption | refine Below.alloc ?_ (by (try simp); try omega) _ | refine Below.setCell ?_ (by (try simp); try omega) _ | refine below_drewN ?_ _ | refine Below.drew ?_ | (with_reducible refine Below.trans ?_ (Below.mono (by assumption) (by (try simp); try omega)))))⟩
    · have hR := Lib.hid (show slR l x y = (0, 0, scE 1 (l.drop 1)) by unfold slR; rw [if_pos z, if_neg ze])
      clear z ha hl hl8
      generalize l.drop 1 = r at *
      generalize hcE : scE 1 r = c at *
      have z' : (c != 0) = true := by simpa using ze
      have hd' : ∀ w1, Below w.heap.size w w1 → Calls Try.prog 33 #[va] w1 fun e w' => ∃ u, e = .returned (.tuple #[u, .int .i64 c]) ∧ Below w1.heap.size w1 w' := fun w1 hb => (hd w1 hb).mono fun e w' ⟨h1, u, h2, _⟩ => ⟨u, by rw [h2, hcE], h1⟩
      clear hd hcE
      go_enter Try.func15, Try.ntmps15
      go_wp2_with fail
      go_at_call 28
      refine (hc _ b0).mono ?_
      rintro e w1 ⟨rfl, hb1⟩
      obtain ⟨r0, r1, r2, r3⟩ := res2 (b := w.heap.size + 1) (x := .int .i64 0) (y := .int .i64 0) hb1 (by simp) (by simp) (by simp) (by simp)
      have b1 : Below w.heap.size w w1 := b0.trans (hb1.mono (by simp; omega))
      go_wp2_with fail
      go_at_call 33
      refine (hd' _ b1).mono ?_
      rintro e w2 ⟨u, rfl, hb2⟩
      obtain ⟨q0, q1, q2, q3⟩ := res2 (b := w.heap.size + 1) hb2 r0 r1 r2 r3
      have b2 : Below w.heap.size w w2 := b1.trans (hb2.mono b1.size)
      clear b0 b1 hb1 hb2 hc hd'
      go_wp2
      exact bodyPost_ret (v := .tuple #[.agg #[.int .i64 0, .int .i64 0], .int .i64 c]) (by simp [results, Try.results15, go_sem, q0, q1]) rfl ⟨by rw [hR.out], by (repeat (first | with_reducible exact Below.refl _ _ | with_reducible assumption | refine Below.alloc ?_ (by (try simp); try omega) _ | refine Below.setCell ?_ (by (try simp); try omega) _ | refine below_drewN ?_ _ | refine Below.drew ?_ | (with_reducible refine Below.trans ?_ (Below.mono (by assumption) (by (try simp); try omega)))))⟩
  · have hR := Lib.hid (show slR l x y = (0, 0, ckL l x y) by unfold slR; rw [if_neg z])
    generalize ckL l x y = c at *
    have z' : (c != 0) = true := by simpa using z
    go_enter Try.func15, Try.ntmps15
    go_wp2_with fail
    go_at_call 28
    refine (hc _ b0).mono ?_
    rintro e w1 ⟨rfl, hb1⟩
    obtain ⟨r0, r1, r2, r3⟩ := res2 (b := w.heap.size + 1) (x := .int .i64 0) (y := .int .i64 0) hb1 (by simp) (by simp) (by simp) (by simp)
    have b1 : Below w.heap.size w w1 := b0.trans (hb1.mono (by simp; omega))
    skip
    go_wp2
    exact bodyPost_ret (v := .tuple #[.agg #[.int .i64 0, .int .i64 0], .int .i64 c]) (by simp [results, Try.results15, go_sem, r0, r1]) rfl ⟨by rw [hR.out], by (repeat (first | with_reducible exact Below.refl _ _ | with_reducible assumption | refine Below.alloc ?_ (by (try simp); try omega) _ | refine Below.setCell ?_ (by (try simp); try omega) _ | refine below_drewN ?_ _ | refine Below.drew ?_ | (with_reducible refine Below.trans ?_ (Below.mono (by assumption) (by (try simp); try omega)))))⟩
end Go.Proofs.Ytdaignklmbmcnaa
