/-
  The reference: Div, Int, for any long integers.
-/
import Derived.Test.YtoppdbgodceaiaaDoorLrJ
namespace Go.Proofs.YtoppdbgodceaiaaDoor
open Go.RowKit

/-- A quotient, a rest and an error. -/
def OkE2 (q r er : Int) (e : Ending) (w' : World) : Prop := ∃ p a n c p' a' n' c', e = .returned (.tuple #[.agg #[.bool p, .slice a n c], .agg #[.bool p', .slice a' n' c'], .int .i64 er]) ∧ Lg w' (.agg #[.bool p, .slice a n c]) q ∧ Lg w' (.agg #[.bool p', .slice a' n' c']) r
theorem okE2_zero (er : Int) (w : World) : OkE2 0 0 er (.returned (.tuple #[noL, noL, .int .i64 er])) w := ⟨_, _, _, _, _, _, _, _, rfl, Lg.zero w, Lg.zero w⟩

set_option maxRecDepth 100000 in
set_option maxHeartbeats 4000000 in
theorem rdiv_any (b1 b2 : Bool) (s1 s2 : Value) (l m : List Int) (er q r : Int) (w : World) (h1 : Ls w s1 l) (h2 : Ls w s2 m) (ll : l.length ≤ 2000) (lm : m.length ≤ 2000) (he : (if ckT (ckL b1 l) (ckL b2 m) = 0 then (if numL b2 m = 0 then 7 else 0) else 30) = er) (hq : q = if er = 0 then (numL b1 l).tdiv (numL b2 m) else 0) (hr : r = if er = 0 then (numL b1 l).tmod (numL b2 m) else 0) :
    Calls Tryd.prog 39 #[.agg #[.bool b1, s1], .agg #[.bool b2, s2]] w fun e w' => OkE2 q r er e w' ∧ Below w.heap.size w w' := by
  have hr1 := fun w h => rright_any b1 s1 l w h (by omega)
  have hr2 := fun w h => rright_any b2 s2 m w h (by omega)
  have h1' := h1
  have h2' := h2
  obtain ⟨pa, ca, rfl, _, _⟩ := h1'
  obtain ⟨pb, cb, rfl, _, _⟩ := h2'
  obtain ⟨n1, hn1⟩ : ∃ n1, l.length = n1 := ⟨_, rfl⟩
  obtain ⟨n2, hn2⟩ : ∃ n2, m.length = n2 := ⟨_, rfl⟩
  rw [hn1] at h1 hr1 ⊢
  rw [hn2] at h2 hr2 ⊢
  have hB : Below w.heap.size w ((((w.alloc (.cells #[.bool b1, .slice pa n1 ca] 24)).alloc (.cells #[.bool b2, .slice pb n2 cb] 24)).alloc (.cells #[.bool false, .slice none 0 0] 24)).alloc (.cells #[.bool false, .slice none 0 0] 24)) := by (repeat (first | with_reducible exact Below.refl _ _ | with_reducible assumption | refine Below.alloc ?_ (by (try simp); try omega) _ | refine Below.setCell ?_ (by (try simp); try omega) _ | refine below_drewN ?_ _ | refine Below.drew ?_ | (with_reducible refine Below.trans ?_ (Below.mono (by assumption) (by (try simp); try omega)))))
  have bA : Bx ((((w.alloc (.cells #[.bool b1, .slice pa n1 ca] 24)).alloc (.cells #[.bool b2, .slice pb n2 cb] 24)).alloc (.cells #[.bool false, .slice none 0 0] 24)).alloc (.cells #[.bool false, .slice none 0 0] 24)) (w.heap.size) (.bool b1) (.slice pa n1 ca) 24 := by exact ((((Bx.new w (.bool b1) (.slice pa n1 ca) 24).alloc (.cells #[.bool b2, .slice pb n2 cb] 24)).alloc (.cells #[.bool false, .slice none 0 0] 24)).alloc (.cells #[.bool false, .slice none 0 0] 24))
  have bB : Bx ((((w.alloc (.cells #[.bool b1, .slice pa n1 ca] 24)).alloc (.cells #[.bool b2, .slice pb n2 cb] 24)).alloc (.cells #[.bool false, .slice none 0 0] 24)).alloc (.cells #[.bool false, .slice none 0 0] 24)) (w.heap.size + 1) (.bool b2) (.slice pb n2 cb) 24 := by have := (((Bx.new (w.alloc (.cells #[.bool b1, .slice pa n1 ca] 24)) (.bool b2) (.slice pb n2 cb) 24).alloc (.cells #[.bool false, .slice none 0 0] 24)).alloc (.cells #[.bool false, .slice none 0 0] 24)); simpa using this
  have bR0 : Bx ((((w.alloc (.cells #[.bool b1, .slice pa n1 ca] 24)).alloc (.cells #[.bool b2, .slice pb n2 cb] 24)).alloc (.cells #[.bool false, .slice none 0 0] 24)).alloc (.cells #[.bool false, .slice none 0 0] 24)) (w.heap.size + 1 + 1) (.bool false) (.slice none 0 0) 24 := by have := ((Bx.new ((w.alloc (.cells #[.bool b1, .slice pa n1 ca] 24)).alloc (.cells #[.bool b2, .slice pb n2 cb] 24)) (.bool false) (.slice none 0 0) 24).alloc (.cells #[.bool false, .slice none 0 0] 24)); simpa using this
  have bR1 : Bx ((((w.alloc (.cells #[.bool b1, .slice pa n1 ca] 24)).alloc (.cells #[.bool b2, .slice pb n2 cb] 24)).alloc (.cells #[.bool false, .slice none 0 0] 24)).alloc (.cells #[.bool false, .slice none 0 0] 24)) (w.heap.size + 1 + 1 + 1) (.bool false) (.slice none 0 0) 24 := by have := (Bx.new (((w.alloc (.cells #[.bool b1, .slice pa n1 ca] 24)).alloc (.cells #[.bool b2, .slice pb n2 cb] 24)).alloc (.cells #[.bool false, .slice none 0 0] 24)) (.bool false) (.slice none 0 0) 24); simpa using this
  have rbA0 := bA.c0
  have rbA1 := bA.c1
  have rbB0 := bB.c0
  have rbB1 := bB.c1
  replace h1 := h1.keep hB
  replace h2 := h2.keep hB
  rcases ckB b1 l with c1 | c1
  · rcases ckB b2 m with c2 | c2
    · rw [c1, c2, show ckT 0 0 = 0 from rfl, if_pos rfl] at he
      have LA := lg_any h1 c1
      have LB := lg_any h2 c2
      have hDB := LB.2
      rw [hn2] at hDB
      have hcl := fun w h h' y0 => rparts_num (.agg #[.bool b1, .slice pa n1 ca]) (.agg #[.bool b2, .slice pb n2 cb]) (numL b1 l) (numL b2 m) w h h' y0 (by omega) (by omega)
      replace LA := LA.1
      replace LB := LB.1
      rw [c1, dec00] at hr1
      rw [c2, dec00] at hr2
      clear c1 c2
      generalize numL b1 l = x at *
      generalize numL b2 m = y at *
      by_cases hy : y = 0
      · rw [if_pos hy] at he
        obtain rfl : (7 : Int) = er := he
        rw [if_neg (by omega)] at hq hr
        subst hq hr
        subst hy
        rw [Dl_zero] at hDB
        subst hDB
        clear hcl LA LB
        go_enter Tryd.func39, Tryd.ntmps39
        go_wp2_with fail
        go_at_call 66
        refine (hr1 _ h1).mono ?_
        rintro e u1 ⟨rfl, hb⟩
        replace bA := bA.keep hb
        replace bB := bB.keep hb
        replace bR0 := bR0.keep hb
        replace bR1 := bR1.keep hb
        replace h1 := h1.keep hb
        replace h2 := h2.keep hb
        replace hB := hB.trans (hb.mono hB.size)
        replace rbA0 := lkeep hb rbA0
        replace rbA1 := lkeep hb rbA1
        replace rbB0 := lkeep hb rbB0
        replace rbB1 := lkeep hb rbB1
        clear hb
        go_wp2_with fail
        go_at_call 66
        refine (hr2 _ h2).mono ?_
        rintro e u2 ⟨rfl, hb⟩
        replace bA := bA.keep hb
        replace bB := bB.keep hb
        replace bR0 := bR0.keep hb
        replace bR1 := bR1.keep hb
        replace h1 := h1.keep hb
        replace h2 := h2.keep hb
        replace hB := hB.trans (hb.mono hB.size)
        replace rbA0 := lkeep hb rbA0
        replace rbA1 := lkeep hb rbA1
        replace rbB0 := lkeep hb rbB0
        replace rbB1 := lkeep hb rbB1
        clear hb
        have rbR00 := bR0.c0
        have rbR01 := bR0.c1
        have zbR00 := bR0.f 0
        have zbR01 := bR0.f 1
        have lbR0 := bR0.lt
        have rbR10 := bR1.c0
        have rbR11 := bR1.c1
        have zbR10 := bR1.f 0
        have zbR11 := bR1.f 1
        have lbR1 := bR1.lt
        go_wp2
        refine bodyPost_ret (v := .tuple #[.agg #[.bool false, .slice none 0 0], .agg #[.bool false, .slice none 0 0], .int .i64 7]) (by simp [results, Tryd.results39, go_sem, rbR00, rbR01, zbR00, zbR01, lbR0, rbR10, rbR11, zbR10, zbR11, lbR1]) rfl ⟨okE2_zero 7 _, by (repeat (first | with_reducible exact Below.refl _ _ | with_reducible assumption | refine Below.alloc ?_ (by (try simp); try omega) _ | refine Below.setCell ?_ (by (try simp); try omega) _ | refine below_drewN ?_ _ | refine Below.drew ?_ | (with_reducible refine Below.trans ?_ (Below.mono (by assumption) (by (try simp); try omega)))))⟩
      · rw [if_neg hy] at he
        obtain rfl : (0 : Int) = er := he
        rw [if_pos rfl] at hq hr
        have hpt := fun w h h' => hcl w h h' hy
        rw [← hq, ← hr] at hpt
        have hpos := Dl_pos hy
        rw [hDB] at hpos
        have k1 : ((n2 : Int) == 0) = false := by rw [beq_eq_false_iff_ne]; omega
        clear hcl hq hr hpos hy hDB
        go_enter Tryd.func39, Tryd.ntmps39
        go_wp2_with fail
        go_at_call 66
        refine (hr1 _ h1).mono ?_
        rintro e u1 ⟨rfl, hb⟩
        replace bA := bA.keep hb
        replace bB := bB.keep hb
        replace bR0 := bR0.keep hb
        replace bR1 := bR1.keep hb
        replace h1 := h1.keep hb
        replace h2 := h2.keep hb
        replace LA := LA.keep hb
        replace LB := LB.keep hb
        replace hB := hB.trans (hb.mono hB.size)
        replace rbA0 := lkeep hb rbA0
        replace rbA1 := lkeep hb rbA1
        replace rbB0 := lkeep hb rbB0
        replace rbB1 := lkeep hb rbB1
        clear hb
        go_wp2_with fail
        go_at_call 66
        refine (hr2 _ h2).mono ?_
        rintro e u2 ⟨rfl, hb⟩
        replace bA := bA.keep hb
        replace bB := bB.keep hb
        replace bR0 := bR0.keep hb
        replace bR1 := bR1.keep hb
        replace h1 := h1.keep hb
        replace h2 := h2.keep hb
        replace LA := LA.keep hb
        replace LB := LB.keep hb
        replace hB := hB.trans (hb.mono hB.size)
        replace rbA0 := lkeep hb rbA0
        replace rbA1 := lkeep hb rbA1
        replace rbB0 := lkeep hb rbB0
        replace rbB1 := lkeep hb rbB1
        clear hb
        go_wp2_with fail
        go_at_call 79
        refine (hpt _ LA LB).mono ?_
        rintro e u3 ⟨⟨p3, a3, n3, c3, p4, a4, n4, c4, rfl, L3, L4⟩, hb⟩
        replace bR0 := bR0.keep hb
        replace bR1 := bR1.keep hb
        replace hB := hB.trans (hb.mono hB.size)
        have lR := bR1.lt
        clear hb LA LB h1 h2 hr1 hr2 hpt bA bB rbA0 rbA1 rbB0 rbB1
        have hX : Below u3.heap.size u3 ((u3.alloc (.cells #[.bool p3, .slice a3 n3 c3] 24)).alloc (.cells #[.bool p4, .slice a4 n4 c4] 24)) := by (repeat (first | with_reducible exact Below.refl _ _ | with_reducible assumption | refine Below.alloc ?_ (by (try simp); try omega) _ | refine Below.setCell ?_ (by (try simp); try omega) _ | refine below_drewN ?_ _ | refine Below.drew ?_ | (with_reducible refine Below.trans ?_ (Below.mono (by assumption) (by (try simp); try omega)))))
        have bQ : Bx ((u3.alloc (.cells #[.bool p3, .slice a3 n3 c3] 24)).alloc (.cells #[.bool p4, .slice a4 n4 c4] 24)) (u3.heap.size) (.bool p3) (.slice a3 n3 c3) 24 := by exact ((Bx.new u3 (.bool p3) (.slice a3 n3 c3) 24).alloc (.cells #[.bool p4, .slice a4 n4 c4] 24))
        have bS : Bx ((u3.alloc (.cells #[.bool p3, .slice a3 n3 c3] 24)).alloc (.cells #[.bool p4, .slice a4 n4 c4] 24)) (u3.heap.size + 1) (.bool p4) (.slice a4 n4 c4) 24 := by have := (Bx.new (u3.alloc (.cells #[.bool p3, .slice a3 n3 c3] 24)) (.bool p4) (.slice a4 n4 c4) 24); simpa using this
        go_wp2_with fail
        replace bR0 := bR0.keep hX
        replace bR1 := bR1.keep hX
        replace L3 := L3.keep hX
        replace L4 := L4.keep hX
        replace hB := hB.trans (hX.mono hB.size)
        clear hX
        generalize ((u3.alloc (.cells #[.bool p3, .slice a3 n3 c3] 24)).alloc (.cells #[.bool p4, .slice a4 n4 c4] 24)) = v4 at *
        obtain ⟨gQ, hgQ⟩ : ∃ gQ, u3.heap.size = gQ := ⟨_, rfl⟩
        rw [hgQ] at bQ bS lR
        simp only [hgQ]
        have lQ : w.heap.size + 1 + 1 < gQ := by omega
        have rbR00 := bR0.c0
        have rbR01 := bR0.c1
        have zbR00 := bR0.f 0
        have zbR01 := bR0.f 1
        have lbR0 := bR0.lt
        have rbR10 := bR1.c0
        have rbR11 := bR1.c1
        have zbR10 := bR1.f 0
        have zbR11 := bR1.f 1
        have lbR1 := bR1.lt
        have rbQ0 := bQ.c0
        have rbQ1 := bQ.c1
        have rbS0 := bS.c0
        have rbS1 := bS.c1
        have bR12 := bR1.farP (g := w.heap.size + 1 + 1) (by omega) (.bool p3) (.slice a3 n3 c3)
        have e3 := Lib.hid ((L3.put bR0 p3 a3 n3 c3).put bR12 p4 a4 n4 c4)
        have e4 := Lib.hid ((L4.put bR0 p3 a3 n3 c3).put bR12 p4 a4 n4 c4)
        clear hgQ L3 L4
        go_region
        all_goals
          go_wp2
          refine bodyPost_ret (v := .tuple #[.agg #[.bool p3, .slice a3 n3 c3], .agg #[.bool p4, .slice a4 n4 c4], .int .i64 0]) (by simp [results, Tryd.results39, go_sem, rbR00, rbR01, zbR00, zbR01, lbR0, rbR10, rbR11, zbR10, zbR11, lbR1]) rfl ⟨⟨_, _, _, _, _, _, _, _, rfl, e3.out, e4.out⟩, by (repeat (first | with_reducible exact Below.refl _ _ | with_reducible assumption | refine Below.alloc ?_ (by (try simp); try omega) _ | refine Below.setCell ?_ (by (try simp); try omega) _ | refine below_drewN ?_ _ | refine Below.drew ?_ | (with_reducible refine Below.trans ?_ (Below.mono (by assumption) (by (try simp); try omega)))))⟩
    · rw [c1, c2, show ckT 0 30 = 30 from rfl, if_neg (by decide)] at he
      obtain rfl : (30 : Int) = er := he
      rw [if_neg (by omega)] at hq hr
      subst hq hr
      rw [c1, dec00] at hr1
      rw [c2, dec30] at hr2
      clear c1 c2
      go_enter Tryd.func39, Tryd.ntmps39
      go_wp2_with fail
      go_at_call 66
      refine (hr1 _ h1).mono ?_
      rintro e u1 ⟨rfl, hb⟩
      replace bA := bA.keep hb
      replace bB := bB.keep hb
      replace bR0 := bR0.keep hb
      replace bR1 := bR1.keep hb
      replace h1 := h1.keep hb
      replace h2 := h2.keep hb
      replace hB := hB.trans (hb.mono hB.size)
      replace rbA0 := lkeep hb rbA0
      replace rbA1 := lkeep hb rbA1
      replace rbB0 := lkeep hb rbB0
      replace rbB1 := lkeep hb rbB1
      clear hb
      go_wp2_with fail
      go_at_call 66
      refine (hr2 _ h2).mono ?_
      rintro e u2 ⟨rfl, hb⟩
      replace bA := bA.keep hb
      replace bB := bB.keep hb
      replace bR0 := bR0.keep hb
      replace bR1 := bR1.keep hb
      replace h1 := h1.keep hb
      replace h2 := h2.keep hb
      replace hB := hB.trans (hb.mono hB.size)
      replace rbA0 := lkeep hb rbA0
      replace rbA1 := lkeep hb rbA1
      replace rbB0 := lkeep hb rbB0
      replace rbB1 := lkeep hb rbB1
      clear hb
      have rbR00 := bR0.c0
      have rbR01 := bR0.c1
      have zbR00 := bR0.f 0
      have zbR01 := bR0.f 1
      have lbR0 := bR0.lt
      have rbR10 := bR1.c0
      have rbR11 := bR1.c1
      have zbR10 := bR1.f 0
      have zbR11 := bR1.f 1
      have lbR1 := bR1.lt
      go_wp2
      refine bodyPost_ret (v := .tuple #[.agg #[.bool false, .slice none 0 0], .agg #[.bool false, .slice none 0 0], .int .i64 30]) (by simp [results, Tryd.results39, go_sem, rbR00, rbR01, zbR00, zbR01, lbR0, rbR10, rbR11, zbR10, zbR11, lbR1]) rfl ⟨okE2_zero 30 _, by (repeat (first | with_reducible exact Below.refl _ _ | with_reducible assumption | refine Below.alloc ?_ (by (try simp); try omega) _ | refine Below.setCell ?_ (by (try simp); try omega) _ | refine below_drewN ?_ _ | refine Below.drew ?_ | (with_reducible refine Below.trans ?_ (Below.mono (by assumption) (by (try simp); try omega)))))⟩
  · have hk : ckT (ckL b1 l) (ckL b2 m) = 30 := by unfold ckT; rw [c1]; rfl
    rw [hk, if_neg (by decide)] at he
    obtain rfl : (30 : Int) = er := he
    rw [if_neg (by omega)] at hq hr
    subst hq hr
    rw [c1, dec30] at hr1
    clear c1 hk
    go_enter Tryd.func39, Tryd.ntmps39
    go_wp2_with fail
    go_at_call 66
    refine (hr1 _ h1).mono ?_
    rintro e u1 ⟨rfl, hb⟩
    replace bA := bA.keep hb
    replace bB := bB.keep hb
    replace bR0 := bR0.keep hb
    replace bR1 := bR1.keep hb
    replace h1 := h1.keep hb
    replace h2 := h2.keep hb
    replace hB := hB.trans (hb.mono hB.size)
    replace rbA0 := lkeep hb rbA0
    replace rbA1 := lkeep hb rbA1
    replace rbB0 := lkeep hb rbB0
    replace rbB1 := lkeep hb rbB1
    clear hb
    have rbR00 := bR0.c0
    have rbR01 := bR0.c1
    have zbR00 := bR0.f 0
    have zbR01 := bR0.f 1
    have lbR0 := bR0.lt
    have rbR10 := bR1.c0
    have rbR11 := bR1.c1
    have zbR10 := bR1.f 0
    have zbR11 := bR1.f 1
    have lbR1 := bR1.lt
    go_wp2
    refine bodyPost_ret (v := .tuple #[.agg #[.bool false, .slice none 0 0], .agg #[.bool false, .slice none 0 0], .int .i64 30]) (by simp [results, Tryd.results39, go_sem, rbR00, rbR01, zbR00, zbR01, lbR0, rbR10, rbR11, zbR10, zbR11, lbR1]) rfl ⟨okE2_zero 30 _, by (repeat (first | with_reducible exact Below.refl _ _ | with_reducible assumption | refine Below.alloc ?_ (by (try simp); try omega) _ | refine Below.setCell ?_ (by (try simp); try omega) _ | refine below_drewN ?_ _ | refine Below.drew ?_ | (with_reducible refine Below.trans ?_ (Below.mono (by assumption) (by (try simp); try omega)))))⟩
end Go.Proofs.YtoppdbgodceaiaaDoor
