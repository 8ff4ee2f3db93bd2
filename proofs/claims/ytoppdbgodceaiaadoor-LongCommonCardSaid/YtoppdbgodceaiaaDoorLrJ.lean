/-
  The reference: Cmp, Add, Sub, Neg, Mul, Div, Gcd, Sqrt, for any long integers.
-/
import Derived.Test.YtoppdbgodceaiaaDoorLrI
namespace Go.Proofs.YtoppdbgodceaiaaDoor
open Go.RowKit

theorem lg_any {w : World} {b : Bool} {s : Value} {l : List Int} (h : Ls w s l) (hc : ckL b l = 0) : Lg w (.agg #[.bool b, s]) (numL b l) ∧ Dl (numL b l) = l.length := by
  obtain ⟨e1, e2, _⟩ := ckL_lg hc
  exact ⟨⟨s, by rw [← e1], by rw [← e2]; exact h⟩, by unfold Dl; rw [← e2]⟩
theorem ckB (b : Bool) (l : List Int) : ckL b l = 0 ∨ ckL b l = 30 := by unfold ckL; split <;> simp
theorem ck_ok {b : Bool} {l : List Int} (h : ckL b l = 0) : okD l = true := by
  rcases ckL_cases b l with ⟨_, _, k, _⟩ | ⟨k, _⟩
  · exact k
  · rw [h] at k; cases k
theorem dec00 : decide ((0 : Int) = 0) = true := rfl
theorem dec30 : decide ((30 : Int) = 0) = false := rfl
theorem okE_zero (er : Int) (w : World) : OkE 0 er (.returned (.tuple #[noL, .int .i64 er])) w := ⟨_, _, _, _, rfl, Lg.zero w⟩
theorem OkE.keep {z er : Int} {e : Ending} {w w' : World} (h : OkE z er e w) (hb : Below w.heap.size w w') : OkE z er e w' := by
  obtain ⟨p, a, n, c, h1, h2⟩ := h
  exact ⟨p, a, n, c, h1, h2.keep hb⟩

set_option maxRecDepth 100000 in
set_option maxHeartbeats 2000000 in
theorem radd_any (b1 b2 : Bool) (s1 s2 : Value) (l m : List Int) (er z : Int) (w : World) (h1 : Ls w s1 l) (h2 : Ls w s2 m) (ll : l.length ≤ 2000) (lm : m.length ≤ 2000) (he : ckT (ckL b1 l) (ckL b2 m) = er) (hz : z = if er = 0 then numL b1 l + numL b2 m else 0) (hd : Dl z ≤ 600) :
    Calls Tryd.prog 30 #[.agg #[.bool b1, s1], .agg #[.bool b2, s2]] w fun e w' => OkE z er e w' ∧ Below w.heap.size w w' := by
  have hr1 := fun w h => rright_any b1 s1 l w h (by omega)
  have hr2 := fun w h => rright_any b2 s2 m w h (by omega)
  have h1' := h1
  have h2' := h2
  obtain ⟨pa, ca, rfl, _, _⟩ := h1'
  obtain ⟨pb, cb, rfl, _, _⟩ := h2'
  obtain ⟨n1, hn1⟩ : ∃ n1, l.length = n1 := ⟨_, rfl⟩
  obtain ⟨n2, hn2⟩ : ∃ n2, m.length = n2 := ⟨_, rfl⟩
  rw [hn1] at h1 hr1 ⊢
  rw [hn2] at h2 hr2 ⊢
  have hB : Below w.heap.size w (((w.alloc (.cells #[.bool b1, .slice pa n1 ca] 24)).alloc (.cells #[.bool b2, .slice pb n2 cb] 24)).alloc (.cells #[.bool false, .slice none 0 0] 24)) := by (repeat (first | with_reducible exact Below.refl _ _ | with_reducible assumption | refine Below.alloc ?_ (by (try simp); try omega) _ | refine Below.setCell ?_ (by (try simp); try omega) _ | refine below_drewN ?_ _ | refine Below.drew ?_ | (with_reducible refine Below.trans ?_ (Below.mono (by assumption) (by (try simp); try omega)))))
  have bA : Bx (((w.alloc (.cells #[.bool b1, .slice pa n1 ca] 24)).alloc (.cells #[.bool b2, .slice pb n2 cb] 24)).alloc (.cells #[.bool false, .slice none 0 0] 24)) (w.heap.size) (.bool b1) (.slice pa n1 ca) 24 := by exact (((Bx.new w (.bool b1) (.slice pa n1 ca) 24).alloc (.cells #[.bool b2, .slice pb n2 cb] 24)).alloc (.cells #[.bool false, .slice none 0 0] 24))
  have bB : Bx (((w.alloc (.cells #[.bool b1, .slice pa n1 ca] 24)).alloc (.cells #[.bool b2, .slice pb n2 cb] 24)).alloc (.cells #[.bool false, .slice none 0 0] 24)) (w.heap.size + 1) (.bool b2) (.slice pb n2 cb) 24 := by have := ((Bx.new (w.alloc (.cells #[.bool b1, .slice pa n1 ca] 24)) (.bool b2) (.slice pb n2 cb) 24).alloc (.cells #[.bool false, .slice none 0 0] 24)); simpa using this
  have bR0 : Bx (((w.alloc (.cells #[.bool b1, .slice pa n1 ca] 24)).alloc (.cells #[.bool b2, .slice pb n2 cb] 24)).alloc (.cells #[.bool false, .slice none 0 0] 24)) (w.heap.size + 1 + 1) (.bool false) (.slice none 0 0) 24 := by have := (Bx.new ((w.alloc (.cells #[.bool b1, .slice pa n1 ca] 24)).alloc (.cells #[.bool b2, .slice pb n2 cb] 24)) (.bool false) (.slice none 0 0) 24); simpa using this
  have rbA0 := bA.c0
  have rbA1 := bA.c1
  have rbB0 := bB.c0
  have rbB1 := bB.c1
  replace h1 := h1.keep hB
  replace h2 := h2.keep hB
  rcases ckB b1 l with c1 | c1
  · rcases ckB b2 m with c2 | c2
    · rw [c1, c2] at he
      obtain rfl : (0 : Int) = er := he
      rw [if_pos rfl] at hz
      have LA := lg_any h1 c1
      have LB := lg_any h2 c2
      have hcl := fun w h h' => rsum_num (.agg #[.bool b1, .slice pa n1 ca]) (.agg #[.bool b2, .slice pb n2 cb]) (numL b1 l) (numL b2 m) w h h' (by omega) (by omega)
      rw [← hz] at hcl
      replace LA := LA.1
      replace LB := LB.1
      rw [c1, dec00] at hr1
      rw [c2, dec00] at hr2
      clear c1 c2 hz
      generalize numL b1 l = x at *
      generalize numL b2 m = y at *
      go_enter Tryd.func30, Tryd.ntmps30
      go_wp2_with fail
      go_at_call 66
      refine (hr1 _ h1).mono ?_
      rintro e u1 ⟨rfl, hb⟩
      replace bA := bA.keep hb
      replace bB := bB.keep hb
      replace bR0 := bR0.keep hb
      replace h1 := h1.keep hb
      replace h2 := h2.keep hb
      replace LA := LA.keep hb
      replace LB := LB.keep hb
      replace hB := hB.trans (hb.mono hB.size)
      replace rbA0 := lkeep hb rbA0
      replace rbA1 := lkeep hb rbA1
      replace rbB0 := lkeep hb rbB0
      replace rbB1 := lkeep hb rbB1
      clear hb
      go_wp2_with fail
      go_at_call 66
      refine (hr2 _ h2).mono ?_
      rintro e u2 ⟨rfl, hb⟩
      replace bA := bA.keep hb
      replace bB := bB.keep hb
      replace bR0 := bR0.keep hb
      replace h1 := h1.keep hb
      replace h2 := h2.keep hb
      replace LA := LA.keep hb
      replace LB := LB.keep hb
      replace hB := hB.trans (hb.mono hB.size)
      replace rbA0 := lkeep hb rbA0
      replace rbA1 := lkeep hb rbA1
      replace rbB0 := lkeep hb rbB0
      replace rbB1 := lkeep hb rbB1
      clear hb
      go_wp2_with fail
      go_at_call 45
      refine (hcl _ LA LB).mono ?_
      rintro e u3 ⟨⟨p, a, n, c, rfl, L⟩, hb⟩
      replace bR0 := bR0.keep hb
      replace hB := hB.trans (hb.mono hB.size)
      clear hb
      go_wp2_with fail
      go_at_call 73
      refine (rtold_ok _ z _ L hd).mono ?_
      rintro e u4 ⟨⟨p', a', n', c', rfl, L'⟩, hb⟩
      replace bR0 := bR0.keep hb
      replace hB := hB.trans (hb.mono hB.size)
      clear hb L
      have rbR00 := bR0.c0
      have rbR01 := bR0.c1
      have zbR00 := bR0.f 0
      have zbR01 := bR0.f 1
      have lbR0 := bR0.lt
      have hL := Lib.hid (L'.put bR0 p' a' n' c')
      clear L' LA LB hcl hr1 hr2 h1 h2 bA bB rbA0 rbA1 rbB0 rbB1
      go_wp2
      refine bodyPost_ret (v := .tuple #[.agg #[.bool p', .slice a' n' c'], .int .i64 0]) (by simp [results, Tryd.results30, go_sem, rbR00, rbR01, zbR00, zbR01, lbR0]) rfl ⟨⟨_, _, _, _, rfl, hL.out⟩, by (repeat (first | with_reducible exact Below.refl _ _ | with_reducible assumption | refine Below.alloc ?_ (by (try simp); try omega) _ | refine Below.setCell ?_ (by (try simp); try omega) _ | refine below_drewN ?_ _ | refine Below.drew ?_ | (with_reducible refine Below.trans ?_ (Below.mono (by assumption) (by (try simp); try omega)))))⟩
    · rw [c1, c2] at he
      obtain rfl : (30 : Int) = er := he
      rw [if_neg (by omega)] at hz
      subst hz
      rw [c1, dec00] at hr1
      rw [c2, dec30] at hr2
      clear c1 c2
      go_enter Tryd.func30, Tryd.ntmps30
      go_wp2_with fail
      go_at_call 66
      refine (hr1 _ h1).mono ?_
      rintro e u1 ⟨rfl, hb⟩
      replace bA := bA.keep hb
      replace bB := bB.keep hb
      replace bR0 := bR0.keep hb
      replace h1 := h1.keep hb
      replace h2 := h2.keep hb
      replace hB := hB.trans (hb.mono hB.size)
      replace rbA0 := lkeep hb rbA0
      replace rbA1 := lkeep hb rbA1
      replace rbB0 := lkeep hb rbB0
      replace rbB1 := lkeep hb rbB1
      clear hb
      go_wp2_with fail
      go_at_call 66
      refine (hr2 _ h2).mono ?_
      rintro e u2 ⟨rfl, hb⟩
      replace bA := bA.keep hb
      replace bB := bB.keep hb
      replace bR0 := bR0.keep hb
      replace h1 := h1.keep hb
      replace h2 := h2.keep hb
      replace hB := hB.trans (hb.mono hB.size)
      replace rbA0 := lkeep hb rbA0
      replace rbA1 := lkeep hb rbA1
      replace rbB0 := lkeep hb rbB0
      replace rbB1 := lkeep hb rbB1
      clear hb
      have rbR00 := bR0.c0
      have rbR01 := bR0.c1
      have zbR00 := bR0.f 0
      have zbR01 := bR0.f 1
      have lbR0 := bR0.lt
      go_wp2
      refine bodyPost_ret (v := .tuple #[.agg #[.bool false, .slice none 0 0], .int .i64 30]) (by simp [results, Tryd.results30, go_sem, rbR00, rbR01, zbR00, zbR01, lbR0]) rfl ⟨okE_zero 30 _, by (repeat (first | with_reducible exact Below.refl _ _ | with_reducible assumption | refine Below.alloc ?_ (by (try simp); try omega) _ | refine Below.setCell ?_ (by (try simp); try omega) _ | refine below_drewN ?_ _ | refine Below.drew ?_ | (with_reducible refine Below.trans ?_ (Below.mono (by assumption) (by (try simp); try omega)))))⟩
  · obtain rfl : (30 : Int) = er := by rw [← he]; unfold ckT; rw [c1]; rfl
    rw [if_neg (by omega)] at hz
    subst hz
    rw [c1, dec30] at hr1
    clear c1 he
    go_enter Tryd.func30, Tryd.ntmps30
    go_wp2_with fail
    go_at_call 66
    refine (hr1 _ h1).mono ?_
    rintro e u1 ⟨rfl, hb⟩
    replace bA := bA.keep hb
    replace bB := bB.keep hb
    replace bR0 := bR0.keep hb
    replace h1 := h1.keep hb
    replace h2 := h2.keep hb
    replace hB := hB.trans (hb.mono hB.size)
    replace rbA0 := lkeep hb rbA0
    replace rbA1 := lkeep hb rbA1
    replace rbB0 := lkeep hb rbB0
    replace rbB1 := lkeep hb rbB1
    clear hb
    have rbR00 := bR0.c0
    have rbR01 := bR0.c1
    have zbR00 := bR0.f 0
    have zbR01 := bR0.f 1
    have lbR0 := bR0.lt
    go_wp2
    refine bodyPost_ret (v := .tuple #[.agg #[.bool false, .slice none 0 0], .int .i64 30]) (by simp [results, Tryd.results30, go_sem, rbR00, rbR01, zbR00, zbR01, lbR0]) rfl ⟨okE_zero 30 _, by (repeat (first | with_reducible exact Below.refl _ _ | with_reducible assumption | refine Below.alloc ?_ (by (try simp); try omega) _ | refine Below.setCell ?_ (by (try simp); try omega) _ | refine below_drewN ?_ _ | refine Below.drew ?_ | (with_reducible refine Below.trans ?_ (Below.mono (by assumption) (by (try simp); try omega)))))⟩
set_option maxRecDepth 100000 in
set_option maxHeartbeats 2000000 in
theorem rsub_any (b1 b2 : Bool) (s1 s2 : Value) (l m : List Int) (er z : Int) (w : World) (h1 : Ls w s1 l) (h2 : Ls w s2 m) (ll : l.length ≤ 2000) (lm : m.length ≤ 2000) (he : ckT (ckL b1 l) (ckL b2 m) = er) (hz : z = if er = 0 then numL b1 l - numL b2 m else 0) (hd : Dl z ≤ 600) :
    Calls Tryd.prog 32 #[.agg #[.bool b1, s1], .agg #[.bool b2, s2]] w fun e w' => OkE z er e w' ∧ Below w.heap.size w w' := by
  have hr1 := fun w h => rright_any b1 s1 l w h (by omega)
  have hr2 := fun w h => rright_any b2 s2 m w h (by omega)
  have h1' := h1
  have h2' := h2
  obtain ⟨pa, ca, rfl, _, _⟩ := h1'
  obtain ⟨pb, cb, rfl, _, _⟩ := h2'
  obtain ⟨n1, hn1⟩ : ∃ n1, l.length = n1 := ⟨_, rfl⟩
  obtain ⟨n2, hn2⟩ : ∃ n2, m.length = n2 := ⟨_, rfl⟩
  rw [hn1] at h1 hr1 ⊢
  rw [hn2] at h2 hr2 ⊢
  have hB : Below w.heap.size w (((w.alloc (.cells #[.bool b1, .slice pa n1 ca] 24)).alloc (.cells #[.bool b2, .slice pb n2 cb] 24)).alloc (.cells #[.bool false, .slice none 0 0] 24)) := by (repeat (first | with_reducible exact Below.refl _ _ | with_reducible assumption | refine Below.alloc ?_ (by (try simp); try omega) _ | refine Below.setCell ?_ (by (try simp); try omega) _ | refine below_drewN ?_ _ | refine Below.drew ?_ | (with_reducible refine Below.trans ?_ (Below.mono (by assumption) (by (try simp); try omega)))))
  have bA : Bx (((w.alloc (.cells #[.bool b1, .slice pa n1 ca] 24)).alloc (.cells #[.bool b2, .slice pb n2 cb] 24)).alloc (.cells #[.bool false, .slice none 0 0] 24)) (w.heap.size) (.bool b1) (.slice pa n1 ca) 24 := by exact (((Bx.new w (.bool b1) (.slice pa n1 ca) 24).alloc (.cells #[.bool b2, .slice pb n2 cb] 24)).alloc (.cells #[.bool false, .slice none 0 0] 24))
  have bB : Bx (((w.alloc (.cells #[.bool b1, .slice pa n1 ca] 24)).alloc (.cells #[.bool b2, .slice pb n2 cb] 24)).alloc (.cells #[.bool false, .slice none 0 0] 24)) (w.heap.size + 1) (.bool b2) (.slice pb n2 cb) 24 := by have := ((Bx.new (w.alloc (.cells #[.bool b1, .slice pa n1 ca] 24)) (.bool b2) (.slice pb n2 cb) 24).alloc (.cells #[.bool false, .slice none 0 0] 24)); simpa using this
  have bR0 : Bx (((w.alloc (.cells #[.bool b1, .slice pa n1 ca] 24)).alloc (.cells #[.bool b2, .slice pb n2 cb] 24)).alloc (.cells #[.bool false, .slice none 0 0] 24)) (w.heap.size + 1 + 1) (.bool false) (.slice none 0 0) 24 := by have := (Bx.new ((w.alloc (.cells #[.bool b1, .slice pa n1 ca] 24)).alloc (.cells #[.bool b2, .slice pb n2 cb] 24)) (.bool false) (.slice none 0 0) 24); simpa using this
  have rbA0 := bA.c0
  have rbA1 := bA.c1
  have rbB0 := bB.c0
  have rbB1 := bB.c1
  replace h1 := h1.keep hB
  replace h2 := h2.keep hB
  rcases ckB b1 l with c1 | c1
  · rcases ckB b2 m with c2 | c2
    · rw [c1, c2] at he
      obtain rfl : (0 : Int) = er := he
      rw [if_pos rfl] at hz
      have LA := lg_any h1 c1
      have LB := lg_any h2 c2
      have hcl := fun w h h' => rdiff_num (.agg #[.bool b1, .slice pa n1 ca]) (.agg #[.bool b2, .slice pb n2 cb]) (numL b1 l) (numL b2 m) w h h' (by omega) (by omega)
      rw [← hz] at hcl
      replace LA := LA.1
      replace LB := LB.1
      rw [c1, dec00] at hr1
      rw [c2, dec00] at hr2
      clear c1 c2 hz
      generalize numL b1 l = x at *
      generalize numL b2 m = y at *
      go_enter Tryd.func32, Tryd.ntmps32
      go_wp2_with fail
      go_at_call 66
      refine (hr1 _ h1).mono ?_
      rintro e u1 ⟨rfl, hb⟩
      replace bA := bA.keep hb
      replace bB := bB.keep hb
      replace bR0 := bR0.keep hb
      replace h1 := h1.keep hb
      replace h2 := h2.keep hb
      replace LA := LA.keep hb
      replace LB := LB.keep hb
      replace hB := hB.trans (hb.mono hB.size)
      replace rbA0 := lkeep hb rbA0
      replace rbA1 := lkeep hb rbA1
      replace rbB0 := lkeep hb rbB0
      replace rbB1 := lkeep hb rbB1
      clear hb
      go_wp2_with fail
      go_at_call 66
      refine (hr2 _ h2).mono ?_
      rintro e u2 ⟨rfl, hb⟩
      replace bA := bA.keep hb
      replace bB := bB.keep hb
      replace bR0 := bR0.keep hb
      replace h1 := h1.keep hb
      replace h2 := h2.keep hb
      replace LA := LA.keep hb
      replace LB := LB.keep hb
      replace hB := hB.trans (hb.mono hB.size)
      replace rbA0 := lkeep hb rbA0
      replace rbA1 := lkeep hb rbA1
      replace rbB0 := lkeep hb rbB0
      replace rbB1 := lkeep hb rbB1
      clear hb
      go_wp2_with fail
      go_at_call 46
      refine (hcl _ LA LB).mono ?_
      rintro e u3 ⟨⟨p, a, n, c, rfl, L⟩, hb⟩
      replace bR0 := bR0.keep hb
      replace hB := hB.trans (hb.mono hB.size)
      clear hb
      go_wp2_with fail
      go_at_call 73
      refine (rtold_ok _ z _ L hd).mono ?_
      rintro e u4 ⟨⟨p', a', n', c', rfl, L'⟩, hb⟩
      replace bR0 := bR0.keep hb
      replace hB := hB.trans (hb.mono hB.size)
      clear hb L
      have rbR00 := bR0.c0
      have rbR01 := bR0.c1
      have zbR00 := bR0.f 0
      have zbR01 := bR0.f 1
      have lbR0 := bR0.lt
      have hL := Lib.hid (L'.put bR0 p' a' n' c')
      clear L' LA LB hcl hr1 hr2 h1 h2 bA bB rbA0 rbA1 rbB0 rbB1
      go_wp2
      refine bodyPost_ret (v := .tuple #[.agg #[.bool p', .slice a' n' c'], .int .i64 0]) (by simp [results, Tryd.results32, go_sem, rbR00, rbR01, zbR00, zbR01, lbR0]) rfl ⟨⟨_, _, _, _, rfl, hL.out⟩, by (repeat (first | with_reducible exact Below.refl _ _ | with_reducible assumption | refine Below.alloc ?_ (by (try simp); try omega) _ | refine Below.setCell ?_ (by (try simp); try omega) _ | refine below_drewN ?_ _ | refine Below.drew ?_ | (with_reducible refine Below.trans ?_ (Below.mono (by assumption) (by (try simp); try omega)))))⟩
    · rw [c1, c2] at he
      obtain rfl : (30 : Int) = er := he
      rw [if_neg (by omega)] at hz
      subst hz
      rw [c1, dec00] at hr1
      rw [c2, dec30] at hr2
      clear c1 c2
      go_enter Tryd.func32, Tryd.ntmps32
      go_wp2_with fail
      go_at_call 66
      refine (hr1 _ h1).mono ?_
      rintro e u1 ⟨rfl, hb⟩
      replace bA := bA.keep hb
      replace bB := bB.keep hb
      replace bR0 := bR0.keep hb
      replace h1 := h1.keep hb
      replace h2 := h2.keep hb
      replace hB := hB.trans (hb.mono hB.size)
      replace rbA0 := lkeep hb rbA0
      replace rbA1 := lkeep hb rbA1
      replace rbB0 := lkeep hb rbB0
      replace rbB1 := lkeep hb rbB1
      clear hb
      go_wp2_with fail
      go_at_call 66
      refine (hr2 _ h2).mono ?_
      rintro e u2 ⟨rfl, hb⟩
      replace bA := bA.keep hb
      replace bB := bB.keep hb
      replace bR0 := bR0.keep hb
      replace h1 := h1.keep hb
      replace h2 := h2.keep hb
      replace hB := hB.trans (hb.mono hB.size)
      replace rbA0 := lkeep hb rbA0
      replace rbA1 := lkeep hb rbA1
      replace rbB0 := lkeep hb rbB0
      replace rbB1 := lkeep hb rbB1
      clear hb
      have rbR00 := bR0.c0
      have rbR01 := bR0.c1
      have zbR00 := bR0.f 0
      have zbR01 := bR0.f 1
      have lbR0 := bR0.lt
      go_wp2
      refine bodyPost_ret (v := .tuple #[.agg #[.bool false, .slice none 0 0], .int .i64 30]) (by simp [results, Tryd.results32, go_sem, rbR00, rbR01, zbR00, zbR01, lbR0]) rfl ⟨okE_zero 30 _, by (repeat (first | with_reducible exact Below.refl _ _ | with_reducible assumption | refine Below.alloc ?_ (by (try simp); try omega) _ | refine Below.setCell ?_ (by (try simp); try omega) _ | refine below_drewN ?_ _ | refine Below.drew ?_ | (with_reducible refine Below.trans ?_ (Below.mono (by assumption) (by (try simp); try omega)))))⟩
  · obtain rfl : (30 : Int) = er := by rw [← he]; unfold ckT; rw [c1]; rfl
    rw [if_neg (by omega)] at hz
    subst hz
    rw [c1, dec30] at hr1
    clear c1 he
    go_enter Tryd.func32, Tryd.ntmps32
    go_wp2_with fail
    go_at_call 66
    refine (hr1 _ h1).mono ?_
    rintro e u1 ⟨rfl, hb⟩
    replace bA := bA.keep hb
    replace bB := bB.keep hb
    replace bR0 := bR0.keep hb
    replace h1 := h1.keep hb
    replace h2 := h2.keep hb
    replace hB := hB.trans (hb.mono hB.size)
    replace rbA0 := lkeep hb rbA0
    replace rbA1 := lkeep hb rbA1
    replace rbB0 := lkeep hb rbB0
    replace rbB1 := lkeep hb rbB1
    clear hb
    have rbR00 := bR0.c0
    have rbR01 := bR0.c1
    have zbR00 := bR0.f 0
    have zbR01 := bR0.f 1
    have lbR0 := bR0.lt
    go_wp2
    refine bodyPost_ret (v := .tuple #[.agg #[.bool false, .slice none 0 0], .int .i64 30]) (by simp [results, Tryd.results32, go_sem, rbR00, rbR01, zbR00, zbR01, lbR0]) rfl ⟨okE_zero 30 _, by (repeat (first | with_reducible exact Below.refl _ _ | with_reducible assumption | refine Below.alloc ?_ (by (try simp); try omega) _ | refine Below.setCell ?_ (by (try simp); try omega) _ | refine below_drewN ?_ _ | refine Below.drew ?_ | (with_reducible refine Below.trans ?_ (Below.mono (by assumption) (by (try simp); try omega)))))⟩
set_option maxRecDepth 100000 in
set_option maxHeartbeats 2000000 in
theorem rmul_any (b1 b2 : Bool) (s1 s2 : Value) (l m : List Int) (er z : Int) (w : World) (h1 : Ls w s1 l) (h2 : Ls w s2 m) (ll : l.length ≤ 2000) (lm : m.length ≤ 2000) (he : ckT (ckL b1 l) (ckL b2 m) = er) (hz : z = if er = 0 then numL b1 l * numL b2 m else 0) (hd : Dl z ≤ 600) :
    Calls Tryd.prog 37 #[.agg #[.bool b1, s1], .agg #[.bool b2, s2]] w fun e w' => OkE z er e w' ∧ Below w.heap.size w w' := by
  have hr1 := fun w h => rright_any b1 s1 l w h (by omega)
  have hr2 := fun w h => rright_any b2 s2 m w h (by omega)
  have h1' := h1
  have h2' := h2
  obtain ⟨pa, ca, rfl, _, _⟩ := h1'
  obtain ⟨pb, cb, rfl, _, _⟩ := h2'
  obtain ⟨n1, hn1⟩ : ∃ n1, l.length = n1 := ⟨_, rfl⟩
  obtain ⟨n2, hn2⟩ : ∃ n2, m.length = n2 := ⟨_, rfl⟩
  rw [hn1] at h1 hr1 ⊢
  rw [hn2] at h2 hr2 ⊢
  have hB : Below w.heap.size w (((w.alloc (.cells #[.bool b1, .slice pa n1 ca] 24)).alloc (.cells #[.bool b2, .slice pb n2 cb] 24)).alloc (.cells #[.bool false, .slice none 0 0] 24)) := by (repeat (first | with_reducible exact Below.refl _ _ | with_reducible assumption | refine Below.alloc ?_ (by (try simp); try omega) _ | refine Below.setCell ?_ (by (try simp); try omega) _ | refine below_drewN ?_ _ | refine Below.drew ?_ | (with_reducible refine Below.trans ?_ (Below.mono (by assumption) (by (try simp); try omega)))))
  have bA : Bx (((w.alloc (.cells #[.bool b1, .slice pa n1 ca] 24)).alloc (.cells #[.bool b2, .slice pb n2 cb] 24)).alloc (.cells #[.bool false, .slice none 0 0] 24)) (w.heap.size) (.bool b1) (.slice pa n1 ca) 24 := by exact (((Bx.new w (.bool b1) (.slice pa n1 ca) 24).alloc (.cells #[.bool b2, .slice pb n2 cb] 24)).alloc (.cells #[.bool false, .slice none 0 0] 24))
  have bB : Bx (((w.alloc (.cells #[.bool b1, .slice pa n1 ca] 24)).alloc (.cells #[.bool b2, .slice pb n2 cb] 24)).alloc (.cells #[.bool false, .slice none 0 0] 24)) (w.heap.size + 1) (.bool b2) (.slice pb n2 cb) 24 := by have := ((Bx.new (w.alloc (.cells #[.bool b1, .slice pa n1 ca] 24)) (.bool b2) (.slice pb n2 cb) 24).alloc (.cells #[.bool false, .slice none 0 0] 24)); simpa using this
  have bR0 : Bx (((w.alloc (.cells #[.bool b1, .slice pa n1 ca] 24)).alloc (.cells #[.bool b2, .slice pb n2 cb] 24)).alloc (.cells #[.bool false, .slice none 0 0] 24)) (w.heap.size + 1 + 1) (.bool false) (.slice none 0 0) 24 := by have := (Bx.new ((w.alloc (.cells #[.bool b1, .slice pa n1 ca] 24)).alloc (.cells #[.bool b2, .slice pb n2 cb] 24)) (.bool false) (.slice none 0 0) 24); simpa using this
  have rbA0 := bA.c0
  have rbA1 := bA.c1
  have rbB0 := bB.c0
  have rbB1 := bB.c1
  replace h1 := h1.keep hB
  replace h2 := h2.keep hB
  rcases ckB b1 l with c1 | c1
  · rcases ckB b2 m with c2 | c2
    · rw [c1, c2] at he
      obtain rfl : (0 : Int) = er := he
      rw [if_pos rfl] at hz
      have LA := lg_any h1 c1
      have LB := lg_any h2 c2
      have hcl := fun w h h' => rprod_num (.agg #[.bool b1, .slice pa n1 ca]) (.agg #[.bool b2, .slice pb n2 cb]) (numL b1 l) (numL b2 m) w h h' (by omega) (by omega)
      rw [← hz] at hcl
      replace LA := LA.1
      replace LB := LB.1
      rw [c1, dec00] at hr1
      rw [c2, dec00] at hr2
      clear c1 c2 hz
      generalize numL b1 l = x at *
      generalize numL b2 m = y at *
      go_enter Tryd.func37, Tryd.ntmps37
      go_wp2_with fail
      go_at_call 66
      refine (hr1 _ h1).mono ?_
      rintro e u1 ⟨rfl, hb⟩
      replace bA := bA.keep hb
      replace bB := bB.keep hb
      replace bR0 := bR0.keep hb
      replace h1 := h1.keep hb
      replace h2 := h2.keep hb
      replace LA := LA.keep hb
      replace LB := LB.keep hb
      replace hB := hB.trans (hb.mono hB.size)
      replace rbA0 := lkeep hb rbA0
      replace rbA1 := lkeep hb rbA1
      replace rbB0 := lkeep hb rbB0
      replace rbB1 := lkeep hb rbB1
      clear hb
      go_wp2_with fail
      go_at_call 66
      refine (hr2 _ h2).mono ?_
      rintro e u2 ⟨rfl, hb⟩
      replace bA := bA.keep hb
      replace bB := bB.keep hb
      replace bR0 := bR0.keep hb
      replace h1 := h1.keep hb
      replace h2 := h2.keep hb
      replace LA := LA.keep hb
      replace LB := LB.keep hb
      replace hB := hB.trans (hb.mono hB.size)
      replace rbA0 := lkeep hb rbA0
      replace rbA1 := lkeep hb rbA1
      replace rbB0 := lkeep hb rbB0
      replace rbB1 := lkeep hb rbB1
      clear hb
      go_wp2_with fail
      go_at_call 42
      refine (hcl _ LA LB).mono ?_
      rintro e u3 ⟨⟨p, a, n, c, rfl, L⟩, hb⟩
      replace bR0 := bR0.keep hb
      replace hB := hB.trans (hb.mono hB.size)
      clear hb
      go_wp2_with fail
      go_at_call 73
      refine (rtold_ok _ z _ L hd).mono ?_
      rintro e u4 ⟨⟨p', a', n', c', rfl, L'⟩, hb⟩
      replace bR0 := bR0.keep hb
      replace hB := hB.trans (hb.mono hB.size)
      clear hb L
      have rbR00 := bR0.c0
      have rbR01 := bR0.c1
      have zbR00 := bR0.f 0
      have zbR01 := bR0.f 1
      have lbR0 := bR0.lt
      have hL := Lib.hid (L'.put bR0 p' a' n' c')
      clear L' LA LB hcl hr1 hr2 h1 h2 bA bB rbA0 rbA1 rbB0 rbB1
      go_wp2
      refine bodyPost_ret (v := .tuple #[.agg #[.bool p', .slice a' n' c'], .int .i64 0]) (by simp [results, Tryd.results37, go_sem, rbR00, rbR01, zbR00, zbR01, lbR0]) rfl ⟨⟨_, _, _, _, rfl, hL.out⟩, by (repeat (first | with_reducible exact Below.refl _ _ | with_reducible assumption | refine Below.alloc ?_ (by (try simp); try omega) _ | refine Below.setCell ?_ (by (try simp); try omega) _ | refine below_drewN ?_ _ | refine Below.drew ?_ | (with_reducible refine Below.trans ?_ (Below.mono (by assumption) (by (try simp); try omega)))))⟩
    · rw [c1, c2] at he
      obtain rfl : (30 : Int) = er := he
      rw [if_neg (by omega)] at hz
      subst hz
      rw [c1, dec00] at hr1
      rw [c2, dec30] at hr2
      clear c1 c2
      go_enter Tryd.func37, Tryd.ntmps37
      go_wp2_with fail
      go_at_call 66
      refine (hr1 _ h1).mono ?_
      rintro e u1 ⟨rfl, hb⟩
      replace bA := bA.keep hb
      replace bB := bB.keep hb
      replace bR0 := bR0.keep hb
      replace h1 := h1.keep hb
      replace h2 := h2.keep hb
      replace hB := hB.trans (hb.mono hB.size)
      replace rbA0 := lkeep hb rbA0
      replace rbA1 := lkeep hb rbA1
      replace rbB0 := lkeep hb rbB0
      replace rbB1 := lkeep hb rbB1
      clear hb
      go_wp2_with fail
      go_at_call 66
      refine (hr2 _ h2).mono ?_
      rintro e u2 ⟨rfl, hb⟩
      replace bA := bA.keep hb
      replace bB := bB.keep hb
      replace bR0 := bR0.keep hb
      replace h1 := h1.keep hb
      replace h2 := h2.keep hb
      replace hB := hB.trans (hb.mono hB.size)
      replace rbA0 := lkeep hb rbA0
      replace rbA1 := lkeep hb rbA1
      replace rbB0 := lkeep hb rbB0
      replace rbB1 := lkeep hb rbB1
      clear hb
      have rbR00 := bR0.c0
      have rbR01 := bR0.c1
      have zbR00 := bR0.f 0
      have zbR01 := bR0.f 1
      have lbR0 := bR0.lt
      go_wp2
      refine bodyPost_ret (v := .tuple #[.agg #[.bool false, .slice none 0 0], .int .i64 30]) (by simp [results, Tryd.results37, go_sem, rbR00, rbR01, zbR00, zbR01, lbR0]) rfl ⟨okE_zero 30 _, by (repeat (first | with_reducible exact Below.refl _ _ | with_reducible assumption | refine Below.alloc ?_ (by (try simp); try omega) _ | refine Below.setCell ?_ (by (try simp); try omega) _ | refine below_drewN ?_ _ | refine Below.drew ?_ | (with_reducible refine Below.trans ?_ (Below.mono (by assumption) (by (try simp); try omega)))))⟩
  · obtain rfl : (30 : Int) = er := by rw [← he]; unfold ckT; rw [c1]; rfl
    rw [if_neg (by omega)] at hz
    subst hz
    rw [c1, dec30] at hr1
    clear c1 he
    go_enter Tryd.func37, Tryd.ntmps37
    go_wp2_with fail
    go_at_call 66
    refine (hr1 _ h1).mono ?_
    rintro e u1 ⟨rfl, hb⟩
    replace bA := bA.keep hb
    replace bB := bB.keep hb
    replace bR0 := bR0.keep hb
    replace h1 := h1.keep hb
    replace h2 := h2.keep hb
    replace hB := hB.trans (hb.mono hB.size)
    replace rbA0 := lkeep hb rbA0
    replace rbA1 := lkeep hb rbA1
    replace rbB0 := lkeep hb rbB0
    replace rbB1 := lkeep hb rbB1
    clear hb
    have rbR00 := bR0.c0
    have rbR01 := bR0.c1
    have zbR00 := bR0.f 0
    have zbR01 := bR0.f 1
    have lbR0 := bR0.lt
    go_wp2
    refine bodyPost_ret (v := .tuple #[.agg #[.bool false, .slice none 0 0], .int .i64 30]) (by simp [results, Tryd.results37, go_sem, rbR00, rbR01, zbR00, zbR01, lbR0]) rfl ⟨okE_zero 30 _, by (repeat (first | with_reducible exact Below.refl _ _ | with_reducible assumption | refine Below.alloc ?_ (by (try simp); try omega) _ | refine Below.setCell ?_ (by (try simp); try omega) _ | refine below_drewN ?_ _ | refine Below.drew ?_ | (with_reducible refine Below.trans ?_ (Below.mono (by assumption) (by (try simp); try omega)))))⟩
set_option maxRecDepth 100000 in
set_option maxHeartbeats 2000000 in
theorem rgcd_any (b1 b2 : Bool) (s1 s2 : Value) (l m : List Int) (er z : Int) (w : World) (h1 : Ls w s1 l) (h2 : Ls w s2 m) (ll : l.length ≤ 2000) (lm : m.length ≤ 2000) (he : ckT (ckL b1 l) (ckL b2 m) = er) (hz : z = if er = 0 then gI ((numL b1 l).natAbs : Int) ((numL b2 m).natAbs : Int) else 0) (hd : Dl z ≤ 600) :
    Calls Tryd.prog 41 #[.agg #[.bool b1, s1], .agg #[.bool b2, s2]] w fun e w' => OkE z er e w' ∧ Below w.heap.size w w' := by
  have hr1 := fun w h => rright_any b1 s1 l w h (by omega)
  have hr2 := fun w h => rright_any b2 s2 m w h (by omega)
  have h1' := h1
  have h2' := h2
  obtain ⟨pa, ca, rfl, _, _⟩ := h1'
  obtain ⟨pb, cb, rfl, _, _⟩ := h2'
  obtain ⟨n1, hn1⟩ : ∃ n1, l.length = n1 := ⟨_, rfl⟩
  obtain ⟨n2, hn2⟩ : ∃ n2, m.length = n2 := ⟨_, rfl⟩
  rw [hn1] at h1 hr1 ⊢
  rw [hn2] at h2 hr2 ⊢
  have hB : Below w.heap.size w (((w.alloc (.cells #[.bool b1, .slice pa n1 ca] 24)).alloc (.cells #[.bool b2, .slice pb n2 cb] 24)).alloc (.cells #[.bool false, .slice none 0 0] 24)) := by (repeat (first | with_reducible exact Below.refl _ _ | with_reducible assumption | refine Below.alloc ?_ (by (try simp); try omega) _ | refine Below.setCell ?_ (by (try simp); try omega) _ | refine below_drewN ?_ _ | refine Below.drew ?_ | (with_reducible refine Below.trans ?_ (Below.mono (by assumption) (by (try simp); try omega)))))
  have bA : Bx (((w.alloc (.cells #[.bool b1, .slice pa n1 ca] 24)).alloc (.cells #[.bool b2, .slice pb n2 cb] 24)).alloc (.cells #[.bool false, .slice none 0 0] 24)) (w.heap.size) (.bool b1) (.slice pa n1 ca) 24 := by exact (((Bx.new w (.bool b1) (.slice pa n1 ca) 24).alloc (.cells #[.bool b2, .slice pb n2 cb] 24)).alloc (.cells #[.bool false, .slice none 0 0] 24))
  have bB : Bx (((w.alloc (.cells #[.bool b1, .slice pa n1 ca] 24)).alloc (.cells #[.bool b2, .slice pb n2 cb] 24)).alloc (.cells #[.bool false, .slice none 0 0] 24)) (w.heap.size + 1) (.bool b2) (.slice pb n2 cb) 24 := by have := ((Bx.new (w.alloc (.cells #[.bool b1, .slice pa n1 ca] 24)) (.bool b2) (.slice pb n2 cb) 24).alloc (.cells #[.bool false, .slice none 0 0] 24)); simpa using this
  have bR0 : Bx (((w.alloc (.cells #[.bool b1, .slice pa n1 ca] 24)).alloc (.cells #[.bool b2, .slice pb n2 cb] 24)).alloc (.cells #[.bool false, .slice none 0 0] 24)) (w.heap.size + 1 + 1) (.bool false) (.slice none 0 0) 24 := by have := (Bx.new ((w.alloc (.cells #[.bool b1, .slice pa n1 ca] 24)).alloc (.cells #[.bool b2, .slice pb n2 cb] 24)) (.bool false) (.slice none 0 0) 24); simpa using this
  have rbA0 := bA.c0
  have rbA1 := bA.c1
  have rbB0 := bB.c0
  have rbB1 := bB.c1
  replace h1 := h1.keep hB
  replace h2 := h2.keep hB
  rcases ckB b1 l with c1 | c1
  · rcases ckB b2 m with c2 | c2
    · rw [c1, c2] at he
      obtain rfl : (0 : Int) = er := he
      rw [if_pos rfl] at hz
      have LA := lg_any h1 c1
      have LB := lg_any h2 c2
      have hcl := fun w h h' => rcommon_num (.agg #[.bool b1, .slice pa n1 ca]) (.agg #[.bool b2, .slice pb n2 cb]) (numL b1 l) (numL b2 m) w h h' (by omega) (by omega)
      rw [← hz] at hcl
      replace LA := LA.1
      replace LB := LB.1
      rw [c1, dec00] at hr1
      rw [c2, dec00] at hr2
      clear c1 c2 hz
      generalize numL b1 l = x at *
      generalize numL b2 m = y at *
      go_enter Tryd.func41, Tryd.ntmps41
      go_wp2_with fail
      go_at_call 66
      refine (hr1 _ h1).mono ?_
      rintro e u1 ⟨rfl, hb⟩
      replace bA := bA.keep hb
      replace bB := bB.keep hb
      replace bR0 := bR0.keep hb
      replace h1 := h1.keep hb
      replace h2 := h2.keep hb
      replace LA := LA.keep hb
      replace LB := LB.keep hb
      replace hB := hB.trans (hb.mono hB.size)
      replace rbA0 := lkeep hb rbA0
      replace rbA1 := lkeep hb rbA1
      replace rbB0 := lkeep hb rbB0
      replace rbB1 := lkeep hb rbB1
      clear hb
      go_wp2_with fail
      go_at_call 66
      refine (hr2 _ h2).mono ?_
      rintro e u2 ⟨rfl, hb⟩
      replace bA := bA.keep hb
      replace bB := bB.keep hb
      replace bR0 := bR0.keep hb
      replace h1 := h1.keep hb
      replace h2 := h2.keep hb
      replace LA := LA.keep hb
      replace LB := LB.keep hb
      replace hB := hB.trans (hb.mono hB.size)
      replace rbA0 := lkeep hb rbA0
      replace rbA1 := lkeep hb rbA1
      replace rbB0 := lkeep hb rbB0
      replace rbB1 := lkeep hb rbB1
      clear hb
      go_wp2_with fail
      go_at_call 81
      refine (hcl _ LA LB).mono ?_
      rintro e u3 ⟨⟨p, a, n, c, rfl, L⟩, hb⟩
      replace bR0 := bR0.keep hb
      replace hB := hB.trans (hb.mono hB.size)
      clear hb
      have rbR00 := bR0.c0
      have rbR01 := bR0.c1
      have zbR00 := bR0.f 0
      have zbR01 := bR0.f 1
      have lbR0 := bR0.lt
      have hL := Lib.hid (L.put bR0 p a n c)
      clear L LA LB hcl hr1 hr2 h1 h2 bA bB rbA0 rbA1 rbB0 rbB1
      go_wp2
      refine bodyPost_ret (v := .tuple #[.agg #[.bool p, .slice a n c], .int .i64 0]) (by simp [results, Tryd.results41, go_sem, rbR00, rbR01, zbR00, zbR01, lbR0]) rfl ⟨⟨_, _, _, _, rfl, hL.out⟩, by (repeat (first | with_reducible exact Below.refl _ _ | with_reducible assumption | refine Below.alloc ?_ (by (try simp); try omega) _ | refine Below.setCell ?_ (by (try simp); try omega) _ | refine below_drewN ?_ _ | refine Below.drew ?_ | (with_reducible refine Below.trans ?_ (Below.mono (by assumption) (by (try simp); try omega)))))⟩
    · rw [c1, c2] at he
      obtain rfl : (30 : Int) = er := he
      rw [if_neg (by omega)] at hz
      subst hz
      rw [c1, dec00] at hr1
      rw [c2, dec30] at hr2
      clear c1 c2
      go_enter Tryd.func41, Tryd.ntmps41
      go_wp2_with fail
      go_at_call 66
      refine (hr1 _ h1).mono ?_
      rintro e u1 ⟨rfl, hb⟩
      replace bA := bA.keep hb
      replace bB := bB.keep hb
      replace bR0 := bR0.keep hb
      replace h1 := h1.keep hb
      replace h2 := h2.keep hb
      replace hB := hB.trans (hb.mono hB.size)
      replace rbA0 := lkeep hb rbA0
      replace rbA1 := lkeep hb rbA1
      replace rbB0 := lkeep hb rbB0
      replace rbB1 := lkeep hb rbB1
      clear hb
      go_wp2_with fail
      go_at_call 66
      refine (hr2 _ h2).mono ?_
      rintro e u2 ⟨rfl, hb⟩
      replace bA := bA.keep hb
      replace bB := bB.keep hb
      replace bR0 := bR0.keep hb
      replace h1 := h1.keep hb
      replace h2 := h2.keep hb
      replace hB := hB.trans (hb.mono hB.size)
      replace rbA0 := lkeep hb rbA0
      replace rbA1 := lkeep hb rbA1
      replace rbB0 := lkeep hb rbB0
      replace rbB1 := lkeep hb rbB1
      clear hb
      have rbR00 := bR0.c0
      have rbR01 := bR0.c1
      have zbR00 := bR0.f 0
      have zbR01 := bR0.f 1
      have lbR0 := bR0.lt
      go_wp2
      refine bodyPost_ret (v := .tuple #[.agg #[.bool false, .slice none 0 0], .int .i64 30]) (by simp [results, Tryd.results41, go_sem, rbR00, rbR01, zbR00, zbR01, lbR0]) rfl ⟨okE_zero 30 _, by (repeat (first | with_reducible exact Below.refl _ _ | with_reducible assumption | refine Below.alloc ?_ (by (try simp); try omega) _ | refine Below.setCell ?_ (by (try simp); try omega) _ | refine below_drewN ?_ _ | refine Below.drew ?_ | (with_reducible refine Below.trans ?_ (Below.mono (by assumption) (by (try simp); try omega)))))⟩
  · obtain rfl : (30 : Int) = er := by rw [← he]; unfold ckT; rw [c1]; rfl
    rw [if_neg (by omega)] at hz
    subst hz
    rw [c1, dec30] at hr1
    clear c1 he
    go_enter Tryd.func41, Tryd.ntmps41
    go_wp2_with fail
    go_at_call 66
    refine (hr1 _ h1).mono ?_
    rintro e u1 ⟨rfl, hb⟩
    replace bA := bA.keep hb
    replace bB := bB.keep hb
    replace bR0 := bR0.keep hb
    replace h1 := h1.keep hb
    replace h2 := h2.keep hb
    replace hB := hB.trans (hb.mono hB.size)
    replace rbA0 := lkeep hb rbA0
    replace rbA1 := lkeep hb rbA1
    replace rbB0 := lkeep hb rbB0
    replace rbB1 := lkeep hb rbB1
    clear hb
    have rbR00 := bR0.c0
    have rbR01 := bR0.c1
    have zbR00 := bR0.f 0
    have zbR01 := bR0.f 1
    have lbR0 := bR0.lt
    go_wp2
    refine bodyPost_ret (v := .tuple #[.agg #[.bool false, .slice none 0 0], .int .i64 30]) (by simp [results, Tryd.results41, go_sem, rbR00, rbR01, zbR00, zbR01, lbR0]) rfl ⟨okE_zero 30 _, by (repeat (first | with_reducible exact Below.refl _ _ | with_reducible assumption | refine Below.alloc ?_ (by (try simp); try omega) _ | refine Below.setCell ?_ (by (try simp); try omega) _ | refine below_drewN ?_ _ | refine Below.drew ?_ | (with_reducible refine Below.trans ?_ (Below.mono (by assumption) (by (try simp); try omega)))))⟩
set_option maxRecDepth 100000 in
set_option maxHeartbeats 2000000 in
theorem rcmp_any (b1 b2 : Bool) (s1 s2 : Value) (l m : List Int) (er z : Int) (w : World) (h1 : Ls w s1 l) (h2 : Ls w s2 m) (ll : l.length ≤ 2000) (lm : m.length ≤ 2000) (he : ckT (ckL b1 l) (ckL b2 m) = er) (hz : z = if er = 0 then cmpI (numL b1 l) (numL b2 m) else 0) :
    Calls Tryd.prog 22 #[.agg #[.bool b1, s1], .agg #[.bool b2, s2]] w fun e w' => e = .returned (.tuple #[.int .i64 z, .int .i64 er]) ∧ Below w.heap.size w w' := by
  have hr1 := fun w h => rright_any b1 s1 l w h (by omega)
  have hr2 := fun w h => rright_any b2 s2 m w h (by omega)
  have h1' := h1
  have h2' := h2
  obtain ⟨pa, ca, rfl, _, _⟩ := h1'
  obtain ⟨pb, cb, rfl, _, _⟩ := h2'
  obtain ⟨n1, hn1⟩ : ∃ n1, l.length = n1 := ⟨_, rfl⟩
  obtain ⟨n2, hn2⟩ : ∃ n2, m.length = n2 := ⟨_, rfl⟩
  rw [hn1] at h1 hr1 ⊢
  rw [hn2] at h2 hr2 ⊢
  have hB : Below w.heap.size w ((w.alloc (.cells #[.bool b1, .slice pa n1 ca] 24)).alloc (.cells #[.bool b2, .slice pb n2 cb] 24)) := by (repeat (first | with_reducible exact Below.refl _ _ | with_reducible assumption | refine Below.alloc ?_ (by (try simp); try omega) _ | refine Below.setCell ?_ (by (try simp); try omega) _ | refine below_drewN ?_ _ | refine Below.drew ?_ | (with_reducible refine Below.trans ?_ (Below.mono (by assumption) (by (try simp); try omega)))))
  have bA : Bx ((w.alloc (.cells #[.bool b1, .slice pa n1 ca] 24)).alloc (.cells #[.bool b2, .slice pb n2 cb] 24)) (w.heap.size) (.bool b1) (.slice pa n1 ca) 24 := by exact ((Bx.new w (.bool b1) (.slice pa n1 ca) 24).alloc (.cells #[.bool b2, .slice pb n2 cb] 24))
  have bB : Bx ((w.alloc (.cells #[.bool b1, .slice pa n1 ca] 24)).alloc (.cells #[.bool b2, .slice pb n2 cb] 24)) (w.heap.size + 1) (.bool b2) (.slice pb n2 cb) 24 := by have := (Bx.new (w.alloc (.cells #[.bool b1, .slice pa n1 ca] 24)) (.bool b2) (.slice pb n2 cb) 24); simpa using this
  have rbA0 := bA.c0
  have rbA1 := bA.c1
  have rbB0 := bB.c0
  have rbB1 := bB.c1
  replace h1 := h1.keep hB
  replace h2 := h2.keep hB
  rcases ckB b1 l with c1 | c1
  · rcases ckB b2 m with c2 | c2
    · rw [c1, c2] at he
      obtain rfl : (0 : Int) = er := he
      rw [if_pos rfl] at hz
      have LA := lg_any h1 c1
      have LB := lg_any h2 c2
      have hcl := fun w h h' => rorder_num (.agg #[.bool b1, .slice pa n1 ca]) (.agg #[.bool b2, .slice pb n2 cb]) (numL b1 l) (numL b2 m) w h h' (by omega) (by omega)
      rw [← hz] at hcl
      replace LA := LA.1
      replace LB := LB.1
      rw [c1, dec00] at hr1
      rw [c2, dec00] at hr2
      clear c1 c2 hz
      generalize numL b1 l = x at *
      generalize numL b2 m = y at *
      go_enter Tryd.func22, Tryd.ntmps22
      go_wp2_with fail
      go_at_call 66
      refine (hr1 _ h1).mono ?_
      rintro e u1 ⟨rfl, hb⟩
      replace bA := bA.keep hb
      replace bB := bB.keep hb
      replace h1 := h1.keep hb
      replace h2 := h2.keep hb
      replace LA := LA.keep hb
      replace LB := LB.keep hb
      replace hB := hB.trans (hb.mono hB.size)
      replace rbA0 := lkeep hb rbA0
      replace rbA1 := lkeep hb rbA1
      replace rbB0 := lkeep hb rbB0
      replace rbB1 := lkeep hb rbB1
      clear hb
      go_wp2_with fail
      go_at_call 66
      refine (hr2 _ h2).mono ?_
      rintro e u2 ⟨rfl, hb⟩
      replace bA := bA.keep hb
      replace bB := bB.keep hb
      replace h1 := h1.keep hb
      replace h2 := h2.keep hb
      replace LA := LA.keep hb
      replace LB := LB.keep hb
      replace hB := hB.trans (hb.mono hB.size)
      replace rbA0 := lkeep hb rbA0
      replace rbA1 := lkeep hb rbA1
      replace rbB0 := lkeep hb rbB0
      replace rbB1 := lkeep hb rbB1
      clear hb
      go_wp2_with fail
      go_at_call 67
      refine (hcl _ LA LB).mono ?_
      rintro e u3 ⟨rfl, hb⟩
      replace hB := hB.trans (hb.mono hB.size)
      go_wp2
      go_ret2
      exact ⟨rfl, hB⟩
    · rw [c1, c2] at he
      obtain rfl : (30 : Int) = er := he
      rw [if_neg (by omega)] at hz
      subst hz
      rw [c1, dec00] at hr1
      rw [c2, dec30] at hr2
      clear c1 c2
      go_enter Tryd.func22, Tryd.ntmps22
      go_wp2_with fail
      go_at_call 66
      refine (hr1 _ h1).mono ?_
      rintro e u1 ⟨rfl, hb⟩
      replace bA := bA.keep hb
      replace bB := bB.keep hb
      replace h1 := h1.keep hb
      replace h2 := h2.keep hb
      replace hB := hB.trans (hb.mono hB.size)
      replace rbA0 := lkeep hb rbA0
      replace rbA1 := lkeep hb rbA1
      replace rbB0 := lkeep hb rbB0
      replace rbB1 := lkeep hb rbB1
      clear hb
      go_wp2_with fail
      go_at_call 66
      refine (hr2 _ h2).mono ?_
      rintro e u2 ⟨rfl, hb⟩
      replace bA := bA.keep hb
      replace bB := bB.keep hb
      replace h1 := h1.keep hb
      replace h2 := h2.keep hb
      replace hB := hB.trans (hb.mono hB.size)
      replace rbA0 := lkeep hb rbA0
      replace rbA1 := lkeep hb rbA1
      replace rbB0 := lkeep hb rbB0
      replace rbB1 := lkeep hb rbB1
      clear hb
      go_wp2
      go_ret2
      exact ⟨rfl, hB⟩
  · obtain rfl : (30 : Int) = er := by rw [← he]; unfold ckT; rw [c1]; rfl
    rw [if_neg (by omega)] at hz
    subst hz
    rw [c1, dec30] at hr1
    clear c1 he
    go_enter Tryd.func22, Tryd.ntmps22
    go_wp2_with fail
    go_at_call 66
    refine (hr1 _ h1).mono ?_
    rintro e u1 ⟨rfl, hb⟩
    replace bA := bA.keep hb
    replace bB := bB.keep hb
    replace h1 := h1.keep hb
    replace h2 := h2.keep hb
    replace hB := hB.trans (hb.mono hB.size)
    replace rbA0 := lkeep hb rbA0
    replace rbA1 := lkeep hb rbA1
    replace rbB0 := lkeep hb rbB0
    replace rbB1 := lkeep hb rbB1
    clear hb
    go_wp2
    go_ret2
    exact ⟨rfl, hB⟩
set_option maxRecDepth 100000 in
set_option maxHeartbeats 2000000 in
theorem rneg_any (b1 : Bool) (s1 : Value) (l : List Int) (er z : Int) (w : World) (h1 : Ls w s1 l) (ll : l.length ≤ 2000) (he : ckL b1 l = er) (hz : z = if er = 0 then -(numL b1 l) else 0) :
    Calls Tryd.prog 34 #[.agg #[.bool b1, s1]] w fun e w' => OkE z er e w' ∧ Below w.heap.size w w' := by
  have hr1 := fun w h => rright_any b1 s1 l w h (by omega)
  have h1' := h1
  obtain ⟨pa, ca, rfl, _, _⟩ := h1'
  obtain ⟨n1, hn1⟩ : ∃ n1, l.length = n1 := ⟨_, rfl⟩
  rw [hn1] at h1 hr1 ⊢
  have hB : Below w.heap.size w ((w.alloc (.cells #[.bool b1, .slice pa n1 ca] 24)).alloc (.cells #[.bool false, .slice none 0 0] 24)) := by (repeat (first | with_reducible exact Below.refl _ _ | with_reducible assumption | refine Below.alloc ?_ (by (try simp); try omega) _ | refine Below.setCell ?_ (by (try simp); try omega) _ | refine below_drewN ?_ _ | refine Below.drew ?_ | (with_reducible refine Below.trans ?_ (Below.mono (by assumption) (by (try simp); try omega)))))
  have bA : Bx ((w.alloc (.cells #[.bool b1, .slice pa n1 ca] 24)).alloc (.cells #[.bool false, .slice none 0 0] 24)) (w.heap.size) (.bool b1) (.slice pa n1 ca) 24 := by exact ((Bx.new w (.bool b1) (.slice pa n1 ca) 24).alloc (.cells #[.bool false, .slice none 0 0] 24))
  have bR0 : Bx ((w.alloc (.cells #[.bool b1, .slice pa n1 ca] 24)).alloc (.cells #[.bool false, .slice none 0 0] 24)) (w.heap.size + 1) (.bool false) (.slice none 0 0) 24 := by have := (Bx.new (w.alloc (.cells #[.bool b1, .slice pa n1 ca] 24)) (.bool false) (.slice none 0 0) 24); simpa using this
  have rbA0 := bA.c0
  have rbA1 := bA.c1
  replace h1 := h1.keep hB
  rcases ckB b1 l with c1 | c1
  · obtain rfl : (0 : Int) = er := by rw [← he, c1]
    rw [if_pos rfl] at hz
    have LA := lg_any h1 c1
    have hcl := fun w h => rminus_num (.agg #[.bool b1, .slice pa n1 ca]) (numL b1 l) w h (by omega)
    rw [← hz] at hcl
    replace LA := LA.1
    rw [c1, dec00] at hr1
    clear c1 hz he
    generalize numL b1 l = x at *
    go_enter Tryd.func34, Tryd.ntmps34
    go_wp2_with fail
    go_at_call 66
    refine (hr1 _ h1).mono ?_
    rintro e u1 ⟨rfl, hb⟩
    replace bA := bA.keep hb
    replace bR0 := bR0.keep hb
    replace h1 := h1.keep hb
    replace LA := LA.keep hb
    replace hB := hB.trans (hb.mono hB.size)
    replace rbA0 := lkeep hb rbA0
    replace rbA1 := lkeep hb rbA1
    clear hb
    go_wp2_with fail
    go_at_call 75
    refine (hcl _ LA).mono ?_
    rintro e u3 ⟨⟨p, a, n, c, rfl, L⟩, hb⟩
    replace bR0 := bR0.keep hb
    replace hB := hB.trans (hb.mono hB.size)
    clear hb
    have rbR00 := bR0.c0
    have rbR01 := bR0.c1
    have zbR00 := bR0.f 0
    have zbR01 := bR0.f 1
    have lbR0 := bR0.lt
    have hL := Lib.hid (L.put bR0 p a n c)
    clear L LA hcl hr1 h1 bA rbA0 rbA1
    go_wp2
    refine bodyPost_ret (v := .tuple #[.agg #[.bool p, .slice a n c], .int .i64 0]) (by simp [results, Tryd.results34, go_sem, rbR00, rbR01, zbR00, zbR01, lbR0]) rfl ⟨⟨_, _, _, _, rfl, hL.out⟩, by (repeat (first | with_reducible exact Below.refl _ _ | with_reducible assumption | refine Below.alloc ?_ (by (try simp); try omega) _ | refine Below.setCell ?_ (by (try simp); try omega) _ | refine below_drewN ?_ _ | refine Below.drew ?_ | (with_reducible refine Below.trans ?_ (Below.mono (by assumption) (by (try simp); try omega)))))⟩
  · obtain rfl : (30 : Int) = er := by rw [← he, c1]
    rw [if_neg (by omega)] at hz
    subst hz
    rw [c1, dec30] at hr1
    clear c1 he
    go_enter Tryd.func34, Tryd.ntmps34
    go_wp2_with fail
    go_at_call 66
    refine (hr1 _ h1).mono ?_
    rintro e u1 ⟨rfl, hb⟩
    replace bA := bA.keep hb
    replace bR0 := bR0.keep hb
    replace h1 := h1.keep hb
    replace hB := hB.trans (hb.mono hB.size)
    replace rbA0 := lkeep hb rbA0
    replace rbA1 := lkeep hb rbA1
    clear hb
    have rbR00 := bR0.c0
    have rbR01 := bR0.c1
    have zbR00 := bR0.f 0
    have zbR01 := bR0.f 1
    have lbR0 := bR0.lt
    go_wp2
    refine bodyPost_ret (v := .tuple #[.agg #[.bool false, .slice none 0 0], .int .i64 30]) (by simp [results, Tryd.results34, go_sem, rbR00, rbR01, zbR00, zbR01, lbR0]) rfl ⟨okE_zero 30 _, by (repeat (first | with_reducible exact Below.refl _ _ | with_reducible assumption | refine Below.alloc ?_ (by (try simp); try omega) _ | refine Below.setCell ?_ (by (try simp); try omega) _ | refine below_drewN ?_ _ | refine Below.drew ?_ | (with_reducible refine Below.trans ?_ (Below.mono (by assumption) (by (try simp); try omega)))))⟩
set_option maxRecDepth 100000 in
set_option maxHeartbeats 2000000 in
theorem rsqrt_any (b1 : Bool) (s1 : Value) (l : List Int) (er z : Int) (w : World) (h1 : Ls w s1 l) (ll : l.length ≤ 2000) (he : (if ckL b1 l = 0 then (if b1 = true then 2 else 0) else 30) = er) (hz : z = if er = 0 then rt (numL b1 l) else 0) :
    Calls Tryd.prog 48 #[.agg #[.bool b1, s1]] w fun e w' => OkE z er e w' ∧ Below w.heap.size w w' := by
  have hr1 := fun w h => rright_any b1 s1 l w h (by omega)
  have h1' := h1
  obtain ⟨pa, ca, rfl, _, _⟩ := h1'
  obtain ⟨n1, hn1⟩ : ∃ n1, l.length = n1 := ⟨_, rfl⟩
  rw [hn1] at h1 hr1 ⊢
  have hB : Below w.heap.size w ((w.alloc (.cells #[.bool b1, .slice pa n1 ca] 24)).alloc (.cells #[.bool false, .slice none 0 0] 24)) := by (repeat (first | with_reducible exact Below.refl _ _ | with_reducible assumption | refine Below.alloc ?_ (by (try simp); try omega) _ | refine Below.setCell ?_ (by (try simp); try omega) _ | refine below_drewN ?_ _ | refine Below.drew ?_ | (with_reducible refine Below.trans ?_ (Below.mono (by assumption) (by (try simp); try omega)))))
  have bA : Bx ((w.alloc (.cells #[.bool b1, .slice pa n1 ca] 24)).alloc (.cells #[.bool false, .slice none 0 0] 24)) (w.heap.size) (.bool b1) (.slice pa n1 ca) 24 := by exact ((Bx.new w (.bool b1) (.slice pa n1 ca) 24).alloc (.cells #[.bool false, .slice none 0 0] 24))
  have bR0 : Bx ((w.alloc (.cells #[.bool b1, .slice pa n1 ca] 24)).alloc (.cells #[.bool false, .slice none 0 0] 24)) (w.heap.size + 1) (.bool false) (.slice none 0 0) 24 := by have := (Bx.new (w.alloc (.cells #[.bool b1, .slice pa n1 ca] 24)) (.bool false) (.slice none 0 0) 24); simpa using this
  have rbA0 := bA.c0
  have rbA1 := bA.c1
  replace h1 := h1.keep hB
  rcases ckB b1 l with c1 | c1
  · rw [c1, if_pos rfl] at he
    cases b1
    all_goals simp only [if_true, if_false, Bool.false_eq_true] at he
    · obtain rfl : (0 : Int) = er := he
      rw [if_pos rfl] at hz
      have LA := lg_any h1 c1
      have hcl := fun w h => rroot_num (.agg #[.bool false, .slice pa n1 ca]) (numL false l) w h (by unfold numL; exact vl_nonneg ((okD_iff l).1 (ck_ok c1)).1) (by omega)
      rw [← hz] at hcl
      replace LA := LA.1
      rw [c1, dec00] at hr1
      clear c1 hz
      generalize numL false l = x at *
      go_enter Tryd.func48, Tryd.ntmps48
      go_wp2_with fail
      go_at_call 66
      refine (hr1 _ h1).mono ?_
      rintro e u1 ⟨rfl, hb⟩
      replace bA := bA.keep hb
      replace bR0 := bR0.keep hb
      replace h1 := h1.keep hb
      replace LA := LA.keep hb
      replace hB := hB.trans (hb.mono hB.size)
      replace rbA0 := lkeep hb rbA0
      replace rbA1 := lkeep hb rbA1
      clear hb
      go_wp2_with fail
      go_at_call 85
      refine (hcl _ LA).mono ?_
      rintro e u3 ⟨⟨p, a, n, c, rfl, L⟩, hb⟩
      replace bR0 := bR0.keep hb
      replace hB := hB.trans (hb.mono hB.size)
      clear hb
      have rbR00 := bR0.c0
      have rbR01 := bR0.c1
      have zbR00 := bR0.f 0
      have zbR01 := bR0.f 1
      have lbR0 := bR0.lt
      have hL := Lib.hid (L.put bR0 p a n c)
      clear L LA hcl hr1 h1 bA rbA0 rbA1
      go_wp2
      refine bodyPost_ret (v := .tuple #[.agg #[.bool p, .slice a n c], .int .i64 0]) (by simp [results, Tryd.results48, go_sem, rbR00, rbR01, zbR00, zbR01, lbR0]) rfl ⟨⟨_, _, _, _, rfl, hL.out⟩, by (repeat (first | with_reducible exact Below.refl _ _ | with_reducible assumption | refine Below.alloc ?_ (by (try simp); try omega) _ | refine Below.setCell ?_ (by (try simp); try omega) _ | refine below_drewN ?_ _ | refine Below.drew ?_ | (with_reducible refine Below.trans ?_ (Below.mono (by assumption) (by (try simp); try omega)))))⟩
    · obtain rfl : (2 : Int) = er := he
      rw [if_neg (by omega)] at hz
      subst hz
      rw [c1, dec00] at hr1
      clear c1
      go_enter Tryd.func48, Tryd.ntmps48
      go_wp2_with fail
      go_at_call 66
      refine (hr1 _ h1).mono ?_
      rintro e u1 ⟨rfl, hb⟩
      replace bA := bA.keep hb
      replace bR0 := bR0.keep hb
      replace h1 := h1.keep hb
      replace hB := hB.trans (hb.mono hB.size)
      replace rbA0 := lkeep hb rbA0
      replace rbA1 := lkeep hb rbA1
      clear hb
      have rbR00 := bR0.c0
      have rbR01 := bR0.c1
      have zbR00 := bR0.f 0
      have zbR01 := bR0.f 1
      have lbR0 := bR0.lt
      go_wp2
      refine bodyPost_ret (v := .tuple #[.agg #[.bool false, .slice none 0 0], .int .i64 2]) (by simp [results, Tryd.results48, go_sem, rbR00, rbR01, zbR00, zbR01, lbR0]) rfl ⟨okE_zero 2 _, by (repeat (first | with_reducible exact Below.refl _ _ | with_reducible assumption | refine Below.alloc ?_ (by (try simp); try omega) _ | refine Below.setCell ?_ (by (try simp); try omega) _ | refine below_drewN ?_ _ | refine Below.drew ?_ | (with_reducible refine Below.trans ?_ (Below.mono (by assumption) (by (try simp); try omega)))))⟩
  · rw [c1, if_neg (by omega)] at he
    obtain rfl : (30 : Int) = er := he
    rw [if_neg (by omega)] at hz
    subst hz
    rw [c1, dec30] at hr1
    clear c1
    go_enter Tryd.func48, Tryd.ntmps48
    go_wp2_with fail
    go_at_call 66
    refine (hr1 _ h1).mono ?_
    rintro e u1 ⟨rfl, hb⟩
    replace bA := bA.keep hb
    replace bR0 := bR0.keep hb
    replace h1 := h1.keep hb
    replace hB := hB.trans (hb.mono hB.size)
    replace rbA0 := lkeep hb rbA0
    replace rbA1 := lkeep hb rbA1
    clear hb
    have rbR00 := bR0.c0
    have rbR01 := bR0.c1
    have zbR00 := bR0.f 0
    have zbR01 := bR0.f 1
    have lbR0 := bR0.lt
    go_wp2
    refine bodyPost_ret (v := .tuple #[.agg #[.bool false, .slice none 0 0], .int .i64 30]) (by simp [results, Tryd.results48, go_sem, rbR00, rbR01, zbR00, zbR01, lbR0]) rfl ⟨okE_zero 30 _, by (repeat (first | with_reducible exact Below.refl _ _ | with_reducible assumption | refine Below.alloc ?_ (by (try simp); try omega) _ | refine Below.setCell ?_ (by (try simp); try omega) _ | refine below_drewN ?_ _ | refine Below.drew ?_ | (with_reducible refine Below.trans ?_ (Below.mono (by assumption) (by (try simp); try omega)))))⟩
end Go.Proofs.YtoppdbgodceaiaaDoor
