/-
  The reference: Order.
-/
import Derived.Test.YtoppdbgodceaiaaDoorLrA
namespace Go.Proofs.YtoppdbgodceaiaaDoor
open Go.RowKit

theorem lg_eq (x y : Int) : (decide (x < 0) == decide (y < 0) && decide (dg (x.natAbs : Int) = dg (y.natAbs : Int))) = decide (x = y) := by
  rw [Bool.eq_iff_iff]
  simp
  constructor
  · rintro ⟨h, k⟩
    have := dg_inj (by omega) (by omega) k
    omega
  · rintro rfl; exact ⟨Iff.rfl, rfl⟩
theorem rsame_num (A B : Value) (x y : Int) (w : World) (hA : Lg w A x) (hB : Lg w B y) (l1 : Dl x ≤ 1000000) (l2 : Dl y ≤ 1000000) :
    Calls Tryd.prog 17 #[A, B] w fun e w' => e = .returned (.bool (decide (x = y))) ∧ Below w.heap.size w w' := by
  obtain ⟨s1, rfl, h1⟩ := hA
  obtain ⟨s2, rfl, h2⟩ := hB
  have := rsame_any (decide (x < 0)) (decide (y < 0)) s1 s2 _ _ w h1 h2 l1 l2
  rwa [lg_eq] at this

set_option maxRecDepth 100000 in
set_option maxHeartbeats 1000000 in
theorem rorder_raw (b1 b2 eq lt : Bool) (s1 s2 : Value) (l m : List Int) (c : Int) (w : World) (h1 : Ls w s1 l) (h2 : Ls w s2 m)
    (hs : ∀ w, Ls w s1 l → Ls w s2 m → Calls Tryd.prog 17 #[.agg #[.bool b1, s1], .agg #[.bool b2, s2]] w fun e w' => e = .returned (.bool eq) ∧ Below w.heap.size w w')
    (hl : ∀ w, Ls w s1 l → Ls w s2 m → Calls Tryd.prog 83 #[s1, s2] w fun e w' => e = .returned (.bool lt) ∧ Below w.heap.size w w')
    (hc : c = if eq then 0 else if (if b1 = b2 then lt != b1 else b1) then -1 else 1) :
    Calls Tryd.prog 67 #[.agg #[.bool b1, s1], .agg #[.bool b2, s2]] w fun e w' => e = .returned (.int .i64 c) ∧ Below w.heap.size w w' := by
  have h1' := h1
  have h2' := h2
  obtain ⟨pa, ca, rfl, _, _⟩ := h1'
  obtain ⟨pb, cb, rfl, _, _⟩ := h2'
  generalize l.length = n1 at *
  generalize m.length = n2 at *
  have hB : Below w.heap.size w ((w.alloc (.cells #[.bool b1, .slice pa n1 ca] 24)).alloc (.cells #[.bool b2, .slice pb n2 cb] 24)) := by (repeat (first | with_reducible exact Below.refl _ _ | with_reducible assumption | refine Below.alloc ?_ (by (try simp); try omega) _ | refine Below.setCell ?_ (by (try simp); try omega) _ | refine below_drewN ?_ _ | refine Below.drew ?_ | (with_reducible refine Below.trans ?_ (Below.mono (by assumption) (by (try simp); try omega)))))
  have bA : Bx ((w.alloc (.cells #[.bool b1, .slice pa n1 ca] 24)).alloc (.cells #[.bool b2, .slice pb n2 cb] 24)) (w.heap.size) (.bool b1) (.slice pa n1 ca) 24 := by exact ((Bx.new w (.bool b1) (.slice pa n1 ca) 24).alloc _)
  have bB : Bx ((w.alloc (.cells #[.bool b1, .slice pa n1 ca] 24)).alloc (.cells #[.bool b2, .slice pb n2 cb] 24)) (w.heap.size + 1) (.bool b2) (.slice pb n2 cb) 24 := by have := (Bx.new (w.alloc (.cells #[.bool b1, .slice pa n1 ca] 24)) (.bool b2) (.slice pb n2 cb) 24); simpa using this
  have rbA0 := bA.c0
  have rbA1 := bA.c1
  have rbB0 := bB.c0
  have rbB1 := bB.c1
  replace h1 := h1.keep hB
  replace h2 := h2.keep hB
  cases eq
  · cases b1 <;> cases b2 <;> cases lt
    · simp at hc
      subst hc
      go_enter Tryd.func67, Tryd.ntmps67
      go_wp2_with fail
      go_at_call 17
      refine (hs _ h1 h2).mono ?_
      rintro e w1 ⟨rfl, hb1⟩
      replace bA := bA.keep hb1
      replace bB := bB.keep hb1
      replace h1 := h1.keep hb1
      replace h2 := h2.keep hb1
      replace hB := hB.trans (hb1.mono hB.size)
      have k0 := bA.c0
      have k1 := bA.c1
      have k2 := bB.c0
      have k3 := bB.c1
      clear rbA0 rbA1 rbB0 rbB1 hb1 hs
      have h1d : Ls w1.drew (.slice pa n1 ca) l := h1
      have h2d : Ls w1.drew (.slice pb n2 cb) m := h2
      go_wp2_with fail
      go_region_held3 (fun w' => w'.cell? ⟨w.heap.size, 0, none⟩ = some (.bool false) ∧ w'.cell? ⟨w.heap.size, 1, none⟩ = some (.slice pa n1 ca) ∧ w'.cell? ⟨w.heap.size + 1, 1, none⟩ = some (.slice pb n2 cb))
        (first | exact ⟨k0, k1, k3⟩ | exact ⟨lkeep hb2 k0, lkeep hb2 k1, lkeep hb2 k3⟩)
        ((go_at_call 83; (with_reducible refine (hl _ h1d h2d).mono ?_); rintro e w2 ⟨rfl, hb2⟩))
      all_goals
        have B2 := hB.drew.trans (hb2.mono hB.drew.size)
        go_wp2
        go_ret
        exact ⟨rfl, by (repeat (first | with_reducible exact Below.refl _ _ | with_reducible assumption | refine Below.alloc ?_ (by (try simp); try omega) _ | refine Below.setCell ?_ (by (try simp); try omega) _ | refine below_drewN ?_ _ | refine Below.drew ?_ | (with_reducible refine Below.trans ?_ (Below.mono (by assumption) (by (try simp); try omega)))))⟩
    · simp at hc
      subst hc
      go_enter Tryd.func67, Tryd.ntmps67
      go_wp2_with fail
      go_at_call 17
      refine (hs _ h1 h2).mono ?_
      rintro e w1 ⟨rfl, hb1⟩
      replace bA := bA.keep hb1
      replace bB := bB.keep hb1
      replace h1 := h1.keep hb1
      replace h2 := h2.keep hb1
      replace hB := hB.trans (hb1.mono hB.size)
      have k0 := bA.c0
      have k1 := bA.c1
      have k2 := bB.c0
      have k3 := bB.c1
      clear rbA0 rbA1 rbB0 rbB1 hb1 hs
      have h1d : Ls w1.drew (.slice pa n1 ca) l := h1
      have h2d : Ls w1.drew (.slice pb n2 cb) m := h2
      go_wp2_with fail
      go_region_held3 (fun w' => w'.cell? ⟨w.heap.size, 0, none⟩ = some (.bool false) ∧ w'.cell? ⟨w.heap.size, 1, none⟩ = some (.slice pa n1 ca) ∧ w'.cell? ⟨w.heap.size + 1, 1, none⟩ = some (.slice pb n2 cb))
        (first | exact ⟨k0, k1, k3⟩ | exact ⟨lkeep hb2 k0, lkeep hb2 k1, lkeep hb2 k3⟩)
        ((go_at_call 83; (with_reducible refine (hl _ h1d h2d).mono ?_); rintro e w2 ⟨rfl, hb2⟩))
      all_goals
        have B2 := hB.drew.trans (hb2.mono hB.drew.size)
        go_wp2
        go_ret
        exact ⟨rfl, by (repeat (first | with_reducible exact Below.refl _ _ | with_reducible assumption | refine Below.alloc ?_ (by (try simp); try omega) _ | refine Below.setCell ?_ (by (try simp); try omega) _ | refine below_drewN ?_ _ | refine Below.drew ?_ | (with_reducible refine Below.trans ?_ (Below.mono (by assumption) (by (try simp); try omega)))))⟩
    · simp at hc
      subst hc
      go_enter Tryd.func67, Tryd.ntmps67
      go_wp2_with fail
      go_at_call 17
      refine (hs _ h1 h2).mono ?_
      rintro e w1 ⟨rfl, hb1⟩
      replace bA := bA.keep hb1
      replace bB := bB.keep hb1
      replace h1 := h1.keep hb1
      replace h2 := h2.keep hb1
      replace hB := hB.trans (hb1.mono hB.size)
      have k0 := bA.c0
      have k1 := bA.c1
      have k2 := bB.c0
      have k3 := bB.c1
      clear rbA0 rbA1 rbB0 rbB1 hb1 hs
      go_wp2
      go_ret
      exact ⟨rfl, hB⟩
    · simp at hc
      subst hc
      go_enter Tryd.func67, Tryd.ntmps67
      go_wp2_with fail
      go_at_call 17
      refine (hs _ h1 h2).mono ?_
      rintro e w1 ⟨rfl, hb1⟩
      replace bA := bA.keep hb1
      replace bB := bB.keep hb1
      replace h1 := h1.keep hb1
      replace h2 := h2.keep hb1
      replace hB := hB.trans (hb1.mono hB.size)
      have k0 := bA.c0
      have k1 := bA.c1
      have k2 := bB.c0
      have k3 := bB.c1
      clear rbA0 rbA1 rbB0 rbB1 hb1 hs
      go_wp2
      go_ret
      exact ⟨rfl, hB⟩
    · simp at hc
      subst hc
      go_enter Tryd.func67, Tryd.ntmps67
      go_wp2_with fail
      go_at_call 17
      refine (hs _ h1 h2).mono ?_
      rintro e w1 ⟨rfl, hb1⟩
      replace bA := bA.keep hb1
      replace bB := bB.keep hb1
      replace h1 := h1.keep hb1
      replace h2 := h2.keep hb1
      replace hB := hB.trans (hb1.mono hB.size)
      have k0 := bA.c0
      have k1 := bA.c1
      have k2 := bB.c0
      have k3 := bB.c1
      clear rbA0 rbA1 rbB0 rbB1 hb1 hs
      go_wp2
      go_ret
      exact ⟨rfl, hB⟩
    · simp at hc
      subst hc
      go_enter Tryd.func67, Tryd.ntmps67
      go_wp2_with fail
      go_at_call 17
      refine (hs _ h1 h2).mono ?_
      rintro e w1 ⟨rfl, hb1⟩
      replace bA := bA.keep hb1
      replace bB := bB.keep hb1
      replace h1 := h1.keep hb1
      replace h2 := h2.keep hb1
      replace hB := hB.trans (hb1.mono hB.size)
      have k0 := bA.c0
      have k1 := bA.c1
      have k2 := bB.c0
      have k3 := bB.c1
      clear rbA0 rbA1 rbB0 rbB1 hb1 hs
      go_wp2
      go_ret
      exact ⟨rfl, hB⟩
    · simp at hc
      subst hc
      go_enter Tryd.func67, Tryd.ntmps67
      go_wp2_with fail
      go_at_call 17
      refine (hs _ h1 h2).mono ?_
      rintro e w1 ⟨rfl, hb1⟩
      replace bA := bA.keep hb1
      replace bB := bB.keep hb1
      replace h1 := h1.keep hb1
      replace h2 := h2.keep hb1
      replace hB := hB.trans (hb1.mono hB.size)
      have k0 := bA.c0
      have k1 := bA.c1
      have k2 := bB.c0
      have k3 := bB.c1
      clear rbA0 rbA1 rbB0 rbB1 hb1 hs
      have h1d : Ls w1.drew (.slice pa n1 ca) l := h1
      have h2d : Ls w1.drew (.slice pb n2 cb) m := h2
      go_wp2_with fail
      go_region_held3 (fun w' => w'.cell? ⟨w.heap.size, 0, none⟩ = some (.bool true) ∧ w'.cell? ⟨w.heap.size, 1, none⟩ = some (.slice pa n1 ca) ∧ w'.cell? ⟨w.heap.size + 1, 1, none⟩ = some (.slice pb n2 cb))
        (first | exact ⟨k0, k1, k3⟩ | exact ⟨lkeep hb2 k0, lkeep hb2 k1, lkeep hb2 k3⟩)
        ((go_at_call 83; (with_reducible refine (hl _ h1d h2d).mono ?_); rintro e w2 ⟨rfl, hb2⟩))
      all_goals
        have B2 := hB.drew.trans (hb2.mono hB.drew.size)
        go_wp2
        go_ret
        exact ⟨rfl, by (repeat (first | with_reducible exact Below.refl _ _ | with_reducible assumption | refine Below.alloc ?_ (by (try simp); try omega) _ | refine Below.setCell ?_ (by (try simp); try omega) _ | refine below_drewN ?_ _ | refine Below.drew ?_ | (with_reducible refine Below.trans ?_ (Below.mono (by assumption) (by (try simp); try omega)))))⟩
    · simp at hc
      subst hc
      go_enter Tryd.func67, Tryd.ntmps67
      go_wp2_with fail
      go_at_call 17
      refine (hs _ h1 h2).mono ?_
      rintro e w1 ⟨rfl, hb1⟩
      replace bA := bA.keep hb1
      replace bB := bB.keep hb1
      replace h1 := h1.keep hb1
      replace h2 := h2.keep hb1
      replace hB := hB.trans (hb1.mono hB.size)
      have k0 := bA.c0
      have k1 := bA.c1
      have k2 := bB.c0
      have k3 := bB.c1
      clear rbA0 rbA1 rbB0 rbB1 hb1 hs
      have h1d : Ls w1.drew (.slice pa n1 ca) l := h1
      have h2d : Ls w1.drew (.slice pb n2 cb) m := h2
      go_wp2_with fail
      go_region_held3 (fun w' => w'.cell? ⟨w.heap.size, 0, none⟩ = some (.bool true) ∧ w'.cell? ⟨w.heap.size, 1, none⟩ = some (.slice pa n1 ca) ∧ w'.cell? ⟨w.heap.size + 1, 1, none⟩ = some (.slice pb n2 cb))
        (first | exact ⟨k0, k1, k3⟩ | exact ⟨lkeep hb2 k0, lkeep hb2 k1, lkeep hb2 k3⟩)
        ((go_at_call 83; (with_reducible refine (hl _ h1d h2d).mono ?_); rintro e w2 ⟨rfl, hb2⟩))
      all_goals
        have B2 := hB.drew.trans (hb2.mono hB.drew.size)
        go_wp2
        go_ret
        exact ⟨rfl, by (repeat (first | with_reducible exact Below.refl _ _ | with_reducible assumption | refine Below.alloc ?_ (by (try simp); try omega) _ | refine Below.setCell ?_ (by (try simp); try omega) _ | refine below_drewN ?_ _ | refine Below.drew ?_ | (with_reducible refine Below.trans ?_ (Below.mono (by assumption) (by (try simp); try omega)))))⟩
  · simp at hc
    subst hc
    go_enter Tryd.func67, Tryd.ntmps67
    go_wp2_with (go_at_call 17; refine (hs _ h1 h2).mono ?_; rintro e w1 ⟨rfl, hb1⟩)
    go_ret
    exact ⟨rfl, hB.trans (hb1.mono hB.size)⟩
theorem rorder_num (A B : Value) (x y : Int) (w : World) (hA : Lg w A x) (hB : Lg w B y) (l1 : Dl x ≤ 1000000) (l2 : Dl y ≤ 1000000) :
    Calls Tryd.prog 67 #[A, B] w fun e w' => e = .returned (.int .i64 (cmpI x y)) ∧ Below w.heap.size w w' := by
  obtain ⟨s1, rfl, h1⟩ := hA
  obtain ⟨s2, rfl, h2⟩ := hB
  refine rorder_raw _ _ (decide (x = y)) (decide ((x.natAbs : Int) < (y.natAbs : Int))) s1 s2 _ _ _ w h1 h2 (fun w h1 h2 => ?_) (fun w h1 h2 => rless_num s1 s2 _ _ w (by omega) (by omega) h1 h2 l1 l2) ?_
  · have := rsame_any (decide (x < 0)) (decide (y < 0)) s1 s2 _ _ w h1 h2 l1 l2
    rwa [lg_eq] at this
  · rcases Int.lt_trichotomy x y with h | h | h
    · rw [cmpI_lt h]
      have e1 : x ≠ y := by omega
      by_cases hx : x < 0 <;> by_cases hy : y < 0 <;> simp [e1, hx, hy] <;> omega
    · rw [cmpI_eq h]; simp [h]
    · rw [cmpI_gt h]
      have e1 : x ≠ y := by omega
      by_cases hx : x < 0 <;> by_cases hy : y < 0 <;> simp [e1, hx, hy] <;> omega

end Go.Proofs.YtoppdbgodceaiaaDoor
