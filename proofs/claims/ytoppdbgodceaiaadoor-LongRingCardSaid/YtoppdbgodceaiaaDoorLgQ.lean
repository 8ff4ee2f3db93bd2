/-
  Walks of package long: sum.
-/
import Derived.Test.YtoppdbgodceaiaaDoorLgP
namespace Go.Proofs.YtoppdbgodceaiaaDoor
open Go.RowKit

/-- A number by its sign and its size. -/
def sg (b : Bool) (x : Int) : Int := if b then -x else x
set_option maxRecDepth 100000 in
set_option maxHeartbeats 1000000 in
theorem sum_any (b1 b2 : Bool) (s1 s2 : Value) (x y z : Int) (w : World) (x0 : 0 ≤ x) (y0 : 0 ≤ y) (h1 : Ls w s1 (dg x)) (h2 : Ls w s2 (dg y)) (l1 : (dg x).length ≤ 600) (l2 : (dg y).length ≤ 600) (hz : z = sg b1 x + sg b2 y) :
    Calls Tryd.prog 72 #[.agg #[.bool b1, s1], .agg #[.bool b2, s2]] w fun e w' => RL z e w' ∧ Below w.heap.size w w' := by
  have a1 := Below.alloc (Below.refl w.heap.size w) (Nat.le_refl _) (.cells #[.bool b1, s1] 24)
  have a2 := Below.alloc a1 a1.size (.cells #[.bool b2, s2] 24)
  have a3 := Below.alloc a2 a2.size (.cells #[.bool false, .slice none 0 0] 24)
  have h1' := h1
  have h2' := h2
  obtain ⟨pa, ca, rfl, hca', hqa⟩ := h1
  obtain ⟨pb, cb, rfl, hcb', hqb⟩ := h2
  clear hca' hqa hcb' hqb
  have g1 : (w.alloc (.cells #[.bool b1, .slice pa (dg x).length ca] 24)).heap.size = w.heap.size + 1 := by simp
  have g2 : ((w.alloc (.cells #[.bool b1, .slice pa (dg x).length ca] 24)).alloc (.cells #[.bool b2, .slice pb (dg y).length cb] 24)).heap.size = w.heap.size + 1 + 1 := by simp
  have bA : Bx (((w.alloc (.cells #[.bool b1, .slice pa (dg x).length ca] 24)).alloc (.cells #[.bool b2, .slice pb (dg y).length cb] 24)).alloc (.cells #[.bool false, .slice none 0 0] 24)) w.heap.size (.bool b1) (.slice pa (dg x).length ca) 24 := ((Bx.new w _ _ _).alloc _).alloc _
  have bB : Bx (((w.alloc (.cells #[.bool b1, .slice pa (dg x).length ca] 24)).alloc (.cells #[.bool b2, .slice pb (dg y).length cb] 24)).alloc (.cells #[.bool false, .slice none 0 0] 24)) (w.heap.size + 1) (.bool b2) (.slice pb (dg y).length cb) 24 := by
    have := (Bx.new (w.alloc (.cells #[.bool b1, .slice pa (dg x).length ca] 24)) (.bool b2) (.slice pb (dg y).length cb) 24).alloc (.cells #[.bool false, .slice none 0 0] 24)
    rwa [g1] at this
  have bR : Bx (((w.alloc (.cells #[.bool b1, .slice pa (dg x).length ca] 24)).alloc (.cells #[.bool b2, .slice pb (dg y).length cb] 24)).alloc (.cells #[.bool false, .slice none 0 0] 24)) (w.heap.size + 1 + 1) (.bool false) (.slice none 0 0) 24 := by
    have := Bx.new ((w.alloc (.cells #[.bool b1, .slice pa (dg x).length ca] 24)).alloc (.cells #[.bool b2, .slice pb (dg y).length cb] 24)) (.bool false) (.slice none 0 0) 24
    rwa [g2] at this
  have cA0 := bA.c0
  have cA1 := bA.c1
  have cB0 := bB.c0
  have cB1 := bB.c1
  by_cases hb : b1 = b2
  · subst hb
    have hz' : z = if b1 then -(x + y) else x + y := by rw [hz]; unfold sg; cases b1 <;> simp; omega
    have hc := comb_plus b1 b1 b1 _ _ x y z _ x0 y0 (h1'.keep a3) (h2'.keep a3) l1 l2 hz'
    have hbb : (b1 == b1) = true := by simp
    clear hz hz'
    go_enter Tryd.func72, Tryd.ntmps72
    go_wp2_with fail
    go_at_call 76
    refine (hc).mono ?_
    rintro e w2 ⟨hRL, hb2⟩
    have B2 := a3.trans (hb2.mono a3.size)
    have bR2 := bR.keep hb2
    have hz5 := bR2.lt
    have r0 := bR2.c0
    have r1 := bR2.c1
    have z0 := bR2.f 0
    have z1 := bR2.f 1
    clear hc bA bB bR cA0 cA1 cB0 cB1 hb2 a1 a2
    rcases hRL with ⟨hl, V, rfl, s, rfl, hs⟩ | ⟨hl, rfl⟩
    · obtain ⟨sg, hsg⟩ : ∃ sg, decide (z < 0) = sg := ⟨_, rfl⟩
      rw [hsg]
      replace hsg := Lib.hid hsg
      have hs' := hs
      obtain ⟨ps, cs, rfl, _, _⟩ := hs
      go_wp2
      refine bodyPost_ret (v := .tuple #[.agg #[.bool sg, .slice ps (dg (z.natAbs : Int)).length cs], .int .i64 0]) (by simp [results, Tryd.results72, go_sem, hz5, r0, r1, z0, z1]) rfl ⟨?_, by (repeat (first | with_reducible exact Below.refl _ _ | with_reducible assumption | refine Below.alloc ?_ (by (try simp); try omega) _ | refine Below.setCell ?_ (by (try simp); try omega) _ | refine below_drewN ?_ _ | refine Below.drew ?_ | (with_reducible refine Below.trans ?_ (Below.mono (by assumption) (by (try simp); try omega)))))⟩
      refine .inl ⟨hl, _, rfl, _, by rw [hsg.out], ?_⟩
      exact hs'.boxed bR2 (nb _) (ns _ _ _) _
    · go_wp2
      refine bodyPost_ret (v := .tuple #[.agg #[.bool false, .slice none 0 0], .int .i64 6]) (by simp [results, Tryd.results72, go_sem, hz5, r0, r1, z0, z1]) rfl ⟨.inr ⟨hl, rfl⟩, by (repeat (first | with_reducible exact Below.refl _ _ | with_reducible assumption | refine Below.alloc ?_ (by (try simp); try omega) _ | refine Below.setCell ?_ (by (try simp); try omega) _ | refine below_drewN ?_ _ | refine Below.drew ?_ | (with_reducible refine Below.trans ?_ (Below.mono (by assumption) (by (try simp); try omega)))))⟩
  · have hbb : (b1 == b2) = false := by simpa using hb
    have hcm := compare_num _ _ x y _ x0 y0 (h1'.keep a3) (h2'.keep a3) (by omega) (by omega)
    by_cases hxy : y ≤ x
    · have hz' : z = if b1 then -(x - y) else x - y := by rw [hz]; unfold sg; cases b1 <;> cases b2 <;> simp at hb ⊢ <;> omega
      have hd : 0 ≤ cmpI x y := by unfold cmpI; rw [if_neg (by omega)]; split <;> omega
      generalize cmpI x y = d at *
      have hc := fun w h h' => comb_minus b1 b2 b1 (.slice pa (dg x).length ca) (.slice pb (dg y).length cb) x y z w x0 y0 h h' l1 l2 hxy hz'
      clear hz hz' hb
      go_enter Tryd.func72, Tryd.ntmps72
      go_wp2_with fail
      go_at_call 65
      refine hcm.mono ?_
      rintro e w1 ⟨rfl, hb1⟩
      have B1 := a3.trans (hb1.mono a3.size)
      have bA1 := bA.keep hb1
      have bB1 := bB.keep hb1
      have bR1 := bR.keep hb1
      have cA0' := bA1.c0
      have cA1' := bA1.c1
      have cB0' := bB1.c0
      have cB1' := bB1.c1
      have h3 := h1'.keep B1
      have h4 := h2'.keep B1
      clear hcm cA0 cA1 cB0 cB1 bA bB bR hb1
      go_wp2_with fail
      go_at_call 76
      refine (hc _ h3 h4).mono ?_
      rintro e w2 ⟨hRL, hb2⟩
      have B2 := B1.trans (hb2.mono B1.size)
      have bR2 := bR1.keep hb2
      have hz5 := bR2.lt
      have r0 := bR2.c0
      have r1 := bR2.c1
      have z0 := bR2.f 0
      have z1 := bR2.f 1
      rcases hRL with ⟨hl, V, rfl, s, rfl, hs⟩ | ⟨hl, rfl⟩
      · obtain ⟨sg, hsg⟩ : ∃ sg, decide (z < 0) = sg := ⟨_, rfl⟩
        rw [hsg]
        replace hsg := Lib.hid hsg
        have hs' := hs
        obtain ⟨ps, cs, rfl, _, _⟩ := hs
        go_wp2
        refine bodyPost_ret (v := .tuple #[.agg #[.bool sg, .slice ps (dg (z.natAbs : Int)).length cs], .int .i64 0]) (by simp [results, Tryd.results72, go_sem, hz5, r0, r1, z0, z1]) rfl ⟨?_, by (repeat (first | with_reducible exact Below.refl _ _ | with_reducible assumption | refine Below.alloc ?_ (by (try simp); try omega) _ | refine Below.setCell ?_ (by (try simp); try omega) _ | refine below_drewN ?_ _ | refine Below.drew ?_ | (with_reducible refine Below.trans ?_ (Below.mono (by assumption) (by (try simp); try omega)))))⟩
        refine .inl ⟨hl, _, rfl, _, by rw [hsg.out], ?_⟩
        exact hs'.boxed bR2 (nb _) (ns _ _ _) _
      · go_wp2
        refine bodyPost_ret (v := .tuple #[.agg #[.bool false, .slice none 0 0], .int .i64 6]) (by simp [results, Tryd.results72, go_sem, hz5, r0, r1, z0, z1]) rfl ⟨.inr ⟨hl, rfl⟩, by (repeat (first | with_reducible exact Below.refl _ _ | with_reducible assumption | refine Below.alloc ?_ (by (try simp); try omega) _ | refine Below.setCell ?_ (by (try simp); try omega) _ | refine below_drewN ?_ _ | refine Below.drew ?_ | (with_reducible refine Below.trans ?_ (Below.mono (by assumption) (by (try simp); try omega)))))⟩
    · have hz' : z = if b2 then -(y - x) else y - x := by rw [hz]; unfold sg; cases b1 <;> cases b2 <;> simp at hb ⊢ <;> omega
      rw [cmpI_lt (by omega)] at hcm
      have hc := fun w h h' => comb_minus b2 b1 b2 (.slice pb (dg y).length cb) (.slice pa (dg x).length ca) y x z w y0 x0 h h' l2 l1 (by omega) hz'
      clear hz hz' hb
      go_enter Tryd.func72, Tryd.ntmps72
      go_wp2_with fail
      go_at_call 65
      refine hcm.mono ?_
      rintro e w1 ⟨rfl, hb1⟩
      have B1 := a3.trans (hb1.mono a3.size)
      have bA1 := bA.keep hb1
      have bB1 := bB.keep hb1
      have bR1 := bR.keep hb1
      have cA0' := bA1.c0
      have cA1' := bA1.c1
      have cB0' := bB1.c0
      have cB1' := bB1.c1
      have h3 := h1'.keep B1
      have h4 := h2'.keep B1
      clear hcm cA0 cA1 cB0 cB1 bA bB bR hb1
      go_wp2_with fail
      go_at_call 76
      refine (hc _ h4 h3).mono ?_
      rintro e w2 ⟨hRL, hb2⟩
      have B2 := B1.trans (hb2.mono B1.size)
      have bR2 := bR1.keep hb2
      have hz5 := bR2.lt
      have r0 := bR2.c0
      have r1 := bR2.c1
      have z0 := bR2.f 0
      have z1 := bR2.f 1
      rcases hRL with ⟨hl, V, rfl, s, rfl, hs⟩ | ⟨hl, rfl⟩
      · obtain ⟨sg, hsg⟩ : ∃ sg, decide (z < 0) = sg := ⟨_, rfl⟩
        rw [hsg]
        replace hsg := Lib.hid hsg
        have hs' := hs
        obtain ⟨ps, cs, rfl, _, _⟩ := hs
        go_wp2
        refine bodyPost_ret (v := .tuple #[.agg #[.bool sg, .slice ps (dg (z.natAbs : Int)).length cs], .int .i64 0]) (by simp [results, Tryd.results72, go_sem, hz5, r0, r1, z0, z1]) rfl ⟨?_, by (repeat (first | with_reducible exact Below.refl _ _ | with_reducible assumption | refine Below.alloc ?_ (by (try simp); try omega) _ | refine Below.setCell ?_ (by (try simp); try omega) _ | refine below_drewN ?_ _ | refine Below.drew ?_ | (with_reducible refine Below.trans ?_ (Below.mono (by assumption) (by (try simp); try omega)))))⟩
        refine .inl ⟨hl, _, rfl, _, by rw [hsg.out], ?_⟩
        exact hs'.boxed bR2 (nb _) (ns _ _ _) _
      · go_wp2
        refine bodyPost_ret (v := .tuple #[.agg #[.bool false, .slice none 0 0], .int .i64 6]) (by simp [results, Tryd.results72, go_sem, hz5, r0, r1, z0, z1]) rfl ⟨.inr ⟨hl, rfl⟩, by (repeat (first | with_reducible exact Below.refl _ _ | with_reducible assumption | refine Below.alloc ?_ (by (try simp); try omega) _ | refine Below.setCell ?_ (by (try simp); try omega) _ | refine below_drewN ?_ _ | refine Below.drew ?_ | (with_reducible refine Below.trans ?_ (Below.mono (by assumption) (by (try simp); try omega)))))⟩
end Go.Proofs.YtoppdbgodceaiaaDoor
