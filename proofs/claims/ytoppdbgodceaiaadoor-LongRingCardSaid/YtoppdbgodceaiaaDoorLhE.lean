/-
  Walks of package long: Neg; numbers out of Cmp.
-/
import Derived.Test.YtoppdbgodceaiaaDoorLhD
namespace Go.Proofs.YtoppdbgodceaiaaDoor
open Go.RowKit
/-- A valid long integer's sign and size. -/
theorem lg_sign {z : Int} (h : (dg (z.natAbs : Int)).length ≤ 600) : (0 : Int) ≤ (z.natAbs : Int) ∧ (decide (z < 0) = true → 0 < (z.natAbs : Int)) ∧ sg (decide (z < 0)) (z.natAbs : Int) = z := ⟨by omega, fun h => by have := of_decide_eq_true h; omega, sg_num z⟩
/-- The call returned the number z, and no error. -/
def OkL (z : Int) (e : Ending) (w' : World) : Prop := ∃ p a n c, e = .returned (.tuple #[.agg #[.bool p, .slice a n c], .int .i64 0]) ∧ Lg w' (.agg #[.bool p, .slice a n c]) z
theorem RL.ok {z : Int} {e : Ending} {w : World} (h : RL z e w) (hl : (dg (z.natAbs : Int)).length ≤ 600) : OkL z e w := by
  rcases h with ⟨_, V, he, s, hV, hs⟩ | ⟨h, _⟩
  · subst hV
    have hs' := hs
    obtain ⟨a, c, rfl, _⟩ := hs
    exact ⟨_, _, _, _, he, _, rfl, hs'⟩
  · omega
theorem cmp_num (A B : Value) (x y : Int) (w : World) (hA : Lg w A x) (hB : Lg w B y) (l1 : (dg (x.natAbs : Int)).length ≤ 600) (l2 : (dg (y.natAbs : Int)).length ≤ 600) :
    Calls Tryd.prog 21 #[A, B] w fun e w' => e = .returned (.tuple #[.int .i64 (cmpI x y), .int .i64 0]) ∧ Below w.heap.size w w' := by
  obtain ⟨s1, rfl, h1⟩ := hA
  obtain ⟨s2, rfl, h2⟩ := hB
  obtain ⟨x0, xn, xs⟩ := lg_sign l1
  obtain ⟨y0, yn, ys⟩ := lg_sign l2
  have hv : ckT (ckL (decide (x < 0)) (dg (x.natAbs : Int))) (ckL (decide (y < 0)) (dg (y.natAbs : Int))) = 0 := by rw [ckL_num l1, ckL_num l2]; rfl
  have : cmpI x y = cmpI (sg (decide (x < 0)) (x.natAbs : Int)) (sg (decide (y < 0)) (y.natAbs : Int)) := by rw [xs, ys]
  rw [this]
  generalize hx : (x.natAbs : Int) = a at *
  generalize hy : (y.natAbs : Int) = b at *
  cases hbx : decide (x < 0) <;> cases hby : decide (y < 0) <;> rw [hbx] at hv xn <;> rw [hby] at hv yn
  · exact cmp_false_false s1 s2 _ _ w h1 h2 (by omega) (by omega) a b x0 y0 rfl rfl l1 l2 hv
  · exact cmp_false_true s1 s2 _ _ w h1 h2 (by omega) (by omega) a b x0 y0 rfl rfl l1 l2 hv (yn rfl)
  · exact cmp_true_false s1 s2 _ _ w h1 h2 (by omega) (by omega) a b x0 y0 rfl rfl l1 l2 hv (xn rfl)
  · exact cmp_true_true s1 s2 _ _ w h1 h2 (by omega) (by omega) a b x0 y0 rfl rfl l1 l2 hv (xn rfl) (yn rfl)

set_option maxRecDepth 100000 in
set_option maxHeartbeats 1000000 in
theorem neg_raw (b1 : Bool) (s1 : Value) (l : List Int) (w : World) (h1 : Ls w s1 l) (ll : l.length ≤ 1000000) (x z : Int) (x0 : 0 ≤ x) (hx : l = dg x) (l6 : l.length ≤ 600) (hv : ckL b1 l = 0) (hz : z = if (!b1) then -x else x) (hzl : (dg (z.natAbs : Int)).length ≤ 600) :
    Calls Tryd.prog 33 #[.agg #[.bool b1, s1]] w fun e w' => OkL z e w' ∧ Below w.heap.size w w' := by
  have hcl := fun w (h : Ls w s1 l) => cloneI s1 l w h (by omega)
  have hsg := fun d w (h : Ls w d l) => (signed_num (!b1) d x z w x0 (hx ▸ h) (by rw [← hx]; omega) hz).mono fun _ _ k => (⟨k.1.ok hzl, k.2⟩ : OkL z _ _ ∧ _)
  clear hx hz hzl
  have a1 := Below.alloc (Below.refl w.heap.size w) (Nat.le_refl _) (.cells #[.bool b1, s1] 24)
  have a2 := Below.alloc a1 a1.size (.cells #[.bool false, .slice none 0 0] 24)
  have a3 := Below.alloc a2 a2.size (.cells #[.bool b1, s1] 24)
  have h1' := h1
  obtain ⟨pa, ca, rfl, hca', hqa⟩ := h1
  clear hca' hqa
  generalize hsl1 : (Value.slice pa l.length ca) = sl1 at *
  have e0 : (((w.alloc (.cells #[.bool b1, sl1] 24)).alloc (.cells #[.bool false, .slice none 0 0] 24)).alloc (.cells #[.bool b1, sl1] 24)).cell? ⟨w.heap.size + 1 + 1, 0, none⟩ = some (.bool b1) := by simp [go_sem]
  have e1 : (((w.alloc (.cells #[.bool b1, sl1] 24)).alloc (.cells #[.bool false, .slice none 0 0] 24)).alloc (.cells #[.bool b1, sl1] 24)).cell? ⟨w.heap.size + 1 + 1, 1, none⟩ = some (sl1) := by simp [go_sem]
  have hck := checkAll1_any b1 _ _ (w.heap.size + 1 + 1) _ (h1'.keep a3) ll e0 e1
  rw [hv] at hck
  have k0 : ∀ w1, Below (((w.alloc (.cells #[.bool b1, sl1] 24)).alloc (.cells #[.bool false, .slice none 0 0] 24)).alloc (.cells #[.bool b1, sl1] 24)).heap.size (((w.alloc (.cells #[.bool b1, sl1] 24)).alloc (.cells #[.bool false, .slice none 0 0] 24)).alloc (.cells #[.bool b1, sl1] 24)) w1 → w1.cell? ⟨w.heap.size, 0, none⟩ = some (.bool b1) ∧ w1.cell? ⟨w.heap.size, 1, none⟩ = some (sl1) ∧ w.heap.size < w1.heap.size ∧ w1.cell? ⟨w.heap.size + 1, 0, none⟩ = some (.bool false) ∧ w1.frozen? ⟨w.heap.size + 1, 0, none⟩ = false ∧ w1.cell? ⟨w.heap.size + 1, 1, none⟩ = some (.slice none 0 0) ∧ w1.frozen? ⟨w.heap.size + 1, 1, none⟩ = false ∧ w.heap.size + 1 < w1.heap.size := fun w1 hb => ⟨lkeep hb (by simp [go_sem]), lkeep hb (by simp [go_sem]), by have := hb.size; simp at this; omega, lkeep hb (by simp [go_sem]), (hb.frozen (by simp [go_sem] <;> omega)).trans (by simp [go_sem]), lkeep hb (by simp [go_sem]), (hb.frozen (by simp [go_sem] <;> omega)).trans (by simp [go_sem]), by have := hb.size; simp at this; omega⟩
  clear e0 e1
  have bR0 : Bx (((w.alloc (.cells #[.bool b1, sl1] 24)).alloc (.cells #[.bool false, .slice none 0 0] 24)).alloc (.cells #[.bool b1, sl1] 24)) (w.heap.size + 1) (.bool false) (.slice none 0 0) 24 := by
    have := (Bx.new (w.alloc (.cells #[.bool b1, sl1] 24)) (.bool false) (.slice none 0 0) 24).alloc (.cells #[.bool b1, sl1] 24)
    rwa [show (w.alloc (.cells #[.bool b1, sl1] 24)).heap.size = w.heap.size + 1 by simp] at this
  subst hsl1
  go_enter Tryd.func33, Tryd.ntmps33
  go_wp2_with fail
  go_at_call 64
  refine hck.mono ?_
  rintro e w1 ⟨rfl, hb1⟩
  obtain ⟨c00, c01, y0, c10, z10, c11, z11, y1⟩ := k0 w1 hb1
  have B1 := a3.trans (hb1.mono a3.size)
  have h3 := h1'.keep B1
  have bR1 := bR0.keep hb1
  clear h1' bR0 hck k0 hb1 a1 a2 a3
  go_wp2_with fail
  have h3d : Ls w1.drew (.slice pa l.length ca) l := h3
  go_region_held3 (fun w' => w'.cell? ⟨w.heap.size, 0, none⟩ = some (.bool b1) ∧ w'.cell? ⟨w.heap.size, 1, none⟩ = some (.slice pa l.length ca))
    ((first | exact ⟨c00, c01⟩ | exact ⟨lkeep hb2 c00, lkeep hb2 c01⟩ | exact ⟨d00, d01⟩ | (refine ⟨?_, ?_⟩ <;> simp [go_sem, d00, d01])))
    (first | (go_at_call 59; refine (hcl _ h3d).mono ?_; rintro e w2 ⟨v, rfl, hv2, hb2⟩) | (go_at_call 74; refine (hsg _ _ hv2).mono ?_; rintro e w3 ⟨⟨p, a, n, c, rfl, hL⟩, hb3⟩; have bR3 := (show Bx w1.drew _ _ _ _ from bR1).keep hb2 |>.keep hb3; have r0 := bR3.c0; have r1 := bR3.c1; have f0 := bR3.f 0; have f1 := bR3.f 1; have y3 := bR3.lt; have d00 := lkeep hb3 (lkeep hb2 (show w1.drew.cell? _ = _ from c00)); have d01 := lkeep hb3 (lkeep hb2 (show w1.drew.cell? _ = _ from c01))))
  have B2 := B1.drew.trans (hb2.mono B1.drew.size)
  have B3 := B2.trans (hb3.mono B2.size)
  have hLr : Lg ((w3.setCell ⟨w.heap.size + 1, 0, none⟩ (.bool p)).setCell ⟨w.heap.size + 1, 1, none⟩ (.slice a n c)) (.agg #[.bool p, .slice a n c]) z := by
    obtain ⟨s, hs, hl⟩ := hL
    exact ⟨s, hs, hl.boxed bR3 (nb _) (ns _ _ _) _⟩
  go_wp2
  refine bodyPost_ret (v := .tuple #[.agg #[.bool p, .slice a n c], .int .i64 0]) (by simp [results, Tryd.results33, go_sem, y3, r0, r1, f0, f1]) rfl ⟨⟨p, a, n, c, rfl, hLr⟩, by (repeat (first | with_reducible exact Below.refl _ _ | with_reducible assumption | refine Below.alloc ?_ (by (try simp); try omega) _ | refine Below.setCell ?_ (by (try simp); try omega) _ | refine below_drewN ?_ _ | refine Below.drew ?_ | (with_reducible refine Below.trans ?_ (Below.mono (by assumption) (by (try simp); try omega)))))⟩
theorem neg_num (A : Value) (x : Int) (w : World) (hA : Lg w A x) (l1 : (dg (x.natAbs : Int)).length ≤ 600) :
    Calls Tryd.prog 33 #[A] w fun e w' => OkL (-x) e w' ∧ Below w.heap.size w w' := by
  obtain ⟨s1, rfl, h1⟩ := hA
  refine neg_raw (decide (x < 0)) s1 _ w h1 (by omega) (x.natAbs : Int) (-x) (by omega) rfl l1 (ckL_num l1) ?_ (by rw [Int.natAbs_neg]; exact l1)
  by_cases h : x < 0 <;> simp [h] <;> omega
end Go.Proofs.YtoppdbgodceaiaaDoor
