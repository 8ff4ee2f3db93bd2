/-
  The statements' helpers own and size.
-/
import Derived.Test.YtoppdbgodceaiaaDoorLiC
namespace Go.Proofs.YtoppdbgodceaiaaDoor
open Go.RowKit

set_option maxRecDepth 100000 in
set_option maxHeartbeats 1000000 in
theorem own_any (b : Bool) (s : Value) (l : List Int) (w : World) (h : Ls w s l) (hl : l.length ≤ 9223372036854775807) :
    Calls Tryd.prog 28 #[.agg #[.bool b, s]] w fun e w' => ∃ a n c, e = .returned (.agg #[.bool b, .slice a n c]) ∧ Ls w' (.slice a n c) (l.take 60) ∧ Below w.heap.size w w' := by
  have a1 := Below.alloc (Below.refl w.heap.size w) (Nat.le_refl _) (.cells #[.bool b, s] 24)
  have a2 := Below.alloc a1 a1.size (.cells #[.bool false, .slice none 0 0] 24)
  obtain ⟨pa, ca, rfl, ⟨hca', hna⟩, hpa⟩ := h
  obtain ⟨k, hk⟩ : ∃ k, min l.length 60 = k := ⟨_, rfl⟩
  have hmin : min (l.length : Int) 60 = (k : Int) := by omega
  have hk0 : k ≤ l.length := by omega
  have hkc : k ≤ ca := by omega
  have hT : Ls w (.slice pa k ca) (l.take 60) := by
    have e : (l.take 60).length = k := by rw [List.length_take]; omega
    refine ⟨pa, ca, by rw [e], ⟨by omega, hna⟩, fun h0 => ?_⟩
    obtain ⟨bb, off, rfl, hc⟩ := hpa (by omega)
    exact ⟨bb, off, rfl, fun i hi => by rw [hc i (by omega), el_take (by omega)]⟩
  have htl : (l.take 60).length ≤ 100000 := by rw [List.length_take]; omega
  have hn0 : pa = none → k = 0 := fun h => by have := hna h; omega
  generalize l.take 60 = t at *
  generalize l.length = len at *
  clear hpa hk
  have bA : Bx ((w.alloc (.cells #[.bool b, .slice pa len ca] 24)).alloc (.cells #[.bool false, .slice none 0 0] 24)) w.heap.size (.bool b) (.slice pa len ca) 24 := (Bx.new w _ _ _).alloc _
  have bR : Bx ((w.alloc (.cells #[.bool b, .slice pa len ca] 24)).alloc (.cells #[.bool false, .slice none 0 0] 24)) (w.heap.size + 1) (.bool false) (.slice none 0 0) 24 := by
    have := Bx.new (w.alloc (.cells #[.bool b, .slice pa len ca] 24)) (.bool false) (.slice none 0 0) 24
    simpa using this
  go_enter Tryd.func28, Tryd.ntmps28
  go_wp2_with fail
  go_at_call 59
  refine (cloneI _ t _ (hT.keep a2) htl).mono ?_
  rintro e w1 ⟨u, rfl, hu, hb⟩
  replace bA := bA.keep hb
  replace bR := bR.keep hb
  have hB : Below w.heap.size w w1 := by (repeat (first | with_reducible exact Below.refl _ _ | with_reducible assumption | refine Below.alloc ?_ (by (try simp); try omega) _ | refine Below.setCell ?_ (by (try simp); try omega) _ | refine below_drewN ?_ _ | refine Below.drew ?_ | (with_reducible refine Below.trans ?_ (Below.mono (by assumption) (by (try simp); try omega)))))
  have hu' := hu
  obtain ⟨pu, cu, rfl, _, _⟩ := hu
  clear hb a1 a2 hT
  have r0 := bA.c0
  have r1 := bA.c1
  have z0 := bA.f 0
  have z1 := bA.f 1
  have q0 := bR.c0
  have q1 := bR.c1
  have y0 := bR.f 0
  have y1 := bR.f 1
  have lR := bR.lt
  have lA := bA.lt
  have hfin : Ls (((w1.setCell ⟨w.heap.size, 1, none⟩ (.slice pu t.length cu)).setCell ⟨w.heap.size + 1, 0, none⟩ (.bool b)).setCell ⟨w.heap.size + 1, 1, none⟩ (.slice pu t.length cu)) (.slice pu t.length cu) t :=
    (hu'.box bA (nb _) (ns _ _ _) _).boxed (bR.other (by omega) _) (nb _) (ns _ _ _) _
  have Hfin := Lib.hid hfin
  clear hfin hu'
  go_wp2
  refine bodyPost_ret (v := .agg #[.bool b, .slice pu t.length cu]) (by simp [results, Tryd.results28, go_sem, *]) rfl ⟨_, _, _, rfl, Hfin.out, by (repeat (first | with_reducible exact Below.refl _ _ | with_reducible assumption | refine Below.alloc ?_ (by (try simp); try omega) _ | refine Below.setCell ?_ (by (try simp); try omega) _ | refine below_drewN ?_ _ | refine Below.drew ?_ | (with_reducible refine Below.trans ?_ (Below.mono (by assumption) (by (try simp); try omega)))))⟩

set_option maxRecDepth 100000 in
set_option maxHeartbeats 1000000 in
theorem size_num (A : Value) (z : Int) (w : World) (hA : Lg w A z) :
    Calls Tryd.prog 54 #[A] w fun e w' => LgV (z.natAbs : Int) e w' ∧ Below w.heap.size w w' := by
  obtain ⟨s, rfl, pa, ca, rfl, hq⟩ := hA
  have hL : Ls w (.slice pa (dg (z.natAbs : Int)).length ca) (dg (z.natAbs : Int)) := ⟨pa, ca, rfl, hq⟩
  have hX : ∀ w', Ls w' (.slice pa (dg (z.natAbs : Int)).length ca) (dg (z.natAbs : Int)) → Lg w' (.agg #[.bool false, .slice pa (dg (z.natAbs : Int)).length ca]) (z.natAbs : Int) := fun w' h =>
    ⟨_, by rw [show decide ((z.natAbs : Int) < 0) = false by simp], by rw [show (((z.natAbs : Int).natAbs : Nat) : Int) = (z.natAbs : Int) by omega]; exact h⟩
  generalize (dg (z.natAbs : Int)).length = n at *
  generalize decide (z < 0) = b at *
  have hfin := hX ((w.alloc (.cells #[.bool false, .slice pa n ca] 24)).alloc (.cells #[.bool false, .slice pa n ca] 24)) (hL.keep (by (repeat (first | with_reducible exact Below.refl _ _ | with_reducible assumption | refine Below.alloc ?_ (by (try simp); try omega) _ | refine Below.setCell ?_ (by (try simp); try omega) _ | refine below_drewN ?_ _ | refine Below.drew ?_ | (with_reducible refine Below.trans ?_ (Below.mono (by assumption) (by (try simp); try omega)))))))
  have Hfin := Lib.hid hfin
  clear hfin hX hL hq
  go_enter Tryd.func54, Tryd.ntmps54
  go_wp2
  refine bodyPost_ret (v := .agg #[.bool false, .slice pa n ca]) (by simp [results, Tryd.results54, go_sem]) rfl ⟨⟨_, _, _, _, rfl, Hfin.out⟩, by (repeat (first | with_reducible exact Below.refl _ _ | with_reducible assumption | refine Below.alloc ?_ (by (try simp); try omega) _ | refine Below.setCell ?_ (by (try simp); try omega) _ | refine below_drewN ?_ _ | refine Below.drew ?_ | (with_reducible refine Below.trans ?_ (Below.mono (by assumption) (by (try simp); try omega)))))⟩
end Go.Proofs.YtoppdbgodceaiaaDoor
