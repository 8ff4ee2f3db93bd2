/-
  Walks of package long: the error of a number that is not valid; Cmp; Neg.
-/
import Derived.Test.YtoppdbgodceaiaaDoorLhB
import Derived.Test.YtoppdbgodceaiaaDoorLhC
import Derived.Deep.RegionHeld3
import Derived.Deep.RegionWith
namespace Go.Proofs.YtoppdbgodceaiaaDoor
open Go.RowKit

set_option maxRecDepth 100000 in
set_option maxHeartbeats 1000000 in
theorem add_bad (b1 b2 : Bool) (s1 s2 : Value) (l m : List Int) (w : World) (h1 : Ls w s1 l) (h2 : Ls w s2 m) (ll : l.length ≤ 1000000) (lm : m.length ≤ 1000000) (hv : ckT (ckL b1 l) (ckL b2 m) = 30) :
    Calls Tryd.prog 29 #[.agg #[.bool b1, s1], .agg #[.bool b2, s2]] w fun e w' => e = .returned (.tuple #[noL, .int .i64 30]) ∧ Below w.heap.size w w' := by
  have a1 := Below.alloc (Below.refl w.heap.size w) (Nat.le_refl _) (.cells #[.bool b1, s1] 24)
  have a2 := Below.alloc a1 a1.size (.cells #[.bool b2, s2] 24)
  have a3 := Below.alloc a2 a2.size (.cells #[.bool false, .slice none 0 0] 24)
  have a4 := Below.alloc a3 a3.size (.cells #[.bool b1, s1, .bool b2, s2] 24)
  have h1' := h1
  have h2' := h2
  obtain ⟨pa, ca, rfl, hca', hqa⟩ := h1
  obtain ⟨pb, cb, rfl, hcb', hqb⟩ := h2
  clear hca' hqa hcb' hqb
  generalize hsl1 : (Value.slice pa l.length ca) = sl1 at *
  generalize hsl2 : (Value.slice pb m.length cb) = sl2 at *
  have e0 : ((((w.alloc (.cells #[.bool b1, sl1] 24)).alloc (.cells #[.bool b2, sl2] 24)).alloc (.cells #[.bool false, .slice none 0 0] 24)).alloc (.cells #[.bool b1, sl1, .bool b2, sl2] 24)).cell? ⟨w.heap.size + 1 + 1 + 1, 0, none⟩ = some (.bool b1) := by simp [go_sem]
  have e1 : ((((w.alloc (.cells #[.bool b1, sl1] 24)).alloc (.cells #[.bool b2, sl2] 24)).alloc (.cells #[.bool false, .slice none 0 0] 24)).alloc (.cells #[.bool b1, sl1, .bool b2, sl2] 24)).cell? ⟨w.heap.size + 1 + 1 + 1, 1, none⟩ = some (sl1) := by simp [go_sem]
  have e2 : ((((w.alloc (.cells #[.bool b1, sl1] 24)).alloc (.cells #[.bool b2, sl2] 24)).alloc (.cells #[.bool false, .slice none 0 0] 24)).alloc (.cells #[.bool b1, sl1, .bool b2, sl2] 24)).cell? ⟨w.heap.size + 1 + 1 + 1, 2, none⟩ = some (.bool b2) := by simp [go_sem]
  have e3 : ((((w.alloc (.cells #[.bool b1, sl1] 24)).alloc (.cells #[.bool b2, sl2] 24)).alloc (.cells #[.bool false, .slice none 0 0] 24)).alloc (.cells #[.bool b1, sl1, .bool b2, sl2] 24)).cell? ⟨w.heap.size + 1 + 1 + 1, 3, none⟩ = some (sl2) := by simp [go_sem]
  have hck := checkAll2_any b1 b2 _ _ _ _ (w.heap.size + 1 + 1 + 1) _ (h1'.keep a4) (h2'.keep a4) ll lm e0 e1 e2 e3
  rw [hv] at hck
  have k0 : ∀ w1, Below ((((w.alloc (.cells #[.bool b1, sl1] 24)).alloc (.cells #[.bool b2, sl2] 24)).alloc (.cells #[.bool false, .slice none 0 0] 24)).alloc (.cells #[.bool b1, sl1, .bool b2, sl2] 24)).heap.size ((((w.alloc (.cells #[.bool b1, sl1] 24)).alloc (.cells #[.bool b2, sl2] 24)).alloc (.cells #[.bool false, .slice none 0 0] 24)).alloc (.cells #[.bool b1, sl1, .bool b2, sl2] 24)) w1 → w1.cell? ⟨w.heap.size, 0, none⟩ = some (.bool b1) ∧ w1.cell? ⟨w.heap.size, 1, none⟩ = some (sl1) ∧ w.heap.size < w1.heap.size ∧ w1.cell? ⟨w.heap.size + 1, 0, none⟩ = some (.bool b2) ∧ w1.cell? ⟨w.heap.size + 1, 1, none⟩ = some (sl2) ∧ w.heap.size + 1 < w1.heap.size ∧ w1.cell? ⟨w.heap.size + 1 + 1, 0, none⟩ = some (.bool false) ∧ w1.frozen? ⟨w.heap.size + 1 + 1, 0, none⟩ = false ∧ w1.cell? ⟨w.heap.size + 1 + 1, 1, none⟩ = some (.slice none 0 0) ∧ w1.frozen? ⟨w.heap.size + 1 + 1, 1, none⟩ = false ∧ w.heap.size + 1 + 1 < w1.heap.size := fun w1 hb => ⟨lkeep hb (by simp [go_sem]), lkeep hb (by simp [go_sem]), by have := hb.size; simp at this; omega, lkeep hb (by simp [go_sem]), lkeep hb (by simp [go_sem]), by have := hb.size; simp at this; omega, lkeep hb (by simp [go_sem]), (hb.frozen (by simp [go_sem] <;> omega)).trans (by simp [go_sem]), lkeep hb (by simp [go_sem]), (hb.frozen (by simp [go_sem] <;> omega)).trans (by simp [go_sem]), by have := hb.size; simp at this; omega⟩
  clear e0 e1 e2 e3
  subst hsl1 hsl2
  go_enter Tryd.func29, Tryd.ntmps29
  go_wp2_with fail
  go_at_call 64
  refine hck.mono ?_
  rintro e w1 ⟨rfl, hb1⟩
  obtain ⟨c00, c01, y0, c10, c11, y1, c20, z20, c21, z21, y2⟩ := k0 w1 hb1
  have B1 := a4.trans (hb1.mono a4.size)
  clear hck k0 hb1 a1 a2 a3 a4
  go_wp2
  refine bodyPost_ret (v := .tuple #[.agg #[.bool false, .slice none 0 0], .int .i64 30]) (by simp [results, Tryd.results29, go_sem, c00, c01, y0, c10, c11, y1, c20, z20, c21, z21, y2]) rfl ⟨rfl, by (repeat (first | with_reducible exact Below.refl _ _ | with_reducible assumption | refine Below.alloc ?_ (by (try simp); try omega) _ | refine Below.setCell ?_ (by (try simp); try omega) _ | refine below_drewN ?_ _ | refine Below.drew ?_ | (with_reducible refine Below.trans ?_ (Below.mono (by assumption) (by (try simp); try omega)))))⟩
set_option maxRecDepth 100000 in
set_option maxHeartbeats 1000000 in
theorem sub_bad (b1 b2 : Bool) (s1 s2 : Value) (l m : List Int) (w : World) (h1 : Ls w s1 l) (h2 : Ls w s2 m) (ll : l.length ≤ 1000000) (lm : m.length ≤ 1000000) (hv : ckT (ckL b1 l) (ckL b2 m) = 30) :
    Calls Tryd.prog 31 #[.agg #[.bool b1, s1], .agg #[.bool b2, s2]] w fun e w' => e = .returned (.tuple #[noL, .int .i64 30]) ∧ Below w.heap.size w w' := by
  have a1 := Below.alloc (Below.refl w.heap.size w) (Nat.le_refl _) (.cells #[.bool b1, s1] 24)
  have a2 := Below.alloc a1 a1.size (.cells #[.bool b2, s2] 24)
  have a3 := Below.alloc a2 a2.size (.cells #[.bool false, .slice none 0 0] 24)
  have a4 := Below.alloc a3 a3.size (.cells #[.bool b1, s1, .bool b2, s2] 24)
  have h1' := h1
  have h2' := h2
  obtain ⟨pa, ca, rfl, hca', hqa⟩ := h1
  obtain ⟨pb, cb, rfl, hcb', hqb⟩ := h2
  clear hca' hqa hcb' hqb
  generalize hsl1 : (Value.slice pa l.length ca) = sl1 at *
  generalize hsl2 : (Value.slice pb m.length cb) = sl2 at *
  have e0 : ((((w.alloc (.cells #[.bool b1, sl1] 24)).alloc (.cells #[.bool b2, sl2] 24)).alloc (.cells #[.bool false, .slice none 0 0] 24)).alloc (.cells #[.bool b1, sl1, .bool b2, sl2] 24)).cell? ⟨w.heap.size + 1 + 1 + 1, 0, none⟩ = some (.bool b1) := by simp [go_sem]
  have e1 : ((((w.alloc (.cells #[.bool b1, sl1] 24)).alloc (.cells #[.bool b2, sl2] 24)).alloc (.cells #[.bool false, .slice none 0 0] 24)).alloc (.cells #[.bool b1, sl1, .bool b2, sl2] 24)).cell? ⟨w.heap.size + 1 + 1 + 1, 1, none⟩ = some (sl1) := by simp [go_sem]
  have e2 : ((((w.alloc (.cells #[.bool b1, sl1] 24)).alloc (.cells #[.bool b2, sl2] 24)).alloc (.cells #[.bool false, .slice none 0 0] 24)).alloc (.cells #[.bool b1, sl1, .bool b2, sl2] 24)).cell? ⟨w.heap.size + 1 + 1 + 1, 2, none⟩ = some (.bool b2) := by simp [go_sem]
  have e3 : ((((w.alloc (.cells #[.bool b1, sl1] 24)).alloc (.cells #[.bool b2, sl2] 24)).alloc (.cells #[.bool false, .slice none 0 0] 24)).alloc (.cells #[.bool b1, sl1, .bool b2, sl2] 24)).cell? ⟨w.heap.size + 1 + 1 + 1, 3, none⟩ = some (sl2) := by simp [go_sem]
  have hck := checkAll2_any b1 b2 _ _ _ _ (w.heap.size + 1 + 1 + 1) _ (h1'.keep a4) (h2'.keep a4) ll lm e0 e1 e2 e3
  rw [hv] at hck
  have k0 : ∀ w1, Below ((((w.alloc (.cells #[.bool b1, sl1] 24)).alloc (.cells #[.bool b2, sl2] 24)).alloc (.cells #[.bool false, .slice none 0 0] 24)).alloc (.cells #[.bool b1, sl1, .bool b2, sl2] 24)).heap.size ((((w.alloc (.cells #[.bool b1, sl1] 24)).alloc (.cells #[.bool b2, sl2] 24)).alloc (.cells #[.bool false, .slice none 0 0] 24)).alloc (.cells #[.bool b1, sl1, .bool b2, sl2] 24)) w1 → w1.cell? ⟨w.heap.size, 0, none⟩ = some (.bool b1) ∧ w1.cell? ⟨w.heap.size, 1, none⟩ = some (sl1) ∧ w.heap.size < w1.heap.size ∧ w1.cell? ⟨w.heap.size + 1, 0, none⟩ = some (.bool b2) ∧ w1.cell? ⟨w.heap.size + 1, 1, none⟩ = some (sl2) ∧ w.heap.size + 1 < w1.heap.size ∧ w1.cell? ⟨w.heap.size + 1 + 1, 0, none⟩ = some (.bool false) ∧ w1.frozen? ⟨w.heap.size + 1 + 1, 0, none⟩ = false ∧ w1.cell? ⟨w.heap.size + 1 + 1, 1, none⟩ = some (.slice none 0 0) ∧ w1.frozen? ⟨w.heap.size + 1 + 1, 1, none⟩ = false ∧ w.heap.size + 1 + 1 < w1.heap.size := fun w1 hb => ⟨lkeep hb (by simp [go_sem]), lkeep hb (by simp [go_sem]), by have := hb.size; simp at this; omega, lkeep hb (by simp [go_sem]), lkeep hb (by simp [go_sem]), by have := hb.size; simp at this; omega, lkeep hb (by simp [go_sem]), (hb.frozen (by simp [go_sem] <;> omega)).trans (by simp [go_sem]), lkeep hb (by simp [go_sem]), (hb.frozen (by simp [go_sem] <;> omega)).trans (by simp [go_sem]), by have := hb.size; simp at this; omega⟩
  clear e0 e1 e2 e3
  subst hsl1 hsl2
  go_enter Tryd.func31, Tryd.ntmps31
  go_wp2_with fail
  go_at_call 64
  refine hck.mono ?_
  rintro e w1 ⟨rfl, hb1⟩
  obtain ⟨c00, c01, y0, c10, c11, y1, c20, z20, c21, z21, y2⟩ := k0 w1 hb1
  have B1 := a4.trans (hb1.mono a4.size)
  clear hck k0 hb1 a1 a2 a3 a4
  go_wp2
  refine bodyPost_ret (v := .tuple #[.agg #[.bool false, .slice none 0 0], .int .i64 30]) (by simp [results, Tryd.results31, go_sem, c00, c01, y0, c10, c11, y1, c20, z20, c21, z21, y2]) rfl ⟨rfl, by (repeat (first | with_reducible exact Below.refl _ _ | with_reducible assumption | refine Below.alloc ?_ (by (try simp); try omega) _ | refine Below.setCell ?_ (by (try simp); try omega) _ | refine below_drewN ?_ _ | refine Below.drew ?_ | (with_reducible refine Below.trans ?_ (Below.mono (by assumption) (by (try simp); try omega)))))⟩
set_option maxRecDepth 100000 in
set_option maxHeartbeats 1000000 in
theorem mul_bad (b1 b2 : Bool) (s1 s2 : Value) (l m : List Int) (w : World) (h1 : Ls w s1 l) (h2 : Ls w s2 m) (ll : l.length ≤ 1000000) (lm : m.length ≤ 1000000) (hv : ckT (ckL b1 l) (ckL b2 m) = 30) :
    Calls Tryd.prog 36 #[.agg #[.bool b1, s1], .agg #[.bool b2, s2]] w fun e w' => e = .returned (.tuple #[noL, .int .i64 30]) ∧ Below w.heap.size w w' := by
  have a1 := Below.alloc (Below.refl w.heap.size w) (Nat.le_refl _) (.cells #[.bool b1, s1] 24)
  have a2 := Below.alloc a1 a1.size (.cells #[.bool b2, s2] 24)
  have a3 := Below.alloc a2 a2.size (.cells #[.bool false, .slice none 0 0] 24)
  have a4 := Below.alloc a3 a3.size (.cells #[.bool b1, s1, .bool b2, s2] 24)
  have h1' := h1
  have h2' := h2
  obtain ⟨pa, ca, rfl, hca', hqa⟩ := h1
  obtain ⟨pb, cb, rfl, hcb', hqb⟩ := h2
  clear hca' hqa hcb' hqb
  generalize hsl1 : (Value.slice pa l.length ca) = sl1 at *
  generalize hsl2 : (Value.slice pb m.length cb) = sl2 at *
  have e0 : ((((w.alloc (.cells #[.bool b1, sl1] 24)).alloc (.cells #[.bool b2, sl2] 24)).alloc (.cells #[.bool false, .slice none 0 0] 24)).alloc (.cells #[.bool b1, sl1, .bool b2, sl2] 24)).cell? ⟨w.heap.size + 1 + 1 + 1, 0, none⟩ = some (.bool b1) := by simp [go_sem]
  have e1 : ((((w.alloc (.cells #[.bool b1, sl1] 24)).alloc (.cells #[.bool b2, sl2] 24)).alloc (.cells #[.bool false, .slice none 0 0] 24)).alloc (.cells #[.bool b1, sl1, .bool b2, sl2] 24)).cell? ⟨w.heap.size + 1 + 1 + 1, 1, none⟩ = some (sl1) := by simp [go_sem]
  have e2 : ((((w.alloc (.cells #[.bool b1, sl1] 24)).alloc (.cells #[.bool b2, sl2] 24)).alloc (.cells #[.bool false, .slice none 0 0] 24)).alloc (.cells #[.bool b1, sl1, .bool b2, sl2] 24)).cell? ⟨w.heap.size + 1 + 1 + 1, 2, none⟩ = some (.bool b2) := by simp [go_sem]
  have e3 : ((((w.alloc (.cells #[.bool b1, sl1] 24)).alloc (.cells #[.bool b2, sl2] 24)).alloc (.cells #[.bool false, .slice none 0 0] 24)).alloc (.cells #[.bool b1, sl1, .bool b2, sl2] 24)).cell? ⟨w.heap.size + 1 + 1 + 1, 3, none⟩ = some (sl2) := by simp [go_sem]
  have hck := checkAll2_any b1 b2 _ _ _ _ (w.heap.size + 1 + 1 + 1) _ (h1'.keep a4) (h2'.keep a4) ll lm e0 e1 e2 e3
  rw [hv] at hck
  have k0 : ∀ w1, Below ((((w.alloc (.cells #[.bool b1, sl1] 24)).alloc (.cells #[.bool b2, sl2] 24)).alloc (.cells #[.bool false, .slice none 0 0] 24)).alloc (.cells #[.bool b1, sl1, .bool b2, sl2] 24)).heap.size ((((w.alloc (.cells #[.bool b1, sl1] 24)).alloc (.cells #[.bool b2, sl2] 24)).alloc (.cells #[.bool false, .slice none 0 0] 24)).alloc (.cells #[.bool b1, sl1, .bool b2, sl2] 24)) w1 → w1.cell? ⟨w.heap.size, 0, none⟩ = some (.bool b1) ∧ w1.cell? ⟨w.heap.size, 1, none⟩ = some (sl1) ∧ w.heap.size < w1.heap.size ∧ w1.cell? ⟨w.heap.size + 1, 0, none⟩ = some (.bool b2) ∧ w1.cell? ⟨w.heap.size + 1, 1, none⟩ = some (sl2) ∧ w.heap.size + 1 < w1.heap.size ∧ w1.cell? ⟨w.heap.size + 1 + 1, 0, none⟩ = some (.bool false) ∧ w1.frozen? ⟨w.heap.size + 1 + 1, 0, none⟩ = false ∧ w1.cell? ⟨w.heap.size + 1 + 1, 1, none⟩ = some (.slice none 0 0) ∧ w1.frozen? ⟨w.heap.size + 1 + 1, 1, none⟩ = false ∧ w.heap.size + 1 + 1 < w1.heap.size := fun w1 hb => ⟨lkeep hb (by simp [go_sem]), lkeep hb (by simp [go_sem]), by have := hb.size; simp at this; omega, lkeep hb (by simp [go_sem]), lkeep hb (by simp [go_sem]), by have := hb.size; simp at this; omega, lkeep hb (by simp [go_sem]), (hb.frozen (by simp [go_sem] <;> omega)).trans (by simp [go_sem]), lkeep hb (by simp [go_sem]), (hb.frozen (by simp [go_sem] <;> omega)).trans (by simp [go_sem]), by have := hb.size; simp at this; omega⟩
  clear e0 e1 e2 e3
  subst hsl1 hsl2
  go_enter Tryd.func36, Tryd.ntmps36
  go_wp2_with fail
  go_at_call 64
  refine hck.mono ?_
  rintro e w1 ⟨rfl, hb1⟩
  obtain ⟨c00, c01, y0, c10, c11, y1, c20, z20, c21, z21, y2⟩ := k0 w1 hb1
  have B1 := a4.trans (hb1.mono a4.size)
  clear hck k0 hb1 a1 a2 a3 a4
  go_wp2
  refine bodyPost_ret (v := .tuple #[.agg #[.bool false, .slice none 0 0], .int .i64 30]) (by simp [results, Tryd.results36, go_sem, c00, c01, y0, c10, c11, y1, c20, z20, c21, z21, y2]) rfl ⟨rfl, by (repeat (first | with_reducible exact Below.refl _ _ | with_reducible assumption | refine Below.alloc ?_ (by (try simp); try omega) _ | refine Below.setCell ?_ (by (try simp); try omega) _ | refine below_drewN ?_ _ | refine Below.drew ?_ | (with_reducible refine Below.trans ?_ (Below.mono (by assumption) (by (try simp); try omega)))))⟩
set_option maxRecDepth 100000 in
set_option maxHeartbeats 1000000 in
theorem gcd_bad (b1 b2 : Bool) (s1 s2 : Value) (l m : List Int) (w : World) (h1 : Ls w s1 l) (h2 : Ls w s2 m) (ll : l.length ≤ 1000000) (lm : m.length ≤ 1000000) (hv : ckT (ckL b1 l) (ckL b2 m) = 30) :
    Calls Tryd.prog 40 #[.agg #[.bool b1, s1], .agg #[.bool b2, s2]] w fun e w' => e = .returned (.tuple #[noL, .int .i64 30]) ∧ Below w.heap.size w w' := by
  have a1 := Below.alloc (Below.refl w.heap.size w) (Nat.le_refl _) (.cells #[.bool b1, s1] 24)
  have a2 := Below.alloc a1 a1.size (.cells #[.bool b2, s2] 24)
  have a3 := Below.alloc a2 a2.size (.cells #[.bool false, .slice none 0 0] 24)
  have a4 := Below.alloc a3 a3.size (.cells #[.bool b1, s1, .bool b2, s2] 24)
  have h1' := h1
  have h2' := h2
  obtain ⟨pa, ca, rfl, hca', hqa⟩ := h1
  obtain ⟨pb, cb, rfl, hcb', hqb⟩ := h2
  clear hca' hqa hcb' hqb
  generalize hsl1 : (Value.slice pa l.length ca) = sl1 at *
  generalize hsl2 : (Value.slice pb m.length cb) = sl2 at *
  have e0 : ((((w.alloc (.cells #[.bool b1, sl1] 24)).alloc (.cells #[.bool b2, sl2] 24)).alloc (.cells #[.bool false, .slice none 0 0] 24)).alloc (.cells #[.bool b1, sl1, .bool b2, sl2] 24)).cell? ⟨w.heap.size + 1 + 1 + 1, 0, none⟩ = some (.bool b1) := by simp [go_sem]
  have e1 : ((((w.alloc (.cells #[.bool b1, sl1] 24)).alloc (.cells #[.bool b2, sl2] 24)).alloc (.cells #[.bool false, .slice none 0 0] 24)).alloc (.cells #[.bool b1, sl1, .bool b2, sl2] 24)).cell? ⟨w.heap.size + 1 + 1 + 1, 1, none⟩ = some (sl1) := by simp [go_sem]
  have e2 : ((((w.alloc (.cells #[.bool b1, sl1] 24)).alloc (.cells #[.bool b2, sl2] 24)).alloc (.cells #[.bool false, .slice none 0 0] 24)).alloc (.cells #[.bool b1, sl1, .bool b2, sl2] 24)).cell? ⟨w.heap.size + 1 + 1 + 1, 2, none⟩ = some (.bool b2) := by simp [go_sem]
  have e3 : ((((w.alloc (.cells #[.bool b1, sl1] 24)).alloc (.cells #[.bool b2, sl2] 24)).alloc (.cells #[.bool false, .slice none 0 0] 24)).alloc (.cells #[.bool b1, sl1, .bool b2, sl2] 24)).cell? ⟨w.heap.size + 1 + 1 + 1, 3, none⟩ = some (sl2) := by simp [go_sem]
  have hck := checkAll2_any b1 b2 _ _ _ _ (w.heap.size + 1 + 1 + 1) _ (h1'.keep a4) (h2'.keep a4) ll lm e0 e1 e2 e3
  rw [hv] at hck
  have k0 : ∀ w1, Below ((((w.alloc (.cells #[.bool b1, sl1] 24)).alloc (.cells #[.bool b2, sl2] 24)).alloc (.cells #[.bool false, .slice none 0 0] 24)).alloc (.cells #[.bool b1, sl1, .bool b2, sl2] 24)).heap.size ((((w.alloc (.cells #[.bool b1, sl1] 24)).alloc (.cells #[.bool b2, sl2] 24)).alloc (.cells #[.bool false, .slice none 0 0] 24)).alloc (.cells #[.bool b1, sl1, .bool b2, sl2] 24)) w1 → w1.cell? ⟨w.heap.size, 0, none⟩ = some (.bool b1) ∧ w1.cell? ⟨w.heap.size, 1, none⟩ = some (sl1) ∧ w.heap.size < w1.heap.size ∧ w1.cell? ⟨w.heap.size + 1, 0, none⟩ = some (.bool b2) ∧ w1.cell? ⟨w.heap.size + 1, 1, none⟩ = some (sl2) ∧ w.heap.size + 1 < w1.heap.size ∧ w1.cell? ⟨w.heap.size + 1 + 1, 0, none⟩ = some (.bool false) ∧ w1.frozen? ⟨w.heap.size + 1 + 1, 0, none⟩ = false ∧ w1.cell? ⟨w.heap.size + 1 + 1, 1, none⟩ = some (.slice none 0 0) ∧ w1.frozen? ⟨w.heap.size + 1 + 1, 1, none⟩ = false ∧ w.heap.size + 1 + 1 < w1.heap.size := fun w1 hb => ⟨lkeep hb (by simp [go_sem]), lkeep hb (by simp [go_sem]), by have := hb.size; simp at this; omega, lkeep hb (by simp [go_sem]), lkeep hb (by simp [go_sem]), by have := hb.size; simp at this; omega, lkeep hb (by simp [go_sem]), (hb.frozen (by simp [go_sem] <;> omega)).trans (by simp [go_sem]), lkeep hb (by simp [go_sem]), (hb.frozen (by simp [go_sem] <;> omega)).trans (by simp [go_sem]), by have := hb.size; simp at this; omega⟩
  clear e0 e1 e2 e3
  subst hsl1 hsl2
  go_enter Tryd.func40, Tryd.ntmps40
  go_wp2_with fail
  go_at_call 64
  refine hck.mono ?_
  rintro e w1 ⟨rfl, hb1⟩
  obtain ⟨c00, c01, y0, c10, c11, y1, c20, z20, c21, z21, y2⟩ := k0 w1 hb1
  have B1 := a4.trans (hb1.mono a4.size)
  clear hck k0 hb1 a1 a2 a3 a4
  go_wp2
  refine bodyPost_ret (v := .tuple #[.agg #[.bool false, .slice none 0 0], .int .i64 30]) (by simp [results, Tryd.results40, go_sem, c00, c01, y0, c10, c11, y1, c20, z20, c21, z21, y2]) rfl ⟨rfl, by (repeat (first | with_reducible exact Below.refl _ _ | with_reducible assumption | refine Below.alloc ?_ (by (try simp); try omega) _ | refine Below.setCell ?_ (by (try simp); try omega) _ | refine below_drewN ?_ _ | refine Below.drew ?_ | (with_reducible refine Below.trans ?_ (Below.mono (by assumption) (by (try simp); try omega)))))⟩
set_option maxRecDepth 100000 in
set_option maxHeartbeats 1000000 in
theorem div_bad (b1 b2 : Bool) (s1 s2 : Value) (l m : List Int) (w : World) (h1 : Ls w s1 l) (h2 : Ls w s2 m) (ll : l.length ≤ 1000000) (lm : m.length ≤ 1000000) (hv : ckT (ckL b1 l) (ckL b2 m) = 30) :
    Calls Tryd.prog 38 #[.agg #[.bool b1, s1], .agg #[.bool b2, s2]] w fun e w' => e = .returned (.tuple #[noL, noL, .int .i64 30]) ∧ Below w.heap.size w w' := by
  have a1 := Below.alloc (Below.refl w.heap.size w) (Nat.le_refl _) (.cells #[.bool b1, s1] 24)
  have a2 := Below.alloc a1 a1.size (.cells #[.bool b2, s2] 24)
  have a3 := Below.alloc a2 a2.size (.cells #[.bool false, .slice none 0 0] 24)
  have a4 := Below.alloc a3 a3.size (.cells #[.bool false, .slice none 0 0] 24)
  have a5 := Below.alloc a4 a4.size (.cells #[.bool b1, s1, .bool b2, s2] 24)
  have h1' := h1
  have h2' := h2
  obtain ⟨pa, ca, rfl, hca', hqa⟩ := h1
  obtain ⟨pb, cb, rfl, hcb', hqb⟩ := h2
  clear hca' hqa hcb' hqb
  generalize hsl1 : (Value.slice pa l.length ca) = sl1 at *
  generalize hsl2 : (Value.slice pb m.length cb) = sl2 at *
  have e0 : (((((w.alloc (.cells #[.bool b1, sl1] 24)).alloc (.cells #[.bool b2, sl2] 24)).alloc (.cells #[.bool false, .slice none 0 0] 24)).alloc (.cells #[.bool false, .slice none 0 0] 24)).alloc (.cells #[.bool b1, sl1, .bool b2, sl2] 24)).cell? ⟨w.heap.size + 1 + 1 + 1 + 1, 0, none⟩ = some (.bool b1) := by simp [go_sem]
  have e1 : (((((w.alloc (.cells #[.bool b1, sl1] 24)).alloc (.cells #[.bool b2, sl2] 24)).alloc (.cells #[.bool false, .slice none 0 0] 24)).alloc (.cells #[.bool false, .slice none 0 0] 24)).alloc (.cells #[.bool b1, sl1, .bool b2, sl2] 24)).cell? ⟨w.heap.size + 1 + 1 + 1 + 1, 1, none⟩ = some (sl1) := by simp [go_sem]
  have e2 : (((((w.alloc (.cells #[.bool b1, sl1] 24)).alloc (.cells #[.bool b2, sl2] 24)).alloc (.cells #[.bool false, .slice none 0 0] 24)).alloc (.cells #[.bool false, .slice none 0 0] 24)).alloc (.cells #[.bool b1, sl1, .bool b2, sl2] 24)).cell? ⟨w.heap.size + 1 + 1 + 1 + 1, 2, none⟩ = some (.bool b2) := by simp [go_sem]
  have e3 : (((((w.alloc (.cells #[.bool b1, sl1] 24)).alloc (.cells #[.bool b2, sl2] 24)).alloc (.cells #[.bool false, .slice none 0 0] 24)).alloc (.cells #[.bool false, .slice none 0 0] 24)).alloc (.cells #[.bool b1, sl1, .bool b2, sl2] 24)).cell? ⟨w.heap.size + 1 + 1 + 1 + 1, 3, none⟩ = some (sl2) := by simp [go_sem]
  have hck := checkAll2_any b1 b2 _ _ _ _ (w.heap.size + 1 + 1 + 1 + 1) _ (h1'.keep a5) (h2'.keep a5) ll lm e0 e1 e2 e3
  rw [hv] at hck
  have k0 : ∀ w1, Below (((((w.alloc (.cells #[.bool b1, sl1] 24)).alloc (.cells #[.bool b2, sl2] 24)).alloc (.cells #[.bool false, .slice none 0 0] 24)).alloc (.cells #[.bool false, .slice none 0 0] 24)).alloc (.cells #[.bool b1, sl1, .bool b2, sl2] 24)).heap.size (((((w.alloc (.cells #[.bool b1, sl1] 24)).alloc (.cells #[.bool b2, sl2] 24)).alloc (.cells #[.bool false, .slice none 0 0] 24)).alloc (.cells #[.bool false, .slice none 0 0] 24)).alloc (.cells #[.bool b1, sl1, .bool b2, sl2] 24)) w1 → w1.cell? ⟨w.heap.size, 0, none⟩ = some (.bool b1) ∧ w1.cell? ⟨w.heap.size, 1, none⟩ = some (sl1) ∧ w.heap.size < w1.heap.size ∧ w1.cell? ⟨w.heap.size + 1, 0, none⟩ = some (.bool b2) ∧ w1.cell? ⟨w.heap.size + 1, 1, none⟩ = some (sl2) ∧ w.heap.size + 1 < w1.heap.size ∧ w1.cell? ⟨w.heap.size + 1 + 1, 0, none⟩ = some (.bool false) ∧ w1.frozen? ⟨w.heap.size + 1 + 1, 0, none⟩ = false ∧ w1.cell? ⟨w.heap.size + 1 + 1, 1, none⟩ = some (.slice none 0 0) ∧ w1.frozen? ⟨w.heap.size + 1 + 1, 1, none⟩ = false ∧ w.heap.size + 1 + 1 < w1.heap.size ∧ w1.cell? ⟨w.heap.size + 1 + 1 + 1, 0, none⟩ = some (.bool false) ∧ w1.frozen? ⟨w.heap.size + 1 + 1 + 1, 0, none⟩ = false ∧ w1.cell? ⟨w.heap.size + 1 + 1 + 1, 1, none⟩ = some (.slice none 0 0) ∧ w1.frozen? ⟨w.heap.size + 1 + 1 + 1, 1, none⟩ = false ∧ w.heap.size + 1 + 1 + 1 < w1.heap.size := fun w1 hb => ⟨lkeep hb (by simp [go_sem]), lkeep hb (by simp [go_sem]), by have := hb.size; simp at this; omega, lkeep hb (by simp [go_sem]), lkeep hb (by simp [go_sem]), by have := hb.size; simp at this; omega, lkeep hb (by simp [go_sem]), (hb.frozen (by simp [go_sem] <;> omega)).trans (by simp [go_sem]), lkeep hb (by simp [go_sem]), (hb.frozen (by simp [go_sem] <;> omega)).trans (by simp [go_sem]), by have := hb.size; simp at this; omega, lkeep hb (by simp [go_sem]), (hb.frozen (by simp [go_sem] <;> omega)).trans (by simp [go_sem]), lkeep hb (by simp [go_sem]), (hb.frozen (by simp [go_sem] <;> omega)).trans (by simp [go_sem]), by have := hb.size; simp at this; omega⟩
  clear e0 e1 e2 e3
  subst hsl1 hsl2
  go_enter Tryd.func38, Tryd.ntmps38
  go_wp2_with fail
  go_at_call 64
  refine hck.mono ?_
  rintro e w1 ⟨rfl, hb1⟩
  obtain ⟨c00, c01, y0, c10, c11, y1, c20, z20, c21, z21, y2, c30, z30, c31, z31, y3⟩ := k0 w1 hb1
  have B1 := a5.trans (hb1.mono a5.size)
  clear hck k0 hb1 a1 a2 a3 a4 a5
  go_wp2
  refine bodyPost_ret (v := .tuple #[.agg #[.bool false, .slice none 0 0], .agg #[.bool false, .slice none 0 0], .int .i64 30]) (by simp [results, Tryd.results38, go_sem, c00, c01, y0, c10, c11, y1, c20, z20, c21, z21, y2, c30, z30, c31, z31, y3]) rfl ⟨rfl, by (repeat (first | with_reducible exact Below.refl _ _ | with_reducible assumption | refine Below.alloc ?_ (by (try simp); try omega) _ | refine Below.setCell ?_ (by (try simp); try omega) _ | refine below_drewN ?_ _ | refine Below.drew ?_ | (with_reducible refine Below.trans ?_ (Below.mono (by assumption) (by (try simp); try omega)))))⟩
set_option maxRecDepth 100000 in
set_option maxHeartbeats 1000000 in
theorem cmp_bad (b1 b2 : Bool) (s1 s2 : Value) (l m : List Int) (w : World) (h1 : Ls w s1 l) (h2 : Ls w s2 m) (ll : l.length ≤ 1000000) (lm : m.length ≤ 1000000) (hv : ckT (ckL b1 l) (ckL b2 m) = 30) :
    Calls Tryd.prog 21 #[.agg #[.bool b1, s1], .agg #[.bool b2, s2]] w fun e w' => e = .returned (.tuple #[.int .i64 0, .int .i64 30]) ∧ Below w.heap.size w w' := by
  have a1 := Below.alloc (Below.refl w.heap.size w) (Nat.le_refl _) (.cells #[.bool b1, s1] 24)
  have a2 := Below.alloc a1 a1.size (.cells #[.bool b2, s2] 24)
  have a3 := Below.alloc a2 a2.size (.cells #[.bool b1, s1, .bool b2, s2] 24)
  have h1' := h1
  have h2' := h2
  obtain ⟨pa, ca, rfl, hca', hqa⟩ := h1
  obtain ⟨pb, cb, rfl, hcb', hqb⟩ := h2
  clear hca' hqa hcb' hqb
  generalize hsl1 : (Value.slice pa l.length ca) = sl1 at *
  generalize hsl2 : (Value.slice pb m.length cb) = sl2 at *
  have e0 : (((w.alloc (.cells #[.bool b1, sl1] 24)).alloc (.cells #[.bool b2, sl2] 24)).alloc (.cells #[.bool b1, sl1, .bool b2, sl2] 24)).cell? ⟨w.heap.size + 1 + 1, 0, none⟩ = some (.bool b1) := by simp [go_sem]
  have e1 : (((w.alloc (.cells #[.bool b1, sl1] 24)).alloc (.cells #[.bool b2, sl2] 24)).alloc (.cells #[.bool b1, sl1, .bool b2, sl2] 24)).cell? ⟨w.heap.size + 1 + 1, 1, none⟩ = some (sl1) := by simp [go_sem]
  have e2 : (((w.alloc (.cells #[.bool b1, sl1] 24)).alloc (.cells #[.bool b2, sl2] 24)).alloc (.cells #[.bool b1, sl1, .bool b2, sl2] 24)).cell? ⟨w.heap.size + 1 + 1, 2, none⟩ = some (.bool b2) := by simp [go_sem]
  have e3 : (((w.alloc (.cells #[.bool b1, sl1] 24)).alloc (.cells #[.bool b2, sl2] 24)).alloc (.cells #[.bool b1, sl1, .bool b2, sl2] 24)).cell? ⟨w.heap.size + 1 + 1, 3, none⟩ = some (sl2) := by simp [go_sem]
  have hck := checkAll2_any b1 b2 _ _ _ _ (w.heap.size + 1 + 1) _ (h1'.keep a3) (h2'.keep a3) ll lm e0 e1 e2 e3
  rw [hv] at hck
  have k0 : ∀ w1, Below (((w.alloc (.cells #[.bool b1, sl1] 24)).alloc (.cells #[.bool b2, sl2] 24)).alloc (.cells #[.bool b1, sl1, .bool b2, sl2] 24)).heap.size (((w.alloc (.cells #[.bool b1, sl1] 24)).alloc (.cells #[.bool b2, sl2] 24)).alloc (.cells #[.bool b1, sl1, .bool b2, sl2] 24)) w1 → w1.cell? ⟨w.heap.size, 0, none⟩ = some (.bool b1) ∧ w1.cell? ⟨w.heap.size, 1, none⟩ = some (sl1) ∧ w.heap.size < w1.heap.size ∧ w1.cell? ⟨w.heap.size + 1, 0, none⟩ = some (.bool b2) ∧ w1.cell? ⟨w.heap.size + 1, 1, none⟩ = some (sl2) ∧ w.heap.size + 1 < w1.heap.size := fun w1 hb => ⟨lkeep hb (by simp [go_sem]), lkeep hb (by simp [go_sem]), by have := hb.size; simp at this; omega, lkeep hb (by simp [go_sem]), lkeep hb (by simp [go_sem]), by have := hb.size; simp at this; omega⟩
  clear e0 e1 e2 e3
  subst hsl1 hsl2
  go_enter Tryd.func21, Tryd.ntmps21
  go_wp2_with fail
  go_at_call 64
  refine hck.mono ?_
  rintro e w1 ⟨rfl, hb1⟩
  obtain ⟨c00, c01, y0, c10, c11, y1⟩ := k0 w1 hb1
  have B1 := a3.trans (hb1.mono a3.size)
  clear hck k0 hb1 a1 a2 a3
  go_wp2
  go_ret2
  exact ⟨rfl, by (repeat (first | with_reducible exact Below.refl _ _ | with_reducible assumption | refine Below.alloc ?_ (by (try simp); try omega) _ | refine Below.setCell ?_ (by (try simp); try omega) _ | refine below_drewN ?_ _ | refine Below.drew ?_ | (with_reducible refine Below.trans ?_ (Below.mono (by assumption) (by (try simp); try omega)))))⟩
set_option maxRecDepth 100000 in
set_option maxHeartbeats 1000000 in
theorem neg_bad (b1 : Bool) (s1 : Value) (l : List Int) (w : World) (h1 : Ls w s1 l) (ll : l.length ≤ 1000000) (hv : ckL b1 l = 30) :
    Calls Tryd.prog 33 #[.agg #[.bool b1, s1]] w fun e w' => e = .returned (.tuple #[noL, .int .i64 30]) ∧ Below w.heap.size w w' := by
  have a1 := Below.alloc (Below.refl w.heap.size w) (Nat.le_refl _) (.cells #[.bool b1, s1] 24)
  have a2 := Below.alloc a1 a1.size (.cells #[.bool false, .slice none 0 0] 24)
  have a3 := Below.alloc a2 a2.size (.cells #[.bool b1, s1] 24)
  have h1' := h1
  obtain ⟨pa, ca, rfl, hca', hqa⟩ := h1
  clear hca' hqa
  generalize hsl1 : (Value.slice pa l.length ca) = sl1 at *
  have e0 : (((w.alloc (.cells #[.bool b1, sl1] 24)).alloc (.cells #[.bool false, .slice none 0 0] 24)).alloc (.cells #[.bool b1, sl1] 24)).cell? ⟨w.heap.size + 1 + 1, 0, none⟩ = some (.bool b1) := by simp [go_sem]
  have e1 : (((w.alloc (.cells #[.bool b1, sl1] 24)).alloc (.cells #[.bool false, .slice none 0 0] 24)).alloc (.cells #[.bool b1, sl1] 24)).cell? ⟨w.heap.size + 1 + 1, 1, none⟩ = some (sl1) := by simp [go_sem]
  have hck := checkAll1_any b1 _ _ (w.heap.size + 1 + 1) _ (h1'.keep a3) ll e0 e1
  rw [hv] at hck
  have k0 : ∀ w1, Below (((w.alloc (.cells #[.bool b1, sl1] 24)).alloc (.cells #[.bool false, .slice none 0 0] 24)).alloc (.cells #[.bool b1, sl1] 24)).heap.size (((w.alloc (.cells #[.bool b1, sl1] 24)).alloc (.cells #[.bool false, .slice none 0 0] 24)).alloc (.cells #[.bool b1, sl1] 24)) w1 → w1.cell? ⟨w.heap.size, 0, none⟩ = some (.bool b1) ∧ w1.cell? ⟨w.heap.size, 1, none⟩ = some (sl1) ∧ w.heap.size < w1.heap.size ∧ w1.cell? ⟨w.heap.size + 1, 0, none⟩ = some (.bool false) ∧ w1.frozen? ⟨w.heap.size + 1, 0, none⟩ = false ∧ w1.cell? ⟨w.heap.size + 1, 1, none⟩ = some (.slice none 0 0) ∧ w1.frozen? ⟨w.heap.size + 1, 1, none⟩ = false ∧ w.heap.size + 1 < w1.heap.size := fun w1 hb => ⟨lkeep hb (by simp [go_sem]), lkeep hb (by simp [go_sem]), by have := hb.size; simp at this; omega, lkeep hb (by simp [go_sem]), (hb.frozen (by simp [go_sem] <;> omega)).trans (by simp [go_sem]), lkeep hb (by simp [go_sem]), (hb.frozen (by simp [go_sem] <;> omega)).trans (by simp [go_sem]), by have := hb.size; simp at this; omega⟩
  clear e0 e1
  subst hsl1
  go_enter Tryd.func33, Tryd.ntmps33
  go_wp2_with fail
  go_at_call 64
  refine hck.mono ?_
  rintro e w1 ⟨rfl, hb1⟩
  obtain ⟨c00, c01, y0, c10, z10, c11, z11, y1⟩ := k0 w1 hb1
  have B1 := a3.trans (hb1.mono a3.size)
  clear hck k0 hb1 a1 a2 a3
  go_wp2
  refine bodyPost_ret (v := .tuple #[.agg #[.bool false, .slice none 0 0], .int .i64 30]) (by simp [results, Tryd.results33, go_sem, c00, c01, y0, c10, z10, c11, z11, y1]) rfl ⟨rfl, by (repeat (first | with_reducible exact Below.refl _ _ | with_reducible assumption | refine Below.alloc ?_ (by (try simp); try omega) _ | refine Below.setCell ?_ (by (try simp); try omega) _ | refine below_drewN ?_ _ | refine Below.drew ?_ | (with_reducible refine Below.trans ?_ (Below.mono (by assumption) (by (try simp); try omega)))))⟩
set_option maxRecDepth 100000 in
set_option maxHeartbeats 1000000 in
theorem sqrt_bad (b1 : Bool) (s1 : Value) (l : List Int) (w : World) (h1 : Ls w s1 l) (ll : l.length ≤ 1000000) (hv : ckL b1 l = 30) :
    Calls Tryd.prog 47 #[.agg #[.bool b1, s1]] w fun e w' => e = .returned (.tuple #[noL, .int .i64 30]) ∧ Below w.heap.size w w' := by
  have a1 := Below.alloc (Below.refl w.heap.size w) (Nat.le_refl _) (.cells #[.bool b1, s1] 24)
  have a2 := Below.alloc a1 a1.size (.cells #[.bool false, .slice none 0 0] 24)
  have a3 := Below.alloc a2 a2.size (.cells #[.bool b1, s1] 24)
  have h1' := h1
  obtain ⟨pa, ca, rfl, hca', hqa⟩ := h1
  clear hca' hqa
  generalize hsl1 : (Value.slice pa l.length ca) = sl1 at *
  have e0 : (((w.alloc (.cells #[.bool b1, sl1] 24)).alloc (.cells #[.bool false, .slice none 0 0] 24)).alloc (.cells #[.bool b1, sl1] 24)).cell? ⟨w.heap.size + 1 + 1, 0, none⟩ = some (.bool b1) := by simp [go_sem]
  have e1 : (((w.alloc (.cells #[.bool b1, sl1] 24)).alloc (.cells #[.bool false, .slice none 0 0] 24)).alloc (.cells #[.bool b1, sl1] 24)).cell? ⟨w.heap.size + 1 + 1, 1, none⟩ = some (sl1) := by simp [go_sem]
  have hck := checkAll1_any b1 _ _ (w.heap.size + 1 + 1) _ (h1'.keep a3) ll e0 e1
  rw [hv] at hck
  have k0 : ∀ w1, Below (((w.alloc (.cells #[.bool b1, sl1] 24)).alloc (.cells #[.bool false, .slice none 0 0] 24)).alloc (.cells #[.bool b1, sl1] 24)).heap.size (((w.alloc (.cells #[.bool b1, sl1] 24)).alloc (.cells #[.bool false, .slice none 0 0] 24)).alloc (.cells #[.bool b1, sl1] 24)) w1 → w1.cell? ⟨w.heap.size, 0, none⟩ = some (.bool b1) ∧ w1.cell? ⟨w.heap.size, 1, none⟩ = some (sl1) ∧ w.heap.size < w1.heap.size ∧ w1.cell? ⟨w.heap.size + 1, 0, none⟩ = some (.bool false) ∧ w1.frozen? ⟨w.heap.size + 1, 0, none⟩ = false ∧ w1.cell? ⟨w.heap.size + 1, 1, none⟩ = some (.slice none 0 0) ∧ w1.frozen? ⟨w.heap.size + 1, 1, none⟩ = false ∧ w.heap.size + 1 < w1.heap.size := fun w1 hb => ⟨lkeep hb (by simp [go_sem]), lkeep hb (by simp [go_sem]), by have := hb.size; simp at this; omega, lkeep hb (by simp [go_sem]), (hb.frozen (by simp [go_sem] <;> omega)).trans (by simp [go_sem]), lkeep hb (by simp [go_sem]), (hb.frozen (by simp [go_sem] <;> omega)).trans (by simp [go_sem]), by have := hb.size; simp at this; omega⟩
  clear e0 e1
  subst hsl1
  go_enter Tryd.func47, Tryd.ntmps47
  go_wp2_with fail
  go_at_call 64
  refine hck.mono ?_
  rintro e w1 ⟨rfl, hb1⟩
  obtain ⟨c00, c01, y0, c10, z10, c11, z11, y1⟩ := k0 w1 hb1
  have B1 := a3.trans (hb1.mono a3.size)
  clear hck k0 hb1 a1 a2 a3
  go_wp2
  refine bodyPost_ret (v := .tuple #[.agg #[.bool false, .slice none 0 0], .int .i64 30]) (by simp [results, Tryd.results47, go_sem, c00, c01, y0, c10, z10, c11, z11, y1]) rfl ⟨rfl, by (repeat (first | with_reducible exact Below.refl _ _ | with_reducible assumption | refine Below.alloc ?_ (by (try simp); try omega) _ | refine Below.setCell ?_ (by (try simp); try omega) _ | refine below_drewN ?_ _ | refine Below.drew ?_ | (with_reducible refine Below.trans ?_ (Below.mono (by assumption) (by (try simp); try omega)))))⟩
set_option maxRecDepth 100000 in
set_option maxHeartbeats 1000000 in
theorem int_bad (b1 : Bool) (s1 : Value) (l : List Int) (w : World) (h1 : Ls w s1 l) (ll : l.length ≤ 1000000) (hv : ckL b1 l = 30) :
    Calls Tryd.prog 23 #[.agg #[.bool b1, s1]] w fun e w' => e = .returned (.tuple #[.int .i64 0, .int .i64 30]) ∧ Below w.heap.size w w' := by
  have a1 := Below.alloc (Below.refl w.heap.size w) (Nat.le_refl _) (.cells #[.bool b1, s1] 24)
  have a2 := Below.alloc a1 a1.size (.cells #[.int .i64 0] 3)
  have a3 := Below.alloc a2 a2.size (.cells #[.int .i64 0] 36)
  have a4 := Below.alloc a3 a3.size (.cells #[.bool b1, s1] 24)
  have h1' := h1
  obtain ⟨pa, ca, rfl, hca', hqa⟩ := h1
  clear hca' hqa
  generalize hsl1 : (Value.slice pa l.length ca) = sl1 at *
  have e0 : ((((w.alloc (.cells #[.bool b1, sl1] 24)).alloc (.cells #[.int .i64 0] 3)).alloc (.cells #[.int .i64 0] 36)).alloc (.cells #[.bool b1, sl1] 24)).cell? ⟨w.heap.size + 1 + 1 + 1, 0, none⟩ = some (.bool b1) := by simp [go_sem]
  have e1 : ((((w.alloc (.cells #[.bool b1, sl1] 24)).alloc (.cells #[.int .i64 0] 3)).alloc (.cells #[.int .i64 0] 36)).alloc (.cells #[.bool b1, sl1] 24)).cell? ⟨w.heap.size + 1 + 1 + 1, 1, none⟩ = some (sl1) := by simp [go_sem]
  have hck := checkAll1_any b1 _ _ (w.heap.size + 1 + 1 + 1) _ (h1'.keep a4) ll e0 e1
  rw [hv] at hck
  have k0 : ∀ w1, Below ((((w.alloc (.cells #[.bool b1, sl1] 24)).alloc (.cells #[.int .i64 0] 3)).alloc (.cells #[.int .i64 0] 36)).alloc (.cells #[.bool b1, sl1] 24)).heap.size ((((w.alloc (.cells #[.bool b1, sl1] 24)).alloc (.cells #[.int .i64 0] 3)).alloc (.cells #[.int .i64 0] 36)).alloc (.cells #[.bool b1, sl1] 24)) w1 → w1.cell? ⟨w.heap.size, 0, none⟩ = some (.bool b1) ∧ w1.cell? ⟨w.heap.size, 1, none⟩ = some (sl1) ∧ w.heap.size < w1.heap.size ∧ w1.cell? ⟨w.heap.size + 1, 0, none⟩ = some (.int .i64 0) ∧ w1.frozen? ⟨w.heap.size + 1, 0, none⟩ = false ∧ w.heap.size + 1 < w1.heap.size ∧ w1.cell? ⟨w.heap.size + 1 + 1, 0, none⟩ = some (.int .i64 0) ∧ w1.frozen? ⟨w.heap.size + 1 + 1, 0, none⟩ = false ∧ w.heap.size + 1 + 1 < w1.heap.size := fun w1 hb => ⟨lkeep hb (by simp [go_sem]), lkeep hb (by simp [go_sem]), by have := hb.size; simp at this; omega, lkeep hb (by simp [go_sem]), (hb.frozen (by simp [go_sem] <;> omega)).trans (by simp [go_sem]), by have := hb.size; simp at this; omega, lkeep hb (by simp [go_sem]), (hb.frozen (by simp [go_sem] <;> omega)).trans (by simp [go_sem]), by have := hb.size; simp at this; omega⟩
  clear e0 e1
  subst hsl1
  go_enter Tryd.func23, Tryd.ntmps23
  go_wp2_with fail
  go_at_call 64
  refine hck.mono ?_
  rintro e w1 ⟨rfl, hb1⟩
  obtain ⟨c00, c01, y0, c10, z10, y1, c20, z20, y2⟩ := k0 w1 hb1
  have B1 := a4.trans (hb1.mono a4.size)
  clear hck k0 hb1 a1 a2 a3 a4
  go_wp2
  refine bodyPost_ret (v := .tuple #[.int .i64 0, .int .i64 30]) (by simp [results, Tryd.results23, go_sem, c00, c01, y0, c10, z10, y1, c20, z20, y2]) rfl ⟨rfl, by (repeat (first | with_reducible exact Below.refl _ _ | with_reducible assumption | refine Below.alloc ?_ (by (try simp); try omega) _ | refine Below.setCell ?_ (by (try simp); try omega) _ | refine below_drewN ?_ _ | refine Below.drew ?_ | (with_reducible refine Below.trans ?_ (Below.mono (by assumption) (by (try simp); try omega)))))⟩
set_option maxRecDepth 100000 in
set_option maxHeartbeats 1000000 in
theorem text_bad (b1 : Bool) (s1 : Value) (l : List Int) (w : World) (h1 : Ls w s1 l) (ll : l.length ≤ 1000000) (hv : ckL b1 l = 30) :
    Calls Tryd.prog 49 #[.agg #[.bool b1, s1]] w fun e w' => e = .returned (.tuple #[.string ⟨⟨[]⟩⟩, .int .i64 30]) ∧ Below w.heap.size w w' := by
  have a1 := Below.alloc (Below.refl w.heap.size w) (Nat.le_refl _) (.cells #[.bool b1, s1] 24)
  have a2 := Below.alloc a1 a1.size (.cells #[.bool b1, s1] 24)
  have h1' := h1
  obtain ⟨pa, ca, rfl, hca', hqa⟩ := h1
  clear hca' hqa
  generalize hsl1 : (Value.slice pa l.length ca) = sl1 at *
  have e0 : ((w.alloc (.cells #[.bool b1, sl1] 24)).alloc (.cells #[.bool b1, sl1] 24)).cell? ⟨w.heap.size + 1, 0, none⟩ = some (.bool b1) := by simp [go_sem]
  have e1 : ((w.alloc (.cells #[.bool b1, sl1] 24)).alloc (.cells #[.bool b1, sl1] 24)).cell? ⟨w.heap.size + 1, 1, none⟩ = some (sl1) := by simp [go_sem]
  have hck := checkAll1_any b1 _ _ (w.heap.size + 1) _ (h1'.keep a2) ll e0 e1
  rw [hv] at hck
  have k0 : ∀ w1, Below ((w.alloc (.cells #[.bool b1, sl1] 24)).alloc (.cells #[.bool b1, sl1] 24)).heap.size ((w.alloc (.cells #[.bool b1, sl1] 24)).alloc (.cells #[.bool b1, sl1] 24)) w1 → w1.cell? ⟨w.heap.size, 0, none⟩ = some (.bool b1) ∧ w1.cell? ⟨w.heap.size, 1, none⟩ = some (sl1) ∧ w.heap.size < w1.heap.size := fun w1 hb => ⟨lkeep hb (by simp [go_sem]), lkeep hb (by simp [go_sem]), by have := hb.size; simp at this; omega⟩
  clear e0 e1
  subst hsl1
  go_enter Tryd.func49, Tryd.ntmps49
  go_wp2_with fail
  go_at_call 64
  refine hck.mono ?_
  rintro e w1 ⟨rfl, hb1⟩
  obtain ⟨c00, c01, y0⟩ := k0 w1 hb1
  have B1 := a2.trans (hb1.mono a2.size)
  clear hck k0 hb1 a1 a2
  go_wp2
  go_ret2
  exact ⟨rfl, by (repeat (first | with_reducible exact Below.refl _ _ | with_reducible assumption | refine Below.alloc ?_ (by (try simp); try omega) _ | refine Below.setCell ?_ (by (try simp); try omega) _ | refine below_drewN ?_ _ | refine Below.drew ?_ | (with_reducible refine Below.trans ?_ (Below.mono (by assumption) (by (try simp); try omega)))))⟩
theorem cmpI_neg (x y : Int) : cmpI (-x) (-y) = cmpI y x := by
  unfold cmpI
  by_cases h1 : y < x
  · rw [if_pos h1, if_pos (by omega)]
  · by_cases h2 : x = y
    · subst h2; simp
    · rw [if_neg h1, if_neg (by omega), if_neg (by omega), if_neg (by omega)]
set_option maxRecDepth 100000 in
set_option maxHeartbeats 1000000 in
theorem cmp_true_true (s1 s2 : Value) (l m : List Int) (w : World) (h1 : Ls w s1 l) (h2 : Ls w s2 m) (ll : l.length ≤ 1000000) (lm : m.length ≤ 1000000) (x y : Int) (x0 : 0 ≤ x) (y0 : 0 ≤ y) (hx : l = dg x) (hy : m = dg y) (l6 : l.length ≤ 600) (m6 : m.length ≤ 600) (hv : ckT (ckL true l) (ckL true m) = 0) (n1 : 0 < x) (n2 : 0 < y) :
    Calls Tryd.prog 21 #[.agg #[.bool true, s1], .agg #[.bool true, s2]] w fun e w' => e = .returned (.tuple #[.int .i64 (cmpI (sg true x) (sg true y)), .int .i64 0]) ∧ Below w.heap.size w w' := by
  have hcp := fun w (k1 : Ls w s2 m) (k2 : Ls w s1 l) => compare_num s2 s1 y x w y0 x0 (hy ▸ k1) (hx ▸ k2) (by rw [← hy]; omega) (by rw [← hx]; omega)
  rw [show cmpI (sg true x) (sg true y) = cmpI y x from cmpI_neg x y]
  clear hx hy n1 n2
  have a1 := Below.alloc (Below.refl w.heap.size w) (Nat.le_refl _) (.cells #[.bool true, s1] 24)
  have a2 := Below.alloc a1 a1.size (.cells #[.bool true, s2] 24)
  have a3 := Below.alloc a2 a2.size (.cells #[.bool true, s1, .bool true, s2] 24)
  have h1' := h1
  have h2' := h2
  obtain ⟨pa, ca, rfl, hca', hqa⟩ := h1
  obtain ⟨pb, cb, rfl, hcb', hqb⟩ := h2
  clear hca' hqa hcb' hqb
  generalize hsl1 : (Value.slice pa l.length ca) = sl1 at *
  generalize hsl2 : (Value.slice pb m.length cb) = sl2 at *
  have e0 : (((w.alloc (.cells #[.bool true, sl1] 24)).alloc (.cells #[.bool true, sl2] 24)).alloc (.cells #[.bool true, sl1, .bool true, sl2] 24)).cell? ⟨w.heap.size + 1 + 1, 0, none⟩ = some (.bool true) := by simp [go_sem]
  have e1 : (((w.alloc (.cells #[.bool true, sl1] 24)).alloc (.cells #[.bool true, sl2] 24)).alloc (.cells #[.bool true, sl1, .bool true, sl2] 24)).cell? ⟨w.heap.size + 1 + 1, 1, none⟩ = some (sl1) := by simp [go_sem]
  have e2 : (((w.alloc (.cells #[.bool true, sl1] 24)).alloc (.cells #[.bool true, sl2] 24)).alloc (.cells #[.bool true, sl1, .bool true, sl2] 24)).cell? ⟨w.heap.size + 1 + 1, 2, none⟩ = some (.bool true) := by simp [go_sem]
  have e3 : (((w.alloc (.cells #[.bool true, sl1] 24)).alloc (.cells #[.bool true, sl2] 24)).alloc (.cells #[.bool true, sl1, .bool true, sl2] 24)).cell? ⟨w.heap.size + 1 + 1, 3, none⟩ = some (sl2) := by simp [go_sem]
  have hck := checkAll2_any true true _ _ _ _ (w.heap.size + 1 + 1) _ (h1'.keep a3) (h2'.keep a3) ll lm e0 e1 e2 e3
  rw [hv] at hck
  have k0 : ∀ w1, Below (((w.alloc (.cells #[.bool true, sl1] 24)).alloc (.cells #[.bool true, sl2] 24)).alloc (.cells #[.bool true, sl1, .bool true, sl2] 24)).heap.size (((w.alloc (.cells #[.bool true, sl1] 24)).alloc (.cells #[.bool true, sl2] 24)).alloc (.cells #[.bool true, sl1, .bool true, sl2] 24)) w1 → w1.cell? ⟨w.heap.size, 0, none⟩ = some (.bool true) ∧ w1.cell? ⟨w.heap.size, 1, none⟩ = some (sl1) ∧ w.heap.size < w1.heap.size ∧ w1.cell? ⟨w.heap.size + 1, 0, none⟩ = some (.bool true) ∧ w1.cell? ⟨w.heap.size + 1, 1, none⟩ = some (sl2) ∧ w.heap.size + 1 < w1.heap.size := fun w1 hb => ⟨lkeep hb (by simp [go_sem]), lkeep hb (by simp [go_sem]), by have := hb.size; simp at this; omega, lkeep hb (by simp [go_sem]), lkeep hb (by simp [go_sem]), by have := hb.size; simp at this; omega⟩
  clear e0 e1 e2 e3
  subst hsl1 hsl2
  go_enter Tryd.func21, Tryd.ntmps21
  go_wp2_with fail
  go_at_call 64
  refine hck.mono ?_
  rintro e w1 ⟨rfl, hb1⟩
  obtain ⟨c00, c01, y0, c10, c11, y1⟩ := k0 w1 hb1
  have B1 := a3.trans (hb1.mono a3.size)
  have h3 := h1'.keep B1
  have h4 := h2'.keep B1
  clear h1' h2' hck k0 hb1 a1 a2 a3
  generalize l.length = n at *
  generalize m.length = k at *
  go_wp2_with (go_at_call 65; refine (hcp _ h4 h3).mono ?_; rintro e w2 ⟨rfl, hb2⟩; have B2 := B1.trans (hb2.mono B1.size); clear B1 hb2)
  go_ret2
  exact ⟨rfl, by (repeat (first | with_reducible exact Below.refl _ _ | with_reducible assumption | refine Below.alloc ?_ (by (try simp); try omega) _ | refine Below.setCell ?_ (by (try simp); try omega) _ | refine below_drewN ?_ _ | refine Below.drew ?_ | (with_reducible refine Below.trans ?_ (Below.mono (by assumption) (by (try simp); try omega)))))⟩
set_option maxRecDepth 100000 in
set_option maxHeartbeats 1000000 in
theorem cmp_true_false (s1 s2 : Value) (l m : List Int) (w : World) (h1 : Ls w s1 l) (h2 : Ls w s2 m) (ll : l.length ≤ 1000000) (lm : m.length ≤ 1000000) (x y : Int) (x0 : 0 ≤ x) (y0 : 0 ≤ y) (hx : l = dg x) (hy : m = dg y) (l6 : l.length ≤ 600) (m6 : m.length ≤ 600) (hv : ckT (ckL true l) (ckL false m) = 0) (n1 : 0 < x) :
    Calls Tryd.prog 21 #[.agg #[.bool true, s1], .agg #[.bool false, s2]] w fun e w' => e = .returned (.tuple #[.int .i64 (cmpI (sg true x) (sg false y)), .int .i64 0]) ∧ Below w.heap.size w w' := by
  have hres : cmpI (sg true x) (sg false y) = -1 := by show cmpI (-x) (y) = _; exact cmpI_lt (by omega)
  rw [hres]
  clear hres hx hy
  have a1 := Below.alloc (Below.refl w.heap.size w) (Nat.le_refl _) (.cells #[.bool true, s1] 24)
  have a2 := Below.alloc a1 a1.size (.cells #[.bool false, s2] 24)
  have a3 := Below.alloc a2 a2.size (.cells #[.bool true, s1, .bool false, s2] 24)
  have h1' := h1
  have h2' := h2
  obtain ⟨pa, ca, rfl, hca', hqa⟩ := h1
  obtain ⟨pb, cb, rfl, hcb', hqb⟩ := h2
  clear hca' hqa hcb' hqb
  generalize hsl1 : (Value.slice pa l.length ca) = sl1 at *
  generalize hsl2 : (Value.slice pb m.length cb) = sl2 at *
  have e0 : (((w.alloc (.cells #[.bool true, sl1] 24)).alloc (.cells #[.bool false, sl2] 24)).alloc (.cells #[.bool true, sl1, .bool false, sl2] 24)).cell? ⟨w.heap.size + 1 + 1, 0, none⟩ = some (.bool true) := by simp [go_sem]
  have e1 : (((w.alloc (.cells #[.bool true, sl1] 24)).alloc (.cells #[.bool false, sl2] 24)).alloc (.cells #[.bool true, sl1, .bool false, sl2] 24)).cell? ⟨w.heap.size + 1 + 1, 1, none⟩ = some (sl1) := by simp [go_sem]
  have e2 : (((w.alloc (.cells #[.bool true, sl1] 24)).alloc (.cells #[.bool false, sl2] 24)).alloc (.cells #[.bool true, sl1, .bool false, sl2] 24)).cell? ⟨w.heap.size + 1 + 1, 2, none⟩ = some (.bool false) := by simp [go_sem]
  have e3 : (((w.alloc (.cells #[.bool true, sl1] 24)).alloc (.cells #[.bool false, sl2] 24)).alloc (.cells #[.bool true, sl1, .bool false, sl2] 24)).cell? ⟨w.heap.size + 1 + 1, 3, none⟩ = some (sl2) := by simp [go_sem]
  have hck := checkAll2_any true false _ _ _ _ (w.heap.size + 1 + 1) _ (h1'.keep a3) (h2'.keep a3) ll lm e0 e1 e2 e3
  rw [hv] at hck
  have k0 : ∀ w1, Below (((w.alloc (.cells #[.bool true, sl1] 24)).alloc (.cells #[.bool false, sl2] 24)).alloc (.cells #[.bool true, sl1, .bool false, sl2] 24)).heap.size (((w.alloc (.cells #[.bool true, sl1] 24)).alloc (.cells #[.bool false, sl2] 24)).alloc (.cells #[.bool true, sl1, .bool false, sl2] 24)) w1 → w1.cell? ⟨w.heap.size, 0, none⟩ = some (.bool true) ∧ w1.cell? ⟨w.heap.size, 1, none⟩ = some (sl1) ∧ w.heap.size < w1.heap.size ∧ w1.cell? ⟨w.heap.size + 1, 0, none⟩ = some (.bool false) ∧ w1.cell? ⟨w.heap.size + 1, 1, none⟩ = some (sl2) ∧ w.heap.size + 1 < w1.heap.size := fun w1 hb => ⟨lkeep hb (by simp [go_sem]), lkeep hb (by simp [go_sem]), by have := hb.size; simp at this; omega, lkeep hb (by simp [go_sem]), lkeep hb (by simp [go_sem]), by have := hb.size; simp at this; omega⟩
  clear e0 e1 e2 e3
  subst hsl1 hsl2
  go_enter Tryd.func21, Tryd.ntmps21
  go_wp2_with fail
  go_at_call 64
  refine hck.mono ?_
  rintro e w1 ⟨rfl, hb1⟩
  obtain ⟨c00, c01, y0, c10, c11, y1⟩ := k0 w1 hb1
  have B1 := a3.trans (hb1.mono a3.size)
  clear hck k0 hb1 a1 a2 a3
  go_wp2
  go_ret2
  exact ⟨rfl, by (repeat (first | with_reducible exact Below.refl _ _ | with_reducible assumption | refine Below.alloc ?_ (by (try simp); try omega) _ | refine Below.setCell ?_ (by (try simp); try omega) _ | refine below_drewN ?_ _ | refine Below.drew ?_ | (with_reducible refine Below.trans ?_ (Below.mono (by assumption) (by (try simp); try omega)))))⟩
set_option maxRecDepth 100000 in
set_option maxHeartbeats 1000000 in
theorem cmp_false_true (s1 s2 : Value) (l m : List Int) (w : World) (h1 : Ls w s1 l) (h2 : Ls w s2 m) (ll : l.length ≤ 1000000) (lm : m.length ≤ 1000000) (x y : Int) (x0 : 0 ≤ x) (y0 : 0 ≤ y) (hx : l = dg x) (hy : m = dg y) (l6 : l.length ≤ 600) (m6 : m.length ≤ 600) (hv : ckT (ckL false l) (ckL true m) = 0) (n2 : 0 < y) :
    Calls Tryd.prog 21 #[.agg #[.bool false, s1], .agg #[.bool true, s2]] w fun e w' => e = .returned (.tuple #[.int .i64 (cmpI (sg false x) (sg true y)), .int .i64 0]) ∧ Below w.heap.size w w' := by
  have hres : cmpI (sg false x) (sg true y) = 1 := by show cmpI (x) (-y) = _; exact cmpI_gt (by omega)
  rw [hres]
  clear hres hx hy
  have a1 := Below.alloc (Below.refl w.heap.size w) (Nat.le_refl _) (.cells #[.bool false, s1] 24)
  have a2 := Below.alloc a1 a1.size (.cells #[.bool true, s2] 24)
  have a3 := Below.alloc a2 a2.size (.cells #[.bool false, s1, .bool true, s2] 24)
  have h1' := h1
  have h2' := h2
  obtain ⟨pa, ca, rfl, hca', hqa⟩ := h1
  obtain ⟨pb, cb, rfl, hcb', hqb⟩ := h2
  clear hca' hqa hcb' hqb
  generalize hsl1 : (Value.slice pa l.length ca) = sl1 at *
  generalize hsl2 : (Value.slice pb m.length cb) = sl2 at *
  have e0 : (((w.alloc (.cells #[.bool false, sl1] 24)).alloc (.cells #[.bool true, sl2] 24)).alloc (.cells #[.bool false, sl1, .bool true, sl2] 24)).cell? ⟨w.heap.size + 1 + 1, 0, none⟩ = some (.bool false) := by simp [go_sem]
  have e1 : (((w.alloc (.cells #[.bool false, sl1] 24)).alloc (.cells #[.bool true, sl2] 24)).alloc (.cells #[.bool false, sl1, .bool true, sl2] 24)).cell? ⟨w.heap.size + 1 + 1, 1, none⟩ = some (sl1) := by simp [go_sem]
  have e2 : (((w.alloc (.cells #[.bool false, sl1] 24)).alloc (.cells #[.bool true, sl2] 24)).alloc (.cells #[.bool false, sl1, .bool true, sl2] 24)).cell? ⟨w.heap.size + 1 + 1, 2, none⟩ = some (.bool true) := by simp [go_sem]
  have e3 : (((w.alloc (.cells #[.bool false, sl1] 24)).alloc (.cells #[.bool true, sl2] 24)).alloc (.cells #[.bool false, sl1, .bool true, sl2] 24)).cell? ⟨w.heap.size + 1 + 1, 3, none⟩ = some (sl2) := by simp [go_sem]
  have hck := checkAll2_any false true _ _ _ _ (w.heap.size + 1 + 1) _ (h1'.keep a3) (h2'.keep a3) ll lm e0 e1 e2 e3
  rw [hv] at hck
  have k0 : ∀ w1, Below (((w.alloc (.cells #[.bool false, sl1] 24)).alloc (.cells #[.bool true, sl2] 24)).alloc (.cells #[.bool false, sl1, .bool true, sl2] 24)).heap.size (((w.alloc (.cells #[.bool false, sl1] 24)).alloc (.cells #[.bool true, sl2] 24)).alloc (.cells #[.bool false, sl1, .bool true, sl2] 24)) w1 → w1.cell? ⟨w.heap.size, 0, none⟩ = some (.bool false) ∧ w1.cell? ⟨w.heap.size, 1, none⟩ = some (sl1) ∧ w.heap.size < w1.heap.size ∧ w1.cell? ⟨w.heap.size + 1, 0, none⟩ = some (.bool true) ∧ w1.cell? ⟨w.heap.size + 1, 1, none⟩ = some (sl2) ∧ w.heap.size + 1 < w1.heap.size := fun w1 hb => ⟨lkeep hb (by simp [go_sem]), lkeep hb (by simp [go_sem]), by have := hb.size; simp at this; omega, lkeep hb (by simp [go_sem]), lkeep hb (by simp [go_sem]), by have := hb.size; simp at this; omega⟩
  clear e0 e1 e2 e3
  subst hsl1 hsl2
  go_enter Tryd.func21, Tryd.ntmps21
  go_wp2_with fail
  go_at_call 64
  refine hck.mono ?_
  rintro e w1 ⟨rfl, hb1⟩
  obtain ⟨c00, c01, y0, c10, c11, y1⟩ := k0 w1 hb1
  have B1 := a3.trans (hb1.mono a3.size)
  clear hck k0 hb1 a1 a2 a3
  go_wp2
  go_ret2
  exact ⟨rfl, by (repeat (first | with_reducible exact Below.refl _ _ | with_reducible assumption | refine Below.alloc ?_ (by (try simp); try omega) _ | refine Below.setCell ?_ (by (try simp); try omega) _ | refine below_drewN ?_ _ | refine Below.drew ?_ | (with_reducible refine Below.trans ?_ (Below.mono (by assumption) (by (try simp); try omega)))))⟩
set_option maxRecDepth 100000 in
set_option maxHeartbeats 1000000 in
theorem cmp_false_false (s1 s2 : Value) (l m : List Int) (w : World) (h1 : Ls w s1 l) (h2 : Ls w s2 m) (ll : l.length ≤ 1000000) (lm : m.length ≤ 1000000) (x y : Int) (x0 : 0 ≤ x) (y0 : 0 ≤ y) (hx : l = dg x) (hy : m = dg y) (l6 : l.length ≤ 600) (m6 : m.length ≤ 600) (hv : ckT (ckL false l) (ckL false m) = 0) :
    Calls Tryd.prog 21 #[.agg #[.bool false, s1], .agg #[.bool false, s2]] w fun e w' => e = .returned (.tuple #[.int .i64 (cmpI (sg false x) (sg false y)), .int .i64 0]) ∧ Below w.heap.size w w' := by
  have hcp := fun w (k1 : Ls w s1 l) (k2 : Ls w s2 m) => compare_num s1 s2 x y w x0 y0 (hx ▸ k1) (hy ▸ k2) (by rw [← hx]; omega) (by rw [← hy]; omega)
  rw [show cmpI (sg false x) (sg false y) = cmpI x y from rfl]
  clear hx hy
  have a1 := Below.alloc (Below.refl w.heap.size w) (Nat.le_refl _) (.cells #[.bool false, s1] 24)
  have a2 := Below.alloc a1 a1.size (.cells #[.bool false, s2] 24)
  have a3 := Below.alloc a2 a2.size (.cells #[.bool false, s1, .bool false, s2] 24)
  have h1' := h1
  have h2' := h2
  obtain ⟨pa, ca, rfl, hca', hqa⟩ := h1
  obtain ⟨pb, cb, rfl, hcb', hqb⟩ := h2
  clear hca' hqa hcb' hqb
  generalize hsl1 : (Value.slice pa l.length ca) = sl1 at *
  generalize hsl2 : (Value.slice pb m.length cb) = sl2 at *
  have e0 : (((w.alloc (.cells #[.bool false, sl1] 24)).alloc (.cells #[.bool false, sl2] 24)).alloc (.cells #[.bool false, sl1, .bool false, sl2] 24)).cell? ⟨w.heap.size + 1 + 1, 0, none⟩ = some (.bool false) := by simp [go_sem]
  have e1 : (((w.alloc (.cells #[.bool false, sl1] 24)).alloc (.cells #[.bool false, sl2] 24)).alloc (.cells #[.bool false, sl1, .bool false, sl2] 24)).cell? ⟨w.heap.size + 1 + 1, 1, none⟩ = some (sl1) := by simp [go_sem]
  have e2 : (((w.alloc (.cells #[.bool false, sl1] 24)).alloc (.cells #[.bool false, sl2] 24)).alloc (.cells #[.bool false, sl1, .bool false, sl2] 24)).cell? ⟨w.heap.size + 1 + 1, 2, none⟩ = some (.bool false) := by simp [go_sem]
  have e3 : (((w.alloc (.cells #[.bool false, sl1] 24)).alloc (.cells #[.bool false, sl2] 24)).alloc (.cells #[.bool false, sl1, .bool false, sl2] 24)).cell? ⟨w.heap.size + 1 + 1, 3, none⟩ = some (sl2) := by simp [go_sem]
  have hck := checkAll2_any false false _ _ _ _ (w.heap.size + 1 + 1) _ (h1'.keep a3) (h2'.keep a3) ll lm e0 e1 e2 e3
  rw [hv] at hck
  have k0 : ∀ w1, Below (((w.alloc (.cells #[.bool false, sl1] 24)).alloc (.cells #[.bool false, sl2] 24)).alloc (.cells #[.bool false, sl1, .bool false, sl2] 24)).heap.size (((w.alloc (.cells #[.bool false, sl1] 24)).alloc (.cells #[.bool false, sl2] 24)).alloc (.cells #[.bool false, sl1, .bool false, sl2] 24)) w1 → w1.cell? ⟨w.heap.size, 0, none⟩ = some (.bool false) ∧ w1.cell? ⟨w.heap.size, 1, none⟩ = some (sl1) ∧ w.heap.size < w1.heap.size ∧ w1.cell? ⟨w.heap.size + 1, 0, none⟩ = some (.bool false) ∧ w1.cell? ⟨w.heap.size + 1, 1, none⟩ = some (sl2) ∧ w.heap.size + 1 < w1.heap.size := fun w1 hb => ⟨lkeep hb (by simp [go_sem]), lkeep hb (by simp [go_sem]), by have := hb.size; simp at this; omega, lkeep hb (by simp [go_sem]), lkeep hb (by simp [go_sem]), by have := hb.size; simp at this; omega⟩
  clear e0 e1 e2 e3
  subst hsl1 hsl2
  go_enter Tryd.func21, Tryd.ntmps21
  go_wp2_with fail
  go_at_call 64
  refine hck.mono ?_
  rintro e w1 ⟨rfl, hb1⟩
  obtain ⟨c00, c01, y0, c10, c11, y1⟩ := k0 w1 hb1
  have B1 := a3.trans (hb1.mono a3.size)
  have h3 := h1'.keep B1
  have h4 := h2'.keep B1
  clear h1' h2' hck k0 hb1 a1 a2 a3
  generalize l.length = n at *
  generalize m.length = k at *
  go_wp2_with (go_at_call 65; refine (hcp _ h3 h4).mono ?_; rintro e w2 ⟨rfl, hb2⟩; have B2 := B1.trans (hb2.mono B1.size); clear B1 hb2)
  go_ret2
  exact ⟨rfl, by (repeat (first | with_reducible exact Below.refl _ _ | with_reducible assumption | refine Below.alloc ?_ (by (try simp); try omega) _ | refine Below.setCell ?_ (by (try simp); try omega) _ | refine below_drewN ?_ _ | refine Below.drew ?_ | (with_reducible refine Below.trans ?_ (Below.mono (by assumption) (by (try simp); try omega)))))⟩
end Go.Proofs.YtoppdbgodceaiaaDoor
