/-
  Walks of package long: errors, Cmp, Neg; contracts by numbers.
-/
import Derived.Test.YthhbnhdejbpjiaaDoorLhB
import Derived.Test.YthhbnhdejbpjiaaDoorLhC
import Derived.Deep.RegionHeld3
import Derived.Deep.RegionWith
namespace Go.Proofs.YthhbnhdejbpjiaaDoor
open Go.RowKit

set_option maxRecDepth 100000 in
set_option maxHeartbeats 1000000 in
theorem add_bad (b1 b2 : Bool) (s1 s2 : Value) (l m : List Int) (w : World) (h1 : Ls w s1 l) (h2 : Ls w s2 m) (ll : l.length ≤ 1000000) (lm : m.length ≤ 1000000) (hv : ckT (ckL b1 l) (ckL b2 m) = 30) :
    Calls Tryd.prog 12 #[.agg #[.bool b1, s1], .agg #[.bool b2, s2]] w fun e w' => e = .returned (.tuple #[noL, .int .i64 30]) ∧ Below w.heap.size w w' := by
  have a1 := Below.alloc (Below.refl w.heap.size w) (Nat.le_refl _) (.cells #[.bool b1, s1] 25)
  have a2 := Below.alloc a1 a1.size (.cells #[.bool b2, s2] 25)
  have a3 := Below.alloc a2 a2.size (.cells #[.bool false, .slice none 0 0] 25)
  have a4 := Below.alloc a3 a3.size (.cells #[.bool b1, s1, .bool b2, s2] 25)
  have h1' := h1
  have h2' := h2
  obtain ⟨pa, ca, rfl, hca', hqa⟩ := h1
  obtain ⟨pb, cb, rfl, hcb', hqb⟩ := h2
  clear hca' hqa hcb' hqb
  generalize hsl1 : (Value.slice pa l.length ca) = sl1 at *
  generalize hsl2 : (Value.slice pb m.length cb) = sl2 at *
  have e0 : ((((w.alloc (.cells #[.bool b1, sl1] 25)).alloc (.cells #[.bool b2, sl2] 25)).alloc (.cells #[.bool false, .slice none 0 0] 25)).alloc (.cells #[.bool b1, sl1, .bool b2, sl2] 25)).cell? ⟨w.heap.size + 1 + 1 + 1, 0, none⟩ = some (.bool b1) := by simp [go_sem]
  have e1 : ((((w.alloc (.cells #[.bool b1, sl1] 25)).alloc (.cells #[.bool b2, sl2] 25)).alloc (.cells #[.bool false, .slice none 0 0] 25)).alloc (.cells #[.bool b1, sl1, .bool b2, sl2] 25)).cell? ⟨w.heap.size + 1 + 1 + 1, 1, none⟩ = some (sl1) := by simp [go_sem]
  have e2 : ((((w.alloc (.cells #[.bool b1, sl1] 25)).alloc (.cells #[.bool b2, sl2] 25)).alloc (.cells #[.bool false, .slice none 0 0] 25)).alloc (.cells #[.bool b1, sl1, .bool b2, sl2] 25)).cell? ⟨w.heap.size + 1 + 1 + 1, 2, none⟩ = some (.bool b2) := by simp [go_sem]
  have e3 : ((((w.alloc (.cells #[.bool b1, sl1] 25)).alloc (.cells #[.bool b2, sl2] 25)).alloc (.cells #[.bool false, .slice none 0 0] 25)).alloc (.cells #[.bool b1, sl1, .bool b2, sl2] 25)).cell? ⟨w.heap.size + 1 + 1 + 1, 3, none⟩ = some (sl2) := by simp [go_sem]
  have hck := checkAll2_any b1 b2 _ _ _ _ (w.heap.size + 1 + 1 + 1) _ (h1'.keep a4) (h2'.keep a4) ll lm e0 e1 e2 e3
  rw [hv] at hck
  have k0 : ∀ w1, Below ((((w.alloc (.cells #[.bool b1, sl1] 25)).alloc (.cells #[.bool b2, sl2] 25)).alloc (.cells #[.bool false, .slice none 0 0] 25)).alloc (.cells #[.bool b1, sl1, .bool b2, sl2] 25)).heap.size ((((w.alloc (.cells #[.bool b1, sl1] 25)).alloc (.cells #[.bool b2, sl2] 25)).alloc (.cells #[.bool false, .slice none 0 0] 25)).alloc (.cells #[.bool b1, sl1, .bool b2, sl2] 25)) w1 → w1.cell? ⟨w.heap.size, 0, none⟩ = some (.bool b1) ∧ w1.cell? ⟨w.heap.size, 1, none⟩ = some (sl1) ∧ w.heap.size < w1.heap.size ∧ w1.cell? ⟨w.heap.size + 1, 0, none⟩ = some (.bool b2) ∧ w1.cell? ⟨w.heap.size + 1, 1, none⟩ = some (sl2) ∧ w.heap.size + 1 < w1.heap.size ∧ w1.cell? ⟨w.heap.size + 1 + 1, 0, none⟩ = some (.bool false) ∧ w1.frozen? ⟨w.heap.size + 1 + 1, 0, none⟩ = false ∧ w1.cell? ⟨w.heap.size + 1 + 1, 1, none⟩ = some (.slice none 0 0) ∧ w1.frozen? ⟨w.heap.size + 1 + 1, 1, none⟩ = false ∧ w.heap.size + 1 + 1 < w1.heap.size := fun w1 hb => ⟨lkeep hb (by simp [go_sem]), lkeep hb (by simp [go_sem]), by have := hb.size; simp at this; omega, lkeep hb (by simp [go_sem]), lkeep hb (by simp [go_sem]), by have := hb.size; simp at this; omega, lkeep hb (by simp [go_sem]), (hb.frozen (by simp [go_sem] <;> omega)).trans (by simp [go_sem]), lkeep hb (by simp [go_sem]), (hb.frozen (by simp [go_sem] <;> omega)).trans (by simp [go_sem]), by have := hb.size; simp at this; omega⟩
  clear e0 e1 e2 e3
  subst hsl1 hsl2
  go_enter Tryd.func12, Tryd.ntmps12
  go_wp2_with fail
  go_at_call 38
  refine hck.mono ?_
  rintro e w1 ⟨rfl, hb1⟩
  obtain ⟨c00, c01, y0, c10, c11, y1, c20, z20, c21, z21, y2⟩ := k0 w1 hb1
  have B1 := a4.trans (hb1.mono a4.size)
  clear hck k0 hb1 a1 a2 a3 a4
  go_wp2
  refine bodyPost_ret (v := .tuple #[.agg #[.bool false, .slice none 0 0], .int .i64 30]) (by simp [results, Tryd.results12, go_sem, c00, c01, y0, c10, c11, y1, c20, z20, c21, z21, y2]) rfl ⟨rfl, by (repeat (first | with_reducible exact Below.refl _ _ | with_reducible assumption | refine Below.alloc ?_ (by (try simp); try omega) _ | refine Below.setCell ?_ (by (try simp); try omega) _ | refine below_drewN ?_ _ | refine Below.drew ?_ | (with_reducible refine Below.trans ?_ (Below.mono (by assumption) (by (try simp); try omega)))))⟩
set_option maxRecDepth 100000 in
set_option maxHeartbeats 1000000 in
theorem sub_bad (b1 b2 : Bool) (s1 s2 : Value) (l m : List Int) (w : World) (h1 : Ls w s1 l) (h2 : Ls w s2 m) (ll : l.length ≤ 1000000) (lm : m.length ≤ 1000000) (hv : ckT (ckL b1 l) (ckL b2 m) = 30) :
    Calls Tryd.prog 13 #[.agg #[.bool b1, s1], .agg #[.bool b2, s2]] w fun e w' => e = .returned (.tuple #[noL, .int .i64 30]) ∧ Below w.heap.size w w' := by
  have a1 := Below.alloc (Below.refl w.heap.size w) (Nat.le_refl _) (.cells #[.bool b1, s1] 25)
  have a2 := Below.alloc a1 a1.size (.cells #[.bool b2, s2] 25)
  have a3 := Below.alloc a2 a2.size (.cells #[.bool false, .slice none 0 0] 25)
  have a4 := Below.alloc a3 a3.size (.cells #[.bool b1, s1, .bool b2, s2] 25)
  have h1' := h1
  have h2' := h2
  obtain ⟨pa, ca, rfl, hca', hqa⟩ := h1
  obtain ⟨pb, cb, rfl, hcb', hqb⟩ := h2
  clear hca' hqa hcb' hqb
  generalize hsl1 : (Value.slice pa l.length ca) = sl1 at *
  generalize hsl2 : (Value.slice pb m.length cb) = sl2 at *
  have e0 : ((((w.alloc (.cells #[.bool b1, sl1] 25)).alloc (.cells #[.bool b2, sl2] 25)).alloc (.cells #[.bool false, .slice none 0 0] 25)).alloc (.cells #[.bool b1, sl1, .bool b2, sl2] 25)).cell? ⟨w.heap.size + 1 + 1 + 1, 0, none⟩ = some (.bool b1) := by simp [go_sem]
  have e1 : ((((w.alloc (.cells #[.bool b1, sl1] 25)).alloc (.cells #[.bool b2, sl2] 25)).alloc (.cells #[.bool false, .slice none 0 0] 25)).alloc (.cells #[.bool b1, sl1, .bool b2, sl2] 25)).cell? ⟨w.heap.size + 1 + 1 + 1, 1, none⟩ = some (sl1) := by simp [go_sem]
  have e2 : ((((w.alloc (.cells #[.bool b1, sl1] 25)).alloc (.cells #[.bool b2, sl2] 25)).alloc (.cells #[.bool false, .slice none 0 0] 25)).alloc (.cells #[.bool b1, sl1, .bool b2, sl2] 25)).cell? ⟨w.heap.size + 1 + 1 + 1, 2, none⟩ = some (.bool b2) := by simp [go_sem]
  have e3 : ((((w.alloc (.cells #[.bool b1, sl1] 25)).alloc (.cells #[.bool b2, sl2] 25)).alloc (.cells #[.bool false, .slice none 0 0] 25)).alloc (.cells #[.bool b1, sl1, .bool b2, sl2] 25)).cell? ⟨w.heap.size + 1 + 1 + 1, 3, none⟩ = some (sl2) := by simp [go_sem]
  have hck := checkAll2_any b1 b2 _ _ _ _ (w.heap.size + 1 + 1 + 1) _ (h1'.keep a4) (h2'.keep a4) ll lm e0 e1 e2 e3
  rw [hv] at hck
  have k0 : ∀ w1, Below ((((w.alloc (.cells #[.bool b1, sl1] 25)).alloc (.cells #[.bool b2, sl2] 25)).alloc (.cells #[.bool false, .slice none 0 0] 25)).alloc (.cells #[.bool b1, sl1, .bool b2, sl2] 25)).heap.size ((((w.alloc (.cells #[.bool b1, sl1] 25)).alloc (.cells #[.bool b2, sl2] 25)).alloc (.cells #[.bool false, .slice none 0 0] 25)).alloc (.cells #[.bool b1, sl1, .bool b2, sl2] 25)) w1 → w1.cell? ⟨w.heap.size, 0, none⟩ = some (.bool b1) ∧ w1.cell? ⟨w.heap.size, 1, none⟩ = some (sl1) ∧ w.heap.size < w1.heap.size ∧ w1.cell? ⟨w.heap.size + 1, 0, none⟩ = some (.bool b2) ∧ w1.cell? ⟨w.heap.size + 1, 1, none⟩ = some (sl2) ∧ w.heap.size + 1 < w1.heap.size ∧ w1.cell? ⟨w.heap.size + 1 + 1, 0, none⟩ = some (.bool false) ∧ w1.frozen? ⟨w.heap.size + 1 + 1, 0, none⟩ = false ∧ w1.cell? ⟨w.heap.size + 1 + 1, 1, none⟩ = some (.slice none 0 0) ∧ w1.frozen? ⟨w.heap.size + 1 + 1, 1, none⟩ = false ∧ w.heap.size + 1 + 1 < w1.heap.size := fun w1 hb => ⟨lkeep hb (by simp [go_sem]), lkeep hb (by simp [go_sem]), by have := hb.size; simp at this; omega, lkeep hb (by simp [go_sem]), lkeep hb (by simp [go_sem]), by have := hb.size; simp at this; omega, lkeep hb (by simp [go_sem]), (hb.frozen (by simp [go_sem] <;> omega)).trans (by simp [go_sem]), lkeep hb (by simp [go_sem]), (hb.frozen (by simp [go_sem] <;> omega)).trans (by simp [go_sem]), by have := hb.size; simp at this; omega⟩
  clear e0 e1 e2 e3
  subst hsl1 hsl2
  go_enter Tryd.func13, Tryd.ntmps13
  go_wp2_with fail
  go_at_call 38
  refine hck.mono ?_
  rintro e w1 ⟨rfl, hb1⟩
  obtain ⟨c00, c01, y0, c10, c11, y1, c20, z20, c21, z21, y2⟩ := k0 w1 hb1
  have B1 := a4.trans (hb1.mono a4.size)
  clear hck k0 hb1 a1 a2 a3 a4
  go_wp2
  refine bodyPost_ret (v := .tuple #[.agg #[.bool false, .slice none 0 0], .int .i64 30]) (by simp [results, Tryd.results13, go_sem, c00, c01, y0, c10, c11, y1, c20, z20, c21, z21, y2]) rfl ⟨rfl, by (repeat (first | with_reducible exact Below.refl _ _ | with_reducible assumption | refine Below.alloc ?_ (by (try simp); try omega) _ | refine Below.setCell ?_ (by (try simp); try omega) _ | refine below_drewN ?_ _ | refine Below.drew ?_ | (with_reducible refine Below.trans ?_ (Below.mono (by assumption) (by (try simp); try omega)))))⟩
set_option maxRecDepth 100000 in
set_option maxHeartbeats 1000000 in
theorem mul_bad (b1 b2 : Bool) (s1 s2 : Value) (l m : List Int) (w : World) (h1 : Ls w s1 l) (h2 : Ls w s2 m) (ll : l.length ≤ 1000000) (lm : m.length ≤ 1000000) (hv : ckT (ckL b1 l) (ckL b2 m) = 30) :
    Calls Tryd.prog 14 #[.agg #[.bool b1, s1], .agg #[.bool b2, s2]] w fun e w' => e = .returned (.tuple #[noL, .int .i64 30]) ∧ Below w.heap.size w w' := by
  have a1 := Below.alloc (Below.refl w.heap.size w) (Nat.le_refl _) (.cells #[.bool b1, s1] 25)
  have a2 := Below.alloc a1 a1.size (.cells #[.bool b2, s2] 25)
  have a3 := Below.alloc a2 a2.size (.cells #[.bool false, .slice none 0 0] 25)
  have a4 := Below.alloc a3 a3.size (.cells #[.bool b1, s1, .bool b2, s2] 25)
  have h1' := h1
  have h2' := h2
  obtain ⟨pa, ca, rfl, hca', hqa⟩ := h1
  obtain ⟨pb, cb, rfl, hcb', hqb⟩ := h2
  clear hca' hqa hcb' hqb
  generalize hsl1 : (Value.slice pa l.length ca) = sl1 at *
  generalize hsl2 : (Value.slice pb m.length cb) = sl2 at *
  have e0 : ((((w.alloc (.cells #[.bool b1, sl1] 25)).alloc (.cells #[.bool b2, sl2] 25)).alloc (.cells #[.bool false, .slice none 0 0] 25)).alloc (.cells #[.bool b1, sl1, .bool b2, sl2] 25)).cell? ⟨w.heap.size + 1 + 1 + 1, 0, none⟩ = some (.bool b1) := by simp [go_sem]
  have e1 : ((((w.alloc (.cells #[.bool b1, sl1] 25)).alloc (.cells #[.bool b2, sl2] 25)).alloc (.cells #[.bool false, .slice none 0 0] 25)).alloc (.cells #[.bool b1, sl1, .bool b2, sl2] 25)).cell? ⟨w.heap.size + 1 + 1 + 1, 1, none⟩ = some (sl1) := by simp [go_sem]
  have e2 : ((((w.alloc (.cells #[.bool b1, sl1] 25)).alloc (.cells #[.bool b2, sl2] 25)).alloc (.cells #[.bool false, .slice none 0 0] 25)).alloc (.cells #[.bool b1, sl1, .bool b2, sl2] 25)).cell? ⟨w.heap.size + 1 + 1 + 1, 2, none⟩ = some (.bool b2) := by simp [go_sem]
  have e3 : ((((w.alloc (.cells #[.bool b1, sl1] 25)).alloc (.cells #[.bool b2, sl2] 25)).alloc (.cells #[.bool false, .slice none 0 0] 25)).alloc (.cells #[.bool b1, sl1, .bool b2, sl2] 25)).cell? ⟨w.heap.size + 1 + 1 + 1, 3, none⟩ = some (sl2) := by simp [go_sem]
  have hck := checkAll2_any b1 b2 _ _ _ _ (w.heap.size + 1 + 1 + 1) _ (h1'.keep a4) (h2'.keep a4) ll lm e0 e1 e2 e3
  rw [hv] at hck
  have k0 : ∀ w1, Below ((((w.alloc (.cells #[.bool b1, sl1] 25)).alloc (.cells #[.bool b2, sl2] 25)).alloc (.cells #[.bool false, .slice none 0 0] 25)).alloc (.cells #[.bool b1, sl1, .bool b2, sl2] 25)).heap.size ((((w.alloc (.cells #[.bool b1, sl1] 25)).alloc (.cells #[.bool b2, sl2] 25)).alloc (.cells #[.bool false, .slice none 0 0] 25)).alloc (.cells #[.bool b1, sl1, .bool b2, sl2] 25)) w1 → w1.cell? ⟨w.heap.size, 0, none⟩ = some (.bool b1) ∧ w1.cell? ⟨w.heap.size, 1, none⟩ = some (sl1) ∧ w.heap.size < w1.heap.size ∧ w1.cell? ⟨w.heap.size + 1, 0, none⟩ = some (.bool b2) ∧ w1.cell? ⟨w.heap.size + 1, 1, none⟩ = some (sl2) ∧ w.heap.size + 1 < w1.heap.size ∧ w1.cell? ⟨w.heap.size + 1 + 1, 0, none⟩ = some (.bool false) ∧ w1.frozen? ⟨w.heap.size + 1 + 1, 0, none⟩ = false ∧ w1.cell? ⟨w.heap.size + 1 + 1, 1, none⟩ = some (.slice none 0 0) ∧ w1.frozen? ⟨w.heap.size + 1 + 1, 1, none⟩ = false ∧ w.heap.size + 1 + 1 < w1.heap.size := fun w1 hb => ⟨lkeep hb (by simp [go_sem]), lkeep hb (by simp [go_sem]), by have := hb.size; simp at this; omega, lkeep hb (by simp [go_sem]), lkeep hb (by simp [go_sem]), by have := hb.size; simp at this; omega, lkeep hb (by simp [go_sem]), (hb.frozen (by simp [go_sem] <;> omega)).trans (by simp [go_sem]), lkeep hb (by simp [go_sem]), (hb.frozen (by simp [go_sem] <;> omega)).trans (by simp [go_sem]), by have := hb.size; simp at this; omega⟩
  clear e0 e1 e2 e3
  subst hsl1 hsl2
  go_enter Tryd.func14, Tryd.ntmps14
  go_wp2_with fail
  go_at_call 38
  refine hck.mono ?_
  rintro e w1 ⟨rfl, hb1⟩
  obtain ⟨c00, c01, y0, c10, c11, y1, c20, z20, c21, z21, y2⟩ := k0 w1 hb1
  have B1 := a4.trans (hb1.mono a4.size)
  clear hck k0 hb1 a1 a2 a3 a4
  go_wp2
  refine bodyPost_ret (v := .tuple #[.agg #[.bool false, .slice none 0 0], .int .i64 30]) (by simp [results, Tryd.results14, go_sem, c00, c01, y0, c10, c11, y1, c20, z20, c21, z21, y2]) rfl ⟨rfl, by (repeat (first | with_reducible exact Below.refl _ _ | with_reducible assumption | refine Below.alloc ?_ (by (try simp); try omega) _ | refine Below.setCell ?_ (by (try simp); try omega) _ | refine below_drewN ?_ _ | refine Below.drew ?_ | (with_reducible refine Below.trans ?_ (Below.mono (by assumption) (by (try simp); try omega)))))⟩
set_option maxRecDepth 100000 in
set_option maxHeartbeats 1000000 in
theorem gcd_bad (b1 b2 : Bool) (s1 s2 : Value) (l m : List Int) (w : World) (h1 : Ls w s1 l) (h2 : Ls w s2 m) (ll : l.length ≤ 1000000) (lm : m.length ≤ 1000000) (hv : ckT (ckL b1 l) (ckL b2 m) = 30) :
    Calls Tryd.prog 17 #[.agg #[.bool b1, s1], .agg #[.bool b2, s2]] w fun e w' => e = .returned (.tuple #[noL, .int .i64 30]) ∧ Below w.heap.size w w' := by
  have a1 := Below.alloc (Below.refl w.heap.size w) (Nat.le_refl _) (.cells #[.bool b1, s1] 25)
  have a2 := Below.alloc a1 a1.size (.cells #[.bool b2, s2] 25)
  have a3 := Below.alloc a2 a2.size (.cells #[.bool false, .slice none 0 0] 25)
  have a4 := Below.alloc a3 a3.size (.cells #[.bool b1, s1, .bool b2, s2] 25)
  have h1' := h1
  have h2' := h2
  obtain ⟨pa, ca, rfl, hca', hqa⟩ := h1
  obtain ⟨pb, cb, rfl, hcb', hqb⟩ := h2
  clear hca' hqa hcb' hqb
  generalize hsl1 : (Value.slice pa l.length ca) = sl1 at *
  generalize hsl2 : (Value.slice pb m.length cb) = sl2 at *
  have e0 : ((((w.alloc (.cells #[.bool b1, sl1] 25)).alloc (.cells #[.bool b2, sl2] 25)).alloc (.cells #[.bool false, .slice none 0 0] 25)).alloc (.cells #[.bool b1, sl1, .bool b2, sl2] 25)).cell? ⟨w.heap.size + 1 + 1 + 1, 0, none⟩ = some (.bool b1) := by simp [go_sem]
  have e1 : ((((w.alloc (.cells #[.bool b1, sl1] 25)).alloc (.cells #[.bool b2, sl2] 25)).alloc (.cells #[.bool false, .slice none 0 0] 25)).alloc (.cells #[.bool b1, sl1, .bool b2, sl2] 25)).cell? ⟨w.heap.size + 1 + 1 + 1, 1, none⟩ = some (sl1) := by simp [go_sem]
  have e2 : ((((w.alloc (.cells #[.bool b1, sl1] 25)).alloc (.cells #[.bool b2, sl2] 25)).alloc (.cells #[.bool false, .slice none 0 0] 25)).alloc (.cells #[.bool b1, sl1, .bool b2, sl2] 25)).cell? ⟨w.heap.size + 1 + 1 + 1, 2, none⟩ = some (.bool b2) := by simp [go_sem]
  have e3 : ((((w.alloc (.cells #[.bool b1, sl1] 25)).alloc (.cells #[.bool b2, sl2] 25)).alloc (.cells #[.bool false, .slice none 0 0] 25)).alloc (.cells #[.bool b1, sl1, .bool b2, sl2] 25)).cell? ⟨w.heap.size + 1 + 1 + 1, 3, none⟩ = some (sl2) := by simp [go_sem]
  have hck := checkAll2_any b1 b2 _ _ _ _ (w.heap.size + 1 + 1 + 1) _ (h1'.keep a4) (h2'.keep a4) ll lm e0 e1 e2 e3
  rw [hv] at hck
  have k0 : ∀ w1, Below ((((w.alloc (.cells #[.bool b1, sl1] 25)).alloc (.cells #[.bool b2, sl2] 25)).alloc (.cells #[.bool false, .slice none 0 0] 25)).alloc (.cells #[.bool b1, sl1, .bool b2, sl2] 25)).heap.size ((((w.alloc (.cells #[.bool b1, sl1] 25)).alloc (.cells #[.bool b2, sl2] 25)).alloc (.cells #[.bool false, .slice none 0 0] 25)).alloc (.cells #[.bool b1, sl1, .bool b2, sl2] 25)) w1 → w1.cell? ⟨w.heap.size, 0, none⟩ = some (.bool b1) ∧ w1.cell? ⟨w.heap.size, 1, none⟩ = some (sl1) ∧ w.heap.size < w1.heap.size ∧ w1.cell? ⟨w.heap.size + 1, 0, none⟩ = some (.bool b2) ∧ w1.cell? ⟨w.heap.size + 1, 1, none⟩ = some (sl2) ∧ w.heap.size + 1 < w1.heap.size ∧ w1.cell? ⟨w.heap.size + 1 + 1, 0, none⟩ = some (.bool false) ∧ w1.frozen? ⟨w.heap.size + 1 + 1, 0, none⟩ = false ∧ w1.cell? ⟨w.heap.size + 1 + 1, 1, none⟩ = some (.slice none 0 0) ∧ w1.frozen? ⟨w.heap.size + 1 + 1, 1, none⟩ = false ∧ w.heap.size + 1 + 1 < w1.heap.size := fun w1 hb => ⟨lkeep hb (by simp [go_sem]), lkeep hb (by simp [go_sem]), by have := hb.size; simp at this; omega, lkeep hb (by simp [go_sem]), lkeep hb (by simp [go_sem]), by have := hb.size; simp at this; omega, lkeep hb (by simp [go_sem]), (hb.frozen (by simp [go_sem] <;> omega)).trans (by simp [go_sem]), lkeep hb (by simp [go_sem]), (hb.frozen (by simp [go_sem] <;> omega)).trans (by simp [go_sem]), by have := hb.size; simp at this; omega⟩
  clear e0 e1 e2 e3
  subst hsl1 hsl2
  go_enter Tryd.func17, Tryd.ntmps17
  go_wp2_with fail
  go_at_call 38
  refine hck.mono ?_
  rintro e w1 ⟨rfl, hb1⟩
  obtain ⟨c00, c01, y0, c10, c11, y1, c20, z20, c21, z21, y2⟩ := k0 w1 hb1
  have B1 := a4.trans (hb1.mono a4.size)
  clear hck k0 hb1 a1 a2 a3 a4
  go_wp2
  refine bodyPost_ret (v := .tuple #[.agg #[.bool false, .slice none 0 0], .int .i64 30]) (by simp [results, Tryd.results17, go_sem, c00, c01, y0, c10, c11, y1, c20, z20, c21, z21, y2]) rfl ⟨rfl, by (repeat (first | with_reducible exact Below.refl _ _ | with_reducible assumption | refine Below.alloc ?_ (by (try simp); try omega) _ | refine Below.setCell ?_ (by (try simp); try omega) _ | refine below_drewN ?_ _ | refine Below.drew ?_ | (with_reducible refine Below.trans ?_ (Below.mono (by assumption) (by (try simp); try omega)))))⟩
set_option maxRecDepth 100000 in
set_option maxHeartbeats 1000000 in
theorem div_bad (b1 b2 : Bool) (s1 s2 : Value) (l m : List Int) (w : World) (h1 : Ls w s1 l) (h2 : Ls w s2 m) (ll : l.length ≤ 1000000) (lm : m.length ≤ 1000000) (hv : ckT (ckL b1 l) (ckL b2 m) = 30) :
    Calls Tryd.prog 19 #[.agg #[.bool b1, s1], .agg #[.bool b2, s2]] w fun e w' => e = .returned (.tuple #[noL, noL, .int .i64 30]) ∧ Below w.heap.size w w' := by
  have a1 := Below.alloc (Below.refl w.heap.size w) (Nat.le_refl _) (.cells #[.bool b1, s1] 25)
  have a2 := Below.alloc a1 a1.size (.cells #[.bool b2, s2] 25)
  have a3 := Below.alloc a2 a2.size (.cells #[.bool false, .slice none 0 0] 25)
  have a4 := Below.alloc a3 a3.size (.cells #[.bool false, .slice none 0 0] 25)
  have a5 := Below.alloc a4 a4.size (.cells #[.bool b1, s1, .bool b2, s2] 25)
  have h1' := h1
  have h2' := h2
  obtain ⟨pa, ca, rfl, hca', hqa⟩ := h1
  obtain ⟨pb, cb, rfl, hcb', hqb⟩ := h2
  clear hca' hqa hcb' hqb
  generalize hsl1 : (Value.slice pa l.length ca) = sl1 at *
  generalize hsl2 : (Value.slice pb m.length cb) = sl2 at *
  have e0 : (((((w.alloc (.cells #[.bool b1, sl1] 25)).alloc (.cells #[.bool b2, sl2] 25)).alloc (.cells #[.bool false, .slice none 0 0] 25)).alloc (.cells #[.bool false, .slice none 0 0] 25)).alloc (.cells #[.bool b1, sl1, .bool b2, sl2] 25)).cell? ⟨w.heap.size + 1 + 1 + 1 + 1, 0, none⟩ = some (.bool b1) := by simp [go_sem]
  have e1 : (((((w.alloc (.cells #[.bool b1, sl1] 25)).alloc (.cells #[.bool b2, sl2] 25)).alloc (.cells #[.bool false, .slice none 0 0] 25)).alloc (.cells #[.bool false, .slice none 0 0] 25)).alloc (.cells #[.bool b1, sl1, .bool b2, sl2] 25)).cell? ⟨w.heap.size + 1 + 1 + 1 + 1, 1, none⟩ = some (sl1) := by simp [go_sem]
  have e2 : (((((w.alloc (.cells #[.bool b1, sl1] 25)).alloc (.cells #[.bool b2, sl2] 25)).alloc (.cells #[.bool false, .slice none 0 0] 25)).alloc (.cells #[.bool false, .slice none 0 0] 25)).alloc (.cells #[.bool b1, sl1, .bool b2, sl2] 25)).cell? ⟨w.heap.size + 1 + 1 + 1 + 1, 2, none⟩ = some (.bool b2) := by simp [go_sem]
  have e3 : (((((w.alloc (.cells #[.bool b1, sl1] 25)).alloc (.cells #[.bool b2, sl2] 25)).alloc (.cells #[.bool false, .slice none 0 0] 25)).alloc (.cells #[.bool false, .slice none 0 0] 25)).alloc (.cells #[.bool b1, sl1, .bool b2, sl2] 25)).cell? ⟨w.heap.size + 1 + 1 + 1 + 1, 3, none⟩ = some (sl2) := by simp [go_sem]
  have hck := checkAll2_any b1 b2 _ _ _ _ (w.heap.size + 1 + 1 + 1 + 1) _ (h1'.keep a5) (h2'.keep a5) ll lm e0 e1 e2 e3
  rw [hv] at hck
  have k0 : ∀ w1, Below (((((w.alloc (.cells #[.bool b1, sl1] 25)).alloc (.cells #[.bool b2, sl2] 25)).alloc (.cells #[.bool false, .slice none 0 0] 25)).alloc (.cells #[.bool false, .slice none 0 0] 25)).alloc (.cells #[.bool b1, sl1, .bool b2, sl2] 25)).heap.size (((((w.alloc (.cells #[.bool b1, sl1] 25)).alloc (.cells #[.bool b2, sl2] 25)).alloc (.cells #[.bool false, .slice none 0 0] 25)).alloc (.cells #[.bool false, .slice none 0 0] 25)).alloc (.cells #[.bool b1, sl1, .bool b2, sl2] 25)) w1 → w1.cell? ⟨w.heap.size, 0, none⟩ = some (.bool b1) ∧ w1.cell? ⟨w.heap.size, 1, none⟩ = some (sl1) ∧ w.heap.size < w1.heap.size ∧ w1.cell? ⟨w.heap.size + 1, 0, none⟩ = some (.bool b2) ∧ w1.cell? ⟨w.heap.size + 1, 1, none⟩ = some (sl2) ∧ w.heap.size + 1 < w1.heap.size ∧ w1.cell? ⟨w.heap.size + 1 + 1, 0, none⟩ = some (.bool false) ∧ w1.frozen? ⟨w.heap.size + 1 + 1, 0, none⟩ = false ∧ w1.cell? ⟨w.heap.size + 1 + 1, 1, none⟩ = some (.slice none 0 0) ∧ w1.frozen? ⟨w.heap.size + 1 + 1, 1, none⟩ = false ∧ w.heap.size + 1 + 1 < w1.heap.size ∧ w1.cell? ⟨w.heap.size + 1 + 1 + 1, 0, none⟩ = some (.bool false) ∧ w1.frozen? ⟨w.heap.size + 1 + 1 + 1, 0, none⟩ = false ∧ w1.cell? ⟨w.heap.size + 1 + 1 + 1, 1, none⟩ = some (.slice none 0 0) ∧ w1.frozen? ⟨w.heap.size + 1 + 1 + 1, 1, none⟩ = false ∧ w.heap.size + 1 + 1 + 1 < w1.heap.size := fun w1 hb => ⟨lkeep hb (by simp [go_sem]), lkeep hb (by simp [go_sem]), by have := hb.size; simp at this; omega, lkeep hb (by simp [go_sem]), lkeep hb (by simp [go_sem]), by have := hb.size; simp at this; omega, lkeep hb (by simp [go_sem]), (hb.frozen (by simp [go_sem] <;> omega)).trans (by simp [go_sem]), lkeep hb (by simp [go_sem]), (hb.frozen (by simp [go_sem] <;> omega)).trans (by simp [go_sem]), by have := hb.size; simp at this; omega, lkeep hb (by simp [go_sem]), (hb.frozen (by simp [go_sem] <;> omega)).trans (by simp [go_sem]), lkeep hb (by simp [go_sem]), (hb.frozen (by simp [go_sem] <;> omega)).trans (by simp [go_sem]), by have := hb.size; simp at this; omega⟩
  clear e0 e1 e2 e3
  subst hsl1 hsl2
  go_enter Tryd.func19, Tryd.ntmps19
  go_wp2_with fail
  go_at_call 38
  refine hck.mono ?_
  rintro e w1 ⟨rfl, hb1⟩
  obtain ⟨c00, c01, y0, c10, c11, y1, c20, z20, c21, z21, y2, c30, z30, c31, z31, y3⟩ := k0 w1 hb1
  have B1 := a5.trans (hb1.mono a5.size)
  clear hck k0 hb1 a1 a2 a3 a4 a5
  go_wp2
  refine bodyPost_ret (v := .tuple #[.agg #[.bool false, .slice none 0 0], .agg #[.bool false, .slice none 0 0], .int .i64 30]) (by simp [results, Tryd.results19, go_sem, c00, c01, y0, c10, c11, y1, c20, z20, c21, z21, y2, c30, z30, c31, z31, y3]) rfl ⟨rfl, by (repeat (first | with_reducible exact Below.refl _ _ | with_reducible assumption | refine Below.alloc ?_ (by (try simp); try omega) _ | refine Below.setCell ?_ (by (try simp); try omega) _ | refine below_drewN ?_ _ | refine Below.drew ?_ | (with_reducible refine Below.trans ?_ (Below.mono (by assumption) (by (try simp); try omega)))))⟩
set_option maxRecDepth 100000 in
set_option maxHeartbeats 1000000 in
theorem cmp_bad (b1 b2 : Bool) (s1 s2 : Value) (l m : List Int) (w : World) (h1 : Ls w s1 l) (h2 : Ls w s2 m) (ll : l.length ≤ 1000000) (lm : m.length ≤ 1000000) (hv : ckT (ckL b1 l) (ckL b2 m) = 30) :
    Calls Tryd.prog 22 #[.agg #[.bool b1, s1], .agg #[.bool b2, s2]] w fun e w' => e = .returned (.tuple #[.int .i64 0, .int .i64 30]) ∧ Below w.heap.size w w' := by
  have a1 := Below.alloc (Below.refl w.heap.size w) (Nat.le_refl _) (.cells #[.bool b1, s1] 25)
  have a2 := Below.alloc a1 a1.size (.cells #[.bool b2, s2] 25)
  have a3 := Below.alloc a2 a2.size (.cells #[.bool b1, s1, .bool b2, s2] 25)
  have h1' := h1
  have h2' := h2
  obtain ⟨pa, ca, rfl, hca', hqa⟩ := h1
  obtain ⟨pb, cb, rfl, hcb', hqb⟩ := h2
  clear hca' hqa hcb' hqb
  generalize hsl1 : (Value.slice pa l.length ca) = sl1 at *
  generalize hsl2 : (Value.slice pb m.length cb) = sl2 at *
  have e0 : (((w.alloc (.cells #[.bool b1, sl1] 25)).alloc (.cells #[.bool b2, sl2] 25)).alloc (.cells #[.bool b1, sl1, .bool b2, sl2] 25)).cell? ⟨w.heap.size + 1 + 1, 0, none⟩ = some (.bool b1) := by simp [go_sem]
  have e1 : (((w.alloc (.cells #[.bool b1, sl1] 25)).alloc (.cells #[.bool b2, sl2] 25)).alloc (.cells #[.bool b1, sl1, .bool b2, sl2] 25)).cell? ⟨w.heap.size + 1 + 1, 1, none⟩ = some (sl1) := by simp [go_sem]
  have e2 : (((w.alloc (.cells #[.bool b1, sl1] 25)).alloc (.cells #[.bool b2, sl2] 25)).alloc (.cells #[.bool b1, sl1, .bool b2, sl2] 25)).cell? ⟨w.heap.size + 1 + 1, 2, none⟩ = some (.bool b2) := by simp [go_sem]
  have e3 : (((w.alloc (.cells #[.bool b1, sl1] 25)).alloc (.cells #[.bool b2, sl2] 25)).alloc (.cells #[.bool b1, sl1, .bool b2, sl2] 25)).cell? ⟨w.heap.size + 1 + 1, 3, none⟩ = some (sl2) := by simp [go_sem]
  have hck := checkAll2_any b1 b2 _ _ _ _ (w.heap.size + 1 + 1) _ (h1'.keep a3) (h2'.keep a3) ll lm e0 e1 e2 e3
  rw [hv] at hck
  have k0 : ∀ w1, Below (((w.alloc (.cells #[.bool b1, sl1] 25)).alloc (.cells #[.bool b2, sl2] 25)).alloc (.cells #[.bool b1, sl1, .bool b2, sl2] 25)).heap.size (((w.alloc (.cells #[.bool b1, sl1] 25)).alloc (.cells #[.bool b2, sl2] 25)).alloc (.cells #[.bool b1, sl1, .bool b2, sl2] 25)) w1 → w1.cell? ⟨w.heap.size, 0, none⟩ = some (.bool b1) ∧ w1.cell? ⟨w.heap.size, 1, none⟩ = some (sl1) ∧ w.heap.size < w1.heap.size ∧ w1.cell? ⟨w.heap.size + 1, 0, none⟩ = some (.bool b2) ∧ w1.cell? ⟨w.heap.size + 1, 1, none⟩ = some (sl2) ∧ w.heap.size + 1 < w1.heap.size := fun w1 hb => ⟨lkeep hb (by simp [go_sem]), lkeep hb (by simp [go_sem]), by have := hb.size; simp at this; omega, lkeep hb (by simp [go_sem]), lkeep hb (by simp [go_sem]), by have := hb.size; simp at this; omega⟩
  clear e0 e1 e2 e3
  subst hsl1 hsl2
  go_enter Tryd.func22, Tryd.ntmps22
  go_wp2_with fail
  go_at_call 38
  refine hck.mono ?_
  rintro e w1 ⟨rfl, hb1⟩
  obtain ⟨c00, c01, y0, c10, c11, y1⟩ := k0 w1 hb1
  have B1 := a3.trans (hb1.mono a3.size)
  clear hck k0 hb1 a1 a2 a3
  go_wp2
  go_ret2
  exact ⟨rfl, by (repeat (first | with_reducible exact Below.refl _ _ | with_reducible assumption | refine Below.alloc ?_ (by (try simp); try omega) _ | refine Below.setCell ?_ (by (try simp); try omega) _ | refine below_drewN ?_ _ | refine Below.drew ?_ | (with_reducible refine Below.trans ?_ (Below.mono (by assumption) (by (try simp); try omega)))))⟩
set_option maxRecDepth 100000 in
set_option maxHeartbeats 1000000 in
theorem neg_bad (b1 : Bool) (s1 : Value) (l : List Int) (w : World) (h1 : Ls w s1 l) (ll : l.length ≤ 1000000) (hv : ckL b1 l = 30) :
    Calls Tryd.prog 15 #[.agg #[.bool b1, s1]] w fun e w' => e = .returned (.tuple #[noL, .int .i64 30]) ∧ Below w.heap.size w w' := by
  have a1 := Below.alloc (Below.refl w.heap.size w) (Nat.le_refl _) (.cells #[.bool b1, s1] 25)
  have a2 := Below.alloc a1 a1.size (.cells #[.bool false, .slice none 0 0] 25)
  have a3 := Below.alloc a2 a2.size (.cells #[.bool b1, s1] 25)
  have h1' := h1
  obtain ⟨pa, ca, rfl, hca', hqa⟩ := h1
  clear hca' hqa
  generalize hsl1 : (Value.slice pa l.length ca) = sl1 at *
  have e0 : (((w.alloc (.cells #[.bool b1, sl1] 25)).alloc (.cells #[.bool false, .slice none 0 0] 25)).alloc (.cells #[.bool b1, sl1] 25)).cell? ⟨w.heap.size + 1 + 1, 0, none⟩ = some (.bool b1) := by simp [go_sem]
  have e1 : (((w.alloc (.cells #[.bool b1, sl1] 25)).alloc (.cells #[.bool false, .slice none 0 0] 25)).alloc (.cells #[.bool b1, sl1] 25)).cell? ⟨w.heap.size + 1 + 1, 1, none⟩ = some (sl1) := by simp [go_sem]
  have hck := checkAll1_any b1 _ _ (w.heap.size + 1 + 1) _ (h1'.keep a3) ll e0 e1
  rw [hv] at hck
  have k0 : ∀ w1, Below (((w.alloc (.cells #[.bool b1, sl1] 25)).alloc (.cells #[.bool false, .slice none 0 0] 25)).alloc (.cells #[.bool b1, sl1] 25)).heap.size (((w.alloc (.cells #[.bool b1, sl1] 25)).alloc (.cells #[.bool false, .slice none 0 0] 25)).alloc (.cells #[.bool b1, sl1] 25)) w1 → w1.cell? ⟨w.heap.size, 0, none⟩ = some (.bool b1) ∧ w1.cell? ⟨w.heap.size, 1, none⟩ = some (sl1) ∧ w.heap.size < w1.heap.size ∧ w1.cell? ⟨w.heap.size + 1, 0, none⟩ = some (.bool false) ∧ w1.frozen? ⟨w.heap.size + 1, 0, none⟩ = false ∧ w1.cell? ⟨w.heap.size + 1, 1, none⟩ = some (.slice none 0 0) ∧ w1.frozen? ⟨w.heap.size + 1, 1, none⟩ = false ∧ w.heap.size + 1 < w1.heap.size := fun w1 hb => ⟨lkeep hb (by simp [go_sem]), lkeep hb (by simp [go_sem]), by have := hb.size; simp at this; omega, lkeep hb (by simp [go_sem]), (hb.frozen (by simp [go_sem] <;> omega)).trans (by simp [go_sem]), lkeep hb (by simp [go_sem]), (hb.frozen (by simp [go_sem] <;> omega)).trans (by simp [go_sem]), by have := hb.size; simp at this; omega⟩
  clear e0 e1
  subst hsl1
  go_enter Tryd.func15, Tryd.ntmps15
  go_wp2_with fail
  go_at_call 38
  refine hck.mono ?_
  rintro e w1 ⟨rfl, hb1⟩
  obtain ⟨c00, c01, y0, c10, z10, c11, z11, y1⟩ := k0 w1 hb1
  have B1 := a3.trans (hb1.mono a3.size)
  clear hck k0 hb1 a1 a2 a3
  go_wp2
  refine bodyPost_ret (v := .tuple #[.agg #[.bool false, .slice none 0 0], .int .i64 30]) (by simp [results, Tryd.results15, go_sem, c00, c01, y0, c10, z10, c11, z11, y1]) rfl ⟨rfl, by (repeat (first | with_reducible exact Below.refl _ _ | with_reducible assumption | refine Below.alloc ?_ (by (try simp); try omega) _ | refine Below.setCell ?_ (by (try simp); try omega) _ | refine below_drewN ?_ _ | refine Below.drew ?_ | (with_reducible refine Below.trans ?_ (Below.mono (by assumption) (by (try simp); try omega)))))⟩
set_option maxRecDepth 100000 in
set_option maxHeartbeats 1000000 in
theorem sqrt_bad (b1 : Bool) (s1 : Value) (l : List Int) (w : World) (h1 : Ls w s1 l) (ll : l.length ≤ 1000000) (hv : ckL b1 l = 30) :
    Calls Tryd.prog 16 #[.agg #[.bool b1, s1]] w fun e w' => e = .returned (.tuple #[noL, .int .i64 30]) ∧ Below w.heap.size w w' := by
  have a1 := Below.alloc (Below.refl w.heap.size w) (Nat.le_refl _) (.cells #[.bool b1, s1] 25)
  have a2 := Below.alloc a1 a1.size (.cells #[.bool false, .slice none 0 0] 25)
  have a3 := Below.alloc a2 a2.size (.cells #[.bool b1, s1] 25)
  have h1' := h1
  obtain ⟨pa, ca, rfl, hca', hqa⟩ := h1
  clear hca' hqa
  generalize hsl1 : (Value.slice pa l.length ca) = sl1 at *
  have e0 : (((w.alloc (.cells #[.bool b1, sl1] 25)).alloc (.cells #[.bool false, .slice none 0 0] 25)).alloc (.cells #[.bool b1, sl1] 25)).cell? ⟨w.heap.size + 1 + 1, 0, none⟩ = some (.bool b1) := by simp [go_sem]
  have e1 : (((w.alloc (.cells #[.bool b1, sl1] 25)).alloc (.cells #[.bool false, .slice none 0 0] 25)).alloc (.cells #[.bool b1, sl1] 25)).cell? ⟨w.heap.size + 1 + 1, 1, none⟩ = some (sl1) := by simp [go_sem]
  have hck := checkAll1_any b1 _ _ (w.heap.size + 1 + 1) _ (h1'.keep a3) ll e0 e1
  rw [hv] at hck
  have k0 : ∀ w1, Below (((w.alloc (.cells #[.bool b1, sl1] 25)).alloc (.cells #[.bool false, .slice none 0 0] 25)).alloc (.cells #[.bool b1, sl1] 25)).heap.size (((w.alloc (.cells #[.bool b1, sl1] 25)).alloc (.cells #[.bool false, .slice none 0 0] 25)).alloc (.cells #[.bool b1, sl1] 25)) w1 → w1.cell? ⟨w.heap.size, 0, none⟩ = some (.bool b1) ∧ w1.cell? ⟨w.heap.size, 1, none⟩ = some (sl1) ∧ w.heap.size < w1.heap.size ∧ w1.cell? ⟨w.heap.size + 1, 0, none⟩ = some (.bool false) ∧ w1.frozen? ⟨w.heap.size + 1, 0, none⟩ = false ∧ w1.cell? ⟨w.heap.size + 1, 1, none⟩ = some (.slice none 0 0) ∧ w1.frozen? ⟨w.heap.size + 1, 1, none⟩ = false ∧ w.heap.size + 1 < w1.heap.size := fun w1 hb => ⟨lkeep hb (by simp [go_sem]), lkeep hb (by simp [go_sem]), by have := hb.size; simp at this; omega, lkeep hb (by simp [go_sem]), (hb.frozen (by simp [go_sem] <;> omega)).trans (by simp [go_sem]), lkeep hb (by simp [go_sem]), (hb.frozen (by simp [go_sem] <;> omega)).trans (by simp [go_sem]), by have := hb.size; simp at this; omega⟩
  clear e0 e1
  subst hsl1
  go_enter Tryd.func16, Tryd.ntmps16
  go_wp2_with fail
  go_at_call 38
  refine hck.mono ?_
  rintro e w1 ⟨rfl, hb1⟩
  obtain ⟨c00, c01, y0, c10, z10, c11, z11, y1⟩ := k0 w1 hb1
  have B1 := a3.trans (hb1.mono a3.size)
  clear hck k0 hb1 a1 a2 a3
  go_wp2
  refine bodyPost_ret (v := .tuple #[.agg #[.bool false, .slice none 0 0], .int .i64 30]) (by simp [results, Tryd.results16, go_sem, c00, c01, y0, c10, z10, c11, z11, y1]) rfl ⟨rfl, by (repeat (first | with_reducible exact Below.refl _ _ | with_reducible assumption | refine Below.alloc ?_ (by (try simp); try omega) _ | refine Below.setCell ?_ (by (try simp); try omega) _ | refine below_drewN ?_ _ | refine Below.drew ?_ | (with_reducible refine Below.trans ?_ (Below.mono (by assumption) (by (try simp); try omega)))))⟩
set_option maxRecDepth 100000 in
set_option maxHeartbeats 1000000 in
theorem int_bad (b1 : Bool) (s1 : Value) (l : List Int) (w : World) (h1 : Ls w s1 l) (ll : l.length ≤ 1000000) (hv : ckL b1 l = 30) :
    Calls Tryd.prog 20 #[.agg #[.bool b1, s1]] w fun e w' => e = .returned (.tuple #[.int .i64 0, .int .i64 30]) ∧ Below w.heap.size w w' := by
  have a1 := Below.alloc (Below.refl w.heap.size w) (Nat.le_refl _) (.cells #[.bool b1, s1] 25)
  have a2 := Below.alloc a1 a1.size (.cells #[.int .i64 0] 3)
  have a3 := Below.alloc a2 a2.size (.cells #[.int .i64 0] 28)
  have a4 := Below.alloc a3 a3.size (.cells #[.bool b1, s1] 25)
  have h1' := h1
  obtain ⟨pa, ca, rfl, hca', hqa⟩ := h1
  clear hca' hqa
  generalize hsl1 : (Value.slice pa l.length ca) = sl1 at *
  have e0 : ((((w.alloc (.cells #[.bool b1, sl1] 25)).alloc (.cells #[.int .i64 0] 3)).alloc (.cells #[.int .i64 0] 28)).alloc (.cells #[.bool b1, sl1] 25)).cell? ⟨w.heap.size + 1 + 1 + 1, 0, none⟩ = some (.bool b1) := by simp [go_sem]
  have e1 : ((((w.alloc (.cells #[.bool b1, sl1] 25)).alloc (.cells #[.int .i64 0] 3)).alloc (.cells #[.int .i64 0] 28)).alloc (.cells #[.bool b1, sl1] 25)).cell? ⟨w.heap.size + 1 + 1 + 1, 1, none⟩ = some (sl1) := by simp [go_sem]
  have hck := checkAll1_any b1 _ _ (w.heap.size + 1 + 1 + 1) _ (h1'.keep a4) ll e0 e1
  rw [hv] at hck
  have k0 : ∀ w1, Below ((((w.alloc (.cells #[.bool b1, sl1] 25)).alloc (.cells #[.int .i64 0] 3)).alloc (.cells #[.int .i64 0] 28)).alloc (.cells #[.bool b1, sl1] 25)).heap.size ((((w.alloc (.cells #[.bool b1, sl1] 25)).alloc (.cells #[.int .i64 0] 3)).alloc (.cells #[.int .i64 0] 28)).alloc (.cells #[.bool b1, sl1] 25)) w1 → w1.cell? ⟨w.heap.size, 0, none⟩ = some (.bool b1) ∧ w1.cell? ⟨w.heap.size, 1, none⟩ = some (sl1) ∧ w.heap.size < w1.heap.size ∧ w1.cell? ⟨w.heap.size + 1, 0, none⟩ = some (.int .i64 0) ∧ w1.frozen? ⟨w.heap.size + 1, 0, none⟩ = false ∧ w.heap.size + 1 < w1.heap.size ∧ w1.cell? ⟨w.heap.size + 1 + 1, 0, none⟩ = some (.int .i64 0) ∧ w1.frozen? ⟨w.heap.size + 1 + 1, 0, none⟩ = false ∧ w.heap.size + 1 + 1 < w1.heap.size := fun w1 hb => ⟨lkeep hb (by simp [go_sem]), lkeep hb (by simp [go_sem]), by have := hb.size; simp at this; omega, lkeep hb (by simp [go_sem]), (hb.frozen (by simp [go_sem] <;> omega)).trans (by simp [go_sem]), by have := hb.size; simp at this; omega, lkeep hb (by simp [go_sem]), (hb.frozen (by simp [go_sem] <;> omega)).trans (by simp [go_sem]), by have := hb.size; simp at this; omega⟩
  clear e0 e1
  subst hsl1
  go_enter Tryd.func20, Tryd.ntmps20
  go_wp2_with fail
  go_at_call 38
  refine hck.mono ?_
  rintro e w1 ⟨rfl, hb1⟩
  obtain ⟨c00, c01, y0, c10, z10, y1, c20, z20, y2⟩ := k0 w1 hb1
  have B1 := a4.trans (hb1.mono a4.size)
  clear hck k0 hb1 a1 a2 a3 a4
  go_wp2
  refine bodyPost_ret (v := .tuple #[.int .i64 0, .int .i64 30]) (by simp [results, Tryd.results20, go_sem, c00, c01, y0, c10, z10, y1, c20, z20, y2]) rfl ⟨rfl, by (repeat (first | with_reducible exact Below.refl _ _ | with_reducible assumption | refine Below.alloc ?_ (by (try simp); try omega) _ | refine Below.setCell ?_ (by (try simp); try omega) _ | refine below_drewN ?_ _ | refine Below.drew ?_ | (with_reducible refine Below.trans ?_ (Below.mono (by assumption) (by (try simp); try omega)))))⟩
set_option maxRecDepth 100000 in
set_option maxHeartbeats 1000000 in
theorem text_bad (b1 : Bool) (s1 : Value) (l : List Int) (w : World) (h1 : Ls w s1 l) (ll : l.length ≤ 1000000) (hv : ckL b1 l = 30) :
    Calls Tryd.prog 21 #[.agg #[.bool b1, s1]] w fun e w' => e = .returned (.tuple #[.string ⟨⟨[]⟩⟩, .int .i64 30]) ∧ Below w.heap.size w w' := by
  have a1 := Below.alloc (Below.refl w.heap.size w) (Nat.le_refl _) (.cells #[.bool b1, s1] 25)
  have a2 := Below.alloc a1 a1.size (.cells #[.bool b1, s1] 25)
  have h1' := h1
  obtain ⟨pa, ca, rfl, hca', hqa⟩ := h1
  clear hca' hqa
  generalize hsl1 : (Value.slice pa l.length ca) = sl1 at *
  have e0 : ((w.alloc (.cells #[.bool b1, sl1] 25)).alloc (.cells #[.bool b1, sl1] 25)).cell? ⟨w.heap.size + 1, 0, none⟩ = some (.bool b1) := by simp [go_sem]
  have e1 : ((w.alloc (.cells #[.bool b1, sl1] 25)).alloc (.cells #[.bool b1, sl1] 25)).cell? ⟨w.heap.size + 1, 1, none⟩ = some (sl1) := by simp [go_sem]
  have hck := checkAll1_any b1 _ _ (w.heap.size + 1) _ (h1'.keep a2) ll e0 e1
  rw [hv] at hck
  have k0 : ∀ w1, Below ((w.alloc (.cells #[.bool b1, sl1] 25)).alloc (.cells #[.bool b1, sl1] 25)).heap.size ((w.alloc (.cells #[.bool b1, sl1] 25)).alloc (.cells #[.bool b1, sl1] 25)) w1 → w1.cell? ⟨w.heap.size, 0, none⟩ = some (.bool b1) ∧ w1.cell? ⟨w.heap.size, 1, none⟩ = some (sl1) ∧ w.heap.size < w1.heap.size := fun w1 hb => ⟨lkeep hb (by simp [go_sem]), lkeep hb (by simp [go_sem]), by have := hb.size; simp at this; omega⟩
  clear e0 e1
  subst hsl1
  go_enter Tryd.func21, Tryd.ntmps21
  go_wp2_with fail
  go_at_call 38
  refine hck.mono ?_
  rintro e w1 ⟨rfl, hb1⟩
  obtain ⟨c00, c01, y0⟩ := k0 w1 hb1
  have B1 := a2.trans (hb1.mono a2.size)
  clear hck k0 hb1 a1 a2
  go_wp2
  go_ret2
  exact ⟨rfl, by (repeat (first | with_reducible exact Below.refl _ _ | with_reducible assumption | refine Below.alloc ?_ (by (try simp); try omega) _ | refine Below.setCell ?_ (by (try simp); try omega) _ | refine below_drewN ?_ _ | refine Below.drew ?_ | (with_reducible refine Below.trans ?_ (Below.mono (by assumption) (by (try simp); try omega)))))⟩
theorem cmpI_neg (x y : Int) : cmpI (-x) (-y) = cmpI y x := by
  unfold cmpI
  by_cases h1 : y < x
  · rw [if_pos h1, if_pos (by omega)]
  · by_cases h2 : x = y
    · subst h2; simp
    · rw [if_neg h1, if_neg (by omega), if_neg (by omega), if_neg (by omega)]
set_option maxRecDepth 100000 in
set_option maxHeartbeats 1000000 in
theorem cmp_true_true (s1 s2 : Value) (l m : List Int) (w : World) (h1 : Ls w s1 l) (h2 : Ls w s2 m) (ll : l.length ≤ 1000000) (lm : m.length ≤ 1000000) (x y : Int) (x0 : 0 ≤ x) (y0 : 0 ≤ y) (hx : l = dg x) (hy : m = dg y) (l6 : l.length ≤ 600) (m6 : m.length ≤ 600) (hv : ckT (ckL true l) (ckL true m) = 0) (n1 : 0 < x) (n2 : 0 < y) :
    Calls Tryd.prog 22 #[.agg #[.bool true, s1], .agg #[.bool true, s2]] w fun e w' => e = .returned (.tuple #[.int .i64 (cmpI (sg true x) (sg true y)), .int .i64 0]) ∧ Below w.heap.size w w' := by
  have hcp := fun w (k1 : Ls w s2 m) (k2 : Ls w s1 l) => compare_num s2 s1 y x w y0 x0 (hy ▸ k1) (hx ▸ k2) (by rw [← hy]; omega) (by rw [← hx]; omega)
  rw [show cmpI (sg true x) (sg true y) = cmpI y x from cmpI_neg x y]
  clear hx hy n1 n2
  have a1 := Below.alloc (Below.refl w.heap.size w) (Nat.le_refl _) (.cells #[.bool true, s1] 25)
  have a2 := Below.alloc a1 a1.size (.cells #[.bool true, s2] 25)
  have a3 := Below.alloc a2 a2.size (.cells #[.bool true, s1, .bool true, s2] 25)
  have h1' := h1
  have h2' := h2
  obtain ⟨pa, ca, rfl, hca', hqa⟩ := h1
  obtain ⟨pb, cb, rfl, hcb', hqb⟩ := h2
  clear hca' hqa hcb' hqb
  generalize hsl1 : (Value.slice pa l.length ca) = sl1 at *
  generalize hsl2 : (Value.slice pb m.length cb) = sl2 at *
  have e0 : (((w.alloc (.cells #[.bool true, sl1] 25)).alloc (.cells #[.bool true, sl2] 25)).alloc (.cells #[.bool true, sl1, .bool true, sl2] 25)).cell? ⟨w.heap.size + 1 + 1, 0, none⟩ = some (.bool true) := by simp [go_sem]
  have e1 : (((w.alloc (.cells #[.bool true, sl1] 25)).alloc (.cells #[.bool true, sl2] 25)).alloc (.cells #[.bool true, sl1, .bool true, sl2] 25)).cell? ⟨w.heap.size + 1 + 1, 1, none⟩ = some (sl1) := by simp [go_sem]
  have e2 : (((w.alloc (.cells #[.bool true, sl1] 25)).alloc (.cells #[.bool true, sl2] 25)).alloc (.cells #[.bool true, sl1, .bool true, sl2] 25)).cell? ⟨w.heap.size + 1 + 1, 2, none⟩ = some (.bool true) := by simp [go_sem]
  have e3 : (((w.alloc (.cells #[.bool true, sl1] 25)).alloc (.cells #[.bool true, sl2] 25)).alloc (.cells #[.bool true, sl1, .bool true, sl2] 25)).cell? ⟨w.heap.size + 1 + 1, 3, none⟩ = some (sl2) := by simp [go_sem]
  have hck := checkAll2_any true true _ _ _ _ (w.heap.size + 1 + 1) _ (h1'.keep a3) (h2'.keep a3) ll lm e0 e1 e2 e3
  rw [hv] at hck
  have k0 : ∀ w1, Below (((w.alloc (.cells #[.bool true, sl1] 25)).alloc (.cells #[.bool true, sl2] 25)).alloc (.cells #[.bool true, sl1, .bool true, sl2] 25)).heap.size (((w.alloc (.cells #[.bool true, sl1] 25)).alloc (.cells #[.bool true, sl2] 25)).alloc (.cells #[.bool true, sl1, .bool true, sl2] 25)) w1 → w1.cell? ⟨w.heap.size, 0, none⟩ = some (.bool true) ∧ w1.cell? ⟨w.heap.size, 1, none⟩ = some (sl1) ∧ w.heap.size < w1.heap.size ∧ w1.cell? ⟨w.heap.size + 1, 0, none⟩ = some (.bool true) ∧ w1.cell? ⟨w.heap.size + 1, 1, none⟩ = some (sl2) ∧ w.heap.size + 1 < w1.heap.size := fun w1 hb => ⟨lkeep hb (by simp [go_sem]), lkeep hb (by simp [go_sem]), by have := hb.size; simp at this; omega, lkeep hb (by simp [go_sem]), lkeep hb (by simp [go_sem]), by have := hb.size; simp at this; omega⟩
  clear e0 e1 e2 e3
  subst hsl1 hsl2
  go_enter Tryd.func22, Tryd.ntmps22
  go_wp2_with fail
  go_at_call 38
  refine hck.mono ?_
  rintro e w1 ⟨rfl, hb1⟩
  obtain ⟨c00, c01, y0, c10, c11, y1⟩ := k0 w1 hb1
  have B1 := a3.trans (hb1.mono a3.size)
  have h3 := h1'.keep B1
  have h4 := h2'.keep B1
  clear h1' h2' hck k0 hb1 a1 a2 a3
  generalize l.length = n at *
  generalize m.length = k at *
  go_wp2_with (go_at_call 50; refine (hcp _ h4 h3).mono ?_; rintro e w2 ⟨rfl, hb2⟩; have B2 := B1.trans (hb2.mono B1.size); clear B1 hb2)
  go_ret2
  exact ⟨rfl, by (repeat (first | with_reducible exact Below.refl _ _ | with_reducible assumption | refine Below.alloc ?_ (by (try simp); try omega) _ | refine Below.setCell ?_ (by (try simp); try omega) _ | refine below_drewN ?_ _ | refine Below.drew ?_ | (with_reducible refine Below.trans ?_ (Below.mono (by assumption) (by (try simp); try omega)))))⟩
set_option maxRecDepth 100000 in
set_option maxHeartbeats 1000000 in
theorem cmp_true_false (s1 s2 : Value) (l m : List Int) (w : World) (h1 : Ls w s1 l) (h2 : Ls w s2 m) (ll : l.length ≤ 1000000) (lm : m.length ≤ 1000000) (x y : Int) (x0 : 0 ≤ x) (y0 : 0 ≤ y) (hx : l = dg x) (hy : m = dg y) (l6 : l.length ≤ 600) (m6 : m.length ≤ 600) (hv : ckT (ckL true l) (ckL false m) = 0) (n1 : 0 < x) :
    Calls Tryd.prog 22 #[.agg #[.bool true, s1], .agg #[.bool false, s2]] w fun e w' => e = .returned (.tuple #[.int .i64 (cmpI (sg true x) (sg false y)), .int .i64 0]) ∧ Below w.heap.size w w' := by
  have hres : cmpI (sg true x) (sg false y) = -1 := by show cmpI (-x) (y) = _; exact cmpI_lt (by omega)
  rw [hres]
  clear hres hx hy
  have a1 := Below.alloc (Below.refl w.heap.size w) (Nat.le_refl _) (.cells #[.bool true, s1] 25)
  have a2 := Below.alloc a1 a1.size (.cells #[.bool false, s2] 25)
  have a3 := Below.alloc a2 a2.size (.cells #[.bool true, s1, .bool false, s2] 25)
  have h1' := h1
  have h2' := h2
  obtain ⟨pa, ca, rfl, hca', hqa⟩ := h1
  obtain ⟨pb, cb, rfl, hcb', hqb⟩ := h2
  clear hca' hqa hcb' hqb
  generalize hsl1 : (Value.slice pa l.length ca) = sl1 at *
  generalize hsl2 : (Value.slice pb m.length cb) = sl2 at *
  have e0 : (((w.alloc (.cells #[.bool true, sl1] 25)).alloc (.cells #[.bool false, sl2] 25)).alloc (.cells #[.bool true, sl1, .bool false, sl2] 25)).cell? ⟨w.heap.size + 1 + 1, 0, none⟩ = some (.bool true) := by simp [go_sem]
  have e1 : (((w.alloc (.cells #[.bool true, sl1] 25)).alloc (.cells #[.bool false, sl2] 25)).alloc (.cells #[.bool true, sl1, .bool false, sl2] 25)).cell? ⟨w.heap.size + 1 + 1, 1, none⟩ = some (sl1) := by simp [go_sem]
  have e2 : (((w.alloc (.cells #[.bool true, sl1] 25)).alloc (.cells #[.bool false, sl2] 25)).alloc (.cells #[.bool true, sl1, .bool false, sl2] 25)).cell? ⟨w.heap.size + 1 + 1, 2, none⟩ = some (.bool false) := by simp [go_sem]
  have e3 : (((w.alloc (.cells #[.bool true, sl1] 25)).alloc (.cells #[.bool false, sl2] 25)).alloc (.cells #[.bool true, sl1, .bool false, sl2] 25)).cell? ⟨w.heap.size + 1 + 1, 3, none⟩ = some (sl2) := by simp [go_sem]
  have hck := checkAll2_any true false _ _ _ _ (w.heap.size + 1 + 1) _ (h1'.keep a3) (h2'.keep a3) ll lm e0 e1 e2 e3
  rw [hv] at hck
  have k0 : ∀ w1, Below (((w.alloc (.cells #[.bool true, sl1] 25)).alloc (.cells #[.bool false, sl2] 25)).alloc (.cells #[.bool true, sl1, .bool false, sl2] 25)).heap.size (((w.alloc (.cells #[.bool true, sl1] 25)).alloc (.cells #[.bool false, sl2] 25)).alloc (.cells #[.bool true, sl1, .bool false, sl2] 25)) w1 → w1.cell? ⟨w.heap.size, 0, none⟩ = some (.bool true) ∧ w1.cell? ⟨w.heap.size, 1, none⟩ = some (sl1) ∧ w.heap.size < w1.heap.size ∧ w1.cell? ⟨w.heap.size + 1, 0, none⟩ = some (.bool false) ∧ w1.cell? ⟨w.heap.size + 1, 1, none⟩ = some (sl2) ∧ w.heap.size + 1 < w1.heap.size := fun w1 hb => ⟨lkeep hb (by simp [go_sem]), lkeep hb (by simp [go_sem]), by have := hb.size; simp at this; omega, lkeep hb (by simp [go_sem]), lkeep hb (by simp [go_sem]), by have := hb.size; simp at this; omega⟩
  clear e0 e1 e2 e3
  subst hsl1 hsl2
  go_enter Tryd.func22, Tryd.ntmps22
  go_wp2_with fail
  go_at_call 38
  refine hck.mono ?_
  rintro e w1 ⟨rfl, hb1⟩
  obtain ⟨c00, c01, y0, c10, c11, y1⟩ := k0 w1 hb1
  have B1 := a3.trans (hb1.mono a3.size)
  clear hck k0 hb1 a1 a2 a3
  go_wp2
  go_ret2
  exact ⟨rfl, by (repeat (first | with_reducible exact Below.refl _ _ | with_reducible assumption | refine Below.alloc ?_ (by (try simp); try omega) _ | refine Below.setCell ?_ (by (try simp); try omega) _ | refine below_drewN ?_ _ | refine Below.drew ?_ | (with_reducible refine Below.trans ?_ (Below.mono (by assumption) (by (try simp); try omega)))))⟩
set_option maxRecDepth 100000 in
set_option maxHeartbeats 1000000 in
theorem cmp_false_true (s1 s2 : Value) (l m : List Int) (w : World) (h1 : Ls w s1 l) (h2 : Ls w s2 m) (ll : l.length ≤ 1000000) (lm : m.length ≤ 1000000) (x y : Int) (x0 : 0 ≤ x) (y0 : 0 ≤ y) (hx : l = dg x) (hy : m = dg y) (l6 : l.length ≤ 600) (m6 : m.length ≤ 600) (hv : ckT (ckL false l) (ckL true m) = 0) (n2 : 0 < y) :
    Calls Tryd.prog 22 #[.agg #[.bool false, s1], .agg #[.bool true, s2]] w fun e w' => e = .returned (.tuple #[.int .i64 (cmpI (sg false x) (sg true y)), .int .i64 0]) ∧ Below w.heap.size w w' := by
  have hres : cmpI (sg false x) (sg true y) = 1 := by show cmpI (x) (-y) = _; exact cmpI_gt (by omega)
  rw [hres]
  clear hres hx hy
  have a1 := Below.alloc (Below.refl w.heap.size w) (Nat.le_refl _) (.cells #[.bool false, s1] 25)
  have a2 := Below.alloc a1 a1.size (.cells #[.bool true, s2] 25)
  have a3 := Below.alloc a2 a2.size (.cells #[.bool false, s1, .bool true, s2] 25)
  have h1' := h1
  have h2' := h2
  obtain ⟨pa, ca, rfl, hca', hqa⟩ := h1
  obtain ⟨pb, cb, rfl, hcb', hqb⟩ := h2
  clear hca' hqa hcb' hqb
  generalize hsl1 : (Value.slice pa l.length ca) = sl1 at *
  generalize hsl2 : (Value.slice pb m.length cb) = sl2 at *
  have e0 : (((w.alloc (.cells #[.bool false, sl1] 25)).alloc (.cells #[.bool true, sl2] 25)).alloc (.cells #[.bool false, sl1, .bool true, sl2] 25)).cell? ⟨w.heap.size + 1 + 1, 0, none⟩ = some (.bool false) := by simp [go_sem]
  have e1 : (((w.alloc (.cells #[.bool false, sl1] 25)).alloc (.cells #[.bool true, sl2] 25)).alloc (.cells #[.bool false, sl1, .bool true, sl2] 25)).cell? ⟨w.heap.size + 1 + 1, 1, none⟩ = some (sl1) := by simp [go_sem]
  have e2 : (((w.alloc (.cells #[.bool false, sl1] 25)).alloc (.cells #[.bool true, sl2] 25)).alloc (.cells #[.bool false, sl1, .bool true, sl2] 25)).cell? ⟨w.heap.size + 1 + 1, 2, none⟩ = some (.bool true) := by simp [go_sem]
  have e3 : (((w.alloc (.cells #[.bool false, sl1] 25)).alloc (.cells #[.bool true, sl2] 25)).alloc (.cells #[.bool false, sl1, .bool true, sl2] 25)).cell? ⟨w.heap.size + 1 + 1, 3, none⟩ = some (sl2) := by simp [go_sem]
  have hck := checkAll2_any false true _ _ _ _ (w.heap.size + 1 + 1) _ (h1'.keep a3) (h2'.keep a3) ll lm e0 e1 e2 e3
  rw [hv] at hck
  have k0 : ∀ w1, Below (((w.alloc (.cells #[.bool false, sl1] 25)).alloc (.cells #[.bool true, sl2] 25)).alloc (.cells #[.bool false, sl1, .bool true, sl2] 25)).heap.size (((w.alloc (.cells #[.bool false, sl1] 25)).alloc (.cells #[.bool true, sl2] 25)).alloc (.cells #[.bool false, sl1, .bool true, sl2] 25)) w1 → w1.cell? ⟨w.heap.size, 0, none⟩ = some (.bool false) ∧ w1.cell? ⟨w.heap.size, 1, none⟩ = some (sl1) ∧ w.heap.size < w1.heap.size ∧ w1.cell? ⟨w.heap.size + 1, 0, none⟩ = some (.bool true) ∧ w1.cell? ⟨w.heap.size + 1, 1, none⟩ = some (sl2) ∧ w.heap.size + 1 < w1.heap.size := fun w1 hb => ⟨lkeep hb (by simp [go_sem]), lkeep hb (by simp [go_sem]), by have := hb.size; simp at this; omega, lkeep hb (by simp [go_sem]), lkeep hb (by simp [go_sem]), by have := hb.size; simp at this; omega⟩
  clear e0 e1 e2 e3
  subst hsl1 hsl2
  go_enter Tryd.func22, Tryd.ntmps22
  go_wp2_with fail
  go_at_call 38
  refine hck.mono ?_
  rintro e w1 ⟨rfl, hb1⟩
  obtain ⟨c00, c01, y0, c10, c11, y1⟩ := k0 w1 hb1
  have B1 := a3.trans (hb1.mono a3.size)
  clear hck k0 hb1 a1 a2 a3
  go_wp2
  go_ret2
  exact ⟨rfl, by (repeat (first | with_reducible exact Below.refl _ _ | with_reducible assumption | refine Below.alloc ?_ (by (try simp); try omega) _ | refine Below.setCell ?_ (by (try simp); try omega) _ | refine below_drewN ?_ _ | refine Below.drew ?_ | (with_reducible refine Below.trans ?_ (Below.mono (by assumption) (by (try simp); try omega)))))⟩
set_option maxRecDepth 100000 in
set_option maxHeartbeats 1000000 in
theorem cmp_false_false (s1 s2 : Value) (l m : List Int) (w : World) (h1 : Ls w s1 l) (h2 : Ls w s2 m) (ll : l.length ≤ 1000000) (lm : m.length ≤ 1000000) (x y : Int) (x0 : 0 ≤ x) (y0 : 0 ≤ y) (hx : l = dg x) (hy : m = dg y) (l6 : l.length ≤ 600) (m6 : m.length ≤ 600) (hv : ckT (ckL false l) (ckL false m) = 0) :
    Calls Tryd.prog 22 #[.agg #[.bool false, s1], .agg #[.bool false, s2]] w fun e w' => e = .returned (.tuple #[.int .i64 (cmpI (sg false x) (sg false y)), .int .i64 0]) ∧ Below w.heap.size w w' := by
  have hcp := fun w (k1 : Ls w s1 l) (k2 : Ls w s2 m) => compare_num s1 s2 x y w x0 y0 (hx ▸ k1) (hy ▸ k2) (by rw [← hx]; omega) (by rw [← hy]; omega)
  rw [show cmpI (sg false x) (sg false y) = cmpI x y from rfl]
  clear hx hy
  have a1 := Below.alloc (Below.refl w.heap.size w) (Nat.le_refl _) (.cells #[.bool false, s1] 25)
  have a2 := Below.alloc a1 a1.size (.cells #[.bool false, s2] 25)
  have a3 := Below.alloc a2 a2.size (.cells #[.bool false, s1, .bool false, s2] 25)
  have h1' := h1
  have h2' := h2
  obtain ⟨pa, ca, rfl, hca', hqa⟩ := h1
  obtain ⟨pb, cb, rfl, hcb', hqb⟩ := h2
  clear hca' hqa hcb' hqb
  generalize hsl1 : (Value.slice pa l.length ca) = sl1 at *
  generalize hsl2 : (Value.slice pb m.length cb) = sl2 at *
  have e0 : (((w.alloc (.cells #[.bool false, sl1] 25)).alloc (.cells #[.bool false, sl2] 25)).alloc (.cells #[.bool false, sl1, .bool false, sl2] 25)).cell? ⟨w.heap.size + 1 + 1, 0, none⟩ = some (.bool false) := by simp [go_sem]
  have e1 : (((w.alloc (.cells #[.bool false, sl1] 25)).alloc (.cells #[.bool false, sl2] 25)).alloc (.cells #[.bool false, sl1, .bool false, sl2] 25)).cell? ⟨w.heap.size + 1 + 1, 1, none⟩ = some (sl1) := by simp [go_sem]
  have e2 : (((w.alloc (.cells #[.bool false, sl1] 25)).alloc (.cells #[.bool false, sl2] 25)).alloc (.cells #[.bool false, sl1, .bool false, sl2] 25)).cell? ⟨w.heap.size + 1 + 1, 2, none⟩ = some (.bool false) := by simp [go_sem]
  have e3 : (((w.alloc (.cells #[.bool false, sl1] 25)).alloc (.cells #[.bool false, sl2] 25)).alloc (.cells #[.bool false, sl1, .bool false, sl2] 25)).cell? ⟨w.heap.size + 1 + 1, 3, none⟩ = some (sl2) := by simp [go_sem]
  have hck := checkAll2_any false false _ _ _ _ (w.heap.size + 1 + 1) _ (h1'.keep a3) (h2'.keep a3) ll lm e0 e1 e2 e3
  rw [hv] at hck
  have k0 : ∀ w1, Below (((w.alloc (.cells #[.bool false, sl1] 25)).alloc (.cells #[.bool false, sl2] 25)).alloc (.cells #[.bool false, sl1, .bool false, sl2] 25)).heap.size (((w.alloc (.cells #[.bool false, sl1] 25)).alloc (.cells #[.bool false, sl2] 25)).alloc (.cells #[.bool false, sl1, .bool false, sl2] 25)) w1 → w1.cell? ⟨w.heap.size, 0, none⟩ = some (.bool false) ∧ w1.cell? ⟨w.heap.size, 1, none⟩ = some (sl1) ∧ w.heap.size < w1.heap.size ∧ w1.cell? ⟨w.heap.size + 1, 0, none⟩ = some (.bool false) ∧ w1.cell? ⟨w.heap.size + 1, 1, none⟩ = some (sl2) ∧ w.heap.size + 1 < w1.heap.size := fun w1 hb => ⟨lkeep hb (by simp [go_sem]), lkeep hb (by simp [go_sem]), by have := hb.size; simp at this; omega, lkeep hb (by simp [go_sem]), lkeep hb (by simp [go_sem]), by have := hb.size; simp at this; omega⟩
  clear e0 e1 e2 e3
  subst hsl1 hsl2
  go_enter Tryd.func22, Tryd.ntmps22
  go_wp2_with fail
  go_at_call 38
  refine hck.mono ?_
  rintro e w1 ⟨rfl, hb1⟩
  obtain ⟨c00, c01, y0, c10, c11, y1⟩ := k0 w1 hb1
  have B1 := a3.trans (hb1.mono a3.size)
  have h3 := h1'.keep B1
  have h4 := h2'.keep B1
  clear h1' h2' hck k0 hb1 a1 a2 a3
  generalize l.length = n at *
  generalize m.length = k at *
  go_wp2_with (go_at_call 50; refine (hcp _ h3 h4).mono ?_; rintro e w2 ⟨rfl, hb2⟩; have B2 := B1.trans (hb2.mono B1.size); clear B1 hb2)
  go_ret2
  exact ⟨rfl, by (repeat (first | with_reducible exact Below.refl _ _ | with_reducible assumption | refine Below.alloc ?_ (by (try simp); try omega) _ | refine Below.setCell ?_ (by (try simp); try omega) _ | refine below_drewN ?_ _ | refine Below.drew ?_ | (with_reducible refine Below.trans ?_ (Below.mono (by assumption) (by (try simp); try omega)))))⟩

/-- A valid long integer's sign and size. -/
theorem lg_sign {z : Int} (h : (dg (z.natAbs : Int)).length ≤ 600) : (0 : Int) ≤ (z.natAbs : Int) ∧ (decide (z < 0) = true → 0 < (z.natAbs : Int)) ∧ sg (decide (z < 0)) (z.natAbs : Int) = z := ⟨by omega, fun h => by have := of_decide_eq_true h; omega, sg_num z⟩
/-- The call returned the number z, and no error. -/
def OkL (z : Int) (e : Ending) (w' : World) : Prop := ∃ p a n c, e = .returned (.tuple #[.agg #[.bool p, .slice a n c], .int .i64 0]) ∧ Lg w' (.agg #[.bool p, .slice a n c]) z
theorem RL.ok {z : Int} {e : Ending} {w : World} (h : RL z e w) (hl : (dg (z.natAbs : Int)).length ≤ 600) : OkL z e w := by
  rcases h with ⟨_, V, he, s, hV, hs⟩ | ⟨h, _⟩
  · subst hV
    have hs' := hs
    obtain ⟨a, c, rfl, _⟩ := hs
    exact ⟨_, _, _, _, he, _, rfl, hs'⟩
  · omega
theorem cmp_num (A B : Value) (x y : Int) (w : World) (hA : Lg w A x) (hB : Lg w B y) (l1 : (dg (x.natAbs : Int)).length ≤ 600) (l2 : (dg (y.natAbs : Int)).length ≤ 600) :
    Calls Tryd.prog 22 #[A, B] w fun e w' => e = .returned (.tuple #[.int .i64 (cmpI x y), .int .i64 0]) ∧ Below w.heap.size w w' := by
  obtain ⟨s1, rfl, h1⟩ := hA
  obtain ⟨s2, rfl, h2⟩ := hB
  obtain ⟨x0, xn, xs⟩ := lg_sign l1
  obtain ⟨y0, yn, ys⟩ := lg_sign l2
  have hv : ckT (ckL (decide (x < 0)) (dg (x.natAbs : Int))) (ckL (decide (y < 0)) (dg (y.natAbs : Int))) = 0 := by rw [ckL_num l1, ckL_num l2]; rfl
  have : cmpI x y = cmpI (sg (decide (x < 0)) (x.natAbs : Int)) (sg (decide (y < 0)) (y.natAbs : Int)) := by rw [xs, ys]
  rw [this]
  generalize hx : (x.natAbs : Int) = a at *
  generalize hy : (y.natAbs : Int) = b at *
  cases hbx : decide (x < 0) <;> cases hby : decide (y < 0) <;> rw [hbx] at hv xn <;> rw [hby] at hv yn
  · exact cmp_false_false s1 s2 _ _ w h1 h2 (by omega) (by omega) a b x0 y0 rfl rfl l1 l2 hv
  · exact cmp_false_true s1 s2 _ _ w h1 h2 (by omega) (by omega) a b x0 y0 rfl rfl l1 l2 hv (yn rfl)
  · exact cmp_true_false s1 s2 _ _ w h1 h2 (by omega) (by omega) a b x0 y0 rfl rfl l1 l2 hv (xn rfl)
  · exact cmp_true_true s1 s2 _ _ w h1 h2 (by omega) (by omega) a b x0 y0 rfl rfl l1 l2 hv (xn rfl) (yn rfl)

set_option maxRecDepth 100000 in
set_option maxHeartbeats 1000000 in
theorem neg_raw (b1 : Bool) (s1 : Value) (l : List Int) (w : World) (h1 : Ls w s1 l) (ll : l.length ≤ 1000000) (x z : Int) (x0 : 0 ≤ x) (hx : l = dg x) (l6 : l.length ≤ 600) (hv : ckL b1 l = 0) (hz : z = if (!b1) then -x else x) (hzl : (dg (z.natAbs : Int)).length ≤ 600) :
    Calls Tryd.prog 15 #[.agg #[.bool b1, s1]] w fun e w' => OkL z e w' ∧ Below w.heap.size w w' := by
  have hcl := fun w (h : Ls w s1 l) => cloneI s1 l w h (by omega)
  have hsg := fun d w (h : Ls w d l) => (signed_num (!b1) d x z w x0 (hx ▸ h) (by rw [← hx]; omega) hz).mono fun _ _ k => (⟨k.1.ok hzl, k.2⟩ : OkL z _ _ ∧ _)
  clear hx hz hzl
  have a1 := Below.alloc (Below.refl w.heap.size w) (Nat.le_refl _) (.cells #[.bool b1, s1] 25)
  have a2 := Below.alloc a1 a1.size (.cells #[.bool false, .slice none 0 0] 25)
  have a3 := Below.alloc a2 a2.size (.cells #[.bool b1, s1] 25)
  have h1' := h1
  obtain ⟨pa, ca, rfl, hca', hqa⟩ := h1
  clear hca' hqa
  generalize hsl1 : (Value.slice pa l.length ca) = sl1 at *
  have e0 : (((w.alloc (.cells #[.bool b1, sl1] 25)).alloc (.cells #[.bool false, .slice none 0 0] 25)).alloc (.cells #[.bool b1, sl1] 25)).cell? ⟨w.heap.size + 1 + 1, 0, none⟩ = some (.bool b1) := by simp [go_sem]
  have e1 : (((w.alloc (.cells #[.bool b1, sl1] 25)).alloc (.cells #[.bool false, .slice none 0 0] 25)).alloc (.cells #[.bool b1, sl1] 25)).cell? ⟨w.heap.size + 1 + 1, 1, none⟩ = some (sl1) := by simp [go_sem]
  have hck := checkAll1_any b1 _ _ (w.heap.size + 1 + 1) _ (h1'.keep a3) ll e0 e1
  rw [hv] at hck
  have k0 : ∀ w1, Below (((w.alloc (.cells #[.bool b1, sl1] 25)).alloc (.cells #[.bool false, .slice none 0 0] 25)).alloc (.cells #[.bool b1, sl1] 25)).heap.size (((w.alloc (.cells #[.bool b1, sl1] 25)).alloc (.cells #[.bool false, .slice none 0 0] 25)).alloc (.cells #[.bool b1, sl1] 25)) w1 → w1.cell? ⟨w.heap.size, 0, none⟩ = some (.bool b1) ∧ w1.cell? ⟨w.heap.size, 1, none⟩ = some (sl1) ∧ w.heap.size < w1.heap.size ∧ w1.cell? ⟨w.heap.size + 1, 0, none⟩ = some (.bool false) ∧ w1.frozen? ⟨w.heap.size + 1, 0, none⟩ = false ∧ w1.cell? ⟨w.heap.size + 1, 1, none⟩ = some (.slice none 0 0) ∧ w1.frozen? ⟨w.heap.size + 1, 1, none⟩ = false ∧ w.heap.size + 1 < w1.heap.size := fun w1 hb => ⟨lkeep hb (by simp [go_sem]), lkeep hb (by simp [go_sem]), by have := hb.size; simp at this; omega, lkeep hb (by simp [go_sem]), (hb.frozen (by simp [go_sem] <;> omega)).trans (by simp [go_sem]), lkeep hb (by simp [go_sem]), (hb.frozen (by simp [go_sem] <;> omega)).trans (by simp [go_sem]), by have := hb.size; simp at this; omega⟩
  clear e0 e1
  have bR0 : Bx (((w.alloc (.cells #[.bool b1, sl1] 25)).alloc (.cells #[.bool false, .slice none 0 0] 25)).alloc (.cells #[.bool b1, sl1] 25)) (w.heap.size + 1) (.bool false) (.slice none 0 0) 25 := by
    have := (Bx.new (w.alloc (.cells #[.bool b1, sl1] 25)) (.bool false) (.slice none 0 0) 25).alloc (.cells #[.bool b1, sl1] 25)
    rwa [show (w.alloc (.cells #[.bool b1, sl1] 25)).heap.size = w.heap.size + 1 by simp] at this
  subst hsl1
  go_enter Tryd.func15, Tryd.ntmps15
  go_wp2_with fail
  go_at_call 38
  refine hck.mono ?_
  rintro e w1 ⟨rfl, hb1⟩
  obtain ⟨c00, c01, y0, c10, z10, c11, z11, y1⟩ := k0 w1 hb1
  have B1 := a3.trans (hb1.mono a3.size)
  have h3 := h1'.keep B1
  have bR1 := bR0.keep hb1
  clear h1' bR0 hck k0 hb1 a1 a2 a3
  go_wp2_with fail
  have h3d : Ls w1.drew (.slice pa l.length ca) l := h3
  go_region_held3 (fun w' => w'.cell? ⟨w.heap.size, 0, none⟩ = some (.bool b1) ∧ w'.cell? ⟨w.heap.size, 1, none⟩ = some (.slice pa l.length ca))
    ((first | exact ⟨c00, c01⟩ | exact ⟨lkeep hb2 c00, lkeep hb2 c01⟩ | exact ⟨d00, d01⟩ | (refine ⟨?_, ?_⟩ <;> simp [go_sem, d00, d01])))
    (first | (go_at_call 8; refine (hcl _ h3d).mono ?_; rintro e w2 ⟨v, rfl, hv2, hb2⟩) | (go_at_call 36; refine (hsg _ _ hv2).mono ?_; rintro e w3 ⟨⟨p, a, n, c, rfl, hL⟩, hb3⟩; have bR3 := (show Bx w1.drew _ _ _ _ from bR1).keep hb2 |>.keep hb3; have r0 := bR3.c0; have r1 := bR3.c1; have f0 := bR3.f 0; have f1 := bR3.f 1; have y3 := bR3.lt; have d00 := lkeep hb3 (lkeep hb2 (show w1.drew.cell? _ = _ from c00)); have d01 := lkeep hb3 (lkeep hb2 (show w1.drew.cell? _ = _ from c01))))
  have B2 := B1.drew.trans (hb2.mono B1.drew.size)
  have B3 := B2.trans (hb3.mono B2.size)
  have hLr : Lg ((w3.setCell ⟨w.heap.size + 1, 0, none⟩ (.bool p)).setCell ⟨w.heap.size + 1, 1, none⟩ (.slice a n c)) (.agg #[.bool p, .slice a n c]) z := by
    obtain ⟨s, hs, hl⟩ := hL
    exact ⟨s, hs, hl.boxed bR3 (nb _) (ns _ _ _) _⟩
  go_wp2
  refine bodyPost_ret (v := .tuple #[.agg #[.bool p, .slice a n c], .int .i64 0]) (by simp [results, Tryd.results15, go_sem, y3, r0, r1, f0, f1]) rfl ⟨⟨p, a, n, c, rfl, hLr⟩, by (repeat (first | with_reducible exact Below.refl _ _ | with_reducible assumption | refine Below.alloc ?_ (by (try simp); try omega) _ | refine Below.setCell ?_ (by (try simp); try omega) _ | refine below_drewN ?_ _ | refine Below.drew ?_ | (with_reducible refine Below.trans ?_ (Below.mono (by assumption) (by (try simp); try omega)))))⟩
theorem neg_num (A : Value) (x : Int) (w : World) (hA : Lg w A x) (l1 : (dg (x.natAbs : Int)).length ≤ 600) :
    Calls Tryd.prog 15 #[A] w fun e w' => OkL (-x) e w' ∧ Below w.heap.size w w' := by
  obtain ⟨s1, rfl, h1⟩ := hA
  refine neg_raw (decide (x < 0)) s1 _ w h1 (by omega) (x.natAbs : Int) (-x) (by omega) rfl l1 (ckL_num l1) ?_ (by rw [Int.natAbs_neg]; exact l1)
  by_cases h : x < 0 <;> simp [h] <;> omega

set_option maxHeartbeats 1000000 in
theorem parse_empty (w : World) :
    Calls Tryd.prog 10 #[.string ⟨⟨[]⟩⟩] w fun e w' => e = .returned (.tuple #[noL, .int .i64 5]) ∧ Below w.heap.size w w' := by
  have hpos := fun w => isPositive_any [] w (by simp)
  rw [show isPos [] = false from rfl] at hpos
  have hsz : (⟨⟨[]⟩⟩ : ByteArray).size = 0 := rfl
  have hq : ((⟨⟨[]⟩⟩ : ByteArray).toList == [48]) = false := by rw [bytes_list]; rfl
  generalize (⟨⟨[]⟩⟩ : ByteArray) = S at *
  go_enter Tryd.func10, Tryd.ntmps10
  go_wp2_with (go_at_call 34; refine (hpos _).mono ?_; rintro e w1 ⟨rfl, rfl⟩)
  refine bodyPost_ret (v := .tuple #[.agg #[.bool false, .slice none 0 0], .int .i64 5]) (by simp [results, Tryd.results10, go_sem]) rfl ⟨rfl, by (repeat (first | with_reducible exact Below.refl _ _ | with_reducible assumption | refine Below.alloc ?_ (by (try simp); try omega) _ | refine Below.setCell ?_ (by (try simp); try omega) _ | refine below_drewN ?_ _ | refine Below.drew ?_ | (with_reducible refine Below.trans ?_ (Below.mono (by assumption) (by (try simp); try omega)))))⟩
set_option maxHeartbeats 1000000 in
theorem parse_zero (w : World) :
    Calls Tryd.prog 10 #[.string ⟨⟨[48]⟩⟩] w fun e w' => e = .returned (.tuple #[noL, .int .i64 0]) ∧ Below w.heap.size w w' := by
  have hsz : (⟨⟨[48]⟩⟩ : ByteArray).size = 1 := rfl
  have hq : ((⟨⟨[48]⟩⟩ : ByteArray).toList == [48]) = true := by rw [bytes_list]; rfl
  have hb0 : ∀ h : 0 < (⟨⟨[48]⟩⟩ : ByteArray).size, ((⟨⟨[48]⟩⟩ : ByteArray)[0]'h).toNat = 48 := fun h => rfl
  generalize (⟨⟨[48]⟩⟩ : ByteArray) = S at *
  go_enter Tryd.func10, Tryd.ntmps10
  go_wp2
  refine bodyPost_ret (v := .tuple #[.agg #[.bool false, .slice none 0 0], .int .i64 0]) (by simp [results, Tryd.results10, go_sem]) rfl ⟨rfl, by (repeat (first | with_reducible exact Below.refl _ _ | with_reducible assumption | refine Below.alloc ?_ (by (try simp); try omega) _ | refine Below.setCell ?_ (by (try simp); try omega) _ | refine below_drewN ?_ _ | refine Below.drew ?_ | (with_reducible refine Below.trans ?_ (Below.mono (by assumption) (by (try simp); try omega)))))⟩

/-- How many digits to the base 10^9 a number has. -/
def Dl (z : Int) : Nat := (dg (z.natAbs : Int)).length
theorem Dl_le {z : Int} {k : Nat} (h : (z.natAbs : Int) < 1000000000 ^ k) : Dl z ≤ k := dg_len_le (by omega) h
theorem Dl_lt (z : Int) : (z.natAbs : Int) < 1000000000 ^ Dl z := dg_lt (by omega)
theorem Dl_mono {x y : Int} (h : x.natAbs ≤ y.natAbs) : Dl x ≤ Dl y := dg_len_mono (by omega) (by omega)
theorem Dl_neg (z : Int) : Dl (-z) = Dl z := by unfold Dl; rw [Int.natAbs_neg]
theorem Dl_zero : Dl 0 = 0 := by unfold Dl; rw [show (((0 : Int).natAbs : Nat) : Int) = 0 from rfl, dg_zero]; rfl
theorem Dl_pos {z : Int} (h : z ≠ 0) : 1 ≤ Dl z := dg_len_pos (by omega)
theorem Dl_add (x y : Int) : Dl (x + y) ≤ max (Dl x) (Dl y) + 1 := by
  refine Dl_le ?_
  have h1 := Dl_lt x
  have h2 := Dl_lt y
  have h3 := pow9_le (Nat.le_max_left (Dl x) (Dl y))
  have h4 := pow9_le (Nat.le_max_right (Dl x) (Dl y))
  rw [Int.pow_succ]
  have := pow9 (max (Dl x) (Dl y))
  omega
theorem Dl_sub (x y : Int) : Dl (x - y) ≤ max (Dl x) (Dl y) + 1 := by
  have := Dl_add x (-y)
  rw [Dl_neg] at this
  rwa [Int.sub_eq_add_neg]
theorem Dl_mul (x y : Int) : Dl (x * y) ≤ Dl x + Dl y := by
  have := len_mul (x := (x.natAbs : Int)) (y := (y.natAbs : Int)) (by omega) (by omega)
  unfold Dl
  rw [Int.natAbs_mul, Int.natCast_mul]
  exact this
theorem Dl_rt {x : Int} (h : 0 ≤ x) : Dl (rt x) ≤ Dl x := Dl_mono (by have := rt_le_self h; have := (rt_spec x h).1; omega)
theorem Dl_tdiv (x y : Int) : Dl (x.tdiv y) ≤ Dl x := Dl_mono (by rw [Int.natAbs_tdiv]; exact Nat.div_le_self _ _)
theorem Dl_tmod (x : Int) {y : Int} (h : y ≠ 0) : Dl (x.tmod y) ≤ Dl y := Dl_mono (by rw [Int.natAbs_tmod]; exact Nat.le_of_lt (Nat.mod_lt _ (by omega)))
theorem Dl_two {z : Int} (h0 : -1000000000000000000 < z) (h1 : z < 1000000000000000000) : Dl z ≤ 2 := Dl_le (by omega)
theorem Dl_three {z : Int} (h0 : -1000000000000000000000000000 < z) (h1 : z < 1000000000000000000000000000) : Dl z ≤ 3 := Dl_le (by omega)

/-- A value that is the long integer z, written out. -/
def LgV (z : Int) (e : Ending) (w' : World) : Prop := ∃ p a n c, e = .returned (.agg #[.bool p, .slice a n c]) ∧ Lg w' (.agg #[.bool p, .slice a n c]) z
theorem Lg.zero (w : World) : Lg w noL 0 := by
  refine ⟨.slice none 0 0, rfl, ?_⟩
  rw [show (((0 : Int).natAbs : Nat) : Int) = 0 from rfl, dg_zero]
  exact Ls.nil w
theorem add_ok (A B : Value) (x y : Int) (w : World) (hA : Lg w A x) (hB : Lg w B y) (l1 : Dl x ≤ 600) (l2 : Dl y ≤ 600) (l3 : Dl (x + y) ≤ 600) :
    Calls Tryd.prog 12 #[A, B] w fun e w' => OkL (x + y) e w' ∧ Below w.heap.size w w' := (add_num A B x y w hA hB l1 l2).mono fun _ _ h => ⟨h.1.ok l3, h.2⟩
theorem sub_ok (A B : Value) (x y : Int) (w : World) (hA : Lg w A x) (hB : Lg w B y) (l1 : Dl x ≤ 600) (l2 : Dl y ≤ 600) (l3 : Dl (x - y) ≤ 600) :
    Calls Tryd.prog 13 #[A, B] w fun e w' => OkL (x - y) e w' ∧ Below w.heap.size w w' := (sub_num A B x y w hA hB l1 l2).mono fun _ _ h => ⟨h.1.ok l3, h.2⟩
theorem mul_ok (A B : Value) (x y : Int) (w : World) (hA : Lg w A x) (hB : Lg w B y) (l1 : Dl x ≤ 600) (l2 : Dl y ≤ 600) (l3 : Dl (x * y) ≤ 600) :
    Calls Tryd.prog 14 #[A, B] w fun e w' => OkL (x * y) e w' ∧ Below w.heap.size w w' := (mul_num A B x y w hA hB l1 l2).mono fun _ _ h => ⟨h.1.ok l3, h.2⟩
theorem sqrt_ok (A : Value) (x : Int) (w : World) (hA : Lg w A x) (x0 : 0 ≤ x) (l1 : Dl x ≤ 600) :
    Calls Tryd.prog 16 #[A] w fun e w' => OkL (rt x) e w' ∧ Below w.heap.size w w' := (sqrt_num A x w hA x0 l1).mono fun _ _ h => ⟨h.1.ok (Nat.le_trans (Dl_rt x0) l1), h.2⟩
theorem gcdS_ok (A B : Value) (x y : Int) (w : World) (hA : Lg w A x) (hB : Lg w B y) (l1 : Dl x ≤ 600) (l2 : Dl y ≤ 600) (hsm : Dl x ≤ 2 ∨ Dl y ≤ 2) :
    Calls Tryd.prog 17 #[A, B] w fun e w' => OkL (gI (x.natAbs : Int) (y.natAbs : Int)) e w' ∧ Below w.heap.size w w' := by
  refine (gcdS_num A B x y w hA hB l1 l2 hsm).mono fun _ _ h => ⟨h.1.ok ?_, h.2⟩
  have h0 := gI_nonneg (x.natAbs : Int) (y.natAbs : Int)
  have := gI_len (x := (x.natAbs : Int)) (y := (y.natAbs : Int)) (by omega) (by omega)
  rw [show ((gI (x.natAbs : Int) (y.natAbs : Int)).natAbs : Int) = gI (x.natAbs : Int) (y.natAbs : Int) by omega]
  unfold Dl at l1 l2
  omega
/-- The call returned a quotient and a rest, and no error. -/
def OkL2 (q r : Int) (e : Ending) (w' : World) : Prop := ∃ p a n c p' a' n' c', e = .returned (.tuple #[.agg #[.bool p, .slice a n c], .agg #[.bool p', .slice a' n' c'], .int .i64 0]) ∧ Lg w' (.agg #[.bool p, .slice a n c]) q ∧ Lg w' (.agg #[.bool p', .slice a' n' c']) r
theorem div_ok (A B : Value) (x y : Int) (w : World) (hA : Lg w A x) (hB : Lg w B y) (l1 : Dl x ≤ 600) (l2 : Dl y ≤ 600) (y0 : y ≠ 0) :
    Calls Tryd.prog 19 #[A, B] w fun e w' => OkL2 (x.tdiv y) (x.tmod y) e w' ∧ Below w.heap.size w w' := by
  refine (div_num A B x y w hA hB l1 l2 y0).mono ?_
  rintro e w' ⟨Q, R, rfl, hQ, hR, hb⟩
  have hQ' := hQ
  have hR' := hR
  obtain ⟨s, rfl, a, c, rfl, _⟩ := hQ
  obtain ⟨s', rfl, a', c', rfl, _⟩ := hR
  exact ⟨⟨_, _, _, _, _, _, _, _, rfl, hQ', hR'⟩, hb⟩

/-- A text and its number. -/
def PText (l : List UInt8) (z : Int) : Prop := (l = [48] ∧ z = 0) ∨ (∃ T, l = 45 :: T ∧ isPos T = true ∧ T.length ≤ 5400 ∧ z = -(dn T)) ∨ (isPos l = true ∧ l.length ≤ 5400 ∧ z = dn l)
theorem pos_len {l : List UInt8} (h : isPos l = true) (hl : l.length ≤ 5400) : 0 < dn l ∧ dn l < 1000000000 ^ 600 ∧ ∃ c t, l = c :: t ∧ c.toNat ≠ 45 ∧ l ≠ [48] := by
  obtain ⟨c, t, rfl, hc, c0, ht, hall⟩ := isPos_true h
  have h1 := dn_pos ht hc c0
  have h2 := (dn_bounds hall).2
  have h3 := pow10_le hl
  have h4 : (10 : Int) ^ 5400 = 1000000000 ^ 600 := by rw [show 5400 = 9 * 600 from rfl, pow9_10]
  refine ⟨h1, by omega, c, t, rfl, by unfold isd at hc; omega, ?_⟩
  intro e
  injection e with e1 e2
  subst e1
  exact c0 rfl
theorem PText.len {l : List UInt8} {z : Int} (h : PText l z) : Dl z ≤ 600 := by
  rcases h with ⟨_, rfl⟩ | ⟨T, rfl, hp, hl, rfl⟩ | ⟨hp, hl, rfl⟩
  · rw [Dl_zero]; omega
  · have := pos_len hp hl; exact Dl_le (by omega)
  · have := pos_len hp hl; exact Dl_le (by omega)
theorem parse_num (l : List UInt8) (z : Int) (w : World) (h : PText l z) :
    Calls Tryd.prog 10 #[.string ⟨⟨l⟩⟩] w fun e w' => OkL z e w' ∧ Below w.heap.size w w' := by
  have hz := h.len
  rcases h with ⟨rfl, rfl⟩ | ⟨T, rfl, hp, hl, rfl⟩ | ⟨hp, hl, rfl⟩
  · refine (parse_zero w).mono ?_
    rintro e w' ⟨rfl, hb⟩
    exact ⟨⟨_, _, _, _, rfl, Lg.zero w'⟩, hb⟩
  · exact (parseN_ok T _ w hl hp rfl).mono fun _ _ k => ⟨k.1.ok hz, k.2⟩
  · obtain ⟨_, _, c, t, rfl, hc, h48⟩ := pos_len hp hl
    exact (parseP_ok c t _ w hc h48 hl hp rfl).mono fun _ _ k => ⟨k.1.ok hz, k.2⟩
theorem sx_of {l : List UInt8} {z : Int} (h : PText l z) : sx z = ⟨⟨l⟩⟩ := by
  unfold sx
  rw [itoa_sign]
  rcases h with ⟨rfl, rfl⟩ | ⟨T, rfl, hp, hl, rfl⟩ | ⟨hp, hl, rfl⟩
  · have e : tx (((0 : Int).natAbs : Nat) : Int) = [48] := by unfold tx; rw [Lib.decDigits_one (by simp)]; rfl
    rw [e, if_neg (by omega)]; rfl
  · obtain ⟨c, t, rfl, hc, c0, ht, hall⟩ := isPos_true hp
    have h1 := dn_pos ht hc c0
    rw [if_pos (by omega), show ((-(dn (c :: t))).natAbs : Int) = dn (c :: t) by omega, tx_dn ht hc c0]; rfl
  · obtain ⟨c, t, rfl, hc, c0, ht, hall⟩ := isPos_true hp
    have h1 := dn_pos ht hc c0
    rw [if_neg (by omega), show ((dn (c :: t)).natAbs : Int) = dn (c :: t) by omega, tx_dn ht hc c0]; rfl

theorem of_num (l : List UInt8) (z : Int) (w : World) (h : PText l z) :
    Calls Tryd.prog 6 #[.string ⟨⟨l⟩⟩] w fun e w' => LgV z e w' ∧ Below w.heap.size w w' := by
  have hp := fun w => parse_num l z w h
  clear h
  generalize (⟨⟨l⟩⟩ : ByteArray) = S at *
  have bR := Bx.new w (.bool false) (.slice none 0 0) 25
  have a1 := Below.alloc (Below.refl w.heap.size w) (Nat.le_refl _) (.cells #[.bool false, .slice none 0 0] 25)
  go_enter Tryd.func6, Tryd.ntmps6
  go_wp2_with fail
  go_at_call 10
  refine (hp _).mono ?_
  rintro e w1 ⟨⟨p, a, n, c, rfl, hL⟩, hb⟩
  have B1 := a1.trans (hb.mono a1.size)
  have bR1 := (bR.keep hb).alloc (.cells #[.bool p, .slice a n c] 25)
  have bR2 := bR.keep hb
  have r0 := bR2.c0
  have r1 := bR2.c1
  have f0 := bR2.f 0
  have f1 := bR2.f 1
  have y2 := bR2.lt
  have hLr : Lg (((w1.setCell ⟨w.heap.size, 0, none⟩ (.bool p)).setCell ⟨w.heap.size, 1, none⟩ (.slice a n c)).alloc (.cells #[.bool p, .slice a n c] 25)) (.agg #[.bool p, .slice a n c]) z := by
    obtain ⟨s, hs, hl⟩ := hL
    have hl2 : Lg ((w1.setCell ⟨w.heap.size, 0, none⟩ (.bool p)).setCell ⟨w.heap.size, 1, none⟩ (.slice a n c)) (.agg #[.bool p, .slice a n c]) z := ⟨s, hs, hl.boxed bR2 (nb _) (ns _ _ _) _⟩
    exact hl2.keep ((Below.refl _ _).alloc (Nat.le_refl _) _)
  clear bR1
  go_wp2
  refine bodyPost_ret (v := .agg #[.bool p, .slice a n c]) (by simp [results, Tryd.results6, go_sem, y2, r0, r1, f0, f1]) rfl ⟨⟨p, a, n, c, rfl, hLr⟩, by (repeat (first | with_reducible exact Below.refl _ _ | with_reducible assumption | refine Below.alloc ?_ (by (try simp); try omega) _ | refine Below.setCell ?_ (by (try simp); try omega) _ | refine below_drewN ?_ _ | refine Below.drew ?_ | (with_reducible refine Below.trans ?_ (Below.mono (by assumption) (by (try simp); try omega)))))⟩

theorem is_any (S : ByteArray) (w : World) :
    Calls Tryd.prog 11 #[.string S] w fun e w' => ∃ bx : Nat, e = .returned (.func (.func 37) #[] #[.pointer (some ⟨bx, 0, none⟩)]) ∧ w'.cell? ⟨bx, 0, none⟩ = some (.string S) ∧ Below w.heap.size w w' := by
  have hmf : ∀ (fn : Fn) (first cap : Array Value) (w : World), (Instr.makeFunc fn first cap).run Tryd.prog w = .ok (.func fn first cap) w := fun _ _ _ _ => rfl
  have h : Calls Tryd.prog 11 #[.string S] w fun e w' => e = .returned (.func (.func 37) #[] #[.pointer (some ⟨w.heap.size, 0, none⟩)]) ∧ w' = w.alloc (.cells #[.string S] 9) := by
    go_enter Tryd.func11, Tryd.ntmps11
    go_wp2
    go_ret
    exact ⟨rfl, rfl⟩
  refine h.mono ?_
  rintro e w' ⟨rfl, rfl⟩
  exact ⟨_, rfl, by simp, by (repeat (first | with_reducible exact Below.refl _ _ | with_reducible assumption | refine Below.alloc ?_ (by (try simp); try omega) _ | refine Below.setCell ?_ (by (try simp); try omega) _ | refine below_drewN ?_ _ | refine Below.drew ?_ | (with_reducible refine Below.trans ?_ (Below.mono (by assumption) (by (try simp); try omega)))))⟩
theorem fails_any (x : Int) (w : World) :
    Calls Tryd.prog 9 #[.int .i64 x] w fun e w' => ∃ bx : Nat, e = .returned (.func (.func 33) #[] #[.pointer (some ⟨bx, 0, none⟩)]) ∧ w'.cell? ⟨bx, 0, none⟩ = some (.int .i64 x) ∧ Below w.heap.size w w' := by
  have hmf : ∀ (fn : Fn) (first cap : Array Value) (w : World), (Instr.makeFunc fn first cap).run Tryd.prog w = .ok (.func fn first cap) w := fun _ _ _ _ => rfl
  have h : Calls Tryd.prog 9 #[.int .i64 x] w fun e w' => e = .returned (.func (.func 33) #[] #[.pointer (some ⟨w.heap.size, 0, none⟩)]) ∧ w' = w.alloc (.cells #[.int .i64 x] 28) := by
    go_enter Tryd.func9, Tryd.ntmps9
    go_wp2
    go_ret
    exact ⟨rfl, rfl⟩
  refine h.mono ?_
  rintro e w' ⟨rfl, rfl⟩
  exact ⟨_, rfl, by simp, by (repeat (first | with_reducible exact Below.refl _ _ | with_reducible assumption | refine Below.alloc ?_ (by (try simp); try omega) _ | refine Below.setCell ?_ (by (try simp); try omega) _ | refine below_drewN ?_ _ | refine Below.drew ?_ | (with_reducible refine Below.trans ?_ (Below.mono (by assumption) (by (try simp); try omega)))))⟩
set_option maxHeartbeats 1000000 in
theorem is1_true (A : Value) (z : Int) (bx : Nat) (S : ByteArray) (w : World) (hA : Lg w A z) (l1 : Dl z ≤ 600) (hP : Pw w) (h0 : w.cell? ⟨bx, 0, none⟩ = some (.string S)) (hS : sx z = S) :
    Calls Tryd.prog 37 #[A, .int .i64 0, .pointer (some ⟨bx, 0, none⟩)] w fun r w' => r = .returned (.bool true) ∧ Below w.heap.size w w' := by
  have hA' := hA
  obtain ⟨s, rfl, pa, ca, rfl, _⟩ := hA
  have a1 := Below.alloc (Below.refl w.heap.size w) (Nat.le_refl _) (.cells #[.bool (decide (z < 0)), .slice pa (dg (z.natAbs : Int)).length ca] 25)
  have ht := text_num _ z _ (hA'.keep a1) l1 (hP.keep a1)
  rw [hS] at ht
  have hlt := World.block_lt_of_cell? w _ h0
  simp only [] at hlt
  have hb0 := lkeep a1 h0
  generalize decide (z < 0) = p at *
  generalize (dg (z.natAbs : Int)).length = n at *
  clear hA' hS h0
  go_enter Tryd.func37, Tryd.ntmps37
  go_wp2_with fail
  go_at_call 21
  refine ht.mono ?_
  rintro e w1 ⟨rfl, hb1⟩
  have h1 := lkeep hb1 hb0
  have B1 := a1.trans (hb1.mono a1.size)
  clear ht hb0 hb1 a1
  go_wp2
  go_ret
  exact ⟨rfl, B1⟩
set_option maxHeartbeats 1000000 in
theorem fails1_true (x : Int) (bx : Nat) (w : World) (h0 : w.cell? ⟨bx, 0, none⟩ = some (.int .i64 x)) :
    Calls Tryd.prog 33 #[noL, .int .i64 x, .pointer (some ⟨bx, 0, none⟩)] w fun r w' => r = .returned (.bool true) ∧ Below w.heap.size w w' := by
  have hs := fun w => same_any false false (.slice none 0 0) (.slice none 0 0) [] [] w (Ls.nil w) (Ls.nil w) (by simp) (by simp)
  rw [show (false == false && decide (([] : List Int) = [])) = true from rfl] at hs
  have hlt := World.block_lt_of_cell? w _ h0
  simp only [] at hlt
  go_enter Tryd.func33, Tryd.ntmps33
  go_wp2_with fail
  go_at_call 23
  refine (hs _).mono ?_
  rintro e w1 ⟨rfl, hb⟩
  have B1 := ((Below.refl w.heap.size w).alloc (Nat.le_refl _) (.cells #[.bool false, .slice none 0 0] 25)).trans (hb.mono (by simp))
  have c0 : w1.cell? ⟨bx, 0, none⟩ = some (.int .i64 x) := lkeep B1 h0
  go_wp2
  go_ret
  exact ⟨rfl, B1⟩
end Go.Proofs.YthhbnhdejbpjiaaDoor
