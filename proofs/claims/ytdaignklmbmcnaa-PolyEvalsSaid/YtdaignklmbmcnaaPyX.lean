/-
  works of layer 8 answers true.
-/
import Derived.Test.YtdaignklmbmcnaaPyW
import Derived.Deep.RegionWith
namespace Go.Proofs.Ytdaignklmbmcnaa
open Go.RowKit

theorem Wi.new (w : World) (l : List Int) (t : TypeId) : Wi (w.alloc (.cells (l.map (Value.int .i64)).toArray t)) (.slice (some ⟨w.heap.size, 0, none⟩) l.length l.length) l := by
  refine ⟨w.heap.size, 0, l.length, rfl, fun i hi => ?_⟩
  rw [Nat.zero_add]
  rw [cell_of_row _ _ _ _ _ _ (heap_alloc_new w _)]
  simp [List.getD_eq_getElem?_getD, List.getElem?_eq_getElem hi]
/-- Nine intervals of 0. -/
def Z9 : Array Value := madeCells #[.int .i64 0, .int .i64 0] 18
theorem make9 (w : World) : (Instr.makeSlice 22 (.int .i64 9) (.int .i64 9)).run Try.prog w = .ok (.slice (some ⟨w.heap.size, 0, none⟩) 9 9) (w.alloc (.cells Z9 24)) := by
  obtain ⟨i0, hi, hz0, hz1, hz2⟩ := span_parts
  have h := run_make (P := Try.prog) w 22 24 i0 (.agg #[.int .i64 0, .int .i64 0]) Try.underlying22 hi hz0 .i64 .i64 9 9 (by omega) (by omega) (by rw [hz2]; omega) (by omega)
  rw [hz1] at h
  exact h
theorem sn9 (w : World) : Sn (w.alloc (.cells Z9 24)) (.slice (some ⟨w.heap.size, 0, none⟩) 9 9) (List.replicate 9 (0, 0)) := by
  refine ⟨_, 9, rfl, ⟨by simp, fun h => by cases h⟩, fun _ => ⟨w.heap.size, 0, rfl, fun i hi => ?_⟩⟩
  rw [Nat.zero_add, cell_of_row _ _ _ _ _ _ (heap_alloc_new w _), cell_of_row _ _ _ _ _ _ (heap_alloc_new w _)]
  simp only [List.length_replicate] at hi
  rcases (by omega : i = 0 ∨ i = 1 ∨ i = 2 ∨ i = 3 ∨ i = 4 ∨ i = 5 ∨ i = 6 ∨ i = 7 ∨ i = 8) with rfl | rfl | rfl | rfl | rfl | rfl | rfl | rfl | rfl <;> exact ⟨by kernel_rfl, by kernel_rfl⟩
theorem xl0 (w : World) : Calls Try.prog 26 #[.slice (some ⟨w.heap.size, 0, none⟩) 3 3] (w.alloc (.cells #[.int .i64 1, .int .i64 2, .int .i64 3] 3)) fun e w' => ∃ u, e = .returned u ∧ Sn w' u (pts [1, 2, 3]) ∧ Below w.heap.size w w' := by
  refine (list_any _ [1, 2, 3] _ (Wi.new w [1, 2, 3] 3) (by simp) (by intro i hi; simp only [List.length_cons, List.length_nil] at hi; rcases (by omega : i = 0 ∨ i = 1 ∨ i = 2) with rfl | rfl | rfl <;> simp)).mono ?_
  rintro e w' ⟨hb, u, rfl, hu⟩
  exact ⟨u, rfl, hu, ((Below.refl _ _).alloc (Nat.le_refl _) _).trans (hb.mono (by simp))⟩
theorem xl0k {w u : World} (hk : Below (w.alloc (.cells #[.int .i64 1, .int .i64 2, .int .i64 3] 3)).heap.size (w.alloc (.cells #[.int .i64 1, .int .i64 2, .int .i64 3] 3)) u) : Calls Try.prog 26 #[.slice (some ⟨w.heap.size, 0, none⟩) 3 3] u fun e w' => ∃ v, e = .returned v ∧ Sn w' v (pts [1, 2, 3]) ∧ Below u.heap.size u w' := by
  refine (list_any _ [1, 2, 3] _ ((Wi.new w [1, 2, 3] 3).keep hk) (by simp) (by intro i hi; simp only [List.length_cons, List.length_nil] at hi; rcases (by omega : i = 0 ∨ i = 1 ∨ i = 2) with rfl | rfl | rfl <;> simp)).mono ?_
  rintro e w' ⟨hb, v, rfl, hu⟩
  exact ⟨v, rfl, hu, hb⟩
theorem xe0 (u : Value) (w : World) (h : Sn w u (pts [1, 2, 3])) : Calls Try.prog 13 #[u, .agg #[.int .i64 8589934592, .int .i64 8589934592]] w fun r w' => r = .returned (.tuple #[.agg #[.int .i64 73014444032, .int .i64 73014444032], .int .i64 0]) ∧ Below w.heap.size w w' := by
  have h := polyEval_any u (pts [1, 2, 3]) 8589934592 8589934592 w h
  rw [show evR (pts [1, 2, 3]) 8589934592 8589934592 = (73014444032, 73014444032, 0) from by kernel_rfl] at h
  exact h
theorem xe1 (u : Value) (w : World) (h : Sn w u (pts [1, 2, 3])) : Calls Try.prog 15 #[u, .agg #[.int .i64 8589934592, .int .i64 8589934592]] w fun r w' => r = .returned (.tuple #[.agg #[.int .i64 60129542144, .int .i64 60129542144], .int .i64 0]) ∧ Below w.heap.size w w' := by
  have h := polySlope_any u (pts [1, 2, 3]) 8589934592 8589934592 w h
  rw [show slR (pts [1, 2, 3]) 8589934592 8589934592 = (60129542144, 60129542144, 0) from by kernel_rfl] at h
  exact h
theorem xl1 (w : World) : Calls Try.prog 26 #[.slice (some ⟨w.heap.size, 0, none⟩) 3 3] (w.alloc (.cells #[.int .i64 1, .int .i64 0, .int .i64 1] 3)) fun e w' => ∃ u, e = .returned u ∧ Sn w' u (pts [1, 0, 1]) ∧ Below w.heap.size w w' := by
  refine (list_any _ [1, 0, 1] _ (Wi.new w [1, 0, 1] 3) (by simp) (by intro i hi; simp only [List.length_cons, List.length_nil] at hi; rcases (by omega : i = 0 ∨ i = 1 ∨ i = 2) with rfl | rfl | rfl <;> simp)).mono ?_
  rintro e w' ⟨hb, u, rfl, hu⟩
  exact ⟨u, rfl, hu, ((Below.refl _ _).alloc (Nat.le_refl _) _).trans (hb.mono (by simp))⟩
theorem xl1k {w u : World} (hk : Below (w.alloc (.cells #[.int .i64 1, .int .i64 0, .int .i64 1] 3)).heap.size (w.alloc (.cells #[.int .i64 1, .int .i64 0, .int .i64 1] 3)) u) : Calls Try.prog 26 #[.slice (some ⟨w.heap.size, 0, none⟩) 3 3] u fun e w' => ∃ v, e = .returned v ∧ Sn w' v (pts [1, 0, 1]) ∧ Below u.heap.size u w' := by
  refine (list_any _ [1, 0, 1] _ ((Wi.new w [1, 0, 1] 3).keep hk) (by simp) (by intro i hi; simp only [List.length_cons, List.length_nil] at hi; rcases (by omega : i = 0 ∨ i = 1 ∨ i = 2) with rfl | rfl | rfl <;> simp)).mono ?_
  rintro e w' ⟨hb, v, rfl, hu⟩
  exact ⟨v, rfl, hu, hb⟩
theorem xe2 (u : Value) (w : World) (h : Sn w u (pts [1, 0, 1])) : Calls Try.prog 13 #[u, .agg #[.int .i64 (-4294967296), .int .i64 8589934592]] w fun r w' => r = .returned (.tuple #[.agg #[.int .i64 (-4294967296), .int .i64 21474836480], .int .i64 0]) ∧ Below w.heap.size w w' := by
  have h := polyEval_any u (pts [1, 0, 1]) (-4294967296) 8589934592 w h
  rw [show evR (pts [1, 0, 1]) (-4294967296) 8589934592 = ((-4294967296), 21474836480, 0) from by kernel_rfl] at h
  exact h
theorem xe3 (u : Value) (w : World) (h : Sn w u (pts [1, 0, 1])) : Calls Try.prog 15 #[u, .agg #[.int .i64 (-4294967296), .int .i64 8589934592]] w fun r w' => r = .returned (.tuple #[.agg #[.int .i64 (-8589934592), .int .i64 17179869184], .int .i64 0]) ∧ Below w.heap.size w w' := by
  have h := polySlope_any u (pts [1, 0, 1]) (-4294967296) 8589934592 w h
  rw [show slR (pts [1, 0, 1]) (-4294967296) 8589934592 = ((-8589934592), 17179869184, 0) from by kernel_rfl] at h
  exact h
theorem xl2 (w : World) : Calls Try.prog 26 #[.slice (some ⟨w.heap.size, 0, none⟩) 1 1] (w.alloc (.cells #[.int .i64 7] 3)) fun e w' => ∃ u, e = .returned u ∧ Sn w' u (pts [7]) ∧ Below w.heap.size w w' := by
  refine (list_any _ [7] _ (Wi.new w [7] 3) (by simp) (by intro i hi; simp only [List.length_cons, List.length_nil] at hi; rcases (by omega : i = 0) with rfl <;> simp)).mono ?_
  rintro e w' ⟨hb, u, rfl, hu⟩
  exact ⟨u, rfl, hu, ((Below.refl _ _).alloc (Nat.le_refl _) _).trans (hb.mono (by simp))⟩
theorem xl2k {w u : World} (hk : Below (w.alloc (.cells #[.int .i64 7] 3)).heap.size (w.alloc (.cells #[.int .i64 7] 3)) u) : Calls Try.prog 26 #[.slice (some ⟨w.heap.size, 0, none⟩) 1 1] u fun e w' => ∃ v, e = .returned v ∧ Sn w' v (pts [7]) ∧ Below u.heap.size u w' := by
  refine (list_any _ [7] _ ((Wi.new w [7] 3).keep hk) (by simp) (by intro i hi; simp only [List.length_cons, List.length_nil] at hi; rcases (by omega : i = 0) with rfl <;> simp)).mono ?_
  rintro e w' ⟨hb, v, rfl, hu⟩
  exact ⟨v, rfl, hu, hb⟩
theorem xl3 (w : World) : Calls Try.prog 26 #[.slice (some ⟨w.heap.size, 0, none⟩) 3 3] (w.alloc (.cells #[.int .i64 0, .int .i64 0, .int .i64 1] 3)) fun e w' => ∃ u, e = .returned u ∧ Sn w' u (pts [0, 0, 1]) ∧ Below w.heap.size w w' := by
  refine (list_any _ [0, 0, 1] _ (Wi.new w [0, 0, 1] 3) (by simp) (by intro i hi; simp only [List.length_cons, List.length_nil] at hi; rcases (by omega : i = 0 ∨ i = 1 ∨ i = 2) with rfl | rfl | rfl <;> simp)).mono ?_
  rintro e w' ⟨hb, u, rfl, hu⟩
  exact ⟨u, rfl, hu, ((Below.refl _ _).alloc (Nat.le_refl _) _).trans (hb.mono (by simp))⟩
theorem xl3k {w u : World} (hk : Below (w.alloc (.cells #[.int .i64 0, .int .i64 0, .int .i64 1] 3)).heap.size (w.alloc (.cells #[.int .i64 0, .int .i64 0, .int .i64 1] 3)) u) : Calls Try.prog 26 #[.slice (some ⟨w.heap.size, 0, none⟩) 3 3] u fun e w' => ∃ v, e = .returned v ∧ Sn w' v (pts [0, 0, 1]) ∧ Below u.heap.size u w' := by
  refine (list_any _ [0, 0, 1] _ ((Wi.new w [0, 0, 1] 3).keep hk) (by simp) (by intro i hi; simp only [List.length_cons, List.length_nil] at hi; rcases (by omega : i = 0 ∨ i = 1 ∨ i = 2) with rfl | rfl | rfl <;> simp)).mono ?_
  rintro e w' ⟨hb, v, rfl, hu⟩
  exact ⟨v, rfl, hu, hb⟩
theorem xe4 (u : Value) (w : World) (h : Sn w u []) : Calls Try.prog 13 #[u, .agg #[.int .i64 21474836480, .int .i64 21474836480]] w fun r w' => r = .returned (.tuple #[.agg #[.int .i64 0, .int .i64 0], .int .i64 0]) ∧ Below w.heap.size w w' := by
  have h := polyEval_any u [] 21474836480 21474836480 w h
  rw [show evR [] 21474836480 21474836480 = (0, 0, 0) from by kernel_rfl] at h
  exact h
theorem xe5 (u : Value) (w : World) (h : Sn w u (pts [7])) : Calls Try.prog 15 #[u, .agg #[.int .i64 21474836480, .int .i64 21474836480]] w fun r w' => r = .returned (.tuple #[.agg #[.int .i64 0, .int .i64 0], .int .i64 0]) ∧ Below w.heap.size w w' := by
  have h := polySlope_any u (pts [7]) 21474836480 21474836480 w h
  rw [show slR (pts [7]) 21474836480 21474836480 = (0, 0, 0) from by kernel_rfl] at h
  exact h
theorem xe6 (u : Value) (w : World) (h : Sn w u (pts [0, 0, 1])) : Calls Try.prog 13 #[u, .agg #[.int .i64 4402341478400, .int .i64 4402341478400]] w fun r w' => r = .returned (.tuple #[.agg #[.int .i64 0, .int .i64 0], .int .i64 6]) ∧ Below w.heap.size w w' := by
  have h := polyEval_any u (pts [0, 0, 1]) 4402341478400 4402341478400 w h
  rw [show evR (pts [0, 0, 1]) 4402341478400 4402341478400 = (0, 0, 6) from by kernel_rfl] at h
  exact h
theorem xe7 (u : Value) (w : World) (h : Sn w u (List.replicate 9 (0, 0))) : Calls Try.prog 13 #[u, .agg #[.int .i64 0, .int .i64 0]] w fun r w' => r = .returned (.tuple #[.agg #[.int .i64 0, .int .i64 0], .int .i64 3]) ∧ Below w.heap.size w w' := by
  have h := polyEval_any u (List.replicate 9 (0, 0)) 0 0 w h
  rw [show evR (List.replicate 9 (0, 0)) 0 0 = (0, 0, 3) from by kernel_rfl] at h
  exact h
theorem xe9a (w : World) : Calls Try.prog 13 #[.slice (some ⟨w.heap.size, 0, none⟩) 9 9, .agg #[.int .i64 0, .int .i64 0]] (w.alloc (.cells Z9 24)) fun r w' => r = .returned (.tuple #[.agg #[.int .i64 0, .int .i64 0], .int .i64 3]) ∧ Below w.heap.size w w' :=
  (xe7 _ _ (sn9 w)).mono fun _ _ h => ⟨h.1, ((Below.refl _ _).alloc (Nat.le_refl _) _).trans (h.2.mono (by simp))⟩
theorem xe9b {w u : World} (hk : Below (w.alloc (.cells Z9 24)).heap.size (w.alloc (.cells Z9 24)) u) : Calls Try.prog 13 #[.slice (some ⟨w.heap.size, 0, none⟩) 9 9, .agg #[.int .i64 0, .int .i64 0]] u fun r w' => r = .returned (.tuple #[.agg #[.int .i64 0, .int .i64 0], .int .i64 3]) ∧ Below u.heap.size u w' :=
  xe7 _ _ ((sn9 w).keep hk)
set_option maxRecDepth 100000 in
set_option maxHeartbeats 4000000 in
theorem works_true (w : World) : Calls Try.prog 9 #[] w fun r w' => r = .returned (.bool true) ∧ Below w.heap.size w w' := by
  have hB := Below.refl w.heap.size w
  go_enter Try.func9, Try.ntmps9
  go_wp2_with fail
  go_at_call 23
  refine (whole_any 17 17 73014444032 73014444032 _ (by omega) (by omega) (by omega) (by omega) rfl rfl).mono ?_
  rintro r u1 ⟨rfl, hb⟩
  replace hB := hB.trans (hb.mono hB.size)
  clear hb
  go_wp2_with fail
  go_at_call 25
  refine (is_any 73014444032 73014444032 _).mono ?_
  rintro r u2 ⟨bx, rfl, hq, hb⟩
  replace hB := hB.trans (hb.mono hB.size)
  clear hb
  go_wp2_with fail
  go_at_call 26
  refine (xl0 _).mono ?_
  rintro r u3 ⟨v, rfl, hv, hb⟩
  replace hq := hq.keep hb
  replace hB := hB.trans (hb.mono hB.size)
  clear hb
  go_wp2_with fail
  go_at_call 23
  refine (whole_any 2 2 8589934592 8589934592 _ (by omega) (by omega) (by omega) (by omega) rfl rfl).mono ?_
  rintro r u4 ⟨rfl, hb⟩
  replace hq := hq.keep hb
  replace hv := hv.keep hb
  replace hB := hB.trans (hb.mono hB.size)
  clear hb
  go_wp2_with fail
  go_at_call 13
  refine (xe0 v _ hv).mono ?_
  rintro r u5 ⟨rfl, hb⟩
  replace hq := hq.keep hb
  replace hB := hB.trans (hb.mono hB.size)
  clear hb
  clear hv
  go_wp2_with fail
  go_at_call 41
  refine (is1_true 73014444032 73014444032 bx _ hq).mono ?_
  rintro r u6 ⟨rfl, hb⟩
  replace hB := hB.trans (hb.mono hB.size)
  clear hb
  clear hq
  go_wp2_with fail
  go_at_call 23
  refine (whole_any 14 14 60129542144 60129542144 _ (by omega) (by omega) (by omega) (by omega) rfl rfl).mono ?_
  rintro r u7 ⟨rfl, hb⟩
  replace hB := hB.trans (hb.mono hB.size)
  clear hb
  go_wp2_with fail
  go_at_call 25
  refine (is_any 60129542144 60129542144 _).mono ?_
  rintro r u8 ⟨bx, rfl, hq, hb⟩
  replace hB := hB.trans (hb.mono hB.size)
  clear hb
  go_wp2_with fail
  go_at_call 26
  refine (xl0 _).mono ?_
  rintro r u9 ⟨v, rfl, hv, hb⟩
  replace hq := hq.keep hb
  replace hB := hB.trans (hb.mono hB.size)
  clear hb
  go_wp2_with fail
  go_at_call 23
  refine (whole_any 2 2 8589934592 8589934592 _ (by omega) (by omega) (by omega) (by omega) rfl rfl).mono ?_
  rintro r u10 ⟨rfl, hb⟩
  replace hq := hq.keep hb
  replace hv := hv.keep hb
  replace hB := hB.trans (hb.mono hB.size)
  clear hb
  go_wp2_with fail
  go_at_call 15
  refine (xe1 v _ hv).mono ?_
  rintro r u11 ⟨rfl, hb⟩
  replace hq := hq.keep hb
  replace hB := hB.trans (hb.mono hB.size)
  clear hb
  clear hv
  go_wp2_with fail
  go_at_call 41
  refine (is1_true 60129542144 60129542144 bx _ hq).mono ?_
  rintro r u12 ⟨rfl, hb⟩
  replace hB := hB.trans (hb.mono hB.size)
  clear hb
  clear hq
  go_wp2_with fail
  go_at_call 23
  refine (whole_any (-1) 5 (-4294967296) 21474836480 _ (by omega) (by omega) (by omega) (by omega) rfl rfl).mono ?_
  rintro r u13 ⟨rfl, hb⟩
  replace hB := hB.trans (hb.mono hB.size)
  clear hb
  go_wp2_with fail
  go_at_call 25
  refine (is_any (-4294967296) 21474836480 _).mono ?_
  rintro r u14 ⟨bx, rfl, hq, hb⟩
  replace hB := hB.trans (hb.mono hB.size)
  clear hb
  go_wp2_with fail
  go_at_call 26
  refine (xl1 _).mono ?_
  rintro r u15 ⟨v, rfl, hv, hb⟩
  replace hq := hq.keep hb
  replace hB := hB.trans (hb.mono hB.size)
  clear hb
  go_wp2_with fail
  go_at_call 23
  refine (whole_any (-1) 2 (-4294967296) 8589934592 _ (by omega) (by omega) (by omega) (by omega) rfl rfl).mono ?_
  rintro r u16 ⟨rfl, hb⟩
  replace hq := hq.keep hb
  replace hv := hv.keep hb
  replace hB := hB.trans (hb.mono hB.size)
  clear hb
  go_wp2_with fail
  go_at_call 13
  refine (xe2 v _ hv).mono ?_
  rintro r u17 ⟨rfl, hb⟩
  replace hq := hq.keep hb
  replace hB := hB.trans (hb.mono hB.size)
  clear hb
  clear hv
  go_wp2_with fail
  go_at_call 41
  refine (is1_true (-4294967296) 21474836480 bx _ hq).mono ?_
  rintro r u18 ⟨rfl, hb⟩
  replace hB := hB.trans (hb.mono hB.size)
  clear hb
  clear hq
  go_wp2_with fail
  go_at_call 23
  refine (whole_any (-2) 4 (-8589934592) 17179869184 _ (by omega) (by omega) (by omega) (by omega) rfl rfl).mono ?_
  rintro r u19 ⟨rfl, hb⟩
  replace hB := hB.trans (hb.mono hB.size)
  clear hb
  go_wp2_with fail
  go_at_call 25
  refine (is_any (-8589934592) 17179869184 _).mono ?_
  rintro r u20 ⟨bx, rfl, hq, hb⟩
  replace hB := hB.trans (hb.mono hB.size)
  clear hb
  go_wp2_with fail
  go_at_call 26
  refine (xl1 _).mono ?_
  rintro r u21 ⟨v, rfl, hv, hb⟩
  replace hq := hq.keep hb
  replace hB := hB.trans (hb.mono hB.size)
  clear hb
  go_wp2_with fail
  go_at_call 23
  refine (whole_any (-1) 2 (-4294967296) 8589934592 _ (by omega) (by omega) (by omega) (by omega) rfl rfl).mono ?_
  rintro r u22 ⟨rfl, hb⟩
  replace hq := hq.keep hb
  replace hv := hv.keep hb
  replace hB := hB.trans (hb.mono hB.size)
  clear hb
  go_wp2_with fail
  go_at_call 15
  refine (xe3 v _ hv).mono ?_
  rintro r u23 ⟨rfl, hb⟩
  replace hq := hq.keep hb
  replace hB := hB.trans (hb.mono hB.size)
  clear hb
  clear hv
  go_wp2_with fail
  go_at_call 41
  refine (is1_true (-8589934592) 17179869184 bx _ hq).mono ?_
  rintro r u24 ⟨rfl, hb⟩
  replace hB := hB.trans (hb.mono hB.size)
  clear hb
  clear hq
  have hmk := fun w => make9 w
  go_wp2
  go_region_with (first | (go_at_call 25; (first | (with_reducible refine (is_any 0 0 _).mono ?_)); rintro r u ⟨bx, rfl, hq, hb⟩; have hk := hb; have hB0 := hB; clear hB; have hB : Below w.heap.size w u := (by first | exact hB0.trans (hb.mono hB0.size) | exact (Below.drew hB0).trans (hb.mono hB0.size) | exact (hB0.alloc hB0.size _).trans (hb.mono (by have := hB0.size; simp; omega))); clear hB0; clear hb) | (go_at_call 24; (first | (with_reducible refine (fails_any 6 _).mono ?_) | (with_reducible refine (fails_any 3 _).mono ?_)); rintro r u ⟨bf, rfl, hf, hb⟩; have hk := hb; have hB0 := hB; clear hB; have hB : Below w.heap.size w u := (by first | exact hB0.trans (hb.mono hB0.size) | exact (Below.drew hB0).trans (hb.mono hB0.size) | exact (hB0.alloc hB0.size _).trans (hb.mono (by have := hB0.size; simp; omega))); clear hB0; clear hb) | (go_at_call 23; (first | (with_reducible refine (whole_any 5 5 21474836480 21474836480 _ (by omega) (by omega) (by omega) (by omega) rfl rfl).mono ?_) | (with_reducible refine (whole_any 1025 1025 4402341478400 4402341478400 _ (by omega) (by omega) (by omega) (by omega) rfl rfl).mono ?_)); rintro r u ⟨rfl, hb⟩; (try replace hq := hq.keep hb); (try replace hf := hf.keep hb); (try replace hv := hv.keep hb); have hB0 := hB; clear hB; have hB : Below w.heap.size w u := (by first | exact hB0.trans (hb.mono hB0.size) | exact (Below.drew hB0).trans (hb.mono hB0.size) | exact (hB0.alloc hB0.size _).trans (hb.mono (by have := hB0.size; simp; omega))); clear hB0; clear hb) | (go_at_call 26; (first | (with_reducible refine (xl2 _).mono ?_) | (with_reducible refine (xl2k hk).mono ?_) | (with_reducible refine (xl3 _).mono ?_) | (with_reducible refine (xl3k hk).mono ?_)); rintro r u ⟨v, rfl, hv, hb⟩; (try replace hq := hq.keep hb); (try replace hf := hf.keep hb); have hB0 := hB; clear hB; have hB : Below w.heap.size w u := (by first | exact hB0.trans (hb.mono hB0.size) | exact (Below.drew hB0).trans (hb.mono hB0.size) | exact (hB0.alloc hB0.size _).trans (hb.mono (by have := hB0.size; simp; omega))); clear hB0; clear hb) | (go_at_call 13; (first | (with_reducible refine (xe4 (.slice none 0 0) _ (Sn.nil _)).mono ?_) | (with_reducible refine (xe6 v _ hv).mono ?_) | (with_reducible refine (xe9a _).mono ?_) | (with_reducible refine (xe9b hk).mono ?_)); rintro r u ⟨rfl, hb⟩; (try replace hq := hq.keep hb); (try replace hf := hf.keep hb); (try replace hv := hv.keep hb); have hB0 := hB; clear hB; have hB : Below w.heap.size w u := (by first | exact hB0.trans (hb.mono hB0.size) | exact (Below.drew hB0).trans (hb.mono hB0.size) | exact (hB0.alloc hB0.size _).trans (hb.mono (by have := hB0.size; simp; omega))); clear hB0; clear hb) | (go_at_call 15; (first | (with_reducible refine (xe5 v _ hv).mono ?_)); rintro r u ⟨rfl, hb⟩; (try replace hq := hq.keep hb); (try replace hf := hf.keep hb); (try replace hv := hv.keep hb); have hB0 := hB; clear hB; have hB : Below w.heap.size w u := (by first | exact hB0.trans (hb.mono hB0.size) | exact (Below.drew hB0).trans (hb.mono hB0.size) | exact (hB0.alloc hB0.size _).trans (hb.mono (by have := hB0.size; simp; omega))); clear hB0; clear hb) | (go_at_call 41; (first | (with_reducible refine (is1_true 0 0 bx _ hq).mono ?_)); rintro r u ⟨rfl, hb⟩; (try replace hq := hq.keep hb); (try replace hf := hf.keep hb); (try replace hv := hv.keep hb); have hB0 := hB; clear hB; have hB : Below w.heap.size w u := (by first | exact hB0.trans (hb.mono hB0.size) | exact (Below.drew hB0).trans (hb.mono hB0.size) | exact (hB0.alloc hB0.size _).trans (hb.mono (by have := hB0.size; simp; omega))); clear hB0; clear hb) | (go_at_call 40; (first | (with_reducible refine (fails1_true 6 bf _ hf).mono ?_) | (with_reducible refine (fails1_true 3 bf _ hf).mono ?_)); rintro r u ⟨rfl, hb⟩; (try replace hq := hq.keep hb); (try replace hf := hf.keep hb); (try replace hv := hv.keep hb); have hB0 := hB; clear hB; have hB : Below w.heap.size w u := (by first | exact hB0.trans (hb.mono hB0.size) | exact (Below.drew hB0).trans (hb.mono hB0.size) | exact (hB0.alloc hB0.size _).trans (hb.mono (by have := hB0.size; simp; omega))); clear hB0; clear hb))
  all_goals
    go_wp2
    go_ret
    exact ⟨rfl, hB⟩
end Go.Proofs.Ytdaignklmbmcnaa
