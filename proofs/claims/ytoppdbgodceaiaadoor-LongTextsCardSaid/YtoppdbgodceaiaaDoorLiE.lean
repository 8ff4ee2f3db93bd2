/-
  The long integers of a draft.
-/
import Derived.Test.YtoppdbgodceaiaaDoorLiD
import Derived.Test.YtoppdbgodceaiaaDoorLiA
namespace Go.Proofs.YtoppdbgodceaiaaDoor
open Go.RowKit

theorem dig_append {l m : List Int} (h : Dg l) (k : Dg m) : Dg (l ++ m) := fun x hx => by
  rcases List.mem_append.1 hx with h1 | h1
  · exact h x h1
  · exact k x h1
theorem dig_word {x : Int} (h : 0 ≤ x) : Dg [x % 1000000000] := fun y hy => by
  rw [List.mem_singleton] at hy
  subst hy
  omega
theorem dig_zeros (n : Nat) : Dg (List.replicate n 0) := fun x hx => by
  have := List.eq_of_mem_replicate hx
  omega
theorem Dl_vl {l : List Int} (h : Dg l) {n : Nat} (hn : l.length ≤ n) (ng : Bool) : Dl (if ng then -(vl l) else vl l) ≤ n := by
  refine Dl_le ?_
  have h0 := vl_nonneg h
  have h1 := vl_lt h
  have h2 := pow9_le hn
  cases ng <;> simp <;> omega

/-- A word as a digit. -/
def w9 (x : Int) : Int := x % 1000000000
theorem dig_map {m : List Int} (h : ∀ x ∈ m, 0 ≤ x) : Dg (m.map w9) := fun x hx => by
  obtain ⟨y, hy, rfl⟩ := List.mem_map.1 hx
  have := h y hy
  unfold w9; omega
theorem map_take_succ (m : List Int) (n : Nat) (h : n < m.length) : (m.take (n + 1)).map w9 = (m.take n).map w9 ++ [el m n % 1000000000] := by
  rw [List.take_add_one, List.map_append]
  congr 1
  rw [List.getElem?_eq_getElem h, el_eq, List.getD_eq_getElem?_getD, List.getElem?_eq_getElem h]; rfl
/-- The number of a draft. -/
def drLongL (k : Int) (m : List Int) : List Int := List.replicate (k % 8).toNat 0 ++ (m.take 40).map w9
def drShortL (_k : Int) (m : List Int) : List Int := (m.take 3).map w9
def drLongZ (b : Bool) (k : Int) (m : List Int) : Int := if b then -(vl (drLongL k m)) else vl (drLongL k m)
def drShortZ (b : Bool) (k : Int) (m : List Int) : Int := if b then -(vl (drShortL k m)) else vl (drShortL k m)
theorem drLong_dg {k : Int} {m : List Int} (h : ∀ x ∈ m, 0 ≤ x) : Dg (drLongL k m) := dig_append (dig_zeros _) (dig_map fun x hx => h x (List.mem_of_mem_take hx))
theorem drShort_dg {k : Int} {m : List Int} (h : ∀ x ∈ m, 0 ≤ x) : Dg (drShortL k m) := dig_map fun x hx => h x (List.mem_of_mem_take hx)
theorem drLong_Dl {b : Bool} {k : Int} {m : List Int} (h : ∀ x ∈ m, 0 ≤ x) (k0 : 0 ≤ k) : Dl (drLongZ b k m) ≤ 47 := Dl_vl (drLong_dg h) (by unfold drLongL; simp; omega) b
theorem drShort_Dl {b : Bool} {k : Int} {m : List Int} (h : ∀ x ∈ m, 0 ≤ x) : Dl (drShortZ b k m) ≤ 3 := Dl_vl (drShort_dg h) (by unfold drShortL; simp; omega) b
theorem take_end {m : List Int} {n N : Nat} (h : m.length ≤ n ∨ N ≤ n) (hn : n ≤ N) : m.take n = m.take N := by
  rcases h with h | h
  · rw [List.take_of_length_le h, List.take_of_length_le (by omega)]
  · rw [show n = N by omega]

set_option maxRecDepth 100000 in
set_option maxHeartbeats 2000000 in
theorem drLong_any (b : Bool) (k : Int) (s : Value) (m : List Int) (w : World) (k0 : 0 ≤ k) (k1 : k ≤ 255) (hs : Wd w s m) :
    Calls Tryd.prog 44 #[.agg #[.bool b, .int .u8 k, s]] w fun e w' => LgV (drLongZ b k m) e w' ∧ Below w.heap.size w w' := by
  have hDg := drLong_dg (k := k) (m := m) (fun x hx => (hs.choose_spec.choose_spec.2.2.1 x hx).1)
  obtain ⟨i0, hi, hz0, hz1, hz2⟩ := info_parts Tryd.infoInt
  obtain ⟨pa, ca, rfl, hm, hmb, hpa⟩ := hs
  have a1 := Below.alloc (Below.refl w.heap.size w) (Nat.le_refl _) (.cells #[.bool b, .int .u8 k, .slice pa m.length ca] 27)
  have a2 := Below.alloc a1 a1.size (.cells #[.bool false, .slice none 0 0] 24)
  have c0 : ((w.alloc (.cells #[.bool b, .int .u8 k, .slice pa m.length ca] 27)).alloc (.cells #[.bool false, .slice none 0 0] 24)).cell? ⟨w.heap.size, 0, none⟩ = some (.bool b) := by simp [go_sem]
  have c1 : ((w.alloc (.cells #[.bool b, .int .u8 k, .slice pa m.length ca] 27)).alloc (.cells #[.bool false, .slice none 0 0] 24)).cell? ⟨w.heap.size, 1, none⟩ = some (.int .u8 k) := by simp [go_sem]
  have c2 : ((w.alloc (.cells #[.bool b, .int .u8 k, .slice pa m.length ca] 27)).alloc (.cells #[.bool false, .slice none 0 0] 24)).cell? ⟨w.heap.size, 2, none⟩ = some (.slice pa m.length ca) := by simp [go_sem]
  have bR : Bx ((w.alloc (.cells #[.bool b, .int .u8 k, .slice pa m.length ca] 27)).alloc (.cells #[.bool false, .slice none 0 0] 24)) (w.heap.size + 1) (.bool false) (.slice none 0 0) 24 := by
    have := Bx.new (w.alloc (.cells #[.bool b, .int .u8 k, .slice pa m.length ca] 27)) (.bool false) (.slice none 0 0) 24
    simpa using this
  have hsz : ((w.alloc (.cells #[.bool b, .int .u8 k, .slice pa m.length ca] 27)).alloc (.cells #[.bool false, .slice none 0 0] 24)).heap.size = w.heap.size + 2 := by simp
  have hpa2 : 0 < m.length → ∃ b off, pa = some ⟨b, off, none⟩ ∧ b < w.heap.size ∧ ∀ i, i < m.length → w.cell? ⟨b, off + i, none⟩ = some (.int .u32 (el m i)) := fun h => by
    obtain ⟨bb, off, rfl, hc⟩ := hpa h
    exact ⟨bb, off, rfl, World.block_lt_of_cell? w _ (hc 0 h), hc⟩
  clear hpa
  go_enter Tryd.func44, Tryd.ntmps44
  obtain ⟨q, hq⟩ : ∃ q : Nat, k % 8 = (q : Int) := ⟨(k % 8).toNat, by omega⟩
  have hq8 : q < 8 := by omega
  have HQ := Lib.hid hq
  clear hq
  go_wp2_with (refine wpList_make_full _ rfl (.tmp 7) (.tmp 7) 22 rfl (w.heap.size + 2) 3 i0 (.int .i64 0) 1 Tryd.underlying22 hi hz0 hz1 .u8 .u8 (k % 8) (k % 8) q rfl rfl (by have := HQ.out; omega) (by have := HQ.out; omega) (by rw [hz2]; omega) (by unfold maxLen; omega) (by simp) ?_)
  intro w1 hown0 hgrow
  have hown : w1.ownsRow (w.heap.size + 2) 3 1 (.slice (some ⟨w.heap.size + 2, 0, none⟩) q q) q ((List.replicate q (0 : Int)).map (Value.int .i64)) := by
    rw [toList_madeCells_one, show List.replicate q (Value.int IntKind.i64 0) = (List.replicate q (0 : Int)).map (.int .i64) by simp] at hown0
    exact hown0
  have hb1 : Below (w.heap.size + 2) ((w.alloc (.cells #[.bool b, .int .u8 k, .slice pa m.length ca] 27)).alloc (.cells #[.bool false, .slice none 0 0] 24)) w1 := (Below.refl _ _).grown hgrow (by simp) (fun k hk => by cases hk)
  clear hown0 hgrow
  go_wp2
  go_loopw [3, 4] (fun v i wr => ∃ (n : Nat) (l : List Int), i = .int .i64 n ∧ l.length ≤ 7 + n ∧ n ≤ 40 ∧ l = List.replicate q 0 ++ (m.take n).map w9 ∧ wr.ownsRow (w.heap.size + 2) 3 1 v l.length (l.map (Value.int .i64)) ∧ Below (w.heap.size + 2) ((w.alloc (.cells #[.bool b, .int .u8 k, .slice pa m.length ca] 27)).alloc (.cells #[.bool false, .slice none 0 0] 24)) wr)
    (fun _ i _ => 40 - (intOf i).toNat)
  case atStart => exact ⟨0, List.replicate q 0, by simp, by simp; omega, by omega, by simp, by simpa using hown, hb1⟩
  case round =>
    obtain ⟨n, l, rfl, hl, hn, hd, hown, hnx⟩ := hrel
    replace hd := Lib.hid hd
    replace c0 := lkeepB hnx (show w.heap.size < w.heap.size + 2 by omega) c0
    replace c1 := lkeepB hnx (show w.heap.size < w.heap.size + 2 by omega) c1
    replace c2 := lkeepB hnx (show w.heap.size < w.heap.size + 2 by omega) c2
    have bW := bR.keepB hnx (by omega)
    have hB : Below w.heap.size w wr := a2.trans (hnx.mono (by omega))
    by_cases hlt : n < m.length ∧ n < 40
    · obtain ⟨bb, off, rfl, hbb, hc⟩ := hpa2 (by omega)
      have hcn := lkeep hB (hc n hlt.1)
      have hr := hmb _ (el_mem hlt.1)
      obtain ⟨x, hx⟩ : ∃ x, el m n = x := ⟨_, rfl⟩
      rw [hx] at hcn hr
      have e2 : IntKind.i64.wrap (x % 1000000000) = x % 1000000000 := IntWalk.i64_in _ (by omega)
      have hlt1 := hlt.1
      have hlt2 := hlt.2
      replace hx := Lib.hid hx
      clear hc hmb bW bR a1 a2
      go_wp2_with (at_builtin; refine wpList_append_own _ rfl _ _ 22 rfl (w.heap.size + 2) 3 i0 (.int .i64 0) 1 8 Tryd.underlying22 hi hz0 hz1 hz2 rfl (by decide) _ _ _ rfl (hown.alloc _) ⟨wr.heap.size, 0, none⟩ 1 1 [.int .i64 (x % 1000000000)] rfl rfl (one_at _ _ _) (one_cell _ _) (by unfold maxLen; omega) (by omega) (by have := hnx.size; simp at this ⊢; omega) ?_)
      intro v' w2 hown' hgrow _
      have hb := (hnx.alloc (by have := hnx.size; simp at this; omega) (.cells #[.int .i64 (x % 1000000000)] 3)).grown hgrow (by have := hnx.size; simp at this ⊢; omega) (fun k hk => (hown.lt k hk).1)
      clear hown hgrow hnx
      go_wp2
      go_roundw
      case rel =>
        exact ⟨n + 1, l ++ [x % 1000000000], by simp, by simp; omega, by omega, by rw [map_take_succ m n hlt1, hd.out, hx.out]; first | done | rw [List.append_assoc], by rw [List.length_append, List.map_append]; exact hown', hb⟩
      case measure => simp [intOf]; omega
    · have hls := Ls.own hown
      have hdl : l = drLongL k m := by rw [hd.out]; unfold drLongL; rw [show (k % 8).toNat = q by have := HQ.out; omega]; rw [take_end (m := m) (n := n) (N := 40) (by omega) hn]
      have hdL : Dg l := by rw [hdl]; exact hDg
      have HD := Lib.hid hdl
      clear hown hmb hpa2 hd hdl
      rcases (by omega : m.length ≤ n ∨ (n < m.length ∧ 40 ≤ n)) with h | ⟨h, h'⟩
      all_goals
        go_wp2_with fail
        go_at_call 63
        refine (made_any b _ l wr hls hdL (by omega)).mono ?_
        rintro e w3 ⟨⟨p, pv, nv, cv, rfl, L⟩, hb⟩
        replace bW := bW.keep hb
        have hB3 := hB.trans (hb.mono hB.size)
        have r0 := bW.c0
        have r1 := bW.c1
        have z0 := bW.f 0
        have z1 := bW.f 1
        have lR := bW.lt
        have hL := Lib.hid (L.put bW p pv nv cv)
        clear hb hls L hB a1 a2 bR c0 c1 c2
        go_wp2
        refine bodyPost_ret (v := .agg #[.bool p, .slice pv nv cv]) (by simp [results, Tryd.results44, go_sem, *]) rfl ⟨⟨_, _, _, _, rfl, by unfold drLongZ; rw [← HD.out]; exact hL.out⟩, by (repeat (first | with_reducible exact Below.refl _ _ | with_reducible assumption | refine Below.alloc ?_ (by (try simp); try omega) _ | refine Below.setCell ?_ (by (try simp); try omega) _ | refine below_drewN ?_ _ | refine Below.drew ?_ | (with_reducible refine Below.trans ?_ (Below.mono (by assumption) (by (try simp); try omega)))))⟩

set_option maxRecDepth 100000 in
set_option maxHeartbeats 2000000 in
theorem drShort_any (b : Bool) (k : Int) (s : Value) (m : List Int) (w : World) (k0 : 0 ≤ k) (k1 : k ≤ 255) (hs : Wd w s m) :
    Calls Tryd.prog 43 #[.agg #[.bool b, .int .u8 k, s]] w fun e w' => LgV (drShortZ b k m) e w' ∧ Below w.heap.size w w' := by
  have hDg := drShort_dg (k := k) (m := m) (fun x hx => (hs.choose_spec.choose_spec.2.2.1 x hx).1)
  obtain ⟨i0, hi, hz0, hz1, hz2⟩ := info_parts Tryd.infoInt
  obtain ⟨pa, ca, rfl, hm, hmb, hpa⟩ := hs
  have a1 := Below.alloc (Below.refl w.heap.size w) (Nat.le_refl _) (.cells #[.bool b, .int .u8 k, .slice pa m.length ca] 27)
  have a2 := Below.alloc a1 a1.size (.cells #[.bool false, .slice none 0 0] 24)
  have c0 : ((w.alloc (.cells #[.bool b, .int .u8 k, .slice pa m.length ca] 27)).alloc (.cells #[.bool false, .slice none 0 0] 24)).cell? ⟨w.heap.size, 0, none⟩ = some (.bool b) := by simp [go_sem]
  have c1 : ((w.alloc (.cells #[.bool b, .int .u8 k, .slice pa m.length ca] 27)).alloc (.cells #[.bool false, .slice none 0 0] 24)).cell? ⟨w.heap.size, 1, none⟩ = some (.int .u8 k) := by simp [go_sem]
  have c2 : ((w.alloc (.cells #[.bool b, .int .u8 k, .slice pa m.length ca] 27)).alloc (.cells #[.bool false, .slice none 0 0] 24)).cell? ⟨w.heap.size, 2, none⟩ = some (.slice pa m.length ca) := by simp [go_sem]
  have bR : Bx ((w.alloc (.cells #[.bool b, .int .u8 k, .slice pa m.length ca] 27)).alloc (.cells #[.bool false, .slice none 0 0] 24)) (w.heap.size + 1) (.bool false) (.slice none 0 0) 24 := by
    have := Bx.new (w.alloc (.cells #[.bool b, .int .u8 k, .slice pa m.length ca] 27)) (.bool false) (.slice none 0 0) 24
    simpa using this
  have hsz : ((w.alloc (.cells #[.bool b, .int .u8 k, .slice pa m.length ca] 27)).alloc (.cells #[.bool false, .slice none 0 0] 24)).heap.size = w.heap.size + 2 := by simp
  have hpa2 : 0 < m.length → ∃ b off, pa = some ⟨b, off, none⟩ ∧ b < w.heap.size ∧ ∀ i, i < m.length → w.cell? ⟨b, off + i, none⟩ = some (.int .u32 (el m i)) := fun h => by
    obtain ⟨bb, off, rfl, hc⟩ := hpa h
    exact ⟨bb, off, rfl, World.block_lt_of_cell? w _ (hc 0 h), hc⟩
  clear hpa
  go_enter Tryd.func43, Tryd.ntmps43
  go_wp2
  go_loopw [3, 4] (fun v i wr => ∃ (n : Nat) (l : List Int), i = .int .i64 n ∧ l.length ≤ 0 + n ∧ n ≤ 3 ∧ l = (m.take n).map w9 ∧ wr.ownsRow (w.heap.size + 2) 3 1 v l.length (l.map (Value.int .i64)) ∧ Below (w.heap.size + 2) ((w.alloc (.cells #[.bool b, .int .u8 k, .slice pa m.length ca] 27)).alloc (.cells #[.bool false, .slice none 0 0] 24)) wr)
    (fun _ i _ => 3 - (intOf i).toNat)
  case atStart => exact ⟨0, [], rfl, by simp, by omega, by simp, World.ownsRow_nil _ _ _ _, Below.refl _ _⟩
  case round =>
    obtain ⟨n, l, rfl, hl, hn, hd, hown, hnx⟩ := hrel
    replace hd := Lib.hid hd
    replace c0 := lkeepB hnx (show w.heap.size < w.heap.size + 2 by omega) c0
    replace c1 := lkeepB hnx (show w.heap.size < w.heap.size + 2 by omega) c1
    replace c2 := lkeepB hnx (show w.heap.size < w.heap.size + 2 by omega) c2
    have bW := bR.keepB hnx (by omega)
    have hB : Below w.heap.size w wr := a2.trans (hnx.mono (by omega))
    by_cases hlt : n < m.length ∧ n < 3
    · obtain ⟨bb, off, rfl, hbb, hc⟩ := hpa2 (by omega)
      have hcn := lkeep hB (hc n hlt.1)
      have hr := hmb _ (el_mem hlt.1)
      obtain ⟨x, hx⟩ : ∃ x, el m n = x := ⟨_, rfl⟩
      rw [hx] at hcn hr
      have e2 : IntKind.i64.wrap (x % 1000000000) = x % 1000000000 := IntWalk.i64_in _ (by omega)
      have hlt1 := hlt.1
      have hlt2 := hlt.2
      replace hx := Lib.hid hx
      clear hc hmb bW bR a1 a2
      go_wp2_with (at_builtin; refine wpList_append_own _ rfl _ _ 22 rfl (w.heap.size + 2) 3 i0 (.int .i64 0) 1 8 Tryd.underlying22 hi hz0 hz1 hz2 rfl (by decide) _ _ _ rfl (hown.alloc _) ⟨wr.heap.size, 0, none⟩ 1 1 [.int .i64 (x % 1000000000)] rfl rfl (one_at _ _ _) (one_cell _ _) (by unfold maxLen; omega) (by omega) (by have := hnx.size; simp at this ⊢; omega) ?_)
      intro v' w2 hown' hgrow _
      have hb := (hnx.alloc (by have := hnx.size; simp at this; omega) (.cells #[.int .i64 (x % 1000000000)] 3)).grown hgrow (by have := hnx.size; simp at this ⊢; omega) (fun k hk => (hown.lt k hk).1)
      clear hown hgrow hnx
      go_wp2
      go_roundw
      case rel =>
        exact ⟨n + 1, l ++ [x % 1000000000], by simp, by simp; omega, by omega, by rw [map_take_succ m n hlt1, hd.out, hx.out]; first | done | rw [List.append_assoc], by rw [List.length_append, List.map_append]; exact hown', hb⟩
      case measure => simp [intOf]; omega
    · have hls := Ls.own hown
      have hdl : l = drShortL k m := by rw [hd.out]; unfold drShortL; rw [take_end (m := m) (n := n) (N := 3) (by omega) hn]
      have hdL : Dg l := by rw [hdl]; exact hDg
      have HD := Lib.hid hdl
      clear hown hmb hpa2 hd hdl
      rcases (by omega : m.length ≤ n ∨ (n < m.length ∧ 3 ≤ n)) with h | ⟨h, h'⟩
      all_goals
        go_wp2_with fail
        go_at_call 63
        refine (made_any b _ l wr hls hdL (by omega)).mono ?_
        rintro e w3 ⟨⟨p, pv, nv, cv, rfl, L⟩, hb⟩
        replace bW := bW.keep hb
        have hB3 := hB.trans (hb.mono hB.size)
        have r0 := bW.c0
        have r1 := bW.c1
        have z0 := bW.f 0
        have z1 := bW.f 1
        have lR := bW.lt
        have hL := Lib.hid (L.put bW p pv nv cv)
        clear hb hls L hB a1 a2 bR c0 c1 c2
        go_wp2
        refine bodyPost_ret (v := .agg #[.bool p, .slice pv nv cv]) (by simp [results, Tryd.results43, go_sem, *]) rfl ⟨⟨_, _, _, _, rfl, by unfold drShortZ; rw [← HD.out]; exact hL.out⟩, by (repeat (first | with_reducible exact Below.refl _ _ | with_reducible assumption | refine Below.alloc ?_ (by (try simp); try omega) _ | refine Below.setCell ?_ (by (try simp); try omega) _ | refine below_drewN ?_ _ | refine Below.drew ?_ | (with_reducible refine Below.trans ?_ (Below.mono (by assumption) (by (try simp); try omega)))))⟩
end Go.Proofs.YtoppdbgodceaiaaDoor
