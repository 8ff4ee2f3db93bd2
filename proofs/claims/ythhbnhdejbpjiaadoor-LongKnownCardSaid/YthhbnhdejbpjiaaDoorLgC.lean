/-
  Rows of digits that a call has made; walks of package long: plus, minus.
-/
import Derived.Test.YthhbnhdejbpjiaaDoorLgB
import Derived.Test.YthhbnhdejbpjiaaDoorLgN
import Derived.Laws.CopyOwn
namespace Go.Proofs.YthhbnhdejbpjiaaDoor
open Go.RowKit

/-- Block g is a row of the numbers l. -/
def Rw (w : World) (g : Nat) (l : List Int) : Prop := w.heap[g]? = some (.cells (l.map (Value.int .i64)).toArray 3 (0, 0))
theorem Rw.cell {w : World} {g : Nat} {l : List Int} (h : Rw w g l) {i : Nat} (hi : i < l.length) : w.cell? ⟨g, i, none⟩ = some (.int .i64 (el l i)) := by
  rw [cell_of_row w g i _ 3 (0, 0) h]
  simpa using el_map .i64 hi
theorem Rw.frz {w : World} {g : Nat} {l : List Int} (h : Rw w g l) (i : Nat) : w.frozen? ⟨g, i, none⟩ = false := frozen_of_row w g i _ 3 h
theorem Rw.stored {w : World} {g : Nat} {l : List Int} (h : Rw w g l) (i : Nat) (x : Int) : Rw (w.setCell ⟨g, i, none⟩ (.int .i64 x)) g (l.set i x) := by
  unfold Rw at *
  rw [heap_setCell_same w g i _ 3 _ h, List.map_set]
  simp
theorem Rw.drew {w : World} {g : Nat} {l : List Int} (h : Rw w g l) (m : Nat) : Rw (w.drewN m) g l := h
theorem Rw.kept {w w' : World} {g : Nat} {l : List Int} (h : Rw w g l) {B : Nat} (hb : Below B w w') (hg : g < B) : Rw w' g l := by
  unfold Rw at *
  rw [hb.block g hg]; exact h
theorem Rw.lt {w : World} {g : Nat} {l : List Int} (h : Rw w g l) : g < w.heap.size := (Array.getElem?_eq_some_iff.1 h).1
theorem Rw.own {w : World} {base g n : Nat} {l : List Int} (h : w.ownsRow base 3 1 (.slice (some ⟨g, 0, none⟩) n n) n (l.map (Value.int .i64))) : Rw w g l := by
  rcases h.2 with ⟨h', _⟩ | ⟨g', cap', cur, h', _, hg, _, _, hs, htake⟩
  · simp at h'
  · simp only [Value.slice.injEq, Option.some.injEq, Addr.mk.injEq, and_true, true_and] at h'
    obtain ⟨rfl, rfl⟩ := h'
    unfold Rw
    rw [hg, ← htake, List.take_of_length_le (by rw [Array.length_toList]; omega)]
theorem Rw.ls {w : World} {g : Nat} {l : List Int} (h : Rw w g l) : Ls w (.slice (some ⟨g, 0, none⟩) l.length l.length) l :=
  ⟨_, _, rfl, ⟨Nat.le_refl _, fun h => by cases h⟩, fun _ => ⟨_, _, rfl, fun i hi => by rw [Nat.zero_add]; exact h.cell hi⟩⟩
theorem Rw.made {w w' : World} {g n : Nat} (h : w'.ownsRow w.heap.size 3 1 (.slice (some ⟨g, 0, none⟩) n n) n (madeCells #[.int .i64 0] n).toList) : Rw w' g (List.replicate n 0) := by
  rw [toList_madeCells_one, show List.replicate n (Value.int IntKind.i64 0) = (List.replicate n (0 : Int)).map (.int .i64) by simp] at h
  exact Rw.own h
/-- The numbers a, and zeros behind them. -/
theorem splice_zeros (a : List Int) (k : Nat) : splice (List.map (Value.int .i64) (List.replicate (a.length + k) 0)) 0 (a.map (Value.int .i64)) = (a ++ List.replicate k 0).map (Value.int .i64) := by
  unfold splice
  simp [List.drop_replicate]
theorem el_app_left {a b : List Int} {i : Nat} (h : i < a.length) : el (a ++ b) i = el a i := by
  simp [el, List.getD_eq_getElem?_getD, List.getElem?_append_left h]
theorem el_zeros (a : List Int) (k i : Nat) : el (a ++ List.replicate k 0) i = el a i := by
  rcases Nat.lt_or_ge i a.length with h | h
  · exact el_app_left h
  · rw [el_out h, el_eq, List.getD_eq_getElem?_getD, List.getElem?_append_right h, List.getElem?_replicate]; split <;> rfl
theorem vl_zeros (a : List Int) (k : Nat) : vl (a ++ List.replicate k 0) = vl a := by
  show val _ _ = _; rw [val_append, val_zeros]; simp [vl]
theorem vl_set (l : List Int) (k : Nat) (x : Int) (hk : k < l.length) : vl (l.set k x) = vl l + 1000000000 ^ k * (x - el l k) := val_set _ _ _ _ hk
/-- One step of a sum. -/
theorem plus_step {R B c P r d V A S : Int} (_hB : B = 1000000000) (hv : R + c * P = V + A) (n : Int) (hn : n = c + d + r) (S0 : S = A + P * d) :
    R + P * (n % B - r) + n / B * (P * B) = V + S := by
  have e := Int.mul_ediv_add_emod n B
  generalize n / B = x at *
  generalize n % B = y at *
  subst S0
  have : y = c + d + r - B * x := by omega
  subst this
  have hv' : R = V + A - c * P := by omega
  subst hv'
  grind

theorem src_pos {w w1 : World} {pa : Option Addr} {a : List Int} {X : List Value} (hX : X = a.map (Value.int .i64)) (h : 0 < a.length → ∃ b off, pa = some ⟨b, off, none⟩ ∧ ∀ i, i < a.length → w.cell? ⟨b, off + i, none⟩ = some (.int .i64 (el a i)))
    (hb : Below w.heap.size w w1) : 0 < X.length → ∃ ad, pa = some ad ∧ ∀ (j : Nat) (v : Value), X[j]? = some v → w1.cell? (ad.add j) = some v := by
  subst hX
  intro h0
  obtain ⟨b, off, rfl, hc⟩ := h (by simpa using h0)
  refine ⟨_, rfl, fun j v hv => ?_⟩
  have hj : j < a.length := by
    rcases Nat.lt_or_ge j a.length with h | h
    · exact h
    · rw [List.getElem?_eq_none (by simpa using h)] at hv; cases hv
  rw [el_map .i64 hj] at hv
  cases hv
  have := lkeep hb (hc j hj)
  unfold Addr.add
  split
  · rename_i h0; subst h0; exact this
  · exact this
theorem map_oneCell (a : List Int) : ∀ v ∈ a.map (Value.int .i64), v.oneCell' = true := by
  intro v hv; obtain ⟨_, _, rfl⟩ := List.mem_map.1 hv; rfl
theorem plus_end {a b R : List Int} {x : Int} (da : Dg a) (db : Dg b) (dR : Dg R) (hab : b.length ≤ a.length) (x0 : 0 ≤ x) (x1 : x ≤ 1) (h : vl R + x * 1000000000 ^ (a.length + 1) = vl a + vl (b.take (a.length + 1))) : vl R = vl a + vl b := by
  rw [vl_take_all (by omega)] at h
  have h1 := vl_lt da
  have h2 := vl_lt db
  have h3 := pow9_le hab
  have h4 := vl_nonneg dR
  have h5 := pow9 a.length
  rcases (by omega : x = 0 ∨ x = 1) with rfl | rfl
  · omega
  · rw [Int.pow_succ, Int.one_mul] at h; omega

set_option maxRecDepth 100000 in
set_option maxHeartbeats 1600000 in
theorem plus_ge (va vb : Value) (a b : List Int) (w : World) (ha : Ls w va a) (hb : Ls w vb b) (da : Dg a) (db : Dg b) (la : a.length ≤ 1000) (hab : b.length ≤ a.length) :
    Calls Tryd.prog 55 #[va, vb] w fun e w' => ∃ v, e = .returned v ∧ Ls w' v (dg (vl a + vl b)) ∧ Below w.heap.size w w' := by
  obtain ⟨i0, hi, hz0, hz1, hz2⟩ := info_parts Tryd.infoInt
  obtain ⟨pa, ca, rfl, ⟨hca', hna⟩, hpa⟩ := ha
  obtain ⟨pb, cb, rfl, ⟨hcb', hnb⟩, hpb⟩ := hb
  obtain ⟨X, hX⟩ : ∃ X, X = a.map (Value.int .i64) := ⟨_, rfl⟩
  have hXl : X.length = a.length := by rw [hX]; simp
  have hXc : ∀ v ∈ X, v.oneCell' = true := by rw [hX]; exact map_oneCell a
  have hXm : X.length = Nat.min a.length (a.length + 1) := by rw [hXl]; exact (Nat.min_eq_left (by omega)).symm
  have hXp := fun w1 => src_pos (w1 := w1) hX hpa
  obtain ⟨Z, hZ⟩ : ∃ Z, Z = List.map (Value.int .i64) (List.replicate (a.length + 1) 0) := ⟨_, rfl⟩
  have hZl : 0 + X.length ≤ Z.length := by rw [hZ, hXl]; simp
  have hsp : splice Z 0 X = (a ++ [0]).map (Value.int .i64) := by rw [hZ, hX]; exact splice_zeros a 1
  have hmade : ∀ w1 : World, Rw w1 w.heap.size (List.replicate (a.length + 1) 0) → w1.heap[w.heap.size]? = some (.cells Z.toArray 3 (0, 0)) := fun w1 h => by rw [hZ]; exact h
  have HS := Lib.hid hsp
  clear hX hZ hsp
  have hd0 : ∀ j, 0 ≤ j → el (a ++ [0]) j = el a j := fun j _ => el_zeros a 1 j
  have hv0 : Hid (vl (a ++ [0]) + 0 * 1000000000 ^ 0 = vl a + vl (b.take 0)) := Lib.hid (by rw [show a ++ [0] = a ++ List.replicate 1 0 from rfl, vl_zeros]; simp [vl, val])
  have hdg0 : Dg (a ++ [0]) := da.append (Dig.one (by omega) (by omega))
  have hl0 : (a ++ [0]).length = a.length + 1 := by simp
  go_enter Tryd.func55, Tryd.ntmps55
  go_wp2_with (refine wpList_make_full _ rfl (.tmp 17) (.tmp 17) 65 rfl w.heap.size 3 i0 (.int .i64 0) 1 Tryd.underlying65 hi hz0 hz1 .i64 .i64 ((a.length : Int) + 1) ((a.length : Int) + 1) (a.length + 1) rfl rfl (by omega) (by omega) (by rw [hz2]; omega) (by unfold maxLen; omega) (Nat.le_refl _) ?_)
  intro w1 hown hgrow
  have hr := hmade _ (Rw.made hown)
  have hnx : Below w.heap.size w w1 := (Below.refl _ _).grown hgrow (Nat.le_refl _) (fun k hk => by cases hk)
  have hXq := hXp w1 hnx
  clear hgrow hown hmade hXp
  go_wp2_with (refine wpList_copy_splice rfl (.tmp 19) (.tmp 20) 65 65 rfl 3 Tryd.underlying65 (by kernel_rfl) (some ⟨w.heap.size, 0, none⟩) pa (a.length + 1) (a.length + 1) a.length ca rfl rfl w.heap.size 0 Z 3 hr X hXm (fun h => ⟨rfl, hXq h⟩) hZl hXc w.heap.size w hnx (Nat.le_refl _) ?_; intro w2 hr2 hb2)
  have hr3 : Rw w2 w.heap.size (a ++ [0]) := by
    have := hr2.out
    rw [HS.out] at this; exact this
  generalize a ++ [0] = R0 at *
  clear hr2 hr hnx hXq HS hXm hXc hXl hZl
  go_loopw [6, 24] (fun c i wr => ∃ (k : Nat) (x : Int) (R : List Int), c = .int .i64 x ∧ i = .int .i64 k ∧ k ≤ a.length + 1 ∧ 0 ≤ x ∧ x ≤ 1 ∧ R.length = a.length + 1 ∧ Dg R ∧ Hid (vl R + x * 1000000000 ^ k = vl a + vl (b.take k)) ∧ (∀ j, k ≤ j → el R j = el a j) ∧ Rw wr w.heap.size R ∧ Below w.heap.size w wr)
    (fun _ i _ => a.length + 1 - (intOf i).toNat)
  case atStart => exact ⟨0, 0, R0, rfl, rfl, by omega, by omega, by omega, hl0, hdg0, hv0, hd0, hr3, hb2⟩
  case round =>
    clear hr3 hb2 hv0 hd0 hdg0 hl0
    obtain ⟨k, x, R, rfl, rfl, hk, x0, x1, hl, hd, hv, hz, hr, hnx⟩ := hrel
    have hls : Ls wr (.slice (some ⟨w.heap.size, 0, none⟩) (a.length + 1) (a.length + 1)) R := by rw [← hl]; exact hr.ls
    have hc := trimmed_any _ R wr hls hd (by omega)
    by_cases hka : k < a.length + 1
    · have hcr : wr.cell? ⟨w.heap.size, k, none⟩ = some (.int .i64 (el R k)) := hr.cell (by omega)
      have hfr := hr.frz k
      have hdr := hd.el (by omega) k
      obtain ⟨r, er⟩ : ∃ r, el R k = r := ⟨_, rfl⟩
      rw [er] at hcr hdr
      have er' := Lib.hid er
      have hput : ∀ y n : Int, n = x + y + r → y = el b k → Hid (vl (R.set k (n % 1000000000)) + n / 1000000000 * 1000000000 ^ (k + 1) = vl a + vl (b.take (k + 1))) := fun y n hn hy => Lib.hid (by
        subst hy
        rw [vl_set _ _ _ (by omega), er, Int.pow_succ]
        exact plus_step rfl hv.out n hn (val_take_succ_el b k))
      have hz' : ∀ (y : Int) (j : Nat), k + 1 ≤ j → el (R.set k y) j = el a j := fun y j hj => by rw [el_set_ne _ _ _ _ (by omega)]; exact hz j (by omega)
      clear er
      by_cases hkb : k < b.length
      · obtain ⟨bb, ob, rfl, hcb⟩ := hpb (by omega)
        have hcy := lkeep hnx (hcb k hkb)
        have hdy := db.el (by omega) k
        obtain ⟨y, ey⟩ : ∃ y, el b k = y := ⟨_, rfl⟩
        rw [ey] at hcy hdy
        have ho := fun n hn => hput y n hn ey.symm
        clear hput hcb ey hv hz hc hls
        go_wp2
        go_roundw
        case rel =>
          refine ⟨k + 1, (x + y + r) / 1000000000, R.set k ((x + y + r) % 1000000000), rfl, by simp, by omega, by omega, by omega, by simpa using hl, hd.set _ (by omega) (by omega), ho _ rfl, hz' _, hr.stored k _, by (repeat (first | with_reducible exact Below.refl _ _ | with_reducible assumption | refine Below.alloc ?_ (by (try simp); try omega) _ | refine Below.setCell ?_ (by (try simp); try omega) _ | refine below_drewN ?_ _ | refine Below.drew ?_ | (with_reducible refine Below.trans ?_ (Below.mono (by assumption) (by (try simp); try omega)))))⟩
        case measure => simp [intOf]; omega
      · have ey : 0 = el b k := (el_out (by omega)).symm
        have ho := fun n hn => hput 0 n hn ey
        by_cases hx : x = 0
        · subst hx
          rw [Int.zero_mul, Int.add_zero, vl_take_all (by omega)] at hv
          rw [hv.out] at hc
          clear hput ey ho hz hz' hd hls hv
          go_wp2_with (go_at_call 57; refine hc.mono ?_; rintro e w3 ⟨v, rfl, hs, rfl⟩)
          go_ret
          exact ⟨v, rfl, hs, hnx⟩
        · have hx1 : x = 1 := by omega
          subst hx1
          clear hput ey hv hz hc hls
          go_wp2
          go_roundw
          case rel =>
            refine ⟨k + 1, (1 + 0 + r) / 1000000000, R.set k ((1 + 0 + r) % 1000000000), by simp, by simp, by omega, by omega, by omega, by simpa using hl, hd.set _ (by omega) (by omega), ho _ rfl, hz' _, hr.stored k _, by (repeat (first | with_reducible exact Below.refl _ _ | with_reducible assumption | refine Below.alloc ?_ (by (try simp); try omega) _ | refine Below.setCell ?_ (by (try simp); try omega) _ | refine below_drewN ?_ _ | refine Below.drew ?_ | (with_reducible refine Below.trans ?_ (Below.mono (by assumption) (by (try simp); try omega)))))⟩
          case measure => simp [intOf]; omega
    · have : k = a.length + 1 := by omega
      subst this
      rw [plus_end da db hd hab x0 x1 hv.out] at hc
      clear hv hz hd hls
      go_wp2_with (go_at_call 57; refine hc.mono ?_; rintro e w3 ⟨v, rfl, hs, rfl⟩)
      go_ret
      exact ⟨v, rfl, hs, hnx⟩
set_option maxRecDepth 100000 in
set_option maxHeartbeats 1600000 in
theorem plus_lt (va vb : Value) (a b : List Int) (w : World) (ha : Ls w va a) (hb : Ls w vb b) (da : Dg a) (db : Dg b) (la : a.length ≤ 1000) (hab : b.length < a.length) :
    Calls Tryd.prog 55 #[vb, va] w fun e w' => ∃ v, e = .returned v ∧ Ls w' v (dg (vl a + vl b)) ∧ Below w.heap.size w w' := by
  obtain ⟨i0, hi, hz0, hz1, hz2⟩ := info_parts Tryd.infoInt
  obtain ⟨pa, ca, rfl, ⟨hca', hna⟩, hpa⟩ := ha
  obtain ⟨pb, cb, rfl, ⟨hcb', hnb⟩, hpb⟩ := hb
  obtain ⟨X, hX⟩ : ∃ X, X = a.map (Value.int .i64) := ⟨_, rfl⟩
  have hXl : X.length = a.length := by rw [hX]; simp
  have hXc : ∀ v ∈ X, v.oneCell' = true := by rw [hX]; exact map_oneCell a
  have hXm : X.length = Nat.min a.length (a.length + 1) := by rw [hXl]; exact (Nat.min_eq_left (by omega)).symm
  have hXp := fun w1 => src_pos (w1 := w1) hX hpa
  obtain ⟨Z, hZ⟩ : ∃ Z, Z = List.map (Value.int .i64) (List.replicate (a.length + 1) 0) := ⟨_, rfl⟩
  have hZl : 0 + X.length ≤ Z.length := by rw [hZ, hXl]; simp
  have hsp : splice Z 0 X = (a ++ [0]).map (Value.int .i64) := by rw [hZ, hX]; exact splice_zeros a 1
  have hmade : ∀ w1 : World, Rw w1 w.heap.size (List.replicate (a.length + 1) 0) → w1.heap[w.heap.size]? = some (.cells Z.toArray 3 (0, 0)) := fun w1 h => by rw [hZ]; exact h
  have HS := Lib.hid hsp
  clear hX hZ hsp
  have hd0 : ∀ j, 0 ≤ j → el (a ++ [0]) j = el a j := fun j _ => el_zeros a 1 j
  have hv0 : Hid (vl (a ++ [0]) + 0 * 1000000000 ^ 0 = vl a + vl (b.take 0)) := Lib.hid (by rw [show a ++ [0] = a ++ List.replicate 1 0 from rfl, vl_zeros]; simp [vl, val])
  have hdg0 : Dg (a ++ [0]) := da.append (Dig.one (by omega) (by omega))
  have hl0 : (a ++ [0]).length = a.length + 1 := by simp
  go_enter Tryd.func55, Tryd.ntmps55
  go_wp2_with (refine wpList_make_full _ rfl (.tmp 17) (.tmp 17) 65 rfl w.heap.size 3 i0 (.int .i64 0) 1 Tryd.underlying65 hi hz0 hz1 .i64 .i64 ((a.length : Int) + 1) ((a.length : Int) + 1) (a.length + 1) rfl rfl (by omega) (by omega) (by rw [hz2]; omega) (by unfold maxLen; omega) (Nat.le_refl _) ?_)
  intro w1 hown hgrow
  have hr := hmade _ (Rw.made hown)
  have hnx : Below w.heap.size w w1 := (Below.refl _ _).grown hgrow (Nat.le_refl _) (fun k hk => by cases hk)
  have hXq := hXp w1 hnx
  clear hgrow hown hmade hXp
  go_wp2_with (refine wpList_copy_splice rfl (.tmp 19) (.tmp 20) 65 65 rfl 3 Tryd.underlying65 (by kernel_rfl) (some ⟨w.heap.size, 0, none⟩) pa (a.length + 1) (a.length + 1) a.length ca rfl rfl w.heap.size 0 Z 3 hr X hXm (fun h => ⟨rfl, hXq h⟩) hZl hXc w.heap.size w hnx (Nat.le_refl _) ?_; intro w2 hr2 hb2)
  have hr3 : Rw w2 w.heap.size (a ++ [0]) := by
    have := hr2.out
    rw [HS.out] at this; exact this
  generalize a ++ [0] = R0 at *
  clear hr2 hr hnx hXq HS hXm hXc hXl hZl
  go_loopw [6, 24] (fun c i wr => ∃ (k : Nat) (x : Int) (R : List Int), c = .int .i64 x ∧ i = .int .i64 k ∧ k ≤ a.length + 1 ∧ 0 ≤ x ∧ x ≤ 1 ∧ R.length = a.length + 1 ∧ Dg R ∧ Hid (vl R + x * 1000000000 ^ k = vl a + vl (b.take k)) ∧ (∀ j, k ≤ j → el R j = el a j) ∧ Rw wr w.heap.size R ∧ Below w.heap.size w wr)
    (fun _ i _ => a.length + 1 - (intOf i).toNat)
  case atStart => exact ⟨0, 0, R0, rfl, rfl, by omega, by omega, by omega, hl0, hdg0, hv0, hd0, hr3, hb2⟩
  case round =>
    clear hr3 hb2 hv0 hd0 hdg0 hl0
    obtain ⟨k, x, R, rfl, rfl, hk, x0, x1, hl, hd, hv, hz, hr, hnx⟩ := hrel
    have hls : Ls wr (.slice (some ⟨w.heap.size, 0, none⟩) (a.length + 1) (a.length + 1)) R := by rw [← hl]; exact hr.ls
    have hc := trimmed_any _ R wr hls hd (by omega)
    by_cases hka : k < a.length + 1
    · have hcr : wr.cell? ⟨w.heap.size, k, none⟩ = some (.int .i64 (el R k)) := hr.cell (by omega)
      have hfr := hr.frz k
      have hdr := hd.el (by omega) k
      obtain ⟨r, er⟩ : ∃ r, el R k = r := ⟨_, rfl⟩
      rw [er] at hcr hdr
      have er' := Lib.hid er
      have hput : ∀ y n : Int, n = x + y + r → y = el b k → Hid (vl (R.set k (n % 1000000000)) + n / 1000000000 * 1000000000 ^ (k + 1) = vl a + vl (b.take (k + 1))) := fun y n hn hy => Lib.hid (by
        subst hy
        rw [vl_set _ _ _ (by omega), er, Int.pow_succ]
        exact plus_step rfl hv.out n hn (val_take_succ_el b k))
      have hz' : ∀ (y : Int) (j : Nat), k + 1 ≤ j → el (R.set k y) j = el a j := fun y j hj => by rw [el_set_ne _ _ _ _ (by omega)]; exact hz j (by omega)
      clear er
      by_cases hkb : k < b.length
      · obtain ⟨bb, ob, rfl, hcb⟩ := hpb (by omega)
        have hcy := lkeep hnx (hcb k hkb)
        have hdy := db.el (by omega) k
        obtain ⟨y, ey⟩ : ∃ y, el b k = y := ⟨_, rfl⟩
        rw [ey] at hcy hdy
        have ho := fun n hn => hput y n hn ey.symm
        clear hput hcb ey hv hz hc hls
        go_wp2
        go_roundw
        case rel =>
          refine ⟨k + 1, (x + y + r) / 1000000000, R.set k ((x + y + r) % 1000000000), rfl, by simp, by omega, by omega, by omega, by simpa using hl, hd.set _ (by omega) (by omega), ho _ rfl, hz' _, hr.stored k _, by (repeat (first | with_reducible exact Below.refl _ _ | with_reducible assumption | refine Below.alloc ?_ (by (try simp); try omega) _ | refine Below.setCell ?_ (by (try simp); try omega) _ | refine below_drewN ?_ _ | refine Below.drew ?_ | (with_reducible refine Below.trans ?_ (Below.mono (by assumption) (by (try simp); try omega)))))⟩
        case measure => simp [intOf]; omega
      · have ey : 0 = el b k := (el_out (by omega)).symm
        have ho := fun n hn => hput 0 n hn ey
        by_cases hx : x = 0
        · subst hx
          rw [Int.zero_mul, Int.add_zero, vl_take_all (by omega)] at hv
          rw [hv.out] at hc
          clear hput ey ho hz hz' hd hls hv
          go_wp2_with (go_at_call 57; refine hc.mono ?_; rintro e w3 ⟨v, rfl, hs, rfl⟩)
          go_ret
          exact ⟨v, rfl, hs, hnx⟩
        · have hx1 : x = 1 := by omega
          subst hx1
          clear hput ey hv hz hc hls
          go_wp2
          go_roundw
          case rel =>
            refine ⟨k + 1, (1 + 0 + r) / 1000000000, R.set k ((1 + 0 + r) % 1000000000), by simp, by simp, by omega, by omega, by omega, by simpa using hl, hd.set _ (by omega) (by omega), ho _ rfl, hz' _, hr.stored k _, by (repeat (first | with_reducible exact Below.refl _ _ | with_reducible assumption | refine Below.alloc ?_ (by (try simp); try omega) _ | refine Below.setCell ?_ (by (try simp); try omega) _ | refine below_drewN ?_ _ | refine Below.drew ?_ | (with_reducible refine Below.trans ?_ (Below.mono (by assumption) (by (try simp); try omega)))))⟩
          case measure => simp [intOf]; omega
    · have : k = a.length + 1 := by omega
      subst this
      rw [plus_end da db hd (by omega) x0 x1 hv.out] at hc
      clear hv hz hd hls
      go_wp2_with (go_at_call 57; refine hc.mono ?_; rintro e w3 ⟨v, rfl, hs, rfl⟩)
      go_ret
      exact ⟨v, rfl, hs, hnx⟩
theorem plus_any (va vb : Value) (a b : List Int) (w : World) (ha : Ls w va a) (hb : Ls w vb b) (da : Dg a) (db : Dg b) (la : a.length ≤ 1000) (lb : b.length ≤ 1000) :
    Calls Tryd.prog 55 #[va, vb] w fun e w' => ∃ v, e = .returned v ∧ Ls w' v (dg (vl a + vl b)) ∧ Below w.heap.size w w' := by
  by_cases h : b.length ≤ a.length
  · exact plus_ge va vb a b w ha hb da db la h
  · have := plus_lt vb va b a w hb ha db da lb (by omega)
    rwa [Int.add_comm] at this
theorem plus_num (va vb : Value) (x y : Int) (w : World) (x0 : 0 ≤ x) (y0 : 0 ≤ y) (ha : Ls w va (dg x)) (hb : Ls w vb (dg y)) (la : (dg x).length ≤ 1000) (lb : (dg y).length ≤ 1000) :
    Calls Tryd.prog 55 #[va, vb] w fun e w' => ∃ v, e = .returned v ∧ Ls w' v (dg (x + y)) ∧ Below w.heap.size w w' := by
  have := plus_any va vb _ _ w ha hb (dg_dig x x0) (dg_dig y y0) la lb
  rwa [dg_val x x0, dg_val y y0] at this
end Go.Proofs.YthhbnhdejbpjiaaDoor
