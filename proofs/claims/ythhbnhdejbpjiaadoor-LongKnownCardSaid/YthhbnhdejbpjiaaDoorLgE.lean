/-
  Walks of package long: products and what divides by a digit.
-/
import Derived.Test.YthhbnhdejbpjiaaDoorLgC
namespace Go.Proofs.YthhbnhdejbpjiaaDoor
open Go.RowKit

set_option maxRecDepth 100000 in
set_option maxHeartbeats 1600000 in
theorem minus_any (va vb : Value) (a b : List Int) (w : World) (ha : Ls w va a) (hb : Ls w vb b) (da : Dg a) (db : Dg b) (la : a.length ≤ 1000) (hab : vl b ≤ vl a) (hlb : b.length ≤ a.length) :
    Calls Tryd.prog 56 #[va, vb] w fun e w' => ∃ v, e = .returned v ∧ Ls w' v (dg (vl a - vl b)) ∧ Below w.heap.size w w' := by
  obtain ⟨i0, hi, hz0, hz1, hz2⟩ := info_parts Tryd.infoInt
  obtain ⟨pa, ca, rfl, ⟨hca', hna⟩, hpa⟩ := ha
  obtain ⟨pb, cb, rfl, ⟨hcb', hnb⟩, hpb⟩ := hb
  obtain ⟨X, hX⟩ : ∃ X, X = a.map (Value.int .i64) := ⟨_, rfl⟩
  have hXl : X.length = a.length := by rw [hX]; simp
  have hXc : ∀ v ∈ X, v.oneCell' = true := by rw [hX]; exact map_oneCell a
  have hXm : X.length = Nat.min a.length a.length := by rw [hXl]; exact (Nat.min_self _).symm
  have hXp := fun w1 => src_pos (w1 := w1) hX hpa
  obtain ⟨Z, hZ⟩ : ∃ Z, Z = List.map (Value.int .i64) (List.replicate a.length 0) := ⟨_, rfl⟩
  have hZl : 0 + X.length ≤ Z.length := by rw [hZ, hXl]; simp
  have hsp : splice Z 0 X = a.map (Value.int .i64) := by rw [hZ, hX]; simpa using splice_zeros a 0
  have hmade : ∀ w1 : World, Rw w1 w.heap.size (List.replicate a.length 0) → w1.heap[w.heap.size]? = some (.cells Z.toArray 3 (0, 0)) := fun w1 h => by rw [hZ]; exact h
  have HS := Lib.hid hsp
  clear hX hZ hsp
  go_enter Tryd.func56, Tryd.ntmps56
  go_wp2_with (refine wpList_make_full _ rfl (.tmp 9) (.tmp 9) 65 rfl w.heap.size 3 i0 (.int .i64 0) 1 Tryd.underlying65 hi hz0 hz1 .i64 .i64 (a.length : Int) (a.length : Int) a.length rfl rfl (by omega) (by omega) (by rw [hz2]; omega) (by unfold maxLen; omega) (Nat.le_refl _) ?_)
  intro w1 hown hgrow
  have hr := hmade _ (Rw.made hown)
  have hnx : Below w.heap.size w w1 := (Below.refl _ _).grown hgrow (Nat.le_refl _) (fun k hk => by cases hk)
  have hXq := hXp w1 hnx
  clear hgrow hown hmade hXp
  go_wp2_with (refine wpList_copy_splice rfl (.tmp 11) (.tmp 12) 65 65 rfl 3 Tryd.underlying65 (by kernel_rfl) (some ⟨w.heap.size, 0, none⟩) pa a.length a.length a.length ca rfl rfl w.heap.size 0 Z 3 hr X hXm (fun h => ⟨rfl, hXq h⟩) hZl hXc w.heap.size w hnx (Nat.le_refl _) ?_; intro w2 hr2 hb2)
  have hr3 : Rw w2 w.heap.size a := by
    have := hr2.out
    rw [HS.out] at this; exact this
  clear hr2 hr hnx hXq HS hXm hXc hXl hZl
  go_loopw [6, 16] (fun c i wr => ∃ (k : Nat) (x : Int) (R : List Int), c = .int .i64 x ∧ i = .int .i64 k ∧ k ≤ a.length ∧ 0 ≤ x ∧ x ≤ 1 ∧ R.length = a.length ∧ Dg R ∧ Hid (vl R = vl a - vl (b.take k) + x * 1000000000 ^ k) ∧ (∀ j, k ≤ j → el R j = el a j) ∧ Rw wr w.heap.size R ∧ Below w.heap.size w wr)
    (fun _ i _ => a.length - (intOf i).toNat)
  case atStart => exact ⟨0, 0, a, rfl, rfl, by omega, by omega, by omega, rfl, da, Lib.hid (by simp [vl, val]), fun _ _ => rfl, hr3, hb2⟩
  case round =>
    clear hr3 hb2
    obtain ⟨k, x, R, rfl, rfl, hk, x0, x1, hl, hd, hv, hz, hr, hnx⟩ := hrel
    have hls : Ls wr (.slice (some ⟨w.heap.size, 0, none⟩) a.length a.length) R := by rw [← hl]; exact hr.ls
    have hc := trimmed_any _ R wr hls hd (by omega)
    by_cases hka : k < a.length
    · have hcr : wr.cell? ⟨w.heap.size, k, none⟩ = some (.int .i64 (el R k)) := hr.cell (by omega)
      have hfr := hr.frz k
      have hdr := hd.el (by omega) k
      obtain ⟨r, er⟩ : ∃ r, el R k = r := ⟨_, rfl⟩
      rw [er] at hcr hdr
      have hput : ∀ y n t : Int, n = r - x - y + 1000000000 * t → y = el b k → Hid (vl (R.set k n) = vl a - vl (b.take (k + 1)) + t * 1000000000 ^ (k + 1)) := fun y n t hn hy => Lib.hid (by
        subst hy
        rw [vl_set _ _ _ (by omega), er, Int.pow_succ, val_take_succ_el, hv.out, hn]
        grind)
      have hz' : ∀ (y : Int) (j : Nat), k + 1 ≤ j → el (R.set k y) j = el a j := fun y j hj => by rw [el_set_ne _ _ _ _ (by omega)]; exact hz j (by omega)
      clear er
      by_cases hkb : k < b.length
      · obtain ⟨bb, ob, rfl, hcb⟩ := hpb (by omega)
        have hcy := lkeep hnx (hcb k hkb)
        have hdy := db.el (by omega) k
        obtain ⟨y, ey⟩ : ∃ y, el b k = y := ⟨_, rfl⟩
        rw [ey] at hcy hdy
        have ho := fun n t hn => hput y n t hn ey.symm
        clear hput hcb ey hv hz hc hls
        by_cases hn : r - (x + y) < 0
        · have hr2 := hr.stored k (r - (x + y))
          have hc2 := hr2.cell (i := k) (by simp; omega)
          have hf2 := hr2.frz k
          rw [el_set_eq _ _ _ (by omega)] at hc2
          have hr4 := hr2.stored k (r - (x + y) + 1000000000)
          rw [List.set_set] at hr4
          go_wp2
          go_roundw
          case rel =>
            refine ⟨k + 1, 1, R.set k (r - (x + y) + 1000000000), rfl, by simp, by omega, by omega, by omega, by simpa using hl, hd.set _ (by omega) (by omega), ho _ 1 (by omega), hz' _, hr4, by (repeat (first | with_reducible exact Below.refl _ _ | with_reducible assumption | refine Below.alloc ?_ (by (try simp); try omega) _ | refine Below.setCell ?_ (by (try simp); try omega) _ | refine below_drewN ?_ _ | refine Below.drew ?_ | (with_reducible refine Below.trans ?_ (Below.mono (by assumption) (by (try simp); try omega)))))⟩
          case measure => simp [intOf]; omega
        · have hr2 := hr.stored k (r - (x + y))
          have hc2 := hr2.cell (i := k) (by simp; omega)
          have hf2 := hr2.frz k
          rw [el_set_eq _ _ _ (by omega)] at hc2
          go_wp2
          go_roundw
          case rel =>
            refine ⟨k + 1, 0, R.set k (r - (x + y)), rfl, by simp, by omega, by omega, by omega, by simpa using hl, hd.set _ (by omega) (by omega), ho _ 0 (by omega), hz' _, hr2, by (repeat (first | with_reducible exact Below.refl _ _ | with_reducible assumption | refine Below.alloc ?_ (by (try simp); try omega) _ | refine Below.setCell ?_ (by (try simp); try omega) _ | refine below_drewN ?_ _ | refine Below.drew ?_ | (with_reducible refine Below.trans ?_ (Below.mono (by assumption) (by (try simp); try omega)))))⟩
          case measure => simp [intOf]; omega
      · have ey : 0 = el b k := (el_out (by omega)).symm
        have ho := fun n t hn => hput 0 n t hn ey
        by_cases hx : x = 0
        · subst hx
          rw [Int.zero_mul, Int.add_zero, vl_take_all (by omega)] at hv
          rw [hv.out] at hc
          clear hput ey ho hz hz' hd hls hv
          go_wp2_with (go_at_call 57; refine hc.mono ?_; rintro e w3 ⟨v, rfl, hs, rfl⟩)
          go_ret
          exact ⟨v, rfl, hs, hnx⟩
        · have hx1 : x = 1 := by omega
          subst hx1
          clear hput ey hv hz hc hls
          by_cases hn : r - 1 < 0
          · have hr2 := hr.stored k (r - 1)
            have hc2 := hr2.cell (i := k) (by simp; omega)
            have hf2 := hr2.frz k
            rw [el_set_eq _ _ _ (by omega)] at hc2
            have hr4 := hr2.stored k (r - 1 + 1000000000)
            rw [List.set_set] at hr4
            go_wp2
            go_roundw
            case rel =>
              refine ⟨k + 1, 1, R.set k (r - 1 + 1000000000), rfl, by simp, by omega, by omega, by omega, by simpa using hl, hd.set _ (by omega) (by omega), ho _ 1 (by omega), hz' _, hr4, by (repeat (first | with_reducible exact Below.refl _ _ | with_reducible assumption | refine Below.alloc ?_ (by (try simp); try omega) _ | refine Below.setCell ?_ (by (try simp); try omega) _ | refine below_drewN ?_ _ | refine Below.drew ?_ | (with_reducible refine Below.trans ?_ (Below.mono (by assumption) (by (try simp); try omega)))))⟩
            case measure => simp [intOf]; omega
          · have hr2 := hr.stored k (r - 1)
            have hc2 := hr2.cell (i := k) (by simp; omega)
            have hf2 := hr2.frz k
            rw [el_set_eq _ _ _ (by omega)] at hc2
            go_wp2
            go_roundw
            case rel =>
              refine ⟨k + 1, 0, R.set k (r - 1), rfl, by simp, by omega, by omega, by omega, by simpa using hl, hd.set _ (by omega) (by omega), ho _ 0 (by omega), hz' _, hr2, by (repeat (first | with_reducible exact Below.refl _ _ | with_reducible assumption | refine Below.alloc ?_ (by (try simp); try omega) _ | refine Below.setCell ?_ (by (try simp); try omega) _ | refine below_drewN ?_ _ | refine Below.drew ?_ | (with_reducible refine Below.trans ?_ (Below.mono (by assumption) (by (try simp); try omega)))))⟩
            case measure => simp [intOf]; omega
    · have : k = a.length := by omega
      subst this
      have hend : vl R = vl a - vl b := by
        have e := hv.out
        rw [vl_take_all (by omega)] at e
        have h1 := vl_lt hd
        rw [hl] at h1
        rcases (by omega : x = 0 ∨ x = 1) with rfl | rfl
        · omega
        · rw [Int.one_mul] at e; omega
      rw [hend] at hc
      clear hv hz hd hls hend
      go_wp2_with (go_at_call 57; refine hc.mono ?_; rintro e w3 ⟨v, rfl, hs, rfl⟩)
      go_ret
      exact ⟨v, rfl, hs, hnx⟩
theorem minus_num (va vb : Value) (x y : Int) (w : World) (y0 : 0 ≤ y) (xy : y ≤ x) (ha : Ls w va (dg x)) (hb : Ls w vb (dg y)) (la : (dg x).length ≤ 1000) :
    Calls Tryd.prog 56 #[va, vb] w fun e w' => ∃ v, e = .returned v ∧ Ls w' v (dg (x - y)) ∧ Below w.heap.size w w' := by
  have := minus_any va vb _ _ w ha hb (dg_dig x (by omega)) (dg_dig y y0) la (by rw [dg_val x (by omega), dg_val y y0]; exact xy) (dg_len_mono y0 xy)
  rwa [dg_val x (by omega), dg_val y y0] at this

theorem take_set_succ (l : List Int) (k : Nat) (x : Int) (hk : k < l.length) : (l.set k x).take (k + 1) = l.take k ++ [x] := by
  rw [List.take_add_one, List.take_set_of_le (Nat.le_refl k)]
  simp [hk]
theorem times_place {R P S s c T : Int} (hP : R + P * S = T) (col : Int) (h : s + 1000000000 * c = S + col) : R + P * (s % 1000000000) + P * 1000000000 * (s / 1000000000 + c) = T + P * col := by
  have e := Int.mul_ediv_add_emod s 1000000000
  generalize s / 1000000000 = q at *
  generalize s % 1000000000 = r at *
  have : r = S + col - 1000000000 * c - 1000000000 * q := by omega
  subst this
  have hR : R = T - P * S := by omega
  subst hR
  grind
set_option maxRecDepth 100000 in
set_option maxHeartbeats 4000000 in
theorem times_any (va vb : Value) (a b : List Int) (w : World) (ha : Ls w va a) (hb : Ls w vb b) (da : Dg a) (db : Dg b) (la : a.length ≤ 1000) (lb : b.length ≤ 1000) :
    Calls Tryd.prog 41 #[va, vb] w fun e w' => ∃ v, e = .returned v ∧ Ls w' v (dg (vl a * vl b)) ∧ Below w.heap.size w w' := by
  obtain ⟨i0, hi, hz0, hz1, hz2⟩ := info_parts Tryd.infoInt
  obtain ⟨pa, ca, rfl, ⟨hca', hna⟩, hqa⟩ := ha
  obtain ⟨pb, cb, rfl, ⟨hcb', hnb⟩, hqb⟩ := hb
  go_enter Tryd.func41, Tryd.ntmps41
  go_wp2_with (refine wpList_make_full _ rfl (.tmp 14) (.tmp 14) 65 rfl w.heap.size 3 i0 (.int .i64 0) 1 Tryd.underlying65 hi hz0 hz1 .i64 .i64 ((a.length : Int) + (b.length : Int)) ((a.length : Int) + (b.length : Int)) (a.length + b.length) rfl rfl (by omega) (by omega) (by rw [hz2]; omega) (by unfold maxLen; omega) (Nat.le_refl _) ?_)
  intro w1 hown hgrow
  have hr := Rw.made hown
  have hnx : Below w.heap.size w w1 := (Below.refl _ _).grown hgrow (Nat.le_refl _) (fun k hk => by cases hk)
  clear hgrow hown
  go_wp2
  go_loopw [6, 18] (fun s i wr => ∃ (p : Nat) (S : Int) (R : List Int), s = .int .i64 S ∧ i = .int .i64 p ∧ p ≤ a.length + b.length ∧ 0 ≤ S ∧ S ≤ 10000000000000 ∧ R.length = a.length + b.length ∧ Dg R ∧ Hid (vl (R.take p) + 1000000000 ^ p * S = cs a b p) ∧ Rw wr w.heap.size R ∧ Below w.heap.size w wr)
    (fun _ i _ => a.length + b.length - (intOf i).toNat)
  case atStart => exact ⟨0, 0, _, rfl, rfl, by omega, by omega, by omega, by simp, Dig.zeros (by omega) _, Lib.hid (by simp [vl, val, cs]), hr, hnx⟩
  case round =>
    clear hr hnx
    obtain ⟨p, S, R, rfl, rfl, hp, S0, S1, hl, hd, hv, hr, hnx⟩ := hrel
    by_cases hpl : p < a.length + b.length
    · obtain ⟨j0, hj0⟩ : ∃ j0 : Nat, (j0 : Int) = if 0 < (p : Int) - (b.length : Int) + 1 then (p : Int) - (b.length : Int) + 1 else 0 := ⟨(if 0 < (p : Int) - (b.length : Int) + 1 then (p : Int) - (b.length : Int) + 1 else 0).toNat, by split <;> omega⟩
      have hpl' : (p : Int) < (a.length : Int) + (b.length : Int) := by omega
      have bj : (j0 = 0 ∨ j0 + b.length = p + 1) ∧ p + 1 ≤ j0 + b.length ∧ j0 ≤ p + 1 ∧ j0 ≤ a.length := by split at hj0 <;> omega
      have hc0 : Hid (S + 1000000000 * 0 = S + col (a.take j0) b p) := Lib.hid (by
        rcases bj.1 with h | h
        · rw [h]; simp [col]
        · rw [col_low a b p j0 (by omega)]; omega)
      have hend : ∀ j, p < j ∨ a.length ≤ j → Hid (col (a.take j) b p = col a b p) := fun j h => Lib.hid (col_high a b p j h)
      have hcs : cs a b (p + 1) = cs a b p + 1000000000 ^ p * col a b p := rfl
      replace hcs := Lib.hid hcs
      by_cases hpb : 0 < (p : Int) - (b.length : Int) + 1
      all_goals
        first | rw [if_pos hpb] at hj0 | rw [if_neg hpb] at hj0
        go_wp2
        go_loopw [6, 8, 9] (fun s c i wr => ∃ (j : Nat) (J x y : Int), J = j ∧ s = .int .i64 x ∧ c = .int .i64 y ∧ i = .int .i64 J ∧ p + 1 ≤ j + b.length ∧ j ≤ p + 1 ∧ j ≤ a.length ∧ 0 ≤ x ∧ x < 8000000000000000000 ∧ 0 ≤ y ∧ y ≤ 8000000000 * j ∧ Hid (x + 1000000000 * y = S + col (a.take j) b p) ∧ Rw wr w.heap.size R ∧ Below w.heap.size w wr)
          (fun _ _ i _ => p + 1 - (intOf i).toNat)
        case atStart => exact ⟨j0, _, S, 0, hj0.symm, rfl, rfl, rfl, bj.2.1, bj.2.2.1, bj.2.2.2, S0, by omega, by omega, by omega, hc0, hr, hnx⟩
        case round =>
          clear hr hnx hc0 bj hj0
          obtain ⟨j, J, x, y, rfl, rfl, rfl, rfl, j0', j1, j2, x0, x1, y0, y1, hv2, hr, hnx⟩ := hrel
          by_cases hpa : (a.length : Int) - 1 < (p : Int)
          all_goals
            by_cases hjm : j ≤ p ∧ j < a.length
            · obtain ⟨ba, oa, rfl, hxa⟩ := hqa (by omega)
              obtain ⟨bb, ob, rfl, hxb⟩ := hqb (by omega)
              have hcp := lkeep hnx (hxa j hjm.2)
              have hcq := lkeep hnx (hxb (p - j) (by omega))
              have bp := da.el (by omega) j
              have bq := db.el (by omega) (p - j)
              have hstep := col_take_succ a b p j hjm.2 hjm.1
              obtain ⟨u, hu⟩ : ∃ u, el a j = u := ⟨_, rfl⟩
              obtain ⟨v, hv'⟩ : ∃ v, el b (p - j) = v := ⟨_, rfl⟩
              rw [hu] at bp hcp hstep
              rw [hv'] at bq hcq hstep
              have bP := mul_dig bp bq
              obtain ⟨P, hP⟩ : ∃ P, u * v = P := ⟨_, rfl⟩
              rw [hP] at bP hstep
              have e1 : IntKind.i64.wrap (u * v) = P := by rw [hP]; exact IntWalk.i64_in _ (by omega)
              have hst := Lib.hid hstep
              have epj : (p : Int) - (j : Int) = ((p - j : Nat) : Int) := by omega
              clear hu hv' hP hstep hxa hxb bp bq
              by_cases hbig : 8000000000000000000 ≤ x + P
              · go_wp2
                go_quiet (fail)
                go_wp2
                go_roundw
                case rel =>
                  refine ⟨j + 1, _, _, _, by omega, rfl, rfl, rfl, by omega, by omega, by omega, by omega, by omega, by omega, by omega, Lib.hid ?_, hr.drew nq, by (repeat (first | with_reducible exact Below.refl _ _ | with_reducible assumption | refine Below.alloc ?_ (by (try simp); try omega) _ | refine Below.setCell ?_ (by (try simp); try omega) _ | refine below_drewN ?_ _ | refine Below.drew ?_ | (with_reducible refine Below.trans ?_ (Below.mono (by assumption) (by (try simp); try omega)))))⟩
                  rw [hst.out]; have := hv2.out; omega
                case measure => simp [intOf]; omega
              · go_wp2
                go_quiet (fail)
                go_wp2
                go_roundw
                case rel =>
                  refine ⟨j + 1, _, _, _, by omega, rfl, rfl, rfl, by omega, by omega, by omega, by omega, by omega, by omega, by omega, Lib.hid ?_, hr.drew nq, by (repeat (first | with_reducible exact Below.refl _ _ | with_reducible assumption | refine Below.alloc ?_ (by (try simp); try omega) _ | refine Below.setCell ?_ (by (try simp); try omega) _ | refine below_drewN ?_ _ | refine Below.drew ?_ | (with_reducible refine Below.trans ?_ (Below.mono (by assumption) (by (try simp); try omega)))))⟩
                  rw [hst.out]; have := hv2.out; omega
                case measure => simp [intOf]; omega
            · have hE := hend j (by omega)
              have hcr : wr.cell? ⟨w.heap.size, p, none⟩ = some (.int .i64 (el R p)) := hr.cell (by omega)
              have hfr := hr.frz p
              first
                | have hjm' : ¬ ((j : Int) ≤ (a.length : Int) - 1) := by omega
                | have hjm' : ¬ ((j : Int) ≤ (p : Int)) := by omega
              go_wp2
              go_roundw
              case rel =>
                refine ⟨p + 1, x / 1000000000 + y, R.set p (x % 1000000000), rfl, by simp, by omega, by omega, by omega, by simpa using hl, hd.set _ (by omega) (by omega), Lib.hid ?_, hr.stored p _, by (repeat (first | with_reducible exact Below.refl _ _ | with_reducible assumption | refine Below.alloc ?_ (by (try simp); try omega) _ | refine Below.setCell ?_ (by (try simp); try omega) _ | refine below_drewN ?_ _ | refine Below.drew ?_ | (with_reducible refine Below.trans ?_ (Below.mono (by assumption) (by (try simp); try omega)))))⟩
                rw [take_set_succ _ _ _ (by omega), hcs.out]
                show val _ _ + _ = _
                rw [val_append, List.length_take, Nat.min_eq_left (by omega), Int.pow_succ]
                have h2 := hv2.out
                rw [hE.out] at h2
                have e := times_place hv.out (col a b p) h2
                simp only [val]
                rw [Int.mul_zero, Int.add_zero]; exact e
              case measure => simp [intOf]; omega
    · have : p = a.length + b.length := by omega
      subst this
      have hls : Ls wr (.slice (some ⟨w.heap.size, 0, none⟩) (a.length + b.length) (a.length + b.length)) R := by rw [← hl]; exact hr.ls
      have hend : vl R = vl a * vl b := by
        have e := hv.out
        rw [vl_take_all (by omega), cs_all a b _ (Nat.le_refl _)] at e
        have h1 := vl_nonneg hd
        have h2 := vl_lt da
        have h3 := vl_lt db
        have h4 : vl a * vl b < 1000000000 ^ a.length * 1000000000 ^ b.length := by
          have e1 := Int.mul_le_mul_of_nonneg_left (show vl b ≤ 1000000000 ^ b.length - 1 by omega) (vl_nonneg da)
          have e2 := Int.mul_le_mul_of_nonneg_right (show vl a ≤ 1000000000 ^ a.length - 1 by omega) (show (0 : Int) ≤ 1000000000 ^ b.length - 1 by have := pow9 b.length; omega)
          have e3 : ((1000000000 : Int) ^ a.length - 1) * (1000000000 ^ b.length - 1) = 1000000000 ^ a.length * 1000000000 ^ b.length - 1000000000 ^ a.length - 1000000000 ^ b.length + 1 := by grind
          have := pow9 a.length
          have := pow9 b.length
          omega
        rw [← Int.pow_add] at h4
        have hp := pow9 (a.length + b.length)
        rcases (by omega : S = 0 ∨ 1 ≤ S) with rfl | h
        · rw [Int.mul_zero] at e; omega
        · have := Int.mul_le_mul_of_nonneg_left h (show (0 : Int) ≤ 1000000000 ^ (a.length + b.length) by omega)
          omega
      have hc := trimmed_any _ R wr hls hd (by omega)
      rw [hend] at hc
      clear hv hd hls hend
      go_wp2_with (go_at_call 57; refine hc.mono ?_; rintro e w3 ⟨v, rfl, hs, rfl⟩)
      go_ret
      exact ⟨v, rfl, hs, hnx⟩
theorem times_num (va vb : Value) (x y : Int) (w : World) (x0 : 0 ≤ x) (y0 : 0 ≤ y) (ha : Ls w va (dg x)) (hb : Ls w vb (dg y)) (la : (dg x).length ≤ 1000) (lb : (dg y).length ≤ 1000) :
    Calls Tryd.prog 41 #[va, vb] w fun e w' => ∃ v, e = .returned v ∧ Ls w' v (dg (x * y)) ∧ Below w.heap.size w w' := by
  have := times_any va vb _ _ w ha hb (dg_dig x x0) (dg_dig y y0) la lb
  rwa [dg_val x x0, dg_val y y0] at this
end Go.Proofs.YthhbnhdejbpjiaaDoor
