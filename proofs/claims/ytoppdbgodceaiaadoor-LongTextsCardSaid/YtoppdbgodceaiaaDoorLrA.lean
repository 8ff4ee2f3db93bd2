/-
  The reference: Right, Check, Same, less, Order, Cmp, at, Minus, Of.
-/
import Derived.Test.YtoppdbgodceaiaaDoorLiD
import Derived.Test.YtoppdbgodceaiaaDoorLhH
import Derived.Test.YtoppdbgodceaiaaDoorLrM
import Derived.BigQuiet
import Derived.Deep.QuietTactic
namespace Go.Proofs.YtoppdbgodceaiaaDoor
open Go.RowKit

theorem eq_of_el {l m : List Int} (hl : l.length = m.length) (h : ∀ j, j < l.length → el l j = el m j) : l = m := by
  apply List.ext_getElem hl
  intro i h1 h2
  have := h i h1
  simpa [el, List.getD_eq_getElem?_getD, List.getElem?_eq_getElem h1, List.getElem?_eq_getElem h2] using this
theorem dec_ck (b : Bool) (l : List Int) : decide (ckL b l = 0) = (decide (l.length ≤ 600) && okD l && !(b && decide (l.length = 0))) := by
  unfold ckL
  by_cases h1 : l.length ≤ 600 <;> cases okD l <;> cases b <;> by_cases h3 : l.length = 0 <;> simp [h1, h3]
set_option maxRecDepth 100000 in
set_option maxHeartbeats 1000000 in
theorem rright_any (b : Bool) (s : Value) (l : List Int) (w : World) (hs : Ls w s l) (ll : l.length ≤ 1000000) :
    Calls Tryd.prog 66 #[.agg #[.bool b, s]] w fun e w' => e = .returned (.bool (decide (ckL b l = 0))) ∧ Below w.heap.size w w' := by
  have a1 := Below.alloc (Below.refl w.heap.size w) (Nat.le_refl _) (.cells #[.bool b, s] 24)
  replace hs := hs.keep a1
  obtain ⟨pa, ca, rfl, ⟨hca', hna⟩, hpa⟩ := hs
  have c0 : (w.alloc (.cells #[.bool b, .slice pa l.length ca] 24)).cell? ⟨w.heap.size, 0, none⟩ = some (.bool b) := by simp [go_sem]
  have c1 : (w.alloc (.cells #[.bool b, .slice pa l.length ca] 24)).cell? ⟨w.heap.size, 1, none⟩ = some (.slice pa l.length ca) := by simp [go_sem]
  by_cases h0 : l.length = 0
  · have hck : decide (ckL b l = 0) = !b := by
      obtain rfl : l = [] := List.length_eq_zero_iff.1 h0
      cases b <;> rfl
    rw [hck]
    rw [h0] at c0 c1 a1 ⊢
    clear hpa hck
    cases b
    all_goals
      go_enter Tryd.func66, Tryd.ntmps66
      go_wp2
      go_ret
      exact ⟨rfl, a1⟩
  · have hno : ∀ k, k < l.length → (el l k < 0 ∨ 1000000000 ≤ el l k) → Hid (decide (ckL b l = 0) = false) := fun k hk h => Lib.hid (by rw [dec_ck, okD_no hk (by omega)]; simp)
    have hyes : (∀ j, j < l.length → 0 ≤ el l j ∧ el l j < 1000000000) → Hid (decide (ckL b l = 0) = (decide (l.length ≤ 600) && (el l (l.length - 1) != 0))) := fun h => Lib.hid (by
      rw [dec_ck, okD_eq h, show (l.length == 0) = false by simpa using h0]; simp [h0])
    have h0i : ¬ ((l.length : Int) = 0) := by omega
    obtain ⟨ba, oa, rfl, hca⟩ := hpa (by omega)
    clear hpa
    go_enter Tryd.func66, Tryd.ntmps66
    go_wp2
    go_loopw [3] (fun i wr => ∃ (k : Nat), i = .int .i64 k ∧ k ≤ l.length ∧ (∀ j, j < k → 0 ≤ el l j ∧ el l j < 1000000000) ∧ wr = (w.alloc (.cells #[.bool b, .slice (some ⟨ba, oa, none⟩) l.length ca] 24)))
      (fun i _ => l.length - (intOf i).toNat)
    case atStart => exact ⟨0, rfl, Nat.zero_le _, fun j hj => by omega, rfl⟩
    case round =>
      obtain ⟨k, rfl, hk, hj, rfl⟩ := hrel
      by_cases hk' : k < l.length
      · have hck := hca k hk'
        have hnk := hno k hk'
        obtain ⟨x, hx⟩ : ∃ x, el l k = x := ⟨_, rfl⟩
        rw [hx] at hck hnk
        replace hx := Lib.hid hx
        clear hno hyes hca
        by_cases c0' : x < 0 ∨ 1000000000 ≤ x
        · have Ho := hnk c0'
          clear hnk hj
          rcases c0' with c0' | c0'
          · go_wp2
            go_ret
            exact ⟨by rw [Ho.out]; rfl, a1⟩
          · have c1' : ¬ x < 0 := by omega
            go_wp2
            go_ret
            exact ⟨by rw [Ho.out]; rfl, a1⟩
        · clear hnk
          have c1' : ¬ x < 0 := by omega
          have c2' : ¬ 1000000000 ≤ x := by omega
          go_wp2
          go_roundw
          case rel =>
            refine ⟨k + 1, by simp, by omega, fun j hj' => ?_, trivial⟩
            rcases Nat.lt_or_ge j k with h | h
            · exact hj j h
            · rw [show j = k by omega, hx.out]; omega
          case measure => simp [intOf]; omega
      · have hka : k = l.length := by omega
        subst hka
        have Ho := hyes hj
        have hck := hca (l.length - 1) (by omega)
        obtain ⟨x, hx⟩ : ∃ x, el l (l.length - 1) = x := ⟨_, rfl⟩
        rw [hx] at hck Ho
        clear hno hyes hj hca hx
        by_cases h6 : l.length ≤ 600
        · have h6i : (l.length : Int) ≤ 600 := by omega
          go_wp2
          go_ret
          exact ⟨by rw [Ho.out]; simp [h6], a1⟩
        · have h6i : ¬ (l.length : Int) ≤ 600 := by omega
          go_wp2
          go_ret
          exact ⟨by rw [Ho.out]; simp [h6], a1⟩
theorem rcheck_any (b : Bool) (s : Value) (l : List Int) (w : World) (hs : Ls w s l) (ll : l.length ≤ 1000000) :
    Calls Tryd.prog 26 #[.agg #[.bool b, s]] w fun e w' => e = .returned (.int .i64 (ckL b l)) ∧ Below w.heap.size w w' := by
  have a1 := Below.alloc (Below.refl w.heap.size w) (Nat.le_refl _) (.cells #[.bool b, s] 24)
  have hr := rright_any b s l _ (hs.keep a1) ll
  obtain ⟨pa, ca, rfl, _, _⟩ := hs
  have c0 : (w.alloc (.cells #[.bool b, .slice pa l.length ca] 24)).cell? ⟨w.heap.size, 0, none⟩ = some (.bool b) := by simp [go_sem]
  have c1 : (w.alloc (.cells #[.bool b, .slice pa l.length ca] 24)).cell? ⟨w.heap.size, 1, none⟩ = some (.slice pa l.length ca) := by simp [go_sem]
  have hc : ckL b l = 0 ∨ ckL b l = 30 := by unfold ckL; split <;> simp
  generalize ckL b l = c at *
  generalize l.length = n at *
  rcases hc with rfl | rfl
  all_goals
    go_enter Tryd.func26, Tryd.ntmps26
    go_wp2_with (go_at_call 66; refine hr.mono ?_; rintro e w1 ⟨rfl, hb1⟩)
    go_ret
    exact ⟨rfl, a1.trans (hb1.mono a1.size)⟩
set_option maxRecDepth 100000 in
set_option maxHeartbeats 1000000 in
theorem rsame_any (b1 b2 : Bool) (s1 s2 : Value) (l m : List Int) (w : World) (h1 : Ls w s1 l) (h2 : Ls w s2 m) (ll : l.length ≤ 1000000) (lm : m.length ≤ 1000000) :
    Calls Tryd.prog 17 #[.agg #[.bool b1, s1], .agg #[.bool b2, s2]] w fun e w' => e = .returned (.bool (b1 == b2 && decide (l = m))) ∧ Below w.heap.size w w' := by
  have a1 := Below.alloc (Below.refl w.heap.size w) (Nat.le_refl _) (.cells #[.bool b1, s1] 24)
  have a2 := Below.alloc a1 a1.size (.cells #[.bool b2, s2] 24)
  replace h1 := h1.keep a2
  replace h2 := h2.keep a2
  obtain ⟨pa, ca, rfl, ⟨hca', hna⟩, hpa⟩ := h1
  obtain ⟨pb, cb, rfl, ⟨hcb', hnb⟩, hpb⟩ := h2
  have c0 : ((w.alloc (.cells #[.bool b1, .slice pa l.length ca] 24)).alloc (.cells #[.bool b2, .slice pb m.length cb] 24)).cell? ⟨w.heap.size, 0, none⟩ = some (.bool b1) := by simp [go_sem]
  have c1 : ((w.alloc (.cells #[.bool b1, .slice pa l.length ca] 24)).alloc (.cells #[.bool b2, .slice pb m.length cb] 24)).cell? ⟨w.heap.size, 1, none⟩ = some (.slice pa l.length ca) := by simp [go_sem]
  have c2 : ((w.alloc (.cells #[.bool b1, .slice pa l.length ca] 24)).alloc (.cells #[.bool b2, .slice pb m.length cb] 24)).cell? ⟨w.heap.size + 1, 0, none⟩ = some (.bool b2) := by simp [go_sem]
  have c3 : ((w.alloc (.cells #[.bool b1, .slice pa l.length ca] 24)).alloc (.cells #[.bool b2, .slice pb m.length cb] 24)).cell? ⟨w.heap.size + 1, 1, none⟩ = some (.slice pb m.length cb) := by simp [go_sem]
  by_cases hbb : b1 = b2
  · subst hbb
    by_cases hl : l.length = m.length
    · have hno : ∀ k, k < l.length → el l k ≠ el m k → Hid ((b1 == b1 && decide (l = m)) = false) := fun k _ h => Lib.hid (by
        simp; intro e; rw [e] at h; exact h rfl)
      have hyes : (∀ j, j < l.length → el l j = el m j) → Hid ((b1 == b1 && decide (l = m)) = true) := fun h => Lib.hid (by
        simp; exact eq_of_el hl h)
      generalize (b1 == b1 && decide (l = m)) = R at *
      rw [← hl] at hpa hpb c0 c1 c2 c3 a2 ⊢
      clear hl hca' hcb' hna hnb lm
      go_enter Tryd.func17, Tryd.ntmps17
      go_wp2
      go_loopw [5] (fun i wr => ∃ (k : Nat), i = .int .i64 k ∧ k ≤ l.length ∧ (∀ j, j < k → el l j = el m j) ∧ Below ((w.alloc (.cells #[.bool b1, .slice pa l.length ca] 24)).alloc (.cells #[.bool b1, .slice pb l.length cb] 24)).heap.size ((w.alloc (.cells #[.bool b1, .slice pa l.length ca] 24)).alloc (.cells #[.bool b1, .slice pb l.length cb] 24)) wr)
        (fun i _ => l.length - (intOf i).toNat)
      case atStart => exact ⟨0, rfl, Nat.zero_le _, fun j hj => by omega, Below.refl _ _⟩
      case round =>
        obtain ⟨k, rfl, hk, hj, hnx⟩ := hrel
        have B1 := a2.trans (hnx.mono a2.size)
        replace c0 := lkeep hnx c0
        replace c1 := lkeep hnx c1
        replace c2 := lkeep hnx c2
        replace c3 := lkeep hnx c3
        by_cases hk' : k < l.length
        · obtain ⟨ba, oa, rfl, hxa⟩ := hpa (by omega)
          obtain ⟨bb, ob, rfl, hxb⟩ := hpb (by omega)
          have hx := lkeep hnx (hxa k hk')
          have hy := lkeep hnx (hxb k hk')
          have k1 := hno k hk'
          obtain ⟨x, ex⟩ : ∃ x, el l k = x := ⟨_, rfl⟩
          obtain ⟨y, ey⟩ : ∃ y, el m k = y := ⟨_, rfl⟩
          rw [ex] at hx k1
          rw [ey] at hy k1
          have hxy : x = y → ∀ j, j < k + 1 → el l j = el m j := fun h j hj' => by
            rcases Nat.lt_or_ge j k with c | c
            · exact hj j c
            · rw [show j = k by omega, ex, ey, h]
          clear ex ey hxa hxb hno hyes hj hpa hpb
          by_cases c : x = y
          · subst c
            have k2 := hxy rfl
            clear hxy k1
            go_wp2
            go_quiet (fail)
            go_wp2
            go_roundw
            case rel => exact ⟨k + 1, by simp, by omega, k2, by (repeat (first | with_reducible exact Below.refl _ _ | with_reducible assumption | refine Below.alloc ?_ (by (try simp); try omega) _ | refine Below.setCell ?_ (by (try simp); try omega) _ | refine below_drewN ?_ _ | refine Below.drew ?_ | (with_reducible refine Below.trans ?_ (Below.mono (by assumption) (by (try simp); try omega)))))⟩
            case measure => simp [intOf]; omega
          · have Ho := k1 c
            clear hxy k1
            go_wp2
            go_quiet (fail)
            go_wp2
            go_ret
            exact ⟨by rw [Ho.out]; rfl, by (repeat (first | with_reducible exact Below.refl _ _ | with_reducible assumption | refine Below.alloc ?_ (by (try simp); try omega) _ | refine Below.setCell ?_ (by (try simp); try omega) _ | refine below_drewN ?_ _ | refine Below.drew ?_ | (with_reducible refine Below.trans ?_ (Below.mono (by assumption) (by (try simp); try omega)))))⟩
        · have hka : k = l.length := by omega
          subst hka
          have Ho := hyes hj
          clear hno hyes hj hpa hpb
          go_wp2
          go_ret
          exact ⟨by rw [Ho.out]; rfl, B1⟩
    · rw [show (b1 == b1 && decide (l = m)) = false by simp; intro e; rw [e] at hl; exact hl rfl]
      have hli : ¬ ((l.length : Int) = (m.length : Int)) := by omega
      clear hpa hpb
      go_enter Tryd.func17, Tryd.ntmps17
      go_wp2
      go_ret
      exact ⟨rfl, a2⟩
  · rw [show (b1 == b2 && decide (l = m)) = false by simp [hbb]]
    clear hpa hpb
    have hbb' : (b1 == b2) = false := by simp [hbb]
    go_enter Tryd.func17, Tryd.ntmps17
    go_wp2
    go_ret
    exact ⟨rfl, a2⟩

theorem rless_num (va vb : Value) (x y : Int) (w : World) (x0 : 0 ≤ x) (y0 : 0 ≤ y) (ha : Ls w va (dg x)) (hb : Ls w vb (dg y)) (la : (dg x).length ≤ 1000000) (lb : (dg y).length ≤ 1000000) :
    Calls Tryd.prog 83 #[va, vb] w fun e w' => e = .returned (.bool (decide (x < y))) ∧ Below w.heap.size w w' := by
  obtain ⟨pa, ca, rfl, ⟨hca', hna⟩, hpa⟩ := ha
  obtain ⟨pb, cb, rfl, ⟨hcb', hnb⟩, hpb⟩ := hb
  by_cases hne : (dg x).length = (dg y).length
  · have da := dg_dig x x0
    have db := dg_dig y y0
    have hlt : ∀ i, i < (dg x).length → vl ((dg x).drop (i + 1)) = vl ((dg y).drop (i + 1)) → el (dg x) i < el (dg y) i → Hid (decide (x < y) = true) := fun i hi e h => Lib.hid (by
      have := drop_lt da db hne i hi e h
      rw [dg_val x x0, dg_val y y0] at this; simpa using this)
    have hgt : ∀ i, i < (dg x).length → vl ((dg x).drop (i + 1)) = vl ((dg y).drop (i + 1)) → el (dg y) i < el (dg x) i → Hid (decide (x < y) = false) := fun i hi e h => Lib.hid (by
      have := drop_lt db da hne.symm i (by omega) e.symm h
      rw [dg_val x x0, dg_val y y0] at this; simp; omega)
    have heq : vl (dg x) = vl (dg y) → Hid (decide (x < y) = false) := fun h => Lib.hid (by
      rw [dg_val x x0, dg_val y y0] at h; simp; omega)
    have hs : ∀ i, i < (dg x).length → vl ((dg x).drop (i + 1)) = vl ((dg y).drop (i + 1)) → el (dg x) i = el (dg y) i → vl ((dg x).drop i) = vl ((dg y).drop i) := fun i hi e h => drop_eq i hi (by omega) e h
    have hf : vl ((dg x).drop (dg x).length) = vl ((dg y).drop (dg x).length) := by rw [List.drop_length, List.drop_eq_nil_of_le (by omega)]
    rw [← hne] at hpb hcb'
    rw [show (dg y).length = (dg x).length from hne.symm]
    clear hne da db lb
    generalize decide (x < y) = R at *
    generalize dg x = a at *
    generalize dg y = b at *
    go_enter Tryd.func83, Tryd.ntmps83
    go_wp2
    go_loopw [5] (fun i wr => ∃ (k : Nat), i = .int .i64 ((k : Int) - 1) ∧ k ≤ a.length ∧ Hid (vl (a.drop k) = vl (b.drop k)) ∧ Below w.heap.size w wr)
      (fun i _ => (intOf i + 1).toNat)
    case atStart => exact ⟨a.length, rfl, Nat.le_refl _, Lib.hid hf, Below.refl _ _⟩
    case round =>
      obtain ⟨k, rfl, hk, hd, hnx⟩ := hrel
      clear hf
      by_cases h0 : k = 0
      · subst h0
        have Ho := heq hd.out
        clear hlt hgt heq hs hd
        go_wp2
        go_ret
        exact ⟨by rw [Ho.out]; rfl, hnx⟩
      · obtain ⟨j, rfl⟩ : ∃ j, k = j + 1 := ⟨k - 1, by omega⟩
        obtain ⟨ba, oa, rfl, hxa⟩ := hpa (by omega)
        obtain ⟨bb, ob, rfl, hxb⟩ := hpb (by omega)
        have hx := lkeep hnx (hxa j (by omega))
        have hy := lkeep hnx (hxb j (by omega))
        have h1 := hlt j (by omega) hd.out
        have h2 := hgt j (by omega) hd.out
        have h3 := hs j (by omega) hd.out
        clear hlt hgt heq hs hd hxa hxb
        rw [show (((j + 1 : Nat) : Int) - 1) = (j : Int) by omega]
        obtain ⟨x, ex⟩ : ∃ x, el a j = x := ⟨_, rfl⟩
        obtain ⟨y, ey⟩ : ∃ y, el b j = y := ⟨_, rfl⟩
        rw [ex] at hx h1 h2 h3
        rw [ey] at hy h1 h2 h3
        clear ex ey
        have kq : ∀ nq, (wr.drewN nq).cell? ⟨ba, oa + j, none⟩ = some (.int .i64 x) ∧ (wr.drewN nq).cell? ⟨bb, ob + j, none⟩ = some (.int .i64 y) := fun nq => ⟨hx, hy⟩
        rcases Int.lt_trichotomy x y with c | c | c
        · have Ho := h1 c
          clear h1 h2 h3
          have hne : ¬ x = y := by omega
          have hd : decide (x < y) = true := by simpa using c
          go_wp2
          go_quiet (fail)
          obtain ⟨hx2, hy2⟩ := kq nq
          go_wp2
          go_quiet (fail)
          go_wp2
          go_ret
          exact ⟨by rw [Ho.out]; rfl, by (repeat (first | with_reducible exact Below.refl _ _ | with_reducible assumption | refine Below.alloc ?_ (by (try simp); try omega) _ | refine Below.setCell ?_ (by (try simp); try omega) _ | refine below_drewN ?_ _ | refine Below.drew ?_ | (with_reducible refine Below.trans ?_ (Below.mono (by assumption) (by (try simp); try omega)))))⟩
        · subst c
          replace h3 := h3 rfl
          replace h3 := Lib.hid h3
          clear h1 h2
          go_wp2
          go_quiet (fail)
          go_wp2
          go_roundw
          case rel => exact ⟨j, by simp, by omega, h3, by (repeat (first | with_reducible exact Below.refl _ _ | with_reducible assumption | refine Below.alloc ?_ (by (try simp); try omega) _ | refine Below.setCell ?_ (by (try simp); try omega) _ | refine below_drewN ?_ _ | refine Below.drew ?_ | (with_reducible refine Below.trans ?_ (Below.mono (by assumption) (by (try simp); try omega)))))⟩
          case measure => simp [intOf]; try omega
        · have Ho := h2 c
          clear h1 h2 h3
          have hne : ¬ x = y := by omega
          have hnl : ¬ x < y := by omega
          have hd : decide (x < y) = false := by simpa using hnl
          go_wp2
          go_quiet (fail)
          obtain ⟨hx2, hy2⟩ := kq nq
          go_wp2
          go_quiet (fail)
          go_wp2
          go_ret
          exact ⟨by rw [Ho.out]; rfl, by (repeat (first | with_reducible exact Below.refl _ _ | with_reducible assumption | refine Below.alloc ?_ (by (try simp); try omega) _ | refine Below.setCell ?_ (by (try simp); try omega) _ | refine below_drewN ?_ _ | refine Below.drew ?_ | (with_reducible refine Below.trans ?_ (Below.mono (by assumption) (by (try simp); try omega)))))⟩
  · have e : decide (x < y) = decide ((dg x).length < (dg y).length) := by
      rw [Bool.eq_iff_iff]; simp
      constructor
      · intro h
        have := dg_len_mono x0 (show x ≤ y by omega); omega
      · intro h; exact dg_shorter x0 y0 h
    rw [e]
    clear e hpa hpb
    generalize (dg x).length = n at *
    generalize (dg y).length = k at *
    have hni : ¬ ((n : Int) = (k : Int)) := by omega
    go_enter Tryd.func83, Tryd.ntmps83
    go_wp2
    go_ret
    exact ⟨rfl, Below.refl _ _⟩

theorem rat_any (va : Value) (a : List Int) (k : Nat) (w : World) (ha : Ls w va a) (la : a.length ≤ 1000000) :
    Calls Tryd.prog 82 #[va, .int .i64 (k : Int)] w fun e w' => e = .returned (.int .i64 (el a k)) ∧ w' = w := by
  obtain ⟨pa, ca, rfl, ⟨hca', hna⟩, hpa⟩ := ha
  by_cases hk : k < a.length
  · obtain ⟨ba, oa, rfl, hxa⟩ := hpa (by omega)
    have hx := hxa k hk
    have hki : (k : Int) < (a.length : Int) := by omega
    generalize el a k = x at *
    clear hxa hpa
    go_enter Tryd.func82, Tryd.ntmps82
    go_wp2
    go_ret
    exact ⟨rfl, rfl⟩
  · rw [el_out (by omega)]
    have hki : ¬ (k : Int) < (a.length : Int) := by omega
    clear hpa
    go_enter Tryd.func82, Tryd.ntmps82
    go_wp2
    go_ret
    exact ⟨rfl, rfl⟩

end Go.Proofs.YtoppdbgodceaiaaDoor
