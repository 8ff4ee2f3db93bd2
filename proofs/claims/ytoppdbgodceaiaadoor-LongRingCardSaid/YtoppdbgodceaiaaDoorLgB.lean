/-
  Walks of package long: compare, small, ofSmall.
-/
import Derived.Test.YtoppdbgodceaiaaDoorLgA
import Derived.Deep.RegionHeld3
namespace Go.Proofs.YtoppdbgodceaiaaDoor
open Go.RowKit

/-- -1, 0 or 1. -/
def cmpI (x y : Int) : Int := if x < y then -1 else if x = y then 0 else 1
theorem cmpI_lt {x y : Int} (h : x < y) : cmpI x y = -1 := if_pos h
theorem cmpI_eq {x y : Int} (h : x = y) : cmpI x y = 0 := by unfold cmpI; rw [if_neg (by omega), if_pos h]
theorem cmpI_gt {x y : Int} (h : y < x) : cmpI x y = 1 := by unfold cmpI; rw [if_neg (by omega), if_neg (by omega)]

theorem compare_any (va vb : Value) (a b : List Int) (w : World) (ha : Ls w va a) (hb : Ls w vb b) (da : Dg a) (db : Dg b) (na : Nrm a) (nb : Nrm b) (la : a.length ≤ 1000000) (lb : b.length ≤ 1000000) :
    Calls Tryd.prog 65 #[va, vb] w fun e w' => e = .returned (.int .i64 (cmpI (vl a) (vl b))) ∧ Below w.heap.size w w' := by
  obtain ⟨pa, ca, rfl, ⟨hca', hna⟩, hpa⟩ := ha
  obtain ⟨pb, cb, rfl, ⟨hcb', hnb⟩, hpb⟩ := hb
  by_cases hne : a.length = b.length
  · have hlt : ∀ i, i < a.length → vl (a.drop (i + 1)) = vl (b.drop (i + 1)) → el a i < el b i → Hid (cmpI (vl a) (vl b) = -1) := fun i hi e h => Lib.hid (cmpI_lt (drop_lt da db hne i hi e h))
    have hgt : ∀ i, i < a.length → vl (a.drop (i + 1)) = vl (b.drop (i + 1)) → el b i < el a i → Hid (cmpI (vl a) (vl b) = 1) := fun i hi e h => Lib.hid (cmpI_gt (drop_lt db da hne.symm i (by omega) e.symm h))
    have heq : vl a = vl b → Hid (cmpI (vl a) (vl b) = 0) := fun h => Lib.hid (cmpI_eq h)
    have hs : ∀ i, i < a.length → vl (a.drop (i + 1)) = vl (b.drop (i + 1)) → el a i = el b i → vl (a.drop i) = vl (b.drop i) := fun i hi e h => drop_eq i hi (by omega) e h
    have hf : vl (a.drop a.length) = vl (b.drop a.length) := by rw [List.drop_length, List.drop_eq_nil_of_le (by omega)]
    rw [← hne] at hpb hcb'
    rw [show b.length = a.length from hne.symm]
    clear hne da db na nb lb
    generalize cmpI (vl a) (vl b) = R at *
    go_enter Tryd.func65, Tryd.ntmps65
    go_wp2
    go_loopw [5] (fun i wr => ∃ (k : Nat), i = .int .i64 ((k : Int) - 1) ∧ k ≤ a.length ∧ Hid (vl (a.drop k) = vl (b.drop k)) ∧ Below w.heap.size w wr)
      (fun i _ => (intOf i + 1).toNat)
    case atStart => exact ⟨a.length, rfl, Nat.le_refl _, Lib.hid hf, Below.refl _ _⟩
    case round =>
      obtain ⟨k, rfl, hk, hd, hnx⟩ := hrel
      clear hf
      by_cases h0 : k = 0
      · subst h0
        have Ho := heq hd.out
        clear hlt hgt heq hs hd
        go_wp2
        go_ret
        exact ⟨by rw [Ho.out]; rfl, hnx⟩
      · obtain ⟨j, rfl⟩ : ∃ j, k = j + 1 := ⟨k - 1, by omega⟩
        obtain ⟨ba, oa, rfl, hxa⟩ := hpa (by omega)
        obtain ⟨bb, ob, rfl, hxb⟩ := hpb (by omega)
        have hx := lkeep hnx (hxa j (by omega))
        have hy := lkeep hnx (hxb j (by omega))
        have h1 := hlt j (by omega) hd.out
        have h2 := hgt j (by omega) hd.out
        have h3 := hs j (by omega) hd.out
        clear hlt hgt heq hs hd hxa hxb
        rw [show (((j + 1 : Nat) : Int) - 1) = (j : Int) by omega]
        obtain ⟨x, ex⟩ : ∃ x, el a j = x := ⟨_, rfl⟩
        obtain ⟨y, ey⟩ : ∃ y, el b j = y := ⟨_, rfl⟩
        rw [ex] at hx h1 h2 h3
        rw [ey] at hy h1 h2 h3
        clear ex ey
        rcases Int.lt_trichotomy x y with c | c | c
        · have Ho := h1 c
          clear h1 h2 h3
          have hne : ¬ x = y := by omega
          go_wp2
          go_quiet (fail)
          have hx2 : (wr.drewN nq).cell? ⟨ba, oa + j, none⟩ = some (.int .i64 x) := hx
          have hy2 : (wr.drewN nq).cell? ⟨bb, ob + j, none⟩ = some (.int .i64 y) := hy
          go_wp2
          go_quiet (fail)
          go_wp2
          go_ret
          exact ⟨by rw [Ho.out]; rfl, by (repeat (first | with_reducible exact Below.refl _ _ | with_reducible assumption | refine Below.alloc ?_ (by (try simp); try omega) _ | refine Below.setCell ?_ (by (try simp); try omega) _ | refine below_drewN ?_ _ | refine Below.drew ?_ | (with_reducible refine Below.trans ?_ (Below.mono (by assumption) (by (try simp); try omega)))))⟩
        · subst c
          replace h3 := h3 rfl
          replace h3 := Lib.hid h3
          clear h1 h2
          go_wp2
          go_quiet (fail)
          go_wp2
          go_roundw
          case rel => exact ⟨j, by simp, by omega, h3, by (repeat (first | with_reducible exact Below.refl _ _ | with_reducible assumption | refine Below.alloc ?_ (by (try simp); try omega) _ | refine Below.setCell ?_ (by (try simp); try omega) _ | refine below_drewN ?_ _ | refine Below.drew ?_ | (with_reducible refine Below.trans ?_ (Below.mono (by assumption) (by (try simp); try omega)))))⟩
          case measure => simp [intOf]
        · have Ho := h2 c
          clear h1 h2 h3
          have hne : ¬ x = y := by omega
          have hnl : ¬ x < y := by omega
          go_wp2
          go_quiet (fail)
          have hx2 : (wr.drewN nq).cell? ⟨ba, oa + j, none⟩ = some (.int .i64 x) := hx
          have hy2 : (wr.drewN nq).cell? ⟨bb, ob + j, none⟩ = some (.int .i64 y) := hy
          go_wp2
          go_quiet (fail)
          go_wp2
          go_ret
          exact ⟨by rw [Ho.out]; rfl, by (repeat (first | with_reducible exact Below.refl _ _ | with_reducible assumption | refine Below.alloc ?_ (by (try simp); try omega) _ | refine Below.setCell ?_ (by (try simp); try omega) _ | refine below_drewN ?_ _ | refine Below.drew ?_ | (with_reducible refine Below.trans ?_ (Below.mono (by assumption) (by (try simp); try omega)))))⟩
  · by_cases hl : a.length < b.length
    · rw [cmpI_lt (shorter da db nb hl)]
      clear da db na nb
      go_enter Tryd.func65, Tryd.ntmps65
      go_wp2
      go_ret
      exact ⟨rfl, Below.refl _ _⟩
    · rw [cmpI_gt (shorter db da na (by omega))]
      clear da db na nb
      go_enter Tryd.func65, Tryd.ntmps65
      go_wp2
      go_ret
      exact ⟨rfl, Below.refl _ _⟩
theorem compare_num (va vb : Value) (x y : Int) (w : World) (x0 : 0 ≤ x) (y0 : 0 ≤ y) (ha : Ls w va (dg x)) (hb : Ls w vb (dg y)) (la : (dg x).length ≤ 1000000) (lb : (dg y).length ≤ 1000000) :
    Calls Tryd.prog 65 #[va, vb] w fun e w' => e = .returned (.int .i64 (cmpI x y)) ∧ Below w.heap.size w w' := by
  have := compare_any va vb (dg x) (dg y) w ha hb (dg_dig x x0) (dg_dig y y0) (dg_nrm x x0) (dg_nrm y y0) la lb
  rwa [dg_val x x0, dg_val y y0] at this

theorem small_any (va : Value) (x : Int) (w : World) (x0 : 0 ≤ x) (x1 : x < 1000000000000000000) (ha : Ls w va (dg x)) :
    Calls Tryd.prog 103 #[va] w fun e w' => e = .returned (.int .i64 x) ∧ Below w.heap.size w w' := by
  obtain ⟨pa, ca, rfl, ⟨hca', hna⟩, hpa⟩ := ha
  by_cases h0 : x = 0
  · subst h0
    rw [dg_zero] at *
    go_enter Tryd.func103, Tryd.ntmps103
    go_wp2
    go_ret
    exact ⟨rfl, Below.refl _ _⟩
  · by_cases h1 : x < 1000000000
    · rw [dg_small (by omega) h1] at *
      obtain ⟨ba, oa, rfl, hxa⟩ := hpa (by simp)
      have hx := hxa 0 (by simp)
      simp only [el, List.getD_cons_zero, Nat.add_zero] at hx
      clear hpa hxa
      go_enter Tryd.func103, Tryd.ntmps103
      go_wp2
      go_ret
      exact ⟨rfl, Below.refl _ _⟩
    · rw [dg_two (by omega) (by omega)] at *
      obtain ⟨ba, oa, rfl, hxa⟩ := hpa (by simp)
      have hx := hxa 0 (by simp)
      have hy := hxa 1 (by simp)
      simp only [el, List.getD_cons_zero, List.getD_cons_succ, Nat.add_zero] at hx hy
      obtain ⟨p, hp⟩ : ∃ p, x % 1000000000 = p := ⟨_, rfl⟩
      obtain ⟨q, hq⟩ : ∃ q, x / 1000000000 = q := ⟨_, rfl⟩
      have hpq : q * 1000000000 + p = x := by omega
      have bp : 0 ≤ p ∧ p < 1000000000 := by omega
      have bq : 0 ≤ q ∧ q < 1000000000 := by omega
      rw [hp] at hx
      rw [hq] at hy
      rw [hp, hq]
      replace hpq := Lib.hid hpq
      clear hp hq hpa hxa h0 h1 hca'
      go_enter Tryd.func103, Tryd.ntmps103
      go_wp2
      go_quiet (fail)
      go_wp2
      go_ret
      exact ⟨by rw [← hpq.out]; rfl, by (repeat (first | with_reducible exact Below.refl _ _ | with_reducible assumption | refine Below.alloc ?_ (by (try simp); try omega) _ | refine Below.setCell ?_ (by (try simp); try omega) _ | refine below_drewN ?_ _ | refine Below.drew ?_ | (with_reducible refine Below.trans ?_ (Below.mono (by assumption) (by (try simp); try omega)))))⟩

theorem ofSmall_any (n : Int) (w : World) (n0 : 0 ≤ n) (n1 : n < 1000000000000000000) :
    Calls Tryd.prog 104 #[.int .i64 n] w fun e w' => ∃ v, e = .returned v ∧ Ls w' v (dg n) ∧ Below w.heap.size w w' := by
  obtain ⟨p, hp⟩ : ∃ p, n % 1000000000 = p := ⟨_, rfl⟩
  obtain ⟨q, hq⟩ : ∃ q, n / 1000000000 = q := ⟨_, rfl⟩
  have bp : 0 ≤ p ∧ p < 1000000000 := by omega
  have bq : 0 ≤ q ∧ q < 1000000000 := by omega
  have hpq : vl [p, q] = n := by simp only [vl, val]; omega
  have hc : ∀ w' : World, Ls w' (.slice (some ⟨w.heap.size, 0, none⟩) 2 2) [p, q] → _ := fun w' h => trimmed_any _ [p, q] w' h (Dig.cons bp.1 bp.2 (Dig.one bq.1 bq.2)) (by simp)
  rw [hpq] at hc
  replace hpq := Lib.hid hpq
  go_enter Tryd.func104, Tryd.ntmps104
  go_wp2_with fail
  go_at_call 102
  refine (hc _ ?_).mono ?_
  · refine ⟨_, 2, rfl, ⟨Nat.le_refl _, fun h => by cases h⟩, fun _ => ⟨_, _, rfl, fun i hi => ?_⟩⟩
    match i, hi with
    | 0, _ => simp [el]
    | 1, _ => simp [el]
  rintro e w1 ⟨v, rfl, hs, rfl⟩
  clear hc
  go_wp2
  go_ret
  exact ⟨v, rfl, hs, by (repeat (first | with_reducible exact Below.refl _ _ | with_reducible assumption | refine Below.alloc ?_ (by (try simp); try omega) _ | refine Below.setCell ?_ (by (try simp); try omega) _ | refine below_drewN ?_ _ | refine Below.drew ?_ | (with_reducible refine Below.trans ?_ (Below.mono (by assumption) (by (try simp); try omega)))))⟩
end Go.Proofs.YtoppdbgodceaiaaDoor
