/-
  Walks of package long: dividedByDigit, divided.
-/
import Derived.Test.YthhbnhdejbpjiaaDoorLgI
import Derived.RegionTactic
import Derived.BigRegion
import Derived.Deep.RegionHeld3
import Derived.Laws.AppendOwnNone
namespace Go.Proofs.YthhbnhdejbpjiaaDoor
open Go.RowKit

theorem drop_set_eq (l : List Int) (k : Nat) (x : Int) (hk : k < l.length) : (l.set k x).drop k = x :: l.drop (k + 1) := by
  rw [List.drop_eq_getElem_cons (by simpa using hk), List.drop_set_of_lt (Nat.lt_succ_self k)]
  simp
theorem digit_step {A d q n : Int} (r : Int) (h : A = d * q + n) : r + 1000000000 * A = d * ((n * 1000000000 + r) / d + 1000000000 * q) + (n * 1000000000 + r) % d := by
  have e := Int.mul_ediv_add_emod (n * 1000000000 + r) d
  generalize (n * 1000000000 + r) / d = x at *
  generalize (n * 1000000000 + r) % d = y at *
  have : y = n * 1000000000 + r - d * x := by omega
  subst this h
  grind

set_option maxRecDepth 100000 in
set_option maxHeartbeats 1600000 in
theorem byDigit_any (va : Value) (a : List Int) (d : Int) (w : World) (ha : Ls w va a) (da : Dg a) (la : a.length ≤ 1001) (d0 : 1 ≤ d) (d1 : d < 1000000000) :
    Calls Tryd.prog 62 #[va, .int .i64 d] w fun e w' => ∃ v u, e = .returned (.tuple #[v, u]) ∧ Ls w' v (dg (vl a / d)) ∧ Ls w' u (dg (vl a % d)) ∧ Below w.heap.size w w' := by
  obtain ⟨i0, hi, hz0, hz1, hz2⟩ := info_parts Tryd.infoInt
  obtain ⟨pa, ca, rfl, ⟨hca', hna⟩, hqa⟩ := ha
  go_enter Tryd.func62, Tryd.ntmps62
  go_wp2_with (refine wpList_make_full _ rfl (.tmp 9) (.tmp 9) 65 rfl w.heap.size 3 i0 (.int .i64 0) 1 Tryd.underlying65 hi hz0 hz1 .i64 .i64 (a.length : Int) (a.length : Int) a.length rfl rfl (by omega) (by omega) (by rw [hz2]; omega) (by unfold maxLen; omega) (Nat.le_refl _) ?_)
  intro w1 hown hgrow
  have hr := Rw.made hown
  have hnx : Below w.heap.size w w1 := (Below.refl _ _).grown hgrow (Nat.le_refl _) (fun k hk => by cases hk)
  clear hgrow hown
  go_wp2
  go_loopw [6, 7] (fun n i wr => ∃ (k : Nat) (m : Int) (Q : List Int), n = .int .i64 m ∧ i = .int .i64 ((k : Int) - 1) ∧ k ≤ a.length ∧ 0 ≤ m ∧ m < d ∧ Q.length = a.length ∧ Dg Q ∧ (∀ j, j < k → el Q j = 0) ∧ Hid (vl (a.drop k) = d * vl (Q.drop k) + m) ∧ Rw wr w.heap.size Q ∧ Below w.heap.size w wr)
    (fun _ i _ => (intOf i + 1).toNat)
  case atStart => exact ⟨a.length, 0, _, rfl, rfl, Nat.le_refl _, Int.le_refl _, by omega, by simp, Dig.zeros (by omega) _, (fun j _ => by have := el_zeros [] a.length j; rw [List.nil_append] at this; rw [this]; rfl), Lib.hid (by rw [List.drop_length, List.drop_eq_nil_of_le (by simp)]; simp [vl, val]), hr, hnx⟩
  case round =>
    clear hr hnx
    obtain ⟨k, m, Q, rfl, rfl, hk, m0, m1, hl, hd, hz, hv, hr, hnx⟩ := hrel
    cases k with
    | zero =>
      have hls : Ls wr (.slice (some ⟨w.heap.size, 0, none⟩) a.length a.length) Q := by rw [← hl]; exact hr.ls
      have hc := trimmed_any _ Q wr hls hd (by omega)
      have e := hv.out
      rw [List.drop_zero, List.drop_zero] at e
      have hm := fun w => ofSmall_any m w m0 (by omega)
      have e1 : vl a / d = vl Q ∧ vl a % d = m := by
        rw [e, Int.add_comm, Int.add_mul_ediv_left _ _ (by omega), Int.ediv_eq_zero_of_lt m0 m1, Int.add_mul_emod_self_left, Int.emod_eq_of_lt m0 m1]
        exact ⟨by omega, rfl⟩
      have He := Lib.hid e1
      clear e1 e hv hz hd hls
      go_wp2_with fail
      go_at_call 57
      refine hc.mono ?_
      rintro e w4 ⟨v, rfl, hs, rfl⟩
      go_wp2_with fail
      go_at_call 58
      refine (hm _).mono ?_
      rintro e w5 ⟨u, rfl, hs2, hb5⟩
      go_wp2
      go_ret2
      have hz5 := hnx.size
      exact ⟨v, u, rfl, by rw [He.out.1]; exact hs.keep hb5, by rw [He.out.2]; exact hs2, by (repeat (first | with_reducible exact Below.refl _ _ | with_reducible assumption | refine Below.alloc ?_ (by (try simp); try omega) _ | refine Below.setCell ?_ (by (try simp); try omega) _ | refine below_drewN ?_ _ | refine Below.drew ?_ | (with_reducible refine Below.trans ?_ (Below.mono (by assumption) (by (try simp); try omega)))))⟩
    | succ p =>
      rw [show (((p + 1 : Nat) : Int) - 1) = (p : Int) by omega]
      obtain ⟨ba, oa, rfl, hxa⟩ := hqa (by omega)
      have hc := lkeep hnx (hxa p (by omega))
      have dr := da.el (by omega) p
      have hstep := digit_step (el a p) hv.out
      have eA : vl (a.drop p) = el a p + 1000000000 * vl (a.drop (p + 1)) := val_drop_pred _ _ _ (by omega)
      rw [← eA] at hstep
      obtain ⟨r, er⟩ : ∃ r, el a p = r := ⟨_, rfl⟩
      rw [er] at hc dr hstep
      have hcq := hr.cell (i := p) (by omega)
      have hfq := hr.frz p
      have hN : 0 ≤ m * 1000000000 + r ∧ m * 1000000000 + r < d * 1000000000 := by omega
      have hq0 : 0 ≤ (m * 1000000000 + r) / d := Int.ediv_nonneg hN.1 (by omega)
      have hq1 : (m * 1000000000 + r) / d < 1000000000 := Int.ediv_lt_of_lt_mul (by omega) (by rw [Int.mul_comm 1000000000 d]; exact hN.2)
      have hr0 : 0 ≤ (m * 1000000000 + r) % d := Int.emod_nonneg _ (by omega)
      have hr1 : (m * 1000000000 + r) % d < d := Int.emod_lt_of_pos _ (by omega)
      have hdne : d ≠ 0 := by omega
      replace hstep := Lib.hid hstep
      clear er eA hxa hv
      go_wp2
      go_region
      go_wp2
      go_roundw
      case rel =>
        refine ⟨p, _, Q.set p ((m * 1000000000 + r) / d), rfl, rfl, by omega, hr0, hr1, by simpa using hl, hd.set _ hq0 hq1, fun j hj => ?_, Lib.hid ?_, hr.stored p _, by (repeat (first | with_reducible exact Below.refl _ _ | with_reducible assumption | refine Below.alloc ?_ (by (try simp); try omega) _ | refine Below.setCell ?_ (by (try simp); try omega) _ | refine below_drewN ?_ _ | refine Below.drew ?_ | (with_reducible refine Below.trans ?_ (Below.mono (by assumption) (by (try simp); try omega)))))⟩
        · rw [el_set_ne _ _ _ _ (by omega)]; exact hz j (by omega)
        · rw [drop_set_eq _ _ _ (by omega)]; exact hstep.out
      case measure => simp [intOf]
theorem byDigit_num (va : Value) (x d : Int) (w : World) (x0 : 0 ≤ x) (ha : Ls w va (dg x)) (la : (dg x).length ≤ 1001) (d0 : 1 ≤ d) (d1 : d < 1000000000) :
    Calls Tryd.prog 62 #[va, .int .i64 d] w fun e w' => ∃ v u, e = .returned (.tuple #[v, u]) ∧ Ls w' v (dg (x / d)) ∧ Ls w' u (dg (x % d)) ∧ Below w.heap.size w w' := by
  have := byDigit_any va _ d w ha (dg_dig x x0) la d0 d1
  rwa [dg_val x x0] at this

theorem len_le_two {x : Int} (hx : 0 ≤ x) : (dg x).length ≤ 2 ↔ x < 1000000000000000000 := dg_len hx 2
set_option maxRecDepth 100000 in
set_option maxHeartbeats 1600000 in
theorem divided_any (va vb : Value) (x y : Int) (w : World) (x0 : 0 ≤ x) (y0 : 0 < y) (ha : Ls w va (dg x)) (hb : Ls w vb (dg y)) (la : (dg x).length ≤ 1000) (lb : (dg y).length ≤ 1000) :
    Calls Tryd.prog 44 #[va, vb] w fun e w' => ∃ v u, e = .returned (.tuple #[v, u]) ∧ Ls w' v (dg (x / y)) ∧ Ls w' u (dg (x % y)) ∧ Below w.heap.size w w' := by
  have hy1 := dg_len_pos y0
  by_cases c1 : (dg x).length ≤ 2 ∧ (dg y).length ≤ 2
  · have hx := (len_le_two x0).1 c1.1
    have hy := (len_le_two (by omega)).1 c1.2
    have s1 := fun w h => small_any va x w x0 hx h
    have s2 := fun w h => small_any vb y w (by omega) hy h
    have q0 : 0 ≤ x / y := Int.ediv_nonneg x0 (by omega)
    have q1 : x / y ≤ x := Int.ediv_le_self y x0
    have r0 : 0 ≤ x % y := Int.emod_nonneg x (by omega)
    have r1 : x % y < y := Int.emod_lt_of_pos x y0
    have o1 := fun w => ofSmall_any (x / y) w q0 (by omega)
    have o2 := fun w => ofSmall_any (x % y) w r0 (by omega)
    have ha' := ha
    have hb' := hb
    obtain ⟨pa, ca, rfl, ⟨hca', hna⟩, hqa⟩ := ha
    obtain ⟨pb, cb, rfl, ⟨hcb', hnb⟩, hqb⟩ := hb
    have hyne : y ≠ 0 := by omega
    have hq := Int.tdiv_eq_ediv_of_nonneg (b := y) x0
    have hm := Int.tmod_eq_emod_of_nonneg (b := y) x0
    have t1 : IntKind.i64.wrap (x.tdiv y) = x / y := by rw [hq]; exact IntWalk.i64_in _ (by omega)
    have t2 : IntKind.i64.wrap (x.tmod y) = x % y := by rw [hm]; exact IntWalk.i64_in _ (by omega)
    clear q1 r1 hq
    generalize (dg x).length = n at *
    generalize (dg y).length = m at *
    clear hqa hqb
    go_enter Tryd.func44, Tryd.ntmps44
    go_wp2_with fail
    go_at_call 60
    refine (s1 _ ha').mono ?_
    rintro e w1 ⟨rfl, hb1⟩
    go_wp2_with fail
    go_at_call 60
    refine (s2 _ (hb'.keep hb1)).mono ?_
    rintro e w2 ⟨rfl, hb2⟩
    go_wp2
    go_region_held3 (fun _ => True) (trivial) (first | (go_at_call 58; (with_reducible refine (o1 _).mono ?_); rintro e w3 ⟨v, rfl, hs1, hb3⟩) | (go_at_call 58; (with_reducible refine (o2 _).mono ?_); rintro e w4 ⟨u, rfl, hs2, hb4⟩))
    have z1 := hb1.size
    have z2 := hb2.size
    have z3 := hb3.size
    have B2 := hb1.trans (hb2.mono z1)
    have B3 := B2.drew.trans (hb3.mono B2.drew.size)
    have B4 := B3.trans (hb4.mono B3.size)
    go_wp2
    go_ret2
    exact ⟨v, u, rfl, hs1.keep hb4, hs2, B4⟩
  · by_cases c2 : (dg y).length = 1
    · have hy : y < 1000000000 := by
        have := (dg_len (x := y) (by omega) 1).1 (by omega)
        omega
      have hd := fun w h => byDigit_num va x y w x0 h (by omega) (by omega) hy
      have ha' := ha
      obtain ⟨pa, ca, rfl, ⟨hca', hna⟩, hqa⟩ := ha
      obtain ⟨pb, cb, rfl, ⟨hcb', hnb⟩, hqb⟩ := hb
      obtain ⟨bb, ob, rfl, hxb⟩ := hqb (by omega)
      have hc := hxb 0 (by omega)
      rw [dg_small y0 hy] at hc
      rw [show el [y] 0 = y from rfl, Nat.add_zero] at hc
      have hl2 : ¬ (dg x).length ≤ 2 := by omega
      rw [c2]
      generalize (dg x).length = n at *
      clear hqa hqb hxb hca' hna hcb' hnb la lb c1 c2 hy1
      go_enter Tryd.func44, Tryd.ntmps44
      go_wp2_with (go_at_call 62; refine (hd _ ha').mono ?_; rintro e w1 ⟨v, u, rfl, hs1, hs2, hb1⟩)
      go_ret2
      exact ⟨v, u, rfl, hs1, hs2, hb1⟩
    · by_cases c3 : (dg x).length < (dg y).length
      · have hxy := dg_shorter x0 (show 0 ≤ y by omega) c3
        rw [Int.ediv_eq_zero_of_lt x0 hxy, Int.emod_eq_of_lt x0 hxy, dg_zero]
        have c4 : ¬ (dg y).length ≤ 2 := by omega
        obtain ⟨i0, hi, hz0, hz1, hz2⟩ := info_parts Tryd.infoInt
        obtain ⟨pa, ca, rfl, ⟨hca', hna⟩, hqa⟩ := ha
        obtain ⟨pb, cb, rfl, ⟨hcb', hnb⟩, hqb⟩ := hb
        have hown : (w.alloc (.cells #[] 3)).ownsRow w.heap.size 3 1 (.slice (some ⟨w.heap.size, 0, none⟩) 0 0) 0 [] := World.ownsRow_lit w #[] 0 (Nat.le_refl _) (by unfold maxLen; omega) rfl
        cases pa with
        | none =>
          have h0 := hna rfl
          have hx0 : dg x = [] := List.length_eq_zero_iff.1 (by omega)
          rw [hx0]
          subst h0
          clear hqa hqb hca' hcb' hna hnb c1 c3
          rw [hx0] at la
          generalize (dg y).length = m at *
          rw [List.length_nil]
          go_enter Tryd.func44, Tryd.ntmps44
          go_wp2_with (refine wpList_append_own_none rfl _ _ 65 rfl w.heap.size 3 i0 1 Tryd.underlying65 hi _ 0 [] rfl hown rfl ?_)
          go_ret2
          exact ⟨_, _, rfl, Ls.nil _, ⟨_, 0, rfl, ⟨Nat.le_refl _, fun h => by cases h⟩, fun h => absurd h (by simp)⟩, by (repeat (first | with_reducible exact Below.refl _ _ | with_reducible assumption | refine Below.alloc ?_ (by (try simp); try omega) _ | refine Below.setCell ?_ (by (try simp); try omega) _ | refine below_drewN ?_ _ | refine Below.drew ?_ | (with_reducible refine Below.trans ?_ (Below.mono (by assumption) (by (try simp); try omega)))))⟩
        | some ad =>
          obtain ⟨X, hX⟩ : ∃ X, X = (dg x).map (Value.int .i64) := ⟨_, rfl⟩
          have hXl : X.length = (dg x).length * 1 := by rw [hX]; simp
          have hXc : ∀ v ∈ X, v.oneCell' = true := by rw [hX]; exact map_oneCell _
          have hXp : ∀ (j : Nat) (v : Value), X[j]? = some v → (w.alloc (.cells #[] 3)).cell? (ad.add j) = some v := by
            intro j v hv
            have hlt : 0 < X.length := by
              rcases Nat.eq_zero_or_pos X.length with h | h
              · rw [List.length_eq_zero_iff.1 h] at hv; simp at hv
              · exact h
            obtain ⟨ad', e, h⟩ := src_pos hX hqa (Below.alloc (Below.refl _ _) (Nat.le_refl _) (.cells #[] 3)) hlt
            cases e
            exact h j v hv
          have hend : ∀ w' v', w'.ownsRow w.heap.size 3 1 v' (0 + (dg x).length) ([] ++ X) → Ls w' v' (dg x) := fun w' v' h => by
            rw [Nat.zero_add, List.nil_append, hX] at h
            exact Ls.own h
          clear hX hqa hqb hca' hcb' hna hnb c1
          have hHend := Lib.hid hend
          clear hend
          generalize (dg x).length = n at *
          generalize (dg y).length = m at *
          go_enter Tryd.func44, Tryd.ntmps44
          go_wp2_with (refine wpList_append_own _ rfl _ _ 65 rfl w.heap.size 3 i0 (.int .i64 0) 1 8 Tryd.underlying65 hi hz0 hz1 hz2 rfl (by decide) _ 0 [] rfl hown ad n ca X rfl hXl hXp hXc (by unfold maxLen; omega) (by omega) (by simp) ?_; intro v' w1 hown' hgrow _; refine Hid.out ?_)
          all_goals
            refine Lib.hid ?_
            have hs := hHend.out _ _ hown'
            have hb : Below w.heap.size w w1 := ((Below.refl _ _).alloc (Nat.le_refl _) _).grown hgrow (by simp) (fun k hk => by cases hk; exact Nat.le_refl _)
            clear hown' hgrow
            go_wp2
            go_ret2
            exact ⟨_, _, rfl, Ls.nil _, hs, hb⟩
      · have hd := fun w h1 h2 => divLong_any va vb x y w x0 y0 h1 h2 la (by omega) (by omega)
        have ha' := ha
        have hb' := hb
        obtain ⟨pa, ca, rfl, ⟨hca', hna⟩, hqa⟩ := ha
        obtain ⟨pb, cb, rfl, ⟨hcb', hnb⟩, hqb⟩ := hb
        generalize (dg x).length = n at *
        generalize (dg y).length = m at *
        have e1 : ¬ n ≤ 2 := by omega
        clear hqa hqb c1
        go_enter Tryd.func44, Tryd.ntmps44
        go_wp2_with (go_at_call 65; refine (hd _ ha' hb').mono ?_; rintro e w1 ⟨v, u, rfl, hs1, hs2, hb1⟩)
        go_ret2
        exact ⟨v, u, rfl, hs1, hs2, hb1⟩
/-- Where the divisor has three digits or more, the rest lies in memory of its own. -/
theorem divided_own (va vb : Value) (x y : Int) (w : World) (x0 : 0 ≤ x) (y0 : 0 < y) (ha : Ls w va (dg x)) (hb : Ls w vb (dg y)) (la : (dg x).length ≤ 1000) (lb : 3 ≤ (dg y).length) (hab : (dg y).length ≤ (dg x).length) :
    Calls Tryd.prog 44 #[va, vb] w fun e w' => ∃ v u, e = .returned (.tuple #[v, u]) ∧ Ls w' v (dg (x / y)) ∧ Ow w' w.heap.size w.heap.size u (dg (x % y)) ∧ Below w.heap.size w w' := by
  have hd := fun w h1 h2 => divLong_own va vb x y w x0 y0 h1 h2 la (by omega) (by omega)
  have ha' := ha
  have hb' := hb
  obtain ⟨pa, ca, rfl, ⟨hca', hna⟩, hqa⟩ := ha
  obtain ⟨pb, cb, rfl, ⟨hcb', hnb⟩, hqb⟩ := hb
  generalize (dg x).length = n at *
  generalize (dg y).length = m at *
  have e1 : ¬ n ≤ 2 := by omega
  have c2 : ¬ m = 1 := by omega
  have c3 : ¬ n < m := by omega
  clear hqa hqb
  go_enter Tryd.func44, Tryd.ntmps44
  go_wp2_with (go_at_call 65; refine (hd _ ha' hb').mono ?_; rintro e w1 ⟨v, u, rfl, hs1, hs2, hs3, hb1⟩)
  go_ret2
  exact ⟨v, u, rfl, hs1, hs3, hb1⟩
end Go.Proofs.YthhbnhdejbpjiaaDoor
