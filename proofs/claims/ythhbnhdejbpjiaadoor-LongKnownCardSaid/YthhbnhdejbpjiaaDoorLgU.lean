/-
  Walks: slices.Clone; of package long: divisor, where the second number is small.
-/
import Derived.Test.YthhbnhdejbpjiaaDoorLgS
namespace Go.Proofs.YthhbnhdejbpjiaaDoor
open Go.RowKit

theorem eql_nil (t e : TypeId) (a : Option Addr) (n c : Nat) (w : World) (h : Tryd.prog.underlying t = some (.slice e)) : (binOp .eql t (.slice a n c) (.slice none 0 0)).run Tryd.prog w = .ok (.bool a.isNone) w := by
  simp only [binOp]; simp [run_equal_slice_nil w t e a n c h]
set_option maxRecDepth 100000 in
theorem cloneD (v : Value) (l : List Int) (w : World) (h : Ls w v l) (hl : l.length ≤ 100000) :
    Calls Tryd.prog 63 #[v] w fun e w' => ∃ u, e = .returned u ∧ Ls w' u l ∧ Below w.heap.size w w' := by
  obtain ⟨i0, hi, hz0, hz1, hz2⟩ := info_parts Tryd.infoInt
  obtain ⟨pa, ca, rfl, ⟨hca', hna⟩, hqa⟩ := h
  cases pa with
  | none =>
    have h0 := hna rfl
    subst h0
    have hl0 : l = [] := List.length_eq_zero_iff.1 (by omega)
    subst hl0
    clear hqa hca' hna
    rw [List.length_nil]
    have hq := fun w : World => eql_nil 65 3 none 0 0 w Tryd.underlying65
    rw [show (none : Option Addr).isNone = true from rfl] at hq
    go_enter Tryd.func63, Tryd.ntmps63
    go_wp2
    go_ret
    exact ⟨_, rfl, Ls.nil _, Below.refl _ _⟩
  | some ad =>
    have hown : (w.alloc (.cells #[] 3)).ownsRow w.heap.size 3 1 (.slice (some ⟨w.heap.size, 0, none⟩) 0 0) 0 [] := World.ownsRow_lit w #[] 0 (Nat.le_refl _) (by unfold maxLen; omega) rfl
    obtain ⟨X, hX⟩ : ∃ X, X = l.map (Value.int .i64) := ⟨_, rfl⟩
    have hXl : X.length = l.length * 1 := by rw [hX]; simp
    have hXc : ∀ v ∈ X, v.oneCell' = true := by rw [hX]; exact map_oneCell _
    have hXp : ∀ (j : Nat) (v : Value), X[j]? = some v → (w.alloc (.cells #[] 3)).cell? (ad.add j) = some v := by
      intro j v hv
      have hlt : 0 < X.length := by
        rcases Nat.eq_zero_or_pos X.length with h | h
        · rw [List.length_eq_zero_iff.1 h] at hv; simp at hv
        · exact h
      obtain ⟨ad', e, h⟩ := src_pos hX hqa (Below.alloc (Below.refl _ _) (Nat.le_refl _) (.cells #[] 3)) hlt
      cases e
      exact h j v hv
    have hend : ∀ w' v', w'.ownsRow w.heap.size 3 1 v' (0 + l.length) ([] ++ X) → Ls w' v' l := fun w' v' h => by
      rw [Nat.zero_add, List.nil_append, hX] at h
      exact Ls.own h
    have hHend := Lib.hid hend
    clear hX hqa hca' hna hend
    generalize l.length = n at *
    have hq := fun w : World => eql_nil 65 3 (some ad) n ca w Tryd.underlying65
    rw [show (some ad : Option Addr).isNone = false from rfl] at hq
    go_enter Tryd.func63, Tryd.ntmps63
    go_wp2_with (refine wpList_append_own _ rfl _ _ 65 rfl w.heap.size 3 i0 (.int .i64 0) 1 8 Tryd.underlying65 hi hz0 hz1 hz2 rfl (by decide) _ 0 [] rfl hown ad n ca X rfl hXl hXp hXc (by unfold maxLen; omega) (by omega) (by simp) ?_; intro v' w1 hown' hgrow _; refine Hid.out ?_)
    refine Lib.hid ?_
    have hs := hHend.out _ _ hown'
    have hb : Below w.heap.size w w1 := ((Below.refl _ _).alloc (Nat.le_refl _) _).grown hgrow (by simp) (fun k hk => by cases hk; exact Nat.le_refl _)
    clear hown' hgrow
    go_wp2
    go_ret
    exact ⟨_, rfl, hs, hb⟩
set_option maxRecDepth 100000 in
theorem cloneI (v : Value) (l : List Int) (w : World) (h : Ls w v l) (hl : l.length ≤ 100000) :
    Calls Tryd.prog 8 #[v] w fun e w' => ∃ u, e = .returned u ∧ Ls w' u l ∧ Below w.heap.size w w' := by
  obtain ⟨i0, hi, hz0, hz1, hz2⟩ := info_parts Tryd.infoInt
  obtain ⟨pa, ca, rfl, ⟨hca', hna⟩, hqa⟩ := h
  cases pa with
  | none =>
    have h0 := hna rfl
    subst h0
    have hl0 : l = [] := List.length_eq_zero_iff.1 (by omega)
    subst hl0
    clear hqa hca' hna
    rw [List.length_nil]
    have hq := fun w : World => eql_nil 23 3 none 0 0 w Tryd.underlying23
    rw [show (none : Option Addr).isNone = true from rfl] at hq
    go_enter Tryd.func8, Tryd.ntmps8
    go_wp2
    go_ret
    exact ⟨_, rfl, Ls.nil _, Below.refl _ _⟩
  | some ad =>
    have hown : (w.alloc (.cells #[] 3)).ownsRow w.heap.size 3 1 (.slice (some ⟨w.heap.size, 0, none⟩) 0 0) 0 [] := World.ownsRow_lit w #[] 0 (Nat.le_refl _) (by unfold maxLen; omega) rfl
    obtain ⟨X, hX⟩ : ∃ X, X = l.map (Value.int .i64) := ⟨_, rfl⟩
    have hXl : X.length = l.length * 1 := by rw [hX]; simp
    have hXc : ∀ v ∈ X, v.oneCell' = true := by rw [hX]; exact map_oneCell _
    have hXp : ∀ (j : Nat) (v : Value), X[j]? = some v → (w.alloc (.cells #[] 3)).cell? (ad.add j) = some v := by
      intro j v hv
      have hlt : 0 < X.length := by
        rcases Nat.eq_zero_or_pos X.length with h | h
        · rw [List.length_eq_zero_iff.1 h] at hv; simp at hv
        · exact h
      obtain ⟨ad', e, h⟩ := src_pos hX hqa (Below.alloc (Below.refl _ _) (Nat.le_refl _) (.cells #[] 3)) hlt
      cases e
      exact h j v hv
    have hend : ∀ w' v', w'.ownsRow w.heap.size 3 1 v' (0 + l.length) ([] ++ X) → Ls w' v' l := fun w' v' h => by
      rw [Nat.zero_add, List.nil_append, hX] at h
      exact Ls.own h
    have hHend := Lib.hid hend
    clear hX hqa hca' hna hend
    generalize l.length = n at *
    have hq := fun w : World => eql_nil 23 3 (some ad) n ca w Tryd.underlying23
    rw [show (some ad : Option Addr).isNone = false from rfl] at hq
    go_enter Tryd.func8, Tryd.ntmps8
    go_wp2_with (refine wpList_append_own _ rfl _ _ 23 rfl w.heap.size 3 i0 (.int .i64 0) 1 8 Tryd.underlying23 hi hz0 hz1 hz2 rfl (by decide) _ 0 [] rfl hown ad n ca X rfl hXl hXp hXc (by unfold maxLen; omega) (by omega) (by simp) ?_; intro v' w1 hown' hgrow _; refine Hid.out ?_)
    refine Lib.hid ?_
    have hs := hHend.out _ _ hown'
    have hb : Below w.heap.size w w1 := ((Below.refl _ _).alloc (Nat.le_refl _) _).grown hgrow (by simp) (fun k hk => by cases hk; exact Nat.le_refl _)
    clear hown' hgrow
    go_wp2
    go_ret
    exact ⟨_, rfl, hs, hb⟩
/-- The greatest common divisor. -/
def gI (x y : Int) : Int := (Nat.gcd x.toNat y.toNat : Nat)
theorem gI_zero {x : Int} (hx : 0 ≤ x) : gI x 0 = x := by unfold gI; simp; omega
theorem gI_comm (x y : Int) : gI x y = gI y x := by unfold gI; rw [Nat.gcd_comm]
theorem gI_step {x y : Int} (hy : 0 ≤ y) (hx : 0 ≤ x) : gI x y = gI y (x % y) := by
  unfold gI
  rw [Int.toNat_emod hx hy, Nat.gcd_comm, Nat.gcd_rec, Nat.gcd_comm]
set_option maxRecDepth 100000 in
set_option maxHeartbeats 1600000 in
theorem divisor_ge (va vb : Value) (x y : Int) (w : World) (y0 : 0 ≤ y) (hxy : y ≤ x) (ha : Ls w va (dg x)) (hb : Ls w vb (dg y)) (la : (dg x).length ≤ 600) (lb : (dg y).length ≤ 2) :
    Calls Tryd.prog 43 #[va, vb] w fun e w' => ∃ v, e = .returned v ∧ Ls w' v (dg (gI x y)) ∧ Below w.heap.size w w' := by
  have x0 : 0 ≤ x := by omega
  have hy := (len_le_two y0).1 lb
  have hcm := compare_num va vb x y w x0 y0 ha hb (by omega) (by omega)
  have hd0 : 0 ≤ cmpI x y := by unfold cmpI; rw [if_neg (by omega)]; split <;> omega
  generalize cmpI x y = dcm at *
  have ha' := ha
  have hb' := hb
  obtain ⟨pa, ca, rfl, _, _⟩ := ha
  obtain ⟨pb, cb, rfl, _, _⟩ := hb
  by_cases hz : y = 0
  · subst hz
    have hg : gI x 0 = x := gI_zero x0
    rw [hg]
    have hcl := fun w h => cloneD (.slice pa (dg x).length ca) (dg x) w h (by omega)
    have hl0 : (dg (0 : Int)).length = 0 := by rw [dg_zero]; rfl
    generalize (dg x).length = n at *
    rw [hl0] at *
    clear hg la lb hl0
    go_enter Tryd.func43, Tryd.ntmps43
    go_wp2_with fail
    go_at_call 50
    refine hcm.mono ?_
    rintro e w1 ⟨rfl, hb1⟩
    go_wp2_with fail
    go_at_call 63
    refine (hcl _ (ha'.keep hb1)).mono ?_
    rintro e w2 ⟨u, rfl, hu, hb2⟩
    go_wp2
    go_ret
    exact ⟨u, rfl, hu, hb1.trans (hb2.mono hb1.size)⟩
  · have hy1 : 0 < y := by omega
    have hlp := dg_len_pos hy1
    have hd := fun w h1 h2 => divided_any (.slice pa (dg x).length ca) (.slice pb (dg y).length cb) x y w x0 hy1 h1 h2 (by omega) (by omega)
    have r0 : 0 ≤ x % y := Int.emod_nonneg x hz
    have r1 : x % y < y := Int.emod_lt_of_pos x hy1
    have hs1 := fun w h => small_any (.slice pb (dg y).length cb) y w y0 hy h
    have hs2 := fun w v h => small_any v (x % y) w r0 (by omega) h
    have hg : gI x y = gI y (x % y) := gI_step y0 x0
    rw [hg]
    clear hg
    generalize x % y = r at *
    generalize hG : gI y r = G at *
    generalize (dg x).length = n at *
    generalize (dg y).length = m at *
    have hG' := Lib.hid hG
    clear hG la
    go_enter Tryd.func43, Tryd.ntmps43
    go_wp2_with fail
    go_at_call 50
    refine hcm.mono ?_
    rintro e w1 ⟨rfl, hb1⟩
    go_wp2_with fail
    go_at_call 44
    refine (hd _ (ha'.keep hb1) (hb'.keep hb1)).mono ?_
    rintro e w2 ⟨q, u, rfl, hq, hu, hb2⟩
    have B2 := hb1.trans (hb2.mono hb1.size)
    go_wp2_with fail
    go_at_call 60
    refine (hs1 _ (hb'.keep B2)).mono ?_
    rintro e w3 ⟨rfl, hb3⟩
    go_wp2_with fail
    go_at_call 60
    refine (hs2 _ u (hu.keep hb3)).mono ?_
    rintro e w4 ⟨rfl, hb4⟩
    have B3 := B2.trans (hb3.mono B2.size)
    have B4 := B3.trans (hb4.mono B3.size)
    clear hd hs1 hs2 hcm hq hu ha' hb' hb1 hb2 hb3 hb4 B2 B3
    go_wp2
    go_loopw [7, 8] (fun a b wr => ∃ p q : Int, a = .int .i64 p ∧ b = .int .i64 q ∧ 0 ≤ p ∧ p < 1000000000000000000 ∧ 0 ≤ q ∧ q < 1000000000000000000 ∧ Hid (gI p q = G) ∧ Below w.heap.size w wr)
      (fun _ b _ => (intOf b).toNat)
    case atStart => exact ⟨y, r, rfl, rfl, y0, hy, r0, by omega, hG', B4⟩
    case round =>
      clear hG' B4 r0 r1
      obtain ⟨p, t, rfl, rfl, p0, p1, t0, t1, hg, hB⟩ := hrel
      by_cases ht : t = 0
      · subst ht
        have e := hg.out
        rw [gI_zero p0] at e
        subst e
        have ho := fun w => ofSmall_any p w p0 p1
        clear hg
        go_wp2_with (go_at_call 58; refine (ho _).mono ?_; rintro e w5 ⟨v, rfl, hs, hb5⟩)
        go_ret
        exact ⟨v, rfl, hs, hB.trans (hb5.mono hB.size)⟩
      · have e := hg.out
        rw [gI_step t0 p0] at e
        replace e := Lib.hid e
        have m0 : 0 ≤ p % t := Int.emod_nonneg p ht
        have m1 : p % t < t := Int.emod_lt_of_pos p (by omega)
        have hm := Int.tmod_eq_emod_of_nonneg (b := t) p0
        generalize p % t = k at *
        clear hg
        go_wp2
        go_quiet (fail)
        go_wp2
        go_roundw
        case rel => exact ⟨t, k, rfl, rfl, t0, t1, m0, by omega, e, by (repeat (first | with_reducible exact Below.refl _ _ | with_reducible assumption | refine Below.alloc ?_ (by (try simp); try omega) _ | refine Below.setCell ?_ (by (try simp); try omega) _ | refine below_drewN ?_ _ | refine Below.drew ?_ | (with_reducible refine Below.trans ?_ (Below.mono (by assumption) (by (try simp); try omega)))))⟩
        case measure => simp [intOf]; omega
set_option maxRecDepth 100000 in
set_option maxHeartbeats 1600000 in
theorem divisor_lt (va vb : Value) (x y : Int) (w : World) (y0 : 0 ≤ y) (hxy : y < x) (ha : Ls w va (dg x)) (hb : Ls w vb (dg y)) (la : (dg x).length ≤ 600) (lb : (dg y).length ≤ 2) :
    Calls Tryd.prog 43 #[vb, va] w fun e w' => ∃ v, e = .returned v ∧ Ls w' v (dg (gI x y)) ∧ Below w.heap.size w w' := by
  have x0 : 0 ≤ x := by omega
  have hy := (len_le_two y0).1 lb
  have hcm := compare_num vb va y x w y0 x0 hb ha (by omega) (by omega)
  rw [cmpI_lt hxy] at hcm
  have ha' := ha
  have hb' := hb
  obtain ⟨pa, ca, rfl, _, _⟩ := ha
  obtain ⟨pb, cb, rfl, _, _⟩ := hb
  by_cases hz : y = 0
  · subst hz
    have hg : gI x 0 = x := gI_zero x0
    rw [hg]
    have hcl := fun w h => cloneD (.slice pa (dg x).length ca) (dg x) w h (by omega)
    have hl0 : (dg (0 : Int)).length = 0 := by rw [dg_zero]; rfl
    generalize (dg x).length = n at *
    rw [hl0] at *
    clear hg la lb hl0
    go_enter Tryd.func43, Tryd.ntmps43
    go_wp2_with fail
    go_at_call 50
    refine hcm.mono ?_
    rintro e w1 ⟨rfl, hb1⟩
    go_wp2_with fail
    go_at_call 63
    refine (hcl _ (ha'.keep hb1)).mono ?_
    rintro e w2 ⟨u, rfl, hu, hb2⟩
    go_wp2
    go_ret
    exact ⟨u, rfl, hu, hb1.trans (hb2.mono hb1.size)⟩
  · have hy1 : 0 < y := by omega
    have hlp := dg_len_pos hy1
    have hd := fun w h1 h2 => divided_any (.slice pa (dg x).length ca) (.slice pb (dg y).length cb) x y w x0 hy1 h1 h2 (by omega) (by omega)
    have r0 : 0 ≤ x % y := Int.emod_nonneg x hz
    have r1 : x % y < y := Int.emod_lt_of_pos x hy1
    have hs1 := fun w h => small_any (.slice pb (dg y).length cb) y w y0 hy h
    have hs2 := fun w v h => small_any v (x % y) w r0 (by omega) h
    have hg : gI x y = gI y (x % y) := gI_step y0 x0
    rw [hg]
    clear hg
    generalize x % y = r at *
    generalize hG : gI y r = G at *
    generalize (dg x).length = n at *
    generalize (dg y).length = m at *
    have hG' := Lib.hid hG
    clear hG la
    go_enter Tryd.func43, Tryd.ntmps43
    go_wp2_with fail
    go_at_call 50
    refine hcm.mono ?_
    rintro e w1 ⟨rfl, hb1⟩
    go_wp2_with fail
    go_at_call 44
    refine (hd _ (ha'.keep hb1) (hb'.keep hb1)).mono ?_
    rintro e w2 ⟨q, u, rfl, hq, hu, hb2⟩
    have B2 := hb1.trans (hb2.mono hb1.size)
    go_wp2_with fail
    go_at_call 60
    refine (hs1 _ (hb'.keep B2)).mono ?_
    rintro e w3 ⟨rfl, hb3⟩
    go_wp2_with fail
    go_at_call 60
    refine (hs2 _ u (hu.keep hb3)).mono ?_
    rintro e w4 ⟨rfl, hb4⟩
    have B3 := B2.trans (hb3.mono B2.size)
    have B4 := B3.trans (hb4.mono B3.size)
    clear hd hs1 hs2 hcm hq hu ha' hb' hb1 hb2 hb3 hb4 B2 B3
    go_wp2
    go_loopw [7, 8] (fun a b wr => ∃ p q : Int, a = .int .i64 p ∧ b = .int .i64 q ∧ 0 ≤ p ∧ p < 1000000000000000000 ∧ 0 ≤ q ∧ q < 1000000000000000000 ∧ Hid (gI p q = G) ∧ Below w.heap.size w wr)
      (fun _ b _ => (intOf b).toNat)
    case atStart => exact ⟨y, r, rfl, rfl, y0, hy, r0, by omega, hG', B4⟩
    case round =>
      clear hG' B4 r0 r1
      obtain ⟨p, t, rfl, rfl, p0, p1, t0, t1, hg, hB⟩ := hrel
      by_cases ht : t = 0
      · subst ht
        have e := hg.out
        rw [gI_zero p0] at e
        subst e
        have ho := fun w => ofSmall_any p w p0 p1
        clear hg
        go_wp2_with (go_at_call 58; refine (ho _).mono ?_; rintro e w5 ⟨v, rfl, hs, hb5⟩)
        go_ret
        exact ⟨v, rfl, hs, hB.trans (hb5.mono hB.size)⟩
      · have e := hg.out
        rw [gI_step t0 p0] at e
        replace e := Lib.hid e
        have m0 : 0 ≤ p % t := Int.emod_nonneg p ht
        have m1 : p % t < t := Int.emod_lt_of_pos p (by omega)
        have hm := Int.tmod_eq_emod_of_nonneg (b := t) p0
        generalize p % t = k at *
        clear hg
        go_wp2
        go_quiet (fail)
        go_wp2
        go_roundw
        case rel => exact ⟨t, k, rfl, rfl, t0, t1, m0, by omega, e, by (repeat (first | with_reducible exact Below.refl _ _ | with_reducible assumption | refine Below.alloc ?_ (by (try simp); try omega) _ | refine Below.setCell ?_ (by (try simp); try omega) _ | refine below_drewN ?_ _ | refine Below.drew ?_ | (with_reducible refine Below.trans ?_ (Below.mono (by assumption) (by (try simp); try omega)))))⟩
        case measure => simp [intOf]; omega
theorem divisor_small (va vb : Value) (x y : Int) (w : World) (x0 : 0 ≤ x) (y0 : 0 ≤ y) (ha : Ls w va (dg x)) (hb : Ls w vb (dg y)) (la : (dg x).length ≤ 600) (lb : (dg y).length ≤ 600) (hs : (dg x).length ≤ 2 ∨ (dg y).length ≤ 2) :
    Calls Tryd.prog 43 #[va, vb] w fun e w' => ∃ v, e = .returned v ∧ Ls w' v (dg (gI x y)) ∧ Below w.heap.size w w' := by
  by_cases h : y ≤ x
  · have := dg_len_mono y0 h
    exact divisor_ge va vb x y w y0 h ha hb la (by omega)
  · have := dg_len_mono x0 (show x ≤ y by omega)
    rw [gI_comm]
    exact divisor_lt vb va y x w x0 (by omega) hb ha lb (by omega)
end Go.Proofs.YthhbnhdejbpjiaaDoor
