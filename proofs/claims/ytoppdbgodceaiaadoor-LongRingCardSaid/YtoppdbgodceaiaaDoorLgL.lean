/-
  Walks of package long: root.
-/
import Derived.Test.YtoppdbgodceaiaaDoorLgK
import Derived.Deep.LoopGhost
import Derived.Laws.CopyOwn
namespace Go.Proofs.YtoppdbgodceaiaaDoor
open Go.RowKit

theorem dg_shift {y : Int} (hy : 0 < y) (k : Nat) : List.replicate k 0 ++ dg y = dg (y * 1000000000 ^ k) := by
  have e : vl (List.replicate k 0 ++ dg y) = y * 1000000000 ^ k := by
    show val _ _ = _
    rw [val_append, val_zeros, List.length_replicate, show val 1000000000 (dg y) = y from dg_val y (by omega), Int.zero_add, Int.mul_comm]
  rw [← e]
  refine (dg_of ((Dig.zeros (by omega) k).append (dg_dig y (by omega))) (.inr ?_)).symm
  have hl := dg_len_pos hy
  rw [el_eq, List.getD_eq_getElem?_getD, List.length_append, List.getElem?_append_right (by simp; omega), List.length_replicate, show k + (dg y).length - 1 - k = (dg y).length - 1 by omega, ← List.getD_eq_getElem?_getD]
  exact dg_top hy

set_option maxRecDepth 100000 in
set_option maxHeartbeats 1600000 in
theorem improve_any (va vr : Value) (bx : Nat) (x r : Int) (w : World) (x0 : 0 ≤ x) (r0 : 1 ≤ r) (hbx : w.cell? ⟨bx, 0, none⟩ = some va) (ha : Ls w va (dg x)) (hr : Ls w vr (dg r)) (la : (dg x).length ≤ 900) (lr : (dg r).length ≤ 900) :
    Calls Tryd.prog 111 #[vr, .pointer (some ⟨bx, 0, none⟩)] w fun e w' => ∃ v, e = .returned v ∧ Ls w' v (dg ((r + x / r) / 2)) ∧ Below w.heap.size w w' := by
  have q0 : 0 ≤ x / r := Int.ediv_nonneg x0 (by omega)
  have q1 : x / r ≤ x := Int.ediv_le_self r x0
  have lq := dg_len_mono q0 q1
  have ls : (dg (r + x / r)).length ≤ 901 := by
    refine dg_len_le (by omega) ?_
    have h1 := (dg_len (x := r) (by omega) 900).1 lr
    have h2 := (dg_len (x := x / r) q0 900).1 (by omega)
    have h3 := pow9 900
    rw [show 901 = 900 + 1 from rfl, Int.pow_succ]
    generalize (1000000000 : Int) ^ 900 = P at *
    omega
  have hd := fun w h1 h2 => divided_any va vr x r w x0 (by omega) h1 h2 (by omega) (by omega)
  have hp := fun w v h1 h2 => plus_num vr v r (x / r) w (by omega) q0 h1 h2 (by omega) (by omega)
  have h2 := fun w v h => byDigit_num v (r + x / r) 2 w (by omega) h (by omega) (by omega) (by omega)
  generalize (r + x / r) / 2 = m at *
  clear q0 q1 lq ls
  obtain ⟨pa, ca, rfl, hca', hqa⟩ := ha
  have ha : Ls w (.slice pa (dg x).length ca) (dg x) := ⟨pa, ca, rfl, hca', hqa⟩
  clear hca' hqa
  generalize (dg x).length = n at *
  go_enter Tryd.func111, Tryd.ntmps111
  go_wp2_with fail
  go_at_call 78
  refine (hd _ ha hr).mono ?_
  rintro e w1 ⟨v, u, rfl, hs1, hs2, hb1⟩
  go_wp2_with fail
  go_at_call 100
  refine (hp _ v (hr.keep hb1) hs1).mono ?_
  rintro e w2 ⟨s, rfl, hs3, hb2⟩
  go_wp2_with fail
  go_at_call 105
  refine (h2 _ s hs3).mono ?_
  rintro e w3 ⟨v3, u3, rfl, hs4, hs5, hb3⟩
  have B2 := hb1.trans (hb2.mono hb1.size)
  have B3 := B2.trans (hb3.mono B2.size)
  go_wp2
  go_ret
  exact ⟨v3, rfl, hs4, B3⟩

theorem root_small (x : Int) (va : Value) (w : World) (x0 : 0 ≤ x) (ha : Ls w va (dg x)) (la : (dg x).length ≤ 2) :
    Calls Tryd.prog 84 #[va] w fun e w' => ∃ v, e = .returned v ∧ Ls w' v (dg (rt x)) ∧ Below w.heap.size w w' := by
  have hx := (len_le_two x0).1 la
  have hsm := fun w v h => small_any v x w x0 hx h
  have hrt := fun w => smallRoot_any x w x0 hx
  have hb := smallIsqrt x x0 hx
  have ho := fun w => ofSmall_any (rt x) w hb.1 (by omega)
  have hal := Below.alloc (Below.refl w.heap.size w) (Nat.le_refl _) (.cells #[va] 77)
  have ha2 := ha.keep hal
  have hcell : (w.alloc (.cells #[va] 77)).cell? ⟨w.heap.size, 0, none⟩ = some va := by simp
  obtain ⟨pa, ca, rfl, hca', hqa⟩ := ha
  generalize (dg x).length = n at *
  clear hca' hqa
  generalize rt x = R at *
  go_enter Tryd.func84, Tryd.ntmps84
  go_wp2_with fail
  go_at_call 103
  refine (hsm _ _ ha2).mono ?_
  rintro e w1 ⟨rfl, hb1⟩
  go_wp2_with fail
  go_at_call 110
  refine (hrt _).mono ?_
  rintro e w2 ⟨rfl, hb2⟩
  go_wp2_with fail
  go_at_call 104
  refine (ho _).mono ?_
  rintro e w3 ⟨v, rfl, hs, hb3⟩
  have B1 := hal.trans (hb1.mono hal.size)
  have B2 := B1.trans (hb2.mono B1.size)
  have B3 := B2.trans (hb3.mono B2.size)
  go_wp2
  go_ret
  exact ⟨v, rfl, hs, B3⟩

/-- What the root of the first digits comes to. -/
theorem root_begin {x : Int} {p : Nat} (hx : 0 ≤ x) : rt x ≤ (rt (x / 1000000000 ^ (2 * p)) + 1) * 1000000000 ^ p := by
  have := rt_shift hx (pow9 p)
  rwa [← Int.pow_add, show p + p = 2 * p by omega] at this

set_option maxRecDepth 100000 in
set_option maxHeartbeats 4000000 in
theorem root_any (N : Nat) : ∀ (x : Int) (va : Value) (w : World), 0 ≤ x → Ls w va (dg x) → (dg x).length ≤ N → N ≤ 601 →
    Calls Tryd.prog 84 #[va] w fun e w' => ∃ v, e = .returned v ∧ Ls w' v (dg (rt x)) ∧ Below w.heap.size w w' := by
  induction N using Nat.strongRecOn with
  | ind N ih =>
  intro x va w x0 ha la hN
  by_cases hle : (dg x).length ≤ 2
  · exact root_small x va w x0 ha hle
  obtain ⟨i0, hi, hz0, hz1, hz2⟩ := info_parts Tryd.infoInt
  obtain ⟨P, hP⟩ : ∃ P, P = ((dg x).length + 1) / 4 := ⟨_, rfl⟩
  have bP : 1 ≤ P ∧ 2 * P < (dg x).length ∧ P ≤ 151 := by omega
  have eP : (((dg x).length : Int) + 1) / 4 = (P : Int) := by omega
  have hx1 : 1 ≤ x := by
    rcases (by omega : x = 0 ∨ 1 ≤ x) with h | h
    · rw [h, dg_zero] at hle; simp at hle
    · exact h
  have hx2 : 0 ≤ x / 1000000000 ^ (2 * P) := Int.ediv_nonneg x0 (by have := pow9 (2 * P); omega)
  have hdrop := dg_drop x0 (2 * P)
  have hrec := fun v w h => ih (N - 1) (by omega) (x / 1000000000 ^ (2 * P)) v w hx2 h (by rw [← hdrop, List.length_drop]; omega) (by omega)
  obtain ⟨f0, f1, f2⟩ := rt_spec _ hx2
  have hbeg := root_begin (p := P) x0
  have hfx : rt (x / 1000000000 ^ (2 * P)) + 1 ≤ x + 1 := by
    have h1 := rt_le_self hx2
    have h2 := Int.ediv_le_self (1000000000 ^ (2 * P)) x0
    omega
  generalize rt (x / 1000000000 ^ (2 * P)) = f at *
  have lf : (dg (f + 1)).length ≤ (dg x).length + 1 := by
    refine dg_len_le (by omega) ?_
    have h1 := dg_lt x0
    have h2 := pow9 (dg x).length
    rw [Int.pow_succ]
    generalize (1000000000 : Int) ^ (dg x).length = Q at *
    omega
  have lf1 : (dg f).length ≤ (dg (f + 1)).length := dg_len_mono f0 (by omega)
  have hplus := fun w v u h1 h2 => plus_num v u f 1 w f0 (by omega) h1 h2 (by omega) (by rw [dg_small (by omega) (by omega)]; simp)
  have hsh := dg_shift (show 0 < f + 1 by omega) P
  have hrl : (dg ((f + 1) * 1000000000 ^ P)).length ≤ 900 := by rw [← hsh]; simp; omega
  have hr1 : 1 ≤ (f + 1) * 1000000000 ^ P := by have := Int.mul_pos (show 0 < f + 1 by omega) (pow9 P); omega
  generalize (f + 1) * 1000000000 ^ P = r0 at *
  have hnew := fun r h => newton (x := x) (r := r) hx1 h
  have himp := fun bx vr r w r1 h1 h2 h3 lr => improve_any va vr bx x r w x0 r1 h1 h2 h3 (by omega) lr
  have hcmp := fun vn vr n r w n0 r0 h1 h2 ln lr => compare_num vn vr n r w n0 r0 h1 h2 ln lr
  have hal := Below.alloc (Below.refl w.heap.size w) (Nat.le_refl _) (.cells #[va] 77)
  have ha2 := ha.keep hal
  have hcell : (w.alloc (.cells #[va] 77)).cell? ⟨w.heap.size, 0, none⟩ = some va := by simp
  have ha3 := ha2
  obtain ⟨pa, ca, rfl, ⟨hca', hna⟩, hqa⟩ := ha3
  obtain ⟨ba, oa, rfl, hxa⟩ := hqa (by omega)
  have hsl : Ls (w.alloc (.cells #[.slice (some ⟨ba, oa, none⟩) (dg x).length ca] 77)) (.slice (some ⟨ba, oa + 2 * P, none⟩) ((dg x).length - 2 * P) (ca - 2 * P)) (dg (x / 1000000000 ^ (2 * P))) := by
    rw [← hdrop]
    exact Ls.drop (by omega) hca' hxa
  have hPc : 2 * P < ca := by omega
  generalize x / 1000000000 ^ (2 * P) = y at *
  have Hh := Lib.hid (And.intro hbeg (And.intro hnew (And.intro himp hcmp)))
  have HL := Lib.hid (And.intro lf (And.intro lf1 hsh))
  clear hbeg hnew himp hcmp hqa hxa hfx f1 f2 hdrop lf lf1 hsh hca' hna ih hP
  have hlx : ¬ (dg x).length ≤ 2 := hle
  have hN3 : (dg x).length ≤ 601 := by omega
  generalize hnx : (dg x).length = n at *
  clear la hle
  go_enter Tryd.func84, Tryd.ntmps84
  go_wp2_with fail
  rw [eP]
  go_at_call 84
  refine (hrec _ _ hsl).mono ?_
  rintro e w1 ⟨v1, rfl, hs1, hb1⟩
  have B1 := hal.trans (hb1.mono hal.size)
  have hcell1 := lkeep hb1 hcell
  have hx1' := ha2.keep hb1
  have hal1 := Below.alloc (Below.refl w1.heap.size w1) (Nat.le_refl _) (.cells #[.int .i64 1] 3)
  have hone : Ls (w1.alloc (.cells #[.int .i64 1] 3)) (.slice (some ⟨w1.heap.size, 0, none⟩) 1 1) (dg 1) := by
    rw [dg_small (by omega) (by omega)]
    refine ⟨_, 1, rfl, ⟨Nat.le_refl _, fun h => by cases h⟩, fun _ => ⟨_, _, rfl, fun i hi => ?_⟩⟩
    match i, hi with
    | 0, _ => simp [el]
  have hs1' := hs1.keep hal1
  have hcell2 := lkeep hal1 hcell1
  have hx2' := hx1'.keep hal1
  have B1' := B1.trans (hal1.mono B1.size)
  clear hrec hsl hcell ha2 hb1 hal
  go_wp2_with fail
  go_at_call 100
  refine (hplus _ _ _ hs1' hone).mono ?_
  rintro e w2 ⟨v2, rfl, hs2, hb2⟩
  have B2 := B1'.trans (hb2.mono B1'.size)
  have hcell3 := lkeep hb2 hcell2
  have hx3' := hx2'.keep hb2
  clear hplus hs1' hone hs1 hcell1 hcell2 hx1' hx2' hb2 hal1 B1 B1'
  go_wp2_with (refine wpList_make_full _ rfl (.tmp 26) (.tmp 26) 77 rfl w2.heap.size 3 i0 (.int .i64 0) 1 Tryd.underlying77 hi hz0 hz1 .i64 .i64 (P : Int) (P : Int) P rfl rfl (by omega) (by omega) (by rw [hz2]; omega) (by unfold maxLen; omega) (Nat.le_refl _) ?_; intro w3 hown hgrow; refine Hid.out ?_)
  refine Lib.hid ?_
  change w3.ownsRow w2.heap.size 3 1 (.slice (some ⟨w2.heap.size, 0, none⟩) P P) P (madeCells #[.int .i64 0] (P * 1)).toList at hown
  rw [Nat.mul_one, toList_madeCells_one] at hown
  have b3 : Below w2.heap.size w2 w3 := (Below.refl _ _).grown hgrow (Nat.le_refl _) (fun k hk => by cases hk)
  have B3 := B2.trans (b3.mono B2.size)
  have hs3 := hs2.keep b3
  obtain ⟨X, hX⟩ : ∃ X, X = (dg (f + 1)).map (Value.int .i64) := ⟨_, rfl⟩
  obtain ⟨p2, c2, rfl, ⟨_, _⟩, hq2⟩ := hs3
  obtain ⟨b4, o4, rfl, hx4⟩ := hq2 (dg_len_pos (by omega))
  have hXl : X.length = (dg (f + 1)).length * 1 := by rw [hX]; simp
  have hXc : ∀ v ∈ X, v.oneCell' = true := by rw [hX]; exact map_oneCell _
  have hXp : ∀ (j : Nat) (v : Value), X[j]? = some v → w3.cell? ((⟨b4, o4, none⟩ : Addr).add j) = some v := by
    intro j v hv
    have hlt : 0 < X.length := by rw [hXl]; have := dg_len_pos (show 0 < f + 1 by omega); omega
    obtain ⟨ad', e, h⟩ := src_pos hX hq2 (Below.refl _ _) hlt
    cases e
    exact h j v hv
  have hend : ∀ w' v', w'.ownsRow w2.heap.size 3 1 v' (P + (dg (f + 1)).length) (List.replicate P (Value.int .i64 0) ++ X) → Ls w' v' (dg r0) := fun w' v' h => by
    rw [hX, show List.replicate P (Value.int IntKind.i64 0) = (List.replicate P (0 : Int)).map (.int .i64) by simp, ← List.map_append, HL.out.2.2] at h
    have hl : P + (dg (f + 1)).length = (dg r0).length := by rw [← HL.out.2.2]; simp
    rw [hl] at h
    exact Ls.own h
  have hlf : (dg (f + 1)).length ≤ 602 := by have := HL.out.1; omega
  have Hend := Lib.hid hend
  clear hX hend hq2 hx4 hs2 hgrow HL
  generalize (dg (f + 1)).length = m at *
  go_wp2_with (refine wpList_append_own _ rfl _ _ 77 rfl w2.heap.size 3 i0 (.int .i64 0) 1 8 Tryd.underlying77 hi hz0 hz1 hz2 rfl (by decide) _ P _ rfl hown ⟨b4, o4, none⟩ m c2 X rfl hXl hXp hXc (by unfold maxLen; omega) (by omega) b3.size ?_; intro v5 w4 hown' hgrow _; refine Hid.out ?_)
  refine Lib.hid ?_
  have b5 : Below w2.heap.size w2 w4 := b3.grown hgrow b3.size (fun k hk => by cases hk; exact Nat.le_refl _)
  have hs5 := Hend.out _ _ hown'
  have B5 := B2.trans (b5.mono B2.size)
  have hc5 := lkeep b5 hcell3
  have hx5 := hx3'.keep b5
  clear hown' hgrow hown hXp hXl hXc b5 b3 B3 hcell3 hx3' Hend hi hz0 hz1 hz2
  have hrt := Lib.hid Hh.out.1
  have Hn := Lib.hid Hh.out.2.1
  have himp := Hh.out.2.2.1
  have hcmp := Hh.out.2.2.2
  have Hr := Lib.hid hr1
  clear Hh
  go_wp2
  go_loopg [5] r0.toNat (fun k v wr => ∃ r : Int, Hid (k = r.toNat) ∧ Hid (rt x ≤ r) ∧ Hid (1 ≤ r) ∧ Hid ((dg r).length ≤ 900) ∧ Ls wr v (dg r) ∧ wr.cell? ⟨w.heap.size, 0, none⟩ = some (.slice (some ⟨ba, oa, none⟩) n ca) ∧ Ls wr (.slice (some ⟨ba, oa, none⟩) n ca) (dg x) ∧ Below w.heap.size w wr)
  case atStart => exact ⟨r0, Lib.hid rfl, hrt, Hr, Lib.hid hrl, hs5, hc5, hx5, B5⟩
  case round =>
    clear hs5 hc5 hx5 B5 hrt Hr hrl
    obtain ⟨r, hk, hR, hr1, hrl, hs, hc, hx, hB⟩ := hrel
    obtain ⟨n1, n2, n3, n4, n5, n6⟩ := Hn.out r hR.out
    have hlq : (dg ((r + x / r) / 2)).length ≤ 900 := by
      by_cases h : (r + x / r) / 2 ≤ r
      · exact Nat.le_trans (dg_len_mono (by omega) h) hrl.out
      · have h2 := dg_len_mono (x := (r + x / r) / 2) (y := x) (by omega) (by omega)
        rw [hnx] at h2; omega
    have him := himp w.heap.size _ r wr hr1.out hc hx hs hrl.out
    generalize hm : (r + x / r) / 2 = q at *
    have q1 : 1 ≤ q := by omega
    have Q1 := Lib.hid (And.intro q1 (And.intro n2 n3))
    have hr1' := hr1.out
    clear n1 n2 n3 n4 n5 n6 hm
    go_wp2_with fail
    go_at_call 111
    refine him.mono ?_
    rintro e w5 ⟨u, rfl, hu, hb⟩
    have hs' := hs.keep hb
    have hc' := lkeep hb hc
    have hx' := hx.keep hb
    have hB' := hB.trans (hb.mono hB.size)
    clear him hs hc hx hB hb
    have hcm := hcmp u _ q r w5 (by omega) (by omega) hu hs' (by omega) (by have := hrl.out; omega)
    by_cases hge : r ≤ q
    · have hres := Lib.hid (Q1.out.2.2 hge)
      rw [show cmpI q r = if r = q then 0 else 1 by
        unfold cmpI; rw [if_neg (by omega)]; by_cases h : r = q
        · rw [if_pos h, if_pos h.symm]
        · rw [if_neg h, if_neg (fun k => h k.symm)]] at hcm
      obtain ⟨d, hd⟩ : ∃ d : Int, d = if r = q then 0 else 1 := ⟨_, rfl⟩
      have hd0 : 0 ≤ d := by rw [hd]; split <;> omega
      rw [← hd] at hcm
      replace hd := Lib.hid hd
      go_wp2_with (go_at_call 65; refine hcm.mono ?_; rintro e w6 ⟨rfl, hb6⟩)
      go_ret
      exact ⟨_, rfl, by rw [← hres.out]; exact hs'.keep hb6, hB'.trans (hb6.mono hB'.size)⟩
    · rw [cmpI_lt (by omega)] at hcm
      go_wp2_with (go_at_call 65; refine hcm.mono ?_; rintro e w6 ⟨rfl, hb6⟩)
      go_roundg q.toNat
      case measure => have := hk.out; omega
      case rel => exact ⟨q, Lib.hid rfl, Lib.hid Q1.out.2.1, Lib.hid Q1.out.1, Lib.hid hlq, hu.keep hb6, lkeep hb6 hc', hx'.keep hb6, hB'.trans (hb6.mono hB'.size)⟩
theorem root_num (x : Int) (va : Value) (w : World) (x0 : 0 ≤ x) (ha : Ls w va (dg x)) (la : (dg x).length ≤ 601) :
    Calls Tryd.prog 84 #[va] w fun e w' => ∃ v, e = .returned v ∧ Ls w' v (dg (rt x)) ∧ Below w.heap.size w w' :=
  root_any 601 x va w x0 ha la (Nat.le_refl _)
end Go.Proofs.YtoppdbgodceaiaaDoor
