/-
  Walks of package long: divided, root, sums, combined, Add, Sub, Mul.
-/
import Derived.Test.YthhbnhdejbpjiaaDoorLgJ
import Derived.Test.YthhbnhdejbpjiaaDoorLgR
import Derived.Deep.LoopGhost
import Derived.Laws.CopyOwn
namespace Go.Proofs.YthhbnhdejbpjiaaDoor
open Go.RowKit

theorem bitsLen_any (x : Int) (w : World) (x0 : 0 ≤ x) (x1 : x < 9223372036854775808) :
    Calls Tryd.prog 71 #[.int .u64 x] w fun e w' => e = .returned (.int .i64 (Lib.bitLen x.toNat)) ∧ w' = w := by
  have e1 : IntKind.u64.wrap x = x := wrap_in _ x0 (by omega)
  have hl := fun w => Tryd.bits_Len64 x w x0 (by omega)
  go_enter Tryd.func71, Tryd.ntmps71
  go_wp2_with (go_at_call 81; refine (hl _).mono ?_; rintro e w1 ⟨rfl, rfl⟩)
  go_ret
  exact ⟨rfl, rfl⟩
theorem bitLen_spec (n : Nat) (h0 : n ≠ 0) (h1 : n < 2 ^ 64) : n < 2 ^ Lib.bitLen n ∧ 2 ^ (Lib.bitLen n - 1) ≤ n ∧ 1 ≤ Lib.bitLen n := by
  have h := bitLenAux_spec 64 n h1 h0
  exact ⟨h.1, h.2.1, h.2.2.1⟩
/-- Where the search for a root begins: a power of two that is not less than the root. -/
theorem root_start (x : Int) (x0 : 1 ≤ x) (x1 : x < 1000000000000000000) : ∃ L k : Nat, Lib.bitLen x.toNat = L ∧ 1 ≤ L ∧ L ≤ 60 ∧ k = (L + 1) / 2 ∧ rt x ≤ (2 ^ k : Nat) ∧ 1 ≤ (2 ^ k : Nat) ∧ (2 ^ k : Nat) ≤ 1073741824 := by
  obtain ⟨h1, h2, h3⟩ := bitLen_spec x.toNat (by omega) (by omega)
  refine ⟨_, _, rfl, h3, ?_, rfl, ?_, Nat.one_le_two_pow, ?_⟩
  · rcases Nat.lt_or_ge 60 (Lib.bitLen x.toNat) with h | h
    · have := Nat.pow_le_pow_right (show 0 < 2 by omega) (show 60 ≤ Lib.bitLen x.toNat - 1 by omega)
      omega
    · exact h
  · generalize hk : (Lib.bitLen x.toNat + 1) / 2 = k
    have h4 : 2 ^ Lib.bitLen x.toNat ≤ 2 ^ k * 2 ^ k := by
      rw [← Nat.pow_add]; exact Nat.pow_le_pow_right (by omega) (by omega)
    have h5 : x < (2 ^ k : Nat) * (2 ^ k : Nat) := by
      have : x.toNat < 2 ^ k * 2 ^ k := by omega
      have e : ((2 ^ k * 2 ^ k : Nat) : Int) = (2 ^ k : Nat) * (2 ^ k : Nat) := Int.natCast_mul _ _
      omega
    exact Int.le_of_lt (rt_lt (by omega) (by have := Nat.two_pow_pos k; omega) h5)
  · have h6 : Lib.bitLen x.toNat ≤ 60 := by
      rcases Nat.lt_or_ge 60 (Lib.bitLen x.toNat) with h | h
      · have := Nat.pow_le_pow_right (show 0 < 2 by omega) (show 60 ≤ Lib.bitLen x.toNat - 1 by omega)
        omega
      · exact h
    exact Nat.pow_le_pow_right (n := 2) (by omega) (show (Lib.bitLen x.toNat + 1) / 2 ≤ 30 by omega)
set_option maxHeartbeats 1000000 in
theorem smallRoot_any (x : Int) (w : World) (x0 : 0 ≤ x) (x1 : x < 1000000000000000000) :
    Calls Tryd.prog 59 #[.int .i64 x] w fun e w' => e = .returned (.int .i64 (rt x)) ∧ Below w.heap.size w w' := by
  by_cases h0 : x = 0
  · subst h0
    rw [show rt 0 = 0 from rfl]
    go_enter Tryd.func59, Tryd.ntmps59
    go_wp2
    go_ret
    exact ⟨rfl, Below.refl _ _⟩
  · obtain ⟨L, k, eL, L0, L1, ek, s0, s1, s2⟩ := root_start x (by omega) x1
    have hl := fun w => bitsLen_any x w x0 (by omega)
    rw [eL] at hl
    have e1 : IntKind.u64.wrap x = x := wrap_in _ x0 (by omega)
    have ek' : ((L : Int) + 1) / 2 = (k : Int) := by omega
    obtain ⟨r0, hr0⟩ : ∃ r0 : Int, r0 = (2 ^ k : Nat) := ⟨_, rfl⟩
    rw [← hr0] at s0
    have t1 : 1 ≤ r0 ∧ r0 ≤ 1073741824 := by omega
    have bk : k ≤ 30 := by omega
    have Hr := Lib.hid hr0
    have hx1 : 1 ≤ x := by omega
    have hn := fun r h => newton (x := x) (r := r) hx1 h
    have Hn := Lib.hid hn
    have hrt := Lib.hid (rt_spec x x0)
    clear hn hr0 eL ek s1 s2
    generalize rt x = R at *
    go_enter Tryd.func59, Tryd.ntmps59
    go_wp2_with (go_at_call 71; refine (hl _).mono ?_; rintro e w1 ⟨rfl, rfl⟩)
    have es : wrap64 ((2 : Int) ^ k) = r0 := by
      rw [Hr.out, show ((2 : Int) ^ k) = ((2 ^ k : Nat) : Int) by norm_cast, ← Hr.out]
      unfold wrap64; omega
    go_loopw [3] (fun v wr => ∃ r : Int, v = .int .i64 r ∧ Hid (R ≤ r) ∧ 1 ≤ r ∧ r ≤ 1073741824 ∧ w1 = wr) (fun v _ => (intOf v).toNat)
    case atStart => exact ⟨r0, by rw [es], Lib.hid s0, t1.1, t1.2, rfl⟩
    case round =>
      clear es t1 s0 Hr
      obtain ⟨r, rfl, hR, r1, r2, rfl⟩ := hrel
      obtain ⟨n1, n2, n3, n4, n5, n6⟩ := Hn.out r hR.out
      have hrne : r ≠ 0 := by omega
      obtain ⟨q, hq⟩ : ∃ q, x / r = q := ⟨_, rfl⟩
      rw [hq] at n2 n3 n4 n5
      have hq2 : x.tdiv r = q := by rw [Int.tdiv_eq_ediv_of_nonneg x0, hq]
      by_cases hge : r ≤ (r + q) / 2
      · have hres := n3 hge
        have HR := Lib.hid hres
        clear n2 n3 n6 hres hR
        go_wp2
        go_ret
        exact ⟨by rw [← HR.out]; rfl, Below.refl _ _⟩
      · have n2' := Lib.hid n2
        have hlt : 1 ≤ (r + q) / 2 := by omega
        clear n2 n3 n6 hR
        go_wp2
        go_roundw
        case rel => exact ⟨(r + q) / 2, rfl, n2', hlt, by omega, trivial⟩
        case measure => simp [intOf]; omega

theorem smallIsqrt (x : Int) (x0 : 0 ≤ x) (x1 : x < 1000000000000000000) : 0 ≤ rt x ∧ rt x < 1000000000 := by
  refine ⟨(rt_spec x x0).1, rt_lt x0 (by omega) (by omega)⟩

theorem dg_shift {y : Int} (hy : 0 < y) (k : Nat) : List.replicate k 0 ++ dg y = dg (y * 1000000000 ^ k) := by
  have e : vl (List.replicate k 0 ++ dg y) = y * 1000000000 ^ k := by
    show val _ _ = _
    rw [val_append, val_zeros, List.length_replicate, show val 1000000000 (dg y) = y from dg_val y (by omega), Int.zero_add, Int.mul_comm]
  rw [← e]
  refine (dg_of ((Dig.zeros (by omega) k).append (dg_dig y (by omega))) (.inr ?_)).symm
  have hl := dg_len_pos hy
  rw [el_eq, List.getD_eq_getElem?_getD, List.length_append, List.getElem?_append_right (by simp; omega), List.length_replicate, show k + (dg y).length - 1 - k = (dg y).length - 1 by omega, ← List.getD_eq_getElem?_getD]
  exact dg_top hy

set_option maxRecDepth 100000 in
set_option maxHeartbeats 1600000 in
theorem improve_any (va vr : Value) (bx : Nat) (x r : Int) (w : World) (x0 : 0 ≤ x) (r0 : 1 ≤ r) (hbx : w.cell? ⟨bx, 0, none⟩ = some va) (ha : Ls w va (dg x)) (hr : Ls w vr (dg r)) (la : (dg x).length ≤ 900) (lr : (dg r).length ≤ 900) :
    Calls Tryd.prog 61 #[vr, .pointer (some ⟨bx, 0, none⟩)] w fun e w' => ∃ v, e = .returned v ∧ Ls w' v (dg ((r + x / r) / 2)) ∧ Below w.heap.size w w' := by
  have q0 : 0 ≤ x / r := Int.ediv_nonneg x0 (by omega)
  have q1 : x / r ≤ x := Int.ediv_le_self r x0
  have lq := dg_len_mono q0 q1
  have ls : (dg (r + x / r)).length ≤ 901 := by
    refine dg_len_le (by omega) ?_
    have h1 := (dg_len (x := r) (by omega) 900).1 lr
    have h2 := (dg_len (x := x / r) q0 900).1 (by omega)
    have h3 := pow9 900
    rw [show 901 = 900 + 1 from rfl, Int.pow_succ]
    generalize (1000000000 : Int) ^ 900 = P at *
    omega
  have hd := fun w h1 h2 => divided_any va vr x r w x0 (by omega) h1 h2 (by omega) (by omega)
  have hp := fun w v h1 h2 => plus_num vr v r (x / r) w (by omega) q0 h1 h2 (by omega) (by omega)
  have h2 := fun w v h => byDigit_num v (r + x / r) 2 w (by omega) h (by omega) (by omega) (by omega)
  generalize (r + x / r) / 2 = m at *
  clear q0 q1 lq ls
  obtain ⟨pa, ca, rfl, hca', hqa⟩ := ha
  have ha : Ls w (.slice pa (dg x).length ca) (dg x) := ⟨pa, ca, rfl, hca', hqa⟩
  clear hca' hqa
  generalize (dg x).length = n at *
  go_enter Tryd.func61, Tryd.ntmps61
  go_wp2_with fail
  go_at_call 44
  refine (hd _ ha hr).mono ?_
  rintro e w1 ⟨v, u, rfl, hs1, hs2, hb1⟩
  go_wp2_with fail
  go_at_call 55
  refine (hp _ v (hr.keep hb1) hs1).mono ?_
  rintro e w2 ⟨s, rfl, hs3, hb2⟩
  go_wp2_with fail
  go_at_call 62
  refine (h2 _ s hs3).mono ?_
  rintro e w3 ⟨v3, u3, rfl, hs4, hs5, hb3⟩
  have B2 := hb1.trans (hb2.mono hb1.size)
  have B3 := B2.trans (hb3.mono B2.size)
  go_wp2
  go_ret
  exact ⟨v3, rfl, hs4, B3⟩

theorem root_small (x : Int) (va : Value) (w : World) (x0 : 0 ≤ x) (ha : Ls w va (dg x)) (la : (dg x).length ≤ 2) :
    Calls Tryd.prog 42 #[va] w fun e w' => ∃ v, e = .returned v ∧ Ls w' v (dg (rt x)) ∧ Below w.heap.size w w' := by
  have hx := (len_le_two x0).1 la
  have hsm := fun w v h => small_any v x w x0 hx h
  have hrt := fun w => smallRoot_any x w x0 hx
  have hb := smallIsqrt x x0 hx
  have ho := fun w => ofSmall_any (rt x) w hb.1 (by omega)
  have hal := Below.alloc (Below.refl w.heap.size w) (Nat.le_refl _) (.cells #[va] 65)
  have ha2 := ha.keep hal
  have hcell : (w.alloc (.cells #[va] 65)).cell? ⟨w.heap.size, 0, none⟩ = some va := by simp
  obtain ⟨pa, ca, rfl, hca', hqa⟩ := ha
  generalize (dg x).length = n at *
  clear hca' hqa
  generalize rt x = R at *
  go_enter Tryd.func42, Tryd.ntmps42
  go_wp2_with fail
  go_at_call 60
  refine (hsm _ _ ha2).mono ?_
  rintro e w1 ⟨rfl, hb1⟩
  go_wp2_with fail
  go_at_call 59
  refine (hrt _).mono ?_
  rintro e w2 ⟨rfl, hb2⟩
  go_wp2_with fail
  go_at_call 58
  refine (ho _).mono ?_
  rintro e w3 ⟨v, rfl, hs, hb3⟩
  have B1 := hal.trans (hb1.mono hal.size)
  have B2 := B1.trans (hb2.mono B1.size)
  have B3 := B2.trans (hb3.mono B2.size)
  go_wp2
  go_ret
  exact ⟨v, rfl, hs, B3⟩

/-- What the root of the first digits comes to. -/
theorem root_begin {x : Int} {p : Nat} (hx : 0 ≤ x) : rt x ≤ (rt (x / 1000000000 ^ (2 * p)) + 1) * 1000000000 ^ p := by
  have := rt_shift hx (pow9 p)
  rwa [← Int.pow_add, show p + p = 2 * p by omega] at this

set_option maxRecDepth 100000 in
set_option maxHeartbeats 4000000 in
theorem root_any (N : Nat) : ∀ (x : Int) (va : Value) (w : World), 0 ≤ x → Ls w va (dg x) → (dg x).length ≤ N → N ≤ 601 →
    Calls Tryd.prog 42 #[va] w fun e w' => ∃ v, e = .returned v ∧ Ls w' v (dg (rt x)) ∧ Below w.heap.size w w' := by
  induction N using Nat.strongRecOn with
  | ind N ih =>
  intro x va w x0 ha la hN
  by_cases hle : (dg x).length ≤ 2
  · exact root_small x va w x0 ha hle
  obtain ⟨i0, hi, hz0, hz1, hz2⟩ := info_parts Tryd.infoInt
  obtain ⟨P, hP⟩ : ∃ P, P = ((dg x).length + 1) / 4 := ⟨_, rfl⟩
  have bP : 1 ≤ P ∧ 2 * P < (dg x).length ∧ P ≤ 151 := by omega
  have eP : (((dg x).length : Int) + 1) / 4 = (P : Int) := by omega
  have hx1 : 1 ≤ x := by
    rcases (by omega : x = 0 ∨ 1 ≤ x) with h | h
    · rw [h, dg_zero] at hle; simp at hle
    · exact h
  have hx2 : 0 ≤ x / 1000000000 ^ (2 * P) := Int.ediv_nonneg x0 (by have := pow9 (2 * P); omega)
  have hdrop := dg_drop x0 (2 * P)
  have hrec := fun v w h => ih (N - 1) (by omega) (x / 1000000000 ^ (2 * P)) v w hx2 h (by rw [← hdrop, List.length_drop]; omega) (by omega)
  obtain ⟨f0, f1, f2⟩ := rt_spec _ hx2
  have hbeg := root_begin (p := P) x0
  have hfx : rt (x / 1000000000 ^ (2 * P)) + 1 ≤ x + 1 := by
    have h1 := rt_le_self hx2
    have h2 := Int.ediv_le_self (1000000000 ^ (2 * P)) x0
    omega
  generalize rt (x / 1000000000 ^ (2 * P)) = f at *
  have lf : (dg (f + 1)).length ≤ (dg x).length + 1 := by
    refine dg_len_le (by omega) ?_
    have h1 := dg_lt x0
    have h2 := pow9 (dg x).length
    rw [Int.pow_succ]
    generalize (1000000000 : Int) ^ (dg x).length = Q at *
    omega
  have lf1 : (dg f).length ≤ (dg (f + 1)).length := dg_len_mono f0 (by omega)
  have hplus := fun w v u h1 h2 => plus_num v u f 1 w f0 (by omega) h1 h2 (by omega) (by rw [dg_small (by omega) (by omega)]; simp)
  have hsh := dg_shift (show 0 < f + 1 by omega) P
  have hrl : (dg ((f + 1) * 1000000000 ^ P)).length ≤ 900 := by rw [← hsh]; simp; omega
  have hr1 : 1 ≤ (f + 1) * 1000000000 ^ P := by have := Int.mul_pos (show 0 < f + 1 by omega) (pow9 P); omega
  generalize (f + 1) * 1000000000 ^ P = r0 at *
  have hnew := fun r h => newton (x := x) (r := r) hx1 h
  have himp := fun bx vr r w r1 h1 h2 h3 lr => improve_any va vr bx x r w x0 r1 h1 h2 h3 (by omega) lr
  have hcmp := fun vn vr n r w n0 r0 h1 h2 ln lr => compare_num vn vr n r w n0 r0 h1 h2 ln lr
  have hal := Below.alloc (Below.refl w.heap.size w) (Nat.le_refl _) (.cells #[va] 65)
  have ha2 := ha.keep hal
  have hcell : (w.alloc (.cells #[va] 65)).cell? ⟨w.heap.size, 0, none⟩ = some va := by simp
  have ha3 := ha2
  obtain ⟨pa, ca, rfl, ⟨hca', hna⟩, hqa⟩ := ha3
  obtain ⟨ba, oa, rfl, hxa⟩ := hqa (by omega)
  have hsl : Ls (w.alloc (.cells #[.slice (some ⟨ba, oa, none⟩) (dg x).length ca] 65)) (.slice (some ⟨ba, oa + 2 * P, none⟩) ((dg x).length - 2 * P) (ca - 2 * P)) (dg (x / 1000000000 ^ (2 * P))) := by
    rw [← hdrop]
    exact Ls.drop (by omega) hca' hxa
  have hPc : 2 * P < ca := by omega
  generalize x / 1000000000 ^ (2 * P) = y at *
  have Hh := Lib.hid (And.intro hbeg (And.intro hnew (And.intro himp hcmp)))
  have HL := Lib.hid (And.intro lf (And.intro lf1 hsh))
  clear hbeg hnew himp hcmp hqa hxa hfx f1 f2 hdrop lf lf1 hsh hca' hna ih hP
  have hlx : ¬ (dg x).length ≤ 2 := hle
  have hN3 : (dg x).length ≤ 601 := by omega
  generalize hnx : (dg x).length = n at *
  clear la hle
  go_enter Tryd.func42, Tryd.ntmps42
  go_wp2_with fail
  rw [eP]
  go_at_call 42
  refine (hrec _ _ hsl).mono ?_
  rintro e w1 ⟨v1, rfl, hs1, hb1⟩
  have B1 := hal.trans (hb1.mono hal.size)
  have hcell1 := lkeep hb1 hcell
  have hx1' := ha2.keep hb1
  have hal1 := Below.alloc (Below.refl w1.heap.size w1) (Nat.le_refl _) (.cells #[.int .i64 1] 3)
  have hone : Ls (w1.alloc (.cells #[.int .i64 1] 3)) (.slice (some ⟨w1.heap.size, 0, none⟩) 1 1) (dg 1) := by
    rw [dg_small (by omega) (by omega)]
    refine ⟨_, 1, rfl, ⟨Nat.le_refl _, fun h => by cases h⟩, fun _ => ⟨_, _, rfl, fun i hi => ?_⟩⟩
    match i, hi with
    | 0, _ => simp [el]
  have hs1' := hs1.keep hal1
  have hcell2 := lkeep hal1 hcell1
  have hx2' := hx1'.keep hal1
  have B1' := B1.trans (hal1.mono B1.size)
  clear hrec hsl hcell ha2 hb1 hal
  go_wp2_with fail
  go_at_call 55
  refine (hplus _ _ _ hs1' hone).mono ?_
  rintro e w2 ⟨v2, rfl, hs2, hb2⟩
  have B2 := B1'.trans (hb2.mono B1'.size)
  have hcell3 := lkeep hb2 hcell2
  have hx3' := hx2'.keep hb2
  clear hplus hs1' hone hs1 hcell1 hcell2 hx1' hx2' hb2 hal1 B1 B1'
  go_wp2_with (refine wpList_make_full _ rfl (.tmp 26) (.tmp 26) 65 rfl w2.heap.size 3 i0 (.int .i64 0) 1 Tryd.underlying65 hi hz0 hz1 .i64 .i64 (P : Int) (P : Int) P rfl rfl (by omega) (by omega) (by rw [hz2]; omega) (by unfold maxLen; omega) (Nat.le_refl _) ?_; intro w3 hown hgrow; refine Hid.out ?_)
  refine Lib.hid ?_
  change w3.ownsRow w2.heap.size 3 1 (.slice (some ⟨w2.heap.size, 0, none⟩) P P) P (madeCells #[.int .i64 0] (P * 1)).toList at hown
  rw [Nat.mul_one, toList_madeCells_one] at hown
  have b3 : Below w2.heap.size w2 w3 := (Below.refl _ _).grown hgrow (Nat.le_refl _) (fun k hk => by cases hk)
  have B3 := B2.trans (b3.mono B2.size)
  have hs3 := hs2.keep b3
  obtain ⟨X, hX⟩ : ∃ X, X = (dg (f + 1)).map (Value.int .i64) := ⟨_, rfl⟩
  obtain ⟨p2, c2, rfl, ⟨_, _⟩, hq2⟩ := hs3
  obtain ⟨b4, o4, rfl, hx4⟩ := hq2 (dg_len_pos (by omega))
  have hXl : X.length = (dg (f + 1)).length * 1 := by rw [hX]; simp
  have hXc : ∀ v ∈ X, v.oneCell' = true := by rw [hX]; exact map_oneCell _
  have hXp : ∀ (j : Nat) (v : Value), X[j]? = some v → w3.cell? ((⟨b4, o4, none⟩ : Addr).add j) = some v := by
    intro j v hv
    have hlt : 0 < X.length := by rw [hXl]; have := dg_len_pos (show 0 < f + 1 by omega); omega
    obtain ⟨ad', e, h⟩ := src_pos hX hq2 (Below.refl _ _) hlt
    cases e
    exact h j v hv
  have hend : ∀ w' v', w'.ownsRow w2.heap.size 3 1 v' (P + (dg (f + 1)).length) (List.replicate P (Value.int .i64 0) ++ X) → Ls w' v' (dg r0) := fun w' v' h => by
    rw [hX, show List.replicate P (Value.int IntKind.i64 0) = (List.replicate P (0 : Int)).map (.int .i64) by simp, ← List.map_append, HL.out.2.2] at h
    have hl : P + (dg (f + 1)).length = (dg r0).length := by rw [← HL.out.2.2]; simp
    rw [hl] at h
    exact Ls.own h
  have hlf : (dg (f + 1)).length ≤ 602 := by have := HL.out.1; omega
  have Hend := Lib.hid hend
  clear hX hend hq2 hx4 hs2 hgrow HL
  generalize (dg (f + 1)).length = m at *
  go_wp2_with (refine wpList_append_own _ rfl _ _ 65 rfl w2.heap.size 3 i0 (.int .i64 0) 1 8 Tryd.underlying65 hi hz0 hz1 hz2 rfl (by decide) _ P _ rfl hown ⟨b4, o4, none⟩ m c2 X rfl hXl hXp hXc (by unfold maxLen; omega) (by omega) b3.size ?_; intro v5 w4 hown' hgrow _; refine Hid.out ?_)
  refine Lib.hid ?_
  have b5 : Below w2.heap.size w2 w4 := b3.grown hgrow b3.size (fun k hk => by cases hk; exact Nat.le_refl _)
  have hs5 := Hend.out _ _ hown'
  have B5 := B2.trans (b5.mono B2.size)
  have hc5 := lkeep b5 hcell3
  have hx5 := hx3'.keep b5
  clear hown' hgrow hown hXp hXl hXc b5 b3 B3 hcell3 hx3' Hend hi hz0 hz1 hz2
  have hrt := Lib.hid Hh.out.1
  have Hn := Lib.hid Hh.out.2.1
  have himp := Hh.out.2.2.1
  have hcmp := Hh.out.2.2.2
  have Hr := Lib.hid hr1
  clear Hh
  go_wp2
  go_loopg [5] r0.toNat (fun k v wr => ∃ r : Int, Hid (k = r.toNat) ∧ Hid (rt x ≤ r) ∧ Hid (1 ≤ r) ∧ Hid ((dg r).length ≤ 900) ∧ Ls wr v (dg r) ∧ wr.cell? ⟨w.heap.size, 0, none⟩ = some (.slice (some ⟨ba, oa, none⟩) n ca) ∧ Ls wr (.slice (some ⟨ba, oa, none⟩) n ca) (dg x) ∧ Below w.heap.size w wr)
  case atStart => exact ⟨r0, Lib.hid rfl, hrt, Hr, Lib.hid hrl, hs5, hc5, hx5, B5⟩
  case round =>
    clear hs5 hc5 hx5 B5 hrt Hr hrl
    obtain ⟨r, hk, hR, hr1, hrl, hs, hc, hx, hB⟩ := hrel
    obtain ⟨n1, n2, n3, n4, n5, n6⟩ := Hn.out r hR.out
    have hlq : (dg ((r + x / r) / 2)).length ≤ 900 := by
      by_cases h : (r + x / r) / 2 ≤ r
      · exact Nat.le_trans (dg_len_mono (by omega) h) hrl.out
      · have h2 := dg_len_mono (x := (r + x / r) / 2) (y := x) (by omega) (by omega)
        rw [hnx] at h2; omega
    have him := himp w.heap.size _ r wr hr1.out hc hx hs hrl.out
    generalize hm : (r + x / r) / 2 = q at *
    have q1 : 1 ≤ q := by omega
    have Q1 := Lib.hid (And.intro q1 (And.intro n2 n3))
    have hr1' := hr1.out
    clear n1 n2 n3 n4 n5 n6 hm
    go_wp2_with fail
    go_at_call 61
    refine him.mono ?_
    rintro e w5 ⟨u, rfl, hu, hb⟩
    have hs' := hs.keep hb
    have hc' := lkeep hb hc
    have hx' := hx.keep hb
    have hB' := hB.trans (hb.mono hB.size)
    clear him hs hc hx hB hb
    have hcm := hcmp u _ q r w5 (by omega) (by omega) hu hs' (by omega) (by have := hrl.out; omega)
    by_cases hge : r ≤ q
    · have hres := Lib.hid (Q1.out.2.2 hge)
      rw [show cmpI q r = if r = q then 0 else 1 by
        unfold cmpI; rw [if_neg (by omega)]; by_cases h : r = q
        · rw [if_pos h, if_pos h.symm]
        · rw [if_neg h, if_neg (fun k => h k.symm)]] at hcm
      obtain ⟨d, hd⟩ : ∃ d : Int, d = if r = q then 0 else 1 := ⟨_, rfl⟩
      have hd0 : 0 ≤ d := by rw [hd]; split <;> omega
      rw [← hd] at hcm
      replace hd := Lib.hid hd
      go_wp2_with (go_at_call 50; refine hcm.mono ?_; rintro e w6 ⟨rfl, hb6⟩)
      go_ret
      exact ⟨_, rfl, by rw [← hres.out]; exact hs'.keep hb6, hB'.trans (hb6.mono hB'.size)⟩
    · rw [cmpI_lt (by omega)] at hcm
      go_wp2_with (go_at_call 50; refine hcm.mono ?_; rintro e w6 ⟨rfl, hb6⟩)
      go_roundg q.toNat
      case measure => have := hk.out; omega
      case rel => exact ⟨q, Lib.hid rfl, Lib.hid Q1.out.2.1, Lib.hid Q1.out.1, Lib.hid hlq, hu.keep hb6, lkeep hb6 hc', hx'.keep hb6, hB'.trans (hb6.mono hB'.size)⟩
theorem root_num (x : Int) (va : Value) (w : World) (x0 : 0 ≤ x) (ha : Ls w va (dg x)) (la : (dg x).length ≤ 601) :
    Calls Tryd.prog 42 #[va] w fun e w' => ∃ v, e = .returned v ∧ Ls w' v (dg (rt x)) ∧ Below w.heap.size w w' :=
  root_any 601 x va w x0 ha la (Nat.le_refl _)

/-- The error of a long integer. -/
def ckL (b : Bool) (l : List Int) : Int := if l.length ≤ 600 ∧ okD l = true ∧ ¬ (b = true ∧ l.length = 0) then 0 else 30
theorem ckL_cases (b : Bool) (l : List Int) : ckL b l = 0 ∧ l.length ≤ 600 ∧ okD l = true ∧ ¬ (b = true ∧ l.length = 0) ∨ ckL b l = 30 ∧ (600 < l.length ∨ l.length ≤ 600 ∧ okD l = false ∨ l.length ≤ 600 ∧ okD l = true ∧ b = true ∧ l.length = 0) := by
  unfold ckL
  by_cases h1 : l.length ≤ 600
  · cases h2 : okD l <;> cases b <;> by_cases h3 : l.length = 0 <;> simp [h1, h3]
  · simp [h1]; omega
/-- The number of a long integer. -/
def numL (b : Bool) (l : List Int) : Int := if b then -(vl l) else vl l
/-- V is the long integer of a number. -/
def Lg (w : World) (V : Value) (z : Int) : Prop := ∃ s, V = .agg #[.bool (decide (z < 0)), s] ∧ Ls w s (dg (z.natAbs : Int))
theorem Lg.keep {w w' : World} {V : Value} {z : Int} (h : Lg w V z) (hb : Below w.heap.size w w') : Lg w' V z := by
  obtain ⟨s, rfl, h⟩ := h
  exact ⟨s, rfl, h.keep hb⟩
theorem ckL_num {z : Int} (h : (dg (z.natAbs : Int)).length ≤ 600) : ckL (decide (z < 0)) (dg (z.natAbs : Int)) = 0 := by
  unfold ckL
  rw [if_pos]
  refine ⟨h, (okD_iff _).2 ⟨dg_dig _ (by omega), dg_nrm _ (by omega)⟩, ?_⟩
  rintro ⟨h1, h2⟩
  have h1 : z < 0 := by simpa using h1
  have := dg_len_pos (x := (z.natAbs : Int)) (by omega)
  omega
/-- A valid long integer is that of its number. -/
theorem ckL_lg {b : Bool} {l : List Int} (h : ckL b l = 0) : b = decide (numL b l < 0) ∧ l = dg ((numL b l).natAbs : Int) ∧ l.length ≤ 600 := by
  rcases ckL_cases b l with ⟨_, h1, h2, h3⟩ | ⟨h', _⟩
  · obtain ⟨hd, hn⟩ := (okD_iff l).1 h2
    have h0 := vl_nonneg hd
    have e : ((numL b l).natAbs : Int) = vl l := by unfold numL; cases b <;> simp <;> omega
    refine ⟨?_, by rw [e, dg_of hd hn], h1⟩
    cases b
    · unfold numL; simp; omega
    · have hl : l ≠ [] := fun h => h3 ⟨rfl, by rw [h]; rfl⟩
      have := nrm_pos hd hn hl
      unfold numL; simp; omega
  · omega

set_option maxRecDepth 100000 in
set_option maxHeartbeats 1000000 in
theorem check_any (b : Bool) (s : Value) (l : List Int) (w : World) (hs : Ls w s l) (ll : l.length ≤ 1000000) :
    Calls Tryd.prog 7 #[.agg #[.bool b, s]] w fun e w' => e = .returned (.int .i64 (ckL b l)) ∧ Below w.heap.size w w' := by
  have hal := Below.alloc (Below.refl w.heap.size w) (Nat.le_refl _) (.cells #[.bool b, s] 25)
  have hv := valid_any s l _ (hs.keep hal) ll
  have c0 : (w.alloc (.cells #[.bool b, s] 25)).cell? ⟨w.heap.size, 0, none⟩ = some (.bool b) := by simp
  have c1 : (w.alloc (.cells #[.bool b, s] 25)).cell? ⟨w.heap.size, 1, none⟩ = some s := by simp
  obtain ⟨pa, ca, rfl, hca', hqa⟩ := hs
  rcases ckL_cases b l with ⟨h, h1, h2, h3⟩ | ⟨h, h1 | ⟨h1, h2⟩ | ⟨h1, h2, h3, h4⟩⟩
  · rw [h]
    rw [h2] at hv
    clear hqa hca' h h2
    generalize l.length = n at *
    have h1' : ¬ 600 < n := by omega
    cases b with
    | true =>
      have h4 : ¬ n = 0 := fun k => h3 ⟨rfl, k⟩
      have h5 : ((n : Int) == 0) = false := by simp; omega
      clear h3
      go_enter Tryd.func7, Tryd.ntmps7
      go_wp2_with (go_at_call 32; refine hv.mono ?_; rintro e w1 ⟨rfl, rfl⟩)
      go_ret
      exact ⟨rfl, hal⟩
    | false =>
      clear h3
      go_enter Tryd.func7, Tryd.ntmps7
      go_wp2_with (go_at_call 32; refine hv.mono ?_; rintro e w1 ⟨rfl, rfl⟩)
      go_ret
      exact ⟨rfl, hal⟩
  · rw [h]
    clear hqa hca' h hv
    generalize l.length = n at *
    go_enter Tryd.func7, Tryd.ntmps7
    go_wp2
    go_ret
    exact ⟨rfl, hal⟩
  · rw [h]
    rw [h2] at hv
    clear hqa hca' h h2
    generalize l.length = n at *
    have h1' : ¬ 600 < n := by omega
    go_enter Tryd.func7, Tryd.ntmps7
    go_wp2_with (go_at_call 32; refine hv.mono ?_; rintro e w1 ⟨rfl, rfl⟩)
    go_ret
    exact ⟨rfl, hal⟩
  · rw [h]
    rw [h2] at hv
    subst h3
    clear hqa hca' h h2
    generalize l.length = n at *
    subst h4
    go_enter Tryd.func7, Tryd.ntmps7
    go_wp2_with (go_at_call 32; refine hv.mono ?_; rintro e w1 ⟨rfl, rfl⟩)
    go_ret
    exact ⟨rfl, hal⟩
theorem check_num (V : Value) (z : Int) (w : World) (hV : Lg w V z) (hz : (dg (z.natAbs : Int)).length ≤ 600) :
    Calls Tryd.prog 7 #[V] w fun e w' => e = .returned (.int .i64 0) ∧ Below w.heap.size w w' := by
  obtain ⟨s, rfl, hs⟩ := hV
  have := check_any (decide (z < 0)) s _ w hs (by omega)
  rwa [ckL_num hz] at this

set_option maxRecDepth 100000 in
set_option maxHeartbeats 1000000 in
theorem checkAll1_any (b : Bool) (s : Value) (l : List Int) (q : Nat) (w : World) (hs : Ls w s l) (ll : l.length ≤ 1000000) (e0 : w.cell? ⟨q, 0, none⟩ = some (.bool b)) (e1 : w.cell? ⟨q, 1, none⟩ = some s) :
    Calls Tryd.prog 38 #[.slice (some ⟨q, 0, none⟩) 1 1] w fun e w' => e = .returned (.int .i64 (ckL b l)) ∧ Below w.heap.size w w' := by
  have hal := Below.alloc (Below.refl w.heap.size w) (Nat.le_refl _) (.cells #[.bool b, s] 25)
  have hc := check_any b s l _ (hs.keep hal) ll
  obtain ⟨pa, ca, rfl, hca', hqa⟩ := hs
  clear hca' hqa
  rcases ckL_cases b l with ⟨h, hx⟩ | ⟨h, hx⟩
  · rw [h] at hc ⊢
    clear hx h
    generalize l.length = n at *
    go_enter Tryd.func38, Tryd.ntmps38
    go_wp2
    refine wp_loop_rounds 2 ?_
    rw [rounds_succ]
    go_wp2_with (go_at_call 7; refine hc.mono ?_; rintro e w1 ⟨rfl, hb1⟩)
    rw [rounds_succ]
    go_wp2
    go_ret
    exact ⟨rfl, hal.trans (hb1.mono hal.size)⟩
  · rw [h] at hc ⊢
    clear hx h
    generalize l.length = n at *
    go_enter Tryd.func38, Tryd.ntmps38
    go_wp2
    refine wp_loop_rounds 2 ?_
    rw [rounds_succ]
    go_wp2_with (go_at_call 7; refine hc.mono ?_; rintro e w1 ⟨rfl, hb1⟩)
    go_ret
    exact ⟨rfl, hal.trans (hb1.mono hal.size)⟩
/-- The error of the first of two that is not valid. -/
def ckT (c d : Int) : Int := if c = 0 then d else 30
set_option maxRecDepth 100000 in
set_option maxHeartbeats 1000000 in
theorem checkAll2_any (b c : Bool) (s t : Value) (l m : List Int) (q : Nat) (w : World) (hs : Ls w s l) (ht : Ls w t m) (ll : l.length ≤ 1000000) (lm : m.length ≤ 1000000) (e0 : w.cell? ⟨q, 0, none⟩ = some (.bool b)) (e1 : w.cell? ⟨q, 1, none⟩ = some s)
    (e2 : w.cell? ⟨q, 2, none⟩ = some (.bool c)) (e3 : w.cell? ⟨q, 3, none⟩ = some t) :
    Calls Tryd.prog 38 #[.slice (some ⟨q, 0, none⟩) 2 2] w fun e w' => e = .returned (.int .i64 (ckT (ckL b l) (ckL c m))) ∧ Below w.heap.size w w' := by
  have hal := Below.alloc (Below.refl w.heap.size w) (Nat.le_refl _) (.cells #[.bool b, s] 25)
  have hc := check_any b s l _ (hs.keep hal) ll
  have hd := fun w h => check_any c t m w h lm
  have ht' := ht
  obtain ⟨pa, ca, rfl, hca', hqa⟩ := hs
  obtain ⟨pb, cb, rfl, hcb', hqb⟩ := ht
  clear hca' hqa hcb' hqb
  rcases ckL_cases b l with ⟨h, hx⟩ | ⟨h, hx⟩
  · rcases ckL_cases c m with ⟨k, ky⟩ | ⟨k, ky⟩
    · rw [h] at hc ⊢
      rw [k] at hd ⊢
      clear hx h ky k
      rw [show ckT 0 0 = 0 from rfl]
      generalize l.length = n at *
      generalize m.length = n2 at *
      go_enter Tryd.func38, Tryd.ntmps38
      go_wp2
      refine wp_loop_rounds 3 ?_
      rw [rounds_succ]
      go_wp2_with (go_at_call 7; refine hc.mono ?_; rintro e w1 ⟨rfl, hb1⟩)
      have B1 := hal.trans (hb1.mono hal.size)
      have f2 := lkeep B1 e2
      have f3 := lkeep B1 e3
      have hal2 := Below.alloc (Below.refl w1.heap.size w1) (Nat.le_refl _) (.cells #[.bool c, .slice pb n2 cb] 25)
      have hd2 := hd _ ((ht'.keep B1).keep hal2)
      clear hc hd
      rw [rounds_succ]
      go_wp2_with (go_at_call 7; refine hd2.mono ?_; rintro e w2 ⟨rfl, hb2⟩)
      rw [rounds_succ]
      go_wp2
      go_ret
      exact ⟨rfl, (B1.trans (hal2.mono B1.size)).trans (hb2.mono (Nat.le_trans B1.size hal2.size))⟩
    · rw [h] at hc ⊢
      rw [k] at hd ⊢
      clear hx h ky k
      rw [show ckT 0 30 = 30 from rfl]
      generalize l.length = n at *
      generalize m.length = n2 at *
      go_enter Tryd.func38, Tryd.ntmps38
      go_wp2
      refine wp_loop_rounds 3 ?_
      rw [rounds_succ]
      go_wp2_with (go_at_call 7; refine hc.mono ?_; rintro e w1 ⟨rfl, hb1⟩)
      have B1 := hal.trans (hb1.mono hal.size)
      have f2 := lkeep B1 e2
      have f3 := lkeep B1 e3
      have hal2 := Below.alloc (Below.refl w1.heap.size w1) (Nat.le_refl _) (.cells #[.bool c, .slice pb n2 cb] 25)
      have hd2 := hd _ ((ht'.keep B1).keep hal2)
      clear hc hd
      rw [rounds_succ]
      go_wp2_with (go_at_call 7; refine hd2.mono ?_; rintro e w2 ⟨rfl, hb2⟩)
      go_ret
      exact ⟨rfl, (B1.trans (hal2.mono B1.size)).trans (hb2.mono (Nat.le_trans B1.size hal2.size))⟩
  · rw [h] at hc ⊢
    clear hx h hd
    rw [show ckT 30 (ckL c m) = 30 from rfl]
    generalize l.length = n at *
    generalize m.length = n2 at *
    go_enter Tryd.func38, Tryd.ntmps38
    go_wp2
    refine wp_loop_rounds 3 ?_
    rw [rounds_succ]
    go_wp2_with (go_at_call 7; refine hc.mono ?_; rintro e w1 ⟨rfl, hb1⟩)
    go_ret
    exact ⟨rfl, hal.trans (hb1.mono hal.size)⟩

/-- The long integer 0, no digits. -/
abbrev noL : Value := .agg #[.bool false, .slice none 0 0]
set_option maxRecDepth 100000 in
theorem signed_ok (ng : Bool) (d : Value) (x : Int) (w : World) (x0 : 0 ≤ x) (hd : Ls w d (dg x)) (lx : (dg x).length ≤ 600) :
    Calls Tryd.prog 36 #[.bool ng, d] w fun e w' => e = .returned (.tuple #[.agg #[.bool (ng && decide (0 < x)), d], .int .i64 0]) ∧ Below w.heap.size w w' := by
  have hl : 0 < (dg x).length ↔ 0 < x := by
    constructor
    · intro h
      rcases (by omega : x = 0 ∨ 0 < x) with k | k
      · rw [k, dg_zero] at h; simp at h
      · exact k
    · exact dg_len_pos
  obtain ⟨pa, ca, rfl, hca', hqa⟩ := hd
  clear hca' hqa
  generalize (dg x).length = n at *
  by_cases h : 0 < x
  · have h2 := hl.2 h
    rw [show decide (0 < x) = true by simpa using h, Bool.and_true]
    clear hl
    cases ng
    all_goals
      go_enter Tryd.func36, Tryd.ntmps36
      go_wp2
      refine bodyPost_ret (v := .tuple #[.agg #[.bool _, .slice pa n ca], .int .i64 0]) (by simp [results, Tryd.results36, go_sem]) rfl ⟨rfl, by (repeat (first | with_reducible exact Below.refl _ _ | with_reducible assumption | refine Below.alloc ?_ (by (try simp); try omega) _ | refine Below.setCell ?_ (by (try simp); try omega) _ | refine below_drewN ?_ _ | refine Below.drew ?_ | (with_reducible refine Below.trans ?_ (Below.mono (by assumption) (by (try simp); try omega)))))⟩
  · have h2 : n = 0 := by
      rcases Nat.eq_zero_or_pos n with k | k
      · exact k
      · exact absurd (hl.1 k) h
    rw [show decide (0 < x) = false by simpa using h, Bool.and_false]
    clear hl
    subst h2
    cases ng
    all_goals
      go_enter Tryd.func36, Tryd.ntmps36
      go_wp2
      refine bodyPost_ret (v := .tuple #[.agg #[.bool false, .slice pa 0 ca], .int .i64 0]) (by simp [results, Tryd.results36, go_sem]) rfl ⟨rfl, by (repeat (first | with_reducible exact Below.refl _ _ | with_reducible assumption | refine Below.alloc ?_ (by (try simp); try omega) _ | refine Below.setCell ?_ (by (try simp); try omega) _ | refine below_drewN ?_ _ | refine Below.drew ?_ | (with_reducible refine Below.trans ?_ (Below.mono (by assumption) (by (try simp); try omega)))))⟩
set_option maxRecDepth 100000 in
theorem signed_big (ng : Bool) (d : Value) (x : Int) (w : World) (hd : Ls w d (dg x)) (lx : 600 < (dg x).length) (lx2 : (dg x).length ≤ 100000) :
    Calls Tryd.prog 36 #[.bool ng, d] w fun e w' => e = .returned (.tuple #[noL, .int .i64 6]) ∧ Below w.heap.size w w' := by
  obtain ⟨pa, ca, rfl, hca', hqa⟩ := hd
  clear hca' hqa
  generalize (dg x).length = n at *
  go_enter Tryd.func36, Tryd.ntmps36
  go_wp2
  refine bodyPost_ret (v := .tuple #[.agg #[.bool false, .slice none 0 0], .int .i64 6]) (by simp [results, Tryd.results36, go_sem]) rfl ⟨rfl, by (repeat (first | with_reducible exact Below.refl _ _ | with_reducible assumption | refine Below.alloc ?_ (by (try simp); try omega) _ | refine Below.setCell ?_ (by (try simp); try omega) _ | refine below_drewN ?_ _ | refine Below.drew ?_ | (with_reducible refine Below.trans ?_ (Below.mono (by assumption) (by (try simp); try omega)))))⟩

/-- What a call returns whose result is a number: the number, or ErrBig. -/
def RL (z : Int) (e : Ending) (w' : World) : Prop :=
  ((dg (z.natAbs : Int)).length ≤ 600 ∧ ∃ V, e = .returned (.tuple #[V, .int .i64 0]) ∧ Lg w' V z) ∨ (600 < (dg (z.natAbs : Int)).length ∧ e = .returned (.tuple #[noL, .int .i64 6]))
theorem RL.keep {z : Int} {e : Ending} {w w' : World} (h : RL z e w) (hb : Below w.heap.size w w') : RL z e w' := by
  rcases h with ⟨h, V, he, hV⟩ | h
  · exact .inl ⟨h, V, he, hV.keep hb⟩
  · exact .inr h
theorem signed_num (ng : Bool) (d : Value) (x z : Int) (w : World) (x0 : 0 ≤ x) (hd : Ls w d (dg x)) (lx : (dg x).length ≤ 100000) (hz : z = if ng then -x else x) :
    Calls Tryd.prog 36 #[.bool ng, d] w fun e w' => RL z e w' ∧ Below w.heap.size w w' := by
  have e : (z.natAbs : Int) = x := by rw [hz]; cases ng <;> simp <;> omega
  by_cases h : (dg x).length ≤ 600
  · refine (signed_ok ng d x w x0 hd h).mono ?_
    rintro e' w' ⟨rfl, hb⟩
    refine ⟨.inl ⟨by rw [e]; exact h, _, rfl, d, ?_, by rw [e]; exact hd.keep hb⟩, hb⟩
    rw [hz]
    cases ng
    · simp; omega
    · simp
  · refine (signed_big ng d x w hd (by omega) lx).mono ?_
    rintro e' w' ⟨rfl, hb⟩
    exact ⟨.inr ⟨by rw [e]; omega, rfl⟩, hb⟩

/-- Block g is a box of two cells. -/
def Bx (w : World) (g : Nat) (x y : Value) (t : TypeId) : Prop := w.heap[g]? = some (.cells #[x, y] t (0, 0))
theorem Bx.new (w : World) (x y : Value) (t : TypeId) : Bx (w.alloc (.cells #[x, y] t)) w.heap.size x y t := heap_alloc_new w _
theorem Bx.lt {w : World} {g : Nat} {x y : Value} {t : TypeId} (h : Bx w g x y t) : g < w.heap.size := (Array.getElem?_eq_some_iff.1 h).1
theorem Bx.keep {w w' : World} {g : Nat} {x y : Value} {t : TypeId} (h : Bx w g x y t) (hb : Below w.heap.size w w') : Bx w' g x y t := by
  have hl := h.lt
  unfold Bx at *
  rw [hb.block g hl]; exact h
theorem Bx.alloc {w : World} {g : Nat} {x y : Value} {t : TypeId} (h : Bx w g x y t) (o : Obj) : Bx (w.alloc o) g x y t :=
  h.keep (Below.alloc (Below.refl _ _) (Nat.le_refl _) o)
theorem Bx.c0 {w : World} {g : Nat} {x y : Value} {t : TypeId} (h : Bx w g x y t) : w.cell? ⟨g, 0, none⟩ = some x := by
  rw [cell_of_row w g 0 _ t (0, 0) h]; rfl
theorem Bx.c1 {w : World} {g : Nat} {x y : Value} {t : TypeId} (h : Bx w g x y t) : w.cell? ⟨g, 1, none⟩ = some y := by
  rw [cell_of_row w g 1 _ t (0, 0) h]; rfl
theorem Bx.f {w : World} {g : Nat} {x y : Value} {t : TypeId} (h : Bx w g x y t) (i : Nat) : w.frozen? ⟨g, i, none⟩ = false := frozen_of_row w g i _ t h
theorem Bx.set0 {w : World} {g : Nat} {x y : Value} {t : TypeId} (h : Bx w g x y t) (u : Value) : Bx (w.setCell ⟨g, 0, none⟩ u) g u y t := by
  unfold Bx at *
  rw [heap_setCell_same w g 0 _ t _ h]; rfl
theorem Bx.set1 {w : World} {g : Nat} {x y : Value} {t : TypeId} (h : Bx w g x y t) (u : Value) : Bx (w.setCell ⟨g, 1, none⟩ u) g x u t := by
  unfold Bx at *
  rw [heap_setCell_same w g 1 _ t _ h]; rfl
/-- A slice of numbers does not lie in a box that holds none. -/
theorem Ls.box {w : World} {v : Value} {l : List Int} (h : Ls w v l) {g o : Nat} {x y : Value} {t : TypeId} (hb : Bx w g x y t) (hx : ∀ n, x ≠ .int .i64 n) (hy : ∀ n, y ≠ .int .i64 n) (u : Value) : Ls (w.setCell ⟨g, o, none⟩ u) v l := by
  obtain ⟨a, cap, rfl, hl, hc⟩ := h
  refine ⟨a, cap, rfl, hl, fun hi => ?_⟩
  obtain ⟨b, off, rfl, h⟩ := hc hi
  refine ⟨b, off, rfl, fun i hi => ?_⟩
  have hne : b ≠ g := by
    intro e
    subst e
    have h2 := h i hi
    rw [cell_of_row w b _ _ t (0, 0) hb] at h2
    match hk : off + i with
    | 0 => rw [hk] at h2; simp at h2; exact hx _ h2
    | 1 => rw [hk] at h2; simp at h2; exact hy _ h2
    | k + 2 => rw [hk] at h2; simp at h2
  rw [← h i hi]
  exact World.cell?_of_block (w := w) (Below.heap_setCell w ⟨g, o, none⟩ u b hne)
/-- A result laid into its box. -/
theorem Ls.boxed {w : World} {v : Value} {l : List Int} (h : Ls w v l) {g : Nat} {p : Bool} {x y : Value} {t : TypeId} (hb : Bx w g x y t) (hx : ∀ n, x ≠ .int .i64 n) (hy : ∀ n, y ≠ .int .i64 n) (u : Value) : Ls ((w.setCell ⟨g, 0, none⟩ (.bool p)).setCell ⟨g, 1, none⟩ u) v l :=
  (h.box hb hx hy _).box (hb.set0 _) (fun n e => by cases e) hy u
theorem len_add {x y : Int} (x0 : 0 ≤ x) (y0 : 0 ≤ y) {k : Nat} (l1 : (dg x).length ≤ k) (l2 : (dg y).length ≤ k) : (dg (x + y)).length ≤ k + 1 := by
  refine dg_len_le (by omega) ?_
  have h1 := (dg_len x0 k).1 l1
  have h2 := (dg_len y0 k).1 l2
  have h3 := pow9 k
  rw [Int.pow_succ]
  omega
theorem len_mul {x y : Int} (x0 : 0 ≤ x) (y0 : 0 ≤ y) : (dg (x * y)).length ≤ (dg x).length + (dg y).length := by
  refine dg_len_le (Int.mul_nonneg x0 y0) ?_
  have h1 := dg_lt x0
  have h2 := dg_lt y0
  rw [Int.pow_add]
  have e1 := Int.mul_le_mul_of_nonneg_left (show y ≤ 1000000000 ^ (dg y).length - 1 by omega) x0
  have e2 := Int.mul_le_mul_of_nonneg_right (show x ≤ 1000000000 ^ (dg x).length - 1 by omega) (show (0 : Int) ≤ 1000000000 ^ (dg y).length - 1 by have := pow9 (dg y).length; omega)
  have e3 : ((1000000000 : Int) ^ (dg x).length - 1) * (1000000000 ^ (dg y).length - 1) = 1000000000 ^ (dg x).length * 1000000000 ^ (dg y).length - 1000000000 ^ (dg x).length - 1000000000 ^ (dg y).length + 1 := by grind
  have := pow9 (dg x).length
  have := pow9 (dg y).length
  omega
theorem nb (p : Bool) : ∀ n, Value.bool p ≠ .int .i64 n := fun _ e => by cases e
theorem ns (a : Option Addr) (n c : Nat) : ∀ m, Value.slice a n c ≠ .int .i64 m := fun _ e => by cases e

set_option maxRecDepth 100000 in
theorem comb_plus (b1 b2 ng : Bool) (s1 s2 : Value) (x y z : Int) (w : World) (x0 : 0 ≤ x) (y0 : 0 ≤ y) (h1 : Ls w s1 (dg x)) (h2 : Ls w s2 (dg y)) (l1 : (dg x).length ≤ 600) (l2 : (dg y).length ≤ 600) (hz : z = if ng then -(x + y) else x + y) :
    Calls Tryd.prog 40 #[.func (.func 55) #[] #[], .agg #[.bool b1, s1], .agg #[.bool b2, s2], .bool ng] w fun e w' => RL z e w' ∧ Below w.heap.size w w' := by
  have a1 := Below.alloc (Below.refl w.heap.size w) (Nat.le_refl _) (.cells #[.bool b1, s1] 25)
  have a2 := Below.alloc a1 a1.size (.cells #[.bool b2, s2] 25)
  have a3 := Below.alloc a2 a2.size (.cells #[.bool false, .slice none 0 0] 25)
  have hp := plus_num s1 s2 x y _ x0 y0 (h1.keep a3) (h2.keep a3) (by omega) (by omega)
  obtain ⟨pa, ca, rfl, hca', hqa⟩ := h1
  obtain ⟨pb, cb, rfl, hcb', hqb⟩ := h2
  clear hca' hqa hcb' hqb
  have bx : Bx (((w.alloc (.cells #[.bool b1, .slice pa (dg x).length ca] 25)).alloc (.cells #[.bool b2, .slice pb (dg y).length cb] 25)).alloc (.cells #[.bool false, .slice none 0 0] 25)) (w.heap.size + 1 + 1) (.bool false) (.slice none 0 0) 25 := by
    have := Bx.new ((w.alloc (.cells #[.bool b1, .slice pa (dg x).length ca] 25)).alloc (.cells #[.bool b2, .slice pb (dg y).length cb] 25)) (.bool false) (.slice none 0 0) 25
    rwa [show ((w.alloc (.cells #[.bool b1, .slice pa (dg x).length ca] 25)).alloc (.cells #[.bool b2, .slice pb (dg y).length cb] 25)).heap.size = w.heap.size + 1 + 1 by simp] at this
  have hnn : 0 ≤ x + y := by omega
  have hlen : (dg (x + y)).length ≤ 100000 := by have := len_add x0 y0 l1 l2; omega
  generalize hr : x + y = r at *
  have hsig := hz
  replace hr := Lib.hid hr
  go_enter Tryd.func40, Tryd.ntmps40
  go_wp2_with fail
  go_at_call 55
  refine hp.mono ?_
  rintro e w1 ⟨v, rfl, hv, hb1⟩
  have B1 := a3.trans (hb1.mono a3.size)
  have bx1 := bx.keep hb1
  clear hp bx hb1 a1 a2 a3
  have hsg := signed_num ng v r z w1 hnn hv hlen hsig
  go_wp2_with fail
  go_at_call 36
  refine hsg.mono ?_
  rintro e w2 ⟨hRL, hb2⟩
  have B2 := B1.trans (hb2.mono B1.size)
  have bx2 := bx1.keep hb2
  have hz5 := bx2.lt
  have r0 := bx2.c0
  have r1 := bx2.c1
  have z0 := bx2.f 0
  have z1 := bx2.f 1
  clear hsg hb2 B1 bx1
  rcases hRL with ⟨hl, V, rfl, s, rfl, hs⟩ | ⟨hl, rfl⟩
  · obtain ⟨sg, hsg⟩ : ∃ sg, decide (z < 0) = sg := ⟨_, rfl⟩
    rw [hsg]
    replace hsg := Lib.hid hsg
    have hs' := hs
    obtain ⟨ps, cs, rfl, _, _⟩ := hs
    clear hsig hz
    go_wp2
    refine bodyPost_ret (v := .tuple #[.agg #[.bool sg, .slice ps (dg (z.natAbs : Int)).length cs], .int .i64 0]) (by simp [results, Tryd.results40, go_sem, hz5, r0, r1, z0, z1]) rfl ⟨?_, by (repeat (first | with_reducible exact Below.refl _ _ | with_reducible assumption | refine Below.alloc ?_ (by (try simp); try omega) _ | refine Below.setCell ?_ (by (try simp); try omega) _ | refine below_drewN ?_ _ | refine Below.drew ?_ | (with_reducible refine Below.trans ?_ (Below.mono (by assumption) (by (try simp); try omega)))))⟩
    refine .inl ⟨hl, _, rfl, _, by rw [hsg.out], ?_⟩
    exact hs'.boxed bx2 (nb _) (ns _ _ _) _
  · go_wp2
    refine bodyPost_ret (v := .tuple #[.agg #[.bool false, .slice none 0 0], .int .i64 6]) (by simp [results, Tryd.results40, go_sem, hz5, r0, r1, z0, z1]) rfl ⟨.inr ⟨hl, rfl⟩, by (repeat (first | with_reducible exact Below.refl _ _ | with_reducible assumption | refine Below.alloc ?_ (by (try simp); try omega) _ | refine Below.setCell ?_ (by (try simp); try omega) _ | refine below_drewN ?_ _ | refine Below.drew ?_ | (with_reducible refine Below.trans ?_ (Below.mono (by assumption) (by (try simp); try omega)))))⟩
set_option maxRecDepth 100000 in
theorem comb_minus (b1 b2 ng : Bool) (s1 s2 : Value) (x y z : Int) (w : World) (x0 : 0 ≤ x) (y0 : 0 ≤ y) (h1 : Ls w s1 (dg x)) (h2 : Ls w s2 (dg y)) (l1 : (dg x).length ≤ 600) (l2 : (dg y).length ≤ 600) (hyx : y ≤ x) (hz : z = if ng then -(x - y) else x - y) :
    Calls Tryd.prog 40 #[.func (.func 56) #[] #[], .agg #[.bool b1, s1], .agg #[.bool b2, s2], .bool ng] w fun e w' => RL z e w' ∧ Below w.heap.size w w' := by
  have a1 := Below.alloc (Below.refl w.heap.size w) (Nat.le_refl _) (.cells #[.bool b1, s1] 25)
  have a2 := Below.alloc a1 a1.size (.cells #[.bool b2, s2] 25)
  have a3 := Below.alloc a2 a2.size (.cells #[.bool false, .slice none 0 0] 25)
  have hp := minus_num s1 s2 x y _ y0 hyx (h1.keep a3) (h2.keep a3) (by omega)
  obtain ⟨pa, ca, rfl, hca', hqa⟩ := h1
  obtain ⟨pb, cb, rfl, hcb', hqb⟩ := h2
  clear hca' hqa hcb' hqb
  have bx : Bx (((w.alloc (.cells #[.bool b1, .slice pa (dg x).length ca] 25)).alloc (.cells #[.bool b2, .slice pb (dg y).length cb] 25)).alloc (.cells #[.bool false, .slice none 0 0] 25)) (w.heap.size + 1 + 1) (.bool false) (.slice none 0 0) 25 := by
    have := Bx.new ((w.alloc (.cells #[.bool b1, .slice pa (dg x).length ca] 25)).alloc (.cells #[.bool b2, .slice pb (dg y).length cb] 25)) (.bool false) (.slice none 0 0) 25
    rwa [show ((w.alloc (.cells #[.bool b1, .slice pa (dg x).length ca] 25)).alloc (.cells #[.bool b2, .slice pb (dg y).length cb] 25)).heap.size = w.heap.size + 1 + 1 by simp] at this
  have hnn : 0 ≤ x - y := by omega
  have hlen : (dg (x - y)).length ≤ 100000 := by have := dg_len_mono (x := x - y) (y := x) (by omega) (by omega); omega
  generalize hr : x - y = r at *
  have hsig := hz
  replace hr := Lib.hid hr
  go_enter Tryd.func40, Tryd.ntmps40
  go_wp2_with fail
  go_at_call 56
  refine hp.mono ?_
  rintro e w1 ⟨v, rfl, hv, hb1⟩
  have B1 := a3.trans (hb1.mono a3.size)
  have bx1 := bx.keep hb1
  clear hp bx hb1 a1 a2 a3
  have hsg := signed_num ng v r z w1 hnn hv hlen hsig
  go_wp2_with fail
  go_at_call 36
  refine hsg.mono ?_
  rintro e w2 ⟨hRL, hb2⟩
  have B2 := B1.trans (hb2.mono B1.size)
  have bx2 := bx1.keep hb2
  have hz5 := bx2.lt
  have r0 := bx2.c0
  have r1 := bx2.c1
  have z0 := bx2.f 0
  have z1 := bx2.f 1
  clear hsg hb2 B1 bx1
  rcases hRL with ⟨hl, V, rfl, s, rfl, hs⟩ | ⟨hl, rfl⟩
  · obtain ⟨sg, hsg⟩ : ∃ sg, decide (z < 0) = sg := ⟨_, rfl⟩
    rw [hsg]
    replace hsg := Lib.hid hsg
    have hs' := hs
    obtain ⟨ps, cs, rfl, _, _⟩ := hs
    clear hsig hz
    go_wp2
    refine bodyPost_ret (v := .tuple #[.agg #[.bool sg, .slice ps (dg (z.natAbs : Int)).length cs], .int .i64 0]) (by simp [results, Tryd.results40, go_sem, hz5, r0, r1, z0, z1]) rfl ⟨?_, by (repeat (first | with_reducible exact Below.refl _ _ | with_reducible assumption | refine Below.alloc ?_ (by (try simp); try omega) _ | refine Below.setCell ?_ (by (try simp); try omega) _ | refine below_drewN ?_ _ | refine Below.drew ?_ | (with_reducible refine Below.trans ?_ (Below.mono (by assumption) (by (try simp); try omega)))))⟩
    refine .inl ⟨hl, _, rfl, _, by rw [hsg.out], ?_⟩
    exact hs'.boxed bx2 (nb _) (ns _ _ _) _
  · go_wp2
    refine bodyPost_ret (v := .tuple #[.agg #[.bool false, .slice none 0 0], .int .i64 6]) (by simp [results, Tryd.results40, go_sem, hz5, r0, r1, z0, z1]) rfl ⟨.inr ⟨hl, rfl⟩, by (repeat (first | with_reducible exact Below.refl _ _ | with_reducible assumption | refine Below.alloc ?_ (by (try simp); try omega) _ | refine Below.setCell ?_ (by (try simp); try omega) _ | refine below_drewN ?_ _ | refine Below.drew ?_ | (with_reducible refine Below.trans ?_ (Below.mono (by assumption) (by (try simp); try omega)))))⟩
set_option maxRecDepth 100000 in
theorem comb_times (b1 b2 ng : Bool) (s1 s2 : Value) (x y z : Int) (w : World) (x0 : 0 ≤ x) (y0 : 0 ≤ y) (h1 : Ls w s1 (dg x)) (h2 : Ls w s2 (dg y)) (l1 : (dg x).length ≤ 600) (l2 : (dg y).length ≤ 600) (hz : z = if ng then -(x * y) else x * y) :
    Calls Tryd.prog 40 #[.func (.func 41) #[] #[], .agg #[.bool b1, s1], .agg #[.bool b2, s2], .bool ng] w fun e w' => RL z e w' ∧ Below w.heap.size w w' := by
  have a1 := Below.alloc (Below.refl w.heap.size w) (Nat.le_refl _) (.cells #[.bool b1, s1] 25)
  have a2 := Below.alloc a1 a1.size (.cells #[.bool b2, s2] 25)
  have a3 := Below.alloc a2 a2.size (.cells #[.bool false, .slice none 0 0] 25)
  have hp := times_num s1 s2 x y _ x0 y0 (h1.keep a3) (h2.keep a3) (by omega) (by omega)
  obtain ⟨pa, ca, rfl, hca', hqa⟩ := h1
  obtain ⟨pb, cb, rfl, hcb', hqb⟩ := h2
  clear hca' hqa hcb' hqb
  have bx : Bx (((w.alloc (.cells #[.bool b1, .slice pa (dg x).length ca] 25)).alloc (.cells #[.bool b2, .slice pb (dg y).length cb] 25)).alloc (.cells #[.bool false, .slice none 0 0] 25)) (w.heap.size + 1 + 1) (.bool false) (.slice none 0 0) 25 := by
    have := Bx.new ((w.alloc (.cells #[.bool b1, .slice pa (dg x).length ca] 25)).alloc (.cells #[.bool b2, .slice pb (dg y).length cb] 25)) (.bool false) (.slice none 0 0) 25
    rwa [show ((w.alloc (.cells #[.bool b1, .slice pa (dg x).length ca] 25)).alloc (.cells #[.bool b2, .slice pb (dg y).length cb] 25)).heap.size = w.heap.size + 1 + 1 by simp] at this
  have hnn : 0 ≤ x * y := Int.mul_nonneg x0 y0
  have hlen : (dg (x * y)).length ≤ 100000 := by have := len_mul x0 y0; omega
  generalize hr : x * y = r at *
  have hsig := hz
  replace hr := Lib.hid hr
  go_enter Tryd.func40, Tryd.ntmps40
  go_wp2_with fail
  go_at_call 41
  refine hp.mono ?_
  rintro e w1 ⟨v, rfl, hv, hb1⟩
  have B1 := a3.trans (hb1.mono a3.size)
  have bx1 := bx.keep hb1
  clear hp bx hb1 a1 a2 a3
  have hsg := signed_num ng v r z w1 hnn hv hlen hsig
  go_wp2_with fail
  go_at_call 36
  refine hsg.mono ?_
  rintro e w2 ⟨hRL, hb2⟩
  have B2 := B1.trans (hb2.mono B1.size)
  have bx2 := bx1.keep hb2
  have hz5 := bx2.lt
  have r0 := bx2.c0
  have r1 := bx2.c1
  have z0 := bx2.f 0
  have z1 := bx2.f 1
  clear hsg hb2 B1 bx1
  rcases hRL with ⟨hl, V, rfl, s, rfl, hs⟩ | ⟨hl, rfl⟩
  · obtain ⟨sg, hsg⟩ : ∃ sg, decide (z < 0) = sg := ⟨_, rfl⟩
    rw [hsg]
    replace hsg := Lib.hid hsg
    have hs' := hs
    obtain ⟨ps, cs, rfl, _, _⟩ := hs
    clear hsig hz
    go_wp2
    refine bodyPost_ret (v := .tuple #[.agg #[.bool sg, .slice ps (dg (z.natAbs : Int)).length cs], .int .i64 0]) (by simp [results, Tryd.results40, go_sem, hz5, r0, r1, z0, z1]) rfl ⟨?_, by (repeat (first | with_reducible exact Below.refl _ _ | with_reducible assumption | refine Below.alloc ?_ (by (try simp); try omega) _ | refine Below.setCell ?_ (by (try simp); try omega) _ | refine below_drewN ?_ _ | refine Below.drew ?_ | (with_reducible refine Below.trans ?_ (Below.mono (by assumption) (by (try simp); try omega)))))⟩
    refine .inl ⟨hl, _, rfl, _, by rw [hsg.out], ?_⟩
    exact hs'.boxed bx2 (nb _) (ns _ _ _) _
  · go_wp2
    refine bodyPost_ret (v := .tuple #[.agg #[.bool false, .slice none 0 0], .int .i64 6]) (by simp [results, Tryd.results40, go_sem, hz5, r0, r1, z0, z1]) rfl ⟨.inr ⟨hl, rfl⟩, by (repeat (first | with_reducible exact Below.refl _ _ | with_reducible assumption | refine Below.alloc ?_ (by (try simp); try omega) _ | refine Below.setCell ?_ (by (try simp); try omega) _ | refine below_drewN ?_ _ | refine Below.drew ?_ | (with_reducible refine Below.trans ?_ (Below.mono (by assumption) (by (try simp); try omega)))))⟩

/-- A number by its sign and its size. -/
def sg (b : Bool) (x : Int) : Int := if b then -x else x
set_option maxRecDepth 100000 in
set_option maxHeartbeats 1000000 in
theorem sum_any (b1 b2 : Bool) (s1 s2 : Value) (x y z : Int) (w : World) (x0 : 0 ≤ x) (y0 : 0 ≤ y) (h1 : Ls w s1 (dg x)) (h2 : Ls w s2 (dg y)) (l1 : (dg x).length ≤ 600) (l2 : (dg y).length ≤ 600) (hz : z = sg b1 x + sg b2 y) :
    Calls Tryd.prog 39 #[.agg #[.bool b1, s1], .agg #[.bool b2, s2]] w fun e w' => RL z e w' ∧ Below w.heap.size w w' := by
  have a1 := Below.alloc (Below.refl w.heap.size w) (Nat.le_refl _) (.cells #[.bool b1, s1] 25)
  have a2 := Below.alloc a1 a1.size (.cells #[.bool b2, s2] 25)
  have a3 := Below.alloc a2 a2.size (.cells #[.bool false, .slice none 0 0] 25)
  have h1' := h1
  have h2' := h2
  obtain ⟨pa, ca, rfl, hca', hqa⟩ := h1
  obtain ⟨pb, cb, rfl, hcb', hqb⟩ := h2
  clear hca' hqa hcb' hqb
  have g1 : (w.alloc (.cells #[.bool b1, .slice pa (dg x).length ca] 25)).heap.size = w.heap.size + 1 := by simp
  have g2 : ((w.alloc (.cells #[.bool b1, .slice pa (dg x).length ca] 25)).alloc (.cells #[.bool b2, .slice pb (dg y).length cb] 25)).heap.size = w.heap.size + 1 + 1 := by simp
  have bA : Bx (((w.alloc (.cells #[.bool b1, .slice pa (dg x).length ca] 25)).alloc (.cells #[.bool b2, .slice pb (dg y).length cb] 25)).alloc (.cells #[.bool false, .slice none 0 0] 25)) w.heap.size (.bool b1) (.slice pa (dg x).length ca) 25 := ((Bx.new w _ _ _).alloc _).alloc _
  have bB : Bx (((w.alloc (.cells #[.bool b1, .slice pa (dg x).length ca] 25)).alloc (.cells #[.bool b2, .slice pb (dg y).length cb] 25)).alloc (.cells #[.bool false, .slice none 0 0] 25)) (w.heap.size + 1) (.bool b2) (.slice pb (dg y).length cb) 25 := by
    have := (Bx.new (w.alloc (.cells #[.bool b1, .slice pa (dg x).length ca] 25)) (.bool b2) (.slice pb (dg y).length cb) 25).alloc (.cells #[.bool false, .slice none 0 0] 25)
    rwa [g1] at this
  have bR : Bx (((w.alloc (.cells #[.bool b1, .slice pa (dg x).length ca] 25)).alloc (.cells #[.bool b2, .slice pb (dg y).length cb] 25)).alloc (.cells #[.bool false, .slice none 0 0] 25)) (w.heap.size + 1 + 1) (.bool false) (.slice none 0 0) 25 := by
    have := Bx.new ((w.alloc (.cells #[.bool b1, .slice pa (dg x).length ca] 25)).alloc (.cells #[.bool b2, .slice pb (dg y).length cb] 25)) (.bool false) (.slice none 0 0) 25
    rwa [g2] at this
  have cA0 := bA.c0
  have cA1 := bA.c1
  have cB0 := bB.c0
  have cB1 := bB.c1
  by_cases hb : b1 = b2
  · subst hb
    have hz' : z = if b1 then -(x + y) else x + y := by rw [hz]; unfold sg; cases b1 <;> simp; omega
    have hc := comb_plus b1 b1 b1 _ _ x y z _ x0 y0 (h1'.keep a3) (h2'.keep a3) l1 l2 hz'
    have hbb : (b1 == b1) = true := by simp
    clear hz hz'
    go_enter Tryd.func39, Tryd.ntmps39
    go_wp2_with fail
    go_at_call 40
    refine (hc).mono ?_
    rintro e w2 ⟨hRL, hb2⟩
    have B2 := a3.trans (hb2.mono a3.size)
    have bR2 := bR.keep hb2
    have hz5 := bR2.lt
    have r0 := bR2.c0
    have r1 := bR2.c1
    have z0 := bR2.f 0
    have z1 := bR2.f 1
    clear hc bA bB bR cA0 cA1 cB0 cB1 hb2 a1 a2
    rcases hRL with ⟨hl, V, rfl, s, rfl, hs⟩ | ⟨hl, rfl⟩
    · obtain ⟨sg, hsg⟩ : ∃ sg, decide (z < 0) = sg := ⟨_, rfl⟩
      rw [hsg]
      replace hsg := Lib.hid hsg
      have hs' := hs
      obtain ⟨ps, cs, rfl, _, _⟩ := hs
      go_wp2
      refine bodyPost_ret (v := .tuple #[.agg #[.bool sg, .slice ps (dg (z.natAbs : Int)).length cs], .int .i64 0]) (by simp [results, Tryd.results39, go_sem, hz5, r0, r1, z0, z1]) rfl ⟨?_, by (repeat (first | with_reducible exact Below.refl _ _ | with_reducible assumption | refine Below.alloc ?_ (by (try simp); try omega) _ | refine Below.setCell ?_ (by (try simp); try omega) _ | refine below_drewN ?_ _ | refine Below.drew ?_ | (with_reducible refine Below.trans ?_ (Below.mono (by assumption) (by (try simp); try omega)))))⟩
      refine .inl ⟨hl, _, rfl, _, by rw [hsg.out], ?_⟩
      exact hs'.boxed bR2 (nb _) (ns _ _ _) _
    · go_wp2
      refine bodyPost_ret (v := .tuple #[.agg #[.bool false, .slice none 0 0], .int .i64 6]) (by simp [results, Tryd.results39, go_sem, hz5, r0, r1, z0, z1]) rfl ⟨.inr ⟨hl, rfl⟩, by (repeat (first | with_reducible exact Below.refl _ _ | with_reducible assumption | refine Below.alloc ?_ (by (try simp); try omega) _ | refine Below.setCell ?_ (by (try simp); try omega) _ | refine below_drewN ?_ _ | refine Below.drew ?_ | (with_reducible refine Below.trans ?_ (Below.mono (by assumption) (by (try simp); try omega)))))⟩
  · have hbb : (b1 == b2) = false := by simpa using hb
    have hcm := compare_num _ _ x y _ x0 y0 (h1'.keep a3) (h2'.keep a3) (by omega) (by omega)
    by_cases hxy : y ≤ x
    · have hz' : z = if b1 then -(x - y) else x - y := by rw [hz]; unfold sg; cases b1 <;> cases b2 <;> simp at hb ⊢ <;> omega
      have hd : 0 ≤ cmpI x y := by unfold cmpI; rw [if_neg (by omega)]; split <;> omega
      generalize cmpI x y = d at *
      have hc := fun w h h' => comb_minus b1 b2 b1 (.slice pa (dg x).length ca) (.slice pb (dg y).length cb) x y z w x0 y0 h h' l1 l2 hxy hz'
      clear hz hz' hb
      go_enter Tryd.func39, Tryd.ntmps39
      go_wp2_with fail
      go_at_call 50
      refine hcm.mono ?_
      rintro e w1 ⟨rfl, hb1⟩
      have B1 := a3.trans (hb1.mono a3.size)
      have bA1 := bA.keep hb1
      have bB1 := bB.keep hb1
      have bR1 := bR.keep hb1
      have cA0' := bA1.c0
      have cA1' := bA1.c1
      have cB0' := bB1.c0
      have cB1' := bB1.c1
      have h3 := h1'.keep B1
      have h4 := h2'.keep B1
      clear hcm cA0 cA1 cB0 cB1 bA bB bR hb1
      go_wp2_with fail
      go_at_call 40
      refine (hc _ h3 h4).mono ?_
      rintro e w2 ⟨hRL, hb2⟩
      have B2 := B1.trans (hb2.mono B1.size)
      have bR2 := bR1.keep hb2
      have hz5 := bR2.lt
      have r0 := bR2.c0
      have r1 := bR2.c1
      have z0 := bR2.f 0
      have z1 := bR2.f 1
      rcases hRL with ⟨hl, V, rfl, s, rfl, hs⟩ | ⟨hl, rfl⟩
      · obtain ⟨sg, hsg⟩ : ∃ sg, decide (z < 0) = sg := ⟨_, rfl⟩
        rw [hsg]
        replace hsg := Lib.hid hsg
        have hs' := hs
        obtain ⟨ps, cs, rfl, _, _⟩ := hs
        go_wp2
        refine bodyPost_ret (v := .tuple #[.agg #[.bool sg, .slice ps (dg (z.natAbs : Int)).length cs], .int .i64 0]) (by simp [results, Tryd.results39, go_sem, hz5, r0, r1, z0, z1]) rfl ⟨?_, by (repeat (first | with_reducible exact Below.refl _ _ | with_reducible assumption | refine Below.alloc ?_ (by (try simp); try omega) _ | refine Below.setCell ?_ (by (try simp); try omega) _ | refine below_drewN ?_ _ | refine Below.drew ?_ | (with_reducible refine Below.trans ?_ (Below.mono (by assumption) (by (try simp); try omega)))))⟩
        refine .inl ⟨hl, _, rfl, _, by rw [hsg.out], ?_⟩
        exact hs'.boxed bR2 (nb _) (ns _ _ _) _
      · go_wp2
        refine bodyPost_ret (v := .tuple #[.agg #[.bool false, .slice none 0 0], .int .i64 6]) (by simp [results, Tryd.results39, go_sem, hz5, r0, r1, z0, z1]) rfl ⟨.inr ⟨hl, rfl⟩, by (repeat (first | with_reducible exact Below.refl _ _ | with_reducible assumption | refine Below.alloc ?_ (by (try simp); try omega) _ | refine Below.setCell ?_ (by (try simp); try omega) _ | refine below_drewN ?_ _ | refine Below.drew ?_ | (with_reducible refine Below.trans ?_ (Below.mono (by assumption) (by (try simp); try omega)))))⟩
    · have hz' : z = if b2 then -(y - x) else y - x := by rw [hz]; unfold sg; cases b1 <;> cases b2 <;> simp at hb ⊢ <;> omega
      rw [cmpI_lt (by omega)] at hcm
      have hc := fun w h h' => comb_minus b2 b1 b2 (.slice pb (dg y).length cb) (.slice pa (dg x).length ca) y x z w y0 x0 h h' l2 l1 (by omega) hz'
      clear hz hz' hb
      go_enter Tryd.func39, Tryd.ntmps39
      go_wp2_with fail
      go_at_call 50
      refine hcm.mono ?_
      rintro e w1 ⟨rfl, hb1⟩
      have B1 := a3.trans (hb1.mono a3.size)
      have bA1 := bA.keep hb1
      have bB1 := bB.keep hb1
      have bR1 := bR.keep hb1
      have cA0' := bA1.c0
      have cA1' := bA1.c1
      have cB0' := bB1.c0
      have cB1' := bB1.c1
      have h3 := h1'.keep B1
      have h4 := h2'.keep B1
      clear hcm cA0 cA1 cB0 cB1 bA bB bR hb1
      go_wp2_with fail
      go_at_call 40
      refine (hc _ h4 h3).mono ?_
      rintro e w2 ⟨hRL, hb2⟩
      have B2 := B1.trans (hb2.mono B1.size)
      have bR2 := bR1.keep hb2
      have hz5 := bR2.lt
      have r0 := bR2.c0
      have r1 := bR2.c1
      have z0 := bR2.f 0
      have z1 := bR2.f 1
      rcases hRL with ⟨hl, V, rfl, s, rfl, hs⟩ | ⟨hl, rfl⟩
      · obtain ⟨sg, hsg⟩ : ∃ sg, decide (z < 0) = sg := ⟨_, rfl⟩
        rw [hsg]
        replace hsg := Lib.hid hsg
        have hs' := hs
        obtain ⟨ps, cs, rfl, _, _⟩ := hs
        go_wp2
        refine bodyPost_ret (v := .tuple #[.agg #[.bool sg, .slice ps (dg (z.natAbs : Int)).length cs], .int .i64 0]) (by simp [results, Tryd.results39, go_sem, hz5, r0, r1, z0, z1]) rfl ⟨?_, by (repeat (first | with_reducible exact Below.refl _ _ | with_reducible assumption | refine Below.alloc ?_ (by (try simp); try omega) _ | refine Below.setCell ?_ (by (try simp); try omega) _ | refine below_drewN ?_ _ | refine Below.drew ?_ | (with_reducible refine Below.trans ?_ (Below.mono (by assumption) (by (try simp); try omega)))))⟩
        refine .inl ⟨hl, _, rfl, _, by rw [hsg.out], ?_⟩
        exact hs'.boxed bR2 (nb _) (ns _ _ _) _
      · go_wp2
        refine bodyPost_ret (v := .tuple #[.agg #[.bool false, .slice none 0 0], .int .i64 6]) (by simp [results, Tryd.results39, go_sem, hz5, r0, r1, z0, z1]) rfl ⟨.inr ⟨hl, rfl⟩, by (repeat (first | with_reducible exact Below.refl _ _ | with_reducible assumption | refine Below.alloc ?_ (by (try simp); try omega) _ | refine Below.setCell ?_ (by (try simp); try omega) _ | refine below_drewN ?_ _ | refine Below.drew ?_ | (with_reducible refine Below.trans ?_ (Below.mono (by assumption) (by (try simp); try omega)))))⟩

theorem sg_num (x : Int) : sg (decide (x < 0)) (x.natAbs : Int) = x := by
  unfold sg; by_cases h : x < 0 <;> simp [h] <;> omega
set_option maxRecDepth 100000 in
set_option maxHeartbeats 1000000 in
theorem add_raw (b1 b2 : Bool) (s1 s2 : Value) (x y z : Int) (w : World) (x0 : 0 ≤ x) (y0 : 0 ≤ y) (h1 : Ls w s1 (dg x)) (h2 : Ls w s2 (dg y)) (l1 : (dg x).length ≤ 600) (l2 : (dg y).length ≤ 600) (hv1 : ckL b1 (dg x) = 0) (hv2 : ckL b2 (dg y) = 0) (hz : z = sg b1 x + sg b2 y) :
    Calls Tryd.prog 12 #[.agg #[.bool b1, s1], .agg #[.bool b2, s2]] w fun e w' => RL z e w' ∧ Below w.heap.size w w' := by
  have a1 := Below.alloc (Below.refl w.heap.size w) (Nat.le_refl _) (.cells #[.bool b1, s1] 25)
  have a2 := Below.alloc a1 a1.size (.cells #[.bool b2, s2] 25)
  have a3 := Below.alloc a2 a2.size (.cells #[.bool false, .slice none 0 0] 25)
  have h1' := h1
  have h2' := h2
  obtain ⟨pa, ca, rfl, hca', hqa⟩ := h1
  obtain ⟨pb, cb, rfl, hcb', hqb⟩ := h2
  clear hca' hqa hcb' hqb
  have g1 : (w.alloc (.cells #[.bool b1, .slice pa (dg x).length ca] 25)).heap.size = w.heap.size + 1 := by simp
  have g2 : ((w.alloc (.cells #[.bool b1, .slice pa (dg x).length ca] 25)).alloc (.cells #[.bool b2, .slice pb (dg y).length cb] 25)).heap.size = w.heap.size + 1 + 1 := by simp
  have bA : Bx (((w.alloc (.cells #[.bool b1, .slice pa (dg x).length ca] 25)).alloc (.cells #[.bool b2, .slice pb (dg y).length cb] 25)).alloc (.cells #[.bool false, .slice none 0 0] 25)) w.heap.size (.bool b1) (.slice pa (dg x).length ca) 25 := ((Bx.new w _ _ _).alloc _).alloc _
  have bB : Bx (((w.alloc (.cells #[.bool b1, .slice pa (dg x).length ca] 25)).alloc (.cells #[.bool b2, .slice pb (dg y).length cb] 25)).alloc (.cells #[.bool false, .slice none 0 0] 25)) (w.heap.size + 1) (.bool b2) (.slice pb (dg y).length cb) 25 := by
    have := (Bx.new (w.alloc (.cells #[.bool b1, .slice pa (dg x).length ca] 25)) (.bool b2) (.slice pb (dg y).length cb) 25).alloc (.cells #[.bool false, .slice none 0 0] 25)
    rwa [g1] at this
  have bR : Bx (((w.alloc (.cells #[.bool b1, .slice pa (dg x).length ca] 25)).alloc (.cells #[.bool b2, .slice pb (dg y).length cb] 25)).alloc (.cells #[.bool false, .slice none 0 0] 25)) (w.heap.size + 1 + 1) (.bool false) (.slice none 0 0) 25 := by
    have := Bx.new ((w.alloc (.cells #[.bool b1, .slice pa (dg x).length ca] 25)).alloc (.cells #[.bool b2, .slice pb (dg y).length cb] 25)) (.bool false) (.slice none 0 0) 25
    rwa [g2] at this
  have g3 : (((w.alloc (.cells #[.bool b1, .slice pa (dg x).length ca] 25)).alloc (.cells #[.bool b2, .slice pb (dg y).length cb] 25)).alloc (.cells #[.bool false, .slice none 0 0] 25)).heap.size = w.heap.size + 1 + 1 + 1 := by simp
  have a4 := Below.alloc a3 a3.size (.cells #[.bool b1, .slice pa (dg x).length ca, .bool b2, .slice pb (dg y).length cb] 25)
  have bA4 := bA.alloc (.cells #[.bool b1, .slice pa (dg x).length ca, .bool b2, .slice pb (dg y).length cb] 25)
  have bB4 := bB.alloc (.cells #[.bool b1, .slice pa (dg x).length ca, .bool b2, .slice pb (dg y).length cb] 25)
  have bR4 := bR.alloc (.cells #[.bool b1, .slice pa (dg x).length ca, .bool b2, .slice pb (dg y).length cb] 25)
  have hrow := heap_alloc_new (((w.alloc (.cells #[.bool b1, .slice pa (dg x).length ca] 25)).alloc (.cells #[.bool b2, .slice pb (dg y).length cb] 25)).alloc (.cells #[.bool false, .slice none 0 0] 25)) (.cells #[.bool b1, .slice pa (dg x).length ca, .bool b2, .slice pb (dg y).length cb] 25)
  rw [g3] at hrow
  have hck := checkAll2_any b1 b2 _ _ _ _ (w.heap.size + 1 + 1 + 1) ((((w.alloc (.cells #[.bool b1, .slice pa (dg x).length ca] 25)).alloc (.cells #[.bool b2, .slice pb (dg y).length cb] 25)).alloc (.cells #[.bool false, .slice none 0 0] 25)).alloc (.cells #[.bool b1, .slice pa (dg x).length ca, .bool b2, .slice pb (dg y).length cb] 25)) (h1'.keep a4) (h2'.keep a4) (by omega) (by omega) (by rw [cell_of_row _ _ 0 _ _ _ hrow]; rfl) (by rw [cell_of_row _ _ 1 _ _ _ hrow]; rfl) (by rw [cell_of_row _ _ 2 _ _ _ hrow]; rfl) (by rw [cell_of_row _ _ 3 _ _ _ hrow]; rfl)
  rw [hv1, hv2, show ckT 0 0 = 0 from rfl] at hck
  clear hrow bA bB bR g1 g2 g3
  have hs := fun w h h' => sum_any b1 b2 (.slice pa (dg x).length ca) (.slice pb (dg y).length cb) x y z w x0 y0 h h' l1 l2 hz
  clear hz hv1 hv2
  go_enter Tryd.func12, Tryd.ntmps12
  go_wp2_with fail
  go_at_call 38
  refine hck.mono ?_
  rintro e w1 ⟨rfl, hb1⟩
  have B1 := a4.trans (hb1.mono a4.size)
  have bA1 := bA4.keep hb1
  have bB1 := bB4.keep hb1
  have bR1 := bR4.keep hb1
  have cA0' := bA1.c0
  have cA1' := bA1.c1
  have cB0' := bB1.c0
  have cB1' := bB1.c1
  have cR0' := bR1.c0
  have cR1' := bR1.c1
  have h3 := h1'.keep B1
  have h4 := h2'.keep B1
  clear hck bA4 bB4 bR4 hb1 a1 a2 a3 a4
  go_wp2_with fail
  go_at_call 39
  refine (hs _ h3 h4).mono ?_
  rintro e w2 ⟨hRL, hb2⟩
  have B2 := B1.trans (hb2.mono B1.size)
  have bR2 := bR1.keep hb2
  have hz5 := bR2.lt
  have r0 := bR2.c0
  have r1 := bR2.c1
  have z0 := bR2.f 0
  have z1 := bR2.f 1
  clear cA0' cA1' cB0' cB1' cR0' cR1' hb2 B1
  rcases hRL with ⟨hl, V, rfl, s, rfl, hs⟩ | ⟨hl, rfl⟩
  · obtain ⟨sg, hsg⟩ : ∃ sg, decide (z < 0) = sg := ⟨_, rfl⟩
    rw [hsg]
    replace hsg := Lib.hid hsg
    have hs' := hs
    obtain ⟨ps, cs, rfl, _, _⟩ := hs
    go_wp2
    refine bodyPost_ret (v := .tuple #[.agg #[.bool sg, .slice ps (dg (z.natAbs : Int)).length cs], .int .i64 0]) (by simp [results, Tryd.results12, go_sem, hz5, r0, r1, z0, z1]) rfl ⟨?_, by (repeat (first | with_reducible exact Below.refl _ _ | with_reducible assumption | refine Below.alloc ?_ (by (try simp); try omega) _ | refine Below.setCell ?_ (by (try simp); try omega) _ | refine below_drewN ?_ _ | refine Below.drew ?_ | (with_reducible refine Below.trans ?_ (Below.mono (by assumption) (by (try simp); try omega)))))⟩
    refine .inl ⟨hl, _, rfl, _, by rw [hsg.out], ?_⟩
    exact hs'.boxed bR2 (nb _) (ns _ _ _) _
  · go_wp2
    refine bodyPost_ret (v := .tuple #[.agg #[.bool false, .slice none 0 0], .int .i64 6]) (by simp [results, Tryd.results12, go_sem, hz5, r0, r1, z0, z1]) rfl ⟨.inr ⟨hl, rfl⟩, by (repeat (first | with_reducible exact Below.refl _ _ | with_reducible assumption | refine Below.alloc ?_ (by (try simp); try omega) _ | refine Below.setCell ?_ (by (try simp); try omega) _ | refine below_drewN ?_ _ | refine Below.drew ?_ | (with_reducible refine Below.trans ?_ (Below.mono (by assumption) (by (try simp); try omega)))))⟩
theorem add_num (A B : Value) (x y : Int) (w : World) (hA : Lg w A x) (hB : Lg w B y) (l1 : (dg (x.natAbs : Int)).length ≤ 600) (l2 : (dg (y.natAbs : Int)).length ≤ 600) :
    Calls Tryd.prog 12 #[A, B] w fun e w' => RL (x + y) e w' ∧ Below w.heap.size w w' := by
  obtain ⟨s1, rfl, h1⟩ := hA
  obtain ⟨s2, rfl, h2⟩ := hB
  exact add_raw _ _ _ _ _ _ _ w (by omega) (by omega) h1 h2 l1 l2 (ckL_num l1) (ckL_num l2) (by rw [sg_num, sg_num])
set_option maxRecDepth 100000 in
set_option maxHeartbeats 1000000 in
theorem sub_raw (b1 b2 : Bool) (s1 s2 : Value) (x y z : Int) (w : World) (x0 : 0 ≤ x) (y0 : 0 ≤ y) (h1 : Ls w s1 (dg x)) (h2 : Ls w s2 (dg y)) (l1 : (dg x).length ≤ 600) (l2 : (dg y).length ≤ 600) (hv1 : ckL b1 (dg x) = 0) (hv2 : ckL b2 (dg y) = 0) (hz : z = sg b1 x - sg b2 y) :
    Calls Tryd.prog 13 #[.agg #[.bool b1, s1], .agg #[.bool b2, s2]] w fun e w' => RL z e w' ∧ Below w.heap.size w w' := by
  have a1 := Below.alloc (Below.refl w.heap.size w) (Nat.le_refl _) (.cells #[.bool b1, s1] 25)
  have a2 := Below.alloc a1 a1.size (.cells #[.bool b2, s2] 25)
  have a3 := Below.alloc a2 a2.size (.cells #[.bool false, .slice none 0 0] 25)
  have h1' := h1
  have h2' := h2
  obtain ⟨pa, ca, rfl, hca', hqa⟩ := h1
  obtain ⟨pb, cb, rfl, hcb', hqb⟩ := h2
  clear hca' hqa hcb' hqb
  have g1 : (w.alloc (.cells #[.bool b1, .slice pa (dg x).length ca] 25)).heap.size = w.heap.size + 1 := by simp
  have g2 : ((w.alloc (.cells #[.bool b1, .slice pa (dg x).length ca] 25)).alloc (.cells #[.bool b2, .slice pb (dg y).length cb] 25)).heap.size = w.heap.size + 1 + 1 := by simp
  have bA : Bx (((w.alloc (.cells #[.bool b1, .slice pa (dg x).length ca] 25)).alloc (.cells #[.bool b2, .slice pb (dg y).length cb] 25)).alloc (.cells #[.bool false, .slice none 0 0] 25)) w.heap.size (.bool b1) (.slice pa (dg x).length ca) 25 := ((Bx.new w _ _ _).alloc _).alloc _
  have bB : Bx (((w.alloc (.cells #[.bool b1, .slice pa (dg x).length ca] 25)).alloc (.cells #[.bool b2, .slice pb (dg y).length cb] 25)).alloc (.cells #[.bool false, .slice none 0 0] 25)) (w.heap.size + 1) (.bool b2) (.slice pb (dg y).length cb) 25 := by
    have := (Bx.new (w.alloc (.cells #[.bool b1, .slice pa (dg x).length ca] 25)) (.bool b2) (.slice pb (dg y).length cb) 25).alloc (.cells #[.bool false, .slice none 0 0] 25)
    rwa [g1] at this
  have bR : Bx (((w.alloc (.cells #[.bool b1, .slice pa (dg x).length ca] 25)).alloc (.cells #[.bool b2, .slice pb (dg y).length cb] 25)).alloc (.cells #[.bool false, .slice none 0 0] 25)) (w.heap.size + 1 + 1) (.bool false) (.slice none 0 0) 25 := by
    have := Bx.new ((w.alloc (.cells #[.bool b1, .slice pa (dg x).length ca] 25)).alloc (.cells #[.bool b2, .slice pb (dg y).length cb] 25)) (.bool false) (.slice none 0 0) 25
    rwa [g2] at this
  have g3 : (((w.alloc (.cells #[.bool b1, .slice pa (dg x).length ca] 25)).alloc (.cells #[.bool b2, .slice pb (dg y).length cb] 25)).alloc (.cells #[.bool false, .slice none 0 0] 25)).heap.size = w.heap.size + 1 + 1 + 1 := by simp
  have a4 := Below.alloc a3 a3.size (.cells #[.bool b1, .slice pa (dg x).length ca, .bool b2, .slice pb (dg y).length cb] 25)
  have bA4 := bA.alloc (.cells #[.bool b1, .slice pa (dg x).length ca, .bool b2, .slice pb (dg y).length cb] 25)
  have bB4 := bB.alloc (.cells #[.bool b1, .slice pa (dg x).length ca, .bool b2, .slice pb (dg y).length cb] 25)
  have bR4 := bR.alloc (.cells #[.bool b1, .slice pa (dg x).length ca, .bool b2, .slice pb (dg y).length cb] 25)
  have hrow := heap_alloc_new (((w.alloc (.cells #[.bool b1, .slice pa (dg x).length ca] 25)).alloc (.cells #[.bool b2, .slice pb (dg y).length cb] 25)).alloc (.cells #[.bool false, .slice none 0 0] 25)) (.cells #[.bool b1, .slice pa (dg x).length ca, .bool b2, .slice pb (dg y).length cb] 25)
  rw [g3] at hrow
  have hck := checkAll2_any b1 b2 _ _ _ _ (w.heap.size + 1 + 1 + 1) ((((w.alloc (.cells #[.bool b1, .slice pa (dg x).length ca] 25)).alloc (.cells #[.bool b2, .slice pb (dg y).length cb] 25)).alloc (.cells #[.bool false, .slice none 0 0] 25)).alloc (.cells #[.bool b1, .slice pa (dg x).length ca, .bool b2, .slice pb (dg y).length cb] 25)) (h1'.keep a4) (h2'.keep a4) (by omega) (by omega) (by rw [cell_of_row _ _ 0 _ _ _ hrow]; rfl) (by rw [cell_of_row _ _ 1 _ _ _ hrow]; rfl) (by rw [cell_of_row _ _ 2 _ _ _ hrow]; rfl) (by rw [cell_of_row _ _ 3 _ _ _ hrow]; rfl)
  rw [hv1, hv2, show ckT 0 0 = 0 from rfl] at hck
  clear hrow bA bB bR g1 g2 g3
  have hs := fun w h h' => sum_any b1 (!b2) (.slice pa (dg x).length ca) (.slice pb (dg y).length cb) x y z w x0 y0 h h' l1 l2 (by rw [hz]; unfold sg; cases b2 <;> simp <;> omega)
  clear hz hv1 hv2
  go_enter Tryd.func13, Tryd.ntmps13
  go_wp2_with fail
  go_at_call 38
  refine hck.mono ?_
  rintro e w1 ⟨rfl, hb1⟩
  have B1 := a4.trans (hb1.mono a4.size)
  have bA1 := bA4.keep hb1
  have bB1 := bB4.keep hb1
  have bR1 := bR4.keep hb1
  have cA0' := bA1.c0
  have cA1' := bA1.c1
  have cB0' := bB1.c0
  have cB1' := bB1.c1
  have cR0' := bR1.c0
  have cR1' := bR1.c1
  have h3 := h1'.keep B1
  have h4 := h2'.keep B1
  clear hck bA4 bB4 bR4 hb1 a1 a2 a3 a4
  go_wp2_with fail
  go_at_call 39
  refine (hs _ h3 h4).mono ?_
  rintro e w2 ⟨hRL, hb2⟩
  have B2 := B1.trans (hb2.mono B1.size)
  have bR2 := bR1.keep hb2
  have hz5 := bR2.lt
  have r0 := bR2.c0
  have r1 := bR2.c1
  have z0 := bR2.f 0
  have z1 := bR2.f 1
  clear cA0' cA1' cB0' cB1' cR0' cR1' hb2 B1
  rcases hRL with ⟨hl, V, rfl, s, rfl, hs⟩ | ⟨hl, rfl⟩
  · obtain ⟨sg, hsg⟩ : ∃ sg, decide (z < 0) = sg := ⟨_, rfl⟩
    rw [hsg]
    replace hsg := Lib.hid hsg
    have hs' := hs
    obtain ⟨ps, cs, rfl, _, _⟩ := hs
    go_wp2
    refine bodyPost_ret (v := .tuple #[.agg #[.bool sg, .slice ps (dg (z.natAbs : Int)).length cs], .int .i64 0]) (by simp [results, Tryd.results13, go_sem, hz5, r0, r1, z0, z1]) rfl ⟨?_, by (repeat (first | with_reducible exact Below.refl _ _ | with_reducible assumption | refine Below.alloc ?_ (by (try simp); try omega) _ | refine Below.setCell ?_ (by (try simp); try omega) _ | refine below_drewN ?_ _ | refine Below.drew ?_ | (with_reducible refine Below.trans ?_ (Below.mono (by assumption) (by (try simp); try omega)))))⟩
    refine .inl ⟨hl, _, rfl, _, by rw [hsg.out], ?_⟩
    exact hs'.boxed bR2 (nb _) (ns _ _ _) _
  · go_wp2
    refine bodyPost_ret (v := .tuple #[.agg #[.bool false, .slice none 0 0], .int .i64 6]) (by simp [results, Tryd.results13, go_sem, hz5, r0, r1, z0, z1]) rfl ⟨.inr ⟨hl, rfl⟩, by (repeat (first | with_reducible exact Below.refl _ _ | with_reducible assumption | refine Below.alloc ?_ (by (try simp); try omega) _ | refine Below.setCell ?_ (by (try simp); try omega) _ | refine below_drewN ?_ _ | refine Below.drew ?_ | (with_reducible refine Below.trans ?_ (Below.mono (by assumption) (by (try simp); try omega)))))⟩
theorem sub_num (A B : Value) (x y : Int) (w : World) (hA : Lg w A x) (hB : Lg w B y) (l1 : (dg (x.natAbs : Int)).length ≤ 600) (l2 : (dg (y.natAbs : Int)).length ≤ 600) :
    Calls Tryd.prog 13 #[A, B] w fun e w' => RL (x - y) e w' ∧ Below w.heap.size w w' := by
  obtain ⟨s1, rfl, h1⟩ := hA
  obtain ⟨s2, rfl, h2⟩ := hB
  exact sub_raw _ _ _ _ _ _ _ w (by omega) (by omega) h1 h2 l1 l2 (ckL_num l1) (ckL_num l2) (by rw [sg_num, sg_num])
set_option maxRecDepth 100000 in
set_option maxHeartbeats 1000000 in
theorem mul_raw (b1 b2 : Bool) (s1 s2 : Value) (x y z : Int) (w : World) (x0 : 0 ≤ x) (y0 : 0 ≤ y) (h1 : Ls w s1 (dg x)) (h2 : Ls w s2 (dg y)) (l1 : (dg x).length ≤ 600) (l2 : (dg y).length ≤ 600) (hv1 : ckL b1 (dg x) = 0) (hv2 : ckL b2 (dg y) = 0) (hz : z = sg b1 x * sg b2 y) :
    Calls Tryd.prog 14 #[.agg #[.bool b1, s1], .agg #[.bool b2, s2]] w fun e w' => RL z e w' ∧ Below w.heap.size w w' := by
  have a1 := Below.alloc (Below.refl w.heap.size w) (Nat.le_refl _) (.cells #[.bool b1, s1] 25)
  have a2 := Below.alloc a1 a1.size (.cells #[.bool b2, s2] 25)
  have a3 := Below.alloc a2 a2.size (.cells #[.bool false, .slice none 0 0] 25)
  have h1' := h1
  have h2' := h2
  obtain ⟨pa, ca, rfl, hca', hqa⟩ := h1
  obtain ⟨pb, cb, rfl, hcb', hqb⟩ := h2
  clear hca' hqa hcb' hqb
  have g1 : (w.alloc (.cells #[.bool b1, .slice pa (dg x).length ca] 25)).heap.size = w.heap.size + 1 := by simp
  have g2 : ((w.alloc (.cells #[.bool b1, .slice pa (dg x).length ca] 25)).alloc (.cells #[.bool b2, .slice pb (dg y).length cb] 25)).heap.size = w.heap.size + 1 + 1 := by simp
  have bA : Bx (((w.alloc (.cells #[.bool b1, .slice pa (dg x).length ca] 25)).alloc (.cells #[.bool b2, .slice pb (dg y).length cb] 25)).alloc (.cells #[.bool false, .slice none 0 0] 25)) w.heap.size (.bool b1) (.slice pa (dg x).length ca) 25 := ((Bx.new w _ _ _).alloc _).alloc _
  have bB : Bx (((w.alloc (.cells #[.bool b1, .slice pa (dg x).length ca] 25)).alloc (.cells #[.bool b2, .slice pb (dg y).length cb] 25)).alloc (.cells #[.bool false, .slice none 0 0] 25)) (w.heap.size + 1) (.bool b2) (.slice pb (dg y).length cb) 25 := by
    have := (Bx.new (w.alloc (.cells #[.bool b1, .slice pa (dg x).length ca] 25)) (.bool b2) (.slice pb (dg y).length cb) 25).alloc (.cells #[.bool false, .slice none 0 0] 25)
    rwa [g1] at this
  have bR : Bx (((w.alloc (.cells #[.bool b1, .slice pa (dg x).length ca] 25)).alloc (.cells #[.bool b2, .slice pb (dg y).length cb] 25)).alloc (.cells #[.bool false, .slice none 0 0] 25)) (w.heap.size + 1 + 1) (.bool false) (.slice none 0 0) 25 := by
    have := Bx.new ((w.alloc (.cells #[.bool b1, .slice pa (dg x).length ca] 25)).alloc (.cells #[.bool b2, .slice pb (dg y).length cb] 25)) (.bool false) (.slice none 0 0) 25
    rwa [g2] at this
  have g3 : (((w.alloc (.cells #[.bool b1, .slice pa (dg x).length ca] 25)).alloc (.cells #[.bool b2, .slice pb (dg y).length cb] 25)).alloc (.cells #[.bool false, .slice none 0 0] 25)).heap.size = w.heap.size + 1 + 1 + 1 := by simp
  have a4 := Below.alloc a3 a3.size (.cells #[.bool b1, .slice pa (dg x).length ca, .bool b2, .slice pb (dg y).length cb] 25)
  have bA4 := bA.alloc (.cells #[.bool b1, .slice pa (dg x).length ca, .bool b2, .slice pb (dg y).length cb] 25)
  have bB4 := bB.alloc (.cells #[.bool b1, .slice pa (dg x).length ca, .bool b2, .slice pb (dg y).length cb] 25)
  have bR4 := bR.alloc (.cells #[.bool b1, .slice pa (dg x).length ca, .bool b2, .slice pb (dg y).length cb] 25)
  have hrow := heap_alloc_new (((w.alloc (.cells #[.bool b1, .slice pa (dg x).length ca] 25)).alloc (.cells #[.bool b2, .slice pb (dg y).length cb] 25)).alloc (.cells #[.bool false, .slice none 0 0] 25)) (.cells #[.bool b1, .slice pa (dg x).length ca, .bool b2, .slice pb (dg y).length cb] 25)
  rw [g3] at hrow
  have hck := checkAll2_any b1 b2 _ _ _ _ (w.heap.size + 1 + 1 + 1) ((((w.alloc (.cells #[.bool b1, .slice pa (dg x).length ca] 25)).alloc (.cells #[.bool b2, .slice pb (dg y).length cb] 25)).alloc (.cells #[.bool false, .slice none 0 0] 25)).alloc (.cells #[.bool b1, .slice pa (dg x).length ca, .bool b2, .slice pb (dg y).length cb] 25)) (h1'.keep a4) (h2'.keep a4) (by omega) (by omega) (by rw [cell_of_row _ _ 0 _ _ _ hrow]; rfl) (by rw [cell_of_row _ _ 1 _ _ _ hrow]; rfl) (by rw [cell_of_row _ _ 2 _ _ _ hrow]; rfl) (by rw [cell_of_row _ _ 3 _ _ _ hrow]; rfl)
  rw [hv1, hv2, show ckT 0 0 = 0 from rfl] at hck
  clear hrow bA bB bR g1 g2 g3
  have hz' : z = if (b1 != b2) then -(x * y) else x * y := by rw [hz]; unfold sg; cases b1 <;> cases b2 <;> simp [Int.mul_neg, Int.neg_mul, Int.neg_mul_neg]
  have hs := fun w h h' => comb_times b1 b2 (b1 != b2) (.slice pa (dg x).length ca) (.slice pb (dg y).length cb) x y z w x0 y0 h h' l1 l2 hz'
  have hbig : 601 < (dg x).length + (dg y).length → 600 < (dg (z.natAbs : Int)).length := by
    intro h
    have e : (z.natAbs : Int) = x * y := by
      have := Int.mul_nonneg x0 y0
      rw [hz']; split <;> omega
    rw [e]
    have p1 : 0 < x := by
      rcases (by omega : x = 0 ∨ 0 < x) with k | k
      · rw [k, dg_zero] at h; simp at h; omega
      · exact k
    have p2 : 0 < y := by
      rcases (by omega : y = 0 ∨ 0 < y) with k | k
      · rw [k, dg_zero] at h; simp at h; omega
      · exact k
    have g1 := dg_ge p1
    have g2 := dg_ge p2
    rcases Nat.lt_or_ge 600 (dg (x * y)).length with k | k
    · exact k
    · have k2 := (dg_len (Int.mul_nonneg x0 y0) 600).1 k
      have k3 := Int.mul_le_mul g1 g2 (show (0 : Int) ≤ 1000000000 ^ ((dg y).length - 1) by have := pow9 ((dg y).length - 1); omega) x0
      rw [← Int.pow_add] at k3
      have k4 := pow9_le (show 600 ≤ (dg x).length - 1 + ((dg y).length - 1) by omega)
      omega
  replace hbig := Lib.hid hbig
  clear hz hz' hv1 hv2
  go_enter Tryd.func14, Tryd.ntmps14
  go_wp2_with fail
  go_at_call 38
  refine hck.mono ?_
  rintro e w1 ⟨rfl, hb1⟩
  have B1 := a4.trans (hb1.mono a4.size)
  have bA1 := bA4.keep hb1
  have bB1 := bB4.keep hb1
  have bR1 := bR4.keep hb1
  have cA0' := bA1.c0
  have cA1' := bA1.c1
  have cB0' := bB1.c0
  have cB1' := bB1.c1
  have cR0' := bR1.c0
  have cR1' := bR1.c1
  have h3 := h1'.keep B1
  have h4 := h2'.keep B1
  clear hck bA4 bB4 bR4 hb1 a1 a2 a3 a4
  by_cases hl : 601 < (dg x).length + (dg y).length
  · have hbg := hbig.out hl
    have hz5 := bR1.lt
    have z0 := bR1.f 0
    have z1 := bR1.f 1
    have r0 := bR1.c0
    have r1 := bR1.c1
    go_wp2
    refine bodyPost_ret (v := .tuple #[.agg #[.bool false, .slice none 0 0], .int .i64 6]) (by simp [results, Tryd.results14, go_sem, hz5, r0, r1, z0, z1]) rfl ⟨.inr ⟨hbg, rfl⟩, by (repeat (first | with_reducible exact Below.refl _ _ | with_reducible assumption | refine Below.alloc ?_ (by (try simp); try omega) _ | refine Below.setCell ?_ (by (try simp); try omega) _ | refine below_drewN ?_ _ | refine Below.drew ?_ | (with_reducible refine Below.trans ?_ (Below.mono (by assumption) (by (try simp); try omega)))))⟩
  · have hl' : ¬ ((601 : Int) < ((dg x).length : Int) + ((dg y).length : Int)) := by omega
    go_wp2_with fail
    go_at_call 40
    refine (hs _ h3 h4).mono ?_
    rintro e w2 ⟨hRL, hb2⟩
    have B2 := B1.trans (hb2.mono B1.size)
    have bR2 := bR1.keep hb2
    have hz5 := bR2.lt
    have r0 := bR2.c0
    have r1 := bR2.c1
    have z0 := bR2.f 0
    have z1 := bR2.f 1
    clear cA0' cA1' cB0' cB1' cR0' cR1' hb2 B1
    rcases hRL with ⟨hl, V, rfl, s, rfl, hs⟩ | ⟨hl, rfl⟩
    · obtain ⟨sg, hsg⟩ : ∃ sg, decide (z < 0) = sg := ⟨_, rfl⟩
      rw [hsg]
      replace hsg := Lib.hid hsg
      have hs' := hs
      obtain ⟨ps, cs, rfl, _, _⟩ := hs
      go_wp2
      refine bodyPost_ret (v := .tuple #[.agg #[.bool sg, .slice ps (dg (z.natAbs : Int)).length cs], .int .i64 0]) (by simp [results, Tryd.results14, go_sem, hz5, r0, r1, z0, z1]) rfl ⟨?_, by (repeat (first | with_reducible exact Below.refl _ _ | with_reducible assumption | refine Below.alloc ?_ (by (try simp); try omega) _ | refine Below.setCell ?_ (by (try simp); try omega) _ | refine below_drewN ?_ _ | refine Below.drew ?_ | (with_reducible refine Below.trans ?_ (Below.mono (by assumption) (by (try simp); try omega)))))⟩
      refine .inl ⟨hl, _, rfl, _, by rw [hsg.out], ?_⟩
      exact hs'.boxed bR2 (nb _) (ns _ _ _) _
    · go_wp2
      refine bodyPost_ret (v := .tuple #[.agg #[.bool false, .slice none 0 0], .int .i64 6]) (by simp [results, Tryd.results14, go_sem, hz5, r0, r1, z0, z1]) rfl ⟨.inr ⟨hl, rfl⟩, by (repeat (first | with_reducible exact Below.refl _ _ | with_reducible assumption | refine Below.alloc ?_ (by (try simp); try omega) _ | refine Below.setCell ?_ (by (try simp); try omega) _ | refine below_drewN ?_ _ | refine Below.drew ?_ | (with_reducible refine Below.trans ?_ (Below.mono (by assumption) (by (try simp); try omega)))))⟩
theorem mul_num (A B : Value) (x y : Int) (w : World) (hA : Lg w A x) (hB : Lg w B y) (l1 : (dg (x.natAbs : Int)).length ≤ 600) (l2 : (dg (y.natAbs : Int)).length ≤ 600) :
    Calls Tryd.prog 14 #[A, B] w fun e w' => RL (x * y) e w' ∧ Below w.heap.size w w' := by
  obtain ⟨s1, rfl, h1⟩ := hA
  obtain ⟨s2, rfl, h2⟩ := hB
  exact mul_raw _ _ _ _ _ _ _ w (by omega) (by omega) h1 h2 l1 l2 (ckL_num l1) (ckL_num l2) (by rw [sg_num, sg_num])
end Go.Proofs.YthhbnhdejbpjiaaDoor
