/-
  The reference: Common, Root.
-/
import Derived.Test.YtoppdbgodceaiaaDoorLrH
import Derived.Test.YtoppdbgodceaiaaDoorLgU
import Derived.Test.YtoppdbgodceaiaaDoorLrB
import Derived.RegionTactic
import Derived.BigRegion
namespace Go.Proofs.YtoppdbgodceaiaaDoor
open Go.RowKit

theorem Lg.lenD {w : World} {p : Bool} {a : Option Addr} {n c : Nat} {z : Int} (h : Lg w (.agg #[.bool p, .slice a n c]) z) : p = decide (z < 0) ∧ n = Dl z := by
  obtain ⟨h1, h2⟩ := h.parts
  exact ⟨h1, h2.slen⟩
theorem gI_tmod (u v : Int) (h : v ≠ 0) : gI (v.natAbs : Int) ((u.tmod v).natAbs : Int) = gI (u.natAbs : Int) (v.natAbs : Int) := by
  rw [gI_step (x := (u.natAbs : Int)) (by omega) (by omega), Int.natAbs_tmod]
  rfl
set_option maxRecDepth 100000 in
set_option maxHeartbeats 4000000 in
theorem rcommon_num (A B : Value) (x y : Int) (w : World) (hA : Lg w A x) (hB0 : Lg w B y) (l1 : Dl x ≤ 40000) (l2 : Dl y ≤ 40000) :
    Calls Tryd.prog 81 #[A, B] w fun e w' => LgV (gI (x.natAbs : Int) (y.natAbs : Int)) e w' ∧ Below w.heap.size w w' := by
  obtain ⟨Z, hZ⟩ : ∃ Z, gI (x.natAbs : Int) (y.natAbs : Int) = Z := ⟨_, rfl⟩
  rw [hZ]
  replace hZ := Lib.hid hZ
  obtain ⟨pa, ca, rfl, _⟩ := hA.form
  obtain ⟨pb, cb, rfl, _⟩ := hB0.form
  obtain ⟨b1, hb1⟩ : ∃ b1, decide (x < 0) = b1 := ⟨_, rfl⟩
  obtain ⟨b2, hb2⟩ : ∃ b2, decide (y < 0) = b2 := ⟨_, rfl⟩
  obtain ⟨m1, hm1⟩ : ∃ m1, Dl x = m1 := ⟨_, rfl⟩
  obtain ⟨m2, hm2⟩ : ∃ m2, Dl y = m2 := ⟨_, rfl⟩
  rw [hb1, hm1] at hA ⊢
  rw [hb2, hm2] at hB0 ⊢
  have L1 : Dl x ≤ 40000 := l1
  have L2 : Dl y ≤ 40000 := l2
  clear hb1 hb2 hm1 hm2 l1 l2
  have hB : Below w.heap.size w (((w.alloc (.cells #[.bool b1, .slice pa m1 ca] 24)).alloc (.cells #[.bool b2, .slice pb m2 cb] 24)).alloc (.cells #[.bool false, .slice none 0 0] 24)) := by (repeat (first | with_reducible exact Below.refl _ _ | with_reducible assumption | refine Below.alloc ?_ (by (try simp); try omega) _ | refine Below.setCell ?_ (by (try simp); try omega) _ | refine below_drewN ?_ _ | refine Below.drew ?_ | (with_reducible refine Below.trans ?_ (Below.mono (by assumption) (by (try simp); try omega)))))
  have bA : Bx (((w.alloc (.cells #[.bool b1, .slice pa m1 ca] 24)).alloc (.cells #[.bool b2, .slice pb m2 cb] 24)).alloc (.cells #[.bool false, .slice none 0 0] 24)) (w.heap.size) (.bool b1) (.slice pa m1 ca) 24 := by exact (((Bx.new w (.bool b1) (.slice pa m1 ca) 24).alloc (.cells #[.bool b2, .slice pb m2 cb] 24)).alloc (.cells #[.bool false, .slice none 0 0] 24))
  have bB : Bx (((w.alloc (.cells #[.bool b1, .slice pa m1 ca] 24)).alloc (.cells #[.bool b2, .slice pb m2 cb] 24)).alloc (.cells #[.bool false, .slice none 0 0] 24)) (w.heap.size + 1) (.bool b2) (.slice pb m2 cb) 24 := by have := ((Bx.new (w.alloc (.cells #[.bool b1, .slice pa m1 ca] 24)) (.bool b2) (.slice pb m2 cb) 24).alloc (.cells #[.bool false, .slice none 0 0] 24)); simpa using this
  have bR : Bx (((w.alloc (.cells #[.bool b1, .slice pa m1 ca] 24)).alloc (.cells #[.bool b2, .slice pb m2 cb] 24)).alloc (.cells #[.bool false, .slice none 0 0] 24)) (w.heap.size + 1 + 1) (.bool false) (.slice none 0 0) 24 := by have := (Bx.new ((w.alloc (.cells #[.bool b1, .slice pa m1 ca] 24)).alloc (.cells #[.bool b2, .slice pb m2 cb] 24)) (.bool false) (.slice none 0 0) 24); simpa using this
  replace hA := hA.keep hB
  replace hB0 := hB0.keep hB
  go_enter Tryd.func81, Tryd.ntmps81
  go_wp2_with fail
  generalize (((w.alloc (.cells #[.bool b1, .slice pa m1 ca] 24)).alloc (.cells #[.bool b2, .slice pb m2 cb] 24)).alloc (.cells #[.bool false, .slice none 0 0] 24)) = w1 at *
  go_loopg [] y.natAbs (fun K wr => ∃ (u v : Int) (p1 : Bool) (a1 : Option Addr) (n1 c1 : Nat) (p2 : Bool) (a2 : Option Addr) (n2 c2 : Nat), Hid (K = v.natAbs) ∧ Bx wr w.heap.size (.bool p1) (.slice a1 n1 c1) 24 ∧ Bx wr (w.heap.size + 1) (.bool p2) (.slice a2 n2 c2) 24 ∧ Bx wr (w.heap.size + 1 + 1) (.bool false) (.slice none 0 0) 24 ∧ Lg wr (.agg #[.bool p1, .slice a1 n1 c1]) u ∧ Lg wr (.agg #[.bool p2, .slice a2 n2 c2]) v ∧ Dl u ≤ 40000 ∧ Dl v ≤ 40000 ∧ Hid (gI (u.natAbs : Int) (v.natAbs : Int) = Z) ∧ Below w.heap.size w wr)
  case atStart => exact ⟨x, y, _, _, _, _, _, _, _, _, Lib.hid rfl, bA, bB, bR, hA, hB0, L1, L2, hZ, hB⟩
  case round =>
    clear bA bB bR hA hB0 L1 L2 hZ hB
    obtain ⟨u, v, p1, a1, n1, c1, p2, a2, n2, c2, hK, bA, bB, bR, hA, hB0, L1, L2, hZ, hB⟩ := hrel
    have hn2 := hB0.lenD.2
    by_cases hv : v = 0
    · subst hv
      rw [Dl_zero] at hn2
      subst hn2
      have rB1 := bB.c1
      have rA1 := bA.c1
      have hLs := hA.parts.2
      have hmd := made_any false _ _ wr hLs (dg_dig _ (by omega)) (by unfold Dl at L1; omega)
      have HE : Hid (vl (dg (u.natAbs : Int)) = Z) := Lib.hid (by
        have := hZ.out
        rw [show (((0 : Int).natAbs : Nat) : Int) = 0 from rfl, gI_zero (by omega)] at this
        rw [dg_val _ (by omega)]; exact this)
      clear hLs
      go_wp2_with fail
      go_at_call 63
      refine hmd.mono ?_
      rintro e w3 ⟨⟨p, pv, nv, cv, rfl, L⟩, hb3⟩
      replace L : Lg w3 _ (vl (dg (u.natAbs : Int))) := L
      rw [HE.out] at L
      replace bR := bR.keep hb3
      have hBe := hB.trans (hb3.mono hB.size)
      have rbR0 := bR.c0
      have rbR1 := bR.c1
      have zbR0 := bR.f 0
      have zbR1 := bR.f 1
      have lbR := bR.lt
      have hL := Lib.hid (L.put bR p pv nv cv)
      clear L hb3 rA1 rB1 bA bB hA hB0 hmd hB
      go_wp2
      refine bodyPost_ret (v := .agg #[.bool p, .slice pv nv cv]) (by simp [results, Tryd.results81, go_sem, rbR0, rbR1, zbR0, zbR1, lbR]) rfl ⟨⟨_, _, _, _, rfl, hL.out⟩, by (repeat (first | with_reducible exact Below.refl _ _ | with_reducible assumption | refine Below.alloc ?_ (by (try simp); try omega) _ | refine Below.setCell ?_ (by (try simp); try omega) _ | refine below_drewN ?_ _ | refine Below.drew ?_ | (with_reducible refine Below.trans ?_ (Below.mono (by assumption) (by (try simp); try omega)))))⟩
    · have hpos := Dl_pos hv
      rw [← hn2] at hpos
      have hni : (0 : Int) < (n2 : Int) := by omega
      have hpt := rparts_num _ _ u v wr hA hB0 hv L1 L2
      have hdr := Dl_tmod u hv
      have hZ2 := (gI_tmod u v hv).trans hZ.out
      have HZ := Lib.hid hZ2
      have hlt : (u.tmod v).natAbs < v.natAbs := by
        rw [Int.natAbs_tmod]; exact Nat.mod_lt _ (by omega)
      have HK := Lib.hid (And.intro hlt hK.out)
      obtain ⟨q0, hq0⟩ : ∃ q0, u.tdiv v = q0 := ⟨_, rfl⟩
      obtain ⟨r0, hr0⟩ : ∃ r0, u.tmod v = r0 := ⟨_, rfl⟩
      rw [hq0, hr0] at hpt
      rw [hr0] at hdr HZ HK
      have rA0 := bA.c0
      have rA1 := bA.c1
      have rB0 := bB.c0
      have rB1 := bB.c1
      clear hq0 hr0 hZ hZ2 hlt hK hA hn2 hpos hv
      go_wp2_with fail
      go_at_call 79
      refine hpt.mono ?_
      rintro e w2 ⟨⟨p3, a3, n3, c3, p4, a4, n4, c4, rfl, _, L4⟩, hb2⟩
      replace bA := bA.keep hb2
      replace bB := bB.keep hb2
      replace bR := bR.keep hb2
      replace hB0 := hB0.keep hb2
      replace hB := hB.trans (hb2.mono hB.size)
      clear rA0 rA1 rB0 rB1 hb2 hpt
      go_wp2_with fail
      have hX : Below w2.heap.size w2 ((w2.alloc (.cells #[.bool p3, .slice a3 n3 c3] 24)).alloc (.cells #[.bool p4, .slice a4 n4 c4] 24)) := by (repeat (first | with_reducible exact Below.refl _ _ | with_reducible assumption | refine Below.alloc ?_ (by (try simp); try omega) _ | refine Below.setCell ?_ (by (try simp); try omega) _ | refine below_drewN ?_ _ | refine Below.drew ?_ | (with_reducible refine Below.trans ?_ (Below.mono (by assumption) (by (try simp); try omega)))))
      have bQ : Bx ((w2.alloc (.cells #[.bool p3, .slice a3 n3 c3] 24)).alloc (.cells #[.bool p4, .slice a4 n4 c4] 24)) (w2.heap.size) (.bool p3) (.slice a3 n3 c3) 24 := by exact ((Bx.new w2 (.bool p3) (.slice a3 n3 c3) 24).alloc (.cells #[.bool p4, .slice a4 n4 c4] 24))
      have bS : Bx ((w2.alloc (.cells #[.bool p3, .slice a3 n3 c3] 24)).alloc (.cells #[.bool p4, .slice a4 n4 c4] 24)) (w2.heap.size + 1) (.bool p4) (.slice a4 n4 c4) 24 := by have := (Bx.new (w2.alloc (.cells #[.bool p3, .slice a3 n3 c3] 24)) (.bool p4) (.slice a4 n4 c4) 24); simpa using this
      have lR := bR.lt
      replace bA := bA.keep hX
      replace bB := bB.keep hX
      replace bR := bR.keep hX
      replace hB0 := hB0.keep hX
      replace L4 := L4.keep hX
      replace hB := hB.trans (hX.mono hB.size)
      clear hX bQ
      generalize ((w2.alloc (.cells #[.bool p3, .slice a3 n3 c3] 24)).alloc (.cells #[.bool p4, .slice a4 n4 c4] 24)) = v1 at *
      obtain ⟨gS, hgS⟩ : ∃ gS, w2.heap.size + 1 = gS := ⟨_, rfl⟩
      rw [hgS] at bS
      simp only [hgS]
      have lS : w.heap.size + 1 + 1 < gS := by omega
      have rbA0 := bA.c0
      have rbA1 := bA.c1
      have zbA0 := bA.f 0
      have zbA1 := bA.f 1
      have lbA := bA.lt
      have rbB0 := bB.c0
      have rbB1 := bB.c1
      have zbB0 := bB.f 0
      have zbB1 := bB.f 1
      have lbB := bB.lt
      have rbS0 := bS.c0
      have rbS1 := bS.c1
      clear hgS lR
      go_region
      all_goals
        clear rbA0 rbA1 zbA0 zbA1 rbB0 rbB1 zbB0 zbB1 rbS0 rbS1
        go_wp2
        go_roundg r0.natAbs
        case measure => have := HK.out; omega
        case rel => exact ⟨v, r0, p2, a2, n2, c2, p4, a4, n4, c4, Lib.hid rfl, (bA.putP _ _).farP (by omega) _ _, (bB.farP (by omega) _ _).putP _ _, (bR.farP (by omega) _ _).farP (by omega) _ _, (hB0.put bA _ _ _ _).put (bB.farP (by omega) _ _) _ _ _ _, (L4.put bA _ _ _ _).put (bB.farP (by omega) _ _) _ _ _ _, L2, by omega, HZ, by (repeat (first | with_reducible exact Below.refl _ _ | with_reducible assumption | refine Below.alloc ?_ (by (try simp); try omega) _ | refine Below.setCell ?_ (by (try simp); try omega) _ | refine below_drewN ?_ _ | refine Below.drew ?_ | (with_reducible refine Below.trans ?_ (Below.mono (by assumption) (by (try simp); try omega)))))⟩

theorem rt_start {z : Int} {n : Nat} (z0 : 0 ≤ z) (hz : z < 1000000000 ^ n) : rt z < 1000000000 ^ (n / 2 + 1) := by
  refine rt_lt z0 (pow9 _) ?_
  rw [← Int.pow_add]
  exact Int.lt_of_lt_of_le hz (pow9_le (by omega))
theorem vl_one (n : Nat) : vl ((List.replicate (n + 1) (0 : Int)).set n 1) = 1000000000 ^ n := by
  rw [vl_set _ _ _ (by simp)]
  have h1 : vl (List.replicate (n + 1) 0) = 0 := val_zeros _ _
  have h2 : el (List.replicate (n + 1) 0) n = 0 := by simp [el, List.getD_eq_getElem?_getD]
  rw [h1, h2]; omega
theorem rroot_zero (w : World) (pa : Option Addr) (ca : Nat) (hL : Lg w (.agg #[.bool false, .slice pa 0 ca]) 0) :
    Calls Tryd.prog 85 #[.agg #[.bool false, .slice pa 0 ca]] w fun e w' => LgV 0 e w' ∧ Below w.heap.size w w' := by
  have hB : Below w.heap.size w ((w.alloc (.cells #[.bool false, .slice pa 0 ca] 24)).alloc (.cells #[.bool false, .slice none 0 0] 24)) := by (repeat (first | with_reducible exact Below.refl _ _ | with_reducible assumption | refine Below.alloc ?_ (by (try simp); try omega) _ | refine Below.setCell ?_ (by (try simp); try omega) _ | refine below_drewN ?_ _ | refine Below.drew ?_ | (with_reducible refine Below.trans ?_ (Below.mono (by assumption) (by (try simp); try omega)))))
  have bA : Bx ((w.alloc (.cells #[.bool false, .slice pa 0 ca] 24)).alloc (.cells #[.bool false, .slice none 0 0] 24)) (w.heap.size) (.bool false) (.slice pa 0 ca) 24 := by exact ((Bx.new w (.bool false) (.slice pa 0 ca) 24).alloc (.cells #[.bool false, .slice none 0 0] 24))
  have bR : Bx ((w.alloc (.cells #[.bool false, .slice pa 0 ca] 24)).alloc (.cells #[.bool false, .slice none 0 0] 24)) (w.heap.size + 1) (.bool false) (.slice none 0 0) 24 := by have := (Bx.new (w.alloc (.cells #[.bool false, .slice pa 0 ca] 24)) (.bool false) (.slice none 0 0) 24); simpa using this
  have rbA0 := bA.c0
  have rbA1 := bA.c1
  have rbR0 := bR.c0
  have rbR1 := bR.c1
  have zbR0 := bR.f 0
  have zbR1 := bR.f 1
  have lbR := bR.lt
  have HL := Lib.hid hL
  clear hL
  go_enter Tryd.func85, Tryd.ntmps85
  go_wp2
  refine bodyPost_ret (v := .agg #[.bool false, .slice pa 0 ca]) (by simp [results, Tryd.results85, go_sem, rbR0, rbR1, zbR0, zbR1, lbR]) rfl ⟨⟨_, _, _, _, rfl, HL.out.keep (by (repeat (first | with_reducible exact Below.refl _ _ | with_reducible assumption | refine Below.alloc ?_ (by (try simp); try omega) _ | refine Below.setCell ?_ (by (try simp); try omega) _ | refine below_drewN ?_ _ | refine Below.drew ?_ | (with_reducible refine Below.trans ?_ (Below.mono (by assumption) (by (try simp); try omega))))))⟩, by (repeat (first | with_reducible exact Below.refl _ _ | with_reducible assumption | refine Below.alloc ?_ (by (try simp); try omega) _ | refine Below.setCell ?_ (by (try simp); try omega) _ | refine below_drewN ?_ _ | refine Below.drew ?_ | (with_reducible refine Below.trans ?_ (Below.mono (by assumption) (by (try simp); try omega)))))⟩
set_option maxRecDepth 100000 in
set_option maxHeartbeats 4000000 in
theorem rroot_num (A : Value) (z : Int) (w : World) (hA : Lg w A z) (z0 : 0 ≤ z) (l1 : Dl z ≤ 20000) :
    Calls Tryd.prog 85 #[A] w fun e w' => LgV (rt z) e w' ∧ Below w.heap.size w w' := by
  obtain ⟨i0, hi, hz0, hz1, hz2⟩ := info_parts Tryd.infoInt
  obtain ⟨pa, ca, rfl, _⟩ := hA.form
  rw [show decide (z < 0) = false by simpa using z0] at hA ⊢
  by_cases hz : z = 0
  · subst hz
    rw [Dl_zero] at hA ⊢
    exact rroot_zero w pa ca hA
  · have hn1 := Dl_pos hz
    have hzl := Dl_lt z
    rw [show (z.natAbs : Int) = z by omega] at hzl
    have hst := rt_start z0 hzl
    have hDz : Dl z ≤ 20000 := l1
    obtain ⟨n, hn⟩ : ∃ n, Dl z = n := ⟨_, rfl⟩
    rw [hn] at hA hn1 hst l1 ⊢
    have hzp : 1 ≤ z := by omega
    have hnew := fun r h => newton (x := z) (r := r) hzp h
    obtain ⟨r0, hr0⟩ : ∃ r0, rt z = r0 := ⟨_, rfl⟩
    rw [hr0] at hnew
    obtain ⟨N, hN⟩ : ∃ N, n / 2 + 1 = N := ⟨_, rfl⟩
    rw [hN] at hst
    rw [hr0] at hst ⊢
    replace hr0 := Lib.hid hr0
    have k1 : ((n : Int) == 0) = false := by rw [beq_eq_false_iff_ne]; omega
    clear hn hzl
    have hB : Below w.heap.size w ((w.alloc (.cells #[.bool false, .slice pa n ca] 24)).alloc (.cells #[.bool false, .slice none 0 0] 24)) := by (repeat (first | with_reducible exact Below.refl _ _ | with_reducible assumption | refine Below.alloc ?_ (by (try simp); try omega) _ | refine Below.setCell ?_ (by (try simp); try omega) _ | refine below_drewN ?_ _ | refine Below.drew ?_ | (with_reducible refine Below.trans ?_ (Below.mono (by assumption) (by (try simp); try omega)))))
    have bA : Bx ((w.alloc (.cells #[.bool false, .slice pa n ca] 24)).alloc (.cells #[.bool false, .slice none 0 0] 24)) (w.heap.size) (.bool false) (.slice pa n ca) 24 := by exact ((Bx.new w (.bool false) (.slice pa n ca) 24).alloc (.cells #[.bool false, .slice none 0 0] 24))
    have bR : Bx ((w.alloc (.cells #[.bool false, .slice pa n ca] 24)).alloc (.cells #[.bool false, .slice none 0 0] 24)) (w.heap.size + 1) (.bool false) (.slice none 0 0) 24 := by have := (Bx.new (w.alloc (.cells #[.bool false, .slice pa n ca] 24)) (.bool false) (.slice none 0 0) 24); simpa using this
    have rbA0 := bA.c0
    have rbA1 := bA.c1
    have hsz : ((w.alloc (.cells #[.bool false, .slice pa n ca] 24)).alloc (.cells #[.bool false, .slice none 0 0] 24)).heap.size = w.heap.size + 1 + 1 := by simp
    have hA0 := hA
    go_enter Tryd.func85, Tryd.ntmps85
    go_wp2_with (at_make; refine wpList_make_full _ rfl (.tmp 18) (.tmp 18) 22 rfl ((w.alloc (.cells #[.bool false, .slice pa n ca] 24)).alloc (.cells #[.bool false, .slice none 0 0] 24)).heap.size 3 i0 (.int .i64 0) 1 Tryd.underlying22 hi hz0 hz1 .i64 .i64 ((n : Int) / 2 + 2) ((n : Int) / 2 + 2) (N + 1) rfl rfl (by omega) (by omega) (by rw [hz2]; omega) (by unfold maxLen; omega) (Nat.le_refl _) ?_)
    intro w1 hown hgrow
    have hr : Rw w1 (w.heap.size + 1 + 1) (List.replicate (N + 1) 0) := by
      have := Rw.made (w := ((w.alloc (.cells #[.bool false, .slice pa n ca] 24)).alloc (.cells #[.bool false, .slice none 0 0] 24))) (w' := w1) (g := w.heap.size + 1 + 1) (n := N + 1) (by rw [hsz]; exact hown)
      exact this
    have hnx : Below ((w.alloc (.cells #[.bool false, .slice pa n ca] 24)).alloc (.cells #[.bool false, .slice none 0 0] 24)).heap.size ((w.alloc (.cells #[.bool false, .slice pa n ca] 24)).alloc (.cells #[.bool false, .slice none 0 0] 24)) w1 := (Below.refl _ _).grown hgrow (Nat.le_refl _) (fun k hk => by cases hk)
    replace bA := bA.keep hnx
    replace bR := bR.keep hnx
    replace hB := hB.trans (hnx.mono hB.size)
    obtain ⟨g, hg⟩ : ∃ g, w.heap.size + 1 + 1 = g := ⟨_, rfl⟩
    rw [hg] at hr
    have hgw : g < w1.heap.size := hr.lt
    have fq := hr.frz (N)
    have cq := hr.cell (i := N) (by simp)
    have hr2 := hr.stored (N) 1
    have hls : Ls (w1.setCell ⟨g, N, none⟩ (.int .i64 1)) (.slice (some ⟨g, 0, none⟩) (N + 1) (N + 1)) ((List.replicate (N + 1) 0).set (N) 1) := by
      have := hr2.ls
      simpa using this
    clear hown hgrow hnx rbA0 rbA1 hsz
    have HE := vl_one N
    have hdl : Dg ((List.replicate (N + 1) (0 : Int)).set N 1) := (Dig.zeros (by omega) _).set _ (by omega) (by omega)
    have hmd := made_any false _ _ _ hls hdl (by simp; omega)
    have hB2 : Below w.heap.size w (w1.setCell ⟨g, N, none⟩ (.int .i64 1)) := hB.setCell (by simp; omega) _
    have LA := hA0.keep hB2
    have bA2 := bA.other (g := g) (o := N) (by omega) (.int .i64 1)
    have bR2 := bR.other (g := g) (o := N) (by omega) (.int .i64 1)
    have hpN : (0 : Int) < 1000000000 ^ N := pow9 N
    have hDN : Dl (1000000000 ^ N) ≤ N + 1 := Dl_le (by rw [Int.pow_succ]; omega)
    generalize hPN : (1000000000 : Int) ^ N = PN at *
    clear hr2 hls hr hB hA bA bR hPN
    go_wp2_with fail
    simp only [hg]
    go_at_call 63
    refine hmd.mono ?_
    rintro e w2 ⟨⟨p, pv, nv, cv, rfl, L⟩, hb2⟩
    replace L : Lg w2 _ (vl ((List.replicate (N + 1) 0).set N 1)) := L
    rw [HE] at L
    replace hB2 := hB2.trans (hb2.mono hB2.size)
    replace LA := LA.keep hb2
    replace bA2 := bA2.keep hb2
    replace bR2 := bR2.keep hb2
    have lR2 := bR2.lt
    clear hmd HE hdl fq cq hb2
    go_wp2_with fail
    have hX : Below w2.heap.size w2 (w2.alloc (.cells #[.bool p, .slice pv nv cv] 24)) := (Below.refl _ _).alloc (Nat.le_refl _) _
    have bX : Bx (w2.alloc (.cells #[.bool p, .slice pv nv cv] 24)) w2.heap.size (.bool p) (.slice pv nv cv) 24 := Bx.new _ _ _ _
    replace L := L.keep hX
    replace LA := LA.keep hX
    replace bA2 := bA2.keep hX
    replace bR2 := bR2.keep hX
    replace hB2 := hB2.trans (hX.mono hB2.size)
    clear hX
    generalize w2.alloc (.cells #[.bool p, .slice pv nv cv] 24) = w3 at *
    obtain ⟨gX, hgX⟩ : ∃ gX, w2.heap.size = gX := ⟨_, rfl⟩
    rw [hgX] at bX lR2
    simp only [hgX]
    have hNb : N ≤ 10001 := by omega
    clear hgX hN k1 hn1 l1
    have Hnew := Lib.hid hnew
    clear hnew
    go_loopg [] PN.toNat (fun K wr => ∃ (r : Int) (p1 : Bool) (a1 : Option Addr) (n1 c1 : Nat), Hid (K = r.toNat) ∧ Bx wr gX (.bool p1) (.slice a1 n1 c1) 24 ∧ Lg wr (.agg #[.bool p1, .slice a1 n1 c1]) r ∧ Hid (1 ≤ r ∧ r0 ≤ r ∧ Dl r ≤ 20001) ∧ Bx wr w.heap.size (.bool false) (.slice pa n ca) 24 ∧ Bx wr (w.heap.size + 1) (.bool false) (.slice none 0 0) 24 ∧ Lg wr (.agg #[.bool false, .slice pa n ca]) z ∧ Below w.heap.size w wr)
    case atStart => exact ⟨PN, _, _, _, _, Lib.hid rfl, bX, L, Lib.hid ⟨by omega, by omega, by omega⟩, bA2, bR2, LA, hB2⟩
    case round =>
      clear bX L bA2 bR2 LA hB2
      obtain ⟨r, p1, a1, n1, c1, hK, bX, LX, hr, bA, bR, LA, hB⟩ := hrel
      obtain ⟨g1, g2, g3, g4, g5, g6⟩ := Hnew.out r hr.out.2.1
      have hpt := rparts_num _ _ z r wr LA LX (by omega) (by omega) (by have := hr.out; omega)
      have hq : z.tdiv r = z / r := Int.tdiv_eq_ediv_of_nonneg z0
      have hs0 : 0 ≤ r + z / r := by omega
      have ht : (r + z / r).tdiv 2 = (r + z / r) / 2 := Int.tdiv_eq_ediv_of_nonneg hs0
      have hDq : Dl (z / r) ≤ 20000 := by
        have := Dl_mono (x := z / r) (y := z) (by omega); omega
      have hDs := Dl_add r (z / r)
      have hDr := hr.out.2.2
      have hDy : ¬ r ≤ (r + z / r) / 2 → Dl ((r + z / r) / 2) ≤ 20001 := fun h => by
        have := Dl_mono (x := (r + z / r) / 2) (y := r) (by omega); omega
      have h6 : 1 ≤ (r + z / r) / 2 := by omega
      have hDy2 : Dl ((r + z / r) / 2) ≤ 30000 := by
        have := Dl_mono (x := (r + z / r) / 2) (y := r + z / r) (by omega); omega
      have H2 := Lib.hid g2
      have H3 := Lib.hid g3
      have H6 := Lib.hid h6
      have HDy := Lib.hid hDy
      obtain ⟨q, hqq⟩ : ∃ q, z / r = q := ⟨_, rfl⟩
      rw [hqq] at hq ht hDq hDs hDy2 H2 H3 H6 HDy
      rw [hq] at hpt
      obtain ⟨y, hyy⟩ : ∃ y, (r + q) / 2 = y := ⟨_, rfl⟩
      rw [hyy] at ht hDy2 H2 H3 H6 HDy
      have hptd : ∀ w V U, Lg w V (r + q) → Lg w U 2 → Calls Tryd.prog 79 #[V, U] w fun e w' => OkP y ((r + q).tmod 2) e w' ∧ Below w.heap.size w w' := fun w V U h h' => by
        have := rparts_num V U (r + q) 2 w h h' (by omega) (by omega) (Nat.le_trans (Dl_two (by omega) (by omega)) (by omega))
        rwa [ht] at this
      clear g1 g2 g3 g4 g5 g6 hq hs0 hDy h6 hqq hyy ht
      have rA0 := bA.c0
      have rA1 := bA.c1
      have rX0 := bX.c0
      have rX1 := bX.c1
      have lX := bX.lt
      go_wp2_with fail
      go_at_call 79
      refine hpt.mono ?_
      rintro e w4 ⟨⟨p3, a3, n3, c3, p4, a4, n4, c4, rfl, LQ, _⟩, hb4⟩
      replace bA := bA.keep hb4
      replace bR := bR.keep hb4
      replace bX := bX.keep hb4
      replace LA := LA.keep hb4
      replace LX := LX.keep hb4
      replace hB := hB.trans (hb4.mono hB.size)
      clear rA0 rA1 rX0 rX1 hpt hb4
      have lX4 := bX.lt
      have hX : Below w4.heap.size w4 ((w4.alloc (.cells #[.bool p3, .slice a3 n3 c3] 24)).alloc (.cells #[.bool p4, .slice a4 n4 c4] 24)) := by (repeat (first | with_reducible exact Below.refl _ _ | with_reducible assumption | refine Below.alloc ?_ (by (try simp); try omega) _ | refine Below.setCell ?_ (by (try simp); try omega) _ | refine below_drewN ?_ _ | refine Below.drew ?_ | (with_reducible refine Below.trans ?_ (Below.mono (by assumption) (by (try simp); try omega)))))
      have bQ : Bx ((w4.alloc (.cells #[.bool p3, .slice a3 n3 c3] 24)).alloc (.cells #[.bool p4, .slice a4 n4 c4] 24)) (w4.heap.size) (.bool p3) (.slice a3 n3 c3) 24 := by exact ((Bx.new w4 (.bool p3) (.slice a3 n3 c3) 24).alloc (.cells #[.bool p4, .slice a4 n4 c4] 24))
      have bS : Bx ((w4.alloc (.cells #[.bool p3, .slice a3 n3 c3] 24)).alloc (.cells #[.bool p4, .slice a4 n4 c4] 24)) (w4.heap.size + 1) (.bool p4) (.slice a4 n4 c4) 24 := by have := (Bx.new (w4.alloc (.cells #[.bool p3, .slice a3 n3 c3] 24)) (.bool p4) (.slice a4 n4 c4) 24); simpa using this
      have rX0 := (bX.keep hX).c0
      have rX1 := (bX.keep hX).c1
      have rQ0 := bQ.c0
      have rQ1 := bQ.c1
      go_wp2_with fail
      replace bA := bA.keep hX
      replace bR := bR.keep hX
      replace bX := bX.keep hX
      replace LA := LA.keep hX
      replace LX := LX.keep hX
      replace LQ := LQ.keep hX
      replace hB := hB.trans (hX.mono hB.size)
      clear hX rX0 rX1 rQ0 rQ1 bS bQ
      generalize ((w4.alloc (.cells #[.bool p3, .slice a3 n3 c3] 24)).alloc (.cells #[.bool p4, .slice a4 n4 c4] 24)) = v4 at *
      generalize w4.heap.size = gQ at *
      have hr3 := hr.out.2.2
      go_at_call 45
      refine (rsum_num _ _ r q v4 LX LQ (by omega) (by omega)).mono ?_
      rintro e w5 ⟨⟨p5, a5, n5, c5, rfl, L5⟩, hb5⟩
      replace bA := bA.keep hb5
      replace bR := bR.keep hb5
      replace bX := bX.keep hb5
      replace LA := LA.keep hb5
      replace LX := LX.keep hb5
      replace hB := hB.trans (hb5.mono hB.size)
      clear hb5 LQ
      go_wp2_with fail
      go_at_call 19
      refine (rof_num 2 w5 (by omega) (by omega)).mono ?_
      rintro e w6 ⟨⟨p6, a6, n6, c6, rfl, L6⟩, hb6⟩
      replace bA := bA.keep hb6
      replace bR := bR.keep hb6
      replace bX := bX.keep hb6
      replace LA := LA.keep hb6
      replace LX := LX.keep hb6
      replace L5 := L5.keep hb6
      replace hB := hB.trans (hb6.mono hB.size)
      clear hb6
      go_wp2_with fail
      go_at_call 79
      refine (hptd w6 _ _ L5 L6).mono ?_
      rintro e w7 ⟨⟨p7, a7, n7, c7, p8, a8, n8, c8, rfl, LY, _⟩, hb7⟩
      replace bA := bA.keep hb7
      replace bR := bR.keep hb7
      replace bX := bX.keep hb7
      replace LA := LA.keep hb7
      replace LX := LX.keep hb7
      replace hB := hB.trans (hb7.mono hB.size)
      have lX7 := bX.lt
      clear hb7 L5 L6 hptd
      have hX : Below w7.heap.size w7 ((w7.alloc (.cells #[.bool p7, .slice a7 n7 c7] 24)).alloc (.cells #[.bool p8, .slice a8 n8 c8] 24)) := by (repeat (first | with_reducible exact Below.refl _ _ | with_reducible assumption | refine Below.alloc ?_ (by (try simp); try omega) _ | refine Below.setCell ?_ (by (try simp); try omega) _ | refine below_drewN ?_ _ | refine Below.drew ?_ | (with_reducible refine Below.trans ?_ (Below.mono (by assumption) (by (try simp); try omega)))))
      have bY : Bx ((w7.alloc (.cells #[.bool p7, .slice a7 n7 c7] 24)).alloc (.cells #[.bool p8, .slice a8 n8 c8] 24)) (w7.heap.size) (.bool p7) (.slice a7 n7 c7) 24 := by exact ((Bx.new w7 (.bool p7) (.slice a7 n7 c7) 24).alloc (.cells #[.bool p8, .slice a8 n8 c8] 24))
      have bS : Bx ((w7.alloc (.cells #[.bool p7, .slice a7 n7 c7] 24)).alloc (.cells #[.bool p8, .slice a8 n8 c8] 24)) (w7.heap.size + 1) (.bool p8) (.slice a8 n8 c8) 24 := by have := (Bx.new (w7.alloc (.cells #[.bool p7, .slice a7 n7 c7] 24)) (.bool p8) (.slice a8 n8 c8) 24); simpa using this
      have rX0 := (bX.keep hX).c0
      have rX1 := (bX.keep hX).c1
      have rY0 := bY.c0
      have rY1 := bY.c1
      go_wp2_with fail
      replace bA := bA.keep hX
      replace bR := bR.keep hX
      replace bX := bX.keep hX
      replace LA := LA.keep hX
      replace LX := LX.keep hX
      replace LY := LY.keep hX
      replace hB := hB.trans (hX.mono hB.size)
      clear hX rX0 rX1 rY0 rY1 bS
      generalize ((w7.alloc (.cells #[.bool p7, .slice a7 n7 c7] 24)).alloc (.cells #[.bool p8, .slice a8 n8 c8] 24)) = v7 at *
      obtain ⟨gY, hgY⟩ : ∃ gY, w7.heap.size = gY := ⟨_, rfl⟩
      rw [hgY] at bY lX7
      simp only [hgY]
      clear hgY
      go_at_call 67
      refine (rorder_num _ _ y r v7 LY LX (by omega) (by omega)).mono ?_
      rintro e w8 ⟨rfl, hb8⟩
      replace bA := bA.keep hb8
      replace bR := bR.keep hb8
      replace bX := bX.keep hb8
      replace LA := LA.keep hb8
      replace LX := LX.keep hb8
      replace LY := LY.keep hb8
      replace bY := bY.keep hb8
      replace hB := hB.trans (hb8.mono hB.size)
      clear hb8
      have rX0 := bX.c0
      have rX1 := bX.c1
      have rY0 := bY.c0
      have rY1 := bY.c1
      by_cases hge : r ≤ y
      · have hcc : 0 ≤ cmpI y r := by
          unfold cmpI
          rw [if_neg (by omega)]
          split <;> omega
        have he := H3.out hge
        subst he
        generalize cmpI y r = cc at *
        have rbR0 := bR.c0
        have rbR1 := bR.c1
        have zbR0 := bR.f 0
        have zbR1 := bR.f 1
        have lbR := bR.lt
        have hL := Lib.hid (LX.put bR p1 a1 n1 c1)
        clear LX LY LA bA bX bY hge H2 H6 HDy hr Hnew hr0 hst hDr hDs hDq hDy2 hr3
        go_wp2
        refine bodyPost_ret (v := .agg #[.bool p1, .slice a1 n1 c1]) (by simp [results, Tryd.results85, go_sem, rbR0, rbR1, zbR0, zbR1, lbR]) rfl ⟨⟨_, _, _, _, rfl, hL.out⟩, by (repeat (first | with_reducible exact Below.refl _ _ | with_reducible assumption | refine Below.alloc ?_ (by (try simp); try omega) _ | refine Below.setCell ?_ (by (try simp); try omega) _ | refine below_drewN ?_ _ | refine Below.drew ?_ | (with_reducible refine Below.trans ?_ (Below.mono (by assumption) (by (try simp); try omega)))))⟩
      · have hcc : cmpI y r = -1 := cmpI_lt (by omega)
        rw [hcc]
        have zX0 := bX.f 0
        have zX1 := bX.f 1
        have lX8 := bX.lt
        have hy3 := HDy.out (by omega)
        have hlt : y.toNat < r.toNat := by have := H6.out; omega
        have HN := Lib.hid (And.intro hlt hK.out)
        have HR2 : Hid (1 ≤ y ∧ r0 ≤ y ∧ Dl y ≤ 20001) := Lib.hid ⟨H6.out, H2.out, hy3⟩
        clear hcc hge H2 H3 H6 HDy hlt hK hr hr3 hDr hDs hDq hDy2
        go_wp2
        clear rX0 rX1 rY0 rY1 zX0 zX1
        go_roundg y.toNat
        case measure => have := HN.out; omega
        case rel => exact ⟨y, p7, a7, n7, c7, Lib.hid rfl, bX.putP _ _, LY.put bX _ _ _ _, HR2, bA.farP (by omega) _ _, bR.farP (by omega) _ _, LA.put bX _ _ _ _, (hB.setCell (by simp; omega) _).setCell (by simp; omega) _⟩

end Go.Proofs.YtoppdbgodceaiaaDoor
