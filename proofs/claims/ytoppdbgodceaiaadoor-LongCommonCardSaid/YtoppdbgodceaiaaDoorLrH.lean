/-
  The reference: Parts.
-/
import Derived.Test.YtoppdbgodceaiaaDoorLrG
import Derived.Laws.AppendOwnNone
namespace Go.Proofs.YtoppdbgodceaiaaDoor
open Go.RowKit

/-- A quotient and a rest. -/
def OkP (q r : Int) (e : Ending) (w' : World) : Prop := ∃ p a n c p' a' n' c', e = .returned (.tuple #[.agg #[.bool p, .slice a n c], .agg #[.bool p', .slice a' n' c']]) ∧ Lg w' (.agg #[.bool p, .slice a n c]) q ∧ Lg w' (.agg #[.bool p', .slice a' n' c']) r
theorem own_slice {w : World} {base : Nat} {e : TypeId} {v : Value} {n : Nat} {xs : List Value} (h : w.ownsRow base e 1 v n xs) : ∃ a c, v = .slice a n c := by
  rcases h.2 with ⟨rfl, hz⟩ | ⟨g, cap, cur, rfl, _⟩
  · exact ⟨none, 0, by rw [hz]⟩
  · exact ⟨_, cap, rfl⟩
theorem Rw.low {w w' : World} {g : Nat} {l : List Int} (h : Rw w g l) (hb : Below w.heap.size w w') : Rw w' g l := h.kept hb h.lt
set_option maxRecDepth 100000 in
set_option maxHeartbeats 8000000 in
theorem rparts_raw (b1 b2 : Bool) (s1 s2 : Value) (X Y : Int) (w : World) (X0 : 0 ≤ X) (Y0 : 0 < Y) (h1 : Ls w s1 (dg X)) (h2 : Ls w s2 (dg Y)) (l1 : (dg X).length ≤ 40000) (l2 : (dg Y).length ≤ 40000) :
    Calls Tryd.prog 79 #[.agg #[.bool b1, s1], .agg #[.bool b2, s2]] w fun e w' => OkP (sg (b1 != b2) (X / Y)) (sg b1 (X % Y)) e w' ∧ Below w.heap.size w w' := by
  obtain ⟨ZQ, hZQ⟩ : ∃ Z, sg (b1 != b2) (X / Y) = Z := ⟨_, rfl⟩
  obtain ⟨ZR, hZR⟩ : ∃ Z, sg b1 (X % Y) = Z := ⟨_, rfl⟩
  rw [hZQ, hZR]
  replace hZQ := Lib.hid hZQ
  replace hZR := Lib.hid hZR
  obtain ⟨i0, hi, hz0, hz1, hz2⟩ := info_parts Tryd.infoInt
  have hfd : ∀ (a : Option Addr) (n c : Nat) w, (Instr.field 24 (.agg #[.bool false, .slice a n c]) 1).run Tryd.prog w = .ok (.slice a n c) w := fun _ _ _ _ => by kernel_rfl
  have h1' := h1
  have h2' := h2
  obtain ⟨pa, ca, rfl, _, _⟩ := h1'
  obtain ⟨pb, cb, rfl, _, _⟩ := h2'
  have da := dg_dig X X0
  have db := dg_dig Y (by omega)
  have hXl := dg_lt X0
  have hYl := dg_lt (x := Y) (by omega)
  obtain ⟨la, hla⟩ : ∃ n, (dg X).length = n := ⟨_, rfl⟩
  obtain ⟨lb, hlb⟩ : ∃ n, (dg Y).length = n := ⟨_, rfl⟩
  rw [hla] at h1 l1 hXl ⊢
  rw [hlb] at h2 l2 hYl ⊢
  have hB : Below w.heap.size w ((((w.alloc (.cells #[.bool b1, .slice pa la ca] 24)).alloc (.cells #[.bool b2, .slice pb lb cb] 24)).alloc (.cells #[.bool false, .slice none 0 0] 24)).alloc (.cells #[.bool false, .slice none 0 0] 24)) := by (repeat (first | with_reducible exact Below.refl _ _ | with_reducible assumption | refine Below.alloc ?_ (by (try simp); try omega) _ | refine Below.setCell ?_ (by (try simp); try omega) _ | refine below_drewN ?_ _ | refine Below.drew ?_ | (with_reducible refine Below.trans ?_ (Below.mono (by assumption) (by (try simp); try omega)))))
  have bA : Bx ((((w.alloc (.cells #[.bool b1, .slice pa la ca] 24)).alloc (.cells #[.bool b2, .slice pb lb cb] 24)).alloc (.cells #[.bool false, .slice none 0 0] 24)).alloc (.cells #[.bool false, .slice none 0 0] 24)) (w.heap.size) (.bool b1) (.slice pa la ca) 24 := by exact ((((Bx.new w (.bool b1) (.slice pa la ca) 24).alloc (.cells #[.bool b2, .slice pb lb cb] 24)).alloc (.cells #[.bool false, .slice none 0 0] 24)).alloc (.cells #[.bool false, .slice none 0 0] 24))
  have bB : Bx ((((w.alloc (.cells #[.bool b1, .slice pa la ca] 24)).alloc (.cells #[.bool b2, .slice pb lb cb] 24)).alloc (.cells #[.bool false, .slice none 0 0] 24)).alloc (.cells #[.bool false, .slice none 0 0] 24)) (w.heap.size + 1) (.bool b2) (.slice pb lb cb) 24 := by have := (((Bx.new (w.alloc (.cells #[.bool b1, .slice pa la ca] 24)) (.bool b2) (.slice pb lb cb) 24).alloc (.cells #[.bool false, .slice none 0 0] 24)).alloc (.cells #[.bool false, .slice none 0 0] 24)); simpa using this
  have bP : Bx ((((w.alloc (.cells #[.bool b1, .slice pa la ca] 24)).alloc (.cells #[.bool b2, .slice pb lb cb] 24)).alloc (.cells #[.bool false, .slice none 0 0] 24)).alloc (.cells #[.bool false, .slice none 0 0] 24)) (w.heap.size + 1 + 1) (.bool false) (.slice none 0 0) 24 := by have := ((Bx.new ((w.alloc (.cells #[.bool b1, .slice pa la ca] 24)).alloc (.cells #[.bool b2, .slice pb lb cb] 24)) (.bool false) (.slice none 0 0) 24).alloc (.cells #[.bool false, .slice none 0 0] 24)); simpa using this
  have bQ : Bx ((((w.alloc (.cells #[.bool b1, .slice pa la ca] 24)).alloc (.cells #[.bool b2, .slice pb lb cb] 24)).alloc (.cells #[.bool false, .slice none 0 0] 24)).alloc (.cells #[.bool false, .slice none 0 0] 24)) (w.heap.size + 1 + 1 + 1) (.bool false) (.slice none 0 0) 24 := by have := (Bx.new (((w.alloc (.cells #[.bool b1, .slice pa la ca] 24)).alloc (.cells #[.bool b2, .slice pb lb cb] 24)).alloc (.cells #[.bool false, .slice none 0 0] 24)) (.bool false) (.slice none 0 0) 24); simpa using this
  have rbA0 := bA.c0
  have rbA1 := bA.c1
  have rbB0 := bB.c0
  have rbB1 := bB.c1
  have hsz : ((((w.alloc (.cells #[.bool b1, .slice pa la ca] 24)).alloc (.cells #[.bool b2, .slice pb lb cb] 24)).alloc (.cells #[.bool false, .slice none 0 0] 24)).alloc (.cells #[.bool false, .slice none 0 0] 24)).heap.size = w.heap.size + 1 + 1 + 1 + 1 := by simp
  go_enter Tryd.func79, Tryd.ntmps79
  go_wp2_with (at_make; refine wpList_make_full _ rfl (.tmp 12) (.tmp 12) 22 rfl ((((w.alloc (.cells #[.bool b1, .slice pa la ca] 24)).alloc (.cells #[.bool b2, .slice pb lb cb] 24)).alloc (.cells #[.bool false, .slice none 0 0] 24)).alloc (.cells #[.bool false, .slice none 0 0] 24)).heap.size 3 i0 (.int .i64 0) 1 Tryd.underlying22 hi hz0 hz1 .i64 .i64 (la : Int) (la : Int) la rfl rfl (by omega) (by omega) (by rw [hz2]; omega) (by unfold maxLen; omega) (Nat.le_refl _) ?_)
  intro w1 hown hgrow
  have hr : Rw w1 (w.heap.size + 1 + 1 + 1 + 1) (List.replicate la 0) := by
    have := Rw.made (w := ((((w.alloc (.cells #[.bool b1, .slice pa la ca] 24)).alloc (.cells #[.bool b2, .slice pb lb cb] 24)).alloc (.cells #[.bool false, .slice none 0 0] 24)).alloc (.cells #[.bool false, .slice none 0 0] 24))) (w' := w1) (g := w.heap.size + 1 + 1 + 1 + 1) (n := la) (by rw [hsz]; exact hown)
    exact this
  have hnx : Below ((((w.alloc (.cells #[.bool b1, .slice pa la ca] 24)).alloc (.cells #[.bool b2, .slice pb lb cb] 24)).alloc (.cells #[.bool false, .slice none 0 0] 24)).alloc (.cells #[.bool false, .slice none 0 0] 24)).heap.size ((((w.alloc (.cells #[.bool b1, .slice pa la ca] 24)).alloc (.cells #[.bool b2, .slice pb lb cb] 24)).alloc (.cells #[.bool false, .slice none 0 0] 24)).alloc (.cells #[.bool false, .slice none 0 0] 24)) w1 := (Below.refl _ _).grown hgrow (Nat.le_refl _) (fun k hk => by cases hk)
  replace bA := bA.keep hnx
  replace bB := bB.keep hnx
  replace bP := bP.keep hnx
  replace bQ := bQ.keep hnx
  replace hB := hB.trans (hnx.mono hB.size)
  have hg1 : w.heap.size + 1 + 1 + 1 + 1 < w1.heap.size := hr.lt
  clear hown hgrow hnx rbA0 rbA1 rbB0 rbB1 hsz
  obtain ⟨g, hg⟩ : ∃ g, w.heap.size + 1 + 1 + 1 + 1 = g := ⟨_, rfl⟩
  rw [hg] at hr hg1
  have hw1 := Below.refl g w1
  have rbA1 := bA.c1
  go_wp2
  clear rbA1
  simp only [hg]
  go_loopw [7, 8] (fun rv i wr => ∃ (k : Nat) (R : Int) (q : List Int), i = .int .i64 ((k : Int) - 1) ∧ k ≤ la ∧ q.length = la ∧ Dg q ∧ 0 ≤ R ∧ R < Y ∧ Hid (R = X / 1000000000 ^ k % Y) ∧ Hid (vl (q.drop k) = X / 1000000000 ^ k / Y) ∧ wr.ownsRow (g + 1) 3 1 rv (dg R).length ((dg R).map (Value.int .i64)) ∧ Rw wr g q ∧ Below g w1 wr)
    (fun _ i _ => (intOf i + 1).toNat)
  case atStart =>
    have hz : X / 1000000000 ^ la = 0 := Int.ediv_eq_zero_of_lt X0 hXl
    exact ⟨la, 0, _, rfl, by omega, by simp, Dig.zeros (by omega) _, by omega, Y0, Lib.hid (by rw [hz]; simp), Lib.hid (by rw [hz, List.drop_eq_nil_of_le (by simp)]; simp [vl, val]), by rw [dg_zero]; exact World.ownsRow_nil _ _ _ _, hr, hw1⟩
  case round =>
    clear hr hw1
    obtain ⟨k, R, q, rfl, hk, hl, hd, R0, R1, hRv, hqv, hrow, hr, hx⟩ := hrel
    have bA1 := bA.keepB hx (by omega)
    have bB1 := bB.keepB hx (by omega)
    have rA1 := bA1.c1
    have rA0 := bA1.c0
    have rB0 := bB1.c0
    have rB1 := bB1.c1
    have hBr := hB.trans (hx.mono (by omega))
    have hgw : g < wr.heap.size := hr.lt
    have hRl : (dg R).length ≤ lb := by rw [← hlb]; exact dg_len_mono R0 (by omega)
    by_cases hk0 : k = 0
    · subst hk0
      have c0 : ¬ (0 : Int) ≤ ((0 : Nat) : Int) - 1 := by omega
      have hlsq : Ls wr (.slice (some ⟨g, 0, none⟩) la la) q := by rw [← hl]; exact hr.ls
      have hlsr := Ls.own hrow
      have HQ : Hid (sg (b1 != b2) (vl q) = ZQ) := Lib.hid (by
        have := hqv.out
        rw [List.drop_zero, Int.pow_zero, Int.ediv_one] at this
        rw [this]; exact hZQ.out)
      have HR : Hid (sg b1 (vl (dg R)) = ZR) := Lib.hid (by
        have := hRv.out
        rw [Int.pow_zero, Int.ediv_one] at this
        rw [dg_val R R0, this]; exact hZR.out)
      have hmq := fun w h => made_any (!(b1 == b2)) (.slice (some ⟨g, 0, none⟩) la la) q w h hd (by omega)
      obtain ⟨pr, cr, rfl⟩ := own_slice hrow
      have hmr := fun w h => made_any b1 (.slice pr (dg R).length cr) (dg R) w h (dg_dig R R0) (by omega)
      have bP1 := bP.keepB hx (by omega)
      have bQ1 := bQ.keepB hx (by omega)
      have hlsqd : Ls wr.drew (.slice (some ⟨g, 0, none⟩) la la) q := hlsq
      have hlsrd : Ls wr.drew (.slice pr (dg R).length cr) (dg R) := hlsr
      generalize (dg R).length = nr at *
      clear hrow hr hqv hRv hlsq hlsr rA1 rB1
      go_wp2_with fail
      go_region_held3 (fun w' => w'.cell? ⟨w.heap.size, 0, none⟩ = some (.bool b1) ∧ w'.cell? ⟨w.heap.size + 1, 0, none⟩ = some (.bool b2))
        (first | exact ⟨rA0, rB0⟩ | exact ⟨lkeep hb3 rA0, lkeep hb3 rB0⟩ | exact ⟨d0, d1⟩ | (refine ⟨?_, ?_⟩ <;> simp [go_sem, d0, d1]))
        (first
          | (go_at_call 63; (with_reducible refine (hmq _ hlsqd).mono ?_); rintro e w3 ⟨⟨p3, a3, n3, c3, rfl, L3⟩, hb3⟩)
          | (go_at_call 63; (with_reducible refine (hmr _ (hlsrd.keep hb3)).mono ?_); rintro e w4 ⟨⟨p4, a4, n4, c4, rfl, L4⟩, hb4⟩; have d0 := lkeep hb4 (lkeep hb3 (show wr.drew.cell? _ = _ from rA0)); have d1 := lkeep hb4 (lkeep hb3 (show wr.drew.cell? _ = _ from rB0)); have xP := ((show Bx wr.drew _ _ _ _ from bP1).keep hb3).keep hb4; have xQ := ((show Bx wr.drew _ _ _ _ from bQ1).keep hb3).keep hb4; have r0 := xP.c0; have r1 := xP.c1; have f0 := xP.f 0; have f1 := xP.f 1; have y0 := xP.lt; have t0 := xQ.c0; have t1 := xQ.c1; have u0 := xQ.f 0; have u1 := xQ.f 1; have y1 := xQ.lt))
      have B3 := hBr.drew.trans (hb3.mono hBr.drew.size)
      have B4 := B3.trans (hb4.mono B3.size)
      replace L3 : Lg w3 _ (sg (b1 != b2) (vl q)) := L3
      rw [HQ.out] at L3
      replace L4 : Lg w4 _ (sg b1 (vl (dg R))) := L4
      rw [HR.out] at L4
      replace L3 := L3.keep hb4
      have xQ2 := xQ.farP (g := w.heap.size + 1 + 1) (by omega) (.bool p3) (.slice a3 n3 c3)
      have e3 := Lib.hid ((L3.put xP p3 a3 n3 c3).put xQ2 p4 a4 n4 c4)
      have e4 := Lib.hid ((L4.put xP p3 a3 n3 c3).put xQ2 p4 a4 n4 c4)
      clear L3 L4 hmq hmr bA bB bP bQ bA1 bB1 bP1 bQ1 h1 h2 hlsqd hlsrd hb3 hb4 rA0 rB0 d0 d1 xP xQ xQ2
      go_wp2
      refine bodyPost_ret (v := .tuple #[.agg #[.bool p3, .slice a3 n3 c3], .agg #[.bool p4, .slice a4 n4 c4]]) (by simp [results, Tryd.results79, go_sem, r0, r1, f0, f1, t0, t1, u0, u1, y0, y1]) rfl ⟨⟨_, _, _, _, _, _, _, _, rfl, e3.out, e4.out⟩, by (repeat (first | with_reducible exact Below.refl _ _ | with_reducible assumption | refine Below.alloc ?_ (by (try simp); try omega) _ | refine Below.setCell ?_ (by (try simp); try omega) _ | refine below_drewN ?_ _ | refine Below.drew ?_ | (with_reducible refine Below.trans ?_ (Below.mono (by assumption) (by (try simp); try omega)))))⟩
    · obtain ⟨j, rfl⟩ : ∃ j, k = j + 1 := ⟨k - 1, by omega⟩
      have c0 : (0 : Int) ≤ (j : Int) := by omega
      rw [show (((j + 1 : Nat) : Int) - 1) = (j : Int) by omega]
      have h1r := h1.keep hBr
      obtain ⟨ga, oa, rfl, cd⟩ := h1r.at (k := j) (by omega)
      have bd := da.el (by omega) j
      have hdiv := div_step X X0 j
      obtain ⟨d, hdd⟩ : ∃ d, el (dg X) j = d := ⟨_, rfl⟩
      rw [hdd] at cd bd hdiv
      have hps := parts_step (X := X / 1000000000 ^ (j + 1)) (d := d) Y0
      have hpl := parts_lt R0 R1 bd.1 bd.2
      rw [← hRv.out] at hps
      rw [show X / 1000000000 ^ (j + 1) * 1000000000 + d = X / 1000000000 ^ j by rw [hdiv]; omega] at hps
      obtain ⟨N, hN⟩ : ∃ N, R * 1000000000 + d = N := ⟨_, rfl⟩
      rw [hN] at hps hpl
      have hN' : d + 1000000000 * R = N := by omega
      have hnq : Hid (vl ((q.set j (N / Y)).drop j) = X / 1000000000 ^ j / Y) := Lib.hid (by
        rw [vl_drop_set q j _ (by omega), hps.2, hqv.out]; omega)
      have hnr : Hid (N % Y = X / 1000000000 ^ j % Y) := Lib.hid hps.1
      have hlit : (wr.alloc (.cells #[.int .i64 d] 3)).ownsRow wr.heap.size 3 1 (.slice (some ⟨wr.heap.size, 0, none⟩) 1 1) 1 [.int .i64 d] := World.ownsRow_lit wr #[.int .i64 d] 1 (Nat.le_refl _) (by unfold maxLen; omega) rfl
      have hlsr := Ls.own hrow
      have hNl : ∀ w', Below wr.heap.size wr w' → Ls w' (.slice pb lb cb) (dg Y) := fun w' hb => (h2.keep hBr).keep hb
      have Hh2 := Lib.hid hNl
      have Hdn : Hid (Dg (d :: dg R)) := Lib.hid (Dig.cons bd.1 bd.2 (dg_dig R R0))
      have Hvl : Hid (vl (d :: dg R) = N) := Lib.hid (by rw [vl_cons, dg_val R R0]; exact hN')
      obtain ⟨pr, cr, rfl⟩ := own_slice hrow
      obtain ⟨_, _, e1, ⟨hcap, hnone⟩, hcells⟩ := hlsr
      cases e1
      clear hps hdiv hdd hqv hRv hN hN' h1r hNl bA1 bB1 rA0 rB0
      cases hpr : pr with
      | none =>
        subst hpr
        have hn0 := hnone rfl
        have hR0 : dg R = [] := List.length_eq_zero_iff.1 (by omega)
        subst hn0
        rw [hR0] at Hdn Hvl ⊢
        rw [List.length_nil]
        clear hcells hcap hnone hrow
        go_wp2_with (at_builtin; refine wpList_append_own_none rfl _ _ 22 rfl wr.heap.size 3 i0 1 Tryd.underlying22 hi _ 1 [.int .i64 d] rfl hlit rfl ?_)
        have hb2 : Below wr.heap.size wr (wr.alloc (.cells #[.int .i64 d] 3)) := (Below.refl _ _).alloc (Nat.le_refl _) _
        have hnxt : Ls (wr.alloc (.cells #[.int .i64 d] 3)) (.slice (some ⟨wr.heap.size, 0, none⟩) 1 1) (d :: dg R) := by
          rw [hR0]; exact Ls.own (l := [d]) hlit
        rw [← hR0] at Hdn Hvl
        generalize wr.alloc (.cells #[.int .i64 d] 3) = w2 at *
        have rB2 := lkeep hb2 rB1
        have hr2 : Rw w2.drew g q := hr.low hb2.drew
        have hY : Ls w2.drew (.slice pb lb cb) (dg Y) := Hh2.out w2 hb2
        have hnd : Ls w2.drew _ (d :: dg R) := hnxt
        have hm0 := made_row _ _ w2.drew hnd Hdn.out (by simp; omega)
        rw [Hvl.out] at hm0
        have ht := fun w3 v h h' => rtaken_num w2.drew w3 v (.slice pb lb cb) N Y hpl.1 Y0 hpl.2.1 h hY h' (by omega)
        have hx2 : Below g w1 w2 := hx.trans (hb2.mono (by omega))
        have hg2 : g + 1 ≤ w2.heap.size := by have := hb2.size; omega
        have cj : (j : Int) < (la : Int) := by omega
        have hbq := hpl.2.2
        clear hnxt hnd hb2 hlit rA1 cd Hh2 rB1 hr hpl
        go_wp2_with fail
        go_region_held3 (fun w' => w'.cell? ⟨w.heap.size + 1, 1, none⟩ = some (.slice pb lb cb))
          (first | exact rB2 | exact lkeep hb3 rB2 | exact d1 | (simp [go_sem, d1]))
          (first
            | (go_at_call 63; (with_reducible refine hm0.mono ?_); rintro e w3 ⟨⟨v3, rfl, hrow3⟩, hb3⟩; obtain ⟨p3, c3, rfl⟩ := own_slice hrow3)
            | (go_at_call 107; (with_reducible refine (ht _ _ hrow3 hb3).mono ?_); rintro e w4 ⟨v4, rfl, hrow4, hb4⟩; have d1 := lkeep hb4 (show w2.drew.cell? _ = _ from rB2); have hr4 : Rw w4 g q := hr2.low hb4; have fq := hr4.frz j; have cq := hr4.cell (i := j) (by omega)))
        have hrow5 := own_low (base' := g + 1) hrow4 (by simpa using hg2)
        have hx4 : Below g w1 w4 := hx2.drew.trans (hb4.mono (by simp; omega))
        clear hm0 ht hY hr2 hrow3 hrow4 hb3 hb4 rB2 d1 hx2
        go_wp2
        go_roundw
        case rel => exact ⟨j, N % Y, q.set j (N / Y), rfl, by omega, by simpa using hl, hd.set _ hbq.1 hbq.2, Int.emod_nonneg _ (by omega), Int.emod_lt_of_pos _ Y0, hnr, hnq, ownsRow_setCell_below hrow5 (by simp) _, hr4.stored j _, hx4.setCell (by simp) _⟩
        case measure => simp [intOf]; try omega
      | some ad =>
        subst hpr
        obtain ⟨x, hX⟩ : ∃ x, x = (dg R).map (Value.int .i64) := ⟨_, rfl⟩
        have hXl : x.length = (dg R).length * 1 := by rw [hX]; simp
        have hXc : ∀ v ∈ x, v.oneCell' = true := by rw [hX]; exact map_oneCell _
        have hXp : ∀ (i : Nat) (v : Value), x[i]? = some v → (wr.alloc (.cells #[.int .i64 d] 3)).cell? (ad.add i) = some v := by
          intro i v hv
          have hlt : 0 < x.length := by
            rcases Nat.eq_zero_or_pos x.length with h | h
            · rw [List.length_eq_zero_iff.1 h] at hv; simp at hv
            · exact h
          obtain ⟨ad', e, h⟩ := src_pos hX hcells (Below.alloc (Below.refl _ _) (Nat.le_refl _) (.cells #[.int .i64 d] 3)) hlt
          cases e
          exact h i v hv
        have hend : ∀ w' v', w'.ownsRow wr.heap.size 3 1 v' (1 + (dg R).length) ([.int .i64 d] ++ x) → Ls w' v' (d :: dg R) := fun w' v' h => by
          rw [hX] at h
          have : w'.ownsRow wr.heap.size 3 1 v' (d :: dg R).length ((d :: dg R).map (Value.int .i64)) := by
            rw [List.length_cons, Nat.add_comm]; exact h
          exact Ls.own this
        have hHend := Lib.hid hend
        obtain ⟨nr, hnr0⟩ : ∃ nr, (dg R).length = nr := ⟨_, rfl⟩
        have Hnr := Lib.hid hnr0
        rw [hnr0] at hXl hHend hRl
        rw [hnr0]
        clear hend hX hcells hcap hnone hrow hnr0
        go_wp2_with (at_builtin; refine wpList_append_own _ rfl _ _ 22 rfl wr.heap.size 3 i0 (.int .i64 0) 1 8 Tryd.underlying22 hi hz0 hz1 hz2 rfl (by decide) _ 1 [.int .i64 d] rfl hlit ad nr cr x rfl hXl hXp hXc (by unfold maxLen; omega) (by omega) (by simp) ?_; intro v' w2 hown' hgrow _; refine Hid.out ?_)
        refine Lib.hid ?_
        have hnxt := hHend.out _ _ hown'
        have hb2 : Below wr.heap.size wr w2 := ((Below.refl _ _).alloc (Nat.le_refl _) _).grown hgrow (by simp) (fun k hk => by cases hk; exact Nat.le_refl _)
        obtain ⟨pv, cv, rfl⟩ := own_slice hown'
        rw [← Hnr.out] at hRl
        clear hown' hgrow hXp hXc hXl hHend
        have rB2 := lkeep hb2 rB1
        have hr2 : Rw w2.drew g q := hr.low hb2.drew
        have hY : Ls w2.drew (.slice pb lb cb) (dg Y) := Hh2.out w2 hb2
        have hnd : Ls w2.drew _ (d :: dg R) := hnxt
        have hm0 := made_row _ _ w2.drew hnd Hdn.out (by simp; omega)
        rw [Hvl.out] at hm0
        have ht := fun w3 v h h' => rtaken_num w2.drew w3 v (.slice pb lb cb) N Y hpl.1 Y0 hpl.2.1 h hY h' (by omega)
        have hx2 : Below g w1 w2 := hx.trans (hb2.mono (by omega))
        have hg2 : g + 1 ≤ w2.heap.size := by have := hb2.size; omega
        have cj : (j : Int) < (la : Int) := by omega
        have hbq := hpl.2.2
        clear hnxt hnd hb2 hlit rA1 cd Hh2 rB1 hr hpl
        go_wp2_with fail
        go_region_held3 (fun w' => w'.cell? ⟨w.heap.size + 1, 1, none⟩ = some (.slice pb lb cb))
          (first | exact rB2 | exact lkeep hb3 rB2 | exact d1 | (simp [go_sem, d1]))
          (first
            | (go_at_call 63; (with_reducible refine hm0.mono ?_); rintro e w3 ⟨⟨v3, rfl, hrow3⟩, hb3⟩; obtain ⟨p3, c3, rfl⟩ := own_slice hrow3)
            | (go_at_call 107; (with_reducible refine (ht _ _ hrow3 hb3).mono ?_); rintro e w4 ⟨v4, rfl, hrow4, hb4⟩; have d1 := lkeep hb4 (show w2.drew.cell? _ = _ from rB2); have hr4 : Rw w4 g q := hr2.low hb4; have fq := hr4.frz j; have cq := hr4.cell (i := j) (by omega)))
        have hrow5 := own_low (base' := g + 1) hrow4 (by simpa using hg2)
        have hx4 : Below g w1 w4 := hx2.drew.trans (hb4.mono (by simp; omega))
        clear hm0 ht hY hr2 hrow3 hrow4 hb3 hb4 rB2 d1 hx2
        go_wp2
        go_roundw
        case rel => exact ⟨j, N % Y, q.set j (N / Y), rfl, by omega, by simpa using hl, hd.set _ hbq.1 hbq.2, Int.emod_nonneg _ (by omega), Int.emod_lt_of_pos _ Y0, hnr, hnq, ownsRow_setCell_below hrow5 (by simp) _, hr4.stored j _, hx4.setCell (by simp) _⟩
        case measure => simp [intOf]; try omega

theorem tdiv_sg (x y : Int) : x.tdiv y = sg (decide (x < 0) != decide (y < 0)) ((x.natAbs : Int) / (y.natAbs : Int)) := by
  rw [← Int.tdiv_eq_ediv_of_nonneg (by omega)]
  unfold sg
  by_cases hx : x < 0 <;> by_cases hy : y < 0
  · rw [show (x.natAbs : Int) = -x by omega, show (y.natAbs : Int) = -y by omega]; simp [hx, hy]
  · rw [show (x.natAbs : Int) = -x by omega, show (y.natAbs : Int) = y by omega]; simp [hx, hy]
  · rw [show (x.natAbs : Int) = x by omega, show (y.natAbs : Int) = -y by omega]; simp [hx, hy]
  · rw [show (x.natAbs : Int) = x by omega, show (y.natAbs : Int) = y by omega]; simp [hx, hy]
theorem tmod_sg (x y : Int) : x.tmod y = sg (decide (x < 0)) ((x.natAbs : Int) % (y.natAbs : Int)) := by
  rw [← Int.tmod_eq_emod_of_nonneg (by omega)]
  unfold sg
  by_cases hx : x < 0 <;> by_cases hy : y < 0
  · rw [show (x.natAbs : Int) = -x by omega, show (y.natAbs : Int) = -y by omega]; simp [hx]
  · rw [show (x.natAbs : Int) = -x by omega, show (y.natAbs : Int) = y by omega]; simp [hx]
  · rw [show (x.natAbs : Int) = x by omega, show (y.natAbs : Int) = -y by omega]; simp [hx]
  · rw [show (x.natAbs : Int) = x by omega, show (y.natAbs : Int) = y by omega]; simp [hx]
theorem rparts_num (A B : Value) (x y : Int) (w : World) (hA : Lg w A x) (hB : Lg w B y) (y0 : y ≠ 0) (l1 : Dl x ≤ 40000) (l2 : Dl y ≤ 40000) :
    Calls Tryd.prog 79 #[A, B] w fun e w' => OkP (x.tdiv y) (x.tmod y) e w' ∧ Below w.heap.size w w' := by
  obtain ⟨s1, rfl, h1⟩ := hA
  obtain ⟨s2, rfl, h2⟩ := hB
  rw [tdiv_sg, tmod_sg]
  exact rparts_raw _ _ s1 s2 _ _ w (by omega) (by omega) h1 h2 l1 l2
end Go.Proofs.YtoppdbgodceaiaaDoor
