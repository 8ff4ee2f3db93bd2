/-
  The reference: Prod.
-/
import Derived.Test.YtoppdbgodceaiaaDoorLrE
import Derived.Laws.CopyOwn
namespace Go.Proofs.YtoppdbgodceaiaaDoor
open Go.RowKit

theorem Ls.at {w : World} {pa : Option Addr} {ca k n : Nat} {l : List Int} (h : Ls w (.slice pa n ca) l) (hk : k < l.length) : ∃ g o, pa = some ⟨g, o, none⟩ ∧ w.cell? ⟨g, o + k, none⟩ = some (.int .i64 (el l k)) := by
  obtain ⟨pp, cc, e1, _, e2⟩ := h
  obtain ⟨g, f, e3, e4⟩ := e2 (by omega)
  cases e1
  exact ⟨g, f, e3, e4 k hk⟩
set_option maxRecDepth 100000 in
set_option maxHeartbeats 4000000 in
theorem rprod_raw (b1 b2 : Bool) (s1 s2 : Value) (a c : List Int) (w : World) (h1 : Ls w s1 a) (h2 : Ls w s2 c) (da : Dg a) (dc : Dg c) (l1 : a.length ≤ 40000) (l2 : c.length ≤ 40000) :
    Calls Tryd.prog 42 #[.agg #[.bool b1, s1], .agg #[.bool b2, s2]] w fun e w' => LgV (sg (b1 != b2) (vl a * vl c)) e w' ∧ Below w.heap.size w w' := by
  obtain ⟨Z, hZ⟩ : ∃ Z, sg (b1 != b2) (vl a * vl c) = Z := ⟨_, rfl⟩
  rw [hZ]
  replace hZ := Lib.hid hZ
  obtain ⟨i0, hi, hz0, hz1, hz2⟩ := info_parts Tryd.infoInt
  have h1' := h1
  have h2' := h2
  obtain ⟨pa, ca, rfl, _, _⟩ := h1'
  obtain ⟨pb, cb, rfl, _, _⟩ := h2'
  have hB : Below w.heap.size w (((w.alloc (.cells #[.bool b1, .slice pa a.length ca] 24)).alloc (.cells #[.bool b2, .slice pb c.length cb] 24)).alloc (.cells #[.bool false, .slice none 0 0] 24)) := by (repeat (first | with_reducible exact Below.refl _ _ | with_reducible assumption | refine Below.alloc ?_ (by (try simp); try omega) _ | refine Below.setCell ?_ (by (try simp); try omega) _ | refine below_drewN ?_ _ | refine Below.drew ?_ | (with_reducible refine Below.trans ?_ (Below.mono (by assumption) (by (try simp); try omega)))))
  have bA : Bx (((w.alloc (.cells #[.bool b1, .slice pa a.length ca] 24)).alloc (.cells #[.bool b2, .slice pb c.length cb] 24)).alloc (.cells #[.bool false, .slice none 0 0] 24)) (w.heap.size) (.bool b1) (.slice pa a.length ca) 24 := by exact (((Bx.new w (.bool b1) (.slice pa a.length ca) 24).alloc (.cells #[.bool b2, .slice pb c.length cb] 24)).alloc (.cells #[.bool false, .slice none 0 0] 24))
  have bB : Bx (((w.alloc (.cells #[.bool b1, .slice pa a.length ca] 24)).alloc (.cells #[.bool b2, .slice pb c.length cb] 24)).alloc (.cells #[.bool false, .slice none 0 0] 24)) (w.heap.size + 1) (.bool b2) (.slice pb c.length cb) 24 := by have := ((Bx.new (w.alloc (.cells #[.bool b1, .slice pa a.length ca] 24)) (.bool b2) (.slice pb c.length cb) 24).alloc (.cells #[.bool false, .slice none 0 0] 24)); simpa using this
  have bR : Bx (((w.alloc (.cells #[.bool b1, .slice pa a.length ca] 24)).alloc (.cells #[.bool b2, .slice pb c.length cb] 24)).alloc (.cells #[.bool false, .slice none 0 0] 24)) (w.heap.size + 1 + 1) (.bool false) (.slice none 0 0) 24 := by have := (Bx.new ((w.alloc (.cells #[.bool b1, .slice pa a.length ca] 24)).alloc (.cells #[.bool b2, .slice pb c.length cb] 24)) (.bool false) (.slice none 0 0) 24); simpa using this
  have rbA0 := bA.c0
  have rbA1 := bA.c1
  have rbB0 := bB.c0
  have rbB1 := bB.c1
  have hsz : (((w.alloc (.cells #[.bool b1, .slice pa a.length ca] 24)).alloc (.cells #[.bool b2, .slice pb c.length cb] 24)).alloc (.cells #[.bool false, .slice none 0 0] 24)).heap.size = w.heap.size + 1 + 1 + 1 := by simp
  go_enter Tryd.func42, Tryd.ntmps42
  go_wp2_with (at_make; refine wpList_make_full _ rfl (.tmp 16) (.tmp 16) 22 rfl (((w.alloc (.cells #[.bool b1, .slice pa a.length ca] 24)).alloc (.cells #[.bool b2, .slice pb c.length cb] 24)).alloc (.cells #[.bool false, .slice none 0 0] 24)).heap.size 3 i0 (.int .i64 0) 1 Tryd.underlying22 hi hz0 hz1 .i64 .i64 ((a.length : Int) + (c.length : Int)) ((a.length : Int) + (c.length : Int)) (a.length + c.length) rfl rfl (by omega) (by omega) (by rw [hz2]; omega) (by unfold maxLen; omega) (Nat.le_refl _) ?_)
  intro w1 hown hgrow
  have hr : Rw w1 (w.heap.size + 1 + 1 + 1) (List.replicate (a.length + c.length) 0) := by
    have := Rw.made (w := (((w.alloc (.cells #[.bool b1, .slice pa a.length ca] 24)).alloc (.cells #[.bool b2, .slice pb c.length cb] 24)).alloc (.cells #[.bool false, .slice none 0 0] 24))) (w' := w1) (g := (w.heap.size + 1 + 1 + 1)) (n := a.length + c.length) (by rw [hsz]; exact hown)
    exact this
  have hnx : Below (((w.alloc (.cells #[.bool b1, .slice pa a.length ca] 24)).alloc (.cells #[.bool b2, .slice pb c.length cb] 24)).alloc (.cells #[.bool false, .slice none 0 0] 24)).heap.size (((w.alloc (.cells #[.bool b1, .slice pa a.length ca] 24)).alloc (.cells #[.bool b2, .slice pb c.length cb] 24)).alloc (.cells #[.bool false, .slice none 0 0] 24)) w1 := (Below.refl _ _).grown hgrow (Nat.le_refl _) (fun k hk => by cases hk)
  replace bA := bA.keep hnx
  replace bB := bB.keep hnx
  replace bR := bR.keep hnx
  replace hB := hB.trans (hnx.mono hB.size)
  have hg1 : w.heap.size + 1 + 1 + 1 < w1.heap.size := hr.lt
  clear hown hgrow hnx rbA0 rbA1 rbB0 rbB1 hsz
  obtain ⟨g, hg⟩ : ∃ g, w.heap.size + 1 + 1 + 1 = g := ⟨_, rfl⟩
  rw [hg] at hr hg1
  have hw1 := Below.refl g w1
  go_wp2
  simp only [hg]
  go_loopw [6] (fun i wr => ∃ (p : Nat) (R : List Int), i = .int .i64 p ∧ p ≤ a.length ∧ R.length = a.length + c.length ∧ Dg R ∧ Hid (vl R = pp a c p 0) ∧ Rw wr g R ∧ Below g w1 wr)
    (fun i _ => a.length - (intOf i).toNat)
  case atStart => exact ⟨0, _, rfl, by omega, by simp, Dig.zeros (by omega) _, Lib.hid (by simp [pp, vl, val_zeros, val]), hr, hw1⟩
  case round =>
    clear hr hw1
    obtain ⟨p, R, rfl, hp, hl, hd, hv, hr, hx⟩ := hrel
    have bA1 := bA.keepB hx (by omega)
    have bB1 := bB.keepB hx (by omega)
    have rA1 := bA1.c1
    have rB1 := bB1.c1
    by_cases hpa : p < a.length
    · have c1 : (p : Int) < (a.length : Int) := by omega
      go_wp2
      go_loopw [7] (fun k wr => ∃ (q : Nat) (R : List Int), k = .int .i64 q ∧ q ≤ c.length ∧ R.length = a.length + c.length ∧ Dg R ∧ Hid (vl R = pp a c p q) ∧ Rw wr g R ∧ Below g w1 wr)
        (fun k _ => c.length - (intOf k).toNat)
      case atStart => exact ⟨0, R, rfl, by omega, hl, hd, hv, hr, hx⟩
      case round =>
        clear hl hd hv hr hx bA1 bB1 rA1 rB1 R
        obtain ⟨q, R, rfl, hq, hl, hd, hv, hr, hx⟩ := hrel
        have bA1 := bA.keepB hx (by omega)
        have bB1 := bB.keepB hx (by omega)
        have rA1 := bA1.c1
        have rB1 := bB1.c1
        have h1r := h1.keep (hB.trans (hx.mono (by omega)))
        have h2r := h2.keep (hB.trans (hx.mono (by omega)))
        by_cases hqc : q < c.length
        · have c2 : (q : Int) < (c.length : Int) := by omega
          obtain ⟨ga, oa, rfl, hca⟩ := (h1r).at hpa
          obtain ⟨gc, oc, rfl, hcc⟩ := (h2r).at hqc
          have ba := da.el (by omega) p
          have bc := dc.el (by omega) q
          have hstep := pp_succ a c p q
          have hlim := pp_lt da dc (q + 1) hpa
          obtain ⟨u, hu⟩ : ∃ u, el a p = u := ⟨_, rfl⟩
          obtain ⟨v, hv'⟩ : ∃ v, el c q = v := ⟨_, rfl⟩
          rw [hu] at ba hca hstep
          rw [hv'] at bc hcc hstep
          have bP := mul_dig ba bc
          obtain ⟨P, hP⟩ : ∃ P, u * v = P := ⟨_, rfl⟩
          rw [hP] at bP hstep
          have e1 : IntKind.i64.wrap (u * v) = P := by rw [hP]; exact IntWalk.i64_in _ (by omega)
          have hst : Hid (vl R + P * 1000000000 ^ (p + q) = pp a c p (q + 1)) := Lib.hid (by rw [hv.out, hstep, Int.mul_comm])
          have Hlim := Lib.hid hlim
          clear hu hv' hP hstep hlim ba bc hv bA1 bB1 h1r h2r
          go_wp2
          go_quiet (fail)
          replace hr := hr.drew nq
          replace hx : Below g w1 (wr.drewN nq) := by (repeat (first | with_reducible exact Below.refl _ _ | with_reducible assumption | refine Below.alloc ?_ (by (try simp); try omega) _ | refine Below.setCell ?_ (by (try simp); try omega) _ | refine below_drewN ?_ _ | refine Below.drew ?_ | (with_reducible refine Below.trans ?_ (Below.mono (by assumption) (by (try simp); try omega)))))
          clear rA1 rB1 hca hcc e1
          generalize wr.drewN nq = wq at *
          go_wp2
          go_loopw [8, 9] (fun n j wr => ∃ (N : Int) (m : Nat) (R : List Int), n = .int .i64 N ∧ j = .int .i64 m ∧ m ≤ a.length + c.length ∧ 0 ≤ N ∧ N ≤ 1000000000000000000 ∧ R.length = a.length + c.length ∧ Dg R ∧ Hid (vl R + N * 1000000000 ^ m = pp a c p (q + 1)) ∧ Rw wr g R ∧ Below g w1 wr)
            (fun _ j _ => a.length + c.length - (intOf j).toNat)
          case atStart => exact ⟨P, p + q, R, rfl, by simp, by omega, by omega, by omega, hl, hd, hst, hr, hx⟩
          case round =>
            clear hl hd hst hr hx bP
            obtain ⟨N, m, R, rfl, rfl, hm, N0, N1, hl, hd, hv, hr, hx⟩ := hrel
            by_cases hN : 0 < N
            · have hml : m < a.length + c.length := place_lt hv.out (vl_nonneg hd) (by omega) Hlim.out.2
              have hcr : wr.cell? ⟨g, m, none⟩ = some (.int .i64 (el R m)) := hr.cell (by omega)
              have hfr := hr.frz m
              have hdr := hd.el (by omega) m
              have hput := carry_step (vl R) N (el R m) (1000000000 ^ m)
              rw [hv.out, ← Int.pow_succ] at hput
              have hset := fun x => vl_set R m x (by omega)
              obtain ⟨r, er⟩ : ∃ r, el R m = r := ⟨_, rfl⟩
              rw [er] at hcr hdr hput hset
              have hpp : Hid (vl (R.set m ((N + r) % 1000000000)) + (N + r) / 1000000000 * 1000000000 ^ (m + 1) = pp a c p (q + 1)) := Lib.hid (by rw [hset]; exact hput)
              clear hput hset er hv
              go_wp2
              go_roundw
              case rel => exact ⟨_, m + 1, R.set m ((N + r) % 1000000000), rfl, by simp, by omega, by omega, by omega, by simpa using hl, hd.set _ (by omega) (by omega), hpp, hr.stored m _, by (repeat (first | with_reducible exact Below.refl _ _ | with_reducible assumption | refine Below.alloc ?_ (by (try simp); try omega) _ | refine Below.setCell ?_ (by (try simp); try omega) _ | refine below_drewN ?_ _ | refine Below.drew ?_ | (with_reducible refine Below.trans ?_ (Below.mono (by assumption) (by (try simp); try omega)))))⟩
              case measure => simp [intOf]; omega
            · obtain rfl : N = 0 := by omega
              have hv2 : Hid (vl R = pp a c p (q + 1)) := Lib.hid (by have := hv.out; rw [Int.zero_mul, Int.add_zero] at this; exact this)
              go_wp2
              go_roundw
              case rel => exact ⟨q + 1, R, by simp, by omega, hl, hd, hv2, hr, hx⟩
              case measure => simp [intOf]; omega
        · have c2 : ¬ (q : Int) < (c.length : Int) := by omega
          have hv2 : Hid (vl R = pp a c (p + 1) 0) := Lib.hid (by rw [hv.out]; exact pp_next a c p q (by omega))
          go_wp2
          go_roundw
          case rel => exact ⟨p + 1, R, by simp, by omega, hl, hd, hv2, hr, hx⟩
          case measure => simp [intOf]; omega
    · have c1 : ¬ (p : Int) < (a.length : Int) := by omega
      have hls : Ls wr (.slice (some ⟨g, 0, none⟩) (a.length + c.length) (a.length + c.length)) R := by rw [← hl]; exact hr.ls
      have HE : Hid (vl R = vl a * vl c) := Lib.hid (by rw [hv.out]; exact pp_end a c p (by omega))
      have rA0 := bA1.c0
      have rB0 := bB1.c0
      have bR1 := bR.keepB hx (by omega)
      have hB1 := hB.trans (hx.mono (by omega))
      clear hv hr
      go_wp2_with fail
      go_at_call 63
      refine (made_any _ _ R wr hls hd (by omega)).mono ?_
      rintro e w3 ⟨⟨p, pv, nv, cv, rfl, L⟩, hb3⟩
      replace L : Lg w3 _ (sg (b1 != b2) (vl R)) := L
      rw [HE.out, hZ.out] at L
      replace bR1 := bR1.keep hb3
      replace hB1 := hB1.trans (hb3.mono hB1.size)
      have rbR10 := bR1.c0
      have rbR11 := bR1.c1
      have zbR10 := bR1.f 0
      have zbR11 := bR1.f 1
      have lbR1 := bR1.lt
      have hL := Lib.hid (L.put bR1 p pv nv cv)
      clear L hb3 rA0 rB0 rA1 rB1 bA bB bA1 bB1 h1 h2 hls
      go_wp2
      refine bodyPost_ret (v := .agg #[.bool p, .slice pv nv cv]) (by simp [results, Tryd.results42, go_sem, rbR10, rbR11, zbR10, zbR11, lbR1]) rfl ⟨⟨_, _, _, _, rfl, hL.out⟩, by (repeat (first | with_reducible exact Below.refl _ _ | with_reducible assumption | refine Below.alloc ?_ (by (try simp); try omega) _ | refine Below.setCell ?_ (by (try simp); try omega) _ | refine below_drewN ?_ _ | refine Below.drew ?_ | (with_reducible refine Below.trans ?_ (Below.mono (by assumption) (by (try simp); try omega)))))⟩
theorem rprod_num (A B : Value) (x y : Int) (w : World) (hA : Lg w A x) (hB : Lg w B y) (l1 : Dl x ≤ 40000) (l2 : Dl y ≤ 40000) :
    Calls Tryd.prog 42 #[A, B] w fun e w' => LgV (x * y) e w' ∧ Below w.heap.size w w' := by
  obtain ⟨s1, rfl, h1⟩ := hA
  obtain ⟨s2, rfl, h2⟩ := hB
  have := rprod_raw (decide (x < 0)) (decide (y < 0)) s1 s2 _ _ w h1 h2 (dg_dig _ (by omega)) (dg_dig _ (by omega)) l1 l2
  rw [dg_val _ (by omega), dg_val _ (by omega)] at this
  have e : sg (decide (x < 0) != decide (y < 0)) ((x.natAbs : Int) * (y.natAbs : Int)) = x * y := by
    by_cases hx : x < 0 <;> by_cases hy : y < 0 <;> simp only [hx, hy, decide_true, decide_false, sg]
    · rw [show (x.natAbs : Int) = -x by omega, show (y.natAbs : Int) = -y by omega]; simp [Int.neg_mul, Int.mul_neg]
    · rw [show (x.natAbs : Int) = -x by omega, show (y.natAbs : Int) = y by omega]; simp [Int.neg_mul, Int.mul_neg]
    · rw [show (x.natAbs : Int) = x by omega, show (y.natAbs : Int) = -y by omega]; simp [Int.neg_mul, Int.mul_neg]
    · rw [show (x.natAbs : Int) = x by omega, show (y.natAbs : Int) = y by omega]; simp
  rwa [e] at this
end Go.Proofs.YtoppdbgodceaiaaDoor
