/-
  The reference's quotient and root of intervals.
-/
import Derived.Test.YtnfapdmbkpkkdaaGreatPwM
import Derived.Test.YtnfapdmbkpkkdaaGreatRefD
namespace Go.Proofs.YtnfapdmbkpkkdaaGreat
open Go.RowKit

def dq (up : Bool) (x y : Int) : Int := divQ up x y
theorem divR_in (up : Bool) {p q : Int} (p0 : -4503599627370496 ≤ p) (p1 : p ≤ 4503599627370496) (q0 : -4503599627370496 ≤ q) (q1 : q ≤ 4503599627370496) (hq : q ≠ 0) : divR up p q = lim (dq up p q) := by
  unfold divR dq; rw [if_pos (ck2_ok p0 p1 q0 q1), if_neg hq]
theorem dq_le (x y : Int) (hy : y ≠ 0) : dq false x y ≤ dq true x y := by
  unfold dq divQ
  by_cases h : y < 0
  · rw [if_pos h, if_pos h]; exact rq_le _ _ (by omega)
  · rw [if_neg h, if_neg h]; exact rq_le _ _ (by omega)
theorem div_eq (a b c d : Int) (k : ck2S a b c d = 0) (hz : 0 < c ∨ d < 0) :
    sDivR a b c d = resR (mn4 (q4 (lim (dq false a c)).1 (lim (dq false a d)).1 (lim (dq false b c)).1 (lim (dq false b d)).1) 3) (mx4 (q4 (lim (dq true a c)).1 (lim (dq true a d)).1 (lim (dq true b c)).1 (lim (dq true b d)).1) 3)
      (okF (dq false a c) && okF (dq true a c) && (okF (dq false a d) && okF (dq true a d)) && (okF (dq false b c) && okF (dq true b c)) && (okF (dq false b d) && okF (dq true b d))) := by
  rcases ck2S_cases a b c d with ⟨-, h0, h1, h2, h3, h4, h5⟩ | ⟨k', -⟩
  · unfold sDivR
    rw [if_pos k, if_neg (by omega)]
    unfold four
    dsimp only
    rw [divR_in _ (by omega) (by omega) (by omega) (by omega) (by omega), divR_in _ (by omega) (by omega) (by omega) (by omega) (by omega), divR_in _ (by omega) (by omega) (by omega) (by omega) (by omega), divR_in _ (by omega) (by omega) (by omega) (by omega) (by omega),
      divR_in _ (by omega) (by omega) (by omega) (by omega) (by omega), divR_in _ (by omega) (by omega) (by omega) (by omega) (by omega), divR_in _ (by omega) (by omega) (by omega) (by omega) (by omega), divR_in _ (by omega) (by omega) (by omega) (by omega) (by omega)]
    have g0 := dq_le a c (by omega)
    have g1 := dq_le a d (by omega)
    have g2 := dq_le b c (by omega)
    have g3 := dq_le b d (by omega)
    generalize dq false a c = x0 at *
    generalize dq true a c = y0 at *
    generalize dq false a d = x1 at *
    generalize dq true a d = y1 at *
    generalize dq false b c = x2 at *
    generalize dq true b c = y2 at *
    generalize dq false b d = x3 at *
    generalize dq true b d = y3 at *
    rcases at_cases x0 y0 g0 with ⟨o0, e0, b0, c0⟩ | ⟨o0, e0⟩ <;> rcases at_cases x1 y1 g1 with ⟨o1, e1, b1, c1⟩ | ⟨o1, e1⟩ <;> rcases at_cases x2 y2 g2 with ⟨o2, e2, b2, c2⟩ | ⟨o2, e2⟩ <;> rcases at_cases x3 y3 g3 with ⟨o3, e3, b3, c3⟩ | ⟨o3, e3⟩
    · rw [e0, e1, e2, e3, o0, o1, o2, o3, lim_ok b0 (by omega), lim_ok b1 (by omega), lim_ok b2 (by omega), lim_ok b3 (by omega), lim_ok (q := y0) (by omega) c0, lim_ok (q := y1) (by omega) c1, lim_ok (q := y2) (by omega) c2, lim_ok (q := y3) (by omega) c3]
      show (min (min (min (min 9223372036854775807 x0) x1) x2) x3, max (max (max (max (-9223372036854775808) y0) y1) y2) y3, (0 : Int)) = limS (min (min (min x0 x1) x2) x3) (max (max (max y0 y1) y2) y3)
      rw [Int.min_eq_right (show x0 ≤ 9223372036854775807 by omega), Int.max_eq_right (show -9223372036854775808 ≤ y0 by omega)]
      unfold limS
      rw [if_pos (ckS_ok (by omega) (by omega) (by omega))]
    all_goals simp [ovR, errOf, e0, e1, e2, e3, o0, o1, o2, o3, resR]
  · omega

def dcok (a b c d : Int) (j : Nat) : Bool := okF (dq false (q4 a a b b j) (q4 c d c d j)) && okF (dq true (q4 a a b b j) (q4 c d c d j))
theorem refDiv_q (x y : Int) (up : Bool) (w : World) (a0 : -4503599627370496 ≤ x) (a1 : x ≤ 4503599627370496) (b0 : -4503599627370496 ≤ y) (b1 : y ≤ 4503599627370496) (hy : y ≠ 0) :
    Calls Tryz.prog 84 #[.int .i64 x, .int .i64 y, .bool up] w fun e w' => e = .returned (.tuple #[.int .i64 (lim (dq up x y)).1, .bool (okF (dq up x y))]) ∧ ∃ m, w' = w.drewN m := by
  refine (refDiv_any x y up _ w a0 a1 b0 b1 hy rfl).mono ?_
  rintro e w' ⟨rfl, hw⟩
  refine ⟨?_, hw⟩
  have h := div_num x y up hy
  unfold dq
  rw [putV_sg, h]
  generalize divQ up x y = z
  rw [lim_okF]
  cases okF z <;> rfl
theorem q4_ne (c d : Int) (k : Nat) (hc : c ≠ 0) (hd : d ≠ 0) : q4 c d c d k ≠ 0 := by
  unfold q4; split <;> (try split) <;> (try split) <;> assumption
set_option maxRecDepth 100000 in
set_option maxHeartbeats 4000000 in
theorem rDiv_pos (a b c d : Int) (w : World) (k : ckS a b = 0) (k' : ckS c d = 0) (hc : 0 < c) :
    Calls Tryz.prog 61 #[.agg #[.int .i64 a, .int .i64 b], .agg #[.int .i64 c, .int .i64 d]] w fun e w' => e = .returned (.tuple #[.agg #[.int .i64 (sDivR a b c d).1, .int .i64 (sDivR a b c d).2.1], .int .i64 (sDivR a b c d).2.2]) ∧ Below w.heap.size w w' := by
  have vk := valS k
  have vk' := valS k'
  have hr1 := rRight_ok a b k
  have hr2 := rRight_ok c d k'
  have k2 := val2 k k'
  clear k k'
  have hz := Lib.hid (show 0 < c ∨ d < 0 from .inl hc)
  have y1 : decide (c ≤ 0) = false := by simp; omega
  go_enter Tryz.func61, Tryz.ntmps61
  go_wp2_with (first | (go_at_call 50; (with_reducible refine (hr1 _).mono ?_); rintro e w1 ⟨rfl, hb1⟩; (with_reducible (first | (replace hb1 := undrewW hb1) | skip)); have hz1 : w.heap.size + 1 + 1 < w1.heap.size := (by have := hb1.size; (try simp at this); omega); have a01 : w1.cell? ⟨w.heap.size, 0, none⟩ = some (.int .i64 a) := bkeep hb1 (by first | (simp [go_sem]; done)); have a11 : w1.cell? ⟨w.heap.size, 1, none⟩ = some (.int .i64 b) := bkeep hb1 (by first | (simp [go_sem]; done)); have b01 : w1.cell? ⟨w.heap.size + 1, 0, none⟩ = some (.int .i64 c) := bkeep hb1 (by first | (simp [go_sem]; done)); have b11 : w1.cell? ⟨w.heap.size + 1, 1, none⟩ = some (.int .i64 d) := bkeep hb1 (by first | (simp [go_sem]; done)); have r01 : w1.cell? ⟨w.heap.size + 1 + 1, 0, none⟩ = some (.int .i64 0) := bkeep hb1 (by first | (simp [go_sem]; done)); have r11 : w1.cell? ⟨w.heap.size + 1 + 1, 1, none⟩ = some (.int .i64 0) := bkeep hb1 (by first | (simp [go_sem]; done)); have z01 : w1.frozen? ⟨w.heap.size + 1 + 1, 0, none⟩ = false := bfrz hb1 (by first | omega | (simp; done) | (simp; omega)) (by first | (simp [go_sem]; done)); have z11 : w1.frozen? ⟨w.heap.size + 1 + 1, 1, none⟩ = false := bfrz hb1 (by first | omega | (simp; done) | (simp; omega)) (by first | (simp [go_sem]; done))) | (go_at_call 50; (with_reducible refine (hr2 _).mono ?_); rintro e w2 ⟨rfl, hb2⟩; (with_reducible (first | (replace hb2 := undrewW hb2) | skip)); have hz2 : w.heap.size + 1 + 1 < w2.heap.size := (by have := hb2.size; (try simp at this); omega); have a02 : w2.cell? ⟨w.heap.size, 0, none⟩ = some (.int .i64 a) := bkeep hb2 (by first | (simp [go_sem]; done) | (simp [go_sem, a01]; done) | exact a01); have a12 : w2.cell? ⟨w.heap.size, 1, none⟩ = some (.int .i64 b) := bkeep hb2 (by first | (simp [go_sem]; done) | (simp [go_sem, a11]; done) | exact a11); have b02 : w2.cell? ⟨w.heap.size + 1, 0, none⟩ = some (.int .i64 c) := bkeep hb2 (by first | (simp [go_sem]; done) | (simp [go_sem, b01]; done) | exact b01); have b12 : w2.cell? ⟨w.heap.size + 1, 1, none⟩ = some (.int .i64 d) := bkeep hb2 (by first | (simp [go_sem]; done) | (simp [go_sem, b11]; done) | exact b11); have r02 : w2.cell? ⟨w.heap.size + 1 + 1, 0, none⟩ = some (.int .i64 0) := bkeep hb2 (by first | (simp [go_sem]; done) | (simp [go_sem, r01]; done) | exact r01); have r12 : w2.cell? ⟨w.heap.size + 1 + 1, 1, none⟩ = some (.int .i64 0) := bkeep hb2 (by first | (simp [go_sem]; done) | (simp [go_sem, r11]; done) | exact r11); have z02 : w2.frozen? ⟨w.heap.size + 1 + 1, 0, none⟩ = false := bfrz hb2 (by first | omega | (simp; done) | (simp; omega)) (by first | (simp [go_sem]; done) | (simp [go_sem, z01]; done) | exact z01); have z12 : w2.frozen? ⟨w.heap.size + 1 + 1, 1, none⟩ = false := bfrz hb2 (by first | omega | (simp; done) | (simp; omega)) (by first | (simp [go_sem]; done) | (simp [go_sem, z11]; done) | exact z11)))
  have hB : Since w w2 := (by (repeat (first | with_reducible exact Below.refl _ _ | with_reducible assumption | refine Below.alloc ?_ (by (try simp); try omega) _ | refine Below.setCell ?_ (by (try simp); try omega) _ | refine below_drewN ?_ _ | refine Below.drew ?_ | (with_reducible refine Below.trans ?_ (Below.mono (by assumption) (by (try simp); try omega))))) : Below w.heap.size w w2)
  have OR : Own w2 (w.heap.size + 1 + 1) (.int .i64 0) (.int .i64 0) := ⟨r02, r12, z02, z12, hz2⟩
  have s0 : w.heap.size < w2.heap.size := by omega
  have s1 : w.heap.size + 1 < w2.heap.size := by omega
  clear a01 a11 b01 b11 r01 r11 z01 z11 hz1 hb1 hb2 r02 r12 z02 z12 hz2 hr1 hr2
  go_cut [6, 7] from 34 to 51 (fun p q wx => ∃ B C, p = .pointer (some ⟨B, 0, none⟩) ∧ q = .pointer (some ⟨C, 0, none⟩) ∧ A4 wx B (q4 a a b b) ∧ A4 wx C (q4 c d c d) ∧ Own wx (w.heap.size + 1 + 1) (.int .i64 0) (.int .i64 0) ∧ Since w wx)
  case first =>
    go_region_held3 (fun w' => w'.cell? ⟨w.heap.size, 0, none⟩ = some (.int .i64 a) ∧ w'.cell? ⟨w.heap.size, 1, none⟩ = some (.int .i64 b) ∧ w'.cell? ⟨w.heap.size + 1, 0, none⟩ = some (.int .i64 c) ∧ w'.cell? ⟨w.heap.size + 1, 1, none⟩ = some (.int .i64 d))
      ((first | exact ⟨bkeep (w := w2) (by (repeat (first | with_reducible exact Below.refl _ _ | with_reducible assumption | refine Below.alloc ?_ (by (try simp); try omega) _ | refine Below.setCell ?_ (by (try simp); try omega) _ | refine below_drewN ?_ _ | refine Below.drew ?_ | (with_reducible refine Below.trans ?_ (Below.mono (by assumption) (by (try simp); try omega)))))) a02, bkeep (w := w2) (by (repeat (first | with_reducible exact Below.refl _ _ | with_reducible assumption | refine Below.alloc ?_ (by (try simp); try omega) _ | refine Below.setCell ?_ (by (try simp); try omega) _ | refine below_drewN ?_ _ | refine Below.drew ?_ | (with_reducible refine Below.trans ?_ (Below.mono (by assumption) (by (try simp); try omega)))))) a12, bkeep (w := w2) (by (repeat (first | with_reducible exact Below.refl _ _ | with_reducible assumption | refine Below.alloc ?_ (by (try simp); try omega) _ | refine Below.setCell ?_ (by (try simp); try omega) _ | refine below_drewN ?_ _ | refine Below.drew ?_ | (with_reducible refine Below.trans ?_ (Below.mono (by assumption) (by (try simp); try omega)))))) b02, bkeep (w := w2) (by (repeat (first | with_reducible exact Below.refl _ _ | with_reducible assumption | refine Below.alloc ?_ (by (try simp); try omega) _ | refine Below.setCell ?_ (by (try simp); try omega) _ | refine below_drewN ?_ _ | refine Below.drew ?_ | (with_reducible refine Below.trans ?_ (Below.mono (by assumption) (by (try simp); try omega)))))) b12⟩))
      (first | fail)
    · go_wp2
      go_meet
      case rel =>
        have h1 := A4.new w2 a a b b 87
        have h2 := A4.new (w2.alloc (.cells #[.int .i64 a, .int .i64 a, .int .i64 b, .int .i64 b] 87)) c d c d 87
        rw [show ∀ o : Obj, (w2.alloc o).heap.size = w2.heap.size + 1 from fun o => by simp] at h2
        exact ⟨_, _, rfl, rfl, h1.alloc _, h2, ownAlloc (ownAlloc OR), (hB.alloc).alloc.drew⟩
    · go_wp2
      go_meet
      case rel =>
        have h1 := A4.new w2 c d c d 87
        have h2 := A4.new (w2.alloc (.cells #[.int .i64 c, .int .i64 d, .int .i64 c, .int .i64 d] 87)) a a b b 87
        rw [show ∀ o : Obj, (w2.alloc o).heap.size = w2.heap.size + 1 from fun o => by simp] at h2
        exact ⟨_, _, rfl, rfl, h2, h1.alloc _, ownAlloc (ownAlloc OR), (hB.alloc).alloc.drew⟩
  case rest =>
    clear hB OR a02 a12 b02 b12 s0 s1
    obtain ⟨B, C, rfl, rfl, hx, hy, OR, hB⟩ := hcut
    have lB := hx.1
    have lC := hy.1
    have lR := OR.2.2.2.2
    have hfour := fun w => four_any (lim (dq false a c)).1 (lim (dq false a d)).1 (lim (dq false b c)).1 (lim (dq false b d)).1 (lim (dq true a c)).1 (lim (dq true a d)).1 (lim (dq true b c)).1 (lim (dq true b d)).1
      (allF (dcok a b c d) 4) w
    rw [show allF (dcok a b c d) 4 = (okF (dq false a c) && okF (dq true a c) && (okF (dq false a d) && okF (dq true a d)) && (okF (dq false b c) && okF (dq true b c)) && (okF (dq false b d) && okF (dq true b d))) by
      simp [allF, dcok, q4], ← div_eq a b c d k2 hz.out] at hfour
    have hall : allF (dcok a b c d) 4 = (okF (dq false a c) && okF (dq true a c) && (okF (dq false a d) && okF (dq true a d)) && (okF (dq false b c) && okF (dq true b c)) && (okF (dq false b d) && okF (dq true b d))) := by simp [allF, dcok, q4]
    rw [← hall] at hfour
    obtain ⟨m, hm⟩ : ∃ m, sDivR a b c d = m := ⟨_, rfl⟩
    rw [hm] at hfour
    replace hm := Lib.hid hm
    clear hall
    go_wp2
    go_loopw [10, 11] (fun ft i wr => ∃ k : Nat, k ≤ 4 ∧ i = .int .i64 k ∧ ft = .bool (allF (dcok a b c d) k) ∧ A4 wr B (q4 a a b b) ∧ A4 wr C (q4 c d c d) ∧ A4 wr wc.heap.size (fun j => if j < k then (lim (dq false (q4 a a b b j) (q4 c d c d j))).1 else 0) ∧ A4 wr (wc.heap.size + 1) (fun j => if j < k then (lim (dq true (q4 a a b b j) (q4 c d c d j))).1 else 0) ∧ Own wr (w.heap.size + 1 + 1) (.int .i64 0) (.int .i64 0) ∧ Since w wr)
      (fun _ i _ => 4 - (intOf i).toNat)
    case atStart =>
      have h1 := (A4.new wc 0 0 0 0 87).congr (y := fun j => if j < 0 then (lim (dq false (q4 a a b b j) (q4 c d c d j))).1 else 0) (fun j hj => by simp [q4])
      have h2 := (A4.new (wc.alloc (.cells #[.int .i64 0, .int .i64 0, .int .i64 0, .int .i64 0] 87)) 0 0 0 0 87).congr (y := fun j => if j < 0 then (lim (dq true (q4 a a b b j) (q4 c d c d j))).1 else 0) (fun j hj => by simp [q4])
      rw [show ∀ o : Obj, (wc.alloc o).heap.size = wc.heap.size + 1 from fun o => by simp] at h2
      exact ⟨0, by omega, rfl, rfl, (hx.alloc _).alloc _, (hy.alloc _).alloc _, h1.alloc _, h2, ownAlloc (ownAlloc OR), (hB.alloc).alloc⟩
    case round =>
      clear hB OR hx hy
      obtain ⟨k, hk, rfl, rfl, hx, hy, hl, hh, OR, hB⟩ := hrel
      by_cases hk4 : k < 4
      · have cx := (hx.2 k hk4).1
        have cy := (hy.2 k hk4).1
        have cl := (hl.2 k hk4).1
        have ch := (hh.2 k hk4).1
        have fl := (hl.2 k hk4).2
        have fh := (hh.2 k hk4).2
        have bx := q4_bd a a b b k vk.1 (by omega) vk.1 (by omega) (by omega) vk.2.2 (by omega) vk.2.2
        have by' := q4_bd c d c d k vk'.1 (by omega) (by omega) vk'.2.2 vk'.1 (by omega) (by omega) vk'.2.2
        have hne := q4_ne c d k (by have := hz.out; omega) (by have := hz.out; omega)
        have hsx : allF (dcok a b c d) (k + 1) = (allF (dcok a b c d) k && (okF (dq false (q4 a a b b k) (q4 c d c d k)) && okF (dq true (q4 a a b b k) (q4 c d c d k)))) := rfl
        have hm1 := fun w => refDiv_q (q4 a a b b k) (q4 c d c d k) false w bx.1 bx.2 by'.1 by'.2 hne
        have hm2 := fun w => refDiv_q (q4 a a b b k) (q4 c d c d k) true w bx.1 bx.2 by'.1 by'.2 hne
        obtain ⟨x, ex⟩ : ∃ x, q4 a a b b k = x := ⟨_, rfl⟩
        obtain ⟨y, ey⟩ : ∃ y, q4 c d c d k = y := ⟨_, rfl⟩
        rw [ex] at cx
        rw [ey] at cy
        rw [ex, ey] at hsx hm1 hm2
        obtain ⟨L, eL⟩ : ∃ L, (lim (dq false x y)).1 = L := ⟨_, rfl⟩
        obtain ⟨H, eH⟩ : ∃ H, (lim (dq true x y)).1 = H := ⟨_, rfl⟩
        obtain ⟨p, ep⟩ : ∃ p, okF (dq false x y) = p := ⟨_, rfl⟩
        obtain ⟨q, eq⟩ : ∃ q, okF (dq true x y) = q := ⟨_, rfl⟩
        rw [eL, ep] at hm1
        rw [eH, eq] at hm2
        rw [ep, eq] at hsx
        obtain ⟨F, eF⟩ : ∃ F, allF (dcok a b c d) k = F := ⟨_, rfl⟩
        rw [eF] at hsx ⊢
        have eLk : Hid ((lim (dq false (q4 a a b b k) (q4 c d c d k))).1 = L) := Lib.hid (by rw [ex, ey, eL])
        have eHk : Hid ((lim (dq true (q4 a a b b k) (q4 c d c d k))).1 = H) := Lib.hid (by rw [ex, ey, eH])
        replace ex := Lib.hid ex
        replace ey := Lib.hid ey
        replace eL := Lib.hid eL
        replace eH := Lib.hid eH
        replace hsx := Lib.hid hsx
        clear eF ep eq bx by' hfour hne
        simp only [Nat.lt_irrefl, if_false] at cl ch
        cases F <;> cases p
        all_goals
          go_wp2
          go_quiet ((go_at_call 84; exact Calls.quiet_of (hm1 _)))
          replace hx := hx.drewN nq
          replace hy := hy.drewN nq
          replace hl := hl.drewN nq
          replace hh := hh.drewN nq
          replace OR : Own (wr.drewN nq) _ _ _ := OR
          replace hB : Since w (wr.drewN nq) := below_drewN hB.out nq
          replace cx : (wr.drewN nq).cell? ⟨B, k, none⟩ = _ := cx
          replace cy : (wr.drewN nq).cell? ⟨C, k, none⟩ = _ := cy
          replace cl : (wr.drewN nq).cell? ⟨wc.heap.size, k, none⟩ = _ := cl
          replace ch : (wr.drewN nq).cell? ⟨wc.heap.size + 1, k, none⟩ = _ := ch
          replace fl : (wr.drewN nq).frozen? ⟨wc.heap.size, k, none⟩ = _ := fl
          replace fh : (wr.drewN nq).frozen? ⟨wc.heap.size + 1, k, none⟩ = _ := fh
          generalize wr.drewN nq = v1 at *
          go_wp2
          go_quiet ((go_at_call 84; exact Calls.quiet_of (hm2 _)))
          go_wp2
        all_goals
          go_roundw
          case rel =>
            exact ⟨k + 1, by omega, by simp, by rw [hsx.out]; simp, ((hx.drewN nq).far _ _ _ (by omega)).far _ _ _ (by omega), ((hy.drewN nq).far _ _ _ (by omega)).far _ _ _ (by omega),
              ((((hl.drewN nq).set k hk4 L).far _ _ _ (by omega)).congr (fun j _ => step_fn (fun j => (lim (dq false (q4 a a b b j) (q4 c d c d j))).1) k L eLk.out j)),
              ((((hh.drewN nq).far _ _ _ (by omega)).set k hk4 H).congr (fun j _ => step_fn (fun j => (lim (dq true (q4 a a b b j) (q4 c d c d j))).1) k H eHk.out j)),
              Own.far1 (Own.far1 (show Own (v1.drewN nq) _ _ _ from OR) (by omega)) (by omega), Below.setCell (Below.setCell (below_drewN hB.out nq) (by show _ ≤ _; dsimp only; omega) _) (by show _ ≤ _; dsimp only; omega) _⟩
          case measure => simp [intOf]; omega
      · have h4 : k = 4 := by omega
        subst h4
        have l0 := (hl.2 0 (by omega)).1
        have l1 := (hl.2 1 (by omega)).1
        have l2 := (hl.2 2 (by omega)).1
        have l3 := (hl.2 3 (by omega)).1
        have h0 := (hh.2 0 (by omega)).1
        have h1 := (hh.2 1 (by omega)).1
        have h2 := (hh.2 2 (by omega)).1
        have h3 := (hh.2 3 (by omega)).1
        simp [q4] at l0 l1 l2 l3 h0 h1 h2 h3
        generalize (lim (dq false a c)).1 = x0 at *
        generalize (lim (dq false a d)).1 = x1 at *
        generalize (lim (dq false b c)).1 = x2 at *
        generalize (lim (dq false b d)).1 = x3 at *
        generalize (lim (dq true a c)).1 = y0 at *
        generalize (lim (dq true a d)).1 = y1 at *
        generalize (lim (dq true b c)).1 = y2 at *
        generalize (lim (dq true b d)).1 = y3 at *
        generalize allF (dcok a b c d) 4 = F at *
        clear hl hh hx hy
        go_wp2_with (go_at_call 78; refine (hfour _).mono ?_; rintro e w5 ⟨rfl, hb5⟩; have OR' := ownKeep hb5 OR; have r0' := OR'.1; have r1' := OR'.2.1; have z0' := OR'.2.2.1; have z1' := OR'.2.2.2.1; replace hB := hB.step hb5; clear hb5)
        exact bodyPost_ret (v := .tuple #[.agg #[.int .i64 (m.1), .int .i64 (m.2.1)], .int .i64 (m.2.2)]) (by simp [results, Tryz.results61, go_sem, r0', r1']) rfl ⟨by rw [hm.out], Below.setCell (Below.setCell hB.out (by show _ ≤ _; dsimp only; omega) _) (by show _ ≤ _; dsimp only; omega) _⟩

set_option maxRecDepth 100000 in
set_option maxHeartbeats 4000000 in
theorem rDiv_neg (a b c d : Int) (w : World) (k : ckS a b = 0) (k' : ckS c d = 0) (hc : d < 0) :
    Calls Tryz.prog 61 #[.agg #[.int .i64 a, .int .i64 b], .agg #[.int .i64 c, .int .i64 d]] w fun e w' => e = .returned (.tuple #[.agg #[.int .i64 (sDivR a b c d).1, .int .i64 (sDivR a b c d).2.1], .int .i64 (sDivR a b c d).2.2]) ∧ Below w.heap.size w w' := by
  have vk := valS k
  have vk' := valS k'
  have hr1 := rRight_ok a b k
  have hr2 := rRight_ok c d k'
  have k2 := val2 k k'
  clear k k'
  have hz := Lib.hid (show 0 < c ∨ d < 0 from .inr hc)
  have y1 : decide (c ≤ 0) = true := by simp; omega
  have y2 : decide (0 ≤ d) = false := by simp; omega
  go_enter Tryz.func61, Tryz.ntmps61
  go_wp2_with (first | (go_at_call 50; (with_reducible refine (hr1 _).mono ?_); rintro e w1 ⟨rfl, hb1⟩; (with_reducible (first | (replace hb1 := undrewW hb1) | skip)); have hz1 : w.heap.size + 1 + 1 < w1.heap.size := (by have := hb1.size; (try simp at this); omega); have a01 : w1.cell? ⟨w.heap.size, 0, none⟩ = some (.int .i64 a) := bkeep hb1 (by first | (simp [go_sem]; done)); have a11 : w1.cell? ⟨w.heap.size, 1, none⟩ = some (.int .i64 b) := bkeep hb1 (by first | (simp [go_sem]; done)); have b01 : w1.cell? ⟨w.heap.size + 1, 0, none⟩ = some (.int .i64 c) := bkeep hb1 (by first | (simp [go_sem]; done)); have b11 : w1.cell? ⟨w.heap.size + 1, 1, none⟩ = some (.int .i64 d) := bkeep hb1 (by first | (simp [go_sem]; done)); have r01 : w1.cell? ⟨w.heap.size + 1 + 1, 0, none⟩ = some (.int .i64 0) := bkeep hb1 (by first | (simp [go_sem]; done)); have r11 : w1.cell? ⟨w.heap.size + 1 + 1, 1, none⟩ = some (.int .i64 0) := bkeep hb1 (by first | (simp [go_sem]; done)); have z01 : w1.frozen? ⟨w.heap.size + 1 + 1, 0, none⟩ = false := bfrz hb1 (by first | omega | (simp; done) | (simp; omega)) (by first | (simp [go_sem]; done)); have z11 : w1.frozen? ⟨w.heap.size + 1 + 1, 1, none⟩ = false := bfrz hb1 (by first | omega | (simp; done) | (simp; omega)) (by first | (simp [go_sem]; done))) | (go_at_call 50; (with_reducible refine (hr2 _).mono ?_); rintro e w2 ⟨rfl, hb2⟩; (with_reducible (first | (replace hb2 := undrewW hb2) | skip)); have hz2 : w.heap.size + 1 + 1 < w2.heap.size := (by have := hb2.size; (try simp at this); omega); have a02 : w2.cell? ⟨w.heap.size, 0, none⟩ = some (.int .i64 a) := bkeep hb2 (by first | (simp [go_sem]; done) | (simp [go_sem, a01]; done) | exact a01); have a12 : w2.cell? ⟨w.heap.size, 1, none⟩ = some (.int .i64 b) := bkeep hb2 (by first | (simp [go_sem]; done) | (simp [go_sem, a11]; done) | exact a11); have b02 : w2.cell? ⟨w.heap.size + 1, 0, none⟩ = some (.int .i64 c) := bkeep hb2 (by first | (simp [go_sem]; done) | (simp [go_sem, b01]; done) | exact b01); have b12 : w2.cell? ⟨w.heap.size + 1, 1, none⟩ = some (.int .i64 d) := bkeep hb2 (by first | (simp [go_sem]; done) | (simp [go_sem, b11]; done) | exact b11); have r02 : w2.cell? ⟨w.heap.size + 1 + 1, 0, none⟩ = some (.int .i64 0) := bkeep hb2 (by first | (simp [go_sem]; done) | (simp [go_sem, r01]; done) | exact r01); have r12 : w2.cell? ⟨w.heap.size + 1 + 1, 1, none⟩ = some (.int .i64 0) := bkeep hb2 (by first | (simp [go_sem]; done) | (simp [go_sem, r11]; done) | exact r11); have z02 : w2.frozen? ⟨w.heap.size + 1 + 1, 0, none⟩ = false := bfrz hb2 (by first | omega | (simp; done) | (simp; omega)) (by first | (simp [go_sem]; done) | (simp [go_sem, z01]; done) | exact z01); have z12 : w2.frozen? ⟨w.heap.size + 1 + 1, 1, none⟩ = false := bfrz hb2 (by first | omega | (simp; done) | (simp; omega)) (by first | (simp [go_sem]; done) | (simp [go_sem, z11]; done) | exact z11)))
  have hB : Since w w2 := (by (repeat (first | with_reducible exact Below.refl _ _ | with_reducible assumption | refine Below.alloc ?_ (by (try simp); try omega) _ | refine Below.setCell ?_ (by (try simp); try omega) _ | refine below_drewN ?_ _ | refine Below.drew ?_ | (with_reducible refine Below.trans ?_ (Below.mono (by assumption) (by (try simp); try omega))))) : Below w.heap.size w w2)
  have OR : Own w2 (w.heap.size + 1 + 1) (.int .i64 0) (.int .i64 0) := ⟨r02, r12, z02, z12, hz2⟩
  have s0 : w.heap.size < w2.heap.size := by omega
  have s1 : w.heap.size + 1 < w2.heap.size := by omega
  clear a01 a11 b01 b11 r01 r11 z01 z11 hz1 hb1 hb2 r02 r12 z02 z12 hz2 hr1 hr2
  go_cut [6, 7] from 34 to 51 (fun p q wx => ∃ B C, p = .pointer (some ⟨B, 0, none⟩) ∧ q = .pointer (some ⟨C, 0, none⟩) ∧ A4 wx B (q4 a a b b) ∧ A4 wx C (q4 c d c d) ∧ Own wx (w.heap.size + 1 + 1) (.int .i64 0) (.int .i64 0) ∧ Since w wx)
  case first =>
    go_region_held3 (fun w' => w'.cell? ⟨w.heap.size, 0, none⟩ = some (.int .i64 a) ∧ w'.cell? ⟨w.heap.size, 1, none⟩ = some (.int .i64 b) ∧ w'.cell? ⟨w.heap.size + 1, 0, none⟩ = some (.int .i64 c) ∧ w'.cell? ⟨w.heap.size + 1, 1, none⟩ = some (.int .i64 d))
      ((first | exact ⟨bkeep (w := w2) (by (repeat (first | with_reducible exact Below.refl _ _ | with_reducible assumption | refine Below.alloc ?_ (by (try simp); try omega) _ | refine Below.setCell ?_ (by (try simp); try omega) _ | refine below_drewN ?_ _ | refine Below.drew ?_ | (with_reducible refine Below.trans ?_ (Below.mono (by assumption) (by (try simp); try omega)))))) a02, bkeep (w := w2) (by (repeat (first | with_reducible exact Below.refl _ _ | with_reducible assumption | refine Below.alloc ?_ (by (try simp); try omega) _ | refine Below.setCell ?_ (by (try simp); try omega) _ | refine below_drewN ?_ _ | refine Below.drew ?_ | (with_reducible refine Below.trans ?_ (Below.mono (by assumption) (by (try simp); try omega)))))) a12, bkeep (w := w2) (by (repeat (first | with_reducible exact Below.refl _ _ | with_reducible assumption | refine Below.alloc ?_ (by (try simp); try omega) _ | refine Below.setCell ?_ (by (try simp); try omega) _ | refine below_drewN ?_ _ | refine Below.drew ?_ | (with_reducible refine Below.trans ?_ (Below.mono (by assumption) (by (try simp); try omega)))))) b02, bkeep (w := w2) (by (repeat (first | with_reducible exact Below.refl _ _ | with_reducible assumption | refine Below.alloc ?_ (by (try simp); try omega) _ | refine Below.setCell ?_ (by (try simp); try omega) _ | refine below_drewN ?_ _ | refine Below.drew ?_ | (with_reducible refine Below.trans ?_ (Below.mono (by assumption) (by (try simp); try omega)))))) b12⟩))
      (first | fail)
    · go_wp2
      go_meet
      case rel =>
        have h1 := A4.new w2 a a b b 87
        have h2 := A4.new (w2.alloc (.cells #[.int .i64 a, .int .i64 a, .int .i64 b, .int .i64 b] 87)) c d c d 87
        rw [show ∀ o : Obj, (w2.alloc o).heap.size = w2.heap.size + 1 from fun o => by simp] at h2
        exact ⟨_, _, rfl, rfl, h1.alloc _, h2, ownAlloc (ownAlloc OR), (hB.alloc).alloc.drew⟩
    · go_wp2
      go_meet
      case rel =>
        have h1 := A4.new w2 c d c d 87
        have h2 := A4.new (w2.alloc (.cells #[.int .i64 c, .int .i64 d, .int .i64 c, .int .i64 d] 87)) a a b b 87
        rw [show ∀ o : Obj, (w2.alloc o).heap.size = w2.heap.size + 1 from fun o => by simp] at h2
        exact ⟨_, _, rfl, rfl, h2, h1.alloc _, ownAlloc (ownAlloc OR), (hB.alloc).alloc.drew⟩
  case rest =>
    clear hB OR a02 a12 b02 b12 s0 s1
    obtain ⟨B, C, rfl, rfl, hx, hy, OR, hB⟩ := hcut
    have lB := hx.1
    have lC := hy.1
    have lR := OR.2.2.2.2
    have hfour := fun w => four_any (lim (dq false a c)).1 (lim (dq false a d)).1 (lim (dq false b c)).1 (lim (dq false b d)).1 (lim (dq true a c)).1 (lim (dq true a d)).1 (lim (dq true b c)).1 (lim (dq true b d)).1
      (allF (dcok a b c d) 4) w
    rw [show allF (dcok a b c d) 4 = (okF (dq false a c) && okF (dq true a c) && (okF (dq false a d) && okF (dq true a d)) && (okF (dq false b c) && okF (dq true b c)) && (okF (dq false b d) && okF (dq true b d))) by
      simp [allF, dcok, q4], ← div_eq a b c d k2 hz.out] at hfour
    have hall : allF (dcok a b c d) 4 = (okF (dq false a c) && okF (dq true a c) && (okF (dq false a d) && okF (dq true a d)) && (okF (dq false b c) && okF (dq true b c)) && (okF (dq false b d) && okF (dq true b d))) := by simp [allF, dcok, q4]
    rw [← hall] at hfour
    obtain ⟨m, hm⟩ : ∃ m, sDivR a b c d = m := ⟨_, rfl⟩
    rw [hm] at hfour
    replace hm := Lib.hid hm
    clear hall
    go_wp2
    go_loopw [10, 11] (fun ft i wr => ∃ k : Nat, k ≤ 4 ∧ i = .int .i64 k ∧ ft = .bool (allF (dcok a b c d) k) ∧ A4 wr B (q4 a a b b) ∧ A4 wr C (q4 c d c d) ∧ A4 wr wc.heap.size (fun j => if j < k then (lim (dq false (q4 a a b b j) (q4 c d c d j))).1 else 0) ∧ A4 wr (wc.heap.size + 1) (fun j => if j < k then (lim (dq true (q4 a a b b j) (q4 c d c d j))).1 else 0) ∧ Own wr (w.heap.size + 1 + 1) (.int .i64 0) (.int .i64 0) ∧ Since w wr)
      (fun _ i _ => 4 - (intOf i).toNat)
    case atStart =>
      have h1 := (A4.new wc 0 0 0 0 87).congr (y := fun j => if j < 0 then (lim (dq false (q4 a a b b j) (q4 c d c d j))).1 else 0) (fun j hj => by simp [q4])
      have h2 := (A4.new (wc.alloc (.cells #[.int .i64 0, .int .i64 0, .int .i64 0, .int .i64 0] 87)) 0 0 0 0 87).congr (y := fun j => if j < 0 then (lim (dq true (q4 a a b b j) (q4 c d c d j))).1 else 0) (fun j hj => by simp [q4])
      rw [show ∀ o : Obj, (wc.alloc o).heap.size = wc.heap.size + 1 from fun o => by simp] at h2
      exact ⟨0, by omega, rfl, rfl, (hx.alloc _).alloc _, (hy.alloc _).alloc _, h1.alloc _, h2, ownAlloc (ownAlloc OR), (hB.alloc).alloc⟩
    case round =>
      clear hB OR hx hy
      obtain ⟨k, hk, rfl, rfl, hx, hy, hl, hh, OR, hB⟩ := hrel
      by_cases hk4 : k < 4
      · have cx := (hx.2 k hk4).1
        have cy := (hy.2 k hk4).1
        have cl := (hl.2 k hk4).1
        have ch := (hh.2 k hk4).1
        have fl := (hl.2 k hk4).2
        have fh := (hh.2 k hk4).2
        have bx := q4_bd a a b b k vk.1 (by omega) vk.1 (by omega) (by omega) vk.2.2 (by omega) vk.2.2
        have by' := q4_bd c d c d k vk'.1 (by omega) (by omega) vk'.2.2 vk'.1 (by omega) (by omega) vk'.2.2
        have hne := q4_ne c d k (by have := hz.out; omega) (by have := hz.out; omega)
        have hsx : allF (dcok a b c d) (k + 1) = (allF (dcok a b c d) k && (okF (dq false (q4 a a b b k) (q4 c d c d k)) && okF (dq true (q4 a a b b k) (q4 c d c d k)))) := rfl
        have hm1 := fun w => refDiv_q (q4 a a b b k) (q4 c d c d k) false w bx.1 bx.2 by'.1 by'.2 hne
        have hm2 := fun w => refDiv_q (q4 a a b b k) (q4 c d c d k) true w bx.1 bx.2 by'.1 by'.2 hne
        obtain ⟨x, ex⟩ : ∃ x, q4 a a b b k = x := ⟨_, rfl⟩
        obtain ⟨y, ey⟩ : ∃ y, q4 c d c d k = y := ⟨_, rfl⟩
        rw [ex] at cx
        rw [ey] at cy
        rw [ex, ey] at hsx hm1 hm2
        obtain ⟨L, eL⟩ : ∃ L, (lim (dq false x y)).1 = L := ⟨_, rfl⟩
        obtain ⟨H, eH⟩ : ∃ H, (lim (dq true x y)).1 = H := ⟨_, rfl⟩
        obtain ⟨p, ep⟩ : ∃ p, okF (dq false x y) = p := ⟨_, rfl⟩
        obtain ⟨q, eq⟩ : ∃ q, okF (dq true x y) = q := ⟨_, rfl⟩
        rw [eL, ep] at hm1
        rw [eH, eq] at hm2
        rw [ep, eq] at hsx
        obtain ⟨F, eF⟩ : ∃ F, allF (dcok a b c d) k = F := ⟨_, rfl⟩
        rw [eF] at hsx ⊢
        have eLk : Hid ((lim (dq false (q4 a a b b k) (q4 c d c d k))).1 = L) := Lib.hid (by rw [ex, ey, eL])
        have eHk : Hid ((lim (dq true (q4 a a b b k) (q4 c d c d k))).1 = H) := Lib.hid (by rw [ex, ey, eH])
        replace ex := Lib.hid ex
        replace ey := Lib.hid ey
        replace eL := Lib.hid eL
        replace eH := Lib.hid eH
        replace hsx := Lib.hid hsx
        clear eF ep eq bx by' hfour hne
        simp only [Nat.lt_irrefl, if_false] at cl ch
        cases F <;> cases p
        all_goals
          go_wp2
          go_quiet ((go_at_call 84; exact Calls.quiet_of (hm1 _)))
          replace hx := hx.drewN nq
          replace hy := hy.drewN nq
          replace hl := hl.drewN nq
          replace hh := hh.drewN nq
          replace OR : Own (wr.drewN nq) _ _ _ := OR
          replace hB : Since w (wr.drewN nq) := below_drewN hB.out nq
          replace cx : (wr.drewN nq).cell? ⟨B, k, none⟩ = _ := cx
          replace cy : (wr.drewN nq).cell? ⟨C, k, none⟩ = _ := cy
          replace cl : (wr.drewN nq).cell? ⟨wc.heap.size, k, none⟩ = _ := cl
          replace ch : (wr.drewN nq).cell? ⟨wc.heap.size + 1, k, none⟩ = _ := ch
          replace fl : (wr.drewN nq).frozen? ⟨wc.heap.size, k, none⟩ = _ := fl
          replace fh : (wr.drewN nq).frozen? ⟨wc.heap.size + 1, k, none⟩ = _ := fh
          generalize wr.drewN nq = v1 at *
          go_wp2
          go_quiet ((go_at_call 84; exact Calls.quiet_of (hm2 _)))
          go_wp2
        all_goals
          go_roundw
          case rel =>
            exact ⟨k + 1, by omega, by simp, by rw [hsx.out]; simp, ((hx.drewN nq).far _ _ _ (by omega)).far _ _ _ (by omega), ((hy.drewN nq).far _ _ _ (by omega)).far _ _ _ (by omega),
              ((((hl.drewN nq).set k hk4 L).far _ _ _ (by omega)).congr (fun j _ => step_fn (fun j => (lim (dq false (q4 a a b b j) (q4 c d c d j))).1) k L eLk.out j)),
              ((((hh.drewN nq).far _ _ _ (by omega)).set k hk4 H).congr (fun j _ => step_fn (fun j => (lim (dq true (q4 a a b b j) (q4 c d c d j))).1) k H eHk.out j)),
              Own.far1 (Own.far1 (show Own (v1.drewN nq) _ _ _ from OR) (by omega)) (by omega), Below.setCell (Below.setCell (below_drewN hB.out nq) (by show _ ≤ _; dsimp only; omega) _) (by show _ ≤ _; dsimp only; omega) _⟩
          case measure => simp [intOf]; omega
      · have h4 : k = 4 := by omega
        subst h4
        have l0 := (hl.2 0 (by omega)).1
        have l1 := (hl.2 1 (by omega)).1
        have l2 := (hl.2 2 (by omega)).1
        have l3 := (hl.2 3 (by omega)).1
        have h0 := (hh.2 0 (by omega)).1
        have h1 := (hh.2 1 (by omega)).1
        have h2 := (hh.2 2 (by omega)).1
        have h3 := (hh.2 3 (by omega)).1
        simp [q4] at l0 l1 l2 l3 h0 h1 h2 h3
        generalize (lim (dq false a c)).1 = x0 at *
        generalize (lim (dq false a d)).1 = x1 at *
        generalize (lim (dq false b c)).1 = x2 at *
        generalize (lim (dq false b d)).1 = x3 at *
        generalize (lim (dq true a c)).1 = y0 at *
        generalize (lim (dq true a d)).1 = y1 at *
        generalize (lim (dq true b c)).1 = y2 at *
        generalize (lim (dq true b d)).1 = y3 at *
        generalize allF (dcok a b c d) 4 = F at *
        clear hl hh hx hy
        go_wp2_with (go_at_call 78; refine (hfour _).mono ?_; rintro e w5 ⟨rfl, hb5⟩; have OR' := ownKeep hb5 OR; have r0' := OR'.1; have r1' := OR'.2.1; have z0' := OR'.2.2.1; have z1' := OR'.2.2.2.1; replace hB := hB.step hb5; clear hb5)
        exact bodyPost_ret (v := .tuple #[.agg #[.int .i64 (m.1), .int .i64 (m.2.1)], .int .i64 (m.2.2)]) (by simp [results, Tryz.results61, go_sem, r0', r1']) rfl ⟨by rw [hm.out], Below.setCell (Below.setCell hB.out (by show _ ≤ _; dsimp only; omega) _) (by show _ ≤ _; dsimp only; omega) _⟩

set_option maxHeartbeats 1000000 in
theorem rDiv_zero (a b c d : Int) (w : World) (k : ckS a b = 0) (k' : ckS c d = 0) (z0 : c ≤ 0) (z1 : 0 ≤ d) :
    Calls Tryz.prog 61 #[.agg #[.int .i64 a, .int .i64 b], .agg #[.int .i64 c, .int .i64 d]] w fun e w' => e = .returned (.tuple #[.agg #[.int .i64 (sDivR a b c d).1, .int .i64 (sDivR a b c d).2.1], .int .i64 (sDivR a b c d).2.2]) ∧ Below w.heap.size w w' := by
  have hr1 := rRight_ok a b k
  have hr2 := rRight_ok c d k'
  rw [show sDivR a b c d = (0, 0, 7) by unfold sDivR; rw [if_pos (val2 k k'), if_pos ⟨z0, z1⟩]]
  clear k k'
  have y1 : decide (c ≤ 0) = true := by simp; omega
  have y2 : decide (0 ≤ d) = true := by simp; omega
  go_enter Tryz.func61, Tryz.ntmps61
  go_wp2_with (first | (go_at_call 50; (with_reducible refine (hr1 _).mono ?_); rintro e w1 ⟨rfl, hb1⟩; (with_reducible (first | (replace hb1 := undrewW hb1) | skip)); have hz1 : w.heap.size + 1 + 1 < w1.heap.size := (by have := hb1.size; (try simp at this); omega); have a01 : w1.cell? ⟨w.heap.size, 0, none⟩ = some (.int .i64 a) := bkeep hb1 (by first | (simp [go_sem]; done)); have a11 : w1.cell? ⟨w.heap.size, 1, none⟩ = some (.int .i64 b) := bkeep hb1 (by first | (simp [go_sem]; done)); have b01 : w1.cell? ⟨w.heap.size + 1, 0, none⟩ = some (.int .i64 c) := bkeep hb1 (by first | (simp [go_sem]; done)); have b11 : w1.cell? ⟨w.heap.size + 1, 1, none⟩ = some (.int .i64 d) := bkeep hb1 (by first | (simp [go_sem]; done)); have r01 : w1.cell? ⟨w.heap.size + 1 + 1, 0, none⟩ = some (.int .i64 0) := bkeep hb1 (by first | (simp [go_sem]; done)); have r11 : w1.cell? ⟨w.heap.size + 1 + 1, 1, none⟩ = some (.int .i64 0) := bkeep hb1 (by first | (simp [go_sem]; done)); have z01 : w1.frozen? ⟨w.heap.size + 1 + 1, 0, none⟩ = false := bfrz hb1 (by first | omega | (simp; done) | (simp; omega)) (by first | (simp [go_sem]; done)); have z11 : w1.frozen? ⟨w.heap.size + 1 + 1, 1, none⟩ = false := bfrz hb1 (by first | omega | (simp; done) | (simp; omega)) (by first | (simp [go_sem]; done))) | (go_at_call 50; (with_reducible refine (hr2 _).mono ?_); rintro e w2 ⟨rfl, hb2⟩; (with_reducible (first | (replace hb2 := undrewW hb2) | skip)); have hz2 : w.heap.size + 1 + 1 < w2.heap.size := (by have := hb2.size; (try simp at this); omega); have a02 : w2.cell? ⟨w.heap.size, 0, none⟩ = some (.int .i64 a) := bkeep hb2 (by first | (simp [go_sem]; done) | (simp [go_sem, a01]; done) | exact a01); have a12 : w2.cell? ⟨w.heap.size, 1, none⟩ = some (.int .i64 b) := bkeep hb2 (by first | (simp [go_sem]; done) | (simp [go_sem, a11]; done) | exact a11); have b02 : w2.cell? ⟨w.heap.size + 1, 0, none⟩ = some (.int .i64 c) := bkeep hb2 (by first | (simp [go_sem]; done) | (simp [go_sem, b01]; done) | exact b01); have b12 : w2.cell? ⟨w.heap.size + 1, 1, none⟩ = some (.int .i64 d) := bkeep hb2 (by first | (simp [go_sem]; done) | (simp [go_sem, b11]; done) | exact b11); have r02 : w2.cell? ⟨w.heap.size + 1 + 1, 0, none⟩ = some (.int .i64 0) := bkeep hb2 (by first | (simp [go_sem]; done) | (simp [go_sem, r01]; done) | exact r01); have r12 : w2.cell? ⟨w.heap.size + 1 + 1, 1, none⟩ = some (.int .i64 0) := bkeep hb2 (by first | (simp [go_sem]; done) | (simp [go_sem, r11]; done) | exact r11); have z02 : w2.frozen? ⟨w.heap.size + 1 + 1, 0, none⟩ = false := bfrz hb2 (by first | omega | (simp; done) | (simp; omega)) (by first | (simp [go_sem]; done) | (simp [go_sem, z01]; done) | exact z01); have z12 : w2.frozen? ⟨w.heap.size + 1 + 1, 1, none⟩ = false := bfrz hb2 (by first | omega | (simp; done) | (simp; omega)) (by first | (simp [go_sem]; done) | (simp [go_sem, z11]; done) | exact z11)))
  exact bodyPost_ret (v := .tuple #[.agg #[.int .i64 (((0, 0, 7) : Int × Int × Int).1), .int .i64 (((0, 0, 7) : Int × Int × Int).2.1)], .int .i64 (((0, 0, 7) : Int × Int × Int).2.2)]) (by simp [results, Tryz.results61, go_sem, r02, r12]) rfl ⟨rfl, by (repeat (first | with_reducible exact Below.refl _ _ | with_reducible assumption | refine Below.alloc ?_ (by (try simp); try omega) _ | refine Below.setCell ?_ (by (try simp); try omega) _ | refine below_drewN ?_ _ | refine Below.drew ?_ | (with_reducible refine Below.trans ?_ (Below.mono (by assumption) (by (try simp); try omega)))))⟩
set_option maxHeartbeats 1000000 in
theorem rDiv_any (a b c d : Int) (w : World) :
    Calls Tryz.prog 61 #[.agg #[.int .i64 a, .int .i64 b], .agg #[.int .i64 c, .int .i64 d]] w fun e w' => e = .returned (.tuple #[.agg #[.int .i64 (sDivR a b c d).1, .int .i64 (sDivR a b c d).2.1], .int .i64 (sDivR a b c d).2.2]) ∧ Below w.heap.size w w' := by
  rcases ckS_cases a b with ⟨k, h0, h1, h2⟩ | ⟨k, k0⟩
  · rcases ckS_cases c d with ⟨k', h3, h4, h5⟩ | ⟨k', k0⟩
    · by_cases p : 0 < c
      · exact rDiv_pos a b c d w k k' p
      · by_cases q : d < 0
        · exact rDiv_neg a b c d w k k' q
        · exact rDiv_zero a b c d w k k' (by omega) (by omega)
    · have hr1 := rRight_ok a b k
      have hr2 := rRight_no c d k'
      rw [show sDivR a b c d = (0, 0, 20) by unfold sDivR ck2S; rw [if_pos k, if_neg (by omega)]]
      clear k k' k0
      go_enter Tryz.func61, Tryz.ntmps61
      go_wp2_with (first | (go_at_call 50; (with_reducible refine (hr1 _).mono ?_); rintro e w1 ⟨rfl, hb1⟩; (with_reducible (first | (replace hb1 := undrewW hb1) | skip)); have hz1 : w.heap.size + 1 + 1 < w1.heap.size := (by have := hb1.size; (try simp at this); omega); have a01 : w1.cell? ⟨w.heap.size, 0, none⟩ = some (.int .i64 a) := bkeep hb1 (by first | (simp [go_sem]; done)); have a11 : w1.cell? ⟨w.heap.size, 1, none⟩ = some (.int .i64 b) := bkeep hb1 (by first | (simp [go_sem]; done)); have b01 : w1.cell? ⟨w.heap.size + 1, 0, none⟩ = some (.int .i64 c) := bkeep hb1 (by first | (simp [go_sem]; done)); have b11 : w1.cell? ⟨w.heap.size + 1, 1, none⟩ = some (.int .i64 d) := bkeep hb1 (by first | (simp [go_sem]; done)); have r01 : w1.cell? ⟨w.heap.size + 1 + 1, 0, none⟩ = some (.int .i64 0) := bkeep hb1 (by first | (simp [go_sem]; done)); have r11 : w1.cell? ⟨w.heap.size + 1 + 1, 1, none⟩ = some (.int .i64 0) := bkeep hb1 (by first | (simp [go_sem]; done)); have z01 : w1.frozen? ⟨w.heap.size + 1 + 1, 0, none⟩ = false := bfrz hb1 (by first | omega | (simp; done) | (simp; omega)) (by first | (simp [go_sem]; done)); have z11 : w1.frozen? ⟨w.heap.size + 1 + 1, 1, none⟩ = false := bfrz hb1 (by first | omega | (simp; done) | (simp; omega)) (by first | (simp [go_sem]; done))) | (go_at_call 50; (with_reducible refine (hr2 _).mono ?_); rintro e w2 ⟨rfl, hb2⟩; (with_reducible (first | (replace hb2 := undrewW hb2) | skip)); have hz2 : w.heap.size + 1 + 1 < w2.heap.size := (by have := hb2.size; (try simp at this); omega); have a02 : w2.cell? ⟨w.heap.size, 0, none⟩ = some (.int .i64 a) := bkeep hb2 (by first | (simp [go_sem]; done) | (simp [go_sem, a01]; done) | exact a01); have a12 : w2.cell? ⟨w.heap.size, 1, none⟩ = some (.int .i64 b) := bkeep hb2 (by first | (simp [go_sem]; done) | (simp [go_sem, a11]; done) | exact a11); have b02 : w2.cell? ⟨w.heap.size + 1, 0, none⟩ = some (.int .i64 c) := bkeep hb2 (by first | (simp [go_sem]; done) | (simp [go_sem, b01]; done) | exact b01); have b12 : w2.cell? ⟨w.heap.size + 1, 1, none⟩ = some (.int .i64 d) := bkeep hb2 (by first | (simp [go_sem]; done) | (simp [go_sem, b11]; done) | exact b11); have r02 : w2.cell? ⟨w.heap.size + 1 + 1, 0, none⟩ = some (.int .i64 0) := bkeep hb2 (by first | (simp [go_sem]; done) | (simp [go_sem, r01]; done) | exact r01); have r12 : w2.cell? ⟨w.heap.size + 1 + 1, 1, none⟩ = some (.int .i64 0) := bkeep hb2 (by first | (simp [go_sem]; done) | (simp [go_sem, r11]; done) | exact r11); have z02 : w2.frozen? ⟨w.heap.size + 1 + 1, 0, none⟩ = false := bfrz hb2 (by first | omega | (simp; done) | (simp; omega)) (by first | (simp [go_sem]; done) | (simp [go_sem, z01]; done) | exact z01); have z12 : w2.frozen? ⟨w.heap.size + 1 + 1, 1, none⟩ = false := bfrz hb2 (by first | omega | (simp; done) | (simp; omega)) (by first | (simp [go_sem]; done) | (simp [go_sem, z11]; done) | exact z11)))
      exact bodyPost_ret (v := .tuple #[.agg #[.int .i64 (((0, 0, 20) : Int × Int × Int).1), .int .i64 (((0, 0, 20) : Int × Int × Int).2.1)], .int .i64 (((0, 0, 20) : Int × Int × Int).2.2)]) (by simp [results, Tryz.results61, go_sem, r02, r12]) rfl ⟨rfl, by (repeat (first | with_reducible exact Below.refl _ _ | with_reducible assumption | refine Below.alloc ?_ (by (try simp); try omega) _ | refine Below.setCell ?_ (by (try simp); try omega) _ | refine below_drewN ?_ _ | refine Below.drew ?_ | (with_reducible refine Below.trans ?_ (Below.mono (by assumption) (by (try simp); try omega)))))⟩
  · have hr1 := rRight_no a b k
    rw [show sDivR a b c d = (0, 0, 20) by unfold sDivR ck2S; rw [if_neg (by split <;> omega)]]
    clear k k0
    go_enter Tryz.func61, Tryz.ntmps61
    go_wp2_with (go_at_call 50; (with_reducible refine (hr1 _).mono ?_); rintro e w1 ⟨rfl, hb1⟩; (with_reducible (first | (replace hb1 := undrewW hb1) | skip)); have hz1 : w.heap.size + 1 + 1 < w1.heap.size := (by have := hb1.size; (try simp at this); omega); have a01 : w1.cell? ⟨w.heap.size, 0, none⟩ = some (.int .i64 a) := bkeep hb1 (by first | (simp [go_sem]; done)); have a11 : w1.cell? ⟨w.heap.size, 1, none⟩ = some (.int .i64 b) := bkeep hb1 (by first | (simp [go_sem]; done)); have b01 : w1.cell? ⟨w.heap.size + 1, 0, none⟩ = some (.int .i64 c) := bkeep hb1 (by first | (simp [go_sem]; done)); have b11 : w1.cell? ⟨w.heap.size + 1, 1, none⟩ = some (.int .i64 d) := bkeep hb1 (by first | (simp [go_sem]; done)); have r01 : w1.cell? ⟨w.heap.size + 1 + 1, 0, none⟩ = some (.int .i64 0) := bkeep hb1 (by first | (simp [go_sem]; done)); have r11 : w1.cell? ⟨w.heap.size + 1 + 1, 1, none⟩ = some (.int .i64 0) := bkeep hb1 (by first | (simp [go_sem]; done)); have z01 : w1.frozen? ⟨w.heap.size + 1 + 1, 0, none⟩ = false := bfrz hb1 (by first | omega | (simp; done) | (simp; omega)) (by first | (simp [go_sem]; done)); have z11 : w1.frozen? ⟨w.heap.size + 1 + 1, 1, none⟩ = false := bfrz hb1 (by first | omega | (simp; done) | (simp; omega)) (by first | (simp [go_sem]; done)))
    exact bodyPost_ret (v := .tuple #[.agg #[.int .i64 (((0, 0, 20) : Int × Int × Int).1), .int .i64 (((0, 0, 20) : Int × Int × Int).2.1)], .int .i64 (((0, 0, 20) : Int × Int × Int).2.2)]) (by simp [results, Tryz.results61, go_sem, r01, r11]) rfl ⟨rfl, by (repeat (first | with_reducible exact Below.refl _ _ | with_reducible assumption | refine Below.alloc ?_ (by (try simp); try omega) _ | refine Below.setCell ?_ (by (try simp); try omega) _ | refine below_drewN ?_ _ | refine Below.drew ?_ | (with_reducible refine Below.trans ?_ (Below.mono (by assumption) (by (try simp); try omega)))))⟩
end Go.Proofs.YtnfapdmbkpkkdaaGreat
