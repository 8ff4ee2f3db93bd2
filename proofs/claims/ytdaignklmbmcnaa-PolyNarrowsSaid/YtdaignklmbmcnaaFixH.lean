/-
  Walks of package fix: signed.
-/
import Derived.Test.YtdaignklmbmcnaaFixG
namespace Go.Proofs.Ytdaignklmbmcnaa
open Go.RowKit

/-- A magnitude with its sign; the error 6 if it is too great. -/
def sgR (ng : Bool) (m : Int) : Int × Int := if 4503599627370496 < m then (0, 6) else (if ng then -m else m, 0)

theorem rdiv_nonneg (to : Bool) (n d : Int) (hn : 0 ≤ n) (hd : 0 < d) : 0 ≤ rdiv to n d := by
  have := Int.ediv_nonneg hn (show 0 ≤ d by omega)
  unfold rdiv; split <;> omega

theorem exceeds_max (m : Int) (w : World) :
    Calls Try.prog 82 #[.agg #[.int .u64 (hi64 m), .int .u64 (lo64 m)], .agg #[.int .u64 0, .int .u64 4503599627370496]] w fun e w' => e = .returned (.bool (gtB m 4503599627370496)) ∧ Below w.heap.size w w' := by
  have h := exceeds_num m 4503599627370496 w
  rw [show hi64 4503599627370496 = 0 from rfl, show lo64 4503599627370496 = 4503599627370496 from rfl] at h
  exact h

set_option maxHeartbeats 2000000 in
theorem signed_ratio (a b d : Int) (to : Bool) (bx : Nat) (w : World) (a0 : -9223372036854775808 ≤ a) (a1 : a ≤ 9223372036854775807) (b0 : -9223372036854775808 ≤ b) (b1 : b ≤ 9223372036854775807) (d0 : 1 ≤ d) (d1 : d ≤ 9223372036854775807) (hbx : w.cell? ⟨bx, 0, none⟩ = some (.int .i64 d)) (ng : Bool) (hn : ng = (decide (a < 0) != decide (b < 0))) (m : Int) (hm : Hid (rdiv (to != ng) ((a.natAbs : Int) * (b.natAbs : Int)) d = m)) :
    Calls Try.prog 76 #[.int .i64 a, .int .i64 b, .bool to, .func (.func 77) #[] #[.pointer (some ⟨bx, 0, none⟩)]] w fun e w' =>
      e = .returned (.tuple #[.int .i64 (sgR ng m).1, .int .i64 (sgR ng m).2]) ∧ Below w.heap.size w w' := by
  have hm0 : 0 ≤ m := by rw [← hm.out]; exact rdiv_nonneg _ _ _ (Int.mul_nonneg (by omega) (by omega)) (by omega)
  have hmag : ∀ (x : Int) (w : World), -9223372036854775808 ≤ x → x ≤ 9223372036854775807 → Calls Try.prog 81 #[.int .i64 x] w fun e w' => e = .returned (.int .u64 (x.natAbs : Int)) ∧ w = w' := fun x w h0 h1 => magnitude_any x w h0 h1
  by_cases ha : a < 0
  · by_cases hb : b < 0
    · have hng : ng = false := by rw [hn]; simp [ha, hb]
      subst hng
      have e1 : (to != false) = to := by simp
      rw [e1] at hm
      clear hn e1
      by_cases hg : 4503599627370496 < m
      · have hgt : gtB m 4503599627370496 = true := by unfold gtB; simp; omega
        have hR := Lib.hid (show sgR false m = (0, 6) by unfold sgR; simp; omega)
        clear hg
        have hcl := fun (w : World) (hbx : w.cell? ⟨bx, 0, none⟩ = some (.int .i64 d)) => (ratio1_any (a.natAbs : Int) (b.natAbs : Int) d to bx w (by omega) (by omega) (by omega) (by omega) d0 d1 hbx)
        rw [hm.out] at hcl
        clear hm
        have hx := fun w => exceeds_max m w
        go_enter Try.func76, Try.ntmps76
        go_wp2_with (first | (go_at_call 81; (first | (with_reducible refine (hmag a _ a0 a1).mono ?_) | (with_reducible refine (hmag b _ b0 b1).mono ?_)); rintro e w' ⟨rfl, rfl⟩) | (go_at_call 77; refine (hcl _ hbx).mono ?_; rintro e w1 ⟨rfl, hb1⟩; have hz1 : w.heap.size ≤ w1.heap.size := hb1.size) | (go_at_call 82; refine (hx _).mono ?_; rintro e w2 ⟨rfl, hb2⟩; obtain ⟨hc2, hf2⟩ := bcell hb2))
        go_ret2
        exact ⟨by rw [hR.out]; rfl, by (repeat (first | with_reducible exact Below.refl _ _ | with_reducible assumption | refine Below.alloc ?_ (by (try simp); try omega) _ | refine Below.setCell ?_ (by (try simp); try omega) _ | refine below_drewN ?_ _ | refine Below.drew ?_ | (with_reducible refine Below.trans ?_ (Below.mono (by assumption) (by (try simp); try omega)))))⟩
      · have hgt : gtB m 4503599627370496 = false := by unfold gtB; simp; omega
        have hR := Lib.hid (show sgR false m = (m, 0) by unfold sgR; simp; omega)
        have hlo : lo64 m = m := by unfold lo64; omega
        have hcl := fun (w : World) (hbx : w.cell? ⟨bx, 0, none⟩ = some (.int .i64 d)) => (ratio1_any (a.natAbs : Int) (b.natAbs : Int) d to bx w (by omega) (by omega) (by omega) (by omega) d0 d1 hbx)
        rw [hm.out] at hcl
        clear hm
        have hx := fun w => exceeds_max m w
        rw [hlo] at hx hcl
        go_enter Try.func76, Try.ntmps76
        go_wp2_with (first | (go_at_call 81; (first | (with_reducible refine (hmag a _ a0 a1).mono ?_) | (with_reducible refine (hmag b _ b0 b1).mono ?_)); rintro e w' ⟨rfl, rfl⟩) | (go_at_call 77; refine (hcl _ hbx).mono ?_; rintro e w1 ⟨rfl, hb1⟩; have hz1 : w.heap.size ≤ w1.heap.size := hb1.size) | (go_at_call 82; refine (hx _).mono ?_; rintro e w2 ⟨rfl, hb2⟩; obtain ⟨hc2, hf2⟩ := bcell hb2))
        go_ret2
        exact ⟨by rw [hR.out]; rfl, by (repeat (first | with_reducible exact Below.refl _ _ | with_reducible assumption | refine Below.alloc ?_ (by (try simp); try omega) _ | refine Below.setCell ?_ (by (try simp); try omega) _ | refine below_drewN ?_ _ | refine Below.drew ?_ | (with_reducible refine Below.trans ?_ (Below.mono (by assumption) (by (try simp); try omega)))))⟩
    · have hng : ng = true := by rw [hn]; simp [ha, hb]
      subst hng
      have e1 : (to != true) = !to := by simp
      rw [e1] at hm
      clear hn e1
      by_cases hg : 4503599627370496 < m
      · have hgt : gtB m 4503599627370496 = true := by unfold gtB; simp; omega
        have hR := Lib.hid (show sgR true m = (0, 6) by unfold sgR; simp; omega)
        clear hg
        have hcl := fun (w : World) (hbx : w.cell? ⟨bx, 0, none⟩ = some (.int .i64 d)) => (ratio1_any (a.natAbs : Int) (b.natAbs : Int) d (!to) bx w (by omega) (by omega) (by omega) (by omega) d0 d1 hbx)
        rw [hm.out] at hcl
        clear hm
        have hx := fun w => exceeds_max m w
        go_enter Try.func76, Try.ntmps76
        go_wp2_with (first | (go_at_call 81; (first | (with_reducible refine (hmag a _ a0 a1).mono ?_) | (with_reducible refine (hmag b _ b0 b1).mono ?_)); rintro e w' ⟨rfl, rfl⟩) | (go_at_call 77; refine (hcl _ hbx).mono ?_; rintro e w1 ⟨rfl, hb1⟩; have hz1 : w.heap.size ≤ w1.heap.size := hb1.size) | (go_at_call 82; refine (hx _).mono ?_; rintro e w2 ⟨rfl, hb2⟩; obtain ⟨hc2, hf2⟩ := bcell hb2))
        go_ret2
        exact ⟨by rw [hR.out]; rfl, by (repeat (first | with_reducible exact Below.refl _ _ | with_reducible assumption | refine Below.alloc ?_ (by (try simp); try omega) _ | refine Below.setCell ?_ (by (try simp); try omega) _ | refine below_drewN ?_ _ | refine Below.drew ?_ | (with_reducible refine Below.trans ?_ (Below.mono (by assumption) (by (try simp); try omega)))))⟩
      · have hgt : gtB m 4503599627370496 = false := by unfold gtB; simp; omega
        have hR := Lib.hid (show sgR true m = (-m, 0) by unfold sgR; simp; omega)
        have hlo : lo64 m = m := by unfold lo64; omega
        have hcl := fun (w : World) (hbx : w.cell? ⟨bx, 0, none⟩ = some (.int .i64 d)) => (ratio1_any (a.natAbs : Int) (b.natAbs : Int) d (!to) bx w (by omega) (by omega) (by omega) (by omega) d0 d1 hbx)
        rw [hm.out] at hcl
        clear hm
        have hx := fun w => exceeds_max m w
        rw [hlo] at hx hcl
        go_enter Try.func76, Try.ntmps76
        go_wp2_with (first | (go_at_call 81; (first | (with_reducible refine (hmag a _ a0 a1).mono ?_) | (with_reducible refine (hmag b _ b0 b1).mono ?_)); rintro e w' ⟨rfl, rfl⟩) | (go_at_call 77; refine (hcl _ hbx).mono ?_; rintro e w1 ⟨rfl, hb1⟩; have hz1 : w.heap.size ≤ w1.heap.size := hb1.size) | (go_at_call 82; refine (hx _).mono ?_; rintro e w2 ⟨rfl, hb2⟩; obtain ⟨hc2, hf2⟩ := bcell hb2))
        go_ret2
        exact ⟨by rw [hR.out]; rfl, by (repeat (first | with_reducible exact Below.refl _ _ | with_reducible assumption | refine Below.alloc ?_ (by (try simp); try omega) _ | refine Below.setCell ?_ (by (try simp); try omega) _ | refine below_drewN ?_ _ | refine Below.drew ?_ | (with_reducible refine Below.trans ?_ (Below.mono (by assumption) (by (try simp); try omega)))))⟩
  · by_cases hb : b < 0
    · have hng : ng = true := by rw [hn]; simp [ha, hb]
      subst hng
      have e1 : (to != true) = !to := by simp
      rw [e1] at hm
      clear hn e1
      by_cases hg : 4503599627370496 < m
      · have hgt : gtB m 4503599627370496 = true := by unfold gtB; simp; omega
        have hR := Lib.hid (show sgR true m = (0, 6) by unfold sgR; simp; omega)
        clear hg
        have hcl := fun (w : World) (hbx : w.cell? ⟨bx, 0, none⟩ = some (.int .i64 d)) => (ratio1_any (a.natAbs : Int) (b.natAbs : Int) d (!to) bx w (by omega) (by omega) (by omega) (by omega) d0 d1 hbx)
        rw [hm.out] at hcl
        clear hm
        have hx := fun w => exceeds_max m w
        go_enter Try.func76, Try.ntmps76
        go_wp2_with (first | (go_at_call 81; (first | (with_reducible refine (hmag a _ a0 a1).mono ?_) | (with_reducible refine (hmag b _ b0 b1).mono ?_)); rintro e w' ⟨rfl, rfl⟩) | (go_at_call 77; refine (hcl _ hbx).mono ?_; rintro e w1 ⟨rfl, hb1⟩; have hz1 : w.heap.size ≤ w1.heap.size := hb1.size) | (go_at_call 82; refine (hx _).mono ?_; rintro e w2 ⟨rfl, hb2⟩; obtain ⟨hc2, hf2⟩ := bcell hb2))
        go_ret2
        exact ⟨by rw [hR.out]; rfl, by (repeat (first | with_reducible exact Below.refl _ _ | with_reducible assumption | refine Below.alloc ?_ (by (try simp); try omega) _ | refine Below.setCell ?_ (by (try simp); try omega) _ | refine below_drewN ?_ _ | refine Below.drew ?_ | (with_reducible refine Below.trans ?_ (Below.mono (by assumption) (by (try simp); try omega)))))⟩
      · have hgt : gtB m 4503599627370496 = false := by unfold gtB; simp; omega
        have hR := Lib.hid (show sgR true m = (-m, 0) by unfold sgR; simp; omega)
        have hlo : lo64 m = m := by unfold lo64; omega
        have hcl := fun (w : World) (hbx : w.cell? ⟨bx, 0, none⟩ = some (.int .i64 d)) => (ratio1_any (a.natAbs : Int) (b.natAbs : Int) d (!to) bx w (by omega) (by omega) (by omega) (by omega) d0 d1 hbx)
        rw [hm.out] at hcl
        clear hm
        have hx := fun w => exceeds_max m w
        rw [hlo] at hx hcl
        go_enter Try.func76, Try.ntmps76
        go_wp2_with (first | (go_at_call 81; (first | (with_reducible refine (hmag a _ a0 a1).mono ?_) | (with_reducible refine (hmag b _ b0 b1).mono ?_)); rintro e w' ⟨rfl, rfl⟩) | (go_at_call 77; refine (hcl _ hbx).mono ?_; rintro e w1 ⟨rfl, hb1⟩; have hz1 : w.heap.size ≤ w1.heap.size := hb1.size) | (go_at_call 82; refine (hx _).mono ?_; rintro e w2 ⟨rfl, hb2⟩; obtain ⟨hc2, hf2⟩ := bcell hb2))
        go_ret2
        exact ⟨by rw [hR.out]; rfl, by (repeat (first | with_reducible exact Below.refl _ _ | with_reducible assumption | refine Below.alloc ?_ (by (try simp); try omega) _ | refine Below.setCell ?_ (by (try simp); try omega) _ | refine below_drewN ?_ _ | refine Below.drew ?_ | (with_reducible refine Below.trans ?_ (Below.mono (by assumption) (by (try simp); try omega)))))⟩
    · have hng : ng = false := by rw [hn]; simp [ha, hb]
      subst hng
      have e1 : (to != false) = to := by simp
      rw [e1] at hm
      clear hn e1
      by_cases hg : 4503599627370496 < m
      · have hgt : gtB m 4503599627370496 = true := by unfold gtB; simp; omega
        have hR := Lib.hid (show sgR false m = (0, 6) by unfold sgR; simp; omega)
        clear hg
        have hcl := fun (w : World) (hbx : w.cell? ⟨bx, 0, none⟩ = some (.int .i64 d)) => (ratio1_any (a.natAbs : Int) (b.natAbs : Int) d to bx w (by omega) (by omega) (by omega) (by omega) d0 d1 hbx)
        rw [hm.out] at hcl
        clear hm
        have hx := fun w => exceeds_max m w
        go_enter Try.func76, Try.ntmps76
        go_wp2_with (first | (go_at_call 81; (first | (with_reducible refine (hmag a _ a0 a1).mono ?_) | (with_reducible refine (hmag b _ b0 b1).mono ?_)); rintro e w' ⟨rfl, rfl⟩) | (go_at_call 77; refine (hcl _ hbx).mono ?_; rintro e w1 ⟨rfl, hb1⟩; have hz1 : w.heap.size ≤ w1.heap.size := hb1.size) | (go_at_call 82; refine (hx _).mono ?_; rintro e w2 ⟨rfl, hb2⟩; obtain ⟨hc2, hf2⟩ := bcell hb2))
        go_ret2
        exact ⟨by rw [hR.out]; rfl, by (repeat (first | with_reducible exact Below.refl _ _ | with_reducible assumption | refine Below.alloc ?_ (by (try simp); try omega) _ | refine Below.setCell ?_ (by (try simp); try omega) _ | refine below_drewN ?_ _ | refine Below.drew ?_ | (with_reducible refine Below.trans ?_ (Below.mono (by assumption) (by (try simp); try omega)))))⟩
      · have hgt : gtB m 4503599627370496 = false := by unfold gtB; simp; omega
        have hR := Lib.hid (show sgR false m = (m, 0) by unfold sgR; simp; omega)
        have hlo : lo64 m = m := by unfold lo64; omega
        have hcl := fun (w : World) (hbx : w.cell? ⟨bx, 0, none⟩ = some (.int .i64 d)) => (ratio1_any (a.natAbs : Int) (b.natAbs : Int) d to bx w (by omega) (by omega) (by omega) (by omega) d0 d1 hbx)
        rw [hm.out] at hcl
        clear hm
        have hx := fun w => exceeds_max m w
        rw [hlo] at hx hcl
        go_enter Try.func76, Try.ntmps76
        go_wp2_with (first | (go_at_call 81; (first | (with_reducible refine (hmag a _ a0 a1).mono ?_) | (with_reducible refine (hmag b _ b0 b1).mono ?_)); rintro e w' ⟨rfl, rfl⟩) | (go_at_call 77; refine (hcl _ hbx).mono ?_; rintro e w1 ⟨rfl, hb1⟩; have hz1 : w.heap.size ≤ w1.heap.size := hb1.size) | (go_at_call 82; refine (hx _).mono ?_; rintro e w2 ⟨rfl, hb2⟩; obtain ⟨hc2, hf2⟩ := bcell hb2))
        go_ret2
        exact ⟨by rw [hR.out]; rfl, by (repeat (first | with_reducible exact Below.refl _ _ | with_reducible assumption | refine Below.alloc ?_ (by (try simp); try omega) _ | refine Below.setCell ?_ (by (try simp); try omega) _ | refine below_drewN ?_ _ | refine Below.drew ?_ | (with_reducible refine Below.trans ?_ (Below.mono (by assumption) (by (try simp); try omega)))))⟩

end Go.Proofs.Ytdaignklmbmcnaa
