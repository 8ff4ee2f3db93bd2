/-
  Package span: power with the exponent 1.
-/
import Derived.Test.YtabnpidmhmebfaaDoorSpK
namespace Go.Proofs.YtabnpidmhmebfaaDoor
open Go.RowKit

set_option maxRecDepth 100000 in
set_option maxHeartbeats 1000000 in
theorem power1Pos_false (m : Nat) (w : World) (hm : m ≤ 4503599627370496) :
    Calls Tryd.prog 46 #[.int .i64 (m), .int .i64 1, .bool false] w fun e w' => e = .returned (.tuple #[.int .i64 (m), .int .i64 0]) ∧ Below w.heap.size w w' := by
  have hp := fun w => powerDigits_any m 1 w (by omega) (by omega) (by omega)
  simp only [Nat.pow_one, Nat.mul_one, Int.natCast_one] at hp
  have hz := fun (a : Addr) (c : Nat) (w : World) (_ : a = ⟨a.block, a.off, none⟩) (h1 : a.off ≤ 1000) (h2 : c ≤ 1000) => zero_true a.block a.off 0 c (fun _ => 0) w (by omega) h1 h2 (fun i hi => absurd hi (by omega)) (fun i _ => rfl)
  have hhz : ∀ (b o c : Nat) (w : World), o ≤ 1000 → c ≤ 1000 → Calls Tryd.prog 63 #[.slice (some ⟨b, o, none⟩) 0 c] w fun e w' => e = .returned (.bool true) ∧ w = w' := fun b o c w h1 h2 => zero_true b o 0 c (fun _ => 0) w (by omega) h1 h2 (fun i hi => absurd hi (by omega)) (fun i _ => rfl)
  clear hz
  have htd := two_digits m
  have hd0 := dg_lt m 0
  have hd1' := dg_lt m 1
  rw [Nat.mod_eq_of_lt (by omega)] at htd
  obtain ⟨V, hV⟩ : ∃ V : Int, (m : Int) = V := ⟨_, rfl⟩
  have V0 : 0 ≤ V := by omega
  have V1 : V ≤ 4503599627370496 := by omega
  have hmx : max V (-V) = V := by omega
  rw [hV] at hp htd ⊢
  clear hV
  obtain ⟨q0, hQ0⟩ : ∃ q0 : Int, ((dg m 0 : Nat) : Int) = q0 := ⟨_, rfl⟩
  obtain ⟨q1, hQ1⟩ : ∃ q1 : Int, ((dg m 1 : Nat) : Int) = q1 := ⟨_, rfl⟩
  rw [hQ0, hQ1] at htd
  have q00 : 0 ≤ q0 := by omega
  have q01 : q0 ≤ 4294967295 := by omega
  have q10 : 0 ≤ q1 := by omega
  have q11 : q1 ≤ 4294967295 := by omega
  have htd' : bits .or .u64 (q1 * 4294967296) q0 = V := by rw [wrap_in _ (by omega) (by omega)] at htd; exact htd
  have HQ0 := Lib.hid hQ0
  have HQ1 := Lib.hid hQ1
  clear hQ0 hQ1 hd0 hd1'
  go_enter Tryd.func46, Tryd.ntmps46
  go_wp2_with (go_at_call 62; refine (hp _).mono ?_; rintro e w1 ⟨rfl, hd1, hb1⟩)
  go_quiet (fail)
  have c0 : w1.cell? ⟨w.heap.size, 0, none⟩ = some (.int .u32 q0) := by rw [← HQ0.out]; exact hd1.cell (i := 0) (by omega)
  have c1 : w1.cell? ⟨w.heap.size, 1, none⟩ = some (.int .u32 q1) := by rw [← HQ1.out]; exact hd1.cell (i := 1) (by omega)
  clear hp hd1
  go_wp2_with (go_at_call 63; refine (hhz _ _ _ _ (by omega) (by omega)).mono ?_; rintro e w' ⟨rfl, rfl⟩)
  go_quiet (fail)
  go_wp2_with (go_at_call 63; refine (hhz _ _ _ _ (by omega) (by omega)).mono ?_; rintro e w' ⟨rfl, rfl⟩)
  go_ret2
  exact ⟨rfl, by (repeat (first | with_reducible exact Below.refl _ _ | with_reducible assumption | refine Below.alloc ?_ (by (try simp); try omega) _ | refine Below.setCell ?_ (by (try simp); try omega) _ | refine below_drewN ?_ _ | refine Below.drew ?_ | (with_reducible refine Below.trans ?_ (Below.mono (by assumption) (by (try simp); try omega)))))⟩

set_option maxRecDepth 100000 in
set_option maxHeartbeats 1000000 in
theorem power1Pos_true (m : Nat) (w : World) (hm : m ≤ 4503599627370496) :
    Calls Tryd.prog 46 #[.int .i64 (m), .int .i64 1, .bool true] w fun e w' => e = .returned (.tuple #[.int .i64 (m), .int .i64 0]) ∧ Below w.heap.size w w' := by
  have hp := fun w => powerDigits_any m 1 w (by omega) (by omega) (by omega)
  simp only [Nat.pow_one, Nat.mul_one, Int.natCast_one] at hp
  have hz := fun (a : Addr) (c : Nat) (w : World) (_ : a = ⟨a.block, a.off, none⟩) (h1 : a.off ≤ 1000) (h2 : c ≤ 1000) => zero_true a.block a.off 0 c (fun _ => 0) w (by omega) h1 h2 (fun i hi => absurd hi (by omega)) (fun i _ => rfl)
  have hhz : ∀ (b o c : Nat) (w : World), o ≤ 1000 → c ≤ 1000 → Calls Tryd.prog 63 #[.slice (some ⟨b, o, none⟩) 0 c] w fun e w' => e = .returned (.bool true) ∧ w = w' := fun b o c w h1 h2 => zero_true b o 0 c (fun _ => 0) w (by omega) h1 h2 (fun i hi => absurd hi (by omega)) (fun i _ => rfl)
  clear hz
  have htd := two_digits m
  have hd0 := dg_lt m 0
  have hd1' := dg_lt m 1
  rw [Nat.mod_eq_of_lt (by omega)] at htd
  obtain ⟨V, hV⟩ : ∃ V : Int, (m : Int) = V := ⟨_, rfl⟩
  have V0 : 0 ≤ V := by omega
  have V1 : V ≤ 4503599627370496 := by omega
  have hmx : max V (-V) = V := by omega
  rw [hV] at hp htd ⊢
  clear hV
  obtain ⟨q0, hQ0⟩ : ∃ q0 : Int, ((dg m 0 : Nat) : Int) = q0 := ⟨_, rfl⟩
  obtain ⟨q1, hQ1⟩ : ∃ q1 : Int, ((dg m 1 : Nat) : Int) = q1 := ⟨_, rfl⟩
  rw [hQ0, hQ1] at htd
  have q00 : 0 ≤ q0 := by omega
  have q01 : q0 ≤ 4294967295 := by omega
  have q10 : 0 ≤ q1 := by omega
  have q11 : q1 ≤ 4294967295 := by omega
  have htd' : bits .or .u64 (q1 * 4294967296) q0 = V := by rw [wrap_in _ (by omega) (by omega)] at htd; exact htd
  have HQ0 := Lib.hid hQ0
  have HQ1 := Lib.hid hQ1
  clear hQ0 hQ1 hd0 hd1'
  go_enter Tryd.func46, Tryd.ntmps46
  go_wp2_with (go_at_call 62; refine (hp _).mono ?_; rintro e w1 ⟨rfl, hd1, hb1⟩)
  go_quiet (fail)
  have c0 : w1.cell? ⟨w.heap.size, 0, none⟩ = some (.int .u32 q0) := by rw [← HQ0.out]; exact hd1.cell (i := 0) (by omega)
  have c1 : w1.cell? ⟨w.heap.size, 1, none⟩ = some (.int .u32 q1) := by rw [← HQ1.out]; exact hd1.cell (i := 1) (by omega)
  clear hp hd1
  go_wp2_with (go_at_call 63; refine (hhz _ _ _ _ (by omega) (by omega)).mono ?_; rintro e w' ⟨rfl, rfl⟩)
  go_quiet (fail)
  go_wp2_with (go_at_call 63; refine (hhz _ _ _ _ (by omega) (by omega)).mono ?_; rintro e w' ⟨rfl, rfl⟩)
  go_ret2
  exact ⟨rfl, by (repeat (first | with_reducible exact Below.refl _ _ | with_reducible assumption | refine Below.alloc ?_ (by (try simp); try omega) _ | refine Below.setCell ?_ (by (try simp); try omega) _ | refine below_drewN ?_ _ | refine Below.drew ?_ | (with_reducible refine Below.trans ?_ (Below.mono (by assumption) (by (try simp); try omega)))))⟩

set_option maxRecDepth 100000 in
set_option maxHeartbeats 1000000 in
theorem power1Odd_false (m : Nat) (w : World) (hm : m ≤ 4503599627370496) (m0 : 1 ≤ m) :
    Calls Tryd.prog 46 #[.int .i64 (-(m : Int)), .int .i64 1, .bool false] w fun e w' => e = .returned (.tuple #[.int .i64 (-(m : Int)), .int .i64 0]) ∧ Below w.heap.size w w' := by
  have hp := fun w => powerDigits_any m 1 w (by omega) (by omega) (by omega)
  simp only [Nat.pow_one, Nat.mul_one, Int.natCast_one] at hp
  have hz := fun (a : Addr) (c : Nat) (w : World) (_ : a = ⟨a.block, a.off, none⟩) (h1 : a.off ≤ 1000) (h2 : c ≤ 1000) => zero_true a.block a.off 0 c (fun _ => 0) w (by omega) h1 h2 (fun i hi => absurd hi (by omega)) (fun i _ => rfl)
  have hhz : ∀ (b o c : Nat) (w : World), o ≤ 1000 → c ≤ 1000 → Calls Tryd.prog 63 #[.slice (some ⟨b, o, none⟩) 0 c] w fun e w' => e = .returned (.bool true) ∧ w = w' := fun b o c w h1 h2 => zero_true b o 0 c (fun _ => 0) w (by omega) h1 h2 (fun i hi => absurd hi (by omega)) (fun i _ => rfl)
  clear hz
  have htd := two_digits m
  have hd0 := dg_lt m 0
  have hd1' := dg_lt m 1
  rw [Nat.mod_eq_of_lt (by omega)] at htd
  obtain ⟨V, hV⟩ : ∃ V : Int, (m : Int) = V := ⟨_, rfl⟩
  have V0 : 1 ≤ V := by omega
  have V1 : V ≤ 4503599627370496 := by omega
  have hmx : max (-V) V = V := by omega
  rw [hV] at hp htd ⊢
  clear hV
  obtain ⟨q0, hQ0⟩ : ∃ q0 : Int, ((dg m 0 : Nat) : Int) = q0 := ⟨_, rfl⟩
  obtain ⟨q1, hQ1⟩ : ∃ q1 : Int, ((dg m 1 : Nat) : Int) = q1 := ⟨_, rfl⟩
  rw [hQ0, hQ1] at htd
  have q00 : 0 ≤ q0 := by omega
  have q01 : q0 ≤ 4294967295 := by omega
  have q10 : 0 ≤ q1 := by omega
  have q11 : q1 ≤ 4294967295 := by omega
  have htd' : bits .or .u64 (q1 * 4294967296) q0 = V := by rw [wrap_in _ (by omega) (by omega)] at htd; exact htd
  have HQ0 := Lib.hid hQ0
  have HQ1 := Lib.hid hQ1
  clear hQ0 hQ1 hd0 hd1'
  go_enter Tryd.func46, Tryd.ntmps46
  go_wp2_with (go_at_call 62; refine (hp _).mono ?_; rintro e w1 ⟨rfl, hd1, hb1⟩)
  go_quiet (fail)
  have c0 : w1.cell? ⟨w.heap.size, 0, none⟩ = some (.int .u32 q0) := by rw [← HQ0.out]; exact hd1.cell (i := 0) (by omega)
  have c1 : w1.cell? ⟨w.heap.size, 1, none⟩ = some (.int .u32 q1) := by rw [← HQ1.out]; exact hd1.cell (i := 1) (by omega)
  clear hp hd1
  go_wp2_with (go_at_call 63; refine (hhz _ _ _ _ (by omega) (by omega)).mono ?_; rintro e w' ⟨rfl, rfl⟩)
  go_quiet (fail)
  go_wp2_with (go_at_call 63; refine (hhz _ _ _ _ (by omega) (by omega)).mono ?_; rintro e w' ⟨rfl, rfl⟩)
  go_ret2
  exact ⟨rfl, by (repeat (first | with_reducible exact Below.refl _ _ | with_reducible assumption | refine Below.alloc ?_ (by (try simp); try omega) _ | refine Below.setCell ?_ (by (try simp); try omega) _ | refine below_drewN ?_ _ | refine Below.drew ?_ | (with_reducible refine Below.trans ?_ (Below.mono (by assumption) (by (try simp); try omega)))))⟩

set_option maxRecDepth 100000 in
set_option maxHeartbeats 1000000 in
theorem power1Odd_true (m : Nat) (w : World) (hm : m ≤ 4503599627370496) (m0 : 1 ≤ m) :
    Calls Tryd.prog 46 #[.int .i64 (-(m : Int)), .int .i64 1, .bool true] w fun e w' => e = .returned (.tuple #[.int .i64 (-(m : Int)), .int .i64 0]) ∧ Below w.heap.size w w' := by
  have hp := fun w => powerDigits_any m 1 w (by omega) (by omega) (by omega)
  simp only [Nat.pow_one, Nat.mul_one, Int.natCast_one] at hp
  have hz := fun (a : Addr) (c : Nat) (w : World) (_ : a = ⟨a.block, a.off, none⟩) (h1 : a.off ≤ 1000) (h2 : c ≤ 1000) => zero_true a.block a.off 0 c (fun _ => 0) w (by omega) h1 h2 (fun i hi => absurd hi (by omega)) (fun i _ => rfl)
  have hhz : ∀ (b o c : Nat) (w : World), o ≤ 1000 → c ≤ 1000 → Calls Tryd.prog 63 #[.slice (some ⟨b, o, none⟩) 0 c] w fun e w' => e = .returned (.bool true) ∧ w = w' := fun b o c w h1 h2 => zero_true b o 0 c (fun _ => 0) w (by omega) h1 h2 (fun i hi => absurd hi (by omega)) (fun i _ => rfl)
  clear hz
  have htd := two_digits m
  have hd0 := dg_lt m 0
  have hd1' := dg_lt m 1
  rw [Nat.mod_eq_of_lt (by omega)] at htd
  obtain ⟨V, hV⟩ : ∃ V : Int, (m : Int) = V := ⟨_, rfl⟩
  have V0 : 1 ≤ V := by omega
  have V1 : V ≤ 4503599627370496 := by omega
  have hmx : max (-V) V = V := by omega
  rw [hV] at hp htd ⊢
  clear hV
  obtain ⟨q0, hQ0⟩ : ∃ q0 : Int, ((dg m 0 : Nat) : Int) = q0 := ⟨_, rfl⟩
  obtain ⟨q1, hQ1⟩ : ∃ q1 : Int, ((dg m 1 : Nat) : Int) = q1 := ⟨_, rfl⟩
  rw [hQ0, hQ1] at htd
  have q00 : 0 ≤ q0 := by omega
  have q01 : q0 ≤ 4294967295 := by omega
  have q10 : 0 ≤ q1 := by omega
  have q11 : q1 ≤ 4294967295 := by omega
  have htd' : bits .or .u64 (q1 * 4294967296) q0 = V := by rw [wrap_in _ (by omega) (by omega)] at htd; exact htd
  have HQ0 := Lib.hid hQ0
  have HQ1 := Lib.hid hQ1
  clear hQ0 hQ1 hd0 hd1'
  go_enter Tryd.func46, Tryd.ntmps46
  go_wp2_with (go_at_call 62; refine (hp _).mono ?_; rintro e w1 ⟨rfl, hd1, hb1⟩)
  go_quiet (fail)
  have c0 : w1.cell? ⟨w.heap.size, 0, none⟩ = some (.int .u32 q0) := by rw [← HQ0.out]; exact hd1.cell (i := 0) (by omega)
  have c1 : w1.cell? ⟨w.heap.size, 1, none⟩ = some (.int .u32 q1) := by rw [← HQ1.out]; exact hd1.cell (i := 1) (by omega)
  clear hp hd1
  go_wp2_with (go_at_call 63; refine (hhz _ _ _ _ (by omega) (by omega)).mono ?_; rintro e w' ⟨rfl, rfl⟩)
  go_quiet (fail)
  go_wp2_with (go_at_call 63; refine (hhz _ _ _ _ (by omega) (by omega)).mono ?_; rintro e w' ⟨rfl, rfl⟩)
  go_ret2
  exact ⟨rfl, by (repeat (first | with_reducible exact Below.refl _ _ | with_reducible assumption | refine Below.alloc ?_ (by (try simp); try omega) _ | refine Below.setCell ?_ (by (try simp); try omega) _ | refine below_drewN ?_ _ | refine Below.drew ?_ | (with_reducible refine Below.trans ?_ (Below.mono (by assumption) (by (try simp); try omega)))))⟩

end Go.Proofs.YtabnpidmhmebfaaDoor
