/-
  DecKnown: the walk.
-/
import Derived.Test.YtpjkdgdgjlldfaaDoorDcW
namespace Go.Proofs.YtpjkdgdgjlldfaaDoor
open Go.RowKit

set_option maxRecDepth 100000 in
theorem fixed_no (v d : Int) (up : Bool) (w : World) (h : ckErr v = 2 ∨ (ckErr v = 0 ∧ (d < 0 ∨ 12 < d))) :
    Calls Tryd.prog 16 #[.int .i64 v, .int .i64 d, .bool up] w fun e w' => e = .returned (.tuple #[.string (bs []), .int .i64 2]) ∧ Below w.heap.size w w' := by
  have hc := fun w => check_any v w
  rcases h with k | ⟨k, hd | hd⟩
  all_goals
    rw [k] at hc
    clear k
    go_enter Tryd.func16, Tryd.ntmps16
    go_wp2_with (go_at_call 31; (with_reducible refine (hc _).mono ?_); rintro e w0 ⟨rfl, rfl⟩)
    go_ret2
    exact ⟨rfl, Below.refl _ _⟩
set_option maxRecDepth 100000 in
theorem both_bad (a b d : Int) (w : World) (k : ckS a b = 0) (hd : d < 0 ∨ 12 < d) :
    Calls Tryd.prog 18 #[.agg #[.int .i64 a, .int .i64 b], .int .i64 d] w fun e w' => e = .returned (.tuple #[.string (bs []), .int .i64 2]) ∧ Below w.heap.size w w' := by
  have hc := fun w => sCheck_any a b w
  rw [k] at hc
  obtain ⟨k0, k1, k2⟩ : -4503599627370496 ≤ a ∧ a ≤ b ∧ b ≤ 4503599627370496 := by unfold ckS at k; split at k <;> omega
  have f1 := fun w => fixed_no a d false w (Or.inr ⟨ckErr_ok k0 (by omega), hd⟩)
  have bX := Bn.new w #[.int .i64 a, .int .i64 b] 41
  have hB : Below w.heap.size w (w.alloc (.cells #[.int .i64 a, .int .i64 b] 41)) := by (repeat (first | with_reducible exact Below.refl _ _ | with_reducible assumption | refine Below.alloc ?_ (by (try simp); try omega) _ | refine Below.setCell ?_ (by (try simp); try omega) _ | refine below_drewN ?_ _ | refine Below.drew ?_ | (with_reducible refine Below.trans ?_ (Below.mono (by assumption) (by (try simp); try omega)))))
  clear k hd k0 k1 k2
  go_enter Tryd.func18, Tryd.ntmps18
  go_wp2_with (first | (go_at_call 35; (with_reducible refine (hc _).mono ?_); rintro e w0 ⟨rfl, hb⟩; replace bX := bX.keep hb; replace hB := hB.trans (hb.mono hB.size); clear hb; have cX0 := bX.cell 0 (.int .i64 a) rfl; have cX1 := bX.cell 1 (.int .i64 b) rfl; have kX := bX.lt) | (go_at_call 16; (with_reducible refine (f1 _).mono ?_); rintro e w1 ⟨rfl, hb⟩; replace hB := hB.trans (hb.mono hB.size)))
  go_ret2
  exact ⟨rfl, hB⟩
theorem km1 (w : World) : Calls Tryd.prog 13 #[.string ⟨#[45, 57, 46, 50, 50, 51, 51, 55, 50, 48, 51, 54, 56, 53, 52, 55, 55, 53, 56, 48, 56]⟩] w fun e w' => ∃ g, e = .returned (.func (.func 30) #[] #[.pointer (some ⟨g, 0, none⟩)]) ∧ w'.cell? ⟨g, 0, none⟩ = some (.string ⟨#[45, 57, 46, 50, 50, 51, 51, 55, 50, 48, 51, 54, 56, 53, 52, 55, 55, 53, 56, 48, 56]⟩) ∧ Below w.heap.size w w' := is_any [45, 57, 46, 50, 50, 51, 51, 55, 50, 48, 51, 54, 56, 53, 52, 55, 55, 53, 56, 48, 56] w
theorem kk1 (g : Nat) (w : World) (hb : w.cell? ⟨g, 0, none⟩ = some (.string ⟨#[45, 57, 46, 50, 50, 51, 51, 55, 50, 48, 51, 54, 56, 53, 52, 55, 55, 53, 56, 48, 56]⟩)) : Calls Tryd.prog 30 #[.string ⟨#[45, 57, 46, 50, 50, 51, 51, 55, 50, 48, 51, 54, 56, 53, 52, 55, 55, 53, 56, 48, 56]⟩, .int .i64 0, .pointer (some ⟨g, 0, none⟩)] w fun e w' => e = .returned (.bool true) ∧ w = w' := is1_any [45, 57, 46, 50, 50, 51, 51, 55, 50, 48, 51, 54, 56, 53, 52, 55, 55, 53, 56, 48, 56] g w hb
theorem kf1 (w : World) (hP : Pw w) (_hE : Er w) : Calls Tryd.prog 9 #[.int .i64 (-9223372036854775808), .int .i64 18] w fun e w' => e = .returned (.tuple #[.string ⟨#[45, 57, 46, 50, 50, 51, 51, 55, 50, 48, 51, 54, 56, 53, 52, 55, 55, 53, 56, 48, 56]⟩, .int .i64 0]) ∧ Below w.heap.size w w' := by
  have h := text_any (-9223372036854775808) 18 w (by omega) (by omega) hP
  rw [show tR (-9223372036854775808) 18 = ([45, 57, 46, 50, 50, 51, 51, 55, 50, 48, 51, 54, 56, 53, 52, 55, 55, 53, 56, 48, 56], 0) from by unfold tR; rw [if_neg (by decide), txt_N _ _ (by decide)]; decide +kernel] at h
  exact h
theorem km2 (w : World) : Calls Tryd.prog 13 #[.string ⟨#[57, 50, 50, 51, 51, 55, 50, 48, 51, 54, 56, 53, 52, 55, 55, 53, 56, 48, 55]⟩] w fun e w' => ∃ g, e = .returned (.func (.func 30) #[] #[.pointer (some ⟨g, 0, none⟩)]) ∧ w'.cell? ⟨g, 0, none⟩ = some (.string ⟨#[57, 50, 50, 51, 51, 55, 50, 48, 51, 54, 56, 53, 52, 55, 55, 53, 56, 48, 55]⟩) ∧ Below w.heap.size w w' := is_any [57, 50, 50, 51, 51, 55, 50, 48, 51, 54, 56, 53, 52, 55, 55, 53, 56, 48, 55] w
theorem kk2 (g : Nat) (w : World) (hb : w.cell? ⟨g, 0, none⟩ = some (.string ⟨#[57, 50, 50, 51, 51, 55, 50, 48, 51, 54, 56, 53, 52, 55, 55, 53, 56, 48, 55]⟩)) : Calls Tryd.prog 30 #[.string ⟨#[57, 50, 50, 51, 51, 55, 50, 48, 51, 54, 56, 53, 52, 55, 55, 53, 56, 48, 55]⟩, .int .i64 0, .pointer (some ⟨g, 0, none⟩)] w fun e w' => e = .returned (.bool true) ∧ w = w' := is1_any [57, 50, 50, 51, 51, 55, 50, 48, 51, 54, 56, 53, 52, 55, 55, 53, 56, 48, 55] g w hb
theorem kf2 (w : World) (hP : Pw w) (_hE : Er w) : Calls Tryd.prog 9 #[.int .i64 9223372036854775807, .int .i64 0] w fun e w' => e = .returned (.tuple #[.string ⟨#[57, 50, 50, 51, 51, 55, 50, 48, 51, 54, 56, 53, 52, 55, 55, 53, 56, 48, 55]⟩, .int .i64 0]) ∧ Below w.heap.size w w' := by
  have h := text_any 9223372036854775807 0 w (by omega) (by omega) hP
  rw [show tR 9223372036854775807 0 = ([57, 50, 50, 51, 51, 55, 50, 48, 51, 54, 56, 53, 52, 55, 55, 53, 56, 48, 55], 0) from by unfold tR; rw [if_neg (by decide), txt_N _ _ (by decide)]; decide +kernel] at h
  exact h
theorem km3 (w : World) : Calls Tryd.prog 13 #[.string ⟨#[45, 48, 46, 48, 48, 48, 48, 48, 48, 48, 48, 48, 48, 48, 48, 48, 48, 48, 48, 48, 49]⟩] w fun e w' => ∃ g, e = .returned (.func (.func 30) #[] #[.pointer (some ⟨g, 0, none⟩)]) ∧ w'.cell? ⟨g, 0, none⟩ = some (.string ⟨#[45, 48, 46, 48, 48, 48, 48, 48, 48, 48, 48, 48, 48, 48, 48, 48, 48, 48, 48, 48, 49]⟩) ∧ Below w.heap.size w w' := is_any [45, 48, 46, 48, 48, 48, 48, 48, 48, 48, 48, 48, 48, 48, 48, 48, 48, 48, 48, 48, 49] w
theorem kk3 (g : Nat) (w : World) (hb : w.cell? ⟨g, 0, none⟩ = some (.string ⟨#[45, 48, 46, 48, 48, 48, 48, 48, 48, 48, 48, 48, 48, 48, 48, 48, 48, 48, 48, 48, 49]⟩)) : Calls Tryd.prog 30 #[.string ⟨#[45, 48, 46, 48, 48, 48, 48, 48, 48, 48, 48, 48, 48, 48, 48, 48, 48, 48, 48, 48, 49]⟩, .int .i64 0, .pointer (some ⟨g, 0, none⟩)] w fun e w' => e = .returned (.bool true) ∧ w = w' := is1_any [45, 48, 46, 48, 48, 48, 48, 48, 48, 48, 48, 48, 48, 48, 48, 48, 48, 48, 48, 48, 49] g w hb
theorem kf3 (w : World) (hP : Pw w) (_hE : Er w) : Calls Tryd.prog 9 #[.int .i64 (-1), .int .i64 18] w fun e w' => e = .returned (.tuple #[.string ⟨#[45, 48, 46, 48, 48, 48, 48, 48, 48, 48, 48, 48, 48, 48, 48, 48, 48, 48, 48, 48, 49]⟩, .int .i64 0]) ∧ Below w.heap.size w w' := by
  have h := text_any (-1) 18 w (by omega) (by omega) hP
  rw [show tR (-1) 18 = ([45, 48, 46, 48, 48, 48, 48, 48, 48, 48, 48, 48, 48, 48, 48, 48, 48, 48, 48, 48, 49], 0) from by unfold tR; rw [if_neg (by decide), txt_N _ _ (by decide)]; decide +kernel] at h
  exact h
theorem km4 (w : World) : Calls Tryd.prog 13 #[.string ⟨#[49, 48, 48]⟩] w fun e w' => ∃ g, e = .returned (.func (.func 30) #[] #[.pointer (some ⟨g, 0, none⟩)]) ∧ w'.cell? ⟨g, 0, none⟩ = some (.string ⟨#[49, 48, 48]⟩) ∧ Below w.heap.size w w' := is_any [49, 48, 48] w
theorem kk4 (g : Nat) (w : World) (hb : w.cell? ⟨g, 0, none⟩ = some (.string ⟨#[49, 48, 48]⟩)) : Calls Tryd.prog 30 #[.string ⟨#[49, 48, 48]⟩, .int .i64 0, .pointer (some ⟨g, 0, none⟩)] w fun e w' => e = .returned (.bool true) ∧ w = w' := is1_any [49, 48, 48] g w hb
theorem kf4 (w : World) (hP : Pw w) (_hE : Er w) : Calls Tryd.prog 9 #[.int .i64 100000, .int .i64 3] w fun e w' => e = .returned (.tuple #[.string ⟨#[49, 48, 48]⟩, .int .i64 0]) ∧ Below w.heap.size w w' := by
  have h := text_any 100000 3 w (by omega) (by omega) hP
  rw [show tR 100000 3 = ([49, 48, 48], 0) from by unfold tR; rw [if_neg (by decide), txt_N _ _ (by decide)]; decide +kernel] at h
  exact h
theorem km5 (w : World) : Calls Tryd.prog 19 #[.int .i64 2] w fun e w' => ∃ g, e = .returned (.func (.func 36) #[] #[.pointer (some ⟨g, 0, none⟩)]) ∧ w'.cell? ⟨g, 0, none⟩ = some (.int .i64 2) ∧ Below w.heap.size w w' := fails_any 2 w
theorem kk5 (g : Nat) (w : World) (hb : w.cell? ⟨g, 0, none⟩ = some (.int .i64 2)) : Calls Tryd.prog 36 #[.string ⟨#[]⟩, .int .i64 2, .pointer (some ⟨g, 0, none⟩)] w fun e w' => e = .returned (.bool true) ∧ w = w' := fails1_any 2 g w hb
theorem kf5 (w : World) (hP : Pw w) (_hE : Er w) : Calls Tryd.prog 9 #[.int .i64 1, .int .i64 (-1)] w fun e w' => e = .returned (.tuple #[.string ⟨#[]⟩, .int .i64 2]) ∧ Below w.heap.size w w' := by
  have h := text_any 1 (-1) w (by omega) (by omega) hP
  rw [show tR 1 (-1) = ([], 2) from by decide] at h
  exact h
theorem km6 (w : World) : Calls Tryd.prog 11 #[.int .i64 (-9223372036854775808)] w fun e w' => ∃ g, e = .returned (.func (.func 26) #[] #[.pointer (some ⟨g, 0, none⟩)]) ∧ w'.cell? ⟨g, 0, none⟩ = some (.int .i64 (-9223372036854775808)) ∧ Below w.heap.size w w' := says_any (-9223372036854775808) w
theorem kk6 (g : Nat) (w : World) (hb : w.cell? ⟨g, 0, none⟩ = some (.int .i64 (-9223372036854775808))) : Calls Tryd.prog 26 #[.int .i64 (-9223372036854775808), .int .i64 0, .pointer (some ⟨g, 0, none⟩)] w fun e w' => e = .returned (.bool true) ∧ w = w' := says1_any (-9223372036854775808) g w hb
theorem kf6 (w : World) (_hP : Pw w) (hE : Er w) : Calls Tryd.prog 12 #[.string ⟨#[45, 57, 46, 50, 50, 51, 51, 55, 50, 48, 51, 54, 56, 53, 52, 55, 55, 53, 56, 48, 56]⟩, .int .i64 18] w fun e w' => e = .returned (.tuple #[.int .i64 (-9223372036854775808), .int .i64 0]) ∧ Below w.heap.size w w' := by
  have h := parse_any [45, 57, 46, 50, 50, 51, 51, 55, 50, 48, 51, 54, 56, 53, 52, 55, 55, 53, 56, 48, 56] 18 w (by decide) hE
  rw [show pR [45, 57, 46, 50, 50, 51, 51, 55, 50, 48, 51, 54, 56, 53, 52, 55, 55, 53, 56, 48, 56] 18 = ((-9223372036854775808), 0) from by decide +kernel] at h
  exact h
theorem km7 (w : World) : Calls Tryd.prog 20 #[.int .i64 6] w fun e w' => ∃ g, e = .returned (.func (.func 37) #[] #[.pointer (some ⟨g, 0, none⟩)]) ∧ w'.cell? ⟨g, 0, none⟩ = some (.int .i64 6) ∧ Below w.heap.size w w' := refuses_any 6 w
theorem kk7 (g : Nat) (w : World) (hb : w.cell? ⟨g, 0, none⟩ = some (.int .i64 6)) : Calls Tryd.prog 37 #[.int .i64 0, .int .i64 6, .pointer (some ⟨g, 0, none⟩)] w fun e w' => e = .returned (.bool true) ∧ w = w' := refuses1_any 6 g w hb
theorem kf7 (w : World) (_hP : Pw w) (hE : Er w) : Calls Tryd.prog 12 #[.string ⟨#[45, 57, 46, 50, 50, 51, 51, 55, 50, 48, 51, 54, 56, 53, 52, 55, 55, 53, 56, 48, 57]⟩, .int .i64 18] w fun e w' => e = .returned (.tuple #[.int .i64 0, .int .i64 6]) ∧ Below w.heap.size w w' := by
  have h := parse_any [45, 57, 46, 50, 50, 51, 51, 55, 50, 48, 51, 54, 56, 53, 52, 55, 55, 53, 56, 48, 57] 18 w (by decide) hE
  rw [show pR [45, 57, 46, 50, 50, 51, 51, 55, 50, 48, 51, 54, 56, 53, 52, 55, 55, 53, 56, 48, 57] 18 = (0, 6) from by decide +kernel] at h
  exact h
theorem km8 (w : World) : Calls Tryd.prog 20 #[.int .i64 6] w fun e w' => ∃ g, e = .returned (.func (.func 37) #[] #[.pointer (some ⟨g, 0, none⟩)]) ∧ w'.cell? ⟨g, 0, none⟩ = some (.int .i64 6) ∧ Below w.heap.size w w' := refuses_any 6 w
theorem kk8 (g : Nat) (w : World) (hb : w.cell? ⟨g, 0, none⟩ = some (.int .i64 6)) : Calls Tryd.prog 37 #[.int .i64 0, .int .i64 6, .pointer (some ⟨g, 0, none⟩)] w fun e w' => e = .returned (.bool true) ∧ w = w' := refuses1_any 6 g w hb
theorem kf8 (w : World) (_hP : Pw w) (hE : Er w) : Calls Tryd.prog 12 #[.string ⟨#[49, 48]⟩, .int .i64 18] w fun e w' => e = .returned (.tuple #[.int .i64 0, .int .i64 6]) ∧ Below w.heap.size w w' := by
  have h := parse_any [49, 48] 18 w (by decide) hE
  rw [show pR [49, 48] 18 = (0, 6) from by decide +kernel] at h
  exact h
theorem km9 (w : World) : Calls Tryd.prog 11 #[.int .i64 9000000000000000000] w fun e w' => ∃ g, e = .returned (.func (.func 26) #[] #[.pointer (some ⟨g, 0, none⟩)]) ∧ w'.cell? ⟨g, 0, none⟩ = some (.int .i64 9000000000000000000) ∧ Below w.heap.size w w' := says_any 9000000000000000000 w
theorem kk9 (g : Nat) (w : World) (hb : w.cell? ⟨g, 0, none⟩ = some (.int .i64 9000000000000000000)) : Calls Tryd.prog 26 #[.int .i64 9000000000000000000, .int .i64 0, .pointer (some ⟨g, 0, none⟩)] w fun e w' => e = .returned (.bool true) ∧ w = w' := says1_any 9000000000000000000 g w hb
theorem kf9 (w : World) (_hP : Pw w) (hE : Er w) : Calls Tryd.prog 12 #[.string ⟨#[57]⟩, .int .i64 18] w fun e w' => e = .returned (.tuple #[.int .i64 9000000000000000000, .int .i64 0]) ∧ Below w.heap.size w w' := by
  have h := parse_any [57] 18 w (by decide) hE
  rw [show pR [57] 18 = (9000000000000000000, 0) from by decide +kernel] at h
  exact h
theorem km10 (w : World) : Calls Tryd.prog 20 #[.int .i64 5] w fun e w' => ∃ g, e = .returned (.func (.func 37) #[] #[.pointer (some ⟨g, 0, none⟩)]) ∧ w'.cell? ⟨g, 0, none⟩ = some (.int .i64 5) ∧ Below w.heap.size w w' := refuses_any 5 w
theorem kk10 (g : Nat) (w : World) (hb : w.cell? ⟨g, 0, none⟩ = some (.int .i64 5)) : Calls Tryd.prog 37 #[.int .i64 0, .int .i64 5, .pointer (some ⟨g, 0, none⟩)] w fun e w' => e = .returned (.bool true) ∧ w = w' := refuses1_any 5 g w hb
theorem kf10 (w : World) (_hP : Pw w) (hE : Er w) : Calls Tryd.prog 12 #[.string ⟨#[]⟩, .int .i64 0] w fun e w' => e = .returned (.tuple #[.int .i64 0, .int .i64 5]) ∧ Below w.heap.size w w' := by
  have h := parse_any [] 0 w (by decide) hE
  rw [show pR [] 0 = (0, 5) from by decide +kernel] at h
  exact h
theorem km11 (w : World) : Calls Tryd.prog 20 #[.int .i64 5] w fun e w' => ∃ g, e = .returned (.func (.func 37) #[] #[.pointer (some ⟨g, 0, none⟩)]) ∧ w'.cell? ⟨g, 0, none⟩ = some (.int .i64 5) ∧ Below w.heap.size w w' := refuses_any 5 w
theorem kk11 (g : Nat) (w : World) (hb : w.cell? ⟨g, 0, none⟩ = some (.int .i64 5)) : Calls Tryd.prog 37 #[.int .i64 0, .int .i64 5, .pointer (some ⟨g, 0, none⟩)] w fun e w' => e = .returned (.bool true) ∧ w = w' := refuses1_any 5 g w hb
theorem kf11 (w : World) (_hP : Pw w) (hE : Er w) : Calls Tryd.prog 12 #[.string ⟨#[45]⟩, .int .i64 0] w fun e w' => e = .returned (.tuple #[.int .i64 0, .int .i64 5]) ∧ Below w.heap.size w w' := by
  have h := parse_any [45] 0 w (by decide) hE
  rw [show pR [45] 0 = (0, 5) from by decide +kernel] at h
  exact h
theorem km12 (w : World) : Calls Tryd.prog 20 #[.int .i64 5] w fun e w' => ∃ g, e = .returned (.func (.func 37) #[] #[.pointer (some ⟨g, 0, none⟩)]) ∧ w'.cell? ⟨g, 0, none⟩ = some (.int .i64 5) ∧ Below w.heap.size w w' := refuses_any 5 w
theorem kk12 (g : Nat) (w : World) (hb : w.cell? ⟨g, 0, none⟩ = some (.int .i64 5)) : Calls Tryd.prog 37 #[.int .i64 0, .int .i64 5, .pointer (some ⟨g, 0, none⟩)] w fun e w' => e = .returned (.bool true) ∧ w = w' := refuses1_any 5 g w hb
theorem kf12 (w : World) (_hP : Pw w) (hE : Er w) : Calls Tryd.prog 12 #[.string ⟨#[49, 46, 53]⟩, .int .i64 0] w fun e w' => e = .returned (.tuple #[.int .i64 0, .int .i64 5]) ∧ Below w.heap.size w w' := by
  have h := parse_any [49, 46, 53] 0 w (by decide) hE
  rw [show pR [49, 46, 53] 0 = (0, 5) from by decide +kernel] at h
  exact h
theorem km13 (w : World) : Calls Tryd.prog 20 #[.int .i64 5] w fun e w' => ∃ g, e = .returned (.func (.func 37) #[] #[.pointer (some ⟨g, 0, none⟩)]) ∧ w'.cell? ⟨g, 0, none⟩ = some (.int .i64 5) ∧ Below w.heap.size w w' := refuses_any 5 w
theorem kk13 (g : Nat) (w : World) (hb : w.cell? ⟨g, 0, none⟩ = some (.int .i64 5)) : Calls Tryd.prog 37 #[.int .i64 0, .int .i64 5, .pointer (some ⟨g, 0, none⟩)] w fun e w' => e = .returned (.bool true) ∧ w = w' := refuses1_any 5 g w hb
theorem kf13 (w : World) (_hP : Pw w) (hE : Er w) : Calls Tryd.prog 12 #[.string ⟨#[48, 46, 48, 48, 48, 48, 48, 48, 48, 48, 48, 48, 48, 48, 48, 48, 48, 48, 48, 48, 49]⟩, .int .i64 18] w fun e w' => e = .returned (.tuple #[.int .i64 0, .int .i64 5]) ∧ Below w.heap.size w w' := by
  have h := parse_any [48, 46, 48, 48, 48, 48, 48, 48, 48, 48, 48, 48, 48, 48, 48, 48, 48, 48, 48, 48, 49] 18 w (by decide) hE
  rw [show pR [48, 46, 48, 48, 48, 48, 48, 48, 48, 48, 48, 48, 48, 48, 48, 48, 48, 48, 48, 48, 49] 18 = (0, 5) from by decide +kernel] at h
  exact h
theorem km14 (w : World) : Calls Tryd.prog 20 #[.int .i64 2] w fun e w' => ∃ g, e = .returned (.func (.func 37) #[] #[.pointer (some ⟨g, 0, none⟩)]) ∧ w'.cell? ⟨g, 0, none⟩ = some (.int .i64 2) ∧ Below w.heap.size w w' := refuses_any 2 w
theorem kk14 (g : Nat) (w : World) (hb : w.cell? ⟨g, 0, none⟩ = some (.int .i64 2)) : Calls Tryd.prog 37 #[.int .i64 0, .int .i64 2, .pointer (some ⟨g, 0, none⟩)] w fun e w' => e = .returned (.bool true) ∧ w = w' := refuses1_any 2 g w hb
theorem kf14 (w : World) (_hP : Pw w) (hE : Er w) : Calls Tryd.prog 12 #[.string ⟨#[]⟩, .int .i64 (-1)] w fun e w' => e = .returned (.tuple #[.int .i64 0, .int .i64 2]) ∧ Below w.heap.size w w' := by
  have h := parse_any [] (-1) w (by decide) hE
  rw [show pR [] (-1) = (0, 2) from by decide +kernel] at h
  exact h
theorem km15 (w : World) : Calls Tryd.prog 20 #[.int .i64 5] w fun e w' => ∃ g, e = .returned (.func (.func 37) #[] #[.pointer (some ⟨g, 0, none⟩)]) ∧ w'.cell? ⟨g, 0, none⟩ = some (.int .i64 5) ∧ Below w.heap.size w w' := refuses_any 5 w
theorem kk15 (g : Nat) (w : World) (hb : w.cell? ⟨g, 0, none⟩ = some (.int .i64 5)) : Calls Tryd.prog 37 #[.int .i64 0, .int .i64 5, .pointer (some ⟨g, 0, none⟩)] w fun e w' => e = .returned (.bool true) ∧ w = w' := refuses1_any 5 g w hb
theorem kf15 (w : World) (_hP : Pw w) (hE : Er w) : Calls Tryd.prog 12 #[.string ⟨#[49, 46, 50, 46, 51]⟩, .int .i64 5] w fun e w' => e = .returned (.tuple #[.int .i64 0, .int .i64 5]) ∧ Below w.heap.size w w' := by
  have h := parse_any [49, 46, 50, 46, 51] 5 w (by decide) hE
  rw [show pR [49, 46, 50, 46, 51] 5 = (0, 5) from by decide +kernel] at h
  exact h
theorem km16 (w : World) : Calls Tryd.prog 20 #[.int .i64 5] w fun e w' => ∃ g, e = .returned (.func (.func 37) #[] #[.pointer (some ⟨g, 0, none⟩)]) ∧ w'.cell? ⟨g, 0, none⟩ = some (.int .i64 5) ∧ Below w.heap.size w w' := refuses_any 5 w
theorem kk16 (g : Nat) (w : World) (hb : w.cell? ⟨g, 0, none⟩ = some (.int .i64 5)) : Calls Tryd.prog 37 #[.int .i64 0, .int .i64 5, .pointer (some ⟨g, 0, none⟩)] w fun e w' => e = .returned (.bool true) ∧ w = w' := refuses1_any 5 g w hb
theorem kf16 (w : World) (_hP : Pw w) (hE : Er w) : Calls Tryd.prog 12 #[.string ⟨#[45, 45, 49]⟩, .int .i64 5] w fun e w' => e = .returned (.tuple #[.int .i64 0, .int .i64 5]) ∧ Below w.heap.size w w' := by
  have h := parse_any [45, 45, 49] 5 w (by decide) hE
  rw [show pR [45, 45, 49] 5 = (0, 5) from by decide +kernel] at h
  exact h
theorem km17 (w : World) : Calls Tryd.prog 20 #[.int .i64 5] w fun e w' => ∃ g, e = .returned (.func (.func 37) #[] #[.pointer (some ⟨g, 0, none⟩)]) ∧ w'.cell? ⟨g, 0, none⟩ = some (.int .i64 5) ∧ Below w.heap.size w w' := refuses_any 5 w
theorem kk17 (g : Nat) (w : World) (hb : w.cell? ⟨g, 0, none⟩ = some (.int .i64 5)) : Calls Tryd.prog 37 #[.int .i64 0, .int .i64 5, .pointer (some ⟨g, 0, none⟩)] w fun e w' => e = .returned (.bool true) ∧ w = w' := refuses1_any 5 g w hb
theorem kf17 (w : World) (_hP : Pw w) (hE : Er w) : Calls Tryd.prog 12 #[.string ⟨#[45, 48, 46, 48]⟩, .int .i64 5] w fun e w' => e = .returned (.tuple #[.int .i64 0, .int .i64 5]) ∧ Below w.heap.size w w' := by
  have h := parse_any [45, 48, 46, 48] 5 w (by decide) hE
  rw [show pR [45, 48, 46, 48] 5 = (0, 5) from by decide +kernel] at h
  exact h
theorem km18 (w : World) : Calls Tryd.prog 20 #[.int .i64 5] w fun e w' => ∃ g, e = .returned (.func (.func 37) #[] #[.pointer (some ⟨g, 0, none⟩)]) ∧ w'.cell? ⟨g, 0, none⟩ = some (.int .i64 5) ∧ Below w.heap.size w w' := refuses_any 5 w
theorem kk18 (g : Nat) (w : World) (hb : w.cell? ⟨g, 0, none⟩ = some (.int .i64 5)) : Calls Tryd.prog 37 #[.int .i64 0, .int .i64 5, .pointer (some ⟨g, 0, none⟩)] w fun e w' => e = .returned (.bool true) ∧ w = w' := refuses1_any 5 g w hb
theorem kf18 (w : World) (_hP : Pw w) (hE : Er w) : Calls Tryd.prog 12 #[.string ⟨#[49, 44, 53]⟩, .int .i64 5] w fun e w' => e = .returned (.tuple #[.int .i64 0, .int .i64 5]) ∧ Below w.heap.size w w' := by
  have h := parse_any [49, 44, 53] 5 w (by decide) hE
  rw [show pR [49, 44, 53] 5 = (0, 5) from by decide +kernel] at h
  exact h
theorem km19 (w : World) : Calls Tryd.prog 20 #[.int .i64 5] w fun e w' => ∃ g, e = .returned (.func (.func 37) #[] #[.pointer (some ⟨g, 0, none⟩)]) ∧ w'.cell? ⟨g, 0, none⟩ = some (.int .i64 5) ∧ Below w.heap.size w w' := refuses_any 5 w
theorem kk19 (g : Nat) (w : World) (hb : w.cell? ⟨g, 0, none⟩ = some (.int .i64 5)) : Calls Tryd.prog 37 #[.int .i64 0, .int .i64 5, .pointer (some ⟨g, 0, none⟩)] w fun e w' => e = .returned (.bool true) ∧ w = w' := refuses1_any 5 g w hb
theorem kf19 (w : World) (_hP : Pw w) (hE : Er w) : Calls Tryd.prog 12 #[.string ⟨#[57, 57, 57, 57, 57, 57, 57, 57, 57, 57, 57, 57, 57, 57, 57, 57, 57, 57, 57, 57, 120]⟩, .int .i64 5] w fun e w' => e = .returned (.tuple #[.int .i64 0, .int .i64 5]) ∧ Below w.heap.size w w' := by
  have h := parse_any [57, 57, 57, 57, 57, 57, 57, 57, 57, 57, 57, 57, 57, 57, 57, 57, 57, 57, 57, 57, 120] 5 w (by decide) hE
  rw [show pR [57, 57, 57, 57, 57, 57, 57, 57, 57, 57, 57, 57, 57, 57, 57, 57, 57, 57, 57, 57, 120] 5 = (0, 5) from by decide +kernel] at h
  exact h
theorem km20 (w : World) : Calls Tryd.prog 20 #[.int .i64 5] w fun e w' => ∃ g, e = .returned (.func (.func 37) #[] #[.pointer (some ⟨g, 0, none⟩)]) ∧ w'.cell? ⟨g, 0, none⟩ = some (.int .i64 5) ∧ Below w.heap.size w w' := refuses_any 5 w
theorem kk20 (g : Nat) (w : World) (hb : w.cell? ⟨g, 0, none⟩ = some (.int .i64 5)) : Calls Tryd.prog 37 #[.int .i64 0, .int .i64 5, .pointer (some ⟨g, 0, none⟩)] w fun e w' => e = .returned (.bool true) ∧ w = w' := refuses1_any 5 g w hb
theorem kf20 (w : World) (_hP : Pw w) (hE : Er w) : Calls Tryd.prog 12 #[.string ⟨#[49, 255]⟩, .int .i64 5] w fun e w' => e = .returned (.tuple #[.int .i64 0, .int .i64 5]) ∧ Below w.heap.size w w' := by
  have h := parse_any [49, 255] 5 w (by decide) hE
  rw [show pR [49, 255] 5 = (0, 5) from by decide +kernel] at h
  exact h
theorem km21 (w : World) : Calls Tryd.prog 20 #[.int .i64 5] w fun e w' => ∃ g, e = .returned (.func (.func 37) #[] #[.pointer (some ⟨g, 0, none⟩)]) ∧ w'.cell? ⟨g, 0, none⟩ = some (.int .i64 5) ∧ Below w.heap.size w w' := refuses_any 5 w
theorem kk21 (g : Nat) (w : World) (hb : w.cell? ⟨g, 0, none⟩ = some (.int .i64 5)) : Calls Tryd.prog 37 #[.int .i64 0, .int .i64 5, .pointer (some ⟨g, 0, none⟩)] w fun e w' => e = .returned (.bool true) ∧ w = w' := refuses1_any 5 g w hb
theorem kf21 (w : World) (_hP : Pw w) (hE : Er w) : Calls Tryd.prog 12 #[.string ⟨#[45, 46, 53]⟩, .int .i64 5] w fun e w' => e = .returned (.tuple #[.int .i64 0, .int .i64 5]) ∧ Below w.heap.size w w' := by
  have h := parse_any [45, 46, 53] 5 w (by decide) hE
  rw [show pR [45, 46, 53] 5 = (0, 5) from by decide +kernel] at h
  exact h
theorem km22 (w : World) : Calls Tryd.prog 13 #[.string ⟨#[49, 48, 52, 56, 53, 55, 54]⟩] w fun e w' => ∃ g, e = .returned (.func (.func 30) #[] #[.pointer (some ⟨g, 0, none⟩)]) ∧ w'.cell? ⟨g, 0, none⟩ = some (.string ⟨#[49, 48, 52, 56, 53, 55, 54]⟩) ∧ Below w.heap.size w w' := is_any [49, 48, 52, 56, 53, 55, 54] w
theorem kk22 (g : Nat) (w : World) (hb : w.cell? ⟨g, 0, none⟩ = some (.string ⟨#[49, 48, 52, 56, 53, 55, 54]⟩)) : Calls Tryd.prog 30 #[.string ⟨#[49, 48, 52, 56, 53, 55, 54]⟩, .int .i64 0, .pointer (some ⟨g, 0, none⟩)] w fun e w' => e = .returned (.bool true) ∧ w = w' := is1_any [49, 48, 52, 56, 53, 55, 54] g w hb
theorem kf22 (w : World) (hP : Pw w) (_hE : Er w) : Calls Tryd.prog 16 #[.int .i64 4503599627370496, .int .i64 12, .bool false] w fun e w' => e = .returned (.tuple #[.string ⟨#[49, 48, 52, 56, 53, 55, 54]⟩, .int .i64 0]) ∧ Below w.heap.size w w' := by
  have h := fixed_in 4503599627370496 12 false w (by omega) (by omega) (by omega) hP
  rw [show txt (fxN false 4503599627370496 ((10 ^ 12 : Nat) : Int)) 12 = [49, 48, 52, 56, 53, 55, 54] from by rw [txt_N _ _ (by decide +kernel)]; decide +kernel] at h
  exact h
theorem km23 (w : World) : Calls Tryd.prog 13 #[.string ⟨#[45, 49, 48, 52, 56, 53, 55, 54]⟩] w fun e w' => ∃ g, e = .returned (.func (.func 30) #[] #[.pointer (some ⟨g, 0, none⟩)]) ∧ w'.cell? ⟨g, 0, none⟩ = some (.string ⟨#[45, 49, 48, 52, 56, 53, 55, 54]⟩) ∧ Below w.heap.size w w' := is_any [45, 49, 48, 52, 56, 53, 55, 54] w
theorem kk23 (g : Nat) (w : World) (hb : w.cell? ⟨g, 0, none⟩ = some (.string ⟨#[45, 49, 48, 52, 56, 53, 55, 54]⟩)) : Calls Tryd.prog 30 #[.string ⟨#[45, 49, 48, 52, 56, 53, 55, 54]⟩, .int .i64 0, .pointer (some ⟨g, 0, none⟩)] w fun e w' => e = .returned (.bool true) ∧ w = w' := is1_any [45, 49, 48, 52, 56, 53, 55, 54] g w hb
theorem kf23 (w : World) (hP : Pw w) (_hE : Er w) : Calls Tryd.prog 16 #[.int .i64 (-4503599627370496), .int .i64 0, .bool true] w fun e w' => e = .returned (.tuple #[.string ⟨#[45, 49, 48, 52, 56, 53, 55, 54]⟩, .int .i64 0]) ∧ Below w.heap.size w w' := by
  have h := fixed_in (-4503599627370496) 0 true w (by omega) (by omega) (by omega) hP
  rw [show txt (fxN true (-4503599627370496) ((10 ^ 0 : Nat) : Int)) 0 = [45, 49, 48, 52, 56, 53, 55, 54] from by rw [txt_N _ _ (by decide +kernel)]; decide +kernel] at h
  exact h
theorem km24 (w : World) : Calls Tryd.prog 13 #[.string ⟨#[48, 46, 48, 48, 48, 48, 48, 48, 48, 48, 48, 50, 51, 50]⟩] w fun e w' => ∃ g, e = .returned (.func (.func 30) #[] #[.pointer (some ⟨g, 0, none⟩)]) ∧ w'.cell? ⟨g, 0, none⟩ = some (.string ⟨#[48, 46, 48, 48, 48, 48, 48, 48, 48, 48, 48, 50, 51, 50]⟩) ∧ Below w.heap.size w w' := is_any [48, 46, 48, 48, 48, 48, 48, 48, 48, 48, 48, 50, 51, 50] w
theorem kk24 (g : Nat) (w : World) (hb : w.cell? ⟨g, 0, none⟩ = some (.string ⟨#[48, 46, 48, 48, 48, 48, 48, 48, 48, 48, 48, 50, 51, 50]⟩)) : Calls Tryd.prog 30 #[.string ⟨#[48, 46, 48, 48, 48, 48, 48, 48, 48, 48, 48, 50, 51, 50]⟩, .int .i64 0, .pointer (some ⟨g, 0, none⟩)] w fun e w' => e = .returned (.bool true) ∧ w = w' := is1_any [48, 46, 48, 48, 48, 48, 48, 48, 48, 48, 48, 50, 51, 50] g w hb
theorem kf24 (w : World) (hP : Pw w) (_hE : Er w) : Calls Tryd.prog 16 #[.int .i64 1, .int .i64 12, .bool false] w fun e w' => e = .returned (.tuple #[.string ⟨#[48, 46, 48, 48, 48, 48, 48, 48, 48, 48, 48, 50, 51, 50]⟩, .int .i64 0]) ∧ Below w.heap.size w w' := by
  have h := fixed_in 1 12 false w (by omega) (by omega) (by omega) hP
  rw [show txt (fxN false 1 ((10 ^ 12 : Nat) : Int)) 12 = [48, 46, 48, 48, 48, 48, 48, 48, 48, 48, 48, 50, 51, 50] from by rw [txt_N _ _ (by decide +kernel)]; decide +kernel] at h
  exact h
theorem km25 (w : World) : Calls Tryd.prog 13 #[.string ⟨#[48, 46, 48, 48, 48, 48, 48, 48, 48, 48, 48, 50, 51, 51]⟩] w fun e w' => ∃ g, e = .returned (.func (.func 30) #[] #[.pointer (some ⟨g, 0, none⟩)]) ∧ w'.cell? ⟨g, 0, none⟩ = some (.string ⟨#[48, 46, 48, 48, 48, 48, 48, 48, 48, 48, 48, 50, 51, 51]⟩) ∧ Below w.heap.size w w' := is_any [48, 46, 48, 48, 48, 48, 48, 48, 48, 48, 48, 50, 51, 51] w
theorem kk25 (g : Nat) (w : World) (hb : w.cell? ⟨g, 0, none⟩ = some (.string ⟨#[48, 46, 48, 48, 48, 48, 48, 48, 48, 48, 48, 50, 51, 51]⟩)) : Calls Tryd.prog 30 #[.string ⟨#[48, 46, 48, 48, 48, 48, 48, 48, 48, 48, 48, 50, 51, 51]⟩, .int .i64 0, .pointer (some ⟨g, 0, none⟩)] w fun e w' => e = .returned (.bool true) ∧ w = w' := is1_any [48, 46, 48, 48, 48, 48, 48, 48, 48, 48, 48, 50, 51, 51] g w hb
theorem kf25 (w : World) (hP : Pw w) (_hE : Er w) : Calls Tryd.prog 16 #[.int .i64 1, .int .i64 12, .bool true] w fun e w' => e = .returned (.tuple #[.string ⟨#[48, 46, 48, 48, 48, 48, 48, 48, 48, 48, 48, 50, 51, 51]⟩, .int .i64 0]) ∧ Below w.heap.size w w' := by
  have h := fixed_in 1 12 true w (by omega) (by omega) (by omega) hP
  rw [show txt (fxN true 1 ((10 ^ 12 : Nat) : Int)) 12 = [48, 46, 48, 48, 48, 48, 48, 48, 48, 48, 48, 50, 51, 51] from by rw [txt_N _ _ (by decide +kernel)]; decide +kernel] at h
  exact h
theorem km26 (w : World) : Calls Tryd.prog 19 #[.int .i64 2] w fun e w' => ∃ g, e = .returned (.func (.func 36) #[] #[.pointer (some ⟨g, 0, none⟩)]) ∧ w'.cell? ⟨g, 0, none⟩ = some (.int .i64 2) ∧ Below w.heap.size w w' := fails_any 2 w
theorem kk26 (g : Nat) (w : World) (hb : w.cell? ⟨g, 0, none⟩ = some (.int .i64 2)) : Calls Tryd.prog 36 #[.string ⟨#[]⟩, .int .i64 2, .pointer (some ⟨g, 0, none⟩)] w fun e w' => e = .returned (.bool true) ∧ w = w' := fails1_any 2 g w hb
theorem kf26 (w : World) (_hP : Pw w) (_hE : Er w) : Calls Tryd.prog 16 #[.int .i64 4503599627370497, .int .i64 0, .bool true] w fun e w' => e = .returned (.tuple #[.string ⟨#[]⟩, .int .i64 2]) ∧ Below w.heap.size w w' := fixed_no 4503599627370497 0 true w (by decide)
theorem km27 (w : World) : Calls Tryd.prog 19 #[.int .i64 2] w fun e w' => ∃ g, e = .returned (.func (.func 36) #[] #[.pointer (some ⟨g, 0, none⟩)]) ∧ w'.cell? ⟨g, 0, none⟩ = some (.int .i64 2) ∧ Below w.heap.size w w' := fails_any 2 w
theorem kk27 (g : Nat) (w : World) (hb : w.cell? ⟨g, 0, none⟩ = some (.int .i64 2)) : Calls Tryd.prog 36 #[.string ⟨#[]⟩, .int .i64 2, .pointer (some ⟨g, 0, none⟩)] w fun e w' => e = .returned (.bool true) ∧ w = w' := fails1_any 2 g w hb
theorem kf27 (w : World) (_hP : Pw w) (_hE : Er w) : Calls Tryd.prog 16 #[.int .i64 0, .int .i64 13, .bool true] w fun e w' => e = .returned (.tuple #[.string ⟨#[]⟩, .int .i64 2]) ∧ Below w.heap.size w w' := fixed_no 0 13 true w (by decide)
theorem km28 (w : World) : Calls Tryd.prog 19 #[.int .i64 2] w fun e w' => ∃ g, e = .returned (.func (.func 36) #[] #[.pointer (some ⟨g, 0, none⟩)]) ∧ w'.cell? ⟨g, 0, none⟩ = some (.int .i64 2) ∧ Below w.heap.size w w' := fails_any 2 w
theorem kk28 (g : Nat) (w : World) (hb : w.cell? ⟨g, 0, none⟩ = some (.int .i64 2)) : Calls Tryd.prog 36 #[.string ⟨#[]⟩, .int .i64 2, .pointer (some ⟨g, 0, none⟩)] w fun e w' => e = .returned (.bool true) ∧ w = w' := fails1_any 2 g w hb
theorem kf28 (w : World) (_hP : Pw w) (_hE : Er w) : Calls Tryd.prog 16 #[.int .i64 0, .int .i64 (-1), .bool true] w fun e w' => e = .returned (.tuple #[.string ⟨#[]⟩, .int .i64 2]) ∧ Below w.heap.size w w' := fixed_no 0 (-1) true w (by decide)
theorem km29 (w : World) : Calls Tryd.prog 13 #[.string ⟨#[48]⟩] w fun e w' => ∃ g, e = .returned (.func (.func 30) #[] #[.pointer (some ⟨g, 0, none⟩)]) ∧ w'.cell? ⟨g, 0, none⟩ = some (.string ⟨#[48]⟩) ∧ Below w.heap.size w w' := is_any [48] w
theorem kk29 (g : Nat) (w : World) (hb : w.cell? ⟨g, 0, none⟩ = some (.string ⟨#[48]⟩)) : Calls Tryd.prog 30 #[.string ⟨#[48]⟩, .int .i64 0, .pointer (some ⟨g, 0, none⟩)] w fun e w' => e = .returned (.bool true) ∧ w = w' := is1_any [48] g w hb
theorem kf29 (w : World) (hP : Pw w) (_hE : Er w) : Calls Tryd.prog 16 #[.int .i64 (-1), .int .i64 3, .bool true] w fun e w' => e = .returned (.tuple #[.string ⟨#[48]⟩, .int .i64 0]) ∧ Below w.heap.size w w' := by
  have h := fixed_in (-1) 3 true w (by omega) (by omega) (by omega) hP
  rw [show txt (fxN true (-1) ((10 ^ 3 : Nat) : Int)) 3 = [48] from by rw [txt_N _ _ (by decide +kernel)]; decide +kernel] at h
  exact h
theorem km30 (w : World) : Calls Tryd.prog 13 #[.string ⟨#[45, 49]⟩] w fun e w' => ∃ g, e = .returned (.func (.func 30) #[] #[.pointer (some ⟨g, 0, none⟩)]) ∧ w'.cell? ⟨g, 0, none⟩ = some (.string ⟨#[45, 49]⟩) ∧ Below w.heap.size w w' := is_any [45, 49] w
theorem kk30 (g : Nat) (w : World) (hb : w.cell? ⟨g, 0, none⟩ = some (.string ⟨#[45, 49]⟩)) : Calls Tryd.prog 30 #[.string ⟨#[45, 49]⟩, .int .i64 0, .pointer (some ⟨g, 0, none⟩)] w fun e w' => e = .returned (.bool true) ∧ w = w' := is1_any [45, 49] g w hb
theorem kf30 (w : World) (hP : Pw w) (_hE : Er w) : Calls Tryd.prog 16 #[.int .i64 (-1), .int .i64 0, .bool false] w fun e w' => e = .returned (.tuple #[.string ⟨#[45, 49]⟩, .int .i64 0]) ∧ Below w.heap.size w w' := by
  have h := fixed_in (-1) 0 false w (by omega) (by omega) (by omega) hP
  rw [show txt (fxN false (-1) ((10 ^ 0 : Nat) : Int)) 0 = [45, 49] from by rw [txt_N _ _ (by decide +kernel)]; decide +kernel] at h
  exact h
theorem km31 (w : World) : Calls Tryd.prog 19 #[.int .i64 20] w fun e w' => ∃ g, e = .returned (.func (.func 36) #[] #[.pointer (some ⟨g, 0, none⟩)]) ∧ w'.cell? ⟨g, 0, none⟩ = some (.int .i64 20) ∧ Below w.heap.size w w' := fails_any 20 w
theorem kk31 (g : Nat) (w : World) (hb : w.cell? ⟨g, 0, none⟩ = some (.int .i64 20)) : Calls Tryd.prog 36 #[.string ⟨#[]⟩, .int .i64 20, .pointer (some ⟨g, 0, none⟩)] w fun e w' => e = .returned (.bool true) ∧ w = w' := fails1_any 20 g w hb
theorem kf31 (w : World) (_hP : Pw w) (_hE : Er w) : Calls Tryd.prog 18 #[.agg #[.int .i64 1, .int .i64 0], .int .i64 13] w fun e w' => e = .returned (.tuple #[.string ⟨#[]⟩, .int .i64 20]) ∧ Below w.heap.size w w' := both_no 1 0 13 w (by decide)
theorem km32 (w : World) : Calls Tryd.prog 19 #[.int .i64 2] w fun e w' => ∃ g, e = .returned (.func (.func 36) #[] #[.pointer (some ⟨g, 0, none⟩)]) ∧ w'.cell? ⟨g, 0, none⟩ = some (.int .i64 2) ∧ Below w.heap.size w w' := fails_any 2 w
theorem kk32 (g : Nat) (w : World) (hb : w.cell? ⟨g, 0, none⟩ = some (.int .i64 2)) : Calls Tryd.prog 36 #[.string ⟨#[]⟩, .int .i64 2, .pointer (some ⟨g, 0, none⟩)] w fun e w' => e = .returned (.bool true) ∧ w = w' := fails1_any 2 g w hb
theorem kf32 (w : World) (_hP : Pw w) (_hE : Er w) : Calls Tryd.prog 18 #[.agg #[.int .i64 0, .int .i64 0], .int .i64 13] w fun e w' => e = .returned (.tuple #[.string ⟨#[]⟩, .int .i64 2]) ∧ Below w.heap.size w w' := both_bad 0 0 13 w (by decide) (by omega)
theorem km33 (w : World) : Calls Tryd.prog 13 #[.string ⟨#[91, 48, 44, 32, 48, 93]⟩] w fun e w' => ∃ g, e = .returned (.func (.func 30) #[] #[.pointer (some ⟨g, 0, none⟩)]) ∧ w'.cell? ⟨g, 0, none⟩ = some (.string ⟨#[91, 48, 44, 32, 48, 93]⟩) ∧ Below w.heap.size w w' := is_any [91, 48, 44, 32, 48, 93] w
theorem kk33 (g : Nat) (w : World) (hb : w.cell? ⟨g, 0, none⟩ = some (.string ⟨#[91, 48, 44, 32, 48, 93]⟩)) : Calls Tryd.prog 30 #[.string ⟨#[91, 48, 44, 32, 48, 93]⟩, .int .i64 0, .pointer (some ⟨g, 0, none⟩)] w fun e w' => e = .returned (.bool true) ∧ w = w' := is1_any [91, 48, 44, 32, 48, 93] g w hb
theorem kf33 (w : World) (hP : Pw w) (_hE : Er w) : Calls Tryd.prog 18 #[.agg #[.int .i64 0, .int .i64 0], .int .i64 12] w fun e w' => e = .returned (.tuple #[.string ⟨#[91, 48, 44, 32, 48, 93]⟩, .int .i64 0]) ∧ Below w.heap.size w w' := by
  have h := both_in 0 0 12 w (by decide) (by omega) hP
  rw [show ([91] ++ txt (fxN false 0 ((10 ^ 12 : Nat) : Int)) 12 ++ [44, 32] ++ txt (fxN true 0 ((10 ^ 12 : Nat) : Int)) 12 ++ [93]) = [91, 48, 44, 32, 48, 93] from by rw [txt_N _ _ (by decide +kernel), txt_N _ _ (by decide +kernel)]; decide +kernel] at h
  exact h
theorem km34 (w : World) : Calls Tryd.prog 13 #[.string ⟨#[91, 45, 49, 48, 52, 56, 53, 55, 54, 44, 32, 49, 48, 52, 56, 53, 55, 54, 93]⟩] w fun e w' => ∃ g, e = .returned (.func (.func 30) #[] #[.pointer (some ⟨g, 0, none⟩)]) ∧ w'.cell? ⟨g, 0, none⟩ = some (.string ⟨#[91, 45, 49, 48, 52, 56, 53, 55, 54, 44, 32, 49, 48, 52, 56, 53, 55, 54, 93]⟩) ∧ Below w.heap.size w w' := is_any [91, 45, 49, 48, 52, 56, 53, 55, 54, 44, 32, 49, 48, 52, 56, 53, 55, 54, 93] w
theorem kk34 (g : Nat) (w : World) (hb : w.cell? ⟨g, 0, none⟩ = some (.string ⟨#[91, 45, 49, 48, 52, 56, 53, 55, 54, 44, 32, 49, 48, 52, 56, 53, 55, 54, 93]⟩)) : Calls Tryd.prog 30 #[.string ⟨#[91, 45, 49, 48, 52, 56, 53, 55, 54, 44, 32, 49, 48, 52, 56, 53, 55, 54, 93]⟩, .int .i64 0, .pointer (some ⟨g, 0, none⟩)] w fun e w' => e = .returned (.bool true) ∧ w = w' := is1_any [91, 45, 49, 48, 52, 56, 53, 55, 54, 44, 32, 49, 48, 52, 56, 53, 55, 54, 93] g w hb
theorem kf34 (w : World) (hP : Pw w) (_hE : Er w) : Calls Tryd.prog 18 #[.agg #[.int .i64 (-4503599627370496), .int .i64 4503599627370496], .int .i64 0] w fun e w' => e = .returned (.tuple #[.string ⟨#[91, 45, 49, 48, 52, 56, 53, 55, 54, 44, 32, 49, 48, 52, 56, 53, 55, 54, 93]⟩, .int .i64 0]) ∧ Below w.heap.size w w' := by
  have h := both_in (-4503599627370496) 4503599627370496 0 w (by decide) (by omega) hP
  rw [show ([91] ++ txt (fxN false (-4503599627370496) ((10 ^ 0 : Nat) : Int)) 0 ++ [44, 32] ++ txt (fxN true 4503599627370496 ((10 ^ 0 : Nat) : Int)) 0 ++ [93]) = [91, 45, 49, 48, 52, 56, 53, 55, 54, 44, 32, 49, 48, 52, 56, 53, 55, 54, 93] from by rw [txt_N _ _ (by decide +kernel), txt_N _ _ (by decide +kernel)]; decide +kernel] at h
  exact h
set_option maxRecDepth 100000 in
set_option maxHeartbeats 16000000 in
theorem decKnown_true (w : World) (hP : Pw w) (hE : Er w) : Calls Tryd.prog 6 #[] w fun e w' => e = .returned (.bool true) ∧ Below w.heap.size w w' := by
  have hB := Below.refl w.heap.size w
  go_enter Tryd.func6, Tryd.ntmps6
  go_wp2_with fail
  go_at_call 7
  refine (works_true _ hP hE).mono ?_
  rintro e uw1 ⟨rfl, hb⟩
  replace hB := belowVia hB hb
  replace hP := hP.keep hb
  replace hE := hE.keep hb
  clear hb
  go_wp2_with fail
  go_at_call 13
  (with_reducible refine (km1 _).mono ?_)
  rintro e ua1 ⟨g1, rfl, hc, hb⟩
  replace hB := belowVia hB hb
  replace hP := hP.keep hb
  replace hE := hE.keep hb
  clear hb
  go_wp2_with fail
  go_at_call 9
  (with_reducible refine (kf1 _ hP hE).mono ?_)
  rintro e ub1 ⟨rfl, hb⟩
  replace hc := dkeep hb hc
  replace hB := belowVia hB hb
  replace hP := hP.keep hb
  replace hE := hE.keep hb
  clear hb
  go_wp2_with fail
  go_at_call 30
  (with_reducible refine (kk1 _ _ hc).mono ?_)
  rintro e uc1 ⟨rfl, rfl⟩
  clear hc
  go_wp2_with fail
  go_at_call 13
  (with_reducible refine (km2 _).mono ?_)
  rintro e ua2 ⟨g2, rfl, hc, hb⟩
  replace hB := belowVia hB hb
  replace hP := hP.keep hb
  replace hE := hE.keep hb
  clear hb
  go_wp2_with fail
  go_at_call 9
  (with_reducible refine (kf2 _ hP hE).mono ?_)
  rintro e ub2 ⟨rfl, hb⟩
  replace hc := dkeep hb hc
  replace hB := belowVia hB hb
  replace hP := hP.keep hb
  replace hE := hE.keep hb
  clear hb
  go_wp2_with fail
  go_at_call 30
  (with_reducible refine (kk2 _ _ hc).mono ?_)
  rintro e uc2 ⟨rfl, rfl⟩
  clear hc
  go_wp2_with fail
  go_at_call 13
  (with_reducible refine (km3 _).mono ?_)
  rintro e ua3 ⟨g3, rfl, hc, hb⟩
  replace hB := belowVia hB hb
  replace hP := hP.keep hb
  replace hE := hE.keep hb
  clear hb
  go_wp2_with fail
  go_at_call 9
  (with_reducible refine (kf3 _ hP hE).mono ?_)
  rintro e ub3 ⟨rfl, hb⟩
  replace hc := dkeep hb hc
  replace hB := belowVia hB hb
  replace hP := hP.keep hb
  replace hE := hE.keep hb
  clear hb
  go_wp2_with fail
  go_at_call 30
  (with_reducible refine (kk3 _ _ hc).mono ?_)
  rintro e uc3 ⟨rfl, rfl⟩
  clear hc
  go_wp2_with fail
  go_at_call 13
  (with_reducible refine (km4 _).mono ?_)
  rintro e ua4 ⟨g4, rfl, hc, hb⟩
  replace hB := belowVia hB hb
  replace hP := hP.keep hb
  replace hE := hE.keep hb
  clear hb
  go_wp2_with fail
  go_at_call 9
  (with_reducible refine (kf4 _ hP hE).mono ?_)
  rintro e ub4 ⟨rfl, hb⟩
  replace hc := dkeep hb hc
  replace hB := belowVia hB hb
  replace hP := hP.keep hb
  replace hE := hE.keep hb
  clear hb
  go_wp2_with fail
  go_at_call 30
  (with_reducible refine (kk4 _ _ hc).mono ?_)
  rintro e uc4 ⟨rfl, rfl⟩
  clear hc
  go_wp2_with fail
  go_at_call 19
  (with_reducible refine (km5 _).mono ?_)
  rintro e ua5 ⟨g5, rfl, hc, hb⟩
  replace hB := belowVia hB hb
  replace hP := hP.keep hb
  replace hE := hE.keep hb
  clear hb
  go_wp2_with fail
  go_at_call 9
  (with_reducible refine (kf5 _ hP hE).mono ?_)
  rintro e ub5 ⟨rfl, hb⟩
  replace hc := dkeep hb hc
  replace hB := belowVia hB hb
  replace hP := hP.keep hb
  replace hE := hE.keep hb
  clear hb
  go_wp2_with fail
  go_at_call 36
  (with_reducible refine (kk5 _ _ hc).mono ?_)
  rintro e uc5 ⟨rfl, rfl⟩
  clear hc
  go_wp2_with fail
  go_at_call 11
  (with_reducible refine (km6 _).mono ?_)
  rintro e ua6 ⟨g6, rfl, hc, hb⟩
  replace hB := belowVia hB hb
  replace hP := hP.keep hb
  replace hE := hE.keep hb
  clear hb
  go_wp2_with fail
  go_at_call 12
  (with_reducible refine (kf6 _ hP hE).mono ?_)
  rintro e ub6 ⟨rfl, hb⟩
  replace hc := dkeep hb hc
  replace hB := belowVia hB hb
  replace hP := hP.keep hb
  replace hE := hE.keep hb
  clear hb
  go_wp2_with fail
  go_at_call 26
  (with_reducible refine (kk6 _ _ hc).mono ?_)
  rintro e uc6 ⟨rfl, rfl⟩
  clear hc
  go_wp2_with fail
  go_at_call 20
  (with_reducible refine (km7 _).mono ?_)
  rintro e ua7 ⟨g7, rfl, hc, hb⟩
  replace hB := belowVia hB hb
  replace hP := hP.keep hb
  replace hE := hE.keep hb
  clear hb
  go_wp2_with fail
  go_at_call 12
  (with_reducible refine (kf7 _ hP hE).mono ?_)
  rintro e ub7 ⟨rfl, hb⟩
  replace hc := dkeep hb hc
  replace hB := belowVia hB hb
  replace hP := hP.keep hb
  replace hE := hE.keep hb
  clear hb
  go_wp2_with fail
  go_at_call 37
  (with_reducible refine (kk7 _ _ hc).mono ?_)
  rintro e uc7 ⟨rfl, rfl⟩
  clear hc
  go_wp2_with fail
  go_at_call 20
  (with_reducible refine (km8 _).mono ?_)
  rintro e ua8 ⟨g8, rfl, hc, hb⟩
  replace hB := belowVia hB hb
  replace hP := hP.keep hb
  replace hE := hE.keep hb
  clear hb
  go_wp2_with fail
  go_at_call 12
  (with_reducible refine (kf8 _ hP hE).mono ?_)
  rintro e ub8 ⟨rfl, hb⟩
  replace hc := dkeep hb hc
  replace hB := belowVia hB hb
  replace hP := hP.keep hb
  replace hE := hE.keep hb
  clear hb
  go_wp2_with fail
  go_at_call 37
  (with_reducible refine (kk8 _ _ hc).mono ?_)
  rintro e uc8 ⟨rfl, rfl⟩
  clear hc
  go_wp2_with fail
  go_at_call 11
  (with_reducible refine (km9 _).mono ?_)
  rintro e ua9 ⟨g9, rfl, hc, hb⟩
  replace hB := belowVia hB hb
  replace hP := hP.keep hb
  replace hE := hE.keep hb
  clear hb
  go_wp2_with fail
  go_at_call 12
  (with_reducible refine (kf9 _ hP hE).mono ?_)
  rintro e ub9 ⟨rfl, hb⟩
  replace hc := dkeep hb hc
  replace hB := belowVia hB hb
  replace hP := hP.keep hb
  replace hE := hE.keep hb
  clear hb
  go_wp2_with fail
  go_at_call 26
  (with_reducible refine (kk9 _ _ hc).mono ?_)
  rintro e uc9 ⟨rfl, rfl⟩
  clear hc
  go_upto_region 4 with fail
  dsimp only [List.append]
  go_wp2_with fail
  go_at_call 20
  (with_reducible refine (km10 _).mono ?_)
  rintro e ua10 ⟨g10, rfl, hc, hb⟩
  replace hB := belowVia hB hb
  replace hP := hP.keep hb
  replace hE := hE.keep hb
  clear hb
  go_wp2_with fail
  go_at_call 12
  (with_reducible refine (kf10 _ hP hE).mono ?_)
  rintro e ub10 ⟨rfl, hb⟩
  replace hc := dkeep hb hc
  replace hB := belowVia hB hb
  replace hP := hP.keep hb
  replace hE := hE.keep hb
  clear hb
  go_wp2_with fail
  go_at_call 37
  (with_reducible refine (kk10 _ _ hc).mono ?_)
  rintro e uc10 ⟨rfl, rfl⟩
  clear hc
  go_wp2_with fail
  go_at_call 20
  (with_reducible refine (km11 _).mono ?_)
  rintro e ua11 ⟨g11, rfl, hc, hb⟩
  replace hB := belowVia hB hb
  replace hP := hP.keep hb
  replace hE := hE.keep hb
  clear hb
  go_wp2_with fail
  go_at_call 12
  (with_reducible refine (kf11 _ hP hE).mono ?_)
  rintro e ub11 ⟨rfl, hb⟩
  replace hc := dkeep hb hc
  replace hB := belowVia hB hb
  replace hP := hP.keep hb
  replace hE := hE.keep hb
  clear hb
  go_wp2_with fail
  go_at_call 37
  (with_reducible refine (kk11 _ _ hc).mono ?_)
  rintro e uc11 ⟨rfl, rfl⟩
  clear hc
  go_wp2_with fail
  go_at_call 20
  (with_reducible refine (km12 _).mono ?_)
  rintro e ua12 ⟨g12, rfl, hc, hb⟩
  replace hB := belowVia hB hb
  replace hP := hP.keep hb
  replace hE := hE.keep hb
  clear hb
  go_wp2_with fail
  go_at_call 12
  (with_reducible refine (kf12 _ hP hE).mono ?_)
  rintro e ub12 ⟨rfl, hb⟩
  replace hc := dkeep hb hc
  replace hB := belowVia hB hb
  replace hP := hP.keep hb
  replace hE := hE.keep hb
  clear hb
  go_wp2_with fail
  go_at_call 37
  (with_reducible refine (kk12 _ _ hc).mono ?_)
  rintro e uc12 ⟨rfl, rfl⟩
  clear hc
  go_wp2_with fail
  go_at_call 20
  (with_reducible refine (km13 _).mono ?_)
  rintro e ua13 ⟨g13, rfl, hc, hb⟩
  replace hB := belowVia hB hb
  replace hP := hP.keep hb
  replace hE := hE.keep hb
  clear hb
  go_wp2_with fail
  go_at_call 12
  (with_reducible refine (kf13 _ hP hE).mono ?_)
  rintro e ub13 ⟨rfl, hb⟩
  replace hc := dkeep hb hc
  replace hB := belowVia hB hb
  replace hP := hP.keep hb
  replace hE := hE.keep hb
  clear hb
  go_wp2_with fail
  go_at_call 37
  (with_reducible refine (kk13 _ _ hc).mono ?_)
  rintro e uc13 ⟨rfl, rfl⟩
  clear hc
  go_wp2_with fail
  go_at_call 20
  (with_reducible refine (km14 _).mono ?_)
  rintro e ua14 ⟨g14, rfl, hc, hb⟩
  replace hB := belowVia hB hb
  replace hP := hP.keep hb
  replace hE := hE.keep hb
  clear hb
  go_wp2_with fail
  go_at_call 12
  (with_reducible refine (kf14 _ hP hE).mono ?_)
  rintro e ub14 ⟨rfl, hb⟩
  replace hc := dkeep hb hc
  replace hB := belowVia hB hb
  replace hP := hP.keep hb
  replace hE := hE.keep hb
  clear hb
  go_wp2_with fail
  go_at_call 37
  (with_reducible refine (kk14 _ _ hc).mono ?_)
  rintro e uc14 ⟨rfl, rfl⟩
  clear hc
  go_wp2_with fail
  go_at_call 20
  (with_reducible refine (km15 _).mono ?_)
  rintro e ua15 ⟨g15, rfl, hc, hb⟩
  replace hB := belowVia hB hb
  replace hP := hP.keep hb
  replace hE := hE.keep hb
  clear hb
  go_wp2_with fail
  go_at_call 12
  (with_reducible refine (kf15 _ hP hE).mono ?_)
  rintro e ub15 ⟨rfl, hb⟩
  replace hc := dkeep hb hc
  replace hB := belowVia hB hb
  replace hP := hP.keep hb
  replace hE := hE.keep hb
  clear hb
  go_wp2_with fail
  go_at_call 37
  (with_reducible refine (kk15 _ _ hc).mono ?_)
  rintro e uc15 ⟨rfl, rfl⟩
  clear hc
  go_wp2_with fail
  go_at_call 20
  (with_reducible refine (km16 _).mono ?_)
  rintro e ua16 ⟨g16, rfl, hc, hb⟩
  replace hB := belowVia hB hb
  replace hP := hP.keep hb
  replace hE := hE.keep hb
  clear hb
  go_wp2_with fail
  go_at_call 12
  (with_reducible refine (kf16 _ hP hE).mono ?_)
  rintro e ub16 ⟨rfl, hb⟩
  replace hc := dkeep hb hc
  replace hB := belowVia hB hb
  replace hP := hP.keep hb
  replace hE := hE.keep hb
  clear hb
  go_wp2_with fail
  go_at_call 37
  (with_reducible refine (kk16 _ _ hc).mono ?_)
  rintro e uc16 ⟨rfl, rfl⟩
  clear hc
  go_wp2_with fail
  go_at_call 20
  (with_reducible refine (km17 _).mono ?_)
  rintro e ua17 ⟨g17, rfl, hc, hb⟩
  replace hB := belowVia hB hb
  replace hP := hP.keep hb
  replace hE := hE.keep hb
  clear hb
  go_wp2_with fail
  go_at_call 12
  (with_reducible refine (kf17 _ hP hE).mono ?_)
  rintro e ub17 ⟨rfl, hb⟩
  replace hc := dkeep hb hc
  replace hB := belowVia hB hb
  replace hP := hP.keep hb
  replace hE := hE.keep hb
  clear hb
  go_wp2_with fail
  go_at_call 37
  (with_reducible refine (kk17 _ _ hc).mono ?_)
  rintro e uc17 ⟨rfl, rfl⟩
  clear hc
  go_wp2_with fail
  go_at_call 20
  (with_reducible refine (km18 _).mono ?_)
  rintro e ua18 ⟨g18, rfl, hc, hb⟩
  replace hB := belowVia hB hb
  replace hP := hP.keep hb
  replace hE := hE.keep hb
  clear hb
  go_wp2_with fail
  go_at_call 12
  (with_reducible refine (kf18 _ hP hE).mono ?_)
  rintro e ub18 ⟨rfl, hb⟩
  replace hc := dkeep hb hc
  replace hB := belowVia hB hb
  replace hP := hP.keep hb
  replace hE := hE.keep hb
  clear hb
  go_wp2_with fail
  go_at_call 37
  (with_reducible refine (kk18 _ _ hc).mono ?_)
  rintro e uc18 ⟨rfl, rfl⟩
  clear hc
  go_wp2_with fail
  go_at_call 20
  (with_reducible refine (km19 _).mono ?_)
  rintro e ua19 ⟨g19, rfl, hc, hb⟩
  replace hB := belowVia hB hb
  replace hP := hP.keep hb
  replace hE := hE.keep hb
  clear hb
  go_wp2_with fail
  go_at_call 12
  (with_reducible refine (kf19 _ hP hE).mono ?_)
  rintro e ub19 ⟨rfl, hb⟩
  replace hc := dkeep hb hc
  replace hB := belowVia hB hb
  replace hP := hP.keep hb
  replace hE := hE.keep hb
  clear hb
  go_wp2_with fail
  go_at_call 37
  (with_reducible refine (kk19 _ _ hc).mono ?_)
  rintro e uc19 ⟨rfl, rfl⟩
  clear hc
  go_wp2_with fail
  go_at_call 20
  (with_reducible refine (km20 _).mono ?_)
  rintro e ua20 ⟨g20, rfl, hc, hb⟩
  replace hB := belowVia hB hb
  replace hP := hP.keep hb
  replace hE := hE.keep hb
  clear hb
  go_wp2_with fail
  go_at_call 12
  (with_reducible refine (kf20 _ hP hE).mono ?_)
  rintro e ub20 ⟨rfl, hb⟩
  replace hc := dkeep hb hc
  replace hB := belowVia hB hb
  replace hP := hP.keep hb
  replace hE := hE.keep hb
  clear hb
  go_wp2_with fail
  go_at_call 37
  (with_reducible refine (kk20 _ _ hc).mono ?_)
  rintro e uc20 ⟨rfl, rfl⟩
  clear hc
  go_wp2_with fail
  go_at_call 20
  (with_reducible refine (km21 _).mono ?_)
  rintro e ua21 ⟨g21, rfl, hc, hb⟩
  replace hB := belowVia hB hb
  replace hP := hP.keep hb
  replace hE := hE.keep hb
  clear hb
  go_wp2_with fail
  go_at_call 12
  (with_reducible refine (kf21 _ hP hE).mono ?_)
  rintro e ub21 ⟨rfl, hb⟩
  replace hc := dkeep hb hc
  replace hB := belowVia hB hb
  replace hP := hP.keep hb
  replace hE := hE.keep hb
  clear hb
  go_wp2_with fail
  go_at_call 37
  (with_reducible refine (kk21 _ _ hc).mono ?_)
  rintro e uc21 ⟨rfl, rfl⟩
  clear hc
  go_upto_region 5 with fail
  dsimp only [List.append]
  go_wp2_with fail
  go_at_call 13
  (with_reducible refine (km22 _).mono ?_)
  rintro e ua22 ⟨g22, rfl, hc, hb⟩
  replace hB := belowVia hB hb
  replace hP := hP.keep hb
  replace hE := hE.keep hb
  clear hb
  go_wp2_with fail
  go_at_call 16
  (with_reducible refine (kf22 _ hP hE).mono ?_)
  rintro e ub22 ⟨rfl, hb⟩
  replace hc := dkeep hb hc
  replace hB := belowVia hB hb
  replace hP := hP.keep hb
  replace hE := hE.keep hb
  clear hb
  go_wp2_with fail
  go_at_call 30
  (with_reducible refine (kk22 _ _ hc).mono ?_)
  rintro e uc22 ⟨rfl, rfl⟩
  clear hc
  go_wp2_with fail
  go_at_call 13
  (with_reducible refine (km23 _).mono ?_)
  rintro e ua23 ⟨g23, rfl, hc, hb⟩
  replace hB := belowVia hB hb
  replace hP := hP.keep hb
  replace hE := hE.keep hb
  clear hb
  go_wp2_with fail
  go_at_call 16
  (with_reducible refine (kf23 _ hP hE).mono ?_)
  rintro e ub23 ⟨rfl, hb⟩
  replace hc := dkeep hb hc
  replace hB := belowVia hB hb
  replace hP := hP.keep hb
  replace hE := hE.keep hb
  clear hb
  go_wp2_with fail
  go_at_call 30
  (with_reducible refine (kk23 _ _ hc).mono ?_)
  rintro e uc23 ⟨rfl, rfl⟩
  clear hc
  go_wp2_with fail
  go_at_call 13
  (with_reducible refine (km24 _).mono ?_)
  rintro e ua24 ⟨g24, rfl, hc, hb⟩
  replace hB := belowVia hB hb
  replace hP := hP.keep hb
  replace hE := hE.keep hb
  clear hb
  go_wp2_with fail
  go_at_call 16
  (with_reducible refine (kf24 _ hP hE).mono ?_)
  rintro e ub24 ⟨rfl, hb⟩
  replace hc := dkeep hb hc
  replace hB := belowVia hB hb
  replace hP := hP.keep hb
  replace hE := hE.keep hb
  clear hb
  go_wp2_with fail
  go_at_call 30
  (with_reducible refine (kk24 _ _ hc).mono ?_)
  rintro e uc24 ⟨rfl, rfl⟩
  clear hc
  go_wp2_with fail
  go_at_call 13
  (with_reducible refine (km25 _).mono ?_)
  rintro e ua25 ⟨g25, rfl, hc, hb⟩
  replace hB := belowVia hB hb
  replace hP := hP.keep hb
  replace hE := hE.keep hb
  clear hb
  go_wp2_with fail
  go_at_call 16
  (with_reducible refine (kf25 _ hP hE).mono ?_)
  rintro e ub25 ⟨rfl, hb⟩
  replace hc := dkeep hb hc
  replace hB := belowVia hB hb
  replace hP := hP.keep hb
  replace hE := hE.keep hb
  clear hb
  go_wp2_with fail
  go_at_call 30
  (with_reducible refine (kk25 _ _ hc).mono ?_)
  rintro e uc25 ⟨rfl, rfl⟩
  clear hc
  go_wp2_with fail
  go_at_call 19
  (with_reducible refine (km26 _).mono ?_)
  rintro e ua26 ⟨g26, rfl, hc, hb⟩
  replace hB := belowVia hB hb
  replace hP := hP.keep hb
  replace hE := hE.keep hb
  clear hb
  go_wp2_with fail
  go_at_call 16
  (with_reducible refine (kf26 _ hP hE).mono ?_)
  rintro e ub26 ⟨rfl, hb⟩
  replace hc := dkeep hb hc
  replace hB := belowVia hB hb
  replace hP := hP.keep hb
  replace hE := hE.keep hb
  clear hb
  go_wp2_with fail
  go_at_call 36
  (with_reducible refine (kk26 _ _ hc).mono ?_)
  rintro e uc26 ⟨rfl, rfl⟩
  clear hc
  go_wp2_with fail
  go_at_call 19
  (with_reducible refine (km27 _).mono ?_)
  rintro e ua27 ⟨g27, rfl, hc, hb⟩
  replace hB := belowVia hB hb
  replace hP := hP.keep hb
  replace hE := hE.keep hb
  clear hb
  go_wp2_with fail
  go_at_call 16
  (with_reducible refine (kf27 _ hP hE).mono ?_)
  rintro e ub27 ⟨rfl, hb⟩
  replace hc := dkeep hb hc
  replace hB := belowVia hB hb
  replace hP := hP.keep hb
  replace hE := hE.keep hb
  clear hb
  go_wp2_with fail
  go_at_call 36
  (with_reducible refine (kk27 _ _ hc).mono ?_)
  rintro e uc27 ⟨rfl, rfl⟩
  clear hc
  go_wp2_with fail
  go_at_call 19
  (with_reducible refine (km28 _).mono ?_)
  rintro e ua28 ⟨g28, rfl, hc, hb⟩
  replace hB := belowVia hB hb
  replace hP := hP.keep hb
  replace hE := hE.keep hb
  clear hb
  go_wp2_with fail
  go_at_call 16
  (with_reducible refine (kf28 _ hP hE).mono ?_)
  rintro e ub28 ⟨rfl, hb⟩
  replace hc := dkeep hb hc
  replace hB := belowVia hB hb
  replace hP := hP.keep hb
  replace hE := hE.keep hb
  clear hb
  go_wp2_with fail
  go_at_call 36
  (with_reducible refine (kk28 _ _ hc).mono ?_)
  rintro e uc28 ⟨rfl, rfl⟩
  clear hc
  go_wp2_with fail
  go_at_call 13
  (with_reducible refine (km29 _).mono ?_)
  rintro e ua29 ⟨g29, rfl, hc, hb⟩
  replace hB := belowVia hB hb
  replace hP := hP.keep hb
  replace hE := hE.keep hb
  clear hb
  go_wp2_with fail
  go_at_call 16
  (with_reducible refine (kf29 _ hP hE).mono ?_)
  rintro e ub29 ⟨rfl, hb⟩
  replace hc := dkeep hb hc
  replace hB := belowVia hB hb
  replace hP := hP.keep hb
  replace hE := hE.keep hb
  clear hb
  go_wp2_with fail
  go_at_call 30
  (with_reducible refine (kk29 _ _ hc).mono ?_)
  rintro e uc29 ⟨rfl, rfl⟩
  clear hc
  go_wp2_with fail
  go_at_call 13
  (with_reducible refine (km30 _).mono ?_)
  rintro e ua30 ⟨g30, rfl, hc, hb⟩
  replace hB := belowVia hB hb
  replace hP := hP.keep hb
  replace hE := hE.keep hb
  clear hb
  go_wp2_with fail
  go_at_call 16
  (with_reducible refine (kf30 _ hP hE).mono ?_)
  rintro e ub30 ⟨rfl, hb⟩
  replace hc := dkeep hb hc
  replace hB := belowVia hB hb
  replace hP := hP.keep hb
  replace hE := hE.keep hb
  clear hb
  go_wp2_with fail
  go_at_call 30
  (with_reducible refine (kk30 _ _ hc).mono ?_)
  rintro e uc30 ⟨rfl, rfl⟩
  clear hc
  go_wp2_with fail
  go_at_call 7
  refine (works_true _ hP hE).mono ?_
  rintro e uw2 ⟨rfl, hb⟩
  replace hB := belowVia hB hb
  replace hP := hP.keep hb
  replace hE := hE.keep hb
  clear hb
  go_wp2_with fail
  go_at_call 19
  (with_reducible refine (km31 _).mono ?_)
  rintro e ua31 ⟨g31, rfl, hc, hb⟩
  replace hB := belowVia hB hb
  replace hP := hP.keep hb
  replace hE := hE.keep hb
  clear hb
  go_wp2_with fail
  go_at_call 18
  (with_reducible refine (kf31 _ hP hE).mono ?_)
  rintro e ub31 ⟨rfl, hb⟩
  replace hc := dkeep hb hc
  replace hB := belowVia hB hb
  replace hP := hP.keep hb
  replace hE := hE.keep hb
  clear hb
  go_wp2_with fail
  go_at_call 36
  (with_reducible refine (kk31 _ _ hc).mono ?_)
  rintro e uc31 ⟨rfl, rfl⟩
  clear hc
  go_wp2_with fail
  go_at_call 19
  (with_reducible refine (km32 _).mono ?_)
  rintro e ua32 ⟨g32, rfl, hc, hb⟩
  replace hB := belowVia hB hb
  replace hP := hP.keep hb
  replace hE := hE.keep hb
  clear hb
  go_wp2_with fail
  go_at_call 18
  (with_reducible refine (kf32 _ hP hE).mono ?_)
  rintro e ub32 ⟨rfl, hb⟩
  replace hc := dkeep hb hc
  replace hB := belowVia hB hb
  replace hP := hP.keep hb
  replace hE := hE.keep hb
  clear hb
  go_wp2_with fail
  go_at_call 36
  (with_reducible refine (kk32 _ _ hc).mono ?_)
  rintro e uc32 ⟨rfl, rfl⟩
  clear hc
  go_wp2_with fail
  go_at_call 13
  (with_reducible refine (km33 _).mono ?_)
  rintro e ua33 ⟨g33, rfl, hc, hb⟩
  replace hB := belowVia hB hb
  replace hP := hP.keep hb
  replace hE := hE.keep hb
  clear hb
  go_wp2_with fail
  go_at_call 18
  (with_reducible refine (kf33 _ hP hE).mono ?_)
  rintro e ub33 ⟨rfl, hb⟩
  replace hc := dkeep hb hc
  replace hB := belowVia hB hb
  replace hP := hP.keep hb
  replace hE := hE.keep hb
  clear hb
  go_wp2_with fail
  go_at_call 30
  (with_reducible refine (kk33 _ _ hc).mono ?_)
  rintro e uc33 ⟨rfl, rfl⟩
  clear hc
  go_wp2_with fail
  go_at_call 13
  (with_reducible refine (km34 _).mono ?_)
  rintro e ua34 ⟨g34, rfl, hc, hb⟩
  replace hB := belowVia hB hb
  replace hP := hP.keep hb
  replace hE := hE.keep hb
  clear hb
  go_wp2_with fail
  go_at_call 18
  (with_reducible refine (kf34 _ hP hE).mono ?_)
  rintro e ub34 ⟨rfl, hb⟩
  replace hc := dkeep hb hc
  replace hB := belowVia hB hb
  replace hP := hP.keep hb
  replace hE := hE.keep hb
  clear hb
  go_wp2_with fail
  go_at_call 30
  (with_reducible refine (kk34 _ _ hc).mono ?_)
  rintro e uc34 ⟨rfl, rfl⟩
  clear hc
  go_wp2
  go_ret
  exact ⟨rfl, hB⟩
end Go.Proofs.YtpjkdgdgjlldfaaDoor
