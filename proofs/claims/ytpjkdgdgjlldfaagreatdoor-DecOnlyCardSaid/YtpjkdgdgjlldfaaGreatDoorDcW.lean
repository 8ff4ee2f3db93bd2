/-
  The examples of package dec: all come out true.
-/
import Derived.Test.YtpjkdgdgjlldfaaGreatDoorDcV
import Derived.LoopTactic
namespace Go.Proofs.YtpjkdgdgjlldfaaGreatDoor
open Go.RowKit

def decN : Nat → Nat → List UInt8
  | 0, _ => []
  | f + 1, u => if u < 10 then [dig u] else decN f (u / 10) ++ [dig (u % 10)]
theorem dec_decN : ∀ (f u : Nat), u < 10 ^ (f + 1) → Lib.decDigits u = decN (f + 1) u
  | 0, u, h => by
    have h' : u < 10 := by simpa using h
    rw [Lib.decDigits_one h', decN, if_pos h']; rfl
  | f + 1, u, h => by
    rw [decN]
    by_cases c : u < 10
    · rw [if_pos c, Lib.decDigits_one c]; rfl
    · rw [if_neg c, Lib.decDigits, dif_neg c, dec_decN f (u / 10) (by rw [Nat.pow_succ] at h; omega)]; rfl
def txtN (n : Int) (d : Nat) : List UInt8 := sgn n ++ (decN 20 (n.natAbs / 10 ^ d) ++ pnt (plc d (n.natAbs % 10 ^ d)))
theorem txt_N (n : Int) (d : Nat) (h : n.natAbs < 100000000000000000000) : txt n d = txtN n d := by
  unfold txt txtN
  rw [dec_decN 19 _ (by have := Nat.div_le_self n.natAbs (10 ^ d); omega)]
theorem belowVia {w u v : World} (h : Below w.heap.size w u) (k : Below u.heap.size u v) : Below w.heap.size w v := h.trans (k.mono h.size)
theorem wm1 (w : World) : Calls Tryz.prog 17 #[.string ⟨#[49, 50, 46, 53]⟩] w fun e w' => ∃ g, e = .returned (.func (.func 44) #[] #[.pointer (some ⟨g, 0, none⟩)]) ∧ w'.cell? ⟨g, 0, none⟩ = some (.string ⟨#[49, 50, 46, 53]⟩) ∧ Below w.heap.size w w' := is_any [49, 50, 46, 53] w
theorem wk1 (g : Nat) (w : World) (hb : w.cell? ⟨g, 0, none⟩ = some (.string ⟨#[49, 50, 46, 53]⟩)) : Calls Tryz.prog 44 #[.string ⟨#[49, 50, 46, 53]⟩, .int .i64 0, .pointer (some ⟨g, 0, none⟩)] w fun e w' => e = .returned (.bool true) ∧ w = w' := is1_any [49, 50, 46, 53] g w hb
theorem wf1 (w : World) (hP : Pw w) (_hE : Er w) : Calls Tryz.prog 18 #[.int .i64 12500, .int .i64 3] w fun e w' => e = .returned (.tuple #[.string ⟨#[49, 50, 46, 53]⟩, .int .i64 0]) ∧ Below w.heap.size w w' := by
  have h := text_any 12500 3 w (by omega) (by omega) hP
  rw [show tR 12500 3 = ([49, 50, 46, 53], 0) from by unfold tR; rw [if_neg (by decide), txt_N _ _ (by decide)]; decide +kernel] at h
  exact h
theorem wm2 (w : World) : Calls Tryz.prog 17 #[.string ⟨#[45, 48, 46, 53]⟩] w fun e w' => ∃ g, e = .returned (.func (.func 44) #[] #[.pointer (some ⟨g, 0, none⟩)]) ∧ w'.cell? ⟨g, 0, none⟩ = some (.string ⟨#[45, 48, 46, 53]⟩) ∧ Below w.heap.size w w' := is_any [45, 48, 46, 53] w
theorem wk2 (g : Nat) (w : World) (hb : w.cell? ⟨g, 0, none⟩ = some (.string ⟨#[45, 48, 46, 53]⟩)) : Calls Tryz.prog 44 #[.string ⟨#[45, 48, 46, 53]⟩, .int .i64 0, .pointer (some ⟨g, 0, none⟩)] w fun e w' => e = .returned (.bool true) ∧ w = w' := is1_any [45, 48, 46, 53] g w hb
theorem wf2 (w : World) (hP : Pw w) (_hE : Er w) : Calls Tryz.prog 18 #[.int .i64 (-5), .int .i64 1] w fun e w' => e = .returned (.tuple #[.string ⟨#[45, 48, 46, 53]⟩, .int .i64 0]) ∧ Below w.heap.size w w' := by
  have h := text_any (-5) 1 w (by omega) (by omega) hP
  rw [show tR (-5) 1 = ([45, 48, 46, 53], 0) from by unfold tR; rw [if_neg (by decide), txt_N _ _ (by decide)]; decide +kernel] at h
  exact h
theorem wm3 (w : World) : Calls Tryz.prog 17 #[.string ⟨#[48]⟩] w fun e w' => ∃ g, e = .returned (.func (.func 44) #[] #[.pointer (some ⟨g, 0, none⟩)]) ∧ w'.cell? ⟨g, 0, none⟩ = some (.string ⟨#[48]⟩) ∧ Below w.heap.size w w' := is_any [48] w
theorem wk3 (g : Nat) (w : World) (hb : w.cell? ⟨g, 0, none⟩ = some (.string ⟨#[48]⟩)) : Calls Tryz.prog 44 #[.string ⟨#[48]⟩, .int .i64 0, .pointer (some ⟨g, 0, none⟩)] w fun e w' => e = .returned (.bool true) ∧ w = w' := is1_any [48] g w hb
theorem wf3 (w : World) (hP : Pw w) (_hE : Er w) : Calls Tryz.prog 18 #[.int .i64 0, .int .i64 6] w fun e w' => e = .returned (.tuple #[.string ⟨#[48]⟩, .int .i64 0]) ∧ Below w.heap.size w w' := by
  have h := text_any 0 6 w (by omega) (by omega) hP
  rw [show tR 0 6 = ([48], 0) from by unfold tR; rw [if_neg (by decide), txt_N _ _ (by decide)]; decide +kernel] at h
  exact h
theorem wm4 (w : World) : Calls Tryz.prog 17 #[.string ⟨#[55]⟩] w fun e w' => ∃ g, e = .returned (.func (.func 44) #[] #[.pointer (some ⟨g, 0, none⟩)]) ∧ w'.cell? ⟨g, 0, none⟩ = some (.string ⟨#[55]⟩) ∧ Below w.heap.size w w' := is_any [55] w
theorem wk4 (g : Nat) (w : World) (hb : w.cell? ⟨g, 0, none⟩ = some (.string ⟨#[55]⟩)) : Calls Tryz.prog 44 #[.string ⟨#[55]⟩, .int .i64 0, .pointer (some ⟨g, 0, none⟩)] w fun e w' => e = .returned (.bool true) ∧ w = w' := is1_any [55] g w hb
theorem wf4 (w : World) (hP : Pw w) (_hE : Er w) : Calls Tryz.prog 18 #[.int .i64 7, .int .i64 0] w fun e w' => e = .returned (.tuple #[.string ⟨#[55]⟩, .int .i64 0]) ∧ Below w.heap.size w w' := by
  have h := text_any 7 0 w (by omega) (by omega) hP
  rw [show tR 7 0 = ([55], 0) from by unfold tR; rw [if_neg (by decide), txt_N _ _ (by decide)]; decide +kernel] at h
  exact h
theorem wm5 (w : World) : Calls Tryz.prog 24 #[.int .i64 2] w fun e w' => ∃ g, e = .returned (.func (.func 58) #[] #[.pointer (some ⟨g, 0, none⟩)]) ∧ w'.cell? ⟨g, 0, none⟩ = some (.int .i64 2) ∧ Below w.heap.size w w' := fails_any 2 w
theorem wk5 (g : Nat) (w : World) (hb : w.cell? ⟨g, 0, none⟩ = some (.int .i64 2)) : Calls Tryz.prog 58 #[.string ⟨#[]⟩, .int .i64 2, .pointer (some ⟨g, 0, none⟩)] w fun e w' => e = .returned (.bool true) ∧ w = w' := fails1_any 2 g w hb
theorem wf5 (w : World) (hP : Pw w) (_hE : Er w) : Calls Tryz.prog 18 #[.int .i64 1, .int .i64 19] w fun e w' => e = .returned (.tuple #[.string ⟨#[]⟩, .int .i64 2]) ∧ Below w.heap.size w w' := by
  have h := text_any 1 19 w (by omega) (by omega) hP
  rw [show tR 1 19 = ([], 2) from by decide] at h
  exact h
theorem wm6 (w : World) : Calls Tryz.prog 25 #[.int .i64 12500] w fun e w' => ∃ g, e = .returned (.func (.func 59) #[] #[.pointer (some ⟨g, 0, none⟩)]) ∧ w'.cell? ⟨g, 0, none⟩ = some (.int .i64 12500) ∧ Below w.heap.size w w' := says_any 12500 w
theorem wk6 (g : Nat) (w : World) (hb : w.cell? ⟨g, 0, none⟩ = some (.int .i64 12500)) : Calls Tryz.prog 59 #[.int .i64 12500, .int .i64 0, .pointer (some ⟨g, 0, none⟩)] w fun e w' => e = .returned (.bool true) ∧ w = w' := says1_any 12500 g w hb
theorem wf6 (w : World) (_hP : Pw w) (hE : Er w) : Calls Tryz.prog 9 #[.string ⟨#[49, 50, 46, 53]⟩, .int .i64 3] w fun e w' => e = .returned (.tuple #[.int .i64 12500, .int .i64 0]) ∧ Below w.heap.size w w' := by
  have h := parse_any [49, 50, 46, 53] 3 w (by decide) hE
  rw [show pR [49, 50, 46, 53] 3 = (12500, 0) from by decide +kernel] at h
  exact h
theorem wm7 (w : World) : Calls Tryz.prog 25 #[.int .i64 (-5)] w fun e w' => ∃ g, e = .returned (.func (.func 59) #[] #[.pointer (some ⟨g, 0, none⟩)]) ∧ w'.cell? ⟨g, 0, none⟩ = some (.int .i64 (-5)) ∧ Below w.heap.size w w' := says_any (-5) w
theorem wk7 (g : Nat) (w : World) (hb : w.cell? ⟨g, 0, none⟩ = some (.int .i64 (-5))) : Calls Tryz.prog 59 #[.int .i64 (-5), .int .i64 0, .pointer (some ⟨g, 0, none⟩)] w fun e w' => e = .returned (.bool true) ∧ w = w' := says1_any (-5) g w hb
theorem wf7 (w : World) (_hP : Pw w) (hE : Er w) : Calls Tryz.prog 9 #[.string ⟨#[45, 48, 46, 53]⟩, .int .i64 1] w fun e w' => e = .returned (.tuple #[.int .i64 (-5), .int .i64 0]) ∧ Below w.heap.size w w' := by
  have h := parse_any [45, 48, 46, 53] 1 w (by decide) hE
  rw [show pR [45, 48, 46, 53] 1 = ((-5), 0) from by decide +kernel] at h
  exact h
theorem wm8 (w : World) : Calls Tryz.prog 26 #[.int .i64 5] w fun e w' => ∃ g, e = .returned (.func (.func 60) #[] #[.pointer (some ⟨g, 0, none⟩)]) ∧ w'.cell? ⟨g, 0, none⟩ = some (.int .i64 5) ∧ Below w.heap.size w w' := refuses_any 5 w
theorem wk8 (g : Nat) (w : World) (hb : w.cell? ⟨g, 0, none⟩ = some (.int .i64 5)) : Calls Tryz.prog 60 #[.int .i64 0, .int .i64 5, .pointer (some ⟨g, 0, none⟩)] w fun e w' => e = .returned (.bool true) ∧ w = w' := refuses1_any 5 g w hb
theorem wf8 (w : World) (_hP : Pw w) (hE : Er w) : Calls Tryz.prog 9 #[.string ⟨#[48, 46, 50, 53]⟩, .int .i64 1] w fun e w' => e = .returned (.tuple #[.int .i64 0, .int .i64 5]) ∧ Below w.heap.size w w' := by
  have h := parse_any [48, 46, 50, 53] 1 w (by decide) hE
  rw [show pR [48, 46, 50, 53] 1 = (0, 5) from by decide +kernel] at h
  exact h
theorem wm9 (w : World) : Calls Tryz.prog 26 #[.int .i64 6] w fun e w' => ∃ g, e = .returned (.func (.func 60) #[] #[.pointer (some ⟨g, 0, none⟩)]) ∧ w'.cell? ⟨g, 0, none⟩ = some (.int .i64 6) ∧ Below w.heap.size w w' := refuses_any 6 w
theorem wk9 (g : Nat) (w : World) (hb : w.cell? ⟨g, 0, none⟩ = some (.int .i64 6)) : Calls Tryz.prog 60 #[.int .i64 0, .int .i64 6, .pointer (some ⟨g, 0, none⟩)] w fun e w' => e = .returned (.bool true) ∧ w = w' := refuses1_any 6 g w hb
theorem wf9 (w : World) (_hP : Pw w) (hE : Er w) : Calls Tryz.prog 9 #[.string ⟨#[57, 50, 50, 51, 51, 55, 50, 48, 51, 54, 56, 53, 52, 55, 55, 53, 56, 48, 56]⟩, .int .i64 0] w fun e w' => e = .returned (.tuple #[.int .i64 0, .int .i64 6]) ∧ Below w.heap.size w w' := by
  have h := parse_any [57, 50, 50, 51, 51, 55, 50, 48, 51, 54, 56, 53, 52, 55, 55, 53, 56, 48, 56] 0 w (by decide) hE
  rw [show pR [57, 50, 50, 51, 51, 55, 50, 48, 51, 54, 56, 53, 52, 55, 55, 53, 56, 48, 56] 0 = (0, 6) from by decide +kernel] at h
  exact h
theorem wm10 (w : World) : Calls Tryz.prog 26 #[.int .i64 2] w fun e w' => ∃ g, e = .returned (.func (.func 60) #[] #[.pointer (some ⟨g, 0, none⟩)]) ∧ w'.cell? ⟨g, 0, none⟩ = some (.int .i64 2) ∧ Below w.heap.size w w' := refuses_any 2 w
theorem wk10 (g : Nat) (w : World) (hb : w.cell? ⟨g, 0, none⟩ = some (.int .i64 2)) : Calls Tryz.prog 60 #[.int .i64 0, .int .i64 2, .pointer (some ⟨g, 0, none⟩)] w fun e w' => e = .returned (.bool true) ∧ w = w' := refuses1_any 2 g w hb
theorem wf10 (w : World) (_hP : Pw w) (hE : Er w) : Calls Tryz.prog 9 #[.string ⟨#[49]⟩, .int .i64 19] w fun e w' => e = .returned (.tuple #[.int .i64 0, .int .i64 2]) ∧ Below w.heap.size w w' := by
  have h := parse_any [49] 19 w (by decide) hE
  rw [show pR [49] 19 = (0, 2) from by decide +kernel] at h
  exact h
theorem wm11 (w : World) : Calls Tryz.prog 17 #[.string ⟨#[48]⟩] w fun e w' => ∃ g, e = .returned (.func (.func 44) #[] #[.pointer (some ⟨g, 0, none⟩)]) ∧ w'.cell? ⟨g, 0, none⟩ = some (.string ⟨#[48]⟩) ∧ Below w.heap.size w w' := is_any [48] w
theorem wk11 (g : Nat) (w : World) (hb : w.cell? ⟨g, 0, none⟩ = some (.string ⟨#[48]⟩)) : Calls Tryz.prog 44 #[.string ⟨#[48]⟩, .int .i64 0, .pointer (some ⟨g, 0, none⟩)] w fun e w' => e = .returned (.bool true) ∧ w = w' := is1_any [48] g w hb
theorem wf11 (w : World) (hP : Pw w) (_hE : Er w) : Calls Tryz.prog 13 #[.int .i64 2147483648, .int .i64 0, .bool false] w fun e w' => e = .returned (.tuple #[.string ⟨#[48]⟩, .int .i64 0]) ∧ Below w.heap.size w w' := by
  have h := fixed_in 2147483648 0 false w (by omega) (by omega) (by omega) hP
  rw [show txt (fxN false 2147483648 ((10 ^ 0 : Nat) : Int)) 0 = [48] from by rw [txt_N _ _ (by decide +kernel)]; decide +kernel] at h
  exact h
theorem wm12 (w : World) : Calls Tryz.prog 17 #[.string ⟨#[49]⟩] w fun e w' => ∃ g, e = .returned (.func (.func 44) #[] #[.pointer (some ⟨g, 0, none⟩)]) ∧ w'.cell? ⟨g, 0, none⟩ = some (.string ⟨#[49]⟩) ∧ Below w.heap.size w w' := is_any [49] w
theorem wk12 (g : Nat) (w : World) (hb : w.cell? ⟨g, 0, none⟩ = some (.string ⟨#[49]⟩)) : Calls Tryz.prog 44 #[.string ⟨#[49]⟩, .int .i64 0, .pointer (some ⟨g, 0, none⟩)] w fun e w' => e = .returned (.bool true) ∧ w = w' := is1_any [49] g w hb
theorem wf12 (w : World) (hP : Pw w) (_hE : Er w) : Calls Tryz.prog 13 #[.int .i64 2147483648, .int .i64 0, .bool true] w fun e w' => e = .returned (.tuple #[.string ⟨#[49]⟩, .int .i64 0]) ∧ Below w.heap.size w w' := by
  have h := fixed_in 2147483648 0 true w (by omega) (by omega) (by omega) hP
  rw [show txt (fxN true 2147483648 ((10 ^ 0 : Nat) : Int)) 0 = [49] from by rw [txt_N _ _ (by decide +kernel)]; decide +kernel] at h
  exact h
theorem wm13 (w : World) : Calls Tryz.prog 17 #[.string ⟨#[45, 48, 46, 48, 48, 49]⟩] w fun e w' => ∃ g, e = .returned (.func (.func 44) #[] #[.pointer (some ⟨g, 0, none⟩)]) ∧ w'.cell? ⟨g, 0, none⟩ = some (.string ⟨#[45, 48, 46, 48, 48, 49]⟩) ∧ Below w.heap.size w w' := is_any [45, 48, 46, 48, 48, 49] w
theorem wk13 (g : Nat) (w : World) (hb : w.cell? ⟨g, 0, none⟩ = some (.string ⟨#[45, 48, 46, 48, 48, 49]⟩)) : Calls Tryz.prog 44 #[.string ⟨#[45, 48, 46, 48, 48, 49]⟩, .int .i64 0, .pointer (some ⟨g, 0, none⟩)] w fun e w' => e = .returned (.bool true) ∧ w = w' := is1_any [45, 48, 46, 48, 48, 49] g w hb
theorem wf13 (w : World) (hP : Pw w) (_hE : Er w) : Calls Tryz.prog 13 #[.int .i64 (-1), .int .i64 3, .bool false] w fun e w' => e = .returned (.tuple #[.string ⟨#[45, 48, 46, 48, 48, 49]⟩, .int .i64 0]) ∧ Below w.heap.size w w' := by
  have h := fixed_in (-1) 3 false w (by omega) (by omega) (by omega) hP
  rw [show txt (fxN false (-1) ((10 ^ 3 : Nat) : Int)) 3 = [45, 48, 46, 48, 48, 49] from by rw [txt_N _ _ (by decide +kernel)]; decide +kernel] at h
  exact h
theorem wm14 (w : World) : Calls Tryz.prog 17 #[.string ⟨#[48, 46, 53]⟩] w fun e w' => ∃ g, e = .returned (.func (.func 44) #[] #[.pointer (some ⟨g, 0, none⟩)]) ∧ w'.cell? ⟨g, 0, none⟩ = some (.string ⟨#[48, 46, 53]⟩) ∧ Below w.heap.size w w' := is_any [48, 46, 53] w
theorem wk14 (g : Nat) (w : World) (hb : w.cell? ⟨g, 0, none⟩ = some (.string ⟨#[48, 46, 53]⟩)) : Calls Tryz.prog 44 #[.string ⟨#[48, 46, 53]⟩, .int .i64 0, .pointer (some ⟨g, 0, none⟩)] w fun e w' => e = .returned (.bool true) ∧ w = w' := is1_any [48, 46, 53] g w hb
theorem wf14 (w : World) (hP : Pw w) (_hE : Er w) : Calls Tryz.prog 13 #[.int .i64 2147483648, .int .i64 3, .bool true] w fun e w' => e = .returned (.tuple #[.string ⟨#[48, 46, 53]⟩, .int .i64 0]) ∧ Below w.heap.size w w' := by
  have h := fixed_in 2147483648 3 true w (by omega) (by omega) (by omega) hP
  rw [show txt (fxN true 2147483648 ((10 ^ 3 : Nat) : Int)) 3 = [48, 46, 53] from by rw [txt_N _ _ (by decide +kernel)]; decide +kernel] at h
  exact h
theorem wm15 (w : World) : Calls Tryz.prog 17 #[.string ⟨#[91, 45, 48, 46, 51, 51, 52, 44, 32, 48, 46, 54, 54, 55, 93]⟩] w fun e w' => ∃ g, e = .returned (.func (.func 44) #[] #[.pointer (some ⟨g, 0, none⟩)]) ∧ w'.cell? ⟨g, 0, none⟩ = some (.string ⟨#[91, 45, 48, 46, 51, 51, 52, 44, 32, 48, 46, 54, 54, 55, 93]⟩) ∧ Below w.heap.size w w' := is_any [91, 45, 48, 46, 51, 51, 52, 44, 32, 48, 46, 54, 54, 55, 93] w
theorem wk15 (g : Nat) (w : World) (hb : w.cell? ⟨g, 0, none⟩ = some (.string ⟨#[91, 45, 48, 46, 51, 51, 52, 44, 32, 48, 46, 54, 54, 55, 93]⟩)) : Calls Tryz.prog 44 #[.string ⟨#[91, 45, 48, 46, 51, 51, 52, 44, 32, 48, 46, 54, 54, 55, 93]⟩, .int .i64 0, .pointer (some ⟨g, 0, none⟩)] w fun e w' => e = .returned (.bool true) ∧ w = w' := is1_any [91, 45, 48, 46, 51, 51, 52, 44, 32, 48, 46, 54, 54, 55, 93] g w hb
theorem wf15 (w : World) (hP : Pw w) (_hE : Er w) : Calls Tryz.prog 15 #[.agg #[.int .i64 (-1431655766), .int .i64 2863311531], .int .i64 3] w fun e w' => e = .returned (.tuple #[.string ⟨#[91, 45, 48, 46, 51, 51, 52, 44, 32, 48, 46, 54, 54, 55, 93]⟩, .int .i64 0]) ∧ Below w.heap.size w w' := by
  have h := both_in (-1431655766) 2863311531 3 w (by decide) (by omega) hP
  rw [show ([91] ++ txt (fxN false (-1431655766) ((10 ^ 3 : Nat) : Int)) 3 ++ [44, 32] ++ txt (fxN true 2863311531 ((10 ^ 3 : Nat) : Int)) 3 ++ [93]) = [91, 45, 48, 46, 51, 51, 52, 44, 32, 48, 46, 54, 54, 55, 93] from by rw [txt_N _ _ (by decide +kernel), txt_N _ _ (by decide +kernel)]; decide +kernel] at h
  exact h
theorem wm16 (w : World) : Calls Tryz.prog 24 #[.int .i64 20] w fun e w' => ∃ g, e = .returned (.func (.func 58) #[] #[.pointer (some ⟨g, 0, none⟩)]) ∧ w'.cell? ⟨g, 0, none⟩ = some (.int .i64 20) ∧ Below w.heap.size w w' := fails_any 20 w
theorem wk16 (g : Nat) (w : World) (hb : w.cell? ⟨g, 0, none⟩ = some (.int .i64 20)) : Calls Tryz.prog 58 #[.string ⟨#[]⟩, .int .i64 20, .pointer (some ⟨g, 0, none⟩)] w fun e w' => e = .returned (.bool true) ∧ w = w' := fails1_any 20 g w hb
theorem wf16 (w : World) (_hP : Pw w) (_hE : Er w) : Calls Tryz.prog 15 #[.agg #[.int .i64 1, .int .i64 0], .int .i64 3] w fun e w' => e = .returned (.tuple #[.string ⟨#[]⟩, .int .i64 20]) ∧ Below w.heap.size w w' := both_no 1 0 3 w (by decide)
set_option maxRecDepth 100000 in
set_option maxHeartbeats 8000000 in
theorem works_true (w : World) (hP0 : Pw w) (hE0 : Er w) : Calls Tryz.prog 6 #[] w fun e w' => e = .returned (.bool true) ∧ Below w.heap.size w w' := by
  have hB := Below.refl w.heap.size w
  have hP := hP0
  have hE := hE0
  have hidx : ∀ k : Int, 0 ≤ k → k < 6 → ∃ l : List UInt8, (∀ w, (Instr.index 28 (.agg #[.string ⟨#[49, 46, 48]⟩, .string ⟨#[46, 53]⟩, .string ⟨#[43, 49]⟩, .string ⟨#[48, 49]⟩, .string ⟨#[45, 48]⟩, .string ⟨#[49, 46]⟩]) (.int .i64 k)).run Tryz.prog w = .ok (.string (bs l)) w) ∧ l.length ≤ 1000000 ∧ pR l 3 = (0, 5) := by
    intro k h0 h1
    obtain rfl | rfl | rfl | rfl | rfl | rfl : k = 0 ∨ k = 1 ∨ k = 2 ∨ k = 3 ∨ k = 4 ∨ k = 5 := by omega
    · exact ⟨[49, 46, 48], fun _ => by kernel_rfl, by decide, by decide +kernel⟩
    · exact ⟨[46, 53], fun _ => by kernel_rfl, by decide, by decide +kernel⟩
    · exact ⟨[43, 49], fun _ => by kernel_rfl, by decide, by decide +kernel⟩
    · exact ⟨[48, 49], fun _ => by kernel_rfl, by decide, by decide +kernel⟩
    · exact ⟨[45, 48], fun _ => by kernel_rfl, by decide, by decide +kernel⟩
    · exact ⟨[49, 46], fun _ => by kernel_rfl, by decide, by decide +kernel⟩
  replace hidx := Lib.hid hidx
  go_enter Tryz.func6, Tryz.ntmps6
  go_wp2_with fail
  go_at_call 17
  (with_reducible refine (wm1 _).mono ?_)
  rintro e ua1 ⟨g1, rfl, hc, hb⟩
  replace hB := belowVia hB hb
  replace hP := hP.keep hb
  replace hE := hE.keep hb
  clear hb
  go_wp2_with fail
  go_at_call 18
  (with_reducible refine (wf1 _ hP hE).mono ?_)
  rintro e ub1 ⟨rfl, hb⟩
  replace hc := dkeep hb hc
  replace hB := belowVia hB hb
  replace hP := hP.keep hb
  replace hE := hE.keep hb
  clear hb
  go_wp2_with fail
  go_at_call 44
  (with_reducible refine (wk1 _ _ hc).mono ?_)
  rintro e uc1 ⟨rfl, rfl⟩
  clear hc
  go_wp2_with fail
  go_at_call 17
  (with_reducible refine (wm2 _).mono ?_)
  rintro e ua2 ⟨g2, rfl, hc, hb⟩
  replace hB := belowVia hB hb
  replace hP := hP.keep hb
  replace hE := hE.keep hb
  clear hb
  go_wp2_with fail
  go_at_call 18
  (with_reducible refine (wf2 _ hP hE).mono ?_)
  rintro e ub2 ⟨rfl, hb⟩
  replace hc := dkeep hb hc
  replace hB := belowVia hB hb
  replace hP := hP.keep hb
  replace hE := hE.keep hb
  clear hb
  go_wp2_with fail
  go_at_call 44
  (with_reducible refine (wk2 _ _ hc).mono ?_)
  rintro e uc2 ⟨rfl, rfl⟩
  clear hc
  go_wp2_with fail
  go_at_call 17
  (with_reducible refine (wm3 _).mono ?_)
  rintro e ua3 ⟨g3, rfl, hc, hb⟩
  replace hB := belowVia hB hb
  replace hP := hP.keep hb
  replace hE := hE.keep hb
  clear hb
  go_wp2_with fail
  go_at_call 18
  (with_reducible refine (wf3 _ hP hE).mono ?_)
  rintro e ub3 ⟨rfl, hb⟩
  replace hc := dkeep hb hc
  replace hB := belowVia hB hb
  replace hP := hP.keep hb
  replace hE := hE.keep hb
  clear hb
  go_wp2_with fail
  go_at_call 44
  (with_reducible refine (wk3 _ _ hc).mono ?_)
  rintro e uc3 ⟨rfl, rfl⟩
  clear hc
  go_wp2_with fail
  go_at_call 17
  (with_reducible refine (wm4 _).mono ?_)
  rintro e ua4 ⟨g4, rfl, hc, hb⟩
  replace hB := belowVia hB hb
  replace hP := hP.keep hb
  replace hE := hE.keep hb
  clear hb
  go_wp2_with fail
  go_at_call 18
  (with_reducible refine (wf4 _ hP hE).mono ?_)
  rintro e ub4 ⟨rfl, hb⟩
  replace hc := dkeep hb hc
  replace hB := belowVia hB hb
  replace hP := hP.keep hb
  replace hE := hE.keep hb
  clear hb
  go_wp2_with fail
  go_at_call 44
  (with_reducible refine (wk4 _ _ hc).mono ?_)
  rintro e uc4 ⟨rfl, rfl⟩
  clear hc
  go_wp2_with fail
  go_at_call 24
  (with_reducible refine (wm5 _).mono ?_)
  rintro e ua5 ⟨g5, rfl, hc, hb⟩
  replace hB := belowVia hB hb
  replace hP := hP.keep hb
  replace hE := hE.keep hb
  clear hb
  go_wp2_with fail
  go_at_call 18
  (with_reducible refine (wf5 _ hP hE).mono ?_)
  rintro e ub5 ⟨rfl, hb⟩
  replace hc := dkeep hb hc
  replace hB := belowVia hB hb
  replace hP := hP.keep hb
  replace hE := hE.keep hb
  clear hb
  go_wp2_with fail
  go_at_call 58
  (with_reducible refine (wk5 _ _ hc).mono ?_)
  rintro e uc5 ⟨rfl, rfl⟩
  clear hc
  go_wp2_with fail
  go_at_call 25
  (with_reducible refine (wm6 _).mono ?_)
  rintro e ua6 ⟨g6, rfl, hc, hb⟩
  replace hB := belowVia hB hb
  replace hP := hP.keep hb
  replace hE := hE.keep hb
  clear hb
  go_wp2_with fail
  go_at_call 9
  (with_reducible refine (wf6 _ hP hE).mono ?_)
  rintro e ub6 ⟨rfl, hb⟩
  replace hc := dkeep hb hc
  replace hB := belowVia hB hb
  replace hP := hP.keep hb
  replace hE := hE.keep hb
  clear hb
  go_wp2_with fail
  go_at_call 59
  (with_reducible refine (wk6 _ _ hc).mono ?_)
  rintro e uc6 ⟨rfl, rfl⟩
  clear hc
  go_wp2_with fail
  go_at_call 25
  (with_reducible refine (wm7 _).mono ?_)
  rintro e ua7 ⟨g7, rfl, hc, hb⟩
  replace hB := belowVia hB hb
  replace hP := hP.keep hb
  replace hE := hE.keep hb
  clear hb
  go_wp2_with fail
  go_at_call 9
  (with_reducible refine (wf7 _ hP hE).mono ?_)
  rintro e ub7 ⟨rfl, hb⟩
  replace hc := dkeep hb hc
  replace hB := belowVia hB hb
  replace hP := hP.keep hb
  replace hE := hE.keep hb
  clear hb
  go_wp2_with fail
  go_at_call 59
  (with_reducible refine (wk7 _ _ hc).mono ?_)
  rintro e uc7 ⟨rfl, rfl⟩
  clear hc
  go_wp2_with fail
  go_at_call 26
  (with_reducible refine (wm8 _).mono ?_)
  rintro e ua8 ⟨g8, rfl, hc, hb⟩
  replace hB := belowVia hB hb
  replace hP := hP.keep hb
  replace hE := hE.keep hb
  clear hb
  go_wp2_with fail
  go_at_call 9
  (with_reducible refine (wf8 _ hP hE).mono ?_)
  rintro e ub8 ⟨rfl, hb⟩
  replace hc := dkeep hb hc
  replace hB := belowVia hB hb
  replace hP := hP.keep hb
  replace hE := hE.keep hb
  clear hb
  go_wp2_with fail
  go_at_call 60
  (with_reducible refine (wk8 _ _ hc).mono ?_)
  rintro e uc8 ⟨rfl, rfl⟩
  clear hc
  clear hP hE
  go_wp2_with fail
  go_loopw [59] (fun vi wr => ∃ k : Int, 0 ≤ k ∧ k ≤ 6 ∧ vi = .int .i64 k ∧ Below w.heap.size w wr) (fun vi _ => 6 - (intOf vi).toNat)
  case atStart => exact ⟨0, by omega, by omega, rfl, hB⟩
  case round =>
    clear hB
    obtain ⟨k, k0, k6, rfl, hB⟩ := hrel
    have hP := hP0.keep hB
    have hE := hE0.keep hB
    by_cases hk : k < 6
    · obtain ⟨l, hi, hll, hpr⟩ := hidx.out k k0 hk
      have hf := fun w h => parse_any l 3 w hll h
      rw [hpr] at hf
      clear hpr hidx
      go_wp2_with fail
      go_at_call 26
      refine (refuses_any 5 _).mono ?_
      rintro e ua ⟨g, rfl, hc, hb⟩
      replace hB := belowVia hB hb
      replace hE := hE.keep hb
      clear hb
      go_wp2_with fail
      go_at_call 9
      (with_reducible refine (hf _ hE).mono ?_)
      rintro e ub ⟨rfl, hb⟩
      replace hc := dkeep hb hc
      replace hB := belowVia hB hb
      clear hb
      go_wp2_with fail
      go_at_call 60
      (with_reducible refine (refuses1_any 5 _ _ hc).mono ?_)
      rintro e uc ⟨rfl, rfl⟩
      clear hc
      go_wp2_with fail
      go_roundw
      case rel => exact ⟨k + 1, by omega, by omega, by go_num, hB⟩
      case measure => simp [intOf]; omega
    · clear hidx
      go_wp2_with fail
      go_at_call 26
      (with_reducible refine (wm9 _).mono ?_)
      rintro e ua9 ⟨g9, rfl, hc, hb⟩
      replace hB := belowVia hB hb
      replace hP := hP.keep hb
      replace hE := hE.keep hb
      clear hb
      go_wp2_with fail
      go_at_call 9
      (with_reducible refine (wf9 _ hP hE).mono ?_)
      rintro e ub9 ⟨rfl, hb⟩
      replace hc := dkeep hb hc
      replace hB := belowVia hB hb
      replace hP := hP.keep hb
      replace hE := hE.keep hb
      clear hb
      go_wp2_with fail
      go_at_call 60
      (with_reducible refine (wk9 _ _ hc).mono ?_)
      rintro e uc9 ⟨rfl, rfl⟩
      clear hc
      go_wp2_with fail
      go_at_call 26
      (with_reducible refine (wm10 _).mono ?_)
      rintro e ua10 ⟨g10, rfl, hc, hb⟩
      replace hB := belowVia hB hb
      replace hP := hP.keep hb
      replace hE := hE.keep hb
      clear hb
      go_wp2_with fail
      go_at_call 9
      (with_reducible refine (wf10 _ hP hE).mono ?_)
      rintro e ub10 ⟨rfl, hb⟩
      replace hc := dkeep hb hc
      replace hB := belowVia hB hb
      replace hP := hP.keep hb
      replace hE := hE.keep hb
      clear hb
      go_wp2_with fail
      go_at_call 60
      (with_reducible refine (wk10 _ _ hc).mono ?_)
      rintro e uc10 ⟨rfl, rfl⟩
      clear hc
      go_wp2_with fail
      go_at_call 17
      (with_reducible refine (wm11 _).mono ?_)
      rintro e ua11 ⟨g11, rfl, hc, hb⟩
      replace hB := belowVia hB hb
      replace hP := hP.keep hb
      replace hE := hE.keep hb
      clear hb
      go_wp2_with fail
      go_at_call 13
      (with_reducible refine (wf11 _ hP hE).mono ?_)
      rintro e ub11 ⟨rfl, hb⟩
      replace hc := dkeep hb hc
      replace hB := belowVia hB hb
      replace hP := hP.keep hb
      replace hE := hE.keep hb
      clear hb
      go_wp2_with fail
      go_at_call 44
      (with_reducible refine (wk11 _ _ hc).mono ?_)
      rintro e uc11 ⟨rfl, rfl⟩
      clear hc
      go_wp2_with fail
      go_at_call 17
      (with_reducible refine (wm12 _).mono ?_)
      rintro e ua12 ⟨g12, rfl, hc, hb⟩
      replace hB := belowVia hB hb
      replace hP := hP.keep hb
      replace hE := hE.keep hb
      clear hb
      go_wp2_with fail
      go_at_call 13
      (with_reducible refine (wf12 _ hP hE).mono ?_)
      rintro e ub12 ⟨rfl, hb⟩
      replace hc := dkeep hb hc
      replace hB := belowVia hB hb
      replace hP := hP.keep hb
      replace hE := hE.keep hb
      clear hb
      go_wp2_with fail
      go_at_call 44
      (with_reducible refine (wk12 _ _ hc).mono ?_)
      rintro e uc12 ⟨rfl, rfl⟩
      clear hc
      go_wp2_with fail
      go_at_call 17
      (with_reducible refine (wm13 _).mono ?_)
      rintro e ua13 ⟨g13, rfl, hc, hb⟩
      replace hB := belowVia hB hb
      replace hP := hP.keep hb
      replace hE := hE.keep hb
      clear hb
      go_wp2_with fail
      go_at_call 13
      (with_reducible refine (wf13 _ hP hE).mono ?_)
      rintro e ub13 ⟨rfl, hb⟩
      replace hc := dkeep hb hc
      replace hB := belowVia hB hb
      replace hP := hP.keep hb
      replace hE := hE.keep hb
      clear hb
      go_wp2_with fail
      go_at_call 44
      (with_reducible refine (wk13 _ _ hc).mono ?_)
      rintro e uc13 ⟨rfl, rfl⟩
      clear hc
      go_wp2_with fail
      go_at_call 17
      (with_reducible refine (wm14 _).mono ?_)
      rintro e ua14 ⟨g14, rfl, hc, hb⟩
      replace hB := belowVia hB hb
      replace hP := hP.keep hb
      replace hE := hE.keep hb
      clear hb
      go_wp2_with fail
      go_at_call 13
      (with_reducible refine (wf14 _ hP hE).mono ?_)
      rintro e ub14 ⟨rfl, hb⟩
      replace hc := dkeep hb hc
      replace hB := belowVia hB hb
      replace hP := hP.keep hb
      replace hE := hE.keep hb
      clear hb
      go_wp2_with fail
      go_at_call 44
      (with_reducible refine (wk14 _ _ hc).mono ?_)
      rintro e uc14 ⟨rfl, rfl⟩
      clear hc
      go_wp2_with fail
      go_at_call 17
      (with_reducible refine (wm15 _).mono ?_)
      rintro e ua15 ⟨g15, rfl, hc, hb⟩
      replace hB := belowVia hB hb
      replace hP := hP.keep hb
      replace hE := hE.keep hb
      clear hb
      go_wp2_with fail
      go_at_call 15
      (with_reducible refine (wf15 _ hP hE).mono ?_)
      rintro e ub15 ⟨rfl, hb⟩
      replace hc := dkeep hb hc
      replace hB := belowVia hB hb
      replace hP := hP.keep hb
      replace hE := hE.keep hb
      clear hb
      go_wp2_with fail
      go_at_call 44
      (with_reducible refine (wk15 _ _ hc).mono ?_)
      rintro e uc15 ⟨rfl, rfl⟩
      clear hc
      go_wp2_with fail
      go_at_call 24
      (with_reducible refine (wm16 _).mono ?_)
      rintro e ua16 ⟨g16, rfl, hc, hb⟩
      replace hB := belowVia hB hb
      replace hP := hP.keep hb
      replace hE := hE.keep hb
      clear hb
      go_wp2_with fail
      go_at_call 15
      (with_reducible refine (wf16 _ hP hE).mono ?_)
      rintro e ub16 ⟨rfl, hb⟩
      replace hc := dkeep hb hc
      replace hB := belowVia hB hb
      replace hP := hP.keep hb
      replace hE := hE.keep hb
      clear hb
      go_wp2_with fail
      go_at_call 58
      (with_reducible refine (wk16 _ _ hc).mono ?_)
      rintro e uc16 ⟨rfl, rfl⟩
      clear hc
      go_wp2
      go_ret
      exact ⟨rfl, hB⟩
end Go.Proofs.YtpjkdgdgjlldfaaGreatDoor
