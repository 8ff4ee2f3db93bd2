/-
  What the listed variable gives a walk; the start that fits.
-/
import Derived.Test.YtabnpidmhmebfaaDoorSpR
import Derived.Test.YtabnpidmhmebfaaDoorTie
import Derived.Test.YtabnpidmhmebfaaDoorCards
import Derived.ProofKit
import Derived.LaidMore
import Derived.OpenShut
import Derived.Stop.Joined
import Derived.SevenTiedAt
import Derived.Lib.LaidTab
import Derived.Lib.SmallJoins
namespace Go.Proofs.YtabnpidmhmebfaaDoor
open Go.ChangeShapes Go.WideShapes Go.ChangeAt Go.WideMaps Go.WideElems Go.RowKit

theorem own : ownKnob Tryd.prog.godebug = none := by kernel_rfl
theorem gTens : Tryd.prog.globalNamed "monocle/fix.tens" = some 0 := by kernel_rfl
theorem tTens : (Tryd.prog.globals[0]?).map (·.type) = some 77 := by kernel_rfl
def laidTens : List (String × DataW Unit) := [("monocle/fix.tens", Rows.laid_monocle_fix_tens)]

theorem door_met (os : Os) (args : Array Value) : laidMetH Tryd.prog laidTens ((World.doorLaid Tryd.prog 400 os).forCall (fun _ _ => 0) ⟨#[], args, []⟩).memory :=
  laidMetH_of_parts3 (fuel := 8) (laidMet_of_run' 8 (by kernel_rfl) (by kernel_rfl)) (by kernel_rfl) (by kernel_rfl)

theorem tens_of_laid {W : World} (h : laidMetH Tryd.prog laidTens W) : Tens W := by
  rw [MakeChecks.laidMetH_plain _ _ _ (by kernel_rfl)] at h
  obtain ⟨ps, ⟨g0, t0, cs0, f0, p0, q0, hg0, ht0, hv0, hd0, _, _⟩, _, _⟩ := h
  obtain rfl := Option.some.inj (gTens.symm.trans hg0)
  obtain rfl := Option.some.inj (tTens.symm.trans ht0)
  have hcs := Lib.cells_of_tab (zs := [1, 10, 100, 1000, 10000, 100000, 1000000, 10000000, 100000000, 1000000000, 10000000000, 100000000000, 1000000000000]) Tryd.underlying77 Tryd.underlying3 (by kernel_rfl) (by kernel_rfl) hd0
  intro k hk
  have := World.var?_cell hg0 hv0 k
  rw [this]
  obtain ⟨l⟩ := cs0
  simp only at hcs
  subst hcs
  match k, hk with
  | 0, _ => rfl
  | 1, _ => rfl
  | 2, _ => rfl
  | 3, _ => rfl
  | 4, _ => rfl
  | 5, _ => rfl
  | 6, _ => rfl
  | 7, _ => rfl
  | 8, _ => rfl
  | 9, _ => rfl
  | 10, _ => rfl
  | 11, _ => rfl
  | 12, _ => rfl

end Go.Proofs.YtabnpidmhmebfaaDoor
