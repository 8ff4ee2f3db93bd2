/-
  What the texts of the reference stand on: copies of a few lemmas (LrE, LrH, LrJ, LrS); not to be imported beside those.
-/
import Derived.Test.YtoppdbgodceaiaaDoorLrA
import Derived.Test.YtoppdbgodceaiaaDoorLrT
import Derived.Test.YtoppdbgodceaiaaDoorLiQ
import Derived.Deep.Cut
namespace Go.Proofs.YtoppdbgodceaiaaDoor
open Go.RowKit

theorem Lg.form {w : World} {V : Value} {z : Int} (h : Lg w V z) : ∃ a c, V = .agg #[.bool (decide (z < 0)), .slice a (Dl z) c] ∧ Ls w (.slice a (Dl z) c) (dg (z.natAbs : Int)) := by
  obtain ⟨s, rfl, h⟩ := h
  have h' := h
  obtain ⟨a, c, rfl, _, _⟩ := h
  exact ⟨a, c, rfl, h'⟩
def OkE (z er : Int) (e : Ending) (w' : World) : Prop := ∃ p a n c, e = .returned (.tuple #[.agg #[.bool p, .slice a n c], .int .i64 er]) ∧ Lg w' (.agg #[.bool p, .slice a n c]) z
theorem OkL.e {z : Int} {e : Ending} {w : World} (h : OkL z e w) : OkE z 0 e w := h
theorem Ls.at {w : World} {pa : Option Addr} {ca k n : Nat} {l : List Int} (h : Ls w (.slice pa n ca) l) (hk : k < l.length) : ∃ g o, pa = some ⟨g, o, none⟩ ∧ w.cell? ⟨g, o + k, none⟩ = some (.int .i64 (el l k)) := by
  obtain ⟨pp, cc, e1, _, e2⟩ := h
  obtain ⟨g, f, e3, e4⟩ := e2 (by omega)
  cases e1
  exact ⟨g, f, e3, e4 k hk⟩
theorem own_slice {w : World} {base : Nat} {e : TypeId} {v : Value} {n : Nat} {xs : List Value} (h : w.ownsRow base e 1 v n xs) : ∃ a c, v = .slice a n c := by
  rcases h.2 with ⟨rfl, hz⟩ | ⟨g, cap, cur, rfl, _⟩
  · exact ⟨none, 0, by rw [hz]⟩
  · exact ⟨_, cap, rfl⟩
theorem lg_any {w : World} {b : Bool} {s : Value} {l : List Int} (h : Ls w s l) (hc : ckL b l = 0) : Lg w (.agg #[.bool b, s]) (numL b l) ∧ Dl (numL b l) = l.length := by
  obtain ⟨e1, e2, _⟩ := ckL_lg hc
  exact ⟨⟨s, by rw [← e1], by rw [← e2]; exact h⟩, by unfold Dl; rw [← e2]⟩
theorem ckB (b : Bool) (l : List Int) : ckL b l = 0 ∨ ckL b l = 30 := by unfold ckL; split <;> simp
theorem okE_zero (er : Int) (w : World) : OkE 0 er (.returned (.tuple #[noL, .int .i64 er])) w := ⟨_, _, _, _, rfl, Lg.zero w⟩
set_option maxRecDepth 100000 in
set_option maxHeartbeats 1000000 in
theorem alike_true (A B : Value) (z er : Int) (w : World) (hA : Lg w A z) (hB0 : Lg w B z) (ld : Dl z ≤ 600) :
    Calls Tryd.prog 35 #[A, .int .i64 er, B, .int .i64 er] w fun e w' => e = .returned (.bool true) ∧ Below w.heap.size w w' := by
  obtain ⟨pa, ca, rfl, _⟩ := hA.form
  obtain ⟨pb, cb, rfl, _⟩ := hB0.form
  have hs := fun w h h' => same_lg (.agg #[.bool (decide (z < 0)), .slice pa (Dl z) ca]) (.agg #[.bool (decide (z < 0)), .slice pb (Dl z) cb]) z w h h' ld
  generalize decide (z < 0) = b at *
  generalize Dl z = n at *
  have hB : Below w.heap.size w ((w.alloc (.cells #[.bool b, .slice pa n ca] 24)).alloc (.cells #[.bool b, .slice pb n cb] 24)) := by (repeat (first | with_reducible exact Below.refl _ _ | with_reducible assumption | refine Below.alloc ?_ (by (try simp); try omega) _ | refine Below.setCell ?_ (by (try simp); try omega) _ | refine below_drewN ?_ _ | refine Below.drew ?_ | (with_reducible refine Below.trans ?_ (Below.mono (by assumption) (by (try simp); try omega)))))
  have bA : Bx ((w.alloc (.cells #[.bool b, .slice pa n ca] 24)).alloc (.cells #[.bool b, .slice pb n cb] 24)) (w.heap.size) (.bool b) (.slice pa n ca) 24 := by exact ((Bx.new w (.bool b) (.slice pa n ca) 24).alloc (.cells #[.bool b, .slice pb n cb] 24))
  have bB : Bx ((w.alloc (.cells #[.bool b, .slice pa n ca] 24)).alloc (.cells #[.bool b, .slice pb n cb] 24)) (w.heap.size + 1) (.bool b) (.slice pb n cb) 24 := by have := (Bx.new (w.alloc (.cells #[.bool b, .slice pa n ca] 24)) (.bool b) (.slice pb n cb) 24); simpa using this
  have rbA0 := bA.c0
  have rbA1 := bA.c1
  have rbB0 := bB.c0
  have rbB1 := bB.c1
  replace hA := hA.keep hB
  replace hB0 := hB0.keep hB
  go_enter Tryd.func35, Tryd.ntmps35
  go_wp2_with fail
  go_at_call 27
  refine (hs _ hA hB0).mono ?_
  rintro e w3 ⟨rfl, hb⟩
  replace hB := hB.trans (hb.mono hB.size)
  clear hA hB0 bA bB rbA0 rbA1 rbB0 rbB1 hs hb
  go_wp2
  go_ret
  exact ⟨rfl, hB⟩
end Go.Proofs.YtoppdbgodceaiaaDoor
