/-
  Boxes of six cells in a region that draws its order.
-/
import Derived.Test.YtnfapdmbkpkkdaaVcL
import Derived.Test.YtnfapdmbkpkkdaaRg
namespace Go.Proofs.Ytnfapdmbkpkkdaa
open Go.RowKit

theorem Bn.setRow {w : World} {g : Nat} {old : Array Value} {t : TypeId} (h : Bn w g old t) (cs : Array Value) : Bn (w.setRow g cs) g cs t := by
  unfold Bn at *
  exact setRow_heap w g old cs t (0, 0) h
theorem Bn.farRow {w : World} {g k : Nat} {xs : Array Value} {t : TypeId} (h : Bn w k xs t) (hn : k ≠ g) (cs : Array Value) : Bn (w.setRow g cs) k xs t := by
  unfold Bn at *
  rw [setRow_other w g k cs hn]; exact h
theorem belowRow {B g : Nat} {v w : World} (h : Below B v w) (hg : B ≤ g) (cs : Array Value) : Below B v (w.setRow g cs) :=
  ⟨h.os, h.tape, h.output, by rw [size_setRow]; exact h.size, fun k hk => by
    rw [← h.block k hk]
    exact setRow_other w g k cs (by omega)⟩
theorem wpOp_plain {P : Program} {ops : Array Oper} {Q : Exit → Act → World → Prop} {i : Nat} {o : Oper} {K : Act → World → Prop} {a : Act} {w : World} (ho : ops[i]? = some o) (hg : o.guard = none)
    (h : ∀ K' : Act → World → Prop, (∀ a w, K a w → K' a w) → Oper.wp P o a w K' Q) : wpOp P ops Q i K a w :=
  wpOp_step ho fun K hK => by
    rw [if_pos (by unfold Region.wanted; rw [hg])]
    exact h K hK
theorem put_none (a : Act) (v : Value) : a.put none v = a := rfl
theorem load_step {P : Program} {ops : Array Oper} {Q : Exit → Act → World → Prop} {i : Nat} {K : Act → World → Prop} {a : Act} {w : World} (o : Oper) (ho : ops[i]? = some o) (hg : o.guard = none)
    (ty : TypeId) (x : Operand) (hop : o.op = .load ty x) (g : Nat) (hx : a.eval x = .pointer (some ⟨g, 0, none⟩)) (t : TypeId) (cs : Array Value) (hb : Bn w g cs t) (d : TypeDesc)
    (hu : P.underlying ty = some d) (hd : (match d with | .struct _ | .array _ _ => true | _ => false) = true) (hi : (P.info? ty).map (·.size) = some cs.size)
    (h : K (a.put o.dst (.agg cs)) w) : wpOp P ops Q i K a w :=
  wpOp_plain ho hg fun K' hK => wp_load_row ty x hop g hx t cs (0, 0) d hb hu hd hi (hK _ _ h)
theorem store_step {P : Program} {ops : Array Oper} {Q : Exit → Act → World → Prop} {i : Nat} {K : Act → World → Prop} {a : Act} {w : World} (o : Oper) (ho : ops[i]? = some o) (hg : o.guard = none)
    (ty : TypeId) (x y : Operand) (hop : o.op = .store ty x y) (g : Nat) (cs : Array Value) (hx : a.eval x = .pointer (some ⟨g, 0, none⟩)) (hy : a.eval y = .agg cs) (t : TypeId) (old : Array Value) (hb : Bn w g old t)
    (hi : (P.info? ty).map (·.size) = some cs.size) (ho' : old.size = cs.size) (h1 : cs.all (·.oneCell') = true)
    (h : K (a.put o.dst undef) (w.setRow g cs)) : wpOp P ops Q i K a w :=
  wpOp_plain ho hg fun K' hK => wp_store_row ty x y hop g cs hx hy t old hb hi ho' h1 (hK _ _ h)
/-- A box of six cells, not below B, once it has been laid (l); it holds y once it has been stored into (s). -/
def BnI (B : Nat) (t : TypeId) (l s : Bool) (w : World) (x y : Value) : Prop :=
  l = true → ∃ (g : Nat) (u0 u1 u2 u3 u4 u5 : Value), x = .pointer (some ⟨g, 0, none⟩) ∧ B ≤ g ∧ Bn w g #[u0, u1, u2, u3, u4, u5] t ∧ (s = true → y = .agg #[u0, u1, u2, u3, u4, u5])
theorem BnI.keep {B : Nat} {t : TypeId} {l s : Bool} {w w' : World} {x y : Value} (h : BnI B t l s w x y) (hb : Below w.heap.size w w') : BnI B t l s w' x y := fun e => by
  obtain ⟨g, u0, u1, u2, u3, u4, u5, h0, h1, h2, h3⟩ := h e
  exact ⟨g, u0, u1, u2, u3, u4, u5, h0, h1, h2.keep hb, h3⟩
theorem BnI.alloc {B : Nat} {t : TypeId} {l s : Bool} {w : World} {x y : Value} (h : BnI B t l s w x y) (o : Obj) : BnI B t l s (w.alloc o) x y := h.keep ((Below.refl _ _).alloc (Nat.le_refl _) o)
theorem BnI.val {B : Nat} {t : TypeId} {l : Bool} {w : World} {x y z : Value} (h : BnI B t l false w x y) : BnI B t l false w x z := fun e => by
  obtain ⟨g, u0, u1, u2, u3, u4, u5, h0, h1, h2, _⟩ := h e
  exact ⟨g, u0, u1, u2, u3, u4, u5, h0, h1, h2, fun h => by cases h⟩
theorem BnI.ne {B : Nat} {t : TypeId} {l s : Bool} {w : World} {x y : Value} (h : BnI B t l s w x y) (e : l = true) : x ≠ .pointer (some ⟨w.heap.size, 0, none⟩) := by
  obtain ⟨g, u0, u1, u2, u3, u4, u5, rfl, h1, h2, h3⟩ := h e
  have := h2.lt
  intro k
  simp only [Value.pointer.injEq, Option.some.injEq, Addr.mk.injEq] at k
  omega
theorem BnI.far {B : Nat} {t : TypeId} {l s : Bool} {w : World} {x y : Value} {gx : Nat} (h : BnI B t l s w x y) (hn : l = true → x ≠ .pointer (some ⟨gx, 0, none⟩)) (cs : Array Value) : BnI B t l s (w.setRow gx cs) x y := fun e => by
  obtain ⟨g, u0, u1, u2, u3, u4, u5, rfl, h1, h2, h3⟩ := h e
  have hg : g ≠ gx := fun c => hn e (by rw [c])
  exact ⟨g, u0, u1, u2, u3, u4, u5, rfl, h1, h2.farRow hg cs, h3⟩
end Go.Proofs.Ytnfapdmbkpkkdaa
