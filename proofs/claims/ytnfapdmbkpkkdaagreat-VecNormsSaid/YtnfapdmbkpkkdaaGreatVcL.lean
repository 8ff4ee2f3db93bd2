/-
  What the walks over pairs of vectors share.
-/
import Derived.Test.YtnfapdmbkpkkdaaGreatVcJ
namespace Go.Proofs.YtnfapdmbkpkkdaaGreat
open Go.RowKit

theorem Bn.set2 {w : World} {g : Nat} {o0 o1 : Value} {t : TypeId} (h : Bn w g #[o0, o1] t) (u0 u1 : Value) : Bn ((w.setCell ⟨g, 0, none⟩ u0).setCell ⟨g, 1, none⟩ u1) g #[u0, u1] t := by
  have h0 : Bn (w.setCell ⟨g, 0, none⟩ u0) g #[u0, o1] t := by
    unfold Bn
    rw [heap_setCell_same w g 0 _ t u0 h]; rfl
  have h1 : Bn ((w.setCell ⟨g, 0, none⟩ u0).setCell ⟨g, 1, none⟩ u1) g #[u0, u1] t := by
    unfold Bn
    rw [heap_setCell_same (w.setCell ⟨g, 0, none⟩ u0) g 1 _ t u1 h0]; rfl
  exact h1
theorem Bn.set6 {w : World} {g : Nat} {o0 o1 o2 o3 o4 o5 : Value} {t : TypeId} (h : Bn w g #[o0, o1, o2, o3, o4, o5] t) (u0 u1 u2 u3 u4 u5 : Value) : Bn ((((((w.setCell ⟨g, 0, none⟩ u0).setCell ⟨g, 1, none⟩ u1).setCell ⟨g, 2, none⟩ u2).setCell ⟨g, 3, none⟩ u3).setCell ⟨g, 4, none⟩ u4).setCell ⟨g, 5, none⟩ u5) g #[u0, u1, u2, u3, u4, u5] t := by
  have h0 : Bn (w.setCell ⟨g, 0, none⟩ u0) g #[u0, o1, o2, o3, o4, o5] t := by
    unfold Bn
    rw [heap_setCell_same w g 0 _ t u0 h]; rfl
  have h1 : Bn ((w.setCell ⟨g, 0, none⟩ u0).setCell ⟨g, 1, none⟩ u1) g #[u0, u1, o2, o3, o4, o5] t := by
    unfold Bn
    rw [heap_setCell_same (w.setCell ⟨g, 0, none⟩ u0) g 1 _ t u1 h0]; rfl
  have h2 : Bn (((w.setCell ⟨g, 0, none⟩ u0).setCell ⟨g, 1, none⟩ u1).setCell ⟨g, 2, none⟩ u2) g #[u0, u1, u2, o3, o4, o5] t := by
    unfold Bn
    rw [heap_setCell_same ((w.setCell ⟨g, 0, none⟩ u0).setCell ⟨g, 1, none⟩ u1) g 2 _ t u2 h1]; rfl
  have h3 : Bn ((((w.setCell ⟨g, 0, none⟩ u0).setCell ⟨g, 1, none⟩ u1).setCell ⟨g, 2, none⟩ u2).setCell ⟨g, 3, none⟩ u3) g #[u0, u1, u2, u3, o4, o5] t := by
    unfold Bn
    rw [heap_setCell_same (((w.setCell ⟨g, 0, none⟩ u0).setCell ⟨g, 1, none⟩ u1).setCell ⟨g, 2, none⟩ u2) g 3 _ t u3 h2]; rfl
  have h4 : Bn (((((w.setCell ⟨g, 0, none⟩ u0).setCell ⟨g, 1, none⟩ u1).setCell ⟨g, 2, none⟩ u2).setCell ⟨g, 3, none⟩ u3).setCell ⟨g, 4, none⟩ u4) g #[u0, u1, u2, u3, u4, o5] t := by
    unfold Bn
    rw [heap_setCell_same ((((w.setCell ⟨g, 0, none⟩ u0).setCell ⟨g, 1, none⟩ u1).setCell ⟨g, 2, none⟩ u2).setCell ⟨g, 3, none⟩ u3) g 4 _ t u4 h3]; rfl
  have h5 : Bn ((((((w.setCell ⟨g, 0, none⟩ u0).setCell ⟨g, 1, none⟩ u1).setCell ⟨g, 2, none⟩ u2).setCell ⟨g, 3, none⟩ u3).setCell ⟨g, 4, none⟩ u4).setCell ⟨g, 5, none⟩ u5) g #[u0, u1, u2, u3, u4, u5] t := by
    unfold Bn
    rw [heap_setCell_same (((((w.setCell ⟨g, 0, none⟩ u0).setCell ⟨g, 1, none⟩ u1).setCell ⟨g, 2, none⟩ u2).setCell ⟨g, 3, none⟩ u3).setCell ⟨g, 4, none⟩ u4) g 5 _ t u5 h4]; rfl
  exact h5
theorem eqV_self (a0 a1 a2 a3 a4 a5 : Int) (w : World) : (Op.equalIn 10000 25 (.agg #[.int .i64 a0, .int .i64 a1, .int .i64 a2, .int .i64 a3, .int .i64 a4, .int .i64 a5]) (.agg #[.int .i64 a0, .int .i64 a1, .int .i64 a2, .int .i64 a3, .int .i64 a4, .int .i64 a5])).run Tryz.prog w = .ok true w := by
  have := eqVec_run 9997 a0 a1 a2 a3 a4 a5 a0 a1 a2 a3 a4 a5 w
  simpa using this
theorem bnFst {v : World} {c1 c2 : Array Value} {t1 t2 : TypeId} : Bn ((v.alloc (.cells c1 t1)).alloc (.cells c2 t2)) v.heap.size c1 t1 := (Bn.new v c1 t1).alloc _
theorem bnSnd {v : World} {c1 c2 : Array Value} {t1 t2 : TypeId} : Bn ((v.alloc (.cells c1 t1)).alloc (.cells c2 t2)) (v.heap.size + 1) c2 t2 := by
  have h := Bn.new (v.alloc (.cells c1 t1)) c2 t2
  rw [show (v.alloc (.cells c1 t1)).heap.size = v.heap.size + 1 by simp] at h
  exact h
end Go.Proofs.YtnfapdmbkpkkdaaGreat
