/-
  Package span: the iterator over the results at the ends of two intervals, and keep.
-/
import Derived.Test.YtdaignklmbmcnaaSpC
namespace Go.Proofs.Ytdaignklmbmcnaa
open Go.RowKit Go.Shelf

attribute [local go_sem] Oper.semAt_some

abbrev spEnc (x : Int × Int × Int) : Array Value := #[.agg #[.int .i64 x.1, .int .i64 x.2.1], .int .i64 x.2.2]
def four (f : Int → Int → Int × Int × Int) (a b c d : Int) : List (Int × Int × Int) := [f a c, f a d, f b c, f b d]

theorem results_any (v1 v2 a b c d : Value) (w : World) :
    Calls Try.prog 57 #[.agg #[v1, v2], .agg #[a, b], .agg #[c, d]] w fun e w' => e = .returned (.func (.func 70) #[] #[.pointer (some ⟨w.heap.size + 1, 0, none⟩), .pointer (some ⟨w.heap.size + 1 + 1, 0, none⟩), .pointer (some ⟨w.heap.size, 0, none⟩)]) ∧
      w' = ((w.alloc (.cells #[v1, v2] 63)).alloc (.cells #[a, b] 24)).alloc (.cells #[c, d] 24) := by
  have hmf : ∀ (fn : Fn) (first cap : Array Value) (w : World), (Instr.makeFunc fn first cap).run Try.prog w = .ok (.func fn first cap) w := fun _ _ _ _ => rfl
  go_enter Try.func57, Try.ntmps57
  go_wp2
  go_ret
  exact ⟨rfl, rfl⟩

theorem keep_any (l h x y : Int) (q : Nat) (w : World) (hq : w.cell? ⟨q, 0, none⟩ = some (.int .i64 x)) (hq1 : w.cell? ⟨q, 1, none⟩ = some (.int .i64 y)) (hz : w.frozen? ⟨q, 0, none⟩ = false) (hz1 : w.frozen? ⟨q, 1, none⟩ = false) (mn mx : Int) (hmn : min x l = mn) (hmx : max y h = mx) :
    Calls Try.prog 56 #[.agg #[.int .i64 l, .int .i64 h], .pointer (some ⟨q, 0, none⟩)] w fun e w' => (∃ v, e = .returned v) ∧ w' = ((w.setCell ⟨q, 0, none⟩ (.int .i64 mn)).setCell ⟨q, 1, none⟩ (.int .i64 mx)).alloc (.cells #[.int .i64 l, .int .i64 h] 24) := by
  have hlt := World.block_lt_of_cell? w _ hq
  simp at hlt
  have hne : w.heap.size ≠ q := by omega
  go_enter Try.func56, Try.ntmps56
  go_wp2
  go_end0
  exact ⟨⟨_, rfl⟩, rfl⟩

set_option maxRecDepth 100000 in
set_option maxHeartbeats 4000000 in
/-- The iterator, for every body of a loop that keeps what lay below n₀. -/
theorem res1_in (n : Nat) (hn : 1 ≤ n) (g1 g2 : Nat) (f : Int → Int → Int × Int × Int)
    (hat : ∀ (x y : Int) (w : World), Calls Try.prog 71 #[.agg #[.func (.func g1) #[] #[], .func (.func g2) #[] #[]], .int .i64 x, .int .i64 y] w fun e w' => e = .returned (.tuple #[.agg #[.int .i64 (f x y).1, .int .i64 (f x y).2.1], .int .i64 (f x y).2.2]) ∧ Below w.heap.size w w')
    (l pa pb po : Nat) (Kp : World → World → Prop) (hKp : ∀ W W', Kp W W' → ∀ q o, q = pa ∨ q = pb ∨ q = po → W'.cell? ⟨q, o, none⟩ = W.cell? ⟨q, o, none⟩) (a b c d : Int) (J Jx : List (Int × Int × Int) → World → Prop)
    (hJn : ∀ s W W', J s W → Below W.heap.size W W' → J s W')
    (hY : ∀ pre x W, J pre W → pre.length < 4 → YieldAt Fence.wide (n - 1) Try.prog l (spEnc x) W fun e W' =>
      (e = .returned (.bool true) ∧ J (pre ++ [x]) W' ∧ Kp W W') ∨ (e = .returned (.bool false) ∧ Jx (pre ++ [x]) W'))
    (W : World) (ca0 : W.cell? ⟨pa, 0, none⟩ = some (.int .i64 a)) (cb0 : W.cell? ⟨pa, 1, none⟩ = some (.int .i64 b)) (cc0 : W.cell? ⟨pb, 0, none⟩ = some (.int .i64 c)) (cd0 : W.cell? ⟨pb, 1, none⟩ = some (.int .i64 d))
    (co0 : W.cell? ⟨po, 0, none⟩ = some (.func (.func g1) #[] #[])) (cp0 : W.cell? ⟨po, 1, none⟩ = some (.func (.func g2) #[] #[])) (j0' : J [] W) :
    CallsIn Fence.wide n Try.prog 70 #[.func (.yield l) #[] #[], .pointer (some ⟨pa, 0, none⟩), .pointer (some ⟨pb, 0, none⟩), .pointer (some ⟨po, 0, none⟩)] W fun e W' => (∃ v, e = .returned v) ∧
      ((∃ ys, ys = four f a b c d ∧ J ys W') ∨ (∃ pre, pre <+: four f a b c d ∧ Jx pre W')) := by
  refine callsIn_of_wp Try.func70 rfl trivial ?_ rfl
  simp only [Try.ntmps70, List.size_toArray, List.length_cons, List.length_nil, Nat.reduceAdd, Nat.reduceSub, Array.replicate_succ, Array.replicate_zero, List.push_toArray, List.append_toArray, List.nil_append, List.cons_append]
  have x0 : ∀ (p q : Int) w, (Instr.index 80 (.agg #[.int .i64 p, .int .i64 q]) (.int .i64 0)).run Try.prog w = .ok (.int .i64 p) w := fun _ _ _ => by kernel_rfl
  have x1 : ∀ (p q : Int) w, (Instr.index 80 (.agg #[.int .i64 p, .int .i64 q]) (.int .i64 1)).run Try.prog w = .ok (.int .i64 q) w := fun _ _ _ => by kernel_rfl
  gi_wp2
  refine wpIn_loop_rounds 3 ?_
  rw [roundsIn_succ]
  gi_wp2
  refine wpIn_loop_rounds 3 ?_
  rw [roundsIn_succ]
  gi_wp2_with (refine ⟨trivial, ?_⟩; gi_at_call 71; refine (callsIn_wide.2 (hat a c _)).mono ?_; rintro e w1 ⟨rfl, hb1⟩; have j1 := hJn _ _ _ j0' hb1; obtain ⟨fn1, t1, as1, bd1, hy1, hR1⟩ := hY _ (f a c) w1 j1 (by simp); dsimp only [spEnc] at hy1)
  refine hR1.mono ?_
  rintro e W1 (⟨rfl, j1', hk1⟩ | ⟨rfl, hx1⟩)
  · clear hR1 hy1
    have ca1 : W1.cell? ⟨pa, 0, none⟩ = some (.int .i64 a) := (hKp _ _ hk1 pa 0 (by simp)).trans (bkeep hb1 ca0)
    have cb1 : W1.cell? ⟨pa, 1, none⟩ = some (.int .i64 b) := (hKp _ _ hk1 pa 1 (by simp)).trans (bkeep hb1 cb0)
    have cc1 : W1.cell? ⟨pb, 0, none⟩ = some (.int .i64 c) := (hKp _ _ hk1 pb 0 (by simp)).trans (bkeep hb1 cc0)
    have cd1 : W1.cell? ⟨pb, 1, none⟩ = some (.int .i64 d) := (hKp _ _ hk1 pb 1 (by simp)).trans (bkeep hb1 cd0)
    have co1 : W1.cell? ⟨po, 0, none⟩ = some (.func (.func g1) #[] #[]) := (hKp _ _ hk1 po 0 (by simp)).trans (bkeep hb1 co0)
    have cp1 : W1.cell? ⟨po, 1, none⟩ = some (.func (.func g2) #[] #[]) := (hKp _ _ hk1 po 1 (by simp)).trans (bkeep hb1 cp0)
    clear ca0 cb0 cc0 cd0 co0 cp0
    gi_wp2
    rw [roundsIn_succ]
    gi_wp2_with (refine ⟨trivial, ?_⟩; gi_at_call 71; refine (callsIn_wide.2 (hat a d _)).mono ?_; rintro e w2 ⟨rfl, hb2⟩; have j2 := hJn _ _ _ j1' hb2; obtain ⟨fn2, t2, as2, bd2, hy2, hR2⟩ := hY _ (f a d) w2 j2 (by simp); dsimp only [spEnc] at hy2)
    refine hR2.mono ?_
    rintro e W2 (⟨rfl, j2', hk2⟩ | ⟨rfl, hx2⟩)
    · clear hR2 hy2
      have ca2 : W2.cell? ⟨pa, 0, none⟩ = some (.int .i64 a) := (hKp _ _ hk2 pa 0 (by simp)).trans (bkeep hb2 ca1)
      have cb2 : W2.cell? ⟨pa, 1, none⟩ = some (.int .i64 b) := (hKp _ _ hk2 pa 1 (by simp)).trans (bkeep hb2 cb1)
      have cc2 : W2.cell? ⟨pb, 0, none⟩ = some (.int .i64 c) := (hKp _ _ hk2 pb 0 (by simp)).trans (bkeep hb2 cc1)
      have cd2 : W2.cell? ⟨pb, 1, none⟩ = some (.int .i64 d) := (hKp _ _ hk2 pb 1 (by simp)).trans (bkeep hb2 cd1)
      have co2 : W2.cell? ⟨po, 0, none⟩ = some (.func (.func g1) #[] #[]) := (hKp _ _ hk2 po 0 (by simp)).trans (bkeep hb2 co1)
      have cp2 : W2.cell? ⟨po, 1, none⟩ = some (.func (.func g2) #[] #[]) := (hKp _ _ hk2 po 1 (by simp)).trans (bkeep hb2 cp1)
      clear ca1 cb1 cc1 cd1 co1 cp1
      gi_wp2
      rw [roundsIn_succ]
      gi_wp2
      rw [roundsIn_succ]
      gi_wp2
      refine wpIn_loop_rounds 3 ?_
      rw [roundsIn_succ]
      gi_wp2_with (refine ⟨trivial, ?_⟩; gi_at_call 71; refine (callsIn_wide.2 (hat b c _)).mono ?_; rintro e w3 ⟨rfl, hb3⟩; have j3 := hJn _ _ _ j2' hb3; obtain ⟨fn3, t3, as3, bd3, hy3, hR3⟩ := hY _ (f b c) w3 j3 (by simp); dsimp only [spEnc] at hy3)
      refine hR3.mono ?_
      rintro e W3 (⟨rfl, j3', hk3⟩ | ⟨rfl, hx3⟩)
      · clear hR3 hy3
        have ca3 : W3.cell? ⟨pa, 0, none⟩ = some (.int .i64 a) := (hKp _ _ hk3 pa 0 (by simp)).trans (bkeep hb3 ca2)
        have cb3 : W3.cell? ⟨pa, 1, none⟩ = some (.int .i64 b) := (hKp _ _ hk3 pa 1 (by simp)).trans (bkeep hb3 cb2)
        have cc3 : W3.cell? ⟨pb, 0, none⟩ = some (.int .i64 c) := (hKp _ _ hk3 pb 0 (by simp)).trans (bkeep hb3 cc2)
        have cd3 : W3.cell? ⟨pb, 1, none⟩ = some (.int .i64 d) := (hKp _ _ hk3 pb 1 (by simp)).trans (bkeep hb3 cd2)
        have co3 : W3.cell? ⟨po, 0, none⟩ = some (.func (.func g1) #[] #[]) := (hKp _ _ hk3 po 0 (by simp)).trans (bkeep hb3 co2)
        have cp3 : W3.cell? ⟨po, 1, none⟩ = some (.func (.func g2) #[] #[]) := (hKp _ _ hk3 po 1 (by simp)).trans (bkeep hb3 cp2)
        clear ca2 cb2 cc2 cd2 co2 cp2
        gi_wp2
        rw [roundsIn_succ]
        gi_wp2_with (refine ⟨trivial, ?_⟩; gi_at_call 71; refine (callsIn_wide.2 (hat b d _)).mono ?_; rintro e w4 ⟨rfl, hb4⟩; have j4 := hJn _ _ _ j3' hb4; obtain ⟨fn4, t4, as4, bd4, hy4, hR4⟩ := hY _ (f b d) w4 j4 (by simp); dsimp only [spEnc] at hy4)
        refine hR4.mono ?_
        rintro e W4 (⟨rfl, j4', hk4⟩ | ⟨rfl, hx4⟩)
        · clear hR4 hy4
          have ca4 : W4.cell? ⟨pa, 0, none⟩ = some (.int .i64 a) := (hKp _ _ hk4 pa 0 (by simp)).trans (bkeep hb4 ca3)
          have cb4 : W4.cell? ⟨pa, 1, none⟩ = some (.int .i64 b) := (hKp _ _ hk4 pa 1 (by simp)).trans (bkeep hb4 cb3)
          have cc4 : W4.cell? ⟨pb, 0, none⟩ = some (.int .i64 c) := (hKp _ _ hk4 pb 0 (by simp)).trans (bkeep hb4 cc3)
          have cd4 : W4.cell? ⟨pb, 1, none⟩ = some (.int .i64 d) := (hKp _ _ hk4 pb 1 (by simp)).trans (bkeep hb4 cd3)
          have co4 : W4.cell? ⟨po, 0, none⟩ = some (.func (.func g1) #[] #[]) := (hKp _ _ hk4 po 0 (by simp)).trans (bkeep hb4 co3)
          have cp4 : W4.cell? ⟨po, 1, none⟩ = some (.func (.func g2) #[] #[]) := (hKp _ _ hk4 po 1 (by simp)).trans (bkeep hb4 cp3)
          clear ca3 cb3 cc3 cd3 co3 cp3
          gi_wp2
          rw [roundsIn_succ]
          gi_wp2
          rw [roundsIn_succ]
          gi_wp2
          go_end0
          exact ⟨⟨_, rfl⟩, .inl ⟨_, rfl, j4'⟩⟩
        · gi_wp2
          refine bodyPost_ret (results_none rfl _ _ _) rfl ?_
          exact ⟨⟨_, rfl⟩, .inr ⟨[f a c, f a d, f b c, f b d], by simp [four], hx4⟩⟩
      · gi_wp2
        refine bodyPost_ret (results_none rfl _ _ _) rfl ?_
        exact ⟨⟨_, rfl⟩, .inr ⟨[f a c, f a d, f b c], by simp [four], hx3⟩⟩
    · gi_wp2
      refine bodyPost_ret (results_none rfl _ _ _) rfl ?_
      exact ⟨⟨_, rfl⟩, .inr ⟨[f a c, f a d], by simp [four], hx2⟩⟩
  · gi_wp2
    refine bodyPost_ret (results_none rfl _ _ _) rfl ?_
    exact ⟨⟨_, rfl⟩, .inr ⟨[f a c], by simp [four], hx1⟩⟩

end Go.Proofs.Ytdaignklmbmcnaa
