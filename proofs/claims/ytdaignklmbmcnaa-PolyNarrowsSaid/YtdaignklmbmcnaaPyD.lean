/-
  Package poly: derivative, Eval, Slope.
-/
import Derived.Test.YtdaignklmbmcnaaPyC
import Derived.Laws.CopyRow
import Derived.OwnWalk
namespace Go.Proofs.Ytdaignklmbmcnaa
open Go.RowKit

section copies
variable {P : Program}
/-- All elements of a slice over a row of its own length. -/
theorem run_copy_whole (w : World) (dT sT ty elem : TypeId) (size n g dCap sCap : Nat) (ad : Addr) (cur : Array Value) (t : TypeId) (cs : List Value)
    (hu : P.underlying dT = some (.slice elem)) (hs : (P.info? elem).map (·.size) = some size) (hg : w.heap[g]? = some (.cells cur t (0, 0))) (hl : cs.length = n * size) (hcur : cur.size = n * size)
    (hsrc : ∀ j v, cs[j]? = some v → w.cell? (ad.add j) = some v) (h1 : ∀ v ∈ cs, v.oneCell' = true) :
    (Builtin.copy_ #[dT, sT] ty #[.slice (some ⟨g, 0, none⟩) n dCap, .slice (some ad) n sCap]).run P w = .ok (goInt n) (w.setRow g cs.toArray) := by
  have hst := run_storeCells_at P g 0 t cs 0 cur w hg (by omega) h1
  have e : (cur.toList.take (0 + 0) ++ cs ++ cur.toList.drop (0 + 0 + cs.length)) = cs := by
    rw [List.drop_eq_nil_of_le (by simp; omega)]; simp
  rw [e] at hst
  cases hq : P.info? elem with
  | none => simp [hq] at hs
  | some i =>
    have hi : i.size = size := by simpa [hq] using hs
    have hf := run_firstCells_some (P := P) w i.size n ad n sCap cs (by rw [hi]; exact hl) hsrc
    simp [Builtin.copy_, run_underlying hu, Builtin.lenOf, sizeOf, typeInfo, hq, hf, hst]
theorem run_copy_empty (w : World) (dT sT ty elem : TypeId) (size : Nat) (d a : Option Addr) (dLen dCap sLen sCap : Nat) (hu : P.underlying dT = some (.slice elem)) (hs : (P.info? elem).map (·.size) = some size) (hn : Nat.min sLen dLen = 0) :
    (Builtin.copy_ #[dT, sT] ty #[.slice d dLen dCap, .slice a sLen sCap]).run P w = .ok (goInt 0) w := by
  cases hq : P.info? elem with
  | none => simp [hq] at hs
  | some i =>
    have hl : ∀ (x : Addr), (loadCells x 0).run P w = .ok #[] w := fun x => by simpa using run_loadCells_list (P := P) w x [] (by simp)
    cases d <;> cases a <;> simp [Builtin.copy_, run_underlying hu, Builtin.lenOf, Builtin.firstCells, sizeOf, typeInfo, hq, hn, storeCells, hl]
theorem wpList_copy_whole {w : World} {ops : Array Oper} {rest : List Oper} {o : Oper} {a : Act} {Q : Exit → Act → World → Prop} (hgd : o.guard = none) (d s : Operand) (dT sT : TypeId)
    (ho : o.op = .call { callee := .builtin .copy, args := #[d, s], argTypes := #[dT, sT] }) (elem : TypeId) (hu : P.underlying dT = some (.slice elem)) (size n g dCap sCap : Nat) (hs : (P.info? elem).map (·.size) = some size) (ad : Addr)
    (hd : a.eval d = .slice (some ⟨g, 0, none⟩) n dCap) (hx : a.eval s = .slice (some ad) n sCap) (cur : Array Value) (t : TypeId) (hg : w.heap[g]? = some (.cells cur t (0, 0))) (cs : List Value) (hl : cs.length = n * size) (hcur : cur.size = n * size)
    (hsrc : ∀ j v, cs[j]? = some v → w.cell? (ad.add j) = some v) (h1 : ∀ v ∈ cs, v.oneCell' = true)
    (h : ∀ w', w'.heap[g]? = some (.cells cs.toArray t (0, 0)) → Below g w w' → wpList P ops Q rest (a.put o.dst (goInt n)) w') : wpList P ops Q (o :: rest) a w := by
  refine wpList_plain hgd fun K hK => ?_
  have hrun := run_copy_whole (P := P) w dT sT o.type elem size n g dCap sCap ad cur t cs hu hs hg hl hcur hsrc h1
  unfold Oper.wp
  simp [execOp, ho, resolve, invoke, builtin, hd, hx, hrun, Result.andThen]
  refine hK _ _ (h _ (setRow_heap w g _ _ t _ hg) ⟨rfl, rfl, rfl, by simp [World.setRow], fun k hk => setRow_other w g k _ (by omega)⟩)
theorem wpList_copy_empty {w : World} {ops : Array Oper} {rest : List Oper} {o : Oper} {a : Act} {Q : Exit → Act → World → Prop} (hgd : o.guard = none) (d s : Operand) (dT sT : TypeId)
    (ho : o.op = .call { callee := .builtin .copy, args := #[d, s], argTypes := #[dT, sT] }) (elem : TypeId) (hu : P.underlying dT = some (.slice elem)) (size : Nat) (hs : (P.info? elem).map (·.size) = some size)
    (dp sp : Option Addr) (dLen dCap sLen sCap : Nat) (hd : a.eval d = .slice dp dLen dCap) (hx : a.eval s = .slice sp sLen sCap) (hn : Nat.min sLen dLen = 0)
    (h : wpList P ops Q rest (a.put o.dst (goInt 0)) w) : wpList P ops Q (o :: rest) a w := by
  refine wpList_plain hgd fun K hK => ?_
  have hrun := run_copy_empty (P := P) w dT sT o.type elem size dp sp dLen dCap sLen sCap hu hs hn
  unfold Oper.wp
  simp [execOp, ho, resolve, invoke, builtin, hd, hx, hrun, Result.andThen]
  exact hK _ _ h
end copies
theorem Try.infoSpan : (Try.prog.info? 24).map (fun i => (i.zero, i.size, i.bytes)) = some (some (.agg #[.int .i64 0, .int .i64 0]), 2, 16) := by kernel_rfl
theorem Try.sizeSpan : (Try.prog.info? 24).map (·.size) = some 2 := by kernel_rfl
theorem span_parts : ∃ i, Try.prog.info? 24 = some i ∧ i.zero = some (.agg #[.int .i64 0, .int .i64 0]) ∧ i.size = 2 ∧ i.bytes = 16 := by
  have h := Try.infoSpan
  cases hq : Try.prog.info? 24 with
  | none => rw [hq] at h; cases h
  | some i =>
    rw [hq] at h
    simp only [Option.map_some, Option.some.injEq, Prod.mk.injEq] at h
    exact ⟨i, rfl, h⟩

/-- The cells of a list of intervals. -/
def rowOf (l : List (Int × Int)) : List Value := l.flatMap fun c => [.int .i64 c.1, .int .i64 c.2]
theorem rowOf_length (l : List (Int × Int)) : (rowOf l).length = l.length * 2 := by
  induction l with
  | nil => rfl
  | cons c l ih => simp only [rowOf, List.flatMap_cons, List.length_append, List.length_cons, List.length_nil] at ih ⊢; omega
theorem rowOf_at : ∀ (l : List (Int × Int)) (i : Nat), i < l.length → (rowOf l)[i * 2]? = some (.int .i64 (pf l i).1) ∧ (rowOf l)[i * 2 + 1]? = some (.int .i64 (pf l i).2)
  | [], _, h => absurd h (by simp)
  | c :: l, 0, _ => by simp [rowOf, pf]
  | c :: l, i + 1, h => by
    have := rowOf_at l i (by simpa using h)
    rw [pf_cons_succ]
    have e : rowOf (c :: l) = .int .i64 c.1 :: .int .i64 c.2 :: rowOf l := rfl
    rw [e, show (i + 1) * 2 = i * 2 + 1 + 1 by omega]
    simpa using this
theorem rowOf_one (l : List (Int × Int)) : ∀ v ∈ rowOf l, v.oneCell' = true := by
  intro v hv
  simp only [rowOf, List.mem_flatMap] at hv
  obtain ⟨c, _, h⟩ := hv
  simp only [List.mem_cons, List.not_mem_nil, or_false] at h
  rcases h with rfl | rfl <;> rfl
/-- The cells behind an address are those of a list, whatever the place. -/
theorem rowOf_src {w : World} {b off : Nat} {l : List (Int × Int)} (h : ∀ i, i < l.length → w.cell? ⟨b, off + i * 2, none⟩ = some (.int .i64 (pf l i).1) ∧ w.cell? ⟨b, off + i * 2 + 1, none⟩ = some (.int .i64 (pf l i).2)) :
    ∀ j v, (rowOf l)[j]? = some v → w.cell? ((⟨b, off, none⟩ : Addr).add j) = some v := by
  intro j v hv
  have hj : j < l.length * 2 := by rw [← rowOf_length]; exact (List.getElem?_eq_some_iff.1 hv).1
  have e : (⟨b, off, none⟩ : Addr).add j = ⟨b, off + j, none⟩ := by unfold Addr.add; split <;> simp_all
  rw [e]
  obtain ⟨h0, h1⟩ := h (j / 2) (by omega)
  obtain ⟨g0, g1⟩ := rowOf_at l (j / 2) (by omega)
  rcases Nat.mod_two_eq_zero_or_one j with m | m
  · have ej : j / 2 * 2 = j := by omega
    rw [ej] at h0 g0
    rw [h0, ← g0, hv]
  · have ej : off + j / 2 * 2 + 1 = off + j := by omega
    have ej' : j / 2 * 2 + 1 = j := by omega
    rw [ej] at h1
    rw [ej'] at g1
    rw [h1, ← g1, hv]
theorem pf_drop1 (l : List (Int × Int)) (i : Nat) : pf (l.drop 1) i = pf l (i + 1) := by
  cases l with
  | nil => simp [pf]
  | cons c l => rw [pf_cons_succ]; rfl
/-- What derivative gives: an error, or the coefficients in memory of the call's own. -/
def DvP (w : World) (l : List (Int × Int)) (e : Ending) (w' : World) : Prop :=
  Below w.heap.size w w' ∧ ∃ u, e = .returned (.tuple #[u, .int .i64 (scE 1 l)]) ∧ (scE 1 l = 0 → Sn w' u (scV 1 l))
/-- What lies in the new row when k coefficients are multiplied. -/
def DsC (g n : Nat) (r : List (Int × Int)) (k : Nat) (W : World) : Prop :=
  ∀ j, j < n → W.cell? ⟨g, j * 2, none⟩ = some (.int .i64 (if j < k then pf (scV 1 r) j else pf r j).1) ∧ W.cell? ⟨g, j * 2 + 1, none⟩ = some (.int .i64 (if j < k then pf (scV 1 r) j else pf r j).2) ∧ W.frozen? ⟨g, j * 2, none⟩ = false ∧ W.frozen? ⟨g, j * 2 + 1, none⟩ = false
theorem DsC.keep {g n : Nat} {r : List (Int × Int)} {k : Nat} {W W' : World} (h : DsC g n r k W) (hb : Below W.heap.size W W') : DsC g n r k W' := fun j hj => by
  obtain ⟨h0, h1, h2, h3⟩ := h j hj
  have hl := World.block_lt_of_cell? W _ h0
  simp at hl
  exact ⟨bkeep hb h0, bkeep hb h1, (hb.frozen (p := ⟨g, j * 2, none⟩) hl).trans h2, (hb.frozen (p := ⟨g, j * 2 + 1, none⟩) hl).trans h3⟩
theorem DsC.row {g n : Nat} {r : List (Int × Int)} {W : World} {t : TypeId} (hn : r.length = n) (h : W.heap[g]? = some (.cells (rowOf r).toArray t (0, 0))) : DsC g n r 0 W := fun j hj => by
  obtain ⟨g0, g1⟩ := rowOf_at r j (by omega)
  have c : ∀ i, W.cell? ⟨g, i, none⟩ = (rowOf r)[i]? := fun i => by simp [World.cell?, h]
  have f : ∀ i, W.frozen? ⟨g, i, none⟩ = false := fun i => by simp [World.frozen?, h]
  rw [c, c, f, f, if_neg (by omega)]
  exact ⟨g0, g1, rfl, rfl⟩
theorem DsC.set {g n : Nat} {r : List (Int × Int)} {k : Nat} {W : World} (h : DsC g n r k W) (hk : k < n) (a b : Int) (e : pf (scV 1 r) k = (a, b)) :
    DsC g n r (k + 1) ((W.setCell ⟨g, k * 2, none⟩ (.int .i64 a)).setCell ⟨g, k * 2 + 1, none⟩ (.int .i64 b)) := fun j hj => by
  obtain ⟨h0, h1, h2, h3⟩ := h j hj
  simp only [World.frozen?_setCell]
  by_cases hjk : j = k
  · subst hjk
    rw [if_pos (by omega), e]
    refine ⟨?_, ?_, h2, h3⟩
    · rw [World.cell?_setCell_other _ _ _ _ (by simp), World.cell?_setCell_same _ _ _ h0]
    · rw [World.cell?_setCell_same _ _ _ (u := .int .i64 (if j < j then pf (scV 1 r) j else pf r j).2)]
      rw [World.cell?_setCell_other _ _ _ _ (by simp)]; exact h1
  · have e1 : (if j < k + 1 then pf (scV 1 r) j else pf r j) = (if j < k then pf (scV 1 r) j else pf r j) := by
      by_cases c : j < k
      · rw [if_pos c, if_pos (by omega)]
      · rw [if_neg c, if_neg (by omega)]
    rw [e1, World.cell?_setCell_other _ _ _ _ (by simp <;> omega), World.cell?_setCell_other _ _ _ _ (by simp <;> omega), World.cell?_setCell_other _ _ _ _ (by simp <;> omega), World.cell?_setCell_other _ _ _ _ (by simp <;> omega)]
    exact ⟨h0, h1, h2, h3⟩
theorem DsC.sn {g n : Nat} {r : List (Int × Int)} {W : World} (h : DsC g n r n W) (hn : r.length = n) : Sn W (.slice (some ⟨g, 0, none⟩) n n) (scV 1 r) := by
  have hl := scV_length 1 r
  refine ⟨_, n, by rw [hl, hn], ⟨by omega, fun h => by cases h⟩, fun _ => ⟨g, 0, rfl, fun i hi => ?_⟩⟩
  obtain ⟨h0, h1, _⟩ := h i (by omega)
  rw [if_pos (by omega)] at h0 h1
  rw [Nat.zero_add]
  exact ⟨h0, h1⟩
set_option maxRecDepth 100000 in
set_option maxHeartbeats 4000000 in
theorem derivative_any (va : Value) (l : List (Int × Int)) (w : World) (ha : Sn w va l) (hl8 : l.length ≤ 8) :
    Calls Try.prog 33 #[va] w (DvP w (l.drop 1)) := by
  obtain ⟨i0, hi, hz0, hz1, hz2⟩ := span_parts
  obtain ⟨pa, ca, rfl, ⟨hca, hna⟩, hpa⟩ := ha
  by_cases h1 : l.length ≤ 1
  · have hd : l.drop 1 = [] := List.drop_eq_nil_of_le h1
    rw [hd]
    by_cases h0 : l.length = 0
    · rw [h0]
      clear hpa hca hl8 h1 h0
      go_enter Try.func33, Try.ntmps33
      go_wp2_with (refine wpList_make_full _ rfl (.tmp 19) (.tmp 19) 22 rfl w.heap.size 24 i0 (.agg #[.int .i64 0, .int .i64 0]) 2 Try.underlying22 hi hz0 hz1 .i64 .i64 0 0 0 rfl rfl rfl rfl (by omega) (by unfold maxLen; omega) (Nat.le_refl _) ?_)
      intro w1 hown hgrow
      have hnx : Below w.heap.size w w1 := (Below.refl _ _).grown hgrow (Nat.le_refl _) (fun k hk => by cases hk)
      clear hown hgrow
      go_wp2_with (refine wpList_copy_empty rfl (.tmp 21) (.tmp 22) 22 22 rfl 24 Try.underlying22 2 Try.sizeSpan (some ⟨w.heap.size, 0, none⟩) pa 0 0 0 0 rfl rfl rfl ?_)
      go_loopw [26] (fun i wr => i = .int .i64 0 ∧ Below w.heap.size w wr) (fun _ _ => 0)
      case atStart => exact ⟨rfl, hnx⟩
      case round =>
        obtain ⟨rfl, hB⟩ := hrel
        go_wp2
        go_ret2
        exact ⟨hB, .slice (some ⟨w.heap.size, 0, none⟩) 0 0, rfl, fun _ => ⟨_, 0, rfl, ⟨Nat.le_refl _, fun _ => rfl⟩, fun h => absurd h (by simp [scV])⟩⟩
    · have h2 : l.length = 1 := by omega
      obtain ⟨b, off, rfl, _⟩ := hpa (by omega)
      rw [h2] at hca ⊢
      clear hpa hl8 h1 h0 hna
      go_enter Try.func33, Try.ntmps33
      go_wp2_with (refine wpList_make_full _ rfl (.tmp 19) (.tmp 19) 22 rfl w.heap.size 24 i0 (.agg #[.int .i64 0, .int .i64 0]) 2 Try.underlying22 hi hz0 hz1 .i64 .i64 0 0 0 rfl rfl rfl rfl (by omega) (by unfold maxLen; omega) (Nat.le_refl _) ?_)
      intro w1 hown hgrow
      have hnx : Below w.heap.size w w1 := (Below.refl _ _).grown hgrow (Nat.le_refl _) (fun k hk => by cases hk)
      clear hown hgrow
      go_wp2_with (refine wpList_copy_empty rfl (.tmp 21) (.tmp 22) 22 22 rfl 24 Try.underlying22 2 Try.sizeSpan (some ⟨w.heap.size, 0, none⟩) (some ⟨b, off, none⟩) 0 0 0 0 rfl rfl rfl ?_)
      go_loopw [26] (fun i wr => i = .int .i64 0 ∧ Below w.heap.size w wr) (fun _ _ => 0)
      case atStart => exact ⟨rfl, hnx⟩
      case round =>
        obtain ⟨rfl, hB⟩ := hrel
        go_wp2
        go_ret2
        exact ⟨hB, .slice (some ⟨w.heap.size, 0, none⟩) 0 0, rfl, fun _ => ⟨_, 0, rfl, ⟨Nat.le_refl _, fun _ => rfl⟩, fun h => absurd h (by simp [scV])⟩⟩
  obtain ⟨n, hn⟩ : ∃ n, (l.drop 1).length = n := ⟨_, rfl⟩
  have hm : l.length = n + 1 := by have := List.length_drop (i := 1) (l := l); omega
  obtain ⟨b, off, rfl, hcs⟩ := hpa (by omega)
  have hrc : ∀ i, i < (l.drop 1).length → w.cell? ⟨b, (off + 2) + i * 2, none⟩ = some (.int .i64 (pf (l.drop 1) i).1) ∧ w.cell? ⟨b, (off + 2) + i * 2 + 1, none⟩ = some (.int .i64 (pf (l.drop 1) i).2) := fun i hi => by
    have := hcs (i + 1) (by omega)
    rw [pf_drop1, show off + 2 + i * 2 = off + (i + 1) * 2 by omega]; exact this
  obtain ⟨m, hmm⟩ : ∃ m, l.length = m := ⟨_, rfl⟩
  rw [hmm] at hca hl8 hm hcs h1 ⊢
  clear hpa hcs hmm hna
  generalize l.drop 1 = r at *
  obtain ⟨X, hX⟩ : ∃ X, X = rowOf r := ⟨_, rfl⟩
  have hXl : X.length = n * 2 := by rw [hX, rowOf_length, hn]
  have hX1 : ∀ v ∈ X, v.oneCell' = true := by rw [hX]; exact rowOf_one r
  have hXs : ∀ w1, Below w.heap.size w w1 → ∀ j v, X[j]? = some v → w1.cell? ((⟨b, off + 2, none⟩ : Addr).add j) = some v := fun w1 hb j v hv => bkeep hb (rowOf_src (w := w) hrc j v (by rw [← hX]; exact hv))
  have hmin : min (1 : Int) (m : Int) = 1 := by omega
  have hsub : (m : Int) - 1 = (n : Int) := by omega
  have hm1 : m - 1 = n := by omega
  have hm1' : 1 ≤ m := by omega
  replace hm := Lib.hid hm
  replace hn := Lib.hid hn
  replace hX := Lib.hid hX
  clear hrc
  go_enter Try.func33, Try.ntmps33
  go_wp2_with (refine wpList_make_full _ rfl (.tmp 19) (.tmp 19) 22 rfl w.heap.size 24 i0 (.agg #[.int .i64 0, .int .i64 0]) 2 Try.underlying22 hi hz0 hz1 .i64 .i64 (n : Int) (n : Int) n rfl rfl rfl rfl (by rw [hz2]; omega) (by unfold maxLen; omega) (Nat.le_refl _) ?_)
  intro w1 hown hgrow
  have hnx : Below w.heap.size w w1 := (Below.refl _ _).grown hgrow (Nat.le_refl _) (fun k hk => by cases hk)
  obtain ⟨cur, hg, hcur⟩ : ∃ cur, w1.heap[w.heap.size]? = some (.cells cur 24 (0, 0)) ∧ cur.size = n * 2 := by
    rcases hown.2 with ⟨h, _⟩ | ⟨g, cap, cur, hv, _, h, _, _, hc, _⟩
    · cases h
    · injection hv with h1 h2 h3
      injection h1 with h1
      injection h1 with h1
      subst h1 h3
      exact ⟨cur, h, hc⟩
  have hsrc := hXs w1 hnx
  clear hown hgrow hXs
  go_wp2_with (refine wpList_copy_whole rfl (.tmp 21) (.tmp 22) 22 22 rfl 24 Try.underlying22 2 n w.heap.size n n Try.sizeSpan ⟨b, off + 2, none⟩ rfl rfl cur 24 hg X hXl hcur hsrc hX1 ?_)
  intro w2 hr2 hb2
  have hB2 : Below w.heap.size w w2 := hnx.trans hb2
  have hD0 : DsC w.heap.size n r 0 w2 := DsC.row hn.out (by rw [hr2, hX.out])
  have hz2 : w.heap.size < w2.heap.size := (Array.getElem?_eq_some_iff.1 hr2).1
  clear hr2 hb2 hnx hg hcur hsrc hX1 hXl hz0 hz1 hi
  go_wp2
  go_loopw [26] (fun i wr => ∃ k : Nat, i = .int .i64 k ∧ k ≤ n ∧ (∀ j, j < k → (sScaleR (pf r j).1 (pf r j).2 ((1 + j : Nat) : Int) 1).2.2 = 0) ∧ DsC w.heap.size n r k wr ∧ Below w.heap.size w wr ∧ w.heap.size < wr.heap.size)
    (fun i _ => n - (intOf i).toNat)
  case atStart => exact ⟨0, rfl, Nat.zero_le _, fun j hj => by omega, hD0, hB2, hz2⟩
  case round =>
    obtain ⟨k, rfl, hk, hj, hD, hB, hz⟩ := hrel
    clear hD0 hB2 hz2
    by_cases hk' : k < n
    · obtain ⟨h0, h1', h2, h3⟩ := hD k hk'
      rw [if_neg (by omega)] at h0 h1'
      have hsc := fun w => sScale_any (pf r k).1 (pf r k).2 ((k : Int) + 1) 1 w (by omega) (by omega)
      have ek : ((k : Int) + 1) = ((1 + k : Nat) : Int) := by omega
      obtain ⟨⟨r0, r1, r2⟩, hq⟩ : ∃ q, sScaleR (pf r k).1 (pf r k).2 ((k : Int) + 1) 1 = q := ⟨_, rfl⟩
      have hv : pf (scV 1 r) k = (r0, r1) := by rw [scV_at 1 r k (by rw [hn.out]; exact hk'), ← ek, hq]
      rw [hq] at hsc
      have HQ := Lib.hid (show sScaleR (pf r k).1 (pf r k).2 ((1 + k : Nat) : Int) 1 = (r0, r1, r2) by rw [← ek]; exact hq)
      replace hv := Lib.hid hv
      clear ek hq
      have hn1 : w.heap.size ≠ wr.heap.size := by omega
      obtain ⟨c0, hc0⟩ : ∃ c0, (pf r k).1 = c0 := ⟨_, rfl⟩
      obtain ⟨c1, hc1⟩ : ∃ c1, (pf r k).2 = c1 := ⟨_, rfl⟩
      rw [hc0] at hsc h0
      rw [hc1] at hsc h1'
      replace hc0 := Lib.hid hc0
      replace hc1 := Lib.hid hc1
      by_cases z : r2 = 0
      · subst z
        have hj' : ∀ j, j < k + 1 → (sScaleR (pf r j).1 (pf r j).2 ((1 + j : Nat) : Int) 1).2.2 = 0 := fun j hj' => by
          rcases Nat.lt_or_ge j k with h | h
          · exact hj j h
          · rw [show j = k by omega, HQ.out]
        go_wp2_with (go_at_call 51; refine (hsc _).mono ?_; rintro e w3 ⟨rfl, hb3⟩; have B3 := ((Below.refl wr.heap.size wr).alloc (Nat.le_refl _) _).trans (hb3.mono (by simp)); have D3 := hD.keep B3; have q0 := (D3 k hk').1; have q1 := (D3 k hk').2.1; have q2 := (D3 k hk').2.2.1; have q3 := (D3 k hk').2.2.2; rw [if_neg (by omega)] at q0 q1)
        go_roundw
        case rel => exact ⟨k + 1, by simp, by omega, hj', D3.set hk' r0 r1 hv.out, by (repeat (first | with_reducible exact Below.refl _ _ | with_reducible assumption | refine Below.alloc ?_ (by (try simp); try omega) _ | refine Below.setCell ?_ (by (try simp); try omega) _ | refine below_drewN ?_ _ | refine Below.drew ?_ | (with_reducible refine Below.trans ?_ (Below.mono (by assumption) (by (try simp); try omega))))), by have := B3.size; simp; omega⟩
        case measure => simp [intOf]; omega
      · have hz' : (r2 != 0) = true := by simpa using z
        have hE := Lib.hid (show scE 1 r = r2 by have h := scE_at 1 r k (by rw [hn.out]; exact hk') hj (by rw [HQ.out]; exact z); rw [h, HQ.out])
        go_wp2_with (go_at_call 51; refine (hsc _).mono ?_; rintro e w3 ⟨rfl, hb3⟩; have B3 := ((Below.refl wr.heap.size wr).alloc (Nat.le_refl _) _).trans (hb3.mono (by simp)); have D3 := hD.keep B3; have q0 := (D3 k hk').1; have q1 := (D3 k hk').2.1; have q2 := (D3 k hk').2.2.1; have q3 := (D3 k hk').2.2.2; rw [if_neg (by omega)] at q0 q1)
        go_ret2
        exact ⟨by (repeat (first | with_reducible exact Below.refl _ _ | with_reducible assumption | refine Below.alloc ?_ (by (try simp); try omega) _ | refine Below.setCell ?_ (by (try simp); try omega) _ | refine below_drewN ?_ _ | refine Below.drew ?_ | (with_reducible refine Below.trans ?_ (Below.mono (by assumption) (by (try simp); try omega))))), .slice none 0 0, by rw [hE.out]; rfl, fun h => absurd (hE.out.symm.trans h) z⟩
    · obtain rfl : k = n := by omega
      have hE := Lib.hid (scE_none 1 r fun i hi => hj i (by rw [hn.out] at hi; exact hi))
      clear hj
      go_wp2
      go_ret2
      exact ⟨hB, .slice (some ⟨w.heap.size, 0, none⟩) k k, by rw [hE.out]; rfl, fun _ => hD.sn hn.out⟩
end Go.Proofs.Ytdaignklmbmcnaa
