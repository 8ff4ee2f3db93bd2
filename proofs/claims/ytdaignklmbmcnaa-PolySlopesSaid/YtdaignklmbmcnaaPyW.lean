/-
  The helpers of layer 8's statements: whole, list, is, fails; slices of intervals of the call's own.
-/
import Derived.Test.YtdaignklmbmcnaaPyE
import Derived.OwnWalk
namespace Go.Proofs.Ytdaignklmbmcnaa
open Go.RowKit

theorem rowOf_append (l m : List (Int × Int)) : rowOf (l ++ m) = rowOf l ++ rowOf m := by simp [rowOf]
theorem Sn.own {w : World} {base : Nat} {e : TypeId} {v : Value} {l : List (Int × Int)} (h : w.ownsRow base e 2 v l.length (rowOf l)) : Sn w v l := by
  have h' := h
  rcases h.2 with ⟨rfl, h0⟩ | ⟨g, cap, cur, rfl, _, _, hle, _⟩
  · have : l = [] := List.length_eq_zero_iff.1 h0
    subst this
    exact Sn.nil w
  · refine ⟨_, cap, rfl, ⟨hle, fun h => by cases h⟩, fun _ => ⟨g, 0, rfl, fun i hi => ?_⟩⟩
    obtain ⟨g0, g1⟩ := rowOf_at l i hi
    rw [Nat.zero_add, h'.cellAt (i * 2) (by omega), h'.cellAt (i * 2 + 1) (by omega)]
    exact ⟨g0, g1⟩
/-- A block of two cells, read as the elements of a slice. -/
theorem two_at (w : World) (x y : Value) (t : TypeId) : ∀ (j : Nat) (u : Value), [x, y][j]? = some u → (w.alloc (.cells #[x, y] t)).cell? ((⟨w.heap.size, 0, none⟩ : Addr).add j) = some u := by
  intro j u h
  have e : (⟨w.heap.size, 0, none⟩ : Addr).add j = ⟨w.heap.size, 0 + j, none⟩ := by unfold Addr.add; split <;> simp_all
  rw [e, Nat.zero_add]
  match j, h with
  | 0, h => simpa using h
  | 1, h => simpa using h
theorem two_cell (x y : Int) : ∀ u ∈ [Value.int .i64 x, Value.int .i64 y], u.oneCell' = true := by
  intro u hu
  simp only [List.mem_cons, List.not_mem_nil, or_false] at hu
  rcases hu with rfl | rfl <;> rfl

theorem whole_any (a b : Int) (x y : Int) (w : World) (a0 : -1048576 ≤ a) (a1 : a ≤ 1048576) (b0 : -1048576 ≤ b) (b1 : b ≤ 1048576) (hx : x = a * 4294967296) (hy : y = b * 4294967296) :
    Calls Try.prog 23 #[.int .i64 a, .int .i64 b] w fun r w' => r = .returned (.agg #[.int .i64 x, .int .i64 y]) ∧ Below w.heap.size w w' := by
  subst hx hy
  go_enter Try.func23, Try.ntmps23
  go_wp2
  refine bodyPost_ret (v := .agg #[.int .i64 (a * 4294967296), .int .i64 (b * 4294967296)]) (by simp [results, Try.results23, go_sem]) rfl ⟨rfl, by (repeat (first | with_reducible exact Below.refl _ _ | with_reducible assumption | refine Below.alloc ?_ (by (try simp); try omega) _ | refine Below.setCell ?_ (by (try simp); try omega) _ | refine below_drewN ?_ _ | refine Below.drew ?_ | (with_reducible refine Below.trans ?_ (Below.mono (by assumption) (by (try simp); try omega)))))⟩

/-- The slice value v holds the integers l. -/
def Wi (w : World) (v : Value) (l : List Int) : Prop :=
  ∃ b off cap, v = .slice (some ⟨b, off, none⟩) l.length cap ∧ ∀ i, i < l.length → w.cell? ⟨b, off + i, none⟩ = some (.int .i64 (l.getD i 0))
theorem Wi.keep {w w' : World} {v : Value} {l : List Int} (h : Wi w v l) (hb : Below w.heap.size w w') : Wi w' v l := by
  obtain ⟨b, off, cap, rfl, h⟩ := h
  exact ⟨b, off, cap, rfl, fun i hi => bkeep hb (h i hi)⟩
def pts (l : List Int) : List (Int × Int) := l.map fun n => (n * 4294967296, n * 4294967296)
theorem pts_take (l : List Int) (k : Nat) (h : k < l.length) : pts (l.take (k + 1)) = pts (l.take k) ++ [(l.getD k 0 * 4294967296, l.getD k 0 * 4294967296)] := by
  rw [List.take_succ_eq_append_getElem h]
  unfold pts
  rw [List.map_append]
  simp only [List.map_cons, List.map_nil, List.getD_eq_getElem?_getD, List.getElem?_eq_getElem h, Option.getD_some]
def SnP (w : World) (l : List (Int × Int)) (e : Ending) (w' : World) : Prop := Below w.heap.size w w' ∧ ∃ u, e = .returned u ∧ Sn w' u l
set_option maxHeartbeats 1000000 in
theorem list_any (va : Value) (l : List Int) (w : World) (ha : Wi w va l) (hl : l.length ≤ 100) (hs : ∀ i, i < l.length → -1048576 ≤ l.getD i 0 ∧ l.getD i 0 ≤ 1048576) :
    Calls Try.prog 26 #[va] w (SnP w (pts l)) := by
  obtain ⟨i0, hi, hz0, hz1, hz2⟩ := span_parts
  obtain ⟨b, off, cap, rfl, hc⟩ := ha
  have hstep := fun k h => Lib.hid (pts_take l k h)
  have hall := Lib.hid (show pts (l.take l.length) = pts l by rw [List.take_length])
  have hlen := fun k (h : k ≤ l.length) => Lib.hid (show (pts (l.take k)).length = k by simp [pts]; omega)
  obtain ⟨n, hn⟩ : ∃ n, l.length = n := ⟨_, rfl⟩
  rw [hn] at hc hl hs hall hlen ⊢
  replace hn := Lib.hid hn
  go_enter Try.func26, Try.ntmps26
  go_wp2
  go_loopw [3, 8] (fun o i wr => ∃ k : Nat, i = .int .i64 k ∧ k ≤ n ∧ wr.ownsRow w.heap.size 24 2 o k (rowOf (pts (l.take k))) ∧ Below w.heap.size w wr)
    (fun _ i _ => n - (intOf i).toNat)
  case atStart => exact ⟨0, rfl, Nat.zero_le _, World.ownsRow_nil w _ _ _, Below.refl _ _⟩
  case round =>
    obtain ⟨k, rfl, hk, hown, hB⟩ := hrel
    by_cases hk' : k < n
    · have hck := bkeep hB (hc k hk')
      obtain ⟨s0, s1⟩ := hs k hk'
      have hst := hstep k (by rw [hn.out]; exact hk')
      obtain ⟨x, hx⟩ : ∃ x, l.getD k 0 = x := ⟨_, rfl⟩
      rw [hx] at hck s0 s1 hst
      replace hx := Lib.hid hx
      obtain ⟨y, hy⟩ : ∃ y, y = x * 4294967296 := ⟨_, rfl⟩
      have hw := fun w => whole_any x x y y w s0 s1 s0 s1 hy hy
      rw [← hy] at hst
      replace hy := Lib.hid hy
      clear hc hs hstep
      go_wp2_with fail
      go_at_call 23
      refine (hw _).mono ?_
      rintro e w1 ⟨rfl, hb1⟩
      have hown1 : w1.ownsRow w.heap.size 24 2 u3 k (rowOf (pts (l.take k))) := hown.kept (row := none) ⟨hb1.os, hb1.tape, hb1.output, hb1.size, fun j hj _ => hb1.block j hj⟩ (by cases h : u3.ownBlock <;> simp)
      have B1 := hB.trans (hb1.mono hB.size)
      clear hown hb1
      go_wp2_with (at_builtin; refine wpList_append_own _ rfl _ _ 22 rfl w.heap.size 24 i0 (.agg #[.int .i64 0, .int .i64 0]) 2 16 Try.underlying22 hi hz0 hz1 hz2 rfl (by decide) _ _ _ rfl (hown1.alloc _) ⟨w1.heap.size, 0, none⟩ 1 1 [.int .i64 y, .int .i64 y] rfl rfl (two_at _ _ _ _) (two_cell _ _) (by unfold maxLen; omega) (by omega) (by have := B1.size; simp; omega) ?_)
      intro v' w2 hown' hgrow _
      have hb := (B1.alloc B1.size (.cells #[.int .i64 y, .int .i64 y] 24)).grown hgrow (by have := B1.size; simp; omega) (fun k hk => (hown1.lt k hk).1)
      clear hown1 hgrow B1
      go_wp2
      go_roundw
      case rel => exact ⟨k + 1, by simp, by omega, by rw [hst.out, rowOf_append]; exact hown', hb⟩
      case measure => simp [intOf]; omega
    · obtain rfl : k = n := by omega
      have hL := hlen k (Nat.le_refl _)
      have hs' : Sn wr u3 (pts (l.take k)) := Sn.own (by rw [hL.out]; exact hown)
      rw [hall.out] at hs'
      clear hown hstep hs hc hlen
      go_wp2
      go_ret
      exact ⟨hB, _, rfl, hs'⟩

/-- A box of two numbers, and one of one, that nobody writes. -/
def B2 (w : World) (b : Nat) (x y : Int) : Prop := w.cell? ⟨b, 0, none⟩ = some (.int .i64 x) ∧ w.cell? ⟨b, 1, none⟩ = some (.int .i64 y)
theorem B2.keep {w w' : World} {b : Nat} {x y : Int} (h : B2 w b x y) (hb : Below w.heap.size w w') : B2 w' b x y := ⟨bkeep hb h.1, bkeep hb h.2⟩
def B1 (w : World) (b : Nat) (x : Int) : Prop := w.cell? ⟨b, 0, none⟩ = some (.int .i64 x)
theorem B1.keep {w w' : World} {b : Nat} {x : Int} (h : B1 w b x) (hb : Below w.heap.size w w') : B1 w' b x := bkeep hb h
theorem is_any (a0 a1 : Int) (w : World) :
    Calls Try.prog 25 #[.agg #[.int .i64 a0, .int .i64 a1]] w fun r w' => ∃ bx : Nat, r = .returned (.func (.func 41) #[] #[.pointer (some ⟨bx, 0, none⟩)]) ∧ B2 w' bx a0 a1 ∧ Below w.heap.size w w' := by
  have hmf : ∀ (fn : Fn) (first cap : Array Value) (w : World), (Instr.makeFunc fn first cap).run Try.prog w = .ok (.func fn first cap) w := fun _ _ _ _ => rfl
  have h : Calls Try.prog 25 #[.agg #[.int .i64 a0, .int .i64 a1]] w fun r w' => r = .returned (.func (.func 41) #[] #[.pointer (some ⟨w.heap.size, 0, none⟩)]) ∧ w' = w.alloc (.cells #[.int .i64 a0, .int .i64 a1] 24) := by
    go_enter Try.func25, Try.ntmps25
    go_wp2
    go_ret
    exact ⟨rfl, rfl⟩
  refine h.mono ?_
  rintro r w' ⟨rfl, rfl⟩
  exact ⟨_, rfl, ⟨by simp, by simp⟩, by (repeat (first | with_reducible exact Below.refl _ _ | with_reducible assumption | refine Below.alloc ?_ (by (try simp); try omega) _ | refine Below.setCell ?_ (by (try simp); try omega) _ | refine below_drewN ?_ _ | refine Below.drew ?_ | (with_reducible refine Below.trans ?_ (Below.mono (by assumption) (by (try simp); try omega)))))⟩
theorem fails_any (x : Int) (w : World) :
    Calls Try.prog 24 #[.int .i64 x] w fun r w' => ∃ bx : Nat, r = .returned (.func (.func 40) #[] #[.pointer (some ⟨bx, 0, none⟩)]) ∧ B1 w' bx x ∧ Below w.heap.size w w' := by
  have hmf : ∀ (fn : Fn) (first cap : Array Value) (w : World), (Instr.makeFunc fn first cap).run Try.prog w = .ok (.func fn first cap) w := fun _ _ _ _ => rfl
  have h : Calls Try.prog 24 #[.int .i64 x] w fun r w' => r = .returned (.func (.func 40) #[] #[.pointer (some ⟨w.heap.size, 0, none⟩)]) ∧ w' = w.alloc (.cells #[.int .i64 x] 35) := by
    go_enter Try.func24, Try.ntmps24
    go_wp2
    go_ret
    exact ⟨rfl, rfl⟩
  refine h.mono ?_
  rintro r w' ⟨rfl, rfl⟩
  exact ⟨_, rfl, by simp [B1], by (repeat (first | with_reducible exact Below.refl _ _ | with_reducible assumption | refine Below.alloc ?_ (by (try simp); try omega) _ | refine Below.setCell ?_ (by (try simp); try omega) _ | refine below_drewN ?_ _ | refine Below.drew ?_ | (with_reducible refine Below.trans ?_ (Below.mono (by assumption) (by (try simp); try omega)))))⟩
theorem is1_true (a0 a1 : Int) (bx : Nat) (w : World) (h : B2 w bx a0 a1) :
    Calls Try.prog 41 #[.agg #[.int .i64 a0, .int .i64 a1], .int .i64 0, .pointer (some ⟨bx, 0, none⟩)] w fun r w' => r = .returned (.bool true) ∧ Below w.heap.size w w' := by
  obtain ⟨c0, c1⟩ := h
  have l0 := World.block_lt_of_cell? w _ c0
  simp at l0
  have n0 : w.heap.size ≠ bx := by omega
  go_enter Try.func41, Try.ntmps41
  go_wp2
  go_ret
  exact ⟨rfl, by (repeat (first | with_reducible exact Below.refl _ _ | with_reducible assumption | refine Below.alloc ?_ (by (try simp); try omega) _ | refine Below.setCell ?_ (by (try simp); try omega) _ | refine below_drewN ?_ _ | refine Below.drew ?_ | (with_reducible refine Below.trans ?_ (Below.mono (by assumption) (by (try simp); try omega)))))⟩
theorem fails1_true (x : Int) (bx : Nat) (w : World) (h : B1 w bx x) :
    Calls Try.prog 40 #[.agg #[.int .i64 0, .int .i64 0], .int .i64 x, .pointer (some ⟨bx, 0, none⟩)] w fun r w' => r = .returned (.bool true) ∧ Below w.heap.size w w' := by
  have c0 : w.cell? ⟨bx, 0, none⟩ = some (.int .i64 x) := h
  clear h
  have l0 := World.block_lt_of_cell? w _ c0
  simp at l0
  have n0 : w.heap.size ≠ bx := by omega
  go_enter Try.func40, Try.ntmps40
  go_wp2
  go_ret
  exact ⟨rfl, by (repeat (first | with_reducible exact Below.refl _ _ | with_reducible assumption | refine Below.alloc ?_ (by (try simp); try omega) _ | refine Below.setCell ?_ (by (try simp); try omega) _ | refine below_drewN ?_ _ | refine Below.drew ?_ | (with_reducible refine Below.trans ?_ (Below.mono (by assumption) (by (try simp); try omega)))))⟩
end Go.Proofs.Ytdaignklmbmcnaa
