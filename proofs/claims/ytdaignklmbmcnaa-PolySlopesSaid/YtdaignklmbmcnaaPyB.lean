/-
  Package poly: the iterator over the coefficients from the last one on.
-/
import Derived.Test.YtdaignklmbmcnaaPyA
import Derived.RangeFuncBox
import Derived.RangeFuncLeaves
import Derived.RangeFuncNested
import Derived.Shelf.Abstract
import Derived.OwnWalkIn
import Derived.TacticsInMore
import Derived.LoopNIn
import Derived.LoopIn
namespace Go.Proofs.Ytdaignklmbmcnaa
open Go.RowKit Go.Shelf

attribute [local go_sem] Oper.semAt_some

/-- The places from the last one down, so many of them. -/
def pdown (n k : Nat) : List Nat := (List.range k).map (fun j => n - 1 - j)
theorem pdown_succ (n k : Nat) : pdown n (k + 1) = pdown n k ++ [n - 1 - k] := by simp [pdown, List.range_succ]
theorem pdown_length (n k : Nat) : (pdown n k).length = k := by simp [pdown]
abbrev pyEnc (l : List (Int × Int)) (x : Nat) : Array Value := #[.agg #[.int .i64 (pf l x).1, .int .i64 (pf l x).2]]

set_option maxRecDepth 100000 in
set_option maxHeartbeats 2000000 in
/-- The iterator, for every body of a loop that keeps what lay below n₀ and the iterator's own box. -/
theorem pback_in (m : Nat) (hm : 1 ≤ m) (r Bs n₀ n : Nat) (pa : Option Addr) (cap : Nat) (l : List (Int × Int)) (ll : n ≤ 1000000) (Kp : World → World → Prop) (hKp : ∀ W W', Kp W W' → Below n₀ W W' ∧ W'.cell? ⟨Bs, 0, none⟩ = W.cell? ⟨Bs, 0, none⟩)
    (J Jx : List Nat → World → Prop)
    (hY : ∀ pre (x : Nat) W, J pre W → pre.length < n → YieldAt Fence.wide (m - 1) Try.prog r (pyEnc l x) W fun e W' =>
      (e = .returned (.bool true) ∧ J (pre ++ [x]) W' ∧ Kp W W') ∨ (e = .returned (.bool false) ∧ Jx (pre ++ [x]) W'))
    (W : World) (hBs : W.cell? ⟨Bs, 0, none⟩ = some (.slice pa n cap)) (hc : 0 < n → ∃ b off, pa = some ⟨b, off, none⟩ ∧ b < n₀ ∧ ∀ i, i < n → W.cell? ⟨b, off + i * 2, none⟩ = some (.int .i64 (pf l i).1) ∧ W.cell? ⟨b, off + i * 2 + 1, none⟩ = some (.int .i64 (pf l i).2)) (h0 : J [] W) :
    CallsIn Fence.wide m Try.prog 58 #[.func (.yield r) #[] #[], .pointer (some ⟨Bs, 0, none⟩)] W fun e W' => (∃ v, e = .returned v) ∧
      ((∃ ys, ys = pdown n n ∧ J ys W') ∨ (∃ pre, (∃ k, k ≤ n ∧ pre = pdown n k) ∧ Jx pre W')) := by
  refine callsIn_of_wp Try.func58 rfl trivial ?_ rfl
  simp only [Try.ntmps58, List.size_toArray, List.length_cons, List.length_nil, Nat.reduceAdd, Nat.reduceSub, Array.replicate_succ, Array.replicate_zero, List.push_toArray, List.append_toArray, List.nil_append, List.cons_append]
  gi_wp2
  gi_loopw [3] (fun i wr => ∃ k : Nat, k ≤ n ∧ i = .int .i64 ((n : Int) - 1 - k) ∧ J (pdown n k) wr ∧ Below n₀ W wr ∧ wr.cell? ⟨Bs, 0, none⟩ = some (.slice pa n cap))
    (fun i _ => (intOf i + 1).toNat)
  case atStart => exact ⟨0, Nat.zero_le _, by simp, h0, Below.refl _ _, hBs⟩
  case round =>
    obtain ⟨k, hk, rfl, hJs, hnx, hBs'⟩ := hrel
    by_cases hlt : k < n
    · obtain ⟨b, off, rfl, hb, hcs⟩ := hc (by omega)
      obtain ⟨j, hj⟩ : ∃ j : Nat, (n : Int) - 1 - k = j := ⟨n - 1 - k, by omega⟩
      have hjn : j < n := by omega
      rw [hj]
      have hcx : wr.cell? ⟨b, off + j * 2, none⟩ = some (.int .i64 (pf l j).1) := (hnx.cell (p := ⟨b, off + j * 2, none⟩) hb).trans (hcs j hjn).1
      have hcy : wr.cell? ⟨b, off + j * 2 + 1, none⟩ = some (.int .i64 (pf l j).2) := (hnx.cell (p := ⟨b, off + j * 2 + 1, none⟩) hb).trans (hcs j hjn).2
      obtain ⟨fn, tmps, assign, body, hy, hR⟩ := hY _ j wr hJs (by rw [pdown_length]; exact hlt)
      have hds : pdown n k ++ [j] = pdown n (k + 1) := by rw [pdown_succ, show n - 1 - k = j by omega]
      have Hds := Lib.hid hds
      have hjk : (j : Int) - 1 = (n : Int) - 1 - ((k + 1 : Nat) : Int) := by omega
      have Hjk := Lib.hid hjk
      clear hc hcs hds hjk
      replace hj := Lib.hid hj
      dsimp only [pyEnc] at hy hR
      generalize (pf l j).1 = d0 at *
      generalize (pf l j).2 = d1 at *
      gi_wp2
      refine hR.mono ?_
      rintro e W3 (⟨rfl, hJ3, hk3⟩ | ⟨rfl, hJx3⟩)
      · have hK := hKp _ _ hk3
        gi_wp2
        go_roundw
        case rel => exact ⟨k + 1, by omega, by rw [← Hjk.out], by rw [← Hds.out]; exact hJ3, hnx.trans hK.1, hK.2.trans hBs'⟩
        case measure => have := hj.out; simp [intOf] <;> omega
      · gi_wp2
        refine bodyPost_ret (results_none rfl _ _ _) rfl ?_
        exact ⟨⟨_, rfl⟩, .inr ⟨_, ⟨k + 1, by omega, Hds.out⟩, hJx3⟩⟩
    · obtain rfl : k = n := by omega
      have e : (k : Int) - 1 - (k : Int) = -1 := by omega
      rw [e]
      gi_wp2
      go_end0
      exact ⟨⟨_, rfl⟩, .inl ⟨_, rfl, hJs⟩⟩
end Go.Proofs.Ytdaignklmbmcnaa
