/-
  Package span: the walk of powerDigits.
-/
import Derived.Test.YtabnpidmhmebfaaDoorSpI
import Derived.Laws.CopyOwn
namespace Go.Proofs.YtabnpidmhmebfaaDoor
open Go.RowKit

theorem infoU32 : (Tryd.prog.info? 41).map (fun i => (i.zero, i.size, i.bytes)) = some (some (.int .u32 0), 1, 4) := by kernel_rfl
theorem sizeU32 : (Tryd.prog.info? 41).map (·.size) = some 1 := by kernel_rfl
theorem made_list (z : Value) (n : Nat) : madeCells #[z] n = (List.replicate n z).toArray := by
  apply Array.ext'
  apply List.ext_getElem?
  intro i
  have : i % 1 = 0 := Nat.mod_one i
  by_cases h : i < n <;> simp [madeCells, h, Nat.mod_one]

theorem dg_two (m i : Nat) (hm : m < 18446744073709551616) : dg m i = if i = 0 then m % 4294967296 else if i = 1 then m / 4294967296 else 0 := by
  unfold dg
  match i with
  | 0 => simp
  | 1 => simp; omega
  | i + 2 =>
    have : m / 4294967296 ^ (i + 2) = 0 := by
      apply Nat.div_eq_of_lt
      have : 4294967296 ^ 2 ≤ 4294967296 ^ (i + 2) := Nat.pow_le_pow_right (by omega) (by omega)
      omega
    rw [this]; simp

set_option maxRecDepth 100000 in
set_option maxHeartbeats 1000000 in
theorem powerDigits_any (m n : Nat) (w : World) (hm : m ≤ 9223372036854775807) (n1 : 1 ≤ n) (n16 : n ≤ 16) :
    Calls Tryd.prog 62 #[.int .u64 m, .int .i64 n] w fun e w' => e = .returned (.slice (some ⟨w.heap.size, 0, none⟩) (2 * n) (2 * n)) ∧ Digs w' w.heap.size (2 * n) (m ^ n) ∧ Below w.heap.size w w' := by
  have hmk := run_make_row' (P := Tryd.prog) 72 41 (.int .u32 0) 4 Tryd.underlying72 infoU32 rfl .i64 .i64 (2 * n) (by omega) (by omega)
  rw [made_list] at hmk
  have e2 : ((2 * n : Nat) : Int) = 2 * (n : Int) := by omega
  rw [e2] at hmk
  clear e2
  obtain ⟨M, hM⟩ : ∃ M : Int, (m : Int) = M := ⟨_, rfl⟩
  have M0 : 0 ≤ M := by omega
  have M1 : M ≤ 9223372036854775807 := by omega
  have hlo : M % 4294967296 = ((m % 4294967296 : Nat) : Int) := by omega
  have hhi : M / 4294967296 = ((m / 4294967296 : Nat) : Int) := by omega
  have HM := Lib.hid hM
  have hrow0 : ∀ j, j < 2 * n → (splice (List.replicate (2 * n) (Value.int .u32 0)) 0 [.int .u32 (M % 4294967296), .int .u32 (M / 4294967296)]).toArray[j]? = some (.int .u32 (dg m j : Nat)) := by
    intro j hj
    rw [dg_two m j (by omega), hlo, hhi]
    match j with
    | 0 => simp [splice]
    | 1 => simp [splice]
    | j + 2 =>
      rw [if_neg (by omega), if_neg (by omega)]
      simp only [splice, List.take_zero, List.nil_append, List.getElem?_toArray, List.cons_append, List.getElem?_cons_succ]
      rw [List.getElem?_drop, List.getElem?_replicate, if_pos (by simp; omega)]; rfl
  have HR := Lib.hid hrow0
  rw [hM]
  clear hM hlo hhi hrow0
  go_enter Tryd.func62, Tryd.ntmps62
  go_wp2_with (with_reducible refine wpList_copy_splice rfl (.tmp 9) (.tmp 15) 72 72 rfl 41 Tryd.underlying72 sizeU32 (some ⟨w.heap.size, 0, none⟩) (some ⟨w.heap.size + 1, 0, none⟩) (2 * n) (2 * n) 2 2 rfl rfl w.heap.size 0 (List.replicate (2 * n) (.int .u32 0)) 41 ?c1 [.int .u32 (M % 4294967296), .int .u32 (M / 4294967296)] ?c2 ?c3 ?c4 ?c5 w.heap.size w ?c6 (Nat.le_refl _) ?_)
  case c1 => exact (Below.heap_alloc _ _ _ (by simp)).trans ((Go.Deep.blk_alloc_new _ _).trans (by simp))
  case c2 => exact (Nat.min_eq_left (show 2 ≤ 2 * n by omega)).symm
  case c4 => simp; omega
  case c5 => intro v hv; simp at hv; rcases hv with rfl | rfl <;> rfl
  case c6 => (repeat (first | with_reducible exact Below.refl _ _ | with_reducible assumption | refine Below.alloc ?_ (by (try simp); try omega) _ | refine Below.setCell ?_ (by (try simp); try omega) _ | refine below_drewN ?_ _ | refine Below.drew ?_ | (with_reducible refine Below.trans ?_ (Below.mono (by assumption) (by (try simp); try omega)))))
  intro w3 hg3 hb3
  have hd3 : Digs w3 w.heap.size (2 * n) m := ⟨_, hg3.out, by simp [splice]; omega, HR.out⟩
  clear hg3 HR
  have hmul : ∀ (N : Nat) (wr : World), Digs wr w.heap.size (2 * n) N → Calls Tryd.prog 72 #[.slice (some ⟨w.heap.size, 0, none⟩) (2 * n) (2 * n), .int .u64 M] wr fun e w' => (∃ v, e = .returned v) ∧ Digs w' w.heap.size (2 * n) (N * m) ∧ Below w.heap.size wr w' := by
    intro N wr hd
    rw [← HM.out]
    exact multiply_any w.heap.size (2 * n) N m wr (by omega) hm hd
  clear hmk HM
  go_wp2
  go_loopw [19] (fun i wr => ∃ k : Nat, k ≤ n - 1 ∧ i = .int .i64 k ∧ Digs wr w.heap.size (2 * n) (m ^ (k + 1)) ∧ Below w.heap.size w wr) (fun i _ => n - (intOf i).toNat)
  case atStart => exact ⟨0, Nat.zero_le _, rfl, by rw [Nat.pow_one]; exact hd3, hb3⟩
  case round =>
    clear hd3 hb3
    obtain ⟨k, hk, rfl, hd, hB⟩ := hrel
    by_cases hlt : k < n - 1
    · have hlt' : (k : Int) < (n : Int) - 1 := by omega
      have hm1 := hmul _ wr hd
      clear hmul
      go_wp2_with (go_at_call 72; refine hm1.mono ?_; rintro e w4 ⟨⟨v, rfl⟩, hd4, hb4⟩)
      go_roundw
      case rel => exact ⟨k + 1, by omega, by go_num, by rw [Nat.pow_succ]; exact hd4, hB.trans hb4⟩
      case measure => simp [intOf]; omega
    · have hlt' : ¬ (k : Int) < (n : Int) - 1 := by omega
      obtain rfl : k = n - 1 := by omega
      go_wp2
      go_ret
      refine ⟨rfl, ?_, hB⟩
      rw [show n - 1 + 1 = n by omega] at hd
      exact hd

end Go.Proofs.YtabnpidmhmebfaaDoor
