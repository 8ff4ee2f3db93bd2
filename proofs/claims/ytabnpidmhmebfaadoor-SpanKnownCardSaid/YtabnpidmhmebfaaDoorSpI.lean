/-
  Package span: walks of increment, zero.
-/
import Derived.Test.YtabnpidmhmebfaaDoorSpH
namespace Go.Proofs.YtabnpidmhmebfaaDoor
open Go.RowKit

set_option maxRecDepth 100000 in
set_option maxHeartbeats 1000000 in
theorem increment_any (b o M N : Nat) (h : Nat → Nat) (w : World) (_ho : o ≤ 1000) (hM : M ≤ 1000) (hrow : w.rowIs b 41 (o + M) (fun i => .int .u32 ((if i < o then h i else dg N (i - o) : Nat)))) :
    Calls Tryd.prog 64 #[.slice (some ⟨b, o, none⟩) M M] w fun e w' => (∃ v, e = .returned v) ∧ w'.rowIs b 41 (o + M) (fun i => .int .u32 ((if i < o then h i else dg (N + 1) (i - o) : Nat))) ∧ Below b w w' := by
  go_enter Tryd.func64, Tryd.ntmps64
  go_wp2
  go_loopw [5] (fun i wr => ∃ k : Nat, k ≤ M ∧ i = .int .i64 k ∧ (N + 1) % 4294967296 ^ k = 0 ∧ wr.rowIs b 41 (o + M) (fun i => .int .u32 ((if i < o then h i else if i - o < k then 0 else dg N (i - o) : Nat))) ∧ Below b w wr) (fun i _ => M - (intOf i).toNat)
  case atStart => exact ⟨0, Nat.zero_le _, rfl, by simp [Nat.mod_one], hrow.congr (fun i _ => by simp), Below.refl _ _⟩
  case round =>
    clear hrow
    obtain ⟨k, hk, rfl, hlow, hr, hB⟩ := hrel
    by_cases hlt : k < M
    · have hc := hr.cell (i := o + k) (by omega)
      rw [if_neg (by omega), if_neg (by omega), show o + k - o = k by omega] at hc
      have hz := hr.frozen (o + k)
      have hd := dg_lt N k
      have hv := inc_dg N k hlow
      have hl := inc_low N k
      obtain ⟨D, hD⟩ : ∃ D : Int, ((dg N k : Nat) : Int) = D := ⟨_, rfl⟩
      have hV : (D + 1) % 4294967296 = ((dg (N + 1) k : Nat) : Int) := by rw [hv, ← hD]; omega
      have hi := inc_high N k
      have hn := inc_next N k hlow
      rw [hD] at hc
      have D0 : 0 ≤ D := by omega
      have D1 : D ≤ 4294967295 := by omega
      by_cases hz0 : dg (N + 1) k = 0
      · rw [hz0] at hV
        have E1 := Lib.hid (hn hz0)
        have E2 := Lib.hid hlow
        clear hd hv hl hD hi hn hz0 hlow
        replace hV : (D + 1) % 4294967296 = 0 := hV
        go_wp2
        refine ⟨⟨k + 1, by omega, by go_num, E1.out, ?_, hB.setCell (by simp) _⟩, by simp [intOf]; omega⟩
        refine (hr.set (o + k) _).congr (fun j hj => ?_)
        by_cases e : j = o + k
        · subst e; simp only [if_true]; rw [if_neg (by omega), if_pos (by omega)]; rfl
        · rw [if_neg e]
          by_cases e1 : j < o
          · rw [if_pos e1, if_pos e1]
          · rw [if_neg e1, if_neg e1]
            by_cases e2 : j - o < k
            · rw [if_pos e2, if_pos (by omega)]
            · rw [if_neg e2, if_neg (by omega)]
      · obtain ⟨V, hV'⟩ : ∃ V : Int, ((dg (N + 1) k : Nat) : Int) = V := ⟨_, rfl⟩
        rw [hV'] at hV
        have hne : (V != 0) = true := by simp; omega
        have E1 := Lib.hid hV'
        have E2 := Lib.hid hz0
        have E3 := Lib.hid hlow
        clear hd hv hl hD hi hn hz0 hlow hV'
        go_wp2
        refine bodyPost_ret (results_none rfl _ _ _) rfl ⟨⟨_, rfl⟩, ?_, hB.setCell (by simp) _⟩
        refine (hr.set (o + k) _).congr (fun j hj => ?_)
        by_cases e : j = o + k
        · subst e; simp only [if_true]; rw [if_neg (by omega), ← E1.out, show o + k - o = k by omega]
        · rw [if_neg e]
          by_cases e1 : j < o
          · rw [if_pos e1, if_pos e1]
          · rw [if_neg e1, if_neg e1]
            by_cases e2 : j - o < k
            · rw [if_pos e2, inc_low N k (j - o) E3.out e2]
            · rw [if_neg e2, inc_high N k (j - o) E3.out E2.out (by omega)]
    · go_wp2
      go_end0
      refine ⟨⟨_, rfl⟩, hr.congr (fun j hj => ?_), hB⟩
      by_cases e1 : j < o
      · rw [if_pos e1, if_pos e1]
      · rw [if_neg e1, if_neg e1, if_pos (by omega), inc_low N k (j - o) hlow (by omega)]

theorem zero1_yes (w : World) : Calls Tryd.prog 74 #[.int .u32 0] w fun e w' => e = .returned (.bool false) ∧ w = w' := by
  go_enter Tryd.func74, Tryd.ntmps74
  go_wp2
  go_ret
  exact ⟨rfl, rfl⟩
theorem zero1_no (x : Int) (w : World) (h : (x != 0) = true) : Calls Tryd.prog 74 #[.int .u32 x] w fun e w' => e = .returned (.bool true) ∧ w = w' := by
  go_enter Tryd.func74, Tryd.ntmps74
  go_wp2
  go_ret
  exact ⟨rfl, rfl⟩

/-- The cells of a slice of digits. -/
def At (w : World) (b o M : Nat) (g : Nat → Nat) : Prop := ∀ i, i < M → w.cell? ⟨b, o + i, none⟩ = some (.int .u32 (g i : Nat))
theorem index_none (b o M C : Nat) (g : Nat → Nat) (w : World) (hM : M ≤ 1000) (_ho : o ≤ 1000) (_hC : C ≤ 1000) (hc : At w b o M g) (hz : ∀ i, i < M → g i = 0) :
    Calls Tryd.prog 84 #[.slice (some ⟨b, o, none⟩) M C, .func (.func 74) #[] #[]] w fun e w' => e = .returned (.int .i64 (-1)) ∧ w = w' := by
  have HZ := Lib.hid hz
  clear hz
  go_enter Tryd.func84, Tryd.ntmps84
  go_wp2
  go_loop [8] (fun i => ∃ k : Nat, k ≤ M ∧ i = .int .i64 k) (fun i => M - (intOf i).toNat)
  case atStart => exact ⟨0, Nat.zero_le _, rfl⟩
  case round =>
    obtain ⟨k, hk, rfl⟩ := hrel
    by_cases hlt : k < M
    · have h := hc k hlt
      rw [HZ.out k hlt] at h
      replace h : w.cell? ⟨b, o + k, none⟩ = some (.int .u32 0) := h
      go_wp2_with (go_at_call 74; refine (zero1_yes _).mono ?_; rintro e w' ⟨rfl, rfl⟩)
      go_round
      case rel => exact ⟨k + 1, by omega, by go_num⟩
      case measure => simp [intOf]; omega
    · go_wp2
      go_ret
      exact ⟨rfl, rfl⟩
theorem index_some (b o M C : Nat) (g : Nat → Nat) (w : World) (hM : M ≤ 1000) (_ho : o ≤ 1000) (_hC : C ≤ 1000) (hc : At w b o M g) (j : Nat) (hj : j < M) (hz : ∀ i, i < j → g i = 0) (hj0 : g j ≠ 0) :
    Calls Tryd.prog 84 #[.slice (some ⟨b, o, none⟩) M C, .func (.func 74) #[] #[]] w fun e w' => e = .returned (.int .i64 j) ∧ w = w' := by
  have HZ := Lib.hid hz
  have HJ := Lib.hid hj0
  clear hz hj0
  go_enter Tryd.func84, Tryd.ntmps84
  go_wp2
  go_loop [8] (fun i => ∃ k : Nat, k ≤ j ∧ i = .int .i64 k) (fun i => M - (intOf i).toNat)
  case atStart => exact ⟨0, Nat.zero_le _, rfl⟩
  case round =>
    obtain ⟨k, hk, rfl⟩ := hrel
    have hlt : k < M := by omega
    by_cases hkj : k < j
    · have h := hc k hlt
      rw [HZ.out k hkj] at h
      replace h : w.cell? ⟨b, o + k, none⟩ = some (.int .u32 0) := h
      go_wp2_with (go_at_call 74; refine (zero1_yes _).mono ?_; rintro e w' ⟨rfl, rfl⟩)
      go_round
      case rel => exact ⟨k + 1, by omega, by go_num⟩
      case measure => simp [intOf]; omega
    · obtain rfl : k = j := by omega
      have h := hc k hlt
      obtain ⟨x, hx⟩ : ∃ x : Int, ((g k : Nat) : Int) = x := ⟨_, rfl⟩
      have hx0 : (x != 0) = true := by simp; have := HJ.out; omega
      rw [hx] at h
      clear hx
      go_wp2_with (go_at_call 74; refine (zero1_no x _ hx0).mono ?_; rintro e w' ⟨rfl, rfl⟩)
      go_ret
      exact ⟨rfl, rfl⟩

theorem zero_true (b o M C : Nat) (g : Nat → Nat) (w : World) (hM : M ≤ 1000) (ho : o ≤ 1000) (hC : C ≤ 1000) (hc : At w b o M g) (hz : ∀ i, i < M → g i = 0) :
    Calls Tryd.prog 63 #[.slice (some ⟨b, o, none⟩) M C] w fun e w' => e = .returned (.bool true) ∧ w = w' := by
  have hi := fun w (hc : At w b o M g) => index_none b o M C g w hM ho hC hc hz
  clear hz
  have hf : ∀ w, At w b o M g → Calls Tryd.prog 73 #[.slice (some ⟨b, o, none⟩) M C, .func (.func 74) #[] #[]] w fun e w' => e = .returned (.bool false) ∧ w = w' := by
    intro w hc
    have hi := hi w hc
    go_enter Tryd.func73, Tryd.ntmps73
    go_wp2_with (go_at_call 84; refine hi.mono ?_; rintro e w' ⟨rfl, rfl⟩)
    go_ret
    exact ⟨rfl, rfl⟩
  have hf := hf w hc
  clear hi
  go_enter Tryd.func63, Tryd.ntmps63
  go_wp2_with (go_at_call 73; refine hf.mono ?_; rintro e w' ⟨rfl, rfl⟩)
  go_ret
  exact ⟨rfl, rfl⟩
theorem first_one (g : Nat → Nat) (M : Nat) (h : ¬ ∀ i, i < M → g i = 0) : ∃ j, j < M ∧ (∀ i, i < j → g i = 0) ∧ g j ≠ 0 := by
  induction M with
  | zero => exact absurd (fun i hi => absurd hi (by omega)) h
  | succ M ih =>
    by_cases hM : ∀ i, i < M → g i = 0
    · refine ⟨M, by omega, hM, fun h0 => h fun i hi => ?_⟩
      by_cases e : i = M
      · subst e; exact h0
      · exact hM i (by omega)
    · obtain ⟨j, h1, h2, h3⟩ := ih hM
      exact ⟨j, by omega, h2, h3⟩
theorem zero_false (b o M C : Nat) (g : Nat → Nat) (w : World) (hM : M ≤ 1000) (ho : o ≤ 1000) (hC : C ≤ 1000) (hc : At w b o M g) (hz : ¬ ∀ i, i < M → g i = 0) :
    Calls Tryd.prog 63 #[.slice (some ⟨b, o, none⟩) M C] w fun e w' => e = .returned (.bool false) ∧ w = w' := by
  obtain ⟨j, j1, j2, j3⟩ := first_one g M hz
  have hi := fun w (hc : At w b o M g) => index_some b o M C g w hM ho hC hc j j1 j2 j3
  clear hz j2 j3
  have hf : ∀ w, At w b o M g → Calls Tryd.prog 73 #[.slice (some ⟨b, o, none⟩) M C, .func (.func 74) #[] #[]] w fun e w' => e = .returned (.bool true) ∧ w = w' := by
    intro w hc
    have hi := hi w hc
    go_enter Tryd.func73, Tryd.ntmps73
    go_wp2_with (go_at_call 84; refine hi.mono ?_; rintro e w' ⟨rfl, rfl⟩)
    go_ret
    exact ⟨rfl, rfl⟩
  have hf := hf w hc
  clear hi
  go_enter Tryd.func63, Tryd.ntmps63
  go_wp2_with (go_at_call 73; refine hf.mono ?_; rintro e w' ⟨rfl, rfl⟩)
  go_ret
  exact ⟨rfl, rfl⟩

end Go.Proofs.YtabnpidmhmebfaaDoor
