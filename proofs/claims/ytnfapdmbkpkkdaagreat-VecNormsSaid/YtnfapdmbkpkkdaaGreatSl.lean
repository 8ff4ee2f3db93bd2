/-
  Lists of digits (their number, what storing, cutting and adding a digit does to it), and slices of integers that can be read.
-/
import Derived.WalkKit
import Derived.Test.YtnfapdmbkpkkdaaGreatProg
import Derived.Deep.Draws
namespace Go.Proofs.YtnfapdmbkpkkdaaGreat
open Go.RowKit

def val (B : Int) : List Int → Int
  | [] => 0
  | d :: l => d + B * val B l
def Dig (B : Int) (l : List Int) : Prop := ∀ d ∈ l, 0 ≤ d ∧ d < B

theorem val_nil (B : Int) : val B [] = 0 := rfl
theorem val_cons (B d : Int) (l : List Int) : val B (d :: l) = d + B * val B l := rfl
theorem val_append (B : Int) (a b : List Int) : val B (a ++ b) = val B a + B ^ a.length * val B b := by
  induction a with
  | nil => simp [val]
  | cons d a ih => simp only [List.cons_append, val, ih, List.length_cons, Int.pow_succ]; grind
theorem Dig.nil (B : Int) : Dig B [] := fun _ h => by cases h
theorem Dig.cons {B d : Int} {l : List Int} (h0 : 0 ≤ d) (h1 : d < B) (h : Dig B l) : Dig B (d :: l) := fun x hx => by
  rcases List.mem_cons.1 hx with rfl | hx
  · exact ⟨h0, h1⟩
  · exact h x hx
theorem Dig.append {B : Int} {a b : List Int} (h : Dig B a) (k : Dig B b) : Dig B (a ++ b) := fun x hx => by
  rcases List.mem_append.1 hx with hx | hx
  · exact h x hx
  · exact k x hx
theorem Dig.one {B d : Int} (h0 : 0 ≤ d) (h1 : d < B) : Dig B [d] := Dig.cons h0 h1 (Dig.nil B)
theorem Dig.snoc {B d : Int} {l : List Int} (h : Dig B l) (h0 : 0 ≤ d) (h1 : d < B) : Dig B (l ++ [d]) := h.append (Dig.one h0 h1)
theorem Dig.take {B : Int} {l : List Int} (h : Dig B l) (k : Nat) : Dig B (l.take k) := fun x hx => h x (List.mem_of_mem_take hx)
theorem Dig.drop {B : Int} {l : List Int} (h : Dig B l) (k : Nat) : Dig B (l.drop k) := fun x hx => h x (List.mem_of_mem_drop hx)
theorem Dig.zeros {B : Int} (hB : 0 < B) (n : Nat) : Dig B (List.replicate n 0) := fun x hx => by
  rw [List.eq_of_mem_replicate hx]; exact ⟨Int.le_refl _, hB⟩
theorem Dig.set {B d : Int} {l : List Int} (h : Dig B l) (k : Nat) (h0 : 0 ≤ d) (h1 : d < B) : Dig B (l.set k d) := fun x hx => by
  rcases List.mem_or_eq_of_mem_set hx with hx | rfl
  · exact h x hx
  · exact ⟨h0, h1⟩
theorem Dig.getD {B : Int} {l : List Int} (h : Dig B l) (hB : 0 < B) (k : Nat) : 0 ≤ l.getD k 0 ∧ l.getD k 0 < B := by
  by_cases hk : k < l.length
  · rw [List.getD_eq_getElem?_getD, List.getElem?_eq_getElem hk]; exact h _ (List.getElem_mem hk)
  · rw [List.getD_eq_getElem?_getD, List.getElem?_eq_none (by omega)]; exact ⟨Int.le_refl _, hB⟩
theorem val_nonneg {B : Int} (hB : 0 ≤ B) {l : List Int} (h : Dig B l) : 0 ≤ val B l := by
  induction l with
  | nil => exact Int.le_refl _
  | cons d l ih =>
    have h1 := h d (List.mem_cons_self ..)
    have h2 := ih (fun x hx => h x (List.mem_cons_of_mem _ hx))
    have := Int.mul_nonneg hB h2
    rw [val_cons]; omega
theorem pow_pos' {B : Int} (hB : 0 < B) (n : Nat) : 0 < B ^ n := Int.pow_pos hB
theorem val_lt {B : Int} (hB : 0 < B) {l : List Int} (h : Dig B l) : val B l < B ^ l.length := by
  induction l with
  | nil => simp [val]
  | cons d l ih =>
    have h1 := h d (List.mem_cons_self ..)
    have h2 := ih (fun x hx => h x (List.mem_cons_of_mem _ hx))
    have h3 : B * (val B l + 1) ≤ B * B ^ l.length := Int.mul_le_mul_of_nonneg_left (by omega) (by omega)
    rw [val_cons, List.length_cons, Int.pow_succ, Int.mul_comm _ B]
    rw [Int.mul_add] at h3; omega
theorem val_zeros (B : Int) (n : Nat) : val B (List.replicate n 0) = 0 := by
  induction n with
  | zero => rfl
  | succ n ih => rw [List.replicate_succ, val_cons, ih]; omega
theorem val_set (B x : Int) (l : List Int) (k : Nat) (hk : k < l.length) : val B (l.set k x) = val B l + B ^ k * (x - l.getD k 0) := by
  induction l generalizing k with
  | nil => simp at hk
  | cons d l ih =>
    cases k with
    | zero => simp [val_cons]; omega
    | succ k =>
      have := ih k (by simpa using hk)
      simp only [List.set_cons_succ, val_cons, this, List.getD_cons_succ, Int.pow_succ]; grind
theorem val_cut (B : Int) (l : List Int) (k : Nat) : val B l = val B (l.take k) + B ^ (l.take k).length * val B (l.drop k) := by
  have := val_append B (l.take k) (l.drop k)
  rwa [List.take_append_drop] at this
theorem val_cut' (B : Int) (l : List Int) (k : Nat) (hk : k ≤ l.length) : val B l = val B (l.take k) + B ^ k * val B (l.drop k) := by
  have := val_cut B l k
  rwa [List.length_take, Nat.min_eq_left hk] at this
theorem val_take_succ (B : Int) (l : List Int) (k : Nat) (hk : k < l.length) : val B (l.take (k + 1)) = val B (l.take k) + B ^ k * l.getD k 0 := by
  rw [List.take_add_one, val_append, List.getElem?_eq_getElem hk, List.length_take, Nat.min_eq_left (by omega)]
  simp only [Option.toList_some, val_cons, val_nil, List.getD_eq_getElem?_getD, List.getElem?_eq_getElem hk, Option.getD_some]
  simp
theorem val_drop_pred (B : Int) (l : List Int) (k : Nat) (hk : k < l.length) : val B (l.drop k) = l.getD k 0 + B * val B (l.drop (k + 1)) := by
  rw [List.drop_eq_getElem_cons hk, val_cons]
  simp [List.getD_eq_getElem?_getD, List.getElem?_eq_getElem hk]
theorem val_drop_div {B : Int} (hB : 0 < B) {l : List Int} (h : Dig B l) (k : Nat) (hk : k ≤ l.length) : val B (l.drop k) = val B l / B ^ k ∧ val B (l.take k) = val B l % B ^ k := by
  have e := val_cut' B l k hk
  have h0 := val_nonneg (by omega) (h.take k)
  have h1 := val_lt hB (h.take k)
  rw [List.length_take, Nat.min_eq_left hk] at h1
  have hp := pow_pos' hB k
  rw [e]
  refine ⟨?_, ?_⟩
  · rw [Int.add_mul_ediv_left _ _ (by omega), Int.ediv_eq_zero_of_lt h0 h1]; omega
  · rw [Int.add_mul_emod_self_left, Int.emod_eq_of_lt h0 h1]
theorem val_drop {B : Int} (hB : 1 < B) {l : List Int} (h : Dig B l) (k : Nat) : val B (l.drop k) = val B l / B ^ k ∧ val B (l.take k) = val B l % B ^ k := by
  by_cases hk : k ≤ l.length
  · exact val_drop_div (by omega) h k hk
  · rw [List.drop_eq_nil_of_le (by omega), List.take_of_length_le (by omega)]
    have h0 := val_nonneg (by omega) h
    have h1 := val_lt (by omega) h
    have h2 : B ^ l.length ≤ B ^ k := by
      obtain ⟨m, rfl⟩ : ∃ m, k = l.length + m := ⟨k - l.length, by omega⟩
      rw [Int.pow_add]
      have h3 := pow_pos' (B := B) (by omega) m
      have h4 := pow_pos' (B := B) (by omega) l.length
      have := Int.mul_le_mul_of_nonneg_left (show 1 ≤ B ^ m by omega) (show 0 ≤ B ^ l.length by omega)
      omega
    exact ⟨(Int.ediv_eq_zero_of_lt h0 (by omega)).symm, (Int.emod_eq_of_lt h0 (by omega)).symm⟩
/-- Two lists of digits of one length that stand for the same number are the same. -/
theorem val_inj {B : Int} (_hB : 0 < B) {a b : List Int} (h : Dig B a) (k : Dig B b) (hl : a.length = b.length) (e : val B a = val B b) : a = b := by
  induction a generalizing b with
  | nil => cases b with
    | nil => rfl
    | cons => simp at hl
  | cons x a ih =>
    cases b with
    | nil => simp at hl
    | cons y b =>
      have hx := h x (List.mem_cons_self ..)
      have hy := k y (List.mem_cons_self ..)
      rw [val_cons, val_cons] at e
      have e1 : (x + B * val B a) % B = (y + B * val B b) % B := by rw [e]
      rw [Int.add_mul_emod_self_left, Int.add_mul_emod_self_left, Int.emod_eq_of_lt hx.1 hx.2, Int.emod_eq_of_lt hy.1 hy.2] at e1
      subst e1
      have e2 : B * val B a = B * val B b := by omega
      have e3 := Int.eq_of_mul_eq_mul_left (by omega) e2
      rw [ih (fun z hz => h z (List.mem_cons_of_mem _ hz)) (fun z hz => k z (List.mem_cons_of_mem _ hz)) (by simpa using hl) e3]

/-- The number at a place, 0 beyond the end: closed to the walk. -/
def el (l : List Int) (i : Nat) : Int := l.getD i 0
theorem el_eq (l : List Int) (i : Nat) : el l i = l.getD i 0 := rfl
theorem el_set_ne (l : List Int) (i j : Nat) (x : Int) (h : j ≠ i) : el (l.set i x) j = el l j := by
  simp [el, List.getD_eq_getElem?_getD, Ne.symm h]
theorem ownsRow_drewN {w : World} {base : Nat} {e : TypeId} {size : Nat} {v : Value} {n : Nat} {xs : List Value} (h : w.ownsRow base e size v n xs) (m : Nat) : (w.drewN m).ownsRow base e size v n xs := h
theorem el_map (k : IntKind) {l : List Int} {i : Nat} (hi : i < l.length) : (l.map (Value.int k))[i]? = some (.int k (el l i)) := by
  simp [el, List.getElem?_map, List.getElem?_eq_getElem hi, List.getD_eq_getElem?_getD]
theorem Dig.el {B : Int} {l : List Int} (h : Dig B l) (hB : 0 < B) (k : Nat) : 0 ≤ el l k ∧ el l k < B := h.getD hB k
/-- The slice value v holds the numbers l. -/
def Sl (k : IntKind) (w : World) (v : Value) (l : List Int) : Prop :=
  ∃ a cap, v = .slice a l.length cap ∧ (0 < l.length → ∃ b off, a = some ⟨b, off, none⟩ ∧ ∀ i, i < l.length → w.cell? ⟨b, off + i, none⟩ = some (.int k (el l i)))
theorem Sl.keep {k : IntKind} {w w' : World} {v : Value} {l : List Int} (h : Sl k w v l) (hb : Below w.heap.size w w') : Sl k w' v l := by
  obtain ⟨a, cap, rfl, hc⟩ := h
  refine ⟨a, cap, rfl, fun hi => ?_⟩
  obtain ⟨b, off, rfl, h⟩ := hc hi
  exact ⟨b, off, rfl, fun i hi => (hb.cell (World.block_lt_of_cell? w _ (h i hi))).trans (h i hi)⟩
theorem Sl.own {k : IntKind} {w : World} {base : Nat} {e : TypeId} {v : Value} {l : List Int} (h : w.ownsRow base e 1 v l.length (l.map (Value.int k))) : Sl k w v l := by
  have h' := h
  rcases h.2 with ⟨rfl, h0⟩ | ⟨g, cap, cur, rfl, _⟩
  · have : l = [] := List.length_eq_zero_iff.1 h0
    subst this
    exact ⟨none, 0, rfl, fun hi => absurd hi (by simp)⟩
  · refine ⟨_, cap, rfl, fun _ => ⟨_, _, rfl, fun i hi => ?_⟩⟩
    rw [Nat.zero_add, h'.cellAt i (by omega), el_map k hi]
theorem Tryz.infoInt : (Tryz.prog.info? 3).map (fun i => (i.zero, i.size, i.bytes)) = some (some (.int .i64 0), 1, 8) := by kernel_rfl
theorem one_at (w : World) (x : Value) (t : TypeId) : ∀ (j : Nat) (u : Value), [x][j]? = some u → (w.alloc (.cells #[x] t)).cell? (Addr.add ⟨w.heap.size, 0, none⟩ j) = some u := by
  intro j u hj
  match j, hj with
  | 0, hj => simp at hj; subst hj; simp [Addr.add]
theorem one_cell (k : IntKind) (x : Int) : ∀ u ∈ [Value.int k x], u.oneCell' = true := by
  intro u hu; simp at hu; subst hu; rfl
theorem Sl.nil (k : IntKind) (w : World) : Sl k w (.slice none 0 0) [] := ⟨none, 0, rfl, fun h => absurd h (by simp)⟩
end Go.Proofs.YtnfapdmbkpkkdaaGreat
