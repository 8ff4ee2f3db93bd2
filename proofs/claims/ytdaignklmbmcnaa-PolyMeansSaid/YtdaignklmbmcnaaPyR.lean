/-
  Mathematics of polynomials over the rational numbers: the mean value theorem, without limits.
-/
import Init.Data.Rat.Lemmas
namespace Go.Proofs.Ytdaignklmbmcnaa

def pev : List Rat → Rat → Rat
  | [], _ => 0
  | c :: l, x => c + x * pev l x
def pdv : List Rat → Rat → Rat
  | [], _ => 0
  | _ :: l, x => pev l x + x * pdv l x
def scl : Nat → List Rat → List Rat
  | _, [] => []
  | k, c :: l => (k * c) :: scl (k + 1) l
theorem pev_scl (l : List Rat) (x : Rat) : ∀ k : Nat, pev (scl k l) x = k * pev l x + x * pdv l x := by
  induction l with
  | nil => intro k; simp [scl, pev, pdv]; grind
  | cons c l ih => intro k; simp only [scl, pev, pdv]; rw [ih]; push_cast; grind
theorem sq_mul_le {a b : Rat} (h : 0 ≤ a) (k : 0 ≤ b) : 0 ≤ a * b := Rat.mul_nonneg h k
/-- |u| ≤ a, |v| ≤ b give |u v| ≤ a b. -/
theorem abs_mul {u v a b : Rat} (h0 : -a ≤ u) (h1 : u ≤ a) (k0 : -b ≤ v) (k1 : v ≤ b) : -(a * b) ≤ u * v ∧ u * v ≤ a * b := by
  have e1 := Rat.mul_nonneg (a := a - u) (b := b + v) (by grind) (by grind)
  have e2 := Rat.mul_nonneg (a := a + u) (b := b - v) (by grind) (by grind)
  have e3 := Rat.mul_nonneg (a := a - u) (b := b - v) (by grind) (by grind)
  have e4 := Rat.mul_nonneg (a := a + u) (b := b + v) (by grind) (by grind)
  constructor <;> grind
theorem pev_bd (M : Rat) (hM : 0 ≤ M) (l : List Rat) : ∃ B, 0 ≤ B ∧ ∀ x, -M ≤ x → x ≤ M → -B ≤ pev l x ∧ pev l x ≤ B := by
  induction l with
  | nil => exact ⟨0, by grind, fun x _ _ => by simp [pev]⟩
  | cons c l ih =>
    obtain ⟨B, hB, h⟩ := ih
    have hMB := Rat.mul_nonneg hM hB
    refine ⟨(if 0 ≤ c then c else -c) + M * B, by grind, fun x x0 x1 => ?_⟩
    obtain ⟨b0, b1⟩ := h x x0 x1
    obtain ⟨e0, e1⟩ := abs_mul x0 x1 b0 b1
    simp only [pev]
    constructor <;> grind
theorem pev_lip (M : Rat) (hM : 0 ≤ M) (l : List Rat) : ∃ L, 0 ≤ L ∧ ∀ x y, -M ≤ x → x ≤ y → y ≤ M → -(L * (y - x)) ≤ pev l y - pev l x ∧ pev l y - pev l x ≤ L * (y - x) := by
  induction l with
  | nil => exact ⟨0, by grind, fun x y _ _ _ => by simp [pev]; grind⟩
  | cons c l ih =>
    obtain ⟨L, hL, h⟩ := ih
    obtain ⟨B, hB, hb⟩ := pev_bd M hM l
    refine ⟨B + M * L, by have := Rat.mul_nonneg hM hL; grind, fun x y x0 xy y1 => ?_⟩
    obtain ⟨a0, a1⟩ := h x y x0 xy y1
    obtain ⟨b0, b1⟩ := hb y (by grind) y1
    -- p y - p x = (y - x) q y + x (q y - q x)
    have d : 0 ≤ y - x := by grind
    have e : pev (c :: l) y - pev (c :: l) x = (y - x) * pev l y + x * (pev l y - pev l x) := by simp only [pev]; grind
    rw [e]
    obtain ⟨c0, c1⟩ := abs_mul (u := y - x) (a := y - x) (by grind) (by grind) b0 b1
    obtain ⟨d0, d1⟩ := abs_mul (u := x) (a := M) x0 (by grind) a0 a1
    constructor <;> grind
theorem pev_tay (M : Rat) (hM : 0 ≤ M) (l : List Rat) : ∃ C, 0 ≤ C ∧ ∀ x y, -M ≤ x → x ≤ y → y ≤ M → -(C * ((y - x) * (y - x))) ≤ pev l y - pev l x - pdv l x * (y - x) ∧ pev l y - pev l x - pdv l x * (y - x) ≤ C * ((y - x) * (y - x)) := by
  induction l with
  | nil => exact ⟨0, by grind, fun x y _ _ _ => by simp [pev, pdv]; grind⟩
  | cons c l ih =>
    obtain ⟨C, hC, h⟩ := ih
    obtain ⟨L, hL, hl⟩ := pev_lip M hM l
    refine ⟨L + M * C, by have := Rat.mul_nonneg hM hC; grind, fun x y x0 xy y1 => ?_⟩
    obtain ⟨a0, a1⟩ := h x y x0 xy y1
    obtain ⟨b0, b1⟩ := hl x y x0 xy y1
    have e : pev (c :: l) y - pev (c :: l) x - pdv (c :: l) x * (y - x) = (y - x) * (pev l y - pev l x) + x * (pev l y - pev l x - pdv l x * (y - x)) := by simp only [pev, pdv]; grind
    rw [e]
    obtain ⟨c0, c1⟩ := abs_mul (u := y - x) (a := y - x) (by grind) (by grind) b0 b1
    obtain ⟨d0, d1⟩ := abs_mul (u := x) (a := M) x0 (by grind) a0 a1
    constructor <;> grind
theorem small {a b : Rat} (h : ∀ N : Nat, 0 < N → a * N ≤ b) : a ≤ 0 := by
  apply Rat.not_lt.1
  intro ha
  have hq : b / a < ((b / a).ceil.toNat + 1 : Nat) := by
    have h1 := Rat.le_ceil (x := b / a)
    have h2 : (b / a).ceil ≤ ((b / a).ceil.toNat : Int) := Int.self_le_toNat _
    have h3 : ((b / a).ceil : Rat) ≤ (((b / a).ceil.toNat : Int) : Rat) := by exact_mod_cast h2
    have h4 : ((((b / a).ceil.toNat : Int)) : Rat) = (((b / a).ceil.toNat : Nat) : Rat) := by first | exact Rat.intCast_natCast _ | rfl | (norm_cast)
    rw [h4] at h3
    have h5 : ((((b / a).ceil.toNat + 1 : Nat)) : Rat) = (((b / a).ceil.toNat : Nat) : Rat) + 1 := by push_cast; rfl
    grind
  have := h _ (Nat.succ_pos (b / a).ceil.toNat)
  rw [Rat.div_lt_iff ha] at hq
  grind
theorem mean_up (l : List Rat) (s t hi : Rat) (hst : s ≤ t) (h : ∀ x, s ≤ x → x ≤ t → pdv l x ≤ hi) : pev l t - pev l s ≤ hi * (t - s) := by
  obtain ⟨M, hM, m0, m1⟩ : ∃ M : Rat, 0 ≤ M ∧ -M ≤ s ∧ t ≤ M := ⟨(if 0 ≤ s then s else -s) + (if 0 ≤ t then t else -t), by grind, by grind, by grind⟩
  obtain ⟨C, hC, hc⟩ := pev_tay M hM l
  have key : ∀ N : Nat, 0 < N → (pev l t - pev l s - hi * (t - s)) * N ≤ C * ((t - s) * (t - s)) := by
    intro N hN
    have hN' : (0 : Rat) < N := by exact_mod_cast hN
    obtain ⟨d, hd⟩ : ∃ d : Rat, d * N = t - s := ⟨(t - s) / N, by rw [Rat.div_mul_cancel]; grind⟩
    have d0 : 0 ≤ d := by
      apply Rat.not_lt.1; intro hneg
      have := Rat.mul_lt_mul_of_pos_right hneg hN'
      grind
    have step : ∀ i : Nat, i ≤ N → pev l (s + i * d) - pev l s ≤ hi * (i * d) + i * (C * (d * d)) := by
      intro i
      induction i with
      | zero => intro _; simp; grind
      | succ i ih =>
        intro hi'
        have hi2 := ih (by omega)
        have hle : ((i + 1 : Nat) : Rat) ≤ (N : Rat) := by exact_mod_cast hi'
        have h0i : (0 : Rat) ≤ (i : Rat) := by exact_mod_cast Nat.zero_le i
        have e1 := Rat.mul_nonneg h0i d0
        have e2 : ((i + 1 : Nat) : Rat) * d ≤ N * d := Rat.mul_le_mul_of_nonneg_right hle d0
        push_cast at e2 ⊢
        have hx := hc (s + i * d) (s + (i + 1) * d) (by grind) (by grind) (by grind)
        have hp := h (s + i * d) (by grind) (by grind)
        have e3 : s + (i + 1) * d - (s + i * d) = d := by grind
        rw [e3] at hx
        have e4 := Rat.mul_le_mul_of_nonneg_right hp d0
        grind
    have := step N (Nat.le_refl _)
    have e : s + N * d = t := by grind
    rw [e] at this
    have e5 : (N : Rat) * (C * (d * d)) * N = C * ((t - s) * (t - s)) := by rw [← hd]; grind
    have e6 : (N : Rat) * d = t - s := by grind
    have e7 := Rat.mul_le_mul_of_nonneg_right (c := (N : Rat)) (show pev l t - pev l s - hi * (t - s) ≤ N * (C * (d * d)) by rw [e6] at this; grind) (by grind)
    grind
  have := small key
  grind
theorem pev_neg (l : List Rat) (x : Rat) : pev (l.map (fun c => -c)) x = - pev l x := by
  induction l with
  | nil => simp [pev]
  | cons c l ih => simp only [List.map_cons, pev, ih]; grind
theorem pdv_neg (l : List Rat) (x : Rat) : pdv (l.map (fun c => -c)) x = - pdv l x := by
  induction l with
  | nil => simp [pdv]
  | cons c l ih => simp only [List.map_cons, pdv, ih, pev_neg]; grind
theorem mean_down (l : List Rat) (s t lo : Rat) (hst : s ≤ t) (h : ∀ x, s ≤ x → x ≤ t → lo ≤ pdv l x) : lo * (t - s) ≤ pev l t - pev l s := by
  have := mean_up (l.map (fun c => -c)) s t (-lo) hst (fun x h0 h1 => by rw [pdv_neg]; have := h x h0 h1; grind)
  rw [pev_neg, pev_neg] at this
  grind

end Go.Proofs.Ytdaignklmbmcnaa
