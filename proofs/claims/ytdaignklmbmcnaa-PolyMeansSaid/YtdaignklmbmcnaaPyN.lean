/-
  The mean value theorem for polynomials with interval coefficients.
-/
import Derived.Test.YtdaignklmbmcnaaPyM
import Derived.Test.YtdaignklmbmcnaaPyR
namespace Go.Proofs.Ytdaignklmbmcnaa

theorem cst_le {a b : Int} (h : a ≤ b) : (a : Rat) ≤ (b : Rat) := by exact_mod_cast h
theorem rq_down_rat (n : Int) : ((rq false n 4294967296 : Int) : Rat) * 4294967296 ≤ (n : Rat) := by
  have h : rq false n 4294967296 * 4294967296 ≤ n := by
    show n / 4294967296 * 4294967296 ≤ n
    omega
  have := cst_le h
  push_cast at this
  exact this
theorem rq_up_rat (n : Int) : (n : Rat) ≤ ((rq true n 4294967296 : Int) : Rat) * 4294967296 := by
  have h : n ≤ rq true n 4294967296 * 4294967296 := by
    show n ≤ -((-n) / 4294967296) * 4294967296
    omega
  have := cst_le h
  push_cast at this
  exact this
theorem rmul_le {x y z : Rat} (h : x ≤ y) (hz : 0 ≤ z) : x * z ≤ y * z := Rat.mul_le_mul_of_nonneg_right h hz
theorem rmul_ge {x y z : Rat} (h : x ≤ y) (hz : z ≤ 0) : y * z ≤ x * z := by
  have := Rat.mul_le_mul_of_nonneg_right h (show 0 ≤ -z by grind)
  grind
/-- A product of rational numbers lies between products of the ends. -/
theorem rprod_low {a b c d X Y : Rat} (x0 : a ≤ X) (x1 : X ≤ b) (y0 : c ≤ Y) (y1 : Y ≤ d) : a * c ≤ X * Y ∨ a * d ≤ X * Y ∨ b * c ≤ X * Y ∨ b * d ≤ X * Y := by
  rcases Rat.le_total (a := 0) (b := Y) with h | h
  · have h1 := rmul_le x0 h
    rcases Rat.le_total (a := 0) (b := a) with g | g
    · have := rmul_le y0 g; left; grind
    · have := rmul_ge y1 g; right; left; grind
  · have h1 := rmul_ge x1 h
    rcases Rat.le_total (a := 0) (b := b) with g | g
    · have := rmul_le y0 g; right; right; left; grind
    · have := rmul_ge y1 g; right; right; right; grind
theorem rprod_high {a b c d X Y : Rat} (x0 : a ≤ X) (x1 : X ≤ b) (y0 : c ≤ Y) (y1 : Y ≤ d) : X * Y ≤ a * c ∨ X * Y ≤ a * d ∨ X * Y ≤ b * c ∨ X * Y ≤ b * d := by
  have := rprod_low (a := -b) (b := -a) (X := -X) (by grind) (by grind) y0 y1
  grind
theorem mul_corner_rat {a b c d l h : Int} (k : ckS a b = 0) (k' : ckS c d = 0) (e : sMulR a b c d = (l, h, 0)) (p q : Int) (hp : p = a ∨ p = b) (hq : q = c ∨ q = d) : (l : Rat) * 4294967296 ≤ (p : Rat) * q ∧ (p : Rat) * q ≤ (h : Rat) * 4294967296 := by
  have va := valS k
  have vb := valS k'
  obtain ⟨f1, f2, f3, f4⟩ := mul_corner k k' e p q hp hq
  have pb : -4503599627370496 ≤ p ∧ p ≤ 4503599627370496 := by omega
  have qb : -4503599627370496 ≤ q ∧ q ≤ 4503599627370496 := by omega
  rw [mulR_in false pb.1 pb.2 qb.1 qb.2] at f1 f3
  rw [mulR_in true pb.1 pb.2 qb.1 qb.2] at f2 f4
  rw [(lim_val f1).1] at f3
  rw [(lim_val f2).1] at f4
  have g1 := rq_down_rat (p * q)
  have g2 := rq_up_rat (p * q)
  have g3 := cst_le f3
  have g4 := cst_le f4
  push_cast at g1 g2
  constructor <;> grind
theorem mul_rat {a b c d l h : Int} (k : ckS a b = 0) (k' : ckS c d = 0) (e : sMulR a b c d = (l, h, 0)) {X Y : Rat} (x0 : (a : Rat) ≤ X) (x1 : X ≤ b) (y0 : (c : Rat) ≤ Y) (y1 : Y ≤ d) : (l : Rat) * 4294967296 ≤ X * Y ∧ X * Y ≤ (h : Rat) * 4294967296 := by
  have h1 := mul_corner_rat k k' e a c (.inl rfl) (.inl rfl)
  have h2 := mul_corner_rat k k' e a d (.inl rfl) (.inr rfl)
  have h3 := mul_corner_rat k k' e b c (.inr rfl) (.inl rfl)
  have h4 := mul_corner_rat k k' e b d (.inr rfl) (.inr rfl)
  constructor
  · rcases rprod_low x0 x1 y0 y1 with g | g | g | g <;> grind
  · rcases rprod_high x0 x1 y0 y1 with g | g | g | g <;> grind
theorem lim_ends {a b l h : Int} (e : limS a b = (l, h, 0)) : l = a ∧ h = b := by
  unfold limS at e
  split at e
  · simp only [Prod.mk.injEq] at e; exact ⟨e.1.symm, e.2.1.symm⟩
  · cases e
theorem add_ends {a b c d l h : Int} (k : ckS a b = 0) (k' : ckS c d = 0) (e : sAddR a b c d = (l, h, 0)) : l = a + c ∧ h = b + d := by
  unfold sAddR at e; rw [if_pos (val2 k k')] at e; exact lim_ends e
theorem sub_ends {a b c d l h : Int} (k : ckS a b = 0) (k' : ckS c d = 0) (e : sSubR a b c d = (l, h, 0)) : l = a - d ∧ h = b - c := by
  unfold sSubR at e; rw [if_pos (val2 k k')] at e; exact lim_ends e
theorem sub_val {a b c d l h : Int} (k : ckS a b = 0) (k' : ckS c d = 0) (e : sSubR a b c d = (l, h, 0)) : ckS l h = 0 := by
  have := py_lim_val (a - d) (b - c)
  unfold sSubR at e; rw [if_pos (val2 k k')] at e; rw [e] at this; exact this

/-- Numbers within intervals, one by one. -/
def Rin : List (Int × Int) → List Rat → Prop
  | [], [] => True
  | a :: l, p :: m => ((a.1 : Rat) ≤ p ∧ p ≤ (a.2 : Rat)) ∧ Rin l m
  | _, _ => False
/-- Horner's rule over intervals contains that over numbers. -/
theorem pvl_rat {x y : Int} (kx : ckS x y = 0) {z : Rat} (z0 : (x : Rat) ≤ z * 4294967296) (z1 : z * 4294967296 ≤ (y : Rat)) : ∀ {l : List (Int × Int)} {m : List Rat} {lo hi : Int}, Rin l m → Ok l → pvl x y l = (lo, hi, 0) → (lo : Rat) ≤ pev m z ∧ pev m z ≤ (hi : Rat)
  | [], [], lo, hi, _, _, e => by
    simp only [pvl, Prod.mk.injEq] at e
    obtain ⟨rfl, rfl, _⟩ := e
    simp [pev]
  | c :: l, p :: m, lo, hi, h, k, e => by
    by_cases e0 : l = []
    · subst e0
      have : m = [] := by
        cases m with
        | nil => rfl
        | cons q m => exact h.2.elim
      subst this
      rw [pvl_one] at e
      simp only [Prod.mk.injEq] at e
      obtain ⟨rfl, rfl, _⟩ := e
      have h1 := h.1
      simp only [pev]
      constructor <;> grind
    · rw [pvl_cons _ _ _ e0] at e
      have kv := pvl_val kx k.tail
      obtain ⟨⟨v0, v1, v2⟩, hv⟩ : ∃ v, pvl x y l = v := ⟨_, rfl⟩
      rw [hv] at e kv
      unfold hst at e
      by_cases zv : v2 = 0
      · subst zv
        obtain ⟨⟨m0, m1, m2⟩, hm⟩ : ∃ v, sMulR v0 v1 x y = v := ⟨_, rfl⟩
        simp only [if_true, hm] at e
        by_cases zm : m2 = 0
        · subst zm
          simp only [if_true] at e
          have km := py_mul_val kv kx
          simp only [hm] at km
          obtain ⟨rfl, rfl⟩ := add_ends km k.head e
          have ih := pvl_rat kx z0 z1 h.2 k.tail hv
          obtain ⟨g0, g1⟩ := mul_rat kv kx hm ih.1 ih.2 z0 z1
          have h1 := h.1
          simp only [pev]
          push_cast
          constructor <;> grind
        · simp only [if_neg zm, Prod.mk.injEq] at e; exact absurd e.2.2 zm
      · simp only [if_neg zv, Prod.mk.injEq] at e; exact absurd e.2.2 zv
  | [], _ :: _, _, _, h, _, _ => h.elim
  | _ :: _, [], _, _, h, _, _ => h.elim
theorem pdv_drop (m : List Rat) (z : Rat) : pdv m z = pev (scl 1 (m.drop 1)) z := by
  cases m with
  | nil => simp [pdv, scl, pev]
  | cons c m =>
    rw [List.drop_succ_cons, List.drop_zero, pev_scl]
    simp only [pdv]
    grind
/-- One number for each coefficient. -/
def pin (l : List (Int × Int)) : List (Int × Int) := l.map fun c => (c.1, c.1)
def nums (l : List (Int × Int)) : List Rat := l.map fun c => (c.1 : Rat)
theorem rin_pin : ∀ l : List (Int × Int), Rin (pin l) (nums l)
  | [] => trivial
  | c :: l => ⟨⟨by simp, by simp⟩, rin_pin l⟩
theorem ok_pin {l : List (Int × Int)} (h : Ok l) : Ok (pin l) := by
  intro c hc
  obtain ⟨d, hd, rfl⟩ := List.mem_map.1 hc
  have v := valS (h d hd)
  exact ckS_ok (by simp only []; omega) (by simp only []; omega) (by simp only []; omega)
theorem rin_scl : ∀ (k : Nat) (l : List (Int × Int)), k + l.length ≤ 100 → Ok l → scE k (pin l) = 0 → Rin (scV k (pin l)) (scl k (nums l)) ∧ Ok (scV k (pin l))
  | _, [], _, _, _ => ⟨trivial, fun c hc => by cases hc⟩
  | k, c :: l, hk, h, e => by
    have e' : scE k ((c.1, c.1) :: pin l) = 0 := e
    unfold scE at e'
    have v := valS h.head
    by_cases z : (sScaleR c.1 c.1 k 1).2.2 = 0
    · rw [if_pos z] at e'
      simp only [List.length_cons] at hk
      obtain ⟨r1, r2⟩ := rin_scl (k + 1) l (by omega) h.tail e'
      obtain ⟨s1, s2⟩ := scale_ok (ckS_ok (by omega) (Int.le_refl _) (by omega)) (by omega) z
      have e1 : scV k (pin (c :: l)) = ((c.1 * k, c.1 * k)) :: scV (k + 1) (pin l) := by
        show ((sScaleR c.1 c.1 k 1).1, (sScaleR c.1 c.1 k 1).2.1) :: scV (k + 1) (pin l) = _
        rw [s1]
      rw [e1]
      refine ⟨⟨⟨?_, ?_⟩, r1⟩, ?_⟩
      · push_cast; grind
      · push_cast; grind
      · intro d hd
        rcases List.mem_cons.1 hd with rfl | hd
        · exact s2
        · exact r2 d hd
    · rw [if_neg z] at e'; exact absurd e' z
theorem nums_drop (l : List (Int × Int)) : nums (l.drop 1) = (nums l).drop 1 := by simp [nums]
theorem pin_drop (l : List (Int × Int)) : pin (l.drop 1) = (pin l).drop 1 := by simp [pin]
theorem pin_length (l : List (Int × Int)) : (pin l).length = l.length := by simp [pin]
/-- The slope contains the derivative. -/
theorem slope_rat {l : List (Int × Int)} {x y d0 d1 : Int} (hl : l.length ≤ 8) (k : Ok l) (kx : ckS x y = 0) (e : slR (pin l) x y = (d0, d1, 0)) {z : Rat} (z0 : (x : Rat) ≤ z * 4294967296) (z1 : z * 4294967296 ≤ (y : Rat)) : (d0 : Rat) ≤ pdv (nums l) z ∧ pdv (nums l) z ≤ (d1 : Rat) := by
  unfold slR at e
  rw [ckL_ok _ _ (by rw [pin_length]; exact hl) (ok_pin k), if_pos kx] at e
  by_cases z : scE 1 ((pin l).drop 1) = 0
  · rw [if_pos z] at e
    rw [← pin_drop] at e z
    obtain ⟨r1, r2⟩ := rin_scl 1 (l.drop 1) (by simp; omega) k.drop1 z
    rw [nums_drop] at r1
    rw [pdv_drop]
    exact pvl_rat kx z0 z1 r1 r2 e
  · rw [if_neg z] at e
    simp only [Prod.mk.injEq] at e; exact absurd e.2.2 z
theorem eval_rat {l : List (Int × Int)} {x v0 v1 : Int} (hl : l.length ≤ 8) (k : Ok l) (kx : ckS x x = 0) (e : evR (pin l) x x = (v0, v1, 0)) {z : Rat} (hz : z * 4294967296 = (x : Rat)) : ((v0 : Rat) ≤ pev (nums l) z ∧ pev (nums l) z ≤ (v1 : Rat)) ∧ ckS v0 v1 = 0 := by
  unfold evR at e
  rw [ckL_ok _ _ (by rw [pin_length]; exact hl) (ok_pin k), if_pos kx] at e
  have kv := pvl_val kx (ok_pin k)
  rw [e] at kv
  exact ⟨pvl_rat kx (by rw [hz]; grind) (by rw [hz]; grind) (rin_pin l) (ok_pin k) e, kv⟩
theorem meet_ok {a b c d : Int} (k : ckS a b = 0) (k' : ckS c d = 0) (h1 : a ≤ d) (h2 : c ≤ b) : (sMeetR a b c d).2.2 = 0 := by
  have va := valS k
  have vb := valS k'
  unfold sMeetR
  rw [if_pos (val2 k k'), if_neg (by omega)]
/-- The theorem of PolyMeans. -/
theorem means_ok {l : List (Int × Int)} {s t v0 v1 w0 w1 d0 d1 r0 r1 y0 y1 m0 m1 : Int} (hl : l.length ≤ 8) (k : Ok l) (s0 : -4503599627370496 ≤ s) (s1 : s ≤ 4503599627370496) (t0 : -4503599627370496 ≤ t) (t1 : t ≤ 4503599627370496)
    (ev : evR (pin l) s s = (v0, v1, 0)) (ew : evR (pin l) t t = (w0, w1, 0)) (es : slR (pin l) (min s t) (max s t) = (d0, d1, 0))
    (er : sSubR w0 w1 v0 v1 = (r0, r1, 0)) (ey : sSubR t t s s = (y0, y1, 0)) (em : sMulR d0 d1 y0 y1 = (m0, m1, 0)) : (sMeetR r0 r1 m0 m1).2.2 = 0 := by
  have ks : ckS s s = 0 := ckS_ok s0 (Int.le_refl _) s1
  have kt : ckS t t = 0 := ckS_ok t0 (Int.le_refl _) t1
  have kx : ckS (min s t) (max s t) = 0 := ckS_ok (by omega) (by omega) (by omega)
  obtain ⟨S, hS⟩ : ∃ S : Rat, S * 4294967296 = (s : Rat) := ⟨(s : Rat) / 4294967296, Rat.div_mul_cancel (by grind)⟩
  obtain ⟨T, hT⟩ : ∃ T : Rat, T * 4294967296 = (t : Rat) := ⟨(t : Rat) / 4294967296, Rat.div_mul_cancel (by grind)⟩
  obtain ⟨⟨a0, a1⟩, kv⟩ := eval_rat hl k ks ev hS
  obtain ⟨⟨b0, b1⟩, kw⟩ := eval_rat hl k kt ew hT
  have kd : ckS d0 d1 = 0 := by
    have es' := es
    unfold slR at es'
    rw [ckL_ok _ _ (by rw [pin_length]; exact hl) (ok_pin k), if_pos kx] at es'
    by_cases z : scE 1 ((pin l).drop 1) = 0
    · rw [if_pos z] at es'
      rw [← pin_drop] at es' z
      have := pvl_val kx (rin_scl 1 (l.drop 1) (by simp; omega) k.drop1 z).2
      rw [es'] at this; exact this
    · rw [if_neg z] at es'
      simp only [Prod.mk.injEq] at es'; exact absurd es'.2.2 z
  have ky := sub_val kt ks ey
  have kr := sub_val kw kv er
  have km := py_mul_val kd ky
  rw [em] at km
  obtain ⟨hy0, hy1⟩ := sub_ends kt ks ey
  obtain ⟨hr0, hr1⟩ := sub_ends kw kv er
  have hyy : y1 = y0 := by omega
  subst hyy
  have c1 := mul_corner_rat kd ky em d0 y1 (.inl rfl) (.inl rfl)
  have c2 := mul_corner_rat kd ky em d1 y1 (.inr rfl) (.inl rfl)
  have hY : (y1 : Rat) = (T - S) * 4294967296 := by
    rw [hy0]; push_cast; rw [← hS, ← hT]; grind
  -- the rise, as a rational number, lies in both
  have key : (m0 : Rat) ≤ pev (nums l) T - pev (nums l) S ∧ pev (nums l) T - pev (nums l) S ≤ (m1 : Rat) := by
    rw [hY] at c1 c2
    rcases Int.le_total s t with hst | hst
    · have hST : S ≤ T := by
        have := cst_le hst
        rw [← hS, ← hT] at this
        grind
      have emn : min s t = s := by omega
      have emx : max s t = t := by omega
      rw [emn, emx] at es kx
      have hd : ∀ z : Rat, S ≤ z → z ≤ T → (d0 : Rat) ≤ pdv (nums l) z ∧ pdv (nums l) z ≤ (d1 : Rat) := fun z h0 h1 => slope_rat hl k kx es (by rw [← hS]; grind) (by rw [← hT]; grind)
      have u := mean_up (nums l) S T d1 hST fun z h0 h1 => (hd z h0 h1).2
      have d := mean_down (nums l) S T d0 hST fun z h0 h1 => (hd z h0 h1).1
      constructor <;> grind
    · have hST : T ≤ S := by
        have := cst_le hst
        rw [← hS, ← hT] at this
        grind
      have emn : min s t = t := by omega
      have emx : max s t = s := by omega
      rw [emn, emx] at es kx
      have hd : ∀ z : Rat, T ≤ z → z ≤ S → (d0 : Rat) ≤ pdv (nums l) z ∧ pdv (nums l) z ≤ (d1 : Rat) := fun z h0 h1 => slope_rat hl k kx es (by rw [← hT]; grind) (by rw [← hS]; grind)
      have u := mean_up (nums l) T S d1 hST fun z h0 h1 => (hd z h0 h1).2
      have d := mean_down (nums l) T S d0 hST fun z h0 h1 => (hd z h0 h1).1
      constructor <;> grind
  have r0' : (r0 : Rat) ≤ (m1 : Rat) := by rw [hr0]; push_cast; grind
  have r1' : (m0 : Rat) ≤ (r1 : Rat) := by rw [hr1]; push_cast; grind
  exact meet_ok kr km (by exact_mod_cast r0') (by exact_mod_cast r1')
end Go.Proofs.Ytdaignklmbmcnaa
