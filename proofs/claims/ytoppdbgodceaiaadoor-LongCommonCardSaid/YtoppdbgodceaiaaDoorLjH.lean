/-
  The greatest common divisor of any two numbers.
-/
import Derived.Test.YtoppdbgodceaiaaDoorLgY
import Derived.Test.YtoppdbgodceaiaaDoorLjO
import Derived.Test.YtoppdbgodceaiaaDoorLgU
import Derived.Test.YtoppdbgodceaiaaDoorLgG
import Derived.Test.YtoppdbgodceaiaaDoorFixD
import Derived.Test.YtoppdbgodceaiaaDoorLgT
import Derived.Test.YtoppdbgodceaiaaDoorLgJ
import Derived.Test.YtoppdbgodceaiaaDoorLgH
import Derived.Deep.RegionLaw
import Derived.Laws.CopyOwn
import Derived.Deep.Cut
import Derived.BigRegion
import Derived.Test.YtoppdbgodceaiaaDoorLgI
import Derived.BigQuiet
import Derived.Deep.QuietTactic
import Derived.Deep.LoopGhost
namespace Go.Proofs.YtoppdbgodceaiaaDoor
open Go.RowKit

/-- What some steps of Euclid's algorithm have come to: x, y are what X, Y have become; a, b those of two numbers P ≥ Q, whose leading digits X and Y are. -/
structure StepsInv (X Y P Q x y a0 b0 a1 b1 a2 b2 : Int) (odd : Bool) : Prop where
  xe : x = (if odd then -1 else 1) * (b1 * Y - a1 * X)
  ye : y = (if odd then -1 else 1) * (a2 * X - b2 * Y)
  sx : b2 * x + b1 * y = X
  sy : a2 * x + a1 * y = Y
  n0 : 0 ≤ a0 ∧ 0 ≤ b0 ∧ 0 ≤ a1 ∧ 0 ≤ b1 ∧ 0 ≤ a2 ∧ 1 ≤ b2
  le2 : a2 ≤ b2
  lt : a0 < 1000000000 ∧ b0 < 1000000000 ∧ a1 < 1000000000 ∧ b1 < 1000000000
  lt2 : a2 < 1000000000000000000 ∧ b2 < 1000000000000000000
  xy : 0 ≤ y ∧ y ≤ x ∧ x ≤ X
  det : a1 * b2 - a2 * b1 = -(if odd then -1 else 1)
  begun : (a1 = 1 ∧ b1 = 0 ∧ a2 = 0 ∧ b2 = 1 ∧ b0 = 0 ∧ odd = true) ∨
    (a1 ≤ b1 ∧ 1 ≤ b1 ∧ 0 ≤ (if odd then -1 else 1) * (b1 * Q - a1 * P) ∧ (if odd then -1 else 1) * (b1 * Q - a1 * P) ≤ Q ∧
      (b0 ≠ 0 → a0 * b1 - a1 * b0 = (if odd then -1 else 1) ∧ (if odd then -1 else 1) * (b1 * Q - a1 * P) < (if odd then -1 else 1) * (a0 * P - b0 * Q) ∧ (if odd then -1 else 1) * (a0 * P - b0 * Q) ≤ Q))

theorem StepsInv.start {X Y P Q : Int} (h0 : 0 ≤ Y) (h1 : Y ≤ X) : StepsInv X Y P Q X Y 0 0 1 0 0 1 true where
  xe := by simp
  ye := by simp
  sx := by simp
  sy := by simp
  n0 := by omega
  le2 := by omega
  lt := by omega
  lt2 := by omega
  xy := by omega
  det := by simp
  begun := .inl (by simp)

/-- One step more. -/
theorem StepsInv.step {X Y P Q S r t x y a0 b0 a1 b1 a2 b2 : Int} {odd : Bool} (h : StepsInv X Y P Q x y a0 b0 a1 b1 a2 b2 odd)
    (hX : X < 1000000000000000000) (hP : P = X * S + r) (hQ : Q = Y * S + t) (hr : 0 ≤ r ∧ r < S) (ht : 0 ≤ t ∧ t < S) (hPQ : Q ≤ P) (hQ0 : 0 ≤ Q)
    (c1 : b2 ≤ y) (c2 : b1 + b2 ≤ x - y) :
    StepsInv X Y P Q y (x % y) a1 b1 a2 b2 (a1 + x / y * a2) (b1 + x / y * b2) (!odd) ∧ 0 ≤ x / y * a2 ∧ 0 ≤ x / y * b2 ∧ a1 + x / y * a2 < 1000000000000000000 ∧ b1 + x / y * b2 < 1000000000000000000 := by
  obtain ⟨xe, ye, sx, sy, n0, le2, lt, lt2, xy, det, begun⟩ := h
  have hb2 := n0.2.2.2.2.2
  have y1 : 1 ≤ y := by omega
  have hm := Int.emod_nonneg x (show y ≠ 0 by omega)
  have hm2 := Int.emod_lt_of_pos x (show 0 < y by omega)
  have hdm := Int.mul_ediv_add_emod x y
  have hq : 1 ≤ x / y := (Int.le_ediv_iff_mul_le (by omega)).2 (by omega)
  generalize x / y = q at *
  generalize x % y = m at *
  have hx : x = y * q + m := hdm.symm
  have b2lt : b2 < 1000000000 := by
    rcases (by omega : b2 < 1000000000 ∨ 1000000000 ≤ b2) with h | h
    · exact h
    · have e1 := Int.mul_le_mul (show (1000000000 : Int) ≤ b2 from h) (show (1000000000 : Int) ≤ x by omega) (by omega) (by omega)
      have e2 := Int.mul_nonneg n0.2.2.2.1 (show 0 ≤ y by omega)
      omega
  have sX : (b1 + q * b2) * y + b2 * m = X := by rw [← sx, hx]; grind
  have sY : (a1 + q * a2) * y + a2 * m = Y := by rw [← sy, hx]; grind
  have p1 : 0 ≤ q * a2 := Int.mul_nonneg (by omega) (by omega)
  have p2 : 0 ≤ q * b2 := Int.mul_nonneg (by omega) (by omega)
  have p3 : 1 * b2 ≤ q * b2 := Int.mul_le_mul_of_nonneg_right hq (by omega)
  have p4 : q * a2 ≤ q * b2 := Int.mul_le_mul_of_nonneg_left le2 (by omega)
  have B3 : b1 + q * b2 ≤ X := by
    have e1 := Int.mul_le_mul_of_nonneg_left y1 (show 0 ≤ b1 + q * b2 by omega)
    have e2 := Int.mul_nonneg (show 0 ≤ b2 by omega) hm
    omega
  have YX : Y ≤ X := by
    have e1 := Int.mul_le_mul_of_nonneg_right le2 (show 0 ≤ x by omega)
    rcases begun with ⟨e3, e4, e5, e6, _⟩ | ⟨e3, _⟩
    · subst e3 e4 e5 e6; omega
    · have e2 := Int.mul_le_mul_of_nonneg_right e3 (show 0 ≤ y by omega)
      omega
  have A3 : a1 + q * a2 ≤ Y := by
    have e1 := Int.mul_le_mul_of_nonneg_left y1 (show 0 ≤ a1 + q * a2 by omega)
    have e2 := Int.mul_nonneg (show 0 ≤ a2 by omega) hm
    omega
  have sgn : (if (!odd) = true then (-1 : Int) else 1) = -(if odd then -1 else 1) := by cases odd <;> rfl
  refine ⟨⟨?_, ?_, sX, sY, ⟨n0.2.2.1, n0.2.2.2.1, n0.2.2.2.2.1, by omega, by omega, by omega⟩, ?_, ⟨lt.2.2.1, lt.2.2.2, by omega, b2lt⟩, by omega, by omega, ?_, .inr ?_⟩, p1, p2, by omega, by omega⟩
  · rw [sgn, ye]; grind
  · rw [sgn]
    have : m = x - y * q := by omega
    rw [this, xe, ye]; grind
  · rcases begun with ⟨e3, e4, e5, e6, _⟩ | ⟨e3, _⟩
    · subst e3 e4 e5 e6; omega
    · omega
  · rw [sgn]
    have : a2 * (b1 + q * b2) - (a1 + q * a2) * b2 = -(a1 * b2 - a2 * b1) := by grind
    rw [this, det]
  · rw [sgn]
    -- the numbers themselves
    have e1 : (if odd then (-1 : Int) else 1) * (a2 * P - b2 * Q) = y * S + (if odd then (-1 : Int) else 1) * (a2 * r - b2 * t) := by
      rw [hP, hQ, ye]; grind
    have e2 : (if odd then (-1 : Int) else 1) * (b1 * Q - a1 * P) = x * S + (if odd then (-1 : Int) else 1) * (b1 * t - a1 * r) := by
      rw [hP, hQ, xe]; grind
    have f1 : -(if odd then (-1 : Int) else 1) * (b2 * Q - a2 * P) = (if odd then (-1 : Int) else 1) * (a2 * P - b2 * Q) := by grind
    have f2 : -(if odd then (-1 : Int) else 1) * (a1 * P - b1 * Q) = (if odd then (-1 : Int) else 1) * (b1 * Q - a1 * P) := by grind
    rw [f1, f2, e1, e2]
    have q1 := Int.mul_le_mul_of_nonneg_right c1 (show 0 ≤ S by omega)
    have q2 := Int.mul_le_mul_of_nonneg_right c2 (show 0 ≤ S by omega)
    have q3 := Int.mul_nonneg n0.2.2.2.2.1 hr.1
    have q4 := Int.mul_nonneg (show 0 ≤ b2 by omega) ht.1
    have q5 := Int.mul_le_mul_of_nonneg_left (show r ≤ S - 1 by omega) n0.2.2.2.2.1
    have q6 := Int.mul_le_mul_of_nonneg_left (show t ≤ S - 1 by omega) (show 0 ≤ b2 by omega)
    have q7 := Int.mul_le_mul_of_nonneg_right le2 (show 0 ≤ S - 1 by omega)
    have q8 := Int.mul_nonneg n0.2.2.1 hr.1
    have q9 := Int.mul_nonneg n0.2.2.2.1 ht.1
    have qa := Int.mul_le_mul_of_nonneg_left (show r ≤ S - 1 by omega) n0.2.2.1
    have qb := Int.mul_le_mul_of_nonneg_left (show t ≤ S - 1 by omega) n0.2.2.2.1
    have x1 : (b1 + b2) * S = b1 * S + b2 * S := by grind
    have x2 : (x - y) * S = x * S - y * S := by grind
    have x3 : b2 * (S - 1) = b2 * S - b2 := by grind
    have x4 : a2 * (S - 1) = a2 * S - a2 := by grind
    have x5 : b1 * (S - 1) = b1 * S - b1 := by grind
    have x6 : a1 * (S - 1) = a1 * S - a1 := by grind
    have g1 : 0 ≤ y * S + (if odd then (-1 : Int) else 1) * (a2 * r - b2 * t) := by
      cases odd
      · simp only [Bool.false_eq_true, if_false, Int.one_mul]; omega
      · simp only [if_true, Int.neg_mul, Int.one_mul]; omega
    rcases begun with ⟨e3, e4, e5, e6, e7, e8⟩ | ⟨h1, h2, h3, h4, h5⟩
    · subst e3 e4 e5 e6 e7 e8
      refine ⟨by omega, by omega, g1, ?_, fun h => absurd rfl h⟩
      rw [← e1]; simp only [if_true]; omega
    · have w1 := Int.mul_le_mul_of_nonneg_right h1 (show 0 ≤ S - 1 by omega)
      have g2 : y * S + (if odd then (-1 : Int) else 1) * (a2 * r - b2 * t) < x * S + (if odd then (-1 : Int) else 1) * (b1 * t - a1 * r) := by
        cases odd
        · simp only [Bool.false_eq_true, if_false, Int.one_mul]; omega
        · simp only [if_true, Int.neg_mul, Int.one_mul]; omega
      rw [e2] at h4
      refine ⟨le2, hb2, g1, by omega, fun _ => ⟨?_, g2, h4⟩⟩
      rw [← det]

/-- Two numbers whose divisors are those of two others have the same greatest common divisor. -/
theorem gI_of_dvd {P Q u v : Int} (hP : 0 ≤ P) (hQ : 0 ≤ Q) (hu : 0 ≤ u) (hv : 0 ≤ v) (h1 : ∀ d : Int, d ∣ P → d ∣ Q → d ∣ u ∧ d ∣ v) (h2 : ∀ d : Int, d ∣ u → d ∣ v → d ∣ P ∧ d ∣ Q) : gI u v = gI P Q := by
  unfold gI
  obtain ⟨P, rfl⟩ := Int.eq_ofNat_of_zero_le hP
  obtain ⟨Q, rfl⟩ := Int.eq_ofNat_of_zero_le hQ
  obtain ⟨u, rfl⟩ := Int.eq_ofNat_of_zero_le hu
  obtain ⟨v, rfl⟩ := Int.eq_ofNat_of_zero_le hv
  simp only [Int.toNat_natCast]
  congr 1
  apply Nat.dvd_antisymm
  · obtain ⟨e1, e2⟩ := h2 (Nat.gcd u v : Int) (Int.natCast_dvd_natCast.2 (Nat.gcd_dvd_left u v)) (Int.natCast_dvd_natCast.2 (Nat.gcd_dvd_right u v))
    exact Nat.dvd_gcd (Int.natCast_dvd_natCast.1 e1) (Int.natCast_dvd_natCast.1 e2)
  · obtain ⟨e1, e2⟩ := h1 (Nat.gcd P Q : Int) (Int.natCast_dvd_natCast.2 (Nat.gcd_dvd_left P Q)) (Int.natCast_dvd_natCast.2 (Nat.gcd_dvd_right P Q))
    exact Nat.dvd_gcd (Int.natCast_dvd_natCast.1 e1) (Int.natCast_dvd_natCast.1 e2)
/-- What the steps make of two numbers has the same greatest common divisor. -/
theorem gI_mat {P Q u v a0 b0 a1 b1 s : Int} (hP : 0 ≤ P) (hQ : 0 ≤ Q) (hu : 0 ≤ u) (hv : 0 ≤ v) (hs : s * s = 1) (hd : a0 * b1 - a1 * b0 = s) (eu : u = s * (a0 * P - b0 * Q)) (ev : v = s * (b1 * Q - a1 * P)) : gI u v = gI P Q := by
  have e1 : P = b1 * u + b0 * v := by
    have : b1 * u + b0 * v = s * (a0 * b1 - a1 * b0) * P := by rw [eu, ev]; grind
    rw [this, hd, hs, Int.one_mul]
  have e2 : Q = a1 * u + a0 * v := by
    have : a1 * u + a0 * v = s * (a0 * b1 - a1 * b0) * Q := by rw [eu, ev]; grind
    rw [this, hd, hs, Int.one_mul]
  refine gI_of_dvd hP hQ hu hv (fun d h1 h2 => ?_) (fun d h1 h2 => ?_)
  · rw [eu, ev]
    exact ⟨Int.dvd_mul_of_dvd_right (Int.dvd_sub (Int.dvd_mul_of_dvd_right h1) (Int.dvd_mul_of_dvd_right h2)), Int.dvd_mul_of_dvd_right (Int.dvd_sub (Int.dvd_mul_of_dvd_right h2) (Int.dvd_mul_of_dvd_right h1))⟩
  · rw [e1, e2]
    exact ⟨Int.dvd_add (Int.dvd_mul_of_dvd_right h1) (Int.dvd_mul_of_dvd_right h2), Int.dvd_add (Int.dvd_mul_of_dvd_right h1) (Int.dvd_mul_of_dvd_right h2)⟩
/-- What firstSteps gives for P and Q. -/
structure Fs (P Q a0 b0 a1 b1 : Int) (odd : Bool) : Prop where
  n : 0 ≤ a0 ∧ 0 ≤ b0 ∧ 0 ≤ a1 ∧ 0 ≤ b1
  lt : a0 < 1000000000 ∧ b0 < 1000000000 ∧ a1 < 1000000000 ∧ b1 < 1000000000
  ok : b0 ≠ 0 → a0 * b1 - a1 * b0 = (if odd then -1 else 1) ∧ 0 ≤ (if odd then -1 else 1) * (b1 * Q - a1 * P) ∧ (if odd then -1 else 1) * (b1 * Q - a1 * P) < (if odd then -1 else 1) * (a0 * P - b0 * Q) ∧ (if odd then -1 else 1) * (a0 * P - b0 * Q) ≤ Q
theorem StepsInv.fs {X Y P Q x y a0 b0 a1 b1 a2 b2 : Int} {odd : Bool} (h : StepsInv X Y P Q x y a0 b0 a1 b1 a2 b2 odd) : Fs P Q a0 b0 a1 b1 odd := by
  refine ⟨⟨h.n0.1, h.n0.2.1, h.n0.2.2.1, h.n0.2.2.2.1⟩, h.lt, fun hb => ?_⟩
  rcases h.begun with ⟨_, _, _, _, e, _⟩ | ⟨_, _, h3, h4, h5⟩
  · exact absurd e hb
  · obtain ⟨e1, e2, e3⟩ := h5 hb
    exact ⟨e1, h3, e2, e3⟩
/-- The greatest common divisor is kept, and the second number gets smaller. -/
theorem Fs.next {P Q a0 b0 a1 b1 : Int} {odd : Bool} (h : Fs P Q a0 b0 a1 b1 odd) (hP : 0 ≤ P) (hQ : 0 ≤ Q) (hb : b0 ≠ 0) :
    gI ((if odd then -1 else 1) * (a0 * P - b0 * Q)) ((if odd then -1 else 1) * (b1 * Q - a1 * P)) = gI P Q := by
  obtain ⟨e1, e2, e3, e4⟩ := h.ok hb
  refine gI_mat hP hQ (by omega) e2 (s := if odd then -1 else 1) (by cases odd <;> rfl) e1 rfl rfl
theorem only_one {x u P k : Int} (e : u = x + P * k) (u0 : 0 ≤ u) (u1 : u < P) (x0 : 0 ≤ x) (x1 : x < P) : u = x := by
  rcases (by omega : k ≤ -1 ∨ k = 0 ∨ 1 ≤ k) with h | h | h
  · have := Int.mul_le_mul_of_nonneg_left h (show 0 ≤ P by omega)
    omega
  · rw [h] at e; omega
  · have := Int.mul_le_mul_of_nonneg_left h (show 0 ≤ P by omega)
    omega
theorem vl_split (l : List Int) (n : Nat) (h : n ≤ l.length) : vl l = vl (l.take n) + 1000000000 ^ n * vl (l.drop n) := by
  have e : vl (l.take n ++ l.drop n) = vl (l.take n) + 1000000000 ^ (l.take n).length * vl (l.drop n) := val_append ..
  rw [List.take_append_drop, List.length_take, Nat.min_eq_left h] at e
  exact e
theorem taken_end {A La : List Int} {n : Nat} {s0 s1 c q u : Int} (hn : n ≤ La.length) (hA : n ≤ A.length) (dA : Dg A) (e : vl (A.take n) + 1000000000 ^ n * c = s0 * vl (La.take n) - s1 * q) (hu : u = s0 * vl La - s1 * q) (u0 : 0 ≤ u) (u1 : u < 1000000000 ^ n) : vl (A.take n) = u := by
  have h1 := vl_split La n hn
  have h2 := vl_nonneg (dA.take n)
  have h3 := vl_lt (dA.take n)
  rw [List.length_take, Nat.min_eq_left (by omega)] at h3
  refine (only_one (k := c + s0 * vl (La.drop n)) ?_ u0 u1 h2 h3).symm
  rw [hu, h1]
  generalize vl (A.take n) = x at *
  generalize (1000000000 : Int) ^ n = P at *
  generalize vl (La.take n) = y at *
  generalize vl (La.drop n) = z at *
  have : x = s0 * y - s1 * q - P * c := by omega
  subst this
  grind
theorem taken_step {R P c S n : Int} (s0 s1 x y : Int) (h : R + P * c = S) (hn : n = s0 * x - s1 * y + c) : R + P * (n % 1000000000) + P * 1000000000 * (n / 1000000000) = S + P * (s0 * x - s1 * y) := by
  have e := Int.mul_ediv_add_emod n 1000000000
  have : P * (n % 1000000000) + P * 1000000000 * (n / 1000000000) = P * n := by rw [← e]; grind
  rw [Int.add_assoc, this, hn, ← h]; grind
theorem mul_abs {s x : Int} (s0 : -1000000000 < s) (s1 : s < 1000000000) (x0 : 0 ≤ x) (x1 : x < 1000000000) : -999999998000000001 ≤ s * x ∧ s * x ≤ 999999998000000001 := by
  have h1 := Int.mul_le_mul_of_nonneg_right (show s ≤ 999999999 by omega) x0
  have h2 := Int.mul_le_mul_of_nonneg_right (show -999999999 ≤ s by omega) x0
  omega

set_option maxRecDepth 100000 in
/-- slices.Clone of a slice that is not empty lies in memory of its own. -/
theorem cloneO (v : Value) (l : List Int) (w : World) (h : Ls w v l) (hl : l.length ≤ 100000) (hl0 : 0 < l.length) :
    Calls Tryd.prog 108 #[v] w fun e w' => ∃ u g, e = .returned u ∧ Ow w' w.heap.size g u l ∧ Below w.heap.size w w' := by
  obtain ⟨i0, hi, hz0, hz1, hz2⟩ := info_parts Tryd.infoInt
  obtain ⟨pa, ca, rfl, ⟨hca', hna⟩, hqa⟩ := h
  obtain ⟨b0, o0, rfl, _⟩ := hqa hl0
  obtain ⟨ad, had⟩ : ∃ ad, (⟨b0, o0, none⟩ : Addr) = ad := ⟨_, rfl⟩
  rw [had] at hqa hna ⊢
  have hown : (w.alloc (.cells #[] 3)).ownsRow w.heap.size 3 1 (.slice (some ⟨w.heap.size, 0, none⟩) 0 0) 0 [] := World.ownsRow_lit w #[] 0 (Nat.le_refl _) (by unfold maxLen; omega) rfl
  obtain ⟨X, hX⟩ : ∃ X, X = l.map (Value.int .i64) := ⟨_, rfl⟩
  have hXl : X.length = l.length * 1 := by rw [hX]; simp
  have hXc : ∀ v ∈ X, v.oneCell' = true := by rw [hX]; exact map_oneCell _
  have hXp : ∀ (j : Nat) (v : Value), X[j]? = some v → (w.alloc (.cells #[] 3)).cell? (ad.add j) = some v := by
    intro j v hv
    have hlt : 0 < X.length := by
      rcases Nat.eq_zero_or_pos X.length with h | h
      · rw [List.length_eq_zero_iff.1 h] at hv; simp at hv
      · exact h
    obtain ⟨ad', e, h⟩ := src_pos hX hqa (Below.alloc (Below.refl _ _) (Nat.le_refl _) (.cells #[] 3)) hlt
    cases e
    exact h j v hv
  have hend : ∀ w' v', w'.ownsRow w.heap.size 3 1 v' (0 + l.length) ([] ++ X) → ∃ g, Ow w' w.heap.size g v' l := fun w' v' h => by
    rw [Nat.zero_add, List.nil_append, hX] at h
    exact Ow.own h hl0
  have hHend := Lib.hid hend
  clear hX hqa hca' hna hend had hl0
  generalize l.length = n at *
  have hq := fun w : World => eql_nil 77 3 (some ad) n ca w Tryd.underlying77
  rw [show (some ad : Option Addr).isNone = false from rfl] at hq
  go_enter Tryd.func108, Tryd.ntmps108
  go_wp2_with (refine wpList_append_own _ rfl _ _ 77 rfl w.heap.size 3 i0 (.int .i64 0) 1 8 Tryd.underlying77 hi hz0 hz1 hz2 rfl (by decide) _ 0 [] rfl hown ad n ca X rfl hXl hXp hXc (by unfold maxLen; omega) (by omega) (by simp) ?_; intro v' w1 hown' hgrow _; refine Hid.out ?_)
  refine Lib.hid ?_
  obtain ⟨g, hs⟩ := hHend.out _ _ hown'
  have hb : Below w.heap.size w w1 := ((Below.refl _ _).alloc (Nat.le_refl _) _).grown hgrow (by simp) (fun k hk => by cases hk; exact Nat.le_refl _)
  clear hown' hgrow
  go_wp2
  go_ret
  exact ⟨_, g, rfl, hs, hb⟩
theorem floorDigit_any (n : Int) (w : World) (n0 : -4000000000000000000 ≤ n) (n1 : n ≤ 4000000000000000000) :
    Calls Tryd.prog 134 #[.int .i64 n] w fun e w' => e = .returned (.tuple #[.int .i64 (n % 1000000000), .int .i64 (n / 1000000000)]) ∧ Below w.heap.size w w' := by
  have e1 := Int.mul_tdiv_add_tmod n 1000000000
  have e2 : (0 ≤ n → 0 ≤ n.tmod 1000000000 ∧ n.tmod 1000000000 < 1000000000) ∧ (n < 0 → -1000000000 < n.tmod 1000000000 ∧ n.tmod 1000000000 ≤ 0) := by
    refine ⟨fun h => ?_, fun h => ?_⟩
    · rw [Int.tmod_eq_emod_of_nonneg h]; omega
    · have := Int.tmod_eq_emod_of_nonneg (a := -n) (b := 1000000000) (by omega)
      rw [Int.neg_tmod] at this; omega
  obtain ⟨q, hq⟩ : ∃ q, n.tdiv 1000000000 = q := ⟨_, rfl⟩
  obtain ⟨r, hr⟩ : ∃ r, n.tmod 1000000000 = r := ⟨_, rfl⟩
  rw [hq, hr] at e1
  rw [hr] at e2
  by_cases h : r < 0
  · have f1 : n % 1000000000 = r + 1000000000 := by omega
    have f2 : n / 1000000000 = q - 1 := by omega
    rw [f1, f2]
    clear f1 f2
    go_enter Tryd.func134, Tryd.ntmps134
    go_wp2
    go_ret2
    exact ⟨rfl, by (repeat (first | with_reducible exact Below.refl _ _ | with_reducible assumption | refine Below.alloc ?_ (by (try simp); try omega) _ | refine Below.setCell ?_ (by (try simp); try omega) _ | refine below_drewN ?_ _ | refine Below.drew ?_ | (with_reducible refine Below.trans ?_ (Below.mono (by assumption) (by (try simp); try omega)))))⟩
  · have f1 : n % 1000000000 = r := by omega
    have f2 : n / 1000000000 = q := by omega
    rw [f1, f2]
    clear f1 f2
    go_enter Tryd.func134, Tryd.ntmps134
    go_wp2
    go_ret2
    exact ⟨rfl, by (repeat (first | with_reducible exact Below.refl _ _ | with_reducible assumption | refine Below.alloc ?_ (by (try simp); try omega) _ | refine Below.setCell ?_ (by (try simp); try omega) _ | refine below_drewN ?_ _ | refine Below.drew ?_ | (with_reducible refine Below.trans ?_ (Below.mono (by assumption) (by (try simp); try omega)))))⟩

/-- A box of five cells: steps. -/
def B5 (w : World) (g : Nat) (a0 b0 a1 b1 : Int) (odd : Bool) : Prop := w.heap[g]? = some (.cells #[.int .i64 a0, .int .i64 b0, .int .i64 a1, .int .i64 b1, .bool odd] 129 (0, 0))
theorem B5.new (w : World) (a0 b0 a1 b1 : Int) (odd : Bool) : B5 (w.alloc (.cells #[.int .i64 a0, .int .i64 b0, .int .i64 a1, .int .i64 b1, .bool odd] 129)) w.heap.size a0 b0 a1 b1 odd := heap_alloc_new w _
theorem B5.lt {w : World} {g : Nat} {a0 b0 a1 b1 : Int} {odd : Bool} (h : B5 w g a0 b0 a1 b1 odd) : g < w.heap.size := (Array.getElem?_eq_some_iff.1 h).1
theorem B5.c0 {w : World} {g : Nat} {a0 b0 a1 b1 : Int} {odd : Bool} (h : B5 w g a0 b0 a1 b1 odd) : w.cell? ⟨g, 0, none⟩ = some (.int .i64 a0) := by rw [cell_of_row w g 0 _ 129 (0, 0) h]; rfl
theorem B5.c1 {w : World} {g : Nat} {a0 b0 a1 b1 : Int} {odd : Bool} (h : B5 w g a0 b0 a1 b1 odd) : w.cell? ⟨g, 1, none⟩ = some (.int .i64 b0) := by rw [cell_of_row w g 1 _ 129 (0, 0) h]; rfl
theorem B5.c2 {w : World} {g : Nat} {a0 b0 a1 b1 : Int} {odd : Bool} (h : B5 w g a0 b0 a1 b1 odd) : w.cell? ⟨g, 2, none⟩ = some (.int .i64 a1) := by rw [cell_of_row w g 2 _ 129 (0, 0) h]; rfl
theorem B5.c3 {w : World} {g : Nat} {a0 b0 a1 b1 : Int} {odd : Bool} (h : B5 w g a0 b0 a1 b1 odd) : w.cell? ⟨g, 3, none⟩ = some (.int .i64 b1) := by rw [cell_of_row w g 3 _ 129 (0, 0) h]; rfl
theorem B5.c4 {w : World} {g : Nat} {a0 b0 a1 b1 : Int} {odd : Bool} (h : B5 w g a0 b0 a1 b1 odd) : w.cell? ⟨g, 4, none⟩ = some (.bool odd) := by rw [cell_of_row w g 4 _ 129 (0, 0) h]; rfl
theorem B5.f {w : World} {g : Nat} {a0 b0 a1 b1 : Int} {odd : Bool} (h : B5 w g a0 b0 a1 b1 odd) (i : Nat) : w.frozen? ⟨g, i, none⟩ = false := frozen_of_row w g i _ 129 h
theorem B5.s0 {w : World} {g : Nat} {a0 b0 a1 b1 : Int} {odd : Bool} (h : B5 w g a0 b0 a1 b1 odd) (x : Int) : B5 (w.setCell ⟨g, 0, none⟩ (.int .i64 x)) g x b0 a1 b1 odd := by unfold B5 at *; rw [heap_setCell_same w g 0 _ 129 _ h]; rfl
theorem B5.s1 {w : World} {g : Nat} {a0 b0 a1 b1 : Int} {odd : Bool} (h : B5 w g a0 b0 a1 b1 odd) (x : Int) : B5 (w.setCell ⟨g, 1, none⟩ (.int .i64 x)) g a0 x a1 b1 odd := by unfold B5 at *; rw [heap_setCell_same w g 1 _ 129 _ h]; rfl
theorem B5.s2 {w : World} {g : Nat} {a0 b0 a1 b1 : Int} {odd : Bool} (h : B5 w g a0 b0 a1 b1 odd) (x : Int) : B5 (w.setCell ⟨g, 2, none⟩ (.int .i64 x)) g a0 b0 x b1 odd := by unfold B5 at *; rw [heap_setCell_same w g 2 _ 129 _ h]; rfl
theorem B5.s3 {w : World} {g : Nat} {a0 b0 a1 b1 : Int} {odd : Bool} (h : B5 w g a0 b0 a1 b1 odd) (x : Int) : B5 (w.setCell ⟨g, 3, none⟩ (.int .i64 x)) g a0 b0 a1 x odd := by unfold B5 at *; rw [heap_setCell_same w g 3 _ 129 _ h]; rfl
theorem B5.s4 {w : World} {g : Nat} {a0 b0 a1 b1 : Int} {odd : Bool} (h : B5 w g a0 b0 a1 b1 odd) (x : Bool) : B5 (w.setCell ⟨g, 4, none⟩ (.bool x)) g a0 b0 a1 b1 x := by unfold B5 at *; rw [heap_setCell_same w g 4 _ 129 _ h]; rfl
theorem B5.drew {w : World} {g : Nat} {a0 b0 a1 b1 : Int} {odd : Bool} (h : B5 w g a0 b0 a1 b1 odd) (n : Nat) : B5 (w.drewN n) g a0 b0 a1 b1 odd := h
theorem B5.keep {w w' : World} {g : Nat} {a0 b0 a1 b1 : Int} {odd : Bool} (h : B5 w g a0 b0 a1 b1 odd) (hb : Below w.heap.size w w') : B5 w' g a0 b0 a1 b1 odd := by
  have := h.lt
  unfold B5 at *
  rw [hb.block g this]; exact h
theorem B5.other {w : World} {g h o : Nat} {a0 b0 a1 b1 : Int} {odd : Bool} (k : B5 w g a0 b0 a1 b1 odd) (hn : g ≠ h) (u : Value) : B5 (w.setCell ⟨h, o, none⟩ u) g a0 b0 a1 b1 odd := by
  unfold B5 at *; rw [heap_setCell_other w ⟨h, o, none⟩ g u hn]; exact k

/-- What firstSteps returns for P and Q. -/
def FsR (P Q : Int) (e : Ending) : Prop := ∃ a0 b0 a1 b1 odd, e = .returned (.agg #[.int .i64 a0, .int .i64 b0, .int .i64 a1, .int .i64 b1, .bool odd]) ∧ Fs P Q a0 b0 a1 b1 odd
set_option maxRecDepth 100000 in
set_option maxHeartbeats 4000000 in
theorem firstSteps_any (X Y P Q S r t : Int) (w : World) (h0 : 0 ≤ Y) (h1 : Y ≤ X) (hX : X < 1000000000000000000) (hP : P = X * S + r) (hQ : Q = Y * S + t) (hr : 0 ≤ r ∧ r < S) (ht : 0 ≤ t ∧ t < S) (hPQ : Q ≤ P) (hQ0 : 0 ≤ Q) :
    Calls Tryd.prog 121 #[.int .i64 X, .int .i64 Y] w fun e w' => FsR P Q e ∧ Below w.heap.size w w' := by
  have hst := StepsInv.start (P := P) (Q := Q) h0 h1
  have hstep := fun (x y a0 b0 a1 b1 a2 b2 : Int) (odd : Bool) (h : StepsInv X Y P Q x y a0 b0 a1 b1 a2 b2 odd) => h.step hX hP hQ hr ht hPQ hQ0
  obtain ⟨O, hO⟩ : ∃ O : Obj, O = .cells #[.int .i64 0, .int .i64 0, .int .i64 0, .int .i64 0, .bool false] 129 := ⟨_, rfl⟩
  have hr5 : B5 ((w.alloc O).alloc (.cells #[.int .i64 0, .int .i64 0, .int .i64 1, .int .i64 0, .bool true] 129)) w.heap.size 0 0 0 0 false := by
    subst hO; exact (B5.new w 0 0 0 0 false).keep (Below.alloc (Below.refl _ _) (Nat.le_refl _) _)
  have hb5 : B5 ((w.alloc O).alloc (.cells #[.int .i64 0, .int .i64 0, .int .i64 1, .int .i64 0, .bool true] 129)) (w.heap.size + 1) 0 0 1 0 true := by
    have := B5.new (w.alloc O) 0 0 1 0 true; simpa using this
  have hnx : Below w.heap.size w ((w.alloc O).alloc (.cells #[.int .i64 0, .int .i64 0, .int .i64 1, .int .i64 0, .bool true] 129)) := by (repeat (first | with_reducible exact Below.refl _ _ | with_reducible assumption | refine Below.alloc ?_ (by (try simp); try omega) _ | refine Below.setCell ?_ (by (try simp); try omega) _ | refine below_drewN ?_ _ | refine Below.drew ?_ | (with_reducible refine Below.trans ?_ (Below.mono (by assumption) (by (try simp); try omega)))))
  rw [hO] at hr5 hb5 hnx
  clear hO
  replace hstep := Lib.hid hstep
  clear hP hQ hr ht hPQ hQ0
  go_enter Tryd.func121, Tryd.ntmps121
  go_wp2
  go_loopw [0, 1, 6, 7] (fun x y a2 b2 wr => ∃ x' y' a0 b0 a1 b1 a2' b2' odd, x = .int .i64 x' ∧ y = .int .i64 y' ∧ a2 = .int .i64 a2' ∧ b2 = .int .i64 b2' ∧ StepsInv X Y P Q x' y' a0 b0 a1 b1 a2' b2' odd ∧ B5 wr (w.heap.size + 1) a0 b0 a1 b1 odd ∧ B5 wr w.heap.size 0 0 0 0 false ∧ Below w.heap.size w wr)
    (fun _ y _ _ _ => (intOf y).toNat)
  case atStart => exact ⟨X, Y, 0, 0, 1, 0, 0, 1, true, rfl, rfl, rfl, rfl, hst, hb5, hr5, hnx⟩
  case round =>
    clear hst hb5 hr5 hnx
    obtain ⟨x, y, a0, b0, a1, b1, a2, b2, odd, rfl, rfl, rfl, rfl, hI, hb5, hr5, hnx⟩ := hrel
    have hF := hI.fs
    obtain ⟨n0, n1, n2, n3, n4, n5⟩ := hI.n0
    obtain ⟨l0, l1, l2, l3⟩ := hI.lt
    obtain ⟨l4, l5⟩ := hI.lt2
    obtain ⟨y0, yx, xX⟩ := hI.xy
    have k0 := hb5.c0
    have k1 := hb5.c1
    have k2 := hb5.c2
    have k3 := hb5.c3
    have k4 := hb5.c4
    have z0 := hb5.f 0
    have z1 := hb5.f 1
    have z2 := hb5.f 2
    have z3 := hb5.f 3
    have z4 := hb5.f 4
    have f0 := hr5.f 0
    have f1 := hr5.f 1
    have f2 := hr5.f 2
    have f3 := hr5.f 3
    have f4 := hr5.f 4
    have i0 := hr5.c0
    have i1 := hr5.c1
    have i2 := hr5.c2
    have i3 := hr5.c3
    have i4 := hr5.c4
    by_cases c1 : b2 ≤ y
    · by_cases c2 : b1 + b2 ≤ x - y
      · have hy : y ≠ 0 := by omega
        have x0 : 0 ≤ x := by omega
        obtain ⟨hN, q1, q2, q3, q4⟩ := hstep.out x y a0 b0 a1 b1 a2 b2 odd hI c1 c2
        have m0 := Int.emod_nonneg x hy
        have m1 := Int.emod_lt_of_pos x (show 0 < y by omega)
        have t1 := Int.tdiv_eq_ediv_of_nonneg (b := y) x0
        have t2 := Int.tmod_eq_emod_of_nonneg (b := y) x0
        have d0 := Int.ediv_nonneg x0 (show 0 ≤ y by omega)
        have d1 := Int.ediv_le_self y x0
        generalize x / y = q at *
        generalize x % y = m at *
        obtain ⟨u, hu⟩ : ∃ u, q * a2 = u := ⟨_, rfl⟩
        obtain ⟨v, hv⟩ : ∃ v, q * b2 = v := ⟨_, rfl⟩
        rw [hu] at q1 q3 hN
        rw [hv] at q2 q4 hN
        have e1 : IntKind.i64.wrap (q * a2) = u := by rw [hu]; exact IntWalk.i64_in _ (by omega)
        have e2 : IntKind.i64.wrap (q * b2) = v := by rw [hv]; exact IntWalk.i64_in _ (by omega)
        have HN := Lib.hid hN
        have HI := Lib.hid hI
        clear hN hI hu hv
        go_wp2
        go_quiet (fail)
        go_wp2
        go_roundw
        case rel => exact ⟨y, m, a1, b1, a2, b2, a1 + u, b1 + v, !odd, rfl, rfl, rfl, rfl, HN.out, by first | exact ((((hb5.s0 _).s2 _).s1 _).s3 _).s4 _ | exact (((((hb5.drew _).s0 _).s2 _).s1 _).s3 _).s4 _, by first | exact ((((hr5.other (by omega) _).other (by omega) _).other (by omega) _).other (by omega) _).other (by omega) _ | exact (((((hr5.drew _).other (by omega) _).other (by omega) _).other (by omega) _).other (by omega) _).other (by omega) _, by (repeat (first | with_reducible exact Below.refl _ _ | with_reducible assumption | refine Below.alloc ?_ (by (try simp); try omega) _ | refine Below.setCell ?_ (by (try simp); try omega) _ | refine below_drewN ?_ _ | refine Below.drew ?_ | (with_reducible refine Below.trans ?_ (Below.mono (by assumption) (by (try simp); try omega)))))⟩
        case measure => simp [intOf]; omega
      · have HI := Lib.hid hI
        have hR := ((((hr5.s0 a0).s1 b0).s2 a1).s3 b1).s4 odd
        have j0 := hR.c0
        have j1 := hR.c1
        have j2 := hR.c2
        have j3 := hR.c3
        have j4 := hR.c4
        clear hI
        go_wp2
        refine bodyPost_ret (v := .agg #[.int .i64 a0, .int .i64 b0, .int .i64 a1, .int .i64 b1, .bool odd]) (by simp [results, Tryd.results121, go_sem, *]) rfl ⟨⟨a0, b0, a1, b1, odd, rfl, hF⟩, by (repeat (first | with_reducible exact Below.refl _ _ | with_reducible assumption | refine Below.alloc ?_ (by (try simp); try omega) _ | refine Below.setCell ?_ (by (try simp); try omega) _ | refine below_drewN ?_ _ | refine Below.drew ?_ | (with_reducible refine Below.trans ?_ (Below.mono (by assumption) (by (try simp); try omega)))))⟩
    · have HI := Lib.hid hI
      have hR := ((((hr5.s0 a0).s1 b0).s2 a1).s3 b1).s4 odd
      have j0 := hR.c0
      have j1 := hR.c1
      have j2 := hR.c2
      have j3 := hR.c3
      have j4 := hR.c4
      clear hI
      go_wp2
      refine bodyPost_ret (v := .agg #[.int .i64 a0, .int .i64 b0, .int .i64 a1, .int .i64 b1, .bool odd]) (by simp [results, Tryd.results121, go_sem, *]) rfl ⟨⟨a0, b0, a1, b1, odd, rfl, hF⟩, by (repeat (first | with_reducible exact Below.refl _ _ | with_reducible assumption | refine Below.alloc ?_ (by (try simp); try omega) _ | refine Below.setCell ?_ (by (try simp); try omega) _ | refine below_drewN ?_ _ | refine Below.drew ?_ | (with_reducible refine Below.trans ?_ (Below.mono (by assumption) (by (try simp); try omega)))))⟩

/-- The three digits that lead copies. -/
theorem top3 {x : Int} {n : Nat} (hx : 0 ≤ x) (hn : 3 ≤ n) (hl : (dg x).length ≤ n) :
    ∃ m : Nat, (m : Int) = min ((n : Int) - 3) ((dg x).length : Int) ∧ m ≤ (dg x).length ∧ ((dg x).drop m).length ≤ 3 ∧
      splice (List.map (Value.int .i64) [0, 0, 0]) 0 (((dg x).drop m).map (Value.int .i64)) = [.int .i64 (x / 1000000000 ^ (n - 3) % 1000000000), .int .i64 (x / 1000000000 ^ (n - 3) / 1000000000 % 1000000000), .int .i64 (x / 1000000000 ^ (n - 3) / 1000000000 / 1000000000)] := by
  have hV : 0 ≤ x / 1000000000 ^ (n - 3) := Int.ediv_nonneg hx (by have := pow9 (n - 3); omega)
  have hd : (dg x).drop (min (n - 3) (dg x).length) = dg (x / 1000000000 ^ (n - 3)) := by
    rw [← dg_drop hx]
    rcases Nat.le_total (n - 3) (dg x).length with h | h
    · rw [Nat.min_eq_left h]
    · rw [Nat.min_eq_right h, List.drop_of_length_le h, List.drop_of_length_le (Nat.le_refl _)]
  refine ⟨min (n - 3) (dg x).length, by omega, by omega, by rw [List.length_drop]; omega, ?_⟩
  rw [hd]
  have hl3 : (dg (x / 1000000000 ^ (n - 3))).length ≤ 3 := by rw [← dg_drop hx, List.length_drop]; omega
  generalize x / 1000000000 ^ (n - 3) = V at *
  have h3 : V < 1000000000000000000000000000 := (dg_len hV 3).1 hl3
  clear hd hl
  rcases (by omega : V = 0 ∨ 0 < V) with h | h
  · subst h; rw [dg_zero]; rfl
  · rw [dg_pos h]
    rcases (by omega : V / 1000000000 = 0 ∨ 0 < V / 1000000000) with h2 | h2
    · rw [h2, dg_zero]; rfl
    · rw [dg_pos h2]
      rcases (by omega : V / 1000000000 / 1000000000 = 0 ∨ 0 < V / 1000000000 / 1000000000) with h4 | h4
      · rw [h4, dg_zero]; rfl
      · rw [dg_small h4 (by omega)]; rfl
theorem lead_lt {x s : Int} {n : Nat} (hx : 0 < x) (hn : n = (dg x).length) (h3 : 3 ≤ n) (hs : el (dg x) (n - 1) < s) : x / 1000000000 ^ (n - 3) < s * 1000000000000000000 := by
  have h1 := el_dg x (by omega) (n - 1)
  have h2 := dg_lt (x := x) (by omega)
  rw [← hn, show n = n - 1 + 1 by omega, Int.pow_succ] at h2
  have e : (1000000000 : Int) ^ (n - 1) = 1000000000 ^ (n - 3) * 1000000000000000000 := by
    rw [show n - 1 = n - 3 + 2 by omega, Int.pow_add]; rfl
  have p := pow9 (n - 3)
  rw [e] at h1 h2
  rw [← Int.ediv_ediv_of_nonneg (by omega)] at h1
  have h4 : x / 1000000000 ^ (n - 3) < 1000000000000000000000000000 := Int.ediv_lt_of_lt_mul p (by rw [Int.mul_comm]; rw [Int.mul_assoc] at h2; exact h2)
  have h5 : 0 ≤ x / 1000000000 ^ (n - 3) := Int.ediv_nonneg (by omega) (by omega)
  generalize x / 1000000000 ^ (n - 3) = V at *
  omega

theorem lkeepD {w w' : World} {p : Addr} {v : Value} {B : Nat} (hb : Below B w w') (hp : p.block < B) (h : w.cell? p = some v) : w'.cell? p = some v := (hb.cell hp).trans h
set_option maxRecDepth 100000 in
set_option maxHeartbeats 4000000 in
theorem lead1_any (vd : Value) (x s : Int) (n gn gs : Nat) (w : World) (x0 : 0 ≤ x) (hd : Ls w vd (dg x)) (hn : w.cell? ⟨gn, 0, none⟩ = some (.int .i64 n)) (hs : w.cell? ⟨gs, 0, none⟩ = some (.int .i64 s)) (n3 : 3 ≤ n) (n6 : n ≤ 1000) (hl : (dg x).length ≤ n) (s1 : 1 ≤ s) (s2 : s ≤ 1000000000) (hV : x / 1000000000 ^ (n - 3) < s * 1000000000000000000) :
    Calls Tryd.prog 133 #[vd, .pointer (some ⟨gn, 0, none⟩), .pointer (some ⟨gs, 0, none⟩)] w fun e w' => e = .returned (.int .i64 (x / 1000000000 ^ (n - 3) / s)) ∧ Below w.heap.size w w' := by
  obtain ⟨m, hm, hm1, hm2, hsp⟩ := top3 x0 n3 hl
  have V0 : 0 ≤ x / 1000000000 ^ (n - 3) := Int.ediv_nonneg x0 (by have := pow9 (n - 3); omega)
  obtain ⟨V, hVe⟩ : ∃ V, x / 1000000000 ^ (n - 3) = V := ⟨_, rfl⟩
  rw [hVe] at hV V0 hsp ⊢
  have hQ0 : 0 ≤ V / s := Int.ediv_nonneg V0 (by omega)
  have hQ1 : V / s < 1000000000000000000 := Int.ediv_lt_of_lt_mul (by omega) (by rw [Int.mul_comm]; exact hV)
  obtain ⟨Q, hQe⟩ : ∃ Q, V / s = Q := ⟨_, rfl⟩
  rw [hQe] at hQ0 hQ1 ⊢
  have HQ := Lib.hid hQe
  clear hQe
  obtain ⟨pa, ca, rfl, ⟨hca', hna⟩, hqa⟩ := hd
  have h1c : ∀ v ∈ ((dg x).drop m).map (Value.int .i64), v.oneCell' = true := map_oneCell _
  have hq : 0 < ((dg x).drop m).length → ∃ b off, pa = some ⟨b, off, none⟩ ∧ ∀ j v, (((dg x).drop m).map (Value.int .i64))[j]? = some v → w.cell? ⟨b, off + m + j, none⟩ = some v := fun h => by
    rw [List.length_drop] at h
    obtain ⟨b, off, e, hc⟩ := hqa (by omega)
    refine ⟨b, off, e, fun j v hv => ?_⟩
    rw [List.getElem?_map, List.getElem?_drop] at hv
    have hj : m + j < (dg x).length := by
      rcases Nat.lt_or_ge (m + j) (dg x).length with h | h
      · exact h
      · rw [List.getElem?_eq_none h] at hv; cases hv
    rw [List.getElem?_eq_getElem hj] at hv
    have := hc (m + j) hj
    rw [el_eq, List.getD_eq_getElem?_getD, List.getElem?_eq_getElem hj] at this
    rw [Nat.add_assoc, this]
    simpa using hv
  have hlX : (((dg x).drop m).map (Value.int .i64)).length = (dg x).length - m := by simp
  rw [List.length_drop] at hm2 hq
  generalize ((dg x).drop m).map (Value.int .i64) = X at *
  have HV := Lib.hid hVe
  clear hqa hVe
  generalize (dg x).length = L at *
  have hr : (w.alloc (.cells #[.int .i64 0, .int .i64 0, .int .i64 0] 144)).heap[w.heap.size]? = some (.cells (List.map (Value.int .i64) [0, 0, 0]).toArray 144 (0, 0)) := heap_alloc_new w _
  have hb := Below.alloc (Below.refl w.heap.size w) (Nat.le_refl _) (.cells #[.int .i64 0, .int .i64 0, .int .i64 0] 144)
  have hn1 := lkeep hb hn
  have hs1 := lkeep hb hs
  go_enter Tryd.func133, Tryd.ntmps133
  go_upto_region 2 with fail
  generalize w.alloc (.cells #[.int .i64 0, .int .i64 0, .int .i64 0] 144) = w1 at *
  have hgl : w.heap.size < w1.heap.size := (Array.getElem?_eq_some_iff.1 hr).1
  have hq1 : 0 < L - m → ∃ b off, pa = some ⟨b, off, none⟩ ∧ ∀ j v, X[j]? = some v → w1.cell? ⟨b, off + m + j, none⟩ = some v := fun h => by
    obtain ⟨b, off, e, hc⟩ := hq h
    exact ⟨b, off, e, fun j v hv => lkeep hb (hc j v hv)⟩
  obtain ⟨Z, hZ⟩ : ∃ Z, Z = List.map (Value.int .i64) [0, 0, 0] := ⟨_, rfl⟩
  have hZl : Z.length = 3 := by rw [hZ]; rfl
  rw [← hZ] at hr hsp
  generalize hg : w.heap.size = g at *
  have hs0 := hs
  clear hq hn hs hZ
  have e1 : min (IntKind.i64.wrap ((n : Int) - 3)) (L : Int) = (m : Int) := by rw [IntWalk.i64_in _ (by omega)]; exact hm.symm
  have hmI : (m : Int) ≤ (L : Int) := by omega
  have hm0 : (0 : Int) ≤ (m : Int) := by omega
  clear hm
  have T2 : 0 ≤ V / 1000000000 / 1000000000 ∧ V / 1000000000 / 1000000000 < 1000000000 := by omega
  have T1 : 0 ≤ V / 1000000000 % 1000000000 ∧ V / 1000000000 % 1000000000 < 1000000000 := by omega
  have T0 : 0 ≤ V % 1000000000 ∧ V % 1000000000 < 1000000000 := by omega
  have hVV : (V / 1000000000 / 1000000000 * 1000000000 + V / 1000000000 % 1000000000) * 1000000000 + V % 1000000000 = V := by omega
  generalize V / 1000000000 / 1000000000 = x1 at *
  generalize V / 1000000000 % 1000000000 = x2 at *
  generalize V % 1000000000 = x3 at *
  have e1' : IntKind.u64.wrap (x1 * 1000000000 + x2) = x1 * 1000000000 + x2 := wrap_in _ (by omega) (by omega)
  have e2' : IntKind.u64.wrap x3 = x3 := wrap_in _ (by omega) (by omega)
  have e3' : IntKind.u64.wrap s = s := wrap_in _ (by omega) (by omega)
  have hmul : ∀ w, Calls Tryd.prog 69 #[.int .u64 (x1 * 1000000000 + x2), .int .u64 1000000000] w fun e w' => e = .returned (.tuple #[.int .u64 (hi64 ((x1 * 1000000000 + x2) * 1000000000)), .int .u64 (lo64 ((x1 * 1000000000 + x2) * 1000000000))]) ∧ w' = w := fun w => (mul64 (x1 * 1000000000 + x2) 1000000000 w (by omega) (by omega) (by omega) (by omega)).mono fun _ _ h => ⟨h.1, h.2.symm⟩
  have hT : (hi64 ((x1 * 1000000000 + x2) * 1000000000)) * 18446744073709551616 + lo64 ((x1 * 1000000000 + x2) * 1000000000) = (x1 * 1000000000 + x2) * 1000000000 := by unfold hi64 lo64; omega
  have bH : 0 ≤ hi64 ((x1 * 1000000000 + x2) * 1000000000) ∧ hi64 ((x1 * 1000000000 + x2) * 1000000000) < 100000000 := by unfold hi64; omega
  have bL : 0 ≤ lo64 ((x1 * 1000000000 + x2) * 1000000000) ∧ lo64 ((x1 * 1000000000 + x2) * 1000000000) < 18446744073709551616 := by unfold lo64; omega
  generalize hi64 ((x1 * 1000000000 + x2) * 1000000000) = H at *
  generalize lo64 ((x1 * 1000000000 + x2) * 1000000000) = Lo at *
  have hadd := add64 Lo x3 bL.1 bL.2 T0.1 (by omega)
  obtain ⟨S, hS⟩ : ∃ S, (Lo + x3) % 18446744073709551616 = S := ⟨_, rfl⟩
  obtain ⟨C, hC⟩ : ∃ C, (Lo + x3) / 18446744073709551616 = C := ⟨_, rfl⟩
  rw [hS, hC] at hadd
  have bS : 0 ≤ S ∧ S < 18446744073709551616 := by omega
  have bC : 0 ≤ C ∧ C ≤ 1 := by omega
  have hn2 : (H + C) * 18446744073709551616 + S = V := by omega
  have e4 : IntKind.u64.wrap (H + C) = H + C := wrap_in _ (by omega) (by omega)
  have hHs : H + C < s := by omega
  have hdiv := fun w => div64_any (H + C) S s w (by omega) hHs (by omega) (by omega) (by omega)
  rw [hn2] at hdiv
  generalize V % s = M at *
  rw [HQ.out] at hdiv
  have e5 : IntKind.i64.wrap Q = Q := IntWalk.i64_in _ (by omega)
  have e6 : IntKind.i64.wrap (x1 * 1000000000) = x1 * 1000000000 := IntWalk.i64_in _ (by omega)
  clear hT hS hC hn2 hVV
  have Hsp := Lib.hid hsp
  have HVl := Lib.hid hV
  clear hsp hV
  have hend : ∀ w2, Hid (w2.heap[g]? = some (.cells (splice Z 0 X).toArray 144 (0, 0))) → Below g w w2 → w2.cell? ⟨g, 2, none⟩ = some (.int .i64 x1) ∧ w2.cell? ⟨g, 1, none⟩ = some (.int .i64 x2) ∧ w2.cell? ⟨g, 0, none⟩ = some (.int .i64 x3) ∧ w2.cell? ⟨gs, 0, none⟩ = some (.int .i64 s) := fun w2 h1 h2 => by
    have h := h1.out
    rw [Hsp.out] at h
    refine ⟨?_, ?_, ?_, ?_⟩
    · rw [cell_of_row w2 g 2 _ 144 (0, 0) h]; rfl
    · rw [cell_of_row w2 g 1 _ 144 (0, 0) h]; rfl
    · rw [cell_of_row w2 g 0 _ 144 (0, 0) h]; rfl
    · exact lkeepD h2 (by have := World.block_lt_of_cell? w _ hs0; rw [← hg]; exact this) hs0
  replace hend := Lib.hid hend
  have hz : X.length = Nat.min (L - m) 3 := by rw [hlX]; exact (Nat.min_eq_left hm2).symm
  have hfit : 0 + X.length ≤ Z.length := by omega
  have hB1 := Below.drew hb
  have tail : True := trivial
  cases pa with
  | none =>
    have hca0 := hna rfl
    have hL0 : L = 0 := by omega
    subst hL0 hca0
    have hm00 : m = 0 := by omega
    subst hm00
    have e1n : min (IntKind.i64.wrap ((n : Int) - 3)) 0 = 0 := by rw [IntWalk.i64_in _ (by omega)]; omega
    clear e1
    go_region_law (first | (refine step_copy_splice (by rfl) _ _ 22 77 (by rfl) 3 Tryd.underlying22 (by kernel_rfl) _ _ _ _ _ _ (by rfl) (by rfl) g 0 Z 144 (by exact hr) X (by simpa using hz) (fun h => absurd h (by omega)) hfit h1c g w (by exact hB1) (Nat.le_refl _) ?_; intro w2 hw2 hb2))
    obtain ⟨k2, k1, k0, ks⟩ := hend.out _ hw2 hb2
    clear hw2 hb hB1 hr hend
    go_wp2_with fail
    go_at_call 69
    refine (hmul _).mono ?_
    rintro e u1 ⟨rfl, rfl⟩
    go_wp2_with fail
    go_at_call 132
    refine (hdiv _).mono ?_
    rintro e u2 ⟨rfl, nd, rfl⟩
    go_wp2
    go_ret
    exact ⟨rfl, by (repeat (first | with_reducible exact Below.refl _ _ | with_reducible assumption | refine Below.alloc ?_ (by (try simp); try omega) _ | refine Below.setCell ?_ (by (try simp); try omega) _ | refine below_drewN ?_ _ | refine Below.drew ?_ | (with_reducible refine Below.trans ?_ (Below.mono (by assumption) (by (try simp); try omega)))))⟩
  | some ad =>
    clear hna
    rcases (by omega : m < L ∨ m = L) with hlt | heq
    · have hcm : ¬ ca = m := by omega
      obtain ⟨b, off, e, hc⟩ := hq1 (by omega)
      cases e
      have hc' : ∀ j v, X[j]? = some v → w1.cell? (Addr.add ⟨b, off + m, none⟩ j) = some v := fun j v hv => by
        have e : Addr.add ⟨b, off + m, none⟩ j = ⟨b, off + m + j, none⟩ := by unfold Addr.add; split <;> simp_all
        rw [e]; exact hc j v hv
      clear hc hq1
      go_region_law (first | (refine step_copy_splice (by rfl) _ _ 22 77 (by rfl) 3 Tryd.underlying22 (by kernel_rfl) _ _ _ _ _ _ (by rfl) (by rfl) g 0 Z 144 (by exact hr) X (by exact hz) (fun h => ⟨rfl, _, rfl, hc'⟩) hfit h1c g w (by exact hB1) (Nat.le_refl _) ?_; intro w2 hw2 hb2))
      obtain ⟨k2, k1, k0, ks⟩ := hend.out _ hw2 hb2
      clear hw2 hb hB1 hr hend
      go_wp2_with fail
      go_at_call 69
      refine (hmul _).mono ?_
      rintro e u1 ⟨rfl, rfl⟩
      go_wp2_with fail
      go_at_call 132
      refine (hdiv _).mono ?_
      rintro e u2 ⟨rfl, nd, rfl⟩
      go_wp2
      go_ret
      exact ⟨rfl, by (repeat (first | with_reducible exact Below.refl _ _ | with_reducible assumption | refine Below.alloc ?_ (by (try simp); try omega) _ | refine Below.setCell ?_ (by (try simp); try omega) _ | refine below_drewN ?_ _ | refine Below.drew ?_ | (with_reducible refine Below.trans ?_ (Below.mono (by assumption) (by (try simp); try omega)))))⟩

    · subst heq
      clear hq1
      by_cases hcm : ca = m
      all_goals
        go_region_law (first | (refine step_copy_splice (by rfl) _ _ 22 77 (by rfl) 3 Tryd.underlying22 (by kernel_rfl) _ _ _ _ _ _ (by rfl) (by rfl) g 0 Z 144 (by exact hr) X (by simpa using hz) (fun h => absurd h (by omega)) hfit h1c g w (by exact hB1) (Nat.le_refl _) ?_; intro w2 hw2 hb2))
        obtain ⟨k2, k1, k0, ks⟩ := hend.out _ hw2 hb2
        clear hw2 hb hB1 hr hend
        go_wp2_with fail
        go_at_call 69
        refine (hmul _).mono ?_
        rintro e u1 ⟨rfl, rfl⟩
        go_wp2_with fail
        go_at_call 132
        refine (hdiv _).mono ?_
        rintro e u2 ⟨rfl, nd, rfl⟩
        go_wp2
        go_ret
        exact ⟨rfl, by (repeat (first | with_reducible exact Below.refl _ _ | with_reducible assumption | refine Below.alloc ?_ (by (try simp); try omega) _ | refine Below.setCell ?_ (by (try simp); try omega) _ | refine below_drewN ?_ _ | refine Below.drew ?_ | (with_reducible refine Below.trans ?_ (Below.mono (by assumption) (by (try simp); try omega)))))⟩

theorem take_set_vl (l : List Int) (k : Nat) (x : Int) (hk : k < l.length) : vl ((l.set k x).take (k + 1)) = vl (l.take k) + 1000000000 ^ k * x := by
  rw [vl_take_succ _ k (by rw [List.length_set]; exact hk), el_set_eq _ _ _ hk, List.take_set_of_le (Nat.le_refl k)]
set_option maxRecDepth 100000 in
set_option maxHeartbeats 8000000 in
theorem taken_even (w0 w : World) (ga gb : Nat) (va vb : Value) (P Q a0 b0 a1 b1 : Int) (hF : Fs P Q a0 b0 a1 b1 false) (hb0 : b0 ≠ 0) (PQ : Q ≤ P) (Q0 : 0 ≤ Q) (oa : Ow w w0.heap.size ga va (dg P)) (ob : Ow w w0.heap.size gb vb (dg Q)) (hg : ga ≠ gb) (h0 : Below w0.heap.size w0 w) (la : (dg P).length ≤ 600) :
    Calls Tryd.prog 123 #[.agg #[.int .i64 a0, .int .i64 b0, .int .i64 a1, .int .i64 b1, .bool false], va, vb] w fun e w' => ∃ u v, e = .returned (.tuple #[u, v]) ∧ Ow w' w0.heap.size ga u (dg (a0 * P - b0 * Q)) ∧ Ow w' w0.heap.size gb v (dg (b1 * Q - a1 * P)) ∧ Below w0.heap.size w0 w' := by
  obtain ⟨q0, q1, q2, q3⟩ := hF.ok hb0
  obtain ⟨n0, n1, n2, n3⟩ := hF.n
  obtain ⟨l0, l1, l2, l3⟩ := hF.lt
  have hab := dg_len_mono Q0 PQ
  have hQ := dg_lt Q0
  have dA := dg_dig P (by omega)
  have dB := dg_dig Q Q0
  have vA := dg_val P (by omega)
  have vB := dg_val Q Q0
  generalize dg P = La at *
  generalize dg Q = Lb at *
  obtain ⟨s0, hs0⟩ : ∃ s, s = a0 := ⟨_, rfl⟩
  obtain ⟨s1, hs1⟩ : ∃ s, s = b0 := ⟨_, rfl⟩
  obtain ⟨s2, hs2⟩ : ∃ s, s = a1 := ⟨_, rfl⟩
  obtain ⟨s3, hs3⟩ : ∃ s, s = b1 := ⟨_, rfl⟩
  obtain ⟨u, hu⟩ : ∃ u, u = a0 * P - b0 * Q := ⟨_, rfl⟩
  obtain ⟨v, hv⟩ : ∃ v, v = b1 * Q - a1 * P := ⟨_, rfl⟩
  rw [← hu, ← hv]
  have eu : u = s0 * vl La - s1 * vl Lb := by rw [hu, vA, vB, hs0, hs1] <;> grind
  have ev : v = s3 * vl Lb - s2 * vl La := by rw [hv, vA, vB, hs2, hs3] <;> grind
  have u0 : 0 ≤ u := by rw [hu]; simp only [if_true, Bool.false_eq_true, if_false, Int.neg_mul, Int.one_mul] at q1 q2 q3; omega
  have u1 : u < 1000000000 ^ Lb.length := by rw [hu]; simp only [if_true, Bool.false_eq_true, if_false, Int.neg_mul, Int.one_mul] at q1 q2 q3; omega
  have v0 : 0 ≤ v := by rw [hv]; simp only [if_true, Bool.false_eq_true, if_false, Int.neg_mul, Int.one_mul] at q1 q2 q3; omega
  have v1 : v < 1000000000 ^ Lb.length := by rw [hv]; simp only [if_true, Bool.false_eq_true, if_false, Int.neg_mul, Int.one_mul] at q1 q2 q3; omega
  have c0 : -1000000000 < s0 ∧ s0 < 1000000000 := by omega
  have c1 : -1000000000 < s1 ∧ s1 < 1000000000 := by omega
  have c2 : -1000000000 < s2 ∧ s2 < 1000000000 := by omega
  have c3 : -1000000000 < s3 ∧ s3 < 1000000000 := by omega
  replace eu := Lib.hid eu
  replace ev := Lib.hid ev
  replace u1 := Lib.hid u1
  replace v1 := Lib.hid v1
  replace hQ := Lib.hid hQ
  replace vA := Lib.hid vA
  replace vB := Lib.hid vB
  clear hu hv q0 q1 q2 q3 hF hQ vA vB
  have oa' := oa
  have ob' := ob
  obtain ⟨ca, _, rfl, _, hca, hcm, _⟩ := oa'
  obtain ⟨cb, _, rfl, _, hcb, _⟩ := ob'
  have ga1 := oa.lt
  have gb1 := ob.lt
  have b5 := B5.new w a0 b0 a1 b1 false
  have hb := Below.alloc (Below.refl w.heap.size w) (Nat.le_refl _) (.cells #[.int .i64 a0, .int .i64 b0, .int .i64 a1, .int .i64 b1, .bool false] 129)
  replace oa := oa.keep hb
  replace ob := ob.keep hb
  replace h0 := h0.trans (hb.mono h0.size)
  have hgs : w0.heap.size ≤ w.heap.size := by have := h0.size; have := oa.ge; omega
  clear hb
  have k0 := b5.c0
  have k1 := b5.c1
  have k2 := b5.c2
  have k3 := b5.c3
  have k4 := b5.c4
  have z0 := b5.f 0
  have z1 := b5.f 1
  have z2 := b5.f 2
  have z3 := b5.f 3
  have z4 := b5.f 4
  go_enter Tryd.func123, Tryd.ntmps123
  go_upto_region 3 with fail
  clear k0 k1 k2 k3 k4 z0 z1 z2 z3 z4 hb0
  generalize w.alloc _ = wa at *
  generalize w.heap.size = gs at *
  rw [← hs0, ← hs1, ← hs2, ← hs3] at b5
  clear hs0 hs1 hs2 hs3
  go_wp2
  go_loopw [8, 9, 30] (fun cA cB i wr => ∃ (k : Nat) (x y : Int) (A B : List Int), cA = .int .i64 x ∧ cB = .int .i64 y ∧ i = .int .i64 k ∧ k ≤ Lb.length ∧ (-3000000000 ≤ x ∧ x ≤ 3000000000) ∧ (-3000000000 ≤ y ∧ y ≤ 3000000000) ∧ A.length = La.length ∧ B.length = Lb.length ∧ Dg A ∧ Dg B ∧ (∀ j, k ≤ j → el A j = el La j) ∧ (∀ j, k ≤ j → el B j = el Lb j) ∧ Hid (vl (A.take k) + 1000000000 ^ k * x = s0 * vl (La.take k) - s1 * vl (Lb.take k)) ∧ Hid (vl (B.take k) + 1000000000 ^ k * y = s3 * vl (Lb.take k) - s2 * vl (La.take k)) ∧ Ow wr w0.heap.size ga (.slice (some ⟨ga, 0, none⟩) La.length ca) A ∧ Ow wr w0.heap.size gb (.slice (some ⟨gb, 0, none⟩) Lb.length cb) B ∧ B5 wr gs s0 s1 s2 s3 false ∧ Below w0.heap.size w0 wr)
    (fun _ _ i _ => Lb.length - (intOf i).toNat)
  case atStart => exact ⟨0, 0, 0, La, Lb, rfl, rfl, rfl, by omega, by omega, by omega, rfl, rfl, dA, dB, fun _ _ => rfl, fun _ _ => rfl, Lib.hid (by simp [vl, val]), Lib.hid (by simp [vl, val]), oa, ob, b5, h0⟩
  case round =>
    clear oa ob b5 h0
    obtain ⟨k, x, y, A, B, rfl, rfl, rfl, hk, hx, hy, lA, lB, dA', dB', eA, eB, iA, iB, oa, ob, b5, h0⟩ := hrel
    have ga1 := oa.lt
    have gb1 := ob.lt
    have gs1 := b5.lt
    by_cases hkn : k < Lb.length
    · have hki : (k : Int) < (Lb.length : Int) := by omega
      have hkj : (k : Int) < (La.length : Int) := by omega
      have cx := oa.cell (i := k) (by omega)
      have cy := ob.cell (i := k) (by omega)
      rw [eA k (Nat.le_refl _)] at cx
      rw [eB k (Nat.le_refl _)] at cy
      have bx := dA.el (by omega) k
      have bY := dB.el (by omega) k
      have tA := vl_take_succ La k (by omega)
      have tB := vl_take_succ Lb k hkn
      obtain ⟨X, hX⟩ : ∃ X, el La k = X := ⟨_, rfl⟩
      obtain ⟨Y, hY⟩ : ∃ Y, el Lb k = Y := ⟨_, rfl⟩
      rw [hX] at cx bx tA
      rw [hY] at cy bY tB
      have m0 := mul_abs c0.1 c0.2 bx.1 bx.2
      have m1 := mul_abs c1.1 c1.2 bY.1 bY.2
      have m2 := mul_abs c2.1 c2.2 bx.1 bx.2
      have m3 := mul_abs c3.1 c3.2 bY.1 bY.2
      have sA := taken_step s0 s1 X Y iA.out (n := s0 * X - s1 * Y + x) rfl
      have sB := taken_step s3 s2 Y X iB.out (n := s3 * Y - s2 * X + y) rfl
      obtain ⟨p0, hp0⟩ : ∃ p, s0 * X = p := ⟨_, rfl⟩
      obtain ⟨p1, hp1⟩ : ∃ p, s1 * Y = p := ⟨_, rfl⟩
      obtain ⟨p2, hp2⟩ : ∃ p, s2 * X = p := ⟨_, rfl⟩
      obtain ⟨p3, hp3⟩ : ∃ p, s3 * Y = p := ⟨_, rfl⟩
      have w0' : IntKind.i64.wrap (s0 * X) = p0 := by rw [hp0]; exact IntWalk.i64_in _ (by omega)
      have w1' : IntKind.i64.wrap (s1 * Y) = p1 := by rw [hp1]; exact IntWalk.i64_in _ (by omega)
      have w2' : IntKind.i64.wrap (s2 * X) = p2 := by rw [hp2]; exact IntWalk.i64_in _ (by omega)
      have w3' : IntKind.i64.wrap (s3 * Y) = p3 := by rw [hp3]; exact IntWalk.i64_in _ (by omega)
      have gA : s0 * vl (La.take (k + 1)) - s1 * vl (Lb.take (k + 1)) = s0 * vl (La.take k) - s1 * vl (Lb.take k) + 1000000000 ^ k * (s0 * X - s1 * Y) := by rw [tA, tB]; grind
      have gB : s3 * vl (Lb.take (k + 1)) - s2 * vl (La.take (k + 1)) = s3 * vl (Lb.take k) - s2 * vl (La.take k) + 1000000000 ^ k * (s3 * Y - s2 * X) := by rw [tA, tB]; grind
      rw [← gA] at sA
      rw [← gB] at sB
      rw [hp0] at m0 sA
      rw [hp1] at m1 sA
      rw [hp2] at m2 sB
      rw [hp3] at m3 sB
      have f1 := fun w => floorDigit_any (p0 - p1 + x) w (by omega) (by omega)
      have f2 := fun w => floorDigit_any (p3 - p2 + y) w (by omega) (by omega)
      obtain ⟨r1, hr1⟩ : ∃ r, (p0 - p1 + x) % 1000000000 = r := ⟨_, rfl⟩
      obtain ⟨r2, hr2⟩ : ∃ r, (p3 - p2 + y) % 1000000000 = r := ⟨_, rfl⟩
      obtain ⟨v1, hv1⟩ : ∃ r, (p0 - p1 + x) / 1000000000 = r := ⟨_, rfl⟩
      obtain ⟨v2, hv2⟩ : ∃ r, (p3 - p2 + y) / 1000000000 = r := ⟨_, rfl⟩
      have br1 : 0 ≤ r1 ∧ r1 < 1000000000 ∧ -3000000000 ≤ v1 ∧ v1 ≤ 3000000000 := by omega
      have br2 : 0 ≤ r2 ∧ r2 < 1000000000 ∧ -3000000000 ≤ v2 ∧ v2 ≤ 3000000000 := by omega
      rw [hr1, hv1] at sA
      rw [hr2, hv2] at sB
      rw [hr1, hv1] at f1
      rw [hr2, hv2] at f2
      have SA := Lib.hid sA
      have SB := Lib.hid sB
      have k0 := b5.c0
      have k1 := b5.c1
      have z1 := oa.frz k
      have IA := Lib.hid (And.intro eA eB)
      clear hX hY hp0 hp1 hp2 hp3 gA gB tA tB sA sB hr1 hr2 hv1 hv2 eA eB iA iB
      go_wp2_with fail
      go_at_call 134
      refine (f1 _).mono ?_
      rintro e u1 ⟨rfl, hb1⟩
      replace cx := lkeep hb1 cx
      replace oa := oa.keep hb1
      replace ob := ob.keep hb1
      replace b5 := b5.keep hb1
      replace h0 := h0.trans (hb1.mono h0.size)
      clear hb1 k0 k1 z1 f1 cy
      have z1 := oa.frz k
      replace oa := oa.stored (i := k) (by omega) r1
      replace ob := ob.other (h := ga) (o := k) (by omega) (.int .i64 r1)
      replace b5 := b5.other (h := ga) (o := k) (by omega) (.int .i64 r1)
      have k2 := b5.c2
      have k3 := b5.c3
      have cy := ob.cell (i := k) (by omega)
      have z2 := ob.frz k
      have h0' : Below w0.heap.size w0 (u1.setCell ⟨ga, k, none⟩ (.int .i64 r1)) := h0.setCell (by exact oa.ge) _
      go_wp2_with fail
      go_at_call 134
      refine (f2 _).mono ?_
      rintro e u2 ⟨rfl, hb1⟩
      replace cy := lkeep hb1 cy
      replace oa := oa.keep hb1
      replace ob := ob.keep hb1
      replace b5 := b5.keep hb1
      replace h0 := h0'.trans (hb1.mono h0'.size)
      clear hb1 k2 k3 z2 f2 h0' z1 cx
      have z2 := ob.frz k
      have cy' := cy
      replace ob := ob.stored (i := k) (by omega) r2
      replace oa := oa.other (h := gb) (o := k) (by omega) (.int .i64 r2)
      replace b5 := b5.other (h := gb) (o := k) (by omega) (.int .i64 r2)
      replace h0 : Below w0.heap.size w0 (u2.setCell ⟨gb, k, none⟩ (.int .i64 r2)) := h0.setCell (by exact ob.ge) _
      go_wp2
      go_roundw
      case rel =>
        obtain ⟨eA, eB⟩ := IA.out
        refine ⟨k + 1, v1, v2, A.set k r1, B.set k r2, rfl, rfl, by simp, by omega, br1.2.2, br2.2.2, by rw [List.length_set]; exact lA, by rw [List.length_set]; exact lB, dA'.set k br1.1 br1.2.1, dB'.set k br2.1 br2.2.1, fun j hj => ?_, fun j hj => ?_, Lib.hid ?_, Lib.hid ?_, oa, ob, b5, h0⟩
        · rw [el_set_ne _ _ _ _ (by omega)]; exact eA j (by omega)
        · rw [el_set_ne _ _ _ _ (by omega)]; exact eB j (by omega)
        · rw [take_set_vl _ _ _ (by omega), Int.pow_succ]; exact SA.out
        · rw [take_set_vl _ _ _ (by omega), Int.pow_succ]; exact SB.out
      case measure => simp [intOf]; omega
    · have hkn' : k = Lb.length := by omega
      subst hkn'
      have ua := taken_end (n := Lb.length) (A := A) (La := La) (s0 := s0) (s1 := s1) (c := x) (q := vl Lb) hab (by omega) dA' (by have := iA.out; rwa [List.take_length] at this) eu.out u0 u1.out
      have ub := taken_end (n := Lb.length) (A := B) (La := La) (s0 := -s2) (s1 := -s3) (c := y) (q := vl Lb) hab (by omega) dB' (by have := iB.out; rw [List.take_length] at this; rw [this]; grind) (u := v) (by rw [ev.out]; grind) v0 v1.out
      have tb : B.take Lb.length = B := by rw [← lB, List.take_length]
      rw [tb] at ub
      have lt' : (A.take Lb.length).length = Lb.length := by rw [List.length_take]; omega
      have oa' : Ow wr w0.heap.size ga (.slice (some ⟨ga, 0, none⟩) (A.take Lb.length).length ca) (A.take Lb.length) := by
        rw [lt']
        exact Ow.take (by rw [lA]; exact oa) (by omega)
      have hcA := trimmed_own _ ga ca _ wr oa' (dA'.take _) (by omega)
      have hcB := fun w' (e : wr = w') => trimmed_own w0.heap.size gb cb B w' (by rw [lB, ← e]; exact ob) dB' (by omega)
      rw [ua, lt'] at hcA
      rw [ub, lB] at hcB
      have hlC : (Lb.length : Int) ≤ (ca : Int) := by omega
      clear ua ub iA iB eA eB oa' dA' dB'
      go_wp2_with fail
      go_at_call 102
      refine hcA.mono ?_
      rintro e u1 ⟨r1, rfl, hs1, rfl⟩
      go_wp2_with fail
      go_at_call 102
      refine (hcB _ rfl).mono ?_
      rintro e u2 ⟨r2, rfl, hs2, rfl⟩
      go_wp2
      go_ret2
      exact ⟨r1, r2, rfl, hs1, hs2, h0⟩
set_option maxRecDepth 100000 in
set_option maxHeartbeats 8000000 in
theorem taken_odd (w0 w : World) (ga gb : Nat) (va vb : Value) (P Q a0 b0 a1 b1 : Int) (hF : Fs P Q a0 b0 a1 b1 true) (hb0 : b0 ≠ 0) (PQ : Q ≤ P) (Q0 : 0 ≤ Q) (oa : Ow w w0.heap.size ga va (dg P)) (ob : Ow w w0.heap.size gb vb (dg Q)) (hg : ga ≠ gb) (h0 : Below w0.heap.size w0 w) (la : (dg P).length ≤ 600) :
    Calls Tryd.prog 123 #[.agg #[.int .i64 a0, .int .i64 b0, .int .i64 a1, .int .i64 b1, .bool true], va, vb] w fun e w' => ∃ u v, e = .returned (.tuple #[u, v]) ∧ Ow w' w0.heap.size ga u (dg (-(a0 * P - b0 * Q))) ∧ Ow w' w0.heap.size gb v (dg (-(b1 * Q - a1 * P))) ∧ Below w0.heap.size w0 w' := by
  obtain ⟨q0, q1, q2, q3⟩ := hF.ok hb0
  obtain ⟨n0, n1, n2, n3⟩ := hF.n
  obtain ⟨l0, l1, l2, l3⟩ := hF.lt
  have hab := dg_len_mono Q0 PQ
  have hQ := dg_lt Q0
  have dA := dg_dig P (by omega)
  have dB := dg_dig Q Q0
  have vA := dg_val P (by omega)
  have vB := dg_val Q Q0
  generalize dg P = La at *
  generalize dg Q = Lb at *
  obtain ⟨s0, hs0⟩ : ∃ s, s = -a0 := ⟨_, rfl⟩
  obtain ⟨s1, hs1⟩ : ∃ s, s = -b0 := ⟨_, rfl⟩
  obtain ⟨s2, hs2⟩ : ∃ s, s = -a1 := ⟨_, rfl⟩
  obtain ⟨s3, hs3⟩ : ∃ s, s = -b1 := ⟨_, rfl⟩
  obtain ⟨u, hu⟩ : ∃ u, u = -(a0 * P - b0 * Q) := ⟨_, rfl⟩
  obtain ⟨v, hv⟩ : ∃ v, v = -(b1 * Q - a1 * P) := ⟨_, rfl⟩
  rw [← hu, ← hv]
  have eu : u = s0 * vl La - s1 * vl Lb := by rw [hu, vA, vB, hs0, hs1] <;> grind
  have ev : v = s3 * vl Lb - s2 * vl La := by rw [hv, vA, vB, hs2, hs3] <;> grind
  have u0 : 0 ≤ u := by rw [hu]; simp only [if_true, Bool.false_eq_true, if_false, Int.neg_mul, Int.one_mul] at q1 q2 q3; omega
  have u1 : u < 1000000000 ^ Lb.length := by rw [hu]; simp only [if_true, Bool.false_eq_true, if_false, Int.neg_mul, Int.one_mul] at q1 q2 q3; omega
  have v0 : 0 ≤ v := by rw [hv]; simp only [if_true, Bool.false_eq_true, if_false, Int.neg_mul, Int.one_mul] at q1 q2 q3; omega
  have v1 : v < 1000000000 ^ Lb.length := by rw [hv]; simp only [if_true, Bool.false_eq_true, if_false, Int.neg_mul, Int.one_mul] at q1 q2 q3; omega
  have c0 : -1000000000 < s0 ∧ s0 < 1000000000 := by omega
  have c1 : -1000000000 < s1 ∧ s1 < 1000000000 := by omega
  have c2 : -1000000000 < s2 ∧ s2 < 1000000000 := by omega
  have c3 : -1000000000 < s3 ∧ s3 < 1000000000 := by omega
  replace eu := Lib.hid eu
  replace ev := Lib.hid ev
  replace u1 := Lib.hid u1
  replace v1 := Lib.hid v1
  replace hQ := Lib.hid hQ
  replace vA := Lib.hid vA
  replace vB := Lib.hid vB
  clear hu hv q0 q1 q2 q3 hF hQ vA vB
  have oa' := oa
  have ob' := ob
  obtain ⟨ca, _, rfl, _, hca, hcm, _⟩ := oa'
  obtain ⟨cb, _, rfl, _, hcb, _⟩ := ob'
  have ga1 := oa.lt
  have gb1 := ob.lt
  have b5 := B5.new w a0 b0 a1 b1 true
  have hb := Below.alloc (Below.refl w.heap.size w) (Nat.le_refl _) (.cells #[.int .i64 a0, .int .i64 b0, .int .i64 a1, .int .i64 b1, .bool true] 129)
  have oaW := oa
  have obW := ob
  have h0W := h0
  replace oa := oa.keep hb
  replace ob := ob.keep hb
  replace h0 := h0.trans (hb.mono h0.size)
  have hgs : w0.heap.size ≤ w.heap.size := by have := h0.size; have := oa.ge; omega
  clear hb
  have k0 := b5.c0
  have k1 := b5.c1
  have k2 := b5.c2
  have k3 := b5.c3
  have k4 := b5.c4
  have z0 := b5.f 0
  have z1 := b5.f 1
  have z2 := b5.f 2
  have z3 := b5.f 3
  have z4 := b5.f 4
  go_enter Tryd.func123, Tryd.ntmps123
  go_upto_region 3 with fail
  replace b5 := B5.new w (-a0) (-b0) (-a1) (-b1) false
  have hb := Below.alloc (Below.refl w.heap.size w) (Nat.le_refl _) (.cells #[.int .i64 (-a0), .int .i64 (-b0), .int .i64 (-a1), .int .i64 (-b1), .bool false] 129)
  replace oa := oaW.keep hb
  replace ob := obW.keep hb
  replace h0 := h0W.trans (hb.mono h0W.size)
  clear k0 k1 k2 k3 k4 z0 z1 z2 z3 z4 hb0 hb oaW obW h0W
  generalize w.alloc (.cells #[.int .i64 (-a0), .int .i64 (-b0), .int .i64 (-a1), .int .i64 (-b1), .bool false] 129) = wa at *
  generalize w.heap.size = gs at *
  rw [← hs0, ← hs1, ← hs2, ← hs3] at b5
  clear hs0 hs1 hs2 hs3
  go_wp2
  go_loopw [8, 9, 30] (fun cA cB i wr => ∃ (k : Nat) (x y : Int) (A B : List Int), cA = .int .i64 x ∧ cB = .int .i64 y ∧ i = .int .i64 k ∧ k ≤ Lb.length ∧ (-3000000000 ≤ x ∧ x ≤ 3000000000) ∧ (-3000000000 ≤ y ∧ y ≤ 3000000000) ∧ A.length = La.length ∧ B.length = Lb.length ∧ Dg A ∧ Dg B ∧ (∀ j, k ≤ j → el A j = el La j) ∧ (∀ j, k ≤ j → el B j = el Lb j) ∧ Hid (vl (A.take k) + 1000000000 ^ k * x = s0 * vl (La.take k) - s1 * vl (Lb.take k)) ∧ Hid (vl (B.take k) + 1000000000 ^ k * y = s3 * vl (Lb.take k) - s2 * vl (La.take k)) ∧ Ow wr w0.heap.size ga (.slice (some ⟨ga, 0, none⟩) La.length ca) A ∧ Ow wr w0.heap.size gb (.slice (some ⟨gb, 0, none⟩) Lb.length cb) B ∧ B5 wr gs s0 s1 s2 s3 false ∧ Below w0.heap.size w0 wr)
    (fun _ _ i _ => Lb.length - (intOf i).toNat)
  case atStart => exact ⟨0, 0, 0, La, Lb, rfl, rfl, rfl, by omega, by omega, by omega, rfl, rfl, dA, dB, fun _ _ => rfl, fun _ _ => rfl, Lib.hid (by simp [vl, val]), Lib.hid (by simp [vl, val]), oa, ob, b5, h0⟩
  case round =>
    clear oa ob b5 h0
    obtain ⟨k, x, y, A, B, rfl, rfl, rfl, hk, hx, hy, lA, lB, dA', dB', eA, eB, iA, iB, oa, ob, b5, h0⟩ := hrel
    have ga1 := oa.lt
    have gb1 := ob.lt
    have gs1 := b5.lt
    by_cases hkn : k < Lb.length
    · have hki : (k : Int) < (Lb.length : Int) := by omega
      have hkj : (k : Int) < (La.length : Int) := by omega
      have cx := oa.cell (i := k) (by omega)
      have cy := ob.cell (i := k) (by omega)
      rw [eA k (Nat.le_refl _)] at cx
      rw [eB k (Nat.le_refl _)] at cy
      have bx := dA.el (by omega) k
      have bY := dB.el (by omega) k
      have tA := vl_take_succ La k (by omega)
      have tB := vl_take_succ Lb k hkn
      obtain ⟨X, hX⟩ : ∃ X, el La k = X := ⟨_, rfl⟩
      obtain ⟨Y, hY⟩ : ∃ Y, el Lb k = Y := ⟨_, rfl⟩
      rw [hX] at cx bx tA
      rw [hY] at cy bY tB
      have m0 := mul_abs c0.1 c0.2 bx.1 bx.2
      have m1 := mul_abs c1.1 c1.2 bY.1 bY.2
      have m2 := mul_abs c2.1 c2.2 bx.1 bx.2
      have m3 := mul_abs c3.1 c3.2 bY.1 bY.2
      have sA := taken_step s0 s1 X Y iA.out (n := s0 * X - s1 * Y + x) rfl
      have sB := taken_step s3 s2 Y X iB.out (n := s3 * Y - s2 * X + y) rfl
      obtain ⟨p0, hp0⟩ : ∃ p, s0 * X = p := ⟨_, rfl⟩
      obtain ⟨p1, hp1⟩ : ∃ p, s1 * Y = p := ⟨_, rfl⟩
      obtain ⟨p2, hp2⟩ : ∃ p, s2 * X = p := ⟨_, rfl⟩
      obtain ⟨p3, hp3⟩ : ∃ p, s3 * Y = p := ⟨_, rfl⟩
      have w0' : IntKind.i64.wrap (s0 * X) = p0 := by rw [hp0]; exact IntWalk.i64_in _ (by omega)
      have w1' : IntKind.i64.wrap (s1 * Y) = p1 := by rw [hp1]; exact IntWalk.i64_in _ (by omega)
      have w2' : IntKind.i64.wrap (s2 * X) = p2 := by rw [hp2]; exact IntWalk.i64_in _ (by omega)
      have w3' : IntKind.i64.wrap (s3 * Y) = p3 := by rw [hp3]; exact IntWalk.i64_in _ (by omega)
      have gA : s0 * vl (La.take (k + 1)) - s1 * vl (Lb.take (k + 1)) = s0 * vl (La.take k) - s1 * vl (Lb.take k) + 1000000000 ^ k * (s0 * X - s1 * Y) := by rw [tA, tB]; grind
      have gB : s3 * vl (Lb.take (k + 1)) - s2 * vl (La.take (k + 1)) = s3 * vl (Lb.take k) - s2 * vl (La.take k) + 1000000000 ^ k * (s3 * Y - s2 * X) := by rw [tA, tB]; grind
      rw [← gA] at sA
      rw [← gB] at sB
      rw [hp0] at m0 sA
      rw [hp1] at m1 sA
      rw [hp2] at m2 sB
      rw [hp3] at m3 sB
      have f1 := fun w => floorDigit_any (p0 - p1 + x) w (by omega) (by omega)
      have f2 := fun w => floorDigit_any (p3 - p2 + y) w (by omega) (by omega)
      obtain ⟨r1, hr1⟩ : ∃ r, (p0 - p1 + x) % 1000000000 = r := ⟨_, rfl⟩
      obtain ⟨r2, hr2⟩ : ∃ r, (p3 - p2 + y) % 1000000000 = r := ⟨_, rfl⟩
      obtain ⟨v1, hv1⟩ : ∃ r, (p0 - p1 + x) / 1000000000 = r := ⟨_, rfl⟩
      obtain ⟨v2, hv2⟩ : ∃ r, (p3 - p2 + y) / 1000000000 = r := ⟨_, rfl⟩
      have br1 : 0 ≤ r1 ∧ r1 < 1000000000 ∧ -3000000000 ≤ v1 ∧ v1 ≤ 3000000000 := by omega
      have br2 : 0 ≤ r2 ∧ r2 < 1000000000 ∧ -3000000000 ≤ v2 ∧ v2 ≤ 3000000000 := by omega
      rw [hr1, hv1] at sA
      rw [hr2, hv2] at sB
      rw [hr1, hv1] at f1
      rw [hr2, hv2] at f2
      have SA := Lib.hid sA
      have SB := Lib.hid sB
      have k0 := b5.c0
      have k1 := b5.c1
      have z1 := oa.frz k
      have IA := Lib.hid (And.intro eA eB)
      clear hX hY hp0 hp1 hp2 hp3 gA gB tA tB sA sB hr1 hr2 hv1 hv2 eA eB iA iB
      go_wp2_with fail
      go_at_call 134
      refine (f1 _).mono ?_
      rintro e u1 ⟨rfl, hb1⟩
      replace cx := lkeep hb1 cx
      replace oa := oa.keep hb1
      replace ob := ob.keep hb1
      replace b5 := b5.keep hb1
      replace h0 := h0.trans (hb1.mono h0.size)
      clear hb1 k0 k1 z1 f1 cy
      have z1 := oa.frz k
      replace oa := oa.stored (i := k) (by omega) r1
      replace ob := ob.other (h := ga) (o := k) (by omega) (.int .i64 r1)
      replace b5 := b5.other (h := ga) (o := k) (by omega) (.int .i64 r1)
      have k2 := b5.c2
      have k3 := b5.c3
      have cy := ob.cell (i := k) (by omega)
      have z2 := ob.frz k
      have h0' : Below w0.heap.size w0 (u1.setCell ⟨ga, k, none⟩ (.int .i64 r1)) := h0.setCell (by exact oa.ge) _
      go_wp2_with fail
      go_at_call 134
      refine (f2 _).mono ?_
      rintro e u2 ⟨rfl, hb1⟩
      replace cy := lkeep hb1 cy
      replace oa := oa.keep hb1
      replace ob := ob.keep hb1
      replace b5 := b5.keep hb1
      replace h0 := h0'.trans (hb1.mono h0'.size)
      clear hb1 k2 k3 z2 f2 h0' z1 cx
      have z2 := ob.frz k
      have cy' := cy
      replace ob := ob.stored (i := k) (by omega) r2
      replace oa := oa.other (h := gb) (o := k) (by omega) (.int .i64 r2)
      replace b5 := b5.other (h := gb) (o := k) (by omega) (.int .i64 r2)
      replace h0 : Below w0.heap.size w0 (u2.setCell ⟨gb, k, none⟩ (.int .i64 r2)) := h0.setCell (by exact ob.ge) _
      go_wp2
      go_roundw
      case rel =>
        obtain ⟨eA, eB⟩ := IA.out
        refine ⟨k + 1, v1, v2, A.set k r1, B.set k r2, rfl, rfl, by simp, by omega, br1.2.2, br2.2.2, by rw [List.length_set]; exact lA, by rw [List.length_set]; exact lB, dA'.set k br1.1 br1.2.1, dB'.set k br2.1 br2.2.1, fun j hj => ?_, fun j hj => ?_, Lib.hid ?_, Lib.hid ?_, oa, ob, b5, h0⟩
        · rw [el_set_ne _ _ _ _ (by omega)]; exact eA j (by omega)
        · rw [el_set_ne _ _ _ _ (by omega)]; exact eB j (by omega)
        · rw [take_set_vl _ _ _ (by omega), Int.pow_succ]; exact SA.out
        · rw [take_set_vl _ _ _ (by omega), Int.pow_succ]; exact SB.out
      case measure => simp [intOf]; omega
    · have hkn' : k = Lb.length := by omega
      subst hkn'
      have ua := taken_end (n := Lb.length) (A := A) (La := La) (s0 := s0) (s1 := s1) (c := x) (q := vl Lb) hab (by omega) dA' (by have := iA.out; rwa [List.take_length] at this) eu.out u0 u1.out
      have ub := taken_end (n := Lb.length) (A := B) (La := La) (s0 := -s2) (s1 := -s3) (c := y) (q := vl Lb) hab (by omega) dB' (by have := iB.out; rw [List.take_length] at this; rw [this]; grind) (u := v) (by rw [ev.out]; grind) v0 v1.out
      have tb : B.take Lb.length = B := by rw [← lB, List.take_length]
      rw [tb] at ub
      have lt' : (A.take Lb.length).length = Lb.length := by rw [List.length_take]; omega
      have oa' : Ow wr w0.heap.size ga (.slice (some ⟨ga, 0, none⟩) (A.take Lb.length).length ca) (A.take Lb.length) := by
        rw [lt']
        exact Ow.take (by rw [lA]; exact oa) (by omega)
      have hcA := trimmed_own _ ga ca _ wr oa' (dA'.take _) (by omega)
      have hcB := fun w' (e : wr = w') => trimmed_own w0.heap.size gb cb B w' (by rw [lB, ← e]; exact ob) dB' (by omega)
      rw [ua, lt'] at hcA
      rw [ub, lB] at hcB
      have hlC : (Lb.length : Int) ≤ (ca : Int) := by omega
      clear ua ub iA iB eA eB oa' dA' dB'
      go_wp2_with fail
      go_at_call 102
      refine hcA.mono ?_
      rintro e u1 ⟨r1, rfl, hs1, rfl⟩
      go_wp2_with fail
      go_at_call 102
      refine (hcB _ rfl).mono ?_
      rintro e u2 ⟨r2, rfl, hs2, rfl⟩
      go_wp2
      go_ret2
      exact ⟨r1, r2, rfl, hs1, hs2, h0⟩

/-- A box of one int. -/
def B1 (w : World) (g : Nat) (x : Int) : Prop := w.heap[g]? = some (.cells #[.int .i64 x] 3 (0, 0))
theorem B1.new (w : World) (x : Int) : B1 (w.alloc (.cells #[.int .i64 x] 3)) w.heap.size x := heap_alloc_new w _
theorem B1.lt {w : World} {g : Nat} {x : Int} (h : B1 w g x) : g < w.heap.size := (Array.getElem?_eq_some_iff.1 h).1
theorem B1.c {w : World} {g : Nat} {x : Int} (h : B1 w g x) : w.cell? ⟨g, 0, none⟩ = some (.int .i64 x) := by rw [cell_of_row w g 0 _ 3 (0, 0) h]; rfl
theorem B1.f {w : World} {g : Nat} {x : Int} (h : B1 w g x) : w.frozen? ⟨g, 0, none⟩ = false := frozen_of_row w g 0 _ 3 h
theorem B1.s {w : World} {g : Nat} {x : Int} (h : B1 w g x) (y : Int) : B1 (w.setCell ⟨g, 0, none⟩ (.int .i64 y)) g y := by unfold B1 at *; rw [heap_setCell_same w g 0 _ 3 _ h]; rfl
theorem B1.keep {w w' : World} {g : Nat} {x : Int} (h : B1 w g x) (hb : Below w.heap.size w w') : B1 w' g x := by
  have := h.lt
  unfold B1 at *
  rw [hb.block g this]; exact h
theorem B1.other {w : World} {g h : Nat} {x : Int} (k : B1 w g x) (hn : g ≠ h) (o : Nat) (u : Value) : B1 (w.setCell ⟨h, o, none⟩ u) g x := by
  unfold B1 at *; rw [heap_setCell_other w ⟨h, o, none⟩ g u hn]; exact k
theorem pow10_nat (j : Nat) (h : j ≤ 9) : (1 : Int) ≤ 10 ^ j ∧ (10 : Int) ^ j ≤ 1000000000 ∧ (j = 9 → (10 : Int) ^ j = 1000000000) := by
  rcases (by omega : j = 0 ∨ j = 1 ∨ j = 2 ∨ j = 3 ∨ j = 4 ∨ j = 5 ∨ j = 6 ∨ j = 7 ∨ j = 8 ∨ j = 9) with h | h | h | h | h | h | h | h | h | h <;> subst h <;> decide

set_option maxRecDepth 100000 in
set_option maxHeartbeats 4000000 in
theorem leading_any (va vb : Value) (P Q : Int) (w : World) (Q0 : 0 ≤ Q) (PQ : Q ≤ P) (ha : Ls w va (dg P)) (hb : Ls w vb (dg Q)) (l3 : 3 ≤ (dg P).length) (l6 : (dg P).length ≤ 1000) :
    Calls Tryd.prog 122 #[va, vb] w fun e w' => ∃ S, e = .returned (.tuple #[.int .i64 (P / S), .int .i64 (Q / S)]) ∧ 1 ≤ S ∧ P / S < 1000000000000000000 ∧ Below w.heap.size w w' := by
  have hP1 : 0 < P := by
    rcases (by omega : P = 0 ∨ 0 < P) with h | h
    · rw [h, dg_zero] at l3; simp at l3
    · exact h
  have lab := dg_len_mono Q0 PQ
  have htop := dg_top hP1
  have bt := (dg_dig P (by omega)).el (by omega) ((dg P).length - 1)
  have ha' := ha
  have hb' := hb
  obtain ⟨pa, ca, rfl, ⟨hca', hna⟩, hqa⟩ := ha'
  obtain ⟨pb, cb, rfl, _, _⟩ := hb'
  obtain ⟨ba, oa, rfl, hxa⟩ := hqa (by omega)
  have ct := hxa ((dg P).length - 1) (by omega)
  have hlead := fun s (h : el (dg P) ((dg P).length - 1) < s) => lead_lt (n := (dg P).length) hP1 rfl l3 h
  have hp9 := pow9 ((dg P).length - 3)
  have V0 : 0 ≤ Q / 1000000000 ^ ((dg P).length - 3) := Int.ediv_nonneg Q0 (by omega)
  have VPQ : Q / 1000000000 ^ ((dg P).length - 3) ≤ P / 1000000000 ^ ((dg P).length - 3) := Int.ediv_le_ediv hp9 PQ
  have hc1 := fun W s gn gs h1 h2 h3 h4 h5 h6 => lead1_any (.slice (some ⟨ba, oa, none⟩) (dg P).length ca) P s (dg P).length gn gs W (by omega) h1 h2 h3 l3 l6 (Nat.le_refl _) h4 h5 h6
  have hc2 := fun W s gn gs h1 h2 h3 h4 h5 h6 => lead1_any (.slice pb (dg Q).length cb) Q s (dg P).length gn gs W Q0 h1 h2 h3 l3 l6 lab h4 h5 h6
  have hfin : ∀ s : Int, 1 ≤ s → P / 1000000000 ^ ((dg P).length - 3) < s * 1000000000000000000 → ∃ S, P / 1000000000 ^ ((dg P).length - 3) / s = P / S ∧ Q / 1000000000 ^ ((dg P).length - 3) / s = Q / S ∧ 1 ≤ S ∧ P / S < 1000000000000000000 := fun s h1 h2 => by
    have e1 : P / 1000000000 ^ ((dg P).length - 3) / s = P / (1000000000 ^ ((dg P).length - 3) * s) := Int.ediv_ediv_of_nonneg (by omega)
    have e2 : Q / 1000000000 ^ ((dg P).length - 3) / s = Q / (1000000000 ^ ((dg P).length - 3) * s) := Int.ediv_ediv_of_nonneg (by omega)
    refine ⟨1000000000 ^ ((dg P).length - 3) * s, e1, e2, by have := Int.mul_pos hp9 (show 0 < s by omega); omega, ?_⟩
    rw [← e1]
    exact Int.ediv_lt_of_lt_mul (by omega) (by rw [Int.mul_comm]; exact h2)
  have hb0 := Below.alloc (Below.refl w.heap.size w) (Nat.le_refl _) (.cells #[.int .i64 ((dg P).length : Int)] 3)
  have bn0 := B1.new w ((dg P).length : Int)
  have hb1 : Below w.heap.size w ((w.alloc (.cells #[.int .i64 ((dg P).length : Int)] 3)).alloc (.cells #[.int .i64 1] 3)) := hb0.alloc hb0.size _
  have bs : B1 ((w.alloc (.cells #[.int .i64 ((dg P).length : Int)] 3)).alloc (.cells #[.int .i64 1] 3)) (w.heap.size + 1) 1 := by
    have := B1.new (w.alloc (.cells #[.int .i64 ((dg P).length : Int)] 3)) 1
    simpa using this
  have bn := bn0.keep (Below.alloc (Below.refl _ _) (Nat.le_refl _) (.cells #[.int .i64 1] 3))
  generalize P / 1000000000 ^ ((dg P).length - 3) = VP at *
  generalize Q / 1000000000 ^ ((dg P).length - 3) = VQ at *
  generalize el (dg P) ((dg P).length - 1) = t at *
  replace hc1 := Lib.hid hc1
  replace hc2 := Lib.hid hc2
  replace hlead := Lib.hid hlead
  replace hfin := Lib.hid hfin
  have hLa := Lib.hid ha
  have hLb := Lib.hid hb
  clear hqa hxa ha hb hb0 bn0 hp9
  generalize hn : (dg P).length = n at *
  generalize (dg Q).length = m at *
  replace hn := Lib.hid hn
  have e1 : ((n - 1 : Nat) : Int) = (n : Int) - 1 := by omega
  go_enter Tryd.func122, Tryd.ntmps122
  go_wp2
  go_loopg [] 9 (fun k wr => ∃ j : Nat, Hid (k + j = 9) ∧ B1 wr w.heap.size n ∧ B1 wr (w.heap.size + 1) (10 ^ j) ∧ Below w.heap.size w wr)
  case atStart => exact ⟨0, Lib.hid rfl, bn, bs, hb1⟩
  case round =>
    clear bn bs hb1
    obtain ⟨j, hj, bn, bs, hB⟩ := hrel
    obtain ⟨s1, s2, s3⟩ := pow10_nat j (by have := hj.out; omega)
    have s4 : (10 : Int) ^ (j + 1) = 10 ^ j * 10 := Int.pow_succ ..
    obtain ⟨s, hs⟩ : ∃ s : Int, 10 ^ j = s := ⟨_, rfl⟩
    rw [hs] at s1 s2 s3 s4 bs
    have HS := Lib.hid (And.intro s3 s4)
    clear s3 s4 hs
    have cn := bn.c
    have cs := bs.c
    have fs := bs.f
    have ct' := lkeep hB ct
    have hn1 : (0 : Int) ≤ (n : Int) - 1 := by omega
    have hn2 : (n : Int) - 1 < (n : Int) := by omega
    by_cases hst : s ≤ t
    · go_wp2
      go_quiet (fail)
      go_wp2
      go_roundg (gk - 1)
      case measure => have := hj.out; have := HS.out.1; omega
      case rel => exact ⟨j + 1, Lib.hid (by have := hj.out; have := HS.out.1; omega), bn.other (by omega) _ _, by rw [HS.out.2]; exact bs.s _, by (repeat (first | with_reducible exact Below.refl _ _ | with_reducible assumption | refine Below.alloc ?_ (by (try simp); try omega) _ | refine Below.setCell ?_ (by (try simp); try omega) _ | refine below_drewN ?_ _ | refine Below.drew ?_ | (with_reducible refine Below.trans ?_ (Below.mono (by assumption) (by (try simp); try omega)))))⟩
    · have hlt := hlead.out s (by omega)
      obtain ⟨S, f1, f2, f3, f4⟩ := hfin.out s s1 hlt
      have la' := hLa.out.keep hB
      have lb' := hLb.out.keep hB
      have k1 := fun W (hb : Below wr.heap.size wr W) => hc1.out W s w.heap.size (w.heap.size + 1) (la'.keep hb) (lkeep hb cn) (lkeep hb cs) s1 s2 hlt
      have k2 := fun W (hb : Below wr.heap.size wr W) => hc2.out W s w.heap.size (w.heap.size + 1) (lb'.keep hb) (lkeep hb cn) (lkeep hb cs) s1 s2 (by omega)
      rw [f1] at k1
      rw [f2] at k2
      clear f1 f2 hlt la' lb' HS
      go_wp2
      go_quiet (fail)
      have q0 : Below wr.heap.size wr (wr.drewN nq) := by (repeat (first | with_reducible exact Below.refl _ _ | with_reducible assumption | refine Below.alloc ?_ (by (try simp); try omega) _ | refine Below.setCell ?_ (by (try simp); try omega) _ | refine below_drewN ?_ _ | refine Below.drew ?_ | (with_reducible refine Below.trans ?_ (Below.mono (by assumption) (by (try simp); try omega)))))
      replace hB := hB.trans (q0.mono hB.size)
      generalize wr.drewN nq = w5 at *
      go_wp2_with fail
      go_at_call 133
      refine (k1 _ q0).mono ?_
      rintro e w6 ⟨rfl, hb6⟩
      have q1 := q0.trans (hb6.mono q0.size)
      go_wp2_with fail
      go_at_call 133
      refine (k2 _ q1).mono ?_
      rintro e w7 ⟨rfl, hb7⟩
      have B6 := hB.trans (hb6.mono hB.size)
      go_wp2
      go_ret2
      exact ⟨S, rfl, f3, f4, B6.trans (hb7.mono B6.size)⟩

/-- taken, for both signs. -/
theorem taken_any (w0 w : World) (ga gb : Nat) (va vb : Value) (P Q a0 b0 a1 b1 : Int) (odd : Bool) (hF : Fs P Q a0 b0 a1 b1 odd) (hb0 : b0 ≠ 0) (PQ : Q ≤ P) (Q0 : 0 ≤ Q) (oa : Ow w w0.heap.size ga va (dg P)) (ob : Ow w w0.heap.size gb vb (dg Q)) (hg : ga ≠ gb) (h0 : Below w0.heap.size w0 w) (la : (dg P).length ≤ 600) :
    Calls Tryd.prog 123 #[.agg #[.int .i64 a0, .int .i64 b0, .int .i64 a1, .int .i64 b1, .bool odd], va, vb] w fun e w' => ∃ u v x y, e = .returned (.tuple #[u, v]) ∧ Ow w' w0.heap.size ga u (dg x) ∧ Ow w' w0.heap.size gb v (dg y) ∧ Hid (gI x y = gI P Q) ∧ 0 ≤ y ∧ y < x ∧ x ≤ Q ∧ Below w0.heap.size w0 w' := by
  have hn := hF.next (by omega) Q0 hb0
  obtain ⟨_, e2, e3, e4⟩ := hF.ok hb0
  cases odd
  · simp only [Bool.false_eq_true, if_false, Int.one_mul] at hn e2 e3 e4
    exact (taken_even w0 w ga gb va vb P Q a0 b0 a1 b1 hF hb0 PQ Q0 oa ob hg h0 la).mono fun _ _ ⟨u, v, h1, h2, h3, h4⟩ => ⟨u, v, _, _, h1, h2, h3, Lib.hid hn, e2, e3, e4, h4⟩
  · simp only [if_true, Int.neg_mul, Int.one_mul] at hn e2 e3 e4
    exact (taken_odd w0 w ga gb va vb P Q a0 b0 a1 b1 hF hb0 PQ Q0 oa ob hg h0 la).mono fun _ _ ⟨u, v, h1, h2, h3, h4⟩ => ⟨u, v, _, _, h1, h2, h3, Lib.hid hn, e2, e3, e4, h4⟩

theorem Ow.val {w : World} {B g : Nat} {v : Value} {l : List Int} (h : Ow w B g v l) : ∃ cap, v = .slice (some ⟨g, 0, none⟩) l.length cap := by
  obtain ⟨cap, _, h, _⟩ := h
  exact ⟨cap, h⟩
set_option maxRecDepth 100000 in
set_option maxHeartbeats 4000000 in
theorem shortened_any (w0 w : World) (ga gb : Nat) (va vb : Value) (P Q : Int) (PQ : Q ≤ P) (Q0 : 0 ≤ Q) (oa : Ow w w0.heap.size ga va (dg P)) (ob : Ow w w0.heap.size gb vb (dg Q)) (hg : ga ≠ gb) (h0 : Below w0.heap.size w0 w) (la : (dg P).length ≤ 600) :
    Calls Tryd.prog 109 #[va, vb] w fun e w' => ∃ u v x y, e = .returned (.tuple #[u, v]) ∧ Ls w' u (dg x) ∧ Ls w' v (dg y) ∧ Hid (gI x y = gI P Q) ∧ 0 ≤ y ∧ y ≤ x ∧ (dg y).length ≤ 2 ∧ (dg x).length ≤ 600 ∧ Below w0.heap.size w0 w' := by
  obtain ⟨G, hG⟩ : ∃ G, gI P Q = G := ⟨_, rfl⟩
  rw [hG]
  replace hG := Lib.hid hG
  obtain ⟨ca, rfl⟩ := oa.val
  obtain ⟨cb, rfl⟩ := ob.val
  go_enter Tryd.func109, Tryd.ntmps109
  go_wp2
  go_loopg [0, 1] Q.toNat (fun k a b wr => ∃ (p q : Int) (ga gb ca cb : Nat), a = .slice (some ⟨ga, 0, none⟩) (dg p).length ca ∧ b = .slice (some ⟨gb, 0, none⟩) (dg q).length cb ∧ Hid (k = q.toNat) ∧ Ow wr w0.heap.size ga (.slice (some ⟨ga, 0, none⟩) (dg p).length ca) (dg p) ∧ Ow wr w0.heap.size gb (.slice (some ⟨gb, 0, none⟩) (dg q).length cb) (dg q) ∧ ga ≠ gb ∧ 0 ≤ q ∧ q ≤ p ∧ (dg p).length ≤ 600 ∧ Hid (gI p q = G) ∧ Below w0.heap.size w0 wr)
  case atStart => exact ⟨P, Q, ga, gb, ca, cb, rfl, rfl, Lib.hid rfl, oa, ob, hg, Q0, PQ, la, hG, h0⟩
  case round =>
    clear oa ob hg Q0 PQ la hG h0
    obtain ⟨p, q, ga, gb, ca, cb, rfl, rfl, hk, oa, ob, hg, q0, qp, lp, hG, h0⟩ := hrel
    have la := oa.ls
    have lb := ob.ls
    have lq := dg_len_mono q0 qp
    by_cases h2 : (dg q).length ≤ 2
    · generalize hm : (dg q).length = m at *
      replace hm := Lib.hid hm
      clear oa ob
      go_wp2
      go_ret2
      exact ⟨_, _, p, q, rfl, la, lb, hG, q0, qp, by rw [hm.out]; exact h2, lp, h0⟩
    · have hq1 : 0 < q := by
        rcases (by omega : q = 0 ∨ 0 < q) with h | h
        · rw [h, dg_zero] at h2; simp at h2
        · exact h
      have hlead := fun w h1 h2 => leading_any (.slice (some ⟨ga, 0, none⟩) (dg p).length ca) (.slice (some ⟨gb, 0, none⟩) (dg q).length cb) p q w q0 qp h1 h2 (by omega) (by omega)
      have hfs := fun S (h1 : 1 ≤ S) (h2 : p / S < 1000000000000000000) w => firstSteps_any (p / S) (q / S) p q S (p % S) (q % S) w (Int.ediv_nonneg q0 (by omega)) (Int.ediv_le_ediv (by omega) qp) h2 (by have := Int.mul_ediv_add_emod p S; rw [Int.mul_comm] at this; omega) (by have := Int.mul_ediv_add_emod q S; rw [Int.mul_comm] at this; omega) ⟨Int.emod_nonneg _ (by omega), Int.emod_lt_of_pos _ (by omega)⟩ ⟨Int.emod_nonneg _ (by omega), Int.emod_lt_of_pos _ (by omega)⟩ qp q0
      have hdv := fun w h1 h2 => divided_own (.slice (some ⟨ga, 0, none⟩) (dg p).length ca) (.slice (some ⟨gb, 0, none⟩) (dg q).length cb) p q w (by omega) hq1 h1 h2 (by omega) (by omega) lq
      have htk := fun w a0 b0 a1 b1 odd hF hb0 oa ob h0 => taken_any w0 w ga gb (.slice (some ⟨ga, 0, none⟩) (dg p).length ca) (.slice (some ⟨gb, 0, none⟩) (dg q).length cb) p q a0 b0 a1 b1 odd hF hb0 qp q0 oa ob hg h0 lp
      have hgs : gI q (p % q) = gI p q := (gI_step q0 (by omega)).symm
      have r0 := Int.emod_nonneg p (show q ≠ 0 by omega)
      have r1 := Int.emod_lt_of_pos p hq1
      have h2' : (2 : Int) < ((dg q).length : Int) := by omega
      generalize hm : (dg q).length = m at *
      have HM := Lib.hid (And.intro hm (And.intro h2 lq))
      clear hm h2 lq
      replace hfs := Lib.hid hfs
      replace hdv := Lib.hid hdv
      replace htk := Lib.hid htk
      replace hgs := Lib.hid hgs
      go_wp2_with fail
      go_at_call 122
      refine (hlead _ la lb).mono ?_
      rintro e w1 ⟨S, rfl, S1, S2, hb1⟩
      go_wp2_with fail
      go_at_call 121
      refine (hfs.out S S1 S2 _).mono ?_
      rintro e w2 ⟨⟨a0, b0, a1, b1, odd, rfl, hF⟩, hb2⟩
      have B2 := hb1.trans (hb2.mono hb1.size)
      have b5 := B5.new w2 a0 b0 a1 b1 odd
      have hb3 := Below.alloc (Below.refl w2.heap.size w2) (Nat.le_refl _) (.cells #[.int .i64 a0, .int .i64 b0, .int .i64 a1, .int .i64 b1, .bool odd] 129)
      have B3 := B2.trans (hb3.mono B2.size)
      have k0 := b5.c0
      have k1 := b5.c1
      have k2 := b5.c2
      have k3 := b5.c3
      have k4 := b5.c4
      replace oa := oa.keep B3
      replace ob := ob.keep B3
      replace la := la.keep B3
      replace lb := lb.keep B3
      replace h0 := h0.trans (B3.mono h0.size)
      clear hlead hb1 hb2 hb3 B2 B3 b5
      by_cases hb0 : b0 = 0
      · subst hb0
        go_wp2_with fail
        go_at_call 78
        refine (hdv.out _ la lb).mono ?_
        rintro e w3 ⟨v, u, rfl, _, hu, hb4⟩
        have og := ob.keep hb4
        have hlt := ob.lt
        clear hdv htk hfs k0 k1 k2 k3 k4 oa hF
        go_wp2
        go_roundg (p % q).toNat
        case measure => have := hk.out; omega
        case rel =>
          obtain ⟨cu, rfl⟩ := hu.val
          exact ⟨q, p % q, gb, _, cb, cu, by rw [HM.out.1], rfl, Lib.hid rfl, by rw [HM.out.1]; exact og, hu.low h0.size, by omega, r0, by omega, by have := HM.out; omega, Lib.hid (hgs.out.trans hG.out), h0.trans (hb4.mono h0.size)⟩
      · go_wp2_with fail
        go_at_call 123
        refine (htk.out _ a0 b0 a1 b1 odd hF hb0 oa ob h0).mono ?_
        rintro e w3 ⟨u, v, x, y, rfl, hu, hv, hgI, y0, yx, xq, hb4⟩
        clear hdv htk hfs k0 k1 k2 k3 k4 oa ob hF
        have lx := dg_len_mono (x := x) (y := q) (by omega) xq
        go_wp2
        go_roundg y.toNat
        case measure => have := hk.out; omega
        case rel =>
          obtain ⟨cu, rfl⟩ := hu.val
          obtain ⟨cv, rfl⟩ := hv.val
          exact ⟨x, y, ga, gb, cu, cv, rfl, rfl, Lib.hid rfl, hu, hv, hg, y0, by omega, by have := HM.out; omega, Lib.hid (hgI.out.trans hG.out), hb4⟩

set_option maxRecDepth 100000 in
set_option maxHeartbeats 4000000 in
theorem divisor_bg (va vb : Value) (x y : Int) (w : World) (y0 : 0 ≤ y) (hxy : y ≤ x) (ha : Ls w va (dg x)) (hb : Ls w vb (dg y)) (la : (dg x).length ≤ 600) (lb : 2 < (dg y).length) :
    Calls Tryd.prog 80 #[va, vb] w fun e w' => ∃ v, e = .returned v ∧ Ls w' v (dg (gI x y)) ∧ Below w.heap.size w w' := by
  have x0 : 0 ≤ x := by omega
  have lba := dg_len_mono y0 (show y ≤ x by omega)
  have hcm := compare_num va vb x y w x0 y0 ha hb (by omega) (by omega)
  have hd0 : 0 ≤ cmpI x y := by unfold cmpI; rw [if_neg (by omega)]; split <;> omega
  generalize cmpI x y = dcm at *
  have hc1 := fun w1 (h : Below w.heap.size w w1) => cloneO va (dg x) w1 (ha.keep h) (by omega) (by omega)
  have hc2 := fun w1 (h : Below w.heap.size w w1) => cloneO vb (dg y) w1 (hb.keep h) (by omega) (by omega)
  have hsh := fun w1 ga gb u v oa ob hg h0 => shortened_any w w1 ga gb u v x y (by omega) y0 oa ob hg h0 la
  obtain ⟨G, hG⟩ : ∃ G, gI x y = G := ⟨_, rfl⟩
  rw [hG] at hsh ⊢
  clear hG
  obtain ⟨pa, ca, rfl, _, _⟩ := ha
  obtain ⟨pb, cb, rfl, _, _⟩ := hb
  have lbI : (2 : Int) < ((dg y).length : Int) := by omega
  generalize (dg x).length = n at *
  generalize (dg y).length = m at *
  clear la
  go_enter Tryd.func80, Tryd.ntmps80
  go_wp2_with fail
  go_at_call 65
  refine hcm.mono ?_
  rintro e w1 ⟨rfl, hb1⟩
  go_wp2_with fail
  go_at_call 108
  refine (hc1 _ hb1).mono ?_
  rintro e w2 ⟨u1, g1, rfl, o1, hb2⟩
  have B2 := hb1.trans (hb2.mono hb1.size)
  go_wp2_with fail
  go_at_call 108
  refine (hc2 _ B2).mono ?_
  rintro e w3 ⟨u2, g2, rfl, o2, hb3⟩
  have B3 := B2.trans (hb3.mono B2.size)
  have hne : g1 ≠ g2 := by have := o1.lt; have := o2.ge; omega
  go_wp2_with fail
  go_at_call 109
  refine (hsh _ g1 g2 u1 u2 ((o1.keep hb3).low hb1.size) (o2.low B2.size) hne B3).mono ?_
  rintro e w4 ⟨a, b, p, q, rfl, ha, hb, hG, q0, qp, lb, la, B4⟩
  clear hc1 hc2 hsh hb1 hb2 hb3 B2 B3 o1 o2 hne hcm
  have p0 : 0 ≤ p := by omega
  have hy := (len_le_two q0).1 lb
  have ha' := ha
  have hb' := hb
  obtain ⟨pa, ca, rfl, _, _⟩ := ha
  obtain ⟨pb, cb, rfl, _, _⟩ := hb
  by_cases hz : q = 0
  · subst hz
    have hg := hG.out
    rw [gI_zero p0] at hg
    subst hg
    have hcl := fun w h => cloneD (.slice pa (dg p).length ca) (dg p) w h (by omega)
    have hl0 : (dg (0 : Int)).length = 0 := by rw [dg_zero]; rfl
    generalize (dg p).length = n at *
    rw [hl0] at *
    clear hG la lb hl0
    go_wp2_with fail
    go_at_call 108
    refine (hcl _ ha').mono ?_
    rintro e w5 ⟨u, rfl, hu, hb5⟩
    go_wp2
    go_ret
    exact ⟨u, rfl, hu, B4.trans (hb5.mono B4.size)⟩
  · have hy1 : 0 < q := by omega
    have hlp := dg_len_pos hy1
    have hd := fun w h1 h2 => divided_any (.slice pa (dg p).length ca) (.slice pb (dg q).length cb) p q w p0 hy1 h1 h2 (by omega) (by omega)
    have r0 : 0 ≤ p % q := Int.emod_nonneg p hz
    have r1 : p % q < q := Int.emod_lt_of_pos p hy1
    have hs1 := fun w h => small_any (.slice pb (dg q).length cb) q w q0 hy h
    have hs2 := fun w v h => small_any v (p % q) w r0 (by omega) h
    have hg : gI q (p % q) = G := by rw [← gI_step q0 p0]; exact hG.out
    generalize p % q = r at *
    generalize (dg p).length = n at *
    generalize (dg q).length = m at *
    have hG' := Lib.hid hg
    clear hG hg la
    go_wp2_with fail
    go_at_call 78
    refine (hd _ ha' hb').mono ?_
    rintro e w5 ⟨_, u, rfl, _, hu, hb5⟩
    have B5 := B4.trans (hb5.mono B4.size)
    go_wp2_with fail
    go_at_call 103
    refine (hs1 _ (hb'.keep hb5)).mono ?_
    rintro e w6 ⟨rfl, hb6⟩
    go_wp2_with fail
    go_at_call 103
    refine (hs2 _ u (hu.keep hb6)).mono ?_
    rintro e w7 ⟨rfl, hb7⟩
    have B6 := B5.trans (hb6.mono B5.size)
    have B7 := B6.trans (hb7.mono B6.size)
    clear hd hs1 hs2 hu ha' hb' hb5 hb6 hb7 B4 B5 B6
    go_wp2
    go_loopw [7, 8] (fun a b wr => ∃ p q : Int, a = .int .i64 p ∧ b = .int .i64 q ∧ 0 ≤ p ∧ p < 1000000000000000000 ∧ 0 ≤ q ∧ q < 1000000000000000000 ∧ Hid (gI p q = G) ∧ Below w.heap.size w wr)
      (fun _ b _ => (intOf b).toNat)
    case atStart => exact ⟨q, r, rfl, rfl, q0, hy, r0, by omega, hG', B7⟩
    case round =>
      clear hG' B7 r0 r1
      obtain ⟨p, t, rfl, rfl, p0, p1, t0, t1, hg, hB⟩ := hrel
      by_cases ht : t = 0
      · subst ht
        have e := hg.out
        rw [gI_zero p0] at e
        subst e
        have ho := fun w => ofSmall_any p w p0 p1
        clear hg
        go_wp2_with (go_at_call 104; refine (ho _).mono ?_; rintro e w5 ⟨v, rfl, hs, hb5⟩)
        go_ret
        exact ⟨v, rfl, hs, hB.trans (hb5.mono hB.size)⟩
      · have e := hg.out
        rw [gI_step t0 p0] at e
        replace e := Lib.hid e
        have m0 : 0 ≤ p % t := Int.emod_nonneg p ht
        have m1 : p % t < t := Int.emod_lt_of_pos p (by omega)
        have hm := Int.tmod_eq_emod_of_nonneg (b := t) p0
        generalize p % t = k at *
        clear hg
        go_wp2
        go_quiet (fail)
        go_wp2
        go_roundw
        case rel => exact ⟨t, k, rfl, rfl, t0, t1, m0, by omega, e, by (repeat (first | with_reducible exact Below.refl _ _ | with_reducible assumption | refine Below.alloc ?_ (by (try simp); try omega) _ | refine Below.setCell ?_ (by (try simp); try omega) _ | refine below_drewN ?_ _ | refine Below.drew ?_ | (with_reducible refine Below.trans ?_ (Below.mono (by assumption) (by (try simp); try omega)))))⟩
        case measure => simp [intOf]; omega
set_option maxRecDepth 100000 in
set_option maxHeartbeats 4000000 in
theorem divisor_bl (va vb : Value) (x y : Int) (w : World) (y0 : 0 ≤ y) (hxy : y < x) (ha : Ls w va (dg x)) (hb : Ls w vb (dg y)) (la : (dg x).length ≤ 600) (lb : 2 < (dg y).length) :
    Calls Tryd.prog 80 #[vb, va] w fun e w' => ∃ v, e = .returned v ∧ Ls w' v (dg (gI x y)) ∧ Below w.heap.size w w' := by
  have x0 : 0 ≤ x := by omega
  have lba := dg_len_mono y0 (show y ≤ x by omega)
  have hcm := compare_num vb va y x w y0 x0 hb ha (by omega) (by omega)
  rw [cmpI_lt hxy] at hcm
  have hc1 := fun w1 (h : Below w.heap.size w w1) => cloneO va (dg x) w1 (ha.keep h) (by omega) (by omega)
  have hc2 := fun w1 (h : Below w.heap.size w w1) => cloneO vb (dg y) w1 (hb.keep h) (by omega) (by omega)
  have hsh := fun w1 ga gb u v oa ob hg h0 => shortened_any w w1 ga gb u v x y (by omega) y0 oa ob hg h0 la
  obtain ⟨G, hG⟩ : ∃ G, gI x y = G := ⟨_, rfl⟩
  rw [hG] at hsh ⊢
  clear hG
  obtain ⟨pa, ca, rfl, _, _⟩ := ha
  obtain ⟨pb, cb, rfl, _, _⟩ := hb
  have lbI : (2 : Int) < ((dg y).length : Int) := by omega
  generalize (dg x).length = n at *
  generalize (dg y).length = m at *
  clear la
  go_enter Tryd.func80, Tryd.ntmps80
  go_wp2_with fail
  go_at_call 65
  refine hcm.mono ?_
  rintro e w1 ⟨rfl, hb1⟩
  go_wp2_with fail
  go_at_call 108
  refine (hc1 _ hb1).mono ?_
  rintro e w2 ⟨u1, g1, rfl, o1, hb2⟩
  have B2 := hb1.trans (hb2.mono hb1.size)
  go_wp2_with fail
  go_at_call 108
  refine (hc2 _ B2).mono ?_
  rintro e w3 ⟨u2, g2, rfl, o2, hb3⟩
  have B3 := B2.trans (hb3.mono B2.size)
  have hne : g1 ≠ g2 := by have := o1.lt; have := o2.ge; omega
  go_wp2_with fail
  go_at_call 109
  refine (hsh _ g1 g2 u1 u2 ((o1.keep hb3).low hb1.size) (o2.low B2.size) hne B3).mono ?_
  rintro e w4 ⟨a, b, p, q, rfl, ha, hb, hG, q0, qp, lb, la, B4⟩
  clear hc1 hc2 hsh hb1 hb2 hb3 B2 B3 o1 o2 hne hcm
  have p0 : 0 ≤ p := by omega
  have hy := (len_le_two q0).1 lb
  have ha' := ha
  have hb' := hb
  obtain ⟨pa, ca, rfl, _, _⟩ := ha
  obtain ⟨pb, cb, rfl, _, _⟩ := hb
  by_cases hz : q = 0
  · subst hz
    have hg := hG.out
    rw [gI_zero p0] at hg
    subst hg
    have hcl := fun w h => cloneD (.slice pa (dg p).length ca) (dg p) w h (by omega)
    have hl0 : (dg (0 : Int)).length = 0 := by rw [dg_zero]; rfl
    generalize (dg p).length = n at *
    rw [hl0] at *
    clear hG la lb hl0
    go_wp2_with fail
    go_at_call 108
    refine (hcl _ ha').mono ?_
    rintro e w5 ⟨u, rfl, hu, hb5⟩
    go_wp2
    go_ret
    exact ⟨u, rfl, hu, B4.trans (hb5.mono B4.size)⟩
  · have hy1 : 0 < q := by omega
    have hlp := dg_len_pos hy1
    have hd := fun w h1 h2 => divided_any (.slice pa (dg p).length ca) (.slice pb (dg q).length cb) p q w p0 hy1 h1 h2 (by omega) (by omega)
    have r0 : 0 ≤ p % q := Int.emod_nonneg p hz
    have r1 : p % q < q := Int.emod_lt_of_pos p hy1
    have hs1 := fun w h => small_any (.slice pb (dg q).length cb) q w q0 hy h
    have hs2 := fun w v h => small_any v (p % q) w r0 (by omega) h
    have hg : gI q (p % q) = G := by rw [← gI_step q0 p0]; exact hG.out
    generalize p % q = r at *
    generalize (dg p).length = n at *
    generalize (dg q).length = m at *
    have hG' := Lib.hid hg
    clear hG hg la
    go_wp2_with fail
    go_at_call 78
    refine (hd _ ha' hb').mono ?_
    rintro e w5 ⟨_, u, rfl, _, hu, hb5⟩
    have B5 := B4.trans (hb5.mono B4.size)
    go_wp2_with fail
    go_at_call 103
    refine (hs1 _ (hb'.keep hb5)).mono ?_
    rintro e w6 ⟨rfl, hb6⟩
    go_wp2_with fail
    go_at_call 103
    refine (hs2 _ u (hu.keep hb6)).mono ?_
    rintro e w7 ⟨rfl, hb7⟩
    have B6 := B5.trans (hb6.mono B5.size)
    have B7 := B6.trans (hb7.mono B6.size)
    clear hd hs1 hs2 hu ha' hb' hb5 hb6 hb7 B4 B5 B6
    go_wp2
    go_loopw [7, 8] (fun a b wr => ∃ p q : Int, a = .int .i64 p ∧ b = .int .i64 q ∧ 0 ≤ p ∧ p < 1000000000000000000 ∧ 0 ≤ q ∧ q < 1000000000000000000 ∧ Hid (gI p q = G) ∧ Below w.heap.size w wr)
      (fun _ b _ => (intOf b).toNat)
    case atStart => exact ⟨q, r, rfl, rfl, q0, hy, r0, by omega, hG', B7⟩
    case round =>
      clear hG' B7 r0 r1
      obtain ⟨p, t, rfl, rfl, p0, p1, t0, t1, hg, hB⟩ := hrel
      by_cases ht : t = 0
      · subst ht
        have e := hg.out
        rw [gI_zero p0] at e
        subst e
        have ho := fun w => ofSmall_any p w p0 p1
        clear hg
        go_wp2_with (go_at_call 104; refine (ho _).mono ?_; rintro e w5 ⟨v, rfl, hs, hb5⟩)
        go_ret
        exact ⟨v, rfl, hs, hB.trans (hb5.mono hB.size)⟩
      · have e := hg.out
        rw [gI_step t0 p0] at e
        replace e := Lib.hid e
        have m0 : 0 ≤ p % t := Int.emod_nonneg p ht
        have m1 : p % t < t := Int.emod_lt_of_pos p (by omega)
        have hm := Int.tmod_eq_emod_of_nonneg (b := t) p0
        generalize p % t = k at *
        clear hg
        go_wp2
        go_quiet (fail)
        go_wp2
        go_roundw
        case rel => exact ⟨t, k, rfl, rfl, t0, t1, m0, by omega, e, by (repeat (first | with_reducible exact Below.refl _ _ | with_reducible assumption | refine Below.alloc ?_ (by (try simp); try omega) _ | refine Below.setCell ?_ (by (try simp); try omega) _ | refine below_drewN ?_ _ | refine Below.drew ?_ | (with_reducible refine Below.trans ?_ (Below.mono (by assumption) (by (try simp); try omega)))))⟩
        case measure => simp [intOf]; omega
/-- The greatest common divisor of any two numbers. -/
theorem divisor_num (va vb : Value) (x y : Int) (w : World) (x0 : 0 ≤ x) (y0 : 0 ≤ y) (ha : Ls w va (dg x)) (hb : Ls w vb (dg y)) (la : (dg x).length ≤ 600) (lb : (dg y).length ≤ 600) :
    Calls Tryd.prog 80 #[va, vb] w fun e w' => ∃ v, e = .returned v ∧ Ls w' v (dg (gI x y)) ∧ Below w.heap.size w w' := by
  by_cases hs : (dg x).length ≤ 2 ∨ (dg y).length ≤ 2
  · exact divisor_small va vb x y w x0 y0 ha hb la lb hs
  · by_cases h : y ≤ x
    · exact divisor_bg va vb x y w y0 h ha hb la (by omega)
    · rw [gI_comm]
      exact divisor_bl vb va y x w x0 (by omega) hb ha lb (by omega)
end Go.Proofs.YtoppdbgodceaiaaDoor
