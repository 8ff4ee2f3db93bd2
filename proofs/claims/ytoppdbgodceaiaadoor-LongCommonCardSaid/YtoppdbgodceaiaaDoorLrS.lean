/-
  Package long and its reference answer alike, for any long integers (of at most sixty digits, or valid ones).
-/
import Derived.Test.YtoppdbgodceaiaaDoorLrK
import Derived.Test.YtoppdbgodceaiaaDoorLiN
import Derived.Test.YtoppdbgodceaiaaDoorLjI
namespace Go.Proofs.YtoppdbgodceaiaaDoor
open Go.RowKit

theorem ckT_cases (a b : Int) (ha : a = 0 ∨ a = 30) (hb : b = 0 ∨ b = 30) : ckT a b = 0 ∧ a = 0 ∧ b = 0 ∨ ckT a b = 30 := by
  unfold ckT
  rcases ha with rfl | rfl <;> rcases hb with rfl | rfl <;> simp
theorem add_both (b1 b2 : Bool) (l m : List Int) (ll : l.length ≤ 65) (lm : m.length ≤ 65) : ∃ z er, Dl z ≤ 130 ∧ (er = 0 → ckL b1 l = 0 ∧ ckL b2 m = 0) ∧
    (∀ w s1 s2, Ls w s1 l → Ls w s2 m → Calls Tryd.prog 29 #[.agg #[.bool b1, s1], .agg #[.bool b2, s2]] w fun e w' => OkE z er e w' ∧ Below w.heap.size w w') ∧
    (∀ w s1 s2, Ls w s1 l → Ls w s2 m → Calls Tryd.prog 30 #[.agg #[.bool b1, s1], .agg #[.bool b2, s2]] w fun e w' => OkE z er e w' ∧ Below w.heap.size w w') := by
  rcases ckT_cases (ckL b1 l) (ckL b2 m) (ckB _ _) (ckB _ _) with ⟨h, c1, c2⟩ | h
  · have d1 : Dl (numL b1 l) ≤ 65 := by unfold Dl; rw [← (ckL_lg c1).2.1]; exact ll
    have d2 : Dl (numL b2 m) ≤ 65 := by unfold Dl; rw [← (ckL_lg c2).2.1]; exact lm
    have hd : Dl (numL b1 l + numL b2 m) ≤ 130 := by have := Dl_add (numL b1 l) (numL b2 m); omega
    refine ⟨numL b1 l + numL b2 m, 0, hd, fun _ => ⟨c1, c2⟩, fun w s1 s2 h1 h2 => ?_, fun w s1 s2 h1 h2 => radd_any b1 b2 s1 s2 l m 0 _ w h1 h2 (by omega) (by omega) h (by rw [if_pos rfl]) (by omega)⟩
    exact add_ok _ _ _ _ w (lg_any h1 c1).1 (lg_any h2 c2).1 (by omega) (by omega) (by omega)
  · refine ⟨0, 30, by rw [Dl_zero]; omega, fun h => by omega, fun w s1 s2 h1 h2 => ?_, fun w s1 s2 h1 h2 => radd_any b1 b2 s1 s2 l m 30 0 w h1 h2 (by omega) (by omega) h (by rw [if_neg (by omega)]) (by rw [Dl_zero]; omega)⟩
    refine (add_bad b1 b2 s1 s2 l m w h1 h2 (by omega) (by omega) h).mono ?_
    rintro e w' ⟨rfl, hb⟩
    exact ⟨okE_zero 30 _, hb⟩
theorem sub_both (b1 b2 : Bool) (l m : List Int) (ll : l.length ≤ 65) (lm : m.length ≤ 65) : ∃ z er, Dl z ≤ 130 ∧ (er = 0 → ckL b1 l = 0 ∧ ckL b2 m = 0) ∧
    (∀ w s1 s2, Ls w s1 l → Ls w s2 m → Calls Tryd.prog 31 #[.agg #[.bool b1, s1], .agg #[.bool b2, s2]] w fun e w' => OkE z er e w' ∧ Below w.heap.size w w') ∧
    (∀ w s1 s2, Ls w s1 l → Ls w s2 m → Calls Tryd.prog 32 #[.agg #[.bool b1, s1], .agg #[.bool b2, s2]] w fun e w' => OkE z er e w' ∧ Below w.heap.size w w') := by
  rcases ckT_cases (ckL b1 l) (ckL b2 m) (ckB _ _) (ckB _ _) with ⟨h, c1, c2⟩ | h
  · have d1 : Dl (numL b1 l) ≤ 65 := by unfold Dl; rw [← (ckL_lg c1).2.1]; exact ll
    have d2 : Dl (numL b2 m) ≤ 65 := by unfold Dl; rw [← (ckL_lg c2).2.1]; exact lm
    have hd : Dl (numL b1 l - numL b2 m) ≤ 130 := by have := Dl_sub (numL b1 l) (numL b2 m); omega
    refine ⟨numL b1 l - numL b2 m, 0, hd, fun _ => ⟨c1, c2⟩, fun w s1 s2 h1 h2 => ?_, fun w s1 s2 h1 h2 => rsub_any b1 b2 s1 s2 l m 0 _ w h1 h2 (by omega) (by omega) h (by rw [if_pos rfl]) (by omega)⟩
    exact sub_ok _ _ _ _ w (lg_any h1 c1).1 (lg_any h2 c2).1 (by omega) (by omega) (by omega)
  · refine ⟨0, 30, by rw [Dl_zero]; omega, fun h => by omega, fun w s1 s2 h1 h2 => ?_, fun w s1 s2 h1 h2 => rsub_any b1 b2 s1 s2 l m 30 0 w h1 h2 (by omega) (by omega) h (by rw [if_neg (by omega)]) (by rw [Dl_zero]; omega)⟩
    refine (sub_bad b1 b2 s1 s2 l m w h1 h2 (by omega) (by omega) h).mono ?_
    rintro e w' ⟨rfl, hb⟩
    exact ⟨okE_zero 30 _, hb⟩
theorem mul_both (b1 b2 : Bool) (l m : List Int) (ll : l.length ≤ 65) (lm : m.length ≤ 65) : ∃ z er, Dl z ≤ 130 ∧ (er = 0 → ckL b1 l = 0 ∧ ckL b2 m = 0) ∧
    (∀ w s1 s2, Ls w s1 l → Ls w s2 m → Calls Tryd.prog 36 #[.agg #[.bool b1, s1], .agg #[.bool b2, s2]] w fun e w' => OkE z er e w' ∧ Below w.heap.size w w') ∧
    (∀ w s1 s2, Ls w s1 l → Ls w s2 m → Calls Tryd.prog 37 #[.agg #[.bool b1, s1], .agg #[.bool b2, s2]] w fun e w' => OkE z er e w' ∧ Below w.heap.size w w') := by
  rcases ckT_cases (ckL b1 l) (ckL b2 m) (ckB _ _) (ckB _ _) with ⟨h, c1, c2⟩ | h
  · have d1 : Dl (numL b1 l) ≤ 65 := by unfold Dl; rw [← (ckL_lg c1).2.1]; exact ll
    have d2 : Dl (numL b2 m) ≤ 65 := by unfold Dl; rw [← (ckL_lg c2).2.1]; exact lm
    have hd : Dl (numL b1 l * numL b2 m) ≤ 130 := by have := Dl_mul (numL b1 l) (numL b2 m); omega
    refine ⟨numL b1 l * numL b2 m, 0, hd, fun _ => ⟨c1, c2⟩, fun w s1 s2 h1 h2 => ?_, fun w s1 s2 h1 h2 => rmul_any b1 b2 s1 s2 l m 0 _ w h1 h2 (by omega) (by omega) h (by rw [if_pos rfl]) (by omega)⟩
    exact mul_ok _ _ _ _ w (lg_any h1 c1).1 (lg_any h2 c2).1 (by omega) (by omega) (by omega)
  · refine ⟨0, 30, by rw [Dl_zero]; omega, fun h => by omega, fun w s1 s2 h1 h2 => ?_, fun w s1 s2 h1 h2 => rmul_any b1 b2 s1 s2 l m 30 0 w h1 h2 (by omega) (by omega) h (by rw [if_neg (by omega)]) (by rw [Dl_zero]; omega)⟩
    refine (mul_bad b1 b2 s1 s2 l m w h1 h2 (by omega) (by omega) h).mono ?_
    rintro e w' ⟨rfl, hb⟩
    exact ⟨okE_zero 30 _, hb⟩
theorem gcd_both (b1 b2 : Bool) (l m : List Int) (ll : l.length ≤ 65) (lm : m.length ≤ 65) : ∃ z er, Dl z ≤ 130 ∧ (er = 0 → ckL b1 l = 0 ∧ ckL b2 m = 0) ∧
    (∀ w s1 s2, Ls w s1 l → Ls w s2 m → Calls Tryd.prog 40 #[.agg #[.bool b1, s1], .agg #[.bool b2, s2]] w fun e w' => OkE z er e w' ∧ Below w.heap.size w w') ∧
    (∀ w s1 s2, Ls w s1 l → Ls w s2 m → Calls Tryd.prog 41 #[.agg #[.bool b1, s1], .agg #[.bool b2, s2]] w fun e w' => OkE z er e w' ∧ Below w.heap.size w w') := by
  rcases ckT_cases (ckL b1 l) (ckL b2 m) (ckB _ _) (ckB _ _) with ⟨h, c1, c2⟩ | h
  · have d1 : Dl (numL b1 l) ≤ 65 := by unfold Dl; rw [← (ckL_lg c1).2.1]; exact ll
    have d2 : Dl (numL b2 m) ≤ 65 := by unfold Dl; rw [← (ckL_lg c2).2.1]; exact lm
    have hd : Dl (gI ((numL b1 l).natAbs : Int) ((numL b2 m).natAbs : Int)) ≤ 130 := Nat.le_trans (Dl_gI _ _ 65 (by omega) (by omega)) (by omega)
    refine ⟨gI ((numL b1 l).natAbs : Int) ((numL b2 m).natAbs : Int), 0, hd, fun _ => ⟨c1, c2⟩, fun w s1 s2 h1 h2 => ?_, fun w s1 s2 h1 h2 => rgcd_any b1 b2 s1 s2 l m 0 _ w h1 h2 (by omega) (by omega) h (by rw [if_pos rfl]) (by omega)⟩
    exact gcd_ok _ _ _ _ _ w (lg_any h1 c1).1 (lg_any h2 c2).1 (by omega) (by omega) rfl
  · refine ⟨0, 30, by rw [Dl_zero]; omega, fun h => by omega, fun w s1 s2 h1 h2 => ?_, fun w s1 s2 h1 h2 => rgcd_any b1 b2 s1 s2 l m 30 0 w h1 h2 (by omega) (by omega) h (by rw [if_neg (by omega)]) (by rw [Dl_zero]; omega)⟩
    refine (gcd_bad b1 b2 s1 s2 l m w h1 h2 (by omega) (by omega) h).mono ?_
    rintro e w' ⟨rfl, hb⟩
    exact ⟨okE_zero 30 _, hb⟩
theorem neg_both (b1 : Bool) (l : List Int) (ll : l.length ≤ 65) : ∃ z er, Dl z ≤ 130 ∧
    (∀ w s1, Ls w s1 l → Calls Tryd.prog 33 #[.agg #[.bool b1, s1]] w fun e w' => OkE z er e w' ∧ Below w.heap.size w w') ∧
    (∀ w s1, Ls w s1 l → Calls Tryd.prog 34 #[.agg #[.bool b1, s1]] w fun e w' => OkE z er e w' ∧ Below w.heap.size w w') := by
  rcases ckB b1 l with c1 | c1
  · have d1 : Dl (numL b1 l) ≤ 65 := by unfold Dl; rw [← (ckL_lg c1).2.1]; exact ll
    refine ⟨-(numL b1 l), 0, by rw [Dl_neg]; omega, fun w s1 h1 => ?_, fun w s1 h1 => rneg_any b1 s1 l 0 _ w h1 (by omega) c1 (by rw [if_pos rfl])⟩
    exact neg_num _ _ w (lg_any h1 c1).1 (by unfold Dl at d1; omega)
  · refine ⟨0, 30, by rw [Dl_zero]; omega, fun w s1 h1 => ?_, fun w s1 h1 => rneg_any b1 s1 l 30 0 w h1 (by omega) c1 (by rw [if_neg (by omega)])⟩
    refine (neg_bad b1 s1 l w h1 (by omega) c1).mono ?_
    rintro e w' ⟨rfl, hb⟩
    exact ⟨okE_zero 30 _, hb⟩
theorem sqrt_both (b1 : Bool) (l : List Int) (ll : l.length ≤ 65) : ∃ z er, Dl z ≤ 130 ∧
    (∀ w s1, Ls w s1 l → Calls Tryd.prog 47 #[.agg #[.bool b1, s1]] w fun e w' => OkE z er e w' ∧ Below w.heap.size w w') ∧
    (∀ w s1, Ls w s1 l → Calls Tryd.prog 48 #[.agg #[.bool b1, s1]] w fun e w' => OkE z er e w' ∧ Below w.heap.size w w') := by
  rcases ckB b1 l with c1 | c1
  · have d1 : Dl (numL b1 l) ≤ 65 := by unfold Dl; rw [← (ckL_lg c1).2.1]; exact ll
    have hs := (ckL_lg c1).1
    by_cases hn : numL b1 l < 0
    · obtain rfl : b1 = true := by rw [hs]; simpa using hn
      refine ⟨0, 2, by rw [Dl_zero]; omega, fun w s1 h1 => ?_, fun w s1 h1 => rsqrt_any true s1 l 2 0 w h1 (by omega) (by rw [c1]; rfl) (by rw [if_neg (by omega)])⟩
      refine (sqrt_neg _ _ w (lg_any h1 c1).1 hn (by unfold Dl at d1; omega)).mono ?_
      rintro e w' ⟨rfl, hb⟩
      exact ⟨okE_zero 2 _, hb⟩
    · obtain rfl : b1 = false := by rw [hs]; simpa using hn
      have d2 := Dl_rt (x := numL false l) (by omega)
      refine ⟨rt (numL false l), 0, by omega, fun w s1 h1 => ?_, fun w s1 h1 => rsqrt_any false s1 l 0 _ w h1 (by omega) (by rw [c1]; rfl) (by rw [if_pos rfl])⟩
      exact sqrt_ok _ _ w (lg_any h1 c1).1 (by omega) (by omega)
  · refine ⟨0, 30, by rw [Dl_zero]; omega, fun w s1 h1 => ?_, fun w s1 h1 => rsqrt_any b1 s1 l 30 0 w h1 (by omega) (by rw [c1]; rfl) (by rw [if_neg (by omega)])⟩
    refine (sqrt_bad b1 s1 l w h1 (by omega) c1).mono ?_
    rintro e w' ⟨rfl, hb⟩
    exact ⟨okE_zero 30 _, hb⟩
theorem div_both (b1 b2 : Bool) (l m : List Int) (ll : l.length ≤ 600) (lm : m.length ≤ 65) : ∃ q r er, Dl q ≤ 600 ∧ Dl r ≤ 600 ∧
    (∀ w s1 s2, Ls w s1 l → Ls w s2 m → Calls Tryd.prog 38 #[.agg #[.bool b1, s1], .agg #[.bool b2, s2]] w fun e w' => OkE2 q r er e w' ∧ Below w.heap.size w w') ∧
    (∀ w s1 s2, Ls w s1 l → Ls w s2 m → Calls Tryd.prog 39 #[.agg #[.bool b1, s1], .agg #[.bool b2, s2]] w fun e w' => OkE2 q r er e w' ∧ Below w.heap.size w w') := by
  rcases ckT_cases (ckL b1 l) (ckL b2 m) (ckB _ _) (ckB _ _) with ⟨h, c1, c2⟩ | h
  · have d1 : Dl (numL b1 l) ≤ 600 := by unfold Dl; rw [← (ckL_lg c1).2.1]; exact ll
    have d2 : Dl (numL b2 m) ≤ 65 := by unfold Dl; rw [← (ckL_lg c2).2.1]; exact lm
    by_cases hy : numL b2 m = 0
    · refine ⟨0, 0, 7, by rw [Dl_zero]; omega, by rw [Dl_zero]; omega, fun w s1 s2 h1 h2 => ?_, fun w s1 s2 h1 h2 => rdiv_any b1 b2 s1 s2 l m 7 0 0 w h1 h2 (by omega) (by omega) (by rw [h, if_pos rfl, if_pos hy]) (by rw [if_neg (by omega)]) (by rw [if_neg (by omega)])⟩
      have LB := (lg_any h2 c2).1
      rw [hy] at LB
      refine (div_zero _ _ _ w (lg_any h1 c1).1 LB d1).mono ?_
      rintro e w' ⟨rfl, hb⟩
      exact ⟨okE2_zero 7 _, hb⟩
    · refine ⟨(numL b1 l).tdiv (numL b2 m), (numL b1 l).tmod (numL b2 m), 0, Nat.le_trans (Dl_tdiv _ _) d1, Nat.le_trans (Dl_tmod _ hy) (by omega), fun w s1 s2 h1 h2 => ?_, fun w s1 s2 h1 h2 => rdiv_any b1 b2 s1 s2 l m 0 _ _ w h1 h2 (by omega) (by omega) (by rw [h, if_pos rfl, if_neg hy]) (by rw [if_pos rfl]) (by rw [if_pos rfl])⟩
      exact div_ok _ _ _ _ w (lg_any h1 c1).1 (lg_any h2 c2).1 d1 (by omega) hy
  · refine ⟨0, 0, 30, by rw [Dl_zero]; omega, by rw [Dl_zero]; omega, fun w s1 s2 h1 h2 => ?_, fun w s1 s2 h1 h2 => rdiv_any b1 b2 s1 s2 l m 30 0 0 w h1 h2 (by omega) (by omega) (by rw [h, if_neg (by decide)]) (by rw [if_neg (by omega)]) (by rw [if_neg (by omega)])⟩
    refine (div_bad b1 b2 s1 s2 l m w h1 h2 (by omega) (by omega) h).mono ?_
    rintro e w' ⟨rfl, hb⟩
    exact ⟨okE2_zero 30 _, hb⟩
theorem rsame_true (b : Bool) (s1 s2 : Value) (l : List Int) (w : World) (h1 : Ls w s1 l) (h2 : Ls w s2 l) (ll : l.length ≤ 1000000) :
    Calls Tryd.prog 17 #[.agg #[.bool b, s1], .agg #[.bool b, s2]] w fun e w' => e = .returned (.bool true) ∧ Below w.heap.size w w' := by
  have := rsame_any b b s1 s2 l l w h1 h2 ll ll
  simpa using this
set_option maxRecDepth 100000 in
set_option maxHeartbeats 1000000 in
theorem alike_true (A B : Value) (z er : Int) (w : World) (hA : Lg w A z) (hB0 : Lg w B z) (ld : Dl z ≤ 600) :
    Calls Tryd.prog 35 #[A, .int .i64 er, B, .int .i64 er] w fun e w' => e = .returned (.bool true) ∧ Below w.heap.size w w' := by
  obtain ⟨pa, ca, rfl, _⟩ := hA.form
  obtain ⟨pb, cb, rfl, _⟩ := hB0.form
  have hs := fun w h h' => same_lg (.agg #[.bool (decide (z < 0)), .slice pa (Dl z) ca]) (.agg #[.bool (decide (z < 0)), .slice pb (Dl z) cb]) z w h h' ld
  generalize decide (z < 0) = b at *
  generalize Dl z = n at *
  have hB : Below w.heap.size w ((w.alloc (.cells #[.bool b, .slice pa n ca] 24)).alloc (.cells #[.bool b, .slice pb n cb] 24)) := by (repeat (first | with_reducible exact Below.refl _ _ | with_reducible assumption | refine Below.alloc ?_ (by (try simp); try omega) _ | refine Below.setCell ?_ (by (try simp); try omega) _ | refine below_drewN ?_ _ | refine Below.drew ?_ | (with_reducible refine Below.trans ?_ (Below.mono (by assumption) (by (try simp); try omega)))))
  have bA : Bx ((w.alloc (.cells #[.bool b, .slice pa n ca] 24)).alloc (.cells #[.bool b, .slice pb n cb] 24)) (w.heap.size) (.bool b) (.slice pa n ca) 24 := by exact ((Bx.new w (.bool b) (.slice pa n ca) 24).alloc (.cells #[.bool b, .slice pb n cb] 24))
  have bB : Bx ((w.alloc (.cells #[.bool b, .slice pa n ca] 24)).alloc (.cells #[.bool b, .slice pb n cb] 24)) (w.heap.size + 1) (.bool b) (.slice pb n cb) 24 := by have := (Bx.new (w.alloc (.cells #[.bool b, .slice pa n ca] 24)) (.bool b) (.slice pb n cb) 24); simpa using this
  have rbA0 := bA.c0
  have rbA1 := bA.c1
  have rbB0 := bB.c0
  have rbB1 := bB.c1
  replace hA := hA.keep hB
  replace hB0 := hB0.keep hB
  go_enter Tryd.func35, Tryd.ntmps35
  go_wp2_with fail
  go_at_call 27
  refine (hs _ hA hB0).mono ?_
  rintro e w3 ⟨rfl, hb⟩
  replace hB := hB.trans (hb.mono hB.size)
  clear hA hB0 bA bB rbA0 rbA1 rbB0 rbB1 hs hb
  go_wp2
  go_ret
  exact ⟨rfl, hB⟩
/-- A copy of a long integer's parts. -/
def OwnV (p : Bool) (l : List Int) (w : World) (v : Value) : Prop := ∃ a n c, v = .agg #[.bool p, .slice a n c] ∧ Ls w (.slice a n c) l
theorem OwnV.keep {p : Bool} {l : List Int} {w w' : World} {v : Value} (h : OwnV p l w v) (hb : Below w.heap.size w w') : OwnV p l w' v := by
  obtain ⟨a, n, c, h1, h2⟩ := h
  exact ⟨a, n, c, h1, h2.keep hb⟩
theorem OwnV.put {p : Bool} {l : List Int} {w : World} {v : Value} (h : OwnV p l w v) {g : Nat} {q : Bool} {a : Option Addr} {n k : Nat} {t : TypeId} (b : Bx w g (.bool q) (.slice a n k) t) (p' : Bool) (a' : Option Addr) (n' k' : Nat) : OwnV p l ((w.setCell ⟨g, 0, none⟩ (.bool p')).setCell ⟨g, 1, none⟩ (.slice a' n' k')) v := by
  obtain ⟨a, n, c, h1, h2⟩ := h
  exact ⟨a, n, c, h1, h2.boxed b (nb _) (ns _ _ _) _⟩
theorem OwnV.allocI {p : Bool} {l : List Int} {w : World} {v : Value} (h : OwnV p l w v) (o : Obj) : OwnV p l (w.alloc o) v := h.keep ((Below.refl _ _).alloc (Nat.le_refl _) _)
end Go.Proofs.YtoppdbgodceaiaaDoor
