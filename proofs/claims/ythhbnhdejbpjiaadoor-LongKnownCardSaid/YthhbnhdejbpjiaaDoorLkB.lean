/-
  LongKnown: the calls at the greatest long integer and at a long integer that is not valid.
-/
import Derived.Test.YthhbnhdejbpjiaaDoorLkA
import Derived.Test.YthhbnhdejbpjiaaDoorShelfD
import Derived.Test.YthhbnhdejbpjiaaDoorLiD
namespace Go.Proofs.YthhbnhdejbpjiaaDoor
open Go.RowKit

theorem RL.big {z : Int} {e : Ending} {w : World} (h : RL z e w) (hz : mx < (z.natAbs : Int)) : e = .returned (.tuple #[noL, .int .i64 6]) := by
  rcases h with h | h
  · have := mx_big hz; omega
  · exact h.2
theorem lm_le : Dl mx ≤ 600 := by rw [mx_len]; omega
theorem l0_le : Dl 0 ≤ 600 := by rw [Dl_zero]; omega
theorem l1_le {z : Int} (h0 : -3 < z) (h1 : z < 3) : Dl z ≤ 600 := Nat.le_trans (Dl_two (by omega) (by omega)) (by omega)
theorem lmm_le : Dl (-mx) ≤ 600 := by rw [Dl_neg]; exact lm_le
theorem lk_add1 (A B : Value) (w : World) (hA : Lg w A mx) (hB : Lg w B 1) :
    Calls Tryd.prog 12 #[A, B] w fun e w' => e = .returned (.tuple #[noL, .int .i64 6]) ∧ Below w.heap.size w w' := by
  refine (add_num A B mx 1 w hA hB lm_le (l1_le (by omega) (by omega))).mono fun e w' h => ⟨h.1.big ?_, h.2⟩
  have := mx_pos; omega
theorem lk_add0 (A B : Value) (w : World) (hA : Lg w A mx) (hB : Lg w B 0) :
    Calls Tryd.prog 12 #[A, B] w fun e w' => OkL mx e w' ∧ Below w.heap.size w w' := by
  have := add_ok A B mx 0 w hA hB lm_le l0_le (by rw [Int.add_zero]; exact lm_le)
  rwa [Int.add_zero] at this
theorem lk_subMM (A B : Value) (w : World) (hA : Lg w A mx) (hB : Lg w B mx) :
    Calls Tryd.prog 13 #[A, B] w fun e w' => OkL 0 e w' ∧ Below w.heap.size w w' := by
  have := sub_ok A B mx mx w hA hB lm_le lm_le (by rw [Int.sub_self]; exact l0_le)
  rwa [Int.sub_self] at this
theorem lk_subm1 (A B : Value) (w : World) (hA : Lg w A (-1)) (hB : Lg w B mx) :
    Calls Tryd.prog 13 #[A, B] w fun e w' => e = .returned (.tuple #[noL, .int .i64 6]) ∧ Below w.heap.size w w' := by
  refine (sub_num A B (-1) mx w hA hB (l1_le (by omega) (by omega)) lm_le).mono fun e w' h => ⟨h.1.big ?_, h.2⟩
  have := mx_pos; omega
theorem lk_mul2 (A B : Value) (w : World) (hA : Lg w A mx) (hB : Lg w B 2) :
    Calls Tryd.prog 14 #[A, B] w fun e w' => e = .returned (.tuple #[noL, .int .i64 6]) ∧ Below w.heap.size w w' := by
  refine (mul_num A B mx 2 w hA hB lm_le (l1_le (by omega) (by omega))).mono fun e w' h => ⟨h.1.big ?_, h.2⟩
  have := mx_pos; omega
theorem lk_mulm1 (A B : Value) (w : World) (hA : Lg w A mx) (hB : Lg w B (-1)) :
    Calls Tryd.prog 14 #[A, B] w fun e w' => OkL (-mx) e w' ∧ Below w.heap.size w w' := by
  have e : mx * -1 = -mx := by omega
  have := mul_ok A B mx (-1) w hA hB lm_le (l1_le (by omega) (by omega)) (by rw [e]; exact lmm_le)
  rwa [e] at this
theorem lk_negM (A : Value) (w : World) (hA : Lg w A mx) :
    Calls Tryd.prog 15 #[A] w fun e w' => OkL (-mx) e w' ∧ Below w.heap.size w w' := neg_num A mx w hA lm_le
theorem lk_neg0 (w : World) :
    Calls Tryd.prog 15 #[noL] w fun e w' => OkL 0 e w' ∧ Below w.heap.size w w' := neg_num noL 0 w (Lg.zero w) l0_le
theorem lk_sqrt0 (w : World) :
    Calls Tryd.prog 16 #[noL] w fun e w' => OkL 0 e w' ∧ Below w.heap.size w w' := by
  have := sqrt_ok noL 0 w (Lg.zero w) (by omega) l0_le
  rwa [show rt 0 = 0 from rt_uniq (by omega) (by omega) (by omega)] at this
theorem lk_sqrtM (A : Value) (w : World) (hA : Lg w A mx) :
    Calls Tryd.prog 16 #[A] w fun e w' => OkL (10 ^ 2700 - 1) e w' ∧ Below w.heap.size w w' := by
  have := sqrt_ok A mx w hA (by have := mx_pos; omega) lm_le
  rwa [mx_rt] at this
theorem lk_gcdM (A : Value) (w : World) (hA : Lg w A mx) :
    Calls Tryd.prog 17 #[A, noL] w fun e w' => OkL mx e w' ∧ Below w.heap.size w w' := by
  have := gcdS_ok A noL mx 0 w hA (Lg.zero w) lm_le l0_le (.inr (by rw [Dl_zero]; omega))
  rwa [mx_gcd] at this
theorem ck_b0 : ckL false [0] = 30 := by decide +kernel
theorem ck_nil : ckL false [] = 0 := by decide +kernel
theorem mx_nn : decide (mx < 0) = false := decide_eq_false (fun h => absurd mx_pos (Int.not_lt.2 (Int.le_of_lt h)))
theorem ck_m : ckL false (dg (mx.natAbs : Int)) = 0 := by
  have := ckL_num (z := mx) lm_le
  rwa [mx_nn] at this
theorem dgm_len : (dg (mx.natAbs : Int)).length = 600 := mx_len
theorem lk_addB1 (s t : Value) (w : World) (hs : Ls w s [0]) (hA : Lg w (.agg #[.bool false, t]) mx) :
    Calls Tryd.prog 12 #[.agg #[.bool false, s], .agg #[.bool false, t]] w fun e w' => e = .returned (.tuple #[noL, .int .i64 30]) ∧ Below w.heap.size w w' :=
  add_bad false false s t [0] _ w hs hA.parts.2 (by simp) (by rw [dgm_len]; omega) (by rw [ck_b0]; rfl)
theorem lk_addB2 (s t : Value) (w : World) (hs : Ls w s [0]) (hA : Lg w (.agg #[.bool false, t]) mx) :
    Calls Tryd.prog 12 #[.agg #[.bool false, t], .agg #[.bool false, s]] w fun e w' => e = .returned (.tuple #[noL, .int .i64 30]) ∧ Below w.heap.size w w' :=
  add_bad false false t s _ [0] w hA.parts.2 hs (by rw [dgm_len]; omega) (by simp) (by rw [ck_b0, ck_m]; rfl)
theorem lk_negB (s : Value) (w : World) (hs : Ls w s [0]) :
    Calls Tryd.prog 15 #[.agg #[.bool false, s]] w fun e w' => e = .returned (.tuple #[noL, .int .i64 30]) ∧ Below w.heap.size w w' := neg_bad false s [0] w hs (by simp) ck_b0
theorem lk_sqrtB (s : Value) (w : World) (hs : Ls w s [0]) :
    Calls Tryd.prog 16 #[.agg #[.bool false, s]] w fun e w' => e = .returned (.tuple #[noL, .int .i64 30]) ∧ Below w.heap.size w w' := sqrt_bad false s [0] w hs (by simp) ck_b0
theorem lk_gcdB (s : Value) (w : World) (hs : Ls w s [0]) :
    Calls Tryd.prog 17 #[noL, .agg #[.bool false, s]] w fun e w' => e = .returned (.tuple #[noL, .int .i64 30]) ∧ Below w.heap.size w w' :=
  gcd_bad false false _ s [] [0] w (Ls.nil w) hs (by simp) (by simp) (by rw [ck_b0, ck_nil]; rfl)
theorem lk_divB1 (s : Value) (w : World) (hs : Ls w s [0]) :
    Calls Tryd.prog 19 #[.agg #[.bool false, s], noL] w fun e w' => e = .returned (.tuple #[noL, noL, .int .i64 30]) ∧ Below w.heap.size w w' :=
  div_bad false false s _ [0] [] w hs (Ls.nil w) (by simp) (by simp) (by rw [ck_b0]; rfl)
theorem lk_divB2 (s : Value) (w : World) (hs : Ls w s [0]) :
    Calls Tryd.prog 19 #[noL, .agg #[.bool false, s]] w fun e w' => e = .returned (.tuple #[noL, noL, .int .i64 30]) ∧ Below w.heap.size w w' :=
  div_bad false false _ s [] [0] w (Ls.nil w) hs (by simp) (by simp) (by rw [ck_b0, ck_nil]; rfl)
theorem lk_cmpB (s : Value) (w : World) (hs : Ls w s [0]) :
    Calls Tryd.prog 22 #[.agg #[.bool false, s], noL] w fun e w' => e = .returned (.tuple #[.int .i64 0, .int .i64 30]) ∧ Below w.heap.size w w' :=
  cmp_bad false false s _ [0] [] w hs (Ls.nil w) (by simp) (by simp) (by rw [ck_b0]; rfl)
theorem lk_intB (s : Value) (w : World) (hs : Ls w s [0]) :
    Calls Tryd.prog 20 #[.agg #[.bool false, s]] w fun e w' => e = .returned (.tuple #[.int .i64 0, .int .i64 30]) ∧ Below w.heap.size w w' := int_bad false s [0] w hs (by simp) ck_b0
theorem lk_textB (s : Value) (w : World) (hs : Ls w s [0]) :
    Calls Tryd.prog 21 #[.agg #[.bool false, s]] w fun e w' => e = .returned (.tuple #[.string ⟨⟨[]⟩⟩, .int .i64 30]) ∧ Below w.heap.size w w' := text_bad false s [0] w hs (by simp) ck_b0
theorem lk_sameBB (s : Value) (w : World) (hs : Ls w s [0]) :
    Calls Tryd.prog 23 #[.agg #[.bool false, s], .agg #[.bool false, s]] w fun e w' => e = .returned (.bool true) ∧ Below w.heap.size w w' := by
  have := same_any false false s s [0] [0] w hs hs (by simp) (by simp)
  rwa [show (false == false && decide (([0] : List Int) = [0])) = true from rfl] at this
theorem lk_sameB0 (s : Value) (w : World) (hs : Ls w s [0]) :
    Calls Tryd.prog 23 #[.agg #[.bool false, s], noL] w fun e w' => e = .returned (.bool false) ∧ Below w.heap.size w w' := by
  have := same_any false false s (.slice none 0 0) [0] [] w hs (Ls.nil w) (by simp) (by simp)
  rwa [show (false == false && decide (([0] : List Int) = [])) = false from rfl] at this
theorem lk_ckM (t : Value) (w : World) (hA : Lg w (.agg #[.bool false, t]) mx) :
    Calls Tryd.prog 7 #[.agg #[.bool false, t]] w fun e w' => e = .returned (.int .i64 0) ∧ Below w.heap.size w w' := by
  have := check_any false t _ w hA.parts.2 (by rw [dgm_len]; omega)
  rwa [ck_m] at this
theorem lk_ckB (s : Value) (w : World) (hs : Ls w s [0]) :
    Calls Tryd.prog 7 #[.agg #[.bool false, s]] w fun e w' => e = .returned (.int .i64 30) ∧ Below w.heap.size w w' := by
  have := check_any false s [0] w hs (by simp)
  rwa [ck_b0] at this
theorem Ls.one (w : World) (x : Int) (g : Nat) (hg : g = w.heap.size) : Ls (w.alloc (.cells #[.int .i64 x] 3)) (.slice (some ⟨g, 0, none⟩) 1 1) [x] := by
  subst hg
  refine ⟨_, _, rfl, ⟨Nat.le_refl _, fun h => by cases h⟩, fun _ => ⟨_, _, rfl, fun i hi => ?_⟩⟩
  match i, hi with
  | 0, _ => simp [el]
theorem lk_ckO (x : Int) (g : Nat) (w : World) (hg : g = w.heap.size) (h : ckL false [x] = 30) :
    Calls Tryd.prog 7 #[.agg #[.bool false, .slice (some ⟨g, 0, none⟩) 1 1]] (w.alloc (.cells #[.int .i64 x] 3)) fun e w' => e = .returned (.int .i64 30) ∧ Below w.heap.size w w' := by
  have := check_any false _ [x] _ (Ls.one w x g hg) (by simp)
  rw [h] at this
  exact this.mono fun e w' h => ⟨h.1, ((Below.refl w.heap.size w).alloc (Nat.le_refl _) _).trans (h.2.mono (by simp))⟩
theorem lk_ckL (s : Value) (l : List Int) (w : World) (hs : Ls w s l) (h : l.length = 601) :
    Calls Tryd.prog 7 #[.agg #[.bool false, s]] w fun e w' => e = .returned (.int .i64 30) ∧ Below w.heap.size w w' := by
  have := check_any false s l w hs (by omega)
  rwa [show ckL false l = 30 from if_neg (by omega)] at this
theorem ck_big : ckL false [1000000000] = 30 := by decide +kernel
theorem ck_min : ckL false [-1] = 30 := by decide +kernel
theorem unalloc {w w' : World} {o : Obj} (h : Below (w.alloc o).heap.size (w.alloc o) w') : Below w.heap.size w w' := ((Below.refl w.heap.size w).alloc (Nat.le_refl _) o).trans (h.mono (by simp))
set_option maxRecDepth 100000 in
/-- slices.Clone of a slice that is not empty is a row of the call's own. -/
theorem cloneP (v : Value) (l : List Int) (w : World) (h : Ls w v l) (hl : l.length ≤ 100000) (hl0 : 0 < l.length) :
    Calls Tryd.prog 8 #[v] w fun e w' => ∃ u, e = .returned u ∧ w'.ownsRow w.heap.size 3 1 u l.length (l.map (Value.int .i64)) ∧ Below w.heap.size w w' := by
  obtain ⟨i0, hi, hz0, hz1, hz2⟩ := info_parts Tryd.infoInt
  obtain ⟨pa, ca, rfl, ⟨hca', hna⟩, hqa⟩ := h
  obtain ⟨b0, o0, rfl, _⟩ := hqa hl0
  obtain ⟨ad, had⟩ : ∃ ad, (⟨b0, o0, none⟩ : Addr) = ad := ⟨_, rfl⟩
  rw [had] at hqa hna ⊢
  have hown : (w.alloc (.cells #[] 3)).ownsRow w.heap.size 3 1 (.slice (some ⟨w.heap.size, 0, none⟩) 0 0) 0 [] := World.ownsRow_lit w #[] 0 (Nat.le_refl _) (by unfold maxLen; omega) rfl
  obtain ⟨X, hX⟩ : ∃ X, X = l.map (Value.int .i64) := ⟨_, rfl⟩
  have hXl : X.length = l.length * 1 := by rw [hX]; simp
  have hXc : ∀ v ∈ X, v.oneCell' = true := by rw [hX]; exact map_oneCell _
  have hXp : ∀ (j : Nat) (v : Value), X[j]? = some v → (w.alloc (.cells #[] 3)).cell? (ad.add j) = some v := by
    intro j v hv
    have hlt : 0 < X.length := by
      rcases Nat.eq_zero_or_pos X.length with h | h
      · rw [List.length_eq_zero_iff.1 h] at hv; simp at hv
      · exact h
    obtain ⟨ad', e, h⟩ := src_pos hX hqa (Below.alloc (Below.refl _ _) (Nat.le_refl _) (.cells #[] 3)) hlt
    cases e
    exact h j v hv
  have hend : ∀ (w' : World) (v' : Value), w'.ownsRow w.heap.size 3 1 v' (0 + l.length) ([] ++ X) → w'.ownsRow w.heap.size 3 1 v' l.length (l.map (Value.int .i64)) := fun w' v' h => by
    rw [Nat.zero_add, List.nil_append, hX] at h
    exact h
  have hHend := Lib.hid hend
  clear hX hqa hca' hna hend had hl0
  generalize l.length = n at *
  have hq := fun w : World => eql_nil 23 3 (some ad) n ca w Tryd.underlying23
  rw [show (some ad : Option Addr).isNone = false from rfl] at hq
  go_enter Tryd.func8, Tryd.ntmps8
  go_wp2_with (refine wpList_append_own _ rfl _ _ 23 rfl w.heap.size 3 i0 (.int .i64 0) 1 8 Tryd.underlying23 hi hz0 hz1 hz2 rfl (by decide) _ 0 [] rfl hown ad n ca X rfl hXl hXp hXc (by unfold maxLen; omega) (by omega) (by simp) ?_; intro v' w1 hown' hgrow _; refine Hid.out ?_)
  refine Lib.hid ?_
  have hs := hHend.out _ _ hown'
  have hb : Below w.heap.size w w1 := ((Below.refl _ _).alloc (Nat.le_refl _) _).grown hgrow (by simp) (fun k hk => by cases hk; exact Nat.le_refl _)
  clear hown' hgrow
  go_wp2
  go_ret
  exact ⟨_, rfl, hs, hb⟩
/-- append at a guarded operation of a plain region whose guard says yes. -/
theorem append_want {P : Program} {ops : Array Oper} {rest : List Oper} {o : Oper} {a : Act} {w : World} {Q : Exit → Act → World → Prop} (hgd : Region.wanted o (yielded ops a.tmps) = true) (s x : Operand) (t : TypeId)
    (ho : o.op = .call { callee := .builtin .append, args := #[s, x], argTypes := #[t, t] })
    (base : Nat) (e : TypeId) (i : TypeInfo) (z : Value) (size bytes : Nat) (ht : P.underlying t = some (.slice e)) (hi : P.info? e = some i) (hz : i.zero = some z)
    (hsize : i.size = size) (hby : i.bytes = bytes) (hzs : z.cells.size = size) (hsz : 0 < size)
    (v : Value) (n : Nat) (xs : List Value) (hs : a.eval s = v) (hown : w.ownsRow base e size v n xs)
    (ad : Addr) (m c : Nat) (news : List Value) (hx : a.eval x = .slice (some ad) m c) (hl : news.length = m * size) (hnews : ∀ j u, news[j]? = some u → w.cell? (ad.add j) = some u) (h1 : ∀ u ∈ news, u.oneCell' = true)
    (hm : 0 < m) (h63 : n + m ≤ maxLen) (hbytes : (n + m) * bytes ≤ 140737488355328) (hbase : base ≤ w.heap.size) (H : Nat) (hH : w.heap.size = H)
    (h : ∀ g cap w', w'.ownsRow base e size (.slice (some ⟨g, 0, none⟩) (n + m) cap) (n + m) (xs ++ news) → w.grownBy w' v.ownBlock → wpList P ops Q rest (a.put o.dst (.slice (some ⟨g, 0, none⟩) (n + m) cap)) w') : wpList P ops Q (o :: rest) a w :=
  BigFrame.wpList_want hgd fun _ hK => wp_append_lies w s x t ho base e i z size bytes ht hi hz hsize hby hzs hsz v n xs hs hown ad m c news hx hl hnews h1 hm h63 hbytes hbase H hH fun g cap w' h2 h3 _ _ => hK _ _ (h g cap w' h2 h3)
end Go.Proofs.YthhbnhdejbpjiaaDoor
