/-
  PolyNarrows answers true.
-/
import Derived.Test.YtdaignklmbmcnaaPyX
import Derived.Test.YtdaignklmbmcnaaPyP
import Derived.StillTailTactics
import Derived.LoopN
import Derived.Deep.Cut
import Derived.Deep.CutRange
import Derived.Deep.RegionWith
namespace Go.Proofs.Ytdaignklmbmcnaa
open Go.RowKit

/-- The box of the choices. -/
def Pb (w : World) (b : Nat) (P : Nat → Int) : Prop := ∀ i, i < 9 → w.cell? ⟨b, i * 2, none⟩ = some (.int .u64 (P (i * 2))) ∧ w.cell? ⟨b, i * 2 + 1, none⟩ = some (.int .u64 (P (i * 2 + 1)))
theorem Pb.keep {w w' : World} {b : Nat} {P : Nat → Int} (h : Pb w b P) (hb : Below w.heap.size w w') : Pb w' b P := fun i hi => ⟨bkeep hb (h i hi).1, bkeep hb (h i hi).2⟩
theorem Pb.lt {w : World} {b : Nat} {P : Nat → Int} (h : Pb w b P) : b < w.heap.size := by
  have := World.block_lt_of_cell? w _ (h 0 (by omega)).1
  simpa using this
theorem Pb.new (w : World) (P : Nat → Int) (t : TypeId) : Pb (w.alloc (.cells #[.int .u64 (P 0), .int .u64 (P 1), .int .u64 (P 2), .int .u64 (P 3), .int .u64 (P 4), .int .u64 (P 5), .int .u64 (P 6), .int .u64 (P 7), .int .u64 (P 8), .int .u64 (P 9), .int .u64 (P 10), .int .u64 (P 11), .int .u64 (P 12), .int .u64 (P 13), .int .u64 (P 14), .int .u64 (P 15), .int .u64 (P 16), .int .u64 (P 17)] t)) w.heap.size P := fun i hi => by
  rcases (by omega : i = 0 ∨ i = 1 ∨ i = 2 ∨ i = 3 ∨ i = 4 ∨ i = 5 ∨ i = 6 ∨ i = 7 ∨ i = 8) with rfl | rfl | rfl | rfl | rfl | rfl | rfl | rfl | rfl <;> simp
theorem Pb.far1 {w : World} {b c k : Nat} {P : Nat → Int} (h : Pb w b P) (hne : b ≠ c) (x y : Value) : Pb ((w.setCell ⟨c, k, none⟩ x).setCell ⟨c, k + 1, none⟩ y) b P := fun i hi => by
  obtain ⟨h0, h1⟩ := h i hi
  rw [World.cell?_setCell_other _ _ _ _ (by simp <;> omega), World.cell?_setCell_other _ _ _ _ (by simp <;> omega), World.cell?_setCell_other _ _ _ _ (by simp <;> omega), World.cell?_setCell_other _ _ _ _ (by simp <;> omega)]
  exact ⟨h0, h1⟩
theorem B2F.far1 {w : World} {b c k : Nat} {x y : Int} (h : B2F w b x y) (hne : b ≠ c) (u v : Value) : B2F ((w.setCell ⟨c, k, none⟩ u).setCell ⟨c, k + 1, none⟩ v) b x y := by
  obtain ⟨h0, h1, h2, h3⟩ := h
  simp only [B2F, World.frozen?_setCell]
  rw [World.cell?_setCell_other _ _ _ _ (by simp <;> omega), World.cell?_setCell_other _ _ _ _ (by simp <;> omega), World.cell?_setCell_other _ _ _ _ (by simp <;> omega), World.cell?_setCell_other _ _ _ _ (by simp <;> omega)]
  exact ⟨h0, h1, h2, h3⟩
theorem own_far1 {w : World} {base : Nat} {e : TypeId} {size n c k : Nat} {v : Value} {xs : List Value} (h : w.ownsRow base e size v n xs) (hne : v.ownBlock ≠ some c) (x y : Value) : ((w.setCell ⟨c, k, none⟩ x).setCell ⟨c, k + 1, none⟩ y).ownsRow base e size v n xs :=
  h.kept (row := some c) ⟨rfl, rfl, rfl, by simp, fun j hj hn => by
    have hkc : j ≠ c := fun e => hn (by rw [e])
    rw [heap_setCell_other _ _ _ _ hkc, heap_setCell_other _ _ _ _ hkc]⟩ (.inr hne)
/-- The row of the narrowed coefficients. -/
def RwC (g n : Nat) (F : Nat → Int × Int) (W : World) : Prop :=
  ∀ j, j < n → W.cell? ⟨g, j * 2, none⟩ = some (.int .i64 (F j).1) ∧ W.cell? ⟨g, j * 2 + 1, none⟩ = some (.int .i64 (F j).2) ∧ W.frozen? ⟨g, j * 2, none⟩ = false ∧ W.frozen? ⟨g, j * 2 + 1, none⟩ = false
theorem RwC.keep {g n : Nat} {F : Nat → Int × Int} {W W' : World} (h : RwC g n F W) (hb : Below W.heap.size W W') : RwC g n F W' := fun j hj => by
  obtain ⟨h0, h1, h2, h3⟩ := h j hj
  have hl := World.block_lt_of_cell? W _ h0
  simp at hl
  exact ⟨bkeep hb h0, bkeep hb h1, (hb.frozen (p := ⟨g, j * 2, none⟩) hl).trans h2, (hb.frozen (p := ⟨g, j * 2 + 1, none⟩) hl).trans h3⟩
theorem RwC.own {W : World} {base : Nat} {e : TypeId} {g n cap : Nat} {r : List (Int × Int)} (h : W.ownsRow base e 2 (.slice (some ⟨g, 0, none⟩) n cap) n (rowOf r)) (hn : r.length = n) : RwC g n (pf r) W := fun j hj => by
  obtain ⟨g0, g1⟩ := rowOf_at r j (by omega)
  rw [h.cellAt (j * 2) (by omega), h.cellAt (j * 2 + 1) (by omega), h.frozenAt, h.frozenAt]
  exact ⟨g0, g1, rfl, rfl⟩
theorem RwC.set {g n k : Nat} {F : Nat → Int × Int} {W : World} (h : RwC g n F W) (hk : k < n) (a b : Int) : RwC g n (fun j => if j = k then (a, b) else F j) ((W.setCell ⟨g, k * 2, none⟩ (.int .i64 a)).setCell ⟨g, k * 2 + 1, none⟩ (.int .i64 b)) := fun j hj => by
  obtain ⟨h0, h1, h2, h3⟩ := h j hj
  simp only [World.frozen?_setCell]
  by_cases hjk : j = k
  · subst hjk
    simp only [if_true]
    refine ⟨?_, ?_, h2, h3⟩
    · rw [World.cell?_setCell_other _ _ _ _ (by simp), World.cell?_setCell_same _ _ _ h0]
    · rw [World.cell?_setCell_same _ _ _ (u := .int .i64 (F j).2)]
      rw [World.cell?_setCell_other _ _ _ _ (by simp)]; exact h1
  · simp only [if_neg hjk]
    rw [World.cell?_setCell_other _ _ _ _ (by simp <;> omega), World.cell?_setCell_other _ _ _ _ (by simp <;> omega), World.cell?_setCell_other _ _ _ _ (by simp <;> omega), World.cell?_setCell_other _ _ _ _ (by simp <;> omega)]
    exact ⟨h0, h1, h2, h3⟩
def lst8 (n : Nat) (F : Nat → Int × Int) : List (Int × Int) := (List.range n).map F
theorem lst8_length (n : Nat) (F : Nat → Int × Int) : (lst8 n F).length = n := by simp [lst8]
theorem pf_lst8 (n : Nat) (F : Nat → Int × Int) (i : Nat) (h : i < n) : pf (lst8 n F) i = F i := by simp [pf, lst8, List.getD_eq_getElem?_getD, h]
theorem RwC.sn {g n cap : Nat} {F : Nat → Int × Int} {W : World} (h : RwC g n F W) (hc : n ≤ cap) : Sn W (.slice (some ⟨g, 0, none⟩) n cap) (lst8 n F) := by
  refine ⟨_, cap, by rw [lst8_length], ⟨by rw [lst8_length]; exact hc, fun h => by cases h⟩, fun _ => ⟨g, 0, rfl, fun i hi => ?_⟩⟩
  rw [lst8_length] at hi
  obtain ⟨h0, h1, _⟩ := h i hi
  rw [Nat.zero_add, pf_lst8 n F i hi]
  exact ⟨h0, h1⟩
/-- What stands behind the drafts' coefficients and the interval. -/
def NaR (V : World) (lo up : Int) (v7 v8 : Value) (W : World) : Prop :=
  ∃ r sB, v8 = .pointer (some ⟨sB, 0, none⟩) ∧ (∀ c ∈ r, Sml c) ∧ r.length ≤ 8 ∧ (r = [] → v7 = .slice none 0 0) ∧ W.ownsRow V.heap.size 24 2 v7 r.length (rowOf r) ∧ B2F W sB lo up ∧ V.heap.size ≤ sB ∧ Below V.heap.size V W

/-- What holds between two rounds. -/
def NaL (w V wc : World) (n : Nat) (r : List (Int × Int)) (u7 : Value) (p : Option Addr) (g sB : Nat) (lo up : Int) (P : Nat → Int) (k : Nat) (W : World) : Prop :=
  ∃ F : Nat → Int × Int, (∀ j, j < k → (pf r j).1 ≤ (F j).1 ∧ (F j).1 ≤ (F j).2 ∧ (F j).2 ≤ (pf r j).2) ∧ (∀ j, k ≤ j → j < n → F j = pf r j) ∧ (0 < n → p = some ⟨g, 0, none⟩ ∧ wc.heap.size ≤ g ∧ RwC g n F W) ∧
    W.ownsRow V.heap.size 24 2 u7 r.length (rowOf r) ∧ B2F W sB lo up ∧ Pb W (w.heap.size + 1) P ∧ Below w.heap.size w W ∧ wc.heap.size ≤ W.heap.size
theorem NaL.next {w V wc w4 : World} {n k g sB : Nat} {r : List (Int × Int)} {u7 : Value} {lo up x y e0 e1 : Int} {P : Nat → Int} {F : Nat → Int × Int} (hF : ∀ j, j < k → (pf r j).1 ≤ (F j).1 ∧ (F j).1 ≤ (F j).2 ∧ (F j).2 ≤ (pf r j).2) (hFk : ∀ j, k ≤ j → j < n → F j = pf r j) (hk : k < n)
    (he0 : (pf r k).1 = e0) (he1 : (pf r k).2 = e1) (hin : e0 ≤ x ∧ x ≤ y ∧ y ≤ e1) (r4 : RwC g n F w4) (own4 : w4.ownsRow V.heap.size 24 2 u7 r.length (rowOf r)) (box4 : B2F w4 sB lo up) (p4 : Pb w4 (w.heap.size + 1) P) (a4 : Below w.heap.size w w4) (l4 : wc.heap.size ≤ w4.heap.size)
    (hgl : wc.heap.size ≤ g) (hsg : sB < wc.heap.size) (hpg : w.heap.size + 1 < wc.heap.size) (hug : ∀ k, u7.ownBlock = some k → k < wc.heap.size) :
    NaL w V wc n r u7 (some ⟨g, 0, none⟩) g sB lo up P (k + 1) ((w4.setCell ⟨g, k * 2, none⟩ (.int .i64 x)).setCell ⟨g, k * 2 + 1, none⟩ (.int .i64 y)) := by
  refine ⟨fun j => if j = k then (x, y) else F j, fun j hj => ?_, fun j h1 h2 => ?_, fun _ => ⟨rfl, hgl, r4.set hk x y⟩, own_far1 own4 (fun e => by have := hug _ e; omega) _ _, box4.far1 (by omega) _ _, p4.far1 (by omega) _ _, (a4.setCell (p := ⟨g, k * 2, none⟩) (by simp; omega) _).setCell (p := ⟨g, k * 2 + 1, none⟩) (by simp; omega) _, by simp; omega⟩
  · by_cases c : j = k
    · subst c; simp only [if_true]; rw [he0, he1]; exact hin
    · simp only [if_neg c]; exact hF j (by omega)
  · have c : j ≠ k := by omega
    simp only [if_neg c]; exact hFk j (by omega) h2
theorem NaR.last {V v2 : World} {lo up : Int} {u : Value} {r : List (Int × Int)} (hs : ∀ c ∈ r, Sml c) (hl : r.length ≤ 8) (hn : r = [] → u = .slice none 0 0) (ho : v2.ownsRow V.heap.size 24 2 u r.length (rowOf r)) (hK : Below V.heap.size V v2) :
    NaR V lo up u (.pointer (some ⟨v2.heap.size, 0, none⟩)) (v2.alloc (.cells #[.int .i64 lo, .int .i64 up] 24)) :=
  ⟨r, v2.heap.size, rfl, hs, hl, hn, ho.alloc _, B2F.new _ _ _ _, hK.size, hK.alloc hK.size _⟩
theorem NaR.box {V v2 : World} {lo up : Int} {u : Value} {r : List (Int × Int)} {b : Nat} (ht : B2F v2 b 0 0) (hb : V.heap.size ≤ b) (hne : u.ownBlock ≠ some b) (hs : ∀ c ∈ r, Sml c) (hl : r.length ≤ 8) (hn : r = [] → u = .slice none 0 0) (ho : v2.ownsRow V.heap.size 24 2 u r.length (rowOf r)) (hK : Below V.heap.size V v2) :
    NaR V lo up u (.pointer (some ⟨b, 0, none⟩)) ((v2.setCell ⟨b, 0, none⟩ (.int .i64 lo)).setCell ⟨b, 1, none⟩ (.int .i64 up)) :=
  ⟨r, b, rfl, hs, hl, hn, own_far ho hne _ _, ht.set lo up, hb, (hK.setCell (p := ⟨b, 0, none⟩) hb _).setCell (p := ⟨b, 1, none⟩) hb _⟩

set_option maxRecDepth 100000 in
set_option maxHeartbeats 40000000 in
theorem polyNarrows_true (va : Value) (D : List (Int × Int × Int)) (dx dy dz : Int) (P : Nat → Int) (w : World) (ha : Dn w va D) (hd : 0 ≤ dy ∧ dy ≤ 255 ∧ 0 ≤ dz ∧ dz ≤ 4294967295) (hP : ∀ i, 0 ≤ P i) :
    Calls Try.prog 5 #[va, .agg #[.int .i64 dx, .int .u8 dy, .int .u32 dz], .agg #[.int .u64 (P 0), .int .u64 (P 1), .int .u64 (P 2), .int .u64 (P 3), .int .u64 (P 4), .int .u64 (P 5), .int .u64 (P 6), .int .u64 (P 7), .int .u64 (P 8), .int .u64 (P 9), .int .u64 (P 10), .int .u64 (P 11), .int .u64 (P 12), .int .u64 (P 13), .int .u64 (P 14), .int .u64 (P 15), .int .u64 (P 16), .int .u64 (P 17)]] w fun r w' => r = .returned (.bool true) ∧ Below w.heap.size w w' := by
  obtain ⟨lo, up, hsm, hw⟩ := drSmall_bd dx dy dz hd.1 hd.2.1 hd.2.2.1 hd.2.2.2
  clear hd
  have kx : ckS lo up = 0 := hsm.ck
  have d0 : B3 (w.alloc (.cells #[.int .i64 dx, .int .u8 dy, .int .u32 dz] 28)) w.heap.size dx dy dz := B3.new _ _ _ _ _
  have d0' := d0.keep ((Below.refl _ _).alloc (Nat.le_refl _) (.cells #[.int .u64 (P 0), .int .u64 (P 1), .int .u64 (P 2), .int .u64 (P 3), .int .u64 (P 4), .int .u64 (P 5), .int .u64 (P 6), .int .u64 (P 7), .int .u64 (P 8), .int .u64 (P 9), .int .u64 (P 10), .int .u64 (P 11), .int .u64 (P 12), .int .u64 (P 13), .int .u64 (P 14), .int .u64 (P 15), .int .u64 (P 16), .int .u64 (P 17)] 41))
  have p0 : Pb ((w.alloc (.cells #[.int .i64 dx, .int .u8 dy, .int .u32 dz] 28)).alloc (.cells #[.int .u64 (P 0), .int .u64 (P 1), .int .u64 (P 2), .int .u64 (P 3), .int .u64 (P 4), .int .u64 (P 5), .int .u64 (P 6), .int .u64 (P 7), .int .u64 (P 8), .int .u64 (P 9), .int .u64 (P 10), .int .u64 (P 11), .int .u64 (P 12), .int .u64 (P 13), .int .u64 (P 14), .int .u64 (P 15), .int .u64 (P 16), .int .u64 (P 17)] 41)) (w.heap.size + 1) P := by
    have := Pb.new (w.alloc (.cells #[.int .i64 dx, .int .u8 dy, .int .u32 dz] 28)) P 41
    rw [World.size_alloc] at this; exact this
  have a0 : Below w.heap.size w ((w.alloc (.cells #[.int .i64 dx, .int .u8 dy, .int .u32 dz] 28)).alloc (.cells #[.int .u64 (P 0), .int .u64 (P 1), .int .u64 (P 2), .int .u64 (P 3), .int .u64 (P 4), .int .u64 (P 5), .int .u64 (P 6), .int .u64 (P 7), .int .u64 (P 8), .int .u64 (P 9), .int .u64 (P 10), .int .u64 (P 11), .int .u64 (P 12), .int .u64 (P 13), .int .u64 (P 14), .int .u64 (P 15), .int .u64 (P 16), .int .u64 (P 17)] 41)) := ((Below.refl _ _).alloc (Nat.le_refl _) _).alloc (by simp) _
  have ha0 := ha.keep (((Below.refl w.heap.size w).alloc (Nat.le_refl _) (.cells #[.int .i64 dx, .int .u8 dy, .int .u32 dz] 28)).alloc (by simp) (.cells #[.int .u64 (P 0), .int .u64 (P 1), .int .u64 (P 2), .int .u64 (P 3), .int .u64 (P 4), .int .u64 (P 5), .int .u64 (P 6), .int .u64 (P 7), .int .u64 (P 8), .int .u64 (P 9), .int .u64 (P 10), .int .u64 (P 11), .int .u64 (P 12), .int .u64 (P 13), .int .u64 (P 14), .int .u64 (P 15), .int .u64 (P 16), .int .u64 (P 17)] 41))
  go_enter Try.func5, Try.ntmps5
  go_wp2_with fail
  go_at_call 9
  refine (works_true _).mono ?_
  rintro e V ⟨rfl, hb1⟩
  have haV := ha0.keep hb1
  have dV := d0'.keep hb1
  have pV := p0.keep hb1
  have aV : Below w.heap.size w V := a0.trans (hb1.mono (by simp; omega))
  have lV : w.heap.size + 1 < V.heap.size := pV.lt
  clear ha ha0 d0 d0' p0 a0 hb1 hsm
  have hco := fun W (hb : Below V.heap.size V W) => coefsS_any va D W (haV.keep hb)
  have dx0 := dV.1
  have dx1 := dV.2.1
  have dx2 := dV.2.2
  have q1 : w.heap.size < V.heap.size := by omega
  have q2 : w.heap.size ≠ V.heap.size := by omega
  go_upto_region 3 with fail
  go_cut [7, 8] from 20 (fun v7 v8 wx => NaR V lo up v7 v8 wx)
  case first =>
    go_wp2_with fail
    go_region_with (first | (go_at_call 11; (first | (with_reducible refine (hco V.drew (by exact (Below.refl _ _).drew)).mono ?_) | (with_reducible refine (hco (V.alloc (.cells #[.int .i64 0, .int .i64 0] 24)).drew (by exact ((Below.refl _ _).alloc (Nat.le_refl _) _).drew)).mono ?_)); rintro e v1 ⟨hb1, u, r, rfl, hown, hlen, hsml, hnil⟩; replace hb1 := undrew8 hb1; (try have t0 := (B2F.new V 0 0 24).keep hb1); have K1 : Below V.heap.size V v1 := (by first | exact hb1 | exact ((Below.refl V.heap.size V).alloc (Nat.le_refl _) _).trans (hb1.mono (by simp))); have hown1 : v1.ownsRow V.heap.size 24 2 u r.length (rowOf r) := (by first | exact hown | exact ownsLow hown (show V.heap.size ≤ (V.alloc (.cells #[.int .i64 0, .int .i64 0] 24)).heap.size by simp)); have d1 := dV.keep K1; have u0 := d1.1; have u1 := d1.2.1; have u2 := d1.2.2; have u3 : w.heap.size < v1.heap.size := (by have := K1.size; omega)) | (go_at_call 12; (with_reducible refine (hw _).mono ?_); rintro e v2 ⟨rfl, hb2⟩; (try replace t0 := t0.keep hb2); (try have t1 := (B2F.new v1 0 0 24).keep hb2); have K2 : Below V.heap.size V v2 := (by first | exact K1.trans (hb2.mono K1.size) | exact (K1.alloc K1.size _).trans (hb2.mono (by have := K1.size; simp; omega))); have hown2 : v2.ownsRow V.heap.size 24 2 u r.length (rowOf r) := (by first | exact ownsBelow hown1 hb2 | exact ownsBelow (hown1.alloc _) hb2); (try have ta := t0.1); (try have tb := t0.2.1); (try have tc := t0.2.2.1); (try have td := t0.2.2.2); (try have te := t1.1); (try have tf := t1.2.1); (try have tg := t1.2.2.1); (try have th := t1.2.2.2)))
    all_goals (go_wp2_with fail; go_meet)
    all_goals first
      | exact NaR.last hsml (by omega) hnil hown2 K2
      | exact NaR.box t1 K1.size (fun e => by have := (hown1.lt _ e).2; omega) hsml (by omega) hnil hown2 K2
      | exact NaR.box t0 (Nat.le_refl _) (fun e => by have h := (hown.lt _ e).1; have h2 : (V.alloc (.cells #[.int .i64 0, .int .i64 0] 24)).heap.size ≤ V.heap.size := h; rw [World.size_alloc] at h2; omega) hsml (by omega) hnil hown2 K2
  case rest =>
  clear hco dx0 dx1 dx2 q1 q2
  obtain ⟨r, sB, rfl, hsml, hl8, hnil, own0, box0, hsB, K0⟩ := hcut
  have hok : Ok r := fun c hc => (hsml c hc).ck
  have p0 := pV.keep K0
  have a0 : Below w.heap.size w wc := aV.trans (K0.mono aV.size)
  have hsBl := box0.lt
  clear dV pV aV K0 haV
  have hub : ∀ k, u7.ownBlock = some k → k < wc.heap.size := fun k hk => (own0.lt k hk).2
  have hsm : ∀ k, k < r.length → Sml (pf r k) := fun k hk => hsml _ (pf_mem hk)
  clear hsml
  go_wp2_with fail
  go_at_call 17
  refine (pyClone_any u7 r V.heap.size wc own0 hl8 hnil).mono ?_
  rintro e w2 ⟨hb2, b, rfl, ownb, hbnil⟩
  have own2 := ownsBelow own0 hb2
  have box2 := box0.keep hb2
  have p2 := p0.keep hb2
  have a2 : Below w.heap.size w w2 := a0.trans (hb2.mono a0.size)
  have hform : ∃ p cap g, b = .slice p r.length cap ∧ (r.length ≤ cap ∧ (p = none → cap = 0)) ∧ (0 < r.length → p = some ⟨g, 0, none⟩ ∧ wc.heap.size ≤ g ∧ RwC g r.length (pf r) w2) := by
    by_cases h0 : r = []
    · exact ⟨none, 0, 0, by rw [hbnil h0, h0]; rfl, by rw [h0]; exact ⟨Nat.le_refl _, fun _ => rfl⟩, fun h => by rw [h0] at h; exact absurd h (by simp)⟩
    · have hp : 0 < r.length := by cases r with
        | nil => exact absurd rfl h0
        | cons _ _ => simp
      obtain ⟨g, cap, h, hc, hg, _, ho⟩ := own_form ownb hp
      exact ⟨some ⟨g, 0, none⟩, cap, g, h, ⟨hc, fun h => by cases h⟩, fun _ => ⟨rfl, hg, RwC.own ho rfl⟩⟩
  have l2 := hb2.size
  have lsV : sB < wc.heap.size := hsBl
  have lpV : w.heap.size + 1 < wc.heap.size := p0.lt
  have aS0 := a0.size
  clear own0 box0 p0 a0 hb2 ownb hbnil
  obtain ⟨p, cap, g, rfl, hcap, hg⟩ := hform
  obtain ⟨n, hn⟩ : ∃ n, r.length = n := ⟨_, rfl⟩
  have hnar : ∀ F : Nat → Int × Int, (∀ j, j < n → (pf r j).1 ≤ (F j).1 ∧ (F j).1 ≤ (F j).2 ∧ (F j).2 ≤ (pf r j).2) → Nrw r (lst8 n F) := fun F h => Nrw.of (by rw [lst8_length, hn]) fun i hi => by rw [hn] at hi; rw [pf_lst8 n F i hi]; exact h i hi
  have N0 : NaL w V wc n r u7 p g sB lo up P 0 w2 := ⟨pf r, fun j hj => by omega, fun j _ _ => rfl, fun h => by rw [← hn]; exact hg (by omega), own2, box2, p2, a2, l2⟩
  rw [hn] at hsm hl8 hcap ⊢
  have Hn := Lib.hid hn
  clear hn hg own2 box2 p2 a2 l2
  go_wp2
  go_loopw [28] (fun i wr => ∃ k : Nat, i = .int .i64 k ∧ k ≤ n ∧ NaL w V wc n r u7 p g sB lo up P k wr) (fun i _ => n - (intOf i).toNat)
  case atStart => exact ⟨0, by simp, Nat.zero_le _, N0⟩
  case round =>
    clear N0
    obtain ⟨k, rfl, hk, F, hF, hFk, hrow, own3, box3, p3, a3, l3⟩ := hrel
    by_cases hk' : k < n
    · obtain ⟨rfl, hgl, hrw⟩ := hrow (by omega)
      have hck := (hsm k hk').ck
      obtain ⟨x, y, hin, hp⟩ := pyPart_any (pf r k).1 (pf r k).2 (P (k * 2)) (P (k * 2 + 1)) hck (hP _) (hP _)
      obtain ⟨c0, c1, _, _⟩ := hrw k hk'
      rw [hFk k (Nat.le_refl _) hk'] at c0 c1
      obtain ⟨m0, m1⟩ := p3 k (by omega)
      have rD : RwC g n F wr := hrw
      obtain ⟨e0, he0⟩ : ∃ e0, (pf r k).1 = e0 := ⟨_, rfl⟩
      obtain ⟨e1, he1⟩ : ∃ e1, (pf r k).2 = e1 := ⟨_, rfl⟩
      rw [he0] at hp c0 hin
      rw [he1] at hp c1 hin
      replace he0 := Lib.hid he0
      replace he1 := Lib.hid he1
      clear hnar hnil hrow hck
      obtain ⟨f0, hf0⟩ : ∃ f0, P (k * 2) = f0 := ⟨_, rfl⟩
      obtain ⟨f1, hf1⟩ : ∃ f1, P (k * 2 + 1) = f1 := ⟨_, rfl⟩
      rw [hf0] at hp m0
      rw [hf1] at hp m1
      clear hf0 hf1
      have k4 : g < wr.heap.size := by have := World.block_lt_of_cell? wr _ c0; simpa using this
      go_wp2
      go_region_with (go_at_call 18; (with_reducible refine (hp _).mono ?_); rintro e w4 ⟨rfl, hb4⟩; replace hb4 := undrew8 hb4; have r4 := rD.keep hb4; have s0 := (r4 k hk').1; have s1 := (r4 k hk').2.1; have s2 := (r4 k hk').2.2.1; have s3 := (r4 k hk').2.2.2)
      all_goals
        have own4 := ownsBelow own3 hb4
        have box4 := box3.keep hb4
        have p4 := p3.keep hb4
        have a4 := a3.trans (hb4.mono a3.size)
        have l4 := Nat.le_trans l3 hb4.size
        have NN := NaL.next hF hFk hk' he0.out he1.out hin r4 own4 box4 p4 a4 l4 hgl lsV lpV hub
        clear own4 box4 p4 a4 hb4 r4 s0 s1 hF hFk
        go_wp2
        go_roundw
        case rel => exact ⟨k + 1, by simp, by omega, NN⟩
        case measure => simp [intOf]; omega
    · obtain rfl : k = n := by omega
      have hnr := hnar F hF
      have SU : Sn wr u7 r := Sn.own own3
      have SB : Sn wr (.slice p k cap) (lst8 k F) := by
        by_cases h0 : 0 < k
        · obtain ⟨rfl, _, hr⟩ := hrow h0
          exact hr.sn hcap.1
        · exact ⟨p, cap, by rw [lst8_length], by rw [lst8_length]; exact hcap, fun h => by rw [lst8_length] at h; exact absurd h h0⟩
      have hl8' : r.length ≤ 8 := by rw [Hn.out]; exact hl8
      obtain ⟨t0, t1, htin, ht⟩ := pyPart_any lo up (P 16) (P 17) kx (hP _) (hP _)
      have NE := Lib.hid (ev_nar kx htin.1 htin.2.1 htin.2.2 hnr hok hl8')
      have NS := Lib.hid (sl_nar kx htin.1 htin.2.1 htin.2.2 hnr hok hl8')
      obtain ⟨pp0, pp1⟩ := p3 8 (by omega)
      clear hrow hF hFk hnar hnr own3 hnil hsm hl8' p3 hP htin
      generalize lst8 k F = mm at *
      generalize (.slice p k cap : Value) = BB at *
      clear hcap
      have x0 : ∀ w, (Instr.index 43 (.agg #[.func (.func 13) #[] #[], .func (.func 15) #[] #[]]) (.int .i64 0)).run Try.prog w = .ok (.func (.func 13) #[] #[]) w := fun _ => by kernel_rfl
      have x1 : ∀ w, (Instr.index 43 (.agg #[.func (.func 13) #[] #[], .func (.func 15) #[] #[]]) (.int .i64 1)).run Try.prog w = .ok (.func (.func 15) #[] #[]) w := fun _ => by kernel_rfl
      have bb0 := box3.1
      have bb1 := box3.2.1
      have pp0' : wr.cell? ⟨w.heap.size + 1, 16, none⟩ = some (.int .u64 (P 16)) := pp0
      have pp1' : wr.cell? ⟨w.heap.size + 1, 17, none⟩ = some (.int .u64 (P 17)) := pp1
      obtain ⟨f16, hf16⟩ : ∃ f, P 16 = f := ⟨_, rfl⟩
      obtain ⟨f17, hf17⟩ : ∃ f, P 17 = f := ⟨_, rfl⟩
      rw [hf16] at ht pp0'
      rw [hf17] at ht pp1'
      replace hf16 := Lib.hid hf16
      replace hf17 := Lib.hid hf17
      clear pp0 pp1
      have pp0 : wr.cell? ⟨w.heap.size + 1, 16, none⟩ = some (.int .u64 (P 16)) := by rw [hf16.out]; exact pp0'
      have pp1 : wr.cell? ⟨w.heap.size + 1, 17, none⟩ = some (.int .u64 (P 17)) := by rw [hf17.out]; exact pp1'
      clear pp0 pp1
      go_wp2_with fail
      go_at_call 18
      refine (ht _).mono ?_
      rintro e w5 ⟨rfl, hb5⟩
      have bs := box3.keep hb5
      have bt := B2F.new w5 t0 t1 24
      have SU5 := (SU.keep hb5).keep ((Below.refl _ _).alloc (Nat.le_refl _) (.cells #[.int .i64 t0, .int .i64 t1] 24))
      have SB5 := (SB.keep hb5).keep ((Below.refl _ _).alloc (Nat.le_refl _) (.cells #[.int .i64 t0, .int .i64 t1] 24))
      have a5 : Below w.heap.size w (w5.alloc (.cells #[.int .i64 t0, .int .i64 t1] 24)) := (a3.trans (hb5.mono a3.size)).alloc (a3.trans (hb5.mono a3.size)).size _
      have ls : sB < w5.heap.size := bs.lt
      have bs5 := bs.alloc (.cells #[.int .i64 t0, .int .i64 t1] 24)
      have bc0 := bs.1
      have bc1 := bs.2.1
      clear SU SB a3 box3 bb0 bb1 pp0' pp1' hb5 ht bs
      obtain ⟨⟨v0, v1, v2⟩, ev⟩ : ∃ q, evR r lo up = q := ⟨_, rfl⟩
      obtain ⟨⟨z0, z1, z2⟩, ez⟩ : ∃ q, evR mm t0 t1 = q := ⟨_, rfl⟩
      obtain ⟨⟨s0, s1, s2⟩, es⟩ : ∃ q, slR r lo up = q := ⟨_, rfl⟩
      obtain ⟨⟨y0, y1, y2⟩, ey⟩ : ∃ q, slR mm t0 t1 = q := ⟨_, rfl⟩
      have NE' := NE.out
      have NS' := NS.out
      rw [ev, ez] at NE'
      rw [es, ey] at NS'
      replace ev := Lib.hid ev
      replace ez := Lib.hid ez
      replace es := Lib.hid es
      replace ey := Lib.hid ey
      have NE2 := Lib.hid NE'
      have NS2 := Lib.hid NS'
      clear NE NS NE' NS'
      go_wp2
      refine wp_loop_rounds 3 ?_
      rw [rounds_succ]
      go_wp2_with fail
      go_at_call 13
      refine (polyEval_eq SU5 ev.out).mono ?_
      rintro e w6a ⟨rfl, hb6⟩
      have SU6a := (SU5.keep hb6).keep ((Below.refl _ _).alloc (Nat.le_refl _) (.cells #[.int .i64 v0, .int .i64 v1] 24))
      have SB6a := (SB5.keep hb6).keep ((Below.refl _ _).alloc (Nat.le_refl _) (.cells #[.int .i64 v0, .int .i64 v1] 24))
      have bs6a := bs5.keep hb6
      have bt6a := (bt).keep hb6
      have A6a := B2F.new w6a v0 v1 24
      have a6a : Below w.heap.size w (w6a.alloc (.cells #[.int .i64 v0, .int .i64 v1] 24)) := (a5.trans (hb6.mono a5.size)).alloc (a5.trans (hb6.mono a5.size)).size _
      have l6a : w5.heap.size < w6a.heap.size := bt6a.lt
      have ls6a : sB < w6a.heap.size := bs6a.lt
      have tc0 := bt6a.1
      have tc1 := bt6a.2.1
      have bs6aa := bs6a.alloc (.cells #[.int .i64 v0, .int .i64 v1] 24)
      have bt6aa := bt6a.alloc (.cells #[.int .i64 v0, .int .i64 v1] 24)
      clear hb6
      go_wp2_with fail
      go_at_call 13
      refine (polyEval_eq SB6a ez.out).mono ?_
      rintro e w7a ⟨rfl, hb7⟩
      have SU7a := (SU6a.keep hb7).keep ((Below.refl _ _).alloc (Nat.le_refl _) (.cells #[.int .i64 z0, .int .i64 z1] 24))
      have SB7a := (SB6a.keep hb7).keep ((Below.refl _ _).alloc (Nat.le_refl _) (.cells #[.int .i64 z0, .int .i64 z1] 24))
      have bs7a := bs6aa.keep hb7
      have bt7a := bt6aa.keep hb7
      have A7a := A6a.keep hb7
      have a7a : Below w.heap.size w (w7a.alloc (.cells #[.int .i64 z0, .int .i64 z1] 24)) := (a6a.trans (hb7.mono a6a.size)).alloc (a6a.trans (hb7.mono a6a.size)).size _
      have l7a : w6a.heap.size < w7a.heap.size := A7a.lt
      have l7ba : w5.heap.size < w7a.heap.size := bt7a.lt
      have l7sa : sB < w7a.heap.size := bs7a.lt
      have n7a : w6a.heap.size ≠ w7a.heap.size := by omega
      have ac0 := A7a.1
      have ac1 := A7a.2.1
      have bs7aa := bs7a.alloc (.cells #[.int .i64 z0, .int .i64 z1] 24)
      have bt7aa := bt7a.alloc (.cells #[.int .i64 z0, .int .i64 z1] 24)
      clear hb7 tc0 tc1 SU6a SB6a bs6a bt6a A6a a6a bs6aa bt6aa
      by_cases ev2a : v2 = 0
      · have hI : z2 = 0 ∧ v0 ≤ z0 ∧ z1 ≤ v1 := by rcases NE2.out with h | h; exact absurd ev2a h; exact h
        obtain ⟨hI0, hI1, hI2⟩ := hI
        have hv0 : (v2 == 0) = true := by simpa using ev2a
        have hz0 : (z2 != 0) = false := by simpa using hI0
        clear ev2a hI0
        go_wp2_with fail
        go_at_call 19
        refine (pyWithin_true z0 z1 v0 v1 _ hI1 hI2).mono ?_
        rintro e w8a ⟨rfl, hb8⟩
        have SU8a := SU7a.keep hb8
        have SB8a := SB7a.keep hb8
        have bs8a := bs7aa.keep hb8
        have bt8a := bt7aa.keep hb8
        have a8a := a7a.trans (hb8.mono a7a.size)
        clear hb8 ac0 ac1
        have q0 := bs8a.1
        have q1 := bs8a.2.1
        go_wp2
        rw [rounds_succ]
        go_wp2_with fail
        go_at_call 15
        refine (polySlope_eq SU8a es.out).mono ?_
        rintro e w68ab ⟨rfl, hb6⟩
        have SU68ab := (SU8a.keep hb6).keep ((Below.refl _ _).alloc (Nat.le_refl _) (.cells #[.int .i64 s0, .int .i64 s1] 24))
        have SB68ab := (SB8a.keep hb6).keep ((Below.refl _ _).alloc (Nat.le_refl _) (.cells #[.int .i64 s0, .int .i64 s1] 24))
        have bs68ab := bs8a.keep hb6
        have bt68ab := bt8a.keep hb6
        have A68ab := B2F.new w68ab s0 s1 24
        have a68ab : Below w.heap.size w (w68ab.alloc (.cells #[.int .i64 s0, .int .i64 s1] 24)) := (a8a.trans (hb6.mono a8a.size)).alloc (a8a.trans (hb6.mono a8a.size)).size _
        have l68ab : w5.heap.size < w68ab.heap.size := bt68ab.lt
        have ls68ab : sB < w68ab.heap.size := bs68ab.lt
        have tc0 := bt68ab.1
        have tc1 := bt68ab.2.1
        have bs6a8ab := bs68ab.alloc (.cells #[.int .i64 s0, .int .i64 s1] 24)
        have bt6a8ab := bt68ab.alloc (.cells #[.int .i64 s0, .int .i64 s1] 24)
        clear hb6
        go_wp2_with fail
        go_at_call 15
        refine (polySlope_eq SB68ab ey.out).mono ?_
        rintro e w78ab ⟨rfl, hb7⟩
        have SU78ab := (SU68ab.keep hb7).keep ((Below.refl _ _).alloc (Nat.le_refl _) (.cells #[.int .i64 y0, .int .i64 y1] 24))
        have SB78ab := (SB68ab.keep hb7).keep ((Below.refl _ _).alloc (Nat.le_refl _) (.cells #[.int .i64 y0, .int .i64 y1] 24))
        have bs78ab := bs6a8ab.keep hb7
        have bt78ab := bt6a8ab.keep hb7
        have A78ab := A68ab.keep hb7
        have a78ab : Below w.heap.size w (w78ab.alloc (.cells #[.int .i64 y0, .int .i64 y1] 24)) := (a68ab.trans (hb7.mono a68ab.size)).alloc (a68ab.trans (hb7.mono a68ab.size)).size _
        have l78ab : w68ab.heap.size < w78ab.heap.size := A78ab.lt
        have l7b8ab : w5.heap.size < w78ab.heap.size := bt78ab.lt
        have l7s8ab : sB < w78ab.heap.size := bs78ab.lt
        have n78ab : w68ab.heap.size ≠ w78ab.heap.size := by omega
        have ac0 := A78ab.1
        have ac1 := A78ab.2.1
        have bs7a8ab := bs78ab.alloc (.cells #[.int .i64 y0, .int .i64 y1] 24)
        have bt7a8ab := bt78ab.alloc (.cells #[.int .i64 y0, .int .i64 y1] 24)
        clear hb7 tc0 tc1 SU68ab SB68ab bs68ab bt68ab A68ab a68ab bs6a8ab bt6a8ab
        by_cases es28ab : s2 = 0
        · have hI : y2 = 0 ∧ s0 ≤ y0 ∧ y1 ≤ s1 := by rcases NS2.out with h | h; exact absurd es28ab h; exact h
          obtain ⟨hI0, hI1, hI2⟩ := hI
          have hv0 : (s2 == 0) = true := by simpa using es28ab
          have hz0 : (y2 != 0) = false := by simpa using hI0
          clear es28ab hI0
          go_wp2_with fail
          go_at_call 19
          refine (pyWithin_true y0 y1 s0 s1 _ hI1 hI2).mono ?_
          rintro e w88ab ⟨rfl, hb8⟩
          have SU88ab := SU78ab.keep hb8
          have SB88ab := SB78ab.keep hb8
          have bs88ab := bs7a8ab.keep hb8
          have bt88ab := bt7a8ab.keep hb8
          have a88ab := a78ab.trans (hb8.mono a78ab.size)
          clear hb8 ac0 ac1
          go_wp2
          rw [rounds_succ]
          go_wp2
          go_ret
          exact ⟨rfl, a88ab⟩
        · have hv0 : (s2 == 0) = false := by simpa using es28ab
          go_wp2
          rw [rounds_succ]
          go_wp2
          go_ret
          exact ⟨rfl, a78ab⟩
      · have hv0 : (v2 == 0) = false := by simpa using ev2a
        have q0 := bs7aa.1
        have q1 := bs7aa.2.1
        go_wp2
        rw [rounds_succ]
        go_wp2_with fail
        go_at_call 15
        refine (polySlope_eq SU7a es.out).mono ?_
        rintro e w67ab ⟨rfl, hb6⟩
        have SU67ab := (SU7a.keep hb6).keep ((Below.refl _ _).alloc (Nat.le_refl _) (.cells #[.int .i64 s0, .int .i64 s1] 24))
        have SB67ab := (SB7a.keep hb6).keep ((Below.refl _ _).alloc (Nat.le_refl _) (.cells #[.int .i64 s0, .int .i64 s1] 24))
        have bs67ab := bs7aa.keep hb6
        have bt67ab := bt7aa.keep hb6
        have A67ab := B2F.new w67ab s0 s1 24
        have a67ab : Below w.heap.size w (w67ab.alloc (.cells #[.int .i64 s0, .int .i64 s1] 24)) := (a7a.trans (hb6.mono a7a.size)).alloc (a7a.trans (hb6.mono a7a.size)).size _
        have l67ab : w5.heap.size < w67ab.heap.size := bt67ab.lt
        have ls67ab : sB < w67ab.heap.size := bs67ab.lt
        have tc0 := bt67ab.1
        have tc1 := bt67ab.2.1
        have bs6a7ab := bs67ab.alloc (.cells #[.int .i64 s0, .int .i64 s1] 24)
        have bt6a7ab := bt67ab.alloc (.cells #[.int .i64 s0, .int .i64 s1] 24)
        clear hb6
        go_wp2_with fail
        go_at_call 15
        refine (polySlope_eq SB67ab ey.out).mono ?_
        rintro e w77ab ⟨rfl, hb7⟩
        have SU77ab := (SU67ab.keep hb7).keep ((Below.refl _ _).alloc (Nat.le_refl _) (.cells #[.int .i64 y0, .int .i64 y1] 24))
        have SB77ab := (SB67ab.keep hb7).keep ((Below.refl _ _).alloc (Nat.le_refl _) (.cells #[.int .i64 y0, .int .i64 y1] 24))
        have bs77ab := bs6a7ab.keep hb7
        have bt77ab := bt6a7ab.keep hb7
        have A77ab := A67ab.keep hb7
        have a77ab : Below w.heap.size w (w77ab.alloc (.cells #[.int .i64 y0, .int .i64 y1] 24)) := (a67ab.trans (hb7.mono a67ab.size)).alloc (a67ab.trans (hb7.mono a67ab.size)).size _
        have l77ab : w67ab.heap.size < w77ab.heap.size := A77ab.lt
        have l7b7ab : w5.heap.size < w77ab.heap.size := bt77ab.lt
        have l7s7ab : sB < w77ab.heap.size := bs77ab.lt
        have n77ab : w67ab.heap.size ≠ w77ab.heap.size := by omega
        have ac0 := A77ab.1
        have ac1 := A77ab.2.1
        have bs7a7ab := bs77ab.alloc (.cells #[.int .i64 y0, .int .i64 y1] 24)
        have bt7a7ab := bt77ab.alloc (.cells #[.int .i64 y0, .int .i64 y1] 24)
        clear hb7 tc0 tc1 SU67ab SB67ab bs67ab bt67ab A67ab a67ab bs6a7ab bt6a7ab
        by_cases es27ab : s2 = 0
        · have hI : y2 = 0 ∧ s0 ≤ y0 ∧ y1 ≤ s1 := by rcases NS2.out with h | h; exact absurd es27ab h; exact h
          obtain ⟨hI0, hI1, hI2⟩ := hI
          have hv0 : (s2 == 0) = true := by simpa using es27ab
          have hz0 : (y2 != 0) = false := by simpa using hI0
          clear es27ab hI0
          go_wp2_with fail
          go_at_call 19
          refine (pyWithin_true y0 y1 s0 s1 _ hI1 hI2).mono ?_
          rintro e w87ab ⟨rfl, hb8⟩
          have SU87ab := SU77ab.keep hb8
          have SB87ab := SB77ab.keep hb8
          have bs87ab := bs7a7ab.keep hb8
          have bt87ab := bt7a7ab.keep hb8
          have a87ab := a77ab.trans (hb8.mono a77ab.size)
          clear hb8 ac0 ac1
          go_wp2
          rw [rounds_succ]
          go_wp2
          go_ret
          exact ⟨rfl, a87ab⟩
        · have hv0 : (s2 == 0) = false := by simpa using es27ab
          go_wp2
          rw [rounds_succ]
          go_wp2
          go_ret
          exact ⟨rfl, a77ab⟩

end Go.Proofs.Ytdaignklmbmcnaa
