/-
  Walks of package fix: the closures of ratio and div; signed.
-/
import Derived.Test.YtdaignklmbmcnaaFixF
import Derived.Deep.RegionWith
namespace Go.Proofs.Ytdaignklmbmcnaa
open Go.RowKit

theorem prod_lt (a b : Int) (a0 : 0 ≤ a) (a1 : a ≤ 18446744073709551615) (b0 : 0 ≤ b) (b1 : b ≤ 18446744073709551615) : 0 ≤ a * b ∧ a * b < 340282366920938463463374607431768211456 := by
  have h1 : 0 ≤ a * b := Int.mul_nonneg a0 b0
  have h2 : a * b ≤ 18446744073709551615 * 18446744073709551615 := Int.mul_le_mul a1 b1 b0 (by omega)
  omega

theorem ratio1_any (a b d : Int) (to : Bool) (bx : Nat) (w : World) (a0 : 0 ≤ a) (a1 : a ≤ 18446744073709551615) (b0 : 0 ≤ b) (b1 : b ≤ 18446744073709551615)
    (d0 : 1 ≤ d) (d1 : d ≤ 9223372036854775807) (hbx : w.cell? ⟨bx, 0, none⟩ = some (.int .i64 d)) :
    Calls Try.prog 77 #[.int .u64 a, .int .u64 b, .bool to, .pointer (some ⟨bx, 0, none⟩)] w fun e w' =>
      e = .returned (.agg #[.int .u64 (hi64 (rdiv to (a * b) d)), .int .u64 (lo64 (rdiv to (a * b) d))]) ∧ Below w.heap.size w w' := by
  obtain ⟨p0, p1⟩ := prod_lt a b a0 a1 b0 b1
  have hlt := World.block_lt_of_cell? w _ hbx
  simp at hlt
  have hd : IntKind.u64.wrap d = d := wrap_in d (by omega) (by omega)
  go_enter Try.func77, Try.ntmps77
  go_wp2
  go_region_held3 (fun w' => w'.cell? ⟨bx, 0, none⟩ = some (.int .i64 d))
    ((first | assumption | exact bkeep (w := w) (by (repeat (first | with_reducible exact Below.refl _ _ | with_reducible assumption | refine Below.alloc ?_ (by (try simp); try omega) _ | refine Below.setCell ?_ (by (try simp); try omega) _ | refine below_drewN ?_ _ | refine Below.drew ?_ | (with_reducible refine Below.trans ?_ (Below.mono (by assumption) (by (try simp); try omega)))))) hbx))
    (first | (go_at_call 78; refine (product_any a b _ a0 a1 b0 b1).mono ?_; rintro e w1 ⟨rfl, hb1⟩; obtain ⟨hc1, hf1⟩ := bcell hb1; have hz1 : w.heap.size < w1.heap.size := by (have := hb1.size; (try simp at this); omega)) | (go_at_call 79; refine (over_any (a * b) d to _ p0 p1 (by omega) (by omega)).mono ?_; rintro e w2 ⟨rfl, hb2⟩; obtain ⟨hc2, hf2⟩ := bcell hb2; have hz2 : w.heap.size < w2.heap.size := by (have := hb2.size; (try simp at this); omega)))
  go_wp2
  exact bodyPost_ret (v := .agg #[.int .u64 (hi64 (rdiv to (a * b) d)), .int .u64 (lo64 (rdiv to (a * b) d))]) (by simp [results, Try.results77, go_sem, hc2, hc1, hz1]) rfl ⟨rfl, by (repeat (first | with_reducible exact Below.refl _ _ | with_reducible assumption | refine Below.alloc ?_ (by (try simp); try omega) _ | refine Below.setCell ?_ (by (try simp); try omega) _ | refine below_drewN ?_ _ | refine Below.drew ?_ | (with_reducible refine Below.trans ?_ (Below.mono (by assumption) (by (try simp); try omega)))))⟩

end Go.Proofs.Ytdaignklmbmcnaa
