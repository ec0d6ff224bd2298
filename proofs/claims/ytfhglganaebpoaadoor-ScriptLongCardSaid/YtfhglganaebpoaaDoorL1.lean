/- Zeros behind a full slice of bytes; rows of bytes. -/
import Derived.Test.YtfhglganaebpoaaDoorS1
import Derived.Lib.AppendZerosOnto
namespace Go.Proofs.YtfhglganaebpoaaDoor
open Go.RowKit

theorem row1_of_owns {w : World} {B n g : Nat} {xs : List Value} (h : w.ownsRow B 5 1 (.slice (some ⟨g, 0, none⟩) n n) n xs) : w.rowIs g 5 n (fun j => xs.getD j undef) := by
  obtain ⟨hl, h⟩ := h
  rcases h with ⟨h, _⟩ | ⟨g', cap, cur, he, hb, hg, hc, hm, hs, ht⟩
  · cases h
  · cases he
    rw [Nat.mul_one] at hs ht
    refine ⟨cur, hg, hs, fun i hi => ?_⟩
    rw [List.take_of_length_le (by simp [hs])] at ht
    subst ht
    simp [List.getD, show i < cur.size by omega]
theorem sl_of_row1 {w : World} {n g : Nat} {f : Nat → Value} {F : Nat → Int} (h : w.rowIs g 5 n f) (hf : ∀ j, j < n → f j = .int .u8 (F j)) (hn : n ≤ maxLen) : Sl .u8 w (.slice (some ⟨g, 0, none⟩) n n) n F :=
  .inr ⟨g, 0, n, rfl, Nat.le_refl _, hn, h.lt, fun i hi => by rw [Nat.zero_add, h.cell hi, hf i hi]⟩
set_option maxRecDepth 100000 in
theorem zeros_onto (g n k : Nat) (F : Nat → Int) (w : World) (h : Sl .u8 w (.slice (some ⟨g, 0, none⟩) n n) n F) (h0 : 0 < n) (hn : n ≤ 4000) (hk0 : 0 < k) (hk : k ≤ 20) :
    ∃ G W', (∀ ty, (Builtin.append_ #[24, 3] ty #[.slice (some ⟨g, 0, none⟩) n n, .int .i64 (k : Int)]).run Tryd.prog w = .ok (.slice (some ⟨w.heap.size, 0, none⟩) (n + k) G) W') ∧ Below w.heap.size w W' := by
  obtain ⟨i0, hi, hz0, hz1, hz2⟩ := info_parts info5
  obtain ⟨b, off, he, _, hc⟩ := h.some h0
  cases he
  have hold : (Builtin.firstCells i0.size n (.slice (some ⟨g, 0, none⟩) n n)).run Tryd.prog w.drew = .ok (vL .u8 F n).toArray w.drew := by
    rw [hz1]
    refine run_firstCells_some w.drew 1 n _ n n (vL .u8 F n) (by rw [vL_length]; omega) fun j v hv => ?_
    have hj : j < n := by have := (List.getElem?_eq_some_iff.1 hv).1; rwa [vL_length] at this
    rw [vL_get _ _ _ _ hj] at hv
    rw [Addr.add_lit, World.cell?_drew, hc j hj, hv]
  exact ⟨_, _, fun ty => Lib.run_append_grow_zeros w 24 3 ty 5 i0 _ .i64 .i64 Tryd.underlying24 Tryd.underlying3 hi hz0 _ n n _ hold k hk0 (by omega) (by omega) (by omega) (by rw [hz2]; omega) (growslice_fits (by omega) (by rw [hz2]; omega)), below_alloc (below_drewN (Below.refl w.heap.size w) 1) _⟩
end Go.Proofs.YtfhglganaebpoaaDoor
