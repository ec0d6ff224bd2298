/- Walk of sha.bytesOf. -/
import Derived.Test.YteldgklcfemenaaDoorShA4
namespace Go.Proofs.YteldgklcfemenaaDoor.Sh
open Go.RowKit
theorem info5 : (Tryd.prog.info? 5).map (fun i => (i.zero, i.size, i.bytes)) = some (some (.int .u8 0), 1, 1) := by kernel_rfl

theorem cells_lit (w : World) (L : List Value) (t : TypeId) : ∀ j u, L[j]? = some u → (w.alloc (.cells L.toArray t)).cell? ((⟨w.heap.size, 0, none⟩ : Addr).add j) = some u := by
  intro j u h
  rw [Addr.add_lit]
  simp [go_sem, h]
theorem idx34 (s : S8) (k : Nat) (hk : k < 8) (w : World) : (Instr.index 47 (.agg s.vals) (.int .i64 (k : Int))).run Tryd.prog w = .ok (.int .u32 (s.nth k)) w := by
  have h1 : (0 : Int) ≤ k ∧ (k : Int) < 8 := by omega
  have hv := S8.vals_get s k hk
  have hz : (isAgg 46).run Tryd.prog w = .ok false w := by
    unfold isAgg; rw [Sem.run_bind, run_underlying Tryd.underlying46 w]; rfl
  have hs : (sizeOf 46).run Tryd.prog w = .ok 1 w := by kernel_rfl
  unfold Instr.index
  simp only [Sem.run_bind, asIntOf, Sem.run_pure, Result.andThen_ok, run_underlying Tryd.underlying47 w]
  simp only [part]
  simp [h1, hv, hs, Sem.run_bind]
set_option maxRecDepth 100000 in
theorem bytesOf_any (s : S8) (w : World) :
    Calls Tryd.prog 32 #[.agg s.vals] w fun e w' => e = .returned (.slice (some ⟨w.heap.size + 1, 0, none⟩) 32 32) ∧ w'.ownsRow w.heap.size 5 1 (.slice (some ⟨w.heap.size + 1, 0, none⟩) 32 32) 32 (s.bytes 8) ∧ Below w.heap.size w w' := by
  obtain ⟨i, hi, hz0, hz1, hz2⟩ := info_parts info5
  go_enter Tryd.func32, Tryd.ntmps32
  go_wp2_with (at_make; refine wpList_make_own _ rfl _ _ 37 rfl w.heap.size 5 i (.int .u8 0) 1 Tryd.underlying37 hi hz0 hz1 .i64 .i64 32 32 rfl rfl rfl (by rw [hz2]; decide) (by decide) ?_ ?_)
  · simp
  · intro w1 hown hgrow
    have hst : Holds w1 w.heap.size s := (hgrow.block w.heap.size (by simp) (by simp)).trans (heap_alloc_new _ _)
    have hbel : Below w.heap.size w w1 := ((Below.refl _ _).alloc (Nat.le_refl _) _).grown hgrow (by simp) (by intro k h; cases h)
    have hsz : w.heap.size + 2 ≤ w1.heap.size := by
      have := (hown.lt (w.heap.size + 1) rfl).2; omega
    clear hgrow
    go_wp2_with (refine wpList_load_row rfl 47 (.tmp 1) rfl w.heap.size rfl 47 _ (0, 0) _ hst Tryd.underlying47 rfl (by rw [S8.vals_size]; exact size34) ?_)
    go_loopw [3, 8] (fun v xi w2 => ∃ k : Nat, k ≤ 8 ∧ xi = .int .i64 k ∧ v = .slice (some ⟨w.heap.size + 1, 0, none⟩) (4 * k) 32 ∧ w2.ownsRow w.heap.size 5 1 v (4 * k) (s.bytes k) ∧ w.heap.size + 2 ≤ w2.heap.size ∧ Below w.heap.size w w2) (fun _ i _ => 8 - (intOf i).toNat)
    case atStart => exact ⟨0, by omega, rfl, rfl, hown, hsz, hbel⟩
    case round =>
      clear hown hsz hbel hst
      obtain ⟨k, hk, rfl, rfl, hown, hsz, hbel⟩ := hrel
      by_cases hlt : k < 8
      · have hv := idx34 s k hlt
        go_wp2_with (at_builtin; refine wpList_append_fits _ rfl (.tmp 11) (.tmp 23) 37 rfl w.heap.size 5 i 1 Tryd.underlying37 hi hz1 (w.heap.size + 1) (4 * k) 32 (s.bytes k) rfl (hown.alloc _) ⟨wr.heap.size, 0, none⟩ 4 4 (four (s.nth k)) rfl rfl ?_ ?_ (by omega) ?_)
        · exact cells_lit wr (four (s.nth k)) 5
        · intro u hu
          simp [four] at hu
          rcases hu with rfl | rfl | rfl | rfl <;> rfl
        · intro w2 hown2 hgrow2
          go_wp2
          go_roundw
          case rel =>
            refine ⟨k + 1, by omega, by go_num, rfl, hown2, ?_, (hbel.alloc (by omega) _).grown hgrow2 (by simp; omega) (by intro k h; cases h; omega)⟩
            have := hgrow2.size; simp at this; omega
          case measure => simp [intOf]; omega
      · have : k = 8 := by omega
        subst this
        go_wp2
        go_ret
        exact ⟨rfl, hown, hbel⟩
end Go.Proofs.YteldgklcfemenaaDoor.Sh
