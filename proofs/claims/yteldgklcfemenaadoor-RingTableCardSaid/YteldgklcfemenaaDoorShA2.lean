/- Walk of sha.mix. -/
import Derived.Test.YteldgklcfemenaaDoorShH
namespace Go.Proofs.YteldgklcfemenaaDoor.Sh
open Go.RowKit

theorem cell_arr {w : World} {n : Nat} {ws : Nat → Int} {t : Nat} (i : Nat) (h : i < n) : (w.alloc (.cells (arr n ws) t)).cell? ⟨w.heap.size, i, none⟩ = some (.int .u32 (ws i)) := by
  simp [go_sem, arr_get n ws i h]

set_option maxRecDepth 100000 in
theorem mix_any (s : S8) (ws kk : Nat → Int) (w : World) (hK : ∀ i : Nat, i < 64 → w.cell? ⟨3, i, none⟩ = some (.int .u32 (kk i))) (hsz : 3 < w.heap.size) :
    Calls Tryd.prog 33 #[.agg s.vals, .agg (arr 64 ws)] w fun e w' => e = .returned (.agg (s.mix kk ws).vals) ∧ Below w.heap.size w w' := by
  unfold S8.vals
  go_enter Tryd.func33, Tryd.ntmps33
  go_wp2
  go_quiet (fail)
  go_wp2
  go_loopw [5, 6, 7, 8, 9, 10, 11, 12, 32] (fun xa xb xc xd xe xf xg xh xi w1 => ∃ k : Nat, k ≤ 64 ∧ xi = .int .i64 k ∧ xa = .int .u32 (S8.run kk ws s k).a ∧ xb = .int .u32 (S8.run kk ws s k).b ∧ xc = .int .u32 (S8.run kk ws s k).c ∧ xd = .int .u32 (S8.run kk ws s k).d ∧ xe = .int .u32 (S8.run kk ws s k).e ∧ xf = .int .u32 (S8.run kk ws s k).f ∧ xg = .int .u32 (S8.run kk ws s k).g ∧ xh = .int .u32 (S8.run kk ws s k).h ∧ ∃ n, w1 = World.drewN (((w.alloc (.cells #[.int .u32 s.a, .int .u32 s.b, .int .u32 s.c, .int .u32 s.d, .int .u32 s.e, .int .u32 s.f, .int .u32 s.g, .int .u32 s.h] 47)).alloc (.cells (arr 64 ws) 52)).alloc (.cells #[.int .u32 0, .int .u32 0, .int .u32 0, .int .u32 0, .int .u32 0, .int .u32 0, .int .u32 0, .int .u32 0] 47)) n) (fun _ _ _ _ _ _ _ _ i _ => 64 - (intOf i).toNat)
  case atStart => 
    exact ⟨0, by omega, rfl, rfl, rfl, rfl, rfl, rfl, rfl, rfl, rfl, _, rfl⟩
  case round => 
    obtain ⟨k, hk, rfl, rfl, rfl, rfl, rfl, rfl, rfl, rfl, rfl, n, hW⟩ := hrel
    by_cases hlt : k < 64
    · have hKk : wr.cell? ⟨3, k, none⟩ = some (.int .u32 (kk k)) := by
        have := hK k hlt
        rw [hW]; simp [go_sem, World.cell?_alloc_past, hsz, this, Nat.lt_succ_of_lt hsz]
      have hwk : wr.cell? ⟨w.heap.size + 1, k, none⟩ = some (.int .u32 (ws k)) := by
        rw [hW]; simp [go_sem, World.cell?_alloc_past, hlt, arr_get]
      have HW := hide hW
      clear hW hK
      go_wp2
      go_quiet ((go_at_call 35; exact Calls.quiet_of_same (turned_any _ _ (by omega) (by omega) _)))
      go_wp2_with (go_at_call 35; refine (turned_any _ _ (by omega) (by omega) _).mono ?_; rintro e w' ⟨rfl, rfl⟩)
      go_roundw
      case rel => 
        exact ⟨k + 1, by omega, by go_num, rfl, rfl, rfl, rfl, rfl, rfl, rfl, rfl, n + nq, by rw [unhide HW, World.drewN_drewN]⟩
      case measure => simp [intOf]; omega
    · have hk' : k = 64 := by omega
      subst hk'
      subst hW
      generalize hr : S8.run kk ws s 64 = r
      have HR := hide hr
      clear hr
      go_wp2
      refine bodyPost_ret (v := .agg (s.add r).vals) (by simp [results, Tryd.results33, go_sem, S8.vals, S8.add]) rfl ⟨?_, ?_⟩
      · show Ending.returned (.agg (s.add r).vals) = Ending.returned (.agg (S8.mix kk ws s).vals)
        rw [S8.mix, unhide HR]
      · iterate 8 (refine Below.setCell ?_ (by show w.heap.size ≤ w.heap.size + 1 + 1; omega) _)
        exact below_drewN ((((Below.refl _ _).alloc (Nat.le_refl _) _).alloc (by simp) _).alloc (by simp; omega) _) _
end Go.Proofs.YteldgklcfemenaaDoor.Sh
