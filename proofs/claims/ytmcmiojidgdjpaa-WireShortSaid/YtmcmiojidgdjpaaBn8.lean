/- Walk of msg.limits, some kinds. -/
import Derived.Test.YtmcmiojidgdjpaaBn4
namespace Go.Proofs.Ytmcmiojidgdjpaa
open Go.RowKit

set_option maxRecDepth 100000 in
set_option maxHeartbeats 1000000 in
theorem limits_1 (m : Mg) (p t : Value) (w : World) (hk : m.kd = 1) :
    Calls Try.prog 57 #[mv m p t] w fun e w' => e = .returned (.tuple #[mv (lo m) (.slice none 0 0) (.slice none 0 0), mv (hi m) (.slice none 0 0) (.slice none 0 0)]) ∧ Below w.heap.size w w' := by
  obtain ⟨kd, fr, fi, tw, ti, tp, ep, sq, la, va, no, ic, ct, hp⟩ := m
  dsimp only at hk
  subst hk
  have e1 : lo ⟨1, fr, fi, tw, ti, tp, ep, sq, la, va, no, ic, ct, hp⟩ = ⟨1, 0, 1, 0, 0, 0, 0, 0, 0, 0, 0, 0, 0, 0⟩ := by simp [lo]
  have e2 : hi ⟨1, fr, fi, tw, ti, tp, ep, sq, la, va, no, ic, ct, hp⟩ = ⟨13, 7, 1073741824, 7, 0, 0, 0, 0, 0, 0, 0, 0, 0, 0⟩ := by simp [hi]
  rw [e1, e2]
  clear e1 e2
  unfold mv
  go_enter Try.func57, Try.ntmps57
  go_upto_region 2 with (first
    | (refine wpList_built rfl 24 _ rfl _ _ rfl built_lo ?_)
    | (refine wpList_store_mid rfl (.tmp 2) (.tmp 4) rfl _ _ _ rfl rfl (by simp) _ rfl rfl (by simp [Value.oneCell']) ?_))
  go_upto_region 3 with (first
    | (refine wpList_built rfl 24 _ rfl _ _ rfl built_hi ?_)
    | (refine wpList_store_last rfl (.tmp 3) (.tmp 5) rfl _ _ rfl rfl (by simp) _ rfl rfl (by simp [Value.oneCell']) ?_))
  go_wp2
  refine region_same _ _ _ _ _ _ _ _ _ _ _ rfl rfl rfl rfl rfl rfl (heap3_mid _ _ _ _) (heap3_new _ _ _ _) rfl rfl (by simp [Value.oneCell']) (by simp [Value.oneCell']) ?_
  go_wp2
  (try simp only [Exit.inBlock, Exit.then])
  exact ret_rows 2 3 rfl _ _ _ _ rfl rfl (heap3_mid_d _ _ _ _) (heap3_new_d _ _ _ _) rfl rfl rfl ⟨rfl, (below3 _ _ _ _).drew⟩
set_option maxRecDepth 100000 in
set_option maxHeartbeats 1000000 in
theorem limits_2 (m : Mg) (p t : Value) (w : World) (hk : m.kd = 2) :
    Calls Try.prog 57 #[mv m p t] w fun e w' => e = .returned (.tuple #[mv (lo m) (.slice none 0 0) (.slice none 0 0), mv (hi m) (.slice none 0 0) (.slice none 0 0)]) ∧ Below w.heap.size w w' := by
  obtain ⟨kd, fr, fi, tw, ti, tp, ep, sq, la, va, no, ic, ct, hp⟩ := m
  dsimp only at hk
  subst hk
  have e1 : lo ⟨2, fr, fi, tw, ti, tp, ep, sq, la, va, no, ic, ct, hp⟩ = ⟨1, 0, 1, 0, 1, 0, 0, 0, 0, 0, 0, 0, 0, 0⟩ := by simp [lo]
  have e2 : hi ⟨2, fr, fi, tw, ti, tp, ep, sq, la, va, no, ic, ct, hp⟩ = ⟨13, 7, 1073741824, 7, 1073741824, 3, 1073741824, 0, 0, 0, 0, 0, 0, 0⟩ := by simp [hi]
  rw [e1, e2]
  clear e1 e2
  unfold mv
  go_enter Try.func57, Try.ntmps57
  go_upto_region 2 with (first
    | (refine wpList_built rfl 24 _ rfl _ _ rfl built_lo ?_)
    | (refine wpList_store_mid rfl (.tmp 2) (.tmp 4) rfl _ _ _ rfl rfl (by simp) _ rfl rfl (by simp [Value.oneCell']) ?_))
  go_upto_region 3 with (first
    | (refine wpList_built rfl 24 _ rfl _ _ rfl built_hi ?_)
    | (refine wpList_store_last rfl (.tmp 3) (.tmp 5) rfl _ _ rfl rfl (by simp) _ rfl rfl (by simp [Value.oneCell']) ?_))
  go_wp2
  refine region_same _ _ _ _ _ _ _ _ _ _ _ rfl rfl rfl rfl rfl rfl (heap3_mid _ _ _ _) (heap3_new _ _ _ _) rfl rfl (by simp [Value.oneCell']) (by simp [Value.oneCell']) ?_
  go_wp2
  (try simp only [Exit.inBlock, Exit.then])
  exact ret_rows 2 3 rfl _ _ _ _ rfl rfl (heap3_mid_d _ _ _ _) (heap3_new_d _ _ _ _) rfl rfl rfl ⟨rfl, (below3 _ _ _ _).drew⟩
set_option maxRecDepth 100000 in
set_option maxHeartbeats 1000000 in
theorem limits_3 (m : Mg) (p t : Value) (w : World) (hk : m.kd = 3) :
    Calls Try.prog 57 #[mv m p t] w fun e w' => e = .returned (.tuple #[mv (lo m) (.slice none 0 0) (.slice none 0 0), mv (hi m) (.slice none 0 0) (.slice none 0 0)]) ∧ Below w.heap.size w w' := by
  obtain ⟨kd, fr, fi, tw, ti, tp, ep, sq, la, va, no, ic, ct, hp⟩ := m
  dsimp only at hk
  subst hk
  have e1 : lo ⟨3, fr, fi, tw, ti, tp, ep, sq, la, va, no, ic, ct, hp⟩ = ⟨1, 0, 1, 0, 1, 0, 0, 1, 0, 0, 0, 0, 0, 0⟩ := by simp [lo]
  have e2 : hi ⟨3, fr, fi, tw, ti, tp, ep, sq, la, va, no, ic, ct, hp⟩ = ⟨13, 7, 1073741824, 7, 1073741824, 3, 1073741824, 1073741824, 1073741824, 0, 0, 0, 0, 0⟩ := by simp [hi]
  rw [e1, e2]
  clear e1 e2
  unfold mv
  go_enter Try.func57, Try.ntmps57
  go_upto_region 2 with (first
    | (refine wpList_built rfl 24 _ rfl _ _ rfl built_lo ?_)
    | (refine wpList_store_mid rfl (.tmp 2) (.tmp 4) rfl _ _ _ rfl rfl (by simp) _ rfl rfl (by simp [Value.oneCell']) ?_))
  go_upto_region 3 with (first
    | (refine wpList_built rfl 24 _ rfl _ _ rfl built_hi ?_)
    | (refine wpList_store_last rfl (.tmp 3) (.tmp 5) rfl _ _ rfl rfl (by simp) _ rfl rfl (by simp [Value.oneCell']) ?_))
  go_wp2
  refine region_same _ _ _ _ _ _ _ _ _ _ _ rfl rfl rfl rfl rfl rfl (heap3_mid _ _ _ _) (heap3_new _ _ _ _) rfl rfl (by simp [Value.oneCell']) (by simp [Value.oneCell']) ?_
  go_wp2
  (try simp only [Exit.inBlock, Exit.then])
  exact ret_rows 2 3 rfl _ _ _ _ rfl rfl (heap3_mid_d _ _ _ _) (heap3_new_d _ _ _ _) rfl rfl rfl ⟨rfl, (below3 _ _ _ _).drew⟩
end Go.Proofs.Ytmcmiojidgdjpaa
