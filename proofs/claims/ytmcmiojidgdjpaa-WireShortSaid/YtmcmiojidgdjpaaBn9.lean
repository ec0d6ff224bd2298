/- Walk of msg.limits, some kinds. -/
import Derived.Test.YtmcmiojidgdjpaaBn4
namespace Go.Proofs.Ytmcmiojidgdjpaa
open Go.RowKit

set_option maxRecDepth 100000 in
set_option maxHeartbeats 1000000 in
theorem limits_9 (m : Mg) (p t : Value) (w : World) (hk : m.kd = 9) :
    Calls Try.prog 57 #[mv m p t] w fun e w' => e = .returned (.tuple #[mv (lo m) (.slice none 0 0) (.slice none 0 0), mv (hi m) (.slice none 0 0) (.slice none 0 0)]) ∧ Below w.heap.size w w' := by
  obtain ⟨kd, fr, fi, tw, ti, tp, ep, sq, la, va, no, ic, ct, hp⟩ := m
  dsimp only at hk
  subst hk
  have e1 : lo ⟨9, fr, fi, tw, ti, tp, ep, sq, la, va, no, ic, ct, hp⟩ = ⟨1, 0, 1, 0, 1, 0, 1, 1, sq, 0, 0, 0, 0, 0⟩ := by simp [lo]
  have e2 : hi ⟨9, fr, fi, tw, ti, tp, ep, sq, la, va, no, ic, ct, hp⟩ = ⟨13, 7, 1073741824, 7, 1073741824, 3, 1073741824, 1073741824, 1073741824, 0, 0, 0, 0, 0⟩ := by simp [hi]
  rw [e1, e2]
  clear e1 e2
  unfold mv
  go_enter Try.func57, Try.ntmps57
  go_upto_region 2 with (first
    | (refine wpList_built rfl 24 _ rfl _ _ rfl built_lo ?_)
    | (refine wpList_store_mid rfl (.tmp 2) (.tmp 4) rfl _ _ _ rfl rfl (by simp) _ rfl rfl (by simp [Value.oneCell']) ?_))
  go_upto_region 3 with (first
    | (refine wpList_built rfl 24 _ rfl _ _ rfl built_hi ?_)
    | (refine wpList_store_last rfl (.tmp 3) (.tmp 5) rfl _ _ rfl rfl (by simp) _ rfl rfl (by simp [Value.oneCell']) ?_))
  go_wp2
  go_region
  go_wp2
  refine region_same _ _ _ _ _ _ _ _ _ _ _ rfl rfl rfl rfl rfl rfl (heap3_mid_d _ _ _ _) (heap3_new_d _ _ _ _) rfl rfl (by simp [Value.oneCell']) (by simp [Value.oneCell']) ?_
  go_wp2
  (try simp only [Exit.inBlock, Exit.then])
  exact ret_rows 2 3 rfl _ _ _ _ rfl rfl (heap3_mid_dd _ _ _ _) (heap3_new_dd _ _ _ _) rfl rfl rfl ⟨rfl, (below3 _ _ _ _).drew.drew⟩
set_option maxRecDepth 100000 in
set_option maxHeartbeats 1000000 in
theorem limits_o (m : Mg) (p t : Value) (w : World) (h1 : m.kd ≠ 1) (h2 : m.kd ≠ 2) (h3 : m.kd ≠ 3) (h4 : m.kd ≠ 4) (h7 : m.kd ≠ 7) (h8 : m.kd ≠ 8) (h9 : m.kd ≠ 9) (h10 : m.kd ≠ 10) (h11 : m.kd ≠ 11) (h12 : m.kd ≠ 12) (h13 : m.kd ≠ 13) :
    Calls Try.prog 57 #[mv m p t] w fun e w' => e = .returned (.tuple #[mv (lo m) (.slice none 0 0) (.slice none 0 0), mv (hi m) (.slice none 0 0) (.slice none 0 0)]) ∧ Below w.heap.size w w' := by
  obtain ⟨kd, fr, fi, tw, ti, tp, ep, sq, la, va, no, ic, ct, hp⟩ := m
  dsimp only at h1 h2 h3 h4 h7 h8 h9 h10 h11 h12 h13
  have d2 : (kd == 2) = false := by simp [h2]
  have d3 : (kd == 3) = false := by simp [h3]
  have d4 : (kd == 4) = false := by simp [h4]
  have d7 : (kd == 7) = false := by simp [h7]
  have d8 : (kd == 8) = false := by simp [h8]
  have d9 : (kd == 9) = false := by simp [h9]
  have d10 : (kd == 10) = false := by simp [h10]
  have d11 : (kd == 11) = false := by simp [h11]
  have d12 : (kd == 12) = false := by simp [h12]
  have d13 : (kd == 13) = false := by simp [h13]
  have d1 : (kd != 1) = true := by simp [h1]
  have e1 : lo ⟨kd, fr, fi, tw, ti, tp, ep, sq, la, va, no, ic, ct, hp⟩ = ⟨1, 0, 1, 0, 1, 0, 0, 0, 0, 0, 0, 0, 0, 0⟩ := by simp only [lo, h1, h3, h7, h8, h9, h10, h11, h12, h13, or_self, if_false]
  have e2 : hi ⟨kd, fr, fi, tw, ti, tp, ep, sq, la, va, no, ic, ct, hp⟩ = ⟨13, 7, 1073741824, 7, 1073741824, 3, 0, 0, 0, 0, 0, 0, 0, 0⟩ := by simp only [hi, h1, h2, h3, h4, h7, h8, h9, h10, h11, h12, h13, or_self, if_false]
  rw [e1, e2]
  clear e1 e2 h1 h2 h3 h4 h7 h8 h9 h10 h11 h12 h13
  unfold mv
  go_enter Try.func57, Try.ntmps57
  go_upto_region 2 with (first
    | (refine wpList_built rfl 24 _ rfl _ _ rfl built_lo ?_)
    | (refine wpList_store_mid rfl (.tmp 2) (.tmp 4) rfl _ _ _ rfl rfl (by simp) _ rfl rfl (by simp [Value.oneCell']) ?_))
  go_upto_region 3 with (first
    | (refine wpList_built rfl 24 _ rfl _ _ rfl built_hi ?_)
    | (refine wpList_store_last rfl (.tmp 3) (.tmp 5) rfl _ _ rfl rfl (by simp) _ rfl rfl (by simp [Value.oneCell']) ?_))
  go_wp2
  refine region_same _ _ _ _ _ _ _ _ _ _ _ rfl rfl rfl rfl rfl rfl (heap3_mid _ _ _ _) (heap3_new _ _ _ _) rfl rfl (by simp [Value.oneCell']) (by simp [Value.oneCell']) ?_
  go_wp2
  (try simp only [Exit.inBlock, Exit.then])
  exact ret_rows 2 3 rfl _ _ _ _ rfl rfl (heap3_mid_d _ _ _ _) (heap3_new_d _ _ _ _) rfl rfl rfl ⟨rfl, (below3 _ _ _ _).drew⟩
end Go.Proofs.Ytmcmiojidgdjpaa
