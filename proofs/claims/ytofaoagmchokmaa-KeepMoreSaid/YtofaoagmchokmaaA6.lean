/- Walk of wakes. -/
import Derived.Test.YtofaoagmchokmaaA4
namespace Go.Proofs.Ytofaoagmchokmaa
open Go.RowKit

theorem rt_w0 : Rt [] 5 3 := ⟨by omega, by omega, by omega, by omega, by simp, by simp, fun i hi => absurd hi (Nat.not_lt_zero _)⟩
theorem rt_w1 : Rt [(5, 9)] 6 3 := ⟨by omega, by omega, by omega, by omega, by simp, by simp, fun i hi => by
  have : i = 0 := by simp at hi; omega
  subst this
  exact ⟨by simp [kz], by simp [kz, isV]⟩⟩
theorem rt_w2 : ¬ Rt [] 0 1 := fun h => by have := h.1; omega
theorem push_w (w : World) : Calls Try.prog 7 #[.slice none 0 0, .int .i64 5, .int .i64 3, .int .i64 9] w fun e w' => ∃ q c, e = .returned (.tuple #[.slice q 1 c, .int .i64 0]) ∧ KL w' (.slice q 1 c) [(5, 9)] ∧ Below w.heap.size w w' := by
  refine (push_ok [] 5 3 9 _ w (KL.nil w) rt_w0 ⟨by omega, by omega⟩ (by omega)).mono ?_
  rintro e w' ⟨v, rfl, hk, hb⟩
  have hk : KL w' v [(5, 9)] := hk
  obtain ⟨q, c, rfl⟩ := kl_form hk
  exact ⟨q, c, rfl, hk, hb⟩
theorem again_w (v : Value) (w : World) (h : KL w v [(5, 9)]) : Calls Try.prog 8 #[v, .int .i64 6, .int .i64 3, .int .i64 3] w fun e w' => ∃ q c, e = .returned (.tuple #[.int .i64 4, .slice q 1 c, .int .i64 0]) ∧ KL w' (.slice q 1 c) [(5, 9)] ∧ Below w.heap.size w w' := by
  refine (again_ok [(5, 9)] 6 3 3 v w h rt_w1 (by omega) (by omega)).mono ?_
  rintro e w' ⟨v, rfl, hk, hb⟩
  have hk : KL w' v [(5, 9)] := hk
  obtain ⟨q, c, rfl⟩ := kl_form hk
  exact ⟨q, c, rfl, hk, hb⟩
set_option maxHeartbeats 1000000 in
set_option maxRecDepth 100000 in
theorem wakes_any (w : World) : Calls Try.prog 12 #[] w fun e w' => e = .returned (.bool true) ∧ Below w.heap.size w w' := by
  have PW := hide (push_w w)
  go_enter Try.func12, Try.ntmps12
  have m1 := trivial
  go_wp2_with (first
    | (go_at_call 7; refine (unhide PW).mono ?_; rintro e w1 ⟨q1, c1, rfl, k1, b1⟩; have K1 := hide k1; have B1 := hide b1; clear k1 b1)
    | (go_at_call 8; refine (again_w _ _ (unhide K1)).mono ?_; rintro e w2 ⟨q2, c2, rfl, k2, b2⟩; have K2 := hide k2; have K3 := hide ((unhide K1).below b2 (Nat.le_refl _)); have B2 := hide (below_of (unhide B1) b2); have S2 := hide b2.size; clear k2 b2)
    | (clear m1; go_at_call 9; refine (items_same [(5, 9)] _ _ _ ((unhide K3).below ((Below.refl _ _).alloc (Nat.le_refl _) _) (Nat.le_refl _)) (kl_lit _ _ _ _ rfl)).mono ?_; rintro e w3 ⟨rfl, b3⟩; have K4 := hide (((unhide K2).below ((Below.refl _ _).alloc (Nat.le_refl _) _) (Nat.le_refl _)).below b3 (Nat.le_refl _)); have K5 := hide (((unhide K3).below ((Below.refl _ _).alloc (Nat.le_refl _) _) (Nat.le_refl _)).below b3 (Nat.le_refl _)); have B3 := hide (below_of (below_alloc (unhide B2) _) b3); clear b3)
    | (go_at_call 9; refine (items_same [(5, 9)] _ _ _ (unhide K4) (unhide K5)).mono ?_; rintro e w4 ⟨rfl, b4⟩; have B4 := hide (below_of (unhide B3) b4); clear b4)
    | (go_at_call 11; refine (check_no [] 0 1 _ _ (KL.nil _) rt_w2).mono ?_; rintro e w5 ⟨rfl, b5⟩; have B5 := hide (below_of (unhide B4) b5); clear b5))
  go_ret
  exact ⟨rfl, unhide B5⟩
end Go.Proofs.Ytofaoagmchokmaa
