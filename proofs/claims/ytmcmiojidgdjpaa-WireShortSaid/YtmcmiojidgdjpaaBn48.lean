/- Walk of Good, some kinds. -/
import Derived.Test.YtmcmiojidgdjpaaBn20
namespace Go.Proofs.Ytmcmiojidgdjpaa
open Go.RowKit

theorem sl_one (w : World) (a : Int) (g : Nat) (hg : g = w.heap.size) : Sl .i64 (w.alloc (.cells #[.int .i64 a] 3)) (.slice (some ⟨g, 0, none⟩) 1 1) 1 (lF [a]) := by
  subst hg
  exact sl_lit .i64 w [a] 3 1 rfl (by unfold maxLen; omega)
theorem sl_two (w : World) (a b : Int) (g : Nat) (hg : g = w.heap.size) : Sl .i64 (w.alloc (.cells #[.int .i64 a, .int .i64 b] 3)) (.slice (some ⟨g, 0, none⟩) 2 2) 2 (lF [a, b]) := by
  subst hg
  exact sl_lit .i64 w [a, b] 3 2 rfl (by unfold maxLen; omega)
set_option maxRecDepth 100000 in
set_option maxHeartbeats 1000000 in
theorem good_3 (kind n v : Int) (N V : Nat) (w : World) (hN : wrap64 ((IntKind.u64.wrap n).tmod 1000) = N) (hV : wrap64 ((IntKind.u64.wrap v).tmod 1000) = V) (lN : N < 1000) (lV : V < 1000) (hk : wrap64 ((IntKind.u64.wrap kind).tmod 13) = 2) :
    Calls Try.prog 18 #[.int .i64 kind, .int .i64 n, .int .i64 v] w fun e w' => ∃ p t, e = .returned (mv (gd 3 N V) p t) ∧ Sl .i64 w' p (gp 3 N).length (lF (gp 3 N)) ∧ Sl .i64 w' t (gt 3 N).length (lF (gt 3 N)) ∧ Below w.heap.size w w' := by
  go_enter Try.func18, Try.ntmps18
  go_upto_region 4 with (first
    | (refine wpList_store_last rfl (.tmp 7) (.tmp 32) rfl _ _ rfl rfl (by simp) _ rfl rfl (by simp [Value.oneCell']) ?_))
  go_upto_region 26 with (fail)
  go_wp2_with (first
    | (refine wpList_load24 (.tmp 7) rfl rfl (w.heap.size + 1) _ rfl (heap3_mid _ _ _ _) rfl ?_)
    | (refine wpList_store_row rfl 24 (.tmp 6) (.tmp 156) rfl w.heap.size _ rfl rfl 24 _ (heap3_old _ _ _ _) info24 rfl (by simp [Value.oneCell']) ?_))
  refine ret_row 6 24 rfl _ _ _ _ rfl (setRow_heap _ _ _ _ _ _ (heap3_old _ _ _ _)) Try.underlying24 (.inl ⟨_, rfl⟩) info24 rfl ⟨_, _, rfl, ?_, ?_, ?_⟩
  · exact sl_setRow (sl_two _ _ _ _ (by simp)) (by intro b off cap e; simp at e; omega)
  · exact .inl ⟨rfl, .inl rfl⟩
  · exact below_setRow ((((Below.refl _ _).alloc (Nat.le_refl _) _).alloc (by simp) _).alloc (by simp; omega) _) (Nat.le_refl _)
set_option maxRecDepth 100000 in
set_option maxHeartbeats 1000000 in
theorem good_11 (kind n v : Int) (N V : Nat) (w : World) (hN : wrap64 ((IntKind.u64.wrap n).tmod 1000) = N) (hV : wrap64 ((IntKind.u64.wrap v).tmod 1000) = V) (lN : N < 1000) (lV : V < 1000) (hk : wrap64 ((IntKind.u64.wrap kind).tmod 13) = 10) :
    Calls Try.prog 18 #[.int .i64 kind, .int .i64 n, .int .i64 v] w fun e w' => ∃ p t, e = .returned (mv (gd 11 N V) p t) ∧ Sl .i64 w' p (gp 11 N).length (lF (gp 11 N)) ∧ Sl .i64 w' t (gt 11 N).length (lF (gt 11 N)) ∧ Below w.heap.size w w' := by
  go_enter Try.func18, Try.ntmps18
  go_upto_region 4 with (first
    | (refine wpList_store_last rfl (.tmp 7) (.tmp 32) rfl _ _ rfl rfl (by simp) _ rfl rfl (by simp [Value.oneCell']) ?_))
  go_upto_region 26 with (fail)
  go_wp2_with (first
    | (refine wpList_load24 (.tmp 7) rfl rfl (w.heap.size + 1) _ rfl (heap4_mid _ _ _ _ _) rfl ?_)
    | (refine wpList_store_row rfl 24 (.tmp 6) (.tmp 156) rfl w.heap.size _ rfl rfl 24 _ (heap4_old _ _ _ _ _) info24 rfl (by simp [Value.oneCell']) ?_))
  refine ret_row 6 24 rfl _ _ _ _ rfl (setRow_heap _ _ _ _ _ _ (heap4_old _ _ _ _ _)) Try.underlying24 (.inl ⟨_, rfl⟩) info24 rfl ⟨_, _, rfl, ?_, ?_, ?_⟩
  · exact sl_setRow ((sl_one _ _ _ (by simp)).below ((Below.refl _ _).alloc (Nat.le_refl _) _) (Nat.le_refl _)) (by intro b off cap e; simp at e; omega)
  · exact sl_setRow (sl_two _ _ _ _ (by simp)) (by intro b off cap e; simp at e; omega)
  · exact below_setRow (((((Below.refl _ _).alloc (Nat.le_refl _) _).alloc (by simp) _).alloc (by simp; omega) _).alloc (by simp; omega) _) (Nat.le_refl _)
end Go.Proofs.Ytmcmiojidgdjpaa
