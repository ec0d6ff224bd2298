/- Walk of Good, some kinds. -/
import Derived.Test.YtmcmiojidgdjpaaBn20
namespace Go.Proofs.Ytmcmiojidgdjpaa
open Go.RowKit

set_option maxRecDepth 100000 in
set_option maxHeartbeats 1000000 in
theorem good_1 (kind n v : Int) (N V : Nat) (w : World) (hN : wrap64 ((IntKind.u64.wrap n).tmod 1000) = N) (hV : wrap64 ((IntKind.u64.wrap v).tmod 1000) = V) (lN : N < 1000) (lV : V < 1000) (hk : wrap64 ((IntKind.u64.wrap kind).tmod 13) = 0) :
    Calls Try.prog 18 #[.int .i64 kind, .int .i64 n, .int .i64 v] w fun e w' => ∃ p t, e = .returned (mv (gd 1 N V) p t) ∧ Sl .i64 w' p (gp 1 N).length (lF (gp 1 N)) ∧ Sl .i64 w' t (gt 1 N).length (lF (gt 1 N)) ∧ Below w.heap.size w w' := by
  go_enter Try.func18, Try.ntmps18
  go_upto_region 4 with (first
    | (refine wpList_store_last rfl (.tmp 7) (.tmp 32) rfl _ _ rfl rfl (by simp) _ rfl rfl (by simp [Value.oneCell']) ?_))
  go_upto_region 26 with (fail)
  go_wp2_with (first
    | (refine wpList_load24 (.tmp 7) rfl rfl (w.heap.size + 1) _ rfl (heap_alloc2_new _ _ _) rfl ?_)
    | (refine wpList_store_row rfl 24 (.tmp 6) (.tmp 156) rfl w.heap.size _ rfl rfl 24 _ (heap_alloc2_old _ _ _) info24 rfl (by simp [Value.oneCell']) ?_))
  refine ret_row 6 24 rfl _ _ _ _ rfl (setRow_heap _ _ _ _ _ _ (heap_alloc2_old _ _ _)) Try.underlying24 (.inl ⟨_, rfl⟩) info24 rfl ⟨_, _, rfl, ?_, ?_, ?_⟩
  · exact .inl ⟨rfl, .inl rfl⟩
  · exact .inl ⟨rfl, .inl rfl⟩
  · exact below_setRow (((Below.refl _ _).alloc (Nat.le_refl _) _).alloc (by simp) _) (Nat.le_refl _)
set_option maxRecDepth 100000 in
set_option maxHeartbeats 1000000 in
theorem good_2 (kind n v : Int) (N V : Nat) (w : World) (hN : wrap64 ((IntKind.u64.wrap n).tmod 1000) = N) (hV : wrap64 ((IntKind.u64.wrap v).tmod 1000) = V) (lN : N < 1000) (lV : V < 1000) (hk : wrap64 ((IntKind.u64.wrap kind).tmod 13) = 1) :
    Calls Try.prog 18 #[.int .i64 kind, .int .i64 n, .int .i64 v] w fun e w' => ∃ p t, e = .returned (mv (gd 2 N V) p t) ∧ Sl .i64 w' p (gp 2 N).length (lF (gp 2 N)) ∧ Sl .i64 w' t (gt 2 N).length (lF (gt 2 N)) ∧ Below w.heap.size w w' := by
  go_enter Try.func18, Try.ntmps18
  go_upto_region 4 with (first
    | (refine wpList_store_last rfl (.tmp 7) (.tmp 32) rfl _ _ rfl rfl (by simp) _ rfl rfl (by simp [Value.oneCell']) ?_))
  go_upto_region 26 with (fail)
  go_wp2_with (first
    | (refine wpList_load24 (.tmp 7) rfl rfl (w.heap.size + 1) _ rfl (heap_alloc2_new _ _ _) rfl ?_)
    | (refine wpList_store_row rfl 24 (.tmp 6) (.tmp 156) rfl w.heap.size _ rfl rfl 24 _ (heap_alloc2_old _ _ _) info24 rfl (by simp [Value.oneCell']) ?_))
  refine ret_row 6 24 rfl _ _ _ _ rfl (setRow_heap _ _ _ _ _ _ (heap_alloc2_old _ _ _)) Try.underlying24 (.inl ⟨_, rfl⟩) info24 rfl ⟨_, _, rfl, ?_, ?_, ?_⟩
  · exact .inl ⟨rfl, .inl rfl⟩
  · exact .inl ⟨rfl, .inl rfl⟩
  · exact below_setRow (((Below.refl _ _).alloc (Nat.le_refl _) _).alloc (by simp) _) (Nat.le_refl _)
set_option maxRecDepth 100000 in
set_option maxHeartbeats 1000000 in
theorem good_4 (kind n v : Int) (N V : Nat) (w : World) (hN : wrap64 ((IntKind.u64.wrap n).tmod 1000) = N) (hV : wrap64 ((IntKind.u64.wrap v).tmod 1000) = V) (lN : N < 1000) (lV : V < 1000) (hk : wrap64 ((IntKind.u64.wrap kind).tmod 13) = 3) :
    Calls Try.prog 18 #[.int .i64 kind, .int .i64 n, .int .i64 v] w fun e w' => ∃ p t, e = .returned (mv (gd 4 N V) p t) ∧ Sl .i64 w' p (gp 4 N).length (lF (gp 4 N)) ∧ Sl .i64 w' t (gt 4 N).length (lF (gt 4 N)) ∧ Below w.heap.size w w' := by
  go_enter Try.func18, Try.ntmps18
  go_upto_region 4 with (first
    | (refine wpList_store_last rfl (.tmp 7) (.tmp 32) rfl _ _ rfl rfl (by simp) _ rfl rfl (by simp [Value.oneCell']) ?_))
  go_upto_region 26 with (fail)
  go_wp2_with (first
    | (refine wpList_load24 (.tmp 7) rfl rfl (w.heap.size + 1) _ rfl (heap_alloc2_new _ _ _) rfl ?_)
    | (refine wpList_store_row rfl 24 (.tmp 6) (.tmp 156) rfl w.heap.size _ rfl rfl 24 _ (heap_alloc2_old _ _ _) info24 rfl (by simp [Value.oneCell']) ?_))
  refine ret_row 6 24 rfl _ _ _ _ rfl (setRow_heap _ _ _ _ _ _ (heap_alloc2_old _ _ _)) Try.underlying24 (.inl ⟨_, rfl⟩) info24 rfl ⟨_, _, rfl, ?_, ?_, ?_⟩
  · exact .inl ⟨rfl, .inl rfl⟩
  · exact .inl ⟨rfl, .inl rfl⟩
  · exact below_setRow (((Below.refl _ _).alloc (Nat.le_refl _) _).alloc (by simp) _) (Nat.le_refl _)
set_option maxRecDepth 100000 in
set_option maxHeartbeats 1000000 in
theorem good_5 (kind n v : Int) (N V : Nat) (w : World) (hN : wrap64 ((IntKind.u64.wrap n).tmod 1000) = N) (hV : wrap64 ((IntKind.u64.wrap v).tmod 1000) = V) (lN : N < 1000) (lV : V < 1000) (hk : wrap64 ((IntKind.u64.wrap kind).tmod 13) = 4) :
    Calls Try.prog 18 #[.int .i64 kind, .int .i64 n, .int .i64 v] w fun e w' => ∃ p t, e = .returned (mv (gd 5 N V) p t) ∧ Sl .i64 w' p (gp 5 N).length (lF (gp 5 N)) ∧ Sl .i64 w' t (gt 5 N).length (lF (gt 5 N)) ∧ Below w.heap.size w w' := by
  go_enter Try.func18, Try.ntmps18
  go_upto_region 4 with (first
    | (refine wpList_store_last rfl (.tmp 7) (.tmp 32) rfl _ _ rfl rfl (by simp) _ rfl rfl (by simp [Value.oneCell']) ?_))
  go_upto_region 26 with (fail)
  go_wp2_with (first
    | (refine wpList_load24 (.tmp 7) rfl rfl (w.heap.size + 1) _ rfl (heap_alloc2_new _ _ _) rfl ?_)
    | (refine wpList_store_row rfl 24 (.tmp 6) (.tmp 156) rfl w.heap.size _ rfl rfl 24 _ (heap_alloc2_old _ _ _) info24 rfl (by simp [Value.oneCell']) ?_))
  refine ret_row 6 24 rfl _ _ _ _ rfl (setRow_heap _ _ _ _ _ _ (heap_alloc2_old _ _ _)) Try.underlying24 (.inl ⟨_, rfl⟩) info24 rfl ⟨_, _, rfl, ?_, ?_, ?_⟩
  · exact .inl ⟨rfl, .inl rfl⟩
  · exact .inl ⟨rfl, .inl rfl⟩
  · exact below_setRow (((Below.refl _ _).alloc (Nat.le_refl _) _).alloc (by simp) _) (Nat.le_refl _)
end Go.Proofs.Ytmcmiojidgdjpaa
