/- Walk of Good, some kinds. -/
import Derived.Test.YtmcmiojidgdjpaaBn20
namespace Go.Proofs.Ytmcmiojidgdjpaa
open Go.RowKit

set_option maxRecDepth 100000 in
set_option maxHeartbeats 1000000 in
theorem good_6 (kind n v : Int) (N V : Nat) (w : World) (hN : wrap64 ((IntKind.u64.wrap n).tmod 1000) = N) (hV : wrap64 ((IntKind.u64.wrap v).tmod 1000) = V) (lN : N < 1000) (lV : V < 1000) (hk : wrap64 ((IntKind.u64.wrap kind).tmod 13) = 5) :
    Calls Try.prog 18 #[.int .i64 kind, .int .i64 n, .int .i64 v] w fun e w' => ∃ p t, e = .returned (mv (gd 6 N V) p t) ∧ Sl .i64 w' p (gp 6 N).length (lF (gp 6 N)) ∧ Sl .i64 w' t (gt 6 N).length (lF (gt 6 N)) ∧ Below w.heap.size w w' := by
  go_enter Try.func18, Try.ntmps18
  go_upto_region 4 with (first
    | (refine wpList_store_last rfl (.tmp 7) (.tmp 32) rfl _ _ rfl rfl (by simp) _ rfl rfl (by simp [Value.oneCell']) ?_))
  go_upto_region 26 with (fail)
  go_wp2_with (first
    | (refine wpList_load24 (.tmp 7) rfl rfl (w.heap.size + 1) _ rfl (heap_alloc2_new _ _ _) rfl ?_)
    | (refine wpList_store_row rfl 24 (.tmp 6) (.tmp 156) rfl w.heap.size _ rfl rfl 24 _ (heap_alloc2_old _ _ _) info24 rfl (by simp [Value.oneCell']) ?_))
  refine ret_row 6 24 rfl _ _ _ _ rfl (setRow_heap _ _ _ _ _ _ (heap_alloc2_old _ _ _)) Try.underlying24 (.inl ⟨_, rfl⟩) info24 rfl ⟨_, _, rfl, ?_, ?_, ?_⟩
  · exact .inl ⟨rfl, .inl rfl⟩
  · exact .inl ⟨rfl, .inl rfl⟩
  · exact below_setRow (((Below.refl _ _).alloc (Nat.le_refl _) _).alloc (by simp) _) (Nat.le_refl _)
set_option maxRecDepth 100000 in
set_option maxHeartbeats 1000000 in
theorem good_7 (kind n v : Int) (N V : Nat) (w : World) (hN : wrap64 ((IntKind.u64.wrap n).tmod 1000) = N) (hV : wrap64 ((IntKind.u64.wrap v).tmod 1000) = V) (lN : N < 1000) (lV : V < 1000) (hk : wrap64 ((IntKind.u64.wrap kind).tmod 13) = 6) :
    Calls Try.prog 18 #[.int .i64 kind, .int .i64 n, .int .i64 v] w fun e w' => ∃ p t, e = .returned (mv (gd 7 N V) p t) ∧ Sl .i64 w' p (gp 7 N).length (lF (gp 7 N)) ∧ Sl .i64 w' t (gt 7 N).length (lF (gt 7 N)) ∧ Below w.heap.size w w' := by
  go_enter Try.func18, Try.ntmps18
  go_upto_region 4 with (first
    | (refine wpList_store_last rfl (.tmp 7) (.tmp 32) rfl _ _ rfl rfl (by simp) _ rfl rfl (by simp [Value.oneCell']) ?_))
  go_upto_region 26 with (fail)
  go_wp2_with (first
    | (refine wpList_load24 (.tmp 7) rfl rfl (w.heap.size + 1) _ rfl (heap_alloc2_new _ _ _) rfl ?_)
    | (refine wpList_store_row rfl 24 (.tmp 6) (.tmp 156) rfl w.heap.size _ rfl rfl 24 _ (heap_alloc2_old _ _ _) info24 rfl (by simp [Value.oneCell']) ?_))
  refine ret_row 6 24 rfl _ _ _ _ rfl (setRow_heap _ _ _ _ _ _ (heap_alloc2_old _ _ _)) Try.underlying24 (.inl ⟨_, rfl⟩) info24 rfl ⟨_, _, rfl, ?_, ?_, ?_⟩
  · exact .inl ⟨rfl, .inl rfl⟩
  · exact .inl ⟨rfl, .inl rfl⟩
  · exact below_setRow (((Below.refl _ _).alloc (Nat.le_refl _) _).alloc (by simp) _) (Nat.le_refl _)
set_option maxRecDepth 100000 in
set_option maxHeartbeats 1000000 in
theorem good_8 (kind n v : Int) (N V : Nat) (w : World) (hN : wrap64 ((IntKind.u64.wrap n).tmod 1000) = N) (hV : wrap64 ((IntKind.u64.wrap v).tmod 1000) = V) (lN : N < 1000) (lV : V < 1000) (hk : wrap64 ((IntKind.u64.wrap kind).tmod 13) = 7) :
    Calls Try.prog 18 #[.int .i64 kind, .int .i64 n, .int .i64 v] w fun e w' => ∃ p t, e = .returned (mv (gd 8 N V) p t) ∧ Sl .i64 w' p (gp 8 N).length (lF (gp 8 N)) ∧ Sl .i64 w' t (gt 8 N).length (lF (gt 8 N)) ∧ Below w.heap.size w w' := by
  go_enter Try.func18, Try.ntmps18
  go_upto_region 4 with (first
    | (refine wpList_store_last rfl (.tmp 7) (.tmp 32) rfl _ _ rfl rfl (by simp) _ rfl rfl (by simp [Value.oneCell']) ?_))
  go_upto_region 26 with (fail)
  go_wp2_with (first
    | (refine wpList_load24 (.tmp 7) rfl rfl (w.heap.size + 1) _ rfl (heap_alloc2_new _ _ _) rfl ?_)
    | (refine wpList_store_row rfl 24 (.tmp 6) (.tmp 156) rfl w.heap.size _ rfl rfl 24 _ (heap_alloc2_old _ _ _) info24 rfl (by simp [Value.oneCell']) ?_))
  refine ret_row 6 24 rfl _ _ _ _ rfl (setRow_heap _ _ _ _ _ _ (heap_alloc2_old _ _ _)) Try.underlying24 (.inl ⟨_, rfl⟩) info24 rfl ⟨_, _, rfl, ?_, ?_, ?_⟩
  · exact .inl ⟨rfl, .inl rfl⟩
  · exact .inl ⟨rfl, .inl rfl⟩
  · exact below_setRow (((Below.refl _ _).alloc (Nat.le_refl _) _).alloc (by simp) _) (Nat.le_refl _)
set_option maxRecDepth 100000 in
set_option maxHeartbeats 1000000 in
theorem good_9 (kind n v : Int) (N V : Nat) (w : World) (hN : wrap64 ((IntKind.u64.wrap n).tmod 1000) = N) (hV : wrap64 ((IntKind.u64.wrap v).tmod 1000) = V) (lN : N < 1000) (lV : V < 1000) (hk : wrap64 ((IntKind.u64.wrap kind).tmod 13) = 8) :
    Calls Try.prog 18 #[.int .i64 kind, .int .i64 n, .int .i64 v] w fun e w' => ∃ p t, e = .returned (mv (gd 9 N V) p t) ∧ Sl .i64 w' p (gp 9 N).length (lF (gp 9 N)) ∧ Sl .i64 w' t (gt 9 N).length (lF (gt 9 N)) ∧ Below w.heap.size w w' := by
  go_enter Try.func18, Try.ntmps18
  go_upto_region 4 with (first
    | (refine wpList_store_last rfl (.tmp 7) (.tmp 32) rfl _ _ rfl rfl (by simp) _ rfl rfl (by simp [Value.oneCell']) ?_))
  go_upto_region 26 with (fail)
  go_wp2_with (first
    | (refine wpList_load24 (.tmp 7) rfl rfl (w.heap.size + 1) _ rfl (heap_alloc2_new _ _ _) rfl ?_)
    | (refine wpList_store_row rfl 24 (.tmp 6) (.tmp 156) rfl w.heap.size _ rfl rfl 24 _ (heap_alloc2_old _ _ _) info24 rfl (by simp [Value.oneCell']) ?_))
  refine ret_row 6 24 rfl _ _ _ _ rfl (setRow_heap _ _ _ _ _ _ (heap_alloc2_old _ _ _)) Try.underlying24 (.inl ⟨_, rfl⟩) info24 rfl ⟨_, _, rfl, ?_, ?_, ?_⟩
  · exact .inl ⟨rfl, .inl rfl⟩
  · exact .inl ⟨rfl, .inl rfl⟩
  · exact below_setRow (((Below.refl _ _).alloc (Nat.le_refl _) _).alloc (by simp) _) (Nat.le_refl _)
end Go.Proofs.Ytmcmiojidgdjpaa
