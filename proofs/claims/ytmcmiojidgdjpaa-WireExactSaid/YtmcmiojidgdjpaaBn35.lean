/- Walk of the page's Decode: what is no message's numbers and lists. -/
import Derived.Test.YtmcmiojidgdjpaaBn25
import Derived.Test.YtmcmiojidgdjpaaBn3
import Derived.Test.YtmcmiojidgdjpaaBn5
import Derived.Test.YtmcmiojidgdjpaaBn30
namespace Go.Proofs.Ytmcmiojidgdjpaa
open Go.RowKit

set_option maxRecDepth 100000 in
set_option maxHeartbeats 4000000 in
theorem rdec_long (p : Option Addr) (N cap : Nat) (w : World) (h : 80 < N) (_ : N ≤ maxLen) : Calls Try.prog 12 #[.slice p N cap] w (Bad 2 w) := by
  have d : decide (80 < (N : Int)) = true := decide_eq_true (by omega)
  obtain ⟨w0, hw0⟩ : ∃ x, x = (w.alloc (.cells #[.int .i64 0, .int .i64 0, .int .i64 0, .int .i64 0, .int .i64 0, .int .i64 0, .int .i64 0, .int .i64 0, .int .i64 0, .int .i64 0, .int .i64 0, .int .i64 0, .int .i64 0, .int .i64 0, .slice none 0 0, .slice none 0 0] 24)).alloc (.cells #[.int .i64 0, .int .i64 0, .int .i64 0, .int .i64 0, .int .i64 0, .int .i64 0, .int .i64 0, .int .i64 0, .int .i64 0, .int .i64 0, .int .i64 0, .int .i64 0, .int .i64 0, .int .i64 0, .slice none 0 0, .slice none 0 0] 24) := ⟨_, rfl⟩
  have HW0 := hide hw0
  have B0 : Hid (Below w.heap.size w w0) := hide (by rw [hw0]; exact below_alloc (below_alloc (Below.refl _ _) _) _)
  have GA : Hid (Has w0 w.heap.size (.cells #[.int .i64 0, .int .i64 0, .int .i64 0, .int .i64 0, .int .i64 0, .int .i64 0, .int .i64 0, .int .i64 0, .int .i64 0, .int .i64 0, .int .i64 0, .int .i64 0, .int .i64 0, .int .i64 0, .slice none 0 0, .slice none 0 0] 24)) := hide (by rw [hw0]; exact (Has.new w _).alloc _)
  have GB : Hid (Has w0 (w.heap.size + 1) (.cells #[.int .i64 0, .int .i64 0, .int .i64 0, .int .i64 0, .int .i64 0, .int .i64 0, .int .i64 0, .int .i64 0, .int .i64 0, .int .i64 0, .int .i64 0, .int .i64 0, .int .i64 0, .int .i64 0, .slice none 0 0, .slice none 0 0] 24)) := hide (by rw [hw0]; exact ⟨by simp, heap_alloc2_new _ _ _⟩)
  have BW : Hid (Below w0.heap.size w0 w0) := hide (Below.refl _ _)
  clear hw0
  go_enter Try.func12, Try.ntmps12
  go_upto_region 2 with (first
    | (refine wpList_store_last rfl (.tmp 4) (.tmp 11) rfl _ _ rfl rfl (by simp) _ rfl rfl (by simp [Value.oneCell']) ?_))
  rw [← unhide HW0]
  go_wp2_with (first
    | (refine wpList_load24 (.tmp 4) rfl (by first | rfl | simp [Region.wanted, yielded]) (w.heap.size + 1) #[.int .i64 0, .int .i64 0, .int .i64 0, .int .i64 0, .int .i64 0, .int .i64 0, .int .i64 0, .int .i64 0, .int .i64 0, .int .i64 0, .int .i64 0, .int .i64 0, .int .i64 0, .int .i64 0, .slice none 0 0, .slice none 0 0] rfl ((unhide GB).below (unhide BW)).2 rfl ?_)
    | (refine wpList_store_row rfl 24 (.tmp 2) (.tmp 15) rfl w.heap.size #[.int .i64 0, .int .i64 0, .int .i64 0, .int .i64 0, .int .i64 0, .int .i64 0, .int .i64 0, .int .i64 0, .int .i64 0, .int .i64 0, .int .i64 0, .int .i64 0, .int .i64 0, .int .i64 0, .slice none 0 0, .slice none 0 0] rfl rfl 24 _ ((unhide GA).below (unhide BW)).2 info24 rfl (by simp [Value.oneCell']) ?_))
  exact ret_mix 2 3 rfl _ _ _ rfl rfl (setRow_heap _ _ _ _ _ _ ((unhide GA).below (unhide BW)).2) rfl rfl ⟨rfl, below_setRow (below_of (unhide B0) (unhide BW)) (Nat.le_refl _)⟩
set_option maxRecDepth 100000 in
set_option maxHeartbeats 4000000 in
theorem rdec_shut (p : Option Addr) (N cap : Nat) (c : Int) (w : World) (h : N ≤ 80) (hc : c ≠ 0) (CO : Hid (∀ w1, Below w.heap.size w w1 → Calls Try.prog 26 #[.slice p N cap] w1 fun e w' => e = .returned (.tuple #[.slice none 0 0, .int .i64 c]) ∧ Below w1.heap.size w1 w')) :
    Calls Try.prog 12 #[.slice p N cap] w (Bad c w) := by
  have d : decide (80 < (N : Int)) = false := decide_eq_false (by omega)
  have d1 : (c != 0) = true := by simpa using hc
  clear hc
  obtain ⟨w0, hw0⟩ : ∃ x, x = (w.alloc (.cells #[.int .i64 0, .int .i64 0, .int .i64 0, .int .i64 0, .int .i64 0, .int .i64 0, .int .i64 0, .int .i64 0, .int .i64 0, .int .i64 0, .int .i64 0, .int .i64 0, .int .i64 0, .int .i64 0, .slice none 0 0, .slice none 0 0] 24)).alloc (.cells #[.int .i64 0, .int .i64 0, .int .i64 0, .int .i64 0, .int .i64 0, .int .i64 0, .int .i64 0, .int .i64 0, .int .i64 0, .int .i64 0, .int .i64 0, .int .i64 0, .int .i64 0, .int .i64 0, .slice none 0 0, .slice none 0 0] 24) := ⟨_, rfl⟩
  have HW0 := hide hw0
  have B0 : Hid (Below w.heap.size w w0) := hide (by rw [hw0]; exact below_alloc (below_alloc (Below.refl _ _) _) _)
  have GA : Hid (Has w0 w.heap.size (.cells #[.int .i64 0, .int .i64 0, .int .i64 0, .int .i64 0, .int .i64 0, .int .i64 0, .int .i64 0, .int .i64 0, .int .i64 0, .int .i64 0, .int .i64 0, .int .i64 0, .int .i64 0, .int .i64 0, .slice none 0 0, .slice none 0 0] 24)) := hide (by rw [hw0]; exact (Has.new w _).alloc _)
  have GB : Hid (Has w0 (w.heap.size + 1) (.cells #[.int .i64 0, .int .i64 0, .int .i64 0, .int .i64 0, .int .i64 0, .int .i64 0, .int .i64 0, .int .i64 0, .int .i64 0, .int .i64 0, .int .i64 0, .int .i64 0, .int .i64 0, .int .i64 0, .slice none 0 0, .slice none 0 0] 24)) := hide (by rw [hw0]; exact ⟨by simp, heap_alloc2_new _ _ _⟩)
  have BW : Hid (Below w0.heap.size w0 w0) := hide (Below.refl _ _)
  clear hw0
  go_enter Try.func12, Try.ntmps12
  go_upto_region 2 with (first
    | (refine wpList_store_last rfl (.tmp 4) (.tmp 11) rfl _ _ rfl rfl (by simp) _ rfl rfl (by simp [Value.oneCell']) ?_))
  rw [← unhide HW0]
  go_wp2_with (first
    | (go_at_call 26; (with_reducible refine (unhide CO _ (below_of (unhide B0) (unhide BW))).mono ?_); rintro e w1 ⟨rfl, b1⟩; replace BW := hide (below_of (unhide BW) b1); clear b1)
    | (refine wpList_load24 (.tmp 4) rfl (by first | rfl | simp [Region.wanted, yielded]) (w.heap.size + 1) #[.int .i64 0, .int .i64 0, .int .i64 0, .int .i64 0, .int .i64 0, .int .i64 0, .int .i64 0, .int .i64 0, .int .i64 0, .int .i64 0, .int .i64 0, .int .i64 0, .int .i64 0, .int .i64 0, .slice none 0 0, .slice none 0 0] rfl ((unhide GB).below (unhide BW)).2 rfl ?_)
    | (refine wpList_store_row rfl 24 (.tmp 2) (.tmp 23) rfl w.heap.size #[.int .i64 0, .int .i64 0, .int .i64 0, .int .i64 0, .int .i64 0, .int .i64 0, .int .i64 0, .int .i64 0, .int .i64 0, .int .i64 0, .int .i64 0, .int .i64 0, .int .i64 0, .int .i64 0, .slice none 0 0, .slice none 0 0] rfl rfl 24 _ ((unhide GA).below (unhide BW)).2 info24 rfl (by simp [Value.oneCell']) ?_))
  exact ret_mix 2 3 rfl _ _ _ rfl rfl (setRow_heap _ _ _ _ _ _ ((unhide GA).below (unhide BW)).2) rfl rfl ⟨rfl, below_setRow (below_of (unhide B0) (unhide BW)) (Nat.le_refl _)⟩
/-- The page's Open answers m bytes D. -/
def ROpenOk (D : Nat → Nat) (v : Value) (m : Nat) (w : World) : Prop := ∀ w1, Below w.heap.size w w1 → Calls Try.prog 26 #[v] w1 fun e w' => ∃ p c, e = .returned (.tuple #[.slice p m c, .int .i64 0]) ∧ Cr.Bs w' (.slice p m c) m D ∧ Below w1.heap.size w1 w'
set_option maxRecDepth 100000 in
set_option maxHeartbeats 4000000 in
theorem rdec_small (D : Nat → Nat) (p : Option Addr) (N m cap : Nat) (w : World) (h : N ≤ 80) (hm : m < 42) (CO : Hid (ROpenOk D (.slice p N cap) m w)) :
    Calls Try.prog 12 #[.slice p N cap] w (Bad 3 w) := by
  have d : decide (80 < (N : Int)) = false := decide_eq_false (by omega)
  have d42 : decide ((m : Int) < 42) = true := decide_eq_true (by omega)
  unfold ROpenOk at CO
  obtain ⟨w0, hw0⟩ : ∃ x, x = (w.alloc (.cells #[.int .i64 0, .int .i64 0, .int .i64 0, .int .i64 0, .int .i64 0, .int .i64 0, .int .i64 0, .int .i64 0, .int .i64 0, .int .i64 0, .int .i64 0, .int .i64 0, .int .i64 0, .int .i64 0, .slice none 0 0, .slice none 0 0] 24)).alloc (.cells #[.int .i64 0, .int .i64 0, .int .i64 0, .int .i64 0, .int .i64 0, .int .i64 0, .int .i64 0, .int .i64 0, .int .i64 0, .int .i64 0, .int .i64 0, .int .i64 0, .int .i64 0, .int .i64 0, .slice none 0 0, .slice none 0 0] 24) := ⟨_, rfl⟩
  have HW0 := hide hw0
  have B0 : Hid (Below w.heap.size w w0) := hide (by rw [hw0]; exact below_alloc (below_alloc (Below.refl _ _) _) _)
  have GA : Hid (Has w0 w.heap.size (.cells #[.int .i64 0, .int .i64 0, .int .i64 0, .int .i64 0, .int .i64 0, .int .i64 0, .int .i64 0, .int .i64 0, .int .i64 0, .int .i64 0, .int .i64 0, .int .i64 0, .int .i64 0, .int .i64 0, .slice none 0 0, .slice none 0 0] 24)) := hide (by rw [hw0]; exact (Has.new w _).alloc _)
  have GB : Hid (Has w0 (w.heap.size + 1) (.cells #[.int .i64 0, .int .i64 0, .int .i64 0, .int .i64 0, .int .i64 0, .int .i64 0, .int .i64 0, .int .i64 0, .int .i64 0, .int .i64 0, .int .i64 0, .int .i64 0, .int .i64 0, .int .i64 0, .slice none 0 0, .slice none 0 0] 24)) := hide (by rw [hw0]; exact ⟨by simp, heap_alloc2_new _ _ _⟩)
  have BW : Hid (Below w0.heap.size w0 w0) := hide (Below.refl _ _)
  clear hw0
  go_enter Try.func12, Try.ntmps12
  go_upto_region 2 with (first
    | (refine wpList_store_last rfl (.tmp 4) (.tmp 11) rfl _ _ rfl rfl (by simp) _ rfl rfl (by simp [Value.oneCell']) ?_))
  rw [← unhide HW0]
  go_wp2_with (first
    | (go_at_call 26; (with_reducible refine (unhide CO _ (below_of (unhide B0) (unhide BW))).mono ?_); rintro e w1 ⟨p1, c1, rfl, s1, b1⟩; replace BW := hide (below_of (unhide BW) b1); clear b1 s1)
    | (refine wpList_load24 (.tmp 4) rfl (by first | rfl | simp [Region.wanted, yielded]) (w.heap.size + 1) #[.int .i64 0, .int .i64 0, .int .i64 0, .int .i64 0, .int .i64 0, .int .i64 0, .int .i64 0, .int .i64 0, .int .i64 0, .int .i64 0, .int .i64 0, .int .i64 0, .int .i64 0, .int .i64 0, .slice none 0 0, .slice none 0 0] rfl ((unhide GB).below (unhide BW)).2 rfl ?_)
    | (refine wpList_store_row rfl 24 (.tmp 2) (.tmp 28) rfl w.heap.size #[.int .i64 0, .int .i64 0, .int .i64 0, .int .i64 0, .int .i64 0, .int .i64 0, .int .i64 0, .int .i64 0, .int .i64 0, .int .i64 0, .int .i64 0, .int .i64 0, .int .i64 0, .int .i64 0, .slice none 0 0, .slice none 0 0] rfl rfl 24 _ ((unhide GA).below (unhide BW)).2 info24 rfl (by simp [Value.oneCell']) ?_))
  exact ret_mix 2 3 rfl _ _ _ rfl rfl (setRow_heap _ _ _ _ _ _ ((unhide GA).below (unhide BW)).2) rfl rfl ⟨rfl, below_setRow (below_of (unhide B0) (unhide BW)) (Nat.le_refl _)⟩
end Go.Proofs.Ytmcmiojidgdjpaa
