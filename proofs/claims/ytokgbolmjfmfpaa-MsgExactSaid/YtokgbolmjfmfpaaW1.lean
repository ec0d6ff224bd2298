/- Walk of wakes. -/
import Derived.Test.YtokgbolmjfmfpaaB4
import Derived.Test.YtokgbolmjfmfpaaB6
namespace Go.Proofs.Ytokgbolmjfmfpaa
open Go.RowKit

/-- A ping; a message of noughts. -/
def pingM : Mg := ⟨1, 0, 1, 1, 0, 0, 0, 0, 0, 0, 0, 0, 0, 0⟩
def zeroM : Mg := ⟨0, 0, 0, 0, 0, 0, 0, 0, 0, 0, 0, 0, 0, 0⟩
def noF (_ : Nat) : Int := 0
theorem sl_nil (w : World) : Sl .i64 w (.slice none 0 0) 0 noF := .inl ⟨rfl, .inl rfl⟩
theorem ping_ok : chkB pingM noF 0 noF 0 = true := by kernel_rfl
theorem zero_no : chkB zeroM noF 0 noF 0 = false := by kernel_rfl
theorem ping_same : samB pingM noF 0 noF 0 pingM noF 0 noF 0 = true := by kernel_rfl
theorem ping_zero : samB pingM noF 0 noF 0 zeroM noF 0 noF 0 = false := by kernel_rfl
theorem wk1 (w : World) : Calls Try.prog 10 #[.agg #[.int .i64 1, .int .i64 0, .int .i64 1, .int .i64 1, .int .i64 0, .int .i64 0, .int .i64 0, .int .i64 0, .int .i64 0, .int .i64 0, .int .i64 0, .int .i64 0, .int .i64 0, .int .i64 0, .slice none 0 0, .slice none 0 0]] w fun e w' => e = .returned (.int .i64 0) ∧ Below w.heap.size w w' := by
  have h := check_any pingM noF noF (.slice none 0 0) (.slice none 0 0) 0 0 w (sl_nil w) (sl_nil w) (by omega) (by omega)
  rw [ping_ok] at h
  exact h
theorem wk2 (w : World) : Calls Try.prog 10 #[.agg #[.int .i64 0, .int .i64 0, .int .i64 0, .int .i64 0, .int .i64 0, .int .i64 0, .int .i64 0, .int .i64 0, .int .i64 0, .int .i64 0, .int .i64 0, .int .i64 0, .int .i64 0, .int .i64 0, .slice none 0 0, .slice none 0 0]] w fun e w' => e = .returned (.int .i64 5) ∧ Below w.heap.size w w' := by
  have h := check_any zeroM noF noF (.slice none 0 0) (.slice none 0 0) 0 0 w (sl_nil w) (sl_nil w) (by omega) (by omega)
  rw [zero_no] at h
  exact h
theorem wk3 (w : World) : Calls Try.prog 11 #[.agg #[.int .i64 1, .int .i64 0, .int .i64 1, .int .i64 1, .int .i64 0, .int .i64 0, .int .i64 0, .int .i64 0, .int .i64 0, .int .i64 0, .int .i64 0, .int .i64 0, .int .i64 0, .int .i64 0, .slice none 0 0, .slice none 0 0], .agg #[.int .i64 1, .int .i64 0, .int .i64 1, .int .i64 1, .int .i64 0, .int .i64 0, .int .i64 0, .int .i64 0, .int .i64 0, .int .i64 0, .int .i64 0, .int .i64 0, .int .i64 0, .int .i64 0, .slice none 0 0, .slice none 0 0]] w fun e w' => e = .returned (.bool true) ∧ Below w.heap.size w w' := by
  have h := same_any pingM pingM noF noF noF noF (.slice none 0 0) (.slice none 0 0) (.slice none 0 0) (.slice none 0 0) 0 0 0 0 w (sl_nil w) (sl_nil w) (sl_nil w) (sl_nil w) (by omega) (by omega) (by omega) (by omega)
  rw [ping_same] at h
  exact h
theorem wk4 (w : World) : Calls Try.prog 11 #[.agg #[.int .i64 1, .int .i64 0, .int .i64 1, .int .i64 1, .int .i64 0, .int .i64 0, .int .i64 0, .int .i64 0, .int .i64 0, .int .i64 0, .int .i64 0, .int .i64 0, .int .i64 0, .int .i64 0, .slice none 0 0, .slice none 0 0], .agg #[.int .i64 0, .int .i64 0, .int .i64 0, .int .i64 0, .int .i64 0, .int .i64 0, .int .i64 0, .int .i64 0, .int .i64 0, .int .i64 0, .int .i64 0, .int .i64 0, .int .i64 0, .int .i64 0, .slice none 0 0, .slice none 0 0]] w fun e w' => e = .returned (.bool false) ∧ Below w.heap.size w w' := by
  have h := same_any pingM zeroM noF noF noF noF (.slice none 0 0) (.slice none 0 0) (.slice none 0 0) (.slice none 0 0) 0 0 0 0 w (sl_nil w) (sl_nil w) (sl_nil w) (sl_nil w) (by omega) (by omega) (by omega) (by omega)
  rw [ping_zero] at h
  exact h
theorem un12 : unB (fun i => [1, 2].getD i 0) 2 = true := by kernel_rfl
theorem un11 : unB (fun i => [1, 1].getD i 0) 2 = false := by kernel_rfl
theorem wk5 (w : World) : Calls Try.prog 13 #[.slice (some ⟨w.heap.size, 0, none⟩) 2 2] (w.alloc (.cells #[.int .i64 1, .int .i64 2] 3)) fun e w' => e = .returned (.bool true) ∧ Below w.heap.size w w' := by
  refine (unlike_any _ _ 2 _ (sl_lit .i64 w [1, 2] 3 2 rfl (by unfold maxLen; omega)) (by omega)).mono ?_
  rintro e w' ⟨rfl, b⟩
  rw [un12]
  exact ⟨rfl, below_of ((Below.refl _ _).alloc (Nat.le_refl _) _) b⟩
theorem wk6 (w : World) : Calls Try.prog 13 #[.slice (some ⟨w.heap.size, 0, none⟩) 2 2] (w.alloc (.cells #[.int .i64 1, .int .i64 1] 3)) fun e w' => e = .returned (.bool false) ∧ Below w.heap.size w w' := by
  refine (unlike_any _ _ 2 _ (sl_lit .i64 w [1, 1] 3 2 rfl (by unfold maxLen; omega)) (by omega)).mono ?_
  rintro e w' ⟨rfl, b⟩
  rw [un11]
  exact ⟨rfl, below_of ((Below.refl _ _).alloc (Nat.le_refl _) _) b⟩
set_option maxRecDepth 100000 in
set_option maxHeartbeats 1000000 in
theorem wakes_any (w : World) : Calls Try.prog 16 #[] w fun e w' => e = .returned (.bool true) ∧ Below w.heap.size w w' := by
  have G : Hid ((w.alloc (.cells #[.int .i64 1, .int .i64 0, .int .i64 1, .int .i64 1, .int .i64 0, .int .i64 0, .int .i64 0, .int .i64 0, .int .i64 0, .int .i64 0, .int .i64 0, .int .i64 0, .int .i64 0, .int .i64 0, .slice none 0 0, .slice none 0 0] 24)).heap[w.heap.size]? = some (.cells #[.int .i64 1, .int .i64 0, .int .i64 1, .int .i64 1, .int .i64 0, .int .i64 0, .int .i64 0, .int .i64 0, .int .i64 0, .int .i64 0, .int .i64 0, .int .i64 0, .int .i64 0, .int .i64 0, .slice none 0 0, .slice none 0 0] 24)) := hide (heap_alloc_new _ _)
  have B : Hid (Below w.heap.size w (w.alloc (.cells #[.int .i64 1, .int .i64 0, .int .i64 1, .int .i64 1, .int .i64 0, .int .i64 0, .int .i64 0, .int .i64 0, .int .i64 0, .int .i64 0, .int .i64 0, .int .i64 0, .int .i64 0, .int .i64 0, .slice none 0 0, .slice none 0 0] 24))) := hide ((Below.refl _ _).alloc (Nat.le_refl _) _)
  have L : Hid (w.heap.size < (w.alloc (.cells #[.int .i64 1, .int .i64 0, .int .i64 1, .int .i64 1, .int .i64 0, .int .i64 0, .int .i64 0, .int .i64 0, .int .i64 0, .int .i64 0, .int .i64 0, .int .i64 0, .int .i64 0, .int .i64 0, .slice none 0 0, .slice none 0 0] 24)).heap.size) := hide (by simp)
  have m1 := trivial
  have m2 := trivial
  have m3 := trivial
  go_enter Try.func16, Try.ntmps16
  go_wp2_with (first
    | (refine wpList_store_last rfl (.tmp 1) (.tmp 2) rfl _ _ rfl rfl (by simp) _ rfl rfl (by simp [Value.oneCell']) ?_)
    | (refine wpList_load24 (.tmp 1) rfl (by first | rfl | simp [Region.wanted, yielded]) w.heap.size #[.int .i64 1, .int .i64 0, .int .i64 1, .int .i64 1, .int .i64 0, .int .i64 0, .int .i64 0, .int .i64 0, .int .i64 0, .int .i64 0, .int .i64 0, .int .i64 0, .int .i64 0, .int .i64 0, .slice none 0 0, .slice none 0 0] rfl (unhide G) rfl ?_)
    | (clear m1; go_at_call 10; with_reducible refine (wk1 _).mono ?_; rintro e w1 ⟨rfl, b1⟩; replace G := hide ((b1.block w.heap.size (unhide L)).trans (unhide G)); replace B := hide (below_of (unhide B) b1); replace L := hide (Nat.lt_of_lt_of_le (unhide L) b1.size); clear b1)
    | (go_at_call 10; with_reducible refine (wk2 _).mono ?_; rintro e w2 ⟨rfl, b2⟩; replace G := hide ((b2.block w.heap.size (unhide L)).trans (unhide G)); replace B := hide (below_of (unhide B) b2); replace L := hide (Nat.lt_of_lt_of_le (unhide L) b2.size); clear b2)
    | (clear m2; go_at_call 11; with_reducible refine (wk3 _).mono ?_; rintro e w3 ⟨rfl, b3⟩; replace G := hide ((b3.block w.heap.size (unhide L)).trans (unhide G)); replace B := hide (below_of (unhide B) b3); replace L := hide (Nat.lt_of_lt_of_le (unhide L) b3.size); clear b3)
    | (go_at_call 11; with_reducible refine (wk4 _).mono ?_; rintro e w4 ⟨rfl, b4⟩; replace G := hide ((b4.block w.heap.size (unhide L)).trans (unhide G)); replace B := hide (below_of (unhide B) b4); replace L := hide (Nat.lt_of_lt_of_le (unhide L) b4.size); clear b4)
    | (clear m3; go_at_call 13; with_reducible refine (wk5 _).mono ?_; rintro e w5 ⟨rfl, b5⟩; replace G := hide ((b5.block w.heap.size (unhide L)).trans (unhide G)); replace B := hide (below_of (unhide B) b5); replace L := hide (Nat.lt_of_lt_of_le (unhide L) b5.size); clear b5)
    | (go_at_call 13; with_reducible refine (wk6 _).mono ?_; rintro e w6 ⟨rfl, b6⟩; replace G := hide ((b6.block w.heap.size (unhide L)).trans (unhide G)); replace B := hide (below_of (unhide B) b6); replace L := hide (Nat.lt_of_lt_of_le (unhide L) b6.size); clear b6))
  go_ret
  exact ⟨rfl, unhide B⟩
end Go.Proofs.Ytokgbolmjfmfpaa
