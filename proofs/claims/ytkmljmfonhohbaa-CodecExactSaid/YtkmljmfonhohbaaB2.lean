/- Walk of the statements' wakes. -/
import Derived.Test.YtkmljmfonhohbaaA7
namespace Go.Proofs.Ytkmljmfonhohbaa
open Go.RowKit

def W1 (i : Nat) : Int := [9, 1, 2].getD i 0
def W2 (i : Nat) : Int := [2, 7, 8].getD i 0
def W3 (i : Nat) : Int := [7, 8].getD i 0
theorem W1_bd (i : Nat) (h : i < 3) : 0 ≤ W1 i ∧ W1 i < 256 := by
  match i, h with
  | 0, _ | 1, _ | 2, _ => decide
theorem W2_bd (i : Nat) (h : i < 3) : 0 ≤ W2 i ∧ W2 i < 256 := by
  match i, h with
  | 0, _ | 1, _ | 2, _ => decide
theorem below_of {w w0 w' : World} (h0 : Below w.heap.size w w0) (h : Below w0.heap.size w0 w') : Below w.heap.size w w' := h0.trans (h.mono h0.size)
theorem wk1 (w : World) : Calls Try.prog 9 #[.slice (some ⟨w.heap.size, 0, none⟩) 1 1, .int .i64 2, .int .i64 258] (w.alloc (.cells #[.int .u8 9] 5)) fun e w' => ∃ v', e = .returned (.tuple #[v', .int .i64 0]) ∧ Sl .u8 w' v' 3 W1 ∧ Below w.heap.size w w' := by
  refine (put_is (fun i => [9].getD i 0) _ 1 2 258 (by decide) (by decide) _ (sl_lit .u8 w [9] 5 1 rfl (by unfold maxLen; omega)) (by omega)).mono ?_
  rintro e w' ⟨v', rfl, ho, hb⟩
  refine ⟨v', rfl, (sl_of_owns ho).congr ?_, below_of ((Below.refl _ _).alloc (Nat.le_refl _) _) hb⟩
  intro i hi
  match i, hi with
  | 0, _ | 1, _ | 2, _ => decide
theorem wk2 (v : Value) (w : World) (h : Sl .u8 w v 3 W1) : Calls Try.prog 10 #[v, .int .i64 1, .int .i64 2] w fun e w' => e = .returned (.tuple #[.int .i64 258, .int .i64 3, .int .i64 0]) ∧ w' = w := by
  refine (get_is W1 v 3 1 2 (by decide) w h W1_bd (by omega)).mono ?_
  rintro e w' ⟨rfl, rfl⟩
  exact ⟨rfl, rfl⟩
theorem wk3 (w : World) : Calls Try.prog 11 #[.slice none 0 0, .slice (some ⟨w.heap.size, 0, none⟩) 2 2] (w.alloc (.cells #[.int .i64 7, .int .i64 8] 3)) fun e w' => ∃ v', e = .returned (.tuple #[v', .int .i64 0]) ∧ Sl .u8 w' v' 3 W2 ∧ Below w.heap.size w w' := by
  refine (putl_is (fun _ => 0) (fun i => [7, 8].getD i 0) _ _ 0 2 _ (.inl ⟨rfl, .inl rfl⟩) (sl_lit .i64 w [7, 8] 3 2 rfl (by unfold maxLen; omega)) (by omega) (by omega) ?_).mono ?_
  · intro i hi
    match i, hi with
    | 0, _ | 1, _ => decide
  rintro e w' ⟨v', rfl, ho, hb⟩
  refine ⟨v', rfl, (sl_of_owns ho).congr ?_, below_of ((Below.refl _ _).alloc (Nat.le_refl _) _) hb⟩
  intro i hi
  match i, hi with
  | 0, _ | 1, _ | 2, _ => decide
theorem wk4 (v : Value) (w : World) (h : Sl .u8 w v 3 W2) : Calls Try.prog 12 #[v, .int .i64 0] w fun e w' => ∃ v', e = .returned (.tuple #[v', .int .i64 3, .int .i64 0]) ∧ Sl .i64 w' v' 2 W3 ∧ Below w.heap.size w w' := by
  refine (getl_is W2 v 3 0 2 w h W2_bd (by omega) (by omega) rfl (by omega)).mono ?_
  rintro e w' ⟨v', rfl, ho, hb⟩
  refine ⟨v', rfl, (sl_of_owns ho).congr ?_, hb⟩
  intro i hi
  match i, hi with
  | 0, _ | 1, _ => decide
theorem wk5 (v : Value) (w : World) (h : Sl .u8 w v 3 W1) : Calls Try.prog 13 #[v, .slice (some ⟨w.heap.size, 0, none⟩) 3 3] (w.alloc (.cells #[.int .u8 9, .int .u8 1, .int .u8 2] 5)) fun e w' => e = .returned (.bool true) ∧ Below w.heap.size w w' := by
  have hb : Below w.heap.size w (w.alloc (.cells #[.int .u8 9, .int .u8 1, .int .u8 2] 5)) := (Below.refl _ _).alloc (Nat.le_refl _) _
  refine (bytes_b W1 v _ 3 _ (h.below hb (Nat.le_refl _)) (sl_lit .u8 w [9, 1, 2] 5 3 rfl (by unfold maxLen; omega))).mono ?_
  rintro e w' ⟨rfl, h2⟩
  exact ⟨rfl, below_of hb h2⟩
theorem wk6 (v : Value) (w : World) (h : Sl .u8 w v 3 W2) : Calls Try.prog 13 #[v, .slice (some ⟨w.heap.size, 0, none⟩) 3 3] (w.alloc (.cells #[.int .u8 2, .int .u8 7, .int .u8 8] 5)) fun e w' => e = .returned (.bool true) ∧ Below w.heap.size w w' := by
  have hb : Below w.heap.size w (w.alloc (.cells #[.int .u8 2, .int .u8 7, .int .u8 8] 5)) := (Below.refl _ _).alloc (Nat.le_refl _) _
  refine (bytes_b W2 v _ 3 _ (h.below hb (Nat.le_refl _)) (sl_lit .u8 w [2, 7, 8] 5 3 rfl (by unfold maxLen; omega))).mono ?_
  rintro e w' ⟨rfl, h2⟩
  exact ⟨rfl, below_of hb h2⟩
theorem wk7 (v : Value) (w : World) (h : Sl .i64 w v 2 W3) : Calls Try.prog 14 #[v, .slice (some ⟨w.heap.size, 0, none⟩) 2 2] (w.alloc (.cells #[.int .i64 7, .int .i64 8] 3)) fun e w' => e = .returned (.bool true) ∧ Below w.heap.size w w' := by
  have hb : Below w.heap.size w (w.alloc (.cells #[.int .i64 7, .int .i64 8] 3)) := (Below.refl _ _).alloc (Nat.le_refl _) _
  refine (ints_b W3 v _ 2 _ (h.below hb (Nat.le_refl _)) (sl_lit .i64 w [7, 8] 3 2 rfl (by unfold maxLen; omega))).mono ?_
  rintro e w' ⟨rfl, h2⟩
  exact ⟨rfl, below_of hb h2⟩
set_option maxRecDepth 100000 in
set_option maxHeartbeats 1000000 in
theorem wakes_any (w : World) : Calls Try.prog 21 #[] w fun e w' => e = .returned (.bool true) ∧ Below w.heap.size w w' := by
  have m1 := trivial
  go_enter Try.func21, Try.ntmps21
  go_wp2_with (first
    | (go_at_call 9; refine (wk1 _).mono ?_; rintro e w1 ⟨v1, rfl, s1, b1⟩; have S1 := hide s1; have B1 := hide b1; clear s1 b1)
    | (go_at_call 10; refine (wk2 _ _ (unhide S1)).mono ?_; rintro e wx ⟨rfl, hw⟩; obtain rfl := hw.symm)
    | (go_at_call 11; refine (wk3 _).mono ?_; rintro e w2 ⟨v2, rfl, s2, b2⟩; have S2 := hide s2; replace S1 := hide ((unhide S1).below b2 (Nat.le_refl _)); replace B1 := hide (below_of (unhide B1) b2); clear s2 b2)
    | (go_at_call 12; refine (wk4 _ _ (unhide S2)).mono ?_; rintro e w3 ⟨v3, rfl, s3, b3⟩; have S3 := hide s3; replace S1 := hide ((unhide S1).below b3 (Nat.le_refl _)); replace S2 := hide ((unhide S2).below b3 (Nat.le_refl _)); replace B1 := hide (below_of (unhide B1) b3); clear s3 b3)
    | (clear m1; go_at_call 13; refine (wk5 _ _ (unhide S1)).mono ?_; rintro e w4 ⟨rfl, b4⟩; replace S2 := hide ((unhide S2).below b4 (Nat.le_refl _)); replace S3 := hide ((unhide S3).below b4 (Nat.le_refl _)); replace B1 := hide (below_of (unhide B1) b4); clear b4)
    | (go_at_call 13; refine (wk6 _ _ (unhide S2)).mono ?_; rintro e w5 ⟨rfl, b5⟩; replace S3 := hide ((unhide S3).below b5 (Nat.le_refl _)); replace B1 := hide (below_of (unhide B1) b5); clear b5)
    | (go_at_call 14; refine (wk7 _ _ (unhide S3)).mono ?_; rintro e w6 ⟨rfl, b6⟩; replace B1 := hide (below_of (unhide B1) b6); clear b6))
  go_ret
  exact ⟨rfl, unhide B1⟩
end Go.Proofs.Ytkmljmfonhohbaa
