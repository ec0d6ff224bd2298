/- Walk of wire.Decode. -/
import Derived.Test.YtmcmiojidgdjpaaBn26
import Derived.Test.YtmcmiojidgdjpaaBn25
namespace Go.Proofs.Ytmcmiojidgdjpaa
open Go.RowKit

/-- No message, and why not. -/
def Bad (c : Int) (w : World) (e : Ending) (w' : World) : Prop := e = .returned (.tuple #[mv zeroM (.slice none 0 0) (.slice none 0 0), .int .i64 c]) ∧ Below w.heap.size w w'
/-- Whether the bytes are a message's numbers and lists, and nothing more. -/
def wholeB (D : Nat → Nat) (m : Nat) : Bool := decide (gN (E D) 6 < 4611686018427387904) && decide (m = 44 + D 42 + D (43 + D 42))
theorem wholeB_iff (D : Nat → Nat) (m : Nat) : wholeB D m = true ↔ Whole D m := by
  unfold wholeB Whole
  simp
/-- What some bytes' message is: right or not. -/
def rdB (D : Nat → Nat) : Bool := chkB (rdM (E D)) (fun i => E D (43 + i)) (D 42) (fun i => E D (44 + D 42 + i)) (D (43 + D 42))
/-- Why some bytes are no message. -/
def decC (D : Nat → Nat) (N : Nat) : Int := if 80 < N then 2 else if N < 4 then 2 else if Cr.sumN D (N - 4) = Cr.le4 D (N - 4) then if wholeB D (N - 4) then if rdB D then 0 else 5 else 3 else 4
set_option maxRecDepth 100000 in
set_option maxHeartbeats 1000000 in
theorem dec_long (p : Option Addr) (N cap : Nat) (w : World) (h : 80 < N) (_ : N ≤ maxLen) : Calls Try.prog 11 #[.slice p N cap] w (Bad 2 w) := by
  have d : decide (80 < (N : Int)) = true := decide_eq_true (by omega)
  go_enter Try.func11, Try.ntmps11
  go_wp2_with (refine wpList_store_row rfl 24 (.tmp 2) (.tmp 12) rfl w.heap.size #[.int .i64 0, .int .i64 0, .int .i64 0, .int .i64 0, .int .i64 0, .int .i64 0, .int .i64 0, .int .i64 0, .int .i64 0, .int .i64 0, .int .i64 0, .int .i64 0, .int .i64 0, .int .i64 0, .slice none 0 0, .slice none 0 0] rfl rfl 24 _ (heap_alloc_new _ _) info24 rfl (by simp [Value.oneCell']) ?_)
  exact ret_mix 2 3 rfl _ _ _ rfl rfl (setRow_heap _ _ _ _ _ _ (heap_alloc_new _ _)) rfl rfl ⟨rfl, below_setRow ((Below.refl _ _).alloc (Nat.le_refl _) _) (Nat.le_refl _)⟩
set_option maxRecDepth 100000 in
set_option maxHeartbeats 1000000 in
theorem dec_shut (p : Option Addr) (N cap : Nat) (c : Int) (w : World) (h : N ≤ 80) (hc : c ≠ 0) (CO : Hid (∀ w1, Below w.heap.size w w1 → Calls Try.prog 19 #[.slice p N cap] w1 fun e w' => e = .returned (.tuple #[.slice none 0 0, .int .i64 c]) ∧ Below w1.heap.size w1 w')) :
    Calls Try.prog 11 #[.slice p N cap] w (Bad c w) := by
  have d : decide (80 < (N : Int)) = false := decide_eq_false (by omega)
  have d1 : (c != 0) = true := by simpa using hc
  have B0 : Hid (Below w.heap.size w (w.alloc (.cells #[.int .i64 0, .int .i64 0, .int .i64 0, .int .i64 0, .int .i64 0, .int .i64 0, .int .i64 0, .int .i64 0, .int .i64 0, .int .i64 0, .int .i64 0, .int .i64 0, .int .i64 0, .int .i64 0, .slice none 0 0, .slice none 0 0] 24))) := hide ((Below.refl _ _).alloc (Nat.le_refl _) _)
  clear hc
  go_enter Try.func11, Try.ntmps11
  go_wp2_with (first
    | (go_at_call 19; with_reducible refine (unhide CO _ (unhide B0)).mono ?_; rintro e w1 ⟨rfl, b1⟩; have G1 := hide ((b1.block w.heap.size (by simp)).trans (heap_alloc_new _ _)); have B1 := hide (below_of (unhide B0) b1); clear b1)
    | (refine wpList_store_row rfl 24 (.tmp 2) (.tmp 20) rfl w.heap.size #[.int .i64 0, .int .i64 0, .int .i64 0, .int .i64 0, .int .i64 0, .int .i64 0, .int .i64 0, .int .i64 0, .int .i64 0, .int .i64 0, .int .i64 0, .int .i64 0, .int .i64 0, .int .i64 0, .slice none 0 0, .slice none 0 0] rfl rfl 24 _ (unhide G1) info24 rfl (by simp [Value.oneCell']) ?_))
  exact ret_mix 2 3 rfl _ _ _ rfl rfl (setRow_heap _ _ _ _ _ _ (unhide G1)) rfl rfl ⟨rfl, below_setRow (unhide B1) (Nat.le_refl _)⟩
/-- Open answers m bytes D. -/
def OpenOk (D : Nat → Nat) (v : Value) (m : Nat) (w : World) : Prop := ∀ w1, Below w.heap.size w w1 → Calls Try.prog 19 #[v] w1 fun e w' => ∃ v', e = .returned (.tuple #[v', .int .i64 0]) ∧ Cr.Bs w' v' m D ∧ Below w1.heap.size w1 w'
set_option maxRecDepth 100000 in
set_option maxHeartbeats 1000000 in
theorem dec_frame (D : Nat → Nat) (p : Option Addr) (N m cap : Nat) (w : World) (h : N ≤ 80) (hm : m ≤ N) (hD : ∀ i, i < m → D i < 256) (CO : Hid (OpenOk D (.slice p N cap) m w)) (hw : ¬ Whole D m) :
    Calls Try.prog 11 #[.slice p N cap] w (Bad 3 w) := by
  have d : decide (80 < (N : Int)) = false := decide_eq_false (by omega)
  have CR : Hid (∀ v w1, Cr.Bs w1 v m D → Calls Try.prog 25 #[v] w1 fun e w' => e = .returned (.tuple #[mv zeroM (.slice none 0 0) (.slice none 0 0), .bool false]) ∧ Below w1.heap.size w1 w') := by
    refine hide fun v w1 hs => (read_is D v m w1 hs hD (by omega)).mono ?_
    rintro e w' ⟨⟨_, rfl⟩ | ⟨h2, _⟩, b⟩
    · exact ⟨rfl, b⟩
    · exact absurd h2 hw
  have B0 : Hid (Below w.heap.size w (w.alloc (.cells #[.int .i64 0, .int .i64 0, .int .i64 0, .int .i64 0, .int .i64 0, .int .i64 0, .int .i64 0, .int .i64 0, .int .i64 0, .int .i64 0, .int .i64 0, .int .i64 0, .int .i64 0, .int .i64 0, .slice none 0 0, .slice none 0 0] 24))) := hide ((Below.refl _ _).alloc (Nat.le_refl _) _)
  clear hD hw hm
  unfold mv zeroM at CR
  unfold OpenOk at CO
  unfold Bad mv zeroM
  have LW : Hid (w.heap.size < (w.alloc (.cells #[.int .i64 0, .int .i64 0, .int .i64 0, .int .i64 0, .int .i64 0, .int .i64 0, .int .i64 0, .int .i64 0, .int .i64 0, .int .i64 0, .int .i64 0, .int .i64 0, .int .i64 0, .int .i64 0, .slice none 0 0, .slice none 0 0] 24)).heap.size) := hide (by simp)
  go_enter Try.func11, Try.ntmps11
  go_wp2_with (first
    | (go_at_call 19; with_reducible refine (unhide CO _ (unhide B0)).mono ?_; rintro e w1 ⟨v1, rfl, s1, b1⟩; have S1 := hide s1; have G1 := hide ((b1.block w.heap.size (unhide LW)).trans (heap_alloc_new _ _)); have B1 := hide (below_of (unhide B0) b1); have L1 := hide (Nat.lt_of_lt_of_le (unhide LW) b1.size); clear b1 s1)
    | (go_at_call 25; with_reducible refine (unhide CR _ _ (unhide S1)).mono ?_; rintro e w2 ⟨rfl, b2⟩; have G2 := hide ((b2.block w.heap.size (unhide L1)).trans (unhide G1)); have B2 := hide (below_of (unhide B1) b2); have L2 := hide (Nat.lt_of_lt_of_le (unhide L1) b2.size); clear b2)
    | (refine wpList_store_last rfl (.tmp 6) (.tmp 25) rfl _ #[.int .i64 0, .int .i64 0, .int .i64 0, .int .i64 0, .int .i64 0, .int .i64 0, .int .i64 0, .int .i64 0, .int .i64 0, .int .i64 0, .int .i64 0, .int .i64 0, .int .i64 0, .int .i64 0, .slice none 0 0, .slice none 0 0] rfl rfl rfl _ rfl rfl (by simp [Value.oneCell']) ?_; have G3 := hide ((Below.heap_alloc _ (.cells #[.int .i64 0, .int .i64 0, .int .i64 0, .int .i64 0, .int .i64 0, .int .i64 0, .int .i64 0, .int .i64 0, .int .i64 0, .int .i64 0, .int .i64 0, .int .i64 0, .int .i64 0, .int .i64 0, .slice none 0 0, .slice none 0 0] 24) w.heap.size (unhide L2)).trans (unhide G2)); have B3 := hide ((unhide B2).alloc (unhide B2).size (.cells #[.int .i64 0, .int .i64 0, .int .i64 0, .int .i64 0, .int .i64 0, .int .i64 0, .int .i64 0, .int .i64 0, .int .i64 0, .int .i64 0, .int .i64 0, .int .i64 0, .int .i64 0, .int .i64 0, .slice none 0 0, .slice none 0 0] 24)))
    | (refine wpList_store_row rfl 24 (.tmp 2) (.tmp 29) rfl w.heap.size #[.int .i64 0, .int .i64 0, .int .i64 0, .int .i64 0, .int .i64 0, .int .i64 0, .int .i64 0, .int .i64 0, .int .i64 0, .int .i64 0, .int .i64 0, .int .i64 0, .int .i64 0, .int .i64 0, .slice none 0 0, .slice none 0 0] rfl rfl 24 _ (unhide G3) info24 rfl (by simp [Value.oneCell']) ?_))
  exact ret_mix 2 3 rfl _ _ _ rfl rfl (setRow_heap _ _ _ _ _ _ (unhide G3)) rfl rfl ⟨rfl, below_setRow (unhide B3) (Nat.le_refl _)⟩
end Go.Proofs.Ytmcmiojidgdjpaa
