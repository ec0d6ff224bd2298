/- Walks of isRight, the page's In, IsNode, Frame; of bytes.Clone, Twin, copied. -/
import Derived.Test.YtpaeekpdchmfjaaA1
namespace Go.Proofs.Ytpaeekpdchmfjaa
open Go.RowKit

/-- A right frame: whom it is to, how many bytes. -/
def okB (t : Int) (n : Nat) : Bool := decide (0 ≤ t ∧ t < 8 ∧ n ≤ 80)
theorem okB_true {t : Int} {n : Nat} (h : 0 ≤ t ∧ t < 8 ∧ n ≤ 80) : okB t n = true := by unfold okB; exact decide_eq_true h
theorem okB_false {t : Int} {n : Nat} (h : ¬ (0 ≤ t ∧ t < 8 ∧ n ≤ 80)) : okB t n = false := by unfold okB; exact decide_eq_false h
theorem okB_iff {t : Int} {n : Nat} : okB t n = true ↔ 0 ≤ t ∧ t < 8 ∧ n ≤ 80 := by unfold okB; exact decide_eq_true_iff
set_option maxRecDepth 100000 in
theorem isRight_any (t : Int) (p : Option Addr) (n c : Nat) (w : World) : Calls Try.prog 20 #[.agg #[.int .i64 t, .slice p n c]] w fun e w' => e = .returned (.bool (okB t n)) ∧ Below w.heap.size w w' := by
  by_cases h : 0 ≤ t ∧ t < 8 ∧ n ≤ 80
  · rw [okB_true h]
    obtain ⟨h1, h2, h3⟩ := h
    have e3 : decide ((n : Int) ≤ 80) = true := decide_eq_true (by omega)
    go_enter Try.func20, Try.ntmps20
    go_wp2
    go_ret
    exact ⟨rfl, (Below.refl _ _).alloc (Nat.le_refl _) _⟩
  · rw [okB_false h]
    by_cases h1 : 0 ≤ t
    · by_cases h2 : t < 8
      · have e3 : decide ((n : Int) ≤ 80) = false := decide_eq_false (by omega)
        clear h
        go_enter Try.func20, Try.ntmps20
        go_wp2
        go_ret
        exact ⟨rfl, (Below.refl _ _).alloc (Nat.le_refl _) _⟩
      · clear h
        go_enter Try.func20, Try.ntmps20
        go_wp2
        go_ret
        exact ⟨rfl, (Below.refl _ _).alloc (Nat.le_refl _) _⟩
    · clear h
      go_enter Try.func20, Try.ntmps20
      go_wp2
      go_ret
      exact ⟨rfl, (Below.refl _ _).alloc (Nat.le_refl _) _⟩
theorem in_yes (n : Int) (w : World) (h : 0 ≤ n ∧ n ≤ 7) : Calls Try.prog 28 #[.int .i64 n, .int .i64 0, .int .i64 7] w fun e w' => e = .returned (.bool true) ∧ w' = w := by
  obtain ⟨h1, h2⟩ := h
  have e2 : decide (n ≤ 7) = true := decide_eq_true h2
  go_enter Try.func28, Try.ntmps28
  go_wp2
  go_ret
  exact ⟨rfl, rfl⟩
theorem in_no (n : Int) (w : World) (h : ¬ (0 ≤ n ∧ n ≤ 7)) : Calls Try.prog 28 #[.int .i64 n, .int .i64 0, .int .i64 7] w fun e w' => e = .returned (.bool false) ∧ w' = w := by
  by_cases h1 : 0 ≤ n
  · have e2 : decide (n ≤ 7) = false := decide_eq_false (by omega)
    clear h
    go_enter Try.func28, Try.ntmps28
    go_wp2
    go_ret
    exact ⟨rfl, rfl⟩
  · clear h
    go_enter Try.func28, Try.ntmps28
    go_wp2
    go_ret
    exact ⟨rfl, rfl⟩
theorem node_yes (n : Int) (w : World) (h : 0 ≤ n ∧ n ≤ 7) : Calls Try.prog 24 #[.int .i64 n] w fun e w' => e = .returned (.bool true) ∧ w' = w := by
  have H := hide h
  clear h
  go_enter Try.func24, Try.ntmps24
  go_wp2_with (go_at_call 28; refine (in_yes _ _ (unhide H)).mono ?_; rintro e w' ⟨rfl, rfl⟩)
  go_ret
  exact ⟨rfl, rfl⟩
theorem node_no (n : Int) (w : World) (h : ¬ (0 ≤ n ∧ n ≤ 7)) : Calls Try.prog 24 #[.int .i64 n] w fun e w' => e = .returned (.bool false) ∧ w' = w := by
  have H := hide h
  clear h
  go_enter Try.func24, Try.ntmps24
  go_wp2_with (go_at_call 28; refine (in_no _ _ (unhide H)).mono ?_; rintro e w' ⟨rfl, rfl⟩)
  go_ret
  exact ⟨rfl, rfl⟩
set_option maxRecDepth 100000 in
theorem rframe_any (t : Int) (p : Option Addr) (n c : Nat) (w : World) : Calls Try.prog 15 #[.agg #[.int .i64 t, .slice p n c]] w fun e w' => e = .returned (.bool (okB t n)) ∧ Below w.heap.size w w' := by
  by_cases h : 0 ≤ t ∧ t < 8 ∧ n ≤ 80
  · rw [okB_true h]
    have H := hide (show 0 ≤ t ∧ t ≤ 7 by omega)
    obtain ⟨h1, h2, h3⟩ := h
    have e3 : decide ((n : Int) ≤ 80) = true := decide_eq_true (by omega)
    go_enter Try.func15, Try.ntmps15
    go_wp2_with (go_at_call 24; refine (node_yes _ _ (unhide H)).mono ?_; rintro e w' ⟨rfl, rfl⟩)
    go_ret
    exact ⟨rfl, (Below.refl _ _).alloc (Nat.le_refl _) _⟩
  · rw [okB_false h]
    by_cases h1 : 0 ≤ t ∧ t ≤ 7
    · have H := hide h1
      have e3 : decide ((n : Int) ≤ 80) = false := decide_eq_false (by omega)
      clear h h1
      go_enter Try.func15, Try.ntmps15
      go_wp2_with (go_at_call 24; refine (node_yes _ _ (unhide H)).mono ?_; rintro e w' ⟨rfl, rfl⟩)
      go_ret
      exact ⟨rfl, (Below.refl _ _).alloc (Nat.le_refl _) _⟩
    · have H := hide h1
      clear h h1
      go_enter Try.func15, Try.ntmps15
      go_wp2_with (go_at_call 24; refine (node_no _ _ (unhide H)).mono ?_; rintro e w' ⟨rfl, rfl⟩)
      go_ret
      exact ⟨rfl, (Below.refl _ _).alloc (Nat.le_refl _) _⟩
end Go.Proofs.Ytpaeekpdchmfjaa
