/- Plain facts on the next epoch; walks of the laws' wakes and of the page's functions. -/
import Derived.Test.YtmnidpbmifdflaaDoorA2
namespace Go.Proofs.YtmnidpbmifdflaaDoor
open Go.RowKit

theorem nx_above (n t : Int) (hN : IsN n) (hT : Tp t) : t < nx n t ∧ nx n t ≤ t + 16 ∧ nx n t % 16 = n := by
  obtain ⟨h1, h2⟩ := hN
  obtain ⟨h3, h4⟩ := hT
  unfold nx
  split <;> refine ⟨?_, ?_, ?_⟩ <;> omega
theorem nx_twice (n t : Int) (hN : IsN n) (hT : Tp t) : nx n (nx n t) = nx n t + 16 := by
  obtain ⟨h1, h2, h3⟩ := nx_above n t hN hT
  generalize nx n t = x at *
  unfold nx
  rw [h3, if_pos (by omega)]
  omega
theorem nx_mono (n a b : Int) (hN : IsN n) (ha : Tp a) (hb : Tp b) (h : a ≤ b) : nx n a ≤ nx n b := by
  obtain ⟨h1, h2⟩ := hN
  obtain ⟨h3, h4⟩ := ha
  obtain ⟨h5, h6⟩ := hb
  unfold nx
  split <;> split <;> omega
theorem nx_ep (n t : Int) (hN : IsN n) (hT : Tp t) (h : nx n t ≤ 1073741824) : Ep (nx n t) := by
  obtain ⟨h1, h2, h3⟩ := nx_above n t hN hT
  obtain ⟨h4, h5⟩ := hN
  obtain ⟨h6, h7⟩ := hT
  generalize nx n t = x at *
  refine ⟨⟨by omega, h⟩, by omega⟩

theorem next_first3 (w : World) (hG : Glob w) :
    Calls Tryd.prog 7 #[.int .i64 3, .int .i64 0] w fun e w' => e = .returned (.tuple #[.int .i64 3, .int .i64 0]) ∧ w' = w :=
  next_ok 3 0 (by decide) (by decide) (by decide) w hG
theorem next_first0 (w : World) (hG : Glob w) :
    Calls Tryd.prog 7 #[.int .i64 0, .int .i64 0] w fun e w' => e = .returned (.tuple #[.int .i64 16, .int .i64 0]) ∧ w' = w :=
  next_ok 0 0 (by decide) (by decide) (by decide) w hG
theorem next_last (w : World) (hG : Glob w) :
    Calls Tryd.prog 7 #[.int .i64 0, .int .i64 1073741824] w fun e w' => e = .returned (.tuple #[.int .i64 0, .int .i64 11]) ∧ w' = w :=
  next_quota 0 1073741824 (by decide) (by decide) (by decide) w hG
theorem who_35 (w : World) (hG : Glob w) :
    Calls Tryd.prog 6 #[.int .i64 35] w fun e w' => e = .returned (.tuple #[.int .i64 3, .int .i64 0]) ∧ w' = w :=
  who_ok 35 (by decide) w hG
theorem wakes_is (w : World) (hG : Glob w) :
    Calls Tryd.prog 11 #[] w fun e w' => e = .returned (.bool true) ∧ w' = w := by
  have m1 := trivial
  have m2 := trivial
  go_enter Tryd.func11, Tryd.ntmps11
  go_wp2_with (first
    | (clear m2; go_at_call 7; refine (next_first3 _ (by assumption)).mono ?_; rintro e w1 ⟨rfl, rfl⟩)
    | (clear m1; go_at_call 7; refine (next_first0 _ (by assumption)).mono ?_; rintro e w1 ⟨rfl, rfl⟩)
    | (go_at_call 6; refine (who_35 _ (by assumption)).mono ?_; rintro e w1 ⟨rfl, rfl⟩; have m3 := trivial; have m4 := trivial)
    | (clear m4; go_at_call 9; refine (check_no 0 (by decide) _).mono ?_; rintro e w1 ⟨rfl, rfl⟩)
    | (clear m3; go_at_call 9; refine (check_no 8 (by decide) _).mono ?_; rintro e w1 ⟨rfl, rfl⟩))
  go_ret
  exact ⟨rfl, rfl⟩

theorem in_yes (x a b : Int) (h1 : a ≤ x) (h2 : x ≤ b) (w : World) :
    Calls Tryd.prog 14 #[.int .i64 x, .int .i64 a, .int .i64 b] w fun e w' => e = .returned (.bool true) ∧ w' = w := by
  go_enter Tryd.func14, Tryd.ntmps14
  go_wp2
  go_ret
  exact ⟨by simp, rfl⟩
theorem in_no (x a b : Int) (h : ¬ (a ≤ x ∧ x ≤ b)) (w : World) :
    Calls Tryd.prog 14 #[.int .i64 x, .int .i64 a, .int .i64 b] w fun e w' => e = .returned (.bool false) ∧ w' = w := by
  by_cases h1 : x < a
  · clear h
    go_enter Tryd.func14, Tryd.ntmps14
    go_wp2
    go_ret
    exact ⟨rfl, rfl⟩
  · have h2 : b < x := by omega
    have h3 : a ≤ x := by omega
    clear h h1
    go_enter Tryd.func14, Tryd.ntmps14
    go_wp2
    go_ret
    exact ⟨by simp; omega, rfl⟩
theorem inn_yes (x a b : Int) (h1 : a ≤ x) (h2 : x ≤ b) (w : World) :
    Calls Tryd.prog 15 #[.int .i64 x, .int .i64 a, .int .i64 b] w fun e w' => e = .returned (.bool true) ∧ w' = w := by
  go_enter Tryd.func15, Tryd.ntmps15
  go_wp2
  go_ret
  exact ⟨by simp, rfl⟩
theorem inn_no (x a b : Int) (h : ¬ (a ≤ x ∧ x ≤ b)) (w : World) :
    Calls Tryd.prog 15 #[.int .i64 x, .int .i64 a, .int .i64 b] w fun e w' => e = .returned (.bool false) ∧ w' = w := by
  by_cases h1 : x < a
  · clear h
    go_enter Tryd.func15, Tryd.ntmps15
    go_wp2
    go_ret
    exact ⟨rfl, rfl⟩
  · have h2 : b < x := by omega
    have h3 : a ≤ x := by omega
    clear h h1
    go_enter Tryd.func15, Tryd.ntmps15
    go_wp2
    go_ret
    exact ⟨by simp; omega, rfl⟩
theorem isnode_q (x : Int) (w : World) :
    Calls Tryd.prog 10 #[.int .i64 x] w fun e w' => e = .returned (.bool (decide (IsN x))) ∧ w' = w := by
  by_cases h : IsN x
  · rw [decide_eq_true h]
    obtain ⟨h1, h2⟩ := h
    have h3 : x ≤ 7 := by omega
    go_enter Tryd.func10, Tryd.ntmps10
    go_wp2_with (go_at_call 15; refine (inn_yes _ _ _ (by assumption) (by assumption) _).mono ?_; rintro e w1 ⟨rfl, rfl⟩)
    go_ret
    exact ⟨rfl, rfl⟩
  · rw [decide_eq_false h]
    have h3 : ¬ (0 ≤ x ∧ x ≤ 7) := by unfold IsN at h; omega
    go_enter Tryd.func10, Tryd.ntmps10
    go_wp2_with (go_at_call 15; refine (inn_no _ _ _ (by assumption) _).mono ?_; rintro e w1 ⟨rfl, rfl⟩)
    go_ret
    exact ⟨rfl, rfl⟩
theorem epoch_yes (x : Int) (h : Ep x) (w : World) :
    Calls Tryd.prog 8 #[.int .i64 x] w fun e w' => e = .returned (.bool true) ∧ w' = w := by
  obtain ⟨⟨h1, h2⟩, h3⟩ := h
  go_enter Tryd.func8, Tryd.ntmps8
  go_wp2_with (go_at_call 14; refine (in_yes _ _ _ (by assumption) (by assumption) _).mono ?_; rintro e w1 ⟨rfl, rfl⟩)
  go_ret
  exact ⟨by simp, rfl⟩
theorem epoch_far (x : Int) (h : ¬ (1 ≤ x ∧ x ≤ 1073741824)) (w : World) :
    Calls Tryd.prog 8 #[.int .i64 x] w fun e w' => e = .returned (.bool false) ∧ w' = w := by
  go_enter Tryd.func8, Tryd.ntmps8
  go_wp2_with (go_at_call 14; refine (in_no _ _ _ (by assumption) _).mono ?_; rintro e w1 ⟨rfl, rfl⟩)
  go_ret
  exact ⟨rfl, rfl⟩
theorem epoch_none (x : Int) (h1 : 1 ≤ x) (h2 : x ≤ 1073741824) (h3 : 8 ≤ x % 16) (w : World) :
    Calls Tryd.prog 8 #[.int .i64 x] w fun e w' => e = .returned (.bool false) ∧ w' = w := by
  go_enter Tryd.func8, Tryd.ntmps8
  go_wp2_with (go_at_call 14; refine (in_yes _ _ _ (by assumption) (by assumption) _).mono ?_; rintro e w1 ⟨rfl, rfl⟩)
  go_ret
  exact ⟨by simp; omega, rfl⟩
theorem epoch_no (x : Int) (h : ¬ Ep x) (w : World) :
    Calls Tryd.prog 8 #[.int .i64 x] w fun e w' => e = .returned (.bool false) ∧ w' = w := by
  by_cases h1 : 1 ≤ x ∧ x ≤ 1073741824
  · exact epoch_none x h1.1 h1.2 (by unfold Ep at h; omega) w
  · exact epoch_far x h1 w
/-- What the page's NextEpoch answers. -/
def px (n t : Int) : Int := if nx n t ≤ 1073741824 then nx n t else 0
theorem pnext (n t : Int) (hN : IsN n) (hT : Tp t) (w : World) :
    Calls Tryd.prog 12 #[.int .i64 n, .int .i64 t] w fun e w' => e = .returned (.int .i64 (px n t)) ∧ w' = w := by
  obtain ⟨h1, h2⟩ := hT
  obtain ⟨n1, n2⟩ := id hN
  unfold px nx
  by_cases h3 : t - t % 16 + n ≤ t
  · rw [if_pos h3]
    by_cases h4 : t - t % 16 + n + 16 ≤ 1073741824
    · rw [if_pos h4]
      go_enter Tryd.func12, Tryd.ntmps12
      go_wp2
      go_ret
      exact ⟨rfl, rfl⟩
    · rw [if_neg h4]
      go_enter Tryd.func12, Tryd.ntmps12
      go_wp2
      go_ret
      exact ⟨rfl, rfl⟩
  · rw [if_neg h3]
    by_cases h4 : t - t % 16 + n ≤ 1073741824
    · rw [if_pos h4]
      go_enter Tryd.func12, Tryd.ntmps12
      go_wp2
      go_ret
      exact ⟨rfl, rfl⟩
    · rw [if_neg h4]
      go_enter Tryd.func12, Tryd.ntmps12
      go_wp2
      go_ret
      exact ⟨rfl, rfl⟩
end Go.Proofs.YtmnidpbmifdflaaDoor
