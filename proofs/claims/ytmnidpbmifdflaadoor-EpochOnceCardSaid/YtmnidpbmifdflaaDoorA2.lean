/- Walks of epoch.Who, epoch.Check, epoch.Next. -/
import Derived.Test.YtmnidpbmifdflaaDoorA1
namespace Go.Proofs.YtmnidpbmifdflaaDoor
open Go.RowKit

/-- An epoch. -/
abbrev Ep (e : Int) : Prop := (1 ≤ e ∧ e ≤ 1073741824) ∧ e % 16 < 8
theorem who_far (x : Int) (h : ¬ (1 ≤ x ∧ x ≤ 1073741824)) (w : World) :
    Calls Tryd.prog 6 #[.int .i64 x] w fun e w' => e = .returned (.tuple #[.int .i64 0, .int .i64 1]) ∧ w' = w := by
  by_cases h1 : x < 1
  · clear h
    go_enter Tryd.func6, Tryd.ntmps6
    go_wp2
    go_ret2
    exact ⟨rfl, rfl⟩
  · have h2 : 1073741824 < x := by omega
    clear h
    go_enter Tryd.func6, Tryd.ntmps6
    go_wp2
    go_ret2
    exact ⟨rfl, rfl⟩
theorem who_ok (x : Int) (h : Ep x) (w : World) (hG : Glob w) :
    Calls Tryd.prog 6 #[.int .i64 x] w fun e w' => e = .returned (.tuple #[.int .i64 (x % 16), .int .i64 0]) ∧ w' = w := by
  obtain ⟨⟨h1, h2⟩, h3⟩ := h
  have hN : IsN (x % 16) := ⟨by omega, h3⟩
  go_enter Tryd.func6, Tryd.ntmps6
  go_wp2_with (go_at_call 13; refine (isnode_yes _ (by assumption) _ (by assumption)).mono ?_; rintro e w1 ⟨rfl, rfl⟩)
  go_ret2
  exact ⟨rfl, rfl⟩
theorem who_none (x : Int) (h1 : 1 ≤ x) (h2 : x ≤ 1073741824) (h3 : 8 ≤ x % 16) (w : World) :
    Calls Tryd.prog 6 #[.int .i64 x] w fun e w' => e = .returned (.tuple #[.int .i64 0, .int .i64 1]) ∧ w' = w := by
  have hN : ¬ IsN (x % 16) := fun h => by have := h.2; omega
  go_enter Tryd.func6, Tryd.ntmps6
  go_wp2_with (go_at_call 13; refine (isnode_no _ (by assumption) _).mono ?_; rintro e w1 ⟨rfl, rfl⟩)
  go_ret2
  exact ⟨rfl, rfl⟩
theorem who_no (x : Int) (h : ¬ Ep x) (w : World) :
    Calls Tryd.prog 6 #[.int .i64 x] w fun e w' => e = .returned (.tuple #[.int .i64 0, .int .i64 1]) ∧ w' = w := by
  by_cases h1 : 1 ≤ x ∧ x ≤ 1073741824
  · exact who_none x h1.1 h1.2 (by unfold Ep at h; omega) w
  · exact who_far x h1 w
theorem check_ok (x : Int) (h : Ep x) (w : World) (hG : Glob w) :
    Calls Tryd.prog 9 #[.int .i64 x] w fun e w' => e = .returned (.int .i64 0) ∧ w' = w := by
  go_enter Tryd.func9, Tryd.ntmps9
  go_wp2_with (go_at_call 6; refine (who_ok _ (by assumption) _ (by assumption)).mono ?_; rintro e w1 ⟨rfl, rfl⟩)
  go_ret
  exact ⟨rfl, rfl⟩
theorem check_no (x : Int) (h : ¬ Ep x) (w : World) :
    Calls Tryd.prog 9 #[.int .i64 x] w fun e w' => e = .returned (.int .i64 1) ∧ w' = w := by
  go_enter Tryd.func9, Tryd.ntmps9
  go_wp2_with (go_at_call 6; refine (who_no _ (by assumption) _).mono ?_; rintro e w1 ⟨rfl, rfl⟩)
  go_ret
  exact ⟨rfl, rfl⟩

/-- The highest one known. -/
abbrev Tp (t : Int) : Prop := 0 ≤ t ∧ t ≤ 1073741824
/-- The next epoch of node n above t, were there no limit. -/
def nx (n t : Int) : Int := if t - t % 16 + n ≤ t then t - t % 16 + n + 16 else t - t % 16 + n
theorem next_arg (n t : Int) (h : ¬ (IsN n ∧ Tp t)) (w : World) (hG : Glob w) :
    Calls Tryd.prog 7 #[.int .i64 n, .int .i64 t] w fun e w' => e = .returned (.tuple #[.int .i64 0, .int .i64 1]) ∧ w' = w := by
  by_cases hN : IsN n
  · by_cases h1 : t < 0
    · clear h
      go_enter Tryd.func7, Tryd.ntmps7
      go_wp2_with (go_at_call 13; refine (isnode_yes _ (by assumption) _ (by assumption)).mono ?_; rintro e w1 ⟨rfl, rfl⟩)
      go_ret2
      exact ⟨rfl, rfl⟩
    · have h2 : 1073741824 < t := by
        have h3 : ¬ Tp t := fun k => h ⟨hN, k⟩
        unfold Tp at h3
        omega
      clear h
      go_enter Tryd.func7, Tryd.ntmps7
      go_wp2_with (go_at_call 13; refine (isnode_yes _ (by assumption) _ (by assumption)).mono ?_; rintro e w1 ⟨rfl, rfl⟩)
      go_ret2
      exact ⟨rfl, rfl⟩
  · clear h
    go_enter Tryd.func7, Tryd.ntmps7
    go_wp2_with (go_at_call 13; refine (isnode_no _ (by assumption) _).mono ?_; rintro e w1 ⟨rfl, rfl⟩)
    go_ret2
    exact ⟨rfl, rfl⟩
theorem next_ok (n t : Int) (hN : IsN n) (hT : Tp t) (hx : nx n t ≤ 1073741824) (w : World) (hG : Glob w) :
    Calls Tryd.prog 7 #[.int .i64 n, .int .i64 t] w fun e w' => e = .returned (.tuple #[.int .i64 (nx n t), .int .i64 0]) ∧ w' = w := by
  obtain ⟨h1, h2⟩ := hT
  obtain ⟨n1, n2⟩ := id hN
  unfold nx at hx ⊢
  by_cases h3 : t - t % 16 + n ≤ t
  · rw [if_pos h3] at hx ⊢
    go_enter Tryd.func7, Tryd.ntmps7
    go_wp2_with (go_at_call 13; refine (isnode_yes _ (by assumption) _ (by assumption)).mono ?_; rintro e w1 ⟨rfl, rfl⟩)
    go_ret2
    exact ⟨rfl, rfl⟩
  · rw [if_neg h3] at hx ⊢
    go_enter Tryd.func7, Tryd.ntmps7
    go_wp2_with (go_at_call 13; refine (isnode_yes _ (by assumption) _ (by assumption)).mono ?_; rintro e w1 ⟨rfl, rfl⟩)
    go_ret2
    exact ⟨rfl, rfl⟩
theorem next_quota (n t : Int) (hN : IsN n) (hT : Tp t) (hx : 1073741824 < nx n t) (w : World) (hG : Glob w) :
    Calls Tryd.prog 7 #[.int .i64 n, .int .i64 t] w fun e w' => e = .returned (.tuple #[.int .i64 0, .int .i64 11]) ∧ w' = w := by
  obtain ⟨h1, h2⟩ := hT
  obtain ⟨n1, n2⟩ := id hN
  unfold nx at hx
  by_cases h3 : t - t % 16 + n ≤ t
  · rw [if_pos h3] at hx
    go_enter Tryd.func7, Tryd.ntmps7
    go_wp2_with (go_at_call 13; refine (isnode_yes _ (by assumption) _ (by assumption)).mono ?_; rintro e w1 ⟨rfl, rfl⟩)
    go_ret2
    exact ⟨rfl, rfl⟩
  · rw [if_neg h3] at hx
    go_enter Tryd.func7, Tryd.ntmps7
    go_wp2_with (go_at_call 13; refine (isnode_yes _ (by assumption) _ (by assumption)).mono ?_; rintro e w1 ⟨rfl, rfl⟩)
    go_ret2
    exact ⟨rfl, rfl⟩
end Go.Proofs.YtmnidpbmifdflaaDoor
