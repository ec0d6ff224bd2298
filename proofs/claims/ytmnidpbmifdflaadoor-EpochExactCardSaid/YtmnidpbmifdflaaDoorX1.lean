/- Walk of bellwetherlaw14.EpochExact. -/
import Derived.Test.YtmnidpbmifdflaaDoorA3
namespace Go.Proofs.YtmnidpbmifdflaaDoor
open Go.RowKit

theorem pnode_yes (x : Int) (h : IsN x) (w : World) :
    Calls Tryd.prog 10 #[.int .i64 x] w fun e w' => e = .returned (.bool true) ∧ w' = w := by
  have := isnode_q x w
  rwa [decide_eq_true h] at this
theorem pnode_no (x : Int) (h : ¬ IsN x) (w : World) :
    Calls Tryd.prog 10 #[.int .i64 x] w fun e w' => e = .returned (.bool false) ∧ w' = w := by
  have := isnode_q x w
  rwa [decide_eq_false h] at this
theorem pnext_no (n t : Int) (hN : IsN n) (hT : Tp t) (h : 1073741824 < nx n t) (w : World) :
    Calls Tryd.prog 12 #[.int .i64 n, .int .i64 t] w fun e w' => e = .returned (.int .i64 0) ∧ w' = w := by
  have := pnext n t hN hT w
  rwa [px, if_neg (by omega)] at this
theorem pnext_ok (n t : Int) (hN : IsN n) (hT : Tp t) (h : nx n t ≤ 1073741824) (w : World) :
    Calls Tryd.prog 12 #[.int .i64 n, .int .i64 t] w fun e w' => e = .returned (.int .i64 (nx n t)) ∧ w' = w := by
  have := pnext n t hN hT w
  rwa [px, if_pos h] at this
theorem next_ask (n t : Int) (hN : ¬ IsN n) (w : World) (hG : Glob w) :
    Calls Tryd.prog 7 #[.int .i64 n, .int .i64 t] w fun e w' => e = .returned (.tuple #[.int .i64 0, .int .i64 1]) ∧ w' = w :=
  next_arg n t (fun h => hN h.1) w hG
theorem next_low (n t : Int) (h : t < 0) (w : World) (hG : Glob w) :
    Calls Tryd.prog 7 #[.int .i64 n, .int .i64 t] w fun e w' => e = .returned (.tuple #[.int .i64 0, .int .i64 1]) ∧ w' = w :=
  next_arg n t (fun k => by have := k.2.1; omega) w hG
theorem next_high (n t : Int) (h : 1073741824 < t) (w : World) (hG : Glob w) :
    Calls Tryd.prog 7 #[.int .i64 n, .int .i64 t] w fun e w' => e = .returned (.tuple #[.int .i64 0, .int .i64 1]) ∧ w' = w :=
  next_arg n t (fun k => by have := k.2.2; omega) w hG
theorem exact_y_ask (x n t : Int) (he : Ep x) (hn : ¬ IsN n) (w : World) (hG : Glob w) :
    Calls Tryd.prog 3 #[.int .i64 x, .int .i64 n, .int .i64 t] w fun e w' => e = .returned (.bool true) ∧ w' = w := by
  have he1 : 1 ≤ x := he.1.1
  go_enter Tryd.func3, Tryd.ntmps3
  go_wp2_with (first
    | (go_at_call 6; refine (who_ok _ (by assumption) _ (by assumption)).mono ?_; rintro e w1 ⟨rfl, rfl⟩)
    | (go_at_call 9; refine (check_ok _ (by assumption) _ (by assumption)).mono ?_; rintro e w1 ⟨rfl, rfl⟩)
    | (go_at_call 8; refine (epoch_yes _ (by assumption) _).mono ?_; rintro e w1 ⟨rfl, rfl⟩)
    | (go_at_call 7; refine (next_ask _ _ (by assumption) _ (by assumption)).mono ?_; rintro e w1 ⟨rfl, rfl⟩)
    | (go_at_call 10; refine (pnode_no _ (by assumption) _).mono ?_; rintro e w1 ⟨rfl, rfl⟩)
    | (go_at_call 11; refine (wakes_is _ (by assumption)).mono ?_; rintro e w1 ⟨rfl, rfl⟩))
  go_ret
  exact ⟨rfl, rfl⟩
theorem exact_y_low (x n t : Int) (he : Ep x) (hn : IsN n) (ht : t < 0) (w : World) (hG : Glob w) :
    Calls Tryd.prog 3 #[.int .i64 x, .int .i64 n, .int .i64 t] w fun e w' => e = .returned (.bool true) ∧ w' = w := by
  have he1 : 1 ≤ x := he.1.1
  go_enter Tryd.func3, Tryd.ntmps3
  go_wp2_with (first
    | (go_at_call 6; refine (who_ok _ (by assumption) _ (by assumption)).mono ?_; rintro e w1 ⟨rfl, rfl⟩)
    | (go_at_call 9; refine (check_ok _ (by assumption) _ (by assumption)).mono ?_; rintro e w1 ⟨rfl, rfl⟩)
    | (go_at_call 8; refine (epoch_yes _ (by assumption) _).mono ?_; rintro e w1 ⟨rfl, rfl⟩)
    | (go_at_call 7; refine (next_low _ _ (by assumption) _ (by assumption)).mono ?_; rintro e w1 ⟨rfl, rfl⟩)
    | (go_at_call 10; refine (pnode_yes _ (by assumption) _).mono ?_; rintro e w1 ⟨rfl, rfl⟩)
    | (go_at_call 11; refine (wakes_is _ (by assumption)).mono ?_; rintro e w1 ⟨rfl, rfl⟩))
  go_ret
  exact ⟨rfl, rfl⟩
theorem exact_y_high (x n t : Int) (he : Ep x) (hn : IsN n) (ht : 1073741824 < t) (w : World) (hG : Glob w) :
    Calls Tryd.prog 3 #[.int .i64 x, .int .i64 n, .int .i64 t] w fun e w' => e = .returned (.bool true) ∧ w' = w := by
  have he1 : 1 ≤ x := he.1.1
  go_enter Tryd.func3, Tryd.ntmps3
  go_wp2_with (first
    | (go_at_call 6; refine (who_ok _ (by assumption) _ (by assumption)).mono ?_; rintro e w1 ⟨rfl, rfl⟩)
    | (go_at_call 9; refine (check_ok _ (by assumption) _ (by assumption)).mono ?_; rintro e w1 ⟨rfl, rfl⟩)
    | (go_at_call 8; refine (epoch_yes _ (by assumption) _).mono ?_; rintro e w1 ⟨rfl, rfl⟩)
    | (go_at_call 7; refine (next_high _ _ (by assumption) _ (by assumption)).mono ?_; rintro e w1 ⟨rfl, rfl⟩)
    | (go_at_call 10; refine (pnode_yes _ (by assumption) _).mono ?_; rintro e w1 ⟨rfl, rfl⟩)
    | (go_at_call 11; refine (wakes_is _ (by assumption)).mono ?_; rintro e w1 ⟨rfl, rfl⟩))
  go_ret
  exact ⟨rfl, rfl⟩
theorem exact_y_none (x n t : Int) (he : Ep x) (hn : IsN n) (ht : Tp t) (hx : 1073741824 < nx n t) (w : World) (hG : Glob w) :
    Calls Tryd.prog 3 #[.int .i64 x, .int .i64 n, .int .i64 t] w fun e w' => e = .returned (.bool true) ∧ w' = w := by
  have he1 : 1 ≤ x := he.1.1
  have t1 := ht.1
  have t2 := ht.2
  go_enter Tryd.func3, Tryd.ntmps3
  go_wp2_with (first
    | (go_at_call 6; refine (who_ok _ (by assumption) _ (by assumption)).mono ?_; rintro e w1 ⟨rfl, rfl⟩)
    | (go_at_call 9; refine (check_ok _ (by assumption) _ (by assumption)).mono ?_; rintro e w1 ⟨rfl, rfl⟩)
    | (go_at_call 8; refine (epoch_yes _ (by assumption) _).mono ?_; rintro e w1 ⟨rfl, rfl⟩)
    | (go_at_call 7; refine (next_quota _ _ (by assumption) (by assumption) (by assumption) _ (by assumption)).mono ?_; rintro e w1 ⟨rfl, rfl⟩)
    | (go_at_call 10; refine (pnode_yes _ (by assumption) _).mono ?_; rintro e w1 ⟨rfl, rfl⟩)
    | (go_at_call 12; refine (pnext_no _ _ (by assumption) (by assumption) (by assumption) _).mono ?_; rintro e w1 ⟨rfl, rfl⟩)
    | (go_at_call 11; refine (wakes_is _ (by assumption)).mono ?_; rintro e w1 ⟨rfl, rfl⟩))
  go_ret
  exact ⟨rfl, rfl⟩
theorem exact_y_ok (x n t : Int) (he : Ep x) (hn : IsN n) (ht : Tp t) (hx : nx n t ≤ 1073741824) (w : World) (hG : Glob w) :
    Calls Tryd.prog 3 #[.int .i64 x, .int .i64 n, .int .i64 t] w fun e w' => e = .returned (.bool true) ∧ w' = w := by
  have he1 : 1 ≤ x := he.1.1
  have t1 := ht.1
  have t2 := ht.2
  have hX : 0 < nx n t := by have := (nx_above n t hn ht).1; omega
  generalize hq : nx n t = X at hX
  go_enter Tryd.func3, Tryd.ntmps3
  go_wp2_with (first
    | (go_at_call 6; refine (who_ok _ (by assumption) _ (by assumption)).mono ?_; rintro e w1 ⟨rfl, rfl⟩)
    | (go_at_call 9; refine (check_ok _ (by assumption) _ (by assumption)).mono ?_; rintro e w1 ⟨rfl, rfl⟩)
    | (go_at_call 8; refine (epoch_yes _ (by assumption) _).mono ?_; rintro e w1 ⟨rfl, rfl⟩)
    | (go_at_call 7; refine (next_ok _ _ (by assumption) (by assumption) (by assumption) _ (by assumption)).mono ?_; rw [hq]; rintro e w1 ⟨rfl, rfl⟩)
    | (go_at_call 10; refine (pnode_yes _ (by assumption) _).mono ?_; rintro e w1 ⟨rfl, rfl⟩)
    | (go_at_call 12; refine (pnext_ok _ _ (by assumption) (by assumption) (by assumption) _).mono ?_; rw [hq]; rintro e w1 ⟨rfl, rfl⟩)
    | (go_at_call 11; refine (wakes_is _ (by assumption)).mono ?_; rintro e w1 ⟨rfl, rfl⟩))
  go_ret
  exact ⟨rfl, rfl⟩
theorem exact_n_ask (x n t : Int) (he : ¬ Ep x) (hn : ¬ IsN n) (w : World) (hG : Glob w) :
    Calls Tryd.prog 3 #[.int .i64 x, .int .i64 n, .int .i64 t] w fun e w' => e = .returned (.bool true) ∧ w' = w := by
  go_enter Tryd.func3, Tryd.ntmps3
  go_wp2_with (first
    | (go_at_call 6; refine (who_no _ (by assumption) _).mono ?_; rintro e w1 ⟨rfl, rfl⟩)
    | (go_at_call 9; refine (check_no _ (by assumption) _).mono ?_; rintro e w1 ⟨rfl, rfl⟩)
    | (go_at_call 8; refine (epoch_no _ (by assumption) _).mono ?_; rintro e w1 ⟨rfl, rfl⟩)
    | (go_at_call 7; refine (next_ask _ _ (by assumption) _ (by assumption)).mono ?_; rintro e w1 ⟨rfl, rfl⟩)
    | (go_at_call 10; refine (pnode_no _ (by assumption) _).mono ?_; rintro e w1 ⟨rfl, rfl⟩)
    | (go_at_call 11; refine (wakes_is _ (by assumption)).mono ?_; rintro e w1 ⟨rfl, rfl⟩))
  go_ret
  exact ⟨rfl, rfl⟩
theorem exact_n_low (x n t : Int) (he : ¬ Ep x) (hn : IsN n) (ht : t < 0) (w : World) (hG : Glob w) :
    Calls Tryd.prog 3 #[.int .i64 x, .int .i64 n, .int .i64 t] w fun e w' => e = .returned (.bool true) ∧ w' = w := by
  go_enter Tryd.func3, Tryd.ntmps3
  go_wp2_with (first
    | (go_at_call 6; refine (who_no _ (by assumption) _).mono ?_; rintro e w1 ⟨rfl, rfl⟩)
    | (go_at_call 9; refine (check_no _ (by assumption) _).mono ?_; rintro e w1 ⟨rfl, rfl⟩)
    | (go_at_call 8; refine (epoch_no _ (by assumption) _).mono ?_; rintro e w1 ⟨rfl, rfl⟩)
    | (go_at_call 7; refine (next_low _ _ (by assumption) _ (by assumption)).mono ?_; rintro e w1 ⟨rfl, rfl⟩)
    | (go_at_call 10; refine (pnode_yes _ (by assumption) _).mono ?_; rintro e w1 ⟨rfl, rfl⟩)
    | (go_at_call 11; refine (wakes_is _ (by assumption)).mono ?_; rintro e w1 ⟨rfl, rfl⟩))
  go_ret
  exact ⟨rfl, rfl⟩
theorem exact_n_high (x n t : Int) (he : ¬ Ep x) (hn : IsN n) (ht : 1073741824 < t) (w : World) (hG : Glob w) :
    Calls Tryd.prog 3 #[.int .i64 x, .int .i64 n, .int .i64 t] w fun e w' => e = .returned (.bool true) ∧ w' = w := by
  go_enter Tryd.func3, Tryd.ntmps3
  go_wp2_with (first
    | (go_at_call 6; refine (who_no _ (by assumption) _).mono ?_; rintro e w1 ⟨rfl, rfl⟩)
    | (go_at_call 9; refine (check_no _ (by assumption) _).mono ?_; rintro e w1 ⟨rfl, rfl⟩)
    | (go_at_call 8; refine (epoch_no _ (by assumption) _).mono ?_; rintro e w1 ⟨rfl, rfl⟩)
    | (go_at_call 7; refine (next_high _ _ (by assumption) _ (by assumption)).mono ?_; rintro e w1 ⟨rfl, rfl⟩)
    | (go_at_call 10; refine (pnode_yes _ (by assumption) _).mono ?_; rintro e w1 ⟨rfl, rfl⟩)
    | (go_at_call 11; refine (wakes_is _ (by assumption)).mono ?_; rintro e w1 ⟨rfl, rfl⟩))
  go_ret
  exact ⟨rfl, rfl⟩
theorem exact_n_none (x n t : Int) (he : ¬ Ep x) (hn : IsN n) (ht : Tp t) (hx : 1073741824 < nx n t) (w : World) (hG : Glob w) :
    Calls Tryd.prog 3 #[.int .i64 x, .int .i64 n, .int .i64 t] w fun e w' => e = .returned (.bool true) ∧ w' = w := by
  have t1 := ht.1
  have t2 := ht.2
  go_enter Tryd.func3, Tryd.ntmps3
  go_wp2_with (first
    | (go_at_call 6; refine (who_no _ (by assumption) _).mono ?_; rintro e w1 ⟨rfl, rfl⟩)
    | (go_at_call 9; refine (check_no _ (by assumption) _).mono ?_; rintro e w1 ⟨rfl, rfl⟩)
    | (go_at_call 8; refine (epoch_no _ (by assumption) _).mono ?_; rintro e w1 ⟨rfl, rfl⟩)
    | (go_at_call 7; refine (next_quota _ _ (by assumption) (by assumption) (by assumption) _ (by assumption)).mono ?_; rintro e w1 ⟨rfl, rfl⟩)
    | (go_at_call 10; refine (pnode_yes _ (by assumption) _).mono ?_; rintro e w1 ⟨rfl, rfl⟩)
    | (go_at_call 12; refine (pnext_no _ _ (by assumption) (by assumption) (by assumption) _).mono ?_; rintro e w1 ⟨rfl, rfl⟩)
    | (go_at_call 11; refine (wakes_is _ (by assumption)).mono ?_; rintro e w1 ⟨rfl, rfl⟩))
  go_ret
  exact ⟨rfl, rfl⟩
theorem exact_n_ok (x n t : Int) (he : ¬ Ep x) (hn : IsN n) (ht : Tp t) (hx : nx n t ≤ 1073741824) (w : World) (hG : Glob w) :
    Calls Tryd.prog 3 #[.int .i64 x, .int .i64 n, .int .i64 t] w fun e w' => e = .returned (.bool true) ∧ w' = w := by
  have t1 := ht.1
  have t2 := ht.2
  have hX : 0 < nx n t := by have := (nx_above n t hn ht).1; omega
  generalize hq : nx n t = X at hX
  go_enter Tryd.func3, Tryd.ntmps3
  go_wp2_with (first
    | (go_at_call 6; refine (who_no _ (by assumption) _).mono ?_; rintro e w1 ⟨rfl, rfl⟩)
    | (go_at_call 9; refine (check_no _ (by assumption) _).mono ?_; rintro e w1 ⟨rfl, rfl⟩)
    | (go_at_call 8; refine (epoch_no _ (by assumption) _).mono ?_; rintro e w1 ⟨rfl, rfl⟩)
    | (go_at_call 7; refine (next_ok _ _ (by assumption) (by assumption) (by assumption) _ (by assumption)).mono ?_; rw [hq]; rintro e w1 ⟨rfl, rfl⟩)
    | (go_at_call 10; refine (pnode_yes _ (by assumption) _).mono ?_; rintro e w1 ⟨rfl, rfl⟩)
    | (go_at_call 12; refine (pnext_ok _ _ (by assumption) (by assumption) (by assumption) _).mono ?_; rw [hq]; rintro e w1 ⟨rfl, rfl⟩)
    | (go_at_call 11; refine (wakes_is _ (by assumption)).mono ?_; rintro e w1 ⟨rfl, rfl⟩))
  go_ret
  exact ⟨rfl, rfl⟩
theorem exact_walk (x n t : Int) (w : World) (hG : Glob w) :
    Calls Tryd.prog 3 #[.int .i64 x, .int .i64 n, .int .i64 t] w fun e w' => e = .returned (.bool true) ∧ Below w.heap.size w w' := by
  have key : Calls Tryd.prog 3 #[.int .i64 x, .int .i64 n, .int .i64 t] w fun e w' => e = .returned (.bool true) ∧ w' = w := by
    by_cases he : Ep x
    · by_cases hn : IsN n
      · by_cases h1 : t < 0
        · exact exact_y_low x n t he hn h1 w hG
        · by_cases h2 : 1073741824 < t
          · exact exact_y_high x n t he hn h2 w hG
          · have ht : Tp t := ⟨by omega, by omega⟩
            by_cases hx : nx n t ≤ 1073741824
            · exact exact_y_ok x n t he hn ht hx w hG
            · exact exact_y_none x n t he hn ht (by omega) w hG
      · exact exact_y_ask x n t he hn w hG
    · by_cases hn : IsN n
      · by_cases h1 : t < 0
        · exact exact_n_low x n t he hn h1 w hG
        · by_cases h2 : 1073741824 < t
          · exact exact_n_high x n t he hn h2 w hG
          · have ht : Tp t := ⟨by omega, by omega⟩
            by_cases hx : nx n t ≤ 1073741824
            · exact exact_n_ok x n t he hn ht hx w hG
            · exact exact_n_none x n t he hn ht (by omega) w hG
      · exact exact_n_ask x n t he hn w hG
  refine key.mono ?_
  rintro e w' ⟨rfl, rfl⟩
  exact ⟨rfl, Below.refl _ _⟩
end Go.Proofs.YtmnidpbmifdflaaDoor
