/- bellwetherlaw02.KeyExact walked where Between is false. -/
import Derived.Test.YtdakjfmfbndioaaK6
import Derived.ProofKit
namespace Go.Proofs.Ytdakjfmfbndioaa.keyExact
open Go.RowKit
set_option linter.unusedVariables false
set_option maxHeartbeats 20000000 in
theorem walk_false (a0 a1 a2 a3 : Int) (w0 : (Lit.int .i64 a0).wf = true) (w1 : (Lit.int .i64 a1).wf = true) (w2 : (Lit.int .i64 a2).wf = true) (w3 : (Lit.int .i64 a3).wf = true) (ht : BT a0 a1 a2 false)
    (hs : (∃ n : Nat, a3 = n ∧ n ≤ 61 ∧ Key a1) ∨ (¬ Key a1 ∨ a3 < 0 ∨ 61 < a3)) (w : World) :
    Calls Try.prog 3 #[.int .i64 a0, .int .i64 a1, .int .i64 a2, .int .i64 a3] w fun e w' => e = .returned (.bool true) ∧ Grown w w' := by
  by_cases ha : Key a0
  · by_cases hb : Key a2
    · obtain ⟨v, hv⟩ := beh_ex a0 a2 ha hb
      rcases hs with ⟨n, rfl, hn, hk⟩ | hs
      · obtain ⟨x, hx⟩ := bck_ex a1 n hk (by omega)
        obtain ⟨p1, p2⟩ := pow_bd n hn
        have kp : Key (2 ^ n) := by constructor <;> omega
        have hx2 : Beh (2 ^ n) a1 x := hx
        go_enter Try.func3, Try.ntmps3
        go_wp2_with (first
          | (go_at_call 9; refine (behind_is _ _ _ (by assumption) (by assumption) (by assumption) _).mono ?_; rintro e w1 ⟨rfl, rfl⟩)
          | (go_at_call 9; refine (behind_no _ _ (by assumption) _).mono ?_; rintro e w1 ⟨rfl, rfl⟩)
          | (go_at_call 10; refine (back_is _ _ _ (by assumption) (by omega) (by omega) (by assumption) _).mono ?_; rintro e w1 ⟨rfl, rfl⟩)
          | (go_at_call 10; refine (back_no _ _ (by assumption) _).mono ?_; rintro e w1 ⟨rfl, rfl⟩)
          | (go_at_call 11; refine (between_is _ _ _ _ (by assumption) _).mono ?_; rintro e w1 ⟨rfl, rfl⟩)
          | (go_at_call 12; refine (rbetween_is _ _ _ _ (by assumption) _).mono ?_; rintro e w1 ⟨rfl, rfl⟩)
          | (go_at_call 13; refine (check_is _ (by assumption) _).mono ?_; rintro e w1 ⟨rfl, rfl⟩)
          | (go_at_call 13; refine (check_no _ (by assumption) _).mono ?_; rintro e w1 ⟨rfl, rfl⟩)
          | (go_at_call 14; refine (in_is _ (by assumption) _).mono ?_; rintro e w1 ⟨rfl, rfl⟩)
          | (go_at_call 14; refine (in_no _ (by assumption) _).mono ?_; rintro e w1 ⟨rfl, rfl⟩)
          | (go_at_call 15; refine (rbehind_is _ _ _ (by assumption) (by assumption) (by assumption) _).mono ?_; rintro e w1 ⟨rfl, rfl⟩)
          | (go_at_call 16; refine (wakes_any _).mono ?_; rintro e w1 ⟨rfl, rfl⟩))
        all_goals go_ret
        all_goals exact ⟨rfl, Grown.refl _⟩
      · by_cases hk : Key a1
        · by_cases h1 : a3 < 0
          · go_enter Try.func3, Try.ntmps3
            go_wp2_with (first
              | (go_at_call 9; refine (behind_is _ _ _ (by assumption) (by assumption) (by assumption) _).mono ?_; rintro e w1 ⟨rfl, rfl⟩)
              | (go_at_call 9; refine (behind_no _ _ (by assumption) _).mono ?_; rintro e w1 ⟨rfl, rfl⟩)
              | (go_at_call 10; refine (back_is _ _ _ (by assumption) (by omega) (by omega) (by assumption) _).mono ?_; rintro e w1 ⟨rfl, rfl⟩)
              | (go_at_call 10; refine (back_no _ _ (by assumption) _).mono ?_; rintro e w1 ⟨rfl, rfl⟩)
              | (go_at_call 11; refine (between_is _ _ _ _ (by assumption) _).mono ?_; rintro e w1 ⟨rfl, rfl⟩)
              | (go_at_call 12; refine (rbetween_is _ _ _ _ (by assumption) _).mono ?_; rintro e w1 ⟨rfl, rfl⟩)
              | (go_at_call 13; refine (check_is _ (by assumption) _).mono ?_; rintro e w1 ⟨rfl, rfl⟩)
              | (go_at_call 13; refine (check_no _ (by assumption) _).mono ?_; rintro e w1 ⟨rfl, rfl⟩)
              | (go_at_call 14; refine (in_is _ (by assumption) _).mono ?_; rintro e w1 ⟨rfl, rfl⟩)
              | (go_at_call 14; refine (in_no _ (by assumption) _).mono ?_; rintro e w1 ⟨rfl, rfl⟩)
              | (go_at_call 15; refine (rbehind_is _ _ _ (by assumption) (by assumption) (by assumption) _).mono ?_; rintro e w1 ⟨rfl, rfl⟩)
              | (go_at_call 16; refine (wakes_any _).mono ?_; rintro e w1 ⟨rfl, rfl⟩))
            all_goals go_ret
            all_goals exact ⟨rfl, Grown.refl _⟩
          · have h2 : 61 < a3 := by
              rcases hs with h | h | h
              · exact absurd hk h
              · omega
              · exact h
            go_enter Try.func3, Try.ntmps3
            go_wp2_with (first
              | (go_at_call 9; refine (behind_is _ _ _ (by assumption) (by assumption) (by assumption) _).mono ?_; rintro e w1 ⟨rfl, rfl⟩)
              | (go_at_call 9; refine (behind_no _ _ (by assumption) _).mono ?_; rintro e w1 ⟨rfl, rfl⟩)
              | (go_at_call 10; refine (back_is _ _ _ (by assumption) (by omega) (by omega) (by assumption) _).mono ?_; rintro e w1 ⟨rfl, rfl⟩)
              | (go_at_call 10; refine (back_no _ _ (by assumption) _).mono ?_; rintro e w1 ⟨rfl, rfl⟩)
              | (go_at_call 11; refine (between_is _ _ _ _ (by assumption) _).mono ?_; rintro e w1 ⟨rfl, rfl⟩)
              | (go_at_call 12; refine (rbetween_is _ _ _ _ (by assumption) _).mono ?_; rintro e w1 ⟨rfl, rfl⟩)
              | (go_at_call 13; refine (check_is _ (by assumption) _).mono ?_; rintro e w1 ⟨rfl, rfl⟩)
              | (go_at_call 13; refine (check_no _ (by assumption) _).mono ?_; rintro e w1 ⟨rfl, rfl⟩)
              | (go_at_call 14; refine (in_is _ (by assumption) _).mono ?_; rintro e w1 ⟨rfl, rfl⟩)
              | (go_at_call 14; refine (in_no _ (by assumption) _).mono ?_; rintro e w1 ⟨rfl, rfl⟩)
              | (go_at_call 15; refine (rbehind_is _ _ _ (by assumption) (by assumption) (by assumption) _).mono ?_; rintro e w1 ⟨rfl, rfl⟩)
              | (go_at_call 16; refine (wakes_any _).mono ?_; rintro e w1 ⟨rfl, rfl⟩))
            all_goals go_ret
            all_goals exact ⟨rfl, Grown.refl _⟩
        · go_enter Try.func3, Try.ntmps3
          go_wp2_with (first
            | (go_at_call 9; refine (behind_is _ _ _ (by assumption) (by assumption) (by assumption) _).mono ?_; rintro e w1 ⟨rfl, rfl⟩)
            | (go_at_call 9; refine (behind_no _ _ (by assumption) _).mono ?_; rintro e w1 ⟨rfl, rfl⟩)
            | (go_at_call 10; refine (back_is _ _ _ (by assumption) (by omega) (by omega) (by assumption) _).mono ?_; rintro e w1 ⟨rfl, rfl⟩)
            | (go_at_call 10; refine (back_no _ _ (by assumption) _).mono ?_; rintro e w1 ⟨rfl, rfl⟩)
            | (go_at_call 11; refine (between_is _ _ _ _ (by assumption) _).mono ?_; rintro e w1 ⟨rfl, rfl⟩)
            | (go_at_call 12; refine (rbetween_is _ _ _ _ (by assumption) _).mono ?_; rintro e w1 ⟨rfl, rfl⟩)
            | (go_at_call 13; refine (check_is _ (by assumption) _).mono ?_; rintro e w1 ⟨rfl, rfl⟩)
            | (go_at_call 13; refine (check_no _ (by assumption) _).mono ?_; rintro e w1 ⟨rfl, rfl⟩)
            | (go_at_call 14; refine (in_is _ (by assumption) _).mono ?_; rintro e w1 ⟨rfl, rfl⟩)
            | (go_at_call 14; refine (in_no _ (by assumption) _).mono ?_; rintro e w1 ⟨rfl, rfl⟩)
            | (go_at_call 15; refine (rbehind_is _ _ _ (by assumption) (by assumption) (by assumption) _).mono ?_; rintro e w1 ⟨rfl, rfl⟩)
            | (go_at_call 16; refine (wakes_any _).mono ?_; rintro e w1 ⟨rfl, rfl⟩))
          all_goals go_ret
          all_goals exact ⟨rfl, Grown.refl _⟩
    · have hab : ¬ Key a0 ∨ ¬ Key a2 := .inr hb
      rcases hs with ⟨n, rfl, hn, hk⟩ | hs
      · obtain ⟨x, hx⟩ := bck_ex a1 n hk (by omega)
        obtain ⟨p1, p2⟩ := pow_bd n hn
        have kp : Key (2 ^ n) := by constructor <;> omega
        have hx2 : Beh (2 ^ n) a1 x := hx
        go_enter Try.func3, Try.ntmps3
        go_wp2_with (first
          | (go_at_call 9; refine (behind_is _ _ _ (by assumption) (by assumption) (by assumption) _).mono ?_; rintro e w1 ⟨rfl, rfl⟩)
          | (go_at_call 9; refine (behind_no _ _ (by assumption) _).mono ?_; rintro e w1 ⟨rfl, rfl⟩)
          | (go_at_call 10; refine (back_is _ _ _ (by assumption) (by omega) (by omega) (by assumption) _).mono ?_; rintro e w1 ⟨rfl, rfl⟩)
          | (go_at_call 10; refine (back_no _ _ (by assumption) _).mono ?_; rintro e w1 ⟨rfl, rfl⟩)
          | (go_at_call 11; refine (between_is _ _ _ _ (by assumption) _).mono ?_; rintro e w1 ⟨rfl, rfl⟩)
          | (go_at_call 12; refine (rbetween_is _ _ _ _ (by assumption) _).mono ?_; rintro e w1 ⟨rfl, rfl⟩)
          | (go_at_call 13; refine (check_is _ (by assumption) _).mono ?_; rintro e w1 ⟨rfl, rfl⟩)
          | (go_at_call 13; refine (check_no _ (by assumption) _).mono ?_; rintro e w1 ⟨rfl, rfl⟩)
          | (go_at_call 14; refine (in_is _ (by assumption) _).mono ?_; rintro e w1 ⟨rfl, rfl⟩)
          | (go_at_call 14; refine (in_no _ (by assumption) _).mono ?_; rintro e w1 ⟨rfl, rfl⟩)
          | (go_at_call 15; refine (rbehind_is _ _ _ (by assumption) (by assumption) (by assumption) _).mono ?_; rintro e w1 ⟨rfl, rfl⟩)
          | (go_at_call 16; refine (wakes_any _).mono ?_; rintro e w1 ⟨rfl, rfl⟩))
        all_goals go_ret
        all_goals exact ⟨rfl, Grown.refl _⟩
      · by_cases hk : Key a1
        · by_cases h1 : a3 < 0
          · go_enter Try.func3, Try.ntmps3
            go_wp2_with (first
              | (go_at_call 9; refine (behind_is _ _ _ (by assumption) (by assumption) (by assumption) _).mono ?_; rintro e w1 ⟨rfl, rfl⟩)
              | (go_at_call 9; refine (behind_no _ _ (by assumption) _).mono ?_; rintro e w1 ⟨rfl, rfl⟩)
              | (go_at_call 10; refine (back_is _ _ _ (by assumption) (by omega) (by omega) (by assumption) _).mono ?_; rintro e w1 ⟨rfl, rfl⟩)
              | (go_at_call 10; refine (back_no _ _ (by assumption) _).mono ?_; rintro e w1 ⟨rfl, rfl⟩)
              | (go_at_call 11; refine (between_is _ _ _ _ (by assumption) _).mono ?_; rintro e w1 ⟨rfl, rfl⟩)
              | (go_at_call 12; refine (rbetween_is _ _ _ _ (by assumption) _).mono ?_; rintro e w1 ⟨rfl, rfl⟩)
              | (go_at_call 13; refine (check_is _ (by assumption) _).mono ?_; rintro e w1 ⟨rfl, rfl⟩)
              | (go_at_call 13; refine (check_no _ (by assumption) _).mono ?_; rintro e w1 ⟨rfl, rfl⟩)
              | (go_at_call 14; refine (in_is _ (by assumption) _).mono ?_; rintro e w1 ⟨rfl, rfl⟩)
              | (go_at_call 14; refine (in_no _ (by assumption) _).mono ?_; rintro e w1 ⟨rfl, rfl⟩)
              | (go_at_call 15; refine (rbehind_is _ _ _ (by assumption) (by assumption) (by assumption) _).mono ?_; rintro e w1 ⟨rfl, rfl⟩)
              | (go_at_call 16; refine (wakes_any _).mono ?_; rintro e w1 ⟨rfl, rfl⟩))
            all_goals go_ret
            all_goals exact ⟨rfl, Grown.refl _⟩
          · have h2 : 61 < a3 := by
              rcases hs with h | h | h
              · exact absurd hk h
              · omega
              · exact h
            go_enter Try.func3, Try.ntmps3
            go_wp2_with (first
              | (go_at_call 9; refine (behind_is _ _ _ (by assumption) (by assumption) (by assumption) _).mono ?_; rintro e w1 ⟨rfl, rfl⟩)
              | (go_at_call 9; refine (behind_no _ _ (by assumption) _).mono ?_; rintro e w1 ⟨rfl, rfl⟩)
              | (go_at_call 10; refine (back_is _ _ _ (by assumption) (by omega) (by omega) (by assumption) _).mono ?_; rintro e w1 ⟨rfl, rfl⟩)
              | (go_at_call 10; refine (back_no _ _ (by assumption) _).mono ?_; rintro e w1 ⟨rfl, rfl⟩)
              | (go_at_call 11; refine (between_is _ _ _ _ (by assumption) _).mono ?_; rintro e w1 ⟨rfl, rfl⟩)
              | (go_at_call 12; refine (rbetween_is _ _ _ _ (by assumption) _).mono ?_; rintro e w1 ⟨rfl, rfl⟩)
              | (go_at_call 13; refine (check_is _ (by assumption) _).mono ?_; rintro e w1 ⟨rfl, rfl⟩)
              | (go_at_call 13; refine (check_no _ (by assumption) _).mono ?_; rintro e w1 ⟨rfl, rfl⟩)
              | (go_at_call 14; refine (in_is _ (by assumption) _).mono ?_; rintro e w1 ⟨rfl, rfl⟩)
              | (go_at_call 14; refine (in_no _ (by assumption) _).mono ?_; rintro e w1 ⟨rfl, rfl⟩)
              | (go_at_call 15; refine (rbehind_is _ _ _ (by assumption) (by assumption) (by assumption) _).mono ?_; rintro e w1 ⟨rfl, rfl⟩)
              | (go_at_call 16; refine (wakes_any _).mono ?_; rintro e w1 ⟨rfl, rfl⟩))
            all_goals go_ret
            all_goals exact ⟨rfl, Grown.refl _⟩
        · go_enter Try.func3, Try.ntmps3
          go_wp2_with (first
            | (go_at_call 9; refine (behind_is _ _ _ (by assumption) (by assumption) (by assumption) _).mono ?_; rintro e w1 ⟨rfl, rfl⟩)
            | (go_at_call 9; refine (behind_no _ _ (by assumption) _).mono ?_; rintro e w1 ⟨rfl, rfl⟩)
            | (go_at_call 10; refine (back_is _ _ _ (by assumption) (by omega) (by omega) (by assumption) _).mono ?_; rintro e w1 ⟨rfl, rfl⟩)
            | (go_at_call 10; refine (back_no _ _ (by assumption) _).mono ?_; rintro e w1 ⟨rfl, rfl⟩)
            | (go_at_call 11; refine (between_is _ _ _ _ (by assumption) _).mono ?_; rintro e w1 ⟨rfl, rfl⟩)
            | (go_at_call 12; refine (rbetween_is _ _ _ _ (by assumption) _).mono ?_; rintro e w1 ⟨rfl, rfl⟩)
            | (go_at_call 13; refine (check_is _ (by assumption) _).mono ?_; rintro e w1 ⟨rfl, rfl⟩)
            | (go_at_call 13; refine (check_no _ (by assumption) _).mono ?_; rintro e w1 ⟨rfl, rfl⟩)
            | (go_at_call 14; refine (in_is _ (by assumption) _).mono ?_; rintro e w1 ⟨rfl, rfl⟩)
            | (go_at_call 14; refine (in_no _ (by assumption) _).mono ?_; rintro e w1 ⟨rfl, rfl⟩)
            | (go_at_call 15; refine (rbehind_is _ _ _ (by assumption) (by assumption) (by assumption) _).mono ?_; rintro e w1 ⟨rfl, rfl⟩)
            | (go_at_call 16; refine (wakes_any _).mono ?_; rintro e w1 ⟨rfl, rfl⟩))
          all_goals go_ret
          all_goals exact ⟨rfl, Grown.refl _⟩
  · have hab : ¬ Key a0 ∨ ¬ Key a2 := .inl ha
    rcases hs with ⟨n, rfl, hn, hk⟩ | hs
    · obtain ⟨x, hx⟩ := bck_ex a1 n hk (by omega)
      obtain ⟨p1, p2⟩ := pow_bd n hn
      have kp : Key (2 ^ n) := by constructor <;> omega
      have hx2 : Beh (2 ^ n) a1 x := hx
      go_enter Try.func3, Try.ntmps3
      go_wp2_with (first
        | (go_at_call 9; refine (behind_is _ _ _ (by assumption) (by assumption) (by assumption) _).mono ?_; rintro e w1 ⟨rfl, rfl⟩)
        | (go_at_call 9; refine (behind_no _ _ (by assumption) _).mono ?_; rintro e w1 ⟨rfl, rfl⟩)
        | (go_at_call 10; refine (back_is _ _ _ (by assumption) (by omega) (by omega) (by assumption) _).mono ?_; rintro e w1 ⟨rfl, rfl⟩)
        | (go_at_call 10; refine (back_no _ _ (by assumption) _).mono ?_; rintro e w1 ⟨rfl, rfl⟩)
        | (go_at_call 11; refine (between_is _ _ _ _ (by assumption) _).mono ?_; rintro e w1 ⟨rfl, rfl⟩)
        | (go_at_call 12; refine (rbetween_is _ _ _ _ (by assumption) _).mono ?_; rintro e w1 ⟨rfl, rfl⟩)
        | (go_at_call 13; refine (check_is _ (by assumption) _).mono ?_; rintro e w1 ⟨rfl, rfl⟩)
        | (go_at_call 13; refine (check_no _ (by assumption) _).mono ?_; rintro e w1 ⟨rfl, rfl⟩)
        | (go_at_call 14; refine (in_is _ (by assumption) _).mono ?_; rintro e w1 ⟨rfl, rfl⟩)
        | (go_at_call 14; refine (in_no _ (by assumption) _).mono ?_; rintro e w1 ⟨rfl, rfl⟩)
        | (go_at_call 15; refine (rbehind_is _ _ _ (by assumption) (by assumption) (by assumption) _).mono ?_; rintro e w1 ⟨rfl, rfl⟩)
        | (go_at_call 16; refine (wakes_any _).mono ?_; rintro e w1 ⟨rfl, rfl⟩))
      all_goals go_ret
      all_goals exact ⟨rfl, Grown.refl _⟩
    · by_cases hk : Key a1
      · by_cases h1 : a3 < 0
        · go_enter Try.func3, Try.ntmps3
          go_wp2_with (first
            | (go_at_call 9; refine (behind_is _ _ _ (by assumption) (by assumption) (by assumption) _).mono ?_; rintro e w1 ⟨rfl, rfl⟩)
            | (go_at_call 9; refine (behind_no _ _ (by assumption) _).mono ?_; rintro e w1 ⟨rfl, rfl⟩)
            | (go_at_call 10; refine (back_is _ _ _ (by assumption) (by omega) (by omega) (by assumption) _).mono ?_; rintro e w1 ⟨rfl, rfl⟩)
            | (go_at_call 10; refine (back_no _ _ (by assumption) _).mono ?_; rintro e w1 ⟨rfl, rfl⟩)
            | (go_at_call 11; refine (between_is _ _ _ _ (by assumption) _).mono ?_; rintro e w1 ⟨rfl, rfl⟩)
            | (go_at_call 12; refine (rbetween_is _ _ _ _ (by assumption) _).mono ?_; rintro e w1 ⟨rfl, rfl⟩)
            | (go_at_call 13; refine (check_is _ (by assumption) _).mono ?_; rintro e w1 ⟨rfl, rfl⟩)
            | (go_at_call 13; refine (check_no _ (by assumption) _).mono ?_; rintro e w1 ⟨rfl, rfl⟩)
            | (go_at_call 14; refine (in_is _ (by assumption) _).mono ?_; rintro e w1 ⟨rfl, rfl⟩)
            | (go_at_call 14; refine (in_no _ (by assumption) _).mono ?_; rintro e w1 ⟨rfl, rfl⟩)
            | (go_at_call 15; refine (rbehind_is _ _ _ (by assumption) (by assumption) (by assumption) _).mono ?_; rintro e w1 ⟨rfl, rfl⟩)
            | (go_at_call 16; refine (wakes_any _).mono ?_; rintro e w1 ⟨rfl, rfl⟩))
          all_goals go_ret
          all_goals exact ⟨rfl, Grown.refl _⟩
        · have h2 : 61 < a3 := by
            rcases hs with h | h | h
            · exact absurd hk h
            · omega
            · exact h
          go_enter Try.func3, Try.ntmps3
          go_wp2_with (first
            | (go_at_call 9; refine (behind_is _ _ _ (by assumption) (by assumption) (by assumption) _).mono ?_; rintro e w1 ⟨rfl, rfl⟩)
            | (go_at_call 9; refine (behind_no _ _ (by assumption) _).mono ?_; rintro e w1 ⟨rfl, rfl⟩)
            | (go_at_call 10; refine (back_is _ _ _ (by assumption) (by omega) (by omega) (by assumption) _).mono ?_; rintro e w1 ⟨rfl, rfl⟩)
            | (go_at_call 10; refine (back_no _ _ (by assumption) _).mono ?_; rintro e w1 ⟨rfl, rfl⟩)
            | (go_at_call 11; refine (between_is _ _ _ _ (by assumption) _).mono ?_; rintro e w1 ⟨rfl, rfl⟩)
            | (go_at_call 12; refine (rbetween_is _ _ _ _ (by assumption) _).mono ?_; rintro e w1 ⟨rfl, rfl⟩)
            | (go_at_call 13; refine (check_is _ (by assumption) _).mono ?_; rintro e w1 ⟨rfl, rfl⟩)
            | (go_at_call 13; refine (check_no _ (by assumption) _).mono ?_; rintro e w1 ⟨rfl, rfl⟩)
            | (go_at_call 14; refine (in_is _ (by assumption) _).mono ?_; rintro e w1 ⟨rfl, rfl⟩)
            | (go_at_call 14; refine (in_no _ (by assumption) _).mono ?_; rintro e w1 ⟨rfl, rfl⟩)
            | (go_at_call 15; refine (rbehind_is _ _ _ (by assumption) (by assumption) (by assumption) _).mono ?_; rintro e w1 ⟨rfl, rfl⟩)
            | (go_at_call 16; refine (wakes_any _).mono ?_; rintro e w1 ⟨rfl, rfl⟩))
          all_goals go_ret
          all_goals exact ⟨rfl, Grown.refl _⟩
      · go_enter Try.func3, Try.ntmps3
        go_wp2_with (first
          | (go_at_call 9; refine (behind_is _ _ _ (by assumption) (by assumption) (by assumption) _).mono ?_; rintro e w1 ⟨rfl, rfl⟩)
          | (go_at_call 9; refine (behind_no _ _ (by assumption) _).mono ?_; rintro e w1 ⟨rfl, rfl⟩)
          | (go_at_call 10; refine (back_is _ _ _ (by assumption) (by omega) (by omega) (by assumption) _).mono ?_; rintro e w1 ⟨rfl, rfl⟩)
          | (go_at_call 10; refine (back_no _ _ (by assumption) _).mono ?_; rintro e w1 ⟨rfl, rfl⟩)
          | (go_at_call 11; refine (between_is _ _ _ _ (by assumption) _).mono ?_; rintro e w1 ⟨rfl, rfl⟩)
          | (go_at_call 12; refine (rbetween_is _ _ _ _ (by assumption) _).mono ?_; rintro e w1 ⟨rfl, rfl⟩)
          | (go_at_call 13; refine (check_is _ (by assumption) _).mono ?_; rintro e w1 ⟨rfl, rfl⟩)
          | (go_at_call 13; refine (check_no _ (by assumption) _).mono ?_; rintro e w1 ⟨rfl, rfl⟩)
          | (go_at_call 14; refine (in_is _ (by assumption) _).mono ?_; rintro e w1 ⟨rfl, rfl⟩)
          | (go_at_call 14; refine (in_no _ (by assumption) _).mono ?_; rintro e w1 ⟨rfl, rfl⟩)
          | (go_at_call 15; refine (rbehind_is _ _ _ (by assumption) (by assumption) (by assumption) _).mono ?_; rintro e w1 ⟨rfl, rfl⟩)
          | (go_at_call 16; refine (wakes_any _).mono ?_; rintro e w1 ⟨rfl, rfl⟩))
        all_goals go_ret
        all_goals exact ⟨rfl, Grown.refl _⟩
end Go.Proofs.Ytdakjfmfbndioaa.keyExact
