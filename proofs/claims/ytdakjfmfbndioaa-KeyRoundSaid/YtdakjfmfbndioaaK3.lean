/- Walks of key.Back, of the page's Behind and Between, of wakes and turn. -/
import Derived.Test.YtdakjfmfbndioaaK2
namespace Go.Proofs.Ytdakjfmfbndioaa
open Go.RowKit

theorem pow_bd (n : Nat) (h : n ≤ 61) : (1 : Int) ≤ 2 ^ n ∧ (2 : Int) ^ n ≤ 2305843009213693952 := by
  have : ∀ m : Fin 62, (1 : Int) ≤ 2 ^ m.val ∧ (2 : Int) ^ m.val ≤ 2305843009213693952 := by decide +kernel
  exact this ⟨n, by omega⟩

theorem back_any (k : Int) (n : Nat) (hk : Key k) (hn : n ≤ 61) (w : World) :
    Calls Try.prog 10 #[.int .i64 k, .int .i64 n] w fun e w' => ∃ v : Int, e = .returned (.tuple #[.int .i64 v, .int .i64 0]) ∧ w' = w ∧ (v = k - 2 ^ n ∨ v = k - 2 ^ n + 4611686018427387904) ∧ 0 ≤ v ∧ v < 4611686018427387904 := by
  have hb := pow_bd n hn
  obtain ⟨k1, k2⟩ := hk
  obtain ⟨p1, p2⟩ := hb
  by_cases h : k < 2 ^ n
  · go_enter Try.func10, Try.ntmps10
    go_wp2_with (first
      | (go_at_call 13; refine (check_in _ (by assumption) (by assumption) _).mono ?_; rintro e w1 ⟨rfl, rfl⟩)
      | (go_at_call 19; refine (onring_low _ (by omega) (by omega) _).mono ?_; rintro e w1 ⟨rfl, rfl⟩))
    go_ret2
    exact ⟨_, rfl, rfl, .inr rfl, by omega, by omega⟩
  · go_enter Try.func10, Try.ntmps10
    go_wp2_with (first
      | (go_at_call 13; refine (check_in _ (by assumption) (by assumption) _).mono ?_; rintro e w1 ⟨rfl, rfl⟩)
      | (go_at_call 19; refine (onring_high _ (by omega) _).mono ?_; rintro e w1 ⟨rfl, rfl⟩))
    go_ret2
    exact ⟨_, rfl, rfl, .inl rfl, by omega, by omega⟩

theorem back_no1 (k b : Int) (h : ¬ Key k) (w : World) :
    Calls Try.prog 10 #[.int .i64 k, .int .i64 b] w fun e w' => e = .returned (.tuple #[.int .i64 0, .int .i64 1]) ∧ w' = w := by
  go_enter Try.func10, Try.ntmps10
  go_wp2_with (go_at_call 13; refine (check_no _ h _).mono ?_; rintro e w1 ⟨rfl, rfl⟩)
  go_ret2
  exact ⟨rfl, rfl⟩
theorem back_no2 (k b : Int) (h : Key k) (hb : b < 0) (w : World) :
    Calls Try.prog 10 #[.int .i64 k, .int .i64 b] w fun e w' => e = .returned (.tuple #[.int .i64 0, .int .i64 1]) ∧ w' = w := by
  obtain ⟨k1, k2⟩ := h
  go_enter Try.func10, Try.ntmps10
  go_wp2_with (go_at_call 13; refine (check_in _ k1 k2 _).mono ?_; rintro e w1 ⟨rfl, rfl⟩)
  go_ret2
  exact ⟨rfl, rfl⟩
theorem back_no3 (k b : Int) (h : Key k) (hb : 61 < b) (w : World) :
    Calls Try.prog 10 #[.int .i64 k, .int .i64 b] w fun e w' => e = .returned (.tuple #[.int .i64 0, .int .i64 1]) ∧ w' = w := by
  obtain ⟨k1, k2⟩ := h
  go_enter Try.func10, Try.ntmps10
  go_wp2_with (go_at_call 13; refine (check_in _ k1 k2 _).mono ?_; rintro e w1 ⟨rfl, rfl⟩)
  go_ret2
  exact ⟨rfl, rfl⟩
theorem back_no (k b : Int) (h : ¬ Key k ∨ b < 0 ∨ 61 < b) (w : World) :
    Calls Try.prog 10 #[.int .i64 k, .int .i64 b] w fun e w' => e = .returned (.tuple #[.int .i64 0, .int .i64 1]) ∧ w' = w := by
  by_cases hk : Key k
  · rcases h with h | h | h
    · exact absurd hk h
    · exact back_no2 k b hk h w
    · exact back_no3 k b hk h w
  · exact back_no1 k b hk w

theorem rbehind_any (k n : Int) (hk : Key k) (hn : Key n) (w : World) :
    Calls Try.prog 15 #[.int .i64 k, .int .i64 n] w fun e w' => ∃ v : Int, e = .returned (.int .i64 v) ∧ w' = w ∧ (v = n - k ∨ v = n - k + 4611686018427387904) ∧ 0 ≤ v ∧ v < 4611686018427387904 := by
  obtain ⟨hk1, hk2⟩ := hk
  obtain ⟨hn1, hn2⟩ := hn
  by_cases h : n < k
  · go_enter Try.func15, Try.ntmps15
    go_wp2
    go_ret
    exact ⟨_, rfl, rfl, .inr (by omega), by omega, by omega⟩
  · go_enter Try.func15, Try.ntmps15
    go_wp2
    go_ret
    exact ⟨_, rfl, rfl, .inl rfl, by omega, by omega⟩

theorem turn_any (k b : Int) (hk : Key k) (hb : Key b) (w : World) :
    Calls Try.prog 18 #[.int .i64 k, .int .i64 b] w fun e w' => ∃ v : Int, e = .returned (.int .i64 v) ∧ w' = w ∧ (v = k + b ∨ v = k + b - 4611686018427387904) ∧ 0 ≤ v ∧ v < 4611686018427387904 := by
  obtain ⟨hk1, hk2⟩ := hk
  obtain ⟨hn1, hn2⟩ := hb
  by_cases h : b < 4611686018427387904 - k
  · go_enter Try.func18, Try.ntmps18
    go_wp2
    go_ret
    exact ⟨_, rfl, rfl, .inl rfl, by omega, by omega⟩
  · go_enter Try.func18, Try.ntmps18
    go_wp2
    go_ret
    exact ⟨_, rfl, rfl, .inr (by omega), by omega, by omega⟩

theorem wakes_any (w : World) :
    Calls Try.prog 16 #[] w fun e w' => e = .returned (.bool true) ∧ w' = w := by
  go_enter Try.func16, Try.ntmps16
  go_wp2_with (first
    | (go_at_call 9; refine (behind_any _ _ (by decide) (by decide) _).mono ?_; rintro e w1 ⟨v, rfl, rfl, hv, hv0, hv1⟩; obtain rfl : v = 4611686018427387902 := (by omega))
    | (go_at_call 10; refine (back_any 0 0 (by decide) (by decide) _).mono ?_; rintro e w1 ⟨v, rfl, rfl, hv, hv0, hv1⟩; obtain rfl : v = 4611686018427387903 := (by omega))
    | (go_at_call 11; refine (between_any _ _ _ _).mono ?_; rintro e w1 ⟨rfl, rfl⟩)
    | (go_at_call 13; refine (check_high _ (by decide) _).mono ?_; rintro e w1 ⟨rfl, rfl⟩))
  go_ret
  exact ⟨rfl, rfl⟩
end Go.Proofs.Ytdakjfmfbndioaa
