/- Walks of the inner functions of layer 2's statements. -/
import Derived.Test.YtdakjfmfbndioaaRows
import Derived.WalkKit
import Derived.ProofKit
import Derived.OpenShut
import Derived.Deep.DeepMust
namespace Go.Proofs.Ytdakjfmfbndioaa
open Go.RowKit

theorem onring_low (d : Int) (h : d < 0) (h2 : -4611686018427387904 ≤ d) (w : World) :
    Calls Try.prog 19 #[.int .i64 d] w fun e w' => e = .returned (.int .i64 (d + 4611686018427387904)) ∧ w' = w := by
  go_enter Try.func19, Try.ntmps19
  go_wp2
  go_ret
  exact ⟨rfl, rfl⟩

theorem onring_high (d : Int) (h : 0 ≤ d) (w : World) :
    Calls Try.prog 19 #[.int .i64 d] w fun e w' => e = .returned (.int .i64 d) ∧ w' = w := by
  go_enter Try.func19, Try.ntmps19
  go_wp2
  go_ret
  exact ⟨rfl, rfl⟩

theorem check_in (k : Int) (h : 0 ≤ k) (h2 : k < 4611686018427387904) (w : World) :
    Calls Try.prog 13 #[.int .i64 k] w fun e w' => e = .returned (.int .i64 0) ∧ w' = w := by
  go_enter Try.func13, Try.ntmps13
  go_wp2
  go_ret
  exact ⟨rfl, rfl⟩

theorem check_low (k : Int) (h : k < 0) (w : World) :
    Calls Try.prog 13 #[.int .i64 k] w fun e w' => e = .returned (.int .i64 1) ∧ w' = w := by
  go_enter Try.func13, Try.ntmps13
  go_wp2
  go_ret
  exact ⟨rfl, rfl⟩

theorem check_high (k : Int) (h : 4611686018427387904 ≤ k) (w : World) :
    Calls Try.prog 13 #[.int .i64 k] w fun e w' => e = .returned (.int .i64 1) ∧ w' = w := by
  go_enter Try.func13, Try.ntmps13
  go_wp2
  go_ret
  exact ⟨rfl, rfl⟩

theorem some_any (k : Int) (w : World) :
    Calls Try.prog 17 #[.int .i64 k] w fun e w' => e = .returned (.int .i64 (k % 4611686018427387904)) ∧ w' = w := by
  have e1 : IntKind.u64.wrap k = k % 18446744073709551616 := rfl
  have e2 : wrap64 ((k % 18446744073709551616).tmod 4611686018427387904) = k % 4611686018427387904 := by
    rw [Int.tmod_eq_emod_of_nonneg (by omega)]
    unfold wrap64
    omega
  go_enter Try.func17, Try.ntmps17
  go_wp2
  go_ret
  exact ⟨by rw [← e2, ← e1]; rfl, rfl⟩

theorem in_yes (k : Int) (h : 0 ≤ k) (h2 : k < 4611686018427387904) (w : World) :
    Calls Try.prog 14 #[.int .i64 k] w fun e w' => e = .returned (.bool true) ∧ w' = w := by
  have h3 : decide (k ≤ 4611686018427387903) = true := decide_eq_true (by omega)
  go_enter Try.func14, Try.ntmps14
  go_wp2
  go_ret
  exact ⟨by rw [← h3]; rfl, rfl⟩
theorem in_low (k : Int) (h : k < 0) (w : World) :
    Calls Try.prog 14 #[.int .i64 k] w fun e w' => e = .returned (.bool false) ∧ w' = w := by
  go_enter Try.func14, Try.ntmps14
  go_wp2
  go_ret
  exact ⟨rfl, rfl⟩
theorem in_high (k : Int) (h : 4611686018427387904 ≤ k) (w : World) :
    Calls Try.prog 14 #[.int .i64 k] w fun e w' => e = .returned (.bool false) ∧ w' = w := by
  have h3 : decide (k ≤ 4611686018427387903) = false := decide_eq_false (by omega)
  go_enter Try.func14, Try.ntmps14
  go_wp2
  go_ret
  exact ⟨by rw [← h3]; rfl, rfl⟩

/-- A key. -/
abbrev Key (k : Int) : Prop := 0 ≤ k ∧ k < 4611686018427387904

theorem check_no (k : Int) (h : ¬ Key k) (w : World) :
    Calls Try.prog 13 #[.int .i64 k] w fun e w' => e = .returned (.int .i64 1) ∧ w' = w := by
  unfold Key at h
  by_cases h1 : k < 0
  · exact check_low k h1 w
  · exact check_high k (by omega) w
theorem in_no (k : Int) (h : ¬ Key k) (w : World) :
    Calls Try.prog 14 #[.int .i64 k] w fun e w' => e = .returned (.bool false) ∧ w' = w := by
  unfold Key at h
  by_cases h1 : k < 0
  · exact in_low k h1 w
  · exact in_high k (by omega) w

theorem behind_any (k n : Int) (hk : Key k) (hn : Key n) (w : World) :
    Calls Try.prog 9 #[.int .i64 k, .int .i64 n] w fun e w' => ∃ v : Int, e = .returned (.tuple #[.int .i64 v, .int .i64 0]) ∧ w' = w ∧ (v = n - k ∨ v = n - k + 4611686018427387904) ∧ 0 ≤ v ∧ v < 4611686018427387904 := by
  obtain ⟨hk1, hk2⟩ := hk
  obtain ⟨hn1, hn2⟩ := hn
  by_cases h : n < k
  · have hw : IntKind.i64.wrap (n - k) = n - k := by rw [IntWalk.i64_left, IntWalk.wrap64_in _ (by omega)]
    go_enter Try.func9, Try.ntmps9
    go_wp2_with (first
      | (go_at_call 13; refine (check_in _ (by assumption) (by assumption) _).mono ?_; rintro e w1 ⟨rfl, rfl⟩)
      | (go_at_call 19; refine (onring_low (n - k) (by omega) (by omega) _).mono ?_; rintro e w1 ⟨rfl, rfl⟩))
    go_ret2
    exact ⟨_, rfl, rfl, .inr rfl, by omega, by omega⟩
  · have hw : IntKind.i64.wrap (n - k) = n - k := by rw [IntWalk.i64_left, IntWalk.wrap64_in _ (by omega)]
    go_enter Try.func9, Try.ntmps9
    go_wp2_with (first
      | (go_at_call 13; refine (check_in _ (by assumption) (by assumption) _).mono ?_; rintro e w1 ⟨rfl, rfl⟩)
      | (go_at_call 19; refine (onring_high (n - k) (by omega) _).mono ?_; rintro e w1 ⟨rfl, rfl⟩))
    go_ret2
    exact ⟨_, rfl, rfl, .inl rfl, by omega, by omega⟩

theorem behind_no (k n : Int) (h : ¬ Key k ∨ ¬ Key n) (w : World) :
    Calls Try.prog 9 #[.int .i64 k, .int .i64 n] w fun e w' => e = .returned (.tuple #[.int .i64 0, .int .i64 1]) ∧ w' = w := by
  by_cases hk : Key k
  · have hn : ¬ Key n := by rcases h with h | h; exact absurd hk h; exact h
    obtain ⟨hk1, hk2⟩ := hk
    go_enter Try.func9, Try.ntmps9
    go_wp2_with (first
      | (go_at_call 13; refine (check_in _ (by assumption) (by assumption) _).mono ?_; rintro e w1 ⟨rfl, rfl⟩)
      | (go_at_call 13; refine (check_no _ (by assumption) _).mono ?_; rintro e w1 ⟨rfl, rfl⟩))
    go_ret2
    exact ⟨rfl, rfl⟩
  · go_enter Try.func9, Try.ntmps9
    go_wp2_with (go_at_call 13; refine (check_no k hk _).mono ?_; rintro e w1 ⟨rfl, rfl⟩)
    go_ret2
    exact ⟨rfl, rfl⟩
end Go.Proofs.Ytdakjfmfbndioaa
