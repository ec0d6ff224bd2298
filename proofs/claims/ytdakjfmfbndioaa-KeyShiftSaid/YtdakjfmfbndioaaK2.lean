/- Walks of key.Between and key.Back. -/
import Derived.Test.YtdakjfmfbndioaaK1
namespace Go.Proofs.Ytdakjfmfbndioaa
open Go.RowKit

/-- On the way from a on up to b. -/
abbrev Btw (a k b : Int) : Prop := a = b ∨ (a < k ∧ k ≤ b) ∨ (b < a ∧ a < k) ∨ (b < a ∧ k ≤ b)

theorem between_same (a k b : Int) (_ : Key a) (hk : Key k) (hb : Key b) (h : a = b) (w : World) :
    Calls Try.prog 11 #[.int .i64 a, .int .i64 k, .int .i64 b] w fun e w' => e = .returned (.bool true) ∧ w' = w := by
  have kb := hb
  obtain ⟨b1, b2⟩ := kb
  go_enter Try.func11, Try.ntmps11
  go_wp2_with (go_at_call 9; refine (behind_any _ _ (by assumption) (by assumption) _).mono ?_; rintro e w1 ⟨v, rfl, rfl, hv, hv0, hv1⟩; (try (have hz : v = 0 := by omega)))
  go_ret
  exact ⟨rfl, rfl⟩
theorem between_yes (a k b : Int) (ha : Key a) (hk : Key k) (hb : Key b) (h : ¬ a = b) (h2 : Btw a k b) (w : World) :
    Calls Try.prog 11 #[.int .i64 a, .int .i64 k, .int .i64 b] w fun e w' => e = .returned (.bool true) ∧ w' = w := by
  unfold Btw at h2
  have ka := ha
  have kk := hk
  have kb := hb
  obtain ⟨a1, a2⟩ := ka
  obtain ⟨b1, b2⟩ := kb
  obtain ⟨k1, k2⟩ := kk
  have m1 := trivial
  go_enter Try.func11, Try.ntmps11
  go_wp2_with (first
    | (clear m1; go_at_call 9; refine (behind_any a k (by assumption) (by assumption) _).mono ?_; rintro e w1 ⟨x, rfl, rfl, hv, hv0, hv1⟩; have hz : 0 < x := (by omega))
    | (go_at_call 9; refine (behind_any a b (by assumption) (by assumption) _).mono ?_; rintro e w1 ⟨y, rfl, rfl, hy, hy0, hy1⟩; have hz : ¬ y = 0 := (by omega); have hxy : decide (x ≤ y) = true := decide_eq_true (by omega)))
  go_ret
  exact ⟨by rw [← hxy]; rfl, rfl⟩
theorem between_not (a k b : Int) (ha : Key a) (hk : Key k) (hb : Key b) (h : ¬ a = k) (h2 : ¬ Btw a k b) (w : World) :
    Calls Try.prog 11 #[.int .i64 a, .int .i64 k, .int .i64 b] w fun e w' => e = .returned (.bool false) ∧ w' = w := by
  unfold Btw at h2
  have ka := ha
  have kk := hk
  have kb := hb
  obtain ⟨a1, a2⟩ := ka
  obtain ⟨b1, b2⟩ := kb
  obtain ⟨k1, k2⟩ := kk
  have m1 := trivial
  go_enter Try.func11, Try.ntmps11
  go_wp2_with (first
    | (clear m1; go_at_call 9; refine (behind_any a k (by assumption) (by assumption) _).mono ?_; rintro e w1 ⟨x, rfl, rfl, hv, hv0, hv1⟩; have hz : 0 < x := (by omega))
    | (go_at_call 9; refine (behind_any a b (by assumption) (by assumption) _).mono ?_; rintro e w1 ⟨y, rfl, rfl, hy, hy0, hy1⟩; have hz : ¬ y = 0 := (by omega); have hxy : decide (x ≤ y) = false := decide_eq_false (by omega)))
  go_ret
  exact ⟨by rw [← hxy]; rfl, rfl⟩
theorem between_at (a k b : Int) (ha : Key a) (hk : Key k) (hb : Key b) (h : a = k) (h2 : ¬ a = b) (w : World) :
    Calls Try.prog 11 #[.int .i64 a, .int .i64 k, .int .i64 b] w fun e w' => e = .returned (.bool false) ∧ w' = w := by
  subst h
  have ka := ha
  have kb := hb
  obtain ⟨a1, a2⟩ := ka
  obtain ⟨b1, b2⟩ := kb
  have m1 := trivial
  go_enter Try.func11, Try.ntmps11
  go_wp2_with (first
    | (clear m1; go_at_call 9; refine (behind_any a a (by assumption) (by assumption) _).mono ?_; rintro e w1 ⟨x, rfl, rfl, hv, hv0, hv1⟩; have hz : ¬ 0 < x := (by omega))
    | (go_at_call 9; refine (behind_any a b (by assumption) (by assumption) _).mono ?_; rintro e w1 ⟨y, rfl, rfl, hy, hy0, hy1⟩; have hz : ¬ y = 0 := (by omega)))
  go_ret
  exact ⟨rfl, rfl⟩
theorem between_bad1 (a k b : Int) (h : ¬ Key a ∨ ¬ Key k) (w : World) :
    Calls Try.prog 11 #[.int .i64 a, .int .i64 k, .int .i64 b] w fun e w' => e = .returned (.bool false) ∧ w' = w := by
  go_enter Try.func11, Try.ntmps11
  go_wp2_with (go_at_call 9; refine (behind_no _ _ h _).mono ?_; rintro e w1 ⟨rfl, rfl⟩)
  go_ret
  exact ⟨rfl, rfl⟩
theorem between_bad2 (a k b : Int) (ha : Key a) (hk : Key k) (h : ¬ Key b) (w : World) :
    Calls Try.prog 11 #[.int .i64 a, .int .i64 k, .int .i64 b] w fun e w' => e = .returned (.bool false) ∧ w' = w := by
  have m1 := trivial
  go_enter Try.func11, Try.ntmps11
  go_wp2_with (first
    | (clear m1; go_at_call 9; refine (behind_any a k (by assumption) (by assumption) _).mono ?_; rintro e w1 ⟨x, rfl, rfl, hv, hv0, hv1⟩)
    | (go_at_call 9; refine (behind_no _ _ (.inr h) _).mono ?_; rintro e w1 ⟨rfl, rfl⟩))
  go_ret
  exact ⟨rfl, rfl⟩

/-- Between, whole. -/
theorem between_any (a k b : Int) (w : World) :
    Calls Try.prog 11 #[.int .i64 a, .int .i64 k, .int .i64 b] w fun e w' => e = .returned (.bool (decide (Key a ∧ Key k ∧ Key b ∧ Btw a k b))) ∧ w' = w := by
  by_cases ha : Key a
  · by_cases hk : Key k
    · by_cases hb : Key b
      · by_cases h : Btw a k b
        · rw [decide_eq_true (⟨ha, hk, hb, h⟩ : Key a ∧ Key k ∧ Key b ∧ Btw a k b)]
          by_cases e : a = b
          · exact between_same a k b ha hk hb e w
          · exact between_yes a k b ha hk hb e h w
        · rw [decide_eq_false (p := Key a ∧ Key k ∧ Key b ∧ Btw a k b) (fun q => h q.2.2.2)]
          by_cases e : a = k
          · exact between_at a k b ha hk hb e (fun q => h (.inl q)) w
          · exact between_not a k b ha hk hb e h w
      · rw [decide_eq_false (p := Key a ∧ Key k ∧ Key b ∧ Btw a k b) (fun q => hb q.2.2.1)]
        exact between_bad2 a k b ha hk hb w
    · rw [decide_eq_false (p := Key a ∧ Key k ∧ Key b ∧ Btw a k b) (fun q => hk q.2.1)]
      exact between_bad1 a k b (.inr hk) w
  · rw [decide_eq_false (p := Key a ∧ Key k ∧ Key b ∧ Btw a k b) (fun q => ha q.1)]
    exact between_bad1 a k b (.inl ha) w
theorem btw_t (a k b : Int) (ha : Key a) (hk : Key k) (hb : Key b) (h : Btw a k b) (w : World) :
    Calls Try.prog 11 #[.int .i64 a, .int .i64 k, .int .i64 b] w fun e w' => e = .returned (.bool true) ∧ w' = w := by
  have := between_any a k b w
  rw [decide_eq_true (⟨ha, hk, hb, h⟩ : Key a ∧ Key k ∧ Key b ∧ Btw a k b)] at this
  exact this
theorem btw_f (a k b : Int) (h : ¬ Btw a k b) (w : World) :
    Calls Try.prog 11 #[.int .i64 a, .int .i64 k, .int .i64 b] w fun e w' => e = .returned (.bool false) ∧ w' = w := by
  have := between_any a k b w
  rw [decide_eq_false (p := Key a ∧ Key k ∧ Key b ∧ Btw a k b) (fun q => h q.2.2.2)] at this
  exact this
end Go.Proofs.Ytdakjfmfbndioaa
