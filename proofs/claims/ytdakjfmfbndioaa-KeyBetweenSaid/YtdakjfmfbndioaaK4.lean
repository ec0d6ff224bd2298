/- The contracts once more, with what they answer named ahead; the page's Between. -/
import Derived.Test.YtdakjfmfbndioaaK3
namespace Go.Proofs.Ytdakjfmfbndioaa
open Go.RowKit

/-- v is how far n stands behind k. -/
def Beh (k n v : Int) : Prop := (v = n - k ∨ v = n - k + 4611686018427387904) ∧ 0 ≤ v ∧ v < 4611686018427387904
/-- A is the key that a is turned to. -/
def Turned (a A : Int) : Prop := a % 4611686018427387904 = A

theorem turned_key (a : Int) : ∃ A, Turned a A ∧ Key A := ⟨_, rfl, by constructor <;> omega⟩
theorem beh_ex (k n : Int) (hk : Key k) (hn : Key n) : ∃ v, Beh k n v := by
  obtain ⟨k1, k2⟩ := hk
  obtain ⟨n1, n2⟩ := hn
  by_cases h : n < k
  · exact ⟨n - k + 4611686018427387904, .inr rfl, by omega, by omega⟩
  · exact ⟨n - k, .inl rfl, by omega, by omega⟩
theorem some_is (a A : Int) (h : Turned a A) (w : World) :
    Calls Try.prog 17 #[.int .i64 a] w fun e w' => e = .returned (.int .i64 A) ∧ w' = w := by
  have := some_any a w
  rw [h] at this
  exact this
theorem behind_is (k n v : Int) (hk : Key k) (hn : Key n) (h : Beh k n v) (w : World) :
    Calls Try.prog 9 #[.int .i64 k, .int .i64 n] w fun e w' => e = .returned (.tuple #[.int .i64 v, .int .i64 0]) ∧ w' = w := by
  refine (behind_any k n hk hn w).mono ?_
  rintro e w1 ⟨x, rfl, rfl, hx⟩
  obtain ⟨h1, h2, h3⟩ := h
  obtain ⟨h4, h5, h6⟩ := hx
  obtain rfl : x = v := by omega
  exact ⟨rfl, rfl⟩
theorem rbehind_is (k n v : Int) (hk : Key k) (hn : Key n) (h : Beh k n v) (w : World) :
    Calls Try.prog 15 #[.int .i64 k, .int .i64 n] w fun e w' => e = .returned (.int .i64 v) ∧ w' = w := by
  refine (rbehind_any k n hk hn w).mono ?_
  rintro e w1 ⟨x, rfl, rfl, hx⟩
  obtain ⟨h1, h2, h3⟩ := h
  obtain ⟨h4, h5, h6⟩ := hx
  obtain rfl : x = v := by omega
  exact ⟨rfl, rfl⟩
theorem check_is (k : Int) (h : Key k) (w : World) :
    Calls Try.prog 13 #[.int .i64 k] w fun e w' => e = .returned (.int .i64 0) ∧ w' = w := check_in k h.1 h.2 w
theorem in_is (k : Int) (h : Key k) (w : World) :
    Calls Try.prog 14 #[.int .i64 k] w fun e w' => e = .returned (.bool true) ∧ w' = w := in_yes k h.1 h.2 w

theorem rbetween_same (a k b : Int) (_ : Key a) (hk : Key k) (hb : Key b) (h : a = b) (w : World) :
    Calls Try.prog 12 #[.int .i64 a, .int .i64 k, .int .i64 b] w fun e w' => e = .returned (.bool true) ∧ w' = w := by
  subst h
  go_enter Try.func12, Try.ntmps12
  go_wp2_with (go_at_call 14; refine (in_is _ (by assumption) _).mono ?_; rintro e w1 ⟨rfl, rfl⟩)
  go_ret
  exact ⟨rfl, rfl⟩
theorem rbetween_at (a k b : Int) (ha : Key a) (_ : Key k) (hb : Key b) (h : ¬ a = b) (h2 : k = a) (w : World) :
    Calls Try.prog 12 #[.int .i64 a, .int .i64 k, .int .i64 b] w fun e w' => e = .returned (.bool false) ∧ w' = w := by
  subst h2
  go_enter Try.func12, Try.ntmps12
  go_wp2_with (go_at_call 14; refine (in_is _ (by assumption) _).mono ?_; rintro e w1 ⟨rfl, rfl⟩)
  go_ret
  exact ⟨rfl, rfl⟩
theorem rbetween_other (a k b x y : Int) (ha : Key a) (hk : Key k) (hb : Key b) (h : ¬ a = b) (h2 : ¬ k = a) (hx : Beh a k x) (hy : Beh a b y) (w : World) :
    Calls Try.prog 12 #[.int .i64 a, .int .i64 k, .int .i64 b] w fun e w' => e = .returned (.bool (decide (x ≤ y))) ∧ w' = w := by
  go_enter Try.func12, Try.ntmps12
  go_wp2_with (first
    | (go_at_call 14; refine (in_is _ (by assumption) _).mono ?_; rintro e w1 ⟨rfl, rfl⟩)
    | (go_at_call 15; refine (rbehind_is _ _ _ (by assumption) (by assumption) (by assumption) _).mono ?_; rintro e w1 ⟨rfl, rfl⟩))
  go_ret
  have hne : (k != a) = true := bne_iff_ne.2 h2
  have hee : (k != a && decide (x ≤ y)) = decide (x ≤ y) := by rw [hne, Bool.true_and]
  exact ⟨congrArg (fun t => Ending.returned (.bool t)) hee, rfl⟩
theorem rbetween_no1 (a k b : Int) (ha : ¬ Key a) (w : World) :
    Calls Try.prog 12 #[.int .i64 a, .int .i64 k, .int .i64 b] w fun e w' => e = .returned (.bool false) ∧ w' = w := by
  go_enter Try.func12, Try.ntmps12
  go_wp2_with (go_at_call 14; refine (in_no _ (by assumption) _).mono ?_; rintro e w1 ⟨rfl, rfl⟩)
  go_ret
  exact ⟨rfl, rfl⟩
theorem rbetween_no2 (a k b : Int) (ha : Key a) (hk : ¬ Key k) (w : World) :
    Calls Try.prog 12 #[.int .i64 a, .int .i64 k, .int .i64 b] w fun e w' => e = .returned (.bool false) ∧ w' = w := by
  have m1 := trivial
  go_enter Try.func12, Try.ntmps12
  go_wp2_with (first
    | (clear m1; go_at_call 14; refine (in_is a ha _).mono ?_; rintro e w1 ⟨rfl, rfl⟩)
    | (go_at_call 14; refine (in_no k hk _).mono ?_; rintro e w1 ⟨rfl, rfl⟩))
  go_ret
  exact ⟨rfl, rfl⟩
theorem rbetween_no3 (a k b : Int) (ha : Key a) (hk : Key k) (hb : ¬ Key b) (w : World) :
    Calls Try.prog 12 #[.int .i64 a, .int .i64 k, .int .i64 b] w fun e w' => e = .returned (.bool false) ∧ w' = w := by
  have m1 := trivial
  have m2 := trivial
  go_enter Try.func12, Try.ntmps12
  go_wp2_with (first
    | (clear m1; go_at_call 14; refine (in_is a ha _).mono ?_; rintro e w1 ⟨rfl, rfl⟩)
    | (clear m2; go_at_call 14; refine (in_is k hk _).mono ?_; rintro e w1 ⟨rfl, rfl⟩)
    | (go_at_call 14; refine (in_no b hb _).mono ?_; rintro e w1 ⟨rfl, rfl⟩))
  go_ret
  exact ⟨rfl, rfl⟩
theorem rbetween_any (a k b : Int) (w : World) :
    Calls Try.prog 12 #[.int .i64 a, .int .i64 k, .int .i64 b] w fun e w' => e = .returned (.bool (decide (Key a ∧ Key k ∧ Key b ∧ Btw a k b))) ∧ w' = w := by
  by_cases ha : Key a
  · by_cases hk : Key k
    · by_cases hb : Key b
      · by_cases e : a = b
        · rw [decide_eq_true (⟨ha, hk, hb, .inl e⟩ : Key a ∧ Key k ∧ Key b ∧ Btw a k b)]
          exact rbetween_same a k b ha hk hb e w
        · by_cases e2 : k = a
          · rw [decide_eq_false (p := Key a ∧ Key k ∧ Key b ∧ Btw a k b) (fun q => by have := q.2.2.2; unfold Btw at this; omega)]
            exact rbetween_at a k b ha hk hb e e2 w
          · obtain ⟨x, hx⟩ := beh_ex a k ha hk
            obtain ⟨y, hy⟩ := beh_ex a b ha hb
            have := rbetween_other a k b x y ha hk hb e e2 hx hy w
            rw [decide_eq_decide.2 (show x ≤ y ↔ Key a ∧ Key k ∧ Key b ∧ Btw a k b from ?_)] at this
            · exact this
            · have ka := ha
              have kk := hk
              have kb := hb
              unfold Beh at hx hy
              unfold Key at ka kk kb
              constructor
              · intro h
                refine ⟨ha, hk, hb, ?_⟩
                unfold Btw
                omega
              · rintro ⟨_, _, _, h⟩
                unfold Btw at h
                omega
      · rw [decide_eq_false (p := Key a ∧ Key k ∧ Key b ∧ Btw a k b) (fun q => hb q.2.2.1)]
        exact rbetween_no3 a k b ha hk hb w
    · rw [decide_eq_false (p := Key a ∧ Key k ∧ Key b ∧ Btw a k b) (fun q => hk q.2.1)]
      exact rbetween_no2 a k b ha hk w
  · rw [decide_eq_false (p := Key a ∧ Key k ∧ Key b ∧ Btw a k b) (fun q => ha q.1)]
    exact rbetween_no1 a k b ha w
end Go.Proofs.Ytdakjfmfbndioaa
