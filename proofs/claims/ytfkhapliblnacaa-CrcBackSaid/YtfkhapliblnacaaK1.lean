/- Walks of CrcBack. -/
import Derived.Test.YtfkhapliblnacaaA5
namespace Go.Proofs.Ytfkhapliblnacaa
open Go.RowKit
theorem modN (x : Int) (n : Nat) (h : 0 < n) (h2 : n ≤ 1000000) : ∃ q : Nat, wrap64 ((IntKind.u64.wrap x).tmod n) = q ∧ q < n := by
  have e1 : IntKind.u64.wrap x = x % 18446744073709551616 := rfl
  have h3 := Int.emod_lt_of_pos (x % 18446744073709551616) (show (0:Int) < n by omega)
  have h4 := Int.emod_nonneg (x % 18446744073709551616) (show (n:Int) ≠ 0 by omega)
  refine ⟨((x % 18446744073709551616) % n).toNat, ?_, by omega⟩
  rw [e1, Int.tmod_eq_emod_of_nonneg (by omega)]
  unfold wrap64
  omega
/-- The bytes G, the first k of four from a on changed by X. -/
def xorD (G : Nat → Nat) (a : Nat) (X : Nat → Nat) (k i : Nat) : Nat := if a ≤ i ∧ i < a + k then G i ^^^ X (i - a) else G i
theorem xorD_zero (G : Nat → Nat) (a : Nat) (X : Nat → Nat) (i : Nat) : xorD G a X 0 i = G i := by unfold xorD; rw [if_neg (by omega)]
theorem xorD_lt (G : Nat → Nat) (a : Nat) (X : Nat → Nat) (k i : Nat) (hG : G i < 256) (hX : ∀ j, j < k → X j < 256) : xorD G a X k i < 256 := by
  unfold xorD
  split
  · exact Nat.xor_lt_two_pow (n := 8) hG (hX _ (by omega))
  · exact hG
theorem xorD_set (G : Nat → Nat) (a : Nat) (X : Nat → Nat) (k n : Nat) (h : a + k < n) : (bL (xorD G a X k) n).set (a + k) (.int .u8 ((G (a + k) ^^^ X k : Nat) : Int)) = bL (xorD G a X (k + 1)) n := by
  apply List.ext_getElem?
  intro t
  unfold bL
  by_cases ht : t < n
  · by_cases e : a + k = t
    · subst e
      rw [List.getElem?_set_self (by rw [vL_length]; exact h), vL_get _ _ _ _ ht]
      unfold xorD
      rw [if_pos (by omega), Nat.add_sub_cancel_left]
    · rw [List.getElem?_set_ne e, vL_get _ _ _ _ ht, vL_get _ _ _ _ ht]
      unfold xorD
      by_cases g : a ≤ t ∧ t < a + k
      · rw [if_pos g, if_pos (by omega)]
      · rw [if_neg g, if_neg (by omega)]
  · rw [List.getElem?_eq_none (by rw [List.length_set, vL_length]; omega), List.getElem?_eq_none (by rw [vL_length]; omega)]
/-- Has one of the first k changed? -/
def chg (X : Nat → Nat) : Nat → Bool
  | 0 => false
  | k + 1 => chg X k || X k != 0
theorem chg_false (X : Nat → Nat) : ∀ k, (∀ j, j < k → X j = 0) → chg X k = false
  | 0, _ => rfl
  | k + 1, h => by rw [chg, chg_false X k (fun j hj => h j (by omega)), h k (by omega)]; rfl
theorem chg_true (X : Nat → Nat) : ∀ k, (¬ ∀ j, j < k → X j = 0) → chg X k = true
  | 0, h => absurd (fun j hj => absurd hj (Nat.not_lt_zero _)) h
  | k + 1, h => by
    rw [chg]
    by_cases h2 : ∀ j, j < k → X j = 0
    · by_cases h3 : X k = 0
      · refine absurd (fun j hj => ?_) h
        by_cases e : j = k
        · rw [e, h3]
        · exact h2 j (by omega)
      · simp [h3]
    · rw [chg_true X k h2]; rfl
theorem back_iff (G X : Nat → Nat) (n a : Nat) (ha : a ≤ n) (hG : ∀ i, i < n + 4 → G i < 256) (hX : ∀ j, j < 4 → X j < 256) (hs : sumN G n = le4 G n) :
    (sumN (xorD G a X 4) n = le4 (xorD G a X 4) n) ↔ ∀ j, j < 4 → X j = 0 := by
  have e : xorD G a X 4 = fun i => G i ^^^ (if a ≤ i ∧ i < a + 4 then X (i - a) else 0) := by
    funext i
    unfold xorD
    split
    · rfl
    · rw [Nat.xor_zero]
  rw [e, open_iff G (fun i => if a ≤ i ∧ i < a + 4 then X (i - a) else 0) n a ha hG ?_ ?_ hs]
  · constructor
    · intro h j hj
      have := h j hj
      rwa [if_pos (by omega), Nat.add_sub_cancel_left] at this
    · intro h j hj
      show (if a ≤ a + j ∧ a + j < a + 4 then X (a + j - a) else 0) = 0
      rw [if_pos (by omega), Nat.add_sub_cancel_left, h j hj]
  · intro i hi
    show (if a ≤ i ∧ i < a + 4 then X (i - a) else 0) < 256
    split
    · exact hX _ (by omega)
    · decide
  · intro i hi h
    show (if a ≤ i ∧ i < a + 4 then X (i - a) else 0) = 0
    rw [if_neg (by omega)]

theorem back_long (p : Option Addr) (m cb : Nat) (at' : Int) (x0 x1 x2 x3 : Nat) (w : World) (h1 : m ≤ maxLen) (h : 400 < m) :
    Calls Try.prog 4 #[.slice p m cb, .int .i64 at', .agg #[.int .u8 (x0 : Int), .int .u8 (x1 : Int), .int .u8 (x2 : Int), .int .u8 (x3 : Int)]] w fun e w' => e = .returned (.bool true) ∧ Below w.heap.size w w' := by
  unfold maxLen at h1
  have d1 : decide ((400 : Int) < (m : Int)) = true := decide_eq_true (by omega)
  go_enter Try.func4, Try.ntmps4
  go_wp2
  go_ret
  exact ⟨rfl, (Below.refl _ _).alloc (Nat.le_refl _) _⟩
end Go.Proofs.Ytfkhapliblnacaa
