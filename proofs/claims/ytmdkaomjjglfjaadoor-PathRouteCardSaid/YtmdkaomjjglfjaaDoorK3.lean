/- Going from parent to parent, as plain functions; who goes long enough goes round. -/
import Derived.Test.YtmdkaomjjglfjaaDoorK1
namespace Go.Proofs.YtmdkaomjjglfjaaDoor
open Go.RowKit

/-- The parent of n. -/
def hd (M : List (List Int)) (n : Nat) : Nat := (zF (zL M n) 0).toNat
/-- The k-th one ahead of n. -/
def it (M : List (List Int)) (n : Nat) : Nat → Nat
  | 0 => n
  | k + 1 => hd M (it M n k)
/-- Has n a parent? -/
def lv (M : List (List Int)) (n : Nat) : Bool := decide (n < M.length) && decide (0 < (zL M n).length)
def alK (M : List (List Int)) (n : Nat) : Nat → Bool
  | 0 => true
  | k + 1 => alK M n k && lv M (it M n k)
theorem alK_succ (M : List (List Int)) (n k : Nat) : alK M n (k + 1) = (alK M n k && lv M (it M n k)) := rfl
theorem alK_iff (M : List (List Int)) (n : Nat) : ∀ k, alK M n k = true ↔ ∀ i, i < k → lv M (it M n i) = true
  | 0 => by simp [alK]
  | k + 1 => by
    rw [alK_succ, Bool.and_eq_true, alK_iff M n k]
    constructor
    · rintro ⟨h1, h2⟩ i hi
      by_cases e : i = k
      · subst e; exact h2
      · exact h1 i (by omega)
    · intro h
      exact ⟨fun i hi => h i (by omega), h k (by omega)⟩
theorem it_add (M : List (List Int)) (n b : Nat) : ∀ a, it M n (a + b) = it M (it M n b) a
  | 0 => by rw [Nat.zero_add]; rfl
  | a + 1 => by
    rw [show a + 1 + b = (a + b) + 1 by omega]
    show hd M (it M n (a + b)) = hd M (it M (it M n b) a)
    rw [it_add M n b a]
theorem pig : ∀ (m : Nat) (f : Nat → Nat), (∀ i, i ≤ m → f i < m) → ∃ i j, i < j ∧ j ≤ m ∧ f i = f j
  | 0, f, h => absurd (h 0 (Nat.le_refl _)) (Nat.not_lt_zero _)
  | m + 1, f, h => by
    by_cases q : ∃ i, i ≤ m ∧ f i = f (m + 1)
    · obtain ⟨i, h1, h2⟩ := q
      exact ⟨i, m + 1, by omega, Nat.le_refl _, h2⟩
    · have hq : ∀ i, i ≤ m → f i ≠ f (m + 1) := fun i hi e => q ⟨i, hi, e⟩
      have hc := h (m + 1) (Nat.le_refl _)
      obtain ⟨i, j, h1, h2, h3⟩ := pig m (fun i => if f (m + 1) < f i then f i - 1 else f i) (fun i hi => by
        have a := h i (by omega)
        have b := hq i hi
        show (if f (m + 1) < f i then f i - 1 else f i) < m
        split <;> omega)
      have a := hq i (by omega)
      have b := hq j (by omega)
      refine ⟨i, j, h1, by omega, ?_⟩
      split at h3 <;> split at h3 <;> omega
theorem al_mono {M : List (List Int)} {n a b : Nat} (h : alK M n b = true) (hab : a ≤ b) : alK M n a = true :=
  (alK_iff M n a).2 fun i hi => (alK_iff M n b).1 h i (by omega)
/-- Who comes back goes on without end. -/
theorem al_ever {M : List (List Int)} {n i j K : Nat} (h : alK M n K = true) (hij : i < j) (hj : j ≤ K) (e : it M n i = it M n j) : ∀ k, lv M (it M n k) = true := by
  intro k
  induction k using Nat.strongRecOn with
  | _ k ih =>
    by_cases hk : k < K
    · exact (alK_iff M n K).1 h k hk
    · have e1 : it M n k = it M n (k - j + i) := by
        rw [show k = (k - j) + j by omega, it_add, ← e, ← it_add, show k - j + j - j + i = k - j + i by omega]
      rw [e1]
      exact ih _ (by omega)
theorem lv_lt {M : List (List Int)} {n : Nat} (h : lv M n = true) : n < M.length ∧ 0 < (zL M n).length := by
  unfold lv at h
  rw [Bool.and_eq_true, decide_eq_true_iff, decide_eq_true_iff] at h
  exact h
def AllN (M : List (List Int)) : Prop := ∀ i, i < M.length → Nds (zL M i)
theorem hd_lt {M : List (List Int)} (hN : AllN M) {n : Nat} (h : lv M n = true) : hd M n < 8 ∧ zF (zL M n) 0 = (hd M n : Int) := by
  obtain ⟨h1, h2⟩ := lv_lt h
  have := hN n h1 _ (zF_mem h2)
  unfold hd
  obtain ⟨a, b⟩ := this
  omega
/-- Going eight steps is going without end. -/
theorem al_eight {M : List (List Int)} (hN : AllN M) (hm : M.length ≤ 8) {n : Nat} (h : alK M n 8 = true) : ∀ k, alK M n k = true := by
  have h0 := (alK_iff M n 8).1 h
  have hb : ∀ k, k ≤ 8 → it M n k < 8 := fun k hk => by
    by_cases e : k < 8
    · have := (lv_lt (h0 k e)).1; omega
    · obtain rfl : k = 7 + 1 := by omega
      exact (hd_lt hN (h0 7 (by omega))).1
  obtain ⟨i, j, h1, h2, h3⟩ := pig 8 (it M n) hb
  have := al_ever h h1 h2 h3
  exact fun k => (alK_iff M n k).2 fun i _ => this i
/-- .. and so is going as many as there are, and two more. -/
theorem al_len {M : List (List Int)} {n : Nat} (h : alK M n (M.length + 2) = true) : alK M n 8 = true := by
  have h0 := (alK_iff M n _).1 h
  obtain ⟨i, j, h1, h2, h3⟩ := pig M.length (it M n) (fun k hk => (lv_lt (h0 k (by omega))).1)
  have := al_ever h h1 (by omega : j ≤ M.length + 2) h3
  exact (alK_iff M n 8).2 fun i _ => this i
/-- Are the first k lists of nodes? -/
def nlK (M : List (List Int)) : Nat → Bool
  | 0 => true
  | k + 1 => nlK M k && nd (zL M k)
theorem nlK_succ (M : List (List Int)) (k : Nat) : nlK M (k + 1) = (nlK M k && nd (zL M k)) := rfl
theorem nlK_iff (M : List (List Int)) : ∀ k, nlK M k = true ↔ ∀ i, i < k → Nds (zL M i)
  | 0 => by simp [nlK]
  | k + 1 => by
    rw [nlK_succ, Bool.and_eq_true, nlK_iff M k, nd_iff]
    constructor
    · rintro ⟨h1, h2⟩ i hi
      by_cases e : i = k
      · subst e; exact h2
      · exact h1 i (by omega)
    · intro h
      exact ⟨fun i hi => h i (by omega), h k (by omega)⟩
/-- Does none of the first k come back? -/
def ncK (M : List (List Int)) : Nat → Bool
  | 0 => true
  | k + 1 => ncK M k && !alK M k 8
theorem ncK_succ (M : List (List Int)) (k : Nat) : ncK M (k + 1) = (ncK M k && !alK M k 8) := rfl
theorem ncK_iff (M : List (List Int)) : ∀ k, ncK M k = true ↔ ∀ i, i < k → alK M i 8 = false
  | 0 => by simp [ncK]
  | k + 1 => by
    rw [ncK_succ, Bool.and_eq_true, ncK_iff M k]
    constructor
    · rintro ⟨h1, h2⟩ i hi
      by_cases e : i = k
      · subst e; simpa using h2
      · exact h1 i (by omega)
    · intro h
      exact ⟨fun i hi => h i (by omega), by rw [h k (by omega)]; rfl⟩
/-- What Whole answers. -/
def wh (M : List (List Int)) : Bool := decide (M.length ≤ 8) && (nlK M M.length && ncK M M.length)
theorem wh_true {M : List (List Int)} (h1 : M.length ≤ 8) (h2 : nlK M M.length = true) (h3 : ncK M M.length = true) : wh M = true := by
  unfold wh; rw [decide_eq_true h1, h2, h3]; rfl
theorem wh_no1 {M : List (List Int)} (h : 8 < M.length) : wh M = false := by
  unfold wh; rw [decide_eq_false (by omega)]; rfl
theorem wh_no2 {M : List (List Int)} (h : nlK M M.length = false) : wh M = false := by
  unfold wh; rw [h, Bool.false_and, Bool.and_false]
theorem wh_no3 {M : List (List Int)} (h : ncK M M.length = false) : wh M = false := by
  unfold wh; rw [h, Bool.and_false, Bool.and_false]
theorem wh_iff {M : List (List Int)} : wh M = true ↔ M.length ≤ 8 ∧ AllN M ∧ ∀ i, i < M.length → alK M i 8 = false := by
  unfold wh
  rw [Bool.and_eq_true, Bool.and_eq_true, decide_eq_true_iff, nlK_iff, ncK_iff]
  rfl
end Go.Proofs.YtmdkaomjjglfjaaDoor
