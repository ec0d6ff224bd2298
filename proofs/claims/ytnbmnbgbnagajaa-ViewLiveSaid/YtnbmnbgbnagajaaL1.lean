/- The live ones: they rise, self is among them, a tick takes nobody in. -/
import Derived.Test.YtnbmnbgbnagajaaX0
namespace Go.Proofs.Ytnbmnbgbnagajaa
open Go.RowKit

/-- Who is in the list. -/
theorem lvL_mem (F : Nat → Int) (s n i : Nat) : i ∈ lvL F s n ↔ i < n ∧ lvB F s i = true := by
  induction n with
  | zero => simp [lvL]
  | succ n ih =>
    cases h : lvB F s n with
    | true =>
      rw [lvL_yes h, List.mem_append, ih, List.mem_singleton]
      constructor
      · rintro (⟨h1, h2⟩ | rfl)
        · exact ⟨by omega, h2⟩
        · exact ⟨by omega, h⟩
      · rintro ⟨h1, h2⟩
        by_cases e : i = n
        · exact .inr e
        · exact .inl ⟨by omega, h2⟩
    | false =>
      rw [lvL_no h, ih]
      constructor
      · rintro ⟨h1, h2⟩
        exact ⟨by omega, h2⟩
      · rintro ⟨h1, h2⟩
        refine ⟨?_, h2⟩
        by_cases e : i = n
        · subst e; rw [h] at h2; cases h2
        · omega
/-- The list rises. -/
theorem lvL_rise (F : Nat → Int) (s n : Nat) : ∀ i j, i < j → j < (lvL F s n).length → (lvL F s n).getD i 0 < (lvL F s n).getD j 0 := by
  induction n with
  | zero => intro i j _ h; simp [lvL] at h
  | succ n ih =>
    cases h : lvB F s n with
    | true =>
      rw [lvL_yes h]
      intro i j hij hj
      have hi : i < (lvL F s n).length := by simp at hj; omega
      have e1 : (lvL F s n ++ [n]).getD i 0 = (lvL F s n).getD i 0 := by simp [List.getD, List.getElem?_append_left hi]
      rw [e1]
      by_cases hj2 : j < (lvL F s n).length
      · have e2 : (lvL F s n ++ [n]).getD j 0 = (lvL F s n).getD j 0 := by simp [List.getD, List.getElem?_append_left hj2]
        rw [e2]
        exact ih i j hij hj2
      · have hj3 : j = (lvL F s n).length := by simp at hj; omega
        subst hj3
        have e2 : (lvL F s n ++ [n]).getD (lvL F s n).length 0 = n := by simp [List.getD]
        rw [e2]
        have hm : (lvL F s n).getD i 0 ∈ lvL F s n := by simp [List.getD, List.getElem?_eq_getElem hi]
        exact ((lvL_mem F s n _).1 hm).1
    | false => rw [lvL_no h]; exact ih
theorem getD_mem {L : List Nat} {i : Nat} (h : i < L.length) : L.getD i 0 ∈ L := by simp [List.getD, List.getElem?_eq_getElem h]
theorem lvB_iff {F : Nat → Int} {s i : Nat} : lvB F s i = true ↔ i = s ∨ 0 < F (i * 2) ∧ F (i * 2 + 1) < 4 := by simp [lvB]
theorem olF_even (F : Nat → Int) (i : Nat) : olF F (i * 2) = F (i * 2) := by unfold olF; rw [if_neg (by omega)]
theorem olF_odd (F : Nat → Int) (i : Nat) : olF F (i * 2 + 1) = if 1000 < F (i * 2 + 1) + 1 then 1000 else F (i * 2 + 1) + 1 := by unfold olF; rw [if_pos (by omega)]
/-- A tick takes nobody in. -/
theorem lvB_older {F : Nat → Int} {s i : Nat} (h : lvB (olF F) s i = true) : lvB F s i = true := by
  rw [lvB_iff] at h ⊢
  rw [olF_even, olF_odd] at h
  rcases h with h | ⟨h1, h2⟩
  · exact .inl h
  · refine .inr ⟨h1, ?_⟩
    split at h2 <;> omega
/-- How many of the second list were met among the first k of the first one. -/
def hit (L M : List Nat) : Nat → Nat
  | 0 => 0
  | k + 1 => if hit L M k < M.length ∧ M.getD (hit L M k) 0 = L.getD k 0 then hit L M k + 1 else hit L M k
theorem hit_len (L M : List Nat) (k : Nat) : hit L M k ≤ M.length := by
  induction k with
  | zero => exact Nat.zero_le _
  | succ k ih => unfold hit; split <;> omega
/-- Rising lists, the second one within the first: all are met. -/
theorem hit_all (L M : List Nat) (hL : ∀ i j, i < j → j < L.length → L.getD i 0 < L.getD j 0) (hM : ∀ i j, i < j → j < M.length → M.getD i 0 < M.getD j 0)
    (hs : ∀ x ∈ M, x ∈ L) : hit L M L.length = M.length := by
  -- what is not yet met at k lies behind k
  have key : ∀ k, k ≤ L.length → ∀ j, j < M.length → (hit L M k ≤ j ↔ ∀ i, i < k → L.getD i 0 ≠ M.getD j 0) := by
    intro k
    induction k with
    | zero => intro _ j _; simp [hit]
    | succ k ih =>
      intro hk j hj
      have ih' := ih (by omega)
      unfold hit
      by_cases hc : hit L M k < M.length ∧ M.getD (hit L M k) 0 = L.getD k 0
      · rw [if_pos hc]
        obtain ⟨h1, h2⟩ := hc
        constructor
        · intro h i hi
          by_cases e : i = k
          · subst e
            rw [← h2]
            exact Nat.ne_of_lt (hM _ _ (by omega) hj)
          · exact (ih' j hj).1 (by omega) i (by omega)
        · intro h
          have g1 := (ih' j hj).2 fun i hi => h i (by omega)
          by_cases e : hit L M k = j
          · subst e
            exact absurd h2.symm (h k (by omega))
          · omega
      · rw [if_neg hc, ih' j hj]
        constructor
        · intro h i hi
          by_cases e : i = k
          · subst e
            intro q
            -- L k is M j, not yet met; the first that is not met is then j itself
            have hj2 := (ih' j hj).2 h
            by_cases e2 : hit L M i = j
            · exact hc ⟨by omega, by rw [e2, q]⟩
            · have hlt : hit L M i < j := by omega
              have h3 := hM _ _ hlt hj
              have hmem := hs _ (getD_mem (L := M) (i := hit L M i) (by omega))
              obtain ⟨m, hm1, hm2⟩ := List.getElem_of_mem hmem
              have hm3 : L.getD m 0 = M.getD (hit L M i) 0 := by simp [List.getD, List.getElem?_eq_getElem hm1, hm2]
              have h4 := (ih' (hit L M i) (by omega)).1 (Nat.le_refl _)
              by_cases h5 : m < i
              · exact h4 m h5 hm3
              · by_cases h6 : m = i
                · subst h6; omega
                · have := hL i m (by omega) hm1
                  omega
          · exact h i (by omega)
        · intro h i hi
          exact h i (by omega)
  by_cases h : hit L M L.length < M.length
  · have hmem := hs _ (getD_mem h)
    obtain ⟨m, hm1, hm2⟩ := List.getElem_of_mem hmem
    have hm3 : L.getD m 0 = M.getD (hit L M L.length) 0 := by simp [List.getD, List.getElem?_eq_getElem hm1, hm2]
    exact absurd hm3 ((key L.length (Nat.le_refl _) _ h).1 (Nat.le_refl _) m hm1)
  · have := hit_len L M L.length
    omega
/-- Is a number among the first k? -/
def amg (L : List Nat) (x : Nat) : Nat → Bool
  | 0 => false
  | k + 1 => amg L x k || decide (L.getD k 0 = x)
theorem amg_iff (L : List Nat) (x k : Nat) : amg L x k = true ↔ ∃ i, i < k ∧ L.getD i 0 = x := by
  induction k with
  | zero => simp [amg]
  | succ k ih =>
    simp only [amg, Bool.or_eq_true, decide_eq_true_eq, ih]
    constructor
    · rintro (⟨i, h1, h2⟩ | h)
      · exact ⟨i, by omega, h2⟩
      · exact ⟨k, by omega, h⟩
    · rintro ⟨i, h1, h2⟩
      by_cases e : i = k
      · subst e; exact .inr h2
      · exact .inl ⟨i, by omega, h2⟩
theorem amg_mem (L : List Nat) (x : Nat) : amg L x L.length = true ↔ x ∈ L := by
  rw [amg_iff]
  constructor
  · rintro ⟨i, h1, rfl⟩
    exact getD_mem h1
  · intro h
    obtain ⟨i, h1, h2⟩ := List.getElem_of_mem h
    exact ⟨i, h1, by simp [List.getD, List.getElem?_eq_getElem h1, h2]⟩
end Go.Proofs.Ytnbmnbgbnagajaa
