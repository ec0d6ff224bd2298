/- Right paths and whole ones, as plain functions; slices that hold lists of ints. -/
import Derived.Test.YtgglnhnokhpnpaaDoorA6
namespace Go.Proofs.YtgglnhnokhpnpaaDoor
open Go.RowKit

/-- Are the first k nodes' numbers? -/
def ndK (L : List Int) : Nat → Bool
  | 0 => true
  | k + 1 => ndK L k && decide (IsN (zF L k))
def nd (L : List Int) : Bool := ndK L L.length
theorem ndK_succ (L : List Int) (k : Nat) : ndK L (k + 1) = (ndK L k && decide (IsN (zF L k))) := rfl
theorem ndK_iff (L : List Int) : ∀ k, ndK L k = true ↔ ∀ i, i < k → IsN (zF L i)
  | 0 => by simp [ndK]
  | k + 1 => by
    rw [ndK_succ, Bool.and_eq_true, ndK_iff L k, decide_eq_true_iff]
    constructor
    · rintro ⟨h1, h2⟩ i hi
      by_cases e : i = k
      · subst e; exact h2
      · exact h1 i (by omega)
    · intro h
      exact ⟨fun i hi => h i (by omega), h k (by omega)⟩
theorem nd_iff (L : List Int) : nd L = true ↔ Nds L := by
  unfold nd
  rw [ndK_iff]
  constructor
  · intro h x hx
    obtain ⟨i, hi, rfl⟩ := zF_of_mem hx
    exact h i hi
  · intro h i hi
    exact h _ (zF_mem hi)
/-- The one ahead of place i. -/
def lst (s : Int) (L : List Int) : Nat → Int
  | 0 => s
  | i + 1 => zF L i
/-- Is each of the first k nearer than the one ahead of it? -/
def neK (t s : Int) (L : List Int) : Nat → Bool
  | 0 => true
  | k + 1 => neK t s L k && nb t (zF L k) (lst s L k)
def ne (t s : Int) (L : List Int) : Bool := neK t s L L.length
theorem neK_succ (t s : Int) (L : List Int) (k : Nat) : neK t s L (k + 1) = (neK t s L k && nb t (zF L k) (lst s L k)) := rfl
theorem neK_iff (t s : Int) (L : List Int) : ∀ k, neK t s L k = true ↔ ∀ i, i < k → nb t (zF L i) (lst s L i) = true
  | 0 => by simp [neK]
  | k + 1 => by
    rw [neK_succ, Bool.and_eq_true, neK_iff t s L k]
    constructor
    · rintro ⟨h1, h2⟩ i hi
      by_cases e : i = k
      · subst e; exact h2
      · exact h1 i (by omega)
    · intro h
      exact ⟨fun i hi => h i (by omega), h k (by omega)⟩
theorem stop_false {f : Nat → Bool} {g : Nat → Bool} (hf : ∀ k, f (k + 1) = (f k && g k)) {k n : Nat} (hk : k < n) (hg : g k = false) : f n = false := by
  have h1 : f (k + 1) = false := by rw [hf, hg, Bool.and_false]
  have : ∀ m, f (k + 1 + m) = false := by
    intro m
    induction m with
    | zero => exact h1
    | succ m ih => rw [show k + 1 + (m + 1) = (k + 1 + m) + 1 from rfl, hf, ih, Bool.false_and]
  have := this (n - (k + 1))
  rwa [show k + 1 + (n - (k + 1)) = n by omega] at this
/-- What Check answers. -/
def chk (t s : Int) (L : List Int) (d : Int) : Int :=
  if ¬ (IsT t ∧ IsN s) then 1 else if d < 1 ∨ 8 < d ∨ nd L = false then 1 else if d < (L.length : Int) then 12 else if ne t s L = true then 0 else 1
theorem chk_cases (t s : Int) (L : List Int) (d : Int) : chk t s L d = 0 ∨ chk t s L d = 1 ∨ chk t s L d = 12 := by
  unfold chk
  split <;> (try split) <;> (try split) <;> (try split) <;> simp
theorem chk_zero {t s : Int} {L : List Int} {d : Int} : chk t s L d = 0 ↔ (IsT t ∧ IsN s) ∧ (1 ≤ d ∧ d ≤ 8) ∧ nd L = true ∧ (L.length : Int) ≤ d ∧ ne t s L = true := by
  unfold chk
  constructor
  · intro h
    split at h
    · cases h
    · next h1 =>
      split at h
      · cases h
      · next h2 =>
        split at h
        · cases h
        · next h3 =>
          split at h
          · next h4 =>
            have h1' := Decidable.not_not.1 h1
            have h5 : nd L = true := by cases hq : nd L with
              | true => rfl
              | false => exact absurd (.inr (.inr hq)) h2
            exact ⟨h1', ⟨by omega, by omega⟩, h5, by omega, h4⟩
          · cases h
  · rintro ⟨h1, h2, h3, h4, h5⟩
    rw [if_neg (fun q => q h1), if_neg (by rw [h3]; rintro (q | q | q); · omega
                                           · omega
                                           · cases q), if_neg (by omega), if_pos h5]

/-- A slice that holds a list: its form, its cells. -/
theorem il_form {w : World} {v : Value} {L : List Int} (h : IL w v L) : ∃ q c, v = .slice q L.length c := by
  rcases h with ⟨h0, rfl | ⟨a, cap, rfl, hc⟩⟩ | ⟨b, off, cap, rfl, _⟩
  · exact ⟨_, _, by rw [h0]⟩
  · exact ⟨_, _, by rw [h0]⟩
  · exact ⟨_, _, rfl⟩
theorem il_cell {w : World} {q : Option Addr} {n c : Nat} {L : List Int} (h : IL w (.slice q n c) L) {k : Nat} (hk : k < n) (hn : n ≤ L.length) :
    ∃ b off, q = some ⟨b, off, none⟩ ∧ n ≤ c ∧ c ≤ 9223372036854775807 ∧ b < w.heap.size ∧ w.cell? ⟨b, off + k, none⟩ = some (.int .i64 (zF L k)) := by
  rcases h with ⟨h0, _⟩ | ⟨b, off, cap, hv, h1, h2, h3, h4⟩
  · omega
  · injection hv with e1 e2 e3
    subst e1
    subst e3
    unfold maxLen at h2
    exact ⟨b, off, rfl, by omega, by omega, h3, h4 k (by omega)⟩
/-- The place i of a list of lists. -/
def zL (M : List (List Int)) (i : Nat) : List Int := M.getD i []
theorem zL_mem {M : List (List Int)} {i : Nat} (h : i < M.length) : zL M i ∈ M := by simp [zL, List.getD, List.getElem?_eq_getElem h]
theorem zL_of_mem {M : List (List Int)} {x : List Int} (h : x ∈ M) : ∃ i, i < M.length ∧ zL M i = x := by
  obtain ⟨i, h1, h2⟩ := List.getElem_of_mem h
  exact ⟨i, h1, by simp [zL, List.getD, List.getElem?_eq_getElem h1, h2]⟩
/-- A slice that holds a list of lists. -/
def LL (w : World) (v : Value) (M : List (List Int)) : Prop :=
  ∃ q c, v = .slice q M.length c ∧ ∀ k, k < M.length → ∃ b off u, q = some ⟨b, off, none⟩ ∧ M.length ≤ c ∧ c ≤ 9223372036854775807 ∧ b < w.heap.size ∧ w.cell? ⟨b, off + k, none⟩ = some u ∧ IL w u (zL M k)
theorem LL.below {w w' : World} {v : Value} {M : List (List Int)} {B : Nat} (h : LL w v M) (hb : Below B w w') (hB : w.heap.size ≤ B) : LL w' v M := by
  obtain ⟨q, c, rfl, h⟩ := h
  refine ⟨q, c, rfl, fun k hk => ?_⟩
  obtain ⟨b, off, u, h1, h2, h3, h4, h5, h6⟩ := h k hk
  exact ⟨b, off, u, h1, h2, h3, Nat.lt_of_lt_of_le h4 hb.size, (hb.cell (p := ⟨b, off + k, none⟩) (by show b < B; omega)).trans h5, h6.below hb hB⟩
theorem ll_cell {w : World} {q : Option Addr} {n c : Nat} {M : List (List Int)} (h : LL w (.slice q n c) M) {k : Nat} (hk : k < n) (_ : n ≤ M.length) :
    ∃ b off q1 c1, q = some ⟨b, off, none⟩ ∧ n ≤ c ∧ c ≤ 9223372036854775807 ∧ b < w.heap.size ∧ w.cell? ⟨b, off + k, none⟩ = some (.slice q1 (zL M k).length c1) ∧ IL w (.slice q1 (zL M k).length c1) (zL M k) := by
  obtain ⟨q', c', hv, h⟩ := h
  injection hv with e1 e2 e3
  subst e1
  subst e3
  obtain ⟨b, off, u, h1, h2, h3, h4, h5, h6⟩ := h k (by omega)
  obtain ⟨q1, c1, rfl⟩ := il_form h6
  exact ⟨b, off, q1, c1, h1, by omega, h3, h4, h5, h6⟩
end Go.Proofs.YtgglnhnokhpnpaaDoor
