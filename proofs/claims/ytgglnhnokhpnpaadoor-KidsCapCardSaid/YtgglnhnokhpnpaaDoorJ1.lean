/- What kids's functions answer, as plain functions of lists. -/
import Derived.Test.YtgglnhnokhpnpaaDoorJ0
namespace Go.Proofs.YtgglnhnokhpnpaaDoor
open Go.RowKit

/-- Without those of a node. -/
def dr (L : List Kd) (n : Int) : List Kd := L.filter fun k => k.1 != n
/-- Is one of them of a node? -/
def hs (L : List Kd) (n : Int) : Bool := L.any fun k => k.1 == n
/-- A tick older. -/
def up1 (k : Kd) : Kd := (k.1, k.2.1, k.2.2 + 1)
def old (L : List Kd) : List Kd := (L.map up1).filter fun k => decide (k.2.2 ≤ 6)
theorem dr_yes {L : List Kd} {k : Nat} {n : Int} (hk : k < L.length) (h : (kz L k).1 ≠ n) : dr (L.take (k + 1)) n = dr (L.take k) n ++ [kz L k] := by
  rw [take_kz hk]
  simp [dr, h]
theorem dr_no {L : List Kd} {k : Nat} {n : Int} (hk : k < L.length) (h : (kz L k).1 = n) : dr (L.take (k + 1)) n = dr (L.take k) n := by
  rw [take_kz hk]
  simp [dr, h]
theorem dr_len (L : List Kd) (n : Int) : (dr L n).length ≤ L.length := List.length_filter_le _ _
theorem old_yes {L : List Kd} {k : Nat} (hk : k < L.length) (h : (kz L k).2.2 + 1 ≤ 6) : old (L.take (k + 1)) = old (L.take k) ++ [up1 (kz L k)] := by
  rw [take_kz hk]
  simp only [old, List.map_append, List.filter_append]
  simp [up1, h]
theorem old_no {L : List Kd} {k : Nat} (hk : k < L.length) (h : ¬ (kz L k).2.2 + 1 ≤ 6) : old (L.take (k + 1)) = old (L.take k) := by
  rw [take_kz hk]
  simp only [old, List.map_append, List.filter_append]
  simp [up1, h]
theorem old_len (L : List Kd) : (old L).length ≤ L.length := by
  have := List.length_filter_le (fun k : Kd => decide (k.2.2 ≤ 6)) (L.map up1)
  simpa [old] using this
theorem hs_yes {L : List Kd} {k : Nat} {n : Int} (hk : k < L.length) (h : (kz L k).1 = n) : hs L n = true := by
  simp only [hs, List.any_eq_true, beq_iff_eq]
  exact ⟨_, kz_mem hk, h⟩
theorem hs_iff {L : List Kd} {n : Int} : hs L n = true ↔ ∃ x ∈ L, x.1 = n := by simp [hs]
theorem hs_not {L : List Kd} {n : Int} (h : ∀ i, i < L.length → (kz L i).1 ≠ n) : hs L n = false := by
  cases q : hs L n with
  | false => rfl
  | true =>
    obtain ⟨x, hx, hn⟩ := hs_iff.1 q
    obtain ⟨i, hi, rfl⟩ := kz_of_mem hx
    exact absurd hn (h i hi)

/-- May this one stand behind a node? -/
def okA (t at' : Int) (x : Kd) : Bool := decide (1 ≤ x.2.1) && decide (x.2.1 ≤ 1073741824) && decide (0 ≤ x.2.2) && decide (x.2.2 ≤ 6) && nb t at' x.1
/-- What stands ahead of a place. -/
def ls (s : Int) (L : List Kd) : Nat → Int
  | 0 => s
  | k + 1 => (kz L k).1
/-- The first k are right. -/
def rkK (t s : Int) (L : List Kd) : Nat → Bool
  | 0 => true
  | k + 1 => rkK t s L k && okA t (ls s L k) (kz L k)
theorem rkK_succ (t s : Int) (L : List Kd) (k : Nat) : rkK t s L (k + 1) = (rkK t s L k && okA t (ls s L k) (kz L k)) := rfl
theorem rkK_iff (t s : Int) (L : List Kd) : ∀ k, rkK t s L k = true ↔ ∀ i, i < k → okA t (ls s L i) (kz L i) = true := by
  intro k
  induction k with
  | zero => exact ⟨fun _ i hi => absurd hi (Nat.not_lt_zero _), fun _ => rfl⟩
  | succ k ih =>
    rw [rkK_succ, Bool.and_eq_true, ih]
    refine ⟨fun h i hi => ?_, fun h => ⟨fun i hi => h i (by omega), h k (by omega)⟩⟩
    by_cases e : i = k
    · subst e; exact h.2
    · exact h.1 i (by omega)
/-- Right children. -/
def rk (t s lim : Int) (L : List Kd) : Bool := decide (IsT t) && decide (IsN s) && decide (1 ≤ lim) && decide (lim ≤ 4) && decide ((L.length : Int) ≤ lim) && rkK t s L L.length
theorem rk_iff {t s lim : Int} {L : List Kd} : rk t s lim L = true ↔ IsT t ∧ IsN s ∧ 1 ≤ lim ∧ lim ≤ 4 ∧ (L.length : Int) ≤ lim ∧ rkK t s L L.length = true := by
  unfold rk
  simp only [Bool.and_eq_true, decide_eq_true_eq]
  constructor
  · rintro ⟨⟨⟨⟨⟨a, b⟩, c⟩, d⟩, e⟩, f⟩
    exact ⟨a, b, c, d, e, f⟩
  · rintro ⟨a, b, c, d, e, f⟩
    exact ⟨⟨⟨⟨⟨a, b⟩, c⟩, d⟩, e⟩, f⟩
theorem rk_false {t s lim : Int} {L : List Kd} (h : ¬ (IsT t ∧ IsN s ∧ 1 ≤ lim ∧ lim ≤ 4 ∧ (L.length : Int) ≤ lim ∧ rkK t s L L.length = true)) : rk t s lim L = false := by
  cases q : rk t s lim L with
  | false => rfl
  | true => exact absurd (rk_iff.1 q) h
/-- What Check answers. -/
def chR (t s lim : Int) (L : List Kd) : Int := if rk t s lim L = true then 0 else 1
theorem chR_ok {t s lim : Int} {L : List Kd} (h : rk t s lim L = true) : chR t s lim L = 0 := if_pos h
theorem chR_no {t s lim : Int} {L : List Kd} (h : rk t s lim L = false) : chR t s lim L = 1 := if_neg (by rw [h]; decide)
/-- Right children, told without places. -/
def Gd (t s : Int) (L : List Kd) : Prop :=
  (∀ x ∈ L, IsN x.1 ∧ 1 ≤ x.2.1 ∧ x.2.1 ≤ 1073741824 ∧ 0 ≤ x.2.2 ∧ x.2.2 ≤ 6 ∧ gp t s < gp t x.1) ∧ L.Pairwise fun x y => gp t x.1 < gp t y.1
theorem okA_iff {t a : Int} {x : Kd} : okA t a x = true ↔ 1 ≤ x.2.1 ∧ x.2.1 ≤ 1073741824 ∧ 0 ≤ x.2.2 ∧ x.2.2 ≤ 6 ∧ IsT t ∧ IsN a ∧ IsN x.1 ∧ gp t a < gp t x.1 := by
  unfold okA nb
  simp only [Bool.and_eq_true, decide_eq_true_eq]
  constructor
  · rintro ⟨⟨⟨⟨a, b⟩, c⟩, d⟩, e⟩
    exact ⟨a, b, c, d, e⟩
  · rintro ⟨a, b, c, d, e⟩
    exact ⟨⟨⟨⟨a, b⟩, c⟩, d⟩, e⟩
theorem rkK_gd {t s : Int} {L : List Kd} (ht : IsT t) (hn : IsN s) : rkK t s L L.length = true ↔ Gd t s L := by
  rw [rkK_iff]
  constructor
  · intro h
    have up : ∀ j i, i < j → j < L.length → gp t (kz L i).1 < gp t (kz L j).1 := by
      intro j
      induction j with
      | zero => intro i hi; exact absurd hi (Nat.not_lt_zero _)
      | succ j ih =>
        intro i hi hj
        have h1 := (okA_iff.1 (h (j + 1) hj)).2.2.2.2.2.2.2
        simp only [ls] at h1
        by_cases e : i = j
        · subst e; exact h1
        · exact Int.lt_trans (ih i (by omega) (by omega)) h1
    have fs : ∀ j, j < L.length → gp t s < gp t (kz L j).1 := by
      intro j hj
      have h0 := (okA_iff.1 (h 0 (by omega))).2.2.2.2.2.2.2
      simp only [ls] at h0
      by_cases e : j = 0
      · subst e; exact h0
      · exact Int.lt_trans h0 (up j 0 (by omega) hj)
    refine ⟨fun x hx => ?_, ?_⟩
    · obtain ⟨i, hi, rfl⟩ := kz_of_mem hx
      obtain ⟨a, b, c, d, _, _, f, _⟩ := okA_iff.1 (h i hi)
      exact ⟨f, a, b, c, d, fs i hi⟩
    · rw [List.pairwise_iff_getElem]
      intro i j hi hj hij
      have := up j i hij hj
      simpa [kz, List.getD, List.getElem?_eq_getElem hi, List.getElem?_eq_getElem hj] using this
  · rintro ⟨h1, h2⟩ i hi
    obtain ⟨a, b, c, d, e, f⟩ := h1 _ (kz_mem hi)
    refine okA_iff.2 ⟨b, c, d, e, ht, ?_⟩
    cases i with
    | zero => exact ⟨hn, a, f⟩
    | succ i =>
      have hi' : i < L.length := by omega
      refine ⟨(h1 _ (kz_mem hi')).1, a, ?_⟩
      have := List.pairwise_iff_getElem.1 h2 i (i + 1) hi' hi (by omega)
      simpa [ls, kz, List.getD, List.getElem?_eq_getElem hi, List.getElem?_eq_getElem hi'] using this
theorem rk_gd {t s lim : Int} {L : List Kd} : rk t s lim L = true ↔ IsT t ∧ IsN s ∧ 1 ≤ lim ∧ lim ≤ 4 ∧ (L.length : Int) ≤ lim ∧ Gd t s L := by
  rw [rk_iff]
  constructor
  · rintro ⟨a, b, c, d, e, f⟩
    exact ⟨a, b, c, d, e, (rkK_gd a b).1 f⟩
  · rintro ⟨a, b, c, d, e, f⟩
    exact ⟨a, b, c, d, e, (rkK_gd a b).2 f⟩
end Go.Proofs.YtgglnhnokhpnpaaDoor
