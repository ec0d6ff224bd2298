/- Walks of keep.Ints of what is the same, keep.TwinInts, and the page's Nodes. -/
import Derived.Test.YtmdkaomjjglfjaaDoorG2
import Derived.Test.YtmdkaomjjglfjaaDoorK6
namespace Go.Proofs.YtmdkaomjjglfjaaDoor
open Go.RowKit

/-- Is a number among the first k? -/
def mt (L : List Int) (s : Int) : Nat → Bool
  | 0 => false
  | k + 1 => mt L s k || zF L k == s
theorem mt_iff (L : List Int) (s : Int) : ∀ k, mt L s k = true ↔ ∃ i, i < k ∧ zF L i = s
  | 0 => by simp [mt]
  | k + 1 => by
    rw [mt, Bool.or_eq_true, mt_iff L s k, beq_iff_eq]
    constructor
    · rintro (⟨i, h1, h2⟩ | h)
      · exact ⟨i, by omega, h2⟩
      · exact ⟨k, by omega, h⟩
    · rintro ⟨i, h1, h2⟩
      by_cases e : i = k
      · subst e; exact .inr h2
      · exact .inl ⟨i, by omega, h2⟩
theorem mt_mem (L : List Int) (s : Int) : mt L s L.length = decide (s ∈ L) := by
  have : mt L s L.length = true ↔ s ∈ L := by
    rw [mt_iff]
    constructor
    · rintro ⟨i, h1, rfl⟩
      exact zF_mem h1
    · intro h
      obtain ⟨i, h1, h2⟩ := zF_of_mem h
      exact ⟨i, h1, h2⟩
  rw [← Bool.eq_iff_iff.2 (this.trans decide_eq_true_iff.symm)]
end Go.Proofs.YtmdkaomjjglfjaaDoor
