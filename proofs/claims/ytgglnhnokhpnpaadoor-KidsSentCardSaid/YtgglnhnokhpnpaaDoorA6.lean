/- Walks of slices.Index, slices.Contains, route.areNodesRising, route.Check. -/
import Derived.Test.YtgglnhnokhpnpaaDoorP1
namespace Go.Proofs.YtgglnhnokhpnpaaDoor
open Go.RowKit

/-- A slice that holds a list. -/
def IL (w : World) (v : Value) (L : List Int) : Prop := ISl w v L.length (zF L)
theorem IL.below {w w' : World} {v : Value} {L : List Int} {B : Nat} (h : IL w v L) (hb : Below B w w') (hB : w.heap.size ≤ B) : IL w' v L := ISl.below h hb hB
/-- Numbers of nodes, rising. -/
def Ris (L : List Int) : Prop := L.Pairwise (fun x y => x < y) ∧ Nds L
/-- What the number at k may be at least. -/
def lea (L : List Int) (k : Nat) : Int := if k = 0 then 0 else zF L (k - 1) + 1
theorem lea_succ (L : List Int) (k : Nat) : lea L (k + 1) = zF L k + 1 := rfl
theorem ris_iff (L : List Int) : Ris L ↔ ∀ i, i < L.length → lea L i ≤ zF L i ∧ zF L i < 8 := by
  constructor
  · rintro ⟨h1, h2⟩ i hi
    have h3 := h2 _ (zF_mem hi)
    refine ⟨?_, h3.2⟩
    cases i with
    | zero => exact h3.1
    | succ i =>
      rw [lea_succ]
      have := List.pairwise_iff_getElem.1 h1 i (i + 1) (by omega) hi (by omega)
      simp only [zF, List.getD, List.getElem?_eq_getElem hi, List.getElem?_eq_getElem (show i < L.length by omega), Option.getD_some]
      omega
  · intro h
    have up : ∀ j, j < L.length → ∀ i, i < j → zF L i < zF L j := by
      intro j
      induction j with
      | zero => intro _ i hi; omega
      | succ j ih =>
        intro hj i hi
        have h1 := (h (j + 1) hj).1
        rw [lea_succ] at h1
        by_cases e : i = j
        · subst e; omega
        · have := ih (by omega) i (by omega)
          omega
    have low : ∀ j, j < L.length → 0 ≤ zF L j := by
      intro j hj
      have h0 := (h 0 (by omega)).1
      have e0 : lea L 0 = 0 := rfl
      rw [e0] at h0
      cases j with
      | zero => exact h0
      | succ j => have := up (j + 1) hj 0 (by omega); omega
    refine ⟨?_, ?_⟩
    · rw [List.pairwise_iff_getElem]
      intro i j hi hj hij
      have := up j hj i hij
      simpa only [zF, List.getD, List.getElem?_eq_getElem hi, List.getElem?_eq_getElem hj, Option.getD_some] using this
    · intro x hx
      obtain ⟨i, hi, rfl⟩ := zF_of_mem hx
      exact ⟨low i hi, (h i hi).2⟩
end Go.Proofs.YtgglnhnokhpnpaaDoor
