/- A row of eight bools; which nodes are fingers, and their list; the best one as the page reckons it. -/
import Derived.Test.YtmfgbecdimndcaaDoorE1
import Derived.Laws.MakeOwn
namespace Go.Proofs.YtmfgbecdimndcaaDoor
open Go.RowKit

/-- The cells of eight bools. -/
def rowB (f : Nat → Bool) : Array Value := ((List.range 8).map fun i => Value.bool (f i)).toArray
theorem rowB_get (f : Nat → Bool) (i : Nat) (h : i < 8) : (rowB f)[i]? = some (.bool (f i)) := by simp [rowB, h]
theorem rowB_size (f : Nat → Bool) : (rowB f).size = 8 := by simp [rowB]
theorem rowB_set (f : Nat → Bool) (j : Nat) : (rowB f).setIfInBounds j (.bool true) = rowB (fun i => (j == i) || f i) := by
  apply Array.ext
  · simp [rowB]
  · intro i h1 h2
    have hi : i < 8 := by simpa [rowB] using h2
    rw [Array.getElem_setIfInBounds (by rw [rowB_size]; exact hi)]
    by_cases e : j = i
    · simp [e, rowB]
    · simp [e, rowB]
/-- A block that is there, and what it holds. -/
def Has (w : World) (g : Nat) (o : Obj) : Prop := g < w.heap.size ∧ w.heap[g]? = some o
theorem Has.below {w w' : World} {g B : Nat} {o : Obj} (h : Has w g o) (b : Below B w w') (hB : w.heap.size ≤ B) : Has w' g o := ⟨Nat.lt_of_lt_of_le h.1 b.size, (b.block g (Nat.lt_of_lt_of_le h.1 hB)).trans h.2⟩
theorem Has.new (w : World) (o : Obj) : Has (w.alloc o) w.heap.size o := ⟨by simp, heap_alloc_new _ _⟩
theorem Has.cell {w : World} {g k : Nat} {f : Nat → Bool} (h : Has w g (.cells (rowB f) 4)) (hk : k < 8) : w.cell? ⟨g, k, none⟩ = some (.bool (f k)) := by simp [World.cell?, h.2, rowB_get f k hk]
theorem Has.frozen {w : World} {g k : Nat} {cs : Array Value} {t : TypeId} (h : Has w g (.cells cs t)) : w.frozen? ⟨g, k, none⟩ = false := by simp [World.frozen?, h.2]
theorem Has.set {w : World} {g : Nat} {f : Nat → Bool} (h : Has w g (.cells (rowB f) 4)) (j : Nat) : Has (w.setCell ⟨g, j, none⟩ (.bool true)) g (.cells (rowB (fun i => (j == i) || f i)) 4) := by
  refine ⟨by simpa [World.setCell] using h.1, ?_⟩
  rw [Sort.setCell_eq, ← rowB_set]
  simp [Sort.mapBlock, Sort.onCells, Array.getElem?_modify, h.2]
theorem info4 : (Tryd.prog.info? 4).map (fun i => (i.zero, i.size, i.bytes)) = some (some (.bool false), 1, 1) := by kernel_rfl
theorem made8 : madeCells (Value.bool false).cells (8 * 1) = rowB (fun _ => false) := by
  apply Array.ext
  · simp [madeCells, rowB]
  · intro i h1 h2
    simp [madeCells, rowB, Value.cells, Nat.mod_one]
theorem mk8 (w : World) : (Instr.makeSlice 56 (.int .i64 8) (.int .i64 8)).run Tryd.prog w = .ok (.slice (some ⟨w.heap.size, 0, none⟩) 8 8) (w.alloc (.cells (rowB (fun _ => false)) 4)) := by
  obtain ⟨i, hi, hz0, hz1, hz2⟩ := info_parts info4
  have h := run_make (P := Tryd.prog) w 56 4 i (.bool false) Tryd.underlying56 hi hz0 .i64 .i64 8 8 (by omega) (Int.le_refl _) (by rw [hz2]; omega) (by omega)
  rw [hz1] at h
  have e : ((8 : Int).toNat) = 8 := rfl
  rw [e, made8] at h
  exact h
/-- Which nodes were found behind the first b bits. -/
def onb (L : List Int) (s : Int) : Nat → Nat → Bool
  | 0, _ => false
  | b + 1, i => (fst L (stp s b)).toNat == i || onb L s b i
theorem onb_iff (L : List Int) (s : Int) (i : Nat) : ∀ b, onb L s b i = true ↔ ∃ c, c < b ∧ (fst L (stp s c)).toNat = i
  | 0 => by simp [onb]
  | b + 1 => by
    rw [onb, Bool.or_eq_true, onb_iff L s i b, beq_iff_eq]
    constructor
    · rintro (h | ⟨c, h1, h2⟩)
      · exact ⟨b, by omega, h⟩
      · exact ⟨c, by omega, h2⟩
    · rintro ⟨c, h1, h2⟩
      by_cases e : c = b
      · subst e; exact .inl h2
      · exact .inr ⟨c, by omega, h2⟩
/-- The first k that are on, without one. -/
def seL (f : Nat → Bool) (s : Int) : Nat → List Int
  | 0 => []
  | k + 1 => if f k = true ∧ (k : Int) ≠ s then seL f s k ++ [(k : Int)] else seL f s k
theorem seL_mem (f : Nat → Bool) (s x : Int) : ∀ k, x ∈ seL f s k ↔ ∃ i, i < k ∧ x = (i : Int) ∧ f i = true ∧ x ≠ s
  | 0 => by simp [seL]
  | k + 1 => by
    have ih := seL_mem f s x k
    rw [seL]
    split
    · next h =>
      rw [List.mem_append, List.mem_singleton, ih]
      constructor
      · rintro (⟨i, h1, h2⟩ | rfl)
        · exact ⟨i, by omega, h2⟩
        · exact ⟨k, by omega, rfl, h⟩
      · rintro ⟨i, h1, h2, h3, h4⟩
        by_cases e : i = k
        · subst e; exact .inr h2
        · exact .inl ⟨i, by omega, h2, h3, h4⟩
    · next h =>
      rw [ih]
      constructor
      · rintro ⟨i, h1, h2⟩
        exact ⟨i, by omega, h2⟩
      · rintro ⟨i, h1, h2, h3, h4⟩
        by_cases e : i = k
        · subst e
          subst h2
          exact absurd ⟨h3, h4⟩ h
        · exact ⟨i, by omega, h2, h3, h4⟩
theorem seL_rise (f : Nat → Bool) (s : Int) : ∀ k, (seL f s k).Pairwise (fun x y => x < y)
  | 0 => List.Pairwise.nil
  | k + 1 => by
    have ih := seL_rise f s k
    rw [seL]
    split
    · rw [List.pairwise_append]
      refine ⟨ih, by simp, ?_⟩
      intro x hx y hy
      rw [List.mem_singleton] at hy
      subst hy
      obtain ⟨i, h1, rfl, _⟩ := (seL_mem f s x k).1 hx
      omega
    · exact ih
theorem seL_len (f : Nat → Bool) (s : Int) : ∀ k, (seL f s k).length ≤ k
  | 0 => Nat.le_refl _
  | k + 1 => by
    have ih := seL_len f s k
    rw [seL]
    split
    · rw [List.length_append, List.length_singleton]; omega
    · omega
theorem seL_yes {f : Nat → Bool} {s : Int} {k : Nat} (h1 : f k = true) (h2 : (k : Int) ≠ s) : seL f s (k + 1) = seL f s k ++ [(k : Int)] := by rw [seL, if_pos ⟨h1, h2⟩]
theorem seL_no {f : Nat → Bool} {s : Int} {k : Nat} (h : f k = false ∨ (k : Int) = s) : seL f s (k + 1) = seL f s k := by
  rw [seL, if_neg]
  rintro ⟨h1, h2⟩
  rcases h with h | h
  · rw [h] at h1; cases h1
  · exact h2 h
/-- They are the fingers. -/
theorem seL_fng {L : List Int} {s : Int} (hN : Nds L) (h0 : L ≠ []) : seL (onb L s 62) s 8 = fng L s := by
  refine rise_eq (seL_rise _ _ _) (fng_rise L s) fun x => ?_
  rw [seL_mem, fng_mem]
  constructor
  · rintro ⟨i, h1, rfl, h2, h3⟩
    obtain ⟨c, h4, h5⟩ := (onb_iff L s i 62).1 h2
    refine ⟨h3, c, h4, ?_⟩
    have := hN _ (fst_mem (stp s c) h0)
    omega
  · rintro ⟨h1, c, h2, rfl⟩
    have := hN _ (fst_mem (stp s c) h0)
    exact ⟨(fst L (stp s c)).toNat, by omega, by omega, (onb_iff L s _ 62).2 ⟨c, h2, rfl⟩, h1⟩
/-- The page's best one of the first k; -1. -/
def bsn (f : Int → Int) (L : List Int) : Nat → Int
  | 0 => -1
  | k + 1 => mn f L k
theorem stp_low {s : Int} {b : Nat} (hs : IsN s) (hb : b < 62) (h : nk s < 2 ^ b) : nk s + (4611686018427387904 - 2 ^ b) = stp s b := by
  have h1 := pow_bd b (by omega)
  have h2 := nk_key s hs
  obtain ⟨h3, h4⟩ := h2
  unfold stp
  omega
theorem stp_high {s : Int} {b : Nat} (hs : IsN s) (hb : b < 62) (h : ¬ nk s < 2 ^ b) : nk s - 2 ^ b = stp s b := by
  have h1 := pow_bd b (by omega)
  have h2 := nk_key s hs
  obtain ⟨h3, h4⟩ := h2
  unfold stp
  omega
end Go.Proofs.YtmfgbecdimndcaaDoor
