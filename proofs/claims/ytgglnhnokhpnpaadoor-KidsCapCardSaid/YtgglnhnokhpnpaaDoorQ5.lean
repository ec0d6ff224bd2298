/- A row of eight bools; who asked, and who is there: plain facts for KidsCap. -/
import Derived.Test.YtgglnhnokhpnpaaDoorQ0
import Derived.Laws.MakeOwn
namespace Go.Proofs.YtgglnhnokhpnpaaDoor
open Go.RowKit

/-- The cells of eight bools. -/
def rowB (f : Nat → Bool) : Array Value := ((List.range 8).map fun i => Value.bool (f i)).toArray
theorem rowB_get (f : Nat → Bool) (i : Nat) (h : i < 8) : (rowB f)[i]? = some (.bool (f i)) := by simp [rowB, h]
theorem rowB_size (f : Nat → Bool) : (rowB f).size = 8 := by simp [rowB]
theorem rowB_set (f : Nat → Bool) (j : Nat) : (rowB f).setIfInBounds j (.bool true) = rowB (fun i => (j == i) || f i) := by
  apply Array.ext
  · simp [rowB]
  · intro i h1 h2
    have hi : i < 8 := by simpa [rowB] using h2
    rw [Array.getElem_setIfInBounds (by rw [rowB_size]; exact hi)]
    by_cases e : j = i
    · simp [e, rowB]
    · simp [e, rowB]
/-- A block that is there, and what it holds. -/
def Has (w : World) (g : Nat) (o : Obj) : Prop := g < w.heap.size ∧ w.heap[g]? = some o
theorem Has.below {w w' : World} {g B : Nat} {o : Obj} (h : Has w g o) (b : Below B w w') (hB : w.heap.size ≤ B) : Has w' g o := ⟨Nat.lt_of_lt_of_le h.1 b.size, (b.block g (Nat.lt_of_lt_of_le h.1 hB)).trans h.2⟩
theorem Has.new (w : World) (o : Obj) : Has (w.alloc o) w.heap.size o := ⟨by simp, heap_alloc_new _ _⟩
theorem Has.cell {w : World} {g k : Nat} {f : Nat → Bool} (h : Has w g (.cells (rowB f) 4)) (hk : k < 8) : w.cell? ⟨g, k, none⟩ = some (.bool (f k)) := by simp [World.cell?, h.2, rowB_get f k hk]
theorem Has.frozen {w : World} {g k : Nat} {cs : Array Value} {t : TypeId} (h : Has w g (.cells cs t)) : w.frozen? ⟨g, k, none⟩ = false := by simp [World.frozen?, h.2]
theorem Has.set {w : World} {g : Nat} {f : Nat → Bool} (h : Has w g (.cells (rowB f) 4)) (j : Nat) : Has (w.setCell ⟨g, j, none⟩ (.bool true)) g (.cells (rowB (fun i => (j == i) || f i)) 4) := by
  refine ⟨by simpa [World.setCell] using h.1, ?_⟩
  rw [← rowB_set]
  simp [World.setCell, Array.getElem?_modify, h.2]
theorem info4 : (Tryd.prog.info? 4).map (fun i => (i.zero, i.size, i.bytes)) = some (some (.bool false), 1, 1) := by kernel_rfl
theorem made8 : madeCells (Value.bool false).cells (8 * 1) = rowB (fun _ => false) := by
  apply Array.ext
  · simp [madeCells, rowB]
  · intro i h1 h2
    simp [madeCells, rowB, Value.cells, Nat.mod_one]
theorem mk8 (w : World) : (Instr.makeSlice 42 (.int .i64 8) (.int .i64 8)).run Tryd.prog w = .ok (.slice (some ⟨w.heap.size, 0, none⟩) 8 8) (w.alloc (.cells (rowB (fun _ => false)) 4)) := by
  obtain ⟨i, hi, hz0, hz1, hz2⟩ := info_parts info4
  have h := run_make (P := Tryd.prog) w 42 4 i (.bool false) Tryd.underlying42 hi hz0 .i64 .i64 8 8 (by omega) (Int.le_refl _) (by rw [hz2]; omega) (by omega)
  rw [hz1] at h
  have e : ((8 : Int).toNat) = 8 := rfl
  rw [e, made8] at h
  exact h

/-- One of those that asked. -/
def AB (f : Nat → Bool) (a : Int) : Prop := ∃ j : Nat, j < 8 ∧ a = (j : Int) ∧ f j = true
theorem AB.set {f : Nat → Bool} {j : Nat} (hj : j < 8) (a : Int) : AB (fun i => (j == i) || f i) a ↔ AB f a ∨ a = (j : Int) := by
  constructor
  · rintro ⟨i, h1, h2, h3⟩
    simp only [Bool.or_eq_true, beq_iff_eq] at h3
    rcases h3 with h3 | h3
    · exact .inr (by rw [h2, h3])
    · exact .inl ⟨i, h1, h2, h3⟩
  · rintro (⟨i, h1, h2, h3⟩ | h)
    · exact ⟨i, h1, h2, by simp [h3]⟩
    · exact ⟨j, hj, h, by simp⟩
/-- What holds behind each that asked. -/
structure CapI (t s lim : Int) (F : List Int) (f : Nat → Bool) (L : List Kd) : Prop where
  gd : Gd t s L
  len : (L.length : Int) ≤ lim
  near : Near t (AB f) L
  far : ∀ a, AB f a → ∃ k, k < F.length ∧ zF F k = a
theorem CapI.start {t s lim : Int} {F : List Int} (h : 1 ≤ lim) : CapI t s lim F (fun _ => false) [] :=
  ⟨Gd.nil t s, by simp; omega, Near.nil t (fun a ⟨_, _, _, q⟩ => by cases q), fun a ⟨_, _, _, q⟩ => by cases q⟩
theorem CapI.step {t s lim inc : Int} {F : List Int} {f : Nat → Bool} {L : List Kd} (h : CapI t s lim F f L) (hF : FarOf t s F) (h1 : 1 ≤ lim) {N : Nat} (hN : N < F.length) {j : Nat} (hj : j < 8) (he : zF F N = (j : Int)) (hi : 1 ≤ inc ∧ inc ≤ 1073741824) :
    CapI t s lim F (fun i => (j == i) || f i) (askL t lim L (j : Int) inc) := by
  have hx := hF.one N hN
  rw [he] at hx
  have hn := ask_near (inc := inc) h.gd hF.topic hx.1 h1 h.near
  refine ⟨ask_gd h.gd hF.topic hx.1 hi hx.2.1, ask_len h.gd.apart h.len h1, ⟨fun x hx => (AB.set hj _).2 (hn.1 x hx), fun a ha => hn.2 a ((AB.set hj a).1 ha)⟩, fun a ha => ?_⟩
  rcases (AB.set hj a).1 ha with q | q
  · exact h.far a q
  · exact ⟨N, hN, by rw [he, q]⟩
theorem CapI.rk {t s lim : Int} {F : List Int} {f : Nat → Bool} {L : List Kd} (h : CapI t s lim F f L) (hF : FarOf t s F) (h1 : 1 ≤ lim) (h4 : lim ≤ 4) : rk t s lim L = true :=
  rk_gd.2 ⟨hF.topic, hF.node, h1, h4, h.len, h.gd⟩
/-- The first of Far that asked heads the list. -/
theorem CapI.head {t s lim : Int} {F : List Int} {f : Nat → Bool} {L : List Kd} (h : CapI t s lim F f L) (hF : FarOf t s F) {i : Nat} (_ : i < F.length) {j : Nat} (hj : j < 8) (he : zF F i = (j : Int)) (hf : f j = true) (hno : ∀ k, k < i → ∀ m : Nat, m < 8 → zF F k = (m : Int) → f m = false) :
    0 < L.length ∧ (kz L 0).1 = zF F i := by
  obtain ⟨y, hy, hg⟩ := h.near.2 (zF F i) ⟨j, hj, he, hf⟩
  have h0 : 0 < L.length := List.length_pos_of_mem hy
  have hm := kz_mem h0
  obtain ⟨k, hk, e⟩ := h.far _ (h.near.1 _ hm)
  obtain ⟨m, m1, m2, m3⟩ := h.near.1 _ hm
  refine ⟨h0, ?_⟩
  have hki : ¬ k < i := fun q => by
    have := hno k q m m1 (e.trans m2)
    rw [m3] at this
    cases this
  have hle := first_least h.gd hy
  rw [← e] at hle ⊢
  by_cases hik : i < k
  · have := hF.up i k hik hk
    omega
  · rw [show k = i by omega]
theorem CapI.none {t s lim : Int} {F : List Int} {f : Nat → Bool} {L : List Kd} (h : CapI t s lim F f L) (hno : ∀ k, k < F.length → ∀ m : Nat, m < 8 → zF F k = (m : Int) → f m = false) : L.length = 0 := by
  by_cases h0 : L.length = 0
  · exact h0
  · have hm := kz_mem (L := L) (i := 0) (by omega)
    obtain ⟨k, hk, e⟩ := h.far _ (h.near.1 _ hm)
    obtain ⟨m, m1, m2, m3⟩ := h.near.1 _ hm
    have := hno k hk m m1 (e.trans m2)
    rw [m3] at this
    cases this
end Go.Proofs.YtgglnhnokhpnpaaDoor
