/- Plain facts on fingers, next hops and ways. -/
import Derived.Test.YtmdkaomjjglfjaaDoorP1
namespace Go.Proofs.YtmdkaomjjglfjaaDoor
open Go.RowKit

/-- The first node at a key, or behind it. -/
def fst (L : List Int) (k : Int) : Int := mnL (fun n => (nk n - k) % 4611686018427387904) L
/-- The key that stands so many bits ahead. -/
def stp (s : Int) (b : Nat) : Int := (nk s - 2 ^ b) % 4611686018427387904
/-- The fingers of the first b bits, as they are found. -/
def fgU (L : List Int) (s : Int) : Nat → List Int
  | 0 => []
  | b + 1 => if fst L (stp s b) ≠ s ∧ fst L (stp s b) ∉ fgU L s b then fgU L s b ++ [fst L (stp s b)] else fgU L s b
theorem fgU_yes {L : List Int} {s : Int} {b : Nat} (h1 : fst L (stp s b) ≠ s) (h2 : fst L (stp s b) ∉ fgU L s b) : fgU L s (b + 1) = fgU L s b ++ [fst L (stp s b)] := by rw [fgU, if_pos ⟨h1, h2⟩]
theorem fgU_no {L : List Int} {s : Int} {b : Nat} (h : fst L (stp s b) = s ∨ fst L (stp s b) ∈ fgU L s b) : fgU L s (b + 1) = fgU L s b := by
  rw [fgU, if_neg]
  rintro ⟨h1, h2⟩
  rcases h with h | h
  · exact h1 h
  · exact h2 h
theorem fgU_mem (L : List Int) (s x : Int) : ∀ b, x ∈ fgU L s b ↔ x ≠ s ∧ ∃ c, c < b ∧ fst L (stp s c) = x
  | 0 => by simp [fgU]
  | b + 1 => by
    have ih := fgU_mem L s x b
    by_cases h : fst L (stp s b) ≠ s ∧ fst L (stp s b) ∉ fgU L s b
    · rw [fgU_yes h.1 h.2, List.mem_append, List.mem_singleton, ih]
      constructor
      · rintro (⟨h1, c, h2, h3⟩ | rfl)
        · exact ⟨h1, c, by omega, h3⟩
        · exact ⟨h.1, b, by omega, rfl⟩
      · rintro ⟨h1, c, h2, h3⟩
        by_cases e : c = b
        · subst e; exact .inr h3.symm
        · exact .inl ⟨h1, c, by omega, h3⟩
    · have h' : fst L (stp s b) = s ∨ fst L (stp s b) ∈ fgU L s b := by
        by_cases e : fst L (stp s b) = s
        · exact .inl e
        · exact .inr (Decidable.not_not.1 fun q => h ⟨e, q⟩)
      rw [fgU_no h', ih]
      constructor
      · rintro ⟨h1, c, h2, h3⟩
        exact ⟨h1, c, by omega, h3⟩
      · rintro ⟨h1, c, h2, h3⟩
        by_cases e : c = b
        · subst e
          subst h3
          rcases h' with h' | h'
          · exact absurd h' h1
          · exact ⟨h1, (ih.1 h').2⟩
        · exact ⟨h1, c, by omega, h3⟩
theorem fgU_nodup (L : List Int) (s : Int) : ∀ b, (fgU L s b).Nodup
  | 0 => by simp [fgU]
  | b + 1 => by
    have ih := fgU_nodup L s b
    rw [fgU]
    split
    · next h =>
      rw [List.nodup_append]
      refine ⟨ih, by simp, ?_⟩
      intro x hx y hy e
      rw [List.mem_singleton] at hy
      subst hy
      subst e
      exact h.2 hx
    · exact ih
theorem fgU_len (L : List Int) (s : Int) : ∀ b, (fgU L s b).length ≤ b
  | 0 => by simp [fgU]
  | b + 1 => by
    have ih := fgU_len L s b
    rw [fgU]
    split
    · rw [List.length_append, List.length_singleton]; omega
    · omega
/-- Sorted. -/
def srtL (M : List Int) : List Int := M.mergeSort fun x y => decide (x ≤ y)
theorem srtL_perm (M : List Int) : (srtL M).Perm M := List.mergeSort_perm _ _
theorem srtL_pair (M : List Int) : (srtL M).Pairwise (fun x y => x ≤ y) := by
  have := List.pairwise_mergeSort (le := fun (x y : Int) => decide (x ≤ y)) (by intro a b c h1 h2; simp at *; omega) (by intro a b; simp; omega) M
  exact this.imp (by intro a b h; simpa using h)
theorem srtL_len (M : List Int) : (srtL M).length = M.length := List.length_mergeSort M
theorem srtL_mem {M : List Int} {x : Int} : x ∈ srtL M ↔ x ∈ M := (srtL_perm M).mem_iff
theorem srtL_rise {M : List Int} (h : M.Nodup) : (srtL M).Pairwise (fun x y => x < y) := by
  have h1 := srtL_pair M
  have h2 : (srtL M).Nodup := (srtL_perm M).nodup_iff.2 h
  exact (h1.and h2).imp fun ⟨a, b⟩ => by omega
/-- Two rising lists of the same members are one. -/
theorem rise_eq : ∀ {L M : List Int}, L.Pairwise (fun x y => x < y) → M.Pairwise (fun x y => x < y) → (∀ x, x ∈ L ↔ x ∈ M) → L = M
  | [], [], _, _, _ => rfl
  | [], y :: M, _, _, h => by have := (h y).2 (by simp); cases this
  | x :: L, [], _, _, h => by have := (h x).1 (by simp); cases this
  | x :: L, y :: M, hL, hM, h => by
    rw [List.pairwise_cons] at hL hM
    have e : x = y := by
      have h1 := (h x).1 (by simp)
      have h2 := (h y).2 (by simp)
      rw [List.mem_cons] at h1 h2
      rcases h1 with h1 | h1
      · exact h1
      · rcases h2 with h2 | h2
        · exact h2.symm
        · have a := hL.1 _ h2
          have b := hM.1 _ h1
          omega
    subst e
    rw [rise_eq hL.2 hM.2 fun z => ?_]
    have hz := h z
    rw [List.mem_cons, List.mem_cons] at hz
    constructor
    · intro q
      rcases hz.1 (.inr q) with e | e
      · have := hL.1 _ q; omega
      · exact e
    · intro q
      rcases hz.2 (.inr q) with e | e
      · have := hM.1 _ q; omega
      · exact e
/-- The fingers. -/
def fng (L : List Int) (s : Int) : List Int := srtL (fgU L s 62)
theorem fng_mem {L : List Int} {s x : Int} : x ∈ fng L s ↔ x ≠ s ∧ ∃ c, c < 62 ∧ fst L (stp s c) = x := srtL_mem.trans (fgU_mem L s x 62)
theorem fng_rise (L : List Int) (s : Int) : (fng L s).Pairwise (fun x y => x < y) := srtL_rise (fgU_nodup L s 62)
theorem fst_mem {L : List Int} (k : Int) (h : L ≠ []) : fst L k ∈ L := mnL_mem _ h
theorem fng_len (L : List Int) (s : Int) : (fng L s).length ≤ 62 := by unfold fng; rw [srtL_len]; exact fgU_len L s 62
theorem fng_sub {L : List Int} {s x : Int} (h : L ≠ []) (hx : x ∈ fng L s) : x ∈ L := by
  obtain ⟨_, c, _, rfl⟩ := fng_mem.1 hx
  exact fst_mem _ h
/-- Self and all whom it knows. -/
def rch (L : List Int) (s : Int) : List Int := fng L s ++ [s] ++ (if oth L s = [] then [] else [ahd L s])
theorem rch_mem {L : List Int} {s x : Int} : x ∈ rch L s ↔ x ∈ fng L s ∨ x = s ∨ oth L s ≠ [] ∧ x = ahd L s := by
  unfold rch
  by_cases h : oth L s = []
  · simp [h]
  · simp [h]
theorem rch_self (L : List Int) (s : Int) : s ∈ rch L s := rch_mem.2 (.inr (.inl rfl))
theorem rch_ne (L : List Int) (s : Int) : rch L s ≠ [] := fun e => by have := rch_self L s; rw [e] at this; cases this
theorem mem_ne {L : List Int} {s : Int} (h : s ∈ L) : L ≠ [] := fun e => by rw [e] at h; cases h
theorem rch_sub {L : List Int} {s x : Int} (hs : s ∈ L) (hx : x ∈ rch L s) : x ∈ L := by
  rcases rch_mem.1 hx with h | rfl | ⟨h, rfl⟩
  · exact fng_sub (mem_ne hs) h
  · exact hs
  · exact (ahd_mem h).1
/-- The next hop; self, if there is none. -/
def nxt (t : Int) (L : List Int) (s : Int) : Int := mnL (gp t) (rch L s)
/-- The owner. -/
def ow (t : Int) (L : List Int) : Int := mnL (gp t) L
theorem ow_mem {L : List Int} {s : Int} (t : Int) (hs : s ∈ L) : ow t L ∈ L := mnL_mem _ (mem_ne hs)
theorem ow_least {L : List Int} {x : Int} (t : Int) (hx : x ∈ L) : gp t (ow t L) ≤ gp t x := mnL_least _ hx
theorem nxt_mem {L : List Int} {s : Int} (t : Int) (hs : s ∈ L) : nxt t L s ∈ L := rch_sub hs (mnL_mem _ (rch_ne L s))
theorem nxt_least {L : List Int} {s x : Int} (t : Int) (hx : x ∈ rch L s) : gp t (nxt t L s) ≤ gp t x := mnL_least _ hx
theorem nxt_own {t s : Int} {L : List Int} (ht : IsT t) (hN : Nds L) (hs : s ∈ L) : nxt t L s = s ↔ ow t L = s := by
  constructor
  · intro h
    have h1 := ow_least t hs
    by_cases e : gp t (ow t L) < gp t s
    · obtain ⟨h2, h3⟩ := ahd_near ht hN hs (ow_mem t hs) e
      have h4 := nxt_least t (rch_mem.2 (.inr (.inr ⟨h2, rfl⟩)))
      rw [h] at h4
      omega
    · exact gp_inj ht (hN _ (ow_mem t hs)) (hN _ hs) (by omega)
  · intro h
    have h1 := nxt_least t (rch_self L s)
    have h2 := ow_least t (nxt_mem t hs)
    rw [h] at h2
    exact gp_inj ht (hN _ (nxt_mem t hs)) (hN _ hs) (by omega)
theorem nxt_near {t s : Int} {L : List Int} (ht : IsT t) (hN : Nds L) (hs : s ∈ L) (h : nxt t L s ≠ s) : gp t (nxt t L s) < gp t s := by
  have h1 := nxt_least t (rch_self L s)
  by_cases e : gp t (nxt t L s) = gp t s
  · exact absurd (gp_inj ht (hN _ (nxt_mem t hs)) (hN _ hs) e) h
  · omega
/-- All hops up to the owner. -/
def IsWay (t : Int) (L : List Int) : Int → List Int → Prop
  | s, [] => nxt t L s = s
  | s, h :: W => nxt t L s = h ∧ h ≠ s ∧ IsWay t L h W
theorem isway_step {t : Int} {L : List Int} : ∀ {W : List Int} {s : Int}, IsWay t L s W → ∀ i, i < W.length → nxt t L (zF (s :: W) i) = zF W i ∧ zF W i ≠ zF (s :: W) i
  | [], _, _, i, hi => by simp at hi
  | h :: W, s, hW, 0, _ => ⟨hW.1, hW.2.1⟩
  | h :: W, s, hW, i + 1, hi => by
    rw [zF_cons, zF_cons]
    exact isway_step hW.2.2 i (by simpa using hi)
theorem isway_end {t : Int} {L : List Int} : ∀ {W : List Int} {s : Int}, IsWay t L s W → nxt t L (zF (s :: W) W.length) = zF (s :: W) W.length
  | [], _, hW => hW
  | h :: W, s, hW => by
    rw [List.length_cons, zF_cons]
    exact isway_end hW.2.2
theorem isway_mem {t : Int} {L : List Int} : ∀ {W : List Int} {s : Int}, s ∈ L → IsWay t L s W → ∀ i, i ≤ W.length → zF (s :: W) i ∈ L
  | _, _, hs, _, 0, _ => hs
  | [], _, _, _, i + 1, hi => by simp at hi
  | h :: W, s, hs, hW, i + 1, hi => by
    rw [zF_cons]
    exact isway_mem (hW.1 ▸ nxt_mem t hs) hW.2.2 i (by simpa using hi)
theorem isway_drop {t : Int} {L : List Int} : ∀ {W : List Int} {s : Int}, IsWay t L s W → ∀ i, i ≤ W.length → IsWay t L (zF (s :: W) i) (W.drop i)
  | _, _, hW, 0, _ => hW
  | [], _, _, i + 1, hi => by simp at hi
  | h :: W, s, hW, i + 1, hi => by
    rw [zF_cons, List.drop_succ_cons]
    exact isway_drop hW.2.2 i (by simpa using hi)
/-- There is a way, of fewer hops than nodes that are nearer. -/
theorem way_len {t : Int} {L : List Int} (ht : IsT t) (hN : Nds L) : ∀ (n : Nat) (s : Int), s ∈ L → (L.filter fun x => decide (gp t x < gp t s)).length ≤ n → ∃ W, IsWay t L s W ∧ W.length ≤ n
  | 0, s, hs, hn => by
    refine ⟨[], ?_, Nat.le_refl _⟩
    show nxt t L s = s
    by_cases h : nxt t L s = s
    · exact h
    · have h1 := nxt_near ht hN hs h
      have h2 : nxt t L s ∈ L.filter fun x => decide (gp t x < gp t s) := by simp [nxt_mem t hs, h1]
      rw [List.length_eq_zero_iff.1 (Nat.le_zero.1 hn)] at h2
      cases h2
  | n + 1, s, hs, hn => by
    by_cases h : nxt t L s = s
    · exact ⟨[], h, Nat.zero_le _⟩
    · have h1 := nxt_near ht hN hs h
      have hm := nxt_mem t hs
      have h2 : (L.filter fun x => decide (gp t x < gp t (nxt t L s))).length < (L.filter fun x => decide (gp t x < gp t s)).length := by
        have e : (L.filter fun x => decide (gp t x < gp t (nxt t L s))) = (L.filter fun x => decide (gp t x < gp t s)).filter fun x => decide (gp t x < gp t (nxt t L s)) := by
          rw [List.filter_filter]
          refine List.filter_congr fun x _ => ?_
          by_cases q : gp t x < gp t (nxt t L s)
          · have : gp t x < gp t s := by omega
            simp [q, this]
          · simp [q]
        rw [e]
        refine Nat.lt_of_le_of_ne (List.length_filter_le _ _) fun q => ?_
        have h3 := List.length_filter_eq_length_iff.1 q (nxt t L s) (by simp [hm, h1])
        simp at h3
      obtain ⟨W, hW, hl⟩ := way_len ht hN n (nxt t L s) hm (by omega)
      exact ⟨nxt t L s :: W, ⟨rfl, h, hW⟩, by rw [List.length_cons]; omega⟩
theorem way_ex {t s : Int} {L : List Int} (ht : IsT t) (hN : Nds L) (hs : s ∈ L) : ∃ W, IsWay t L s W ∧ W.length < L.length := by
  have h : (L.filter fun x => decide (gp t x < gp t s)).length < L.length := by
    refine Nat.lt_of_le_of_ne (List.length_filter_le _ _) fun q => ?_
    have h3 := List.length_filter_eq_length_iff.1 q s hs
    simp at h3
  obtain ⟨W, hW, hl⟩ := way_len ht hN _ s hs (Nat.le_refl _)
  exact ⟨W, hW, by omega⟩
end Go.Proofs.YtmdkaomjjglfjaaDoor
