/- Plain facts on lists of nodes: the best one, the one ahead. -/
import Derived.Test.YtgglnhnokhpnpaaDoorC2
import Derived.Test.YtgglnhnokhpnpaaDoorB3
namespace Go.Proofs.YtgglnhnokhpnpaaDoor
open Go.RowKit

/-- The place i of a list. -/
def zF (L : List Int) (i : Nat) : Int := L.getD i 0
theorem zF_mem {L : List Int} {i : Nat} (h : i < L.length) : zF L i ∈ L := by simp [zF, List.getD, List.getElem?_eq_getElem h]
theorem zF_of_mem {L : List Int} {x : Int} (h : x ∈ L) : ∃ i, i < L.length ∧ zF L i = x := by
  obtain ⟨i, h1, h2⟩ := List.getElem_of_mem h
  exact ⟨i, h1, by simp [zF, List.getD, List.getElem?_eq_getElem h1, h2]⟩
theorem zF_left {L M : List Int} {i : Nat} (h : i < L.length) : zF (L ++ M) i = zF L i := by simp [zF, List.getD, List.getElem?_append_left h]
theorem zF_cons (x : Int) (L : List Int) (i : Nat) : zF (x :: L) (i + 1) = zF L i := by simp [zF, List.getD]
theorem zF_snoc (L : List Int) (x : Int) : zF (L ++ [x]) L.length = x := by simp [zF, List.getD]
theorem zF_drop (L : List Int) (k i : Nat) : zF (L.drop k) i = zF L (k + i) := by simp [zF, List.getD, List.getElem?_drop]
/-- The best one of the first k + 1, by a measure; of equals the first. -/
def mn (f : Int → Int) (L : List Int) : Nat → Int
  | 0 => zF L 0
  | k + 1 => if f (zF L (k + 1)) < f (mn f L k) then zF L (k + 1) else mn f L k
def mnL (f : Int → Int) (L : List Int) : Int := mn f L (L.length - 1)
theorem mn_met (f : Int → Int) (L : List Int) : ∀ k, ∃ i, i ≤ k ∧ mn f L k = zF L i
  | 0 => ⟨0, Nat.le_refl _, rfl⟩
  | k + 1 => by
    obtain ⟨i, hi, h⟩ := mn_met f L k
    unfold mn
    split
    · exact ⟨k + 1, Nat.le_refl _, rfl⟩
    · exact ⟨i, by omega, h⟩
theorem mn_mem {f : Int → Int} {L : List Int} {k : Nat} (h : k < L.length) : mn f L k ∈ L := by
  obtain ⟨i, hi, e⟩ := mn_met f L k
  rw [e]
  exact zF_mem (by omega)
theorem mnL_mem (f : Int → Int) {L : List Int} (h : L ≠ []) : mnL f L ∈ L := by
  have := List.length_pos_iff.2 h
  exact mn_mem (by omega)
theorem mn_least (f : Int → Int) (L : List Int) : ∀ k i, i ≤ k → f (mn f L k) ≤ f (zF L i)
  | 0, i, hi => by obtain rfl : i = 0 := by omega
                   exact Int.le_refl _
  | k + 1, i, hi => by
    have h := mn_least f L k
    unfold mn
    split
    · next hlt =>
      by_cases e : i = k + 1
      · subst e; exact Int.le_refl _
      · have := h i (by omega); omega
    · next hge =>
      by_cases e : i = k + 1
      · subst e; omega
      · exact h i (by omega)
theorem mnL_least (f : Int → Int) {L : List Int} {x : Int} (h : x ∈ L) : f (mnL f L) ≤ f x := by
  obtain ⟨i, h1, rfl⟩ := zF_of_mem h
  exact mn_least f L _ i (by omega)
/-- It is the only one, where the measure tells all apart. -/
theorem mnL_eq {f : Int → Int} {L : List Int} {x : Int} (h : x ∈ L) (hl : ∀ y ∈ L, f x ≤ f y) (hi : ∀ y ∈ L, f y = f x → y = x) : mnL f L = x := by
  have hn : L ≠ [] := fun e => by rw [e] at h; cases h
  have h1 := mnL_mem f hn
  have h2 := mnL_least f h
  have h3 := hl _ h1
  exact hi _ h1 (by omega)
theorem own_mn (t : Int) (L : List Int) : ∀ k, own t (zF L) k = mn (gp t) L k
  | 0 => rfl
  | k + 1 => by unfold own mn; rw [own_mn t L k]

/-- Nodes alone. -/
def Nds (L : List Int) : Prop := ∀ x ∈ L, IsN x
theorem Nds.to {L : List Int} (h : Nds L) {n : Nat} (hn : n ≤ L.length) : NodesTo (zF L) n := fun _ hi => h _ (zF_mem (by omega))
theorem Nds.sub {L M : List Int} (h : Nds L) (hs : ∀ x ∈ M, x ∈ L) : Nds M := fun x hx => h x (hs x hx)
/-- How far one node stands behind another. -/
def bh (a b : Int) : Int := (nk b - nk a) % 4611686018427387904
theorem bh_gp (t a b : Int) : bh a b = (gp t b - gp t a) % 4611686018427387904 := by unfold bh gp; omega
theorem gp_rng (t a : Int) : 0 ≤ gp t a ∧ gp t a < 4611686018427387904 := by unfold gp; omega
theorem bh_rng (a b : Int) : 0 ≤ bh a b ∧ bh a b < 4611686018427387904 := by unfold bh; omega
theorem t0 : IsT 0 := ⟨by omega, by omega⟩
theorem bh_inj {a b s : Int} (ha : IsN a) (hb : IsN b) (h : bh a s = bh b s) : a = b := by
  refine gp_inj t0 ha hb ?_
  rw [bh_gp 0, bh_gp 0] at h
  have h1 := gp_rng 0 a
  have h2 := gp_rng 0 b
  have h3 := gp_rng 0 s
  omega
/-- All but one. -/
def oth (L : List Int) (s : Int) : List Int := L.filter fun n => n != s
theorem oth_mem {L : List Int} {s x : Int} : x ∈ oth L s ↔ x ∈ L ∧ x ≠ s := by simp [oth]
/-- The one ahead. -/
def ahd (L : List Int) (s : Int) : Int := mnL (fun n => bh n s) (oth L s)
theorem ahd_mem {L : List Int} {s : Int} (h : oth L s ≠ []) : ahd L s ∈ L ∧ ahd L s ≠ s := oth_mem.1 (mnL_mem _ h)
theorem ahd_least {L : List Int} {s x : Int} (h : x ∈ L) (hx : x ≠ s) : bh (ahd L s) s ≤ bh x s := mnL_least (fun n => bh n s) (oth_mem.2 ⟨h, hx⟩)
/-- The one ahead is nearer to a topic, unless nobody is. -/
theorem ahd_near {t s o : Int} {L : List Int} (ht : IsT t) (hN : Nds L) (hs : s ∈ L) (ho : o ∈ L) (h : gp t o < gp t s) : oth L s ≠ [] ∧ gp t (ahd L s) < gp t s := by
  have hne : o ≠ s := fun e => by rw [e] at h; omega
  have h0 : oth L s ≠ [] := fun e => by have := oth_mem.2 ⟨ho, hne⟩; rw [e] at this; cases this
  refine ⟨h0, ?_⟩
  obtain ⟨h1, h2⟩ := ahd_mem h0
  have h3 := ahd_least ho hne
  have h4 : gp t (ahd L s) ≠ gp t s := fun e => h2 (gp_inj ht (hN _ h1) (hN _ hs) e)
  rw [bh_gp t, bh_gp t] at h3
  have g0 := gp_rng t (ahd L s)
  generalize gp t (ahd L s) = A at *
  have g1 := gp_rng t s
  have g2 := gp_rng t o
  generalize gp t s = S at *
  generalize gp t o = O at *
  by_cases h5 : A < S
  · exact h5
  · omega
end Go.Proofs.YtgglnhnokhpnpaaDoor
