/- Right paths are whole; one that closes a ring. Rows of rows, read and stored into. -/
import Derived.Test.YtmdkaomjjglfjaaDoorK3
import Derived.Test.YtmdkaomjjglfjaaDoorK7
namespace Go.Proofs.YtmdkaomjjglfjaaDoor
open Go.RowKit

/-- Each path is right for its own node. -/
def Rt (T : Int) (P : List (List Int)) : Prop := ∀ j, j < P.length → chk T j (zL P j) 8 = 0
theorem nb_true {t a b : Int} (h : nb t a b = true) : IsT t ∧ IsN a ∧ IsN b ∧ gp t a < gp t b := of_decide_eq_true h
theorem nd_of_ne {t s : Int} {L : List Int} (h : ne t s L = true) : nd L = true := by
  unfold ne at h
  unfold nd
  rw [ndK_iff]
  intro i hi
  exact (nb_true ((neK_iff t s L _).1 h i hi)).2.1
theorem Rt.all {T : Int} {P : List (List Int)} (h : Rt T P) : AllN P := fun i hi => (nd_iff _).1 (chk_zero.1 (h i hi)).2.2.1
/-- The parent is nearer. -/
theorem Rt.near {T : Int} {P : List (List Int)} (h : Rt T P) {n : Nat} (hl : lv P n = true) : gp T (hd P n : Nat) < gp T n := by
  obtain ⟨h1, h2⟩ := lv_lt hl
  have h3 := (chk_zero.1 (h n h1)).2.2.2.2
  have h4 := (nb_true ((neK_iff T n (zL P n) _).1 h3 0 h2)).2.2.2
  rwa [(hd_lt h.all hl).2] at h4
theorem Rt.fall {T : Int} {P : List (List Int)} (h : Rt T P) {n : Nat} (hl : ∀ k, lv P (it P n k) = true) : ∀ i k, gp T (it P n (i + k + 1) : Nat) < gp T (it P n i : Nat) := by
  intro i k
  induction k with
  | zero => exact h.near (hl i)
  | succ k ih =>
    have := h.near (hl (i + k + 1))
    rw [show i + (k + 1) + 1 = (i + k + 1) + 1 by omega]
    exact Int.lt_trans this ih
theorem wh_right {T : Int} {P : List (List Int)} (h : Rt T P) (h8 : P.length ≤ 8) : wh P = true := by
  refine wh_iff.2 ⟨h8, h.all, fun n _ => ?_⟩
  cases hx : alK P n 8 with
  | false => rfl
  | true =>
    have he := al_eight h.all h8 hx
    have hl : ∀ k, lv P (it P n k) = true := fun k => (alK_iff P n (k + 1)).1 (he (k + 1)) k (by omega)
    obtain ⟨i, j, h1, h2, h3⟩ := pig P.length (it P n) (fun k _ => (lv_lt (hl k)).1)
    have := h.fall hl i (j - i - 1)
    rw [show i + (j - i - 1) + 1 = j by omega, ← h3] at this
    exact absurd this (Int.lt_irrefl _)
theorem zL_set_same {P : List (List Int)} {y : Nat} (h : y < P.length) (x : List Int) : zL (P.set y x) y = x := by simp [zL, List.getD, h]
theorem zL_set_other {P : List (List Int)} {y i : Nat} (h : y ≠ i) (x : List Int) : zL (P.set y x) i = zL P i := by simp [zL, List.getD, h]
theorem lv_same {P Q : List (List Int)} {i : Nat} (q3 : Q.length = P.length) (q2 : zL Q i = zL P i) (h1 : i < P.length) (h2 : 0 < (zL P i).length) : lv Q i = true := by
  unfold lv
  rw [q2, q3, decide_eq_true h1, decide_eq_true h2]
  rfl
/-- With one path bent back there is a ring. -/
theorem wh_bent {T : Int} {P : List (List Int)} (h : Rt T P) {i : Nat} (hl : lv P i = true) (hy : hd P i < P.length) : wh (P.set (hd P i) [(i : Int)]) = false := by
  cases hx : wh (P.set (hd P i) [(i : Int)]) with
  | false => rfl
  | true =>
    obtain ⟨_, _, h3⟩ := wh_iff.1 hx
    obtain ⟨h1, h2⟩ := lv_lt hl
    have hn := h.near hl
    have hne : hd P i ≠ i := fun e => by rw [e] at hn; exact absurd hn (Int.lt_irrefl _)
    rw [List.length_set] at h3
    have h4 := h3 i h1
    obtain ⟨Q, hQ⟩ : ∃ Q, P.set (hd P i) [(i : Int)] = Q := ⟨_, rfl⟩
    have q1 : zL Q (hd P i) = [(i : Int)] := by rw [← hQ]; exact zL_set_same hy _
    have q2 : zL Q i = zL P i := by rw [← hQ]; exact zL_set_other hne _
    have q3 : Q.length = P.length := by rw [← hQ, List.length_set]
    rw [hQ] at h4
    have l1 : lv Q i = true := lv_same q3 q2 h1 h2
    have l2 : lv Q (hd P i) = true := by unfold lv; rw [q1, decide_eq_true (by omega)]; rfl
    have d1 : hd Q i = hd P i := by unfold hd; rw [q2]
    have d2 : hd Q (hd P i) = i := by show (zF (zL Q (hd P i)) 0).toNat = i; rw [q1]; rfl
    have all : ∀ k, it Q i k = i ∨ it Q i k = hd P i := by
      intro k
      induction k with
      | zero => exact .inl rfl
      | succ k ih =>
        show hd Q (it Q i k) = i ∨ hd Q (it Q i k) = hd P i
        rcases ih with e | e
        · rw [e]; exact .inr d1
        · rw [e]; exact .inl d2
    have : alK Q i 8 = true := (alK_iff Q i 8).2 fun k _ => by
      rcases all k with e | e
      · rw [e]; exact l1
      · rw [e]; exact l2
    rw [this] at h4
    cases h4
/-- A path, and one node more. -/
theorem lst_snoc (s : Int) (L : List Int) (x : Int) : lst s (L ++ [x]) (L.length + 1) = x := zF_snoc L x
theorem neK_left (t s : Int) (L K : List Int) : ∀ k, k ≤ L.length → neK t s (L ++ K) k = neK t s L k
  | 0, _ => rfl
  | k + 1, h => by
    rw [neK_succ, neK_succ, neK_left t s L K k (by omega), zF_left (by omega)]
    congr 2
    cases k with
    | zero => rfl
    | succ k => exact zF_left (by omega)
theorem ne_snoc {t s : Int} {L : List Int} {x : Int} (h : ne t s L = true) (hx : nb t x (lst s L L.length) = true) : ne t s (L ++ [x]) = true := by
  unfold ne at h ⊢
  rw [List.length_append, List.length_singleton, neK_succ, neK_left t s L [x] _ (Nat.le_refl _), h, zF_snoc]
  have : lst s (L ++ [x]) L.length = lst s L L.length := by
    generalize hn : L.length = n at *
    cases n with
    | zero => rfl
    | succ n => exact zF_left (by omega)
  rw [this, hx]
  rfl
theorem Rt.snoc {T : Int} {P : List (List Int)} {L : List Int} (h : Rt T P) (hL : chk T P.length L 8 = 0) : Rt T (P ++ [L]) := by
  intro j hj
  by_cases e : j < P.length
  · rw [zL_left e]; exact h j e
  · obtain rfl : j = P.length := by simp at hj; omega
    rw [zL_snoc]; exact hL
/-- One cell of a row of rows. -/
theorem LO.cell {w : World} {B : Nat} {v : Value} {P : List (List Int)} (h : LO w B v P) {k : Nat} (hk : k < P.length) :
    ∃ g cap q c, v = .slice (some ⟨g, 0, none⟩) P.length cap ∧ P.length ≤ cap ∧ cap ≤ 9223372036854775807 ∧ g < w.heap.size ∧ w.cell? ⟨g, k, none⟩ = some (.slice q (zL P k).length c) ∧ OL w 0 (.slice q (zL P k).length c) (zL P k) := by
  obtain ⟨V, h1, h2, h3⟩ := h
  rcases id h2.2 with ⟨rfl, h0⟩ | ⟨g, cap, cur, rfl, hB, hg, hc, hm, _, _⟩
  · omega
  · unfold maxLen at hm
    have h4 := h3 k hk
    obtain ⟨q, c, e⟩ := owns_shape h4
    refine ⟨g, cap, q, c, rfl, hc, by omega, (Array.getElem?_eq_some_iff.1 hg).1, ?_, e ▸ h4⟩
    rw [h2.cellAt k (by omega), ← e]
    simp [List.getD, List.getElem?_eq_getElem (show k < V.length by omega)]
/-- A row of rows, one of which is laid anew. -/
theorem LO.set {w : World} {B g cap n : Nat} {P : List (List Int)} (h : LO w B (.slice (some ⟨g, 0, none⟩) n cap) P) {y : Nat} {u : Value} {L : List Int} (hu : OL w 0 u L) (hy : y < P.length) (hB : B ≤ g) :
    w.frozen? ⟨g, y, none⟩ = false ∧ LO (w.setCell ⟨g, y, none⟩ u) B (.slice (some ⟨g, 0, none⟩) n cap) (P.set y L) ∧ Below B w (w.setCell ⟨g, y, none⟩ u) := by
  obtain ⟨V, h1, h2, h3⟩ := h
  have hn : n = P.length := by
    rcases h2.2 with ⟨e, _⟩ | ⟨_, _, _, e, _⟩
    · cases e
    · cases e; rfl
  subst hn
  obtain ⟨r1, r2⟩ := h2.stored y u
  have keep : ∀ {z : Value} {K : List Int}, OL w 0 z K → OL (w.setCell ⟨g, y, none⟩ u) 0 z K := fun ho => World.ownsRow.kept ho r2 (ownsx_apart h2 ho (by decide))
  have hlt := (h2.lt g rfl).2
  refine ⟨h2.frozenAt y, ⟨V.set y u, by simp [h1], by simpa using r1, fun i hi => ?_⟩, (Below.refl _ _).grown r2 (by omega) (fun k hk => by cases hk; exact hB)⟩
  · rw [List.length_set] at hi
    by_cases e : y = i
    · subst e
      rw [zL_set_same hy]
      have : (V.set y u).getD y (.slice none 0 0) = u := by simp [List.getD, show y < V.length by omega]
      rw [this]
      exact keep hu
    · rw [zL_set_other e]
      have : (V.set y u).getD i (.slice none 0 0) = V.getD i (.slice none 0 0) := by simp [List.getD, e]
      rw [this]
      exact keep (h3 i hi)
end Go.Proofs.YtmdkaomjjglfjaaDoor
