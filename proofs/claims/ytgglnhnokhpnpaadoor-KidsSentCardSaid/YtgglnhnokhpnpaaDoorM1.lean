/- Where a child is put, what asking answers: as plain functions of lists. -/
import Derived.Test.YtgglnhnokhpnpaaDoorJ1
import Derived.Test.YtgglnhnokhpnpaaDoorP1
namespace Go.Proofs.YtgglnhnokhpnpaaDoor
open Go.RowKit

/-- How many of them are nearer than a node. -/
def pl (t n : Int) : List Kd → Nat
  | [] => 0
  | y :: M => if nb t y.1 n = true then pl t n M + 1 else 0
theorem pl_le (t n : Int) : ∀ M, pl t n M ≤ M.length
  | [] => Nat.le_refl _
  | y :: M => by
    have := pl_le t n M
    unfold pl
    split
    · simp; omega
    · exact Nat.zero_le _
theorem pl_at {t n : Int} : ∀ {M : List Kd} {k : Nat}, k ≤ M.length → (∀ i, i < k → nb t (kz M i).1 n = true) → (k < M.length → nb t (kz M k).1 n = false) → pl t n M = k
  | [], k, hk, _, _ => by simp at hk; subst hk; rfl
  | y :: M, 0, _, _, h => by
    have h0 := h (by simp)
    have e : (kz (y :: M) 0).1 = y.1 := rfl
    rw [e] at h0
    unfold pl
    rw [if_neg (by rw [h0]; decide)]
  | y :: M, k + 1, hk, h1, h2 => by
    have h0 := h1 0 (by omega)
    have e : (kz (y :: M) 0).1 = y.1 := rfl
    rw [e] at h0
    unfold pl
    rw [if_pos h0]
    have := pl_at (M := M) (k := k) (t := t) (n := n) (by simpa using hk) (fun i hi => h1 (i + 1) (by omega)) (fun hh => h2 (by simp; omega))
    omega
/-- A child put at its place. -/
def ins (t : Int) (x : Kd) : List Kd → List Kd
  | [] => [x]
  | y :: M => if nb t y.1 x.1 = true then y :: ins t x M else x :: y :: M
theorem ins_pl (t : Int) (x : Kd) : ∀ M, ins t x M = M.take (pl t x.1 M) ++ [x] ++ M.drop (pl t x.1 M)
  | [] => rfl
  | y :: M => by
    have := ins_pl t x M
    unfold ins pl
    by_cases h : nb t y.1 x.1 = true
    · rw [if_pos h, if_pos h, this]; simp
    · rw [if_neg h, if_neg h]; simp
theorem ins_len (t : Int) (x : Kd) : ∀ M, (ins t x M).length = M.length + 1
  | [] => rfl
  | y :: M => by
    have := ins_len t x M
    unfold ins
    split
    · simp [this]
    · simp
theorem ins_mem (t : Int) (x z : Kd) : ∀ M, z ∈ ins t x M ↔ z = x ∨ z ∈ M
  | [] => by simp [ins]
  | y :: M => by
    have ih := ins_mem t x z M
    unfold ins
    split
    · rw [List.mem_cons, ih, List.mem_cons]
      constructor
      · rintro (h | h | h)
        · exact .inr (.inl h)
        · exact .inl h
        · exact .inr (.inr h)
      · rintro (h | h | h)
        · exact .inr (.inl h)
        · exact .inl h
        · exact .inr (.inr h)
    · simp
theorem nb_iff {t a b : Int} (ht : IsT t) (ha : IsN a) (hb : IsN b) : nb t a b = true ↔ gp t a < gp t b := by
  unfold nb
  rw [decide_eq_true_iff]
  exact ⟨fun h => h.2.2.2, fun h => ⟨ht, ha, hb, h⟩⟩
theorem ins_pair {t : Int} {x : Kd} (ht : IsT t) (hx : IsN x.1) : ∀ {M : List Kd}, (∀ y ∈ M, IsN y.1 ∧ y.1 ≠ x.1) → M.Pairwise (fun y z => gp t y.1 < gp t z.1) → (ins t x M).Pairwise fun y z => gp t y.1 < gp t z.1
  | [], _, _ => by simp [ins]
  | y :: M, h1, h2 => by
    obtain ⟨h3, h4⟩ := List.pairwise_cons.1 h2
    have hy := h1 y (List.mem_cons_self ..)
    have ih := ins_pair ht hx (M := M) (fun z hz => h1 z (List.mem_cons_of_mem _ hz)) h4
    unfold ins
    by_cases h : nb t y.1 x.1 = true
    · rw [if_pos h]
      refine List.pairwise_cons.2 ⟨fun z hz => ?_, ih⟩
      rcases (ins_mem t x z M).1 hz with rfl | hz
      · exact (nb_iff ht hy.1 hx).1 h
      · exact h3 z hz
    · rw [if_neg h]
      have h5 : gp t x.1 < gp t y.1 := by
        have h6 : ¬ gp t y.1 < gp t x.1 := fun q => h ((nb_iff ht hy.1 hx).2 q)
        have h7 : gp t y.1 ≠ gp t x.1 := fun q => hy.2 (gp_inj ht hy.1 hx q)
        omega
      refine List.pairwise_cons.2 ⟨fun z hz => ?_, h2⟩
      rcases List.mem_cons.1 hz with rfl | hz
      · exact h5
      · exact Int.lt_trans h5 (h3 z hz)
/-- The page's way to put a child at its place. -/
def amg (t : Int) (x : Kd) : List Kd → List Kd
  | [] => [x]
  | y :: M => if nb t x.1 y.1 = true then x :: y :: M else y :: amg t x M
theorem amg_ins {t : Int} {x : Kd} (ht : IsT t) (hx : IsN x.1) : ∀ {M : List Kd}, (∀ y ∈ M, IsN y.1 ∧ y.1 ≠ x.1) → amg t x M = ins t x M
  | [], _ => rfl
  | y :: M, h1 => by
    have hy := h1 y (List.mem_cons_self ..)
    have ih := amg_ins ht hx (M := M) (fun z hz => h1 z (List.mem_cons_of_mem _ hz))
    have h7 : gp t y.1 ≠ gp t x.1 := fun q => hy.2 (gp_inj ht hy.1 hx q)
    unfold amg ins
    by_cases h : nb t y.1 x.1 = true
    · have h2 := (nb_iff ht hy.1 hx).1 h
      rw [if_pos h, if_neg (fun q => by have := (nb_iff ht hx hy.1).1 q; omega), ih]
    · have h2 : ¬ gp t y.1 < gp t x.1 := fun q => h ((nb_iff ht hy.1 hx).2 q)
      rw [if_neg h, if_pos ((nb_iff ht hx hy.1).2 (by omega))]
/-- Is it put behind the first k? -/
def amI (t n : Int) (L : List Kd) : Nat → Bool
  | 0 => false
  | k + 1 => amI t n L k || nb t n (kz L k).1
/-- What stands there behind the first k. -/
def amO (t : Int) (x : Kd) (L : List Kd) : Nat → List Kd
  | 0 => []
  | k + 1 => (if amI t x.1 L k = false ∧ nb t x.1 (kz L k).1 = true then amO t x L k ++ [x] else amO t x L k) ++ [kz L k]
theorem amO_len (t : Int) (x : Kd) (L : List Kd) : ∀ k, (amO t x L k).length ≤ 2 * k
  | 0 => Nat.le_refl _
  | k + 1 => by
    have := amO_len t x L k
    unfold amO
    split
    · simp; omega
    · simp; omega
theorem drop_kz {L : List Kd} {k : Nat} (h : k < L.length) : L.drop k = kz L k :: L.drop (k + 1) := by
  rw [List.drop_eq_getElem_cons h]
  simp [kz, List.getD, List.getElem?_eq_getElem h]
theorem amK_run (t : Int) (x : Kd) (L : List Kd) : ∀ k, k ≤ L.length → (if amI t x.1 L k = true then amO t x L k ++ L.drop k else amO t x L k ++ amg t x (L.drop k)) = amg t x L
  | 0, _ => by simp [amI, amO]
  | k + 1, hk => by
    have ih := amK_run t x L k (by omega)
    rw [drop_kz (show k < L.length by omega)] at ih
    cases h1 : amI t x.1 L k with
    | true =>
      rw [if_pos h1] at ih
      rw [← ih, if_pos (show amI t x.1 L (k + 1) = true by unfold amI; rw [h1]; rfl)]
      show (if amI t x.1 L k = false ∧ nb t x.1 (kz L k).1 = true then amO t x L k ++ [x] else amO t x L k) ++ [kz L k] ++ _ = _
      rw [if_neg (by rw [h1]; rintro ⟨q, _⟩; cases q)]
      simp
    | false =>
      rw [if_neg (by rw [h1]; decide)] at ih
      rw [← ih]
      cases h2 : nb t x.1 (kz L k).1 with
      | true =>
        rw [if_pos (show amI t x.1 L (k + 1) = true by unfold amI; rw [h1, h2]; rfl)]
        show (if amI t x.1 L k = false ∧ nb t x.1 (kz L k).1 = true then amO t x L k ++ [x] else amO t x L k) ++ [kz L k] ++ _ = _
        rw [if_pos ⟨h1, h2⟩]
        unfold amg
        rw [if_pos h2]
        simp
      | false =>
        rw [if_neg (show ¬ amI t x.1 L (k + 1) = true by unfold amI; rw [h1, h2]; decide)]
        show (if amI t x.1 L k = false ∧ nb t x.1 (kz L k).1 = true then amO t x L k ++ [x] else amO t x L k) ++ [kz L k] ++ _ = _
        rw [if_neg (by rw [h2]; rintro ⟨_, q⟩; cases q)]
        show _ = amO t x L k ++ (if nb t x.1 (kz L k).1 = true then x :: kz L k :: L.drop (k + 1) else kz L k :: amg t x (L.drop (k + 1)))
        rw [if_neg (by rw [h2]; decide)]
        simp
/-- A child put at its place in the stead of the one of its node. -/
def wt (t : Int) (L : List Kd) (x : Kd) : List Kd := ins t x (dr L x.1)
theorem dr_mem {L : List Kd} {n : Int} {z : Kd} : z ∈ dr L n ↔ z ∈ L ∧ z.1 ≠ n := by simp [dr]
theorem wt_mem {t : Int} {L : List Kd} {x z : Kd} : z ∈ wt t L x ↔ z = x ∨ (z ∈ L ∧ z.1 ≠ x.1) := by
  unfold wt
  rw [ins_mem, dr_mem]
theorem dr_not {L : List Kd} {n : Int} (h : hs L n = false) : dr L n = L := by
  unfold dr
  rw [List.filter_eq_self]
  intro z hz
  have : ¬ z.1 = n := fun e => by have := hs_iff.2 ⟨z, hz, e⟩; rw [h] at this; cases this
  simp [this]
/-- No two are of one node. -/
def Apart (L : List Kd) : Prop := L.Pairwise fun x y => x.1 ≠ y.1
theorem dr_less {n : Int} : ∀ {L : List Kd}, Apart L → hs L n = true → (dr L n).length + 1 = L.length
  | [], _, h => by simp [hs] at h
  | y :: L, h1, h2 => by
    obtain ⟨h3, h4⟩ := List.pairwise_cons.1 h1
    by_cases h : y.1 = n
    · have h5 : hs L n = false := by
        cases q : hs L n with
        | false => rfl
        | true =>
          obtain ⟨z, hz, e⟩ := hs_iff.1 q
          exact absurd (h.trans e.symm) (h3 z hz)
      have h6 : dr (y :: L) n = dr L n := by simp [dr, h]
      rw [h6, dr_not h5]
      rfl
    · have h5 : hs L n = true := by
        obtain ⟨z, hz, e⟩ := hs_iff.1 h2
        rcases List.mem_cons.1 hz with rfl | hz
        · exact absurd e h
        · exact hs_iff.2 ⟨z, hz, e⟩
      have h6 : dr (y :: L) n = y :: dr L n := by simp [dr, h]
      rw [h6, List.length_cons, dr_less h4 h5]
      rfl
theorem Gd.apart {t s : Int} {L : List Kd} (h : Gd t s L) : Apart L := h.2.imp fun hlt e => by rw [e] at hlt; omega
theorem Gd.dr {t s : Int} {L : List Kd} (h : Gd t s L) (n : Int) : Gd t s (dr L n) :=
  ⟨fun x hx => h.1 x (dr_mem.1 hx).1, h.2.filter _⟩
theorem Gd.wt {t s : Int} {L : List Kd} {x : Kd} (h : Gd t s L) (ht : IsT t) (hx : IsN x.1 ∧ 1 ≤ x.2.1 ∧ x.2.1 ≤ 1073741824 ∧ 0 ≤ x.2.2 ∧ x.2.2 ≤ 6 ∧ gp t s < gp t x.1) : Gd t s (wt t L x) := by
  refine ⟨fun z hz => ?_, ins_pair ht hx.1 (fun y hy => ⟨(h.1 y (dr_mem.1 hy).1).1, (dr_mem.1 hy).2⟩) (h.dr _).2⟩
  rcases wt_mem.1 hz with rfl | hz
  · exact hx
  · exact h.1 z hz.1
theorem Gd.nil (t s : Int) : Gd t s [] := ⟨fun x hx => (by cases hx), List.Pairwise.nil⟩
/-- What asking answers: the children, who is sent, to whom. -/
def askL (t lim : Int) (L : List Kd) (n inc : Int) : List Kd :=
  if hs L n = true ∨ (L.length : Int) < lim then wt t L (n, inc, 0)
  else if nb t (kz L 0).1 n = true then L else wt t (dr L (kz L (L.length - 1)).1) (n, inc, 0)
def askW (t lim : Int) (L : List Kd) (n : Int) : Int :=
  if hs L n = true ∨ (L.length : Int) < lim then 0
  else if nb t (kz L 0).1 n = true then n + 1 else (kz L (L.length - 1)).1 + 1
def askT (t lim : Int) (L : List Kd) (n : Int) : Int :=
  if hs L n = true ∨ (L.length : Int) < lim then 0
  else if nb t (kz L 0).1 n = true then (kz L 0).1 + 1 else n + 1
/-- The three ways. -/
theorem ask_in {t lim : Int} {L : List Kd} {n : Int} (inc : Int) (h : hs L n = true ∨ (L.length : Int) < lim) : askL t lim L n inc = wt t L (n, inc, 0) ∧ askW t lim L n = 0 ∧ askT t lim L n = 0 := ⟨if_pos h, if_pos h, if_pos h⟩
theorem ask_off {t lim : Int} {L : List Kd} {n : Int} (inc : Int) (h : ¬ (hs L n = true ∨ (L.length : Int) < lim)) (h1 : nb t (kz L 0).1 n = true) : askL t lim L n inc = L ∧ askW t lim L n = n + 1 ∧ askT t lim L n = (kz L 0).1 + 1 := by
  unfold askL askW askT
  rw [if_neg h, if_neg h, if_neg h, if_pos h1, if_pos h1, if_pos h1]
  exact ⟨rfl, rfl, rfl⟩
theorem ask_out {t lim : Int} {L : List Kd} {n : Int} (inc : Int) (h : ¬ (hs L n = true ∨ (L.length : Int) < lim)) (h1 : nb t (kz L 0).1 n = false) : askL t lim L n inc = wt t (dr L (kz L (L.length - 1)).1) (n, inc, 0) ∧ askW t lim L n = (kz L (L.length - 1)).1 + 1 ∧ askT t lim L n = n + 1 := by
  have h2 : ¬ nb t (kz L 0).1 n = true := by rw [h1]; decide
  unfold askL askW askT
  rw [if_neg h, if_neg h, if_neg h, if_neg h2, if_neg h2, if_neg h2]
  exact ⟨rfl, rfl, rfl⟩
/-- Without the last one. -/
theorem dr_last {L : List Kd} (h : Apart L) (h0 : 0 < L.length) : dr L (kz L (L.length - 1)).1 = L.take (L.length - 1) := by
  have e : L = L.take (L.length - 1) ++ [kz L (L.length - 1)] := by
    rw [← take_kz (by omega), show L.length - 1 + 1 = L.length by omega, List.take_length]
  have hp : (L.take (L.length - 1) ++ [kz L (L.length - 1)]).Pairwise fun x y => x.1 ≠ y.1 := e ▸ h
  generalize kz L (L.length - 1) = z at *
  generalize L.take (L.length - 1) = M at *
  rw [e]
  rw [List.pairwise_append] at hp
  unfold dr
  rw [List.filter_append]
  have h1 : M.filter (fun k => k.1 != z.1) = M := by
    rw [List.filter_eq_self]
    intro y hy
    have := hp.2.2 y hy z (by simp)
    simp [this]
  rw [h1]
  simp
/-- Two rising lists of the same members are one. -/
theorem rise_one {t : Int} : ∀ {L M : List Kd}, L.Pairwise (fun x y => gp t x.1 < gp t y.1) → M.Pairwise (fun x y => gp t x.1 < gp t y.1) → (∀ z, z ∈ L ↔ z ∈ M) → L = M
  | [], [], _, _, _ => rfl
  | [], y :: M, _, _, h => by have := (h y).2 (List.mem_cons_self ..); cases this
  | x :: L, [], _, _, h => by have := (h x).1 (List.mem_cons_self ..); cases this
  | x :: L, y :: M, h1, h2, h => by
    obtain ⟨a1, a2⟩ := List.pairwise_cons.1 h1
    obtain ⟨b1, b2⟩ := List.pairwise_cons.1 h2
    have e : x = y := by
      rcases List.mem_cons.1 ((h x).1 (List.mem_cons_self ..)) with e | e
      · exact e
      · rcases List.mem_cons.1 ((h y).2 (List.mem_cons_self ..)) with e2 | e2
        · exact e2.symm
        · have := b1 x e
          have := a1 y e2
          omega
    subst e
    congr 1
    refine rise_one a2 b2 fun z => ⟨fun hz => ?_, fun hz => ?_⟩
    · rcases List.mem_cons.1 ((h z).1 (List.mem_cons_of_mem _ hz)) with rfl | hz2
      · have := a1 z hz; omega
      · exact hz2
    · rcases List.mem_cons.1 ((h z).2 (List.mem_cons_of_mem _ hz)) with rfl | hz2
      · have := b1 z hz; omega
      · exact hz2
/-- What asking answers, of right children. -/
theorem ask_gd {t s lim : Int} {L : List Kd} {n inc : Int} (h : Gd t s L) (ht : IsT t) (hn : IsN n) (hi : 1 ≤ inc ∧ inc ≤ 1073741824) (hg : gp t s < gp t n) : Gd t s (askL t lim L n inc) := by
  have hx : IsN (n, inc, (0 : Int)).1 ∧ 1 ≤ (n, inc, (0 : Int)).2.1 ∧ (n, inc, (0 : Int)).2.1 ≤ 1073741824 ∧ 0 ≤ (n, inc, (0 : Int)).2.2 ∧ (n, inc, (0 : Int)).2.2 ≤ 6 ∧ gp t s < gp t (n, inc, (0 : Int)).1 := ⟨hn, hi.1, hi.2, Int.le_refl 0, (show (0 : Int) ≤ 6 by omega), hg⟩
  unfold askL
  split
  · exact h.wt ht hx
  · split
    · exact h
    · exact (h.dr _).wt ht hx
theorem last_mem {L : List Kd} (h : 0 < L.length) : hs L (kz L (L.length - 1)).1 = true := hs_yes (by omega) rfl
theorem hs_dr {L : List Kd} {n m : Int} (h : hs L n = false) : hs (dr L m) n = false := by
  cases q : hs (dr L m) n with
  | false => rfl
  | true =>
    obtain ⟨z, hz, e⟩ := hs_iff.1 q
    have := hs_iff.2 ⟨z, (dr_mem.1 hz).1, e⟩
    rw [h] at this
    cases this
theorem ask_len {t lim : Int} {L : List Kd} {n inc : Int} (h : Apart L) (hl : (L.length : Int) ≤ lim) (h1 : 1 ≤ lim) : ((askL t lim L n inc).length : Int) ≤ lim := by
  by_cases h2 : hs L n = true ∨ (L.length : Int) < lim
  · rw [(ask_in inc h2).1]
    unfold wt
    rw [ins_len]
    rcases h2 with h2 | h2
    · have := dr_less h h2
      simp only at this ⊢
      omega
    · have := dr_len L n
      simp only at this ⊢
      omega
  · have h0 : 0 < L.length := by
      have : ¬ (L.length : Int) < lim := fun q => h2 (.inr q)
      omega
    cases h3 : nb t (kz L 0).1 n with
    | true => rw [(ask_off inc h2 h3).1]; exact hl
    | false =>
      rw [(ask_out inc h2 h3).1]
      unfold wt
      have h4 : hs L n = false := by
        cases q : hs L n with
        | false => rfl
        | true => exact absurd (.inl q) h2
      rw [ins_len]
      simp only
      rw [dr_not (hs_dr h4)]
      have := dr_less h (last_mem h0)
      omega
end Go.Proofs.YtgglnhnokhpnpaaDoor
