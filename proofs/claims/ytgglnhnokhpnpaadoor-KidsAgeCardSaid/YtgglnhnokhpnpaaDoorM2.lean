/- The nodes that a node is nearer than; who is there after many asked: as plain functions of lists. -/
import Derived.Test.YtgglnhnokhpnpaaDoorM1
namespace Go.Proofs.YtgglnhnokhpnpaaDoor
open Go.RowKit

/-- Where a node is put among some. -/
def bk (t i : Int) (F : List Int) : Nat → Nat
  | 0 => 0
  | k + 1 => if nb t i (zF F k) = true then bk t i F k else k + 1
theorem bk_le (t i : Int) (F : List Int) : ∀ k, bk t i F k ≤ k
  | 0 => Nat.le_refl _
  | k + 1 => by
    have := bk_le t i F k
    unfold bk
    split <;> omega
def insF (t i : Int) (F : List Int) : List Int := F.take (bk t i F F.length) ++ [i] ++ F.drop (bk t i F F.length)
theorem insF_len (t i : Int) (F : List Int) : (insF t i F).length = F.length + 1 := by
  have := bk_le t i F F.length
  unfold insF
  simp
  omega
/-- Of the first k nodes, those that one is nearer than, the nearest first. -/
def farK (t s : Int) : Nat → List Int
  | 0 => []
  | k + 1 => if nb t s k = true then insF t k (farK t s k) else farK t s k
theorem farK_yes {t s : Int} {k : Nat} (h : nb t s k = true) : farK t s (k + 1) = insF t k (farK t s k) := if_pos h
theorem farK_no {t s : Int} {k : Nat} (h : nb t s k = false) : farK t s (k + 1) = farK t s k := if_neg (by rw [h]; decide)
theorem farK_len (t s : Int) : ∀ k, (farK t s k).length ≤ k
  | 0 => Nat.le_refl _
  | k + 1 => by
    have := farK_len t s k
    unfold farK
    split
    · rw [insF_len]; omega
    · omega
theorem far_all : ∀ t, t < 4 → ∀ s, s < 8 → ((farK (t : Nat) (s : Nat) 8).Pairwise fun x y => gp (t : Nat) x < gp (t : Nat) y) ∧ (∀ x ∈ farK (t : Nat) (s : Nat) 8, (0 ≤ x ∧ x < 8) ∧ gp (t : Nat) (s : Nat) < gp (t : Nat) x) ∧ (farK (t : Nat) (s : Nat) 8).length ≤ 7 := by decide +kernel
theorem far_is {t s : Int} (ht : IsT t) (hn : IsN s) : ((farK t s 8).Pairwise fun x y => gp t x < gp t y) ∧ (∀ x ∈ farK t s 8, IsN x ∧ gp t s < gp t x) ∧ (farK t s 8).length ≤ 7 := by
  obtain ⟨t1, t2⟩ := ht
  obtain ⟨a1, a2⟩ := hn
  obtain ⟨t, rfl⟩ := Int.eq_ofNat_of_zero_le t1
  obtain ⟨s, rfl⟩ := Int.eq_ofNat_of_zero_le a1
  exact far_all t (by omega) s (by omega)
theorem far_may {t s x : Int} (ht : IsT t) (hn : IsN s) (hx : x ∈ farK t s 8) : IsN x ∧ gp t s < gp t x ∧ nb t s x = true := by
  obtain ⟨h1, h2⟩ := (far_is ht hn).2.1 x hx
  exact ⟨h1, h2, (nb_iff ht hn h1).2 h2⟩
theorem far_up {t s : Int} (ht : IsT t) (hn : IsN s) {i k : Nat} (hik : i < k) (hk : k < (farK t s 8).length) : gp t (zF (farK t s 8) i) < gp t (zF (farK t s 8) k) := by
  have := List.pairwise_iff_getElem.1 (far_is ht hn).1 i k (by omega) hk hik
  simpa [zF, List.getD, List.getElem?_eq_getElem hk, List.getElem?_eq_getElem (show i < (farK t s 8).length by omega)] using this
theorem far_apart {t s : Int} (ht : IsT t) (hn : IsN s) {i k : Nat} (hi : i < (farK t s 8).length) (hk : k < (farK t s 8).length) (h : zF (farK t s 8) i = zF (farK t s 8) k) : i = k := by
  by_cases h1 : i < k
  · have := far_up ht hn h1 hk; rw [h] at this; omega
  · by_cases h2 : k < i
    · have := far_up ht hn h2 hi; rw [h] at this; omega
    · omega

/-- Of all that asked one is there that is as near: the nearest is there. -/
def Near (t : Int) (A : Int → Prop) (L : List Kd) : Prop := (∀ x ∈ L, A x.1) ∧ ∀ a, A a → ∃ y ∈ L, gp t y.1 ≤ gp t a
theorem Near.nil (t : Int) {A : Int → Prop} (h : ∀ a, ¬ A a) : Near t A [] := ⟨fun x hx => by (cases hx), fun a ha => absurd ha (h a)⟩
theorem near_wt {t : Int} {A : Int → Prop} {L : List Kd} (n inc : Int) (h : Near t A L) : Near t (fun a => A a ∨ a = n) (wt t L (n, inc, 0)) := by
  refine ⟨fun x hx => ?_, fun a ha => ?_⟩
  · rcases wt_mem.1 hx with rfl | hx
    · exact .inr rfl
    · exact .inl (h.1 x hx.1)
  · have hm : (n, inc, (0 : Int)) ∈ wt t L (n, inc, 0) := wt_mem.2 (.inl rfl)
    rcases ha with ha | rfl
    · obtain ⟨y, hy, hg⟩ := h.2 a ha
      by_cases e : y.1 = n
      · exact ⟨_, hm, by rw [e] at hg; exact hg⟩
      · exact ⟨y, wt_mem.2 (.inr ⟨hy, e⟩), hg⟩
    · exact ⟨_, hm, Int.le_refl _⟩
theorem first_least {t s : Int} {L : List Kd} (h : Gd t s L) {y : Kd} (hy : y ∈ L) : gp t (kz L 0).1 ≤ gp t y.1 := by
  obtain ⟨i, hi, rfl⟩ := kz_of_mem hy
  by_cases e : i = 0
  · subst e; exact Int.le_refl _
  · have := List.pairwise_iff_getElem.1 h.2 0 i (by omega) hi (by omega)
    have h2 : gp t (kz L 0).1 < gp t (kz L i).1 := by
      simpa [kz, List.getD, List.getElem?_eq_getElem hi, List.getElem?_eq_getElem (show 0 < L.length by omega)] using this
    omega
theorem last_most {t s : Int} {L : List Kd} (h : Gd t s L) {y : Kd} (hy : y ∈ L) : gp t y.1 ≤ gp t (kz L (L.length - 1)).1 := by
  obtain ⟨i, hi, rfl⟩ := kz_of_mem hy
  by_cases e : i = L.length - 1
  · rw [e]; exact Int.le_refl _
  · have := List.pairwise_iff_getElem.1 h.2 i (L.length - 1) hi (by omega) (by omega)
    have h2 : gp t (kz L i).1 < gp t (kz L (L.length - 1)).1 := by
      simpa [kz, List.getD, List.getElem?_eq_getElem hi, List.getElem?_eq_getElem (show L.length - 1 < L.length by omega)] using this
    omega
/-- What asking answers of right children, all that a statement asks. -/
theorem ask_near {t s lim : Int} {A : Int → Prop} {L : List Kd} {n inc : Int} (h : Gd t s L) (ht : IsT t) (hn : IsN n) (h1 : 1 ≤ lim) (hA : Near t A L) :
    Near t (fun a => A a ∨ a = n) (askL t lim L n inc) := by
  by_cases h2 : hs L n = true ∨ (L.length : Int) < lim
  · rw [(ask_in inc h2).1]; exact near_wt n inc hA
  · have h0 : 0 < L.length := by
      have : ¬ (L.length : Int) < lim := fun q => h2 (.inr q)
      omega
    have hf := kz_mem h0
    cases h3 : nb t (kz L 0).1 n with
    | true =>
      rw [(ask_off inc h2 h3).1]
      refine ⟨fun x hx => .inl (hA.1 x hx), fun a ha => ?_⟩
      rcases ha with ha | rfl
      · exact hA.2 a ha
      · exact ⟨_, hf, Int.le_of_lt ((nb_iff ht (h.1 _ hf).1 hn).1 h3)⟩
    | false =>
      rw [(ask_out inc h2 h3).1]
      have hlt : gp t n ≤ gp t (kz L 0).1 := by
        have : ¬ gp t (kz L 0).1 < gp t n := fun q => by have := (nb_iff ht (h.1 _ hf).1 hn).2 q; rw [h3] at this; cases this
        omega
      refine ⟨fun x hx => ?_, fun a ha => ?_⟩
      · rcases wt_mem.1 hx with rfl | hx
        · exact .inr rfl
        · exact .inl (hA.1 x (dr_mem.1 hx.1).1)
      · refine ⟨(n, inc, 0), wt_mem.2 (.inl rfl), ?_⟩
        rcases ha with ha | rfl
        · obtain ⟨y, hy, hg⟩ := hA.2 a ha
          have := first_least h hy
          show gp t n ≤ gp t a
          omega
        · exact Int.le_refl _
theorem hs_wt (t : Int) (L : List Kd) (x : Kd) : hs (wt t L x) x.1 = true := hs_iff.2 ⟨x, wt_mem.2 (.inl rfl), rfl⟩
theorem hs_wt_not {t : Int} {L : List Kd} {x : Kd} {m : Int} (h : hs L m = false) (hm : x.1 ≠ m) : hs (wt t L x) m = false := by
  cases q : hs (wt t L x) m with
  | false => rfl
  | true =>
    obtain ⟨z, hz, e⟩ := hs_iff.1 q
    rcases wt_mem.1 hz with rfl | hz
    · exact absurd e hm
    · have := hs_iff.2 ⟨z, hz.1, e⟩
      rw [h] at this
      cases this
theorem hs_drop (L : List Kd) (n : Int) : hs (dr L n) n = false := by
  cases q : hs (dr L n) n with
  | false => rfl
  | true =>
    obtain ⟨z, hz, e⟩ := hs_iff.1 q
    exact absurd e (dr_mem.1 hz).2
/-- The three ways, told for a statement. -/
theorem ask_ways {t s lim : Int} {L : List Kd} {n : Int} (inc : Int) (h : Gd t s L) (ht : IsT t) (hn : IsN n) (h1 : 1 ≤ lim) :
    (askW t lim L n = 0 ∧ askT t lim L n = 0 ∧ hs (askL t lim L n inc) n = true) ∨
    (∃ f, IsN f ∧ askW t lim L n = n + 1 ∧ askT t lim L n = f + 1 ∧ nb t f n = true ∧ hs L n = false ∧ askL t lim L n inc = L) ∨
    ∃ l, IsN l ∧ l ≠ n ∧ askW t lim L n = l + 1 ∧ askT t lim L n = n + 1 ∧ nb t n l = true ∧ hs (askL t lim L n inc) l = false := by
  by_cases h2 : hs L n = true ∨ (L.length : Int) < lim
  · obtain ⟨e1, e2, e3⟩ := ask_in inc h2
    exact .inl ⟨e2, e3, by rw [e1]; exact hs_wt _ _ _⟩
  · have h4 : hs L n = false := by
      cases q : hs L n with
      | false => rfl
      | true => exact absurd (.inl q) h2
    have h0 : 0 < L.length := by
      have : ¬ (L.length : Int) < lim := fun q => h2 (.inr q)
      omega
    have hf := kz_mem h0
    have hl := kz_mem (L := L) (i := L.length - 1) (by omega)
    cases h3 : nb t (kz L 0).1 n with
    | true =>
      obtain ⟨e1, e2, e3⟩ := ask_off inc h2 h3
      exact .inr (.inl ⟨_, (h.1 _ hf).1, e2, e3, h3, h4, e1⟩)
    | false =>
      obtain ⟨e1, e2, e3⟩ := ask_out inc h2 h3
      have hne : (kz L (L.length - 1)).1 ≠ n := fun e => by have := hs_iff.2 ⟨_, hl, e⟩; rw [h4] at this; cases this
      have hlt : gp t n ≤ gp t (kz L 0).1 := by
        have : ¬ gp t (kz L 0).1 < gp t n := fun q => by have := (nb_iff ht (h.1 _ hf).1 hn).2 q; rw [h3] at this; cases this
        omega
      have h5 := first_least h hl
      have h6 : gp t n ≠ gp t (kz L (L.length - 1)).1 := fun q => hne (gp_inj ht hn (h.1 _ hl).1 q).symm
      exact .inr (.inr ⟨_, (h.1 _ hl).1, hne, e2, e3, (nb_iff ht hn (h.1 _ hl).1).2 (by omega), by rw [e1]; exact hs_wt_not (hs_drop _ _) hne.symm⟩)
/-- The page's answer. -/
theorem ask_page {t s lim : Int} {L : List Kd} {n inc : Int} (h : Gd t s L) (ht : IsT t) (hn : IsN n) :
    (hs L n = true → askL t lim L n inc = amg t (n, inc, 0) (dr L n)) ∧
    (hs L n = false → (L.length : Int) < lim → askL t lim L n inc = amg t (n, inc, 0) L) ∧
    (hs L n = false → ¬ (L.length : Int) < lim → 1 ≤ lim → nb t (kz L 0).1 n = false → askL t lim L n inc = amg t (n, inc, 0) (L.take (L.length - 1))) := by
  have hx : IsN (n, inc, (0 : Int)).1 := hn
  refine ⟨fun h1 => ?_, fun h1 h2 => ?_, fun h1 h2 h3 h4 => ?_⟩
  · rw [(ask_in inc (.inl h1)).1]
    exact (amg_ins ht hx fun y hy => ⟨(h.1 y (dr_mem.1 hy).1).1, (dr_mem.1 hy).2⟩).symm
  · rw [(ask_in inc (.inr h2)).1]
    unfold wt
    simp only
    rw [dr_not h1]
    refine (amg_ins ht hx fun y hy => ⟨(h.1 y hy).1, fun e => ?_⟩).symm
    have := hs_iff.2 ⟨y, hy, e⟩
    rw [h1] at this
    cases this
  · have h2' : ¬ (hs L n = true ∨ (L.length : Int) < lim) := fun q => q.elim (fun z => by rw [h1] at z; cases z) h2
    rw [(ask_out inc h2' h4).1]
    unfold wt
    simp only
    rw [dr_not (hs_dr h1), ← dr_last h.apart (by omega)]
    refine (amg_ins ht hx fun y hy => ⟨(h.1 y (dr_mem.1 hy).1).1, fun e => ?_⟩).symm
    have := hs_iff.2 ⟨y, (dr_mem.1 hy).1, e⟩
    rw [h1] at this
    cases this
end Go.Proofs.YtgglnhnokhpnpaaDoor
