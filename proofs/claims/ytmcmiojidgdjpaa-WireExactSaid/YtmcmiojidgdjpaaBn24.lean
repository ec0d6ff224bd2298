/- When some bytes are a message's, as plain facts. -/
import Derived.Test.YtmcmiojidgdjpaaBn3
import Derived.Test.YtmcmiojidgdjpaaBn4
import Derived.Test.YtmcmiojidgdjpaaBn20
namespace Go.Proofs.Ytmcmiojidgdjpaa
open Go.RowKit

/-- Bytes as integers. -/
def E (D : Nat → Nat) (i : Nat) : Int := (D i : Int)
/-- The bytes are a message's numbers and lists, and nothing more. -/
def Whole (D : Nat → Nat) (m : Nat) : Prop := gN (E D) 6 < 4611686018427387904 ∧ m = 44 + D 42 + D (43 + D 42)
theorem wsz_14 (j : Nat) (hj : j < 14) (h : j ≠ 6) : wsz j = 1 ∨ wsz j = 4 := by
  match j, hj, h with
  | 0, _, _ | 1, _, _ | 2, _, _ | 3, _, _ | 4, _, _ | 5, _, _ | 7, _, _ | 8, _, _ | 9, _, _ | 10, _, _ | 11, _, _ | 12, _, _ | 13, _, _ => decide
  | 6, _, h => exact absurd rfl h
theorem gN_lt (D : Nat → Nat) (m j : Nat) (hD : ∀ i, i < m → D i < 256) (hj : j < 14) (hl : wst j + wsz j ≤ m) (h6 : gN (E D) 6 < 4611686018427387904) : gN (E D) j < 4611686018427387904 := by
  have hb := (Co.num_bd (E D) (wst j) (wsz j) (fun i hi => by have := hD (wst j + i) (by omega); unfold E; omega)).2
  by_cases h : j = 6
  · subst h
    exact h6
  · have hz := wsz_14 j hj h
    unfold gN
    rcases hz with hz | hz <;> rw [hz] at hb ⊢
    · exact Int.lt_trans hb (by decide)
    · exact Int.lt_trans hb (by decide)
theorem gf_zero (D : Nat → Nat) (m j : Nat) (hj : j < 14) : Co.gf (E D) m (wst j : Int) (wsz j : Int) = 0 ↔ (wst j + wsz j ≤ m ∧ gN (E D) j < 4611686018427387904) := by
  unfold Co.gf gN
  rw [if_pos (wsz_z j hj), Int.toNat_natCast, Int.toNat_natCast]
  by_cases h : Co.Here m (wst j : Int) (wsz j : Int)
  · rw [if_pos h]
    have h2 : wst j + wsz j ≤ m := by have := h.2; omega
    by_cases h3 : Co.num (E D) (wst j) (wsz j) < 4611686018427387904
    · rw [if_pos h3]
      exact ⟨fun _ => ⟨h2, h3⟩, fun _ => rfl⟩
    · rw [if_neg h3]
      exact ⟨fun q => absurd q (by decide), fun q => absurd q.2 h3⟩
  · rw [if_neg h]
    exact ⟨fun q => absurd q (by decide), fun q => absurd ⟨by omega, by have := q.1; omega⟩ h⟩
theorem gf_bad (D : Nat → Nat) (m j : Nat) (hD : ∀ i, i < m → D i < 256) (hj : j < 14) (h : Co.gf (E D) m (wst j : Int) (wsz j : Int) ≠ 0) : ¬ Whole D m := by
  rintro ⟨h6, hm⟩
  have hl := wst_le j hj
  exact h ((gf_zero D m j hj).2 ⟨by omega, gN_lt D m j hD hj (by omega) h6⟩)
theorem gy_ok (D : Nat → Nat) (m j : Nat) (h : Co.gf (E D) m (wst j : Int) (wsz j : Int) = 0) : Co.gy (E D) m (wst j : Int) (wsz j : Int) = gN (E D) j := by
  unfold Co.gy gN
  rw [if_pos h, Int.toNat_natCast, Int.toNat_natCast]
/-- A right message's numbers fit. -/
theorem fit_of (m : Mg) (F G : Nat → Int) (n k : Nat) (h : chkB m F n G k = true) : Fit m := by
  have hb : numB m = true := by
    unfold chkB at h
    simp only [Bool.and_eq_true] at h
    exact h.1.1
  obtain ⟨h0, h1, h2, h3, h4, h5, h6, h7, h8, h9, h10, h11, h12, h13⟩ := (numB_iff m).1 hb
  have l15 : ∀ (a b : Int) (c : Prop) [Decidable c], (if c then a else b) = a ∨ (if c then a else b) = b := by
    intro a b c _
    by_cases q : c
    · exact .inl (if_pos q)
    · exact .inr (if_neg q)
  simp only [lo, hi] at h0 h1 h2 h3 h4 h5 h6 h7 h8 h9 h10 h11 h12 h13
  intro j hj
  match j, hj with
  | 0, _ => exact ⟨by show (0 : Int) ≤ m.kd; omega, by show m.kd < 256; omega⟩
  | 1, _ => exact ⟨by show (0 : Int) ≤ m.fr; omega, by show m.fr < 256; omega⟩
  | 2, _ => exact ⟨by show (0 : Int) ≤ m.tw; omega, by show m.tw < 256; omega⟩
  | 3, _ => exact ⟨by show (0 : Int) ≤ m.tp; omega, by show m.tp < 256; omega⟩
  | 4, _ => exact ⟨by show (0 : Int) ≤ m.fi; omega, by show m.fi < 4294967296; omega⟩
  | 5, _ => exact ⟨by show (0 : Int) ≤ m.ti; omega, by show m.ti < 4294967296; omega⟩
  | 6, _ => exact ⟨by show (0 : Int) ≤ m.ep; omega, by show m.ep < 4611686018427387904; omega⟩
  | 7, _ => exact ⟨by show (0 : Int) ≤ m.sq; omega, by show m.sq < 4294967296; omega⟩
  | 8, _ => exact ⟨by show (0 : Int) ≤ m.la; omega, by show m.la < 4294967296; omega⟩
  | 9, _ => exact ⟨by show (0 : Int) ≤ m.va; omega, by show m.va < 4294967296; omega⟩
  | 10, _ => exact ⟨by show (0 : Int) ≤ m.no; omega, by show m.no < 256; omega⟩
  | 11, _ => exact ⟨by show (0 : Int) ≤ m.ic; omega, by show m.ic < 4294967296; omega⟩
  | 12, _ => exact ⟨by show (0 : Int) ≤ m.ct; omega, by show m.ct < 4294967296; omega⟩
  | 13, _ => exact ⟨by show (0 : Int) ≤ m.hp; omega, by show m.hp < 256; omega⟩
/-- A right message's lists are short, of small numbers. -/
theorem lists_of (m : Mg) (F G : Nat → Int) (n k : Nat) (h : chkB m F n G k = true) : n ≤ 8 ∧ k ≤ 8 ∧ (∀ i, i < n → 0 ≤ F i ∧ F i ≤ 7) ∧ ∀ i, i < k → 0 ≤ G i ∧ G i ≤ 7 := by
  have hb : lisB m F n G k = true := by
    unfold chkB at h
    simp only [Bool.and_eq_true] at h
    exact h.2
  unfold lisB fewB at hb
  split at hb
  · simp only [Bool.and_eq_true, decide_eq_true_eq] at hb
    obtain ⟨⟨⟨⟨h1, _⟩, _⟩, h2, h3⟩, _⟩ := hb
    exact ⟨h2, by omega, h3, fun i hi => by omega⟩
  · split at hb
    · simp only [Bool.and_eq_true, decide_eq_true_eq] at hb
      obtain ⟨⟨⟨h1, h2⟩, h3, h4⟩, _⟩ := hb
      exact ⟨h1, h3, h2, h4⟩
    · simp only [Bool.and_eq_true, decide_eq_true_eq] at hb
      exact ⟨by omega, by omega, fun i hi => by omega, fun i hi => by omega⟩
end Go.Proofs.Ytmcmiojidgdjpaa
