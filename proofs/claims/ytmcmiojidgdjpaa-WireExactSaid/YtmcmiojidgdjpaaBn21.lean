/- What the page's Msg answers, kind by kind, is what Check answers: plain facts. -/
import Derived.Test.YtmcmiojidgdjpaaBn20
namespace Go.Proofs.Ytmcmiojidgdjpaa
open Go.RowKit

theorem eqM_iff (m m' : Mg) : eqM m m' = true ↔ (m.kd = m'.kd ∧ m.fr = m'.fr ∧ m.fi = m'.fi ∧ m.tw = m'.tw ∧ m.ti = m'.ti ∧ m.tp = m'.tp ∧ m.ep = m'.ep ∧ m.sq = m'.sq ∧ m.la = m'.la ∧ m.va = m'.va ∧ m.no = m'.no ∧ m.ic = m'.ic ∧ m.ct = m'.ct ∧ m.hp = m'.hp) := by
  unfold eqM
  rw [show List.range 14 = [0, 1, 2, 3, 4, 5, 6, 7, 8, 9, 10, 11, 12, 13] from rfl]
  simp [fld]
theorem samB_iff (m m' : Mg) (F G F' G' : Nat → Int) (n k n' k' : Nat) : samB m F n G k m' F' n' G' k' = true ↔ (m.kd = m'.kd ∧ m.fr = m'.fr ∧ m.fi = m'.fi ∧ m.tw = m'.tw ∧ m.ti = m'.ti ∧ m.tp = m'.tp ∧ m.ep = m'.ep ∧ m.sq = m'.sq ∧ m.la = m'.la ∧ m.va = m'.va ∧ m.no = m'.no ∧ m.ic = m'.ic ∧ m.ct = m'.ct ∧ m.hp = m'.hp) ∧ (n = n' ∧ ∀ i, i < n → F i = F' i) ∧ (k = k' ∧ ∀ i, i < k → G i = G' i) := by
  rw [samB, Bool.and_eq_true, Bool.and_eq_true, eqM_iff, eqB, eqB, decide_eq_true_eq, decide_eq_true_eq, and_assoc]
theorem chkB_iff (m : Mg) (F G : Nat → Int) (n k : Nat) : chkB m F n G k = true ↔ (((lo m).kd ≤ m.kd ∧ m.kd ≤ (hi m).kd) ∧ ((lo m).fr ≤ m.fr ∧ m.fr ≤ (hi m).fr) ∧ ((lo m).fi ≤ m.fi ∧ m.fi ≤ (hi m).fi) ∧ ((lo m).tw ≤ m.tw ∧ m.tw ≤ (hi m).tw) ∧ ((lo m).ti ≤ m.ti ∧ m.ti ≤ (hi m).ti) ∧ ((lo m).tp ≤ m.tp ∧ m.tp ≤ (hi m).tp) ∧ ((lo m).ep ≤ m.ep ∧ m.ep ≤ (hi m).ep) ∧ ((lo m).sq ≤ m.sq ∧ m.sq ≤ (hi m).sq) ∧ ((lo m).la ≤ m.la ∧ m.la ≤ (hi m).la) ∧ ((lo m).va ≤ m.va ∧ m.va ≤ (hi m).va) ∧ ((lo m).no ≤ m.no ∧ m.no ≤ (hi m).no) ∧ ((lo m).ic ≤ m.ic ∧ m.ic ≤ (hi m).ic) ∧ ((lo m).ct ≤ m.ct ∧ m.ct ≤ (hi m).ct) ∧ ((lo m).hp ≤ m.hp ∧ m.hp ≤ (hi m).hp)) ∧ (¬ (m.kd = 4 ∧ (m.no = m.fr ∨ m.no = m.tw)) ∧ m.fr ≠ m.tw) ∧ lisB m F n G k = true := by
  rw [chkB, Bool.and_eq_true, Bool.and_eq_true, numB_iff, ndsB, decide_eq_true_eq, and_assoc]
theorem off_h0 (m : Mg) (F G : Nat → Int) (n k : Nat) (h : (decide (1 ≤ m.kd) && decide (m.kd ≤ 13)) = false) : chkB m F n G k = false := by
  refine Bool.eq_false_iff.2 fun hc => ?_
  rw [chkB_iff] at hc
  simp [lo, hi] at h hc
  omega
theorem off_h1 (m : Mg) (F G : Nat → Int) (n k : Nat) (h : (decide (0 ≤ m.fr) && decide (m.fr ≤ 7)) = false) : chkB m F n G k = false := by
  refine Bool.eq_false_iff.2 fun hc => ?_
  rw [chkB_iff] at hc
  simp [lo, hi] at h hc
  omega
theorem off_h2 (m : Mg) (F G : Nat → Int) (n k : Nat) (h : (decide (0 ≤ m.tw) && decide (m.tw ≤ 7)) = false) : chkB m F n G k = false := by
  refine Bool.eq_false_iff.2 fun hc => ?_
  rw [chkB_iff] at hc
  simp [lo, hi] at h hc
  omega
theorem off_h3 (m : Mg) (F G : Nat → Int) (n k : Nat) (h : (m.fr == m.tw) = true) : chkB m F n G k = false := by
  refine Bool.eq_false_iff.2 fun hc => ?_
  rw [chkB_iff] at hc
  simp [lo, hi] at h hc
  omega
theorem off_h4 (m : Mg) (F G : Nat → Int) (n k : Nat) (h : (decide (1 ≤ m.fi) && decide (m.fi ≤ 1073741824)) = false) : chkB m F n G k = false := by
  refine Bool.eq_false_iff.2 fun hc => ?_
  rw [chkB_iff] at hc
  simp [lo, hi] at h hc
  omega
theorem off_ti (m : Mg) (F G : Nat → Int) (n k : Nat) (hk : m.kd ≠ 1) (h : (decide (1 ≤ m.ti) && decide (m.ti ≤ 1073741824)) = false) : chkB m F n G k = false := by
  refine Bool.eq_false_iff.2 fun hc => ?_
  rw [chkB_iff] at hc
  simp [lo, hi, hk] at h hc
  omega
theorem off_tp (m : Mg) (F G : Nat → Int) (n k : Nat) (hk : m.kd ≠ 1) (h : (decide (0 ≤ m.tp) && decide (m.tp ≤ 3)) = false) : chkB m F n G k = false := by
  refine Bool.eq_false_iff.2 fun hc => ?_
  rw [chkB_iff] at hc
  simp [lo, hi, hk] at h hc
  omega
theorem all_1 (m : Mg) (F G : Nat → Int) (n k : Nat) (hk : m.kd = 1) (_ : (decide (1 ≤ m.kd) && decide (m.kd ≤ 13)) = true) (h1 : (decide (0 ≤ m.fr) && decide (m.fr ≤ 7)) = true) (h2 : (decide (0 ≤ m.tw) && decide (m.tw ≤ 7)) = true) (h3 : (m.fr == m.tw) = false) (h4 : (decide (1 ≤ m.fi) && decide (m.fi ≤ 1073741824)) = true)  : samB { kd := m.kd, fr := m.fr, fi := m.fi, tw := m.tw, ti := 0, tp := 0, ep := 0, sq := 0, la := 0, va := 0, no := 0, ic := 0, ct := 0, hp := 0 } noF 0 noF 0 m F n G k = chkB m F n G k := by
  rw [Bool.eq_iff_iff, samB_iff, chkB_iff]
  simp at h1 h2 h3 h4
  simp [lo, hi, hk, lisB]
  omega
theorem off_2_0 (m : Mg) (F G : Nat → Int) (n k : Nat) (hk : m.kd = 2) (h : (decide (0 ≤ m.ep) && decide (m.ep ≤ 1073741824)) = false) : chkB m F n G k = false := by
  refine Bool.eq_false_iff.2 fun hc => ?_
  rw [chkB_iff] at hc
  simp [lo, hi, hk, lisB] at h hc
  omega
theorem all_2 (m : Mg) (F G : Nat → Int) (n k : Nat) (hk : m.kd = 2) (_ : (decide (1 ≤ m.kd) && decide (m.kd ≤ 13)) = true) (h1 : (decide (0 ≤ m.fr) && decide (m.fr ≤ 7)) = true) (h2 : (decide (0 ≤ m.tw) && decide (m.tw ≤ 7)) = true) (h3 : (m.fr == m.tw) = false) (h4 : (decide (1 ≤ m.fi) && decide (m.fi ≤ 1073741824)) = true) (h5 : (decide (1 ≤ m.ti) && decide (m.ti ≤ 1073741824)) = true) (h6 : (decide (0 ≤ m.tp) && decide (m.tp ≤ 3)) = true) (t0 : (decide (0 ≤ m.ep) && decide (m.ep ≤ 1073741824)) = true) : samB { kd := m.kd, fr := m.fr, fi := m.fi, tw := m.tw, ti := m.ti, tp := m.tp, ep := m.ep, sq := 0, la := 0, va := 0, no := 0, ic := 0, ct := 0, hp := 0 } noF 0 noF 0 m F n G k = chkB m F n G k := by
  rw [Bool.eq_iff_iff, samB_iff, chkB_iff]
  simp at h1 h2 h3 h4 h5 h6 t0
  simp [lo, hi, hk, lisB]
  omega
theorem off_3_0 (m : Mg) (F G : Nat → Int) (n k : Nat) (hk : m.kd = 3) (h : (decide (0 ≤ m.ep) && decide (m.ep ≤ 1073741824)) = false) : chkB m F n G k = false := by
  refine Bool.eq_false_iff.2 fun hc => ?_
  rw [chkB_iff] at hc
  simp [lo, hi, hk, lisB] at h hc
  omega
theorem off_3_1 (m : Mg) (F G : Nat → Int) (n k : Nat) (hk : m.kd = 3) (h : (decide (1 ≤ m.sq) && decide (m.sq ≤ 1073741824)) = false) : chkB m F n G k = false := by
  refine Bool.eq_false_iff.2 fun hc => ?_
  rw [chkB_iff] at hc
  simp [lo, hi, hk, lisB] at h hc
  omega
theorem off_3_2 (m : Mg) (F G : Nat → Int) (n k : Nat) (hk : m.kd = 3) (h : (decide (0 ≤ m.la) && decide (m.la ≤ 1073741824)) = false) : chkB m F n G k = false := by
  refine Bool.eq_false_iff.2 fun hc => ?_
  rw [chkB_iff] at hc
  simp [lo, hi, hk, lisB] at h hc
  omega
theorem off_3_3 (m : Mg) (F G : Nat → Int) (n k : Nat) (hk : m.kd = 3) (h : decide (0 < n) = false) : chkB m F n G k = false := by
  refine Bool.eq_false_iff.2 fun hc => ?_
  rw [chkB_iff] at hc
  simp [lo, hi, hk, lisB] at h hc
  omega
theorem off_3_4 (m : Mg) (F G : Nat → Int) (n k : Nat) (hk : m.kd = 3) (h : fewB F n = false) : chkB m F n G k = false := by
  refine Bool.eq_false_iff.2 fun hc => ?_
  rw [chkB_iff] at hc
  simp [lo, hi, hk, lisB, h] at hc
theorem off_3_5 (m : Mg) (F G : Nat → Int) (n k : Nat) (hk : m.kd = 3) (h : unB F n = false) : chkB m F n G k = false := by
  refine Bool.eq_false_iff.2 fun hc => ?_
  rw [chkB_iff] at hc
  simp [lo, hi, hk, lisB, h] at hc
theorem off_3_6 (m : Mg) (F G : Nat → Int) (n k : Nat) (hk : m.kd = 3) (h : (F 0 == m.fr) = false) : chkB m F n G k = false := by
  refine Bool.eq_false_iff.2 fun hc => ?_
  rw [chkB_iff] at hc
  simp [lo, hi, hk, lisB] at h hc
  omega
theorem all_3 (m : Mg) (F G : Nat → Int) (n k : Nat) (hk : m.kd = 3) (_ : (decide (1 ≤ m.kd) && decide (m.kd ≤ 13)) = true) (h1 : (decide (0 ≤ m.fr) && decide (m.fr ≤ 7)) = true) (h2 : (decide (0 ≤ m.tw) && decide (m.tw ≤ 7)) = true) (h3 : (m.fr == m.tw) = false) (h4 : (decide (1 ≤ m.fi) && decide (m.fi ≤ 1073741824)) = true) (h5 : (decide (1 ≤ m.ti) && decide (m.ti ≤ 1073741824)) = true) (h6 : (decide (0 ≤ m.tp) && decide (m.tp ≤ 3)) = true) (t0 : (decide (0 ≤ m.ep) && decide (m.ep ≤ 1073741824)) = true) (t1 : (decide (1 ≤ m.sq) && decide (m.sq ≤ 1073741824)) = true) (t2 : (decide (0 ≤ m.la) && decide (m.la ≤ 1073741824)) = true) (t3 : decide (0 < n) = true) (t4 : fewB F n = true) (t5 : unB F n = true) (t6 : (F 0 == m.fr) = true) : samB { kd := m.kd, fr := m.fr, fi := m.fi, tw := m.tw, ti := m.ti, tp := m.tp, ep := m.ep, sq := m.sq, la := m.la, va := 0, no := 0, ic := 0, ct := 0, hp := 0 } F n noF 0 m F n G k = chkB m F n G k := by
  rw [Bool.eq_iff_iff, samB_iff, chkB_iff]
  simp at h1 h2 h3 h4 h5 h6 t0 t1 t2 t3 t6
  simp [lo, hi, hk, lisB, t4, t5]
  omega
theorem off_4_0 (m : Mg) (F G : Nat → Int) (n k : Nat) (hk : m.kd = 4) (h : (decide (0 ≤ m.no) && decide (m.no ≤ 7)) = false) : chkB m F n G k = false := by
  refine Bool.eq_false_iff.2 fun hc => ?_
  rw [chkB_iff] at hc
  simp [lo, hi, hk, lisB] at h hc
  omega
theorem off_4_1 (m : Mg) (F G : Nat → Int) (n k : Nat) (hk : m.kd = 4) (h : (m.no != m.fr) = false) : chkB m F n G k = false := by
  refine Bool.eq_false_iff.2 fun hc => ?_
  rw [chkB_iff] at hc
  simp [lo, hi, hk, lisB] at h hc
  omega
theorem off_4_2 (m : Mg) (F G : Nat → Int) (n k : Nat) (hk : m.kd = 4) (h : (m.no != m.tw) = false) : chkB m F n G k = false := by
  refine Bool.eq_false_iff.2 fun hc => ?_
  rw [chkB_iff] at hc
  simp [lo, hi, hk, lisB] at h hc
  omega
theorem all_4 (m : Mg) (F G : Nat → Int) (n k : Nat) (hk : m.kd = 4) (_ : (decide (1 ≤ m.kd) && decide (m.kd ≤ 13)) = true) (h1 : (decide (0 ≤ m.fr) && decide (m.fr ≤ 7)) = true) (h2 : (decide (0 ≤ m.tw) && decide (m.tw ≤ 7)) = true) (h3 : (m.fr == m.tw) = false) (h4 : (decide (1 ≤ m.fi) && decide (m.fi ≤ 1073741824)) = true) (h5 : (decide (1 ≤ m.ti) && decide (m.ti ≤ 1073741824)) = true) (h6 : (decide (0 ≤ m.tp) && decide (m.tp ≤ 3)) = true) (t0 : (decide (0 ≤ m.no) && decide (m.no ≤ 7)) = true) (t1 : (m.no != m.fr) = true) (t2 : (m.no != m.tw) = true) : samB { kd := m.kd, fr := m.fr, fi := m.fi, tw := m.tw, ti := m.ti, tp := m.tp, ep := 0, sq := 0, la := 0, va := 0, no := m.no, ic := 0, ct := 0, hp := 0 } noF 0 noF 0 m F n G k = chkB m F n G k := by
  rw [Bool.eq_iff_iff, samB_iff, chkB_iff]
  simp at h1 h2 h3 h4 h5 h6 t0 t1 t2
  simp [lo, hi, hk, lisB]
  omega
theorem all_5 (m : Mg) (F G : Nat → Int) (n k : Nat) (hk : m.kd = 5) (_ : (decide (1 ≤ m.kd) && decide (m.kd ≤ 13)) = true) (h1 : (decide (0 ≤ m.fr) && decide (m.fr ≤ 7)) = true) (h2 : (decide (0 ≤ m.tw) && decide (m.tw ≤ 7)) = true) (h3 : (m.fr == m.tw) = false) (h4 : (decide (1 ≤ m.fi) && decide (m.fi ≤ 1073741824)) = true) (h5 : (decide (1 ≤ m.ti) && decide (m.ti ≤ 1073741824)) = true) (h6 : (decide (0 ≤ m.tp) && decide (m.tp ≤ 3)) = true)  : samB { kd := m.kd, fr := m.fr, fi := m.fi, tw := m.tw, ti := m.ti, tp := m.tp, ep := 0, sq := 0, la := 0, va := 0, no := 0, ic := 0, ct := 0, hp := 0 } noF 0 noF 0 m F n G k = chkB m F n G k := by
  rw [Bool.eq_iff_iff, samB_iff, chkB_iff]
  simp at h1 h2 h3 h4 h5 h6
  simp [lo, hi, hk, lisB]
  omega
theorem all_6 (m : Mg) (F G : Nat → Int) (n k : Nat) (hk : m.kd = 6) (_ : (decide (1 ≤ m.kd) && decide (m.kd ≤ 13)) = true) (h1 : (decide (0 ≤ m.fr) && decide (m.fr ≤ 7)) = true) (h2 : (decide (0 ≤ m.tw) && decide (m.tw ≤ 7)) = true) (h3 : (m.fr == m.tw) = false) (h4 : (decide (1 ≤ m.fi) && decide (m.fi ≤ 1073741824)) = true) (h5 : (decide (1 ≤ m.ti) && decide (m.ti ≤ 1073741824)) = true) (h6 : (decide (0 ≤ m.tp) && decide (m.tp ≤ 3)) = true)  : samB { kd := m.kd, fr := m.fr, fi := m.fi, tw := m.tw, ti := m.ti, tp := m.tp, ep := 0, sq := 0, la := 0, va := 0, no := 0, ic := 0, ct := 0, hp := 0 } noF 0 noF 0 m F n G k = chkB m F n G k := by
  rw [Bool.eq_iff_iff, samB_iff, chkB_iff]
  simp at h1 h2 h3 h4 h5 h6
  simp [lo, hi, hk, lisB]
  omega
theorem off_7_0 (m : Mg) (F G : Nat → Int) (n k : Nat) (hk : m.kd = 7) (h : (decide (1 ≤ m.ep) && decide (m.ep ≤ 1073741824)) = false) : chkB m F n G k = false := by
  refine Bool.eq_false_iff.2 fun hc => ?_
  rw [chkB_iff] at hc
  simp [lo, hi, hk, lisB] at h hc
  omega
theorem off_7_1 (m : Mg) (F G : Nat → Int) (n k : Nat) (hk : m.kd = 7) (h : (decide (1 ≤ m.sq) && decide (m.sq ≤ 1073741824)) = false) : chkB m F n G k = false := by
  refine Bool.eq_false_iff.2 fun hc => ?_
  rw [chkB_iff] at hc
  simp [lo, hi, hk, lisB] at h hc
  omega
theorem off_7_2 (m : Mg) (F G : Nat → Int) (n k : Nat) (hk : m.kd = 7) (h : (decide (0 ≤ m.va) && decide (m.va ≤ 2147483647)) = false) : chkB m F n G k = false := by
  refine Bool.eq_false_iff.2 fun hc => ?_
  rw [chkB_iff] at hc
  simp [lo, hi, hk, lisB] at h hc
  omega
theorem all_7 (m : Mg) (F G : Nat → Int) (n k : Nat) (hk : m.kd = 7) (_ : (decide (1 ≤ m.kd) && decide (m.kd ≤ 13)) = true) (h1 : (decide (0 ≤ m.fr) && decide (m.fr ≤ 7)) = true) (h2 : (decide (0 ≤ m.tw) && decide (m.tw ≤ 7)) = true) (h3 : (m.fr == m.tw) = false) (h4 : (decide (1 ≤ m.fi) && decide (m.fi ≤ 1073741824)) = true) (h5 : (decide (1 ≤ m.ti) && decide (m.ti ≤ 1073741824)) = true) (h6 : (decide (0 ≤ m.tp) && decide (m.tp ≤ 3)) = true) (t0 : (decide (1 ≤ m.ep) && decide (m.ep ≤ 1073741824)) = true) (t1 : (decide (1 ≤ m.sq) && decide (m.sq ≤ 1073741824)) = true) (t2 : (decide (0 ≤ m.va) && decide (m.va ≤ 2147483647)) = true) : samB { kd := m.kd, fr := m.fr, fi := m.fi, tw := m.tw, ti := m.ti, tp := m.tp, ep := m.ep, sq := m.sq, la := 0, va := m.va, no := 0, ic := 0, ct := 0, hp := 0 } noF 0 noF 0 m F n G k = chkB m F n G k := by
  rw [Bool.eq_iff_iff, samB_iff, chkB_iff]
  simp at h1 h2 h3 h4 h5 h6 t0 t1 t2
  simp [lo, hi, hk, lisB]
  omega
theorem off_8_0 (m : Mg) (F G : Nat → Int) (n k : Nat) (hk : m.kd = 8) (h : (decide (1 ≤ m.ep) && decide (m.ep ≤ 1073741824)) = false) : chkB m F n G k = false := by
  refine Bool.eq_false_iff.2 fun hc => ?_
  rw [chkB_iff] at hc
  simp [lo, hi, hk, lisB] at h hc
  omega
theorem off_8_1 (m : Mg) (F G : Nat → Int) (n k : Nat) (hk : m.kd = 8) (h : (decide (1 ≤ m.sq) && decide (m.sq ≤ 1073741824)) = false) : chkB m F n G k = false := by
  refine Bool.eq_false_iff.2 fun hc => ?_
  rw [chkB_iff] at hc
  simp [lo, hi, hk, lisB] at h hc
  omega
theorem all_8 (m : Mg) (F G : Nat → Int) (n k : Nat) (hk : m.kd = 8) (_ : (decide (1 ≤ m.kd) && decide (m.kd ≤ 13)) = true) (h1 : (decide (0 ≤ m.fr) && decide (m.fr ≤ 7)) = true) (h2 : (decide (0 ≤ m.tw) && decide (m.tw ≤ 7)) = true) (h3 : (m.fr == m.tw) = false) (h4 : (decide (1 ≤ m.fi) && decide (m.fi ≤ 1073741824)) = true) (h5 : (decide (1 ≤ m.ti) && decide (m.ti ≤ 1073741824)) = true) (h6 : (decide (0 ≤ m.tp) && decide (m.tp ≤ 3)) = true) (t0 : (decide (1 ≤ m.ep) && decide (m.ep ≤ 1073741824)) = true) (t1 : (decide (1 ≤ m.sq) && decide (m.sq ≤ 1073741824)) = true) : samB { kd := m.kd, fr := m.fr, fi := m.fi, tw := m.tw, ti := m.ti, tp := m.tp, ep := m.ep, sq := m.sq, la := 0, va := 0, no := 0, ic := 0, ct := 0, hp := 0 } noF 0 noF 0 m F n G k = chkB m F n G k := by
  rw [Bool.eq_iff_iff, samB_iff, chkB_iff]
  simp at h1 h2 h3 h4 h5 h6 t0 t1
  simp [lo, hi, hk, lisB]
  omega
theorem off_9_0 (m : Mg) (F G : Nat → Int) (n k : Nat) (hk : m.kd = 9) (h : (decide (1 ≤ m.ep) && decide (m.ep ≤ 1073741824)) = false) : chkB m F n G k = false := by
  refine Bool.eq_false_iff.2 fun hc => ?_
  rw [chkB_iff] at hc
  simp [lo, hi, hk, lisB] at h hc
  omega
theorem off_9_1 (m : Mg) (F G : Nat → Int) (n k : Nat) (hk : m.kd = 9) (h : (decide (1 ≤ m.sq) && decide (m.sq ≤ 1073741824)) = false) : chkB m F n G k = false := by
  refine Bool.eq_false_iff.2 fun hc => ?_
  rw [chkB_iff] at hc
  simp [lo, hi, hk, lisB] at h hc
  omega
theorem off_9_2 (m : Mg) (F G : Nat → Int) (n k : Nat) (hk : m.kd = 9) (h : (decide (m.sq ≤ m.la) && decide (m.la ≤ 1073741824)) = false) : chkB m F n G k = false := by
  refine Bool.eq_false_iff.2 fun hc => ?_
  rw [chkB_iff] at hc
  simp [lo, hi, hk, lisB] at h hc
  omega
theorem all_9 (m : Mg) (F G : Nat → Int) (n k : Nat) (hk : m.kd = 9) (_ : (decide (1 ≤ m.kd) && decide (m.kd ≤ 13)) = true) (h1 : (decide (0 ≤ m.fr) && decide (m.fr ≤ 7)) = true) (h2 : (decide (0 ≤ m.tw) && decide (m.tw ≤ 7)) = true) (h3 : (m.fr == m.tw) = false) (h4 : (decide (1 ≤ m.fi) && decide (m.fi ≤ 1073741824)) = true) (h5 : (decide (1 ≤ m.ti) && decide (m.ti ≤ 1073741824)) = true) (h6 : (decide (0 ≤ m.tp) && decide (m.tp ≤ 3)) = true) (t0 : (decide (1 ≤ m.ep) && decide (m.ep ≤ 1073741824)) = true) (t1 : (decide (1 ≤ m.sq) && decide (m.sq ≤ 1073741824)) = true) (t2 : (decide (m.sq ≤ m.la) && decide (m.la ≤ 1073741824)) = true) : samB { kd := m.kd, fr := m.fr, fi := m.fi, tw := m.tw, ti := m.ti, tp := m.tp, ep := m.ep, sq := m.sq, la := m.la, va := 0, no := 0, ic := 0, ct := 0, hp := 0 } noF 0 noF 0 m F n G k = chkB m F n G k := by
  rw [Bool.eq_iff_iff, samB_iff, chkB_iff]
  simp at h1 h2 h3 h4 h5 h6 t0 t1 t2
  simp [lo, hi, hk, lisB]
  omega
theorem off_10_0 (m : Mg) (F G : Nat → Int) (n k : Nat) (hk : m.kd = 10) (h : (decide (0 ≤ m.no) && decide (m.no ≤ 7)) = false) : chkB m F n G k = false := by
  refine Bool.eq_false_iff.2 fun hc => ?_
  rw [chkB_iff] at hc
  simp [lo, hi, hk, lisB] at h hc
  omega
theorem off_10_1 (m : Mg) (F G : Nat → Int) (n k : Nat) (hk : m.kd = 10) (h : (decide (1 ≤ m.ic) && decide (m.ic ≤ 1073741824)) = false) : chkB m F n G k = false := by
  refine Bool.eq_false_iff.2 fun hc => ?_
  rw [chkB_iff] at hc
  simp [lo, hi, hk, lisB] at h hc
  omega
theorem off_10_2 (m : Mg) (F G : Nat → Int) (n k : Nat) (hk : m.kd = 10) (h : (decide (1 ≤ m.ct) && decide (m.ct ≤ 1073741824)) = false) : chkB m F n G k = false := by
  refine Bool.eq_false_iff.2 fun hc => ?_
  rw [chkB_iff] at hc
  simp [lo, hi, hk, lisB] at h hc
  omega
theorem off_10_3 (m : Mg) (F G : Nat → Int) (n k : Nat) (hk : m.kd = 10) (h : (decide (0 ≤ m.va) && decide (m.va ≤ 2147483647)) = false) : chkB m F n G k = false := by
  refine Bool.eq_false_iff.2 fun hc => ?_
  rw [chkB_iff] at hc
  simp [lo, hi, hk, lisB] at h hc
  omega
theorem off_10_4 (m : Mg) (F G : Nat → Int) (n k : Nat) (hk : m.kd = 10) (h : (decide (0 ≤ m.hp) && decide (m.hp ≤ 16)) = false) : chkB m F n G k = false := by
  refine Bool.eq_false_iff.2 fun hc => ?_
  rw [chkB_iff] at hc
  simp [lo, hi, hk, lisB] at h hc
  omega
theorem all_10 (m : Mg) (F G : Nat → Int) (n k : Nat) (hk : m.kd = 10) (_ : (decide (1 ≤ m.kd) && decide (m.kd ≤ 13)) = true) (h1 : (decide (0 ≤ m.fr) && decide (m.fr ≤ 7)) = true) (h2 : (decide (0 ≤ m.tw) && decide (m.tw ≤ 7)) = true) (h3 : (m.fr == m.tw) = false) (h4 : (decide (1 ≤ m.fi) && decide (m.fi ≤ 1073741824)) = true) (h5 : (decide (1 ≤ m.ti) && decide (m.ti ≤ 1073741824)) = true) (h6 : (decide (0 ≤ m.tp) && decide (m.tp ≤ 3)) = true) (t0 : (decide (0 ≤ m.no) && decide (m.no ≤ 7)) = true) (t1 : (decide (1 ≤ m.ic) && decide (m.ic ≤ 1073741824)) = true) (t2 : (decide (1 ≤ m.ct) && decide (m.ct ≤ 1073741824)) = true) (t3 : (decide (0 ≤ m.va) && decide (m.va ≤ 2147483647)) = true) (t4 : (decide (0 ≤ m.hp) && decide (m.hp ≤ 16)) = true) : samB { kd := m.kd, fr := m.fr, fi := m.fi, tw := m.tw, ti := m.ti, tp := m.tp, ep := 0, sq := 0, la := 0, va := m.va, no := m.no, ic := m.ic, ct := m.ct, hp := m.hp } noF 0 noF 0 m F n G k = chkB m F n G k := by
  rw [Bool.eq_iff_iff, samB_iff, chkB_iff]
  simp at h1 h2 h3 h4 h5 h6 t0 t1 t2 t3 t4
  simp [lo, hi, hk, lisB]
  omega
theorem off_11_0 (m : Mg) (F G : Nat → Int) (n k : Nat) (hk : m.kd = 11) (h : (decide (0 ≤ m.no) && decide (m.no ≤ 7)) = false) : chkB m F n G k = false := by
  refine Bool.eq_false_iff.2 fun hc => ?_
  rw [chkB_iff] at hc
  simp [lo, hi, hk, lisB] at h hc
  omega
theorem off_11_1 (m : Mg) (F G : Nat → Int) (n k : Nat) (hk : m.kd = 11) (h : (decide (1 ≤ m.ic) && decide (m.ic ≤ 1073741824)) = false) : chkB m F n G k = false := by
  refine Bool.eq_false_iff.2 fun hc => ?_
  rw [chkB_iff] at hc
  simp [lo, hi, hk, lisB] at h hc
  omega
theorem off_11_2 (m : Mg) (F G : Nat → Int) (n k : Nat) (hk : m.kd = 11) (h : (decide (1 ≤ m.ct) && decide (m.ct ≤ 40)) = false) : chkB m F n G k = false := by
  refine Bool.eq_false_iff.2 fun hc => ?_
  rw [chkB_iff] at hc
  simp [lo, hi, hk, lisB] at h hc
  omega
theorem off_11_3 (m : Mg) (F G : Nat → Int) (n k : Nat) (hk : m.kd = 11) (h : (decide (0 ≤ m.va) && decide (m.va ≤ 2147483647)) = false) : chkB m F n G k = false := by
  refine Bool.eq_false_iff.2 fun hc => ?_
  rw [chkB_iff] at hc
  simp [lo, hi, hk, lisB] at h hc
  omega
theorem off_11_4 (m : Mg) (F G : Nat → Int) (n k : Nat) (hk : m.kd = 11) (h : (decide (0 ≤ m.hp) && decide (m.hp ≤ 16)) = false) : chkB m F n G k = false := by
  refine Bool.eq_false_iff.2 fun hc => ?_
  rw [chkB_iff] at hc
  simp [lo, hi, hk, lisB] at h hc
  omega
theorem off_11_5 (m : Mg) (F G : Nat → Int) (n k : Nat) (hk : m.kd = 11) (h : fewB F n = false) : chkB m F n G k = false := by
  refine Bool.eq_false_iff.2 fun hc => ?_
  rw [chkB_iff] at hc
  simp [lo, hi, hk, lisB, h] at hc
theorem off_11_6 (m : Mg) (F G : Nat → Int) (n k : Nat) (hk : m.kd = 11) (h : fewB G k = false) : chkB m F n G k = false := by
  refine Bool.eq_false_iff.2 fun hc => ?_
  rw [chkB_iff] at hc
  simp [lo, hi, hk, lisB, h] at hc
theorem off_11_7 (m : Mg) (F G : Nat → Int) (n k : Nat) (hk : m.kd = 11) (h : unB (cat F n G) (n + k) = false) : chkB m F n G k = false := by
  refine Bool.eq_false_iff.2 fun hc => ?_
  rw [chkB_iff] at hc
  simp [lo, hi, hk, lisB, h] at hc
theorem all_11 (m : Mg) (F G : Nat → Int) (n k : Nat) (hk : m.kd = 11) (_ : (decide (1 ≤ m.kd) && decide (m.kd ≤ 13)) = true) (h1 : (decide (0 ≤ m.fr) && decide (m.fr ≤ 7)) = true) (h2 : (decide (0 ≤ m.tw) && decide (m.tw ≤ 7)) = true) (h3 : (m.fr == m.tw) = false) (h4 : (decide (1 ≤ m.fi) && decide (m.fi ≤ 1073741824)) = true) (h5 : (decide (1 ≤ m.ti) && decide (m.ti ≤ 1073741824)) = true) (h6 : (decide (0 ≤ m.tp) && decide (m.tp ≤ 3)) = true) (t0 : (decide (0 ≤ m.no) && decide (m.no ≤ 7)) = true) (t1 : (decide (1 ≤ m.ic) && decide (m.ic ≤ 1073741824)) = true) (t2 : (decide (1 ≤ m.ct) && decide (m.ct ≤ 40)) = true) (t3 : (decide (0 ≤ m.va) && decide (m.va ≤ 2147483647)) = true) (t4 : (decide (0 ≤ m.hp) && decide (m.hp ≤ 16)) = true) (t5 : fewB F n = true) (t6 : fewB G k = true) (t7 : unB (cat F n G) (n + k) = true) : samB { kd := m.kd, fr := m.fr, fi := m.fi, tw := m.tw, ti := m.ti, tp := m.tp, ep := 0, sq := 0, la := 0, va := m.va, no := m.no, ic := m.ic, ct := m.ct, hp := m.hp } F n G k m F n G k = chkB m F n G k := by
  rw [Bool.eq_iff_iff, samB_iff, chkB_iff]
  simp at h1 h2 h3 h4 h5 h6 t0 t1 t2 t3 t4
  simp [lo, hi, hk, lisB, t5, t6, t7]
  omega
theorem off_12_0 (m : Mg) (F G : Nat → Int) (n k : Nat) (hk : m.kd = 12) (h : (decide (1 ≤ m.ct) && decide (m.ct ≤ 40)) = false) : chkB m F n G k = false := by
  refine Bool.eq_false_iff.2 fun hc => ?_
  rw [chkB_iff] at hc
  simp [lo, hi, hk, lisB] at h hc
  omega
theorem off_12_1 (m : Mg) (F G : Nat → Int) (n k : Nat) (hk : m.kd = 12) (h : (decide (0 ≤ m.va) && decide (m.va ≤ 7)) = false) : chkB m F n G k = false := by
  refine Bool.eq_false_iff.2 fun hc => ?_
  rw [chkB_iff] at hc
  simp [lo, hi, hk, lisB] at h hc
  omega
theorem all_12 (m : Mg) (F G : Nat → Int) (n k : Nat) (hk : m.kd = 12) (_ : (decide (1 ≤ m.kd) && decide (m.kd ≤ 13)) = true) (h1 : (decide (0 ≤ m.fr) && decide (m.fr ≤ 7)) = true) (h2 : (decide (0 ≤ m.tw) && decide (m.tw ≤ 7)) = true) (h3 : (m.fr == m.tw) = false) (h4 : (decide (1 ≤ m.fi) && decide (m.fi ≤ 1073741824)) = true) (h5 : (decide (1 ≤ m.ti) && decide (m.ti ≤ 1073741824)) = true) (h6 : (decide (0 ≤ m.tp) && decide (m.tp ≤ 3)) = true) (t0 : (decide (1 ≤ m.ct) && decide (m.ct ≤ 40)) = true) (t1 : (decide (0 ≤ m.va) && decide (m.va ≤ 7)) = true) : samB { kd := m.kd, fr := m.fr, fi := m.fi, tw := m.tw, ti := m.ti, tp := m.tp, ep := 0, sq := 0, la := 0, va := m.va, no := 0, ic := 0, ct := m.ct, hp := 0 } noF 0 noF 0 m F n G k = chkB m F n G k := by
  rw [Bool.eq_iff_iff, samB_iff, chkB_iff]
  simp at h1 h2 h3 h4 h5 h6 t0 t1
  simp [lo, hi, hk, lisB]
  omega
theorem off_13_0 (m : Mg) (F G : Nat → Int) (n k : Nat) (hk : m.kd = 13) (h : (decide (1 ≤ m.ct) && decide (m.ct ≤ 40)) = false) : chkB m F n G k = false := by
  refine Bool.eq_false_iff.2 fun hc => ?_
  rw [chkB_iff] at hc
  simp [lo, hi, hk, lisB] at h hc
  omega
theorem all_13 (m : Mg) (F G : Nat → Int) (n k : Nat) (hk : m.kd = 13) (_ : (decide (1 ≤ m.kd) && decide (m.kd ≤ 13)) = true) (h1 : (decide (0 ≤ m.fr) && decide (m.fr ≤ 7)) = true) (h2 : (decide (0 ≤ m.tw) && decide (m.tw ≤ 7)) = true) (h3 : (m.fr == m.tw) = false) (h4 : (decide (1 ≤ m.fi) && decide (m.fi ≤ 1073741824)) = true) (h5 : (decide (1 ≤ m.ti) && decide (m.ti ≤ 1073741824)) = true) (h6 : (decide (0 ≤ m.tp) && decide (m.tp ≤ 3)) = true) (t0 : (decide (1 ≤ m.ct) && decide (m.ct ≤ 40)) = true) : samB { kd := m.kd, fr := m.fr, fi := m.fi, tw := m.tw, ti := m.ti, tp := m.tp, ep := 0, sq := 0, la := 0, va := 0, no := 0, ic := 0, ct := m.ct, hp := 0 } noF 0 noF 0 m F n G k = chkB m F n G k := by
  rw [Bool.eq_iff_iff, samB_iff, chkB_iff]
  simp at h1 h2 h3 h4 h5 h6 t0
  simp [lo, hi, hk, lisB]
  omega
end Go.Proofs.Ytmcmiojidgdjpaa
