/- The page's Msg: what its ways answer is what Check answers. -/
import Derived.Test.YtmcmiojidgdjpaaBn21
namespace Go.Proofs.Ytmcmiojidgdjpaa
open Go.RowKit

theorem b5 (x0 x1 x2 x3 x4 : Bool) (h : (!(x0 && x1 && x2 && !x3 && x4)) = false) : x0 = true ∧ x1 = true ∧ x2 = true ∧ x3 = false ∧ x4 = true := by
  revert h
  cases x0 <;> cases x1 <;> cases x2 <;> cases x3 <;> cases x4 <;> simp
theorem off_head (m : Mg) (F G : Nat → Int) (n k : Nat) (h : (!((decide (1 ≤ m.kd) && decide (m.kd ≤ 13)) && (decide (0 ≤ m.fr) && decide (m.fr ≤ 7)) && (decide (0 ≤ m.tw) && decide (m.tw ≤ 7)) && !(m.fr == m.tw) && (decide (1 ≤ m.fi) && decide (m.fi ≤ 1073741824)))) = true) : chkB m F n G k = false := by
  cases e0 : (decide (1 ≤ m.kd) && decide (m.kd ≤ 13)) with
  | false => exact off_h0 m F G n k e0
  | true =>
    cases e1 : (decide (0 ≤ m.fr) && decide (m.fr ≤ 7)) with
    | false => exact off_h1 m F G n k e1
    | true =>
      cases e2 : (decide (0 ≤ m.tw) && decide (m.tw ≤ 7)) with
      | false => exact off_h2 m F G n k e2
      | true =>
        cases e3 : (m.fr == m.tw) with
        | true => exact off_h3 m F G n k e3
        | false =>
          cases e4 : (decide (1 ≤ m.fi) && decide (m.fi ≤ 1073741824)) with
          | false => exact off_h4 m F G n k e4
          | true =>
            simp [e0, e1, e2, e3, e4] at h
theorem off_tt (m : Mg) (F G : Nat → Int) (n k : Nat) (hk : m.kd ≠ 1) (h : ((decide (1 ≤ m.ti) && decide (m.ti ≤ 1073741824)) && (decide (0 ≤ m.tp) && decide (m.tp ≤ 3))) = false) : chkB m F n G k = false := by
  cases e5 : (decide (1 ≤ m.ti) && decide (m.ti ≤ 1073741824)) with
  | false => exact off_ti m F G n k hk e5
  | true =>
    cases e6 : (decide (0 ≤ m.tp) && decide (m.tp ≤ 3)) with
    | false => exact off_tp m F G n k hk e6
    | true => simp [e5, e6] at h
theorem fin_1 (m : Mg) (F G : Nat → Int) (n k : Nat) (hk : m.kd = 1) (h0 : (decide (1 ≤ m.kd) && decide (m.kd ≤ 13)) = true) (h1 : (decide (0 ≤ m.fr) && decide (m.fr ≤ 7)) = true) (h2 : (decide (0 ≤ m.tw) && decide (m.tw ≤ 7)) = true) (h3 : (m.fr == m.tw) = false) (h4 : (decide (1 ≤ m.fi) && decide (m.fi ≤ 1073741824)) = true) : ((true) && samB { kd := m.kd, fr := m.fr, fi := m.fi, tw := m.tw, ti := 0, tp := 0, ep := 0, sq := 0, la := 0, va := 0, no := 0, ic := 0, ct := 0, hp := 0 } noF 0 noF 0 m F n G k) = chkB m F n G k := by
  rw [all_1 m F G n k hk h0 h1 h2 h3 h4]
  simp
theorem fin_2 (m : Mg) (F G : Nat → Int) (n k : Nat) (hk : m.kd = 2) (h0 : (decide (1 ≤ m.kd) && decide (m.kd ≤ 13)) = true) (h1 : (decide (0 ≤ m.fr) && decide (m.fr ≤ 7)) = true) (h2 : (decide (0 ≤ m.tw) && decide (m.tw ≤ 7)) = true) (h3 : (m.fr == m.tw) = false) (h4 : (decide (1 ≤ m.fi) && decide (m.fi ≤ 1073741824)) = true) (h5 : (decide (1 ≤ m.ti) && decide (m.ti ≤ 1073741824)) = true) (h6 : (decide (0 ≤ m.tp) && decide (m.tp ≤ 3)) = true) : (((decide (0 ≤ m.ep) && decide (m.ep ≤ 1073741824))) && samB { kd := m.kd, fr := m.fr, fi := m.fi, tw := m.tw, ti := m.ti, tp := m.tp, ep := m.ep, sq := 0, la := 0, va := 0, no := 0, ic := 0, ct := 0, hp := 0 } noF 0 noF 0 m F n G k) = chkB m F n G k := by
  cases t0 : (decide (0 ≤ m.ep) && decide (m.ep ≤ 1073741824)) with
  | false =>
    rw [off_2_0 m F G n k hk t0]
    simp
  | true =>
    rw [all_2 m F G n k hk h0 h1 h2 h3 h4 h5 h6 t0]
    simp
theorem fin_3 (m : Mg) (F G : Nat → Int) (n k : Nat) (hk : m.kd = 3) (h0 : (decide (1 ≤ m.kd) && decide (m.kd ≤ 13)) = true) (h1 : (decide (0 ≤ m.fr) && decide (m.fr ≤ 7)) = true) (h2 : (decide (0 ≤ m.tw) && decide (m.tw ≤ 7)) = true) (h3 : (m.fr == m.tw) = false) (h4 : (decide (1 ≤ m.fi) && decide (m.fi ≤ 1073741824)) = true) (h5 : (decide (1 ≤ m.ti) && decide (m.ti ≤ 1073741824)) = true) (h6 : (decide (0 ≤ m.tp) && decide (m.tp ≤ 3)) = true) : (((decide (0 ≤ m.ep) && decide (m.ep ≤ 1073741824)) && (decide (1 ≤ m.sq) && decide (m.sq ≤ 1073741824)) && (decide (0 ≤ m.la) && decide (m.la ≤ 1073741824)) && (decide ((0 : Int) < (n : Int))) && fewB F n && unB F n && (F 0 == m.fr)) && samB { kd := m.kd, fr := m.fr, fi := m.fi, tw := m.tw, ti := m.ti, tp := m.tp, ep := m.ep, sq := m.sq, la := m.la, va := 0, no := 0, ic := 0, ct := 0, hp := 0 } F n noF 0 m F n G k) = chkB m F n G k := by
  cases t0 : (decide (0 ≤ m.ep) && decide (m.ep ≤ 1073741824)) with
  | false =>
    rw [off_3_0 m F G n k hk t0]
    simp
  | true =>
    cases t1 : (decide (1 ≤ m.sq) && decide (m.sq ≤ 1073741824)) with
    | false =>
      rw [off_3_1 m F G n k hk t1]
      simp
    | true =>
      cases t2 : (decide (0 ≤ m.la) && decide (m.la ≤ 1073741824)) with
      | false =>
        rw [off_3_2 m F G n k hk t2]
        simp
      | true =>
        cases t3 : (decide ((0 : Int) < (n : Int))) with
        | false =>
          rw [off_3_3 m F G n k hk (by simpa using t3)]
          simp
        | true =>
          cases t4 : fewB F n with
          | false =>
            rw [off_3_4 m F G n k hk t4]
            simp
          | true =>
            cases t5 : unB F n with
            | false =>
              rw [off_3_5 m F G n k hk t5]
              simp
            | true =>
              cases t6 : (F 0 == m.fr) with
              | false =>
                rw [off_3_6 m F G n k hk t6]
                simp
              | true =>
                rw [all_3 m F G n k hk h0 h1 h2 h3 h4 h5 h6 t0 t1 t2 (by simpa using t3) t4 t5 t6]
                simp
theorem fin_4 (m : Mg) (F G : Nat → Int) (n k : Nat) (hk : m.kd = 4) (h0 : (decide (1 ≤ m.kd) && decide (m.kd ≤ 13)) = true) (h1 : (decide (0 ≤ m.fr) && decide (m.fr ≤ 7)) = true) (h2 : (decide (0 ≤ m.tw) && decide (m.tw ≤ 7)) = true) (h3 : (m.fr == m.tw) = false) (h4 : (decide (1 ≤ m.fi) && decide (m.fi ≤ 1073741824)) = true) (h5 : (decide (1 ≤ m.ti) && decide (m.ti ≤ 1073741824)) = true) (h6 : (decide (0 ≤ m.tp) && decide (m.tp ≤ 3)) = true) : (((decide (0 ≤ m.no) && decide (m.no ≤ 7)) && (m.no != m.fr) && (m.no != m.tw)) && samB { kd := m.kd, fr := m.fr, fi := m.fi, tw := m.tw, ti := m.ti, tp := m.tp, ep := 0, sq := 0, la := 0, va := 0, no := m.no, ic := 0, ct := 0, hp := 0 } noF 0 noF 0 m F n G k) = chkB m F n G k := by
  cases t0 : (decide (0 ≤ m.no) && decide (m.no ≤ 7)) with
  | false =>
    rw [off_4_0 m F G n k hk t0]
    simp
  | true =>
    cases t1 : (m.no != m.fr) with
    | false =>
      rw [off_4_1 m F G n k hk t1]
      simp
    | true =>
      cases t2 : (m.no != m.tw) with
      | false =>
        rw [off_4_2 m F G n k hk t2]
        simp
      | true =>
        rw [all_4 m F G n k hk h0 h1 h2 h3 h4 h5 h6 t0 t1 t2]
        simp
theorem fin_5 (m : Mg) (F G : Nat → Int) (n k : Nat) (hk : m.kd = 5) (h0 : (decide (1 ≤ m.kd) && decide (m.kd ≤ 13)) = true) (h1 : (decide (0 ≤ m.fr) && decide (m.fr ≤ 7)) = true) (h2 : (decide (0 ≤ m.tw) && decide (m.tw ≤ 7)) = true) (h3 : (m.fr == m.tw) = false) (h4 : (decide (1 ≤ m.fi) && decide (m.fi ≤ 1073741824)) = true) (h5 : (decide (1 ≤ m.ti) && decide (m.ti ≤ 1073741824)) = true) (h6 : (decide (0 ≤ m.tp) && decide (m.tp ≤ 3)) = true) : ((true) && samB { kd := m.kd, fr := m.fr, fi := m.fi, tw := m.tw, ti := m.ti, tp := m.tp, ep := 0, sq := 0, la := 0, va := 0, no := 0, ic := 0, ct := 0, hp := 0 } noF 0 noF 0 m F n G k) = chkB m F n G k := by
  rw [all_5 m F G n k hk h0 h1 h2 h3 h4 h5 h6]
  simp
theorem fin_6 (m : Mg) (F G : Nat → Int) (n k : Nat) (hk : m.kd = 6) (h0 : (decide (1 ≤ m.kd) && decide (m.kd ≤ 13)) = true) (h1 : (decide (0 ≤ m.fr) && decide (m.fr ≤ 7)) = true) (h2 : (decide (0 ≤ m.tw) && decide (m.tw ≤ 7)) = true) (h3 : (m.fr == m.tw) = false) (h4 : (decide (1 ≤ m.fi) && decide (m.fi ≤ 1073741824)) = true) (h5 : (decide (1 ≤ m.ti) && decide (m.ti ≤ 1073741824)) = true) (h6 : (decide (0 ≤ m.tp) && decide (m.tp ≤ 3)) = true) : ((true) && samB { kd := m.kd, fr := m.fr, fi := m.fi, tw := m.tw, ti := m.ti, tp := m.tp, ep := 0, sq := 0, la := 0, va := 0, no := 0, ic := 0, ct := 0, hp := 0 } noF 0 noF 0 m F n G k) = chkB m F n G k := by
  rw [all_6 m F G n k hk h0 h1 h2 h3 h4 h5 h6]
  simp
theorem fin_7 (m : Mg) (F G : Nat → Int) (n k : Nat) (hk : m.kd = 7) (h0 : (decide (1 ≤ m.kd) && decide (m.kd ≤ 13)) = true) (h1 : (decide (0 ≤ m.fr) && decide (m.fr ≤ 7)) = true) (h2 : (decide (0 ≤ m.tw) && decide (m.tw ≤ 7)) = true) (h3 : (m.fr == m.tw) = false) (h4 : (decide (1 ≤ m.fi) && decide (m.fi ≤ 1073741824)) = true) (h5 : (decide (1 ≤ m.ti) && decide (m.ti ≤ 1073741824)) = true) (h6 : (decide (0 ≤ m.tp) && decide (m.tp ≤ 3)) = true) : (((decide (1 ≤ m.ep) && decide (m.ep ≤ 1073741824)) && (decide (1 ≤ m.sq) && decide (m.sq ≤ 1073741824)) && (decide (0 ≤ m.va) && decide (m.va ≤ 2147483647))) && samB { kd := m.kd, fr := m.fr, fi := m.fi, tw := m.tw, ti := m.ti, tp := m.tp, ep := m.ep, sq := m.sq, la := 0, va := m.va, no := 0, ic := 0, ct := 0, hp := 0 } noF 0 noF 0 m F n G k) = chkB m F n G k := by
  cases t0 : (decide (1 ≤ m.ep) && decide (m.ep ≤ 1073741824)) with
  | false =>
    rw [off_7_0 m F G n k hk t0]
    simp
  | true =>
    cases t1 : (decide (1 ≤ m.sq) && decide (m.sq ≤ 1073741824)) with
    | false =>
      rw [off_7_1 m F G n k hk t1]
      simp
    | true =>
      cases t2 : (decide (0 ≤ m.va) && decide (m.va ≤ 2147483647)) with
      | false =>
        rw [off_7_2 m F G n k hk t2]
        simp
      | true =>
        rw [all_7 m F G n k hk h0 h1 h2 h3 h4 h5 h6 t0 t1 t2]
        simp
theorem fin_8 (m : Mg) (F G : Nat → Int) (n k : Nat) (hk : m.kd = 8) (h0 : (decide (1 ≤ m.kd) && decide (m.kd ≤ 13)) = true) (h1 : (decide (0 ≤ m.fr) && decide (m.fr ≤ 7)) = true) (h2 : (decide (0 ≤ m.tw) && decide (m.tw ≤ 7)) = true) (h3 : (m.fr == m.tw) = false) (h4 : (decide (1 ≤ m.fi) && decide (m.fi ≤ 1073741824)) = true) (h5 : (decide (1 ≤ m.ti) && decide (m.ti ≤ 1073741824)) = true) (h6 : (decide (0 ≤ m.tp) && decide (m.tp ≤ 3)) = true) : (((decide (1 ≤ m.ep) && decide (m.ep ≤ 1073741824)) && (decide (1 ≤ m.sq) && decide (m.sq ≤ 1073741824))) && samB { kd := m.kd, fr := m.fr, fi := m.fi, tw := m.tw, ti := m.ti, tp := m.tp, ep := m.ep, sq := m.sq, la := 0, va := 0, no := 0, ic := 0, ct := 0, hp := 0 } noF 0 noF 0 m F n G k) = chkB m F n G k := by
  cases t0 : (decide (1 ≤ m.ep) && decide (m.ep ≤ 1073741824)) with
  | false =>
    rw [off_8_0 m F G n k hk t0]
    simp
  | true =>
    cases t1 : (decide (1 ≤ m.sq) && decide (m.sq ≤ 1073741824)) with
    | false =>
      rw [off_8_1 m F G n k hk t1]
      simp
    | true =>
      rw [all_8 m F G n k hk h0 h1 h2 h3 h4 h5 h6 t0 t1]
      simp
theorem fin_9 (m : Mg) (F G : Nat → Int) (n k : Nat) (hk : m.kd = 9) (h0 : (decide (1 ≤ m.kd) && decide (m.kd ≤ 13)) = true) (h1 : (decide (0 ≤ m.fr) && decide (m.fr ≤ 7)) = true) (h2 : (decide (0 ≤ m.tw) && decide (m.tw ≤ 7)) = true) (h3 : (m.fr == m.tw) = false) (h4 : (decide (1 ≤ m.fi) && decide (m.fi ≤ 1073741824)) = true) (h5 : (decide (1 ≤ m.ti) && decide (m.ti ≤ 1073741824)) = true) (h6 : (decide (0 ≤ m.tp) && decide (m.tp ≤ 3)) = true) : (((decide (1 ≤ m.ep) && decide (m.ep ≤ 1073741824)) && (decide (1 ≤ m.sq) && decide (m.sq ≤ 1073741824)) && (decide (m.sq ≤ m.la) && decide (m.la ≤ 1073741824))) && samB { kd := m.kd, fr := m.fr, fi := m.fi, tw := m.tw, ti := m.ti, tp := m.tp, ep := m.ep, sq := m.sq, la := m.la, va := 0, no := 0, ic := 0, ct := 0, hp := 0 } noF 0 noF 0 m F n G k) = chkB m F n G k := by
  cases t0 : (decide (1 ≤ m.ep) && decide (m.ep ≤ 1073741824)) with
  | false =>
    rw [off_9_0 m F G n k hk t0]
    simp
  | true =>
    cases t1 : (decide (1 ≤ m.sq) && decide (m.sq ≤ 1073741824)) with
    | false =>
      rw [off_9_1 m F G n k hk t1]
      simp
    | true =>
      cases t2 : (decide (m.sq ≤ m.la) && decide (m.la ≤ 1073741824)) with
      | false =>
        rw [off_9_2 m F G n k hk t2]
        simp
      | true =>
        rw [all_9 m F G n k hk h0 h1 h2 h3 h4 h5 h6 t0 t1 t2]
        simp
theorem fin_10 (m : Mg) (F G : Nat → Int) (n k : Nat) (hk : m.kd = 10) (h0 : (decide (1 ≤ m.kd) && decide (m.kd ≤ 13)) = true) (h1 : (decide (0 ≤ m.fr) && decide (m.fr ≤ 7)) = true) (h2 : (decide (0 ≤ m.tw) && decide (m.tw ≤ 7)) = true) (h3 : (m.fr == m.tw) = false) (h4 : (decide (1 ≤ m.fi) && decide (m.fi ≤ 1073741824)) = true) (h5 : (decide (1 ≤ m.ti) && decide (m.ti ≤ 1073741824)) = true) (h6 : (decide (0 ≤ m.tp) && decide (m.tp ≤ 3)) = true) : (((decide (0 ≤ m.no) && decide (m.no ≤ 7)) && (decide (1 ≤ m.ic) && decide (m.ic ≤ 1073741824)) && (decide (1 ≤ m.ct) && decide (m.ct ≤ 1073741824)) && (decide (0 ≤ m.va) && decide (m.va ≤ 2147483647)) && (decide (0 ≤ m.hp) && decide (m.hp ≤ 16))) && samB { kd := m.kd, fr := m.fr, fi := m.fi, tw := m.tw, ti := m.ti, tp := m.tp, ep := 0, sq := 0, la := 0, va := m.va, no := m.no, ic := m.ic, ct := m.ct, hp := m.hp } noF 0 noF 0 m F n G k) = chkB m F n G k := by
  cases t0 : (decide (0 ≤ m.no) && decide (m.no ≤ 7)) with
  | false =>
    rw [off_10_0 m F G n k hk t0]
    simp
  | true =>
    cases t1 : (decide (1 ≤ m.ic) && decide (m.ic ≤ 1073741824)) with
    | false =>
      rw [off_10_1 m F G n k hk t1]
      simp
    | true =>
      cases t2 : (decide (1 ≤ m.ct) && decide (m.ct ≤ 1073741824)) with
      | false =>
        rw [off_10_2 m F G n k hk t2]
        simp
      | true =>
        cases t3 : (decide (0 ≤ m.va) && decide (m.va ≤ 2147483647)) with
        | false =>
          rw [off_10_3 m F G n k hk t3]
          simp
        | true =>
          cases t4 : (decide (0 ≤ m.hp) && decide (m.hp ≤ 16)) with
          | false =>
            rw [off_10_4 m F G n k hk t4]
            simp
          | true =>
            rw [all_10 m F G n k hk h0 h1 h2 h3 h4 h5 h6 t0 t1 t2 t3 t4]
            simp
theorem fin_11 (m : Mg) (F G : Nat → Int) (n k : Nat) (hk : m.kd = 11) (h0 : (decide (1 ≤ m.kd) && decide (m.kd ≤ 13)) = true) (h1 : (decide (0 ≤ m.fr) && decide (m.fr ≤ 7)) = true) (h2 : (decide (0 ≤ m.tw) && decide (m.tw ≤ 7)) = true) (h3 : (m.fr == m.tw) = false) (h4 : (decide (1 ≤ m.fi) && decide (m.fi ≤ 1073741824)) = true) (h5 : (decide (1 ≤ m.ti) && decide (m.ti ≤ 1073741824)) = true) (h6 : (decide (0 ≤ m.tp) && decide (m.tp ≤ 3)) = true) : (((decide (0 ≤ m.no) && decide (m.no ≤ 7)) && (decide (1 ≤ m.ic) && decide (m.ic ≤ 1073741824)) && (decide (1 ≤ m.ct) && decide (m.ct ≤ 40)) && (decide (0 ≤ m.va) && decide (m.va ≤ 2147483647)) && (decide (0 ≤ m.hp) && decide (m.hp ≤ 16)) && fewB F n && fewB G k && unB (cat F n G) (n + k)) && samB { kd := m.kd, fr := m.fr, fi := m.fi, tw := m.tw, ti := m.ti, tp := m.tp, ep := 0, sq := 0, la := 0, va := m.va, no := m.no, ic := m.ic, ct := m.ct, hp := m.hp } F n G k m F n G k) = chkB m F n G k := by
  cases t0 : (decide (0 ≤ m.no) && decide (m.no ≤ 7)) with
  | false =>
    rw [off_11_0 m F G n k hk t0]
    simp
  | true =>
    cases t1 : (decide (1 ≤ m.ic) && decide (m.ic ≤ 1073741824)) with
    | false =>
      rw [off_11_1 m F G n k hk t1]
      simp
    | true =>
      cases t2 : (decide (1 ≤ m.ct) && decide (m.ct ≤ 40)) with
      | false =>
        rw [off_11_2 m F G n k hk t2]
        simp
      | true =>
        cases t3 : (decide (0 ≤ m.va) && decide (m.va ≤ 2147483647)) with
        | false =>
          rw [off_11_3 m F G n k hk t3]
          simp
        | true =>
          cases t4 : (decide (0 ≤ m.hp) && decide (m.hp ≤ 16)) with
          | false =>
            rw [off_11_4 m F G n k hk t4]
            simp
          | true =>
            cases t5 : fewB F n with
            | false =>
              rw [off_11_5 m F G n k hk t5]
              simp
            | true =>
              cases t6 : fewB G k with
              | false =>
                rw [off_11_6 m F G n k hk t6]
                simp
              | true =>
                cases t7 : unB (cat F n G) (n + k) with
                | false =>
                  rw [off_11_7 m F G n k hk t7]
                  simp
                | true =>
                  rw [all_11 m F G n k hk h0 h1 h2 h3 h4 h5 h6 t0 t1 t2 t3 t4 t5 t6 t7]
                  simp
theorem fin_12 (m : Mg) (F G : Nat → Int) (n k : Nat) (hk : m.kd = 12) (h0 : (decide (1 ≤ m.kd) && decide (m.kd ≤ 13)) = true) (h1 : (decide (0 ≤ m.fr) && decide (m.fr ≤ 7)) = true) (h2 : (decide (0 ≤ m.tw) && decide (m.tw ≤ 7)) = true) (h3 : (m.fr == m.tw) = false) (h4 : (decide (1 ≤ m.fi) && decide (m.fi ≤ 1073741824)) = true) (h5 : (decide (1 ≤ m.ti) && decide (m.ti ≤ 1073741824)) = true) (h6 : (decide (0 ≤ m.tp) && decide (m.tp ≤ 3)) = true) : (((decide (1 ≤ m.ct) && decide (m.ct ≤ 40)) && (decide (0 ≤ m.va) && decide (m.va ≤ 7))) && samB { kd := m.kd, fr := m.fr, fi := m.fi, tw := m.tw, ti := m.ti, tp := m.tp, ep := 0, sq := 0, la := 0, va := m.va, no := 0, ic := 0, ct := m.ct, hp := 0 } noF 0 noF 0 m F n G k) = chkB m F n G k := by
  cases t0 : (decide (1 ≤ m.ct) && decide (m.ct ≤ 40)) with
  | false =>
    rw [off_12_0 m F G n k hk t0]
    simp
  | true =>
    cases t1 : (decide (0 ≤ m.va) && decide (m.va ≤ 7)) with
    | false =>
      rw [off_12_1 m F G n k hk t1]
      simp
    | true =>
      rw [all_12 m F G n k hk h0 h1 h2 h3 h4 h5 h6 t0 t1]
      simp
theorem fin_13 (m : Mg) (F G : Nat → Int) (n k : Nat) (hk : m.kd = 13) (h0 : (decide (1 ≤ m.kd) && decide (m.kd ≤ 13)) = true) (h1 : (decide (0 ≤ m.fr) && decide (m.fr ≤ 7)) = true) (h2 : (decide (0 ≤ m.tw) && decide (m.tw ≤ 7)) = true) (h3 : (m.fr == m.tw) = false) (h4 : (decide (1 ≤ m.fi) && decide (m.fi ≤ 1073741824)) = true) (h5 : (decide (1 ≤ m.ti) && decide (m.ti ≤ 1073741824)) = true) (h6 : (decide (0 ≤ m.tp) && decide (m.tp ≤ 3)) = true) : (((decide (1 ≤ m.ct) && decide (m.ct ≤ 40))) && samB { kd := m.kd, fr := m.fr, fi := m.fi, tw := m.tw, ti := m.ti, tp := m.tp, ep := 0, sq := 0, la := 0, va := 0, no := 0, ic := 0, ct := m.ct, hp := 0 } noF 0 noF 0 m F n G k) = chkB m F n G k := by
  cases t0 : (decide (1 ≤ m.ct) && decide (m.ct ≤ 40)) with
  | false =>
    rw [off_13_0 m F G n k hk t0]
    simp
  | true =>
    rw [all_13 m F G n k hk h0 h1 h2 h3 h4 h5 h6 t0]
    simp
end Go.Proofs.Ytmcmiojidgdjpaa
