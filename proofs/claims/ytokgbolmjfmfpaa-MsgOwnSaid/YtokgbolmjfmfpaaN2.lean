/- A right message of Good's, and what is not right. -/
import Derived.Test.YtokgbolmjfmfpaaN1
import Derived.Test.YtokgbolmjfmfpaaG5
namespace Go.Proofs.Ytokgbolmjfmfpaa
open Go.RowKit

theorem good_law (kind n v : Int) : ∃ (m : Mg) (F G : Nat → Int) (a b : Nat), a ≤ 2 ∧ b ≤ 2 ∧ chkB m F a G b = true ∧
    ∀ w, Calls Try.prog 17 #[.int .i64 kind, .int .i64 n, .int .i64 v] w fun e w' => ∃ p c t d, e = .returned (mv m (.slice p a c) (.slice t b d)) ∧ Sl .i64 w' (.slice p a c) a F ∧ Sl .i64 w' (.slice t b d) b G ∧ Below w.heap.size w w' := by
  obtain ⟨k, N, V, h1, h2, lN, lV, _, h⟩ := good_any kind n v
  have q1 : (0 : Int) ≤ N ∧ (N : Int) < 1000 := by omega
  have q2 : (0 : Int) ≤ V ∧ (V : Int) < 1000 := by omega
  refine ⟨gd k N V, lF (gp k N), lF (gt k N), (gp k N).length, (gt k N).length, ?_, ?_, ?_, fun w => (h w).mono ?_⟩
  · unfold gp
    split <;> simp
  · unfold gt
    split <;> simp
  · match k, h1, h2 with
    | 1, _, _ => exact right_1 N V q1 q2
    | 2, _, _ => exact right_2 N V q1 q2
    | 3, _, _ => exact right_3 N V q1 q2
    | 4, _, _ => exact right_4 N V q1 q2
    | 5, _, _ => exact right_5 N V q1 q2
    | 6, _, _ => exact right_6 N V q1 q2
    | 7, _, _ => exact right_7 N V q1 q2
    | 8, _, _ => exact right_8 N V q1 q2
    | 9, _, _ => exact right_9 N V q1 q2
    | 10, _, _ => exact right_10 N V q1 q2
    | 11, _, _ => exact right_11 N V q1 q2
    | 12, _, _ => exact right_12 N V q1 q2
    | 13, _, _ => exact right_13 N V q1 q2
  · rintro e w' ⟨p, t, rfl, s1, s2, b⟩
    obtain ⟨p', c, rfl, _, _⟩ := s1.shape
    obtain ⟨t', d, rfl, _, _⟩ := s2.shape
    exact ⟨p', c, t', d, rfl, s1, s2, b⟩
theorem own_0 (m : Mg) (h2 : m.kd ≠ 2) (h3 : m.kd ≠ 3) (h7 : m.kd ≠ 7) (h8 : m.kd ≠ 8) (h9 : m.kd ≠ 9) : numB { m with ep := 5 } = false := by
  refine numB_f _ (fun q => ?_)
  obtain ⟨_, _, _, _, _, _, q6, _, _, _, _, _, _, _⟩ := q
  have e : (hi { m with ep := 5 }).ep = 0 := by simp [hi, h2, h3, h7, h8, h9]
  have := q6.2
  rw [e] at this
  simp at this
theorem own_1 (m : Mg) (h3 : m.kd ≠ 3) (h7 : m.kd ≠ 7) (h8 : m.kd ≠ 8) (h9 : m.kd ≠ 9) : numB { m with sq := 5 } = false := by
  refine numB_f _ (fun q => ?_)
  obtain ⟨_, _, _, _, _, _, _, q7, _, _, _, _, _, _⟩ := q
  have e : (hi { m with sq := 5 }).sq = 0 := by simp [hi, h3, h7, h8, h9]
  have := q7.2
  rw [e] at this
  simp at this
theorem own_2 (m : Mg) (h3 : m.kd ≠ 3) (h9 : m.kd ≠ 9) : numB { m with la := 5 } = false := by
  refine numB_f _ (fun q => ?_)
  obtain ⟨_, _, _, _, _, _, _, _, q8, _, _, _, _, _⟩ := q
  have e : (hi { m with la := 5 }).la = 0 := by simp [hi, h3, h9]
  have := q8.2
  rw [e] at this
  simp at this
theorem own_3 (m : Mg) (h7 : m.kd ≠ 7) (h10 : m.kd ≠ 10) (h11 : m.kd ≠ 11) (h12 : m.kd ≠ 12) : numB { m with va := 5 } = false := by
  refine numB_f _ (fun q => ?_)
  obtain ⟨_, _, _, _, _, _, _, _, _, q9, _, _, _, _⟩ := q
  have e : (hi { m with va := 5 }).va = 0 := by simp [hi, h7, h10, h11, h12]
  have := q9.2
  rw [e] at this
  simp at this
theorem own_4 (m : Mg) (h4 : m.kd ≠ 4) (h10 : m.kd ≠ 10) (h11 : m.kd ≠ 11) : numB { m with no := 5 } = false := by
  refine numB_f _ (fun q => ?_)
  obtain ⟨_, _, _, _, _, _, _, _, _, _, q10, _, _, _⟩ := q
  have e : (hi { m with no := 5 }).no = 0 := by simp [hi, h4, h10, h11]
  have := q10.2
  rw [e] at this
  simp at this
theorem own_5 (m : Mg) (h10 : m.kd ≠ 10) (h11 : m.kd ≠ 11) : numB { m with ic := 5 } = false := by
  refine numB_f _ (fun q => ?_)
  obtain ⟨_, _, _, _, _, _, _, _, _, _, _, q11, _, _⟩ := q
  have e : (hi { m with ic := 5 }).ic = 0 := by simp [hi, h10, h11]
  have := q11.2
  rw [e] at this
  simp at this
theorem own_6 (m : Mg) (h : m.kd < 10) : numB { m with ct := 5 } = false := by
  refine numB_f _ (fun q => ?_)
  obtain ⟨_, _, _, _, _, _, _, _, _, _, _, _, q12, _⟩ := q
  have e : (hi { m with ct := 5 }).ct = 0 := by simp [hi, show m.kd ≠ 10 by omega, show m.kd ≠ 11 by omega, show m.kd ≠ 12 by omega, show m.kd ≠ 13 by omega]
  have := q12.2
  rw [e] at this
  simp at this
theorem own_7 (m : Mg) (h10 : m.kd ≠ 10) (h11 : m.kd ≠ 11) : numB { m with hp := 5 } = false := by
  refine numB_f _ (fun q => ?_)
  obtain ⟨_, _, _, _, _, _, _, _, _, _, _, _, _, q13⟩ := q
  have e : (hi { m with hp := 5 }).hp = 0 := by simp [hi, h10, h11]
  have := q13.2
  rw [e] at this
  simp at this
theorem own_8 (m : Mg) (F G : Nat → Int) (n k : Nat) (h : m.kd ≠ 11) : lisB m F n G (k + 1) = false := by
  by_cases h3 : m.kd = 3
  · simp [lisB, h3]
  · simp [lisB, h3, h]
end Go.Proofs.Ytokgbolmjfmfpaa
