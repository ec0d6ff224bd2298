/- Messages that are not right. -/
import Derived.Test.YtokgbolmjfmfpaaN2
namespace Go.Proofs.Ytokgbolmjfmfpaa
open Go.RowKit

theorem bad_0 (m : Mg) (F G : Nat → Int) (a b : Nat) : chkB { m with kd := 14 } F a G b = false := by
  refine chk_num _ F G a b (numB_f _ (fun q => ?_))
  obtain ⟨q0, _, _, _, _, _, _, _, _, _, _, _, _, _⟩ := q
  simp only [lo, hi] at q0
  repeat (split at q0)
  all_goals omega
theorem bad_1 (m : Mg) (F G : Nat → Int) (a b : Nat) : chkB { m with tw := m.fr } F a G b = false := by
  refine chk_nds _ F G a b ?_
  unfold ndsB
  exact decide_eq_false (fun q => q.2 rfl)
theorem bad_2 (m : Mg) (F G : Nat → Int) (a b : Nat) : chkB { m with fr := 8 } F a G b = false := by
  refine chk_num _ F G a b (numB_f _ (fun q => ?_))
  obtain ⟨_, q1, _, _, _, _, _, _, _, _, _, _, _, _⟩ := q
  simp only [lo, hi] at q1
  repeat (split at q1)
  all_goals omega
theorem bad_3 (m : Mg) (F G : Nat → Int) (a b : Nat) : chkB { m with fi := 0 } F a G b = false := by
  refine chk_num _ F G a b (numB_f _ (fun q => ?_))
  obtain ⟨_, _, q2, _, _, _, _, _, _, _, _, _, _, _⟩ := q
  simp only [lo, hi] at q2
  repeat (split at q2)
  all_goals omega
theorem bad_4 (m : Mg) (F G : Nat → Int) (a b : Nat) : chkB { m with ti := 1073741825 } F a G b = false := by
  refine chk_num _ F G a b (numB_f _ (fun q => ?_))
  obtain ⟨_, _, _, _, q4, _, _, _, _, _, _, _, _, _⟩ := q
  simp only [lo, hi] at q4
  repeat (split at q4)
  all_goals omega
theorem bad_5 (m : Mg) (F G : Nat → Int) (a b : Nat) : chkB { m with tp := 4 } F a G b = false := by
  refine chk_num _ F G a b (numB_f _ (fun q => ?_))
  obtain ⟨_, _, _, _, _, q5, _, _, _, _, _, _, _, _⟩ := q
  simp only [lo, hi] at q5
  repeat (split at q5)
  all_goals omega
theorem bad_6 (m : Mg) (F G : Nat → Int) (a b : Nat) : chkB { m with ep := 1073741825 } F a G b = false := by
  refine chk_num _ F G a b (numB_f _ (fun q => ?_))
  obtain ⟨_, _, _, _, _, _, q6, _, _, _, _, _, _, _⟩ := q
  simp only [lo, hi] at q6
  repeat (split at q6)
  all_goals omega
theorem bad_7 (m : Mg) (F G : Nat → Int) (a b : Nat) : chkB { m with sq := 1073741825 } F a G b = false := by
  refine chk_num _ F G a b (numB_f _ (fun q => ?_))
  obtain ⟨_, _, _, _, _, _, _, q7, _, _, _, _, _, _⟩ := q
  simp only [lo, hi] at q7
  repeat (split at q7)
  all_goals omega
theorem bad_8 (m : Mg) (F G : Nat → Int) (a b : Nat) : chkB { m with la := (-1) } F a G b = false := by
  refine chk_num _ F G a b (numB_f _ (fun q => ?_))
  obtain ⟨_, _, _, _, _, _, _, q7, q8, _, _, _, _, _⟩ := q
  simp only [lo, hi] at q7 q8
  by_cases h9 : m.kd = 9
  · simp [h9] at q7 q8
    omega
  · simp [h9] at q8
theorem bad_9 (m : Mg) (F G : Nat → Int) (a b : Nat) : chkB { m with va := 2147483648 } F a G b = false := by
  refine chk_num _ F G a b (numB_f _ (fun q => ?_))
  obtain ⟨_, _, _, _, _, _, _, _, _, q9, _, _, _, _⟩ := q
  simp only [lo, hi] at q9
  repeat (split at q9)
  all_goals omega
theorem bad_10 (m : Mg) (F G : Nat → Int) (a b : Nat) : chkB { m with no := 8 } F a G b = false := by
  refine chk_num _ F G a b (numB_f _ (fun q => ?_))
  obtain ⟨_, _, _, _, _, _, _, _, _, _, q10, _, _, _⟩ := q
  simp only [lo, hi] at q10
  repeat (split at q10)
  all_goals omega
theorem bad_11 (m : Mg) (F G : Nat → Int) (a b : Nat) : chkB { m with hp := 17 } F a G b = false := by
  refine chk_num _ F G a b (numB_f _ (fun q => ?_))
  obtain ⟨_, _, _, _, _, _, _, _, _, _, _, _, _, q13⟩ := q
  simp only [lo, hi] at q13
  repeat (split at q13)
  all_goals omega
theorem unl_dup (F : Nat → Int) (n i j : Nat) (h1 : j < i) (h2 : i < n) (e : F j = F i) : unB F n = false := by
  unfold unB
  exact decide_eq_false (fun q => q i h2 j h1 e)
theorem bad_12 (m : Mg) (F G : Nat → Int) (a b : Nat) : chkB m (cat F a (lF [m.fr, m.fr])) (a + 2) G b = false := by
  refine chk_lis _ _ _ _ _ ?_
  have e1 : cat F a (lF [m.fr, m.fr]) a = m.fr := by simp [cat, lF]
  have e2 : cat F a (lF [m.fr, m.fr]) (a + 1) = m.fr := by
    simp [cat, lF]
    omega
  by_cases h3 : m.kd = 3
  · have := unl_dup (cat F a (lF [m.fr, m.fr])) (a + 2) (a + 1) a (by omega) (by omega) (by rw [e1, e2])
    simp [lisB, h3, this]
  · by_cases h11 : m.kd = 11
    · have := unl_dup (cat (cat F a (lF [m.fr, m.fr])) (a + 2) G) (a + 2 + b) (a + 1) a (by omega) (by omega) (by
        have z1 : cat (cat F a (lF [m.fr, m.fr])) (a + 2) G a = m.fr := by rw [cat, if_pos (by omega), e1]
        have z2 : cat (cat F a (lF [m.fr, m.fr])) (a + 2) G (a + 1) = m.fr := by rw [cat, if_pos (by omega), e2]
        rw [z1, z2])
      simp [lisB, h11, this]
    · simp [lisB, h3, h11]
theorem bad_13 (m : Mg) (F G : Nat → Int) (a b : Nat) : chkB m F a (cat G b (lF [1, 1])) (b + 2) = false := by
  refine chk_lis _ _ _ _ _ ?_
  by_cases h3 : m.kd = 3
  · simp [lisB, h3]
  · by_cases h11 : m.kd = 11
    · have := unl_dup (cat F a (cat G b (lF [1, 1]))) (a + (b + 2)) (a + b + 1) (a + b) (by omega) (by omega) (by
        have z1 : cat F a (cat G b (lF [1, 1])) (a + b) = 1 := by
          rw [cat, if_neg (by omega), cat, if_neg (by omega), show a + b - a - b = 0 by omega]
          rfl
        have z2 : cat F a (cat G b (lF [1, 1])) (a + b + 1) = 1 := by
          rw [cat, if_neg (by omega), cat, if_neg (by omega), show a + b + 1 - a - b = 1 by omega]
          rfl
        rw [z1, z2])
      simp [lisB, h11, this]
    · simp [lisB, h3, h11]
end Go.Proofs.Ytokgbolmjfmfpaa
