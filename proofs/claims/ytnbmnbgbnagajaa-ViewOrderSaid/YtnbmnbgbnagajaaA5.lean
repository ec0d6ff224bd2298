/- Walks of view.Older, the page's Older. -/
import Derived.Test.YtnbmnbgbnagajaaA4
import Derived.Laws.Cover1
namespace Go.Proofs.Ytnbmnbgbnagajaa
open Go.RowKit

set_option maxRecDepth 100000 in
theorem older_bad (F : Nat → Int) (v : Value) (n : Nat) (w : World) (hv : Pe w v n F) (h : rt n F = false) :
    Calls Try.prog 10 #[v] w fun e w' => e = .returned (.tuple #[.slice none 0 0, .int .i64 1]) ∧ Below w.heap.size w w' := by
  have C := hide (check_any F v n w hv)
  rw [show chk n F = 1 by simp [chk, h]] at C
  obtain ⟨p, c, rfl, hc1, hc2⟩ := hv.shape
  clear hv
  go_enter Try.func10, Try.ntmps10
  go_wp2_with (go_at_call 14; (with_reducible refine (unhide C).mono ?_); rintro e w1 ⟨rfl, b1⟩; have B1 := hide b1; clear b1)
  go_ret2
  exact ⟨rfl, unhide B1⟩
/-- The first k older. -/
def mdF (F : Nat → Int) (k j : Nat) : Int := if j < k * 2 then olF F j else F j
theorem mdF_zero (F : Nat → Int) (m : Nat) : vL .i64 F m = vL .i64 (mdF F 0) m := vL_congr fun j _ => by simp [mdF]
theorem mdF_all (F : Nat → Int) (n : Nat) : vL .i64 (mdF F n) (n * 2) = vL .i64 (olF F) (n * 2) := vL_congr fun j hj => by simp [mdF, hj]
theorem mdF_at (F : Nat → Int) (k : Nat) : mdF F k (k * 2) = F (k * 2) ∧ mdF F k (k * 2 + 1) = F (k * 2 + 1) := ⟨by simp [mdF], by unfold mdF; rw [if_neg (by omega)]⟩
/-- One tick more. -/
def aged (a : Int) : Int := if 1000 < a + 1 then 1000 else a + 1
theorem mdF_next (F : Nat → Int) (k m : Nat) : (vL .i64 (mdF F k) m).set (k * 2 + 1) (.int .i64 (aged (F (k * 2 + 1)))) = vL .i64 (mdF F (k + 1)) m := by
  rw [vL_set]
  refine vL_congr fun j _ => ?_
  unfold mdF
  by_cases e1 : j = k * 2 + 1
  · subst e1
    rw [if_pos rfl, if_pos (by omega)]
    simp [olF, aged, show (k * 2 + 1) % 2 = 1 by omega]
  · rw [if_neg e1]
    by_cases e2 : j < k * 2
    · rw [if_pos e2, if_pos (by omega)]
    · rw [if_neg e2]
      by_cases e3 : j = k * 2
      · rw [if_pos (by omega)]
        subst e3
        simp [olF]
      · rw [if_neg (by omega)]
set_option maxHeartbeats 1000000 in
set_option maxRecDepth 100000 in
theorem older_ok (F : Nat → Int) (v : Value) (n : Nat) (w : World) (hv : Pe w v n F) (h : rt n F = true) :
    Calls Try.prog 10 #[v] w fun e w' => ∃ v', e = .returned (.tuple #[v', .int .i64 0]) ∧ w'.ownsRow w.heap.size 42 2 v' n (vL .i64 (olF F) (n * 2)) ∧ Below w.heap.size w w' := by
  have C := hide (check_any F v n w hv)
  rw [show chk n F = 0 by simp [chk, h]] at C
  have HV := hide hv
  have h8 := (rt_iff.1 h).2.1
  have h1 := (rt_iff.1 h).1
  have HR := hide (rt_iff.1 h).2.2
  have D : Hid (∀ w1, Below w.heap.size w w1 → Calls Try.prog 21 #[v] w1 fun e w' => ∃ v', e = .returned v' ∧ w'.ownsRow w1.heap.size 42 2 v' n (vL .i64 F (n * 2)) ∧ Below w1.heap.size w1 w') := hide fun w1 b => clone_any F v n w1 ((unhide HV).below b (Nat.le_refl _)) (by omega)
  obtain ⟨p, c, rfl, hc1, hc2⟩ := hv.shape
  clear hv h
  go_enter Try.func10, Try.ntmps10
  go_wp2_with (first
    | (go_at_call 14; (with_reducible refine (unhide C).mono ?_); rintro e w1 ⟨rfl, b1⟩; have B1 := hide b1; clear b1)
    | (go_at_call 21; (with_reducible refine (unhide D _ (unhide B1)).mono ?_); rintro e w2 ⟨v2, rfl, o2, b2⟩; obtain ⟨g, cap, rfl, hg1, hg2, hg3, hg4⟩ := owns_some o2 h1; have O2 := hide (owns_mono o2 (unhide B1).size); have B2 := hide (below_of (unhide B1) b2); have G3 := hide (Nat.le_trans (unhide B1).size hg3); clear o2 b2 hg3 hg4))
  unfold maxLen at hg2
  go_loopw [17] (fun i w3 => ∃ k : Nat, k ≤ n ∧ i = .int .i64 k ∧ w3.ownsRow w.heap.size 42 2 (.slice (some ⟨g, 0, none⟩) n cap) n (vL .i64 (mdF F k) (n * 2)) ∧ Below w.heap.size w w3) (fun i _ => n - (intOf i).toNat)
  case atStart => exact ⟨0, by omega, rfl, by rw [← mdF_zero]; exact unhide O2, unhide B2⟩
  case round =>
    obtain ⟨k, hk, rfl, ho, hb⟩ := hrel
    have HO := hide ho
    have HB := hide hb
    by_cases hlt : k < n
    · obtain ⟨q1, q2, q3, q4⟩ := own_cells ho k hlt
      rw [(mdF_at F k).1] at q1
      rw [(mdF_at F k).2] at q2
      obtain ⟨r0, r1, r2, r3⟩ := unhide HR k hlt
      have NX := hide (mdF_next F k (n * 2))
      have gl : g < wr.heap.size := block_lt_of_cell q1
      clear ho hb
      generalize F (k * 2) = x at *
      generalize F (k * 2 + 1) = y at *
      go_wp2
      refine ⟨⟨k + 1, by omega, by go_num, ?_, below_alloc ((unhide HB).setCell (unhide G3) _) _⟩, by simp [intOf]; omega⟩
      rw [← unhide NX]
      exact ((unhide HO).stored (k * 2 + 1) (.int .i64 (aged y))).1.alloc _
    · obtain rfl : k = n := by omega
      clear ho hb
      go_wp2
      go_ret2
      exact ⟨_, rfl, by rw [← mdF_all]; exact unhide HO, unhide HB⟩
set_option maxHeartbeats 1000000 in
set_option maxRecDepth 100000 in
theorem rolder_ok (F : Nat → Int) (v : Value) (n : Nat) (w : World) (hv : Pe w v n F) (h : rt n F = true) :
    Calls Try.prog 16 #[v] w fun e w' => ∃ v', e = .returned v' ∧ w'.ownsRow w.heap.size 42 2 v' n (vL .i64 (olF F) (n * 2)) ∧ Below w.heap.size w w' := by
  have h8 := (rt_iff.1 h).2.1
  have h1 := (rt_iff.1 h).1
  have HR := hide (rt_iff.1 h).2.2
  have D := hide (twin_any F v n w hv (by omega))
  obtain ⟨p, c, rfl, hc1, hc2⟩ := hv.shape
  clear hv h
  go_enter Try.func16, Try.ntmps16
  go_wp2_with (go_at_call 8; (with_reducible refine (unhide D).mono ?_); rintro e w2 ⟨v2, rfl, o2, b2⟩; obtain ⟨g, cap, rfl, hg1, hg2, hg3, hg4⟩ := owns_some o2 h1; have O2 := hide o2; have B2 := hide b2; have G3 := hide hg3; clear o2 b2 hg3 hg4)
  unfold maxLen at hg2
  go_loopw [4] (fun i w3 => ∃ k : Nat, k ≤ n ∧ i = .int .i64 k ∧ w3.ownsRow w.heap.size 42 2 (.slice (some ⟨g, 0, none⟩) n cap) n (vL .i64 (mdF F k) (n * 2)) ∧ Below w.heap.size w w3) (fun i _ => n - (intOf i).toNat)
  case atStart => exact ⟨0, by omega, rfl, by rw [← mdF_zero]; exact unhide O2, unhide B2⟩
  case round =>
    obtain ⟨k, hk, rfl, ho, hb⟩ := hrel
    have HO := hide ho
    have HB := hide hb
    by_cases hlt : k < n
    · obtain ⟨q1, q2, q3, q4⟩ := own_cells ho k hlt
      rw [(mdF_at F k).1] at q1
      rw [(mdF_at F k).2] at q2
      obtain ⟨r0, r1, r2, r3⟩ := unhide HR k hlt
      have NX := hide (mdF_next F k (n * 2))
      have gl : g < wr.heap.size := block_lt_of_cell q1
      clear ho hb
      generalize F (k * 2) = x at *
      generalize F (k * 2 + 1) = y at *
      go_wp2
      refine ⟨⟨k + 1, by omega, by go_num, ?_, (unhide HB).setCell (unhide G3) _⟩, by simp [intOf]; omega⟩
      rw [← unhide NX]
      exact ((unhide HO).stored (k * 2 + 1) (.int .i64 (aged y))).1
    · obtain rfl : k = n := by omega
      clear ho hb
      go_wp2
      go_ret
      exact ⟨_, rfl, by rw [← mdF_all]; exact unhide HO, unhide HB⟩
end Go.Proofs.Ytnbmnbgbnagajaa
