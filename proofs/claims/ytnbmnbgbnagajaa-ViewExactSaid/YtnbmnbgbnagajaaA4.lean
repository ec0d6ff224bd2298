/- Walks of view.Hear, the page's Hear. -/
import Derived.Test.YtnbmnbgbnagajaaA3
namespace Go.Proofs.Ytnbmnbgbnagajaa
open Go.RowKit

set_option maxRecDepth 100000 in
theorem hear_place (F : Nat → Int) (v : Value) (n : Nat) (x inc : Int) (w : World) (hv : Pe w v n F) (h : plc n F x ≠ 0) :
    Calls Try.prog 9 #[v, .int .i64 x, .int .i64 inc] w fun e w' => e = .returned (.tuple #[.slice none 0 0, .int .i64 (plc n F x)]) ∧ Below w.heap.size w w' := by
  have C := hide (place_any F v n x w hv)
  obtain ⟨p, c, rfl, hc1, hc2⟩ := hv.shape
  clear hv
  generalize plc n F x = r at *
  have e1 : (r != 0) = true := by simpa using h
  go_enter Try.func9, Try.ntmps9
  go_wp2_with (go_at_call 20; (with_reducible refine (unhide C).mono ?_); rintro e w1 ⟨rfl, b1⟩; have B1 := hide b1; clear b1)
  go_ret2
  exact ⟨rfl, unhide B1⟩
theorem plc_ok {n : Nat} {F : Nat → Int} {k : Nat} (h : rt n F = true) (hk : k < n) : plc n F k = 0 := by simp [plc, h, hk]
set_option maxRecDepth 100000 in
theorem hear_inc (F : Nat → Int) (v : Value) (n k : Nat) (inc : Int) (w : World) (hv : Pe w v n F) (h : rt n F = true) (hk : k < n) (hi : ¬ (1 ≤ inc ∧ inc ≤ 1073741824)) :
    Calls Try.prog 9 #[v, .int .i64 (k : Int), .int .i64 inc] w fun e w' => e = .returned (.tuple #[.slice none 0 0, .int .i64 1]) ∧ Below w.heap.size w w' := by
  have C := hide (place_any F v n k w hv)
  obtain ⟨p, c, rfl, hc1, hc2⟩ := hv.shape
  rw [plc_ok h hk] at C
  clear hv
  by_cases h1 : 1 ≤ inc
  · have h2 : 1073741824 < inc := by omega
    clear hi
    go_enter Try.func9, Try.ntmps9
    go_wp2_with (go_at_call 20; (with_reducible refine (unhide C).mono ?_); rintro e w1 ⟨rfl, b1⟩; have B1 := hide b1; clear b1)
    go_ret2
    exact ⟨rfl, unhide B1⟩
  · clear hi
    go_enter Try.func9, Try.ntmps9
    go_wp2_with (go_at_call 20; (with_reducible refine (unhide C).mono ?_); rintro e w1 ⟨rfl, b1⟩; have B1 := hide b1; clear b1)
    go_ret2
    exact ⟨rfl, unhide B1⟩
theorem hrF_yes {F : Nat → Int} {k m : Nat} {inc : Int} (h : F (k * 2) ≤ inc) : ((vL .i64 F m).set (k * 2) (.int .i64 inc)).set (k * 2 + 1) (.int .i64 0) = vL .i64 (hrF F k inc) m := by
  rw [vL_set, vL_set]
  refine vL_congr fun j _ => ?_
  unfold hrF
  rw [if_pos h]
  by_cases e1 : j = k * 2 + 1
  · rw [if_pos e1, if_neg (by omega), if_pos e1]
  · rw [if_neg e1]
    by_cases e2 : j = k * 2
    · rw [if_pos e2, if_pos e2]
    · rw [if_neg e2, if_neg e2, if_neg e1]
theorem hrF_no {F : Nat → Int} {k m : Nat} {inc : Int} (h : ¬ F (k * 2) ≤ inc) : vL .i64 F m = vL .i64 (hrF F k inc) m := by
  refine vL_congr fun j _ => ?_
  unfold hrF
  rw [if_neg h]
/-- What is known behind the copy of a row of peers. -/
theorem own_cells {w : World} {B n g cap : Nat} {F : Nat → Int} (h : w.ownsRow B 42 2 (.slice (some ⟨g, 0, none⟩) n cap) n (vL .i64 F (n * 2))) (k : Nat) (hk : k < n) :
    w.cell? ⟨g, k * 2, none⟩ = some (.int .i64 (F (k * 2))) ∧ w.cell? ⟨g, k * 2 + 1, none⟩ = some (.int .i64 (F (k * 2 + 1))) ∧ w.frozen? ⟨g, k * 2, none⟩ = false ∧ w.frozen? ⟨g, k * 2 + 1, none⟩ = false := by
  refine ⟨?_, ?_, h.frozenAt _, h.frozenAt _⟩
  · rw [h.cellAt _ (by omega), vL_get _ _ _ _ (by omega)]
  · rw [h.cellAt _ (by omega), vL_get _ _ _ _ (by omega)]
set_option maxRecDepth 100000 in
theorem hear_ok (F : Nat → Int) (v : Value) (n k : Nat) (inc : Int) (w : World) (hv : Pe w v n F) (h : rt n F = true) (hk : k < n) (hi : 1 ≤ inc ∧ inc ≤ 1073741824) :
    Calls Try.prog 9 #[v, .int .i64 (k : Int), .int .i64 inc] w fun e w' => ∃ v', e = .returned (.tuple #[v', .int .i64 0]) ∧ w'.ownsRow w.heap.size 42 2 v' n (vL .i64 (hrF F k inc) (n * 2)) ∧ Below w.heap.size w w' := by
  have C := hide (place_any F v n k w hv)
  have HV := hide hv
  have h8 := (rt_iff.1 h).2.1
  have D : Hid (∀ w1, Below w.heap.size w w1 → Calls Try.prog 21 #[v] w1 fun e w' => ∃ v', e = .returned v' ∧ w'.ownsRow w1.heap.size 42 2 v' n (vL .i64 F (n * 2)) ∧ Below w1.heap.size w1 w') := hide fun w1 b => clone_any F v n w1 ((unhide HV).below b (Nat.le_refl _)) (by omega)
  obtain ⟨p, c, rfl, hc1, hc2⟩ := hv.shape
  rw [plc_ok h hk] at C
  have HK := hide hk
  obtain ⟨hi1, hi2⟩ := hi
  clear hv
  by_cases hq : F (k * 2) ≤ inc
  · have HY := hide (hrF_yes (m := n * 2) hq)
    go_enter Try.func9, Try.ntmps9
    go_wp2_with (first
      | (go_at_call 20; (with_reducible refine (unhide C).mono ?_); rintro e w1 ⟨rfl, b1⟩; have B1 := hide b1; clear b1)
      | (go_at_call 21; (with_reducible refine (unhide D _ (unhide B1)).mono ?_); rintro e w2 ⟨v2, rfl, o2, b2⟩; obtain ⟨g, cap, rfl, hg1, hg2, hg3, hg4⟩ := owns_some o2 (Nat.lt_of_le_of_lt (Nat.zero_le _) (unhide HK)); obtain ⟨q1, q2, q3, q4⟩ := own_cells o2 k (unhide HK); have O2 := hide o2; have B2 := hide (below_of (unhide B1) b2); have G3 := hide (Nat.le_trans (unhide B1).size hg3); clear o2 b2 hg3))
    go_ret2
    refine ⟨_, rfl, ?_, ((unhide B2).setCell (unhide G3) _).setCell (unhide G3) _⟩
    rw [← unhide HY]
    exact owns_mono (((unhide O2).stored (k * 2) (.int .i64 inc)).1.stored (k * 2 + 1) (.int .i64 0)).1 (unhide B1).size
  · have HY := hide (hrF_no (m := n * 2) hq)
    go_enter Try.func9, Try.ntmps9
    go_wp2_with (first
      | (go_at_call 20; (with_reducible refine (unhide C).mono ?_); rintro e w1 ⟨rfl, b1⟩; have B1 := hide b1; clear b1)
      | (go_at_call 21; (with_reducible refine (unhide D _ (unhide B1)).mono ?_); rintro e w2 ⟨v2, rfl, o2, b2⟩; obtain ⟨g, cap, rfl, hg1, hg2, hg3, hg4⟩ := owns_some o2 (Nat.lt_of_le_of_lt (Nat.zero_le _) (unhide HK)); obtain ⟨q1, q2, q3, q4⟩ := own_cells o2 k (unhide HK); have O2 := hide o2; have B2 := hide (below_of (unhide B1) b2); clear o2 b2 hg3))
    go_ret2
    refine ⟨_, rfl, ?_, unhide B2⟩
    rw [← unhide HY]
    exact owns_mono (unhide O2) (unhide B1).size
set_option maxRecDepth 100000 in
theorem rhear_ok (F : Nat → Int) (v : Value) (n k : Nat) (inc : Int) (w : World) (hv : Pe w v n F) (h8 : n ≤ 8) (hk : k < n) :
    Calls Try.prog 17 #[v, .int .i64 (k : Int), .int .i64 inc] w fun e w' => ∃ v', e = .returned v' ∧ w'.ownsRow w.heap.size 42 2 v' n (vL .i64 (hrF F k inc) (n * 2)) ∧ Below w.heap.size w w' := by
  have D := hide (twin_any F v n w hv (by omega))
  obtain ⟨p, c, rfl, hc1, hc2⟩ := hv.shape
  have HK := hide hk
  clear hv
  by_cases hq : F (k * 2) ≤ inc
  · have HY := hide (hrF_yes (m := n * 2) hq)
    go_enter Try.func17, Try.ntmps17
    go_wp2_with (go_at_call 8; (with_reducible refine (unhide D).mono ?_); rintro e w2 ⟨v2, rfl, o2, b2⟩; obtain ⟨g, cap, rfl, hg1, hg2, hg3, hg4⟩ := owns_some o2 (Nat.lt_of_le_of_lt (Nat.zero_le _) (unhide HK)); obtain ⟨q1, q2, q3, q4⟩ := own_cells o2 k (unhide HK); have O2 := hide o2; have B2 := hide b2; have G3 := hide hg3; clear o2 b2 hg3)
    go_ret
    refine ⟨_, rfl, ?_, ((unhide B2).setCell (unhide G3) _).setCell (unhide G3) _⟩
    rw [← unhide HY]
    exact (((unhide O2).stored (k * 2) (.int .i64 inc)).1.stored (k * 2 + 1) (.int .i64 0)).1
  · have HY := hide (hrF_no (m := n * 2) hq)
    go_enter Try.func17, Try.ntmps17
    go_wp2_with (go_at_call 8; (with_reducible refine (unhide D).mono ?_); rintro e w2 ⟨v2, rfl, o2, b2⟩; obtain ⟨g, cap, rfl, hg1, hg2, hg3, hg4⟩ := owns_some o2 (Nat.lt_of_le_of_lt (Nat.zero_le _) (unhide HK)); obtain ⟨q1, q2, q3, q4⟩ := own_cells o2 k (unhide HK); have O2 := hide o2; have B2 := hide b2; clear o2 b2 hg3)
    go_ret
    refine ⟨_, rfl, ?_, unhide B2⟩
    rw [← unhide HY]
    exact unhide O2
end Go.Proofs.Ytnbmnbgbnagajaa
