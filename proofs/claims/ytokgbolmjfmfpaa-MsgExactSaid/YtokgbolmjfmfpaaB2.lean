/- Walk of listsRight. -/
import Derived.Test.YtokgbolmjfmfpaaA2
import Derived.Test.YtokgbolmjfmfpaaA5
import Derived.Test.YtokgbolmjfmfpaaA6
namespace Go.Proofs.Ytokgbolmjfmfpaa
open Go.RowKit

/-- The lists are such as one of its kind may have. -/
def lisB (m : Mg) (F : Nat → Int) (n : Nat) (G : Nat → Int) (k : Nat) : Bool :=
  if m.kd = 3 then decide (k = 0) && decide (0 < n) && decide (F 0 = m.fr) && fewB F n && unB F n
  else if m.kd = 11 then fewB F n && fewB G k && unB (cat F n G) (n + k)
  else decide (n = 0) && decide (k = 0)
set_option maxRecDepth 100000 in
set_option maxHeartbeats 1000000 in
theorem lists_other (m : Mg) (F G : Nat → Int) (p t : Value) (n k : Nat) (w : World) (hp : Sl .i64 w p n F) (ht : Sl .i64 w t k G) (_ : n ≤ 1000) (_ : k ≤ 1000) (h3 : m.kd ≠ 3) (h11 : m.kd ≠ 11) :
    Calls Try.prog 26 #[mv m p t] w fun e w' => e = .returned (.bool (lisB m F n G k)) ∧ Below w.heap.size w w' := by
  obtain ⟨pp, cp, rfl, lp, kp⟩ := hp.shape
  obtain ⟨pt, ct, rfl, lt, kt⟩ := ht.shape
  unfold maxLen at kp kt
  have HP := hide hp
  have HT := hide ht
  clear hp ht
  have B0 : Hid (Below w.heap.size w (w.alloc (.cells #[.int .i64 m.kd, .int .i64 m.fr, .int .i64 m.fi, .int .i64 m.tw, .int .i64 m.ti, .int .i64 m.tp, .int .i64 m.ep, .int .i64 m.sq, .int .i64 m.la, .int .i64 m.va, .int .i64 m.no, .int .i64 m.ic, .int .i64 m.ct, .int .i64 m.hp, .slice pp n cp, .slice pt k ct] 24))) := hide ((Below.refl _ _).alloc (Nat.le_refl _) _)
  have hr : lisB m F n G k = (decide (n = 0) && decide (k = 0)) := by simp [lisB, h3, h11]
  rw [hr]
  have d3 : (m.kd == 3) = false := by simp [h3]
  have d11 : (m.kd == 11) = false := by simp [h11]
  clear h3 h11 hr
  unfold mv
  by_cases h0 : n = 0
  · have e0 : ((n : Int) == 0) = true := by simp; omega
    have e1 : ((k : Int) == 0) = decide (k = 0) := by by_cases q : k = 0 <;> simp [q]
    have e2 : decide (n = 0) = true := decide_eq_true h0
    clear h0
    generalize m.kd = x1 at *
    go_enter Try.func26, Try.ntmps26
    go_wp2
    go_ret
    exact ⟨by simp [e2], (Below.refl _ _).alloc (Nat.le_refl _) _⟩
  · have e0 : ((n : Int) == 0) = false := by simp; omega
    have e2 : decide (n = 0) = false := decide_eq_false h0
    clear h0
    generalize m.kd = x1 at *
    go_enter Try.func26, Try.ntmps26
    go_wp2
    go_ret
    exact ⟨by simp [e2], (Below.refl _ _).alloc (Nat.le_refl _) _⟩
set_option maxRecDepth 100000 in
set_option maxHeartbeats 1000000 in
theorem lists_any (m : Mg) (F G : Nat → Int) (p t : Value) (n k : Nat) (w : World) (hp : Sl .i64 w p n F) (ht : Sl .i64 w t k G) (hn : n ≤ 1000) (hk : k ≤ 1000) (h11 : m.kd = 11) :
    Calls Try.prog 26 #[mv m p t] w fun e w' => e = .returned (.bool (lisB m F n G k)) ∧ Below w.heap.size w w' := by
  obtain ⟨pp, cp, rfl, lp, kp⟩ := hp.shape
  obtain ⟨pt, ct, rfl, lt, kt⟩ := ht.shape
  unfold maxLen at kp kt
  have HP := hide hp
  have HT := hide ht
  clear hp ht
  have B0 : Hid (Below w.heap.size w (w.alloc (.cells #[.int .i64 m.kd, .int .i64 m.fr, .int .i64 m.fi, .int .i64 m.tw, .int .i64 m.ti, .int .i64 m.tp, .int .i64 m.ep, .int .i64 m.sq, .int .i64 m.la, .int .i64 m.va, .int .i64 m.no, .int .i64 m.ic, .int .i64 m.ct, .int .i64 m.hp, .slice pp n cp, .slice pt k ct] 24))) := hide ((Below.refl _ _).alloc (Nat.le_refl _) _)
  have hr : lisB m F n G k = (fewB F n && fewB G k && unB (cat F n G) (n + k)) := by simp [lisB, h11]
  rw [hr]
  have d3 : (m.kd == 3) = false := by simp [h11]
  have d11 : (m.kd == 11) = true := by simp [h11]
  clear h11 hr
  unfold mv
  have m1 := trivial
  have CF := hide (few_any F (.slice pp n cp) n _ ((unhide HP).below (unhide B0) (Nat.le_refl _)))
  have CG := hide (few_any G (.slice pt k ct) k _ ((unhide HT).below (unhide B0) (Nat.le_refl _)))
  cases hF : fewB F n with
  | false =>
    rw [hF] at CF
    generalize m.kd = x1 at *
    go_enter Try.func26, Try.ntmps26
    go_wp2_with (go_at_call 32; with_reducible refine (unhide CF).mono ?_; rintro e w1 ⟨rfl, rfl⟩)
    go_ret
    exact ⟨rfl, unhide B0⟩
  | true =>
    cases hG : fewB G k with
    | false =>
      rw [hF] at CF
      rw [hG] at CG
      generalize m.kd = x1 at *
      go_enter Try.func26, Try.ntmps26
      go_wp2_with (first
        | (clear m1; go_at_call 32; with_reducible refine (unhide CF).mono ?_; rintro e w1 ⟨rfl, rfl⟩)
        | (go_at_call 32; with_reducible refine (unhide CG).mono ?_; rintro e w1 ⟨rfl, rfl⟩))
      go_ret
      exact ⟨rfl, unhide B0⟩
    | true =>
      rw [hF] at CF
      rw [hG] at CG
      have CC := hide (concat_any F G (.slice pp n cp) (.slice pt k ct) n k (w.heap.size + 1) ((w.alloc (.cells #[.int .i64 m.kd, .int .i64 m.fr, .int .i64 m.fi, .int .i64 m.tw, .int .i64 m.ti, .int .i64 m.tp, .int .i64 m.ep, .int .i64 m.sq, .int .i64 m.la, .int .i64 m.va, .int .i64 m.no, .int .i64 m.ic, .int .i64 m.ct, .int .i64 m.hp, .slice pp n cp, .slice pt k ct] 24)).alloc (.cells #[.slice pp n cp, .slice pt k ct] 22)) ((unhide HP).below (((unhide B0)).alloc (by simp) _) (Nat.le_refl _)) ((unhide HT).below (((unhide B0)).alloc (by simp) _) (Nat.le_refl _)) (mv_cell (heap_alloc2_new _ _ _) 0 _ rfl) (mv_cell (heap_alloc2_new _ _ _) 1 _ rfl) hn hk)
      generalize m.kd = x1 at *
      go_enter Try.func26, Try.ntmps26
      go_wp2_with (first
        | (clear m1; go_at_call 32; with_reducible refine (unhide CF).mono ?_; rintro e w1 ⟨rfl, rfl⟩)
        | (go_at_call 32; with_reducible refine (unhide CG).mono ?_; rintro e w1 ⟨rfl, rfl⟩)
        | (go_at_call 33; with_reducible refine (unhide CC).mono ?_; rintro e w2 ⟨q2, d2, rfl, s2, b2⟩; have S2 := hide s2; have B2 := hide (below_of ((unhide B0).alloc (by simp) _) b2); clear s2 b2)
        | (go_at_call 13; with_reducible refine (unlike_any (cat F n G) _ (n + k) _ (unhide S2) (by omega)).mono ?_; rintro e w3 ⟨rfl, b3⟩; have B3 := hide (below_of (unhide B2) b3); clear b3))
      go_ret
      exact ⟨rfl, unhide B3⟩
end Go.Proofs.Ytokgbolmjfmfpaa
