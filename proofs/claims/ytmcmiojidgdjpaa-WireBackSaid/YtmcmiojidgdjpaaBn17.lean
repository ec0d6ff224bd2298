/- Walk of listsRight: an Ack; all kinds. -/
import Derived.Test.YtmcmiojidgdjpaaBn5
namespace Go.Proofs.Ytmcmiojidgdjpaa
open Go.RowKit

set_option maxRecDepth 100000 in
set_option maxHeartbeats 1000000 in
theorem lists_ack (m : Mg) (F G : Nat → Int) (p t : Value) (n k : Nat) (w : World) (hp : Sl .i64 w p n F) (ht : Sl .i64 w t k G) (hn : n ≤ 1000) (_ : k ≤ 1000) (h3 : m.kd = 3) :
    Calls Try.prog 46 #[mv m p t] w fun e w' => e = .returned (.bool (lisB m F n G k)) ∧ Below w.heap.size w w' := by
  obtain ⟨pp, cp, rfl, lp, kp⟩ := hp.shape
  obtain ⟨pt, ct, rfl, lt, kt⟩ := ht.shape
  unfold maxLen at kp kt
  have HP := hide hp
  have HT := hide ht
  clear hp ht
  have B0 : Hid (Below w.heap.size w (w.alloc (.cells #[.int .i64 m.kd, .int .i64 m.fr, .int .i64 m.fi, .int .i64 m.tw, .int .i64 m.ti, .int .i64 m.tp, .int .i64 m.ep, .int .i64 m.sq, .int .i64 m.la, .int .i64 m.va, .int .i64 m.no, .int .i64 m.ic, .int .i64 m.ct, .int .i64 m.hp, .slice pp n cp, .slice pt k ct] 24))) := hide ((Below.refl _ _).alloc (Nat.le_refl _) _)
  have hr : lisB m F n G k = (decide (k = 0) && decide (0 < n) && decide (F 0 = m.fr) && fewB F n && unB F n) := by simp [lisB, h3]
  rw [hr]
  have d3 : (m.kd == 3) = true := by simp [h3]
  clear h3 hr
  unfold mv
  by_cases hk0 : k = 0
  · by_cases hn0 : 0 < n
    · obtain ⟨bp, op, rfl, hbp, hcp⟩ := (unhide HP).some hn0
      have c0 : (w.alloc (.cells #[.int .i64 m.kd, .int .i64 m.fr, .int .i64 m.fi, .int .i64 m.tw, .int .i64 m.ti, .int .i64 m.tp, .int .i64 m.ep, .int .i64 m.sq, .int .i64 m.la, .int .i64 m.va, .int .i64 m.no, .int .i64 m.ic, .int .i64 m.ct, .int .i64 m.hp, .slice (some ⟨bp, op, none⟩) n cp, .slice pt k ct] 24)).cell? ⟨bp, op, none⟩ = some (.int .i64 (F 0)) := ((unhide B0).cell hbp).trans (by have := hcp 0 hn0; rwa [Nat.add_zero] at this)
      have LB := hide hbp
      clear hcp hbp
      have e0 : ((k : Int) == 0) = true := by simp; omega
      have e1 : decide ((0 : Int) < (n : Int)) = true := decide_eq_true (by omega)
      have e2 : decide (0 < n) = true := decide_eq_true hn0
      have e3 : decide (k = 0) = true := decide_eq_true hk0
      rw [e2, e3]
      clear e3 hk0
      have E0 := hide (show (decide (F 0 = m.fr)) = (F 0 == m.fr) from rfl)
      rw [unhide E0]
      clear E0
      by_cases hf : F 0 = m.fr
      · have e4 : (F 0 == m.fr) = true := by simp [hf]
        cases hF : fewB F n with
        | false =>
          rw [e4]
          have CF := hide (fun w' (b : Below w.heap.size w w') => few_any F (.slice (some ⟨bp, op, none⟩) n cp) n w' ((unhide HP).below b (Nat.le_refl _)))
          rw [hF] at CF
          have LS : Hid (∀ w', Below w.heap.size w w' → bp < w'.heap.size) := hide (fun w' b => Nat.lt_of_lt_of_le (unhide LB) b.size)
          clear hf hF
          generalize m.kd = x1 at *
          generalize F 0 = f0 at *
          generalize m.fr = x2 at *
          generalize unB F n = ub at *
          have b0 := unhide B0
          go_enter Try.func46, Try.ntmps46
          go_wp2
          go_quiet ((go_at_call 59; exact Calls.quiet_of_same (unhide CF _ (by first | exact below_drewN b0 _ | exact b0.drew | exact b0))))
          go_wp2
          go_ret
          exact ⟨by simp, below_drewN b0 _⟩
        | true =>
          rw [e4]
          have CF := hide (fun w' (b : Below w.heap.size w w') => few_any F (.slice (some ⟨bp, op, none⟩) n cp) n w' ((unhide HP).below b (Nat.le_refl _)))
          have CU := hide (fun w' (b : Below w.heap.size w w') => unlike_any F (.slice (some ⟨bp, op, none⟩) n cp) n w' ((unhide HP).below b (Nat.le_refl _)) (by omega))
          rw [hF] at CF
          have LS : Hid (∀ w', Below w.heap.size w w' → bp < w'.heap.size) := hide (fun w' b => Nat.lt_of_lt_of_le (unhide LB) b.size)
          clear hf hF
          generalize m.kd = x1 at *
          generalize F 0 = f0 at *
          generalize m.fr = x2 at *
          generalize unB F n = ub at *
          have b0 := unhide B0
          have G1 : (w.alloc (.cells #[.int .i64 x1, .int .i64 x2, .int .i64 m.fi, .int .i64 m.tw, .int .i64 m.ti, .int .i64 m.tp, .int .i64 m.ep, .int .i64 m.sq, .int .i64 m.la, .int .i64 m.va, .int .i64 m.no, .int .i64 m.ic, .int .i64 m.ct, .int .i64 m.hp, .slice (some ⟨bp, op, none⟩) n cp, .slice pt k ct] 24)).drew.heap[w.heap.size]? = some (.cells #[.int .i64 x1, .int .i64 x2, .int .i64 m.fi, .int .i64 m.tw, .int .i64 m.ti, .int .i64 m.tp, .int .i64 m.ep, .int .i64 m.sq, .int .i64 m.la, .int .i64 m.va, .int .i64 m.no, .int .i64 m.ic, .int .i64 m.ct, .int .i64 m.hp, .slice (some ⟨bp, op, none⟩) n cp, .slice pt k ct] 24) := by rw [heap_drew]; exact heap_alloc_new _ _
          have C14 := hide (mv_cell G1 14 _ rfl)
          have C15 := hide (mv_cell G1 15 _ rfl)
          have C1 := hide (mv_cell G1 1 _ rfl)
          have C0 := hide ((World.cell?_drew _ _).trans c0)
          clear G1
          go_enter Try.func46, Try.ntmps46
          go_wp2
          go_region_held3 (fun w' => Below w.heap.size w w' ∧ w.heap.size < w'.heap.size ∧ w'.cell? ⟨w.heap.size, 14, none⟩ = some (.slice (some ⟨bp, op, none⟩) n cp) ∧ w'.cell? ⟨w.heap.size, 15, none⟩ = some (.slice pt k ct) ∧ w'.cell? ⟨w.heap.size, 1, none⟩ = some (.int .i64 x2) ∧ w'.cell? ⟨bp, op, none⟩ = some (.int .i64 f0))
            (first
              | assumption
              | (refine ⟨?_, ?_, ?_, ?_, ?_, ?_⟩ <;> first | assumption | simp [*] | exact below_drewN (by assumption) 1))
            (first
              | (go_at_call 59; with_reducible refine (unhide CF _ (by first | assumption | exact b0.drew | exact below_drewN (by assumption) _ | exact below_drewN (by assumption) 1)).mono ?_; rintro e w9 ⟨rfl, rfl⟩)
              | (go_at_call 60; with_reducible refine (unhide CU _ (by first | assumption | exact b0.drew | exact below_drewN (by assumption) _ | exact below_drewN (by assumption) 1)).mono ?_; rintro e w9 ⟨rfl, b9⟩; have b10 := below_of b0.drew b9; have z10 : w.heap.size < w9.heap.size := (by have := b9.size; simp at this; omega); have q14 := (b9.cell (p := ⟨w.heap.size, 14, none⟩) (by simp)).trans (unhide C14); have q15 := (b9.cell (p := ⟨w.heap.size, 15, none⟩) (by simp)).trans (unhide C15); have q1 := (b9.cell (p := ⟨w.heap.size, 1, none⟩) (by simp)).trans (unhide C1); have q0 := (b9.cell (p := ⟨bp, op, none⟩) (by have := unhide LB; simp; omega)).trans (unhide C0); clear b9))
          go_wp2
          go_ret
          exact ⟨by simp, b10⟩
      · have e4 : (F 0 == m.fr) = false := by simp [hf]
        rw [e4]
        clear hf
        generalize m.kd = x1 at *
        generalize F 0 = f0 at *
        generalize m.fr = x2 at *
        go_enter Try.func46, Try.ntmps46
        go_wp2
        go_quiet (fail)
        go_wp2
        go_ret
        exact ⟨by simp, below_drewN ((Below.refl _ _).alloc (Nat.le_refl _) _) _⟩
    · have e0 : ((k : Int) == 0) = true := by simp; omega
      have e1 : decide ((0 : Int) < (n : Int)) = false := decide_eq_false (by omega)
      have e2 : decide (0 < n) = false := decide_eq_false hn0
      rw [e2]
      clear hk0 hn0
      generalize m.kd = x1 at *
      go_enter Try.func46, Try.ntmps46
      go_wp2
      go_quiet (fail)
      go_wp2
      go_ret
      exact ⟨by simp, below_drewN (unhide B0) _⟩
  · have e0 : ((k : Int) == 0) = false := by simp; omega
    have e2 : decide (k = 0) = false := decide_eq_false hk0
    rw [e2]
    clear hk0 e2
    generalize m.kd = x1 at *
    go_enter Try.func46, Try.ntmps46
    go_wp2
    go_quiet (fail)
    go_wp2
    go_ret
    exact ⟨by simp, below_drewN (unhide B0) _⟩
theorem listsRight_any (m : Mg) (F G : Nat → Int) (p t : Value) (n k : Nat) (w : World) (hp : Sl .i64 w p n F) (ht : Sl .i64 w t k G) (hn : n ≤ 1000) (hk : k ≤ 1000) :
    Calls Try.prog 46 #[mv m p t] w fun e w' => e = .returned (.bool (lisB m F n G k)) ∧ Below w.heap.size w w' := by
  by_cases h3 : m.kd = 3
  · exact lists_ack m F G p t n k w hp ht hn hk h3
  · by_cases h11 : m.kd = 11
    · exact lists_any m F G p t n k w hp ht hn hk h11
    · exact lists_other m F G p t n k w hp ht hn hk h3 h11
end Go.Proofs.Ytmcmiojidgdjpaa
