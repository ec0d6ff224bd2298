/- Walk of nodesRight. -/
import Derived.Test.YtokgbolmjfmfpaaA1
namespace Go.Proofs.Ytokgbolmjfmfpaa
open Go.RowKit

/-- Whom it goes from, goes to and, as a Redirect, names are unlike. -/
def ndsB (m : Mg) : Bool := decide (¬ (m.kd = 4 ∧ (m.no = m.fr ∨ m.no = m.tw)) ∧ m.fr ≠ m.tw)
set_option maxRecDepth 100000 in
set_option maxHeartbeats 1000000 in
theorem nodesRight_any (m : Mg) (p t : Value) (w : World) : Calls Try.prog 25 #[mv m p t] w fun e w' => e = .returned (.bool (ndsB m)) ∧ Below w.heap.size w w' := by
  unfold mv
  by_cases h4 : m.kd = 4
  · have d4 : (m.kd == 4) = true := by simp [h4]
    by_cases ha : m.no = m.fr
    · have da : (m.no == m.fr) = true := by simp [ha]
      have hr : ndsB m = false := decide_eq_false (fun q => q.1 ⟨h4, .inl ha⟩)
      rw [hr]
      clear h4 ha hr
      generalize m.kd = x1 at *
      generalize m.no = x2 at *
      generalize m.fr = x3 at *
      go_enter Try.func25, Try.ntmps25
      go_wp2
      go_ret
      exact ⟨rfl, (Below.refl _ _).alloc (Nat.le_refl _) _⟩
    · have da : (m.no == m.fr) = false := by simp [ha]
      by_cases hb : m.no = m.tw
      · have db : (m.no == m.tw) = true := by simp [hb]
        have hr : ndsB m = false := decide_eq_false (fun q => q.1 ⟨h4, .inr hb⟩)
        rw [hr]
        clear h4 ha hb hr
        generalize m.kd = x1 at *
        generalize m.no = x2 at *
        generalize m.fr = x3 at *
        generalize m.tw = x4 at *
        go_enter Try.func25, Try.ntmps25
        go_wp2
        go_ret
        exact ⟨rfl, (Below.refl _ _).alloc (Nat.le_refl _) _⟩
      · have db : (m.no == m.tw) = false := by simp [hb]
        have hr : ndsB m = (m.fr != m.tw) := by
          by_cases e : m.fr = m.tw
          · rw [ndsB, decide_eq_false (fun q => q.2 e)]; simp [e]
          · rw [ndsB, decide_eq_true ⟨fun q => by rcases q.2 with q | q; exact ha q; exact hb q, e⟩]; simp [e]
        rw [hr]
        clear h4 ha hb hr
        generalize m.kd = x1 at *
        generalize m.no = x2 at *
        generalize m.fr = x3 at *
        generalize m.tw = x4 at *
        go_enter Try.func25, Try.ntmps25
        go_wp2
        go_ret
        exact ⟨rfl, (Below.refl _ _).alloc (Nat.le_refl _) _⟩
  · have d4 : (m.kd == 4) = false := by simp [h4]
    have hr : ndsB m = (m.fr != m.tw) := by
      by_cases e : m.fr = m.tw
      · rw [ndsB, decide_eq_false (fun q => q.2 e)]; simp [e]
      · rw [ndsB, decide_eq_true ⟨fun q => h4 q.1, e⟩]; simp [e]
    rw [hr]
    clear h4 hr
    generalize m.kd = x1 at *
    generalize m.fr = x3 at *
    generalize m.tw = x4 at *
    go_enter Try.func25, Try.ntmps25
    go_wp2
    go_ret
    exact ⟨rfl, (Below.refl _ _).alloc (Nat.le_refl _) _⟩
end Go.Proofs.Ytokgbolmjfmfpaa
