/- Walks of fewNodes and of the page's nodes. -/
import Derived.Test.YtokgbolmjfmfpaaA1
namespace Go.Proofs.Ytokgbolmjfmfpaa
open Go.RowKit

/-- At most eight numbers, all nodes. -/
def fewB (F : Nat → Int) (n : Nat) : Bool := decide (n ≤ 8 ∧ ∀ i, i < n → 0 ≤ F i ∧ F i ≤ 7)
theorem few_any (F : Nat → Int) (v : Value) (n : Nat) (w : World) (h : Sl .i64 w v n F) :
    Calls Try.prog 32 #[v] w fun e w' => e = .returned (.bool (fewB F n)) ∧ w' = w := by
  obtain ⟨p, cap, rfl, hc1, hc2⟩ := h.shape
  unfold maxLen at hc2
  have H := hide h
  clear h
  by_cases h8 : n ≤ 8
  · have d8 : decide ((8 : Int) < (n : Int)) = false := decide_eq_false (by omega)
    go_enter Try.func32, Try.ntmps32
    go_wp2
    go_loop [10] (fun xi => ∃ k : Nat, k ≤ n ∧ xi = .int .i64 k ∧ ∀ i, i < k → 0 ≤ F i ∧ F i ≤ 7) (fun i => n - (intOf i).toNat)
    case atStart => exact ⟨0, by omega, rfl, fun i hi => by omega⟩
    case round =>
      obtain ⟨k, hk, rfl, hall⟩ := hrel
      by_cases hlt : k < n
      · obtain ⟨b, off, rfl, _, hcell⟩ := (unhide H).some (by omega)
        have hck := hcell k hlt
        clear hcell
        have HA := hide hall
        clear hall
        obtain ⟨x, hx⟩ : ∃ x, x = F k := ⟨_, rfl⟩
        rw [← hx] at hck
        have HX := hide hx
        clear hx
        by_cases h0 : x < 0
        · have d0 : decide (x < 0) = true := decide_eq_true h0
          go_wp2
          go_ret
          refine ⟨?_, rfl⟩
          rw [fewB, decide_eq_false (fun q => by have := q.2 k hlt; rw [← unhide HX] at this; omega)]
          rfl
        · have d0 : decide (x < 0) = false := decide_eq_false h0
          by_cases h7 : 7 < x
          · have d7 : decide (7 < x) = true := decide_eq_true h7
            go_wp2
            go_ret
            refine ⟨?_, rfl⟩
            rw [fewB, decide_eq_false (fun q => by have := q.2 k hlt; rw [← unhide HX] at this; omega)]
            rfl
          · have d7 : decide (7 < x) = false := decide_eq_false h7
            go_wp2
            go_round
            case rel =>
              refine ⟨k + 1, by omega, by go_num, fun i hi => ?_⟩
              by_cases e : i = k
              · rw [e, ← unhide HX]; omega
              · exact unhide HA i (by omega)
            case measure => simp [intOf]; omega
      · have HA := hide hall
        clear hall
        go_wp2
        go_ret
        refine ⟨?_, rfl⟩
        rw [fewB, decide_eq_true ⟨h8, fun i hi => unhide HA i (by omega)⟩]
        rfl
  · have d8 : decide ((8 : Int) < (n : Int)) = true := decide_eq_true (by omega)
    go_enter Try.func32, Try.ntmps32
    go_wp2
    go_ret
    refine ⟨?_, rfl⟩
    rw [fewB, decide_eq_false (fun q => h8 q.1)]
    rfl
theorem nodes_any (F : Nat → Int) (v : Value) (n : Nat) (w : World) (h : Sl .i64 w v n F) :
    Calls Try.prog 22 #[v] w fun e w' => e = .returned (.bool (fewB F n)) ∧ w' = w := by
  obtain ⟨p, cap, rfl, hc1, hc2⟩ := h.shape
  unfold maxLen at hc2
  have H := hide h
  clear h
  go_enter Try.func22, Try.ntmps22
  go_wp2
  go_loop [3] (fun xi => ∃ k : Nat, k ≤ n ∧ xi = .int .i64 k ∧ ∀ i, i < k → 0 ≤ F i ∧ F i ≤ 7) (fun i => n - (intOf i).toNat)
  case atStart => exact ⟨0, by omega, rfl, fun i hi => by omega⟩
  case round =>
    obtain ⟨k, hk, rfl, hall⟩ := hrel
    have HA := hide hall
    clear hall
    by_cases hlt : k < n
    · obtain ⟨b, off, rfl, _, hcell⟩ := (unhide H).some (by omega)
      have hck := hcell k hlt
      clear hcell
      obtain ⟨x, hx⟩ : ∃ x, x = F k := ⟨_, rfl⟩
      rw [← hx] at hck
      have HX := hide hx
      clear hx
      by_cases h0 : 0 ≤ x ∧ x ≤ 7
      · have d0 : decide (0 ≤ x) = true := decide_eq_true h0.1
        have d1 : decide (x ≤ 7) = true := decide_eq_true h0.2
        go_wp2_with (go_at_call 19; refine (isNode_any _ _).mono ?_; rw [d0, d1]; rintro e w1 ⟨rfl, rfl⟩)
        go_round
        case rel =>
          refine ⟨k + 1, by omega, by go_num, fun i hi => ?_⟩
          by_cases e : i = k
          · rw [e, ← unhide HX]; exact h0
          · exact unhide HA i (by omega)
        case measure => simp [intOf]; omega
      · have d0 : (decide (0 ≤ x) && decide (x ≤ 7)) = false := by rw [← Bool.decide_and]; exact decide_eq_false h0
        go_wp2_with (go_at_call 19; refine (isNode_any _ _).mono ?_; rw [d0]; rintro e w1 ⟨rfl, rfl⟩)
        go_ret
        refine ⟨?_, rfl⟩
        rw [fewB, decide_eq_false (fun q => by have := q.2 k hlt; rw [← unhide HX] at this; exact h0 this)]
        rfl
    · go_wp2
      go_ret
      refine ⟨?_, rfl⟩
      have e8 : decide ((n : Int) ≤ 8) = fewB F n := decide_eq_decide.2 ⟨fun q => ⟨by omega, fun i hi => unhide HA i (by omega)⟩, fun q => by have := q.1; omega⟩
      rw [← e8]
      simp
end Go.Proofs.Ytokgbolmjfmfpaa
