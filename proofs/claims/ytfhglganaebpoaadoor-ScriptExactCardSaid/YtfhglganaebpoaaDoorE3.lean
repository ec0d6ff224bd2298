/- Walks of within, first. -/
import Derived.Test.YtfhglganaebpoaaDoorE2
namespace Go.Proofs.YtfhglganaebpoaaDoor
open Go.RowKit

/-- A number's bounds. -/
def inB (n lo hi : Int) : Bool := decide (lo ≤ n ∧ n ≤ hi)
theorem inB_true {n lo hi : Int} (h : lo ≤ n ∧ n ≤ hi) : inB n lo hi = true := by unfold inB; exact decide_eq_true h
theorem inB_false {n lo hi : Int} (h : ¬ (lo ≤ n ∧ n ≤ hi)) : inB n lo hi = false := by unfold inB; exact decide_eq_false h
theorem inB_iff {n lo hi : Int} : inB n lo hi = true ↔ lo ≤ n ∧ n ≤ hi := by unfold inB; exact decide_eq_true_iff
/-- What within answers. -/
def wi (s : Value) (n lo hi : Int) (e : Addr) : Value := if inB n lo hi then .nilIface else feV s e
theorem within_any (s : ByteArray) (n lo hi : Int) (e : Addr) (w : World) (hG : Glob w e) : Calls Tryd.prog 25 #[.string s, .int .i64 n, .int .i64 lo, .int .i64 hi] w fun ev w' => ev = .returned (wi (.string s) n lo hi e) ∧ w' = w := by
  have g0 := hG.2.1
  by_cases h1 : lo ≤ n
  · by_cases h2 : n ≤ hi
    · rw [show wi (.string s) n lo hi e = .nilIface by simp [wi, inB_true ⟨h1, h2⟩]]
      have e1 : decide (n < lo) = false := decide_eq_false (by omega)
      have e2 : decide (n > hi) = false := decide_eq_false (by omega)
      clear hG
      go_enter Tryd.func25, Tryd.ntmps25
      go_wp2
      go_ret
      exact ⟨rfl, rfl⟩
    · rw [show wi (.string s) n lo hi e = feV (.string s) e by simp [wi, inB_false (fun q => h2 q.2)]]
      have e1 : decide (n < lo) = false := decide_eq_false (by omega)
      have e2 : decide (n > hi) = true := decide_eq_true (by omega)
      clear hG
      go_enter Tryd.func25, Tryd.ntmps25
      go_wp2
      go_ret
      exact ⟨rfl, rfl⟩
  · rw [show wi (.string s) n lo hi e = feV (.string s) e by simp [wi, inB_false (fun q => h1 q.1)]]
    have e1 : decide (n < lo) = true := decide_eq_true (by omega)
    clear hG
    go_enter Tryd.func25, Tryd.ntmps25
    go_wp2
    go_ret
    exact ⟨rfl, rfl⟩
/-- The first of the first n that is an error. -/
def fst (V : Nat → Value) : Nat → Value
  | 0 => .nilIface
  | n + 1 => match fst V n with | .nilIface => V n | v => v
theorem fst_nil {V : Nat → Value} {k : Nat} (h : fst V k = .nilIface) : fst V (k + 1) = V k := by simp [fst, h]
theorem fst_keep {V : Nat → Value} {k n : Nat} {s : Value} {e : Addr} (h : fst V k = feV s e) (hk : k ≤ n) : fst V n = feV s e := by
  induction n with
  | zero => obtain rfl : k = 0 := by omega
            exact h
  | succ n ih =>
    by_cases hq : k ≤ n
    · simp [fst, ih hq, feV]
    · obtain rfl : k = n + 1 := by omega
      exact h
set_option maxHeartbeats 1000000 in
theorem first_any (V : Nat → Value) (e : Addr) (g n : Nat) (w : World) (hn : n ≤ 10) (_ : g < w.heap.size) (hc : ∀ i : Nat, i < n → w.cell? ⟨g, i, none⟩ = some (V i)) (hV : ∀ i, i < n → V i = .nilIface ∨ ∃ s, V i = feV s e) :
    Calls Tryd.prog 24 #[.slice (some ⟨g, 0, none⟩) n n] w fun ev w' => ev = .returned (fst V n) ∧ w' = w := by
  have HC := hide hc
  have HV := hide hV
  clear hc hV
  go_enter Tryd.func24, Tryd.ntmps24
  go_wp2
  go_loopw [7] (fun i w2 => ∃ k : Nat, k ≤ n ∧ i = .int .i64 k ∧ fst V k = .nilIface ∧ w2 = w) (fun i _ => n - (intOf i).toNat)
  case atStart => exact ⟨0, by omega, rfl, rfl, rfl⟩
  case round =>
    obtain ⟨k, hk, rfl, ha, hw⟩ := hrel
    obtain rfl := hw.symm
    by_cases hlt : k < n
    · have c0 := unhide HC k hlt
      rcases unhide HV k hlt with h0 | ⟨s, h0⟩
      · have N1 := hide (show fst V (k + 1) = .nilIface by rw [fst_nil ha, h0])
        rw [h0] at c0
        clear h0 ha
        go_wp2
        go_roundw
        case rel => exact ⟨k + 1, by omega, by go_num, unhide N1, trivial⟩
        case measure => simp [intOf]; omega
      · have R := hide (show fst V n = feV s e from fst_keep (k := k + 1) (by rw [fst_nil ha, h0]) (by omega))
        rw [h0] at c0
        unfold feV at c0
        clear h0 ha
        go_wp2
        go_ret
        exact ⟨by rw [unhide R]; rfl, rfl⟩
    · obtain rfl : k = n := by omega
      have R := hide ha
      clear ha
      go_wp2
      go_ret
      exact ⟨by rw [unhide R]; rfl, rfl⟩
end Go.Proofs.YtfhglganaebpoaaDoor
