/- Walk of keep.Steps of what is the same. -/
import Derived.Test.YtfhglganaebpoaaDoorS1
namespace Go.Proofs.YtfhglganaebpoaaDoor
open Go.RowKit

set_option maxHeartbeats 1000000 in
set_option maxRecDepth 100000 in
theorem steps_same (F : Nat → Int) (v u : Value) (n : Nat) (w : World) (hv : Ss w v n F) (hu : Ss w u n F) : Calls Tryd.prog 14 #[v, u] w fun ev w' => ev = .returned (.bool true) ∧ Below w.heap.size w w' := by
  obtain ⟨p, c, rfl, hc1, hc2⟩ := hv.shape
  obtain ⟨q, d, rfl, hd1, hd2⟩ := hu.shape
  unfold maxLen at hc2
  have HV := hide hv
  have HU := hide hu
  clear hv hu hd1 hd2
  go_enter Tryd.func14, Tryd.ntmps14
  go_wp2
  go_loopw [5] (fun i w2 => ∃ k : Nat, k ≤ n ∧ i = .int .i64 k ∧ Below w.heap.size w w2) (fun i _ => n - (intOf i).toNat)
  case atStart => exact ⟨0, by omega, rfl, Below.refl _ _⟩
  case round =>
    obtain ⟨k, hk, rfl, hb⟩ := hrel
    by_cases hlt : k < n
    · obtain ⟨b, off, rfl, _, hcell⟩ := ((unhide HV).below hb (Nat.le_refl _)).some (by omega)
      obtain ⟨b', off', rfl, _, hcell'⟩ := ((unhide HU).below hb (Nat.le_refl _)).some (by omega)
      obtain ⟨q0, q1, q2, q3, q4⟩ := Ss.five hcell k hlt
      obtain ⟨r0, r1, r2, r3, r4⟩ := Ss.five hcell' k hlt
      have HB := hide hb
      clear hcell hcell' hb
      go_wp2
      go_quiet (fail)
      go_wp2
      go_roundw
      case rel => exact ⟨k + 1, by omega, by go_num, below_drewN (unhide HB) _⟩
      case measure => simp [intOf]; omega
    · obtain rfl : k = n := by omega
      have HB := hide hb
      clear hb
      go_wp2
      go_ret
      exact ⟨rfl, unhide HB⟩
end Go.Proofs.YtfhglganaebpoaaDoor
