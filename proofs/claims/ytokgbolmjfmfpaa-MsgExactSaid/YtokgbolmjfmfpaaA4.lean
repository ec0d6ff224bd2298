/- Walk of the page's Unlike. -/
import Derived.Test.YtokgbolmjfmfpaaA1
namespace Go.Proofs.Ytokgbolmjfmfpaa
open Go.RowKit

/-- All numbers are unlike. -/
abbrev Unl (F : Nat → Int) (n : Nat) : Prop := ∀ i, i < n → ∀ j, j < i → F j ≠ F i
def unB (F : Nat → Int) (n : Nat) : Bool := decide (Unl F n)
set_option maxRecDepth 100000 in
set_option maxHeartbeats 1000000 in
theorem runlike_any (F : Nat → Int) (va : Value) (n : Nat) (w : World) (ha : Sl .i64 w va n F) :
    Calls Try.prog 14 #[va] w fun e w' => e = .returned (.bool (unB F n)) ∧ ∃ m, w' = w.drewN m := by
  obtain ⟨pa, ca, rfl, la, ka⟩ := ha.shape
  unfold maxLen at ka
  have HA := hide ha
  clear ha
  go_enter Try.func14, Try.ntmps14
  go_wp2
  go_loopw [3] (fun xi w1 => ∃ k : Nat, k ≤ n ∧ xi = .int .i64 k ∧ Unl F k ∧ ∃ m, w1 = w.drewN m) (fun i _ => n - (intOf i).toNat)
  case atStart => exact ⟨0, by omega, rfl, fun i hi => by omega, 0, rfl⟩
  case round =>
    obtain ⟨k, hk, rfl, hall, m, hW⟩ := hrel
    have HL := hide hall
    clear hall
    by_cases hlt : k < n
    · obtain ⟨ba, oa, rfl, _, hca⟩ := (unhide HA).some (by omega)
      have HC := hide hca
      have HW := hide hW
      clear hW hca
      go_wp2
      go_loopw [4] (fun xi w1 => ∃ l : Nat, l ≤ k ∧ xi = .int .i64 l ∧ (∀ j, j < l → F j ≠ F k) ∧ ∃ m, w1 = w.drewN m) (fun i _ => k - (intOf i).toNat)
      case atStart => exact ⟨0, by omega, rfl, fun i hi => by omega, m, unhide HW⟩
      case round =>
        obtain ⟨l, hl, rfl, hall2, m2, hW2⟩ := hrel
        have HL2 := hide hall2
        clear hall2
        by_cases hlt2 : l < k
        · have c1 : wr.cell? ⟨ba, oa + k, none⟩ = some (.int .i64 (F k)) := by rw [hW2]; exact unhide HC k hlt
          have c2 : wr.cell? ⟨ba, oa + l, none⟩ = some (.int .i64 (F l)) := by rw [hW2]; exact unhide HC l (by omega)
          have HW2 := hide hW2
          clear hW2
          by_cases hx : F l = F k
          · have d1 : (F l == F k) = true := by simp [hx]
            have HX := hide hx
            clear hx
            go_wp2
            go_quiet (fail)
            go_wp2
            go_ret
            refine ⟨?_, m2 + nq, by rw [unhide HW2, World.drewN_drewN]⟩
            rw [unB, decide_eq_false (fun q => q k hlt l hlt2 (unhide HX))]
            rfl
          · have d1 : (F l == F k) = false := by simp [hx]
            have HX := hide hx
            clear hx
            go_wp2
            go_quiet (fail)
            go_wp2
            go_roundw
            case rel =>
              refine ⟨l + 1, by omega, by go_num, fun i hi => ?_, m2 + nq, by rw [unhide HW2, World.drewN_drewN]⟩
              by_cases e : i = l
              · rw [e]; exact unhide HX
              · exact unhide HL2 i (by omega)
            case measure => simp [intOf]; omega
        · go_wp2
          go_roundw
          case rel =>
            refine ⟨k + 1, by omega, by go_num, fun i hi j hj => ?_, m2, by first | exact hW2 | rfl⟩
            by_cases e : i = k
            · rw [e]; exact unhide HL2 j (by omega)
            · exact unhide HL i (by omega) j hj
          case measure => simp [intOf]; omega
    · subst hW
      go_wp2
      go_ret
      refine ⟨?_, m, rfl⟩
      obtain rfl : k = n := by omega
      rw [unB, decide_eq_true (unhide HL)]
      rfl
end Go.Proofs.Ytokgbolmjfmfpaa
