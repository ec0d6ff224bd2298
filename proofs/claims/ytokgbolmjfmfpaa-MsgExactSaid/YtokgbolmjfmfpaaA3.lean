/- Walk of keep.Ints. -/
import Derived.Test.YtokgbolmjfmfpaaA1
namespace Go.Proofs.Ytokgbolmjfmfpaa
open Go.RowKit

/-- The same numbers. -/
def eqB (F : Nat → Int) (n : Nat) (G : Nat → Int) (k : Nat) : Bool := decide (n = k ∧ ∀ i, i < n → F i = G i)
set_option maxRecDepth 100000 in
theorem ints_any (F G : Nat → Int) (va vb : Value) (n k : Nat) (w : World) (ha : Sl .i64 w va n F) (hb : Sl .i64 w vb k G) :
    Calls Try.prog 15 #[va, vb] w fun e w' => e = .returned (.bool (eqB F n G k)) ∧ ∃ m, w' = w.drewN m := by
  obtain ⟨pa, ca, rfl, la, ka⟩ := ha.shape
  obtain ⟨pb, cb, rfl, lb, kb⟩ := hb.shape
  unfold maxLen at ka kb
  have HA := hide ha
  have HB := hide hb
  clear ha hb
  by_cases hnk : n = k
  · subst hnk
    go_enter Try.func15, Try.ntmps15
    go_wp2
    go_loopw [5] (fun xi w1 => ∃ k : Nat, k ≤ n ∧ xi = .int .i64 k ∧ (∀ i, i < k → F i = G i) ∧ ∃ m, w1 = w.drewN m) (fun i _ => n - (intOf i).toNat)
    case atStart => exact ⟨0, by omega, rfl, fun i hi => by omega, 0, rfl⟩
    case round =>
      obtain ⟨k, hk, rfl, hall, m, hW⟩ := hrel
      have HL := hide hall
      clear hall
      by_cases hlt : k < n
      · obtain ⟨ba, oa, rfl, _, hca⟩ := (unhide HA).some (by omega)
        obtain ⟨bb, ob, rfl, _, hcb⟩ := (unhide HB).some (by omega)
        have c1 : wr.cell? ⟨ba, oa + k, none⟩ = some (.int .i64 (F k)) := by rw [hW]; exact hca k hlt
        have c2 : wr.cell? ⟨bb, ob + k, none⟩ = some (.int .i64 (G k)) := by rw [hW]; exact hcb k hlt
        have HW := hide hW
        clear hW hca hcb
        by_cases hx : F k = G k
        · have d1 : (F k != G k) = false := by simp [hx]
          have HX := hide hx
          clear hx
          go_wp2
          go_quiet (fail)
          go_wp2
          go_roundw
          case rel =>
            refine ⟨k + 1, by omega, by go_num, fun i hi => ?_, m + nq, by rw [unhide HW, World.drewN_drewN]⟩
            by_cases e : i = k
            · rw [e]; exact unhide HX
            · exact unhide HL i (by omega)
          case measure => simp [intOf]; omega
        · have d1 : (F k != G k) = true := by simp [hx]
          have HX := hide hx
          clear hx
          go_wp2
          go_quiet (fail)
          go_wp2
          go_ret
          refine ⟨?_, m + nq, by rw [unhide HW, World.drewN_drewN]⟩
          rw [eqB, decide_eq_false (fun q => unhide HX (q.2 k hlt))]
          rfl
      · subst hW
        go_wp2
        go_ret
        refine ⟨?_, m, rfl⟩
        rw [eqB, decide_eq_true ⟨rfl, fun i hi => unhide HL i (by omega)⟩]
        rfl
  · have d : ((n : Int) != (k : Int)) = true := by simp; omega
    go_enter Try.func15, Try.ntmps15
    go_wp2
    go_ret
    refine ⟨?_, 0, rfl⟩
    rw [eqB, decide_eq_false (fun q => hnk q.1)]
    rfl
theorem ints_b (F G : Nat → Int) (va vb : Value) (n k : Nat) (w : World) (ha : Sl .i64 w va n F) (hb : Sl .i64 w vb k G) :
    Calls Try.prog 15 #[va, vb] w fun e w' => e = .returned (.bool (eqB F n G k)) ∧ Below w.heap.size w w' := by
  refine (ints_any F G va vb n k w ha hb).mono ?_
  rintro e w' ⟨rfl, m, rfl⟩
  exact ⟨rfl, below_drewN (Below.refl _ _) m⟩
end Go.Proofs.Ytokgbolmjfmfpaa
