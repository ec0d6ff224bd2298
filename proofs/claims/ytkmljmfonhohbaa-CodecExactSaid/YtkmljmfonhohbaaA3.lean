/- Walks of keep.Bytes, keep.Ints, of what is the same. -/
import Derived.Test.YtkmljmfonhohbaaA2
namespace Go.Proofs.Ytkmljmfonhohbaa
open Go.RowKit

set_option maxRecDepth 100000 in
theorem bytes_t (F : Nat → Int) (va vb : Value) (n : Nat) (w : World) (ha : Sl .u8 w va n F) (hb : Sl .u8 w vb n F) :
    Calls Try.prog 13 #[va, vb] w fun e w' => e = .returned (.bool true) ∧ ∃ m, w' = w.drewN m := by
  obtain ⟨pa, ca, rfl, la, ka⟩ := ha.shape
  obtain ⟨pb, cb, rfl, lb, kb⟩ := hb.shape
  unfold maxLen at ka kb
  have HA := hide ha
  have HB := hide hb
  clear ha hb
  go_enter Try.func13, Try.ntmps13
  go_wp2
  go_loopw [5] (fun xi w1 => ∃ k : Nat, k ≤ n ∧ xi = .int .i64 k ∧ ∃ m, w1 = w.drewN m) (fun i _ => n - (intOf i).toNat)
  case atStart => exact ⟨0, by omega, rfl, 0, rfl⟩
  case round =>
    obtain ⟨k, hk, rfl, m, hW⟩ := hrel
    by_cases hlt : k < n
    · obtain ⟨ba, oa, rfl, _, hca⟩ := (unhide HA).some (by omega)
      obtain ⟨bb, ob, rfl, _, hcb⟩ := (unhide HB).some (by omega)
      have c1 : wr.cell? ⟨ba, oa + k, none⟩ = some (.int .u8 (F k)) := by rw [hW]; exact hca k hlt
      have c2 : wr.cell? ⟨bb, ob + k, none⟩ = some (.int .u8 (F k)) := by rw [hW]; exact hcb k hlt
      have HW := hide hW
      clear hW hca hcb
      go_wp2
      go_quiet (fail)
      go_wp2
      go_roundw
      case rel => exact ⟨k + 1, by omega, by go_num, m + nq, by rw [unhide HW, World.drewN_drewN]⟩
      case measure => simp [intOf]; omega
    · subst hW
      go_wp2
      go_ret
      exact ⟨rfl, m, rfl⟩
set_option maxRecDepth 100000 in
theorem ints_t (F : Nat → Int) (va vb : Value) (n : Nat) (w : World) (ha : Sl .i64 w va n F) (hb : Sl .i64 w vb n F) :
    Calls Try.prog 14 #[va, vb] w fun e w' => e = .returned (.bool true) ∧ ∃ m, w' = w.drewN m := by
  obtain ⟨pa, ca, rfl, la, ka⟩ := ha.shape
  obtain ⟨pb, cb, rfl, lb, kb⟩ := hb.shape
  unfold maxLen at ka kb
  have HA := hide ha
  have HB := hide hb
  clear ha hb
  go_enter Try.func14, Try.ntmps14
  go_wp2
  go_loopw [5] (fun xi w1 => ∃ k : Nat, k ≤ n ∧ xi = .int .i64 k ∧ ∃ m, w1 = w.drewN m) (fun i _ => n - (intOf i).toNat)
  case atStart => exact ⟨0, by omega, rfl, 0, rfl⟩
  case round =>
    obtain ⟨k, hk, rfl, m, hW⟩ := hrel
    by_cases hlt : k < n
    · obtain ⟨ba, oa, rfl, _, hca⟩ := (unhide HA).some (by omega)
      obtain ⟨bb, ob, rfl, _, hcb⟩ := (unhide HB).some (by omega)
      have c1 : wr.cell? ⟨ba, oa + k, none⟩ = some (.int .i64 (F k)) := by rw [hW]; exact hca k hlt
      have c2 : wr.cell? ⟨bb, ob + k, none⟩ = some (.int .i64 (F k)) := by rw [hW]; exact hcb k hlt
      have HW := hide hW
      clear hW hca hcb
      go_wp2
      go_quiet (fail)
      go_wp2
      go_roundw
      case rel => exact ⟨k + 1, by omega, by go_num, m + nq, by rw [unhide HW, World.drewN_drewN]⟩
      case measure => simp [intOf]; omega
    · subst hW
      go_wp2
      go_ret
      exact ⟨rfl, m, rfl⟩
theorem below_drewN {B : Nat} {a w : World} (h : Below B a w) (n : Nat) : Below B a (w.drewN n) := ⟨h.os, h.tape, h.output, h.size, h.block⟩
theorem bytes_b (F : Nat → Int) (va vb : Value) (n : Nat) (w : World) (ha : Sl .u8 w va n F) (hb : Sl .u8 w vb n F) :
    Calls Try.prog 13 #[va, vb] w fun e w' => e = .returned (.bool true) ∧ Below w.heap.size w w' := by
  refine (bytes_t F va vb n w ha hb).mono ?_
  rintro e w' ⟨rfl, m, rfl⟩
  exact ⟨rfl, below_drewN (Below.refl _ _) m⟩
theorem ints_b (F : Nat → Int) (va vb : Value) (n : Nat) (w : World) (ha : Sl .i64 w va n F) (hb : Sl .i64 w vb n F) :
    Calls Try.prog 14 #[va, vb] w fun e w' => e = .returned (.bool true) ∧ Below w.heap.size w w' := by
  refine (ints_t F va vb n w ha hb).mono ?_
  rintro e w' ⟨rfl, m, rfl⟩
  exact ⟨rfl, below_drewN (Below.refl _ _) m⟩
end Go.Proofs.Ytkmljmfonhohbaa
