/- Walk of keep.Bytes, of bytes that are the same. -/
import Derived.Test.YtaojifgbnllebaaDoorR6
namespace Go.Proofs.YtaojifgbnllebaaDoor
open Go.RowKit

theorem bsl_slice {w : World} {v : Value} {n : Nat} {F : Nat → Int} (h : BSl w v n F) : ∃ p cap, v = .slice p n cap := by
  rcases h with ⟨rfl, rfl | ⟨x, cap, rfl, _⟩⟩ | ⟨b, off, cap, rfl, _⟩
  · exact ⟨_, _, rfl⟩
  · exact ⟨_, _, rfl⟩
  · exact ⟨_, _, rfl⟩
theorem bsl_some {w : World} {p : Option Addr} {cap n : Nat} {F : Nat → Int} (h : BSl w (.slice p n cap) n F) (hn : 0 < n) : ∃ b off, p = some ⟨b, off, none⟩ ∧ b < w.heap.size ∧ ∀ i : Nat, i < n → w.cell? ⟨b, off + i, none⟩ = some (.int .u8 (F i)) := by
  rcases h with ⟨h0, _⟩ | ⟨b, off, cap', he, _, _, h3, h4⟩
  · omega
  · cases he
    exact ⟨b, off, rfl, h3, h4⟩

set_option maxRecDepth 100000 in
theorem bytes_any (F : Nat → Int) (va vb : Value) (n : Nat) (w : World) (ha : BSl w va n F) (hb : BSl w vb n F) (hn : n ≤ 100000) :
    Calls Tryd.prog 9 #[va, vb] w fun e w' => e = .returned (.bool true) ∧ ∃ m, w' = w.drewN m := by
  obtain ⟨pa, ca, rfl⟩ := bsl_slice ha
  obtain ⟨pb, cb, rfl⟩ := bsl_slice hb
  have HA := hide ha
  have HB := hide hb
  clear ha hb
  go_enter Tryd.func9, Tryd.ntmps9
  go_wp2
  go_loopw [5] (fun xi w1 => ∃ k : Nat, k ≤ n ∧ xi = .int .i64 k ∧ ∃ m, w1 = w.drewN m) (fun i _ => n - (intOf i).toNat)
  case atStart => exact ⟨0, by omega, rfl, 0, rfl⟩
  case round =>
    obtain ⟨k, hk, rfl, m, hW⟩ := hrel
    by_cases hlt : k < n
    · obtain ⟨ba, oa, rfl, _, hca⟩ := bsl_some (unhide HA) (by omega)
      obtain ⟨bb, ob, rfl, _, hcb⟩ := bsl_some (unhide HB) (by omega)
      have c1 : wr.cell? ⟨ba, oa + k, none⟩ = some (.int .u8 (F k)) := by rw [hW]; exact hca k hlt
      have c2 : wr.cell? ⟨bb, ob + k, none⟩ = some (.int .u8 (F k)) := by rw [hW]; exact hcb k hlt
      have HW := hide hW
      clear hW hca hcb
      go_wp2
      go_quiet (fail)
      go_wp2
      go_roundw
      case rel => exact ⟨k + 1, by omega, by go_num, m + nq, by rw [unhide HW, World.drewN_drewN]⟩
      case measure => simp [intOf]; omega
    · subst hW
      go_wp2
      go_ret
      exact ⟨rfl, m, rfl⟩
end Go.Proofs.YtaojifgbnllebaaDoor
