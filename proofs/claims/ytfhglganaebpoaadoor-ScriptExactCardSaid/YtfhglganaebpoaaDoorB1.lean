/- Walk of keep.Bytes of what is the same; the first bytes of a slice. -/
import Derived.Test.YtfhglganaebpoaaDoorS1
namespace Go.Proofs.YtfhglganaebpoaaDoor
open Go.RowKit

set_option maxHeartbeats 1000000 in
set_option maxRecDepth 100000 in
theorem bytes_same (F : Nat → Int) (v u : Value) (n : Nat) (w : World) (hv : Sl .u8 w v n F) (hu : Sl .u8 w u n F) : Calls Tryd.prog 13 #[v, u] w fun ev w' => ev = .returned (.bool true) ∧ Below w.heap.size w w' := by
  obtain ⟨p, c, rfl, hc1, hc2⟩ := hv.shape
  obtain ⟨q, d, rfl, hd1, hd2⟩ := hu.shape
  unfold maxLen at hc2
  have HV := hide hv
  have HU := hide hu
  clear hv hu hd1 hd2
  go_enter Tryd.func13, Tryd.ntmps13
  go_wp2
  go_loopw [5] (fun i w2 => ∃ k : Nat, k ≤ n ∧ i = .int .i64 k ∧ Below w.heap.size w w2) (fun i _ => n - (intOf i).toNat)
  case atStart => exact ⟨0, by omega, rfl, Below.refl _ _⟩
  case round =>
    obtain ⟨k, hk, rfl, hb⟩ := hrel
    by_cases hlt : k < n
    · obtain ⟨b, off, rfl, _, hcell⟩ := ((unhide HV).below hb (Nat.le_refl _)).some (by omega)
      obtain ⟨b', off', rfl, _, hcell'⟩ := ((unhide HU).below hb (Nat.le_refl _)).some (by omega)
      have q0 := hcell k hlt
      have r0 := hcell' k hlt
      have HB := hide hb
      clear hcell hcell' hb
      go_wp2
      go_quiet (fail)
      go_wp2
      go_roundw
      case rel => exact ⟨k + 1, by omega, by go_num, below_drewN (unhide HB) _⟩
      case measure => simp [intOf]; omega
    · obtain rfl : k = n := by omega
      have HB := hide hb
      clear hb
      go_wp2
      go_ret
      exact ⟨rfl, unhide HB⟩
theorem Sl.take {k : IntKind} {w : World} {p : Option Addr} {n c m : Nat} {F : Nat → Int} (h : Sl k w (.slice p n c) n F) (hm : m ≤ n) : Sl k w (.slice p m c) m F := by
  rcases h with ⟨rfl, h | ⟨x, cap, h, hc⟩⟩ | ⟨b, off, cap, h, h1, h2, h3, h4⟩
  · cases h
    obtain rfl : m = 0 := by omega
    exact .inl ⟨rfl, .inl rfl⟩
  · cases h
    obtain rfl : m = 0 := by omega
    exact .inl ⟨rfl, .inr ⟨x, c, rfl, hc⟩⟩
  · cases h
    by_cases h0 : m = 0
    · subst h0
      exact .inl ⟨rfl, .inr ⟨_, c, rfl, h2⟩⟩
    · exact .inr ⟨b, off, c, rfl, by omega, h2, h3, fun i hi => h4 i (by omega)⟩
set_option maxRecDepth 100000 in
/-- The first bytes. -/
theorem slice_to (p : Option Addr) (n c h : Nat) (z : Int) (hz : z = h) (hh : h ≤ n) (hc : n ≤ c) (w : World) : (Instr.slice 24 (.slice p n c) none (some (.int .i64 z)) none).run Tryd.prog w = .ok (.slice p h c) w := by
  subst hz
  obtain ⟨i, hi, hz0, hz1, hz2⟩ := info_parts info5
  have hu : Tryd.prog.underlying 24 = some (.slice 5) := Tryd.underlying24
  have z5 : ∀ w, (Go.sizeOf 5).run Tryd.prog w = .ok 1 w := fun w => by simp [Go.sizeOf, typeInfo, hi, hz1]
  rw [run_slice_h (P := Tryd.prog) (w := w) 24 _ _ _ (by rw [hu]; rfl) .i64 (h : Int) (by omega) (by omega)]
  simp only [show Tryd.prog.elem 24 = 5 from rfl, z5, Result.andThen, sliced]
  cases p with
  | none => simp
  | some x =>
    obtain ⟨b, off, spot⟩ := x
    have : (⟨b, off, spot⟩ : Addr).add (0 * 1) = ⟨b, off, spot⟩ := by unfold Addr.add; simp
    simp [Option.map, this]
end Go.Proofs.YtfhglganaebpoaaDoor
