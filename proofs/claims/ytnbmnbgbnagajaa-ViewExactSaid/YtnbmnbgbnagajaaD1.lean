/- Slices of peers that came in. -/
import Derived.Test.YtnbmnbgbnagajaaA1
import Derived.Deep.SlicePairs
import Derived.Deep.DeepHandedRow
import Derived.ShutString
import Derived.ChangeOld
import Derived.ChangeSlices
import Derived.ProofKit
import Derived.OpenShut
import Derived.JoinedOf
import Derived.Carry
namespace Go.Proofs.Ytnbmnbgbnagajaa
open Go.ChangeShapes Go.WideShapes Go.ChangeAt Go.RowKit Go.Deep

theorem own0 : ownKnob Try.prog.godebug = none := by kernel_rfl
theorem laidOut : laidOutB Try.prog = true := by kernel_rfl
theorem c42 : Try.prog.cellsOf 42 = 2 := by kernel_rfl
theorem c3 : Try.prog.cellsOf 3 = 1 := by kernel_rfl
theorem open_peers {H : Type} {enc : TypeId × Value → H} {W : World} {base : Nat} {held : Bool} {a : Option Addr} {len cap : Nat} {d : DataW H} {p : List MemPlace}
    (h : ∃ fuel, DataW.trod enc Try.prog W base (fun _ => true) held fuel 22 (Value.slice a len cap).cells.toList = some (d, p)) : ∃ F : Nat → Int, Pe W (.slice a len cap) len F := by
  obtain ⟨fuel, hf⟩ := h
  rcases open_slice_pairs Try.underlying22 Try.underlying42 c42 rfl rfl c3 c3 hf with ⟨hcs, _⟩ | ⟨x, l, c, m, n, V0, V1, D0, D1, P0, P1, hcs, _, hl, hm, hmm, _, hx⟩
  · simp [Value.cells] at hcs
    obtain ⟨rfl, rfl, rfl⟩ := hcs
    exact ⟨fun _ => 0, .inl ⟨rfl, .inl rfl⟩⟩
  · simp [Value.cells] at hcs
    obtain ⟨rfl, rfl, rfl⟩ := hcs
    have hlm : m = cap := by simpa using hmm
    subst hlm
    by_cases h0 : len = 0
    · subst h0
      exact ⟨fun _ => 0, .inl ⟨rfl, .inr ⟨x, m, rfl, hm⟩⟩⟩
    · obtain ⟨b, off, spot⟩ := x
      have hc := (hx 0 (by omega)).1
      have hspot : spot = none := by simpa [Addr.add] using World.cell?_spot hc
      subst hspot
      have hc0 := block_lt_of_cell hc
      have each : ∀ i : Nat, ∃ f : Int × Int, i < len → W.cell? ⟨b, off + i * 2, none⟩ = some (.int .i64 f.1) ∧ W.cell? ⟨b, off + (i * 2 + 1), none⟩ = some (.int .i64 f.2) := by
        intro i
        by_cases hi : i < len
        · obtain ⟨q0, q1, q2, q3⟩ := hx i (by omega)
          obtain ⟨t, e0, _⟩ := DataW.trod_int Try.underlying3 q2
          obtain ⟨t', e1, _⟩ := DataW.trod_int Try.underlying3 q3
          have e0' := (List.cons.inj e0).1
          have e1' := (List.cons.inj e1).1
          rw [Addr.add_lit] at q0 q1
          exact ⟨⟨t, t'⟩, fun _ => ⟨by rw [q0, e0'], by rw [q1, e1']⟩⟩
        · exact ⟨⟨0, 0⟩, fun h => absurd h hi⟩
      obtain ⟨f, hf2⟩ : ∃ f : Nat → Int × Int, ∀ i, i < len → W.cell? ⟨b, off + i * 2, none⟩ = some (.int .i64 (f i).1) ∧ W.cell? ⟨b, off + (i * 2 + 1), none⟩ = some (.int .i64 (f i).2) :=
        ⟨fun i => Classical.choose (each i), fun i => Classical.choose_spec (each i)⟩
      refine ⟨fun j => if j % 2 = 0 then (f (j / 2)).1 else (f (j / 2)).2, .inr ⟨b, off, m, rfl, hl, hm, by simpa [Addr.add] using hc0, fun j hj => ?_⟩⟩
      obtain ⟨g1, g2⟩ := hf2 (j / 2) (by omega)
      dsimp only
      rcases Nat.mod_two_eq_zero_or_one j with hq | hq
      · rw [if_pos hq]
        rwa [show j / 2 * 2 = j by omega] at g1
      · rw [if_neg (by omega)]
        rwa [show j / 2 * 2 + 1 = j by omega] at g2
end Go.Proofs.Ytnbmnbgbnagajaa
