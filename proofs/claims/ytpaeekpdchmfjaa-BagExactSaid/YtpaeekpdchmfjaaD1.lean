/- Frames, lists of frames and slices of numbers that came in. -/
import Derived.Test.YtpaeekpdchmfjaaA1
import Derived.Deep.SlicePairs
import Derived.Deep.DeepHandedRow
import Derived.ShutString
import Derived.ChangeOld
import Derived.ChangeSlices
import Derived.ProofKit
import Derived.OpenShut
import Derived.JoinedOf
import Derived.Carry
namespace Go.Proofs.Ytpaeekpdchmfjaa
open Go.ChangeShapes Go.WideShapes Go.ChangeAt Go.RowKit Go.Deep

theorem own0 : ownKnob Try.prog.godebug = none := by kernel_rfl
theorem laidOut : laidOutB Try.prog = true := by kernel_rfl
/-- A slice of numbers that came in. -/
def IsRow (k : IntKind) (w : World) (a : Option Addr) (len cap : Nat) (zs : List Int) : Prop :=
  (a = none ∧ len = 0 ∧ cap = 0 ∧ zs = []) ∨
  ∃ x, a = some x ∧ len ≤ cap ∧ cap ≤ maxLen ∧ zs.length = cap ∧ (∀ i, i < zs.length → w.cell? (x.add i) = some (.int k (zs.getD i 0))) ∧ ∀ n ∈ zs, (Lit.int k n).wf = true
def rowF (zs : List Int) (i : Nat) : Int := zs.getD i 0
theorem IsRow.bd {w : World} {a : Option Addr} {len cap : Nat} {zs : List Int} (h : IsRow .u8 w a len cap zs) (i : Nat) : 0 ≤ rowF zs i ∧ rowF zs i < 256 := by
  have hwf : ∀ n ∈ zs, (Lit.int .u8 n).wf = true := by
    rcases h with ⟨_, _, _, rfl⟩ | ⟨x, _, _, _, _, _, h⟩
    · simp
    · exact h
  unfold rowF
  simp only [List.getD]
  cases hq : zs[i]? with
  | none => simp
  | some n =>
    have := hwf n (List.mem_of_getElem? hq)
    simp [Lit.wf, IntKind.min, IntKind.max, IntKind.signed, IntKind.bits] at this
    simp
    omega
theorem IsRow.wd {w : World} {a : Option Addr} {len cap : Nat} {zs : List Int} (h : IsRow .i64 w a len cap zs) (i : Nat) : -9223372036854775808 ≤ rowF zs i ∧ rowF zs i ≤ 9223372036854775807 := by
  have hwf : ∀ n ∈ zs, (Lit.int .i64 n).wf = true := by
    rcases h with ⟨_, _, _, rfl⟩ | ⟨x, _, _, _, _, _, h⟩
    · simp
    · exact h
  unfold rowF
  simp only [List.getD]
  cases hq : zs[i]? with
  | none => simp
  | some n =>
    have := hwf n (List.mem_of_getElem? hq)
    simp [Lit.wf, IntKind.min, IntKind.max, IntKind.signed, IntKind.bits] at this
    simp
    omega
theorem IsRow.sl {k : IntKind} {w : World} {a : Option Addr} {len cap : Nat} {zs : List Int} (h : IsRow k w a len cap zs) : Sl k w (.slice a len cap) len (rowF zs) := by
  rcases h with ⟨rfl, rfl, rfl, rfl⟩ | ⟨x, rfl, h1, h2, h3, h4, _⟩
  · exact .inl ⟨rfl, .inl rfl⟩
  · by_cases h0 : len = 0
    · subst h0
      exact .inl ⟨rfl, .inr ⟨x, cap, rfl, by omega⟩⟩
    · obtain ⟨b, off, spot⟩ := x
      have hc := h4 0 (by omega)
      have hspot : spot = none := by simpa [Addr.add] using World.cell?_spot hc
      subst hspot
      have hc0 := block_lt_of_cell hc
      refine .inr ⟨b, off, cap, rfl, h1, h2, by simpa [Addr.add] using hc0, fun i hi => ?_⟩
      have := h4 i (by omega)
      rwa [Addr.add_lit] at this
theorem row8 {H : Type} {enc : TypeId × Value → H} {W : World} {base fuel : Nat} {held : Bool} {u : Value} {x : DataW H × List MemPlace}
    (hf : DataW.trod enc Try.prog W base (fun _ => true) held fuel 23 [u] = some x) : ∃ a len cap zs, u = .slice a len cap ∧ IsRow .u8 W a len cap zs := by
  rcases open_ints Try.underlying23 Try.underlying5 (by kernel_rfl) hf with ⟨hcs, _⟩ | ⟨x, l, c, zs, hcs, _, hl, hm, hz, _, hcell, hwz⟩
  · exact ⟨none, 0, 0, [], (List.cons.inj hcs).1, .inl ⟨rfl, rfl, rfl, rfl⟩⟩
  · exact ⟨some x, l, c, zs, (List.cons.inj hcs).1, .inr ⟨_, rfl, hl, hm, by simpa using hz, hcell, hwz⟩⟩
theorem open_row64 {H : Type} {enc : TypeId × Value → H} {W : World} {base : Nat} {held : Bool} {a : Option Addr} {len cap : Nat} {d : DataW H} {p : List MemPlace}
    (h : ∃ fuel, DataW.trod enc Try.prog W base (fun _ => true) held fuel 43 (Value.slice a len cap).cells.toList = some (d, p)) : ∃ zs, IsRow .i64 W a len cap zs := by
  obtain ⟨fuel, hf⟩ := h
  rcases open_ints Try.underlying43 Try.underlying3 (by kernel_rfl) hf with ⟨hcs, _⟩ | ⟨x, l, c, zs, hcs, _, hl, hm, hz, _, hcell, hwz⟩
  · simp [Value.cells] at hcs
    obtain ⟨rfl, rfl, rfl⟩ := hcs
    exact ⟨[], .inl ⟨rfl, rfl, rfl, rfl⟩⟩
  · simp [Value.cells] at hcs
    obtain ⟨rfl, rfl, rfl⟩ := hcs
    exact ⟨zs, .inr ⟨_, rfl, hl, hm, by simpa using hz, hcell, hwz⟩⟩
/-- A frame of bytes. -/
def Fm.ok (f : Fm) : Prop := ∀ j, 0 ≤ f.b j ∧ f.b j < 256
theorem c25 : Try.prog.cellsOf 25 = 2 := by kernel_rfl
theorem c3 : Try.prog.cellsOf 3 = 1 := by kernel_rfl
theorem c23 : Try.prog.cellsOf 23 = 1 := by kernel_rfl
theorem open_frame {H : Type} {enc : TypeId × Value → H} {W : World} {r : Reach} {base b0 : Nat} {held : Bool} {v : Value} {d : DataW H} {p : List MemPlace}
    (hv : Value.okWide Try.prog W r b0 25 v) (h : ∃ fuel, DataW.trod enc Try.prog W base (fun _ => true) held fuel 25 v.cells.toList = some (d, p)) :
    ∃ (f : Fm) (a : Option Addr) (c : Nat), v = .agg #[.int .i64 f.t, .slice a f.n c] ∧ Sl .u8 W (.slice a f.n c) f.n f.b ∧ f.ok := by
  obtain ⟨cs, rfl, hs⟩ := okWide_struct Try.underlying25 hv
  obtain ⟨fuel, hf⟩ := h
  rw [c25] at hs
  obtain ⟨xs, m, _, _, hl, hlen, hx⟩ := DataW.trod_struct Try.underlying25 hf
  have hlen' : xs.length = 2 := hlen
  obtain ⟨l⟩ := cs
  match l, hs, xs, hlen' with
  | [a0, a1], _, [x0, x1], _ =>
    have q0 : DataW.trod enc Try.prog W base (fun _ => true) held m 3 (([a0, a1].drop 0).take (Try.prog.cellsOf 3)) = some x0 := hx 0 _ rfl
    rw [c3] at q0
    obtain ⟨n, e0, _⟩ := DataW.trod_int Try.underlying3 q0
    have q1 : DataW.trod enc Try.prog W base (fun _ => true) held m 23 (([a0, a1].drop 1).take (Try.prog.cellsOf 23)) = some x1 := hx 1 _ rfl
    rw [c23] at q1
    obtain ⟨a, len, cap, zs, e1, hr⟩ := row8 (u := a1) q1
    obtain rfl := (List.cons.inj e0).1
    subst e1
    exact ⟨⟨n, len, rowF zs⟩, a, cap, rfl, hr.sl, hr.bd⟩
theorem open_frames {H : Type} {enc : TypeId × Value → H} {W : World} {base : Nat} {held : Bool} {a : Option Addr} {len cap : Nat} {d : DataW H} {p : List MemPlace}
    (h : ∃ fuel, DataW.trod enc Try.prog W base (fun _ => true) held fuel 22 (Value.slice a len cap).cells.toList = some (d, p)) : ∃ X : Nat → Fm, Fs W (.slice a len cap) len X ∧ ∀ i, (X i).ok := by
  obtain ⟨fuel, hf⟩ := h
  have z0 : ∀ i : Nat, ((fun _ => ⟨0, 0, fun _ => 0⟩ : Nat → Fm) i).ok := fun _ _ => ⟨Int.le_refl 0, show (0 : Int) < 256 by decide⟩
  rcases open_slice_pairs Try.underlying22 Try.underlying25 c25 rfl rfl c3 c23 hf with ⟨hcs, _⟩ | ⟨x, l, c, m, n, V0, V1, D0, D1, P0, P1, hcs, _, hl, hm, hmm, _, hx⟩
  · simp [Value.cells] at hcs
    obtain ⟨rfl, rfl, rfl⟩ := hcs
    exact ⟨fun _ => ⟨0, 0, fun _ => 0⟩, .inl ⟨rfl, .inl rfl⟩, z0⟩
  · simp [Value.cells] at hcs
    obtain ⟨rfl, rfl, rfl⟩ := hcs
    have hlm : m = cap := by simpa using hmm
    subst hlm
    by_cases h0 : len = 0
    · subst h0
      exact ⟨fun _ => ⟨0, 0, fun _ => 0⟩, .inl ⟨rfl, .inr ⟨x, m, rfl, hm⟩⟩, z0⟩
    · obtain ⟨b, off, spot⟩ := x
      have hc := (hx 0 (by omega)).1
      have hspot : spot = none := by simpa [Addr.add] using World.cell?_spot hc
      subst hspot
      have hc0 := block_lt_of_cell hc
      have each : ∀ i : Nat, ∃ f : Fm, f.ok ∧ (i < len → W.cell? ⟨b, off + i * 2, none⟩ = some (.int .i64 f.t) ∧ W.cell? ⟨b, off + i * 2 + 1, none⟩ = some (V1 i) ∧ Sl .u8 W (V1 i) f.n f.b) := by
        intro i
        by_cases hi : i < len
        · obtain ⟨q0, q1, q2, q3⟩ := hx i (by omega)
          obtain ⟨t, e0, _⟩ := DataW.trod_int Try.underlying3 q2
          obtain ⟨a', len', cap', zs, e1, hr⟩ := row8 q3
          have e0' := (List.cons.inj e0).1
          rw [Addr.add_lit] at q0 q1
          refine ⟨⟨t, len', rowF zs⟩, hr.bd, fun _ => ⟨by rw [q0, e0'], by rw [Nat.add_assoc, q1], ?_⟩⟩
          rw [e1]
          exact hr.sl
        · exact ⟨⟨0, 0, fun _ => 0⟩, z0 0, fun h => absurd h hi⟩
      refine ⟨fun i => Classical.choose (each i), .inr ⟨b, off, m, V1, rfl, hl, hm, by simpa [Addr.add] using hc0, fun i hi => ?_⟩, fun i => (Classical.choose_spec (each i)).1⟩
      exact (Classical.choose_spec (each i)).2 hi
end Go.Proofs.Ytpaeekpdchmfjaa
