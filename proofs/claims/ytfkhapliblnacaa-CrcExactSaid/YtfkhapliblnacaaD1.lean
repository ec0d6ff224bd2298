/- Slices that came in; what the rows of this seat want. -/
import Derived.Test.YtfkhapliblnacaaA5
import Derived.Deep.DeepHandedRow
import Derived.ShutString
import Derived.ChangeOld
import Derived.ChangeSlices
import Derived.ProofKit
import Derived.OpenShut
import Derived.JoinedOf
import Derived.Carry
namespace Go.Proofs.Ytfkhapliblnacaa
open Go.ChangeShapes Go.WideShapes Go.ChangeAt Go.RowKit

theorem own0 : ownKnob Try.prog.godebug = none := by kernel_rfl
theorem laidOut : laidOutB Try.prog = true := by kernel_rfl
/-- A slice of numbers that came in. -/
def IsRow (k : IntKind) (w : World) (a : Option Addr) (len cap : Nat) (zs : List Int) : Prop :=
  (a = none ∧ len = 0 ∧ cap = 0 ∧ zs = []) ∨
  ∃ x, a = some x ∧ len ≤ cap ∧ cap ≤ maxLen ∧ zs.length = cap ∧ (∀ i, i < zs.length → w.cell? (x.add i) = some (.int k (zs.getD i 0))) ∧ ∀ n ∈ zs, (Lit.int k n).wf = true
def rowF (zs : List Int) (i : Nat) : Int := zs.getD i 0
theorem IsRow.bd {w : World} {a : Option Addr} {len cap : Nat} {zs : List Int} (h : IsRow .u8 w a len cap zs) (i : Nat) : 0 ≤ rowF zs i ∧ rowF zs i < 256 := by
  have hwf : ∀ n ∈ zs, (Lit.int .u8 n).wf = true := by
    rcases h with ⟨_, _, _, rfl⟩ | ⟨x, _, _, _, _, _, h⟩
    · simp
    · exact h
  unfold rowF
  simp only [List.getD]
  cases hq : zs[i]? with
  | none => simp
  | some n =>
    have := hwf n (List.mem_of_getElem? hq)
    simp [Lit.wf, IntKind.min, IntKind.max, IntKind.signed, IntKind.bits] at this
    simp
    omega
theorem IsRow.sl {k : IntKind} {w : World} {a : Option Addr} {len cap : Nat} {zs : List Int} (h : IsRow k w a len cap zs) : Sl k w (.slice a len cap) len (rowF zs) := by
  rcases h with ⟨rfl, rfl, rfl, rfl⟩ | ⟨x, rfl, h1, h2, h3, h4, _⟩
  · exact .inl ⟨rfl, .inl rfl⟩
  · by_cases h0 : len = 0
    · subst h0
      exact .inl ⟨rfl, .inr ⟨x, cap, rfl, by omega⟩⟩
    · obtain ⟨b, off, spot⟩ := x
      have hc := h4 0 (by omega)
      have hspot : spot = none := by simpa [Addr.add] using World.cell?_spot hc
      subst hspot
      have hc0 := block_lt_of_cell hc
      refine .inr ⟨b, off, cap, rfl, h1, h2, by simpa [Addr.add] using hc0, fun i hi => ?_⟩
      have := h4 i (by omega)
      rwa [Addr.add_lit] at this
theorem IsRow.len {k : IntKind} {w : World} {a : Option Addr} {len cap : Nat} {zs : List Int} (h : IsRow k w a len cap zs) : len ≤ maxLen := by
  rcases h with ⟨_, rfl, _, _⟩ | ⟨x, _, h1, h2, _⟩
  · exact Nat.zero_le _
  · omega
theorem open_row8 {H : Type} {enc : TypeId × Value → H} {W : World} {base : Nat} {held : Bool} {a : Option Addr} {len cap : Nat} {d : DataW H} {p : List MemPlace}
    (h : ∃ fuel, DataW.trod enc Try.prog W base (fun _ => true) held fuel 22 (Value.slice a len cap).cells.toList = some (d, p)) : ∃ zs, IsRow .u8 W a len cap zs := by
  obtain ⟨fuel, hf⟩ := h
  rcases open_ints Try.underlying22 Try.underlying5 (by kernel_rfl) hf with ⟨hcs, _⟩ | ⟨x, l, c, zs, hcs, _, hl, hm, hz, _, hcell, hwz⟩
  · simp [Value.cells] at hcs
    obtain ⟨rfl, rfl, rfl⟩ := hcs
    exact ⟨[], .inl ⟨rfl, rfl, rfl, rfl⟩⟩
  · simp [Value.cells] at hcs
    obtain ⟨rfl, rfl, rfl⟩ := hcs
    exact ⟨zs, .inr ⟨_, rfl, hl, hm, by simpa using hz, hcell, hwz⟩⟩
/-- The bytes that came in, as natural numbers. -/
def rowD (zs : List Int) (i : Nat) : Nat := (rowF zs i).toNat
theorem IsRow.bs {w : World} {a : Option Addr} {len cap : Nat} {zs : List Int} (h : IsRow .u8 w a len cap zs) : Bs w (.slice a len cap) len (rowD zs) :=
  Sl.congr h.sl fun i _ => by have := h.bd i; unfold rowD; omega
theorem IsRow.lt {w : World} {a : Option Addr} {len cap : Nat} {zs : List Int} (h : IsRow .u8 w a len cap zs) (i : Nat) : rowD zs i < 256 := by
  have := h.bd i
  unfold rowD
  omega
theorem c31 : Try.prog.cellsOf 31 = 4 := by kernel_rfl
theorem c5 : Try.prog.cellsOf 5 = 1 := by kernel_rfl
theorem open_four {H : Type} {enc : TypeId × Value → H} {W : World} {r : Reach} {base b0 : Nat} {held : Bool} {v : Value} {d : DataW H} {p : List MemPlace}
    (hv : Value.okWide Try.prog W r b0 31 v) (h : ∃ fuel, DataW.trod enc Try.prog W base (fun _ => true) held fuel 31 v.cells.toList = some (d, p)) :
    ∃ x0 x1 x2 x3 : Nat, v = .agg #[.int .u8 (x0 : Int), .int .u8 (x1 : Int), .int .u8 (x2 : Int), .int .u8 (x3 : Int)] ∧ x0 < 256 ∧ x1 < 256 ∧ x2 < 256 ∧ x3 < 256 := by
  simp only [Value.okWide, Try.underlying31] at hv
  obtain ⟨cs, rfl, h2, _⟩ := hv
  obtain ⟨fuel, hf⟩ := h
  rw [c31] at h2
  obtain ⟨l⟩ := cs
  obtain ⟨xs, m, rfl, _, hl, hlen, hx⟩ := DataW.trod_array Try.underlying31 hf
  rw [c5] at hx
  match l, h2 with
  | [a, b, c, e], _ =>
    have g : ∀ (i : Nat) (u : Value), i < 4 → (([a, b, c, e] : List Value).drop (i * 1)).take 1 = [u] → ∃ n : Nat, u = .int .u8 (n : Int) ∧ n < 256 := by
      intro i u hi hu
      have h3 := hx i hi
      simp only [Value.cells] at h3
      rw [hu, List.getElem?_eq_getElem (by omega)] at h3
      obtain ⟨n, h4, _, h5⟩ := DataW.trod_int Try.underlying5 h3
      simp [Lit.wf, IntKind.min, IntKind.max, IntKind.signed, IntKind.bits] at h5
      refine ⟨n.toNat, ?_, by omega⟩
      rw [show ((n.toNat : Nat) : Int) = n by omega]
      exact (List.cons.inj h4).1
    obtain ⟨x0, rfl, k0⟩ := g 0 a (by omega) rfl
    obtain ⟨x1, rfl, k1⟩ := g 1 b (by omega) rfl
    obtain ⟨x2, rfl, k2⟩ := g 2 c (by omega) rfl
    obtain ⟨x3, rfl, k3⟩ := g 3 e (by omega) rfl
    exact ⟨x0, x1, x2, x3, rfl, k0, k1, k2, k3⟩
end Go.Proofs.Ytfkhapliblnacaa
