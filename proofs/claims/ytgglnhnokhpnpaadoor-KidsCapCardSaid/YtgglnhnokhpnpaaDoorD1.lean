/- What the rows' list gives: the two tables' cells; slices of ints that came in. -/
import Derived.Test.YtgglnhnokhpnpaaDoorB1
import Derived.Test.YtgglnhnokhpnpaaDoorCards
import Derived.Test.YtgglnhnokhpnpaaDoorTie
import Derived.Deep.DeepHandedRow
import Derived.Lib.LaidTab
import Derived.ShutString
import Derived.ChangeOld
namespace Go.Proofs.YtgglnhnokhpnpaaDoor
open Go.ChangeShapes Go.WideShapes Go.ChangeAt Go.RowKit

theorem own0 : ownKnob Tryd.prog.godebug = none := by kernel_rfl
theorem laidOut : laidOutB Tryd.prog = true := by kernel_rfl
theorem gN : Tryd.prog.globalNamed "bellwether/ring.nodeKeys" = some 1 := by kernel_rfl
theorem gT : Tryd.prog.globalNamed "bellwether/ring.topicKeys" = some 0 := by kernel_rfl
theorem gNt : (Tryd.prog.globals[1]?).map (·.type) = some 65 := by kernel_rfl
theorem gTt : (Tryd.prog.globals[0]?).map (·.type) = some 64 := by kernel_rfl
theorem cells40 : Tryd.prog.cellsOf 65 = 8 := by kernel_rfl
theorem cells41 : Tryd.prog.cellsOf 64 = 4 := by kernel_rfl
theorem cells3 : Tryd.prog.cellsOf 3 = 1 := by kernel_rfl
def laid2 : List (String × DataW Unit) := [("bellwether/ring.nodeKeys", Rows.laid_bellwether_ring_nodeKeys), ("bellwether/ring.topicKeys", Rows.laid_bellwether_ring_topicKeys)]
theorem dN {H : Type} : (Rows.laid_bellwether_ring_nodeKeys : DataW H) = Lib.tabData .i64 nodeL := rfl
theorem dT {H : Type} : (Rows.laid_bellwether_ring_topicKeys : DataW H) = Lib.tabData .i64 topicL := rfl
theorem tabs {W : World} (h : laidMetH Tryd.prog laid2 W) : Lib.TabIs Tryd.prog W "bellwether/ring.nodeKeys" .i64 nodeL ∧ Lib.TabIs Tryd.prog W "bellwether/ring.topicKeys" .i64 topicL := by
  have h' : laidMet Tryd.prog laid2 W := h
  obtain ⟨ps, ⟨g0, t0, cs0, f0, p0, q0, hg0, ht0, hv0, hd0, ⟨g1, t1, cs1, f1, p1, q1, hg1, ht1, hv1, hd1, _, _⟩, _⟩, _, _⟩ := h'
  obtain rfl := Option.some.inj (gN.symm.trans hg0)
  obtain rfl := Option.some.inj (gT.symm.trans hg1)
  obtain rfl := Option.some.inj (gNt.symm.trans ht0)
  obtain rfl := Option.some.inj (gTt.symm.trans ht1)
  rw [dN] at hd0
  rw [dT] at hd1
  refine ⟨?_, ?_⟩
  · unfold Lib.TabIs
    rw [hv0, ← Lib.cells_of_tab Tryd.underlying65 Tryd.underlying3 cells3 cells40 hd0]
  · unfold Lib.TabIs
    rw [hv1, ← Lib.cells_of_tab Tryd.underlying64 Tryd.underlying3 cells3 cells41 hd1]
theorem glob_tabs {W : World} (t0 : Lib.TabIs Tryd.prog W "bellwether/ring.nodeKeys" .i64 nodeL) (t1 : Lib.TabIs Tryd.prog W "bellwether/ring.topicKeys" .i64 topicL) : Glob W := by
  have hk : ∀ i : Nat, i < 8 → W.cell? ⟨1, i, none⟩ = some (.int .i64 (nodeL.getD i 0)) := fun i hi => t0.cell gN i hi
  exact ⟨block_lt_of_cell (hk 0 (by decide)), hk, fun i hi => t1.cell gT i hi⟩
theorem glob_of {W : World} (h : laidMetH Tryd.prog laid2 W) : Glob W := glob_tabs (tabs h).1 (tabs h).2

/-- A table's cells laid anew. -/
def relay (k : IntKind) (l : List Int) : Obj → Obj
  | .cells _ t frozen => .cells (l.map (Value.int k)).toArray t frozen
  | o => o
/-- A world for the witness: the settled one, the two tables holding what their texts lay. -/
def laidOn (W : World) : World :=
  { W with heap := (W.heap.modify 1 (relay .i64 nodeL)).modify 0 (relay .i64 topicL) }
theorem laid_met (os : Os) (args : Array Value) : laidMet Tryd.prog laid2 ((laidOn (World.holding Tryd.prog os ⟨#[], #[], []⟩)).forCall (fun _ _ => 0) ⟨#[], args, []⟩).memory :=
  laidMet_of_run' 8 (by kernel_rfl) (by kernel_rfl)

/-- A slice of ints that came in. -/
def IsRow (w : World) (a : Option Addr) (len cap : Nat) (zs : List Int) : Prop :=
  (a = none ∧ len = 0 ∧ cap = 0 ∧ zs = []) ∨
  ∃ x, a = some x ∧ len ≤ cap ∧ cap ≤ maxLen ∧ zs.length = cap ∧ (∀ i, i < zs.length → w.cell? (x.add i) = some (.int .i64 (zs.getD i 0))) ∧ ∀ n ∈ zs, (Lit.int .i64 n).wf = true
def rowF (zs : List Int) (i : Nat) : Int := zs.getD i 0
theorem IsRow.isl {w : World} {a : Option Addr} {len cap : Nat} {zs : List Int} (h : IsRow w a len cap zs) : ISl w (.slice a len cap) len (rowF zs) := by
  rcases h with ⟨rfl, rfl, rfl, rfl⟩ | ⟨x, rfl, h1, h2, h3, h4, _⟩
  · exact .inl ⟨rfl, .inl rfl⟩
  · by_cases h0 : len = 0
    · subst h0
      exact .inl ⟨rfl, .inr ⟨x, cap, rfl, by omega⟩⟩
    · obtain ⟨b, off, spot⟩ := x
      have hc := h4 0 (by omega)
      have hspot : spot = none := by simpa [Addr.add] using World.cell?_spot hc
      subst hspot
      have hc0 := block_lt_of_cell hc
      refine .inr ⟨b, off, cap, rfl, h1, h2, by simpa [Addr.add] using hc0, fun i hi => ?_⟩
      have := h4 i (by omega)
      rwa [Addr.add_lit] at this
theorem IsRow.len {w : World} {a : Option Addr} {len cap : Nat} {zs : List Int} (h : IsRow w a len cap zs) : len ≤ maxLen := by
  rcases h with ⟨_, rfl, _, _⟩ | ⟨x, _, h1, h2, _⟩
  · exact Nat.zero_le _
  · omega
theorem open_row {H : Type} {enc : TypeId × Value → H} {W : World} {base : Nat} {held : Bool} {a : Option Addr} {len cap : Nat} {d : DataW H} {p : List MemPlace}
    (h : ∃ fuel, DataW.trod enc Tryd.prog W base (fun _ => true) held fuel 39 (Value.slice a len cap).cells.toList = some (d, p)) : ∃ zs, IsRow W a len cap zs := by
  obtain ⟨fuel, hf⟩ := h
  rcases open_ints Tryd.underlying39 Tryd.underlying3 (by kernel_rfl) hf with ⟨hcs, _⟩ | ⟨x, l, c, zs, hcs, _, hl, hm, hz, _, hcell, hwz⟩
  · simp [Value.cells] at hcs
    obtain ⟨rfl, rfl, rfl⟩ := hcs
    exact ⟨[], .inl ⟨rfl, rfl, rfl, rfl⟩⟩
  · simp [Value.cells] at hcs
    obtain ⟨rfl, rfl, rfl⟩ := hcs
    exact ⟨zs, .inr ⟨_, rfl, hl, hm, by simpa using hz, hcell, hwz⟩⟩
end Go.Proofs.YtgglnhnokhpnpaaDoor
