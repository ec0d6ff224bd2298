/- What the rows' list gives: the table's cells; slices of ints that came in. -/
import Derived.Test.YtmnidpbmifdflaaDoorA3
import Derived.Test.YtmnidpbmifdflaaDoorCards
import Derived.Test.YtmnidpbmifdflaaDoorTie
import Derived.Deep.DeepHandedRow
import Derived.Lib.LaidTab
import Derived.ShutString
import Derived.ChangeOld
namespace Go.Proofs.YtmnidpbmifdflaaDoor
open Go.ChangeShapes Go.WideShapes Go.ChangeAt Go.RowKit

theorem own0 : ownKnob Tryd.prog.godebug = none := by kernel_rfl
theorem laidOut : laidOutB Tryd.prog = true := by kernel_rfl
theorem gN : Tryd.prog.globalNamed "bellwether/ring.nodeKeys" = some 0 := by kernel_rfl
theorem gNt : (Tryd.prog.globals[0]?).map (·.type) = some 35 := by kernel_rfl
theorem cells35 : Tryd.prog.cellsOf 35 = 8 := by kernel_rfl
theorem cells3 : Tryd.prog.cellsOf 3 = 1 := by kernel_rfl
def laid1 : List (String × DataW Unit) := [("bellwether/ring.nodeKeys", Rows.laid_bellwether_ring_nodeKeys)]
theorem dN {H : Type} : (Rows.laid_bellwether_ring_nodeKeys : DataW H) = Lib.tabData .i64 nodeL := rfl
theorem tabs {W : World} (h : laidMetH Tryd.prog laid1 W) : Lib.TabIs Tryd.prog W "bellwether/ring.nodeKeys" .i64 nodeL := by
  have h' : laidMet Tryd.prog laid1 W := h
  obtain ⟨ps, ⟨g0, t0, cs0, f0, p0, q0, hg0, ht0, hv0, hd0, _, _⟩, _, _⟩ := h'
  obtain rfl := Option.some.inj (gN.symm.trans hg0)
  obtain rfl := Option.some.inj (gNt.symm.trans ht0)
  rw [dN] at hd0
  unfold Lib.TabIs
  rw [hv0, ← Lib.cells_of_tab Tryd.underlying35 Tryd.underlying3 cells3 cells35 hd0]
theorem glob_tabs {W : World} (t0 : Lib.TabIs Tryd.prog W "bellwether/ring.nodeKeys" .i64 nodeL) : Glob W := by
  have hk : ∀ i : Nat, i < 8 → W.cell? ⟨0, i, none⟩ = some (.int .i64 (nodeL.getD i 0)) := fun i hi => t0.cell gN i hi
  exact ⟨block_lt_of_cell (hk 0 (by decide)), hk⟩
theorem glob_of {W : World} (h : laidMetH Tryd.prog laid1 W) : Glob W := glob_tabs (tabs h)

/-- A table's cells laid anew. -/
def relay (k : IntKind) (l : List Int) : Obj → Obj
  | .cells _ t frozen => .cells (l.map (Value.int k)).toArray t frozen
  | o => o
/-- A world for the witness: the settled one, the table holding what its text lays. -/
def laidOn (W : World) : World :=
  { W with heap := W.heap.modify 0 (relay .i64 nodeL) }
theorem laid_met (os : Os) (args : Array Value) : laidMet Tryd.prog laid1 ((laidOn (World.holding Tryd.prog os ⟨#[], #[], []⟩)).forCall (fun _ _ => 0) ⟨#[], args, []⟩).memory :=
  laidMet_of_run' 8 (by kernel_rfl) (by kernel_rfl)

/-- A slice of ints that came in. -/
def IsRow (w : World) (a : Option Addr) (len cap : Nat) (zs : List Int) : Prop :=
  (a = none ∧ len = 0 ∧ cap = 0 ∧ zs = []) ∨
  ∃ x, a = some x ∧ len ≤ cap ∧ cap ≤ maxLen ∧ zs.length = cap ∧ (∀ i, i < zs.length → w.cell? (x.add i) = some (.int .i64 (zs.getD i 0))) ∧ ∀ n ∈ zs, (Lit.int .i64 n).wf = true
theorem IsRow.len {w : World} {a : Option Addr} {len cap : Nat} {zs : List Int} (h : IsRow w a len cap zs) : len ≤ maxLen := by
  rcases h with ⟨_, rfl, _, _⟩ | ⟨x, _, h1, h2, _⟩
  · exact Nat.zero_le _
  · omega
theorem open_row {H : Type} {enc : TypeId × Value → H} {W : World} {base : Nat} {held : Bool} {a : Option Addr} {len cap : Nat} {d : DataW H} {p : List MemPlace}
    (h : ∃ fuel, DataW.trod enc Tryd.prog W base (fun _ => true) held fuel 33 (Value.slice a len cap).cells.toList = some (d, p)) : ∃ zs, IsRow W a len cap zs := by
  obtain ⟨fuel, hf⟩ := h
  rcases open_ints Tryd.underlying33 Tryd.underlying3 (by kernel_rfl) hf with ⟨hcs, _⟩ | ⟨x, l, c, zs, hcs, _, hl, hm, hz, _, hcell, hwz⟩
  · simp [Value.cells] at hcs
    obtain ⟨rfl, rfl, rfl⟩ := hcs
    exact ⟨[], .inl ⟨rfl, rfl, rfl, rfl⟩⟩
  · simp [Value.cells] at hcs
    obtain ⟨rfl, rfl, rfl⟩ := hcs
    exact ⟨zs, .inr ⟨_, rfl, hl, hm, by simpa using hz, hcell, hwz⟩⟩
end Go.Proofs.YtmnidpbmifdflaaDoor
