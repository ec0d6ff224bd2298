/- What the rows' list gives: the two tables' cells. -/
import Derived.Test.YtaojifgbnllebaaDoorD0
import Derived.Test.YtaojifgbnllebaaDoorCards
import Derived.Test.YtaojifgbnllebaaDoorTie
import Derived.ProofKit
import Derived.OpenShut
import Derived.Deep.DeepHandedRow
import Derived.Lib.LaidTab
namespace Go.Proofs.YtaojifgbnllebaaDoor
open Go.ChangeShapes Go.WideShapes Go.ChangeAt Go.RowKit

theorem own : ownKnob Tryd.prog.godebug = none := by kernel_rfl
theorem gS : Tryd.prog.globalNamed "bellwether/sha.start" = some 0 := by kernel_rfl
theorem gR : Tryd.prog.globalNamed "bellwether/sha.rounds" = some 1 := by kernel_rfl
theorem gSt : (Tryd.prog.globals[0]?).map (·.type) = some 34 := by kernel_rfl
theorem gRt : (Tryd.prog.globals[1]?).map (·.type) = some 43 := by kernel_rfl
theorem cells34 : Tryd.prog.cellsOf 34 = 8 := by kernel_rfl
theorem cells43 : Tryd.prog.cellsOf 43 = 64 := by kernel_rfl
theorem cells33 : Tryd.prog.cellsOf 33 = 1 := by kernel_rfl
def laid2 : List (String × DataW Unit) := [("bellwether/sha.start", Rows.laid_bellwether_sha_start), ("bellwether/sha.rounds", Rows.laid_bellwether_sha_rounds)]
def zS : List Int := [1779033703, 3144134277, 1013904242, 2773480762, 1359893119, 2600822924, 528734635, 1541459225]
def zR : List Int := kList.map fun n : Nat => (n : Int)
theorem dS {H : Type} : (Rows.laid_bellwether_sha_start : DataW H) = Lib.tabData .u32 zS := rfl
theorem dR {H : Type} : (Rows.laid_bellwether_sha_rounds : DataW H) = Lib.tabData .u32 zR := rfl
theorem tabs {W : World} (h : laidMetH Tryd.prog laid2 W) : Lib.TabIs Tryd.prog W "bellwether/sha.start" .u32 zS ∧ Lib.TabIs Tryd.prog W "bellwether/sha.rounds" .u32 zR := by
  have h' : laidMet Tryd.prog laid2 W := h
  obtain ⟨ps, ⟨g0, t0, cs0, f0, p0, q0, hg0, ht0, hv0, hd0, ⟨g1, t1, cs1, f1, p1, q1, hg1, ht1, hv1, hd1, _, _⟩, _⟩, _, _⟩ := h'
  obtain rfl := Option.some.inj (gS.symm.trans hg0)
  obtain rfl := Option.some.inj (gR.symm.trans hg1)
  obtain rfl := Option.some.inj (gSt.symm.trans ht0)
  obtain rfl := Option.some.inj (gRt.symm.trans ht1)
  rw [dS] at hd0
  rw [dR] at hd1
  refine ⟨?_, ?_⟩
  · unfold Lib.TabIs
    rw [hv0, ← Lib.cells_of_tab Tryd.underlying34 Tryd.underlying33 cells33 cells34 hd0]
  · unfold Lib.TabIs
    rw [hv1, ← Lib.cells_of_tab Tryd.underlying43 Tryd.underlying33 cells33 cells43 hd1]
theorem glob_of {W : World} (h : laidMetH Tryd.prog laid2 W) : Glob s0 kk W := by
  obtain ⟨t0, t1⟩ := tabs h
  have hk : ∀ i : Nat, i < 64 → W.cell? ⟨1, i, none⟩ = some (.int .u32 (kk i)) := fun i hi => by
    rw [t1.cell gR i hi]
    show _ = some (Value.int .u32 ((kList.getD i 0 : Nat) : Int))
    congr 2
    have hl : i < kList.length := hi
    simp [zR, List.getD, hl]
  refine ⟨?_, t0.cell gS 0 (by decide), t0.cell gS 1 (by decide), t0.cell gS 2 (by decide), t0.cell gS 3 (by decide), t0.cell gS 4 (by decide), t0.cell gS 5 (by decide), t0.cell gS 6 (by decide), t0.cell gS 7 (by decide), hk⟩
  exact block_lt_of_cell (hk 0 (by decide))

/-- A table's cells laid anew. -/
def relay (l : List Int) : Obj → Obj
  | .cells _ t frozen => .cells (l.map (Value.int .u32)).toArray t frozen
  | o => o
/-- A world for the witness: the settled one, the two tables holding what their texts lay. -/
def laidOn (W : World) : World :=
  { W with heap := (W.heap.modify 0 (relay zS)).modify 1 (relay zR) }
theorem laid_met (os : Os) (args : Array Value) : laidMet Tryd.prog laid2 ((laidOn (World.holding Tryd.prog os ⟨#[], #[], []⟩)).forCall (fun _ _ => 0) ⟨#[], args, []⟩).memory :=
  laidMet_of_run' 8 (by kernel_rfl) (by kernel_rfl)
end Go.Proofs.YtaojifgbnllebaaDoor
