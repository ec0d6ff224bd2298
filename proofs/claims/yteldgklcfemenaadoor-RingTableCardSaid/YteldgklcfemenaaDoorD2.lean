/- What the list of RingTable's row gives: the four tables' cells. -/
import Derived.Test.YteldgklcfemenaaDoorT2
import Derived.Test.YteldgklcfemenaaDoorD1
namespace Go.Proofs.YteldgklcfemenaaDoor
open Go.ChangeShapes Go.WideShapes Go.ChangeAt Go.RowKit

theorem gS : Tryd.prog.globalNamed "bellwether/sha.start" = some 2 := by kernel_rfl
theorem gR : Tryd.prog.globalNamed "bellwether/sha.rounds" = some 3 := by kernel_rfl
theorem gSt : (Tryd.prog.globals[2]?).map (·.type) = some 47 := by kernel_rfl
theorem gRt : (Tryd.prog.globals[3]?).map (·.type) = some 52 := by kernel_rfl
theorem cells47 : Tryd.prog.cellsOf 47 = 8 := by kernel_rfl
theorem cells52 : Tryd.prog.cellsOf 52 = 64 := by kernel_rfl
theorem cells46 : Tryd.prog.cellsOf 46 = 1 := by kernel_rfl
def laid4 : List (String × DataW Unit) := [("bellwether/ring.nodeKeys", Rows.laid_bellwether_ring_nodeKeys), ("bellwether/ring.topicKeys", Rows.laid_bellwether_ring_topicKeys), ("bellwether/sha.start", Rows.laid_bellwether_sha_start), ("bellwether/sha.rounds", Rows.laid_bellwether_sha_rounds)]
def zS : List Int := [1779033703, 3144134277, 1013904242, 2773480762, 1359893119, 2600822924, 528734635, 1541459225]
def zR : List Int := Sh.kList.map fun n : Nat => (n : Int)
theorem dS {H : Type} : (Rows.laid_bellwether_sha_start : DataW H) = Lib.tabData .u32 zS := rfl
theorem dR {H : Type} : (Rows.laid_bellwether_sha_rounds : DataW H) = Lib.tabData .u32 zR := rfl
theorem tabs4 {W : World} (h : laidMetH Tryd.prog laid4 W) : (Lib.TabIs Tryd.prog W "bellwether/ring.nodeKeys" .i64 nodeL ∧ Lib.TabIs Tryd.prog W "bellwether/ring.topicKeys" .i64 topicL) ∧ Lib.TabIs Tryd.prog W "bellwether/sha.start" .u32 zS ∧ Lib.TabIs Tryd.prog W "bellwether/sha.rounds" .u32 zR := by
  have h' : laidMet Tryd.prog laid4 W := h
  obtain ⟨ps, ⟨g0, t0, cs0, f0, p0, q0, hg0, ht0, hv0, hd0, ⟨g1, t1, cs1, f1, p1, q1, hg1, ht1, hv1, hd1, ⟨g2, t2, cs2, f2, p2, q2, hg2, ht2, hv2, hd2, ⟨g3, t3, cs3, f3, p3, q3, hg3, ht3, hv3, hd3, _, _⟩, _⟩, _⟩, _⟩, _, _⟩ := h'
  obtain rfl := Option.some.inj (gN.symm.trans hg0)
  obtain rfl := Option.some.inj (gT.symm.trans hg1)
  obtain rfl := Option.some.inj (gS.symm.trans hg2)
  obtain rfl := Option.some.inj (gR.symm.trans hg3)
  obtain rfl := Option.some.inj (gNt.symm.trans ht0)
  obtain rfl := Option.some.inj (gTt.symm.trans ht1)
  obtain rfl := Option.some.inj (gSt.symm.trans ht2)
  obtain rfl := Option.some.inj (gRt.symm.trans ht3)
  rw [dN] at hd0
  rw [dT] at hd1
  rw [dS] at hd2
  rw [dR] at hd3
  refine ⟨⟨?_, ?_⟩, ?_, ?_⟩
  · unfold Lib.TabIs
    rw [hv0, ← Lib.cells_of_tab Tryd.underlying40 Tryd.underlying3 cells3 cells40 hd0]
  · unfold Lib.TabIs
    rw [hv1, ← Lib.cells_of_tab Tryd.underlying41 Tryd.underlying3 cells3 cells41 hd1]
  · unfold Lib.TabIs
    rw [hv2, ← Lib.cells_of_tab Tryd.underlying47 Tryd.underlying46 cells46 cells47 hd2]
  · unfold Lib.TabIs
    rw [hv3, ← Lib.cells_of_tab Tryd.underlying52 Tryd.underlying46 cells46 cells52 hd3]
theorem glob4 {W : World} (h : laidMetH Tryd.prog laid4 W) : Glob W := glob_tabs (tabs4 h).1.1 (tabs4 h).1.2
theorem shglob4 {W : World} (h : laidMetH Tryd.prog laid4 W) : Sh.Glob Sh.s0 Sh.kk W := by
  obtain ⟨_, t0, t1⟩ := tabs4 h
  have hk : ∀ i : Nat, i < 64 → W.cell? ⟨3, i, none⟩ = some (.int .u32 (Sh.kk i)) := fun i hi => by
    rw [t1.cell gR i hi]
    show _ = some (Value.int .u32 ((Sh.kList.getD i 0 : Nat) : Int))
    congr 2
    have hl : i < Sh.kList.length := hi
    simp [zR, List.getD, hl]
  refine ⟨?_, t0.cell gS 0 (by decide), t0.cell gS 1 (by decide), t0.cell gS 2 (by decide), t0.cell gS 3 (by decide), t0.cell gS 4 (by decide), t0.cell gS 5 (by decide), t0.cell gS 6 (by decide), t0.cell gS 7 (by decide), hk⟩
  exact block_lt_of_cell (hk 0 (by decide))
/-- A world for the witness: the settled one, the four tables holding what their texts lay. -/
def laidOn4 (W : World) : World :=
  { W with heap := (((W.heap.modify 0 (relay .i64 nodeL)).modify 1 (relay .i64 topicL)).modify 2 (relay .u32 zS)).modify 3 (relay .u32 zR) }
theorem laid_met4 (os : Os) (args : Array Value) : laidMet Tryd.prog laid4 ((laidOn4 (World.holding Tryd.prog os ⟨#[], #[], []⟩)).forCall (fun _ _ => 0) ⟨#[], args, []⟩).memory :=
  laidMet_of_run' 8 (by kernel_rfl) (by kernel_rfl)
end Go.Proofs.YteldgklcfemenaaDoor
