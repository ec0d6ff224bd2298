/- Walk of Conf. -/
import Derived.Test.YtfhglganaebpoaaDoorE9
namespace Go.Proofs.YtfhglganaebpoaaDoor
open Go.RowKit

/-- A function that answers what a cell of its own holds, whole. -/
theorem ret_row {fn : Func} {R : Ending → World → Prop} {a : Act} {w : World} (p : Tmp) (ty : TypeId) (h : fn.results = #[.cell p ty]) (g : Nat) (t : TypeId) (cs : Array Value) (d : TypeDesc)
    (hp : a.tmps.getD p undef = .pointer (some ⟨g, 0, none⟩)) (hg : w.heap[g]? = some (.cells cs t)) (hu : Tryd.prog.underlying ty = some d) (hd : (∃ x, d = .struct x) ∨ ∃ x y, d = .array x y)
    (hi : (Tryd.prog.info? ty).map (·.size) = some cs.size) (hde : a.defers = []) (hR : R (.returned (.agg cs)) w) : bodyPost Tryd.prog fn R .ret a w :=
  bodyPost_ret (results_cell_row h _ _ g t cs _ d hp hg hu (by rcases hd with ⟨x, rfl⟩ | ⟨x, y, rfl⟩ <;> rfl) hi) hde hR
theorem info23 : (Tryd.prog.info? 23).map (·.size) = some 7 := by kernel_rfl
theorem info27 : (Tryd.prog.info? 27).map (·.size) = some 5 := by kernel_rfl
/-- The config of a number. -/
def cfN (q : Nat) : Cf := ⟨1 + (q : Int) % 8, 1 + (q : Int) / 8 % 4, 1 + (q : Int) / 32 % 4, 1 + (q : Int) / 128 % 8, 1 + (q : Int) / 1024 % 16, 1 + (q : Int) / 16 % 16, 2 + (q : Int) / 64 % 31⟩
theorem cfN_ok (q : Nat) : cfB (cfN q) = true := by
  rw [cfB_iff]
  simp only [cfN, inB_iff]
  omega
set_option maxHeartbeats 1000000 in
set_option maxRecDepth 100000 in
theorem conf_any (n : Int) (q : Nat) (w : World) (hq : wrap64 ((IntKind.u64.wrap n).tmod 1000000) = q) (hq2 : q < 1000000) : Calls Tryd.prog 20 #[.int .i64 n] w fun ev w' => ev = .returned (cV (cfN q)) ∧ Below w.heap.size w w' := by
  have HQ := hide hq
  clear hq
  go_enter Tryd.func20, Tryd.ntmps20
  go_upto_region 2 with fail
  rw [unhide HQ]
  go_wp2
  exact ret_row 2 23 rfl w.heap.size 23 _ _ rfl (heap_alloc_new _ _) Tryd.underlying23 (.inl ⟨_, rfl⟩) info23 rfl ⟨rfl, below_alloc (Below.refl _ _) _⟩
end Go.Proofs.YtfhglganaebpoaaDoor
