/- The statements' wakes; rows of ints of the call's own; plain facts on gaps. -/
import Derived.Test.YtgglnhnokhpnpaaDoorA3
import Derived.Deep.QuietTactic
import Derived.BigQuiet
import Derived.Deep.OwnRows
import Derived.Laws.Rows
import Derived.Laws.Tables
import Derived.Laws.AppendOwn
import Derived.OwnWalk
import Derived.Deep.DeepCutAuto
namespace Go.Proofs.YtgglnhnokhpnpaaDoor
open Go.RowKit

/-- A proposition that no walk looks into. -/
def Hid (p : Prop) : Prop := p
theorem hide {p : Prop} (h : p) : Hid p := h
theorem unhide {p : Prop} (h : Hid p) : p := h

theorem info3 : (Tryd.prog.info? 3).map (fun i => (i.zero, i.size, i.bytes)) = some (some (.int .i64 0), 1, 8) := by kernel_rfl

theorem cells_lit (w : World) (L : List Value) (t : TypeId) : ∀ j u, L[j]? = some u → (w.alloc (.cells L.toArray t)).cell? ((⟨w.heap.size, 0, none⟩ : Addr).add j) = some u := by
  intro j u h
  rw [Addr.add_lit]
  simp [go_sem, h]
theorem isl_lit (w : World) (xs : List Int) (t : TypeId) (n : Nat) (hn : xs.length = n) (hm : n ≤ maxLen) : ISl (w.alloc (.cells (xs.map (Value.int .i64)).toArray t)) (.slice (some ⟨w.heap.size, 0, none⟩) n n) n (fun i => xs.getD i 0) := by
  refine .inr ⟨w.heap.size, 0, n, rfl, Nat.le_refl _, hm, by simp, fun i hi => ?_⟩
  have h := cells_lit w (xs.map (Value.int .i64)) t i (.int .i64 (xs.getD i 0)) (by simp [hn, hi])
  rwa [Addr.add_lit] at h
theorem Glob.alloc {w : World} (h : Glob w) (o : Obj) : Glob (w.alloc o) := h.below ((Below.refl _ _).alloc (Nat.le_refl _) o) h.size

end Go.Proofs.YtgglnhnokhpnpaaDoor
