/- The statements' wakes; rows of ints of the call's own; plain facts on gaps. -/
import Derived.Test.YteldgklcfemenaaDoorA3
import Derived.Deep.QuietTactic
import Derived.BigQuiet
import Derived.Deep.OwnRows
import Derived.Laws.Rows
import Derived.Laws.Tables
import Derived.Laws.AppendOwn
import Derived.OwnWalk
import Derived.Deep.DeepCutAuto
namespace Go.Proofs.YteldgklcfemenaaDoor
open Go.RowKit

/-- A proposition that no walk looks into. -/
def Hid (p : Prop) : Prop := p
theorem hide {p : Prop} (h : p) : Hid p := h
theorem unhide {p : Prop} (h : Hid p) : p := h

theorem info3 : (Tryd.prog.info? 3).map (fun i => (i.zero, i.size, i.bytes)) = some (some (.int .i64 0), 1, 8) := by kernel_rfl

theorem cells_lit (w : World) (L : List Value) (t : TypeId) : ∀ j u, L[j]? = some u → (w.alloc (.cells L.toArray t)).cell? ((⟨w.heap.size, 0, none⟩ : Addr).add j) = some u := by
  intro j u h
  rw [Addr.add_lit]
  simp [go_sem, h]
theorem isl_lit (w : World) (xs : List Int) (t : TypeId) (n : Nat) (hn : xs.length = n) (hm : n ≤ maxLen) : ISl (w.alloc (.cells (xs.map (Value.int .i64)).toArray t)) (.slice (some ⟨w.heap.size, 0, none⟩) n n) n (fun i => xs.getD i 0) := by
  refine .inr ⟨w.heap.size, 0, n, rfl, Nat.le_refl _, hm, by simp, fun i hi => ?_⟩
  have h := cells_lit w (xs.map (Value.int .i64)) t i (.int .i64 (xs.getD i 0)) (by simp [hn, hi])
  rwa [Addr.add_lit] at h
theorem Glob.alloc {w : World} (h : Glob w) (o : Obj) : Glob (w.alloc o) := h.below ((Below.refl _ _).alloc (Nat.le_refl _) o) h.size

theorem three_node : NodesTo (fun i => [3].getD i 0) 1 := by
  intro i hi
  obtain rfl : i = 0 := by omega
  decide
theorem owner3 (w : World) (hG : Glob w) :
    Calls Tryd.prog 11 #[.int .i64 0, .slice (some ⟨w.heap.size, 0, none⟩) 1 1] (w.alloc (.cells #[.int .i64 3] 3)) fun e w' => e = .returned (.tuple #[.int .i64 3, .int .i64 0]) ∧ w' = w.alloc (.cells #[.int .i64 3] 3) :=
  owner_is 0 _ 0 (fun i => [3].getD i 0) (by decide) _ (hG.alloc _) (isl_lit w [3] 3 1 rfl (by unfold maxLen; omega)) three_node
theorem gp00 : ¬ gp 0 1 < gp 0 1 := Int.lt_irrefl _
theorem nk0 : nk 0 = 2342812313538366385 := rfl
theorem node0 (w : World) (hG : Glob w) :
    Calls Tryd.prog 8 #[.int .i64 0] w fun e w' => e = .returned (.tuple #[.int .i64 2342812313538366385, .int .i64 0]) ∧ w' = w :=
  node_is 0 (by decide) w hG
set_option maxHeartbeats 400000 in
theorem wakes_any (w : World) (hG : Glob w) :
    Calls Tryd.prog 17 #[] w fun e w' => e = .returned (.bool true) ∧ Below w.heap.size w w' := by
  have g1 := hG.alloc (.cells #[.int .i64 3] 3)
  have m1 := trivial
  go_enter Tryd.func17, Tryd.ntmps17
  go_wp2_with (first
    | (go_at_call 8; refine (node0 _ hG).mono ?_; rintro e w1 ⟨rfl, rfl⟩)
    | (clear m1; go_at_call 11; refine (owner3 _ hG).mono ?_; rintro e w2 ⟨rfl, rfl⟩)
    | (go_at_call 11; refine (owner_none 0 _ (fun _ => 0) (by decide) _ g1 (.inl ⟨rfl, .inl rfl⟩)).mono ?_; rintro e w2 ⟨rfl, rfl⟩)
    | (go_at_call 12; refine (nearer_f 0 1 1 (by decide) (by decide) (by decide) gp00 _ g1).mono ?_; rintro e w2 ⟨rfl, rfl⟩))
  go_ret
  exact ⟨rfl, (Below.refl _ _).alloc (Nat.le_refl _) _⟩
end Go.Proofs.YteldgklcfemenaaDoor
