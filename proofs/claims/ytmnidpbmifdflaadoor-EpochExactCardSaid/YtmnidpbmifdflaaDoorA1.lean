/- Walks of ring.Node, epoch.isNode, epoch.Who, epoch.Check, epoch.Next. -/
import Derived.Test.YtmnidpbmifdflaaDoorRows
import Derived.WalkKit
import Derived.ProofKit
import Derived.OpenShut
import Derived.Deep.DeepMust
namespace Go.Proofs.YtmnidpbmifdflaaDoor
open Go.RowKit

/-- The nodes' keys. -/
def nodeL : List Int := [2342812313538366385, 1863050908023769503, 81111313352671826, 2434324899588211290, 2454816673080883147, 1342378062264523301, 820659310660760249, 2006264061484817761]
/-- The number of a node. -/
abbrev IsN (n : Int) : Prop := 0 ≤ n ∧ n < 8
/-- The package variable holds the keys. -/
structure Glob (w : World) : Prop where
  size : 0 < w.heap.size
  n : ∀ i : Nat, i < 8 → w.cell? ⟨0, i, none⟩ = some (.int .i64 (nodeL.getD i 0))

theorem node_in (n : Nat) (h : n < 8) (w : World) (hG : Glob w) :
    Calls Tryd.prog 16 #[.int .i64 n] w fun e w' => e = .returned (.tuple #[.int .i64 (nodeL.getD n 0), .int .i64 0]) ∧ w' = w := by
  have hc := hG.n n h
  have hs := hG.size
  clear hG
  generalize nodeL.getD n 0 = v at *
  go_enter Tryd.func16, Tryd.ntmps16
  go_wp2
  go_ret2
  exact ⟨rfl, rfl⟩
theorem node_no (n : Int) (h : ¬ IsN n) (w : World) :
    Calls Tryd.prog 16 #[.int .i64 n] w fun e w' => e = .returned (.tuple #[.int .i64 0, .int .i64 1]) ∧ w' = w := by
  unfold IsN at h
  by_cases h1 : n < 0
  · clear h
    go_enter Tryd.func16, Tryd.ntmps16
    go_wp2
    go_ret2
    exact ⟨rfl, rfl⟩
  · have h2 : 8 ≤ n := by omega
    clear h
    go_enter Tryd.func16, Tryd.ntmps16
    go_wp2
    go_ret2
    exact ⟨rfl, rfl⟩
theorem isnode_yes (n : Int) (h : IsN n) (w : World) (hG : Glob w) :
    Calls Tryd.prog 13 #[.int .i64 n] w fun e w' => e = .returned (.bool true) ∧ w' = w := by
  obtain ⟨h1, h2⟩ := h
  obtain ⟨m, rfl⟩ := Int.eq_ofNat_of_zero_le h1
  have hm : m < 8 := by omega
  clear h1 h2
  generalize hv : nodeL.getD m 0 = v
  go_enter Tryd.func13, Tryd.ntmps13
  go_wp2_with (go_at_call 16; refine (node_in _ (by assumption) _ (by assumption)).mono ?_; rw [hv]; rintro e w1 ⟨rfl, rfl⟩)
  go_ret
  exact ⟨rfl, rfl⟩
theorem isnode_no (n : Int) (h : ¬ IsN n) (w : World) :
    Calls Tryd.prog 13 #[.int .i64 n] w fun e w' => e = .returned (.bool false) ∧ w' = w := by
  go_enter Tryd.func13, Tryd.ntmps13
  go_wp2_with (go_at_call 16; refine (node_no _ (by assumption) _).mono ?_; rintro e w1 ⟨rfl, rfl⟩)
  go_ret
  exact ⟨rfl, rfl⟩
end Go.Proofs.YtmnidpbmifdflaaDoor
