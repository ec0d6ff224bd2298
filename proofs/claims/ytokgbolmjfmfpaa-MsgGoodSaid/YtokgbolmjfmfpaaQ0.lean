/- A number modulo. -/
import Derived.Test.YtokgbolmjfmfpaaA1
namespace Go.Proofs.Ytokgbolmjfmfpaa
open Go.RowKit

theorem mod_cases (x : Int) (n : Nat) (h : 0 < n) (h2 : n ≤ 1000) : ∃ q : Nat, (IntKind.u64.wrap x).tmod n = q ∧ q < n := by
  have e1 : IntKind.u64.wrap x = x % 18446744073709551616 := rfl
  have h3 := Int.emod_lt_of_pos (x % 18446744073709551616) (show (0:Int) < n by omega)
  have h4 := Int.emod_nonneg (x % 18446744073709551616) (show (n:Int) ≠ 0 by omega)
  refine ⟨((x % 18446744073709551616) % n).toNat, ?_, by omega⟩
  rw [e1, Int.tmod_eq_emod_of_nonneg (by omega)]
  omega
end Go.Proofs.Ytokgbolmjfmfpaa
