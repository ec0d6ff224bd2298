/- Walks of sha.turned. -/
import Derived.Test.YteldgklcfemenaaDoorRows
import Derived.Test.YteldgklcfemenaaDoorShS
import Derived.WalkKit
import Derived.WalkSpells
import Derived.StillTactics
import Derived.Laws.Pointers
import Derived.RowKit3
namespace Go.Proofs.YteldgklcfemenaaDoor.Sh
open Go.RowKit

theorem neg_and (n : Nat) (h1 : n < 32) : bits .and .u64 (IntKind.u64.wrap (-(n : Int))) 31 = (32 - (n : Int)) % 32 := by
  have : ∀ m : Fin 32, bits .and .u64 (IntKind.u64.wrap (-((m.val : Nat) : Int))) 31 = (32 - ((m.val : Nat) : Int)) % 32 := by decide +kernel
  exact this ⟨n, h1⟩

theorem turned_any (x : Int) (n : Int) (h0 : 1 ≤ n) (h1 : n ≤ 31) (w : World) :
    Calls Tryd.prog 35 #[.int .u32 x, .int .i64 n] w fun e w' => e = .returned (.int .u32 (rorI x n)) ∧ w' = w := by
  have hb : bits .and .u64 (IntKind.u64.wrap (-n)) 31 = 32 - n := by
    obtain ⟨m, rfl⟩ := Int.eq_ofNat_of_zero_le (show 0 ≤ n by omega)
    rw [neg_and m (by omega)]; omega
  have e1 : min (32 - n).toNat 32 = (32 - n).toNat := by omega
  have e2 : min n.toNat 32 = n.toNat := by omega
  have e3 : (32 - (32 - n)) = n := by omega
  go_enter Tryd.func35, Tryd.ntmps35
  go_wp2
  go_ret
  exact ⟨rfl, rfl⟩
end Go.Proofs.YteldgklcfemenaaDoor.Sh
