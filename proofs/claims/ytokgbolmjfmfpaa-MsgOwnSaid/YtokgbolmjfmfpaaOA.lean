/- Walk of MsgOwn. -/
import Derived.Test.YtokgbolmjfmfpaaQ0
import Derived.Test.YtokgbolmjfmfpaaO0
import Derived.Test.YtokgbolmjfmfpaaO1
import Derived.Test.YtokgbolmjfmfpaaO2
import Derived.Test.YtokgbolmjfmfpaaO3
import Derived.Test.YtokgbolmjfmfpaaO4
import Derived.Test.YtokgbolmjfmfpaaO5
import Derived.Test.YtokgbolmjfmfpaaO6
import Derived.Test.YtokgbolmjfmfpaaO7
import Derived.Test.YtokgbolmjfmfpaaO8
namespace Go.Proofs.Ytokgbolmjfmfpaa
open Go.RowKit

theorem own_all (kind n v field : Int) (w : World) :
    Calls Try.prog 5 #[.int .i64 kind, .int .i64 n, .int .i64 v, .int .i64 field] w fun e w' => e = .returned (.bool true) ∧ Below w.heap.size w w' := by
  obtain ⟨q, hq, lq⟩ := mod_cases field 9 (by omega) (by omega)
  match q, lq, hq with
  | 0, _, h => exact own_walk_0 kind n v field w h
  | 1, _, h => exact own_walk_1 kind n v field w h
  | 2, _, h => exact own_walk_2 kind n v field w h
  | 3, _, h => exact own_walk_3 kind n v field w h
  | 4, _, h => exact own_walk_4 kind n v field w h
  | 5, _, h => exact own_walk_5 kind n v field w h
  | 6, _, h => exact own_walk_6 kind n v field w h
  | 7, _, h => exact own_walk_7 kind n v field w h
  | 8, _, h => exact own_walk_8 kind n v field w h
end Go.Proofs.Ytokgbolmjfmfpaa
