/- Walk of MsgGood. -/
import Derived.Test.YtokgbolmjfmfpaaQ0
import Derived.Test.YtokgbolmjfmfpaaP0
import Derived.Test.YtokgbolmjfmfpaaP1
import Derived.Test.YtokgbolmjfmfpaaP2
import Derived.Test.YtokgbolmjfmfpaaP3
import Derived.Test.YtokgbolmjfmfpaaP4
import Derived.Test.YtokgbolmjfmfpaaP5
import Derived.Test.YtokgbolmjfmfpaaP6
import Derived.Test.YtokgbolmjfmfpaaP7
import Derived.Test.YtokgbolmjfmfpaaP8
import Derived.Test.YtokgbolmjfmfpaaP9
import Derived.Test.YtokgbolmjfmfpaaP10
import Derived.Test.YtokgbolmjfmfpaaP11
import Derived.Test.YtokgbolmjfmfpaaP12
import Derived.Test.YtokgbolmjfmfpaaP13
namespace Go.Proofs.Ytokgbolmjfmfpaa
open Go.RowKit

theorem good_all (kind n v how : Int) (w : World) :
    Calls Try.prog 4 #[.int .i64 kind, .int .i64 n, .int .i64 v, .int .i64 how] w fun e w' => e = .returned (.bool true) ∧ Below w.heap.size w w' := by
  obtain ⟨q, hq, lq⟩ := mod_cases how 14 (by omega) (by omega)
  match q, lq, hq with
  | 0, _, h => exact good_walk_0 kind n v how w h
  | 1, _, h => exact good_walk_1 kind n v how w h
  | 2, _, h => exact good_walk_2 kind n v how w h
  | 3, _, h => exact good_walk_3 kind n v how w h
  | 4, _, h => exact good_walk_4 kind n v how w h
  | 5, _, h => exact good_walk_5 kind n v how w h
  | 6, _, h => exact good_walk_6 kind n v how w h
  | 7, _, h => exact good_walk_7 kind n v how w h
  | 8, _, h => exact good_walk_8 kind n v how w h
  | 9, _, h => exact good_walk_9 kind n v how w h
  | 10, _, h => exact good_walk_10 kind n v how w h
  | 11, _, h => exact good_walk_11 kind n v how w h
  | 12, _, h => exact good_walk_12 kind n v how w h
  | 13, _, h => exact good_walk_13 kind n v how w h
end Go.Proofs.Ytokgbolmjfmfpaa
