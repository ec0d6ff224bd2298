/- Walk of ScriptConfs. -/
import Derived.Test.YtfhglganaebpoaaDoorF1
import Derived.Test.YtfhglganaebpoaaDoorF2
import Derived.Test.YtfhglganaebpoaaDoorF3
import Derived.Test.YtfhglganaebpoaaDoorF4
namespace Go.Proofs.YtfhglganaebpoaaDoor
open Go.RowKit

theorem confs_walk (n field by' : Int) (w : World) (hG : GlobE w) : Calls Tryd.prog 7 #[.int .i64 n, .int .i64 field, .int .i64 by'] w fun e w' => e = .returned (.bool true) ∧ Below w.heap.size w w' := by
  obtain ⟨B, hB, hB2⟩ := modN by' 100 (by omega) (by omega)
  obtain ⟨K, hK, hK2⟩ := modN field 7 (by omega) (by omega)
  match K, hK2 with
  | 0, _ => exact confs_0 n field by' B w hG hB hB2 hK
  | 1, _ => exact confs_1 n field by' B w hG hB hB2 hK
  | 2, _ => exact confs_2 n field by' B w hG hB hB2 hK
  | 3, _ => exact confs_3 n field by' B w hG hB hB2 hK
  | 4, _ => exact confs_4 n field by' B w hG hB hB2 hK
  | 5, _ => exact confs_5 n field by' B w hG hB hB2 hK
  | 6, _ => exact confs_6 n field by' B w hG hB hB2 hK
end Go.Proofs.YtfhglganaebpoaaDoor
