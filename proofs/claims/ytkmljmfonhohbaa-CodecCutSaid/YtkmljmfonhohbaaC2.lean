/- CodecCut of whatever came in. -/
import Derived.Test.YtkmljmfonhohbaaC1
import Derived.Test.YtkmljmfonhohbaaD1
namespace Go.Proofs.Ytkmljmfonhohbaa
open Go.RowKit
theorem cut_walk (s n many cut : Int) (w : World) :
    Calls Try.prog 6 #[.int .i64 s, .int .i64 n, .int .i64 many, .int .i64 cut] w fun e w' => e = .returned (.bool true) ∧ Below w.heap.size w w' := by
  obtain ⟨q, hq, hq4⟩ : ∃ q : Nat, wrap64 ((IntKind.u64.wrap s).tmod 4) = q ∧ q < 4 := modN s 4 (by omega) (by omega)
  match q, hq4 with
  | 0, _ => exact cut_1 s n many cut hq w
  | 1, _ => exact cut_2 s n many cut hq w
  | 2, _ => exact cut_4 s n many cut hq w
  | 3, _ => exact cut_8 s n many cut hq w
end Go.Proofs.Ytkmljmfonhohbaa
