/- CodecOrder of whatever came in. -/
import Derived.Test.YtkmljmfonhohbaaO2
import Derived.Test.YtkmljmfonhohbaaD1
namespace Go.Proofs.Ytkmljmfonhohbaa
open Go.RowKit
theorem ord_walk (s a b : Int) (w : World) :
    Calls Try.prog 5 #[.int .i64 s, .int .i64 a, .int .i64 b] w fun e w' => e = .returned (.bool true) ∧ Below w.heap.size w w' := by
  obtain ⟨q, hq, hq4⟩ : ∃ q : Nat, wrap64 ((IntKind.u64.wrap s).tmod 4) = q ∧ q < 4 := modN s 4 (by omega) (by omega)
  match q, hq4 with
  | 0, _ =>
    by_cases ha : IsNum 1 a
    · by_cases hb : IsNum 1 b
      · exact ord_1_t s a b hq ha hb w
      · exact ord_1_g s a b hq ha hb w
    · exact ord_1_f s a b hq ha w
  | 1, _ =>
    by_cases ha : IsNum 2 a
    · by_cases hb : IsNum 2 b
      · exact ord_2_t s a b hq ha hb w
      · exact ord_2_g s a b hq ha hb w
    · exact ord_2_f s a b hq ha w
  | 2, _ =>
    by_cases ha : IsNum 4 a
    · by_cases hb : IsNum 4 b
      · exact ord_4_t s a b hq ha hb w
      · exact ord_4_g s a b hq ha hb w
    · exact ord_4_f s a b hq ha w
  | 3, _ =>
    by_cases ha : IsNum 8 a
    · by_cases hb : IsNum 8 b
      · exact ord_8_t s a b hq ha hb w
      · exact ord_8_g s a b hq ha hb w
    · exact ord_8_f s a b hq ha w
end Go.Proofs.Ytkmljmfonhohbaa
