/- PathExact's walk over slices that came in. -/
import Derived.Test.YtmdkaomjjglfjaaDoorX5
import Derived.Test.YtmdkaomjjglfjaaDoorD2
namespace Go.Proofs.YtmdkaomjjglfjaaDoor
open Go.RowKit

theorem exact_walk (t s : Int) (x2 : Option Addr) (l2 c2 : Nat) (zs : List Int) (d : Int) (x4 : Option Addr) (l4 c4 : Nat) (M : List (List Int)) (w : World) (hG : Glob w) (h2 : IsRow w x2 l2 c2 zs) (h4 : LL w (.slice x4 l4 c4) M) :
    Calls Tryd.prog 3 #[.int .i64 t, .int .i64 s, .slice x2 l2 c2, .int .i64 d, .slice x4 l4 c4] w fun e w' => e = .returned (.bool true) ∧ Below w.heap.size w w' :=
  exact_any t s d _ M _ _ w hG h2.il h4
end Go.Proofs.YtmdkaomjjglfjaaDoor
