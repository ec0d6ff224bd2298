/- The law MsgExact over messages and a list that came in. -/
import Derived.Test.YtokgbolmjfmfpaaLX
import Derived.Test.YtokgbolmjfmfpaaD2
namespace Go.Proofs.Ytokgbolmjfmfpaa
open Go.RowKit

theorem exact_walk (a : Mg) (x : Option Addr) (n c : Nat) (zs : List Int) (y : Option Addr) (k e : Nat) (us : List Int) (b : Mg) (x' : Option Addr) (n' c' : Nat) (zs' : List Int) (y' : Option Addr) (k' e' : Nat) (us' : List Int) (l : Option Addr) (nl cl : Nat) (ls : List Int) (w : World)
    (h1 : IsRow .i64 w x n c zs) (h2 : IsRow .i64 w y k e us) (h3 : IsRow .i64 w x' n' c' zs') (h4 : IsRow .i64 w y' k' e' us') (h5 : IsRow .i64 w l nl cl ls) :
    Calls Try.prog 3 #[mv a (.slice x n c) (.slice y k e), mv b (.slice x' n' c') (.slice y' k' e'), .slice l nl cl] w fun e w' => e = .returned (.bool true) ∧ Below w.heap.size w w' :=
  exact_law a b _ _ _ _ _ _ _ _ _ _ n k n' k' nl w h1.sl h2.sl h3.sl h4.sl h5.sl
end Go.Proofs.Ytokgbolmjfmfpaa
