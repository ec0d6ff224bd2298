/- BagExact walked. -/
import Derived.Test.YtpaeekpdchmfjaaX2
import Derived.Test.YtpaeekpdchmfjaaX4
namespace Go.Proofs.Ytpaeekpdchmfjaa
open Go.RowKit

theorem exact_walk (x : Option Addr) (n cap : Nat) (X : Nat → Fm) (f : Fm) (y : Option Addr) (c : Nat) (k place mask : Int) (w : World) (hX : Fs w (.slice x n cap) n X) (ho : ∀ i, (X i).ok) (hf : Sl .u8 w (.slice y f.n c) f.n f.b) (_hof : f.ok) :
    Calls Try.prog 3 #[.slice x n cap, .agg #[.int .i64 f.t, .slice y f.n c], .int .i64 k, .int .i64 place, .int .i64 mask] w fun e w' => e = .returned (.bool true) ∧ Below w.heap.size w w' := by
  by_cases h : ¬ Lt n X ∨ 200 < f.n
  · exact exact_heavy x n cap X f y c k place mask w hX h
  · have h1 : Lt n X := Classical.byContradiction fun q => h (.inl q)
    exact exact_main x n cap X f y c k place mask w hX hf ho h1 (by omega)
end Go.Proofs.Ytpaeekpdchmfjaa
