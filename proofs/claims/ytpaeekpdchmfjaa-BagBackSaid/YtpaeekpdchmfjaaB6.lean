/- BagBack, all its ways. -/
import Derived.Test.YtpaeekpdchmfjaaB2
import Derived.Test.YtpaeekpdchmfjaaB4
import Derived.Test.YtpaeekpdchmfjaaB5
namespace Go.Proofs.Ytpaeekpdchmfjaa
open Go.RowKit

theorem back_walk (x : Option Addr) (n cap : Nat) (X : Nat → Fm) (f : Fm) (y : Option Addr) (c : Nat) (k place mask : Int) (w : World) (hX : Fs w (.slice x n cap) n X) (ho : ∀ i, (X i).ok) (hf : Sl .u8 w (.slice y f.n c) f.n f.b) (hof : f.ok) :
    Calls Try.prog 4 #[.slice x n cap, .agg #[.int .i64 f.t, .slice y f.n c], .int .i64 k, .int .i64 place, .int .i64 mask] w fun e w' => e = .returned (.bool true) ∧ Below w.heap.size w w' := by
  by_cases h : ¬ Lt n X ∨ 60 < n ∨ 200 < f.n
  · exact back_heavy x n cap X f y c k place mask w hX h
  · have h1 : Lt n X := Classical.byContradiction fun q => h (.inl q)
    have h2 : n ≤ 60 := by omega
    have h3 : f.n ≤ 200 := by omega
    by_cases h4 : putE n X f = 0
    · obtain ⟨K, hq, hK⟩ := modN k (n + 1) (by omega) (by omega)
      rw [show ((n + 1 : Nat) : Int) = (n : Int) + 1 by omega] at hq
      by_cases h5 : corE (n + 1) (snoc X n f) K place mask = 0
      · exact back_bent x n cap X f y c k place mask w hX hf ho hof h1 h2 h3 h4 K hq hK h5
      · exact back_plain x n cap X f y c k place mask w hX hf ho hof h1 h2 h3 h4 K hq hK h5
    · exact back_refused x n cap X f y c k place mask w hX hf h1 h2 h3 h4
end Go.Proofs.Ytpaeekpdchmfjaa
