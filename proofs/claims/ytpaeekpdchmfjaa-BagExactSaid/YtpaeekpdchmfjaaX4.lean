/- BagExact: what is too heavy. -/
import Derived.Test.YtpaeekpdchmfjaaX1
import Derived.Test.YtpaeekpdchmfjaaD1
import Derived.Test.YtpaeekpdchmfjaaW2
namespace Go.Proofs.Ytpaeekpdchmfjaa
open Go.RowKit

set_option maxHeartbeats 1000000 in
set_option maxRecDepth 100000 in
theorem exact_heavy (x : Option Addr) (n cap : Nat) (X : Nat → Fm) (f : Fm) (y : Option Addr) (c : Nat) (k place mask : Int) (w : World) (hX : Fs w (.slice x n cap) n X) (h : ¬ Lt n X ∨ 200 < f.n) :
    Calls Try.prog 3 #[.slice x n cap, .agg #[.int .i64 f.t, .slice y f.n c], .int .i64 k, .int .i64 place, .int .i64 mask] w fun e w' => e = .returned (.bool true) ∧ Below w.heap.size w w' := by
  have bx := below_alloc (Below.refl w.heap.size w) (.cells #[.int .i64 f.t, .slice y f.n c] 25)
  have BX := hide bx
  have hx := hX.below bx (Nat.le_refl _)
  clear hX bx
  by_cases h1 : Lt n X
  · have H := hide (heavy_no X _ n _ hx h1)
    have h3 : 200 < f.n := by
      rcases h with h | h
      · exact absurd h1 h
      · exact h
    have e3 : decide ((f.n : Int) > 200) = true := decide_eq_true (by omega)
    clear h h1 hx
    go_enter Try.func3, Try.ntmps3
    go_wp2_with (go_at_call 7; (with_reducible refine (unhide H).mono ?_); rintro e w2 ⟨rfl, rfl⟩)
    go_ret
    exact ⟨rfl, unhide BX⟩
  · have H := hide (heavy_yes X _ n _ hx h1)
    clear h h1 hx
    go_enter Try.func3, Try.ntmps3
    go_wp2_with (go_at_call 7; (with_reducible refine (unhide H).mono ?_); rintro e w2 ⟨rfl, rfl⟩)
    go_ret
    exact ⟨rfl, unhide BX⟩
end Go.Proofs.Ytpaeekpdchmfjaa
