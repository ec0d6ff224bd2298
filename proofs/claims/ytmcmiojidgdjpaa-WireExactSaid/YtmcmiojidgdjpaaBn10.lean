/- Walk of msg.limits, all kinds. -/
import Derived.Test.YtmcmiojidgdjpaaBn8
import Derived.Test.YtmcmiojidgdjpaaBn7
import Derived.Test.YtmcmiojidgdjpaaBn9
import Derived.Test.YtmcmiojidgdjpaaBn6
namespace Go.Proofs.Ytmcmiojidgdjpaa
open Go.RowKit

theorem limits_any (m : Mg) (p t : Value) (w : World) :
    Calls Try.prog 57 #[mv m p t] w fun e w' => e = .returned (.tuple #[mv (lo m) (.slice none 0 0) (.slice none 0 0), mv (hi m) (.slice none 0 0) (.slice none 0 0)]) ∧ Below w.heap.size w w' := by
  by_cases h1 : m.kd = 1
  · exact limits_1 m p t w h1
  by_cases h2 : m.kd = 2
  · exact limits_2 m p t w h2
  by_cases h3 : m.kd = 3
  · exact limits_3 m p t w h3
  by_cases h4 : m.kd = 4
  · exact limits_4 m p t w h4
  by_cases h7 : m.kd = 7
  · exact limits_7 m p t w h7
  by_cases h8 : m.kd = 8
  · exact limits_8 m p t w h8
  by_cases h9 : m.kd = 9
  · exact limits_9 m p t w h9
  by_cases h10 : m.kd = 10
  · exact limits_10 m p t w h10
  by_cases h11 : m.kd = 11
  · exact limits_11 m p t w h11
  by_cases h12 : m.kd = 12
  · exact limits_12 m p t w h12
  by_cases h13 : m.kd = 13
  · exact limits_13 m p t w h13
  exact limits_o m p t w h1 h2 h3 h4 h7 h8 h9 h10 h11 h12 h13
end Go.Proofs.Ytmcmiojidgdjpaa
