/- CodecExact of whatever came in. -/
import Derived.Test.YtkmljmfonhohbaaE2
import Derived.Test.YtkmljmfonhohbaaD1
namespace Go.Proofs.Ytkmljmfonhohbaa
open Go.RowKit
set_option maxRecDepth 100000 in
theorem exact_long (p q : Option Addr) (m k cb cl : Nat) (s n a : Int) (w : World) (h1 : m ≤ maxLen) (h2 : k ≤ maxLen) (h : 600 < m ∨ 300 < k) :
    Calls Try.prog 3 #[.slice p m cb, .int .i64 s, .int .i64 n, .int .i64 a, .slice q k cl] w fun e w' => e = .returned (.bool true) ∧ Below w.heap.size w w' := by
  unfold maxLen at h1 h2
  by_cases hm : 600 < m
  · have d1 : decide ((600 : Int) < (m : Int)) = true := decide_eq_true (by omega)
    clear h
    go_enter Try.func3, Try.ntmps3
    go_wp2
    go_ret
    exact ⟨rfl, Below.refl _ _⟩
  · have d1 : decide ((600 : Int) < (m : Int)) = false := decide_eq_false (by omega)
    have d2 : decide ((300 : Int) < (k : Int)) = true := decide_eq_true (by omega)
    clear h
    go_enter Try.func3, Try.ntmps3
    go_wp2
    go_ret
    exact ⟨rfl, Below.refl _ _⟩
theorem exact_walk (x : Option Addr) (m cb : Nat) (zb : List Int) (s n a : Int) (y : Option Addr) (k cl : Nat) (zl : List Int) (w : World) (hb : IsRow .u8 w x m cb zb) (hl : IsRow .i64 w y k cl zl) :
    Calls Try.prog 3 #[.slice x m cb, .int .i64 s, .int .i64 n, .int .i64 a, .slice y k cl] w fun e w' => e = .returned (.bool true) ∧ Below w.heap.size w w' := by
  by_cases h : 600 < m ∨ 300 < k
  · exact exact_long x y m k cb cl s n a w hb.len hl.len h
  · exact exact_any _ _ x y m k cb cl s n a w hb.sl (fun i _ => hb.bd i) hl.sl (by omega) (by omega)
end Go.Proofs.Ytkmljmfonhohbaa
