/- CodecBack of whatever came in. -/
import Derived.Test.YtkmljmfonhohbaaK2
import Derived.Test.YtkmljmfonhohbaaD1
namespace Go.Proofs.Ytkmljmfonhohbaa
open Go.RowKit

theorem back_walk (x : Option Addr) (m cb : Nat) (zb : List Int) (s n : Int) (y : Option Addr) (k cl : Nat) (zl : List Int) (w : World) (hb : IsRow .u8 w x m cb zb) (hl : IsRow .i64 w y k cl zl) :
    Calls Try.prog 4 #[.slice x m cb, .int .i64 s, .int .i64 n, .slice y k cl] w fun e w' => e = .returned (.bool true) ∧ Below w.heap.size w w' := by
  by_cases h : 300 < m ∨ 200 < k
  · exact back_long x y m k cb cl s n w hb.len hl.len h
  · by_cases h2 : IsZ s ∧ IsNum s n
    · obtain ⟨hs, hn⟩ := h2
      obtain ⟨S, rfl⟩ : ∃ S : Nat, s = S := ⟨s.toNat, by rcases hs with h | h | h | h <;> omega⟩
      by_cases hg : ∀ i, i < k → IsB (rowF zl i)
      · exact back_ok _ _ x y m k cb cl S n w hb.sl (fun i _ => hb.bd i) hl.sl (by omega) (by omega) hs hn hg
      · exact back_bad _ _ x y m k cb cl S n w hb.sl hl.sl (by omega) (by omega) hs hn hg
    · exact back_err x y m k cb cl s n w (by omega) (by omega) h2
end Go.Proofs.Ytkmljmfonhohbaa
