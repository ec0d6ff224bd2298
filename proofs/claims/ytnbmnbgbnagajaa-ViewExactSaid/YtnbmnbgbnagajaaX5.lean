/- Walk of ViewExact, all ways. -/
import Derived.Test.YtnbmnbgbnagajaaX1
import Derived.Test.YtnbmnbgbnagajaaX2
import Derived.Test.YtnbmnbgbnagajaaX3
import Derived.Test.YtnbmnbgbnagajaaX4
namespace Go.Proofs.Ytnbmnbgbnagajaa
open Go.RowKit

/-- Where a number stands among n. -/
theorem stands (x : Int) (n : Nat) : x < 0 ∨ (0 ≤ x ∧ (n : Int) ≤ x) ∨ ∃ k : Nat, k < n ∧ x = k := by
  by_cases h : x < 0
  · exact .inl h
  · by_cases h2 : (n : Int) ≤ x
    · exact .inr (.inl ⟨by omega, h2⟩)
    · exact .inr (.inr ⟨x.toNat, by omega, by omega⟩)
theorem exact_walk (p : Option Addr) (n c : Nat) (F : Nat → Int) (x inc y : Int) (w : World) (hv : Pe w (.slice p n c) n F) :
    Calls Try.prog 3 #[.slice p n c, .int .i64 x, .int .i64 inc, .int .i64 y] w fun e w' => e = .returned (.bool true) ∧ Below w.heap.size w w' := by
  by_cases hn : 20 < n
  · exact ex_heavy p n c x inc y w hn
  have hn : n ≤ 20 := by omega
  cases hr : rt n F with
  | false => exact ex_bad_bad F _ n x inc y w hv hn hr
  | true =>
    rcases stands x n with hx | ⟨hx0, hx⟩ | ⟨k, hk, rfl⟩
    · rcases stands y n with hy | ⟨hy0, hy⟩ | ⟨s, hs, rfl⟩
      · exact ex_neg_neg F _ n x inc y w hv hn hr hx hy
      · exact ex_neg_big F _ n x inc y w hv hn hr hx hy0 hy
      · exact ex_neg_in F _ n x inc s w hv hn hr hx hs
    · rcases stands y n with hy | ⟨hy0, hy⟩ | ⟨s, hs, rfl⟩
      · exact ex_big_neg F _ n x inc y w hv hn hr hx0 hx hy
      · exact ex_big_big F _ n x inc y w hv hn hr hx0 hx hy0 hy
      · exact ex_big_in F _ n x inc s w hv hn hr hx0 hx hs
    · by_cases h1 : inc < 1
      · rcases stands y n with hy | ⟨hy0, hy⟩ | ⟨s, hs, rfl⟩
        · exact ex_low_neg F _ n k inc y w hv hn hr hk h1 hy
        · exact ex_low_big F _ n k inc y w hv hn hr hk h1 hy0 hy
        · exact ex_low_in F _ n k inc s w hv hn hr hk h1 hs
      · by_cases h2 : 1073741824 < inc
        · rcases stands y n with hy | ⟨hy0, hy⟩ | ⟨s, hs, rfl⟩
          · exact ex_high_neg F _ n k inc y w hv hn hr hk (by omega) h2 hy
          · exact ex_high_big F _ n k inc y w hv hn hr hk (by omega) h2 hy0 hy
          · exact ex_high_in F _ n k inc s w hv hn hr hk (by omega) h2 hs
        · rcases stands y n with hy | ⟨hy0, hy⟩ | ⟨s, hs, rfl⟩
          · exact ex_ok_neg F _ n k inc y w hv hn hr hk (by omega) (by omega) hy
          · exact ex_ok_big F _ n k inc y w hv hn hr hk (by omega) (by omega) hy0 hy
          · exact ex_ok_in F _ n k inc s w hv hn hr hk (by omega) (by omega) hs
end Go.Proofs.Ytnbmnbgbnagajaa
