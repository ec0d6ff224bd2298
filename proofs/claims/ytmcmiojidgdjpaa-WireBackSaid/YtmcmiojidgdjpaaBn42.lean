/- WireBack of whatever came in. -/
import Derived.Test.YtmcmiojidgdjpaaBn41
namespace Go.Proofs.Ytmcmiojidgdjpaa
open Go.RowKit

theorem back_walk (m : Mg) (p : Option Addr) (n c : Nat) (zp : List Int) (t : Option Addr) (k d : Nat) (zt : List Int) (m' : Mg) (p' : Option Addr) (n' c' : Nat) (zp' : List Int) (t' : Option Addr) (k' d' : Nat) (zt' : List Int) (at' : Int) (x0 x1 x2 x3 : Nat) (w : World)
    (hp : IsRow .i64 w p n c zp) (ht : IsRow .i64 w t k d zt) (hp' : IsRow .i64 w p' n' c' zp') (ht' : IsRow .i64 w t' k' d' zt') (b0 : x0 < 256) (b1 : x1 < 256) (b2 : x2 < 256) (b3 : x3 < 256) :
    Calls Try.prog 4 #[mv m (.slice p n c) (.slice t k d), mv m' (.slice p' n' c') (.slice t' k' d'), .int .i64 at', .agg #[.int .u8 (x0 : Int), .int .u8 (x1 : Int), .int .u8 (x2 : Int), .int .u8 (x3 : Int)]] w fun e w' => e = .returned (.bool true) ∧ Below w.heap.size w w' := by
  by_cases h1 : 30 < n ∨ 30 < k
  · exact back_heavy m m' p t p' t' n c k d n' c' k' d' at' x0 x1 x2 x3 w (.inl (by simpa using h1))
  · have e1 : (decide (30 < n) || decide (30 < k)) = false := by simpa using h1
    by_cases h2 : 30 < n' ∨ 30 < k'
    · exact back_heavy m m' p t p' t' n c k d n' c' k' d' at' x0 x1 x2 x3 w (.inr ⟨e1, by simpa using h2⟩)
    · have e2 : (decide (30 < n') || decide (30 < k')) = false := by simpa using h2
      have good : ∀ (m : Mg) (p t : Option Addr) (n c k d : Nat) (zp zt : List Int), IsRow .i64 w p n c zp → IsRow .i64 w t k d zt → chkB m (rowF zp) n (rowF zt) k = true → Hid (∀ w1, Below w.heap.size w w1 → Calls Try.prog 10 #[mv m (.slice p n c) (.slice t k d)] w1 fun e w' => ∃ q f, e = .returned (.tuple #[.slice q (48 + n + k) f, .int .i64 0]) ∧ Below w1.heap.size w1 w') := by
        intro m p t n c k d zp zt hp ht h
        refine hide fun w1 hb => (enc_ok m _ _ _ _ n k w1 (hp.sl.below hb (Nat.le_refl _)) (ht.sl.below hb (Nat.le_refl _)) h).mono ?_
        rintro e w' ⟨v, rfl, o, b⟩
        obtain ⟨q, f, rfl⟩ := owns_shape o
        exact ⟨q, f, rfl, b⟩
      have bad : ∀ (m : Mg) (p t : Option Addr) (n c k d : Nat) (zp zt : List Int), IsRow .i64 w p n c zp → IsRow .i64 w t k d zt → n ≤ 30 → k ≤ 30 → chkB m (rowF zp) n (rowF zt) k = false → Hid (∀ w1, Below w.heap.size w w1 → Calls Try.prog 10 #[mv m (.slice p n c) (.slice t k d)] w1 fun e w' => ∃ q f, e = .returned (.tuple #[.slice q 0 f, .int .i64 5]) ∧ Below w1.heap.size w1 w') := by
        intro m p t n c k d zp zt hp ht hn hk h
        refine hide fun w1 hb => (enc_bad m _ _ _ _ n k w1 (hp.sl.below hb (Nat.le_refl _)) (ht.sl.below hb (Nat.le_refl _)) (by omega) (by omega) h).mono ?_
        rintro e w' ⟨rfl, b⟩
        exact ⟨none, 0, rfl, b⟩
      cases hc : chkB m (rowF zp) n (rowF zt) k with
      | true =>
        cases hc' : chkB m' (rowF zp') n' (rowF zt') k' with
        | true => exact back_ok m m' _ _ _ _ p t p' t' n c k d n' c' k' d' at' x0 x1 x2 x3 w hp.sl ht.sl hp'.sl ht'.sl hc hc' b0 b1 b2 b3
        | false => exact back_bad m m' p t p' t' n c k d n' c' k' d' at' x0 x1 x2 x3 w ⟨e1, e2⟩ 0 5 (48 + n + k) 0 (.inl ⟨rfl, rfl, rfl⟩) (good m p t n c k d zp zt hp ht hc) (bad m' p' t' n' c' k' d' zp' zt' hp' ht' (by omega) (by omega) hc')
      | false =>
        cases hc' : chkB m' (rowF zp') n' (rowF zt') k' with
        | true => exact back_bad m m' p t p' t' n c k d n' c' k' d' at' x0 x1 x2 x3 w ⟨e1, e2⟩ 5 0 0 (48 + n' + k') (.inr (.inl ⟨rfl, rfl, rfl⟩)) (bad m p t n c k d zp zt hp ht (by omega) (by omega) hc) (good m' p' t' n' c' k' d' zp' zt' hp' ht' hc')
        | false => exact back_bad m m' p t p' t' n c k d n' c' k' d' at' x0 x1 x2 x3 w ⟨e1, e2⟩ 5 5 0 0 (.inr (.inr ⟨rfl, rfl, rfl, rfl⟩)) (bad m p t n c k d zp zt hp ht (by omega) (by omega) hc) (bad m' p' t' n' c' k' d' zp' zt' hp' ht' (by omega) (by omega) hc')
end Go.Proofs.Ytmcmiojidgdjpaa
