/- Plain facts: the page's padding and blocks are the sum's. -/
import Derived.Test.YtaojifgbnllebaaDoorR10
namespace Go.Proofs.YtaojifgbnllebaaDoor
open Go.RowKit

/-- How long the bytes are behind the noughts. -/
def lp (n : Nat) : Nat := if n % 64 < 56 then 64 * (n / 64) + 56 else 64 * (n / 64) + 120
theorem lp_bd (n : Nat) : n + 1 ≤ lp n ∧ lp n ≤ n + 64 ∧ lp n % 64 = 56 := by unfold lp; split <;> omega
theorem lp_next (n m : Nat) (_ : n + 1 ≤ m) (h2 : m ≤ lp n) (h3 : m % 64 ≠ 56) : m < lp n := by unfold lp at *; split at h2 <;> split <;> omega
theorem lp_end (n m : Nat) (h1 : n + 1 ≤ m) (h2 : m ≤ lp n) (h3 : m % 64 = 56) : m = lp n := by unfold lp at *; split at h2 <;> split <;> omega
def p1 (F : Nat → Int) (n j : Nat) : Int := if j < n then F j else if j = n then 128 else 0
def p2 (F : Nat → Int) (n j : Nat) : Int := if j < lp n then p1 F n j else 8 * (n : Int) / 2 ^ (8 * (7 - (j - lp n))) % 256

theorem p2_bd (F : Nat → Int) (hf : ∀ i, 0 ≤ F i ∧ F i < 256) (n j : Nat) : 0 ≤ p2 F n j ∧ p2 F n j < 256 := by
  unfold p2 p1
  split
  · split
    · exact hf j
    · split <;> omega
  · omega

theorem wacc_congr (f g : Nat → Int) (i : Nat) : ∀ j, (∀ q, q < j → f (4 * i + q) = g (4 * i + q)) → wacc f i j = wacc g i j
  | 0, _ => rfl
  | j + 1, h => by rw [wacc, wacc, wacc_congr f g i j (fun q hq => h q (by omega)), h j (by omega)]
theorem wordsOf_congr (f g : Nat → Int) (h : ∀ i, i < 64 → f i = g i) : wordsOf f = wordsOf g := by
  have e : laidW f 16 0 = laidW g 16 0 := by
    funext m
    unfold laidW
    by_cases hm : m < 16
    · rw [if_pos hm, if_pos hm, wacc_congr f g m 4 (fun q hq => h _ (by omega))]
    · rw [if_neg hm, if_neg hm]
      rfl
  unfold wordsOf
  rw [e]
theorem blocks_congr (kk f g : Nat → Int) (s : S8) : ∀ (k : Nat), (∀ i, i < 64 * k → f i = g i) → S8.blocks kk f s k = S8.blocks kk g s k
  | 0, _ => rfl
  | k + 1, h => by
    show (S8.blocks kk f s k).mix kk _ = (S8.blocks kk g s k).mix kk _
    rw [blocks_congr kk f g s k (fun i hi => h i (by omega)), wordsOf_congr _ _ (fun i hi => h (64 * k + i) (by omega))]
theorem blocks_split (kk f : Nat → Int) (s : S8) (a : Nat) : ∀ b, S8.blocks kk f s (a + b) = S8.blocks kk (fun i => f (64 * a + i)) (S8.blocks kk f s a) b
  | 0 => rfl
  | b + 1 => by
    show (S8.blocks kk f s (a + b)).mix kk _ = (S8.blocks kk _ _ b).mix kk _
    rw [blocks_split kk f s a b]
    congr 2
    funext i
    show f (64 * (a + b) + i) = f (64 * a + (64 * b + i))
    congr 1
    omega
theorem p2_low (F : Nat → Int) (n i : Nat) (h : i < n) : p2 F n i = F i := by
  have := lp_bd n
  unfold p2 p1
  rw [if_pos (by omega), if_pos h]
theorem p2_pad (F : Nat → Int) (n room i : Nat) (hr : lp n = 64 * (n / 64) + room - 8) (hr2 : 64 ≤ room) (hi : i < room) :
    p2 F n (64 * (n / 64) + i) = padF (fun i => F (64 * (n / 64) + i)) (n % 64) ((64 * ((n / 64 : Nat) : Int) + ((n % 64 : Nat) : Int)) * 8) room 8 i := by
  have hL : (64 * ((n / 64 : Nat) : Int) + ((n % 64 : Nat) : Int)) * 8 = 8 * (n : Int) := by omega
  rw [hL]
  unfold p2 padF
  by_cases h : room ≤ i + 8 ∧ i < room
  · rw [if_pos h, if_neg (by omega), show 7 - (64 * (n / 64) + i - lp n) = room - 1 - i by omega]
  · rw [if_neg h, if_pos (by omega)]
    unfold p1
    by_cases h1 : i < n % 64
    · rw [if_pos h1, if_pos (by omega)]
    · rw [if_neg h1, if_neg (by omega)]
      by_cases h2 : i = n % 64
      · rw [if_pos h2, if_pos (by omega)]
      · rw [if_neg h2, if_neg (by omega)]
theorem blocks_sha (F : Nat → Int) (n nb : Nat) (h : 64 * nb = lp n + 8) : S8.blocks kk (p2 F n) s0 nb = shaS s0 kk F n := by
  unfold shaS
  by_cases h56 : n % 64 < 56
  · have hl : lp n = 64 * (n / 64) + 56 := if_pos h56
    obtain rfl : nb = n / 64 + 1 := by omega
    rw [if_pos h56, blocks_split, blocks_congr kk (p2 F n) F s0 (n / 64) (fun i hi => p2_low F n i (by omega))]
    exact blocks_congr _ _ _ _ 1 (fun i hi => p2_pad F n 64 i (by omega) (by omega) (by omega))
  · have hl : lp n = 64 * (n / 64) + 120 := if_neg h56
    obtain rfl : nb = n / 64 + 2 := by omega
    rw [if_neg h56, blocks_split, blocks_congr kk (p2 F n) F s0 (n / 64) (fun i hi => p2_low F n i (by omega))]
    exact blocks_congr _ _ _ _ 2 (fun i hi => p2_pad F n 128 i (by omega) (by omega) (by omega))
theorem byte_shift (s : S8) (i q : Nat) (hq : q < 4) : s.byte (4 * i + q) = s.nth i / 2 ^ (8 * (3 - q)) % 256 := by
  unfold S8.byte
  rw [show (4 * i + q) / 4 = i by omega, show (4 * i + q) % 4 = q by omega]
  match q, hq with
  | 0, _ | 1, _ | 2, _ | 3, _ => rfl
theorem owns_mono {w : World} {B B' n : Nat} {e : TypeId} {v : Value} {xs : List Value} (h : w.ownsRow B e 1 v n xs) (hB : B' ≤ B) : w.ownsRow B' e 1 v n xs := by
  refine ⟨h.1, ?_⟩
  rcases h.2 with h | ⟨g', cap', cur, h1, h2, h3⟩
  · exact .inl h
  · exact .inr ⟨g', cap', cur, h1, Nat.le_trans hB h2, h3⟩
end Go.Proofs.YtaojifgbnllebaaDoor
