/- Walks of CrcLinear. -/
import Derived.Test.YtfkhapliblnacaaK2
import Derived.Deep.RegionHeld3
import Derived.Laws.Cover1
namespace Go.Proofs.Ytfkhapliblnacaa
open Go.RowKit

theorem i64_xor (a b : Nat) (ha : a < 4294967296) (hb : b < 4294967296) : bits .xor .i64 (a : Int) (b : Int) = ((a ^^^ b : Nat) : Int) := by
  have hx : a ^^^ b < 4294967296 := xor_lt ha hb
  have h1 : (BitVec.ofInt 64 (a : Int)).toNat = a := by rw [BitVec.toNat_ofInt]; omega
  have h2 : (BitVec.ofInt 64 (b : Int)).toNat = b := by rw [BitVec.toNat_ofInt]; omega
  show IntKind.i64.wrap (((BitVec.ofInt 64 (a : Int) ^^^ BitVec.ofInt 64 (b : Int)).toNat : Nat) : Int) = _
  rw [BitVec.toNat_xor, h1, h2]
  generalize a ^^^ b = y at *
  simp [IntKind.wrap, IntKind.bits, IntKind.signed]
  omega
/-- The first k of three texts put together, nought behind. -/
def x3D (A B C : Nat → Nat) (k i : Nat) : Nat := if i < k then A i ^^^ B i ^^^ C i else 0
theorem x3D_set (A B C : Nat → Nat) (k n : Nat) (h : k < n) : (bL (x3D A B C k) n).set k (.int .u8 ((A k ^^^ B k ^^^ C k : Nat) : Int)) = bL (x3D A B C (k + 1)) n := by
  apply List.ext_getElem?
  intro t
  unfold bL
  by_cases ht : t < n
  · by_cases e : k = t
    · subst e
      rw [List.getElem?_set_self (by rw [vL_length]; exact h), vL_get _ _ _ _ ht]
      unfold x3D
      rw [if_pos (by omega)]
    · rw [List.getElem?_set_ne e, vL_get _ _ _ _ ht, vL_get _ _ _ _ ht]
      unfold x3D
      by_cases g : t < k
      · rw [if_pos g, if_pos (by omega)]
      · rw [if_neg g, if_neg (by omega)]
  · rw [List.getElem?_eq_none (by rw [List.length_set, vL_length]; omega), List.getElem?_eq_none (by rw [vL_length]; omega)]
theorem x3D_start (A B C : Nat → Nat) (n : Nat) : List.replicate n (Value.int .u8 0) = bL (x3D A B C 0) n := by
  apply List.ext_getElem?
  intro t
  unfold bL
  by_cases ht : t < n
  · rw [vL_get _ _ _ _ ht, x3D, if_neg (by omega)]
    simp [ht]
  · rw [List.getElem?_eq_none (by simp; omega), List.getElem?_eq_none (by rw [vL_length]; omega)]
theorem x3_sum (A B C : Nat → Nat) (n : Nat) : sumN (x3D A B C n) n = sumN A n ^^^ sumN B n ^^^ sumN C n := by
  rw [← sumN_xor3]
  exact sumN_congr fun i hi => by rw [x3D, if_pos hi]
theorem run_min3 (la lb lc n : Nat) (h : n = min (min la lb) lc) (w : World) : (Builtin.min_ #[3, 3, 3] 3 #[.int .i64 (la : Int), .int .i64 (lb : Int), .int .i64 (lc : Int)]).run Try.prog w = .ok (.int .i64 (n : Int)) w := by
  rw [run_min_int3]
  have e : (if (lc : Int) < (if (lb : Int) < la then (lb : Int) else la) then (lc : Int) else (if (lb : Int) < la then (lb : Int) else la)) = (n : Int) := by
    split <;> split at * <;> omega
  rw [e]
theorem lin_long (p q r : Option Addr) (la lb lc ca cb cc : Nat) (w : World) (h1 : la ≤ maxLen) (h2 : lb ≤ maxLen) (h3 : lc ≤ maxLen) (h : 400 < la ∧ 400 < lb ∧ 400 < lc) :
    Calls Try.prog 5 #[.slice p la ca, .slice q lb cb, .slice r lc cc] w fun e w' => e = .returned (.bool true) ∧ Below w.heap.size w w' := by
  unfold maxLen at h1 h2 h3
  obtain ⟨n, hn⟩ : ∃ n, n = min (min la lb) lc := ⟨_, rfl⟩
  have hmin := run_min3 la lb lc n hn
  have d1 : decide ((400 : Int) < (n : Int)) = true := decide_eq_true (by omega)
  go_enter Try.func5, Try.ntmps5
  go_wp2
  go_ret
  exact ⟨rfl, Below.refl _ _⟩
end Go.Proofs.Ytfkhapliblnacaa
