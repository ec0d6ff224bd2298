/- Walks of codec.Get. -/
import Derived.Test.YtkmljmfonhohbaaA4
namespace Go.Proofs.Ytkmljmfonhohbaa
open Go.RowKit

/-- The number of k bytes from a place on. -/
def num (F : Nat → Int) (a : Nat) : Nat → Int
  | 0 => 0
  | k + 1 => num F a k * 256 + F (a + k)
theorem num_bd (F : Nat → Int) (a : Nat) : ∀ k, (∀ i, i < k → 0 ≤ F (a + i) ∧ F (a + i) < 256) → 0 ≤ num F a k ∧ num F a k < 256 ^ k
  | 0, _ => by simp [num]
  | k + 1, hf => by
    have := num_bd F a k (fun i hi => hf i (by omega))
    have := hf k (by omega)
    rw [num, Int.pow_succ]
    omega
theorem pow_le (k : Nat) (h : k ≤ 7) : (256 : Int) ^ k ≤ 2 ^ 56 := by
  match k, h with
  | 0, _ | 1, _ | 2, _ | 3, _ | 4, _ | 5, _ | 6, _ | 7, _ => decide
theorem or_bytes (a x : Int) (h0 : 0 ≤ a) (h1 : a < 2 ^ 56) (h2 : 0 ≤ x) (h3 : x < 256) : bits .or .u64 (IntKind.u64.wrap (a * 256)) x = a * 256 + x := by
  have hm : IntKind.u64.wrap (a * 256) = a * 256 := by simp [IntKind.wrap, IntKind.bits, IntKind.signed]; omega
  rw [hm]
  obtain ⟨n, rfl⟩ := Int.eq_ofNat_of_zero_le h0
  obtain ⟨m, rfl⟩ := Int.eq_ofNat_of_zero_le h2
  have e1 : (BitVec.ofInt 64 ((n : Int) * 256)).toNat = 2 ^ 8 * n := by
    rw [BitVec.toNat_ofInt]; omega
  have e2 : (BitVec.ofInt 64 (m : Int)).toNat = m := by
    rw [BitVec.toNat_ofInt]; omega
  have e3 := Nat.two_pow_add_eq_or_of_lt (i := 8) (b := m) (by omega) n
  show IntKind.u64.wrap (((BitVec.ofInt 64 ((n : Int) * 256) ||| BitVec.ofInt 64 (m : Int)).toNat : Nat) : Int) = _
  rw [BitVec.toNat_or, e1, e2, ← e3]
  simp [IntKind.wrap, IntKind.bits, IntKind.signed]
  omega

theorem get_size (v : Value) (a s : Int) (hs : ¬ IsZ s) (w : World) :
    Calls Try.prog 10 #[v, .int .i64 a, .int .i64 s] w fun e w' => e = .returned (.tuple #[.int .i64 0, .int .i64 0, .int .i64 1]) ∧ w' = w := by
  have c := hide (isSize_f s hs)
  clear hs
  go_enter Try.func10, Try.ntmps10
  go_wp2_with (go_at_call 22; refine (unhide c _).mono ?_; rintro e w1 ⟨rfl, rfl⟩)
  go_ret3
  exact ⟨rfl, rfl⟩
theorem get_len (p : Option Addr) (m cap : Nat) (a s : Int) (hs : IsZ s) (hm : m ≤ maxLen) (hh : ¬ Here m a s) (w : World) :
    Calls Try.prog 10 #[.slice p m cap, .int .i64 a, .int .i64 s] w fun e w' => e = .returned (.tuple #[.int .i64 0, .int .i64 0, .int .i64 2]) ∧ w' = w := by
  have c := hide (isSize_t s hs)
  have c2 := hide (fits_any p m cap a s hm (by rcases hs with h | h | h | h <;> omega) (by rcases hs with h | h | h | h <;> omega))
  rw [decide_eq_false hh] at c2
  clear hs hh
  go_enter Try.func10, Try.ntmps10
  go_wp2_with (first
    | (go_at_call 22; refine (unhide c _).mono ?_; rintro e w1 ⟨rfl, rfl⟩)
    | (go_at_call 25; refine (unhide c2 _).mono ?_; rintro e w1 ⟨rfl, rfl⟩))
  go_ret3
  exact ⟨rfl, rfl⟩
/-- What Get answers of a number that stands there. -/
def getA (x : Int) (nx : Int) : Array Value := if x < 4611686018427387904 then #[.int .i64 x, .int .i64 nx, .int .i64 0] else #[.int .i64 0, .int .i64 0, .int .i64 1]
set_option maxRecDepth 100000 in
theorem get_is (F : Nat → Int) (v : Value) (m a S : Nat) (hs : IsZ S) (w : World) (hv : Sl .u8 w v m F) (hf : ∀ i, i < m → 0 ≤ F i ∧ F i < 256) (ha : a + S ≤ m) :
    Calls Try.prog 10 #[v, .int .i64 (a : Int), .int .i64 (S : Int)] w fun e w' => e = .returned (.tuple (getA (num F a S) ((a : Int) + S))) ∧ w' = w := by
  have hS : 1 ≤ S ∧ S ≤ 8 := by rcases hs with h | h | h | h <;> omega
  obtain ⟨p, cap, rfl, hc1, hc2⟩ := hv.shape
  have c := hide (isSize_t S hs)
  have c2 := hide (fits_any p m cap a S (by omega) (by omega) (by omega))
  rw [decide_eq_true (show Here m a S from ⟨by omega, by omega⟩)] at c2
  obtain ⟨b, off, rfl, hb, hcell⟩ := hv.some (by omega)
  unfold maxLen at hc2
  have HC := hide hcell
  have HF := hide hf
  clear hs hv hcell hf
  have hne : ¬ cap = a := by omega
  have hne2 : ¬ cap - a = 0 := by omega
  have hsub : a + S - a = S := by omega
  go_enter Try.func10, Try.ntmps10
  go_wp2_with (first
    | (go_at_call 22; refine (unhide c _).mono ?_; rintro e w1 ⟨rfl, hw⟩; obtain rfl := hw.symm)
    | (go_at_call 25; refine (unhide c2 _).mono ?_; rintro e w1 ⟨rfl, hw⟩; obtain rfl := hw.symm))
  go_loopw [9, 27] (fun x xi w2 => ∃ k : Nat, k ≤ S ∧ xi = .int .i64 k ∧ x = .int .u64 (num F a k) ∧ w2 = w) (fun _ i _ => S - (intOf i).toNat)
  case atStart => exact ⟨0, by omega, rfl, rfl, rfl⟩
  case round =>
    obtain ⟨k, hk, rfl, rfl, hw⟩ := hrel
    obtain rfl := hw.symm
    by_cases hlt : k < S
    · have hx := unhide HC (a + k) (by omega)
      rw [← Nat.add_assoc] at hx
      have hb := unhide HF (a + k) (by omega)
      have hh := num_bd F a k (fun i hi => unhide HF (a + i) (by omega))
      have hp := pow_le k (by omega)
      have hor := or_bytes (num F a k) (F (a + k)) hh.1 (by omega) hb.1 hb.2
      obtain ⟨hb0, hb1⟩ := hb
      clear hp hh
      go_wp2
      go_roundw
      case rel => exact ⟨k + 1, by omega, by go_num, rfl, trivial⟩
      case measure => simp [intOf]; omega
    · obtain rfl : S = k := by omega
      have hh := num_bd F a S (fun i hi => unhide HF (a + i) (by omega))
      obtain ⟨hh0, hh1⟩ := hh
      clear hh1
      by_cases hx : num F a S < 4611686018427387904
      · have hA : getA (num F a S) ((a : Int) + S) = #[.int .i64 (num F a S), .int .i64 ((a : Int) + S), .int .i64 0] := if_pos hx
        have HA := hide hA
        have hx' := decide_eq_false (Int.not_le.2 hx)
        clear hA
        go_wp2
        go_ret3
        exact ⟨by rw [unhide HA]; rfl, rfl⟩
      · have hA : getA (num F a S) ((a : Int) + S) = #[.int .i64 0, .int .i64 0, .int .i64 1] := if_neg hx
        have HA := hide hA
        have hx' := decide_eq_true (Int.not_lt.1 hx)
        clear hA
        go_wp2
        go_ret3
        exact ⟨by rw [unhide HA]; rfl, rfl⟩
end Go.Proofs.Ytkmljmfonhohbaa
