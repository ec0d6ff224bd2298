/- Walks of the page's Number and Bytes; append as a step that may be guarded. -/
import Derived.Test.YtkmljmfonhohbaaA7
namespace Go.Proofs.Ytkmljmfonhohbaa
open Go.RowKit

theorem num_shift (F : Nat → Int) (a : Nat) : ∀ k, num (fun i => F (a + i)) 0 k = num F a k
  | 0 => rfl
  | k + 1 => by rw [num, num, num_shift F a k, Nat.zero_add]
theorem num_low (F : Nat → Int) (n : Nat) (hf : ∀ i, i < n → 0 ≤ F i ∧ F i < 256) (h : num F 0 n < 4611686018427387904) : ∀ k, k < n → num F 0 k < 18014398509481984 := by
  have mono : ∀ d k, k + d = n → 0 ≤ num F 0 k → num F 0 k ≤ num F 0 n := by
    intro d
    induction d with
    | zero => intro k hk _; rw [show k = n by omega]; exact Int.le_refl _
    | succ d ih =>
      intro k hk h0
      have hb := hf k (by omega)
      have h2 : num F 0 (k + 1) = num F 0 k * 256 + F k := by rw [num, Nat.zero_add]
      have := ih (k + 1) (by omega) (by omega)
      omega
  intro k hk
  have h0 := (num_bd F 0 k (fun i hi => by rw [Nat.zero_add]; exact hf i (by omega))).1
  have hb := hf k hk
  have h2 : num F 0 (k + 1) = num F 0 k * 256 + F k := by rw [num, Nat.zero_add]
  have := mono (n - (k + 1)) (k + 1) (by omega) (by omega)
  omega
set_option maxRecDepth 100000 in
theorem number_t (F : Nat → Int) (v : Value) (n : Nat) (w : World) (hv : Sl .u8 w v n F) (hf : ∀ i, i < n → 0 ≤ F i ∧ F i < 256) (hn : n ≤ 8) (hx : num F 0 n < 4611686018427387904) :
    Calls Try.prog 19 #[v] w fun e w' => e = .returned (.tuple #[.int .i64 (num F 0 n), .bool true]) ∧ w' = w := by
  obtain ⟨p, cap, rfl, hc1, hc2⟩ := hv.shape
  unfold maxLen at hc2
  have HV := hide hv
  have HF := hide hf
  have HX := hide (num_low F n hf hx)
  clear hv hf hx
  go_enter Try.func19, Try.ntmps19
  go_wp2
  go_loopw [4, 5] (fun x xi w2 => ∃ k : Nat, k ≤ n ∧ xi = .int .i64 k ∧ x = .int .i64 (num F 0 k) ∧ w2 = w) (fun _ i _ => n - (intOf i).toNat)
  case atStart => exact ⟨0, by omega, rfl, rfl, rfl⟩
  case round =>
    obtain ⟨k, hk, rfl, rfl, hw⟩ := hrel
    obtain rfl := hw.symm
    by_cases hlt : k < n
    · obtain ⟨b, off, rfl, _, hcell⟩ := (unhide HV).some (by omega)
      have hck := hcell k hlt
      have hb := unhide HF k hlt
      have h0 := (num_bd F 0 k (fun i hi => by rw [Nat.zero_add]; exact unhide HF i (by omega))).1
      have hx := unhide HX k hlt
      have hd := decide_eq_false (Int.not_le.2 hx)
      have hs : num F 0 (k + 1) = 256 * num F 0 k + F k := by rw [num, Nat.zero_add, Int.mul_comm]
      have HS := hide hs
      obtain ⟨hb0, hb1⟩ := hb
      clear hcell hs
      generalize num F 0 k = y at *
      generalize F k = x at *
      go_wp2
      go_roundw
      case rel => exact ⟨k + 1, by omega, by go_num, by rw [unhide HS], trivial⟩
      case measure => simp [intOf]; omega
    · obtain rfl : n = k := by omega
      go_wp2
      go_ret2
      exact ⟨rfl, rfl⟩
set_option maxRecDepth 100000 in
theorem number_f (F : Nat → Int) (v : Value) (n : Nat) (w : World) (hv : Sl .u8 w v n F) (hf : ∀ i, i < n → 0 ≤ F i ∧ F i < 256) (hn : n ≤ 8) (hx : 4611686018427387904 ≤ num F 0 n) :
    Calls Try.prog 19 #[v] w fun e w' => e = .returned (.tuple #[.int .i64 0, .bool false]) ∧ w' = w := by
  have hf0 : ∀ i, i < n → 0 ≤ F (0 + i) ∧ F (0 + i) < 256 := fun i hi => by rw [Nat.zero_add]; exact hf i hi
  obtain rfl : n = 8 := by
    have h1 := (num_bd F 0 n hf0).2
    by_cases h8 : n ≤ 7
    · have := pow_le n h8
      omega
    · omega
  have h7 : 18014398509481984 ≤ num F 0 7 := by
    have h2 : num F 0 8 = num F 0 7 * 256 + F 7 := by rw [num, Nat.zero_add]
    have := hf 7 (by omega)
    omega
  have hlow : ∀ k, k < 7 → num F 0 k < 18014398509481984 := by
    intro k hk
    have h1 := (num_bd F 0 k (fun i hi => hf0 i (by omega))).2
    have h2 : (256 : Int) ^ k ≤ 2 ^ 48 := by
      have : k ≤ 6 := by omega
      match k, this with
      | 0, _ | 1, _ | 2, _ | 3, _ | 4, _ | 5, _ | 6, _ => decide
    omega
  obtain ⟨p, cap, rfl, hc1, hc2⟩ := hv.shape
  unfold maxLen at hc2
  have HV := hide hv
  have HF := hide hf
  have HX := hide hlow
  have H7 := hide h7
  clear hv hf hx hlow hf0 h7
  go_enter Try.func19, Try.ntmps19
  go_wp2
  go_loopw [4, 5] (fun x xi w2 => ∃ k : Nat, k ≤ 7 ∧ xi = .int .i64 k ∧ x = .int .i64 (num F 0 k) ∧ w2 = w) (fun _ i _ => 8 - (intOf i).toNat)
  case atStart => exact ⟨0, by omega, rfl, rfl, rfl⟩
  case round =>
    obtain ⟨k, hk, rfl, rfl, hw⟩ := hrel
    obtain rfl := hw.symm
    by_cases hlt : k < 7
    · obtain ⟨b, off, rfl, _, hcell⟩ := (unhide HV).some (by omega)
      have hck := hcell k (by omega)
      have hb := unhide HF k (by omega)
      have h0 := (num_bd F 0 k (fun i hi => by rw [Nat.zero_add]; exact unhide HF i (by omega))).1
      have hx := unhide HX k hlt
      have hd := decide_eq_false (Int.not_le.2 hx)
      have hs : num F 0 (k + 1) = 256 * num F 0 k + F k := by rw [num, Nat.zero_add, Int.mul_comm]
      have HS := hide hs
      obtain ⟨hb0, hb1⟩ := hb
      clear hcell hs
      generalize num F 0 k = y at *
      generalize F k = x at *
      go_wp2
      go_roundw
      case rel => exact ⟨k + 1, by omega, by go_num, by rw [unhide HS], trivial⟩
      case measure => simp [intOf]; omega
    · obtain rfl : k = 7 := by omega
      have hd := decide_eq_true (unhide H7)
      generalize num F 0 7 = y at *
      go_wp2
      go_ret2
      exact ⟨rfl, rfl⟩
end Go.Proofs.Ytkmljmfonhohbaa
