/- Walks of crc.shifted, Sum, read. -/
import Derived.Test.YtfkhapliblnacaaA2
import Derived.Laws.BitsAllLaws
namespace Go.Proofs.Ytfkhapliblnacaa
open Go.RowKit

theorem and_one (R : Nat) (h : R < 4294967296) : bits .and .u32 (R : Int) 1 = ((R % 2 : Nat) : Int) := by
  rw [show (1 : Int) = ((1 : Nat) : Int) from rfl, u32_and_nat R 1 h (by decide), Nat.and_one_is_mod]
set_option maxRecDepth 100000 in
theorem shifted_is (r : Nat) (hr : r < 4294967296) (w : World) :
    Calls Try.prog 16 #[.int .u32 (r : Int)] w fun e w' => e = .returned (.int .u32 ((stk 8 r : Nat) : Int)) ∧ w' = w := by
  go_enter Try.func16, Try.ntmps16
  go_wp2
  go_loopw [0, 4] (fun xr xi w1 => ∃ k : Nat, k ≤ 8 ∧ xi = .int .i64 k ∧ xr = .int .u32 ((stk k r : Nat) : Int) ∧ w1 = w) (fun _ i _ => 8 - (intOf i).toNat)
  case atStart => exact ⟨0, by omega, rfl, rfl, rfl⟩
  case round =>
    obtain ⟨k, hk, rfl, rfl, hw⟩ := hrel
    obtain rfl := hw.symm
    by_cases hlt : k < 8
    · have hR := stk_lt hr k
      have hN : stk (k + 1) r = st (stk k r) := rfl
      have HN := hide hN
      clear hN
      generalize stk k r = R at *
      have ha := and_one R hR
      have hx := u32_xor_nat (R / 2) 3988292384 (by omega) (by decide)
      by_cases hb : R % 2 = 1
      · rw [hb] at ha
        go_wp2
        go_roundw
        case rel => exact ⟨k + 1, by omega, by go_num, by rw [unhide HN, st, if_pos hb]; exact congrArg _ hx, trivial⟩
        case measure => simp [intOf]; omega
      · rw [show R % 2 = 0 by omega] at ha
        go_wp2
        go_roundw
        case rel => exact ⟨k + 1, by omega, by go_num, by rw [unhide HN, st, if_neg hb]; rfl, trivial⟩
        case measure => simp [intOf]; omega
    · obtain rfl : k = 8 := by omega
      go_wp2
      go_ret
      exact ⟨rfl, rfl⟩
/-- The slice v holds the n bytes D. -/
def Bs (w : World) (v : Value) (n : Nat) (D : Nat → Nat) : Prop := Sl .u8 w v n (fun i => (D i : Int))
set_option maxRecDepth 100000 in
theorem sum_is (D : Nat → Nat) (v : Value) (n : Nat) (w : World) (hv : Bs w v n D) (hD : ∀ i, i < n → D i < 256) :
    Calls Try.prog 9 #[v] w fun e w' => e = .returned (.int .i64 ((sumN D n : Nat) : Int)) ∧ w' = w := by
  obtain ⟨p, cap, rfl, hc1, hc2⟩ := Sl.shape hv
  unfold maxLen at hc2
  have HV := hide hv
  have HD := hide hD
  clear hv hD
  go_enter Try.func9, Try.ntmps9
  go_wp2
  go_loopw [3, 8] (fun xr xi w1 => ∃ k : Nat, k ≤ n ∧ xi = .int .i64 k ∧ xr = .int .u32 ((crc 4294967295 D k : Nat) : Int) ∧ w1 = w) (fun _ i _ => n - (intOf i).toNat)
  case atStart => exact ⟨0, by omega, rfl, rfl, rfl⟩
  case round =>
    obtain ⟨k, hk, rfl, rfl, hw⟩ := hrel
    obtain rfl := hw.symm
    have hR : crc 4294967295 D k < 4294967296 := crc_lt (by decide) k fun i hi => unhide HD i (by omega)
    by_cases hlt : k < n
    · obtain ⟨b, off, rfl, _, hcell⟩ := Sl.some (unhide HV) (by omega)
      have hc := hcell k hlt
      have hx := unhide HD k hlt
      have hN : crc 4294967295 D (k + 1) = stk 8 (crc 4294967295 D k ^^^ D k) := rfl
      have HN := hide hN
      clear hN hcell
      generalize D k = x at *
      generalize crc 4294967295 D k = R at *
      have hxor := u32_xor_nat R x hR (by omega)
      have c := hide (shifted_is (R ^^^ x) (xor_lt hR (by omega)))
      go_wp2_with (go_at_call 16; refine (unhide c _).mono ?_; rintro e w1 ⟨rfl, hw⟩; obtain rfl := hw.symm)
      go_roundw
      case rel => exact ⟨k + 1, by omega, by go_num, by rw [unhide HN], trivial⟩
      case measure => simp [intOf]; omega
    · obtain rfl : n = k := by omega
      have hxor : bits .xor .u32 ((crc 4294967295 D n : Nat) : Int) 4294967295 = ((crc 4294967295 D n ^^^ 4294967295 : Nat) : Int) := u32_xor_nat (crc 4294967295 D n) 4294967295 hR (by omega)
      have hS : sumN D n = crc 4294967295 D n ^^^ 4294967295 := rfl
      have HS := hide hS
      have hl := xor_lt hR (show 4294967295 < 4294967296 by decide)
      clear hS
      generalize crc 4294967295 D n = R at *
      generalize R ^^^ 4294967295 = X at *
      go_wp2
      go_ret
      exact ⟨by rw [unhide HS]; rfl, rfl⟩
theorem or_at (a x m : Nat) (ha : a < 2 ^ m) (hm : m ≤ 24) (hx : x < 256) : bits .or .i64 (a : Int) ((x * 2 ^ m : Nat) : Int) = ((a + 2 ^ m * x : Nat) : Int) := by
  have hp : 2 ^ m ≤ 2 ^ 24 := Nat.pow_le_pow_right (by decide) hm
  have hb : 2 ^ m * x < 2 ^ 24 * 256 := Nat.lt_of_le_of_lt (Nat.mul_le_mul_right _ hp) (Nat.mul_lt_mul_of_pos_left hx (by decide))
  rw [Nat.mul_comm x]
  have e1 : (BitVec.ofInt 64 (a : Int)).toNat = a := by rw [BitVec.toNat_ofInt]; omega
  have e2 : (BitVec.ofInt 64 ((2 ^ m * x : Nat) : Int)).toNat = 2 ^ m * x := by rw [BitVec.toNat_ofInt]; omega
  have e3 := Nat.two_pow_add_eq_or_of_lt (i := m) (b := a) ha x
  show IntKind.i64.wrap (((BitVec.ofInt 64 (a : Int) ||| BitVec.ofInt 64 ((2 ^ m * x : Nat) : Int)).toNat : Nat) : Int) = _
  rw [BitVec.toNat_or, e1, e2, Nat.or_comm, ← e3]
  generalize 2 ^ m * x = y at *
  simp [IntKind.wrap, IntKind.bits, IntKind.signed]
  omega
set_option maxRecDepth 100000 in
theorem read_is (D : Nat → Nat) (v : Value) (w : World) (hv : Bs w v 4 D) (hD : ∀ i, i < 4 → D i < 256) :
    Calls Try.prog 15 #[v] w fun e w' => e = .returned (.int .i64 ((le4 D 0 : Nat) : Int)) ∧ w' = w := by
  obtain ⟨p, cap, rfl, hc1, hc2⟩ := Sl.shape hv
  unfold maxLen at hc2
  obtain ⟨b, off, rfl, _, hcell⟩ := Sl.some hv (by omega)
  have q0 := hcell 0 (by omega)
  have q1 := hcell 1 (by omega)
  have q2 := hcell 2 (by omega)
  have q3 := hcell 3 (by omega)
  rw [Nat.add_zero] at q0
  have b0 := hD 0 (by omega)
  have b1 := hD 1 (by omega)
  have b2 := hD 2 (by omega)
  have b3 := hD 3 (by omega)
  obtain ⟨y1, hy1⟩ : ∃ y, y = D 0 + 256 * D 1 := ⟨_, rfl⟩
  obtain ⟨y2, hy2⟩ : ∃ y, y = y1 + 65536 * D 2 := ⟨_, rfl⟩
  obtain ⟨y3, hy3⟩ : ∃ y, y = y2 + 16777216 * D 3 := ⟨_, rfl⟩
  have o0 : bits .or .i64 0 ((D 0 : Nat) : Int) = ((D 0 : Nat) : Int) := by
    have h := or_at 0 (D 0) 0 (by omega) (by omega) b0
    simpa using h
  have o1 : bits .or .i64 ((D 0 : Nat) : Int) (((D 1 : Nat) : Int) * 256) = (y1 : Int) := by
    have h := or_at (D 0) (D 1) 8 (by omega) (by omega) b1
    rw [hy1]
    exact h
  have o2 : bits .or .i64 (y1 : Int) (((D 2 : Nat) : Int) * 65536) = (y2 : Int) := by
    have h := or_at y1 (D 2) 16 (by omega) (by omega) b2
    rw [hy2]
    exact h
  have o3 : bits .or .i64 (y2 : Int) (((D 3 : Nat) : Int) * 16777216) = (y3 : Int) := by
    have h := or_at y2 (D 3) 24 (by omega) (by omega) b3
    rw [hy3]
    exact h
  have hL : le4 D 0 = y3 := by unfold le4; simp only [Nat.zero_add]; omega
  have HL := hide hL
  clear hL hv hD hcell hy1 hy2 hy3
  generalize D 0 = x0 at *
  generalize D 1 = x1 at *
  generalize D 2 = x2 at *
  generalize D 3 = x3 at *
  go_enter Try.func15, Try.ntmps15
  go_wp2
  go_loopw [3, 8] (fun xr xi w1 => ((xi = .int .i64 0 ∧ xr = .int .i64 0) ∨ (xi = .int .i64 1 ∧ xr = .int .i64 ((x0 : Nat) : Int)) ∨ (xi = .int .i64 2 ∧ xr = .int .i64 (y1 : Int)) ∨ (xi = .int .i64 3 ∧ xr = .int .i64 (y2 : Int)) ∨ (xi = .int .i64 4 ∧ xr = .int .i64 (y3 : Int))) ∧ w1 = w) (fun _ i _ => 4 - (intOf i).toNat)
  case atStart => exact ⟨.inl ⟨rfl, rfl⟩, rfl⟩
  case round =>
    obtain ⟨hrel, hw⟩ := hrel
    obtain rfl := hw.symm
    rcases hrel with ⟨rfl, rfl⟩ | ⟨rfl, rfl⟩ | ⟨rfl, rfl⟩ | ⟨rfl, rfl⟩ | ⟨rfl, rfl⟩
    · go_wp2
      go_roundw
      case rel => exact ⟨.inr (.inl ⟨rfl, rfl⟩), trivial⟩
      case measure => simp [intOf]
    · go_wp2
      go_roundw
      case rel => exact ⟨.inr (.inr (.inl ⟨rfl, rfl⟩)), trivial⟩
      case measure => simp [intOf]
    · go_wp2
      go_roundw
      case rel => exact ⟨.inr (.inr (.inr (.inl ⟨rfl, rfl⟩))), trivial⟩
      case measure => simp [intOf]
    · go_wp2
      go_roundw
      case rel => exact ⟨.inr (.inr (.inr (.inr ⟨rfl, rfl⟩))), trivial⟩
      case measure => simp [intOf]
    · go_wp2
      go_ret
      exact ⟨by rw [unhide HL]; rfl, rfl⟩
end Go.Proofs.Ytfkhapliblnacaa
