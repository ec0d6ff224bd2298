/- Walks of crc.shifted, Sum, read. Walks of crc.Seal and crc.Open. Walk of the statements' wakes. Walks of CrcBack. Walk of CrcBack. Walks of the page's Crc and Seal; keep.Bytes of what differs. Walks of the page's Open; both Opens of the same bytes. What the rows of this seat want. Messages and slices that came in. Bytes that came in; an array of four bytes. Appends to a row of the call's own; walk of the page's list. -/
import Derived.Test.YtmcmiojidgdjpaaBw4
import Derived.Laws.BitsAllLaws
import Derived.Lib.SlBytesConst
import Derived.Test.YtmcmiojidgdjpaaBw2
import Derived.Deep.DeepHandedRow
import Derived.ShutString
import Derived.ChangeOld
import Derived.ChangeSlices
import Derived.ProofKit
import Derived.OpenShut
import Derived.JoinedOf
import Derived.Carry
import Derived.Test.YtmcmiojidgdjpaaBw3
namespace Go.Proofs.Ytmcmiojidgdjpaa.Cr
open Go.RowKit

theorem and_one (R : Nat) (h : R < 4294967296) : bits .and .u32 (R : Int) 1 = ((R % 2 : Nat) : Int) := by
  rw [show (1 : Int) = ((1 : Nat) : Int) from rfl, u32_and_nat R 1 h (by decide), Nat.and_one_is_mod]
set_option maxRecDepth 100000 in
theorem shifted_is (r : Nat) (hr : r < 4294967296) (w : World) :
    Calls Try.prog 56 #[.int .u32 (r : Int)] w fun e w' => e = .returned (.int .u32 ((stk 8 r : Nat) : Int)) ∧ w' = w := by
  go_enter Try.func56, Try.ntmps56
  go_wp2
  go_loopw [0, 4] (fun xr xi w1 => ∃ k : Nat, k ≤ 8 ∧ xi = .int .i64 k ∧ xr = .int .u32 ((stk k r : Nat) : Int) ∧ w1 = w) (fun _ i _ => 8 - (intOf i).toNat)
  case atStart => exact ⟨0, by omega, rfl, rfl, rfl⟩
  case round =>
    obtain ⟨k, hk, rfl, rfl, hw⟩ := hrel
    obtain rfl := hw.symm
    by_cases hlt : k < 8
    · have hR := stk_lt hr k
      have hN : stk (k + 1) r = st (stk k r) := rfl
      have HN := hide hN
      clear hN
      generalize stk k r = R at *
      have ha := and_one R hR
      have hx := u32_xor_nat (R / 2) 3988292384 (by omega) (by decide)
      by_cases hb : R % 2 = 1
      · rw [hb] at ha
        go_wp2
        go_roundw
        case rel => exact ⟨k + 1, by omega, by go_num, by rw [unhide HN, st, if_pos hb]; exact congrArg _ hx, trivial⟩
        case measure => simp [intOf]; omega
      · rw [show R % 2 = 0 by omega] at ha
        go_wp2
        go_roundw
        case rel => exact ⟨k + 1, by omega, by go_num, by rw [unhide HN, st, if_neg hb]; rfl, trivial⟩
        case measure => simp [intOf]; omega
    · obtain rfl : k = 8 := by omega
      go_wp2
      go_ret
      exact ⟨rfl, rfl⟩
/-- The slice v holds the n bytes D. -/
def Bs (w : World) (v : Value) (n : Nat) (D : Nat → Nat) : Prop := Sl .u8 w v n (fun i => (D i : Int))
set_option maxRecDepth 100000 in
theorem sum_is (D : Nat → Nat) (v : Value) (n : Nat) (w : World) (hv : Bs w v n D) (hD : ∀ i, i < n → D i < 256) :
    Calls Try.prog 40 #[v] w fun e w' => e = .returned (.int .i64 ((sumN D n : Nat) : Int)) ∧ w' = w := by
  obtain ⟨p, cap, rfl, hc1, hc2⟩ := Sl.shape hv
  unfold maxLen at hc2
  have HV := hide hv
  have HD := hide hD
  clear hv hD
  go_enter Try.func40, Try.ntmps40
  go_wp2
  go_loopw [3, 8] (fun xr xi w1 => ∃ k : Nat, k ≤ n ∧ xi = .int .i64 k ∧ xr = .int .u32 ((crc 4294967295 D k : Nat) : Int) ∧ w1 = w) (fun _ i _ => n - (intOf i).toNat)
  case atStart => exact ⟨0, by omega, rfl, rfl, rfl⟩
  case round =>
    obtain ⟨k, hk, rfl, rfl, hw⟩ := hrel
    obtain rfl := hw.symm
    have hR : crc 4294967295 D k < 4294967296 := crc_lt (by decide) k fun i hi => unhide HD i (by omega)
    by_cases hlt : k < n
    · obtain ⟨b, off, rfl, _, hcell⟩ := Sl.some (unhide HV) (by omega)
      have hc := hcell k hlt
      have hx := unhide HD k hlt
      have hN : crc 4294967295 D (k + 1) = stk 8 (crc 4294967295 D k ^^^ D k) := rfl
      have HN := hide hN
      clear hN hcell
      generalize D k = x at *
      generalize crc 4294967295 D k = R at *
      have hxor := u32_xor_nat R x hR (by omega)
      have c := hide (shifted_is (R ^^^ x) (xor_lt hR (by omega)))
      go_wp2_with (go_at_call 56; refine (unhide c _).mono ?_; rintro e w1 ⟨rfl, hw⟩; obtain rfl := hw.symm)
      go_roundw
      case rel => exact ⟨k + 1, by omega, by go_num, by rw [unhide HN], trivial⟩
      case measure => simp [intOf]; omega
    · obtain rfl : n = k := by omega
      have hxor : bits .xor .u32 ((crc 4294967295 D n : Nat) : Int) 4294967295 = ((crc 4294967295 D n ^^^ 4294967295 : Nat) : Int) := u32_xor_nat (crc 4294967295 D n) 4294967295 hR (by omega)
      have hS : sumN D n = crc 4294967295 D n ^^^ 4294967295 := rfl
      have HS := hide hS
      have hl := xor_lt hR (show 4294967295 < 4294967296 by decide)
      clear hS
      generalize crc 4294967295 D n = R at *
      generalize R ^^^ 4294967295 = X at *
      go_wp2
      go_ret
      exact ⟨by rw [unhide HS]; rfl, rfl⟩
theorem or_at (a x m : Nat) (ha : a < 2 ^ m) (hm : m ≤ 24) (hx : x < 256) : bits .or .i64 (a : Int) ((x * 2 ^ m : Nat) : Int) = ((a + 2 ^ m * x : Nat) : Int) := by
  have hp : 2 ^ m ≤ 2 ^ 24 := Nat.pow_le_pow_right (by decide) hm
  have hb : 2 ^ m * x < 2 ^ 24 * 256 := Nat.lt_of_le_of_lt (Nat.mul_le_mul_right _ hp) (Nat.mul_lt_mul_of_pos_left hx (by decide))
  rw [Nat.mul_comm x]
  have e1 : (BitVec.ofInt 64 (a : Int)).toNat = a := by rw [BitVec.toNat_ofInt]; omega
  have e2 : (BitVec.ofInt 64 ((2 ^ m * x : Nat) : Int)).toNat = 2 ^ m * x := by rw [BitVec.toNat_ofInt]; omega
  have e3 := Nat.two_pow_add_eq_or_of_lt (i := m) (b := a) ha x
  show IntKind.i64.wrap (((BitVec.ofInt 64 (a : Int) ||| BitVec.ofInt 64 ((2 ^ m * x : Nat) : Int)).toNat : Nat) : Int) = _
  rw [BitVec.toNat_or, e1, e2, Nat.or_comm, ← e3]
  generalize 2 ^ m * x = y at *
  simp [IntKind.wrap, IntKind.bits, IntKind.signed]
  omega
set_option maxRecDepth 100000 in
theorem read_is (D : Nat → Nat) (v : Value) (w : World) (hv : Bs w v 4 D) (hD : ∀ i, i < 4 → D i < 256) :
    Calls Try.prog 41 #[v] w fun e w' => e = .returned (.int .i64 ((le4 D 0 : Nat) : Int)) ∧ w' = w := by
  obtain ⟨p, cap, rfl, hc1, hc2⟩ := Sl.shape hv
  unfold maxLen at hc2
  obtain ⟨b, off, rfl, _, hcell⟩ := Sl.some hv (by omega)
  have q0 := hcell 0 (by omega)
  have q1 := hcell 1 (by omega)
  have q2 := hcell 2 (by omega)
  have q3 := hcell 3 (by omega)
  rw [Nat.add_zero] at q0
  have b0 := hD 0 (by omega)
  have b1 := hD 1 (by omega)
  have b2 := hD 2 (by omega)
  have b3 := hD 3 (by omega)
  obtain ⟨y1, hy1⟩ : ∃ y, y = D 0 + 256 * D 1 := ⟨_, rfl⟩
  obtain ⟨y2, hy2⟩ : ∃ y, y = y1 + 65536 * D 2 := ⟨_, rfl⟩
  obtain ⟨y3, hy3⟩ : ∃ y, y = y2 + 16777216 * D 3 := ⟨_, rfl⟩
  have o0 : bits .or .i64 0 ((D 0 : Nat) : Int) = ((D 0 : Nat) : Int) := by
    have h := or_at 0 (D 0) 0 (by omega) (by omega) b0
    simpa using h
  have o1 : bits .or .i64 ((D 0 : Nat) : Int) (((D 1 : Nat) : Int) * 256) = (y1 : Int) := by
    have h := or_at (D 0) (D 1) 8 (by omega) (by omega) b1
    rw [hy1]
    exact h
  have o2 : bits .or .i64 (y1 : Int) (((D 2 : Nat) : Int) * 65536) = (y2 : Int) := by
    have h := or_at y1 (D 2) 16 (by omega) (by omega) b2
    rw [hy2]
    exact h
  have o3 : bits .or .i64 (y2 : Int) (((D 3 : Nat) : Int) * 16777216) = (y3 : Int) := by
    have h := or_at y2 (D 3) 24 (by omega) (by omega) b3
    rw [hy3]
    exact h
  have hL : le4 D 0 = y3 := by unfold le4; simp only [Nat.zero_add]; omega
  have HL := hide hL
  clear hL hv hD hcell hy1 hy2 hy3
  generalize D 0 = x0 at *
  generalize D 1 = x1 at *
  generalize D 2 = x2 at *
  generalize D 3 = x3 at *
  go_enter Try.func41, Try.ntmps41
  go_wp2
  go_loopw [3, 8] (fun xr xi w1 => ((xi = .int .i64 0 ∧ xr = .int .i64 0) ∨ (xi = .int .i64 1 ∧ xr = .int .i64 ((x0 : Nat) : Int)) ∨ (xi = .int .i64 2 ∧ xr = .int .i64 (y1 : Int)) ∨ (xi = .int .i64 3 ∧ xr = .int .i64 (y2 : Int)) ∨ (xi = .int .i64 4 ∧ xr = .int .i64 (y3 : Int))) ∧ w1 = w) (fun _ i _ => 4 - (intOf i).toNat)
  case atStart => exact ⟨.inl ⟨rfl, rfl⟩, rfl⟩
  case round =>
    obtain ⟨hrel, hw⟩ := hrel
    obtain rfl := hw.symm
    rcases hrel with ⟨rfl, rfl⟩ | ⟨rfl, rfl⟩ | ⟨rfl, rfl⟩ | ⟨rfl, rfl⟩ | ⟨rfl, rfl⟩
    · go_wp2
      go_roundw
      case rel => exact ⟨.inr (.inl ⟨rfl, rfl⟩), trivial⟩
      case measure => simp [intOf]
    · go_wp2
      go_roundw
      case rel => exact ⟨.inr (.inr (.inl ⟨rfl, rfl⟩)), trivial⟩
      case measure => simp [intOf]
    · go_wp2
      go_roundw
      case rel => exact ⟨.inr (.inr (.inr (.inl ⟨rfl, rfl⟩))), trivial⟩
      case measure => simp [intOf]
    · go_wp2
      go_roundw
      case rel => exact ⟨.inr (.inr (.inr (.inr ⟨rfl, rfl⟩))), trivial⟩
      case measure => simp [intOf]
    · go_wp2
      go_ret
      exact ⟨by rw [unhide HL]; rfl, rfl⟩
end Go.Proofs.Ytmcmiojidgdjpaa.Cr
namespace Go.Proofs.Ytmcmiojidgdjpaa.Cr
open Go.RowKit

/-- The bytes with the number S behind, the least byte first. -/
def sealD (D : Nat → Nat) (n S : Nat) (i : Nat) : Nat := if i < n then D i else S / 2 ^ (8 * (i - n)) % 256
theorem sealD_ahead (D : Nat → Nat) (n S i : Nat) (h : i < n) : sealD D n S i = D i := by unfold sealD; rw [if_pos h]
theorem sealD_lt (D : Nat → Nat) (n S i : Nat) (h : ∀ i, i < n → D i < 256) : sealD D n S i < 256 := by
  unfold sealD
  split
  · exact h i (by assumption)
  · omega
theorem le4_seal (D : Nat → Nat) (n S : Nat) (h : S < 4294967296) : le4 (sealD D n S) n = S := by
  unfold le4 sealD
  rw [if_neg (by omega), if_neg (by omega), if_neg (by omega), if_neg (by omega), Nat.sub_self, Nat.add_sub_cancel_left, Nat.add_sub_cancel_left, Nat.add_sub_cancel_left]
  simp only [Nat.mul_zero, Nat.pow_zero, Nat.div_one, Nat.mul_one, show 2 ^ 8 = 256 from rfl, show 2 ^ (8 * 2) = 65536 from rfl, show 2 ^ (8 * 3) = 16777216 from rfl]
  omega
theorem sum_seal (D : Nat → Nat) (n S : Nat) : sumN (sealD D n S) n = sumN D n := sumN_congr fun i hi => sealD_ahead D n S i hi
/-- The bytes, as values. -/
def bL (D : Nat → Nat) (n : Nat) : List Value := vL .u8 (fun i => (D i : Int)) n
theorem bs_of_owns {w : World} {B n : Nat} {v : Value} {D : Nat → Nat} (h : w.ownsRow B 5 1 v n (bL D n)) : Bs w v n D := sl_of_owns h

set_option maxRecDepth 100000 in
theorem seal_is (D : Nat → Nat) (v : Value) (n : Nat) (w : World) (hv : Bs w v n D) (hD : ∀ i, i < n → D i < 256) (hn : n ≤ 100000) :
    Calls Try.prog 20 #[v] w fun e w' => e = .returned (.slice (some ⟨w.heap.size, 0, none⟩) (n + 4) (n + 4)) ∧ w'.ownsRow w.heap.size 5 1 (.slice (some ⟨w.heap.size, 0, none⟩) (n + 4) (n + 4)) (n + 4) (bL (sealD D n (sumN D n)) (n + 4)) ∧ Below w.heap.size w w' := by
  obtain ⟨i, hi, hz0, hz1, hz2⟩ := info_parts info5
  have hS := sumN_lt hD
  have c : Hid (∀ w1, Below w.heap.size w w1 → Calls Try.prog 40 #[v] w1 fun e w' => e = .returned (.int .i64 ((sumN D n : Nat) : Int)) ∧ w' = w1) := hide fun w1 hb => sum_is D v n w1 (Sl.below hv hb (Nat.le_refl _)) hD
  obtain ⟨p, cap, rfl, hc1, hc2⟩ := Sl.shape hv
  unfold maxLen at hc2
  have HV := hide hv
  have hE : bL (sealD D n (sumN D n)) n = vL .u8 (fun i => (D i : Int)) n := vL_congr fun j hj => by rw [sealD_ahead _ _ _ _ hj]
  have HE := hide hE
  clear hv hD hE
  have hN : ∀ k, bL (sealD D n (sumN D n)) (n + k) ++ [.int .u8 ((sumN D n / 2 ^ (8 * k) % 256 : Nat) : Int)] = bL (sealD D n (sumN D n)) (n + (k + 1)) := by
    intro k
    rw [← Nat.add_assoc, bL, bL, vL_succ]
    congr 3
    unfold sealD
    rw [if_neg (by omega), Nat.add_sub_cancel_left]
  have HN := hide hN
  clear hN
  generalize hF : sealD D n (sumN D n) = F at *
  clear hF
  generalize sumN D n = S at *
  go_enter Try.func20, Try.ntmps20
  go_wp2_with (at_make; refine wpList_make_own _ rfl _ _ 25 rfl w.heap.size 5 i (.int .u8 0) 1 Try.underlying25 hi hz0 hz1 .i64 .i64 ((n : Int) + 4) (n + 4) rfl rfl (by omega) (by rw [hz2]; omega) (by unfold maxLen; omega) (Nat.le_refl _) ?_)
  intro w1 hown hgrow
  have hbel : Below w.heap.size w w1 := (Below.refl _ _).grown hgrow (Nat.le_refl _) (by intro k h; cases h)
  have hcs := Sl.cells (Sl.below (unhide HV) hbel (Nat.le_refl _))
  clear hgrow
  go_wp2_with (at_builtin; refine wpList_append_fits_any _ rfl (.tmp 9) (.tmp 10) 25 rfl w.heap.size 5 i 1 Try.underlying25 hi hz1 w.heap.size 0 (n + 4) [] rfl hown p n cap (vL .u8 (fun i => (D i : Int)) n) rfl (by rw [vL_length, Nat.mul_one]) hcs.1 hcs.2 (vL_one _ _ n) (by omega) ?_)
  intro w2 hown2 hgrow2
  have hbel2 : Below w.heap.size w w2 := hbel.grown hgrow2 hbel.size (by intro k h; cases h; exact Nat.le_refl _)
  rw [← unhide HE] at hown2
  clear hcs hgrow2 hown hbel
  have B2 := hide hbel2
  clear hbel2
  go_wp2_with (go_at_call 40; refine (unhide c _ (unhide B2)).mono ?_; rintro e w3 ⟨rfl, hw⟩; obtain rfl := hw.symm)
  go_loopw [3, 14] (fun xo xi w3 => ∃ k : Nat, k ≤ 4 ∧ xi = .int .i64 k ∧ xo = .slice (some ⟨w.heap.size, 0, none⟩) (n + k) (n + 4) ∧ w3.ownsRow w.heap.size 5 1 xo (n + k) (bL F (n + k)) ∧ Below w.heap.size w w3) (fun _ i _ => 4 - (intOf i).toNat)
  case atStart => exact ⟨0, by omega, rfl, rfl, hown2, unhide B2⟩
  case round =>
    clear hown2 B2
    obtain ⟨k, hk, rfl, rfl, hown, hbel⟩ := hrel
    by_cases hlt : k < 4
    · have e2 : min (8 * (k : Int)).toNat 64 = 8 * k := by omega
      have hx : S / 2 ^ (8 * k) ≤ S := Nat.div_le_self _ _
      have e3 : ((S : Int) / 2 ^ (8 * k)) % 256 = ((S / 2 ^ (8 * k) % 256 : Nat) : Int) := by
        rw [Int.natCast_emod, Int.natCast_ediv, Int.natCast_pow]; rfl
      have hnew := unhide HN k
      generalize S / 2 ^ (8 * k) % 256 = x at *
      have HN2 := hide hnew
      clear hnew hx
      go_wp2_with (at_builtin; refine wpList_append_fits _ rfl (.tmp 17) (.tmp 23) 25 rfl w.heap.size 5 i 1 Try.underlying25 hi hz1 w.heap.size (n + k) (n + 4) (bL F (n + k)) rfl (hown.alloc _) ⟨wr.heap.size, 0, none⟩ 1 1 [.int .u8 (x : Int)] rfl rfl ?_ ?_ (by omega) ?_)
      · exact cells_lit wr [.int .u8 (x : Int)] 5
      · intro u hu
        simp at hu
        subst hu
        rfl
      · intro w2 hown2 hgrow2
        rw [unhide HN2] at hown2
        go_wp2
        go_roundw
        case rel => exact ⟨k + 1, by omega, by go_num, rfl, hown2, (hbel.alloc hbel.size _).grown hgrow2 (by simp; have := hbel.size; omega) (by intro k h; cases h; exact Nat.le_refl _)⟩
        case measure => simp [intOf]; omega
    · obtain rfl : k = 4 := by omega
      go_wp2
      go_ret
      exact ⟨rfl, hown, hbel⟩
theorem open_short (p : Option Addr) (n cap : Nat) (hn : n < 4) (w : World) :
    Calls Try.prog 19 #[.slice p n cap] w fun e w' => e = .returned (.tuple #[.slice none 0 0, .int .i64 2]) ∧ w' = w := by
  have d : decide ((n : Int) < 4) = true := decide_eq_true (by omega)
  go_enter Try.func19, Try.ntmps19
  go_wp2
  go_ret2
  exact ⟨rfl, rfl⟩
set_option maxRecDepth 100000 in
theorem open_any (D : Nat → Nat) (v : Value) (n m : Nat) (w : World) (hv : Bs w v n D) (hD : ∀ i, i < n → D i < 256) (hn : n ≤ 100000) (hm : n = m + 4) :
    Calls Try.prog 19 #[v] w fun e w' => Below w.heap.size w w' ∧ ((sumN D m ≠ le4 D m ∧ e = .returned (.tuple #[.slice none 0 0, .int .i64 4])) ∨
      (sumN D m = le4 D m ∧ ∃ v', e = .returned (.tuple #[v', .int .i64 0]) ∧ w'.ownsRow w.heap.size 5 1 v' m (bL D m))) := by
  obtain ⟨i, hi, hz0, hz1, hz2⟩ := info_parts info5
  obtain ⟨p, cap, rfl, hc1, hc2⟩ := Sl.shape hv
  unfold maxLen at hc2
  obtain ⟨b, off, rfl, hb, hcell⟩ := Sl.some hv (by omega)
  have hT : Bs w (.slice (some ⟨b, off, none⟩) m cap) m D := .inr ⟨b, off, cap, rfl, by omega, hc2, hb, fun i h => hcell i (by omega)⟩
  have hR : Bs w (.slice (some ⟨b, off + m, none⟩) 4 (cap - m)) 4 (fun i => D (m + i)) := .inr ⟨b, off + m, cap - m, rfl, by omega, by unfold maxLen; omega, hb, fun i h => by rw [Nat.add_assoc]; exact hcell (m + i) (by omega)⟩
  have hl4 : le4 (fun i => D (m + i)) 0 = le4 D m := by unfold le4; simp only [Nat.zero_add, Nat.add_zero]
  have c1 := fun w1 (hb : Below w.heap.size w w1) => sum_is D _ m w1 (Sl.below hT hb (Nat.le_refl _)) (fun i hi => hD i (by omega))
  have c2 := fun w1 (hb : Below w.heap.size w w1) => read_is (fun i => D (m + i)) _ w1 (Sl.below hR hb (Nat.le_refl _)) (fun i hi => hD (m + i) (by omega))
  rw [hl4] at c2
  have C1 := hide c1
  have C2 := hide c2
  have HT := hide hT
  clear c1 c2 hl4 hT hR hcell hv hD
  have d : decide ((n : Int) < 4) = false := decide_eq_false (by omega)
  have e1 : (n : Int) - 4 = (m : Int) := by omega
  have e2 : n - m = 4 := by omega
  have e3 : ¬ cap = m := by omega
  have e4 : ¬ cap - m = 0 := by omega
  have e5 : m ≤ n := by omega
  have e6 : m ≤ cap := by omega
  have HM := hide hm
  clear hm
  unfold bL
  generalize sumN D m = S at *
  generalize le4 D m = L at *
  by_cases hSL : S = L
  · have d2 : ((S : Int) != (L : Int)) = false := by simp; omega
    go_enter Try.func19, Try.ntmps19
    go_wp2
    go_quiet (fail)
    obtain ⟨w1, hw1⟩ : ∃ x, x = w.drewN nq := ⟨_, rfl⟩
    have hb1 : Below w.heap.size w w1 := by rw [hw1]; exact below_drewN (Below.refl _ _) _
    rw [← hw1]
    clear hw1
    have B1 := hide hb1
    clear hb1
    go_wp2_with (first
      | (go_at_call 40; refine (unhide C1 _ (unhide B1)).mono ?_; rintro e w2 ⟨rfl, hw⟩; obtain rfl := hw.symm)
      | (go_at_call 41; refine (unhide C2 _ (unhide B1)).mono ?_; rintro e w2 ⟨rfl, hw⟩; obtain rfl := hw.symm)
      | (at_make; refine wpList_make_own _ rfl _ _ 25 rfl w.heap.size 5 i (.int .u8 0) 1 Try.underlying25 hi hz0 hz1 .i64 .i64 (m : Int) m rfl rfl (by omega) (by rw [hz2]; omega) (by unfold maxLen; omega) (unhide B1).size ?_))
    intro w3 hown hgrow
    have hbel : Below w.heap.size w w3 := (unhide B1).grown hgrow (unhide B1).size (by intro k h; cases h)
    have hcs := Sl.cells (Sl.below (unhide HT) hbel (Nat.le_refl _))
    clear hgrow
    have hb31 := hbel.size
    have e7 : w.heap.size ≤ w1.heap.size := (unhide B1).size
    go_wp2_with (at_builtin; refine wpList_append_fits_any _ rfl (.tmp 26) (.tmp 27) 25 rfl w.heap.size 5 i 1 Try.underlying25 hi hz1 w1.heap.size 0 m [] rfl hown (some ⟨b, off, none⟩) m cap (vL .u8 (fun i => (D i : Int)) m) rfl (by rw [vL_length, Nat.mul_one]) hcs.1 hcs.2 (vL_one _ _ m) (by omega) ?_)
    intro w4 hown2 hgrow2
    go_wp2
    go_ret2
    exact ⟨hbel.grown hgrow2 hbel.size (by intro k h; cases h; exact e7), .inr ⟨hSL, _, rfl, hown2⟩⟩
  · have d2 : ((S : Int) != (L : Int)) = true := by simp; omega
    go_enter Try.func19, Try.ntmps19
    go_wp2
    go_quiet (fail)
    obtain ⟨w1, hw1⟩ : ∃ x, x = w.drewN nq := ⟨_, rfl⟩
    have hb1 : Below w.heap.size w w1 := by rw [hw1]; exact below_drewN (Below.refl _ _) _
    rw [← hw1]
    clear hw1
    have B1 := hide hb1
    clear hb1
    go_wp2_with (first
      | (go_at_call 40; refine (unhide C1 _ (unhide B1)).mono ?_; rintro e w2 ⟨rfl, hw⟩; obtain rfl := hw.symm)
      | (go_at_call 41; refine (unhide C2 _ (unhide B1)).mono ?_; rintro e w2 ⟨rfl, hw⟩; obtain rfl := hw.symm))
    go_ret2
    exact ⟨unhide B1, .inl ⟨hSL, rfl⟩⟩
end Go.Proofs.Ytmcmiojidgdjpaa.Cr
namespace Go.Proofs.Ytmcmiojidgdjpaa.Cr
open Go.RowKit

theorem open_ok (D : Nat → Nat) (v : Value) (m : Nat) (w : World) (hv : Bs w v (m + 4) D) (hD : ∀ i, i < m + 4 → D i < 256) (hn : m + 4 ≤ 100000) (h : sumN D m = le4 D m) :
    Calls Try.prog 19 #[v] w fun e w' => ∃ v', e = .returned (.tuple #[v', .int .i64 0]) ∧ w'.ownsRow w.heap.size 5 1 v' m (bL D m) ∧ Below w.heap.size w w' := by
  refine (open_any D v (m + 4) m w hv hD hn rfl).mono ?_
  rintro e w' ⟨hb, ⟨h2, _⟩ | ⟨_, v', rfl, ho⟩⟩
  · exact absurd h h2
  · exact ⟨v', rfl, ho, hb⟩
theorem open_bad (D : Nat → Nat) (v : Value) (m : Nat) (w : World) (hv : Bs w v (m + 4) D) (hD : ∀ i, i < m + 4 → D i < 256) (hn : m + 4 ≤ 100000) (h : sumN D m ≠ le4 D m) :
    Calls Try.prog 19 #[v] w fun e w' => e = .returned (.tuple #[.slice none 0 0, .int .i64 4]) ∧ Below w.heap.size w w' := by
  refine (open_any D v (m + 4) m w hv hD hn rfl).mono ?_
  rintro e w' ⟨hb, ⟨_, rfl⟩ | ⟨h2, _⟩⟩
  · exact ⟨rfl, hb⟩
  · exact absurd h2 h
theorem seal_good (D : Nat → Nat) (n : Nat) (h : ∀ i, i < n → D i < 256) : sumN (sealD D n (sumN D n)) n = le4 (sealD D n (sumN D n)) n := by
  rw [sum_seal, le4_seal _ _ _ (sumN_lt h)]

theorem cells_marked (w : World) (L : List Value) (t : TypeId) (m : Nat × Nat) : ∀ j u, L[j]? = some u → (w.alloc (.cells L.toArray t m)).cell? ⟨w.heap.size, j, none⟩ = some u := by
  intro j u h
  have hb : (w.alloc (.cells L.toArray t m)).heap[w.heap.size]? = some (.cells L.toArray t m) := by
    show (w.heap.push (.cells L.toArray t m))[w.heap.size]? = _
    simp
  unfold World.cell?
  rw [hb]
  simpa using h
end Go.Proofs.Ytmcmiojidgdjpaa.Cr
namespace Go.Proofs.Ytmcmiojidgdjpaa.Cr
open Go.RowKit
theorem modN (x : Int) (n : Nat) (h : 0 < n) (h2 : n ≤ 1000000) : ∃ q : Nat, wrap64 ((IntKind.u64.wrap x).tmod n) = q ∧ q < n := by
  have e1 : IntKind.u64.wrap x = x % 18446744073709551616 := rfl
  have h3 := Int.emod_lt_of_pos (x % 18446744073709551616) (show (0:Int) < n by omega)
  have h4 := Int.emod_nonneg (x % 18446744073709551616) (show (n:Int) ≠ 0 by omega)
  refine ⟨((x % 18446744073709551616) % n).toNat, ?_, by omega⟩
  rw [e1, Int.tmod_eq_emod_of_nonneg (by omega)]
  unfold wrap64
  omega
/-- The bytes G, the first k of four from a on changed by X. -/
def xorD (G : Nat → Nat) (a : Nat) (X : Nat → Nat) (k i : Nat) : Nat := if a ≤ i ∧ i < a + k then G i ^^^ X (i - a) else G i
theorem xorD_zero (G : Nat → Nat) (a : Nat) (X : Nat → Nat) (i : Nat) : xorD G a X 0 i = G i := by unfold xorD; rw [if_neg (by omega)]
theorem xorD_lt (G : Nat → Nat) (a : Nat) (X : Nat → Nat) (k i : Nat) (hG : G i < 256) (hX : ∀ j, j < k → X j < 256) : xorD G a X k i < 256 := by
  unfold xorD
  split
  · exact Nat.xor_lt_two_pow (n := 8) hG (hX _ (by omega))
  · exact hG
theorem xorD_set (G : Nat → Nat) (a : Nat) (X : Nat → Nat) (k n : Nat) (h : a + k < n) : (bL (xorD G a X k) n).set (a + k) (.int .u8 ((G (a + k) ^^^ X k : Nat) : Int)) = bL (xorD G a X (k + 1)) n := by
  apply List.ext_getElem?
  intro t
  unfold bL
  by_cases ht : t < n
  · by_cases e : a + k = t
    · subst e
      rw [List.getElem?_set_self (by rw [vL_length]; exact h), vL_get _ _ _ _ ht]
      unfold xorD
      rw [if_pos (by omega), Nat.add_sub_cancel_left]
    · rw [List.getElem?_set_ne e, vL_get _ _ _ _ ht, vL_get _ _ _ _ ht]
      unfold xorD
      by_cases g : a ≤ t ∧ t < a + k
      · rw [if_pos g, if_pos (by omega)]
      · rw [if_neg g, if_neg (by omega)]
  · rw [List.getElem?_eq_none (by rw [List.length_set, vL_length]; omega), List.getElem?_eq_none (by rw [vL_length]; omega)]
/-- Has one of the first k changed? -/
def chg (X : Nat → Nat) : Nat → Bool
  | 0 => false
  | k + 1 => chg X k || X k != 0
theorem chg_false (X : Nat → Nat) : ∀ k, (∀ j, j < k → X j = 0) → chg X k = false
  | 0, _ => rfl
  | k + 1, h => by rw [chg, chg_false X k (fun j hj => h j (by omega)), h k (by omega)]; rfl
theorem chg_true (X : Nat → Nat) : ∀ k, (¬ ∀ j, j < k → X j = 0) → chg X k = true
  | 0, h => absurd (fun j hj => absurd hj (Nat.not_lt_zero _)) h
  | k + 1, h => by
    rw [chg]
    by_cases h2 : ∀ j, j < k → X j = 0
    · by_cases h3 : X k = 0
      · refine absurd (fun j hj => ?_) h
        by_cases e : j = k
        · rw [e, h3]
        · exact h2 j (by omega)
      · simp [h3]
    · rw [chg_true X k h2]; rfl
theorem back_iff (G X : Nat → Nat) (n a : Nat) (ha : a ≤ n) (hG : ∀ i, i < n + 4 → G i < 256) (hX : ∀ j, j < 4 → X j < 256) (hs : sumN G n = le4 G n) :
    (sumN (xorD G a X 4) n = le4 (xorD G a X 4) n) ↔ ∀ j, j < 4 → X j = 0 := by
  have e : xorD G a X 4 = fun i => G i ^^^ (if a ≤ i ∧ i < a + 4 then X (i - a) else 0) := by
    funext i
    unfold xorD
    split
    · rfl
    · rw [Nat.xor_zero]
  rw [e, open_iff G (fun i => if a ≤ i ∧ i < a + 4 then X (i - a) else 0) n a ha hG ?_ ?_ hs]
  · constructor
    · intro h j hj
      have := h j hj
      rwa [if_pos (by omega), Nat.add_sub_cancel_left] at this
    · intro h j hj
      show (if a ≤ a + j ∧ a + j < a + 4 then X (a + j - a) else 0) = 0
      rw [if_pos (by omega), Nat.add_sub_cancel_left, h j hj]
  · intro i hi
    show (if a ≤ i ∧ i < a + 4 then X (i - a) else 0) < 256
    split
    · exact hX _ (by omega)
    · decide
  · intro i hi h
    show (if a ≤ i ∧ i < a + 4 then X (i - a) else 0) = 0
    rw [if_neg (by omega)]

end Go.Proofs.Ytmcmiojidgdjpaa.Cr
namespace Go.Proofs.Ytmcmiojidgdjpaa.Cr
open Go.RowKit
theorem owns_below {e : TypeId} {w w' : World} {B n : Nat} {v : Value} {L : List Value} (h : w.ownsRow B e 1 v n L) (hb : Below w.heap.size w w') : w'.ownsRow B e 1 v n L := by
  rcases h.2 with h2 | ⟨g, cap, cur, h1, h2, hg, h3⟩
  · exact ⟨h.1, .inl h2⟩
  · exact ⟨h.1, .inr ⟨g, cap, cur, h1, h2, (hb.block g (Array.getElem?_eq_some_iff.1 hg).1).trans hg, h3⟩⟩
theorem nz (x : Nat) : ((x : Int) != 0) = (x != 0) := by
  rcases x with _ | x
  · rfl
  · simp
    omega
/-- Four numbers by their place. -/
def four (x0 x1 x2 x3 : Nat) (j : Nat) : Nat := [x0, x1, x2, x3].getD j 0
end Go.Proofs.Ytmcmiojidgdjpaa.Cr
namespace Go.Proofs.Ytmcmiojidgdjpaa.Cr
open Go.RowKit

set_option maxRecDepth 100000 in
theorem refCrc_is (D : Nat → Nat) (v : Value) (n : Nat) (w : World) (hv : Bs w v n D) (hD : ∀ i, i < n → D i < 256) :
    Calls Try.prog 55 #[v] w fun e w' => e = .returned (.int .i64 ((sumN D n : Nat) : Int)) ∧ w' = w := by
  obtain ⟨p, cap, rfl, hc1, hc2⟩ := Sl.shape hv
  unfold maxLen at hc2
  have HV := hide hv
  have HD := hide hD
  clear hv hD
  go_enter Try.func55, Try.ntmps55
  go_wp2
  go_loopw [3, 4] (fun xr xi w1 => ∃ k : Nat, k ≤ n ∧ xi = .int .i64 k ∧ xr = .int .u32 ((crc 4294967295 D k : Nat) : Int) ∧ w1 = w) (fun _ i _ => n - (intOf i).toNat)
  case atStart => exact ⟨0, by omega, rfl, rfl, rfl⟩
  case round =>
    obtain ⟨k, hk, rfl, rfl, hw⟩ := hrel
    obtain rfl := hw.symm
    have hR : crc 4294967295 D k < 4294967296 := crc_lt (by decide) k fun i hi => unhide HD i (by omega)
    by_cases hlt : k < n
    · obtain ⟨b, off, rfl, _, hcell⟩ := Sl.some (unhide HV) (by omega)
      have hc := hcell k hlt
      have hx := unhide HD k hlt
      have hN : crc 4294967295 D (k + 1) = stk 8 (crc 4294967295 D k ^^^ D k) := rfl
      have HN := hide hN
      clear hN hcell
      generalize D k = x at *
      generalize crc 4294967295 D k = R at *
      have hxor := u32_xor_nat R x hR (by omega)
      have hl := xor_lt hR (show x < 4294967296 by omega)
      generalize R ^^^ x = r at *
      go_wp2
      go_loopw [3, 5] (fun xr xi w1 => ∃ j : Nat, j ≤ 8 ∧ xi = .int .i64 j ∧ xr = .int .u32 ((stk j r : Nat) : Int) ∧ w1 = w) (fun _ i _ => 8 - (intOf i).toNat)
      case atStart => exact ⟨0, by omega, rfl, rfl, rfl⟩
      case round =>
        obtain ⟨j, hj, rfl, rfl, hw2⟩ := hrel
        obtain rfl := hw2.symm
        by_cases hlt2 : j < 8
        · have hq := stk_lt hl j
          have hN : stk (j + 1) r = st (stk j r) := rfl
          have HN2 := hide hN
          clear hN
          generalize stk j r = Q at *
          have hx2 : bits .xor .u32 ((Q : Int) / 2) 3988292384 = ((Q / 2 ^^^ 3988292384 : Nat) : Int) := u32_xor_nat (Q / 2) 3988292384 (by omega) (by decide)
          by_cases hb : Q % 2 = 1
          · have hb' : (Q : Int) % 2 = 1 := by omega
            go_wp2
            go_roundw
            case rel => exact ⟨j + 1, by omega, by go_num, by rw [unhide HN2, st, if_pos hb], trivial⟩
            case measure => simp [intOf]; omega
          · have hb' : (Q : Int) % 2 = 0 := by omega
            go_wp2
            go_roundw
            case rel => exact ⟨j + 1, by omega, by go_num, by rw [unhide HN2, st, if_neg hb]; rfl, trivial⟩
            case measure => simp [intOf]; omega
        · obtain rfl : j = 8 := by omega
          go_wp2
          go_roundw
          case rel => exact ⟨k + 1, by omega, by go_num, by rw [unhide HN], trivial⟩
          case measure => simp [intOf]; omega
    · obtain rfl : n = k := by omega
      have hS : sumN D n = crc 4294967295 D n ^^^ 4294967295 := rfl
      have HS := hide hS
      clear hS
      have hl := xor_lt hR (show 4294967295 < 4294967296 by decide)
      have hxor : bits .xor .u32 IntKind.u32.max ((crc 4294967295 D n : Nat) : Int) = ((crc 4294967295 D n ^^^ 4294967295 : Nat) : Int) := by
        rw [Nat.xor_comm]
        exact u32_xor_nat 4294967295 _ (by decide) hR
      generalize crc 4294967295 D n = R at *
      generalize R ^^^ 4294967295 = X at *
      have hwr : wrap64 (X : Int) = X := by unfold wrap64; omega
      go_wp2
      go_ret
      exact ⟨by rw [unhide HS]; rfl, rfl⟩
set_option maxRecDepth 100000 in
theorem refSeal_is (D : Nat → Nat) (v : Value) (n : Nat) (w : World) (hv : Bs w v n D) (hD : ∀ i, i < n → D i < 256) (hn : n ≤ 100000) :
    Calls Try.prog 39 #[v] w fun e w' => ∃ v', e = .returned v' ∧ w'.ownsRow w.heap.size 5 1 v' (n + 4) (bL (sealD D n (sumN D n)) (n + 4)) ∧ Below w.heap.size w w' := by
  obtain ⟨i, hi, hz0, hz1, hz2⟩ := info_parts info5
  have hS := sumN_lt hD
  have c1 := hide (refCrc_is D v n w hv hD)
  have c2 := hide (twin_any _ v n w hv (by omega))
  have hE : bL (sealD D n (sumN D n)) n = vL .u8 (fun i => (D i : Int)) n := vL_congr fun j hj => by rw [sealD_ahead _ _ _ _ hj]
  have HE := hide hE
  have hN : ∀ k, bL (sealD D n (sumN D n)) (n + k) ++ [.int .u8 ((sumN D n / 2 ^ (8 * k) % 256 : Nat) : Int)] = bL (sealD D n (sumN D n)) (n + (k + 1)) := by
    intro k
    rw [← Nat.add_assoc, bL, bL, vL_succ]
    congr 3
    unfold sealD
    rw [if_neg (by omega), Nat.add_sub_cancel_left]
  have HN := hide hN
  clear hv hD hE hN
  generalize hF : sealD D n (sumN D n) = F at *
  clear hF
  generalize sumN D n = S at *
  go_enter Try.func39, Try.ntmps39
  go_wp2_with (first
    | (go_at_call 55; refine (unhide c1).mono ?_; rintro e w1 ⟨rfl, hw⟩; obtain rfl := hw.symm)
    | (go_at_call 9; refine (unhide c2).mono ?_; rintro e w1 ⟨v1, rfl, hown, hbel⟩; rw [← unhide HE] at hown))
  go_loopw [3, 4, 5] (fun xs xo xi w2 => ∃ k : Nat, k ≤ 4 ∧ xi = .int .i64 k ∧ xs = .int .i64 ((S / 2 ^ (8 * k) : Nat) : Int) ∧ w2.ownsRow w.heap.size 5 1 xo (n + k) (bL F (n + k)) ∧ Below w.heap.size w w2) (fun _ _ i _ => 4 - (intOf i).toNat)
  case atStart => exact ⟨0, by omega, rfl, by simp, hown, hbel⟩
  case round =>
    clear hown hbel
    obtain ⟨k, hk, rfl, rfl, hown, hbel⟩ := hrel
    by_cases hlt : k < 4
    · have hx : S / 2 ^ (8 * k) ≤ S := Nat.div_le_self _ _
      have hnew := unhide HN k
      have hd : S / 2 ^ (8 * k) / 256 = S / 2 ^ (8 * (k + 1)) := by
        rw [Nat.div_div_eq_div_mul, show 8 * (k + 1) = 8 * k + 8 by omega, Nat.pow_add]
      have HD2 := hide hd
      have HN2 := hide hnew
      clear hd hnew
      generalize S / 2 ^ (8 * k) = y at *
      go_wp2_with (at_builtin; refine wpList_append_own _ rfl (.tmp 14) (.tmp 18) 25 rfl w.heap.size 5 i (.int .u8 0) 1 1 Try.underlying25 hi hz0 hz1 hz2 rfl (by decide) _ (n + k) (bL F (n + k)) rfl (hown.alloc _) ⟨wr.heap.size, 0, none⟩ 1 1 [.int .u8 ((y % 256 : Nat) : Int)] rfl rfl ?_ ?_ (by unfold maxLen; omega) (by omega) (by have := hbel.size; simp; omega) ?_)
      · exact cells_lit wr [.int .u8 ((y % 256 : Nat) : Int)] 5
      · intro u hu
        simp at hu
        subst hu
        rfl
      · intro v2 w2 hown2 hgrow2 _
        rw [show bL F (n + k) ++ [Value.int .u8 ((y : Int) % 256)] = bL F (n + (k + 1)) from unhide HN2] at hown2
        go_wp2
        go_roundw
        case rel => exact ⟨k + 1, by omega, by go_num, by rw [← unhide HD2]; rfl, hown2, (hbel.alloc hbel.size _).grown hgrow2 (by have := hbel.size; simp; omega) (fun b hb => (hown.lt b hb).1)⟩
        case measure => simp [intOf]; omega
    · obtain rfl : k = 4 := by omega
      go_wp2
      go_ret
      exact ⟨_, rfl, hown, hbel⟩
set_option maxRecDepth 100000 in
/-- keep.Bytes of two that differ at j first. -/
theorem bytes_d (F G : Nat → Int) (va vb : Value) (n j : Nat) (w : World) (ha : Sl .u8 w va n F) (hb : Sl .u8 w vb n G) (hj : j < n) (he : ∀ i, i < j → F i = G i) (hne : F j ≠ G j) :
    Calls Try.prog 14 #[va, vb] w fun e w' => e = .returned (.bool false) ∧ ∃ m, w' = w.drewN m := by
  obtain ⟨pa, ca, rfl, la, ka⟩ := ha.shape
  obtain ⟨pb, cb, rfl, lb, kb⟩ := hb.shape
  unfold maxLen at ka kb
  obtain ⟨ba, oa, rfl, _, hca⟩ := ha.some (by omega)
  obtain ⟨bb, ob, rfl, _, hcb⟩ := hb.some (by omega)
  have HA := hide hca
  have HB := hide hcb
  have HE := hide he
  clear ha hb hca hcb he
  go_enter Try.func14, Try.ntmps14
  go_wp2
  go_loopw [5] (fun xi w1 => ∃ k : Nat, k ≤ j ∧ xi = .int .i64 k ∧ ∃ m, w1 = w.drewN m) (fun i _ => n - (intOf i).toNat)
  case atStart => exact ⟨0, by omega, rfl, 0, rfl⟩
  case round =>
    obtain ⟨k, hk, rfl, m, hW⟩ := hrel
    have c1 : wr.cell? ⟨ba, oa + k, none⟩ = some (.int .u8 (F k)) := by rw [hW]; exact unhide HA k (by omega)
    have c2 : wr.cell? ⟨bb, ob + k, none⟩ = some (.int .u8 (G k)) := by rw [hW]; exact unhide HB k (by omega)
    have HW := hide hW
    clear hW
    by_cases hlt : k < j
    · rw [unhide HE k hlt] at c1
      go_wp2
      go_quiet (fail)
      go_wp2
      go_roundw
      case rel => exact ⟨k + 1, by omega, by go_num, m + nq, by rw [unhide HW, World.drewN_drewN]⟩
      case measure => simp [intOf]; omega
    · obtain rfl : j = k := by omega
      have d : (F j != G j) = true := by simpa using hne
      clear hne
      generalize F j = f at *
      generalize G j = g at *
      go_wp2
      go_quiet (fail)
      go_wp2
      go_ret
      exact ⟨rfl, m + nq, by rw [unhide HW, World.drewN_drewN]⟩
end Go.Proofs.Ytmcmiojidgdjpaa.Cr
namespace Go.Proofs.Ytmcmiojidgdjpaa.Cr
open Go.RowKit

/-- All right, or a first one that is not. -/
theorem first_bad (P : Nat → Prop) [DecidablePred P] (n : Nat) : (∀ i, i < n → P i) ∨ ∃ j, j < n ∧ (∀ i, i < j → P i) ∧ ¬ P j := by
  induction n with
  | zero => exact .inl fun i hi => by omega
  | succ n ih =>
    rcases ih with h | ⟨j, h1, h2, h3⟩
    · by_cases hp : P n
      · exact .inl fun i hi => by
          by_cases e : i < n
          · exact h i e
          · obtain rfl : i = n := by omega
            exact hp
      · exact .inr ⟨n, by omega, h, hp⟩
    · exact .inr ⟨j, by omega, h2, h3⟩
theorem bytes_f (F G : Nat → Nat) (va vb : Value) (n : Nat) (w : World) (ha : Bs w va n F) (hb : Bs w vb n G) (h : ¬ ∀ i, i < n → F i = G i) :
    Calls Try.prog 14 #[va, vb] w fun e w' => e = .returned (.bool false) ∧ Below w.heap.size w w' := by
  rcases first_bad (fun i => F i = G i) n with h2 | ⟨j, h1, h2, h3⟩
  · exact absurd h2 h
  · refine (bytes_d _ _ va vb n j w ha hb h1 (fun i hi => by show (F i : Int) = (G i : Int); rw [h2 i hi]) (fun q => h3 (by exact Int.ofNat_inj.1 q))).mono ?_
    rintro e w' ⟨rfl, m, rfl⟩
    exact ⟨rfl, below_drewN (Below.refl _ _) m⟩
theorem seal_eq (D : Nat → Nat) (m S : Nat) (hD : ∀ i, i < m + 4 → D i < 256) (h : S = le4 D m) (i : Nat) (hi : i < m + 4) : sealD D m S i = D i := by
  unfold sealD
  by_cases e : i < m
  · rw [if_pos e]
  · rw [if_neg e]
    obtain ⟨j, rfl⟩ : ∃ j, i = m + j := ⟨i - m, by omega⟩
    rw [Nat.add_sub_cancel_left, h]
    have h0 := hD m (by omega)
    have h1 := hD (m + 1) (by omega)
    have h2 := hD (m + 2) (by omega)
    have h3 := hD (m + 3) (by omega)
    unfold le4
    match j, hi with
    | 0, _ =>
      simp only [Nat.mul_zero, Nat.pow_zero, Nat.div_one, Nat.add_zero]
      omega
    | 1, _ =>
      simp only [show 2 ^ (8 * 1) = 256 from rfl]
      omega
    | 2, _ =>
      simp only [show 2 ^ (8 * 2) = 65536 from rfl]
      omega
    | 3, _ =>
      simp only [show 2 ^ (8 * 3) = 16777216 from rfl]
      omega
    | j + 4, hi => omega
theorem refOpen_short (p : Option Addr) (n cap : Nat) (hn : n < 4) (w : World) :
    Calls Try.prog 26 #[.slice p n cap] w fun e w' => e = .returned (.tuple #[.slice none 0 0, .int .i64 2]) ∧ w' = w := by
  have d : decide ((n : Int) < 4) = true := decide_eq_true (by omega)
  go_enter Try.func26, Try.ntmps26
  go_wp2
  go_ret2
  exact ⟨rfl, rfl⟩
set_option maxRecDepth 100000 in
theorem refOpen_any (D : Nat → Nat) (v : Value) (n m : Nat) (w : World) (hv : Bs w v n D) (hD : ∀ i, i < n → D i < 256) (hn : n ≤ 100000) (hm : n = m + 4) :
    Calls Try.prog 26 #[v] w fun e w' => Below w.heap.size w w' ∧ ((sumN D m ≠ le4 D m ∧ e = .returned (.tuple #[.slice none 0 0, .int .i64 4])) ∨
      (sumN D m = le4 D m ∧ ∃ v', e = .returned (.tuple #[v', .int .i64 0]) ∧ Bs w' v' m D)) := by
  obtain ⟨p, cap, rfl, hc1, hc2⟩ := Sl.shape hv
  unfold maxLen at hc2
  obtain ⟨b, off, rfl, hb, hcell⟩ := Sl.some hv (by omega)
  have hT : Bs w (.slice (some ⟨b, off, none⟩) m cap) m D := .inr ⟨b, off, cap, rfl, by omega, hc2, hb, fun i h => hcell i (by omega)⟩
  have c1 : Hid (Calls Try.prog 39 #[.slice (some ⟨b, off, none⟩) m cap] w fun e w' => ∃ v', e = .returned v' ∧ Bs w' v' n (sealD D m (sumN D m)) ∧ Below w.heap.size w w') := by
    refine hide ((refSeal_is D _ m w hT (fun i hi => hD i (by omega)) (by omega)).mono ?_)
    rintro e w' ⟨v', rfl, o, bl⟩
    rw [hm]
    exact ⟨v', rfl, bs_of_owns o, bl⟩
  have c3 : Hid (∀ w1, Below w.heap.size w w1 → Calls Try.prog 9 #[.slice (some ⟨b, off, none⟩) m cap] w1 fun e w' => ∃ v', e = .returned v' ∧ Bs w' v' m D ∧ Below w1.heap.size w1 w') := by
    refine hide fun w1 h => (twin_any _ _ m w1 (Sl.below hT h (Nat.le_refl _)) (by omega)).mono ?_
    rintro e w' ⟨v', rfl, o, bl⟩
    exact ⟨v', rfl, sl_of_owns o, bl⟩
  have d : decide ((n : Int) < 4) = false := decide_eq_false (by omega)
  have e1 : (n : Int) - 4 = (m : Int) := by omega
  have i1 : (m : Int) ≤ (cap : Int) := by omega
  have i2 : m ≤ cap := by omega
  by_cases hSL : sumN D m = le4 D m
  · have c2 : Hid (∀ v w1, Below w.heap.size w w1 → Bs w1 v n (sealD D m (sumN D m)) → Calls Try.prog 14 #[v, .slice (some ⟨b, off, none⟩) n cap] w1 fun e w' => e = .returned (.bool true) ∧ Below w1.heap.size w1 w') := by
      refine hide fun v w1 h1 h2 => bytes_b _ v _ n w1 (Sl.congr h2 fun i hi => ?_) (Sl.below hv h1 (Nat.le_refl _))
      rw [seal_eq D m _ (by rw [← hm]; exact hD) hSL i (by omega)]
    have HSL := hide hSL
    clear hv hD hT hcell hm hSL
    generalize sealD D m (sumN D m) = F at *
    go_enter Try.func26, Try.ntmps26
    go_wp2_with (first
      | (go_at_call 39; refine (unhide c1).mono ?_; rintro e w1 ⟨v1, rfl, s1, b1⟩; have S1 := hide s1; have B1 := hide b1; clear s1 b1)
      | (go_at_call 14; refine (unhide c2 _ _ (unhide B1) (unhide S1)).mono ?_; rintro e w2 ⟨rfl, b2⟩; replace B1 := hide (below_of (unhide B1) b2); clear b2)
      | (go_at_call 9; refine (unhide c3 _ (unhide B1)).mono ?_; rintro e w3 ⟨v3, rfl, s3, b3⟩; have S3 := hide s3; replace B1 := hide (below_of (unhide B1) b3); clear s3 b3))
    go_ret2
    exact ⟨unhide B1, .inr ⟨unhide HSL, _, rfl, unhide S3⟩⟩
  · have c2 : Hid (∀ v w1, Below w.heap.size w w1 → Bs w1 v n (sealD D m (sumN D m)) → Calls Try.prog 14 #[v, .slice (some ⟨b, off, none⟩) n cap] w1 fun e w' => e = .returned (.bool false) ∧ Below w1.heap.size w1 w') := by
      refine hide fun v w1 h1 h2 => bytes_f _ D v _ n w1 h2 (Sl.below hv h1 (Nat.le_refl _)) fun q => hSL ?_
      have h4 := le4_seal D m (sumN D m) (sumN_lt fun i hi => hD i (by omega))
      rw [← h4]
      unfold le4
      rw [q m (by omega), q (m + 1) (by omega), q (m + 2) (by omega), q (m + 3) (by omega)]
    have HSL := hide hSL
    clear hv hD hT hcell hm hSL
    generalize sealD D m (sumN D m) = F at *
    go_enter Try.func26, Try.ntmps26
    go_wp2_with (first
      | (go_at_call 39; refine (unhide c1).mono ?_; rintro e w1 ⟨v1, rfl, s1, b1⟩; have S1 := hide s1; have B1 := hide b1; clear s1 b1)
      | (go_at_call 14; refine (unhide c2 _ _ (unhide B1) (unhide S1)).mono ?_; rintro e w2 ⟨rfl, b2⟩; replace B1 := hide (below_of (unhide B1) b2); clear b2))
    go_ret2
    exact ⟨unhide B1, .inl ⟨unhide HSL, rfl⟩⟩
/-- Both Opens answer the same. -/
theorem open_both (D : Nat → Nat) (n : Nat) (hD : ∀ i, i < n → D i < 256) (hn : n ≤ 100000) : ∃ (k : Nat) (c : Int),
    (∀ v w, Bs w v n D → Calls Try.prog 19 #[v] w fun e w' => ∃ v', e = .returned (.tuple #[v', .int .i64 c]) ∧ Bs w' v' k D ∧ Below w.heap.size w w') ∧
    (∀ v w, Bs w v n D → Calls Try.prog 26 #[v] w fun e w' => ∃ v', e = .returned (.tuple #[v', .int .i64 c]) ∧ Bs w' v' k D ∧ Below w.heap.size w w') := by
  by_cases h4 : n < 4
  · refine ⟨0, 2, fun v w hv => ?_, fun v w hv => ?_⟩
    · obtain ⟨p, cap, rfl, _, _⟩ := Sl.shape hv
      refine (open_short p n cap h4 w).mono ?_
      rintro e w' ⟨rfl, rfl⟩
      exact ⟨_, rfl, .inl ⟨rfl, .inl rfl⟩, Below.refl _ _⟩
    · obtain ⟨p, cap, rfl, _, _⟩ := Sl.shape hv
      refine (refOpen_short p n cap h4 w).mono ?_
      rintro e w' ⟨rfl, rfl⟩
      exact ⟨_, rfl, .inl ⟨rfl, .inl rfl⟩, Below.refl _ _⟩
  · obtain ⟨m, rfl⟩ : ∃ m, n = m + 4 := ⟨n - 4, by omega⟩
    by_cases h : sumN D m = le4 D m
    · refine ⟨m, 0, fun v w hv => ?_, fun v w hv => ?_⟩
      · refine (open_ok D v m w hv hD hn h).mono ?_
        rintro e w' ⟨v', rfl, o, b⟩
        exact ⟨v', rfl, bs_of_owns o, b⟩
      · refine (refOpen_any D v _ m w hv hD hn rfl).mono ?_
        rintro e w' ⟨hb, ⟨h2, _⟩ | ⟨_, v', rfl, s⟩⟩
        · exact absurd h h2
        · exact ⟨v', rfl, s, hb⟩
    · refine ⟨0, 4, fun v w hv => ?_, fun v w hv => ?_⟩
      · refine (open_bad D v m w hv hD hn h).mono ?_
        rintro e w' ⟨rfl, b⟩
        exact ⟨_, rfl, .inl ⟨rfl, .inl rfl⟩, b⟩
      · refine (refOpen_any D v _ m w hv hD hn rfl).mono ?_
        rintro e w' ⟨hb, ⟨_, rfl⟩ | ⟨h2, _⟩⟩
        · exact ⟨_, rfl, .inl ⟨rfl, .inl rfl⟩, hb⟩
        · exact absurd h2 h
end Go.Proofs.Ytmcmiojidgdjpaa.Cr
namespace Go.Proofs.Ytmcmiojidgdjpaa
open Go.ChangeShapes Go.WideShapes Go.ChangeAt Go.RowKit

theorem own0 : ownKnob Try.prog.godebug = none := by kernel_rfl
theorem laidOut : laidOutB Try.prog = true := by kernel_rfl
end Go.Proofs.Ytmcmiojidgdjpaa
namespace Go.Proofs.Ytmcmiojidgdjpaa
open Go.ChangeShapes Go.WideShapes Go.ChangeAt Go.RowKit

/-- A slice of numbers that came in. -/
def IsRow (k : IntKind) (w : World) (a : Option Addr) (len cap : Nat) (zs : List Int) : Prop :=
  (a = none ∧ len = 0 ∧ cap = 0 ∧ zs = []) ∨
  ∃ x, a = some x ∧ len ≤ cap ∧ cap ≤ maxLen ∧ zs.length = cap ∧ (∀ i, i < zs.length → w.cell? (x.add i) = some (.int k (zs.getD i 0))) ∧ ∀ n ∈ zs, (Lit.int k n).wf = true
def rowF (zs : List Int) (i : Nat) : Int := zs.getD i 0
theorem IsRow.sl {k : IntKind} {w : World} {a : Option Addr} {len cap : Nat} {zs : List Int} (h : IsRow k w a len cap zs) : Sl k w (.slice a len cap) len (rowF zs) := by
  rcases h with ⟨rfl, rfl, rfl, rfl⟩ | ⟨x, rfl, h1, h2, h3, h4, _⟩
  · exact .inl ⟨rfl, .inl rfl⟩
  · by_cases h0 : len = 0
    · subst h0
      exact .inl ⟨rfl, .inr ⟨x, cap, rfl, by omega⟩⟩
    · obtain ⟨b, off, spot⟩ := x
      have hc := h4 0 (by omega)
      have hspot : spot = none := by simpa [Addr.add] using World.cell?_spot hc
      subst hspot
      have hc0 := block_lt_of_cell hc
      refine .inr ⟨b, off, cap, rfl, h1, h2, by simpa [Addr.add] using hc0, fun i hi => ?_⟩
      have := h4 i (by omega)
      rwa [Addr.add_lit] at this
theorem IsRow.len {k : IntKind} {w : World} {a : Option Addr} {len cap : Nat} {zs : List Int} (h : IsRow k w a len cap zs) : len ≤ maxLen := by
  rcases h with ⟨_, rfl, _, _⟩ | ⟨x, _, h1, h2, _⟩
  · exact Nat.zero_le _
  · omega
theorem row_cell {H : Type} {enc : TypeId × Value → H} {W : World} {base fuel : Nat} {held : Bool} {u : Value} {o : Option (DataW H × List MemPlace)} (ho : o.isSome = true)
    (hf : DataW.trod enc Try.prog W base (fun _ => true) held fuel 22 [u] = o) : ∃ a len cap zs, u = .slice a len cap ∧ IsRow .i64 W a len cap zs := by
  obtain ⟨x, rfl⟩ := Option.isSome_iff_exists.1 ho
  rcases open_ints Try.underlying22 Try.underlying3 (by kernel_rfl) hf with ⟨hcs, _⟩ | ⟨x, l, c, zs, hcs, _, hl, hm, hz, _, hcell, hwz⟩
  · exact ⟨none, 0, 0, [], (List.cons.inj hcs).1, .inl ⟨rfl, rfl, rfl, rfl⟩⟩
  · exact ⟨some x, l, c, zs, (List.cons.inj hcs).1, .inr ⟨_, rfl, hl, hm, by simpa using hz, hcell, hwz⟩⟩
theorem int_cell {H : Type} {enc : TypeId × Value → H} {W : World} {base fuel : Nat} {held : Bool} {u : Value} {o : Option (DataW H × List MemPlace)} (ho : o.isSome = true)
    (hf : DataW.trod enc Try.prog W base (fun _ => true) held fuel 3 [u] = o) : ∃ n, u = .int .i64 n := by
  obtain ⟨x, rfl⟩ := Option.isSome_iff_exists.1 ho
  obtain ⟨n, h, _⟩ := DataW.trod_int Try.underlying3 hf
  exact ⟨n, (List.cons.inj h).1⟩
theorem open_row64 {H : Type} {enc : TypeId × Value → H} {W : World} {base : Nat} {held : Bool} {a : Option Addr} {len cap : Nat} {d : DataW H} {p : List MemPlace}
    (h : ∃ fuel, DataW.trod enc Try.prog W base (fun _ => true) held fuel 22 (Value.slice a len cap).cells.toList = some (d, p)) : ∃ zs, IsRow .i64 W a len cap zs := by
  obtain ⟨fuel, hf⟩ := h
  obtain ⟨a', len', cap', zs, e, hr⟩ := row_cell (u := .slice a len cap) (o := some (d, p)) rfl hf
  cases e
  exact ⟨zs, hr⟩
theorem cells24 : Try.prog.cellsOf 24 = 16 := by kernel_rfl
theorem c3 : Try.prog.cellsOf 3 = 1 := by kernel_rfl
theorem c22 : Try.prog.cellsOf 22 = 1 := by kernel_rfl
set_option maxRecDepth 10000 in
theorem open_msg {H : Type} {enc : TypeId × Value → H} {W : World} {r : Reach} {base b0 : Nat} {held : Bool} {v : Value} {d : DataW H} {p : List MemPlace}
    (hv : Value.okWide Try.prog W r b0 24 v) (h : ∃ fuel, DataW.trod enc Try.prog W base (fun _ => true) held fuel 24 v.cells.toList = some (d, p)) :
    ∃ (m : Mg) (x : Option Addr) (n c : Nat) (zs : List Int) (y : Option Addr) (k e : Nat) (us : List Int), v = mv m (.slice x n c) (.slice y k e) ∧ IsRow .i64 W x n c zs ∧ IsRow .i64 W y k e us := by
  obtain ⟨cs, rfl, hs⟩ := okWide_struct Try.underlying24 hv
  obtain ⟨fuel, hf⟩ := h
  rw [cells24] at hs
  obtain ⟨xs, m, _, _, hl, hlen, hx⟩ := DataW.trod_struct Try.underlying24 hf
  have hlen' : xs.length = 16 := hlen
  obtain ⟨l⟩ := cs
  match l, hs with
  | [a0, a1, a2, a3, a4, a5, a6, a7, a8, a9, a10, a11, a12, a13, a14, a15], _ =>
    have q0 : DataW.trod enc Try.prog W base (fun _ => true) held m 3 (([a0, a1, a2, a3, a4, a5, a6, a7, a8, a9, a10, a11, a12, a13, a14, a15].drop 0).take (Try.prog.cellsOf 3)) = xs[0]? := hx 0 _ rfl
    rw [c3] at q0
    obtain ⟨n0, e0⟩ := int_cell (u := a0) (by simp [hlen']) q0
    have q1 : DataW.trod enc Try.prog W base (fun _ => true) held m 3 (([a0, a1, a2, a3, a4, a5, a6, a7, a8, a9, a10, a11, a12, a13, a14, a15].drop 1).take (Try.prog.cellsOf 3)) = xs[1]? := hx 1 _ rfl
    rw [c3] at q1
    obtain ⟨n1, e1⟩ := int_cell (u := a1) (by simp [hlen']) q1
    have q2 : DataW.trod enc Try.prog W base (fun _ => true) held m 3 (([a0, a1, a2, a3, a4, a5, a6, a7, a8, a9, a10, a11, a12, a13, a14, a15].drop 2).take (Try.prog.cellsOf 3)) = xs[2]? := hx 2 _ rfl
    rw [c3] at q2
    obtain ⟨n2, e2⟩ := int_cell (u := a2) (by simp [hlen']) q2
    have q3 : DataW.trod enc Try.prog W base (fun _ => true) held m 3 (([a0, a1, a2, a3, a4, a5, a6, a7, a8, a9, a10, a11, a12, a13, a14, a15].drop 3).take (Try.prog.cellsOf 3)) = xs[3]? := hx 3 _ rfl
    rw [c3] at q3
    obtain ⟨n3, e3⟩ := int_cell (u := a3) (by simp [hlen']) q3
    have q4 : DataW.trod enc Try.prog W base (fun _ => true) held m 3 (([a0, a1, a2, a3, a4, a5, a6, a7, a8, a9, a10, a11, a12, a13, a14, a15].drop 4).take (Try.prog.cellsOf 3)) = xs[4]? := hx 4 _ rfl
    rw [c3] at q4
    obtain ⟨n4, e4⟩ := int_cell (u := a4) (by simp [hlen']) q4
    have q5 : DataW.trod enc Try.prog W base (fun _ => true) held m 3 (([a0, a1, a2, a3, a4, a5, a6, a7, a8, a9, a10, a11, a12, a13, a14, a15].drop 5).take (Try.prog.cellsOf 3)) = xs[5]? := hx 5 _ rfl
    rw [c3] at q5
    obtain ⟨n5, e5⟩ := int_cell (u := a5) (by simp [hlen']) q5
    have q6 : DataW.trod enc Try.prog W base (fun _ => true) held m 3 (([a0, a1, a2, a3, a4, a5, a6, a7, a8, a9, a10, a11, a12, a13, a14, a15].drop 6).take (Try.prog.cellsOf 3)) = xs[6]? := hx 6 _ rfl
    rw [c3] at q6
    obtain ⟨n6, e6⟩ := int_cell (u := a6) (by simp [hlen']) q6
    have q7 : DataW.trod enc Try.prog W base (fun _ => true) held m 3 (([a0, a1, a2, a3, a4, a5, a6, a7, a8, a9, a10, a11, a12, a13, a14, a15].drop 7).take (Try.prog.cellsOf 3)) = xs[7]? := hx 7 _ rfl
    rw [c3] at q7
    obtain ⟨n7, e7⟩ := int_cell (u := a7) (by simp [hlen']) q7
    have q8 : DataW.trod enc Try.prog W base (fun _ => true) held m 3 (([a0, a1, a2, a3, a4, a5, a6, a7, a8, a9, a10, a11, a12, a13, a14, a15].drop 8).take (Try.prog.cellsOf 3)) = xs[8]? := hx 8 _ rfl
    rw [c3] at q8
    obtain ⟨n8, e8⟩ := int_cell (u := a8) (by simp [hlen']) q8
    have q9 : DataW.trod enc Try.prog W base (fun _ => true) held m 3 (([a0, a1, a2, a3, a4, a5, a6, a7, a8, a9, a10, a11, a12, a13, a14, a15].drop 9).take (Try.prog.cellsOf 3)) = xs[9]? := hx 9 _ rfl
    rw [c3] at q9
    obtain ⟨n9, e9⟩ := int_cell (u := a9) (by simp [hlen']) q9
    have q10 : DataW.trod enc Try.prog W base (fun _ => true) held m 3 (([a0, a1, a2, a3, a4, a5, a6, a7, a8, a9, a10, a11, a12, a13, a14, a15].drop 10).take (Try.prog.cellsOf 3)) = xs[10]? := hx 10 _ rfl
    rw [c3] at q10
    obtain ⟨n10, e10⟩ := int_cell (u := a10) (by simp [hlen']) q10
    have q11 : DataW.trod enc Try.prog W base (fun _ => true) held m 3 (([a0, a1, a2, a3, a4, a5, a6, a7, a8, a9, a10, a11, a12, a13, a14, a15].drop 11).take (Try.prog.cellsOf 3)) = xs[11]? := hx 11 _ rfl
    rw [c3] at q11
    obtain ⟨n11, e11⟩ := int_cell (u := a11) (by simp [hlen']) q11
    have q12 : DataW.trod enc Try.prog W base (fun _ => true) held m 3 (([a0, a1, a2, a3, a4, a5, a6, a7, a8, a9, a10, a11, a12, a13, a14, a15].drop 12).take (Try.prog.cellsOf 3)) = xs[12]? := hx 12 _ rfl
    rw [c3] at q12
    obtain ⟨n12, e12⟩ := int_cell (u := a12) (by simp [hlen']) q12
    have q13 : DataW.trod enc Try.prog W base (fun _ => true) held m 3 (([a0, a1, a2, a3, a4, a5, a6, a7, a8, a9, a10, a11, a12, a13, a14, a15].drop 13).take (Try.prog.cellsOf 3)) = xs[13]? := hx 13 _ rfl
    rw [c3] at q13
    obtain ⟨n13, e13⟩ := int_cell (u := a13) (by simp [hlen']) q13
    have q14 : DataW.trod enc Try.prog W base (fun _ => true) held m 22 (([a0, a1, a2, a3, a4, a5, a6, a7, a8, a9, a10, a11, a12, a13, a14, a15].drop 14).take (Try.prog.cellsOf 22)) = xs[14]? := hx 14 _ rfl
    rw [c22] at q14
    obtain ⟨x14, l14, k14, z14, e14, r14⟩ := row_cell (u := a14) (by simp [hlen']) q14
    have q15 : DataW.trod enc Try.prog W base (fun _ => true) held m 22 (([a0, a1, a2, a3, a4, a5, a6, a7, a8, a9, a10, a11, a12, a13, a14, a15].drop 15).take (Try.prog.cellsOf 22)) = xs[15]? := hx 15 _ rfl
    rw [c22] at q15
    obtain ⟨x15, l15, k15, z15, e15, r15⟩ := row_cell (u := a15) (by simp [hlen']) q15
    subst e0 e1 e2 e3 e4 e5 e6 e7 e8 e9 e10 e11 e12 e13 e14 e15
    exact ⟨⟨n0, n1, n2, n3, n4, n5, n6, n7, n8, n9, n10, n11, n12, n13⟩, x14, l14, k14, z14, x15, l15, k15, z15, rfl, r14, r15⟩
end Go.Proofs.Ytmcmiojidgdjpaa
namespace Go.Proofs.Ytmcmiojidgdjpaa
open Go.ChangeShapes Go.WideShapes Go.ChangeAt Go.RowKit

theorem IsRow.bd {w : World} {a : Option Addr} {len cap : Nat} {zs : List Int} (h : IsRow .u8 w a len cap zs) (i : Nat) : 0 ≤ rowF zs i ∧ rowF zs i < 256 := by
  have hwf : ∀ n ∈ zs, (Lit.int .u8 n).wf = true := by
    rcases h with ⟨_, _, _, rfl⟩ | ⟨x, _, _, _, _, _, h⟩
    · simp
    · exact h
  unfold rowF
  simp only [List.getD]
  cases hq : zs[i]? with
  | none => simp
  | some n =>
    have := hwf n (List.mem_of_getElem? hq)
    simp [Lit.wf, IntKind.min, IntKind.max, IntKind.signed, IntKind.bits] at this
    simp
    omega
theorem open_row8 {H : Type} {enc : TypeId × Value → H} {W : World} {base : Nat} {held : Bool} {a : Option Addr} {len cap : Nat} {d : DataW H} {p : List MemPlace}
    (h : ∃ fuel, DataW.trod enc Try.prog W base (fun _ => true) held fuel 25 (Value.slice a len cap).cells.toList = some (d, p)) : ∃ zs, IsRow .u8 W a len cap zs := by
  obtain ⟨fuel, hf⟩ := h
  rcases open_ints Try.underlying25 Try.underlying5 (by kernel_rfl) hf with ⟨hcs, _⟩ | ⟨x, l, c, zs, hcs, _, hl, hm, hz, _, hcell, hwz⟩
  · simp [Value.cells] at hcs
    obtain ⟨rfl, rfl, rfl⟩ := hcs
    exact ⟨[], .inl ⟨rfl, rfl, rfl, rfl⟩⟩
  · simp [Value.cells] at hcs
    obtain ⟨rfl, rfl, rfl⟩ := hcs
    exact ⟨zs, .inr ⟨_, rfl, hl, hm, by simpa using hz, hcell, hwz⟩⟩
/-- The bytes that came in, as natural numbers. -/
def rowD (zs : List Int) (i : Nat) : Nat := (rowF zs i).toNat
theorem IsRow.bs {w : World} {a : Option Addr} {len cap : Nat} {zs : List Int} (h : IsRow .u8 w a len cap zs) : Cr.Bs w (.slice a len cap) len (rowD zs) :=
  Sl.congr h.sl fun i _ => by have := h.bd i; unfold rowD; omega
theorem IsRow.lt {w : World} {a : Option Addr} {len cap : Nat} {zs : List Int} (h : IsRow .u8 w a len cap zs) (i : Nat) : rowD zs i < 256 := by
  have := h.bd i
  unfold rowD
  omega
theorem c39 : Try.prog.cellsOf 39 = 4 := by kernel_rfl
theorem c5 : Try.prog.cellsOf 5 = 1 := by kernel_rfl
theorem open_four {H : Type} {enc : TypeId × Value → H} {W : World} {r : Reach} {base b0 : Nat} {held : Bool} {v : Value} {d : DataW H} {p : List MemPlace}
    (hv : Value.okWide Try.prog W r b0 39 v) (h : ∃ fuel, DataW.trod enc Try.prog W base (fun _ => true) held fuel 39 v.cells.toList = some (d, p)) :
    ∃ x0 x1 x2 x3 : Nat, v = .agg #[.int .u8 (x0 : Int), .int .u8 (x1 : Int), .int .u8 (x2 : Int), .int .u8 (x3 : Int)] ∧ x0 < 256 ∧ x1 < 256 ∧ x2 < 256 ∧ x3 < 256 := by
  simp only [Value.okWide, Try.underlying39] at hv
  obtain ⟨cs, rfl, h2, _⟩ := hv
  obtain ⟨fuel, hf⟩ := h
  rw [c39] at h2
  obtain ⟨l⟩ := cs
  obtain ⟨xs, m, rfl, _, hl, hlen, hx⟩ := DataW.trod_array Try.underlying39 hf
  rw [c5] at hx
  match l, h2 with
  | [a, b, c, e], _ =>
    have g : ∀ (i : Nat) (u : Value), i < 4 → (([a, b, c, e] : List Value).drop (i * 1)).take 1 = [u] → ∃ n : Nat, u = .int .u8 (n : Int) ∧ n < 256 := by
      intro i u hi hu
      have h3 := hx i hi
      simp only [Value.cells] at h3
      rw [hu, List.getElem?_eq_getElem (by omega)] at h3
      obtain ⟨n, h4, _, h5⟩ := DataW.trod_int Try.underlying5 h3
      simp [Lit.wf, IntKind.min, IntKind.max, IntKind.signed, IntKind.bits] at h5
      refine ⟨n.toNat, ?_, by omega⟩
      rw [show ((n.toNat : Nat) : Int) = n by omega]
      exact (List.cons.inj h4).1
    obtain ⟨x0, rfl, k0⟩ := g 0 a (by omega) rfl
    obtain ⟨x1, rfl, k1⟩ := g 1 b (by omega) rfl
    obtain ⟨x2, rfl, k2⟩ := g 2 c (by omega) rfl
    obtain ⟨x3, rfl, k3⟩ := g 3 e (by omega) rfl
    exact ⟨x0, x1, x2, x3, rfl, k0, k1, k2, k3⟩
end Go.Proofs.Ytmcmiojidgdjpaa
namespace Go.Proofs.Ytmcmiojidgdjpaa
open Go.RowKit

theorem wpList_app8 {w : World} {ops : Array Oper} {rest : List Oper} {o : Oper} {a : Act} {Q : Exit → Act → World → Prop} (hgd : o.guard = none) (s x : Operand)
    (ho : o.op = .call { callee := .builtin .append, args := #[s, x], argTypes := #[25, 25] }) (base : Nat)
    (v : Value) (n : Nat) (F : Nat → Int) (hs : a.eval s = v) (hown : w.ownsRow base 5 1 v n (vL .u8 F n))
    (u : Value) (m : Nat) (G : Nat → Int) (hx : a.eval x = u) (hu : Sl .u8 w u m G) (hn : n ≤ 1000000) (hm : m ≤ 1000000) (hbase : base ≤ w.heap.size)
    (h : ∀ v' w', w'.ownsRow base 5 1 v' (n + m) (vL .u8 (cat F n G) (n + m)) → Below base w w' → wpList Try.prog ops Q rest (a.put o.dst v') w') : wpList Try.prog ops Q (o :: rest) a w := by
  obtain ⟨j, hj, hz0, hz1, hz2⟩ := info_parts Co.info5
  obtain ⟨p, cap, rfl, hc1, hc2⟩ := hu.shape
  have hcs := hu.cells
  cases p with
  | none =>
    obtain ⟨rfl, rfl⟩ := hcs.1 rfl
    refine wpList_append_own_none hgd s x 25 ho base 5 j 1 Try.underlying25 hj v n (vL .u8 F n) hs hown hx ?_
    exact h v w (by rw [← vL_append]; simpa [vL] using hown) (Below.refl _ _)
  | some ad =>
    refine wpList_append_own _ hgd s x 25 ho base 5 j (.int .u8 0) 1 1 Try.underlying25 hj hz0 hz1 hz2 rfl (by decide) v n (vL .u8 F n) hs hown ad m cap (vL .u8 G m) hx (by rw [vL_length]; omega) (hcs.2 ad rfl) (vL_one _ G m) (by unfold maxLen; omega) (by omega) hbase ?_
    intro v' w' ho' hg' _
    rw [vL_append] at ho'
    exact h v' w' ho' ((Below.refl _ _).grown hg' hbase fun k hk => (hown.lt k hk).1)
theorem wpList_app64 {w : World} {ops : Array Oper} {rest : List Oper} {o : Oper} {a : Act} {Q : Exit → Act → World → Prop} (hgd : o.guard = none) (s x : Operand)
    (ho : o.op = .call { callee := .builtin .append, args := #[s, x], argTypes := #[22, 22] }) (base : Nat)
    (v : Value) (n : Nat) (F : Nat → Int) (hs : a.eval s = v) (hown : w.ownsRow base 3 1 v n (vL .i64 F n))
    (u : Value) (m : Nat) (G : Nat → Int) (hx : a.eval x = u) (hu : Sl .i64 w u m G) (hn : n ≤ 1000000) (hm : m ≤ 1000000) (hbase : base ≤ w.heap.size)
    (h : ∀ v' w', w'.ownsRow base 3 1 v' (n + m) (vL .i64 (cat F n G) (n + m)) → Below base w w' → wpList Try.prog ops Q rest (a.put o.dst v') w') : wpList Try.prog ops Q (o :: rest) a w := by
  obtain ⟨j, hj, hz0, hz1, hz2⟩ := info_parts info3
  obtain ⟨p, cap, rfl, hc1, hc2⟩ := hu.shape
  have hcs := hu.cells
  cases p with
  | none =>
    obtain ⟨rfl, rfl⟩ := hcs.1 rfl
    refine wpList_append_own_none hgd s x 22 ho base 3 j 1 Try.underlying22 hj v n (vL .i64 F n) hs hown hx ?_
    exact h v w (by rw [← vL_append]; simpa [vL] using hown) (Below.refl _ _)
  | some ad =>
    refine wpList_append_own _ hgd s x 22 ho base 3 j (.int .i64 0) 1 8 Try.underlying22 hj hz0 hz1 hz2 rfl (by decide) v n (vL .i64 F n) hs hown ad m cap (vL .i64 G m) hx (by rw [vL_length]; omega) (hcs.2 ad rfl) (vL_one _ G m) (by unfold maxLen; omega) (by omega) hbase ?_
    intro v' w' ho' hg' _
    rw [vL_append] at ho'
    exact h v' w' ho' ((Below.refl _ _).grown hg' hbase fun k hk => (hown.lt k hk).1)
theorem sl_one1 (k : IntKind) (w : World) (u : Int) (t : TypeId) : Sl k (w.alloc (.cells #[.int k u] t)) (.slice (some ⟨w.heap.size, 0, none⟩) 1 1) 1 (fun _ => u) :=
  (sl_lit k w [u] t 1 rfl (by unfold maxLen; omega)).congr fun i hi => by
    obtain rfl : i = 0 := by omega
    rfl
theorem below_up {B : Nat} {a w w' : World} (h : Below B a w) (h' : Below B w w') : Below B a w' := h.trans h'
theorem list_next (G : Nat → Int) (k j : Nat) : vL .u8 (cat (Co.lstF G 0 k G) (1 + j) fun _ => G j % 256) (1 + j + 1) = vL .u8 (Co.lstF G 0 k G) (1 + (j + 1)) := by
  rw [← Nat.add_assoc]
  refine vL_congr fun i hi => ?_
  unfold cat
  by_cases q : i < 1 + j
  · rw [if_pos q]
  · rw [if_neg q]
    obtain rfl : i = 1 + j := by omega
    unfold Co.lstF
    rw [if_neg (by omega), if_neg (by omega), show 1 + j - 0 - 1 = j by omega]
set_option maxRecDepth 100000 in
set_option maxHeartbeats 1000000 in
theorem rlist_is (G : Nat → Int) (v : Value) (k : Nat) (w : World) (hv : Sl .i64 w v k G) (hk : k ≤ 1000) :
    Calls Try.prog 38 #[v] w fun e w' => ∃ v', e = .returned v' ∧ w'.ownsRow w.heap.size 5 1 v' (1 + k) (vL .u8 (Co.lstF G 0 k G) (1 + k)) ∧ Below w.heap.size w w' := by
  obtain ⟨p, cap, rfl, hc1, hc2⟩ := hv.shape
  unfold maxLen at hc2
  have HV := hide hv
  clear hv
  have h0 : (w.alloc (.cells #[.int .u8 ((k : Int) % 256)] 5)).ownsRow w.heap.size 5 1 (.slice (some ⟨w.heap.size, 0, none⟩) 1 1) (1 + 0) (vL .u8 (Co.lstF G 0 k G) (1 + 0)) := by
    have q := World.ownsRow_lit (base := w.heap.size) (e := 5) (size := 1) w #[.int .u8 ((k : Int) % 256)] 1 (Nat.le_refl _) (by unfold maxLen; omega) rfl
    have e := Co.lstF_start G G 0 k
    simp only [vL, List.range_zero, List.map_nil, List.nil_append] at e
    rw [show (1 + 0 : Nat) = 0 + 1 from rfl, ← show vL .u8 (Co.lstF G 0 k G) (0 + 1) = vL .u8 (Co.lstF G 0 k G) (0 + 1) from rfl]
    rw [show vL .u8 (Co.lstF G 0 k G) (0 + 1) = [.int .u8 ((k : Int) % 256)] from e.symm]
    exact q
  have H0 := hide h0
  have B0 := hide ((Below.refl w.heap.size w).alloc (Nat.le_refl _) (.cells #[.int .u8 ((k : Int) % 256)] 5))
  clear h0
  go_enter Try.func38, Try.ntmps38
  go_wp2
  go_loopw [3, 4] (fun xo xi w2 => ∃ j : Nat, j ≤ k ∧ xi = .int .i64 j ∧ w2.ownsRow w.heap.size 5 1 xo (1 + j) (vL .u8 (Co.lstF G 0 k G) (1 + j)) ∧ Below w.heap.size w w2) (fun _ i _ => k - (intOf i).toNat)
  case atStart => exact ⟨0, by omega, rfl, unhide H0, unhide B0⟩
  case round =>
    clear H0 B0
    obtain ⟨j, hj, rfl, ho, hb⟩ := hrel
    have HO := hide ho
    have HB := hide hb
    by_cases hlt : j < k
    · obtain ⟨b, off, rfl, _, hcell⟩ := ((unhide HV).below hb (Nat.le_refl _)).some (by omega)
      have hck := hcell j hlt
      clear hcell ho hb
      have HN := hide (list_next G k j)
      generalize G j = x at *
      go_wp2_with (at_builtin; refine wpList_app8 rfl (.tmp 15) (.tmp 21) rfl w.heap.size _ (1 + j) (Co.lstF G 0 k G) rfl ((unhide HO).alloc _) _ 1 (fun _ => x % 256) rfl (sl_one1 .u8 wr (x % 256) 5) (by omega) (by omega) (by have := (unhide HB).size; simp; omega) ?_)
      intro v2 w2 ho2 hb2
      rw [unhide HN] at ho2
      go_wp2
      go_roundw
      case rel => exact ⟨j + 1, by omega, by go_num, ho2, below_up ((unhide HB).alloc (unhide HB).size _) hb2⟩
      case measure => simp [intOf]; omega
    · obtain rfl : j = k := by omega
      clear ho hb
      go_wp2
      go_ret
      exact ⟨_, rfl, unhide HO, unhide HB⟩
end Go.Proofs.Ytmcmiojidgdjpaa
