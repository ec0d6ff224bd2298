/- Slices of bytes; walks of Twin and keep.Bytes of what is the same. Walks of crc.shifted, Sum, read. Walks of crc.Seal and crc.Open. Walk of the statements' wakes. Walks of CrcBack. Walk of CrcBack. Walks of the page's Crc and Seal; keep.Bytes of what differs. Appends to a row of the call's own; walk of the page's list. The bytes of a message as plain functions, and back. Walk of msg.limits: the least and the greatest numbers of a kind's fields. Steps of a region that draws its order: a call, an allocation, a store of a whole row. The region 'low, high := numbers(least), numbers(most)', whatever order it draws. Walk of nodesRight. -/
import Derived.Test.YtmcmiojidgdjpaaBn2
import Derived.Test.YtmcmiojidgdjpaaBn1
import Derived.WalkKit
import Derived.WalkSpells
import Derived.StillTactics
import Derived.Laws.Pointers
import Derived.RowKit3
import Derived.Deep.QuietTactic
import Derived.BigQuiet
import Derived.Deep.OwnRows
import Derived.Laws.Rows
import Derived.Laws.Tables
import Derived.Laws.AppendOwn
import Derived.Laws.AppendOwnNone
import Derived.Laws.OwnMore
import Derived.OwnWalk
import Derived.Deep.DeepCutAuto
import Derived.Laws.BitsAllLaws
import Derived.Lib.SlBytesConst
import Derived.Test.YtmcmiojidgdjpaaBn3
import Derived.OrdersHeld
import Derived.Shelf.RegionOpenPlain
namespace Go.Proofs.Ytmcmiojidgdjpaa.Cr
open Go.RowKit

theorem info3 : (Try.prog.info? 3).map (fun i => (i.zero, i.size, i.bytes)) = some (some (.int .i64 0), 1, 8) := by kernel_rfl
theorem info5 : (Try.prog.info? 5).map (fun i => (i.zero, i.size, i.bytes)) = some (some (.int .u8 0), 1, 1) := by kernel_rfl

set_option maxRecDepth 100000 in
theorem twin_any (F : Nat → Int) (v : Value) (n : Nat) (w : World) (hv : Sl .u8 w v n F) (hn : n ≤ 1000000) :
    Calls Try.prog 9 #[v] w fun e w' => ∃ v', e = .returned v' ∧ w'.ownsRow w.heap.size 5 1 v' n (vL .u8 F n) ∧ Below w.heap.size w w' := by
  obtain ⟨i, hi, hz0, hz1, hz2⟩ := info_parts info5
  have key : ∀ (x : Addr) (cap : Nat), (∀ j u, (vL .u8 F n)[j]? = some u → w.cell? (x.add j) = some u) → Calls Try.prog 9 #[.slice (some x) n cap] w fun e w' => ∃ v', e = .returned v' ∧ w'.ownsRow w.heap.size 5 1 v' n (vL .u8 F n) ∧ Below w.heap.size w w' := by
    intro x cap hc
    have HC := hide hc
    clear hc
    go_enter Try.func9, Try.ntmps9
    go_wp2_with (at_builtin; refine wpList_append_own _ rfl (.tmp 4) (.tmp 5) 25 rfl w.heap.size 5 i (.int .u8 0) 1 1 Try.underlying25 hi hz0 hz1 hz2 rfl (by decide) (.slice none 0 0) 0 [] rfl (World.ownsRow_nil _ _ _ _) x n cap (vL .u8 F n) rfl (by rw [vL_length]; omega) (unhide HC) (vL_one _ F n) (by unfold maxLen; omega) (by omega) (Nat.le_refl _) ?_)
    intro v2 w2 hown2 hgrow2 _
    go_wp2
    go_ret
    refine ⟨v2, rfl, by simpa using hown2, (Below.refl _ _).grown hgrow2 (Nat.le_refl _) (by intro k h; cases h)⟩
  obtain ⟨p, cap, rfl, hc1, hc2⟩ := hv.shape
  have hcs := hv.cells
  cases p with
  | none =>
    obtain ⟨rfl, rfl⟩ := hcs.1 rfl
    clear hcs
    go_enter Try.func9, Try.ntmps9
    go_wp2_with (at_builtin; refine wpList_append_own_none rfl (.tmp 4) (.tmp 5) 25 rfl w.heap.size 5 i 1 Try.underlying25 hi (.slice none 0 0) 0 [] rfl (World.ownsRow_nil _ _ _ _) rfl ?_)
    go_wp2
    go_ret
    exact ⟨_, rfl, World.ownsRow_nil _ _ _ _, Below.refl _ _⟩
  | some x => exact key x cap (hcs.2 x rfl)
set_option maxRecDepth 100000 in
theorem bytes_t (F : Nat → Int) (va vb : Value) (n : Nat) (w : World) (ha : Sl .u8 w va n F) (hb : Sl .u8 w vb n F) :
    Calls Try.prog 14 #[va, vb] w fun e w' => e = .returned (.bool true) ∧ ∃ m, w' = w.drewN m := by
  obtain ⟨pa, ca, rfl, la, ka⟩ := ha.shape
  obtain ⟨pb, cb, rfl, lb, kb⟩ := hb.shape
  unfold maxLen at ka kb
  have HA := hide ha
  have HB := hide hb
  clear ha hb
  go_enter Try.func14, Try.ntmps14
  go_wp2
  go_loopw [5] (fun xi w1 => ∃ k : Nat, k ≤ n ∧ xi = .int .i64 k ∧ ∃ m, w1 = w.drewN m) (fun i _ => n - (intOf i).toNat)
  case atStart => exact ⟨0, by omega, rfl, 0, rfl⟩
  case round =>
    obtain ⟨k, hk, rfl, m, hW⟩ := hrel
    by_cases hlt : k < n
    · obtain ⟨ba, oa, rfl, _, hca⟩ := (unhide HA).some (by omega)
      obtain ⟨bb, ob, rfl, _, hcb⟩ := (unhide HB).some (by omega)
      have c1 : wr.cell? ⟨ba, oa + k, none⟩ = some (.int .u8 (F k)) := by rw [hW]; exact hca k hlt
      have c2 : wr.cell? ⟨bb, ob + k, none⟩ = some (.int .u8 (F k)) := by rw [hW]; exact hcb k hlt
      have HW := hide hW
      clear hW hca hcb
      go_wp2
      go_quiet (fail)
      go_wp2
      go_roundw
      case rel => exact ⟨k + 1, by omega, by go_num, m + nq, by rw [unhide HW, World.drewN_drewN]⟩
      case measure => simp [intOf]; omega
    · subst hW
      go_wp2
      go_ret
      exact ⟨rfl, m, rfl⟩
theorem below_drewN {B : Nat} {a w : World} (h : Below B a w) (n : Nat) : Below B a (w.drewN n) := ⟨h.os, h.tape, h.output, h.size, h.block⟩
theorem bytes_b (F : Nat → Int) (va vb : Value) (n : Nat) (w : World) (ha : Sl .u8 w va n F) (hb : Sl .u8 w vb n F) :
    Calls Try.prog 14 #[va, vb] w fun e w' => e = .returned (.bool true) ∧ Below w.heap.size w w' := by
  refine (bytes_t F va vb n w ha hb).mono ?_
  rintro e w' ⟨rfl, m, rfl⟩
  exact ⟨rfl, below_drewN (Below.refl _ _) m⟩
theorem below_of {w w0 w' : World} (h0 : Below w.heap.size w w0) (h : Below w0.heap.size w0 w') : Below w.heap.size w w' := h0.trans (h.mono h0.size)
theorem owns_some {e : TypeId} {w : World} {B n : Nat} {v : Value} {L : List Value} (h : w.ownsRow B e 1 v n L) (hn : 0 < n) : ∃ g cap, v = .slice (some ⟨g, 0, none⟩) n cap ∧ n ≤ cap ∧ cap ≤ maxLen := by
  rcases h.2 with ⟨rfl, rfl⟩ | ⟨g, cap, cur, rfl, hb, hg, hc, hm, _, _⟩
  · omega
  · exact ⟨g, cap, rfl, hc, hm⟩
theorem _root_.Go.Proofs.Ytmcmiojidgdjpaa.Sl.take {k : IntKind} {w : World} {a : Addr} {n cap j : Nat} {F : Nat → Int} (h : Sl k w (.slice (.some a) n cap) n F) (hn : 0 < n) (hj : j ≤ n) : Sl k w (.slice (.some a) j cap) j F := by
  rcases h with ⟨h, _⟩ | ⟨b, off, cap', he, h1, h2, h3, h4⟩
  · omega
  · cases he
    exact .inr ⟨b, off, cap, rfl, by omega, h2, h3, fun i hi => h4 i (by omega)⟩

end Go.Proofs.Ytmcmiojidgdjpaa.Cr
namespace Go.Proofs.Ytmcmiojidgdjpaa.Cr
open Go.RowKit

theorem and_one (R : Nat) (h : R < 4294967296) : bits .and .u32 (R : Int) 1 = ((R % 2 : Nat) : Int) := by
  rw [show (1 : Int) = ((1 : Nat) : Int) from rfl, u32_and_nat R 1 h (by decide), Nat.and_one_is_mod]
set_option maxRecDepth 100000 in
theorem shifted_is (r : Nat) (hr : r < 4294967296) (w : World) :
    Calls Try.prog 56 #[.int .u32 (r : Int)] w fun e w' => e = .returned (.int .u32 ((stk 8 r : Nat) : Int)) ∧ w' = w := by
  go_enter Try.func56, Try.ntmps56
  go_wp2
  go_loopw [0, 4] (fun xr xi w1 => ∃ k : Nat, k ≤ 8 ∧ xi = .int .i64 k ∧ xr = .int .u32 ((stk k r : Nat) : Int) ∧ w1 = w) (fun _ i _ => 8 - (intOf i).toNat)
  case atStart => exact ⟨0, by omega, rfl, rfl, rfl⟩
  case round =>
    obtain ⟨k, hk, rfl, rfl, hw⟩ := hrel
    obtain rfl := hw.symm
    by_cases hlt : k < 8
    · have hR := stk_lt hr k
      have hN : stk (k + 1) r = st (stk k r) := rfl
      have HN := hide hN
      clear hN
      generalize stk k r = R at *
      have ha := and_one R hR
      have hx := u32_xor_nat (R / 2) 3988292384 (by omega) (by decide)
      by_cases hb : R % 2 = 1
      · rw [hb] at ha
        go_wp2
        go_roundw
        case rel => exact ⟨k + 1, by omega, by go_num, by rw [unhide HN, st, if_pos hb]; exact congrArg _ hx, trivial⟩
        case measure => simp [intOf]; omega
      · rw [show R % 2 = 0 by omega] at ha
        go_wp2
        go_roundw
        case rel => exact ⟨k + 1, by omega, by go_num, by rw [unhide HN, st, if_neg hb]; rfl, trivial⟩
        case measure => simp [intOf]; omega
    · obtain rfl : k = 8 := by omega
      go_wp2
      go_ret
      exact ⟨rfl, rfl⟩
/-- The slice v holds the n bytes D. -/
def Bs (w : World) (v : Value) (n : Nat) (D : Nat → Nat) : Prop := Sl .u8 w v n (fun i => (D i : Int))
set_option maxRecDepth 100000 in
theorem sum_is (D : Nat → Nat) (v : Value) (n : Nat) (w : World) (hv : Bs w v n D) (hD : ∀ i, i < n → D i < 256) :
    Calls Try.prog 40 #[v] w fun e w' => e = .returned (.int .i64 ((sumN D n : Nat) : Int)) ∧ w' = w := by
  obtain ⟨p, cap, rfl, hc1, hc2⟩ := Sl.shape hv
  unfold maxLen at hc2
  have HV := hide hv
  have HD := hide hD
  clear hv hD
  go_enter Try.func40, Try.ntmps40
  go_wp2
  go_loopw [3, 8] (fun xr xi w1 => ∃ k : Nat, k ≤ n ∧ xi = .int .i64 k ∧ xr = .int .u32 ((crc 4294967295 D k : Nat) : Int) ∧ w1 = w) (fun _ i _ => n - (intOf i).toNat)
  case atStart => exact ⟨0, by omega, rfl, rfl, rfl⟩
  case round =>
    obtain ⟨k, hk, rfl, rfl, hw⟩ := hrel
    obtain rfl := hw.symm
    have hR : crc 4294967295 D k < 4294967296 := crc_lt (by decide) k fun i hi => unhide HD i (by omega)
    by_cases hlt : k < n
    · obtain ⟨b, off, rfl, _, hcell⟩ := Sl.some (unhide HV) (by omega)
      have hc := hcell k hlt
      have hx := unhide HD k hlt
      have hN : crc 4294967295 D (k + 1) = stk 8 (crc 4294967295 D k ^^^ D k) := rfl
      have HN := hide hN
      clear hN hcell
      generalize D k = x at *
      generalize crc 4294967295 D k = R at *
      have hxor := u32_xor_nat R x hR (by omega)
      have c := hide (shifted_is (R ^^^ x) (xor_lt hR (by omega)))
      go_wp2_with (go_at_call 56; refine (unhide c _).mono ?_; rintro e w1 ⟨rfl, hw⟩; obtain rfl := hw.symm)
      go_roundw
      case rel => exact ⟨k + 1, by omega, by go_num, by rw [unhide HN], trivial⟩
      case measure => simp [intOf]; omega
    · obtain rfl : n = k := by omega
      have hxor : bits .xor .u32 ((crc 4294967295 D n : Nat) : Int) 4294967295 = ((crc 4294967295 D n ^^^ 4294967295 : Nat) : Int) := u32_xor_nat (crc 4294967295 D n) 4294967295 hR (by omega)
      have hS : sumN D n = crc 4294967295 D n ^^^ 4294967295 := rfl
      have HS := hide hS
      have hl := xor_lt hR (show 4294967295 < 4294967296 by decide)
      clear hS
      generalize crc 4294967295 D n = R at *
      generalize R ^^^ 4294967295 = X at *
      go_wp2
      go_ret
      exact ⟨by rw [unhide HS]; rfl, rfl⟩
theorem or_at (a x m : Nat) (ha : a < 2 ^ m) (hm : m ≤ 24) (hx : x < 256) : bits .or .i64 (a : Int) ((x * 2 ^ m : Nat) : Int) = ((a + 2 ^ m * x : Nat) : Int) := by
  have hp : 2 ^ m ≤ 2 ^ 24 := Nat.pow_le_pow_right (by decide) hm
  have hb : 2 ^ m * x < 2 ^ 24 * 256 := Nat.lt_of_le_of_lt (Nat.mul_le_mul_right _ hp) (Nat.mul_lt_mul_of_pos_left hx (by decide))
  rw [Nat.mul_comm x]
  have e1 : (BitVec.ofInt 64 (a : Int)).toNat = a := by rw [BitVec.toNat_ofInt]; omega
  have e2 : (BitVec.ofInt 64 ((2 ^ m * x : Nat) : Int)).toNat = 2 ^ m * x := by rw [BitVec.toNat_ofInt]; omega
  have e3 := Nat.two_pow_add_eq_or_of_lt (i := m) (b := a) ha x
  show IntKind.i64.wrap (((BitVec.ofInt 64 (a : Int) ||| BitVec.ofInt 64 ((2 ^ m * x : Nat) : Int)).toNat : Nat) : Int) = _
  rw [BitVec.toNat_or, e1, e2, Nat.or_comm, ← e3]
  generalize 2 ^ m * x = y at *
  simp [IntKind.wrap, IntKind.bits, IntKind.signed]
  omega
set_option maxRecDepth 100000 in
theorem read_is (D : Nat → Nat) (v : Value) (w : World) (hv : Bs w v 4 D) (hD : ∀ i, i < 4 → D i < 256) :
    Calls Try.prog 41 #[v] w fun e w' => e = .returned (.int .i64 ((le4 D 0 : Nat) : Int)) ∧ w' = w := by
  obtain ⟨p, cap, rfl, hc1, hc2⟩ := Sl.shape hv
  unfold maxLen at hc2
  obtain ⟨b, off, rfl, _, hcell⟩ := Sl.some hv (by omega)
  have q0 := hcell 0 (by omega)
  have q1 := hcell 1 (by omega)
  have q2 := hcell 2 (by omega)
  have q3 := hcell 3 (by omega)
  rw [Nat.add_zero] at q0
  have b0 := hD 0 (by omega)
  have b1 := hD 1 (by omega)
  have b2 := hD 2 (by omega)
  have b3 := hD 3 (by omega)
  obtain ⟨y1, hy1⟩ : ∃ y, y = D 0 + 256 * D 1 := ⟨_, rfl⟩
  obtain ⟨y2, hy2⟩ : ∃ y, y = y1 + 65536 * D 2 := ⟨_, rfl⟩
  obtain ⟨y3, hy3⟩ : ∃ y, y = y2 + 16777216 * D 3 := ⟨_, rfl⟩
  have o0 : bits .or .i64 0 ((D 0 : Nat) : Int) = ((D 0 : Nat) : Int) := by
    have h := or_at 0 (D 0) 0 (by omega) (by omega) b0
    simpa using h
  have o1 : bits .or .i64 ((D 0 : Nat) : Int) (((D 1 : Nat) : Int) * 256) = (y1 : Int) := by
    have h := or_at (D 0) (D 1) 8 (by omega) (by omega) b1
    rw [hy1]
    exact h
  have o2 : bits .or .i64 (y1 : Int) (((D 2 : Nat) : Int) * 65536) = (y2 : Int) := by
    have h := or_at y1 (D 2) 16 (by omega) (by omega) b2
    rw [hy2]
    exact h
  have o3 : bits .or .i64 (y2 : Int) (((D 3 : Nat) : Int) * 16777216) = (y3 : Int) := by
    have h := or_at y2 (D 3) 24 (by omega) (by omega) b3
    rw [hy3]
    exact h
  have hL : le4 D 0 = y3 := by unfold le4; simp only [Nat.zero_add]; omega
  have HL := hide hL
  clear hL hv hD hcell hy1 hy2 hy3
  generalize D 0 = x0 at *
  generalize D 1 = x1 at *
  generalize D 2 = x2 at *
  generalize D 3 = x3 at *
  go_enter Try.func41, Try.ntmps41
  go_wp2
  go_loopw [3, 8] (fun xr xi w1 => ((xi = .int .i64 0 ∧ xr = .int .i64 0) ∨ (xi = .int .i64 1 ∧ xr = .int .i64 ((x0 : Nat) : Int)) ∨ (xi = .int .i64 2 ∧ xr = .int .i64 (y1 : Int)) ∨ (xi = .int .i64 3 ∧ xr = .int .i64 (y2 : Int)) ∨ (xi = .int .i64 4 ∧ xr = .int .i64 (y3 : Int))) ∧ w1 = w) (fun _ i _ => 4 - (intOf i).toNat)
  case atStart => exact ⟨.inl ⟨rfl, rfl⟩, rfl⟩
  case round =>
    obtain ⟨hrel, hw⟩ := hrel
    obtain rfl := hw.symm
    rcases hrel with ⟨rfl, rfl⟩ | ⟨rfl, rfl⟩ | ⟨rfl, rfl⟩ | ⟨rfl, rfl⟩ | ⟨rfl, rfl⟩
    · go_wp2
      go_roundw
      case rel => exact ⟨.inr (.inl ⟨rfl, rfl⟩), trivial⟩
      case measure => simp [intOf]
    · go_wp2
      go_roundw
      case rel => exact ⟨.inr (.inr (.inl ⟨rfl, rfl⟩)), trivial⟩
      case measure => simp [intOf]
    · go_wp2
      go_roundw
      case rel => exact ⟨.inr (.inr (.inr (.inl ⟨rfl, rfl⟩))), trivial⟩
      case measure => simp [intOf]
    · go_wp2
      go_roundw
      case rel => exact ⟨.inr (.inr (.inr (.inr ⟨rfl, rfl⟩))), trivial⟩
      case measure => simp [intOf]
    · go_wp2
      go_ret
      exact ⟨by rw [unhide HL]; rfl, rfl⟩
end Go.Proofs.Ytmcmiojidgdjpaa.Cr
namespace Go.Proofs.Ytmcmiojidgdjpaa.Cr
open Go.RowKit

/-- The bytes with the number S behind, the least byte first. -/
def sealD (D : Nat → Nat) (n S : Nat) (i : Nat) : Nat := if i < n then D i else S / 2 ^ (8 * (i - n)) % 256
theorem sealD_ahead (D : Nat → Nat) (n S i : Nat) (h : i < n) : sealD D n S i = D i := by unfold sealD; rw [if_pos h]
theorem sealD_lt (D : Nat → Nat) (n S i : Nat) (h : ∀ i, i < n → D i < 256) : sealD D n S i < 256 := by
  unfold sealD
  split
  · exact h i (by assumption)
  · omega
theorem le4_seal (D : Nat → Nat) (n S : Nat) (h : S < 4294967296) : le4 (sealD D n S) n = S := by
  unfold le4 sealD
  rw [if_neg (by omega), if_neg (by omega), if_neg (by omega), if_neg (by omega), Nat.sub_self, Nat.add_sub_cancel_left, Nat.add_sub_cancel_left, Nat.add_sub_cancel_left]
  simp only [Nat.mul_zero, Nat.pow_zero, Nat.div_one, Nat.mul_one, show 2 ^ 8 = 256 from rfl, show 2 ^ (8 * 2) = 65536 from rfl, show 2 ^ (8 * 3) = 16777216 from rfl]
  omega
theorem sum_seal (D : Nat → Nat) (n S : Nat) : sumN (sealD D n S) n = sumN D n := sumN_congr fun i hi => sealD_ahead D n S i hi
/-- The bytes, as values. -/
def bL (D : Nat → Nat) (n : Nat) : List Value := vL .u8 (fun i => (D i : Int)) n
theorem bs_of_owns {w : World} {B n : Nat} {v : Value} {D : Nat → Nat} (h : w.ownsRow B 5 1 v n (bL D n)) : Bs w v n D := sl_of_owns h

set_option maxRecDepth 100000 in
theorem seal_is (D : Nat → Nat) (v : Value) (n : Nat) (w : World) (hv : Bs w v n D) (hD : ∀ i, i < n → D i < 256) (hn : n ≤ 100000) :
    Calls Try.prog 20 #[v] w fun e w' => e = .returned (.slice (some ⟨w.heap.size, 0, none⟩) (n + 4) (n + 4)) ∧ w'.ownsRow w.heap.size 5 1 (.slice (some ⟨w.heap.size, 0, none⟩) (n + 4) (n + 4)) (n + 4) (bL (sealD D n (sumN D n)) (n + 4)) ∧ Below w.heap.size w w' := by
  obtain ⟨i, hi, hz0, hz1, hz2⟩ := info_parts info5
  have hS := sumN_lt hD
  have c : Hid (∀ w1, Below w.heap.size w w1 → Calls Try.prog 40 #[v] w1 fun e w' => e = .returned (.int .i64 ((sumN D n : Nat) : Int)) ∧ w' = w1) := hide fun w1 hb => sum_is D v n w1 (Sl.below hv hb (Nat.le_refl _)) hD
  obtain ⟨p, cap, rfl, hc1, hc2⟩ := Sl.shape hv
  unfold maxLen at hc2
  have HV := hide hv
  have hE : bL (sealD D n (sumN D n)) n = vL .u8 (fun i => (D i : Int)) n := vL_congr fun j hj => by rw [sealD_ahead _ _ _ _ hj]
  have HE := hide hE
  clear hv hD hE
  have hN : ∀ k, bL (sealD D n (sumN D n)) (n + k) ++ [.int .u8 ((sumN D n / 2 ^ (8 * k) % 256 : Nat) : Int)] = bL (sealD D n (sumN D n)) (n + (k + 1)) := by
    intro k
    rw [← Nat.add_assoc, bL, bL, vL_succ]
    congr 3
    unfold sealD
    rw [if_neg (by omega), Nat.add_sub_cancel_left]
  have HN := hide hN
  clear hN
  generalize hF : sealD D n (sumN D n) = F at *
  clear hF
  generalize sumN D n = S at *
  go_enter Try.func20, Try.ntmps20
  go_wp2_with (at_make; refine wpList_make_own _ rfl _ _ 25 rfl w.heap.size 5 i (.int .u8 0) 1 Try.underlying25 hi hz0 hz1 .i64 .i64 ((n : Int) + 4) (n + 4) rfl rfl (by omega) (by rw [hz2]; omega) (by unfold maxLen; omega) (Nat.le_refl _) ?_)
  intro w1 hown hgrow
  have hbel : Below w.heap.size w w1 := (Below.refl _ _).grown hgrow (Nat.le_refl _) (by intro k h; cases h)
  have hcs := Sl.cells (Sl.below (unhide HV) hbel (Nat.le_refl _))
  clear hgrow
  go_wp2_with (at_builtin; refine wpList_append_fits_any _ rfl (.tmp 9) (.tmp 10) 25 rfl w.heap.size 5 i 1 Try.underlying25 hi hz1 w.heap.size 0 (n + 4) [] rfl hown p n cap (vL .u8 (fun i => (D i : Int)) n) rfl (by rw [vL_length, Nat.mul_one]) hcs.1 hcs.2 (vL_one _ _ n) (by omega) ?_)
  intro w2 hown2 hgrow2
  have hbel2 : Below w.heap.size w w2 := hbel.grown hgrow2 hbel.size (by intro k h; cases h; exact Nat.le_refl _)
  rw [← unhide HE] at hown2
  clear hcs hgrow2 hown hbel
  have B2 := hide hbel2
  clear hbel2
  go_wp2_with (go_at_call 40; refine (unhide c _ (unhide B2)).mono ?_; rintro e w3 ⟨rfl, hw⟩; obtain rfl := hw.symm)
  go_loopw [3, 14] (fun xo xi w3 => ∃ k : Nat, k ≤ 4 ∧ xi = .int .i64 k ∧ xo = .slice (some ⟨w.heap.size, 0, none⟩) (n + k) (n + 4) ∧ w3.ownsRow w.heap.size 5 1 xo (n + k) (bL F (n + k)) ∧ Below w.heap.size w w3) (fun _ i _ => 4 - (intOf i).toNat)
  case atStart => exact ⟨0, by omega, rfl, rfl, hown2, unhide B2⟩
  case round =>
    clear hown2 B2
    obtain ⟨k, hk, rfl, rfl, hown, hbel⟩ := hrel
    by_cases hlt : k < 4
    · have e2 : min (8 * (k : Int)).toNat 64 = 8 * k := by omega
      have hx : S / 2 ^ (8 * k) ≤ S := Nat.div_le_self _ _
      have e3 : ((S : Int) / 2 ^ (8 * k)) % 256 = ((S / 2 ^ (8 * k) % 256 : Nat) : Int) := by
        rw [Int.natCast_emod, Int.natCast_ediv, Int.natCast_pow]; rfl
      have hnew := unhide HN k
      generalize S / 2 ^ (8 * k) % 256 = x at *
      have HN2 := hide hnew
      clear hnew hx
      go_wp2_with (at_builtin; refine wpList_append_fits _ rfl (.tmp 17) (.tmp 23) 25 rfl w.heap.size 5 i 1 Try.underlying25 hi hz1 w.heap.size (n + k) (n + 4) (bL F (n + k)) rfl (hown.alloc _) ⟨wr.heap.size, 0, none⟩ 1 1 [.int .u8 (x : Int)] rfl rfl ?_ ?_ (by omega) ?_)
      · exact cells_lit wr [.int .u8 (x : Int)] 5
      · intro u hu
        simp at hu
        subst hu
        rfl
      · intro w2 hown2 hgrow2
        rw [unhide HN2] at hown2
        go_wp2
        go_roundw
        case rel => exact ⟨k + 1, by omega, by go_num, rfl, hown2, (hbel.alloc hbel.size _).grown hgrow2 (by simp; have := hbel.size; omega) (by intro k h; cases h; exact Nat.le_refl _)⟩
        case measure => simp [intOf]; omega
    · obtain rfl : k = 4 := by omega
      go_wp2
      go_ret
      exact ⟨rfl, hown, hbel⟩
theorem open_short (p : Option Addr) (n cap : Nat) (hn : n < 4) (w : World) :
    Calls Try.prog 19 #[.slice p n cap] w fun e w' => e = .returned (.tuple #[.slice none 0 0, .int .i64 2]) ∧ w' = w := by
  have d : decide ((n : Int) < 4) = true := decide_eq_true (by omega)
  go_enter Try.func19, Try.ntmps19
  go_wp2
  go_ret2
  exact ⟨rfl, rfl⟩
set_option maxRecDepth 100000 in
theorem open_any (D : Nat → Nat) (v : Value) (n m : Nat) (w : World) (hv : Bs w v n D) (hD : ∀ i, i < n → D i < 256) (hn : n ≤ 100000) (hm : n = m + 4) :
    Calls Try.prog 19 #[v] w fun e w' => Below w.heap.size w w' ∧ ((sumN D m ≠ le4 D m ∧ e = .returned (.tuple #[.slice none 0 0, .int .i64 4])) ∨
      (sumN D m = le4 D m ∧ ∃ v', e = .returned (.tuple #[v', .int .i64 0]) ∧ w'.ownsRow w.heap.size 5 1 v' m (bL D m))) := by
  obtain ⟨i, hi, hz0, hz1, hz2⟩ := info_parts info5
  obtain ⟨p, cap, rfl, hc1, hc2⟩ := Sl.shape hv
  unfold maxLen at hc2
  obtain ⟨b, off, rfl, hb, hcell⟩ := Sl.some hv (by omega)
  have hT : Bs w (.slice (some ⟨b, off, none⟩) m cap) m D := .inr ⟨b, off, cap, rfl, by omega, hc2, hb, fun i h => hcell i (by omega)⟩
  have hR : Bs w (.slice (some ⟨b, off + m, none⟩) 4 (cap - m)) 4 (fun i => D (m + i)) := .inr ⟨b, off + m, cap - m, rfl, by omega, by unfold maxLen; omega, hb, fun i h => by rw [Nat.add_assoc]; exact hcell (m + i) (by omega)⟩
  have hl4 : le4 (fun i => D (m + i)) 0 = le4 D m := by unfold le4; simp only [Nat.zero_add, Nat.add_zero]
  have c1 := fun w1 (hb : Below w.heap.size w w1) => sum_is D _ m w1 (Sl.below hT hb (Nat.le_refl _)) (fun i hi => hD i (by omega))
  have c2 := fun w1 (hb : Below w.heap.size w w1) => read_is (fun i => D (m + i)) _ w1 (Sl.below hR hb (Nat.le_refl _)) (fun i hi => hD (m + i) (by omega))
  rw [hl4] at c2
  have C1 := hide c1
  have C2 := hide c2
  have HT := hide hT
  clear c1 c2 hl4 hT hR hcell hv hD
  have d : decide ((n : Int) < 4) = false := decide_eq_false (by omega)
  have e1 : (n : Int) - 4 = (m : Int) := by omega
  have e2 : n - m = 4 := by omega
  have e3 : ¬ cap = m := by omega
  have e4 : ¬ cap - m = 0 := by omega
  have e5 : m ≤ n := by omega
  have e6 : m ≤ cap := by omega
  have HM := hide hm
  clear hm
  unfold bL
  generalize sumN D m = S at *
  generalize le4 D m = L at *
  by_cases hSL : S = L
  · have d2 : ((S : Int) != (L : Int)) = false := by simp; omega
    go_enter Try.func19, Try.ntmps19
    go_wp2
    go_quiet (fail)
    obtain ⟨w1, hw1⟩ : ∃ x, x = w.drewN nq := ⟨_, rfl⟩
    have hb1 : Below w.heap.size w w1 := by rw [hw1]; exact below_drewN (Below.refl _ _) _
    rw [← hw1]
    clear hw1
    have B1 := hide hb1
    clear hb1
    go_wp2_with (first
      | (go_at_call 40; refine (unhide C1 _ (unhide B1)).mono ?_; rintro e w2 ⟨rfl, hw⟩; obtain rfl := hw.symm)
      | (go_at_call 41; refine (unhide C2 _ (unhide B1)).mono ?_; rintro e w2 ⟨rfl, hw⟩; obtain rfl := hw.symm)
      | (at_make; refine wpList_make_own _ rfl _ _ 25 rfl w.heap.size 5 i (.int .u8 0) 1 Try.underlying25 hi hz0 hz1 .i64 .i64 (m : Int) m rfl rfl (by omega) (by rw [hz2]; omega) (by unfold maxLen; omega) (unhide B1).size ?_))
    intro w3 hown hgrow
    have hbel : Below w.heap.size w w3 := (unhide B1).grown hgrow (unhide B1).size (by intro k h; cases h)
    have hcs := Sl.cells (Sl.below (unhide HT) hbel (Nat.le_refl _))
    clear hgrow
    have hb31 := hbel.size
    have e7 : w.heap.size ≤ w1.heap.size := (unhide B1).size
    go_wp2_with (at_builtin; refine wpList_append_fits_any _ rfl (.tmp 26) (.tmp 27) 25 rfl w.heap.size 5 i 1 Try.underlying25 hi hz1 w1.heap.size 0 m [] rfl hown (some ⟨b, off, none⟩) m cap (vL .u8 (fun i => (D i : Int)) m) rfl (by rw [vL_length, Nat.mul_one]) hcs.1 hcs.2 (vL_one _ _ m) (by omega) ?_)
    intro w4 hown2 hgrow2
    go_wp2
    go_ret2
    exact ⟨hbel.grown hgrow2 hbel.size (by intro k h; cases h; exact e7), .inr ⟨hSL, _, rfl, hown2⟩⟩
  · have d2 : ((S : Int) != (L : Int)) = true := by simp; omega
    go_enter Try.func19, Try.ntmps19
    go_wp2
    go_quiet (fail)
    obtain ⟨w1, hw1⟩ : ∃ x, x = w.drewN nq := ⟨_, rfl⟩
    have hb1 : Below w.heap.size w w1 := by rw [hw1]; exact below_drewN (Below.refl _ _) _
    rw [← hw1]
    clear hw1
    have B1 := hide hb1
    clear hb1
    go_wp2_with (first
      | (go_at_call 40; refine (unhide C1 _ (unhide B1)).mono ?_; rintro e w2 ⟨rfl, hw⟩; obtain rfl := hw.symm)
      | (go_at_call 41; refine (unhide C2 _ (unhide B1)).mono ?_; rintro e w2 ⟨rfl, hw⟩; obtain rfl := hw.symm))
    go_ret2
    exact ⟨unhide B1, .inl ⟨hSL, rfl⟩⟩
end Go.Proofs.Ytmcmiojidgdjpaa.Cr
namespace Go.Proofs.Ytmcmiojidgdjpaa.Cr
open Go.RowKit

theorem open_ok (D : Nat → Nat) (v : Value) (m : Nat) (w : World) (hv : Bs w v (m + 4) D) (hD : ∀ i, i < m + 4 → D i < 256) (hn : m + 4 ≤ 100000) (h : sumN D m = le4 D m) :
    Calls Try.prog 19 #[v] w fun e w' => ∃ v', e = .returned (.tuple #[v', .int .i64 0]) ∧ w'.ownsRow w.heap.size 5 1 v' m (bL D m) ∧ Below w.heap.size w w' := by
  refine (open_any D v (m + 4) m w hv hD hn rfl).mono ?_
  rintro e w' ⟨hb, ⟨h2, _⟩ | ⟨_, v', rfl, ho⟩⟩
  · exact absurd h h2
  · exact ⟨v', rfl, ho, hb⟩
theorem open_bad (D : Nat → Nat) (v : Value) (m : Nat) (w : World) (hv : Bs w v (m + 4) D) (hD : ∀ i, i < m + 4 → D i < 256) (hn : m + 4 ≤ 100000) (h : sumN D m ≠ le4 D m) :
    Calls Try.prog 19 #[v] w fun e w' => e = .returned (.tuple #[.slice none 0 0, .int .i64 4]) ∧ Below w.heap.size w w' := by
  refine (open_any D v (m + 4) m w hv hD hn rfl).mono ?_
  rintro e w' ⟨hb, ⟨_, rfl⟩ | ⟨h2, _⟩⟩
  · exact ⟨rfl, hb⟩
  · exact absurd h2 h
theorem seal_good (D : Nat → Nat) (n : Nat) (h : ∀ i, i < n → D i < 256) : sumN (sealD D n (sumN D n)) n = le4 (sealD D n (sumN D n)) n := by
  rw [sum_seal, le4_seal _ _ _ (sumN_lt h)]

theorem cells_marked (w : World) (L : List Value) (t : TypeId) (m : Nat × Nat) : ∀ j u, L[j]? = some u → (w.alloc (.cells L.toArray t m)).cell? ⟨w.heap.size, j, none⟩ = some u := by
  intro j u h
  have hb : (w.alloc (.cells L.toArray t m)).heap[w.heap.size]? = some (.cells L.toArray t m) := by
    show (w.heap.push (.cells L.toArray t m))[w.heap.size]? = _
    simp
  unfold World.cell?
  rw [hb]
  simpa using h
end Go.Proofs.Ytmcmiojidgdjpaa.Cr
namespace Go.Proofs.Ytmcmiojidgdjpaa.Cr
open Go.RowKit
theorem modN (x : Int) (n : Nat) (h : 0 < n) (h2 : n ≤ 1000000) : ∃ q : Nat, wrap64 ((IntKind.u64.wrap x).tmod n) = q ∧ q < n := by
  have e1 : IntKind.u64.wrap x = x % 18446744073709551616 := rfl
  have h3 := Int.emod_lt_of_pos (x % 18446744073709551616) (show (0:Int) < n by omega)
  have h4 := Int.emod_nonneg (x % 18446744073709551616) (show (n:Int) ≠ 0 by omega)
  refine ⟨((x % 18446744073709551616) % n).toNat, ?_, by omega⟩
  rw [e1, Int.tmod_eq_emod_of_nonneg (by omega)]
  unfold wrap64
  omega
/-- The bytes G, the first k of four from a on changed by X. -/
def xorD (G : Nat → Nat) (a : Nat) (X : Nat → Nat) (k i : Nat) : Nat := if a ≤ i ∧ i < a + k then G i ^^^ X (i - a) else G i
theorem xorD_zero (G : Nat → Nat) (a : Nat) (X : Nat → Nat) (i : Nat) : xorD G a X 0 i = G i := by unfold xorD; rw [if_neg (by omega)]
theorem xorD_lt (G : Nat → Nat) (a : Nat) (X : Nat → Nat) (k i : Nat) (hG : G i < 256) (hX : ∀ j, j < k → X j < 256) : xorD G a X k i < 256 := by
  unfold xorD
  split
  · exact Nat.xor_lt_two_pow (n := 8) hG (hX _ (by omega))
  · exact hG
theorem xorD_set (G : Nat → Nat) (a : Nat) (X : Nat → Nat) (k n : Nat) (h : a + k < n) : (bL (xorD G a X k) n).set (a + k) (.int .u8 ((G (a + k) ^^^ X k : Nat) : Int)) = bL (xorD G a X (k + 1)) n := by
  apply List.ext_getElem?
  intro t
  unfold bL
  by_cases ht : t < n
  · by_cases e : a + k = t
    · subst e
      rw [List.getElem?_set_self (by rw [vL_length]; exact h), vL_get _ _ _ _ ht]
      unfold xorD
      rw [if_pos (by omega), Nat.add_sub_cancel_left]
    · rw [List.getElem?_set_ne e, vL_get _ _ _ _ ht, vL_get _ _ _ _ ht]
      unfold xorD
      by_cases g : a ≤ t ∧ t < a + k
      · rw [if_pos g, if_pos (by omega)]
      · rw [if_neg g, if_neg (by omega)]
  · rw [List.getElem?_eq_none (by rw [List.length_set, vL_length]; omega), List.getElem?_eq_none (by rw [vL_length]; omega)]
/-- Has one of the first k changed? -/
def chg (X : Nat → Nat) : Nat → Bool
  | 0 => false
  | k + 1 => chg X k || X k != 0
theorem chg_false (X : Nat → Nat) : ∀ k, (∀ j, j < k → X j = 0) → chg X k = false
  | 0, _ => rfl
  | k + 1, h => by rw [chg, chg_false X k (fun j hj => h j (by omega)), h k (by omega)]; rfl
theorem chg_true (X : Nat → Nat) : ∀ k, (¬ ∀ j, j < k → X j = 0) → chg X k = true
  | 0, h => absurd (fun j hj => absurd hj (Nat.not_lt_zero _)) h
  | k + 1, h => by
    rw [chg]
    by_cases h2 : ∀ j, j < k → X j = 0
    · by_cases h3 : X k = 0
      · refine absurd (fun j hj => ?_) h
        by_cases e : j = k
        · rw [e, h3]
        · exact h2 j (by omega)
      · simp [h3]
    · rw [chg_true X k h2]; rfl
theorem back_iff (G X : Nat → Nat) (n a : Nat) (ha : a ≤ n) (hG : ∀ i, i < n + 4 → G i < 256) (hX : ∀ j, j < 4 → X j < 256) (hs : sumN G n = le4 G n) :
    (sumN (xorD G a X 4) n = le4 (xorD G a X 4) n) ↔ ∀ j, j < 4 → X j = 0 := by
  have e : xorD G a X 4 = fun i => G i ^^^ (if a ≤ i ∧ i < a + 4 then X (i - a) else 0) := by
    funext i
    unfold xorD
    split
    · rfl
    · rw [Nat.xor_zero]
  rw [e, open_iff G (fun i => if a ≤ i ∧ i < a + 4 then X (i - a) else 0) n a ha hG ?_ ?_ hs]
  · constructor
    · intro h j hj
      have := h j hj
      rwa [if_pos (by omega), Nat.add_sub_cancel_left] at this
    · intro h j hj
      show (if a ≤ a + j ∧ a + j < a + 4 then X (a + j - a) else 0) = 0
      rw [if_pos (by omega), Nat.add_sub_cancel_left, h j hj]
  · intro i hi
    show (if a ≤ i ∧ i < a + 4 then X (i - a) else 0) < 256
    split
    · exact hX _ (by omega)
    · decide
  · intro i hi h
    show (if a ≤ i ∧ i < a + 4 then X (i - a) else 0) = 0
    rw [if_neg (by omega)]

end Go.Proofs.Ytmcmiojidgdjpaa.Cr
namespace Go.Proofs.Ytmcmiojidgdjpaa.Cr
open Go.RowKit
theorem owns_below {e : TypeId} {w w' : World} {B n : Nat} {v : Value} {L : List Value} (h : w.ownsRow B e 1 v n L) (hb : Below w.heap.size w w') : w'.ownsRow B e 1 v n L := by
  rcases h.2 with h2 | ⟨g, cap, cur, h1, h2, hg, h3⟩
  · exact ⟨h.1, .inl h2⟩
  · exact ⟨h.1, .inr ⟨g, cap, cur, h1, h2, (hb.block g (Array.getElem?_eq_some_iff.1 hg).1).trans hg, h3⟩⟩
theorem nz (x : Nat) : ((x : Int) != 0) = (x != 0) := by
  rcases x with _ | x
  · rfl
  · simp
    omega
/-- Four numbers by their place. -/
def four (x0 x1 x2 x3 : Nat) (j : Nat) : Nat := [x0, x1, x2, x3].getD j 0
end Go.Proofs.Ytmcmiojidgdjpaa.Cr
namespace Go.Proofs.Ytmcmiojidgdjpaa.Cr
open Go.RowKit

set_option maxRecDepth 100000 in
theorem refCrc_is (D : Nat → Nat) (v : Value) (n : Nat) (w : World) (hv : Bs w v n D) (hD : ∀ i, i < n → D i < 256) :
    Calls Try.prog 55 #[v] w fun e w' => e = .returned (.int .i64 ((sumN D n : Nat) : Int)) ∧ w' = w := by
  obtain ⟨p, cap, rfl, hc1, hc2⟩ := Sl.shape hv
  unfold maxLen at hc2
  have HV := hide hv
  have HD := hide hD
  clear hv hD
  go_enter Try.func55, Try.ntmps55
  go_wp2
  go_loopw [3, 4] (fun xr xi w1 => ∃ k : Nat, k ≤ n ∧ xi = .int .i64 k ∧ xr = .int .u32 ((crc 4294967295 D k : Nat) : Int) ∧ w1 = w) (fun _ i _ => n - (intOf i).toNat)
  case atStart => exact ⟨0, by omega, rfl, rfl, rfl⟩
  case round =>
    obtain ⟨k, hk, rfl, rfl, hw⟩ := hrel
    obtain rfl := hw.symm
    have hR : crc 4294967295 D k < 4294967296 := crc_lt (by decide) k fun i hi => unhide HD i (by omega)
    by_cases hlt : k < n
    · obtain ⟨b, off, rfl, _, hcell⟩ := Sl.some (unhide HV) (by omega)
      have hc := hcell k hlt
      have hx := unhide HD k hlt
      have hN : crc 4294967295 D (k + 1) = stk 8 (crc 4294967295 D k ^^^ D k) := rfl
      have HN := hide hN
      clear hN hcell
      generalize D k = x at *
      generalize crc 4294967295 D k = R at *
      have hxor := u32_xor_nat R x hR (by omega)
      have hl := xor_lt hR (show x < 4294967296 by omega)
      generalize R ^^^ x = r at *
      go_wp2
      go_loopw [3, 5] (fun xr xi w1 => ∃ j : Nat, j ≤ 8 ∧ xi = .int .i64 j ∧ xr = .int .u32 ((stk j r : Nat) : Int) ∧ w1 = w) (fun _ i _ => 8 - (intOf i).toNat)
      case atStart => exact ⟨0, by omega, rfl, rfl, rfl⟩
      case round =>
        obtain ⟨j, hj, rfl, rfl, hw2⟩ := hrel
        obtain rfl := hw2.symm
        by_cases hlt2 : j < 8
        · have hq := stk_lt hl j
          have hN : stk (j + 1) r = st (stk j r) := rfl
          have HN2 := hide hN
          clear hN
          generalize stk j r = Q at *
          have hx2 : bits .xor .u32 ((Q : Int) / 2) 3988292384 = ((Q / 2 ^^^ 3988292384 : Nat) : Int) := u32_xor_nat (Q / 2) 3988292384 (by omega) (by decide)
          by_cases hb : Q % 2 = 1
          · have hb' : (Q : Int) % 2 = 1 := by omega
            go_wp2
            go_roundw
            case rel => exact ⟨j + 1, by omega, by go_num, by rw [unhide HN2, st, if_pos hb], trivial⟩
            case measure => simp [intOf]; omega
          · have hb' : (Q : Int) % 2 = 0 := by omega
            go_wp2
            go_roundw
            case rel => exact ⟨j + 1, by omega, by go_num, by rw [unhide HN2, st, if_neg hb]; rfl, trivial⟩
            case measure => simp [intOf]; omega
        · obtain rfl : j = 8 := by omega
          go_wp2
          go_roundw
          case rel => exact ⟨k + 1, by omega, by go_num, by rw [unhide HN], trivial⟩
          case measure => simp [intOf]; omega
    · obtain rfl : n = k := by omega
      have hS : sumN D n = crc 4294967295 D n ^^^ 4294967295 := rfl
      have HS := hide hS
      clear hS
      have hl := xor_lt hR (show 4294967295 < 4294967296 by decide)
      have hxor : bits .xor .u32 IntKind.u32.max ((crc 4294967295 D n : Nat) : Int) = ((crc 4294967295 D n ^^^ 4294967295 : Nat) : Int) := by
        rw [Nat.xor_comm]
        exact u32_xor_nat 4294967295 _ (by decide) hR
      generalize crc 4294967295 D n = R at *
      generalize R ^^^ 4294967295 = X at *
      have hwr : wrap64 (X : Int) = X := by unfold wrap64; omega
      go_wp2
      go_ret
      exact ⟨by rw [unhide HS]; rfl, rfl⟩
set_option maxRecDepth 100000 in
theorem refSeal_is (D : Nat → Nat) (v : Value) (n : Nat) (w : World) (hv : Bs w v n D) (hD : ∀ i, i < n → D i < 256) (hn : n ≤ 100000) :
    Calls Try.prog 39 #[v] w fun e w' => ∃ v', e = .returned v' ∧ w'.ownsRow w.heap.size 5 1 v' (n + 4) (bL (sealD D n (sumN D n)) (n + 4)) ∧ Below w.heap.size w w' := by
  obtain ⟨i, hi, hz0, hz1, hz2⟩ := info_parts info5
  have hS := sumN_lt hD
  have c1 := hide (refCrc_is D v n w hv hD)
  have c2 := hide (twin_any _ v n w hv (by omega))
  have hE : bL (sealD D n (sumN D n)) n = vL .u8 (fun i => (D i : Int)) n := vL_congr fun j hj => by rw [sealD_ahead _ _ _ _ hj]
  have HE := hide hE
  have hN : ∀ k, bL (sealD D n (sumN D n)) (n + k) ++ [.int .u8 ((sumN D n / 2 ^ (8 * k) % 256 : Nat) : Int)] = bL (sealD D n (sumN D n)) (n + (k + 1)) := by
    intro k
    rw [← Nat.add_assoc, bL, bL, vL_succ]
    congr 3
    unfold sealD
    rw [if_neg (by omega), Nat.add_sub_cancel_left]
  have HN := hide hN
  clear hv hD hE hN
  generalize hF : sealD D n (sumN D n) = F at *
  clear hF
  generalize sumN D n = S at *
  go_enter Try.func39, Try.ntmps39
  go_wp2_with (first
    | (go_at_call 55; refine (unhide c1).mono ?_; rintro e w1 ⟨rfl, hw⟩; obtain rfl := hw.symm)
    | (go_at_call 9; refine (unhide c2).mono ?_; rintro e w1 ⟨v1, rfl, hown, hbel⟩; rw [← unhide HE] at hown))
  go_loopw [3, 4, 5] (fun xs xo xi w2 => ∃ k : Nat, k ≤ 4 ∧ xi = .int .i64 k ∧ xs = .int .i64 ((S / 2 ^ (8 * k) : Nat) : Int) ∧ w2.ownsRow w.heap.size 5 1 xo (n + k) (bL F (n + k)) ∧ Below w.heap.size w w2) (fun _ _ i _ => 4 - (intOf i).toNat)
  case atStart => exact ⟨0, by omega, rfl, by simp, hown, hbel⟩
  case round =>
    clear hown hbel
    obtain ⟨k, hk, rfl, rfl, hown, hbel⟩ := hrel
    by_cases hlt : k < 4
    · have hx : S / 2 ^ (8 * k) ≤ S := Nat.div_le_self _ _
      have hnew := unhide HN k
      have hd : S / 2 ^ (8 * k) / 256 = S / 2 ^ (8 * (k + 1)) := by
        rw [Nat.div_div_eq_div_mul, show 8 * (k + 1) = 8 * k + 8 by omega, Nat.pow_add]
      have HD2 := hide hd
      have HN2 := hide hnew
      clear hd hnew
      generalize S / 2 ^ (8 * k) = y at *
      go_wp2_with (at_builtin; refine wpList_append_own _ rfl (.tmp 14) (.tmp 18) 25 rfl w.heap.size 5 i (.int .u8 0) 1 1 Try.underlying25 hi hz0 hz1 hz2 rfl (by decide) _ (n + k) (bL F (n + k)) rfl (hown.alloc _) ⟨wr.heap.size, 0, none⟩ 1 1 [.int .u8 ((y % 256 : Nat) : Int)] rfl rfl ?_ ?_ (by unfold maxLen; omega) (by omega) (by have := hbel.size; simp; omega) ?_)
      · exact cells_lit wr [.int .u8 ((y % 256 : Nat) : Int)] 5
      · intro u hu
        simp at hu
        subst hu
        rfl
      · intro v2 w2 hown2 hgrow2 _
        rw [show bL F (n + k) ++ [Value.int .u8 ((y : Int) % 256)] = bL F (n + (k + 1)) from unhide HN2] at hown2
        go_wp2
        go_roundw
        case rel => exact ⟨k + 1, by omega, by go_num, by rw [← unhide HD2]; rfl, hown2, (hbel.alloc hbel.size _).grown hgrow2 (by have := hbel.size; simp; omega) (fun b hb => (hown.lt b hb).1)⟩
        case measure => simp [intOf]; omega
    · obtain rfl : k = 4 := by omega
      go_wp2
      go_ret
      exact ⟨_, rfl, hown, hbel⟩
set_option maxRecDepth 100000 in
/-- keep.Bytes of two that differ at j first. -/
theorem bytes_d (F G : Nat → Int) (va vb : Value) (n j : Nat) (w : World) (ha : Sl .u8 w va n F) (hb : Sl .u8 w vb n G) (hj : j < n) (he : ∀ i, i < j → F i = G i) (hne : F j ≠ G j) :
    Calls Try.prog 14 #[va, vb] w fun e w' => e = .returned (.bool false) ∧ ∃ m, w' = w.drewN m := by
  obtain ⟨pa, ca, rfl, la, ka⟩ := ha.shape
  obtain ⟨pb, cb, rfl, lb, kb⟩ := hb.shape
  unfold maxLen at ka kb
  obtain ⟨ba, oa, rfl, _, hca⟩ := ha.some (by omega)
  obtain ⟨bb, ob, rfl, _, hcb⟩ := hb.some (by omega)
  have HA := hide hca
  have HB := hide hcb
  have HE := hide he
  clear ha hb hca hcb he
  go_enter Try.func14, Try.ntmps14
  go_wp2
  go_loopw [5] (fun xi w1 => ∃ k : Nat, k ≤ j ∧ xi = .int .i64 k ∧ ∃ m, w1 = w.drewN m) (fun i _ => n - (intOf i).toNat)
  case atStart => exact ⟨0, by omega, rfl, 0, rfl⟩
  case round =>
    obtain ⟨k, hk, rfl, m, hW⟩ := hrel
    have c1 : wr.cell? ⟨ba, oa + k, none⟩ = some (.int .u8 (F k)) := by rw [hW]; exact unhide HA k (by omega)
    have c2 : wr.cell? ⟨bb, ob + k, none⟩ = some (.int .u8 (G k)) := by rw [hW]; exact unhide HB k (by omega)
    have HW := hide hW
    clear hW
    by_cases hlt : k < j
    · rw [unhide HE k hlt] at c1
      go_wp2
      go_quiet (fail)
      go_wp2
      go_roundw
      case rel => exact ⟨k + 1, by omega, by go_num, m + nq, by rw [unhide HW, World.drewN_drewN]⟩
      case measure => simp [intOf]; omega
    · obtain rfl : j = k := by omega
      have d : (F j != G j) = true := by simpa using hne
      clear hne
      generalize F j = f at *
      generalize G j = g at *
      go_wp2
      go_quiet (fail)
      go_wp2
      go_ret
      exact ⟨rfl, m + nq, by rw [unhide HW, World.drewN_drewN]⟩
end Go.Proofs.Ytmcmiojidgdjpaa.Cr
namespace Go.Proofs.Ytmcmiojidgdjpaa
open Go.RowKit

theorem wpList_app8 {w : World} {ops : Array Oper} {rest : List Oper} {o : Oper} {a : Act} {Q : Exit → Act → World → Prop} (hgd : o.guard = none) (s x : Operand)
    (ho : o.op = .call { callee := .builtin .append, args := #[s, x], argTypes := #[25, 25] }) (base : Nat)
    (v : Value) (n : Nat) (F : Nat → Int) (hs : a.eval s = v) (hown : w.ownsRow base 5 1 v n (vL .u8 F n))
    (u : Value) (m : Nat) (G : Nat → Int) (hx : a.eval x = u) (hu : Sl .u8 w u m G) (hn : n ≤ 1000000) (hm : m ≤ 1000000) (hbase : base ≤ w.heap.size)
    (h : ∀ v' w', w'.ownsRow base 5 1 v' (n + m) (vL .u8 (cat F n G) (n + m)) → Below base w w' → wpList Try.prog ops Q rest (a.put o.dst v') w') : wpList Try.prog ops Q (o :: rest) a w := by
  obtain ⟨j, hj, hz0, hz1, hz2⟩ := info_parts Co.info5
  obtain ⟨p, cap, rfl, hc1, hc2⟩ := hu.shape
  have hcs := hu.cells
  cases p with
  | none =>
    obtain ⟨rfl, rfl⟩ := hcs.1 rfl
    refine wpList_append_own_none hgd s x 25 ho base 5 j 1 Try.underlying25 hj v n (vL .u8 F n) hs hown hx ?_
    exact h v w (by rw [← vL_append]; simpa [vL] using hown) (Below.refl _ _)
  | some ad =>
    refine wpList_append_own _ hgd s x 25 ho base 5 j (.int .u8 0) 1 1 Try.underlying25 hj hz0 hz1 hz2 rfl (by decide) v n (vL .u8 F n) hs hown ad m cap (vL .u8 G m) hx (by rw [vL_length]; omega) (hcs.2 ad rfl) (vL_one _ G m) (by unfold maxLen; omega) (by omega) hbase ?_
    intro v' w' ho' hg' _
    rw [vL_append] at ho'
    exact h v' w' ho' ((Below.refl _ _).grown hg' hbase fun k hk => (hown.lt k hk).1)
theorem wpList_app64 {w : World} {ops : Array Oper} {rest : List Oper} {o : Oper} {a : Act} {Q : Exit → Act → World → Prop} (hgd : o.guard = none) (s x : Operand)
    (ho : o.op = .call { callee := .builtin .append, args := #[s, x], argTypes := #[22, 22] }) (base : Nat)
    (v : Value) (n : Nat) (F : Nat → Int) (hs : a.eval s = v) (hown : w.ownsRow base 3 1 v n (vL .i64 F n))
    (u : Value) (m : Nat) (G : Nat → Int) (hx : a.eval x = u) (hu : Sl .i64 w u m G) (hn : n ≤ 1000000) (hm : m ≤ 1000000) (hbase : base ≤ w.heap.size)
    (h : ∀ v' w', w'.ownsRow base 3 1 v' (n + m) (vL .i64 (cat F n G) (n + m)) → Below base w w' → wpList Try.prog ops Q rest (a.put o.dst v') w') : wpList Try.prog ops Q (o :: rest) a w := by
  obtain ⟨j, hj, hz0, hz1, hz2⟩ := info_parts info3
  obtain ⟨p, cap, rfl, hc1, hc2⟩ := hu.shape
  have hcs := hu.cells
  cases p with
  | none =>
    obtain ⟨rfl, rfl⟩ := hcs.1 rfl
    refine wpList_append_own_none hgd s x 22 ho base 3 j 1 Try.underlying22 hj v n (vL .i64 F n) hs hown hx ?_
    exact h v w (by rw [← vL_append]; simpa [vL] using hown) (Below.refl _ _)
  | some ad =>
    refine wpList_append_own _ hgd s x 22 ho base 3 j (.int .i64 0) 1 8 Try.underlying22 hj hz0 hz1 hz2 rfl (by decide) v n (vL .i64 F n) hs hown ad m cap (vL .i64 G m) hx (by rw [vL_length]; omega) (hcs.2 ad rfl) (vL_one _ G m) (by unfold maxLen; omega) (by omega) hbase ?_
    intro v' w' ho' hg' _
    rw [vL_append] at ho'
    exact h v' w' ho' ((Below.refl _ _).grown hg' hbase fun k hk => (hown.lt k hk).1)
theorem sl_one1 (k : IntKind) (w : World) (u : Int) (t : TypeId) : Sl k (w.alloc (.cells #[.int k u] t)) (.slice (some ⟨w.heap.size, 0, none⟩) 1 1) 1 (fun _ => u) :=
  (sl_lit k w [u] t 1 rfl (by unfold maxLen; omega)).congr fun i hi => by
    obtain rfl : i = 0 := by omega
    rfl
theorem below_up {B : Nat} {a w w' : World} (h : Below B a w) (h' : Below B w w') : Below B a w' := h.trans h'
theorem list_next (G : Nat → Int) (k j : Nat) : vL .u8 (cat (Co.lstF G 0 k G) (1 + j) fun _ => G j % 256) (1 + j + 1) = vL .u8 (Co.lstF G 0 k G) (1 + (j + 1)) := by
  rw [← Nat.add_assoc]
  refine vL_congr fun i hi => ?_
  unfold cat
  by_cases q : i < 1 + j
  · rw [if_pos q]
  · rw [if_neg q]
    obtain rfl : i = 1 + j := by omega
    unfold Co.lstF
    rw [if_neg (by omega), if_neg (by omega), show 1 + j - 0 - 1 = j by omega]
set_option maxRecDepth 100000 in
set_option maxHeartbeats 1000000 in
theorem rlist_is (G : Nat → Int) (v : Value) (k : Nat) (w : World) (hv : Sl .i64 w v k G) (hk : k ≤ 1000) :
    Calls Try.prog 38 #[v] w fun e w' => ∃ v', e = .returned v' ∧ w'.ownsRow w.heap.size 5 1 v' (1 + k) (vL .u8 (Co.lstF G 0 k G) (1 + k)) ∧ Below w.heap.size w w' := by
  obtain ⟨p, cap, rfl, hc1, hc2⟩ := hv.shape
  unfold maxLen at hc2
  have HV := hide hv
  clear hv
  have h0 : (w.alloc (.cells #[.int .u8 ((k : Int) % 256)] 5)).ownsRow w.heap.size 5 1 (.slice (some ⟨w.heap.size, 0, none⟩) 1 1) (1 + 0) (vL .u8 (Co.lstF G 0 k G) (1 + 0)) := by
    have q := World.ownsRow_lit (base := w.heap.size) (e := 5) (size := 1) w #[.int .u8 ((k : Int) % 256)] 1 (Nat.le_refl _) (by unfold maxLen; omega) rfl
    have e := Co.lstF_start G G 0 k
    simp only [vL, List.range_zero, List.map_nil, List.nil_append] at e
    rw [show (1 + 0 : Nat) = 0 + 1 from rfl, ← show vL .u8 (Co.lstF G 0 k G) (0 + 1) = vL .u8 (Co.lstF G 0 k G) (0 + 1) from rfl]
    rw [show vL .u8 (Co.lstF G 0 k G) (0 + 1) = [.int .u8 ((k : Int) % 256)] from e.symm]
    exact q
  have H0 := hide h0
  have B0 := hide ((Below.refl w.heap.size w).alloc (Nat.le_refl _) (.cells #[.int .u8 ((k : Int) % 256)] 5))
  clear h0
  go_enter Try.func38, Try.ntmps38
  go_wp2
  go_loopw [3, 4] (fun xo xi w2 => ∃ j : Nat, j ≤ k ∧ xi = .int .i64 j ∧ w2.ownsRow w.heap.size 5 1 xo (1 + j) (vL .u8 (Co.lstF G 0 k G) (1 + j)) ∧ Below w.heap.size w w2) (fun _ i _ => k - (intOf i).toNat)
  case atStart => exact ⟨0, by omega, rfl, unhide H0, unhide B0⟩
  case round =>
    clear H0 B0
    obtain ⟨j, hj, rfl, ho, hb⟩ := hrel
    have HO := hide ho
    have HB := hide hb
    by_cases hlt : j < k
    · obtain ⟨b, off, rfl, _, hcell⟩ := ((unhide HV).below hb (Nat.le_refl _)).some (by omega)
      have hck := hcell j hlt
      clear hcell ho hb
      have HN := hide (list_next G k j)
      generalize G j = x at *
      go_wp2_with (at_builtin; refine wpList_app8 rfl (.tmp 15) (.tmp 21) rfl w.heap.size _ (1 + j) (Co.lstF G 0 k G) rfl ((unhide HO).alloc _) _ 1 (fun _ => x % 256) rfl (sl_one1 .u8 wr (x % 256) 5) (by omega) (by omega) (by have := (unhide HB).size; simp; omega) ?_)
      intro v2 w2 ho2 hb2
      rw [unhide HN] at ho2
      go_wp2
      go_roundw
      case rel => exact ⟨j + 1, by omega, by go_num, ho2, below_up ((unhide HB).alloc (unhide HB).size _) hb2⟩
      case measure => simp [intOf]; omega
    · obtain rfl : j = k := by omega
      clear ho hb
      go_wp2
      go_ret
      exact ⟨_, rfl, unhide HO, unhide HB⟩
end Go.Proofs.Ytmcmiojidgdjpaa
namespace Go.Proofs.Ytmcmiojidgdjpaa
open Go.RowKit

/-- A message's numbers in the order in which their bytes stand. -/
def wf (m : Mg) (j : Nat) : Int := [m.kd, m.fr, m.tw, m.tp, m.fi, m.ti, m.ep, m.sq, m.la, m.va, m.no, m.ic, m.ct, m.hp].getD j 0
/-- Where each begins. -/
def wst (j : Nat) : Nat := [0, 1, 2, 3, 4, 8, 12, 20, 24, 28, 32, 33, 37, 41, 42].getD j 0
/-- How many bytes each has. -/
def wsz (j : Nat) : Nat := [1, 1, 1, 1, 4, 4, 8, 4, 4, 4, 1, 4, 4, 1].getD j 0
/-- The bytes of the first j numbers. -/
def wb (m : Mg) : Nat → Nat → Int
  | 0 => fun _ => 0
  | j + 1 => Co.putF (wb m j) (wst j) (wsz j) (wf m j)
/-- All bytes of a message. -/
def msgF (m : Mg) (F : Nat → Int) (n : Nat) (G : Nat → Int) (k : Nat) : Nat → Int := Co.listF (Co.listF (wb m 14) 42 n F) (43 + n) k G
/-- The number j of some bytes. -/
def gN (D : Nat → Int) (j : Nat) : Int := Co.num D (wst j) (wsz j)
/-- The numbers that some bytes say. -/
def rdM (D : Nat → Int) : Mg := ⟨gN D 0, gN D 1, gN D 4, gN D 2, gN D 5, gN D 3, gN D 6, gN D 7, gN D 8, gN D 9, gN D 10, gN D 11, gN D 12, gN D 13⟩
/-- Every number fits its bytes. -/
def Fit (m : Mg) : Prop := ∀ j, j < 14 → Co.IsNum (wsz j) (wf m j)

theorem wst_succ (j : Nat) (h : j < 14) : wst (j + 1) = wst j + wsz j := by
  match j, h with
  | 0, _ | 1, _ | 2, _ | 3, _ | 4, _ | 5, _ | 6, _ | 7, _ | 8, _ | 9, _ | 10, _ | 11, _ | 12, _ | 13, _ => rfl
theorem wsz_is (j : Nat) (h : j < 14) : wsz j = 1 ∨ wsz j = 4 ∨ wsz j = 8 := by
  match j, h with
  | 0, _ | 1, _ | 2, _ | 3, _ | 4, _ | 5, _ | 6, _ | 7, _ | 8, _ | 9, _ | 10, _ | 11, _ | 12, _ | 13, _ => decide
theorem wsz_z (j : Nat) (h : j < 14) : Co.IsZ (wsz j : Nat) := by
  rcases wsz_is j h with h | h | h <;> rw [h] <;> decide
theorem wst_le (j : Nat) (h : j < 14) : wst j + wsz j ≤ 42 := by
  match j, h with
  | 0, _ | 1, _ | 2, _ | 3, _ | 4, _ | 5, _ | 6, _ | 7, _ | 8, _ | 9, _ | 10, _ | 11, _ | 12, _ | 13, _ => decide
theorem wb_later (m : Mg) (j i : Nat) (h : i < wst j) : ∀ d, j + d ≤ 14 → wb m (j + d) i = wb m j i
  | 0, _ => rfl
  | d + 1, hd => by
    have hl : wst j ≤ wst (j + d) := by
      clear h
      induction d with
      | zero => exact Nat.le_refl _
      | succ d ih =>
        have := wst_succ (j + d) (by omega)
        have := ih (by omega)
        rw [← Nat.add_assoc]
        omega
    show Co.putF (wb m (j + d)) (wst (j + d)) (wsz (j + d)) (wf m (j + d)) i = _
    rw [Co.putF_ahead _ _ _ _ _ (by omega)]
    exact wb_later m j i h d (by omega)
theorem wb_bd (m : Mg) : ∀ j i, 0 ≤ wb m j i ∧ wb m j i < 256
  | 0, _ => by simp [wb]
  | j + 1, i => Co.putF_bd _ _ _ _ (fun i _ => wb_bd m j i) i
theorem wb_num (m : Mg) (hm : Fit m) (j : Nat) (hj : j < 14) : Co.num (wb m 14) (wst j) (wsz j) = wf m j := by
  have e : Co.num (wb m 14) (wst j) (wsz j) = Co.num (wb m (j + 1)) (wst j) (wsz j) := by
    refine Co.num_congr fun i hi => ?_
    obtain ⟨d, hd⟩ : ∃ d, 14 = (j + 1) + d := ⟨13 - j, by omega⟩
    rw [hd]
    exact wb_later m (j + 1) _ (by rw [wst_succ j hj]; omega) d (by omega)
  rw [e]
  exact Co.num_put_all _ _ _ _ (wsz_z j hj) (hm j hj)
theorem msgF_low (m : Mg) (F : Nat → Int) (n : Nat) (G : Nat → Int) (k i : Nat) (h : i < 42) : msgF m F n G k i = wb m 14 i := by
  unfold msgF
  rw [Co.listF_ahead _ _ _ _ _ (by omega), Co.listF_ahead _ _ _ _ _ h]
theorem msgF_gN (m : Mg) (hm : Fit m) (F : Nat → Int) (n : Nat) (G : Nat → Int) (k j : Nat) (hj : j < 14) : gN (msgF m F n G k) j = wf m j := by
  rw [← wb_num m hm j hj]
  refine Co.num_congr fun i hi => ?_
  have := wst_le j hj
  exact msgF_low m F n G k _ (by omega)
theorem msgF_n (m : Mg) (F : Nat → Int) (n : Nat) (G : Nat → Int) (k : Nat) : msgF m F n G k 42 = n := by
  unfold msgF
  rw [Co.listF_ahead _ _ _ _ _ (by omega), Co.listF_len]
theorem msgF_F (m : Mg) (F : Nat → Int) (n : Nat) (G : Nat → Int) (k i : Nat) (h : i < n) : msgF m F n G k (43 + i) = F i := by
  unfold msgF
  rw [Co.listF_ahead _ _ _ _ _ (by omega)]
  exact Co.listF_at _ 42 n F i
theorem msgF_k (m : Mg) (F : Nat → Int) (n : Nat) (G : Nat → Int) (k : Nat) : msgF m F n G k (43 + n) = k := by
  unfold msgF
  rw [Co.listF_len]
theorem msgF_G (m : Mg) (F : Nat → Int) (n : Nat) (G : Nat → Int) (k i : Nat) : msgF m F n G k (44 + n + i) = G i := by
  unfold msgF
  have e : 44 + n + i = (43 + n) + 1 + i := by omega
  rw [e]
  exact Co.listF_at _ (43 + n) k G i
theorem msgF_bd (m : Mg) (F : Nat → Int) (n : Nat) (G : Nat → Int) (k : Nat) (hn : n ≤ 255) (hk : k ≤ 255) (hF : ∀ i, i < n → Co.IsB (F i)) (hG : ∀ i, i < k → Co.IsB (G i)) (i : Nat) (hi : i < 44 + n + k) : 0 ≤ msgF m F n G k i ∧ msgF m F n G k i < 256 := by
  unfold msgF
  refine Co.listF_bd _ _ _ _ (fun i hi => ?_) hk hG i (by omega)
  exact Co.listF_bd _ _ _ _ (fun i _ => wb_bd m 14 i) hn hF i (by omega)
theorem rdM_wf (D : Nat → Int) (j : Nat) (h : j < 14) : wf (rdM D) j = gN D j := by
  match j, h with
  | 0, _ | 1, _ | 2, _ | 3, _ | 4, _ | 5, _ | 6, _ | 7, _ | 8, _ | 9, _ | 10, _ | 11, _ | 12, _ | 13, _ => rfl
theorem mg_ext (a b : Mg) (h : ∀ j, j < 14 → wf a j = wf b j) : a = b := by
  have h0 := h 0 (by omega)
  have h1 := h 1 (by omega)
  have h2 := h 2 (by omega)
  have h3 := h 3 (by omega)
  have h4 := h 4 (by omega)
  have h5 := h 5 (by omega)
  have h6 := h 6 (by omega)
  have h7 := h 7 (by omega)
  have h8 := h 8 (by omega)
  have h9 := h 9 (by omega)
  have h10 := h 10 (by omega)
  have h11 := h 11 (by omega)
  have h12 := h 12 (by omega)
  have h13 := h 13 (by omega)
  cases a
  cases b
  simp only [wf, List.getD_cons_zero, List.getD_cons_succ] at h0 h1 h2 h3 h4 h5 h6 h7 h8 h9 h10 h11 h12 h13
  simp only [*]
theorem rdM_msgF (m : Mg) (hm : Fit m) (F : Nat → Int) (n : Nat) (G : Nat → Int) (k : Nat) : rdM (msgF m F n G k) = m :=
  mg_ext _ _ fun j hj => (rdM_wf _ j hj).trans (msgF_gN m hm F n G k j hj)
theorem gN_congr {D E : Nat → Int} (h : ∀ i, i < 42 → D i = E i) (j : Nat) (hj : j < 14) : gN D j = gN E j := by
  refine Co.num_congr fun i hi => ?_
  have := wst_le j hj
  exact h _ (by omega)
theorem rdM_congr {D E : Nat → Int} (h : ∀ i, i < 42 → D i = E i) : rdM D = rdM E :=
  mg_ext _ _ fun j hj => ((rdM_wf _ j hj).trans (gN_congr h j hj)).trans (rdM_wf _ j hj).symm

theorem num_byte (D : Nat → Int) (a : Nat) : ∀ S, (∀ i, i < S → 0 ≤ D (a + i) ∧ D (a + i) < 256) → ∀ i, i < S → Co.num D a S / 2 ^ (8 * (S - 1 - i)) % 256 = D (a + i)
  | 0, _, _, h => absurd h (Nat.not_lt_zero _)
  | S + 1, hD, i, hi => by
    have hb := hD S (by omega)
    show (Co.num D a S * 256 + D (a + S)) / 2 ^ (8 * (S + 1 - 1 - i)) % 256 = _
    by_cases h : i = S
    · subst h
      rw [show 8 * (i + 1 - 1 - i) = 0 by omega, Int.pow_zero, Int.ediv_one]
      omega
    · have e : (2 : Int) ^ (8 * (S + 1 - 1 - i)) = 256 * 2 ^ (8 * (S - 1 - i)) := by
        rw [show 8 * (S + 1 - 1 - i) = 8 + 8 * (S - 1 - i) by omega, Int.pow_add]
        rfl
      rw [e, ← Int.ediv_ediv_of_nonneg (by decide), show (Co.num D a S * 256 + D (a + S)) / 256 = Co.num D a S by omega]
      exact num_byte D a S (fun i hi => hD i (by omega)) i (by omega)
theorem wb_rd (D : Nat → Int) (hD : ∀ i, i < 42 → 0 ≤ D i ∧ D i < 256) : ∀ j, j ≤ 14 → ∀ i, i < wst j → wb (rdM D) j i = D i
  | 0, _, _, h => absurd h (Nat.not_lt_zero _)
  | j + 1, hj, i, hi => by
    show Co.putF (wb (rdM D) j) (wst j) (wsz j) (wf (rdM D) j) i = _
    have hs := wst_succ j (by omega)
    have hl := wst_le j (by omega)
    by_cases h : i < wst j
    · rw [Co.putF_ahead _ _ _ _ _ h]
      exact wb_rd D hD j (by omega) i h
    · unfold Co.putF
      rw [if_neg h, rdM_wf D j (by omega)]
      have := num_byte D (wst j) (wsz j) (fun i hi => hD _ (by omega)) (i - wst j) (by omega)
      rw [show wst j + (i - wst j) = i by omega] at this
      exact this
theorem msgF_rd (D : Nat → Int) (n k : Nat) (hD : ∀ i, i < 42 → 0 ≤ D i ∧ D i < 256) (hn : D 42 = n) (hk : D (43 + n) = k) (i : Nat) :
    msgF (rdM D) (fun i => D (43 + i)) n (fun i => D (44 + n + i)) k i = D i := by
  by_cases h : i < 42
  · rw [msgF_low _ _ _ _ _ _ h]
    exact wb_rd D hD 14 (by omega) i h
  · by_cases h1 : i = 42
    · subst h1
      rw [msgF_n, hn]
    · by_cases h2 : i < 43 + n
      · obtain ⟨d, rfl⟩ : ∃ d, i = 43 + d := ⟨i - 43, by omega⟩
        rw [msgF_F _ _ _ _ _ _ (by omega)]
      · by_cases h3 : i = 43 + n
        · subst h3
          rw [msgF_k, hk]
        · obtain ⟨d, rfl⟩ : ∃ d, i = 44 + n + d := ⟨i - (44 + n), by omega⟩
          rw [msgF_G]
/-- Unlike messages have unlike bytes. -/
theorem msgF_inj (m m' : Mg) (hm : Fit m) (hm' : Fit m') (F F' G G' : Nat → Int) (n n' k k' : Nat) (hl : n + k = n' + k') (h : ∀ i, i < 44 + n + k → msgF m F n G k i = msgF m' F' n' G' k' i) :
    m = m' ∧ n = n' ∧ k = k' ∧ (∀ i, i < n → F i = F' i) ∧ ∀ i, i < k → G i = G' i := by
  have e1 : m = m' := by
    rw [← rdM_msgF m hm F n G k, ← rdM_msgF m' hm' F' n' G' k']
    exact rdM_congr fun i hi => h i (by omega)
  have e2 : n = n' := by
    have := h 42 (by omega)
    rw [msgF_n, msgF_n] at this
    omega
  subst e2
  obtain rfl : k = k' := by omega
  refine ⟨e1, rfl, rfl, fun i hi => ?_, fun i hi => ?_⟩
  · have := h (43 + i) (by omega)
    rwa [msgF_F _ _ _ _ _ _ hi, msgF_F _ _ _ _ _ _ hi] at this
  · have := h (44 + n + i) (by omega)
    rwa [msgF_G, msgF_G] at this
theorem msgF_congr (m : Mg) (F F' G G' : Nat → Int) (n k : Nat) (hF : ∀ i, i < n → F i = F' i) (hG : ∀ i, i < k → G i = G' i) (i : Nat) (hi : i < 44 + n + k) : msgF m F n G k i = msgF m F' n G' k i := by
  by_cases h : i < 42
  · rw [msgF_low _ _ _ _ _ _ h, msgF_low _ _ _ _ _ _ h]
  · by_cases h1 : i = 42
    · subst h1
      rw [msgF_n, msgF_n]
    · by_cases h2 : i < 43 + n
      · obtain ⟨d, rfl⟩ : ∃ d, i = 43 + d := ⟨i - 43, by omega⟩
        rw [msgF_F _ _ _ _ _ _ (by omega), msgF_F _ _ _ _ _ _ (by omega), hF d (by omega)]
      · by_cases h3 : i = 43 + n
        · subst h3
          rw [msgF_k, msgF_k]
        · obtain ⟨d, rfl⟩ : ∃ d, i = 44 + n + d := ⟨i - (44 + n), by omega⟩
          rw [msgF_G, msgF_G, hG d (by omega)]
end Go.Proofs.Ytmcmiojidgdjpaa
namespace Go.Proofs.Ytmcmiojidgdjpaa
open Go.RowKit

/-- The least numbers of a message of this kind. -/
def lo (m : Mg) : Mg where
  kd := 1
  fr := 0
  fi := 1
  tw := 0
  ti := if m.kd = 1 then 0 else 1
  tp := 0
  ep := if m.kd = 7 ∨ m.kd = 8 ∨ m.kd = 9 then 1 else 0
  sq := if m.kd = 3 ∨ m.kd = 7 ∨ m.kd = 8 ∨ m.kd = 9 then 1 else 0
  la := if m.kd = 9 then m.sq else 0
  va := 0
  no := 0
  ic := if m.kd = 10 ∨ m.kd = 11 then 1 else 0
  ct := if m.kd = 10 ∨ m.kd = 11 ∨ m.kd = 12 ∨ m.kd = 13 then 1 else 0
  hp := 0
/-- The greatest ones. -/
def hi (m : Mg) : Mg where
  kd := 13
  fr := 7
  fi := 1073741824
  tw := 7
  ti := if m.kd = 1 then 0 else 1073741824
  tp := if m.kd = 1 then 0 else 3
  ep := if m.kd = 2 ∨ m.kd = 3 ∨ m.kd = 7 ∨ m.kd = 8 ∨ m.kd = 9 then 1073741824 else 0
  sq := if m.kd = 3 ∨ m.kd = 7 ∨ m.kd = 8 ∨ m.kd = 9 then 1073741824 else 0
  la := if m.kd = 3 ∨ m.kd = 9 then 1073741824 else 0
  va := if m.kd = 7 ∨ m.kd = 10 ∨ m.kd = 11 then 2147483647 else if m.kd = 12 then 7 else 0
  no := if m.kd = 4 ∨ m.kd = 10 ∨ m.kd = 11 then 7 else 0
  ic := if m.kd = 10 ∨ m.kd = 11 then 1073741824 else 0
  ct := if m.kd = 10 then 1073741824 else if m.kd = 11 ∨ m.kd = 12 ∨ m.kd = 13 then 40 else 0
  hp := if m.kd = 10 ∨ m.kd = 11 then 16 else 0
/-- A function that answers what two cells of its own hold, whole. -/
theorem ret_rows {fn : Func} {R : Ending → World → Prop} {a : Act} {w : World} (p q : Tmp) (h : fn.results = #[.cell p 24, .cell q 24]) (g k : Nat) (cs ds : Array Value)
    (hp : a.tmps.getD p undef = .pointer (some ⟨g, 0, none⟩)) (hq : a.tmps.getD q undef = .pointer (some ⟨k, 0, none⟩)) (hg : w.heap[g]? = some (.cells cs 24)) (hk : w.heap[k]? = some (.cells ds 24))
    (hc : cs.size = 16) (hd : ds.size = 16) (hde : a.defers = []) (hR : R (.returned (.tuple #[.agg cs, .agg ds])) w) : bodyPost Try.prog fn R .ret a w := by
  refine bodyPost_ret ?_ hde hR
  have hp' : a.tmps[p]?.getD undef = .pointer (some ⟨g, 0, none⟩) := by simpa using hp
  have hq' : a.tmps[q]?.getD undef = .pointer (some ⟨k, 0, none⟩) := by simpa using hq
  have h1 := run_loadVar_row (P := Try.prog) w g 24 24 cs (0, 0) _ hg Try.underlying24 rfl (by rw [hc]; exact info24)
  have h2 := run_loadVar_row (P := Try.prog) w k 24 24 ds (0, 0) _ hk Try.underlying24 rfl (by rw [hd]; exact info24)
  simp [results, h, hp', hq', asAddr, h1, h2]
theorem heap3_mid (w : World) (A B C : Obj) : (((w.alloc A).alloc B).alloc C).heap[w.heap.size + 1]? = some B := by
  exact (Below.heap_alloc ((w.alloc A).alloc B) C (w.heap.size + 1) (by simp)).trans (heap_alloc2_new w A B)
theorem heap3_new (w : World) (A B C : Obj) : (((w.alloc A).alloc B).alloc C).heap[w.heap.size + 1 + 1]? = some C := by
  have h := heap_alloc_new ((w.alloc A).alloc B) C
  have e : ((w.alloc A).alloc B).heap.size = w.heap.size + 1 + 1 := by simp
  rwa [e] at h
theorem heap3_mid_d (w : World) (A B C : Obj) : (((w.alloc A).alloc B).alloc C).drew.heap[w.heap.size + 1]? = some B := by rw [heap_drew]; exact heap3_mid w A B C
theorem heap3_new_d (w : World) (A B C : Obj) : (((w.alloc A).alloc B).alloc C).drew.heap[w.heap.size + 1 + 1]? = some C := by rw [heap_drew]; exact heap3_new w A B C
theorem heap3_mid_dd (w : World) (A B C : Obj) : (((w.alloc A).alloc B).alloc C).drew.drew.heap[w.heap.size + 1]? = some B := by rw [heap_drew]; exact heap3_mid_d w A B C
theorem heap3_new_dd (w : World) (A B C : Obj) : (((w.alloc A).alloc B).alloc C).drew.drew.heap[w.heap.size + 1 + 1]? = some C := by rw [heap_drew]; exact heap3_new_d w A B C
theorem below3 (w : World) (A B C : Obj) : Below w.heap.size w (((w.alloc A).alloc B).alloc C) := (((Below.refl _ _).alloc (Nat.le_refl _) _).alloc (by simp) _).alloc (by simp; omega) _
theorem built_lo : Try.prog.built 24 [(0, .int .i64 1), (2, .int .i64 1)] = some #[.int .i64 1, .int .i64 0, .int .i64 1, .int .i64 0, .int .i64 0, .int .i64 0, .int .i64 0, .int .i64 0, .int .i64 0, .int .i64 0, .int .i64 0, .int .i64 0, .int .i64 0, .int .i64 0, .slice none 0 0, .slice none 0 0] := by kernel_rfl
theorem wpList_built {P : Program} {ops : Array Oper} {rest : List Oper} {o : Oper} {a : Act} {w : World} {Q : Exit → Act → World → Prop} (hg : o.guard = none) (t : TypeId) (parts : Array (Nat × Operand)) (ho : o.op = .build t parts)
    (vs : List (Nat × Value)) (cs : Array Value) (hv : (parts.map fun (i, x) => (i, a.eval x)).toList = vs) (hb : P.built t vs = some cs)
    (h : wpList P ops Q rest (a.put o.dst (.agg cs)) w) : wpList P ops Q (o :: rest) a w :=
  wpList_build hg t parts ho (by rw [hv, hb]; rfl) (by rw [hv, hb]; exact h)
theorem built_hi : Try.prog.built 24 [(0, .int .i64 13), (1, .int .i64 7), (2, .int .i64 1073741824), (3, .int .i64 7)] = some #[.int .i64 13, .int .i64 7, .int .i64 1073741824, .int .i64 7, .int .i64 0, .int .i64 0, .int .i64 0, .int .i64 0, .int .i64 0, .int .i64 0, .int .i64 0, .int .i64 0, .int .i64 0, .int .i64 0, .slice none 0 0, .slice none 0 0] := by kernel_rfl
theorem setRow_last (w : World) (old cells : Array Value) (t : TypeId) : (w.alloc (.cells old t)).setRow w.heap.size cells = w.alloc (.cells cells t) := by
  unfold World.setRow World.alloc
  congr 1
  apply Array.ext_getElem?
  intro i
  rw [Array.getElem?_modify, Array.getElem?_push, Array.getElem?_push]
  by_cases h : w.heap.size = i
  · simp [h]
  · rw [if_neg h, if_neg (fun e => h e.symm), if_neg (fun e => h e.symm)]
theorem setRow_past (w : World) (g : Nat) (cells : Array Value) (o : Obj) (h : g < w.heap.size) : (w.alloc o).setRow g cells = (w.setRow g cells).alloc o := by
  unfold World.setRow World.alloc
  congr 1
  apply Array.ext_getElem?
  intro i
  rw [Array.getElem?_modify, Array.getElem?_push, Array.getElem?_push]
  by_cases h1 : i = w.heap.size
  · subst h1
    simp [show ¬ g = w.heap.size by omega]
  · simp [h1, Array.getElem?_modify]
theorem wpList_store_last {ops : Array Oper} {rest : List Oper} {o : Oper} {a : Act} {w : World} {Q : Exit → Act → World → Prop} (hgd : o.guard = none) (x y : Operand) (ho : o.op = .store 24 x y)
    (g : Nat) (cells : Array Value) (hx : a.eval x = .pointer (some ⟨g, 0, none⟩)) (hy : a.eval y = .agg cells) (hg : g = w.heap.size) (old : Array Value) (hold : old.size = 16) (hc : cells.size = 16) (h1 : cells.all (·.oneCell') = true)
    (h : wpList Try.prog ops Q rest (a.put o.dst undef) (w.alloc (.cells cells 24))) : wpList Try.prog ops Q (o :: rest) a (w.alloc (.cells old 24)) := by
  subst hg
  refine wpList_store_row hgd 24 x y ho _ cells hx hy 24 old (heap_alloc_new _ _) (by rw [hc]; exact info24) (by omega) h1 ?_
  rw [setRow_last]
  exact h
theorem wpList_store_mid {ops : Array Oper} {rest : List Oper} {o : Oper} {a : Act} {w : World} {Q : Exit → Act → World → Prop} (hgd : o.guard = none) (x y : Operand) (ho : o.op = .store 24 x y) (C : Obj)
    (g : Nat) (cells : Array Value) (hx : a.eval x = .pointer (some ⟨g, 0, none⟩)) (hy : a.eval y = .agg cells) (hg : g = w.heap.size) (old : Array Value) (hold : old.size = 16) (hc : cells.size = 16) (h1 : cells.all (·.oneCell') = true)
    (h : wpList Try.prog ops Q rest (a.put o.dst undef) ((w.alloc (.cells cells 24)).alloc C)) : wpList Try.prog ops Q (o :: rest) a ((w.alloc (.cells old 24)).alloc C) := by
  subst hg
  refine wpList_store_row hgd 24 x y ho _ cells hx hy 24 old (heap_alloc2_old _ _ _) (by rw [hc]; exact info24) (by omega) h1 ?_
  rw [setRow_past _ _ _ _ (by simp), setRow_last]
  exact h
theorem setRow_self (w : World) (g : Nat) (cs : Array Value) (t : TypeId) (hg : w.heap[g]? = some (.cells cs t)) : w.setRow g cs = w := by
  have e : (w.setRow g cs).heap = w.heap := by
    apply Array.ext_getElem?
    intro i
    by_cases h : i = g
    · subst h
      rw [setRow_heap w i cs cs t _ hg, hg]
    · exact setRow_other w g i cs h
  unfold World.setRow at *
  cases w
  simp at e
  simp [e]
/-- What a load of a whole message answers. -/
theorem run_load24 (w : World) (g : Nat) (cs : Array Value) (hg : w.heap[g]? = some (.cells cs 24)) (hc : cs.size = 16) (o : Oper) (x : Operand) (ho : o.op = .load 24 x) (a : Act) (hx : a.eval x = .pointer (some ⟨g, 0, none⟩)) :
    (execOp a.eval o).run Try.prog w = .ok (.value (.agg cs)) w := by
  unfold execOp
  simp only [ho, hx, Instr.loadAt, Instr.sureAddr, Sem.run_bind, Sem.run_pure, Result.andThen_ok, run_loadVar_row w g 24 24 cs (0, 0) _ hg Try.underlying24 rfl (by rw [hc]; exact info24)]
/-- What a store of the message that is there does: nothing. -/
theorem run_store24 (w : World) (g : Nat) (cs : Array Value) (hg : w.heap[g]? = some (.cells cs 24)) (hc : cs.size = 16) (h1 : cs.all (·.oneCell') = true) (o : Oper) (x y : Operand) (ho : o.op = .store 24 x y) (a : Act) (hx : a.eval x = .pointer (some ⟨g, 0, none⟩)) (hy : a.eval y = .agg cs) :
    (execOp a.eval o).run Try.prog w = .ok .skip w := by
  unfold execOp
  simp only [ho, hx, hy, Instr.storeAt, Instr.sureAddr, Sem.run_bind, Sem.run_pure, Result.andThen_ok, run_storeVar_row w g 24 24 cs cs hg (by rw [hc]; exact info24) rfl h1, setRow_self w g cs 24 hg]
theorem wpOp_skip {ops : Array Oper} {Q : Exit → Act → World → Prop} {i : Nat} {K : Act → World → Prop} {a : Act} {w : World} {o : Oper} (hi : ops[i]? = some o) (hw : Region.wanted o (yielded ops a.tmps) = true) (hr : (execOp a.eval o).run Try.prog w = .ok .skip w) (h : K (a.put o.dst undef) w) : wpOp Try.prog ops Q i K a w := by
  unfold Go.wpOp
  simp only [hi, hw, if_true, Oper.wp, hr, Oper.upon]
  exact .inl h
/-- 'return least, most' of two cells that are the results. -/
theorem region_same {Q : Exit → Act → World → Prop} (id : Nat) (p0 p1 p2 p3 : String) (a : Act) (w : World) (g1 g2 : Nat) (cs ds : Array Value) (e0 : a.eval (.tmp 2) = .pointer (some ⟨g1, 0, none⟩)) (e1 : (a.put (some 76) (.agg cs)).eval (.tmp 3) = .pointer (some ⟨g2, 0, none⟩))
    (e2 : ((a.put (some 76) (.agg cs)).put (some 77) (.agg ds)).eval (.tmp 2) = .pointer (some ⟨g1, 0, none⟩)) (e3 : ((a.put (some 76) (.agg cs)).put (some 77) (.agg ds)).eval (.tmp 76) = .agg cs)
    (e4 : (((a.put (some 76) (.agg cs)).put (some 77) (.agg ds)).put none undef).eval (.tmp 3) = .pointer (some ⟨g2, 0, none⟩)) (e5 : (((a.put (some 76) (.agg cs)).put (some 77) (.agg ds)).put none undef).eval (.tmp 77) = .agg ds)
    (hg1 : w.heap[g1]? = some (.cells cs 24)) (hg2 : w.heap[g2]? = some (.cells ds 24)) (hc : cs.size = 16) (hd : ds.size = 16) (h1 : cs.all (·.oneCell') = true) (h2 : ds.all (·.oneCell') = true)
    (h : Q .normal ((((a.put (some 76) (.agg cs)).put (some 77) (.agg ds)).put none undef).put none undef) w.drew) :
    (Code.region id #[{ dst := some 76, op := Op.load 24 (.tmp 2), type := 24, pos := p0, after := #[], guard := none },
      { dst := some 77, op := Op.load 24 (.tmp 3), type := 24, pos := p1, after := #[{ on := 2, ground := Ground.gcOnly Departure.lateStores }], guard := none },
      { dst := none, op := Op.store 24 (.tmp 2) (.tmp 76), type := 0, pos := p2, after := #[{ on := 0, ground := Ground.data }, { on := 0, ground := Ground.phase }, { on := 1, ground := Ground.textOnly Departure.lateStores }], guard := none },
      { dst := none, op := Op.store 24 (.tmp 3) (.tmp 77), type := 0, pos := p3, after := #[{ on := 1, ground := Ground.data }, { on := 2, ground := Ground.chain }, { on := 0, ground := Ground.phase }, { on := 1, ground := Ground.phase }, { on := 2, ground := Ground.phase }], guard := none }] true).wp Try.prog Q a w := by
  have k1 : w.drew.heap[g1]? = some (.cells cs 24) := by rw [heap_drew]; exact hg1
  have k2 : w.drew.heap[g2]? = some (.cells ds 24) := by rw [heap_drew]; exact hg2
  refine wp_region_noPanic ?_
  have hQ : ∀ c a d v w, NoPanic Q (.panic c) (a.put d v) w → NoPanic Q (.panic c) a w := fun _ _ _ _ _ h => h
  refine wp_region_held (S := fun w' => w'.heap[g1]? = some (.cells cs 24) ∧ w'.heap[g2]? = some (.cells ds 24)) (by kernel_rfl) ?_
  refine wpAnyH_take (i := 0) (v := .agg cs) rfl (by kernel_rfl) (by kernel_rfl) (by kernel_rfl) (fun c a w => hQ c a _ _ w) (.inl ⟨rfl, fun w' hS => run_load24 w' g1 cs hS.1 hc _ _ rfl _ e0⟩) ⟨hg1, hg2⟩ ?_
  refine wpAnyH_take (i := 1) (v := .agg ds) rfl (by kernel_rfl) (by kernel_rfl) (by kernel_rfl) (fun c a w => hQ c a _ _ w) (.inl ⟨rfl, fun w' hS => run_load24 w' g2 ds hS.2 hd _ _ rfl _ e1⟩) ⟨hg1, hg2⟩ ?_
  refine wpAnyH_all (rs := [2]) (by kernel_rfl) (by simp) ?_
  intro i hi
  obtain rfl : i = 2 := by simpa using hi
  refine wpOp_skip (o := { dst := none, op := Op.store 24 (.tmp 2) (.tmp 76), type := 0, pos := p2, after := #[{ on := 0, ground := Ground.data }, { on := 0, ground := Ground.phase }, { on := 1, ground := Ground.textOnly Departure.lateStores }], guard := none }) rfl rfl (run_store24 w.drew g1 cs k1 hc h1 _ _ _ rfl _ e2 e3) ⟨⟨hg1, hg2⟩, ?_⟩
  refine wpAnyH_all (rs := [3]) (by kernel_rfl) (by simp) ?_
  intro i hi
  obtain rfl : i = 3 := by simpa using hi
  refine wpOp_skip (o := { dst := none, op := Op.store 24 (.tmp 3) (.tmp 77), type := 0, pos := p3, after := #[{ on := 1, ground := Ground.data }, { on := 2, ground := Ground.chain }, { on := 0, ground := Ground.phase }, { on := 1, ground := Ground.phase }, { on := 2, ground := Ground.phase }], guard := none }) rfl rfl (run_store24 w.drew g2 ds k2 hd h2 _ _ _ rfl _ e4 e5) ⟨⟨hg1, hg2⟩, ?_⟩
  exact wpAnyH_done (by kernel_rfl) (NoPanic.normal h) _
end Go.Proofs.Ytmcmiojidgdjpaa
namespace Go.Proofs.Ytmcmiojidgdjpaa
open Go.RowKit

theorem wpOp_call {ops : Array Oper} {Q : Exit → Act → World → Prop} {i : Nat} {K : Act → World → Prop} {a : Act} {w : World} {o : Oper} (hi : ops[i]? = some o) (hw : Region.wanted o (yielded ops a.tmps) = true) (f : FuncId) (args : Array Value) (v : Value)
    (hr : (execOp a.eval o).run Try.prog w = .ok (.enter f args) w) (hc : Calls Try.prog f args w fun e w' => e = .returned v ∧ Below w.heap.size w w') (h : ∀ w', Below w.heap.size w w' → K (a.put o.dst v) w') : wpOp Try.prog ops Q i K a w := by
  unfold Go.wpOp
  simp only [hi, hw, if_true, Oper.wp, hr, Oper.upon_enter]
  left
  refine hc.mono ?_
  rintro e w' ⟨rfl, b⟩
  exact h w' b
theorem wpOp_value {ops : Array Oper} {Q : Exit → Act → World → Prop} {i : Nat} {K : Act → World → Prop} {a : Act} {w w' : World} {o : Oper} (hi : ops[i]? = some o) (hw : Region.wanted o (yielded ops a.tmps) = true) (v : Value)
    (hr : (execOp a.eval o).run Try.prog w = .ok (.value v) w') (h : K (a.put o.dst v) w') : wpOp Try.prog ops Q i K a w := by
  unfold Go.wpOp
  simp only [hi, hw, if_true, Oper.wp, hr, Oper.upon]
  exact .inl h
theorem wpOp_skip2 {ops : Array Oper} {Q : Exit → Act → World → Prop} {i : Nat} {K : Act → World → Prop} {a : Act} {w w' : World} {o : Oper} (hi : ops[i]? = some o) (hw : Region.wanted o (yielded ops a.tmps) = true)
    (hr : (execOp a.eval o).run Try.prog w = .ok .skip w') (h : K (a.put o.dst undef) w') : wpOp Try.prog ops Q i K a w := by
  unfold Go.wpOp
  simp only [hi, hw, if_true, Oper.wp, hr, Oper.upon]
  exact .inl h
def zero14 : Array Value := #[.int .i64 0, .int .i64 0, .int .i64 0, .int .i64 0, .int .i64 0, .int .i64 0, .int .i64 0, .int .i64 0, .int .i64 0, .int .i64 0, .int .i64 0, .int .i64 0, .int .i64 0, .int .i64 0]
theorem run_alloc40 (w : World) (o : Oper) (ho : o.op = .alloc 65) (a : Act) : (execOp a.eval o).run Try.prog w = .ok (.value (.pointer (some ⟨w.heap.size, 0, none⟩))) (w.alloc (.cells zero14 65)) := by
  unfold execOp
  simp only [ho]
  simp [go_sem, zero14]
theorem run_call1 (f : FuncId) (hf : ∀ args w, (callFunc f args).run Try.prog w = .ok (.enter f args) w) (w : World) (o : Oper) (x : Operand) (t : TypeId) (ho : o.op = .call { callee := .value (.func f), args := #[x], argTypes := #[t] }) (a : Act) (v : Value) (hx : a.eval x = v) :
    (execOp a.eval o).run Try.prog w = .ok (.enter f #[v]) w := by
  unfold execOp
  simp only [ho]
  simp [resolve, invoke, hx]
  simp [Act.eval, Deferred.ofValue, hf]
theorem call27 : ∀ args w, (callFunc 58 args).run Try.prog w = .ok (.enter 58 args) w := enters_of Try.func58 (by kernel_rfl) rfl
theorem run_store40 (w : World) (g : Nat) (old cs : Array Value) (hg : w.heap[g]? = some (.cells old 65)) (ho1 : old.size = 14) (hc : cs.size = 14) (h1 : cs.all (·.oneCell') = true) (o : Oper) (x y : Operand) (ho : o.op = .store 65 x y) (a : Act) (hx : a.eval x = .pointer (some ⟨g, 0, none⟩)) (hy : a.eval y = .agg cs) :
    (execOp a.eval o).run Try.prog w = .ok .skip (w.setRow g cs) := by
  unfold execOp
  simp only [ho, hx, hy, Instr.storeAt, Instr.sureAddr, Sem.run_bind, Sem.run_pure, Result.andThen_ok, run_storeVar_row w g 65 65 old cs hg (by rw [hc]; exact info40) (by omega) h1]
/-- A load of a whole message, guarded or not. -/
theorem wpList_load24 {ops : Array Oper} {rest : List Oper} {o : Oper} {a : Act} {w : World} {Q : Exit → Act → World → Prop} (x : Operand) (ho : o.op = .load 24 x) (hw : Region.wanted o (yielded ops a.tmps) = true) (g : Nat) (cs : Array Value) (hx : a.eval x = .pointer (some ⟨g, 0, none⟩))
    (hg : w.heap[g]? = some (.cells cs 24)) (hc : cs.size = 16) (h : wpList Try.prog ops Q rest (a.put o.dst (.agg cs)) w) : wpList Try.prog ops Q (o :: rest) a w :=
  wpList_step fun _ hK => by
    rw [if_pos hw]
    exact wp_load_row 24 x ho g hx 24 cs (0, 0) _ hg Try.underlying24 rfl (by rw [hc]; exact info24) (hK _ _ h)
end Go.Proofs.Ytmcmiojidgdjpaa
namespace Go.Proofs.Ytmcmiojidgdjpaa
open Go.RowKit

def op0 (p0 : String) : Oper := { dst := some 14, op := Op.load 24 (.tmp 3), type := 24, pos := p0, after := #[], guard := none }
def op1 (p1 : String) : Oper := { dst := some 15, op := Op.call { callee := .value (.func 58), args := #[.tmp 14], argTypes := #[24] }, type := 65, pos := p1, after := #[{ on := 0, ground := Ground.data }], guard := none }
def op2 (p2 : String) : Oper := { dst := some 16, op := Op.load 24 (.tmp 4), type := 24, pos := p2, after := #[], guard := none }
def op3 (p3 : String) : Oper := { dst := some 17, op := Op.call { callee := .value (.func 58), args := #[.tmp 16], argTypes := #[24] }, type := 65, pos := p3, after := #[{ on := 2, ground := Ground.data }, { on := 1, ground := Ground.chain }], guard := none }
def op4 (p4 : String) : Oper := { dst := some 5, op := Op.alloc 65, type := 0, pos := p4, after := #[], guard := none }
def op5 (p5 : String) : Oper := { dst := some 6, op := Op.alloc 65, type := 0, pos := p5, after := #[], guard := none }
def op6 (p6 : String) : Oper := { dst := none, op := Op.store 65 (.tmp 5) (.tmp 15), type := 0, pos := p6, after := #[{ on := 4, ground := Ground.data }, { on := 1, ground := Ground.data }, { on := 3, ground := Ground.chain }, { on := 0, ground := Ground.phase }, { on := 1, ground := Ground.phase }, { on := 2, ground := Ground.textOnly Departure.lateStores }, { on := 3, ground := Ground.textOnly Departure.lateStoresUnsure }, { on := 4, ground := Ground.phase }, { on := 5, ground := Ground.phase }], guard := none }
def op7 (p7 : String) : Oper := { dst := none, op := Op.store 65 (.tmp 6) (.tmp 17), type := 0, pos := p7, after := #[{ on := 5, ground := Ground.data }, { on := 3, ground := Ground.data }, { on := 6, ground := Ground.chain }, { on := 0, ground := Ground.phase }, { on := 1, ground := Ground.phase }, { on := 2, ground := Ground.phase }, { on := 3, ground := Ground.phase }, { on := 4, ground := Ground.phase }, { on := 5, ground := Ground.phase }, { on := 6, ground := Ground.phase }], guard := none }
def ops2 (p0 p1 p2 p3 p4 p5 p6 p7 : String) : Array Oper := #[op0 p0, op1 p1, op2 p2, op3 p3, op4 p4, op5 p5, op6 p6, op7 p7]
def ac2 (u0 u1 u2 u3 u4 u9 u10 u11 u12 u13 v5 v6 v14 v15 v16 v17 : Value) : Act := { tmps := #[u0, u1, u2, u3, u4, v5, v6, undef, undef, u9, u10, u11, u12, u13, v14, v15, v16, v17, undef, undef, undef, undef, undef, undef, undef, undef, undef, undef, undef, undef, undef, undef, undef, undef, undef, undef, undef], defers := [] }
set_option maxRecDepth 100000 in
set_option maxHeartbeats 1000000 in
theorem region2 {Q : Exit → Act → World → Prop} (id : Nat) (p0 p1 p2 p3 p4 p5 p6 p7 : String) (u0 u1 u2 u9 u10 u11 u12 u13 : Value) (g3 g4 : Nat) (cL cH aL aH : Array Value) (w : World)
    (hg3 : w.heap[g3]? = some (.cells cL 24)) (hg4 : w.heap[g4]? = some (.cells cH 24)) (sL : cL.size = 16) (sH : cH.size = 16) (tL : aL.size = 14) (tH : aH.size = 14) (oL : aL.all (·.oneCell') = true) (oH : aH.all (·.oneCell') = true)
    (c1 : ∀ w, Calls Try.prog 58 #[.agg cL] w fun e w' => e = .returned (.agg aL) ∧ Below w.heap.size w w') (c2 : ∀ w, Calls Try.prog 58 #[.agg cH] w fun e w' => e = .returned (.agg aH) ∧ Below w.heap.size w w')
    (h : ∀ g5 g6 w', Below w.heap.size w w' → w.heap.size ≤ g5 → w.heap.size ≤ g6 → w'.heap[g5]? = some (.cells aL 65) → w'.heap[g6]? = some (.cells aH 65) → Q .normal (ac2 u0 u1 u2 (.pointer (some ⟨g3, 0, none⟩)) (.pointer (some ⟨g4, 0, none⟩)) u9 u10 u11 u12 u13 (.pointer (some ⟨g5, 0, none⟩)) (.pointer (some ⟨g6, 0, none⟩)) (.agg cL) (.agg aL) (.agg cH) (.agg aH)) w') :
    (Code.region id (ops2 p0 p1 p2 p3 p4 p5 p6 p7) true).wp Try.prog Q (ac2 u0 u1 u2 (.pointer (some ⟨g3, 0, none⟩)) (.pointer (some ⟨g4, 0, none⟩)) u9 u10 u11 u12 u13 undef undef undef undef undef undef) w := by
  have b3 : g3 < w.heap.size := (Array.getElem?_eq_some_iff.1 hg3).1
  have b4 : g4 < w.heap.size := (Array.getElem?_eq_some_iff.1 hg4).1
  refine wp_region_noPanic ?_
  have hQ : ∀ c a d v w, NoPanic Q (.panic c) (a.put d v) w → NoPanic Q (.panic c) a w := fun _ _ _ _ _ h => h
  have t211 : ∀ (g5 : Nat) (g6 : Nat) (x : World), Below w.heap.size w x → g5 ≠ g6 → w.heap.size ≤ g5 → x.heap[g5]? = some (.cells zero14 65) → w.heap.size ≤ g6 → x.heap[g6]? = some (.cells zero14 65) → wpAnyH Try.prog .any (ops2 p0 p1 p2 p3 p4 p5 p6 p7) (NoPanic Q) (fun w' => Below w.heap.size w w') 2 #[true, true, true, true, true, true, false, false] (ac2 u0 u1 u2 (.pointer (some ⟨g3, 0, none⟩)) (.pointer (some ⟨g4, 0, none⟩)) u9 u10 u11 u12 u13 (.pointer (some ⟨g5, 0, none⟩)) (.pointer (some ⟨g6, 0, none⟩)) (.agg cL) (.agg aL) (.agg cH) (.agg aH)) x := by
    intro g5 g6 x bx ne l5 h5 l6 h6
    refine wpAnyH_all (rs := [6]) (by kernel_rfl) (by simp) ?_
    intro i hi
    obtain rfl : i = 6 := by simpa using hi
    refine wpOp_skip2 (o := op6 p6) rfl rfl (run_store40 x g5 zero14 aL h5 rfl tL oL _ _ _ rfl _ rfl rfl) ⟨below_setRow bx l5, ?_⟩
    refine wpAnyH_all (rs := [7]) (by kernel_rfl) (by simp) ?_
    intro i hi
    obtain rfl : i = 7 := by simpa using hi
    refine wpOp_skip2 (o := op7 p7) rfl rfl (run_store40 (x.setRow g5 aL) g6 zero14 aH ((setRow_other x g5 g6 aL (fun e => ne e.symm)).trans h6) rfl tH oH _ _ _ rfl _ rfl rfl) ⟨below_setRow (below_setRow bx l5) l6, ?_⟩
    exact wpAnyH_done (by kernel_rfl) (NoPanic.normal (h g5 g6 _ (below_setRow (below_setRow bx l5) l6) l5 l6 ((setRow_other _ g6 g5 aH ne).trans (setRow_heap x g5 _ aL 65 _ h5)) (setRow_heap _ g6 _ aH 65 _ ((setRow_other x g5 g6 aL (fun e => ne e.symm)).trans h6)))) _
  have t210 : ∀ (g5 : Nat) (x : World), Below w.heap.size w x → w.heap.size ≤ g5 → x.heap[g5]? = some (.cells zero14 65) → wpAnyH Try.prog .any (ops2 p0 p1 p2 p3 p4 p5 p6 p7) (NoPanic Q) (fun w' => Below w.heap.size w w') 3 #[true, true, true, true, true, false, false, false] (ac2 u0 u1 u2 (.pointer (some ⟨g3, 0, none⟩)) (.pointer (some ⟨g4, 0, none⟩)) u9 u10 u11 u12 u13 (.pointer (some ⟨g5, 0, none⟩)) undef (.agg cL) (.agg aL) (.agg cH) (.agg aH)) x := by
    intro g5 x bx l5 h5
    refine wpAnyH_all (rs := [5]) (by kernel_rfl) (by simp) ?_
    intro i hi
    obtain rfl : i = 5 := by simpa using hi
    refine wpOp_value (o := op5 p5) rfl rfl _ (run_alloc40 x _ rfl _) ⟨bx.alloc bx.size _, ?_⟩
    exact t211 g5 (x.heap.size) _ (bx.alloc bx.size _) (by have := (Array.getElem?_eq_some_iff.1 h5).1; omega) l5 ((Below.heap_alloc x _ g5 (Array.getElem?_eq_some_iff.1 h5).1).trans h5) bx.size (heap_alloc_new x _)
  have t201 : ∀ (g6 : Nat) (x : World), Below w.heap.size w x → w.heap.size ≤ g6 → x.heap[g6]? = some (.cells zero14 65) → wpAnyH Try.prog .any (ops2 p0 p1 p2 p3 p4 p5 p6 p7) (NoPanic Q) (fun w' => Below w.heap.size w w') 3 #[true, true, true, true, false, true, false, false] (ac2 u0 u1 u2 (.pointer (some ⟨g3, 0, none⟩)) (.pointer (some ⟨g4, 0, none⟩)) u9 u10 u11 u12 u13 undef (.pointer (some ⟨g6, 0, none⟩)) (.agg cL) (.agg aL) (.agg cH) (.agg aH)) x := by
    intro g6 x bx l6 h6
    refine wpAnyH_all (rs := [4]) (by kernel_rfl) (by simp) ?_
    intro i hi
    obtain rfl : i = 4 := by simpa using hi
    refine wpOp_value (o := op4 p4) rfl rfl _ (run_alloc40 x _ rfl _) ⟨bx.alloc bx.size _, ?_⟩
    exact t211 (x.heap.size) g6 _ (bx.alloc bx.size _) (by have := (Array.getElem?_eq_some_iff.1 h6).1; omega) bx.size (heap_alloc_new x _) l6 ((Below.heap_alloc x _ g6 (Array.getElem?_eq_some_iff.1 h6).1).trans h6)
  have t200 : ∀ (x : World), Below w.heap.size w x → wpAnyH Try.prog .any (ops2 p0 p1 p2 p3 p4 p5 p6 p7) (NoPanic Q) (fun w' => Below w.heap.size w w') 4 #[true, true, true, true, false, false, false, false] (ac2 u0 u1 u2 (.pointer (some ⟨g3, 0, none⟩)) (.pointer (some ⟨g4, 0, none⟩)) u9 u10 u11 u12 u13 undef undef (.agg cL) (.agg aL) (.agg cH) (.agg aH)) x := by
    intro x bx
    refine wpAnyH_all (rs := [4, 5]) (by kernel_rfl) (by simp) ?_
    intro i hi
    have hi2 : i = 4 ∨ i = 5 := by simpa using hi
    rcases hi2 with rfl | rfl
    · refine wpOp_value (o := op4 p4) rfl rfl _ (run_alloc40 x _ rfl _) ⟨bx.alloc bx.size _, ?_⟩
      exact t210 (x.heap.size) _ (bx.alloc bx.size _) bx.size (heap_alloc_new x _)
    · refine wpOp_value (o := op5 p5) rfl rfl _ (run_alloc40 x _ rfl _) ⟨bx.alloc bx.size _, ?_⟩
      exact t201 (x.heap.size) _ (bx.alloc bx.size _) bx.size (heap_alloc_new x _)
  have t111 : ∀ (g5 : Nat) (g6 : Nat) (x : World), Below w.heap.size w x → g5 ≠ g6 → w.heap.size ≤ g5 → x.heap[g5]? = some (.cells zero14 65) → w.heap.size ≤ g6 → x.heap[g6]? = some (.cells zero14 65) → wpAnyH Try.prog .any (ops2 p0 p1 p2 p3 p4 p5 p6 p7) (NoPanic Q) (fun w' => Below w.heap.size w w') 3 #[true, true, true, false, true, true, false, false] (ac2 u0 u1 u2 (.pointer (some ⟨g3, 0, none⟩)) (.pointer (some ⟨g4, 0, none⟩)) u9 u10 u11 u12 u13 (.pointer (some ⟨g5, 0, none⟩)) (.pointer (some ⟨g6, 0, none⟩)) (.agg cL) (.agg aL) (.agg cH) undef) x := by
    intro g5 g6 x bx ne l5 h5 l6 h6
    refine wpAnyH_all (rs := [3]) (by kernel_rfl) (by simp) ?_
    intro i hi
    obtain rfl : i = 3 := by simpa using hi
    refine wpOp_call (o := op3 p3) rfl rfl 58 #[.agg cH] (.agg aH) (run_call1 58 call27 x _ _ _ rfl _ _ rfl) (c2 x) (fun y by2 => ⟨bx.trans (by2.mono bx.size), ?_⟩)
    exact t211 g5 g6 _ (bx.trans (by2.mono bx.size)) ne l5 ((by2.block g5 (Array.getElem?_eq_some_iff.1 h5).1).trans h5) l6 ((by2.block g6 (Array.getElem?_eq_some_iff.1 h6).1).trans h6)
  have t110 : ∀ (g5 : Nat) (x : World), Below w.heap.size w x → w.heap.size ≤ g5 → x.heap[g5]? = some (.cells zero14 65) → wpAnyH Try.prog .any (ops2 p0 p1 p2 p3 p4 p5 p6 p7) (NoPanic Q) (fun w' => Below w.heap.size w w') 4 #[true, true, true, false, true, false, false, false] (ac2 u0 u1 u2 (.pointer (some ⟨g3, 0, none⟩)) (.pointer (some ⟨g4, 0, none⟩)) u9 u10 u11 u12 u13 (.pointer (some ⟨g5, 0, none⟩)) undef (.agg cL) (.agg aL) (.agg cH) undef) x := by
    intro g5 x bx l5 h5
    refine wpAnyH_all (rs := [3, 5]) (by kernel_rfl) (by simp) ?_
    intro i hi
    have hi2 : i = 3 ∨ i = 5 := by simpa using hi
    rcases hi2 with rfl | rfl
    · refine wpOp_call (o := op3 p3) rfl rfl 58 #[.agg cH] (.agg aH) (run_call1 58 call27 x _ _ _ rfl _ _ rfl) (c2 x) (fun y by2 => ⟨bx.trans (by2.mono bx.size), ?_⟩)
      exact t210 g5 _ (bx.trans (by2.mono bx.size)) l5 ((by2.block g5 (Array.getElem?_eq_some_iff.1 h5).1).trans h5)
    · refine wpOp_value (o := op5 p5) rfl rfl _ (run_alloc40 x _ rfl _) ⟨bx.alloc bx.size _, ?_⟩
      exact t111 g5 (x.heap.size) _ (bx.alloc bx.size _) (by have := (Array.getElem?_eq_some_iff.1 h5).1; omega) l5 ((Below.heap_alloc x _ g5 (Array.getElem?_eq_some_iff.1 h5).1).trans h5) bx.size (heap_alloc_new x _)
  have t101 : ∀ (g6 : Nat) (x : World), Below w.heap.size w x → w.heap.size ≤ g6 → x.heap[g6]? = some (.cells zero14 65) → wpAnyH Try.prog .any (ops2 p0 p1 p2 p3 p4 p5 p6 p7) (NoPanic Q) (fun w' => Below w.heap.size w w') 4 #[true, true, true, false, false, true, false, false] (ac2 u0 u1 u2 (.pointer (some ⟨g3, 0, none⟩)) (.pointer (some ⟨g4, 0, none⟩)) u9 u10 u11 u12 u13 undef (.pointer (some ⟨g6, 0, none⟩)) (.agg cL) (.agg aL) (.agg cH) undef) x := by
    intro g6 x bx l6 h6
    refine wpAnyH_all (rs := [3, 4]) (by kernel_rfl) (by simp) ?_
    intro i hi
    have hi2 : i = 3 ∨ i = 4 := by simpa using hi
    rcases hi2 with rfl | rfl
    · refine wpOp_call (o := op3 p3) rfl rfl 58 #[.agg cH] (.agg aH) (run_call1 58 call27 x _ _ _ rfl _ _ rfl) (c2 x) (fun y by2 => ⟨bx.trans (by2.mono bx.size), ?_⟩)
      exact t201 g6 _ (bx.trans (by2.mono bx.size)) l6 ((by2.block g6 (Array.getElem?_eq_some_iff.1 h6).1).trans h6)
    · refine wpOp_value (o := op4 p4) rfl rfl _ (run_alloc40 x _ rfl _) ⟨bx.alloc bx.size _, ?_⟩
      exact t111 (x.heap.size) g6 _ (bx.alloc bx.size _) (by have := (Array.getElem?_eq_some_iff.1 h6).1; omega) bx.size (heap_alloc_new x _) l6 ((Below.heap_alloc x _ g6 (Array.getElem?_eq_some_iff.1 h6).1).trans h6)
  have t100 : ∀ (x : World), Below w.heap.size w x → wpAnyH Try.prog .any (ops2 p0 p1 p2 p3 p4 p5 p6 p7) (NoPanic Q) (fun w' => Below w.heap.size w w') 5 #[true, true, true, false, false, false, false, false] (ac2 u0 u1 u2 (.pointer (some ⟨g3, 0, none⟩)) (.pointer (some ⟨g4, 0, none⟩)) u9 u10 u11 u12 u13 undef undef (.agg cL) (.agg aL) (.agg cH) undef) x := by
    intro x bx
    refine wpAnyH_all (rs := [3, 4, 5]) (by kernel_rfl) (by simp) ?_
    intro i hi
    have hi2 : i = 3 ∨ i = 4 ∨ i = 5 := by simpa using hi
    rcases hi2 with rfl | rfl | rfl
    · refine wpOp_call (o := op3 p3) rfl rfl 58 #[.agg cH] (.agg aH) (run_call1 58 call27 x _ _ _ rfl _ _ rfl) (c2 x) (fun y by2 => ⟨bx.trans (by2.mono bx.size), ?_⟩)
      exact t200  _ (bx.trans (by2.mono bx.size))
    · refine wpOp_value (o := op4 p4) rfl rfl _ (run_alloc40 x _ rfl _) ⟨bx.alloc bx.size _, ?_⟩
      exact t110 (x.heap.size) _ (bx.alloc bx.size _) bx.size (heap_alloc_new x _)
    · refine wpOp_value (o := op5 p5) rfl rfl _ (run_alloc40 x _ rfl _) ⟨bx.alloc bx.size _, ?_⟩
      exact t101 (x.heap.size) _ (bx.alloc bx.size _) bx.size (heap_alloc_new x _)
  have t011 : ∀ (g5 : Nat) (g6 : Nat) (x : World), Below w.heap.size w x → g5 ≠ g6 → w.heap.size ≤ g5 → x.heap[g5]? = some (.cells zero14 65) → w.heap.size ≤ g6 → x.heap[g6]? = some (.cells zero14 65) → wpAnyH Try.prog .any (ops2 p0 p1 p2 p3 p4 p5 p6 p7) (NoPanic Q) (fun w' => Below w.heap.size w w') 4 #[true, false, true, false, true, true, false, false] (ac2 u0 u1 u2 (.pointer (some ⟨g3, 0, none⟩)) (.pointer (some ⟨g4, 0, none⟩)) u9 u10 u11 u12 u13 (.pointer (some ⟨g5, 0, none⟩)) (.pointer (some ⟨g6, 0, none⟩)) (.agg cL) undef (.agg cH) undef) x := by
    intro g5 g6 x bx ne l5 h5 l6 h6
    refine wpAnyH_all (rs := [1]) (by kernel_rfl) (by simp) ?_
    intro i hi
    obtain rfl : i = 1 := by simpa using hi
    refine wpOp_call (o := op1 p1) rfl rfl 58 #[.agg cL] (.agg aL) (run_call1 58 call27 x _ _ _ rfl _ _ rfl) (c1 x) (fun y by2 => ⟨bx.trans (by2.mono bx.size), ?_⟩)
    exact t111 g5 g6 _ (bx.trans (by2.mono bx.size)) ne l5 ((by2.block g5 (Array.getElem?_eq_some_iff.1 h5).1).trans h5) l6 ((by2.block g6 (Array.getElem?_eq_some_iff.1 h6).1).trans h6)
  have t010 : ∀ (g5 : Nat) (x : World), Below w.heap.size w x → w.heap.size ≤ g5 → x.heap[g5]? = some (.cells zero14 65) → wpAnyH Try.prog .any (ops2 p0 p1 p2 p3 p4 p5 p6 p7) (NoPanic Q) (fun w' => Below w.heap.size w w') 5 #[true, false, true, false, true, false, false, false] (ac2 u0 u1 u2 (.pointer (some ⟨g3, 0, none⟩)) (.pointer (some ⟨g4, 0, none⟩)) u9 u10 u11 u12 u13 (.pointer (some ⟨g5, 0, none⟩)) undef (.agg cL) undef (.agg cH) undef) x := by
    intro g5 x bx l5 h5
    refine wpAnyH_all (rs := [1, 5]) (by kernel_rfl) (by simp) ?_
    intro i hi
    have hi2 : i = 1 ∨ i = 5 := by simpa using hi
    rcases hi2 with rfl | rfl
    · refine wpOp_call (o := op1 p1) rfl rfl 58 #[.agg cL] (.agg aL) (run_call1 58 call27 x _ _ _ rfl _ _ rfl) (c1 x) (fun y by2 => ⟨bx.trans (by2.mono bx.size), ?_⟩)
      exact t110 g5 _ (bx.trans (by2.mono bx.size)) l5 ((by2.block g5 (Array.getElem?_eq_some_iff.1 h5).1).trans h5)
    · refine wpOp_value (o := op5 p5) rfl rfl _ (run_alloc40 x _ rfl _) ⟨bx.alloc bx.size _, ?_⟩
      exact t011 g5 (x.heap.size) _ (bx.alloc bx.size _) (by have := (Array.getElem?_eq_some_iff.1 h5).1; omega) l5 ((Below.heap_alloc x _ g5 (Array.getElem?_eq_some_iff.1 h5).1).trans h5) bx.size (heap_alloc_new x _)
  have t001 : ∀ (g6 : Nat) (x : World), Below w.heap.size w x → w.heap.size ≤ g6 → x.heap[g6]? = some (.cells zero14 65) → wpAnyH Try.prog .any (ops2 p0 p1 p2 p3 p4 p5 p6 p7) (NoPanic Q) (fun w' => Below w.heap.size w w') 5 #[true, false, true, false, false, true, false, false] (ac2 u0 u1 u2 (.pointer (some ⟨g3, 0, none⟩)) (.pointer (some ⟨g4, 0, none⟩)) u9 u10 u11 u12 u13 undef (.pointer (some ⟨g6, 0, none⟩)) (.agg cL) undef (.agg cH) undef) x := by
    intro g6 x bx l6 h6
    refine wpAnyH_all (rs := [1, 4]) (by kernel_rfl) (by simp) ?_
    intro i hi
    have hi2 : i = 1 ∨ i = 4 := by simpa using hi
    rcases hi2 with rfl | rfl
    · refine wpOp_call (o := op1 p1) rfl rfl 58 #[.agg cL] (.agg aL) (run_call1 58 call27 x _ _ _ rfl _ _ rfl) (c1 x) (fun y by2 => ⟨bx.trans (by2.mono bx.size), ?_⟩)
      exact t101 g6 _ (bx.trans (by2.mono bx.size)) l6 ((by2.block g6 (Array.getElem?_eq_some_iff.1 h6).1).trans h6)
    · refine wpOp_value (o := op4 p4) rfl rfl _ (run_alloc40 x _ rfl _) ⟨bx.alloc bx.size _, ?_⟩
      exact t011 (x.heap.size) g6 _ (bx.alloc bx.size _) (by have := (Array.getElem?_eq_some_iff.1 h6).1; omega) bx.size (heap_alloc_new x _) l6 ((Below.heap_alloc x _ g6 (Array.getElem?_eq_some_iff.1 h6).1).trans h6)
  have t000 : ∀ (x : World), Below w.heap.size w x → wpAnyH Try.prog .any (ops2 p0 p1 p2 p3 p4 p5 p6 p7) (NoPanic Q) (fun w' => Below w.heap.size w w') 6 #[true, false, true, false, false, false, false, false] (ac2 u0 u1 u2 (.pointer (some ⟨g3, 0, none⟩)) (.pointer (some ⟨g4, 0, none⟩)) u9 u10 u11 u12 u13 undef undef (.agg cL) undef (.agg cH) undef) x := by
    intro x bx
    refine wpAnyH_all (rs := [1, 4, 5]) (by kernel_rfl) (by simp) ?_
    intro i hi
    have hi2 : i = 1 ∨ i = 4 ∨ i = 5 := by simpa using hi
    rcases hi2 with rfl | rfl | rfl
    · refine wpOp_call (o := op1 p1) rfl rfl 58 #[.agg cL] (.agg aL) (run_call1 58 call27 x _ _ _ rfl _ _ rfl) (c1 x) (fun y by2 => ⟨bx.trans (by2.mono bx.size), ?_⟩)
      exact t100  _ (bx.trans (by2.mono bx.size))
    · refine wpOp_value (o := op4 p4) rfl rfl _ (run_alloc40 x _ rfl _) ⟨bx.alloc bx.size _, ?_⟩
      exact t010 (x.heap.size) _ (bx.alloc bx.size _) bx.size (heap_alloc_new x _)
    · refine wpOp_value (o := op5 p5) rfl rfl _ (run_alloc40 x _ rfl _) ⟨bx.alloc bx.size _, ?_⟩
      exact t001 (x.heap.size) _ (bx.alloc bx.size _) bx.size (heap_alloc_new x _)
  refine wp_region_held (S := fun w' => Below w.heap.size w w') (by kernel_rfl) ?_
  refine wpAnyH_take (i := 0) (v := .agg cL) rfl (by kernel_rfl) (by kernel_rfl) (by kernel_rfl) (fun c a w => hQ c a _ _ w) (.inl ⟨rfl, fun w' hS => run_load24 w' g3 cL ((hS.block g3 b3).trans hg3) sL _ _ rfl _ rfl⟩) (Below.refl _ w).drew ?_
  refine wpAnyH_take (i := 2) (v := .agg cH) rfl (by kernel_rfl) (by kernel_rfl) (by kernel_rfl) (fun c a w => hQ c a _ _ w) (.inl ⟨rfl, fun w' hS => run_load24 w' g4 cH ((hS.block g4 b4).trans hg4) sH _ _ rfl _ rfl⟩) (Below.refl _ w).drew ?_
  exact t000 _ (Below.refl _ w).drew
end Go.Proofs.Ytmcmiojidgdjpaa
namespace Go.Proofs.Ytmcmiojidgdjpaa
open Go.RowKit

/-- Whom it goes from, goes to and, as a Redirect, names are unlike. -/
def ndsB (m : Mg) : Bool := decide (¬ (m.kd = 4 ∧ (m.no = m.fr ∨ m.no = m.tw)) ∧ m.fr ≠ m.tw)
set_option maxRecDepth 100000 in
set_option maxHeartbeats 1000000 in
theorem nodesRight_any (m : Mg) (p t : Value) (w : World) : Calls Try.prog 45 #[mv m p t] w fun e w' => e = .returned (.bool (ndsB m)) ∧ Below w.heap.size w w' := by
  unfold mv
  by_cases h4 : m.kd = 4
  · have d4 : (m.kd == 4) = true := by simp [h4]
    by_cases ha : m.no = m.fr
    · have da : (m.no == m.fr) = true := by simp [ha]
      have hr : ndsB m = false := decide_eq_false (fun q => q.1 ⟨h4, .inl ha⟩)
      rw [hr]
      clear h4 ha hr
      generalize m.kd = x1 at *
      generalize m.no = x2 at *
      generalize m.fr = x3 at *
      go_enter Try.func45, Try.ntmps45
      go_wp2
      go_ret
      exact ⟨rfl, (Below.refl _ _).alloc (Nat.le_refl _) _⟩
    · have da : (m.no == m.fr) = false := by simp [ha]
      by_cases hb : m.no = m.tw
      · have db : (m.no == m.tw) = true := by simp [hb]
        have hr : ndsB m = false := decide_eq_false (fun q => q.1 ⟨h4, .inr hb⟩)
        rw [hr]
        clear h4 ha hb hr
        generalize m.kd = x1 at *
        generalize m.no = x2 at *
        generalize m.fr = x3 at *
        generalize m.tw = x4 at *
        go_enter Try.func45, Try.ntmps45
        go_wp2
        go_ret
        exact ⟨rfl, (Below.refl _ _).alloc (Nat.le_refl _) _⟩
      · have db : (m.no == m.tw) = false := by simp [hb]
        have hr : ndsB m = (m.fr != m.tw) := by
          by_cases e : m.fr = m.tw
          · rw [ndsB, decide_eq_false (fun q => q.2 e)]; simp [e]
          · rw [ndsB, decide_eq_true ⟨fun q => by rcases q.2 with q | q; exact ha q; exact hb q, e⟩]; simp [e]
        rw [hr]
        clear h4 ha hb hr
        generalize m.kd = x1 at *
        generalize m.no = x2 at *
        generalize m.fr = x3 at *
        generalize m.tw = x4 at *
        go_enter Try.func45, Try.ntmps45
        go_wp2
        go_ret
        exact ⟨rfl, (Below.refl _ _).alloc (Nat.le_refl _) _⟩
  · have d4 : (m.kd == 4) = false := by simp [h4]
    have hr : ndsB m = (m.fr != m.tw) := by
      by_cases e : m.fr = m.tw
      · rw [ndsB, decide_eq_false (fun q => q.2 e)]; simp [e]
      · rw [ndsB, decide_eq_true ⟨fun q => h4 q.1, e⟩]; simp [e]
    rw [hr]
    clear h4 hr
    generalize m.kd = x1 at *
    generalize m.fr = x3 at *
    generalize m.tw = x4 at *
    go_enter Try.func45, Try.ntmps45
    go_wp2
    go_ret
    exact ⟨rfl, (Below.refl _ _).alloc (Nat.le_refl _) _⟩
end Go.Proofs.Ytmcmiojidgdjpaa
