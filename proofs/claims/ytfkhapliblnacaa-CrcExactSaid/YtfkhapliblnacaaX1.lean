/- Walks of the page's Crc and Seal; keep.Bytes of what differs. -/
import Derived.Test.YtfkhapliblnacaaK2
namespace Go.Proofs.Ytfkhapliblnacaa
open Go.RowKit

set_option maxRecDepth 100000 in
theorem refCrc_is (D : Nat → Nat) (v : Value) (n : Nat) (w : World) (hv : Bs w v n D) (hD : ∀ i, i < n → D i < 256) :
    Calls Try.prog 10 #[v] w fun e w' => e = .returned (.int .i64 ((sumN D n : Nat) : Int)) ∧ w' = w := by
  obtain ⟨p, cap, rfl, hc1, hc2⟩ := Sl.shape hv
  unfold maxLen at hc2
  have HV := hide hv
  have HD := hide hD
  clear hv hD
  go_enter Try.func10, Try.ntmps10
  go_wp2
  go_loopw [3, 4] (fun xr xi w1 => ∃ k : Nat, k ≤ n ∧ xi = .int .i64 k ∧ xr = .int .u32 ((crc 4294967295 D k : Nat) : Int) ∧ w1 = w) (fun _ i _ => n - (intOf i).toNat)
  case atStart => exact ⟨0, by omega, rfl, rfl, rfl⟩
  case round =>
    obtain ⟨k, hk, rfl, rfl, hw⟩ := hrel
    obtain rfl := hw.symm
    have hR : crc 4294967295 D k < 4294967296 := crc_lt (by decide) k fun i hi => unhide HD i (by omega)
    by_cases hlt : k < n
    · obtain ⟨b, off, rfl, _, hcell⟩ := Sl.some (unhide HV) (by omega)
      have hc := hcell k hlt
      have hx := unhide HD k hlt
      have hN : crc 4294967295 D (k + 1) = stk 8 (crc 4294967295 D k ^^^ D k) := rfl
      have HN := hide hN
      clear hN hcell
      generalize D k = x at *
      generalize crc 4294967295 D k = R at *
      have hxor := u32_xor_nat R x hR (by omega)
      have hl := xor_lt hR (show x < 4294967296 by omega)
      generalize R ^^^ x = r at *
      go_wp2
      go_loopw [3, 5] (fun xr xi w1 => ∃ j : Nat, j ≤ 8 ∧ xi = .int .i64 j ∧ xr = .int .u32 ((stk j r : Nat) : Int) ∧ w1 = w) (fun _ i _ => 8 - (intOf i).toNat)
      case atStart => exact ⟨0, by omega, rfl, rfl, rfl⟩
      case round =>
        obtain ⟨j, hj, rfl, rfl, hw2⟩ := hrel
        obtain rfl := hw2.symm
        by_cases hlt2 : j < 8
        · have hq := stk_lt hl j
          have hN : stk (j + 1) r = st (stk j r) := rfl
          have HN2 := hide hN
          clear hN
          generalize stk j r = Q at *
          have hx2 : bits .xor .u32 ((Q : Int) / 2) 3988292384 = ((Q / 2 ^^^ 3988292384 : Nat) : Int) := u32_xor_nat (Q / 2) 3988292384 (by omega) (by decide)
          by_cases hb : Q % 2 = 1
          · have hb' : (Q : Int) % 2 = 1 := by omega
            go_wp2
            go_roundw
            case rel => exact ⟨j + 1, by omega, by go_num, by rw [unhide HN2, st, if_pos hb], trivial⟩
            case measure => simp [intOf]; omega
          · have hb' : (Q : Int) % 2 = 0 := by omega
            go_wp2
            go_roundw
            case rel => exact ⟨j + 1, by omega, by go_num, by rw [unhide HN2, st, if_neg hb]; rfl, trivial⟩
            case measure => simp [intOf]; omega
        · obtain rfl : j = 8 := by omega
          go_wp2
          go_roundw
          case rel => exact ⟨k + 1, by omega, by go_num, by rw [unhide HN], trivial⟩
          case measure => simp [intOf]; omega
    · obtain rfl : n = k := by omega
      have hS : sumN D n = crc 4294967295 D n ^^^ 4294967295 := rfl
      have HS := hide hS
      clear hS
      have hl := xor_lt hR (show 4294967295 < 4294967296 by decide)
      have hxor : bits .xor .u32 IntKind.u32.max ((crc 4294967295 D n : Nat) : Int) = ((crc 4294967295 D n ^^^ 4294967295 : Nat) : Int) := by
        rw [Nat.xor_comm]
        exact u32_xor_nat 4294967295 _ (by decide) hR
      generalize crc 4294967295 D n = R at *
      generalize R ^^^ 4294967295 = X at *
      have hwr : wrap64 (X : Int) = X := by unfold wrap64; omega
      go_wp2
      go_ret
      exact ⟨by rw [unhide HS]; rfl, rfl⟩
theorem refSeal_is (D : Nat → Nat) (v : Value) (n : Nat) (w : World) (hv : Bs w v n D) (hD : ∀ i, i < n → D i < 256) (hn : n ≤ 100000) :
    Calls Try.prog 13 #[v] w fun e w' => ∃ v', e = .returned v' ∧ w'.ownsRow w.heap.size 5 1 v' (n + 4) (bL (sealD D n (sumN D n)) (n + 4)) ∧ Below w.heap.size w w' := by
  obtain ⟨i, hi, hz0, hz1, hz2⟩ := info_parts info5
  have hS := sumN_lt hD
  have c1 := hide (refCrc_is D v n w hv hD)
  have c2 := hide (twin_any _ v n w hv (by omega))
  have hE : bL (sealD D n (sumN D n)) n = vL .u8 (fun i => (D i : Int)) n := vL_congr fun j hj => by rw [sealD_ahead _ _ _ _ hj]
  have HE := hide hE
  have hN : ∀ k, bL (sealD D n (sumN D n)) (n + k) ++ [.int .u8 ((sumN D n / 2 ^ (8 * k) % 256 : Nat) : Int)] = bL (sealD D n (sumN D n)) (n + (k + 1)) := by
    intro k
    rw [← Nat.add_assoc, bL, bL, vL_succ]
    congr 3
    unfold sealD
    rw [if_neg (by omega), Nat.add_sub_cancel_left]
  have HN := hide hN
  clear hv hD hE hN
  generalize hF : sealD D n (sumN D n) = F at *
  clear hF
  generalize sumN D n = S at *
  go_enter Try.func13, Try.ntmps13
  go_wp2_with (first
    | (go_at_call 10; refine (unhide c1).mono ?_; rintro e w1 ⟨rfl, hw⟩; obtain rfl := hw.symm)
    | (go_at_call 6; refine (unhide c2).mono ?_; rintro e w1 ⟨v1, rfl, hown, hbel⟩; rw [← unhide HE] at hown))
  go_loopw [3, 4, 5] (fun xs xo xi w2 => ∃ k : Nat, k ≤ 4 ∧ xi = .int .i64 k ∧ xs = .int .i64 ((S / 2 ^ (8 * k) : Nat) : Int) ∧ w2.ownsRow w.heap.size 5 1 xo (n + k) (bL F (n + k)) ∧ Below w.heap.size w w2) (fun _ _ i _ => 4 - (intOf i).toNat)
  case atStart => exact ⟨0, by omega, rfl, by simp, hown, hbel⟩
  case round =>
    clear hown hbel
    obtain ⟨k, hk, rfl, rfl, hown, hbel⟩ := hrel
    by_cases hlt : k < 4
    · have hx : S / 2 ^ (8 * k) ≤ S := Nat.div_le_self _ _
      have hnew := unhide HN k
      have hd : S / 2 ^ (8 * k) / 256 = S / 2 ^ (8 * (k + 1)) := by
        rw [Nat.div_div_eq_div_mul, show 8 * (k + 1) = 8 * k + 8 by omega, Nat.pow_add]
      have HD2 := hide hd
      have HN2 := hide hnew
      clear hd hnew
      generalize S / 2 ^ (8 * k) = y at *
      go_wp2_with (at_builtin; refine wpList_append_own _ rfl (.tmp 14) (.tmp 18) 22 rfl w.heap.size 5 i (.int .u8 0) 1 1 Try.underlying22 hi hz0 hz1 hz2 rfl (by decide) _ (n + k) (bL F (n + k)) rfl (hown.alloc _) ⟨wr.heap.size, 0, none⟩ 1 1 [.int .u8 ((y % 256 : Nat) : Int)] rfl rfl ?_ ?_ (by unfold maxLen; omega) (by omega) (by have := hbel.size; simp; omega) ?_)
      · exact cells_lit wr [.int .u8 ((y % 256 : Nat) : Int)] 5
      · intro u hu
        simp at hu
        subst hu
        rfl
      · intro v2 w2 hown2 hgrow2 _
        rw [show bL F (n + k) ++ [Value.int .u8 ((y : Int) % 256)] = bL F (n + (k + 1)) from unhide HN2] at hown2
        go_wp2
        go_roundw
        case rel => exact ⟨k + 1, by omega, by go_num, by rw [← unhide HD2]; rfl, hown2, (hbel.alloc hbel.size _).grown hgrow2 (by have := hbel.size; simp; omega) (fun b hb => (hown.lt b hb).1)⟩
        case measure => simp [intOf]; omega
    · obtain rfl : k = 4 := by omega
      go_wp2
      go_ret
      exact ⟨_, rfl, hown, hbel⟩
set_option maxRecDepth 100000 in
/-- keep.Bytes of two that differ at j first. -/
theorem bytes_d (F G : Nat → Int) (va vb : Value) (n j : Nat) (w : World) (ha : Sl .u8 w va n F) (hb : Sl .u8 w vb n G) (hj : j < n) (he : ∀ i, i < j → F i = G i) (hne : F j ≠ G j) :
    Calls Try.prog 11 #[va, vb] w fun e w' => e = .returned (.bool false) ∧ ∃ m, w' = w.drewN m := by
  obtain ⟨pa, ca, rfl, la, ka⟩ := ha.shape
  obtain ⟨pb, cb, rfl, lb, kb⟩ := hb.shape
  unfold maxLen at ka kb
  obtain ⟨ba, oa, rfl, _, hca⟩ := ha.some (by omega)
  obtain ⟨bb, ob, rfl, _, hcb⟩ := hb.some (by omega)
  have HA := hide hca
  have HB := hide hcb
  have HE := hide he
  clear ha hb hca hcb he
  go_enter Try.func11, Try.ntmps11
  go_wp2
  go_loopw [5] (fun xi w1 => ∃ k : Nat, k ≤ j ∧ xi = .int .i64 k ∧ ∃ m, w1 = w.drewN m) (fun i _ => n - (intOf i).toNat)
  case atStart => exact ⟨0, by omega, rfl, 0, rfl⟩
  case round =>
    obtain ⟨k, hk, rfl, m, hW⟩ := hrel
    have c1 : wr.cell? ⟨ba, oa + k, none⟩ = some (.int .u8 (F k)) := by rw [hW]; exact unhide HA k (by omega)
    have c2 : wr.cell? ⟨bb, ob + k, none⟩ = some (.int .u8 (G k)) := by rw [hW]; exact unhide HB k (by omega)
    have HW := hide hW
    clear hW
    by_cases hlt : k < j
    · rw [unhide HE k hlt] at c1
      go_wp2
      go_quiet (fail)
      go_wp2
      go_roundw
      case rel => exact ⟨k + 1, by omega, by go_num, m + nq, by rw [unhide HW, World.drewN_drewN]⟩
      case measure => simp [intOf]; omega
    · obtain rfl : j = k := by omega
      have d : (F j != G j) = true := by simpa using hne
      clear hne
      generalize F j = f at *
      generalize G j = g at *
      go_wp2
      go_quiet (fail)
      go_wp2
      go_ret
      exact ⟨rfl, m + nq, by rw [unhide HW, World.drewN_drewN]⟩
end Go.Proofs.Ytfkhapliblnacaa
