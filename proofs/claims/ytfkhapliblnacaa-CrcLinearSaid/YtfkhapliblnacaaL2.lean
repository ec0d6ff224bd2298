/- Walk of CrcLinear, of some bytes. -/
import Derived.Test.YtfkhapliblnacaaL1
namespace Go.Proofs.Ytfkhapliblnacaa
open Go.RowKit

set_option maxRecDepth 100000 in
set_option maxHeartbeats 1000000 in
theorem lin_some (A B C : Nat → Nat) (ba oa bb ob bc oc : Nat) (la lb lc ca cb cc n : Nat) (w : World) (ha : Bs w (.slice (some ⟨ba, oa, none⟩) la ca) la A) (hb : Bs w (.slice (some ⟨bb, ob, none⟩) lb cb) lb B) (hc : Bs w (.slice (some ⟨bc, oc, none⟩) lc cc) lc C)
    (hA : ∀ i, i < la → A i < 256) (hB : ∀ i, i < lb → B i < 256) (hC : ∀ i, i < lc → C i < 256) (hn : n = min (min la lb) lc) (h0 : 0 < n) (h400 : n ≤ 400) :
    Calls Try.prog 5 #[.slice (some ⟨ba, oa, none⟩) la ca, .slice (some ⟨bb, ob, none⟩) lb cb, .slice (some ⟨bc, oc, none⟩) lc cc] w fun e w' => e = .returned (.bool true) ∧ Below w.heap.size w w' := by
  obtain ⟨i, hi, hz0, hz1, hz2⟩ := info_parts info5
  have hmin := run_min3 la lb lc n hn
  have na : n ≤ la := by omega
  have nb : n ≤ lb := by omega
  have nc : n ≤ lc := by omega
  obtain ⟨_, _, ea, pa1, pa2⟩ := Sl.shape ha
  cases ea
  obtain ⟨_, _, eb, pb1, pb2⟩ := Sl.shape hb
  cases eb
  obtain ⟨_, _, ec, pc1, pc2⟩ := Sl.shape hc
  cases ec
  unfold maxLen at pa2 pb2 pc2
  have sa : Bs w (.slice (some ⟨ba, oa, none⟩) n ca) n A := Sl.take ha (by omega) na
  have sb : Bs w (.slice (some ⟨bb, ob, none⟩) n cb) n B := Sl.take hb (by omega) nb
  have sc : Bs w (.slice (some ⟨bc, oc, none⟩) n cc) n C := Sl.take hc (by omega) nc
  have hA' : ∀ i, i < n → A i < 256 := fun i hi => hA i (by omega)
  have hB' : ∀ i, i < n → B i < 256 := fun i hi => hB i (by omega)
  have hC' : ∀ i, i < n → C i < 256 := fun i hi => hC i (by omega)
  have cA : Hid (∀ w', Below w.heap.size w w' → Calls Try.prog 9 #[.slice (some ⟨ba, oa, none⟩) n ca] w' fun e w2 => e = .returned (.int .i64 ((sumN A n : Nat) : Int)) ∧ w2 = w') := hide fun w' h => sum_is A _ n w' (Sl.below sa h (Nat.le_refl _)) hA'
  have cB : Hid (∀ w', Below w.heap.size w w' → Calls Try.prog 9 #[.slice (some ⟨bb, ob, none⟩) n cb] w' fun e w2 => e = .returned (.int .i64 ((sumN B n : Nat) : Int)) ∧ w2 = w') := hide fun w' h => sum_is B _ n w' (Sl.below sb h (Nat.le_refl _)) hB'
  have cC : Hid (∀ w', Below w.heap.size w w' → Calls Try.prog 9 #[.slice (some ⟨bc, oc, none⟩) n cc] w' fun e w2 => e = .returned (.int .i64 ((sumN C n : Nat) : Int)) ∧ w2 = w') := hide fun w' h => sum_is C _ n w' (Sl.below sc h (Nat.le_refl _)) hC'
  have cD : Hid (∀ v w', w'.ownsRow w.heap.size 5 1 v n (bL (x3D A B C n) n) → Calls Try.prog 9 #[v] w' fun e w2 => e = .returned (.int .i64 ((sumN A n ^^^ sumN B n ^^^ sumN C n : Nat) : Int)) ∧ w2 = w') := by
    refine hide fun v w' h => ?_
    rw [← x3_sum]
    refine sum_is _ v n w' (bs_of_owns h) fun i hi => ?_
    rw [x3D, if_pos hi]
    exact Nat.xor_lt_two_pow (n := 8) (Nat.xor_lt_two_pow (n := 8) (hA' i hi) (hB' i hi)) (hC' i hi)
  have lA := sumN_lt hA'
  have lB := sumN_lt hB'
  have lC := sumN_lt hC'
  obtain ⟨_, _, ea, ha1, ha2⟩ := Sl.some sa h0
  cases ea
  obtain ⟨_, _, eb, hb1, hb2⟩ := Sl.some sb h0
  cases eb
  obtain ⟨_, _, ec, hc1, hc2⟩ := Sl.some sc h0
  cases ec
  have HA := hide ha2
  have HB := hide hb2
  have HC := hide hc2
  have KA := hide hA'
  have KB := hide hB'
  have KC := hide hC'
  have HS := hide (fun k h => x3D_set A B C k n h)
  have H0 := hide (x3D_start A B C n)
  clear ha hb hc hA hB hC sa sb sc hA' hB' hC' ha2 hb2 hc2
  have x1 := i64_xor _ _ lA lB
  have x2 := i64_xor _ _ (xor_lt lA lB) lC
  have l3 := xor_lt (xor_lt lA lB) lC
  generalize sumN A n = SA at *
  generalize sumN B n = SB at *
  generalize sumN C n = SC at *
  generalize SA ^^^ SB = SD at *
  generalize SD ^^^ SC = SE at *
  have d1 : decide ((400 : Int) < (n : Int)) = false := decide_eq_false (by omega)
  clear hn
  go_enter Try.func5, Try.ntmps5
  go_wp2_with (at_make; refine wpList_make_full _ rfl _ _ 22 rfl w.heap.size 5 i (.int .u8 0) 1 Try.underlying22 hi hz0 hz1 .i64 .i64 (n : Int) (n : Int) n rfl rfl rfl rfl (by rw [hz2]; omega) (by unfold maxLen; omega) (Nat.le_refl _) ?_)
  intro w1 hown hgrow
  have hbel : Below w.heap.size w w1 := (Below.refl _ _).grown hgrow (Nat.le_refl _) (by intro k h; cases h)
  have he : (madeCells #[Value.int .u8 0] n).toList = bL (x3D A B C 0) n := by
    rw [← unhide H0]
    exact toList_madeCells_one _ _
  rw [he] at hown
  clear hgrow he H0
  go_wp2
  go_loopw [9] (fun xi w2 => ∃ k : Nat, k ≤ n ∧ xi = .int .i64 k ∧ w2.ownsRow w.heap.size 5 1 (.slice (some ⟨w.heap.size, 0, none⟩) n n) n (bL (x3D A B C k) n) ∧ Below w.heap.size w w2) (fun i _ => n - (intOf i).toNat)
  case atStart => exact ⟨0, by omega, rfl, hown, hbel⟩
  case round =>
    clear hown hbel
    obtain ⟨k, hk, rfl, hown, hbel⟩ := hrel
    by_cases hlt : k < n
    · have hset := unhide HS k hlt
      have ka := unhide KA k hlt
      have kb := unhide KB k hlt
      have kc := unhide KC k hlt
      have e1 := u8_xor_nat _ _ ka kb
      have e2 := u8_xor_nat _ _ (Nat.xor_lt_two_pow (n := 8) ka kb) kc
      have qa : wr.cell? ⟨ba, oa + k, none⟩ = some (.int .u8 ((A k : Nat) : Int)) := (hbel.cell (p := ⟨ba, oa + k, none⟩) ha1).trans (unhide HA k hlt)
      have qb : wr.cell? ⟨bb, ob + k, none⟩ = some (.int .u8 ((B k : Nat) : Int)) := (hbel.cell (p := ⟨bb, ob + k, none⟩) hb1).trans (unhide HB k hlt)
      have qc : wr.cell? ⟨bc, oc + k, none⟩ = some (.int .u8 ((C k : Nat) : Int)) := (hbel.cell (p := ⟨bc, oc + k, none⟩) hc1).trans (unhide HC k hlt)
      have hst := hown.stored k (.int .u8 ((A k ^^^ B k ^^^ C k : Nat) : Int))
      rw [hset] at hst
      have hst2 : Below w.heap.size w (wr.setCell ⟨w.heap.size, k, none⟩ (.int .u8 ((A k ^^^ B k ^^^ C k : Nat) : Int))) := hbel.grown hst.2 hbel.size (by intro k h; cases h; exact Nat.le_refl _)
      have hcell : wr.cell? ⟨w.heap.size, k, none⟩ = some (.int .u8 ((x3D A B C k k : Nat) : Int)) := by rw [hown.cellAt k (by omega), bL, vL_get _ _ _ _ (by omega)]
      have hf := hown.frozenAt k
      have ST := hide hst
      have ST2 := hide hst2
      clear hst hst2 hset hown hbel ka kb kc
      generalize A k = xa at *
      generalize B k = xb at *
      generalize C k = xc at *
      generalize xa ^^^ xb = xd at *
      generalize xd ^^^ xc = xe at *
      go_wp2
      go_region
      go_wp2
      go_roundw
      case rel => exact ⟨k + 1, by omega, by go_num, owns_below (unhide ST).1 (below_drewN (Below.refl _ _) 1), below_drewN (unhide ST2) 1⟩
      case measure => simp [intOf]; omega
    · obtain rfl : n = k := by omega
      have O1 := hide hown
      have B1 := hide hbel
      clear hown hbel
      go_wp2_with (go_at_call 9; refine (unhide cD _ _ (unhide O1)).mono ?_; rintro e w3 ⟨rfl, hw⟩; obtain rfl := hw.symm)
      have d2 : decide ((SE : Int) < 4294967296) = true := decide_eq_true (by omega)
      have hbel := unhide B1
      have i0 : (0 : Int) ≤ (n : Int) := by omega
      have i1 : (n : Int) ≤ (ca : Int) := by omega
      have i2 : (n : Int) ≤ (cb : Int) := by omega
      have i3 : (n : Int) ≤ (cc : Int) := by omega
      have i4 : n ≤ ca := by omega
      have i5 : n ≤ cb := by omega
      have i6 : n ≤ cc := by omega
      clear O1 cD HA HB HC KA KB KC HS
      go_region_held3 (fun w' => Below w.heap.size w w')
        (first
          | assumption
          | exact below_drewN (by assumption) _
          | exact below_drewN (by assumption) 1)
        (first
          | (go_at_call 9; with_reducible refine (unhide cA _ (by first | assumption | exact below_drewN (by assumption) _ | exact below_drewN (by assumption) 1)).mono ?_; rintro e w9 ⟨rfl, rfl⟩)
          | (go_at_call 9; with_reducible refine (unhide cB _ (by first | assumption | exact below_drewN (by assumption) _ | exact below_drewN (by assumption) 1)).mono ?_; rintro e w9 ⟨rfl, rfl⟩)
          | (go_at_call 9; with_reducible refine (unhide cC _ (by first | assumption | exact below_drewN (by assumption) _ | exact below_drewN (by assumption) 1)).mono ?_; rintro e w9 ⟨rfl, rfl⟩)
          | (go_at_call 14; refine (wakes_any _).mono ?_; rintro e w9 ⟨rfl, b9⟩; first | have b10 := below_of hbel b9 | have b10 := below_of (below_drewN hbel 1) b9 | have b10 := below_of (below_drewN hbel _) b9))
      go_wp2
      go_ret
      exact ⟨rfl, b10⟩
end Go.Proofs.Ytfkhapliblnacaa
