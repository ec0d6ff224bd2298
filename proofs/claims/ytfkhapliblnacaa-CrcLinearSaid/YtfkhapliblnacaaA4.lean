/- Walks of crc.Seal and crc.Open. -/
import Derived.Test.YtfkhapliblnacaaA3
namespace Go.Proofs.Ytfkhapliblnacaa
open Go.RowKit

/-- The bytes with the number S behind, the least byte first. -/
def sealD (D : Nat → Nat) (n S : Nat) (i : Nat) : Nat := if i < n then D i else S / 2 ^ (8 * (i - n)) % 256
theorem sealD_ahead (D : Nat → Nat) (n S i : Nat) (h : i < n) : sealD D n S i = D i := by unfold sealD; rw [if_pos h]
theorem sealD_lt (D : Nat → Nat) (n S i : Nat) (h : ∀ i, i < n → D i < 256) : sealD D n S i < 256 := by
  unfold sealD
  split
  · exact h i (by assumption)
  · omega
theorem le4_seal (D : Nat → Nat) (n S : Nat) (h : S < 4294967296) : le4 (sealD D n S) n = S := by
  unfold le4 sealD
  rw [if_neg (by omega), if_neg (by omega), if_neg (by omega), if_neg (by omega), Nat.sub_self, Nat.add_sub_cancel_left, Nat.add_sub_cancel_left, Nat.add_sub_cancel_left]
  simp only [Nat.mul_zero, Nat.pow_zero, Nat.div_one, Nat.mul_one, show 2 ^ 8 = 256 from rfl, show 2 ^ (8 * 2) = 65536 from rfl, show 2 ^ (8 * 3) = 16777216 from rfl]
  omega
theorem sum_seal (D : Nat → Nat) (n S : Nat) : sumN (sealD D n S) n = sumN D n := sumN_congr fun i hi => sealD_ahead D n S i hi
/-- The bytes, as values. -/
def bL (D : Nat → Nat) (n : Nat) : List Value := vL .u8 (fun i => (D i : Int)) n
theorem bs_of_owns {w : World} {B n : Nat} {v : Value} {D : Nat → Nat} (h : w.ownsRow B 5 1 v n (bL D n)) : Bs w v n D := sl_of_owns h

set_option maxRecDepth 100000 in
theorem seal_is (D : Nat → Nat) (v : Value) (n : Nat) (w : World) (hv : Bs w v n D) (hD : ∀ i, i < n → D i < 256) (hn : n ≤ 100000) :
    Calls Try.prog 12 #[v] w fun e w' => e = .returned (.slice (some ⟨w.heap.size, 0, none⟩) (n + 4) (n + 4)) ∧ w'.ownsRow w.heap.size 5 1 (.slice (some ⟨w.heap.size, 0, none⟩) (n + 4) (n + 4)) (n + 4) (bL (sealD D n (sumN D n)) (n + 4)) ∧ Below w.heap.size w w' := by
  obtain ⟨i, hi, hz0, hz1, hz2⟩ := info_parts info5
  have hS := sumN_lt hD
  have c : Hid (∀ w1, Below w.heap.size w w1 → Calls Try.prog 9 #[v] w1 fun e w' => e = .returned (.int .i64 ((sumN D n : Nat) : Int)) ∧ w' = w1) := hide fun w1 hb => sum_is D v n w1 (Sl.below hv hb (Nat.le_refl _)) hD
  obtain ⟨p, cap, rfl, hc1, hc2⟩ := Sl.shape hv
  unfold maxLen at hc2
  have HV := hide hv
  have hE : bL (sealD D n (sumN D n)) n = vL .u8 (fun i => (D i : Int)) n := vL_congr fun j hj => by rw [sealD_ahead _ _ _ _ hj]
  have HE := hide hE
  clear hv hD hE
  have hN : ∀ k, bL (sealD D n (sumN D n)) (n + k) ++ [.int .u8 ((sumN D n / 2 ^ (8 * k) % 256 : Nat) : Int)] = bL (sealD D n (sumN D n)) (n + (k + 1)) := by
    intro k
    rw [← Nat.add_assoc, bL, bL, vL_succ]
    congr 3
    unfold sealD
    rw [if_neg (by omega), Nat.add_sub_cancel_left]
  have HN := hide hN
  clear hN
  generalize hF : sealD D n (sumN D n) = F at *
  clear hF
  generalize sumN D n = S at *
  go_enter Try.func12, Try.ntmps12
  go_wp2_with (at_make; refine wpList_make_own _ rfl _ _ 22 rfl w.heap.size 5 i (.int .u8 0) 1 Try.underlying22 hi hz0 hz1 .i64 .i64 ((n : Int) + 4) (n + 4) rfl rfl (by omega) (by rw [hz2]; omega) (by unfold maxLen; omega) (Nat.le_refl _) ?_)
  intro w1 hown hgrow
  have hbel : Below w.heap.size w w1 := (Below.refl _ _).grown hgrow (Nat.le_refl _) (by intro k h; cases h)
  have hcs := Sl.cells (Sl.below (unhide HV) hbel (Nat.le_refl _))
  clear hgrow
  go_wp2_with (at_builtin; refine wpList_append_fits_any _ rfl (.tmp 9) (.tmp 10) 22 rfl w.heap.size 5 i 1 Try.underlying22 hi hz1 w.heap.size 0 (n + 4) [] rfl hown p n cap (vL .u8 (fun i => (D i : Int)) n) rfl (by rw [vL_length, Nat.mul_one]) hcs.1 hcs.2 (vL_one _ _ n) (by omega) ?_)
  intro w2 hown2 hgrow2
  have hbel2 : Below w.heap.size w w2 := hbel.grown hgrow2 hbel.size (by intro k h; cases h; exact Nat.le_refl _)
  rw [← unhide HE] at hown2
  clear hcs hgrow2 hown hbel
  have B2 := hide hbel2
  clear hbel2
  go_wp2_with (go_at_call 9; refine (unhide c _ (unhide B2)).mono ?_; rintro e w3 ⟨rfl, hw⟩; obtain rfl := hw.symm)
  go_loopw [3, 14] (fun xo xi w3 => ∃ k : Nat, k ≤ 4 ∧ xi = .int .i64 k ∧ xo = .slice (some ⟨w.heap.size, 0, none⟩) (n + k) (n + 4) ∧ w3.ownsRow w.heap.size 5 1 xo (n + k) (bL F (n + k)) ∧ Below w.heap.size w w3) (fun _ i _ => 4 - (intOf i).toNat)
  case atStart => exact ⟨0, by omega, rfl, rfl, hown2, unhide B2⟩
  case round =>
    clear hown2 B2
    obtain ⟨k, hk, rfl, rfl, hown, hbel⟩ := hrel
    by_cases hlt : k < 4
    · have e2 : min (8 * (k : Int)).toNat 64 = 8 * k := by omega
      have hx : S / 2 ^ (8 * k) ≤ S := Nat.div_le_self _ _
      have e3 : ((S : Int) / 2 ^ (8 * k)) % 256 = ((S / 2 ^ (8 * k) % 256 : Nat) : Int) := by
        rw [Int.natCast_emod, Int.natCast_ediv, Int.natCast_pow]; rfl
      have hnew := unhide HN k
      generalize S / 2 ^ (8 * k) % 256 = x at *
      have HN2 := hide hnew
      clear hnew hx
      go_wp2_with (at_builtin; refine wpList_append_fits _ rfl (.tmp 17) (.tmp 23) 22 rfl w.heap.size 5 i 1 Try.underlying22 hi hz1 w.heap.size (n + k) (n + 4) (bL F (n + k)) rfl (hown.alloc _) ⟨wr.heap.size, 0, none⟩ 1 1 [.int .u8 (x : Int)] rfl rfl ?_ ?_ (by omega) ?_)
      · exact cells_lit wr [.int .u8 (x : Int)] 5
      · intro u hu
        simp at hu
        subst hu
        rfl
      · intro w2 hown2 hgrow2
        rw [unhide HN2] at hown2
        go_wp2
        go_roundw
        case rel => exact ⟨k + 1, by omega, by go_num, rfl, hown2, (hbel.alloc hbel.size _).grown hgrow2 (by simp; have := hbel.size; omega) (by intro k h; cases h; exact Nat.le_refl _)⟩
        case measure => simp [intOf]; omega
    · obtain rfl : k = 4 := by omega
      go_wp2
      go_ret
      exact ⟨rfl, hown, hbel⟩
theorem open_short (p : Option Addr) (n cap : Nat) (hn : n < 4) (w : World) :
    Calls Try.prog 7 #[.slice p n cap] w fun e w' => e = .returned (.tuple #[.slice none 0 0, .int .i64 2]) ∧ w' = w := by
  have d : decide ((n : Int) < 4) = true := decide_eq_true (by omega)
  go_enter Try.func7, Try.ntmps7
  go_wp2
  go_ret2
  exact ⟨rfl, rfl⟩
set_option maxRecDepth 100000 in
theorem open_any (D : Nat → Nat) (v : Value) (n m : Nat) (w : World) (hv : Bs w v n D) (hD : ∀ i, i < n → D i < 256) (hn : n ≤ 100000) (hm : n = m + 4) :
    Calls Try.prog 7 #[v] w fun e w' => Below w.heap.size w w' ∧ ((sumN D m ≠ le4 D m ∧ e = .returned (.tuple #[.slice none 0 0, .int .i64 4])) ∨
      (sumN D m = le4 D m ∧ ∃ v', e = .returned (.tuple #[v', .int .i64 0]) ∧ w'.ownsRow w.heap.size 5 1 v' m (bL D m))) := by
  obtain ⟨i, hi, hz0, hz1, hz2⟩ := info_parts info5
  obtain ⟨p, cap, rfl, hc1, hc2⟩ := Sl.shape hv
  unfold maxLen at hc2
  obtain ⟨b, off, rfl, hb, hcell⟩ := Sl.some hv (by omega)
  have hT : Bs w (.slice (some ⟨b, off, none⟩) m cap) m D := .inr ⟨b, off, cap, rfl, by omega, hc2, hb, fun i h => hcell i (by omega)⟩
  have hR : Bs w (.slice (some ⟨b, off + m, none⟩) 4 (cap - m)) 4 (fun i => D (m + i)) := .inr ⟨b, off + m, cap - m, rfl, by omega, by unfold maxLen; omega, hb, fun i h => by rw [Nat.add_assoc]; exact hcell (m + i) (by omega)⟩
  have hl4 : le4 (fun i => D (m + i)) 0 = le4 D m := by unfold le4; simp only [Nat.zero_add, Nat.add_zero]
  have c1 := fun w1 (hb : Below w.heap.size w w1) => sum_is D _ m w1 (Sl.below hT hb (Nat.le_refl _)) (fun i hi => hD i (by omega))
  have c2 := fun w1 (hb : Below w.heap.size w w1) => read_is (fun i => D (m + i)) _ w1 (Sl.below hR hb (Nat.le_refl _)) (fun i hi => hD (m + i) (by omega))
  rw [hl4] at c2
  have C1 := hide c1
  have C2 := hide c2
  have HT := hide hT
  clear c1 c2 hl4 hT hR hcell hv hD
  have d : decide ((n : Int) < 4) = false := decide_eq_false (by omega)
  have e1 : (n : Int) - 4 = (m : Int) := by omega
  have e2 : n - m = 4 := by omega
  have e3 : ¬ cap = m := by omega
  have e4 : ¬ cap - m = 0 := by omega
  have e5 : m ≤ n := by omega
  have e6 : m ≤ cap := by omega
  have HM := hide hm
  clear hm
  unfold bL
  generalize sumN D m = S at *
  generalize le4 D m = L at *
  by_cases hSL : S = L
  · have d2 : ((S : Int) != (L : Int)) = false := by simp; omega
    go_enter Try.func7, Try.ntmps7
    go_wp2
    go_quiet (fail)
    obtain ⟨w1, hw1⟩ : ∃ x, x = w.drewN nq := ⟨_, rfl⟩
    have hb1 : Below w.heap.size w w1 := by rw [hw1]; exact below_drewN (Below.refl _ _) _
    rw [← hw1]
    clear hw1
    have B1 := hide hb1
    clear hb1
    go_wp2_with (first
      | (go_at_call 9; refine (unhide C1 _ (unhide B1)).mono ?_; rintro e w2 ⟨rfl, hw⟩; obtain rfl := hw.symm)
      | (go_at_call 15; refine (unhide C2 _ (unhide B1)).mono ?_; rintro e w2 ⟨rfl, hw⟩; obtain rfl := hw.symm)
      | (at_make; refine wpList_make_own _ rfl _ _ 22 rfl w.heap.size 5 i (.int .u8 0) 1 Try.underlying22 hi hz0 hz1 .i64 .i64 (m : Int) m rfl rfl (by omega) (by rw [hz2]; omega) (by unfold maxLen; omega) (unhide B1).size ?_))
    intro w3 hown hgrow
    have hbel : Below w.heap.size w w3 := (unhide B1).grown hgrow (unhide B1).size (by intro k h; cases h)
    have hcs := Sl.cells (Sl.below (unhide HT) hbel (Nat.le_refl _))
    clear hgrow
    have hb31 := hbel.size
    have e7 : w.heap.size ≤ w1.heap.size := (unhide B1).size
    go_wp2_with (at_builtin; refine wpList_append_fits_any _ rfl (.tmp 26) (.tmp 27) 22 rfl w.heap.size 5 i 1 Try.underlying22 hi hz1 w1.heap.size 0 m [] rfl hown (some ⟨b, off, none⟩) m cap (vL .u8 (fun i => (D i : Int)) m) rfl (by rw [vL_length, Nat.mul_one]) hcs.1 hcs.2 (vL_one _ _ m) (by omega) ?_)
    intro w4 hown2 hgrow2
    go_wp2
    go_ret2
    exact ⟨hbel.grown hgrow2 hbel.size (by intro k h; cases h; exact e7), .inr ⟨hSL, _, rfl, hown2⟩⟩
  · have d2 : ((S : Int) != (L : Int)) = true := by simp; omega
    go_enter Try.func7, Try.ntmps7
    go_wp2
    go_quiet (fail)
    obtain ⟨w1, hw1⟩ : ∃ x, x = w.drewN nq := ⟨_, rfl⟩
    have hb1 : Below w.heap.size w w1 := by rw [hw1]; exact below_drewN (Below.refl _ _) _
    rw [← hw1]
    clear hw1
    have B1 := hide hb1
    clear hb1
    go_wp2_with (first
      | (go_at_call 9; refine (unhide C1 _ (unhide B1)).mono ?_; rintro e w2 ⟨rfl, hw⟩; obtain rfl := hw.symm)
      | (go_at_call 15; refine (unhide C2 _ (unhide B1)).mono ?_; rintro e w2 ⟨rfl, hw⟩; obtain rfl := hw.symm))
    go_ret2
    exact ⟨unhide B1, .inl ⟨hSL, rfl⟩⟩
end Go.Proofs.Ytfkhapliblnacaa
