/- Walk of CrcBack. -/
import Derived.Test.YtfkhapliblnacaaK1
namespace Go.Proofs.Ytfkhapliblnacaa
open Go.RowKit
theorem owns_below {e : TypeId} {w w' : World} {B n : Nat} {v : Value} {L : List Value} (h : w.ownsRow B e 1 v n L) (hb : Below w.heap.size w w') : w'.ownsRow B e 1 v n L := by
  rcases h.2 with h2 | ⟨g, cap, cur, h1, h2, hg, h3⟩
  · exact ⟨h.1, .inl h2⟩
  · exact ⟨h.1, .inr ⟨g, cap, cur, h1, h2, (hb.block g (Array.getElem?_eq_some_iff.1 hg).1).trans hg, h3⟩⟩
theorem nz (x : Nat) : ((x : Int) != 0) = (x != 0) := by
  rcases x with _ | x
  · rfl
  · simp
    omega
/-- Four numbers by their place. -/
def four (x0 x1 x2 x3 : Nat) (j : Nat) : Nat := [x0, x1, x2, x3].getD j 0
set_option maxRecDepth 100000 in
theorem back_ok (D : Nat → Nat) (p : Option Addr) (m cb : Nat) (at' : Int) (x0 x1 x2 x3 : Nat) (w : World) (hb : Bs w (.slice p m cb) m D) (hD : ∀ i, i < m → D i < 256) (hm : m ≤ 400) (b0 : x0 < 256) (b1 : x1 < 256) (b2 : x2 < 256) (b3 : x3 < 256) :
    Calls Try.prog 4 #[.slice p m cb, .int .i64 at', .agg #[.int .u8 (x0 : Int), .int .u8 (x1 : Int), .int .u8 (x2 : Int), .int .u8 (x3 : Int)]] w fun e w' => e = .returned (.bool true) ∧ Below w.heap.size w w' := by
  have hX : ∀ j, j < 4 → four x0 x1 x2 x3 j < 256 := by
    intro j hj
    match j, hj with
    | 0, _ => exact b0
    | 1, _ => exact b1
    | 2, _ => exact b2
    | 3, _ => exact b3
  obtain ⟨q, hq, hq2⟩ := modN at' (m + 1) (by omega) (by omega)
  obtain ⟨w0, hw0⟩ : ∃ x, x = w.alloc (.cells #[.int .u8 (x0 : Int), .int .u8 (x1 : Int), .int .u8 (x2 : Int), .int .u8 (x3 : Int)] 31) := ⟨_, rfl⟩
  have hbel0 : Below w.heap.size w w0 := by rw [hw0]; exact (Below.refl _ _).alloc (Nat.le_refl _) _
  have hsz0 : w0.heap.size = w.heap.size + 1 := by rw [hw0]; simp
  have hbox : ∀ j, j < 4 → w0.cell? ⟨w.heap.size, j, none⟩ = some (.int .u8 ((four x0 x1 x2 x3 j : Nat) : Int)) := by
    intro j hj
    rw [hw0]
    refine cells_marked w [.int .u8 (x0 : Int), .int .u8 (x1 : Int), .int .u8 (x2 : Int), .int .u8 (x3 : Int)] 31 (0, 0) j _ ?_
    match j, hj with
    | 0, _ | 1, _ | 2, _ | 3, _ => rfl
  have hb0 : Bs w0 (.slice p m cb) m D := Sl.below hb hbel0 (Nat.le_refl _)
  obtain ⟨X, hXe⟩ : ∃ X, X = four x0 x1 x2 x3 := ⟨_, rfl⟩
  rw [← hXe] at hX hbox
  clear hXe
  have c1 := hide (seal_is D _ m w0 hb0 hD (by omega))
  have hG : ∀ i, i < m + 4 → sealD D m (sumN D m) i < 256 := fun i _ => sealD_lt _ _ _ _ hD
  have hgood := seal_good D m hD
  have hGD : ∀ i, i < m → sealD D m (sumN D m) i = D i := fun i hi => sealD_ahead _ _ _ _ hi
  generalize sealD D m (sumN D m) = G at *
  have c2 : Hid (∀ v w1, Below w0.heap.size w0 w1 → w1.ownsRow w0.heap.size 5 1 v (m + 4) (bL G (m + 4)) → Calls Try.prog 7 #[v] w1 fun e w' => ∃ v', e = .returned (.tuple #[v', .int .i64 0]) ∧ Bs w' v' m D ∧ Below w1.heap.size w1 w') := by
    refine hide fun v w1 h1 h2 => (open_ok G v m w1 (bs_of_owns h2) hG (by omega) hgood).mono ?_
    rintro e w' ⟨v', rfl, o, b⟩
    exact ⟨v', rfl, Sl.congr (bs_of_owns o) fun i hi => by rw [hGD i hi], b⟩
  have c3 : Hid (∀ v w1, Below w0.heap.size w0 w1 → Bs w1 v m D → Calls Try.prog 11 #[v, .slice p m cb] w1 fun e w' => e = .returned (.bool true) ∧ Below w1.heap.size w1 w') :=
    hide fun v w1 h1 h2 => bytes_b _ v _ m w1 h2 (Sl.below hb0 h1 (Nat.le_refl _))
  have hiff := back_iff G X m q (by omega) hG hX hgood
  have hxl : ∀ i, i < m + 4 → xorD G q X 4 i < 256 := fun i hi => xorD_lt _ _ _ _ _ (hG i hi) hX
  have c4 : Hid (∀ v w1, w1.ownsRow w0.heap.size 5 1 v (m + 4) (bL (xorD G q X 4) (m + 4)) → Calls Try.prog 7 #[v] w1 fun e w' => (∃ v', e = .returned (.tuple #[v', .int .i64 (if chg X 4 then 4 else 0)]) ∧ (chg X 4 = true → v' = .slice none 0 0)) ∧ Below w1.heap.size w1 w') := by
    refine hide fun v w1 h => ?_
    by_cases hz : ∀ j, j < 4 → X j = 0
    · refine (open_ok _ v m w1 (bs_of_owns h) hxl (by omega) (hiff.2 hz)).mono ?_
      rintro e w' ⟨v', rfl, o, b⟩
      rw [chg_false X 4 hz]
      exact ⟨⟨v', rfl, fun h => by cases h⟩, b⟩
    · refine (open_bad _ v m w1 (bs_of_owns h) hxl (by omega) (fun q => hz (hiff.1 q))).mono ?_
      rintro e w' ⟨rfl, b⟩
      rw [chg_true X 4 hz]
      exact ⟨⟨_, rfl, fun _ => rfl⟩, b⟩
  have hset := fun k (h : k < 4) => xorD_set G q X k (m + 4) (by omega)
  have hx8 : ∀ k, k < 4 → bits .xor .u8 ((xorD G q X k (q + k) : Nat) : Int) ((X k : Nat) : Int) = ((G (q + k) ^^^ X k : Nat) : Int) := by
    intro k hk
    rw [xorD, if_neg (by omega)]
    exact u8_xor_nat _ _ (hG _ (by omega)) (hX k hk)
  have HS := hide hset
  have HX := hide hx8
  have HXb := hide hX
  have HB0 := hide hbel0
  have HBox := hide hbox
  have h0 : bL (xorD G q X 0) (m + 4) = bL G (m + 4) := vL_congr fun j _ => by rw [xorD_zero]
  have H0 := hide h0
  have d1 : decide ((400 : Int) < (m : Int)) = false := decide_eq_false (by omega)
  have hq' : wrap64 ((IntKind.u64.wrap at').tmod ((m : Int) + 4 - 3)) = (q : Int) := by
    rw [show (m : Int) + 4 - 3 = ((m + 1 : Nat) : Int) by omega]
    exact hq
  have HW0 := hide hw0
  have HSZ := hide hsz0
  clear hsz0 hset hx8 hX hbel0 hbox h0 hiff hxl hG hgood hGD hb0 hb hD hq hw0
  go_enter Try.func4, Try.ntmps4
  go_wp2_with (first
    | (go_at_call 12; rw [← unhide HW0]; refine (unhide c1).mono ?_; rintro e w1 ⟨rfl, o1, b1⟩; have O1 := hide o1; have B1 := hide b1; clear o1 b1)
    | (go_at_call 7; refine (unhide c2 _ _ (unhide B1) (unhide O1)).mono ?_; rintro e w2 ⟨v2, rfl, s2, b2⟩; have S2 := hide s2; have B2 := hide b2; clear s2 b2)
    | (go_at_call 11; refine (unhide c3 _ _ ((unhide B1).trans ((unhide B2).mono (unhide B1).size)) (unhide S2)).mono ?_; rintro e w3 ⟨rfl, b3⟩; have B3 := hide b3; clear b3))
  have hbel3 : Below w0.heap.size w0 w3 := ((unhide B1).trans ((unhide B2).mono (unhide B1).size)).trans ((unhide B3).mono (Nat.le_trans (unhide B1).size (unhide B2).size))
  have hown3 : w3.ownsRow w0.heap.size 5 1 (.slice (some ⟨w0.heap.size, 0, none⟩) (m + 4) (m + 4)) (m + 4) (bL (xorD G q X 0) (m + 4)) := by
    rw [unhide H0]
    exact owns_below (owns_below (unhide O1) (unhide B2)) (unhide B3)
  have HO := hide hown3
  have HB := hide hbel3
  clear O1 B1 B2 B3 S2 hown3 hbel3 c1 c2 c3
  go_loopw [10, 11] (fun xc xi w4 => ∃ k : Nat, k ≤ 4 ∧ xi = .int .i64 k ∧ xc = .bool (chg X k) ∧ w4.ownsRow w0.heap.size 5 1 (.slice (some ⟨w0.heap.size, 0, none⟩) (m + 4) (m + 4)) (m + 4) (bL (xorD G q X k) (m + 4)) ∧ Below w0.heap.size w0 w4) (fun _ i _ => 4 - (intOf i).toNat)
  case atStart => exact ⟨0, by omega, rfl, rfl, unhide HO, unhide HB⟩
  case round =>
    clear HO HB
    obtain ⟨k, hk, rfl, rfl, hown, hbel⟩ := hrel
    by_cases hlt : k < 4
    · have hx := unhide HX k hlt
      have hset := unhide HS k hlt
      have hst := hown.stored (q + k) (.int .u8 ((G (q + k) ^^^ X k : Nat) : Int))
      rw [hset] at hst
      have hst2 : Below w0.heap.size w0 (wr.setCell ⟨w0.heap.size, q + k, none⟩ (.int .u8 ((G (q + k) ^^^ X k : Nat) : Int))) := hbel.grown hst.2 hbel.size (by intro k h; cases h; exact Nat.le_refl _)
      have ST2 := hide hst2
      have hc : wr.cell? ⟨w0.heap.size, q + k, none⟩ = some (.int .u8 ((xorD G q X k (q + k) : Nat) : Int)) := by rw [hown.cellAt (q + k) (by omega), bL, vL_get _ _ _ _ (by omega)]
      have hf := hown.frozenAt (q + k)
      have hbx : wr.cell? ⟨w.heap.size, k, none⟩ = some (.int .u8 ((X k : Nat) : Int)) := (hbel.cell (p := ⟨w.heap.size, k, none⟩) (by show w.heap.size < w0.heap.size; rw [unhide HSZ]; omega)).trans (unhide HBox k hlt)
      have HBk := hide (unhide HBox k hlt)
      have ST := hide hst
      clear hst hst2 hset hown hbel
      have hX8 := unhide HXb k hlt
      have hN : chg X (k + 1) = (chg X k || X k != 0) := rfl
      have HN := hide hN
      clear hN
      generalize chg X k = c at *
      generalize X k = x at *
      generalize xorD G q X k (q + k) = y at *
      generalize G (q + k) ^^^ x = z at *
      go_wp2
      go_region
      obtain ⟨w5, hw5⟩ : ∃ w5, w5 = (wr.setCell ⟨w0.heap.size, q + k, none⟩ (.int .u8 (z : Int))).drew := ⟨_, rfl⟩
      have hbel5 : Below w0.heap.size w0 w5 := by rw [hw5]; exact below_drewN (unhide ST2) 1
      have hown5 := owns_below (w' := w5) (unhide ST).1 (by rw [hw5]; exact below_drewN (Below.refl _ _) 1)
      have hbx5 : w5.cell? ⟨w.heap.size, k, none⟩ = some (.int .u8 (x : Int)) := (hbel5.cell (p := ⟨w.heap.size, k, none⟩) (by show w.heap.size < w0.heap.size; rw [unhide HSZ]; omega)).trans (unhide HBk)
      have HO5 := hide hown5
      have HB5 := hide hbel5
      rw [← hw5]
      clear hw5 hown5 hbel5 ST ST2 hbx hc hf
      cases c with
      | true =>
        go_wp2
        go_roundw
        case rel => exact ⟨k + 1, by omega, by go_num, by rw [unhide HN]; rfl, unhide HO5, unhide HB5⟩
        case measure => simp [intOf]; omega
      | false =>
        go_wp2
        go_roundw
        case rel => exact ⟨k + 1, by omega, by go_num, by rw [unhide HN, Bool.false_or, ← nz], unhide HO5, unhide HB5⟩
        case measure => simp [intOf]; omega
    · obtain rfl : k = 4 := by omega
      have O4 := hide hown
      have B4 := hide hbel
      clear hown hbel
      generalize chg X 4 = c at *
      cases c with
      | true =>
        go_wp2_with (first
          | (go_at_call 7; refine (unhide c4 _ _ (unhide O4)).mono ?_; rintro e w6 ⟨⟨v6, rfl, h6⟩, b6⟩; obtain rfl := h6 rfl; replace B4 := hide ((unhide B4).trans (b6.mono (unhide B4).size)); clear b6 h6)
          | (go_at_call 14; refine (wakes_any _).mono ?_; rintro e w7 ⟨rfl, b7⟩; replace B4 := hide ((unhide B4).trans (b7.mono (unhide B4).size)); clear b7))
        go_ret
        exact ⟨rfl, below_of (unhide HB0) (unhide B4)⟩
      | false =>
        go_wp2_with (first
          | (go_at_call 7; refine (unhide c4 _ _ (unhide O4)).mono ?_; rintro e w6 ⟨⟨v6, rfl, h6⟩, b6⟩; replace B4 := hide ((unhide B4).trans (b6.mono (unhide B4).size)); clear b6 h6)
          | (go_at_call 14; refine (wakes_any _).mono ?_; rintro e w7 ⟨rfl, b7⟩; replace B4 := hide ((unhide B4).trans (b7.mono (unhide B4).size)); clear b7))
        go_ret
        exact ⟨rfl, below_of (unhide HB0) (unhide B4)⟩
end Go.Proofs.Ytfkhapliblnacaa
