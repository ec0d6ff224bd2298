/- Walk of ScriptBack. -/
import Derived.Test.YtfhglganaebpoaaDoorW1
import Derived.Test.YtfhglganaebpoaaDoorB1
import Derived.Test.YtfhglganaebpoaaDoorD1
namespace Go.Proofs.YtfhglganaebpoaaDoor
open Go.RowKit

set_option maxRecDepth 100000 in
theorem back_long (p : Option Addr) (n c : Nat) (v : Value) (w : World) (hn : 300 < n) (hm : n ≤ maxLen) : Calls Tryd.prog 4 #[.slice p n c, v] w fun e w' => e = .returned (.bool true) ∧ Below w.heap.size w w' := by
  unfold maxLen at hm
  have e1 : decide ((n : Int) > 300) = true := decide_eq_true (by omega)
  go_enter Tryd.func4, Tryd.ntmps4
  go_wp2
  go_ret
  exact ⟨rfl, Below.refl _ _⟩
set_option maxRecDepth 100000 in
theorem back_many (p q : Option Addr) (n c m d : Nat) (w : World) (hn : n ≤ 300) (h : 60 < m) (hm : m ≤ maxLen) : Calls Tryd.prog 4 #[.slice p n c, .slice q m d] w fun e w' => e = .returned (.bool true) ∧ Below w.heap.size w w' := by
  unfold maxLen at hm
  have e1 : decide ((n : Int) > 300) = false := decide_eq_false (by omega)
  have e2 : decide ((m : Int) > 60) = true := decide_eq_true (by omega)
  go_enter Tryd.func4, Tryd.ntmps4
  go_wp2
  go_ret
  exact ⟨rfl, Below.refl _ _⟩
/-- The law's first half, told at once. -/
theorem ok_of_bytes {F : Nat → Int} {n M : Nat} (h : ∀ i, i < n → 0 ≤ F i ∧ F i < 256) (hM : M * 5 ≤ n) : okS F M = true := okS_of fun j hj => by have := h j (by omega); omega
set_option maxRecDepth 100000 in
set_option maxHeartbeats 4000000 in
theorem back_bad (p q : Option Addr) (n c m d M : Nat) (F F2 : Nat → Int) (e : Addr) (w : World) (hG : Glob w e) (hb : Sl .u8 w (.slice p n c) n F) (hF : ∀ i, i < n → 0 ≤ F i ∧ F i < 256) (hl : Ss w (.slice q m d) m F2) (hn : n ≤ 300) (hm : m ≤ 60) (hM : M = n / 5) (hE : okS F2 m = false) :
    Calls Tryd.prog 4 #[.slice p n c, .slice q m d] w fun e w' => e = .returned (.bool true) ∧ Below w.heap.size w w' := by
  have P1 := hide (parse_ok F _ n M w hb hF (by omega) hM)
  have HG := hide hG
  have HB := hide hb
  have HL := hide hl
  have OK := hide (ok_of_bytes hF (show M * 5 ≤ n by omega))
  have HE := hide (show byE F2 m = 1 by simp [byE, hE])
  have e0 : (n : Int) / 5 = M := by omega
  have SLc := slice_to p n c (M * 5) ((n : Int) - (n : Int) % 5) (by omega) (by omega) (by obtain ⟨_, _, h1, h2, _⟩ := hb.shape; cases h1; exact h2)
  have HM := hide (show M * 5 ≤ n ∧ M ≤ 800 by omega)
  have m1 := trivial
  have m2 := trivial
  clear hG hb hF hl hM hE
  go_enter Tryd.func4, Tryd.ntmps4
  go_wp2_with (first
    | (go_at_call 9; refine (unhide P1).mono ?_; rintro ev w1 ⟨rfl, o1, b1⟩; have O1 := hide (ss_of_owns o1); have B := hide b1; have G := hide ((unhide HG).below b1); have HB1 := hide ((unhide HB).below b1 (Nat.le_refl _)); have HL1 := hide ((unhide HL).below b1 (Nat.le_refl _)); clear o1 b1 P1)
    | (clear m1; go_at_call 10; refine (bytes_ok F _ M e _ (unhide G) (unhide O1) (unhide OK) (unhide HM).2).mono ?_; rintro ev w2 ⟨g2, rfl, o2, b2⟩; have O2 := hide (sl_of_owns o2); replace B := hide (below_of (unhide B) b2); replace G := hide ((unhide G).below b2); replace HB1 := hide ((unhide HB1).below b2 (Nat.le_refl _)); replace HL1 := hide ((unhide HL1).below b2 (Nat.le_refl _)); clear o2 b2)
    | (go_at_call 13; refine (bytes_same F _ _ (M * 5) _ (unhide O2) ((unhide HB1).take (unhide HM).1)).mono ?_; rintro ev w3 ⟨rfl, b3⟩; replace B := hide (below_of (unhide B) b3); replace G := hide ((unhide G).below b3); replace HL1 := hide ((unhide HL1).below b3 (Nat.le_refl _)); clear b3)
    | (go_at_call 10; refine (bytes_bad F2 _ m e _ (unhide G) (unhide HL1) (by rw [unhide HE]; decide)).mono ?_; rw [unhide HE]; rintro ev w4 ⟨rfl, b4⟩; replace B := hide (below_of (unhide B) b4); replace G := hide ((unhide G).below b4); clear b4)
    | (go_at_call 18; refine (wakes_any e _ (unhide G)).mono ?_; rintro ev w5 ⟨rfl, b5⟩; replace B := hide (below_of (unhide B) b5); clear b5))
  go_ret
  exact ⟨rfl, unhide B⟩
set_option maxRecDepth 100000 in
set_option maxHeartbeats 4000000 in
theorem back_ok (p q : Option Addr) (n c m d M : Nat) (F F2 : Nat → Int) (e : Addr) (w : World) (hG : Glob w e) (hb : Sl .u8 w (.slice p n c) n F) (hF : ∀ i, i < n → 0 ≤ F i ∧ F i < 256) (hl : Ss w (.slice q m d) m F2) (hn : n ≤ 300) (hm : m ≤ 60) (hM : M = n / 5) (hE : okS F2 m = true) :
    Calls Tryd.prog 4 #[.slice p n c, .slice q m d] w fun e w' => e = .returned (.bool true) ∧ Below w.heap.size w w' := by
  have P1 := hide (parse_ok F _ n M w hb hF (by omega) hM)
  have HG := hide hG
  have HB := hide hb
  have HL := hide hl
  have OK := hide (ok_of_bytes hF (show M * 5 ≤ n by omega))
  have HE := hide hE
  have HF2 := hide (show ∀ i, i < m * 5 → 0 ≤ F2 i ∧ F2 i < 256 from fun i hi => by
    obtain ⟨a0, a1, a2, a3, a4⟩ := byB_stp (okS_get hE (i / 5) (by omega))
    have hi5 : i = i / 5 * 5 + i % 5 := by omega
    have h5 : i % 5 < 5 := Nat.mod_lt _ (by omega)
    rw [hi5]
    generalize i % 5 = r at h5
    match r, h5 with
    | 0, _ => rw [Nat.add_zero]; omega
    | 1, _ => omega
    | 2, _ => omega
    | 3, _ => omega
    | 4, _ => omega)
  have e0 : (n : Int) / 5 = M := by omega
  have SLc := slice_to p n c (M * 5) ((n : Int) - (n : Int) % 5) (by omega) (by omega) (by obtain ⟨_, _, h1, h2, _⟩ := hb.shape; cases h1; exact h2)
  have HM := hide (show M * 5 ≤ n ∧ M ≤ 800 ∧ m ≤ 800 ∧ m * 5 ≤ 4000 ∧ m = m * 5 / 5 by omega)
  have m1 := trivial
  have m2 := trivial
  clear hG hb hF hl hM hE
  go_enter Tryd.func4, Tryd.ntmps4
  go_wp2_with (first
    | (clear m1; go_at_call 9; refine (unhide P1).mono ?_; rintro ev w1 ⟨rfl, o1, b1⟩; have O1 := hide (ss_of_owns o1); have B := hide b1; have G := hide ((unhide HG).below b1); have HB1 := hide ((unhide HB).below b1 (Nat.le_refl _)); have HL1 := hide ((unhide HL).below b1 (Nat.le_refl _)); clear o1 b1 P1)
    | (clear m2; go_at_call 10; refine (bytes_ok F _ M e _ (unhide G) (unhide O1) (unhide OK) (unhide HM).2.1).mono ?_; rintro ev w2 ⟨g2, rfl, o2, b2⟩; have O2 := hide (sl_of_owns o2); replace B := hide (below_of (unhide B) b2); replace G := hide ((unhide G).below b2); replace HB1 := hide ((unhide HB1).below b2 (Nat.le_refl _)); replace HL1 := hide ((unhide HL1).below b2 (Nat.le_refl _)); clear o2 b2)
    | (go_at_call 13; refine (bytes_same F _ _ (M * 5) _ (unhide O2) ((unhide HB1).take (unhide HM).1)).mono ?_; rintro ev w3 ⟨rfl, b3⟩; replace B := hide (below_of (unhide B) b3); replace G := hide ((unhide G).below b3); replace HL1 := hide ((unhide HL1).below b3 (Nat.le_refl _)); clear b3)
    | (go_at_call 10; refine (bytes_ok F2 _ m e _ (unhide G) (unhide HL1) (unhide HE) (unhide HM).2.2.1).mono ?_; rintro ev w4 ⟨g4, rfl, o4, b4⟩; have O4 := hide (sl_of_owns o4); replace B := hide (below_of (unhide B) b4); replace G := hide ((unhide G).below b4); replace HL1 := hide ((unhide HL1).below b4 (Nat.le_refl _)); clear o4 b4)
    | (go_at_call 9; refine (parse_ok F2 _ (m * 5) m _ (unhide O4) (unhide HF2) (unhide HM).2.2.2.1 (unhide HM).2.2.2.2).mono ?_; rintro ev w5 ⟨rfl, o5, b5⟩; have O5 := hide (ss_of_owns o5); replace B := hide (below_of (unhide B) b5); replace G := hide ((unhide G).below b5); replace HL1 := hide ((unhide HL1).below b5 (Nat.le_refl _)); clear o5 b5)
    | (go_at_call 14; refine (steps_same F2 _ _ m _ (unhide O5) (unhide HL1)).mono ?_; rintro ev w6 ⟨rfl, b6⟩; replace B := hide (below_of (unhide B) b6); replace G := hide ((unhide G).below b6); clear b6)
    | (go_at_call 18; refine (wakes_any e _ (unhide G)).mono ?_; rintro ev w7 ⟨rfl, b7⟩; replace B := hide (below_of (unhide B) b7); clear b7))
  go_ret
  exact ⟨rfl, unhide B⟩
theorem back_walk (p : Option Addr) (n c : Nat) (zs : List Int) (q : Option Addr) (m d : Nat) (F2 : Nat → Int) (w : World) (hG : GlobE w) (hb : IsRow .u8 w p n c zs) (hl : Ss w (.slice q m d) m F2) :
    Calls Tryd.prog 4 #[.slice p n c, .slice q m d] w fun e w' => e = .returned (.bool true) ∧ Below w.heap.size w w' := by
  obtain ⟨e, hG⟩ := hG
  by_cases hn : 300 < n
  · exact back_long p n c _ w hn hb.sl.len
  · by_cases hm : 60 < m
    · obtain ⟨_, _, h1, h2, h3⟩ := hl.shape
      cases h1
      exact back_many p q n c m d w (by omega) hm (Nat.le_trans h2 h3)
    · cases hE : okS F2 m with
      | false => exact back_bad p q n c m d (n / 5) _ F2 e w hG hb.sl (fun i _ => hb.bd i) hl (by omega) (by omega) rfl hE
      | true => exact back_ok p q n c m d (n / 5) _ F2 e w hG hb.sl (fun i _ => hb.bd i) hl (by omega) (by omega) rfl hE
end Go.Proofs.YtfhglganaebpoaaDoor
