/- Walks of CodecOrder. -/
import Derived.Test.YtkmljmfonhohbaaO1
namespace Go.Proofs.Ytkmljmfonhohbaa
open Go.RowKit
/-- The bytes of a number alone. -/
def ordX (S : Nat) (a : Int) : Nat → Int := putF (fun _ => 0) 0 S a
theorem ordX_bd (S : Nat) (a : Int) (i : Nat) : 0 ≤ ordX S a i ∧ ordX S a i < 256 := putF_bd _ _ _ _ (fun i h => by omega) i
theorem ord_num (S : Nat) (a : Int) (hs : IsZ S) (hn : IsNum S a) : num (ordX S a) 0 S = a := num_put_all _ _ _ _ hs hn
theorem ord_put (S : Nat) (a : Int) (hs : IsZ S) (hn : IsNum S a) (w : World) :
    Calls Try.prog 9 #[.slice none 0 0, .int .i64 (S : Int), .int .i64 a] w fun e w' => ∃ g c', e = .returned (.tuple #[.slice (some ⟨g, 0, none⟩) S c', .int .i64 0]) ∧ (S ≤ c' ∧ c' ≤ maxLen) ∧ Sl .u8 w' (.slice (some ⟨g, 0, none⟩) S c') S (ordX S a) ∧ Below w.heap.size w w' := by
  refine (put_is (fun _ => 0) (.slice none 0 0) 0 S a hs hn w (.inl ⟨rfl, .inl rfl⟩) (by omega)).mono ?_
  rintro e w' ⟨v', rfl, o, b⟩
  rw [Nat.zero_add] at o
  obtain ⟨g, c', rfl, l1, l2⟩ := owns_some o (by rcases hs with h | h | h | h <;> omega)
  exact ⟨g, c', rfl, ⟨l1, l2⟩, sl_of_owns o, b⟩
theorem ord_any (S : Nat) (a : Int) (hs : IsZ S) (w : World) :
    Calls Try.prog 9 #[.slice none 0 0, .int .i64 (S : Int), .int .i64 a] w fun e w' => ∃ v c, e = .returned (.tuple #[v, .int .i64 c]) ∧ Below w.heap.size w w' := by
  by_cases h : IsNum S a
  · refine (ord_put S a hs h w).mono ?_
    rintro e w' ⟨g, c', rfl, _, _, b⟩
    exact ⟨_, _, rfl, b⟩
  · refine (put_num _ S a hs h w).mono ?_
    rintro e w' ⟨rfl, rfl⟩
    exact ⟨_, _, rfl, Below.refl _ _⟩
set_option maxRecDepth 100000 in
set_option maxHeartbeats 1000000 in
theorem ord_1_f (s a b : Int) (hq : wrap64 ((IntKind.u64.wrap s).tmod 4) = 0) (ha : ¬ IsNum 1 a) (w : World) :
    Calls Try.prog 5 #[.int .i64 s, .int .i64 a, .int .i64 b] w fun e w' => e = .returned (.bool true) ∧ Below w.heap.size w w' := by
  have c1 : Hid (∀ w, Calls Try.prog 9 #[.slice none 0 0, .int .i64 1, .int .i64 a] w fun e w' => e = .returned (.tuple #[.slice none 0 0, .int .i64 1]) ∧ w' = w) := hide (put_num _ 1 a (by decide) ha)
  have c2 : Hid (∀ w, Calls Try.prog 9 #[.slice none 0 0, .int .i64 1, .int .i64 b] w fun e w' => ∃ v c, e = .returned (.tuple #[v, .int .i64 c]) ∧ Below w.heap.size w w') := hide (ord_any 1 b (by decide))
  have m1 := trivial
  clear ha
  go_enter Try.func5, Try.ntmps5
  go_wp2_with (first
    | (clear m1; go_at_call 9; refine (unhide c1 _).mono ?_; rintro e w1 ⟨rfl, hw⟩; subst hw)
    | (go_at_call 9; refine (unhide c2 _).mono ?_; rintro e w1 ⟨v1, k1, rfl, b1⟩; have B1 := hide (((Below.refl _ _).alloc (Nat.le_refl _) _).trans (b1.mono (by simp))); clear b1)
    | (go_at_call 21; refine (wakes_any _).mono ?_; rintro e w3 ⟨rfl, b2⟩; replace B1 := hide (below_of (unhide B1) b2); clear b2))
  go_ret
  exact ⟨rfl, unhide B1⟩
set_option maxRecDepth 100000 in
set_option maxHeartbeats 1000000 in
theorem ord_1_g (s a b : Int) (hq : wrap64 ((IntKind.u64.wrap s).tmod 4) = 0) (ha : IsNum 1 a) (hb : ¬ IsNum 1 b) (w : World) :
    Calls Try.prog 5 #[.int .i64 s, .int .i64 a, .int .i64 b] w fun e w' => e = .returned (.bool true) ∧ Below w.heap.size w w' := by
  have c1 : Hid (∀ w, Calls Try.prog 9 #[.slice none 0 0, .int .i64 1, .int .i64 a] w fun e w' => ∃ g c', e = .returned (.tuple #[.slice (some ⟨g, 0, none⟩) 1 c', .int .i64 0]) ∧ (1 ≤ c' ∧ c' ≤ maxLen) ∧ Sl .u8 w' (.slice (some ⟨g, 0, none⟩) 1 c') 1 (ordX 1 a) ∧ Below w.heap.size w w') := hide (ord_put 1 a (by decide) ha)
  have c2 : Hid (∀ w, Calls Try.prog 9 #[.slice none 0 0, .int .i64 1, .int .i64 b] w fun e w' => e = .returned (.tuple #[.slice none 0 0, .int .i64 1]) ∧ w' = w) := hide (put_num _ 1 b (by decide) hb)
  have m1 := trivial
  clear ha hb
  go_enter Try.func5, Try.ntmps5
  go_wp2_with (first
    | (clear m1; go_at_call 9; refine (unhide c1 _).mono ?_; rintro e w1 ⟨g1, k1, rfl, ⟨l1, l2⟩, s1, b1⟩; have B1 := hide (((Below.refl _ _).alloc (Nat.le_refl _) _).trans (b1.mono (by simp))); clear b1 s1)
    | (go_at_call 9; refine (unhide c2 _).mono ?_; rintro e w2 ⟨rfl, hw⟩; obtain rfl := hw.symm)
    | (go_at_call 21; refine (wakes_any _).mono ?_; rintro e w3 ⟨rfl, b2⟩; replace B1 := hide (below_of (unhide B1) b2); clear b2))
  go_ret
  exact ⟨rfl, unhide B1⟩
set_option maxRecDepth 100000 in
set_option maxHeartbeats 1000000 in
theorem ord_1_t (s a b : Int) (hq : wrap64 ((IntKind.u64.wrap s).tmod 4) = 0) (ha : IsNum 1 a) (hb : IsNum 1 b) (w : World) :
    Calls Try.prog 5 #[.int .i64 s, .int .i64 a, .int .i64 b] w fun e w' => e = .returned (.bool true) ∧ Below w.heap.size w w' := by
  have c1 : Hid (∀ w, Calls Try.prog 9 #[.slice none 0 0, .int .i64 1, .int .i64 a] w fun e w' => ∃ g c', e = .returned (.tuple #[.slice (some ⟨g, 0, none⟩) 1 c', .int .i64 0]) ∧ (1 ≤ c' ∧ c' ≤ maxLen) ∧ Sl .u8 w' (.slice (some ⟨g, 0, none⟩) 1 c') 1 (ordX 1 a) ∧ Below w.heap.size w w') := hide (ord_put 1 a (by decide) ha)
  have c2 : Hid (∀ w, Calls Try.prog 9 #[.slice none 0 0, .int .i64 1, .int .i64 b] w fun e w' => ∃ g c', e = .returned (.tuple #[.slice (some ⟨g, 0, none⟩) 1 c', .int .i64 0]) ∧ (1 ≤ c' ∧ c' ≤ maxLen) ∧ Sl .u8 w' (.slice (some ⟨g, 0, none⟩) 1 c') 1 (ordX 1 b) ∧ Below w.heap.size w w') := hide (ord_put 1 b (by decide) hb)
  have na := ord_num 1 a (by decide) ha
  have nb := ord_num 1 b (by decide) hb
  have less := bl_less (ordX 1 a) (ordX 1 b) (ordX_bd _ _) (ordX_bd _ _) 1 0
  have same := bl_eq (ordX 1 a) (ordX 1 b) (ordX_bd _ _) (ordX_bd _ _) 1 0
  have low := hide (num_low (ordX 1 a) 1 (fun i _ => ordX_bd _ _ i) (by rw [na]; exact (lim_le 1 (by decide) a ha.2).2))
  rw [na, nb] at less same
  have NA := hide na
  have LE := hide less
  have SA := hide same
  have m1 := trivial
  clear ha hb na nb less same
  go_enter Try.func5, Try.ntmps5
  go_wp2_with (first
    | (clear m1; go_at_call 9; refine (unhide c1 _).mono ?_; rintro e w1 ⟨g1, k1, rfl, ⟨l1, l2⟩, s1, b1⟩; have S1 := hide s1; have B1 := hide (((Below.refl _ _).alloc (Nat.le_refl _) _).trans (b1.mono (by simp))); clear b1 s1; unfold maxLen at l2)
    | (go_at_call 9; refine (unhide c2 _).mono ?_; rintro e w2 ⟨g2, k2, rfl, ⟨l3, l4⟩, s2, b2⟩; replace S1 := hide ((unhide S1).below b2 (Nat.le_refl _)); have S2 := hide s2; replace B1 := hide (below_of (unhide B1) b2); clear b2 s2; unfold maxLen at l4))
  go_loopw [11, 12] (fun x xi w3 => ∃ k : Nat, k ≤ 1 ∧ xi = .int .i64 k ∧ x = .int .i64 (num (ordX 1 a) 0 k) ∧ ∃ m, w3 = w2.drewN m) (fun _ i _ => 1 - (intOf i).toNat)
  case atStart => exact ⟨0, by omega, rfl, rfl, 0, rfl⟩
  case round =>
    obtain ⟨k, hk, rfl, rfl, m, hw⟩ := hrel
    by_cases hlt : k < 1
    · obtain ⟨bb, off, he, _, hcell⟩ := (unhide S1).some (by omega)
      cases he
      have hck : wr.cell? ⟨g1, 0 + k, none⟩ = some (.int .u8 (ordX 1 a k)) := by rw [hw]; exact hcell k hlt
      rw [Nat.zero_add] at hck
      have hb := ordX_bd 1 a k
      have h0 := (num_in (ordX 1 a) (ordX_bd _ _) 0 k).1
      have hx := unhide low k hlt
      have hs : num (ordX 1 a) 0 (k + 1) = num (ordX 1 a) 0 k * 256 + ordX 1 a k := by rw [num, Nat.zero_add]
      have HS := hide hs
      have HW := hide hw
      obtain ⟨hb0, hb1⟩ := hb
      clear hcell hs hw
      generalize num (ordX 1 a) 0 k = y at *
      generalize ordX 1 a k = x at *
      go_wp2
      go_roundw
      case rel => exact ⟨k + 1, by omega, by go_num, by rw [unhide HS], m, unhide HW⟩
      case measure => simp [intOf]; omega
    · obtain rfl : k = 1 := by omega
      have hs1 : Hid ((convert 22 9 (.slice (some ⟨g1, 0, none⟩) 1 k1)).run Try.prog wr = .ok (.string ⟨(bl (ordX 1 a) 0 1).toArray⟩) wr) := by rw [hw]; exact hide (sl_string (unhide S1) (by omega) (ordX_bd _ _))
      have hs2 : Hid ((convert 22 9 (.slice (some ⟨g2, 0, none⟩) 1 k2)).run Try.prog wr = .ok (.string ⟨(bl (ordX 1 b) 0 1).toArray⟩) wr) := by rw [hw]; exact hide (sl_string (unhide S2) (by omega) (ordX_bd _ _))
      have B2 := hide (below_drewN (unhide B1) m)
      rw [← hw] at B2
      rw [unhide NA]
      replace hs1 := unhide hs1
      replace hs2 := unhide hs2
      have hl := unhide LE
      have hsm := unhide SA
      rw [show decide (a = b) = (a == b) from rfl] at hsm
      clear hw
      generalize bl (ordX 1 a) 0 1 = la at *
      generalize bl (ordX 1 b) 0 1 = lb at *
      go_wp2_with (first
        | (go_at_call 21; refine (wakes_any _).mono ?_; rintro e w3 ⟨rfl, b2⟩; replace B2 := hide (below_of (unhide B2) b2); clear b2))
      go_ret
      exact ⟨rfl, unhide B2⟩
set_option maxRecDepth 100000 in
set_option maxHeartbeats 1000000 in
theorem ord_2_f (s a b : Int) (hq : wrap64 ((IntKind.u64.wrap s).tmod 4) = 1) (ha : ¬ IsNum 2 a) (w : World) :
    Calls Try.prog 5 #[.int .i64 s, .int .i64 a, .int .i64 b] w fun e w' => e = .returned (.bool true) ∧ Below w.heap.size w w' := by
  have c1 : Hid (∀ w, Calls Try.prog 9 #[.slice none 0 0, .int .i64 2, .int .i64 a] w fun e w' => e = .returned (.tuple #[.slice none 0 0, .int .i64 1]) ∧ w' = w) := hide (put_num _ 2 a (by decide) ha)
  have c2 : Hid (∀ w, Calls Try.prog 9 #[.slice none 0 0, .int .i64 2, .int .i64 b] w fun e w' => ∃ v c, e = .returned (.tuple #[v, .int .i64 c]) ∧ Below w.heap.size w w') := hide (ord_any 2 b (by decide))
  have m1 := trivial
  clear ha
  go_enter Try.func5, Try.ntmps5
  go_wp2_with (first
    | (clear m1; go_at_call 9; refine (unhide c1 _).mono ?_; rintro e w1 ⟨rfl, hw⟩; subst hw)
    | (go_at_call 9; refine (unhide c2 _).mono ?_; rintro e w1 ⟨v1, k1, rfl, b1⟩; have B1 := hide (((Below.refl _ _).alloc (Nat.le_refl _) _).trans (b1.mono (by simp))); clear b1)
    | (go_at_call 21; refine (wakes_any _).mono ?_; rintro e w3 ⟨rfl, b2⟩; replace B1 := hide (below_of (unhide B1) b2); clear b2))
  go_ret
  exact ⟨rfl, unhide B1⟩
set_option maxRecDepth 100000 in
set_option maxHeartbeats 1000000 in
theorem ord_2_g (s a b : Int) (hq : wrap64 ((IntKind.u64.wrap s).tmod 4) = 1) (ha : IsNum 2 a) (hb : ¬ IsNum 2 b) (w : World) :
    Calls Try.prog 5 #[.int .i64 s, .int .i64 a, .int .i64 b] w fun e w' => e = .returned (.bool true) ∧ Below w.heap.size w w' := by
  have c1 : Hid (∀ w, Calls Try.prog 9 #[.slice none 0 0, .int .i64 2, .int .i64 a] w fun e w' => ∃ g c', e = .returned (.tuple #[.slice (some ⟨g, 0, none⟩) 2 c', .int .i64 0]) ∧ (2 ≤ c' ∧ c' ≤ maxLen) ∧ Sl .u8 w' (.slice (some ⟨g, 0, none⟩) 2 c') 2 (ordX 2 a) ∧ Below w.heap.size w w') := hide (ord_put 2 a (by decide) ha)
  have c2 : Hid (∀ w, Calls Try.prog 9 #[.slice none 0 0, .int .i64 2, .int .i64 b] w fun e w' => e = .returned (.tuple #[.slice none 0 0, .int .i64 1]) ∧ w' = w) := hide (put_num _ 2 b (by decide) hb)
  have m1 := trivial
  clear ha hb
  go_enter Try.func5, Try.ntmps5
  go_wp2_with (first
    | (clear m1; go_at_call 9; refine (unhide c1 _).mono ?_; rintro e w1 ⟨g1, k1, rfl, ⟨l1, l2⟩, s1, b1⟩; have B1 := hide (((Below.refl _ _).alloc (Nat.le_refl _) _).trans (b1.mono (by simp))); clear b1 s1)
    | (go_at_call 9; refine (unhide c2 _).mono ?_; rintro e w2 ⟨rfl, hw⟩; obtain rfl := hw.symm)
    | (go_at_call 21; refine (wakes_any _).mono ?_; rintro e w3 ⟨rfl, b2⟩; replace B1 := hide (below_of (unhide B1) b2); clear b2))
  go_ret
  exact ⟨rfl, unhide B1⟩
set_option maxRecDepth 100000 in
set_option maxHeartbeats 1000000 in
theorem ord_2_t (s a b : Int) (hq : wrap64 ((IntKind.u64.wrap s).tmod 4) = 1) (ha : IsNum 2 a) (hb : IsNum 2 b) (w : World) :
    Calls Try.prog 5 #[.int .i64 s, .int .i64 a, .int .i64 b] w fun e w' => e = .returned (.bool true) ∧ Below w.heap.size w w' := by
  have c1 : Hid (∀ w, Calls Try.prog 9 #[.slice none 0 0, .int .i64 2, .int .i64 a] w fun e w' => ∃ g c', e = .returned (.tuple #[.slice (some ⟨g, 0, none⟩) 2 c', .int .i64 0]) ∧ (2 ≤ c' ∧ c' ≤ maxLen) ∧ Sl .u8 w' (.slice (some ⟨g, 0, none⟩) 2 c') 2 (ordX 2 a) ∧ Below w.heap.size w w') := hide (ord_put 2 a (by decide) ha)
  have c2 : Hid (∀ w, Calls Try.prog 9 #[.slice none 0 0, .int .i64 2, .int .i64 b] w fun e w' => ∃ g c', e = .returned (.tuple #[.slice (some ⟨g, 0, none⟩) 2 c', .int .i64 0]) ∧ (2 ≤ c' ∧ c' ≤ maxLen) ∧ Sl .u8 w' (.slice (some ⟨g, 0, none⟩) 2 c') 2 (ordX 2 b) ∧ Below w.heap.size w w') := hide (ord_put 2 b (by decide) hb)
  have na := ord_num 2 a (by decide) ha
  have nb := ord_num 2 b (by decide) hb
  have less := bl_less (ordX 2 a) (ordX 2 b) (ordX_bd _ _) (ordX_bd _ _) 2 0
  have same := bl_eq (ordX 2 a) (ordX 2 b) (ordX_bd _ _) (ordX_bd _ _) 2 0
  have low := hide (num_low (ordX 2 a) 2 (fun i _ => ordX_bd _ _ i) (by rw [na]; exact (lim_le 2 (by decide) a ha.2).2))
  rw [na, nb] at less same
  have NA := hide na
  have LE := hide less
  have SA := hide same
  have m1 := trivial
  clear ha hb na nb less same
  go_enter Try.func5, Try.ntmps5
  go_wp2_with (first
    | (clear m1; go_at_call 9; refine (unhide c1 _).mono ?_; rintro e w1 ⟨g1, k1, rfl, ⟨l1, l2⟩, s1, b1⟩; have S1 := hide s1; have B1 := hide (((Below.refl _ _).alloc (Nat.le_refl _) _).trans (b1.mono (by simp))); clear b1 s1; unfold maxLen at l2)
    | (go_at_call 9; refine (unhide c2 _).mono ?_; rintro e w2 ⟨g2, k2, rfl, ⟨l3, l4⟩, s2, b2⟩; replace S1 := hide ((unhide S1).below b2 (Nat.le_refl _)); have S2 := hide s2; replace B1 := hide (below_of (unhide B1) b2); clear b2 s2; unfold maxLen at l4))
  go_loopw [11, 12] (fun x xi w3 => ∃ k : Nat, k ≤ 2 ∧ xi = .int .i64 k ∧ x = .int .i64 (num (ordX 2 a) 0 k) ∧ ∃ m, w3 = w2.drewN m) (fun _ i _ => 2 - (intOf i).toNat)
  case atStart => exact ⟨0, by omega, rfl, rfl, 0, rfl⟩
  case round =>
    obtain ⟨k, hk, rfl, rfl, m, hw⟩ := hrel
    by_cases hlt : k < 2
    · obtain ⟨bb, off, he, _, hcell⟩ := (unhide S1).some (by omega)
      cases he
      have hck : wr.cell? ⟨g1, 0 + k, none⟩ = some (.int .u8 (ordX 2 a k)) := by rw [hw]; exact hcell k hlt
      rw [Nat.zero_add] at hck
      have hb := ordX_bd 2 a k
      have h0 := (num_in (ordX 2 a) (ordX_bd _ _) 0 k).1
      have hx := unhide low k hlt
      have hs : num (ordX 2 a) 0 (k + 1) = num (ordX 2 a) 0 k * 256 + ordX 2 a k := by rw [num, Nat.zero_add]
      have HS := hide hs
      have HW := hide hw
      obtain ⟨hb0, hb1⟩ := hb
      clear hcell hs hw
      generalize num (ordX 2 a) 0 k = y at *
      generalize ordX 2 a k = x at *
      go_wp2
      go_roundw
      case rel => exact ⟨k + 1, by omega, by go_num, by rw [unhide HS], m, unhide HW⟩
      case measure => simp [intOf]; omega
    · obtain rfl : k = 2 := by omega
      have hs1 : Hid ((convert 22 9 (.slice (some ⟨g1, 0, none⟩) 2 k1)).run Try.prog wr = .ok (.string ⟨(bl (ordX 2 a) 0 2).toArray⟩) wr) := by rw [hw]; exact hide (sl_string (unhide S1) (by omega) (ordX_bd _ _))
      have hs2 : Hid ((convert 22 9 (.slice (some ⟨g2, 0, none⟩) 2 k2)).run Try.prog wr = .ok (.string ⟨(bl (ordX 2 b) 0 2).toArray⟩) wr) := by rw [hw]; exact hide (sl_string (unhide S2) (by omega) (ordX_bd _ _))
      have B2 := hide (below_drewN (unhide B1) m)
      rw [← hw] at B2
      rw [unhide NA]
      replace hs1 := unhide hs1
      replace hs2 := unhide hs2
      have hl := unhide LE
      have hsm := unhide SA
      rw [show decide (a = b) = (a == b) from rfl] at hsm
      clear hw
      generalize bl (ordX 2 a) 0 2 = la at *
      generalize bl (ordX 2 b) 0 2 = lb at *
      go_wp2_with (first
        | (go_at_call 21; refine (wakes_any _).mono ?_; rintro e w3 ⟨rfl, b2⟩; replace B2 := hide (below_of (unhide B2) b2); clear b2))
      go_ret
      exact ⟨rfl, unhide B2⟩
set_option maxRecDepth 100000 in
set_option maxHeartbeats 1000000 in
theorem ord_4_f (s a b : Int) (hq : wrap64 ((IntKind.u64.wrap s).tmod 4) = 2) (ha : ¬ IsNum 4 a) (w : World) :
    Calls Try.prog 5 #[.int .i64 s, .int .i64 a, .int .i64 b] w fun e w' => e = .returned (.bool true) ∧ Below w.heap.size w w' := by
  have c1 : Hid (∀ w, Calls Try.prog 9 #[.slice none 0 0, .int .i64 4, .int .i64 a] w fun e w' => e = .returned (.tuple #[.slice none 0 0, .int .i64 1]) ∧ w' = w) := hide (put_num _ 4 a (by decide) ha)
  have c2 : Hid (∀ w, Calls Try.prog 9 #[.slice none 0 0, .int .i64 4, .int .i64 b] w fun e w' => ∃ v c, e = .returned (.tuple #[v, .int .i64 c]) ∧ Below w.heap.size w w') := hide (ord_any 4 b (by decide))
  have m1 := trivial
  clear ha
  go_enter Try.func5, Try.ntmps5
  go_wp2_with (first
    | (clear m1; go_at_call 9; refine (unhide c1 _).mono ?_; rintro e w1 ⟨rfl, hw⟩; subst hw)
    | (go_at_call 9; refine (unhide c2 _).mono ?_; rintro e w1 ⟨v1, k1, rfl, b1⟩; have B1 := hide (((Below.refl _ _).alloc (Nat.le_refl _) _).trans (b1.mono (by simp))); clear b1)
    | (go_at_call 21; refine (wakes_any _).mono ?_; rintro e w3 ⟨rfl, b2⟩; replace B1 := hide (below_of (unhide B1) b2); clear b2))
  go_ret
  exact ⟨rfl, unhide B1⟩
set_option maxRecDepth 100000 in
set_option maxHeartbeats 1000000 in
theorem ord_4_g (s a b : Int) (hq : wrap64 ((IntKind.u64.wrap s).tmod 4) = 2) (ha : IsNum 4 a) (hb : ¬ IsNum 4 b) (w : World) :
    Calls Try.prog 5 #[.int .i64 s, .int .i64 a, .int .i64 b] w fun e w' => e = .returned (.bool true) ∧ Below w.heap.size w w' := by
  have c1 : Hid (∀ w, Calls Try.prog 9 #[.slice none 0 0, .int .i64 4, .int .i64 a] w fun e w' => ∃ g c', e = .returned (.tuple #[.slice (some ⟨g, 0, none⟩) 4 c', .int .i64 0]) ∧ (4 ≤ c' ∧ c' ≤ maxLen) ∧ Sl .u8 w' (.slice (some ⟨g, 0, none⟩) 4 c') 4 (ordX 4 a) ∧ Below w.heap.size w w') := hide (ord_put 4 a (by decide) ha)
  have c2 : Hid (∀ w, Calls Try.prog 9 #[.slice none 0 0, .int .i64 4, .int .i64 b] w fun e w' => e = .returned (.tuple #[.slice none 0 0, .int .i64 1]) ∧ w' = w) := hide (put_num _ 4 b (by decide) hb)
  have m1 := trivial
  clear ha hb
  go_enter Try.func5, Try.ntmps5
  go_wp2_with (first
    | (clear m1; go_at_call 9; refine (unhide c1 _).mono ?_; rintro e w1 ⟨g1, k1, rfl, ⟨l1, l2⟩, s1, b1⟩; have B1 := hide (((Below.refl _ _).alloc (Nat.le_refl _) _).trans (b1.mono (by simp))); clear b1 s1)
    | (go_at_call 9; refine (unhide c2 _).mono ?_; rintro e w2 ⟨rfl, hw⟩; obtain rfl := hw.symm)
    | (go_at_call 21; refine (wakes_any _).mono ?_; rintro e w3 ⟨rfl, b2⟩; replace B1 := hide (below_of (unhide B1) b2); clear b2))
  go_ret
  exact ⟨rfl, unhide B1⟩
set_option maxRecDepth 100000 in
set_option maxHeartbeats 1000000 in
theorem ord_4_t (s a b : Int) (hq : wrap64 ((IntKind.u64.wrap s).tmod 4) = 2) (ha : IsNum 4 a) (hb : IsNum 4 b) (w : World) :
    Calls Try.prog 5 #[.int .i64 s, .int .i64 a, .int .i64 b] w fun e w' => e = .returned (.bool true) ∧ Below w.heap.size w w' := by
  have c1 : Hid (∀ w, Calls Try.prog 9 #[.slice none 0 0, .int .i64 4, .int .i64 a] w fun e w' => ∃ g c', e = .returned (.tuple #[.slice (some ⟨g, 0, none⟩) 4 c', .int .i64 0]) ∧ (4 ≤ c' ∧ c' ≤ maxLen) ∧ Sl .u8 w' (.slice (some ⟨g, 0, none⟩) 4 c') 4 (ordX 4 a) ∧ Below w.heap.size w w') := hide (ord_put 4 a (by decide) ha)
  have c2 : Hid (∀ w, Calls Try.prog 9 #[.slice none 0 0, .int .i64 4, .int .i64 b] w fun e w' => ∃ g c', e = .returned (.tuple #[.slice (some ⟨g, 0, none⟩) 4 c', .int .i64 0]) ∧ (4 ≤ c' ∧ c' ≤ maxLen) ∧ Sl .u8 w' (.slice (some ⟨g, 0, none⟩) 4 c') 4 (ordX 4 b) ∧ Below w.heap.size w w') := hide (ord_put 4 b (by decide) hb)
  have na := ord_num 4 a (by decide) ha
  have nb := ord_num 4 b (by decide) hb
  have less := bl_less (ordX 4 a) (ordX 4 b) (ordX_bd _ _) (ordX_bd _ _) 4 0
  have same := bl_eq (ordX 4 a) (ordX 4 b) (ordX_bd _ _) (ordX_bd _ _) 4 0
  have low := hide (num_low (ordX 4 a) 4 (fun i _ => ordX_bd _ _ i) (by rw [na]; exact (lim_le 4 (by decide) a ha.2).2))
  rw [na, nb] at less same
  have NA := hide na
  have LE := hide less
  have SA := hide same
  have m1 := trivial
  clear ha hb na nb less same
  go_enter Try.func5, Try.ntmps5
  go_wp2_with (first
    | (clear m1; go_at_call 9; refine (unhide c1 _).mono ?_; rintro e w1 ⟨g1, k1, rfl, ⟨l1, l2⟩, s1, b1⟩; have S1 := hide s1; have B1 := hide (((Below.refl _ _).alloc (Nat.le_refl _) _).trans (b1.mono (by simp))); clear b1 s1; unfold maxLen at l2)
    | (go_at_call 9; refine (unhide c2 _).mono ?_; rintro e w2 ⟨g2, k2, rfl, ⟨l3, l4⟩, s2, b2⟩; replace S1 := hide ((unhide S1).below b2 (Nat.le_refl _)); have S2 := hide s2; replace B1 := hide (below_of (unhide B1) b2); clear b2 s2; unfold maxLen at l4))
  go_loopw [11, 12] (fun x xi w3 => ∃ k : Nat, k ≤ 4 ∧ xi = .int .i64 k ∧ x = .int .i64 (num (ordX 4 a) 0 k) ∧ ∃ m, w3 = w2.drewN m) (fun _ i _ => 4 - (intOf i).toNat)
  case atStart => exact ⟨0, by omega, rfl, rfl, 0, rfl⟩
  case round =>
    obtain ⟨k, hk, rfl, rfl, m, hw⟩ := hrel
    by_cases hlt : k < 4
    · obtain ⟨bb, off, he, _, hcell⟩ := (unhide S1).some (by omega)
      cases he
      have hck : wr.cell? ⟨g1, 0 + k, none⟩ = some (.int .u8 (ordX 4 a k)) := by rw [hw]; exact hcell k hlt
      rw [Nat.zero_add] at hck
      have hb := ordX_bd 4 a k
      have h0 := (num_in (ordX 4 a) (ordX_bd _ _) 0 k).1
      have hx := unhide low k hlt
      have hs : num (ordX 4 a) 0 (k + 1) = num (ordX 4 a) 0 k * 256 + ordX 4 a k := by rw [num, Nat.zero_add]
      have HS := hide hs
      have HW := hide hw
      obtain ⟨hb0, hb1⟩ := hb
      clear hcell hs hw
      generalize num (ordX 4 a) 0 k = y at *
      generalize ordX 4 a k = x at *
      go_wp2
      go_roundw
      case rel => exact ⟨k + 1, by omega, by go_num, by rw [unhide HS], m, unhide HW⟩
      case measure => simp [intOf]; omega
    · obtain rfl : k = 4 := by omega
      have hs1 : Hid ((convert 22 9 (.slice (some ⟨g1, 0, none⟩) 4 k1)).run Try.prog wr = .ok (.string ⟨(bl (ordX 4 a) 0 4).toArray⟩) wr) := by rw [hw]; exact hide (sl_string (unhide S1) (by omega) (ordX_bd _ _))
      have hs2 : Hid ((convert 22 9 (.slice (some ⟨g2, 0, none⟩) 4 k2)).run Try.prog wr = .ok (.string ⟨(bl (ordX 4 b) 0 4).toArray⟩) wr) := by rw [hw]; exact hide (sl_string (unhide S2) (by omega) (ordX_bd _ _))
      have B2 := hide (below_drewN (unhide B1) m)
      rw [← hw] at B2
      rw [unhide NA]
      replace hs1 := unhide hs1
      replace hs2 := unhide hs2
      have hl := unhide LE
      have hsm := unhide SA
      rw [show decide (a = b) = (a == b) from rfl] at hsm
      clear hw
      generalize bl (ordX 4 a) 0 4 = la at *
      generalize bl (ordX 4 b) 0 4 = lb at *
      go_wp2_with (first
        | (go_at_call 21; refine (wakes_any _).mono ?_; rintro e w3 ⟨rfl, b2⟩; replace B2 := hide (below_of (unhide B2) b2); clear b2))
      go_ret
      exact ⟨rfl, unhide B2⟩
set_option maxRecDepth 100000 in
set_option maxHeartbeats 1000000 in
theorem ord_8_f (s a b : Int) (hq : wrap64 ((IntKind.u64.wrap s).tmod 4) = 3) (ha : ¬ IsNum 8 a) (w : World) :
    Calls Try.prog 5 #[.int .i64 s, .int .i64 a, .int .i64 b] w fun e w' => e = .returned (.bool true) ∧ Below w.heap.size w w' := by
  have c1 : Hid (∀ w, Calls Try.prog 9 #[.slice none 0 0, .int .i64 8, .int .i64 a] w fun e w' => e = .returned (.tuple #[.slice none 0 0, .int .i64 1]) ∧ w' = w) := hide (put_num _ 8 a (by decide) ha)
  have c2 : Hid (∀ w, Calls Try.prog 9 #[.slice none 0 0, .int .i64 8, .int .i64 b] w fun e w' => ∃ v c, e = .returned (.tuple #[v, .int .i64 c]) ∧ Below w.heap.size w w') := hide (ord_any 8 b (by decide))
  have m1 := trivial
  clear ha
  go_enter Try.func5, Try.ntmps5
  go_wp2_with (first
    | (clear m1; go_at_call 9; refine (unhide c1 _).mono ?_; rintro e w1 ⟨rfl, hw⟩; subst hw)
    | (go_at_call 9; refine (unhide c2 _).mono ?_; rintro e w1 ⟨v1, k1, rfl, b1⟩; have B1 := hide (((Below.refl _ _).alloc (Nat.le_refl _) _).trans (b1.mono (by simp))); clear b1)
    | (go_at_call 21; refine (wakes_any _).mono ?_; rintro e w3 ⟨rfl, b2⟩; replace B1 := hide (below_of (unhide B1) b2); clear b2))
  go_ret
  exact ⟨rfl, unhide B1⟩
set_option maxRecDepth 100000 in
set_option maxHeartbeats 1000000 in
theorem ord_8_g (s a b : Int) (hq : wrap64 ((IntKind.u64.wrap s).tmod 4) = 3) (ha : IsNum 8 a) (hb : ¬ IsNum 8 b) (w : World) :
    Calls Try.prog 5 #[.int .i64 s, .int .i64 a, .int .i64 b] w fun e w' => e = .returned (.bool true) ∧ Below w.heap.size w w' := by
  have c1 : Hid (∀ w, Calls Try.prog 9 #[.slice none 0 0, .int .i64 8, .int .i64 a] w fun e w' => ∃ g c', e = .returned (.tuple #[.slice (some ⟨g, 0, none⟩) 8 c', .int .i64 0]) ∧ (8 ≤ c' ∧ c' ≤ maxLen) ∧ Sl .u8 w' (.slice (some ⟨g, 0, none⟩) 8 c') 8 (ordX 8 a) ∧ Below w.heap.size w w') := hide (ord_put 8 a (by decide) ha)
  have c2 : Hid (∀ w, Calls Try.prog 9 #[.slice none 0 0, .int .i64 8, .int .i64 b] w fun e w' => e = .returned (.tuple #[.slice none 0 0, .int .i64 1]) ∧ w' = w) := hide (put_num _ 8 b (by decide) hb)
  have m1 := trivial
  clear ha hb
  go_enter Try.func5, Try.ntmps5
  go_wp2_with (first
    | (clear m1; go_at_call 9; refine (unhide c1 _).mono ?_; rintro e w1 ⟨g1, k1, rfl, ⟨l1, l2⟩, s1, b1⟩; have B1 := hide (((Below.refl _ _).alloc (Nat.le_refl _) _).trans (b1.mono (by simp))); clear b1 s1)
    | (go_at_call 9; refine (unhide c2 _).mono ?_; rintro e w2 ⟨rfl, hw⟩; obtain rfl := hw.symm)
    | (go_at_call 21; refine (wakes_any _).mono ?_; rintro e w3 ⟨rfl, b2⟩; replace B1 := hide (below_of (unhide B1) b2); clear b2))
  go_ret
  exact ⟨rfl, unhide B1⟩
set_option maxRecDepth 100000 in
set_option maxHeartbeats 1000000 in
theorem ord_8_t (s a b : Int) (hq : wrap64 ((IntKind.u64.wrap s).tmod 4) = 3) (ha : IsNum 8 a) (hb : IsNum 8 b) (w : World) :
    Calls Try.prog 5 #[.int .i64 s, .int .i64 a, .int .i64 b] w fun e w' => e = .returned (.bool true) ∧ Below w.heap.size w w' := by
  have c1 : Hid (∀ w, Calls Try.prog 9 #[.slice none 0 0, .int .i64 8, .int .i64 a] w fun e w' => ∃ g c', e = .returned (.tuple #[.slice (some ⟨g, 0, none⟩) 8 c', .int .i64 0]) ∧ (8 ≤ c' ∧ c' ≤ maxLen) ∧ Sl .u8 w' (.slice (some ⟨g, 0, none⟩) 8 c') 8 (ordX 8 a) ∧ Below w.heap.size w w') := hide (ord_put 8 a (by decide) ha)
  have c2 : Hid (∀ w, Calls Try.prog 9 #[.slice none 0 0, .int .i64 8, .int .i64 b] w fun e w' => ∃ g c', e = .returned (.tuple #[.slice (some ⟨g, 0, none⟩) 8 c', .int .i64 0]) ∧ (8 ≤ c' ∧ c' ≤ maxLen) ∧ Sl .u8 w' (.slice (some ⟨g, 0, none⟩) 8 c') 8 (ordX 8 b) ∧ Below w.heap.size w w') := hide (ord_put 8 b (by decide) hb)
  have na := ord_num 8 a (by decide) ha
  have nb := ord_num 8 b (by decide) hb
  have less := bl_less (ordX 8 a) (ordX 8 b) (ordX_bd _ _) (ordX_bd _ _) 8 0
  have same := bl_eq (ordX 8 a) (ordX 8 b) (ordX_bd _ _) (ordX_bd _ _) 8 0
  have low := hide (num_low (ordX 8 a) 8 (fun i _ => ordX_bd _ _ i) (by rw [na]; exact (lim_le 8 (by decide) a ha.2).2))
  rw [na, nb] at less same
  have NA := hide na
  have LE := hide less
  have SA := hide same
  have m1 := trivial
  clear ha hb na nb less same
  go_enter Try.func5, Try.ntmps5
  go_wp2_with (first
    | (clear m1; go_at_call 9; refine (unhide c1 _).mono ?_; rintro e w1 ⟨g1, k1, rfl, ⟨l1, l2⟩, s1, b1⟩; have S1 := hide s1; have B1 := hide (((Below.refl _ _).alloc (Nat.le_refl _) _).trans (b1.mono (by simp))); clear b1 s1; unfold maxLen at l2)
    | (go_at_call 9; refine (unhide c2 _).mono ?_; rintro e w2 ⟨g2, k2, rfl, ⟨l3, l4⟩, s2, b2⟩; replace S1 := hide ((unhide S1).below b2 (Nat.le_refl _)); have S2 := hide s2; replace B1 := hide (below_of (unhide B1) b2); clear b2 s2; unfold maxLen at l4))
  go_loopw [11, 12] (fun x xi w3 => ∃ k : Nat, k ≤ 8 ∧ xi = .int .i64 k ∧ x = .int .i64 (num (ordX 8 a) 0 k) ∧ ∃ m, w3 = w2.drewN m) (fun _ i _ => 8 - (intOf i).toNat)
  case atStart => exact ⟨0, by omega, rfl, rfl, 0, rfl⟩
  case round =>
    obtain ⟨k, hk, rfl, rfl, m, hw⟩ := hrel
    by_cases hlt : k < 8
    · obtain ⟨bb, off, he, _, hcell⟩ := (unhide S1).some (by omega)
      cases he
      have hck : wr.cell? ⟨g1, 0 + k, none⟩ = some (.int .u8 (ordX 8 a k)) := by rw [hw]; exact hcell k hlt
      rw [Nat.zero_add] at hck
      have hb := ordX_bd 8 a k
      have h0 := (num_in (ordX 8 a) (ordX_bd _ _) 0 k).1
      have hx := unhide low k hlt
      have hs : num (ordX 8 a) 0 (k + 1) = num (ordX 8 a) 0 k * 256 + ordX 8 a k := by rw [num, Nat.zero_add]
      have HS := hide hs
      have HW := hide hw
      obtain ⟨hb0, hb1⟩ := hb
      clear hcell hs hw
      generalize num (ordX 8 a) 0 k = y at *
      generalize ordX 8 a k = x at *
      go_wp2
      go_roundw
      case rel => exact ⟨k + 1, by omega, by go_num, by rw [unhide HS], m, unhide HW⟩
      case measure => simp [intOf]; omega
    · obtain rfl : k = 8 := by omega
      have hs1 : Hid ((convert 22 9 (.slice (some ⟨g1, 0, none⟩) 8 k1)).run Try.prog wr = .ok (.string ⟨(bl (ordX 8 a) 0 8).toArray⟩) wr) := by rw [hw]; exact hide (sl_string (unhide S1) (by omega) (ordX_bd _ _))
      have hs2 : Hid ((convert 22 9 (.slice (some ⟨g2, 0, none⟩) 8 k2)).run Try.prog wr = .ok (.string ⟨(bl (ordX 8 b) 0 8).toArray⟩) wr) := by rw [hw]; exact hide (sl_string (unhide S2) (by omega) (ordX_bd _ _))
      have B2 := hide (below_drewN (unhide B1) m)
      rw [← hw] at B2
      rw [unhide NA]
      replace hs1 := unhide hs1
      replace hs2 := unhide hs2
      have hl := unhide LE
      have hsm := unhide SA
      rw [show decide (a = b) = (a == b) from rfl] at hsm
      clear hw
      generalize bl (ordX 8 a) 0 8 = la at *
      generalize bl (ordX 8 b) 0 8 = lb at *
      go_wp2_with (first
        | (go_at_call 21; refine (wakes_any _).mono ?_; rintro e w3 ⟨rfl, b2⟩; replace B2 := hide (below_of (unhide B2) b2); clear b2))
      go_ret
      exact ⟨rfl, unhide B2⟩
end Go.Proofs.Ytkmljmfonhohbaa
