/- Walk of CodecBack, where all is right. -/
import Derived.Test.YtkmljmfonhohbaaK1
namespace Go.Proofs.Ytkmljmfonhohbaa
open Go.RowKit

theorem owns_some {e : TypeId} {w : World} {B n : Nat} {v : Value} {L : List Value} (h : w.ownsRow B e 1 v n L) (hn : 0 < n) : ∃ g cap, v = .slice (some ⟨g, 0, none⟩) n cap ∧ n ≤ cap ∧ cap ≤ maxLen := by
  rcases h.2 with ⟨rfl, rfl⟩ | ⟨g, cap, cur, rfl, hb, hg, hc, hm, _, _⟩
  · omega
  · exact ⟨g, cap, rfl, hc, hm⟩
theorem Sl.take {k : IntKind} {w : World} {a : Addr} {n cap j : Nat} {F : Nat → Int} (h : Sl k w (.slice (.some a) n cap) n F) (hn : 0 < n) (hj : j ≤ n) : Sl k w (.slice (.some a) j cap) j F := by
  rcases h with ⟨h, _⟩ | ⟨b, off, cap', he, h1, h2, h3, h4⟩
  · omega
  · cases he
    exact .inr ⟨b, off, cap, rfl, by omega, h2, h3, fun i hi => h4 i (by omega)⟩

set_option maxRecDepth 100000 in
set_option maxHeartbeats 1000000 in
theorem back_ok (F G : Nat → Int) (p q : Option Addr) (m k cb cl S : Nat) (n : Int) (w : World) (hb : Sl .u8 w (.slice p m cb) m F) (hf : ∀ i, i < m → 0 ≤ F i ∧ F i < 256) (hl : Sl .i64 w (.slice q k cl) k G) (hm : m ≤ 300) (hk : k ≤ 200) (hs : IsZ S) (hn : IsNum S n) (hg : ∀ i, i < k → IsB (G i)) :
    Calls Try.prog 4 #[.slice p m cb, .int .i64 (S : Int), .int .i64 n, .slice q k cl] w fun e w' => e = .returned (.bool true) ∧ Below w.heap.size w w' := by
  have hS : 1 ≤ S ∧ S ≤ 8 := by rcases hs with h | h | h | h <;> omega
  have c := hide (put_is F (.slice p m cb) m S n hs hn w hb (by omega))
  have c2 : Hid (∀ v w', w'.ownsRow w.heap.size 5 1 v (m + S) (vL .u8 (putF F m S n) (m + S)) → Below w.heap.size w w' → Calls Try.prog 11 #[v, .slice q k cl] w' fun e w2 => ∃ g c', e = .returned (.tuple #[.slice (some ⟨g, 0, none⟩) (m + S + 1 + k) c', .int .i64 0]) ∧ m + S + 1 + k ≤ c' ∧ c' ≤ maxLen ∧ Sl .u8 w2 (.slice (some ⟨g, 0, none⟩) (m + S + 1 + k) c') (m + S + 1 + k) (listF (putF F m S n) (m + S) k G) ∧ Below w.heap.size w w2) := by
    refine hide fun v w' h1 h2 => (putl_is _ G v _ (m + S) k w' (sl_of_owns h1) (hl.below h2 (Nat.le_refl _)) (by omega) (by omega) hg).mono ?_
    rintro e w2 ⟨v', rfl, o, b⟩
    obtain ⟨g, c', rfl, l1, l2⟩ := owns_some o (by omega)
    exact ⟨g, c', rfl, l1, l2, sl_of_owns o, below_of h2 b⟩
  have hY : ∀ i, i < m + S + 1 + k → 0 ≤ listF (putF F m S n) (m + S) k G i ∧ listF (putF F m S n) (m + S) k G i < 256 := listF_bd _ _ _ _ (fun i _ => putF_bd F m S n hf i) (by omega) hg
  have hnum : num (listF (putF F m S n) (m + S) k G) m S = n := by
    rw [num_congr (G := putF F m S n) (fun i hi => listF_ahead _ _ _ _ _ (by omega)), num_put_all F m S n hs hn]
  have c3 : Hid (∀ v w', Sl .u8 w' v (m + S + 1 + k) (listF (putF F m S n) (m + S) k G) → Calls Try.prog 10 #[v, .int .i64 (m : Int), .int .i64 (S : Int)] w' fun e w2 => e = .returned (.tuple #[.int .i64 n, .int .i64 ((m : Int) + S), .int .i64 0]) ∧ w2 = w') := by
    refine hide fun v w' h => (get_is _ v (m + S + 1 + k) m S hs w' h hY (by omega)).mono ?_
    rintro e w2 ⟨rfl, rfl⟩
    rw [hnum, getA, if_pos (lim_le S hs n hn.2).2]
    exact ⟨rfl, rfl⟩
  have c4 : Hid (∀ v w', Sl .u8 w' v (m + S + 1 + k) (listF (putF F m S n) (m + S) k G) → Calls Try.prog 12 #[v, .int .i64 ((m : Int) + S)] w' fun e w2 => ∃ v', e = .returned (.tuple #[v', .int .i64 ((m : Int) + S + 1 + k), .int .i64 0]) ∧ Sl .i64 w2 v' k G ∧ Below w'.heap.size w' w2) := by
    refine hide fun v w' h => ?_
    have h2 := getl_is _ v (m + S + 1 + k) (m + S) k w' h hY (by omega) (by omega) (listF_len _ _ _ _) (by omega)
    rw [Int.natCast_add] at h2
    refine h2.mono ?_
    rintro e w2 ⟨v', rfl, o, b⟩
    exact ⟨v', rfl, (sl_of_owns o).congr fun i _ => listF_at _ _ _ _ _, b⟩
  have c5 : Hid (∀ v w', Below w.heap.size w w' → Sl .i64 w' v k G → Calls Try.prog 14 #[v, .slice q k cl] w' fun e w2 => e = .returned (.bool true) ∧ Below w'.heap.size w' w2) :=
    hide fun v w' h1 h2 => ints_b G v _ k w' h2 (hl.below h1 (Nat.le_refl _))
  have c6 : Hid (∀ g c' w', Below w.heap.size w w' → Sl .u8 w' (.slice (some ⟨g, 0, none⟩) (m + S + 1 + k) c') (m + S + 1 + k) (listF (putF F m S n) (m + S) k G) → Calls Try.prog 13 #[.slice (some ⟨g, 0, none⟩) m c', .slice p m cb] w' fun e w2 => e = .returned (.bool true) ∧ Below w'.heap.size w' w2) := by
    refine hide fun g c' w' h1 h2 => bytes_b F _ _ m w' ((h2.take (by omega) (by omega)).congr fun i hi => ?_) (hb.below h1 (Nat.le_refl _))
    rw [listF_ahead _ _ _ _ _ (by omega), putF_ahead _ _ _ _ _ hi]
  have d1 : decide ((300 : Int) < (m : Int)) = false := decide_eq_false (by omega)
  have d2 : decide ((200 : Int) < (k : Int)) = false := decide_eq_false (by omega)
  clear hs hn hb hl hg hY hnum hf
  go_enter Try.func4, Try.ntmps4
  go_wp2_with (first
    | (go_at_call 9; refine (unhide c).mono ?_; rintro e w1 ⟨v1, rfl, o1, b1⟩; have O1 := hide o1; have B1 := hide b1; clear o1 b1)
    | (go_at_call 11; refine (unhide c2 _ _ (unhide O1) (unhide B1)).mono ?_; rintro e w2 ⟨g, c', rfl, l1, l2, s2, b2⟩; unfold maxLen at l2; have S2 := hide s2; replace B1 := hide b2; clear b2 s2)
    | (go_at_call 10; refine (unhide c3 _ _ (unhide S2)).mono ?_; rintro e w3 ⟨rfl, hw⟩; obtain rfl := hw.symm)
    | (go_at_call 12; refine (unhide c4 _ _ (unhide S2)).mono ?_; rintro e w4 ⟨v4, rfl, s4, b4⟩; have S4 := hide s4; replace S2 := hide ((unhide S2).below b4 (Nat.le_refl _)); replace B1 := hide (below_of (unhide B1) b4); clear b4 s4)
    | (go_at_call 14; refine (unhide c5 _ _ (unhide B1) (unhide S4)).mono ?_; rintro e w5 ⟨rfl, b5⟩; replace S2 := hide ((unhide S2).below b5 (Nat.le_refl _)); replace B1 := hide (below_of (unhide B1) b5); clear b5)
    | (go_at_call 13; refine (unhide c6 _ _ _ (unhide B1) (unhide S2)).mono ?_; rintro e w5 ⟨rfl, b5⟩; replace B1 := hide (below_of (unhide B1) b5); clear b5)
    | (go_at_call 21; refine (wakes_any _).mono ?_; rintro e w2 ⟨rfl, b2⟩; replace B1 := hide (below_of (unhide B1) b2); clear b2))
  go_ret
  exact ⟨rfl, unhide B1⟩
end Go.Proofs.Ytkmljmfonhohbaa
