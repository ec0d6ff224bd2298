/- Walks of CodecBack. -/
import Derived.Test.YtkmljmfonhohbaaB2
namespace Go.Proofs.Ytkmljmfonhohbaa
open Go.RowKit

theorem num_congr {F G : Nat → Int} {a : Nat} : ∀ {k : Nat}, (∀ i, i < k → F (a + i) = G (a + i)) → num F a k = num G a k
  | 0, _ => rfl
  | k + 1, h => by rw [num, num, num_congr (k := k) (fun i hi => h i (by omega)), h k (by omega)]
theorem num_put (F : Nat → Int) (m S : Nat) (n : Int) (h0 : 0 ≤ n) (h1 : n < 2 ^ (8 * S)) : ∀ k, k ≤ S → num (putF F m S n) m k = n / 2 ^ (8 * (S - k))
  | 0, _ => by rw [num, Nat.sub_zero, Int.ediv_eq_zero_of_lt h0 h1]
  | k + 1, hk => by
    rw [num, num_put F m S n h0 h1 k (by omega)]
    unfold putF
    rw [if_neg (by omega), Nat.add_sub_cancel_left]
    have e : (2 : Int) ^ (8 * (S - k)) = 2 ^ (8 * (S - (k + 1))) * 256 := by
      rw [show 8 * (S - k) = 8 * (S - (k + 1)) + 8 by omega, Int.pow_add]
      rfl
    rw [e, ← Int.ediv_ediv_of_nonneg (Int.pow_nonneg (by decide)), show S - 1 - k = S - (k + 1) by omega]
    omega
theorem lim_le (S : Nat) (hs : IsZ S) (n : Int) (h : n < lim S) : n < 2 ^ (8 * S) ∧ n < 4611686018427387904 := by
  have : S = 1 ∨ S = 2 ∨ S = 4 ∨ S = 8 := by rcases hs with h | h | h | h <;> omega
  rcases this with rfl | rfl | rfl | rfl <;> simp [lim] at h <;> omega
theorem num_put_all (F : Nat → Int) (m S : Nat) (n : Int) (hs : IsZ S) (h : IsNum S n) : num (putF F m S n) m S = n := by
  rw [num_put F m S n h.1 (lim_le S hs n h.2).1 S (Nat.le_refl _), Nat.sub_self]
  simp
theorem putF_bd (F : Nat → Int) (m S : Nat) (n : Int) (hF : ∀ i, i < m → 0 ≤ F i ∧ F i < 256) (i : Nat) : 0 ≤ putF F m S n i ∧ putF F m S n i < 256 := by
  unfold putF
  split
  · exact hF i (by assumption)
  · omega
theorem listF_bd (F : Nat → Int) (m n : Nat) (G : Nat → Int) (hF : ∀ i, i < m → 0 ≤ F i ∧ F i < 256) (hn : n ≤ 255) (hG : ∀ i, i < n → IsB (G i)) (i : Nat) (hi : i < m + 1 + n) : 0 ≤ listF F m n G i ∧ listF F m n G i < 256 := by
  unfold listF
  split
  · exact hF i (by assumption)
  · split
    · omega
    · have := hG (i - m - 1) (by omega)
      unfold IsB at this
      omega

theorem put_err (v : Value) (s n : Int) (h : ¬ (IsZ s ∧ IsNum s n)) (w : World) :
    Calls Try.prog 9 #[v, .int .i64 s, .int .i64 n] w fun e w' => e = .returned (.tuple #[.slice none 0 0, .int .i64 1]) ∧ w' = w := by
  by_cases hs : IsZ s
  · exact put_num v s n hs (fun q => h ⟨hs, q⟩) w
  · exact put_size v s n hs w

theorem back_err (p q : Option Addr) (m k cb cl : Nat) (s n : Int) (w : World) (hm : m ≤ 300) (hk : k ≤ 200) (h : ¬ (IsZ s ∧ IsNum s n)) :
    Calls Try.prog 4 #[.slice p m cb, .int .i64 s, .int .i64 n, .slice q k cl] w fun e w' => e = .returned (.bool true) ∧ Below w.heap.size w w' := by
  have c := hide (put_err (.slice p m cb) s n h)
  clear h
  have d1 : decide ((300 : Int) < (m : Int)) = false := decide_eq_false (by omega)
  have d2 : decide ((200 : Int) < (k : Int)) = false := decide_eq_false (by omega)
  go_enter Try.func4, Try.ntmps4
  go_wp2_with (first
    | (go_at_call 9; refine (unhide c _).mono ?_; rintro e w1 ⟨rfl, hw⟩; obtain rfl := hw.symm)
    | (go_at_call 21; refine (wakes_any _).mono ?_; rintro e w2 ⟨rfl, hb⟩))
  go_ret
  exact ⟨rfl, hb⟩
theorem back_long (p q : Option Addr) (m k cb cl : Nat) (s n : Int) (w : World) (h1 : m ≤ maxLen) (h2 : k ≤ maxLen) (h : 300 < m ∨ 200 < k) :
    Calls Try.prog 4 #[.slice p m cb, .int .i64 s, .int .i64 n, .slice q k cl] w fun e w' => e = .returned (.bool true) ∧ Below w.heap.size w w' := by
  unfold maxLen at h1 h2
  by_cases hm : 300 < m
  · have d1 : decide ((300 : Int) < (m : Int)) = true := decide_eq_true (by omega)
    clear h
    go_enter Try.func4, Try.ntmps4
    go_wp2
    go_ret
    exact ⟨rfl, Below.refl _ _⟩
  · have d1 : decide ((300 : Int) < (m : Int)) = false := decide_eq_false (by omega)
    have d2 : decide ((200 : Int) < (k : Int)) = true := decide_eq_true (by omega)
    clear h
    go_enter Try.func4, Try.ntmps4
    go_wp2
    go_ret
    exact ⟨rfl, Below.refl _ _⟩
theorem back_bad (F G : Nat → Int) (p q : Option Addr) (m k cb cl S : Nat) (n : Int) (w : World) (hb : Sl .u8 w (.slice p m cb) m F) (hl : Sl .i64 w (.slice q k cl) k G) (hm : m ≤ 300) (hk : k ≤ 200) (hs : IsZ S) (hn : IsNum S n) (hg : ¬ ∀ i, i < k → IsB (G i)) :
    Calls Try.prog 4 #[.slice p m cb, .int .i64 (S : Int), .int .i64 n, .slice q k cl] w fun e w' => e = .returned (.bool true) ∧ Below w.heap.size w w' := by
  have c := hide (put_is F (.slice p m cb) m S n hs hn w hb (by omega))
  have c2 : Hid (∀ v w', w'.ownsRow w.heap.size 5 1 v (m + S) (vL .u8 (putF F m S n) (m + S)) → Below w.heap.size w w' → Calls Try.prog 11 #[v, .slice q k cl] w' fun e w2 => e = .returned (.tuple #[.slice none 0 0, .int .i64 1]) ∧ Below w'.heap.size w' w2) :=
    hide fun v w' h1 h2 => putl_bad _ G v _ (m + S) k w' (sl_of_owns h1) (hl.below h2 (Nat.le_refl _)) (by rcases hs with h | h | h | h <;> omega) (by omega) hg
  have d1 : decide ((300 : Int) < (m : Int)) = false := decide_eq_false (by omega)
  have d2 : decide ((200 : Int) < (k : Int)) = false := decide_eq_false (by omega)
  clear hs hn hb hl hg
  go_enter Try.func4, Try.ntmps4
  go_wp2_with (first
    | (go_at_call 9; refine (unhide c).mono ?_; rintro e w1 ⟨v1, rfl, o1, b1⟩; have O1 := hide o1; have B1 := hide b1; clear o1 b1)
    | (go_at_call 11; refine (unhide c2 _ _ (unhide O1) (unhide B1)).mono ?_; rintro e w2 ⟨rfl, b2⟩; replace B1 := hide (below_of (unhide B1) b2); clear b2)
    | (go_at_call 21; refine (wakes_any _).mono ?_; rintro e w2 ⟨rfl, b2⟩; replace B1 := hide (below_of (unhide B1) b2); clear b2))
  go_ret
  exact ⟨rfl, unhide B1⟩
end Go.Proofs.Ytkmljmfonhohbaa
