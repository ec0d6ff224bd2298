/- Walks of route's small functions: comparing, keys, how far behind, steps back. -/
import Derived.Test.YtmdkaomjjglfjaaDoorP2
import Derived.BigQuiet
namespace Go.Proofs.YtmdkaomjjglfjaaDoor
open Go.RowKit

/-- What a comparison says. -/
def cmpI (x y : Int) : Int := if x < y then -1 else if y < x then 1 else 0
theorem isnan_is (x : Int) (w : World) :
    Calls Tryd.prog 62 #[.int .i64 x] w fun e w' => e = .returned (.bool false) ∧ w' = w := by
  go_enter Tryd.func62, Tryd.ntmps62
  go_wp2
  go_ret
  exact ⟨by simp, rfl⟩
theorem compare_is (x y : Int) (w : World) :
    Calls Tryd.prog 54 #[.int .i64 x, .int .i64 y] w fun e w' => e = .returned (.int .i64 (cmpI x y)) ∧ w' = w := by
  have c := hide isnan_is
  obtain ⟨r, hr⟩ : ∃ r, cmpI x y = r := ⟨_, rfl⟩
  rw [hr]
  unfold cmpI at hr
  by_cases h1 : x < y
  · rw [if_pos h1] at hr
    subst hr
    go_enter Tryd.func54, Tryd.ntmps54
    go_wp2_with (go_at_call 62; refine (unhide c _ _).mono ?_; rintro e w1 ⟨rfl, rfl⟩)
    go_ret
    exact ⟨rfl, rfl⟩
  · rw [if_neg h1] at hr
    by_cases h2 : y < x
    · rw [if_pos h2] at hr
      subst hr
      go_enter Tryd.func54, Tryd.ntmps54
      go_wp2_with (go_at_call 62; refine (unhide c _ _).mono ?_; rintro e w1 ⟨rfl, rfl⟩)
      go_ret
      exact ⟨rfl, rfl⟩
    · rw [if_neg h2] at hr
      subst hr
      go_enter Tryd.func54, Tryd.ntmps54
      go_wp2_with (go_at_call 62; refine (unhide c _ _).mono ?_; rintro e w1 ⟨rfl, rfl⟩)
      go_ret
      exact ⟨rfl, rfl⟩
theorem keyof_is (n : Int) (h : IsN n) (w : World) (hG : Glob w) :
    Calls Tryd.prog 56 #[.int .i64 n] w fun e w' => e = .returned (.int .i64 (nk n)) ∧ w' = w := by
  have c := hide (node_is n h w hG)
  clear h
  generalize nk n = k at *
  go_enter Tryd.func56, Tryd.ntmps56
  go_wp2_with (go_at_call 28; refine (unhide c).mono ?_; rintro e w1 ⟨rfl, rfl⟩)
  go_ret
  exact ⟨rfl, rfl⟩
theorem rb_is (k n : Int) (hk : Key k) (h : IsN n) (w : World) (hG : Glob w) :
    Calls Tryd.prog 55 #[.int .i64 k, .int .i64 n] w fun e w' => e = .returned (.int .i64 ((nk n - k) % 4611686018427387904)) ∧ w' = w := by
  have c := hide (keyof_is n h w hG)
  have c2 := hide (behind_is k (nk n) hk (nk_key n h) w)
  clear h hk
  generalize (nk n - k) % 4611686018427387904 = r at *
  generalize nk n = m at *
  go_enter Tryd.func55, Tryd.ntmps55
  go_wp2_with (first
    | (go_at_call 56; refine (unhide c).mono ?_; rintro e w1 ⟨rfl, rfl⟩)
    | (go_at_call 31; refine (unhide c2).mono ?_; rintro e w1 ⟨rfl, rfl⟩))
  go_ret
  exact ⟨rfl, rfl⟩
theorem pow_bd (n : Nat) (h : n ≤ 61) : (1 : Int) ≤ 2 ^ n ∧ (2 : Int) ^ n ≤ 2305843009213693952 := by
  have : ∀ m : Fin 62, (1 : Int) ≤ 2 ^ m.val ∧ (2 : Int) ^ m.val ≤ 2305843009213693952 := by decide +kernel
  exact this ⟨n, by omega⟩
theorem back_is (k : Int) (n : Nat) (hk : Key k) (hn : n ≤ 61) (w : World) :
    Calls Tryd.prog 58 #[.int .i64 k, .int .i64 n] w fun e w' => e = .returned (.tuple #[.int .i64 ((k - 2 ^ n) % 4611686018427387904), .int .i64 0]) ∧ w' = w := by
  have hb := pow_bd n hn
  obtain ⟨k1, k2⟩ := hk
  obtain ⟨p1, p2⟩ := hb
  obtain ⟨r, hr⟩ : ∃ r, (k - 2 ^ n) % 4611686018427387904 = r := ⟨_, rfl⟩
  rw [hr]
  by_cases h : k < 2 ^ n
  · have hr2 : r = k - 2 ^ n + 4611686018427387904 := by omega
    clear hr
    subst hr2
    go_enter Tryd.func58, Tryd.ntmps58
    go_wp2_with (first
      | (go_at_call 38; refine (check_in _ (by assumption) (by assumption) _).mono ?_; rintro e w1 ⟨rfl, rfl⟩)
      | (go_at_call 39; refine (onring_low _ (by omega) (by omega) _).mono ?_; rintro e w1 ⟨rfl, rfl⟩))
    go_ret2
    exact ⟨rfl, rfl⟩
  · have hr2 : r = k - 2 ^ n := by omega
    clear hr
    subst hr2
    go_enter Tryd.func58, Tryd.ntmps58
    go_wp2_with (first
      | (go_at_call 38; refine (check_in _ (by assumption) (by assumption) _).mono ?_; rintro e w1 ⟨rfl, rfl⟩)
      | (go_at_call 39; refine (onring_high _ (by omega) _).mono ?_; rintro e w1 ⟨rfl, rfl⟩))
    go_ret2
    exact ⟨rfl, rfl⟩
theorem stp_key (s : Int) (b : Nat) : Key (stp s b) := by unfold stp; constructor <;> omega
theorem step_is (s : Int) (b : Nat) (hs : IsN s) (hb : b < 62) (w : World) (hG : Glob w) :
    Calls Tryd.prog 47 #[.int .i64 s, .int .i64 b] w fun e w' => e = .returned (.int .i64 (stp s b)) ∧ w' = w := by
  have c := hide (keyof_is s hs w hG)
  have c2 := hide (back_is (nk s) b (nk_key s hs) (by omega) w)
  have e : (nk s - 2 ^ b) % 4611686018427387904 = stp s b := rfl
  rw [e] at c2
  clear e hs
  generalize stp s b = r at *
  generalize nk s = m at *
  go_enter Tryd.func47, Tryd.ntmps47
  go_wp2_with (first
    | (go_at_call 56; refine (unhide c).mono ?_; rintro e w1 ⟨rfl, rfl⟩)
    | (go_at_call 58; refine (unhide c2).mono ?_; rintro e w1 ⟨rfl, rfl⟩))
  go_ret
  exact ⟨rfl, rfl⟩
end Go.Proofs.YtmdkaomjjglfjaaDoor
