/- Plain facts of layer 4; walks of isSize, Size, limit, fits, In, Key, Here, Fits. -/
import Derived.Test.YtkmljmfonhohbaaRows
import Derived.WalkKit
import Derived.WalkSpells
import Derived.StillTactics
import Derived.Laws.Pointers
import Derived.RowKit3
import Derived.Deep.QuietTactic
import Derived.BigQuiet
import Derived.Deep.OwnRows
import Derived.Laws.Rows
import Derived.Laws.Tables
import Derived.Laws.AppendOwn
import Derived.Laws.AppendOwnNone
import Derived.Laws.OwnMore
import Derived.OwnWalk
import Derived.Deep.DeepCutAuto
namespace Go.Proofs.Ytkmljmfonhohbaa
open Go.RowKit

/-- A proposition that no walk looks into. -/
def Hid (p : Prop) : Prop := p
theorem hide {p : Prop} (h : p) : Hid p := h
theorem unhide {p : Prop} (h : Hid p) : p := h

/-- A size that a number may have. -/
abbrev IsZ (s : Int) : Prop := s = 1 ∨ s = 2 ∨ s = 4 ∨ s = 8
/-- The least number that is too great. -/
def lim (s : Int) : Int := if s = 1 then 256 else if s = 2 then 65536 else if s = 4 then 4294967296 else 4611686018427387904

theorem isSize_t (s : Int) (h : IsZ s) (w : World) : Calls Try.prog 22 #[.int .i64 s] w fun e w' => e = .returned (.bool true) ∧ w' = w := by
  rcases h with rfl | rfl | rfl | rfl <;>
  · go_enter Try.func22, Try.ntmps22
    go_wp2
    go_ret
    exact ⟨rfl, rfl⟩
theorem isSize_f (s : Int) (h : ¬ IsZ s) (w : World) : Calls Try.prog 22 #[.int .i64 s] w fun e w' => e = .returned (.bool false) ∧ w' = w := by
  have h1 : (s == 1) = false := by simp; intro e; exact h (.inl e)
  have h2 : (s == 2) = false := by simp; intro e; exact h (.inr (.inl e))
  have h4 : (s == 4) = false := by simp; intro e; exact h (.inr (.inr (.inl e)))
  have h8 : (s == 8) = false := by simp; intro e; exact h (.inr (.inr (.inr e)))
  clear h
  go_enter Try.func22, Try.ntmps22
  go_wp2
  go_ret
  exact ⟨rfl, rfl⟩
theorem size_t (s : Int) (h : IsZ s) (w : World) : Calls Try.prog 15 #[.int .i64 s] w fun e w' => e = .returned (.bool true) ∧ w' = w := by
  rcases h with rfl | rfl | rfl | rfl <;>
  · go_enter Try.func15, Try.ntmps15
    go_wp2
    go_ret
    exact ⟨rfl, rfl⟩
theorem size_f (s : Int) (h : ¬ IsZ s) (w : World) : Calls Try.prog 15 #[.int .i64 s] w fun e w' => e = .returned (.bool false) ∧ w' = w := by
  have h1 : (s == 1) = false := by simp; intro e; exact h (.inl e)
  have h2 : (s == 2) = false := by simp; intro e; exact h (.inr (.inl e))
  have h4 : (s == 4) = false := by simp; intro e; exact h (.inr (.inr (.inl e)))
  have h8 : (s == 8) = false := by simp; intro e; exact h (.inr (.inr (.inr e)))
  clear h
  go_enter Try.func15, Try.ntmps15
  go_wp2
  go_ret
  exact ⟨rfl, rfl⟩
theorem limit_is (s : Int) (h : IsZ s) (w : World) : Calls Try.prog 23 #[.int .i64 s] w fun e w' => e = .returned (.int .i64 (lim s)) ∧ w' = w := by
  rcases h with rfl | rfl | rfl | rfl <;>
  · go_enter Try.func23, Try.ntmps23
    go_wp2
    go_ret
    exact ⟨rfl, rfl⟩
theorem in_any (n lo hi : Int) (w : World) : Calls Try.prog 20 #[.int .i64 n, .int .i64 lo, .int .i64 hi] w fun e w' => e = .returned (.bool (decide (lo ≤ n ∧ n ≤ hi))) ∧ w' = w := by
  by_cases h1 : lo ≤ n
  · by_cases h2 : n ≤ hi
    · have e : decide (lo ≤ n ∧ n ≤ hi) = true := decide_eq_true ⟨h1, h2⟩
      rw [e]
      clear e
      go_enter Try.func20, Try.ntmps20
      go_wp2
      go_ret
      exact ⟨rfl, rfl⟩
    · have e : decide (lo ≤ n ∧ n ≤ hi) = false := decide_eq_false (fun h => h2 h.2)
      rw [e]
      clear e
      go_enter Try.func20, Try.ntmps20
      go_wp2
      go_ret
      exact ⟨rfl, rfl⟩
  · have e : decide (lo ≤ n ∧ n ≤ hi) = false := decide_eq_false (fun h => h1 h.1)
    rw [e]
    clear e
    go_enter Try.func20, Try.ntmps20
    go_wp2
    go_ret
    exact ⟨rfl, rfl⟩
theorem key_any (n : Int) (w : World) : Calls Try.prog 26 #[.int .i64 n] w fun e w' => e = .returned (.bool (decide (0 ≤ n ∧ n ≤ 4611686018427387903))) ∧ w' = w := by
  go_enter Try.func26, Try.ntmps26
  go_wp2_with (go_at_call 20; refine (in_any _ _ _ _).mono ?_; rintro e w1 ⟨rfl, rfl⟩)
  go_ret
  exact ⟨by simp [Bool.decide_and], rfl⟩
/-- A number of so many bytes. -/
abbrev IsNum (s n : Int) : Prop := 0 ≤ n ∧ n < lim s
theorem fits16_t (s n : Int) (hs : IsZ s) (h : IsNum s n) (w : World) : Calls Try.prog 16 #[.int .i64 s, .int .i64 n] w fun e w' => e = .returned (.bool true) ∧ w' = w := by
  obtain ⟨h0, h1⟩ := h
  have hk : decide (0 ≤ n ∧ n ≤ 4611686018427387903) = true := decide_eq_true (by rcases hs with rfl | rfl | rfl | rfl <;> simp [lim] at h1 <;> omega)
  have c := hide (key_any n)
  rw [hk] at c
  clear hk
  rcases hs with rfl | rfl | rfl | rfl <;> simp [lim] at h1 <;>
  · go_enter Try.func16, Try.ntmps16
    go_wp2_with (go_at_call 26; refine (unhide c _).mono ?_; rintro e w1 ⟨rfl, rfl⟩)
    go_ret
    exact ⟨rfl, rfl⟩
theorem fits16_f (s n : Int) (hs : IsZ s) (h : ¬ IsNum s n) (w : World) : Calls Try.prog 16 #[.int .i64 s, .int .i64 n] w fun e w' => e = .returned (.bool false) ∧ w' = w := by
  by_cases hk0 : 0 ≤ n ∧ n ≤ 4611686018427387903
  · have hk : decide (0 ≤ n ∧ n ≤ 4611686018427387903) = true := decide_eq_true hk0
    have c := hide (key_any n)
    rw [hk] at c
    clear hk
    have h1 : lim s ≤ n := by have : ¬ n < lim s := fun q => h ⟨hk0.1, q⟩; omega
    clear h
    rcases hs with rfl | rfl | rfl | rfl <;> simp [lim] at h1
    iterate 3
      · have hd := decide_eq_false (Int.not_lt.2 h1)
        go_enter Try.func16, Try.ntmps16
        go_wp2_with (go_at_call 26; refine (unhide c _).mono ?_; rintro e w1 ⟨rfl, rfl⟩)
        go_ret
        exact ⟨rfl, rfl⟩
    · omega
  · have hk : decide (0 ≤ n ∧ n ≤ 4611686018427387903) = false := decide_eq_false hk0
    have c := hide (key_any n)
    rw [hk] at c
    clear hk hk0 h
    go_enter Try.func16, Try.ntmps16
    go_wp2_with (go_at_call 26; refine (unhide c _).mono ?_; rintro e w1 ⟨rfl, rfl⟩)
    go_ret
    exact ⟨rfl, rfl⟩
/-- So many bytes stand at a place. -/
abbrev Here (m : Nat) (a z : Int) : Prop := 0 ≤ a ∧ a + z ≤ m
theorem fits_any (p : Option Addr) (m cap : Nat) (a z : Int) (hm : m ≤ maxLen) (hz : 0 ≤ z) (hz2 : z ≤ 1000) (w : World) :
    Calls Try.prog 25 #[.slice p m cap, .int .i64 a, .int .i64 z] w fun e w' => e = .returned (.bool (decide (Here m a z))) ∧ w' = w := by
  unfold maxLen at hm
  by_cases h1 : 0 ≤ a
  · have hsub : wrap64 ((m : Int) - z) = m - z := by unfold wrap64; omega
    by_cases h2 : a ≤ m - z
    · have e : decide (Here m a z) = true := decide_eq_true ⟨h1, by omega⟩
      rw [e]
      clear e
      go_enter Try.func25, Try.ntmps25
      go_wp2
      go_ret
      exact ⟨rfl, rfl⟩
    · have e : decide (Here m a z) = false := decide_eq_false (fun h => h2 (by have := h.2; omega))
      rw [e]
      clear e
      go_enter Try.func25, Try.ntmps25
      go_wp2
      go_ret
      exact ⟨rfl, rfl⟩
  · have e : decide (Here m a z) = false := decide_eq_false (fun h => h1 h.1)
    rw [e]
    clear e
    go_enter Try.func25, Try.ntmps25
    go_wp2
    go_ret
    exact ⟨rfl, rfl⟩
theorem here_any (p : Option Addr) (m cap : Nat) (a z : Int) (hm : m ≤ maxLen) (hz : 0 ≤ z) (w : World) :
    Calls Try.prog 18 #[.slice p m cap, .int .i64 a, .int .i64 z] w fun e w' => e = .returned (.bool (decide (Here m a z))) ∧ w' = w := by
  unfold maxLen at hm
  by_cases h1 : 0 ≤ a ∧ a ≤ m
  · have c := hide (in_any a 0 m)
    rw [decide_eq_true h1] at c
    have hsub : wrap64 ((m : Int) - a) = m - a := by unfold wrap64; omega
    by_cases h2 : z ≤ m - a
    · have e : decide (Here m a z) = true := decide_eq_true ⟨h1.1, by omega⟩
      rw [e]
      clear e
      go_enter Try.func18, Try.ntmps18
      go_wp2_with (go_at_call 20; refine (unhide c _).mono ?_; rintro e w1 ⟨rfl, rfl⟩)
      go_ret
      exact ⟨rfl, rfl⟩
    · have e : decide (Here m a z) = false := decide_eq_false (fun h => h2 (by have := h.2; omega))
      have hd := decide_eq_false h2
      rw [e]
      clear e
      go_enter Try.func18, Try.ntmps18
      go_wp2_with (go_at_call 20; refine (unhide c _).mono ?_; rintro e w1 ⟨rfl, rfl⟩)
      go_ret
      exact ⟨rfl, rfl⟩
  · have c := hide (in_any a 0 m)
    rw [decide_eq_false h1] at c
    have e : decide (Here m a z) = false := decide_eq_false (fun h => h1 ⟨h.1, by have := h.2; omega⟩)
    rw [e]
    clear e h1
    go_enter Try.func18, Try.ntmps18
    go_wp2_with (go_at_call 20; refine (unhide c _).mono ?_; rintro e w1 ⟨rfl, rfl⟩)
    go_ret
    exact ⟨rfl, rfl⟩
end Go.Proofs.Ytkmljmfonhohbaa
