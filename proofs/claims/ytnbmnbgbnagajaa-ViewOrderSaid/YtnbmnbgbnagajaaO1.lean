/- Who is heard in whatever order: plain facts. -/
import Derived.Test.YtnbmnbgbnagajaaX0
namespace Go.Proofs.Ytnbmnbgbnagajaa
open Go.RowKit

theorem hrF_at (F : Nat → Int) (a : Nat) (x : Int) : hrF F a x (a * 2) = (if F (a * 2) < x then x else F (a * 2)) := by
  unfold hrF
  by_cases h : F (a * 2) ≤ x
  · rw [if_pos h, if_pos rfl]
    split <;> omega
  · rw [if_neg h, if_neg (by omega)]
theorem hrF_off (F : Nat → Int) (a k : Nat) (x : Int) (h : k ≠ a) : hrF F a x (k * 2) = F (k * 2) ∧ hrF F a x (k * 2 + 1) = F (k * 2 + 1) := by
  unfold hrF
  constructor
  · split
    · rw [if_neg (by omega), if_neg (by omega)]
    · rfl
  · split
    · rw [if_neg (by omega), if_neg (by omega)]
    · rfl
theorem hrF_age (F : Nat → Int) (a : Nat) (x : Int) : hrF F a x (a * 2 + 1) = (if F (a * 2) ≤ x then 0 else F (a * 2 + 1)) := by
  unfold hrF
  by_cases h : F (a * 2) ≤ x
  · rw [if_pos h, if_pos h, if_neg (by omega), if_pos rfl]
  · rw [if_neg h, if_neg h]
theorem rt_hr {n : Nat} {F : Nat → Int} {a : Nat} {x : Int} (h : rt n F = true) (hx : 1 ≤ x ∧ x ≤ 1073741824) : rt n (hrF F a x) = true := by
  rw [rt_iff] at h ⊢
  obtain ⟨h1, h2, h3⟩ := h
  refine ⟨h1, h2, fun i hi => ?_⟩
  have := h3 i hi
  by_cases e : i = a
  · subst e
    rw [hrF_at, hrF_age]
    split <;> split <;> omega
  · rw [(hrF_off F a i x e).1, (hrF_off F a i x e).2]
    exact this
theorem hr_comm (F : Nat → Int) (a b k : Nat) (x y : Int) : hrF (hrF F a x) b y (k * 2) = hrF (hrF F b y) a x (k * 2) ∧ hrF (hrF F a x) b y (k * 2 + 1) = hrF (hrF F b y) a x (k * 2 + 1) := by
  by_cases ha : k = a
  · by_cases hb : k = b
    · subst ha; subst hb
      rw [hrF_at, hrF_at, hrF_at, hrF_at, hrF_age, hrF_age, hrF_age, hrF_age, hrF_at, hrF_at]
      constructor
      · repeat' split
        all_goals omega
      · repeat' split
        all_goals omega
    · subst ha
      rw [(hrF_off _ b k y hb).1, (hrF_off _ b k y hb).2, hrF_at, hrF_at, hrF_age, hrF_age, (hrF_off F b k y hb).1, (hrF_off F b k y hb).2]
      exact ⟨rfl, rfl⟩
  · by_cases hb : k = b
    · subst hb
      rw [(hrF_off _ a k x ha).1, (hrF_off _ a k x ha).2, hrF_at, hrF_at, hrF_age, hrF_age, (hrF_off F a k x ha).1, (hrF_off F a k x ha).2]
      exact ⟨rfl, rfl⟩
    · rw [(hrF_off _ b k y hb).1, (hrF_off _ b k y hb).2, (hrF_off _ a k x ha).1, (hrF_off _ a k x ha).2, (hrF_off _ a k x ha).1, (hrF_off _ a k x ha).2, (hrF_off _ b k y hb).1, (hrF_off _ b k y hb).2]
      exact ⟨rfl, rfl⟩
theorem hr_same (F : Nat → Int) (a b j : Nat) (x y : Int) : hrF (hrF F a x) b y j = hrF (hrF F b y) a x j := by
  rcases Nat.mod_two_eq_zero_or_one j with h | h
  · obtain ⟨k, rfl⟩ : ∃ k, j = k * 2 := ⟨j / 2, by omega⟩
    exact (hr_comm F a b k x y).1
  · obtain ⟨k, rfl⟩ : ∃ k, j = k * 2 + 1 := ⟨j / 2, by omega⟩
    exact (hr_comm F a b k x y).2
/-- The way a number is brought into a range by the law. -/
theorem modS (x : Int) : ∃ q : Nat, wrap64 (1 + wrap64 ((IntKind.u64.wrap x).tmod 1000)) = q ∧ 1 ≤ q ∧ q ≤ 1000 := by
  obtain ⟨q, h1, h2⟩ := modN x 1000 (by omega) (by omega)
  refine ⟨1 + q, ?_, by omega, by omega⟩
  have h1' : wrap64 ((IntKind.u64.wrap x).tmod 1000) = (q : Int) := h1
  rw [h1']
  unfold wrap64
  omega
theorem wrapU (n : Nat) (h : n ≤ 1000000) : IntKind.u64.wrap (n : Int) = (n : Int) := by
  show (n : Int) % 18446744073709551616 = n
  omega
set_option maxHeartbeats 2000000 in
set_option maxRecDepth 100000 in
theorem or_heavy (p : Option Addr) (n c : Nat) (a b x y : Int) (w : World) (hn : 20 < n) :
    Calls Try.prog 6 #[.slice p n c, .int .i64 a, .int .i64 b, .int .i64 x, .int .i64 y] w fun e w' => e = .returned (.bool true) ∧ Below w.heap.size w w' := by
  have HH := hide (show decide ((20 : Int) < (n : Int)) = true by simp; omega)
  clear hn
  go_enter Try.func6, Try.ntmps6
  go_wp2_with (go_at_call 7; (with_reducible refine (heavy_c _ _ _ true _ (unhide HH)).mono ?_); rintro e w1 ⟨rfl, b⟩; have B := hide b; clear b)
  go_ret
  exact ⟨rfl, unhide B⟩
set_option maxHeartbeats 2000000 in
set_option maxRecDepth 100000 in
theorem or_bad (F : Nat → Int) (v : Value) (n : Nat) (a b x y : Int) (w : World) (hv : Pe w v n F) (hn : n ≤ 20) (hr : rt n F = false) :
    Calls Try.prog 6 #[v, .int .i64 a, .int .i64 b, .int .i64 x, .int .i64 y] w fun e w' => e = .returned (.bool true) ∧ Below w.heap.size w w' := by
  have HH := hide (show decide ((20 : Int) < (n : Int)) = false by simp; omega)
  have RT := hide hr
  have HL := hide hv
  have B := hide (Below.refl w.heap.size w)
  obtain ⟨p, c, rfl, _, _⟩ := hv.shape
  clear hv hn hr
  go_enter Try.func6, Try.ntmps6
  go_wp2_with (first
    | (go_at_call 7; (with_reducible refine (heavy_c _ _ _ false _ (unhide HH)).mono ?_); rintro e w1 ⟨rfl, b⟩; replace HL := hide ((unhide HL).below b (Nat.le_refl _)); replace B := hide (below_of (unhide B) b); clear b)
    | (go_at_call 13; (with_reducible refine (peers_c F _ n false _ (unhide HL) (unhide RT)).mono ?_); rintro e w2 ⟨rfl, b⟩; replace B := hide (below_of (unhide B) b); clear b))
  go_ret
  exact ⟨rfl, unhide B⟩
end Go.Proofs.Ytnbmnbgbnagajaa
