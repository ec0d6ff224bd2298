/- Walk of BagBack. -/
import Derived.Test.YtpaeekpdchmfjaaB1
namespace Go.Proofs.Ytpaeekpdchmfjaa
open Go.RowKit

set_option maxHeartbeats 1000000 in
set_option maxRecDepth 100000 in
theorem back_heavy (x : Option Addr) (n cap : Nat) (X : Nat → Fm) (f : Fm) (y : Option Addr) (c : Nat) (k place mask : Int) (w : World) (hX : Fs w (.slice x n cap) n X) (h : ¬ Lt n X ∨ 60 < n ∨ 200 < f.n) :
    Calls Try.prog 4 #[.slice x n cap, .agg #[.int .i64 f.t, .slice y f.n c], .int .i64 k, .int .i64 place, .int .i64 mask] w fun e w' => e = .returned (.bool true) ∧ Below w.heap.size w w' := by
  have bx := below_alloc (Below.refl w.heap.size w) (.cells #[.int .i64 f.t, .slice y f.n c] 25)
  have BX := hide bx
  have hx := hX.below bx (Nat.le_refl _)
  clear hX bx
  by_cases h1 : Lt n X
  · have H := hide (heavy_no X _ n _ hx h1)
    by_cases h2 : 60 < n
    · clear h h1 hx
      go_enter Try.func4, Try.ntmps4
      go_wp2_with (go_at_call 7; (with_reducible refine (unhide H).mono ?_); rintro e w2 ⟨rfl, rfl⟩)
      go_ret
      exact ⟨rfl, unhide BX⟩
    · have h3 : 200 < f.n := by
        rcases h with h | h | h
        · exact absurd h1 h
        · exact absurd h h2
        · exact h
      have e3 : decide ((f.n : Int) > 200) = true := decide_eq_true (by omega)
      clear h h1 hx
      go_enter Try.func4, Try.ntmps4
      go_wp2_with (go_at_call 7; (with_reducible refine (unhide H).mono ?_); rintro e w2 ⟨rfl, rfl⟩)
      go_ret
      exact ⟨rfl, unhide BX⟩
  · have H := hide (heavy_yes X _ n _ hx h1)
    clear h h1 hx
    go_enter Try.func4, Try.ntmps4
    go_wp2_with (go_at_call 7; (with_reducible refine (unhide H).mono ?_); rintro e w2 ⟨rfl, rfl⟩)
    go_ret
    exact ⟨rfl, unhide BX⟩
set_option maxHeartbeats 1000000 in
set_option maxRecDepth 100000 in
theorem back_refused (x : Option Addr) (n cap : Nat) (X : Nat → Fm) (f : Fm) (y : Option Addr) (c : Nat) (k place mask : Int) (w : World) (hX : Fs w (.slice x n cap) n X) (hf : Sl .u8 w (.slice y f.n c) f.n f.b) (h1 : Lt n X) (h2 : n ≤ 60) (h3 : f.n ≤ 200) (h4 : putE n X f ≠ 0) :
    Calls Try.prog 4 #[.slice x n cap, .agg #[.int .i64 f.t, .slice y f.n c], .int .i64 k, .int .i64 place, .int .i64 mask] w fun e w' => e = .returned (.bool true) ∧ Below w.heap.size w w' := by
  have bx := below_alloc (Below.refl w.heap.size w) (.cells #[.int .i64 f.t, .slice y f.n c] 25)
  have BX := hide bx
  have hx := hX.below bx (Nat.le_refl _)
  have H := hide (heavy_no X _ n _ hx h1)
  have he : putE n X f = 1 := by
    unfold putE at h4 ⊢
    by_cases a : chk n X = 0
    · rw [if_neg (by simpa using a)] at h4 ⊢
      cases b : okB f.t f.n with
      | false => simp
      | true =>
        rw [b, if_neg (by simp), if_neg (by omega)] at h4
        exact absurd rfl h4
    · rw [if_pos a]
      unfold chk at a ⊢
      rw [if_neg (by omega)] at a ⊢
      by_cases q : aok X n = true
      · rw [if_pos q] at a; exact absurd rfl a
      · rw [if_neg q]
  have P := put_bad _ _ n X f _ hx (hf.below bx (Nat.le_refl _)) h4
  rw [he] at P
  have P1 := hide P
  have e3 : decide ((f.n : Int) > 200) = false := decide_eq_false (by omega)
  have e2 : ¬ ((n : Int) > 60) := by omega
  clear hX hf h4 he P bx hx h1
  go_enter Try.func4, Try.ntmps4
  go_wp2_with (first
    | (go_at_call 7; (with_reducible refine (unhide H).mono ?_); rintro e w2 ⟨rfl, rfl⟩)
    | (go_at_call 9; (with_reducible refine (unhide P1).mono ?_); rintro e w3 ⟨rfl, b3⟩; have B3 := hide (below_of (unhide BX) b3); clear b3)
    | (go_at_call 18; refine (wakes_any _).mono ?_; rintro e w4 ⟨rfl, b4⟩; replace B3 := hide (below_of (unhide B3) b4); clear b4))
  go_ret
  exact ⟨rfl, unhide B3⟩
end Go.Proofs.Ytpaeekpdchmfjaa
