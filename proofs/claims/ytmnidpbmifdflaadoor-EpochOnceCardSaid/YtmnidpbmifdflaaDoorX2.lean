/- Walk of bellwetherlaw14.EpochOnce. -/
import Derived.Test.YtmnidpbmifdflaaDoorA3
import Derived.Deep.Cut
namespace Go.Proofs.YtmnidpbmifdflaaDoor
open Go.RowKit

theorem modU (x : Int) (n : Int) (h : 0 < n) (h2 : n ≤ 2000000000) : wrap64 ((IntKind.u64.wrap x).tmod n) = (x % 18446744073709551616) % n := by
  have e1 : IntKind.u64.wrap x = x % 18446744073709551616 := rfl
  rw [e1, Int.tmod_eq_emod_of_nonneg (by omega)]
  have h3 := Int.emod_lt_of_pos (x % 18446744073709551616) h
  have h4 := Int.emod_nonneg (x % 18446744073709551616) (show n ≠ 0 by omega)
  unfold wrap64
  omega
theorem mod8 (x : Int) : ∃ q, wrap64 ((IntKind.u64.wrap x).tmod 8) = q ∧ IsN q :=
  ⟨_, modU x 8 (by omega) (by omega), by omega, by omega⟩
theorem modT (x : Int) : ∃ q, wrap64 ((IntKind.u64.wrap x).tmod 1073741784) = q ∧ 0 ≤ q ∧ q < 1073741784 :=
  ⟨_, modU x 1073741784 (by omega) (by omega), by omega, by omega⟩
theorem once_ne_gt (n m a b N M A B X Y W : Int) (hn : wrap64 ((IntKind.u64.wrap n).tmod 8) = N) (hm : wrap64 ((IntKind.u64.wrap m).tmod 8) = M)
    (ha : wrap64 ((IntKind.u64.wrap a).tmod 1073741784) = A) (hb : wrap64 ((IntKind.u64.wrap b).tmod 1073741784) = B) (iN : IsN N) (iM : IsN M) (tA : Tp A) (tB : Tp B) (tX : Tp X)
    (a2 : A < 1073741784)
    (hX : nx N A = X) (hY : nx M B = Y) (hW : nx N B = W) (hZ : nx N X = X + 16) (eX : Ep X) (eY : Ep Y) (rX : X % 16 = N) (rY : Y % 16 = M)
    (x1 : A < X) (x2 : X ≤ A + 16) (lX : nx N A ≤ 1073741824) (lY : nx M B ≤ 1073741824) (lW : nx N B ≤ 1073741824) (lZ : nx N X ≤ 1073741824) (c1 : X ≠ Y) (c2 : B < A) (w : World) (hG : Glob w) :
    Calls Tryd.prog 4 #[.int .i64 n, .int .i64 m, .int .i64 a, .int .i64 b] w fun e w' => e = .returned (.bool true) ∧ w' = w := by
  have a1 := tA.1
  go_enter Tryd.func4, Tryd.ntmps4
  go_upto_region 2 with fail
  rw [hn, hm, ha, hb]
  clear hn hm ha hb
  go_wp2_with (first
    | (go_at_call 7; refine (next_ok _ _ (by assumption) (by assumption) (by assumption) _ (by assumption)).mono ?_; (first | rw [hX] | rw [hY] | rw [hW] | rw [hZ]); rintro e w1 ⟨rfl, rfl⟩)
    | (go_at_call 6; refine (who_ok _ (by assumption) _ (by assumption)).mono ?_; (first | rw [rX] | rw [rY]); rintro e w1 ⟨rfl, rfl⟩)
    | (go_at_call 9; refine (check_ok _ (by assumption) _ (by assumption)).mono ?_; rintro e w1 ⟨rfl, rfl⟩)
    | (go_at_call 11; refine (wakes_is _ (by assumption)).mono ?_; rintro e w1 ⟨rfl, rfl⟩))
  go_ret
  exact ⟨rfl, rfl⟩
theorem once_ne_le (n m a b N M A B X Y W : Int) (hn : wrap64 ((IntKind.u64.wrap n).tmod 8) = N) (hm : wrap64 ((IntKind.u64.wrap m).tmod 8) = M)
    (ha : wrap64 ((IntKind.u64.wrap a).tmod 1073741784) = A) (hb : wrap64 ((IntKind.u64.wrap b).tmod 1073741784) = B) (iN : IsN N) (iM : IsN M) (tA : Tp A) (tB : Tp B) (tX : Tp X)
    (a2 : A < 1073741784)
    (hX : nx N A = X) (hY : nx M B = Y) (hW : nx N B = W) (hZ : nx N X = X + 16) (eX : Ep X) (eY : Ep Y) (rX : X % 16 = N) (rY : Y % 16 = M)
    (x1 : A < X) (x2 : X ≤ A + 16) (lX : nx N A ≤ 1073741824) (lY : nx M B ≤ 1073741824) (lW : nx N B ≤ 1073741824) (lZ : nx N X ≤ 1073741824) (c1 : X ≠ Y) (c2 : A ≤ B) (c4 : X ≤ W) (w : World) (hG : Glob w) :
    Calls Tryd.prog 4 #[.int .i64 n, .int .i64 m, .int .i64 a, .int .i64 b] w fun e w' => e = .returned (.bool true) ∧ w' = w := by
  have a1 := tA.1
  go_enter Tryd.func4, Tryd.ntmps4
  go_upto_region 2 with fail
  rw [hn, hm, ha, hb]
  clear hn hm ha hb
  go_wp2_with (first
    | (go_at_call 7; refine (next_ok _ _ (by assumption) (by assumption) (by assumption) _ (by assumption)).mono ?_; (first | rw [hX] | rw [hY] | rw [hW] | rw [hZ]); rintro e w1 ⟨rfl, rfl⟩)
    | (go_at_call 6; refine (who_ok _ (by assumption) _ (by assumption)).mono ?_; (first | rw [rX] | rw [rY]); rintro e w1 ⟨rfl, rfl⟩)
    | (go_at_call 9; refine (check_ok _ (by assumption) _ (by assumption)).mono ?_; rintro e w1 ⟨rfl, rfl⟩)
    | (go_at_call 11; refine (wakes_is _ (by assumption)).mono ?_; rintro e w1 ⟨rfl, rfl⟩))
  go_ret
  exact ⟨rfl, rfl⟩
theorem once_eq_gt (n m a b N A B X : Int) (hn : wrap64 ((IntKind.u64.wrap n).tmod 8) = N) (hm : wrap64 ((IntKind.u64.wrap m).tmod 8) = N)
    (ha : wrap64 ((IntKind.u64.wrap a).tmod 1073741784) = A) (hb : wrap64 ((IntKind.u64.wrap b).tmod 1073741784) = B) (iN : IsN N) (tA : Tp A) (tB : Tp B) (tX : Tp X)
    (a2 : A < 1073741784)
    (hX : nx N A = X) (hY : nx N B = X) (hZ : nx N X = X + 16) (eX : Ep X) (rX : X % 16 = N)
    (x1 : A < X) (x2 : X ≤ A + 16) (lX : nx N A ≤ 1073741824) (lY : nx N B ≤ 1073741824) (lZ : nx N X ≤ 1073741824) (c2 : B < A) (w : World) (hG : Glob w) :
    Calls Tryd.prog 4 #[.int .i64 n, .int .i64 m, .int .i64 a, .int .i64 b] w fun e w' => e = .returned (.bool true) ∧ w' = w := by
  have a1 := tA.1
  go_enter Tryd.func4, Tryd.ntmps4
  go_upto_region 2 with fail
  rw [hn, hm, ha, hb]
  clear hn hm ha hb
  go_wp2_with (first
    | (go_at_call 7; refine (next_ok _ _ (by assumption) (by assumption) (by assumption) _ (by assumption)).mono ?_; (first | rw [hX] | rw [hY] | rw [hZ]); rintro e w1 ⟨rfl, rfl⟩)
    | (go_at_call 6; refine (who_ok _ (by assumption) _ (by assumption)).mono ?_; rw [rX]; rintro e w1 ⟨rfl, rfl⟩)
    | (go_at_call 9; refine (check_ok _ (by assumption) _ (by assumption)).mono ?_; rintro e w1 ⟨rfl, rfl⟩)
    | (go_at_call 11; refine (wakes_is _ (by assumption)).mono ?_; rintro e w1 ⟨rfl, rfl⟩))
  go_ret
  exact ⟨rfl, rfl⟩
theorem once_eq_le (n m a b N A B X : Int) (hn : wrap64 ((IntKind.u64.wrap n).tmod 8) = N) (hm : wrap64 ((IntKind.u64.wrap m).tmod 8) = N)
    (ha : wrap64 ((IntKind.u64.wrap a).tmod 1073741784) = A) (hb : wrap64 ((IntKind.u64.wrap b).tmod 1073741784) = B) (iN : IsN N) (tA : Tp A) (tB : Tp B) (tX : Tp X)
    (a2 : A < 1073741784)
    (hX : nx N A = X) (hY : nx N B = X) (hZ : nx N X = X + 16) (eX : Ep X) (rX : X % 16 = N)
    (x1 : A < X) (x2 : X ≤ A + 16) (lX : nx N A ≤ 1073741824) (lY : nx N B ≤ 1073741824) (lZ : nx N X ≤ 1073741824) (c2 : A ≤ B) (w : World) (hG : Glob w) :
    Calls Tryd.prog 4 #[.int .i64 n, .int .i64 m, .int .i64 a, .int .i64 b] w fun e w' => e = .returned (.bool true) ∧ w' = w := by
  have a1 := tA.1
  go_enter Tryd.func4, Tryd.ntmps4
  go_upto_region 2 with fail
  rw [hn, hm, ha, hb]
  clear hn hm ha hb
  go_wp2_with (first
    | (go_at_call 7; refine (next_ok _ _ (by assumption) (by assumption) (by assumption) _ (by assumption)).mono ?_; (first | rw [hX] | rw [hY] | rw [hZ]); rintro e w1 ⟨rfl, rfl⟩)
    | (go_at_call 6; refine (who_ok _ (by assumption) _ (by assumption)).mono ?_; rw [rX]; rintro e w1 ⟨rfl, rfl⟩)
    | (go_at_call 9; refine (check_ok _ (by assumption) _ (by assumption)).mono ?_; rintro e w1 ⟨rfl, rfl⟩)
    | (go_at_call 11; refine (wakes_is _ (by assumption)).mono ?_; rintro e w1 ⟨rfl, rfl⟩))
  go_ret
  exact ⟨rfl, rfl⟩
theorem once_walk (n m a b : Int) (w : World) (hG : Glob w) :
    Calls Tryd.prog 4 #[.int .i64 n, .int .i64 m, .int .i64 a, .int .i64 b] w fun e w' => e = .returned (.bool true) ∧ Below w.heap.size w w' := by
  obtain ⟨N, hn, iN⟩ := mod8 n
  obtain ⟨M, hm, iM⟩ := mod8 m
  obtain ⟨A, ha, a1, a2⟩ := modT a
  obtain ⟨B, hb, b1, b2⟩ := modT b
  have tA : Tp A := ⟨a1, by omega⟩
  have tB : Tp B := ⟨b1, by omega⟩
  obtain ⟨x1, x2, x3⟩ := nx_above N A iN tA
  obtain ⟨y1, y2, y3⟩ := nx_above M B iM tB
  obtain ⟨v1, v2, _⟩ := nx_above N B iN tB
  have hZ := nx_twice N A iN tA
  have lX : nx N A ≤ 1073741824 := by omega
  have lY : nx M B ≤ 1073741824 := by omega
  have eX := nx_ep N A iN tA lX
  have eY := nx_ep M B iM tB lY
  have tX : Tp (nx N A) := ⟨by omega, lX⟩
  have key : Calls Tryd.prog 4 #[.int .i64 n, .int .i64 m, .int .i64 a, .int .i64 b] w fun e w' => e = .returned (.bool true) ∧ w' = w := by
    by_cases c1 : nx N A = nx M B
    · have c3 : N = M := by rw [← x3, ← y3, c1]
      subst c3
      by_cases c2 : B < A
      · exact once_eq_gt n m a b N A B _ hn hm ha hb iN tA tB tX a2 rfl c1.symm hZ eX x3 x1 x2 lX lY (by omega) c2 w hG
      · exact once_eq_le n m a b N A B _ hn hm ha hb iN tA tB tX a2 rfl c1.symm hZ eX x3 x1 x2 lX lY (by omega) (by omega) w hG
    · by_cases c2 : B < A
      · exact once_ne_gt n m a b N M A B _ _ _ hn hm ha hb iN iM tA tB tX a2 rfl rfl rfl hZ eX eY x3 y3 x1 x2 lX lY (by omega) (by omega) c1 c2 w hG
      · exact once_ne_le n m a b N M A B _ _ _ hn hm ha hb iN iM tA tB tX a2 rfl rfl rfl hZ eX eY x3 y3 x1 x2 lX lY (by omega) (by omega) c1 (by omega) (nx_mono N A B iN tA tB (by omega)) w hG
  refine key.mono ?_
  rintro e w' ⟨rfl, rfl⟩
  exact ⟨rfl, Below.refl _ _⟩
end Go.Proofs.YtmnidpbmifdflaaDoor
