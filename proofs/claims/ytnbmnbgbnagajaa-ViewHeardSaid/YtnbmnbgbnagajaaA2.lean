/- Walks of isRight, isLive, the page's in, Check, the page's Peers, checkPlace. -/
import Derived.Test.YtnbmnbgbnagajaaA1
namespace Go.Proofs.Ytnbmnbgbnagajaa
open Go.RowKit

set_option maxRecDepth 100000 in
theorem isRight_any (i a : Int) (w : World) : Calls Try.prog 24 #[.agg #[.int .i64 i, .int .i64 a]] w fun e w' => e = .returned (.bool (okP i a)) ∧ Below w.heap.size w w' := by
  by_cases h1 : 0 ≤ i
  · by_cases h2 : i ≤ 1073741824
    · by_cases h3 : 0 ≤ a
      · by_cases h4 : a ≤ 1000
        · rw [show okP i a = true by simp [okP, h1, h2, h3, h4]]
          go_enter Try.func24, Try.ntmps24
          go_wp2
          go_ret
          exact ⟨rfl, below_alloc (Below.refl _ _) _⟩
        · rw [show okP i a = false by simp [okP, h4]]
          go_enter Try.func24, Try.ntmps24
          go_wp2
          go_ret
          exact ⟨rfl, below_alloc (Below.refl _ _) _⟩
      · rw [show okP i a = false by simp [okP, h3]]
        go_enter Try.func24, Try.ntmps24
        go_wp2
        go_ret
        exact ⟨rfl, below_alloc (Below.refl _ _) _⟩
    · rw [show okP i a = false by simp [okP, h2]]
      go_enter Try.func24, Try.ntmps24
      go_wp2
      go_ret
      exact ⟨rfl, below_alloc (Below.refl _ _) _⟩
  · rw [show okP i a = false by simp [okP, h1]]
    go_enter Try.func24, Try.ntmps24
    go_wp2
    go_ret
    exact ⟨rfl, below_alloc (Below.refl _ _) _⟩
/-- Heard, and not long ago. -/
def livB (i a : Int) : Bool := decide (0 < i) && decide (a < 4)
set_option maxRecDepth 100000 in
theorem isLive_any (i a : Int) (w : World) : Calls Try.prog 22 #[.agg #[.int .i64 i, .int .i64 a]] w fun e w' => e = .returned (.bool (livB i a)) ∧ Below w.heap.size w w' := by
  by_cases h1 : 0 < i
  · by_cases h2 : a < 4
    · rw [show livB i a = true by simp [livB, h1, h2]]
      go_enter Try.func22, Try.ntmps22
      go_wp2
      go_ret
      exact ⟨rfl, below_alloc (Below.refl _ _) _⟩
    · rw [show livB i a = false by simp [livB, h2]]
      go_enter Try.func22, Try.ntmps22
      go_wp2
      go_ret
      exact ⟨rfl, below_alloc (Below.refl _ _) _⟩
  · rw [show livB i a = false by simp [livB, h1]]
    go_enter Try.func22, Try.ntmps22
    go_wp2
    go_ret
    exact ⟨rfl, below_alloc (Below.refl _ _) _⟩
theorem in_any (n lo hi : Int) (w : World) : Calls Try.prog 23 #[.int .i64 n, .int .i64 lo, .int .i64 hi] w fun e w' => e = .returned (.bool (decide (lo ≤ n) && decide (n ≤ hi))) ∧ w' = w := by
  by_cases h1 : lo ≤ n
  · by_cases h2 : n ≤ hi
    · rw [show (decide (lo ≤ n) && decide (n ≤ hi)) = true by simp [h1, h2]]
      go_enter Try.func23, Try.ntmps23
      go_wp2
      go_ret
      exact ⟨rfl, rfl⟩
    · rw [show (decide (lo ≤ n) && decide (n ≤ hi)) = false by simp [h2]]
      go_enter Try.func23, Try.ntmps23
      go_wp2
      go_ret
      exact ⟨rfl, rfl⟩
  · rw [show (decide (lo ≤ n) && decide (n ≤ hi)) = false by simp [h1]]
    go_enter Try.func23, Try.ntmps23
    go_wp2
    go_ret
    exact ⟨rfl, rfl⟩
theorem rt_out {n : Nat} {F : Nat → Int} (h : n < 1 ∨ 8 < n) : rt n F = false := by
  cases q : rt n F with
  | false => rfl
  | true => rw [rt_iff] at q; omega
theorem rt_bad {n k : Nat} {F : Nat → Int} (hk : k < n) (h : okP (F (k * 2)) (F (k * 2 + 1)) = false) : rt n F = false := by simp [rt, aok_false hk h]
theorem rt_good {n : Nat} {F : Nat → Int} (h1 : 1 ≤ n) (h2 : n ≤ 8) (h : aok F n = true) : rt n F = true := by simp [rt, h1, h2, h]
set_option maxHeartbeats 1000000 in
set_option maxRecDepth 100000 in
theorem check_any (F : Nat → Int) (v : Value) (n : Nat) (w : World) (hv : Pe w v n F) : Calls Try.prog 14 #[v] w fun e w' => e = .returned (.int .i64 (chk n F)) ∧ Below w.heap.size w w' := by
  obtain ⟨p, c, rfl, hc1, hc2⟩ := hv.shape
  unfold maxLen at hc2
  by_cases h1 : n < 1
  · have R := hide (show chk n F = 1 by simp [chk, rt_out (F := F) (.inl h1)])
    clear hv
    go_enter Try.func14, Try.ntmps14
    go_wp2
    go_ret
    exact ⟨by rw [unhide R]; rfl, Below.refl _ _⟩
  by_cases h2 : 8 < n
  · have R := hide (show chk n F = 1 by simp [chk, rt_out (F := F) (.inr h2)])
    clear hv
    go_enter Try.func14, Try.ntmps14
    go_wp2
    go_ret
    exact ⟨by rw [unhide R]; rfl, Below.refl _ _⟩
  have HV := hide hv
  have H1 := hide h1
  have H2 := hide h2
  clear hv
  go_enter Try.func14, Try.ntmps14
  go_wp2
  go_loopw [15] (fun i w2 => ∃ k : Nat, k ≤ n ∧ i = .int .i64 k ∧ aok F k = true ∧ Below w.heap.size w w2) (fun i _ => n - (intOf i).toNat)
  case atStart => exact ⟨0, by omega, rfl, rfl, Below.refl _ _⟩
  case round =>
    obtain ⟨k, hk, rfl, ha, hb⟩ := hrel
    have HA := hide ha
    have HB := hide hb
    by_cases hlt : k < n
    · obtain ⟨b, off, rfl, _, hcell⟩ := ((unhide HV).below hb (Nat.le_refl _)).some (by omega)
      obtain ⟨q1, q2⟩ := Pe.two hcell k hlt
      have BL1 := hide (below_alloc (Below.refl wr.heap.size wr) (.cells #[.int .i64 (F (k * 2)), .int .i64 (F (k * 2 + 1))] 42))
      clear hcell ha hb
      cases hr : okP (F (k * 2)) (F (k * 2 + 1)) with
      | true =>
        have HR := hide hr
        have N1 := hide (aok_succ (unhide HA) hr)
        clear hr
        go_wp2_with (go_at_call 24; (with_reducible refine (isRight_any _ _ _).mono ?_); rw [unhide HR]; rintro e w3 ⟨rfl, b3⟩; have B3 := hide (below_of (unhide HB) (below_of (unhide BL1) b3)); clear b3)
        go_roundw
        case rel => exact ⟨k + 1, by omega, by go_num, unhide N1, unhide B3⟩
        case measure => simp [intOf]; omega
      | false =>
        have HR := hide hr
        have R := hide (show chk n F = 1 by simp [chk, rt_bad hlt hr])
        clear hr
        go_wp2_with (go_at_call 24; (with_reducible refine (isRight_any _ _ _).mono ?_); rw [unhide HR]; rintro e w3 ⟨rfl, b3⟩; have B3 := hide (below_of (unhide HB) (below_of (unhide BL1) b3)); clear b3)
        go_ret
        exact ⟨by rw [unhide R]; rfl, unhide B3⟩
    · obtain rfl : k = n := by omega
      have R := hide (show chk k F = 0 by simp [chk, rt_good (show 1 ≤ k by omega) (show k ≤ 8 by omega) ha])
      clear ha hb
      go_wp2
      go_ret
      exact ⟨by rw [unhide R]; rfl, unhide HB⟩
set_option maxHeartbeats 1000000 in
set_option maxRecDepth 100000 in
theorem peers_any (F : Nat → Int) (v : Value) (n : Nat) (w : World) (hv : Pe w v n F) : Calls Try.prog 13 #[v] w fun e w' => e = .returned (.bool (rt n F)) ∧ Below w.heap.size w w' := by
  obtain ⟨p, c, rfl, hc1, hc2⟩ := hv.shape
  unfold maxLen at hc2
  by_cases h1 : n < 1 ∨ 8 < n
  · have R := hide (rt_out (F := F) h1)
    have HR := hide (show (decide ((1 : Int) ≤ (n : Int)) && decide ((n : Int) ≤ 8)) = false by simp; omega)
    clear hv h1
    go_enter Try.func13, Try.ntmps13
    go_wp2_with (go_at_call 23; (with_reducible refine (in_any _ _ _ _).mono ?_); rw [unhide HR]; rintro e w3 ⟨rfl, hw⟩; obtain rfl := hw.symm)
    go_ret
    exact ⟨by rw [unhide R]; rfl, Below.refl _ _⟩
  have HV := hide hv
  have H1 := hide h1
  have HR := hide (show (decide ((1 : Int) ≤ (n : Int)) && decide ((n : Int) ≤ 8)) = true by simp; omega)
  clear hv h1
  go_enter Try.func13, Try.ntmps13
  go_wp2_with (go_at_call 23; (with_reducible refine (in_any _ _ _ _).mono ?_); rw [unhide HR]; rintro e w3 ⟨rfl, hw⟩; obtain rfl := hw.symm)
  go_loopw [3] (fun i w2 => ∃ k : Nat, k ≤ n ∧ i = .int .i64 k ∧ aok F k = true ∧ Below w.heap.size w w2) (fun i _ => n - (intOf i).toNat)
  case atStart => exact ⟨0, by omega, rfl, rfl, Below.refl _ _⟩
  case round =>
    obtain ⟨k, hk, rfl, ha, hb⟩ := hrel
    have HA := hide ha
    have HB := hide hb
    by_cases hlt : k < n
    · obtain ⟨b, off, rfl, _, hcell⟩ := ((unhide HV).below hb (Nat.le_refl _)).some (by omega)
      obtain ⟨q1, q2⟩ := Pe.two hcell k hlt
      clear hcell ha hb
      cases hr1 : decide (0 ≤ F (k * 2)) && decide (F (k * 2) ≤ 1073741824) with
      | true =>
        cases hr2 : decide (0 ≤ F (k * 2 + 1)) && decide (F (k * 2 + 1) ≤ 1000) with
        | true =>
          have N1 := hide (aok_succ (unhide HA) (show okP (F (k * 2)) (F (k * 2 + 1)) = true by simp at hr1 hr2; rw [okP_iff]; omega))
          have HR1 := hide hr1
          have HR2 := hide hr2
          clear hr1 hr2
          have m1 := trivial
          go_wp2_with (first
            | (clear m1; go_at_call 23; (with_reducible refine (in_any _ _ _ _).mono ?_); rw [unhide HR1]; rintro e w3 ⟨rfl, hw⟩; obtain rfl := hw.symm)
            | (go_at_call 23; (with_reducible refine (in_any _ _ _ _).mono ?_); rw [unhide HR2]; rintro e w3 ⟨rfl, hw⟩; obtain rfl := hw.symm))
          go_roundw
          case rel => exact ⟨k + 1, by omega, by go_num, unhide N1, unhide HB⟩
          case measure => simp [intOf]; omega
        | false =>
          have R := hide (rt_bad hlt (show okP (F (k * 2)) (F (k * 2 + 1)) = false by
            cases q : okP (F (k * 2)) (F (k * 2 + 1)) with
            | false => rfl
            | true => rw [okP_iff] at q; simp at hr2; omega))
          have HR1 := hide hr1
          have HR2 := hide hr2
          clear hr1 hr2
          have m1 := trivial
          go_wp2_with (first
            | (clear m1; go_at_call 23; (with_reducible refine (in_any _ _ _ _).mono ?_); rw [unhide HR1]; rintro e w3 ⟨rfl, hw⟩; obtain rfl := hw.symm)
            | (go_at_call 23; (with_reducible refine (in_any _ _ _ _).mono ?_); rw [unhide HR2]; rintro e w3 ⟨rfl, hw⟩; obtain rfl := hw.symm))
          go_ret
          exact ⟨by rw [unhide R]; rfl, unhide HB⟩
      | false =>
        have R := hide (rt_bad hlt (show okP (F (k * 2)) (F (k * 2 + 1)) = false by
          cases q : okP (F (k * 2)) (F (k * 2 + 1)) with
          | false => rfl
          | true => rw [okP_iff] at q; simp at hr1; omega))
        have HR1 := hide hr1
        clear hr1
        go_wp2_with (go_at_call 23; (with_reducible refine (in_any _ _ _ _).mono ?_); rw [unhide HR1]; rintro e w3 ⟨rfl, hw⟩; obtain rfl := hw.symm)
        go_ret
        exact ⟨by rw [unhide R]; rfl, unhide HB⟩
    · obtain rfl : k = n := by omega
      have R := hide (show rt k F = true from rt_good (by have := unhide H1; omega) (by have := unhide H1; omega) ha)
      clear ha hb
      go_wp2
      go_ret
      exact ⟨by rw [unhide R]; rfl, unhide HB⟩
theorem place_any (F : Nat → Int) (v : Value) (n : Nat) (x : Int) (w : World) (hv : Pe w v n F) : Calls Try.prog 20 #[v, .int .i64 x] w fun e w' => e = .returned (.int .i64 (plc n F x)) ∧ Below w.heap.size w w' := by
  have C := hide (check_any F v n w hv)
  obtain ⟨p, c, rfl, hc1, hc2⟩ := hv.shape
  unfold maxLen at hc2
  clear hv
  cases h : rt n F with
  | false =>
    have R := hide (show plc n F x = 1 by simp [plc, h])
    have R1 := hide (show chk n F = 1 by simp [chk, h])
    go_enter Try.func20, Try.ntmps20
    go_wp2_with (go_at_call 14; (with_reducible refine (unhide C).mono ?_); rw [unhide R1]; rintro e w1 ⟨rfl, b1⟩; have B1 := hide b1; clear b1)
    go_ret
    exact ⟨by rw [unhide R]; rfl, unhide B1⟩
  | true =>
    have R1 := hide (show chk n F = 0 by simp [chk, h])
    by_cases h0 : 0 ≤ x
    · by_cases h1 : x < n
      · have R := hide (show plc n F x = 0 by simp [plc, h, h0, h1])
        go_enter Try.func20, Try.ntmps20
        go_wp2_with (go_at_call 14; (with_reducible refine (unhide C).mono ?_); rw [unhide R1]; rintro e w1 ⟨rfl, b1⟩; have B1 := hide b1; clear b1)
        go_ret
        exact ⟨by rw [unhide R]; rfl, unhide B1⟩
      · have R := hide (show plc n F x = 9 by simp [plc, h, h1])
        go_enter Try.func20, Try.ntmps20
        go_wp2_with (go_at_call 14; (with_reducible refine (unhide C).mono ?_); rw [unhide R1]; rintro e w1 ⟨rfl, b1⟩; have B1 := hide b1; clear b1)
        go_ret
        exact ⟨by rw [unhide R]; rfl, unhide B1⟩
    · have R := hide (show plc n F x = 9 by simp [plc, h, h0])
      go_enter Try.func20, Try.ntmps20
      go_wp2_with (go_at_call 14; (with_reducible refine (unhide C).mono ?_); rw [unhide R1]; rintro e w1 ⟨rfl, b1⟩; have B1 := hide b1; clear b1)
      go_ret
      exact ⟨by rw [unhide R]; rfl, unhide B1⟩
end Go.Proofs.Ytnbmnbgbnagajaa
