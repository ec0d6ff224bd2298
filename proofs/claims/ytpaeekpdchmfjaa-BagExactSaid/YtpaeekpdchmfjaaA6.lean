/- Walks of Check, the page's Bag, checkAt, Heavy. -/
import Derived.Test.YtpaeekpdchmfjaaA2
namespace Go.Proofs.Ytpaeekpdchmfjaa
open Go.RowKit

/-- The first k frames are right. -/
def aok (X : Nat → Fm) : Nat → Bool
  | 0 => true
  | k + 1 => aok X k && okB (X k).t (X k).n
theorem aok_succ {X : Nat → Fm} {k : Nat} (h : aok X k = true) (h' : okB (X k).t (X k).n = true) : aok X (k + 1) = true := by simp [aok, h, h']
theorem aok_get {X : Nat → Fm} {n : Nat} (h : aok X n = true) : ∀ i, i < n → okB (X i).t (X i).n = true := by
  induction n with
  | zero => intro i hi; omega
  | succ n ih =>
    unfold aok at h
    simp only [Bool.and_eq_true] at h
    intro i hi
    by_cases e : i = n
    · subst e; exact h.2
    · exact ih h.1 i (by omega)
theorem aok_false {X : Nat → Fm} {k n : Nat} (hk : k < n) (h : okB (X k).t (X k).n = false) : aok X n = false := by
  cases q : aok X n with
  | false => rfl
  | true => rw [aok_get q k hk] at h; cases h
theorem aok_of {X : Nat → Fm} {n : Nat} (h : ∀ i, i < n → okB (X i).t (X i).n = true) : aok X n = true := by
  induction n with
  | zero => rfl
  | succ n ih => exact aok_succ (ih fun i hi => h i (by omega)) (h n (by omega))
/-- Check's answer. -/
def chk (n : Nat) (X : Nat → Fm) : Int := if 300 < n then 2 else if aok X n then 0 else 1
set_option maxHeartbeats 1000000 in
set_option maxRecDepth 100000 in
theorem check_any (X : Nat → Fm) (v : Value) (n : Nat) (w : World) (hv : Fs w v n X) : Calls Try.prog 14 #[v] w fun e w' => e = .returned (.int .i64 (chk n X)) ∧ Below w.heap.size w w' := by
  obtain ⟨p, c, rfl, hc1, hc2⟩ := hv.shape
  unfold maxLen at hc2
  by_cases hn : 300 < n
  · have R := hide (show chk n X = 2 by simp [chk, hn])
    clear hv
    go_enter Try.func14, Try.ntmps14
    go_wp2
    go_ret
    exact ⟨by rw [unhide R]; rfl, Below.refl _ _⟩
  · have HV := hide hv
    clear hv
    go_enter Try.func14, Try.ntmps14
    go_wp2
    go_loopw [10] (fun i w2 => ∃ k : Nat, k ≤ n ∧ i = .int .i64 k ∧ aok X k = true ∧ Below w.heap.size w w2) (fun i _ => n - (intOf i).toNat)
    case atStart => exact ⟨0, by omega, rfl, rfl, Below.refl _ _⟩
    case round =>
      obtain ⟨k, hk, rfl, ha, hb⟩ := hrel
      have HA := hide ha
      have HB := hide hb
      by_cases hlt : k < n
      · obtain ⟨b, off, B, rfl, _, hcell⟩ := ((unhide HV).below hb (Nat.le_refl _)).some (by omega)
        obtain ⟨q1, q2, q3⟩ := hcell k hlt
        obtain ⟨pk, ck, hbk, -, -⟩ := q3.shape
        rw [hbk] at q2
        have BL := hide (below_alloc (below_alloc (Below.refl wr.heap.size wr) (.cells #[.int .i64 (X k).t, .slice pk (X k).n ck] 25)) (.cells #[.int .i64 (X k).t, .slice pk (X k).n ck] 25))
        have BL1 := hide (below_alloc (Below.refl wr.heap.size wr) (.cells #[.int .i64 (X k).t, .slice pk (X k).n ck] 25))
        clear hcell q3 hbk ha hb
        cases hr : okB (X k).t (X k).n with
        | true =>
          have HR := hide hr
          have N1 := hide (aok_succ (unhide HA) hr)
          clear hr
          go_wp2_with (go_at_call 20; (with_reducible refine (isRight_any _ _ _ _ _).mono ?_); rw [unhide HR]; rintro e w3 ⟨rfl, b3⟩; have B3 := hide (below_of (unhide HB) (below_of (unhide BL1) b3)); clear b3)
          go_roundw
          case rel => exact ⟨k + 1, by omega, by go_num, unhide N1, unhide B3⟩
          case measure => simp [intOf]; omega
        | false =>
          have HR := hide hr
          have R := hide (show chk n X = 1 by simp [chk, hn, aok_false hlt hr])
          clear hr
          go_wp2_with (go_at_call 20; (with_reducible refine (isRight_any _ _ _ _ _).mono ?_); rw [unhide HR]; rintro e w3 ⟨rfl, b3⟩; have B3 := hide (below_of (unhide HB) (below_of (unhide BL1) b3)); clear b3)
          go_ret
          exact ⟨by rw [unhide R]; rfl, unhide B3⟩
      · obtain rfl : k = n := by omega
        have R := hide (show chk k X = 0 by simp [chk, hn, ha])
        clear ha hb
        go_wp2
        go_ret
        exact ⟨by rw [unhide R]; rfl, unhide HB⟩
set_option maxHeartbeats 1000000 in
set_option maxRecDepth 100000 in
theorem rbag_any (X : Nat → Fm) (v : Value) (n : Nat) (w : World) (hv : Fs w v n X) : Calls Try.prog 13 #[v] w fun e w' => e = .returned (.int .i64 (chk n X)) ∧ Below w.heap.size w w' := by
  obtain ⟨p, c, rfl, hc1, hc2⟩ := hv.shape
  unfold maxLen at hc2
  by_cases hn : 300 < n
  · have R := hide (show chk n X = 2 by simp [chk, hn])
    clear hv
    go_enter Try.func13, Try.ntmps13
    go_wp2
    go_ret
    exact ⟨by rw [unhide R]; rfl, Below.refl _ _⟩
  · have HV := hide hv
    clear hv
    go_enter Try.func13, Try.ntmps13
    go_wp2
    go_loopw [3] (fun i w2 => ∃ k : Nat, k ≤ n ∧ i = .int .i64 k ∧ aok X k = true ∧ Below w.heap.size w w2) (fun i _ => n - (intOf i).toNat)
    case atStart => exact ⟨0, by omega, rfl, rfl, Below.refl _ _⟩
    case round =>
      obtain ⟨k, hk, rfl, ha, hb⟩ := hrel
      have HA := hide ha
      have HB := hide hb
      by_cases hlt : k < n
      · obtain ⟨b, off, B, rfl, _, hcell⟩ := ((unhide HV).below hb (Nat.le_refl _)).some (by omega)
        obtain ⟨q1, q2, q3⟩ := hcell k hlt
        obtain ⟨pk, ck, hbk, -, -⟩ := q3.shape
        rw [hbk] at q2
        clear hcell q3 hbk ha hb
        cases hr : okB (X k).t (X k).n with
        | true =>
          have HR := hide hr
          have N1 := hide (aok_succ (unhide HA) hr)
          clear hr
          go_wp2_with (go_at_call 15; (with_reducible refine (rframe_any _ _ _ _ _).mono ?_); rw [unhide HR]; rintro e w3 ⟨rfl, b3⟩; have B3 := hide (below_of (unhide HB) b3); clear b3)
          go_roundw
          case rel => exact ⟨k + 1, by omega, by go_num, unhide N1, unhide B3⟩
          case measure => simp [intOf]; omega
        | false =>
          have HR := hide hr
          have R := hide (show chk n X = 1 by simp [chk, hn, aok_false hlt hr])
          clear hr
          go_wp2_with (go_at_call 15; (with_reducible refine (rframe_any _ _ _ _ _).mono ?_); rw [unhide HR]; rintro e w3 ⟨rfl, b3⟩; have B3 := hide (below_of (unhide HB) b3); clear b3)
          go_ret
          exact ⟨by rw [unhide R]; rfl, unhide B3⟩
      · obtain rfl : k = n := by omega
        have R := hide (show chk k X = 0 by simp [chk, hn, ha])
        clear ha hb
        go_wp2
        go_ret
        exact ⟨by rw [unhide R]; rfl, unhide HB⟩
/-- checkAt's answer. -/
def chkAt (n : Nat) (X : Nat → Fm) (at' : Int) : Int := if chk n X ≠ 0 then chk n X else if 0 ≤ at' ∧ at' < n then 0 else 7
set_option maxHeartbeats 1000000 in
set_option maxRecDepth 100000 in
theorem checkAt_any (X : Nat → Fm) (v : Value) (n : Nat) (k : Int) (w : World) (hv : Fs w v n X) : Calls Try.prog 22 #[v, .int .i64 k] w fun e w' => e = .returned (.int .i64 (chkAt n X k)) ∧ Below w.heap.size w w' := by
  have C := hide (check_any X v n w hv)
  obtain ⟨p, c, rfl, hc1, hc2⟩ := hv.shape
  unfold maxLen at hc2
  clear hv
  by_cases h0 : chk n X = 0
  · have H0 := hide h0
    by_cases h1 : 0 ≤ k
    · by_cases h2 : k < n
      · have R := hide (show chkAt n X k = 0 by simp [chkAt, h0, h1, h2])
        have e2 : decide (k ≥ (n : Int)) = false := decide_eq_false (by omega)
        clear h0
        go_enter Try.func22, Try.ntmps22
        go_wp2_with (go_at_call 14; (with_reducible refine (unhide C).mono ?_); rw [unhide H0]; rintro e w3 ⟨rfl, b3⟩; have B3 := hide b3; clear b3)
        go_ret
        exact ⟨by rw [unhide R]; rfl, unhide B3⟩
      · have R := hide (show chkAt n X k = 7 by simp [chkAt, h0, h2])
        have e2 : decide (k ≥ (n : Int)) = true := decide_eq_true (by omega)
        clear h0
        go_enter Try.func22, Try.ntmps22
        go_wp2_with (go_at_call 14; (with_reducible refine (unhide C).mono ?_); rw [unhide H0]; rintro e w3 ⟨rfl, b3⟩; have B3 := hide b3; clear b3)
        go_ret
        exact ⟨by rw [unhide R]; rfl, unhide B3⟩
    · have R := hide (show chkAt n X k = 7 by simp [chkAt, h0, h1])
      clear h0
      go_enter Try.func22, Try.ntmps22
      go_wp2_with (go_at_call 14; (with_reducible refine (unhide C).mono ?_); rw [unhide H0]; rintro e w3 ⟨rfl, b3⟩; have B3 := hide b3; clear b3)
      go_ret
      exact ⟨by rw [unhide R]; rfl, unhide B3⟩
  · have R := hide (show chkAt n X k = chk n X by simp [chkAt, h0])
    generalize chk n X = z at *
    have e0 : (z != 0) = true := by simpa using h0
    go_enter Try.func22, Try.ntmps22
    go_wp2_with (go_at_call 14; (with_reducible refine (unhide C).mono ?_); rintro e w3 ⟨rfl, b3⟩; have B3 := hide b3; clear b3)
    go_ret
    exact ⟨by rw [unhide R]; rfl, unhide B3⟩
end Go.Proofs.Ytpaeekpdchmfjaa
