/- Walk of ViewHeard. -/
import Derived.Test.YtnbmnbgbnagajaaL2
import Derived.Test.YtnbmnbgbnagajaaO1
namespace Go.Proofs.Ytnbmnbgbnagajaa
open Go.RowKit

/-- Who was heard, k ticks ago; all others never were. -/
def stF (A I k j : Nat) : Int := if j % 2 = 1 then (k : Int) else if j = A * 2 then (I : Int) else 0
theorem stF_even (A I k i : Nat) : stF A I k (i * 2) = if i = A then (I : Int) else 0 := by
  unfold stF
  rw [if_neg (by omega)]
  by_cases h : i = A
  · rw [if_pos (by omega), if_pos h]
  · rw [if_neg (by omega), if_neg h]
theorem stF_odd (A I k i : Nat) : stF A I k (i * 2 + 1) = (k : Int) := by
  unfold stF
  rw [if_pos (by omega)]
theorem flat {P : Nat → Prop} (h0 : ∀ i, P (i * 2)) (h1 : ∀ i, P (i * 2 + 1)) (j : Nat) : P j := by
  rcases Nat.mod_two_eq_zero_or_one j with h | h
  · rw [show j = j / 2 * 2 by omega]
    exact h0 _
  · rw [show j = j / 2 * 2 + 1 by omega]
    exact h1 _
theorem stF_zero (A I j : Nat) : hrF (fun _ => 0) A (I : Int) j = stF A I 0 j := by
  refine flat (P := fun j => hrF (fun _ => 0) A (I : Int) j = stF A I 0 j) (fun i => ?_) (fun i => ?_) j
  · rw [stF_even]
    by_cases h : i = A
    · subst h
      rw [hrF_at, if_pos rfl]
      split <;> omega
    · rw [(hrF_off _ A i I h).1, if_neg h]
  · rw [stF_odd]
    by_cases h : i = A
    · subst h
      rw [hrF_age]
      split <;> rfl
    · rw [(hrF_off _ A i I h).2]
      rfl
theorem stF_next (A I k j : Nat) (hk : k < 1000) : olF (stF A I k) j = stF A I (k + 1) j := by
  refine flat (P := fun j => olF (stF A I k) j = stF A I (k + 1) j) (fun i => ?_) (fun i => ?_) j
  · rw [olF_even, stF_even, stF_even]
  · rw [olF_odd, stF_odd, stF_odd, if_neg (by omega)]
    omega
theorem stF_old (A I k j : Nat) : hrF (stF A I k) A ((I : Int) - 1) j = stF A I k j := by
  unfold hrF
  rw [if_neg]
  rw [stF_even, if_pos rfl]
  omega
theorem rt_st {N A I k : Nat} (h1 : 2 ≤ N ∧ N ≤ 8) (hI : 2 ≤ I ∧ I ≤ 1001) (hk : k ≤ 1000) : rt N (stF A I k) = true := by
  rw [rt_iff]
  refine ⟨by omega, h1.2, fun i hi => ?_⟩
  rw [stF_even, stF_odd]
  split <;> omega
theorem hear_0 (N A I : Nat) (w : World) (g : Nat) (hg : g = w.heap.size) (hN : 2 ≤ N ∧ N ≤ 8) (hA : A < N) (hI : 2 ≤ I ∧ I ≤ 1001) :
    Calls Try.prog 9 #[.slice (some ⟨g, 0, none⟩) N N, .int .i64 (A : Int), .int .i64 (I : Int)] (w.alloc (.cells (pz N) 42)) fun e w' => ∃ v', e = .returned (.tuple #[v', .int .i64 0]) ∧ Pe w' v' N (stF A I 0) ∧ Below w.heap.size w w' := by
  refine (hear_p (fun _ => 0) _ N A I _ (pe_made w N hN.2 g hg) (rt_zero N (by omega) hN.2) hA ⟨by omega, by omega⟩).mono ?_
  rintro e w' ⟨v', rfl, o, b⟩
  exact ⟨v', rfl, o.congr fun j _ => stF_zero A I j, below_of (below_alloc (Below.refl _ _) _) b⟩
theorem older_t (N A I k : Nat) (v : Value) (w : World) (hv : Pe w v N (stF A I k)) (hN : 2 ≤ N ∧ N ≤ 8) (_ : A < N) (hI : 2 ≤ I ∧ I ≤ 1001) (hk : k < 10) :
    Calls Try.prog 10 #[v] w fun e w' => ∃ v', e = .returned (.tuple #[v', .int .i64 0]) ∧ Pe w' v' N (stF A I (k + 1)) ∧ Below w.heap.size w w' := by
  refine (older_p _ v N w hv (rt_st hN hI (by omega))).mono ?_
  rintro e w' ⟨v', rfl, o, b⟩
  exact ⟨v', rfl, o.congr fun j _ => stF_next A I k j (by omega), b⟩
theorem modT (x : Int) (m : Nat) (h0 : 0 < m) (h : m ≤ 1000000) : ∃ q : Nat, wrap64 (2 + wrap64 ((IntKind.u64.wrap x).tmod m)) = q ∧ 2 ≤ q ∧ q ≤ m + 1 := by
  obtain ⟨q, h1, h2⟩ := modN x m h0 h
  refine ⟨2 + q, ?_, by omega, by omega⟩
  rw [h1]
  unfold wrap64
  omega
theorem kpeers_h (A I T : Nat) (v u : Value) (n : Nat) (w : World) (hv : Pe w v n (hrF (stF A I T) A ((I : Int) - 1))) (hu : Pe w u n (stF A I T)) : Calls Try.prog 12 #[v, u] w fun ev w' => ev = .returned (.bool true) ∧ Below w.heap.size w w' :=
  kpeers_same _ _ v u n w hv hu fun j _ => stF_old A I T j
/-- Who was heard is live for four ticks. -/
theorem heard_live (A I T S : Nat) (hI : 2 ≤ I) : lvB (stF A I T) S A = true ↔ A = S ∨ T < 4 := by
  rw [lvB_iff, stF_even, stF_odd, if_pos rfl]
  omega
theorem fresh_live (A I T S : Nat) (hI : 2 ≤ I) : lvB (hrF (stF A I T) A ((I : Int) + 1)) S A = true := by
  rw [lvB_iff, hrF_at, hrF_age, stF_even, if_pos rfl]
  refine .inr ⟨?_, ?_⟩
  · split <;> omega
  · rw [if_pos (by omega)]
    decide
set_option maxHeartbeats 2000000 in
set_option maxRecDepth 100000 in
theorem heard_walk (n from_ self inc ticks : Int) (w : World) :
    Calls Try.prog 4 #[.int .i64 n, .int .i64 from_, .int .i64 self, .int .i64 inc, .int .i64 ticks] w fun e w' => e = .returned (.bool true) ∧ Below w.heap.size w w' := by
  obtain ⟨N, hN, hN2⟩ : ∃ q : Nat, wrap64 (2 + wrap64 ((IntKind.u64.wrap n).tmod 7)) = q ∧ 2 ≤ q ∧ q ≤ 8 := modT n 7 (by omega) (by omega)
  obtain ⟨A, hA, hA2⟩ := modN from_ N (by omega) (by omega)
  obtain ⟨S, hS, hS2⟩ := modN self N (by omega) (by omega)
  obtain ⟨I, hI, hI2⟩ : ∃ q : Nat, wrap64 (2 + wrap64 ((IntKind.u64.wrap inc).tmod 1000)) = q ∧ 2 ≤ q ∧ q ≤ 1001 := modT inc 1000 (by omega) (by omega)
  obtain ⟨T, hT, hT2⟩ : ∃ q : Nat, wrap64 ((IntKind.u64.wrap ticks).tmod 10) = q ∧ q < 10 := modN ticks 10 (by omega) (by omega)
  have KN := hide hN2
  have KA := hide hA2
  have KS := hide hS2
  have KI := hide hI2
  have KTT := hide hT2
  have wn := wrapU N (by omega)
  have n0 : ((N : Int) == 0) = false := by simp; omega
  have n1 : 1 ≤ N := by omega
  have n8 : N ≤ 8 := hN2.2
  have MK := mk_any N (by omega)
  have RT := hide (rt_st (A := A) (k := T) hN2 hI2 (by omega))
  have J1 := hide (show 1 ≤ (I : Int) - 1 ∧ (I : Int) - 1 ≤ 1073741824 by omega)
  have J2 := hide (show 1 ≤ (I : Int) + 1 ∧ (I : Int) + 1 ≤ 1073741824 by omega)
  have RF := hide (rt_hr (a := A) (unhide RT) (unhide J2))
  have i8 : I ≤ 1001 := hI2.2
  have t9 : T < 10 := hT2
  have BB := hide (Below.refl w.heap.size w)
  clear hN2 hA2 hS2 hI2 hT2
  go_enter Try.func4, Try.ntmps4
  go_upto_region 2 with fail
  rw [hN]
  clear hN
  go_quiet (fail)
  rw [hA, hS, hI, hT]
  clear hA hS hI hT
  obtain ⟨w3, hw3⟩ : ∃ x, x = w.drewN nq := ⟨_, rfl⟩
  replace BB := hide (show Below w.heap.size w w3 by rw [hw3]; exact below_drewN (unhide BB) nq)
  rw [← hw3]
  clear hw3
  go_wp2_with (first
    | (go_at_call 9; (with_reducible refine (hear_0 N A I w3 _ rfl (unhide KN) (unhide KA) (unhide KI)).mono ?_); rintro e w4 ⟨v4, rfl, f, b⟩; have HV := hide f; replace BB := hide (below_of (unhide BB) b); clear b f))
  go_loopw [11, 13] (fun l i w5 => ∃ (V : Value) (k : Nat), k ≤ T ∧ l = V ∧ i = .int .i64 k ∧ Pe w5 V N (stF A I k) ∧ Below w4.heap.size w4 w5) (fun _ i _ => T - (intOf i).toNat)
  case atStart => exact ⟨v4, 0, by omega, rfl, rfl, unhide HV, Below.refl _ _⟩
  case round =>
    obtain ⟨V, k, hk, hl, rfl, hv, hb⟩ := hrel
    obtain rfl := hl.symm
    by_cases hlt : k < T
    · have HV2 := hide hv
      have HB := hide hb
      have KT := hide (show k < 10 by have := unhide KTT; omega)
      clear hv hb
      go_wp2_with (go_at_call 10; (with_reducible refine (older_t N A I k _ _ (unhide HV2) (unhide KN) (unhide KA) (unhide KI) (unhide KT)).mono ?_); rintro e w5 ⟨v5, rfl, f, b⟩; have H5 := hide f; have B5 := hide (below_of (unhide HB) b); clear b f)
      go_roundw
      case rel => exact ⟨v5, k + 1, by omega, rfl, by go_num, unhide H5, unhide B5⟩
      case measure => simp [intOf]; omega
    · obtain rfl : k = T := by omega
      clear HV
      have HV := hide hv
      replace BB := hide (below_of (unhide BB) hb)
      clear hv hb hk hlt
      go_wp2_with (first
        | (go_at_call 11; (with_reducible refine (live_s (stF A I k) _ N S _ (unhide HV) (unhide RT) (unhide KS)).mono ?_); rintro e w7 ⟨p7, m7, c7, rfl, hm7, hmc7, hc7, f, b⟩; unfold maxLen at hc7; have N7 := hide hm7; have H7 := hide f; replace HV := hide ((unhide HV).below b (Nat.le_refl _)); replace BB := hide (below_of (unhide BB) b); clear b f hm7)
        | (go_at_call 9; (with_reducible refine (hear_p (stF A I k) _ N A ((I : Int) - 1) _ (unhide HV) (unhide RT) (unhide KA) (unhide J1)).mono ?_); rintro e w8 ⟨v8, rfl, f, b⟩; have H8 := hide f; replace HV := hide ((unhide HV).below b (Nat.le_refl _)); replace H7 := hide ((unhide H7).below b (Nat.le_refl _)); replace BB := hide (below_of (unhide BB) b); clear b f)
        | (go_at_call 9; (with_reducible refine (hear_p (stF A I k) _ N A ((I : Int) + 1) _ (unhide HV) (unhide RT) (unhide KA) (unhide J2)).mono ?_); rintro e w9 ⟨v9, rfl, f, b⟩; have H9 := hide f; replace HV := hide ((unhide HV).below b (Nat.le_refl _)); replace H7 := hide ((unhide H7).below b (Nat.le_refl _)); replace H8 := hide ((unhide H8).below b (Nat.le_refl _)); replace BB := hide (below_of (unhide BB) b); clear b f)
        | (go_at_call 11; (with_reducible refine (live_s (hrF (stF A I k) A ((I : Int) + 1)) _ N S _ (unhide H9) (unhide RF) (unhide KS)).mono ?_); rintro e w10 ⟨p10, m10, c10, rfl, hm10, hmc10, hc10, f, b⟩; unfold maxLen at hc10; have N10 := hide hm10; have H10 := hide f; replace HV := hide ((unhide HV).below b (Nat.le_refl _)); replace H7 := hide ((unhide H7).below b (Nat.le_refl _)); replace H8 := hide ((unhide H8).below b (Nat.le_refl _)); replace BB := hide (below_of (unhide BB) b); clear b f hm10))
      have M7 := hide (show m7 ≤ 1000 by
        have := lvL_len (stF A I k) S N
        have := unhide N7
        omega)
      have M10 := hide (show m10 ≤ 1000 by
        have := lvL_len (hrF (stF A I k) A ((I : Int) + 1)) S N
        have := unhide N10
        omega)
      have E1 := hide (show amg (lvL (stF A I k) S N) A m7 = true ↔ A = S ∨ k < 4 by
        rw [unhide N7, amg_mem, lvL_mem, heard_live A I k S (unhide KI).1]
        have := unhide KA
        omega)
      have E2 := hide (show amg (lvL (hrF (stF A I k) A ((I : Int) + 1)) S N) A m10 = true by
        rw [unhide N10, amg_mem, lvL_mem]
        exact ⟨unhide KA, fresh_live A I k S (unhide KI).1⟩)
      generalize lvL (stF A I k) S N = L1 at *
      generalize lvL (hrF (stF A I k) A ((I : Int) + 1)) S N = L2 at *
      have x7 : m7 ≤ 1000 := unhide M7
      have x10 : m10 ≤ 1000 := unhide M10
      go_loopw [24, 26] (fun v i w5 => ∃ k2 : Nat, k2 ≤ m7 ∧ v = .bool (amg L1 A k2) ∧ i = .int .i64 k2 ∧ w5 = w10) (fun _ i _ => m7 - (intOf i).toNat)
      case atStart => exact ⟨0, by omega, rfl, rfl, rfl⟩
      case round =>
        obtain ⟨k2, hk2, rfl, rfl, hw⟩ := hrel
        obtain rfl := hw.symm
        by_cases hl2 : k2 < m7
        · obtain ⟨bk, ok, he, _, ck⟩ := (unhide H7).some (by omega)
          subst he
          have q0 := ck k2 hl2
          rw [show nF L1 k2 = ((L1.getD k2 0 : Nat) : Int) from rfl] at q0
          have u3 : (k2 : Int) < (m7 : Int) := by omega
          have SA := hide (show amg L1 A (k2 + 1) = (amg L1 A k2 || decide (L1.getD k2 0 = A)) from rfl)
          clear ck
          generalize L1.getD k2 0 = Q at *
          obtain ⟨mt, hmt⟩ : ∃ b, amg L1 A k2 = b := ⟨_, rfl⟩
          rw [hmt] at SA ⊢
          clear hmt
          cases mt with
          | true =>
            have E := hide (show amg L1 A (k2 + 1) = true by rw [unhide SA]; rfl)
            clear SA
            go_wp2
            go_roundw
            case rel => exact ⟨k2 + 1, by omega, by rw [unhide E], by go_num, trivial⟩
            case measure => simp [intOf]; omega
          | false =>
            by_cases hQ : Q = A
            · have u4 : ((Q : Int) == (A : Int)) = true := by simp [hQ]
              have E := hide (show amg L1 A (k2 + 1) = true by rw [unhide SA]; simp [hQ])
              clear hQ SA
              go_wp2
              go_roundw
              case rel => exact ⟨k2 + 1, by omega, by rw [unhide E], by go_num, trivial⟩
              case measure => simp [intOf]; omega
            · have u4 : ((Q : Int) == (A : Int)) = false := by simp; omega
              have E := hide (show amg L1 A (k2 + 1) = false by rw [unhide SA]; simp [hQ])
              clear hQ SA
              go_wp2
              go_roundw
              case rel => exact ⟨k2 + 1, by omega, by rw [unhide E], by go_num, trivial⟩
              case measure => simp [intOf]; omega
        · obtain rfl : k2 = m7 := by omega
          have W1 := hide (show (amg L1 A k2 = true ↔ A = S ∨ k < 4) from unhide E1)
          obtain ⟨mt7, hmt7⟩ : ∃ b, amg L1 A k2 = b := ⟨_, rfl⟩
          rw [hmt7] at W1 ⊢
          clear hmt7 E1 hk2 hl2
          have E1 := hide (show mt7 = true ↔ A = S ∨ k < 4 from unhide W1)
          clear W1 x7 M7 N7 H7
          go_wp2
          go_loopw [25, 27] (fun v i w5 => ∃ k2 : Nat, k2 ≤ m10 ∧ v = .bool (amg L2 A k2) ∧ i = .int .i64 k2 ∧ w5 = w10) (fun _ i _ => m10 - (intOf i).toNat)
          case atStart => exact ⟨0, by omega, rfl, rfl, rfl⟩
          case round =>
            obtain ⟨k2, hk2, rfl, rfl, hw⟩ := hrel
            obtain rfl := hw.symm
            by_cases hl2 : k2 < m10
            · obtain ⟨bk, ok, he, _, ck⟩ := (unhide H10).some (by omega)
              subst he
              have q0 := ck k2 hl2
              rw [show nF L2 k2 = ((L2.getD k2 0 : Nat) : Int) from rfl] at q0
              have u3 : (k2 : Int) < (m10 : Int) := by omega
              have SA := hide (show amg L2 A (k2 + 1) = (amg L2 A k2 || decide (L2.getD k2 0 = A)) from rfl)
              clear ck
              generalize L2.getD k2 0 = Q at *
              obtain ⟨mt, hmt⟩ : ∃ b, amg L2 A k2 = b := ⟨_, rfl⟩
              rw [hmt] at SA ⊢
              clear hmt
              cases mt with
              | true =>
                have E := hide (show amg L2 A (k2 + 1) = true by rw [unhide SA]; rfl)
                clear SA
                go_wp2
                go_roundw
                case rel => exact ⟨k2 + 1, by omega, by rw [unhide E], by go_num, trivial⟩
                case measure => simp [intOf]; omega
              | false =>
                by_cases hQ : Q = A
                · have u4 : ((Q : Int) == (A : Int)) = true := by simp [hQ]
                  have E := hide (show amg L2 A (k2 + 1) = true by rw [unhide SA]; simp [hQ])
                  clear hQ SA
                  go_wp2
                  go_roundw
                  case rel => exact ⟨k2 + 1, by omega, by rw [unhide E], by go_num, trivial⟩
                  case measure => simp [intOf]; omega
                · have u4 : ((Q : Int) == (A : Int)) = false := by simp; omega
                  have E := hide (show amg L2 A (k2 + 1) = false by rw [unhide SA]; simp [hQ])
                  clear hQ SA
                  go_wp2
                  go_roundw
                  case rel => exact ⟨k2 + 1, by omega, by rw [unhide E], by go_num, trivial⟩
                  case measure => simp [intOf]; omega
            · obtain rfl : k2 = m10 := by omega
              clear hk2 hl2
              rw [unhide E2]
              by_cases hAS : A = S
              · have u4 : ((A : Int) == (S : Int)) = true := by simp [hAS]
                have E := hide (show mt7 = true from (unhide E1).2 (.inl hAS))
                rw [unhide E]
                clear hAS
                go_wp2_with (first
                  | (go_at_call 12; (with_reducible refine (kpeers_h A I k _ _ N _ (unhide H8) (unhide HV)).mono ?_); rintro e w11 ⟨rfl, b⟩; replace BB := hide (below_of (unhide BB) b); clear b)
                  | (go_at_call 15; (with_reducible refine (wakes_any _).mono ?_); rintro e w12 ⟨rfl, b⟩; replace BB := hide (below_of (unhide BB) b); clear b))
                go_ret
                exact ⟨rfl, unhide BB⟩
              · have u4 : ((A : Int) == (S : Int)) = false := by simp; omega
                by_cases hT4 : k < 4
                · have E := hide (show mt7 = true from (unhide E1).2 (.inr hT4))
                  have d1 : decide (k < 4) = true := decide_eq_true hT4
                  have d2 : decide ((k : Int) < 4) = true := decide_eq_true (by omega)
                  rw [unhide E]
                  clear hAS
                  go_wp2_with (first
                  | (go_at_call 12; (with_reducible refine (kpeers_h A I k _ _ N _ (unhide H8) (unhide HV)).mono ?_); rintro e w11 ⟨rfl, b⟩; replace BB := hide (below_of (unhide BB) b); clear b)
                  | (go_at_call 15; (with_reducible refine (wakes_any _).mono ?_); rintro e w12 ⟨rfl, b⟩; replace BB := hide (below_of (unhide BB) b); clear b))
                  go_ret
                  exact ⟨rfl, unhide BB⟩
                · have E := hide (show mt7 = false by
                    cases q : mt7 with
                    | false => rfl
                    | true => rcases (unhide E1).1 q with h | h <;> omega)
                  have d1 : decide (k < 4) = false := decide_eq_false hT4
                  have d2 : decide ((k : Int) < 4) = false := decide_eq_false (by omega)
                  rw [unhide E]
                  clear hAS
                  go_wp2_with (first
                  | (go_at_call 12; (with_reducible refine (kpeers_h A I k _ _ N _ (unhide H8) (unhide HV)).mono ?_); rintro e w11 ⟨rfl, b⟩; replace BB := hide (below_of (unhide BB) b); clear b)
                  | (go_at_call 15; (with_reducible refine (wakes_any _).mono ?_); rintro e w12 ⟨rfl, b⟩; replace BB := hide (below_of (unhide BB) b); clear b))
                  go_ret
                  exact ⟨rfl, unhide BB⟩
end Go.Proofs.Ytnbmnbgbnagajaa
