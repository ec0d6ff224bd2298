/- Walk of ViewLive. -/
import Derived.Test.YtnbmnbgbnagajaaL1
namespace Go.Proofs.Ytnbmnbgbnagajaa
open Go.RowKit

theorem wrapV (n : Nat) (h : n ≤ 1000000) : IntKind.u64.wrap (n : Int) = (n : Int) := by
  show (n : Int) % 18446744073709551616 = n
  omega
theorem rt_older {n : Nat} {F : Nat → Int} (h : rt n F = true) : rt n (olF F) = true := by
  rw [rt_iff] at h ⊢
  obtain ⟨h1, h2, h3⟩ := h
  refine ⟨h1, h2, fun i hi => ?_⟩
  have := h3 i hi
  rw [olF_even, olF_odd]
  split <;> omega
set_option maxHeartbeats 2000000 in
set_option maxRecDepth 100000 in
theorem li_heavy (p : Option Addr) (n c : Nat) (y : Int) (w : World) (hn : 20 < n) :
    Calls Try.prog 5 #[.slice p n c, .int .i64 y] w fun e w' => e = .returned (.bool true) ∧ Below w.heap.size w w' := by
  have HH := hide (show decide ((20 : Int) < (n : Int)) = true by simp; omega)
  clear hn
  go_enter Try.func5, Try.ntmps5
  go_wp2_with (go_at_call 7; (with_reducible refine (heavy_c _ _ _ true _ (unhide HH)).mono ?_); rintro e w1 ⟨rfl, b⟩; have B := hide b; clear b)
  go_ret
  exact ⟨rfl, unhide B⟩
set_option maxHeartbeats 2000000 in
set_option maxRecDepth 100000 in
theorem li_none (p : Option Addr) (c : Nat) (y : Int) (w : World) :
    Calls Try.prog 5 #[.slice p 0 c, .int .i64 y] w fun e w' => e = .returned (.bool true) ∧ Below w.heap.size w w' := by
  have HH := hide (show decide ((20 : Int) < ((0 : Nat) : Int)) = false by decide)
  go_enter Try.func5, Try.ntmps5
  go_wp2_with (go_at_call 7; (with_reducible refine (heavy_c _ _ _ false _ (unhide HH)).mono ?_); rintro e w1 ⟨rfl, b⟩; have B := hide b; clear b)
  go_ret
  exact ⟨rfl, unhide B⟩
set_option maxHeartbeats 2000000 in
set_option maxRecDepth 100000 in
theorem li_bad (F : Nat → Int) (v : Value) (n : Nat) (y : Int) (w : World) (hv : Pe w v n F) (hn : n ≤ 20) (h0 : 0 < n) (hr : rt n F = false) :
    Calls Try.prog 5 #[v, .int .i64 y] w fun e w' => e = .returned (.bool true) ∧ Below w.heap.size w w' := by
  have HH := hide (show decide ((20 : Int) < (n : Int)) = false by simp; omega)
  obtain ⟨S, hS, hS2⟩ := modN y n (by omega) (by omega)
  have wn := wrapV n (by omega)
  have n0 : ((n : Int) == 0) = false := by simp; omega
  have RT := hide hr
  have PS := hide (plc_bad hr (S : Int))
  have HL := hide hv
  have BB := hide (Below.refl w.heap.size w)
  obtain ⟨p, c, rfl, _, hc2⟩ := hv.shape
  unfold maxLen at hc2
  have KS := hide hS2
  have HN := hide hn
  clear hv hr hS2 hn
  go_enter Try.func5, Try.ntmps5
  go_upto_region 4 with (go_at_call 7; (with_reducible refine (heavy_c _ _ _ false _ (unhide HH)).mono ?_); rintro e w1 ⟨rfl, b⟩; replace HL := hide ((unhide HL).below b (Nat.le_refl _)); replace BB := hide (below_of (unhide BB) b); clear b)
  rw [hS]
  clear hS
  go_wp2_with (first
    | (go_at_call 11; (with_reducible refine (live_e F _ n _ 1 _ (unhide HL) (unhide PS) (by decide)).mono ?_); rintro e w3 ⟨rfl, b⟩; replace HL := hide ((unhide HL).below b (Nat.le_refl _)); replace BB := hide (below_of (unhide BB) b); clear b)
    | (go_at_call 10; (with_reducible refine (older_bad F _ n _ (unhide HL) (unhide RT)).mono ?_); rintro e w4 ⟨rfl, b⟩; replace BB := hide (below_of (unhide BB) b); clear b)
    | (go_at_call 15; (with_reducible refine (wakes_any _).mono ?_); rintro e w5 ⟨rfl, b⟩; replace BB := hide (below_of (unhide BB) b); clear b))
  go_ret
  exact ⟨rfl, unhide BB⟩
theorem live_s (F : Nat → Int) (v : Value) (n s : Nat) (w : World) (hv : Pe w v n F) (h : rt n F = true) (hs : s < n) :
    Calls Try.prog 11 #[v, .int .i64 (s : Int)] w fun e w' => ∃ p m c, e = .returned (.tuple #[.slice p m c, .int .i64 0]) ∧ m = (lvL F s n).length ∧ m ≤ c ∧ c ≤ maxLen ∧ Sl .i64 w' (.slice p m c) m (nF (lvL F s n)) ∧ Below w.heap.size w w' := by
  refine (live_p F v n s w hv h hs).mono ?_
  rintro e w' ⟨v', rfl, o, b⟩
  obtain ⟨p, c, rfl, h1, h2⟩ := o.shape
  exact ⟨p, _, c, rfl, rfl, h1, h2, o, b⟩
theorem hit_yes {L M : List Nat} {k : Nat} (h : hit L M k < M.length ∧ M.getD (hit L M k) 0 = L.getD k 0) : hit L M (k + 1) = hit L M k + 1 := by
  show (if _ then _ else _) = _
  rw [if_pos h]
theorem hit_no {L M : List Nat} {k : Nat} (h : ¬ (hit L M k < M.length ∧ M.getD (hit L M k) 0 = L.getD k 0)) : hit L M (k + 1) = hit L M k := by
  show (if _ then _ else _) = _
  rw [if_neg h]
set_option maxHeartbeats 2000000 in
set_option maxRecDepth 100000 in
theorem li_good (F : Nat → Int) (v : Value) (n : Nat) (y : Int) (w : World) (hv : Pe w v n F) (hr : rt n F = true) :
    Calls Try.prog 5 #[v, .int .i64 y] w fun e w' => e = .returned (.bool true) ∧ Below w.heap.size w w' := by
  have h8 := (rt_iff.1 hr).2.1
  have h0 := (rt_iff.1 hr).1
  have HH := hide (show decide ((20 : Int) < (n : Int)) = false by simp; omega)
  obtain ⟨S, hS, hS2⟩ := modN y n (by omega) (by omega)
  have wn := wrapV n (by omega)
  have n0 : ((n : Int) == 0) = false := by simp; omega
  have RT := hide hr
  have RO := hide (rt_older hr)
  have HL := hide hv
  have BB := hide (Below.refl w.heap.size w)
  obtain ⟨p, c, rfl, _, hc2⟩ := hv.shape
  unfold maxLen at hc2
  have KS := hide hS2
  clear hv hr hS2
  obtain ⟨L, hL⟩ : ∃ L, lvL F S n = L := ⟨_, rfl⟩
  obtain ⟨M, hM⟩ : ∃ M, lvL (olF F) S n = M := ⟨_, rfl⟩
  have LL := hide hL
  have MM := hide hM
  clear hL hM
  go_enter Try.func5, Try.ntmps5
  go_upto_region 4 with (go_at_call 7; (with_reducible refine (heavy_c _ _ _ false _ (unhide HH)).mono ?_); rintro e w1 ⟨rfl, b⟩; replace HL := hide ((unhide HL).below b (Nat.le_refl _)); replace BB := hide (below_of (unhide BB) b); clear b)
  rw [hS]
  clear hS
  go_wp2_with (first
    | (go_at_call 11; (with_reducible refine (live_s F _ n S _ (unhide HL) (unhide RT) (unhide KS)).mono ?_); rintro e w3 ⟨p3, m3, c3, rfl, hm3, hmc3, hc3, f, b⟩; unfold maxLen at hc3; have N3 := hide hm3; have H3 := hide f; replace HL := hide ((unhide HL).below b (Nat.le_refl _)); replace BB := hide (below_of (unhide BB) b); clear b f hm3)
    | (go_at_call 10; (with_reducible refine (older_p F _ n _ (unhide HL) (unhide RT)).mono ?_); rintro e w4 ⟨v4, rfl, f, b⟩; have H4 := hide f; replace HL := hide ((unhide HL).below b (Nat.le_refl _)); replace H3 := hide ((unhide H3).below b (Nat.le_refl _)); replace BB := hide (below_of (unhide BB) b); clear b f)
    | (go_at_call 11; (with_reducible refine (live_s (olF F) _ n S _ (unhide H4) (unhide RO) (unhide KS)).mono ?_); rintro e w5 ⟨p5, m5, c5, rfl, hm5, hmc5, hc5, f, b⟩; unfold maxLen at hc5; have N5 := hide hm5; have H5 := hide f; replace HL := hide ((unhide HL).below b (Nat.le_refl _)); replace H3 := hide ((unhide H3).below b (Nat.le_refl _)); replace BB := hide (below_of (unhide BB) b); clear b f hm5))
  rw [unhide LL] at N3 H3
  rw [unhide MM] at N5 H5
  have LB := hide (show ∀ k, k < m3 → L.getD k 0 < n ∧ lvB F S (L.getD k 0) = true from fun k hk => by
    rw [unhide N3] at hk
    have := getD_mem hk
    rw [← unhide LL, lvL_mem, unhide LL] at this
    exact this)
  have LR := hide (show ∀ i j, i < j → j < m3 → L.getD i 0 < L.getD j 0 by
    rw [unhide N3, ← unhide LL]
    exact lvL_rise F S n)
  have EH := hide (show hit L M m3 = m5 by
    rw [unhide N3, unhide N5, ← unhide LL, ← unhide MM]
    refine hit_all _ _ (lvL_rise F S n) (lvL_rise (olF F) S n) fun x hx => ?_
    rw [lvL_mem] at hx ⊢
    exact ⟨hx.1, lvB_older hx.2⟩)
  have EA := hide (show amg L S m3 = true by
    rw [unhide N3, amg_mem, ← unhide LL, lvL_mem]
    exact ⟨unhide KS, by rw [lvB_iff]; exact .inl rfl⟩)
  have HT := hide (fun k => Nat.le_trans (hit_len L M k) (Nat.le_of_eq (unhide N5).symm))
  have M3 := hide (show m3 ≤ 1000 by
    have := lvL_len F S n
    rw [unhide LL] at this
    have := unhide N3
    omega)
  have M5 := hide (show m5 ≤ 1000 by
    have := lvL_len (olF F) S n
    rw [unhide MM] at this
    have := unhide N5
    omega)
  go_loopw [11, 12, 13] (fun met at_ i w2 => ∃ k : Nat, k ≤ m3 ∧ met = .bool (amg L S k) ∧ at_ = .int .i64 (hit L M k : Nat) ∧ i = .int .i64 k ∧ Below w5.heap.size w5 w2) (fun _ _ i _ => m3 - (intOf i).toNat)
  case atStart => exact ⟨0, by omega, rfl, rfl, rfl, Below.refl _ _⟩
  case round =>
    obtain ⟨k, hk, rfl, rfl, rfl, hb⟩ := hrel
    have HBr := hide hb
    by_cases hlt : k < m3
    · have HL2 := hide ((unhide HL).below hb (Nat.le_refl _))
      have HK2 := hide ((unhide H3).below hb (Nat.le_refl _))
      have HJ2 := hide ((unhide H5).below hb (Nat.le_refl _))
      obtain ⟨hQ, hQB⟩ := unhide LB k hlt
      have SA := hide (show amg L S (k + 1) = (amg L S k || decide (L.getD k 0 = S)) from rfl)
      have SY := hide (fun h => hit_yes (L := L) (M := M) (k := k) h)
      have SN := hide (fun h => hit_no (L := L) (M := M) (k := k) h)
      have HTk := hide (unhide HT k)
      have RS := hide (fun j (hj : j + 1 = k) => unhide LR j k (by omega) hlt)
      have nFk : nF L k = ((L.getD k 0 : Nat) : Int) := rfl
      have mk : k ≤ 1000 := Nat.le_trans hk (unhide M3)
      clear hb
      obtain ⟨Q, hQe⟩ : ∃ Q, L.getD k 0 = Q := ⟨_, rfl⟩
      rw [hQe] at hQ hQB nFk
      rw [hQe] at SA SY SN RS
      clear hQe
      have QB := hide hQB
      clear hQB
      obtain ⟨h, hhe⟩ : ∃ h, hit L M k = h := ⟨_, rfl⟩
      rw [hhe] at HTk SY SN
      obtain ⟨mt, hmt⟩ : ∃ b, amg L S k = b := ⟨_, rfl⟩
      rw [hmt] at SA
      rw [hmt, hhe]
      clear hhe hmt
      go_upto_region 14 with fail
      go_cut [114] from 66 to 113 (fun v wc => v = .bool false ∧ Below wr.heap.size wr wc)
      case first => as_aux_lemma =>
        obtain ⟨bl, ol, rfl, _, cl⟩ := (unhide HL2).some (by omega)
        obtain ⟨bk, ok, rfl, _, ck⟩ := (unhide HK2).some (by omega)
        have q0 := ck k hlt
        rw [nFk] at q0
        have q1 := (Pe.two cl Q hQ).1
        have u1 : (0 : Int) ≤ (Q : Int) := by omega
        have u2 : (Q : Int) < (n : Int) := by omega
        have u3 : (k : Int) < (m3 : Int) := by omega
        have d1 : decide ((Q : Int) < 0) = false := decide_eq_false (by omega)
        have d2 : decide (n ≤ Q) = false := decide_eq_false (by omega)
        clear SA SY SN HTk LB LR EH EA HT HJ2
        by_cases hk0 : k = 0
        · have d3 : decide (0 < k) = false := decide_eq_false (by omega)
          clear ck cl hk0 RS
          by_cases hQS : Q = S
          · have u4 : ((Q : Int) != (S : Int)) = false := by simp [hQS]
            clear hQS
            go_wp2
            go_quiet (fail)
            go_wp2
            go_meet
            exact ⟨rfl, below_drewN (Below.refl _ _) _⟩
          · have u4 : ((Q : Int) != (S : Int)) = true := by simp; omega
            have u5 : (F (Q * 2) == 0) = false := by
              have := lvB_iff.1 (unhide QB)
              simp; omega
            clear hQS
            go_wp2
            go_quiet (fail)
            go_wp2
            go_meet
            exact ⟨rfl, below_drewN (Below.refl _ _) _⟩
        · have q2 := ck (k - 1) (by omega)
          have e2 : nF L (k - 1) = ((L.getD (k - 1) 0 : Nat) : Int) := rfl
          rw [e2] at q2
          have u6 := unhide RS (k - 1) (by omega)
          generalize L.getD (k - 1) 0 = R at *
          have d3 : decide (0 < k) = true := decide_eq_true (by omega)
          have u8 : IntKind.i64.wrap ((k : Int) - 1) = (k : Int) - 1 := by rw [IntKind.wrap_i64]; omega
          have u9 : 0 ≤ (k : Int) - 1 := by omega
          have v0 : ((k : Int) - 1).toNat = k - 1 := by omega
          have v1 : (k : Int) - 1 < (m3 : Int) := by omega
          have v2 : k - 1 < m3 := by omega
          have v3 : 0 < (k : Int) := by omega
          have v4 : decide (Q ≤ R) = false := decide_eq_false (by omega)
          clear ck cl e2 RS hk0
          by_cases hQS : Q = S
          · have u4 : ((Q : Int) != (S : Int)) = false := by simp [hQS]
            clear hQS
            go_wp2
            go_quiet (fail)
            go_wp2
            go_meet
            exact ⟨rfl, below_drewN (Below.refl _ _) _⟩
          · have u4 : ((Q : Int) != (S : Int)) = true := by simp; omega
            have u5 : (F (Q * 2) == 0) = false := by
              have := lvB_iff.1 (unhide QB)
              simp; omega
            clear hQS
            go_wp2
            go_quiet (fail)
            go_wp2
            go_meet
            exact ⟨rfl, below_drewN (Below.refl _ _) _⟩
      case rest => as_aux_lemma =>
        obtain ⟨rfl, hw⟩ := hcut
        replace HBr := hide (below_of (unhide HBr) hw)
        replace HK2 := hide ((unhide HK2).below hw (Nat.le_refl _))
        replace HJ2 := hide ((unhide HJ2).below hw (Nat.le_refl _))
        clear hw HL2 RS
        obtain ⟨w6, hw6⟩ : ∃ x, x = wc := ⟨_, rfl⟩
        rw [← hw6] at HBr HK2 HJ2 ⊢
        clear hw6
        go_upto_region 16 with fail
        go_cut [11] from 115 to 123 (fun v wc => v = .bool (amg L S (k + 1)) ∧ wc = w6)
        case first => as_aux_lemma =>
          cases mt with
          | true =>
            have E := hide (show amg L S (k + 1) = true by rw [unhide SA]; rfl)
            clear SA
            go_wp2
            go_meet
            exact ⟨by rw [unhide E], rfl⟩
          | false =>
            obtain ⟨bk, ok, rfl, _, ck⟩ := (unhide HK2).some (by omega)
            have q0 := ck k hlt
            rw [nFk] at q0
            have u3 : (k : Int) < (m3 : Int) := by omega
            clear ck
            by_cases hQS : Q = S
            · have u4 : ((Q : Int) == (S : Int)) = true := by simp [hQS]
              have E := hide (show amg L S (k + 1) = true by rw [unhide SA]; simp [hQS])
              clear hQS SA
              go_wp2
              go_meet
              exact ⟨by rw [unhide E], rfl⟩
            · have u4 : ((Q : Int) == (S : Int)) = false := by simp; omega
              have E := hide (show amg L S (k + 1) = false by rw [unhide SA]; simp [hQS])
              clear hQS SA
              go_wp2
              go_meet
              exact ⟨by rw [unhide E], rfl⟩
        case rest => as_aux_lemma =>
          obtain ⟨rfl, hw⟩ := hcut
          obtain rfl := hw.symm
          clear SA
          obtain ⟨mt2, hmt2⟩ : ∃ b, amg L S (k + 1) = b := ⟨_, rfl⟩
          rw [hmt2]
          have EM := hide hmt2
          clear hmt2
          obtain ⟨bk, ok, rfl, _, ck⟩ := (unhide HK2).some (by omega)
          have q0 := ck k hlt
          rw [nFk] at q0
          have u3 : (k : Int) < (m3 : Int) := by omega
          have h1 : h ≤ 1000 := Nat.le_trans (unhide HTk) (unhide M5)
          clear ck
          by_cases hh : h < m5
          · obtain ⟨bj, oj, rfl, _, cj⟩ := (unhide HJ2).some (by omega)
            have q1 := cj h hh
            rw [show nF M h = ((M.getD h 0 : Nat) : Int) from rfl] at q1
            have v3 : (h : Int) < (m5 : Int) := by omega
            have d1 : decide (h < m5) = true := decide_eq_true hh
            clear cj
            by_cases hG : M.getD h 0 = Q
            · have E := hide (unhide SY ⟨by rw [← unhide N5]; exact hh, hG⟩)
              rw [hG] at q1
              have g1 : ((Q : Int) == (Q : Int)) = true := by simp
              clear hG SY SN
              go_wp2
              go_quiet (fail)
              go_wp2
              go_roundw
              case rel => exact ⟨k + 1, by omega, by rw [unhide EM], by rw [unhide E]; go_num, by go_num, below_drewN (unhide HBr) _⟩
              case measure => simp [intOf]; omega
            · have E := hide (unhide SN fun q => hG q.2)
              generalize M.getD h 0 = G at *
              have g1 : ((G : Int) == (Q : Int)) = false := by simp; omega
              clear hG SY SN
              go_wp2
              go_quiet (fail)
              go_wp2
              go_roundw
              case rel => exact ⟨k + 1, by omega, by rw [unhide EM], by rw [unhide E], by go_num, below_drewN (unhide HBr) _⟩
              case measure => simp [intOf]; omega
          · have d1 : decide (h < m5) = false := decide_eq_false hh
            have E := hide (unhide SN fun q => hh (by rw [unhide N5]; exact q.1))
            clear SY SN
            go_wp2
            go_quiet (fail)
            go_wp2
            go_roundw
            case rel => exact ⟨k + 1, by omega, by rw [unhide EM], by rw [unhide E], by go_num, below_drewN (unhide HBr) _⟩
            case measure => simp [intOf]; omega
    · obtain rfl : k = m3 := by omega
      rw [unhide EH, unhide EA]
      clear hb
      go_wp2_with (go_at_call 15; (with_reducible refine (wakes_any _).mono ?_); rintro e w9 ⟨rfl, b⟩; have B9 := hide (below_of (below_of (unhide BB) (unhide HBr)) b); clear b)
      go_ret
      exact ⟨rfl, unhide B9⟩
theorem live_walk (p : Option Addr) (n c : Nat) (F : Nat → Int) (y : Int) (w : World) (hv : Pe w (.slice p n c) n F) :
    Calls Try.prog 5 #[.slice p n c, .int .i64 y] w fun e w' => e = .returned (.bool true) ∧ Below w.heap.size w w' := by
  by_cases hn : 20 < n
  · exact li_heavy p n c y w hn
  · by_cases h0 : n = 0
    · subst h0
      exact li_none p c y w
    · cases hr : rt n F with
      | false => exact li_bad F _ n y w hv (by omega) (by omega) hr
      | true => exact li_good F _ n y w hv hr
end Go.Proofs.Ytnbmnbgbnagajaa
