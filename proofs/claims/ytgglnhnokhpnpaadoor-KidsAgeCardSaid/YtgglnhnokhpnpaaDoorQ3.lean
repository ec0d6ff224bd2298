/- Walk of bellwetherlaw13.KidsAge. -/
import Derived.Test.YtgglnhnokhpnpaaDoorQ0
namespace Go.Proofs.YtgglnhnokhpnpaaDoor
open Go.RowKit

/-- The one child behind so many ticks. -/
def agF (x : Int) (k : Nat) : List Kd := if k ≤ 6 then [(x, 5, (k : Int))] else []
theorem agF_old (x : Int) (k : Nat) : old (agF x k) = agF x (k + 1) := by
  unfold agF
  by_cases h : k ≤ 6
  · rw [if_pos h]
    by_cases h2 : k + 1 ≤ 6
    · rw [if_pos h2]
      have : (k : Int) + 1 ≤ 6 := by omega
      simp [old, up1, this]
    · rw [if_neg h2]
      have : ¬ (k : Int) + 1 ≤ 6 := by omega
      simp [old, up1, this]
  · rw [if_neg h, if_neg (by omega)]
    rfl
theorem agF_hs (x : Int) (k : Nat) : hs (agF x k) x = decide (k ≤ 6) := by
  unfold agF
  by_cases h : k ≤ 6
  · rw [if_pos h, decide_eq_true h]; simp [hs]
  · rw [if_neg h, decide_eq_false h]; rfl
theorem agF_gd {t s x : Int} (hx : IsN x) (hg : gp t s < gp t x) (k : Nat) : Gd t s (agF x k) := by
  unfold agF
  by_cases h : k ≤ 6
  · rw [if_pos h]
    refine ⟨fun y hy => ?_, List.pairwise_singleton ..⟩
    obtain rfl := List.mem_singleton.1 hy
    exact ⟨hx, (show (1 : Int) ≤ 5 by omega), (show (5 : Int) ≤ 1073741824 by omega), (show (0 : Int) ≤ k by omega), (show (k : Int) ≤ 6 by omega), hg⟩
  · rw [if_neg h]
    exact Gd.nil t s
theorem agF_rk {t s x : Int} (ht : IsT t) (hs : IsN s) (hx : IsN x) (hg : gp t s < gp t x) (k : Nat) : rk t s 2 (agF x k) = true :=
  rk_gd.2 ⟨ht, hs, by omega, by omega, by unfold agF; split <;> simp, agF_gd hx hg k⟩
theorem age_first {t s x : Int} (ht : IsT t) (hs : IsN s) (hx : nb t s x = true) (w : World) (hG : Glob w) :
    Calls Tryd.prog 10 #[.int .i64 t, .int .i64 s, .int .i64 2, .slice none 0 0, .int .i64 x, .int .i64 5] w fun e w' => ∃ q c, e = .returned (.tuple #[.slice q 1 c, .int .i64 0, .int .i64 0, .int .i64 0]) ∧ KL w' (.slice q 1 c) [(x, 5, 0)] ∧ Below w.heap.size w w' := by
  have h := ask_k t s 2 [] x 5 _ w hG (KL.nil w) (rk_nil ht hs (by omega) (by omega)) (may_yes hx (by omega) (by omega))
  obtain ⟨e1, e2, e3⟩ := ask_first (t := t) (lim := 2) (n := x) (inc := 5) (by omega)
  rw [e1, e2, e3] at h
  refine h.mono ?_
  rintro e w' ⟨v', rfl, ho, hb⟩
  obtain ⟨q, c, rfl⟩ := kl_form ho.kl
  exact ⟨q, c, rfl, ho.kl, hb⟩
theorem age_rk {t s x j a : Int} (ht : IsT t) (hs : IsN s) (hx : IsN x) (hg : gp t s < gp t x) (hj : j = 5 ∨ j = 6) (ha : a = 0 ∨ a = 1) : rk t s 2 [(x, j, a)] = true := by
  refine rk_gd.2 ⟨ht, hs, by omega, by omega, by simp, fun y hy => ?_, List.pairwise_singleton ..⟩
  obtain rfl := List.mem_singleton.1 hy
  exact ⟨hx, (show 1 ≤ j by omega), (show j ≤ 1073741824 by omega), (show 0 ≤ a by omega), (show a ≤ 6 by omega), hg⟩
theorem age_older {t s x j : Int} (ht : IsT t) (hs : IsN s) (hx : IsN x) (hg : gp t s < gp t x) (hj : j = 5 ∨ j = 6) (q : Option Addr) (c : Nat) (w : World) (hG : Glob w) (hk : KL w (.slice q 1 c) [(x, j, 0)]) :
    Calls Tryd.prog 11 #[.int .i64 t, .int .i64 s, .int .i64 2, .slice q 1 c] w fun e w' => ∃ q c, e = .returned (.tuple #[.slice q 1 c, .int .i64 0]) ∧ KL w' (.slice q 1 c) [(x, j, 1)] ∧ Below w.heap.size w w' := by
  have h := older_k t s 2 [(x, j, 0)] _ w hG hk (age_rk ht hs hx hg hj (.inl rfl))
  rw [show old [(x, j, 0)] = [(x, j, 1)] by simp [old, up1]] at h
  refine h.mono ?_
  rintro e w' ⟨v', rfl, ho, hb⟩
  obtain ⟨q, c, rfl⟩ := kl_form ho.kl
  exact ⟨q, c, rfl, ho.kl, hb⟩
theorem age_again {t s x j : Int} (ht : IsT t) (hS : IsN s) (hx : IsN x) (hg : gp t s < gp t x) (hn : nb t s x = true) (hj : j = 5 ∨ j = 6) (q : Option Addr) (c : Nat) (w : World) (hG : Glob w) (hk : KL w (.slice q 1 c) [(x, j, 1)]) :
    Calls Tryd.prog 10 #[.int .i64 t, .int .i64 s, .int .i64 2, .slice q 1 c, .int .i64 x, .int .i64 6] w fun e w' => ∃ q c, e = .returned (.tuple #[.slice q 1 c, .int .i64 0, .int .i64 0, .int .i64 0]) ∧ KL w' (.slice q 1 c) [(x, 6, 0)] ∧ Below w.heap.size w w' := by
  have h := ask_k t s 2 [(x, j, 1)] x 6 _ w hG hk (age_rk ht hS hx hg hj (.inr rfl)) (may_yes hn (by omega) (by omega))
  obtain ⟨e1, e2, e3⟩ := ask_in (t := t) (lim := 2) (L := [(x, j, 1)]) (n := x) 6 (.inl (show hs [(x, j, 1)] x = true by simp [hs]))
  rw [e1, e2, e3, show wt t [(x, j, 1)] (x, 6, 0) = [(x, 6, 0)] by simp [wt, dr, ins]] at h
  refine h.mono ?_
  rintro e w' ⟨v', rfl, ho, hb⟩
  obtain ⟨q, c, rfl⟩ := kl_form ho.kl
  exact ⟨q, c, rfl, ho.kl, hb⟩
set_option maxHeartbeats 4000000 in
set_option maxRecDepth 100000 in
theorem age_none (t s n ticks : Int) (ag : Bool) (w : World) (hG : Glob w) (h0 : (farK (t % 4) (s % 8) 8).length = 0) :
    Calls Tryd.prog 5 #[.int .i64 t, .int .i64 s, .int .i64 n, .int .i64 ticks, .bool ag] w fun e w' => e = .returned (.bool true) ∧ Below w.heap.size w w' := by
  have hT := mod4 t
  have kT := mod4_topic t
  have hS := mod8 s
  have kS := mod8_node s
  generalize t % 4 = T at *
  generalize s % 8 = S at *
  have HG := hide (show ∀ W, Below w.heap.size w W → Glob W from fun W hb => hG.below hb hG.size)
  have c23 := hide (far_call kT kS h0 w hG)
  have c19 := hide (show ∀ W, Below w.heap.size w W → Calls Tryd.prog 19 #[] W fun e w' => e = .returned (.bool true) ∧ Below w.heap.size w w' from fun W hb => (wakes_any W (unhide HG W hb)).mono fun e w' (r : e = .returned (.bool true) ∧ Below W.heap.size W w') => And.intro r.1 (hb.trans (r.2.mono hb.size)))
  clear hG h0 kT kS
  go_enter Tryd.func5, Tryd.ntmps5
  go_upto_region 2 with fail
  rw [hT, hS]
  clear hT hS
  go_wp2_with (first
    | (go_at_call 23; (with_reducible refine (unhide c23).mono ?_); rintro e w1 ⟨q, c, rfl, i1, b1⟩; have B1 := hide b1; clear i1 b1)
    | (go_at_call 19; refine (unhide c19 _ (unhide B1)).mono ?_; rintro e w2 ⟨rfl, b2⟩; have B2 := hide b2; clear b2))
  go_ret
  exact ⟨rfl, unhide B2⟩
set_option maxHeartbeats 4000000 in
set_option maxRecDepth 100000 in
theorem age_once (t s n ticks : Int) (w : World) (hG : Glob w) (h0 : ¬ (farK (t % 4) (s % 8) 8).length = 0) :
    Calls Tryd.prog 5 #[.int .i64 t, .int .i64 s, .int .i64 n, .int .i64 ticks, .bool false] w fun e w' => e = .returned (.bool true) ∧ Below w.heap.size w w' := by
  have hT := mod4 t
  have kT := mod4_topic t
  have hS := mod8 s
  have kS := mod8_node s
  obtain ⟨R, hR, hR2⟩ : ∃ q : Nat, wrap64 ((IntKind.u64.wrap ticks).tmod 12) = q ∧ q < 12 := modN ticks 12 (by omega) (by omega)
  generalize t % 4 = T at *
  generalize s % 8 = S at *
  have HG := hide (show ∀ W, Below w.heap.size w W → Glob W from fun W hb => hG.below hb hG.size)
  have hF := far_of kT kS
  obtain ⟨f, hf⟩ : ∃ f, (farK T S 8).length = f := ⟨_, rfl⟩
  have c23 := hide (far_call kT kS hf w hG)
  have c19 := hide (show ∀ W, Below w.heap.size w W → Calls Tryd.prog 19 #[] W fun e w' => e = .returned (.bool true) ∧ Below w.heap.size w w' from fun W hb => (wakes_any W (unhide HG W hb)).mono fun e w' (r : e = .returned (.bool true) ∧ Below W.heap.size W w') => And.intro r.1 (hb.trans (r.2.mono hb.size)))
  clear hG
  obtain ⟨F, hFF⟩ : ∃ F, farK T S 8 = F := ⟨_, rfl⟩
  rw [hFF] at c23 hf hF h0
  clear hFF
  rw [hf] at h0
  have hf7 : f ≤ 7 := by have := hF.len; omega
  obtain ⟨I, hI, hI2⟩ := modN n f (by omega) (by omega)
  obtain ⟨x1, x2, x3⟩ := hF.one I (by omega)
  have b0 : decide (f = 0) = false := decide_eq_false h0
  have hnz : ((f : Int) == 0) = false := beq_false_of_ne (by omega)
  have hw := wrapN (n := f) (by omega)
  have hIi : (I : Int) < (f : Int) := by omega
  have hfl := hide (show f ≤ F.length by omega)
  have HX1 := hide x1
  have HX2 := hide x2
  obtain ⟨x, hx⟩ : ∃ x, zF F I = x := ⟨_, rfl⟩
  rw [hx] at HX1 HX2 x3
  have HX3 := hide x3
  have HX := hide hx
  clear hF hf x1 x2 x3 hx
  have c10 := hide (fun W (hb : Below w.heap.size w W) => age_first kT kS (unhide HX3) W (unhide HG W hb))
  have KT := hide kT
  have KS := hide kS
  clear kT kS
  go_enter Tryd.func5, Tryd.ntmps5
  go_upto_region 2 with fail
  rw [hT, hS, hR]
  clear hT hS hR
  go_upto_region 5 with (go_at_call 23; (with_reducible refine (unhide c23).mono ?_); rintro e w1 ⟨q, c, rfl, i1, b1⟩; have B1 := hide b1; obtain ⟨bf, of, rfl, hfc, hc, f3, f4⟩ := il_cell (k := I) i1 hI2 (unhide hfl); rw [unhide HX] at f4; clear i1 b1)
  go_wp2_with (go_at_call 10; refine (unhide c10 _ (unhide B1)).mono ?_; rintro e w2 ⟨q2, k2, rfl, i2, b2⟩; have I2 := hide i2; have B2 := hide ((unhide B1).trans (b2.mono (unhide B1).size)); clear i2 b2)
  clear hI hw hnz hIi f4
  go_loopw [12, 16] (fun xl xi w3 => ∃ k : Nat, k ≤ R ∧ xi = .int .i64 k ∧ ∃ (q : Option Addr) (m c : Nat), xl = .slice q m c ∧ Hid (KL w3 (.slice q m c) (agF x k)) ∧ Hid (Below w.heap.size w w3)) (fun _ i _ => R - (intOf i).toNat)
  case atStart => exact ⟨0, by omega, rfl, _, _, _, rfl, I2, B2⟩
  case round =>
    obtain ⟨k, hk, rfl, q3, m3, c3, rfl, HK, HB⟩ := hrel
    by_cases hlt : k < R
    · have b1 : decide (k < R) = true := decide_eq_true hlt
      have c11 := older_k T S 2 (agF x k) _ wr (unhide HG _ (unhide HB)) (unhide HK) (agF_rk (unhide KT) (unhide KS) (unhide HX1) (unhide HX2) k)
      rw [agF_old] at c11
      have c11 := hide c11
      go_wp2_with (go_at_call 11; refine (unhide c11).mono ?_; rintro e w4 ⟨v4, rfl, o4, b4⟩; have K4 := hide o4.kl; have B4 := hide ((unhide HB).trans (b4.mono (unhide HB).size)); obtain ⟨q4, k4, rfl⟩ := kl_form o4.kl; clear o4 b4)
      go_roundw
      case rel => exact ⟨k + 1, by omega, by go_num, _, _, _, rfl, K4, B4⟩
      case measure => simp [intOf]; omega
    · obtain rfl : k = R := by omega
      have b1 : decide (k < k) = false := decide_eq_false hlt
      have c15 := has_k (agF x k) x _ wr (unhide HK)
      rw [agF_hs] at c15
      by_cases h6 : k ≤ 6
      · rw [decide_eq_true h6] at c15
        have c15 := hide c15
        have b2 : decide (k ≤ 6) = true := decide_eq_true h6
        go_wp2_with (first
          | (go_at_call 15; refine (unhide c15).mono ?_; rintro e w4 ⟨rfl, b4⟩; have B4 := hide ((unhide HB).trans (b4.mono (unhide HB).size)); clear b4)
          | (go_at_call 19; refine (unhide c19 _ (unhide B4)).mono ?_; rintro e w5 ⟨rfl, b5⟩; have B5 := hide b5; clear b5))
        go_ret
        exact ⟨rfl, unhide B5⟩
      · rw [decide_eq_false h6] at c15
        have c15 := hide c15
        have b2 : decide (k ≤ 6) = false := decide_eq_false h6
        go_wp2_with (first
          | (go_at_call 15; refine (unhide c15).mono ?_; rintro e w4 ⟨rfl, b4⟩; have B4 := hide ((unhide HB).trans (b4.mono (unhide HB).size)); clear b4)
          | (go_at_call 19; refine (unhide c19 _ (unhide B4)).mono ?_; rintro e w5 ⟨rfl, b5⟩; have B5 := hide b5; clear b5))
        go_ret
        exact ⟨congrArg (fun b => Ending.returned (.bool (!b))) (decide_eq_false (show ¬ (k : Int) ≤ 6 by omega)), unhide B5⟩
set_option maxHeartbeats 4000000 in
set_option maxRecDepth 100000 in
theorem age_often (t s n ticks : Int) (w : World) (hG : Glob w) (h0 : ¬ (farK (t % 4) (s % 8) 8).length = 0) :
    Calls Tryd.prog 5 #[.int .i64 t, .int .i64 s, .int .i64 n, .int .i64 ticks, .bool true] w fun e w' => e = .returned (.bool true) ∧ Below w.heap.size w w' := by
  have hT := mod4 t
  have kT := mod4_topic t
  have hS := mod8 s
  have kS := mod8_node s
  obtain ⟨R, hR, hR2⟩ : ∃ q : Nat, wrap64 ((IntKind.u64.wrap ticks).tmod 12) = q ∧ q < 12 := modN ticks 12 (by omega) (by omega)
  generalize t % 4 = T at *
  generalize s % 8 = S at *
  have HG := hide (show ∀ W, Below w.heap.size w W → Glob W from fun W hb => hG.below hb hG.size)
  have hF := far_of kT kS
  obtain ⟨f, hf⟩ : ∃ f, (farK T S 8).length = f := ⟨_, rfl⟩
  have c23 := hide (far_call kT kS hf w hG)
  have c19 := hide (show ∀ W, Below w.heap.size w W → Calls Tryd.prog 19 #[] W fun e w' => e = .returned (.bool true) ∧ Below w.heap.size w w' from fun W hb => (wakes_any W (unhide HG W hb)).mono fun e w' (r : e = .returned (.bool true) ∧ Below W.heap.size W w') => And.intro r.1 (hb.trans (r.2.mono hb.size)))
  clear hG
  obtain ⟨F, hFF⟩ : ∃ F, farK T S 8 = F := ⟨_, rfl⟩
  rw [hFF] at c23 hf hF h0
  clear hFF
  rw [hf] at h0
  have hf7 : f ≤ 7 := by have := hF.len; omega
  obtain ⟨I, hI, hI2⟩ := modN n f (by omega) (by omega)
  obtain ⟨x1, x2, x3⟩ := hF.one I (by omega)
  have b0 : decide (f = 0) = false := decide_eq_false h0
  have hnz : ((f : Int) == 0) = false := beq_false_of_ne (by omega)
  have hw := wrapN (n := f) (by omega)
  have hIi : (I : Int) < (f : Int) := by omega
  have hfl := hide (show f ≤ F.length by omega)
  have HX1 := hide x1
  have HX2 := hide x2
  obtain ⟨x, hx⟩ : ∃ x, zF F I = x := ⟨_, rfl⟩
  rw [hx] at HX1 HX2 x3
  have HX3 := hide x3
  have HX := hide hx
  clear hF hf x1 x2 x3 hx
  have c10 := hide (fun W (hb : Below w.heap.size w W) => age_first kT kS (unhide HX3) W (unhide HG W hb))
  have KT := hide kT
  have KS := hide kS
  clear kT kS
  go_enter Tryd.func5, Tryd.ntmps5
  go_upto_region 2 with fail
  rw [hT, hS, hR]
  clear hT hS hR
  go_upto_region 5 with (go_at_call 23; (with_reducible refine (unhide c23).mono ?_); rintro e w1 ⟨q, c, rfl, i1, b1⟩; have B1 := hide b1; obtain ⟨bf, of, rfl, hfc, hc, f3, f4⟩ := il_cell (k := I) i1 hI2 (unhide hfl); rw [unhide HX] at f4; clear i1 b1)
  go_wp2_with (go_at_call 10; refine (unhide c10 _ (unhide B1)).mono ?_; rintro e w2 ⟨q2, k2, rfl, i2, b2⟩; have I2 := hide i2; have B2 := hide ((unhide B1).trans (b2.mono (unhide B1).size)); clear i2 b2)
  clear hI hw hnz hIi f4
  go_loopw [12, 16] (fun xl xi w3 => ∃ k : Nat, k ≤ R ∧ xi = .int .i64 k ∧ ∃ (q : Option Addr) (c : Nat) (j : Int), xl = .slice q 1 c ∧ Hid (j = 5 ∨ j = 6) ∧ Hid (KL w3 (.slice q 1 c) [(x, j, 0)]) ∧ Hid (Below w.heap.size w w3)) (fun _ i _ => R - (intOf i).toNat)
  case atStart => exact ⟨0, by omega, rfl, _, _, 5, rfl, hide (.inl rfl), I2, B2⟩
  case round =>
    obtain ⟨k, hk, rfl, q3, c3, j, rfl, HJ, HK, HB⟩ := hrel
    by_cases hlt : k < R
    · have b1 : decide (k < R) = true := decide_eq_true hlt
      have c11 := hide (age_older (unhide KT) (unhide KS) (unhide HX1) (unhide HX2) (unhide HJ) _ _ wr (unhide HG _ (unhide HB)) (unhide HK))
      have c10b := hide (fun q c W (hb : Below w.heap.size w W) => age_again (unhide KT) (unhide KS) (unhide HX1) (unhide HX2) (unhide HX3) (unhide HJ) q c W (unhide HG W hb))
      go_wp2_with (first
        | (go_at_call 11; refine (unhide c11).mono ?_; rintro e w4 ⟨q4, k4, rfl, i4, b4⟩; have K4 := hide i4; have B4 := hide ((unhide HB).trans (b4.mono (unhide HB).size)); clear i4 b4)
        | (go_at_call 10; refine (unhide c10b _ _ _ (unhide B4) (unhide K4)).mono ?_; rintro e w5 ⟨q5, k5, rfl, i5, b5⟩; have K5 := hide i5; have B5 := hide ((unhide B4).trans (b5.mono (unhide B4).size)); obtain ⟨bm, om, rfl, h1, h2, h3, h4, h5, h6⟩ := kl_cell (k := 0) i5 (by omega) (by simp); rw [Nat.zero_mul, Nat.add_zero] at h4 h5 h6; simp only [kz, List.getD_cons_zero] at h4 h5 h6; clear i5 b5))
      go_roundw
      case rel => exact ⟨k + 1, by omega, by go_num, _, _, 6, rfl, hide (.inr rfl), K5, B5⟩
      case measure => simp [intOf]; omega
    · obtain rfl : k = R := by omega
      have b1 : decide (k < k) = false := decide_eq_false hlt
      have c15 := has_k [(x, j, 0)] x _ wr (unhide HK)
      rw [show hs [(x, j, 0)] x = true by simp [hs]] at c15
      have c15 := hide c15
      go_wp2_with (first
        | (go_at_call 15; refine (unhide c15).mono ?_; rintro e w4 ⟨rfl, b4⟩; have B4 := hide ((unhide HB).trans (b4.mono (unhide HB).size)); clear b4)
        | (go_at_call 19; refine (unhide c19 _ (unhide B4)).mono ?_; rintro e w5 ⟨rfl, b5⟩; have B5 := hide b5; clear b5))
      go_ret
      exact ⟨rfl, unhide B5⟩
theorem age_walk (t s n ticks : Int) (ag : Bool) (w : World) (hG : Glob w) :
    Calls Tryd.prog 5 #[.int .i64 t, .int .i64 s, .int .i64 n, .int .i64 ticks, .bool ag] w fun e w' => e = .returned (.bool true) ∧ Below w.heap.size w w' := by
  by_cases h0 : (farK (t % 4) (s % 8) 8).length = 0
  · exact age_none t s n ticks ag w hG h0
  · cases ag with
    | false => exact age_once t s n ticks w hG h0
    | true => exact age_often t s n ticks w hG h0
end Go.Proofs.YtgglnhnokhpnpaaDoor
