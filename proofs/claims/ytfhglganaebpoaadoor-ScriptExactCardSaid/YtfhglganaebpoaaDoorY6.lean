/- Walk of ScriptExact. -/
import Derived.Test.YtfhglganaebpoaaDoorW1
import Derived.Test.YtfhglganaebpoaaDoorB1
import Derived.Test.YtfhglganaebpoaaDoorD1
import Derived.Test.YtfhglganaebpoaaDoorY2
import Derived.Test.YtfhglganaebpoaaDoorY4
import Derived.Test.YtfhglganaebpoaaDoorY5
namespace Go.Proofs.YtfhglganaebpoaaDoor
open Go.RowKit

theorem Has.grownH {w w' : World} {g : Nat} {o : Obj} {row : Option Nat} (h : Has w g o) (gr : w.grownBy w' row) (ne : some g = row → False) : Has w' g o := ⟨Nat.lt_of_lt_of_le h.1 gr.size, (gr.block g h.1 ne).trans h.2⟩
theorem Has.apart {w : World} {g : Nat} {cs : Array Value} {B n : Nat} {v : Value} {xs : List Value} (h : Has w g (.cells cs 3)) (ho : w.ownsRow B 5 1 v n xs) (q : some g = v.ownBlock) : False := by
  rcases ho.2 with ⟨rfl, _⟩ | ⟨g', cap, cur, rfl, _, h3, _⟩
  · cases q
  · cases q
    rw [h.2] at h3
    cases h3
set_option maxRecDepth 100000 in
theorem exact_out_a (c : Cf) (s : Stp) (p q : Option Addr) (n cp m d : Nat) (w : World) (hn : 300 < n ∧ n ≤ 4000) (_ : n ≤ maxLen) (_ : m ≤ maxLen)  : Calls Tryd.prog 3 #[cV c, .slice p n cp, .slice q m d, sV s] w fun e w' => e = .returned (.bool true) ∧ Below w.heap.size w w' := by
  have t0 : decide ((n : Int) > 300) = true := decide_eq_true (by omega)
  have t1 : decide ((n : Int) ≤ 4000) = true := decide_eq_true (by omega)
  obtain ⟨f0, f1, f2, f3, f4, f5, f6⟩ := c
  obtain ⟨kd, nd, tp, vl, ms⟩ := s
  unfold cV sV
  dsimp only
  clear hn 
  go_enter Tryd.func3, Tryd.ntmps3
  go_wp2
  go_ret
  exact ⟨rfl, below_alloc (below_alloc (Below.refl _ _) _) _⟩
set_option maxRecDepth 100000 in
theorem exact_out_b (c : Cf) (s : Stp) (p q : Option Addr) (n cp m d : Nat) (w : World) (hn : 4020 < n) (hm : n ≤ maxLen) (_ : m ≤ maxLen)  : Calls Tryd.prog 3 #[cV c, .slice p n cp, .slice q m d, sV s] w fun e w' => e = .returned (.bool true) ∧ Below w.heap.size w w' := by
  unfold maxLen at hm
  have t0 : decide ((n : Int) > 300) = true := decide_eq_true (by omega)
  have t1 : decide ((n : Int) ≤ 4000) = false := decide_eq_false (by omega)
  have t2 : decide ((n : Int) > 4020) = true := decide_eq_true (by omega)
  obtain ⟨f0, f1, f2, f3, f4, f5, f6⟩ := c
  obtain ⟨kd, nd, tp, vl, ms⟩ := s
  unfold cV sV
  dsimp only
  clear hn 
  go_enter Tryd.func3, Tryd.ntmps3
  go_wp2
  go_ret
  exact ⟨rfl, below_alloc (below_alloc (Below.refl _ _) _) _⟩
set_option maxRecDepth 100000 in
theorem exact_out_c1 (c : Cf) (s : Stp) (p q : Option Addr) (n cp m d : Nat) (w : World) (hn : 60 < m ∧ m < 790) (hm : n ≤ maxLen) (_ : m ≤ maxLen) (hx : n ≤ 300) : Calls Tryd.prog 3 #[cV c, .slice p n cp, .slice q m d, sV s] w fun e w' => e = .returned (.bool true) ∧ Below w.heap.size w w' := by
  unfold maxLen at hm
  have t0 : decide ((n : Int) > 300) = false := decide_eq_false (by omega)
  have t1 : decide ((n : Int) > 4020) = false := decide_eq_false (by omega)
  have t2 : decide ((m : Int) > 60) = true := decide_eq_true (by omega)
  have t3 : decide ((m : Int) < 790) = true := decide_eq_true (by omega)
  obtain ⟨f0, f1, f2, f3, f4, f5, f6⟩ := c
  obtain ⟨kd, nd, tp, vl, ms⟩ := s
  unfold cV sV
  dsimp only
  clear hn hx
  go_enter Tryd.func3, Tryd.ntmps3
  go_wp2
  go_ret
  exact ⟨rfl, below_alloc (below_alloc (Below.refl _ _) _) _⟩
set_option maxRecDepth 100000 in
theorem exact_out_c2 (c : Cf) (s : Stp) (p q : Option Addr) (n cp m d : Nat) (w : World) (hn : 60 < m ∧ m < 790) (hm : n ≤ maxLen) (_ : m ≤ maxLen) (hx : 4000 < n ∧ n ≤ 4020) : Calls Tryd.prog 3 #[cV c, .slice p n cp, .slice q m d, sV s] w fun e w' => e = .returned (.bool true) ∧ Below w.heap.size w w' := by
  unfold maxLen at hm
  have t0 : decide ((n : Int) > 300) = true := decide_eq_true (by omega)
  have t1 : decide ((n : Int) ≤ 4000) = false := decide_eq_false (by omega)
  have t2 : decide ((n : Int) > 4020) = false := decide_eq_false (by omega)
  have t3 : decide ((m : Int) > 60) = true := decide_eq_true (by omega)
  have t4 : decide ((m : Int) < 790) = true := decide_eq_true (by omega)
  obtain ⟨f0, f1, f2, f3, f4, f5, f6⟩ := c
  obtain ⟨kd, nd, tp, vl, ms⟩ := s
  unfold cV sV
  dsimp only
  clear hn hx
  go_enter Tryd.func3, Tryd.ntmps3
  go_wp2
  go_ret
  exact ⟨rfl, below_alloc (below_alloc (Below.refl _ _) _) _⟩
set_option maxRecDepth 100000 in
theorem exact_out_d1 (c : Cf) (s : Stp) (p q : Option Addr) (n cp m d : Nat) (w : World) (hn : 820 < m) (hm : n ≤ maxLen) (hm2 : m ≤ maxLen) (hx : n ≤ 300) : Calls Tryd.prog 3 #[cV c, .slice p n cp, .slice q m d, sV s] w fun e w' => e = .returned (.bool true) ∧ Below w.heap.size w w' := by
  unfold maxLen at hm hm2
  have t0 : decide ((n : Int) > 300) = false := decide_eq_false (by omega)
  have t1 : decide ((n : Int) > 4020) = false := decide_eq_false (by omega)
  have t2 : decide ((m : Int) > 60) = true := decide_eq_true (by omega)
  have t3 : decide ((m : Int) < 790) = false := decide_eq_false (by omega)
  have t4 : decide ((m : Int) > 820) = true := decide_eq_true (by omega)
  obtain ⟨f0, f1, f2, f3, f4, f5, f6⟩ := c
  obtain ⟨kd, nd, tp, vl, ms⟩ := s
  unfold cV sV
  dsimp only
  clear hn hx
  go_enter Tryd.func3, Tryd.ntmps3
  go_wp2
  go_ret
  exact ⟨rfl, below_alloc (below_alloc (Below.refl _ _) _) _⟩
set_option maxRecDepth 100000 in
theorem exact_out_d2 (c : Cf) (s : Stp) (p q : Option Addr) (n cp m d : Nat) (w : World) (hn : 820 < m) (hm : n ≤ maxLen) (hm2 : m ≤ maxLen) (hx : 4000 < n ∧ n ≤ 4020) : Calls Tryd.prog 3 #[cV c, .slice p n cp, .slice q m d, sV s] w fun e w' => e = .returned (.bool true) ∧ Below w.heap.size w w' := by
  unfold maxLen at hm hm2
  have t0 : decide ((n : Int) > 300) = true := decide_eq_true (by omega)
  have t1 : decide ((n : Int) ≤ 4000) = false := decide_eq_false (by omega)
  have t2 : decide ((n : Int) > 4020) = false := decide_eq_false (by omega)
  have t3 : decide ((m : Int) > 60) = true := decide_eq_true (by omega)
  have t4 : decide ((m : Int) < 790) = false := decide_eq_false (by omega)
  have t5 : decide ((m : Int) > 820) = true := decide_eq_true (by omega)
  obtain ⟨f0, f1, f2, f3, f4, f5, f6⟩ := c
  obtain ⟨kd, nd, tp, vl, ms⟩ := s
  unfold cV sV
  dsimp only
  clear hn hx
  go_enter Tryd.func3, Tryd.ntmps3
  go_wp2
  go_ret
  exact ⟨rfl, below_alloc (below_alloc (Below.refl _ _) _) _⟩
set_option maxRecDepth 100000 in
set_option maxHeartbeats 20000000 in
theorem exact_main (f0 f1 f2 f3 f4 f5 f6 kd nd tp vl ms : Int) (p q : Option Addr) (n cp m d : Nat) (F F2 : Nat → Int) (e : Addr) (w : World) (hG : Glob w e) (hb : Sl .u8 w (.slice p n cp) n F) (hF : ∀ i, i < n → 0 ≤ F i ∧ F i < 256) (hl : Ss w (.slice q m d) m F2)
    (hn : n ≤ 300 ∨ 4000 < n ∧ n ≤ 4020) (hm : m ≤ 60 ∨ 790 ≤ m ∧ m ≤ 820) : Calls Tryd.prog 3 #[.agg #[.int .i64 f0, .int .i64 f1, .int .i64 f2, .int .i64 f3, .int .i64 f4, .int .i64 f5, .int .i64 f6], .slice p n cp, .slice q m d, .agg #[.int .i64 kd, .int .i64 nd, .int .i64 tp, .int .i64 vl, .int .i64 ms]] w fun e w' => e = .returned (.bool true) ∧ Below w.heap.size w w' := by
  obtain ⟨w1, hw1⟩ : ∃ z, z = (w.alloc (.cells #[.int .i64 f0, .int .i64 f1, .int .i64 f2, .int .i64 f3, .int .i64 f4, .int .i64 f5, .int .i64 f6] 23)).alloc (.cells #[.int .i64 kd, .int .i64 nd, .int .i64 tp, .int .i64 vl, .int .i64 ms] 27) := ⟨_, rfl⟩
  have b1 : Below w.heap.size w w1 := by rw [hw1]; exact below_alloc (below_alloc (Below.refl _ _) _) _
  have XC := hide (show Has w1 w.heap.size (.cells #[.int .i64 f0, .int .i64 f1, .int .i64 f2, .int .i64 f3, .int .i64 f4, .int .i64 f5, .int .i64 f6] 23) by rw [hw1]; exact (Has.new _ _).alloc _)
  have XS := hide (show Has w1 (w.heap.size + 1) (.cells #[.int .i64 kd, .int .i64 nd, .int .i64 tp, .int .i64 vl, .int .i64 ms] 27) by rw [hw1]; have := Has.new (w.alloc (.cells #[.int .i64 f0, .int .i64 f1, .int .i64 f2, .int .i64 f3, .int .i64 f4, .int .i64 f5, .int .i64 f6] 23)) (.cells #[.int .i64 kd, .int .i64 nd, .int .i64 tp, .int .i64 vl, .int .i64 ms] 27); simpa using this)
  have SB := hide (hb.below b1 (Nat.le_refl _))
  have SL := hide (hl.below b1 (Nat.le_refl _))
  have G := hide (hG.below b1)
  have B := hide b1
  have HF := hide hF
  have HN := hide hn
  have HM := hide hm
  have hn2 : n ≤ 4020 := by omega
  have hm2 : m ≤ 820 := by omega
  have TW := hide (twin_any F _ n w1 (unhide SB) (by omega))
  clear hG hb hF hl b1
  go_enter Tryd.func3, Tryd.ntmps3
  go_upto_region 1 with fail
  rw [← hw1]
  clear hw1
  go_cut [46] from 19 to 45 (fun v wc => v = .bool false ∧ wc = w1)
  case first =>
    as_aux_lemma =>
      clear SB SL G B TW XC XS
      rcases unhide HN with k1 | ⟨k1, k2⟩
      · rcases unhide HM with k3 | ⟨k3, k4⟩
        · have t0 : decide ((n : Int) > 300) = false := decide_eq_false (by omega)
          have t1 : decide ((n : Int) > 4020) = false := decide_eq_false (by omega)
          have t2 : decide ((m : Int) > 60) = false := decide_eq_false (by omega)
          have t3 : decide ((m : Int) > 820) = false := decide_eq_false (by omega)
          clear hn hm HN HM
          go_wp2
          go_meet
          exact ⟨rfl, rfl⟩
        · have t0 : decide ((n : Int) > 300) = false := decide_eq_false (by omega)
          have t1 : decide ((n : Int) > 4020) = false := decide_eq_false (by omega)
          have t2 : decide ((m : Int) > 60) = true := decide_eq_true (by omega)
          have t3 : decide ((m : Int) < 790) = false := decide_eq_false (by omega)
          have t4 : decide ((m : Int) > 820) = false := decide_eq_false (by omega)
          clear hn hm HN HM
          go_wp2
          go_meet
          exact ⟨rfl, rfl⟩
      · rcases unhide HM with k3 | ⟨k3, k4⟩
        · have t0 : decide ((n : Int) > 300) = true := decide_eq_true (by omega)
          have t5 : decide ((n : Int) ≤ 4000) = false := decide_eq_false (by omega)
          have t1 : decide ((n : Int) > 4020) = false := decide_eq_false (by omega)
          have t2 : decide ((m : Int) > 60) = false := decide_eq_false (by omega)
          have t3 : decide ((m : Int) > 820) = false := decide_eq_false (by omega)
          clear hn hm HN HM
          go_wp2
          go_meet
          exact ⟨rfl, rfl⟩
        · have t0 : decide ((n : Int) > 300) = true := decide_eq_true (by omega)
          have t5 : decide ((n : Int) ≤ 4000) = false := decide_eq_false (by omega)
          have t1 : decide ((n : Int) > 4020) = false := decide_eq_false (by omega)
          have t2 : decide ((m : Int) > 60) = true := decide_eq_true (by omega)
          have t3 : decide ((m : Int) < 790) = false := decide_eq_false (by omega)
          have t4 : decide ((m : Int) > 820) = false := decide_eq_false (by omega)
          clear hn hm HN HM
          go_wp2
          go_meet
          exact ⟨rfl, rfl⟩
  case rest =>
    obtain ⟨rfl, hw⟩ := hcut
    obtain rfl := hw.symm
    clear hn hm
    go_upto_region 6 with (first
      | (go_at_call 8; refine (unhide TW).mono ?_; rintro ev w2 ⟨v9, rfl, o9, b2⟩; obtain ⟨p9, q9, h9, -, -⟩ := (sl_of_owns o9).shape; have S9 := hide (sl_of_owns o9); subst h9; have B2 := hide b2; clear b2 o9 TW)
      | (go_at_call 9; refine (parse_any F _ n _ (unhide S9) (unhide HF)).mono ?_; rintro ev w3 ⟨p10, k10, q10, z10, rfl, x1, x2, b3⟩; have PX1 := hide x1; have PX2 := hide x2; have B3 := hide b3; clear x1 x2 b3)
      | (go_at_call 10; refine (bytes_any F2 _ m e _ ((unhide G).below (below_of (unhide B2) (unhide B3))) ((unhide SL).below (below_of (unhide B2) (unhide B3)) (Nat.le_refl _))).mono ?_; rintro ev w4 ⟨p12, k12, q12, rfl, x1, x2, b4⟩; have PY1 := hide x1; have PY2 := hide x2; have B4 := hide b4; clear x1 x2 b4))
    have BB := hide (below_of (below_of (unhide B2) (unhide B3)) (unhide B4))
    have PZ : Hid (n ≤ 4000 → z10 = 0 ∧ k10 = n / 5 ∧ Ss w4 (.slice p10 k10 q10) k10 F) := hide fun h => ⟨(unhide PX1 h).1, (unhide PX1 h).2.1, (unhide PX1 h).2.2.below (unhide B4) (Nat.le_refl _)⟩
    replace S9 := hide ((unhide S9).below (below_of (unhide B3) (unhide B4)) (Nat.le_refl _))
    replace SB := hide ((unhide SB).below (unhide BB) (Nat.le_refl _))
    replace SL := hide ((unhide SL).below (unhide BB) (Nat.le_refl _))
    replace XC := hide ((unhide XC).below (unhide BB))
    replace XS := hide ((unhide XS).below (unhide BB))
    replace G := hide ((unhide G).below (unhide BB))
    replace B := hide (below_of (unhide B) (unhide BB))
    obtain ⟨ye, hye⟩ : ∃ z, z = byE F2 m := ⟨_, rfl⟩
    rw [← hye] at PY1 PY2 ⊢
    have YE := hide hye
    clear hye B2 B3 B4 BB PX1
    go_cut [80] from 59 to 79 (fun v wc => v = .bool false ∧ Below w4.heap.size w4 wc)
    case first =>
      as_aux_lemma =>
        have xc := (unhide XC).drew
        replace G := hide ((unhide G).below (below_drewN (Below.refl w4.heap.size w4) 1))
        have BQ := hide (below_drewN (Below.refl w4.heap.size w4) 1)
        refine wa_start (fun w' => Has w' w.heap.size (.cells #[.int .i64 f0, .int .i64 f1, .int .i64 f2, .int .i64 f3, .int .i64 f4, .int .i64 f5, .int .i64 f6] 23)) xc ?_
        cases hcf : cfB ⟨f0, f1, f2, f3, f4, f5, f6⟩ with
        | true =>
          have HCF := hide hcf
          clear hcf
          refine wa_take (v := (.agg #[.int .i64 f0, .int .i64 f1, .int .i64 f2, .int .i64 f3, .int .i64 f4, .int .i64 f5, .int .i64 f6])) 0 rfl (by kernel_rfl) (by kernel_rfl) (by kernel_rfl) (fun _ _ _ h => h) (by kernel_rfl) (fun w hSw => ?_) xc ?_
          · exact run_row rfl rfl hSw Tryd.underlying23 info23
          try simp only [Act.put, List.setIfInBounds_toArray, List.set_cons_zero, List.set_cons_succ]
          refine wa_take (v := (.agg #[.int .i64 f0, .int .i64 f1, .int .i64 f2, .int .i64 f3, .int .i64 f4, .int .i64 f5, .int .i64 f6])) 3 rfl (by kernel_rfl) (by kernel_rfl) (by kernel_rfl) (fun _ _ _ h => h) (by kernel_rfl) (fun w hSw => ?_) xc ?_
          · exact run_row rfl rfl hSw Tryd.underlying23 info23
          try simp only [Act.put, List.setIfInBounds_toArray, List.set_cons_zero, List.set_cons_succ]
          refine wa_one 1 (by kernel_rfl) rfl (by kernel_rfl) (fun Kc hK => ?_)
          go_simp
          go_at_call 11
          refine (config_any ⟨f0, f1, f2, f3, f4, f5, f6⟩ e _ (unhide G)).mono ?_
          rw [show cfE ⟨f0, f1, f2, f3, f4, f5, f6⟩ = 0 by simp [cfE, unhide HCF]]
          rintro ev w' ⟨rfl, b⟩
          replace xc := xc.below b
          replace G := hide ((unhide G).below b)
          replace BQ := hide (below_of (unhide BQ) b)
          clear b
          refine hK.out _ _ xc ?_
          clear hK Kc
          try simp only [Act.put, List.setIfInBounds_toArray, List.set_cons_zero, List.set_cons_succ]
          refine wa_take (v := (.bool true)) 2 rfl (by kernel_rfl) (by kernel_rfl) (by kernel_rfl) (fun _ _ _ h => h) (by kernel_rfl) (fun w hSw => ?_) xc ?_
          · try dsimp only at hSw
            go_simp
          try simp only [Act.put, List.setIfInBounds_toArray, List.set_cons_zero, List.set_cons_succ]
          refine wa_one 4 (by kernel_rfl) rfl (by kernel_rfl) (fun Kc hK => ?_)
          go_simp
          go_at_call 12
          refine (rconf_any ⟨f0, f1, f2, f3, f4, f5, f6⟩ _).mono ?_
          rw [unhide HCF]
          rintro ev w' ⟨rfl, b⟩
          replace xc := xc.below b
          replace G := hide ((unhide G).below b)
          replace BQ := hide (below_of (unhide BQ) b)
          clear b
          refine hK.out _ _ xc ?_
          clear hK Kc
          try simp only [Act.put, List.setIfInBounds_toArray, List.set_cons_zero, List.set_cons_succ]
          refine wa_take (v := (.bool false)) 5 rfl (by kernel_rfl) (by kernel_rfl) (by kernel_rfl) (fun _ _ _ h => h) (by kernel_rfl) (fun w hSw => ?_) xc ?_
          · try dsimp only at hSw
            go_simp
          try simp only [Act.put, List.setIfInBounds_toArray, List.set_cons_zero, List.set_cons_succ]
          refine wa_take (v := (.bool false)) 6 rfl (by kernel_rfl) (by kernel_rfl) (by kernel_rfl) (fun _ _ _ h => h) (by kernel_rfl) (fun w hSw => ?_) xc ?_
          · try dsimp only at hSw
            go_simp
          try simp only [Act.put, List.setIfInBounds_toArray, List.set_cons_zero, List.set_cons_succ]
          refine wa_take (v := (.agg #[.int .i64 f0, .int .i64 f1, .int .i64 f2, .int .i64 f3, .int .i64 f4, .int .i64 f5, .int .i64 f6])) 7 rfl (by kernel_rfl) (by kernel_rfl) (by kernel_rfl) (fun _ _ _ h => h) (by kernel_rfl) (fun w hSw => ?_) xc ?_
          · exact run_row rfl rfl hSw Tryd.underlying23 info23
          try simp only [Act.put, List.setIfInBounds_toArray, List.set_cons_zero, List.set_cons_succ]
          refine wa_one 8 (by kernel_rfl) rfl (by kernel_rfl) (fun Kc hK => ?_)
          go_simp
          go_at_call 12
          refine (rconf_any ⟨f0, f1, f2, f3, f4, f5, f6⟩ _).mono ?_
          rw [unhide HCF]
          rintro ev w' ⟨rfl, b⟩
          replace xc := xc.below b
          replace G := hide ((unhide G).below b)
          replace BQ := hide (below_of (unhide BQ) b)
          clear b
          refine hK.out _ _ xc ?_
          clear hK Kc
          try simp only [Act.put, List.setIfInBounds_toArray, List.set_cons_zero, List.set_cons_succ]
          refine wa_take (v := (.bool false)) 9 rfl (by kernel_rfl) (by kernel_rfl) (by kernel_rfl) (fun _ _ _ h => h) (by kernel_rfl) (fun w hSw => ?_) xc ?_
          · try dsimp only at hSw
            go_simp
          try simp only [Act.put, List.setIfInBounds_toArray, List.set_cons_zero, List.set_cons_succ]
          refine wa_take (v := (.bool false)) 10 rfl (by kernel_rfl) (by kernel_rfl) (by kernel_rfl) (fun _ _ _ h => h) (by kernel_rfl) (fun w hSw => ?_) xc ?_
          · try dsimp only at hSw
            go_simp
          try simp only [Act.put, List.setIfInBounds_toArray, List.set_cons_zero, List.set_cons_succ]
          refine wa_none 11 rfl (by kernel_rfl) (by kernel_rfl) (by kernel_rfl) (fun _ _ _ h => h) (by kernel_rfl) xc ?_
          try simp only [Act.put, List.setIfInBounds_toArray, List.set_cons_zero, List.set_cons_succ]
          refine wa_none 12 rfl (by kernel_rfl) (by kernel_rfl) (by kernel_rfl) (fun _ _ _ h => h) (by kernel_rfl) xc ?_
          try simp only [Act.put, List.setIfInBounds_toArray, List.set_cons_zero, List.set_cons_succ]
          refine wa_none 13 rfl (by kernel_rfl) (by kernel_rfl) (by kernel_rfl) (fun _ _ _ h => h) (by kernel_rfl) xc ?_
          try simp only [Act.put, List.setIfInBounds_toArray, List.set_cons_zero, List.set_cons_succ]
          refine wa_take (v := (.bool false)) 14 rfl (by kernel_rfl) (by kernel_rfl) (by kernel_rfl) (fun _ _ _ h => h) (by kernel_rfl) (fun w hSw => ?_) xc ?_
          · try dsimp only at hSw
            go_simp
          try simp only [Act.put, List.setIfInBounds_toArray, List.set_cons_zero, List.set_cons_succ]
          refine wa_take (v := (.bool false)) 15 rfl (by kernel_rfl) (by kernel_rfl) (by kernel_rfl) (fun _ _ _ h => h) (by kernel_rfl) (fun w hSw => ?_) xc ?_
          · try dsimp only at hSw
            go_simp
          try simp only [Act.put, List.setIfInBounds_toArray, List.set_cons_zero, List.set_cons_succ]
          refine wa_take (v := (.bool false)) 16 rfl (by kernel_rfl) (by kernel_rfl) (by kernel_rfl) (fun _ _ _ h => h) (by kernel_rfl) (fun w hSw => ?_) xc ?_
          · try dsimp only at hSw
            go_simp
          try simp only [Act.put, List.setIfInBounds_toArray, List.set_cons_zero, List.set_cons_succ]
          refine wa_take (v := (.slice p9 n q9)) 17 rfl (by kernel_rfl) (by kernel_rfl) (by kernel_rfl) (fun _ _ _ h => h) (by kernel_rfl) (fun w hSw => ?_) xc ?_
          · try dsimp only at hSw
            go_simp
          try simp only [Act.put, List.setIfInBounds_toArray, List.set_cons_zero, List.set_cons_succ]
          refine wa_take (v := (.slice p n cp)) 18 rfl (by kernel_rfl) (by kernel_rfl) (by kernel_rfl) (fun _ _ _ h => h) (by kernel_rfl) (fun w hSw => ?_) xc ?_
          · try dsimp only at hSw
            go_simp
          try simp only [Act.put, List.setIfInBounds_toArray, List.set_cons_zero, List.set_cons_succ]
          refine wa_one 19 (by kernel_rfl) rfl (by kernel_rfl) (fun Kc hK => ?_)
          go_simp
          go_at_call 13
          refine (bytes_same F _ _ n _ ((unhide S9).below (unhide BQ) (Nat.le_refl _)) ((unhide SB).below (unhide BQ) (Nat.le_refl _))).mono ?_
          rintro ev w' ⟨rfl, b⟩
          replace xc := xc.below b
          replace BQ := hide (below_of (unhide BQ) b)
          clear b
          refine hK.out _ _ xc ?_
          clear hK Kc
          try simp only [Act.put, List.setIfInBounds_toArray, List.set_cons_zero, List.set_cons_succ]
          refine wa_take (v := (.bool false)) 20 rfl (by kernel_rfl) (by kernel_rfl) (by kernel_rfl) (fun _ _ _ h => h) (by kernel_rfl) (fun w hSw => ?_) xc ?_
          · try dsimp only at hSw
            go_simp
          try simp only [Act.put, List.setIfInBounds_toArray, List.set_cons_zero, List.set_cons_succ]
          refine wa_take (v := (.bool false)) 21 rfl (by kernel_rfl) (by kernel_rfl) (by kernel_rfl) (fun _ _ _ h => h) (by kernel_rfl) (fun w hSw => ?_) xc ?_
          · try dsimp only at hSw
            go_simp
          try simp only [Act.put, List.setIfInBounds_toArray, List.set_cons_zero, List.set_cons_succ]
          clear xc
          refine wa_done (by kernel_rfl) ?_
          go_wp2
          go_meet
          exact ⟨rfl, unhide BQ⟩
        | false =>
          have HCF := hide hcf
          clear hcf
          refine wa_take (v := (.agg #[.int .i64 f0, .int .i64 f1, .int .i64 f2, .int .i64 f3, .int .i64 f4, .int .i64 f5, .int .i64 f6])) 0 rfl (by kernel_rfl) (by kernel_rfl) (by kernel_rfl) (fun _ _ _ h => h) (by kernel_rfl) (fun w hSw => ?_) xc ?_
          · exact run_row rfl rfl hSw Tryd.underlying23 info23
          try simp only [Act.put, List.setIfInBounds_toArray, List.set_cons_zero, List.set_cons_succ]
          refine wa_take (v := (.agg #[.int .i64 f0, .int .i64 f1, .int .i64 f2, .int .i64 f3, .int .i64 f4, .int .i64 f5, .int .i64 f6])) 3 rfl (by kernel_rfl) (by kernel_rfl) (by kernel_rfl) (fun _ _ _ h => h) (by kernel_rfl) (fun w hSw => ?_) xc ?_
          · exact run_row rfl rfl hSw Tryd.underlying23 info23
          try simp only [Act.put, List.setIfInBounds_toArray, List.set_cons_zero, List.set_cons_succ]
          refine wa_one 1 (by kernel_rfl) rfl (by kernel_rfl) (fun Kc hK => ?_)
          go_simp
          go_at_call 11
          refine (config_any ⟨f0, f1, f2, f3, f4, f5, f6⟩ e _ (unhide G)).mono ?_
          rw [show cfE ⟨f0, f1, f2, f3, f4, f5, f6⟩ = 13 by simp [cfE, unhide HCF]]
          rintro ev w' ⟨rfl, b⟩
          replace xc := xc.below b
          replace G := hide ((unhide G).below b)
          replace BQ := hide (below_of (unhide BQ) b)
          clear b
          refine hK.out _ _ xc ?_
          clear hK Kc
          try simp only [Act.put, List.setIfInBounds_toArray, List.set_cons_zero, List.set_cons_succ]
          refine wa_take (v := (.bool false)) 2 rfl (by kernel_rfl) (by kernel_rfl) (by kernel_rfl) (fun _ _ _ h => h) (by kernel_rfl) (fun w hSw => ?_) xc ?_
          · try dsimp only at hSw
            go_simp
          try simp only [Act.put, List.setIfInBounds_toArray, List.set_cons_zero, List.set_cons_succ]
          refine wa_one 4 (by kernel_rfl) rfl (by kernel_rfl) (fun Kc hK => ?_)
          go_simp
          go_at_call 12
          refine (rconf_any ⟨f0, f1, f2, f3, f4, f5, f6⟩ _).mono ?_
          rw [unhide HCF]
          rintro ev w' ⟨rfl, b⟩
          replace xc := xc.below b
          replace G := hide ((unhide G).below b)
          replace BQ := hide (below_of (unhide BQ) b)
          clear b
          refine hK.out _ _ xc ?_
          clear hK Kc
          try simp only [Act.put, List.setIfInBounds_toArray, List.set_cons_zero, List.set_cons_succ]
          refine wa_take (v := (.bool false)) 5 rfl (by kernel_rfl) (by kernel_rfl) (by kernel_rfl) (fun _ _ _ h => h) (by kernel_rfl) (fun w hSw => ?_) xc ?_
          · try dsimp only at hSw
            go_simp
          try simp only [Act.put, List.setIfInBounds_toArray, List.set_cons_zero, List.set_cons_succ]
          refine wa_take (v := (.bool false)) 6 rfl (by kernel_rfl) (by kernel_rfl) (by kernel_rfl) (fun _ _ _ h => h) (by kernel_rfl) (fun w hSw => ?_) xc ?_
          · try dsimp only at hSw
            go_simp
          try simp only [Act.put, List.setIfInBounds_toArray, List.set_cons_zero, List.set_cons_succ]
          refine wa_take (v := (.agg #[.int .i64 f0, .int .i64 f1, .int .i64 f2, .int .i64 f3, .int .i64 f4, .int .i64 f5, .int .i64 f6])) 7 rfl (by kernel_rfl) (by kernel_rfl) (by kernel_rfl) (fun _ _ _ h => h) (by kernel_rfl) (fun w hSw => ?_) xc ?_
          · exact run_row rfl rfl hSw Tryd.underlying23 info23
          try simp only [Act.put, List.setIfInBounds_toArray, List.set_cons_zero, List.set_cons_succ]
          refine wa_one 8 (by kernel_rfl) rfl (by kernel_rfl) (fun Kc hK => ?_)
          go_simp
          go_at_call 12
          refine (rconf_any ⟨f0, f1, f2, f3, f4, f5, f6⟩ _).mono ?_
          rw [unhide HCF]
          rintro ev w' ⟨rfl, b⟩
          replace xc := xc.below b
          replace G := hide ((unhide G).below b)
          replace BQ := hide (below_of (unhide BQ) b)
          clear b
          refine hK.out _ _ xc ?_
          clear hK Kc
          try simp only [Act.put, List.setIfInBounds_toArray, List.set_cons_zero, List.set_cons_succ]
          refine wa_take (v := (.bool true)) 9 rfl (by kernel_rfl) (by kernel_rfl) (by kernel_rfl) (fun _ _ _ h => h) (by kernel_rfl) (fun w hSw => ?_) xc ?_
          · try dsimp only at hSw
            go_simp
          try simp only [Act.put, List.setIfInBounds_toArray, List.set_cons_zero, List.set_cons_succ]
          refine wa_take (v := (.bool true)) 10 rfl (by kernel_rfl) (by kernel_rfl) (by kernel_rfl) (fun _ _ _ h => h) (by kernel_rfl) (fun w hSw => ?_) xc ?_
          · try dsimp only at hSw
            go_simp
          try simp only [Act.put, List.setIfInBounds_toArray, List.set_cons_zero, List.set_cons_succ]
          refine wa_take (v := (.agg #[.int .i64 f0, .int .i64 f1, .int .i64 f2, .int .i64 f3, .int .i64 f4, .int .i64 f5, .int .i64 f6])) 11 rfl (by kernel_rfl) (by kernel_rfl) (by kernel_rfl) (fun _ _ _ h => h) (by kernel_rfl) (fun w hSw => ?_) xc ?_
          · exact run_row rfl rfl hSw Tryd.underlying23 info23
          try simp only [Act.put, List.setIfInBounds_toArray, List.set_cons_zero, List.set_cons_succ]
          refine wa_one 12 (by kernel_rfl) rfl (by kernel_rfl) (fun Kc hK => ?_)
          go_simp
          go_at_call 11
          refine (config_any ⟨f0, f1, f2, f3, f4, f5, f6⟩ e _ (unhide G)).mono ?_
          rw [show cfE ⟨f0, f1, f2, f3, f4, f5, f6⟩ = 13 by simp [cfE, unhide HCF]]
          rintro ev w' ⟨rfl, b⟩
          replace xc := xc.below b
          replace G := hide ((unhide G).below b)
          replace BQ := hide (below_of (unhide BQ) b)
          clear b
          refine hK.out _ _ xc ?_
          clear hK Kc
          try simp only [Act.put, List.setIfInBounds_toArray, List.set_cons_zero, List.set_cons_succ]
          refine wa_take (v := (.bool false)) 13 rfl (by kernel_rfl) (by kernel_rfl) (by kernel_rfl) (fun _ _ _ h => h) (by kernel_rfl) (fun w hSw => ?_) xc ?_
          · try dsimp only at hSw
            go_simp
          try simp only [Act.put, List.setIfInBounds_toArray, List.set_cons_zero, List.set_cons_succ]
          refine wa_take (v := (.bool false)) 14 rfl (by kernel_rfl) (by kernel_rfl) (by kernel_rfl) (fun _ _ _ h => h) (by kernel_rfl) (fun w hSw => ?_) xc ?_
          · try dsimp only at hSw
            go_simp
          try simp only [Act.put, List.setIfInBounds_toArray, List.set_cons_zero, List.set_cons_succ]
          refine wa_take (v := (.bool false)) 15 rfl (by kernel_rfl) (by kernel_rfl) (by kernel_rfl) (fun _ _ _ h => h) (by kernel_rfl) (fun w hSw => ?_) xc ?_
          · try dsimp only at hSw
            go_simp
          try simp only [Act.put, List.setIfInBounds_toArray, List.set_cons_zero, List.set_cons_succ]
          refine wa_take (v := (.bool false)) 16 rfl (by kernel_rfl) (by kernel_rfl) (by kernel_rfl) (fun _ _ _ h => h) (by kernel_rfl) (fun w hSw => ?_) xc ?_
          · try dsimp only at hSw
            go_simp
          try simp only [Act.put, List.setIfInBounds_toArray, List.set_cons_zero, List.set_cons_succ]
          refine wa_take (v := (.slice p9 n q9)) 17 rfl (by kernel_rfl) (by kernel_rfl) (by kernel_rfl) (fun _ _ _ h => h) (by kernel_rfl) (fun w hSw => ?_) xc ?_
          · try dsimp only at hSw
            go_simp
          try simp only [Act.put, List.setIfInBounds_toArray, List.set_cons_zero, List.set_cons_succ]
          refine wa_take (v := (.slice p n cp)) 18 rfl (by kernel_rfl) (by kernel_rfl) (by kernel_rfl) (fun _ _ _ h => h) (by kernel_rfl) (fun w hSw => ?_) xc ?_
          · try dsimp only at hSw
            go_simp
          try simp only [Act.put, List.setIfInBounds_toArray, List.set_cons_zero, List.set_cons_succ]
          refine wa_one 19 (by kernel_rfl) rfl (by kernel_rfl) (fun Kc hK => ?_)
          go_simp
          go_at_call 13
          refine (bytes_same F _ _ n _ ((unhide S9).below (unhide BQ) (Nat.le_refl _)) ((unhide SB).below (unhide BQ) (Nat.le_refl _))).mono ?_
          rintro ev w' ⟨rfl, b⟩
          replace xc := xc.below b
          replace BQ := hide (below_of (unhide BQ) b)
          clear b
          refine hK.out _ _ xc ?_
          clear hK Kc
          try simp only [Act.put, List.setIfInBounds_toArray, List.set_cons_zero, List.set_cons_succ]
          refine wa_take (v := (.bool false)) 20 rfl (by kernel_rfl) (by kernel_rfl) (by kernel_rfl) (fun _ _ _ h => h) (by kernel_rfl) (fun w hSw => ?_) xc ?_
          · try dsimp only at hSw
            go_simp
          try simp only [Act.put, List.setIfInBounds_toArray, List.set_cons_zero, List.set_cons_succ]
          refine wa_take (v := (.bool false)) 21 rfl (by kernel_rfl) (by kernel_rfl) (by kernel_rfl) (fun _ _ _ h => h) (by kernel_rfl) (fun w hSw => ?_) xc ?_
          · try dsimp only at hSw
            go_simp
          try simp only [Act.put, List.setIfInBounds_toArray, List.set_cons_zero, List.set_cons_succ]
          clear xc
          refine wa_done (by kernel_rfl) ?_
          go_wp2
          go_meet
          exact ⟨rfl, unhide BQ⟩
    case rest =>
      obtain ⟨rfl, bq⟩ := hcut
      obtain ⟨w5, hw⟩ : ∃ z, z = wc := ⟨_, rfl⟩
      rw [← hw] at bq ⊢
      clear hw
      replace PZ : Hid (n ≤ 4000 → z10 = 0 ∧ k10 = n / 5 ∧ Ss w5 (.slice p10 k10 q10) k10 F) := hide fun h => ⟨(unhide PZ h).1, (unhide PZ h).2.1, (unhide PZ h).2.2.below bq (Nat.le_refl _)⟩
      replace PY1 : Hid (ye = 0 → k12 = m * 5 ∧ Sl .u8 w5 (.slice p12 k12 q12) k12 F2) := hide fun h => ⟨(unhide PY1 h).1, (unhide PY1 h).2.below bq (Nat.le_refl _)⟩
      replace SB := hide ((unhide SB).below bq (Nat.le_refl _))
      replace SL := hide ((unhide SL).below bq (Nat.le_refl _))
      replace XC := hide ((unhide XC).below bq)
      replace XS := hide ((unhide XS).below bq)
      replace G := hide ((unhide G).below bq)
      replace B := hide (below_of (unhide B) bq)
      clear bq
      clear S9
      go_upto_if 83 with fail
      go_cut [] (fun wc => Below w5.heap.size w5 wc)
      case first =>
        as_aux_lemma =>
          rcases unhide HN with k1 | ⟨k1, k2⟩
          · have t0 : decide ((n : Int) > 4000) = false := decide_eq_false (by omega)
            have t1 : decide ((4000 : Int) < (n : Int)) = false := decide_eq_false (by omega)
            have t2 : ¬ ((4000 : Int) < (n : Int)) := by omega
            obtain ⟨rfl, rfl, sx⟩ := unhide PZ (by omega)
            have RS := hide (rsteps_any F _ n (n / 5) w5 (unhide SB) (unhide HF) (by omega) rfl)
            have SX := hide sx
            clear sx PZ PX2 PY1 PY2 SL XC XS G B HM k1
            go_wp2_with (first
              | (go_at_call 15; refine (unhide RS).mono ?_; rintro ev w6 ⟨v6, rfl, o6, b6⟩; have S6 := hide (ss_of_owns o6); have B6 := hide b6; clear b6 o6)
              | (go_at_call 14; refine (steps_same F _ _ (n / 5) _ ((unhide SX).below (unhide B6) (Nat.le_refl _)) (unhide S6)).mono ?_; rintro ev w7 ⟨rfl, b7⟩; replace B6 := hide (below_of (unhide B6) b7); clear b7))
            go_meet
            exact unhide B6
          · have t0 : decide ((n : Int) > 4000) = true := decide_eq_true (by omega)
            obtain ⟨rfl, rfl⟩ := unhide PX2 k1
            have t1 : decide ((4000 : Int) < (n : Int)) = true := decide_eq_true (by omega)
            have t2 : (4000 : Int) < (n : Int) := by omega
            clear PZ PX2 PY1 PY2 SL XC XS G B HM SB HF k1 k2
            go_wp2
            go_meet
            exact Below.refl _ _
      case rest =>
        have bq := hcut
        obtain ⟨w6, hw⟩ : ∃ z, z = wc := ⟨_, rfl⟩
        rw [← hw] at bq ⊢
        clear hw
        replace PY1 : Hid (ye = 0 → k12 = m * 5 ∧ Sl .u8 w6 (.slice p12 k12 q12) k12 F2) := hide fun h => ⟨(unhide PY1 h).1, (unhide PY1 h).2.below bq (Nat.le_refl _)⟩
        replace SB := hide ((unhide SB).below bq (Nat.le_refl _))
        replace SL := hide ((unhide SL).below bq (Nat.le_refl _))
        replace XC := hide ((unhide XC).below bq)
        replace XS := hide ((unhide XS).below bq)
        replace G := hide ((unhide G).below bq)
        replace B := hide (below_of (unhide B) bq)
        clear bq
        clear PZ PX2 SB HF HN hn2
        obtain ⟨i5, hi5, hz0, hz1, hz2⟩ := info_parts info5
        go_upto_region 14 with fail
        go_wp2
        go_loopw [14, 15, 16] (fun v14 v15 v16 w2 => ∃ (V : Value) (i : Nat), i ≤ m ∧ v14 = V ∧ v15 = .int .i64 (whyN F2 (i * 5)) ∧ v16 = .int .i64 i ∧ w2.ownsRow w6.heap.size 5 1 V (i * 5) (vL .u8 (lowB F2) (i * 5)) ∧ Below w6.heap.size w6 w2) (fun _ _ v16 _ => m - (intOf v16).toNat)
        case atStart => exact ⟨_, 0, by omega, rfl, rfl, rfl, World.ownsRow_nil _ _ _ _, Below.refl _ _⟩
        case round =>
          obtain ⟨V, i, hi, hv14, rfl, rfl, ho, hb⟩ := hrel
          obtain rfl := hv14.symm
          have HO := hide ho
          have HB := hide hb
          by_cases hlt : i < m
          · obtain ⟨b, off, rfl, hbs, hcell⟩ := ((unhide SL).below hb (Nat.le_refl _)).some (by omega)
            obtain ⟨r0, r1, r2, r3, r4⟩ := Ss.five hcell i hlt
            have d0 := (World.cell?_drew wr _).trans r0
            have d1 := (World.cell?_drew wr _).trans r1
            have d2 := (World.cell?_drew wr _).trans r2
            have d3 := (World.cell?_drew wr _).trans r3
            have d4 := (World.cell?_drew wr _).trans r4
            have i1 : (i : Int) < (m : Int) := by omega
            have HLT := hide hlt
            obtain ⟨y, hy⟩ : ∃ y, y = whyN F2 (i * 5) := ⟨_, rfl⟩
            rw [← hy]
            have HY := hide hy
            clear hcell ho hb hy
            go_upto_region 18 with fail
            refine wa_start (fun w' => w'.cell? ⟨b, off + i * 5, none⟩ = some (.int .i64 (F2 (i * 5))) ∧ w'.cell? ⟨b, off + i * 5 + 1, none⟩ = some (.int .i64 (F2 (i * 5 + 1))) ∧ w'.cell? ⟨b, off + i * 5 + 2, none⟩ = some (.int .i64 (F2 (i * 5 + 2))) ∧ w'.cell? ⟨b, off + i * 5 + 3, none⟩ = some (.int .i64 (F2 (i * 5 + 3))) ∧ w'.cell? ⟨b, off + i * 5 + 4, none⟩ = some (.int .i64 (F2 (i * 5 + 4)))) ⟨d0, d1, d2, d3, d4⟩ ?_
            refine wa_take (v := (.slice (some ⟨b, off, none⟩) m d)) 0 rfl (by kernel_rfl) (by kernel_rfl) (by kernel_rfl) (fun _ _ _ h => h) (by kernel_rfl) (fun w hSw => ?_) ⟨d0, d1, d2, d3, d4⟩ ?_
            · try dsimp only at hSw
              go_simp
            try simp only [Act.put, List.setIfInBounds_toArray, List.set_cons_zero, List.set_cons_succ]
            refine wa_take (v := (.int .i64 (i : Int))) 1 rfl (by kernel_rfl) (by kernel_rfl) (by kernel_rfl) (fun _ _ _ h => h) (by kernel_rfl) (fun w hSw => ?_) ⟨d0, d1, d2, d3, d4⟩ ?_
            · try dsimp only at hSw
              go_simp
            try simp only [Act.put, List.setIfInBounds_toArray, List.set_cons_zero, List.set_cons_succ]
            refine wa_take (v := (.pointer (some ⟨b, off + i * 5, none⟩))) 2 rfl (by kernel_rfl) (by kernel_rfl) (by kernel_rfl) (fun _ _ _ h => h) (by kernel_rfl) (fun w hSw => ?_) ⟨d0, d1, d2, d3, d4⟩ ?_
            · try dsimp only at hSw
              go_simp
            try simp only [Act.put, List.setIfInBounds_toArray, List.set_cons_zero, List.set_cons_succ]
            refine wa_take (v := (.pointer (some ⟨b, off + i * 5, none⟩))) 3 rfl (by kernel_rfl) (by kernel_rfl) (by kernel_rfl) (fun _ _ _ h => h) (by kernel_rfl) (fun w hSw => ?_) ⟨d0, d1, d2, d3, d4⟩ ?_
            · try dsimp only at hSw
              go_simp
            try simp only [Act.put, List.setIfInBounds_toArray, List.set_cons_zero, List.set_cons_succ]
            refine wa_take (v := (.int .i64 (F2 (i * 5)))) 4 rfl (by kernel_rfl) (by kernel_rfl) (by kernel_rfl) (fun _ _ _ h => h) (by kernel_rfl) (fun w hSw => ?_) ⟨d0, d1, d2, d3, d4⟩ ?_
            · try dsimp only at hSw
              go_simp
            try simp only [Act.put, List.setIfInBounds_toArray, List.set_cons_zero, List.set_cons_succ]
            refine wa_take (v := (.slice (some ⟨b, off, none⟩) m d)) 5 rfl (by kernel_rfl) (by kernel_rfl) (by kernel_rfl) (fun _ _ _ h => h) (by kernel_rfl) (fun w hSw => ?_) ⟨d0, d1, d2, d3, d4⟩ ?_
            · try dsimp only at hSw
              go_simp
            try simp only [Act.put, List.setIfInBounds_toArray, List.set_cons_zero, List.set_cons_succ]
            refine wa_take (v := (.int .i64 (i : Int))) 6 rfl (by kernel_rfl) (by kernel_rfl) (by kernel_rfl) (fun _ _ _ h => h) (by kernel_rfl) (fun w hSw => ?_) ⟨d0, d1, d2, d3, d4⟩ ?_
            · try dsimp only at hSw
              go_simp
            try simp only [Act.put, List.setIfInBounds_toArray, List.set_cons_zero, List.set_cons_succ]
            refine wa_take (v := (.pointer (some ⟨b, off + i * 5, none⟩))) 7 rfl (by kernel_rfl) (by kernel_rfl) (by kernel_rfl) (fun _ _ _ h => h) (by kernel_rfl) (fun w hSw => ?_) ⟨d0, d1, d2, d3, d4⟩ ?_
            · try dsimp only at hSw
              go_simp
            try simp only [Act.put, List.setIfInBounds_toArray, List.set_cons_zero, List.set_cons_succ]
            refine wa_take (v := (.pointer (some ⟨b, off + i * 5 + 1, none⟩))) 8 rfl (by kernel_rfl) (by kernel_rfl) (by kernel_rfl) (fun _ _ _ h => h) (by kernel_rfl) (fun w hSw => ?_) ⟨d0, d1, d2, d3, d4⟩ ?_
            · try dsimp only at hSw
              go_simp
            try simp only [Act.put, List.setIfInBounds_toArray, List.set_cons_zero, List.set_cons_succ]
            refine wa_take (v := (.int .i64 (F2 (i * 5 + 1)))) 9 rfl (by kernel_rfl) (by kernel_rfl) (by kernel_rfl) (fun _ _ _ h => h) (by kernel_rfl) (fun w hSw => ?_) ⟨d0, d1, d2, d3, d4⟩ ?_
            · try dsimp only at hSw
              go_simp
            try simp only [Act.put, List.setIfInBounds_toArray, List.set_cons_zero, List.set_cons_succ]
            refine wa_take (v := (.slice (some ⟨b, off, none⟩) m d)) 10 rfl (by kernel_rfl) (by kernel_rfl) (by kernel_rfl) (fun _ _ _ h => h) (by kernel_rfl) (fun w hSw => ?_) ⟨d0, d1, d2, d3, d4⟩ ?_
            · try dsimp only at hSw
              go_simp
            try simp only [Act.put, List.setIfInBounds_toArray, List.set_cons_zero, List.set_cons_succ]
            refine wa_take (v := (.int .i64 (i : Int))) 11 rfl (by kernel_rfl) (by kernel_rfl) (by kernel_rfl) (fun _ _ _ h => h) (by kernel_rfl) (fun w hSw => ?_) ⟨d0, d1, d2, d3, d4⟩ ?_
            · try dsimp only at hSw
              go_simp
            try simp only [Act.put, List.setIfInBounds_toArray, List.set_cons_zero, List.set_cons_succ]
            refine wa_take (v := (.pointer (some ⟨b, off + i * 5, none⟩))) 12 rfl (by kernel_rfl) (by kernel_rfl) (by kernel_rfl) (fun _ _ _ h => h) (by kernel_rfl) (fun w hSw => ?_) ⟨d0, d1, d2, d3, d4⟩ ?_
            · try dsimp only at hSw
              go_simp
            try simp only [Act.put, List.setIfInBounds_toArray, List.set_cons_zero, List.set_cons_succ]
            refine wa_take (v := (.pointer (some ⟨b, off + i * 5 + 2, none⟩))) 13 rfl (by kernel_rfl) (by kernel_rfl) (by kernel_rfl) (fun _ _ _ h => h) (by kernel_rfl) (fun w hSw => ?_) ⟨d0, d1, d2, d3, d4⟩ ?_
            · try dsimp only at hSw
              go_simp
            try simp only [Act.put, List.setIfInBounds_toArray, List.set_cons_zero, List.set_cons_succ]
            refine wa_take (v := (.int .i64 (F2 (i * 5 + 2)))) 14 rfl (by kernel_rfl) (by kernel_rfl) (by kernel_rfl) (fun _ _ _ h => h) (by kernel_rfl) (fun w hSw => ?_) ⟨d0, d1, d2, d3, d4⟩ ?_
            · try dsimp only at hSw
              go_simp
            try simp only [Act.put, List.setIfInBounds_toArray, List.set_cons_zero, List.set_cons_succ]
            refine wa_take (v := (.slice (some ⟨b, off, none⟩) m d)) 15 rfl (by kernel_rfl) (by kernel_rfl) (by kernel_rfl) (fun _ _ _ h => h) (by kernel_rfl) (fun w hSw => ?_) ⟨d0, d1, d2, d3, d4⟩ ?_
            · try dsimp only at hSw
              go_simp
            try simp only [Act.put, List.setIfInBounds_toArray, List.set_cons_zero, List.set_cons_succ]
            refine wa_take (v := (.int .i64 (i : Int))) 16 rfl (by kernel_rfl) (by kernel_rfl) (by kernel_rfl) (fun _ _ _ h => h) (by kernel_rfl) (fun w hSw => ?_) ⟨d0, d1, d2, d3, d4⟩ ?_
            · try dsimp only at hSw
              go_simp
            try simp only [Act.put, List.setIfInBounds_toArray, List.set_cons_zero, List.set_cons_succ]
            refine wa_take (v := (.pointer (some ⟨b, off + i * 5, none⟩))) 17 rfl (by kernel_rfl) (by kernel_rfl) (by kernel_rfl) (fun _ _ _ h => h) (by kernel_rfl) (fun w hSw => ?_) ⟨d0, d1, d2, d3, d4⟩ ?_
            · try dsimp only at hSw
              go_simp
            try simp only [Act.put, List.setIfInBounds_toArray, List.set_cons_zero, List.set_cons_succ]
            refine wa_take (v := (.pointer (some ⟨b, off + i * 5 + 3, none⟩))) 18 rfl (by kernel_rfl) (by kernel_rfl) (by kernel_rfl) (fun _ _ _ h => h) (by kernel_rfl) (fun w hSw => ?_) ⟨d0, d1, d2, d3, d4⟩ ?_
            · try dsimp only at hSw
              go_simp
            try simp only [Act.put, List.setIfInBounds_toArray, List.set_cons_zero, List.set_cons_succ]
            refine wa_take (v := (.int .i64 (F2 (i * 5 + 3)))) 19 rfl (by kernel_rfl) (by kernel_rfl) (by kernel_rfl) (fun _ _ _ h => h) (by kernel_rfl) (fun w hSw => ?_) ⟨d0, d1, d2, d3, d4⟩ ?_
            · try dsimp only at hSw
              go_simp
            try simp only [Act.put, List.setIfInBounds_toArray, List.set_cons_zero, List.set_cons_succ]
            refine wa_take (v := (.slice (some ⟨b, off, none⟩) m d)) 20 rfl (by kernel_rfl) (by kernel_rfl) (by kernel_rfl) (fun _ _ _ h => h) (by kernel_rfl) (fun w hSw => ?_) ⟨d0, d1, d2, d3, d4⟩ ?_
            · try dsimp only at hSw
              go_simp
            try simp only [Act.put, List.setIfInBounds_toArray, List.set_cons_zero, List.set_cons_succ]
            refine wa_take (v := (.int .i64 (i : Int))) 21 rfl (by kernel_rfl) (by kernel_rfl) (by kernel_rfl) (fun _ _ _ h => h) (by kernel_rfl) (fun w hSw => ?_) ⟨d0, d1, d2, d3, d4⟩ ?_
            · try dsimp only at hSw
              go_simp
            try simp only [Act.put, List.setIfInBounds_toArray, List.set_cons_zero, List.set_cons_succ]
            refine wa_take (v := (.pointer (some ⟨b, off + i * 5, none⟩))) 22 rfl (by kernel_rfl) (by kernel_rfl) (by kernel_rfl) (fun _ _ _ h => h) (by kernel_rfl) (fun w hSw => ?_) ⟨d0, d1, d2, d3, d4⟩ ?_
            · try dsimp only at hSw
              go_simp
            try simp only [Act.put, List.setIfInBounds_toArray, List.set_cons_zero, List.set_cons_succ]
            refine wa_take (v := (.pointer (some ⟨b, off + i * 5 + 4, none⟩))) 23 rfl (by kernel_rfl) (by kernel_rfl) (by kernel_rfl) (fun _ _ _ h => h) (by kernel_rfl) (fun w hSw => ?_) ⟨d0, d1, d2, d3, d4⟩ ?_
            · try dsimp only at hSw
              go_simp
            try simp only [Act.put, List.setIfInBounds_toArray, List.set_cons_zero, List.set_cons_succ]
            refine wa_take (v := (.int .i64 (F2 (i * 5 + 4)))) 24 rfl (by kernel_rfl) (by kernel_rfl) (by kernel_rfl) (fun _ _ _ h => h) (by kernel_rfl) (fun w hSw => ?_) ⟨d0, d1, d2, d3, d4⟩ ?_
            · try dsimp only at hSw
              go_simp
            try simp only [Act.put, List.setIfInBounds_toArray, List.set_cons_zero, List.set_cons_succ]
            refine wa_one 25 (by kernel_rfl) rfl (by kernel_rfl) (fun Kc hK => ?_)
            go_simp
            refine hK.out _ _ ⟨(World.cell?_drew (wr.alloc (.cells #[.int .i64 (F2 (i * 5)), .int .i64 (F2 (i * 5 + 1)), .int .i64 (F2 (i * 5 + 2)), .int .i64 (F2 (i * 5 + 3)), .int .i64 (F2 (i * 5 + 4))] 3)) _).trans ((World.cell?_alloc_lt wr (.cells #[.int .i64 (F2 (i * 5)), .int .i64 (F2 (i * 5 + 1)), .int .i64 (F2 (i * 5 + 2)), .int .i64 (F2 (i * 5 + 3)), .int .i64 (F2 (i * 5 + 4))] 3) ⟨b, off + i * 5, none⟩ hbs).trans r0), (World.cell?_drew (wr.alloc (.cells #[.int .i64 (F2 (i * 5)), .int .i64 (F2 (i * 5 + 1)), .int .i64 (F2 (i * 5 + 2)), .int .i64 (F2 (i * 5 + 3)), .int .i64 (F2 (i * 5 + 4))] 3)) _).trans ((World.cell?_alloc_lt wr (.cells #[.int .i64 (F2 (i * 5)), .int .i64 (F2 (i * 5 + 1)), .int .i64 (F2 (i * 5 + 2)), .int .i64 (F2 (i * 5 + 3)), .int .i64 (F2 (i * 5 + 4))] 3) ⟨b, off + i * 5 + 1, none⟩ hbs).trans r1), (World.cell?_drew (wr.alloc (.cells #[.int .i64 (F2 (i * 5)), .int .i64 (F2 (i * 5 + 1)), .int .i64 (F2 (i * 5 + 2)), .int .i64 (F2 (i * 5 + 3)), .int .i64 (F2 (i * 5 + 4))] 3)) _).trans ((World.cell?_alloc_lt wr (.cells #[.int .i64 (F2 (i * 5)), .int .i64 (F2 (i * 5 + 1)), .int .i64 (F2 (i * 5 + 2)), .int .i64 (F2 (i * 5 + 3)), .int .i64 (F2 (i * 5 + 4))] 3) ⟨b, off + i * 5 + 2, none⟩ hbs).trans r2), (World.cell?_drew (wr.alloc (.cells #[.int .i64 (F2 (i * 5)), .int .i64 (F2 (i * 5 + 1)), .int .i64 (F2 (i * 5 + 2)), .int .i64 (F2 (i * 5 + 3)), .int .i64 (F2 (i * 5 + 4))] 3)) _).trans ((World.cell?_alloc_lt wr (.cells #[.int .i64 (F2 (i * 5)), .int .i64 (F2 (i * 5 + 1)), .int .i64 (F2 (i * 5 + 2)), .int .i64 (F2 (i * 5 + 3)), .int .i64 (F2 (i * 5 + 4))] 3) ⟨b, off + i * 5 + 3, none⟩ hbs).trans r3), (World.cell?_drew (wr.alloc (.cells #[.int .i64 (F2 (i * 5)), .int .i64 (F2 (i * 5 + 1)), .int .i64 (F2 (i * 5 + 2)), .int .i64 (F2 (i * 5 + 3)), .int .i64 (F2 (i * 5 + 4))] 3)) _).trans ((World.cell?_alloc_lt wr (.cells #[.int .i64 (F2 (i * 5)), .int .i64 (F2 (i * 5 + 1)), .int .i64 (F2 (i * 5 + 2)), .int .i64 (F2 (i * 5 + 3)), .int .i64 (F2 (i * 5 + 4))] 3) ⟨b, off + i * 5 + 4, none⟩ hbs).trans r4)⟩ ?_
            clear hK Kc
            try simp only [Act.put, List.setIfInBounds_toArray, List.set_cons_zero, List.set_cons_succ]
            have a0 := fun dd => (World.cell?_drew (wr.alloc (.cells #[.int .i64 (F2 (i * 5)), .int .i64 (F2 (i * 5 + 1)), .int .i64 (F2 (i * 5 + 2)), .int .i64 (F2 (i * 5 + 3)), .int .i64 (F2 (i * 5 + 4))] 3)) ⟨b, dd, none⟩).trans (World.cell?_alloc_lt wr (.cells #[.int .i64 (F2 (i * 5)), .int .i64 (F2 (i * 5 + 1)), .int .i64 (F2 (i * 5 + 2)), .int .i64 (F2 (i * 5 + 3)), .int .i64 (F2 (i * 5 + 4))] 3) ⟨b, dd, none⟩ hbs)
            refine wa_take (v := (.slice (some ⟨wr.heap.size, 0, none⟩) 5 5)) 26 rfl (by kernel_rfl) (by kernel_rfl) (by kernel_rfl) (fun _ _ _ h => h) (by kernel_rfl) (fun w hSw => ?_) ⟨(a0 _).trans r0, (a0 _).trans r1, (a0 _).trans r2, (a0 _).trans r3, (a0 _).trans r4⟩ ?_
            · try dsimp only at hSw
              go_simp
            try simp only [Act.put, List.setIfInBounds_toArray, List.set_cons_zero, List.set_cons_succ]
            clear a0
            refine wa_done (by kernel_rfl) ?_
            obtain ⟨w18, hw⟩ : ∃ z, z = (wr.alloc (.cells #[.int .i64 (F2 (i * 5)), .int .i64 (F2 (i * 5 + 1)), .int .i64 (F2 (i * 5 + 2)), .int .i64 (F2 (i * 5 + 3)), .int .i64 (F2 (i * 5 + 4))] 3)).drew := ⟨_, rfl⟩
            rw [← hw]
            have b18 : Below wr.heap.size wr w18 := by rw [hw]; exact (below_alloc (Below.refl _ _) _).drew
            have X18 := hide (show Has w18 wr.heap.size (.cells #[.int .i64 (F2 (i * 5)), .int .i64 (F2 (i * 5 + 1)), .int .i64 (F2 (i * 5 + 2)), .int .i64 (F2 (i * 5 + 3)), .int .i64 (F2 (i * 5 + 4))] 3) by rw [hw]; exact (Has.new _ _).drew)
            replace HO := hide (owns_below (unhide HO) b18)
            replace HB := hide (below_of (unhide HB) b18)
            obtain ⟨gf, hgf⟩ : ∃ g, g = wr.heap.size := ⟨_, rfl⟩
            rw [← hgf] at X18 ⊢
            clear hw b18 r0 r1 r2 r3 r4 d0 d1 d2 d3 d4 hbs hgf
            go_wp2
            go_loopw [14, 15, 18] (fun v14 v15 v18 w2 => ∃ (U : Value) (r J : Nat), J = i * 5 + r ∧ r ≤ 5 ∧ v14 = U ∧ v15 = .int .i64 (whyN F2 J) ∧ v18 = .int .i64 r ∧ w2.ownsRow w6.heap.size 5 1 U J (vL .u8 (lowB F2) J) ∧ Has w2 gf (.cells #[.int .i64 (F2 (i * 5)), .int .i64 (F2 (i * 5 + 1)), .int .i64 (F2 (i * 5 + 2)), .int .i64 (F2 (i * 5 + 3)), .int .i64 (F2 (i * 5 + 4))] 3) ∧ Below w6.heap.size w6 w2) (fun _ _ v18 _ => 5 - (intOf v18).toNat)
            case atStart => exact ⟨_, 0, i * 5, rfl, by omega, rfl, by rw [unhide HY], rfl, unhide HO, unhide X18, unhide HB⟩
            case round =>
              clear HO X18 HB HY
              obtain ⟨U, r, J, hJ, hr, hu, rfl, rfl, ho, hx, hb⟩ := hrel
              obtain rfl := hu.symm
              have HO := hide ho
              have HX := hide hx
              have HB := hide hb
              have HJ := hide hJ
              by_cases h5 : r < 5
              · have HR := hide h5
                have cc : wr.cell? ⟨gf, r, none⟩ = some (.int .i64 (F2 J)) := by
                  rw [hJ]
                  match r, h5 with
                  | 0, _ => exact hx.cell (k := 0) rfl
                  | 1, _ => exact hx.cell (k := 1) rfl
                  | 2, _ => exact hx.cell (k := 2) rfl
                  | 3, _ => exact hx.cell (k := 3) rfl
                  | 4, _ => exact hx.cell (k := 4) rfl
                have lg := hx.1
                have i2 : (r : Int) < 5 := by omega
                have J4 : J ≤ 4100 := by omega
                obtain ⟨x, hxx⟩ : ∃ x, x = F2 J := ⟨_, rfl⟩
                have HXX := hide hxx
                rw [← hxx] at cc
                have LW := hide (show IntKind.u8.wrap x = lowB F2 J by rw [hxx]; rfl)
                clear ho hx hb hJ hxx
                have O2 := hide ((unhide HO).alloc (.cells #[.int .u8 (IntKind.u8.wrap x)] 5))
                have B2 := hide (below_alloc (unhide HB) (.cells #[.int .u8 (IntKind.u8.wrap x)] 5))
                have LC := hide (cells_lit wr [.int .u8 (IntKind.u8.wrap x)] 5)
                have L1 : ∀ u ∈ ([.int .u8 (IntKind.u8.wrap x)] : List Value), u.oneCell' = true := by intro u hu; simp at hu; rw [hu]; rfl
                cases hin : inB x 0 255 with
                | true =>
                  have HIN := hide hin
                  have WN := hide (show whyN F2 (J + 1) = whyN F2 J from whyN_true (by rw [← unhide HXX]; exact hin))
                  clear hin
                  go_wp2_with (first
                    | (go_at_call 16; (with_reducible refine (in_is (unhide HIN) _).mono ?_); rintro ev w9 ⟨rfl, hw⟩; obtain rfl := hw.symm)
                    | (at_builtin; refine wpList_append_own _ rfl (.tmp 142) (.tmp 148) 24 rfl w6.heap.size 5 i5 (.int .u8 0) 1 1 Tryd.underlying24 hi5 hz0 hz1 hz2 rfl (by decide) U J (vL .u8 (lowB F2) J) rfl ?own ⟨wr.heap.size, 0, none⟩ 1 1 [.int .u8 (IntKind.u8.wrap x)] ?hx ?hn ?hc L1 ?b1 ?b2 ?b3 ?main; (case own => exact unhide O2); (case hx => rfl); (case hn => rfl); (case hc => exact unhide LC); (case b1 => (unfold maxLen; omega)); (case b2 => omega); (case b3 => exact (unhide B2).size)))
                  intro v4 w4 o4 g4 _
                  have O4 := hide (show w4.ownsRow w6.heap.size 5 1 v4 (J + 1) (vL .u8 (lowB F2) (J + 1)) by rw [vL_succ, ← unhide LW]; exact o4)
                  have B4 := hide ((unhide B2).grown g4 (unhide B2).size fun k hk => ((unhide O2).lt k hk).1)
                  have X4 := hide (show Has w4 gf (.cells #[.int .i64 (F2 (i * 5)), .int .i64 (F2 (i * 5 + 1)), .int .i64 (F2 (i * 5 + 2)), .int .i64 (F2 (i * 5 + 3)), .int .i64 (F2 (i * 5 + 4))] 3) from ((unhide HX).alloc _).grownH g4 fun hq => (Has.apart (unhide HX) (unhide HO) hq))
                  clear o4 g4 LC O2 B2
                  go_wp2
                  go_roundw
                  case rel => exact ⟨_, r + 1, J + 1, by have := unhide HJ; omega, by have := unhide HR; omega, rfl, by rw [unhide WN], by go_num, unhide O4, unhide X4, unhide B4⟩
                  case measure => simp [intOf]; omega
                | false =>
                  have HIN := hide hin
                  have WN := hide (show whyN F2 (J + 1) = 1 from whyN_false (by rw [← unhide HXX]; exact hin))
                  clear hin
                  go_wp2_with (first
                    | (go_at_call 16; (with_reducible refine (in_is (unhide HIN) _).mono ?_); rintro ev w9 ⟨rfl, hw⟩; obtain rfl := hw.symm)
                    | (at_builtin; refine wpList_append_own _ rfl (.tmp 142) (.tmp 148) 24 rfl w6.heap.size 5 i5 (.int .u8 0) 1 1 Tryd.underlying24 hi5 hz0 hz1 hz2 rfl (by decide) U J (vL .u8 (lowB F2) J) rfl ?ownz ⟨wr.heap.size, 0, none⟩ 1 1 [.int .u8 (IntKind.u8.wrap x)] ?hxz ?hnz ?hcz L1 ?b1z ?b2z ?b3z ?mainz; (case ownz => exact unhide O2); (case hxz => rfl); (case hnz => rfl); (case hcz => exact unhide LC); (case b1z => (unfold maxLen; omega)); (case b2z => omega); (case b3z => exact (unhide B2).size)))
                  intro v4 w4 o4 g4 _
                  have O4 := hide (show w4.ownsRow w6.heap.size 5 1 v4 (J + 1) (vL .u8 (lowB F2) (J + 1)) by rw [vL_succ, ← unhide LW]; exact o4)
                  have B4 := hide ((unhide B2).grown g4 (unhide B2).size fun k hk => ((unhide O2).lt k hk).1)
                  have X4 := hide (show Has w4 gf (.cells #[.int .i64 (F2 (i * 5)), .int .i64 (F2 (i * 5 + 1)), .int .i64 (F2 (i * 5 + 2)), .int .i64 (F2 (i * 5 + 3)), .int .i64 (F2 (i * 5 + 4))] 3) from ((unhide HX).alloc _).grownH g4 fun hq => (Has.apart (unhide HX) (unhide HO) hq))
                  clear o4 g4 LC O2 B2
                  go_wp2
                  go_roundw
                  case rel => exact ⟨_, r + 1, J + 1, by have := unhide HJ; omega, by have := unhide HR; omega, rfl, by rw [unhide WN], by go_num, unhide O4, unhide X4, unhide B4⟩
                  case measure => simp [intOf]; omega
              · obtain rfl : r = 5 := by omega
                have HJ5 := hide (show J = (i + 1) * 5 by omega)
                clear ho hx hb hJ
                go_wp2
                go_roundw
                case rel => exact ⟨_, i + 1, by have := unhide HLT; omega, rfl, by rw [unhide HJ5], by go_num, by have := unhide HO; rw [unhide HJ5] at this; exact this, unhide HB⟩
                case measure => simp [intOf]; have := unhide HLT; omega
          · obtain rfl : i = m := by omega
            clear ho hb
            have S14 := hide (sl_of_owns (unhide HO))
            obtain ⟨p14, q14, hV, -, -⟩ := (unhide S14).shape
            subst hV
            replace PY1 : Hid (ye = 0 → k12 = i * 5 ∧ Sl .u8 wr (.slice p12 k12 q12) k12 F2) := hide fun h => ⟨(unhide PY1 h).1, (unhide PY1 h).2.below (unhide HB) (Nat.le_refl _)⟩
            replace XC := hide ((unhide XC).below (unhide HB))
            replace XS := hide ((unhide XS).below (unhide HB))
            replace G := hide ((unhide G).below (unhide HB))
            replace B := hide (below_of (unhide B) (unhide HB))
            clear HO HB SL hi hlt
            cases hok : okS F2 i with
            | false =>
              obtain rfl : ye = 1 := by rw [unhide YE]; simp [byE, hok]
              obtain rfl := unhide PY2 (by decide)
              have YN := hide (show whyN F2 (i * 5) = 1 by simp [whyN, okN_okS, hok])
              rw [unhide YN]
              clear hok PY1 PY2 YE YN S14 HM
              go_upto_region 29 with fail
              have x0 := (unhide XC).cell (k := 0) rfl
              have x1 := (unhide XC).cell (k := 1) rfl
              have x2 := (unhide XC).cell (k := 2) rfl
              have x3 := (unhide XC).cell (k := 3) rfl
              have x4 := (unhide XC).cell (k := 4) rfl
              have x5 := (unhide XC).cell (k := 5) rfl
              have x6 := (unhide XC).cell (k := 6) rfl
              have s0 := (unhide XS).cell (k := 0) rfl
              have s1 := (unhide XS).cell (k := 1) rfl
              have s2 := (unhide XS).cell (k := 2) rfl
              have s3 := (unhide XS).cell (k := 3) rfl
              have s4 := (unhide XS).cell (k := 4) rfl
              have lx := (unhide XC).1
              have ls := (unhide XS).1
              cases hcf : cfB ⟨f0, f1, f2, f3, f4, f5, f6⟩ with
              | false =>
                have HCF := hide hcf
                clear hcf
                go_wp2_with (first
                  | (go_at_call 12; refine (rconf_any ⟨f0, f1, f2, f3, f4, f5, f6⟩ _).mono ?_; rw [unhide HCF]; rintro ev w20 ⟨rfl, b20⟩; replace XC := hide ((unhide XC).below b20); replace XS := hide ((unhide XS).below b20); replace G := hide ((unhide G).below b20); replace B := hide (below_of (unhide B) b20); clear b20; clear x0 x1 x2 x3 x4 x5 x6 s0 s1 s2 s3 s4 lx ls; have x0 := (unhide XC).cell (k := 0) rfl; have x1 := (unhide XC).cell (k := 1) rfl; have x2 := (unhide XC).cell (k := 2) rfl; have x3 := (unhide XC).cell (k := 3) rfl; have x4 := (unhide XC).cell (k := 4) rfl; have x5 := (unhide XC).cell (k := 5) rfl; have x6 := (unhide XC).cell (k := 6) rfl; have s0 := (unhide XS).cell (k := 0) rfl; have s1 := (unhide XS).cell (k := 1) rfl; have s2 := (unhide XS).cell (k := 2) rfl; have s3 := (unhide XS).cell (k := 3) rfl; have s4 := (unhide XS).cell (k := 4) rfl; have lx := (unhide XC).1; have ls := (unhide XS).1)
                  | (go_at_call 17; refine (check_any ⟨f0, f1, f2, f3, f4, f5, f6⟩ ⟨kd, nd, tp, vl, ms⟩ e _ (unhide G)).mono ?_; rw [show chkE ⟨f0, f1, f2, f3, f4, f5, f6⟩ ⟨kd, nd, tp, vl, ms⟩ = 13 by simp [chkE, unhide HCF]]; rintro ev w21 ⟨rfl, b21⟩; replace XC := hide ((unhide XC).below b21); replace XS := hide ((unhide XS).below b21); replace G := hide ((unhide G).below b21); replace B := hide (below_of (unhide B) b21); clear b21)
                  | (go_at_call 18; refine (wakes_any e _ (unhide G)).mono ?_; rintro ev w22 ⟨rfl, b22⟩; replace B := hide (below_of (unhide B) b22); clear b22))
                go_ret
                exact ⟨rfl, unhide B⟩
              | true =>
                have HCF := hide hcf
                clear hcf
                go_upto_region 31 with (go_at_call 12; refine (rconf_any ⟨f0, f1, f2, f3, f4, f5, f6⟩ _).mono ?_; rw [unhide HCF]; rintro ev w20 ⟨rfl, b20⟩; replace XC := hide ((unhide XC).below b20); replace XS := hide ((unhide XS).below b20); replace G := hide ((unhide G).below b20); replace B := hide (below_of (unhide B) b20); clear b20)
                clear x0 x1 x2 x3 x4 x5 x6 s0 s1 s2 s3 s4 lx ls
                obtain ⟨z, hz⟩ : ∃ z, z = stE ⟨f0, f1, f2, f3, f4, f5, f6⟩ ⟨kd, nd, tp, vl, ms⟩ := ⟨_, rfl⟩
                have HZ := hide hz
                clear hz
                have xc := (unhide XC).drew
                have xs := (unhide XS).drew
                replace G := hide ((unhide G).below (below_drewN (Below.refl _ _) 1))
                replace B := hide (below_of (unhide B) (below_drewN (Below.refl _ _) 1))
                refine wa_start (fun w' => Has w' w.heap.size (.cells #[.int .i64 f0, .int .i64 f1, .int .i64 f2, .int .i64 f3, .int .i64 f4, .int .i64 f5, .int .i64 f6] 23) ∧ Has w' (w.heap.size + 1) (.cells #[.int .i64 kd, .int .i64 nd, .int .i64 tp, .int .i64 vl, .int .i64 ms] 27)) ⟨xc, xs⟩ ?_
                refine wa_take (v := (.agg #[.int .i64 f0, .int .i64 f1, .int .i64 f2, .int .i64 f3, .int .i64 f4, .int .i64 f5, .int .i64 f6])) 0 rfl (by kernel_rfl) (by kernel_rfl) (by kernel_rfl) (fun _ _ _ h => h) (by kernel_rfl) (fun w hSw => ?_) ⟨xc, xs⟩ ?_
                · exact run_row rfl rfl hSw.1 Tryd.underlying23 info23
                try simp only [Act.put, List.setIfInBounds_toArray, List.set_cons_zero, List.set_cons_succ]
                refine wa_take (v := (.agg #[.int .i64 kd, .int .i64 nd, .int .i64 tp, .int .i64 vl, .int .i64 ms])) 1 rfl (by kernel_rfl) (by kernel_rfl) (by kernel_rfl) (fun _ _ _ h => h) (by kernel_rfl) (fun w hSw => ?_) ⟨xc, xs⟩ ?_
                · exact run_row rfl rfl hSw.2 Tryd.underlying27 info27
                try simp only [Act.put, List.setIfInBounds_toArray, List.set_cons_zero, List.set_cons_succ]
                refine wa_take (v := (.agg #[.int .i64 f0, .int .i64 f1, .int .i64 f2, .int .i64 f3, .int .i64 f4, .int .i64 f5, .int .i64 f6])) 3 rfl (by kernel_rfl) (by kernel_rfl) (by kernel_rfl) (fun _ _ _ h => h) (by kernel_rfl) (fun w hSw => ?_) ⟨xc, xs⟩ ?_
                · exact run_row rfl rfl hSw.1 Tryd.underlying23 info23
                try simp only [Act.put, List.setIfInBounds_toArray, List.set_cons_zero, List.set_cons_succ]
                refine wa_take (v := (.agg #[.int .i64 kd, .int .i64 nd, .int .i64 tp, .int .i64 vl, .int .i64 ms])) 4 rfl (by kernel_rfl) (by kernel_rfl) (by kernel_rfl) (fun _ _ _ h => h) (by kernel_rfl) (fun w hSw => ?_) ⟨xc, xs⟩ ?_
                · exact run_row rfl rfl hSw.2 Tryd.underlying27 info27
                try simp only [Act.put, List.setIfInBounds_toArray, List.set_cons_zero, List.set_cons_succ]
                refine wa_one 2 (by kernel_rfl) rfl (by kernel_rfl) (fun Kc hK => ?_)
                go_simp
                go_at_call 17
                refine (check_any ⟨f0, f1, f2, f3, f4, f5, f6⟩ ⟨kd, nd, tp, vl, ms⟩ e _ (unhide G)).mono ?_
                rw [show chkE ⟨f0, f1, f2, f3, f4, f5, f6⟩ ⟨kd, nd, tp, vl, ms⟩ = z by rw [unhide HZ]; simp [chkE, unhide HCF]]
                rintro ev w' ⟨rfl, b⟩
                replace xc := xc.below b
                replace xs := xs.below b
                replace G := hide ((unhide G).below b)
                replace B := hide (below_of (unhide B) b)
                clear b
                refine hK.out _ _ ⟨xc, xs⟩ ?_
                clear hK Kc
                try simp only [Act.put, List.setIfInBounds_toArray, List.set_cons_zero, List.set_cons_succ]
                refine wa_one 5 (by kernel_rfl) rfl (by kernel_rfl) (fun Kc hK => ?_)
                go_simp
                go_at_call 19
                refine (rstep_any ⟨f0, f1, f2, f3, f4, f5, f6⟩ ⟨kd, nd, tp, vl, ms⟩ _ (unhide HCF)).mono ?_
                rw [← unhide HZ]
                rintro ev w' ⟨rfl, b⟩
                replace xc := xc.below b
                replace xs := xs.below b
                replace G := hide ((unhide G).below b)
                replace B := hide (below_of (unhide B) b)
                clear b
                refine hK.out _ _ ⟨xc, xs⟩ ?_
                clear hK Kc
                try simp only [Act.put, List.setIfInBounds_toArray, List.set_cons_zero, List.set_cons_succ]
                refine wa_take (v := (.bool true)) 6 rfl (by kernel_rfl) (by kernel_rfl) (by kernel_rfl) (fun _ _ _ h => h) (by kernel_rfl) (fun w hSw => ?_) ⟨xc, xs⟩ ?_
                · try dsimp only at hSw
                  go_simp
                try simp only [Act.put, List.setIfInBounds_toArray, List.set_cons_zero, List.set_cons_succ]
                refine wa_take (v := (.bool true)) 7 rfl (by kernel_rfl) (by kernel_rfl) (by kernel_rfl) (fun _ _ _ h => h) (by kernel_rfl) (fun w hSw => ?_) ⟨xc, xs⟩ ?_
                · try dsimp only at hSw
                  go_simp
                try simp only [Act.put, List.setIfInBounds_toArray, List.set_cons_zero, List.set_cons_succ]
                refine wa_one 8 (by kernel_rfl) rfl (by kernel_rfl) (fun Kc hK => ?_)
                go_simp
                go_at_call 18
                refine (wakes_any e _ (unhide G)).mono ?_
                rintro ev w' ⟨rfl, b⟩
                replace xc := xc.below b
                replace xs := xs.below b
                replace B := hide (below_of (unhide B) b)
                clear b
                refine hK.out _ _ ⟨xc, xs⟩ ?_
                clear hK Kc
                try simp only [Act.put, List.setIfInBounds_toArray, List.set_cons_zero, List.set_cons_succ]
                refine wa_take (v := (.bool true)) 9 rfl (by kernel_rfl) (by kernel_rfl) (by kernel_rfl) (fun _ _ _ h => h) (by kernel_rfl) (fun w hSw => ?_) ⟨xc, xs⟩ ?_
                · try dsimp only at hSw
                  go_simp
                try simp only [Act.put, List.setIfInBounds_toArray, List.set_cons_zero, List.set_cons_succ]
                refine wa_take (v := (.bool true)) 10 rfl (by kernel_rfl) (by kernel_rfl) (by kernel_rfl) (fun _ _ _ h => h) (by kernel_rfl) (fun w hSw => ?_) ⟨xc, xs⟩ ?_
                · try dsimp only at hSw
                  go_simp
                try simp only [Act.put, List.setIfInBounds_toArray, List.set_cons_zero, List.set_cons_succ]
                clear xc xs
                refine wa_done (by kernel_rfl) ?_
                go_wp2
                go_ret
                exact ⟨rfl, unhide B⟩
            | true =>
              have YN := hide (show whyN F2 (i * 5) = 0 by simp [whyN, okN_okS, hok])
              rw [unhide YN]
              clear YN
              by_cases h8 : 800 < i
              · obtain rfl : ye = 2 := by rw [unhide YE]; simp [byE, hok, h8]
                obtain rfl := unhide PY2 (by decide)
                have t1 : (4000 : Int) < (i : Int) * 5 := by omega
                clear hok PY1 PY2 YE S14 HM
                go_upto_region 29 with fail
                have x0 := (unhide XC).cell (k := 0) rfl
                have x1 := (unhide XC).cell (k := 1) rfl
                have x2 := (unhide XC).cell (k := 2) rfl
                have x3 := (unhide XC).cell (k := 3) rfl
                have x4 := (unhide XC).cell (k := 4) rfl
                have x5 := (unhide XC).cell (k := 5) rfl
                have x6 := (unhide XC).cell (k := 6) rfl
                have s0 := (unhide XS).cell (k := 0) rfl
                have s1 := (unhide XS).cell (k := 1) rfl
                have s2 := (unhide XS).cell (k := 2) rfl
                have s3 := (unhide XS).cell (k := 3) rfl
                have s4 := (unhide XS).cell (k := 4) rfl
                have lx := (unhide XC).1
                have ls := (unhide XS).1
                cases hcf : cfB ⟨f0, f1, f2, f3, f4, f5, f6⟩ with
                | false =>
                  have HCF := hide hcf
                  clear hcf
                  go_wp2_with (first
                    | (go_at_call 12; refine (rconf_any ⟨f0, f1, f2, f3, f4, f5, f6⟩ _).mono ?_; rw [unhide HCF]; rintro ev w20 ⟨rfl, b20⟩; replace XC := hide ((unhide XC).below b20); replace XS := hide ((unhide XS).below b20); replace G := hide ((unhide G).below b20); replace B := hide (below_of (unhide B) b20); clear b20; clear x0 x1 x2 x3 x4 x5 x6 s0 s1 s2 s3 s4 lx ls; have x0 := (unhide XC).cell (k := 0) rfl; have x1 := (unhide XC).cell (k := 1) rfl; have x2 := (unhide XC).cell (k := 2) rfl; have x3 := (unhide XC).cell (k := 3) rfl; have x4 := (unhide XC).cell (k := 4) rfl; have x5 := (unhide XC).cell (k := 5) rfl; have x6 := (unhide XC).cell (k := 6) rfl; have s0 := (unhide XS).cell (k := 0) rfl; have s1 := (unhide XS).cell (k := 1) rfl; have s2 := (unhide XS).cell (k := 2) rfl; have s3 := (unhide XS).cell (k := 3) rfl; have s4 := (unhide XS).cell (k := 4) rfl; have lx := (unhide XC).1; have ls := (unhide XS).1)
                    | (go_at_call 17; refine (check_any ⟨f0, f1, f2, f3, f4, f5, f6⟩ ⟨kd, nd, tp, vl, ms⟩ e _ (unhide G)).mono ?_; rw [show chkE ⟨f0, f1, f2, f3, f4, f5, f6⟩ ⟨kd, nd, tp, vl, ms⟩ = 13 by simp [chkE, unhide HCF]]; rintro ev w21 ⟨rfl, b21⟩; replace XC := hide ((unhide XC).below b21); replace XS := hide ((unhide XS).below b21); replace G := hide ((unhide G).below b21); replace B := hide (below_of (unhide B) b21); clear b21)
                    | (go_at_call 18; refine (wakes_any e _ (unhide G)).mono ?_; rintro ev w22 ⟨rfl, b22⟩; replace B := hide (below_of (unhide B) b22); clear b22))
                  go_ret
                  exact ⟨rfl, unhide B⟩
                | true =>
                  have HCF := hide hcf
                  clear hcf
                  go_upto_region 31 with (go_at_call 12; refine (rconf_any ⟨f0, f1, f2, f3, f4, f5, f6⟩ _).mono ?_; rw [unhide HCF]; rintro ev w20 ⟨rfl, b20⟩; replace XC := hide ((unhide XC).below b20); replace XS := hide ((unhide XS).below b20); replace G := hide ((unhide G).below b20); replace B := hide (below_of (unhide B) b20); clear b20)
                  clear x0 x1 x2 x3 x4 x5 x6 s0 s1 s2 s3 s4 lx ls
                  obtain ⟨z, hz⟩ : ∃ z, z = stE ⟨f0, f1, f2, f3, f4, f5, f6⟩ ⟨kd, nd, tp, vl, ms⟩ := ⟨_, rfl⟩
                  have HZ := hide hz
                  clear hz
                  have xc := (unhide XC).drew
                  have xs := (unhide XS).drew
                  replace G := hide ((unhide G).below (below_drewN (Below.refl _ _) 1))
                  replace B := hide (below_of (unhide B) (below_drewN (Below.refl _ _) 1))
                  refine wa_start (fun w' => Has w' w.heap.size (.cells #[.int .i64 f0, .int .i64 f1, .int .i64 f2, .int .i64 f3, .int .i64 f4, .int .i64 f5, .int .i64 f6] 23) ∧ Has w' (w.heap.size + 1) (.cells #[.int .i64 kd, .int .i64 nd, .int .i64 tp, .int .i64 vl, .int .i64 ms] 27)) ⟨xc, xs⟩ ?_
                  refine wa_take (v := (.agg #[.int .i64 f0, .int .i64 f1, .int .i64 f2, .int .i64 f3, .int .i64 f4, .int .i64 f5, .int .i64 f6])) 0 rfl (by kernel_rfl) (by kernel_rfl) (by kernel_rfl) (fun _ _ _ h => h) (by kernel_rfl) (fun w hSw => ?_) ⟨xc, xs⟩ ?_
                  · exact run_row rfl rfl hSw.1 Tryd.underlying23 info23
                  try simp only [Act.put, List.setIfInBounds_toArray, List.set_cons_zero, List.set_cons_succ]
                  refine wa_take (v := (.agg #[.int .i64 kd, .int .i64 nd, .int .i64 tp, .int .i64 vl, .int .i64 ms])) 1 rfl (by kernel_rfl) (by kernel_rfl) (by kernel_rfl) (fun _ _ _ h => h) (by kernel_rfl) (fun w hSw => ?_) ⟨xc, xs⟩ ?_
                  · exact run_row rfl rfl hSw.2 Tryd.underlying27 info27
                  try simp only [Act.put, List.setIfInBounds_toArray, List.set_cons_zero, List.set_cons_succ]
                  refine wa_take (v := (.agg #[.int .i64 f0, .int .i64 f1, .int .i64 f2, .int .i64 f3, .int .i64 f4, .int .i64 f5, .int .i64 f6])) 3 rfl (by kernel_rfl) (by kernel_rfl) (by kernel_rfl) (fun _ _ _ h => h) (by kernel_rfl) (fun w hSw => ?_) ⟨xc, xs⟩ ?_
                  · exact run_row rfl rfl hSw.1 Tryd.underlying23 info23
                  try simp only [Act.put, List.setIfInBounds_toArray, List.set_cons_zero, List.set_cons_succ]
                  refine wa_take (v := (.agg #[.int .i64 kd, .int .i64 nd, .int .i64 tp, .int .i64 vl, .int .i64 ms])) 4 rfl (by kernel_rfl) (by kernel_rfl) (by kernel_rfl) (fun _ _ _ h => h) (by kernel_rfl) (fun w hSw => ?_) ⟨xc, xs⟩ ?_
                  · exact run_row rfl rfl hSw.2 Tryd.underlying27 info27
                  try simp only [Act.put, List.setIfInBounds_toArray, List.set_cons_zero, List.set_cons_succ]
                  refine wa_one 2 (by kernel_rfl) rfl (by kernel_rfl) (fun Kc hK => ?_)
                  go_simp
                  go_at_call 17
                  refine (check_any ⟨f0, f1, f2, f3, f4, f5, f6⟩ ⟨kd, nd, tp, vl, ms⟩ e _ (unhide G)).mono ?_
                  rw [show chkE ⟨f0, f1, f2, f3, f4, f5, f6⟩ ⟨kd, nd, tp, vl, ms⟩ = z by rw [unhide HZ]; simp [chkE, unhide HCF]]
                  rintro ev w' ⟨rfl, b⟩
                  replace xc := xc.below b
                  replace xs := xs.below b
                  replace G := hide ((unhide G).below b)
                  replace B := hide (below_of (unhide B) b)
                  clear b
                  refine hK.out _ _ ⟨xc, xs⟩ ?_
                  clear hK Kc
                  try simp only [Act.put, List.setIfInBounds_toArray, List.set_cons_zero, List.set_cons_succ]
                  refine wa_one 5 (by kernel_rfl) rfl (by kernel_rfl) (fun Kc hK => ?_)
                  go_simp
                  go_at_call 19
                  refine (rstep_any ⟨f0, f1, f2, f3, f4, f5, f6⟩ ⟨kd, nd, tp, vl, ms⟩ _ (unhide HCF)).mono ?_
                  rw [← unhide HZ]
                  rintro ev w' ⟨rfl, b⟩
                  replace xc := xc.below b
                  replace xs := xs.below b
                  replace G := hide ((unhide G).below b)
                  replace B := hide (below_of (unhide B) b)
                  clear b
                  refine hK.out _ _ ⟨xc, xs⟩ ?_
                  clear hK Kc
                  try simp only [Act.put, List.setIfInBounds_toArray, List.set_cons_zero, List.set_cons_succ]
                  refine wa_take (v := (.bool true)) 6 rfl (by kernel_rfl) (by kernel_rfl) (by kernel_rfl) (fun _ _ _ h => h) (by kernel_rfl) (fun w hSw => ?_) ⟨xc, xs⟩ ?_
                  · try dsimp only at hSw
                    go_simp
                  try simp only [Act.put, List.setIfInBounds_toArray, List.set_cons_zero, List.set_cons_succ]
                  refine wa_take (v := (.bool true)) 7 rfl (by kernel_rfl) (by kernel_rfl) (by kernel_rfl) (fun _ _ _ h => h) (by kernel_rfl) (fun w hSw => ?_) ⟨xc, xs⟩ ?_
                  · try dsimp only at hSw
                    go_simp
                  try simp only [Act.put, List.setIfInBounds_toArray, List.set_cons_zero, List.set_cons_succ]
                  refine wa_one 8 (by kernel_rfl) rfl (by kernel_rfl) (fun Kc hK => ?_)
                  go_simp
                  go_at_call 18
                  refine (wakes_any e _ (unhide G)).mono ?_
                  rintro ev w' ⟨rfl, b⟩
                  replace xc := xc.below b
                  replace xs := xs.below b
                  replace B := hide (below_of (unhide B) b)
                  clear b
                  refine hK.out _ _ ⟨xc, xs⟩ ?_
                  clear hK Kc
                  try simp only [Act.put, List.setIfInBounds_toArray, List.set_cons_zero, List.set_cons_succ]
                  refine wa_take (v := (.bool true)) 9 rfl (by kernel_rfl) (by kernel_rfl) (by kernel_rfl) (fun _ _ _ h => h) (by kernel_rfl) (fun w hSw => ?_) ⟨xc, xs⟩ ?_
                  · try dsimp only at hSw
                    go_simp
                  try simp only [Act.put, List.setIfInBounds_toArray, List.set_cons_zero, List.set_cons_succ]
                  refine wa_take (v := (.bool true)) 10 rfl (by kernel_rfl) (by kernel_rfl) (by kernel_rfl) (fun _ _ _ h => h) (by kernel_rfl) (fun w hSw => ?_) ⟨xc, xs⟩ ?_
                  · try dsimp only at hSw
                    go_simp
                  try simp only [Act.put, List.setIfInBounds_toArray, List.set_cons_zero, List.set_cons_succ]
                  clear xc xs
                  refine wa_done (by kernel_rfl) ?_
                  go_wp2
                  go_ret
                  exact ⟨rfl, unhide B⟩
              · obtain rfl : ye = 0 := by rw [unhide YE]; simp [byE, hok, h8]
                obtain ⟨rfl, sy⟩ := unhide PY1 rfl
                have SY := hide sy
                have S15 := hide ((unhide S14).congr fun j hj => lowB_ok hok j hj)
                have t1 : ¬ ((4000 : Int) < (i : Int) * 5) := by omega
                clear hok PY1 PY2 YE S14 HM sy
                go_upto_region 29 with (go_at_call 13; refine (bytes_same F2 _ _ (i * 5) _ (unhide SY) (unhide S15)).mono ?_; rintro ev w19 ⟨rfl, b19⟩; replace XC := hide ((unhide XC).below b19); replace XS := hide ((unhide XS).below b19); replace G := hide ((unhide G).below b19); replace B := hide (below_of (unhide B) b19); clear b19 SY S15)
                have x0 := (unhide XC).cell (k := 0) rfl
                have x1 := (unhide XC).cell (k := 1) rfl
                have x2 := (unhide XC).cell (k := 2) rfl
                have x3 := (unhide XC).cell (k := 3) rfl
                have x4 := (unhide XC).cell (k := 4) rfl
                have x5 := (unhide XC).cell (k := 5) rfl
                have x6 := (unhide XC).cell (k := 6) rfl
                have s0 := (unhide XS).cell (k := 0) rfl
                have s1 := (unhide XS).cell (k := 1) rfl
                have s2 := (unhide XS).cell (k := 2) rfl
                have s3 := (unhide XS).cell (k := 3) rfl
                have s4 := (unhide XS).cell (k := 4) rfl
                have lx := (unhide XC).1
                have ls := (unhide XS).1
                cases hcf : cfB ⟨f0, f1, f2, f3, f4, f5, f6⟩ with
                | false =>
                  have HCF := hide hcf
                  clear hcf
                  go_wp2_with (first
                    | (go_at_call 12; refine (rconf_any ⟨f0, f1, f2, f3, f4, f5, f6⟩ _).mono ?_; rw [unhide HCF]; rintro ev w20 ⟨rfl, b20⟩; replace XC := hide ((unhide XC).below b20); replace XS := hide ((unhide XS).below b20); replace G := hide ((unhide G).below b20); replace B := hide (below_of (unhide B) b20); clear b20; clear x0 x1 x2 x3 x4 x5 x6 s0 s1 s2 s3 s4 lx ls; have x0 := (unhide XC).cell (k := 0) rfl; have x1 := (unhide XC).cell (k := 1) rfl; have x2 := (unhide XC).cell (k := 2) rfl; have x3 := (unhide XC).cell (k := 3) rfl; have x4 := (unhide XC).cell (k := 4) rfl; have x5 := (unhide XC).cell (k := 5) rfl; have x6 := (unhide XC).cell (k := 6) rfl; have s0 := (unhide XS).cell (k := 0) rfl; have s1 := (unhide XS).cell (k := 1) rfl; have s2 := (unhide XS).cell (k := 2) rfl; have s3 := (unhide XS).cell (k := 3) rfl; have s4 := (unhide XS).cell (k := 4) rfl; have lx := (unhide XC).1; have ls := (unhide XS).1)
                    | (go_at_call 17; refine (check_any ⟨f0, f1, f2, f3, f4, f5, f6⟩ ⟨kd, nd, tp, vl, ms⟩ e _ (unhide G)).mono ?_; rw [show chkE ⟨f0, f1, f2, f3, f4, f5, f6⟩ ⟨kd, nd, tp, vl, ms⟩ = 13 by simp [chkE, unhide HCF]]; rintro ev w21 ⟨rfl, b21⟩; replace XC := hide ((unhide XC).below b21); replace XS := hide ((unhide XS).below b21); replace G := hide ((unhide G).below b21); replace B := hide (below_of (unhide B) b21); clear b21)
                    | (go_at_call 18; refine (wakes_any e _ (unhide G)).mono ?_; rintro ev w22 ⟨rfl, b22⟩; replace B := hide (below_of (unhide B) b22); clear b22))
                  go_ret
                  exact ⟨rfl, unhide B⟩
                | true =>
                  have HCF := hide hcf
                  clear hcf
                  go_upto_region 31 with (go_at_call 12; refine (rconf_any ⟨f0, f1, f2, f3, f4, f5, f6⟩ _).mono ?_; rw [unhide HCF]; rintro ev w20 ⟨rfl, b20⟩; replace XC := hide ((unhide XC).below b20); replace XS := hide ((unhide XS).below b20); replace G := hide ((unhide G).below b20); replace B := hide (below_of (unhide B) b20); clear b20)
                  clear x0 x1 x2 x3 x4 x5 x6 s0 s1 s2 s3 s4 lx ls
                  obtain ⟨z, hz⟩ : ∃ z, z = stE ⟨f0, f1, f2, f3, f4, f5, f6⟩ ⟨kd, nd, tp, vl, ms⟩ := ⟨_, rfl⟩
                  have HZ := hide hz
                  clear hz
                  have xc := (unhide XC).drew
                  have xs := (unhide XS).drew
                  replace G := hide ((unhide G).below (below_drewN (Below.refl _ _) 1))
                  replace B := hide (below_of (unhide B) (below_drewN (Below.refl _ _) 1))
                  refine wa_start (fun w' => Has w' w.heap.size (.cells #[.int .i64 f0, .int .i64 f1, .int .i64 f2, .int .i64 f3, .int .i64 f4, .int .i64 f5, .int .i64 f6] 23) ∧ Has w' (w.heap.size + 1) (.cells #[.int .i64 kd, .int .i64 nd, .int .i64 tp, .int .i64 vl, .int .i64 ms] 27)) ⟨xc, xs⟩ ?_
                  refine wa_take (v := (.agg #[.int .i64 f0, .int .i64 f1, .int .i64 f2, .int .i64 f3, .int .i64 f4, .int .i64 f5, .int .i64 f6])) 0 rfl (by kernel_rfl) (by kernel_rfl) (by kernel_rfl) (fun _ _ _ h => h) (by kernel_rfl) (fun w hSw => ?_) ⟨xc, xs⟩ ?_
                  · exact run_row rfl rfl hSw.1 Tryd.underlying23 info23
                  try simp only [Act.put, List.setIfInBounds_toArray, List.set_cons_zero, List.set_cons_succ]
                  refine wa_take (v := (.agg #[.int .i64 kd, .int .i64 nd, .int .i64 tp, .int .i64 vl, .int .i64 ms])) 1 rfl (by kernel_rfl) (by kernel_rfl) (by kernel_rfl) (fun _ _ _ h => h) (by kernel_rfl) (fun w hSw => ?_) ⟨xc, xs⟩ ?_
                  · exact run_row rfl rfl hSw.2 Tryd.underlying27 info27
                  try simp only [Act.put, List.setIfInBounds_toArray, List.set_cons_zero, List.set_cons_succ]
                  refine wa_take (v := (.agg #[.int .i64 f0, .int .i64 f1, .int .i64 f2, .int .i64 f3, .int .i64 f4, .int .i64 f5, .int .i64 f6])) 3 rfl (by kernel_rfl) (by kernel_rfl) (by kernel_rfl) (fun _ _ _ h => h) (by kernel_rfl) (fun w hSw => ?_) ⟨xc, xs⟩ ?_
                  · exact run_row rfl rfl hSw.1 Tryd.underlying23 info23
                  try simp only [Act.put, List.setIfInBounds_toArray, List.set_cons_zero, List.set_cons_succ]
                  refine wa_take (v := (.agg #[.int .i64 kd, .int .i64 nd, .int .i64 tp, .int .i64 vl, .int .i64 ms])) 4 rfl (by kernel_rfl) (by kernel_rfl) (by kernel_rfl) (fun _ _ _ h => h) (by kernel_rfl) (fun w hSw => ?_) ⟨xc, xs⟩ ?_
                  · exact run_row rfl rfl hSw.2 Tryd.underlying27 info27
                  try simp only [Act.put, List.setIfInBounds_toArray, List.set_cons_zero, List.set_cons_succ]
                  refine wa_one 2 (by kernel_rfl) rfl (by kernel_rfl) (fun Kc hK => ?_)
                  go_simp
                  go_at_call 17
                  refine (check_any ⟨f0, f1, f2, f3, f4, f5, f6⟩ ⟨kd, nd, tp, vl, ms⟩ e _ (unhide G)).mono ?_
                  rw [show chkE ⟨f0, f1, f2, f3, f4, f5, f6⟩ ⟨kd, nd, tp, vl, ms⟩ = z by rw [unhide HZ]; simp [chkE, unhide HCF]]
                  rintro ev w' ⟨rfl, b⟩
                  replace xc := xc.below b
                  replace xs := xs.below b
                  replace G := hide ((unhide G).below b)
                  replace B := hide (below_of (unhide B) b)
                  clear b
                  refine hK.out _ _ ⟨xc, xs⟩ ?_
                  clear hK Kc
                  try simp only [Act.put, List.setIfInBounds_toArray, List.set_cons_zero, List.set_cons_succ]
                  refine wa_one 5 (by kernel_rfl) rfl (by kernel_rfl) (fun Kc hK => ?_)
                  go_simp
                  go_at_call 19
                  refine (rstep_any ⟨f0, f1, f2, f3, f4, f5, f6⟩ ⟨kd, nd, tp, vl, ms⟩ _ (unhide HCF)).mono ?_
                  rw [← unhide HZ]
                  rintro ev w' ⟨rfl, b⟩
                  replace xc := xc.below b
                  replace xs := xs.below b
                  replace G := hide ((unhide G).below b)
                  replace B := hide (below_of (unhide B) b)
                  clear b
                  refine hK.out _ _ ⟨xc, xs⟩ ?_
                  clear hK Kc
                  try simp only [Act.put, List.setIfInBounds_toArray, List.set_cons_zero, List.set_cons_succ]
                  refine wa_take (v := (.bool true)) 6 rfl (by kernel_rfl) (by kernel_rfl) (by kernel_rfl) (fun _ _ _ h => h) (by kernel_rfl) (fun w hSw => ?_) ⟨xc, xs⟩ ?_
                  · try dsimp only at hSw
                    go_simp
                  try simp only [Act.put, List.setIfInBounds_toArray, List.set_cons_zero, List.set_cons_succ]
                  refine wa_take (v := (.bool true)) 7 rfl (by kernel_rfl) (by kernel_rfl) (by kernel_rfl) (fun _ _ _ h => h) (by kernel_rfl) (fun w hSw => ?_) ⟨xc, xs⟩ ?_
                  · try dsimp only at hSw
                    go_simp
                  try simp only [Act.put, List.setIfInBounds_toArray, List.set_cons_zero, List.set_cons_succ]
                  refine wa_one 8 (by kernel_rfl) rfl (by kernel_rfl) (fun Kc hK => ?_)
                  go_simp
                  go_at_call 18
                  refine (wakes_any e _ (unhide G)).mono ?_
                  rintro ev w' ⟨rfl, b⟩
                  replace xc := xc.below b
                  replace xs := xs.below b
                  replace B := hide (below_of (unhide B) b)
                  clear b
                  refine hK.out _ _ ⟨xc, xs⟩ ?_
                  clear hK Kc
                  try simp only [Act.put, List.setIfInBounds_toArray, List.set_cons_zero, List.set_cons_succ]
                  refine wa_take (v := (.bool true)) 9 rfl (by kernel_rfl) (by kernel_rfl) (by kernel_rfl) (fun _ _ _ h => h) (by kernel_rfl) (fun w hSw => ?_) ⟨xc, xs⟩ ?_
                  · try dsimp only at hSw
                    go_simp
                  try simp only [Act.put, List.setIfInBounds_toArray, List.set_cons_zero, List.set_cons_succ]
                  refine wa_take (v := (.bool true)) 10 rfl (by kernel_rfl) (by kernel_rfl) (by kernel_rfl) (fun _ _ _ h => h) (by kernel_rfl) (fun w hSw => ?_) ⟨xc, xs⟩ ?_
                  · try dsimp only at hSw
                    go_simp
                  try simp only [Act.put, List.setIfInBounds_toArray, List.set_cons_zero, List.set_cons_succ]
                  clear xc xs
                  refine wa_done (by kernel_rfl) ?_
                  go_wp2
                  go_ret
                  exact ⟨rfl, unhide B⟩

end Go.Proofs.YtfhglganaebpoaaDoor
