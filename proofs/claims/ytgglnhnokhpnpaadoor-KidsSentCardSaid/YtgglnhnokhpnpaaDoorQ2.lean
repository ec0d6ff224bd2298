/- Walk of bellwetherlaw13.KidsSent. -/
import Derived.Test.YtgglnhnokhpnpaaDoorQ0
import Derived.Deep.RegionHeld3
namespace Go.Proofs.YtgglnhnokhpnpaaDoor
open Go.RowKit

theorem sent_ask1 {t s x : Int} (ht : IsT t) (hs : IsN s) (hx : nb t s x = true) (w : World) (hG : Glob w) :
    Calls Tryd.prog 10 #[.int .i64 t, .int .i64 s, .int .i64 1, .slice none 0 0, .int .i64 x, .int .i64 3] w fun e w' => ∃ q c, e = .returned (.tuple #[.slice q 1 c, .int .i64 0, .int .i64 0, .int .i64 0]) ∧ KL w' (.slice q 1 c) [(x, 3, 0)] ∧ Below w.heap.size w w' := by
  have h := ask_k t s 1 [] x 3 _ w hG (KL.nil w) (rk_nil ht hs (by omega) (by omega)) (may_yes hx (by omega) (by omega))
  obtain ⟨e1, e2, e3⟩ := ask_first (t := t) (lim := 1) (n := x) (inc := 3) (by omega)
  rw [e1, e2, e3] at h
  refine h.mono ?_
  rintro e w' ⟨v', rfl, ho, hb⟩
  obtain ⟨q, c, rfl⟩ := kl_form ho.kl
  exact ⟨q, c, rfl, ho.kl, hb⟩
theorem sent_ask2 {t s x y : Int} (ht : IsT t) (hs : IsN s) (hN : IsN x) (hg : gp t s < gp t x) (hy : nb t s y = true) (hne : x ≠ y) (b : Bool) (hb : nb t x y = b) (q : Option Addr) (c : Nat) (w : World) (hG : Glob w) (hk : KL w (.slice q 1 c) [(x, 3, 0)]) :
    Calls Tryd.prog 10 #[.int .i64 t, .int .i64 s, .int .i64 1, .slice q 1 c, .int .i64 y, .int .i64 4] w fun e w' => ∃ q c, e = .returned (.tuple #[.slice q 1 c, .int .i64 (if b then y + 1 else x + 1), .int .i64 (if b then x + 1 else y + 1), .int .i64 0]) ∧ KL w' (.slice q 1 c) [if b then (x, 3, 0) else (y, 4, 0)] ∧ Below w.heap.size w w' := by
  have h := ask_k t s 1 [(x, 3, 0)] y 4 _ w hG hk (rk_gd.2 ⟨ht, hs, by omega, by omega, by simp, gd_one hN hg (by omega) (by omega)⟩) (may_yes hy (by omega) (by omega))
  cases b with
  | true =>
    obtain ⟨e1, e2, e3⟩ := ask_far (i := 3) (a := 0) (inc := 4) hne hb
    rw [e1, e2, e3] at h
    refine h.mono ?_
    rintro e w' ⟨v', rfl, ho, hb⟩
    obtain ⟨q, c, rfl⟩ := kl_form ho.kl
    exact ⟨q, c, rfl, ho.kl, hb⟩
  | false =>
    obtain ⟨e1, e2, e3⟩ := ask_near1 (i := 3) (a := 0) (inc := 4) hne hb
    rw [e1, e2, e3] at h
    refine h.mono ?_
    rintro e w' ⟨v', rfl, ho, hb⟩
    obtain ⟨q, c, rfl⟩ := kl_form ho.kl
    exact ⟨q, c, rfl, ho.kl, hb⟩
set_option maxHeartbeats 4000000 in
set_option maxRecDepth 2000000 in
theorem sent_walk (t s n m : Int) (w : World) (hG : Glob w) :
    Calls Tryd.prog 8 #[.int .i64 t, .int .i64 s, .int .i64 n, .int .i64 m] w fun e w' => e = .returned (.bool true) ∧ Below w.heap.size w w' := by
  obtain ⟨T, hT, kT⟩ : ∃ T, wrap64 ((IntKind.u64.wrap t).tmod 4) = T ∧ IsT T := ⟨_, mod4 t, mod4_topic t⟩
  obtain ⟨S, hS, kS⟩ : ∃ S, wrap64 ((IntKind.u64.wrap s).tmod 8) = S ∧ IsN S := ⟨_, mod8 s, mod8_node s⟩
  have HG := hide (show ∀ W, Below w.heap.size w W → Glob W from fun W hb => hG.below hb hG.size)
  have hF := far_of kT kS
  obtain ⟨f, hf⟩ : ∃ f, (farK T S 8).length = f := ⟨_, rfl⟩
  have c23 := hide (far_call kT kS hf w hG)
  have c19 := hide (show ∀ W, Below w.heap.size w W → Calls Tryd.prog 19 #[] W fun e w' => e = .returned (.bool true) ∧ Below w.heap.size w w' from fun W hb => (wakes_any W (unhide HG W hb)).mono fun e w' (r : e = .returned (.bool true) ∧ Below W.heap.size W w') => And.intro r.1 (hb.trans (r.2.mono hb.size)))
  clear hG
  obtain ⟨F, hFF⟩ : ∃ F, farK T S 8 = F := ⟨_, rfl⟩
  rw [hFF] at c23 hf hF
  clear hFF
  have hf7 : f ≤ 7 := by have := hF.len; omega
  go_enter Tryd.func8, Tryd.ntmps8
  go_upto_region 2 with fail
  rw [hT, hS]
  clear hT hS
  by_cases h2 : f < 2
  · have b1 : decide (f < 2) = true := decide_eq_true h2
    clear hF hf
    go_wp2_with (first
      | (go_at_call 23; (with_reducible refine (unhide c23).mono ?_); rintro e w1 ⟨q, c, rfl, i1, b1⟩; have B1 := hide b1; clear i1 b1)
      | (go_at_call 19; refine (unhide c19 _ (unhide B1)).mono ?_; rintro e w2 ⟨rfl, b2⟩; have B2 := hide b2; clear b2))
    go_ret
    exact ⟨rfl, unhide B2⟩
  · obtain ⟨I, hI, hI2⟩ := modN n f (by omega) (by omega)
    obtain ⟨K, hK, hK2⟩ := modN m f (by omega) (by omega)
    have b1 : decide (f < 2) = false := decide_eq_false h2
    have hnz : ((f : Int) == 0) = false := beq_false_of_ne (by omega)
    have hw := wrapN (n := f) (by omega)
    have HF := hide hF
    have HFL := hide hf
    clear hF hf
    go_upto_region 7 with (go_at_call 23; (with_reducible refine (unhide c23).mono ?_); rintro e w1 ⟨q, c, rfl, i1, b1⟩; have B1 := hide b1; have I1 := hide i1; clear i1 b1)
    rw [hI, hK]
    clear hI hK hw hnz b1
    by_cases hik : I = K
    · subst hik
      go_wp2_with (go_at_call 19; refine (unhide c19 _ (unhide B1)).mono ?_; rintro e w2 ⟨rfl, b2⟩; have B2 := hide b2; clear b2)
      go_ret
      exact ⟨rfl, unhide B2⟩
    · have b2 : ((I : Int) == (K : Int)) = false := beq_false_of_ne (by omega)
      have b3 : decide (I = K) = false := decide_eq_false hik
      have hf := unhide HFL
      obtain ⟨x1, x2, x3⟩ := (unhide HF).one I (by omega)
      obtain ⟨y1, y2, y3⟩ := (unhide HF).one K (by omega)
      have hne := (unhide HF).apart (i := I) (k := K) (by omega) (by omega) hik
      have c10a := hide (fun W (hb : Below w.heap.size w W) => sent_ask1 kT kS x3 W (unhide HG W hb))
      have hIi : (I : Int) < (f : Int) := by omega
      have hKi : (K : Int) < (f : Int) := by omega
      obtain ⟨bf, of, rfl, hfc, hc, f3, f4⟩ := il_cell (k := I) (unhide I1) hI2 (by omega)
      obtain ⟨bf', of', g0, -, -, -, f5⟩ := il_cell (k := K) (unhide I1) hK2 (by omega)
      cases g0
      by_cases hKI : K < I
      · have b4 : decide (K < I) = true := decide_eq_true hKI
        have hnb : nb T (zF F I) (zF F K) = false := by
          cases q : nb T (zF F I) (zF F K) with
          | false => rfl
          | true =>
            have h1 := (nb_iff kT x1 y1).1 q
            have h2 := (unhide HF).up K I hKI (by omega)
            omega
        have c10b := hide (fun q c W (hb : Below w.heap.size w W) => sent_ask2 kT kS x1 x2 y3 hne false hnb q c W (unhide HG W hb))
        simp only [Bool.false_eq_true, if_false] at c10b
        have X0 := x1.1
        have X1 := x1.2
        have Y0 := y1.1
        have Y1 := y1.2
        clear x1 x2 x3 y1 y2 y3 hnb hf hne hik kT kS
        generalize zF F I = x at *
        generalize zF F K = y at *
        have hx1 : IntKind.i64.wrap (x + 1) = x + 1 := by rw [IntWalk.i64_left, IntWalk.wrap64_in _ (by omega)]
        have hy1 : IntKind.i64.wrap (y + 1) = y + 1 := by rw [IntWalk.i64_left, IntWalk.wrap64_in _ (by omega)]
        have m1 := trivial
        go_upto_region 14 with (first
          | (clear m1; go_at_call 10; refine (unhide c10a _ (unhide B1)).mono ?_; rintro e w2 ⟨q2, k2, rfl, i2, b2⟩; have I2 := hide i2; have B2 := hide ((unhide B1).trans (b2.mono (unhide B1).size)); have f14 := (b2.cell (p := ⟨bf, of + I, none⟩) f3).trans f4; have f15 := (b2.cell (p := ⟨bf, of + K, none⟩) f3).trans f5; have s2 := Nat.lt_of_lt_of_le f3 b2.size; clear i2 b2)
          | (go_at_call 10; refine (unhide c10b _ _ _ (unhide B2) (unhide I2)).mono ?_; rintro e w3 ⟨q3, k3, rfl, i3, b3⟩; have B3 := hide ((unhide B2).trans (b3.mono (unhide B2).size)); have f24 := (b3.cell (p := ⟨bf, of + I, none⟩) s2).trans f14; have f25 := (b3.cell (p := ⟨bf, of + K, none⟩) s2).trans f15; have s3 := Nat.lt_of_lt_of_le s2 b3.size; obtain ⟨bm, om, rfl, h1, h2, h3, h4, h5, h6⟩ := kl_cell (k := 0) i3 (by omega) (by simp); rw [Nat.zero_mul, Nat.add_zero] at h4 h5 h6; simp only [kz, List.getD_cons_zero] at h4 h5 h6; clear i3 b3))
        clear f4 f5 f14 f15
        have c19b := hide (show ∀ W, Below w3.heap.size w3 W → Calls Tryd.prog 19 #[] W fun e w' => e = .returned (.bool true) ∧ Below w3.heap.size w3 w' from fun W hb => (wakes_any W (unhide HG W ((unhide B3).trans (hb.mono (unhide B3).size)))).mono fun e w' (r : e = .returned (.bool true) ∧ Below W.heap.size W w') => And.intro r.1 (hb.trans (r.2.mono hb.size)))
        have SX := hide (show ∀ W, Below w3.heap.size w3 W → Below w3.heap.size w3 W ∧ W.cell? ⟨bf, of + I, none⟩ = some (.int .i64 x) ∧ W.cell? ⟨bf, of + K, none⟩ = some (.int .i64 y) ∧ W.cell? ⟨bm, om, none⟩ = some (.int .i64 y) ∧ W.cell? ⟨bm, om + 1, none⟩ = some (.int .i64 4) ∧ W.cell? ⟨bm, om + 2, none⟩ = some (.int .i64 0) from fun W hb => ⟨hb, (hb.cell (p := ⟨bf, of + I, none⟩) s3).trans f24, (hb.cell (p := ⟨bf, of + K, none⟩) s3).trans f25, (hb.cell (p := ⟨bm, om, none⟩) h3).trans h4, (hb.cell (p := ⟨bm, om + 1, none⟩) h3).trans h5, (hb.cell (p := ⟨bm, om + 2, none⟩) h3).trans h6⟩)
        have b5 := Below.refl w3.heap.size w3
        go_region_held3 (fun w' => Below w3.heap.size w3 w' ∧ w'.cell? ⟨bf, of + I, none⟩ = some (.int .i64 x) ∧ w'.cell? ⟨bf, of + K, none⟩ = some (.int .i64 y) ∧ w'.cell? ⟨bm, om, none⟩ = some (.int .i64 y) ∧ w'.cell? ⟨bm, om + 1, none⟩ = some (.int .i64 4) ∧ w'.cell? ⟨bm, om + 2, none⟩ = some (.int .i64 0))
          (first
            | assumption
            | exact unhide SX _ (by assumption)
            | exact unhide SX _ (below_drewN (by assumption) _)
            | exact unhide SX _ (below_drewN (by assumption) 1))
          (first
            | (go_at_call 19; with_reducible refine (unhide c19b _ (by first | assumption | exact And.left (by assumption) | exact below_drewN (by assumption) _ | exact below_drewN (by assumption) 1 | exact below_drewN (And.left (by assumption)) 1)).mono ?_; rintro e w6 ⟨rfl, b6⟩))
        all_goals go_wp2
        all_goals go_ret
        all_goals exact ⟨rfl, (unhide B3).trans (b6.mono (unhide B3).size)⟩
      · have b4 : decide (K < I) = false := decide_eq_false hKI
        have hnb : nb T (zF F I) (zF F K) = true := (nb_iff kT x1 y1).2 ((unhide HF).up I K (by omega) (by omega))
        have c10b := hide (fun q c W (hb : Below w.heap.size w W) => sent_ask2 kT kS x1 x2 y3 hne true hnb q c W (unhide HG W hb))
        simp only [if_true] at c10b
        have X0 := x1.1
        have X1 := x1.2
        have Y0 := y1.1
        have Y1 := y1.2
        clear x1 x2 x3 y1 y2 y3 hnb hf hne hik kT kS
        generalize zF F I = x at *
        generalize zF F K = y at *
        have hx1 : IntKind.i64.wrap (x + 1) = x + 1 := by rw [IntWalk.i64_left, IntWalk.wrap64_in _ (by omega)]
        have hy1 : IntKind.i64.wrap (y + 1) = y + 1 := by rw [IntWalk.i64_left, IntWalk.wrap64_in _ (by omega)]
        have m1 := trivial
        go_upto_region 15 with (first
          | (clear m1; go_at_call 10; refine (unhide c10a _ (unhide B1)).mono ?_; rintro e w2 ⟨q2, k2, rfl, i2, b2⟩; have I2 := hide i2; have B2 := hide ((unhide B1).trans (b2.mono (unhide B1).size)); have f14 := (b2.cell (p := ⟨bf, of + I, none⟩) f3).trans f4; have f15 := (b2.cell (p := ⟨bf, of + K, none⟩) f3).trans f5; have s2 := Nat.lt_of_lt_of_le f3 b2.size; clear i2 b2)
          | (go_at_call 10; refine (unhide c10b _ _ _ (unhide B2) (unhide I2)).mono ?_; rintro e w3 ⟨q3, k3, rfl, i3, b3⟩; have B3 := hide ((unhide B2).trans (b3.mono (unhide B2).size)); have f24 := (b3.cell (p := ⟨bf, of + I, none⟩) s2).trans f14; have f25 := (b3.cell (p := ⟨bf, of + K, none⟩) s2).trans f15; have s3 := Nat.lt_of_lt_of_le s2 b3.size; obtain ⟨bm, om, rfl, h1, h2, h3, h4, h5, h6⟩ := kl_cell (k := 0) i3 (by omega) (by simp); rw [Nat.zero_mul, Nat.add_zero] at h4 h5 h6; simp only [kz, List.getD_cons_zero] at h4 h5 h6; clear i3 b3))
        clear f4 f5 f14 f15
        have c19b := hide (show ∀ W, Below w3.heap.size w3 W → Calls Tryd.prog 19 #[] W fun e w' => e = .returned (.bool true) ∧ Below w3.heap.size w3 w' from fun W hb => (wakes_any W (unhide HG W ((unhide B3).trans (hb.mono (unhide B3).size)))).mono fun e w' (r : e = .returned (.bool true) ∧ Below W.heap.size W w') => And.intro r.1 (hb.trans (r.2.mono hb.size)))
        have SX := hide (show ∀ W, Below w3.heap.size w3 W → Below w3.heap.size w3 W ∧ W.cell? ⟨bf, of + I, none⟩ = some (.int .i64 x) ∧ W.cell? ⟨bf, of + K, none⟩ = some (.int .i64 y) ∧ W.cell? ⟨bm, om, none⟩ = some (.int .i64 x) ∧ W.cell? ⟨bm, om + 1, none⟩ = some (.int .i64 3) ∧ W.cell? ⟨bm, om + 2, none⟩ = some (.int .i64 0) from fun W hb => ⟨hb, (hb.cell (p := ⟨bf, of + I, none⟩) s3).trans f24, (hb.cell (p := ⟨bf, of + K, none⟩) s3).trans f25, (hb.cell (p := ⟨bm, om, none⟩) h3).trans h4, (hb.cell (p := ⟨bm, om + 1, none⟩) h3).trans h5, (hb.cell (p := ⟨bm, om + 2, none⟩) h3).trans h6⟩)
        have b5 := Below.refl w3.heap.size w3
        go_region_held3 (fun w' => Below w3.heap.size w3 w' ∧ w'.cell? ⟨bf, of + I, none⟩ = some (.int .i64 x) ∧ w'.cell? ⟨bf, of + K, none⟩ = some (.int .i64 y) ∧ w'.cell? ⟨bm, om, none⟩ = some (.int .i64 x) ∧ w'.cell? ⟨bm, om + 1, none⟩ = some (.int .i64 3) ∧ w'.cell? ⟨bm, om + 2, none⟩ = some (.int .i64 0))
          (first
            | assumption
            | exact unhide SX _ (by assumption)
            | exact unhide SX _ (below_drewN (by assumption) _)
            | exact unhide SX _ (below_drewN (by assumption) 1))
          (first
            | (go_at_call 19; with_reducible refine (unhide c19b _ (by first | assumption | exact And.left (by assumption) | exact below_drewN (by assumption) _ | exact below_drewN (by assumption) 1 | exact below_drewN (And.left (by assumption)) 1)).mono ?_; rintro e w6 ⟨rfl, b6⟩))
        all_goals go_wp2
        all_goals go_ret
        all_goals exact ⟨rfl, (unhide B3).trans (b6.mono (unhide B3).size)⟩
end Go.Proofs.YtgglnhnokhpnpaaDoor
