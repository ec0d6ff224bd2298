/- Walk of kids.Ask. -/
import Derived.Test.YtgglnhnokhpnpaaDoorJ9
import Derived.Test.YtgglnhnokhpnpaaDoorJ5
import Derived.Test.YtgglnhnokhpnpaaDoorJ3
import Derived.Deep.RegionHeld3
namespace Go.Proofs.YtgglnhnokhpnpaaDoor
open Go.RowKit

theorem results_tmp4 {fn : Func} {t u v x : Tmp} (h : fn.results = #[.tmp t, .tmp u, .tmp v, .tmp x]) (tmps : Array Value) (P : Program) (w : World) :
    (results fn tmps).run P w = .ok (.tuple #[tmps.getD t undef, tmps.getD u undef, tmps.getD v undef, tmps.getD x undef]) w := by
  simp [results, h]
/-- May one ask? -/
def may (t s n inc : Int) : Bool := nb t s n && okI inc
set_option maxHeartbeats 1000000 in
set_option maxRecDepth 100000 in
theorem ask_no (t s lim : Int) (L : List Kd) (n inc : Int) (v : Value) (w : World) (hG : Glob w) (h : KL w v L) (hr : rk t s lim L = false) :
    Calls Tryd.prog 10 #[.int .i64 t, .int .i64 s, .int .i64 lim, v, .int .i64 n, .int .i64 inc] w fun e w' => e = .returned (.tuple #[.slice none 0 0, .int .i64 0, .int .i64 0, .int .i64 1]) ∧ Below w.heap.size w w' := by
  have C := check_k t s lim L v w hG h
  rw [chR_no hr] at C
  have C := hide C
  obtain ⟨q, c, rfl⟩ := kl_form h
  clear h hr
  go_enter Tryd.func10, Tryd.ntmps10
  go_wp2_with (go_at_call 18; (with_reducible refine (unhide C).mono ?_); rintro e w1 ⟨rfl, b1⟩; have B1 := hide b1; clear b1)
  (try simp only [Exit.inBlock, Exit.then]); refine bodyPost_ret (results_tmp4 rfl _ _ _) rfl ?_
  exact ⟨rfl, unhide B1⟩
set_option maxHeartbeats 1000000 in
set_option maxRecDepth 100000 in
theorem ask_may (t s lim : Int) (L : List Kd) (n inc : Int) (v : Value) (w : World) (hG : Glob w) (h : KL w v L) (hr : rk t s lim L = true) (hm : may t s n inc = false) :
    Calls Tryd.prog 10 #[.int .i64 t, .int .i64 s, .int .i64 lim, v, .int .i64 n, .int .i64 inc] w fun e w' => e = .returned (.tuple #[.slice none 0 0, .int .i64 0, .int .i64 0, .int .i64 1]) ∧ Below w.heap.size w w' := by
  have C := check_k t s lim L v w hG h
  rw [chR_ok hr] at C
  have C := hide C
  have CN := hide (fun w1 (b : Below w.heap.size w w1) => nearer_nb t s n w1 (hG.below b hG.size))
  have CI := hide (fun w1 => isInc_any inc w1)
  obtain ⟨q, c, rfl⟩ := kl_form h
  clear h hr
  cases hn : nb t s n with
  | false =>
    rw [hn] at CN
    clear hm hn
    go_enter Tryd.func10, Tryd.ntmps10
    go_wp2_with (first
      | (go_at_call 18; (with_reducible refine (unhide C).mono ?_); rintro e w1 ⟨rfl, b1⟩; have B1 := hide b1; clear b1)
      | (go_at_call 24; refine (unhide CN _ (unhide B1)).mono ?_; rintro e w1 ⟨rfl, rfl⟩))
    (try simp only [Exit.inBlock, Exit.then]); refine bodyPost_ret (results_tmp4 rfl _ _ _) rfl ?_
    exact ⟨rfl, unhide B1⟩
  | true =>
    rw [show okI inc = false by unfold may at hm; rw [hn] at hm; simpa using hm] at CI
    rw [hn] at CN
    clear hm hn
    go_enter Tryd.func10, Tryd.ntmps10
    go_wp2_with (first
      | (go_at_call 18; (with_reducible refine (unhide C).mono ?_); rintro e w1 ⟨rfl, b1⟩; have B1 := hide b1; clear b1)
      | (go_at_call 24; refine (unhide CN _ (unhide B1)).mono ?_; rintro e w1 ⟨rfl, rfl⟩)
      | (go_at_call 26; refine (unhide CI _).mono ?_; rintro e w1 ⟨rfl, rfl⟩))
    (try simp only [Exit.inBlock, Exit.then]); refine bodyPost_ret (results_tmp4 rfl _ _ _) rfl ?_
    exact ⟨rfl, unhide B1⟩
set_option maxHeartbeats 2000000 in
set_option maxRecDepth 100000 in
theorem ask_k (t s lim : Int) (L : List Kd) (n inc : Int) (v : Value) (w : World) (hG : Glob w) (h : KL w v L) (hr : rk t s lim L = true) (hm : may t s n inc = true) :
    Calls Tryd.prog 10 #[.int .i64 t, .int .i64 s, .int .i64 lim, v, .int .i64 n, .int .i64 inc] w fun e w' => ∃ v', e = .returned (.tuple #[v', .int .i64 (askW t lim L n), .int .i64 (askT t lim L n), .int .i64 0]) ∧ KO w' w.heap.size v' (askL t lim L n inc) ∧ Below w.heap.size w w' := by
  have C := check_k t s lim L v w hG h
  rw [chR_ok hr] at C
  have C := hide C
  have CN := hide (fun w1 (b : Below w.heap.size w w1) => nearer_nb t s n w1 (hG.below b hG.size))
  have CI := hide (fun w1 => isInc_any inc w1)
  have hn : nb t s n = true := by unfold may at hm; simp at hm; exact hm.1
  have hi : okI inc = true := by unfold may at hm; simp at hm; exact hm.2
  rw [hn] at CN
  rw [hi] at CI
  have hl4 : L.length ≤ 4 := by have := rk_gd.1 hr; omega
  have hNn : IsN n ∧ IsN s ∧ IsT t := by have := of_decide_eq_true hn; exact ⟨this.2.2.1, this.2.1, this.1⟩
  have HG := hide hG
  have HI := hide h
  have HRN := hide (show ∀ i, i < L.length → IsN (kz L i).1 from fun i hi => ((rk_gd.1 hr).2.2.2.2.2.1 _ (kz_mem hi)).1)
  have hn0 : -1 ≤ n ∧ n ≤ 8 := by have := hNn.1; unfold IsN at this; omega
  have hlim : 1 ≤ lim := (rk_gd.1 hr).2.2.1
  have hle : (L.length : Int) ≤ lim := (rk_gd.1 hr).2.2.2.2.1
  obtain ⟨hn1, hn2⟩ := hn0
  obtain ⟨q, c, rfl⟩ := kl_form h
  obtain ⟨m, hmm⟩ : ∃ m, L.length = m := ⟨_, rfl⟩
  have HM := hide hmm
  rw [hmm] at HI C hl4 hle ⊢
  clear h hr hm hn hi hNn hG hmm
  go_enter Tryd.func10, Tryd.ntmps10
  go_upto_region 7 with (first
    | (go_at_call 18; (with_reducible refine (unhide C).mono ?_); rintro e w1 ⟨rfl, b1⟩; have B1 := hide b1; clear b1)
    | (go_at_call 24; refine (unhide CN _ (unhide B1)).mono ?_; rintro e w1 ⟨rfl, rfl⟩)
    | (go_at_call 26; refine (unhide CI _).mono ?_; rintro e w1 ⟨rfl, rfl⟩))
  obtain ⟨wb, hwb⟩ : ∃ x, x = w1.alloc (.cells #[.int .i64 n, .int .i64 inc, .int .i64 0] 45) := ⟨_, rfl⟩
  rw [← hwb]
  have HBb : Hid (Below w.heap.size w wb) := hide (hwb ▸ (unhide B1).alloc (unhide B1).size _)
  have hgl : w1.heap.size < wb.heap.size := by rw [hwb]; simp
  have HX := hide (show ∀ W, Below wb.heap.size wb W → W.cell? ⟨w1.heap.size, 0, none⟩ = some (.int .i64 n) ∧ W.cell? ⟨w1.heap.size, 0 + 1, none⟩ = some (.int .i64 inc) ∧ W.cell? ⟨w1.heap.size, 0 + 2, none⟩ = some (.int .i64 0) from fun W hb => ⟨(hb.cell (p := ⟨w1.heap.size, 0, none⟩) hgl).trans (by rw [hwb]; simp [go_sem]), (hb.cell (p := ⟨w1.heap.size, 0 + 1, none⟩) hgl).trans (by rw [hwb]; simp [go_sem]), (hb.cell (p := ⟨w1.heap.size, 0 + 2, none⟩) hgl).trans (by rw [hwb]; simp [go_sem])⟩)
  have HK := hide (show ∀ W, Below wb.heap.size wb W → KL W (.slice q m c) L from fun W hb => ((unhide HI).below (unhide HBb) (Nat.le_refl _)).below hb (Nat.le_refl _))
  have HGb := hide (show ∀ W, Below wb.heap.size wb W → Glob W from fun W hb => ((unhide HG).below (unhide HBb) (unhide HG).size).below hb ((unhide HG).below (unhide HBb) (unhide HG).size).size)
  have CH := hide (fun W (hb : Below wb.heap.size wb W) => (has_k L n _ W (unhide HK W hb)).mono fun e w' (r : e = .returned (.bool (hs L n)) ∧ Below W.heap.size W w') => And.intro r.1 (hb.trans (r.2.mono hb.size)))
  have CW := hide (fun W (hb : Below wb.heap.size wb W) => (with_k t L n inc 0 _ W (unhide HGb W hb) (unhide HK W hb) (by rw [unhide HM]; omega)).mono fun e w' (r : ∃ v', e = .returned v' ∧ KO w' W.heap.size v' (wt t L (n, inc, 0)) ∧ Below W.heap.size W w') => (show ∃ v', e = .returned v' ∧ KO w' wb.heap.size v' (wt t L (n, inc, 0)) ∧ Below wb.heap.size wb w' from by obtain ⟨v', r1, r2, r3⟩ := r; exact ⟨v', r1, r2.mono hb.size, hb.trans (r3.mono hb.size)⟩))
  have HBr := hide (Below.refl wb.heap.size wb)
  clear hwb C CN CI B1
  by_cases hin : hs L n = true ∨ (L.length : Int) < lim
  · obtain ⟨e1, e2, e3⟩ := ask_in (t := t) inc hin
    have HE := hide e1
    have E2 := hide e2
    have E3 := hide e3
    clear e1 e2 e3
    cases hh : hs L n with
    | true =>
      rw [hh] at CH
      clear hin hh
      go_wp2_with (first
        | (go_at_call 15; refine (unhide CH _ (unhide HBr)).mono ?_; rintro e w3 ⟨rfl, b3⟩; obtain ⟨hx1, hx2, hx3⟩ := unhide HX _ b3; have B3 := hide b3; clear b3)
        | (go_at_call 27; refine (unhide CW _ (unhide B3)).mono ?_; rintro e w4 ⟨v4, rfl, o4, b4⟩; have O4 := hide o4; have B4 := hide b4; clear o4 b4))
      (try simp only [Exit.inBlock, Exit.then]); refine bodyPost_ret (results_tmp4 rfl _ _ _) rfl ?_
      exact ⟨v4, by rw [unhide E2, unhide E3]; rfl, by rw [unhide HE]; exact (unhide O4).mono (unhide HBb).size, (unhide HBb).trans ((unhide B4).mono (unhide HBb).size)⟩
    | false =>
      rw [hh] at CH
      have b1 : decide ((m : Int) < lim) = true := decide_eq_true (by rcases hin with q | q; · rw [hh] at q; cases q
                                                                      · rwa [unhide HM] at q)
      clear hin hh
      go_wp2_with (first
        | (go_at_call 15; refine (unhide CH _ (unhide HBr)).mono ?_; rintro e w3 ⟨rfl, b3⟩; obtain ⟨hx1, hx2, hx3⟩ := unhide HX _ b3; have B3 := hide b3; clear b3)
        | (go_at_call 27; refine (unhide CW _ (unhide B3)).mono ?_; rintro e w4 ⟨v4, rfl, o4, b4⟩; have O4 := hide o4; have B4 := hide b4; clear o4 b4))
      (try simp only [Exit.inBlock, Exit.then]); refine bodyPost_ret (results_tmp4 rfl _ _ _) rfl ?_
      exact ⟨v4, by rw [unhide E2, unhide E3]; rfl, by rw [unhide HE]; exact (unhide O4).mono (unhide HBb).size, (unhide HBb).trans ((unhide B4).mono (unhide HBb).size)⟩
  · have hh : hs L n = false := by
      cases q : hs L n with
      | false => rfl
      | true => exact absurd (.inl q) hin
    have hnl : ¬ (L.length : Int) < lim := fun q => hin (.inr q)
    rw [hh] at CH
    have hnl' : ¬ (m : Int) < lim := by rw [unhide HM] at hnl; exact hnl
    obtain ⟨p, rfl⟩ : ∃ p, m = p + 1 := ⟨m - 1, by omega⟩
    have b1 : decide ((p : Int) + 1 < lim) = false := decide_eq_false (by omega)
    clear hle
    have CN2 := hide (fun W (hb : Below wb.heap.size wb W) => nearer_nb t (kz L 0).1 n W (unhide HGb W hb))
    have hf : IsN (kz L 0).1 := unhide HRN 0 (by rw [unhide HM]; omega)
    obtain ⟨hf1, hf2⟩ := hf
    have hk0 := hide (fun W (hb : Below wb.heap.size wb W) => kl_cell (k := 0) (unhide HK W hb) (by omega) (by rw [unhide HM]; exact Nat.le_refl _))
    cases hx : nb t (kz L 0).1 n with
    | true =>
      obtain ⟨e1, e2, e3⟩ := ask_off inc hin hx
      have HE := hide e1
      have E2 := hide e2
      have E3 := hide e3
      rw [hx] at CN2
      have CC := hide (fun W (hb : Below wb.heap.size wb W) => (clone_k L _ W (unhide HK W hb) (by rw [unhide HM]; omega)).mono fun e w' (r : ∃ v', e = .returned v' ∧ KO w' W.heap.size v' L ∧ Below W.heap.size W w') => (show ∃ v', e = .returned v' ∧ KO w' wb.heap.size v' L ∧ Below wb.heap.size wb w' from by obtain ⟨v', r1, r2, r3⟩ := r; exact ⟨v', r1, r2.mono hb.size, hb.trans (r3.mono hb.size)⟩))
      clear e1 e2 e3 hx hin hh hnl hnl' CW
      generalize hff : (kz L 0).1 = f at *
      clear hff
      go_wp2_with (first
        | (go_at_call 15; refine (unhide CH _ (unhide HBr)).mono ?_; rintro e w3 ⟨rfl, b3⟩; obtain ⟨b, off, rfl, hq2, hq3, hq4, hq5, hq6, hq7⟩ := unhide hk0 _ b3; rw [Nat.zero_mul, Nat.add_zero] at hq5; clear hq6 hq7; have B3 := hide b3; clear b3)
        | (go_at_call 24; refine (unhide CN2 _ (unhide B3)).mono ?_; rintro e w3 ⟨rfl, rfl⟩)
        | (go_at_call 28; refine (unhide CC _ (unhide B3)).mono ?_; rintro e w4 ⟨v4, rfl, o4, b4⟩; have O4 := hide o4; have B4 := hide b4; clear o4 b4))
      (try simp only [Exit.inBlock, Exit.then]); refine bodyPost_ret (results_tmp4 rfl _ _ _) rfl ?_
      exact ⟨v4, by rw [unhide E2, unhide E3]; rfl, by rw [unhide HE]; exact (unhide O4).mono (unhide HBb).size, (unhide HBb).trans ((unhide B4).mono (unhide HBb).size)⟩
    | false =>
      have hpl : L.length - 1 = p := by rw [unhide HM]; rfl
      obtain ⟨e1, e2, e3⟩ := ask_out inc hin hx
      rw [hpl] at e1 e2
      have HE := hide e1
      have E2 := hide e2
      have E3 := hide e3
      rw [hx] at CN2
      have hl : IsN (kz L p).1 := unhide HRN p (by rw [unhide HM]; omega)
      obtain ⟨hg1, hg2⟩ := hl
      have hkp := hide (fun W (hb : Below wb.heap.size wb W) => kl_cell (k := p) (unhide HK W hb) (by omega) (by rw [unhide HM]; exact Nat.le_refl _))
      have CD := hide (fun W (hb : Below wb.heap.size wb W) => (drop_k L (kz L p).1 _ W (unhide HK W hb) (by rw [unhide HM]; omega)).mono fun e w' (r : ∃ v', e = .returned v' ∧ KO w' W.heap.size v' (dr L (kz L p).1) ∧ Below W.heap.size W w') => (show ∃ v', e = .returned v' ∧ KL w' v' (dr L (kz L p).1) ∧ Below wb.heap.size wb w' from by obtain ⟨v', r1, r2, r3⟩ := r; exact ⟨v', r1, r2.kl, hb.trans (r3.mono hb.size)⟩))
      have CW2 := hide (fun W u (hb : Below wb.heap.size wb W) (hu : KL W u (dr L (kz L p).1)) => (with_k t (dr L (kz L p).1) n inc 0 u W (unhide HGb W hb) hu (by have := dr_len L (kz L p).1; rw [unhide HM] at this; omega)).mono fun e w' (r : ∃ v', e = .returned v' ∧ KO w' W.heap.size v' (wt t (dr L (kz L p).1) (n, inc, 0)) ∧ Below W.heap.size W w') => (show ∃ v', e = .returned v' ∧ KO w' wb.heap.size v' (wt t (dr L (kz L p).1) (n, inc, 0)) ∧ Below wb.heap.size wb w' from by obtain ⟨v', r1, r2, r3⟩ := r; exact ⟨v', r1, r2.mono hb.size, hb.trans (r3.mono hb.size)⟩))
      clear e1 e2 e3 hx hin hh hnl hnl' CW hpl
      generalize hff : (kz L 0).1 = f at *
      generalize hll : (kz L p).1 = l at *
      clear hff hll
      go_upto_region 12 with (first
        | (go_at_call 15; refine (unhide CH _ (unhide HBr)).mono ?_; rintro e w3 ⟨rfl, b3⟩; obtain ⟨b, off, rfl, hq2, hq3, hq4, hq5, hq6, hq7⟩ := unhide hk0 _ b3; rw [Nat.zero_mul, Nat.add_zero] at hq5; obtain ⟨b', off', hq1', -, -, -, hq5', -, -⟩ := unhide hkp _ b3; cases hq1'; clear hq6 hq7; have B3 := hide b3; clear b3)
        | (go_at_call 24; refine (unhide CN2 _ (unhide B3)).mono ?_; rintro e w3 ⟨rfl, rfl⟩))
      go_upto_region 13 with fail
      have SX := hide (show ∀ W, Below wb.heap.size wb W → Below wb.heap.size wb W ∧ W.cell? ⟨w1.heap.size, 0, none⟩ = some (.int .i64 n) ∧ W.cell? ⟨w1.heap.size, 0 + 1, none⟩ = some (.int .i64 inc) ∧ W.cell? ⟨w1.heap.size, 0 + 2, none⟩ = some (.int .i64 0) from fun W hb => ⟨hb, unhide HX W hb⟩)
      clear hk0 hkp hq5 hq5'
      have b3 := unhide B3
      go_region_held3 (fun w' => Below wb.heap.size wb w' ∧ w'.cell? ⟨w1.heap.size, 0, none⟩ = some (.int .i64 n) ∧ w'.cell? ⟨w1.heap.size, 0 + 1, none⟩ = some (.int .i64 inc) ∧ w'.cell? ⟨w1.heap.size, 0 + 2, none⟩ = some (.int .i64 0))
        (first
          | assumption
          | exact unhide SX _ (by assumption)
          | exact unhide SX _ (below_drewN (by assumption) _)
          | exact unhide SX _ (below_drewN (by assumption) 1))
        (first
          | (go_at_call 13; with_reducible refine (unhide CD _ (by first | assumption | exact And.left (by assumption) | exact below_drewN (by assumption) _ | exact below_drewN (by assumption) 1 | exact below_drewN (And.left (by assumption)) 1)).mono ?_; rintro e w5 ⟨v5, rfl, o5, b5⟩)
          | (go_at_call 27; with_reducible refine (unhide CW2 _ _ (by first | assumption | exact And.left (by assumption) | exact below_drewN (by assumption) _ | exact below_drewN (by assumption) 1 | exact below_drewN (And.left (by assumption)) 1) o5).mono ?_; rintro e w6 ⟨v6, rfl, o6, b6⟩))
      have hwl : IntKind.i64.wrap (l + 1) = l + 1 := by rw [IntWalk.i64_left, IntWalk.wrap64_in _ (by omega)]
      have hwn : IntKind.i64.wrap (n + 1) = n + 1 := by rw [IntWalk.i64_left, IntWalk.wrap64_in _ (by omega)]
      go_wp2
      (try simp only [Exit.inBlock, Exit.then]); refine bodyPost_ret (results_tmp4 rfl _ _ _) rfl ?_
      rw [hwl, hwn]
      exact ⟨v6, by rw [unhide E2, unhide E3]; rfl, by rw [unhide HE]; exact o6.mono (unhide HBb).size, (unhide HBb).trans (b6.mono (unhide HBb).size)⟩
end Go.Proofs.YtgglnhnokhpnpaaDoor
