/- Walk of bellwetherlaw13.KidsDrop. -/
import Derived.Test.YtgglnhnokhpnpaaDoorO3
import Derived.Test.YtgglnhnokhpnpaaDoorN2
import Derived.Test.YtgglnhnokhpnpaaDoorJ4
import Derived.Test.YtgglnhnokhpnpaaDoorM2
namespace Go.Proofs.YtgglnhnokhpnpaaDoor
open Go.RowKit

theorem rk_dr {t s lim : Int} {L : List Kd} (h : rk t s lim L = true) (n : Int) : rk t s lim (dr L n) = true := by
  obtain ⟨h1, h2, h3, h4, h5, h6⟩ := rk_gd.1 h
  have := dr_len L n
  exact rk_gd.2 ⟨h1, h2, h3, h4, by omega, h6.dr n⟩
theorem dropk_many (t s lim : Int) (q : Option Addr) (m c : Nat) (n : Int) (w : World) (hl : 20 < m) :
    Calls Tryd.prog 6 #[.int .i64 t, .int .i64 s, .int .i64 lim, .slice q m c, .int .i64 n] w fun e w' => e = .returned (.bool true) ∧ Below w.heap.size w w' := by
  have b1 : decide (20 < m) = true := decide_eq_true hl
  go_enter Tryd.func6, Tryd.ntmps6
  go_wp2
  go_ret
  exact ⟨rfl, Below.refl _ _⟩
theorem dropk_wrong (t s lim : Int) (q : Option Addr) (m c : Nat) (L : List Kd) (n : Int) (w : World) (h : KL w (.slice q m c) L) (hl : ¬ 20 < m) (hr : rk t s lim L = false) :
    Calls Tryd.prog 6 #[.int .i64 t, .int .i64 s, .int .i64 lim, .slice q m c, .int .i64 n] w fun e w' => e = .returned (.bool true) ∧ Below w.heap.size w w' := by
  have b1 : decide (20 < m) = false := decide_eq_false hl
  have c17 := rkids_k t s lim L _ w h
  rw [hr] at c17
  have c17 := hide c17
  clear h hr
  go_enter Tryd.func6, Tryd.ntmps6
  go_wp2_with (go_at_call 17; refine (unhide c17).mono ?_; rintro e w1 ⟨rfl, b1⟩; have B1 := hide b1; clear b1)
  go_ret
  exact ⟨rfl, unhide B1⟩
set_option maxHeartbeats 2000000 in
theorem dropk_right (t s lim : Int) (q : Option Addr) (m c : Nat) (L : List Kd) (n : Int) (w : World) (hG : Glob w) (h : KL w (.slice q m c) L) (hl : ¬ 20 < m) (hr : rk t s lim L = true) :
    Calls Tryd.prog 6 #[.int .i64 t, .int .i64 s, .int .i64 lim, .slice q m c, .int .i64 n] w fun e w' => e = .returned (.bool true) ∧ Below w.heap.size w w' := by
  have b1 : decide (20 < m) = false := decide_eq_false hl
  obtain ⟨hm, -, -⟩ := kl_cap h
  obtain ⟨hT, hN, -, hl4, hle, hgd⟩ := rk_gd.1 hr
  have c17 := rkids_k t s lim L _ w h
  rw [hr] at c17
  have c17 := hide c17
  have c25 := hide (istopic_t t hT)
  have HG := hide (show ∀ W, Below w.heap.size w W → Glob W from fun W hb => hG.below hb hG.size)
  have HK := hide (show ∀ W, Below w.heap.size w W → KL W (.slice q m c) L from fun W hb => h.below hb (Nat.le_refl _))
  have c13 := hide (show ∀ W, Below w.heap.size w W → Calls Tryd.prog 13 #[.slice q m c, .int .i64 n] W fun e w' => ∃ v', e = .returned v' ∧ KO w' W.heap.size v' (dr L n) ∧ Below w.heap.size w w' from fun W hb =>
    (drop_k L n _ W (unhide HK W hb) (by omega)).mono fun e w' ⟨v', r1, r2, r3⟩ => ⟨v', r1, r2, hb.trans (r3.mono hb.size)⟩)
  have c15 := hide (show ∀ v W, Below w.heap.size w W → KL W v (dr L n) → Calls Tryd.prog 15 #[v, .int .i64 n] W fun e w' => e = .returned (.bool false) ∧ Below W.heap.size W w' from fun v W hb hk => by
    have := has_k (dr L n) n v W hk
    rwa [hs_drop] at this)
  have c18 := hide (show ∀ v W, Below w.heap.size w W → KL W v (dr L n) → Calls Tryd.prog 18 #[.int .i64 t, .int .i64 s, .int .i64 lim, v] W fun e w' => e = .returned (.int .i64 0) ∧ Below W.heap.size W w' from fun v W hb hk => by
    have := check_k t s lim (dr L n) v W (unhide HG W hb) hk
    rwa [chR_ok (rk_dr hr n)] at this)
  have c19 := hide (show ∀ W, Below w.heap.size w W → Calls Tryd.prog 19 #[] W fun e w' => e = .returned (.bool true) ∧ Below W.heap.size W w' from fun W hb => wakes_any W (unhide HG W hb))
  have c15b := hide (show ∀ W, Below w.heap.size w W → Calls Tryd.prog 15 #[.slice q m c, .int .i64 n] W fun e w' => e = .returned (.bool (hs L n)) ∧ Below W.heap.size W w' from fun W hb => has_k L n _ W (unhide HK W hb))
  have m1 := trivial
  cases hh : hs L n with
  | false =>
    rw [hh] at c15b
    have c12 := hide (show ∀ v W, Below w.heap.size w W → KL W v (dr L n) → Calls Tryd.prog 12 #[v, .slice q m c] W fun e w' => e = .returned (.bool true) ∧ Below W.heap.size W w' from fun v W hb hk => by
      rw [dr_not hh] at hk
      exact kids_same L _ _ W hk (unhide HK W hb))
    clear h hr hm hl4 hle hgd hT hN hG hh
    go_enter Tryd.func6, Tryd.ntmps6
    go_wp2_with (first
      | (go_at_call 17; refine (unhide c17).mono ?_; rintro e w1 ⟨rfl, b1⟩; have B1 := hide b1; clear b1)
      | (go_at_call 25; refine (unhide c25 _).mono ?_; rintro e w1 ⟨rfl, rfl⟩)
      | (go_at_call 13; refine (unhide c13 _ (unhide B1)).mono ?_; rintro e w2 ⟨v2, rfl, o2, b2⟩; have K2 := hide o2.kl; have B2 := hide b2; obtain ⟨q2, k2, rfl⟩ := kl_form o2.kl; clear o2 b2)
      | (clear m1; go_at_call 15; refine (unhide c15 _ _ (unhide B2) (unhide K2)).mono ?_; rintro e w3 ⟨rfl, b3⟩; have B3 := hide ((unhide B2).trans (b3.mono (unhide B2).size)); have K3 := hide ((unhide K2).below b3 (Nat.le_refl _)); clear b3)
      | (go_at_call 18; refine (unhide c18 _ _ (unhide B3) (unhide K3)).mono ?_; rintro e w4 ⟨rfl, b4⟩; have B4 := hide ((unhide B3).trans (b4.mono (unhide B3).size)); have K4 := hide ((unhide K3).below b4 (Nat.le_refl _)); clear b4)
      | (go_at_call 15; refine (unhide c15b _ (unhide B4)).mono ?_; rintro e w5 ⟨rfl, b5⟩; have B5 := hide ((unhide B4).trans (b5.mono (unhide B4).size)); have K5 := hide ((unhide K4).below b5 (Nat.le_refl _)); clear b5)
      | (go_at_call 12; refine (unhide c12 _ _ (unhide B5) (unhide K5)).mono ?_; rintro e w6 ⟨rfl, b6⟩; have B6 := hide ((unhide B5).trans (b6.mono (unhide B5).size)); clear b6)
      | (go_at_call 19; refine (unhide c19 _ (unhide B6)).mono ?_; rintro e w7 ⟨rfl, b7⟩; have B7 := hide ((unhide B6).trans (b7.mono (unhide B6).size)); clear b7))
    go_ret
    exact ⟨rfl, unhide B7⟩
  | true =>
    rw [hh] at c15b
    obtain ⟨d, hd⟩ : ∃ d, (dr L n).length = d := ⟨_, rfl⟩
    have hd1 : d + 1 = m := by have := dr_less hgd.apart hh; omega
    have HD := hide hd
    have e0 : ((m : Int) - 1) = (d : Int) := by omega
    have e1 : IntKind.i64.wrap ((m : Int) - 1) = (d : Int) := by
      rw [e0, IntWalk.i64_left, IntWalk.wrap64_in _ (by omega)]
    clear h hr hm hl4 hle hgd hT hN hG hh hd hd1
    go_enter Tryd.func6, Tryd.ntmps6
    go_wp2_with (first
      | (go_at_call 17; refine (unhide c17).mono ?_; rintro e w1 ⟨rfl, b1⟩; have B1 := hide b1; clear b1)
      | (go_at_call 25; refine (unhide c25 _).mono ?_; rintro e w1 ⟨rfl, rfl⟩)
      | (go_at_call 13; refine (unhide c13 _ (unhide B1)).mono ?_; rintro e w2 ⟨v2, rfl, o2, b2⟩; have K2 := hide o2.kl; have B2 := hide b2; obtain ⟨q2, k2, rfl⟩ := kl_form o2.kl; rw [unhide HD] at K2 ⊢; clear o2 b2)
      | (clear m1; go_at_call 15; refine (unhide c15 _ _ (unhide B2) (unhide K2)).mono ?_; rintro e w3 ⟨rfl, b3⟩; have B3 := hide ((unhide B2).trans (b3.mono (unhide B2).size)); have K3 := hide ((unhide K2).below b3 (Nat.le_refl _)); clear b3)
      | (go_at_call 18; refine (unhide c18 _ _ (unhide B3) (unhide K3)).mono ?_; rintro e w4 ⟨rfl, b4⟩; have B4 := hide ((unhide B3).trans (b4.mono (unhide B3).size)); clear b4)
      | (go_at_call 15; refine (unhide c15b _ (unhide B4)).mono ?_; rintro e w5 ⟨rfl, b5⟩; have B5 := hide ((unhide B4).trans (b5.mono (unhide B4).size)); clear b5)
      | (go_at_call 19; refine (unhide c19 _ (unhide B5)).mono ?_; rintro e w7 ⟨rfl, b7⟩; have B7 := hide ((unhide B5).trans (b7.mono (unhide B5).size)); clear b7))
    go_ret
    exact ⟨rfl, unhide B7⟩
theorem dropk_walk (t s lim : Int) (q : Option Addr) (m c : Nat) (L : List Kd) (n : Int) (w : World) (hG : Glob w) (h : KL w (.slice q m c) L) :
    Calls Tryd.prog 6 #[.int .i64 t, .int .i64 s, .int .i64 lim, .slice q m c, .int .i64 n] w fun e w' => e = .returned (.bool true) ∧ Below w.heap.size w w' := by
  by_cases hl : 20 < m
  · exact dropk_many t s lim q m c n w hl
  · cases hr : rk t s lim L with
    | false => exact dropk_wrong t s lim q m c L n w h hl hr
    | true => exact dropk_right t s lim q m c L n w hG h hl hr
end Go.Proofs.YtgglnhnokhpnpaaDoor
