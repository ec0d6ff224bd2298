/- Walk of bellwetherlaw13.KidsExact. -/
import Derived.Test.YtgglnhnokhpnpaaDoorO3
import Derived.Test.YtgglnhnokhpnpaaDoorN4
import Derived.Test.YtgglnhnokhpnpaaDoorN2
import Derived.Test.YtgglnhnokhpnpaaDoorJ4
import Derived.Test.YtgglnhnokhpnpaaDoorM2
namespace Go.Proofs.YtgglnhnokhpnpaaDoor
open Go.RowKit

theorem kl_any {w : World} {v : Value} {L : List Kd} (h : KL w v L) : ∃ q n c, v = .slice q n c := by
  obtain ⟨q, c, e⟩ := kl_form h
  exact ⟨q, _, c, e⟩
set_option maxRecDepth 100000 in
theorem exk_many (t s lim : Int) (q : Option Addr) (m c : Nat) (n inc : Int) (w : World) (hl : 20 < m) :
    Calls Tryd.prog 3 #[.int .i64 t, .int .i64 s, .int .i64 lim, .slice q m c, .int .i64 n, .int .i64 inc] w fun e w' => e = .returned (.bool true) ∧ Below w.heap.size w w' := by
  have b1 : decide (20 < m) = true := decide_eq_true hl
  go_enter Tryd.func3, Tryd.ntmps3
  go_wp2
  go_ret
  exact ⟨rfl, Below.refl _ _⟩
set_option maxHeartbeats 4000000 in
set_option maxRecDepth 100000 in
theorem exk_wrong (t s lim : Int) (q : Option Addr) (m c : Nat) (L : List Kd) (n inc : Int) (w : World) (hG : Glob w) (h : KL w (.slice q m c) L) (hl : ¬ 20 < m) (hr : rk t s lim L = false) :
    Calls Tryd.prog 3 #[.int .i64 t, .int .i64 s, .int .i64 lim, .slice q m c, .int .i64 n, .int .i64 inc] w fun e w' => e = .returned (.bool true) ∧ Below w.heap.size w w' := by
  have b20 : decide (20 < m) = false := decide_eq_false hl
  have hL : L.length ≤ 1000 := by have := (kl_cap h).1; omega
  have B : Hid (Below w.heap.size w w) := hide (Below.refl _ _)
  have HG := hide (show ∀ W, Below w.heap.size w W → Glob W from fun W hb => hG.below hb hG.size)
  have KI := hide (show ∀ W, Below w.heap.size w W → KL W (.slice q m c) L from fun W hb => h.below hb (Nat.le_refl _))
  obtain ⟨D, hD⟩ : ∃ D, dr L n = D := ⟨_, rfl⟩
  obtain ⟨Y, hY⟩ : ∃ Y, hs L n = Y := ⟨_, rfl⟩
  have c9 := hide (fun v W (hk : KL W v L) => (twin_k L v W hk hL).mono fun e w' (r : ∃ v', e = .returned v' ∧ KO w' W.heap.size v' L ∧ Below W.heap.size W w') => (show ∃ q n c, e = .returned (.slice q n c) ∧ KL w' (.slice q n c) L ∧ Below W.heap.size W w' from by obtain ⟨v', r1, r2, r3⟩ := r; obtain ⟨q', n', c', rfl⟩ := kl_any r2.kl; exact ⟨q', n', c', r1, r2.kl, r3⟩))
  have c13 := hide (fun v W (hk : KL W v L) => (drop_k L n v W hk hL).mono fun e w' (r : ∃ v', e = .returned v' ∧ KO w' W.heap.size v' (dr L n) ∧ Below W.heap.size W w') => (show ∃ q n c, e = .returned (.slice q n c) ∧ KL w' (.slice q n c) D ∧ Below W.heap.size W w' from by obtain ⟨v', r1, r2, r3⟩ := r; rw [hD] at r2; obtain ⟨q', n', c', rfl⟩ := kl_any r2.kl; exact ⟨q', n', c', r1, r2.kl, r3⟩))
  have c14 := hide (fun v W (hk : KL W v L) => (rdrop_k L n v W hk hL).mono fun e w' (r : ∃ v', e = .returned v' ∧ KO w' W.heap.size v' (dr L n) ∧ Below W.heap.size W w') => (show ∃ q n c, e = .returned (.slice q n c) ∧ KL w' (.slice q n c) D ∧ Below W.heap.size W w' from by obtain ⟨v', r1, r2, r3⟩ := r; rw [hD] at r2; obtain ⟨q', n', c', rfl⟩ := kl_any r2.kl; exact ⟨q', n', c', r1, r2.kl, r3⟩))
  have c15 := hide (fun v W (hk : KL W v L) => (hY ▸ has_k L n v W hk : Calls Tryd.prog 15 #[v, .int .i64 n] W fun e w' => e = .returned (.bool Y) ∧ Below W.heap.size W w'))
  have c16 := hide (fun v W (hk : KL W v L) => (hY ▸ rhas_k L n v W hk : Calls Tryd.prog 16 #[v, .int .i64 n] W fun e w' => e = .returned (.bool Y) ∧ w' = W))
  have c12 := hide (fun M v v' W (hk : KL W v M) (hk' : KL W v' M) => kids_same M v v' W hk hk')
  have c19 := hide (fun W (hb : Below w.heap.size w W) => wakes_any W (unhide HG W hb))
  have wd0 : IntKind.i64.wrap 0 = 0 := rfl
  have c17 := hide (fun v W (hk : KL W v L) => (hr ▸ rkids_k t s lim L v W hk : Calls Tryd.prog 17 #[.int .i64 t, .int .i64 s, .int .i64 lim, v] W fun e w' => e = .returned (.bool false) ∧ Below W.heap.size W w'))
  have c18 := hide (fun v W (hg : Glob W) (hk : KL W v L) => ((chR_no hr) ▸ check_k t s lim L v W hg hk : Calls Tryd.prog 18 #[.int .i64 t, .int .i64 s, .int .i64 lim, v] W fun e w' => e = .returned (.int .i64 1) ∧ Below W.heap.size W w'))
  have c10 := hide (fun v W (hg : Glob W) (hk : KL W v L) => ask_no t s lim L n inc v W hg hk hr)
  have c11 := hide (fun v W (hg : Glob W) (hk : KL W v L) => older_no t s lim L v W hg hk hr)
  clear hG h hL hD hY hr
  have mA := trivial
  have mB := trivial
  go_enter Tryd.func3, Tryd.ntmps3
  go_wp2_with (first
    | (go_at_call 9; refine (unhide c9 _ _ (unhide KI _ (unhide B))).mono ?_; rintro e w1 ⟨q1, n1, k1, rfl, k, b⟩; have B := hide ((unhide B).trans (b.mono (unhide B).size)); have KIN := hide k; clear k; clear b)
    | (go_at_call 10; refine (unhide c10 _ _ (unhide HG _ (unhide B)) (unhide KIN)).mono ?_; rintro e w1 ⟨rfl, b⟩; have B := hide ((unhide B).trans (b.mono (unhide B).size)); have KIN := hide ((unhide KIN).below b (Nat.le_refl _)); clear b)
    | (go_at_call 11; refine (unhide c11 _ _ (unhide HG _ (unhide B)) (unhide KIN)).mono ?_; rintro e w1 ⟨rfl, b⟩; have B := hide ((unhide B).trans (b.mono (unhide B).size)); have KIN := hide ((unhide KIN).below b (Nat.le_refl _)); clear b)
    | (go_at_call 13; refine (unhide c13 _ _ (unhide KIN)).mono ?_; rintro e w1 ⟨q4, n4, k4, rfl, k, b⟩; have B := hide ((unhide B).trans (b.mono (unhide B).size)); have KIN := hide ((unhide KIN).below b (Nat.le_refl _)); have KD := hide k; clear k; clear b)
    | (go_at_call 14; refine (unhide c14 _ _ (unhide KI _ (unhide B))).mono ?_; rintro e w1 ⟨q5, n5, k5, rfl, k, b⟩; have B := hide ((unhide B).trans (b.mono (unhide B).size)); have KIN := hide ((unhide KIN).below b (Nat.le_refl _)); have KD := hide ((unhide KD).below b (Nat.le_refl _)); have KE := hide k; clear k; clear b)
    | (clear mA; go_at_call 12; refine (unhide c12 D _ _ _ (unhide KD) (unhide KE)).mono ?_; rintro e w1 ⟨rfl, b⟩; have B := hide ((unhide B).trans (b.mono (unhide B).size)); have KIN := hide ((unhide KIN).below b (Nat.le_refl _)); have KD := hide ((unhide KD).below b (Nat.le_refl _)); have KE := hide ((unhide KE).below b (Nat.le_refl _)); clear b)
    | (go_at_call 15; refine (unhide c15 _ _ (unhide KIN)).mono ?_; rintro e w1 ⟨rfl, b⟩; have B := hide ((unhide B).trans (b.mono (unhide B).size)); have KIN := hide ((unhide KIN).below b (Nat.le_refl _)); clear b)
    | (go_at_call 16; refine (unhide c16 _ _ (unhide KI _ (unhide B))).mono ?_; rintro e w1 ⟨rfl, hw⟩; obtain rfl := hw.symm; clear hw)
    | (clear mB; go_at_call 12; refine (unhide c12 L _ _ _ (unhide KIN) (unhide KI _ (unhide B))).mono ?_; rintro e w1 ⟨rfl, b⟩; have B := hide ((unhide B).trans (b.mono (unhide B).size)); have KIN := hide ((unhide KIN).below b (Nat.le_refl _)); clear b)
    | (go_at_call 17; refine (unhide c17 _ _ (unhide KI _ (unhide B))).mono ?_; rintro e w1 ⟨rfl, b⟩; have B := hide ((unhide B).trans (b.mono (unhide B).size)); have KIN := hide ((unhide KIN).below b (Nat.le_refl _)); clear b)
    | (go_at_call 18; refine (unhide c18 _ _ (unhide HG _ (unhide B)) (unhide KIN)).mono ?_; rintro e w1 ⟨rfl, b⟩; have B := hide ((unhide B).trans (b.mono (unhide B).size)); have KIN := hide ((unhide KIN).below b (Nat.le_refl _)); clear b)
    | (go_at_call 19; refine (unhide c19 _ (unhide B)).mono ?_; rintro e w1 ⟨rfl, b⟩; have B := hide ((unhide B).trans (b.mono (unhide B).size)); clear b))
  go_ret
  exact ⟨rfl, unhide B⟩
set_option maxHeartbeats 4000000 in
set_option maxRecDepth 100000 in
theorem exk_may (t s lim : Int) (q : Option Addr) (m c : Nat) (L : List Kd) (n inc : Int) (w : World) (hG : Glob w) (h : KL w (.slice q m c) L) (hl : ¬ 20 < m) (hr : rk t s lim L = true) (hm : may t s n inc = false) :
    Calls Tryd.prog 3 #[.int .i64 t, .int .i64 s, .int .i64 lim, .slice q m c, .int .i64 n, .int .i64 inc] w fun e w' => e = .returned (.bool true) ∧ Below w.heap.size w w' := by
  have b20 : decide (20 < m) = false := decide_eq_false hl
  have hL : L.length ≤ 1000 := by have := (kl_cap h).1; omega
  have B : Hid (Below w.heap.size w w) := hide (Below.refl _ _)
  have HG := hide (show ∀ W, Below w.heap.size w W → Glob W from fun W hb => hG.below hb hG.size)
  have KI := hide (show ∀ W, Below w.heap.size w W → KL W (.slice q m c) L from fun W hb => h.below hb (Nat.le_refl _))
  obtain ⟨D, hD⟩ : ∃ D, dr L n = D := ⟨_, rfl⟩
  obtain ⟨Y, hY⟩ : ∃ Y, hs L n = Y := ⟨_, rfl⟩
  have c9 := hide (fun v W (hk : KL W v L) => (twin_k L v W hk hL).mono fun e w' (r : ∃ v', e = .returned v' ∧ KO w' W.heap.size v' L ∧ Below W.heap.size W w') => (show ∃ q n c, e = .returned (.slice q n c) ∧ KL w' (.slice q n c) L ∧ Below W.heap.size W w' from by obtain ⟨v', r1, r2, r3⟩ := r; obtain ⟨q', n', c', rfl⟩ := kl_any r2.kl; exact ⟨q', n', c', r1, r2.kl, r3⟩))
  have c13 := hide (fun v W (hk : KL W v L) => (drop_k L n v W hk hL).mono fun e w' (r : ∃ v', e = .returned v' ∧ KO w' W.heap.size v' (dr L n) ∧ Below W.heap.size W w') => (show ∃ q n c, e = .returned (.slice q n c) ∧ KL w' (.slice q n c) D ∧ Below W.heap.size W w' from by obtain ⟨v', r1, r2, r3⟩ := r; rw [hD] at r2; obtain ⟨q', n', c', rfl⟩ := kl_any r2.kl; exact ⟨q', n', c', r1, r2.kl, r3⟩))
  have c14 := hide (fun v W (hk : KL W v L) => (rdrop_k L n v W hk hL).mono fun e w' (r : ∃ v', e = .returned v' ∧ KO w' W.heap.size v' (dr L n) ∧ Below W.heap.size W w') => (show ∃ q n c, e = .returned (.slice q n c) ∧ KL w' (.slice q n c) D ∧ Below W.heap.size W w' from by obtain ⟨v', r1, r2, r3⟩ := r; rw [hD] at r2; obtain ⟨q', n', c', rfl⟩ := kl_any r2.kl; exact ⟨q', n', c', r1, r2.kl, r3⟩))
  have c15 := hide (fun v W (hk : KL W v L) => (hY ▸ has_k L n v W hk : Calls Tryd.prog 15 #[v, .int .i64 n] W fun e w' => e = .returned (.bool Y) ∧ Below W.heap.size W w'))
  have c16 := hide (fun v W (hk : KL W v L) => (hY ▸ rhas_k L n v W hk : Calls Tryd.prog 16 #[v, .int .i64 n] W fun e w' => e = .returned (.bool Y) ∧ w' = W))
  have c12 := hide (fun M v v' W (hk : KL W v M) (hk' : KL W v' M) => kids_same M v v' W hk hk')
  have c19 := hide (fun W (hb : Below w.heap.size w W) => wakes_any W (unhide HG W hb))
  have wd0 : IntKind.i64.wrap 0 = 0 := rfl
  have c17 := hide (fun v W (hk : KL W v L) => (hr ▸ rkids_k t s lim L v W hk : Calls Tryd.prog 17 #[.int .i64 t, .int .i64 s, .int .i64 lim, v] W fun e w' => e = .returned (.bool true) ∧ Below W.heap.size W w'))
  have c18 := hide (fun v W (hg : Glob W) (hk : KL W v L) => ((chR_ok hr) ▸ check_k t s lim L v W hg hk : Calls Tryd.prog 18 #[.int .i64 t, .int .i64 s, .int .i64 lim, v] W fun e w' => e = .returned (.int .i64 0) ∧ Below W.heap.size W w'))
  obtain ⟨O, hO⟩ : ∃ O, old L = O := ⟨_, rfl⟩
  have c11 := hide (fun v W (hg : Glob W) (hk : KL W v L) => (older_k t s lim L v W hg hk hr).mono fun e w' (r : ∃ v', e = .returned (.tuple #[v', .int .i64 0]) ∧ KO w' W.heap.size v' (old L) ∧ Below W.heap.size W w') => (show ∃ q n c, e = .returned (.tuple #[.slice q n c, .int .i64 0]) ∧ KL w' (.slice q n c) O ∧ Below W.heap.size W w' from by obtain ⟨v', r1, r2, r3⟩ := r; rw [hO] at r2; obtain ⟨q', n', c', rfl⟩ := kl_any r2.kl; exact ⟨q', n', c', r1, r2.kl, r3⟩))
  have c20 := hide (fun v W (hk : KL W v L) => (rolder_k L v W hk hL (rk_ages hr)).mono fun e w' (r : ∃ v', e = .returned v' ∧ KO w' W.heap.size v' (old L) ∧ Below W.heap.size W w') => (show ∃ q n c, e = .returned (.slice q n c) ∧ KL w' (.slice q n c) O ∧ Below W.heap.size W w' from by obtain ⟨v', r1, r2, r3⟩ := r; rw [hO] at r2; obtain ⟨q', n', c', rfl⟩ := kl_any r2.kl; exact ⟨q', n', c', r1, r2.kl, r3⟩))
  have c10 := hide (fun v W (hg : Glob W) (hk : KL W v L) => ask_may t s lim L n inc v W hg hk hr hm)
  have c21 := hide (fun W => (hm ▸ may_k t s n inc W : Calls Tryd.prog 21 #[.int .i64 t, .int .i64 s, .int .i64 n, .int .i64 inc] W fun e w' => e = .returned (.bool false) ∧ Below W.heap.size W w'))
  clear hG h hL hD hY hr hm hO
  have mA := trivial
  have mB := trivial
  have mC := trivial
  go_enter Tryd.func3, Tryd.ntmps3
  go_wp2_with (first
    | (go_at_call 9; refine (unhide c9 _ _ (unhide KI _ (unhide B))).mono ?_; rintro e w1 ⟨q1, n1, k1, rfl, k, b⟩; have B := hide ((unhide B).trans (b.mono (unhide B).size)); have KIN := hide k; clear k; clear b)
    | (go_at_call 10; refine (unhide c10 _ _ (unhide HG _ (unhide B)) (unhide KIN)).mono ?_; rintro e w1 ⟨rfl, b⟩; have B := hide ((unhide B).trans (b.mono (unhide B).size)); have KIN := hide ((unhide KIN).below b (Nat.le_refl _)); clear b)
    | (go_at_call 11; refine (unhide c11 _ _ (unhide HG _ (unhide B)) (unhide KIN)).mono ?_; rintro e w1 ⟨q3, n3, k3, rfl, k, b⟩; have B := hide ((unhide B).trans (b.mono (unhide B).size)); have KIN := hide ((unhide KIN).below b (Nat.le_refl _)); have KB := hide k; clear k; clear b)
    | (go_at_call 13; refine (unhide c13 _ _ (unhide KIN)).mono ?_; rintro e w1 ⟨q4, n4, k4, rfl, k, b⟩; have B := hide ((unhide B).trans (b.mono (unhide B).size)); have KIN := hide ((unhide KIN).below b (Nat.le_refl _)); have KB := hide ((unhide KB).below b (Nat.le_refl _)); have KD := hide k; clear k; clear b)
    | (go_at_call 14; refine (unhide c14 _ _ (unhide KI _ (unhide B))).mono ?_; rintro e w1 ⟨q5, n5, k5, rfl, k, b⟩; have B := hide ((unhide B).trans (b.mono (unhide B).size)); have KIN := hide ((unhide KIN).below b (Nat.le_refl _)); have KB := hide ((unhide KB).below b (Nat.le_refl _)); have KD := hide ((unhide KD).below b (Nat.le_refl _)); have KE := hide k; clear k; clear b)
    | (clear mA; go_at_call 12; refine (unhide c12 D _ _ _ (unhide KD) (unhide KE)).mono ?_; rintro e w1 ⟨rfl, b⟩; have B := hide ((unhide B).trans (b.mono (unhide B).size)); have KIN := hide ((unhide KIN).below b (Nat.le_refl _)); have KB := hide ((unhide KB).below b (Nat.le_refl _)); have KD := hide ((unhide KD).below b (Nat.le_refl _)); have KE := hide ((unhide KE).below b (Nat.le_refl _)); clear b)
    | (go_at_call 15; refine (unhide c15 _ _ (unhide KIN)).mono ?_; rintro e w1 ⟨rfl, b⟩; have B := hide ((unhide B).trans (b.mono (unhide B).size)); have KIN := hide ((unhide KIN).below b (Nat.le_refl _)); have KB := hide ((unhide KB).below b (Nat.le_refl _)); clear b)
    | (go_at_call 16; refine (unhide c16 _ _ (unhide KI _ (unhide B))).mono ?_; rintro e w1 ⟨rfl, hw⟩; obtain rfl := hw.symm; clear hw)
    | (clear mB; go_at_call 12; refine (unhide c12 L _ _ _ (unhide KIN) (unhide KI _ (unhide B))).mono ?_; rintro e w1 ⟨rfl, b⟩; have B := hide ((unhide B).trans (b.mono (unhide B).size)); have KIN := hide ((unhide KIN).below b (Nat.le_refl _)); have KB := hide ((unhide KB).below b (Nat.le_refl _)); clear b)
    | (go_at_call 17; refine (unhide c17 _ _ (unhide KI _ (unhide B))).mono ?_; rintro e w1 ⟨rfl, b⟩; have B := hide ((unhide B).trans (b.mono (unhide B).size)); have KIN := hide ((unhide KIN).below b (Nat.le_refl _)); have KB := hide ((unhide KB).below b (Nat.le_refl _)); clear b)
    | (go_at_call 18; refine (unhide c18 _ _ (unhide HG _ (unhide B)) (unhide KIN)).mono ?_; rintro e w1 ⟨rfl, b⟩; have B := hide ((unhide B).trans (b.mono (unhide B).size)); have KIN := hide ((unhide KIN).below b (Nat.le_refl _)); have KB := hide ((unhide KB).below b (Nat.le_refl _)); clear b)
    | (go_at_call 20; refine (unhide c20 _ _ (unhide KI _ (unhide B))).mono ?_; rintro e w1 ⟨q6, n6, k6, rfl, k, b⟩; have B := hide ((unhide B).trans (b.mono (unhide B).size)); have KIN := hide ((unhide KIN).below b (Nat.le_refl _)); have KB := hide ((unhide KB).below b (Nat.le_refl _)); have KC := hide k; clear k; clear b)
    | (clear mC; go_at_call 12; refine (unhide c12 O _ _ _ (unhide KB) (unhide KC)).mono ?_; rintro e w1 ⟨rfl, b⟩; have B := hide ((unhide B).trans (b.mono (unhide B).size)); have KIN := hide ((unhide KIN).below b (Nat.le_refl _)); have KB := hide ((unhide KB).below b (Nat.le_refl _)); clear b)
    | (go_at_call 21; refine (unhide c21 _).mono ?_; rintro e w1 ⟨rfl, b⟩; have B := hide ((unhide B).trans (b.mono (unhide B).size)); have KIN := hide ((unhide KIN).below b (Nat.le_refl _)); clear b)
    | (go_at_call 19; refine (unhide c19 _ (unhide B)).mono ?_; rintro e w1 ⟨rfl, b⟩; have B := hide ((unhide B).trans (b.mono (unhide B).size)); clear b))
  go_ret
  exact ⟨rfl, unhide B⟩
set_option maxHeartbeats 4000000 in
set_option maxRecDepth 100000 in
theorem exk_asks (t s lim : Int) (q : Option Addr) (m c : Nat) (L : List Kd) (n inc : Int) (w : World) (hG : Glob w) (h : KL w (.slice q m c) L) (hl : ¬ 20 < m) (hr : rk t s lim L = true) (hm : may t s n inc = true) :
    Calls Tryd.prog 3 #[.int .i64 t, .int .i64 s, .int .i64 lim, .slice q m c, .int .i64 n, .int .i64 inc] w fun e w' => e = .returned (.bool true) ∧ Below w.heap.size w w' := by
  have b20 : decide (20 < m) = false := decide_eq_false hl
  have hL : L.length ≤ 1000 := by have := (kl_cap h).1; omega
  have B : Hid (Below w.heap.size w w) := hide (Below.refl _ _)
  have HG := hide (show ∀ W, Below w.heap.size w W → Glob W from fun W hb => hG.below hb hG.size)
  have KI := hide (show ∀ W, Below w.heap.size w W → KL W (.slice q m c) L from fun W hb => h.below hb (Nat.le_refl _))
  obtain ⟨D, hD⟩ : ∃ D, dr L n = D := ⟨_, rfl⟩
  obtain ⟨Y, hY⟩ : ∃ Y, hs L n = Y := ⟨_, rfl⟩
  have c9 := hide (fun v W (hk : KL W v L) => (twin_k L v W hk hL).mono fun e w' (r : ∃ v', e = .returned v' ∧ KO w' W.heap.size v' L ∧ Below W.heap.size W w') => (show ∃ q n c, e = .returned (.slice q n c) ∧ KL w' (.slice q n c) L ∧ Below W.heap.size W w' from by obtain ⟨v', r1, r2, r3⟩ := r; obtain ⟨q', n', c', rfl⟩ := kl_any r2.kl; exact ⟨q', n', c', r1, r2.kl, r3⟩))
  have c13 := hide (fun v W (hk : KL W v L) => (drop_k L n v W hk hL).mono fun e w' (r : ∃ v', e = .returned v' ∧ KO w' W.heap.size v' (dr L n) ∧ Below W.heap.size W w') => (show ∃ q n c, e = .returned (.slice q n c) ∧ KL w' (.slice q n c) D ∧ Below W.heap.size W w' from by obtain ⟨v', r1, r2, r3⟩ := r; rw [hD] at r2; obtain ⟨q', n', c', rfl⟩ := kl_any r2.kl; exact ⟨q', n', c', r1, r2.kl, r3⟩))
  have c14 := hide (fun v W (hk : KL W v L) => (rdrop_k L n v W hk hL).mono fun e w' (r : ∃ v', e = .returned v' ∧ KO w' W.heap.size v' (dr L n) ∧ Below W.heap.size W w') => (show ∃ q n c, e = .returned (.slice q n c) ∧ KL w' (.slice q n c) D ∧ Below W.heap.size W w' from by obtain ⟨v', r1, r2, r3⟩ := r; rw [hD] at r2; obtain ⟨q', n', c', rfl⟩ := kl_any r2.kl; exact ⟨q', n', c', r1, r2.kl, r3⟩))
  have c15 := hide (fun v W (hk : KL W v L) => (hY ▸ has_k L n v W hk : Calls Tryd.prog 15 #[v, .int .i64 n] W fun e w' => e = .returned (.bool Y) ∧ Below W.heap.size W w'))
  have c16 := hide (fun v W (hk : KL W v L) => (hY ▸ rhas_k L n v W hk : Calls Tryd.prog 16 #[v, .int .i64 n] W fun e w' => e = .returned (.bool Y) ∧ w' = W))
  have c12 := hide (fun M v v' W (hk : KL W v M) (hk' : KL W v' M) => kids_same M v v' W hk hk')
  have c19 := hide (fun W (hb : Below w.heap.size w W) => wakes_any W (unhide HG W hb))
  have wd0 : IntKind.i64.wrap 0 = 0 := rfl
  have c17 := hide (fun v W (hk : KL W v L) => (hr ▸ rkids_k t s lim L v W hk : Calls Tryd.prog 17 #[.int .i64 t, .int .i64 s, .int .i64 lim, v] W fun e w' => e = .returned (.bool true) ∧ Below W.heap.size W w'))
  have c18 := hide (fun v W (hg : Glob W) (hk : KL W v L) => ((chR_ok hr) ▸ check_k t s lim L v W hg hk : Calls Tryd.prog 18 #[.int .i64 t, .int .i64 s, .int .i64 lim, v] W fun e w' => e = .returned (.int .i64 0) ∧ Below W.heap.size W w'))
  obtain ⟨O, hO⟩ : ∃ O, old L = O := ⟨_, rfl⟩
  have c11 := hide (fun v W (hg : Glob W) (hk : KL W v L) => (older_k t s lim L v W hg hk hr).mono fun e w' (r : ∃ v', e = .returned (.tuple #[v', .int .i64 0]) ∧ KO w' W.heap.size v' (old L) ∧ Below W.heap.size W w') => (show ∃ q n c, e = .returned (.tuple #[.slice q n c, .int .i64 0]) ∧ KL w' (.slice q n c) O ∧ Below W.heap.size W w' from by obtain ⟨v', r1, r2, r3⟩ := r; rw [hO] at r2; obtain ⟨q', n', c', rfl⟩ := kl_any r2.kl; exact ⟨q', n', c', r1, r2.kl, r3⟩))
  have c20 := hide (fun v W (hk : KL W v L) => (rolder_k L v W hk hL (rk_ages hr)).mono fun e w' (r : ∃ v', e = .returned v' ∧ KO w' W.heap.size v' (old L) ∧ Below W.heap.size W w') => (show ∃ q n c, e = .returned (.slice q n c) ∧ KL w' (.slice q n c) O ∧ Below W.heap.size W w' from by obtain ⟨v', r1, r2, r3⟩ := r; rw [hO] at r2; obtain ⟨q', n', c', rfl⟩ := kl_any r2.kl; exact ⟨q', n', c', r1, r2.kl, r3⟩))
  have hNn : IsN n := (of_decide_eq_true (show nb t s n = true by unfold may at hm; simp at hm; exact hm.1)).2.2.1
  obtain ⟨A, hA⟩ : ∃ A, askL t lim L n inc = A := ⟨_, rfl⟩
  obtain ⟨P, hP⟩ : ∃ P, askW t lim L n = P := ⟨_, rfl⟩
  obtain ⟨R, hR⟩ : ∃ R, askT t lim L n = R := ⟨_, rfl⟩
  have c10 := hide (fun v W (hg : Glob W) (hk : KL W v L) => (ask_k t s lim L n inc v W hg hk hr hm).mono fun e w' (r : ∃ v', e = .returned (.tuple #[v', .int .i64 (askW t lim L n), .int .i64 (askT t lim L n), .int .i64 0]) ∧ KO w' W.heap.size v' (askL t lim L n inc) ∧ Below W.heap.size W w') => (show ∃ q n c, e = .returned (.tuple #[.slice q n c, .int .i64 P, .int .i64 R, .int .i64 0]) ∧ KL w' (.slice q n c) A ∧ Below W.heap.size W w' from by obtain ⟨v', r1, r2, r3⟩ := r; rw [hA] at r2; rw [hP, hR] at r1; obtain ⟨q', n', c', rfl⟩ := kl_any r2.kl; exact ⟨q', n', c', r1, r2.kl, r3⟩))
  have c22 := hide (fun v W (hk : KL W v L) => (rask_k t s lim L n inc v W hk hr hNn).mono fun e w' (r : ∃ v', e = .returned (.tuple #[v', .int .i64 (askW t lim L n), .int .i64 (askT t lim L n)]) ∧ KO w' W.heap.size v' (askL t lim L n inc) ∧ Below W.heap.size W w') => (show ∃ q n c, e = .returned (.tuple #[.slice q n c, .int .i64 P, .int .i64 R]) ∧ KL w' (.slice q n c) A ∧ Below W.heap.size W w' from by obtain ⟨v', r1, r2, r3⟩ := r; rw [hA] at r2; rw [hP, hR] at r1; obtain ⟨q', n', c', rfl⟩ := kl_any r2.kl; exact ⟨q', n', c', r1, r2.kl, r3⟩))
  have c21 := hide (fun W => (hm ▸ may_k t s n inc W : Calls Tryd.prog 21 #[.int .i64 t, .int .i64 s, .int .i64 n, .int .i64 inc] W fun e w' => e = .returned (.bool true) ∧ Below W.heap.size W w'))
  clear hG h hL hD hY hr hm hO hNn hA hP hR
  have mA := trivial
  have mB := trivial
  have mC := trivial
  go_enter Tryd.func3, Tryd.ntmps3
  go_wp2_with (first
    | (go_at_call 9; refine (unhide c9 _ _ (unhide KI _ (unhide B))).mono ?_; rintro e w1 ⟨q1, n1, k1, rfl, k, b⟩; have B := hide ((unhide B).trans (b.mono (unhide B).size)); have KIN := hide k; clear k; clear b)
    | (go_at_call 10; refine (unhide c10 _ _ (unhide HG _ (unhide B)) (unhide KIN)).mono ?_; rintro e w1 ⟨q2, n2, k2, rfl, k, b⟩; have B := hide ((unhide B).trans (b.mono (unhide B).size)); have KIN := hide ((unhide KIN).below b (Nat.le_refl _)); have KA := hide k; clear k; clear b)
    | (go_at_call 11; refine (unhide c11 _ _ (unhide HG _ (unhide B)) (unhide KIN)).mono ?_; rintro e w1 ⟨q3, n3, k3, rfl, k, b⟩; have B := hide ((unhide B).trans (b.mono (unhide B).size)); have KIN := hide ((unhide KIN).below b (Nat.le_refl _)); have KA := hide ((unhide KA).below b (Nat.le_refl _)); have KB := hide k; clear k; clear b)
    | (go_at_call 13; refine (unhide c13 _ _ (unhide KIN)).mono ?_; rintro e w1 ⟨q4, n4, k4, rfl, k, b⟩; have B := hide ((unhide B).trans (b.mono (unhide B).size)); have KIN := hide ((unhide KIN).below b (Nat.le_refl _)); have KA := hide ((unhide KA).below b (Nat.le_refl _)); have KB := hide ((unhide KB).below b (Nat.le_refl _)); have KD := hide k; clear k; clear b)
    | (go_at_call 14; refine (unhide c14 _ _ (unhide KI _ (unhide B))).mono ?_; rintro e w1 ⟨q5, n5, k5, rfl, k, b⟩; have B := hide ((unhide B).trans (b.mono (unhide B).size)); have KIN := hide ((unhide KIN).below b (Nat.le_refl _)); have KA := hide ((unhide KA).below b (Nat.le_refl _)); have KB := hide ((unhide KB).below b (Nat.le_refl _)); have KD := hide ((unhide KD).below b (Nat.le_refl _)); have KE := hide k; clear k; clear b)
    | (clear mA; go_at_call 12; refine (unhide c12 D _ _ _ (unhide KD) (unhide KE)).mono ?_; rintro e w1 ⟨rfl, b⟩; have B := hide ((unhide B).trans (b.mono (unhide B).size)); have KIN := hide ((unhide KIN).below b (Nat.le_refl _)); have KA := hide ((unhide KA).below b (Nat.le_refl _)); have KB := hide ((unhide KB).below b (Nat.le_refl _)); have KD := hide ((unhide KD).below b (Nat.le_refl _)); have KE := hide ((unhide KE).below b (Nat.le_refl _)); clear b)
    | (go_at_call 15; refine (unhide c15 _ _ (unhide KIN)).mono ?_; rintro e w1 ⟨rfl, b⟩; have B := hide ((unhide B).trans (b.mono (unhide B).size)); have KIN := hide ((unhide KIN).below b (Nat.le_refl _)); have KA := hide ((unhide KA).below b (Nat.le_refl _)); have KB := hide ((unhide KB).below b (Nat.le_refl _)); clear b)
    | (go_at_call 16; refine (unhide c16 _ _ (unhide KI _ (unhide B))).mono ?_; rintro e w1 ⟨rfl, hw⟩; obtain rfl := hw.symm; clear hw)
    | (clear mB; go_at_call 12; refine (unhide c12 L _ _ _ (unhide KIN) (unhide KI _ (unhide B))).mono ?_; rintro e w1 ⟨rfl, b⟩; have B := hide ((unhide B).trans (b.mono (unhide B).size)); have KIN := hide ((unhide KIN).below b (Nat.le_refl _)); have KA := hide ((unhide KA).below b (Nat.le_refl _)); have KB := hide ((unhide KB).below b (Nat.le_refl _)); clear b)
    | (go_at_call 17; refine (unhide c17 _ _ (unhide KI _ (unhide B))).mono ?_; rintro e w1 ⟨rfl, b⟩; have B := hide ((unhide B).trans (b.mono (unhide B).size)); have KIN := hide ((unhide KIN).below b (Nat.le_refl _)); have KA := hide ((unhide KA).below b (Nat.le_refl _)); have KB := hide ((unhide KB).below b (Nat.le_refl _)); clear b)
    | (go_at_call 18; refine (unhide c18 _ _ (unhide HG _ (unhide B)) (unhide KIN)).mono ?_; rintro e w1 ⟨rfl, b⟩; have B := hide ((unhide B).trans (b.mono (unhide B).size)); have KIN := hide ((unhide KIN).below b (Nat.le_refl _)); have KA := hide ((unhide KA).below b (Nat.le_refl _)); have KB := hide ((unhide KB).below b (Nat.le_refl _)); clear b)
    | (go_at_call 20; refine (unhide c20 _ _ (unhide KI _ (unhide B))).mono ?_; rintro e w1 ⟨q6, n6, k6, rfl, k, b⟩; have B := hide ((unhide B).trans (b.mono (unhide B).size)); have KIN := hide ((unhide KIN).below b (Nat.le_refl _)); have KA := hide ((unhide KA).below b (Nat.le_refl _)); have KB := hide ((unhide KB).below b (Nat.le_refl _)); have KC := hide k; clear k; clear b)
    | (clear mC; go_at_call 12; refine (unhide c12 O _ _ _ (unhide KB) (unhide KC)).mono ?_; rintro e w1 ⟨rfl, b⟩; have B := hide ((unhide B).trans (b.mono (unhide B).size)); have KIN := hide ((unhide KIN).below b (Nat.le_refl _)); have KA := hide ((unhide KA).below b (Nat.le_refl _)); have KB := hide ((unhide KB).below b (Nat.le_refl _)); clear b)
    | (go_at_call 21; refine (unhide c21 _).mono ?_; rintro e w1 ⟨rfl, b⟩; have B := hide ((unhide B).trans (b.mono (unhide B).size)); have KIN := hide ((unhide KIN).below b (Nat.le_refl _)); have KA := hide ((unhide KA).below b (Nat.le_refl _)); clear b)
    | (go_at_call 22; refine (unhide c22 _ _ (unhide KI _ (unhide B))).mono ?_; rintro e w1 ⟨q7, n7, k7, rfl, k, b⟩; have B := hide ((unhide B).trans (b.mono (unhide B).size)); have KIN := hide ((unhide KIN).below b (Nat.le_refl _)); have KA := hide ((unhide KA).below b (Nat.le_refl _)); have KF := hide k; clear k; clear b)
    | (go_at_call 12; refine (unhide c12 A _ _ _ (unhide KA) (unhide KF)).mono ?_; rintro e w1 ⟨rfl, b⟩; have B := hide ((unhide B).trans (b.mono (unhide B).size)); clear b)
    | (go_at_call 19; refine (unhide c19 _ (unhide B)).mono ?_; rintro e w1 ⟨rfl, b⟩; have B := hide ((unhide B).trans (b.mono (unhide B).size)); clear b))
  go_ret
  exact ⟨rfl, unhide B⟩
theorem exk_walk (t s lim : Int) (q : Option Addr) (m c : Nat) (L : List Kd) (n inc : Int) (w : World) (hG : Glob w) (h : KL w (.slice q m c) L) :
    Calls Tryd.prog 3 #[.int .i64 t, .int .i64 s, .int .i64 lim, .slice q m c, .int .i64 n, .int .i64 inc] w fun e w' => e = .returned (.bool true) ∧ Below w.heap.size w w' := by
  by_cases hl : 20 < m
  · exact exk_many t s lim q m c n inc w hl
  · cases hr : rk t s lim L with
    | false => exact exk_wrong t s lim q m c L n inc w hG h hl hr
    | true =>
      cases hm : may t s n inc with
      | false => exact exk_may t s lim q m c L n inc w hG h hl hr hm
      | true => exact exk_asks t s lim q m c L n inc w hG h hl hr hm
end Go.Proofs.YtgglnhnokhpnpaaDoor
