/- Walk of ViewExact: too long, not right; no such place. -/
import Derived.Test.YtnbmnbgbnagajaaX0
namespace Go.Proofs.Ytnbmnbgbnagajaa
open Go.RowKit

set_option maxRecDepth 100000 in
theorem ex_heavy (p : Option Addr) (n c : Nat) (x inc y : Int) (w : World) (hn : 20 < n) :
    Calls Try.prog 3 #[.slice p n c, .int .i64 x, .int .i64 inc, .int .i64 y] w fun e w' => e = .returned (.bool true) ∧ Below w.heap.size w w' := by
  have HH := hide (show decide ((20 : Int) < (n : Int)) = true by simp; omega)
  clear hn
  go_enter Try.func3, Try.ntmps3
  go_wp2_with (go_at_call 7; (with_reducible refine (heavy_c _ _ _ true _ (unhide HH)).mono ?_); rintro e w1 ⟨rfl, b⟩; have B := hide b; clear b)
  go_ret
  exact ⟨rfl, unhide B⟩
set_option maxHeartbeats 2000000 in
set_option maxRecDepth 100000 in
theorem ex_bad_bad (F : Nat → Int) (v : Value) (n : Nat) (x : Int) (inc : Int) (y : Int) (w : World) (hv : Pe w v n F) (hn : n ≤ 20) (hr : rt n F = false) :
    Calls Try.prog 3 #[v, .int .i64 x, .int .i64 inc, .int .i64 y] w fun e w' => e = .returned (.bool true) ∧ Below w.heap.size w w' := by
  have RT := hide hr
  have HN := hide hn
  have HH := hide (show decide ((20 : Int) < (n : Int)) = false by simp; omega)
  have CK := hide (chk_bad hr)
  have PF := hide (plc_bad hr x)
  have PS := hide (plc_bad hr y)
  obtain ⟨p, c, rfl, _, _⟩ := hv.shape
  have HL := hide hv
  have B := hide (Below.refl w.heap.size w)
  clear hv hn hr
  go_enter Try.func3, Try.ntmps3
  go_wp2_with (first
    | (go_at_call 7; (with_reducible refine (heavy_c _ _ _ false _ (unhide HH)).mono ?_); rintro e w1 ⟨rfl, b⟩; replace HL := hide ((unhide HL).below b (Nat.le_refl _)); replace B := hide (below_of (unhide B) b); clear b)
    | (go_at_call 8; (with_reducible refine (twin_p F _ n _ (unhide HL) (unhide HN)).mono ?_); rintro e w2 ⟨v9, rfl, f9, b⟩; have HI := hide f9; replace HL := hide ((unhide HL).below b (Nat.le_refl _)); replace B := hide (below_of (unhide B) b); clear b f9)
    | (go_at_call 9; (with_reducible refine (hear_e F _ n _ _ 1 _ (unhide HI) (unhide PF) (by decide)).mono ?_); rintro e w3 ⟨rfl, b⟩; replace HL := hide ((unhide HL).below b (Nat.le_refl _)); replace HI := hide ((unhide HI).below b (Nat.le_refl _)); replace B := hide (below_of (unhide B) b); clear b)
    | (go_at_call 10; (with_reducible refine (older_bad F _ n _ (unhide HI) (unhide RT)).mono ?_); rintro e w4 ⟨rfl, b⟩; replace HL := hide ((unhide HL).below b (Nat.le_refl _)); replace HI := hide ((unhide HI).below b (Nat.le_refl _)); replace B := hide (below_of (unhide B) b); clear b)
    | (go_at_call 11; (with_reducible refine (live_e F _ n _ 1 _ (unhide HI) (unhide PS) (by decide)).mono ?_); rintro e w5 ⟨rfl, b⟩; replace HL := hide ((unhide HL).below b (Nat.le_refl _)); replace HI := hide ((unhide HI).below b (Nat.le_refl _)); replace B := hide (below_of (unhide B) b); clear b)
    | (go_at_call 12; (with_reducible refine (kpeers_p F _ _ n _ (unhide HI) (unhide HL)).mono ?_); rintro e w6 ⟨rfl, b⟩; replace HL := hide ((unhide HL).below b (Nat.le_refl _)); replace HI := hide ((unhide HI).below b (Nat.le_refl _)); replace B := hide (below_of (unhide B) b); clear b)
    | (go_at_call 13; (with_reducible refine (peers_c F _ n false _ (unhide HL) (unhide RT)).mono ?_); rintro e w7 ⟨rfl, b⟩; replace HL := hide ((unhide HL).below b (Nat.le_refl _)); replace HI := hide ((unhide HI).below b (Nat.le_refl _)); replace B := hide (below_of (unhide B) b); clear b)
    | (go_at_call 14; (with_reducible refine (check_c F _ n 1 _ (unhide HI) (unhide CK)).mono ?_); rintro e w8 ⟨rfl, b⟩; replace HL := hide ((unhide HL).below b (Nat.le_refl _)); replace HI := hide ((unhide HI).below b (Nat.le_refl _)); replace B := hide (below_of (unhide B) b); clear b)
    | (go_at_call 15; (with_reducible refine (wakes_any _).mono ?_); rintro e w9 ⟨rfl, b⟩; replace HL := hide ((unhide HL).below b (Nat.le_refl _)); replace HI := hide ((unhide HI).below b (Nat.le_refl _)); replace B := hide (below_of (unhide B) b); clear b))
  go_ret
  exact ⟨rfl, unhide B⟩
set_option maxHeartbeats 2000000 in
set_option maxRecDepth 100000 in
theorem ex_neg_neg (F : Nat → Int) (v : Value) (n : Nat) (x : Int) (inc : Int) (y : Int) (w : World) (hv : Pe w v n F) (hn : n ≤ 20) (hr : rt n F = true) (hx : x < 0) (hy : y < 0) :
    Calls Try.prog 3 #[v, .int .i64 x, .int .i64 inc, .int .i64 y] w fun e w' => e = .returned (.bool true) ∧ Below w.heap.size w w' := by
  have RT := hide hr
  have HN := hide hn
  have HH := hide (show decide ((20 : Int) < (n : Int)) = false by simp; omega)
  have CK := hide (chk_good hr)
  have PF := hide (plc_out hr (show ¬ (0 ≤ x ∧ x < n) by omega))
  have PS := hide (plc_out hr (show ¬ (0 ≤ y ∧ y < n) by omega))
  obtain ⟨p, c, rfl, _, _⟩ := hv.shape
  have HL := hide hv
  have B := hide (Below.refl w.heap.size w)
  clear hv hn hr
  go_enter Try.func3, Try.ntmps3
  go_wp2_with (first
    | (go_at_call 7; (with_reducible refine (heavy_c _ _ _ false _ (unhide HH)).mono ?_); rintro e w1 ⟨rfl, b⟩; replace HL := hide ((unhide HL).below b (Nat.le_refl _)); replace B := hide (below_of (unhide B) b); clear b)
    | (go_at_call 8; (with_reducible refine (twin_p F _ n _ (unhide HL) (unhide HN)).mono ?_); rintro e w2 ⟨v9, rfl, f9, b⟩; have HI := hide f9; replace HL := hide ((unhide HL).below b (Nat.le_refl _)); replace B := hide (below_of (unhide B) b); clear b f9)
    | (go_at_call 9; (with_reducible refine (hear_e F _ n _ _ 9 _ (unhide HI) (unhide PF) (by decide)).mono ?_); rintro e w3 ⟨rfl, b⟩; replace HL := hide ((unhide HL).below b (Nat.le_refl _)); replace HI := hide ((unhide HI).below b (Nat.le_refl _)); replace B := hide (below_of (unhide B) b); clear b)
    | (go_at_call 10; (with_reducible refine (older_p F _ n _ (unhide HI) (unhide RT)).mono ?_); rintro e w4 ⟨vb, rfl, fb, b⟩; have HB := hide fb; replace HL := hide ((unhide HL).below b (Nat.le_refl _)); replace HI := hide ((unhide HI).below b (Nat.le_refl _)); replace B := hide (below_of (unhide B) b); clear b fb)
    | (go_at_call 11; (with_reducible refine (live_e F _ n _ 9 _ (unhide HI) (unhide PS) (by decide)).mono ?_); rintro e w5 ⟨rfl, b⟩; replace HL := hide ((unhide HL).below b (Nat.le_refl _)); replace HI := hide ((unhide HI).below b (Nat.le_refl _)); replace HB := hide ((unhide HB).below b (Nat.le_refl _)); replace B := hide (below_of (unhide B) b); clear b)
    | (go_at_call 12; (with_reducible refine (kpeers_p F _ _ n _ (unhide HI) (unhide HL)).mono ?_); rintro e w6 ⟨rfl, b⟩; replace HL := hide ((unhide HL).below b (Nat.le_refl _)); replace HI := hide ((unhide HI).below b (Nat.le_refl _)); replace HB := hide ((unhide HB).below b (Nat.le_refl _)); replace B := hide (below_of (unhide B) b); clear b)
    | (go_at_call 13; (with_reducible refine (peers_c F _ n true _ (unhide HL) (unhide RT)).mono ?_); rintro e w7 ⟨rfl, b⟩; replace HL := hide ((unhide HL).below b (Nat.le_refl _)); replace HI := hide ((unhide HI).below b (Nat.le_refl _)); replace HB := hide ((unhide HB).below b (Nat.le_refl _)); replace B := hide (below_of (unhide B) b); clear b)
    | (go_at_call 14; (with_reducible refine (check_c F _ n 0 _ (unhide HI) (unhide CK)).mono ?_); rintro e w8 ⟨rfl, b⟩; replace HL := hide ((unhide HL).below b (Nat.le_refl _)); replace HI := hide ((unhide HI).below b (Nat.le_refl _)); replace HB := hide ((unhide HB).below b (Nat.le_refl _)); replace B := hide (below_of (unhide B) b); clear b)
    | (go_at_call 16; (with_reducible refine (rolder_p F _ n _ (unhide HL) (unhide RT)).mono ?_); rintro e w9 ⟨vo, rfl, fo, b⟩; have HO := hide fo; replace HL := hide ((unhide HL).below b (Nat.le_refl _)); replace HI := hide ((unhide HI).below b (Nat.le_refl _)); replace HB := hide ((unhide HB).below b (Nat.le_refl _)); replace B := hide (below_of (unhide B) b); clear b fo)
    | (go_at_call 12; (with_reducible refine (kpeers_p (olF F) _ _ n _ (unhide HB) (unhide HO)).mono ?_); rintro e w10 ⟨rfl, b⟩; replace HL := hide ((unhide HL).below b (Nat.le_refl _)); replace HI := hide ((unhide HI).below b (Nat.le_refl _)); replace HB := hide ((unhide HB).below b (Nat.le_refl _)); replace HO := hide ((unhide HO).below b (Nat.le_refl _)); replace B := hide (below_of (unhide B) b); clear b)
    | (go_at_call 15; (with_reducible refine (wakes_any _).mono ?_); rintro e w11 ⟨rfl, b⟩; replace HL := hide ((unhide HL).below b (Nat.le_refl _)); replace HI := hide ((unhide HI).below b (Nat.le_refl _)); replace HB := hide ((unhide HB).below b (Nat.le_refl _)); replace HO := hide ((unhide HO).below b (Nat.le_refl _)); replace B := hide (below_of (unhide B) b); clear b))
  go_ret
  exact ⟨rfl, unhide B⟩
set_option maxHeartbeats 2000000 in
set_option maxRecDepth 100000 in
theorem ex_neg_big (F : Nat → Int) (v : Value) (n : Nat) (x : Int) (inc : Int) (y : Int) (w : World) (hv : Pe w v n F) (hn : n ≤ 20) (hr : rt n F = true) (hx : x < 0) (hy0 : 0 ≤ y) (hy : (n : Int) ≤ y) :
    Calls Try.prog 3 #[v, .int .i64 x, .int .i64 inc, .int .i64 y] w fun e w' => e = .returned (.bool true) ∧ Below w.heap.size w w' := by
  have RT := hide hr
  have HN := hide hn
  have HH := hide (show decide ((20 : Int) < (n : Int)) = false by simp; omega)
  have CK := hide (chk_good hr)
  have PF := hide (plc_out hr (show ¬ (0 ≤ x ∧ x < n) by omega))
  have PS := hide (plc_out hr (show ¬ (0 ≤ y ∧ y < n) by omega))
  obtain ⟨p, c, rfl, _, _⟩ := hv.shape
  have HL := hide hv
  have B := hide (Below.refl w.heap.size w)
  clear hv hn hr
  go_enter Try.func3, Try.ntmps3
  go_wp2_with (first
    | (go_at_call 7; (with_reducible refine (heavy_c _ _ _ false _ (unhide HH)).mono ?_); rintro e w1 ⟨rfl, b⟩; replace HL := hide ((unhide HL).below b (Nat.le_refl _)); replace B := hide (below_of (unhide B) b); clear b)
    | (go_at_call 8; (with_reducible refine (twin_p F _ n _ (unhide HL) (unhide HN)).mono ?_); rintro e w2 ⟨v9, rfl, f9, b⟩; have HI := hide f9; replace HL := hide ((unhide HL).below b (Nat.le_refl _)); replace B := hide (below_of (unhide B) b); clear b f9)
    | (go_at_call 9; (with_reducible refine (hear_e F _ n _ _ 9 _ (unhide HI) (unhide PF) (by decide)).mono ?_); rintro e w3 ⟨rfl, b⟩; replace HL := hide ((unhide HL).below b (Nat.le_refl _)); replace HI := hide ((unhide HI).below b (Nat.le_refl _)); replace B := hide (below_of (unhide B) b); clear b)
    | (go_at_call 10; (with_reducible refine (older_p F _ n _ (unhide HI) (unhide RT)).mono ?_); rintro e w4 ⟨vb, rfl, fb, b⟩; have HB := hide fb; replace HL := hide ((unhide HL).below b (Nat.le_refl _)); replace HI := hide ((unhide HI).below b (Nat.le_refl _)); replace B := hide (below_of (unhide B) b); clear b fb)
    | (go_at_call 11; (with_reducible refine (live_e F _ n _ 9 _ (unhide HI) (unhide PS) (by decide)).mono ?_); rintro e w5 ⟨rfl, b⟩; replace HL := hide ((unhide HL).below b (Nat.le_refl _)); replace HI := hide ((unhide HI).below b (Nat.le_refl _)); replace HB := hide ((unhide HB).below b (Nat.le_refl _)); replace B := hide (below_of (unhide B) b); clear b)
    | (go_at_call 12; (with_reducible refine (kpeers_p F _ _ n _ (unhide HI) (unhide HL)).mono ?_); rintro e w6 ⟨rfl, b⟩; replace HL := hide ((unhide HL).below b (Nat.le_refl _)); replace HI := hide ((unhide HI).below b (Nat.le_refl _)); replace HB := hide ((unhide HB).below b (Nat.le_refl _)); replace B := hide (below_of (unhide B) b); clear b)
    | (go_at_call 13; (with_reducible refine (peers_c F _ n true _ (unhide HL) (unhide RT)).mono ?_); rintro e w7 ⟨rfl, b⟩; replace HL := hide ((unhide HL).below b (Nat.le_refl _)); replace HI := hide ((unhide HI).below b (Nat.le_refl _)); replace HB := hide ((unhide HB).below b (Nat.le_refl _)); replace B := hide (below_of (unhide B) b); clear b)
    | (go_at_call 14; (with_reducible refine (check_c F _ n 0 _ (unhide HI) (unhide CK)).mono ?_); rintro e w8 ⟨rfl, b⟩; replace HL := hide ((unhide HL).below b (Nat.le_refl _)); replace HI := hide ((unhide HI).below b (Nat.le_refl _)); replace HB := hide ((unhide HB).below b (Nat.le_refl _)); replace B := hide (below_of (unhide B) b); clear b)
    | (go_at_call 16; (with_reducible refine (rolder_p F _ n _ (unhide HL) (unhide RT)).mono ?_); rintro e w9 ⟨vo, rfl, fo, b⟩; have HO := hide fo; replace HL := hide ((unhide HL).below b (Nat.le_refl _)); replace HI := hide ((unhide HI).below b (Nat.le_refl _)); replace HB := hide ((unhide HB).below b (Nat.le_refl _)); replace B := hide (below_of (unhide B) b); clear b fo)
    | (go_at_call 12; (with_reducible refine (kpeers_p (olF F) _ _ n _ (unhide HB) (unhide HO)).mono ?_); rintro e w10 ⟨rfl, b⟩; replace HL := hide ((unhide HL).below b (Nat.le_refl _)); replace HI := hide ((unhide HI).below b (Nat.le_refl _)); replace HB := hide ((unhide HB).below b (Nat.le_refl _)); replace HO := hide ((unhide HO).below b (Nat.le_refl _)); replace B := hide (below_of (unhide B) b); clear b)
    | (go_at_call 15; (with_reducible refine (wakes_any _).mono ?_); rintro e w11 ⟨rfl, b⟩; replace HL := hide ((unhide HL).below b (Nat.le_refl _)); replace HI := hide ((unhide HI).below b (Nat.le_refl _)); replace HB := hide ((unhide HB).below b (Nat.le_refl _)); replace HO := hide ((unhide HO).below b (Nat.le_refl _)); replace B := hide (below_of (unhide B) b); clear b))
  go_ret
  exact ⟨rfl, unhide B⟩
set_option maxHeartbeats 2000000 in
set_option maxRecDepth 100000 in
theorem ex_neg_in (F : Nat → Int) (v : Value) (n : Nat) (x : Int) (inc : Int) (s : Nat) (w : World) (hv : Pe w v n F) (hn : n ≤ 20) (hr : rt n F = true) (hx : x < 0) (hs : s < n) :
    Calls Try.prog 3 #[v, .int .i64 x, .int .i64 inc, .int .i64 (s : Int)] w fun e w' => e = .returned (.bool true) ∧ Below w.heap.size w w' := by
  have RT := hide hr
  have HN := hide hn
  have HH := hide (show decide ((20 : Int) < (n : Int)) = false by simp; omega)
  have CK := hide (chk_good hr)
  have PF := hide (plc_out hr (show ¬ (0 ≤ x ∧ x < n) by omega))
  have HS := hide hs
  obtain ⟨p, c, rfl, _, _⟩ := hv.shape
  have HL := hide hv
  have B := hide (Below.refl w.heap.size w)
  clear hv hn hr
  go_enter Try.func3, Try.ntmps3
  go_wp2_with (first
    | (go_at_call 7; (with_reducible refine (heavy_c _ _ _ false _ (unhide HH)).mono ?_); rintro e w1 ⟨rfl, b⟩; replace HL := hide ((unhide HL).below b (Nat.le_refl _)); replace B := hide (below_of (unhide B) b); clear b)
    | (go_at_call 8; (with_reducible refine (twin_p F _ n _ (unhide HL) (unhide HN)).mono ?_); rintro e w2 ⟨v9, rfl, f9, b⟩; have HI := hide f9; replace HL := hide ((unhide HL).below b (Nat.le_refl _)); replace B := hide (below_of (unhide B) b); clear b f9)
    | (go_at_call 9; (with_reducible refine (hear_e F _ n _ _ 9 _ (unhide HI) (unhide PF) (by decide)).mono ?_); rintro e w3 ⟨rfl, b⟩; replace HL := hide ((unhide HL).below b (Nat.le_refl _)); replace HI := hide ((unhide HI).below b (Nat.le_refl _)); replace B := hide (below_of (unhide B) b); clear b)
    | (go_at_call 10; (with_reducible refine (older_p F _ n _ (unhide HI) (unhide RT)).mono ?_); rintro e w4 ⟨vb, rfl, fb, b⟩; have HB := hide fb; replace HL := hide ((unhide HL).below b (Nat.le_refl _)); replace HI := hide ((unhide HI).below b (Nat.le_refl _)); replace B := hide (below_of (unhide B) b); clear b fb)
    | (go_at_call 11; (with_reducible refine (live_p F _ n s _ (unhide HI) (unhide RT) (unhide HS)).mono ?_); rintro e w5 ⟨vk, rfl, fk, b⟩; have HV := hide fk; replace HL := hide ((unhide HL).below b (Nat.le_refl _)); replace HI := hide ((unhide HI).below b (Nat.le_refl _)); replace HB := hide ((unhide HB).below b (Nat.le_refl _)); replace B := hide (below_of (unhide B) b); clear b fk)
    | (go_at_call 12; (with_reducible refine (kpeers_p F _ _ n _ (unhide HI) (unhide HL)).mono ?_); rintro e w6 ⟨rfl, b⟩; replace HL := hide ((unhide HL).below b (Nat.le_refl _)); replace HI := hide ((unhide HI).below b (Nat.le_refl _)); replace HB := hide ((unhide HB).below b (Nat.le_refl _)); replace HV := hide ((unhide HV).below b (Nat.le_refl _)); replace B := hide (below_of (unhide B) b); clear b)
    | (go_at_call 13; (with_reducible refine (peers_c F _ n true _ (unhide HL) (unhide RT)).mono ?_); rintro e w7 ⟨rfl, b⟩; replace HL := hide ((unhide HL).below b (Nat.le_refl _)); replace HI := hide ((unhide HI).below b (Nat.le_refl _)); replace HB := hide ((unhide HB).below b (Nat.le_refl _)); replace HV := hide ((unhide HV).below b (Nat.le_refl _)); replace B := hide (below_of (unhide B) b); clear b)
    | (go_at_call 14; (with_reducible refine (check_c F _ n 0 _ (unhide HI) (unhide CK)).mono ?_); rintro e w8 ⟨rfl, b⟩; replace HL := hide ((unhide HL).below b (Nat.le_refl _)); replace HI := hide ((unhide HI).below b (Nat.le_refl _)); replace HB := hide ((unhide HB).below b (Nat.le_refl _)); replace HV := hide ((unhide HV).below b (Nat.le_refl _)); replace B := hide (below_of (unhide B) b); clear b)
    | (go_at_call 16; (with_reducible refine (rolder_p F _ n _ (unhide HL) (unhide RT)).mono ?_); rintro e w9 ⟨vo, rfl, fo, b⟩; have HO := hide fo; replace HL := hide ((unhide HL).below b (Nat.le_refl _)); replace HI := hide ((unhide HI).below b (Nat.le_refl _)); replace HB := hide ((unhide HB).below b (Nat.le_refl _)); replace HV := hide ((unhide HV).below b (Nat.le_refl _)); replace B := hide (below_of (unhide B) b); clear b fo)
    | (go_at_call 12; (with_reducible refine (kpeers_p (olF F) _ _ n _ (unhide HB) (unhide HO)).mono ?_); rintro e w10 ⟨rfl, b⟩; replace HL := hide ((unhide HL).below b (Nat.le_refl _)); replace HI := hide ((unhide HI).below b (Nat.le_refl _)); replace HB := hide ((unhide HB).below b (Nat.le_refl _)); replace HV := hide ((unhide HV).below b (Nat.le_refl _)); replace HO := hide ((unhide HO).below b (Nat.le_refl _)); replace B := hide (below_of (unhide B) b); clear b)
    | (go_at_call 19; (with_reducible refine (rlive_p F _ n s _ (unhide HL) (unhide RT)).mono ?_); rintro e w11 ⟨vr, rfl, fr, b⟩; have HR := hide fr; replace HL := hide ((unhide HL).below b (Nat.le_refl _)); replace HI := hide ((unhide HI).below b (Nat.le_refl _)); replace HB := hide ((unhide HB).below b (Nat.le_refl _)); replace HV := hide ((unhide HV).below b (Nat.le_refl _)); replace HO := hide ((unhide HO).below b (Nat.le_refl _)); replace B := hide (below_of (unhide B) b); clear b fr)
    | (go_at_call 18; (with_reducible refine (kints_p _ _ _ _ _ (unhide HV) (unhide HR)).mono ?_); rintro e w12 ⟨rfl, b⟩; replace HL := hide ((unhide HL).below b (Nat.le_refl _)); replace HI := hide ((unhide HI).below b (Nat.le_refl _)); replace HB := hide ((unhide HB).below b (Nat.le_refl _)); replace HV := hide ((unhide HV).below b (Nat.le_refl _)); replace HO := hide ((unhide HO).below b (Nat.le_refl _)); replace HR := hide ((unhide HR).below b (Nat.le_refl _)); replace B := hide (below_of (unhide B) b); clear b)
    | (go_at_call 15; (with_reducible refine (wakes_any _).mono ?_); rintro e w13 ⟨rfl, b⟩; replace HL := hide ((unhide HL).below b (Nat.le_refl _)); replace HI := hide ((unhide HI).below b (Nat.le_refl _)); replace HB := hide ((unhide HB).below b (Nat.le_refl _)); replace HV := hide ((unhide HV).below b (Nat.le_refl _)); replace HO := hide ((unhide HO).below b (Nat.le_refl _)); replace HR := hide ((unhide HR).below b (Nat.le_refl _)); replace B := hide (below_of (unhide B) b); clear b))
  go_ret
  exact ⟨rfl, unhide B⟩
end Go.Proofs.Ytnbmnbgbnagajaa
