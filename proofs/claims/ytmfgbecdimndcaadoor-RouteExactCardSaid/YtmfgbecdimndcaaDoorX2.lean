/- Walk of bellwetherlaw11.RouteExact: live nodes. -/
import Derived.Test.YtmfgbecdimndcaaDoorX1
namespace Go.Proofs.YtmfgbecdimndcaaDoor
open Go.RowKit

set_option maxRecDepth 100000 in
set_option maxHeartbeats 4000000 in
theorem exact_notopic (t s : Int) (p : Option Addr) (n cap : Nat) (L : List Int) (w : World) (hG : Glob w) (hL : L.length = n) (hI : IL w (.slice p n cap) L) (hn : n ≤ 30) (hR : Ris L) (hs : s ∈ L) (hT : ¬ IsT t) :
    Calls Tryd.prog 3 #[.int .i64 t, .slice p n cap, .int .i64 s] w fun e w' => e = .returned (.bool true) ∧ Below w.heap.size w w' := by
  have h30 : decide ((30 : Int) < (n : Int)) = false := decide_eq_false (by omega)
  have c0 := hide (twin_il L _ w hI (by omega))
  have c1 := fun (v : Value) (w2 : World) (h : IL w2 v L) (hg : Glob w2) => ahead_both L s v w2 hg h hR hs
  have c2 := hide (fun (v : Value) (w2 : World) (h : IL w2 v L) (hg : Glob w2) => fingers_is L s v w2 hg h hR hs)
  have c3 := hide (fun (v : Value) (w2 : World) (h : IL w2 v L) (hg : Glob w2) => next_topic t L s v w2 hg h hR hs hT)
  have c4 := hide (fun (v : Value) (w2 : World) (h : IL w2 v L) (hg : Glob w2) => way_arg t L s v w2 hg h (.inr ⟨⟨hR, hs⟩, hT⟩))
  have c5 := hide (fun (v v' : Value) (w2 : World) (h : IL w2 v L) (h' : IL w2 v' L) => ints_same L v v' w2 h h')
  have c6 := fun (v : Value) (w2 : World) (h : IL w2 v L) => nodes_ris L s v w2 h hR
  have c6 := hide (fun (v : Value) (w2 : World) (h : IL w2 v L) => (decide_eq_true hs) ▸ c6 v w2 h)
  have c7 := hide (fun (v : Value) (w2 : World) (h : IL w2 v L) => check_ok L s v w2 h hR hs)
  have c8 := hide (fun (v : Value) (w2 : World) (h : IL w2 v L) => rfingers_is L s v w2 h hR.2 hs)
  have c9 := hide (fun (v v' : Value) (w2 : World) (h : IL w2 v (fng L s)) (h' : IL w2 v' (fng L s)) => ints_same (fng L s) v v' w2 h h')
  have c10 := fun (v : Value) (w2 : World) (h : IL w2 v L) => rahead_is L s v w2 h hR.2 (hR.2 s hs)
  have c11 := hide (istopic_f t hT)
  have ha0 : oth L s ≠ [] → 0 ≤ ahd L s := fun q => (hR.2 _ (ahd_mem q).1).1
  have HI := hide hI
  have HG := hide hG
  have m1 := trivial
  have m2 := trivial
  clear hI hG hR hL hs hT
  by_cases h0 : oth L s = []
  · simp only [if_pos h0] at c1 c10
    have c1 := hide c1
    have c10 := hide c10
    clear ha0 h0
    go_enter Tryd.func3, Tryd.ntmps3
    go_wp2_with (first
      | (go_at_call 9; refine (unhide c0).mono ?_; rintro e w2 ⟨v2, rfl, ho, hb⟩; have I2 := hide ho.il; have B2 := hide hb; clear ho hb)
      | (go_at_call 10; refine (unhide c1 _ _ (unhide I2) ((unhide HG).below (unhide B2) (unhide HG).size)).mono ?_; rintro e w3 ⟨rfl, hb⟩; have I3 := hide ((unhide I2).below hb (Nat.le_refl _)); have B3 := hide ((unhide B2).trans (hb.mono (unhide B2).size)); clear hb)
      | (go_at_call 11; refine (unhide c2 _ _ (unhide I3) ((unhide HG).below (unhide B3) (unhide HG).size)).mono ?_; rintro e w4 ⟨v4, rfl, ho, hb⟩; have I4 := hide ((unhide I3).below hb (Nat.le_refl _)); have F4 := hide ho.il; have B4 := hide ((unhide B3).trans (hb.mono (unhide B3).size)); clear ho hb)
      | (go_at_call 12; refine (unhide c3 _ _ (unhide I4) ((unhide HG).below (unhide B4) (unhide HG).size)).mono ?_; rintro e w5 ⟨rfl, hb⟩; have I5 := hide ((unhide I4).below hb (Nat.le_refl _)); have F5 := hide ((unhide F4).below hb (Nat.le_refl _)); have B5 := hide ((unhide B4).trans (hb.mono (unhide B4).size)); clear hb)
      | (go_at_call 13; refine (unhide c4 _ _ (unhide I5) ((unhide HG).below (unhide B5) (unhide HG).size)).mono ?_; rintro e w6 ⟨rfl, hb⟩; have I6 := hide ((unhide I5).below hb (Nat.le_refl _)); have F6 := hide ((unhide F5).below hb (Nat.le_refl _)); have B6 := hide ((unhide B5).trans (hb.mono (unhide B5).size)); clear hb)
      | (clear m1; go_at_call 14; refine (unhide c5 _ _ _ (unhide I6) ((unhide HI).below (unhide B6) (Nat.le_refl _))).mono ?_; rintro e w7 ⟨rfl, hb⟩; have I7 := hide ((unhide I6).below hb (Nat.le_refl _)); have F7 := hide ((unhide F6).below hb (Nat.le_refl _)); have B7 := hide ((unhide B6).trans (hb.mono (unhide B6).size)); clear hb)
      | (go_at_call 15; refine (unhide c6 _ _ ((unhide HI).below (unhide B7) (Nat.le_refl _))).mono ?_; rintro e w8 ⟨rfl, hb⟩; have I8 := hide ((unhide I7).below hb (Nat.le_refl _)); have F8 := hide ((unhide F7).below hb (Nat.le_refl _)); have B8 := hide ((unhide B7).trans (hb.mono (unhide B7).size)); clear hb)
      | (go_at_call 16; refine (unhide c7 _ _ (unhide I8)).mono ?_; rintro e w8 ⟨rfl, rfl⟩)
      | (go_at_call 18; refine (unhide c8 _ _ ((unhide HI).below (unhide B8) (Nat.le_refl _))).mono ?_; rintro e w9 ⟨v9, rfl, ho, hb⟩; have R9 := hide ho.il; have F9 := hide ((unhide F8).below hb (Nat.le_refl _)); have B9 := hide ((unhide B8).trans (hb.mono (unhide B8).size)); clear ho hb)
      | (clear m2; go_at_call 14; refine (unhide c9 _ _ _ (unhide F9) (unhide R9)).mono ?_; rintro e w10 ⟨rfl, hb⟩; have B10 := hide ((unhide B9).trans (hb.mono (unhide B9).size)); clear hb)
      | (go_at_call 19; refine (unhide c10 _ _ ((unhide HI).below (unhide B10) (Nat.le_refl _))).mono ?_; rintro e w11 ⟨rfl, hb⟩; have B11 := hide ((unhide B10).trans (hb.mono (unhide B10).size)); clear hb)
      | (go_at_call 20; refine (unhide c11 _).mono ?_; rintro e w11 ⟨rfl, rfl⟩)
      | (go_at_call 17; refine (wakes_any _ ((unhide HG).below (unhide B11) (unhide HG).size)).mono ?_; rintro e w15 ⟨rfl, hb⟩; have B15 := hide ((unhide B11).trans (hb.mono (unhide B11).size)); clear hb))
    go_ret
    exact ⟨rfl, unhide B15⟩
  · simp only [if_neg h0] at c1 c10
    have c1 := hide c1
    have c10 := hide c10
    have ha := ha0 h0
    clear ha0 h0
    generalize ahd L s = a at *
    go_enter Tryd.func3, Tryd.ntmps3
    go_wp2_with (first
      | (go_at_call 9; refine (unhide c0).mono ?_; rintro e w2 ⟨v2, rfl, ho, hb⟩; have I2 := hide ho.il; have B2 := hide hb; clear ho hb)
      | (go_at_call 10; refine (unhide c1 _ _ (unhide I2) ((unhide HG).below (unhide B2) (unhide HG).size)).mono ?_; rintro e w3 ⟨rfl, hb⟩; have I3 := hide ((unhide I2).below hb (Nat.le_refl _)); have B3 := hide ((unhide B2).trans (hb.mono (unhide B2).size)); clear hb)
      | (go_at_call 11; refine (unhide c2 _ _ (unhide I3) ((unhide HG).below (unhide B3) (unhide HG).size)).mono ?_; rintro e w4 ⟨v4, rfl, ho, hb⟩; have I4 := hide ((unhide I3).below hb (Nat.le_refl _)); have F4 := hide ho.il; have B4 := hide ((unhide B3).trans (hb.mono (unhide B3).size)); clear ho hb)
      | (go_at_call 12; refine (unhide c3 _ _ (unhide I4) ((unhide HG).below (unhide B4) (unhide HG).size)).mono ?_; rintro e w5 ⟨rfl, hb⟩; have I5 := hide ((unhide I4).below hb (Nat.le_refl _)); have F5 := hide ((unhide F4).below hb (Nat.le_refl _)); have B5 := hide ((unhide B4).trans (hb.mono (unhide B4).size)); clear hb)
      | (go_at_call 13; refine (unhide c4 _ _ (unhide I5) ((unhide HG).below (unhide B5) (unhide HG).size)).mono ?_; rintro e w6 ⟨rfl, hb⟩; have I6 := hide ((unhide I5).below hb (Nat.le_refl _)); have F6 := hide ((unhide F5).below hb (Nat.le_refl _)); have B6 := hide ((unhide B5).trans (hb.mono (unhide B5).size)); clear hb)
      | (clear m1; go_at_call 14; refine (unhide c5 _ _ _ (unhide I6) ((unhide HI).below (unhide B6) (Nat.le_refl _))).mono ?_; rintro e w7 ⟨rfl, hb⟩; have I7 := hide ((unhide I6).below hb (Nat.le_refl _)); have F7 := hide ((unhide F6).below hb (Nat.le_refl _)); have B7 := hide ((unhide B6).trans (hb.mono (unhide B6).size)); clear hb)
      | (go_at_call 15; refine (unhide c6 _ _ ((unhide HI).below (unhide B7) (Nat.le_refl _))).mono ?_; rintro e w8 ⟨rfl, hb⟩; have I8 := hide ((unhide I7).below hb (Nat.le_refl _)); have F8 := hide ((unhide F7).below hb (Nat.le_refl _)); have B8 := hide ((unhide B7).trans (hb.mono (unhide B7).size)); clear hb)
      | (go_at_call 16; refine (unhide c7 _ _ (unhide I8)).mono ?_; rintro e w8 ⟨rfl, rfl⟩)
      | (go_at_call 18; refine (unhide c8 _ _ ((unhide HI).below (unhide B8) (Nat.le_refl _))).mono ?_; rintro e w9 ⟨v9, rfl, ho, hb⟩; have R9 := hide ho.il; have F9 := hide ((unhide F8).below hb (Nat.le_refl _)); have B9 := hide ((unhide B8).trans (hb.mono (unhide B8).size)); clear ho hb)
      | (clear m2; go_at_call 14; refine (unhide c9 _ _ _ (unhide F9) (unhide R9)).mono ?_; rintro e w10 ⟨rfl, hb⟩; have B10 := hide ((unhide B9).trans (hb.mono (unhide B9).size)); clear hb)
      | (go_at_call 19; refine (unhide c10 _ _ ((unhide HI).below (unhide B10) (Nat.le_refl _))).mono ?_; rintro e w11 ⟨rfl, hb⟩; have B11 := hide ((unhide B10).trans (hb.mono (unhide B10).size)); clear hb)
      | (go_at_call 20; refine (unhide c11 _).mono ?_; rintro e w11 ⟨rfl, rfl⟩)
      | (go_at_call 17; refine (wakes_any _ ((unhide HG).below (unhide B11) (unhide HG).size)).mono ?_; rintro e w15 ⟨rfl, hb⟩; have B15 := hide ((unhide B11).trans (hb.mono (unhide B11).size)); clear hb))
    go_ret
    exact ⟨rfl, unhide B15⟩
set_option maxRecDepth 100000 in
set_option maxHeartbeats 4000000 in
theorem exact_topic (t s : Int) (p : Option Addr) (n cap : Nat) (L : List Int) (w : World) (hG : Glob w) (hL : L.length = n) (hI : IL w (.slice p n cap) L) (hn : n ≤ 30) (hR : Ris L) (hs : s ∈ L) (hT : IsT t) :
    Calls Tryd.prog 3 #[.int .i64 t, .slice p n cap, .int .i64 s] w fun e w' => e = .returned (.bool true) ∧ Below w.heap.size w w' := by
  have h30 : decide ((30 : Int) < (n : Int)) = false := decide_eq_false (by omega)
  have c0 := hide (twin_il L _ w hI (by omega))
  have c1 := fun (v : Value) (w2 : World) (h : IL w2 v L) (hg : Glob w2) => ahead_both L s v w2 hg h hR hs
  have c2 := hide (fun (v : Value) (w2 : World) (h : IL w2 v L) (hg : Glob w2) => fingers_is L s v w2 hg h hR hs)
  obtain ⟨W, hW, hWl⟩ := way_ex hT hR.2 hs
  have hW1 : W.length ≤ 1000 := by omega
  have c3 := fun (v : Value) (w2 : World) (h : IL w2 v L) (hg : Glob w2) => next_is t L s v w2 hg h hR hs hT
  have c4 := hide (fun (v : Value) (w2 : World) (h : IL w2 v L) (hg : Glob w2) => way_is t L s W v w2 hg h hR hs hT hW hW1)
  have c5 := hide (fun (v v' : Value) (w2 : World) (h : IL w2 v L) (h' : IL w2 v' L) => ints_same L v v' w2 h h')
  have c6 := fun (v : Value) (w2 : World) (h : IL w2 v L) => nodes_ris L s v w2 h hR
  have c6 := hide (fun (v : Value) (w2 : World) (h : IL w2 v L) => (decide_eq_true hs) ▸ c6 v w2 h)
  have c7 := hide (fun (v : Value) (w2 : World) (h : IL w2 v L) => check_ok L s v w2 h hR hs)
  have c8 := hide (fun (v : Value) (w2 : World) (h : IL w2 v L) => rfingers_is L s v w2 h hR.2 hs)
  have c9 := hide (fun (v v' : Value) (w2 : World) (h : IL w2 v (fng L s)) (h' : IL w2 v' (fng L s)) => ints_same (fng L s) v v' w2 h h')
  have c10 := fun (v : Value) (w2 : World) (h : IL w2 v L) => rahead_is L s v w2 h hR.2 (hR.2 s hs)
  have c11 := hide (istopic_t t hT)
  have c12 := fun (v : Value) (w2 : World) (h : IL w2 v L) => rnext_is t L s v w2 h hR hs hT
  have c13 := hide (fun (v : Value) (w2 : World) (h : IL w2 v L) => rway_is t L s W v w2 h hR hs hT hW hW1)
  have c14 := hide (fun (v v' : Value) (w2 : World) (h : IL w2 v W) (h' : IL w2 v' W) => ints_same W v v' w2 h h')
  have hx0 : 0 ≤ nxt t L s := (hR.2 _ (nxt_mem t hs)).1
  have ha0 : oth L s ≠ [] → 0 ≤ ahd L s := fun q => (hR.2 _ (ahd_mem q).1).1
  have HI := hide hI
  have HG := hide hG
  have m1 := trivial
  have m2 := trivial
  clear hI hG hR hL hs hT hW hWl hW1
  by_cases h0 : oth L s = []
  · simp only [if_pos h0] at c1 c10
    have c1 := hide c1
    have c10 := hide c10
    clear ha0 h0
    by_cases hx : nxt t L s = s
    · simp only [if_pos hx] at c3 c12
      have c3 := hide c3
      have c12 := hide c12
      clear hx hx0
      have hmx : max (-1 : Int) 0 = 0 := by decide
      go_enter Tryd.func3, Tryd.ntmps3
      go_wp2_with (first
        | (go_at_call 9; refine (unhide c0).mono ?_; rintro e w2 ⟨v2, rfl, ho, hb⟩; have I2 := hide ho.il; have B2 := hide hb; clear ho hb)
        | (go_at_call 10; refine (unhide c1 _ _ (unhide I2) ((unhide HG).below (unhide B2) (unhide HG).size)).mono ?_; rintro e w3 ⟨rfl, hb⟩; have I3 := hide ((unhide I2).below hb (Nat.le_refl _)); have B3 := hide ((unhide B2).trans (hb.mono (unhide B2).size)); clear hb)
        | (go_at_call 11; refine (unhide c2 _ _ (unhide I3) ((unhide HG).below (unhide B3) (unhide HG).size)).mono ?_; rintro e w4 ⟨v4, rfl, ho, hb⟩; have I4 := hide ((unhide I3).below hb (Nat.le_refl _)); have F4 := hide ho.il; have B4 := hide ((unhide B3).trans (hb.mono (unhide B3).size)); clear ho hb)
        | (go_at_call 12; refine (unhide c3 _ _ (unhide I4) ((unhide HG).below (unhide B4) (unhide HG).size)).mono ?_; rintro e w5 ⟨rfl, hb⟩; have I5 := hide ((unhide I4).below hb (Nat.le_refl _)); have F5 := hide ((unhide F4).below hb (Nat.le_refl _)); have B5 := hide ((unhide B4).trans (hb.mono (unhide B4).size)); clear hb)
        | (go_at_call 13; refine (unhide c4 _ _ (unhide I5) ((unhide HG).below (unhide B5) (unhide HG).size)).mono ?_; rintro e w6 ⟨v6, rfl, ho, hb⟩; have I6 := hide ((unhide I5).below hb (Nat.le_refl _)); have F6 := hide ((unhide F5).below hb (Nat.le_refl _)); have V6 := hide ho.il; have B6 := hide ((unhide B5).trans (hb.mono (unhide B5).size)); clear ho hb)
        | (clear m1; go_at_call 14; refine (unhide c5 _ _ _ (unhide I6) ((unhide HI).below (unhide B6) (Nat.le_refl _))).mono ?_; rintro e w7 ⟨rfl, hb⟩; have I7 := hide ((unhide I6).below hb (Nat.le_refl _)); have F7 := hide ((unhide F6).below hb (Nat.le_refl _)); have V7 := hide ((unhide V6).below hb (Nat.le_refl _)); have B7 := hide ((unhide B6).trans (hb.mono (unhide B6).size)); clear hb)
        | (go_at_call 15; refine (unhide c6 _ _ ((unhide HI).below (unhide B7) (Nat.le_refl _))).mono ?_; rintro e w8 ⟨rfl, hb⟩; have I8 := hide ((unhide I7).below hb (Nat.le_refl _)); have F8 := hide ((unhide F7).below hb (Nat.le_refl _)); have V8 := hide ((unhide V7).below hb (Nat.le_refl _)); have B8 := hide ((unhide B7).trans (hb.mono (unhide B7).size)); clear hb)
        | (go_at_call 16; refine (unhide c7 _ _ (unhide I8)).mono ?_; rintro e w8 ⟨rfl, rfl⟩)
        | (go_at_call 18; refine (unhide c8 _ _ ((unhide HI).below (unhide B8) (Nat.le_refl _))).mono ?_; rintro e w9 ⟨v9, rfl, ho, hb⟩; have R9 := hide ho.il; have F9 := hide ((unhide F8).below hb (Nat.le_refl _)); have V9 := hide ((unhide V8).below hb (Nat.le_refl _)); have B9 := hide ((unhide B8).trans (hb.mono (unhide B8).size)); clear ho hb)
        | (clear m2; go_at_call 14; refine (unhide c9 _ _ _ (unhide F9) (unhide R9)).mono ?_; rintro e w10 ⟨rfl, hb⟩; have V10 := hide ((unhide V9).below hb (Nat.le_refl _)); have B10 := hide ((unhide B9).trans (hb.mono (unhide B9).size)); clear hb)
        | (go_at_call 19; refine (unhide c10 _ _ ((unhide HI).below (unhide B10) (Nat.le_refl _))).mono ?_; rintro e w11 ⟨rfl, hb⟩; have V11 := hide ((unhide V10).below hb (Nat.le_refl _)); have B11 := hide ((unhide B10).trans (hb.mono (unhide B10).size)); clear hb)
        | (go_at_call 20; refine (unhide c11 _).mono ?_; rintro e w11 ⟨rfl, rfl⟩)
        | (go_at_call 21; refine (unhide c12 _ _ ((unhide HI).below (unhide B11) (Nat.le_refl _))).mono ?_; rintro e w12 ⟨rfl, hb⟩; have V12 := hide ((unhide V11).below hb (Nat.le_refl _)); have B12 := hide ((unhide B11).trans (hb.mono (unhide B11).size)); clear hb)
        | (go_at_call 22; refine (unhide c13 _ _ ((unhide HI).below (unhide B12) (Nat.le_refl _))).mono ?_; rintro e w13 ⟨v13, rfl, ho, hb⟩; have R13 := hide ho.il; have V13 := hide ((unhide V12).below hb (Nat.le_refl _)); have B13 := hide ((unhide B12).trans (hb.mono (unhide B12).size)); clear ho hb)
        | (go_at_call 14; refine (unhide c14 _ _ _ (unhide V13) (unhide R13)).mono ?_; rintro e w14 ⟨rfl, hb⟩; have B14 := hide ((unhide B13).trans (hb.mono (unhide B13).size)); clear hb)
        | (go_at_call 17; refine (wakes_any _ ((unhide HG).below (unhide B14) (unhide HG).size)).mono ?_; rintro e w15 ⟨rfl, hb⟩; have B15 := hide ((unhide B14).trans (hb.mono (unhide B14).size)); clear hb))
      go_ret
      exact ⟨rfl, unhide B15⟩
    · simp only [if_neg hx] at c3 c12
      have c3 := hide c3
      have c12 := hide c12
      clear hx
      generalize nxt t L s = x at *
      have hmx : max x 0 = x := by omega
      go_enter Tryd.func3, Tryd.ntmps3
      go_wp2_with (first
        | (go_at_call 9; refine (unhide c0).mono ?_; rintro e w2 ⟨v2, rfl, ho, hb⟩; have I2 := hide ho.il; have B2 := hide hb; clear ho hb)
        | (go_at_call 10; refine (unhide c1 _ _ (unhide I2) ((unhide HG).below (unhide B2) (unhide HG).size)).mono ?_; rintro e w3 ⟨rfl, hb⟩; have I3 := hide ((unhide I2).below hb (Nat.le_refl _)); have B3 := hide ((unhide B2).trans (hb.mono (unhide B2).size)); clear hb)
        | (go_at_call 11; refine (unhide c2 _ _ (unhide I3) ((unhide HG).below (unhide B3) (unhide HG).size)).mono ?_; rintro e w4 ⟨v4, rfl, ho, hb⟩; have I4 := hide ((unhide I3).below hb (Nat.le_refl _)); have F4 := hide ho.il; have B4 := hide ((unhide B3).trans (hb.mono (unhide B3).size)); clear ho hb)
        | (go_at_call 12; refine (unhide c3 _ _ (unhide I4) ((unhide HG).below (unhide B4) (unhide HG).size)).mono ?_; rintro e w5 ⟨rfl, hb⟩; have I5 := hide ((unhide I4).below hb (Nat.le_refl _)); have F5 := hide ((unhide F4).below hb (Nat.le_refl _)); have B5 := hide ((unhide B4).trans (hb.mono (unhide B4).size)); clear hb)
        | (go_at_call 13; refine (unhide c4 _ _ (unhide I5) ((unhide HG).below (unhide B5) (unhide HG).size)).mono ?_; rintro e w6 ⟨v6, rfl, ho, hb⟩; have I6 := hide ((unhide I5).below hb (Nat.le_refl _)); have F6 := hide ((unhide F5).below hb (Nat.le_refl _)); have V6 := hide ho.il; have B6 := hide ((unhide B5).trans (hb.mono (unhide B5).size)); clear ho hb)
        | (clear m1; go_at_call 14; refine (unhide c5 _ _ _ (unhide I6) ((unhide HI).below (unhide B6) (Nat.le_refl _))).mono ?_; rintro e w7 ⟨rfl, hb⟩; have I7 := hide ((unhide I6).below hb (Nat.le_refl _)); have F7 := hide ((unhide F6).below hb (Nat.le_refl _)); have V7 := hide ((unhide V6).below hb (Nat.le_refl _)); have B7 := hide ((unhide B6).trans (hb.mono (unhide B6).size)); clear hb)
        | (go_at_call 15; refine (unhide c6 _ _ ((unhide HI).below (unhide B7) (Nat.le_refl _))).mono ?_; rintro e w8 ⟨rfl, hb⟩; have I8 := hide ((unhide I7).below hb (Nat.le_refl _)); have F8 := hide ((unhide F7).below hb (Nat.le_refl _)); have V8 := hide ((unhide V7).below hb (Nat.le_refl _)); have B8 := hide ((unhide B7).trans (hb.mono (unhide B7).size)); clear hb)
        | (go_at_call 16; refine (unhide c7 _ _ (unhide I8)).mono ?_; rintro e w8 ⟨rfl, rfl⟩)
        | (go_at_call 18; refine (unhide c8 _ _ ((unhide HI).below (unhide B8) (Nat.le_refl _))).mono ?_; rintro e w9 ⟨v9, rfl, ho, hb⟩; have R9 := hide ho.il; have F9 := hide ((unhide F8).below hb (Nat.le_refl _)); have V9 := hide ((unhide V8).below hb (Nat.le_refl _)); have B9 := hide ((unhide B8).trans (hb.mono (unhide B8).size)); clear ho hb)
        | (clear m2; go_at_call 14; refine (unhide c9 _ _ _ (unhide F9) (unhide R9)).mono ?_; rintro e w10 ⟨rfl, hb⟩; have V10 := hide ((unhide V9).below hb (Nat.le_refl _)); have B10 := hide ((unhide B9).trans (hb.mono (unhide B9).size)); clear hb)
        | (go_at_call 19; refine (unhide c10 _ _ ((unhide HI).below (unhide B10) (Nat.le_refl _))).mono ?_; rintro e w11 ⟨rfl, hb⟩; have V11 := hide ((unhide V10).below hb (Nat.le_refl _)); have B11 := hide ((unhide B10).trans (hb.mono (unhide B10).size)); clear hb)
        | (go_at_call 20; refine (unhide c11 _).mono ?_; rintro e w11 ⟨rfl, rfl⟩)
        | (go_at_call 21; refine (unhide c12 _ _ ((unhide HI).below (unhide B11) (Nat.le_refl _))).mono ?_; rintro e w12 ⟨rfl, hb⟩; have V12 := hide ((unhide V11).below hb (Nat.le_refl _)); have B12 := hide ((unhide B11).trans (hb.mono (unhide B11).size)); clear hb)
        | (go_at_call 22; refine (unhide c13 _ _ ((unhide HI).below (unhide B12) (Nat.le_refl _))).mono ?_; rintro e w13 ⟨v13, rfl, ho, hb⟩; have R13 := hide ho.il; have V13 := hide ((unhide V12).below hb (Nat.le_refl _)); have B13 := hide ((unhide B12).trans (hb.mono (unhide B12).size)); clear ho hb)
        | (go_at_call 14; refine (unhide c14 _ _ _ (unhide V13) (unhide R13)).mono ?_; rintro e w14 ⟨rfl, hb⟩; have B14 := hide ((unhide B13).trans (hb.mono (unhide B13).size)); clear hb)
        | (go_at_call 17; refine (wakes_any _ ((unhide HG).below (unhide B14) (unhide HG).size)).mono ?_; rintro e w15 ⟨rfl, hb⟩; have B15 := hide ((unhide B14).trans (hb.mono (unhide B14).size)); clear hb))
      go_ret
      exact ⟨rfl, unhide B15⟩
  · simp only [if_neg h0] at c1 c10
    have c1 := hide c1
    have c10 := hide c10
    have ha := ha0 h0
    clear ha0 h0
    generalize ahd L s = a at *
    by_cases hx : nxt t L s = s
    · simp only [if_pos hx] at c3 c12
      have c3 := hide c3
      have c12 := hide c12
      clear hx hx0
      have hmx : max (-1 : Int) 0 = 0 := by decide
      go_enter Tryd.func3, Tryd.ntmps3
      go_wp2_with (first
        | (go_at_call 9; refine (unhide c0).mono ?_; rintro e w2 ⟨v2, rfl, ho, hb⟩; have I2 := hide ho.il; have B2 := hide hb; clear ho hb)
        | (go_at_call 10; refine (unhide c1 _ _ (unhide I2) ((unhide HG).below (unhide B2) (unhide HG).size)).mono ?_; rintro e w3 ⟨rfl, hb⟩; have I3 := hide ((unhide I2).below hb (Nat.le_refl _)); have B3 := hide ((unhide B2).trans (hb.mono (unhide B2).size)); clear hb)
        | (go_at_call 11; refine (unhide c2 _ _ (unhide I3) ((unhide HG).below (unhide B3) (unhide HG).size)).mono ?_; rintro e w4 ⟨v4, rfl, ho, hb⟩; have I4 := hide ((unhide I3).below hb (Nat.le_refl _)); have F4 := hide ho.il; have B4 := hide ((unhide B3).trans (hb.mono (unhide B3).size)); clear ho hb)
        | (go_at_call 12; refine (unhide c3 _ _ (unhide I4) ((unhide HG).below (unhide B4) (unhide HG).size)).mono ?_; rintro e w5 ⟨rfl, hb⟩; have I5 := hide ((unhide I4).below hb (Nat.le_refl _)); have F5 := hide ((unhide F4).below hb (Nat.le_refl _)); have B5 := hide ((unhide B4).trans (hb.mono (unhide B4).size)); clear hb)
        | (go_at_call 13; refine (unhide c4 _ _ (unhide I5) ((unhide HG).below (unhide B5) (unhide HG).size)).mono ?_; rintro e w6 ⟨v6, rfl, ho, hb⟩; have I6 := hide ((unhide I5).below hb (Nat.le_refl _)); have F6 := hide ((unhide F5).below hb (Nat.le_refl _)); have V6 := hide ho.il; have B6 := hide ((unhide B5).trans (hb.mono (unhide B5).size)); clear ho hb)
        | (clear m1; go_at_call 14; refine (unhide c5 _ _ _ (unhide I6) ((unhide HI).below (unhide B6) (Nat.le_refl _))).mono ?_; rintro e w7 ⟨rfl, hb⟩; have I7 := hide ((unhide I6).below hb (Nat.le_refl _)); have F7 := hide ((unhide F6).below hb (Nat.le_refl _)); have V7 := hide ((unhide V6).below hb (Nat.le_refl _)); have B7 := hide ((unhide B6).trans (hb.mono (unhide B6).size)); clear hb)
        | (go_at_call 15; refine (unhide c6 _ _ ((unhide HI).below (unhide B7) (Nat.le_refl _))).mono ?_; rintro e w8 ⟨rfl, hb⟩; have I8 := hide ((unhide I7).below hb (Nat.le_refl _)); have F8 := hide ((unhide F7).below hb (Nat.le_refl _)); have V8 := hide ((unhide V7).below hb (Nat.le_refl _)); have B8 := hide ((unhide B7).trans (hb.mono (unhide B7).size)); clear hb)
        | (go_at_call 16; refine (unhide c7 _ _ (unhide I8)).mono ?_; rintro e w8 ⟨rfl, rfl⟩)
        | (go_at_call 18; refine (unhide c8 _ _ ((unhide HI).below (unhide B8) (Nat.le_refl _))).mono ?_; rintro e w9 ⟨v9, rfl, ho, hb⟩; have R9 := hide ho.il; have F9 := hide ((unhide F8).below hb (Nat.le_refl _)); have V9 := hide ((unhide V8).below hb (Nat.le_refl _)); have B9 := hide ((unhide B8).trans (hb.mono (unhide B8).size)); clear ho hb)
        | (clear m2; go_at_call 14; refine (unhide c9 _ _ _ (unhide F9) (unhide R9)).mono ?_; rintro e w10 ⟨rfl, hb⟩; have V10 := hide ((unhide V9).below hb (Nat.le_refl _)); have B10 := hide ((unhide B9).trans (hb.mono (unhide B9).size)); clear hb)
        | (go_at_call 19; refine (unhide c10 _ _ ((unhide HI).below (unhide B10) (Nat.le_refl _))).mono ?_; rintro e w11 ⟨rfl, hb⟩; have V11 := hide ((unhide V10).below hb (Nat.le_refl _)); have B11 := hide ((unhide B10).trans (hb.mono (unhide B10).size)); clear hb)
        | (go_at_call 20; refine (unhide c11 _).mono ?_; rintro e w11 ⟨rfl, rfl⟩)
        | (go_at_call 21; refine (unhide c12 _ _ ((unhide HI).below (unhide B11) (Nat.le_refl _))).mono ?_; rintro e w12 ⟨rfl, hb⟩; have V12 := hide ((unhide V11).below hb (Nat.le_refl _)); have B12 := hide ((unhide B11).trans (hb.mono (unhide B11).size)); clear hb)
        | (go_at_call 22; refine (unhide c13 _ _ ((unhide HI).below (unhide B12) (Nat.le_refl _))).mono ?_; rintro e w13 ⟨v13, rfl, ho, hb⟩; have R13 := hide ho.il; have V13 := hide ((unhide V12).below hb (Nat.le_refl _)); have B13 := hide ((unhide B12).trans (hb.mono (unhide B12).size)); clear ho hb)
        | (go_at_call 14; refine (unhide c14 _ _ _ (unhide V13) (unhide R13)).mono ?_; rintro e w14 ⟨rfl, hb⟩; have B14 := hide ((unhide B13).trans (hb.mono (unhide B13).size)); clear hb)
        | (go_at_call 17; refine (wakes_any _ ((unhide HG).below (unhide B14) (unhide HG).size)).mono ?_; rintro e w15 ⟨rfl, hb⟩; have B15 := hide ((unhide B14).trans (hb.mono (unhide B14).size)); clear hb))
      go_ret
      exact ⟨rfl, unhide B15⟩
    · simp only [if_neg hx] at c3 c12
      have c3 := hide c3
      have c12 := hide c12
      clear hx
      generalize nxt t L s = x at *
      have hmx : max x 0 = x := by omega
      go_enter Tryd.func3, Tryd.ntmps3
      go_wp2_with (first
        | (go_at_call 9; refine (unhide c0).mono ?_; rintro e w2 ⟨v2, rfl, ho, hb⟩; have I2 := hide ho.il; have B2 := hide hb; clear ho hb)
        | (go_at_call 10; refine (unhide c1 _ _ (unhide I2) ((unhide HG).below (unhide B2) (unhide HG).size)).mono ?_; rintro e w3 ⟨rfl, hb⟩; have I3 := hide ((unhide I2).below hb (Nat.le_refl _)); have B3 := hide ((unhide B2).trans (hb.mono (unhide B2).size)); clear hb)
        | (go_at_call 11; refine (unhide c2 _ _ (unhide I3) ((unhide HG).below (unhide B3) (unhide HG).size)).mono ?_; rintro e w4 ⟨v4, rfl, ho, hb⟩; have I4 := hide ((unhide I3).below hb (Nat.le_refl _)); have F4 := hide ho.il; have B4 := hide ((unhide B3).trans (hb.mono (unhide B3).size)); clear ho hb)
        | (go_at_call 12; refine (unhide c3 _ _ (unhide I4) ((unhide HG).below (unhide B4) (unhide HG).size)).mono ?_; rintro e w5 ⟨rfl, hb⟩; have I5 := hide ((unhide I4).below hb (Nat.le_refl _)); have F5 := hide ((unhide F4).below hb (Nat.le_refl _)); have B5 := hide ((unhide B4).trans (hb.mono (unhide B4).size)); clear hb)
        | (go_at_call 13; refine (unhide c4 _ _ (unhide I5) ((unhide HG).below (unhide B5) (unhide HG).size)).mono ?_; rintro e w6 ⟨v6, rfl, ho, hb⟩; have I6 := hide ((unhide I5).below hb (Nat.le_refl _)); have F6 := hide ((unhide F5).below hb (Nat.le_refl _)); have V6 := hide ho.il; have B6 := hide ((unhide B5).trans (hb.mono (unhide B5).size)); clear ho hb)
        | (clear m1; go_at_call 14; refine (unhide c5 _ _ _ (unhide I6) ((unhide HI).below (unhide B6) (Nat.le_refl _))).mono ?_; rintro e w7 ⟨rfl, hb⟩; have I7 := hide ((unhide I6).below hb (Nat.le_refl _)); have F7 := hide ((unhide F6).below hb (Nat.le_refl _)); have V7 := hide ((unhide V6).below hb (Nat.le_refl _)); have B7 := hide ((unhide B6).trans (hb.mono (unhide B6).size)); clear hb)
        | (go_at_call 15; refine (unhide c6 _ _ ((unhide HI).below (unhide B7) (Nat.le_refl _))).mono ?_; rintro e w8 ⟨rfl, hb⟩; have I8 := hide ((unhide I7).below hb (Nat.le_refl _)); have F8 := hide ((unhide F7).below hb (Nat.le_refl _)); have V8 := hide ((unhide V7).below hb (Nat.le_refl _)); have B8 := hide ((unhide B7).trans (hb.mono (unhide B7).size)); clear hb)
        | (go_at_call 16; refine (unhide c7 _ _ (unhide I8)).mono ?_; rintro e w8 ⟨rfl, rfl⟩)
        | (go_at_call 18; refine (unhide c8 _ _ ((unhide HI).below (unhide B8) (Nat.le_refl _))).mono ?_; rintro e w9 ⟨v9, rfl, ho, hb⟩; have R9 := hide ho.il; have F9 := hide ((unhide F8).below hb (Nat.le_refl _)); have V9 := hide ((unhide V8).below hb (Nat.le_refl _)); have B9 := hide ((unhide B8).trans (hb.mono (unhide B8).size)); clear ho hb)
        | (clear m2; go_at_call 14; refine (unhide c9 _ _ _ (unhide F9) (unhide R9)).mono ?_; rintro e w10 ⟨rfl, hb⟩; have V10 := hide ((unhide V9).below hb (Nat.le_refl _)); have B10 := hide ((unhide B9).trans (hb.mono (unhide B9).size)); clear hb)
        | (go_at_call 19; refine (unhide c10 _ _ ((unhide HI).below (unhide B10) (Nat.le_refl _))).mono ?_; rintro e w11 ⟨rfl, hb⟩; have V11 := hide ((unhide V10).below hb (Nat.le_refl _)); have B11 := hide ((unhide B10).trans (hb.mono (unhide B10).size)); clear hb)
        | (go_at_call 20; refine (unhide c11 _).mono ?_; rintro e w11 ⟨rfl, rfl⟩)
        | (go_at_call 21; refine (unhide c12 _ _ ((unhide HI).below (unhide B11) (Nat.le_refl _))).mono ?_; rintro e w12 ⟨rfl, hb⟩; have V12 := hide ((unhide V11).below hb (Nat.le_refl _)); have B12 := hide ((unhide B11).trans (hb.mono (unhide B11).size)); clear hb)
        | (go_at_call 22; refine (unhide c13 _ _ ((unhide HI).below (unhide B12) (Nat.le_refl _))).mono ?_; rintro e w13 ⟨v13, rfl, ho, hb⟩; have R13 := hide ho.il; have V13 := hide ((unhide V12).below hb (Nat.le_refl _)); have B13 := hide ((unhide B12).trans (hb.mono (unhide B12).size)); clear ho hb)
        | (go_at_call 14; refine (unhide c14 _ _ _ (unhide V13) (unhide R13)).mono ?_; rintro e w14 ⟨rfl, hb⟩; have B14 := hide ((unhide B13).trans (hb.mono (unhide B13).size)); clear hb)
        | (go_at_call 17; refine (wakes_any _ ((unhide HG).below (unhide B14) (unhide HG).size)).mono ?_; rintro e w15 ⟨rfl, hb⟩; have B15 := hide ((unhide B14).trans (hb.mono (unhide B14).size)); clear hb))
      go_ret
      exact ⟨rfl, unhide B15⟩
end Go.Proofs.YtmfgbecdimndcaaDoor
