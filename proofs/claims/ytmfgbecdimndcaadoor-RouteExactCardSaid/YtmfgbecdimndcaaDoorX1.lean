/- Walk of bellwetherlaw11.RouteExact: too many, or no live nodes. -/
import Derived.Test.YtmfgbecdimndcaaDoorE6
namespace Go.Proofs.YtmfgbecdimndcaaDoor
open Go.RowKit

set_option maxRecDepth 100000 in
theorem exact_many (t s : Int) (p : Option Addr) (n cap : Nat) (w : World) (hn : 30 < n) (hm : n ≤ maxLen) :
    Calls Tryd.prog 3 #[.int .i64 t, .slice p n cap, .int .i64 s] w fun e w' => e = .returned (.bool true) ∧ w' = w := by
  unfold maxLen at hm
  go_enter Tryd.func3, Tryd.ntmps3
  go_wp2
  go_ret
  exact ⟨rfl, rfl⟩
theorem nodes_no (L : List Int) (s : Int) (v : Value) (w : World) (h : IL w v L) (hR : ¬ (Ris L ∧ s ∈ L)) :
    Calls Tryd.prog 15 #[v, .int .i64 s] w fun e w' => e = .returned (.bool false) ∧ Below w.heap.size w w' := by
  by_cases hr : Ris L
  · have hs : ¬ s ∈ L := fun q => hR ⟨hr, q⟩
    have c := nodes_ris L s v w h hr
    rw [decide_eq_false hs] at c
    exact c
  · exact nodes_not L s v w h hr
set_option maxRecDepth 100000 in
set_option maxHeartbeats 4000000 in
theorem exact_arg (t s : Int) (p : Option Addr) (n cap : Nat) (L : List Int) (w : World) (hG : Glob w) (hL : L.length = n) (hI : IL w (.slice p n cap) L) (hn : n ≤ 30) (hR : ¬ (Ris L ∧ s ∈ L)) :
    Calls Tryd.prog 3 #[.int .i64 t, .slice p n cap, .int .i64 s] w fun e w' => e = .returned (.bool true) ∧ Below w.heap.size w w' := by
  have h30 : decide ((30 : Int) < (n : Int)) = false := decide_eq_false (by omega)
  have c0 := hide (twin_il L _ w hI (by omega))
  have c1 := hide (fun (v : Value) (w2 : World) (h : IL w2 v L) => ahead_arg L s v w2 h hR)
  have c2 := hide (fun (v : Value) (w2 : World) (h : IL w2 v L) => fingers_arg L s v w2 h hR)
  have c3 := hide (fun (v : Value) (w2 : World) (h : IL w2 v L) => next_arg t L s v w2 h hR)
  have c4 := hide (fun (v : Value) (w2 : World) (h : IL w2 v L) (hg : Glob w2) => way_arg t L s v w2 hg h (.inl hR))
  have c5 := hide (fun (v v' : Value) (w2 : World) (h : IL w2 v L) (h' : IL w2 v' L) => ints_same L v v' w2 h h')
  have c6 := hide (fun (v : Value) (w2 : World) (h : IL w2 v L) => nodes_no L s v w2 h hR)
  have c7 := hide (fun (v : Value) (w2 : World) (h : IL w2 v L) => check_arg L s v w2 h hR)
  have HI := hide hI
  have HG := hide hG
  clear hI hG hR hL
  go_enter Tryd.func3, Tryd.ntmps3
  go_wp2_with (first
    | (go_at_call 9; refine (unhide c0).mono ?_; rintro e w2 ⟨v2, rfl, ho, hb⟩; have I2 := hide ho.il; have B2 := hide hb; clear ho hb)
    | (go_at_call 10; refine (unhide c1 _ _ (unhide I2)).mono ?_; rintro e w3 ⟨rfl, hb⟩; have I3 := hide ((unhide I2).below hb (Nat.le_refl _)); have B3 := hide ((unhide B2).trans (hb.mono (unhide B2).size)); clear hb)
    | (go_at_call 11; refine (unhide c2 _ _ (unhide I3)).mono ?_; rintro e w3 ⟨rfl, rfl⟩)
    | (go_at_call 12; refine (unhide c3 _ _ (unhide I3)).mono ?_; rintro e w3 ⟨rfl, rfl⟩)
    | (go_at_call 13; refine (unhide c4 _ _ (unhide I3) ((unhide HG).below (unhide B3) (unhide HG).size)).mono ?_; rintro e w4 ⟨rfl, hb⟩; have I4 := hide ((unhide I3).below hb (Nat.le_refl _)); have B4 := hide ((unhide B3).trans (hb.mono (unhide B3).size)); clear hb)
    | (go_at_call 14; refine (unhide c5 _ _ _ (unhide I4) ((unhide HI).below (unhide B4) (Nat.le_refl _))).mono ?_; rintro e w5 ⟨rfl, hb⟩; have I5 := hide ((unhide I4).below hb (Nat.le_refl _)); have B5 := hide ((unhide B4).trans (hb.mono (unhide B4).size)); clear hb)
    | (go_at_call 15; refine (unhide c6 _ _ ((unhide HI).below (unhide B5) (Nat.le_refl _))).mono ?_; rintro e w6 ⟨rfl, hb⟩; have I6 := hide ((unhide I5).below hb (Nat.le_refl _)); have B6 := hide ((unhide B5).trans (hb.mono (unhide B5).size)); clear hb)
    | (go_at_call 16; refine (unhide c7 _ _ (unhide I6)).mono ?_; rintro e w6 ⟨rfl, rfl⟩)
    | (go_at_call 17; refine (wakes_any _ ((unhide HG).below (unhide B6) (unhide HG).size)).mono ?_; rintro e w7 ⟨rfl, hb⟩; have B7 := hide ((unhide B6).trans (hb.mono (unhide B6).size)); clear hb))
  go_ret
  exact ⟨rfl, unhide B7⟩
end Go.Proofs.YtmfgbecdimndcaaDoor
