/- Walk of bellwetherlaw03.RingExact: a topic and nodes. -/
import Derived.Test.YteldgklcfemenaaDoorC3
namespace Go.Proofs.YteldgklcfemenaaDoor
open Go.RowKit

set_option maxRecDepth 100000 in
set_option maxHeartbeats 4000000 in
theorem exact_ok (t a b : Int) (p : Option Addr) (n cap : Nat) (F : Nat → Int) (w : World) (hG : Glob w) (hI : ISl w (.slice p n cap) n F) (hn : n ≤ 50) (h0 : 0 < n) (hN : NodesTo F n) (hT : IsT t) :
    Calls Tryd.prog 3 #[.int .i64 t, .int .i64 a, .int .i64 b, .slice p n cap] w fun e w' => e = .returned (.bool true) ∧ Below w.heap.size w w' := by
  have h50 : decide ((50 : Int) < (n : Int)) = false := decide_eq_false (by omega)
  have HG := hide hG
  have HI := hide hI
  have cN := hide (nearer_nb t a b)
  have cR := hide (rnearer_nb t a b)
  have tT := hide (topic_is t hT)
  have iT := hide (istopic_t t hT)
  have rT := hide (rtopic_is t hT)
  have oT := hide (fun v w hG h => owner_pos t v n F hT w hG h h0 hN)
  have rO := hide (fun v w h => rowner_is t v n F hT w h h0 hN)
  have HN := hide hN
  have hz : ((n : Int) == 0) = false := beq_false_of_ne (by omega)
  clear hN
  generalize own t F (n - 1) = OO at *
  clear hG hI
  generalize nb t a b = x at *
  have m1 := trivial
  by_cases hA : IsN a
  all_goals try have nA := hide (node_is a hA)
  all_goals try have nA := hide (fun w (_ : Glob w) => node_no a hA w)
  all_goals try have iA := hide (isnode_t a hA)
  all_goals try have iA := hide (isnode_f a hA)
  all_goals try have rA := hide (rnode_is a hA)
  all_goals try have gA := hide (gap_is t a hT hA)
  all_goals try have gA := hide (gap_no t a (.inr hA))
  all_goals try have sA := hide (rgap_is t a hT hA)
  all_goals clear hT
  all_goals generalize gp t a = GA at *
  all_goals generalize tk t = KT at *
  all_goals clear hA
  all_goals generalize nk a = NA at *
  all_goals
    go_enter Tryd.func3, Tryd.ntmps3
    go_wp2_with (first
      | (at_builtin
         refine wpList_append_isl rfl (.tmp 23) (.tmp 24) rfl _ n F rfl rfl (unhide HI) (by omega) ?_
         intro vi w1 hown hbel
         have B1 := hide hbel
         have I1 := hide (isl_of_owns hown)
         have G1 := (unhide HG).below hbel (unhide HG).size
         clear hown hbel)
      | (go_at_call 8; refine (unhide nA _ G1).mono ?_; rintro e w1 ⟨rfl, rfl⟩)
      | (go_at_call 9; refine (unhide tT _ G1).mono ?_; rintro e w1 ⟨rfl, rfl⟩)
      | (go_at_call 10; refine (unhide gA _ G1).mono ?_; rintro e w1 ⟨rfl, rfl⟩)
      | (go_at_call 11; refine (unhide oT _ _ G1 (unhide I1)).mono ?_; rintro e w1 ⟨rfl, rfl⟩)
      | (go_at_call 12; refine (unhide cN _ G1).mono ?_; rintro e w1 ⟨rfl, rfl⟩)
      | (go_at_call 13; refine (unhide cR _).mono ?_; rintro e w2 ⟨rfl, hb⟩; have B2 := hide ((unhide B1).trans (hb.mono (unhide B1).size)); have I2 := hide ((unhide I1).below hb (Nat.le_refl _)); clear hb))
    clear G1
    have L2 := hide ((unhide HI).below (unhide B2) (Nat.le_refl _))
    go_loopw [18] (fun xi w3 => ∃ k : Nat, k ≤ n ∧ xi = .int .i64 k ∧ Below w2.heap.size w2 w3) (fun i _ => n - (intOf i).toNat)
    case atStart => exact ⟨0, by omega, rfl, Below.refl _ _⟩
    case round =>
      obtain ⟨k, hk, rfl, hbel⟩ := hrel
      by_cases hlt : k < n
      · rcases (unhide I2).below hbel (Nat.le_refl _) with ⟨h0, _⟩ | ⟨g2, o2, c2, rfl, hle2, hc2, hg2, hcell2⟩
        · omega
        · rcases (unhide L2).below hbel (Nat.le_refl _) with ⟨h0, _⟩ | ⟨g3, o3, c3, hv3, hle3, hc3, hg3, hcell3⟩
          · omega
          · injection hv3 with hp _ hc
            subst hp
            subst hc
            unfold maxLen at hc2 hc3
            have k1 := hcell2 k hlt
            have k2 := hcell3 k hlt
            clear hcell2 hcell3
            have HB := hide hbel
            clear hbel
            generalize F k = y at *
            go_wp2
            go_quiet (fail)
            go_wp2
            go_roundw
            case rel => exact ⟨k + 1, by omega, by go_num, below_drewN (unhide HB) nq⟩
            case measure => simp [intOf]; omega
      · have B3 := (unhide B2).trans (hbel.mono (unhide B2).size)
        have G3 := (unhide HG).below B3 (unhide HG).size
        have B3 := hide B3
        have L3 := hide ((unhide L2).below hbel (Nat.le_refl _))
        clear hbel I2 L2 B2 B1 I1
        obtain rfl : n = k := by omega
        obtain ⟨w3, hw3⟩ : ∃ x, x = wr := ⟨_, rfl⟩
        subst hw3
        go_wp2_with (first
          | (go_at_call 14; refine (unhide iA _).mono ?_; rintro e w3 ⟨rfl, rfl⟩)
          | (go_at_call 15; refine (unhide rA _).mono ?_; rintro e w4 ⟨rfl, hb⟩; replace G3 := G3.below hb G3.size; replace B3 := hide ((unhide B3).trans (hb.mono (unhide B3).size)); replace L3 := hide ((unhide L3).below hb (Nat.le_refl _)); clear hb)
          | (go_at_call 16; refine (unhide iT _).mono ?_; rintro e w3 ⟨rfl, rfl⟩)
          | (go_at_call 18; refine (unhide rT _).mono ?_; rintro e w4 ⟨rfl, hb⟩; replace G3 := G3.below hb G3.size; replace B3 := hide ((unhide B3).trans (hb.mono (unhide B3).size)); replace L3 := hide ((unhide L3).below hb (Nat.le_refl _)); clear hb)
          | (go_at_call 19; refine (unhide sA _).mono ?_; rintro e w4 ⟨rfl, hb⟩; replace G3 := G3.below hb G3.size; replace B3 := hide ((unhide B3).trans (hb.mono (unhide B3).size)); replace L3 := hide ((unhide L3).below hb (Nat.le_refl _)); clear hb))
        clear iA
        go_loop [19] (fun xi => ∃ k : Nat, k ≤ n ∧ xi = .int .i64 k) (fun i => n - (intOf i).toNat)
        case atStart => exact ⟨0, by omega, rfl⟩
        case round =>
          obtain ⟨k, hk, rfl⟩ := hrel
          by_cases hlt : k < n
          · rcases unhide L3 with ⟨h0, _⟩ | ⟨g3, o3, c3, hv3, hle3, hc3, hg3, hcell3⟩
            · omega
            · injection hv3 with hp _ hc
              subst hp
              subst hc
              unfold maxLen at hc3
              have k2 := hcell3 k (by omega)
              have iK := hide (isnode_t (F k) (unhide HN k (by omega)))
              clear hcell3
              generalize F k = y at *
              go_wp2_with (go_at_call 14; refine (unhide iK _).mono ?_; rintro e w5 ⟨rfl, rfl⟩)
              go_round
              case rel => exact ⟨k + 1, by omega, by go_num⟩
              case measure => simp [intOf]; omega
          · obtain rfl : n = k := by omega
            go_wp2_with (first
              | (go_at_call 20; refine (unhide rO _ _ (unhide L3)).mono ?_; rintro e w6 ⟨rfl, hb⟩; replace G3 := G3.below hb G3.size; replace B3 := hide ((unhide B3).trans (hb.mono (unhide B3).size)); clear hb)
              | (go_at_call 17; refine (wakes_any _ G3).mono ?_; rintro e w9 ⟨rfl, hb9⟩; have B9 := hide ((unhide B3).trans (hb9.mono (unhide B3).size))))
            go_ret
            exact ⟨rfl, unhide B9⟩
end Go.Proofs.YteldgklcfemenaaDoor
