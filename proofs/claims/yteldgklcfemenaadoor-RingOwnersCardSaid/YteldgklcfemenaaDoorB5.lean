/- Walk of bellwetherlaw03.RingOwners. -/
import Derived.Test.YteldgklcfemenaaDoorB4
import Derived.Test.YteldgklcfemenaaDoorB2
namespace Go.Proofs.YteldgklcfemenaaDoor
open Go.RowKit

theorem ownerslaw_none (t : Int) (x y : Option Addr) (n k cap cap2 : Nat) (w : World) (hn : n = 0 ∨ 20 < n ∨ k = 0 ∨ 20 < k) (hm : n ≤ maxLen) (hm2 : k ≤ maxLen) :
    Calls Tryd.prog 7 #[.int .i64 t, .slice x n cap, .slice y k cap2] w fun e w' => e = .returned (.bool true) ∧ w' = w := by
  unfold maxLen at hm hm2
  by_cases h1 : 20 < n
  · clear hn
    go_enter Tryd.func7, Tryd.ntmps7
    go_wp2
    go_ret
    exact ⟨rfl, rfl⟩
  · by_cases h2 : 20 < k
    · clear hn
      go_enter Tryd.func7, Tryd.ntmps7
      go_wp2
      go_ret
      exact ⟨rfl, rfl⟩
    · by_cases h3 : n = 0
      · subst h3
        clear hn
        go_enter Tryd.func7, Tryd.ntmps7
        go_wp2
        go_ret
        exact ⟨rfl, rfl⟩
      · obtain rfl : k = 0 := by omega
        clear hn
        have hz : ((n : Int) == 0) = false := beq_false_of_ne (by omega)
        go_enter Tryd.func7, Tryd.ntmps7
        go_wp2
        go_ret
        exact ⟨rfl, rfl⟩

set_option maxRecDepth 100000 in
set_option maxHeartbeats 4000000 in
theorem ownerslaw_some (t : Int) (b0 off m cap b1 off1 j cap1 : Nat) (F F1 : Nat → Int) (w : World) (hG : Glob w) (hm0 : 0 < m) (hj0 : 0 < j) (hm : m ≤ 20) (hj : j ≤ 20) (hcap : m ≤ cap) (hcap2 : cap ≤ maxLen) (hcap1 : j ≤ cap1) (hcap3 : cap1 ≤ maxLen)
    (hb0 : b0 < w.heap.size) (hc : ∀ i, i < m → w.cell? ⟨b0, off + i, none⟩ = some (.int .i64 (F i)))
    (hb1 : b1 < w.heap.size) (hc1 : ∀ i, i < j → w.cell? ⟨b1, off1 + i, none⟩ = some (.int .i64 (F1 i))) :
    Calls Tryd.prog 7 #[.int .i64 t, .slice (some ⟨b0, off, none⟩) m cap, .slice (some ⟨b1, off1, none⟩) j cap1] w fun e w' => e = .returned (.bool true) ∧ Below w.heap.size w w' := by
  unfold maxLen at hcap2 hcap3
  obtain ⟨i3, hi3, hz30, hz31, hz32⟩ := info_parts info3
  obtain ⟨T, hT, kT⟩ : ∃ T, wrap64 ((IntKind.u64.wrap t).tmod 4) = T ∧ IsT T := ⟨_, mod4 t, mod4_topic t⟩
  obtain ⟨P, hPF, hPN⟩ : ∃ G : Nat → Int, (∀ i, wrap64 ((IntKind.u64.wrap (F i)).tmod 8) = G i) ∧ ∀ i, IsN (G i) := ⟨fun i => F i % 8, fun i => mod8 (F i), fun i => mod8_node (F i)⟩
  obtain ⟨R, hRF, hRN⟩ : ∃ G : Nat → Int, (∀ i, wrap64 ((IntKind.u64.wrap (F1 i)).tmod 8) = G i) ∧ ∀ i, IsN (G i) := ⟨fun i => F1 i % 8, fun i => mod8 (F1 i), fun i => mod8_node (F1 i)⟩
  have hz : ((m : Int) == 0) = false := beq_false_of_ne (by omega)
  have hz1 : ((j : Int) == 0) = false := beq_false_of_ne (by omega)
  have h20 : decide ((20 : Int) < (m : Int)) = false := decide_eq_false (by omega)
  have h21 : decide ((20 : Int) < (j : Int)) = false := decide_eq_false (by omega)
  have HG := hide hG
  have HC := hide hc
  have HC1 := hide hc1
  have HPF := hide hPF
  have HRF := hide hRF
  clear hc hc1 hPF hRF hG
  go_enter Tryd.func7, Tryd.ntmps7
  go_wp2
  rw [hT]
  clear hT
  go_loopw [7, 9] (fun v xi w2 => ∃ k : Nat, k ≤ m ∧ xi = .int .i64 k ∧ w2.ownsRow w.heap.size 3 1 v k (iL P k) ∧ Below w.heap.size w w2) (fun _ i _ => m - (intOf i).toNat)
  case atStart => exact ⟨0, by omega, rfl, World.ownsRow_nil _ _ _ _, Below.refl _ _⟩
  case round =>
    obtain ⟨k, hk, rfl, hown, hbel⟩ := hrel
    by_cases hlt : k < m
    · have hck : wr.cell? ⟨b0, off + k, none⟩ = some (.int .i64 (F k)) := (hbel.cell (p := ⟨b0, off + k, none⟩) hb0).trans (unhide HC k hlt)
      have hgk := unhide HPF k
      have hGs := iL_succ P k
      clear HPF HRF
      generalize F k = x at *
      generalize P k = y at *
      go_wp2_with (at_builtin; refine wpList_append_own _ rfl (.tmp 47) (.tmp 55) 22 rfl w.heap.size 3 i3 (.int .i64 0) 1 8 Tryd.underlying22 hi3 hz30 hz31 hz32 rfl (by decide) _ k _ rfl (hown.alloc _) ⟨wr.heap.size, 0, none⟩ 1 1 [.int .i64 y] rfl rfl (cells_lit _ _ 3) (by intro u hu; simp at hu; subst hu; rfl) (by unfold maxLen; omega) (by omega) (by have := hbel.size; simp; omega) ?_)
      intro v2 w2 hown2 hgrow2 _
      rw [← hGs] at hown2
      go_wp2
      go_roundw
      case rel =>
        refine ⟨k + 1, by omega, by go_num, hown2, (hbel.alloc hbel.size _).grown hgrow2 (by have := hbel.size; simp; omega) (fun b hb => (hown.lt b hb).1)⟩
      case measure => simp [intOf]; omega
    · obtain rfl : m = k := by omega
      have IS := isl_of_owns hown
      rcases id IS with ⟨h0, _⟩ | ⟨g, o2, cp, rfl, hle2, hcp, hg2, hcell2⟩
      · omega
      · obtain ⟨w1, hw1⟩ : ∃ x, x = wr := ⟨_, rfl⟩
        subst hw1
        have HB := hide hbel
        have IS1 := hide IS
        clear hown hbel IS hcell2 HPF HC
        unfold maxLen at hcp
        go_wp2
        go_loopw [8, 10] (fun v xi w2 => ∃ k : Nat, k ≤ j ∧ xi = .int .i64 k ∧ w2.ownsRow w1.heap.size 3 1 v k (iL R k) ∧ Below w1.heap.size w1 w2) (fun _ i _ => j - (intOf i).toNat)
        case atStart => exact ⟨0, by omega, rfl, World.ownsRow_nil _ _ _ _, Below.refl _ _⟩
        case round =>
          obtain ⟨k, hk, rfl, hown, hbel⟩ := hrel
          by_cases hlt : k < j
          · have hck : wr.cell? ⟨b1, off1 + k, none⟩ = some (.int .i64 (F1 k)) := (hbel.cell (p := ⟨b1, off1 + k, none⟩) (Nat.lt_of_lt_of_le hb1 (unhide HB).size)).trans (((unhide HB).cell (p := ⟨b1, off1 + k, none⟩) hb1).trans (unhide HC1 k hlt))
            have hgk := unhide HRF k
            have hGs := iL_succ R k
            clear HRF
            generalize F1 k = x at *
            generalize R k = y at *
            go_wp2_with (at_builtin; refine wpList_append_own _ rfl (.tmp 63) (.tmp 71) 22 rfl w1.heap.size 3 i3 (.int .i64 0) 1 8 Tryd.underlying22 hi3 hz30 hz31 hz32 rfl (by decide) _ k _ rfl (hown.alloc _) ⟨wr.heap.size, 0, none⟩ 1 1 [.int .i64 y] rfl rfl (cells_lit _ _ 3) (by intro u hu; simp at hu; subst hu; rfl) (by unfold maxLen; omega) (by omega) (by have := hbel.size; simp; omega) ?_)
            intro v2 w2 hown2 hgrow2 _
            rw [← hGs] at hown2
            go_wp2
            go_roundw
            case rel =>
              refine ⟨k + 1, by omega, by go_num, hown2, (hbel.alloc hbel.size _).grown hgrow2 (by have := hbel.size; simp; omega) (fun b hb => (hown.lt b hb).1)⟩
            case measure => simp [intOf]; omega
          · obtain rfl : j = k := by omega
            have IS2 := isl_of_owns hown
            rcases id IS2 with ⟨h0, _⟩ | ⟨g2, o3, cp2, rfl, hle3, hcp3, hg3, hcell3⟩
            · omega
            · obtain ⟨w2, hw2⟩ : ∃ x, x = wr := ⟨_, rfl⟩
              subst hw2
              have B2 := hide ((unhide HB).trans (hbel.mono (unhide HB).size))
              have gw := (unhide HG).below (unhide B2) (unhide HG).size
              have J1 := hide ((unhide IS1).below hbel (Nat.le_refl _))
              have J2 := hide IS2
              have g3 : Glob (w2.alloc (.cells #[] 3)) := gw.alloc _
              have E2 : Below w2.heap.size w2 (w2.alloc (.cells #[] 3)) := (Below.refl _ _).alloc (Nat.le_refl _) _
              have K1 := hide ((unhide J1).below E2 (Nat.le_refl _))
              unfold maxLen at hcp3
              clear hown hbel IS1 IS2 hcell3 HRF HC1 HB HG
              obtain ⟨X, hX⟩ : ∃ X, own T P (m - 1) = X := ⟨_, rfl⟩
              obtain ⟨Y, hY⟩ : ∃ Y, own T R (j - 1) = Y := ⟨_, rfl⟩
              obtain ⟨Z, hZ⟩ : ∃ Z, own T (both P R m) (m + j - 1) = Z := ⟨_, rfl⟩
              have kX : IsN X := hX ▸ own_node (n := m) (fun i _ => hPN i) (by omega)
              have kY : IsN Y := hY ▸ own_node (n := j) (fun i _ => hRN i) (by omega)
              have hB := own_both' T P R m j kT hPN hRN hm0 hj0
              rw [hX, hY, hZ] at hB
              have hBN : ∀ i, IsN (both P R m i) := fun i => by unfold both; split; exact hPN _; exact hRN _
              have CX := hide (fun w hG h => owner_pos T (.slice (some ⟨g, o2, none⟩) m cp) m P kT w hG h hm0 (fun i _ => hPN i))
              have CY := hide (fun w hG h => owner_pos T (.slice (some ⟨g2, o3, none⟩) j cp2) j R kT w hG h hj0 (fun i _ => hRN i))
              have CZ := hide (fun v w hG h => owner_pos T v (m + j) (both P R m) kT w hG h (by omega) (fun i _ => hBN i))
              rw [hX] at CX
              rw [hY] at CY
              rw [hZ] at CZ
              have CW := hide (owner2 T X Y Z kT kX kY hB.symm)
              have kZ : IsN Z := by rw [hB]; split; exact kY; exact kX
              have hle1 : gp T Z ≤ gp T X := by rw [hB]; split <;> omega
              have hle4 : gp T Z ≤ gp T Y := by rw [hB]; split <;> omega
              have hor : Hid (Z = X) ∨ Hid ((Z == X) = false ∧ Z = Y) := by
                by_cases h : gp T Y < gp T X
                · rw [if_pos h] at hB
                  subst hB
                  exact .inr ⟨beq_false_of_ne (fun q => by rw [q] at h; omega), rfl⟩
                · rw [if_neg h] at hB
                  exact .inl hB
              clear hX hY hZ hB
              have m1 := trivial
              have m2 := trivial
              have m3 := trivial
              have m4 := trivial
              have m5 := trivial
              rcases hor with hor | hor
              · obtain rfl := unhide hor
                clear hor
                go_wp2_with (first
                  | (clear m1; go_at_call 11; refine (unhide CX _ gw (unhide J1)).mono ?_; rintro e w2 ⟨rfl, rfl⟩)
                  | (clear m2; go_at_call 11; refine (unhide CY _ gw (unhide J2)).mono ?_; rintro e w2 ⟨rfl, rfl⟩)
                  | (clear m3
                     at_builtin
                     go_must (refine wpList_append_own _ rfl (.tmp 87) (.tmp 88) 22 rfl w2.heap.size 3 i3 (.int .i64 0) 1 8 Tryd.underlying22 hi3 hz30 hz31 hz32 rfl (by decide) _ 0 [] rfl (owns_zero w2 3) ⟨g, o2, none⟩ m cp (iL P m) rfl (by rw [iL_length, Nat.mul_one]) (isl_cells (unhide K1)) (iL_one P m) (by unfold maxLen; omega) (by omega) E2.size ?_)
                     intro v4 w4 ho hgr _
                     have B4 := hide (E2.grown hgr (by simp) (fun b hb => by cases hb; exact Nat.le_refl _))
                     have L2 := hide ((unhide J2).below (unhide B4) (Nat.le_refl _))
                     have O4 := hide ho
                     clear ho hgr E2)
                  | (clear m4
                     at_builtin
                     go_must (refine wpList_append_own _ rfl (.tmp 89) (.tmp 90) 22 rfl w2.heap.size 3 i3 (.int .i64 0) 1 8 Tryd.underlying22 hi3 hz30 hz31 hz32 rfl (by decide) v4 (0 + m) _ rfl (unhide O4) ⟨g2, o3, none⟩ j cp2 (iL R j) rfl (by rw [iL_length, Nat.mul_one]) (isl_cells (unhide L2)) (iL_one R j) (by unfold maxLen; omega) (by omega) (unhide B4).size ?_)
                     intro v5 w5 ho hgr _
                     have B5 := hide ((unhide B4).grown hgr (unhide B4).size (fun b hb => ((unhide O4).lt b hb).1))
                     rw [List.nil_append, Nat.zero_add, iL_both] at ho
                     have J5 := hide (isl_of_owns ho)
                     have g5 := gw.below (unhide B5) gw.size
                     clear ho hgr)
                  | (clear m5; go_at_call 11; refine (unhide CZ _ _ g5 (unhide J5)).mono ?_; rintro e w5 ⟨rfl, rfl⟩)
                  | (go_at_call 11; refine (unhide CW _ g5).mono ?_; rintro e w6 ⟨rfl, rfl⟩)
                  | (go_at_call 12; refine (nearer_le _ _ _ (by assumption) (by assumption) (by assumption) (by assumption) _ (g5.alloc _)).mono ?_; rintro e w6 ⟨rfl, rfl⟩)
                  | (go_at_call 17; refine (wakes_any _ (g5.alloc _)).mono ?_; rintro e w7 ⟨rfl, hb7⟩))
                go_ret
                have B6 := ((unhide B5).alloc (unhide B5).size _).trans (hb7.mono (by have := (unhide B5).size; simp; omega))
                exact ⟨rfl, (unhide B2).trans (B6.mono (unhide B2).size)⟩
              · obtain ⟨hzx, h2⟩ := unhide hor
                subst h2
                clear hor
                go_wp2_with (first
                  | (clear m1; go_at_call 11; refine (unhide CX _ gw (unhide J1)).mono ?_; rintro e w2 ⟨rfl, rfl⟩)
                  | (clear m2; go_at_call 11; refine (unhide CY _ gw (unhide J2)).mono ?_; rintro e w2 ⟨rfl, rfl⟩)
                  | (clear m3
                     at_builtin
                     go_must (refine wpList_append_own _ rfl (.tmp 87) (.tmp 88) 22 rfl w2.heap.size 3 i3 (.int .i64 0) 1 8 Tryd.underlying22 hi3 hz30 hz31 hz32 rfl (by decide) _ 0 [] rfl (owns_zero w2 3) ⟨g, o2, none⟩ m cp (iL P m) rfl (by rw [iL_length, Nat.mul_one]) (isl_cells (unhide K1)) (iL_one P m) (by unfold maxLen; omega) (by omega) E2.size ?_)
                     intro v4 w4 ho hgr _
                     have B4 := hide (E2.grown hgr (by simp) (fun b hb => by cases hb; exact Nat.le_refl _))
                     have L2 := hide ((unhide J2).below (unhide B4) (Nat.le_refl _))
                     have O4 := hide ho
                     clear ho hgr E2)
                  | (clear m4
                     at_builtin
                     go_must (refine wpList_append_own _ rfl (.tmp 89) (.tmp 90) 22 rfl w2.heap.size 3 i3 (.int .i64 0) 1 8 Tryd.underlying22 hi3 hz30 hz31 hz32 rfl (by decide) v4 (0 + m) _ rfl (unhide O4) ⟨g2, o3, none⟩ j cp2 (iL R j) rfl (by rw [iL_length, Nat.mul_one]) (isl_cells (unhide L2)) (iL_one R j) (by unfold maxLen; omega) (by omega) (unhide B4).size ?_)
                     intro v5 w5 ho hgr _
                     have B5 := hide ((unhide B4).grown hgr (unhide B4).size (fun b hb => ((unhide O4).lt b hb).1))
                     rw [List.nil_append, Nat.zero_add, iL_both] at ho
                     have J5 := hide (isl_of_owns ho)
                     have g5 := gw.below (unhide B5) gw.size
                     clear ho hgr)
                  | (clear m5; go_at_call 11; refine (unhide CZ _ _ g5 (unhide J5)).mono ?_; rintro e w5 ⟨rfl, rfl⟩)
                  | (go_at_call 11; refine (unhide CW _ g5).mono ?_; rintro e w6 ⟨rfl, rfl⟩)
                  | (go_at_call 12; refine (nearer_le _ _ _ (by assumption) (by assumption) (by assumption) (by assumption) _ (g5.alloc _)).mono ?_; rintro e w6 ⟨rfl, rfl⟩)
                  | (go_at_call 17; refine (wakes_any _ (g5.alloc _)).mono ?_; rintro e w7 ⟨rfl, hb7⟩))
                go_ret
                have B6 := ((unhide B5).alloc (unhide B5).size _).trans (hb7.mono (by have := (unhide B5).size; simp; omega))
                exact ⟨rfl, (unhide B2).trans (B6.mono (unhide B2).size)⟩
end Go.Proofs.YteldgklcfemenaaDoor
