/- Walk of the statements' Far. -/
import Derived.Test.YtgglnhnokhpnpaaDoorO1
namespace Go.Proofs.YtgglnhnokhpnpaaDoor
open Go.RowKit

theorem bk_yes {t i : Int} {F : List Int} {j : Nat} (h : nb t i (zF F j) = true) : bk t i F (j + 1) = bk t i F j := if_pos h
theorem bk_no {t i : Int} {F : List Int} {j : Nat} (h : nb t i (zF F j) = false) : bk t i F (j + 1) = j + 1 := if_neg (by rw [h]; decide)
set_option maxHeartbeats 4000000 in
set_option maxRecDepth 100000 in
theorem far_k (t s : Int) (w : World) (hG : Glob w) :
    Calls Tryd.prog 23 #[.int .i64 t, .int .i64 s] w fun e w' => ∃ v', e = .returned v' ∧ OL w' w.heap.size v' (farK t s 8) ∧ Below w.heap.size w w' := by
  have HG := hide (show ∀ W, Below w.heap.size w W → Glob W from fun W hb => hG.below hb hG.size)
  have CN := hide (show ∀ W a b, Below w.heap.size w W → Calls Tryd.prog 24 #[.int .i64 t, .int .i64 a, .int .i64 b] W fun e w' => e = .returned (.bool (nb t a b)) ∧ w' = W from fun W a b hb => nearer_nb t a b W (hG.below hb hG.size))
  clear hG
  go_enter Tryd.func23, Tryd.ntmps23
  go_wp2
  go_loopw [5, 6] (fun u i w3 => ∃ (V : Value) (k : Nat), k ≤ 8 ∧ u = V ∧ i = .int .i64 k ∧ Hid (OL w3 w.heap.size V (farK t s k)) ∧ Hid (Below w.heap.size w w3)) (fun _ i _ => 8 - (intOf i).toNat)
  case atStart => exact ⟨_, 0, by omega, rfl, rfl, hide (OL.nil _ _), hide (Below.refl _ _)⟩
  case round =>
    obtain ⟨V, k, hk, hu, rfl, HO, HB⟩ := hrel
    obtain rfl := hu.symm
    obtain ⟨w2, hw2⟩ : ∃ x, x = wr := ⟨_, rfl⟩
    subst hw2
    by_cases hlt : k < 8
    · have C1 := hide (unhide CN w2 s k (unhide HB))
      have hF := farK_len t s k
      cases hn : nb t s k with
      | false =>
        rw [hn] at C1
        have E := hide (farK_no hn)
        clear hn hF
        go_wp2_with (go_at_call 24; refine (unhide C1).mono ?_; rintro e w2 ⟨rfl, rfl⟩)
        go_roundw
        case rel => exact ⟨_, k + 1, by omega, rfl, by go_num, by rw [unhide E]; exact HO, HB⟩
        case measure => simp [intOf]; omega
      | true =>
        rw [hn] at C1
        have E := hide (farK_yes hn)
        obtain ⟨q, c, hqc⟩ := il_form (unhide HO).il
        subst hqc
        obtain ⟨F, hFF⟩ : ∃ F, farK t s k = F := ⟨_, rfl⟩
        rw [hFF] at HO hF E ⊢
        obtain ⟨m, hm⟩ : ∃ m, F.length = m := ⟨_, rfl⟩
        have HM := hide hm
        have hI0 := (unhide HO).il
        rw [hm] at HO hF hI0 ⊢
        have HI := hide hI0
        obtain ⟨-, hmc, hcm⟩ := il_cap hI0
        have hcm' := hcm
        unfold maxLen at hcm'
        clear hn hFF hm hI0
        go_wp2_with (go_at_call 24; refine (unhide C1).mono ?_; rintro e w2 ⟨rfl, rfl⟩)
        go_loop [7] (fun xk => ∃ j : Nat, j ≤ m ∧ xk = .int .i64 j ∧ Hid (bk t k F m = bk t k F j)) (fun x => (intOf x).toNat)
        case atStart => exact ⟨m, Nat.le_refl _, rfl, hide rfl⟩
        case round =>
          obtain ⟨j, hj, rfl, HJ⟩ := hrel
          by_cases h0 : 0 < j
          · obtain ⟨b, off, rfl, -, -, hbb, d1⟩ := il_cell (k := j - 1) (unhide HI) (by omega) (by rw [unhide HM]; exact Nat.le_refl _)
            obtain ⟨p, hp⟩ : ∃ p, j - 1 = p := ⟨_, rfl⟩
            rw [hp] at d1
            have hpI : (j : Int) - 1 = (p : Int) := by omega
            have C2 := hide (unhide CN w2 k (zF F p) (unhide HB))
            have b1 : decide (0 < j) = true := decide_eq_true h0
            have b2 : decide ((0 : Int) < (j : Int)) = true := decide_eq_true (by omega)
            have hjp : j = p + 1 := by omega
            have HJP := hide hjp
            have hpc : p < m := by omega
            clear hjp hp
            cases hx : nb t k (zF F p) with
            | true =>
              rw [hx] at C2
              have HJ2 : Hid (bk t k F m = bk t k F p) := hide (by rw [unhide HJ, unhide HJP, bk_yes hx])
              clear hx
              generalize zF F p = y at *
              go_wp2_with (go_at_call 24; refine (unhide C2).mono ?_; rintro e w2 ⟨rfl, rfl⟩)
              go_round
              case rel => exact ⟨p, by omega, by go_num, HJ2⟩
              case measure => simp [intOf]; omega
            | false =>
              rw [hx] at C2
              have HJ2 : Hid (bk t k F m = j) := hide (by rw [unhide HJ, unhide HJP, bk_no hx])
              clear hx
              generalize zF F p = y at *
              go_upto_region 9 with (go_at_call 24; refine (unhide C2).mono ?_; rintro e w2 ⟨rfl, rfl⟩)
              obtain ⟨a2, c2, hrun, hdrop⟩ := slice_from (some ⟨b, off, none⟩) m c j hj hmc hcm
              have HD := hide (show ∀ W, Below w2.heap.size w2 W → IL W (.slice a2 (m - j) c2) (F.drop j) from fun W hb => hdrop W F ((unhide HI).below hb (Nat.le_refl _)))
              have HT := hide (show ∀ W, Below w2.heap.size w2 W → IL W (.slice (some ⟨b, off, none⟩) j c) (F.take j) from fun W hb => il_take ((unhide HI).below hb (Nat.le_refl _)) hj)
              have hbd := Below.refl w2.heap.size w2
              have LT := hide (show (F.take j).length ≤ 1000000 by have := List.length_take_le j F; omega)
              have LD := hide (show (F.drop j).length ≤ 1000000 by rw [List.length_drop, unhide HM]; omega)
              have LT1 := hide (show (F.take j ++ [(k : Int)]).length ≤ 1000000 by have := List.length_take_le j F; rw [List.length_append]; simp; omega)
              have hjc : j ≤ c := by omega
              have hjcI : (j : Int) ≤ (c : Int) := by omega
              have EJ := hide (show F.take j ++ [(k : Int)] ++ F.drop j = farK t s (k + 1) by rw [unhide E]; unfold insF; rw [unhide HM, unhide HJ2])
              clear hdrop CN C1
              have HL1 := hide (show IL ((w2.alloc (.cells #[] 3)).drew.alloc (.cells #[.int .i64 k] 3)) (.slice (some ⟨w2.heap.size + 1, 0, none⟩) 1 1) [(k : Int)] from by
                have := il_lit (w2.alloc (.cells #[] 3)).drew [(k : Int)] 3 1 rfl (by unfold maxLen; omega)
                rw [show (w2.alloc (.cells #[] 3)).drew.heap.size = w2.heap.size + 1 by simp] at this
                exact this)
              have HL2 := hide (show IL ((w2.alloc (.cells #[.int .i64 k] 3)).alloc (.cells #[] 3)).drew (.slice (some ⟨w2.heap.size, 0, none⟩) 1 1) [(k : Int)] from
                (show IL ((w2.alloc (.cells #[.int .i64 k] 3)).alloc (.cells #[] 3)) (.slice (some ⟨w2.heap.size, 0, none⟩) 1 1) [(k : Int)] from (show IL (w2.alloc (.cells #[.int .i64 k] 3)) (.slice (some ⟨w2.heap.size, 0, none⟩) 1 1) [(k : Int)] from il_lit w2 [(k : Int)] 3 1 rfl (by unfold maxLen; omega)).below ((Below.refl _ _).alloc (Nat.le_refl _) _) (Nat.le_refl _)))
              have HE2 := hide (show OL ((w2.alloc (.cells #[.int .i64 k] 3)).alloc (.cells #[] 3)).drew w2.heap.size (.slice (some ⟨w2.heap.size + 1, 0, none⟩) 0 0) [] from by
                have := ol_empty (w2.alloc (.cells #[.int .i64 k] 3)) w2.heap.size (by simp)
                rw [show (w2.alloc (.cells #[.int .i64 k] 3)).heap.size = w2.heap.size + 1 by simp] at this
                exact this)
              go_region_law (first
                | (refine step_cat rfl (.tmp 33) (.tmp 36) rfl w2.heap.size _ _ [] (F.take j) (by simp [Act.eval] <;> rfl) (by first | exact ol_empty _ _ (by simp) | exact unhide HE2 | exact (ol_empty w2 _ (Nat.le_refl _)).below (show Below (w2.alloc (.cells #[] 3)).heap.size (w2.alloc (.cells #[] 3)) _ from by repeat first | exact Below.refl _ _ | refine below_drewN ?_ 1 | refine below_alloc ?_ _) (Nat.le_refl _)) (by simp [Act.eval] <;> rfl) (unhide HT _ (by repeat first | exact hbd | refine below_drewN ?_ 1 | refine below_alloc ?_ _)) (by simp) (unhide LT) (by have hbs := hbd.size; simp; try omega) ?_; intro v4 w4 o4 b4 g4; have h4 := b4.size; have b4' : Below w2.heap.size w2 w4 := Below.trans (by repeat first | exact hbd | refine below_drewN ?_ 1 | refine below_alloc ?_ _) b4)
                | (refine step_cat rfl (.tmp 37) (.tmp 39) rfl w2.heap.size _ _ (F.take j) [(k : Int)] (by simp [Act.eval] <;> rfl) (by first | exact o4 | exact OL.below o4 ((Below.refl _ _).alloc (Nat.le_refl _) _) (Nat.le_refl _)) (by simp [Act.eval] <;> rfl) (by first | exact il_lit _ [(k : Int)] 3 1 rfl (by unfold maxLen; omega) | exact il_grown (unhide HL1) g4 (by simp [Value.ownBlock]) h4 | exact il_grown (unhide HL2) g4 (by simp [Value.ownBlock]) h4 | exact il_grown (il_lit _ [(k : Int)] 3 1 rfl (by unfold maxLen; omega)) g4 (by simp [Value.ownBlock]) h4 | exact il_grown ((il_lit _ [(k : Int)] 3 1 rfl (by unfold maxLen; omega)).below ((Below.refl _ _).alloc (Nat.le_refl _) _) (Nat.le_refl _)) g4 (by simp [Value.ownBlock]) h4) (unhide LT) (by simp) (by simp at h4 ⊢; omega) ?_; intro v5 w5 o5 b5 g5; have h5 := b5.size; have b5' : Below w2.heap.size w2 w5 := Below.trans (by first | exact b4' | exact below_alloc b4' _) b5)
                | (refine step_cat rfl (.tmp 40) (.tmp 43) rfl w2.heap.size _ _ (F.take j ++ [(k : Int)]) (F.drop j) (by simp [Act.eval] <;> rfl) o5 (by simp [Act.eval] <;> rfl) (unhide HD _ b5') (unhide LT1) (unhide LD) b5'.size ?_; intro v6 w6 o6 b6 g6; have b6' : Below w2.heap.size w2 w6 := Below.trans b5' b6))
              all_goals (go_wp2; go_roundw; (case rel => exact ⟨v6, k + 1, by omega, rfl, by go_num, hide (by rw [← unhide EJ]; exact OL.mono o6 (unhide HB).size), hide ((unhide HB).trans (b6'.mono (unhide HB).size))⟩); (case measure => simp [intOf]; omega))
          · have HJ2 : Hid (bk t k F m = j) := hide (by rw [unhide HJ, show j = 0 by omega]; rfl)
            have b1 : decide (0 < j) = false := decide_eq_false h0
            have b2 : decide ((0 : Int) < (j : Int)) = false := decide_eq_false (by omega)
            go_upto_region 9 with fail
            obtain ⟨a2, c2, hrun, hdrop⟩ := slice_from q m c j hj hmc hcm
            have HD := hide (show ∀ W, Below w2.heap.size w2 W → IL W (.slice a2 (m - j) c2) (F.drop j) from fun W hb => hdrop W F ((unhide HI).below hb (Nat.le_refl _)))
            have HT := hide (show ∀ W, Below w2.heap.size w2 W → IL W (.slice q j c) (F.take j) from fun W hb => il_take ((unhide HI).below hb (Nat.le_refl _)) hj)
            have hbd := Below.refl w2.heap.size w2
            have LT := hide (show (F.take j).length ≤ 1000000 by have := List.length_take_le j F; omega)
            have LD := hide (show (F.drop j).length ≤ 1000000 by rw [List.length_drop, unhide HM]; omega)
            have LT1 := hide (show (F.take j ++ [(k : Int)]).length ≤ 1000000 by have := List.length_take_le j F; rw [List.length_append]; simp; omega)
            have hjc : j ≤ c := by omega
            have hjcI : (j : Int) ≤ (c : Int) := by omega
            have EJ := hide (show F.take j ++ [(k : Int)] ++ F.drop j = farK t s (k + 1) by rw [unhide E]; unfold insF; rw [unhide HM, unhide HJ2])
            clear hdrop CN C1
            have HL1 := hide (show IL ((w2.alloc (.cells #[] 3)).drew.alloc (.cells #[.int .i64 k] 3)) (.slice (some ⟨w2.heap.size + 1, 0, none⟩) 1 1) [(k : Int)] from by
              have := il_lit (w2.alloc (.cells #[] 3)).drew [(k : Int)] 3 1 rfl (by unfold maxLen; omega)
              rw [show (w2.alloc (.cells #[] 3)).drew.heap.size = w2.heap.size + 1 by simp] at this
              exact this)
            have HL2 := hide (show IL ((w2.alloc (.cells #[.int .i64 k] 3)).alloc (.cells #[] 3)).drew (.slice (some ⟨w2.heap.size, 0, none⟩) 1 1) [(k : Int)] from
              (show IL ((w2.alloc (.cells #[.int .i64 k] 3)).alloc (.cells #[] 3)) (.slice (some ⟨w2.heap.size, 0, none⟩) 1 1) [(k : Int)] from (show IL (w2.alloc (.cells #[.int .i64 k] 3)) (.slice (some ⟨w2.heap.size, 0, none⟩) 1 1) [(k : Int)] from il_lit w2 [(k : Int)] 3 1 rfl (by unfold maxLen; omega)).below ((Below.refl _ _).alloc (Nat.le_refl _) _) (Nat.le_refl _)))
            have HE2 := hide (show OL ((w2.alloc (.cells #[.int .i64 k] 3)).alloc (.cells #[] 3)).drew w2.heap.size (.slice (some ⟨w2.heap.size + 1, 0, none⟩) 0 0) [] from by
              have := ol_empty (w2.alloc (.cells #[.int .i64 k] 3)) w2.heap.size (by simp)
              rw [show (w2.alloc (.cells #[.int .i64 k] 3)).heap.size = w2.heap.size + 1 by simp] at this
              exact this)
            go_region_law (first
              | (refine step_cat rfl (.tmp 33) (.tmp 36) rfl w2.heap.size _ _ [] (F.take j) (by simp [Act.eval] <;> rfl) (by first | exact ol_empty _ _ (by simp) | exact unhide HE2 | exact (ol_empty w2 _ (Nat.le_refl _)).below (show Below (w2.alloc (.cells #[] 3)).heap.size (w2.alloc (.cells #[] 3)) _ from by repeat first | exact Below.refl _ _ | refine below_drewN ?_ 1 | refine below_alloc ?_ _) (Nat.le_refl _)) (by simp [Act.eval] <;> rfl) (unhide HT _ (by repeat first | exact hbd | refine below_drewN ?_ 1 | refine below_alloc ?_ _)) (by simp) (unhide LT) (by have hbs := hbd.size; simp; try omega) ?_; intro v4 w4 o4 b4 g4; have h4 := b4.size; have b4' : Below w2.heap.size w2 w4 := Below.trans (by repeat first | exact hbd | refine below_drewN ?_ 1 | refine below_alloc ?_ _) b4)
              | (refine step_cat rfl (.tmp 37) (.tmp 39) rfl w2.heap.size _ _ (F.take j) [(k : Int)] (by simp [Act.eval] <;> rfl) (by first | exact o4 | exact OL.below o4 ((Below.refl _ _).alloc (Nat.le_refl _) _) (Nat.le_refl _)) (by simp [Act.eval] <;> rfl) (by first | exact il_lit _ [(k : Int)] 3 1 rfl (by unfold maxLen; omega) | exact il_grown (unhide HL1) g4 (by simp [Value.ownBlock]) h4 | exact il_grown (unhide HL2) g4 (by simp [Value.ownBlock]) h4 | exact il_grown (il_lit _ [(k : Int)] 3 1 rfl (by unfold maxLen; omega)) g4 (by simp [Value.ownBlock]) h4 | exact il_grown ((il_lit _ [(k : Int)] 3 1 rfl (by unfold maxLen; omega)).below ((Below.refl _ _).alloc (Nat.le_refl _) _) (Nat.le_refl _)) g4 (by simp [Value.ownBlock]) h4) (unhide LT) (by simp) (by simp at h4 ⊢; omega) ?_; intro v5 w5 o5 b5 g5; have h5 := b5.size; have b5' : Below w2.heap.size w2 w5 := Below.trans (by first | exact b4' | exact below_alloc b4' _) b5)
              | (refine step_cat rfl (.tmp 40) (.tmp 43) rfl w2.heap.size _ _ (F.take j ++ [(k : Int)]) (F.drop j) (by simp [Act.eval] <;> rfl) o5 (by simp [Act.eval] <;> rfl) (unhide HD _ b5') (unhide LT1) (unhide LD) b5'.size ?_; intro v6 w6 o6 b6 g6; have b6' : Below w2.heap.size w2 w6 := Below.trans b5' b6))
            all_goals (go_wp2; go_roundw; (case rel => exact ⟨v6, k + 1, by omega, rfl, by go_num, hide (by rw [← unhide EJ]; exact OL.mono o6 (unhide HB).size), hide ((unhide HB).trans (b6'.mono (unhide HB).size))⟩); (case measure => simp [intOf]; omega))
    · obtain rfl : k = 8 := by omega
      go_wp2
      go_ret
      exact ⟨_, rfl, unhide HO, unhide HB⟩
end Go.Proofs.YtgglnhnokhpnpaaDoor
