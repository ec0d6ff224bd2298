/- Append of one number to a row of the call's own; walks of route.Fingers, reach, Next, Way. -/
import Derived.Test.YtmdkaomjjglfjaaDoorA9
namespace Go.Proofs.YtmdkaomjjglfjaaDoor
open Go.RowKit

theorem wpList_snoc {w : World} {ops : Array Oper} {rest : List Oper} {o : Oper} {a : Act} {Q : Exit → Act → World → Prop} (hw : Region.wanted o (yielded ops a.tmps) = true) (s x : Operand)
    (hop : o.op = .call { callee := .builtin .append, args := #[s, x], argTypes := #[22, 22] }) (base : Nat)
    (v : Value) (L : List Int) (k : Int) (hs : a.eval s = v) (hown : OL w base v L) (g : Nat) (hx : a.eval x = .slice (some ⟨g, 0, none⟩) 1 1)
    (hc : w.cell? ⟨g, 0, none⟩ = some (.int .i64 k)) (hn : L.length ≤ 1000000) (hbase : base ≤ w.heap.size)
    (h : ∀ v' w', OL w' base v' (L ++ [k]) → Below base w w' → wpList Tryd.prog ops Q rest (a.put o.dst v') w') : wpList Tryd.prog ops Q (o :: rest) a w := by
  refine wpList_step fun K hK => ?_
  rw [if_pos hw]
  obtain ⟨j, hj, hz0, hz1, hz2⟩ := info_parts info3
  obtain ⟨v', w', hrun, r1, r2, _⟩ := run_append_own (P := Tryd.prog) w base 22 o.type 3 j (.int .i64 0) 1 8 Tryd.underlying22 hj hz0 hz1 hz2 rfl (by decide) v L.length _ hown ⟨g, 0, none⟩ 1 1 [.int .i64 k] rfl
    (fun i u hu => by
      match i, hu with
      | 0, hu => simp at hu; subst hu; rw [Addr.add_lit]; exact hc
      | i + 1, hu => simp at hu) (fun u hu => by simp at hu; subst hu; rfl) (by unfold maxLen; omega) (by omega) hbase
  unfold Oper.wp
  simp [execOp, hop, resolve, invoke, builtin, hs, hx, hrun, Result.andThen]
  refine hK _ _ (h v' w' ?_ ((Below.refl _ _).grown r2 hbase (fun k hk => (World.ownsRow.lt hown k hk).1)))
  unfold OL
  simpa using r1
theorem OL.alloc {w : World} {B : Nat} {v : Value} {L : List Int} (h : OL w B v L) (o : Obj) : OL (w.alloc o) B v L := h.below ((Below.refl _ _).alloc (Nat.le_refl _) o) (Nat.le_refl _)
theorem cell_one (k : Int) (w : World) (t : TypeId) : (w.alloc (.cells #[.int .i64 k] t)).cell? ⟨w.heap.size, 0, none⟩ = some (.int .i64 k) := by simp [go_sem]

theorem fingers_arg (L : List Int) (s : Int) (v : Value) (w : World) (h : IL w v L) (hR : ¬ (Ris L ∧ s ∈ L)) :
    Calls Tryd.prog 43 #[v, .int .i64 s] w fun e w' => e = .returned (.tuple #[.slice none 0 0, .int .i64 1]) ∧ w' = w := by
  have c := hide (check_arg L s v _ h hR)
  clear h hR
  go_enter Tryd.func43, Tryd.ntmps43
  go_wp2_with (go_at_call 32; refine (unhide c).mono ?_; rintro e w1 ⟨rfl, rfl⟩)
  go_ret2
  exact ⟨rfl, rfl⟩
set_option maxHeartbeats 2000000 in
theorem fingers_is (L : List Int) (s : Int) (v : Value) (w : World) (hG : Glob w) (h : IL w v L) (hR : Ris L) (hs : s ∈ L) :
    Calls Tryd.prog 43 #[v, .int .i64 s] w fun e w' => ∃ v', e = .returned (.tuple #[v', .int .i64 0]) ∧ OL w' w.heap.size v' (fng L s) ∧ Below w.heap.size w w' := by
  have hN := hR.2
  have hne := mem_ne hs
  have c1 := hide (check_ok L s v w h hR hs)
  have HG := hide hG
  have HI := hide h
  have hsN := hN s hs
  have HN := hide hN
  have HNE := hide hne
  have HSN := hide hsN
  have hlenU := fgU_len L s
  have HU := hide hlenU
  have hfng : srtL (fgU L s 62) = fng L s := rfl
  have HF := hide hfng
  clear hlenU hfng h hG hR hs hN hne hsN
  go_enter Tryd.func43, Tryd.ntmps43
  go_wp2_with (go_at_call 32; refine (unhide c1).mono ?_; rintro e w ⟨rfl, rfl⟩)
  go_loopw [7, 16] (fun xv xi w2 => ∃ b : Nat, b ≤ 62 ∧ xi = .int .i64 b ∧ OL w2 w.heap.size xv (fgU L s b) ∧ Below w.heap.size w w2) (fun _ i _ => 62 - (intOf i).toNat)
  case atStart => exact ⟨0, by omega, rfl, OL.nil _ _, Below.refl _ _⟩
  case round =>
    obtain ⟨b, hb, rfl, ho, hbel⟩ := hrel
    by_cases hlt : b < 62
    · have gr := (unhide HG).below hbel (unhide HG).size
      have ir := (unhide HI).below hbel (Nat.le_refl _)
      have c2 := hide (step_is s b (unhide HSN) hlt wr gr)
      have c3 := hide (first_is L (stp s b) v wr gr ir (unhide HN) (unhide HNE) (stp_key s b))
      have c4 := hide (fun v' w' h => contains_is (fgU L s b) (fst L (stp s b)) v' w' h)
      have HB := hide hbel
      have HO := hide ho
      clear gr ir hbel ho
      have c4 := c4
      by_cases h1 : fst L (stp s b) = s
      · have Y := hide (fgU_no (.inl h1))
        have hne1 : (fst L (stp s b) != s) = false := by simp [h1]
        clear c4 h1
        generalize fst L (stp s b) = y at *
        generalize stp s b = k at *
        go_wp2_with (first
          | (go_at_call 47; refine (unhide c2).mono ?_; rintro e w1 ⟨rfl, rfl⟩)
          | (go_at_call 46; refine (unhide c3).mono ?_; rintro e w3 ⟨rfl, hb3⟩; have B3 := hide hb3; clear hb3))
        go_roundw
        case rel => exact ⟨b + 1, by omega, by go_num, by rw [unhide Y]; exact (unhide HO).below (unhide B3) (Nat.le_refl _), (unhide HB).trans ((unhide B3).mono (unhide HB).size)⟩
        case measure => simp [intOf]; omega
      · have hne1 : (fst L (stp s b) != s) = true := by simp [h1]
        by_cases h2 : fst L (stp s b) ∈ fgU L s b
        · have Y := hide (fgU_no (.inr h2))
          rw [decide_eq_true h2] at c4
          clear h2 h1
          generalize fst L (stp s b) = y at *
          generalize stp s b = k at *
          go_wp2_with (first
            | (go_at_call 47; refine (unhide c2).mono ?_; rintro e w1 ⟨rfl, rfl⟩)
            | (go_at_call 46; refine (unhide c3).mono ?_; rintro e w3 ⟨rfl, hb3⟩; have B3 := hide hb3; have O3 := hide ((unhide HO).below hb3 (Nat.le_refl _)); clear hb3)
            | (go_at_call 41; refine (unhide c4 _ _ (unhide O3).il).mono ?_; rintro e w4 ⟨rfl, rfl⟩))
          go_roundw
          case rel => exact ⟨b + 1, by omega, by go_num, by rw [unhide Y]; exact (unhide HO).below (unhide B3) (Nat.le_refl _), (unhide HB).trans ((unhide B3).mono (unhide HB).size)⟩
          case measure => simp [intOf]; omega
        · have Y := hide (fgU_yes h1 h2)
          rw [decide_eq_false h2] at c4
          clear h2 h1
          generalize fst L (stp s b) = y at *
          generalize stp s b = k at *
          go_wp2_with (first
            | (go_at_call 47; refine (unhide c2).mono ?_; rintro e w1 ⟨rfl, rfl⟩)
            | (go_at_call 46; refine (unhide c3).mono ?_; rintro e w3 ⟨rfl, hb3⟩; have B3 := hide hb3; have O3 := hide ((unhide HO).below hb3 (Nat.le_refl _)); clear hb3)
            | (go_at_call 41; refine (unhide c4 _ _ (unhide O3).il).mono ?_; rintro e w4 ⟨rfl, rfl⟩)
            | (at_builtin; refine wpList_snoc (by simp [Region.wanted]) (.tmp 33) (.tmp 35) rfl w.heap.size _ (fgU L s b) y rfl ((unhide O3).alloc _) _ rfl (cell_one y _ 3) (Nat.le_trans (unhide HU b) (by omega)) (by have := (unhide HB).size; have := (unhide B3).size; simp; omega) ?_; intro v4 w4 o4 b4; have O4 := hide o4; have B4 := hide ((((unhide HB).trans ((unhide B3).mono (unhide HB).size)).alloc (by have := (unhide HB).size; have := (unhide B3).size; omega) _).trans b4); clear o4 b4))
          go_roundw
          case rel => exact ⟨b + 1, by omega, by go_num, by rw [unhide Y]; exact unhide O4, unhide B4⟩
          case measure => simp [intOf]; omega
    · obtain rfl : b = 62 := by omega
      have c5 := hide (sort_ol _ _ _ _ ho (Nat.le_trans (unhide HU 62) (by omega)))
      have HB := hide hbel
      clear ho hbel
      go_wp2_with (go_at_call 48; refine (unhide c5).mono ?_; rintro e w5 ⟨rfl, ho5, hb5⟩; have O5 := hide ho5; have B5 := hide (hb5 _ (unhide HB)); clear ho5 hb5)
      go_ret2
      exact ⟨_, rfl, (unhide HF) ▸ unhide O5, unhide B5⟩
end Go.Proofs.YtmdkaomjjglfjaaDoor
