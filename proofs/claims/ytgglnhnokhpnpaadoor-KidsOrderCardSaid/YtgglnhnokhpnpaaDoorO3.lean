/- The statements' wakes. -/
import Derived.Test.YtgglnhnokhpnpaaDoorO2
import Derived.Test.YtgglnhnokhpnpaaDoorN1
namespace Go.Proofs.YtgglnhnokhpnpaaDoor
open Go.RowKit

abbrev fw : List Int := [7, 0, 3, 4, 2, 6, 5]
theorem fw_is : farK 0 1 8 = fw := by decide +kernel
theorem wk_own (w : World) (hG : Glob w) :
    Calls Tryd.prog 35 #[.int .i64 0, .slice (some ⟨w.heap.size, 0, none⟩) 8 8] (w.alloc (.cells #[.int .i64 0, .int .i64 1, .int .i64 2, .int .i64 3, .int .i64 4, .int .i64 5, .int .i64 6, .int .i64 7] 3)) fun e w' => e = .returned (.tuple #[.int .i64 1, .int .i64 0]) ∧ Below w.heap.size w w' := by
  have h := owner_is 0 _ 7 _ t0 (w.alloc (.cells #[.int .i64 0, .int .i64 1, .int .i64 2, .int .i64 3, .int .i64 4, .int .i64 5, .int .i64 6, .int .i64 7] 3)) (hG.alloc _) (isl_lit w [0, 1, 2, 3, 4, 5, 6, 7] 3 8 rfl (by unfold maxLen; omega)) (fun i hi => by
    match i, hi with
    | 0, _ | 1, _ | 2, _ | 3, _ | 4, _ | 5, _ | 6, _ | 7, _ => exact ⟨by decide, by decide⟩)
  rw [show own 0 (fun i => [0, 1, 2, 3, 4, 5, 6, 7].getD i 0) 7 = 1 by decide +kernel] at h
  exact h.mono fun e w' ⟨h1, h2⟩ => ⟨h1, h2 ▸ (Below.refl _ _).alloc (Nat.le_refl _) _⟩
theorem wk_far (w : World) (hG : Glob w) :
    Calls Tryd.prog 23 #[.int .i64 0, .int .i64 1] w fun e w' => ∃ q c, e = .returned (.slice q 7 c) ∧ IL w' (.slice q 7 c) fw ∧ Below w.heap.size w w' := by
  refine (far_k 0 1 w hG).mono ?_
  rintro e w' ⟨v', rfl, ho, hb⟩
  rw [fw_is] at ho
  obtain ⟨q, c, rfl⟩ := owns_shape ho
  exact ⟨q, c, rfl, ho.il, hb⟩
theorem wk_ask1 (w : World) (hG : Glob w) :
    Calls Tryd.prog 10 #[.int .i64 0, .int .i64 1, .int .i64 1, .slice none 0 0, .int .i64 0, .int .i64 3] w fun e w' => ∃ q c, e = .returned (.tuple #[.slice q 1 c, .int .i64 0, .int .i64 0, .int .i64 0]) ∧ KL w' (.slice q 1 c) [(0, 3, 0)] ∧ Below w.heap.size w w' := by
  have h := ask_k 0 1 1 [] 0 3 _ w hG (KL.nil w) (by decide +kernel) (by decide +kernel)
  rw [show askW 0 1 [] 0 = 0 by decide +kernel, show askT 0 1 [] 0 = 0 by decide +kernel, show askL 0 1 [] 0 3 = [(0, 3, 0)] by decide +kernel] at h
  refine h.mono ?_
  rintro e w' ⟨v', rfl, ho, hb⟩
  obtain ⟨q, c, rfl⟩ := kl_form ho.kl
  exact ⟨q, c, rfl, ho.kl, hb⟩
theorem wk_ask2 (q : Option Addr) (c : Nat) (w : World) (hG : Glob w) (hk : KL w (.slice q 1 c) [(0, 3, 0)]) :
    Calls Tryd.prog 10 #[.int .i64 0, .int .i64 1, .int .i64 1, .slice q 1 c, .int .i64 7, .int .i64 2] w fun e w' => ∃ q c, e = .returned (.tuple #[.slice q 1 c, .int .i64 1, .int .i64 8, .int .i64 0]) ∧ KL w' (.slice q 1 c) [(7, 2, 0)] ∧ Below w.heap.size w w' := by
  have h := ask_k 0 1 1 [(0, 3, 0)] 7 2 _ w hG hk (by decide +kernel) (by decide +kernel)
  rw [show askW 0 1 [(0, 3, 0)] 7 = 1 by decide +kernel, show askT 0 1 [(0, 3, 0)] 7 = 8 by decide +kernel, show askL 0 1 [(0, 3, 0)] 7 2 = [(7, 2, 0)] by decide +kernel] at h
  refine h.mono ?_
  rintro e w' ⟨v', rfl, ho, hb⟩
  obtain ⟨q, c, rfl⟩ := kl_form ho.kl
  exact ⟨q, c, rfl, ho.kl, hb⟩
theorem wk_has (q : Option Addr) (c : Nat) (w : World) (hk : KL w (.slice q 1 c) [(7, 2, 0)]) :
    Calls Tryd.prog 15 #[.slice q 1 c, .int .i64 7] w fun e w' => e = .returned (.bool true) ∧ Below w.heap.size w w' := by
  have h := has_k [(7, 2, 0)] 7 _ w hk
  rwa [show hs [(7, 2, 0)] 7 = true by decide +kernel] at h
theorem wk_drop (q : Option Addr) (c : Nat) (w : World) (hk : KL w (.slice q 1 c) [(7, 2, 0)]) :
    Calls Tryd.prog 13 #[.slice q 1 c, .int .i64 7] w fun e w' => ∃ q c, e = .returned (.slice q 0 c) ∧ Below w.heap.size w w' := by
  have h := drop_k [(7, 2, 0)] 7 _ w hk (by simp)
  rw [show dr [(7, 2, 0)] 7 = [] by decide +kernel] at h
  refine h.mono ?_
  rintro e w' ⟨v', rfl, ho, hb⟩
  obtain ⟨q, c, rfl⟩ := kl_form ho.kl
  exact ⟨q, c, rfl, hb⟩
theorem wk_check (w : World) (hG : Glob w) :
    Calls Tryd.prog 18 #[.int .i64 0, .int .i64 1, .int .i64 9, .slice none 0 0] w fun e w' => e = .returned (.int .i64 1) ∧ Below w.heap.size w w' := by
  have h := check_k 0 1 9 [] _ w hG (KL.nil w)
  rwa [show chR 0 1 9 [] = 1 by decide +kernel] at h
set_option maxHeartbeats 4000000 in
set_option maxRecDepth 2000000 in
theorem wakes_any (w : World) (hG : Glob w) :
    Calls Tryd.prog 19 #[] w fun e w' => e = .returned (.bool true) ∧ Below w.heap.size w w' := by
  have HG := hide (show ∀ W, Below w.heap.size w W → Glob W from fun W hb => hG.below hb hG.size)
  have c1 := hide (wk_own w hG)
  have c2 := hide wk_far
  have c3 := hide wk_ask1
  have c4 := hide wk_ask2
  have c5 := hide wk_has
  have c6 := hide wk_drop
  have c7 := hide wk_check
  have m1 := trivial
  clear hG
  go_enter Tryd.func19, Tryd.ntmps19
  go_wp2_with (first
    | (go_at_call 35; refine (unhide c1).mono ?_; rintro e w2 ⟨rfl, b2⟩; have B2 := hide b2; clear b2)
    | (go_at_call 23; refine (unhide c2 _ (unhide HG _ (unhide B2))).mono ?_; rintro e w3 ⟨q3, k3, rfl, i3, b3⟩; have I3 := hide i3; have B3 := hide ((unhide B2).trans (b3.mono (unhide B2).size)); obtain ⟨bf, of, rfl, f1, f2, f3, f4⟩ := il_cell (k := 0) i3 (by omega) (by simp); obtain ⟨bf', of', g0, -, -, -, f5⟩ := il_cell (k := 1) i3 (by omega) (by simp); cases g0; rw [Nat.add_zero] at f4; simp only [zF, List.getD_cons_zero, List.getD_cons_succ] at f4 f5; clear i3 b3)
    | (clear m1; go_at_call 10; refine (unhide c3 _ (unhide HG _ (unhide B3))).mono ?_; rintro e w4 ⟨q4, k4, rfl, i4, b4⟩; have I4 := hide i4; have B4 := hide ((unhide B3).trans (b4.mono (unhide B3).size)); have f14 := (b4.cell (p := ⟨bf, of, none⟩) f3).trans f4; have f15 := (b4.cell (p := ⟨bf, of + 1, none⟩) f3).trans f5; have s4 := Nat.lt_of_lt_of_le f3 b4.size; clear i4 b4)
    | (go_at_call 10; refine (unhide c4 _ _ _ (unhide HG _ (unhide B4)) (unhide I4)).mono ?_; rintro e w5 ⟨q5, k5, rfl, i5, b5⟩; have I5 := hide i5; have B5 := hide ((unhide B4).trans (b5.mono (unhide B4).size)); have f24 := (b5.cell (p := ⟨bf, of, none⟩) s4).trans f14; have f25 := (b5.cell (p := ⟨bf, of + 1, none⟩) s4).trans f15; have s5 := Nat.lt_of_lt_of_le s4 b5.size; obtain ⟨bm, om, rfl, h1, h2, h3, h4, -, -⟩ := kl_cell (k := 0) i5 (by omega) (by simp); rw [Nat.zero_mul, Nat.add_zero] at h4; simp only [kz, List.getD_cons_zero] at h4; clear i5 b5))
  clear c1 c2 c3 c4
  have b5 := Below.refl w5.heap.size w5
  have C5 := hide (fun W (hb : Below w5.heap.size w5 W) => (unhide c5 _ _ W ((unhide I5).below hb (Nat.le_refl _))).mono fun e w' (r : e = .returned (.bool true) ∧ Below W.heap.size W w') => And.intro r.1 (hb.trans (r.2.mono hb.size)))
  have C6 := hide (fun W (hb : Below w5.heap.size w5 W) => (unhide c6 _ _ W ((unhide I5).below hb (Nat.le_refl _))).mono fun e w' (r : ∃ q c, e = .returned (.slice q 0 c) ∧ Below W.heap.size W w') => (show ∃ q c, e = .returned (.slice q 0 c) ∧ Below w5.heap.size w5 w' from by obtain ⟨q, c, r1, r2⟩ := r; exact ⟨q, c, r1, hb.trans (r2.mono hb.size)⟩))
  have C7 := hide (fun W (hb : Below w5.heap.size w5 W) => (unhide c7 W (unhide HG W ((unhide B5).trans (hb.mono (unhide B5).size)))).mono fun e w' (r : e = .returned (.int .i64 1) ∧ Below W.heap.size W w') => And.intro r.1 (hb.trans (r.2.mono hb.size)))
  have SX := hide (show ∀ W, Below w5.heap.size w5 W → Below w5.heap.size w5 W ∧ W.cell? ⟨bf, of, none⟩ = some (.int .i64 7) ∧ W.cell? ⟨bf, of + 1, none⟩ = some (.int .i64 0) ∧ W.cell? ⟨bm, om, none⟩ = some (.int .i64 7) from fun W hb => ⟨hb, (hb.cell (p := ⟨bf, of, none⟩) s5).trans f24, (hb.cell (p := ⟨bf, of + 1, none⟩) s5).trans f25, (hb.cell (p := ⟨bm, om, none⟩) h3).trans h4⟩)
  clear c5 c6 c7 f4 f5 f14 f15
  have hw0 : IntKind.i64.wrap 0 = 0 := rfl
  have hw1 : IntKind.i64.wrap 1 = 1 := rfl
  have hw8 : IntKind.i64.wrap 8 = 8 := rfl
  conv =>
    arg 2
    arg 2
    arg 1
    repeat (whnf; arg 2)
  go_region_held3 (fun w' => Below w5.heap.size w5 w' ∧ w'.cell? ⟨bf, of, none⟩ = some (.int .i64 7) ∧ w'.cell? ⟨bf, of + 1, none⟩ = some (.int .i64 0) ∧ w'.cell? ⟨bm, om, none⟩ = some (.int .i64 7))
    (first
      | assumption
      | exact unhide SX _ (by assumption)
      | exact unhide SX _ (below_drewN (by assumption) _)
      | exact unhide SX _ (below_drewN (by assumption) 1))
    (first
      | (go_at_call 15; with_reducible refine (unhide C5 _ (by first | assumption | exact And.left (by assumption) | exact below_drewN (by assumption) _ | exact below_drewN (by assumption) 1 | exact below_drewN (And.left (by assumption)) 1)).mono ?_; rintro e w6 ⟨rfl, b6⟩)
      | (go_at_call 13; with_reducible refine (unhide C6 _ (by first | assumption | exact And.left (by assumption) | exact below_drewN (by assumption) _ | exact below_drewN (by assumption) 1 | exact below_drewN (And.left (by assumption)) 1)).mono ?_; rintro e w7 ⟨q7, k7, rfl, b7⟩)
      | (go_at_call 18; with_reducible refine (unhide C7 _ (by first | assumption | exact And.left (by assumption) | exact below_drewN (by assumption) _ | exact below_drewN (by assumption) 1 | exact below_drewN (And.left (by assumption)) 1)).mono ?_; rintro e w8 ⟨rfl, b8⟩))
  all_goals go_wp2
  all_goals go_ret
  all_goals exact ⟨rfl, (unhide B5).trans (b8.mono (unhide B5).size)⟩
end Go.Proofs.YtgglnhnokhpnpaaDoor
