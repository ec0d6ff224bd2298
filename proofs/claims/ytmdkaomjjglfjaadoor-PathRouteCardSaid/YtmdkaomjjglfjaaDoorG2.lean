/- Walks of route.reach, route.Next, route.Way. -/
import Derived.Test.YtmdkaomjjglfjaaDoorG1
import Derived.Deep.LoopGhost
namespace Go.Proofs.YtmdkaomjjglfjaaDoor
open Go.RowKit

set_option maxHeartbeats 2000000 in
theorem reach_is (L : List Int) (s : Int) (v : Value) (w : World) (hG : Glob w) (h : IL w v L) (hR : Ris L) (hs : s ∈ L) :
    Calls Tryd.prog 34 #[v, .int .i64 s] w fun e w' => ∃ v', e = .returned v' ∧ OL w' w.heap.size v' (rch L s) ∧ Below w.heap.size w w' := by
  have c1 := hide (fingers_is L s v w hG h hR hs)
  have c2 := hide (fun (w2 : World) (hb : Below w.heap.size w w2) => ahead_both L s v w2 (hG.below hb hG.size) (h.below hb (Nat.le_refl _)) hR hs)
  have hln := fng_len L s
  have LN := hide hln
  clear h hR hs hG hln
  by_cases h0 : oth L s = []
  · have hr : rch L s = fng L s ++ [s] := by unfold rch; rw [if_pos h0, List.append_nil]
    rw [hr]
    rw [if_pos h0] at c2
    clear hr h0
    generalize fng L s = M at *
    go_enter Tryd.func34, Tryd.ntmps34
    go_wp2_with (first
      | (go_at_call 43; refine (unhide c1).mono ?_; rintro e w2 ⟨v2, rfl, ho, hb⟩; have O2 := hide ho; have B2 := hide hb; clear ho hb)
      | (at_builtin; refine wpList_snoc (by simp [Region.wanted]) (.tmp 15) (.tmp 17) rfl w.heap.size _ M s rfl ((unhide O2).alloc _) _ rfl (cell_one s _ 3) (Nat.le_trans (unhide LN) (by omega)) (by have := (unhide B2).size; simp; omega) ?_; intro v4 w4 o4 b4; have O4 := hide o4; have B4 := hide (((unhide B2).alloc (unhide B2).size _).trans b4); clear o4 b4)
      | (go_at_call 44; refine (unhide c2 _ (unhide B4)).mono ?_; rintro e w5 ⟨rfl, hb⟩; have O5 := hide ((unhide O4).below hb (Nat.le_refl _)); have B5 := hide ((unhide B4).trans (hb.mono (unhide B4).size)); clear hb))
    go_ret
    exact ⟨_, rfl, unhide O5, unhide B5⟩
  · have hr : rch L s = (fng L s ++ [s]) ++ [ahd L s] := by unfold rch; rw [if_neg h0]
    rw [hr]
    rw [if_neg h0] at c2
    clear hr h0
    generalize ahd L s = a at *
    generalize fng L s = M at *
    have m1 := trivial
    go_enter Tryd.func34, Tryd.ntmps34
    go_wp2_with (first
      | (go_at_call 43; refine (unhide c1).mono ?_; rintro e w2 ⟨v2, rfl, ho, hb⟩; have O2 := hide ho; have B2 := hide hb; clear ho hb)
      | (clear m1; at_builtin; refine wpList_snoc (by simp [Region.wanted]) (.tmp 15) (.tmp 17) rfl w.heap.size _ M s rfl ((unhide O2).alloc _) _ rfl (cell_one s _ 3) (Nat.le_trans (unhide LN) (by omega)) (by have := (unhide B2).size; simp; omega) ?_; intro v4 w4 o4 b4; have O4 := hide o4; have B4 := hide (((unhide B2).alloc (unhide B2).size _).trans b4); clear o4 b4)
      | (go_at_call 44; refine (unhide c2 _ (unhide B4)).mono ?_; rintro e w5 ⟨rfl, hb⟩; have O5 := hide ((unhide O4).below hb (Nat.le_refl _)); have B5 := hide ((unhide B4).trans (hb.mono (unhide B4).size)); clear hb)
      | (at_builtin; refine wpList_snoc (by simp [Region.wanted]) (.tmp 27) (.tmp 29) rfl w.heap.size _ (M ++ [s]) a rfl ((unhide O5).alloc _) _ rfl (cell_one a _ 3) (by have := unhide LN; simp; omega) (by have := (unhide B5).size; simp; omega) ?_; intro v6 w6 o6 b6; have O6 := hide o6; have B6 := hide (((unhide B5).alloc (unhide B5).size _).trans b6); clear o6 b6))
    go_ret
    exact ⟨_, rfl, unhide O6, unhide B6⟩

theorem owner_il (t : Int) (L : List Int) (v : Value) (w : World) (hG : Glob w) (ht : IsT t) (h : IL w v L) (hN : Nds L) (h0 : L ≠ []) :
    Calls Tryd.prog 33 #[.int .i64 t, v] w fun e w' => e = .returned (.tuple #[.int .i64 (ow t L), .int .i64 0]) ∧ w' = w := by
  have hl := List.length_pos_iff.2 h0
  have c := owner_pos t v L.length (zF L) ht w hG h hl (hN.to (Nat.le_refl _))
  rw [own_mn] at c
  exact c
theorem next_arg (t : Int) (L : List Int) (s : Int) (v : Value) (w : World) (h : IL w v L) (hR : ¬ (Ris L ∧ s ∈ L)) :
    Calls Tryd.prog 26 #[.int .i64 t, v, .int .i64 s] w fun e w' => e = .returned (.tuple #[.int .i64 0, .bool false, .int .i64 1]) ∧ w' = w := by
  have c := hide (check_arg L s v _ h hR)
  clear h hR
  go_enter Tryd.func26, Tryd.ntmps26
  go_wp2_with (go_at_call 32; refine (unhide c).mono ?_; rintro e w1 ⟨rfl, rfl⟩)
  go_ret3
  exact ⟨rfl, rfl⟩
theorem next_topic (t : Int) (L : List Int) (s : Int) (v : Value) (w : World) (hG : Glob w) (h : IL w v L) (hR : Ris L) (hs : s ∈ L) (ht : ¬ IsT t) :
    Calls Tryd.prog 26 #[.int .i64 t, v, .int .i64 s] w fun e w' => e = .returned (.tuple #[.int .i64 0, .bool false, .int .i64 1]) ∧ Below w.heap.size w w' := by
  have c1 := hide (check_ok L s v w h hR hs)
  have c2 := hide (reach_is L s v w hG h hR hs)
  have c3 := hide (fun v => owner_topic t v ht)
  clear h hR hs ht hG
  go_enter Tryd.func26, Tryd.ntmps26
  go_wp2_with (first
    | (go_at_call 32; refine (unhide c1).mono ?_; rintro e w ⟨rfl, rfl⟩)
    | (go_at_call 34; refine (unhide c2).mono ?_; rintro e w2 ⟨v2, rfl, ho, hb⟩; have B2 := hide hb; clear ho hb)
    | (go_at_call 33; refine (unhide c3 _ _).mono ?_; rintro e w3 ⟨rfl, rfl⟩))
  go_ret3
  exact ⟨rfl, unhide B2⟩
theorem next_is (t : Int) (L : List Int) (s : Int) (v : Value) (w : World) (hG : Glob w) (h : IL w v L) (hR : Ris L) (hs : s ∈ L) (ht : IsT t) :
    Calls Tryd.prog 26 #[.int .i64 t, v, .int .i64 s] w fun e w' => e = .returned (.tuple (if nxt t L s = s then #[.int .i64 0, .bool false, .int .i64 0] else #[.int .i64 (nxt t L s), .bool true, .int .i64 0])) ∧ Below w.heap.size w w' := by
  have hN : Nds (rch L s) := hR.2.sub fun x hx => rch_sub hs hx
  have c1 := hide (check_ok L s v w h hR hs)
  have c2 := hide (reach_is L s v w hG h hR hs)
  have c3 := hide (fun (v2 : Value) (w2 : World) (ho : OL w2 w.heap.size v2 (rch L s)) (hb : Below w.heap.size w w2) => owner_il t (rch L s) v2 w2 (hG.below hb hG.size) ht ho.il hN (rch_ne L s))
  have e : ow t (rch L s) = nxt t L s := rfl
  rw [e] at c3
  clear e h hR hs ht hG hN
  by_cases hx : nxt t L s = s
  · rw [if_pos hx]
    rw [hx] at c3
    clear hx
    go_enter Tryd.func26, Tryd.ntmps26
    go_wp2_with (first
      | (go_at_call 32; refine (unhide c1).mono ?_; rintro e w ⟨rfl, rfl⟩)
      | (go_at_call 34; refine (unhide c2).mono ?_; rintro e w2 ⟨v2, rfl, ho, hb⟩; have O2 := hide ho; have B2 := hide hb; clear ho hb)
      | (go_at_call 33; refine (unhide c3 _ _ (unhide O2) (unhide B2)).mono ?_; rintro e w2 ⟨rfl, rfl⟩))
    go_ret3
    exact ⟨rfl, unhide B2⟩
  · rw [if_neg hx]
    have h1 : (nxt t L s == s) = false := beq_false_of_ne hx
    clear hx
    generalize nxt t L s = x at *
    go_enter Tryd.func26, Tryd.ntmps26
    go_wp2_with (first
      | (go_at_call 32; refine (unhide c1).mono ?_; rintro e w ⟨rfl, rfl⟩)
      | (go_at_call 34; refine (unhide c2).mono ?_; rintro e w2 ⟨v2, rfl, ho, hb⟩; have O2 := hide ho; have B2 := hide hb; clear ho hb)
      | (go_at_call 33; refine (unhide c3 _ _ (unhide O2) (unhide B2)).mono ?_; rintro e w2 ⟨rfl, rfl⟩))
    go_ret3
    exact ⟨rfl, unhide B2⟩
theorem way_arg (t : Int) (L : List Int) (s : Int) (v : Value) (w : World) (hG : Glob w) (h : IL w v L) (hR : ¬ (Ris L ∧ s ∈ L) ∨ (Ris L ∧ s ∈ L) ∧ ¬ IsT t) :
    Calls Tryd.prog 18 #[.int .i64 t, v, .int .i64 s] w fun e w' => e = .returned (.tuple #[.slice none 0 0, .int .i64 1]) ∧ Below w.heap.size w w' := by
  have c : Calls Tryd.prog 26 #[.int .i64 t, v, .int .i64 s] w fun e w' => e = .returned (.tuple #[.int .i64 0, .bool false, .int .i64 1]) ∧ Below w.heap.size w w' := by
    rcases hR with hR | ⟨⟨h1, h2⟩, h3⟩
    · exact (next_arg t L s v w h hR).mono fun e w' q => ⟨q.1, q.2 ▸ Below.refl _ _⟩
    · exact next_topic t L s v w hG h h1 h2 h3
  have c := hide c
  clear h hR hG
  go_enter Tryd.func18, Tryd.ntmps18
  go_wp2
  refine wp_loop_rounds 1 ?_
  rw [rounds_succ]
  go_wp2_with (go_at_call 26; refine (unhide c).mono ?_; rintro e w1 ⟨rfl, hb⟩; have HB := hide hb; clear hb)
  go_ret2
  exact ⟨rfl, unhide HB⟩
set_option maxHeartbeats 2000000 in
theorem way_is (t : Int) (L : List Int) (s : Int) (W : List Int) (v : Value) (w : World) (hG : Glob w) (h : IL w v L) (hR : Ris L) (hs : s ∈ L) (ht : IsT t) (hW : IsWay t L s W) (hn : W.length ≤ 1000) :
    Calls Tryd.prog 18 #[.int .i64 t, v, .int .i64 s] w fun e w' => ∃ v', e = .returned (.tuple #[v', .int .i64 0]) ∧ OL w' w.heap.size v' W ∧ Below w.heap.size w w' := by
  have c1 := hide (fun (x : Int) (w2 : World) (hx : x ∈ L) (hb : Below w.heap.size w w2) => next_is t L x v w2 (hG.below hb hG.size) (h.below hb (Nat.le_refl _)) hR hx ht)
  have HM := hide (isway_mem hs hW)
  have HS := hide (isway_step hW)
  have HE := hide (isway_end hW)
  have e0 : s = zF (s :: W) 0 := rfl
  have E0 := hide e0
  clear e0 hG h hR hs ht hW
  go_enter Tryd.func18, Tryd.ntmps18
  go_wp2
  go_loopg [8, 9] (W.length + 1) (fun g xv xa w2 => ∃ k : Nat, k ≤ W.length ∧ W.length + 1 - k ≤ g ∧ xa = .int .i64 (zF (s :: W) k) ∧ Hid (OL w2 w.heap.size xv (W.take k)) ∧ Hid (Below w.heap.size w w2))
  case atStart => exact ⟨0, Nat.zero_le _, Nat.le_refl _, by rw [← unhide E0], hide (by rw [List.take_zero]; exact OL.nil _ _), hide (Below.refl _ _)⟩
  case round =>
    obtain ⟨k, hk, hg, rfl, HO, HB⟩ := hrel
    have c2 := unhide c1 _ wr (unhide HM k hk) (unhide HB)
    by_cases hlt : k < W.length
    · obtain ⟨q1, q2⟩ := unhide HS k hlt
      rw [q1, if_neg q2] at c2
      have c2 := hide c2
      have e1 : zF (s :: W) (k + 1) = zF W k := zF_cons _ _ _
      have e2 : W.take (k + 1) = W.take k ++ [zF W k] := by
        rw [List.take_succ_eq_append_getElem hlt]
        simp [zF, List.getD, hlt]
      have HE1 := hide e1
      have HE2 := hide e2
      have HT := hide (show (W.take k).length ≤ 1000000 by rw [List.length_take]; omega)
      clear q1 q2 e1 e2
      generalize zF (s :: W) k = x at *
      generalize zF W k = y at *
      go_wp2_with (first
        | (go_at_call 26; refine (unhide c2).mono ?_; rintro e w2 ⟨rfl, hb⟩; have B2 := hide hb; clear hb)
        | (at_builtin; refine wpList_snoc (by simp [Region.wanted]) (.tmp 28) (.tmp 30) rfl w.heap.size _ (W.take k) y rfl (((unhide HO).below (unhide B2) (Nat.le_refl _)).alloc _) _ rfl (cell_one y _ 3) (unhide HT) (by have := (unhide HB).size; have := (unhide B2).size; simp; omega) ?_; intro v4 w4 o4 b4; have O4 := hide o4; have B4 := hide ((((unhide HB).trans ((unhide B2).mono (unhide HB).size)).alloc (by have := (unhide HB).size; have := (unhide B2).size; omega) _).trans b4); clear o4 b4))
      go_roundg (W.length - k)
      case measure => omega
      case rel => exact ⟨k + 1, hlt, by omega, by rw [unhide HE1], hide (by rw [unhide HE2]; exact unhide O4), B4⟩
    · obtain rfl : k = W.length := by omega
      rw [if_pos (unhide HE)] at c2
      have c2 := hide c2
      have HT := hide (List.take_length (l := W))
      generalize zF (s :: W) W.length = x at *
      go_wp2_with (go_at_call 26; refine (unhide c2).mono ?_; rintro e w2 ⟨rfl, hb⟩; have B2 := hide hb; clear hb)
      go_ret2
      have O := (unhide HO).below (unhide B2) (Nat.le_refl _)
      rw [unhide HT] at O
      exact ⟨_, rfl, O, (unhide HB).trans ((unhide B2).mono (unhide HB).size)⟩
end Go.Proofs.YtmdkaomjjglfjaaDoor
