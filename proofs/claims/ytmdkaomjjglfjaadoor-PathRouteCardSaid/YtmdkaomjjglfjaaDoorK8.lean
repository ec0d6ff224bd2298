/- Walks of slices.Grow at nil, slices.Concat, path.Add. -/
import Derived.Test.YtmdkaomjjglfjaaDoorK7
import Derived.Test.YtmdkaomjjglfjaaDoorK2
namespace Go.Proofs.YtmdkaomjjglfjaaDoor
open Go.RowKit

set_option maxHeartbeats 1000000 in
set_option maxRecDepth 100000 in
theorem grow_nil (n : Nat) (w : World) (hn : n ≤ 1000000) :
    Calls Tryd.prog 27 #[.slice none 0 0, .int .i64 n] w fun e w' => ∃ v', e = .returned v' ∧ OL w' w.heap.size v' [] ∧ Below w.heap.size w w' := by
  obtain ⟨i0, hi, hz0, hz1, hz2⟩ := info_parts info3
  by_cases h0 : n = 0
  · subst h0
    go_enter Tryd.func27, Tryd.ntmps27
    go_wp2
    go_ret
    exact ⟨_, rfl, OL.nil _ _, Below.refl _ _⟩
  · have h1 : ¬ ((n : Int) < 0) := by omega
    have h4 : (n : Int) > 0 := by omega
    have hold : (Builtin.firstCells i0.size 0 (.slice none 0 0)).run Tryd.prog w.drew = .ok (#[] : Array Value) w.drew := run_firstCells_none w.drew i0.size 0 0 0
    have hrz : ∀ ty, (Builtin.append_ #[22, 3] ty #[.slice none 0 0, .int .i64 (n : Int)]).run Tryd.prog w = _ := fun ty =>
      Lib.run_append_grow_zeros w 22 3 ty 3 i0 _ .i64 .i64 Tryd.underlying22 Tryd.underlying3 hi hz0 none 0 0 [] hold n (by omega) (by omega) (by omega) (by omega) (by rw [hz2]; omega) (growslice_fits (by omega) (by rw [hz2]; omega))
    rw [Nat.zero_add] at hrz
    have hGn : n ≤ grownCap w n 0 3 := grownCap_ge w _ _ _
    have hGm : grownCap w n 0 3 ≤ maxLen := grownCap_le_maxLen w n 0 3 (by unfold maxLen; omega)
    generalize hcs : ([] : List Value).toArray ++ Builtin.zeroCells (Value.int .i64 0).cells n ++ Builtin.zeroCells (Value.int .i64 0).cells (grownCap w n 0 3 - n) = cs at hrz
    have hsz : cs.size = grownCap w n 0 3 * 1 := by
      rw [← hcs]
      simp [size_zeroCells, Value.cells]
      omega
    generalize grownCap w n 0 3 = G at *
    have HO : Hid (OL (w.drew.alloc (.cells cs 3)) w.heap.size (.slice (some ⟨w.heap.size, 0, none⟩) 0 G) []) :=
      hide ⟨rfl, .inr ⟨w.heap.size, _, _, rfl, Nat.le_refl _, heap_alloc_new w.drew _, Nat.zero_le _, hGm, hsz, by simp⟩⟩
    have B1 : Hid (Below w.heap.size w (w.drew.alloc (.cells cs 3))) := hide ((below_drewN (Below.refl w.heap.size w) 1 : Below w.heap.size w w.drew).alloc (Nat.le_refl _) (.cells cs 3))
    have hG63 : G ≤ 9223372036854775807 := by unfold maxLen at hGm; omega
    clear hcs hsz
    generalize w.drew.alloc (.cells cs 3) = W2 at *
    clear hold hGm
    go_enter Tryd.func27, Tryd.ntmps27
    go_wp2_with (at_builtin; refine Lib.wpList_append_run _ rfl _ _ _ _ rfl _ _ rfl rfl _ _ (hrz _) ?_)
    go_ret
    exact ⟨_, rfl, unhide HO, unhide B1⟩
/-- The first k lists, one behind the other. -/
def cat (M : List (List Int)) : Nat → List Int
  | 0 => []
  | k + 1 => cat M k ++ zL M k
theorem cat_len (M : List (List Int)) (k : Nat) : (cat M (k + 1)).length = (cat M k).length + (zL M k).length := List.length_append
theorem cat_mono (M : List (List Int)) {k m : Nat} (h : k ≤ m) : (cat M k).length ≤ (cat M m).length := by
  induction m with
  | zero => obtain rfl : k = 0 := by omega
            exact Nat.le_refl _
  | succ m ih =>
    by_cases hk : k = m + 1
    · subst hk; exact Nat.le_refl _
    · have := ih (by omega)
      rw [cat_len]
      omega
set_option maxHeartbeats 1000000 in
set_option maxRecDepth 100000 in
theorem concat_is (M : List (List Int)) (v : Value) (w : World) (h : LL w v M) (hs : (cat M M.length).length ≤ 1000000) :
    Calls Tryd.prog 19 #[v] w fun e w' => ∃ v', e = .returned v' ∧ OL w' w.heap.size v' (cat M M.length) ∧ Below w.heap.size w w' := by
  obtain ⟨q, c, h1, _⟩ := id h
  subst h1
  obtain ⟨m, hm⟩ : ∃ m, M.length = m := ⟨_, rfl⟩
  have HM := hide (show m ≤ M.length by omega)
  have HI := hide h
  rw [hm] at HI hs ⊢
  have HS := hide hs
  clear h hm hs
  go_enter Tryd.func19, Tryd.ntmps19
  go_wp2
  go_loop [3, 11] (fun s i => ∃ k : Nat, k ≤ m ∧ s = .int .i64 ((cat M k).length : Nat) ∧ i = .int .i64 k) (fun _ i => m - (intOf i).toNat)
  case atStart => exact ⟨0, by omega, rfl, rfl⟩
  case round =>
    obtain ⟨k, hk, rfl, rfl⟩ := hrel
    by_cases hlt : k < m
    · obtain ⟨b, off, q1, c1, rfl, hle, hc, hb, hck, -⟩ := ll_cell (unhide HI) hlt (unhide HM)
      have s1 := Nat.le_trans (cat_mono M (show k + 1 ≤ m by omega)) (unhide HS)
      have s2 := cat_len M k
      rw [s2] at s1
      have S2 := hide s2
      clear s2
      generalize (cat M k).length = x at *
      generalize (zL M k).length = y at *
      go_wp2
      go_round
      case rel => exact ⟨k + 1, by omega, by rw [unhide S2]; go_num, by go_num⟩
      case measure => simp [intOf]; omega
    · obtain rfl : m = k := by omega
      have G := hide (grow_nil (cat M m).length w (unhide HS))
      go_wp2_with (go_at_call 27; refine (unhide G).mono ?_; rintro e w1 ⟨v1, rfl, o1, b1⟩)
      have O1 := hide o1
      have B1 := hide b1
      clear o1 b1
      go_loopw [6, 27] (fun v i w2 => ∃ j : Nat, j ≤ m ∧ i = .int .i64 j ∧ OL w2 w.heap.size v (cat M j) ∧ Below w.heap.size w w2) (fun _ i _ => m - (intOf i).toNat)
      case atStart => exact ⟨0, by omega, rfl, unhide O1, unhide B1⟩
      case round =>
        clear O1 B1 G
        obtain ⟨j, hj, rfl, ho, hbl⟩ := hrel
        have HO := hide ho
        have HBL := hide hbl
        clear ho hbl
        by_cases hlt : j < m
        · obtain ⟨b, off, q1, c1, rfl, hle, hc, hb, hck, hI⟩ := ll_cell ((LL.below (unhide HI) (unhide HBL) (Nat.le_refl _))) hlt (unhide HM)
          have HI1 := hide hI
          have C2 : cat M (j + 1) = cat M j ++ zL M j := rfl
          have C2 := hide C2
          have s1 := Nat.le_trans (cat_mono M (show j + 1 ≤ m by omega)) (unhide HS)
          rw [cat_len] at s1
          have S1 := hide s1
          clear hI s1
          generalize hK : zL M j = K at *
          generalize hL : cat M j = L at *
          generalize hn : K.length = n at *
          have HN := hide hn
          clear hn hK hL
          go_wp2_with (at_builtin; refine wpList_cat (by simp [Region.wanted]) (.tmp 31) (.tmp 32) rfl w.heap.size _ _ L K rfl (unhide HO) rfl (unhide HI1) (by have := unhide S1; omega) (by have := unhide S1; have := unhide HN; omega) (unhide HBL).size ?_; intro v2 w2 o2 b2; have O2 := hide o2; have B2 := hide ((unhide HBL).trans b2); clear o2 b2)
          go_roundw
          case rel => exact ⟨j + 1, by omega, by go_num, by rw [unhide C2]; exact unhide O2, unhide B2⟩
          case measure => simp [intOf]; omega
        · obtain rfl : m = j := by omega
          go_wp2
          go_ret
          exact ⟨_, rfl, unhide HO, unhide HBL⟩
/-- What Add's error is. -/
def adE (t s : Int) (L : List Int) : Int := if chk t s L 8 = 0 ∧ L.length = 8 then 12 else chk t s L 8
theorem il_lit1 (w : World) (x : Int) : IL (w.alloc (.cells #[.int .i64 x] 3)) (.slice (some ⟨w.heap.size, 0, none⟩) 1 1) [x] :=
  isl_lit w [x] 3 1 rfl (by unfold maxLen; omega)
theorem ll_lit2 (w : World) (u v : Value) (A B : List Int) (hu : IL w u A) (hv : IL w v B) : LL (w.alloc (.cells #[u, v] 22)) (.slice (some ⟨w.heap.size, 0, none⟩) 2 2) [A, B] := by
  have hb : Below w.heap.size w (w.alloc (.cells #[u, v] 22)) := (Below.refl _ _).alloc (Nat.le_refl _) _
  refine ⟨_, 2, rfl, fun k hk => ⟨w.heap.size, 0, [u, v].getD k u, rfl, Nat.le_refl _, by omega, by simp, ?_, ?_⟩⟩
  · match k, hk with
    | 0, _ => have := cells_lit w [u, v] 22 0 u rfl; rwa [Addr.add_lit] at this
    | 1, _ => have := cells_lit w [u, v] 22 1 v rfl; rwa [Addr.add_lit] at this
  · match k, hk with
    | 0, _ => exact hu.below hb (Nat.le_refl _)
    | 1, _ => exact hv.below hb (Nat.le_refl _)
set_option maxHeartbeats 1000000 in
theorem add_no (t s : Int) (L : List Int) (v : Value) (w : World) (hG : Glob w) (h : IL w v L) (he : adE t s L ≠ 0) :
    Calls Tryd.prog 7 #[.int .i64 t, .int .i64 s, v] w fun e w' => e = .returned (.tuple #[.slice none 0 0, .int .i64 (adE t s L)]) ∧ w' = w := by
  have c1 := hide (check_p t s L 8 v w hG h)
  obtain ⟨q, c, rfl⟩ := il_form h
  clear h hG
  obtain ⟨A, hA⟩ : ∃ A, adE t s L = A := ⟨_, rfl⟩
  rw [hA] at he ⊢
  unfold adE at hA
  by_cases h0 : chk t s L 8 = 0
  · have hl : L.length = 8 := by
      by_cases q : L.length = 8
      · exact q
      · rw [if_neg (fun z => q z.2)] at hA; omega
    rw [if_pos ⟨h0, hl⟩] at hA
    subst hA
    rw [h0, hl] at c1
    rw [hl]
    clear h0 hl he
    go_enter Tryd.func7, Tryd.ntmps7
    go_wp2_with (go_at_call 14; refine (unhide c1).mono ?_; rintro e w1 ⟨rfl, rfl⟩)
    go_ret2
    exact ⟨rfl, rfl⟩
  · rw [if_neg (fun z => h0 z.1)] at hA
    rw [hA] at c1
    have b1 : (A != 0) = true := by simpa using he
    have b2 : (A == 0) = false := beq_false_of_ne he
    clear h0 hA he
    go_enter Tryd.func7, Tryd.ntmps7
    go_wp2_with (go_at_call 14; refine (unhide c1).mono ?_; rintro e w1 ⟨rfl, rfl⟩)
    go_ret2
    exact ⟨rfl, rfl⟩
set_option maxHeartbeats 1000000 in
theorem add_ok (t s : Int) (L : List Int) (v : Value) (w : World) (hG : Glob w) (h : IL w v L) (he : adE t s L = 0) :
    Calls Tryd.prog 7 #[.int .i64 t, .int .i64 s, v] w fun e w' => ∃ v', e = .returned (.tuple #[v', .int .i64 0]) ∧ OL w' w.heap.size v' (s :: L) ∧ Below w.heap.size w w' := by
  have c1 := hide (check_p t s L 8 v w hG h)
  have h0 : chk t s L 8 = 0 := by
    unfold adE at he
    split at he
    · cases he
    · exact he
  rw [h0] at c1
  have hl : L.length ≤ 8 := by have := (chk_zero.1 h0).2.2.2.1; omega
  have hl2 : L.length ≠ 8 := fun q => by unfold adE at he; rw [if_pos ⟨h0, q⟩] at he; cases he
  have bw : Below w.heap.size w (w.alloc (.cells #[.int .i64 s] 3)) := (Below.refl _ _).alloc (Nat.le_refl _) _
  have c2 := concat_is [[s], L] _ _ (ll_lit2 (w.alloc (.cells #[.int .i64 s] 3)) _ _ _ _ (il_lit1 w s) (h.below bw (Nat.le_refl _))) (by show ((([] : List Int) ++ [s]) ++ L).length ≤ _; simp; omega)
  have hb2 : Below w.heap.size w ((w.alloc (.cells #[.int .i64 s] 3)).alloc (.cells #[.slice (some ⟨w.heap.size, 0, none⟩) 1 1, v] 22)) := bw.alloc bw.size _
  have hs1 : (w.alloc (.cells #[.int .i64 s] 3)).heap.size = w.heap.size + 1 := by simp
  have hcat : cat [[s], L] ([[s], L] : List (List Int)).length = s :: L := by show (([] : List Int) ++ [s]) ++ L = _; simp
  rw [hcat, hs1] at c2
  replace c2 := hide (c2.mono fun e w' (⟨v', e1, o, b⟩ : ∃ v', e = Ending.returned v' ∧ OL w' _ v' (s :: L) ∧ Below _ _ w') => (⟨v', e1, o.mono hb2.size, hb2.trans (b.mono hb2.size)⟩ : ∃ v', e = Ending.returned v' ∧ OL w' w.heap.size v' (s :: L) ∧ Below w.heap.size w w'))
  obtain ⟨q, c, rfl⟩ := il_form h
  clear h hG he h0 bw hb2 hs1 hcat
  generalize hn : L.length = n at *
  have hz : ((n : Int) == 8) = false := beq_false_of_ne (by omega)
  clear hn
  go_enter Tryd.func7, Tryd.ntmps7
  go_wp2_with (first
    | (go_at_call 14; refine (unhide c1).mono ?_; rintro e w ⟨rfl, rfl⟩)
    | (go_at_call 19; refine (unhide c2).mono ?_; rintro e w2 ⟨v2, rfl, ho, hb⟩; have O2 := hide ho; have B2 := hide hb; clear ho hb))
  go_ret2
  exact ⟨_, rfl, unhide O2, unhide B2⟩
end Go.Proofs.YtmdkaomjjglfjaaDoor
