/- Walks of CodecCut. -/
import Derived.Test.YtkmljmfonhohbaaK2
namespace Go.Proofs.Ytkmljmfonhohbaa
open Go.RowKit
theorem modU (x : Int) (n : Int) (h : 0 < n) (h2 : n ≤ 1000000) : wrap64 ((IntKind.u64.wrap x).tmod n) = (x % 18446744073709551616) % n := by
  have e1 : IntKind.u64.wrap x = x % 18446744073709551616 := rfl
  rw [e1, Int.tmod_eq_emod_of_nonneg (by omega)]
  have h3 := Int.emod_lt_of_pos (x % 18446744073709551616) h
  have h4 := Int.emod_nonneg (x % 18446744073709551616) (show n ≠ 0 by omega)
  unfold wrap64
  omega
theorem modN (x : Int) (n : Nat) (h : 0 < n) (h2 : n ≤ 1000000) : ∃ q : Nat, wrap64 ((IntKind.u64.wrap x).tmod n) = q ∧ q < n := by
  have h3 := Int.emod_lt_of_pos (x % 18446744073709551616) (show (0:Int) < n by omega)
  have h4 := Int.emod_nonneg (x % 18446744073709551616) (show (n:Int) ≠ 0 by omega)
  refine ⟨((x % 18446744073709551616) % n).toNat, ?_, by omega⟩
  rw [modU x n (by omega) (by omega)]
  omega
/-- The bytes of the number and of the list 0, 1, .. -/
def cutX (S N M : Nat) : Nat → Int := listF (putF (fun _ => 0) 0 S N) S M (fun i => i)
theorem cutX_bd (S N M : Nat) (hM : M < 30) (i : Nat) (hi : i < S + 1 + M) : 0 ≤ cutX S N M i ∧ cutX S N M i < 256 :=
  listF_bd _ _ _ _ (fun i _ => putF_bd _ _ _ _ (fun i h => by omega) i) (by omega) (fun i h => ⟨by omega, by omega⟩) i hi
theorem cut_num (S N M : Nat) (hs : IsZ S) (hn : IsNum S N) : num (cutX S N M) 0 S = N := by
  rw [cutX, num_congr (G := putF (fun _ => 0) 0 S N) (fun i hi => listF_ahead _ _ _ _ _ (by omega)), num_put_all _ _ _ _ hs hn]
theorem cut_put (S N : Nat) (hs : IsZ S) (hN : N < 200) (w : World) :
    Calls Try.prog 9 #[.slice none 0 0, .int .i64 (S : Int), .int .i64 (N : Int)] w fun e w' => ∃ v', e = .returned (.tuple #[v', .int .i64 0]) ∧ Sl .u8 w' v' S (putF (fun _ => 0) 0 S N) ∧ Below w.heap.size w w' := by
  have hn : IsNum S N := ⟨by omega, by rcases hs with h | h | h | h <;> rw [h] <;> simp [lim] <;> omega⟩
  refine (put_is (fun _ => 0) (.slice none 0 0) 0 S N hs hn w (.inl ⟨rfl, .inl rfl⟩) (by omega)).mono ?_
  rintro e w' ⟨v', rfl, o, b⟩
  rw [Nat.zero_add] at o
  exact ⟨v', rfl, sl_of_owns o, b⟩
theorem cut_putl (S N M L : Nat) (hs : IsZ S) (hM : M < 30) (hL : L = S + 1 + M) (v l : Value) (w : World) (hv : Sl .u8 w v S (putF (fun _ => 0) 0 S N)) (hl : Sl .i64 w l M (fun i => i)) :
    Calls Try.prog 11 #[v, l] w fun e w' => ∃ g c', e = .returned (.tuple #[.slice (some ⟨g, 0, none⟩) L c', .int .i64 0]) ∧ L ≤ c' ∧ c' ≤ maxLen ∧ Sl .u8 w' (.slice (some ⟨g, 0, none⟩) L c') L (cutX S N M) ∧ Below w.heap.size w w' := by
  refine (putl_is _ (fun i => i) v l S M w hv hl (by rcases hs with h | h | h | h <;> omega) (by omega) (fun i h => ⟨by omega, by omega⟩)).mono ?_
  rintro e w' ⟨v', rfl, o, b⟩
  rw [← hL] at o
  obtain ⟨g, c', rfl, l1, l2⟩ := owns_some o (by omega)
  exact ⟨g, c', rfl, l1, l2, sl_of_owns o, b⟩
theorem cut_get (S N M L C : Nat) (hs : IsZ S) (hN : N < 200) (hM : M < 30) (hL : L = S + 1 + M) (hC : C < L) (g c' : Nat) (w : World) (hv : Sl .u8 w (.slice (some ⟨g, 0, none⟩) L c') L (cutX S N M)) (h1 : S ≤ C) :
    Calls Try.prog 10 #[.slice (some ⟨g, 0, none⟩) C c', .int .i64 0, .int .i64 (S : Int)] w fun e w' => e = .returned (.tuple #[.int .i64 N, .int .i64 S, .int .i64 0]) ∧ w' = w := by
  have hn : IsNum S N := ⟨by omega, by rcases hs with h | h | h | h <;> rw [h] <;> simp [lim] <;> omega⟩
  refine (get_is (cutX S N M) _ C 0 S hs w (hv.take (by omega) (by omega)) (fun i hi => cutX_bd S N M hM i (by omega)) (by omega)).mono ?_
  rintro e w' ⟨rfl, rfl⟩
  rw [cut_num S N M hs hn, getA, if_pos (by omega)]
  exact ⟨by simp, rfl⟩
theorem cut_get_f (S C : Nat) (hs : IsZ S) (g c' : Nat) (hm : C ≤ maxLen) (w : World) (h1 : C < S) :
    Calls Try.prog 10 #[.slice (some ⟨g, 0, none⟩) C c', .int .i64 0, .int .i64 (S : Int)] w fun e w' => e = .returned (.tuple #[.int .i64 0, .int .i64 0, .int .i64 2]) ∧ w' = w :=
  get_len _ C c' 0 S hs hm (fun h => by have := h.2; omega) w
theorem cut_getl (S N M L C : Nat) (hM : M < 30) (hS : S ≤ 8) (hL : L = S + 1 + M) (hC : C < L) (g c' : Nat) (w : World) (hv : Sl .u8 w (.slice (some ⟨g, 0, none⟩) L c') L (cutX S N M)) :
    Calls Try.prog 12 #[.slice (some ⟨g, 0, none⟩) C c', .int .i64 (S : Int)] w fun e w' => e = .returned (.tuple #[.slice none 0 0, .int .i64 0, .int .i64 2]) ∧ Below w.heap.size w w' := by
  by_cases h : S < C
  · refine getl_cut (cutX S N M) _ C S w (hv.take (by omega) (by omega)) (fun i hi => cutX_bd S N M hM i (by omega)) h (by omega) ?_
    rw [cutX, listF_len]
    intro q
    have := q.2
    omega
  · exact getl_at _ C c' S (by unfold maxLen; omega) (fun q => by have := q.2; omega) w

set_option maxRecDepth 100000 in
set_option maxHeartbeats 1000000 in
theorem cut_1 (s n many cut : Int) (hq : wrap64 ((IntKind.u64.wrap s).tmod 4) = 0) (w : World) :
    Calls Try.prog 6 #[.int .i64 s, .int .i64 n, .int .i64 many, .int .i64 cut] w fun e w' => e = .returned (.bool true) ∧ Below w.heap.size w w' := by
  obtain ⟨i, hi, hz0, hz1, hz2⟩ := info_parts info3
  obtain ⟨N, hN, hN2⟩ : ∃ q : Nat, wrap64 ((IntKind.u64.wrap n).tmod 200) = q ∧ q < 200 := modN n 200 (by omega) (by omega)
  obtain ⟨M, hM, hM2⟩ : ∃ q : Nat, wrap64 ((IntKind.u64.wrap many).tmod 30) = q ∧ q < 30 := modN many 30 (by omega) (by omega)
  obtain ⟨L, hL⟩ : ∃ L : Nat, L = 1 + 1 + M := ⟨_, rfl⟩
  obtain ⟨C, hC, hC2⟩ := modN cut L (by omega) (by omega)
  have c1 : Hid (∀ w, Calls Try.prog 9 #[.slice none 0 0, .int .i64 1, .int .i64 (N : Int)] w fun e w' => ∃ v', e = .returned (.tuple #[v', .int .i64 0]) ∧ Sl .u8 w' v' 1 (putF (fun _ => 0) 0 1 N) ∧ Below w.heap.size w w') := hide (cut_put 1 N (by decide) hN2)
  have c2 := hide (cut_putl 1 N M L (by decide) hM2 hL)
  have c4 : Hid (∀ g c' w, Sl .u8 w (.slice (some ⟨g, 0, none⟩) L c') L (cutX 1 N M) → Calls Try.prog 12 #[.slice (some ⟨g, 0, none⟩) C c', .int .i64 1] w fun e w' => e = .returned (.tuple #[.slice none 0 0, .int .i64 0, .int .i64 2]) ∧ Below w.heap.size w w') := hide (cut_getl 1 N M L C hM2 (by omega) hL hC2)
  have lL : (L : Int) = 2 + (M : Int) := by omega
  have d1 : ((L : Int) != (1 : Int) + 1 + (M : Int)) = false := by simp; omega
  have HL := hide hL
  have LL := hide lL
  have hL38 : L ≤ 38 := by omega
  have hLS : 1 < L := by omega
  by_cases hlt : C < 1
  · have c3 : Hid (∀ g c' w, Sl .u8 w (.slice (some ⟨g, 0, none⟩) L c') L (cutX 1 N M) → Calls Try.prog 10 #[.slice (some ⟨g, 0, none⟩) C c', .int .i64 0, .int .i64 1] w fun e w' => e = .returned (.tuple #[.int .i64 0, .int .i64 0, .int .i64 2]) ∧ w' = w) := hide fun g c' w _ => cut_get_f 1 C (by decide) g c' (by unfold maxLen; omega) w hlt
    clear hL lL
    go_enter Try.func6, Try.ntmps6
    go_wp2_with (go_at_call 9; refine (unhide c1 _).mono ?_; rintro e w1 ⟨v1, rfl, s1, b1⟩; have S1 := hide s1; have B1 := hide (((Below.refl _ _).alloc (Nat.le_refl _) _).trans (b1.mono (by simp))); clear s1 b1)
    go_loopw [11, 12] (fun xo xi w2 => ∃ k : Nat, k ≤ M ∧ xi = .int .i64 k ∧ w2.ownsRow w1.heap.size 3 1 xo k (vL .i64 (fun i => i) k) ∧ Below w1.heap.size w1 w2) (fun _ i _ => M - (intOf i).toNat)
    case atStart => exact ⟨0, by omega, rfl, World.ownsRow_nil _ _ _ _, Below.refl _ _⟩
    case round =>
      obtain ⟨k, hk, rfl, hown, hbel⟩ := hrel
      by_cases hkM : k < M
      · go_wp2_with (at_builtin; refine wpList_append_own _ rfl (.tmp 48) (.tmp 50) 23 rfl w1.heap.size 3 i (.int .i64 0) 1 8 Try.underlying23 hi hz0 hz1 hz2 rfl (by decide) _ k (vL .i64 (fun i => i) k) rfl (hown.alloc _) ⟨wr.heap.size, 0, none⟩ 1 1 [.int .i64 (k : Int)] rfl rfl ?_ ?_ (by unfold maxLen; omega) (by omega) (by have := hbel.size; simp; omega) ?_)
        · exact cells_lit wr [.int .i64 (k : Int)] 3
        · intro u hu
          simp at hu
          subst hu
          rfl
        · intro v2 w2 hown2 hgrow2 _
          go_wp2
          go_roundw
          case rel => exact ⟨k + 1, by omega, by go_num, by rw [vL_succ]; exact hown2, (hbel.alloc hbel.size _).grown hgrow2 (by have := hbel.size; simp; omega) (fun b hb => (hown.lt b hb).1)⟩
          case measure => simp [intOf]; omega
      · obtain rfl : M = k := by omega
        replace S1 := hide ((unhide S1).below hbel (Nat.le_refl _))
        replace B1 := hide (below_of (unhide B1) hbel)
        have SL := hide (sl_of_owns hown)
        clear hown hbel
        go_wp2_with (first
          | (go_at_call 11; refine (unhide c2 _ _ _ (unhide S1) (unhide SL)).mono ?_; rintro e w2 ⟨g, c', rfl, l1, l2, s2, b2⟩; unfold maxLen at l2; have S2 := hide s2; replace B1 := hide (below_of (unhide B1) b2); clear b2 s2)
          | (go_at_call 10; refine (unhide c3 _ _ _ (unhide S2)).mono ?_; rintro e w3 ⟨rfl, hw⟩; obtain rfl := hw.symm)
          | (go_at_call 12; refine (unhide c4 _ _ _ (unhide S2)).mono ?_; rintro e w3 ⟨rfl, b2⟩; replace B1 := hide (below_of (unhide B1) b2); clear b2)
          | (go_at_call 21; refine (wakes_any _).mono ?_; rintro e w3 ⟨rfl, b2⟩; replace B1 := hide (below_of (unhide B1) b2); clear b2))
        go_ret
        exact ⟨rfl, unhide B1⟩
  · have c3 : Hid (∀ g c' w, Sl .u8 w (.slice (some ⟨g, 0, none⟩) L c') L (cutX 1 N M) → Calls Try.prog 10 #[.slice (some ⟨g, 0, none⟩) C c', .int .i64 0, .int .i64 1] w fun e w' => e = .returned (.tuple #[.int .i64 (N : Int), .int .i64 1, .int .i64 0]) ∧ w' = w) := hide fun g c' w h => cut_get 1 N M L C (by decide) hN2 hM2 hL hC2 g c' w h (by omega)
    clear hL lL
    go_enter Try.func6, Try.ntmps6
    go_wp2_with (go_at_call 9; refine (unhide c1 _).mono ?_; rintro e w1 ⟨v1, rfl, s1, b1⟩; have S1 := hide s1; have B1 := hide (((Below.refl _ _).alloc (Nat.le_refl _) _).trans (b1.mono (by simp))); clear s1 b1)
    go_loopw [11, 12] (fun xo xi w2 => ∃ k : Nat, k ≤ M ∧ xi = .int .i64 k ∧ w2.ownsRow w1.heap.size 3 1 xo k (vL .i64 (fun i => i) k) ∧ Below w1.heap.size w1 w2) (fun _ i _ => M - (intOf i).toNat)
    case atStart => exact ⟨0, by omega, rfl, World.ownsRow_nil _ _ _ _, Below.refl _ _⟩
    case round =>
      obtain ⟨k, hk, rfl, hown, hbel⟩ := hrel
      by_cases hkM : k < M
      · go_wp2_with (at_builtin; refine wpList_append_own _ rfl (.tmp 48) (.tmp 50) 23 rfl w1.heap.size 3 i (.int .i64 0) 1 8 Try.underlying23 hi hz0 hz1 hz2 rfl (by decide) _ k (vL .i64 (fun i => i) k) rfl (hown.alloc _) ⟨wr.heap.size, 0, none⟩ 1 1 [.int .i64 (k : Int)] rfl rfl ?_ ?_ (by unfold maxLen; omega) (by omega) (by have := hbel.size; simp; omega) ?_)
        · exact cells_lit wr [.int .i64 (k : Int)] 3
        · intro u hu
          simp at hu
          subst hu
          rfl
        · intro v2 w2 hown2 hgrow2 _
          go_wp2
          go_roundw
          case rel => exact ⟨k + 1, by omega, by go_num, by rw [vL_succ]; exact hown2, (hbel.alloc hbel.size _).grown hgrow2 (by have := hbel.size; simp; omega) (fun b hb => (hown.lt b hb).1)⟩
          case measure => simp [intOf]; omega
      · obtain rfl : M = k := by omega
        replace S1 := hide ((unhide S1).below hbel (Nat.le_refl _))
        replace B1 := hide (below_of (unhide B1) hbel)
        have SL := hide (sl_of_owns hown)
        clear hown hbel
        go_wp2_with (first
          | (go_at_call 11; refine (unhide c2 _ _ _ (unhide S1) (unhide SL)).mono ?_; rintro e w2 ⟨g, c', rfl, l1, l2, s2, b2⟩; unfold maxLen at l2; have S2 := hide s2; replace B1 := hide (below_of (unhide B1) b2); clear b2 s2)
          | (go_at_call 10; refine (unhide c3 _ _ _ (unhide S2)).mono ?_; rintro e w3 ⟨rfl, hw⟩; obtain rfl := hw.symm)
          | (go_at_call 12; refine (unhide c4 _ _ _ (unhide S2)).mono ?_; rintro e w3 ⟨rfl, b2⟩; replace B1 := hide (below_of (unhide B1) b2); clear b2)
          | (go_at_call 21; refine (wakes_any _).mono ?_; rintro e w3 ⟨rfl, b2⟩; replace B1 := hide (below_of (unhide B1) b2); clear b2))
        go_ret
        exact ⟨rfl, unhide B1⟩
set_option maxRecDepth 100000 in
set_option maxHeartbeats 1000000 in
theorem cut_2 (s n many cut : Int) (hq : wrap64 ((IntKind.u64.wrap s).tmod 4) = 1) (w : World) :
    Calls Try.prog 6 #[.int .i64 s, .int .i64 n, .int .i64 many, .int .i64 cut] w fun e w' => e = .returned (.bool true) ∧ Below w.heap.size w w' := by
  obtain ⟨i, hi, hz0, hz1, hz2⟩ := info_parts info3
  obtain ⟨N, hN, hN2⟩ : ∃ q : Nat, wrap64 ((IntKind.u64.wrap n).tmod 200) = q ∧ q < 200 := modN n 200 (by omega) (by omega)
  obtain ⟨M, hM, hM2⟩ : ∃ q : Nat, wrap64 ((IntKind.u64.wrap many).tmod 30) = q ∧ q < 30 := modN many 30 (by omega) (by omega)
  obtain ⟨L, hL⟩ : ∃ L : Nat, L = 2 + 1 + M := ⟨_, rfl⟩
  obtain ⟨C, hC, hC2⟩ := modN cut L (by omega) (by omega)
  have c1 : Hid (∀ w, Calls Try.prog 9 #[.slice none 0 0, .int .i64 2, .int .i64 (N : Int)] w fun e w' => ∃ v', e = .returned (.tuple #[v', .int .i64 0]) ∧ Sl .u8 w' v' 2 (putF (fun _ => 0) 0 2 N) ∧ Below w.heap.size w w') := hide (cut_put 2 N (by decide) hN2)
  have c2 := hide (cut_putl 2 N M L (by decide) hM2 hL)
  have c4 : Hid (∀ g c' w, Sl .u8 w (.slice (some ⟨g, 0, none⟩) L c') L (cutX 2 N M) → Calls Try.prog 12 #[.slice (some ⟨g, 0, none⟩) C c', .int .i64 2] w fun e w' => e = .returned (.tuple #[.slice none 0 0, .int .i64 0, .int .i64 2]) ∧ Below w.heap.size w w') := hide (cut_getl 2 N M L C hM2 (by omega) hL hC2)
  have lL : (L : Int) = 3 + (M : Int) := by omega
  have d1 : ((L : Int) != (2 : Int) + 1 + (M : Int)) = false := by simp; omega
  have HL := hide hL
  have LL := hide lL
  have hL38 : L ≤ 38 := by omega
  have hLS : 2 < L := by omega
  by_cases hlt : C < 2
  · have c3 : Hid (∀ g c' w, Sl .u8 w (.slice (some ⟨g, 0, none⟩) L c') L (cutX 2 N M) → Calls Try.prog 10 #[.slice (some ⟨g, 0, none⟩) C c', .int .i64 0, .int .i64 2] w fun e w' => e = .returned (.tuple #[.int .i64 0, .int .i64 0, .int .i64 2]) ∧ w' = w) := hide fun g c' w _ => cut_get_f 2 C (by decide) g c' (by unfold maxLen; omega) w hlt
    clear hL lL
    go_enter Try.func6, Try.ntmps6
    go_wp2_with (go_at_call 9; refine (unhide c1 _).mono ?_; rintro e w1 ⟨v1, rfl, s1, b1⟩; have S1 := hide s1; have B1 := hide (((Below.refl _ _).alloc (Nat.le_refl _) _).trans (b1.mono (by simp))); clear s1 b1)
    go_loopw [11, 12] (fun xo xi w2 => ∃ k : Nat, k ≤ M ∧ xi = .int .i64 k ∧ w2.ownsRow w1.heap.size 3 1 xo k (vL .i64 (fun i => i) k) ∧ Below w1.heap.size w1 w2) (fun _ i _ => M - (intOf i).toNat)
    case atStart => exact ⟨0, by omega, rfl, World.ownsRow_nil _ _ _ _, Below.refl _ _⟩
    case round =>
      obtain ⟨k, hk, rfl, hown, hbel⟩ := hrel
      by_cases hkM : k < M
      · go_wp2_with (at_builtin; refine wpList_append_own _ rfl (.tmp 48) (.tmp 50) 23 rfl w1.heap.size 3 i (.int .i64 0) 1 8 Try.underlying23 hi hz0 hz1 hz2 rfl (by decide) _ k (vL .i64 (fun i => i) k) rfl (hown.alloc _) ⟨wr.heap.size, 0, none⟩ 1 1 [.int .i64 (k : Int)] rfl rfl ?_ ?_ (by unfold maxLen; omega) (by omega) (by have := hbel.size; simp; omega) ?_)
        · exact cells_lit wr [.int .i64 (k : Int)] 3
        · intro u hu
          simp at hu
          subst hu
          rfl
        · intro v2 w2 hown2 hgrow2 _
          go_wp2
          go_roundw
          case rel => exact ⟨k + 1, by omega, by go_num, by rw [vL_succ]; exact hown2, (hbel.alloc hbel.size _).grown hgrow2 (by have := hbel.size; simp; omega) (fun b hb => (hown.lt b hb).1)⟩
          case measure => simp [intOf]; omega
      · obtain rfl : M = k := by omega
        replace S1 := hide ((unhide S1).below hbel (Nat.le_refl _))
        replace B1 := hide (below_of (unhide B1) hbel)
        have SL := hide (sl_of_owns hown)
        clear hown hbel
        go_wp2_with (first
          | (go_at_call 11; refine (unhide c2 _ _ _ (unhide S1) (unhide SL)).mono ?_; rintro e w2 ⟨g, c', rfl, l1, l2, s2, b2⟩; unfold maxLen at l2; have S2 := hide s2; replace B1 := hide (below_of (unhide B1) b2); clear b2 s2)
          | (go_at_call 10; refine (unhide c3 _ _ _ (unhide S2)).mono ?_; rintro e w3 ⟨rfl, hw⟩; obtain rfl := hw.symm)
          | (go_at_call 12; refine (unhide c4 _ _ _ (unhide S2)).mono ?_; rintro e w3 ⟨rfl, b2⟩; replace B1 := hide (below_of (unhide B1) b2); clear b2)
          | (go_at_call 21; refine (wakes_any _).mono ?_; rintro e w3 ⟨rfl, b2⟩; replace B1 := hide (below_of (unhide B1) b2); clear b2))
        go_ret
        exact ⟨rfl, unhide B1⟩
  · have c3 : Hid (∀ g c' w, Sl .u8 w (.slice (some ⟨g, 0, none⟩) L c') L (cutX 2 N M) → Calls Try.prog 10 #[.slice (some ⟨g, 0, none⟩) C c', .int .i64 0, .int .i64 2] w fun e w' => e = .returned (.tuple #[.int .i64 (N : Int), .int .i64 2, .int .i64 0]) ∧ w' = w) := hide fun g c' w h => cut_get 2 N M L C (by decide) hN2 hM2 hL hC2 g c' w h (by omega)
    clear hL lL
    go_enter Try.func6, Try.ntmps6
    go_wp2_with (go_at_call 9; refine (unhide c1 _).mono ?_; rintro e w1 ⟨v1, rfl, s1, b1⟩; have S1 := hide s1; have B1 := hide (((Below.refl _ _).alloc (Nat.le_refl _) _).trans (b1.mono (by simp))); clear s1 b1)
    go_loopw [11, 12] (fun xo xi w2 => ∃ k : Nat, k ≤ M ∧ xi = .int .i64 k ∧ w2.ownsRow w1.heap.size 3 1 xo k (vL .i64 (fun i => i) k) ∧ Below w1.heap.size w1 w2) (fun _ i _ => M - (intOf i).toNat)
    case atStart => exact ⟨0, by omega, rfl, World.ownsRow_nil _ _ _ _, Below.refl _ _⟩
    case round =>
      obtain ⟨k, hk, rfl, hown, hbel⟩ := hrel
      by_cases hkM : k < M
      · go_wp2_with (at_builtin; refine wpList_append_own _ rfl (.tmp 48) (.tmp 50) 23 rfl w1.heap.size 3 i (.int .i64 0) 1 8 Try.underlying23 hi hz0 hz1 hz2 rfl (by decide) _ k (vL .i64 (fun i => i) k) rfl (hown.alloc _) ⟨wr.heap.size, 0, none⟩ 1 1 [.int .i64 (k : Int)] rfl rfl ?_ ?_ (by unfold maxLen; omega) (by omega) (by have := hbel.size; simp; omega) ?_)
        · exact cells_lit wr [.int .i64 (k : Int)] 3
        · intro u hu
          simp at hu
          subst hu
          rfl
        · intro v2 w2 hown2 hgrow2 _
          go_wp2
          go_roundw
          case rel => exact ⟨k + 1, by omega, by go_num, by rw [vL_succ]; exact hown2, (hbel.alloc hbel.size _).grown hgrow2 (by have := hbel.size; simp; omega) (fun b hb => (hown.lt b hb).1)⟩
          case measure => simp [intOf]; omega
      · obtain rfl : M = k := by omega
        replace S1 := hide ((unhide S1).below hbel (Nat.le_refl _))
        replace B1 := hide (below_of (unhide B1) hbel)
        have SL := hide (sl_of_owns hown)
        clear hown hbel
        go_wp2_with (first
          | (go_at_call 11; refine (unhide c2 _ _ _ (unhide S1) (unhide SL)).mono ?_; rintro e w2 ⟨g, c', rfl, l1, l2, s2, b2⟩; unfold maxLen at l2; have S2 := hide s2; replace B1 := hide (below_of (unhide B1) b2); clear b2 s2)
          | (go_at_call 10; refine (unhide c3 _ _ _ (unhide S2)).mono ?_; rintro e w3 ⟨rfl, hw⟩; obtain rfl := hw.symm)
          | (go_at_call 12; refine (unhide c4 _ _ _ (unhide S2)).mono ?_; rintro e w3 ⟨rfl, b2⟩; replace B1 := hide (below_of (unhide B1) b2); clear b2)
          | (go_at_call 21; refine (wakes_any _).mono ?_; rintro e w3 ⟨rfl, b2⟩; replace B1 := hide (below_of (unhide B1) b2); clear b2))
        go_ret
        exact ⟨rfl, unhide B1⟩
set_option maxRecDepth 100000 in
set_option maxHeartbeats 1000000 in
theorem cut_4 (s n many cut : Int) (hq : wrap64 ((IntKind.u64.wrap s).tmod 4) = 2) (w : World) :
    Calls Try.prog 6 #[.int .i64 s, .int .i64 n, .int .i64 many, .int .i64 cut] w fun e w' => e = .returned (.bool true) ∧ Below w.heap.size w w' := by
  obtain ⟨i, hi, hz0, hz1, hz2⟩ := info_parts info3
  obtain ⟨N, hN, hN2⟩ : ∃ q : Nat, wrap64 ((IntKind.u64.wrap n).tmod 200) = q ∧ q < 200 := modN n 200 (by omega) (by omega)
  obtain ⟨M, hM, hM2⟩ : ∃ q : Nat, wrap64 ((IntKind.u64.wrap many).tmod 30) = q ∧ q < 30 := modN many 30 (by omega) (by omega)
  obtain ⟨L, hL⟩ : ∃ L : Nat, L = 4 + 1 + M := ⟨_, rfl⟩
  obtain ⟨C, hC, hC2⟩ := modN cut L (by omega) (by omega)
  have c1 : Hid (∀ w, Calls Try.prog 9 #[.slice none 0 0, .int .i64 4, .int .i64 (N : Int)] w fun e w' => ∃ v', e = .returned (.tuple #[v', .int .i64 0]) ∧ Sl .u8 w' v' 4 (putF (fun _ => 0) 0 4 N) ∧ Below w.heap.size w w') := hide (cut_put 4 N (by decide) hN2)
  have c2 := hide (cut_putl 4 N M L (by decide) hM2 hL)
  have c4 : Hid (∀ g c' w, Sl .u8 w (.slice (some ⟨g, 0, none⟩) L c') L (cutX 4 N M) → Calls Try.prog 12 #[.slice (some ⟨g, 0, none⟩) C c', .int .i64 4] w fun e w' => e = .returned (.tuple #[.slice none 0 0, .int .i64 0, .int .i64 2]) ∧ Below w.heap.size w w') := hide (cut_getl 4 N M L C hM2 (by omega) hL hC2)
  have lL : (L : Int) = 5 + (M : Int) := by omega
  have d1 : ((L : Int) != (4 : Int) + 1 + (M : Int)) = false := by simp; omega
  have HL := hide hL
  have LL := hide lL
  have hL38 : L ≤ 38 := by omega
  have hLS : 4 < L := by omega
  by_cases hlt : C < 4
  · have c3 : Hid (∀ g c' w, Sl .u8 w (.slice (some ⟨g, 0, none⟩) L c') L (cutX 4 N M) → Calls Try.prog 10 #[.slice (some ⟨g, 0, none⟩) C c', .int .i64 0, .int .i64 4] w fun e w' => e = .returned (.tuple #[.int .i64 0, .int .i64 0, .int .i64 2]) ∧ w' = w) := hide fun g c' w _ => cut_get_f 4 C (by decide) g c' (by unfold maxLen; omega) w hlt
    clear hL lL
    go_enter Try.func6, Try.ntmps6
    go_wp2_with (go_at_call 9; refine (unhide c1 _).mono ?_; rintro e w1 ⟨v1, rfl, s1, b1⟩; have S1 := hide s1; have B1 := hide (((Below.refl _ _).alloc (Nat.le_refl _) _).trans (b1.mono (by simp))); clear s1 b1)
    go_loopw [11, 12] (fun xo xi w2 => ∃ k : Nat, k ≤ M ∧ xi = .int .i64 k ∧ w2.ownsRow w1.heap.size 3 1 xo k (vL .i64 (fun i => i) k) ∧ Below w1.heap.size w1 w2) (fun _ i _ => M - (intOf i).toNat)
    case atStart => exact ⟨0, by omega, rfl, World.ownsRow_nil _ _ _ _, Below.refl _ _⟩
    case round =>
      obtain ⟨k, hk, rfl, hown, hbel⟩ := hrel
      by_cases hkM : k < M
      · go_wp2_with (at_builtin; refine wpList_append_own _ rfl (.tmp 48) (.tmp 50) 23 rfl w1.heap.size 3 i (.int .i64 0) 1 8 Try.underlying23 hi hz0 hz1 hz2 rfl (by decide) _ k (vL .i64 (fun i => i) k) rfl (hown.alloc _) ⟨wr.heap.size, 0, none⟩ 1 1 [.int .i64 (k : Int)] rfl rfl ?_ ?_ (by unfold maxLen; omega) (by omega) (by have := hbel.size; simp; omega) ?_)
        · exact cells_lit wr [.int .i64 (k : Int)] 3
        · intro u hu
          simp at hu
          subst hu
          rfl
        · intro v2 w2 hown2 hgrow2 _
          go_wp2
          go_roundw
          case rel => exact ⟨k + 1, by omega, by go_num, by rw [vL_succ]; exact hown2, (hbel.alloc hbel.size _).grown hgrow2 (by have := hbel.size; simp; omega) (fun b hb => (hown.lt b hb).1)⟩
          case measure => simp [intOf]; omega
      · obtain rfl : M = k := by omega
        replace S1 := hide ((unhide S1).below hbel (Nat.le_refl _))
        replace B1 := hide (below_of (unhide B1) hbel)
        have SL := hide (sl_of_owns hown)
        clear hown hbel
        go_wp2_with (first
          | (go_at_call 11; refine (unhide c2 _ _ _ (unhide S1) (unhide SL)).mono ?_; rintro e w2 ⟨g, c', rfl, l1, l2, s2, b2⟩; unfold maxLen at l2; have S2 := hide s2; replace B1 := hide (below_of (unhide B1) b2); clear b2 s2)
          | (go_at_call 10; refine (unhide c3 _ _ _ (unhide S2)).mono ?_; rintro e w3 ⟨rfl, hw⟩; obtain rfl := hw.symm)
          | (go_at_call 12; refine (unhide c4 _ _ _ (unhide S2)).mono ?_; rintro e w3 ⟨rfl, b2⟩; replace B1 := hide (below_of (unhide B1) b2); clear b2)
          | (go_at_call 21; refine (wakes_any _).mono ?_; rintro e w3 ⟨rfl, b2⟩; replace B1 := hide (below_of (unhide B1) b2); clear b2))
        go_ret
        exact ⟨rfl, unhide B1⟩
  · have c3 : Hid (∀ g c' w, Sl .u8 w (.slice (some ⟨g, 0, none⟩) L c') L (cutX 4 N M) → Calls Try.prog 10 #[.slice (some ⟨g, 0, none⟩) C c', .int .i64 0, .int .i64 4] w fun e w' => e = .returned (.tuple #[.int .i64 (N : Int), .int .i64 4, .int .i64 0]) ∧ w' = w) := hide fun g c' w h => cut_get 4 N M L C (by decide) hN2 hM2 hL hC2 g c' w h (by omega)
    clear hL lL
    go_enter Try.func6, Try.ntmps6
    go_wp2_with (go_at_call 9; refine (unhide c1 _).mono ?_; rintro e w1 ⟨v1, rfl, s1, b1⟩; have S1 := hide s1; have B1 := hide (((Below.refl _ _).alloc (Nat.le_refl _) _).trans (b1.mono (by simp))); clear s1 b1)
    go_loopw [11, 12] (fun xo xi w2 => ∃ k : Nat, k ≤ M ∧ xi = .int .i64 k ∧ w2.ownsRow w1.heap.size 3 1 xo k (vL .i64 (fun i => i) k) ∧ Below w1.heap.size w1 w2) (fun _ i _ => M - (intOf i).toNat)
    case atStart => exact ⟨0, by omega, rfl, World.ownsRow_nil _ _ _ _, Below.refl _ _⟩
    case round =>
      obtain ⟨k, hk, rfl, hown, hbel⟩ := hrel
      by_cases hkM : k < M
      · go_wp2_with (at_builtin; refine wpList_append_own _ rfl (.tmp 48) (.tmp 50) 23 rfl w1.heap.size 3 i (.int .i64 0) 1 8 Try.underlying23 hi hz0 hz1 hz2 rfl (by decide) _ k (vL .i64 (fun i => i) k) rfl (hown.alloc _) ⟨wr.heap.size, 0, none⟩ 1 1 [.int .i64 (k : Int)] rfl rfl ?_ ?_ (by unfold maxLen; omega) (by omega) (by have := hbel.size; simp; omega) ?_)
        · exact cells_lit wr [.int .i64 (k : Int)] 3
        · intro u hu
          simp at hu
          subst hu
          rfl
        · intro v2 w2 hown2 hgrow2 _
          go_wp2
          go_roundw
          case rel => exact ⟨k + 1, by omega, by go_num, by rw [vL_succ]; exact hown2, (hbel.alloc hbel.size _).grown hgrow2 (by have := hbel.size; simp; omega) (fun b hb => (hown.lt b hb).1)⟩
          case measure => simp [intOf]; omega
      · obtain rfl : M = k := by omega
        replace S1 := hide ((unhide S1).below hbel (Nat.le_refl _))
        replace B1 := hide (below_of (unhide B1) hbel)
        have SL := hide (sl_of_owns hown)
        clear hown hbel
        go_wp2_with (first
          | (go_at_call 11; refine (unhide c2 _ _ _ (unhide S1) (unhide SL)).mono ?_; rintro e w2 ⟨g, c', rfl, l1, l2, s2, b2⟩; unfold maxLen at l2; have S2 := hide s2; replace B1 := hide (below_of (unhide B1) b2); clear b2 s2)
          | (go_at_call 10; refine (unhide c3 _ _ _ (unhide S2)).mono ?_; rintro e w3 ⟨rfl, hw⟩; obtain rfl := hw.symm)
          | (go_at_call 12; refine (unhide c4 _ _ _ (unhide S2)).mono ?_; rintro e w3 ⟨rfl, b2⟩; replace B1 := hide (below_of (unhide B1) b2); clear b2)
          | (go_at_call 21; refine (wakes_any _).mono ?_; rintro e w3 ⟨rfl, b2⟩; replace B1 := hide (below_of (unhide B1) b2); clear b2))
        go_ret
        exact ⟨rfl, unhide B1⟩
set_option maxRecDepth 100000 in
set_option maxHeartbeats 1000000 in
theorem cut_8 (s n many cut : Int) (hq : wrap64 ((IntKind.u64.wrap s).tmod 4) = 3) (w : World) :
    Calls Try.prog 6 #[.int .i64 s, .int .i64 n, .int .i64 many, .int .i64 cut] w fun e w' => e = .returned (.bool true) ∧ Below w.heap.size w w' := by
  obtain ⟨i, hi, hz0, hz1, hz2⟩ := info_parts info3
  obtain ⟨N, hN, hN2⟩ : ∃ q : Nat, wrap64 ((IntKind.u64.wrap n).tmod 200) = q ∧ q < 200 := modN n 200 (by omega) (by omega)
  obtain ⟨M, hM, hM2⟩ : ∃ q : Nat, wrap64 ((IntKind.u64.wrap many).tmod 30) = q ∧ q < 30 := modN many 30 (by omega) (by omega)
  obtain ⟨L, hL⟩ : ∃ L : Nat, L = 8 + 1 + M := ⟨_, rfl⟩
  obtain ⟨C, hC, hC2⟩ := modN cut L (by omega) (by omega)
  have c1 : Hid (∀ w, Calls Try.prog 9 #[.slice none 0 0, .int .i64 8, .int .i64 (N : Int)] w fun e w' => ∃ v', e = .returned (.tuple #[v', .int .i64 0]) ∧ Sl .u8 w' v' 8 (putF (fun _ => 0) 0 8 N) ∧ Below w.heap.size w w') := hide (cut_put 8 N (by decide) hN2)
  have c2 := hide (cut_putl 8 N M L (by decide) hM2 hL)
  have c4 : Hid (∀ g c' w, Sl .u8 w (.slice (some ⟨g, 0, none⟩) L c') L (cutX 8 N M) → Calls Try.prog 12 #[.slice (some ⟨g, 0, none⟩) C c', .int .i64 8] w fun e w' => e = .returned (.tuple #[.slice none 0 0, .int .i64 0, .int .i64 2]) ∧ Below w.heap.size w w') := hide (cut_getl 8 N M L C hM2 (by omega) hL hC2)
  have lL : (L : Int) = 9 + (M : Int) := by omega
  have d1 : ((L : Int) != (8 : Int) + 1 + (M : Int)) = false := by simp; omega
  have HL := hide hL
  have LL := hide lL
  have hL38 : L ≤ 38 := by omega
  have hLS : 8 < L := by omega
  by_cases hlt : C < 8
  · have c3 : Hid (∀ g c' w, Sl .u8 w (.slice (some ⟨g, 0, none⟩) L c') L (cutX 8 N M) → Calls Try.prog 10 #[.slice (some ⟨g, 0, none⟩) C c', .int .i64 0, .int .i64 8] w fun e w' => e = .returned (.tuple #[.int .i64 0, .int .i64 0, .int .i64 2]) ∧ w' = w) := hide fun g c' w _ => cut_get_f 8 C (by decide) g c' (by unfold maxLen; omega) w hlt
    clear hL lL
    go_enter Try.func6, Try.ntmps6
    go_wp2_with (go_at_call 9; refine (unhide c1 _).mono ?_; rintro e w1 ⟨v1, rfl, s1, b1⟩; have S1 := hide s1; have B1 := hide (((Below.refl _ _).alloc (Nat.le_refl _) _).trans (b1.mono (by simp))); clear s1 b1)
    go_loopw [11, 12] (fun xo xi w2 => ∃ k : Nat, k ≤ M ∧ xi = .int .i64 k ∧ w2.ownsRow w1.heap.size 3 1 xo k (vL .i64 (fun i => i) k) ∧ Below w1.heap.size w1 w2) (fun _ i _ => M - (intOf i).toNat)
    case atStart => exact ⟨0, by omega, rfl, World.ownsRow_nil _ _ _ _, Below.refl _ _⟩
    case round =>
      obtain ⟨k, hk, rfl, hown, hbel⟩ := hrel
      by_cases hkM : k < M
      · go_wp2_with (at_builtin; refine wpList_append_own _ rfl (.tmp 48) (.tmp 50) 23 rfl w1.heap.size 3 i (.int .i64 0) 1 8 Try.underlying23 hi hz0 hz1 hz2 rfl (by decide) _ k (vL .i64 (fun i => i) k) rfl (hown.alloc _) ⟨wr.heap.size, 0, none⟩ 1 1 [.int .i64 (k : Int)] rfl rfl ?_ ?_ (by unfold maxLen; omega) (by omega) (by have := hbel.size; simp; omega) ?_)
        · exact cells_lit wr [.int .i64 (k : Int)] 3
        · intro u hu
          simp at hu
          subst hu
          rfl
        · intro v2 w2 hown2 hgrow2 _
          go_wp2
          go_roundw
          case rel => exact ⟨k + 1, by omega, by go_num, by rw [vL_succ]; exact hown2, (hbel.alloc hbel.size _).grown hgrow2 (by have := hbel.size; simp; omega) (fun b hb => (hown.lt b hb).1)⟩
          case measure => simp [intOf]; omega
      · obtain rfl : M = k := by omega
        replace S1 := hide ((unhide S1).below hbel (Nat.le_refl _))
        replace B1 := hide (below_of (unhide B1) hbel)
        have SL := hide (sl_of_owns hown)
        clear hown hbel
        go_wp2_with (first
          | (go_at_call 11; refine (unhide c2 _ _ _ (unhide S1) (unhide SL)).mono ?_; rintro e w2 ⟨g, c', rfl, l1, l2, s2, b2⟩; unfold maxLen at l2; have S2 := hide s2; replace B1 := hide (below_of (unhide B1) b2); clear b2 s2)
          | (go_at_call 10; refine (unhide c3 _ _ _ (unhide S2)).mono ?_; rintro e w3 ⟨rfl, hw⟩; obtain rfl := hw.symm)
          | (go_at_call 12; refine (unhide c4 _ _ _ (unhide S2)).mono ?_; rintro e w3 ⟨rfl, b2⟩; replace B1 := hide (below_of (unhide B1) b2); clear b2)
          | (go_at_call 21; refine (wakes_any _).mono ?_; rintro e w3 ⟨rfl, b2⟩; replace B1 := hide (below_of (unhide B1) b2); clear b2))
        go_ret
        exact ⟨rfl, unhide B1⟩
  · have c3 : Hid (∀ g c' w, Sl .u8 w (.slice (some ⟨g, 0, none⟩) L c') L (cutX 8 N M) → Calls Try.prog 10 #[.slice (some ⟨g, 0, none⟩) C c', .int .i64 0, .int .i64 8] w fun e w' => e = .returned (.tuple #[.int .i64 (N : Int), .int .i64 8, .int .i64 0]) ∧ w' = w) := hide fun g c' w h => cut_get 8 N M L C (by decide) hN2 hM2 hL hC2 g c' w h (by omega)
    clear hL lL
    go_enter Try.func6, Try.ntmps6
    go_wp2_with (go_at_call 9; refine (unhide c1 _).mono ?_; rintro e w1 ⟨v1, rfl, s1, b1⟩; have S1 := hide s1; have B1 := hide (((Below.refl _ _).alloc (Nat.le_refl _) _).trans (b1.mono (by simp))); clear s1 b1)
    go_loopw [11, 12] (fun xo xi w2 => ∃ k : Nat, k ≤ M ∧ xi = .int .i64 k ∧ w2.ownsRow w1.heap.size 3 1 xo k (vL .i64 (fun i => i) k) ∧ Below w1.heap.size w1 w2) (fun _ i _ => M - (intOf i).toNat)
    case atStart => exact ⟨0, by omega, rfl, World.ownsRow_nil _ _ _ _, Below.refl _ _⟩
    case round =>
      obtain ⟨k, hk, rfl, hown, hbel⟩ := hrel
      by_cases hkM : k < M
      · go_wp2_with (at_builtin; refine wpList_append_own _ rfl (.tmp 48) (.tmp 50) 23 rfl w1.heap.size 3 i (.int .i64 0) 1 8 Try.underlying23 hi hz0 hz1 hz2 rfl (by decide) _ k (vL .i64 (fun i => i) k) rfl (hown.alloc _) ⟨wr.heap.size, 0, none⟩ 1 1 [.int .i64 (k : Int)] rfl rfl ?_ ?_ (by unfold maxLen; omega) (by omega) (by have := hbel.size; simp; omega) ?_)
        · exact cells_lit wr [.int .i64 (k : Int)] 3
        · intro u hu
          simp at hu
          subst hu
          rfl
        · intro v2 w2 hown2 hgrow2 _
          go_wp2
          go_roundw
          case rel => exact ⟨k + 1, by omega, by go_num, by rw [vL_succ]; exact hown2, (hbel.alloc hbel.size _).grown hgrow2 (by have := hbel.size; simp; omega) (fun b hb => (hown.lt b hb).1)⟩
          case measure => simp [intOf]; omega
      · obtain rfl : M = k := by omega
        replace S1 := hide ((unhide S1).below hbel (Nat.le_refl _))
        replace B1 := hide (below_of (unhide B1) hbel)
        have SL := hide (sl_of_owns hown)
        clear hown hbel
        go_wp2_with (first
          | (go_at_call 11; refine (unhide c2 _ _ _ (unhide S1) (unhide SL)).mono ?_; rintro e w2 ⟨g, c', rfl, l1, l2, s2, b2⟩; unfold maxLen at l2; have S2 := hide s2; replace B1 := hide (below_of (unhide B1) b2); clear b2 s2)
          | (go_at_call 10; refine (unhide c3 _ _ _ (unhide S2)).mono ?_; rintro e w3 ⟨rfl, hw⟩; obtain rfl := hw.symm)
          | (go_at_call 12; refine (unhide c4 _ _ _ (unhide S2)).mono ?_; rintro e w3 ⟨rfl, b2⟩; replace B1 := hide (below_of (unhide B1) b2); clear b2)
          | (go_at_call 21; refine (wakes_any _).mono ?_; rintro e w3 ⟨rfl, b2⟩; replace B1 := hide (below_of (unhide B1) b2); clear b2))
        go_ret
        exact ⟨rfl, unhide B1⟩
end Go.Proofs.Ytkmljmfonhohbaa
