/- The statements' wakes. -/
import Derived.Test.YtmfgbecdimndcaaDoorS2
namespace Go.Proofs.YtmfgbecdimndcaaDoor
open Go.RowKit

theorem il_lit (w : World) (xs : List Int) (t : TypeId) (n : Nat) (hn : xs.length = n) (hm : n ≤ maxLen) : IL (w.alloc (.cells (xs.map (Value.int .i64)).toArray t)) (.slice (some ⟨w.heap.size, 0, none⟩) n n) xs := by
  have h := isl_lit w xs t n hn hm
  unfold IL
  rw [hn]
  exact h
theorem ris01 : Ris [0, 1] := ⟨by decide, fun x hx => by simp at hx; rcases hx with rfl | rfl <;> decide⟩
theorem ris2 : Ris [2] := ⟨by decide, fun x hx => by simp at hx; subst hx; decide⟩
theorem oth01 : oth [0, 1] 0 = [1] := by decide
theorem oth2 : oth [2] 2 = [] := by decide
theorem ahd01 : ahd [0, 1] 0 = 1 := by unfold ahd; rw [oth01]; rfl
theorem fgU01 : fgU [0, 1] 0 62 = [1] := by decide +kernel
theorem fgU2 : fgU [2] 2 62 = [] := by decide +kernel
theorem fng01 : fng [0, 1] 0 = [1] := by unfold fng; rw [fgU01]; simp [srtL]
theorem fng2 : fng [2] 2 = [] := by unfold fng; rw [fgU2]; simp [srtL]
theorem nxt2 : nxt 0 [2] 2 = 2 := by unfold nxt rch; rw [fng2, oth2]; rfl
theorem wk_ahead (w : World) (hG : Glob w) :
    Calls Tryd.prog 10 #[.slice (some ⟨w.heap.size, 0, none⟩) 2 2, .int .i64 0] (w.alloc (.cells #[.int .i64 0, .int .i64 1] 3)) fun e w' => e = .returned (.tuple #[.int .i64 1, .int .i64 0]) ∧ Below w.heap.size w w' := by
  have hb : Below w.heap.size w (w.alloc (.cells #[.int .i64 0, .int .i64 1] 3)) := (Below.refl _ _).alloc (Nat.le_refl _) _
  have c := ahead_both [0, 1] 0 _ _ (hG.alloc _) (il_lit w [0, 1] 3 2 rfl (by unfold maxLen; omega)) ris01 (by simp)
  rw [oth01, ahd01] at c
  exact c.mono fun e w' ⟨h1, h2⟩ => ⟨h1, hb.trans (h2.mono hb.size)⟩
theorem wk_none (w : World) (hG : Glob w) :
    Calls Tryd.prog 10 #[.slice (some ⟨w.heap.size, 0, none⟩) 1 1, .int .i64 2] (w.alloc (.cells #[.int .i64 2] 3)) fun e w' => e = .returned (.tuple #[.int .i64 0, .int .i64 7]) ∧ Below w.heap.size w w' := by
  have hb : Below w.heap.size w (w.alloc (.cells #[.int .i64 2] 3)) := (Below.refl _ _).alloc (Nat.le_refl _) _
  have c := ahead_both [2] 2 _ _ (hG.alloc _) (il_lit w [2] 3 1 rfl (by unfold maxLen; omega)) ris2 (by simp)
  rw [oth2, if_pos rfl] at c
  exact c.mono fun e w' ⟨h1, h2⟩ => ⟨h1, hb.trans (h2.mono hb.size)⟩
theorem wk_fingers (w : World) (hG : Glob w) :
    Calls Tryd.prog 11 #[.slice (some ⟨w.heap.size, 0, none⟩) 2 2, .int .i64 0] (w.alloc (.cells #[.int .i64 0, .int .i64 1] 3)) fun e w' => ∃ q c, e = .returned (.tuple #[.slice q 1 c, .int .i64 0]) ∧ IL w' (.slice q 1 c) [1] ∧ Below w.heap.size w w' := by
  have hb : Below w.heap.size w (w.alloc (.cells #[.int .i64 0, .int .i64 1] 3)) := (Below.refl _ _).alloc (Nat.le_refl _) _
  have c := fingers_is [0, 1] 0 _ _ (hG.alloc _) (il_lit w [0, 1] 3 2 rfl (by unfold maxLen; omega)) ris01 (by simp)
  rw [fng01] at c
  refine c.mono ?_
  rintro e w' ⟨v', rfl, ho, h2⟩
  obtain ⟨q, c, rfl⟩ := owns_shape ho
  exact ⟨q, c, rfl, ho.il, hb.trans (h2.mono hb.size)⟩
theorem wk_next (w : World) (hG : Glob w) :
    Calls Tryd.prog 12 #[.int .i64 0, .slice (some ⟨w.heap.size, 0, none⟩) 1 1, .int .i64 2] (w.alloc (.cells #[.int .i64 2] 3)) fun e w' => e = .returned (.tuple #[.int .i64 0, .bool false, .int .i64 0]) ∧ Below w.heap.size w w' := by
  have hb : Below w.heap.size w (w.alloc (.cells #[.int .i64 2] 3)) := (Below.refl _ _).alloc (Nat.le_refl _) _
  have c := next_is 0 [2] 2 _ _ (hG.alloc _) (il_lit w [2] 3 1 rfl (by unfold maxLen; omega)) ris2 (by simp) t0
  rw [if_pos nxt2] at c
  exact c.mono fun e w' ⟨h1, h2⟩ => ⟨h1, hb.trans (h2.mono hb.size)⟩
theorem wk_way (w : World) (hG : Glob w) :
    Calls Tryd.prog 13 #[.int .i64 0, .slice (some ⟨w.heap.size, 0, none⟩) 1 1, .int .i64 2] (w.alloc (.cells #[.int .i64 2] 3)) fun e w' => ∃ q c, e = .returned (.tuple #[.slice q 0 c, .int .i64 0]) ∧ Below w.heap.size w w' := by
  have hb : Below w.heap.size w (w.alloc (.cells #[.int .i64 2] 3)) := (Below.refl _ _).alloc (Nat.le_refl _) _
  have c := way_is 0 [2] 2 [] _ _ (hG.alloc _) (il_lit w [2] 3 1 rfl (by unfold maxLen; omega)) ris2 (by simp) t0 nxt2 (by simp)
  refine c.mono ?_
  rintro e w' ⟨v', rfl, ho, h2⟩
  obtain ⟨q, c, rfl⟩ := owns_shape ho
  exact ⟨q, c, rfl, hb.trans (h2.mono hb.size)⟩
theorem wk_ints (q : Option Addr) (c : Nat) (w : World) (h : IL w (.slice q 1 c) [1]) :
    Calls Tryd.prog 14 #[.slice q 1 c, .slice (some ⟨w.heap.size, 0, none⟩) 1 1] (w.alloc (.cells #[.int .i64 1] 3)) fun e w' => e = .returned (.bool true) ∧ Below w.heap.size w w' := by
  have hb : Below w.heap.size w (w.alloc (.cells #[.int .i64 1] 3)) := (Below.refl _ _).alloc (Nat.le_refl _) _
  exact (ints_same [1] _ _ _ (h.below hb (Nat.le_refl _)) (il_lit w [1] 3 1 rfl (by unfold maxLen; omega))).mono fun e w' ⟨h1, h2⟩ => ⟨h1, hb.trans (h2.mono hb.size)⟩
theorem wk_check (w : World) :
    Calls Tryd.prog 16 #[.slice none 0 0, .int .i64 0] w fun e w' => e = .returned (.int .i64 1) ∧ w' = w :=
  check_arg [] 0 _ w (.inl ⟨rfl, .inl rfl⟩) (fun h => by cases h.2)
set_option maxHeartbeats 4000000 in
theorem wakes_any (w : World) (hG : Glob w) :
    Calls Tryd.prog 17 #[] w fun e w' => e = .returned (.bool true) ∧ Below w.heap.size w w' := by
  have G1 := hide hG
  have c1 := hide wk_ahead
  have c2 := hide wk_fingers
  have c3 := hide wk_next
  have c4 := hide wk_none
  have c5 := hide wk_way
  have c6 := hide wk_ints
  have c7 := hide wk_check
  have m1 := trivial
  clear hG
  go_enter Tryd.func17, Tryd.ntmps17
  go_wp2_with (first
    | (clear m1; go_at_call 10; refine (unhide c1 _ (unhide G1)).mono ?_; rintro e w2 ⟨rfl, hb⟩; have B2 := hide hb; have G2 := hide ((unhide G1).below hb (unhide G1).size); clear hb)
    | (go_at_call 11; refine (unhide c2 _ (unhide G2)).mono ?_; rintro e w3 ⟨q3, k3, rfl, hi, hb⟩; have I3 := hide hi; have B3 := hide ((unhide B2).trans (hb.mono (unhide B2).size)); have G3 := hide ((unhide G2).below hb (unhide G2).size); clear hb hi)
    | (go_at_call 12; refine (unhide c3 _ (unhide G3)).mono ?_; rintro e w4 ⟨rfl, hb⟩; have I4 := hide ((unhide I3).below hb (Nat.le_refl _)); have B4 := hide ((unhide B3).trans (hb.mono (unhide B3).size)); have G4 := hide ((unhide G3).below hb (unhide G3).size); clear hb)
    | (go_at_call 10; refine (unhide c4 _ (unhide G4)).mono ?_; rintro e w5 ⟨rfl, hb⟩; have I5 := hide ((unhide I4).below hb (Nat.le_refl _)); have B5 := hide ((unhide B4).trans (hb.mono (unhide B4).size)); have G5 := hide ((unhide G4).below hb (unhide G4).size); clear hb)
    | (go_at_call 13; refine (unhide c5 _ (unhide G5)).mono ?_; rintro e w6 ⟨q6, k6, rfl, hb⟩; have I6 := hide ((unhide I5).below hb (Nat.le_refl _)); have B6 := hide ((unhide B5).trans (hb.mono (unhide B5).size)); clear hb)
    | (go_at_call 14; refine (unhide c6 _ _ _ (unhide I6)).mono ?_; rintro e w7 ⟨rfl, hb⟩; have B7 := hide ((unhide B6).trans (hb.mono (unhide B6).size)); clear hb)
    | (go_at_call 16; refine (unhide c7 _).mono ?_; rintro e w8 ⟨rfl, rfl⟩))
  go_ret
  exact ⟨rfl, unhide B7⟩
end Go.Proofs.YtmfgbecdimndcaaDoor
