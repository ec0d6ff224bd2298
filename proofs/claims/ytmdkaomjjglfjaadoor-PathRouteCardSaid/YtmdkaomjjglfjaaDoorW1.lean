/- The statements' wakes. -/
import Derived.Test.YtmdkaomjjglfjaaDoorK8
import Derived.Test.YtmdkaomjjglfjaaDoorK4
namespace Go.Proofs.YtmdkaomjjglfjaaDoor
open Go.RowKit

theorem il_nil (w : World) : IL w (.slice none 0 0) [] := .inl ⟨rfl, .inl rfl⟩
theorem wk_add (w : World) (hG : Glob w) :
    Calls Tryd.prog 7 #[.int .i64 0, .int .i64 3, .slice none 0 0] w fun e w' => ∃ q c, e = .returned (.tuple #[.slice q 1 c, .int .i64 0]) ∧ IL w' (.slice q 1 c) [3] ∧ Below w.heap.size w w' := by
  refine (add_ok 0 3 [] _ w hG (il_nil w) (by decide +kernel)).mono ?_
  rintro e w' ⟨v', rfl, ho, hb⟩
  obtain ⟨q, c, rfl⟩ := owns_shape ho
  exact ⟨q, c, rfl, ho.il, hb⟩
theorem wk_c1 (w : World) (hG : Glob w) :
    Calls Tryd.prog 14 #[.int .i64 0, .int .i64 1, .slice none 0 0, .int .i64 4] w fun e w' => e = .returned (.int .i64 0) ∧ w' = w := by
  have h := check_p 0 1 [] 4 _ w hG (il_nil w)
  rwa [show chk 0 1 [] 4 = 0 by decide +kernel] at h
theorem wk_c2 (w : World) (hG : Glob w) :
    Calls Tryd.prog 14 #[.int .i64 9, .int .i64 0, .slice none 0 0, .int .i64 1] w fun e w' => e = .returned (.int .i64 1) ∧ w' = w := by
  have h := check_p 9 0 [] 1 _ w hG (il_nil w)
  rwa [show chk 9 0 [] 1 = 1 by decide +kernel] at h
theorem wk_ints (q : Option Addr) (c : Nat) (w : World) (h : IL w (.slice q 1 c) [3]) :
    Calls Tryd.prog 10 #[.slice q 1 c, .slice (some ⟨w.heap.size, 0, none⟩) 1 1] (w.alloc (.cells #[.int .i64 3] 3)) fun e w' => e = .returned (.bool true) ∧ Below w.heap.size w w' := by
  have hb : Below w.heap.size w (w.alloc (.cells #[.int .i64 3] 3)) := (Below.refl _ _).alloc (Nat.le_refl _) _
  exact (ints_same [3] _ _ _ (h.below hb (Nat.le_refl _)) (il_lit1 w 3)).mono fun e w' ⟨h1, h2⟩ => ⟨h1, hb.trans (h2.mono hb.size)⟩
theorem wk_w1 (w : World) (hG : Glob w) :
    Calls Tryd.prog 8 #[.int .i64 0, .slice (some ⟨w.heap.size + 1, 0, none⟩) 2 2] ((w.alloc (.cells #[.int .i64 0] 3)).alloc (.cells #[.slice none 0 0, .slice (some ⟨w.heap.size, 0, none⟩) 1 1] 22)) fun e w' => e = .returned (.bool true) ∧ Below w.heap.size w w' := by
  have b1 : Below w.heap.size w (w.alloc (.cells #[.int .i64 0] 3)) := (Below.refl _ _).alloc (Nat.le_refl _) _
  have b2 : Below w.heap.size w ((w.alloc (.cells #[.int .i64 0] 3)).alloc (.cells #[.slice none 0 0, .slice (some ⟨w.heap.size, 0, none⟩) 1 1] 22)) := b1.alloc b1.size _
  have h := whole_is 0 [[], [0]] _ _ (hG.below b2 hG.size) (ll_lit2 (w.alloc (.cells #[.int .i64 0] 3)) _ _ _ _ (il_nil _) (il_lit1 w 0))
  rw [show wh [[], [0]] = true by decide +kernel, show (w.alloc (.cells #[.int .i64 0] 3)).heap.size = w.heap.size + 1 by simp] at h
  exact h.mono fun e w' ⟨h1, h2⟩ => ⟨h1, h2 ▸ b2⟩
theorem wk_w2 (w : World) (hG : Glob w) :
    Calls Tryd.prog 8 #[.int .i64 0, .slice (some ⟨w.heap.size + 1 + 1, 0, none⟩) 2 2] (((w.alloc (.cells #[.int .i64 1] 3)).alloc (.cells #[.int .i64 0] 3)).alloc (.cells #[.slice (some ⟨w.heap.size, 0, none⟩) 1 1, .slice (some ⟨w.heap.size + 1, 0, none⟩) 1 1] 22)) fun e w' => e = .returned (.bool false) ∧ Below w.heap.size w w' := by
  have e1 : (w.alloc (.cells #[.int .i64 1] 3)).heap.size = w.heap.size + 1 := by simp
  have b1 : Below w.heap.size w (w.alloc (.cells #[.int .i64 1] 3)) := (Below.refl _ _).alloc (Nat.le_refl _) _
  have b2 : Below w.heap.size w ((w.alloc (.cells #[.int .i64 1] 3)).alloc (.cells #[.int .i64 0] 3)) := b1.alloc b1.size _
  have bb : Below (w.alloc (.cells #[.int .i64 1] 3)).heap.size (w.alloc (.cells #[.int .i64 1] 3)) ((w.alloc (.cells #[.int .i64 1] 3)).alloc (.cells #[.int .i64 0] 3)) := (Below.refl _ _).alloc (Nat.le_refl _) _
  have b3 : Below w.heap.size w (((w.alloc (.cells #[.int .i64 1] 3)).alloc (.cells #[.int .i64 0] 3)).alloc (.cells #[.slice (some ⟨w.heap.size, 0, none⟩) 1 1, .slice (some ⟨w.heap.size + 1, 0, none⟩) 1 1] 22)) := b2.alloc b2.size _
  have i2 := il_lit1 (w.alloc (.cells #[.int .i64 1] 3)) 0
  rw [e1] at i2
  have h := whole_is 0 [[1], [0]] _ _ (hG.below b3 hG.size) (ll_lit2 ((w.alloc (.cells #[.int .i64 1] 3)).alloc (.cells #[.int .i64 0] 3)) _ _ _ _ ((il_lit1 w 1).below bb (Nat.le_refl _)) i2)
  rw [show wh [[1], [0]] = false by decide +kernel, show ((w.alloc (.cells #[.int .i64 1] 3)).alloc (.cells #[.int .i64 0] 3)).heap.size = w.heap.size + 1 + 1 by simp] at h
  exact h.mono fun e w' ⟨h1, h2⟩ => ⟨h1, h2 ▸ b3⟩
set_option maxHeartbeats 4000000 in
theorem wakes_any (w : World) (hG : Glob w) :
    Calls Tryd.prog 15 #[] w fun e w' => e = .returned (.bool true) ∧ Below w.heap.size w w' := by
  have G1 := hide hG
  have c1 := hide wk_add
  have c2 := hide wk_c1
  have c3 := hide wk_ints
  have c4 := hide wk_w1
  have c5 := hide wk_w2
  have c6 := hide wk_c2
  have m1 := trivial
  have m2 := trivial
  clear hG
  go_enter Tryd.func15, Tryd.ntmps15
  go_wp2_with (first
    | (go_at_call 7; refine (unhide c1 _ (unhide G1)).mono ?_; rintro e w2 ⟨q2, k2, rfl, hi, hb⟩; have I2 := hide hi; have B2 := hide hb; have G2 := hide ((unhide G1).below hb (unhide G1).size); clear hi hb)
    | (clear m1; go_at_call 14; refine (unhide c2 _ (unhide G2)).mono ?_; rintro e w2 ⟨rfl, rfl⟩)
    | (go_at_call 10; refine (unhide c3 _ _ _ (unhide I2)).mono ?_; rintro e w3 ⟨rfl, hb⟩; have B3 := hide ((unhide B2).trans (hb.mono (unhide B2).size)); have G3 := hide ((unhide G2).below hb (unhide G2).size); clear hb)
    | (clear m2; go_at_call 8; refine (unhide c4 _ (unhide G3)).mono ?_; rintro e w4 ⟨rfl, hb⟩; have B4 := hide ((unhide B3).trans (hb.mono (unhide B3).size)); have G4 := hide ((unhide G3).below hb (unhide G3).size); clear hb)
    | (go_at_call 8; refine (unhide c5 _ (unhide G4)).mono ?_; rintro e w5 ⟨rfl, hb⟩; have B5 := hide ((unhide B4).trans (hb.mono (unhide B4).size)); have G5 := hide ((unhide G4).below hb (unhide G4).size); clear hb)
    | (go_at_call 14; refine (unhide c6 _ (unhide G5)).mono ?_; rintro e w6 ⟨rfl, rfl⟩))
  go_ret
  exact ⟨rfl, unhide B5⟩
end Go.Proofs.YtmdkaomjjglfjaaDoor
