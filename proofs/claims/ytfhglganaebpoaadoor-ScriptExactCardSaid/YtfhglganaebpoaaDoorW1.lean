/- Walk of wakes. -/
import Derived.Test.YtfhglganaebpoaaDoorS4
import Derived.Test.YtfhglganaebpoaaDoorS5
namespace Go.Proofs.YtfhglganaebpoaaDoor
open Go.RowKit

/-- The numbers from one on. -/
def up (i : Nat) : Int := (i : Int) + 1
theorem sl_six (w : World) (g : Nat) (hg : g = w.heap.size) : Sl .u8 (w.alloc (.cells #[.int .u8 1, .int .u8 2, .int .u8 3, .int .u8 4, .int .u8 5, .int .u8 6] 5)) (.slice (some ⟨g, 0, none⟩) 6 6) 6 up := by
  subst hg
  refine (sl_lit .u8 w [1, 2, 3, 4, 5, 6] 5 6 rfl (by unfold maxLen; omega)).congr fun i hi => ?_
  match i, hi with
  | 0, _ => rfl
  | 1, _ => rfl
  | 2, _ => rfl
  | 3, _ => rfl
  | 4, _ => rfl
  | 5, _ => rfl
theorem ss_one (w : World) (g : Nat) (hg : g = w.heap.size) : Ss (w.alloc (.cells #[.int .i64 1, .int .i64 2, .int .i64 3, .int .i64 4, .int .i64 5] 27)) (.slice (some ⟨g, 0, none⟩) 1 1) 1 up := by
  subst hg
  refine .inr ⟨w.heap.size, 0, 1, rfl, Nat.le_refl _, by unfold maxLen; omega, by simp, fun j hj => ?_⟩
  have H := Has.new w (.cells #[.int .i64 1, .int .i64 2, .int .i64 3, .int .i64 4, .int .i64 5] 27)
  rw [Nat.zero_add]
  match j, hj with
  | 0, _ => exact H.cell (k := 0) rfl
  | 1, _ => exact H.cell (k := 1) rfl
  | 2, _ => exact H.cell (k := 2) rfl
  | 3, _ => exact H.cell (k := 3) rfl
  | 4, _ => exact H.cell (k := 4) rfl
theorem parse_w (w : World) (g : Nat) (hg : g = w.heap.size) : Calls Tryd.prog 9 #[.slice (some ⟨g, 0, none⟩) 6 6] (w.alloc (.cells #[.int .u8 1, .int .u8 2, .int .u8 3, .int .u8 4, .int .u8 5, .int .u8 6] 5)) fun ev w' => ∃ p c, ev = .returned (.tuple #[.slice p 1 c, .int .i64 0]) ∧ Ss w' (.slice p 1 c) 1 up ∧ Below w.heap.size w w' := by
  refine (parse_ok up _ 6 1 _ (sl_six w g hg) (fun i hi => by unfold up; omega) (by omega) rfl).mono ?_
  rintro ev w' ⟨rfl, o, b⟩
  exact ⟨_, _, rfl, ss_of_owns o, below_of (below_alloc (Below.refl _ _) _) b⟩
theorem bytes_w (e : Addr) (p : Option Addr) (c : Nat) (w : World) (hG : Glob w e) (h : Ss w (.slice p 1 c) 1 up) : Calls Tryd.prog 10 #[.slice p 1 c] w fun ev w' => ∃ p c, ev = .returned (.tuple #[.slice p 5 c, .int .i64 0]) ∧ Below w.heap.size w w' := by
  refine (bytes_ok up _ 1 e w hG h (okS_of fun j hj => by unfold up; omega) (by omega)).mono ?_
  rintro ev w' ⟨g, rfl, _, b⟩
  exact ⟨_, _, rfl, b⟩
theorem conf_w (w : World) : Calls Tryd.prog 20 #[.int .i64 7] w fun ev w' => ev = .returned (.agg #[.int .i64 8, .int .i64 1, .int .i64 1, .int .i64 1, .int .i64 1, .int .i64 1, .int .i64 2]) ∧ Below w.heap.size w w' :=
  conf_any 7 7 w (by rw [modU 7 1000000 (by omega) (by omega)]; rfl) (by omega)
theorem config_w (e : Addr) (w : World) (hG : Glob w e) : Calls Tryd.prog 11 #[.agg #[.int .i64 8, .int .i64 1, .int .i64 1, .int .i64 1, .int .i64 1, .int .i64 1, .int .i64 2]] w fun ev w' => ev = .returned (.int .i64 0) ∧ Below w.heap.size w w' :=
  config_any ⟨8, 1, 1, 1, 1, 1, 2⟩ e w hG
theorem config_z (e : Addr) (w : World) (hG : Glob w e) : Calls Tryd.prog 11 #[.agg #[.int .i64 0, .int .i64 0, .int .i64 0, .int .i64 0, .int .i64 0, .int .i64 0, .int .i64 0]] w fun ev w' => ev = .returned (.int .i64 13) ∧ Below w.heap.size w w' :=
  config_any ⟨0, 0, 0, 0, 0, 0, 0⟩ e w hG
theorem check_w (e : Addr) (w : World) (hG : Glob w e) : Calls Tryd.prog 17 #[.agg #[.int .i64 8, .int .i64 1, .int .i64 1, .int .i64 1, .int .i64 1, .int .i64 1, .int .i64 2], .agg #[.int .i64 1, .int .i64 1, .int .i64 0, .int .i64 0, .int .i64 0]] w fun ev w' => ev = .returned (.int .i64 0) ∧ Below w.heap.size w w' :=
  check_any ⟨8, 1, 1, 1, 1, 1, 2⟩ ⟨1, 1, 0, 0, 0⟩ e w hG
theorem check_z (e : Addr) (w : World) (hG : Glob w e) : Calls Tryd.prog 17 #[.agg #[.int .i64 8, .int .i64 1, .int .i64 1, .int .i64 1, .int .i64 1, .int .i64 1, .int .i64 2], .agg #[.int .i64 0, .int .i64 0, .int .i64 0, .int .i64 0, .int .i64 0]] w fun ev w' => ev = .returned (.int .i64 1) ∧ Below w.heap.size w w' :=
  check_any ⟨8, 1, 1, 1, 1, 1, 2⟩ ⟨0, 0, 0, 0, 0⟩ e w hG
set_option maxRecDepth 100000 in
set_option maxHeartbeats 2000000 in
theorem wakes_any (e : Addr) (w : World) (hG : Glob w e) : Calls Tryd.prog 18 #[] w fun ev w' => ev = .returned (.bool true) ∧ Below w.heap.size w w' := by
  have HG := hide hG
  have m1 := trivial
  have m2 := trivial
  clear hG
  go_enter Tryd.func18, Tryd.ntmps18
  go_wp2_with (first
    | (go_at_call 9; refine (parse_w _ _ rfl).mono ?_; rintro ev w1 ⟨p1, c1, rfl, s1, b1⟩; have S1 := hide s1; have B := hide b1; have G := hide ((unhide HG).below b1); clear b1 s1)
    | (go_at_call 10; refine (bytes_w e _ _ _ (unhide G) (unhide S1)).mono ?_; rintro ev w2 ⟨p2, c2, rfl, b2⟩; have S2 := hide ((unhide S1).below b2 (Nat.le_refl _)); replace G := hide ((unhide G).below b2); replace B := hide (below_of (unhide B) b2); clear b2 S1)
    | (go_at_call 20; refine (conf_w _).mono ?_; rintro ev w3 ⟨rfl, b3⟩; have S3 := hide ((unhide S2).below b3 (Nat.le_refl _)); replace G := hide ((unhide G).below b3); replace B := hide (below_of (unhide B) b3); clear b3 S2)
    | (go_at_call 14; obtain ⟨w4, hw4⟩ : ∃ z, z = w3.alloc (.cells #[.int .i64 8, .int .i64 1, .int .i64 1, .int .i64 1, .int .i64 1, .int .i64 1, .int .i64 2] 23) := ⟨_, rfl⟩; have b4 := below_alloc (Below.refl w3.heap.size w3) (.cells #[.int .i64 8, .int .i64 1, .int .i64 1, .int .i64 1, .int .i64 1, .int .i64 1, .int .i64 2] 23); rw [← hw4] at b4; have H4 := Has.new w3 (.cells #[.int .i64 8, .int .i64 1, .int .i64 1, .int .i64 1, .int .i64 1, .int .i64 1, .int .i64 2] 23); rw [← hw4] at H4; rw [← hw4]; have b5 := below_alloc (Below.refl w4.heap.size w4) (.cells #[.int .i64 1, .int .i64 2, .int .i64 3, .int .i64 4, .int .i64 5] 27); refine (steps_same up _ _ 1 _ (((unhide S3).below b4 (Nat.le_refl _)).below b5 (Nat.le_refl _)) (ss_one w4 _ (by rw [hw4]; simp))).mono ?_; rintro ev w5 ⟨rfl, b6⟩; have b7 := below_of (w := w4) b5 b6; replace G := hide (((unhide G).below b4).below b7); replace B := hide (below_of (below_of (unhide B) b4) b7); have X := hide (H4.below b7); clear hw4 H4 b4 b5 b6 b7 S3; have x0 := (unhide X).cell (k := 0) rfl; have x1 := (unhide X).cell (k := 1) rfl; have x2 := (unhide X).cell (k := 2) rfl; have x3 := (unhide X).cell (k := 3) rfl; have x4 := (unhide X).cell (k := 4) rfl; have x5 := (unhide X).cell (k := 5) rfl; have x6 := (unhide X).cell (k := 6) rfl; have lx := (unhide X).1)
    | (clear m1; go_at_call 11; refine (config_w e _ (unhide G)).mono ?_; rintro ev w6 ⟨rfl, b6⟩; replace G := hide ((unhide G).below b6); replace B := hide (below_of (unhide B) b6); replace X := hide ((unhide X).below b6); clear b6)
    | (go_at_call 11; refine (config_z e _ (unhide G)).mono ?_; rintro ev w7 ⟨rfl, b7⟩; replace G := hide ((unhide G).below b7); replace B := hide (below_of (unhide B) b7); replace X := hide ((unhide X).below b7); clear b7 x0 x1 x2 x3 x4 x5 x6 lx; have x0 := (unhide X).cell (k := 0) rfl; have x1 := (unhide X).cell (k := 1) rfl; have x2 := (unhide X).cell (k := 2) rfl; have x3 := (unhide X).cell (k := 3) rfl; have x4 := (unhide X).cell (k := 4) rfl; have x5 := (unhide X).cell (k := 5) rfl; have x6 := (unhide X).cell (k := 6) rfl; have lx := (unhide X).1)
    | (clear m2; go_at_call 17; refine (check_w e _ (unhide G)).mono ?_; rintro ev w8 ⟨rfl, b8⟩; replace G := hide ((unhide G).below b8); replace B := hide (below_of (unhide B) b8); replace X := hide ((unhide X).below b8); clear b8 x0 x1 x2 x3 x4 x5 x6 lx; have x0 := (unhide X).cell (k := 0) rfl; have x1 := (unhide X).cell (k := 1) rfl; have x2 := (unhide X).cell (k := 2) rfl; have x3 := (unhide X).cell (k := 3) rfl; have x4 := (unhide X).cell (k := 4) rfl; have x5 := (unhide X).cell (k := 5) rfl; have x6 := (unhide X).cell (k := 6) rfl; have lx := (unhide X).1)
    | (go_at_call 17; refine (check_z e _ (unhide G)).mono ?_; rintro ev w9 ⟨rfl, b9⟩; replace B := hide (below_of (unhide B) b9); clear b9))
  go_ret
  exact ⟨rfl, unhide B⟩
end Go.Proofs.YtfhglganaebpoaaDoor
