/- Peers of noughts, made; the walk of wakes. -/
import Derived.Test.YtnbmnbgbnagajaaA7
import Derived.Laws.MakeOwn
namespace Go.Proofs.Ytnbmnbgbnagajaa
open Go.RowKit

/-- The cells of n peers of noughts. -/
def pz (n : Nat) : Array Value := (vL .i64 (fun _ => 0) (n * 2)).toArray
theorem pz_made (n : Nat) : madeCells (Value.agg #[.int .i64 0, .int .i64 0]).cells (n * 2) = pz n := by
  apply Array.ext
  · simp [madeCells, pz, vL_length]
  · intro i h1 h2
    have hi : i < n * 2 := by simpa [pz, vL_length] using h2
    have e : (vL .i64 (fun _ => 0) (n * 2))[i]? = some (.int .i64 0) := vL_get _ _ _ _ hi
    rcases Nat.mod_two_eq_zero_or_one i with h | h
    · simp [madeCells, pz, vL, Value.cells, h]
    · simp [madeCells, pz, vL, Value.cells, h]
theorem mk_any (n : Nat) (hn : n ≤ 8) (w : World) : (Instr.makeSlice 22 (.int .i64 (n : Int)) (.int .i64 (n : Int))).run Try.prog w = .ok (.slice (some ⟨w.heap.size, 0, none⟩) n n) (w.alloc (.cells (pz n) 42)) := by
  obtain ⟨i, hi, hz0, hz1, hz2⟩ := info_parts info42
  have h := run_make (P := Try.prog) w 22 42 i (.agg #[.int .i64 0, .int .i64 0]) Try.underlying22 hi hz0 .i64 .i64 n n (by omega) (Int.le_refl _) (by rw [hz2]; omega) (by omega)
  rw [hz1, Int.toNat_natCast, pz_made] at h
  exact h
theorem pe_made (w : World) (n : Nat) (hn : n ≤ 8) (g : Nat) (hg : g = w.heap.size) : Pe (w.alloc (.cells (pz n) 42)) (.slice (some ⟨g, 0, none⟩) n n) n (fun _ => 0) := by
  subst hg
  have h := World.ownsRow_lit (base := w.heap.size) (e := 42) (size := 2) w (pz n) n (Nat.le_refl _) (by unfold maxLen; omega) (by simp [pz, vL_length])
  exact pe_of_owns h
theorem rt_zero (n : Nat) (h1 : 1 ≤ n) (h2 : n ≤ 8) : rt n (fun _ => 0) = true := by rw [rt_iff]; exact ⟨h1, h2, fun _ _ => by omega⟩
/-- What wakes hears, and a tick later. -/
def hw : Nat → Int := hrF (fun _ => 0) 1 4
theorem hear_w (w : World) (g : Nat) (hg : g = w.heap.size) : Calls Try.prog 9 #[.slice (some ⟨g, 0, none⟩) 3 3, .int .i64 1, .int .i64 4] (w.alloc (.cells (pz 3) 42)) fun e w' => ∃ g1 c, e = .returned (.tuple #[.slice (some ⟨g1, 0, none⟩) 3 c, .int .i64 0]) ∧ 3 ≤ c ∧ c ≤ maxLen ∧ Pe w' (.slice (some ⟨g1, 0, none⟩) 3 c) 3 hw ∧ Below w.heap.size w w' := by
  refine (hear_ok (fun _ => 0) _ 3 1 4 _ (pe_made w 3 (by omega) g hg) (rt_zero 3 (by omega) (by omega)) (by omega) ⟨by omega, by omega⟩).mono ?_
  rintro e w' ⟨v, rfl, o, b⟩
  obtain ⟨g1, c, rfl, h1, h2, _⟩ := owns_some o (by omega)
  exact ⟨g1, c, rfl, h1, h2, pe_of_owns o, below_of (below_alloc (Below.refl _ _) _) b⟩
theorem older_w (p : Option Addr) (c : Nat) (w : World) (h : Pe w (.slice p 3 c) 3 hw) : Calls Try.prog 10 #[.slice p 3 c] w fun e w' => ∃ g1 c, e = .returned (.tuple #[.slice (some ⟨g1, 0, none⟩) 3 c, .int .i64 0]) ∧ 3 ≤ c ∧ c ≤ maxLen ∧ Pe w' (.slice (some ⟨g1, 0, none⟩) 3 c) 3 (olF hw) ∧ Below w.heap.size w w' := by
  refine (older_ok hw _ 3 w h (by decide)).mono ?_
  rintro e w' ⟨v, rfl, o, b⟩
  obtain ⟨g1, c, rfl, h1, h2, _⟩ := owns_some o (by omega)
  exact ⟨g1, c, rfl, h1, h2, pe_of_owns o, b⟩
theorem live_w (p : Option Addr) (c : Nat) (w : World) (h : Pe w (.slice p 3 c) 3 (olF hw)) : Calls Try.prog 11 #[.slice p 3 c, .int .i64 0] w fun e w' => ∃ p c, e = .returned (.tuple #[.slice p 2 c, .int .i64 0]) ∧ Sl .i64 w' (.slice p 2 c) 2 (nF [0, 1]) ∧ Below w.heap.size w w' := by
  refine (live_ok (olF hw) _ 3 0 w h (by decide) (by omega)).mono ?_
  rintro e w' ⟨v, rfl, o, b⟩
  rw [show lvL (olF hw) 0 3 = [0, 1] by decide, nL_vL] at o
  have s := sl_of_owns o
  obtain ⟨p, c, rfl, _⟩ := s.shape
  exact ⟨p, c, rfl, s, b⟩
theorem ints_w (p : Option Addr) (c : Nat) (w w0 : World) (g : Nat) (hg : g = w.heap.size) (h : Sl .i64 w0 (.slice p 2 c) 2 (nF [0, 1])) (hb : Below w0.heap.size w0 w) : Calls Try.prog 18 #[.slice p 2 c, .slice (some ⟨g, 0, none⟩) 2 2] (w.alloc (.cells #[.int .i64 0, .int .i64 1] 3)) fun e w' => e = .returned (.bool true) ∧ Below w.heap.size w w' := by
  subst hg
  refine (kints_same _ (fun i => [0, 1].getD i 0) _ _ 2 _ (h.below (below_alloc hb _) (Nat.le_refl _)) (sl_lit .i64 w [0, 1] 3 2 rfl (by unfold maxLen; omega)) fun j hj => ?_).mono ?_
  · match j, hj with
    | 0, _ => rfl
    | 1, _ => rfl
  · rintro e w' ⟨rfl, b⟩
    exact ⟨rfl, below_of (below_alloc (Below.refl _ _) _) b⟩
theorem check_w (w : World) : Calls Try.prog 14 #[.slice none 0 0] w fun e w' => e = .returned (.int .i64 1) ∧ Below w.heap.size w w' :=
  check_any (fun _ => 0) _ 0 w (pe_nil w _)
/-- A cell of a slice of peers, by its place. -/
theorem pe_cell {w : World} {g n c j : Nat} {F : Nat → Int} (h : Pe w (.slice (some ⟨g, 0, none⟩) n c) n F) (hj : j < n * 2) : w.cell? ⟨g, j, none⟩ = some (.int .i64 (F j)) := by
  obtain ⟨b, off, e, _, hc⟩ := h.some (by omega)
  cases e
  have := hc j hj
  rwa [Nat.zero_add] at this
set_option maxRecDepth 100000 in
set_option maxHeartbeats 1000000 in
theorem wakes_any (w : World) : Calls Try.prog 15 #[] w fun e w' => e = .returned (.bool true) ∧ Below w.heap.size w w' := by
  have MK : ∀ w, (Instr.makeSlice 22 (.int .i64 3) (.int .i64 3)).run Try.prog w = .ok (.slice (some ⟨w.heap.size, 0, none⟩) 3 3) (w.alloc (.cells (pz 3) 42)) := mk_any 3 (by omega)
  go_enter Try.func15, Try.ntmps15
  go_wp2_with (first
    | (go_at_call 9; (with_reducible refine (hear_w w _ rfl).mono ?_); rintro e w1 ⟨g1, c1, rfl, h1, h2, p1, b1⟩; unfold maxLen at h2; have P1 := hide p1; have B1 := hide b1; clear p1 b1)
    | (go_at_call 10; (with_reducible refine (older_w _ _ _ (unhide P1)).mono ?_); rintro e w2 ⟨g2, c2, rfl, h3, h4, p2, b2⟩; unfold maxLen at h4; have P2 := hide p2; have B2 := hide b2; clear p2 b2)
    | (go_at_call 11; (with_reducible refine (live_w _ _ _ (unhide P2)).mono ?_); rintro e w3 ⟨p3, c3, rfl, s3, b3⟩; have S3 := hide s3; have B3 := hide (below_of (below_of (unhide B1) (unhide B2)) b3); have k1 : w3.cell? ⟨g1, 2, none⟩ = some (.int .i64 4) := pe_cell (((unhide P1).below (unhide B2) (Nat.le_refl _)).below b3 (Nat.le_refl _)) (show 2 < 3 * 2 by omega); have k2 : w3.cell? ⟨g2, 3, none⟩ = some (.int .i64 1) := pe_cell ((unhide P2).below b3 (Nat.le_refl _)) (show 3 < 3 * 2 by omega); clear s3 b3)
    | (go_at_call 18; refine (ints_w _ _ w3 w3 _ rfl (unhide S3) (Below.refl _ _)).mono ?_; rintro e w4 ⟨rfl, b4⟩; have B4 := hide (below_of (unhide B3) b4); clear b4)
    | (go_at_call 14; refine (check_w _).mono ?_; rintro e w5 ⟨rfl, b5⟩; have B5 := hide (below_of (unhide B4) b5); clear b5))
  go_ret
  exact ⟨rfl, unhide B5⟩
end Go.Proofs.Ytnbmnbgbnagajaa
