/- Walk of the statements' wakes. -/
import Derived.Test.YtfkhapliblnacaaA4
import Derived.Lib.SlBytesConst
namespace Go.Proofs.Ytfkhapliblnacaa
open Go.RowKit

theorem open_ok (D : Nat → Nat) (v : Value) (m : Nat) (w : World) (hv : Bs w v (m + 4) D) (hD : ∀ i, i < m + 4 → D i < 256) (hn : m + 4 ≤ 100000) (h : sumN D m = le4 D m) :
    Calls Try.prog 7 #[v] w fun e w' => ∃ v', e = .returned (.tuple #[v', .int .i64 0]) ∧ w'.ownsRow w.heap.size 5 1 v' m (bL D m) ∧ Below w.heap.size w w' := by
  refine (open_any D v (m + 4) m w hv hD hn rfl).mono ?_
  rintro e w' ⟨hb, ⟨h2, _⟩ | ⟨_, v', rfl, ho⟩⟩
  · exact absurd h h2
  · exact ⟨v', rfl, ho, hb⟩
theorem open_bad (D : Nat → Nat) (v : Value) (m : Nat) (w : World) (hv : Bs w v (m + 4) D) (hD : ∀ i, i < m + 4 → D i < 256) (hn : m + 4 ≤ 100000) (h : sumN D m ≠ le4 D m) :
    Calls Try.prog 7 #[v] w fun e w' => e = .returned (.tuple #[.slice none 0 0, .int .i64 4]) ∧ Below w.heap.size w w' := by
  refine (open_any D v (m + 4) m w hv hD hn rfl).mono ?_
  rintro e w' ⟨hb, ⟨_, rfl⟩ | ⟨h2, _⟩⟩
  · exact ⟨rfl, hb⟩
  · exact absurd h2 h
theorem seal_good (D : Nat → Nat) (n : Nat) (h : ∀ i, i < n → D i < 256) : sumN (sealD D n (sumN D n)) n = le4 (sealD D n (sumN D n)) n := by
  rw [sum_seal, le4_seal _ _ _ (sumN_lt h)]

def W1 (i : Nat) : Nat := [1, 2].getD i 0
def W9 (i : Nat) : Nat := [49, 50, 51, 52, 53, 54, 55, 56, 57].getD i 0
theorem W1_lt (i : Nat) (h : i < 2) : W1 i < 256 := by
  match i, h with
  | 0, _ | 1, _ => decide
theorem W9_lt (i : Nat) (h : i < 9) : W9 i < 256 := by
  match i, h with
  | 0, _ | 1, _ | 2, _ | 3, _ | 4, _ | 5, _ | 6, _ | 7, _ | 8, _ => decide
theorem W9_sum : sumN W9 9 = 3421780262 := by kernel_rfl
theorem lit1 (w : World) : Bs (w.alloc (.cells #[.int .u8 1, .int .u8 2] 5)) (.slice (some ⟨w.heap.size, 0, none⟩) 2 2) 2 W1 :=
  Sl.congr (sl_lit .u8 w [1, 2] 5 2 rfl (by unfold maxLen; omega)) fun i hi => by
    match i, hi with
    | 0, _ | 1, _ => rfl
theorem cells_marked (w : World) (L : List Value) (t : TypeId) (m : Nat × Nat) : ∀ j u, L[j]? = some u → (w.alloc (.cells L.toArray t m)).cell? ⟨w.heap.size, j, none⟩ = some u := by
  intro j u h
  have hb : (w.alloc (.cells L.toArray t m)).heap[w.heap.size]? = some (.cells L.toArray t m) := by
    show (w.heap.push (.cells L.toArray t m))[w.heap.size]? = _
    simp
  unfold World.cell?
  rw [hb]
  simpa using h
theorem lit9 (w : World) (m : Nat × Nat) : Bs (w.alloc (.cells #[.int .u8 49, .int .u8 50, .int .u8 51, .int .u8 52, .int .u8 53, .int .u8 54, .int .u8 55, .int .u8 56, .int .u8 57] 5 m)) (.slice (some ⟨w.heap.size, 0, none⟩) 9 9) 9 W9 := by
  refine .inr ⟨w.heap.size, 0, 9, rfl, Nat.le_refl _, by unfold maxLen; omega, by simp, fun i hi => ?_⟩
  rw [Nat.zero_add]
  refine cells_marked w [.int .u8 49, .int .u8 50, .int .u8 51, .int .u8 52, .int .u8 53, .int .u8 54, .int .u8 55, .int .u8 56, .int .u8 57] 5 m i _ ?_
  match i, hi with
  | 0, _ | 1, _ | 2, _ | 3, _ | 4, _ | 5, _ | 6, _ | 7, _ | 8, _ => rfl
theorem wk1 (w : World) : Calls Try.prog 12 #[.slice (some ⟨w.heap.size, 0, none⟩) 2 2] (w.alloc (.cells #[.int .u8 1, .int .u8 2] 5)) fun e w' => ∃ v', e = .returned v' ∧ Bs w' v' 6 (sealD W1 2 (sumN W1 2)) ∧ Below w.heap.size w w' := by
  refine (seal_is W1 _ 2 _ (lit1 w) W1_lt (by omega)).mono ?_
  rintro e w' ⟨rfl, ho, hb⟩
  exact ⟨_, rfl, bs_of_owns ho, below_of ((Below.refl _ _).alloc (Nat.le_refl _) _) hb⟩
theorem wk2 (v : Value) (w : World) (h : Bs w v 6 (sealD W1 2 (sumN W1 2))) : Calls Try.prog 7 #[v] w fun e w' => ∃ v', e = .returned (.tuple #[v', .int .i64 0]) ∧ Bs w' v' 2 W1 ∧ Below w.heap.size w w' := by
  refine (open_ok _ v 2 w h (fun i _ => sealD_lt _ _ _ _ W1_lt) (by omega) (seal_good W1 2 W1_lt)).mono ?_
  rintro e w' ⟨v', rfl, ho, hb⟩
  exact ⟨v', rfl, Sl.congr (bs_of_owns ho) fun i hi => by rw [sealD_ahead _ _ _ _ hi], hb⟩
theorem wk3 (w : World) : Calls Try.prog 7 #[.slice (some ⟨w.heap.size, 0, none⟩) 3 3] (w.alloc (.cells #[.int .u8 1, .int .u8 2, .int .u8 3] 5)) fun e w' => e = .returned (.tuple #[.slice none 0 0, .int .i64 2]) ∧ Below w.heap.size w w' := by
  refine (open_short _ 3 3 (by omega) _).mono ?_
  rintro e w' ⟨rfl, rfl⟩
  exact ⟨rfl, (Below.refl _ _).alloc (Nat.le_refl _) _⟩
theorem wk4 (w : World) (m : Nat × Nat) : Calls Try.prog 9 #[.slice (some ⟨w.heap.size, 0, none⟩) 9 9] (w.alloc (.cells #[.int .u8 49, .int .u8 50, .int .u8 51, .int .u8 52, .int .u8 53, .int .u8 54, .int .u8 55, .int .u8 56, .int .u8 57] 5 m)) fun e w' => e = .returned (.int .i64 3421780262) ∧ Below w.heap.size w w' := by
  refine (sum_is W9 _ 9 _ (lit9 w m) W9_lt).mono ?_
  rintro e w' ⟨rfl, rfl⟩
  exact ⟨by rw [W9_sum]; rfl, (Below.refl _ _).alloc (Nat.le_refl _) _⟩
theorem wk5 (v : Value) (w : World) (h : Bs w v 2 W1) : Calls Try.prog 11 #[v, .slice (some ⟨w.heap.size, 0, none⟩) 2 2] (w.alloc (.cells #[.int .u8 1, .int .u8 2] 5)) fun e w' => e = .returned (.bool true) ∧ Below w.heap.size w w' := by
  have hb : Below w.heap.size w (w.alloc (.cells #[.int .u8 1, .int .u8 2] 5)) := (Below.refl _ _).alloc (Nat.le_refl _) _
  refine (bytes_b _ v _ 2 _ (Sl.below h hb (Nat.le_refl _)) (lit1 w)).mono ?_
  rintro e w' ⟨rfl, h2⟩
  exact ⟨rfl, below_of hb h2⟩
set_option maxRecDepth 100000 in
set_option maxHeartbeats 1000000 in
theorem wakes_any (w : World) : Calls Try.prog 14 #[] w fun e w' => e = .returned (.bool true) ∧ Below w.heap.size w w' := by
  have m1 := trivial
  have kc := fun (w : World) (C : Array Value) (n c : Nat) => Lib.run_convert_bytes_const (P := Try.prog) w 22 5 C n c Try.underlying22 Try.underlying5
  go_enter Try.func14, Try.ntmps14
  go_wp2_with (first
    | (go_at_call 12; refine (wk1 _).mono ?_; rintro e w1 ⟨v1, rfl, s1, b1⟩; have S1 := hide s1; have B1 := hide b1; clear s1 b1)
    | (clear m1; go_at_call 7; refine (wk2 _ _ (unhide S1)).mono ?_; rintro e w2 ⟨v2, rfl, s2, b2⟩; have S2 := hide s2; replace B1 := hide (below_of (unhide B1) b2); clear s2 b2)
    | (go_at_call 7; refine (wk3 _).mono ?_; rintro e w3 ⟨rfl, b3⟩; replace S2 := hide (Sl.below (unhide S2) b3 (Nat.le_refl _)); replace B1 := hide (below_of (unhide B1) b3); clear b3)
    | (go_at_call 9; refine (wk4 _ _).mono ?_; rintro e w4 ⟨rfl, b4⟩; replace S2 := hide (Sl.below (unhide S2) b4 (Nat.le_refl _)); replace B1 := hide (below_of (unhide B1) b4); clear b4)
    | (go_at_call 11; refine (wk5 _ _ (unhide S2)).mono ?_; rintro e w5 ⟨rfl, b5⟩; replace B1 := hide (below_of (unhide B1) b5); clear b5))
  go_ret
  exact ⟨rfl, unhide B1⟩
end Go.Proofs.Ytfkhapliblnacaa
