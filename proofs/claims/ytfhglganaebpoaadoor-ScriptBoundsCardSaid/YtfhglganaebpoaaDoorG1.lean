/- Walk of ScriptBounds. -/
import Derived.Test.YtfhglganaebpoaaDoorW1
import Derived.Test.YtfhglganaebpoaaDoorX1
import Derived.Test.YtfhglganaebpoaaDoorD1
namespace Go.Proofs.YtfhglganaebpoaaDoor
open Go.RowKit

/-- Four blocks of the call's own, each holding o. -/
def Four (w0 w : World) (g0 g1 g2 g3 : Nat) (o : Obj) : Prop :=
  (Has w g0 o ∧ Has w g1 o ∧ Has w g2 o ∧ Has w g3 o) ∧ (w0.heap.size ≤ g0 ∧ w0.heap.size ≤ g1 ∧ w0.heap.size ≤ g2 ∧ w0.heap.size ≤ g3) ∧ (g0 ≠ g1 ∧ g0 ≠ g2 ∧ g0 ≠ g3 ∧ g1 ≠ g2 ∧ g1 ≠ g3 ∧ g2 ≠ g3) ∧ Below w0.heap.size w0 w
theorem Has.setC {w : World} {g : Nat} {cs : Array Value} {t : TypeId} (h : Has w g (.cells cs t)) (j : Nat) (v : Value) : Has (w.setCell ⟨g, j, none⟩ v) g (.cells (cs.setIfInBounds j v) t) := ⟨by simpa using h.1, heap_setCell_same _ g j cs t v h.2⟩
theorem Has.setO {w : World} {g p : Nat} {o : Obj} (h : Has w g o) (ne : g ≠ p) (j : Nat) (v : Value) : Has (w.setCell ⟨p, j, none⟩ v) g o := ⟨by simpa using h.1, (heap_setCell_other _ _ _ _ (fun q => ne q)).trans h.2⟩
theorem Glob.setC {w : World} {e : Addr} (h : Glob w e) {p : Addr} (hp : 2 ≤ p.block) (v : Value) : Glob (w.setCell p v) e :=
  ⟨by simpa using h.1, (World.cell?_setCell_far w p ⟨0, 0, none⟩ v (by show p.block ≠ 0; omega)).trans h.2.1, (World.cell?_setCell_far w p ⟨1, 0, none⟩ v (by show p.block ≠ 1; omega)).trans h.2.2⟩
theorem chk_a (x0 x1 x2 x3 x4 x5 x6 k : Int) (N : Nat) (hc : cfB ⟨x0, x1, x2, x3, x4, x5, x6⟩ = true) (hN : N < 256) (h : k = 1) (_ : k ≤ 13) (p0 : 1 ≤ x0) (p1 : 1 ≤ x1) (q1 : x1 ≤ 4) :
    chkE ⟨x0, x1, x2, x3, x4, x5, x6⟩ ⟨k, ((N : Int) % x0), ((N : Int) % x1), N, (1 + (N : Int) % 255)⟩ = 0 ∧ chkE ⟨x0, x1, x2, x3, x4, x5, x6⟩ ⟨k, x0, ((N : Int) % x1), N, (1 + (N : Int) % 255)⟩ = 9 ∧ chkE ⟨x0, x1, x2, x3, x4, x5, x6⟩ ⟨k, ((N : Int) % x0), x1, N, (1 + (N : Int) % 255)⟩ = 0 ∧ chkE ⟨x0, x1, x2, x3, x4, x5, x6⟩ ⟨k, ((N : Int) % x0), ((N : Int) % x1), 256, (1 + (N : Int) % 255)⟩ = 0 ∧ chkE ⟨x0, x1, x2, x3, x4, x5, x6⟩ ⟨k, ((N : Int) % x0), ((N : Int) % x1), N, 0⟩ = 0 := by
  have a1 := Int.emod_nonneg (N : Int) (show x0 ≠ 0 by omega)
  have a2 := Int.emod_lt_of_pos (N : Int) (show 0 < x0 by omega)
  have a3 := Int.emod_nonneg (N : Int) (show x1 ≠ 0 by omega)
  have a4 := Int.emod_lt_of_pos (N : Int) (show 0 < x1 by omega)
  generalize (N : Int) % x0 = a at *
  generalize (N : Int) % x1 = b at *
  have i1 : inB a 0 (x0 - 1) = true := inB_true (by omega)
  have i2 : inB x0 0 (x0 - 1) = false := inB_false (by omega)
  have i3 : inB b 0 (x1 - 1) = true := inB_true (by omega)
  have i4 : inB x1 0 (x1 - 1) = false := inB_false (by omega)
  have i5 : inB (N : Int) 0 255 = true := inB_true (by omega)
  have i6 : inB 256 0 255 = false := inB_false (by omega)
  have i7 : inB (1 + (N : Int) % 255) 1 255 = true := inB_true (by omega)
  have i8 : inB 0 1 255 = false := inB_false (by omega)
  have i9 : inB b 0 255 = true := inB_true (by omega)
  have i10 : inB x1 0 255 = true := inB_true (by omega)
  refine ⟨?_, ?_, ?_, ?_, ?_⟩ <;>
    (unfold chkE stE
     dsimp only
     rw [if_pos hc, if_pos (by omega)]
     simp [i1, i2])
theorem chk_b (x0 x1 x2 x3 x4 x5 x6 k : Int) (N : Nat) (hc : cfB ⟨x0, x1, x2, x3, x4, x5, x6⟩ = true) (hN : N < 256) (h : 6 ≤ k ∧ k ≤ 7) (_ : k ≤ 13) (p0 : 1 ≤ x0) (p1 : 1 ≤ x1) (q1 : x1 ≤ 4) :
    chkE ⟨x0, x1, x2, x3, x4, x5, x6⟩ ⟨k, ((N : Int) % x0), ((N : Int) % x1), N, (1 + (N : Int) % 255)⟩ = 0 ∧ chkE ⟨x0, x1, x2, x3, x4, x5, x6⟩ ⟨k, x0, ((N : Int) % x1), N, (1 + (N : Int) % 255)⟩ = 9 ∧ chkE ⟨x0, x1, x2, x3, x4, x5, x6⟩ ⟨k, ((N : Int) % x0), x1, N, (1 + (N : Int) % 255)⟩ = 0 ∧ chkE ⟨x0, x1, x2, x3, x4, x5, x6⟩ ⟨k, ((N : Int) % x0), ((N : Int) % x1), 256, (1 + (N : Int) % 255)⟩ = 0 ∧ chkE ⟨x0, x1, x2, x3, x4, x5, x6⟩ ⟨k, ((N : Int) % x0), ((N : Int) % x1), N, 0⟩ = 0 := by
  have a1 := Int.emod_nonneg (N : Int) (show x0 ≠ 0 by omega)
  have a2 := Int.emod_lt_of_pos (N : Int) (show 0 < x0 by omega)
  have a3 := Int.emod_nonneg (N : Int) (show x1 ≠ 0 by omega)
  have a4 := Int.emod_lt_of_pos (N : Int) (show 0 < x1 by omega)
  generalize (N : Int) % x0 = a at *
  generalize (N : Int) % x1 = b at *
  have i1 : inB a 0 (x0 - 1) = true := inB_true (by omega)
  have i2 : inB x0 0 (x0 - 1) = false := inB_false (by omega)
  have i3 : inB b 0 (x1 - 1) = true := inB_true (by omega)
  have i4 : inB x1 0 (x1 - 1) = false := inB_false (by omega)
  have i5 : inB (N : Int) 0 255 = true := inB_true (by omega)
  have i6 : inB 256 0 255 = false := inB_false (by omega)
  have i7 : inB (1 + (N : Int) % 255) 1 255 = true := inB_true (by omega)
  have i8 : inB 0 1 255 = false := inB_false (by omega)
  have i9 : inB b 0 255 = true := inB_true (by omega)
  have i10 : inB x1 0 255 = true := inB_true (by omega)
  refine ⟨?_, ?_, ?_, ?_, ?_⟩ <;>
    (unfold chkE stE
     dsimp only
     rw [if_pos hc, if_pos (by omega)]
     simp [i1, i2])
theorem chk_c (x0 x1 x2 x3 x4 x5 x6 k : Int) (N : Nat) (hc : cfB ⟨x0, x1, x2, x3, x4, x5, x6⟩ = true) (hN : N < 256) (h : 2 ≤ k ∧ k ≤ 4) (_ : k ≤ 13) (p0 : 1 ≤ x0) (p1 : 1 ≤ x1) (q1 : x1 ≤ 4) :
    chkE ⟨x0, x1, x2, x3, x4, x5, x6⟩ ⟨k, ((N : Int) % x0), ((N : Int) % x1), N, (1 + (N : Int) % 255)⟩ = 0 ∧ chkE ⟨x0, x1, x2, x3, x4, x5, x6⟩ ⟨k, x0, ((N : Int) % x1), N, (1 + (N : Int) % 255)⟩ = 0 ∧ chkE ⟨x0, x1, x2, x3, x4, x5, x6⟩ ⟨k, ((N : Int) % x0), x1, N, (1 + (N : Int) % 255)⟩ = 0 ∧ chkE ⟨x0, x1, x2, x3, x4, x5, x6⟩ ⟨k, ((N : Int) % x0), ((N : Int) % x1), 256, (1 + (N : Int) % 255)⟩ = 1 ∧ chkE ⟨x0, x1, x2, x3, x4, x5, x6⟩ ⟨k, ((N : Int) % x0), ((N : Int) % x1), N, 0⟩ = 0 := by
  have a1 := Int.emod_nonneg (N : Int) (show x0 ≠ 0 by omega)
  have a2 := Int.emod_lt_of_pos (N : Int) (show 0 < x0 by omega)
  have a3 := Int.emod_nonneg (N : Int) (show x1 ≠ 0 by omega)
  have a4 := Int.emod_lt_of_pos (N : Int) (show 0 < x1 by omega)
  generalize (N : Int) % x0 = a at *
  generalize (N : Int) % x1 = b at *
  have i1 : inB a 0 (x0 - 1) = true := inB_true (by omega)
  have i2 : inB x0 0 (x0 - 1) = false := inB_false (by omega)
  have i3 : inB b 0 (x1 - 1) = true := inB_true (by omega)
  have i4 : inB x1 0 (x1 - 1) = false := inB_false (by omega)
  have i5 : inB (N : Int) 0 255 = true := inB_true (by omega)
  have i6 : inB 256 0 255 = false := inB_false (by omega)
  have i7 : inB (1 + (N : Int) % 255) 1 255 = true := inB_true (by omega)
  have i8 : inB 0 1 255 = false := inB_false (by omega)
  have i9 : inB b 0 255 = true := inB_true (by omega)
  have i10 : inB x1 0 255 = true := inB_true (by omega)
  refine ⟨?_, ?_, ?_, ?_, ?_⟩ <;>
    (unfold chkE stE
     dsimp only
     rw [if_pos hc, if_neg (by omega), if_neg (by omega), if_neg (by omega), if_pos (by omega)]
     simp [i5, i6])
theorem chk_d (x0 x1 x2 x3 x4 x5 x6 k : Int) (N : Nat) (hc : cfB ⟨x0, x1, x2, x3, x4, x5, x6⟩ = true) (hN : N < 256) (h : k = 5) (_ : k ≤ 13) (p0 : 1 ≤ x0) (p1 : 1 ≤ x1) (q1 : x1 ≤ 4) :
    chkE ⟨x0, x1, x2, x3, x4, x5, x6⟩ ⟨k, ((N : Int) % x0), ((N : Int) % x1), N, (1 + (N : Int) % 255)⟩ = 0 ∧ chkE ⟨x0, x1, x2, x3, x4, x5, x6⟩ ⟨k, x0, ((N : Int) % x1), N, (1 + (N : Int) % 255)⟩ = 0 ∧ chkE ⟨x0, x1, x2, x3, x4, x5, x6⟩ ⟨k, ((N : Int) % x0), x1, N, (1 + (N : Int) % 255)⟩ = 0 ∧ chkE ⟨x0, x1, x2, x3, x4, x5, x6⟩ ⟨k, ((N : Int) % x0), ((N : Int) % x1), 256, (1 + (N : Int) % 255)⟩ = 1 ∧ chkE ⟨x0, x1, x2, x3, x4, x5, x6⟩ ⟨k, ((N : Int) % x0), ((N : Int) % x1), N, 0⟩ = 1 := by
  have a1 := Int.emod_nonneg (N : Int) (show x0 ≠ 0 by omega)
  have a2 := Int.emod_lt_of_pos (N : Int) (show 0 < x0 by omega)
  have a3 := Int.emod_nonneg (N : Int) (show x1 ≠ 0 by omega)
  have a4 := Int.emod_lt_of_pos (N : Int) (show 0 < x1 by omega)
  generalize (N : Int) % x0 = a at *
  generalize (N : Int) % x1 = b at *
  have i1 : inB a 0 (x0 - 1) = true := inB_true (by omega)
  have i2 : inB x0 0 (x0 - 1) = false := inB_false (by omega)
  have i3 : inB b 0 (x1 - 1) = true := inB_true (by omega)
  have i4 : inB x1 0 (x1 - 1) = false := inB_false (by omega)
  have i5 : inB (N : Int) 0 255 = true := inB_true (by omega)
  have i6 : inB 256 0 255 = false := inB_false (by omega)
  have i7 : inB (1 + (N : Int) % 255) 1 255 = true := inB_true (by omega)
  have i8 : inB 0 1 255 = false := inB_false (by omega)
  have i9 : inB b 0 255 = true := inB_true (by omega)
  have i10 : inB x1 0 255 = true := inB_true (by omega)
  refine ⟨?_, ?_, ?_, ?_, ?_⟩ <;>
    (unfold chkE stE
     dsimp only
     rw [if_pos hc, if_neg (by omega), if_neg (by omega), if_neg (by omega), if_neg (by omega), if_pos (by omega)]
     simp [i5, i6, i7, i8, i9, i10])
theorem chk_e (x0 x1 x2 x3 x4 x5 x6 k : Int) (N : Nat) (hc : cfB ⟨x0, x1, x2, x3, x4, x5, x6⟩ = true) (hN : N < 256) (h : 8 ≤ k ∧ k ≠ 11) (hk : k ≤ 13) (p0 : 1 ≤ x0) (p1 : 1 ≤ x1) (q1 : x1 ≤ 4) :
    chkE ⟨x0, x1, x2, x3, x4, x5, x6⟩ ⟨k, ((N : Int) % x0), ((N : Int) % x1), N, (1 + (N : Int) % 255)⟩ = 0 ∧ chkE ⟨x0, x1, x2, x3, x4, x5, x6⟩ ⟨k, x0, ((N : Int) % x1), N, (1 + (N : Int) % 255)⟩ = 9 ∧ chkE ⟨x0, x1, x2, x3, x4, x5, x6⟩ ⟨k, ((N : Int) % x0), x1, N, (1 + (N : Int) % 255)⟩ = 1 ∧ chkE ⟨x0, x1, x2, x3, x4, x5, x6⟩ ⟨k, ((N : Int) % x0), ((N : Int) % x1), 256, (1 + (N : Int) % 255)⟩ = 0 ∧ chkE ⟨x0, x1, x2, x3, x4, x5, x6⟩ ⟨k, ((N : Int) % x0), ((N : Int) % x1), N, 0⟩ = 0 := by
  have a1 := Int.emod_nonneg (N : Int) (show x0 ≠ 0 by omega)
  have a2 := Int.emod_lt_of_pos (N : Int) (show 0 < x0 by omega)
  have a3 := Int.emod_nonneg (N : Int) (show x1 ≠ 0 by omega)
  have a4 := Int.emod_lt_of_pos (N : Int) (show 0 < x1 by omega)
  generalize (N : Int) % x0 = a at *
  generalize (N : Int) % x1 = b at *
  have i1 : inB a 0 (x0 - 1) = true := inB_true (by omega)
  have i2 : inB x0 0 (x0 - 1) = false := inB_false (by omega)
  have i3 : inB b 0 (x1 - 1) = true := inB_true (by omega)
  have i4 : inB x1 0 (x1 - 1) = false := inB_false (by omega)
  have i5 : inB (N : Int) 0 255 = true := inB_true (by omega)
  have i6 : inB 256 0 255 = false := inB_false (by omega)
  have i7 : inB (1 + (N : Int) % 255) 1 255 = true := inB_true (by omega)
  have i8 : inB 0 1 255 = false := inB_false (by omega)
  have i9 : inB b 0 255 = true := inB_true (by omega)
  have i10 : inB x1 0 255 = true := inB_true (by omega)
  refine ⟨?_, ?_, ?_, ?_, ?_⟩ <;>
    (unfold chkE stE
     dsimp only
     rw [if_pos hc, if_neg (by omega), if_pos (by omega)]
     simp [i1, i2, i3, i4])
theorem chk_f (x0 x1 x2 x3 x4 x5 x6 k : Int) (N : Nat) (hc : cfB ⟨x0, x1, x2, x3, x4, x5, x6⟩ = true) (hN : N < 256) (h : k = 11) (_ : k ≤ 13) (p0 : 1 ≤ x0) (p1 : 1 ≤ x1) (q1 : x1 ≤ 4) :
    chkE ⟨x0, x1, x2, x3, x4, x5, x6⟩ ⟨k, ((N : Int) % x0), ((N : Int) % x1), N, (1 + (N : Int) % 255)⟩ = 0 ∧ chkE ⟨x0, x1, x2, x3, x4, x5, x6⟩ ⟨k, x0, ((N : Int) % x1), N, (1 + (N : Int) % 255)⟩ = 9 ∧ chkE ⟨x0, x1, x2, x3, x4, x5, x6⟩ ⟨k, ((N : Int) % x0), x1, N, (1 + (N : Int) % 255)⟩ = 1 ∧ chkE ⟨x0, x1, x2, x3, x4, x5, x6⟩ ⟨k, ((N : Int) % x0), ((N : Int) % x1), 256, (1 + (N : Int) % 255)⟩ = 1 ∧ chkE ⟨x0, x1, x2, x3, x4, x5, x6⟩ ⟨k, ((N : Int) % x0), ((N : Int) % x1), N, 0⟩ = 0 := by
  have a1 := Int.emod_nonneg (N : Int) (show x0 ≠ 0 by omega)
  have a2 := Int.emod_lt_of_pos (N : Int) (show 0 < x0 by omega)
  have a3 := Int.emod_nonneg (N : Int) (show x1 ≠ 0 by omega)
  have a4 := Int.emod_lt_of_pos (N : Int) (show 0 < x1 by omega)
  generalize (N : Int) % x0 = a at *
  generalize (N : Int) % x1 = b at *
  have i1 : inB a 0 (x0 - 1) = true := inB_true (by omega)
  have i2 : inB x0 0 (x0 - 1) = false := inB_false (by omega)
  have i3 : inB b 0 (x1 - 1) = true := inB_true (by omega)
  have i4 : inB x1 0 (x1 - 1) = false := inB_false (by omega)
  have i5 : inB (N : Int) 0 255 = true := inB_true (by omega)
  have i6 : inB 256 0 255 = false := inB_false (by omega)
  have i7 : inB (1 + (N : Int) % 255) 1 255 = true := inB_true (by omega)
  have i8 : inB 0 1 255 = false := inB_false (by omega)
  have i9 : inB b 0 255 = true := inB_true (by omega)
  have i10 : inB x1 0 255 = true := inB_true (by omega)
  refine ⟨?_, ?_, ?_, ?_, ?_⟩ <;>
    (unfold chkE stE
     dsimp only
     rw [if_pos hc, if_neg (by omega), if_neg (by omega), if_pos (by omega)]
     simp [i1, i2, i3, i4, i5, i6])
theorem want_all (x0 x1 x2 x3 x4 x5 x6 k : Int) (N : Nat) (hc : cfB ⟨x0, x1, x2, x3, x4, x5, x6⟩ = true) (hN : N < 256) (h : 1 ≤ k) (hk : k ≤ 13) (p0 : 1 ≤ x0) (p1 : 1 ≤ x1) (q1 : x1 ≤ 4) :
    chkE ⟨x0, x1, x2, x3, x4, x5, x6⟩ ⟨k, ((N : Int) % x0), ((N : Int) % x1), N, (1 + (N : Int) % 255)⟩ = 0 ∧ chkE ⟨x0, x1, x2, x3, x4, x5, x6⟩ ⟨k, x0, ((N : Int) % x1), N, (1 + (N : Int) % 255)⟩ = (if decide (2 ≤ k ∧ k ≤ 5) then 0 else 9) ∧ chkE ⟨x0, x1, x2, x3, x4, x5, x6⟩ ⟨k, ((N : Int) % x0), x1, N, (1 + (N : Int) % 255)⟩ = (if 8 ≤ k then 1 else 0) ∧ chkE ⟨x0, x1, x2, x3, x4, x5, x6⟩ ⟨k, ((N : Int) % x0), ((N : Int) % x1), 256, (1 + (N : Int) % 255)⟩ = (if k = 11 then 1 else if decide (2 ≤ k ∧ k ≤ 5) then 1 else 0) ∧ chkE ⟨x0, x1, x2, x3, x4, x5, x6⟩ ⟨k, ((N : Int) % x0), ((N : Int) % x1), N, 0⟩ = (if k = 5 then 1 else 0) := by
  by_cases k1 : k = 1
  · obtain ⟨c0, c1, c2, c3, c4⟩ := chk_a x0 x1 x2 x3 x4 x5 x6 k N hc hN (by omega) hk p0 p1 q1
    rw [c0, c1, c2, c3, c4, decide_eq_false (by omega : ¬ (2 ≤ k ∧ k ≤ 5)), if_neg (by omega : ¬ 8 ≤ k), if_neg (by omega : ¬ k = 11), if_neg (by omega : ¬ k = 5)]
    exact ⟨rfl, rfl, rfl, rfl, rfl⟩
  by_cases k2 : k ≤ 4
  · obtain ⟨c0, c1, c2, c3, c4⟩ := chk_c x0 x1 x2 x3 x4 x5 x6 k N hc hN (by omega) hk p0 p1 q1
    rw [c0, c1, c2, c3, c4, decide_eq_true (by omega : (2 ≤ k ∧ k ≤ 5)), if_neg (by omega : ¬ 8 ≤ k), if_neg (by omega : ¬ k = 11), if_neg (by omega : ¬ k = 5)]
    exact ⟨rfl, rfl, rfl, rfl, rfl⟩
  by_cases k3 : k = 5
  · obtain ⟨c0, c1, c2, c3, c4⟩ := chk_d x0 x1 x2 x3 x4 x5 x6 k N hc hN (by omega) hk p0 p1 q1
    rw [c0, c1, c2, c3, c4, decide_eq_true (by omega : (2 ≤ k ∧ k ≤ 5)), if_neg (by omega : ¬ 8 ≤ k), if_neg (by omega : ¬ k = 11), if_pos (by omega : k = 5)]
    exact ⟨rfl, rfl, rfl, rfl, rfl⟩
  by_cases k4 : k ≤ 7
  · obtain ⟨c0, c1, c2, c3, c4⟩ := chk_b x0 x1 x2 x3 x4 x5 x6 k N hc hN (by omega) hk p0 p1 q1
    rw [c0, c1, c2, c3, c4, decide_eq_false (by omega : ¬ (2 ≤ k ∧ k ≤ 5)), if_neg (by omega : ¬ 8 ≤ k), if_neg (by omega : ¬ k = 11), if_neg (by omega : ¬ k = 5)]
    exact ⟨rfl, rfl, rfl, rfl, rfl⟩
  by_cases k5 : k = 11
  · obtain ⟨c0, c1, c2, c3, c4⟩ := chk_f x0 x1 x2 x3 x4 x5 x6 k N hc hN (by omega) hk p0 p1 q1
    rw [c0, c1, c2, c3, c4, decide_eq_false (by omega : ¬ (2 ≤ k ∧ k ≤ 5)), if_pos (by omega : 8 ≤ k), if_pos (by omega : k = 11), if_neg (by omega : ¬ k = 5)]
    exact ⟨rfl, rfl, rfl, rfl, rfl⟩
  · obtain ⟨c0, c1, c2, c3, c4⟩ := chk_e x0 x1 x2 x3 x4 x5 x6 k N hc hN (by omega) hk p0 p1 q1
    rw [c0, c1, c2, c3, c4, decide_eq_false (by omega : ¬ (2 ≤ k ∧ k ≤ 5)), if_pos (by omega : 8 ≤ k), if_neg (by omega : ¬ k = 11), if_neg (by omega : ¬ k = 5)]
    exact ⟨rfl, rfl, rfl, rfl, rfl⟩
set_option maxRecDepth 100000 in
set_option maxHeartbeats 40000000 in
theorem bounds_walk (n kind m : Int) (w : World) (hG : GlobE w) :
    Calls Tryd.prog 5 #[.int .i64 n, .int .i64 kind, .int .i64 m] w fun e w' => e = .returned (.bool true) ∧ Below w.heap.size w w' := by
  obtain ⟨e, hG⟩ := hG
  obtain ⟨q, hq, hq2⟩ : ∃ q : Nat, wrap64 ((IntKind.u64.wrap n).tmod 1000000) = q ∧ q < 1000000 := modN n 1000000 (by omega) (by omega)
  obtain ⟨K, hK, hK2⟩ : ∃ q : Nat, wrap64 ((IntKind.u64.wrap kind).tmod 13) = q ∧ q < 13 := modN kind 13 (by omega) (by omega)
  obtain ⟨N, hN, hN2⟩ : ∃ q : Nat, wrap64 ((IntKind.u64.wrap m).tmod 256) = q ∧ q < 256 := modN m 256 (by omega) (by omega)
  obtain ⟨k, hk⟩ : ∃ k : Int, 1 + (K : Int) = k := ⟨_, rfl⟩
  have hk1 : 1 ≤ k := by omega
  have hk2 : k ≤ 13 := by omega
  have CF := conf_any n q w hq hq2
  have HG := hide hG
  have HK := hide (show wrap64 (1 + wrap64 ((IntKind.u64.wrap kind).tmod 13)) = k by rw [hK, ← hk]; unfold wrap64; omega)
  have HN := hide hN
  have HC := hide (cfN_ok q)
  obtain ⟨y0, y1, -, -, -, -, -⟩ := cfB_iff.1 (cfN_ok q)
  unfold cV at CF
  generalize cfN q = c at *
  obtain ⟨x0, x1, x2, x3, x4, x5, x6⟩ := c
  dsimp only at CF y0 y1
  rw [inB_iff] at y0 y1
  obtain ⟨p0, p0'⟩ := y0
  obtain ⟨p1, p1'⟩ := y1
  replace CF := hide CF
  clear hq hq2 hG hK hN hk hK2 K q
  go_enter Tryd.func5, Tryd.ntmps5
  go_upto_region 3 with (go_at_call 20; refine (unhide CF).mono ?_; rintro ev w1 ⟨rfl, b1⟩; have B1 := hide b1; clear b1 CF)
  rw [unhide HK, unhide HN]
  obtain ⟨w2, hw2⟩ : ∃ z, z = w1.alloc (.cells #[.int .i64 x0, .int .i64 x1, .int .i64 x2, .int .i64 x3, .int .i64 x4, .int .i64 x5, .int .i64 x6] 23) := ⟨_, rfl⟩
  rw [← hw2]
  have b2 : Below w1.heap.size w1 w2 := by rw [hw2]; exact below_alloc (Below.refl _ _) _
  have X2 : Has w2 w1.heap.size (.cells #[.int .i64 x0, .int .i64 x1, .int .i64 x2, .int .i64 x3, .int .i64 x4, .int .i64 x5, .int .i64 x6] 23) := by rw [hw2]; exact Has.new _ _
  have lg := X2.1
  have c0 := X2.cell (k := 0) rfl
  have c1 := X2.cell (k := 1) rfl
  have d0 := (World.cell?_drew w2 _).trans c0
  have d1 := (World.cell?_drew w2 _).trans c1
  have B2 := hide (below_of (unhide B1) b2)
  have nz0 : ¬ x0 = 0 := by omega
  have nz1 : ¬ x1 = 0 := by omega
  have t0 : (N : Int).tmod x0 = (N : Int) % x0 := Int.tmod_eq_emod_of_nonneg (by omega)
  have t1 : (N : Int).tmod x1 = (N : Int) % x1 := Int.tmod_eq_emod_of_nonneg (by omega)
  have t2 : (N : Int).tmod 255 = (N : Int) % 255 := Int.tmod_eq_emod_of_nonneg (by omega)
  have u2 : IntKind.i64.wrap (1 + (N : Int) % 255) = 1 + (N : Int) % 255 := by rw [IntKind.wrap_i64]; omega
  clear hw2 b2 HK HN B1
  refine wa_start (fun w' => w'.cell? ⟨w1.heap.size, 0, none⟩ = some (.int .i64 x0) ∧ w'.cell? ⟨w1.heap.size, 1, none⟩ = some (.int .i64 x1)) ⟨d0, d1⟩ ?_
  refine wa_take (v := (.int .i64 k)) 0 rfl (by kernel_rfl) (by kernel_rfl) (by kernel_rfl) (fun _ _ _ h => h) (by kernel_rfl) (fun w hSw => ?_) ⟨d0, d1⟩ ?_
  · try dsimp only at hSw
    go_simp
  try simp only [Act.put, List.setIfInBounds_toArray, List.set_cons_zero, List.set_cons_succ]
  refine wa_take (v := (.int .i64 N)) 1 rfl (by kernel_rfl) (by kernel_rfl) (by kernel_rfl) (fun _ _ _ h => h) (by kernel_rfl) (fun w hSw => ?_) ⟨d0, d1⟩ ?_
  · try dsimp only at hSw
    go_simp
  try simp only [Act.put, List.setIfInBounds_toArray, List.set_cons_zero, List.set_cons_succ]
  refine wa_take (v := (.pointer (some ⟨w1.heap.size, 0, none⟩))) 2 rfl (by kernel_rfl) (by kernel_rfl) (by kernel_rfl) (fun _ _ _ h => h) (by kernel_rfl) (fun w hSw => ?_) ⟨d0, d1⟩ ?_
  · try dsimp only at hSw
    go_simp
  try simp only [Act.put, List.setIfInBounds_toArray, List.set_cons_zero, List.set_cons_succ]
  refine wa_take (v := (.int .i64 x0)) 3 rfl (by kernel_rfl) (by kernel_rfl) (by kernel_rfl) (fun _ _ _ h => h) (by kernel_rfl) (fun w hSw => ?_) ⟨d0, d1⟩ ?_
  · try dsimp only at hSw
    go_simp
  try simp only [Act.put, List.setIfInBounds_toArray, List.set_cons_zero, List.set_cons_succ]
  refine wa_take (v := (.int .i64 ((N : Int) % x0))) 4 rfl (by kernel_rfl) (by kernel_rfl) (by kernel_rfl) (fun _ _ _ h => h) (by kernel_rfl) (fun w hSw => ?_) ⟨d0, d1⟩ ?_
  · try dsimp only at hSw
    go_simp
  try simp only [Act.put, List.setIfInBounds_toArray, List.set_cons_zero, List.set_cons_succ]
  refine wa_take (v := (.int .i64 N)) 5 rfl (by kernel_rfl) (by kernel_rfl) (by kernel_rfl) (fun _ _ _ h => h) (by kernel_rfl) (fun w hSw => ?_) ⟨d0, d1⟩ ?_
  · try dsimp only at hSw
    go_simp
  try simp only [Act.put, List.setIfInBounds_toArray, List.set_cons_zero, List.set_cons_succ]
  refine wa_take (v := (.pointer (some ⟨w1.heap.size, 1, none⟩))) 6 rfl (by kernel_rfl) (by kernel_rfl) (by kernel_rfl) (fun _ _ _ h => h) (by kernel_rfl) (fun w hSw => ?_) ⟨d0, d1⟩ ?_
  · try dsimp only at hSw
    go_simp
  try simp only [Act.put, List.setIfInBounds_toArray, List.set_cons_zero, List.set_cons_succ]
  refine wa_take (v := (.int .i64 x1)) 7 rfl (by kernel_rfl) (by kernel_rfl) (by kernel_rfl) (fun _ _ _ h => h) (by kernel_rfl) (fun w hSw => ?_) ⟨d0, d1⟩ ?_
  · try dsimp only at hSw
    go_simp
  try simp only [Act.put, List.setIfInBounds_toArray, List.set_cons_zero, List.set_cons_succ]
  refine wa_take (v := (.int .i64 ((N : Int) % x1))) 8 rfl (by kernel_rfl) (by kernel_rfl) (by kernel_rfl) (fun _ _ _ h => h) (by kernel_rfl) (fun w hSw => ?_) ⟨d0, d1⟩ ?_
  · try dsimp only at hSw
    go_simp
  try simp only [Act.put, List.setIfInBounds_toArray, List.set_cons_zero, List.set_cons_succ]
  refine wa_take (v := (.int .i64 N)) 9 rfl (by kernel_rfl) (by kernel_rfl) (by kernel_rfl) (fun _ _ _ h => h) (by kernel_rfl) (fun w hSw => ?_) ⟨d0, d1⟩ ?_
  · try dsimp only at hSw
    go_simp
  try simp only [Act.put, List.setIfInBounds_toArray, List.set_cons_zero, List.set_cons_succ]
  refine wa_take (v := (.int .i64 N)) 10 rfl (by kernel_rfl) (by kernel_rfl) (by kernel_rfl) (fun _ _ _ h => h) (by kernel_rfl) (fun w hSw => ?_) ⟨d0, d1⟩ ?_
  · try dsimp only at hSw
    go_simp
  try simp only [Act.put, List.setIfInBounds_toArray, List.set_cons_zero, List.set_cons_succ]
  refine wa_take (v := (.int .i64 ((N : Int) % 255))) 11 rfl (by kernel_rfl) (by kernel_rfl) (by kernel_rfl) (fun _ _ _ h => h) (by kernel_rfl) (fun w hSw => ?_) ⟨d0, d1⟩ ?_
  · try dsimp only at hSw
    go_simp
  try simp only [Act.put, List.setIfInBounds_toArray, List.set_cons_zero, List.set_cons_succ]
  refine wa_take (v := (.int .i64 (1 + (N : Int) % 255))) 12 rfl (by kernel_rfl) (by kernel_rfl) (by kernel_rfl) (fun _ _ _ h => h) (by kernel_rfl) (fun w hSw => ?_) ⟨d0, d1⟩ ?_
  · try dsimp only at hSw
    go_simp
  try simp only [Act.put, List.setIfInBounds_toArray, List.set_cons_zero, List.set_cons_succ]
  refine wa_take (v := (.agg #[.int .i64 k, .int .i64 ((N : Int) % x0), .int .i64 ((N : Int) % x1), .int .i64 N, .int .i64 (1 + (N : Int) % 255)])) 13 rfl (by kernel_rfl) (by kernel_rfl) (by kernel_rfl) (fun _ _ _ h => h) (by kernel_rfl) (fun w hSw => ?_) ⟨d0, d1⟩ ?_
  · try dsimp only at hSw
    go_simp
  try simp only [Act.put, List.setIfInBounds_toArray, List.set_cons_zero, List.set_cons_succ]
  refine wa_one 14 (by kernel_rfl) rfl (by kernel_rfl) (fun Kc hK => ?_)
  go_simp
  have a0 := (World.cell?_drew (w2.alloc (.cells #[.int .i64 0, .int .i64 0, .int .i64 0, .int .i64 0, .int .i64 0] 27)) _).trans ((World.cell?_alloc_lt w2 (.cells #[.int .i64 0, .int .i64 0, .int .i64 0, .int .i64 0, .int .i64 0] 27) ⟨w1.heap.size, 0, none⟩ lg).trans c0)
  have a1 := (World.cell?_drew (w2.alloc (.cells #[.int .i64 0, .int .i64 0, .int .i64 0, .int .i64 0, .int .i64 0] 27)) _).trans ((World.cell?_alloc_lt w2 (.cells #[.int .i64 0, .int .i64 0, .int .i64 0, .int .i64 0, .int .i64 0] 27) ⟨w1.heap.size, 1, none⟩ lg).trans c1)
  refine hK.out _ _ ⟨a0, a1⟩ ?_
  clear hK Kc
  try simp only [Act.put, List.setIfInBounds_toArray, List.set_cons_zero, List.set_cons_succ]
  refine wa_one 15 (by kernel_rfl) rfl (by kernel_rfl) (fun Kc hK => ?_)
  have hz : (w2.alloc (.cells #[.int .i64 0, .int .i64 0, .int .i64 0, .int .i64 0, .int .i64 0] 27)).drew.heap[w2.heap.size]? = some (.cells #[.int .i64 0, .int .i64 0, .int .i64 0, .int .i64 0, .int .i64 0] 27) := by rw [heap_drew]; exact heap_alloc_new _ _
  have ne : w1.heap.size ≠ w2.heap.size := by omega
  refine wp_store_row 27 (.tmp 8) (.tmp 39) rfl w2.heap.size #[.int .i64 k, .int .i64 ((N : Int) % x0), .int .i64 ((N : Int) % x1), .int .i64 N, .int .i64 (1 + (N : Int) % 255)] rfl rfl 27 _ hz info27 rfl (by simp [Value.oneCell']) ?_
  refine hK.out _ _ ⟨(cell_setRow_other _ _ _ _ ne).trans a0, (cell_setRow_other _ _ _ _ ne).trans a1⟩ ?_
  clear hK Kc
  try simp only [Act.put]
  refine wa_done (by kernel_rfl) ?_
  obtain ⟨w3, hw3⟩ : ∃ z, z = (w2.alloc (.cells #[.int .i64 0, .int .i64 0, .int .i64 0, .int .i64 0, .int .i64 0] 27)).drew.setRow w2.heap.size #[.int .i64 k, .int .i64 ((N : Int) % x0), .int .i64 ((N : Int) % x1), .int .i64 N, .int .i64 (1 + (N : Int) % 255)] := ⟨_, rfl⟩
  rw [← hw3]
  have b3 : Below w2.heap.size w2 w3 := by rw [hw3]; exact below_setRow (below_alloc (Below.refl _ _) _).drew (Nat.le_refl _) _
  have X3 : Has w3 w2.heap.size (.cells #[.int .i64 k, .int .i64 ((N : Int) % x0), .int .i64 ((N : Int) % x1), .int .i64 N, .int .i64 (1 + (N : Int) % 255)] 27) := by rw [hw3]; exact ⟨by simp, setRow_heap _ _ _ _ _ _ hz⟩
  replace X2 := hide (X2.below b3)
  replace X3 := hide X3
  have B3 := hide (below_of (unhide B2) b3)
  have LT := hide (Nat.lt_of_lt_of_le lg (Nat.le_refl _))
  clear hw3 b3 c0 c1 d0 d1 a0 a1 lg B2 hz ne nz0 nz1 t0 t1 t2 u2
  obtain ⟨nb, hnb⟩ : ∃ z : Bool, z = decide (2 ≤ k ∧ k ≤ 5) := ⟨_, rfl⟩
  replace hnb := hide hnb
  go_upto_region 4 with fail
  go_cut [9] from 40 to 45 (fun v9 wc => v9 = .bool nb ∧ wc = w3)
  case first =>
    as_aux_lemma =>
      by_cases h1 : 2 ≤ k
      · by_cases h2 : k ≤ 5
        · have e2 : decide (k ≤ 5) = true := decide_eq_true h2
          go_wp2
          go_meet
          exact ⟨by rw [unhide hnb, decide_eq_true (by omega)], rfl⟩
        · have e2 : decide (k ≤ 5) = false := decide_eq_false h2
          go_wp2
          go_meet
          exact ⟨by rw [unhide hnb, decide_eq_false (by omega)], rfl⟩
      · go_wp2
        go_meet
        exact ⟨by rw [unhide hnb, decide_eq_false (by omega)], rfl⟩
  case rest =>
    obtain ⟨rfl, hw⟩ := hcut
    obtain rfl := hw.symm
    go_upto_region 5 with fail
    go_cut [10, 11, 12, 13] from 46 to 49 (fun v10 v11 v12 v13 wc => ∃ g0 g1 g2 g3 : Nat, v10 = .pointer (some ⟨g0, 0, none⟩) ∧ v11 = .pointer (some ⟨g1, 0, none⟩) ∧ v12 = .pointer (some ⟨g2, 0, none⟩) ∧ v13 = .pointer (some ⟨g3, 0, none⟩) ∧ Four w3 wc g0 g1 g2 g3 (.cells #[.int .i64 k, .int .i64 ((N : Int) % x0), .int .i64 ((N : Int) % x1), .int .i64 N, .int .i64 (1 + (N : Int) % 255)] 27))
    case first =>
      as_aux_lemma =>
        have O5 := five_one k ((N : Int) % x0) ((N : Int) % x1) N (1 + (N : Int) % 255)
        refine wa_start (fun w' => Has w' w2.heap.size (.cells #[.int .i64 k, .int .i64 ((N : Int) % x0), .int .i64 ((N : Int) % x1), .int .i64 N, .int .i64 (1 + (N : Int) % 255)] 27)) ((unhide X3).drew) ?_
        obtain ⟨W0, hW0⟩ : ∃ z, z = w3.drew := ⟨_, rfl⟩
        rw [← hW0]
        have hs : Has W0 w2.heap.size (.cells #[.int .i64 k, .int .i64 ((N : Int) % x0), .int .i64 ((N : Int) % x1), .int .i64 N, .int .i64 (1 + (N : Int) % 255)] 27) := by rw [hW0]; exact (unhide X3).drew
        have bw0 : Below w3.heap.size w3 W0 := by rw [hW0]; exact (Below.refl _ _).drew
        have SW0 := hide (show W0.heap.size = w3.heap.size by rw [hW0]; rfl)
        obtain ⟨W4, hW4⟩ : ∃ z, z = ((((W0.alloc (.cells #[.int .i64 0, .int .i64 0, .int .i64 0, .int .i64 0, .int .i64 0] 27)).alloc (.cells #[.int .i64 0, .int .i64 0, .int .i64 0, .int .i64 0, .int .i64 0] 27)).alloc (.cells #[.int .i64 0, .int .i64 0, .int .i64 0, .int .i64 0, .int .i64 0] 27)).alloc (.cells #[.int .i64 0, .int .i64 0, .int .i64 0, .int .i64 0, .int .i64 0] 27)) := ⟨_, rfl⟩
        have z3 : Has W4 (W0.heap.size + 1 + 1 + 1) (.cells #[.int .i64 0, .int .i64 0, .int .i64 0, .int .i64 0, .int .i64 0] 27) := by rw [hW4]; have := Has.new (((W0.alloc (.cells #[.int .i64 0, .int .i64 0, .int .i64 0, .int .i64 0, .int .i64 0] 27)).alloc (.cells #[.int .i64 0, .int .i64 0, .int .i64 0, .int .i64 0, .int .i64 0] 27)).alloc (.cells #[.int .i64 0, .int .i64 0, .int .i64 0, .int .i64 0, .int .i64 0] 27)) (.cells #[.int .i64 0, .int .i64 0, .int .i64 0, .int .i64 0, .int .i64 0] 27); simpa using this
        have z2 : Has W4 (W0.heap.size + 1 + 1) (.cells #[.int .i64 0, .int .i64 0, .int .i64 0, .int .i64 0, .int .i64 0] 27) := by rw [hW4]; have := (Has.new ((W0.alloc (.cells #[.int .i64 0, .int .i64 0, .int .i64 0, .int .i64 0, .int .i64 0] 27)).alloc (.cells #[.int .i64 0, .int .i64 0, .int .i64 0, .int .i64 0, .int .i64 0] 27)) (.cells #[.int .i64 0, .int .i64 0, .int .i64 0, .int .i64 0, .int .i64 0] 27)).alloc (.cells #[.int .i64 0, .int .i64 0, .int .i64 0, .int .i64 0, .int .i64 0] 27); simpa using this
        have z1 : Has W4 (W0.heap.size + 1) (.cells #[.int .i64 0, .int .i64 0, .int .i64 0, .int .i64 0, .int .i64 0] 27) := by rw [hW4]; have := ((Has.new (W0.alloc (.cells #[.int .i64 0, .int .i64 0, .int .i64 0, .int .i64 0, .int .i64 0] 27)) (.cells #[.int .i64 0, .int .i64 0, .int .i64 0, .int .i64 0, .int .i64 0] 27)).alloc (.cells #[.int .i64 0, .int .i64 0, .int .i64 0, .int .i64 0, .int .i64 0] 27)).alloc (.cells #[.int .i64 0, .int .i64 0, .int .i64 0, .int .i64 0, .int .i64 0] 27); simpa using this
        have z0 : Has W4 W0.heap.size (.cells #[.int .i64 0, .int .i64 0, .int .i64 0, .int .i64 0, .int .i64 0] 27) := by rw [hW4]; exact (((Has.new W0 (.cells #[.int .i64 0, .int .i64 0, .int .i64 0, .int .i64 0, .int .i64 0] 27)).alloc (.cells #[.int .i64 0, .int .i64 0, .int .i64 0, .int .i64 0, .int .i64 0] 27)).alloc (.cells #[.int .i64 0, .int .i64 0, .int .i64 0, .int .i64 0, .int .i64 0] 27)).alloc (.cells #[.int .i64 0, .int .i64 0, .int .i64 0, .int .i64 0, .int .i64 0] 27)
        have hs4 : Has W4 w2.heap.size (.cells #[.int .i64 k, .int .i64 ((N : Int) % x0), .int .i64 ((N : Int) % x1), .int .i64 N, .int .i64 (1 + (N : Int) % 255)] 27) := by rw [hW4]; exact (((hs.alloc _).alloc _).alloc _).alloc _
        have bw4 : Below w3.heap.size w3 W4 := by rw [hW4]; exact below_alloc (below_alloc (below_alloc (below_alloc bw0 _) _) _) _
        have lt0 := hs.1
        clear hW0
        refine wa_take (v := (.agg #[.int .i64 k, .int .i64 ((N : Int) % x0), .int .i64 ((N : Int) % x1), .int .i64 N, .int .i64 (1 + (N : Int) % 255)])) 0 rfl (by kernel_rfl) (by kernel_rfl) (by kernel_rfl) (fun _ _ _ h => h) (by kernel_rfl) (fun w hSw => ?_) hs ?_
        · exact run_row rfl rfl hSw Tryd.underlying27 info27
        try simp only [Act.put, List.setIfInBounds_toArray, List.set_cons_zero, List.set_cons_succ]
        refine wa_take (v := (.agg #[.int .i64 k, .int .i64 ((N : Int) % x0), .int .i64 ((N : Int) % x1), .int .i64 N, .int .i64 (1 + (N : Int) % 255)])) 1 rfl (by kernel_rfl) (by kernel_rfl) (by kernel_rfl) (fun _ _ _ h => h) (by kernel_rfl) (fun w hSw => ?_) hs ?_
        · exact run_row rfl rfl hSw Tryd.underlying27 info27
        try simp only [Act.put, List.setIfInBounds_toArray, List.set_cons_zero, List.set_cons_succ]
        refine wa_take (v := (.agg #[.int .i64 k, .int .i64 ((N : Int) % x0), .int .i64 ((N : Int) % x1), .int .i64 N, .int .i64 (1 + (N : Int) % 255)])) 2 rfl (by kernel_rfl) (by kernel_rfl) (by kernel_rfl) (fun _ _ _ h => h) (by kernel_rfl) (fun w hSw => ?_) hs ?_
        · exact run_row rfl rfl hSw Tryd.underlying27 info27
        try simp only [Act.put, List.setIfInBounds_toArray, List.set_cons_zero, List.set_cons_succ]
        refine wa_take (v := (.agg #[.int .i64 k, .int .i64 ((N : Int) % x0), .int .i64 ((N : Int) % x1), .int .i64 N, .int .i64 (1 + (N : Int) % 255)])) 3 rfl (by kernel_rfl) (by kernel_rfl) (by kernel_rfl) (fun _ _ _ h => h) (by kernel_rfl) (fun w hSw => ?_) hs ?_
        · exact run_row rfl rfl hSw Tryd.underlying27 info27
        try simp only [Act.put, List.setIfInBounds_toArray, List.set_cons_zero, List.set_cons_succ]
        refine wa_four 4 5 6 7 (by kernel_rfl) rfl rfl rfl rfl (by kernel_rfl) (by kernel_rfl) (by kernel_rfl) (by kernel_rfl) (fun Kc hK => ?_) (fun Kc hK => ?_) (fun Kc hK => ?_) (fun Kc hK => ?_)
        · go_simp
          refine hK.out _ _ (hs.alloc _) ?_
          clear hK Kc
          try simp only [Act.put, List.setIfInBounds_toArray, List.set_cons_zero, List.set_cons_succ]
          refine wa_three 5 6 7 (by kernel_rfl) rfl rfl rfl (by kernel_rfl) (by kernel_rfl) (by kernel_rfl) (fun Kc hK => ?_) (fun Kc hK => ?_) (fun Kc hK => ?_)
          · go_simp
            refine hK.out _ _ ((hs.alloc _).alloc _) ?_
            clear hK Kc
            try simp only [Act.put, List.setIfInBounds_toArray, List.set_cons_zero, List.set_cons_succ]
            refine wa_two 6 7 (by kernel_rfl) rfl rfl (by kernel_rfl) (by kernel_rfl) (fun Kc hK => ?_) (fun Kc hK => ?_)
            · go_simp
              refine hK.out _ _ (((hs.alloc _).alloc _).alloc _) ?_
              clear hK Kc
              try simp only [Act.put, List.setIfInBounds_toArray, List.set_cons_zero, List.set_cons_succ]
              refine wa_one 7 (by kernel_rfl) rfl (by kernel_rfl) (fun Kc hK => ?_)
              go_simp
              refine hK.out _ _ ((((hs.alloc _).alloc _).alloc _).alloc _) ?_
              clear hK Kc
              try simp only [Act.put, List.setIfInBounds_toArray, List.set_cons_zero, List.set_cons_succ]
              rw [← hW4]
              refine wa_one 8 (by kernel_rfl) rfl (by kernel_rfl) (fun Kc hK => ?_)
              refine wp_store_row 27 (.tmp 10) (.tmp 46) rfl (W0.heap.size) #[.int .i64 k, .int .i64 ((N : Int) % x0), .int .i64 ((N : Int) % x1), .int .i64 N, .int .i64 (1 + (N : Int) % 255)] rfl rfl 27 _ z0.2 info27 rfl O5 ?_
              refine hK.out _ _ (hs4.set (by omega) _) ?_
              clear hK Kc
              try simp only [Act.put]
              refine wa_one 9 (by kernel_rfl) rfl (by kernel_rfl) (fun Kc hK => ?_)
              refine wp_store_row 27 (.tmp 11) (.tmp 47) rfl (W0.heap.size + 1) #[.int .i64 k, .int .i64 ((N : Int) % x0), .int .i64 ((N : Int) % x1), .int .i64 N, .int .i64 (1 + (N : Int) % 255)] rfl rfl 27 _ (z1.set (by omega) _).2 info27 rfl O5 ?_
              refine hK.out _ _ ((hs4.set (by omega) _).set (by omega) _) ?_
              clear hK Kc
              try simp only [Act.put]
              refine wa_one 10 (by kernel_rfl) rfl (by kernel_rfl) (fun Kc hK => ?_)
              refine wp_store_row 27 (.tmp 12) (.tmp 48) rfl (W0.heap.size + 1 + 1) #[.int .i64 k, .int .i64 ((N : Int) % x0), .int .i64 ((N : Int) % x1), .int .i64 N, .int .i64 (1 + (N : Int) % 255)] rfl rfl 27 _ ((z2.set (by omega) _).set (by omega) _).2 info27 rfl O5 ?_
              refine hK.out _ _ (((hs4.set (by omega) _).set (by omega) _).set (by omega) _) ?_
              clear hK Kc
              try simp only [Act.put]
              refine wa_one 11 (by kernel_rfl) rfl (by kernel_rfl) (fun Kc hK => ?_)
              refine wp_store_row 27 (.tmp 13) (.tmp 49) rfl (W0.heap.size + 1 + 1 + 1) #[.int .i64 k, .int .i64 ((N : Int) % x0), .int .i64 ((N : Int) % x1), .int .i64 N, .int .i64 (1 + (N : Int) % 255)] rfl rfl 27 _ (((z3.set (by omega) _).set (by omega) _).set (by omega) _).2 info27 rfl O5 ?_
              refine hK.out _ _ ((((hs4.set (by omega) _).set (by omega) _).set (by omega) _).set (by omega) _) ?_
              clear hK Kc
              try simp only [Act.put]
              obtain ⟨V, hV⟩ : ∃ z, z = ((((W4.setRow (W0.heap.size) #[.int .i64 k, .int .i64 ((N : Int) % x0), .int .i64 ((N : Int) % x1), .int .i64 N, .int .i64 (1 + (N : Int) % 255)]).setRow (W0.heap.size + 1) #[.int .i64 k, .int .i64 ((N : Int) % x0), .int .i64 ((N : Int) % x1), .int .i64 N, .int .i64 (1 + (N : Int) % 255)]).setRow (W0.heap.size + 1 + 1) #[.int .i64 k, .int .i64 ((N : Int) % x0), .int .i64 ((N : Int) % x1), .int .i64 N, .int .i64 (1 + (N : Int) % 255)]).setRow (W0.heap.size + 1 + 1 + 1) #[.int .i64 k, .int .i64 ((N : Int) % x0), .int .i64 ((N : Int) % x1), .int .i64 N, .int .i64 (1 + (N : Int) % 255)]) := ⟨_, rfl⟩
              rw [← hV]
              have R := hide (show Four w3 V (W0.heap.size) (W0.heap.size + 1) (W0.heap.size + 1 + 1) (W0.heap.size + 1 + 1 + 1) (.cells #[.int .i64 k, .int .i64 ((N : Int) % x0), .int .i64 ((N : Int) % x1), .int .i64 N, .int .i64 (1 + (N : Int) % 255)] 27) from by
                have sw0 := unhide SW0
                rw [hV]
                exact ⟨⟨((((z0.same _).set (by omega) _).set (by omega) _).set (by omega) _), ((((z1.set (by omega) _).same _).set (by omega) _).set (by omega) _), ((((z2.set (by omega) _).set (by omega) _).same _).set (by omega) _), ((((z3.set (by omega) _).set (by omega) _).set (by omega) _).same _)⟩, ⟨by omega, by omega, by omega, by omega⟩, ⟨by omega, by omega, by omega, by omega, by omega, by omega⟩, (below_setRow (below_setRow (below_setRow (below_setRow bw4 (by omega) _) (by omega) _) (by omega) _) (by omega) _)⟩)
              clear hV z0 z1 z2 z3 hs4 bw4 hW4 O5 hs bw0
              refine wa_done (by kernel_rfl) ?_
              go_wp2
              go_meet
              exact ⟨_, _, _, _, rfl, rfl, rfl, rfl, unhide R⟩
            · go_simp
              refine hK.out _ _ (((hs.alloc _).alloc _).alloc _) ?_
              clear hK Kc
              try simp only [Act.put, List.setIfInBounds_toArray, List.set_cons_zero, List.set_cons_succ]
              refine wa_one 6 (by kernel_rfl) rfl (by kernel_rfl) (fun Kc hK => ?_)
              go_simp
              refine hK.out _ _ ((((hs.alloc _).alloc _).alloc _).alloc _) ?_
              clear hK Kc
              try simp only [Act.put, List.setIfInBounds_toArray, List.set_cons_zero, List.set_cons_succ]
              rw [← hW4]
              refine wa_one 8 (by kernel_rfl) rfl (by kernel_rfl) (fun Kc hK => ?_)
              refine wp_store_row 27 (.tmp 10) (.tmp 46) rfl (W0.heap.size) #[.int .i64 k, .int .i64 ((N : Int) % x0), .int .i64 ((N : Int) % x1), .int .i64 N, .int .i64 (1 + (N : Int) % 255)] rfl rfl 27 _ z0.2 info27 rfl O5 ?_
              refine hK.out _ _ (hs4.set (by omega) _) ?_
              clear hK Kc
              try simp only [Act.put]
              refine wa_one 9 (by kernel_rfl) rfl (by kernel_rfl) (fun Kc hK => ?_)
              refine wp_store_row 27 (.tmp 11) (.tmp 47) rfl (W0.heap.size + 1) #[.int .i64 k, .int .i64 ((N : Int) % x0), .int .i64 ((N : Int) % x1), .int .i64 N, .int .i64 (1 + (N : Int) % 255)] rfl rfl 27 _ (z1.set (by omega) _).2 info27 rfl O5 ?_
              refine hK.out _ _ ((hs4.set (by omega) _).set (by omega) _) ?_
              clear hK Kc
              try simp only [Act.put]
              refine wa_one 10 (by kernel_rfl) rfl (by kernel_rfl) (fun Kc hK => ?_)
              refine wp_store_row 27 (.tmp 12) (.tmp 48) rfl (W0.heap.size + 1 + 1 + 1) #[.int .i64 k, .int .i64 ((N : Int) % x0), .int .i64 ((N : Int) % x1), .int .i64 N, .int .i64 (1 + (N : Int) % 255)] rfl rfl 27 _ ((z3.set (by omega) _).set (by omega) _).2 info27 rfl O5 ?_
              refine hK.out _ _ (((hs4.set (by omega) _).set (by omega) _).set (by omega) _) ?_
              clear hK Kc
              try simp only [Act.put]
              refine wa_one 11 (by kernel_rfl) rfl (by kernel_rfl) (fun Kc hK => ?_)
              refine wp_store_row 27 (.tmp 13) (.tmp 49) rfl (W0.heap.size + 1 + 1) #[.int .i64 k, .int .i64 ((N : Int) % x0), .int .i64 ((N : Int) % x1), .int .i64 N, .int .i64 (1 + (N : Int) % 255)] rfl rfl 27 _ (((z2.set (by omega) _).set (by omega) _).set (by omega) _).2 info27 rfl O5 ?_
              refine hK.out _ _ ((((hs4.set (by omega) _).set (by omega) _).set (by omega) _).set (by omega) _) ?_
              clear hK Kc
              try simp only [Act.put]
              obtain ⟨V, hV⟩ : ∃ z, z = ((((W4.setRow (W0.heap.size) #[.int .i64 k, .int .i64 ((N : Int) % x0), .int .i64 ((N : Int) % x1), .int .i64 N, .int .i64 (1 + (N : Int) % 255)]).setRow (W0.heap.size + 1) #[.int .i64 k, .int .i64 ((N : Int) % x0), .int .i64 ((N : Int) % x1), .int .i64 N, .int .i64 (1 + (N : Int) % 255)]).setRow (W0.heap.size + 1 + 1 + 1) #[.int .i64 k, .int .i64 ((N : Int) % x0), .int .i64 ((N : Int) % x1), .int .i64 N, .int .i64 (1 + (N : Int) % 255)]).setRow (W0.heap.size + 1 + 1) #[.int .i64 k, .int .i64 ((N : Int) % x0), .int .i64 ((N : Int) % x1), .int .i64 N, .int .i64 (1 + (N : Int) % 255)]) := ⟨_, rfl⟩
              rw [← hV]
              have R := hide (show Four w3 V (W0.heap.size) (W0.heap.size + 1) (W0.heap.size + 1 + 1 + 1) (W0.heap.size + 1 + 1) (.cells #[.int .i64 k, .int .i64 ((N : Int) % x0), .int .i64 ((N : Int) % x1), .int .i64 N, .int .i64 (1 + (N : Int) % 255)] 27) from by
                have sw0 := unhide SW0
                rw [hV]
                exact ⟨⟨((((z0.same _).set (by omega) _).set (by omega) _).set (by omega) _), ((((z1.set (by omega) _).same _).set (by omega) _).set (by omega) _), ((((z3.set (by omega) _).set (by omega) _).same _).set (by omega) _), ((((z2.set (by omega) _).set (by omega) _).set (by omega) _).same _)⟩, ⟨by omega, by omega, by omega, by omega⟩, ⟨by omega, by omega, by omega, by omega, by omega, by omega⟩, (below_setRow (below_setRow (below_setRow (below_setRow bw4 (by omega) _) (by omega) _) (by omega) _) (by omega) _)⟩)
              clear hV z0 z1 z2 z3 hs4 bw4 hW4 O5 hs bw0
              refine wa_done (by kernel_rfl) ?_
              go_wp2
              go_meet
              exact ⟨_, _, _, _, rfl, rfl, rfl, rfl, unhide R⟩
          · go_simp
            refine hK.out _ _ ((hs.alloc _).alloc _) ?_
            clear hK Kc
            try simp only [Act.put, List.setIfInBounds_toArray, List.set_cons_zero, List.set_cons_succ]
            refine wa_two 5 7 (by kernel_rfl) rfl rfl (by kernel_rfl) (by kernel_rfl) (fun Kc hK => ?_) (fun Kc hK => ?_)
            · go_simp
              refine hK.out _ _ (((hs.alloc _).alloc _).alloc _) ?_
              clear hK Kc
              try simp only [Act.put, List.setIfInBounds_toArray, List.set_cons_zero, List.set_cons_succ]
              refine wa_one 7 (by kernel_rfl) rfl (by kernel_rfl) (fun Kc hK => ?_)
              go_simp
              refine hK.out _ _ ((((hs.alloc _).alloc _).alloc _).alloc _) ?_
              clear hK Kc
              try simp only [Act.put, List.setIfInBounds_toArray, List.set_cons_zero, List.set_cons_succ]
              rw [← hW4]
              refine wa_one 8 (by kernel_rfl) rfl (by kernel_rfl) (fun Kc hK => ?_)
              refine wp_store_row 27 (.tmp 10) (.tmp 46) rfl (W0.heap.size) #[.int .i64 k, .int .i64 ((N : Int) % x0), .int .i64 ((N : Int) % x1), .int .i64 N, .int .i64 (1 + (N : Int) % 255)] rfl rfl 27 _ z0.2 info27 rfl O5 ?_
              refine hK.out _ _ (hs4.set (by omega) _) ?_
              clear hK Kc
              try simp only [Act.put]
              refine wa_one 9 (by kernel_rfl) rfl (by kernel_rfl) (fun Kc hK => ?_)
              refine wp_store_row 27 (.tmp 11) (.tmp 47) rfl (W0.heap.size + 1 + 1) #[.int .i64 k, .int .i64 ((N : Int) % x0), .int .i64 ((N : Int) % x1), .int .i64 N, .int .i64 (1 + (N : Int) % 255)] rfl rfl 27 _ (z2.set (by omega) _).2 info27 rfl O5 ?_
              refine hK.out _ _ ((hs4.set (by omega) _).set (by omega) _) ?_
              clear hK Kc
              try simp only [Act.put]
              refine wa_one 10 (by kernel_rfl) rfl (by kernel_rfl) (fun Kc hK => ?_)
              refine wp_store_row 27 (.tmp 12) (.tmp 48) rfl (W0.heap.size + 1) #[.int .i64 k, .int .i64 ((N : Int) % x0), .int .i64 ((N : Int) % x1), .int .i64 N, .int .i64 (1 + (N : Int) % 255)] rfl rfl 27 _ ((z1.set (by omega) _).set (by omega) _).2 info27 rfl O5 ?_
              refine hK.out _ _ (((hs4.set (by omega) _).set (by omega) _).set (by omega) _) ?_
              clear hK Kc
              try simp only [Act.put]
              refine wa_one 11 (by kernel_rfl) rfl (by kernel_rfl) (fun Kc hK => ?_)
              refine wp_store_row 27 (.tmp 13) (.tmp 49) rfl (W0.heap.size + 1 + 1 + 1) #[.int .i64 k, .int .i64 ((N : Int) % x0), .int .i64 ((N : Int) % x1), .int .i64 N, .int .i64 (1 + (N : Int) % 255)] rfl rfl 27 _ (((z3.set (by omega) _).set (by omega) _).set (by omega) _).2 info27 rfl O5 ?_
              refine hK.out _ _ ((((hs4.set (by omega) _).set (by omega) _).set (by omega) _).set (by omega) _) ?_
              clear hK Kc
              try simp only [Act.put]
              obtain ⟨V, hV⟩ : ∃ z, z = ((((W4.setRow (W0.heap.size) #[.int .i64 k, .int .i64 ((N : Int) % x0), .int .i64 ((N : Int) % x1), .int .i64 N, .int .i64 (1 + (N : Int) % 255)]).setRow (W0.heap.size + 1 + 1) #[.int .i64 k, .int .i64 ((N : Int) % x0), .int .i64 ((N : Int) % x1), .int .i64 N, .int .i64 (1 + (N : Int) % 255)]).setRow (W0.heap.size + 1) #[.int .i64 k, .int .i64 ((N : Int) % x0), .int .i64 ((N : Int) % x1), .int .i64 N, .int .i64 (1 + (N : Int) % 255)]).setRow (W0.heap.size + 1 + 1 + 1) #[.int .i64 k, .int .i64 ((N : Int) % x0), .int .i64 ((N : Int) % x1), .int .i64 N, .int .i64 (1 + (N : Int) % 255)]) := ⟨_, rfl⟩
              rw [← hV]
              have R := hide (show Four w3 V (W0.heap.size) (W0.heap.size + 1 + 1) (W0.heap.size + 1) (W0.heap.size + 1 + 1 + 1) (.cells #[.int .i64 k, .int .i64 ((N : Int) % x0), .int .i64 ((N : Int) % x1), .int .i64 N, .int .i64 (1 + (N : Int) % 255)] 27) from by
                have sw0 := unhide SW0
                rw [hV]
                exact ⟨⟨((((z0.same _).set (by omega) _).set (by omega) _).set (by omega) _), ((((z2.set (by omega) _).same _).set (by omega) _).set (by omega) _), ((((z1.set (by omega) _).set (by omega) _).same _).set (by omega) _), ((((z3.set (by omega) _).set (by omega) _).set (by omega) _).same _)⟩, ⟨by omega, by omega, by omega, by omega⟩, ⟨by omega, by omega, by omega, by omega, by omega, by omega⟩, (below_setRow (below_setRow (below_setRow (below_setRow bw4 (by omega) _) (by omega) _) (by omega) _) (by omega) _)⟩)
              clear hV z0 z1 z2 z3 hs4 bw4 hW4 O5 hs bw0
              refine wa_done (by kernel_rfl) ?_
              go_wp2
              go_meet
              exact ⟨_, _, _, _, rfl, rfl, rfl, rfl, unhide R⟩
            · go_simp
              refine hK.out _ _ (((hs.alloc _).alloc _).alloc _) ?_
              clear hK Kc
              try simp only [Act.put, List.setIfInBounds_toArray, List.set_cons_zero, List.set_cons_succ]
              refine wa_one 5 (by kernel_rfl) rfl (by kernel_rfl) (fun Kc hK => ?_)
              go_simp
              refine hK.out _ _ ((((hs.alloc _).alloc _).alloc _).alloc _) ?_
              clear hK Kc
              try simp only [Act.put, List.setIfInBounds_toArray, List.set_cons_zero, List.set_cons_succ]
              rw [← hW4]
              refine wa_one 8 (by kernel_rfl) rfl (by kernel_rfl) (fun Kc hK => ?_)
              refine wp_store_row 27 (.tmp 10) (.tmp 46) rfl (W0.heap.size) #[.int .i64 k, .int .i64 ((N : Int) % x0), .int .i64 ((N : Int) % x1), .int .i64 N, .int .i64 (1 + (N : Int) % 255)] rfl rfl 27 _ z0.2 info27 rfl O5 ?_
              refine hK.out _ _ (hs4.set (by omega) _) ?_
              clear hK Kc
              try simp only [Act.put]
              refine wa_one 9 (by kernel_rfl) rfl (by kernel_rfl) (fun Kc hK => ?_)
              refine wp_store_row 27 (.tmp 11) (.tmp 47) rfl (W0.heap.size + 1 + 1 + 1) #[.int .i64 k, .int .i64 ((N : Int) % x0), .int .i64 ((N : Int) % x1), .int .i64 N, .int .i64 (1 + (N : Int) % 255)] rfl rfl 27 _ (z3.set (by omega) _).2 info27 rfl O5 ?_
              refine hK.out _ _ ((hs4.set (by omega) _).set (by omega) _) ?_
              clear hK Kc
              try simp only [Act.put]
              refine wa_one 10 (by kernel_rfl) rfl (by kernel_rfl) (fun Kc hK => ?_)
              refine wp_store_row 27 (.tmp 12) (.tmp 48) rfl (W0.heap.size + 1) #[.int .i64 k, .int .i64 ((N : Int) % x0), .int .i64 ((N : Int) % x1), .int .i64 N, .int .i64 (1 + (N : Int) % 255)] rfl rfl 27 _ ((z1.set (by omega) _).set (by omega) _).2 info27 rfl O5 ?_
              refine hK.out _ _ (((hs4.set (by omega) _).set (by omega) _).set (by omega) _) ?_
              clear hK Kc
              try simp only [Act.put]
              refine wa_one 11 (by kernel_rfl) rfl (by kernel_rfl) (fun Kc hK => ?_)
              refine wp_store_row 27 (.tmp 13) (.tmp 49) rfl (W0.heap.size + 1 + 1) #[.int .i64 k, .int .i64 ((N : Int) % x0), .int .i64 ((N : Int) % x1), .int .i64 N, .int .i64 (1 + (N : Int) % 255)] rfl rfl 27 _ (((z2.set (by omega) _).set (by omega) _).set (by omega) _).2 info27 rfl O5 ?_
              refine hK.out _ _ ((((hs4.set (by omega) _).set (by omega) _).set (by omega) _).set (by omega) _) ?_
              clear hK Kc
              try simp only [Act.put]
              obtain ⟨V, hV⟩ : ∃ z, z = ((((W4.setRow (W0.heap.size) #[.int .i64 k, .int .i64 ((N : Int) % x0), .int .i64 ((N : Int) % x1), .int .i64 N, .int .i64 (1 + (N : Int) % 255)]).setRow (W0.heap.size + 1 + 1 + 1) #[.int .i64 k, .int .i64 ((N : Int) % x0), .int .i64 ((N : Int) % x1), .int .i64 N, .int .i64 (1 + (N : Int) % 255)]).setRow (W0.heap.size + 1) #[.int .i64 k, .int .i64 ((N : Int) % x0), .int .i64 ((N : Int) % x1), .int .i64 N, .int .i64 (1 + (N : Int) % 255)]).setRow (W0.heap.size + 1 + 1) #[.int .i64 k, .int .i64 ((N : Int) % x0), .int .i64 ((N : Int) % x1), .int .i64 N, .int .i64 (1 + (N : Int) % 255)]) := ⟨_, rfl⟩
              rw [← hV]
              have R := hide (show Four w3 V (W0.heap.size) (W0.heap.size + 1 + 1 + 1) (W0.heap.size + 1) (W0.heap.size + 1 + 1) (.cells #[.int .i64 k, .int .i64 ((N : Int) % x0), .int .i64 ((N : Int) % x1), .int .i64 N, .int .i64 (1 + (N : Int) % 255)] 27) from by
                have sw0 := unhide SW0
                rw [hV]
                exact ⟨⟨((((z0.same _).set (by omega) _).set (by omega) _).set (by omega) _), ((((z3.set (by omega) _).same _).set (by omega) _).set (by omega) _), ((((z1.set (by omega) _).set (by omega) _).same _).set (by omega) _), ((((z2.set (by omega) _).set (by omega) _).set (by omega) _).same _)⟩, ⟨by omega, by omega, by omega, by omega⟩, ⟨by omega, by omega, by omega, by omega, by omega, by omega⟩, (below_setRow (below_setRow (below_setRow (below_setRow bw4 (by omega) _) (by omega) _) (by omega) _) (by omega) _)⟩)
              clear hV z0 z1 z2 z3 hs4 bw4 hW4 O5 hs bw0
              refine wa_done (by kernel_rfl) ?_
              go_wp2
              go_meet
              exact ⟨_, _, _, _, rfl, rfl, rfl, rfl, unhide R⟩
          · go_simp
            refine hK.out _ _ ((hs.alloc _).alloc _) ?_
            clear hK Kc
            try simp only [Act.put, List.setIfInBounds_toArray, List.set_cons_zero, List.set_cons_succ]
            refine wa_two 5 6 (by kernel_rfl) rfl rfl (by kernel_rfl) (by kernel_rfl) (fun Kc hK => ?_) (fun Kc hK => ?_)
            · go_simp
              refine hK.out _ _ (((hs.alloc _).alloc _).alloc _) ?_
              clear hK Kc
              try simp only [Act.put, List.setIfInBounds_toArray, List.set_cons_zero, List.set_cons_succ]
              refine wa_one 6 (by kernel_rfl) rfl (by kernel_rfl) (fun Kc hK => ?_)
              go_simp
              refine hK.out _ _ ((((hs.alloc _).alloc _).alloc _).alloc _) ?_
              clear hK Kc
              try simp only [Act.put, List.setIfInBounds_toArray, List.set_cons_zero, List.set_cons_succ]
              rw [← hW4]
              refine wa_one 8 (by kernel_rfl) rfl (by kernel_rfl) (fun Kc hK => ?_)
              refine wp_store_row 27 (.tmp 10) (.tmp 46) rfl (W0.heap.size) #[.int .i64 k, .int .i64 ((N : Int) % x0), .int .i64 ((N : Int) % x1), .int .i64 N, .int .i64 (1 + (N : Int) % 255)] rfl rfl 27 _ z0.2 info27 rfl O5 ?_
              refine hK.out _ _ (hs4.set (by omega) _) ?_
              clear hK Kc
              try simp only [Act.put]
              refine wa_one 9 (by kernel_rfl) rfl (by kernel_rfl) (fun Kc hK => ?_)
              refine wp_store_row 27 (.tmp 11) (.tmp 47) rfl (W0.heap.size + 1 + 1) #[.int .i64 k, .int .i64 ((N : Int) % x0), .int .i64 ((N : Int) % x1), .int .i64 N, .int .i64 (1 + (N : Int) % 255)] rfl rfl 27 _ (z2.set (by omega) _).2 info27 rfl O5 ?_
              refine hK.out _ _ ((hs4.set (by omega) _).set (by omega) _) ?_
              clear hK Kc
              try simp only [Act.put]
              refine wa_one 10 (by kernel_rfl) rfl (by kernel_rfl) (fun Kc hK => ?_)
              refine wp_store_row 27 (.tmp 12) (.tmp 48) rfl (W0.heap.size + 1 + 1 + 1) #[.int .i64 k, .int .i64 ((N : Int) % x0), .int .i64 ((N : Int) % x1), .int .i64 N, .int .i64 (1 + (N : Int) % 255)] rfl rfl 27 _ ((z3.set (by omega) _).set (by omega) _).2 info27 rfl O5 ?_
              refine hK.out _ _ (((hs4.set (by omega) _).set (by omega) _).set (by omega) _) ?_
              clear hK Kc
              try simp only [Act.put]
              refine wa_one 11 (by kernel_rfl) rfl (by kernel_rfl) (fun Kc hK => ?_)
              refine wp_store_row 27 (.tmp 13) (.tmp 49) rfl (W0.heap.size + 1) #[.int .i64 k, .int .i64 ((N : Int) % x0), .int .i64 ((N : Int) % x1), .int .i64 N, .int .i64 (1 + (N : Int) % 255)] rfl rfl 27 _ (((z1.set (by omega) _).set (by omega) _).set (by omega) _).2 info27 rfl O5 ?_
              refine hK.out _ _ ((((hs4.set (by omega) _).set (by omega) _).set (by omega) _).set (by omega) _) ?_
              clear hK Kc
              try simp only [Act.put]
              obtain ⟨V, hV⟩ : ∃ z, z = ((((W4.setRow (W0.heap.size) #[.int .i64 k, .int .i64 ((N : Int) % x0), .int .i64 ((N : Int) % x1), .int .i64 N, .int .i64 (1 + (N : Int) % 255)]).setRow (W0.heap.size + 1 + 1) #[.int .i64 k, .int .i64 ((N : Int) % x0), .int .i64 ((N : Int) % x1), .int .i64 N, .int .i64 (1 + (N : Int) % 255)]).setRow (W0.heap.size + 1 + 1 + 1) #[.int .i64 k, .int .i64 ((N : Int) % x0), .int .i64 ((N : Int) % x1), .int .i64 N, .int .i64 (1 + (N : Int) % 255)]).setRow (W0.heap.size + 1) #[.int .i64 k, .int .i64 ((N : Int) % x0), .int .i64 ((N : Int) % x1), .int .i64 N, .int .i64 (1 + (N : Int) % 255)]) := ⟨_, rfl⟩
              rw [← hV]
              have R := hide (show Four w3 V (W0.heap.size) (W0.heap.size + 1 + 1) (W0.heap.size + 1 + 1 + 1) (W0.heap.size + 1) (.cells #[.int .i64 k, .int .i64 ((N : Int) % x0), .int .i64 ((N : Int) % x1), .int .i64 N, .int .i64 (1 + (N : Int) % 255)] 27) from by
                have sw0 := unhide SW0
                rw [hV]
                exact ⟨⟨((((z0.same _).set (by omega) _).set (by omega) _).set (by omega) _), ((((z2.set (by omega) _).same _).set (by omega) _).set (by omega) _), ((((z3.set (by omega) _).set (by omega) _).same _).set (by omega) _), ((((z1.set (by omega) _).set (by omega) _).set (by omega) _).same _)⟩, ⟨by omega, by omega, by omega, by omega⟩, ⟨by omega, by omega, by omega, by omega, by omega, by omega⟩, (below_setRow (below_setRow (below_setRow (below_setRow bw4 (by omega) _) (by omega) _) (by omega) _) (by omega) _)⟩)
              clear hV z0 z1 z2 z3 hs4 bw4 hW4 O5 hs bw0
              refine wa_done (by kernel_rfl) ?_
              go_wp2
              go_meet
              exact ⟨_, _, _, _, rfl, rfl, rfl, rfl, unhide R⟩
            · go_simp
              refine hK.out _ _ (((hs.alloc _).alloc _).alloc _) ?_
              clear hK Kc
              try simp only [Act.put, List.setIfInBounds_toArray, List.set_cons_zero, List.set_cons_succ]
              refine wa_one 5 (by kernel_rfl) rfl (by kernel_rfl) (fun Kc hK => ?_)
              go_simp
              refine hK.out _ _ ((((hs.alloc _).alloc _).alloc _).alloc _) ?_
              clear hK Kc
              try simp only [Act.put, List.setIfInBounds_toArray, List.set_cons_zero, List.set_cons_succ]
              rw [← hW4]
              refine wa_one 8 (by kernel_rfl) rfl (by kernel_rfl) (fun Kc hK => ?_)
              refine wp_store_row 27 (.tmp 10) (.tmp 46) rfl (W0.heap.size) #[.int .i64 k, .int .i64 ((N : Int) % x0), .int .i64 ((N : Int) % x1), .int .i64 N, .int .i64 (1 + (N : Int) % 255)] rfl rfl 27 _ z0.2 info27 rfl O5 ?_
              refine hK.out _ _ (hs4.set (by omega) _) ?_
              clear hK Kc
              try simp only [Act.put]
              refine wa_one 9 (by kernel_rfl) rfl (by kernel_rfl) (fun Kc hK => ?_)
              refine wp_store_row 27 (.tmp 11) (.tmp 47) rfl (W0.heap.size + 1 + 1 + 1) #[.int .i64 k, .int .i64 ((N : Int) % x0), .int .i64 ((N : Int) % x1), .int .i64 N, .int .i64 (1 + (N : Int) % 255)] rfl rfl 27 _ (z3.set (by omega) _).2 info27 rfl O5 ?_
              refine hK.out _ _ ((hs4.set (by omega) _).set (by omega) _) ?_
              clear hK Kc
              try simp only [Act.put]
              refine wa_one 10 (by kernel_rfl) rfl (by kernel_rfl) (fun Kc hK => ?_)
              refine wp_store_row 27 (.tmp 12) (.tmp 48) rfl (W0.heap.size + 1 + 1) #[.int .i64 k, .int .i64 ((N : Int) % x0), .int .i64 ((N : Int) % x1), .int .i64 N, .int .i64 (1 + (N : Int) % 255)] rfl rfl 27 _ ((z2.set (by omega) _).set (by omega) _).2 info27 rfl O5 ?_
              refine hK.out _ _ (((hs4.set (by omega) _).set (by omega) _).set (by omega) _) ?_
              clear hK Kc
              try simp only [Act.put]
              refine wa_one 11 (by kernel_rfl) rfl (by kernel_rfl) (fun Kc hK => ?_)
              refine wp_store_row 27 (.tmp 13) (.tmp 49) rfl (W0.heap.size + 1) #[.int .i64 k, .int .i64 ((N : Int) % x0), .int .i64 ((N : Int) % x1), .int .i64 N, .int .i64 (1 + (N : Int) % 255)] rfl rfl 27 _ (((z1.set (by omega) _).set (by omega) _).set (by omega) _).2 info27 rfl O5 ?_
              refine hK.out _ _ ((((hs4.set (by omega) _).set (by omega) _).set (by omega) _).set (by omega) _) ?_
              clear hK Kc
              try simp only [Act.put]
              obtain ⟨V, hV⟩ : ∃ z, z = ((((W4.setRow (W0.heap.size) #[.int .i64 k, .int .i64 ((N : Int) % x0), .int .i64 ((N : Int) % x1), .int .i64 N, .int .i64 (1 + (N : Int) % 255)]).setRow (W0.heap.size + 1 + 1 + 1) #[.int .i64 k, .int .i64 ((N : Int) % x0), .int .i64 ((N : Int) % x1), .int .i64 N, .int .i64 (1 + (N : Int) % 255)]).setRow (W0.heap.size + 1 + 1) #[.int .i64 k, .int .i64 ((N : Int) % x0), .int .i64 ((N : Int) % x1), .int .i64 N, .int .i64 (1 + (N : Int) % 255)]).setRow (W0.heap.size + 1) #[.int .i64 k, .int .i64 ((N : Int) % x0), .int .i64 ((N : Int) % x1), .int .i64 N, .int .i64 (1 + (N : Int) % 255)]) := ⟨_, rfl⟩
              rw [← hV]
              have R := hide (show Four w3 V (W0.heap.size) (W0.heap.size + 1 + 1 + 1) (W0.heap.size + 1 + 1) (W0.heap.size + 1) (.cells #[.int .i64 k, .int .i64 ((N : Int) % x0), .int .i64 ((N : Int) % x1), .int .i64 N, .int .i64 (1 + (N : Int) % 255)] 27) from by
                have sw0 := unhide SW0
                rw [hV]
                exact ⟨⟨((((z0.same _).set (by omega) _).set (by omega) _).set (by omega) _), ((((z3.set (by omega) _).same _).set (by omega) _).set (by omega) _), ((((z2.set (by omega) _).set (by omega) _).same _).set (by omega) _), ((((z1.set (by omega) _).set (by omega) _).set (by omega) _).same _)⟩, ⟨by omega, by omega, by omega, by omega⟩, ⟨by omega, by omega, by omega, by omega, by omega, by omega⟩, (below_setRow (below_setRow (below_setRow (below_setRow bw4 (by omega) _) (by omega) _) (by omega) _) (by omega) _)⟩)
              clear hV z0 z1 z2 z3 hs4 bw4 hW4 O5 hs bw0
              refine wa_done (by kernel_rfl) ?_
              go_wp2
              go_meet
              exact ⟨_, _, _, _, rfl, rfl, rfl, rfl, unhide R⟩
        · go_simp
          refine hK.out _ _ (hs.alloc _) ?_
          clear hK Kc
          try simp only [Act.put, List.setIfInBounds_toArray, List.set_cons_zero, List.set_cons_succ]
          refine wa_three 4 6 7 (by kernel_rfl) rfl rfl rfl (by kernel_rfl) (by kernel_rfl) (by kernel_rfl) (fun Kc hK => ?_) (fun Kc hK => ?_) (fun Kc hK => ?_)
          · go_simp
            refine hK.out _ _ ((hs.alloc _).alloc _) ?_
            clear hK Kc
            try simp only [Act.put, List.setIfInBounds_toArray, List.set_cons_zero, List.set_cons_succ]
            refine wa_two 6 7 (by kernel_rfl) rfl rfl (by kernel_rfl) (by kernel_rfl) (fun Kc hK => ?_) (fun Kc hK => ?_)
            · go_simp
              refine hK.out _ _ (((hs.alloc _).alloc _).alloc _) ?_
              clear hK Kc
              try simp only [Act.put, List.setIfInBounds_toArray, List.set_cons_zero, List.set_cons_succ]
              refine wa_one 7 (by kernel_rfl) rfl (by kernel_rfl) (fun Kc hK => ?_)
              go_simp
              refine hK.out _ _ ((((hs.alloc _).alloc _).alloc _).alloc _) ?_
              clear hK Kc
              try simp only [Act.put, List.setIfInBounds_toArray, List.set_cons_zero, List.set_cons_succ]
              rw [← hW4]
              refine wa_one 8 (by kernel_rfl) rfl (by kernel_rfl) (fun Kc hK => ?_)
              refine wp_store_row 27 (.tmp 10) (.tmp 46) rfl (W0.heap.size + 1) #[.int .i64 k, .int .i64 ((N : Int) % x0), .int .i64 ((N : Int) % x1), .int .i64 N, .int .i64 (1 + (N : Int) % 255)] rfl rfl 27 _ z1.2 info27 rfl O5 ?_
              refine hK.out _ _ (hs4.set (by omega) _) ?_
              clear hK Kc
              try simp only [Act.put]
              refine wa_one 9 (by kernel_rfl) rfl (by kernel_rfl) (fun Kc hK => ?_)
              refine wp_store_row 27 (.tmp 11) (.tmp 47) rfl (W0.heap.size) #[.int .i64 k, .int .i64 ((N : Int) % x0), .int .i64 ((N : Int) % x1), .int .i64 N, .int .i64 (1 + (N : Int) % 255)] rfl rfl 27 _ (z0.set (by omega) _).2 info27 rfl O5 ?_
              refine hK.out _ _ ((hs4.set (by omega) _).set (by omega) _) ?_
              clear hK Kc
              try simp only [Act.put]
              refine wa_one 10 (by kernel_rfl) rfl (by kernel_rfl) (fun Kc hK => ?_)
              refine wp_store_row 27 (.tmp 12) (.tmp 48) rfl (W0.heap.size + 1 + 1) #[.int .i64 k, .int .i64 ((N : Int) % x0), .int .i64 ((N : Int) % x1), .int .i64 N, .int .i64 (1 + (N : Int) % 255)] rfl rfl 27 _ ((z2.set (by omega) _).set (by omega) _).2 info27 rfl O5 ?_
              refine hK.out _ _ (((hs4.set (by omega) _).set (by omega) _).set (by omega) _) ?_
              clear hK Kc
              try simp only [Act.put]
              refine wa_one 11 (by kernel_rfl) rfl (by kernel_rfl) (fun Kc hK => ?_)
              refine wp_store_row 27 (.tmp 13) (.tmp 49) rfl (W0.heap.size + 1 + 1 + 1) #[.int .i64 k, .int .i64 ((N : Int) % x0), .int .i64 ((N : Int) % x1), .int .i64 N, .int .i64 (1 + (N : Int) % 255)] rfl rfl 27 _ (((z3.set (by omega) _).set (by omega) _).set (by omega) _).2 info27 rfl O5 ?_
              refine hK.out _ _ ((((hs4.set (by omega) _).set (by omega) _).set (by omega) _).set (by omega) _) ?_
              clear hK Kc
              try simp only [Act.put]
              obtain ⟨V, hV⟩ : ∃ z, z = ((((W4.setRow (W0.heap.size + 1) #[.int .i64 k, .int .i64 ((N : Int) % x0), .int .i64 ((N : Int) % x1), .int .i64 N, .int .i64 (1 + (N : Int) % 255)]).setRow (W0.heap.size) #[.int .i64 k, .int .i64 ((N : Int) % x0), .int .i64 ((N : Int) % x1), .int .i64 N, .int .i64 (1 + (N : Int) % 255)]).setRow (W0.heap.size + 1 + 1) #[.int .i64 k, .int .i64 ((N : Int) % x0), .int .i64 ((N : Int) % x1), .int .i64 N, .int .i64 (1 + (N : Int) % 255)]).setRow (W0.heap.size + 1 + 1 + 1) #[.int .i64 k, .int .i64 ((N : Int) % x0), .int .i64 ((N : Int) % x1), .int .i64 N, .int .i64 (1 + (N : Int) % 255)]) := ⟨_, rfl⟩
              rw [← hV]
              have R := hide (show Four w3 V (W0.heap.size + 1) (W0.heap.size) (W0.heap.size + 1 + 1) (W0.heap.size + 1 + 1 + 1) (.cells #[.int .i64 k, .int .i64 ((N : Int) % x0), .int .i64 ((N : Int) % x1), .int .i64 N, .int .i64 (1 + (N : Int) % 255)] 27) from by
                have sw0 := unhide SW0
                rw [hV]
                exact ⟨⟨((((z1.same _).set (by omega) _).set (by omega) _).set (by omega) _), ((((z0.set (by omega) _).same _).set (by omega) _).set (by omega) _), ((((z2.set (by omega) _).set (by omega) _).same _).set (by omega) _), ((((z3.set (by omega) _).set (by omega) _).set (by omega) _).same _)⟩, ⟨by omega, by omega, by omega, by omega⟩, ⟨by omega, by omega, by omega, by omega, by omega, by omega⟩, (below_setRow (below_setRow (below_setRow (below_setRow bw4 (by omega) _) (by omega) _) (by omega) _) (by omega) _)⟩)
              clear hV z0 z1 z2 z3 hs4 bw4 hW4 O5 hs bw0
              refine wa_done (by kernel_rfl) ?_
              go_wp2
              go_meet
              exact ⟨_, _, _, _, rfl, rfl, rfl, rfl, unhide R⟩
            · go_simp
              refine hK.out _ _ (((hs.alloc _).alloc _).alloc _) ?_
              clear hK Kc
              try simp only [Act.put, List.setIfInBounds_toArray, List.set_cons_zero, List.set_cons_succ]
              refine wa_one 6 (by kernel_rfl) rfl (by kernel_rfl) (fun Kc hK => ?_)
              go_simp
              refine hK.out _ _ ((((hs.alloc _).alloc _).alloc _).alloc _) ?_
              clear hK Kc
              try simp only [Act.put, List.setIfInBounds_toArray, List.set_cons_zero, List.set_cons_succ]
              rw [← hW4]
              refine wa_one 8 (by kernel_rfl) rfl (by kernel_rfl) (fun Kc hK => ?_)
              refine wp_store_row 27 (.tmp 10) (.tmp 46) rfl (W0.heap.size + 1) #[.int .i64 k, .int .i64 ((N : Int) % x0), .int .i64 ((N : Int) % x1), .int .i64 N, .int .i64 (1 + (N : Int) % 255)] rfl rfl 27 _ z1.2 info27 rfl O5 ?_
              refine hK.out _ _ (hs4.set (by omega) _) ?_
              clear hK Kc
              try simp only [Act.put]
              refine wa_one 9 (by kernel_rfl) rfl (by kernel_rfl) (fun Kc hK => ?_)
              refine wp_store_row 27 (.tmp 11) (.tmp 47) rfl (W0.heap.size) #[.int .i64 k, .int .i64 ((N : Int) % x0), .int .i64 ((N : Int) % x1), .int .i64 N, .int .i64 (1 + (N : Int) % 255)] rfl rfl 27 _ (z0.set (by omega) _).2 info27 rfl O5 ?_
              refine hK.out _ _ ((hs4.set (by omega) _).set (by omega) _) ?_
              clear hK Kc
              try simp only [Act.put]
              refine wa_one 10 (by kernel_rfl) rfl (by kernel_rfl) (fun Kc hK => ?_)
              refine wp_store_row 27 (.tmp 12) (.tmp 48) rfl (W0.heap.size + 1 + 1 + 1) #[.int .i64 k, .int .i64 ((N : Int) % x0), .int .i64 ((N : Int) % x1), .int .i64 N, .int .i64 (1 + (N : Int) % 255)] rfl rfl 27 _ ((z3.set (by omega) _).set (by omega) _).2 info27 rfl O5 ?_
              refine hK.out _ _ (((hs4.set (by omega) _).set (by omega) _).set (by omega) _) ?_
              clear hK Kc
              try simp only [Act.put]
              refine wa_one 11 (by kernel_rfl) rfl (by kernel_rfl) (fun Kc hK => ?_)
              refine wp_store_row 27 (.tmp 13) (.tmp 49) rfl (W0.heap.size + 1 + 1) #[.int .i64 k, .int .i64 ((N : Int) % x0), .int .i64 ((N : Int) % x1), .int .i64 N, .int .i64 (1 + (N : Int) % 255)] rfl rfl 27 _ (((z2.set (by omega) _).set (by omega) _).set (by omega) _).2 info27 rfl O5 ?_
              refine hK.out _ _ ((((hs4.set (by omega) _).set (by omega) _).set (by omega) _).set (by omega) _) ?_
              clear hK Kc
              try simp only [Act.put]
              obtain ⟨V, hV⟩ : ∃ z, z = ((((W4.setRow (W0.heap.size + 1) #[.int .i64 k, .int .i64 ((N : Int) % x0), .int .i64 ((N : Int) % x1), .int .i64 N, .int .i64 (1 + (N : Int) % 255)]).setRow (W0.heap.size) #[.int .i64 k, .int .i64 ((N : Int) % x0), .int .i64 ((N : Int) % x1), .int .i64 N, .int .i64 (1 + (N : Int) % 255)]).setRow (W0.heap.size + 1 + 1 + 1) #[.int .i64 k, .int .i64 ((N : Int) % x0), .int .i64 ((N : Int) % x1), .int .i64 N, .int .i64 (1 + (N : Int) % 255)]).setRow (W0.heap.size + 1 + 1) #[.int .i64 k, .int .i64 ((N : Int) % x0), .int .i64 ((N : Int) % x1), .int .i64 N, .int .i64 (1 + (N : Int) % 255)]) := ⟨_, rfl⟩
              rw [← hV]
              have R := hide (show Four w3 V (W0.heap.size + 1) (W0.heap.size) (W0.heap.size + 1 + 1 + 1) (W0.heap.size + 1 + 1) (.cells #[.int .i64 k, .int .i64 ((N : Int) % x0), .int .i64 ((N : Int) % x1), .int .i64 N, .int .i64 (1 + (N : Int) % 255)] 27) from by
                have sw0 := unhide SW0
                rw [hV]
                exact ⟨⟨((((z1.same _).set (by omega) _).set (by omega) _).set (by omega) _), ((((z0.set (by omega) _).same _).set (by omega) _).set (by omega) _), ((((z3.set (by omega) _).set (by omega) _).same _).set (by omega) _), ((((z2.set (by omega) _).set (by omega) _).set (by omega) _).same _)⟩, ⟨by omega, by omega, by omega, by omega⟩, ⟨by omega, by omega, by omega, by omega, by omega, by omega⟩, (below_setRow (below_setRow (below_setRow (below_setRow bw4 (by omega) _) (by omega) _) (by omega) _) (by omega) _)⟩)
              clear hV z0 z1 z2 z3 hs4 bw4 hW4 O5 hs bw0
              refine wa_done (by kernel_rfl) ?_
              go_wp2
              go_meet
              exact ⟨_, _, _, _, rfl, rfl, rfl, rfl, unhide R⟩
          · go_simp
            refine hK.out _ _ ((hs.alloc _).alloc _) ?_
            clear hK Kc
            try simp only [Act.put, List.setIfInBounds_toArray, List.set_cons_zero, List.set_cons_succ]
            refine wa_two 4 7 (by kernel_rfl) rfl rfl (by kernel_rfl) (by kernel_rfl) (fun Kc hK => ?_) (fun Kc hK => ?_)
            · go_simp
              refine hK.out _ _ (((hs.alloc _).alloc _).alloc _) ?_
              clear hK Kc
              try simp only [Act.put, List.setIfInBounds_toArray, List.set_cons_zero, List.set_cons_succ]
              refine wa_one 7 (by kernel_rfl) rfl (by kernel_rfl) (fun Kc hK => ?_)
              go_simp
              refine hK.out _ _ ((((hs.alloc _).alloc _).alloc _).alloc _) ?_
              clear hK Kc
              try simp only [Act.put, List.setIfInBounds_toArray, List.set_cons_zero, List.set_cons_succ]
              rw [← hW4]
              refine wa_one 8 (by kernel_rfl) rfl (by kernel_rfl) (fun Kc hK => ?_)
              refine wp_store_row 27 (.tmp 10) (.tmp 46) rfl (W0.heap.size + 1 + 1) #[.int .i64 k, .int .i64 ((N : Int) % x0), .int .i64 ((N : Int) % x1), .int .i64 N, .int .i64 (1 + (N : Int) % 255)] rfl rfl 27 _ z2.2 info27 rfl O5 ?_
              refine hK.out _ _ (hs4.set (by omega) _) ?_
              clear hK Kc
              try simp only [Act.put]
              refine wa_one 9 (by kernel_rfl) rfl (by kernel_rfl) (fun Kc hK => ?_)
              refine wp_store_row 27 (.tmp 11) (.tmp 47) rfl (W0.heap.size) #[.int .i64 k, .int .i64 ((N : Int) % x0), .int .i64 ((N : Int) % x1), .int .i64 N, .int .i64 (1 + (N : Int) % 255)] rfl rfl 27 _ (z0.set (by omega) _).2 info27 rfl O5 ?_
              refine hK.out _ _ ((hs4.set (by omega) _).set (by omega) _) ?_
              clear hK Kc
              try simp only [Act.put]
              refine wa_one 10 (by kernel_rfl) rfl (by kernel_rfl) (fun Kc hK => ?_)
              refine wp_store_row 27 (.tmp 12) (.tmp 48) rfl (W0.heap.size + 1) #[.int .i64 k, .int .i64 ((N : Int) % x0), .int .i64 ((N : Int) % x1), .int .i64 N, .int .i64 (1 + (N : Int) % 255)] rfl rfl 27 _ ((z1.set (by omega) _).set (by omega) _).2 info27 rfl O5 ?_
              refine hK.out _ _ (((hs4.set (by omega) _).set (by omega) _).set (by omega) _) ?_
              clear hK Kc
              try simp only [Act.put]
              refine wa_one 11 (by kernel_rfl) rfl (by kernel_rfl) (fun Kc hK => ?_)
              refine wp_store_row 27 (.tmp 13) (.tmp 49) rfl (W0.heap.size + 1 + 1 + 1) #[.int .i64 k, .int .i64 ((N : Int) % x0), .int .i64 ((N : Int) % x1), .int .i64 N, .int .i64 (1 + (N : Int) % 255)] rfl rfl 27 _ (((z3.set (by omega) _).set (by omega) _).set (by omega) _).2 info27 rfl O5 ?_
              refine hK.out _ _ ((((hs4.set (by omega) _).set (by omega) _).set (by omega) _).set (by omega) _) ?_
              clear hK Kc
              try simp only [Act.put]
              obtain ⟨V, hV⟩ : ∃ z, z = ((((W4.setRow (W0.heap.size + 1 + 1) #[.int .i64 k, .int .i64 ((N : Int) % x0), .int .i64 ((N : Int) % x1), .int .i64 N, .int .i64 (1 + (N : Int) % 255)]).setRow (W0.heap.size) #[.int .i64 k, .int .i64 ((N : Int) % x0), .int .i64 ((N : Int) % x1), .int .i64 N, .int .i64 (1 + (N : Int) % 255)]).setRow (W0.heap.size + 1) #[.int .i64 k, .int .i64 ((N : Int) % x0), .int .i64 ((N : Int) % x1), .int .i64 N, .int .i64 (1 + (N : Int) % 255)]).setRow (W0.heap.size + 1 + 1 + 1) #[.int .i64 k, .int .i64 ((N : Int) % x0), .int .i64 ((N : Int) % x1), .int .i64 N, .int .i64 (1 + (N : Int) % 255)]) := ⟨_, rfl⟩
              rw [← hV]
              have R := hide (show Four w3 V (W0.heap.size + 1 + 1) (W0.heap.size) (W0.heap.size + 1) (W0.heap.size + 1 + 1 + 1) (.cells #[.int .i64 k, .int .i64 ((N : Int) % x0), .int .i64 ((N : Int) % x1), .int .i64 N, .int .i64 (1 + (N : Int) % 255)] 27) from by
                have sw0 := unhide SW0
                rw [hV]
                exact ⟨⟨((((z2.same _).set (by omega) _).set (by omega) _).set (by omega) _), ((((z0.set (by omega) _).same _).set (by omega) _).set (by omega) _), ((((z1.set (by omega) _).set (by omega) _).same _).set (by omega) _), ((((z3.set (by omega) _).set (by omega) _).set (by omega) _).same _)⟩, ⟨by omega, by omega, by omega, by omega⟩, ⟨by omega, by omega, by omega, by omega, by omega, by omega⟩, (below_setRow (below_setRow (below_setRow (below_setRow bw4 (by omega) _) (by omega) _) (by omega) _) (by omega) _)⟩)
              clear hV z0 z1 z2 z3 hs4 bw4 hW4 O5 hs bw0
              refine wa_done (by kernel_rfl) ?_
              go_wp2
              go_meet
              exact ⟨_, _, _, _, rfl, rfl, rfl, rfl, unhide R⟩
            · go_simp
              refine hK.out _ _ (((hs.alloc _).alloc _).alloc _) ?_
              clear hK Kc
              try simp only [Act.put, List.setIfInBounds_toArray, List.set_cons_zero, List.set_cons_succ]
              refine wa_one 4 (by kernel_rfl) rfl (by kernel_rfl) (fun Kc hK => ?_)
              go_simp
              refine hK.out _ _ ((((hs.alloc _).alloc _).alloc _).alloc _) ?_
              clear hK Kc
              try simp only [Act.put, List.setIfInBounds_toArray, List.set_cons_zero, List.set_cons_succ]
              rw [← hW4]
              refine wa_one 8 (by kernel_rfl) rfl (by kernel_rfl) (fun Kc hK => ?_)
              refine wp_store_row 27 (.tmp 10) (.tmp 46) rfl (W0.heap.size + 1 + 1 + 1) #[.int .i64 k, .int .i64 ((N : Int) % x0), .int .i64 ((N : Int) % x1), .int .i64 N, .int .i64 (1 + (N : Int) % 255)] rfl rfl 27 _ z3.2 info27 rfl O5 ?_
              refine hK.out _ _ (hs4.set (by omega) _) ?_
              clear hK Kc
              try simp only [Act.put]
              refine wa_one 9 (by kernel_rfl) rfl (by kernel_rfl) (fun Kc hK => ?_)
              refine wp_store_row 27 (.tmp 11) (.tmp 47) rfl (W0.heap.size) #[.int .i64 k, .int .i64 ((N : Int) % x0), .int .i64 ((N : Int) % x1), .int .i64 N, .int .i64 (1 + (N : Int) % 255)] rfl rfl 27 _ (z0.set (by omega) _).2 info27 rfl O5 ?_
              refine hK.out _ _ ((hs4.set (by omega) _).set (by omega) _) ?_
              clear hK Kc
              try simp only [Act.put]
              refine wa_one 10 (by kernel_rfl) rfl (by kernel_rfl) (fun Kc hK => ?_)
              refine wp_store_row 27 (.tmp 12) (.tmp 48) rfl (W0.heap.size + 1) #[.int .i64 k, .int .i64 ((N : Int) % x0), .int .i64 ((N : Int) % x1), .int .i64 N, .int .i64 (1 + (N : Int) % 255)] rfl rfl 27 _ ((z1.set (by omega) _).set (by omega) _).2 info27 rfl O5 ?_
              refine hK.out _ _ (((hs4.set (by omega) _).set (by omega) _).set (by omega) _) ?_
              clear hK Kc
              try simp only [Act.put]
              refine wa_one 11 (by kernel_rfl) rfl (by kernel_rfl) (fun Kc hK => ?_)
              refine wp_store_row 27 (.tmp 13) (.tmp 49) rfl (W0.heap.size + 1 + 1) #[.int .i64 k, .int .i64 ((N : Int) % x0), .int .i64 ((N : Int) % x1), .int .i64 N, .int .i64 (1 + (N : Int) % 255)] rfl rfl 27 _ (((z2.set (by omega) _).set (by omega) _).set (by omega) _).2 info27 rfl O5 ?_
              refine hK.out _ _ ((((hs4.set (by omega) _).set (by omega) _).set (by omega) _).set (by omega) _) ?_
              clear hK Kc
              try simp only [Act.put]
              obtain ⟨V, hV⟩ : ∃ z, z = ((((W4.setRow (W0.heap.size + 1 + 1 + 1) #[.int .i64 k, .int .i64 ((N : Int) % x0), .int .i64 ((N : Int) % x1), .int .i64 N, .int .i64 (1 + (N : Int) % 255)]).setRow (W0.heap.size) #[.int .i64 k, .int .i64 ((N : Int) % x0), .int .i64 ((N : Int) % x1), .int .i64 N, .int .i64 (1 + (N : Int) % 255)]).setRow (W0.heap.size + 1) #[.int .i64 k, .int .i64 ((N : Int) % x0), .int .i64 ((N : Int) % x1), .int .i64 N, .int .i64 (1 + (N : Int) % 255)]).setRow (W0.heap.size + 1 + 1) #[.int .i64 k, .int .i64 ((N : Int) % x0), .int .i64 ((N : Int) % x1), .int .i64 N, .int .i64 (1 + (N : Int) % 255)]) := ⟨_, rfl⟩
              rw [← hV]
              have R := hide (show Four w3 V (W0.heap.size + 1 + 1 + 1) (W0.heap.size) (W0.heap.size + 1) (W0.heap.size + 1 + 1) (.cells #[.int .i64 k, .int .i64 ((N : Int) % x0), .int .i64 ((N : Int) % x1), .int .i64 N, .int .i64 (1 + (N : Int) % 255)] 27) from by
                have sw0 := unhide SW0
                rw [hV]
                exact ⟨⟨((((z3.same _).set (by omega) _).set (by omega) _).set (by omega) _), ((((z0.set (by omega) _).same _).set (by omega) _).set (by omega) _), ((((z1.set (by omega) _).set (by omega) _).same _).set (by omega) _), ((((z2.set (by omega) _).set (by omega) _).set (by omega) _).same _)⟩, ⟨by omega, by omega, by omega, by omega⟩, ⟨by omega, by omega, by omega, by omega, by omega, by omega⟩, (below_setRow (below_setRow (below_setRow (below_setRow bw4 (by omega) _) (by omega) _) (by omega) _) (by omega) _)⟩)
              clear hV z0 z1 z2 z3 hs4 bw4 hW4 O5 hs bw0
              refine wa_done (by kernel_rfl) ?_
              go_wp2
              go_meet
              exact ⟨_, _, _, _, rfl, rfl, rfl, rfl, unhide R⟩
          · go_simp
            refine hK.out _ _ ((hs.alloc _).alloc _) ?_
            clear hK Kc
            try simp only [Act.put, List.setIfInBounds_toArray, List.set_cons_zero, List.set_cons_succ]
            refine wa_two 4 6 (by kernel_rfl) rfl rfl (by kernel_rfl) (by kernel_rfl) (fun Kc hK => ?_) (fun Kc hK => ?_)
            · go_simp
              refine hK.out _ _ (((hs.alloc _).alloc _).alloc _) ?_
              clear hK Kc
              try simp only [Act.put, List.setIfInBounds_toArray, List.set_cons_zero, List.set_cons_succ]
              refine wa_one 6 (by kernel_rfl) rfl (by kernel_rfl) (fun Kc hK => ?_)
              go_simp
              refine hK.out _ _ ((((hs.alloc _).alloc _).alloc _).alloc _) ?_
              clear hK Kc
              try simp only [Act.put, List.setIfInBounds_toArray, List.set_cons_zero, List.set_cons_succ]
              rw [← hW4]
              refine wa_one 8 (by kernel_rfl) rfl (by kernel_rfl) (fun Kc hK => ?_)
              refine wp_store_row 27 (.tmp 10) (.tmp 46) rfl (W0.heap.size + 1 + 1) #[.int .i64 k, .int .i64 ((N : Int) % x0), .int .i64 ((N : Int) % x1), .int .i64 N, .int .i64 (1 + (N : Int) % 255)] rfl rfl 27 _ z2.2 info27 rfl O5 ?_
              refine hK.out _ _ (hs4.set (by omega) _) ?_
              clear hK Kc
              try simp only [Act.put]
              refine wa_one 9 (by kernel_rfl) rfl (by kernel_rfl) (fun Kc hK => ?_)
              refine wp_store_row 27 (.tmp 11) (.tmp 47) rfl (W0.heap.size) #[.int .i64 k, .int .i64 ((N : Int) % x0), .int .i64 ((N : Int) % x1), .int .i64 N, .int .i64 (1 + (N : Int) % 255)] rfl rfl 27 _ (z0.set (by omega) _).2 info27 rfl O5 ?_
              refine hK.out _ _ ((hs4.set (by omega) _).set (by omega) _) ?_
              clear hK Kc
              try simp only [Act.put]
              refine wa_one 10 (by kernel_rfl) rfl (by kernel_rfl) (fun Kc hK => ?_)
              refine wp_store_row 27 (.tmp 12) (.tmp 48) rfl (W0.heap.size + 1 + 1 + 1) #[.int .i64 k, .int .i64 ((N : Int) % x0), .int .i64 ((N : Int) % x1), .int .i64 N, .int .i64 (1 + (N : Int) % 255)] rfl rfl 27 _ ((z3.set (by omega) _).set (by omega) _).2 info27 rfl O5 ?_
              refine hK.out _ _ (((hs4.set (by omega) _).set (by omega) _).set (by omega) _) ?_
              clear hK Kc
              try simp only [Act.put]
              refine wa_one 11 (by kernel_rfl) rfl (by kernel_rfl) (fun Kc hK => ?_)
              refine wp_store_row 27 (.tmp 13) (.tmp 49) rfl (W0.heap.size + 1) #[.int .i64 k, .int .i64 ((N : Int) % x0), .int .i64 ((N : Int) % x1), .int .i64 N, .int .i64 (1 + (N : Int) % 255)] rfl rfl 27 _ (((z1.set (by omega) _).set (by omega) _).set (by omega) _).2 info27 rfl O5 ?_
              refine hK.out _ _ ((((hs4.set (by omega) _).set (by omega) _).set (by omega) _).set (by omega) _) ?_
              clear hK Kc
              try simp only [Act.put]
              obtain ⟨V, hV⟩ : ∃ z, z = ((((W4.setRow (W0.heap.size + 1 + 1) #[.int .i64 k, .int .i64 ((N : Int) % x0), .int .i64 ((N : Int) % x1), .int .i64 N, .int .i64 (1 + (N : Int) % 255)]).setRow (W0.heap.size) #[.int .i64 k, .int .i64 ((N : Int) % x0), .int .i64 ((N : Int) % x1), .int .i64 N, .int .i64 (1 + (N : Int) % 255)]).setRow (W0.heap.size + 1 + 1 + 1) #[.int .i64 k, .int .i64 ((N : Int) % x0), .int .i64 ((N : Int) % x1), .int .i64 N, .int .i64 (1 + (N : Int) % 255)]).setRow (W0.heap.size + 1) #[.int .i64 k, .int .i64 ((N : Int) % x0), .int .i64 ((N : Int) % x1), .int .i64 N, .int .i64 (1 + (N : Int) % 255)]) := ⟨_, rfl⟩
              rw [← hV]
              have R := hide (show Four w3 V (W0.heap.size + 1 + 1) (W0.heap.size) (W0.heap.size + 1 + 1 + 1) (W0.heap.size + 1) (.cells #[.int .i64 k, .int .i64 ((N : Int) % x0), .int .i64 ((N : Int) % x1), .int .i64 N, .int .i64 (1 + (N : Int) % 255)] 27) from by
                have sw0 := unhide SW0
                rw [hV]
                exact ⟨⟨((((z2.same _).set (by omega) _).set (by omega) _).set (by omega) _), ((((z0.set (by omega) _).same _).set (by omega) _).set (by omega) _), ((((z3.set (by omega) _).set (by omega) _).same _).set (by omega) _), ((((z1.set (by omega) _).set (by omega) _).set (by omega) _).same _)⟩, ⟨by omega, by omega, by omega, by omega⟩, ⟨by omega, by omega, by omega, by omega, by omega, by omega⟩, (below_setRow (below_setRow (below_setRow (below_setRow bw4 (by omega) _) (by omega) _) (by omega) _) (by omega) _)⟩)
              clear hV z0 z1 z2 z3 hs4 bw4 hW4 O5 hs bw0
              refine wa_done (by kernel_rfl) ?_
              go_wp2
              go_meet
              exact ⟨_, _, _, _, rfl, rfl, rfl, rfl, unhide R⟩
            · go_simp
              refine hK.out _ _ (((hs.alloc _).alloc _).alloc _) ?_
              clear hK Kc
              try simp only [Act.put, List.setIfInBounds_toArray, List.set_cons_zero, List.set_cons_succ]
              refine wa_one 4 (by kernel_rfl) rfl (by kernel_rfl) (fun Kc hK => ?_)
              go_simp
              refine hK.out _ _ ((((hs.alloc _).alloc _).alloc _).alloc _) ?_
              clear hK Kc
              try simp only [Act.put, List.setIfInBounds_toArray, List.set_cons_zero, List.set_cons_succ]
              rw [← hW4]
              refine wa_one 8 (by kernel_rfl) rfl (by kernel_rfl) (fun Kc hK => ?_)
              refine wp_store_row 27 (.tmp 10) (.tmp 46) rfl (W0.heap.size + 1 + 1 + 1) #[.int .i64 k, .int .i64 ((N : Int) % x0), .int .i64 ((N : Int) % x1), .int .i64 N, .int .i64 (1 + (N : Int) % 255)] rfl rfl 27 _ z3.2 info27 rfl O5 ?_
              refine hK.out _ _ (hs4.set (by omega) _) ?_
              clear hK Kc
              try simp only [Act.put]
              refine wa_one 9 (by kernel_rfl) rfl (by kernel_rfl) (fun Kc hK => ?_)
              refine wp_store_row 27 (.tmp 11) (.tmp 47) rfl (W0.heap.size) #[.int .i64 k, .int .i64 ((N : Int) % x0), .int .i64 ((N : Int) % x1), .int .i64 N, .int .i64 (1 + (N : Int) % 255)] rfl rfl 27 _ (z0.set (by omega) _).2 info27 rfl O5 ?_
              refine hK.out _ _ ((hs4.set (by omega) _).set (by omega) _) ?_
              clear hK Kc
              try simp only [Act.put]
              refine wa_one 10 (by kernel_rfl) rfl (by kernel_rfl) (fun Kc hK => ?_)
              refine wp_store_row 27 (.tmp 12) (.tmp 48) rfl (W0.heap.size + 1 + 1) #[.int .i64 k, .int .i64 ((N : Int) % x0), .int .i64 ((N : Int) % x1), .int .i64 N, .int .i64 (1 + (N : Int) % 255)] rfl rfl 27 _ ((z2.set (by omega) _).set (by omega) _).2 info27 rfl O5 ?_
              refine hK.out _ _ (((hs4.set (by omega) _).set (by omega) _).set (by omega) _) ?_
              clear hK Kc
              try simp only [Act.put]
              refine wa_one 11 (by kernel_rfl) rfl (by kernel_rfl) (fun Kc hK => ?_)
              refine wp_store_row 27 (.tmp 13) (.tmp 49) rfl (W0.heap.size + 1) #[.int .i64 k, .int .i64 ((N : Int) % x0), .int .i64 ((N : Int) % x1), .int .i64 N, .int .i64 (1 + (N : Int) % 255)] rfl rfl 27 _ (((z1.set (by omega) _).set (by omega) _).set (by omega) _).2 info27 rfl O5 ?_
              refine hK.out _ _ ((((hs4.set (by omega) _).set (by omega) _).set (by omega) _).set (by omega) _) ?_
              clear hK Kc
              try simp only [Act.put]
              obtain ⟨V, hV⟩ : ∃ z, z = ((((W4.setRow (W0.heap.size + 1 + 1 + 1) #[.int .i64 k, .int .i64 ((N : Int) % x0), .int .i64 ((N : Int) % x1), .int .i64 N, .int .i64 (1 + (N : Int) % 255)]).setRow (W0.heap.size) #[.int .i64 k, .int .i64 ((N : Int) % x0), .int .i64 ((N : Int) % x1), .int .i64 N, .int .i64 (1 + (N : Int) % 255)]).setRow (W0.heap.size + 1 + 1) #[.int .i64 k, .int .i64 ((N : Int) % x0), .int .i64 ((N : Int) % x1), .int .i64 N, .int .i64 (1 + (N : Int) % 255)]).setRow (W0.heap.size + 1) #[.int .i64 k, .int .i64 ((N : Int) % x0), .int .i64 ((N : Int) % x1), .int .i64 N, .int .i64 (1 + (N : Int) % 255)]) := ⟨_, rfl⟩
              rw [← hV]
              have R := hide (show Four w3 V (W0.heap.size + 1 + 1 + 1) (W0.heap.size) (W0.heap.size + 1 + 1) (W0.heap.size + 1) (.cells #[.int .i64 k, .int .i64 ((N : Int) % x0), .int .i64 ((N : Int) % x1), .int .i64 N, .int .i64 (1 + (N : Int) % 255)] 27) from by
                have sw0 := unhide SW0
                rw [hV]
                exact ⟨⟨((((z3.same _).set (by omega) _).set (by omega) _).set (by omega) _), ((((z0.set (by omega) _).same _).set (by omega) _).set (by omega) _), ((((z2.set (by omega) _).set (by omega) _).same _).set (by omega) _), ((((z1.set (by omega) _).set (by omega) _).set (by omega) _).same _)⟩, ⟨by omega, by omega, by omega, by omega⟩, ⟨by omega, by omega, by omega, by omega, by omega, by omega⟩, (below_setRow (below_setRow (below_setRow (below_setRow bw4 (by omega) _) (by omega) _) (by omega) _) (by omega) _)⟩)
              clear hV z0 z1 z2 z3 hs4 bw4 hW4 O5 hs bw0
              refine wa_done (by kernel_rfl) ?_
              go_wp2
              go_meet
              exact ⟨_, _, _, _, rfl, rfl, rfl, rfl, unhide R⟩
        · go_simp
          refine hK.out _ _ (hs.alloc _) ?_
          clear hK Kc
          try simp only [Act.put, List.setIfInBounds_toArray, List.set_cons_zero, List.set_cons_succ]
          refine wa_three 4 5 7 (by kernel_rfl) rfl rfl rfl (by kernel_rfl) (by kernel_rfl) (by kernel_rfl) (fun Kc hK => ?_) (fun Kc hK => ?_) (fun Kc hK => ?_)
          · go_simp
            refine hK.out _ _ ((hs.alloc _).alloc _) ?_
            clear hK Kc
            try simp only [Act.put, List.setIfInBounds_toArray, List.set_cons_zero, List.set_cons_succ]
            refine wa_two 5 7 (by kernel_rfl) rfl rfl (by kernel_rfl) (by kernel_rfl) (fun Kc hK => ?_) (fun Kc hK => ?_)
            · go_simp
              refine hK.out _ _ (((hs.alloc _).alloc _).alloc _) ?_
              clear hK Kc
              try simp only [Act.put, List.setIfInBounds_toArray, List.set_cons_zero, List.set_cons_succ]
              refine wa_one 7 (by kernel_rfl) rfl (by kernel_rfl) (fun Kc hK => ?_)
              go_simp
              refine hK.out _ _ ((((hs.alloc _).alloc _).alloc _).alloc _) ?_
              clear hK Kc
              try simp only [Act.put, List.setIfInBounds_toArray, List.set_cons_zero, List.set_cons_succ]
              rw [← hW4]
              refine wa_one 8 (by kernel_rfl) rfl (by kernel_rfl) (fun Kc hK => ?_)
              refine wp_store_row 27 (.tmp 10) (.tmp 46) rfl (W0.heap.size + 1) #[.int .i64 k, .int .i64 ((N : Int) % x0), .int .i64 ((N : Int) % x1), .int .i64 N, .int .i64 (1 + (N : Int) % 255)] rfl rfl 27 _ z1.2 info27 rfl O5 ?_
              refine hK.out _ _ (hs4.set (by omega) _) ?_
              clear hK Kc
              try simp only [Act.put]
              refine wa_one 9 (by kernel_rfl) rfl (by kernel_rfl) (fun Kc hK => ?_)
              refine wp_store_row 27 (.tmp 11) (.tmp 47) rfl (W0.heap.size + 1 + 1) #[.int .i64 k, .int .i64 ((N : Int) % x0), .int .i64 ((N : Int) % x1), .int .i64 N, .int .i64 (1 + (N : Int) % 255)] rfl rfl 27 _ (z2.set (by omega) _).2 info27 rfl O5 ?_
              refine hK.out _ _ ((hs4.set (by omega) _).set (by omega) _) ?_
              clear hK Kc
              try simp only [Act.put]
              refine wa_one 10 (by kernel_rfl) rfl (by kernel_rfl) (fun Kc hK => ?_)
              refine wp_store_row 27 (.tmp 12) (.tmp 48) rfl (W0.heap.size) #[.int .i64 k, .int .i64 ((N : Int) % x0), .int .i64 ((N : Int) % x1), .int .i64 N, .int .i64 (1 + (N : Int) % 255)] rfl rfl 27 _ ((z0.set (by omega) _).set (by omega) _).2 info27 rfl O5 ?_
              refine hK.out _ _ (((hs4.set (by omega) _).set (by omega) _).set (by omega) _) ?_
              clear hK Kc
              try simp only [Act.put]
              refine wa_one 11 (by kernel_rfl) rfl (by kernel_rfl) (fun Kc hK => ?_)
              refine wp_store_row 27 (.tmp 13) (.tmp 49) rfl (W0.heap.size + 1 + 1 + 1) #[.int .i64 k, .int .i64 ((N : Int) % x0), .int .i64 ((N : Int) % x1), .int .i64 N, .int .i64 (1 + (N : Int) % 255)] rfl rfl 27 _ (((z3.set (by omega) _).set (by omega) _).set (by omega) _).2 info27 rfl O5 ?_
              refine hK.out _ _ ((((hs4.set (by omega) _).set (by omega) _).set (by omega) _).set (by omega) _) ?_
              clear hK Kc
              try simp only [Act.put]
              obtain ⟨V, hV⟩ : ∃ z, z = ((((W4.setRow (W0.heap.size + 1) #[.int .i64 k, .int .i64 ((N : Int) % x0), .int .i64 ((N : Int) % x1), .int .i64 N, .int .i64 (1 + (N : Int) % 255)]).setRow (W0.heap.size + 1 + 1) #[.int .i64 k, .int .i64 ((N : Int) % x0), .int .i64 ((N : Int) % x1), .int .i64 N, .int .i64 (1 + (N : Int) % 255)]).setRow (W0.heap.size) #[.int .i64 k, .int .i64 ((N : Int) % x0), .int .i64 ((N : Int) % x1), .int .i64 N, .int .i64 (1 + (N : Int) % 255)]).setRow (W0.heap.size + 1 + 1 + 1) #[.int .i64 k, .int .i64 ((N : Int) % x0), .int .i64 ((N : Int) % x1), .int .i64 N, .int .i64 (1 + (N : Int) % 255)]) := ⟨_, rfl⟩
              rw [← hV]
              have R := hide (show Four w3 V (W0.heap.size + 1) (W0.heap.size + 1 + 1) (W0.heap.size) (W0.heap.size + 1 + 1 + 1) (.cells #[.int .i64 k, .int .i64 ((N : Int) % x0), .int .i64 ((N : Int) % x1), .int .i64 N, .int .i64 (1 + (N : Int) % 255)] 27) from by
                have sw0 := unhide SW0
                rw [hV]
                exact ⟨⟨((((z1.same _).set (by omega) _).set (by omega) _).set (by omega) _), ((((z2.set (by omega) _).same _).set (by omega) _).set (by omega) _), ((((z0.set (by omega) _).set (by omega) _).same _).set (by omega) _), ((((z3.set (by omega) _).set (by omega) _).set (by omega) _).same _)⟩, ⟨by omega, by omega, by omega, by omega⟩, ⟨by omega, by omega, by omega, by omega, by omega, by omega⟩, (below_setRow (below_setRow (below_setRow (below_setRow bw4 (by omega) _) (by omega) _) (by omega) _) (by omega) _)⟩)
              clear hV z0 z1 z2 z3 hs4 bw4 hW4 O5 hs bw0
              refine wa_done (by kernel_rfl) ?_
              go_wp2
              go_meet
              exact ⟨_, _, _, _, rfl, rfl, rfl, rfl, unhide R⟩
            · go_simp
              refine hK.out _ _ (((hs.alloc _).alloc _).alloc _) ?_
              clear hK Kc
              try simp only [Act.put, List.setIfInBounds_toArray, List.set_cons_zero, List.set_cons_succ]
              refine wa_one 5 (by kernel_rfl) rfl (by kernel_rfl) (fun Kc hK => ?_)
              go_simp
              refine hK.out _ _ ((((hs.alloc _).alloc _).alloc _).alloc _) ?_
              clear hK Kc
              try simp only [Act.put, List.setIfInBounds_toArray, List.set_cons_zero, List.set_cons_succ]
              rw [← hW4]
              refine wa_one 8 (by kernel_rfl) rfl (by kernel_rfl) (fun Kc hK => ?_)
              refine wp_store_row 27 (.tmp 10) (.tmp 46) rfl (W0.heap.size + 1) #[.int .i64 k, .int .i64 ((N : Int) % x0), .int .i64 ((N : Int) % x1), .int .i64 N, .int .i64 (1 + (N : Int) % 255)] rfl rfl 27 _ z1.2 info27 rfl O5 ?_
              refine hK.out _ _ (hs4.set (by omega) _) ?_
              clear hK Kc
              try simp only [Act.put]
              refine wa_one 9 (by kernel_rfl) rfl (by kernel_rfl) (fun Kc hK => ?_)
              refine wp_store_row 27 (.tmp 11) (.tmp 47) rfl (W0.heap.size + 1 + 1 + 1) #[.int .i64 k, .int .i64 ((N : Int) % x0), .int .i64 ((N : Int) % x1), .int .i64 N, .int .i64 (1 + (N : Int) % 255)] rfl rfl 27 _ (z3.set (by omega) _).2 info27 rfl O5 ?_
              refine hK.out _ _ ((hs4.set (by omega) _).set (by omega) _) ?_
              clear hK Kc
              try simp only [Act.put]
              refine wa_one 10 (by kernel_rfl) rfl (by kernel_rfl) (fun Kc hK => ?_)
              refine wp_store_row 27 (.tmp 12) (.tmp 48) rfl (W0.heap.size) #[.int .i64 k, .int .i64 ((N : Int) % x0), .int .i64 ((N : Int) % x1), .int .i64 N, .int .i64 (1 + (N : Int) % 255)] rfl rfl 27 _ ((z0.set (by omega) _).set (by omega) _).2 info27 rfl O5 ?_
              refine hK.out _ _ (((hs4.set (by omega) _).set (by omega) _).set (by omega) _) ?_
              clear hK Kc
              try simp only [Act.put]
              refine wa_one 11 (by kernel_rfl) rfl (by kernel_rfl) (fun Kc hK => ?_)
              refine wp_store_row 27 (.tmp 13) (.tmp 49) rfl (W0.heap.size + 1 + 1) #[.int .i64 k, .int .i64 ((N : Int) % x0), .int .i64 ((N : Int) % x1), .int .i64 N, .int .i64 (1 + (N : Int) % 255)] rfl rfl 27 _ (((z2.set (by omega) _).set (by omega) _).set (by omega) _).2 info27 rfl O5 ?_
              refine hK.out _ _ ((((hs4.set (by omega) _).set (by omega) _).set (by omega) _).set (by omega) _) ?_
              clear hK Kc
              try simp only [Act.put]
              obtain ⟨V, hV⟩ : ∃ z, z = ((((W4.setRow (W0.heap.size + 1) #[.int .i64 k, .int .i64 ((N : Int) % x0), .int .i64 ((N : Int) % x1), .int .i64 N, .int .i64 (1 + (N : Int) % 255)]).setRow (W0.heap.size + 1 + 1 + 1) #[.int .i64 k, .int .i64 ((N : Int) % x0), .int .i64 ((N : Int) % x1), .int .i64 N, .int .i64 (1 + (N : Int) % 255)]).setRow (W0.heap.size) #[.int .i64 k, .int .i64 ((N : Int) % x0), .int .i64 ((N : Int) % x1), .int .i64 N, .int .i64 (1 + (N : Int) % 255)]).setRow (W0.heap.size + 1 + 1) #[.int .i64 k, .int .i64 ((N : Int) % x0), .int .i64 ((N : Int) % x1), .int .i64 N, .int .i64 (1 + (N : Int) % 255)]) := ⟨_, rfl⟩
              rw [← hV]
              have R := hide (show Four w3 V (W0.heap.size + 1) (W0.heap.size + 1 + 1 + 1) (W0.heap.size) (W0.heap.size + 1 + 1) (.cells #[.int .i64 k, .int .i64 ((N : Int) % x0), .int .i64 ((N : Int) % x1), .int .i64 N, .int .i64 (1 + (N : Int) % 255)] 27) from by
                have sw0 := unhide SW0
                rw [hV]
                exact ⟨⟨((((z1.same _).set (by omega) _).set (by omega) _).set (by omega) _), ((((z3.set (by omega) _).same _).set (by omega) _).set (by omega) _), ((((z0.set (by omega) _).set (by omega) _).same _).set (by omega) _), ((((z2.set (by omega) _).set (by omega) _).set (by omega) _).same _)⟩, ⟨by omega, by omega, by omega, by omega⟩, ⟨by omega, by omega, by omega, by omega, by omega, by omega⟩, (below_setRow (below_setRow (below_setRow (below_setRow bw4 (by omega) _) (by omega) _) (by omega) _) (by omega) _)⟩)
              clear hV z0 z1 z2 z3 hs4 bw4 hW4 O5 hs bw0
              refine wa_done (by kernel_rfl) ?_
              go_wp2
              go_meet
              exact ⟨_, _, _, _, rfl, rfl, rfl, rfl, unhide R⟩
          · go_simp
            refine hK.out _ _ ((hs.alloc _).alloc _) ?_
            clear hK Kc
            try simp only [Act.put, List.setIfInBounds_toArray, List.set_cons_zero, List.set_cons_succ]
            refine wa_two 4 7 (by kernel_rfl) rfl rfl (by kernel_rfl) (by kernel_rfl) (fun Kc hK => ?_) (fun Kc hK => ?_)
            · go_simp
              refine hK.out _ _ (((hs.alloc _).alloc _).alloc _) ?_
              clear hK Kc
              try simp only [Act.put, List.setIfInBounds_toArray, List.set_cons_zero, List.set_cons_succ]
              refine wa_one 7 (by kernel_rfl) rfl (by kernel_rfl) (fun Kc hK => ?_)
              go_simp
              refine hK.out _ _ ((((hs.alloc _).alloc _).alloc _).alloc _) ?_
              clear hK Kc
              try simp only [Act.put, List.setIfInBounds_toArray, List.set_cons_zero, List.set_cons_succ]
              rw [← hW4]
              refine wa_one 8 (by kernel_rfl) rfl (by kernel_rfl) (fun Kc hK => ?_)
              refine wp_store_row 27 (.tmp 10) (.tmp 46) rfl (W0.heap.size + 1 + 1) #[.int .i64 k, .int .i64 ((N : Int) % x0), .int .i64 ((N : Int) % x1), .int .i64 N, .int .i64 (1 + (N : Int) % 255)] rfl rfl 27 _ z2.2 info27 rfl O5 ?_
              refine hK.out _ _ (hs4.set (by omega) _) ?_
              clear hK Kc
              try simp only [Act.put]
              refine wa_one 9 (by kernel_rfl) rfl (by kernel_rfl) (fun Kc hK => ?_)
              refine wp_store_row 27 (.tmp 11) (.tmp 47) rfl (W0.heap.size + 1) #[.int .i64 k, .int .i64 ((N : Int) % x0), .int .i64 ((N : Int) % x1), .int .i64 N, .int .i64 (1 + (N : Int) % 255)] rfl rfl 27 _ (z1.set (by omega) _).2 info27 rfl O5 ?_
              refine hK.out _ _ ((hs4.set (by omega) _).set (by omega) _) ?_
              clear hK Kc
              try simp only [Act.put]
              refine wa_one 10 (by kernel_rfl) rfl (by kernel_rfl) (fun Kc hK => ?_)
              refine wp_store_row 27 (.tmp 12) (.tmp 48) rfl (W0.heap.size) #[.int .i64 k, .int .i64 ((N : Int) % x0), .int .i64 ((N : Int) % x1), .int .i64 N, .int .i64 (1 + (N : Int) % 255)] rfl rfl 27 _ ((z0.set (by omega) _).set (by omega) _).2 info27 rfl O5 ?_
              refine hK.out _ _ (((hs4.set (by omega) _).set (by omega) _).set (by omega) _) ?_
              clear hK Kc
              try simp only [Act.put]
              refine wa_one 11 (by kernel_rfl) rfl (by kernel_rfl) (fun Kc hK => ?_)
              refine wp_store_row 27 (.tmp 13) (.tmp 49) rfl (W0.heap.size + 1 + 1 + 1) #[.int .i64 k, .int .i64 ((N : Int) % x0), .int .i64 ((N : Int) % x1), .int .i64 N, .int .i64 (1 + (N : Int) % 255)] rfl rfl 27 _ (((z3.set (by omega) _).set (by omega) _).set (by omega) _).2 info27 rfl O5 ?_
              refine hK.out _ _ ((((hs4.set (by omega) _).set (by omega) _).set (by omega) _).set (by omega) _) ?_
              clear hK Kc
              try simp only [Act.put]
              obtain ⟨V, hV⟩ : ∃ z, z = ((((W4.setRow (W0.heap.size + 1 + 1) #[.int .i64 k, .int .i64 ((N : Int) % x0), .int .i64 ((N : Int) % x1), .int .i64 N, .int .i64 (1 + (N : Int) % 255)]).setRow (W0.heap.size + 1) #[.int .i64 k, .int .i64 ((N : Int) % x0), .int .i64 ((N : Int) % x1), .int .i64 N, .int .i64 (1 + (N : Int) % 255)]).setRow (W0.heap.size) #[.int .i64 k, .int .i64 ((N : Int) % x0), .int .i64 ((N : Int) % x1), .int .i64 N, .int .i64 (1 + (N : Int) % 255)]).setRow (W0.heap.size + 1 + 1 + 1) #[.int .i64 k, .int .i64 ((N : Int) % x0), .int .i64 ((N : Int) % x1), .int .i64 N, .int .i64 (1 + (N : Int) % 255)]) := ⟨_, rfl⟩
              rw [← hV]
              have R := hide (show Four w3 V (W0.heap.size + 1 + 1) (W0.heap.size + 1) (W0.heap.size) (W0.heap.size + 1 + 1 + 1) (.cells #[.int .i64 k, .int .i64 ((N : Int) % x0), .int .i64 ((N : Int) % x1), .int .i64 N, .int .i64 (1 + (N : Int) % 255)] 27) from by
                have sw0 := unhide SW0
                rw [hV]
                exact ⟨⟨((((z2.same _).set (by omega) _).set (by omega) _).set (by omega) _), ((((z1.set (by omega) _).same _).set (by omega) _).set (by omega) _), ((((z0.set (by omega) _).set (by omega) _).same _).set (by omega) _), ((((z3.set (by omega) _).set (by omega) _).set (by omega) _).same _)⟩, ⟨by omega, by omega, by omega, by omega⟩, ⟨by omega, by omega, by omega, by omega, by omega, by omega⟩, (below_setRow (below_setRow (below_setRow (below_setRow bw4 (by omega) _) (by omega) _) (by omega) _) (by omega) _)⟩)
              clear hV z0 z1 z2 z3 hs4 bw4 hW4 O5 hs bw0
              refine wa_done (by kernel_rfl) ?_
              go_wp2
              go_meet
              exact ⟨_, _, _, _, rfl, rfl, rfl, rfl, unhide R⟩
            · go_simp
              refine hK.out _ _ (((hs.alloc _).alloc _).alloc _) ?_
              clear hK Kc
              try simp only [Act.put, List.setIfInBounds_toArray, List.set_cons_zero, List.set_cons_succ]
              refine wa_one 4 (by kernel_rfl) rfl (by kernel_rfl) (fun Kc hK => ?_)
              go_simp
              refine hK.out _ _ ((((hs.alloc _).alloc _).alloc _).alloc _) ?_
              clear hK Kc
              try simp only [Act.put, List.setIfInBounds_toArray, List.set_cons_zero, List.set_cons_succ]
              rw [← hW4]
              refine wa_one 8 (by kernel_rfl) rfl (by kernel_rfl) (fun Kc hK => ?_)
              refine wp_store_row 27 (.tmp 10) (.tmp 46) rfl (W0.heap.size + 1 + 1 + 1) #[.int .i64 k, .int .i64 ((N : Int) % x0), .int .i64 ((N : Int) % x1), .int .i64 N, .int .i64 (1 + (N : Int) % 255)] rfl rfl 27 _ z3.2 info27 rfl O5 ?_
              refine hK.out _ _ (hs4.set (by omega) _) ?_
              clear hK Kc
              try simp only [Act.put]
              refine wa_one 9 (by kernel_rfl) rfl (by kernel_rfl) (fun Kc hK => ?_)
              refine wp_store_row 27 (.tmp 11) (.tmp 47) rfl (W0.heap.size + 1) #[.int .i64 k, .int .i64 ((N : Int) % x0), .int .i64 ((N : Int) % x1), .int .i64 N, .int .i64 (1 + (N : Int) % 255)] rfl rfl 27 _ (z1.set (by omega) _).2 info27 rfl O5 ?_
              refine hK.out _ _ ((hs4.set (by omega) _).set (by omega) _) ?_
              clear hK Kc
              try simp only [Act.put]
              refine wa_one 10 (by kernel_rfl) rfl (by kernel_rfl) (fun Kc hK => ?_)
              refine wp_store_row 27 (.tmp 12) (.tmp 48) rfl (W0.heap.size) #[.int .i64 k, .int .i64 ((N : Int) % x0), .int .i64 ((N : Int) % x1), .int .i64 N, .int .i64 (1 + (N : Int) % 255)] rfl rfl 27 _ ((z0.set (by omega) _).set (by omega) _).2 info27 rfl O5 ?_
              refine hK.out _ _ (((hs4.set (by omega) _).set (by omega) _).set (by omega) _) ?_
              clear hK Kc
              try simp only [Act.put]
              refine wa_one 11 (by kernel_rfl) rfl (by kernel_rfl) (fun Kc hK => ?_)
              refine wp_store_row 27 (.tmp 13) (.tmp 49) rfl (W0.heap.size + 1 + 1) #[.int .i64 k, .int .i64 ((N : Int) % x0), .int .i64 ((N : Int) % x1), .int .i64 N, .int .i64 (1 + (N : Int) % 255)] rfl rfl 27 _ (((z2.set (by omega) _).set (by omega) _).set (by omega) _).2 info27 rfl O5 ?_
              refine hK.out _ _ ((((hs4.set (by omega) _).set (by omega) _).set (by omega) _).set (by omega) _) ?_
              clear hK Kc
              try simp only [Act.put]
              obtain ⟨V, hV⟩ : ∃ z, z = ((((W4.setRow (W0.heap.size + 1 + 1 + 1) #[.int .i64 k, .int .i64 ((N : Int) % x0), .int .i64 ((N : Int) % x1), .int .i64 N, .int .i64 (1 + (N : Int) % 255)]).setRow (W0.heap.size + 1) #[.int .i64 k, .int .i64 ((N : Int) % x0), .int .i64 ((N : Int) % x1), .int .i64 N, .int .i64 (1 + (N : Int) % 255)]).setRow (W0.heap.size) #[.int .i64 k, .int .i64 ((N : Int) % x0), .int .i64 ((N : Int) % x1), .int .i64 N, .int .i64 (1 + (N : Int) % 255)]).setRow (W0.heap.size + 1 + 1) #[.int .i64 k, .int .i64 ((N : Int) % x0), .int .i64 ((N : Int) % x1), .int .i64 N, .int .i64 (1 + (N : Int) % 255)]) := ⟨_, rfl⟩
              rw [← hV]
              have R := hide (show Four w3 V (W0.heap.size + 1 + 1 + 1) (W0.heap.size + 1) (W0.heap.size) (W0.heap.size + 1 + 1) (.cells #[.int .i64 k, .int .i64 ((N : Int) % x0), .int .i64 ((N : Int) % x1), .int .i64 N, .int .i64 (1 + (N : Int) % 255)] 27) from by
                have sw0 := unhide SW0
                rw [hV]
                exact ⟨⟨((((z3.same _).set (by omega) _).set (by omega) _).set (by omega) _), ((((z1.set (by omega) _).same _).set (by omega) _).set (by omega) _), ((((z0.set (by omega) _).set (by omega) _).same _).set (by omega) _), ((((z2.set (by omega) _).set (by omega) _).set (by omega) _).same _)⟩, ⟨by omega, by omega, by omega, by omega⟩, ⟨by omega, by omega, by omega, by omega, by omega, by omega⟩, (below_setRow (below_setRow (below_setRow (below_setRow bw4 (by omega) _) (by omega) _) (by omega) _) (by omega) _)⟩)
              clear hV z0 z1 z2 z3 hs4 bw4 hW4 O5 hs bw0
              refine wa_done (by kernel_rfl) ?_
              go_wp2
              go_meet
              exact ⟨_, _, _, _, rfl, rfl, rfl, rfl, unhide R⟩
          · go_simp
            refine hK.out _ _ ((hs.alloc _).alloc _) ?_
            clear hK Kc
            try simp only [Act.put, List.setIfInBounds_toArray, List.set_cons_zero, List.set_cons_succ]
            refine wa_two 4 5 (by kernel_rfl) rfl rfl (by kernel_rfl) (by kernel_rfl) (fun Kc hK => ?_) (fun Kc hK => ?_)
            · go_simp
              refine hK.out _ _ (((hs.alloc _).alloc _).alloc _) ?_
              clear hK Kc
              try simp only [Act.put, List.setIfInBounds_toArray, List.set_cons_zero, List.set_cons_succ]
              refine wa_one 5 (by kernel_rfl) rfl (by kernel_rfl) (fun Kc hK => ?_)
              go_simp
              refine hK.out _ _ ((((hs.alloc _).alloc _).alloc _).alloc _) ?_
              clear hK Kc
              try simp only [Act.put, List.setIfInBounds_toArray, List.set_cons_zero, List.set_cons_succ]
              rw [← hW4]
              refine wa_one 8 (by kernel_rfl) rfl (by kernel_rfl) (fun Kc hK => ?_)
              refine wp_store_row 27 (.tmp 10) (.tmp 46) rfl (W0.heap.size + 1 + 1) #[.int .i64 k, .int .i64 ((N : Int) % x0), .int .i64 ((N : Int) % x1), .int .i64 N, .int .i64 (1 + (N : Int) % 255)] rfl rfl 27 _ z2.2 info27 rfl O5 ?_
              refine hK.out _ _ (hs4.set (by omega) _) ?_
              clear hK Kc
              try simp only [Act.put]
              refine wa_one 9 (by kernel_rfl) rfl (by kernel_rfl) (fun Kc hK => ?_)
              refine wp_store_row 27 (.tmp 11) (.tmp 47) rfl (W0.heap.size + 1 + 1 + 1) #[.int .i64 k, .int .i64 ((N : Int) % x0), .int .i64 ((N : Int) % x1), .int .i64 N, .int .i64 (1 + (N : Int) % 255)] rfl rfl 27 _ (z3.set (by omega) _).2 info27 rfl O5 ?_
              refine hK.out _ _ ((hs4.set (by omega) _).set (by omega) _) ?_
              clear hK Kc
              try simp only [Act.put]
              refine wa_one 10 (by kernel_rfl) rfl (by kernel_rfl) (fun Kc hK => ?_)
              refine wp_store_row 27 (.tmp 12) (.tmp 48) rfl (W0.heap.size) #[.int .i64 k, .int .i64 ((N : Int) % x0), .int .i64 ((N : Int) % x1), .int .i64 N, .int .i64 (1 + (N : Int) % 255)] rfl rfl 27 _ ((z0.set (by omega) _).set (by omega) _).2 info27 rfl O5 ?_
              refine hK.out _ _ (((hs4.set (by omega) _).set (by omega) _).set (by omega) _) ?_
              clear hK Kc
              try simp only [Act.put]
              refine wa_one 11 (by kernel_rfl) rfl (by kernel_rfl) (fun Kc hK => ?_)
              refine wp_store_row 27 (.tmp 13) (.tmp 49) rfl (W0.heap.size + 1) #[.int .i64 k, .int .i64 ((N : Int) % x0), .int .i64 ((N : Int) % x1), .int .i64 N, .int .i64 (1 + (N : Int) % 255)] rfl rfl 27 _ (((z1.set (by omega) _).set (by omega) _).set (by omega) _).2 info27 rfl O5 ?_
              refine hK.out _ _ ((((hs4.set (by omega) _).set (by omega) _).set (by omega) _).set (by omega) _) ?_
              clear hK Kc
              try simp only [Act.put]
              obtain ⟨V, hV⟩ : ∃ z, z = ((((W4.setRow (W0.heap.size + 1 + 1) #[.int .i64 k, .int .i64 ((N : Int) % x0), .int .i64 ((N : Int) % x1), .int .i64 N, .int .i64 (1 + (N : Int) % 255)]).setRow (W0.heap.size + 1 + 1 + 1) #[.int .i64 k, .int .i64 ((N : Int) % x0), .int .i64 ((N : Int) % x1), .int .i64 N, .int .i64 (1 + (N : Int) % 255)]).setRow (W0.heap.size) #[.int .i64 k, .int .i64 ((N : Int) % x0), .int .i64 ((N : Int) % x1), .int .i64 N, .int .i64 (1 + (N : Int) % 255)]).setRow (W0.heap.size + 1) #[.int .i64 k, .int .i64 ((N : Int) % x0), .int .i64 ((N : Int) % x1), .int .i64 N, .int .i64 (1 + (N : Int) % 255)]) := ⟨_, rfl⟩
              rw [← hV]
              have R := hide (show Four w3 V (W0.heap.size + 1 + 1) (W0.heap.size + 1 + 1 + 1) (W0.heap.size) (W0.heap.size + 1) (.cells #[.int .i64 k, .int .i64 ((N : Int) % x0), .int .i64 ((N : Int) % x1), .int .i64 N, .int .i64 (1 + (N : Int) % 255)] 27) from by
                have sw0 := unhide SW0
                rw [hV]
                exact ⟨⟨((((z2.same _).set (by omega) _).set (by omega) _).set (by omega) _), ((((z3.set (by omega) _).same _).set (by omega) _).set (by omega) _), ((((z0.set (by omega) _).set (by omega) _).same _).set (by omega) _), ((((z1.set (by omega) _).set (by omega) _).set (by omega) _).same _)⟩, ⟨by omega, by omega, by omega, by omega⟩, ⟨by omega, by omega, by omega, by omega, by omega, by omega⟩, (below_setRow (below_setRow (below_setRow (below_setRow bw4 (by omega) _) (by omega) _) (by omega) _) (by omega) _)⟩)
              clear hV z0 z1 z2 z3 hs4 bw4 hW4 O5 hs bw0
              refine wa_done (by kernel_rfl) ?_
              go_wp2
              go_meet
              exact ⟨_, _, _, _, rfl, rfl, rfl, rfl, unhide R⟩
            · go_simp
              refine hK.out _ _ (((hs.alloc _).alloc _).alloc _) ?_
              clear hK Kc
              try simp only [Act.put, List.setIfInBounds_toArray, List.set_cons_zero, List.set_cons_succ]
              refine wa_one 4 (by kernel_rfl) rfl (by kernel_rfl) (fun Kc hK => ?_)
              go_simp
              refine hK.out _ _ ((((hs.alloc _).alloc _).alloc _).alloc _) ?_
              clear hK Kc
              try simp only [Act.put, List.setIfInBounds_toArray, List.set_cons_zero, List.set_cons_succ]
              rw [← hW4]
              refine wa_one 8 (by kernel_rfl) rfl (by kernel_rfl) (fun Kc hK => ?_)
              refine wp_store_row 27 (.tmp 10) (.tmp 46) rfl (W0.heap.size + 1 + 1 + 1) #[.int .i64 k, .int .i64 ((N : Int) % x0), .int .i64 ((N : Int) % x1), .int .i64 N, .int .i64 (1 + (N : Int) % 255)] rfl rfl 27 _ z3.2 info27 rfl O5 ?_
              refine hK.out _ _ (hs4.set (by omega) _) ?_
              clear hK Kc
              try simp only [Act.put]
              refine wa_one 9 (by kernel_rfl) rfl (by kernel_rfl) (fun Kc hK => ?_)
              refine wp_store_row 27 (.tmp 11) (.tmp 47) rfl (W0.heap.size + 1 + 1) #[.int .i64 k, .int .i64 ((N : Int) % x0), .int .i64 ((N : Int) % x1), .int .i64 N, .int .i64 (1 + (N : Int) % 255)] rfl rfl 27 _ (z2.set (by omega) _).2 info27 rfl O5 ?_
              refine hK.out _ _ ((hs4.set (by omega) _).set (by omega) _) ?_
              clear hK Kc
              try simp only [Act.put]
              refine wa_one 10 (by kernel_rfl) rfl (by kernel_rfl) (fun Kc hK => ?_)
              refine wp_store_row 27 (.tmp 12) (.tmp 48) rfl (W0.heap.size) #[.int .i64 k, .int .i64 ((N : Int) % x0), .int .i64 ((N : Int) % x1), .int .i64 N, .int .i64 (1 + (N : Int) % 255)] rfl rfl 27 _ ((z0.set (by omega) _).set (by omega) _).2 info27 rfl O5 ?_
              refine hK.out _ _ (((hs4.set (by omega) _).set (by omega) _).set (by omega) _) ?_
              clear hK Kc
              try simp only [Act.put]
              refine wa_one 11 (by kernel_rfl) rfl (by kernel_rfl) (fun Kc hK => ?_)
              refine wp_store_row 27 (.tmp 13) (.tmp 49) rfl (W0.heap.size + 1) #[.int .i64 k, .int .i64 ((N : Int) % x0), .int .i64 ((N : Int) % x1), .int .i64 N, .int .i64 (1 + (N : Int) % 255)] rfl rfl 27 _ (((z1.set (by omega) _).set (by omega) _).set (by omega) _).2 info27 rfl O5 ?_
              refine hK.out _ _ ((((hs4.set (by omega) _).set (by omega) _).set (by omega) _).set (by omega) _) ?_
              clear hK Kc
              try simp only [Act.put]
              obtain ⟨V, hV⟩ : ∃ z, z = ((((W4.setRow (W0.heap.size + 1 + 1 + 1) #[.int .i64 k, .int .i64 ((N : Int) % x0), .int .i64 ((N : Int) % x1), .int .i64 N, .int .i64 (1 + (N : Int) % 255)]).setRow (W0.heap.size + 1 + 1) #[.int .i64 k, .int .i64 ((N : Int) % x0), .int .i64 ((N : Int) % x1), .int .i64 N, .int .i64 (1 + (N : Int) % 255)]).setRow (W0.heap.size) #[.int .i64 k, .int .i64 ((N : Int) % x0), .int .i64 ((N : Int) % x1), .int .i64 N, .int .i64 (1 + (N : Int) % 255)]).setRow (W0.heap.size + 1) #[.int .i64 k, .int .i64 ((N : Int) % x0), .int .i64 ((N : Int) % x1), .int .i64 N, .int .i64 (1 + (N : Int) % 255)]) := ⟨_, rfl⟩
              rw [← hV]
              have R := hide (show Four w3 V (W0.heap.size + 1 + 1 + 1) (W0.heap.size + 1 + 1) (W0.heap.size) (W0.heap.size + 1) (.cells #[.int .i64 k, .int .i64 ((N : Int) % x0), .int .i64 ((N : Int) % x1), .int .i64 N, .int .i64 (1 + (N : Int) % 255)] 27) from by
                have sw0 := unhide SW0
                rw [hV]
                exact ⟨⟨((((z3.same _).set (by omega) _).set (by omega) _).set (by omega) _), ((((z2.set (by omega) _).same _).set (by omega) _).set (by omega) _), ((((z0.set (by omega) _).set (by omega) _).same _).set (by omega) _), ((((z1.set (by omega) _).set (by omega) _).set (by omega) _).same _)⟩, ⟨by omega, by omega, by omega, by omega⟩, ⟨by omega, by omega, by omega, by omega, by omega, by omega⟩, (below_setRow (below_setRow (below_setRow (below_setRow bw4 (by omega) _) (by omega) _) (by omega) _) (by omega) _)⟩)
              clear hV z0 z1 z2 z3 hs4 bw4 hW4 O5 hs bw0
              refine wa_done (by kernel_rfl) ?_
              go_wp2
              go_meet
              exact ⟨_, _, _, _, rfl, rfl, rfl, rfl, unhide R⟩
        · go_simp
          refine hK.out _ _ (hs.alloc _) ?_
          clear hK Kc
          try simp only [Act.put, List.setIfInBounds_toArray, List.set_cons_zero, List.set_cons_succ]
          refine wa_three 4 5 6 (by kernel_rfl) rfl rfl rfl (by kernel_rfl) (by kernel_rfl) (by kernel_rfl) (fun Kc hK => ?_) (fun Kc hK => ?_) (fun Kc hK => ?_)
          · go_simp
            refine hK.out _ _ ((hs.alloc _).alloc _) ?_
            clear hK Kc
            try simp only [Act.put, List.setIfInBounds_toArray, List.set_cons_zero, List.set_cons_succ]
            refine wa_two 5 6 (by kernel_rfl) rfl rfl (by kernel_rfl) (by kernel_rfl) (fun Kc hK => ?_) (fun Kc hK => ?_)
            · go_simp
              refine hK.out _ _ (((hs.alloc _).alloc _).alloc _) ?_
              clear hK Kc
              try simp only [Act.put, List.setIfInBounds_toArray, List.set_cons_zero, List.set_cons_succ]
              refine wa_one 6 (by kernel_rfl) rfl (by kernel_rfl) (fun Kc hK => ?_)
              go_simp
              refine hK.out _ _ ((((hs.alloc _).alloc _).alloc _).alloc _) ?_
              clear hK Kc
              try simp only [Act.put, List.setIfInBounds_toArray, List.set_cons_zero, List.set_cons_succ]
              rw [← hW4]
              refine wa_one 8 (by kernel_rfl) rfl (by kernel_rfl) (fun Kc hK => ?_)
              refine wp_store_row 27 (.tmp 10) (.tmp 46) rfl (W0.heap.size + 1) #[.int .i64 k, .int .i64 ((N : Int) % x0), .int .i64 ((N : Int) % x1), .int .i64 N, .int .i64 (1 + (N : Int) % 255)] rfl rfl 27 _ z1.2 info27 rfl O5 ?_
              refine hK.out _ _ (hs4.set (by omega) _) ?_
              clear hK Kc
              try simp only [Act.put]
              refine wa_one 9 (by kernel_rfl) rfl (by kernel_rfl) (fun Kc hK => ?_)
              refine wp_store_row 27 (.tmp 11) (.tmp 47) rfl (W0.heap.size + 1 + 1) #[.int .i64 k, .int .i64 ((N : Int) % x0), .int .i64 ((N : Int) % x1), .int .i64 N, .int .i64 (1 + (N : Int) % 255)] rfl rfl 27 _ (z2.set (by omega) _).2 info27 rfl O5 ?_
              refine hK.out _ _ ((hs4.set (by omega) _).set (by omega) _) ?_
              clear hK Kc
              try simp only [Act.put]
              refine wa_one 10 (by kernel_rfl) rfl (by kernel_rfl) (fun Kc hK => ?_)
              refine wp_store_row 27 (.tmp 12) (.tmp 48) rfl (W0.heap.size + 1 + 1 + 1) #[.int .i64 k, .int .i64 ((N : Int) % x0), .int .i64 ((N : Int) % x1), .int .i64 N, .int .i64 (1 + (N : Int) % 255)] rfl rfl 27 _ ((z3.set (by omega) _).set (by omega) _).2 info27 rfl O5 ?_
              refine hK.out _ _ (((hs4.set (by omega) _).set (by omega) _).set (by omega) _) ?_
              clear hK Kc
              try simp only [Act.put]
              refine wa_one 11 (by kernel_rfl) rfl (by kernel_rfl) (fun Kc hK => ?_)
              refine wp_store_row 27 (.tmp 13) (.tmp 49) rfl (W0.heap.size) #[.int .i64 k, .int .i64 ((N : Int) % x0), .int .i64 ((N : Int) % x1), .int .i64 N, .int .i64 (1 + (N : Int) % 255)] rfl rfl 27 _ (((z0.set (by omega) _).set (by omega) _).set (by omega) _).2 info27 rfl O5 ?_
              refine hK.out _ _ ((((hs4.set (by omega) _).set (by omega) _).set (by omega) _).set (by omega) _) ?_
              clear hK Kc
              try simp only [Act.put]
              obtain ⟨V, hV⟩ : ∃ z, z = ((((W4.setRow (W0.heap.size + 1) #[.int .i64 k, .int .i64 ((N : Int) % x0), .int .i64 ((N : Int) % x1), .int .i64 N, .int .i64 (1 + (N : Int) % 255)]).setRow (W0.heap.size + 1 + 1) #[.int .i64 k, .int .i64 ((N : Int) % x0), .int .i64 ((N : Int) % x1), .int .i64 N, .int .i64 (1 + (N : Int) % 255)]).setRow (W0.heap.size + 1 + 1 + 1) #[.int .i64 k, .int .i64 ((N : Int) % x0), .int .i64 ((N : Int) % x1), .int .i64 N, .int .i64 (1 + (N : Int) % 255)]).setRow (W0.heap.size) #[.int .i64 k, .int .i64 ((N : Int) % x0), .int .i64 ((N : Int) % x1), .int .i64 N, .int .i64 (1 + (N : Int) % 255)]) := ⟨_, rfl⟩
              rw [← hV]
              have R := hide (show Four w3 V (W0.heap.size + 1) (W0.heap.size + 1 + 1) (W0.heap.size + 1 + 1 + 1) (W0.heap.size) (.cells #[.int .i64 k, .int .i64 ((N : Int) % x0), .int .i64 ((N : Int) % x1), .int .i64 N, .int .i64 (1 + (N : Int) % 255)] 27) from by
                have sw0 := unhide SW0
                rw [hV]
                exact ⟨⟨((((z1.same _).set (by omega) _).set (by omega) _).set (by omega) _), ((((z2.set (by omega) _).same _).set (by omega) _).set (by omega) _), ((((z3.set (by omega) _).set (by omega) _).same _).set (by omega) _), ((((z0.set (by omega) _).set (by omega) _).set (by omega) _).same _)⟩, ⟨by omega, by omega, by omega, by omega⟩, ⟨by omega, by omega, by omega, by omega, by omega, by omega⟩, (below_setRow (below_setRow (below_setRow (below_setRow bw4 (by omega) _) (by omega) _) (by omega) _) (by omega) _)⟩)
              clear hV z0 z1 z2 z3 hs4 bw4 hW4 O5 hs bw0
              refine wa_done (by kernel_rfl) ?_
              go_wp2
              go_meet
              exact ⟨_, _, _, _, rfl, rfl, rfl, rfl, unhide R⟩
            · go_simp
              refine hK.out _ _ (((hs.alloc _).alloc _).alloc _) ?_
              clear hK Kc
              try simp only [Act.put, List.setIfInBounds_toArray, List.set_cons_zero, List.set_cons_succ]
              refine wa_one 5 (by kernel_rfl) rfl (by kernel_rfl) (fun Kc hK => ?_)
              go_simp
              refine hK.out _ _ ((((hs.alloc _).alloc _).alloc _).alloc _) ?_
              clear hK Kc
              try simp only [Act.put, List.setIfInBounds_toArray, List.set_cons_zero, List.set_cons_succ]
              rw [← hW4]
              refine wa_one 8 (by kernel_rfl) rfl (by kernel_rfl) (fun Kc hK => ?_)
              refine wp_store_row 27 (.tmp 10) (.tmp 46) rfl (W0.heap.size + 1) #[.int .i64 k, .int .i64 ((N : Int) % x0), .int .i64 ((N : Int) % x1), .int .i64 N, .int .i64 (1 + (N : Int) % 255)] rfl rfl 27 _ z1.2 info27 rfl O5 ?_
              refine hK.out _ _ (hs4.set (by omega) _) ?_
              clear hK Kc
              try simp only [Act.put]
              refine wa_one 9 (by kernel_rfl) rfl (by kernel_rfl) (fun Kc hK => ?_)
              refine wp_store_row 27 (.tmp 11) (.tmp 47) rfl (W0.heap.size + 1 + 1 + 1) #[.int .i64 k, .int .i64 ((N : Int) % x0), .int .i64 ((N : Int) % x1), .int .i64 N, .int .i64 (1 + (N : Int) % 255)] rfl rfl 27 _ (z3.set (by omega) _).2 info27 rfl O5 ?_
              refine hK.out _ _ ((hs4.set (by omega) _).set (by omega) _) ?_
              clear hK Kc
              try simp only [Act.put]
              refine wa_one 10 (by kernel_rfl) rfl (by kernel_rfl) (fun Kc hK => ?_)
              refine wp_store_row 27 (.tmp 12) (.tmp 48) rfl (W0.heap.size + 1 + 1) #[.int .i64 k, .int .i64 ((N : Int) % x0), .int .i64 ((N : Int) % x1), .int .i64 N, .int .i64 (1 + (N : Int) % 255)] rfl rfl 27 _ ((z2.set (by omega) _).set (by omega) _).2 info27 rfl O5 ?_
              refine hK.out _ _ (((hs4.set (by omega) _).set (by omega) _).set (by omega) _) ?_
              clear hK Kc
              try simp only [Act.put]
              refine wa_one 11 (by kernel_rfl) rfl (by kernel_rfl) (fun Kc hK => ?_)
              refine wp_store_row 27 (.tmp 13) (.tmp 49) rfl (W0.heap.size) #[.int .i64 k, .int .i64 ((N : Int) % x0), .int .i64 ((N : Int) % x1), .int .i64 N, .int .i64 (1 + (N : Int) % 255)] rfl rfl 27 _ (((z0.set (by omega) _).set (by omega) _).set (by omega) _).2 info27 rfl O5 ?_
              refine hK.out _ _ ((((hs4.set (by omega) _).set (by omega) _).set (by omega) _).set (by omega) _) ?_
              clear hK Kc
              try simp only [Act.put]
              obtain ⟨V, hV⟩ : ∃ z, z = ((((W4.setRow (W0.heap.size + 1) #[.int .i64 k, .int .i64 ((N : Int) % x0), .int .i64 ((N : Int) % x1), .int .i64 N, .int .i64 (1 + (N : Int) % 255)]).setRow (W0.heap.size + 1 + 1 + 1) #[.int .i64 k, .int .i64 ((N : Int) % x0), .int .i64 ((N : Int) % x1), .int .i64 N, .int .i64 (1 + (N : Int) % 255)]).setRow (W0.heap.size + 1 + 1) #[.int .i64 k, .int .i64 ((N : Int) % x0), .int .i64 ((N : Int) % x1), .int .i64 N, .int .i64 (1 + (N : Int) % 255)]).setRow (W0.heap.size) #[.int .i64 k, .int .i64 ((N : Int) % x0), .int .i64 ((N : Int) % x1), .int .i64 N, .int .i64 (1 + (N : Int) % 255)]) := ⟨_, rfl⟩
              rw [← hV]
              have R := hide (show Four w3 V (W0.heap.size + 1) (W0.heap.size + 1 + 1 + 1) (W0.heap.size + 1 + 1) (W0.heap.size) (.cells #[.int .i64 k, .int .i64 ((N : Int) % x0), .int .i64 ((N : Int) % x1), .int .i64 N, .int .i64 (1 + (N : Int) % 255)] 27) from by
                have sw0 := unhide SW0
                rw [hV]
                exact ⟨⟨((((z1.same _).set (by omega) _).set (by omega) _).set (by omega) _), ((((z3.set (by omega) _).same _).set (by omega) _).set (by omega) _), ((((z2.set (by omega) _).set (by omega) _).same _).set (by omega) _), ((((z0.set (by omega) _).set (by omega) _).set (by omega) _).same _)⟩, ⟨by omega, by omega, by omega, by omega⟩, ⟨by omega, by omega, by omega, by omega, by omega, by omega⟩, (below_setRow (below_setRow (below_setRow (below_setRow bw4 (by omega) _) (by omega) _) (by omega) _) (by omega) _)⟩)
              clear hV z0 z1 z2 z3 hs4 bw4 hW4 O5 hs bw0
              refine wa_done (by kernel_rfl) ?_
              go_wp2
              go_meet
              exact ⟨_, _, _, _, rfl, rfl, rfl, rfl, unhide R⟩
          · go_simp
            refine hK.out _ _ ((hs.alloc _).alloc _) ?_
            clear hK Kc
            try simp only [Act.put, List.setIfInBounds_toArray, List.set_cons_zero, List.set_cons_succ]
            refine wa_two 4 6 (by kernel_rfl) rfl rfl (by kernel_rfl) (by kernel_rfl) (fun Kc hK => ?_) (fun Kc hK => ?_)
            · go_simp
              refine hK.out _ _ (((hs.alloc _).alloc _).alloc _) ?_
              clear hK Kc
              try simp only [Act.put, List.setIfInBounds_toArray, List.set_cons_zero, List.set_cons_succ]
              refine wa_one 6 (by kernel_rfl) rfl (by kernel_rfl) (fun Kc hK => ?_)
              go_simp
              refine hK.out _ _ ((((hs.alloc _).alloc _).alloc _).alloc _) ?_
              clear hK Kc
              try simp only [Act.put, List.setIfInBounds_toArray, List.set_cons_zero, List.set_cons_succ]
              rw [← hW4]
              refine wa_one 8 (by kernel_rfl) rfl (by kernel_rfl) (fun Kc hK => ?_)
              refine wp_store_row 27 (.tmp 10) (.tmp 46) rfl (W0.heap.size + 1 + 1) #[.int .i64 k, .int .i64 ((N : Int) % x0), .int .i64 ((N : Int) % x1), .int .i64 N, .int .i64 (1 + (N : Int) % 255)] rfl rfl 27 _ z2.2 info27 rfl O5 ?_
              refine hK.out _ _ (hs4.set (by omega) _) ?_
              clear hK Kc
              try simp only [Act.put]
              refine wa_one 9 (by kernel_rfl) rfl (by kernel_rfl) (fun Kc hK => ?_)
              refine wp_store_row 27 (.tmp 11) (.tmp 47) rfl (W0.heap.size + 1) #[.int .i64 k, .int .i64 ((N : Int) % x0), .int .i64 ((N : Int) % x1), .int .i64 N, .int .i64 (1 + (N : Int) % 255)] rfl rfl 27 _ (z1.set (by omega) _).2 info27 rfl O5 ?_
              refine hK.out _ _ ((hs4.set (by omega) _).set (by omega) _) ?_
              clear hK Kc
              try simp only [Act.put]
              refine wa_one 10 (by kernel_rfl) rfl (by kernel_rfl) (fun Kc hK => ?_)
              refine wp_store_row 27 (.tmp 12) (.tmp 48) rfl (W0.heap.size + 1 + 1 + 1) #[.int .i64 k, .int .i64 ((N : Int) % x0), .int .i64 ((N : Int) % x1), .int .i64 N, .int .i64 (1 + (N : Int) % 255)] rfl rfl 27 _ ((z3.set (by omega) _).set (by omega) _).2 info27 rfl O5 ?_
              refine hK.out _ _ (((hs4.set (by omega) _).set (by omega) _).set (by omega) _) ?_
              clear hK Kc
              try simp only [Act.put]
              refine wa_one 11 (by kernel_rfl) rfl (by kernel_rfl) (fun Kc hK => ?_)
              refine wp_store_row 27 (.tmp 13) (.tmp 49) rfl (W0.heap.size) #[.int .i64 k, .int .i64 ((N : Int) % x0), .int .i64 ((N : Int) % x1), .int .i64 N, .int .i64 (1 + (N : Int) % 255)] rfl rfl 27 _ (((z0.set (by omega) _).set (by omega) _).set (by omega) _).2 info27 rfl O5 ?_
              refine hK.out _ _ ((((hs4.set (by omega) _).set (by omega) _).set (by omega) _).set (by omega) _) ?_
              clear hK Kc
              try simp only [Act.put]
              obtain ⟨V, hV⟩ : ∃ z, z = ((((W4.setRow (W0.heap.size + 1 + 1) #[.int .i64 k, .int .i64 ((N : Int) % x0), .int .i64 ((N : Int) % x1), .int .i64 N, .int .i64 (1 + (N : Int) % 255)]).setRow (W0.heap.size + 1) #[.int .i64 k, .int .i64 ((N : Int) % x0), .int .i64 ((N : Int) % x1), .int .i64 N, .int .i64 (1 + (N : Int) % 255)]).setRow (W0.heap.size + 1 + 1 + 1) #[.int .i64 k, .int .i64 ((N : Int) % x0), .int .i64 ((N : Int) % x1), .int .i64 N, .int .i64 (1 + (N : Int) % 255)]).setRow (W0.heap.size) #[.int .i64 k, .int .i64 ((N : Int) % x0), .int .i64 ((N : Int) % x1), .int .i64 N, .int .i64 (1 + (N : Int) % 255)]) := ⟨_, rfl⟩
              rw [← hV]
              have R := hide (show Four w3 V (W0.heap.size + 1 + 1) (W0.heap.size + 1) (W0.heap.size + 1 + 1 + 1) (W0.heap.size) (.cells #[.int .i64 k, .int .i64 ((N : Int) % x0), .int .i64 ((N : Int) % x1), .int .i64 N, .int .i64 (1 + (N : Int) % 255)] 27) from by
                have sw0 := unhide SW0
                rw [hV]
                exact ⟨⟨((((z2.same _).set (by omega) _).set (by omega) _).set (by omega) _), ((((z1.set (by omega) _).same _).set (by omega) _).set (by omega) _), ((((z3.set (by omega) _).set (by omega) _).same _).set (by omega) _), ((((z0.set (by omega) _).set (by omega) _).set (by omega) _).same _)⟩, ⟨by omega, by omega, by omega, by omega⟩, ⟨by omega, by omega, by omega, by omega, by omega, by omega⟩, (below_setRow (below_setRow (below_setRow (below_setRow bw4 (by omega) _) (by omega) _) (by omega) _) (by omega) _)⟩)
              clear hV z0 z1 z2 z3 hs4 bw4 hW4 O5 hs bw0
              refine wa_done (by kernel_rfl) ?_
              go_wp2
              go_meet
              exact ⟨_, _, _, _, rfl, rfl, rfl, rfl, unhide R⟩
            · go_simp
              refine hK.out _ _ (((hs.alloc _).alloc _).alloc _) ?_
              clear hK Kc
              try simp only [Act.put, List.setIfInBounds_toArray, List.set_cons_zero, List.set_cons_succ]
              refine wa_one 4 (by kernel_rfl) rfl (by kernel_rfl) (fun Kc hK => ?_)
              go_simp
              refine hK.out _ _ ((((hs.alloc _).alloc _).alloc _).alloc _) ?_
              clear hK Kc
              try simp only [Act.put, List.setIfInBounds_toArray, List.set_cons_zero, List.set_cons_succ]
              rw [← hW4]
              refine wa_one 8 (by kernel_rfl) rfl (by kernel_rfl) (fun Kc hK => ?_)
              refine wp_store_row 27 (.tmp 10) (.tmp 46) rfl (W0.heap.size + 1 + 1 + 1) #[.int .i64 k, .int .i64 ((N : Int) % x0), .int .i64 ((N : Int) % x1), .int .i64 N, .int .i64 (1 + (N : Int) % 255)] rfl rfl 27 _ z3.2 info27 rfl O5 ?_
              refine hK.out _ _ (hs4.set (by omega) _) ?_
              clear hK Kc
              try simp only [Act.put]
              refine wa_one 9 (by kernel_rfl) rfl (by kernel_rfl) (fun Kc hK => ?_)
              refine wp_store_row 27 (.tmp 11) (.tmp 47) rfl (W0.heap.size + 1) #[.int .i64 k, .int .i64 ((N : Int) % x0), .int .i64 ((N : Int) % x1), .int .i64 N, .int .i64 (1 + (N : Int) % 255)] rfl rfl 27 _ (z1.set (by omega) _).2 info27 rfl O5 ?_
              refine hK.out _ _ ((hs4.set (by omega) _).set (by omega) _) ?_
              clear hK Kc
              try simp only [Act.put]
              refine wa_one 10 (by kernel_rfl) rfl (by kernel_rfl) (fun Kc hK => ?_)
              refine wp_store_row 27 (.tmp 12) (.tmp 48) rfl (W0.heap.size + 1 + 1) #[.int .i64 k, .int .i64 ((N : Int) % x0), .int .i64 ((N : Int) % x1), .int .i64 N, .int .i64 (1 + (N : Int) % 255)] rfl rfl 27 _ ((z2.set (by omega) _).set (by omega) _).2 info27 rfl O5 ?_
              refine hK.out _ _ (((hs4.set (by omega) _).set (by omega) _).set (by omega) _) ?_
              clear hK Kc
              try simp only [Act.put]
              refine wa_one 11 (by kernel_rfl) rfl (by kernel_rfl) (fun Kc hK => ?_)
              refine wp_store_row 27 (.tmp 13) (.tmp 49) rfl (W0.heap.size) #[.int .i64 k, .int .i64 ((N : Int) % x0), .int .i64 ((N : Int) % x1), .int .i64 N, .int .i64 (1 + (N : Int) % 255)] rfl rfl 27 _ (((z0.set (by omega) _).set (by omega) _).set (by omega) _).2 info27 rfl O5 ?_
              refine hK.out _ _ ((((hs4.set (by omega) _).set (by omega) _).set (by omega) _).set (by omega) _) ?_
              clear hK Kc
              try simp only [Act.put]
              obtain ⟨V, hV⟩ : ∃ z, z = ((((W4.setRow (W0.heap.size + 1 + 1 + 1) #[.int .i64 k, .int .i64 ((N : Int) % x0), .int .i64 ((N : Int) % x1), .int .i64 N, .int .i64 (1 + (N : Int) % 255)]).setRow (W0.heap.size + 1) #[.int .i64 k, .int .i64 ((N : Int) % x0), .int .i64 ((N : Int) % x1), .int .i64 N, .int .i64 (1 + (N : Int) % 255)]).setRow (W0.heap.size + 1 + 1) #[.int .i64 k, .int .i64 ((N : Int) % x0), .int .i64 ((N : Int) % x1), .int .i64 N, .int .i64 (1 + (N : Int) % 255)]).setRow (W0.heap.size) #[.int .i64 k, .int .i64 ((N : Int) % x0), .int .i64 ((N : Int) % x1), .int .i64 N, .int .i64 (1 + (N : Int) % 255)]) := ⟨_, rfl⟩
              rw [← hV]
              have R := hide (show Four w3 V (W0.heap.size + 1 + 1 + 1) (W0.heap.size + 1) (W0.heap.size + 1 + 1) (W0.heap.size) (.cells #[.int .i64 k, .int .i64 ((N : Int) % x0), .int .i64 ((N : Int) % x1), .int .i64 N, .int .i64 (1 + (N : Int) % 255)] 27) from by
                have sw0 := unhide SW0
                rw [hV]
                exact ⟨⟨((((z3.same _).set (by omega) _).set (by omega) _).set (by omega) _), ((((z1.set (by omega) _).same _).set (by omega) _).set (by omega) _), ((((z2.set (by omega) _).set (by omega) _).same _).set (by omega) _), ((((z0.set (by omega) _).set (by omega) _).set (by omega) _).same _)⟩, ⟨by omega, by omega, by omega, by omega⟩, ⟨by omega, by omega, by omega, by omega, by omega, by omega⟩, (below_setRow (below_setRow (below_setRow (below_setRow bw4 (by omega) _) (by omega) _) (by omega) _) (by omega) _)⟩)
              clear hV z0 z1 z2 z3 hs4 bw4 hW4 O5 hs bw0
              refine wa_done (by kernel_rfl) ?_
              go_wp2
              go_meet
              exact ⟨_, _, _, _, rfl, rfl, rfl, rfl, unhide R⟩
          · go_simp
            refine hK.out _ _ ((hs.alloc _).alloc _) ?_
            clear hK Kc
            try simp only [Act.put, List.setIfInBounds_toArray, List.set_cons_zero, List.set_cons_succ]
            refine wa_two 4 5 (by kernel_rfl) rfl rfl (by kernel_rfl) (by kernel_rfl) (fun Kc hK => ?_) (fun Kc hK => ?_)
            · go_simp
              refine hK.out _ _ (((hs.alloc _).alloc _).alloc _) ?_
              clear hK Kc
              try simp only [Act.put, List.setIfInBounds_toArray, List.set_cons_zero, List.set_cons_succ]
              refine wa_one 5 (by kernel_rfl) rfl (by kernel_rfl) (fun Kc hK => ?_)
              go_simp
              refine hK.out _ _ ((((hs.alloc _).alloc _).alloc _).alloc _) ?_
              clear hK Kc
              try simp only [Act.put, List.setIfInBounds_toArray, List.set_cons_zero, List.set_cons_succ]
              rw [← hW4]
              refine wa_one 8 (by kernel_rfl) rfl (by kernel_rfl) (fun Kc hK => ?_)
              refine wp_store_row 27 (.tmp 10) (.tmp 46) rfl (W0.heap.size + 1 + 1) #[.int .i64 k, .int .i64 ((N : Int) % x0), .int .i64 ((N : Int) % x1), .int .i64 N, .int .i64 (1 + (N : Int) % 255)] rfl rfl 27 _ z2.2 info27 rfl O5 ?_
              refine hK.out _ _ (hs4.set (by omega) _) ?_
              clear hK Kc
              try simp only [Act.put]
              refine wa_one 9 (by kernel_rfl) rfl (by kernel_rfl) (fun Kc hK => ?_)
              refine wp_store_row 27 (.tmp 11) (.tmp 47) rfl (W0.heap.size + 1 + 1 + 1) #[.int .i64 k, .int .i64 ((N : Int) % x0), .int .i64 ((N : Int) % x1), .int .i64 N, .int .i64 (1 + (N : Int) % 255)] rfl rfl 27 _ (z3.set (by omega) _).2 info27 rfl O5 ?_
              refine hK.out _ _ ((hs4.set (by omega) _).set (by omega) _) ?_
              clear hK Kc
              try simp only [Act.put]
              refine wa_one 10 (by kernel_rfl) rfl (by kernel_rfl) (fun Kc hK => ?_)
              refine wp_store_row 27 (.tmp 12) (.tmp 48) rfl (W0.heap.size + 1) #[.int .i64 k, .int .i64 ((N : Int) % x0), .int .i64 ((N : Int) % x1), .int .i64 N, .int .i64 (1 + (N : Int) % 255)] rfl rfl 27 _ ((z1.set (by omega) _).set (by omega) _).2 info27 rfl O5 ?_
              refine hK.out _ _ (((hs4.set (by omega) _).set (by omega) _).set (by omega) _) ?_
              clear hK Kc
              try simp only [Act.put]
              refine wa_one 11 (by kernel_rfl) rfl (by kernel_rfl) (fun Kc hK => ?_)
              refine wp_store_row 27 (.tmp 13) (.tmp 49) rfl (W0.heap.size) #[.int .i64 k, .int .i64 ((N : Int) % x0), .int .i64 ((N : Int) % x1), .int .i64 N, .int .i64 (1 + (N : Int) % 255)] rfl rfl 27 _ (((z0.set (by omega) _).set (by omega) _).set (by omega) _).2 info27 rfl O5 ?_
              refine hK.out _ _ ((((hs4.set (by omega) _).set (by omega) _).set (by omega) _).set (by omega) _) ?_
              clear hK Kc
              try simp only [Act.put]
              obtain ⟨V, hV⟩ : ∃ z, z = ((((W4.setRow (W0.heap.size + 1 + 1) #[.int .i64 k, .int .i64 ((N : Int) % x0), .int .i64 ((N : Int) % x1), .int .i64 N, .int .i64 (1 + (N : Int) % 255)]).setRow (W0.heap.size + 1 + 1 + 1) #[.int .i64 k, .int .i64 ((N : Int) % x0), .int .i64 ((N : Int) % x1), .int .i64 N, .int .i64 (1 + (N : Int) % 255)]).setRow (W0.heap.size + 1) #[.int .i64 k, .int .i64 ((N : Int) % x0), .int .i64 ((N : Int) % x1), .int .i64 N, .int .i64 (1 + (N : Int) % 255)]).setRow (W0.heap.size) #[.int .i64 k, .int .i64 ((N : Int) % x0), .int .i64 ((N : Int) % x1), .int .i64 N, .int .i64 (1 + (N : Int) % 255)]) := ⟨_, rfl⟩
              rw [← hV]
              have R := hide (show Four w3 V (W0.heap.size + 1 + 1) (W0.heap.size + 1 + 1 + 1) (W0.heap.size + 1) (W0.heap.size) (.cells #[.int .i64 k, .int .i64 ((N : Int) % x0), .int .i64 ((N : Int) % x1), .int .i64 N, .int .i64 (1 + (N : Int) % 255)] 27) from by
                have sw0 := unhide SW0
                rw [hV]
                exact ⟨⟨((((z2.same _).set (by omega) _).set (by omega) _).set (by omega) _), ((((z3.set (by omega) _).same _).set (by omega) _).set (by omega) _), ((((z1.set (by omega) _).set (by omega) _).same _).set (by omega) _), ((((z0.set (by omega) _).set (by omega) _).set (by omega) _).same _)⟩, ⟨by omega, by omega, by omega, by omega⟩, ⟨by omega, by omega, by omega, by omega, by omega, by omega⟩, (below_setRow (below_setRow (below_setRow (below_setRow bw4 (by omega) _) (by omega) _) (by omega) _) (by omega) _)⟩)
              clear hV z0 z1 z2 z3 hs4 bw4 hW4 O5 hs bw0
              refine wa_done (by kernel_rfl) ?_
              go_wp2
              go_meet
              exact ⟨_, _, _, _, rfl, rfl, rfl, rfl, unhide R⟩
            · go_simp
              refine hK.out _ _ (((hs.alloc _).alloc _).alloc _) ?_
              clear hK Kc
              try simp only [Act.put, List.setIfInBounds_toArray, List.set_cons_zero, List.set_cons_succ]
              refine wa_one 4 (by kernel_rfl) rfl (by kernel_rfl) (fun Kc hK => ?_)
              go_simp
              refine hK.out _ _ ((((hs.alloc _).alloc _).alloc _).alloc _) ?_
              clear hK Kc
              try simp only [Act.put, List.setIfInBounds_toArray, List.set_cons_zero, List.set_cons_succ]
              rw [← hW4]
              refine wa_one 8 (by kernel_rfl) rfl (by kernel_rfl) (fun Kc hK => ?_)
              refine wp_store_row 27 (.tmp 10) (.tmp 46) rfl (W0.heap.size + 1 + 1 + 1) #[.int .i64 k, .int .i64 ((N : Int) % x0), .int .i64 ((N : Int) % x1), .int .i64 N, .int .i64 (1 + (N : Int) % 255)] rfl rfl 27 _ z3.2 info27 rfl O5 ?_
              refine hK.out _ _ (hs4.set (by omega) _) ?_
              clear hK Kc
              try simp only [Act.put]
              refine wa_one 9 (by kernel_rfl) rfl (by kernel_rfl) (fun Kc hK => ?_)
              refine wp_store_row 27 (.tmp 11) (.tmp 47) rfl (W0.heap.size + 1 + 1) #[.int .i64 k, .int .i64 ((N : Int) % x0), .int .i64 ((N : Int) % x1), .int .i64 N, .int .i64 (1 + (N : Int) % 255)] rfl rfl 27 _ (z2.set (by omega) _).2 info27 rfl O5 ?_
              refine hK.out _ _ ((hs4.set (by omega) _).set (by omega) _) ?_
              clear hK Kc
              try simp only [Act.put]
              refine wa_one 10 (by kernel_rfl) rfl (by kernel_rfl) (fun Kc hK => ?_)
              refine wp_store_row 27 (.tmp 12) (.tmp 48) rfl (W0.heap.size + 1) #[.int .i64 k, .int .i64 ((N : Int) % x0), .int .i64 ((N : Int) % x1), .int .i64 N, .int .i64 (1 + (N : Int) % 255)] rfl rfl 27 _ ((z1.set (by omega) _).set (by omega) _).2 info27 rfl O5 ?_
              refine hK.out _ _ (((hs4.set (by omega) _).set (by omega) _).set (by omega) _) ?_
              clear hK Kc
              try simp only [Act.put]
              refine wa_one 11 (by kernel_rfl) rfl (by kernel_rfl) (fun Kc hK => ?_)
              refine wp_store_row 27 (.tmp 13) (.tmp 49) rfl (W0.heap.size) #[.int .i64 k, .int .i64 ((N : Int) % x0), .int .i64 ((N : Int) % x1), .int .i64 N, .int .i64 (1 + (N : Int) % 255)] rfl rfl 27 _ (((z0.set (by omega) _).set (by omega) _).set (by omega) _).2 info27 rfl O5 ?_
              refine hK.out _ _ ((((hs4.set (by omega) _).set (by omega) _).set (by omega) _).set (by omega) _) ?_
              clear hK Kc
              try simp only [Act.put]
              obtain ⟨V, hV⟩ : ∃ z, z = ((((W4.setRow (W0.heap.size + 1 + 1 + 1) #[.int .i64 k, .int .i64 ((N : Int) % x0), .int .i64 ((N : Int) % x1), .int .i64 N, .int .i64 (1 + (N : Int) % 255)]).setRow (W0.heap.size + 1 + 1) #[.int .i64 k, .int .i64 ((N : Int) % x0), .int .i64 ((N : Int) % x1), .int .i64 N, .int .i64 (1 + (N : Int) % 255)]).setRow (W0.heap.size + 1) #[.int .i64 k, .int .i64 ((N : Int) % x0), .int .i64 ((N : Int) % x1), .int .i64 N, .int .i64 (1 + (N : Int) % 255)]).setRow (W0.heap.size) #[.int .i64 k, .int .i64 ((N : Int) % x0), .int .i64 ((N : Int) % x1), .int .i64 N, .int .i64 (1 + (N : Int) % 255)]) := ⟨_, rfl⟩
              rw [← hV]
              have R := hide (show Four w3 V (W0.heap.size + 1 + 1 + 1) (W0.heap.size + 1 + 1) (W0.heap.size + 1) (W0.heap.size) (.cells #[.int .i64 k, .int .i64 ((N : Int) % x0), .int .i64 ((N : Int) % x1), .int .i64 N, .int .i64 (1 + (N : Int) % 255)] 27) from by
                have sw0 := unhide SW0
                rw [hV]
                exact ⟨⟨((((z3.same _).set (by omega) _).set (by omega) _).set (by omega) _), ((((z2.set (by omega) _).same _).set (by omega) _).set (by omega) _), ((((z1.set (by omega) _).set (by omega) _).same _).set (by omega) _), ((((z0.set (by omega) _).set (by omega) _).set (by omega) _).same _)⟩, ⟨by omega, by omega, by omega, by omega⟩, ⟨by omega, by omega, by omega, by omega, by omega, by omega⟩, (below_setRow (below_setRow (below_setRow (below_setRow bw4 (by omega) _) (by omega) _) (by omega) _) (by omega) _)⟩)
              clear hV z0 z1 z2 z3 hs4 bw4 hW4 O5 hs bw0
              refine wa_done (by kernel_rfl) ?_
              go_wp2
              go_meet
              exact ⟨_, _, _, _, rfl, rfl, rfl, rfl, unhide R⟩
    case rest =>
      as_aux_lemma =>
        obtain ⟨g0, g1, g2, g3, rfl, rfl, rfl, rfl, hf⟩ := hcut
        obtain ⟨w4, hw⟩ : ∃ z, z = wc := ⟨_, rfl⟩
        rw [← hw] at hf ⊢
        clear hw
        obtain ⟨⟨h0, h1, h2, h3⟩, ⟨l0, l1, l2, l3⟩, ⟨n01, n02, n03, n12, n13, n23⟩, b4⟩ := hf
        have C4 := (unhide X2).below b4
        have S4 := (unhide X3).below b4
        have e1 := (unhide X2).1
        have e2 := (unhide X3).1
        have G4 := hide (((unhide HG).below (unhide B3)).below b4)
        have B4 := hide (below_of (unhide B3) b4)
        have N0 := hide (show w1.heap.size ≠ g0 ∧ w1.heap.size ≠ g1 ∧ w1.heap.size ≠ g2 ∧ w1.heap.size ≠ g3 ∧ w2.heap.size ≠ g0 ∧ w2.heap.size ≠ g1 ∧ w2.heap.size ≠ g2 ∧ w2.heap.size ≠ g3 from by omega)
        have N1 := hide (show (g0 ≠ g1 ∧ g0 ≠ g2 ∧ g0 ≠ g3) ∧ g1 ≠ g2 ∧ g1 ≠ g3 ∧ g2 ≠ g3 from ⟨⟨n01, n02, n03⟩, n12, n13, n23⟩)
        have LB := hide (show w.heap.size ≤ g0 ∧ w.heap.size ≤ g1 ∧ w.heap.size ≤ g2 ∧ w.heap.size ≤ g3 from by have := (unhide B3).size; omega)
        have LG := hide (show 2 ≤ g0 ∧ 2 ≤ g1 ∧ 2 ≤ g2 ∧ 2 ≤ g3 from by have := (unhide HG).1; have := (unhide B3).size; omega)
        clear b4 X2 X3 B3 l0 l1 l2 l3 n01 n02 n03 n12 n13 n23 e1 e2
        have lc := C4.1
        have lg := h0.1
        have cc := C4.cell (k := 0) rfl
        have c0 := h0.cell (k := 1) rfl
        have f0 := h0.frozen (k := 1)
        go_upto_region 7 with fail
        obtain ⟨w5, hw⟩ : ∃ z, z = w4.setCell ⟨g0, 1, none⟩ (.int .i64 x0) := ⟨_, rfl⟩
        rw [← hw]
        obtain ⟨ne0, ne1, ne2, ne3, ne4, ne5, ne6, ne7⟩ := unhide N0
        obtain ⟨⟨n01, n02, n03⟩, n12, n13, n23⟩ := unhide N1
        obtain ⟨lb0, lb1, lb2, lb3⟩ := unhide LB
        obtain ⟨lk0, lk1, lk2, lk3⟩ := unhide LG
        replace C4 : Has w5 w1.heap.size (.cells #[.int .i64 x0, .int .i64 x1, .int .i64 x2, .int .i64 x3, .int .i64 x4, .int .i64 x5, .int .i64 x6] 23) := by rw [hw]; exact C4.setO ne0 _ _
        replace S4 : Has w5 w2.heap.size (.cells #[.int .i64 k, .int .i64 ((N : Int) % x0), .int .i64 ((N : Int) % x1), .int .i64 N, .int .i64 (1 + (N : Int) % 255)] 27) := by rw [hw]; exact S4.setO ne4 _ _
        replace h0 : Has w5 g0 (.cells #[.int .i64 k, .int .i64 x0, .int .i64 ((N : Int) % x1), .int .i64 N, .int .i64 (1 + (N : Int) % 255)] 27) := by rw [hw]; exact h0.setC 1 _
        replace h1 : Has w5 g1 (.cells #[.int .i64 k, .int .i64 ((N : Int) % x0), .int .i64 ((N : Int) % x1), .int .i64 N, .int .i64 (1 + (N : Int) % 255)] 27) := by rw [hw]; exact h1.setO n01.symm _ _
        replace h2 : Has w5 g2 (.cells #[.int .i64 k, .int .i64 ((N : Int) % x0), .int .i64 ((N : Int) % x1), .int .i64 N, .int .i64 (1 + (N : Int) % 255)] 27) := by rw [hw]; exact h2.setO n02.symm _ _
        replace h3 : Has w5 g3 (.cells #[.int .i64 k, .int .i64 ((N : Int) % x0), .int .i64 ((N : Int) % x1), .int .i64 N, .int .i64 (1 + (N : Int) % 255)] 27) := by rw [hw]; exact h3.setO n03.symm _ _
        replace G4 := hide (Glob.setC (unhide G4) (p := ⟨g0, 1, none⟩) lk0 (.int .i64 x0) : Glob (w4.setCell ⟨g0, 1, none⟩ (.int .i64 x0)) e)
        replace B4 := hide ((unhide B4).setCell (p := ⟨g0, 1, none⟩) lb0 (.int .i64 x0))
        rw [← hw] at G4 B4
        clear hw ne0 ne1 ne2 ne3 ne4 ne5 ne6 ne7 n01 n02 n03 n12 n13 n23 lb0 lb1 lb2 lb3 lk0 lk1 lk2 lk3 lc lg c0 f0 cc
        have lc := C4.1
        have lg := h1.1
        have cc := C4.cell (k := 1) rfl
        have c1 := h1.cell (k := 2) rfl
        have f1 := h1.frozen (k := 2)
        go_upto_region 8 with fail
        obtain ⟨w6, hw⟩ : ∃ z, z = w5.setCell ⟨g1, 2, none⟩ (.int .i64 x1) := ⟨_, rfl⟩
        rw [← hw]
        obtain ⟨ne0, ne1, ne2, ne3, ne4, ne5, ne6, ne7⟩ := unhide N0
        obtain ⟨⟨n01, n02, n03⟩, n12, n13, n23⟩ := unhide N1
        obtain ⟨lb0, lb1, lb2, lb3⟩ := unhide LB
        obtain ⟨lk0, lk1, lk2, lk3⟩ := unhide LG
        replace C4 : Has w6 w1.heap.size (.cells #[.int .i64 x0, .int .i64 x1, .int .i64 x2, .int .i64 x3, .int .i64 x4, .int .i64 x5, .int .i64 x6] 23) := by rw [hw]; exact C4.setO ne1 _ _
        replace S4 : Has w6 w2.heap.size (.cells #[.int .i64 k, .int .i64 ((N : Int) % x0), .int .i64 ((N : Int) % x1), .int .i64 N, .int .i64 (1 + (N : Int) % 255)] 27) := by rw [hw]; exact S4.setO ne5 _ _
        replace h0 : Has w6 g0 (.cells #[.int .i64 k, .int .i64 x0, .int .i64 ((N : Int) % x1), .int .i64 N, .int .i64 (1 + (N : Int) % 255)] 27) := by rw [hw]; exact h0.setO n01 _ _
        replace h1 : Has w6 g1 (.cells #[.int .i64 k, .int .i64 ((N : Int) % x0), .int .i64 x1, .int .i64 N, .int .i64 (1 + (N : Int) % 255)] 27) := by rw [hw]; exact h1.setC 2 _
        replace h2 : Has w6 g2 (.cells #[.int .i64 k, .int .i64 ((N : Int) % x0), .int .i64 ((N : Int) % x1), .int .i64 N, .int .i64 (1 + (N : Int) % 255)] 27) := by rw [hw]; exact h2.setO n12.symm _ _
        replace h3 : Has w6 g3 (.cells #[.int .i64 k, .int .i64 ((N : Int) % x0), .int .i64 ((N : Int) % x1), .int .i64 N, .int .i64 (1 + (N : Int) % 255)] 27) := by rw [hw]; exact h3.setO n13.symm _ _
        replace G4 := hide (Glob.setC (unhide G4) (p := ⟨g1, 2, none⟩) lk1 (.int .i64 x1) : Glob (w5.setCell ⟨g1, 2, none⟩ (.int .i64 x1)) e)
        replace B4 := hide ((unhide B4).setCell (p := ⟨g1, 2, none⟩) lb1 (.int .i64 x1))
        rw [← hw] at G4 B4
        clear hw ne0 ne1 ne2 ne3 ne4 ne5 ne6 ne7 n01 n02 n03 n12 n13 n23 lb0 lb1 lb2 lb3 lk0 lk1 lk2 lk3 lc lg c1 f1 cc
        have lc := C4.1
        have lg := h2.1
        have c2 := h2.cell (k := 3) rfl
        have f2 := h2.frozen (k := 3)
        go_upto_region 9 with fail
        obtain ⟨w7, hw⟩ : ∃ z, z = w6.setCell ⟨g2, 3, none⟩ (.int .i64 256) := ⟨_, rfl⟩
        rw [← hw]
        obtain ⟨ne0, ne1, ne2, ne3, ne4, ne5, ne6, ne7⟩ := unhide N0
        obtain ⟨⟨n01, n02, n03⟩, n12, n13, n23⟩ := unhide N1
        obtain ⟨lb0, lb1, lb2, lb3⟩ := unhide LB
        obtain ⟨lk0, lk1, lk2, lk3⟩ := unhide LG
        replace C4 : Has w7 w1.heap.size (.cells #[.int .i64 x0, .int .i64 x1, .int .i64 x2, .int .i64 x3, .int .i64 x4, .int .i64 x5, .int .i64 x6] 23) := by rw [hw]; exact C4.setO ne2 _ _
        replace S4 : Has w7 w2.heap.size (.cells #[.int .i64 k, .int .i64 ((N : Int) % x0), .int .i64 ((N : Int) % x1), .int .i64 N, .int .i64 (1 + (N : Int) % 255)] 27) := by rw [hw]; exact S4.setO ne6 _ _
        replace h0 : Has w7 g0 (.cells #[.int .i64 k, .int .i64 x0, .int .i64 ((N : Int) % x1), .int .i64 N, .int .i64 (1 + (N : Int) % 255)] 27) := by rw [hw]; exact h0.setO n02 _ _
        replace h1 : Has w7 g1 (.cells #[.int .i64 k, .int .i64 ((N : Int) % x0), .int .i64 x1, .int .i64 N, .int .i64 (1 + (N : Int) % 255)] 27) := by rw [hw]; exact h1.setO n12 _ _
        replace h2 : Has w7 g2 (.cells #[.int .i64 k, .int .i64 ((N : Int) % x0), .int .i64 ((N : Int) % x1), .int .i64 256, .int .i64 (1 + (N : Int) % 255)] 27) := by rw [hw]; exact h2.setC 3 _
        replace h3 : Has w7 g3 (.cells #[.int .i64 k, .int .i64 ((N : Int) % x0), .int .i64 ((N : Int) % x1), .int .i64 N, .int .i64 (1 + (N : Int) % 255)] 27) := by rw [hw]; exact h3.setO n23.symm _ _
        replace G4 := hide (Glob.setC (unhide G4) (p := ⟨g2, 3, none⟩) lk2 (.int .i64 256) : Glob (w6.setCell ⟨g2, 3, none⟩ (.int .i64 256)) e)
        replace B4 := hide ((unhide B4).setCell (p := ⟨g2, 3, none⟩) lb2 (.int .i64 256))
        rw [← hw] at G4 B4
        clear hw ne0 ne1 ne2 ne3 ne4 ne5 ne6 ne7 n01 n02 n03 n12 n13 n23 lb0 lb1 lb2 lb3 lk0 lk1 lk2 lk3 lc lg c2 f2
        have lc := C4.1
        have lg := h3.1
        have c3 := h3.cell (k := 4) rfl
        have f3 := h3.frozen (k := 4)
        go_upto_region 10 with fail
        obtain ⟨w8, hw⟩ : ∃ z, z = w7.setCell ⟨g3, 4, none⟩ (.int .i64 0) := ⟨_, rfl⟩
        rw [← hw]
        obtain ⟨ne0, ne1, ne2, ne3, ne4, ne5, ne6, ne7⟩ := unhide N0
        obtain ⟨⟨n01, n02, n03⟩, n12, n13, n23⟩ := unhide N1
        obtain ⟨lb0, lb1, lb2, lb3⟩ := unhide LB
        obtain ⟨lk0, lk1, lk2, lk3⟩ := unhide LG
        replace C4 : Has w8 w1.heap.size (.cells #[.int .i64 x0, .int .i64 x1, .int .i64 x2, .int .i64 x3, .int .i64 x4, .int .i64 x5, .int .i64 x6] 23) := by rw [hw]; exact C4.setO ne3 _ _
        replace S4 : Has w8 w2.heap.size (.cells #[.int .i64 k, .int .i64 ((N : Int) % x0), .int .i64 ((N : Int) % x1), .int .i64 N, .int .i64 (1 + (N : Int) % 255)] 27) := by rw [hw]; exact S4.setO ne7 _ _
        replace h0 : Has w8 g0 (.cells #[.int .i64 k, .int .i64 x0, .int .i64 ((N : Int) % x1), .int .i64 N, .int .i64 (1 + (N : Int) % 255)] 27) := by rw [hw]; exact h0.setO n03 _ _
        replace h1 : Has w8 g1 (.cells #[.int .i64 k, .int .i64 ((N : Int) % x0), .int .i64 x1, .int .i64 N, .int .i64 (1 + (N : Int) % 255)] 27) := by rw [hw]; exact h1.setO n13 _ _
        replace h2 : Has w8 g2 (.cells #[.int .i64 k, .int .i64 ((N : Int) % x0), .int .i64 ((N : Int) % x1), .int .i64 256, .int .i64 (1 + (N : Int) % 255)] 27) := by rw [hw]; exact h2.setO n23 _ _
        replace h3 : Has w8 g3 (.cells #[.int .i64 k, .int .i64 ((N : Int) % x0), .int .i64 ((N : Int) % x1), .int .i64 N, .int .i64 0] 27) := by rw [hw]; exact h3.setC 4 _
        replace G4 := hide (Glob.setC (unhide G4) (p := ⟨g3, 4, none⟩) lk3 (.int .i64 0) : Glob (w7.setCell ⟨g3, 4, none⟩ (.int .i64 0)) e)
        replace B4 := hide ((unhide B4).setCell (p := ⟨g3, 4, none⟩) lb3 (.int .i64 0))
        rw [← hw] at G4 B4
        clear hw ne0 ne1 ne2 ne3 ne4 ne5 ne6 ne7 n01 n02 n03 n12 n13 n23 lb0 lb1 lb2 lb3 lk0 lk1 lk2 lk3 lc lg c3 f3
        obtain ⟨v0, V0⟩ : ∃ z : Int, Hid (z = if nb then 0 else 9) := ⟨_, hide rfl⟩
        obtain ⟨v2, V2⟩ : ∃ z : Int, Hid (z = if nb then 1 else 0) := ⟨_, hide rfl⟩
        obtain ⟨v1, V1⟩ : ∃ z : Int, Hid (z = if 8 ≤ k then 1 else 0) := ⟨_, hide rfl⟩
        obtain ⟨v3, V3⟩ : ∃ z : Int, Hid (z = if k = 11 then 1 else v2) := ⟨_, hide rfl⟩
        obtain ⟨v4, V4⟩ : ∃ z : Int, Hid (z = if k = 5 then 1 else 0) := ⟨_, hide rfl⟩
        go_upto_region 11 with fail
        obtain ⟨w9, hw⟩ : ∃ z, z = w8.alloc (.cells #[.int .i64 9, .int .i64 0, .int .i64 0, .int .i64 0] 29) := ⟨_, rfl⟩
        rw [← hw]
        have hW : Has w9 w8.heap.size (.cells #[.int .i64 9, .int .i64 0, .int .i64 0, .int .i64 0] 29) := by rw [hw]; exact Has.new _ _
        have b9 : Below w8.heap.size w8 w9 := by rw [hw]; exact below_alloc (Below.refl _ _) _
        have B9 := hide b9
        clear hw b9
        go_upto_if 59 with fail
        go_cut [] (fun wc => Has wc w8.heap.size (.cells #[.int .i64 v0, .int .i64 0, .int .i64 v2, .int .i64 0] 29) ∧ Below w8.heap.size w8 wc)
        case first =>
          as_aux_lemma =>
            clear C4 S4 h0 h1 h2 h3 G4 B4 N0 N1 LB LG
            cases hn : nb with
            | true =>
              have E0 := hide (show v0 = 0 by rw [unhide V0, hn]; rfl)
              have E2 := hide (show v2 = 1 by rw [unhide V2, hn]; rfl)
              have cc0 := hW.cell (k := 0) rfl
              have ff0 := hW.frozen (k := 0)
              have cc2 := hW.cell (k := 2) rfl
              have ff2 := hW.frozen (k := 2)
              have lw := hW.1
              clear V0 V1 V2 V3 V4 hnb
              subst hn
              go_wp2
              go_meet
              exact ⟨by rw [unhide E0, unhide E2]; exact ((hW.setC 0 _).setC 2 _), (((unhide B9).setCell (by exact Nat.le_refl _) _).setCell (by exact Nat.le_refl _) _)⟩
            | false =>
              have E0 := hide (show v0 = 9 by rw [unhide V0, hn]; rfl)
              have E2 := hide (show v2 = 0 by rw [unhide V2, hn]; rfl)
              clear V0 V1 V2 V3 V4 hnb
              subst hn
              go_wp2
              go_meet
              exact ⟨by rw [unhide E0, unhide E2]; exact hW, unhide B9⟩
        case rest =>
          obtain ⟨q1, q2⟩ := hcut
          obtain ⟨w10, hw⟩ : ∃ z, z = wc := ⟨_, rfl⟩
          rw [← hw] at q1 q2 ⊢
          replace hW := q1
          replace B9 := hide q2
          clear hw q1 q2
          go_upto_if 65 with fail
          go_cut [] (fun wc => Has wc w8.heap.size (.cells #[.int .i64 v0, .int .i64 v1, .int .i64 v2, .int .i64 0] 29) ∧ Below w8.heap.size w8 wc)
          case first =>
            as_aux_lemma =>
              clear C4 S4 h0 h1 h2 h3 G4 B4 N0 N1 LB LG
              by_cases hk8 : 8 ≤ k
              · have E0 := hide (show v1 = 1 by rw [unhide V1, if_pos hk8])
                have cc1 := hW.cell (k := 1) rfl
                have ff1 := hW.frozen (k := 1)
                have lw := hW.1
                clear V0 V1 V2 V3 V4 hnb
                have bq : decide (k ≥ 8) = true := decide_eq_true hk8
                go_wp2
                go_meet
                exact ⟨by rw [unhide E0]; exact (hW.setC 1 _), ((unhide B9).setCell (by exact Nat.le_refl _) _)⟩
              · have E0 := hide (show v1 = 0 by rw [unhide V1, if_neg hk8])
                clear V0 V1 V2 V3 V4 hnb
                have bq : decide (k ≥ 8) = false := decide_eq_false hk8
                go_wp2
                go_meet
                exact ⟨by rw [unhide E0]; exact hW, unhide B9⟩
          case rest =>
            obtain ⟨q1, q2⟩ := hcut
            obtain ⟨w11, hw⟩ : ∃ z, z = wc := ⟨_, rfl⟩
            rw [← hw] at q1 q2 ⊢
            replace hW := q1
            replace B9 := hide q2
            clear hw q1 q2
            go_upto_if 69 with fail
            go_cut [] (fun wc => Has wc w8.heap.size (.cells #[.int .i64 v0, .int .i64 v1, .int .i64 v3, .int .i64 0] 29) ∧ Below w8.heap.size w8 wc)
            case first =>
              as_aux_lemma =>
                clear C4 S4 h0 h1 h2 h3 G4 B4 N0 N1 LB LG
                by_cases hk8 : k = 11
                · have E0 := hide (show v3 = 1 by rw [unhide V3, if_pos hk8])
                  have cc2 := hW.cell (k := 2) rfl
                  have ff2 := hW.frozen (k := 2)
                  have lw := hW.1
                  clear V0 V1 V2 V3 V4 hnb
                  have bq : (k == 11) = true := by rw [beq_iff_eq]; exact hk8
                  clear hk8
                  go_wp2
                  go_meet
                  exact ⟨by rw [unhide E0]; exact (hW.setC 2 _), ((unhide B9).setCell (by exact Nat.le_refl _) _)⟩
                · have E0 := hide (show v3 = v2 by rw [unhide V3, if_neg hk8])
                  clear V0 V1 V2 V3 V4 hnb
                  have bq : (k == 11) = false := by rw [beq_eq_false_iff_ne]; exact hk8
                  clear hk8
                  go_wp2
                  go_meet
                  exact ⟨by rw [unhide E0]; exact hW, unhide B9⟩
            case rest =>
              obtain ⟨q1, q2⟩ := hcut
              obtain ⟨w12, hw⟩ : ∃ z, z = wc := ⟨_, rfl⟩
              rw [← hw] at q1 q2 ⊢
              replace hW := q1
              replace B9 := hide q2
              clear hw q1 q2
              go_upto_if 73 with fail
              go_cut [] (fun wc => Has wc w8.heap.size (.cells #[.int .i64 v0, .int .i64 v1, .int .i64 v3, .int .i64 v4] 29) ∧ Below w8.heap.size w8 wc)
              case first =>
                as_aux_lemma =>
                  clear C4 S4 h0 h1 h2 h3 G4 B4 N0 N1 LB LG
                  by_cases hk8 : k = 5
                  · have E0 := hide (show v4 = 1 by rw [unhide V4, if_pos hk8])
                    have cc3 := hW.cell (k := 3) rfl
                    have ff3 := hW.frozen (k := 3)
                    have lw := hW.1
                    clear V0 V1 V2 V3 V4 hnb
                    have bq : (k == 5) = true := by rw [beq_iff_eq]; exact hk8
                    clear hk8
                    go_wp2
                    go_meet
                    exact ⟨by rw [unhide E0]; exact (hW.setC 3 _), ((unhide B9).setCell (by exact Nat.le_refl _) _)⟩
                  · have E0 := hide (show v4 = 0 by rw [unhide V4, if_neg hk8])
                    clear V0 V1 V2 V3 V4 hnb
                    have bq : (k == 5) = false := by rw [beq_eq_false_iff_ne]; exact hk8
                    clear hk8
                    go_wp2
                    go_meet
                    exact ⟨by rw [unhide E0]; exact hW, unhide B9⟩
              case rest =>
                obtain ⟨q1, q2⟩ := hcut
                obtain ⟨w13, hw⟩ : ∃ z, z = wc := ⟨_, rfl⟩
                rw [← hw] at q1 q2 ⊢
                replace hW := q1
                replace B9 := hide q2
                clear hw q1 q2
                replace C4 := (C4.below (unhide B9)).drew
                replace S4 := (S4.below (unhide B9)).drew
                replace h0 := (h0.below (unhide B9)).drew
                replace h1 := (h1.below (unhide B9)).drew
                replace h2 := (h2.below (unhide B9)).drew
                replace h3 := (h3.below (unhide B9)).drew
                replace hW := hW.drew
                replace G4 := hide ((unhide G4).below ((unhide B9).drew))
                replace B4 := hide (below_of (unhide B4) (unhide B9).drew)
                have WA' := want_all x0 x1 x2 x3 x4 x5 x6 k N (unhide HC) hN2 hk1 hk2 p0 p1 p1'
                rw [← unhide hnb, ← unhide V0, ← unhide V1, ← unhide V2, ← unhide V3, ← unhide V4] at WA'
                clear hnb N0 N1 LB LG V0 V1 V2 V3 V4 B9
                have K0 : Hid (∀ w', Glob w' e → Calls Tryd.prog 17 #[.agg #[.int .i64 x0, .int .i64 x1, .int .i64 x2, .int .i64 x3, .int .i64 x4, .int .i64 x5, .int .i64 x6], (.agg #[.int .i64 k, .int .i64 ((N : Int) % x0), .int .i64 ((N : Int) % x1), .int .i64 N, .int .i64 (1 + (N : Int) % 255)])] w' fun ev w'' => ev = .returned (.int .i64 0) ∧ Below w'.heap.size w' w'') := hide fun w' h => by
                  have := check_any ⟨x0, x1, x2, x3, x4, x5, x6⟩ ⟨k, ((N : Int) % x0), ((N : Int) % x1), N, (1 + (N : Int) % 255)⟩ e w' h
                  rw [WA'.1] at this
                  exact this
                have K1 : Hid (∀ w', Glob w' e → Calls Tryd.prog 17 #[.agg #[.int .i64 x0, .int .i64 x1, .int .i64 x2, .int .i64 x3, .int .i64 x4, .int .i64 x5, .int .i64 x6], (.agg #[.int .i64 k, .int .i64 x0, .int .i64 ((N : Int) % x1), .int .i64 N, .int .i64 (1 + (N : Int) % 255)])] w' fun ev w'' => ev = .returned (.int .i64 v0) ∧ Below w'.heap.size w' w'') := hide fun w' h => by
                  have := check_any ⟨x0, x1, x2, x3, x4, x5, x6⟩ ⟨k, x0, ((N : Int) % x1), N, (1 + (N : Int) % 255)⟩ e w' h
                  rw [WA'.2.1] at this
                  exact this
                have K2 : Hid (∀ w', Glob w' e → Calls Tryd.prog 17 #[.agg #[.int .i64 x0, .int .i64 x1, .int .i64 x2, .int .i64 x3, .int .i64 x4, .int .i64 x5, .int .i64 x6], (.agg #[.int .i64 k, .int .i64 ((N : Int) % x0), .int .i64 x1, .int .i64 N, .int .i64 (1 + (N : Int) % 255)])] w' fun ev w'' => ev = .returned (.int .i64 v1) ∧ Below w'.heap.size w' w'') := hide fun w' h => by
                  have := check_any ⟨x0, x1, x2, x3, x4, x5, x6⟩ ⟨k, ((N : Int) % x0), x1, N, (1 + (N : Int) % 255)⟩ e w' h
                  rw [WA'.2.2.1] at this
                  exact this
                have K3 : Hid (∀ w', Glob w' e → Calls Tryd.prog 17 #[.agg #[.int .i64 x0, .int .i64 x1, .int .i64 x2, .int .i64 x3, .int .i64 x4, .int .i64 x5, .int .i64 x6], (.agg #[.int .i64 k, .int .i64 ((N : Int) % x0), .int .i64 ((N : Int) % x1), .int .i64 256, .int .i64 (1 + (N : Int) % 255)])] w' fun ev w'' => ev = .returned (.int .i64 v3) ∧ Below w'.heap.size w' w'') := hide fun w' h => by
                  have := check_any ⟨x0, x1, x2, x3, x4, x5, x6⟩ ⟨k, ((N : Int) % x0), ((N : Int) % x1), 256, (1 + (N : Int) % 255)⟩ e w' h
                  rw [WA'.2.2.2.1] at this
                  exact this
                have K4 : Hid (∀ w', Glob w' e → Calls Tryd.prog 17 #[.agg #[.int .i64 x0, .int .i64 x1, .int .i64 x2, .int .i64 x3, .int .i64 x4, .int .i64 x5, .int .i64 x6], (.agg #[.int .i64 k, .int .i64 ((N : Int) % x0), .int .i64 ((N : Int) % x1), .int .i64 N, .int .i64 0])] w' fun ev w'' => ev = .returned (.int .i64 v4) ∧ Below w'.heap.size w' w'') := hide fun w' h => by
                  have := check_any ⟨x0, x1, x2, x3, x4, x5, x6⟩ ⟨k, ((N : Int) % x0), ((N : Int) % x1), N, 0⟩ e w' h
                  rw [WA'.2.2.2.2] at this
                  exact this
                clear WA'
                go_upto_region 20 with fail
                refine wa_start (fun w' => Has w' w1.heap.size (.cells #[.int .i64 x0, .int .i64 x1, .int .i64 x2, .int .i64 x3, .int .i64 x4, .int .i64 x5, .int .i64 x6] 23) ∧ Has w' w2.heap.size (.cells #[.int .i64 k, .int .i64 ((N : Int) % x0), .int .i64 ((N : Int) % x1), .int .i64 N, .int .i64 (1 + (N : Int) % 255)] 27) ∧ Has w' g0 (.cells #[.int .i64 k, .int .i64 x0, .int .i64 ((N : Int) % x1), .int .i64 N, .int .i64 (1 + (N : Int) % 255)] 27) ∧ Has w' g1 (.cells #[.int .i64 k, .int .i64 ((N : Int) % x0), .int .i64 x1, .int .i64 N, .int .i64 (1 + (N : Int) % 255)] 27) ∧ Has w' g2 (.cells #[.int .i64 k, .int .i64 ((N : Int) % x0), .int .i64 ((N : Int) % x1), .int .i64 256, .int .i64 (1 + (N : Int) % 255)] 27) ∧ Has w' g3 (.cells #[.int .i64 k, .int .i64 ((N : Int) % x0), .int .i64 ((N : Int) % x1), .int .i64 N, .int .i64 0] 27) ∧ Has w' w8.heap.size (.cells #[.int .i64 v0, .int .i64 v1, .int .i64 v3, .int .i64 v4] 29)) ⟨C4, S4, h0, h1, h2, h3, hW⟩ ?_
                refine wa_take (v := (.agg #[.int .i64 x0, .int .i64 x1, .int .i64 x2, .int .i64 x3, .int .i64 x4, .int .i64 x5, .int .i64 x6])) 0 rfl (by kernel_rfl) (by kernel_rfl) (by kernel_rfl) (fun _ _ _ h => h) (by kernel_rfl) (fun w hSw => ?_) ⟨C4, S4, h0, h1, h2, h3, hW⟩ ?_
                · exact run_row rfl rfl hSw.1 Tryd.underlying23 info23
                try simp only [Act.put, List.setIfInBounds_toArray, List.set_cons_zero, List.set_cons_succ]
                refine wa_take (v := (.agg #[.int .i64 k, .int .i64 ((N : Int) % x0), .int .i64 ((N : Int) % x1), .int .i64 N, .int .i64 (1 + (N : Int) % 255)])) 1 rfl (by kernel_rfl) (by kernel_rfl) (by kernel_rfl) (fun _ _ _ h => h) (by kernel_rfl) (fun w hSw => ?_) ⟨C4, S4, h0, h1, h2, h3, hW⟩ ?_
                · exact run_row rfl rfl hSw.2.1 Tryd.underlying27 info27
                try simp only [Act.put, List.setIfInBounds_toArray, List.set_cons_zero, List.set_cons_succ]
                refine wa_one 2 (by kernel_rfl) rfl (by kernel_rfl) (fun Kc hK => ?_)
                go_simp
                go_at_call 17
                refine (unhide K0 _ (unhide G4)).mono ?_
                rintro ev w' ⟨rfl, b⟩
                replace C4 := C4.below b
                replace S4 := S4.below b
                replace h0 := h0.below b
                replace h1 := h1.below b
                replace h2 := h2.below b
                replace h3 := h3.below b
                replace hW := hW.below b
                replace G4 := hide ((unhide G4).below b)
                replace B4 := hide (below_of (unhide B4) b)
                clear b
                refine hK.out _ _ ⟨C4, S4, h0, h1, h2, h3, hW⟩ ?_
                clear hK Kc
                try simp only [Act.put, List.setIfInBounds_toArray, List.set_cons_zero, List.set_cons_succ]
                refine wa_take (v := (.bool true)) 3 rfl (by kernel_rfl) (by kernel_rfl) (by kernel_rfl) (fun _ _ _ h => h) (by kernel_rfl) (fun w hSw => ?_) ⟨C4, S4, h0, h1, h2, h3, hW⟩ ?_
                · try dsimp only at hSw
                  go_simp
                try simp only [Act.put, List.setIfInBounds_toArray, List.set_cons_zero, List.set_cons_succ]
                refine wa_take (v := (.bool true)) 4 rfl (by kernel_rfl) (by kernel_rfl) (by kernel_rfl) (fun _ _ _ h => h) (by kernel_rfl) (fun w hSw => ?_) ⟨C4, S4, h0, h1, h2, h3, hW⟩ ?_
                · try dsimp only at hSw
                  go_simp
                try simp only [Act.put, List.setIfInBounds_toArray, List.set_cons_zero, List.set_cons_succ]
                refine wa_take (v := (.agg #[.int .i64 x0, .int .i64 x1, .int .i64 x2, .int .i64 x3, .int .i64 x4, .int .i64 x5, .int .i64 x6])) 5 rfl (by kernel_rfl) (by kernel_rfl) (by kernel_rfl) (fun _ _ _ h => h) (by kernel_rfl) (fun w hSw => ?_) ⟨C4, S4, h0, h1, h2, h3, hW⟩ ?_
                · exact run_row rfl rfl hSw.1 Tryd.underlying23 info23
                try simp only [Act.put, List.setIfInBounds_toArray, List.set_cons_zero, List.set_cons_succ]
                refine wa_take (v := (.agg #[.int .i64 k, .int .i64 x0, .int .i64 ((N : Int) % x1), .int .i64 N, .int .i64 (1 + (N : Int) % 255)])) 6 rfl (by kernel_rfl) (by kernel_rfl) (by kernel_rfl) (fun _ _ _ h => h) (by kernel_rfl) (fun w hSw => ?_) ⟨C4, S4, h0, h1, h2, h3, hW⟩ ?_
                · exact run_row rfl rfl hSw.2.2.1 Tryd.underlying27 info27
                try simp only [Act.put, List.setIfInBounds_toArray, List.set_cons_zero, List.set_cons_succ]
                refine wa_take (v := (.slice (some ⟨w8.heap.size, 0, none⟩) 4 4)) 8 rfl (by kernel_rfl) (by kernel_rfl) (by kernel_rfl) (fun _ _ _ h => h) (by kernel_rfl) (fun w hSw => ?_) ⟨C4, S4, h0, h1, h2, h3, hW⟩ ?_
                · try dsimp only at hSw
                  go_simp
                try simp only [Act.put, List.setIfInBounds_toArray, List.set_cons_zero, List.set_cons_succ]
                refine wa_take (v := (.pointer (some ⟨w8.heap.size, 0, none⟩))) 9 rfl (by kernel_rfl) (by kernel_rfl) (by kernel_rfl) (fun _ _ _ h => h) (by kernel_rfl) (fun w hSw => ?_) ⟨C4, S4, h0, h1, h2, h3, hW⟩ ?_
                · try dsimp only at hSw
                  go_simp
                try simp only [Act.put, List.setIfInBounds_toArray, List.set_cons_zero, List.set_cons_succ]
                refine wa_take (v := (.int .i64 v0)) 10 rfl (by kernel_rfl) (by kernel_rfl) (by kernel_rfl) (fun _ _ _ h => h) (by kernel_rfl) (fun w hSw => ?_) ⟨C4, S4, h0, h1, h2, h3, hW⟩ ?_
                · have hq := hSw.2.2.2.2.2.2.cell (k := 0) rfl
                  go_simp
                try simp only [Act.put, List.setIfInBounds_toArray, List.set_cons_zero, List.set_cons_succ]
                refine wa_one 7 (by kernel_rfl) rfl (by kernel_rfl) (fun Kc hK => ?_)
                go_simp
                go_at_call 17
                refine (unhide K1 _ (unhide G4)).mono ?_
                rintro ev w' ⟨rfl, b⟩
                replace C4 := C4.below b
                replace S4 := S4.below b
                replace h0 := h0.below b
                replace h1 := h1.below b
                replace h2 := h2.below b
                replace h3 := h3.below b
                replace hW := hW.below b
                replace G4 := hide ((unhide G4).below b)
                replace B4 := hide (below_of (unhide B4) b)
                clear b
                refine hK.out _ _ ⟨C4, S4, h0, h1, h2, h3, hW⟩ ?_
                clear hK Kc
                try simp only [Act.put, List.setIfInBounds_toArray, List.set_cons_zero, List.set_cons_succ]
                refine wa_take (v := (.bool true)) 11 rfl (by kernel_rfl) (by kernel_rfl) (by kernel_rfl) (fun _ _ _ h => h) (by kernel_rfl) (fun w hSw => ?_) ⟨C4, S4, h0, h1, h2, h3, hW⟩ ?_
                · try dsimp only at hSw
                  go_simp
                try simp only [Act.put, List.setIfInBounds_toArray, List.set_cons_zero, List.set_cons_succ]
                refine wa_take (v := (.bool true)) 12 rfl (by kernel_rfl) (by kernel_rfl) (by kernel_rfl) (fun _ _ _ h => h) (by kernel_rfl) (fun w hSw => ?_) ⟨C4, S4, h0, h1, h2, h3, hW⟩ ?_
                · try dsimp only at hSw
                  go_simp
                try simp only [Act.put, List.setIfInBounds_toArray, List.set_cons_zero, List.set_cons_succ]
                refine wa_take (v := (.bool true)) 13 rfl (by kernel_rfl) (by kernel_rfl) (by kernel_rfl) (fun _ _ _ h => h) (by kernel_rfl) (fun w hSw => ?_) ⟨C4, S4, h0, h1, h2, h3, hW⟩ ?_
                · try dsimp only at hSw
                  go_simp
                try simp only [Act.put, List.setIfInBounds_toArray, List.set_cons_zero, List.set_cons_succ]
                refine wa_take (v := (.agg #[.int .i64 x0, .int .i64 x1, .int .i64 x2, .int .i64 x3, .int .i64 x4, .int .i64 x5, .int .i64 x6])) 14 rfl (by kernel_rfl) (by kernel_rfl) (by kernel_rfl) (fun _ _ _ h => h) (by kernel_rfl) (fun w hSw => ?_) ⟨C4, S4, h0, h1, h2, h3, hW⟩ ?_
                · exact run_row rfl rfl hSw.1 Tryd.underlying23 info23
                try simp only [Act.put, List.setIfInBounds_toArray, List.set_cons_zero, List.set_cons_succ]
                refine wa_take (v := (.agg #[.int .i64 k, .int .i64 ((N : Int) % x0), .int .i64 x1, .int .i64 N, .int .i64 (1 + (N : Int) % 255)])) 15 rfl (by kernel_rfl) (by kernel_rfl) (by kernel_rfl) (fun _ _ _ h => h) (by kernel_rfl) (fun w hSw => ?_) ⟨C4, S4, h0, h1, h2, h3, hW⟩ ?_
                · exact run_row rfl rfl hSw.2.2.2.1 Tryd.underlying27 info27
                try simp only [Act.put, List.setIfInBounds_toArray, List.set_cons_zero, List.set_cons_succ]
                refine wa_take (v := (.slice (some ⟨w8.heap.size, 0, none⟩) 4 4)) 17 rfl (by kernel_rfl) (by kernel_rfl) (by kernel_rfl) (fun _ _ _ h => h) (by kernel_rfl) (fun w hSw => ?_) ⟨C4, S4, h0, h1, h2, h3, hW⟩ ?_
                · try dsimp only at hSw
                  go_simp
                try simp only [Act.put, List.setIfInBounds_toArray, List.set_cons_zero, List.set_cons_succ]
                refine wa_take (v := (.pointer (some ⟨w8.heap.size, 1, none⟩))) 18 rfl (by kernel_rfl) (by kernel_rfl) (by kernel_rfl) (fun _ _ _ h => h) (by kernel_rfl) (fun w hSw => ?_) ⟨C4, S4, h0, h1, h2, h3, hW⟩ ?_
                · try dsimp only at hSw
                  go_simp
                try simp only [Act.put, List.setIfInBounds_toArray, List.set_cons_zero, List.set_cons_succ]
                refine wa_take (v := (.int .i64 v1)) 19 rfl (by kernel_rfl) (by kernel_rfl) (by kernel_rfl) (fun _ _ _ h => h) (by kernel_rfl) (fun w hSw => ?_) ⟨C4, S4, h0, h1, h2, h3, hW⟩ ?_
                · have hq := hSw.2.2.2.2.2.2.cell (k := 1) rfl
                  go_simp
                try simp only [Act.put, List.setIfInBounds_toArray, List.set_cons_zero, List.set_cons_succ]
                refine wa_one 16 (by kernel_rfl) rfl (by kernel_rfl) (fun Kc hK => ?_)
                go_simp
                go_at_call 17
                refine (unhide K2 _ (unhide G4)).mono ?_
                rintro ev w' ⟨rfl, b⟩
                replace C4 := C4.below b
                replace S4 := S4.below b
                replace h0 := h0.below b
                replace h1 := h1.below b
                replace h2 := h2.below b
                replace h3 := h3.below b
                replace hW := hW.below b
                replace G4 := hide ((unhide G4).below b)
                replace B4 := hide (below_of (unhide B4) b)
                clear b
                refine hK.out _ _ ⟨C4, S4, h0, h1, h2, h3, hW⟩ ?_
                clear hK Kc
                try simp only [Act.put, List.setIfInBounds_toArray, List.set_cons_zero, List.set_cons_succ]
                refine wa_take (v := (.bool true)) 20 rfl (by kernel_rfl) (by kernel_rfl) (by kernel_rfl) (fun _ _ _ h => h) (by kernel_rfl) (fun w hSw => ?_) ⟨C4, S4, h0, h1, h2, h3, hW⟩ ?_
                · try dsimp only at hSw
                  go_simp
                try simp only [Act.put, List.setIfInBounds_toArray, List.set_cons_zero, List.set_cons_succ]
                refine wa_take (v := (.bool true)) 21 rfl (by kernel_rfl) (by kernel_rfl) (by kernel_rfl) (fun _ _ _ h => h) (by kernel_rfl) (fun w hSw => ?_) ⟨C4, S4, h0, h1, h2, h3, hW⟩ ?_
                · try dsimp only at hSw
                  go_simp
                try simp only [Act.put, List.setIfInBounds_toArray, List.set_cons_zero, List.set_cons_succ]
                refine wa_take (v := (.bool true)) 22 rfl (by kernel_rfl) (by kernel_rfl) (by kernel_rfl) (fun _ _ _ h => h) (by kernel_rfl) (fun w hSw => ?_) ⟨C4, S4, h0, h1, h2, h3, hW⟩ ?_
                · try dsimp only at hSw
                  go_simp
                try simp only [Act.put, List.setIfInBounds_toArray, List.set_cons_zero, List.set_cons_succ]
                refine wa_take (v := (.agg #[.int .i64 x0, .int .i64 x1, .int .i64 x2, .int .i64 x3, .int .i64 x4, .int .i64 x5, .int .i64 x6])) 23 rfl (by kernel_rfl) (by kernel_rfl) (by kernel_rfl) (fun _ _ _ h => h) (by kernel_rfl) (fun w hSw => ?_) ⟨C4, S4, h0, h1, h2, h3, hW⟩ ?_
                · exact run_row rfl rfl hSw.1 Tryd.underlying23 info23
                try simp only [Act.put, List.setIfInBounds_toArray, List.set_cons_zero, List.set_cons_succ]
                refine wa_take (v := (.agg #[.int .i64 k, .int .i64 ((N : Int) % x0), .int .i64 ((N : Int) % x1), .int .i64 256, .int .i64 (1 + (N : Int) % 255)])) 24 rfl (by kernel_rfl) (by kernel_rfl) (by kernel_rfl) (fun _ _ _ h => h) (by kernel_rfl) (fun w hSw => ?_) ⟨C4, S4, h0, h1, h2, h3, hW⟩ ?_
                · exact run_row rfl rfl hSw.2.2.2.2.1 Tryd.underlying27 info27
                try simp only [Act.put, List.setIfInBounds_toArray, List.set_cons_zero, List.set_cons_succ]
                refine wa_take (v := (.slice (some ⟨w8.heap.size, 0, none⟩) 4 4)) 26 rfl (by kernel_rfl) (by kernel_rfl) (by kernel_rfl) (fun _ _ _ h => h) (by kernel_rfl) (fun w hSw => ?_) ⟨C4, S4, h0, h1, h2, h3, hW⟩ ?_
                · try dsimp only at hSw
                  go_simp
                try simp only [Act.put, List.setIfInBounds_toArray, List.set_cons_zero, List.set_cons_succ]
                refine wa_take (v := (.pointer (some ⟨w8.heap.size, 2, none⟩))) 27 rfl (by kernel_rfl) (by kernel_rfl) (by kernel_rfl) (fun _ _ _ h => h) (by kernel_rfl) (fun w hSw => ?_) ⟨C4, S4, h0, h1, h2, h3, hW⟩ ?_
                · try dsimp only at hSw
                  go_simp
                try simp only [Act.put, List.setIfInBounds_toArray, List.set_cons_zero, List.set_cons_succ]
                refine wa_take (v := (.int .i64 v3)) 28 rfl (by kernel_rfl) (by kernel_rfl) (by kernel_rfl) (fun _ _ _ h => h) (by kernel_rfl) (fun w hSw => ?_) ⟨C4, S4, h0, h1, h2, h3, hW⟩ ?_
                · have hq := hSw.2.2.2.2.2.2.cell (k := 2) rfl
                  go_simp
                try simp only [Act.put, List.setIfInBounds_toArray, List.set_cons_zero, List.set_cons_succ]
                refine wa_one 25 (by kernel_rfl) rfl (by kernel_rfl) (fun Kc hK => ?_)
                go_simp
                go_at_call 17
                refine (unhide K3 _ (unhide G4)).mono ?_
                rintro ev w' ⟨rfl, b⟩
                replace C4 := C4.below b
                replace S4 := S4.below b
                replace h0 := h0.below b
                replace h1 := h1.below b
                replace h2 := h2.below b
                replace h3 := h3.below b
                replace hW := hW.below b
                replace G4 := hide ((unhide G4).below b)
                replace B4 := hide (below_of (unhide B4) b)
                clear b
                refine hK.out _ _ ⟨C4, S4, h0, h1, h2, h3, hW⟩ ?_
                clear hK Kc
                try simp only [Act.put, List.setIfInBounds_toArray, List.set_cons_zero, List.set_cons_succ]
                refine wa_take (v := (.bool true)) 29 rfl (by kernel_rfl) (by kernel_rfl) (by kernel_rfl) (fun _ _ _ h => h) (by kernel_rfl) (fun w hSw => ?_) ⟨C4, S4, h0, h1, h2, h3, hW⟩ ?_
                · try dsimp only at hSw
                  go_simp
                try simp only [Act.put, List.setIfInBounds_toArray, List.set_cons_zero, List.set_cons_succ]
                refine wa_take (v := (.bool true)) 30 rfl (by kernel_rfl) (by kernel_rfl) (by kernel_rfl) (fun _ _ _ h => h) (by kernel_rfl) (fun w hSw => ?_) ⟨C4, S4, h0, h1, h2, h3, hW⟩ ?_
                · try dsimp only at hSw
                  go_simp
                try simp only [Act.put, List.setIfInBounds_toArray, List.set_cons_zero, List.set_cons_succ]
                refine wa_take (v := (.bool true)) 31 rfl (by kernel_rfl) (by kernel_rfl) (by kernel_rfl) (fun _ _ _ h => h) (by kernel_rfl) (fun w hSw => ?_) ⟨C4, S4, h0, h1, h2, h3, hW⟩ ?_
                · try dsimp only at hSw
                  go_simp
                try simp only [Act.put, List.setIfInBounds_toArray, List.set_cons_zero, List.set_cons_succ]
                refine wa_take (v := (.agg #[.int .i64 x0, .int .i64 x1, .int .i64 x2, .int .i64 x3, .int .i64 x4, .int .i64 x5, .int .i64 x6])) 32 rfl (by kernel_rfl) (by kernel_rfl) (by kernel_rfl) (fun _ _ _ h => h) (by kernel_rfl) (fun w hSw => ?_) ⟨C4, S4, h0, h1, h2, h3, hW⟩ ?_
                · exact run_row rfl rfl hSw.1 Tryd.underlying23 info23
                try simp only [Act.put, List.setIfInBounds_toArray, List.set_cons_zero, List.set_cons_succ]
                refine wa_take (v := (.agg #[.int .i64 k, .int .i64 ((N : Int) % x0), .int .i64 ((N : Int) % x1), .int .i64 N, .int .i64 0])) 33 rfl (by kernel_rfl) (by kernel_rfl) (by kernel_rfl) (fun _ _ _ h => h) (by kernel_rfl) (fun w hSw => ?_) ⟨C4, S4, h0, h1, h2, h3, hW⟩ ?_
                · exact run_row rfl rfl hSw.2.2.2.2.2.1 Tryd.underlying27 info27
                try simp only [Act.put, List.setIfInBounds_toArray, List.set_cons_zero, List.set_cons_succ]
                refine wa_take (v := (.slice (some ⟨w8.heap.size, 0, none⟩) 4 4)) 35 rfl (by kernel_rfl) (by kernel_rfl) (by kernel_rfl) (fun _ _ _ h => h) (by kernel_rfl) (fun w hSw => ?_) ⟨C4, S4, h0, h1, h2, h3, hW⟩ ?_
                · try dsimp only at hSw
                  go_simp
                try simp only [Act.put, List.setIfInBounds_toArray, List.set_cons_zero, List.set_cons_succ]
                refine wa_take (v := (.pointer (some ⟨w8.heap.size, 3, none⟩))) 36 rfl (by kernel_rfl) (by kernel_rfl) (by kernel_rfl) (fun _ _ _ h => h) (by kernel_rfl) (fun w hSw => ?_) ⟨C4, S4, h0, h1, h2, h3, hW⟩ ?_
                · try dsimp only at hSw
                  go_simp
                try simp only [Act.put, List.setIfInBounds_toArray, List.set_cons_zero, List.set_cons_succ]
                refine wa_take (v := (.int .i64 v4)) 37 rfl (by kernel_rfl) (by kernel_rfl) (by kernel_rfl) (fun _ _ _ h => h) (by kernel_rfl) (fun w hSw => ?_) ⟨C4, S4, h0, h1, h2, h3, hW⟩ ?_
                · have hq := hSw.2.2.2.2.2.2.cell (k := 3) rfl
                  go_simp
                try simp only [Act.put, List.setIfInBounds_toArray, List.set_cons_zero, List.set_cons_succ]
                refine wa_one 34 (by kernel_rfl) rfl (by kernel_rfl) (fun Kc hK => ?_)
                go_simp
                go_at_call 17
                refine (unhide K4 _ (unhide G4)).mono ?_
                rintro ev w' ⟨rfl, b⟩
                replace C4 := C4.below b
                replace S4 := S4.below b
                replace h0 := h0.below b
                replace h1 := h1.below b
                replace h2 := h2.below b
                replace h3 := h3.below b
                replace hW := hW.below b
                replace G4 := hide ((unhide G4).below b)
                replace B4 := hide (below_of (unhide B4) b)
                clear b
                refine hK.out _ _ ⟨C4, S4, h0, h1, h2, h3, hW⟩ ?_
                clear hK Kc
                try simp only [Act.put, List.setIfInBounds_toArray, List.set_cons_zero, List.set_cons_succ]
                refine wa_take (v := (.bool true)) 38 rfl (by kernel_rfl) (by kernel_rfl) (by kernel_rfl) (fun _ _ _ h => h) (by kernel_rfl) (fun w hSw => ?_) ⟨C4, S4, h0, h1, h2, h3, hW⟩ ?_
                · try dsimp only at hSw
                  go_simp
                try simp only [Act.put, List.setIfInBounds_toArray, List.set_cons_zero, List.set_cons_succ]
                refine wa_take (v := (.bool true)) 39 rfl (by kernel_rfl) (by kernel_rfl) (by kernel_rfl) (fun _ _ _ h => h) (by kernel_rfl) (fun w hSw => ?_) ⟨C4, S4, h0, h1, h2, h3, hW⟩ ?_
                · try dsimp only at hSw
                  go_simp
                try simp only [Act.put, List.setIfInBounds_toArray, List.set_cons_zero, List.set_cons_succ]
                refine wa_take (v := (.bool true)) 40 rfl (by kernel_rfl) (by kernel_rfl) (by kernel_rfl) (fun _ _ _ h => h) (by kernel_rfl) (fun w hSw => ?_) ⟨C4, S4, h0, h1, h2, h3, hW⟩ ?_
                · try dsimp only at hSw
                  go_simp
                try simp only [Act.put, List.setIfInBounds_toArray, List.set_cons_zero, List.set_cons_succ]
                refine wa_one 41 (by kernel_rfl) rfl (by kernel_rfl) (fun Kc hK => ?_)
                go_simp
                go_at_call 18
                refine (wakes_any e _ (unhide G4)).mono ?_
                rintro ev w' ⟨rfl, b⟩
                replace C4 := C4.below b
                replace S4 := S4.below b
                replace h0 := h0.below b
                replace h1 := h1.below b
                replace h2 := h2.below b
                replace h3 := h3.below b
                replace hW := hW.below b
                replace B4 := hide (below_of (unhide B4) b)
                clear b
                refine hK.out _ _ ⟨C4, S4, h0, h1, h2, h3, hW⟩ ?_
                clear hK Kc
                try simp only [Act.put, List.setIfInBounds_toArray, List.set_cons_zero, List.set_cons_succ]
                refine wa_take (v := (.bool true)) 42 rfl (by kernel_rfl) (by kernel_rfl) (by kernel_rfl) (fun _ _ _ h => h) (by kernel_rfl) (fun w hSw => ?_) ⟨C4, S4, h0, h1, h2, h3, hW⟩ ?_
                · try dsimp only at hSw
                  go_simp
                try simp only [Act.put, List.setIfInBounds_toArray, List.set_cons_zero, List.set_cons_succ]
                refine wa_take (v := (.bool true)) 43 rfl (by kernel_rfl) (by kernel_rfl) (by kernel_rfl) (fun _ _ _ h => h) (by kernel_rfl) (fun w hSw => ?_) ⟨C4, S4, h0, h1, h2, h3, hW⟩ ?_
                · try dsimp only at hSw
                  go_simp
                try simp only [Act.put, List.setIfInBounds_toArray, List.set_cons_zero, List.set_cons_succ]
                clear C4 S4 h0 h1 h2 h3 hW
                refine wa_done (by kernel_rfl) ?_
                go_wp2
                go_ret
                exact ⟨rfl, unhide B4⟩
end Go.Proofs.YtfhglganaebpoaaDoor
