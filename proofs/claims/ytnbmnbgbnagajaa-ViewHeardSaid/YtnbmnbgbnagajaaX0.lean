/- What ViewExact asks of each call, told as slices of peers and of numbers. -/
import Derived.Test.YtnbmnbgbnagajaaW1
namespace Go.Proofs.Ytnbmnbgbnagajaa
open Go.RowKit

theorem twin_p (F : Nat → Int) (v : Value) (n : Nat) (w : World) (hv : Pe w v n F) (hn : n ≤ 20) :
    Calls Try.prog 8 #[v] w fun e w' => ∃ v', e = .returned v' ∧ Pe w' v' n F ∧ Below w.heap.size w w' := by
  refine (twin_any F v n w hv (by omega)).mono ?_
  rintro e w' ⟨v', rfl, o, b⟩
  exact ⟨v', rfl, pe_of_owns o, b⟩
theorem hear_p (F : Nat → Int) (v : Value) (n k : Nat) (inc : Int) (w : World) (hv : Pe w v n F) (h : rt n F = true) (hk : k < n) (hi : 1 ≤ inc ∧ inc ≤ 1073741824) :
    Calls Try.prog 9 #[v, .int .i64 (k : Int), .int .i64 inc] w fun e w' => ∃ v', e = .returned (.tuple #[v', .int .i64 0]) ∧ Pe w' v' n (hrF F k inc) ∧ Below w.heap.size w w' := by
  refine (hear_ok F v n k inc w hv h hk hi).mono ?_
  rintro e w' ⟨v', rfl, o, b⟩
  exact ⟨v', rfl, pe_of_owns o, b⟩
theorem rhear_p (F : Nat → Int) (v : Value) (n k : Nat) (inc : Int) (w : World) (hv : Pe w v n F) (h : rt n F = true) (hk : k < n) :
    Calls Try.prog 17 #[v, .int .i64 (k : Int), .int .i64 inc] w fun e w' => ∃ v', e = .returned v' ∧ Pe w' v' n (hrF F k inc) ∧ Below w.heap.size w w' := by
  refine (rhear_ok F v n k inc w hv (rt_iff.1 h).2.1 hk).mono ?_
  rintro e w' ⟨v', rfl, o, b⟩
  exact ⟨v', rfl, pe_of_owns o, b⟩
theorem older_p (F : Nat → Int) (v : Value) (n : Nat) (w : World) (hv : Pe w v n F) (h : rt n F = true) :
    Calls Try.prog 10 #[v] w fun e w' => ∃ v', e = .returned (.tuple #[v', .int .i64 0]) ∧ Pe w' v' n (olF F) ∧ Below w.heap.size w w' := by
  refine (older_ok F v n w hv h).mono ?_
  rintro e w' ⟨v', rfl, o, b⟩
  exact ⟨v', rfl, pe_of_owns o, b⟩
theorem rolder_p (F : Nat → Int) (v : Value) (n : Nat) (w : World) (hv : Pe w v n F) (h : rt n F = true) :
    Calls Try.prog 16 #[v] w fun e w' => ∃ v', e = .returned v' ∧ Pe w' v' n (olF F) ∧ Below w.heap.size w w' := by
  refine (rolder_ok F v n w hv h).mono ?_
  rintro e w' ⟨v', rfl, o, b⟩
  exact ⟨v', rfl, pe_of_owns o, b⟩
theorem live_p (F : Nat → Int) (v : Value) (n s : Nat) (w : World) (hv : Pe w v n F) (h : rt n F = true) (hs : s < n) :
    Calls Try.prog 11 #[v, .int .i64 (s : Int)] w fun e w' => ∃ v', e = .returned (.tuple #[v', .int .i64 0]) ∧ Sl .i64 w' v' (lvL F s n).length (nF (lvL F s n)) ∧ Below w.heap.size w w' := by
  refine (live_ok F v n s w hv h hs).mono ?_
  rintro e w' ⟨v', rfl, o, b⟩
  rw [nL_vL] at o
  exact ⟨v', rfl, sl_of_owns o, b⟩
theorem rlive_p (F : Nat → Int) (v : Value) (n s : Nat) (w : World) (hv : Pe w v n F) (h : rt n F = true) :
    Calls Try.prog 19 #[v, .int .i64 (s : Int)] w fun e w' => ∃ v', e = .returned v' ∧ Sl .i64 w' v' (lvL F s n).length (nF (lvL F s n)) ∧ Below w.heap.size w w' := by
  refine (rlive_ok F v n s w hv (rt_iff.1 h).2.1).mono ?_
  rintro e w' ⟨v', rfl, o, b⟩
  rw [nL_vL] at o
  exact ⟨v', rfl, sl_of_owns o, b⟩
theorem hear_e (F : Nat → Int) (v : Value) (n : Nat) (x inc r : Int) (w : World) (hv : Pe w v n F) (hr : plc n F x = r) (h : r ≠ 0) :
    Calls Try.prog 9 #[v, .int .i64 x, .int .i64 inc] w fun e w' => e = .returned (.tuple #[.slice none 0 0, .int .i64 r]) ∧ Below w.heap.size w w' := by
  subst hr
  exact hear_place F v n x inc w hv h
theorem live_e (F : Nat → Int) (v : Value) (n : Nat) (x r : Int) (w : World) (hv : Pe w v n F) (hr : plc n F x = r) (h : r ≠ 0) :
    Calls Try.prog 11 #[v, .int .i64 x] w fun e w' => e = .returned (.tuple #[.slice none 0 0, .int .i64 r]) ∧ Below w.heap.size w w' := by
  subst hr
  exact live_bad F v n x w hv h
theorem check_c (F : Nat → Int) (v : Value) (n : Nat) (r : Int) (w : World) (hv : Pe w v n F) (hr : chk n F = r) : Calls Try.prog 14 #[v] w fun e w' => e = .returned (.int .i64 r) ∧ Below w.heap.size w w' := by
  subst hr
  exact check_any F v n w hv
theorem peers_c (F : Nat → Int) (v : Value) (n : Nat) (r : Bool) (w : World) (hv : Pe w v n F) (hr : rt n F = r) : Calls Try.prog 13 #[v] w fun e w' => e = .returned (.bool r) ∧ Below w.heap.size w w' := by
  subst hr
  exact peers_any F v n w hv
theorem heavy_c (p : Option Addr) (n c : Nat) (r : Bool) (w : World) (hr : decide ((20 : Int) < (n : Int)) = r) : Calls Try.prog 7 #[.slice p n c] w fun e w' => e = .returned (.bool r) ∧ Below w.heap.size w w' := by
  subst hr
  refine (heavy_any p n c w).mono ?_
  rintro e w' ⟨rfl, rfl⟩
  exact ⟨rfl, Below.refl _ _⟩
theorem kpeers_p (F : Nat → Int) (v u : Value) (n : Nat) (w : World) (hv : Pe w v n F) (hu : Pe w u n F) : Calls Try.prog 12 #[v, u] w fun ev w' => ev = .returned (.bool true) ∧ Below w.heap.size w w' :=
  kpeers_same F F v u n w hv hu fun _ _ => rfl
theorem kints_p (F : Nat → Int) (v u : Value) (n : Nat) (w : World) (hv : Sl .i64 w v n F) (hu : Sl .i64 w u n F) : Calls Try.prog 18 #[v, u] w fun ev w' => ev = .returned (.bool true) ∧ Below w.heap.size w w' :=
  kints_same F F v u n w hv hu fun _ _ => rfl
theorem plc_bad {n : Nat} {F : Nat → Int} (h : rt n F = false) (x : Int) : plc n F x = 1 := by simp [plc, h]
theorem plc_out {n : Nat} {F : Nat → Int} {x : Int} (h : rt n F = true) (hx : ¬ (0 ≤ x ∧ x < n)) : plc n F x = 9 := by simp only [plc, h, if_neg hx, if_true]
theorem chk_good {n : Nat} {F : Nat → Int} (h : rt n F = true) : chk n F = 0 := by simp [chk, h]
theorem chk_bad {n : Nat} {F : Nat → Int} (h : rt n F = false) : chk n F = 1 := by simp [chk, h]
end Go.Proofs.Ytnbmnbgbnagajaa
