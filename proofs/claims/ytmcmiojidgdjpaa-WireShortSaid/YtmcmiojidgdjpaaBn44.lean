/- A message's bytes with some left out, with one more, are none: plain facts. -/
import Derived.Test.YtmcmiojidgdjpaaBn29
import Derived.Test.YtmcmiojidgdjpaaBn3
namespace Go.Proofs.Ytmcmiojidgdjpaa
open Go.RowKit

theorem decC_seal (D : Nat → Nat) (n : Nat) (hD : ∀ i, i < n → D i < 256) (hn : n ≤ 76) (hW : ¬ Whole (Cr.sealD D n (Cr.sumN D n)) n) : decC (Cr.sealD D n (Cr.sumN D n)) (n + 4) = 3 := by
  have hw : wholeB (Cr.sealD D n (Cr.sumN D n)) n = false := by
    cases h : wholeB (Cr.sealD D n (Cr.sumN D n)) n with
    | false => rfl
    | true => exact absurd ((wholeB_iff _ _).1 h) hW
  unfold decC
  rw [if_neg (by omega), if_neg (by omega), Nat.add_sub_cancel, if_pos (Cr.seal_good D n hD), hw, if_neg (by decide)]
theorem short_cut (m : Mg) (F G : Nat → Int) (n k q : Nat) (h : chkB m F n G k = true) (hq : q < 44 + n + k) : decC (Cr.sealD (frD m F n G k) q (Cr.sumN (frD m F n G k) q)) (q + 4) = 3 := by
  obtain ⟨h1, h2, _, _⟩ := lists_of m F G n k h
  obtain ⟨_, e2, e3, _, _⟩ := fr_says m F G n k h
  refine decC_seal _ q (fun i _ => fr_lt m F G n k h i) (by omega) ?_
  rintro ⟨_, hW⟩
  rw [Cr.sealD_ahead _ _ _ 42 (by omega), e2] at hW
  rw [Cr.sealD_ahead _ _ _ (43 + n) (by omega), e3] at hW
  omega
/-- Some bytes, and one more behind. -/
def moreD (D : Nat → Nat) (n x i : Nat) : Nat := if i < n then D i else x
theorem short_more (m : Mg) (F G : Nat → Int) (n k x : Nat) (h : chkB m F n G k = true) (hx : x < 256) : decC (Cr.sealD (moreD (frD m F n G k) (44 + n + k) x) (44 + n + k + 1) (Cr.sumN (moreD (frD m F n G k) (44 + n + k) x) (44 + n + k + 1))) (44 + n + k + 1 + 4) = 3 := by
  obtain ⟨h1, h2, _, _⟩ := lists_of m F G n k h
  obtain ⟨_, e2, e3, _, _⟩ := fr_says m F G n k h
  refine decC_seal _ _ (fun i _ => ?_) (by omega) ?_
  · unfold moreD
    split
    · exact fr_lt m F G n k h i
    · exact hx
  rintro ⟨_, hW⟩
  have q1 : moreD (frD m F n G k) (44 + n + k) x 42 = n := by
    unfold moreD
    rw [if_pos (by omega), e2]
  have q2 : moreD (frD m F n G k) (44 + n + k) x (43 + n) = k := by
    unfold moreD
    rw [if_pos (by omega), e3]
  rw [Cr.sealD_ahead _ _ _ 42 (by omega), q1] at hW
  rw [Cr.sealD_ahead _ _ _ (43 + n) (by omega), q2] at hW
  omega
theorem more_list (D : Nat → Nat) (n x : Nat) : Cr.bL D n ++ [.int .u8 (x : Int)] = Cr.bL (moreD D n x) (n + 1) := by
  unfold Cr.bL
  rw [vL_succ, vL_congr (F := fun i => ((moreD D n x i : Nat) : Int)) (G := fun i => (D i : Int)) fun j hj => by
    show ((moreD D n x j : Nat) : Int) = _
    unfold moreD
    rw [if_pos hj]]
  unfold moreD
  rw [if_neg (by omega)]
theorem more_bs {w : World} {B n x : Nat} {v : Value} {D : Nat → Nat} (h : w.ownsRow B 5 1 v (n + 1) (vL .u8 (cat (fun i => (D i : Int)) n fun _ => (x : Int)) (n + 1))) : Cr.Bs w v (n + 1) (moreD D n x) := by
  refine (sl_of_owns h).congr fun i _ => ?_
  unfold cat moreD
  split
  · rfl
  · rfl
/-- What Get reads of a right message's bytes. -/
theorem fr_get (m : Mg) (F G : Nat → Int) (n k j : Nat) (hj : j < 14) (h : chkB m F n G k = true) (v : Value) (w : World) (hv : Cr.Bs w v (44 + n + k) (frD m F n G k)) :
    Calls Try.prog 21 #[v, .int .i64 (wst j : Int), .int .i64 (wsz j : Int)] w fun e w' => (∃ y, e = .returned (.tuple #[.int .i64 (wf m j), .int .i64 y, .int .i64 0])) ∧ w' = w := by
  obtain ⟨h1, h2, _, _⟩ := lists_of m F G n k h
  obtain ⟨e1, _, _, _, _⟩ := fr_says m F G n k h
  have hg : gN (E (frD m F n G k)) j = wf m j := by rw [← rdM_wf _ j hj, e1]
  have hl := wst_le j hj
  have h0 : Co.gf (E (frD m F n G k)) (44 + n + k) (wst j : Int) (wsz j : Int) = 0 := by
    refine (gf_zero _ _ j hj).2 ⟨by omega, gN_lt _ (44 + n + k) j (fun i _ => fr_lt m F G n k h i) hj (by omega) ?_⟩
    rw [← rdM_wf _ 6 (by omega), e1]
    exact (fit_of m F G n k h 6 (by omega)).2
  refine (Co.get_all (E (frD m F n G k)) v (44 + n + k) (wst j) (wsz j) w hv (fun i _ => by have := fr_lt m F G n k h i; unfold E; omega) (by omega)).mono ?_
  rintro e w' ⟨rfl, rfl⟩
  rw [h0, gy_ok _ _ j h0, hg]
  exact ⟨⟨_, rfl⟩, rfl⟩
end Go.Proofs.Ytmcmiojidgdjpaa
