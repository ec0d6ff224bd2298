/- Walk of WireBack: two right messages; plain facts. -/
import Derived.Test.YtmcmiojidgdjpaaBn32
import Derived.Test.YtmcmiojidgdjpaaBn12
namespace Go.Proofs.Ytmcmiojidgdjpaa
open Go.RowKit

theorem at_act {Q : Act → World → Prop} {a b : Act} {w : World} (e : a = b) (h : Q b w) : Q a w := by
  subst e
  exact h
theorem bs_below {w w' : World} {v : Value} {n : Nat} {D : Nat → Nat} (h : Cr.Bs w v n D) (b : Below w.heap.size w w') : Cr.Bs w' v n D := Sl.below h b (Nat.le_refl _)
theorem bytes_len (va vb : Value) (F G : Nat → Int) (n k : Nat) (w : World) (ha : Sl .u8 w va n F) (hb : Sl .u8 w vb k G) (h : n ≠ k) : Calls Try.prog 14 #[va, vb] w fun e w' => e = .returned (.bool false) ∧ Below w.heap.size w w' := by
  obtain ⟨p, c, rfl, _, _⟩ := ha.shape
  obtain ⟨q, d, rfl, _, _⟩ := hb.shape
  have d1 : ((n : Int) != (k : Int)) = true := by
    rw [bne_iff_ne]
    omega
  clear ha hb h
  go_enter Try.func14, Try.ntmps14
  go_wp2
  go_ret
  exact ⟨rfl, Below.refl _ _⟩
theorem fr_congr (m : Mg) {F F' G G' : Nat → Int} {n k : Nat} (hF : ∀ i, i < n → F i = F' i) (hG : ∀ i, i < k → G i = G' i) (i : Nat) (_ : i < 48 + n + k) : frD m F n G k i = frD m F' n G' k i := by
  have low : ∀ i, i < 44 + n + k → mD m F n G k i = mD m F' n G' k i := fun i hi => by
    unfold mD
    rw [msgF_congr m F F' G G' n k hF hG i hi]
  unfold frD
  rw [Cr.sumN_congr low]
  unfold Cr.sealD
  by_cases q : i < 44 + n + k
  · rw [if_pos q, if_pos q, low i q]
  · rw [if_neg q, if_neg q]
/-- Unlike messages have unlike frames. -/
theorem fr_iff (m m' : Mg) (F G F' G' : Nat → Int) (n k n' k' : Nat) (h : chkB m F n G k = true) (h' : chkB m' F' n' G' k' = true) :
    samB m F n G k m' F' n' G' k' = true ↔ (48 + n + k = 48 + n' + k' ∧ ∀ i, i < 48 + n + k → frD m F n G k i = frD m' F' n' G' k' i) := by
  rw [same_iff]
  constructor
  · rintro ⟨rfl, rfl, rfl, hF, hG⟩
    exact ⟨rfl, fr_congr m hF hG⟩
  · rintro ⟨hl, hq⟩
    refine msgF_inj m m' (fit_of m F G n k h) (fit_of m' F' G' n' k' h') F F' G G' n n' k k' (by omega) fun i hi => ?_
    have e1 := fr_msg m F G n k h i hi
    have e2 := fr_msg m' F' G' n' k' h' i (by omega)
    have e3 := hq i (by omega)
    unfold E at e1 e2
    omega
/-- keep.Bytes of two frames. -/
theorem bytes_fr (m m' : Mg) (F G F' G' : Nat → Int) (n k n' k' : Nat) (h : chkB m F n G k = true) (h' : chkB m' F' n' G' k' = true) (va vb : Value) (w : World) (ha : Cr.Bs w va (48 + n + k) (frD m F n G k)) (hb : Cr.Bs w vb (48 + n' + k') (frD m' F' n' G' k')) :
    Calls Try.prog 14 #[va, vb] w fun e w' => e = .returned (.bool (samB m F n G k m' F' n' G' k')) ∧ Below w.heap.size w w' := by
  have hi := fr_iff m m' F G F' G' n k n' k' h h'
  by_cases hl : 48 + n + k = 48 + n' + k'
  · rw [← hl] at hb
    by_cases hq : ∀ i, i < 48 + n + k → frD m F n G k i = frD m' F' n' G' k' i
    · rw [hi.2 ⟨hl, hq⟩]
      exact Cr.bytes_b _ _ _ _ w ha (hb.congr fun i hi => by show ((_ : Nat) : Int) = _; rw [hq i hi])
    · cases hs : samB m F n G k m' F' n' G' k' with
      | true => exact absurd (hi.1 hs).2 hq
      | false => exact Cr.bytes_f _ _ _ _ _ w ha hb hq
  · cases hs : samB m F n G k m' F' n' G' k' with
    | true => exact absurd (hi.1 hs).1 hl
    | false => exact bytes_len _ _ _ _ _ _ w ha hb hl
/-- Decode of a frame with up to four bytes side by side changed. -/
theorem dec_xor_same (m : Mg) (F G : Nat → Int) (n k q : Nat) (X : Nat → Nat) (h : chkB m F n G k = true) (hz : ∀ j, j < 4 → X j = 0) (v : Value) (w : World) (hv : Cr.Bs w v (48 + n + k) (Cr.xorD (frD m F n G k) q X 4)) : Calls Try.prog 11 #[v] w (Fin m F G n k w) := by
  refine dec_fr m F G n k h v w (hv.congr fun i _ => ?_)
  show ((_ : Nat) : Int) = _
  congr 1
  unfold Cr.xorD
  split
  · rw [hz _ (by omega), Nat.xor_zero]
  · rfl
theorem dec_xor_bad (m : Mg) (F G : Nat → Int) (n k q : Nat) (X : Nat → Nat) (h : chkB m F n G k = true) (hX : ∀ j, j < 4 → X j < 256) (hq : q ≤ 44 + n + k) (hz : ¬ ∀ j, j < 4 → X j = 0) (v : Value) (w : World) (hv : Cr.Bs w v (48 + n + k) (Cr.xorD (frD m F n G k) q X 4)) : Calls Try.prog 11 #[v] w (Bad 4 w) := by
  obtain ⟨h1, h2, _, _⟩ := lists_of m F G n k h
  refine dec_bad _ v _ w hv (fun i _ => Cr.xorD_lt _ _ _ _ _ (fr_lt m F G n k h i) hX) 4 ?_ (by decide)
  unfold decC
  rw [if_neg (by omega), if_neg (by omega), show 48 + n + k - 4 = 44 + n + k by omega, if_neg fun e => hz ((Cr.back_iff _ X _ q hq (fun i _ => fr_lt m F G n k h i) hX (fr_sum m F G n k h)).1 e)]
end Go.Proofs.Ytmcmiojidgdjpaa
