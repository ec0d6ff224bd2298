/- Walk of wire.Encode. -/
import Derived.Test.YtmcmiojidgdjpaaBw22
import Derived.Test.YtmcmiojidgdjpaaBw13
import Derived.Test.YtmcmiojidgdjpaaBw16
import Derived.Test.YtmcmiojidgdjpaaBw5
namespace Go.Proofs.Ytmcmiojidgdjpaa
open Go.RowKit

/-- A message's bytes, as naturals. -/
def mD (m : Mg) (F : Nat → Int) (n : Nat) (G : Nat → Int) (k i : Nat) : Nat := (msgF m F n G k i).toNat
/-- Its frame. -/
def frD (m : Mg) (F : Nat → Int) (n : Nat) (G : Nat → Int) (k : Nat) : Nat → Nat := Cr.sealD (mD m F n G k) (44 + n + k) (Cr.sumN (mD m F n G k) (44 + n + k))
/-- What is known of a right message's bytes. -/
theorem right_bytes (m : Mg) (F G : Nat → Int) (n k : Nat) (h : chkB m F n G k = true) (i : Nat) (hi : i < 44 + n + k) : ((mD m F n G k i : Nat) : Int) = msgF m F n G k i ∧ mD m F n G k i < 256 := by
  obtain ⟨h1, h2, h3, h4⟩ := lists_of m F G n k h
  have := msgF_bd m F n G k (by omega) (by omega) (fun i hi => ⟨(h3 i hi).1, by have := h3 i hi; omega⟩) (fun i hi => ⟨(h4 i hi).1, by have := h4 i hi; omega⟩) i hi
  unfold mD
  omega
theorem enc_bad (m : Mg) (F G : Nat → Int) (p t : Value) (n k : Nat) (w : World) (hp : Sl .i64 w p n F) (ht : Sl .i64 w t k G) (hn : n ≤ 1000) (hk : k ≤ 1000) (h : chkB m F n G k = false) :
    Calls Try.prog 10 #[mv m p t] w fun e w' => e = .returned (.tuple #[.slice none 0 0, .int .i64 5]) ∧ Below w.heap.size w w' := by
  obtain ⟨pp, cp, rfl, lp, kp⟩ := hp.shape
  obtain ⟨pt, ct, rfl, lt, kt⟩ := ht.shape
  have B0 : Hid (Below w.heap.size w (w.alloc (.cells #[.int .i64 m.kd, .int .i64 m.fr, .int .i64 m.fi, .int .i64 m.tw, .int .i64 m.ti, .int .i64 m.tp, .int .i64 m.ep, .int .i64 m.sq, .int .i64 m.la, .int .i64 m.va, .int .i64 m.no, .int .i64 m.ic, .int .i64 m.ct, .int .i64 m.hp, .slice pp n cp, .slice pt k ct] 24))) := hide ((Below.refl _ _).alloc (Nat.le_refl _) _)
  have CC := fun w' (b : Below w.heap.size w w') => check_any m F G (.slice pp n cp) (.slice pt k ct) n k w' (hp.below b (Nat.le_refl _)) (ht.below b (Nat.le_refl _)) hn hk
  rw [h] at CC
  replace CC := hide CC
  clear hp ht lp lt kp kt h
  unfold mv at CC
  unfold mv
  go_enter Try.func10, Try.ntmps10
  go_wp2_with (first
    | (refine wpList_load24 (.tmp 1) rfl (by first | rfl | simp [Region.wanted, yielded]) w.heap.size #[.int .i64 m.kd, .int .i64 m.fr, .int .i64 m.fi, .int .i64 m.tw, .int .i64 m.ti, .int .i64 m.tp, .int .i64 m.ep, .int .i64 m.sq, .int .i64 m.la, .int .i64 m.va, .int .i64 m.no, .int .i64 m.ic, .int .i64 m.ct, .int .i64 m.hp, .slice pp n cp, .slice pt k ct] rfl (heap_alloc_new _ _) rfl ?_)
    | (go_at_call 23; with_reducible refine (unhide CC _ (unhide B0)).mono ?_; rintro e w1 ⟨rfl, b1⟩; have B1 := hide (below_of (unhide B0) b1); clear b1))
  go_ret2
  exact ⟨rfl, unhide B1⟩
theorem enc_ok (m : Mg) (F G : Nat → Int) (p t : Value) (n k : Nat) (w : World) (hp : Sl .i64 w p n F) (ht : Sl .i64 w t k G) (h : chkB m F n G k = true) :
    Calls Try.prog 10 #[mv m p t] w fun e w' => ∃ v, e = .returned (.tuple #[v, .int .i64 0]) ∧ w'.ownsRow w.heap.size 5 1 v (48 + n + k) (Cr.bL (frD m F n G k) (48 + n + k)) ∧ Below w.heap.size w w' := by
  obtain ⟨h1, h2, h3, h4⟩ := lists_of m F G n k h
  have hf := fit_of m F G n k h
  obtain ⟨pp, cp, rfl, lp, kp⟩ := hp.shape
  obtain ⟨pt, ct, rfl, lt, kt⟩ := ht.shape
  have B0 : Hid (Below w.heap.size w (w.alloc (.cells #[.int .i64 m.kd, .int .i64 m.fr, .int .i64 m.fi, .int .i64 m.tw, .int .i64 m.ti, .int .i64 m.tp, .int .i64 m.ep, .int .i64 m.sq, .int .i64 m.la, .int .i64 m.va, .int .i64 m.no, .int .i64 m.ic, .int .i64 m.ct, .int .i64 m.hp, .slice pp n cp, .slice pt k ct] 24))) := hide ((Below.refl _ _).alloc (Nat.le_refl _) _)
  have LW : Hid (w.heap.size < (w.alloc (.cells #[.int .i64 m.kd, .int .i64 m.fr, .int .i64 m.fi, .int .i64 m.tw, .int .i64 m.ti, .int .i64 m.tp, .int .i64 m.ep, .int .i64 m.sq, .int .i64 m.la, .int .i64 m.va, .int .i64 m.no, .int .i64 m.ic, .int .i64 m.ct, .int .i64 m.hp, .slice pp n cp, .slice pt k ct] 24)).heap.size) := hide (by simp)
  have CC := fun w' (b : Below w.heap.size w w') => check_any m F G (.slice pp n cp) (.slice pt k ct) n k w' (hp.below b (Nat.le_refl _)) (ht.below b (Nat.le_refl _)) (by omega) (by omega)
  have CW : ∀ w', Below w.heap.size w w' → Calls Try.prog 24 #[mv m (.slice pp n cp) (.slice pt k ct)] w' fun e w2 => ∃ v, e = .returned v ∧ Cr.Bs w2 v (44 + n + k) (mD m F n G k) ∧ Below w'.heap.size w' w2 := by
    intro w' b
    refine (written_is m F G _ _ n k w' hf (hp.below b (Nat.le_refl _)) (ht.below b (Nat.le_refl _)) (by omega) (by omega) (fun i hi => ⟨(h3 i hi).1, by have := h3 i hi; omega⟩) (fun i hi => ⟨(h4 i hi).1, by have := h4 i hi; omega⟩)).mono ?_
    rintro e w2 ⟨v, rfl, o, b2⟩
    exact ⟨v, rfl, (sl_of_owns o).congr fun i hi => (right_bytes m F G n k h i hi).1.symm, b2⟩
  have CS : ∀ v w1, Cr.Bs w1 v (44 + n + k) (mD m F n G k) → Calls Try.prog 20 #[v] w1 fun e w' => ∃ v', e = .returned v' ∧ w'.ownsRow w1.heap.size 5 1 v' (48 + n + k) (Cr.bL (frD m F n G k) (48 + n + k)) ∧ Below w1.heap.size w1 w' := by
    intro v w1 hs
    refine (Cr.seal_is _ v _ w1 hs (fun i hi => (right_bytes m F G n k h i hi).2) (by omega)).mono ?_
    rintro e w' ⟨rfl, o, b⟩
    rw [show 44 + n + k + 4 = 48 + n + k by omega] at o ⊢
    exact ⟨_, rfl, o, b⟩
  rw [h] at CC
  replace CC := hide CC
  replace CW := hide CW
  replace CS := hide CS
  clear hp ht lp lt kp kt h h1 h2 h3 h4 hf
  generalize mD m F n G k = A at *
  generalize Cr.bL (frD m F n G k) (48 + n + k) = L at *
  unfold mv at CC CW
  unfold mv
  go_enter Try.func10, Try.ntmps10
  go_wp2_with (first
    | (refine wpList_load24 (.tmp 1) rfl (by first | rfl | simp [Region.wanted, yielded]) w.heap.size #[.int .i64 m.kd, .int .i64 m.fr, .int .i64 m.fi, .int .i64 m.tw, .int .i64 m.ti, .int .i64 m.tp, .int .i64 m.ep, .int .i64 m.sq, .int .i64 m.la, .int .i64 m.va, .int .i64 m.no, .int .i64 m.ic, .int .i64 m.ct, .int .i64 m.hp, .slice pp n cp, .slice pt k ct] rfl (heap_alloc_new _ _) rfl ?_)
    | (refine wpList_load24 (.tmp 1) rfl (by first | rfl | simp [Region.wanted, yielded]) w.heap.size #[.int .i64 m.kd, .int .i64 m.fr, .int .i64 m.fi, .int .i64 m.tw, .int .i64 m.ti, .int .i64 m.tp, .int .i64 m.ep, .int .i64 m.sq, .int .i64 m.la, .int .i64 m.va, .int .i64 m.no, .int .i64 m.ic, .int .i64 m.ct, .int .i64 m.hp, .slice pp n cp, .slice pt k ct] rfl (unhide G1) rfl ?_)
    | (go_at_call 23; with_reducible refine (unhide CC _ (unhide B0)).mono ?_; rintro e w1 ⟨rfl, b1⟩; have B1 := hide (below_of (unhide B0) b1); have G1 := hide ((b1.block w.heap.size (unhide LW)).trans (heap_alloc_new _ _)); clear b1)
    | (go_at_call 24; with_reducible refine (unhide CW _ (unhide B1)).mono ?_; rintro e w2 ⟨v2, rfl, s2, b2⟩; have S2 := hide s2; have B2 := hide (below_of (unhide B1) b2); clear s2 b2)
    | (go_at_call 20; with_reducible refine (unhide CS _ _ (unhide S2)).mono ?_; rintro e w3 ⟨v3, rfl, o3, b3⟩; have O3 := hide (owns_mono o3 (unhide B2).size); have B3 := hide (below_of (unhide B2) b3); clear o3 b3))
  go_ret2
  exact ⟨_, rfl, unhide O3, unhide B3⟩
end Go.Proofs.Ytmcmiojidgdjpaa
