/- Walk of the page's ints. Walk of wire.Encode. -/
import Derived.Test.YtmcmiojidgdjpaaBn4
import Derived.Test.YtmcmiojidgdjpaaBn24
import Derived.Test.YtmcmiojidgdjpaaBn15
import Derived.Test.YtmcmiojidgdjpaaBn20
namespace Go.Proofs.Ytmcmiojidgdjpaa
open Go.RowKit

theorem rints_low (at' : Int) (p : Option Addr) (M cap : Nat) (w : World) (h : at' < 0 ∨ 0 ≤ at' ∧ (M : Int) ≤ at') : Calls Try.prog 28 #[.slice p M cap, .int .i64 at'] w fun e w' => e = .returned (.tuple #[.slice none 0 0, .int .i64 (-1)]) ∧ w' = w := by
  rcases h with h | ⟨h, h2⟩
  · have d1 : decide (at' < 0) = true := decide_eq_true h
    go_enter Try.func28, Try.ntmps28
    go_wp2
    go_ret2
    exact ⟨rfl, rfl⟩
  · have d1 : decide (at' < 0) = false := decide_eq_false (by omega)
    have d2 : decide ((M : Int) ≤ at') = true := decide_eq_true h2
    go_enter Try.func28, Try.ntmps28
    go_wp2
    go_ret2
    exact ⟨rfl, rfl⟩
set_option maxRecDepth 100000 in
set_option maxHeartbeats 1000000 in
theorem rints_cut (D : Nat → Nat) (v : Value) (M a : Nat) (w : World) (hv : Cr.Bs w v M D) (hD : ∀ i, i < M → D i < 256) (hM : M ≤ 1000) (ha : a < M) (h : ¬ a + 1 + D a ≤ M) : Calls Try.prog 28 #[v, .int .i64 (a : Int)] w fun e w' => e = .returned (.tuple #[.slice none 0 0, .int .i64 (-1)]) ∧ w' = w := by
  obtain ⟨p, cap, rfl, l1, l2⟩ := Sl.shape hv
  unfold maxLen at l2
  obtain ⟨b, off, rfl, _, hcell⟩ := Sl.some hv (by omega)
  have hc := hcell a ha
  have hd := hD a ha
  have C := hide (Co.here_any (some ⟨b, off, none⟩) M cap ((a : Int) + 1) (D a) (by unfold maxLen; omega) (by omega))
  rw [decide_eq_false (show ¬ Co.Here M ((a : Int) + 1) (D a) from fun q => h (by have := q.2; omega))] at C
  have d1 : decide ((a : Int) < 0) = false := decide_eq_false (by omega)
  have d2 : decide ((M : Int) ≤ a) = false := decide_eq_false (by omega)
  have d3 : decide (M ≤ a) = false := decide_eq_false (by omega)
  clear hcell hD hv
  generalize D a = z at *
  go_enter Try.func28, Try.ntmps28
  go_wp2_with (go_at_call 54; refine (unhide C _).mono ?_; rintro e w1 ⟨rfl, rfl⟩)
  go_ret2
  exact ⟨rfl, rfl⟩
theorem ints_next (D : Nat → Nat) (a j : Nat) : vL .i64 (cat (fun i => E D (a + 1 + i)) j fun _ => ((D (a + 1 + j) : Nat) : Int)) (j + 1) = vL .i64 (fun i => E D (a + 1 + i)) (j + 1) := by
  refine vL_congr fun i hi => ?_
  unfold cat
  by_cases q : i < j
  · rw [if_pos q]
  · rw [if_neg q]
    obtain rfl : i = j := by omega
    rfl
set_option maxRecDepth 100000 in
set_option maxHeartbeats 1000000 in
theorem rints_is (D : Nat → Nat) (v : Value) (M a : Nat) (w : World) (hv : Cr.Bs w v M D) (hD : ∀ i, i < M → D i < 256) (hM : M ≤ 1000) (ha : a < M) (h : a + 1 + D a ≤ M) :
    Calls Try.prog 28 #[v, .int .i64 (a : Int)] w fun e w' => ∃ v', e = .returned (.tuple #[v', .int .i64 ((a + 1 + D a : Nat) : Int)]) ∧ w'.ownsRow w.heap.size 3 1 v' (D a) (vL .i64 (fun i => E D (a + 1 + i)) (D a)) ∧ Below w.heap.size w w' := by
  obtain ⟨p, cap, rfl, l1, l2⟩ := Sl.shape hv
  unfold maxLen at l2
  obtain ⟨b, off, rfl, hbs, hcell⟩ := Sl.some hv (by omega)
  have hc := hcell a ha
  have hd := hD a ha
  have C := hide (Co.here_any (some ⟨b, off, none⟩) M cap ((a : Int) + 1) (D a) (by unfold maxLen; omega) (by omega))
  rw [decide_eq_true (show Co.Here M ((a : Int) + 1) (D a) from ⟨by omega, by omega⟩)] at C
  have d1 : decide ((a : Int) < 0) = false := decide_eq_false (by omega)
  have d2 : decide ((M : Int) ≤ a) = false := decide_eq_false (by omega)
  have d3 : decide (M ≤ a) = false := decide_eq_false (by omega)
  have HC := hide hcell
  have HK := hide hc
  have HD := hide hD
  have HN := hide (ints_next D a)
  clear hcell hD hv
  generalize hz : D a = z at *
  have HZ := hide hz
  clear hz
  go_enter Try.func28, Try.ntmps28
  go_wp2_with (go_at_call 54; refine (unhide C _).mono ?_; rintro e w1 ⟨rfl, hw⟩; obtain rfl := hw.symm)
  clear hc
  go_loopw [6, 7] (fun xo xi w2 => ∃ j : Nat, j ≤ z ∧ xi = .int .i64 j ∧ w2.ownsRow w.heap.size 3 1 xo j (vL .i64 (fun i => E D (a + 1 + i)) j) ∧ Below w.heap.size w w2) (fun _ i _ => z - (intOf i).toNat)
  case atStart => exact ⟨0, by omega, rfl, World.ownsRow_nil _ _ _ _, Below.refl _ _⟩
  case round =>
    obtain ⟨j, hj, rfl, ho, hb⟩ := hrel
    have HO := hide ho
    have HB := hide hb
    have hcr := (hb.cell (p := ⟨b, off + a, none⟩) hbs).trans (unhide HK)
    by_cases hlt : j < z
    · have hck : wr.cell? ⟨b, off + (a + 1 + j), none⟩ = some (.int .u8 ((D (a + 1 + j) : Nat) : Int)) := (hb.cell (p := ⟨b, off + (a + 1 + j), none⟩) hbs).trans (unhide HC (a + 1 + j) (by omega))
      have hx := unhide HD (a + 1 + j) (by omega)
      have HJ := hide (unhide HN j)
      clear ho hb
      generalize D (a + 1 + j) = x at *
      go_wp2_with (at_builtin; refine wpList_app64 rfl (.tmp 37) (.tmp 46) rfl w.heap.size _ j (fun i => E D (a + 1 + i)) rfl ((unhide HO).alloc _) _ 1 (fun _ => (x : Int)) rfl (sl_one1 .i64 wr (x : Int) 3) (by omega) (by omega) (by have := (unhide HB).size; simp; omega) ?_)
      intro v2 w2 ho2 hb2
      rw [unhide HJ] at ho2
      go_wp2
      go_roundw
      case rel => exact ⟨j + 1, by omega, by go_num, ho2, below_up ((unhide HB).alloc (unhide HB).size _) hb2⟩
      case measure => simp [intOf]; omega
    · obtain rfl : j = z := by omega
      clear ho hb
      go_wp2
      go_quiet (fail)
      go_wp2
      go_ret2
      refine ⟨_, ?_, unhide HO, below_drewN (unhide HB) _⟩
      rw [show ((a + 1 + j : Nat) : Int) = (a : Int) + 1 + j by omega]
      rfl
end Go.Proofs.Ytmcmiojidgdjpaa
namespace Go.Proofs.Ytmcmiojidgdjpaa
open Go.RowKit

/-- A message's bytes, as naturals. -/
def mD (m : Mg) (F : Nat → Int) (n : Nat) (G : Nat → Int) (k i : Nat) : Nat := (msgF m F n G k i).toNat
/-- Its frame. -/
def frD (m : Mg) (F : Nat → Int) (n : Nat) (G : Nat → Int) (k : Nat) : Nat → Nat := Cr.sealD (mD m F n G k) (44 + n + k) (Cr.sumN (mD m F n G k) (44 + n + k))
/-- What is known of a right message's bytes. -/
theorem right_bytes (m : Mg) (F G : Nat → Int) (n k : Nat) (h : chkB m F n G k = true) (i : Nat) (hi : i < 44 + n + k) : ((mD m F n G k i : Nat) : Int) = msgF m F n G k i ∧ mD m F n G k i < 256 := by
  obtain ⟨h1, h2, h3, h4⟩ := lists_of m F G n k h
  have := msgF_bd m F n G k (by omega) (by omega) (fun i hi => ⟨(h3 i hi).1, by have := h3 i hi; omega⟩) (fun i hi => ⟨(h4 i hi).1, by have := h4 i hi; omega⟩) i hi
  unfold mD
  omega
theorem enc_bad (m : Mg) (F G : Nat → Int) (p t : Value) (n k : Nat) (w : World) (hp : Sl .i64 w p n F) (ht : Sl .i64 w t k G) (hn : n ≤ 1000) (hk : k ≤ 1000) (h : chkB m F n G k = false) :
    Calls Try.prog 10 #[mv m p t] w fun e w' => e = .returned (.tuple #[.slice none 0 0, .int .i64 5]) ∧ Below w.heap.size w w' := by
  obtain ⟨pp, cp, rfl, lp, kp⟩ := hp.shape
  obtain ⟨pt, ct, rfl, lt, kt⟩ := ht.shape
  have B0 : Hid (Below w.heap.size w (w.alloc (.cells #[.int .i64 m.kd, .int .i64 m.fr, .int .i64 m.fi, .int .i64 m.tw, .int .i64 m.ti, .int .i64 m.tp, .int .i64 m.ep, .int .i64 m.sq, .int .i64 m.la, .int .i64 m.va, .int .i64 m.no, .int .i64 m.ic, .int .i64 m.ct, .int .i64 m.hp, .slice pp n cp, .slice pt k ct] 24))) := hide ((Below.refl _ _).alloc (Nat.le_refl _) _)
  have CC := fun w' (b : Below w.heap.size w w') => check_any m F G (.slice pp n cp) (.slice pt k ct) n k w' (hp.below b (Nat.le_refl _)) (ht.below b (Nat.le_refl _)) hn hk
  rw [h] at CC
  replace CC := hide CC
  clear hp ht lp lt kp kt h
  unfold mv at CC
  unfold mv
  go_enter Try.func10, Try.ntmps10
  go_wp2_with (first
    | (refine wpList_load24 (.tmp 1) rfl (by first | rfl | simp [Region.wanted, yielded]) w.heap.size #[.int .i64 m.kd, .int .i64 m.fr, .int .i64 m.fi, .int .i64 m.tw, .int .i64 m.ti, .int .i64 m.tp, .int .i64 m.ep, .int .i64 m.sq, .int .i64 m.la, .int .i64 m.va, .int .i64 m.no, .int .i64 m.ic, .int .i64 m.ct, .int .i64 m.hp, .slice pp n cp, .slice pt k ct] rfl (heap_alloc_new _ _) rfl ?_)
    | (go_at_call 23; with_reducible refine (unhide CC _ (unhide B0)).mono ?_; rintro e w1 ⟨rfl, b1⟩; have B1 := hide (below_of (unhide B0) b1); clear b1))
  go_ret2
  exact ⟨rfl, unhide B1⟩
theorem enc_ok (m : Mg) (F G : Nat → Int) (p t : Value) (n k : Nat) (w : World) (hp : Sl .i64 w p n F) (ht : Sl .i64 w t k G) (h : chkB m F n G k = true) :
    Calls Try.prog 10 #[mv m p t] w fun e w' => ∃ v, e = .returned (.tuple #[v, .int .i64 0]) ∧ w'.ownsRow w.heap.size 5 1 v (48 + n + k) (Cr.bL (frD m F n G k) (48 + n + k)) ∧ Below w.heap.size w w' := by
  obtain ⟨h1, h2, h3, h4⟩ := lists_of m F G n k h
  have hf := fit_of m F G n k h
  obtain ⟨pp, cp, rfl, lp, kp⟩ := hp.shape
  obtain ⟨pt, ct, rfl, lt, kt⟩ := ht.shape
  have B0 : Hid (Below w.heap.size w (w.alloc (.cells #[.int .i64 m.kd, .int .i64 m.fr, .int .i64 m.fi, .int .i64 m.tw, .int .i64 m.ti, .int .i64 m.tp, .int .i64 m.ep, .int .i64 m.sq, .int .i64 m.la, .int .i64 m.va, .int .i64 m.no, .int .i64 m.ic, .int .i64 m.ct, .int .i64 m.hp, .slice pp n cp, .slice pt k ct] 24))) := hide ((Below.refl _ _).alloc (Nat.le_refl _) _)
  have LW : Hid (w.heap.size < (w.alloc (.cells #[.int .i64 m.kd, .int .i64 m.fr, .int .i64 m.fi, .int .i64 m.tw, .int .i64 m.ti, .int .i64 m.tp, .int .i64 m.ep, .int .i64 m.sq, .int .i64 m.la, .int .i64 m.va, .int .i64 m.no, .int .i64 m.ic, .int .i64 m.ct, .int .i64 m.hp, .slice pp n cp, .slice pt k ct] 24)).heap.size) := hide (by simp)
  have CC := fun w' (b : Below w.heap.size w w') => check_any m F G (.slice pp n cp) (.slice pt k ct) n k w' (hp.below b (Nat.le_refl _)) (ht.below b (Nat.le_refl _)) (by omega) (by omega)
  have CW : ∀ w', Below w.heap.size w w' → Calls Try.prog 24 #[mv m (.slice pp n cp) (.slice pt k ct)] w' fun e w2 => ∃ v, e = .returned v ∧ Cr.Bs w2 v (44 + n + k) (mD m F n G k) ∧ Below w'.heap.size w' w2 := by
    intro w' b
    refine (written_is m F G _ _ n k w' hf (hp.below b (Nat.le_refl _)) (ht.below b (Nat.le_refl _)) (by omega) (by omega) (fun i hi => ⟨(h3 i hi).1, by have := h3 i hi; omega⟩) (fun i hi => ⟨(h4 i hi).1, by have := h4 i hi; omega⟩)).mono ?_
    rintro e w2 ⟨v, rfl, o, b2⟩
    exact ⟨v, rfl, (sl_of_owns o).congr fun i hi => (right_bytes m F G n k h i hi).1.symm, b2⟩
  have CS : ∀ v w1, Cr.Bs w1 v (44 + n + k) (mD m F n G k) → Calls Try.prog 20 #[v] w1 fun e w' => ∃ v', e = .returned v' ∧ w'.ownsRow w1.heap.size 5 1 v' (48 + n + k) (Cr.bL (frD m F n G k) (48 + n + k)) ∧ Below w1.heap.size w1 w' := by
    intro v w1 hs
    refine (Cr.seal_is _ v _ w1 hs (fun i hi => (right_bytes m F G n k h i hi).2) (by omega)).mono ?_
    rintro e w' ⟨rfl, o, b⟩
    rw [show 44 + n + k + 4 = 48 + n + k by omega] at o ⊢
    exact ⟨_, rfl, o, b⟩
  rw [h] at CC
  replace CC := hide CC
  replace CW := hide CW
  replace CS := hide CS
  clear hp ht lp lt kp kt h h1 h2 h3 h4 hf
  generalize mD m F n G k = A at *
  generalize Cr.bL (frD m F n G k) (48 + n + k) = L at *
  unfold mv at CC CW
  unfold mv
  go_enter Try.func10, Try.ntmps10
  go_wp2_with (first
    | (refine wpList_load24 (.tmp 1) rfl (by first | rfl | simp [Region.wanted, yielded]) w.heap.size #[.int .i64 m.kd, .int .i64 m.fr, .int .i64 m.fi, .int .i64 m.tw, .int .i64 m.ti, .int .i64 m.tp, .int .i64 m.ep, .int .i64 m.sq, .int .i64 m.la, .int .i64 m.va, .int .i64 m.no, .int .i64 m.ic, .int .i64 m.ct, .int .i64 m.hp, .slice pp n cp, .slice pt k ct] rfl (heap_alloc_new _ _) rfl ?_)
    | (refine wpList_load24 (.tmp 1) rfl (by first | rfl | simp [Region.wanted, yielded]) w.heap.size #[.int .i64 m.kd, .int .i64 m.fr, .int .i64 m.fi, .int .i64 m.tw, .int .i64 m.ti, .int .i64 m.tp, .int .i64 m.ep, .int .i64 m.sq, .int .i64 m.la, .int .i64 m.va, .int .i64 m.no, .int .i64 m.ic, .int .i64 m.ct, .int .i64 m.hp, .slice pp n cp, .slice pt k ct] rfl (unhide G1) rfl ?_)
    | (go_at_call 23; with_reducible refine (unhide CC _ (unhide B0)).mono ?_; rintro e w1 ⟨rfl, b1⟩; have B1 := hide (below_of (unhide B0) b1); have G1 := hide ((b1.block w.heap.size (unhide LW)).trans (heap_alloc_new _ _)); clear b1)
    | (go_at_call 24; with_reducible refine (unhide CW _ (unhide B1)).mono ?_; rintro e w2 ⟨v2, rfl, s2, b2⟩; have S2 := hide s2; have B2 := hide (below_of (unhide B1) b2); clear s2 b2)
    | (go_at_call 20; with_reducible refine (unhide CS _ _ (unhide S2)).mono ?_; rintro e w3 ⟨v3, rfl, o3, b3⟩; have O3 := hide (owns_mono o3 (unhide B2).size); have B3 := hide (below_of (unhide B2) b3); clear o3 b3))
  go_ret2
  exact ⟨_, rfl, unhide O3, unhide B3⟩
end Go.Proofs.Ytmcmiojidgdjpaa
