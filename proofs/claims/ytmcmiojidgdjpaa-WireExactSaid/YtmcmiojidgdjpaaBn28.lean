/- Walk of wire.Decode, of what is a message's numbers and lists; all ways together. -/
import Derived.Test.YtmcmiojidgdjpaaBn27
namespace Go.Proofs.Ytmcmiojidgdjpaa
open Go.RowKit

/-- What read answers is a message. -/
def ReadOk (D : Nat → Nat) (m : Nat) (M : Mg) (F G : Nat → Int) (n k : Nat) : Prop := ∀ v w1, Cr.Bs w1 v m D → Calls Try.prog 25 #[v] w1 fun e w' => ∃ p c t d, e = .returned (.tuple #[mv M (.slice p n c) (.slice t k d), .bool true]) ∧ w'.ownsRow w1.heap.size 3 1 (.slice p n c) n (vL .i64 F n) ∧ w'.ownsRow w1.heap.size 3 1 (.slice t k d) k (vL .i64 G k) ∧ Below w1.heap.size w1 w'
/-- A message, all right, of new memory. -/
def Fin (M : Mg) (F G : Nat → Int) (n k : Nat) (w : World) (e : Ending) (w' : World) : Prop := ∃ p c t d, e = .returned (.tuple #[mv M (.slice p n c) (.slice t k d), .int .i64 0]) ∧ w'.ownsRow w.heap.size 3 1 (.slice p n c) n (vL .i64 F n) ∧ w'.ownsRow w.heap.size 3 1 (.slice t k d) k (vL .i64 G k) ∧ Below w.heap.size w w'
set_option maxRecDepth 100000 in
set_option maxHeartbeats 1000000 in
theorem dec_msg (D : Nat → Nat) (p : Option Addr) (N m cap : Nat) (M : Mg) (F G : Nat → Int) (n k : Nat) (w : World) (h : N ≤ 80) (CO : Hid (OpenOk D (.slice p N cap) m w)) (CR : Hid (ReadOk D m M F G n k)) (hn : n ≤ 1000) (hk : k ≤ 1000) (hc : chkB M F n G k = false) :
    Calls Try.prog 11 #[.slice p N cap] w (Bad 5 w) := by
  have d : decide (80 < (N : Int)) = false := decide_eq_false (by omega)
  have CK : Hid (∀ p c t d w1, Sl .i64 w1 (.slice p n c) n F → Sl .i64 w1 (.slice t k d) k G → Calls Try.prog 23 #[mv M (.slice p n c) (.slice t k d)] w1 fun e w' => e = .returned (.int .i64 5) ∧ Below w1.heap.size w1 w') := by
    refine hide fun p c t d w1 h1 h2 => ?_
    have q := check_any M F G (.slice p n c) (.slice t k d) n k w1 h1 h2 hn hk
    rwa [hc, if_neg (by decide)] at q
  have B0 : Hid (Below w.heap.size w (w.alloc (.cells #[.int .i64 0, .int .i64 0, .int .i64 0, .int .i64 0, .int .i64 0, .int .i64 0, .int .i64 0, .int .i64 0, .int .i64 0, .int .i64 0, .int .i64 0, .int .i64 0, .int .i64 0, .int .i64 0, .slice none 0 0, .slice none 0 0] 24))) := hide ((Below.refl _ _).alloc (Nat.le_refl _) _)
  clear hc hn hk
  unfold ReadOk mv at CR
  unfold mv at CK
  unfold OpenOk at CO
  unfold Bad mv zeroM
  have LW : Hid (w.heap.size < (w.alloc (.cells #[.int .i64 0, .int .i64 0, .int .i64 0, .int .i64 0, .int .i64 0, .int .i64 0, .int .i64 0, .int .i64 0, .int .i64 0, .int .i64 0, .int .i64 0, .int .i64 0, .int .i64 0, .int .i64 0, .slice none 0 0, .slice none 0 0] 24)).heap.size) := hide (by simp)
  go_enter Try.func11, Try.ntmps11
  go_wp2_with (first
    | (go_at_call 19; with_reducible refine (unhide CO _ (unhide B0)).mono ?_; rintro e w1 ⟨v1, rfl, s1, b1⟩; have S1 := hide s1; have G1 := hide ((b1.block w.heap.size (unhide LW)).trans (heap_alloc_new _ _)); have B1 := hide (below_of (unhide B0) b1); have L1 := hide (Nat.lt_of_lt_of_le (unhide LW) b1.size); clear b1 s1)
    | (go_at_call 25; with_reducible refine (unhide CR _ _ (unhide S1)).mono ?_; rintro e w2 ⟨p2, c2, t2, d2, rfl, o1, o2, b2⟩; have S2 := hide (sl_of_owns o1); have S3 := hide (sl_of_owns o2); have G2 := hide ((b2.block w.heap.size (unhide L1)).trans (unhide G1)); have B2 := hide (below_of (unhide B1) b2); have L2 := hide (Nat.lt_of_lt_of_le (unhide L1) b2.size); clear b2 o1 o2)
    | (refine wpList_store_last rfl (.tmp 6) (.tmp 25) rfl _ #[.int .i64 M.kd, .int .i64 M.fr, .int .i64 M.fi, .int .i64 M.tw, .int .i64 M.ti, .int .i64 M.tp, .int .i64 M.ep, .int .i64 M.sq, .int .i64 M.la, .int .i64 M.va, .int .i64 M.no, .int .i64 M.ic, .int .i64 M.ct, .int .i64 M.hp, .slice p2 n c2, .slice t2 k d2] rfl rfl rfl _ rfl rfl (by simp [Value.oneCell']) ?_; have G3 := hide ((Below.heap_alloc _ (.cells #[.int .i64 M.kd, .int .i64 M.fr, .int .i64 M.fi, .int .i64 M.tw, .int .i64 M.ti, .int .i64 M.tp, .int .i64 M.ep, .int .i64 M.sq, .int .i64 M.la, .int .i64 M.va, .int .i64 M.no, .int .i64 M.ic, .int .i64 M.ct, .int .i64 M.hp, .slice p2 n c2, .slice t2 k d2] 24) w.heap.size (unhide L2)).trans (unhide G2)); have B3 := hide ((unhide B2).alloc (unhide B2).size (.cells #[.int .i64 M.kd, .int .i64 M.fr, .int .i64 M.fi, .int .i64 M.tw, .int .i64 M.ti, .int .i64 M.tp, .int .i64 M.ep, .int .i64 M.sq, .int .i64 M.la, .int .i64 M.va, .int .i64 M.no, .int .i64 M.ic, .int .i64 M.ct, .int .i64 M.hp, .slice p2 n c2, .slice t2 k d2] 24)); have ba := hide ((Below.refl w2.heap.size w2).alloc (Nat.le_refl _) (.cells #[.int .i64 M.kd, .int .i64 M.fr, .int .i64 M.fi, .int .i64 M.tw, .int .i64 M.ti, .int .i64 M.tp, .int .i64 M.ep, .int .i64 M.sq, .int .i64 M.la, .int .i64 M.va, .int .i64 M.no, .int .i64 M.ic, .int .i64 M.ct, .int .i64 M.hp, .slice p2 n c2, .slice t2 k d2] 24)); have S4 := hide (Sl.below (unhide S2) (unhide ba) (Nat.le_refl _)); have S5 := hide (Sl.below (unhide S3) (unhide ba) (Nat.le_refl _)); clear S2 S3; have L3 := hide (Nat.lt_of_lt_of_le (unhide L2) (unhide ba).size))
    | (refine wpList_load24 (.tmp 6) rfl (by first | rfl | simp [Region.wanted, yielded]) _ #[.int .i64 M.kd, .int .i64 M.fr, .int .i64 M.fi, .int .i64 M.tw, .int .i64 M.ti, .int .i64 M.tp, .int .i64 M.ep, .int .i64 M.sq, .int .i64 M.la, .int .i64 M.va, .int .i64 M.no, .int .i64 M.ic, .int .i64 M.ct, .int .i64 M.hp, .slice p2 n c2, .slice t2 k d2] rfl (heap_alloc_new _ _) rfl ?_)
    | (go_at_call 23; with_reducible refine (unhide CK _ _ _ _ _ (unhide S4) (unhide S5)).mono ?_; rintro e w4 ⟨rfl, b4⟩; have G4 := hide ((b4.block w.heap.size (unhide L3)).trans (unhide G3)); have B4 := hide (below_of (unhide B3) b4); clear b4)
    | (refine wpList_store_row rfl 24 (.tmp 2) (.tmp 34) rfl w.heap.size #[.int .i64 0, .int .i64 0, .int .i64 0, .int .i64 0, .int .i64 0, .int .i64 0, .int .i64 0, .int .i64 0, .int .i64 0, .int .i64 0, .int .i64 0, .int .i64 0, .int .i64 0, .int .i64 0, .slice none 0 0, .slice none 0 0] rfl rfl 24 _ (unhide G4) info24 rfl (by simp [Value.oneCell']) ?_))
  exact ret_mix 2 3 rfl _ _ _ rfl rfl (setRow_heap _ _ _ _ _ _ (unhide G4)) rfl rfl ⟨rfl, below_setRow (unhide B4) (Nat.le_refl _)⟩
set_option maxRecDepth 100000 in
set_option maxHeartbeats 1000000 in
theorem dec_fin (D : Nat → Nat) (p : Option Addr) (N m cap : Nat) (M : Mg) (F G : Nat → Int) (n k : Nat) (w : World) (h : N ≤ 80) (CO : Hid (OpenOk D (.slice p N cap) m w)) (CR : Hid (ReadOk D m M F G n k)) (hn : n ≤ 1000) (hk : k ≤ 1000) (hc : chkB M F n G k = true) :
    Calls Try.prog 11 #[.slice p N cap] w (Fin M F G n k w) := by
  have d : decide (80 < (N : Int)) = false := decide_eq_false (by omega)
  have CK : Hid (∀ p c t d w1, Sl .i64 w1 (.slice p n c) n F → Sl .i64 w1 (.slice t k d) k G → Calls Try.prog 23 #[mv M (.slice p n c) (.slice t k d)] w1 fun e w' => e = .returned (.int .i64 0) ∧ Below w1.heap.size w1 w') := by
    refine hide fun p c t d w1 h1 h2 => ?_
    have q := check_any M F G (.slice p n c) (.slice t k d) n k w1 h1 h2 hn hk
    rwa [hc, if_pos rfl] at q
  have B0 : Hid (Below w.heap.size w (w.alloc (.cells #[.int .i64 0, .int .i64 0, .int .i64 0, .int .i64 0, .int .i64 0, .int .i64 0, .int .i64 0, .int .i64 0, .int .i64 0, .int .i64 0, .int .i64 0, .int .i64 0, .int .i64 0, .int .i64 0, .slice none 0 0, .slice none 0 0] 24))) := hide ((Below.refl _ _).alloc (Nat.le_refl _) _)
  clear hc hn hk
  unfold ReadOk mv at CR
  unfold mv at CK
  unfold OpenOk at CO
  unfold Fin mv
  have LW : Hid (w.heap.size < (w.alloc (.cells #[.int .i64 0, .int .i64 0, .int .i64 0, .int .i64 0, .int .i64 0, .int .i64 0, .int .i64 0, .int .i64 0, .int .i64 0, .int .i64 0, .int .i64 0, .int .i64 0, .int .i64 0, .int .i64 0, .slice none 0 0, .slice none 0 0] 24)).heap.size) := hide (by simp)
  go_enter Try.func11, Try.ntmps11
  go_wp2_with (first
    | (go_at_call 19; with_reducible refine (unhide CO _ (unhide B0)).mono ?_; rintro e w1 ⟨v1, rfl, s1, b1⟩; have S1 := hide s1; have G1 := hide ((b1.block w.heap.size (unhide LW)).trans (heap_alloc_new _ _)); have B1 := hide (below_of (unhide B0) b1); have L1 := hide (Nat.lt_of_lt_of_le (unhide LW) b1.size); clear b1 s1)
    | (go_at_call 25; with_reducible refine (unhide CR _ _ (unhide S1)).mono ?_; rintro e w2 ⟨p2, c2, t2, d2, rfl, o1, o2, b2⟩; have O1 := hide o1; have O2 := hide o2; have S2 := hide (sl_of_owns o1); have S3 := hide (sl_of_owns o2); have G2 := hide ((b2.block w.heap.size (unhide L1)).trans (unhide G1)); have B2 := hide (below_of (unhide B1) b2); have L2 := hide (Nat.lt_of_lt_of_le (unhide L1) b2.size); clear b2 o1 o2)
    | (refine wpList_store_last rfl (.tmp 6) (.tmp 25) rfl _ #[.int .i64 M.kd, .int .i64 M.fr, .int .i64 M.fi, .int .i64 M.tw, .int .i64 M.ti, .int .i64 M.tp, .int .i64 M.ep, .int .i64 M.sq, .int .i64 M.la, .int .i64 M.va, .int .i64 M.no, .int .i64 M.ic, .int .i64 M.ct, .int .i64 M.hp, .slice p2 n c2, .slice t2 k d2] rfl rfl rfl _ rfl rfl (by simp [Value.oneCell']) ?_; have G3 := hide ((Below.heap_alloc _ (.cells #[.int .i64 M.kd, .int .i64 M.fr, .int .i64 M.fi, .int .i64 M.tw, .int .i64 M.ti, .int .i64 M.tp, .int .i64 M.ep, .int .i64 M.sq, .int .i64 M.la, .int .i64 M.va, .int .i64 M.no, .int .i64 M.ic, .int .i64 M.ct, .int .i64 M.hp, .slice p2 n c2, .slice t2 k d2] 24) w.heap.size (unhide L2)).trans (unhide G2)); have B3 := hide ((unhide B2).alloc (unhide B2).size (.cells #[.int .i64 M.kd, .int .i64 M.fr, .int .i64 M.fi, .int .i64 M.tw, .int .i64 M.ti, .int .i64 M.tp, .int .i64 M.ep, .int .i64 M.sq, .int .i64 M.la, .int .i64 M.va, .int .i64 M.no, .int .i64 M.ic, .int .i64 M.ct, .int .i64 M.hp, .slice p2 n c2, .slice t2 k d2] 24)); have ba := hide ((Below.refl w2.heap.size w2).alloc (Nat.le_refl _) (.cells #[.int .i64 M.kd, .int .i64 M.fr, .int .i64 M.fi, .int .i64 M.tw, .int .i64 M.ti, .int .i64 M.tp, .int .i64 M.ep, .int .i64 M.sq, .int .i64 M.la, .int .i64 M.va, .int .i64 M.no, .int .i64 M.ic, .int .i64 M.ct, .int .i64 M.hp, .slice p2 n c2, .slice t2 k d2] 24)); have S4 := hide (Sl.below (unhide S2) (unhide ba) (Nat.le_refl _)); have S5 := hide (Sl.below (unhide S3) (unhide ba) (Nat.le_refl _)); clear S2 S3; have L3 := hide (Nat.lt_of_lt_of_le (unhide L2) (unhide ba).size); have N3 : Hid (w2.heap.size < (w2.alloc (.cells #[.int .i64 M.kd, .int .i64 M.fr, .int .i64 M.fi, .int .i64 M.tw, .int .i64 M.ti, .int .i64 M.tp, .int .i64 M.ep, .int .i64 M.sq, .int .i64 M.la, .int .i64 M.va, .int .i64 M.no, .int .i64 M.ic, .int .i64 M.ct, .int .i64 M.hp, .slice p2 n c2, .slice t2 k d2] 24)).heap.size) := hide (by simp))
    | (refine wpList_load24 (.tmp 6) rfl (by first | rfl | simp [Region.wanted, yielded]) _ #[.int .i64 M.kd, .int .i64 M.fr, .int .i64 M.fi, .int .i64 M.tw, .int .i64 M.ti, .int .i64 M.tp, .int .i64 M.ep, .int .i64 M.sq, .int .i64 M.la, .int .i64 M.va, .int .i64 M.no, .int .i64 M.ic, .int .i64 M.ct, .int .i64 M.hp, .slice p2 n c2, .slice t2 k d2] rfl (heap_alloc_new _ _) rfl ?_)
    | (go_at_call 23; with_reducible refine (unhide CK _ _ _ _ _ (unhide S4) (unhide S5)).mono ?_; rintro e w4 ⟨rfl, b4⟩; have G4 := hide ((b4.block w.heap.size (unhide L3)).trans (unhide G3)); have K4 := hide ((b4.block w2.heap.size (unhide N3)).trans (heap_alloc_new _ _)); have B4 := hide (below_of (unhide B3) b4); have Q4 := hide b4; clear b4)
    | (refine wpList_load24 (.tmp 6) rfl (by first | rfl | simp [Region.wanted, yielded]) _ #[.int .i64 M.kd, .int .i64 M.fr, .int .i64 M.fi, .int .i64 M.tw, .int .i64 M.ti, .int .i64 M.tp, .int .i64 M.ep, .int .i64 M.sq, .int .i64 M.la, .int .i64 M.va, .int .i64 M.no, .int .i64 M.ic, .int .i64 M.ct, .int .i64 M.hp, .slice p2 n c2, .slice t2 k d2] rfl (unhide K4) rfl ?_)
    | (refine wpList_store_row rfl 24 (.tmp 2) (.tmp 36) rfl w.heap.size #[.int .i64 M.kd, .int .i64 M.fr, .int .i64 M.fi, .int .i64 M.tw, .int .i64 M.ti, .int .i64 M.tp, .int .i64 M.ep, .int .i64 M.sq, .int .i64 M.la, .int .i64 M.va, .int .i64 M.no, .int .i64 M.ic, .int .i64 M.ct, .int .i64 M.hp, .slice p2 n c2, .slice t2 k d2] rfl rfl 24 _ (unhide G4) info24 rfl (by simp [Value.oneCell']) ?_))
  have keep : ∀ g, w1.heap.size ≤ g → g < w2.heap.size → (w4.setRow w.heap.size #[.int .i64 M.kd, .int .i64 M.fr, .int .i64 M.fi, .int .i64 M.tw, .int .i64 M.ti, .int .i64 M.tp, .int .i64 M.ep, .int .i64 M.sq, .int .i64 M.la, .int .i64 M.va, .int .i64 M.no, .int .i64 M.ic, .int .i64 M.ct, .int .i64 M.hp, .slice p2 n c2, .slice t2 k d2]).heap[g]? = w2.heap[g]? := by
    intro g hg hl
    have l1 := unhide L1
    exact (setRow_other _ _ _ _ (by omega)).trans (((unhide Q4).block g (Nat.lt_trans hl (unhide N3))).trans (Below.heap_alloc _ _ g hl))
  have le1 : w.heap.size ≤ w1.heap.size := Nat.le_of_lt (unhide L1)
  exact ret_mix 2 3 rfl _ _ _ rfl rfl (setRow_heap _ _ _ _ _ _ (unhide G4)) rfl rfl ⟨p2, c2, t2, d2, rfl, owns_mono (owns_above (unhide O1) keep) le1, owns_mono (owns_above (unhide O2) keep) le1, below_setRow (unhide B4) (Nat.le_refl _)⟩
/-- Decode of what is no message. -/
theorem dec_bad (D : Nat → Nat) (v : Value) (N : Nat) (w : World) (hv : Cr.Bs w v N D) (hD : ∀ i, i < N → D i < 256) (c : Int) (hc : decC D N = c) (h0 : c ≠ 0) : Calls Try.prog 11 #[v] w (Bad c w) := by
  obtain ⟨p, cap, rfl, l1, l2⟩ := Sl.shape hv
  subst hc
  unfold decC at h0 ⊢
  by_cases h80 : 80 < N
  · rw [if_pos h80]
    exact dec_long p N cap w h80 (by omega)
  · rw [if_neg h80] at h0 ⊢
    by_cases h4 : N < 4
    · rw [if_pos h4] at h0 ⊢
      refine dec_shut p N cap 2 w (by omega) h0 (hide fun w1 _ => (Cr.open_short p N cap h4 w1).mono ?_)
      rintro e w' ⟨rfl, rfl⟩
      exact ⟨rfl, Below.refl _ _⟩
    · rw [if_neg h4] at h0 ⊢
      obtain ⟨m, rfl⟩ : ∃ m, N = m + 4 := ⟨N - 4, by omega⟩
      rw [Nat.add_sub_cancel] at h0 ⊢
      by_cases hs : Cr.sumN D m = Cr.le4 D m
      · rw [if_pos hs] at h0 ⊢
        have CO : Hid (OpenOk D (.slice p (m + 4) cap) m w) := by
          refine hide fun w1 hb => (Cr.open_ok D _ m w1 (Sl.below hv hb (Nat.le_refl _)) hD (by omega) hs).mono ?_
          rintro e w' ⟨v', rfl, o, b⟩
          exact ⟨v', rfl, Cr.bs_of_owns o, b⟩
        cases hw : wholeB D m with
        | false =>
          rw [if_neg (by simp)]
          exact dec_frame D p (m + 4) m cap w (by omega) (by omega) (fun i hi => hD i (by omega)) CO (fun q => by rw [(wholeB_iff D m).2 q] at hw; cases hw)
        | true =>
          rw [hw, if_pos rfl] at h0
          rw [if_pos rfl]
          cases hr : rdB D with
          | true =>
            rw [hr, if_pos rfl] at h0
            exact absurd rfl h0
          | false =>
            rw [if_neg (by simp)]
            have hW := (wholeB_iff D m).1 hw
            have h2 := hW.2
            refine dec_msg D p (m + 4) m cap (rdM (E D)) _ _ (D 42) (D (43 + D 42)) w (by omega) CO ?_ (by omega) (by omega) hr
            refine hide fun v w1 hs => (read_is D v m w1 hs (fun i hi => hD i (by omega)) (by omega)).mono ?_
            rintro e w' ⟨⟨h2, _⟩ | ⟨_, p, c, t, d, rfl, o1, o2⟩, b⟩
            · exact absurd hW h2
            · exact ⟨p, c, t, d, rfl, o1, o2, b⟩
      · rw [if_neg hs] at h0 ⊢
        refine dec_shut p (m + 4) cap 4 w (by omega) h0 (hide fun w1 hb => ?_)
        exact Cr.open_bad D _ m w1 (Sl.below hv hb (Nat.le_refl _)) hD (by omega) hs
theorem decC_ok (D : Nat → Nat) (N : Nat) (h : decC D N = 0) : ∃ m, N = m + 4 ∧ N ≤ 80 ∧ Cr.sumN D m = Cr.le4 D m ∧ Whole D m ∧ rdB D = true := by
  unfold decC at h
  by_cases h80 : 80 < N
  · rw [if_pos h80] at h
    cases h
  · rw [if_neg h80] at h
    by_cases h4 : N < 4
    · rw [if_pos h4] at h
      cases h
    · rw [if_neg h4] at h
      obtain ⟨m, rfl⟩ : ∃ m, N = m + 4 := ⟨N - 4, by omega⟩
      rw [Nat.add_sub_cancel] at h
      by_cases hs : Cr.sumN D m = Cr.le4 D m
      · rw [if_pos hs] at h
        cases hw : wholeB D m with
        | false =>
          rw [hw, if_neg (by decide)] at h
          cases h
        | true =>
          cases hr : rdB D with
          | false =>
            rw [hw, hr, if_pos rfl, if_neg (by decide)] at h
            cases h
          | true => exact ⟨m, rfl, by omega, hs, (wholeB_iff D m).1 hw, rfl⟩
      · rw [if_neg hs] at h
        cases h
/-- Decode of what is a message. -/
theorem dec_ok (D : Nat → Nat) (v : Value) (N : Nat) (w : World) (hv : Cr.Bs w v N D) (hD : ∀ i, i < N → D i < 256) (hc : decC D N = 0) : Calls Try.prog 11 #[v] w (Fin (rdM (E D)) (fun i => E D (43 + i)) (fun i => E D (44 + D 42 + i)) (D 42) (D (43 + D 42)) w) := by
  obtain ⟨p, cap, rfl, l1, l2⟩ := Sl.shape hv
  obtain ⟨m, rfl, h80, hs, hW, hr⟩ := decC_ok D N hc
  have h2 := hW.2
  refine dec_fin D p (m + 4) m cap (rdM (E D)) _ _ (D 42) (D (43 + D 42)) w h80 ?_ ?_ (by omega) (by omega) hr
  · refine hide fun w1 hb => (Cr.open_ok D _ m w1 (Sl.below hv hb (Nat.le_refl _)) hD (by omega) hs).mono ?_
    rintro e w' ⟨v', rfl, o, b⟩
    exact ⟨v', rfl, Cr.bs_of_owns o, b⟩
  · refine hide fun v w1 hs => (read_is D v m w1 hs (fun i hi => hD i (by omega)) (by omega)).mono ?_
    rintro e w' ⟨⟨h2, _⟩ | ⟨_, p, c, t, d, rfl, o1, o2⟩, b⟩
    · exact absurd hW h2
    · exact ⟨p, c, t, d, rfl, o1, o2, b⟩
end Go.Proofs.Ytmcmiojidgdjpaa
