/- Walk of Corrupt; Take that refuses. -/
import Derived.Test.YtpaeekpdchmfjaaA10
import Derived.Laws.BitsAllLaws
namespace Go.Proofs.Ytpaeekpdchmfjaa
open Go.RowKit

set_option maxHeartbeats 1000000 in
set_option maxRecDepth 100000 in
theorem take_out (l : Value) (n : Nat) (X : Nat → Fm) (k : Int) (w : World) (hl : Fs w l n X) (h0 : chkAt n X k ≠ 0) :
    Calls Try.prog 10 #[l, .int .i64 k] w fun e w' => e = .returned (.tuple #[.agg #[.int .i64 0, .slice none 0 0], .slice none 0 0, .int .i64 (chkAt n X k)]) ∧ Below w.heap.size w w' := by
  have bx := below_alloc (Below.refl w.heap.size w) (.cells #[.int .i64 0, .slice none 0 0] 25)
  have HX := hide (Has.new w (.cells #[.int .i64 0, .slice none 0 0] 25))
  have BX := hide bx
  have C := hide (checkAt_any X l n k _ (hl.below bx (Nat.le_refl _)))
  generalize chkAt n X k = z at *
  have e0 : (z != 0) = true := by simpa using h0
  clear hl bx
  go_enter Try.func10, Try.ntmps10
  go_wp2_with (go_at_call 22; (with_reducible refine (unhide C).mono ?_); rintro e w2 ⟨rfl, b2⟩; have B2 := hide (below_of (unhide BX) b2); have h2 := (unhide HX).below b2; have f0 := h2.frozen (k := 0); have f1 := h2.frozen (k := 1); have d0 := h2.cell (k := 0) rfl; have d1 := h2.cell (k := 1) rfl; have HX2 := hide h2; clear b2 h2)
  have h3 := (unhide HX2).set2 (.int .i64 0) (.slice none 0 0)
  have hb := ((unhide B2).setCell (show w.heap.size ≤ (⟨w.heap.size, 0, none⟩ : Addr).block from Nat.le_refl _) (.int .i64 0)).setCell (show w.heap.size ≤ (⟨w.heap.size, 1, none⟩ : Addr).block from Nat.le_refl _) (.slice none 0 0)
  generalize (w2.setCell ⟨w.heap.size, 0, none⟩ (.int .i64 0)).setCell ⟨w.heap.size, 1, none⟩ (.slice none 0 0) = w5 at *
  have e3 := h3.cell (k := 0) rfl
  have e4 := h3.cell (k := 1) rfl
  exact bodyPost_ret (v := .tuple #[.agg #[.int .i64 0, .slice none 0 0], .slice none 0 0, .int .i64 z]) (by simp [results, Try.results10, go_sem, e3, e4]) rfl ⟨rfl, hb⟩
/-- A byte with a mask put to it. -/
def x8 (a m : Int) : Int := ((a.toNat ^^^ m.toNat : Nat) : Int)
theorem x8_back (a m : Int) (h : 0 ≤ a) : x8 (x8 a m) m = a := by
  unfold x8
  rw [Int.toNat_natCast, Nat.xor_assoc, Nat.xor_self, Nat.xor_zero]
  omega
theorem x8_bd (a m : Int) (h : 0 ≤ a ∧ a < 256) (hm : 0 ≤ m ∧ m < 256) : 0 ≤ x8 a m ∧ x8 a m < 256 := by
  unfold x8
  have : a.toNat ^^^ m.toNat < 2 ^ 8 := Nat.xor_lt_two_pow (by omega) (by omega)
  omega
theorem x8_ne (a m : Int) (h : 0 ≤ a) (hm : 1 ≤ m) : x8 a m ≠ a := by
  intro e
  unfold x8 at e
  have e2 : a.toNat ^^^ m.toNat = a.toNat := by omega
  have e3 : a.toNat ^^^ (a.toNat ^^^ m.toNat) = a.toNat ^^^ a.toNat := by rw [e2]
  rw [← Nat.xor_assoc, Nat.xor_self, Nat.zero_xor] at e3
  omega
/-- The frame f, with x for its byte number j. -/
def setB (f : Fm) (j : Nat) (x : Int) : Fm := { f with b := upd f.b j x }
theorem vL_set (k : IntKind) (F : Nat → Int) (n j : Nat) (x : Int) (hj : j < n) : (vL k F n).set j (.int k x) = vL k (upd F j x) n := by
  apply List.ext_getElem?
  intro t
  by_cases ht : t < n
  · rw [vL_get _ _ _ _ ht]
    by_cases e : j = t
    · subst e
      rw [List.getElem?_set_self (by rw [vL_length]; exact hj)]
      simp [upd]
    · rw [List.getElem?_set_ne e, vL_get _ _ _ _ ht]
      simp [upd, show t ≠ j by omega]
  · rw [List.getElem?_eq_none (by simp [vL_length]; omega), List.getElem?_eq_none (by rw [vL_length]; omega)]
/-- A byte of an own list's frame, read and written. -/
theorem own_at {w : World} {b0 n k j : Nat} {v : Value} {X : Nat → Fm} (h : Own w b0 v n X) (hk : k < n) (hj : j < (X k).n) :
    ∃ g cap gk ck, v = .slice (some ⟨g, 0, none⟩) n cap ∧ n ≤ cap ∧ cap ≤ maxLen ∧ (X k).n ≤ ck ∧ ck ≤ maxLen ∧ b0 ≤ gk ∧ w.cell? ⟨g, k * 2 + 1, none⟩ = some (.slice (some ⟨gk, 0, none⟩) (X k).n ck) ∧ w.cell? ⟨gk, j, none⟩ = some (.int .u8 ((X k).b j)) ∧
      w.frozen? ⟨gk, j, none⟩ = false ∧ g ≠ gk ∧ ∀ x, Own (w.setCell ⟨gk, j, none⟩ (.int .u8 x)) b0 v n (upd X k (setB (X k) j x)) := by
  obtain ⟨B, h1, h2, h3⟩ := h
  have hB := h2 k hk
  obtain ⟨g, cap, rfl, hc1, hc2⟩ : ∃ g cap, v = .slice (some ⟨g, 0, none⟩) n cap ∧ n ≤ cap ∧ cap ≤ maxLen := by
    rcases h1.2 with ⟨rfl, rfl⟩ | ⟨g, cap, cur, rfl, _, _, q1, q2, _⟩
    · omega
    · exact ⟨g, cap, rfl, q1, q2⟩
  obtain ⟨gk, ck, hbk, hd1, hd2⟩ : ∃ gk ck, B k = .slice (some ⟨gk, 0, none⟩) (X k).n ck ∧ (X k).n ≤ ck ∧ ck ≤ maxLen := by
    rcases hB.2 with ⟨_, q⟩ | ⟨g', cap', cur, q0, _, _, q1, q2, _⟩
    · omega
    · exact ⟨g', cap', q0, q1, q2⟩
  rw [hbk] at hB
  have hgk := hB.lt gk rfl
  have hne : g ≠ gk := by
    rcases owns_apart h1 hB (by decide) with q | q
    · cases q
    · exact fun e => q (by rw [e]; rfl)
  refine ⟨g, cap, gk, ck, rfl, hc1, hc2, hd1, hd2, hgk.1, ?_, ?_, hB.frozenAt j, hne, fun x => ?_⟩
  · rw [h1.cellAt (k * 2 + 1) (by omega), (fL_get _ B n k hk).2, hbk]
  · rw [hB.cellAt j (by omega), vL_get _ _ _ _ hj]
  · have o1 := owns_setOther h1 (a := ⟨gk, j, none⟩) (fun e => hne (by cases e; rfl)) (.int .u8 x)
    refine ⟨B, ?_, fun i hi => ?_, h3⟩
    · rwa [fL_congr (T' := fun i => (X i).t) (B' := B) (fun i hi => ⟨?_, rfl⟩)]
      unfold upd
      split
      · rename_i e; rw [e]; rfl
      · rfl
    · by_cases e : i = k
      · subst e
        have s := (hB.stored j (.int .u8 x)).1
        rw [vL_set _ _ _ _ _ hj] at s
        rw [hbk]
        simp only [upd, if_true]
        exact s
      · simp only [upd, if_neg e]
        refine owns_setOther (h2 i hi) (a := ⟨gk, j, none⟩) ?_ _
        intro q
        by_cases hik : i < k
        · exact h3 i k hik hk gk q (by rw [hbk]; rfl)
        · exact h3 k i (by omega) hi gk (by rw [hbk]; rfl) q
/-- Corrupt's error. -/
def corE (n : Nat) (X : Nat → Fm) (k place mask : Int) : Int := if chkAt n X k ≠ 0 then chkAt n X k else if place < 0 ∨ mask < 1 ∨ 255 < mask then 1 else if ((X k.toNat).n : Int) ≤ place then 2 else 0
set_option maxHeartbeats 1000000 in
set_option maxRecDepth 100000 in
theorem cor_ok (l : Value) (n : Nat) (X : Nat → Fm) (k j : Nat) (m : Int) (w : World) (hl : Fs w l n X) (hk : k < n) (h0 : chk n X = 0) (hj : j < (X k).n) (hm : 1 ≤ m ∧ m ≤ 255) (hb : 0 ≤ (X k).b j ∧ (X k).b j < 256) :
    Calls Try.prog 12 #[l, .int .i64 k, .int .i64 j, .int .i64 m] w fun e w' => ∃ p c, e = .returned (.tuple #[.slice p n c, .int .i64 0]) ∧ Own w' w.heap.size (.slice p n c) n (upd X k (setB (X k) j (x8 ((X k).b j) m))) ∧ Below w.heap.size w w' := by
  obtain ⟨b, off, BV, ⟨cp, rfl, hc1, hc2⟩, hbw, hcell⟩ : ∃ b off, ∃ B : Nat → Value, (∃ cp, l = .slice (some ⟨b, off, none⟩) n cp ∧ n ≤ cp ∧ cp ≤ maxLen) ∧ b < w.heap.size ∧ ∀ i : Nat, i < n → w.cell? ⟨b, off + i * 2, none⟩ = .some (.int .i64 (X i).t) ∧ w.cell? ⟨b, off + i * 2 + 1, none⟩ = .some (B i) ∧ Sl .u8 w (B i) (X i).n (X i).b := by
    obtain ⟨p, cp, rfl, hc1, hc2⟩ := hl.shape
    obtain ⟨b, off, B, rfl, h⟩ := hl.some (by omega)
    exact ⟨b, off, B, ⟨cp, rfl, hc1, hc2⟩, h⟩
  unfold maxLen at hc2
  obtain ⟨q1, q2, q3⟩ := hcell k hk
  obtain ⟨pk, ck, hbk, -, -⟩ := q3.shape
  rw [hbk] at q2
  have C := hide (checkAt_any X _ n k w hl)
  have E1 := hide (show chkAt n X k = 0 from chkAt_zero.2 ⟨h0, by omega, by omega⟩)
  obtain ⟨z1, z2⟩ := chk_zero h0
  have Q2 := hide q2
  have hxk := (z2 k hk).2.2
  have K2 : Hid (∀ W, Below (w.heap.size) w W → Calls Try.prog 21 #[.slice (some ⟨W.heap.size, 0, none⟩) 1 1] (W.alloc (.cells #[.slice (some ⟨b, off, none⟩) n cp] 22)) fun e w4 => ∃ v4, e = .returned v4 ∧ Own w4 w.heap.size v4 n X ∧ Below w.heap.size w w4) := by
    refine hide fun W hW => (joined1 _ n X W.heap.size 1 (W.alloc (.cells #[.slice (some ⟨b, off, none⟩) n cp] 22)) (by decide) (by decide) (by simp) (by simp) (hl.below (below_alloc hW _) (Nat.le_refl _)) (by omega) (fun i hi => by have := (z2 i hi).2.2; omega)).mono ?_
    rintro e w4 ⟨v4, rfl, o4, b4⟩
    exact ⟨v4, rfl, o4.mono (by have := hW.size; simp; omega), below_of (below_alloc hW _) b4⟩
  have hx : bits .xor .u8 ((X k).b j) m = x8 ((X k).b j) m := u8_xor _ _ hb.1 hb.2 (by omega) (by omega)
  have HX := hide (x8_bd ((X k).b j) m hb (by omega))
  have HJ := hide hj
  have HK := hide hk
  obtain ⟨hm1, hm2⟩ := hm
  obtain ⟨hb1, hb2⟩ := hb
  clear hcell q3 hbk hl h0 q1 q2 z1 z2
  have i1 : (0 : Int) ≤ (k : Int) := by omega
  have i2 : (k : Int) < (n : Int) := by omega
  have i3 : (0 : Int) ≤ (j : Int) := by omega
  have i4 : (j : Int) < ((X k).n : Int) := by omega
  have i5 : ¬ ((j : Int) < 0) := by omega
  have i6 : ¬ (m < 1) := by omega
  have i7 : decide (m > 255) = false := decide_eq_false (by omega)
  go_enter Try.func12, Try.ntmps12
  go_wp2_with (first
    | (go_at_call 22; (with_reducible refine (unhide C).mono ?_); rw [unhide E1]; rintro e w2 ⟨rfl, b2⟩; have B2 := hide b2; have c1 := (b2.cell (p := ⟨b, off + k * 2 + 1, none⟩) hbw).trans (unhide Q2); clear b2)
    | (go_at_call 21; refine (unhide K2 _ (unhide B2)).mono ?_; rintro e w4 ⟨v4, rfl, o4, b4⟩; obtain ⟨g, cap, gk, cg, rfl, e1, e2, e3, e4, e5, e6, e7, e8, e9, e10⟩ := own_at o4 (unhide HK) (unhide HJ); have E10 := hide e10; have B4 := hide b4; have E5 := hide e5; unfold maxLen at e2 e4; clear o4 b4 e10 e5))
  go_ret2
  exact ⟨_, _, rfl, unhide E10 _, (unhide B4).setCell (unhide E5) _⟩
set_option maxHeartbeats 1000000 in
set_option maxRecDepth 100000 in
theorem cor_at (l : Value) (n : Nat) (X : Nat → Fm) (k place m : Int) (w : World) (hl : Fs w l n X) (h0 : chkAt n X k ≠ 0) :
    Calls Try.prog 12 #[l, .int .i64 k, .int .i64 place, .int .i64 m] w fun e w' => e = .returned (.tuple #[.slice none 0 0, .int .i64 (chkAt n X k)]) ∧ Below w.heap.size w w' := by
  have C := hide (checkAt_any X l n k w hl)
  generalize chkAt n X k = z at *
  have e0 : (z != 0) = true := by simpa using h0
  clear hl
  go_enter Try.func12, Try.ntmps12
  go_wp2_with (go_at_call 22; (with_reducible refine (unhide C).mono ?_); rintro e w2 ⟨rfl, b2⟩; have B2 := hide b2; clear b2)
  go_ret2
  exact ⟨rfl, unhide B2⟩
set_option maxHeartbeats 1000000 in
set_option maxRecDepth 100000 in
theorem cor_arg (l : Value) (n : Nat) (X : Nat → Fm) (k place m : Int) (w : World) (hl : Fs w l n X) (h0 : chkAt n X k = 0) (h1 : place < 0 ∨ m < 1 ∨ 255 < m) :
    Calls Try.prog 12 #[l, .int .i64 k, .int .i64 place, .int .i64 m] w fun e w' => e = .returned (.tuple #[.slice none 0 0, .int .i64 1]) ∧ Below w.heap.size w w' := by
  have C := hide (checkAt_any X l n k w hl)
  rw [h0] at C
  clear hl
  by_cases a : place < 0
  · clear h1
    go_enter Try.func12, Try.ntmps12
    go_wp2_with (go_at_call 22; (with_reducible refine (unhide C).mono ?_); rintro e w2 ⟨rfl, b2⟩; have B2 := hide b2; clear b2)
    go_ret2
    exact ⟨rfl, unhide B2⟩
  · by_cases b : m < 1
    · clear h1
      go_enter Try.func12, Try.ntmps12
      go_wp2_with (go_at_call 22; (with_reducible refine (unhide C).mono ?_); rintro e w2 ⟨rfl, b2⟩; have B2 := hide b2; clear b2)
      go_ret2
      exact ⟨rfl, unhide B2⟩
    · have i7 : m > 255 := by omega
      clear h1
      go_enter Try.func12, Try.ntmps12
      go_wp2_with (go_at_call 22; (with_reducible refine (unhide C).mono ?_); rintro e w2 ⟨rfl, b2⟩; have B2 := hide b2; clear b2)
      go_ret2
      exact ⟨rfl, unhide B2⟩
set_option maxHeartbeats 1000000 in
set_option maxRecDepth 100000 in
theorem cor_len (l : Value) (n : Nat) (X : Nat → Fm) (k : Nat) (place m : Int) (w : World) (hl : Fs w l n X) (hk : k < n) (h0 : chk n X = 0) (h1 : 0 ≤ place) (h2 : 1 ≤ m) (h3 : m ≤ 255) (h4 : ((X k).n : Int) ≤ place) :
    Calls Try.prog 12 #[l, .int .i64 k, .int .i64 place, .int .i64 m] w fun e w' => e = .returned (.tuple #[.slice none 0 0, .int .i64 2]) ∧ Below w.heap.size w w' := by
  have C := hide (checkAt_any X _ n k w hl)
  have E1 := hide (show chkAt n X k = 0 from chkAt_zero.2 ⟨h0, by omega, by omega⟩)
  obtain ⟨p, cp, rfl, hc1, hc2⟩ := hl.shape
  obtain ⟨b, off, BV, rfl, hbw, hcell⟩ := hl.some (by omega)
  unfold maxLen at hc2
  obtain ⟨q1, q2, q3⟩ := hcell k hk
  obtain ⟨pk, ck, hbk, -, -⟩ := q3.shape
  rw [hbk] at q2
  have Q2 := hide q2
  clear hcell q3 hbk hl h0 q1 q2
  have i1 : (0 : Int) ≤ (k : Int) := by omega
  have i2 : (k : Int) < (n : Int) := by omega
  have i5 : ¬ (place < 0) := by omega
  have i6 : ¬ (m < 1) := by omega
  have i7 : decide (m > 255) = false := decide_eq_false (by omega)
  go_enter Try.func12, Try.ntmps12
  go_wp2_with (go_at_call 22; (with_reducible refine (unhide C).mono ?_); rw [unhide E1]; rintro e w2 ⟨rfl, b2⟩; have B2 := hide b2; have c1 := (b2.cell (p := ⟨b, off + k * 2 + 1, none⟩) hbw).trans (unhide Q2); clear b2)
  go_ret2
  exact ⟨rfl, unhide B2⟩
theorem cor_bad (l : Value) (n : Nat) (X : Nat → Fm) (k place m : Int) (w : World) (hl : Fs w l n X) (h0 : corE n X k place m ≠ 0) :
    Calls Try.prog 12 #[l, .int .i64 k, .int .i64 place, .int .i64 m] w fun e w' => e = .returned (.tuple #[.slice none 0 0, .int .i64 (corE n X k place m)]) ∧ Below w.heap.size w w' := by
  unfold corE at h0 ⊢
  by_cases a : chkAt n X k = 0
  · rw [if_neg (by simpa using a)] at h0 ⊢
    by_cases b : place < 0 ∨ m < 1 ∨ 255 < m
    · rw [if_pos b]
      exact cor_arg l n X k place m w hl a b
    · rw [if_neg b] at h0 ⊢
      by_cases c : ((X k.toNat).n : Int) ≤ place
      · rw [if_pos c]
        obtain ⟨a1, a2, a3⟩ := chkAt_zero.1 a
        obtain ⟨kk, rfl⟩ := Int.eq_ofNat_of_zero_le a2
        exact cor_len l n X kk place m w hl (by omega) a1 (by omega) (by omega) (by omega) c
      · rw [if_neg c] at h0
        exact absurd rfl h0
  · rw [if_pos a] at h0 ⊢
    exact cor_at l n X k place m w hl a
theorem corE_zero {n : Nat} {X : Nat → Fm} {k place m : Int} : corE n X k place m = 0 ↔ chkAt n X k = 0 ∧ 0 ≤ place ∧ 1 ≤ m ∧ m ≤ 255 ∧ place < (X k.toNat).n := by
  unfold corE
  by_cases a : chkAt n X k = 0
  · rw [if_neg (by simpa using a)]
    by_cases b : place < 0 ∨ m < 1 ∨ 255 < m
    · rw [if_pos b]; exact ⟨fun h => (by omega), fun h => (by omega)⟩
    · rw [if_neg b]
      by_cases c : ((X k.toNat).n : Int) ≤ place
      · rw [if_pos c]; exact ⟨fun h => (by omega), fun h => (by omega)⟩
      · rw [if_neg c]; exact ⟨fun _ => ⟨a, by omega⟩, fun _ => rfl⟩
  · rw [if_pos a]
    exact ⟨fun h => absurd h a, fun h => absurd h.1 a⟩
end Go.Proofs.Ytpaeekpdchmfjaa
