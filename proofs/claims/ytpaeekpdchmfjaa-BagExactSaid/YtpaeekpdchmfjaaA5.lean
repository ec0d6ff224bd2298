/- Walk of joined: a list of the call's own, its frames with bytes of their own. -/
import Derived.Test.YtpaeekpdchmfjaaA3
import Derived.Test.YtpaeekpdchmfjaaA4
namespace Go.Proofs.Ytpaeekpdchmfjaa
open Go.RowKit

def upd {α : Type} (B : Nat → α) (k : Nat) (v : α) (i : Nat) : α := if i = k then v else B i
theorem fL_set (T : Nat → Int) (B : Nat → Value) (n k : Nat) (v : Value) (_ : k < n) : ((fL T B n).set (k * 2) (.int .i64 (T k))).set (k * 2 + 1) v = fL T (upd B k v) n := by
  apply List.ext_getElem?
  intro j
  by_cases hj : j < n * 2
  · rcases Nat.mod_two_eq_zero_or_one j with hq | hq
    · obtain ⟨i, rfl⟩ : ∃ i, j = i * 2 := ⟨j / 2, by omega⟩
      rw [(fL_get T (upd B k v) n i (by omega)).1, List.getElem?_set_ne (by omega)]
      by_cases e : k = i
      · subst e
        rw [List.getElem?_set_self (by rw [fL_length]; omega)]
      · rw [List.getElem?_set_ne (by omega), (fL_get T B n i (by omega)).1]
    · obtain ⟨i, rfl⟩ : ∃ i, j = i * 2 + 1 := ⟨j / 2, by omega⟩
      rw [(fL_get T (upd B k v) n i (by omega)).2]
      by_cases e : k = i
      · subst e
        rw [List.getElem?_set_self (by rw [List.length_set, fL_length]; omega)]
        simp [upd]
      · rw [List.getElem?_set_ne (by omega), List.getElem?_set_ne (by omega), (fL_get T B n i (by omega)).2]
        simp [upd, show i ≠ k by omega]
  · rw [List.getElem?_eq_none (by simp [fL_length]; omega), List.getElem?_eq_none (by rw [fL_length]; omega)]
/-- The first k frames of the row have bytes of their own. -/
def Jd (w0 w : World) (v : Value) (n : Nat) (X : Nat → Fm) (B : Nat → Value) (k : Nat) : Prop :=
  ∃ B' : Nat → Value, w.ownsRow w0.heap.size 25 2 v n (fL (fun i => (X i).t) B' n) ∧ (∀ i, i < k → w.ownsRow w0.heap.size 5 1 (B' i) (X i).n (vL .u8 (X i).b (X i).n)) ∧ (∀ i, k ≤ i → B' i = B i) ∧
    (∀ i j, i < j → j < k → ∀ b, (B' i).ownBlock = some b → (B' j).ownBlock ≠ some b) ∧ Below w0.heap.size w0 w
theorem jd_next {w w2 w3 : World} {n k g c : Nat} {X : Nat → Fm} {B B' : Nat → Value} {v3 : Value} (hk : k < n)
    (h1 : w2.ownsRow w.heap.size 25 2 (.slice (some ⟨g, 0, none⟩) n c) n (fL (fun i => (X i).t) B' n)) (h2 : ∀ i, i < k → w2.ownsRow w.heap.size 5 1 (B' i) (X i).n (vL .u8 (X i).b (X i).n)) (h3 : ∀ i, k ≤ i → B' i = B i)
    (h4 : ∀ i j, i < j → j < k → ∀ b, (B' i).ownBlock = some b → (B' j).ownBlock ≠ some b) (h5 : Below w.heap.size w w2)
    (o3 : w3.ownsRow (w2.heap.size + 1) 5 1 v3 (X k).n (vL .u8 (X k).b (X k).n)) (b3 : Below w2.heap.size w2 w3) :
    Jd w ((w3.setCell ⟨g, k * 2, none⟩ (.int .i64 (X k).t)).setCell ⟨g, k * 2 + 1, none⟩ v3) (.slice (some ⟨g, 0, none⟩) n c) n X B (k + 1) := by
  have r3 := owns_below h1 b3
  have s1 := (r3.stored (k * 2) (.int .i64 (X k).t)).1
  have s2 := (s1.stored (k * 2 + 1) v3).1
  rw [fL_set (fun i => (X i).t) B' n k v3 hk] at s2
  have hg := (h1.lt g rfl).1
  have keep : ∀ {B0 m : Nat} {v : Value} {L : List Value}, w3.ownsRow B0 5 1 v m L → ((w3.setCell ⟨g, k * 2, none⟩ (.int .i64 (X k).t)).setCell ⟨g, k * 2 + 1, none⟩ v3).ownsRow B0 5 1 v m L := by
    intro B0 m v L ho
    have hne : v.ownBlock ≠ some g := by
      rcases owns_apart r3 ho (by decide) with q | q
      · rw [q]; intro z; cases z
      · exact q
    exact owns_setOther (owns_setOther ho (a := ⟨g, k * 2, none⟩) hne _) (a := ⟨g, k * 2 + 1, none⟩) hne _
  refine ⟨upd B' k v3, s2, fun i hi => ?_, fun i hi => ?_, fun i j hij hj b hb => ?_, ?_⟩
  · by_cases e : i = k
    · subst e
      simp only [upd, if_true]
      exact keep (owns_mono o3 (by have := h5.size; omega))
    · simp only [upd, if_neg e]
      exact keep (owns_below (h2 i (by omega)) b3)
  · simp only [upd, if_neg (show i ≠ k by omega)]
    exact h3 i (by omega)
  · simp only [upd, if_neg (show i ≠ k by omega)] at hb
    by_cases e : j = k
    · subst e
      simp only [upd, if_true]
      intro q
      have l1 := ((h2 i hij).lt b hb).2
      have l2 := (o3.lt b q).1
      omega
    · simp only [upd, if_neg e]
      exact h4 i j hij (by omega) b hb
  · exact ((below_of h5 b3).setCell (show w.heap.size ≤ (⟨g, k * 2, none⟩ : Addr).block from hg) _).setCell (show w.heap.size ≤ (⟨g, k * 2 + 1, none⟩ : Addr).block from hg) _
set_option maxHeartbeats 1000000 in
set_option maxRecDepth 100000 in
theorem joined_is (lists : Value) (n : Nat) (X : Nat → Fm) (B : Nat → Value) (w : World) (hn : n ≤ 1000000) (hx : ∀ i, i < n → (X i).n ≤ 1000000 ∧ Sl .u8 w (B i) (X i).n (X i).b)
    (hC : Calls Try.prog 26 #[lists] w fun e w' => ∃ v', e = .returned v' ∧ w'.ownsRow w.heap.size 25 2 v' n (fL (fun i => (X i).t) B n) ∧ Below w.heap.size w w') :
    Calls Try.prog 21 #[lists] w fun e w' => ∃ v', e = .returned v' ∧ Own w' w.heap.size v' n X ∧ Below w.heap.size w w' := by
  have HC := hide hC
  have HX := hide hx
  clear hC hx
  go_enter Try.func21, Try.ntmps21
  go_wp2_with (go_at_call 26; refine (unhide HC).mono ?_; rintro e w1 ⟨v1, rfl, o1, b1⟩; obtain ⟨p1, c1, rfl⟩ := owns_shape o1)
  have J1 : Hid (Jd w w1 (.slice p1 n c1) n X B 0) := hide ⟨B, o1, fun i hi => absurd hi (Nat.not_lt_zero _), fun _ _ => rfl, fun _ _ _ h => absurd h (Nat.not_lt_zero _), b1⟩
  have hcm : n ≤ c1 ∧ c1 ≤ maxLen := by
    rcases o1.2 with ⟨h, rfl⟩ | ⟨g, cap, cur, h, _, _, h1, h2, _⟩
    · cases h; exact ⟨Nat.le_refl _, Nat.zero_le _⟩
    · cases h; exact ⟨h1, h2⟩
  obtain ⟨hc1, hc2⟩ := hcm
  unfold maxLen at hc2
  clear o1 b1 HC
  go_loopw [10] (fun i w2 => ∃ k : Nat, k ≤ n ∧ i = .int .i64 k ∧ Jd w w2 (.slice p1 n c1) n X B k) (fun i _ => n - (intOf i).toNat)
  case atStart => exact ⟨0, by omega, rfl, unhide J1⟩
  case round =>
    clear J1
    obtain ⟨k, hk, rfl, hj⟩ := hrel
    have HJ := hide hj
    by_cases hlt : k < n
    · obtain ⟨B', h1, h2, h3, h4, h5⟩ := hj
      obtain ⟨g, rfl⟩ : ∃ g, p1 = some ⟨g, 0, none⟩ := by
        rcases h1.2 with ⟨h, rfl⟩ | ⟨g, cap, cur, h, _, _, _, _, _⟩
        · omega
        · cases h; exact ⟨g, rfl⟩
      have q1 : wr.cell? ⟨g, k * 2, none⟩ = some (.int .i64 (X k).t) := by rw [h1.cellAt (k * 2) (by omega), (fL_get _ B' n k hlt).1]
      have q2 : wr.cell? ⟨g, k * 2 + 1, none⟩ = some (B k) := by rw [h1.cellAt (k * 2 + 1) (by omega), (fL_get _ B' n k hlt).2, h3 k (Nat.le_refl _)]
      obtain ⟨pk, ck, hbk, -, -⟩ := (unhide HX k hlt).2.shape
      rw [hbk] at q2
      have bl := below_alloc (w := wr) (w' := wr) (Below.refl _ _) (.cells #[.int .i64 (X k).t, .slice pk (X k).n ck] 25)
      have hsl : Sl .u8 (wr.alloc (.cells #[.int .i64 (X k).t, .slice pk (X k).n ck] 25)) (.slice pk (X k).n ck) (X k).n (X k).b := by
        have h0 := (unhide HX k hlt).2.below h5 (Nat.le_refl _)
        rw [hbk] at h0
        exact h0.below bl (Nat.le_refl _)
      have K : Hid (Calls Try.prog 23 #[.agg #[.int .i64 (X k).t, .slice pk (X k).n ck]] (wr.alloc (.cells #[.int .i64 (X k).t, .slice pk (X k).n ck] 25)) fun e w3 => ∃ p3 c3, e = .returned (.agg #[.int .i64 (X k).t, .slice p3 (X k).n c3]) ∧ w3.ownsRow (wr.heap.size + 1) 5 1 (.slice p3 (X k).n c3) (X k).n (vL .u8 (X k).b (X k).n) ∧ Below wr.heap.size wr w3) := by
        refine hide ((copied_any (X k).t (X k).b _ (X k).n _ hsl (unhide HX k hlt).1).mono ?_)
        rintro e w3 ⟨v3, rfl, o3, b3⟩
        obtain ⟨p3, c3, rfl⟩ := owns_shape o3
        exact ⟨p3, c3, rfl, owns_mono o3 (by simp), below_of bl b3⟩
      have H1 := hide h1
      have H2 := hide h2
      have H3 := hide h3
      have H4 := hide h4
      have H5 := hide h5
      clear h1 h2 h3 h4 h5 hbk hsl bl HJ
      go_wp2_with (go_at_call 23; (with_reducible refine (unhide K).mono ?_); rintro e w3 ⟨p3, c3, rfl, o3, b3⟩; have O3 := hide o3; have B3 := hide b3; have R3 := owns_below (unhide H1) b3; have f1 := R3.frozenAt (k * 2); have f2 := R3.frozenAt (k * 2 + 1); have g1 := (R3.cellAt (k * 2) (by omega)).trans (fL_get _ B' n k hlt).1; have g2 := (R3.cellAt (k * 2 + 1) (by omega)).trans (fL_get _ B' n k hlt).2; have HR3 := hide R3; clear R3 o3 b3)
      go_roundw
      case rel =>
        refine ⟨k + 1, by omega, by go_num, ?_⟩
        exact jd_next hlt (unhide H1) (unhide H2) (unhide H3) (unhide H4) (unhide H5) (unhide O3) (unhide B3)
      case measure => simp [intOf]; omega
    · obtain rfl : k = n := by omega
      clear hj
      go_wp2
      go_ret
      obtain ⟨B', h1, h2, h3, h4, h5⟩ := unhide HJ
      exact ⟨_, rfl, ⟨B', h1, h2, h4⟩, h5⟩
end Go.Proofs.Ytpaeekpdchmfjaa
