/- TwinMsg: the two lists that it makes lie apart; append of a slice to a row of the call's own. -/
import Derived.Test.YtokgbolmjfmfpaaA6
namespace Go.Proofs.Ytokgbolmjfmfpaa
open Go.RowKit

theorem owns_past {w : World} {B n g i : Nat} {v u : Value} {L : List Value} {cs : Array Value} (h : w.ownsRow B 3 1 v n L) (hg : w.heap[g]? = some (.cells cs 24)) : (w.setCell ⟨g, i, none⟩ u).ownsRow B 3 1 v n L := by
  rcases h.2 with h2 | ⟨g', cap, cur, h1, h2, hg', h3⟩
  · exact ⟨h.1, .inl h2⟩
  · have hne : g' ≠ g := by
      rintro rfl
      rw [hg] at hg'
      simp at hg'
    exact ⟨h.1, .inr ⟨g', cap, cur, h1, h2, (heap_setCell_other w ⟨g, i, none⟩ g' u hne).trans hg', h3⟩⟩
/-- append of a slice, whatever its shape, to a row of the call's own: what else lies there stays. -/
theorem wpList_append_sg {w : World} {ops : Array Oper} {rest : List Oper} {o : Oper} {a : Act} {Q : Exit → Act → World → Prop} (hgd : o.guard = none) (s x : Operand)
    (ho : o.op = .call { callee := .builtin .append, args := #[s, x], argTypes := #[22, 22] }) (base : Nat)
    (v : Value) (n : Nat) (F : Nat → Int) (hs : a.eval s = v) (hown : w.ownsRow base 3 1 v n (vL .i64 F n))
    (u : Value) (m : Nat) (G : Nat → Int) (hx : a.eval x = u) (hu : Sl .i64 w u m G) (hn : n ≤ 1000000) (hm : m ≤ 1000000) (hbase : base ≤ w.heap.size)
    (h : ∀ q c w', w'.ownsRow base 3 1 (.slice q (n + m) c) (n + m) (vL .i64 (cat F n G) (n + m)) → w.grownBy w' v.ownBlock → wpList Try.prog ops Q rest (a.put o.dst (.slice q (n + m) c)) w') : wpList Try.prog ops Q (o :: rest) a w := by
  obtain ⟨i, hi, hz0, hz1, hz2⟩ := info_parts info3
  obtain ⟨p, cap, rfl, hc1, hc2⟩ := hu.shape
  have hcs := hu.cells
  cases p with
  | none =>
    obtain ⟨rfl, rfl⟩ := hcs.1 rfl
    refine wpList_append_own_none hgd s x 22 ho base 3 i 1 Try.underlying22 hi v n _ hs hown hx ?_
    obtain ⟨q, c, rfl⟩ := owns_shape hown
    refine h q c w ?_ ⟨rfl, rfl, rfl, Nat.le_refl _, fun _ _ _ => rfl⟩
    rw [← vL_append]
    simpa [vL] using hown
  | some ad =>
    refine wpList_append_own w hgd s x 22 ho base 3 i (.int .i64 0) 1 8 Try.underlying22 hi hz0 hz1 hz2 rfl (by decide) v n _ hs hown ad m cap (vL .i64 G m) hx (by rw [vL_length]; omega) (hcs.2 ad rfl) (vL_one _ G m) (by unfold maxLen; omega) (by omega) hbase ?_
    intro v' w' ho' hg' _
    rw [vL_append] at ho'
    obtain ⟨q, c, rfl⟩ := owns_shape ho'
    exact h q c w' ho' hg'
set_option maxRecDepth 100000 in
set_option maxHeartbeats 1000000 in
theorem twinMsg_apart (m : Mg) (F G : Nat → Int) (p t : Value) (n k : Nat) (w : World) (hp : Sl .i64 w p n F) (ht : Sl .i64 w t k G) (hn : n ≤ 1000) (hk : k ≤ 1000) :
    Calls Try.prog 7 #[mv m p t] w fun e w' => ∃ q c r d, e = .returned (mv m (.slice q n c) (.slice r k d)) ∧ w'.ownsRow w.heap.size 3 1 (.slice q n c) n (vL .i64 F n) ∧ w'.ownsRow w.heap.size 3 1 (.slice r k d) k (vL .i64 G k) ∧ Below w.heap.size w w' ∧ ∀ g, (Value.slice q n c).ownBlock = some g → (Value.slice r k d).ownBlock ≠ some g := by
  unfold mv
  have HP := hide hp
  have HT := hide ht
  clear hp ht
  have B0 : Hid (Below w.heap.size w ((w.alloc (.cells #[.int .i64 m.kd, .int .i64 m.fr, .int .i64 m.fi, .int .i64 m.tw, .int .i64 m.ti, .int .i64 m.tp, .int .i64 m.ep, .int .i64 m.sq, .int .i64 m.la, .int .i64 m.va, .int .i64 m.no, .int .i64 m.ic, .int .i64 m.ct, .int .i64 m.hp, p, t] 24)).alloc (.cells #[.int .i64 0, .int .i64 0, .int .i64 0, .int .i64 0, .int .i64 0, .int .i64 0, .int .i64 0, .int .i64 0, .int .i64 0, .int .i64 0, .int .i64 0, .int .i64 0, .int .i64 0, .int .i64 0, .slice none 0 0, .slice none 0 0] 24))) := hide (((Below.refl _ _).alloc (Nat.le_refl _) _).alloc (by simp) _)
  have m1 := trivial
  go_enter Try.func7, Try.ntmps7
  go_wp2
  go_region_with (first
    | (clear m1; go_at_call 8; with_reducible refine (twinInts_sl F p n _ ((unhide HP).below (unhide B0).drew (Nat.le_refl _)) (by omega)).mono ?_; rintro e w2 ⟨q2, d2, rfl, o2, b2⟩; have Op := hide o2; have B2 := hide (below_of (unhide B0).drew b2); have g2 := (b2.block w.heap.size (by simp; omega)).trans (old_drew w (.cells #[.int .i64 m.kd, .int .i64 m.fr, .int .i64 m.fi, .int .i64 m.tw, .int .i64 m.ti, .int .i64 m.tp, .int .i64 m.ep, .int .i64 m.sq, .int .i64 m.la, .int .i64 m.va, .int .i64 m.no, .int .i64 m.ic, .int .i64 m.ct, .int .i64 m.hp, p, t] 24) (.cells #[.int .i64 0, .int .i64 0, .int .i64 0, .int .i64 0, .int .i64 0, .int .i64 0, .int .i64 0, .int .i64 0, .int .i64 0, .int .i64 0, .int .i64 0, .int .i64 0, .int .i64 0, .int .i64 0, .slice none 0 0, .slice none 0 0] 24)); have G2 := hide g2; have K2 := hide ((b2.block (w.heap.size + 1) (by simp)).trans (new_drew w (.cells #[.int .i64 m.kd, .int .i64 m.fr, .int .i64 m.fi, .int .i64 m.tw, .int .i64 m.ti, .int .i64 m.tp, .int .i64 m.ep, .int .i64 m.sq, .int .i64 m.la, .int .i64 m.va, .int .i64 m.no, .int .i64 m.ic, .int .i64 m.ct, .int .i64 m.hp, p, t] 24) (.cells #[.int .i64 0, .int .i64 0, .int .i64 0, .int .i64 0, .int .i64 0, .int .i64 0, .int .i64 0, .int .i64 0, .int .i64 0, .int .i64 0, .int .i64 0, .int .i64 0, .int .i64 0, .int .i64 0, .slice none 0 0, .slice none 0 0] 24))); have c14 := mv_cell g2 14 _ rfl; have c15 := mv_cell g2 15 _ rfl; have f14 := frozen_of_row w2 w.heap.size 14 _ _ g2; have f15 := frozen_of_row w2 w.heap.size 15 _ _ g2; have L2 : Hid (w.heap.size + 2 ≤ w2.heap.size) := hide (by have := b2.size; simpa using this); clear o2 b2 g2)
    | (go_at_call 8; with_reducible refine (twinInts_sl G t k _ ((unhide HT).below (unhide B2) (Nat.le_refl _)) (by omega)).mono ?_; rintro e w3 ⟨q3, d3, rfl, o3, b3⟩; have Ot := hide o3; have B3 := hide (below_of (unhide B2) b3); have lt2 := unhide L2; have g3 := (b3.block w.heap.size (by omega)).trans (unhide G2); have G3 := hide g3; have K3 := hide ((b3.block (w.heap.size + 1) (by omega)).trans (unhide K2)); have P3 := hide (owns_above (unhide Op) (fun g _ h => b3.block g h)); clear c14 c15 f14 f15; have c14 := mv_cell g3 14 _ rfl; have c15 := mv_cell g3 15 _ rfl; have f14 := frozen_of_row w3 w.heap.size 14 _ _ g3; have f15 := frozen_of_row w3 w.heap.size 15 _ _ g3; have L3 : Hid (w2.heap.size ≤ w3.heap.size) := hide b3.size; clear o3 b3 g3 lt2))
  all_goals
    have g4 := heap_setCell_same _ w.heap.size 15 _ _ (.slice q3 k d3) (heap_setCell_same _ w.heap.size 14 _ _ (.slice q2 n d2) (unhide G3))
    have k4 := (heap_setCell_other _ ⟨w.heap.size, 15, none⟩ (w.heap.size + 1) (.slice q3 k d3) (by simp)).trans ((heap_setCell_other _ ⟨w.heap.size, 14, none⟩ (w.heap.size + 1) (.slice q2 n d2) (by simp)).trans (unhide K3))
    have h4 : ∀ g, g ≠ w.heap.size → ((w3.setCell ⟨w.heap.size, 14, none⟩ (.slice q2 n d2)).setCell ⟨w.heap.size, 15, none⟩ (.slice q3 k d3)).heap[g]? = w3.heap[g]? := fun g hg => (heap_setCell_other _ _ g _ hg).trans (heap_setCell_other _ _ g _ hg)
    have b4 : Below w.heap.size w ((w3.setCell ⟨w.heap.size, 14, none⟩ (.slice q2 n d2)).setCell ⟨w.heap.size, 15, none⟩ (.slice q3 k d3)) := ((unhide B3).setCell (Nat.le_refl _) _).setCell (Nat.le_refl _) _
    generalize (w3.setCell ⟨w.heap.size, 14, none⟩ (.slice q2 n d2)).setCell ⟨w.heap.size, 15, none⟩ (.slice q3 k d3) = w4 at *
    have G4 := hide g4
    have K4 := hide k4
    have H4 := hide h4
    have B4 := hide b4
    clear c14 c15 f14 f15 g4 k4 h4 b4
    go_wp2_with (first
      | (refine wpList_load_row rfl 24 (.tmp 1) rfl w.heap.size rfl 24 #[.int .i64 m.kd, .int .i64 m.fr, .int .i64 m.fi, .int .i64 m.tw, .int .i64 m.ti, .int .i64 m.tp, .int .i64 m.ep, .int .i64 m.sq, .int .i64 m.la, .int .i64 m.va, .int .i64 m.no, .int .i64 m.ic, .int .i64 m.ct, .int .i64 m.hp, .slice q2 n d2, .slice q3 k d3] (0, 0) _ (unhide G4) Try.underlying24 rfl info24 ?_)
      | (refine wpList_store_row rfl 24 (.tmp 2) (.tmp 11) rfl (w.heap.size + 1) #[.int .i64 m.kd, .int .i64 m.fr, .int .i64 m.fi, .int .i64 m.tw, .int .i64 m.ti, .int .i64 m.tp, .int .i64 m.ep, .int .i64 m.sq, .int .i64 m.la, .int .i64 m.va, .int .i64 m.no, .int .i64 m.ic, .int .i64 m.ct, .int .i64 m.hp, .slice q2 n d2, .slice q3 k d3] rfl rfl 24 _ (unhide K4) info24 rfl (by simp [Value.oneCell']) ?_))
    refine ret_row 2 24 rfl _ _ _ _ rfl (setRow_heap _ _ _ _ _ _ (unhide K4)) Try.underlying24 (.inl ⟨_, rfl⟩) info24 rfl ⟨q2, d2, q3, d3, rfl, ?_, ?_, ?_, ?_⟩
    · refine owns_mono (owns_above (unhide P3) (fun g hg hl => ?_)) (by simp; omega)
      have hg' : w.heap.size + 1 < g := by simp at hg; omega
      exact (setRow_other _ _ _ _ (by omega)).trans (unhide H4 g (by omega))
    · have l2 := unhide L2
      refine owns_mono (owns_above (unhide Ot) (fun g hg hl => ?_)) (by omega)
      exact (setRow_other _ _ _ _ (by omega)).trans (unhide H4 g (by omega))
    · exact below_setRow (unhide B4) (by omega)
    · intro g h1 h2
      have z1 := ((unhide Op).lt g h1).2
      have z2 := ((unhide Ot).lt g h2).1
      omega
end Go.Proofs.Ytokgbolmjfmfpaa
