/- The page's Msg, all of it: it answers as Check does. -/
import Derived.Test.YtmcmiojidgdjpaaBn12
import Derived.Test.YtmcmiojidgdjpaaBn13
import Derived.Test.YtmcmiojidgdjpaaBn14
import Derived.Test.YtmcmiojidgdjpaaBn18
import Derived.Test.YtmcmiojidgdjpaaBn16
import Derived.Test.YtmcmiojidgdjpaaBn22
namespace Go.Proofs.Ytmcmiojidgdjpaa
open Go.RowKit

theorem calls_b {f : FuncId} {args : Array Value} {v : Value} (h : ∀ w, Calls Try.prog f args w fun e w' => e = .returned v ∧ w' = w) (w : World) : Calls Try.prog f args w fun e w' => e = .returned v ∧ Below w.heap.size w w' := by
  refine (h w).mono ?_
  rintro e w' ⟨rfl, rfl⟩
  exact ⟨rfl, Below.refl _ _⟩
theorem nodes_b (F : Nat → Int) (v : Value) (n : Nat) (w : World) (h : Sl .i64 w v n F) : Calls Try.prog 34 #[v] w fun e w' => e = .returned (.bool (fewB F n)) ∧ Below w.heap.size w w' := by
  refine (nodes_any F v n w h).mono ?_
  rintro e w' ⟨rfl, rfl⟩
  exact ⟨rfl, Below.refl _ _⟩
theorem sl_head {w : World} {pp : Option Addr} {n cp : Nat} {F : Nat → Int} (h : Sl .i64 w (.slice pp n cp) n F) : ∃ gp fp, (0 < n → pp = some ⟨gp, fp, none⟩) ∧ (0 < n → ∀ w', Below w.heap.size w w' → w'.cell? ⟨gp, fp, none⟩ = some (.int .i64 (F 0))) := by
  by_cases hn : 0 < n
  · obtain ⟨b, off, e, _, _⟩ := h.some hn
    refine ⟨b, off, fun _ => e, fun _ w' hb => ?_⟩
    obtain ⟨b', off', e', _, hc⟩ := (h.below hb (Nat.le_refl _)).some hn
    rw [e] at e'
    cases e'
    exact hc 0 hn
  · exact ⟨0, 0, fun h => absurd h hn, fun h => absurd h hn⟩
/-- What a call of the page's Msg comes to. -/
def RQ (b : Bool) (w : World) (e : Exit) (a' : Act) (w' : World) : Prop := e = .ret ∧ a'.defers = [] ∧ a'.eval (.tmp 2) = .bool b ∧ Below w.heap.size w w'
set_option maxRecDepth 100000 in
set_option maxHeartbeats 8000000 in
theorem ref_any (m : Mg) (F G : Nat → Int) (p t : Value) (n k : Nat) (w : World) (hp : Sl .i64 w p n F) (ht : Sl .i64 w t k G) (hn : n ≤ 1000) (hk : k ≤ 1000) :
    Calls Try.prog 15 #[mv m p t] w fun e w' => e = .returned (.bool (chkB m F n G k)) ∧ Below w.heap.size w w' := by
  obtain ⟨pp, cp, rfl, _, _⟩ := hp.shape
  obtain ⟨pt, ct, rfl, _, _⟩ := ht.shape
  unfold mv
  go_enter Try.func15, Try.ntmps15
  refine wp_mono (Q := RQ (chkB m F n G k) w) ?_ ?_
  rotate_left
  · rintro e a' w' ⟨rfl, hd, hv, hb⟩
    refine bodyPost_ret (results_tmp rfl _ _ _) hd ⟨?_, hb⟩
    exact congrArg Ending.returned hv
  refine wp_seq_k fun K0 hK0 => ?_
  refine reg0 _ _ _ _ _ _ _ _ _ _ _ _ _ _ _ _ _ _ _ _ rfl rfl rfl ?_
  intro a0 s0 d0 e0
  refine hK0 _ _ ?_
  refine wp_seq_k fun K1 hK1 => ?_
  refine wp_seq_k fun K2 hK2 => ?_
  refine reg1 _ _ _ _ w.heap.size #[.int .i64 m.kd, .int .i64 m.fr, .int .i64 m.fi, .int .i64 m.tw, .int .i64 m.ti, .int .i64 m.tp, .int .i64 m.ep, .int .i64 m.sq, .int .i64 m.la, .int .i64 m.va, .int .i64 m.no, .int .i64 m.ic, .int .i64 m.ct, .int .i64 m.hp, .slice pp n cp, .slice pt k ct] m.kd m.fr m.fi m.tw _ _ _ _ s0 d0 e0 (heap_alloc_new _ _) rfl rfl rfl rfl (fun w => in_any m.kd 1 13 w) (fun w => isNode_any m.fr w) (fun w => isNode_any m.tw w) (fun w => count_any m.fi w) ?_
  intro a1 s1 d1 e1 e33
  refine hK2 _ _ ?_
  cases hh : (!((decide (1 ≤ m.kd) && decide (m.kd ≤ 13)) && (decide (0 ≤ m.fr) && decide (m.fr ≤ 7)) && (decide (0 ≤ m.tw) && decide (m.tw ≤ 7)) && !(m.fr == m.tw) && (decide (1 ≤ m.fi) && decide (m.fi ≤ 1073741824)))) with
  | true =>
    refine wp_cond_true (e33.trans (by rw [hh])) ?_
    refine wp_seq_k fun K3 hK3 => ?_
    refine reg2 _ _ _ _ s1 ?_
    intro a2 d2 v2
    refine hK3 _ _ ?_
    refine wp_ret ?_
    exact ⟨rfl, d2.trans d1, by rw [off_head m F G n k hh]; exact v2, (Below.refl _ _).alloc (Nat.le_refl _) _⟩
  | false =>
    obtain ⟨h0, h1, h2, h3, h4⟩ := b5 _ _ _ _ _ hh
    refine wp_cond_false (e33.trans (by rw [hh])) ?_
    refine wp_skip ?_
    refine hK1 _ _ ?_
    refine wp_seq_k fun K3 hK3 => ?_
    refine reg3 _ _ _ _ w.heap.size #[.int .i64 m.kd, .int .i64 m.fr, .int .i64 m.fi, .int .i64 m.tw, .int .i64 m.ti, .int .i64 m.tp, .int .i64 m.ep, .int .i64 m.sq, .int .i64 m.la, .int .i64 m.va, .int .i64 m.no, .int .i64 m.ic, .int .i64 m.ct, .int .i64 m.hp, .slice pp n cp, .slice pt k ct] m.kd m.fr m.fi m.tw m.ti m.tp s1 d1 e1 (heap_alloc_new _ _) rfl rfl rfl rfl rfl rfl ?_
    intro a3 f3
    refine hK3 _ _ ?_
    have hg1 : ((w.alloc (.cells #[.int .i64 m.kd, .int .i64 m.fr, .int .i64 m.fi, .int .i64 m.tw, .int .i64 m.ti, .int .i64 m.tp, .int .i64 m.ep, .int .i64 m.sq, .int .i64 m.la, .int .i64 m.va, .int .i64 m.no, .int .i64 m.ic, .int .i64 m.ct, .int .i64 m.hp, .slice pp n cp, .slice pt k ct] 24)).alloc (.cells #[.int .i64 m.kd, .int .i64 m.fr, .int .i64 m.fi, .int .i64 m.tw, .int .i64 m.ti, .int .i64 m.tp, .int .i64 0, .int .i64 0, .int .i64 0, .int .i64 0, .int .i64 0, .int .i64 0, .int .i64 0, .int .i64 0, .slice none 0 0, .slice none 0 0] 24)).heap[w.heap.size]? = some (.cells #[.int .i64 m.kd, .int .i64 m.fr, .int .i64 m.fi, .int .i64 m.tw, .int .i64 m.ti, .int .i64 m.tp, .int .i64 m.ep, .int .i64 m.sq, .int .i64 m.la, .int .i64 m.va, .int .i64 m.no, .int .i64 m.ic, .int .i64 m.ct, .int .i64 m.hp, .slice pp n cp, .slice pt k ct] 24) := heap_alloc2_old _ _ _
    have hg3 : ((w.alloc (.cells #[.int .i64 m.kd, .int .i64 m.fr, .int .i64 m.fi, .int .i64 m.tw, .int .i64 m.ti, .int .i64 m.tp, .int .i64 m.ep, .int .i64 m.sq, .int .i64 m.la, .int .i64 m.va, .int .i64 m.no, .int .i64 m.ic, .int .i64 m.ct, .int .i64 m.hp, .slice pp n cp, .slice pt k ct] 24)).alloc (.cells #[.int .i64 m.kd, .int .i64 m.fr, .int .i64 m.fi, .int .i64 m.tw, .int .i64 m.ti, .int .i64 m.tp, .int .i64 0, .int .i64 0, .int .i64 0, .int .i64 0, .int .i64 0, .int .i64 0, .int .i64 0, .int .i64 0, .slice none 0 0, .slice none 0 0] 24)).heap[(w.alloc (.cells #[.int .i64 m.kd, .int .i64 m.fr, .int .i64 m.fi, .int .i64 m.tw, .int .i64 m.ti, .int .i64 m.tp, .int .i64 m.ep, .int .i64 m.sq, .int .i64 m.la, .int .i64 m.va, .int .i64 m.no, .int .i64 m.ic, .int .i64 m.ct, .int .i64 m.hp, .slice pp n cp, .slice pt k ct] 24)).heap.size]? = some (.cells #[.int .i64 m.kd, .int .i64 m.fr, .int .i64 m.fi, .int .i64 m.tw, .int .i64 m.ti, .int .i64 m.tp, .int .i64 0, .int .i64 0, .int .i64 0, .int .i64 0, .int .i64 0, .int .i64 0, .int .i64 0, .int .i64 0, .slice none 0 0, .slice none 0 0] 24) := heap_alloc_new _ _
    have hlt : w.heap.size < (w.alloc (.cells #[.int .i64 m.kd, .int .i64 m.fr, .int .i64 m.fi, .int .i64 m.tw, .int .i64 m.ti, .int .i64 m.tp, .int .i64 m.ep, .int .i64 m.sq, .int .i64 m.la, .int .i64 m.va, .int .i64 m.no, .int .i64 m.ic, .int .i64 m.ct, .int .i64 m.hp, .slice pp n cp, .slice pt k ct] 24)).heap.size := by simp
    have B0 : Below w.heap.size w ((w.alloc (.cells #[.int .i64 m.kd, .int .i64 m.fr, .int .i64 m.fi, .int .i64 m.tw, .int .i64 m.ti, .int .i64 m.tp, .int .i64 m.ep, .int .i64 m.sq, .int .i64 m.la, .int .i64 m.va, .int .i64 m.no, .int .i64 m.ic, .int .i64 m.ct, .int .i64 m.hp, .slice pp n cp, .slice pt k ct] 24)).alloc (.cells #[.int .i64 m.kd, .int .i64 m.fr, .int .i64 m.fi, .int .i64 m.tw, .int .i64 m.ti, .int .i64 m.tp, .int .i64 0, .int .i64 0, .int .i64 0, .int .i64 0, .int .i64 0, .int .i64 0, .int .i64 0, .int .i64 0, .slice none 0 0, .slice none 0 0] 24)) := ((Below.refl _ _).alloc (Nat.le_refl _) _).alloc (by simp) _
    clear e0 e1 e33 hK0 hK1 hK2 hK3 s0 d0 s1 d1 hh
    generalize (w.alloc (.cells #[.int .i64 m.kd, .int .i64 m.fr, .int .i64 m.fi, .int .i64 m.tw, .int .i64 m.ti, .int .i64 m.tp, .int .i64 m.ep, .int .i64 m.sq, .int .i64 m.la, .int .i64 m.va, .int .i64 m.no, .int .i64 m.ic, .int .i64 m.ct, .int .i64 m.hp, .slice pp n cp, .slice pt k ct] 24)).alloc (.cells #[.int .i64 m.kd, .int .i64 m.fr, .int .i64 m.fi, .int .i64 m.tw, .int .i64 m.ti, .int .i64 m.tp, .int .i64 0, .int .i64 0, .int .i64 0, .int .i64 0, .int .i64 0, .int .i64 0, .int .i64 0, .int .i64 0, .slice none 0 0, .slice none 0 0] 24) = W at *
    generalize (w.alloc (.cells #[.int .i64 m.kd, .int .i64 m.fr, .int .i64 m.fi, .int .i64 m.tw, .int .i64 m.ti, .int .i64 m.tp, .int .i64 m.ep, .int .i64 m.sq, .int .i64 m.la, .int .i64 m.va, .int .i64 m.no, .int .i64 m.ic, .int .i64 m.ct, .int .i64 m.hp, .slice pp n cp, .slice pt k ct] 24)).heap.size = g3 at *
    have L1 : w.heap.size < W.heap.size := (Array.getElem?_eq_some_iff.1 hg1).1
    have L3 : g3 < W.heap.size := (Array.getElem?_eq_some_iff.1 hg3).1
    have hle : w.heap.size ≤ g3 := Nat.le_of_lt hlt
    refine wp_seq_k fun K4 hK4 => ?_
    refine wp_seq_k fun K5 hK5 => ?_
    refine reg4 _ _ _ _ w.heap.size g3 #[.int .i64 m.kd, .int .i64 m.fr, .int .i64 m.fi, .int .i64 m.tw, .int .i64 m.ti, .int .i64 m.tp, .int .i64 m.ep, .int .i64 m.sq, .int .i64 m.la, .int .i64 m.va, .int .i64 m.no, .int .i64 m.ic, .int .i64 m.ct, .int .i64 m.hp, .slice pp n cp, .slice pt k ct] m.kd f3 hg1 rfl ?_
    intro a4 f4 e49
    refine hK5 _ _ ?_
    by_cases kq : m.kd = 1
    · refine wp_cond_true (e49.trans (by rw [kq]; rfl)) ?_
      refine reg5 _ _ _ _ w.heap.size g3 #[.int .i64 m.kd, .int .i64 m.fr, .int .i64 m.fi, .int .i64 m.tw, .int .i64 m.ti, .int .i64 m.tp, .int .i64 0, .int .i64 0, .int .i64 0, .int .i64 0, .int .i64 0, .int .i64 0, .int .i64 0, .int .i64 0, .slice none 0 0, .slice none 0 0] f4 hg3 rfl ?_
      intro a5 w5 f5 bx h5
      refine hK4 _ _ ?_
      have B5 := below_app B0 bx hle
      have hg15 := (bx.block w.heap.size hlt).trans hg1
      have h5' : w5.heap[g3]? = some (.cells #[.int .i64 m.kd, .int .i64 m.fr, .int .i64 m.fi, .int .i64 m.tw, .int .i64 0, .int .i64 0, .int .i64 0, .int .i64 0, .int .i64 0, .int .i64 0, .int .i64 0, .int .i64 0, .int .i64 0, .int .i64 0, .slice none 0 0, .slice none 0 0] 24) := h5
      refine wp_seq_k fun K8 hK8 => ?_
      refine reg8 _ _ _ _ w.heap.size g3 f5 ?_
      intro a8 f8 e8
      refine hK8 _ _ ?_
      refine wp_seq_k fun Kb hKb => ?_
      refine wp_seq_k fun Kz hKz => ?_
      refine reg9 _ _ _ _ w.heap.size g3 #[.int .i64 m.kd, .int .i64 m.fr, .int .i64 m.fi, .int .i64 m.tw, .int .i64 m.ti, .int .i64 m.tp, .int .i64 m.ep, .int .i64 m.sq, .int .i64 m.la, .int .i64 m.va, .int .i64 m.no, .int .i64 m.ic, .int .i64 m.ct, .int .i64 m.hp, .slice pp n cp, .slice pt k ct] m.kd f8 e8 hg15 rfl ?_
      intro asw fs
      refine hKz _ _ ?_
      refine wp_block ?_
      refine wp_seq_k fun K10 hK10 => ?_
      refine reg10 _ _ _ _ w.heap.size g3 true m.kd fs ?_
      intro a10 f10 c10
      refine hK10 _ _ ?_
      refine wp_cond_false (c10.trans (by rw [kq]; rfl)) ?_
      refine wp_seq_k fun K13 hK13 => ?_
      refine reg13 _ _ _ _ w.heap.size g3 true m.kd f10 ?_
      intro a13 f13 c13
      refine hK13 _ _ ?_
      refine wp_cond_false (c13.trans (by rw [kq]; rfl)) ?_
      refine wp_seq_k fun K16 hK16 => ?_
      refine reg16 _ _ _ _ w.heap.size g3 true m.kd f13 ?_
      intro a16 f16 c16
      refine hK16 _ _ ?_
      refine wp_cond_false (c16.trans (by rw [kq]; rfl)) ?_
      refine wp_seq_k fun K19 hK19 => ?_
      refine reg19 _ _ _ _ w.heap.size g3 true m.kd f16 ?_
      intro a19 f19 c19
      refine hK19 _ _ ?_
      refine wp_cond_false (c19.trans (by rw [kq]; rfl)) ?_
      refine wp_seq_k fun K22 hK22 => ?_
      refine reg22 _ _ _ _ w.heap.size g3 true m.kd f19 ?_
      intro a22 f22 c22
      refine hK22 _ _ ?_
      refine wp_cond_false (c22.trans (by rw [kq]; rfl)) ?_
      refine wp_seq_k fun K25 hK25 => ?_
      refine reg25 _ _ _ _ w.heap.size g3 true m.kd f22 ?_
      intro a25 f25 c25
      refine hK25 _ _ ?_
      refine wp_cond_false (c25.trans (by rw [kq]; rfl)) ?_
      refine wp_seq_k fun K28 hK28 => ?_
      refine reg28 _ _ _ _ w.heap.size g3 true m.kd f25 ?_
      intro a28 f28 c28
      refine hK28 _ _ ?_
      refine wp_cond_false (c28.trans (by rw [kq]; rfl)) ?_
      refine wp_seq_k fun K31 hK31 => ?_
      refine reg31 _ _ _ _ w.heap.size g3 true m.kd f28 ?_
      intro a31 f31 c31
      refine hK31 _ _ ?_
      refine wp_cond_false (c31.trans (by rw [kq]; rfl)) ?_
      refine wp_seq_k fun K34 hK34 => ?_
      refine reg34 _ _ _ _ w.heap.size g3 true m.kd f31 ?_
      intro a34 f34 c34
      refine hK34 _ _ ?_
      refine wp_cond_false (c34.trans (by rw [kq]; rfl)) ?_
      refine wp_seq_k fun K37 hK37 => ?_
      refine reg37 _ _ _ _ w.heap.size g3 true m.kd f34 ?_
      intro a37 f37 c37
      refine hK37 _ _ ?_
      refine wp_cond_false (c37.trans (by rw [kq]; rfl)) ?_
      refine wp_skip ?_
      refine hKb _ _ ?_
      have HG1 := hg15
      refine wp_seq_k fun K9 hK9 => ?_
      refine reg40 _ _ _ w5 w.heap.size g3 #[.int .i64 m.kd, .int .i64 m.fr, .int .i64 m.fi, .int .i64 m.tw, .int .i64 m.ti, .int .i64 m.tp, .int .i64 m.ep, .int .i64 m.sq, .int .i64 m.la, .int .i64 m.va, .int .i64 m.no, .int .i64 m.ic, .int .i64 m.ct, .int .i64 m.hp, .slice pp n cp, .slice pt k ct] #[.int .i64 m.kd, .int .i64 m.fr, .int .i64 m.fi, .int .i64 m.tw, .int .i64 0, .int .i64 0, .int .i64 0, .int .i64 0, .int .i64 0, .int .i64 0, .int .i64 0, .int .i64 0, .int .i64 0, .int .i64 0, .slice none 0 0, .slice none 0 0] _ _ m.kd f37 HG1 h5' rfl rfl (keepMsg_any { kd := m.kd, fr := m.fr, fi := m.fi, tw := m.tw, ti := 0, tp := 0, ep := 0, sq := 0, la := 0, va := 0, no := 0, ic := 0, ct := 0, hp := 0 } m noF noF F G (.slice none 0 0) (.slice none 0 0) (.slice pp n cp) (.slice pt k ct) 0 0 n k w5 (sl_nil _) (sl_nil _) (hp.below B5 (Nat.le_refl _)) (ht.below B5 (Nat.le_refl _))) ?_
      intro a9 w9 d9 v9 b9
      refine hK9 _ _ ?_
      refine wp_ret ?_
      rw [fin_1 m F G n k kq h0 h1 h2 h3 h4] at v9
      exact ⟨rfl, d9, v9, below_of B5 b9⟩
    · refine wp_cond_false (e49.trans (by simp [kq])) ?_
      refine wp_seq_k fun K6 hK6 => ?_
      refine reg6 _ _ _ _ w.heap.size g3 #[.int .i64 m.kd, .int .i64 m.fr, .int .i64 m.fi, .int .i64 m.tw, .int .i64 m.ti, .int .i64 m.tp, .int .i64 m.ep, .int .i64 m.sq, .int .i64 m.la, .int .i64 m.va, .int .i64 m.no, .int .i64 m.ic, .int .i64 m.ct, .int .i64 m.hp, .slice pp n cp, .slice pt k ct] m.ti m.tp _ _ f4 hg1 rfl rfl (fun w => count_any m.ti w) (fun w => isTopic_any m.tp w) ?_
      intro a6 f6 e61
      refine hK6 _ _ ?_
      cases hh : ((decide (1 ≤ m.ti) && decide (m.ti ≤ 1073741824)) && (decide (0 ≤ m.tp) && decide (m.tp ≤ 3))) with
      | false =>
        refine wp_cond_true (e61.trans (by rw [hh]; rfl)) ?_
        refine wp_seq_k fun K7 hK7 => ?_
        refine reg7 _ _ _ _ w.heap.size g3 f6 ?_
        intro a7 f7 v7
        refine hK7 _ _ ?_
        refine wp_ret ?_
        exact ⟨rfl, f7.df, by rw [off_tt m F G n k kq hh]; exact v7, B0⟩
      | true =>
        obtain ⟨h5, h6⟩ := Bool.and_eq_true_iff.1 hh
        refine wp_cond_false (e61.trans (by rw [hh]; rfl)) ?_
        refine wp_skip ?_
        refine hK4 _ _ ?_
        refine wp_seq_k fun K8 hK8 => ?_
        refine reg8 _ _ _ _ w.heap.size g3 f6 ?_
        intro a8 f8 e8
        refine hK8 _ _ ?_
        refine wp_seq_k fun Kb hKb => ?_
        refine wp_seq_k fun Kz hKz => ?_
        refine reg9 _ _ _ _ w.heap.size g3 #[.int .i64 m.kd, .int .i64 m.fr, .int .i64 m.fi, .int .i64 m.tw, .int .i64 m.ti, .int .i64 m.tp, .int .i64 m.ep, .int .i64 m.sq, .int .i64 m.la, .int .i64 m.va, .int .i64 m.no, .int .i64 m.ic, .int .i64 m.ct, .int .i64 m.hp, .slice pp n cp, .slice pt k ct] m.kd f8 e8 hg1 rfl ?_
        intro asw fs
        refine hKz _ _ ?_
        refine wp_block ?_
        have hr : 1 ≤ m.kd ∧ m.kd ≤ 13 := by simpa using h0
        have kc : m.kd = 2 ∨ m.kd = 3 ∨ m.kd = 4 ∨ m.kd = 5 ∨ m.kd = 6 ∨ m.kd = 7 ∨ m.kd = 8 ∨ m.kd = 9 ∨ m.kd = 10 ∨ m.kd = 11 ∨ m.kd = 12 ∨ m.kd = 13 := by omega
        clear kq
        rcases kc with kq | kq | kq | kq | kq | kq | kq | kq | kq | kq | kq | kq
        · refine wp_seq_k fun K10 hK10 => ?_
          refine reg10 _ _ _ _ w.heap.size g3 true m.kd fs ?_
          intro a10 f10 c10
          refine hK10 _ _ ?_
          refine wp_cond_true (c10.trans (by rw [kq]; rfl)) ?_
          refine wp_seq_k fun Kt hKt => ?_
          refine reg11 _ _ _ _ w.heap.size g3 #[.int .i64 m.kd, .int .i64 m.fr, .int .i64 m.fi, .int .i64 m.tw, .int .i64 m.ti, .int .i64 m.tp, .int .i64 m.ep, .int .i64 m.sq, .int .i64 m.la, .int .i64 m.va, .int .i64 m.no, .int .i64 m.ic, .int .i64 m.ct, .int .i64 m.hp, .slice pp n cp, .slice pt k ct] m.ep true m.kd _ f10 hg1 rfl (fun w => in_any m.ep 0 1073741824 w) ?_
          intro at1 ft
          refine hKt _ _ ?_
          refine reg12 _ _ _ W w.heap.size g3 #[.int .i64 m.kd, .int .i64 m.fr, .int .i64 m.fi, .int .i64 m.tw, .int .i64 m.ti, .int .i64 m.tp, .int .i64 m.ep, .int .i64 m.sq, .int .i64 m.la, .int .i64 m.va, .int .i64 m.no, .int .i64 m.ic, .int .i64 m.ct, .int .i64 m.hp, .slice pp n cp, .slice pt k ct] m.ep #[.int .i64 m.kd, .int .i64 m.fr, .int .i64 m.fi, .int .i64 m.tw, .int .i64 m.ti, .int .i64 m.tp, .int .i64 0, .int .i64 0, .int .i64 0, .int .i64 0, .int .i64 0, .int .i64 0, .int .i64 0, .int .i64 0, .slice none 0 0, .slice none 0 0] _ m.kd ft hg3 rfl hg1 rfl ?_
          intro ac wc fc bc hc
          refine hKb _ _ ?_
          have Bc := below_app B0 bc hle
          have HG1 := (bc.block w.heap.size hlt).trans hg1
          have hc' : wc.heap[g3]? = some (.cells #[.int .i64 m.kd, .int .i64 m.fr, .int .i64 m.fi, .int .i64 m.tw, .int .i64 m.ti, .int .i64 m.tp, .int .i64 m.ep, .int .i64 0, .int .i64 0, .int .i64 0, .int .i64 0, .int .i64 0, .int .i64 0, .int .i64 0, .slice none 0 0, .slice none 0 0] 24) := hc
          refine wp_seq_k fun K9 hK9 => ?_
          refine reg40 _ _ _ wc w.heap.size g3 #[.int .i64 m.kd, .int .i64 m.fr, .int .i64 m.fi, .int .i64 m.tw, .int .i64 m.ti, .int .i64 m.tp, .int .i64 m.ep, .int .i64 m.sq, .int .i64 m.la, .int .i64 m.va, .int .i64 m.no, .int .i64 m.ic, .int .i64 m.ct, .int .i64 m.hp, .slice pp n cp, .slice pt k ct] #[.int .i64 m.kd, .int .i64 m.fr, .int .i64 m.fi, .int .i64 m.tw, .int .i64 m.ti, .int .i64 m.tp, .int .i64 m.ep, .int .i64 0, .int .i64 0, .int .i64 0, .int .i64 0, .int .i64 0, .int .i64 0, .int .i64 0, .slice none 0 0, .slice none 0 0] _ _ m.kd fc HG1 hc' rfl rfl (keepMsg_any { kd := m.kd, fr := m.fr, fi := m.fi, tw := m.tw, ti := m.ti, tp := m.tp, ep := m.ep, sq := 0, la := 0, va := 0, no := 0, ic := 0, ct := 0, hp := 0 } m noF noF F G (.slice none 0 0) (.slice none 0 0) (.slice pp n cp) (.slice pt k ct) 0 0 n k wc (sl_nil _) (sl_nil _) (hp.below Bc (Nat.le_refl _)) (ht.below Bc (Nat.le_refl _))) ?_
          intro a9 w9 d9 v9 b9
          refine hK9 _ _ ?_
          refine wp_ret ?_
          rw [fin_2 m F G n k kq h0 h1 h2 h3 h4 h5 h6] at v9
          exact ⟨rfl, d9, v9, below_of Bc b9⟩
        · refine wp_seq_k fun K10 hK10 => ?_
          refine reg10 _ _ _ _ w.heap.size g3 true m.kd fs ?_
          intro a10 f10 c10
          refine hK10 _ _ ?_
          refine wp_cond_false (c10.trans (by rw [kq]; rfl)) ?_
          refine wp_seq_k fun K13 hK13 => ?_
          refine reg13 _ _ _ _ w.heap.size g3 true m.kd f10 ?_
          intro a13 f13 c13
          refine hK13 _ _ ?_
          refine wp_cond_true (c13.trans (by rw [kq]; rfl)) ?_
          refine wp_seq_k fun Kt hKt => ?_
          obtain ⟨gp, fp, hpp, hcc⟩ := sl_head (hp.below B0 (Nat.le_refl _))
          refine reg14 _ _ _ _ w.heap.size #[.int .i64 m.kd, .int .i64 m.fr, .int .i64 m.fi, .int .i64 m.tw, .int .i64 m.ti, .int .i64 m.tp, .int .i64 m.ep, .int .i64 m.sq, .int .i64 m.la, .int .i64 m.va, .int .i64 m.no, .int .i64 m.ic, .int .i64 m.ct, .int .i64 m.hp, .slice pp n cp, .slice pt k ct] m.ep m.sq m.la m.fr (F 0) pp n cp gp fp _ _ _ _ _ f13.fa.sz f13.fa.e1 hg1 rfl rfl rfl rfl rfl (calls_b (fun w => in_any m.ep 0 1073741824 w)) (calls_b (fun w => count_any m.sq w)) (calls_b (fun w => in_any m.la 0 1073741824 w)) (fun w1 b1 => nodes_b F _ n w1 ((hp.below B0 (Nat.le_refl _)).below b1 (Nat.le_refl _))) (fun w1 b1 => runlike_b F _ n w1 ((hp.below B0 (Nat.le_refl _)).below b1 (Nat.le_refl _))) hpp hcc ?_
          intro at1 wt s1 s2 s3 s4 s5 s6 bt
          have ft : Fr at1 w.heap.size g3 _ m.kd := ⟨⟨s1, s5.trans f13.fa.df, s2.trans f13.fa.e1, s3.trans f13.fa.e3⟩, s6, s4.trans f13.ek⟩
          refine hKt _ _ ?_
          have Bt := below_of B0 bt
          have hg1t := (bt.block w.heap.size L1).trans hg1
          have hg3t := (bt.block g3 L3).trans hg3
          refine reg15 _ _ _ wt w.heap.size g3 #[.int .i64 m.kd, .int .i64 m.fr, .int .i64 m.fi, .int .i64 m.tw, .int .i64 m.ti, .int .i64 m.tp, .int .i64 m.ep, .int .i64 m.sq, .int .i64 m.la, .int .i64 m.va, .int .i64 m.no, .int .i64 m.ic, .int .i64 m.ct, .int .i64 m.hp, .slice pp n cp, .slice pt k ct] #[.int .i64 m.kd, .int .i64 m.fr, .int .i64 m.fi, .int .i64 m.tw, .int .i64 m.ti, .int .i64 m.tp, .int .i64 0, .int .i64 0, .int .i64 0, .int .i64 0, .int .i64 0, .int .i64 0, .int .i64 0, .int .i64 0, .slice none 0 0, .slice none 0 0] _ m.kd m.ep m.sq m.la pp n cp ft hg1t hg3t hlt rfl rfl rfl rfl rfl ?_
          intro ac wc fc bc hc
          refine hKb _ _ ?_
          have Bc := below_app Bt bc hle
          have HG1 := (bc.block w.heap.size hlt).trans hg1t
          have hc' : wc.heap[g3]? = some (.cells #[.int .i64 m.kd, .int .i64 m.fr, .int .i64 m.fi, .int .i64 m.tw, .int .i64 m.ti, .int .i64 m.tp, .int .i64 m.ep, .int .i64 m.sq, .int .i64 m.la, .int .i64 0, .int .i64 0, .int .i64 0, .int .i64 0, .int .i64 0, .slice pp n cp, .slice none 0 0] 24) := hc
          refine wp_seq_k fun K9 hK9 => ?_
          refine reg40 _ _ _ wc w.heap.size g3 #[.int .i64 m.kd, .int .i64 m.fr, .int .i64 m.fi, .int .i64 m.tw, .int .i64 m.ti, .int .i64 m.tp, .int .i64 m.ep, .int .i64 m.sq, .int .i64 m.la, .int .i64 m.va, .int .i64 m.no, .int .i64 m.ic, .int .i64 m.ct, .int .i64 m.hp, .slice pp n cp, .slice pt k ct] #[.int .i64 m.kd, .int .i64 m.fr, .int .i64 m.fi, .int .i64 m.tw, .int .i64 m.ti, .int .i64 m.tp, .int .i64 m.ep, .int .i64 m.sq, .int .i64 m.la, .int .i64 0, .int .i64 0, .int .i64 0, .int .i64 0, .int .i64 0, .slice pp n cp, .slice none 0 0] _ _ m.kd fc HG1 hc' rfl rfl (keepMsg_any { kd := m.kd, fr := m.fr, fi := m.fi, tw := m.tw, ti := m.ti, tp := m.tp, ep := m.ep, sq := m.sq, la := m.la, va := 0, no := 0, ic := 0, ct := 0, hp := 0 } m F noF F G (.slice pp n cp) (.slice none 0 0) (.slice pp n cp) (.slice pt k ct) n 0 n k wc (hp.below Bc (Nat.le_refl _)) (sl_nil _) (hp.below Bc (Nat.le_refl _)) (ht.below Bc (Nat.le_refl _))) ?_
          intro a9 w9 d9 v9 b9
          refine hK9 _ _ ?_
          refine wp_ret ?_
          rw [fin_3 m F G n k kq h0 h1 h2 h3 h4 h5 h6] at v9
          exact ⟨rfl, d9, v9, below_of Bc b9⟩
        · refine wp_seq_k fun K10 hK10 => ?_
          refine reg10 _ _ _ _ w.heap.size g3 true m.kd fs ?_
          intro a10 f10 c10
          refine hK10 _ _ ?_
          refine wp_cond_false (c10.trans (by rw [kq]; rfl)) ?_
          refine wp_seq_k fun K13 hK13 => ?_
          refine reg13 _ _ _ _ w.heap.size g3 true m.kd f10 ?_
          intro a13 f13 c13
          refine hK13 _ _ ?_
          refine wp_cond_false (c13.trans (by rw [kq]; rfl)) ?_
          refine wp_seq_k fun K16 hK16 => ?_
          refine reg16 _ _ _ _ w.heap.size g3 true m.kd f13 ?_
          intro a16 f16 c16
          refine hK16 _ _ ?_
          refine wp_cond_true (c16.trans (by rw [kq]; rfl)) ?_
          refine wp_seq_k fun Kt hKt => ?_
          refine reg17 _ _ _ _ w.heap.size g3 #[.int .i64 m.kd, .int .i64 m.fr, .int .i64 m.fi, .int .i64 m.tw, .int .i64 m.ti, .int .i64 m.tp, .int .i64 m.ep, .int .i64 m.sq, .int .i64 m.la, .int .i64 m.va, .int .i64 m.no, .int .i64 m.ic, .int .i64 m.ct, .int .i64 m.hp, .slice pp n cp, .slice pt k ct] m.fr m.no m.tw true m.kd _ f16 hg1 rfl rfl rfl (fun w => isNode_any m.no w) ?_
          intro at1 ft
          refine hKt _ _ ?_
          refine reg18 _ _ _ W w.heap.size g3 #[.int .i64 m.kd, .int .i64 m.fr, .int .i64 m.fi, .int .i64 m.tw, .int .i64 m.ti, .int .i64 m.tp, .int .i64 m.ep, .int .i64 m.sq, .int .i64 m.la, .int .i64 m.va, .int .i64 m.no, .int .i64 m.ic, .int .i64 m.ct, .int .i64 m.hp, .slice pp n cp, .slice pt k ct] m.no #[.int .i64 m.kd, .int .i64 m.fr, .int .i64 m.fi, .int .i64 m.tw, .int .i64 m.ti, .int .i64 m.tp, .int .i64 0, .int .i64 0, .int .i64 0, .int .i64 0, .int .i64 0, .int .i64 0, .int .i64 0, .int .i64 0, .slice none 0 0, .slice none 0 0] _ m.kd ft hg3 rfl hg1 rfl ?_
          intro ac wc fc bc hc
          refine hKb _ _ ?_
          have Bc := below_app B0 bc hle
          have HG1 := (bc.block w.heap.size hlt).trans hg1
          have hc' : wc.heap[g3]? = some (.cells #[.int .i64 m.kd, .int .i64 m.fr, .int .i64 m.fi, .int .i64 m.tw, .int .i64 m.ti, .int .i64 m.tp, .int .i64 0, .int .i64 0, .int .i64 0, .int .i64 0, .int .i64 m.no, .int .i64 0, .int .i64 0, .int .i64 0, .slice none 0 0, .slice none 0 0] 24) := hc
          refine wp_seq_k fun K9 hK9 => ?_
          refine reg40 _ _ _ wc w.heap.size g3 #[.int .i64 m.kd, .int .i64 m.fr, .int .i64 m.fi, .int .i64 m.tw, .int .i64 m.ti, .int .i64 m.tp, .int .i64 m.ep, .int .i64 m.sq, .int .i64 m.la, .int .i64 m.va, .int .i64 m.no, .int .i64 m.ic, .int .i64 m.ct, .int .i64 m.hp, .slice pp n cp, .slice pt k ct] #[.int .i64 m.kd, .int .i64 m.fr, .int .i64 m.fi, .int .i64 m.tw, .int .i64 m.ti, .int .i64 m.tp, .int .i64 0, .int .i64 0, .int .i64 0, .int .i64 0, .int .i64 m.no, .int .i64 0, .int .i64 0, .int .i64 0, .slice none 0 0, .slice none 0 0] _ _ m.kd fc HG1 hc' rfl rfl (keepMsg_any { kd := m.kd, fr := m.fr, fi := m.fi, tw := m.tw, ti := m.ti, tp := m.tp, ep := 0, sq := 0, la := 0, va := 0, no := m.no, ic := 0, ct := 0, hp := 0 } m noF noF F G (.slice none 0 0) (.slice none 0 0) (.slice pp n cp) (.slice pt k ct) 0 0 n k wc (sl_nil _) (sl_nil _) (hp.below Bc (Nat.le_refl _)) (ht.below Bc (Nat.le_refl _))) ?_
          intro a9 w9 d9 v9 b9
          refine hK9 _ _ ?_
          refine wp_ret ?_
          rw [fin_4 m F G n k kq h0 h1 h2 h3 h4 h5 h6] at v9
          exact ⟨rfl, d9, v9, below_of Bc b9⟩
        · refine wp_seq_k fun K10 hK10 => ?_
          refine reg10 _ _ _ _ w.heap.size g3 true m.kd fs ?_
          intro a10 f10 c10
          refine hK10 _ _ ?_
          refine wp_cond_false (c10.trans (by rw [kq]; rfl)) ?_
          refine wp_seq_k fun K13 hK13 => ?_
          refine reg13 _ _ _ _ w.heap.size g3 true m.kd f10 ?_
          intro a13 f13 c13
          refine hK13 _ _ ?_
          refine wp_cond_false (c13.trans (by rw [kq]; rfl)) ?_
          refine wp_seq_k fun K16 hK16 => ?_
          refine reg16 _ _ _ _ w.heap.size g3 true m.kd f13 ?_
          intro a16 f16 c16
          refine hK16 _ _ ?_
          refine wp_cond_false (c16.trans (by rw [kq]; rfl)) ?_
          refine wp_seq_k fun K19 hK19 => ?_
          refine reg19 _ _ _ _ w.heap.size g3 true m.kd f16 ?_
          intro a19 f19 c19
          refine hK19 _ _ ?_
          refine wp_cond_false (c19.trans (by rw [kq]; rfl)) ?_
          refine wp_seq_k fun K22 hK22 => ?_
          refine reg22 _ _ _ _ w.heap.size g3 true m.kd f19 ?_
          intro a22 f22 c22
          refine hK22 _ _ ?_
          refine wp_cond_false (c22.trans (by rw [kq]; rfl)) ?_
          refine wp_seq_k fun K25 hK25 => ?_
          refine reg25 _ _ _ _ w.heap.size g3 true m.kd f22 ?_
          intro a25 f25 c25
          refine hK25 _ _ ?_
          refine wp_cond_false (c25.trans (by rw [kq]; rfl)) ?_
          refine wp_seq_k fun K28 hK28 => ?_
          refine reg28 _ _ _ _ w.heap.size g3 true m.kd f25 ?_
          intro a28 f28 c28
          refine hK28 _ _ ?_
          refine wp_cond_false (c28.trans (by rw [kq]; rfl)) ?_
          refine wp_seq_k fun K31 hK31 => ?_
          refine reg31 _ _ _ _ w.heap.size g3 true m.kd f28 ?_
          intro a31 f31 c31
          refine hK31 _ _ ?_
          refine wp_cond_false (c31.trans (by rw [kq]; rfl)) ?_
          refine wp_seq_k fun K34 hK34 => ?_
          refine reg34 _ _ _ _ w.heap.size g3 true m.kd f31 ?_
          intro a34 f34 c34
          refine hK34 _ _ ?_
          refine wp_cond_false (c34.trans (by rw [kq]; rfl)) ?_
          refine wp_seq_k fun K37 hK37 => ?_
          refine reg37 _ _ _ _ w.heap.size g3 true m.kd f34 ?_
          intro a37 f37 c37
          refine hK37 _ _ ?_
          refine wp_cond_false (c37.trans (by rw [kq]; rfl)) ?_
          refine wp_skip ?_
          refine hKb _ _ ?_
          have HG1 := hg1
          refine wp_seq_k fun K9 hK9 => ?_
          refine reg40 _ _ _ W w.heap.size g3 #[.int .i64 m.kd, .int .i64 m.fr, .int .i64 m.fi, .int .i64 m.tw, .int .i64 m.ti, .int .i64 m.tp, .int .i64 m.ep, .int .i64 m.sq, .int .i64 m.la, .int .i64 m.va, .int .i64 m.no, .int .i64 m.ic, .int .i64 m.ct, .int .i64 m.hp, .slice pp n cp, .slice pt k ct] #[.int .i64 m.kd, .int .i64 m.fr, .int .i64 m.fi, .int .i64 m.tw, .int .i64 m.ti, .int .i64 m.tp, .int .i64 0, .int .i64 0, .int .i64 0, .int .i64 0, .int .i64 0, .int .i64 0, .int .i64 0, .int .i64 0, .slice none 0 0, .slice none 0 0] _ _ m.kd f37 HG1 hg3 rfl rfl (keepMsg_any { kd := m.kd, fr := m.fr, fi := m.fi, tw := m.tw, ti := m.ti, tp := m.tp, ep := 0, sq := 0, la := 0, va := 0, no := 0, ic := 0, ct := 0, hp := 0 } m noF noF F G (.slice none 0 0) (.slice none 0 0) (.slice pp n cp) (.slice pt k ct) 0 0 n k W (sl_nil _) (sl_nil _) (hp.below B0 (Nat.le_refl _)) (ht.below B0 (Nat.le_refl _))) ?_
          intro a9 w9 d9 v9 b9
          refine hK9 _ _ ?_
          refine wp_ret ?_
          rw [fin_5 m F G n k kq h0 h1 h2 h3 h4 h5 h6] at v9
          exact ⟨rfl, d9, v9, below_of B0 b9⟩
        · refine wp_seq_k fun K10 hK10 => ?_
          refine reg10 _ _ _ _ w.heap.size g3 true m.kd fs ?_
          intro a10 f10 c10
          refine hK10 _ _ ?_
          refine wp_cond_false (c10.trans (by rw [kq]; rfl)) ?_
          refine wp_seq_k fun K13 hK13 => ?_
          refine reg13 _ _ _ _ w.heap.size g3 true m.kd f10 ?_
          intro a13 f13 c13
          refine hK13 _ _ ?_
          refine wp_cond_false (c13.trans (by rw [kq]; rfl)) ?_
          refine wp_seq_k fun K16 hK16 => ?_
          refine reg16 _ _ _ _ w.heap.size g3 true m.kd f13 ?_
          intro a16 f16 c16
          refine hK16 _ _ ?_
          refine wp_cond_false (c16.trans (by rw [kq]; rfl)) ?_
          refine wp_seq_k fun K19 hK19 => ?_
          refine reg19 _ _ _ _ w.heap.size g3 true m.kd f16 ?_
          intro a19 f19 c19
          refine hK19 _ _ ?_
          refine wp_cond_false (c19.trans (by rw [kq]; rfl)) ?_
          refine wp_seq_k fun K22 hK22 => ?_
          refine reg22 _ _ _ _ w.heap.size g3 true m.kd f19 ?_
          intro a22 f22 c22
          refine hK22 _ _ ?_
          refine wp_cond_false (c22.trans (by rw [kq]; rfl)) ?_
          refine wp_seq_k fun K25 hK25 => ?_
          refine reg25 _ _ _ _ w.heap.size g3 true m.kd f22 ?_
          intro a25 f25 c25
          refine hK25 _ _ ?_
          refine wp_cond_false (c25.trans (by rw [kq]; rfl)) ?_
          refine wp_seq_k fun K28 hK28 => ?_
          refine reg28 _ _ _ _ w.heap.size g3 true m.kd f25 ?_
          intro a28 f28 c28
          refine hK28 _ _ ?_
          refine wp_cond_false (c28.trans (by rw [kq]; rfl)) ?_
          refine wp_seq_k fun K31 hK31 => ?_
          refine reg31 _ _ _ _ w.heap.size g3 true m.kd f28 ?_
          intro a31 f31 c31
          refine hK31 _ _ ?_
          refine wp_cond_false (c31.trans (by rw [kq]; rfl)) ?_
          refine wp_seq_k fun K34 hK34 => ?_
          refine reg34 _ _ _ _ w.heap.size g3 true m.kd f31 ?_
          intro a34 f34 c34
          refine hK34 _ _ ?_
          refine wp_cond_false (c34.trans (by rw [kq]; rfl)) ?_
          refine wp_seq_k fun K37 hK37 => ?_
          refine reg37 _ _ _ _ w.heap.size g3 true m.kd f34 ?_
          intro a37 f37 c37
          refine hK37 _ _ ?_
          refine wp_cond_false (c37.trans (by rw [kq]; rfl)) ?_
          refine wp_skip ?_
          refine hKb _ _ ?_
          have HG1 := hg1
          refine wp_seq_k fun K9 hK9 => ?_
          refine reg40 _ _ _ W w.heap.size g3 #[.int .i64 m.kd, .int .i64 m.fr, .int .i64 m.fi, .int .i64 m.tw, .int .i64 m.ti, .int .i64 m.tp, .int .i64 m.ep, .int .i64 m.sq, .int .i64 m.la, .int .i64 m.va, .int .i64 m.no, .int .i64 m.ic, .int .i64 m.ct, .int .i64 m.hp, .slice pp n cp, .slice pt k ct] #[.int .i64 m.kd, .int .i64 m.fr, .int .i64 m.fi, .int .i64 m.tw, .int .i64 m.ti, .int .i64 m.tp, .int .i64 0, .int .i64 0, .int .i64 0, .int .i64 0, .int .i64 0, .int .i64 0, .int .i64 0, .int .i64 0, .slice none 0 0, .slice none 0 0] _ _ m.kd f37 HG1 hg3 rfl rfl (keepMsg_any { kd := m.kd, fr := m.fr, fi := m.fi, tw := m.tw, ti := m.ti, tp := m.tp, ep := 0, sq := 0, la := 0, va := 0, no := 0, ic := 0, ct := 0, hp := 0 } m noF noF F G (.slice none 0 0) (.slice none 0 0) (.slice pp n cp) (.slice pt k ct) 0 0 n k W (sl_nil _) (sl_nil _) (hp.below B0 (Nat.le_refl _)) (ht.below B0 (Nat.le_refl _))) ?_
          intro a9 w9 d9 v9 b9
          refine hK9 _ _ ?_
          refine wp_ret ?_
          rw [fin_6 m F G n k kq h0 h1 h2 h3 h4 h5 h6] at v9
          exact ⟨rfl, d9, v9, below_of B0 b9⟩
        · refine wp_seq_k fun K10 hK10 => ?_
          refine reg10 _ _ _ _ w.heap.size g3 true m.kd fs ?_
          intro a10 f10 c10
          refine hK10 _ _ ?_
          refine wp_cond_false (c10.trans (by rw [kq]; rfl)) ?_
          refine wp_seq_k fun K13 hK13 => ?_
          refine reg13 _ _ _ _ w.heap.size g3 true m.kd f10 ?_
          intro a13 f13 c13
          refine hK13 _ _ ?_
          refine wp_cond_false (c13.trans (by rw [kq]; rfl)) ?_
          refine wp_seq_k fun K16 hK16 => ?_
          refine reg16 _ _ _ _ w.heap.size g3 true m.kd f13 ?_
          intro a16 f16 c16
          refine hK16 _ _ ?_
          refine wp_cond_false (c16.trans (by rw [kq]; rfl)) ?_
          refine wp_seq_k fun K19 hK19 => ?_
          refine reg19 _ _ _ _ w.heap.size g3 true m.kd f16 ?_
          intro a19 f19 c19
          refine hK19 _ _ ?_
          refine wp_cond_true (c19.trans (by rw [kq]; rfl)) ?_
          refine wp_seq_k fun Kt hKt => ?_
          refine reg20 _ _ _ _ w.heap.size g3 #[.int .i64 m.kd, .int .i64 m.fr, .int .i64 m.fi, .int .i64 m.tw, .int .i64 m.ti, .int .i64 m.tp, .int .i64 m.ep, .int .i64 m.sq, .int .i64 m.la, .int .i64 m.va, .int .i64 m.no, .int .i64 m.ic, .int .i64 m.ct, .int .i64 m.hp, .slice pp n cp, .slice pt k ct] m.ep m.sq m.va true m.kd _ _ _ f19 hg1 rfl rfl rfl (fun w => in_any m.ep 1 1073741824 w) (fun w => count_any m.sq w) (fun w => value_any m.va w) ?_
          intro at1 ft
          refine hKt _ _ ?_
          refine reg21 _ _ _ W w.heap.size g3 #[.int .i64 m.kd, .int .i64 m.fr, .int .i64 m.fi, .int .i64 m.tw, .int .i64 m.ti, .int .i64 m.tp, .int .i64 m.ep, .int .i64 m.sq, .int .i64 m.la, .int .i64 m.va, .int .i64 m.no, .int .i64 m.ic, .int .i64 m.ct, .int .i64 m.hp, .slice pp n cp, .slice pt k ct] #[.int .i64 m.kd, .int .i64 m.fr, .int .i64 m.fi, .int .i64 m.tw, .int .i64 m.ti, .int .i64 m.tp, .int .i64 0, .int .i64 0, .int .i64 0, .int .i64 0, .int .i64 0, .int .i64 0, .int .i64 0, .int .i64 0, .slice none 0 0, .slice none 0 0] _ m.kd m.ep m.sq m.va ft hg1 hg3 hlt rfl rfl rfl rfl ?_
          intro ac wc fc bc hc
          refine hKb _ _ ?_
          have Bc := below_app B0 bc hle
          have HG1 := (bc.block w.heap.size hlt).trans hg1
          have hc' : wc.heap[g3]? = some (.cells #[.int .i64 m.kd, .int .i64 m.fr, .int .i64 m.fi, .int .i64 m.tw, .int .i64 m.ti, .int .i64 m.tp, .int .i64 m.ep, .int .i64 m.sq, .int .i64 0, .int .i64 m.va, .int .i64 0, .int .i64 0, .int .i64 0, .int .i64 0, .slice none 0 0, .slice none 0 0] 24) := hc
          refine wp_seq_k fun K9 hK9 => ?_
          refine reg40 _ _ _ wc w.heap.size g3 #[.int .i64 m.kd, .int .i64 m.fr, .int .i64 m.fi, .int .i64 m.tw, .int .i64 m.ti, .int .i64 m.tp, .int .i64 m.ep, .int .i64 m.sq, .int .i64 m.la, .int .i64 m.va, .int .i64 m.no, .int .i64 m.ic, .int .i64 m.ct, .int .i64 m.hp, .slice pp n cp, .slice pt k ct] #[.int .i64 m.kd, .int .i64 m.fr, .int .i64 m.fi, .int .i64 m.tw, .int .i64 m.ti, .int .i64 m.tp, .int .i64 m.ep, .int .i64 m.sq, .int .i64 0, .int .i64 m.va, .int .i64 0, .int .i64 0, .int .i64 0, .int .i64 0, .slice none 0 0, .slice none 0 0] _ _ m.kd fc HG1 hc' rfl rfl (keepMsg_any { kd := m.kd, fr := m.fr, fi := m.fi, tw := m.tw, ti := m.ti, tp := m.tp, ep := m.ep, sq := m.sq, la := 0, va := m.va, no := 0, ic := 0, ct := 0, hp := 0 } m noF noF F G (.slice none 0 0) (.slice none 0 0) (.slice pp n cp) (.slice pt k ct) 0 0 n k wc (sl_nil _) (sl_nil _) (hp.below Bc (Nat.le_refl _)) (ht.below Bc (Nat.le_refl _))) ?_
          intro a9 w9 d9 v9 b9
          refine hK9 _ _ ?_
          refine wp_ret ?_
          rw [fin_7 m F G n k kq h0 h1 h2 h3 h4 h5 h6] at v9
          exact ⟨rfl, d9, v9, below_of Bc b9⟩
        · refine wp_seq_k fun K10 hK10 => ?_
          refine reg10 _ _ _ _ w.heap.size g3 true m.kd fs ?_
          intro a10 f10 c10
          refine hK10 _ _ ?_
          refine wp_cond_false (c10.trans (by rw [kq]; rfl)) ?_
          refine wp_seq_k fun K13 hK13 => ?_
          refine reg13 _ _ _ _ w.heap.size g3 true m.kd f10 ?_
          intro a13 f13 c13
          refine hK13 _ _ ?_
          refine wp_cond_false (c13.trans (by rw [kq]; rfl)) ?_
          refine wp_seq_k fun K16 hK16 => ?_
          refine reg16 _ _ _ _ w.heap.size g3 true m.kd f13 ?_
          intro a16 f16 c16
          refine hK16 _ _ ?_
          refine wp_cond_false (c16.trans (by rw [kq]; rfl)) ?_
          refine wp_seq_k fun K19 hK19 => ?_
          refine reg19 _ _ _ _ w.heap.size g3 true m.kd f16 ?_
          intro a19 f19 c19
          refine hK19 _ _ ?_
          refine wp_cond_false (c19.trans (by rw [kq]; rfl)) ?_
          refine wp_seq_k fun K22 hK22 => ?_
          refine reg22 _ _ _ _ w.heap.size g3 true m.kd f19 ?_
          intro a22 f22 c22
          refine hK22 _ _ ?_
          refine wp_cond_true (c22.trans (by rw [kq]; rfl)) ?_
          refine wp_seq_k fun Kt hKt => ?_
          refine reg23 _ _ _ _ w.heap.size g3 #[.int .i64 m.kd, .int .i64 m.fr, .int .i64 m.fi, .int .i64 m.tw, .int .i64 m.ti, .int .i64 m.tp, .int .i64 m.ep, .int .i64 m.sq, .int .i64 m.la, .int .i64 m.va, .int .i64 m.no, .int .i64 m.ic, .int .i64 m.ct, .int .i64 m.hp, .slice pp n cp, .slice pt k ct] m.ep m.sq true m.kd _ _ f22 hg1 rfl rfl (fun w => in_any m.ep 1 1073741824 w) (fun w => count_any m.sq w) ?_
          intro at1 ft
          refine hKt _ _ ?_
          refine reg24 _ _ _ W w.heap.size g3 #[.int .i64 m.kd, .int .i64 m.fr, .int .i64 m.fi, .int .i64 m.tw, .int .i64 m.ti, .int .i64 m.tp, .int .i64 m.ep, .int .i64 m.sq, .int .i64 m.la, .int .i64 m.va, .int .i64 m.no, .int .i64 m.ic, .int .i64 m.ct, .int .i64 m.hp, .slice pp n cp, .slice pt k ct] #[.int .i64 m.kd, .int .i64 m.fr, .int .i64 m.fi, .int .i64 m.tw, .int .i64 m.ti, .int .i64 m.tp, .int .i64 0, .int .i64 0, .int .i64 0, .int .i64 0, .int .i64 0, .int .i64 0, .int .i64 0, .int .i64 0, .slice none 0 0, .slice none 0 0] _ m.kd m.ep m.sq ft hg1 hg3 hlt rfl rfl rfl ?_
          intro ac wc fc bc hc
          refine hKb _ _ ?_
          have Bc := below_app B0 bc hle
          have HG1 := (bc.block w.heap.size hlt).trans hg1
          have hc' : wc.heap[g3]? = some (.cells #[.int .i64 m.kd, .int .i64 m.fr, .int .i64 m.fi, .int .i64 m.tw, .int .i64 m.ti, .int .i64 m.tp, .int .i64 m.ep, .int .i64 m.sq, .int .i64 0, .int .i64 0, .int .i64 0, .int .i64 0, .int .i64 0, .int .i64 0, .slice none 0 0, .slice none 0 0] 24) := hc
          refine wp_seq_k fun K9 hK9 => ?_
          refine reg40 _ _ _ wc w.heap.size g3 #[.int .i64 m.kd, .int .i64 m.fr, .int .i64 m.fi, .int .i64 m.tw, .int .i64 m.ti, .int .i64 m.tp, .int .i64 m.ep, .int .i64 m.sq, .int .i64 m.la, .int .i64 m.va, .int .i64 m.no, .int .i64 m.ic, .int .i64 m.ct, .int .i64 m.hp, .slice pp n cp, .slice pt k ct] #[.int .i64 m.kd, .int .i64 m.fr, .int .i64 m.fi, .int .i64 m.tw, .int .i64 m.ti, .int .i64 m.tp, .int .i64 m.ep, .int .i64 m.sq, .int .i64 0, .int .i64 0, .int .i64 0, .int .i64 0, .int .i64 0, .int .i64 0, .slice none 0 0, .slice none 0 0] _ _ m.kd fc HG1 hc' rfl rfl (keepMsg_any { kd := m.kd, fr := m.fr, fi := m.fi, tw := m.tw, ti := m.ti, tp := m.tp, ep := m.ep, sq := m.sq, la := 0, va := 0, no := 0, ic := 0, ct := 0, hp := 0 } m noF noF F G (.slice none 0 0) (.slice none 0 0) (.slice pp n cp) (.slice pt k ct) 0 0 n k wc (sl_nil _) (sl_nil _) (hp.below Bc (Nat.le_refl _)) (ht.below Bc (Nat.le_refl _))) ?_
          intro a9 w9 d9 v9 b9
          refine hK9 _ _ ?_
          refine wp_ret ?_
          rw [fin_8 m F G n k kq h0 h1 h2 h3 h4 h5 h6] at v9
          exact ⟨rfl, d9, v9, below_of Bc b9⟩
        · refine wp_seq_k fun K10 hK10 => ?_
          refine reg10 _ _ _ _ w.heap.size g3 true m.kd fs ?_
          intro a10 f10 c10
          refine hK10 _ _ ?_
          refine wp_cond_false (c10.trans (by rw [kq]; rfl)) ?_
          refine wp_seq_k fun K13 hK13 => ?_
          refine reg13 _ _ _ _ w.heap.size g3 true m.kd f10 ?_
          intro a13 f13 c13
          refine hK13 _ _ ?_
          refine wp_cond_false (c13.trans (by rw [kq]; rfl)) ?_
          refine wp_seq_k fun K16 hK16 => ?_
          refine reg16 _ _ _ _ w.heap.size g3 true m.kd f13 ?_
          intro a16 f16 c16
          refine hK16 _ _ ?_
          refine wp_cond_false (c16.trans (by rw [kq]; rfl)) ?_
          refine wp_seq_k fun K19 hK19 => ?_
          refine reg19 _ _ _ _ w.heap.size g3 true m.kd f16 ?_
          intro a19 f19 c19
          refine hK19 _ _ ?_
          refine wp_cond_false (c19.trans (by rw [kq]; rfl)) ?_
          refine wp_seq_k fun K22 hK22 => ?_
          refine reg22 _ _ _ _ w.heap.size g3 true m.kd f19 ?_
          intro a22 f22 c22
          refine hK22 _ _ ?_
          refine wp_cond_false (c22.trans (by rw [kq]; rfl)) ?_
          refine wp_seq_k fun K25 hK25 => ?_
          refine reg25 _ _ _ _ w.heap.size g3 true m.kd f22 ?_
          intro a25 f25 c25
          refine hK25 _ _ ?_
          refine wp_cond_true (c25.trans (by rw [kq]; rfl)) ?_
          refine wp_seq_k fun Kt hKt => ?_
          refine reg26 _ _ _ _ w.heap.size g3 #[.int .i64 m.kd, .int .i64 m.fr, .int .i64 m.fi, .int .i64 m.tw, .int .i64 m.ti, .int .i64 m.tp, .int .i64 m.ep, .int .i64 m.sq, .int .i64 m.la, .int .i64 m.va, .int .i64 m.no, .int .i64 m.ic, .int .i64 m.ct, .int .i64 m.hp, .slice pp n cp, .slice pt k ct] m.ep m.la m.sq true m.kd _ _ _ f25 hg1 rfl rfl rfl (fun w => in_any m.ep 1 1073741824 w) (fun w => count_any m.sq w) (fun w => in_any m.la m.sq 1073741824 w) ?_
          intro at1 ft
          refine hKt _ _ ?_
          refine reg27 _ _ _ W w.heap.size g3 #[.int .i64 m.kd, .int .i64 m.fr, .int .i64 m.fi, .int .i64 m.tw, .int .i64 m.ti, .int .i64 m.tp, .int .i64 m.ep, .int .i64 m.sq, .int .i64 m.la, .int .i64 m.va, .int .i64 m.no, .int .i64 m.ic, .int .i64 m.ct, .int .i64 m.hp, .slice pp n cp, .slice pt k ct] #[.int .i64 m.kd, .int .i64 m.fr, .int .i64 m.fi, .int .i64 m.tw, .int .i64 m.ti, .int .i64 m.tp, .int .i64 0, .int .i64 0, .int .i64 0, .int .i64 0, .int .i64 0, .int .i64 0, .int .i64 0, .int .i64 0, .slice none 0 0, .slice none 0 0] _ m.kd m.ep m.sq m.la ft hg1 hg3 hlt rfl rfl rfl rfl ?_
          intro ac wc fc bc hc
          refine hKb _ _ ?_
          have Bc := below_app B0 bc hle
          have HG1 := (bc.block w.heap.size hlt).trans hg1
          have hc' : wc.heap[g3]? = some (.cells #[.int .i64 m.kd, .int .i64 m.fr, .int .i64 m.fi, .int .i64 m.tw, .int .i64 m.ti, .int .i64 m.tp, .int .i64 m.ep, .int .i64 m.sq, .int .i64 m.la, .int .i64 0, .int .i64 0, .int .i64 0, .int .i64 0, .int .i64 0, .slice none 0 0, .slice none 0 0] 24) := hc
          refine wp_seq_k fun K9 hK9 => ?_
          refine reg40 _ _ _ wc w.heap.size g3 #[.int .i64 m.kd, .int .i64 m.fr, .int .i64 m.fi, .int .i64 m.tw, .int .i64 m.ti, .int .i64 m.tp, .int .i64 m.ep, .int .i64 m.sq, .int .i64 m.la, .int .i64 m.va, .int .i64 m.no, .int .i64 m.ic, .int .i64 m.ct, .int .i64 m.hp, .slice pp n cp, .slice pt k ct] #[.int .i64 m.kd, .int .i64 m.fr, .int .i64 m.fi, .int .i64 m.tw, .int .i64 m.ti, .int .i64 m.tp, .int .i64 m.ep, .int .i64 m.sq, .int .i64 m.la, .int .i64 0, .int .i64 0, .int .i64 0, .int .i64 0, .int .i64 0, .slice none 0 0, .slice none 0 0] _ _ m.kd fc HG1 hc' rfl rfl (keepMsg_any { kd := m.kd, fr := m.fr, fi := m.fi, tw := m.tw, ti := m.ti, tp := m.tp, ep := m.ep, sq := m.sq, la := m.la, va := 0, no := 0, ic := 0, ct := 0, hp := 0 } m noF noF F G (.slice none 0 0) (.slice none 0 0) (.slice pp n cp) (.slice pt k ct) 0 0 n k wc (sl_nil _) (sl_nil _) (hp.below Bc (Nat.le_refl _)) (ht.below Bc (Nat.le_refl _))) ?_
          intro a9 w9 d9 v9 b9
          refine hK9 _ _ ?_
          refine wp_ret ?_
          rw [fin_9 m F G n k kq h0 h1 h2 h3 h4 h5 h6] at v9
          exact ⟨rfl, d9, v9, below_of Bc b9⟩
        · refine wp_seq_k fun K10 hK10 => ?_
          refine reg10 _ _ _ _ w.heap.size g3 true m.kd fs ?_
          intro a10 f10 c10
          refine hK10 _ _ ?_
          refine wp_cond_false (c10.trans (by rw [kq]; rfl)) ?_
          refine wp_seq_k fun K13 hK13 => ?_
          refine reg13 _ _ _ _ w.heap.size g3 true m.kd f10 ?_
          intro a13 f13 c13
          refine hK13 _ _ ?_
          refine wp_cond_false (c13.trans (by rw [kq]; rfl)) ?_
          refine wp_seq_k fun K16 hK16 => ?_
          refine reg16 _ _ _ _ w.heap.size g3 true m.kd f13 ?_
          intro a16 f16 c16
          refine hK16 _ _ ?_
          refine wp_cond_false (c16.trans (by rw [kq]; rfl)) ?_
          refine wp_seq_k fun K19 hK19 => ?_
          refine reg19 _ _ _ _ w.heap.size g3 true m.kd f16 ?_
          intro a19 f19 c19
          refine hK19 _ _ ?_
          refine wp_cond_false (c19.trans (by rw [kq]; rfl)) ?_
          refine wp_seq_k fun K22 hK22 => ?_
          refine reg22 _ _ _ _ w.heap.size g3 true m.kd f19 ?_
          intro a22 f22 c22
          refine hK22 _ _ ?_
          refine wp_cond_false (c22.trans (by rw [kq]; rfl)) ?_
          refine wp_seq_k fun K25 hK25 => ?_
          refine reg25 _ _ _ _ w.heap.size g3 true m.kd f22 ?_
          intro a25 f25 c25
          refine hK25 _ _ ?_
          refine wp_cond_false (c25.trans (by rw [kq]; rfl)) ?_
          refine wp_seq_k fun K28 hK28 => ?_
          refine reg28 _ _ _ _ w.heap.size g3 true m.kd f25 ?_
          intro a28 f28 c28
          refine hK28 _ _ ?_
          refine wp_cond_true (c28.trans (by rw [kq]; rfl)) ?_
          refine wp_seq_k fun Kt hKt => ?_
          refine reg29 _ _ _ _ w.heap.size g3 #[.int .i64 m.kd, .int .i64 m.fr, .int .i64 m.fi, .int .i64 m.tw, .int .i64 m.ti, .int .i64 m.tp, .int .i64 m.ep, .int .i64 m.sq, .int .i64 m.la, .int .i64 m.va, .int .i64 m.no, .int .i64 m.ic, .int .i64 m.ct, .int .i64 m.hp, .slice pp n cp, .slice pt k ct] m.ct m.hp m.ic m.no m.va true m.kd _ _ _ _ _ f28 hg1 rfl rfl rfl rfl rfl (fun w => isNode_any m.no w) (fun w => count_any m.ic w) (fun w => count_any m.ct w) (fun w => value_any m.va w) (fun w => in_any m.hp 0 16 w) ?_
          intro at1 ft
          refine hKt _ _ ?_
          refine reg30 _ _ _ W w.heap.size g3 #[.int .i64 m.kd, .int .i64 m.fr, .int .i64 m.fi, .int .i64 m.tw, .int .i64 m.ti, .int .i64 m.tp, .int .i64 m.ep, .int .i64 m.sq, .int .i64 m.la, .int .i64 m.va, .int .i64 m.no, .int .i64 m.ic, .int .i64 m.ct, .int .i64 m.hp, .slice pp n cp, .slice pt k ct] #[.int .i64 m.kd, .int .i64 m.fr, .int .i64 m.fi, .int .i64 m.tw, .int .i64 m.ti, .int .i64 m.tp, .int .i64 0, .int .i64 0, .int .i64 0, .int .i64 0, .int .i64 0, .int .i64 0, .int .i64 0, .int .i64 0, .slice none 0 0, .slice none 0 0] _ m.kd m.no m.ic m.ct m.va m.hp ft hg1 hg3 hlt rfl rfl rfl rfl rfl rfl ?_
          intro ac wc fc bc hc
          refine hKb _ _ ?_
          have Bc := below_app B0 bc hle
          have HG1 := (bc.block w.heap.size hlt).trans hg1
          have hc' : wc.heap[g3]? = some (.cells #[.int .i64 m.kd, .int .i64 m.fr, .int .i64 m.fi, .int .i64 m.tw, .int .i64 m.ti, .int .i64 m.tp, .int .i64 0, .int .i64 0, .int .i64 0, .int .i64 m.va, .int .i64 m.no, .int .i64 m.ic, .int .i64 m.ct, .int .i64 m.hp, .slice none 0 0, .slice none 0 0] 24) := hc
          refine wp_seq_k fun K9 hK9 => ?_
          refine reg40 _ _ _ wc w.heap.size g3 #[.int .i64 m.kd, .int .i64 m.fr, .int .i64 m.fi, .int .i64 m.tw, .int .i64 m.ti, .int .i64 m.tp, .int .i64 m.ep, .int .i64 m.sq, .int .i64 m.la, .int .i64 m.va, .int .i64 m.no, .int .i64 m.ic, .int .i64 m.ct, .int .i64 m.hp, .slice pp n cp, .slice pt k ct] #[.int .i64 m.kd, .int .i64 m.fr, .int .i64 m.fi, .int .i64 m.tw, .int .i64 m.ti, .int .i64 m.tp, .int .i64 0, .int .i64 0, .int .i64 0, .int .i64 m.va, .int .i64 m.no, .int .i64 m.ic, .int .i64 m.ct, .int .i64 m.hp, .slice none 0 0, .slice none 0 0] _ _ m.kd fc HG1 hc' rfl rfl (keepMsg_any { kd := m.kd, fr := m.fr, fi := m.fi, tw := m.tw, ti := m.ti, tp := m.tp, ep := 0, sq := 0, la := 0, va := m.va, no := m.no, ic := m.ic, ct := m.ct, hp := m.hp } m noF noF F G (.slice none 0 0) (.slice none 0 0) (.slice pp n cp) (.slice pt k ct) 0 0 n k wc (sl_nil _) (sl_nil _) (hp.below Bc (Nat.le_refl _)) (ht.below Bc (Nat.le_refl _))) ?_
          intro a9 w9 d9 v9 b9
          refine hK9 _ _ ?_
          refine wp_ret ?_
          rw [fin_10 m F G n k kq h0 h1 h2 h3 h4 h5 h6] at v9
          exact ⟨rfl, d9, v9, below_of Bc b9⟩
        · refine wp_seq_k fun K10 hK10 => ?_
          refine reg10 _ _ _ _ w.heap.size g3 true m.kd fs ?_
          intro a10 f10 c10
          refine hK10 _ _ ?_
          refine wp_cond_false (c10.trans (by rw [kq]; rfl)) ?_
          refine wp_seq_k fun K13 hK13 => ?_
          refine reg13 _ _ _ _ w.heap.size g3 true m.kd f10 ?_
          intro a13 f13 c13
          refine hK13 _ _ ?_
          refine wp_cond_false (c13.trans (by rw [kq]; rfl)) ?_
          refine wp_seq_k fun K16 hK16 => ?_
          refine reg16 _ _ _ _ w.heap.size g3 true m.kd f13 ?_
          intro a16 f16 c16
          refine hK16 _ _ ?_
          refine wp_cond_false (c16.trans (by rw [kq]; rfl)) ?_
          refine wp_seq_k fun K19 hK19 => ?_
          refine reg19 _ _ _ _ w.heap.size g3 true m.kd f16 ?_
          intro a19 f19 c19
          refine hK19 _ _ ?_
          refine wp_cond_false (c19.trans (by rw [kq]; rfl)) ?_
          refine wp_seq_k fun K22 hK22 => ?_
          refine reg22 _ _ _ _ w.heap.size g3 true m.kd f19 ?_
          intro a22 f22 c22
          refine hK22 _ _ ?_
          refine wp_cond_false (c22.trans (by rw [kq]; rfl)) ?_
          refine wp_seq_k fun K25 hK25 => ?_
          refine reg25 _ _ _ _ w.heap.size g3 true m.kd f22 ?_
          intro a25 f25 c25
          refine hK25 _ _ ?_
          refine wp_cond_false (c25.trans (by rw [kq]; rfl)) ?_
          refine wp_seq_k fun K28 hK28 => ?_
          refine reg28 _ _ _ _ w.heap.size g3 true m.kd f25 ?_
          intro a28 f28 c28
          refine hK28 _ _ ?_
          refine wp_cond_false (c28.trans (by rw [kq]; rfl)) ?_
          refine wp_seq_k fun K31 hK31 => ?_
          refine reg31 _ _ _ _ w.heap.size g3 true m.kd f28 ?_
          intro a31 f31 c31
          refine hK31 _ _ ?_
          refine wp_cond_true (c31.trans (by rw [kq]; rfl)) ?_
          refine wp_seq_k fun Kt hKt => ?_
          refine reg32 _ _ _ _ w.heap.size #[.int .i64 m.kd, .int .i64 m.fr, .int .i64 m.fi, .int .i64 m.tw, .int .i64 m.ti, .int .i64 m.tp, .int .i64 m.ep, .int .i64 m.sq, .int .i64 m.la, .int .i64 m.va, .int .i64 m.no, .int .i64 m.ic, .int .i64 m.ct, .int .i64 m.hp, .slice pp n cp, .slice pt k ct] m.no m.ic m.ct m.va m.hp pp n cp pt k ct F G _ _ _ _ _ _ _ f31.fa.sz f31.fa.e1 hg1 rfl rfl rfl rfl rfl rfl rfl (hp.below B0 (Nat.le_refl _)) (ht.below B0 (Nat.le_refl _)) hn hk (calls_b (fun w => isNode_any m.no w)) (calls_b (fun w => count_any m.ic w)) (calls_b (fun w => in_any m.ct 1 40 w)) (calls_b (fun w => value_any m.va w)) (calls_b (fun w => in_any m.hp 0 16 w)) (fun w1 b1 => nodes_b F _ n w1 ((hp.below B0 (Nat.le_refl _)).below b1 (Nat.le_refl _))) (fun w1 b1 => nodes_b G _ k w1 ((ht.below B0 (Nat.le_refl _)).below b1 (Nat.le_refl _))) ?_
          intro at1 wt s1 s2 s3 s4 s5 s6 bt
          have ft : Fr at1 w.heap.size g3 _ m.kd := ⟨⟨s1, s5.trans f31.fa.df, s2.trans f31.fa.e1, s3.trans f31.fa.e3⟩, s6, s4.trans f31.ek⟩
          refine hKt _ _ ?_
          have Bt := below_of B0 bt
          have hg1t := (bt.block w.heap.size L1).trans hg1
          have hg3t := (bt.block g3 L3).trans hg3
          refine reg33 _ _ _ wt w.heap.size g3 #[.int .i64 m.kd, .int .i64 m.fr, .int .i64 m.fi, .int .i64 m.tw, .int .i64 m.ti, .int .i64 m.tp, .int .i64 m.ep, .int .i64 m.sq, .int .i64 m.la, .int .i64 m.va, .int .i64 m.no, .int .i64 m.ic, .int .i64 m.ct, .int .i64 m.hp, .slice pp n cp, .slice pt k ct] #[.int .i64 m.kd, .int .i64 m.fr, .int .i64 m.fi, .int .i64 m.tw, .int .i64 m.ti, .int .i64 m.tp, .int .i64 0, .int .i64 0, .int .i64 0, .int .i64 0, .int .i64 0, .int .i64 0, .int .i64 0, .int .i64 0, .slice none 0 0, .slice none 0 0] _ m.kd m.no m.ic m.ct m.va m.hp pp n cp pt k ct ft hg1t hg3t hlt rfl rfl rfl rfl rfl rfl rfl rfl ?_
          intro ac wc fc bc hc
          refine hKb _ _ ?_
          have Bc := below_app Bt bc hle
          have HG1 := (bc.block w.heap.size hlt).trans hg1t
          have hc' : wc.heap[g3]? = some (.cells #[.int .i64 m.kd, .int .i64 m.fr, .int .i64 m.fi, .int .i64 m.tw, .int .i64 m.ti, .int .i64 m.tp, .int .i64 0, .int .i64 0, .int .i64 0, .int .i64 m.va, .int .i64 m.no, .int .i64 m.ic, .int .i64 m.ct, .int .i64 m.hp, .slice pp n cp, .slice pt k ct] 24) := hc
          refine wp_seq_k fun K9 hK9 => ?_
          refine reg40 _ _ _ wc w.heap.size g3 #[.int .i64 m.kd, .int .i64 m.fr, .int .i64 m.fi, .int .i64 m.tw, .int .i64 m.ti, .int .i64 m.tp, .int .i64 m.ep, .int .i64 m.sq, .int .i64 m.la, .int .i64 m.va, .int .i64 m.no, .int .i64 m.ic, .int .i64 m.ct, .int .i64 m.hp, .slice pp n cp, .slice pt k ct] #[.int .i64 m.kd, .int .i64 m.fr, .int .i64 m.fi, .int .i64 m.tw, .int .i64 m.ti, .int .i64 m.tp, .int .i64 0, .int .i64 0, .int .i64 0, .int .i64 m.va, .int .i64 m.no, .int .i64 m.ic, .int .i64 m.ct, .int .i64 m.hp, .slice pp n cp, .slice pt k ct] _ _ m.kd fc HG1 hc' rfl rfl (keepMsg_any { kd := m.kd, fr := m.fr, fi := m.fi, tw := m.tw, ti := m.ti, tp := m.tp, ep := 0, sq := 0, la := 0, va := m.va, no := m.no, ic := m.ic, ct := m.ct, hp := m.hp } m F G F G (.slice pp n cp) (.slice pt k ct) (.slice pp n cp) (.slice pt k ct) n k n k wc (hp.below Bc (Nat.le_refl _)) (ht.below Bc (Nat.le_refl _)) (hp.below Bc (Nat.le_refl _)) (ht.below Bc (Nat.le_refl _))) ?_
          intro a9 w9 d9 v9 b9
          refine hK9 _ _ ?_
          refine wp_ret ?_
          rw [fin_11 m F G n k kq h0 h1 h2 h3 h4 h5 h6] at v9
          exact ⟨rfl, d9, v9, below_of Bc b9⟩
        · refine wp_seq_k fun K10 hK10 => ?_
          refine reg10 _ _ _ _ w.heap.size g3 true m.kd fs ?_
          intro a10 f10 c10
          refine hK10 _ _ ?_
          refine wp_cond_false (c10.trans (by rw [kq]; rfl)) ?_
          refine wp_seq_k fun K13 hK13 => ?_
          refine reg13 _ _ _ _ w.heap.size g3 true m.kd f10 ?_
          intro a13 f13 c13
          refine hK13 _ _ ?_
          refine wp_cond_false (c13.trans (by rw [kq]; rfl)) ?_
          refine wp_seq_k fun K16 hK16 => ?_
          refine reg16 _ _ _ _ w.heap.size g3 true m.kd f13 ?_
          intro a16 f16 c16
          refine hK16 _ _ ?_
          refine wp_cond_false (c16.trans (by rw [kq]; rfl)) ?_
          refine wp_seq_k fun K19 hK19 => ?_
          refine reg19 _ _ _ _ w.heap.size g3 true m.kd f16 ?_
          intro a19 f19 c19
          refine hK19 _ _ ?_
          refine wp_cond_false (c19.trans (by rw [kq]; rfl)) ?_
          refine wp_seq_k fun K22 hK22 => ?_
          refine reg22 _ _ _ _ w.heap.size g3 true m.kd f19 ?_
          intro a22 f22 c22
          refine hK22 _ _ ?_
          refine wp_cond_false (c22.trans (by rw [kq]; rfl)) ?_
          refine wp_seq_k fun K25 hK25 => ?_
          refine reg25 _ _ _ _ w.heap.size g3 true m.kd f22 ?_
          intro a25 f25 c25
          refine hK25 _ _ ?_
          refine wp_cond_false (c25.trans (by rw [kq]; rfl)) ?_
          refine wp_seq_k fun K28 hK28 => ?_
          refine reg28 _ _ _ _ w.heap.size g3 true m.kd f25 ?_
          intro a28 f28 c28
          refine hK28 _ _ ?_
          refine wp_cond_false (c28.trans (by rw [kq]; rfl)) ?_
          refine wp_seq_k fun K31 hK31 => ?_
          refine reg31 _ _ _ _ w.heap.size g3 true m.kd f28 ?_
          intro a31 f31 c31
          refine hK31 _ _ ?_
          refine wp_cond_false (c31.trans (by rw [kq]; rfl)) ?_
          refine wp_seq_k fun K34 hK34 => ?_
          refine reg34 _ _ _ _ w.heap.size g3 true m.kd f31 ?_
          intro a34 f34 c34
          refine hK34 _ _ ?_
          refine wp_cond_true (c34.trans (by rw [kq]; rfl)) ?_
          refine wp_seq_k fun Kt hKt => ?_
          refine reg35 _ _ _ _ w.heap.size g3 #[.int .i64 m.kd, .int .i64 m.fr, .int .i64 m.fi, .int .i64 m.tw, .int .i64 m.ti, .int .i64 m.tp, .int .i64 m.ep, .int .i64 m.sq, .int .i64 m.la, .int .i64 m.va, .int .i64 m.no, .int .i64 m.ic, .int .i64 m.ct, .int .i64 m.hp, .slice pp n cp, .slice pt k ct] m.ct m.va true m.kd _ _ f34 hg1 rfl rfl (fun w => in_any m.ct 1 40 w) (fun w => isNode_any m.va w) ?_
          intro at1 ft
          refine hKt _ _ ?_
          refine reg36 _ _ _ W w.heap.size g3 #[.int .i64 m.kd, .int .i64 m.fr, .int .i64 m.fi, .int .i64 m.tw, .int .i64 m.ti, .int .i64 m.tp, .int .i64 m.ep, .int .i64 m.sq, .int .i64 m.la, .int .i64 m.va, .int .i64 m.no, .int .i64 m.ic, .int .i64 m.ct, .int .i64 m.hp, .slice pp n cp, .slice pt k ct] #[.int .i64 m.kd, .int .i64 m.fr, .int .i64 m.fi, .int .i64 m.tw, .int .i64 m.ti, .int .i64 m.tp, .int .i64 0, .int .i64 0, .int .i64 0, .int .i64 0, .int .i64 0, .int .i64 0, .int .i64 0, .int .i64 0, .slice none 0 0, .slice none 0 0] _ m.kd m.ct m.va ft hg1 hg3 hlt rfl rfl rfl ?_
          intro ac wc fc bc hc
          refine hKb _ _ ?_
          have Bc := below_app B0 bc hle
          have HG1 := (bc.block w.heap.size hlt).trans hg1
          have hc' : wc.heap[g3]? = some (.cells #[.int .i64 m.kd, .int .i64 m.fr, .int .i64 m.fi, .int .i64 m.tw, .int .i64 m.ti, .int .i64 m.tp, .int .i64 0, .int .i64 0, .int .i64 0, .int .i64 m.va, .int .i64 0, .int .i64 0, .int .i64 m.ct, .int .i64 0, .slice none 0 0, .slice none 0 0] 24) := hc
          refine wp_seq_k fun K9 hK9 => ?_
          refine reg40 _ _ _ wc w.heap.size g3 #[.int .i64 m.kd, .int .i64 m.fr, .int .i64 m.fi, .int .i64 m.tw, .int .i64 m.ti, .int .i64 m.tp, .int .i64 m.ep, .int .i64 m.sq, .int .i64 m.la, .int .i64 m.va, .int .i64 m.no, .int .i64 m.ic, .int .i64 m.ct, .int .i64 m.hp, .slice pp n cp, .slice pt k ct] #[.int .i64 m.kd, .int .i64 m.fr, .int .i64 m.fi, .int .i64 m.tw, .int .i64 m.ti, .int .i64 m.tp, .int .i64 0, .int .i64 0, .int .i64 0, .int .i64 m.va, .int .i64 0, .int .i64 0, .int .i64 m.ct, .int .i64 0, .slice none 0 0, .slice none 0 0] _ _ m.kd fc HG1 hc' rfl rfl (keepMsg_any { kd := m.kd, fr := m.fr, fi := m.fi, tw := m.tw, ti := m.ti, tp := m.tp, ep := 0, sq := 0, la := 0, va := m.va, no := 0, ic := 0, ct := m.ct, hp := 0 } m noF noF F G (.slice none 0 0) (.slice none 0 0) (.slice pp n cp) (.slice pt k ct) 0 0 n k wc (sl_nil _) (sl_nil _) (hp.below Bc (Nat.le_refl _)) (ht.below Bc (Nat.le_refl _))) ?_
          intro a9 w9 d9 v9 b9
          refine hK9 _ _ ?_
          refine wp_ret ?_
          rw [fin_12 m F G n k kq h0 h1 h2 h3 h4 h5 h6] at v9
          exact ⟨rfl, d9, v9, below_of Bc b9⟩
        · refine wp_seq_k fun K10 hK10 => ?_
          refine reg10 _ _ _ _ w.heap.size g3 true m.kd fs ?_
          intro a10 f10 c10
          refine hK10 _ _ ?_
          refine wp_cond_false (c10.trans (by rw [kq]; rfl)) ?_
          refine wp_seq_k fun K13 hK13 => ?_
          refine reg13 _ _ _ _ w.heap.size g3 true m.kd f10 ?_
          intro a13 f13 c13
          refine hK13 _ _ ?_
          refine wp_cond_false (c13.trans (by rw [kq]; rfl)) ?_
          refine wp_seq_k fun K16 hK16 => ?_
          refine reg16 _ _ _ _ w.heap.size g3 true m.kd f13 ?_
          intro a16 f16 c16
          refine hK16 _ _ ?_
          refine wp_cond_false (c16.trans (by rw [kq]; rfl)) ?_
          refine wp_seq_k fun K19 hK19 => ?_
          refine reg19 _ _ _ _ w.heap.size g3 true m.kd f16 ?_
          intro a19 f19 c19
          refine hK19 _ _ ?_
          refine wp_cond_false (c19.trans (by rw [kq]; rfl)) ?_
          refine wp_seq_k fun K22 hK22 => ?_
          refine reg22 _ _ _ _ w.heap.size g3 true m.kd f19 ?_
          intro a22 f22 c22
          refine hK22 _ _ ?_
          refine wp_cond_false (c22.trans (by rw [kq]; rfl)) ?_
          refine wp_seq_k fun K25 hK25 => ?_
          refine reg25 _ _ _ _ w.heap.size g3 true m.kd f22 ?_
          intro a25 f25 c25
          refine hK25 _ _ ?_
          refine wp_cond_false (c25.trans (by rw [kq]; rfl)) ?_
          refine wp_seq_k fun K28 hK28 => ?_
          refine reg28 _ _ _ _ w.heap.size g3 true m.kd f25 ?_
          intro a28 f28 c28
          refine hK28 _ _ ?_
          refine wp_cond_false (c28.trans (by rw [kq]; rfl)) ?_
          refine wp_seq_k fun K31 hK31 => ?_
          refine reg31 _ _ _ _ w.heap.size g3 true m.kd f28 ?_
          intro a31 f31 c31
          refine hK31 _ _ ?_
          refine wp_cond_false (c31.trans (by rw [kq]; rfl)) ?_
          refine wp_seq_k fun K34 hK34 => ?_
          refine reg34 _ _ _ _ w.heap.size g3 true m.kd f31 ?_
          intro a34 f34 c34
          refine hK34 _ _ ?_
          refine wp_cond_false (c34.trans (by rw [kq]; rfl)) ?_
          refine wp_seq_k fun K37 hK37 => ?_
          refine reg37 _ _ _ _ w.heap.size g3 true m.kd f34 ?_
          intro a37 f37 c37
          refine hK37 _ _ ?_
          refine wp_cond_true (c37.trans (by rw [kq]; rfl)) ?_
          refine wp_seq_k fun Kt hKt => ?_
          refine reg38 _ _ _ _ w.heap.size g3 #[.int .i64 m.kd, .int .i64 m.fr, .int .i64 m.fi, .int .i64 m.tw, .int .i64 m.ti, .int .i64 m.tp, .int .i64 m.ep, .int .i64 m.sq, .int .i64 m.la, .int .i64 m.va, .int .i64 m.no, .int .i64 m.ic, .int .i64 m.ct, .int .i64 m.hp, .slice pp n cp, .slice pt k ct] m.ct true m.kd _ f37 hg1 rfl (fun w => in_any m.ct 1 40 w) ?_
          intro at1 ft
          refine hKt _ _ ?_
          refine reg39 _ _ _ W w.heap.size g3 #[.int .i64 m.kd, .int .i64 m.fr, .int .i64 m.fi, .int .i64 m.tw, .int .i64 m.ti, .int .i64 m.tp, .int .i64 m.ep, .int .i64 m.sq, .int .i64 m.la, .int .i64 m.va, .int .i64 m.no, .int .i64 m.ic, .int .i64 m.ct, .int .i64 m.hp, .slice pp n cp, .slice pt k ct] m.ct #[.int .i64 m.kd, .int .i64 m.fr, .int .i64 m.fi, .int .i64 m.tw, .int .i64 m.ti, .int .i64 m.tp, .int .i64 0, .int .i64 0, .int .i64 0, .int .i64 0, .int .i64 0, .int .i64 0, .int .i64 0, .int .i64 0, .slice none 0 0, .slice none 0 0] _ m.kd ft hg3 rfl hg1 rfl ?_
          intro ac wc fc bc hc
          refine hKb _ _ ?_
          have Bc := below_app B0 bc hle
          have HG1 := (bc.block w.heap.size hlt).trans hg1
          have hc' : wc.heap[g3]? = some (.cells #[.int .i64 m.kd, .int .i64 m.fr, .int .i64 m.fi, .int .i64 m.tw, .int .i64 m.ti, .int .i64 m.tp, .int .i64 0, .int .i64 0, .int .i64 0, .int .i64 0, .int .i64 0, .int .i64 0, .int .i64 m.ct, .int .i64 0, .slice none 0 0, .slice none 0 0] 24) := hc
          refine wp_seq_k fun K9 hK9 => ?_
          refine reg40 _ _ _ wc w.heap.size g3 #[.int .i64 m.kd, .int .i64 m.fr, .int .i64 m.fi, .int .i64 m.tw, .int .i64 m.ti, .int .i64 m.tp, .int .i64 m.ep, .int .i64 m.sq, .int .i64 m.la, .int .i64 m.va, .int .i64 m.no, .int .i64 m.ic, .int .i64 m.ct, .int .i64 m.hp, .slice pp n cp, .slice pt k ct] #[.int .i64 m.kd, .int .i64 m.fr, .int .i64 m.fi, .int .i64 m.tw, .int .i64 m.ti, .int .i64 m.tp, .int .i64 0, .int .i64 0, .int .i64 0, .int .i64 0, .int .i64 0, .int .i64 0, .int .i64 m.ct, .int .i64 0, .slice none 0 0, .slice none 0 0] _ _ m.kd fc HG1 hc' rfl rfl (keepMsg_any { kd := m.kd, fr := m.fr, fi := m.fi, tw := m.tw, ti := m.ti, tp := m.tp, ep := 0, sq := 0, la := 0, va := 0, no := 0, ic := 0, ct := m.ct, hp := 0 } m noF noF F G (.slice none 0 0) (.slice none 0 0) (.slice pp n cp) (.slice pt k ct) 0 0 n k wc (sl_nil _) (sl_nil _) (hp.below Bc (Nat.le_refl _)) (ht.below Bc (Nat.le_refl _))) ?_
          intro a9 w9 d9 v9 b9
          refine hK9 _ _ ?_
          refine wp_ret ?_
          rw [fin_13 m F G n k kq h0 h1 h2 h3 h4 h5 h6] at v9
          exact ⟨rfl, d9, v9, below_of Bc b9⟩
end Go.Proofs.Ytmcmiojidgdjpaa
