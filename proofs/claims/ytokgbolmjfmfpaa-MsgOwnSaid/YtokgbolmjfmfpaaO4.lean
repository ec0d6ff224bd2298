/- Walk of MsgOwn: the field no. -/
import Derived.Test.YtokgbolmjfmfpaaN2
namespace Go.Proofs.Ytokgbolmjfmfpaa
open Go.RowKit

set_option maxRecDepth 100000 in
set_option maxHeartbeats 2000000 in
theorem own_walk_4 (kind n v field : Int) (w : World) (hf : (IntKind.u64.wrap field).tmod 9 = 4) :
    Calls Try.prog 5 #[.int .i64 kind, .int .i64 n, .int .i64 v, .int .i64 field] w fun e w' => e = .returned (.bool true) ∧ Below w.heap.size w w' := by
  obtain ⟨m, F, G, a, b, la, lb, hok, hgood⟩ := good_law kind n v
  have CG := hide hgood
  have HOK := hide hok
  clear hok hgood
  unfold mv at CG
  go_enter Try.func5, Try.ntmps5
  go_upto_region 2 with (first
    | (go_at_call 17; with_reducible refine (unhide CG _).mono ?_; rintro e w1 ⟨p, c, t, d, rfl, s1, s2, b1⟩; have SP := hide s1; have ST := hide s2; have B1 := hide b1; clear s1 s2 b1 CG)
    | (refine wpList_store_last rfl (.tmp 9) (.tmp 16) rfl _ _ rfl rfl (by simp) _ rfl rfl (by simp [Value.oneCell']) ?_))
  have CT := hide (twinMsg_any m F G (.slice p a c) (.slice t b d) a b (w1.alloc (.cells #[.int .i64 m.kd, .int .i64 m.fr, .int .i64 m.fi, .int .i64 m.tw, .int .i64 m.ti, .int .i64 m.tp, .int .i64 m.ep, .int .i64 m.sq, .int .i64 m.la, .int .i64 m.va, .int .i64 m.no, .int .i64 m.ic, .int .i64 m.ct, .int .i64 m.hp, .slice p a c, .slice t b d] 24)) ((unhide SP).below ((Below.refl _ _).alloc (Nat.le_refl _) _) (Nat.le_refl _)) ((unhide ST).below ((Below.refl _ _).alloc (Nat.le_refl _) _) (Nat.le_refl _)) (by omega) (by omega))
  unfold mv at CT
  go_upto_region 3 with (first
    | (refine wpList_load24 (.tmp 9) rfl rfl w1.heap.size #[.int .i64 m.kd, .int .i64 m.fr, .int .i64 m.fi, .int .i64 m.tw, .int .i64 m.ti, .int .i64 m.tp, .int .i64 m.ep, .int .i64 m.sq, .int .i64 m.la, .int .i64 m.va, .int .i64 m.no, .int .i64 m.ic, .int .i64 m.ct, .int .i64 m.hp, .slice p a c, .slice t b d] rfl (heap_alloc_new _ _) rfl ?_)
    | (go_at_call 7; with_reducible refine (unhide CT).mono ?_; rintro e w2 ⟨q, c2, r, d2, rfl, o1, o2, b2⟩; have OQ := hide o1; have OR := hide o2; have B2 := hide b2; clear o1 o2 b2 CT)
    | (refine wpList_store_last rfl (.tmp 10) (.tmp 18) rfl _ _ rfl rfl (by simp) _ rfl rfl (by simp [Value.oneCell']) ?_))
  have L1 : w1.heap.size < w2.heap.size := by have := (unhide B2).size; simp at this; omega
  have g9 : (w2.alloc (.cells #[.int .i64 m.kd, .int .i64 m.fr, .int .i64 m.fi, .int .i64 m.tw, .int .i64 m.ti, .int .i64 m.tp, .int .i64 m.ep, .int .i64 m.sq, .int .i64 m.la, .int .i64 m.va, .int .i64 m.no, .int .i64 m.ic, .int .i64 m.ct, .int .i64 m.hp, .slice q a c2, .slice r b d2] 24)).heap[w1.heap.size]? = some (.cells #[.int .i64 m.kd, .int .i64 m.fr, .int .i64 m.fi, .int .i64 m.tw, .int .i64 m.ti, .int .i64 m.tp, .int .i64 m.ep, .int .i64 m.sq, .int .i64 m.la, .int .i64 m.va, .int .i64 m.no, .int .i64 m.ic, .int .i64 m.ct, .int .i64 m.hp, .slice p a c, .slice t b d] 24) := (Below.heap_alloc _ _ _ L1).trans (((unhide B2).block w1.heap.size (by simp)).trans (heap_alloc_new _ _))
  have g10 : (w2.alloc (.cells #[.int .i64 m.kd, .int .i64 m.fr, .int .i64 m.fi, .int .i64 m.tw, .int .i64 m.ti, .int .i64 m.tp, .int .i64 m.ep, .int .i64 m.sq, .int .i64 m.la, .int .i64 m.va, .int .i64 m.no, .int .i64 m.ic, .int .i64 m.ct, .int .i64 m.hp, .slice q a c2, .slice r b d2] 24)).heap[w2.heap.size]? = some (.cells #[.int .i64 m.kd, .int .i64 m.fr, .int .i64 m.fi, .int .i64 m.tw, .int .i64 m.ti, .int .i64 m.tp, .int .i64 m.ep, .int .i64 m.sq, .int .i64 m.la, .int .i64 m.va, .int .i64 m.no, .int .i64 m.ic, .int .i64 m.ct, .int .i64 m.hp, .slice q a c2, .slice r b d2] 24) := heap_alloc_new _ _
  have B3 : Hid (Below w.heap.size w (w2.alloc (.cells #[.int .i64 m.kd, .int .i64 m.fr, .int .i64 m.fi, .int .i64 m.tw, .int .i64 m.ti, .int .i64 m.tp, .int .i64 m.ep, .int .i64 m.sq, .int .i64 m.la, .int .i64 m.va, .int .i64 m.no, .int .i64 m.ic, .int .i64 m.ct, .int .i64 m.hp, .slice q a c2, .slice r b d2] 24))) := hide ((below_of ((unhide B1).alloc (unhide B1).size _) (unhide B2)).alloc (by have h1 := (unhide B1).size; omega) _)
  have SP3 : Hid (Sl .i64 (w2.alloc (.cells #[.int .i64 m.kd, .int .i64 m.fr, .int .i64 m.fi, .int .i64 m.tw, .int .i64 m.ti, .int .i64 m.tp, .int .i64 m.ep, .int .i64 m.sq, .int .i64 m.la, .int .i64 m.va, .int .i64 m.no, .int .i64 m.ic, .int .i64 m.ct, .int .i64 m.hp, .slice q a c2, .slice r b d2] 24)) (.slice p a c) a F) := hide (((unhide SP).below ((Below.refl _ _).alloc (Nat.le_refl _) _) (Nat.le_refl _)).below ((unhide B2).alloc (by have h1 := (unhide B2).size; exact h1) _) (Nat.le_refl _))
  have ST3 : Hid (Sl .i64 (w2.alloc (.cells #[.int .i64 m.kd, .int .i64 m.fr, .int .i64 m.fi, .int .i64 m.tw, .int .i64 m.ti, .int .i64 m.tp, .int .i64 m.ep, .int .i64 m.sq, .int .i64 m.la, .int .i64 m.va, .int .i64 m.no, .int .i64 m.ic, .int .i64 m.ct, .int .i64 m.hp, .slice q a c2, .slice r b d2] 24)) (.slice t b d) b G) := hide (((unhide ST).below ((Below.refl _ _).alloc (Nat.le_refl _) _) (Nat.le_refl _)).below ((unhide B2).alloc (by have h1 := (unhide B2).size; exact h1) _) (Nat.le_refl _))
  have OQ3 : Hid ((w2.alloc (.cells #[.int .i64 m.kd, .int .i64 m.fr, .int .i64 m.fi, .int .i64 m.tw, .int .i64 m.ti, .int .i64 m.tp, .int .i64 m.ep, .int .i64 m.sq, .int .i64 m.la, .int .i64 m.va, .int .i64 m.no, .int .i64 m.ic, .int .i64 m.ct, .int .i64 m.hp, .slice q a c2, .slice r b d2] 24)).ownsRow (w1.heap.size + 1) 3 1 (.slice q a c2) a (vL .i64 F a)) := hide ((owns_mono (unhide OQ) (by simp)).alloc _)
  have OR3 : Hid ((w2.alloc (.cells #[.int .i64 m.kd, .int .i64 m.fr, .int .i64 m.fi, .int .i64 m.tw, .int .i64 m.ti, .int .i64 m.tp, .int .i64 m.ep, .int .i64 m.sq, .int .i64 m.la, .int .i64 m.va, .int .i64 m.no, .int .i64 m.ic, .int .i64 m.ct, .int .i64 m.hp, .slice q a c2, .slice r b d2] 24)).ownsRow (w1.heap.size + 1) 3 1 (.slice r b d2) b (vL .i64 G b)) := hide ((owns_mono (unhide OR) (by simp)).alloc _)
  have c9 := mv_cell g9 0 _ rfl
  have LW : Hid (w.heap.size ≤ w1.heap.size) := hide (unhide B1).size
  have QB : Hid (∀ g, (Value.slice q a c2).ownBlock = some g → g < w2.heap.size) := hide (fun g hg => ((unhide OQ).lt g hg).2)
  have RB : Hid (∀ g, (Value.slice r b d2).ownBlock = some g → g < w2.heap.size) := hide (fun g hg => ((unhide OR).lt g hg).2)
  have SPX : Hid (∀ X, Sl .i64 (w2.alloc X) (.slice p a c) a F) := hide (fun X => ((unhide SP).below ((Below.refl _ _).alloc (Nat.le_refl _) _) (Nat.le_refl _)).below ((unhide B2).alloc (by have h1 := (unhide B2).size; exact h1) X) (Nat.le_refl _))
  have STX : Hid (∀ X, Sl .i64 (w2.alloc X) (.slice t b d) b G) := hide (fun X => ((unhide ST).below ((Below.refl _ _).alloc (Nat.le_refl _) _) (Nat.le_refl _)).below ((unhide B2).alloc (by have h1 := (unhide B2).size; exact h1) X) (Nat.le_refl _))
  have SQX : Hid (∀ X, Sl .i64 (w2.alloc X) (.slice q a c2) a F) := hide (fun X => (sl_of_owns (unhide OQ)).below ((Below.refl _ _).alloc (Nat.le_refl _) X) (Nat.le_refl _))
  have SRX : Hid (∀ X, Sl .i64 (w2.alloc X) (.slice r b d2) b G) := hide (fun X => (sl_of_owns (unhide OR)).below ((Below.refl _ _).alloc (Nat.le_refl _) X) (Nat.le_refl _))
  have BX : Hid (∀ X, Below w.heap.size w (w2.alloc X)) := hide (fun X => (below_of ((unhide B1).alloc (unhide B1).size _) (unhide B2)).alloc (by have h1 := (unhide B1).size; omega) X)
  have G9 : Hid (∀ X, (w2.alloc X).heap[w1.heap.size]? = some (.cells #[.int .i64 m.kd, .int .i64 m.fr, .int .i64 m.fi, .int .i64 m.tw, .int .i64 m.ti, .int .i64 m.tp, .int .i64 m.ep, .int .i64 m.sq, .int .i64 m.la, .int .i64 m.va, .int .i64 m.no, .int .i64 m.ic, .int .i64 m.ct, .int .i64 m.hp, .slice p a c, .slice t b d] 24)) := hide (fun X => (Below.heap_alloc _ _ _ L1).trans (((unhide B2).block w1.heap.size (by simp)).trans (heap_alloc_new _ _)))
  have CK1 := hide (fun X => check_any m F G (.slice p a c) (.slice t b d) a b (w2.alloc X) (unhide SPX X) (unhide STX X) (by omega) (by omega))
  rw [unhide HOK] at CK1
  unfold mv at CK1
  by_cases h4 : m.kd = 4
  · have z4 : (m.kd == 4) = true := by simp [h4]
    clear h4
    clear HOK SP ST B1 B2 OQ OR g9 g10 B3 SP3 ST3 OQ3 OR3 LW QB RB SPX STX
    generalize m.kd = x at *
    go_upto_region 33 with (fail)
    go_wp2_with (first
      | (refine wpList_load24 (.tmp 9) rfl rfl w1.heap.size _ rfl (unhide G9 _) rfl ?_)
      | (go_at_call 10; with_reducible refine (unhide CK1 _).mono ?_; rintro e w3 ⟨rfl, b3⟩; have B4 := hide (below_of (unhide BX _) b3); clear b3)
      | (go_at_call 16; with_reducible refine (wakes_any _).mono ?_; rintro e w5 ⟨rfl, b5⟩; have B5 := hide (below_of (unhide B4) b5); clear b5))
    go_ret
    exact ⟨rfl, unhide B5⟩
  by_cases h10 : m.kd = 10
  · have z10 : (m.kd == 10) = true := by simp [h10]
    have z4 : (m.kd == 4) = false := by simp [h4]
    clear h4 h10
    clear HOK SP ST B1 B2 OQ OR g9 g10 B3 SP3 ST3 OQ3 OR3 LW QB RB SPX STX
    generalize m.kd = x at *
    go_upto_region 33 with (fail)
    go_wp2_with (first
      | (refine wpList_load24 (.tmp 9) rfl rfl w1.heap.size _ rfl (unhide G9 _) rfl ?_)
      | (go_at_call 10; with_reducible refine (unhide CK1 _).mono ?_; rintro e w3 ⟨rfl, b3⟩; have B4 := hide (below_of (unhide BX _) b3); clear b3)
      | (go_at_call 16; with_reducible refine (wakes_any _).mono ?_; rintro e w5 ⟨rfl, b5⟩; have B5 := hide (below_of (unhide B4) b5); clear b5))
    go_ret
    exact ⟨rfl, unhide B5⟩
  by_cases h11 : m.kd = 11
  · have z11 : (m.kd == 11) = true := by simp [h11]
    have z4 : (m.kd == 4) = false := by simp [h4]
    have z10 : (m.kd == 10) = false := by simp [h10]
    clear h4 h10 h11
    clear HOK SP ST B1 B2 OQ OR g9 g10 B3 SP3 ST3 OQ3 OR3 LW QB RB SPX STX
    generalize m.kd = x at *
    go_upto_region 33 with (fail)
    go_wp2_with (first
      | (refine wpList_load24 (.tmp 9) rfl rfl w1.heap.size _ rfl (unhide G9 _) rfl ?_)
      | (go_at_call 10; with_reducible refine (unhide CK1 _).mono ?_; rintro e w3 ⟨rfl, b3⟩; have B4 := hide (below_of (unhide BX _) b3); clear b3)
      | (go_at_call 16; with_reducible refine (wakes_any _).mono ?_; rintro e w5 ⟨rfl, b5⟩; have B5 := hide (below_of (unhide B4) b5); clear b5))
    go_ret
    exact ⟨rfl, unhide B5⟩
  have m1 := trivial
  have z4 : (m.kd == 4) = false := by simp [h4]
  have z10 : (m.kd == 10) = false := by simp [h10]
  have z11 : (m.kd == 11) = false := by simp [h11]
  have CK2 : Hid (∀ w', Sl .i64 w' (.slice q a c2) a F → Sl .i64 w' (.slice r b d2) b G → Calls Try.prog 10 #[mv { m with no := 5 } (.slice q a c2) (.slice r b d2)] w' fun e w'' => e = .returned (.int .i64 5) ∧ Below w'.heap.size w' w'') := hide (fun w' y1 y2 => by
    have h := check_any { m with no := 5 } F G (.slice q a c2) (.slice r b d2) a b w' y1 y2 (by omega) (by omega)
    rw [chk_num _ F G a b (own_4 m h4 h10 h11)] at h
    exact h)
  unfold mv at CK2
  dsimp only at CK2
  clear h4 h10 h11
  clear HOK SP ST B1 B2 OQ OR g9 g10 B3 SP3 ST3 OQ3 OR3 LW QB RB SPX STX
  generalize m.kd = x at *
  go_upto_region 34 with (fail)
  go_wp2_with (first
    | (refine wpList_load24 (.tmp 9) rfl rfl w1.heap.size _ rfl (unhide G9 _) rfl ?_)
    | (refine wpList_load24 (.tmp 10) rfl (by first | rfl | simp [Region.wanted, yielded]) w2.heap.size _ rfl (unhide G4) rfl ?_)
    | (clear m1; go_at_call 10; with_reducible refine (unhide CK1 _).mono ?_; rintro e w3 ⟨rfl, b3⟩; have B4 := hide (below_of (unhide BX _) b3); have G4 := hide ((b3.block w2.heap.size (by simp)).trans (heap_alloc_new _ _)); have SQ4 := hide ((unhide SQX _).below b3 (Nat.le_refl _)); have SR4 := hide ((unhide SRX _).below b3 (Nat.le_refl _)); clear b3)
    | (go_at_call 10; with_reducible refine (unhide CK2 _ (unhide SQ4) (unhide SR4)).mono ?_; rintro e w4 ⟨rfl, b4⟩; have B5 := hide (below_of (unhide B4) b4); clear b4)
    | (go_at_call 16; with_reducible refine (wakes_any _).mono ?_; rintro e w5 ⟨rfl, b5⟩; have B6 := hide (below_of (unhide B5) b5); clear b5))
  go_ret
  exact ⟨rfl, unhide B6⟩
end Go.Proofs.Ytokgbolmjfmfpaa
