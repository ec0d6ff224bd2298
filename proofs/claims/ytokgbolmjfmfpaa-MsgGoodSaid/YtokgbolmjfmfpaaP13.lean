/- Walk of MsgGood: way 13. -/
import Derived.Test.YtokgbolmjfmfpaaN3
import Derived.Test.YtokgbolmjfmfpaaT1
namespace Go.Proofs.Ytokgbolmjfmfpaa
open Go.RowKit

set_option maxRecDepth 100000 in
set_option maxHeartbeats 2000000 in
theorem good_walk_13 (kind n v how : Int) (w : World) (hf : (IntKind.u64.wrap how).tmod 14 = 13) :
    Calls Try.prog 4 #[.int .i64 kind, .int .i64 n, .int .i64 v, .int .i64 how] w fun e w' => e = .returned (.bool true) ∧ Below w.heap.size w w' := by
  obtain ⟨m, F, G, a, b, la, lb, hok, hgood⟩ := good_law kind n v
  have CG := hide hgood
  have HOK := hide hok
  clear hok hgood
  unfold mv at CG
  go_enter Try.func4, Try.ntmps4
  go_upto_region 2 with (first
    | (go_at_call 17; with_reducible refine (unhide CG _).mono ?_; rintro e w1 ⟨p, c, t, d, rfl, s1, s2, b1⟩; have SP := hide s1; have ST := hide s2; have B1 := hide b1; clear s1 s2 b1 CG)
    | (refine wpList_store_last rfl (.tmp 9) (.tmp 15) rfl _ _ rfl rfl (by simp) _ rfl rfl (by simp [Value.oneCell']) ?_))
  have CT := hide (twinMsg_apart m F G (.slice p a c) (.slice t b d) a b (w1.alloc (.cells #[.int .i64 m.kd, .int .i64 m.fr, .int .i64 m.fi, .int .i64 m.tw, .int .i64 m.ti, .int .i64 m.tp, .int .i64 m.ep, .int .i64 m.sq, .int .i64 m.la, .int .i64 m.va, .int .i64 m.no, .int .i64 m.ic, .int .i64 m.ct, .int .i64 m.hp, .slice p a c, .slice t b d] 24)) ((unhide SP).below ((Below.refl _ _).alloc (Nat.le_refl _) _) (Nat.le_refl _)) ((unhide ST).below ((Below.refl _ _).alloc (Nat.le_refl _) _) (Nat.le_refl _)) (by omega) (by omega))
  unfold mv at CT
  go_upto_region 3 with (first
    | (refine wpList_load24 (.tmp 9) rfl rfl w1.heap.size #[.int .i64 m.kd, .int .i64 m.fr, .int .i64 m.fi, .int .i64 m.tw, .int .i64 m.ti, .int .i64 m.tp, .int .i64 m.ep, .int .i64 m.sq, .int .i64 m.la, .int .i64 m.va, .int .i64 m.no, .int .i64 m.ic, .int .i64 m.ct, .int .i64 m.hp, .slice p a c, .slice t b d] rfl (heap_alloc_new _ _) rfl ?_)
    | (go_at_call 7; with_reducible refine (unhide CT).mono ?_; rintro e w2 ⟨q, c2, r, d2, rfl, o1, o2, b2, ap⟩; have AP := hide ap; clear ap; have OQ := hide o1; have OR := hide o2; have B2 := hide b2; clear o1 o2 b2 CT)
    | (refine wpList_store_last rfl (.tmp 10) (.tmp 17) rfl _ _ rfl rfl (by simp) _ rfl rfl (by simp [Value.oneCell']) ?_))
  have L1 : w1.heap.size < w2.heap.size := by have := (unhide B2).size; simp at this; omega
  have g9 : (w2.alloc (.cells #[.int .i64 m.kd, .int .i64 m.fr, .int .i64 m.fi, .int .i64 m.tw, .int .i64 m.ti, .int .i64 m.tp, .int .i64 m.ep, .int .i64 m.sq, .int .i64 m.la, .int .i64 m.va, .int .i64 m.no, .int .i64 m.ic, .int .i64 m.ct, .int .i64 m.hp, .slice q a c2, .slice r b d2] 24)).heap[w1.heap.size]? = some (.cells #[.int .i64 m.kd, .int .i64 m.fr, .int .i64 m.fi, .int .i64 m.tw, .int .i64 m.ti, .int .i64 m.tp, .int .i64 m.ep, .int .i64 m.sq, .int .i64 m.la, .int .i64 m.va, .int .i64 m.no, .int .i64 m.ic, .int .i64 m.ct, .int .i64 m.hp, .slice p a c, .slice t b d] 24) := (Below.heap_alloc _ _ _ L1).trans (((unhide B2).block w1.heap.size (by simp)).trans (heap_alloc_new _ _))
  have g10 : (w2.alloc (.cells #[.int .i64 m.kd, .int .i64 m.fr, .int .i64 m.fi, .int .i64 m.tw, .int .i64 m.ti, .int .i64 m.tp, .int .i64 m.ep, .int .i64 m.sq, .int .i64 m.la, .int .i64 m.va, .int .i64 m.no, .int .i64 m.ic, .int .i64 m.ct, .int .i64 m.hp, .slice q a c2, .slice r b d2] 24)).heap[w2.heap.size]? = some (.cells #[.int .i64 m.kd, .int .i64 m.fr, .int .i64 m.fi, .int .i64 m.tw, .int .i64 m.ti, .int .i64 m.tp, .int .i64 m.ep, .int .i64 m.sq, .int .i64 m.la, .int .i64 m.va, .int .i64 m.no, .int .i64 m.ic, .int .i64 m.ct, .int .i64 m.hp, .slice q a c2, .slice r b d2] 24) := heap_alloc_new _ _
  have B3 : Hid (Below w.heap.size w (w2.alloc (.cells #[.int .i64 m.kd, .int .i64 m.fr, .int .i64 m.fi, .int .i64 m.tw, .int .i64 m.ti, .int .i64 m.tp, .int .i64 m.ep, .int .i64 m.sq, .int .i64 m.la, .int .i64 m.va, .int .i64 m.no, .int .i64 m.ic, .int .i64 m.ct, .int .i64 m.hp, .slice q a c2, .slice r b d2] 24))) := hide ((below_of ((unhide B1).alloc (unhide B1).size _) (unhide B2)).alloc (by have h1 := (unhide B1).size; omega) _)
  have SP3 : Hid (Sl .i64 (w2.alloc (.cells #[.int .i64 m.kd, .int .i64 m.fr, .int .i64 m.fi, .int .i64 m.tw, .int .i64 m.ti, .int .i64 m.tp, .int .i64 m.ep, .int .i64 m.sq, .int .i64 m.la, .int .i64 m.va, .int .i64 m.no, .int .i64 m.ic, .int .i64 m.ct, .int .i64 m.hp, .slice q a c2, .slice r b d2] 24)) (.slice p a c) a F) := hide (((unhide SP).below ((Below.refl _ _).alloc (Nat.le_refl _) _) (Nat.le_refl _)).below ((unhide B2).alloc (by have h1 := (unhide B2).size; exact h1) _) (Nat.le_refl _))
  have ST3 : Hid (Sl .i64 (w2.alloc (.cells #[.int .i64 m.kd, .int .i64 m.fr, .int .i64 m.fi, .int .i64 m.tw, .int .i64 m.ti, .int .i64 m.tp, .int .i64 m.ep, .int .i64 m.sq, .int .i64 m.la, .int .i64 m.va, .int .i64 m.no, .int .i64 m.ic, .int .i64 m.ct, .int .i64 m.hp, .slice q a c2, .slice r b d2] 24)) (.slice t b d) b G) := hide (((unhide ST).below ((Below.refl _ _).alloc (Nat.le_refl _) _) (Nat.le_refl _)).below ((unhide B2).alloc (by have h1 := (unhide B2).size; exact h1) _) (Nat.le_refl _))
  have OQ3 : Hid ((w2.alloc (.cells #[.int .i64 m.kd, .int .i64 m.fr, .int .i64 m.fi, .int .i64 m.tw, .int .i64 m.ti, .int .i64 m.tp, .int .i64 m.ep, .int .i64 m.sq, .int .i64 m.la, .int .i64 m.va, .int .i64 m.no, .int .i64 m.ic, .int .i64 m.ct, .int .i64 m.hp, .slice q a c2, .slice r b d2] 24)).ownsRow (w1.heap.size + 1) 3 1 (.slice q a c2) a (vL .i64 F a)) := hide ((owns_mono (unhide OQ) (by simp)).alloc _)
  have OR3 : Hid ((w2.alloc (.cells #[.int .i64 m.kd, .int .i64 m.fr, .int .i64 m.fi, .int .i64 m.tw, .int .i64 m.ti, .int .i64 m.tp, .int .i64 m.ep, .int .i64 m.sq, .int .i64 m.la, .int .i64 m.va, .int .i64 m.no, .int .i64 m.ic, .int .i64 m.ct, .int .i64 m.hp, .slice q a c2, .slice r b d2] 24)).ownsRow (w1.heap.size + 1) 3 1 (.slice r b d2) b (vL .i64 G b)) := hide ((owns_mono (unhide OR) (by simp)).alloc _)
  have c9 := mv_cell g9 0 _ rfl
  have LW : Hid (w.heap.size ≤ w1.heap.size) := hide (unhide B1).size
  have QB : Hid (∀ g, (Value.slice q a c2).ownBlock = some g → g < w2.heap.size) := hide (fun g hg => ((unhide OQ).lt g hg).2)
  have RB : Hid (∀ g, (Value.slice r b d2).ownBlock = some g → g < w2.heap.size) := hide (fun g hg => ((unhide OR).lt g hg).2)
  have SQ2 : Hid (Sl .i64 w2 (.slice q a c2) a F) := hide (sl_of_owns (unhide OQ))
  have c15 := mv_cell g10 15 _ rfl
  have K1 : Hid ((w1.heap.size + 1) ≤ w2.heap.size) := hide (by omega)
  go_upto_region 32 with (at_builtin; refine wpList_append_sg rfl (.tmp 24) (.tmp 25) rfl (w1.heap.size + 1) _ b G rfl ((unhide OR3).alloc _) (.slice (some ⟨w2.heap.size + 1, 0, none⟩) 2 2) 2 (lF [_, _]) rfl (sl_two _ _ _ _ (by simp)) (by omega) (by omega) (by have := unhide K1; simp; omega) ?_; intro r2 e2 w3 o3 y3; have O3 := hide o3; have Y3 := hide y3; have h10 := (y3.block w2.heap.size (by simp; omega) (fun e => by have := unhide RB _ e.symm; omega)).trans ((Below.heap_alloc _ _ _ (by simp)).trans (heap_alloc_new w2 (.cells #[.int .i64 m.kd, .int .i64 m.fr, .int .i64 m.fi, .int .i64 m.tw, .int .i64 m.ti, .int .i64 m.tp, .int .i64 m.ep, .int .i64 m.sq, .int .i64 m.la, .int .i64 m.va, .int .i64 m.no, .int .i64 m.ic, .int .i64 m.ct, .int .i64 m.hp, .slice q a c2, .slice r b d2] 24))); have H10 := hide h10; clear c15; have c15 := mv_cell h10 15 _ rfl; have f15 := frozen_of_row w3 w2.heap.size 15 _ _ h10; clear o3 y3 h10)
  have z1 : decide ((1 : Int) ≤ m.kd) = true := decide_eq_true (chk_kd m F G a b (unhide HOK)).1
  clear c15 f15 c9
  have LW1 := unhide LW
  have RB1 : ∀ g, (Value.slice r b d2).ownBlock = some g → w1.heap.size + 1 ≤ g := fun g hg => ((unhide OR3).lt g hg).1
  have QN : (Value.slice q a c2).ownBlock = none ∨ (Value.slice q a c2).ownBlock ≠ (Value.slice r b d2).ownBlock := by
    cases hq : (Value.slice q a c2).ownBlock with
    | none => exact .inl rfl
    | some g => exact .inr (fun e => unhide AP g hq e.symm)
  have OQ5 := owns_past (i := 15) (u := .slice r2 (b + 2) e2) ((((unhide OQ3).alloc _).kept (unhide Y3) QN)) (unhide H10)
  have OR5 := owns_past (i := 15) (u := .slice r2 (b + 2) e2) (unhide O3) (unhide H10)
  have h10 := heap_setCell_same w3 w2.heap.size 15 _ _ (.slice r2 (b + 2) e2) (unhide H10)
  have h9 := (heap_setCell_other w3 ⟨w2.heap.size, 15, none⟩ w1.heap.size (.slice r2 (b + 2) e2) (by show w1.heap.size ≠ w2.heap.size; omega)).trans (((unhide Y3).block w1.heap.size (by simp; omega) (fun e => by have := RB1 _ e.symm; omega)).trans ((Below.heap_alloc _ _ _ (by simp; omega)).trans g9))
  have b5 : Below w.heap.size w (w3.setCell ⟨w2.heap.size, 15, none⟩ (.slice r2 (b + 2) e2)) := (((unhide B3).alloc (by have := (unhide B3).size; exact this) _).grown (unhide Y3) (by simp; omega) (fun g hg => by have := RB1 g hg; omega)).setCell (by show w.heap.size ≤ w2.heap.size; omega) _
  have b6 : Below w1.heap.size w1 (w3.setCell ⟨w2.heap.size, 15, none⟩ (.slice r2 (b + 2) e2)) := ((((below_of ((Below.refl _ w1).alloc (Nat.le_refl _) _) (unhide B2)).alloc (by omega) _).alloc (by simp; omega) _).grown (unhide Y3) (by simp; omega) (fun g hg => by have := RB1 g hg; omega)).setCell (by show w1.heap.size ≤ w2.heap.size; omega) _
  have SP5 := (unhide SP).below b6 (Nat.le_refl _)
  have ST5 := (unhide ST).below b6 (Nat.le_refl _)
  generalize w3.setCell ⟨w2.heap.size, 15, none⟩ (.slice r2 (b + 2) e2) = w5 at *
  have CK1 := hide (check_any m F G (.slice p a c) (.slice t b d) a b w5 SP5 ST5 (by omega) (by omega))
  rw [unhide HOK] at CK1
  unfold mv at CK1
  have G9 := hide h9
  have G10 := hide h10
  have BX := hide b5
  have SQ5 := hide (sl_of_owns OQ5)
  have SR5 := hide (sl_of_owns OR5)
  have L5 : Hid (w2.heap.size < w5.heap.size) := hide (Array.getElem?_eq_some_iff.1 h10).1
  clear SP5 ST5 OQ5 OR5 h9 h10 b5 b6 Y3 O3 H10 SP ST B1 B2 OQ OR g9 g10 B3 SP3 ST3 OQ3 OR3 LW QB RB RB1 QN AP SQ2 K1 L1 LW1
  have m1 := trivial
  have CK2 : Hid (∀ w', Sl .i64 w' (.slice q a c2) a F → Sl .i64 w' (.slice r2 (b + 2) e2) (b + 2) (cat G b (lF [1, 1])) → Calls Try.prog 10 #[mv m (.slice q a c2) (.slice r2 (b + 2) e2)] w' fun e w'' => e = .returned (.int .i64 5) ∧ Below w'.heap.size w' w'') := hide (fun w' y1 y2 => by
    have h := check_any m F (cat G b (lF [1, 1])) (.slice q a c2) (.slice r2 (b + 2) e2) a (b + 2) w' y1 y2 (by omega) (by omega)
    rw [bad_13 m F G a b] at h
    exact h)
  unfold mv at CK2
  clear HOK
  generalize m.kd = x at *
  go_wp2_with (first
    | (refine wpList_load24 (.tmp 9) rfl (by first | rfl | simp [Region.wanted, yielded]) w1.heap.size _ rfl (unhide G9) rfl ?_)
    | (refine wpList_load24 (.tmp 10) rfl (by first | rfl | simp [Region.wanted, yielded]) w2.heap.size _ rfl (unhide G4) rfl ?_)
    | (clear m1; go_at_call 10; with_reducible refine (unhide CK1).mono ?_; rintro e w6 ⟨rfl, b6⟩; have B6 := hide (below_of (unhide BX) b6); have G4 := hide ((b6.block w2.heap.size (unhide L5)).trans (unhide G10)); have SQ6 := hide ((unhide SQ5).below b6 (Nat.le_refl _)); have SR6 := hide ((unhide SR5).below b6 (Nat.le_refl _)); clear b6)
    | (go_at_call 10; with_reducible refine (unhide CK2 _ (unhide SQ6) (unhide SR6)).mono ?_; rintro e w7 ⟨rfl, b7⟩; have B7 := hide (below_of (unhide B6) b7); clear b7)
    | (go_at_call 16; with_reducible refine (wakes_any _).mono ?_; rintro e w8 ⟨rfl, b8⟩; have B8 := hide (below_of (unhide B7) b8); clear b8))
  go_ret
  exact ⟨rfl, unhide B8⟩
end Go.Proofs.Ytokgbolmjfmfpaa
