/- Walk of msg.Check. -/
import Derived.Test.YtmcmiojidgdjpaaBn11
import Derived.Test.YtmcmiojidgdjpaaBn4
import Derived.Test.YtmcmiojidgdjpaaBn17
namespace Go.Proofs.Ytmcmiojidgdjpaa
open Go.RowKit

/-- A right message. -/
def chkB (m : Mg) (F : Nat → Int) (n : Nat) (G : Nat → Int) (k : Nat) : Bool := numB m && ndsB m && lisB m F n G k
set_option maxRecDepth 100000 in
set_option maxHeartbeats 1000000 in
theorem check_any (m : Mg) (F G : Nat → Int) (p t : Value) (n k : Nat) (w : World) (hp : Sl .i64 w p n F) (ht : Sl .i64 w t k G) (hn : n ≤ 1000) (hk : k ≤ 1000) :
    Calls Try.prog 23 #[mv m p t] w fun e w' => e = .returned (.int .i64 (if chkB m F n G k then 0 else 5)) ∧ Below w.heap.size w w' := by
  obtain ⟨pp, cp, rfl, lp, kp⟩ := hp.shape
  obtain ⟨pt, ct, rfl, lt, kt⟩ := ht.shape
  have B0 : Hid (Below w.heap.size w (w.alloc (.cells #[.int .i64 m.kd, .int .i64 m.fr, .int .i64 m.fi, .int .i64 m.tw, .int .i64 m.ti, .int .i64 m.tp, .int .i64 m.ep, .int .i64 m.sq, .int .i64 m.la, .int .i64 m.va, .int .i64 m.no, .int .i64 m.ic, .int .i64 m.ct, .int .i64 m.hp, .slice pp n cp, .slice pt k ct] 24))) := hide ((Below.refl _ _).alloc (Nat.le_refl _) _)
  have CN := hide (fun w => numbersRight_any m (.slice pp n cp) (.slice pt k ct) w)
  have CD := hide (fun w => nodesRight_any m (.slice pp n cp) (.slice pt k ct) w)
  have CL := hide (fun w' (b : Below w.heap.size w w') => listsRight_any m F G (.slice pp n cp) (.slice pt k ct) n k w' (hp.below b (Nat.le_refl _)) (ht.below b (Nat.le_refl _)) hn hk)
  have HR := hide (show chkB m F n G k = (numB m && ndsB m && lisB m F n G k) from rfl)
  clear hp ht lp lt kp kt
  unfold mv at CN CD CL
  unfold mv
  generalize chkB m F n G k = R at *
  generalize numB m = x1 at *
  generalize ndsB m = x2 at *
  generalize lisB m F n G k = x3 at *
  have LW : Hid (w.heap.size < (w.alloc (.cells #[.int .i64 m.kd, .int .i64 m.fr, .int .i64 m.fi, .int .i64 m.tw, .int .i64 m.ti, .int .i64 m.tp, .int .i64 m.ep, .int .i64 m.sq, .int .i64 m.la, .int .i64 m.va, .int .i64 m.no, .int .i64 m.ic, .int .i64 m.ct, .int .i64 m.hp, .slice pp n cp, .slice pt k ct] 24)).heap.size) := hide (by simp)
  cases x1 with
  | false =>
    obtain rfl : R = false := by have := unhide HR; simpa using this
    clear HR CD CL
    go_enter Try.func23, Try.ntmps23
    go_wp2_with (first
      | (refine wpList_load24 (.tmp 1) rfl (by first | rfl | simp [Region.wanted, yielded]) w.heap.size #[.int .i64 m.kd, .int .i64 m.fr, .int .i64 m.fi, .int .i64 m.tw, .int .i64 m.ti, .int .i64 m.tp, .int .i64 m.ep, .int .i64 m.sq, .int .i64 m.la, .int .i64 m.va, .int .i64 m.no, .int .i64 m.ic, .int .i64 m.ct, .int .i64 m.hp, .slice pp n cp, .slice pt k ct] rfl (heap_alloc_new _ _) rfl ?_)
      | (go_at_call 44; with_reducible refine (unhide CN _).mono ?_; rintro e w1 ⟨rfl, b1⟩; have B1 := hide (below_of (unhide B0) b1); clear b1))
    go_ret
    exact ⟨rfl, unhide B1⟩
  | true =>
    cases x2 with
    | false =>
      obtain rfl : R = false := by have := unhide HR; simpa using this
      clear HR CL
      go_enter Try.func23, Try.ntmps23
      go_wp2_with (first
        | (refine wpList_load24 (.tmp 1) rfl (by first | rfl | simp [Region.wanted, yielded]) w.heap.size #[.int .i64 m.kd, .int .i64 m.fr, .int .i64 m.fi, .int .i64 m.tw, .int .i64 m.ti, .int .i64 m.tp, .int .i64 m.ep, .int .i64 m.sq, .int .i64 m.la, .int .i64 m.va, .int .i64 m.no, .int .i64 m.ic, .int .i64 m.ct, .int .i64 m.hp, .slice pp n cp, .slice pt k ct] rfl (heap_alloc_new _ _) rfl ?_)
        | (refine wpList_load24 (.tmp 1) rfl (by first | rfl | simp [Region.wanted, yielded]) w.heap.size #[.int .i64 m.kd, .int .i64 m.fr, .int .i64 m.fi, .int .i64 m.tw, .int .i64 m.ti, .int .i64 m.tp, .int .i64 m.ep, .int .i64 m.sq, .int .i64 m.la, .int .i64 m.va, .int .i64 m.no, .int .i64 m.ic, .int .i64 m.ct, .int .i64 m.hp, .slice pp n cp, .slice pt k ct] rfl (unhide G1) rfl ?_)
        | (go_at_call 44; with_reducible refine (unhide CN _).mono ?_; rintro e w1 ⟨rfl, b1⟩; have B1 := hide (below_of (unhide B0) b1); have G1 := hide ((b1.block w.heap.size (unhide LW)).trans (heap_alloc_new _ _)); clear b1)
        | (go_at_call 45; with_reducible refine (unhide CD _).mono ?_; rintro e w2 ⟨rfl, b2⟩; have B2 := hide (below_of (unhide B1) b2); clear b2))
      go_ret
      exact ⟨rfl, unhide B2⟩
    | true =>
      obtain rfl : R = x3 := by have := unhide HR; simpa using this
      clear HR
      cases R
      all_goals
        go_enter Try.func23, Try.ntmps23
        go_wp2_with (first
          | (refine wpList_load24 (.tmp 1) rfl (by first | rfl | simp [Region.wanted, yielded]) w.heap.size #[.int .i64 m.kd, .int .i64 m.fr, .int .i64 m.fi, .int .i64 m.tw, .int .i64 m.ti, .int .i64 m.tp, .int .i64 m.ep, .int .i64 m.sq, .int .i64 m.la, .int .i64 m.va, .int .i64 m.no, .int .i64 m.ic, .int .i64 m.ct, .int .i64 m.hp, .slice pp n cp, .slice pt k ct] rfl (heap_alloc_new _ _) rfl ?_)
          | (refine wpList_load24 (.tmp 1) rfl (by first | rfl | simp [Region.wanted, yielded]) w.heap.size #[.int .i64 m.kd, .int .i64 m.fr, .int .i64 m.fi, .int .i64 m.tw, .int .i64 m.ti, .int .i64 m.tp, .int .i64 m.ep, .int .i64 m.sq, .int .i64 m.la, .int .i64 m.va, .int .i64 m.no, .int .i64 m.ic, .int .i64 m.ct, .int .i64 m.hp, .slice pp n cp, .slice pt k ct] rfl (unhide G1) rfl ?_)
          | (refine wpList_load24 (.tmp 1) rfl (by first | rfl | simp [Region.wanted, yielded]) w.heap.size #[.int .i64 m.kd, .int .i64 m.fr, .int .i64 m.fi, .int .i64 m.tw, .int .i64 m.ti, .int .i64 m.tp, .int .i64 m.ep, .int .i64 m.sq, .int .i64 m.la, .int .i64 m.va, .int .i64 m.no, .int .i64 m.ic, .int .i64 m.ct, .int .i64 m.hp, .slice pp n cp, .slice pt k ct] rfl (unhide G2) rfl ?_)
          | (go_at_call 44; with_reducible refine (unhide CN _).mono ?_; rintro e w1 ⟨rfl, b1⟩; have B1 := hide (below_of (unhide B0) b1); have g1 := (b1.block w.heap.size (unhide LW)).trans (heap_alloc_new _ _); have G1 := hide g1; have L1 : Hid (w.heap.size < w1.heap.size) := hide (Nat.lt_of_lt_of_le (unhide LW) b1.size); clear b1 g1)
          | (go_at_call 45; with_reducible refine (unhide CD _).mono ?_; rintro e w2 ⟨rfl, b2⟩; have B2 := hide (below_of (unhide B1) b2); have g2 := (b2.block w.heap.size (unhide L1)).trans (unhide G1); have G2 := hide g2; clear b2 g2)
          | (go_at_call 46; with_reducible refine (unhide CL _ (unhide B2)).mono ?_; rintro e w3 ⟨rfl, b3⟩; have B3 := hide (below_of (unhide B2) b3); clear b3))
        go_ret
        exact ⟨rfl, unhide B3⟩
end Go.Proofs.Ytmcmiojidgdjpaa
