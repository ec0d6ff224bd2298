/- Walk of WireBack: what is too much, what is not right. -/
import Derived.Test.YtmcmiojidgdjpaaBn31
import Derived.Test.YtmcmiojidgdjpaaBn4
namespace Go.Proofs.Ytmcmiojidgdjpaa
open Go.RowKit

/-- The four bytes as an array. -/
def fourA (x0 x1 x2 x3 : Nat) : Array Value := #[.int .u8 (x0 : Int), .int .u8 (x1 : Int), .int .u8 (x2 : Int), .int .u8 (x3 : Int)]
/-- The world in which the boxes lie. -/
def boxed (w : World) (A B X : Array Value) : World := ((w.alloc (.cells A 24)).alloc (.cells B 24)).alloc (.cells X 39)
theorem boxed_below (w : World) (A B X : Array Value) : Below w.heap.size w (boxed w A B X) := below3 w _ _ _
theorem boxed_a (w : World) (A B X : Array Value) : Has (boxed w A B X) w.heap.size (.cells A 24) := ⟨by simp [boxed]; omega, heap3_old w _ _ _⟩
theorem boxed_b (w : World) (A B X : Array Value) : Has (boxed w A B X) (w.heap.size + 1) (.cells B 24) := ⟨by simp [boxed], heap3_mid w _ _ _⟩
theorem boxed_x (w : World) (A B X : Array Value) : Has (boxed w A B X) (w.heap.size + 1 + 1) (.cells X 39) := ⟨by simp [boxed], heap3_new w _ _ _⟩
set_option maxRecDepth 100000 in
set_option maxHeartbeats 1000000 in
theorem back_heavy (m m' : Mg) (p t p' t' : Option Addr) (n c k d n' c' k' d' : Nat) (at' : Int) (x0 x1 x2 x3 : Nat) (w : World) (h : (decide (30 < n) || decide (30 < k)) = true ∨ (decide (30 < n) || decide (30 < k)) = false ∧ (decide (30 < n') || decide (30 < k')) = true) :
    Calls Try.prog 4 #[mv m (.slice p n c) (.slice t k d), mv m' (.slice p' n' c') (.slice t' k' d'), .int .i64 at', .agg #[.int .u8 (x0 : Int), .int .u8 (x1 : Int), .int .u8 (x2 : Int), .int .u8 (x3 : Int)]] w fun e w' => e = .returned (.bool true) ∧ Below w.heap.size w w' := by
  have CA := hide (fun w => heavy_any m p t n k c d w)
  have CB := hide (fun w => heavy_any m' p' t' n' k' c' d' w)
  generalize (decide (30 < n) || decide (30 < k)) = xa at *
  generalize (decide (30 < n') || decide (30 < k')) = xb at *
  unfold mv at CA CB
  unfold mv
  obtain ⟨w0, hw0⟩ : ∃ x, x = ((w.alloc (.cells #[.int .i64 m.kd, .int .i64 m.fr, .int .i64 m.fi, .int .i64 m.tw, .int .i64 m.ti, .int .i64 m.tp, .int .i64 m.ep, .int .i64 m.sq, .int .i64 m.la, .int .i64 m.va, .int .i64 m.no, .int .i64 m.ic, .int .i64 m.ct, .int .i64 m.hp, .slice p n c, .slice t k d] 24)).alloc (.cells #[.int .i64 m'.kd, .int .i64 m'.fr, .int .i64 m'.fi, .int .i64 m'.tw, .int .i64 m'.ti, .int .i64 m'.tp, .int .i64 m'.ep, .int .i64 m'.sq, .int .i64 m'.la, .int .i64 m'.va, .int .i64 m'.no, .int .i64 m'.ic, .int .i64 m'.ct, .int .i64 m'.hp, .slice p' n' c', .slice t' k' d'] 24)).alloc (.cells #[.int .u8 (x0 : Int), .int .u8 (x1 : Int), .int .u8 (x2 : Int), .int .u8 (x3 : Int)] 39) := ⟨_, rfl⟩
  have HW0 := hide hw0
  have B0 : Hid (Below w.heap.size w w0) := hide (by rw [hw0]; exact boxed_below w _ _ _)
  have GA : Hid (Has w0 w.heap.size (.cells #[.int .i64 m.kd, .int .i64 m.fr, .int .i64 m.fi, .int .i64 m.tw, .int .i64 m.ti, .int .i64 m.tp, .int .i64 m.ep, .int .i64 m.sq, .int .i64 m.la, .int .i64 m.va, .int .i64 m.no, .int .i64 m.ic, .int .i64 m.ct, .int .i64 m.hp, .slice p n c, .slice t k d] 24)) := hide (by rw [hw0]; exact boxed_a w _ _ _)
  have GB : Hid (Has w0 (w.heap.size + 1) (.cells #[.int .i64 m'.kd, .int .i64 m'.fr, .int .i64 m'.fi, .int .i64 m'.tw, .int .i64 m'.ti, .int .i64 m'.tp, .int .i64 m'.ep, .int .i64 m'.sq, .int .i64 m'.la, .int .i64 m'.va, .int .i64 m'.no, .int .i64 m'.ic, .int .i64 m'.ct, .int .i64 m'.hp, .slice p' n' c', .slice t' k' d'] 24)) := hide (by rw [hw0]; exact boxed_b w _ _ _)
  have BW : Hid (Below w0.heap.size w0 w0) := hide (Below.refl _ _)
  clear hw0
  rcases h with rfl | ⟨rfl, rfl⟩
  · go_enter Try.func4, Try.ntmps4
    go_upto_region 1 with fail
    rw [← unhide HW0]
    go_wp2_with (first
      | (refine wpList_load24 (.tmp 4) rfl (by first | rfl | simp [Region.wanted, yielded]) w.heap.size #[.int .i64 m.kd, .int .i64 m.fr, .int .i64 m.fi, .int .i64 m.tw, .int .i64 m.ti, .int .i64 m.tp, .int .i64 m.ep, .int .i64 m.sq, .int .i64 m.la, .int .i64 m.va, .int .i64 m.no, .int .i64 m.ic, .int .i64 m.ct, .int .i64 m.hp, .slice p n c, .slice t k d] rfl ((unhide GA).below (unhide BW)).2 rfl ?_)
      | (go_at_call 7; with_reducible refine (unhide CA _).mono ?_; rintro e w1 ⟨rfl, b1⟩; replace BW := hide (below_of (unhide BW) b1); clear b1))
    go_ret
    exact ⟨rfl, below_of (unhide B0) (unhide BW)⟩
  · go_enter Try.func4, Try.ntmps4
    go_upto_region 1 with fail
    rw [← unhide HW0]
    go_wp2_with (first
      | (refine wpList_load24 (.tmp 4) rfl (by first | rfl | simp [Region.wanted, yielded]) w.heap.size #[.int .i64 m.kd, .int .i64 m.fr, .int .i64 m.fi, .int .i64 m.tw, .int .i64 m.ti, .int .i64 m.tp, .int .i64 m.ep, .int .i64 m.sq, .int .i64 m.la, .int .i64 m.va, .int .i64 m.no, .int .i64 m.ic, .int .i64 m.ct, .int .i64 m.hp, .slice p n c, .slice t k d] rfl ((unhide GA).below (unhide BW)).2 rfl ?_)
      | (refine wpList_load24 (.tmp 5) rfl (by first | rfl | simp [Region.wanted, yielded]) (w.heap.size + 1) #[.int .i64 m'.kd, .int .i64 m'.fr, .int .i64 m'.fi, .int .i64 m'.tw, .int .i64 m'.ti, .int .i64 m'.tp, .int .i64 m'.ep, .int .i64 m'.sq, .int .i64 m'.la, .int .i64 m'.va, .int .i64 m'.no, .int .i64 m'.ic, .int .i64 m'.ct, .int .i64 m'.hp, .slice p' n' c', .slice t' k' d'] rfl ((unhide GB).below (unhide BW)).2 rfl ?_)
      | (go_at_call 7; with_reducible refine (unhide CA _).mono ?_; rintro e w1 ⟨rfl, b1⟩; replace BW := hide (below_of (unhide BW) b1); clear b1)
      | (go_at_call 7; with_reducible refine (unhide CB _).mono ?_; rintro e w2 ⟨rfl, b2⟩; replace BW := hide (below_of (unhide BW) b2); clear b2))
    go_ret
    exact ⟨rfl, below_of (unhide B0) (unhide BW)⟩
set_option maxRecDepth 100000 in
set_option maxHeartbeats 1000000 in
theorem back_bad (m m' : Mg) (p t p' t' : Option Addr) (n c k d n' c' k' d' : Nat) (at' : Int) (x0 x1 x2 x3 : Nat) (w : World) (h : (decide (30 < n) || decide (30 < k)) = false ∧ (decide (30 < n') || decide (30 < k')) = false) (ea eb : Int) (La Lb : Nat)
    (hE : (ea = 0 ∧ eb = 5 ∧ Lb = 0) ∨ (ea = 5 ∧ La = 0 ∧ eb = 0) ∨ (ea = 5 ∧ La = 0 ∧ eb = 5 ∧ Lb = 0))
    (EA : Hid (∀ w1, Below w.heap.size w w1 → Calls Try.prog 10 #[mv m (.slice p n c) (.slice t k d)] w1 fun e w' => ∃ q f, e = .returned (.tuple #[.slice q La f, .int .i64 ea]) ∧ Below w1.heap.size w1 w'))
    (EB : Hid (∀ w1, Below w.heap.size w w1 → Calls Try.prog 10 #[mv m' (.slice p' n' c') (.slice t' k' d')] w1 fun e w' => ∃ q f, e = .returned (.tuple #[.slice q Lb f, .int .i64 eb]) ∧ Below w1.heap.size w1 w')) :
    Calls Try.prog 4 #[mv m (.slice p n c) (.slice t k d), mv m' (.slice p' n' c') (.slice t' k' d'), .int .i64 at', .agg #[.int .u8 (x0 : Int), .int .u8 (x1 : Int), .int .u8 (x2 : Int), .int .u8 (x3 : Int)]] w fun e w' => e = .returned (.bool true) ∧ Below w.heap.size w w' := by
  have CA := hide (fun w => heavy_any m p t n k c d w)
  have CB := hide (fun w => heavy_any m' p' t' n' k' c' d' w)
  rw [h.1] at CA
  rw [h.2] at CB
  clear h
  unfold mv at CA CB EA EB
  unfold mv
  obtain ⟨w0, hw0⟩ : ∃ x, x = ((w.alloc (.cells #[.int .i64 m.kd, .int .i64 m.fr, .int .i64 m.fi, .int .i64 m.tw, .int .i64 m.ti, .int .i64 m.tp, .int .i64 m.ep, .int .i64 m.sq, .int .i64 m.la, .int .i64 m.va, .int .i64 m.no, .int .i64 m.ic, .int .i64 m.ct, .int .i64 m.hp, .slice p n c, .slice t k d] 24)).alloc (.cells #[.int .i64 m'.kd, .int .i64 m'.fr, .int .i64 m'.fi, .int .i64 m'.tw, .int .i64 m'.ti, .int .i64 m'.tp, .int .i64 m'.ep, .int .i64 m'.sq, .int .i64 m'.la, .int .i64 m'.va, .int .i64 m'.no, .int .i64 m'.ic, .int .i64 m'.ct, .int .i64 m'.hp, .slice p' n' c', .slice t' k' d'] 24)).alloc (.cells #[.int .u8 (x0 : Int), .int .u8 (x1 : Int), .int .u8 (x2 : Int), .int .u8 (x3 : Int)] 39) := ⟨_, rfl⟩
  have HW0 := hide hw0
  have B0 : Hid (Below w.heap.size w w0) := hide (by rw [hw0]; exact boxed_below w _ _ _)
  have GA : Hid (Has w0 w.heap.size (.cells #[.int .i64 m.kd, .int .i64 m.fr, .int .i64 m.fi, .int .i64 m.tw, .int .i64 m.ti, .int .i64 m.tp, .int .i64 m.ep, .int .i64 m.sq, .int .i64 m.la, .int .i64 m.va, .int .i64 m.no, .int .i64 m.ic, .int .i64 m.ct, .int .i64 m.hp, .slice p n c, .slice t k d] 24)) := hide (by rw [hw0]; exact boxed_a w _ _ _)
  have GB : Hid (Has w0 (w.heap.size + 1) (.cells #[.int .i64 m'.kd, .int .i64 m'.fr, .int .i64 m'.fi, .int .i64 m'.tw, .int .i64 m'.ti, .int .i64 m'.tp, .int .i64 m'.ep, .int .i64 m'.sq, .int .i64 m'.la, .int .i64 m'.va, .int .i64 m'.no, .int .i64 m'.ic, .int .i64 m'.ct, .int .i64 m'.hp, .slice p' n' c', .slice t' k' d'] 24)) := hide (by rw [hw0]; exact boxed_b w _ _ _)
  have BW : Hid (Below w0.heap.size w0 w0) := hide (Below.refl _ _)
  clear hw0
  rcases hE with ⟨rfl, rfl, rfl⟩ | ⟨rfl, rfl, rfl⟩ | ⟨rfl, rfl, rfl, rfl⟩
  all_goals
    go_enter Try.func4, Try.ntmps4
    go_upto_region 1 with fail
    rw [← unhide HW0]
    go_wp2_with (first
      | (refine wpList_load24 (.tmp 4) rfl (by first | rfl | simp [Region.wanted, yielded]) w.heap.size #[.int .i64 m.kd, .int .i64 m.fr, .int .i64 m.fi, .int .i64 m.tw, .int .i64 m.ti, .int .i64 m.tp, .int .i64 m.ep, .int .i64 m.sq, .int .i64 m.la, .int .i64 m.va, .int .i64 m.no, .int .i64 m.ic, .int .i64 m.ct, .int .i64 m.hp, .slice p n c, .slice t k d] rfl ((unhide GA).below (unhide BW)).2 rfl ?_)
      | (refine wpList_load24 (.tmp 5) rfl (by first | rfl | simp [Region.wanted, yielded]) (w.heap.size + 1) #[.int .i64 m'.kd, .int .i64 m'.fr, .int .i64 m'.fi, .int .i64 m'.tw, .int .i64 m'.ti, .int .i64 m'.tp, .int .i64 m'.ep, .int .i64 m'.sq, .int .i64 m'.la, .int .i64 m'.va, .int .i64 m'.no, .int .i64 m'.ic, .int .i64 m'.ct, .int .i64 m'.hp, .slice p' n' c', .slice t' k' d'] rfl ((unhide GB).below (unhide BW)).2 rfl ?_)
      | (go_at_call 7; with_reducible refine (unhide CA _).mono ?_; rintro e w1 ⟨rfl, b1⟩; replace BW := hide (below_of (unhide BW) b1); clear b1)
      | (go_at_call 7; with_reducible refine (unhide CB _).mono ?_; rintro e w2 ⟨rfl, b2⟩; replace BW := hide (below_of (unhide BW) b2); clear b2)
      | (go_at_call 10; with_reducible refine (unhide EA _ (below_of (unhide B0) (unhide BW))).mono ?_; rintro e w3 ⟨q3, f3, rfl, b3⟩; replace BW := hide (below_of (unhide BW) b3); clear b3)
      | (go_at_call 10; with_reducible refine (unhide EB _ (below_of (unhide B0) (unhide BW))).mono ?_; rintro e w4 ⟨q4, f4, rfl, b4⟩; replace BW := hide (below_of (unhide BW) b4); clear b4)
      | (go_at_call 16; with_reducible refine (wakes_any _).mono ?_; rintro e w5 ⟨rfl, b5⟩; replace BW := hide (below_of (unhide BW) b5); clear b5))
    go_ret
    exact ⟨rfl, below_of (unhide B0) (unhide BW)⟩
end Go.Proofs.Ytmcmiojidgdjpaa
