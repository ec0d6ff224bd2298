/- Walk of CrcLinear, of no bytes. -/
import Derived.Test.YtfkhapliblnacaaL1
namespace Go.Proofs.Ytfkhapliblnacaa
open Go.RowKit

theorem sum_none (p : Option Addr) (cap : Nat) (h : p = none → cap = 0) (hc : cap ≤ maxLen) (w : World) : Calls Try.prog 9 #[.slice p 0 cap] w fun e w' => e = .returned (.int .i64 0) ∧ w' = w := by
  have hv : Bs w (.slice p 0 cap) 0 (fun _ => 0) := by
    cases p with
    | none => obtain rfl := h rfl; exact .inl ⟨rfl, .inl rfl⟩
    | some x => exact .inl ⟨rfl, .inr ⟨x, cap, rfl, hc⟩⟩
  refine (sum_is (fun _ => 0) _ 0 w hv (fun i hi => by omega)).mono ?_
  rintro e w' ⟨rfl, rfl⟩
  exact ⟨rfl, rfl⟩
set_option maxRecDepth 100000 in
set_option maxHeartbeats 1000000 in
theorem lin_n0 (w : World) :
    Calls Try.prog 5 #[.slice none 0 0, .slice none 0 0, .slice none 0 0] w fun e w' => e = .returned (.bool true) ∧ Below w.heap.size w w' := by
  obtain ⟨i, hi, hz0, hz1, hz2⟩ := info_parts info5
  have hmin := run_min3 0 0 0 0 (by omega)
  rw [show ((0 : Nat) : Int) = 0 from rfl] at hmin
  have cA : Hid (∀ w', Calls Try.prog 9 #[.slice none 0 0] w' fun e w2 => e = .returned (.int .i64 0) ∧ w2 = w') := hide (sum_none none 0 (fun _ => rfl) (Nat.zero_le _))
  have cB : Hid (∀ w', Calls Try.prog 9 #[.slice none 0 0] w' fun e w2 => e = .returned (.int .i64 0) ∧ w2 = w') := hide (sum_none none 0 (fun _ => rfl) (Nat.zero_le _))
  have cC : Hid (∀ w', Calls Try.prog 9 #[.slice none 0 0] w' fun e w2 => e = .returned (.int .i64 0) ∧ w2 = w') := hide (sum_none none 0 (fun _ => rfl) (Nat.zero_le _))
  have cD : Hid (∀ w', Calls Try.prog 9 #[.slice (some ⟨w.heap.size, 0, none⟩) 0 0] w' fun e w2 => e = .returned (.int .i64 0) ∧ w2 = w') := hide (sum_none _ 0 (fun h => by cases h) (Nat.zero_le _))
  have x0 : bits .xor .i64 0 0 = 0 := by decide
  go_enter Try.func5, Try.ntmps5
  go_wp2_with (at_make; refine wpList_make_full _ rfl _ _ 22 rfl w.heap.size 5 i (.int .u8 0) 1 Try.underlying22 hi hz0 hz1 .i64 .i64 0 0 0 rfl rfl rfl rfl (by rw [hz2]; omega) (by unfold maxLen; omega) (Nat.le_refl _) ?_)
  intro w1 _ hgrow
  have hbel : Below w.heap.size w w1 := (Below.refl _ _).grown hgrow (Nat.le_refl _) (by intro k h; cases h)
  clear hgrow
  go_wp2
  go_loopw [9] (fun xi w2 => xi = .int .i64 0 ∧ w2 = w1) (fun _ _ => 0)
  case atStart => exact ⟨rfl, rfl⟩
  case round =>
    obtain ⟨rfl, hw⟩ := hrel
    obtain rfl := hw.symm
    go_wp2_with (go_at_call 9; refine (unhide cD _).mono ?_; rintro e w3 ⟨rfl, hw⟩; obtain rfl := hw.symm)
    go_region_held3 (fun w' => Below w.heap.size w w')
      (first
        | assumption
        | exact below_drewN (by assumption) _
        | exact below_drewN (by assumption) 1)
      (first
        | (go_at_call 9; with_reducible refine (unhide cA _).mono ?_; rintro e w9 ⟨rfl, rfl⟩)
        | (go_at_call 9; with_reducible refine (unhide cB _).mono ?_; rintro e w9 ⟨rfl, rfl⟩)
        | (go_at_call 9; with_reducible refine (unhide cC _).mono ?_; rintro e w9 ⟨rfl, rfl⟩)
        | (go_at_call 14; refine (wakes_any _).mono ?_; rintro e w9 ⟨rfl, b9⟩; first | have b10 := below_of hbel b9 | have b10 := below_of (below_drewN hbel 1) b9 | have b10 := below_of (below_drewN hbel _) b9))
    go_wp2
    go_ret
    exact ⟨rfl, b10⟩
set_option maxRecDepth 100000 in
set_option maxHeartbeats 1000000 in
theorem lin_n1 (x : Addr) (la ca : Nat) (w : World) (_ : la ≤ ca) (ka2 : ca ≤ maxLen) :
    Calls Try.prog 5 #[.slice (some x) la ca, .slice none 0 0, .slice none 0 0] w fun e w' => e = .returned (.bool true) ∧ Below w.heap.size w w' := by
  obtain ⟨i, hi, hz0, hz1, hz2⟩ := info_parts info5
  have hmin := run_min3 la 0 0 0 (by omega)
  rw [show ((0 : Nat) : Int) = 0 from rfl] at hmin
  have cA : Hid (∀ w', Calls Try.prog 9 #[.slice (some x) 0 ca] w' fun e w2 => e = .returned (.int .i64 0) ∧ w2 = w') := hide (sum_none _ ca (fun h => by cases h) ka2)
  have cB : Hid (∀ w', Calls Try.prog 9 #[.slice none 0 0] w' fun e w2 => e = .returned (.int .i64 0) ∧ w2 = w') := hide (sum_none none 0 (fun _ => rfl) (Nat.zero_le _))
  have cC : Hid (∀ w', Calls Try.prog 9 #[.slice none 0 0] w' fun e w2 => e = .returned (.int .i64 0) ∧ w2 = w') := hide (sum_none none 0 (fun _ => rfl) (Nat.zero_le _))
  have cD : Hid (∀ w', Calls Try.prog 9 #[.slice (some ⟨w.heap.size, 0, none⟩) 0 0] w' fun e w2 => e = .returned (.int .i64 0) ∧ w2 = w') := hide (sum_none _ 0 (fun h => by cases h) (Nat.zero_le _))
  unfold maxLen at ka2
  have x0 : bits .xor .i64 0 0 = 0 := by decide
  go_enter Try.func5, Try.ntmps5
  go_wp2_with (at_make; refine wpList_make_full _ rfl _ _ 22 rfl w.heap.size 5 i (.int .u8 0) 1 Try.underlying22 hi hz0 hz1 .i64 .i64 0 0 0 rfl rfl rfl rfl (by rw [hz2]; omega) (by unfold maxLen; omega) (Nat.le_refl _) ?_)
  intro w1 _ hgrow
  have hbel : Below w.heap.size w w1 := (Below.refl _ _).grown hgrow (Nat.le_refl _) (by intro k h; cases h)
  clear hgrow
  go_wp2
  go_loopw [9] (fun xi w2 => xi = .int .i64 0 ∧ w2 = w1) (fun _ _ => 0)
  case atStart => exact ⟨rfl, rfl⟩
  case round =>
    obtain ⟨rfl, hw⟩ := hrel
    obtain rfl := hw.symm
    go_wp2_with (go_at_call 9; refine (unhide cD _).mono ?_; rintro e w3 ⟨rfl, hw⟩; obtain rfl := hw.symm)
    go_region_held3 (fun w' => Below w.heap.size w w')
      (first
        | assumption
        | exact below_drewN (by assumption) _
        | exact below_drewN (by assumption) 1)
      (first
        | (go_at_call 9; with_reducible refine (unhide cA _).mono ?_; rintro e w9 ⟨rfl, rfl⟩)
        | (go_at_call 9; with_reducible refine (unhide cB _).mono ?_; rintro e w9 ⟨rfl, rfl⟩)
        | (go_at_call 9; with_reducible refine (unhide cC _).mono ?_; rintro e w9 ⟨rfl, rfl⟩)
        | (go_at_call 14; refine (wakes_any _).mono ?_; rintro e w9 ⟨rfl, b9⟩; first | have b10 := below_of hbel b9 | have b10 := below_of (below_drewN hbel 1) b9 | have b10 := below_of (below_drewN hbel _) b9))
    go_wp2
    go_ret
    exact ⟨rfl, b10⟩
set_option maxRecDepth 100000 in
set_option maxHeartbeats 1000000 in
theorem lin_n2 (y : Addr) (lb cb : Nat) (w : World) (_ : lb ≤ cb) (kb2 : cb ≤ maxLen) :
    Calls Try.prog 5 #[.slice none 0 0, .slice (some y) lb cb, .slice none 0 0] w fun e w' => e = .returned (.bool true) ∧ Below w.heap.size w w' := by
  obtain ⟨i, hi, hz0, hz1, hz2⟩ := info_parts info5
  have hmin := run_min3 0 lb 0 0 (by omega)
  rw [show ((0 : Nat) : Int) = 0 from rfl] at hmin
  have cA : Hid (∀ w', Calls Try.prog 9 #[.slice none 0 0] w' fun e w2 => e = .returned (.int .i64 0) ∧ w2 = w') := hide (sum_none none 0 (fun _ => rfl) (Nat.zero_le _))
  have cB : Hid (∀ w', Calls Try.prog 9 #[.slice (some y) 0 cb] w' fun e w2 => e = .returned (.int .i64 0) ∧ w2 = w') := hide (sum_none _ cb (fun h => by cases h) kb2)
  have cC : Hid (∀ w', Calls Try.prog 9 #[.slice none 0 0] w' fun e w2 => e = .returned (.int .i64 0) ∧ w2 = w') := hide (sum_none none 0 (fun _ => rfl) (Nat.zero_le _))
  have cD : Hid (∀ w', Calls Try.prog 9 #[.slice (some ⟨w.heap.size, 0, none⟩) 0 0] w' fun e w2 => e = .returned (.int .i64 0) ∧ w2 = w') := hide (sum_none _ 0 (fun h => by cases h) (Nat.zero_le _))
  unfold maxLen at kb2
  have x0 : bits .xor .i64 0 0 = 0 := by decide
  go_enter Try.func5, Try.ntmps5
  go_wp2_with (at_make; refine wpList_make_full _ rfl _ _ 22 rfl w.heap.size 5 i (.int .u8 0) 1 Try.underlying22 hi hz0 hz1 .i64 .i64 0 0 0 rfl rfl rfl rfl (by rw [hz2]; omega) (by unfold maxLen; omega) (Nat.le_refl _) ?_)
  intro w1 _ hgrow
  have hbel : Below w.heap.size w w1 := (Below.refl _ _).grown hgrow (Nat.le_refl _) (by intro k h; cases h)
  clear hgrow
  go_wp2
  go_loopw [9] (fun xi w2 => xi = .int .i64 0 ∧ w2 = w1) (fun _ _ => 0)
  case atStart => exact ⟨rfl, rfl⟩
  case round =>
    obtain ⟨rfl, hw⟩ := hrel
    obtain rfl := hw.symm
    go_wp2_with (go_at_call 9; refine (unhide cD _).mono ?_; rintro e w3 ⟨rfl, hw⟩; obtain rfl := hw.symm)
    go_region_held3 (fun w' => Below w.heap.size w w')
      (first
        | assumption
        | exact below_drewN (by assumption) _
        | exact below_drewN (by assumption) 1)
      (first
        | (go_at_call 9; with_reducible refine (unhide cA _).mono ?_; rintro e w9 ⟨rfl, rfl⟩)
        | (go_at_call 9; with_reducible refine (unhide cB _).mono ?_; rintro e w9 ⟨rfl, rfl⟩)
        | (go_at_call 9; with_reducible refine (unhide cC _).mono ?_; rintro e w9 ⟨rfl, rfl⟩)
        | (go_at_call 14; refine (wakes_any _).mono ?_; rintro e w9 ⟨rfl, b9⟩; first | have b10 := below_of hbel b9 | have b10 := below_of (below_drewN hbel 1) b9 | have b10 := below_of (below_drewN hbel _) b9))
    go_wp2
    go_ret
    exact ⟨rfl, b10⟩
set_option maxRecDepth 100000 in
set_option maxHeartbeats 1000000 in
theorem lin_n3 (x : Addr) (la ca : Nat) (y : Addr) (lb cb : Nat) (w : World) (_ : la ≤ ca) (ka2 : ca ≤ maxLen) (_ : lb ≤ cb) (kb2 : cb ≤ maxLen) :
    Calls Try.prog 5 #[.slice (some x) la ca, .slice (some y) lb cb, .slice none 0 0] w fun e w' => e = .returned (.bool true) ∧ Below w.heap.size w w' := by
  obtain ⟨i, hi, hz0, hz1, hz2⟩ := info_parts info5
  have hmin := run_min3 la lb 0 0 (by omega)
  rw [show ((0 : Nat) : Int) = 0 from rfl] at hmin
  have cA : Hid (∀ w', Calls Try.prog 9 #[.slice (some x) 0 ca] w' fun e w2 => e = .returned (.int .i64 0) ∧ w2 = w') := hide (sum_none _ ca (fun h => by cases h) ka2)
  have cB : Hid (∀ w', Calls Try.prog 9 #[.slice (some y) 0 cb] w' fun e w2 => e = .returned (.int .i64 0) ∧ w2 = w') := hide (sum_none _ cb (fun h => by cases h) kb2)
  have cC : Hid (∀ w', Calls Try.prog 9 #[.slice none 0 0] w' fun e w2 => e = .returned (.int .i64 0) ∧ w2 = w') := hide (sum_none none 0 (fun _ => rfl) (Nat.zero_le _))
  have cD : Hid (∀ w', Calls Try.prog 9 #[.slice (some ⟨w.heap.size, 0, none⟩) 0 0] w' fun e w2 => e = .returned (.int .i64 0) ∧ w2 = w') := hide (sum_none _ 0 (fun h => by cases h) (Nat.zero_le _))
  unfold maxLen at ka2 kb2
  have x0 : bits .xor .i64 0 0 = 0 := by decide
  go_enter Try.func5, Try.ntmps5
  go_wp2_with (at_make; refine wpList_make_full _ rfl _ _ 22 rfl w.heap.size 5 i (.int .u8 0) 1 Try.underlying22 hi hz0 hz1 .i64 .i64 0 0 0 rfl rfl rfl rfl (by rw [hz2]; omega) (by unfold maxLen; omega) (Nat.le_refl _) ?_)
  intro w1 _ hgrow
  have hbel : Below w.heap.size w w1 := (Below.refl _ _).grown hgrow (Nat.le_refl _) (by intro k h; cases h)
  clear hgrow
  go_wp2
  go_loopw [9] (fun xi w2 => xi = .int .i64 0 ∧ w2 = w1) (fun _ _ => 0)
  case atStart => exact ⟨rfl, rfl⟩
  case round =>
    obtain ⟨rfl, hw⟩ := hrel
    obtain rfl := hw.symm
    go_wp2_with (go_at_call 9; refine (unhide cD _).mono ?_; rintro e w3 ⟨rfl, hw⟩; obtain rfl := hw.symm)
    go_region_held3 (fun w' => Below w.heap.size w w')
      (first
        | assumption
        | exact below_drewN (by assumption) _
        | exact below_drewN (by assumption) 1)
      (first
        | (go_at_call 9; with_reducible refine (unhide cA _).mono ?_; rintro e w9 ⟨rfl, rfl⟩)
        | (go_at_call 9; with_reducible refine (unhide cB _).mono ?_; rintro e w9 ⟨rfl, rfl⟩)
        | (go_at_call 9; with_reducible refine (unhide cC _).mono ?_; rintro e w9 ⟨rfl, rfl⟩)
        | (go_at_call 14; refine (wakes_any _).mono ?_; rintro e w9 ⟨rfl, b9⟩; first | have b10 := below_of hbel b9 | have b10 := below_of (below_drewN hbel 1) b9 | have b10 := below_of (below_drewN hbel _) b9))
    go_wp2
    go_ret
    exact ⟨rfl, b10⟩
set_option maxRecDepth 100000 in
set_option maxHeartbeats 1000000 in
theorem lin_n4 (z : Addr) (lc cc : Nat) (w : World) (_ : lc ≤ cc) (kc2 : cc ≤ maxLen) :
    Calls Try.prog 5 #[.slice none 0 0, .slice none 0 0, .slice (some z) lc cc] w fun e w' => e = .returned (.bool true) ∧ Below w.heap.size w w' := by
  obtain ⟨i, hi, hz0, hz1, hz2⟩ := info_parts info5
  have hmin := run_min3 0 0 lc 0 (by omega)
  rw [show ((0 : Nat) : Int) = 0 from rfl] at hmin
  have cA : Hid (∀ w', Calls Try.prog 9 #[.slice none 0 0] w' fun e w2 => e = .returned (.int .i64 0) ∧ w2 = w') := hide (sum_none none 0 (fun _ => rfl) (Nat.zero_le _))
  have cB : Hid (∀ w', Calls Try.prog 9 #[.slice none 0 0] w' fun e w2 => e = .returned (.int .i64 0) ∧ w2 = w') := hide (sum_none none 0 (fun _ => rfl) (Nat.zero_le _))
  have cC : Hid (∀ w', Calls Try.prog 9 #[.slice (some z) 0 cc] w' fun e w2 => e = .returned (.int .i64 0) ∧ w2 = w') := hide (sum_none _ cc (fun h => by cases h) kc2)
  have cD : Hid (∀ w', Calls Try.prog 9 #[.slice (some ⟨w.heap.size, 0, none⟩) 0 0] w' fun e w2 => e = .returned (.int .i64 0) ∧ w2 = w') := hide (sum_none _ 0 (fun h => by cases h) (Nat.zero_le _))
  unfold maxLen at kc2
  have x0 : bits .xor .i64 0 0 = 0 := by decide
  go_enter Try.func5, Try.ntmps5
  go_wp2_with (at_make; refine wpList_make_full _ rfl _ _ 22 rfl w.heap.size 5 i (.int .u8 0) 1 Try.underlying22 hi hz0 hz1 .i64 .i64 0 0 0 rfl rfl rfl rfl (by rw [hz2]; omega) (by unfold maxLen; omega) (Nat.le_refl _) ?_)
  intro w1 _ hgrow
  have hbel : Below w.heap.size w w1 := (Below.refl _ _).grown hgrow (Nat.le_refl _) (by intro k h; cases h)
  clear hgrow
  go_wp2
  go_loopw [9] (fun xi w2 => xi = .int .i64 0 ∧ w2 = w1) (fun _ _ => 0)
  case atStart => exact ⟨rfl, rfl⟩
  case round =>
    obtain ⟨rfl, hw⟩ := hrel
    obtain rfl := hw.symm
    go_wp2_with (go_at_call 9; refine (unhide cD _).mono ?_; rintro e w3 ⟨rfl, hw⟩; obtain rfl := hw.symm)
    go_region_held3 (fun w' => Below w.heap.size w w')
      (first
        | assumption
        | exact below_drewN (by assumption) _
        | exact below_drewN (by assumption) 1)
      (first
        | (go_at_call 9; with_reducible refine (unhide cA _).mono ?_; rintro e w9 ⟨rfl, rfl⟩)
        | (go_at_call 9; with_reducible refine (unhide cB _).mono ?_; rintro e w9 ⟨rfl, rfl⟩)
        | (go_at_call 9; with_reducible refine (unhide cC _).mono ?_; rintro e w9 ⟨rfl, rfl⟩)
        | (go_at_call 14; refine (wakes_any _).mono ?_; rintro e w9 ⟨rfl, b9⟩; first | have b10 := below_of hbel b9 | have b10 := below_of (below_drewN hbel 1) b9 | have b10 := below_of (below_drewN hbel _) b9))
    go_wp2
    go_ret
    exact ⟨rfl, b10⟩
set_option maxRecDepth 100000 in
set_option maxHeartbeats 1000000 in
theorem lin_n5 (x : Addr) (la ca : Nat) (z : Addr) (lc cc : Nat) (w : World) (_ : la ≤ ca) (ka2 : ca ≤ maxLen) (_ : lc ≤ cc) (kc2 : cc ≤ maxLen) :
    Calls Try.prog 5 #[.slice (some x) la ca, .slice none 0 0, .slice (some z) lc cc] w fun e w' => e = .returned (.bool true) ∧ Below w.heap.size w w' := by
  obtain ⟨i, hi, hz0, hz1, hz2⟩ := info_parts info5
  have hmin := run_min3 la 0 lc 0 (by omega)
  rw [show ((0 : Nat) : Int) = 0 from rfl] at hmin
  have cA : Hid (∀ w', Calls Try.prog 9 #[.slice (some x) 0 ca] w' fun e w2 => e = .returned (.int .i64 0) ∧ w2 = w') := hide (sum_none _ ca (fun h => by cases h) ka2)
  have cB : Hid (∀ w', Calls Try.prog 9 #[.slice none 0 0] w' fun e w2 => e = .returned (.int .i64 0) ∧ w2 = w') := hide (sum_none none 0 (fun _ => rfl) (Nat.zero_le _))
  have cC : Hid (∀ w', Calls Try.prog 9 #[.slice (some z) 0 cc] w' fun e w2 => e = .returned (.int .i64 0) ∧ w2 = w') := hide (sum_none _ cc (fun h => by cases h) kc2)
  have cD : Hid (∀ w', Calls Try.prog 9 #[.slice (some ⟨w.heap.size, 0, none⟩) 0 0] w' fun e w2 => e = .returned (.int .i64 0) ∧ w2 = w') := hide (sum_none _ 0 (fun h => by cases h) (Nat.zero_le _))
  unfold maxLen at ka2 kc2
  have x0 : bits .xor .i64 0 0 = 0 := by decide
  go_enter Try.func5, Try.ntmps5
  go_wp2_with (at_make; refine wpList_make_full _ rfl _ _ 22 rfl w.heap.size 5 i (.int .u8 0) 1 Try.underlying22 hi hz0 hz1 .i64 .i64 0 0 0 rfl rfl rfl rfl (by rw [hz2]; omega) (by unfold maxLen; omega) (Nat.le_refl _) ?_)
  intro w1 _ hgrow
  have hbel : Below w.heap.size w w1 := (Below.refl _ _).grown hgrow (Nat.le_refl _) (by intro k h; cases h)
  clear hgrow
  go_wp2
  go_loopw [9] (fun xi w2 => xi = .int .i64 0 ∧ w2 = w1) (fun _ _ => 0)
  case atStart => exact ⟨rfl, rfl⟩
  case round =>
    obtain ⟨rfl, hw⟩ := hrel
    obtain rfl := hw.symm
    go_wp2_with (go_at_call 9; refine (unhide cD _).mono ?_; rintro e w3 ⟨rfl, hw⟩; obtain rfl := hw.symm)
    go_region_held3 (fun w' => Below w.heap.size w w')
      (first
        | assumption
        | exact below_drewN (by assumption) _
        | exact below_drewN (by assumption) 1)
      (first
        | (go_at_call 9; with_reducible refine (unhide cA _).mono ?_; rintro e w9 ⟨rfl, rfl⟩)
        | (go_at_call 9; with_reducible refine (unhide cB _).mono ?_; rintro e w9 ⟨rfl, rfl⟩)
        | (go_at_call 9; with_reducible refine (unhide cC _).mono ?_; rintro e w9 ⟨rfl, rfl⟩)
        | (go_at_call 14; refine (wakes_any _).mono ?_; rintro e w9 ⟨rfl, b9⟩; first | have b10 := below_of hbel b9 | have b10 := below_of (below_drewN hbel 1) b9 | have b10 := below_of (below_drewN hbel _) b9))
    go_wp2
    go_ret
    exact ⟨rfl, b10⟩
set_option maxRecDepth 100000 in
set_option maxHeartbeats 1000000 in
theorem lin_n6 (y : Addr) (lb cb : Nat) (z : Addr) (lc cc : Nat) (w : World) (_ : lb ≤ cb) (kb2 : cb ≤ maxLen) (_ : lc ≤ cc) (kc2 : cc ≤ maxLen) :
    Calls Try.prog 5 #[.slice none 0 0, .slice (some y) lb cb, .slice (some z) lc cc] w fun e w' => e = .returned (.bool true) ∧ Below w.heap.size w w' := by
  obtain ⟨i, hi, hz0, hz1, hz2⟩ := info_parts info5
  have hmin := run_min3 0 lb lc 0 (by omega)
  rw [show ((0 : Nat) : Int) = 0 from rfl] at hmin
  have cA : Hid (∀ w', Calls Try.prog 9 #[.slice none 0 0] w' fun e w2 => e = .returned (.int .i64 0) ∧ w2 = w') := hide (sum_none none 0 (fun _ => rfl) (Nat.zero_le _))
  have cB : Hid (∀ w', Calls Try.prog 9 #[.slice (some y) 0 cb] w' fun e w2 => e = .returned (.int .i64 0) ∧ w2 = w') := hide (sum_none _ cb (fun h => by cases h) kb2)
  have cC : Hid (∀ w', Calls Try.prog 9 #[.slice (some z) 0 cc] w' fun e w2 => e = .returned (.int .i64 0) ∧ w2 = w') := hide (sum_none _ cc (fun h => by cases h) kc2)
  have cD : Hid (∀ w', Calls Try.prog 9 #[.slice (some ⟨w.heap.size, 0, none⟩) 0 0] w' fun e w2 => e = .returned (.int .i64 0) ∧ w2 = w') := hide (sum_none _ 0 (fun h => by cases h) (Nat.zero_le _))
  unfold maxLen at kb2 kc2
  have x0 : bits .xor .i64 0 0 = 0 := by decide
  go_enter Try.func5, Try.ntmps5
  go_wp2_with (at_make; refine wpList_make_full _ rfl _ _ 22 rfl w.heap.size 5 i (.int .u8 0) 1 Try.underlying22 hi hz0 hz1 .i64 .i64 0 0 0 rfl rfl rfl rfl (by rw [hz2]; omega) (by unfold maxLen; omega) (Nat.le_refl _) ?_)
  intro w1 _ hgrow
  have hbel : Below w.heap.size w w1 := (Below.refl _ _).grown hgrow (Nat.le_refl _) (by intro k h; cases h)
  clear hgrow
  go_wp2
  go_loopw [9] (fun xi w2 => xi = .int .i64 0 ∧ w2 = w1) (fun _ _ => 0)
  case atStart => exact ⟨rfl, rfl⟩
  case round =>
    obtain ⟨rfl, hw⟩ := hrel
    obtain rfl := hw.symm
    go_wp2_with (go_at_call 9; refine (unhide cD _).mono ?_; rintro e w3 ⟨rfl, hw⟩; obtain rfl := hw.symm)
    go_region_held3 (fun w' => Below w.heap.size w w')
      (first
        | assumption
        | exact below_drewN (by assumption) _
        | exact below_drewN (by assumption) 1)
      (first
        | (go_at_call 9; with_reducible refine (unhide cA _).mono ?_; rintro e w9 ⟨rfl, rfl⟩)
        | (go_at_call 9; with_reducible refine (unhide cB _).mono ?_; rintro e w9 ⟨rfl, rfl⟩)
        | (go_at_call 9; with_reducible refine (unhide cC _).mono ?_; rintro e w9 ⟨rfl, rfl⟩)
        | (go_at_call 14; refine (wakes_any _).mono ?_; rintro e w9 ⟨rfl, b9⟩; first | have b10 := below_of hbel b9 | have b10 := below_of (below_drewN hbel 1) b9 | have b10 := below_of (below_drewN hbel _) b9))
    go_wp2
    go_ret
    exact ⟨rfl, b10⟩
set_option maxRecDepth 100000 in
set_option maxHeartbeats 1000000 in
theorem lin_n7 (x : Addr) (la ca : Nat) (y : Addr) (lb cb : Nat) (z : Addr) (lc cc : Nat) (w : World) (_ : la ≤ ca) (ka2 : ca ≤ maxLen) (_ : lb ≤ cb) (kb2 : cb ≤ maxLen) (_ : lc ≤ cc) (kc2 : cc ≤ maxLen) (hn : 0 = min (min la lb) lc) :
    Calls Try.prog 5 #[.slice (some x) la ca, .slice (some y) lb cb, .slice (some z) lc cc] w fun e w' => e = .returned (.bool true) ∧ Below w.heap.size w w' := by
  obtain ⟨i, hi, hz0, hz1, hz2⟩ := info_parts info5
  have hmin := run_min3 la lb lc 0 hn
  have cA : Hid (∀ w', Calls Try.prog 9 #[.slice (some x) 0 ca] w' fun e w2 => e = .returned (.int .i64 0) ∧ w2 = w') := hide (sum_none _ ca (fun h => by cases h) ka2)
  have cB : Hid (∀ w', Calls Try.prog 9 #[.slice (some y) 0 cb] w' fun e w2 => e = .returned (.int .i64 0) ∧ w2 = w') := hide (sum_none _ cb (fun h => by cases h) kb2)
  have cC : Hid (∀ w', Calls Try.prog 9 #[.slice (some z) 0 cc] w' fun e w2 => e = .returned (.int .i64 0) ∧ w2 = w') := hide (sum_none _ cc (fun h => by cases h) kc2)
  have cD : Hid (∀ w', Calls Try.prog 9 #[.slice (some ⟨w.heap.size, 0, none⟩) 0 0] w' fun e w2 => e = .returned (.int .i64 0) ∧ w2 = w') := hide (sum_none _ 0 (fun h => by cases h) (Nat.zero_le _))
  unfold maxLen at ka2 kb2 kc2
  have x0 : bits .xor .i64 0 0 = 0 := by decide
  clear hn
  go_enter Try.func5, Try.ntmps5
  go_wp2_with (at_make; refine wpList_make_full _ rfl _ _ 22 rfl w.heap.size 5 i (.int .u8 0) 1 Try.underlying22 hi hz0 hz1 .i64 .i64 0 0 0 rfl rfl rfl rfl (by rw [hz2]; omega) (by unfold maxLen; omega) (Nat.le_refl _) ?_)
  intro w1 _ hgrow
  have hbel : Below w.heap.size w w1 := (Below.refl _ _).grown hgrow (Nat.le_refl _) (by intro k h; cases h)
  clear hgrow
  go_wp2
  go_loopw [9] (fun xi w2 => xi = .int .i64 0 ∧ w2 = w1) (fun _ _ => 0)
  case atStart => exact ⟨rfl, rfl⟩
  case round =>
    obtain ⟨rfl, hw⟩ := hrel
    obtain rfl := hw.symm
    go_wp2_with (go_at_call 9; refine (unhide cD _).mono ?_; rintro e w3 ⟨rfl, hw⟩; obtain rfl := hw.symm)
    go_region_held3 (fun w' => Below w.heap.size w w')
      (first
        | assumption
        | exact below_drewN (by assumption) _
        | exact below_drewN (by assumption) 1)
      (first
        | (go_at_call 9; with_reducible refine (unhide cA _).mono ?_; rintro e w9 ⟨rfl, rfl⟩)
        | (go_at_call 9; with_reducible refine (unhide cB _).mono ?_; rintro e w9 ⟨rfl, rfl⟩)
        | (go_at_call 9; with_reducible refine (unhide cC _).mono ?_; rintro e w9 ⟨rfl, rfl⟩)
        | (go_at_call 14; refine (wakes_any _).mono ?_; rintro e w9 ⟨rfl, b9⟩; first | have b10 := below_of hbel b9 | have b10 := below_of (below_drewN hbel 1) b9 | have b10 := below_of (below_drewN hbel _) b9))
    go_wp2
    go_ret
    exact ⟨rfl, b10⟩
theorem lin_none (p q r : Option Addr) (la lb lc ca cb cc : Nat) (w : World) (hp : p = none → la = 0 ∧ ca = 0) (hq : q = none → lb = 0 ∧ cb = 0) (hr : r = none → lc = 0 ∧ cc = 0)
    (ka : la ≤ ca ∧ ca ≤ maxLen) (kb : lb ≤ cb ∧ cb ≤ maxLen) (kc : lc ≤ cc ∧ cc ≤ maxLen) (hn : 0 = min (min la lb) lc) :
    Calls Try.prog 5 #[.slice p la ca, .slice q lb cb, .slice r lc cc] w fun e w' => e = .returned (.bool true) ∧ Below w.heap.size w w' := by
  cases p with
  | none =>
    obtain ⟨rfl, rfl⟩ := hp rfl
    cases q with
    | none =>
      obtain ⟨rfl, rfl⟩ := hq rfl
      cases r with
      | none =>
        obtain ⟨rfl, rfl⟩ := hr rfl
        exact lin_n0 w
      | some z =>
        exact lin_n4 z lc cc w kc.1 kc.2
    | some y =>
      cases r with
      | none =>
        obtain ⟨rfl, rfl⟩ := hr rfl
        exact lin_n2 y lb cb w kb.1 kb.2
      | some z =>
        exact lin_n6 y lb cb z lc cc w kb.1 kb.2 kc.1 kc.2
  | some x =>
    cases q with
    | none =>
      obtain ⟨rfl, rfl⟩ := hq rfl
      cases r with
      | none =>
        obtain ⟨rfl, rfl⟩ := hr rfl
        exact lin_n1 x la ca w ka.1 ka.2
      | some z =>
        exact lin_n5 x la ca z lc cc w ka.1 ka.2 kc.1 kc.2
    | some y =>
      cases r with
      | none =>
        obtain ⟨rfl, rfl⟩ := hr rfl
        exact lin_n3 x la ca y lb cb w ka.1 ka.2 kb.1 kb.2
      | some z =>
        exact lin_n7 x la ca y lb cb z lc cc w ka.1 ka.2 kb.1 kb.2 kc.1 kc.2 hn
end Go.Proofs.Ytfkhapliblnacaa
