/- Walk of Check. -/
import Derived.Test.YtfhglganaebpoaaDoorE8
namespace Go.Proofs.YtfhglganaebpoaaDoor
open Go.RowKit

theorem as_fe2 (s x s' x' : Value) (e : Addr) (g : Nat) (w : World) (hG : Glob w e) (ht : Has w g (.cells #[s', x'] 58)) (h1 : s.oneCell' = true) (h2 : x.oneCell' = true) :
    Calls Tryd.prog 27 #[.iface 58 (.agg #[s, x]), .iface 60 (.pointer (some ⟨g, 0, none⟩))] w fun ev w' => ev = .returned (.bool true) ∧ Has w' g (.cells #[s, x] 58) ∧ ∀ B, B ≤ g → Below B w w' :=
  as_fe s x s' x' e g w hG ht (by simp [h1, h2])
/-- What Check answers. -/
def chkE (c : Cf) (s : Stp) : Int := if cfB c then stE c s else 13

set_option maxHeartbeats 4000000 in
set_option maxRecDepth 100000 in
theorem check_bad (c : Cf) (s : Stp) (e : Addr) (w : World) (hG : Glob w e) (hc : cfB c = false) : Calls Tryd.prog 17 #[cV c, sV s] w fun ev w' => ev = .returned (.int .i64 13) ∧ Below w.heap.size w w' := by
  obtain ⟨f0, f1, f2, f3, f4, f5, f6⟩ := c
  obtain ⟨kd, nd, tp, vl, ms⟩ := s
  have hlt := hG.1
  have X0 := hide hG
  obtain ⟨w1, hw1⟩ : ∃ q, q = (w.alloc (.cells #[.int .i64 f0, .int .i64 f1, .int .i64 f2, .int .i64 f3, .int .i64 f4, .int .i64 f5, .int .i64 f6] 23)).alloc (.cells #[.int .i64 kd, .int .i64 nd, .int .i64 tp, .int .i64 vl, .int .i64 ms] 27) := ⟨_, rfl⟩
  have B1 : Below w.heap.size w w1 := by subst hw1; exact below_alloc (below_alloc (Below.refl _ _) _) _
  have HA : Has w1 w.heap.size (.cells #[.int .i64 f0, .int .i64 f1, .int .i64 f2, .int .i64 f3, .int .i64 f4, .int .i64 f5, .int .i64 f6] 23) := by subst hw1; exact (Has.new _ _).alloc _
  have HB : Has w1 (w.heap.size + 1) (.cells #[.int .i64 kd, .int .i64 nd, .int .i64 tp, .int .i64 vl, .int .i64 ms] 27) := by subst hw1; have := Has.new (w.alloc (.cells #[.int .i64 f0, .int .i64 f1, .int .i64 f2, .int .i64 f3, .int .i64 f4, .int .i64 f5, .int .i64 f6] 23)) (.cells #[.int .i64 kd, .int .i64 nd, .int .i64 tp, .int .i64 vl, .int .i64 ms] 27); simpa using this
  have HG := hide (hG.below B1)
  have GB := hide B1
  unfold cV at *
  unfold sV at *
  dsimp only at *
  clear hG
  go_enter Tryd.func17, Tryd.ntmps17
  go_upto_region 1 with fail
  rw [← hw1]
  clear hw1 B1
  have C1 := hide (config_any ⟨f0, f1, f2, f3, f4, f5, f6⟩ e w1 (unhide HG))
  unfold cV at C1
  dsimp only at C1
  rw [show cfE ⟨f0, f1, f2, f3, f4, f5, f6⟩ = 13 by simp [cfE, hc]] at C1
  clear hc
  have c0 := HA.cell (k := 0) rfl
  have c1 := HA.cell (k := 1) rfl
  have c2 := HA.cell (k := 2) rfl
  have c3 := HA.cell (k := 3) rfl
  have c4 := HA.cell (k := 4) rfl
  have c5 := HA.cell (k := 5) rfl
  have c6 := HA.cell (k := 6) rfl
  clear HA HB
  go_wp2_with (first
    | (go_at_call 11; (with_reducible refine (unhide C1).mono ?_); rintro ev w2 ⟨rfl, b2⟩; replace GB := hide (below_of (unhide GB) b2); clear b2))
  go_ret
  exact ⟨rfl, unhide GB⟩

set_option maxHeartbeats 4000000 in
set_option maxRecDepth 100000 in
theorem check_nil (c : Cf) (s : Stp) (e : Addr) (w : World) (hG : Glob w e) (hc : cfB c = true) (hv : wfV c s e = .nilIface) : Calls Tryd.prog 17 #[cV c, sV s] w fun ev w' => ev = .returned (.int .i64 0) ∧ Below w.heap.size w w' := by
  obtain ⟨f0, f1, f2, f3, f4, f5, f6⟩ := c
  obtain ⟨kd, nd, tp, vl, ms⟩ := s
  have hlt := hG.1
  have X0 := hide hG
  obtain ⟨w1, hw1⟩ : ∃ q, q = (w.alloc (.cells #[.int .i64 f0, .int .i64 f1, .int .i64 f2, .int .i64 f3, .int .i64 f4, .int .i64 f5, .int .i64 f6] 23)).alloc (.cells #[.int .i64 kd, .int .i64 nd, .int .i64 tp, .int .i64 vl, .int .i64 ms] 27) := ⟨_, rfl⟩
  have B1 : Below w.heap.size w w1 := by subst hw1; exact below_alloc (below_alloc (Below.refl _ _) _) _
  have HA : Has w1 w.heap.size (.cells #[.int .i64 f0, .int .i64 f1, .int .i64 f2, .int .i64 f3, .int .i64 f4, .int .i64 f5, .int .i64 f6] 23) := by subst hw1; exact (Has.new _ _).alloc _
  have HB : Has w1 (w.heap.size + 1) (.cells #[.int .i64 kd, .int .i64 nd, .int .i64 tp, .int .i64 vl, .int .i64 ms] 27) := by subst hw1; have := Has.new (w.alloc (.cells #[.int .i64 f0, .int .i64 f1, .int .i64 f2, .int .i64 f3, .int .i64 f4, .int .i64 f5, .int .i64 f6] 23)) (.cells #[.int .i64 kd, .int .i64 nd, .int .i64 tp, .int .i64 vl, .int .i64 ms] 27); simpa using this
  have HG := hide (hG.below B1)
  have GB := hide B1
  unfold cV at *
  unfold sV at *
  dsimp only at *
  clear hG
  go_enter Tryd.func17, Tryd.ntmps17
  go_upto_region 1 with fail
  rw [← hw1]
  clear hw1 B1
  have C1 := hide (config_any ⟨f0, f1, f2, f3, f4, f5, f6⟩ e w1 (unhide HG))
  have C26 : Hid (∀ w2, Glob w2 e → Calls Tryd.prog 26 #[cV ⟨f0, f1, f2, f3, f4, f5, f6⟩, sV ⟨kd, nd, tp, vl, ms⟩] w2 fun ev w' => ev = .returned (.nilIface) ∧ Below w2.heap.size w2 w') := hide fun w2 h => by
    have := wrongField_any ⟨f0, f1, f2, f3, f4, f5, f6⟩ ⟨kd, nd, tp, vl, ms⟩ e w2 h hc
    rwa [hv] at this
  unfold cV at C1 C26
  unfold sV at C26
  dsimp only at C1 C26
  rw [show cfE ⟨f0, f1, f2, f3, f4, f5, f6⟩ = 0 by simp [cfE, hc]] at C1
  clear hc hv
  have c0 := HA.cell (k := 0) rfl
  have c1 := HA.cell (k := 1) rfl
  have c2 := HA.cell (k := 2) rfl
  have c3 := HA.cell (k := 3) rfl
  have c4 := HA.cell (k := 4) rfl
  have c5 := HA.cell (k := 5) rfl
  have c6 := HA.cell (k := 6) rfl
  go_wp2_with (first
    | (go_at_call 11; (with_reducible refine (unhide C1).mono ?_); rintro ev w2 ⟨rfl, b2⟩; have G2 := hide ((unhide HG).below b2); replace GB := hide (below_of (unhide GB) b2); have HA2 := hide (HA.below b2); have HB2 := hide (HB.below b2); clear b2 c0 c1 c2 c3 c4 c5 c6; have c0 := (unhide HA2).cell (k := 0) rfl; have c1 := (unhide HA2).cell (k := 1) rfl; have c2 := (unhide HA2).cell (k := 2) rfl; have c3 := (unhide HA2).cell (k := 3) rfl; have c4 := (unhide HA2).cell (k := 4) rfl; have c5 := (unhide HA2).cell (k := 5) rfl; have c6 := (unhide HA2).cell (k := 6) rfl; have s0 := (unhide HB2).cell (k := 0) rfl; have s1 := (unhide HB2).cell (k := 1) rfl; have s2 := (unhide HB2).cell (k := 2) rfl; have s3 := (unhide HB2).cell (k := 3) rfl; have s4 := (unhide HB2).cell (k := 4) rfl; have l2 := (unhide HA2).1; have m2 := (unhide HB2).1)
    | (go_at_call 26; (with_reducible refine (unhide C26 _ (unhide G2)).mono ?_); rintro ev w3 ⟨rfl, b3⟩; have G3 := hide ((unhide G2).below b3); replace GB := hide (below_of (unhide GB) b3); clear b3 l2 m2 c0 c1 c2 c3 c4 c5 c6 s0 s1 s2 s3 s4)
    | (go_at_call 27; refine (as_nil _ _).mono ?_; rintro ev w4 ⟨rfl, rfl⟩; replace GB := hide (below_alloc (unhide GB) (.cells #[.string { data := #[] }, .nilIface] 58)); have g4 := ((unhide G3).below (below_alloc (Below.refl w3.heap.size w3) (.cells #[.string { data := #[] }, .nilIface] 58))).2.1)
    | (go_at_call 22; refine (is_nil _ _).mono ?_; rintro ev w5 ⟨rfl, rfl⟩))
  go_ret
  exact ⟨rfl, unhide GB⟩

set_option maxHeartbeats 4000000 in
set_option maxRecDepth 100000 in
theorem check_node (c : Cf) (s : Stp) (e : Addr) (w : World) (hG : Glob w e) (hc : cfB c = true) (hv : wfV c s e = feV (.string { data := #[78, 111, 100, 101] }) e) : Calls Tryd.prog 17 #[cV c, sV s] w fun ev w' => ev = .returned (.int .i64 9) ∧ Below w.heap.size w w' := by
  obtain ⟨f0, f1, f2, f3, f4, f5, f6⟩ := c
  obtain ⟨kd, nd, tp, vl, ms⟩ := s
  have hlt := hG.1
  have X0 := hide hG
  obtain ⟨w1, hw1⟩ : ∃ q, q = (w.alloc (.cells #[.int .i64 f0, .int .i64 f1, .int .i64 f2, .int .i64 f3, .int .i64 f4, .int .i64 f5, .int .i64 f6] 23)).alloc (.cells #[.int .i64 kd, .int .i64 nd, .int .i64 tp, .int .i64 vl, .int .i64 ms] 27) := ⟨_, rfl⟩
  have B1 : Below w.heap.size w w1 := by subst hw1; exact below_alloc (below_alloc (Below.refl _ _) _) _
  have HA : Has w1 w.heap.size (.cells #[.int .i64 f0, .int .i64 f1, .int .i64 f2, .int .i64 f3, .int .i64 f4, .int .i64 f5, .int .i64 f6] 23) := by subst hw1; exact (Has.new _ _).alloc _
  have HB : Has w1 (w.heap.size + 1) (.cells #[.int .i64 kd, .int .i64 nd, .int .i64 tp, .int .i64 vl, .int .i64 ms] 27) := by subst hw1; have := Has.new (w.alloc (.cells #[.int .i64 f0, .int .i64 f1, .int .i64 f2, .int .i64 f3, .int .i64 f4, .int .i64 f5, .int .i64 f6] 23)) (.cells #[.int .i64 kd, .int .i64 nd, .int .i64 tp, .int .i64 vl, .int .i64 ms] 27); simpa using this
  have HG := hide (hG.below B1)
  have GB := hide B1
  unfold cV at *
  unfold sV at *
  dsimp only at *
  clear hG
  go_enter Tryd.func17, Tryd.ntmps17
  go_upto_region 1 with fail
  rw [← hw1]
  clear hw1 B1
  have C1 := hide (config_any ⟨f0, f1, f2, f3, f4, f5, f6⟩ e w1 (unhide HG))
  have C26 : Hid (∀ w2, Glob w2 e → Calls Tryd.prog 26 #[cV ⟨f0, f1, f2, f3, f4, f5, f6⟩, sV ⟨kd, nd, tp, vl, ms⟩] w2 fun ev w' => ev = .returned (feV (.string { data := #[78, 111, 100, 101] }) e) ∧ Below w2.heap.size w2 w') := hide fun w2 h => by
    have := wrongField_any ⟨f0, f1, f2, f3, f4, f5, f6⟩ ⟨kd, nd, tp, vl, ms⟩ e w2 h hc
    rwa [hv] at this
  unfold cV at C1 C26
  unfold sV at C26
  dsimp only at C1 C26
  rw [show cfE ⟨f0, f1, f2, f3, f4, f5, f6⟩ = 0 by simp [cfE, hc]] at C1
  clear hc hv
  have c0 := HA.cell (k := 0) rfl
  have c1 := HA.cell (k := 1) rfl
  have c2 := HA.cell (k := 2) rfl
  have c3 := HA.cell (k := 3) rfl
  have c4 := HA.cell (k := 4) rfl
  have c5 := HA.cell (k := 5) rfl
  have c6 := HA.cell (k := 6) rfl
  unfold feV at C26
  go_wp2_with (first
    | (go_at_call 11; (with_reducible refine (unhide C1).mono ?_); rintro ev w2 ⟨rfl, b2⟩; have G2 := hide ((unhide HG).below b2); replace GB := hide (below_of (unhide GB) b2); have HA2 := hide (HA.below b2); have HB2 := hide (HB.below b2); clear b2 c0 c1 c2 c3 c4 c5 c6; have c0 := (unhide HA2).cell (k := 0) rfl; have c1 := (unhide HA2).cell (k := 1) rfl; have c2 := (unhide HA2).cell (k := 2) rfl; have c3 := (unhide HA2).cell (k := 3) rfl; have c4 := (unhide HA2).cell (k := 4) rfl; have c5 := (unhide HA2).cell (k := 5) rfl; have c6 := (unhide HA2).cell (k := 6) rfl; have s0 := (unhide HB2).cell (k := 0) rfl; have s1 := (unhide HB2).cell (k := 1) rfl; have s2 := (unhide HB2).cell (k := 2) rfl; have s3 := (unhide HB2).cell (k := 3) rfl; have s4 := (unhide HB2).cell (k := 4) rfl; have l2 := (unhide HA2).1; have m2 := (unhide HB2).1)
    | (go_at_call 26; (with_reducible refine (unhide C26 _ (unhide G2)).mono ?_); rintro ev w3 ⟨rfl, b3⟩; have G3 := hide ((unhide G2).below b3); replace GB := hide (below_of (unhide GB) b3); clear b3 l2 m2 c0 c1 c2 c3 c4 c5 c6 s0 s1 s2 s3 s4)
    | (go_at_call 27; refine (as_fe2 _ _ (.string { data := #[] }) .nilIface e _ _ (Glob.below (unhide G3) (below_alloc (Below.refl _ _) _)) (Has.new _ _) rfl rfl).mono ?_; rintro ev w4 ⟨rfl, h4, b4⟩; have l4 := h4.1; have d4 := h4.cell (k := 0) rfl; have B4 := hide (b4 w3.heap.size (Nat.le_refl _)); replace GB := hide (below_of (unhide GB) ((below_alloc (Below.refl w3.heap.size w3) (.cells #[.string { data := #[] }, .nilIface] 58)).trans (unhide B4))); have g4 := ((unhide G3).below ((below_alloc (Below.refl w3.heap.size w3) (.cells #[.string { data := #[] }, .nilIface] 58)).trans (unhide B4))).2.1; clear h4 b4))
  go_ret
  exact ⟨rfl, unhide GB⟩

set_option maxHeartbeats 4000000 in
set_option maxRecDepth 100000 in
theorem check_topic (c : Cf) (s : Stp) (e : Addr) (w : World) (hG : Glob w e) (hc : cfB c = true) (hv : wfV c s e = feV (.string { data := #[84, 111, 112, 105, 99] }) e) : Calls Tryd.prog 17 #[cV c, sV s] w fun ev w' => ev = .returned (.int .i64 1) ∧ Below w.heap.size w w' := by
  obtain ⟨f0, f1, f2, f3, f4, f5, f6⟩ := c
  obtain ⟨kd, nd, tp, vl, ms⟩ := s
  have hlt := hG.1
  have X0 := hide hG
  obtain ⟨w1, hw1⟩ : ∃ q, q = (w.alloc (.cells #[.int .i64 f0, .int .i64 f1, .int .i64 f2, .int .i64 f3, .int .i64 f4, .int .i64 f5, .int .i64 f6] 23)).alloc (.cells #[.int .i64 kd, .int .i64 nd, .int .i64 tp, .int .i64 vl, .int .i64 ms] 27) := ⟨_, rfl⟩
  have B1 : Below w.heap.size w w1 := by subst hw1; exact below_alloc (below_alloc (Below.refl _ _) _) _
  have HA : Has w1 w.heap.size (.cells #[.int .i64 f0, .int .i64 f1, .int .i64 f2, .int .i64 f3, .int .i64 f4, .int .i64 f5, .int .i64 f6] 23) := by subst hw1; exact (Has.new _ _).alloc _
  have HB : Has w1 (w.heap.size + 1) (.cells #[.int .i64 kd, .int .i64 nd, .int .i64 tp, .int .i64 vl, .int .i64 ms] 27) := by subst hw1; have := Has.new (w.alloc (.cells #[.int .i64 f0, .int .i64 f1, .int .i64 f2, .int .i64 f3, .int .i64 f4, .int .i64 f5, .int .i64 f6] 23)) (.cells #[.int .i64 kd, .int .i64 nd, .int .i64 tp, .int .i64 vl, .int .i64 ms] 27); simpa using this
  have HG := hide (hG.below B1)
  have GB := hide B1
  unfold cV at *
  unfold sV at *
  dsimp only at *
  clear hG
  go_enter Tryd.func17, Tryd.ntmps17
  go_upto_region 1 with fail
  rw [← hw1]
  clear hw1 B1
  have C1 := hide (config_any ⟨f0, f1, f2, f3, f4, f5, f6⟩ e w1 (unhide HG))
  have C26 : Hid (∀ w2, Glob w2 e → Calls Tryd.prog 26 #[cV ⟨f0, f1, f2, f3, f4, f5, f6⟩, sV ⟨kd, nd, tp, vl, ms⟩] w2 fun ev w' => ev = .returned (feV (.string { data := #[84, 111, 112, 105, 99] }) e) ∧ Below w2.heap.size w2 w') := hide fun w2 h => by
    have := wrongField_any ⟨f0, f1, f2, f3, f4, f5, f6⟩ ⟨kd, nd, tp, vl, ms⟩ e w2 h hc
    rwa [hv] at this
  unfold cV at C1 C26
  unfold sV at C26
  dsimp only at C1 C26
  rw [show cfE ⟨f0, f1, f2, f3, f4, f5, f6⟩ = 0 by simp [cfE, hc]] at C1
  clear hc hv
  have c0 := HA.cell (k := 0) rfl
  have c1 := HA.cell (k := 1) rfl
  have c2 := HA.cell (k := 2) rfl
  have c3 := HA.cell (k := 3) rfl
  have c4 := HA.cell (k := 4) rfl
  have c5 := HA.cell (k := 5) rfl
  have c6 := HA.cell (k := 6) rfl
  unfold feV at C26
  go_wp2_with (first
    | (go_at_call 11; (with_reducible refine (unhide C1).mono ?_); rintro ev w2 ⟨rfl, b2⟩; have G2 := hide ((unhide HG).below b2); replace GB := hide (below_of (unhide GB) b2); have HA2 := hide (HA.below b2); have HB2 := hide (HB.below b2); clear b2 c0 c1 c2 c3 c4 c5 c6; have c0 := (unhide HA2).cell (k := 0) rfl; have c1 := (unhide HA2).cell (k := 1) rfl; have c2 := (unhide HA2).cell (k := 2) rfl; have c3 := (unhide HA2).cell (k := 3) rfl; have c4 := (unhide HA2).cell (k := 4) rfl; have c5 := (unhide HA2).cell (k := 5) rfl; have c6 := (unhide HA2).cell (k := 6) rfl; have s0 := (unhide HB2).cell (k := 0) rfl; have s1 := (unhide HB2).cell (k := 1) rfl; have s2 := (unhide HB2).cell (k := 2) rfl; have s3 := (unhide HB2).cell (k := 3) rfl; have s4 := (unhide HB2).cell (k := 4) rfl; have l2 := (unhide HA2).1; have m2 := (unhide HB2).1)
    | (go_at_call 26; (with_reducible refine (unhide C26 _ (unhide G2)).mono ?_); rintro ev w3 ⟨rfl, b3⟩; have G3 := hide ((unhide G2).below b3); replace GB := hide (below_of (unhide GB) b3); clear b3 l2 m2 c0 c1 c2 c3 c4 c5 c6 s0 s1 s2 s3 s4)
    | (go_at_call 27; refine (as_fe2 _ _ (.string { data := #[] }) .nilIface e _ _ (Glob.below (unhide G3) (below_alloc (Below.refl _ _) _)) (Has.new _ _) rfl rfl).mono ?_; rintro ev w4 ⟨rfl, h4, b4⟩; have l4 := h4.1; have d4 := h4.cell (k := 0) rfl; have B4 := hide (b4 w3.heap.size (Nat.le_refl _)); replace GB := hide (below_of (unhide GB) ((below_alloc (Below.refl w3.heap.size w3) (.cells #[.string { data := #[] }, .nilIface] 58)).trans (unhide B4))); have g4 := ((unhide G3).below ((below_alloc (Below.refl w3.heap.size w3) (.cells #[.string { data := #[] }, .nilIface] 58)).trans (unhide B4))).2.1; clear h4 b4)
    | (go_at_call 22; refine (is_fe _ _ _).mono ?_; rintro ev w5 ⟨rfl, b5⟩; replace GB := hide (below_of (unhide GB) b5)))
  go_ret
  exact ⟨rfl, unhide GB⟩

set_option maxHeartbeats 4000000 in
set_option maxRecDepth 100000 in
theorem check_value (c : Cf) (s : Stp) (e : Addr) (w : World) (hG : Glob w e) (hc : cfB c = true) (hv : wfV c s e = feV (.string { data := #[86, 97, 108, 117, 101] }) e) : Calls Tryd.prog 17 #[cV c, sV s] w fun ev w' => ev = .returned (.int .i64 1) ∧ Below w.heap.size w w' := by
  obtain ⟨f0, f1, f2, f3, f4, f5, f6⟩ := c
  obtain ⟨kd, nd, tp, vl, ms⟩ := s
  have hlt := hG.1
  have X0 := hide hG
  obtain ⟨w1, hw1⟩ : ∃ q, q = (w.alloc (.cells #[.int .i64 f0, .int .i64 f1, .int .i64 f2, .int .i64 f3, .int .i64 f4, .int .i64 f5, .int .i64 f6] 23)).alloc (.cells #[.int .i64 kd, .int .i64 nd, .int .i64 tp, .int .i64 vl, .int .i64 ms] 27) := ⟨_, rfl⟩
  have B1 : Below w.heap.size w w1 := by subst hw1; exact below_alloc (below_alloc (Below.refl _ _) _) _
  have HA : Has w1 w.heap.size (.cells #[.int .i64 f0, .int .i64 f1, .int .i64 f2, .int .i64 f3, .int .i64 f4, .int .i64 f5, .int .i64 f6] 23) := by subst hw1; exact (Has.new _ _).alloc _
  have HB : Has w1 (w.heap.size + 1) (.cells #[.int .i64 kd, .int .i64 nd, .int .i64 tp, .int .i64 vl, .int .i64 ms] 27) := by subst hw1; have := Has.new (w.alloc (.cells #[.int .i64 f0, .int .i64 f1, .int .i64 f2, .int .i64 f3, .int .i64 f4, .int .i64 f5, .int .i64 f6] 23)) (.cells #[.int .i64 kd, .int .i64 nd, .int .i64 tp, .int .i64 vl, .int .i64 ms] 27); simpa using this
  have HG := hide (hG.below B1)
  have GB := hide B1
  unfold cV at *
  unfold sV at *
  dsimp only at *
  clear hG
  go_enter Tryd.func17, Tryd.ntmps17
  go_upto_region 1 with fail
  rw [← hw1]
  clear hw1 B1
  have C1 := hide (config_any ⟨f0, f1, f2, f3, f4, f5, f6⟩ e w1 (unhide HG))
  have C26 : Hid (∀ w2, Glob w2 e → Calls Tryd.prog 26 #[cV ⟨f0, f1, f2, f3, f4, f5, f6⟩, sV ⟨kd, nd, tp, vl, ms⟩] w2 fun ev w' => ev = .returned (feV (.string { data := #[86, 97, 108, 117, 101] }) e) ∧ Below w2.heap.size w2 w') := hide fun w2 h => by
    have := wrongField_any ⟨f0, f1, f2, f3, f4, f5, f6⟩ ⟨kd, nd, tp, vl, ms⟩ e w2 h hc
    rwa [hv] at this
  unfold cV at C1 C26
  unfold sV at C26
  dsimp only at C1 C26
  rw [show cfE ⟨f0, f1, f2, f3, f4, f5, f6⟩ = 0 by simp [cfE, hc]] at C1
  clear hc hv
  have c0 := HA.cell (k := 0) rfl
  have c1 := HA.cell (k := 1) rfl
  have c2 := HA.cell (k := 2) rfl
  have c3 := HA.cell (k := 3) rfl
  have c4 := HA.cell (k := 4) rfl
  have c5 := HA.cell (k := 5) rfl
  have c6 := HA.cell (k := 6) rfl
  unfold feV at C26
  go_wp2_with (first
    | (go_at_call 11; (with_reducible refine (unhide C1).mono ?_); rintro ev w2 ⟨rfl, b2⟩; have G2 := hide ((unhide HG).below b2); replace GB := hide (below_of (unhide GB) b2); have HA2 := hide (HA.below b2); have HB2 := hide (HB.below b2); clear b2 c0 c1 c2 c3 c4 c5 c6; have c0 := (unhide HA2).cell (k := 0) rfl; have c1 := (unhide HA2).cell (k := 1) rfl; have c2 := (unhide HA2).cell (k := 2) rfl; have c3 := (unhide HA2).cell (k := 3) rfl; have c4 := (unhide HA2).cell (k := 4) rfl; have c5 := (unhide HA2).cell (k := 5) rfl; have c6 := (unhide HA2).cell (k := 6) rfl; have s0 := (unhide HB2).cell (k := 0) rfl; have s1 := (unhide HB2).cell (k := 1) rfl; have s2 := (unhide HB2).cell (k := 2) rfl; have s3 := (unhide HB2).cell (k := 3) rfl; have s4 := (unhide HB2).cell (k := 4) rfl; have l2 := (unhide HA2).1; have m2 := (unhide HB2).1)
    | (go_at_call 26; (with_reducible refine (unhide C26 _ (unhide G2)).mono ?_); rintro ev w3 ⟨rfl, b3⟩; have G3 := hide ((unhide G2).below b3); replace GB := hide (below_of (unhide GB) b3); clear b3 l2 m2 c0 c1 c2 c3 c4 c5 c6 s0 s1 s2 s3 s4)
    | (go_at_call 27; refine (as_fe2 _ _ (.string { data := #[] }) .nilIface e _ _ (Glob.below (unhide G3) (below_alloc (Below.refl _ _) _)) (Has.new _ _) rfl rfl).mono ?_; rintro ev w4 ⟨rfl, h4, b4⟩; have l4 := h4.1; have d4 := h4.cell (k := 0) rfl; have B4 := hide (b4 w3.heap.size (Nat.le_refl _)); replace GB := hide (below_of (unhide GB) ((below_alloc (Below.refl w3.heap.size w3) (.cells #[.string { data := #[] }, .nilIface] 58)).trans (unhide B4))); have g4 := ((unhide G3).below ((below_alloc (Below.refl w3.heap.size w3) (.cells #[.string { data := #[] }, .nilIface] 58)).trans (unhide B4))).2.1; clear h4 b4)
    | (go_at_call 22; refine (is_fe _ _ _).mono ?_; rintro ev w5 ⟨rfl, b5⟩; replace GB := hide (below_of (unhide GB) b5)))
  go_ret
  exact ⟨rfl, unhide GB⟩

set_option maxHeartbeats 4000000 in
set_option maxRecDepth 100000 in
theorem check_mask (c : Cf) (s : Stp) (e : Addr) (w : World) (hG : Glob w e) (hc : cfB c = true) (hv : wfV c s e = feV (.string { data := #[77, 97, 115, 107] }) e) : Calls Tryd.prog 17 #[cV c, sV s] w fun ev w' => ev = .returned (.int .i64 1) ∧ Below w.heap.size w w' := by
  obtain ⟨f0, f1, f2, f3, f4, f5, f6⟩ := c
  obtain ⟨kd, nd, tp, vl, ms⟩ := s
  have hlt := hG.1
  have X0 := hide hG
  obtain ⟨w1, hw1⟩ : ∃ q, q = (w.alloc (.cells #[.int .i64 f0, .int .i64 f1, .int .i64 f2, .int .i64 f3, .int .i64 f4, .int .i64 f5, .int .i64 f6] 23)).alloc (.cells #[.int .i64 kd, .int .i64 nd, .int .i64 tp, .int .i64 vl, .int .i64 ms] 27) := ⟨_, rfl⟩
  have B1 : Below w.heap.size w w1 := by subst hw1; exact below_alloc (below_alloc (Below.refl _ _) _) _
  have HA : Has w1 w.heap.size (.cells #[.int .i64 f0, .int .i64 f1, .int .i64 f2, .int .i64 f3, .int .i64 f4, .int .i64 f5, .int .i64 f6] 23) := by subst hw1; exact (Has.new _ _).alloc _
  have HB : Has w1 (w.heap.size + 1) (.cells #[.int .i64 kd, .int .i64 nd, .int .i64 tp, .int .i64 vl, .int .i64 ms] 27) := by subst hw1; have := Has.new (w.alloc (.cells #[.int .i64 f0, .int .i64 f1, .int .i64 f2, .int .i64 f3, .int .i64 f4, .int .i64 f5, .int .i64 f6] 23)) (.cells #[.int .i64 kd, .int .i64 nd, .int .i64 tp, .int .i64 vl, .int .i64 ms] 27); simpa using this
  have HG := hide (hG.below B1)
  have GB := hide B1
  unfold cV at *
  unfold sV at *
  dsimp only at *
  clear hG
  go_enter Tryd.func17, Tryd.ntmps17
  go_upto_region 1 with fail
  rw [← hw1]
  clear hw1 B1
  have C1 := hide (config_any ⟨f0, f1, f2, f3, f4, f5, f6⟩ e w1 (unhide HG))
  have C26 : Hid (∀ w2, Glob w2 e → Calls Tryd.prog 26 #[cV ⟨f0, f1, f2, f3, f4, f5, f6⟩, sV ⟨kd, nd, tp, vl, ms⟩] w2 fun ev w' => ev = .returned (feV (.string { data := #[77, 97, 115, 107] }) e) ∧ Below w2.heap.size w2 w') := hide fun w2 h => by
    have := wrongField_any ⟨f0, f1, f2, f3, f4, f5, f6⟩ ⟨kd, nd, tp, vl, ms⟩ e w2 h hc
    rwa [hv] at this
  unfold cV at C1 C26
  unfold sV at C26
  dsimp only at C1 C26
  rw [show cfE ⟨f0, f1, f2, f3, f4, f5, f6⟩ = 0 by simp [cfE, hc]] at C1
  clear hc hv
  have c0 := HA.cell (k := 0) rfl
  have c1 := HA.cell (k := 1) rfl
  have c2 := HA.cell (k := 2) rfl
  have c3 := HA.cell (k := 3) rfl
  have c4 := HA.cell (k := 4) rfl
  have c5 := HA.cell (k := 5) rfl
  have c6 := HA.cell (k := 6) rfl
  unfold feV at C26
  go_wp2_with (first
    | (go_at_call 11; (with_reducible refine (unhide C1).mono ?_); rintro ev w2 ⟨rfl, b2⟩; have G2 := hide ((unhide HG).below b2); replace GB := hide (below_of (unhide GB) b2); have HA2 := hide (HA.below b2); have HB2 := hide (HB.below b2); clear b2 c0 c1 c2 c3 c4 c5 c6; have c0 := (unhide HA2).cell (k := 0) rfl; have c1 := (unhide HA2).cell (k := 1) rfl; have c2 := (unhide HA2).cell (k := 2) rfl; have c3 := (unhide HA2).cell (k := 3) rfl; have c4 := (unhide HA2).cell (k := 4) rfl; have c5 := (unhide HA2).cell (k := 5) rfl; have c6 := (unhide HA2).cell (k := 6) rfl; have s0 := (unhide HB2).cell (k := 0) rfl; have s1 := (unhide HB2).cell (k := 1) rfl; have s2 := (unhide HB2).cell (k := 2) rfl; have s3 := (unhide HB2).cell (k := 3) rfl; have s4 := (unhide HB2).cell (k := 4) rfl; have l2 := (unhide HA2).1; have m2 := (unhide HB2).1)
    | (go_at_call 26; (with_reducible refine (unhide C26 _ (unhide G2)).mono ?_); rintro ev w3 ⟨rfl, b3⟩; have G3 := hide ((unhide G2).below b3); replace GB := hide (below_of (unhide GB) b3); clear b3 l2 m2 c0 c1 c2 c3 c4 c5 c6 s0 s1 s2 s3 s4)
    | (go_at_call 27; refine (as_fe2 _ _ (.string { data := #[] }) .nilIface e _ _ (Glob.below (unhide G3) (below_alloc (Below.refl _ _) _)) (Has.new _ _) rfl rfl).mono ?_; rintro ev w4 ⟨rfl, h4, b4⟩; have l4 := h4.1; have d4 := h4.cell (k := 0) rfl; have B4 := hide (b4 w3.heap.size (Nat.le_refl _)); replace GB := hide (below_of (unhide GB) ((below_alloc (Below.refl w3.heap.size w3) (.cells #[.string { data := #[] }, .nilIface] 58)).trans (unhide B4))); have g4 := ((unhide G3).below ((below_alloc (Below.refl w3.heap.size w3) (.cells #[.string { data := #[] }, .nilIface] 58)).trans (unhide B4))).2.1; clear h4 b4)
    | (go_at_call 22; refine (is_fe _ _ _).mono ?_; rintro ev w5 ⟨rfl, b5⟩; replace GB := hide (below_of (unhide GB) b5)))
  go_ret
  exact ⟨rfl, unhide GB⟩

set_option maxHeartbeats 4000000 in
set_option maxRecDepth 100000 in
theorem check_kind (c : Cf) (s : Stp) (e : Addr) (w : World) (hG : Glob w e) (hc : cfB c = true) (hv : wfV c s e = feV (.string { data := #[75, 105, 110, 100] }) e) : Calls Tryd.prog 17 #[cV c, sV s] w fun ev w' => ev = .returned (.int .i64 1) ∧ Below w.heap.size w w' := by
  obtain ⟨f0, f1, f2, f3, f4, f5, f6⟩ := c
  obtain ⟨kd, nd, tp, vl, ms⟩ := s
  have hlt := hG.1
  have X0 := hide hG
  obtain ⟨w1, hw1⟩ : ∃ q, q = (w.alloc (.cells #[.int .i64 f0, .int .i64 f1, .int .i64 f2, .int .i64 f3, .int .i64 f4, .int .i64 f5, .int .i64 f6] 23)).alloc (.cells #[.int .i64 kd, .int .i64 nd, .int .i64 tp, .int .i64 vl, .int .i64 ms] 27) := ⟨_, rfl⟩
  have B1 : Below w.heap.size w w1 := by subst hw1; exact below_alloc (below_alloc (Below.refl _ _) _) _
  have HA : Has w1 w.heap.size (.cells #[.int .i64 f0, .int .i64 f1, .int .i64 f2, .int .i64 f3, .int .i64 f4, .int .i64 f5, .int .i64 f6] 23) := by subst hw1; exact (Has.new _ _).alloc _
  have HB : Has w1 (w.heap.size + 1) (.cells #[.int .i64 kd, .int .i64 nd, .int .i64 tp, .int .i64 vl, .int .i64 ms] 27) := by subst hw1; have := Has.new (w.alloc (.cells #[.int .i64 f0, .int .i64 f1, .int .i64 f2, .int .i64 f3, .int .i64 f4, .int .i64 f5, .int .i64 f6] 23)) (.cells #[.int .i64 kd, .int .i64 nd, .int .i64 tp, .int .i64 vl, .int .i64 ms] 27); simpa using this
  have HG := hide (hG.below B1)
  have GB := hide B1
  unfold cV at *
  unfold sV at *
  dsimp only at *
  clear hG
  go_enter Tryd.func17, Tryd.ntmps17
  go_upto_region 1 with fail
  rw [← hw1]
  clear hw1 B1
  have C1 := hide (config_any ⟨f0, f1, f2, f3, f4, f5, f6⟩ e w1 (unhide HG))
  have C26 : Hid (∀ w2, Glob w2 e → Calls Tryd.prog 26 #[cV ⟨f0, f1, f2, f3, f4, f5, f6⟩, sV ⟨kd, nd, tp, vl, ms⟩] w2 fun ev w' => ev = .returned (feV (.string { data := #[75, 105, 110, 100] }) e) ∧ Below w2.heap.size w2 w') := hide fun w2 h => by
    have := wrongField_any ⟨f0, f1, f2, f3, f4, f5, f6⟩ ⟨kd, nd, tp, vl, ms⟩ e w2 h hc
    rwa [hv] at this
  unfold cV at C1 C26
  unfold sV at C26
  dsimp only at C1 C26
  rw [show cfE ⟨f0, f1, f2, f3, f4, f5, f6⟩ = 0 by simp [cfE, hc]] at C1
  clear hc hv
  have c0 := HA.cell (k := 0) rfl
  have c1 := HA.cell (k := 1) rfl
  have c2 := HA.cell (k := 2) rfl
  have c3 := HA.cell (k := 3) rfl
  have c4 := HA.cell (k := 4) rfl
  have c5 := HA.cell (k := 5) rfl
  have c6 := HA.cell (k := 6) rfl
  unfold feV at C26
  go_wp2_with (first
    | (go_at_call 11; (with_reducible refine (unhide C1).mono ?_); rintro ev w2 ⟨rfl, b2⟩; have G2 := hide ((unhide HG).below b2); replace GB := hide (below_of (unhide GB) b2); have HA2 := hide (HA.below b2); have HB2 := hide (HB.below b2); clear b2 c0 c1 c2 c3 c4 c5 c6; have c0 := (unhide HA2).cell (k := 0) rfl; have c1 := (unhide HA2).cell (k := 1) rfl; have c2 := (unhide HA2).cell (k := 2) rfl; have c3 := (unhide HA2).cell (k := 3) rfl; have c4 := (unhide HA2).cell (k := 4) rfl; have c5 := (unhide HA2).cell (k := 5) rfl; have c6 := (unhide HA2).cell (k := 6) rfl; have s0 := (unhide HB2).cell (k := 0) rfl; have s1 := (unhide HB2).cell (k := 1) rfl; have s2 := (unhide HB2).cell (k := 2) rfl; have s3 := (unhide HB2).cell (k := 3) rfl; have s4 := (unhide HB2).cell (k := 4) rfl; have l2 := (unhide HA2).1; have m2 := (unhide HB2).1)
    | (go_at_call 26; (with_reducible refine (unhide C26 _ (unhide G2)).mono ?_); rintro ev w3 ⟨rfl, b3⟩; have G3 := hide ((unhide G2).below b3); replace GB := hide (below_of (unhide GB) b3); clear b3 l2 m2 c0 c1 c2 c3 c4 c5 c6 s0 s1 s2 s3 s4)
    | (go_at_call 27; refine (as_fe2 _ _ (.string { data := #[] }) .nilIface e _ _ (Glob.below (unhide G3) (below_alloc (Below.refl _ _) _)) (Has.new _ _) rfl rfl).mono ?_; rintro ev w4 ⟨rfl, h4, b4⟩; have l4 := h4.1; have d4 := h4.cell (k := 0) rfl; have B4 := hide (b4 w3.heap.size (Nat.le_refl _)); replace GB := hide (below_of (unhide GB) ((below_alloc (Below.refl w3.heap.size w3) (.cells #[.string { data := #[] }, .nilIface] 58)).trans (unhide B4))); have g4 := ((unhide G3).below ((below_alloc (Below.refl w3.heap.size w3) (.cells #[.string { data := #[] }, .nilIface] 58)).trans (unhide B4))).2.1; clear h4 b4)
    | (go_at_call 22; refine (is_fe _ _ _).mono ?_; rintro ev w5 ⟨rfl, b5⟩; replace GB := hide (below_of (unhide GB) b5)))
  go_ret
  exact ⟨rfl, unhide GB⟩

theorem check_any (c : Cf) (s : Stp) (e : Addr) (w : World) (hG : Glob w e) : Calls Tryd.prog 17 #[cV c, sV s] w fun ev w' => ev = .returned (.int .i64 (chkE c s)) ∧ Below w.heap.size w w' := by
  cases hc : cfB c with
  | false =>
    rw [show chkE c s = 13 by simp [chkE, hc]]
    exact check_bad c s e w hG hc
  | true =>
    rw [show chkE c s = stE c s by simp [chkE, hc]]
    rcases wfV_ky c s e with ⟨hv, hz⟩ | ⟨hv, hz⟩ | ⟨hv, hz⟩ | ⟨hv, hz⟩ | ⟨hv, hz⟩ | ⟨hv, hz⟩
    · rw [hz]; exact check_nil c s e w hG hc hv
    · rw [hz]; exact check_node c s e w hG hc hv
    · rw [hz]; exact check_topic c s e w hG hc hv
    · rw [hz]; exact check_value c s e w hG hc hv
    · rw [hz]; exact check_mask c s e w hG hc hv
    · rw [hz]; exact check_kind c s e w hG hc hv
end Go.Proofs.YtfhglganaebpoaaDoor
