/- Walks of the page's Live, of keep.Peers and keep.Ints of what is the same, of Heavy. -/
import Derived.Test.YtnbmnbgbnagajaaA6
namespace Go.Proofs.Ytnbmnbgbnagajaa
open Go.RowKit

set_option maxHeartbeats 1000000 in
set_option maxRecDepth 100000 in
theorem rlive_ok (F : Nat → Int) (v : Value) (n s : Nat) (w : World) (hv : Pe w v n F) (h8 : n ≤ 8) :
    Calls Try.prog 19 #[v, .int .i64 (s : Int)] w fun e w' => ∃ v', e = .returned v' ∧ w'.ownsRow w.heap.size 3 1 v' (lvL F s n).length (nL (lvL F s n)) ∧ Below w.heap.size w w' := by
  have HV := hide hv
  obtain ⟨p, c, rfl, hc1, hc2⟩ := hv.shape
  unfold maxLen at hc2
  clear hv
  go_enter Try.func19, Try.ntmps19
  go_wp2
  go_loopw [5, 6] (fun u i w3 => ∃ (V : Value) (k : Nat), k ≤ n ∧ u = V ∧ i = .int .i64 k ∧ w3.ownsRow w.heap.size 3 1 V (lvL F s k).length (nL (lvL F s k)) ∧ Below w.heap.size w w3) (fun _ i _ => n - (intOf i).toNat)
  case atStart => exact ⟨_, 0, by omega, rfl, rfl, World.ownsRow_nil _ _ _ _, Below.refl _ _⟩
  case round =>
    obtain ⟨V, k, hk, hu, rfl, ho, hb⟩ := hrel
    obtain rfl := hu.symm
    have HO := hide ho
    have HB := hide hb
    by_cases hlt : k < n
    · obtain ⟨b, off, rfl, _, hcell⟩ := ((unhide HV).below hb (Nat.le_refl _)).some (by omega)
      obtain ⟨q1, q2⟩ := Pe.two hcell k hlt
      have LN := hide (show (lvL F s k).length ≤ 1000000 by have := lvL_len F s k; omega)
      have CL := hide (cell_one k)
      clear hcell ho hb
      by_cases hks : k = s
      · have Y := hide (lvL_yes (show lvB F s k = true by simp [lvB, hks]))
        have e1 : ((k : Int) == (s : Int)) = true := by simp [hks]
        clear hks
        go_wp2_with (at_builtin; refine wpList_snoc (by simp [Region.wanted]) (.tmp 32) (.tmp 34) rfl w.heap.size _ (lvL F s k) k rfl ((unhide HO).alloc _) _ rfl (unhide CL _ _ rfl) (unhide LN) (by have := (unhide HB).size; simp; omega) ?_; intro v4 w4 o4 b4; have O4 := hide o4; have B4 := hide (below_up (below_alloc (unhide HB) _) b4); clear o4 b4)
        go_roundw
        case rel => exact ⟨_, k + 1, by omega, rfl, by go_num, by rw [unhide Y]; exact unhide O4, unhide B4⟩
        case measure => simp [intOf]; omega
      · have e1 : ((k : Int) == (s : Int)) = false := by simp; omega
        by_cases h1 : 0 < F (k * 2)
        · by_cases h2 : F (k * 2 + 1) < 4
          · have Y := hide (lvL_yes (F := F) (s := s) (k := k) (by simp [lvB, h1, h2]))
            clear hks
            go_wp2_with (at_builtin; refine wpList_snoc (by simp [Region.wanted]) (.tmp 32) (.tmp 34) rfl w.heap.size _ (lvL F s k) k rfl ((unhide HO).alloc _) _ rfl (unhide CL _ _ rfl) (unhide LN) (by have := (unhide HB).size; simp; omega) ?_; intro v4 w4 o4 b4; have O4 := hide o4; have B4 := hide (below_up (below_alloc (unhide HB) _) b4); clear o4 b4)
            go_roundw
            case rel => exact ⟨_, k + 1, by omega, rfl, by go_num, by rw [unhide Y]; exact unhide O4, unhide B4⟩
            case measure => simp [intOf]; omega
          · have Y := hide (lvL_no (F := F) (s := s) (k := k) (by simp [lvB, h2, hks]))
            clear hks
            go_wp2
            exact ⟨⟨_, k + 1, by omega, rfl, by go_num, by rw [unhide Y]; exact unhide HO, unhide HB⟩, by simp [intOf]; omega⟩
        · have Y := hide (lvL_no (F := F) (s := s) (k := k) (by simp [lvB, h1, hks]))
          clear hks
          go_wp2
          exact ⟨⟨_, k + 1, by omega, rfl, by go_num, by rw [unhide Y]; exact unhide HO, unhide HB⟩, by simp [intOf]; omega⟩
    · obtain rfl : k = n := by omega
      clear ho hb
      go_wp2
      go_ret
      exact ⟨_, rfl, unhide HO, unhide HB⟩
set_option maxHeartbeats 1000000 in
set_option maxRecDepth 100000 in
theorem kpeers_same (F G : Nat → Int) (v u : Value) (n : Nat) (w : World) (hv : Pe w v n F) (hu' : Pe w u n G) (he : ∀ j, j < n * 2 → F j = G j) : Calls Try.prog 12 #[v, u] w fun ev w' => ev = .returned (.bool true) ∧ Below w.heap.size w w' := by
  have hu : Pe w u n F := hu'.congr fun j hj => (he j hj).symm
  obtain ⟨p, c, rfl, hc1, hc2⟩ := hv.shape
  obtain ⟨q, d, rfl, hd1, hd2⟩ := hu.shape
  unfold maxLen at hc2
  have HV := hide hv
  have HU := hide hu
  clear hv hu hd1 hd2 hu' he
  go_enter Try.func12, Try.ntmps12
  go_wp2
  go_loopw [5] (fun i w2 => ∃ k : Nat, k ≤ n ∧ i = .int .i64 k ∧ Below w.heap.size w w2) (fun i _ => n - (intOf i).toNat)
  case atStart => exact ⟨0, by omega, rfl, Below.refl _ _⟩
  case round =>
    obtain ⟨k, hk, rfl, hb⟩ := hrel
    by_cases hlt : k < n
    · obtain ⟨b, off, rfl, _, hcell⟩ := ((unhide HV).below hb (Nat.le_refl _)).some (by omega)
      obtain ⟨b', off', rfl, _, hcell'⟩ := ((unhide HU).below hb (Nat.le_refl _)).some (by omega)
      obtain ⟨q0, q1⟩ := Pe.two hcell k hlt
      obtain ⟨r0, r1⟩ := Pe.two hcell' k hlt
      have HB := hide hb
      clear hcell hcell' hb
      go_wp2
      go_quiet (fail)
      go_wp2
      go_roundw
      case rel => exact ⟨k + 1, by omega, by go_num, below_drewN (unhide HB) _⟩
      case measure => simp [intOf]; omega
    · obtain rfl : k = n := by omega
      have HB := hide hb
      clear hb
      go_wp2
      go_ret
      exact ⟨rfl, unhide HB⟩
set_option maxHeartbeats 1000000 in
set_option maxRecDepth 100000 in
theorem kints_same (F G : Nat → Int) (v u : Value) (n : Nat) (w : World) (hv : Sl .i64 w v n F) (hu' : Sl .i64 w u n G) (he : ∀ j, j < n → F j = G j) : Calls Try.prog 18 #[v, u] w fun ev w' => ev = .returned (.bool true) ∧ Below w.heap.size w w' := by
  have hu : Sl .i64 w u n F := hu'.congr fun j hj => (he j hj).symm
  obtain ⟨p, c, rfl, hc1, hc2⟩ := hv.shape
  obtain ⟨q, d, rfl, hd1, hd2⟩ := hu.shape
  unfold maxLen at hc2
  have HV := hide hv
  have HU := hide hu
  clear hv hu hd1 hd2 hu' he
  go_enter Try.func18, Try.ntmps18
  go_wp2
  go_loopw [5] (fun i w2 => ∃ k : Nat, k ≤ n ∧ i = .int .i64 k ∧ Below w.heap.size w w2) (fun i _ => n - (intOf i).toNat)
  case atStart => exact ⟨0, by omega, rfl, Below.refl _ _⟩
  case round =>
    obtain ⟨k, hk, rfl, hb⟩ := hrel
    by_cases hlt : k < n
    · obtain ⟨b, off, rfl, _, hcell⟩ := ((unhide HV).below hb (Nat.le_refl _)).some (by omega)
      obtain ⟨b', off', rfl, _, hcell'⟩ := ((unhide HU).below hb (Nat.le_refl _)).some (by omega)
      have q0 := hcell k hlt
      have r0 := hcell' k hlt
      have HB := hide hb
      clear hcell hcell' hb
      go_wp2
      go_quiet (fail)
      go_wp2
      go_roundw
      case rel => exact ⟨k + 1, by omega, by go_num, below_drewN (unhide HB) _⟩
      case measure => simp [intOf]; omega
    · obtain rfl : k = n := by omega
      have HB := hide hb
      clear hb
      go_wp2
      go_ret
      exact ⟨rfl, unhide HB⟩
theorem heavy_any (p : Option Addr) (n c : Nat) (w : World) : Calls Try.prog 7 #[.slice p n c] w fun e w' => e = .returned (.bool (decide ((20 : Int) < (n : Int)))) ∧ w' = w := by
  go_enter Try.func7, Try.ntmps7
  go_wp2
  go_ret
  exact ⟨rfl, rfl⟩
end Go.Proofs.Ytnbmnbgbnagajaa
