/- Walks of keep.Ints of what is the same, keep.TwinInts. -/
import Derived.Test.YtmdkaomjjglfjaaDoorK0
import Derived.Test.YtmdkaomjjglfjaaDoorA7
import Derived.Test.YtmdkaomjjglfjaaDoorC2
namespace Go.Proofs.YtmdkaomjjglfjaaDoor
open Go.RowKit

theorem il_slice {w : World} {v : Value} {L : List Int} (h : IL w v L) : ∃ q c, v = .slice q L.length c := by
  rcases h with ⟨h0, rfl | ⟨a, cap, rfl, hc⟩⟩ | ⟨b, off, cap, rfl, _⟩
  · exact ⟨_, _, by rw [h0]⟩
  · exact ⟨_, _, by rw [h0]⟩
  · exact ⟨_, _, rfl⟩
set_option maxHeartbeats 1000000 in
theorem ints_same (L : List Int) (v v' : Value) (w : World) (h : IL w v L) (h' : IL w v' L) :
    Calls Tryd.prog 10 #[v, v'] w fun e w' => e = .returned (.bool true) ∧ Below w.heap.size w w' := by
  obtain ⟨q, c, rfl⟩ := il_slice h
  obtain ⟨q', c', rfl⟩ := il_slice h'
  obtain ⟨n, hn⟩ : ∃ n, L.length = n := ⟨_, rfl⟩
  unfold IL at h h'
  rw [hn] at h h' ⊢
  have HI := hide h
  have HI2 := hide h'
  clear h h' hn
  go_enter Tryd.func10, Tryd.ntmps10
  go_wp2
  go_loopw [5] (fun xi w3 => ∃ k : Nat, k ≤ n ∧ xi = .int .i64 k ∧ Below w.heap.size w w3) (fun i _ => n - (intOf i).toNat)
  case atStart => exact ⟨0, by omega, rfl, Below.refl _ _⟩
  case round =>
    obtain ⟨k, hk, rfl, hbel⟩ := hrel
    by_cases hlt : k < n
    · rcases (unhide HI).below hbel (Nat.le_refl _) with ⟨h0, _⟩ | ⟨g2, o2, c2, hv2, hle2, hc2, hg2, hcell2⟩
      · omega
      · rcases (unhide HI2).below hbel (Nat.le_refl _) with ⟨h0, _⟩ | ⟨g3, o3, c3, hv3, hle3, hc3, hg3, hcell3⟩
        · omega
        · injection hv3 with hp _ hc
          subst hp
          subst hc
          injection hv2 with hp _ hc
          subst hp
          subst hc
          unfold maxLen at hc2 hc3
          have k1 := hcell2 k hlt
          have k2 := hcell3 k hlt
          clear hcell2 hcell3
          have HB := hide hbel
          clear hbel
          generalize zF L k = y at *
          go_wp2
          go_quiet (fail)
          go_wp2
          go_roundw
          case rel => exact ⟨k + 1, by omega, by go_num, below_drewN (unhide HB) nq⟩
          case measure => simp [intOf]; omega
    · have HB := hide hbel
      clear hbel
      obtain rfl : n = k := by omega
      go_wp2
      go_ret
      exact ⟨rfl, unhide HB⟩
theorem twin_il (L : List Int) (v : Value) (w : World) (h : IL w v L) (hn : L.length ≤ 1000) :
    Calls Tryd.prog 6 #[v] w fun e w' => ∃ v', e = .returned v' ∧ OL w' w.heap.size v' L ∧ Below w.heap.size w w' := by
  have HI := hide h
  clear h
  have HL := hide hn
  clear hn
  go_enter Tryd.func6, Tryd.ntmps6
  go_wp2_with (at_builtin; refine wpList_append_isl rfl (.tmp 4) (.tmp 5) rfl _ L.length (zF L) rfl rfl (unhide HI) (unhide HL) ?_; intro vi w1 hown hbel; have B1 := hide hbel; have O1 := hide hown; clear hown hbel)
  go_ret
  refine ⟨_, rfl, ?_, unhide B1⟩
  unfold OL
  rw [← iL_zF]
  exact unhide O1

end Go.Proofs.YtmdkaomjjglfjaaDoor
