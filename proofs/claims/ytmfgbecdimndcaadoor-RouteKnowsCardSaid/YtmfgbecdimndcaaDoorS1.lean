/- Walks of keep.Ints of what is the same, keep.TwinInts, and the page's Nodes. -/
import Derived.Test.YtmfgbecdimndcaaDoorG2
namespace Go.Proofs.YtmfgbecdimndcaaDoor
open Go.RowKit

theorem il_slice {w : World} {v : Value} {L : List Int} (h : IL w v L) : ∃ q c, v = .slice q L.length c := by
  rcases h with ⟨h0, rfl | ⟨a, cap, rfl, hc⟩⟩ | ⟨b, off, cap, rfl, _⟩
  · exact ⟨_, _, by rw [h0]⟩
  · exact ⟨_, _, by rw [h0]⟩
  · exact ⟨_, _, rfl⟩
set_option maxHeartbeats 1000000 in
theorem ints_same (L : List Int) (v v' : Value) (w : World) (h : IL w v L) (h' : IL w v' L) :
    Calls Tryd.prog 14 #[v, v'] w fun e w' => e = .returned (.bool true) ∧ Below w.heap.size w w' := by
  obtain ⟨q, c, rfl⟩ := il_slice h
  obtain ⟨q', c', rfl⟩ := il_slice h'
  obtain ⟨n, hn⟩ : ∃ n, L.length = n := ⟨_, rfl⟩
  unfold IL at h h'
  rw [hn] at h h' ⊢
  have HI := hide h
  have HI2 := hide h'
  clear h h' hn
  go_enter Tryd.func14, Tryd.ntmps14
  go_wp2
  go_loopw [5] (fun xi w3 => ∃ k : Nat, k ≤ n ∧ xi = .int .i64 k ∧ Below w.heap.size w w3) (fun i _ => n - (intOf i).toNat)
  case atStart => exact ⟨0, by omega, rfl, Below.refl _ _⟩
  case round =>
    obtain ⟨k, hk, rfl, hbel⟩ := hrel
    by_cases hlt : k < n
    · rcases (unhide HI).below hbel (Nat.le_refl _) with ⟨h0, _⟩ | ⟨g2, o2, c2, hv2, hle2, hc2, hg2, hcell2⟩
      · omega
      · rcases (unhide HI2).below hbel (Nat.le_refl _) with ⟨h0, _⟩ | ⟨g3, o3, c3, hv3, hle3, hc3, hg3, hcell3⟩
        · omega
        · injection hv3 with hp _ hc
          subst hp
          subst hc
          injection hv2 with hp _ hc
          subst hp
          subst hc
          unfold maxLen at hc2 hc3
          have k1 := hcell2 k hlt
          have k2 := hcell3 k hlt
          clear hcell2 hcell3
          have HB := hide hbel
          clear hbel
          generalize zF L k = y at *
          go_wp2
          go_quiet (fail)
          go_wp2
          go_roundw
          case rel => exact ⟨k + 1, by omega, by go_num, below_drewN (unhide HB) nq⟩
          case measure => simp [intOf]; omega
    · have HB := hide hbel
      clear hbel
      obtain rfl : n = k := by omega
      go_wp2
      go_ret
      exact ⟨rfl, unhide HB⟩
theorem twin_il (L : List Int) (v : Value) (w : World) (h : IL w v L) (hn : L.length ≤ 1000) :
    Calls Tryd.prog 9 #[v] w fun e w' => ∃ v', e = .returned v' ∧ OL w' w.heap.size v' L ∧ Below w.heap.size w w' := by
  have HI := hide h
  clear h
  have HL := hide hn
  clear hn
  go_enter Tryd.func9, Tryd.ntmps9
  go_wp2_with (at_builtin; refine wpList_append_isl rfl (.tmp 4) (.tmp 5) rfl _ L.length (zF L) rfl rfl (unhide HI) (unhide HL) ?_; intro vi w1 hown hbel; have B1 := hide hbel; have O1 := hide hown; clear hown hbel)
  go_ret
  refine ⟨_, rfl, ?_, unhide B1⟩
  unfold OL
  rw [← iL_zF]
  exact unhide O1

/-- Is a number among the first k? -/
def mt (L : List Int) (s : Int) : Nat → Bool
  | 0 => false
  | k + 1 => mt L s k || zF L k == s
theorem mt_iff (L : List Int) (s : Int) : ∀ k, mt L s k = true ↔ ∃ i, i < k ∧ zF L i = s
  | 0 => by simp [mt]
  | k + 1 => by
    rw [mt, Bool.or_eq_true, mt_iff L s k, beq_iff_eq]
    constructor
    · rintro (⟨i, h1, h2⟩ | h)
      · exact ⟨i, by omega, h2⟩
      · exact ⟨k, by omega, h⟩
    · rintro ⟨i, h1, h2⟩
      by_cases e : i = k
      · subst e; exact .inr h2
      · exact .inl ⟨i, by omega, h2⟩
theorem mt_mem (L : List Int) (s : Int) : mt L s L.length = decide (s ∈ L) := by
  have : mt L s L.length = true ↔ s ∈ L := by
    rw [mt_iff]
    constructor
    · rintro ⟨i, h1, rfl⟩
      exact zF_mem h1
    · intro h
      obtain ⟨i, h1, h2⟩ := zF_of_mem h
      exact ⟨i, h1, h2⟩
  rw [← Bool.eq_iff_iff.2 (this.trans decide_eq_true_iff.symm)]
set_option maxHeartbeats 2000000 in
theorem nodes_q (L : List Int) (s : Int) (v : Value) (w : World) (h : IL w v L) (hR : Ris L) :
    Calls Tryd.prog 15 #[v, .int .i64 s] w fun e w' => e = .returned (.bool (decide (s ∈ L))) ∧ ∃ q, w' = w.drewN q := by
  rw [← mt_mem]
  have hA := (ris_iff L).1 hR
  obtain ⟨q, c, rfl⟩ := il_slice h
  obtain ⟨n, hn⟩ : ∃ n, L.length = n := ⟨_, rfl⟩
  have hNd : ∀ i, i < n → IsN (zF L i) := fun i hi => hR.2 _ (zF_mem (by omega))
  unfold IL at h
  rw [hn] at h hA ⊢
  have HI := hide h
  have HA := hide hA
  have HN := hide hNd
  clear h hn hA hR hNd
  go_enter Tryd.func15, Tryd.ntmps15
  go_wp2
  go_loopw [5, 6] (fun xm xi w3 => ∃ k : Nat, k ≤ n ∧ xi = .int .i64 k ∧ xm = .bool (mt L s k) ∧ ∃ q, w3 = w.drewN q) (fun _ i _ => n - (intOf i).toNat)
  case atStart => exact ⟨0, by omega, rfl, rfl, 0, rfl⟩
  case round =>
    obtain ⟨k, hk, rfl, rfl, hdr⟩ := hrel
    have hbel : Below w.heap.size w wr := by obtain ⟨q, hq⟩ := hdr; rw [hq]; exact below_drewN (Below.refl _ _) q
    have HD := hide hdr
    clear hdr
    by_cases hlt : k < n
    · rcases (unhide HI).below hbel (Nat.le_refl _) with ⟨h0, _⟩ | ⟨g2, o2, c2, hv2, hle2, hc2, hg2, hcell2⟩
      · omega
      · injection hv2 with hp _ hc
        subst hp
        subst hc
        unfold maxLen at hc2
        have k1 := hcell2 k hlt
        have cN := hide (isnode_t (zF L k) (unhide HN k hlt))
        have hltz : (k : Int) < (n : Int) := by omega
        have hs : mt L s (k + 1) = (mt L s k || zF L k == s) := rfl
        by_cases h0 : 0 < k
        · have k2 := hcell2 (k - 1) (by omega)
          have hg : zF L (k - 1) < zF L k := by
            have := (unhide HA k hlt).1
            unfold lea at this
            rw [if_neg (by omega)] at this
            omega
          have b0 : decide (0 < k) = true := decide_eq_true h0
          have b1 : decide (zF L k ≤ zF L (k - 1)) = false := decide_eq_false (by omega)
          have hw : IntKind.i64.wrap ((k : Int) - 1) = ((k - 1 : Nat) : Int) := by rw [IntKind.wrap_i64]; omega
          have hw2 : (k : Int) - 1 = ((k - 1 : Nat) : Int) := by omega
          have hlt1 : k - 1 < n := by omega
          have hltz1 : ((k - 1 : Nat) : Int) < (n : Int) := by omega
          obtain ⟨j, hj⟩ : ∃ j, k - 1 = j := ⟨_, rfl⟩
          rw [hj] at k2 b1 hw hw2 hlt1 hltz1
          have HB := HD
          clear hbel hcell2 hg
          have HJ := hide hj
          clear hj
          generalize zF L j = z at *
          have HW2 := hide hw2
          clear hw2
          cases hm : mt L s k with
          | true =>
            rw [hm] at hs
            have HS := hide hs
            clear hs hm
            generalize zF L k = y at *
            go_wp2
            go_quiet (first | (go_at_call 43; with_reducible refine Calls.quiet_of_same (unhide cN _)))
            go_wp2
            go_roundw
            case rel => exact ⟨k + 1, by omega, by go_num, by rw [unhide HS]; rfl, by obtain ⟨q', hq'⟩ := unhide HB; exact ⟨q' + nq, by rw [hq', World.drewN_drewN]⟩⟩
            case measure => simp [intOf]; omega
          | false =>
            rw [hm] at hs
            have HS := hide hs
            clear hs hm
            generalize zF L k = y at *
            go_wp2
            go_quiet (first | (go_at_call 43; with_reducible refine Calls.quiet_of_same (unhide cN _)))
            go_wp2
            go_roundw
            case rel => exact ⟨k + 1, by omega, by go_num, by rw [unhide HS]; rfl, by obtain ⟨q', hq'⟩ := unhide HB; exact ⟨q' + nq, by rw [hq', World.drewN_drewN]⟩⟩
            case measure => simp [intOf]; omega
        · have b0 : decide (0 < k) = false := decide_eq_false h0
          have HB := HD
          clear hbel hcell2
          cases hm : mt L s k with
          | true =>
            rw [hm] at hs
            have HS := hide hs
            clear hs hm
            generalize zF L k = y at *
            go_wp2
            go_quiet (first | (go_at_call 43; with_reducible refine Calls.quiet_of_same (unhide cN _)))
            go_wp2
            go_roundw
            case rel => exact ⟨k + 1, by omega, by go_num, by rw [unhide HS]; rfl, by obtain ⟨q', hq'⟩ := unhide HB; exact ⟨q' + nq, by rw [hq', World.drewN_drewN]⟩⟩
            case measure => simp [intOf]; omega
          | false =>
            rw [hm] at hs
            have HS := hide hs
            clear hs hm
            generalize zF L k = y at *
            go_wp2
            go_quiet (first | (go_at_call 43; with_reducible refine Calls.quiet_of_same (unhide cN _)))
            go_wp2
            go_roundw
            case rel => exact ⟨k + 1, by omega, by go_num, by rw [unhide HS]; rfl, by obtain ⟨q', hq'⟩ := unhide HB; exact ⟨q' + nq, by rw [hq', World.drewN_drewN]⟩⟩
            case measure => simp [intOf]; omega
    · have HB := HD
      clear hbel
      obtain rfl : n = k := by omega
      go_wp2
      go_ret
      exact ⟨rfl, unhide HB⟩
theorem nodes_ris (L : List Int) (s : Int) (v : Value) (w : World) (h : IL w v L) (hR : Ris L) :
    Calls Tryd.prog 15 #[v, .int .i64 s] w fun e w' => e = .returned (.bool (decide (s ∈ L))) ∧ Below w.heap.size w w' :=
  (nodes_q L s v w h hR).mono fun _ _ ⟨h1, q, h2⟩ => ⟨h1, h2 ▸ below_drewN (Below.refl _ _) q⟩
end Go.Proofs.YtmfgbecdimndcaaDoor
