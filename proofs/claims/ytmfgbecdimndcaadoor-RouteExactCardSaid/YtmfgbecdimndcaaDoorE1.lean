/- Walks of the page's Nodes of what does not rise, and of the page's Ahead. -/
import Derived.Test.YtmfgbecdimndcaaDoorL4
namespace Go.Proofs.YtmfgbecdimndcaaDoor
open Go.RowKit

set_option maxHeartbeats 2000000 in
theorem nodes_not (L : List Int) (s : Int) (v : Value) (w : World) (h : IL w v L) (hR : ¬ Ris L) :
    Calls Tryd.prog 15 #[v, .int .i64 s] w fun e w' => e = .returned (.bool false) ∧ Below w.heap.size w w' := by
  rw [ris_iff] at hR
  obtain ⟨j, hj, hA, hF⟩ : ∃ j, j < L.length ∧ (∀ i, i < j → lea L i ≤ zF L i ∧ zF L i < 8) ∧ ¬ (lea L j ≤ zF L j ∧ zF L j < 8) := by
    have : ∀ n, (∀ i, i < n → lea L i ≤ zF L i ∧ zF L i < 8) ∨ ∃ j, j < n ∧ (∀ i, i < j → lea L i ≤ zF L i ∧ zF L i < 8) ∧ ¬ (lea L j ≤ zF L j ∧ zF L j < 8) := by
      intro n
      induction n with
      | zero => exact .inl fun i hi => absurd hi (Nat.not_lt_zero _)
      | succ n ih =>
        rcases ih with ih | ⟨j, h1, h2⟩
        · by_cases q : lea L n ≤ zF L n ∧ zF L n < 8
          · refine .inl fun i hi => ?_
            by_cases e : i = n
            · subst e; exact q
            · exact ih i (by omega)
          · exact .inr ⟨n, by omega, ih, q⟩
        · exact .inr ⟨j, by omega, h2⟩
    rcases this L.length with h | ⟨j, h1, h2, h3⟩
    · exact absurd h hR
    · exact ⟨j, h1, h2, h3⟩
  have hNd : ∀ i, i < j → IsN (zF L i) := by
    have low : ∀ k, k ≤ j → 0 ≤ lea L k := by
      intro k
      induction k with
      | zero => intro _; exact Int.le_refl _
      | succ k ih => intro hk; have a := hA k (by omega); rw [lea_succ]; have := ih (by omega); omega
    intro i hi
    have a := hA i hi
    have := low i (by omega)
    exact ⟨by omega, a.2⟩
  have hbad : ¬ IsN (zF L j) ∨ IsN (zF L j) ∧ 0 < j ∧ zF L j ≤ zF L (j - 1) := by
    by_cases q : IsN (zF L j)
    · refine .inr ⟨q, ?_⟩
      have q1 := q.1
      have q2 := q.2
      unfold lea at hF
      by_cases h0 : j = 0
      · rw [if_pos h0] at hF; omega
      · rw [if_neg h0] at hF; omega
    · exact .inl q
  obtain ⟨q, c, rfl⟩ := il_slice h
  obtain ⟨n, hn⟩ : ∃ n, L.length = n := ⟨_, rfl⟩
  unfold IL at h
  rw [hn] at h hj ⊢
  have HI := hide h
  have HA := hide hA
  have HN := hide hNd
  have HBAD := hide hbad
  clear h hn hA hR hNd hF hbad
  go_enter Tryd.func15, Tryd.ntmps15
  go_wp2
  go_loopw [5, 6] (fun xm xi w3 => ∃ k : Nat, k ≤ j ∧ xi = .int .i64 k ∧ xm = .bool (mt L s k) ∧ ∃ q, w3 = w.drewN q) (fun _ i _ => j - (intOf i).toNat)
  case atStart => exact ⟨0, by omega, rfl, rfl, 0, rfl⟩
  case round =>
    obtain ⟨k, hk, rfl, rfl, hdr⟩ := hrel
    have hbel : Below w.heap.size w wr := by obtain ⟨q, hq⟩ := hdr; rw [hq]; exact below_drewN (Below.refl _ _) q
    have HD := hide hdr
    clear hdr
    by_cases hltj : k < j
    · have hlt : k < n := by omega
      rcases (unhide HI).below hbel (Nat.le_refl _) with ⟨h0, _⟩ | ⟨g2, o2, c2, hv2, hle2, hc2, hg2, hcell2⟩
      · omega
      · injection hv2 with hp _ hc
        subst hp
        subst hc
        unfold maxLen at hc2
        have k1 := hcell2 k hlt
        have cN := hide (isnode_t (zF L k) (unhide HN k hltj))
        have hltz : (k : Int) < (n : Int) := by omega
        have hs : mt L s (k + 1) = (mt L s k || zF L k == s) := rfl
        by_cases h0 : 0 < k
        · have k2 := hcell2 (k - 1) (by omega)
          have hg : zF L (k - 1) < zF L k := by
            have := (unhide HA k hltj).1
            unfold lea at this
            rw [if_neg (by omega)] at this
            omega
          have b0 : decide (0 < k) = true := decide_eq_true h0
          have b1 : decide (zF L k ≤ zF L (k - 1)) = false := decide_eq_false (by omega)
          have hw : IntKind.i64.wrap ((k : Int) - 1) = ((k - 1 : Nat) : Int) := by rw [IntKind.wrap_i64]; omega
          have hw2 : (k : Int) - 1 = ((k - 1 : Nat) : Int) := by omega
          have hlt1 : k - 1 < n := by omega
          have hltz1 : ((k - 1 : Nat) : Int) < (n : Int) := by omega
          obtain ⟨j1, hj1⟩ : ∃ j, k - 1 = j := ⟨_, rfl⟩
          rw [hj1] at k2 b1 hw hw2 hlt1 hltz1
          have HB := HD
          clear hbel hcell2 hg
          have HJ := hide hj1
          clear hj1
          generalize zF L j1 = z at *
          have HW2 := hide hw2
          clear hw2
          cases hm : mt L s k with
          | true =>
            rw [hm] at hs
            have HS := hide hs
            clear hs hm
            generalize zF L k = y at *
            go_wp2
            go_quiet (first | (go_at_call 43; with_reducible refine Calls.quiet_of_same (unhide cN _)))
            go_wp2
            go_roundw
            case rel => exact ⟨k + 1, by omega, by go_num, by rw [unhide HS]; rfl, by obtain ⟨q', hq'⟩ := unhide HB; exact ⟨q' + nq, by rw [hq', World.drewN_drewN]⟩⟩
            case measure => simp [intOf]; omega
          | false =>
            rw [hm] at hs
            have HS := hide hs
            clear hs hm
            generalize zF L k = y at *
            go_wp2
            go_quiet (first | (go_at_call 43; with_reducible refine Calls.quiet_of_same (unhide cN _)))
            go_wp2
            go_roundw
            case rel => exact ⟨k + 1, by omega, by go_num, by rw [unhide HS]; rfl, by obtain ⟨q', hq'⟩ := unhide HB; exact ⟨q' + nq, by rw [hq', World.drewN_drewN]⟩⟩
            case measure => simp [intOf]; omega
        · have b0 : decide (0 < k) = false := decide_eq_false h0
          have HB := HD
          clear hbel hcell2
          cases hm : mt L s k with
          | true =>
            rw [hm] at hs
            have HS := hide hs
            clear hs hm
            generalize zF L k = y at *
            go_wp2
            go_quiet (first | (go_at_call 43; with_reducible refine Calls.quiet_of_same (unhide cN _)))
            go_wp2
            go_roundw
            case rel => exact ⟨k + 1, by omega, by go_num, by rw [unhide HS]; rfl, by obtain ⟨q', hq'⟩ := unhide HB; exact ⟨q' + nq, by rw [hq', World.drewN_drewN]⟩⟩
            case measure => simp [intOf]; omega
          | false =>
            rw [hm] at hs
            have HS := hide hs
            clear hs hm
            generalize zF L k = y at *
            go_wp2
            go_quiet (first | (go_at_call 43; with_reducible refine Calls.quiet_of_same (unhide cN _)))
            go_wp2
            go_roundw
            case rel => exact ⟨k + 1, by omega, by go_num, by rw [unhide HS]; rfl, by obtain ⟨q', hq'⟩ := unhide HB; exact ⟨q' + nq, by rw [hq', World.drewN_drewN]⟩⟩
            case measure => simp [intOf]; omega
    · obtain rfl : j = k := by omega
      have HB := HD
      rcases (unhide HI).below hbel (Nat.le_refl _) with ⟨h0, _⟩ | ⟨g2, o2, c2, hv2, hle2, hc2, hg2, hcell2⟩
      · omega
      · injection hv2 with hp _ hc
        subst hp
        subst hc
        unfold maxLen at hc2
        have k1 := hcell2 j hj
        have hltz : (j : Int) < (n : Int) := by omega
        have HBB := hide (fun q => below_drewN hbel q)
        clear hbel
        generalize mt L s j = m0 at *
        rcases unhide HBAD with hb | ⟨hb, h0, hle⟩
        · have cN := hide (isnode_f (zF L j) hb)
          clear hb hcell2
          generalize zF L j = y at *
          go_wp2
          go_quiet (first | (go_at_call 43; with_reducible refine Calls.quiet_of_same (unhide cN _)))
          go_wp2
          go_ret
          exact ⟨rfl, unhide HBB _⟩
        · have cN := hide (isnode_t (zF L j) hb)
          have k2 := hcell2 (j - 1) (by omega)
          have b0 : decide (0 < j) = true := decide_eq_true h0
          have b1 : decide (zF L j ≤ zF L (j - 1)) = true := decide_eq_true hle
          have hw : IntKind.i64.wrap ((j : Int) - 1) = ((j - 1 : Nat) : Int) := by rw [IntKind.wrap_i64]; omega
          have hw2 : (j : Int) - 1 = ((j - 1 : Nat) : Int) := by omega
          have hlt1 : j - 1 < n := by omega
          have hltz1 : ((j - 1 : Nat) : Int) < (n : Int) := by omega
          obtain ⟨j1, hj1⟩ : ∃ j1, j - 1 = j1 := ⟨_, rfl⟩
          rw [hj1] at k2 b1 hw hw2 hlt1 hltz1 hle
          clear hb hcell2
          have HJ := hide hj1
          clear hj1
          have HW2 := hide hw2
          clear hw2
          generalize zF L j1 = z at *
          generalize zF L j = y at *
          go_wp2
          go_quiet (first | (go_at_call 43; with_reducible refine Calls.quiet_of_same (unhide cN _)))
          go_wp2
          go_ret
          exact ⟨rfl, unhide HBB _⟩

theorem rbh_is (n s : Int) (hn : IsN n) (hs : IsN s) (w : World) :
    Calls Tryd.prog 47 #[.int .i64 n, .int .i64 s] w fun e w' => e = .returned (.int .i64 (bh n s)) ∧ Below w.heap.size w w' := by
  have c1 := hide (rnode_is n hn)
  have c2 := hide (rnode_is s hs)
  have c3 := hide (rbehind_is (nk n) (nk s) (nk_key n hn) (nk_key s hs))
  have e : (nk s - nk n) % 4611686018427387904 = bh n s := rfl
  rw [e] at c3
  clear e hn hs
  generalize bh n s = r at *
  generalize nk n = a at *
  generalize nk s = b at *
  have m1 := trivial
  go_enter Tryd.func47, Tryd.ntmps47
  go_wp2_with (first
    | (clear m1; go_at_call 45; refine (unhide c1 _).mono ?_; rintro e w2 ⟨rfl, hb⟩; have B2 := hide hb; clear hb)
    | (go_at_call 45; refine (unhide c2 _).mono ?_; rintro e w3 ⟨rfl, hb⟩; have B3 := hide ((unhide B2).trans (hb.mono (unhide B2).size)); clear hb)
    | (go_at_call 46; refine (unhide c3 _).mono ?_; rintro e w3 ⟨rfl, rfl⟩))
  go_ret
  exact ⟨rfl, unhide B3⟩
theorem mnL_one (f : Int → Int) (x : Int) : mnL f [x] = x := rfl
theorem mn_left (f : Int → Int) (L M : List Int) : ∀ k, k < L.length → mn f (L ++ M) k = mn f L k
  | 0, h => by unfold mn; exact zF_left h
  | k + 1, h => by unfold mn; rw [mn_left f L M k (by omega), zF_left h]
theorem mnL_snoc (f : Int → Int) (L : List Int) (x : Int) (h : L ≠ []) : mnL f (L ++ [x]) = if f x < f (mnL f L) then x else mnL f L := by
  have hl := List.length_pos_iff.2 h
  obtain ⟨k, hk⟩ : ∃ k, L.length = k + 1 := ⟨L.length - 1, by omega⟩
  have e1 : mnL f (L ++ [x]) = mn f (L ++ [x]) (k + 1) := by unfold mnL; rw [List.length_append, List.length_singleton, hk]; rfl
  have e2 : mnL f L = mn f L k := by unfold mnL; rw [hk]; rfl
  have e3 : zF (L ++ [x]) (k + 1) = x := by rw [← hk]; exact zF_snoc L x
  rw [e1, e2, mn, e3, mn_left f L [x] k (by omega)]
/-- The page's one ahead among the first k; -1. -/
def pa (L : List Int) (s : Int) (k : Nat) : Int := if oth (L.take k) s = [] then -1 else mnL (fun n => bh n s) (oth (L.take k) s)
theorem pa_zero (L : List Int) (s : Int) : pa L s 0 = -1 := by unfold pa; rw [List.take_zero]; rfl
theorem pa_self {L : List Int} {s : Int} {k : Nat} (hk : k < L.length) (h : zF L k = s) : pa L s (k + 1) = pa L s k := by
  unfold pa; rw [oth_take s hk, if_pos h]
theorem pa_first {L : List Int} {s : Int} {k : Nat} (hk : k < L.length) (h : zF L k ≠ s) (h0 : oth (L.take k) s = []) : pa L s (k + 1) = zF L k := by
  unfold pa; rw [oth_take s hk, if_neg h, h0, if_neg (by simp)]; rfl
theorem pa_more {L : List Int} {s : Int} {k : Nat} (hk : k < L.length) (h : zF L k ≠ s) (h0 : oth (L.take k) s ≠ []) : pa L s (k + 1) = if bh (zF L k) s < bh (pa L s k) s then zF L k else pa L s k := by
  unfold pa; rw [oth_take s hk, if_neg h, if_neg h0, if_neg (by simp), mnL_snoc _ _ _ h0]
theorem pa_node {L : List Int} {s : Int} {k : Nat} (hN : Nds L) (h0 : oth (L.take k) s ≠ []) : IsN (pa L s k) := by
  unfold pa
  rw [if_neg h0]
  exact hN _ (List.mem_of_mem_take (oth_mem.1 (mnL_mem _ h0)).1)
end Go.Proofs.YtmfgbecdimndcaaDoor
