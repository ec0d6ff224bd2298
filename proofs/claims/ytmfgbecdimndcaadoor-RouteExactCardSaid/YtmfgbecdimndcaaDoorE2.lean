/- Walk of the page's Ahead. -/
import Derived.Test.YtmfgbecdimndcaaDoorE1
namespace Go.Proofs.YtmfgbecdimndcaaDoor
open Go.RowKit

set_option maxHeartbeats 2000000 in
theorem rahead_is (L : List Int) (s : Int) (v : Value) (w : World) (h : IL w v L) (hN : Nds L) (hs : IsN s) :
    Calls Tryd.prog 19 #[v, .int .i64 s] w fun e w' => e = .returned (.int .i64 (if oth L s = [] then -1 else ahd L s)) ∧ Below w.heap.size w w' := by
  have e9 : (if oth L s = [] then -1 else ahd L s) = pa L s L.length := by unfold pa; rw [List.take_length]; rfl
  rw [e9]
  clear e9
  obtain ⟨q, c, rfl⟩ := il_slice h
  obtain ⟨n, hn⟩ : ∃ n, L.length = n := ⟨_, rfl⟩
  unfold IL at h
  rw [hn] at h ⊢
  have HI := hide h
  have HN := hide hn
  have HND := hide hN
  have HSN := hide hs
  have Z0 := hide (pa_zero L s)
  clear h hn hN hs
  go_enter Tryd.func19, Tryd.ntmps19
  go_wp2
  go_loopw [5, 6] (fun xm xi w3 => ∃ k : Nat, k ≤ n ∧ xi = .int .i64 k ∧ xm = .int .i64 (pa L s k) ∧ Hid (Below w.heap.size w w3)) (fun _ i _ => n - (intOf i).toNat)
  case atStart => exact ⟨0, by omega, rfl, by rw [unhide Z0], hide (Below.refl _ _)⟩
  case round =>
    obtain ⟨k, hk, rfl, rfl, HB⟩ := hrel
    by_cases hlt : k < n
    · rcases (unhide HI).below (unhide HB) (Nat.le_refl _) with ⟨h0, _⟩ | ⟨g2, o2, c2, hv2, hle2, hc2, hg2, hcell2⟩
      · omega
      · injection hv2 with hp _ hc
        subst hp
        subst hc
        unfold maxLen at hc2
        have k1 := hcell2 k hlt
        have hltz : (k : Int) < (n : Int) := by omega
        have hkL : k < L.length := by rw [unhide HN]; exact hlt
        clear hcell2
        by_cases hx : zF L k = s
        · have Y := hide (pa_self hkL hx)
          have b1 : (zF L k != s) = false := by simp [hx]
          clear hx hkL
          generalize zF L k = x at *
          go_wp2
          go_roundw
          case rel => exact ⟨k + 1, by omega, by go_num, by rw [unhide Y], HB⟩
          case measure => simp [intOf]; omega
        · have b1 : (zF L k != s) = true := by simp [hx]
          by_cases h0 : oth (L.take k) s = []
          · have Y := hide (pa_first hkL hx h0)
            have hneg : pa L s k = -1 := by unfold pa; rw [if_pos h0]
            rw [hneg]
            clear hx hkL h0 hneg
            generalize zF L k = x at *
            go_wp2
            go_roundw
            case rel => exact ⟨k + 1, by omega, by go_num, by rw [unhide Y], HB⟩
            case measure => simp [intOf]; omega
          · have hY := pa_more hkL hx h0
            have hpn := pa_node (k := k) (unhide HND) h0
            have b2 : decide (pa L s k < 0) = false := decide_eq_false (by have := hpn.1; omega)
            have hxn : IsN (zF L k) := unhide HND _ (zF_mem hkL)
            have d1 := hide (rbh_is (zF L k) s hxn (unhide HSN))
            have d2 := hide (rbh_is (pa L s k) s hpn (unhide HSN))
            have m1 := trivial
            by_cases hq : bh (zF L k) s < bh (pa L s k) s
            · rw [if_pos hq] at hY
              have Y := hide hY
              have hck := hide (fun (w5 : World) (hb : Below wr.heap.size wr w5) => (hb.cell (p := ⟨g2, o2 + k, none⟩) hg2).trans k1)
              clear hY hx hkL h0 hpn hxn
              generalize zF L k = x at *
              generalize pa L s k = y at *
              generalize bh x s = u at *
              generalize bh y s = z at *
              go_wp2_with (first
                | (clear m1; go_at_call 47; refine (unhide d1 _).mono ?_; rintro e w4 ⟨rfl, hb⟩; have B4 := hide hb; clear hb)
                | (go_at_call 47; refine (unhide d2 _).mono ?_; rintro e w5 ⟨rfl, hb⟩; have hb5 := (unhide B4).trans (hb.mono (unhide B4).size); have k5 := unhide hck _ hb5; have B5 := hide hb5; clear hb hb5))
              go_roundw
              case rel => exact ⟨k + 1, by omega, by go_num, by rw [unhide Y], hide ((unhide HB).trans ((unhide B5).mono (unhide HB).size))⟩
              case measure => simp [intOf]; omega
            · rw [if_neg hq] at hY
              have Y := hide hY
              clear hY hx hkL h0 hpn hxn
              generalize zF L k = x at *
              generalize pa L s k = y at *
              generalize bh x s = u at *
              generalize bh y s = z at *
              go_wp2_with (first
                | (clear m1; go_at_call 47; refine (unhide d1 _).mono ?_; rintro e w4 ⟨rfl, hb⟩; have B4 := hide hb; clear hb)
                | (go_at_call 47; refine (unhide d2 _).mono ?_; rintro e w5 ⟨rfl, hb⟩; have hb5 := (unhide B4).trans (hb.mono (unhide B4).size); have B5 := hide hb5; clear hb hb5))
              go_roundw
              case rel => exact ⟨k + 1, by omega, by go_num, by rw [unhide Y], hide ((unhide HB).trans ((unhide B5).mono (unhide HB).size))⟩
              case measure => simp [intOf]; omega
    · obtain rfl : n = k := by omega
      go_wp2
      go_ret
      exact ⟨rfl, unhide HB⟩
end Go.Proofs.YtmfgbecdimndcaaDoor
