/- Walk of the page's Fingers. -/
import Derived.Test.YtmfgbecdimndcaaDoorE3
namespace Go.Proofs.YtmfgbecdimndcaaDoor
open Go.RowKit

set_option maxRecDepth 100000 in
set_option maxHeartbeats 1000000 in
theorem rfingers_is (L : List Int) (s : Int) (v : Value) (w : World) (h : IL w v L) (hN : Nds L) (hs : s ∈ L) :
    Calls Tryd.prog 18 #[v, .int .i64 s] w fun e w' => ∃ v', e = .returned v' ∧ OL w' w.heap.size v' (fng L s) ∧ Below w.heap.size w w' := by
  have hsN := hN s hs
  have hne := mem_ne hs
  have hend := seL_fng (s := s) hN hne
  have hl0 := List.length_pos_iff.2 hne
  obtain ⟨q, c, rfl⟩ := il_slice h
  obtain ⟨n, hn⟩ : ∃ n, L.length = n := ⟨_, rfl⟩
  have hlast : ∀ k, mn (fun x => (nk x - k) % 4611686018427387904) L (n - 1) = fst L k := fun k => by rw [← hn]; rfl
  unfold IL at h
  rw [hn] at h hl0 ⊢
  have hmk := mk8
  have HI := hide h
  have HN := hide hn
  have HND := hide hN
  have HSN := hide hsN
  have HNE := hide hne
  have HEND := hide hend
  have HLAST := hide hlast
  have c1 := hide (rnode_is s hsN)
  have cN := hide (fun x (hx : x ∈ L) => rnode_is x (hN x hx))
  have cB := hide (fun b x (hx : x ∈ L) => rbehind_is (stp s b) (nk x) (stp_key s b) (nk_key x (hN x hx)))
  have hb0 : Below w.heap.size w (w.alloc (.cells (rowB (fun _ => false)) 4)) := (Below.refl _ _).alloc (Nat.le_refl _) _
  have hh0 := Has.new w (.cells (rowB (fun _ => false)) 4)
  obtain ⟨w1, hw1⟩ : ∃ x, w.alloc (.cells (rowB (fun _ => false)) 4) = x := ⟨_, rfl⟩
  rw [hw1] at hb0 hh0
  have HW1 := hide hw1
  have HB0 := hide hb0
  have HH0 := hide hh0
  clear h hn hN hsN hne hend hlast hs hb0 hh0 hw1
  go_enter Tryd.func18, Tryd.ntmps18
  go_wp2_with fail
  rw [unhide HW1]
  go_wp2_with (go_at_call 45; refine (unhide c1 _).mono ?_; rintro e w2 ⟨rfl, hb⟩; have B2 := hide ((unhide HB0).trans (hb.mono (unhide HB0).size)); have R2 := hide ((unhide HH0).below hb (Nat.le_refl _)); clear hb)
  go_loopw [7] (fun xi w3 => ∃ b : Nat, b ≤ 62 ∧ xi = .int .i64 b ∧ Hid (Has w3 w.heap.size (.cells (rowB (onb L s b)) 4)) ∧ Hid (Below w.heap.size w w3)) (fun i _ => 62 - (intOf i).toNat)
  case atStart => exact ⟨0, by omega, rfl, R2, B2⟩
  case round =>
    obtain ⟨b, hb, rfl, HR, HB3⟩ := hrel
    by_cases hltb : b < 62
    · obtain ⟨p1, p2⟩ := pow_bd b (by omega)
      obtain ⟨q1, q2⟩ := nk_key s (unhide HSN)
      by_cases hq : nk s < 2 ^ b
      · have hst := stp_low (unhide HSN) hltb hq
        generalize nk s = K at *
        go_wp2_with fail
        have hd27 : decide (K - 2 ^ b < 0) = true := decide_eq_true (by omega)
        rw [hd27]
        clear hd27

        clear hst p1 p2 q1 q2 hq
        have hbd : decide ((b : Int) < 62) = true := decide_eq_true (by omega)
        try rw [hbd]
        clear hbd
        obtain ⟨w3, hw3⟩ : ∃ x, x = wr := ⟨_, rfl⟩
        subst hw3
        generalize hS : stp s b = S at *
        have HSS := hide hS
        clear hS
        have H9 := unhide HLAST S
        have HY : ∃ j : Nat, j < 8 ∧ fst L S = (j : Int) := by
          have := unhide HND _ (fst_mem S (unhide HNE))
          exact ⟨(fst L S).toNat, by omega, by omega⟩
        obtain ⟨j, hj8, hjS⟩ := HY
        rw [hjS] at H9
        have H9 := hide H9
        have HJS := hide hjS
        clear hjS
        go_loopw [10, 11] (fun xb xi w4 => ∃ k : Nat, k ≤ n ∧ xi = .int .i64 k ∧ xb = .int .i64 (bsn (fun x => (nk x - S) % 4611686018427387904) L k) ∧ Hid (Below w3.heap.size w3 w4)) (fun _ i _ => n - (intOf i).toNat)
        case atStart => exact ⟨0, by omega, rfl, rfl, hide (Below.refl _ _)⟩
        case round =>
          obtain ⟨k, hk, rfl, rfl, HB4⟩ := hrel
          by_cases hlt : k < n
          · rcases (unhide HI).below ((unhide HB3).trans ((unhide HB4).mono (unhide HB3).size)) (Nat.le_refl _) with ⟨h0, _⟩ | ⟨g2, o2, c2, hv2, hle2, hc2, hg2, hcell2⟩
            · omega
            · injection hv2 with hp _ hc
              subst hp
              subst hc
              unfold maxLen at hc2
              have k1 := hcell2 k hlt
              have hltz : (k : Int) < (n : Int) := by omega
              clear hcell2
              match k, hk, hlt, k1, hltz with
              | 0, hk, hlt, k1, hltz =>
                rw [Nat.add_zero] at k1
                have e0 : bsn (fun x => (nk x - S) % 4611686018427387904) L 0 = -1 := rfl
                have e1 : bsn (fun x => (nk x - S) % 4611686018427387904) L 1 = zF L 0 := rfl
                have E1 := hide e1
                rw [e0]
                clear e0 e1
                generalize zF L 0 = x at *
                go_wp2
                go_roundw
                case rel => exact ⟨1, by omega, rfl, by rw [unhide E1], HB4⟩
                case measure => simp [intOf]; omega
              | m + 1, hk, hlt, k1, hltz =>
                have hbs : bsn (fun x => (nk x - S) % 4611686018427387904) L (m + 1) = mn (fun x => (nk x - S) % 4611686018427387904) L m := rfl
                have hbs2 : bsn (fun x => (nk x - S) % 4611686018427387904) L (m + 1 + 1) = if (nk (zF L (m + 1)) - S) % 4611686018427387904 < (nk (mn (fun x => (nk x - S) % 4611686018427387904) L m) - S) % 4611686018427387904 then zF L (m + 1) else mn (fun x => (nk x - S) % 4611686018427387904) L m := rfl
                rw [hbs]
                have hyL : mn (fun x => (nk x - S) % 4611686018427387904) L m ∈ L := mn_mem (by rw [unhide HN]; omega)
                have hxL : zF L (m + 1) ∈ L := zF_mem (by rw [unhide HN]; omega)
                have hyN := unhide HND _ hyL
                have hb1 : decide (mn (fun x => (nk x - S) % 4611686018427387904) L m < 0) = false := decide_eq_false (by have := hyN.1; omega)
                have d1 := hide (unhide cN _ hxL)
                have d2 := unhide cB b _ hxL
                have d3 := hide (unhide cN _ hyL)
                have d4 := unhide cB b _ hyL
                rw [unhide HSS] at d2 d4
                have d2 := hide d2
                have d4 := hide d4
                have hck := hide (fun (w5 : World) (hb : Below wr.heap.size wr w5) => (hb.cell (p := ⟨g2, o2 + (m + 1), none⟩) hg2).trans k1)
                have m1 := trivial
                have m2 := trivial
                clear hbs hyL hxL hyN
                by_cases hq2 : (nk (zF L (m + 1)) - S) % 4611686018427387904 < (nk (mn (fun x => (nk x - S) % 4611686018427387904) L m) - S) % 4611686018427387904
                · rw [if_pos hq2] at hbs2
                  have HS := hide hbs2
                  clear hbs2
                  generalize mn (fun x => (nk x - S) % 4611686018427387904) L m = y at *
                  generalize zF L (m + 1) = x at *
                  generalize (nk x - S) % 4611686018427387904 = u at *
                  generalize (nk y - S) % 4611686018427387904 = z at *
                  generalize nk x = nx at *
                  generalize nk y = ny at *
                  go_wp2_with (first
                    | (clear m1; go_at_call 45; refine (unhide d1 _).mono ?_; rintro e w5 ⟨rfl, hb⟩; have B5 := hide hb; clear hb)
                    | (clear m2; go_at_call 46; refine (unhide d2 _).mono ?_; rintro e w5 ⟨rfl, rfl⟩)
                    | (go_at_call 45; refine (unhide d3 _).mono ?_; rintro e w6 ⟨rfl, hb⟩; have hb6 := (unhide B5).trans (hb.mono (unhide B5).size); have k6 := unhide hck _ hb6; have B6 := hide hb6; clear hb hb6)
                    | (go_at_call 46; refine (unhide d4 _).mono ?_; rintro e w6 ⟨rfl, rfl⟩))
                  go_roundw
                  case rel => exact ⟨m + 1 + 1, by omega, by go_num, by rw [unhide HS], hide ((unhide HB4).trans ((unhide B6).mono (unhide HB4).size))⟩
                  case measure => simp [intOf]; omega
                · rw [if_neg hq2] at hbs2
                  have HS := hide hbs2
                  clear hbs2
                  generalize mn (fun x => (nk x - S) % 4611686018427387904) L m = y at *
                  generalize zF L (m + 1) = x at *
                  generalize (nk x - S) % 4611686018427387904 = u at *
                  generalize (nk y - S) % 4611686018427387904 = z at *
                  generalize nk x = nx at *
                  generalize nk y = ny at *
                  go_wp2_with (first
                    | (clear m1; go_at_call 45; refine (unhide d1 _).mono ?_; rintro e w5 ⟨rfl, hb⟩; have B5 := hide hb; clear hb)
                    | (clear m2; go_at_call 46; refine (unhide d2 _).mono ?_; rintro e w5 ⟨rfl, rfl⟩)
                    | (go_at_call 45; refine (unhide d3 _).mono ?_; rintro e w6 ⟨rfl, hb⟩; have hb6 := (unhide B5).trans (hb.mono (unhide B5).size); have k6 := unhide hck _ hb6; have B6 := hide hb6; clear hb hb6)
                    | (go_at_call 46; refine (unhide d4 _).mono ?_; rintro e w6 ⟨rfl, rfl⟩))
                  go_roundw
                  case rel => exact ⟨m + 1 + 1, by omega, by go_num, by rw [unhide HS], hide ((unhide HB4).trans ((unhide B6).mono (unhide HB4).size))⟩
                  case measure => simp [intOf]; omega
          · have hkn : k = n := by omega
            have e5 : bsn (fun x => (nk x - S) % 4611686018427387904) L k = (j : Int) := by
              rw [hkn, ← unhide H9]
              obtain ⟨m, hm⟩ : ∃ m, n = m + 1 := ⟨n - 1, by omega⟩
              rw [hm]
              rfl
            rw [e5, hkn]
            have R4 := (unhide HR).below (unhide HB4) (Nat.le_refl _)
            have hcj := R4.cell hj8
            have hfj := R4.frozen (k := j)
            have hjz : (j : Int) < 8 := by omega
            have R4 := hide R4
            clear e5 hkn hlt hk k
            generalize onb L s b j = oj at *
            go_wp2
            go_roundw
            case rel => exact ⟨b + 1, by omega, by go_num, hide (by rw [show onb L s (b + 1) = fun i => (j == i) || onb L s b i from by funext i; show ((fst L (stp s b)).toNat == i || onb L s b i) = _; rw [unhide HSS, unhide HJS, Int.toNat_natCast]]; exact (unhide R4).set j), hide (((unhide HB3).trans ((unhide HB4).mono (unhide HB3).size)).setCell (Nat.le_refl _) _)⟩
            case measure => simp [intOf]; omega
      · have hst := stp_high (unhide HSN) hltb hq
        generalize nk s = K at *
        go_wp2_with fail

        clear hst p1 p2 q1 q2 hq
        have hbd : decide ((b : Int) < 62) = true := decide_eq_true (by omega)
        try rw [hbd]
        clear hbd
        obtain ⟨w3, hw3⟩ : ∃ x, x = wr := ⟨_, rfl⟩
        subst hw3
        generalize hS : stp s b = S at *
        have HSS := hide hS
        clear hS
        have H9 := unhide HLAST S
        have HY : ∃ j : Nat, j < 8 ∧ fst L S = (j : Int) := by
          have := unhide HND _ (fst_mem S (unhide HNE))
          exact ⟨(fst L S).toNat, by omega, by omega⟩
        obtain ⟨j, hj8, hjS⟩ := HY
        rw [hjS] at H9
        have H9 := hide H9
        have HJS := hide hjS
        clear hjS
        go_loopw [10, 11] (fun xb xi w4 => ∃ k : Nat, k ≤ n ∧ xi = .int .i64 k ∧ xb = .int .i64 (bsn (fun x => (nk x - S) % 4611686018427387904) L k) ∧ Hid (Below w3.heap.size w3 w4)) (fun _ i _ => n - (intOf i).toNat)
        case atStart => exact ⟨0, by omega, rfl, rfl, hide (Below.refl _ _)⟩
        case round =>
          obtain ⟨k, hk, rfl, rfl, HB4⟩ := hrel
          by_cases hlt : k < n
          · rcases (unhide HI).below ((unhide HB3).trans ((unhide HB4).mono (unhide HB3).size)) (Nat.le_refl _) with ⟨h0, _⟩ | ⟨g2, o2, c2, hv2, hle2, hc2, hg2, hcell2⟩
            · omega
            · injection hv2 with hp _ hc
              subst hp
              subst hc
              unfold maxLen at hc2
              have k1 := hcell2 k hlt
              have hltz : (k : Int) < (n : Int) := by omega
              clear hcell2
              match k, hk, hlt, k1, hltz with
              | 0, hk, hlt, k1, hltz =>
                rw [Nat.add_zero] at k1
                have e0 : bsn (fun x => (nk x - S) % 4611686018427387904) L 0 = -1 := rfl
                have e1 : bsn (fun x => (nk x - S) % 4611686018427387904) L 1 = zF L 0 := rfl
                have E1 := hide e1
                rw [e0]
                clear e0 e1
                generalize zF L 0 = x at *
                go_wp2
                go_roundw
                case rel => exact ⟨1, by omega, rfl, by rw [unhide E1], HB4⟩
                case measure => simp [intOf]; omega
              | m + 1, hk, hlt, k1, hltz =>
                have hbs : bsn (fun x => (nk x - S) % 4611686018427387904) L (m + 1) = mn (fun x => (nk x - S) % 4611686018427387904) L m := rfl
                have hbs2 : bsn (fun x => (nk x - S) % 4611686018427387904) L (m + 1 + 1) = if (nk (zF L (m + 1)) - S) % 4611686018427387904 < (nk (mn (fun x => (nk x - S) % 4611686018427387904) L m) - S) % 4611686018427387904 then zF L (m + 1) else mn (fun x => (nk x - S) % 4611686018427387904) L m := rfl
                rw [hbs]
                have hyL : mn (fun x => (nk x - S) % 4611686018427387904) L m ∈ L := mn_mem (by rw [unhide HN]; omega)
                have hxL : zF L (m + 1) ∈ L := zF_mem (by rw [unhide HN]; omega)
                have hyN := unhide HND _ hyL
                have hb1 : decide (mn (fun x => (nk x - S) % 4611686018427387904) L m < 0) = false := decide_eq_false (by have := hyN.1; omega)
                have d1 := hide (unhide cN _ hxL)
                have d2 := unhide cB b _ hxL
                have d3 := hide (unhide cN _ hyL)
                have d4 := unhide cB b _ hyL
                rw [unhide HSS] at d2 d4
                have d2 := hide d2
                have d4 := hide d4
                have hck := hide (fun (w5 : World) (hb : Below wr.heap.size wr w5) => (hb.cell (p := ⟨g2, o2 + (m + 1), none⟩) hg2).trans k1)
                have m1 := trivial
                have m2 := trivial
                clear hbs hyL hxL hyN
                by_cases hq2 : (nk (zF L (m + 1)) - S) % 4611686018427387904 < (nk (mn (fun x => (nk x - S) % 4611686018427387904) L m) - S) % 4611686018427387904
                · rw [if_pos hq2] at hbs2
                  have HS := hide hbs2
                  clear hbs2
                  generalize mn (fun x => (nk x - S) % 4611686018427387904) L m = y at *
                  generalize zF L (m + 1) = x at *
                  generalize (nk x - S) % 4611686018427387904 = u at *
                  generalize (nk y - S) % 4611686018427387904 = z at *
                  generalize nk x = nx at *
                  generalize nk y = ny at *
                  go_wp2_with (first
                    | (clear m1; go_at_call 45; refine (unhide d1 _).mono ?_; rintro e w5 ⟨rfl, hb⟩; have B5 := hide hb; clear hb)
                    | (clear m2; go_at_call 46; refine (unhide d2 _).mono ?_; rintro e w5 ⟨rfl, rfl⟩)
                    | (go_at_call 45; refine (unhide d3 _).mono ?_; rintro e w6 ⟨rfl, hb⟩; have hb6 := (unhide B5).trans (hb.mono (unhide B5).size); have k6 := unhide hck _ hb6; have B6 := hide hb6; clear hb hb6)
                    | (go_at_call 46; refine (unhide d4 _).mono ?_; rintro e w6 ⟨rfl, rfl⟩))
                  go_roundw
                  case rel => exact ⟨m + 1 + 1, by omega, by go_num, by rw [unhide HS], hide ((unhide HB4).trans ((unhide B6).mono (unhide HB4).size))⟩
                  case measure => simp [intOf]; omega
                · rw [if_neg hq2] at hbs2
                  have HS := hide hbs2
                  clear hbs2
                  generalize mn (fun x => (nk x - S) % 4611686018427387904) L m = y at *
                  generalize zF L (m + 1) = x at *
                  generalize (nk x - S) % 4611686018427387904 = u at *
                  generalize (nk y - S) % 4611686018427387904 = z at *
                  generalize nk x = nx at *
                  generalize nk y = ny at *
                  go_wp2_with (first
                    | (clear m1; go_at_call 45; refine (unhide d1 _).mono ?_; rintro e w5 ⟨rfl, hb⟩; have B5 := hide hb; clear hb)
                    | (clear m2; go_at_call 46; refine (unhide d2 _).mono ?_; rintro e w5 ⟨rfl, rfl⟩)
                    | (go_at_call 45; refine (unhide d3 _).mono ?_; rintro e w6 ⟨rfl, hb⟩; have hb6 := (unhide B5).trans (hb.mono (unhide B5).size); have k6 := unhide hck _ hb6; have B6 := hide hb6; clear hb hb6)
                    | (go_at_call 46; refine (unhide d4 _).mono ?_; rintro e w6 ⟨rfl, rfl⟩))
                  go_roundw
                  case rel => exact ⟨m + 1 + 1, by omega, by go_num, by rw [unhide HS], hide ((unhide HB4).trans ((unhide B6).mono (unhide HB4).size))⟩
                  case measure => simp [intOf]; omega
          · have hkn : k = n := by omega
            have e5 : bsn (fun x => (nk x - S) % 4611686018427387904) L k = (j : Int) := by
              rw [hkn, ← unhide H9]
              obtain ⟨m, hm⟩ : ∃ m, n = m + 1 := ⟨n - 1, by omega⟩
              rw [hm]
              rfl
            rw [e5, hkn]
            have R4 := (unhide HR).below (unhide HB4) (Nat.le_refl _)
            have hcj := R4.cell hj8
            have hfj := R4.frozen (k := j)
            have hjz : (j : Int) < 8 := by omega
            have R4 := hide R4
            clear e5 hkn hlt hk k
            generalize onb L s b j = oj at *
            go_wp2
            go_roundw
            case rel => exact ⟨b + 1, by omega, by go_num, hide (by rw [show onb L s (b + 1) = fun i => (j == i) || onb L s b i from by funext i; show ((fst L (stp s b)).toNat == i || onb L s b i) = _; rw [unhide HSS, unhide HJS, Int.toNat_natCast]]; exact (unhide R4).set j), hide (((unhide HB3).trans ((unhide HB4).mono (unhide HB3).size)).setCell (Nat.le_refl _) _)⟩
            case measure => simp [intOf]; omega
    · obtain rfl : b = 62 := by omega
      have hl8 : ∀ k, (seL (onb L s 62) s k).length ≤ k := seL_len _ _
      have HL8 := hide hl8
      obtain ⟨f, hf⟩ : ∃ f, onb L s 62 = f := ⟨_, rfl⟩
      have HEND := unhide HEND
      rw [hf] at HR HEND HL8
      have HEND := hide HEND
      obtain ⟨w3, hw3⟩ : ∃ x, x = wr := ⟨_, rfl⟩
      subst hw3
      clear hf hl8 R2 HH0
      go_wp2_with fail
      rw [show ((62 : Nat) : Int) = (62 : Int) from rfl]
      go_loopw [12, 13] (fun xv xi w4 => ∃ k : Nat, k ≤ 8 ∧ xi = .int .i64 k ∧ Hid (OL w4 w3.heap.size xv (seL f s k)) ∧ Hid (Below w3.heap.size w3 w4)) (fun _ i _ => 8 - (intOf i).toNat)
      case atStart => exact ⟨0, by omega, rfl, hide (OL.nil _ _), hide (Below.refl _ _)⟩
      case round =>
        obtain ⟨k, hk, rfl, HO, HB4⟩ := hrel
        by_cases hlt : k < 8
        · have R4 := (unhide HR).below (unhide HB4) (Nat.le_refl _)
          have hck := R4.cell hlt
          have hltz : (k : Int) < 8 := by omega
          have HT := hide (show (seL f s k).length ≤ 1000000 from Nat.le_trans (unhide HL8 k) (by omega))
          clear R4
          cases hfk : f k with
          | true =>
            rw [hfk] at hck
            by_cases hks : (k : Int) = s
            · have Y := hide (seL_no (f := f) (.inr hks))
              have hb1 : ((k : Int) != s) = false := by simp [hks]
              clear hks hfk
              go_wp2
              go_roundw
              case rel => exact ⟨k + 1, by omega, by go_num, by rw [unhide Y]; exact HO, HB4⟩
              case measure => simp [intOf]; omega
            · have Y := hide (seL_yes hfk hks)
              have hb1 : ((k : Int) != s) = true := by simp [hks]
              clear hks hfk
              go_wp2_with (at_builtin; refine wpList_snoc (by simp [Region.wanted]) (.tmp 76) (.tmp 78) rfl w3.heap.size _ (seL f s k) (k : Int) rfl ((unhide HO).alloc _) _ rfl (cell_one (k : Int) _ 3) (unhide HT) (by have := (unhide HB4).size; simp; omega) ?_; intro v6 w6 o6 b6; have O6 := hide o6; have B6 := hide (((unhide HB4).alloc (unhide HB4).size _).trans b6); clear o6 b6)
              go_roundw
              case rel => exact ⟨k + 1, by omega, by go_num, by rw [unhide Y]; exact O6, B6⟩
              case measure => simp [intOf]; omega
          | false =>
            rw [hfk] at hck
            have Y := hide (seL_no (s := s) (.inl hfk))
            clear hfk
            go_wp2
            go_roundw
            case rel => exact ⟨k + 1, by omega, by go_num, by rw [unhide Y]; exact HO, HB4⟩
            case measure => simp [intOf]; omega
        · obtain rfl : k = 8 := by omega
          go_wp2
          go_ret
          have O := unhide HO
          rw [unhide HEND] at O
          exact ⟨_, rfl, O.mono (unhide HB3).size, (unhide HB3).trans ((unhide HB4).mono (unhide HB3).size)⟩
end Go.Proofs.YtmfgbecdimndcaaDoor
