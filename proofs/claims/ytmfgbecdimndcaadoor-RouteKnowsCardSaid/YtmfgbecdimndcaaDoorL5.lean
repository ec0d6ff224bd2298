/- Walk of bellwetherlaw11.RouteKnows. -/
import Derived.Test.YtmfgbecdimndcaaDoorL1
namespace Go.Proofs.YtmfgbecdimndcaaDoor
open Go.RowKit

theorem bh_pos {a b : Int} (ha : IsN a) (hb : IsN b) (h : a ≠ b) : 0 < bh a b := by
  have h1 := bh_gp 0 a b
  have h2 := gp_rng 0 a
  have h3 := gp_rng 0 b
  have h4 : gp 0 a ≠ gp 0 b := fun e => h (gp_inj t0 ha hb e)
  omega
/-- Nobody stands between the one ahead and the node. -/
theorem between_none (a x s : Int) (ha : IsN a) (hx : IsN x) (hs : IsN s) (h1 : a ≠ s) (h2 : x ≠ a) (hl : bh a s ≤ bh x s) (h3 : x ≠ s) (w : World) :
    Calls Tryd.prog 27 #[.int .i64 (nk a), .int .i64 (nk x), .int .i64 (nk s)] w fun e w' => e = .returned (.bool false) ∧ w' = w := by
  have c1 := hide (behind_is (nk a) (nk x) (nk_key a ha) (nk_key x hx))
  have c2 := hide (behind_is (nk a) (nk s) (nk_key a ha) (nk_key s hs))
  have e1 : (nk x - nk a) % 4611686018427387904 = bh a x := rfl
  have e2 : (nk s - nk a) % 4611686018427387904 = bh a s := rfl
  rw [e1] at c1
  rw [e2] at c2
  have p1 := bh_pos ha hx (fun e => h2 e.symm)
  have p2 := bh_pos ha hs h1
  have p3 := bh_pos hx hs h3
  have hgt : bh a s < bh a x := by
    have q1 := bh_gp 0 a x
    have q2 := bh_gp 0 a s
    have q3 := bh_gp 0 x s
    have r1 := gp_rng 0 a
    have r2 := gp_rng 0 x
    have r3 := gp_rng 0 s
    generalize gp 0 a = A at *
    generalize gp 0 x = X at *
    generalize gp 0 s = S at *
    generalize bh a x = u at *
    generalize bh a s = v at *
    generalize bh x s = z at *
    clear c1 c2 e1 e2
    omega
  clear e1 e2 hl p3
  generalize bh a x = u at *
  generalize bh a s = v at *
  generalize nk a = A at *
  generalize nk x = X at *
  generalize nk s = S at *
  have hvz : (v == 0) = false := beq_false_of_ne (by omega)
  have hle : decide (u ≤ v) = false := decide_eq_false (by omega)
  have m1 := trivial
  go_enter Tryd.func27, Tryd.ntmps27
  go_wp2_with (first
    | (clear m1; go_at_call 29; refine (unhide c1 _).mono ?_; rintro e w1 ⟨rfl, rfl⟩)
    | (go_at_call 29; refine (unhide c2 _).mono ?_; rintro e w1 ⟨rfl, rfl⟩))
  go_ret
  exact ⟨by rw [← hle]; rfl, rfl⟩
theorem alone_none {L : List Int} {s : Int} (hs : s ∈ L) (h1 : L.length = 1) : oth L s = [] ∧ fng L s = [] := by
  match L, h1 with
  | [a], _ =>
    have e : s = a := by simpa using hs
    subst e
    refine ⟨by simp [oth], ?_⟩
    rw [List.eq_nil_iff_forall_not_mem]
    intro x hx
    have h2 := fng_sub (by simp) hx
    have h3 := (fng_mem.1 hx).1
    exact h3 (by simpa using h2)
theorem more_oth {L : List Int} {s : Int} (hR : Ris L) (h0 : 0 < L.length) (h1 : L.length ≠ 1) : oth L s ≠ [] := by
  intro e
  have h2 : ∀ x ∈ L, x = s := by
    intro x hx
    by_cases q : x = s
    · exact q
    · have := oth_mem.2 ⟨hx, q⟩
      rw [e] at this
      cases this
  have h3 := h2 _ (zF_mem (L := L) (i := 0) (by omega))
  have h4 := h2 _ (zF_mem (L := L) (i := 1) (by omega))
  have h5 := ((ris_iff L).1 hR 1 (by omega)).1
  have e1 : lea L 1 = zF L 0 + 1 := rfl
  omega
set_option maxRecDepth 100000 in
set_option maxHeartbeats 600000 in
theorem knows_walk (bits self at' : Int) (w : World) (hG : Glob w) :
    Calls Tryd.prog 5 #[.int .i64 bits, .int .i64 self, .int .i64 at'] w fun e w' => e = .returned (.bool true) ∧ Below w.heap.size w w' := by
  have HG := hide hG
  clear hG
  go_enter Tryd.func5, Tryd.ntmps5
  go_wp2_with (go_at_call 23; refine (some_is _ _ _).mono ?_; rintro e w2 ⟨v, L, s, rfl, ho, hR, hs, hb⟩; have O2 := hide ho; have HR := hide hR; have HS := hide hs; have B2 := hide hb; clear ho hR hs hb)
  have hl8 := ris_le (unhide HR)
  have hl0 := List.length_pos_iff.2 (mem_ne (unhide HS))
  have G2 := hide ((unhide HG).below (unhide B2) (unhide HG).size)
  have I2 := hide (unhide O2).il
  have c1 := fingers_is L s v w2 (unhide G2) (unhide I2) (unhide HR) (unhide HS)
  have c2 := fun (w3 : World) (hb : Below w2.heap.size w2 w3) => ahead_both L s v w3 ((unhide G2).below hb (unhide G2).size) ((unhide I2).below hb (Nat.le_refl _)) (unhide HR) (unhide HS)
  have c3 := hide (fun (w3 : World) (hb : Below w2.heap.size w2 w3) => wakes_any w3 ((unhide G2).below hb (unhide G2).size))
  obtain ⟨q2, k2, rfl⟩ := owns_shape (unhide O2)
  obtain ⟨m, hm⟩ : ∃ m, L.length = m := ⟨_, rfl⟩
  by_cases h1 : L.length = 1
  · obtain ⟨h2, h3⟩ := alone_none (unhide HS) h1
    rw [h3] at c1
    simp only [if_pos h2, h1] at c2
    rw [h1] at c1 ⊢
    have c1 := hide c1
    have c2 := hide c2
    clear h1 h2 h3 hl0 hl8 hm
    go_wp2_with (first
      | (go_at_call 11; refine (unhide c1).mono ?_; rintro e w3 ⟨v3, rfl, ho, hb⟩; obtain ⟨q3, k3, rfl⟩ := owns_shape ho; have B3 := hide hb; clear ho hb)
      | (go_at_call 10; refine (unhide c2 _ (unhide B3)).mono ?_; rintro e w4 ⟨rfl, hb⟩; have B4 := hide ((unhide B3).trans (hb.mono (unhide B3).size)); clear hb)
      | (go_at_call 17; refine (unhide c3 _ (unhide B4)).mono ?_; rintro e w5 ⟨rfl, hb⟩; have B5 := hide ((unhide B4).trans (hb.mono (unhide B4).size)); clear hb))
    go_ret
    exact ⟨rfl, (unhide B2).trans ((unhide B5).mono (unhide B2).size)⟩
  · have h2 := more_oth (s := s) (unhide HR) hl0 h1
    simp only [if_neg h2] at c2
    obtain ⟨haL, has⟩ := ahd_mem h2
    have hal : ∀ x ∈ L, x ≠ s → bh (ahd L s) s ≤ bh x s := fun x hx hq => ahd_least hx hq
    obtain ⟨a, ha⟩ : ∃ a, ahd L s = a := ⟨_, rfl⟩
    rw [ha] at haL has hal
    simp only [ha] at c2
    have c1 := hide c1
    have c2 := hide c2
    have NS := (unhide HR).2
    have c4 := hide (fun (x : Int) (hx : x ∈ L) (w3 : World) (hb : Below w2.heap.size w2 w3) => node_is x (NS x hx) w3 ((unhide G2).below hb (unhide G2).size))
    have c5 := hide (fun (x : Int) (hx : x ∈ L) (h1 : x ≠ a) (h3 : x ≠ s) => between_none a x s (NS a haL) (NS x hx) (NS s (unhide HS)) has h1 (hal x hx h3) h3)
    have c6 := fun (x : Int) (hx : x ∈ L) (w3 : World) (hb : Below w2.heap.size w2 w3) => nodes_q L x (.slice q2 L.length k2) w3 ((unhide I2).below hb (Nat.le_refl _)) (unhide HR)
    have c6 := hide (fun (x : Int) (hx : x ∈ L) (w3 : World) (hb : Below w2.heap.size w2 w3) => (decide_eq_true hx) ▸ c6 x hx w3 hb)
    obtain ⟨b, hb, hb2⟩ : ∃ q : Nat, wrap64 ((IntKind.u64.wrap at').tmod 62) = q ∧ q < 62 := modN at' 62 (by omega) (by omega)
    have c7 := back_is (nk s) b (nk_key s (NS s (unhide HS))) (by omega)
    have e7 : (nk s - 2 ^ b) % 4611686018427387904 = stp s b := rfl
    rw [e7] at c7
    have c7 := hide c7
    have c8 := hide (fun (x : Int) (hx : x ∈ L) => behind_is (stp s b) (nk x) (stp_key s b) (nk_key x (NS x hx)))
    have HAL := hide haL
    have hasb : (a == s) = false := beq_false_of_ne has
    have hm1 : ((m : Int) == 1) = false := beq_false_of_ne (by omega)
    have hm0 : 0 < m := by omega
    have hm8 : m ≤ 8 := by omega
    have HM := hide hm
    have HB2 := hide hb2
    simp only [hm] at c2
    rw [hm] at c1 c6 ⊢
    have J2 := hide (show ISl w2 (.slice q2 m k2) m (zF L) from by have := unhide I2; unfold IL at this; rwa [hm] at this)
    have mk := trivial
    clear e7 NS haL has hal ha h2 hl0 hl8 h1 hm
    go_wp2_with (first
      | (go_at_call 11; refine (unhide c1).mono ?_; rintro e w3 ⟨v3, rfl, ho, hbb⟩; obtain ⟨q3, k3, rfl⟩ := owns_shape ho; have I3 := hide ho.il; have B3 := hide hbb; clear ho hbb)
      | (go_at_call 10; refine (unhide c2 _ (unhide B3)).mono ?_; rintro e w4 ⟨rfl, hbb⟩; have I4 := hide ((unhide I3).below hbb (Nat.le_refl _)); have B4 := hide ((unhide B3).trans (hbb.mono (unhide B3).size)); clear hbb)
      | (clear mk; go_at_call 26; refine (unhide c4 s (unhide HS) _ (unhide B4)).mono ?_; rintro e w4 ⟨rfl, rfl⟩)
      | (go_at_call 26; refine (unhide c4 a (unhide HAL) _ (unhide B4)).mono ?_; rintro e w4 ⟨rfl, rfl⟩)
      | (go_at_call 15; refine (unhide c6 a (unhide HAL) _ (unhide B4)).mono ?_; rintro e w6 ⟨rfl, qd, hqd⟩; have hb6 : Below w4.heap.size w4 w6 := hqd ▸ below_drewN (Below.refl _ _) qd; have I6 := hide ((unhide I4).below hb6 (Nat.le_refl _)); have B6 := hide ((unhide B4).trans (hb6.mono (unhide B4).size)); clear hqd hb6))
    have hyF : fst L (stp s b) = s ∨ fst L (stp s b) ∈ fng L s := by
      by_cases q : fst L (stp s b) = s
      · exact .inl q
      · exact .inr (fng_mem.2 ⟨q, b, unhide HB2, rfl⟩)
    have hFL : ∀ x ∈ fng L s, x ∈ L ∧ x ≠ s := fun x hx => ⟨fng_sub (mem_ne (unhide HS)) hx, (fng_mem.1 hx).1⟩
    have hFr := fng_rise L s
    have hFn := fng_len L s
    have efst : mn (fun n => (nk n - stp s b) % 4611686018427387904) L (m - 1) = fst L (stp s b) := by rw [← unhide HM]; rfl
    obtain ⟨F, hF⟩ : ∃ F, fng L s = F := ⟨_, rfl⟩
    rw [hF] at hyF hFL hFr hFn
    have I6 := unhide I6
    rw [hF] at I6 ⊢
    obtain ⟨n, hn⟩ : ∃ n, F.length = n := ⟨_, rfl⟩
    unfold IL at I6
    rw [hn] at I6 hFn ⊢
    have hFlt : ∀ k, 0 < k → k < n → zF F (k - 1) < zF F k := by
      intro k h0 hk
      have := List.pairwise_iff_getElem.1 hFr (k - 1) k (by omega) (by omega) (by omega)
      simpa only [zF, List.getD, List.getElem?_eq_getElem (show k < F.length by omega), List.getElem?_eq_getElem (show k - 1 < F.length by omega), Option.getD_some] using this
    have HI6 := hide I6
    have HYF := hide hyF
    have HFL := hide hFL
    have HFLT := hide hFlt
    have HEF := hide efst
    have HNF := hide hn
    clear I6 hyF hFL hFr efst hF hFlt hn
    rcases (unhide J2).below (unhide B6) (Nat.le_refl _) with ⟨h0, _⟩ | ⟨g2, o2, c2', hv2, hle2, hcm2, hg2, hcell2⟩
    · omega
    injection hv2 with hp _ hc
    subst hp
    subst hc
    unfold maxLen at hcm2
    have HC := hide hcell2
    clear hcell2
    go_loop [19] (fun xi => ∃ k : Nat, k ≤ m ∧ xi = .int .i64 k) (fun i => m - (intOf i).toNat)
    case atStart => exact ⟨0, by omega, rfl⟩
    case round =>
      obtain ⟨k, hk, rfl⟩ := hrel
      by_cases hlt : k < m
      · have hck := unhide HC k hlt
        have hltz : (k : Int) < (m : Int) := by omega
        have hxm : zF L k ∈ L := zF_mem (by rw [unhide HM]; exact hlt)
        have d4 := hide (unhide c4 _ hxm _ (unhide B6))
        have d5 := hide (fun h1 h3 => unhide c5 _ hxm h1 h3 w6)
        clear hxm
        by_cases hxs : zF L k = s
        · have b1 : (zF L k != s) = false := by simp [hxs]
          clear hxs
          generalize nk (zF L k) = nx at *
          generalize zF L k = x at *
          go_wp2_with (go_at_call 26; refine (unhide d4).mono ?_; rintro e w6 ⟨rfl, rfl⟩)
          go_round
          case rel => exact ⟨k + 1, by omega, by go_num⟩
          case measure => simp [intOf]; omega
        · have b1 : (zF L k != s) = true := by simp [hxs]
          by_cases hxa : zF L k = a
          · have b2 : (zF L k != a) = false := by simp [hxa]
            clear hxs hxa
            generalize nk (zF L k) = nx at *
            generalize zF L k = x at *
            go_wp2_with (go_at_call 26; refine (unhide d4).mono ?_; rintro e w6 ⟨rfl, rfl⟩)
            go_round
            case rel => exact ⟨k + 1, by omega, by go_num⟩
            case measure => simp [intOf]; omega
          · have b2 : (zF L k != a) = true := by simp [hxa]
            have d9 := hide (unhide d5 hxa hxs)
            clear hxs hxa
            generalize nk (zF L k) = nx at *
            generalize zF L k = x at *
            go_wp2_with (first
              | (go_at_call 26; refine (unhide d4).mono ?_; rintro e w6 ⟨rfl, rfl⟩)
              | (go_at_call 27; refine (unhide d9).mono ?_; rintro e w6 ⟨rfl, rfl⟩))
            go_round
            case rel => exact ⟨k + 1, by omega, by go_num⟩
            case measure => simp [intOf]; omega
      · obtain rfl : m = k := by omega
        have hc0 := unhide HC 0 hm0
        rw [Nat.add_zero] at hc0
        have e0 : zF L 0 = mn (fun n => (nk n - stp s b) % 4611686018427387904) L 0 := rfl
        have E0 := hide e0
        clear e0
        go_wp2_with (go_at_call 28; refine (unhide c7 _).mono ?_; rintro e w6 ⟨rfl, rfl⟩)
        have hxm0 : ∀ i, i < m → zF L i ∈ L := fun i hi => zF_mem (by rw [unhide HM]; exact hi)
        have hmm : ∀ i, i < m → mn (fun n => (nk n - stp s b) % 4611686018427387904) L i ∈ L := fun i hi => mn_mem (by rw [unhide HM]; exact hi)
        have HXM := hide hxm0
        have HMM := hide hmm
        clear hxm0 hmm
        go_loop [24, 25] (fun xb xi => ∃ k : Nat, k < m ∧ xi = .int .i64 ((k : Int) + 1) ∧ xb = .int .i64 (mn (fun n => (nk n - stp s b) % 4611686018427387904) L k)) (fun _ i => m + 1 - (intOf i).toNat)
        case atStart => exact ⟨0, hm0, rfl, by rw [← unhide E0]⟩
        case round =>
          obtain ⟨k, hk, rfl, rfl⟩ := hrel
          clear hc0
          by_cases hlt : k + 1 < m
          · have hck := unhide HC (k + 1) hlt
            have d4 := hide (unhide c4 _ (unhide HXM (k + 1) hlt) _ (unhide B6))
            have d5 := hide (unhide c4 _ (unhide HMM k hk) _ (unhide B6))
            have d6 := hide (unhide c8 _ (unhide HXM (k + 1) hlt) w6)
            have d7 := hide (unhide c8 _ (unhide HMM k hk) w6)
            have hs : mn (fun n => (nk n - stp s b) % 4611686018427387904) L (k + 1) = if (nk (zF L (k + 1)) - stp s b) % 4611686018427387904 < (nk (mn (fun n => (nk n - stp s b) % 4611686018427387904) L k) - stp s b) % 4611686018427387904 then zF L (k + 1) else mn (fun n => (nk n - stp s b) % 4611686018427387904) L k := rfl
            have m1 := trivial
            have m2 := trivial
            by_cases hq : (nk (zF L (k + 1)) - stp s b) % 4611686018427387904 < (nk (mn (fun n => (nk n - stp s b) % 4611686018427387904) L k) - stp s b) % 4611686018427387904
            · rw [if_pos hq] at hs
              have HS' := hide hs
              clear hs
              generalize mn (fun n => (nk n - stp s b) % 4611686018427387904) L k = y at *
              generalize zF L (k + 1) = x at *
              generalize (nk x - stp s b) % 4611686018427387904 = u at *
              generalize (nk y - stp s b) % 4611686018427387904 = z at *
              generalize nk x = nx at *
              generalize nk y = ny at *
              go_wp2_with (first
                | (clear m1; go_at_call 26; refine (unhide d4).mono ?_; rintro e w6 ⟨rfl, rfl⟩)
                | (go_at_call 26; refine (unhide d5).mono ?_; rintro e w6 ⟨rfl, rfl⟩)
                | (clear m2; go_at_call 29; refine (unhide d6).mono ?_; rintro e w6 ⟨rfl, rfl⟩)
                | (go_at_call 29; refine (unhide d7).mono ?_; rintro e w6 ⟨rfl, rfl⟩))
              go_round
              case rel => exact ⟨k + 1, hlt, by go_num, by rw [unhide HS']⟩
              case measure => simp [intOf]; omega
            · rw [if_neg hq] at hs
              have HS' := hide hs
              clear hs
              generalize mn (fun n => (nk n - stp s b) % 4611686018427387904) L k = y at *
              generalize zF L (k + 1) = x at *
              generalize (nk x - stp s b) % 4611686018427387904 = u at *
              generalize (nk y - stp s b) % 4611686018427387904 = z at *
              generalize nk x = nx at *
              generalize nk y = ny at *
              go_wp2_with (first
                | (clear m1; go_at_call 26; refine (unhide d4).mono ?_; rintro e w6 ⟨rfl, rfl⟩)
                | (go_at_call 26; refine (unhide d5).mono ?_; rintro e w6 ⟨rfl, rfl⟩)
                | (clear m2; go_at_call 29; refine (unhide d6).mono ?_; rintro e w6 ⟨rfl, rfl⟩)
                | (go_at_call 29; refine (unhide d7).mono ?_; rintro e w6 ⟨rfl, rfl⟩))
              go_round
              case rel => exact ⟨k + 1, hlt, by go_num, by rw [unhide HS']⟩
              case measure => simp [intOf]; omega
          · have hkm : k = m - 1 := by omega
            rw [hkm]
            have hef := unhide HEF
            rw [hef]
            have hz : ((m - 1 : Nat) : Int) + 1 = (m : Int) := by omega
            rw [hz]
            clear hkm hef hz E0 HMM HXM HEF hlt hk k
            obtain ⟨y, hy⟩ : ∃ y, fst L (stp s b) = y := ⟨_, rfl⟩
            have HY := unhide HYF
            rw [hy] at HY ⊢
            obtain ⟨m0, hm0'⟩ : ∃ d, (y == s) = d := ⟨_, rfl⟩
            have hlast : (m0 || mt F y n) = true := by
              rcases HY with h | h
              · have : m0 = true := by rw [← hm0']; simp [h]
                rw [this]; rfl
              · have := mt_mem F y
                rw [unhide HNF, decide_eq_true h] at this
                rw [this, Bool.or_true]
            have HLAST := hide hlast
            clear hlast HY HYF hy
            go_wp2_with fail
            have m0z := hm0'
            clear m0z
            go_loopw [34, 35] (fun xm xi w7 => ∃ k : Nat, k ≤ n ∧ xi = .int .i64 k ∧ xm = .bool (m0 || mt F y k) ∧ Hid (Below w6.heap.size w6 w7)) (fun _ i _ => n - (intOf i).toNat)
            case atStart => exact ⟨0, by omega, rfl, by simp [mt], hide (Below.refl _ _)⟩
            case round =>
              obtain ⟨k, hk, rfl, rfl, HB⟩ := hrel
              have BR := hide ((unhide B6).trans ((unhide HB).mono (unhide B6).size))
              by_cases hlt : k < n
              · rcases (unhide HI6).below (unhide HB) (Nat.le_refl _) with ⟨h0, _⟩ | ⟨g3, o3, c3', hv3, hle3, hc3, hg3, hcell3⟩
                · omega
                · injection hv3 with hp _ hc
                  subst hp
                  subst hc
                  unfold maxLen at hc3
                  have k1 := hcell3 k hlt
                  obtain ⟨hxL, hxs⟩ := unhide HFL _ (zF_mem (L := F) (i := k) (by rw [unhide HNF]; exact hlt))
                  have d6 := hide (unhide c6 _ hxL)
                  have DR := hide (fun q => below_drewN (unhide BR) q)
                  have b0 : (zF F k == s) = false := beq_false_of_ne hxs
                  have hltz : (k : Int) < (n : Int) := by omega
                  have hs : (m0 || mt F y (k + 1)) = ((m0 || mt F y k) || zF F k == y) := by rw [mt, Bool.or_assoc]
                  clear hxL hxs
                  by_cases h0 : 0 < k
                  · have k2 := hcell3 (k - 1) (by omega)
                    have hg := unhide HFLT k h0 hlt
                    have b1 : decide (0 < k) = true := decide_eq_true h0
                    have b2 : decide (zF F k ≤ zF F (k - 1)) = false := decide_eq_false (by omega)
                    have hw : IntKind.i64.wrap ((k : Int) - 1) = ((k - 1 : Nat) : Int) := by rw [IntKind.wrap_i64]; omega
                    have hw2 : (k : Int) - 1 = ((k - 1 : Nat) : Int) := by omega
                    have hlt1 : k - 1 < n := by omega
                    have hltz1 : ((k - 1 : Nat) : Int) < (n : Int) := by omega
                    obtain ⟨j, hj⟩ : ∃ j, k - 1 = j := ⟨_, rfl⟩
                    rw [hj] at k2 b2 hw hw2 hlt1 hltz1
                    clear hcell3 hg
                    have HJ := hide hj
                    clear hj
                    generalize zF F j = z at *
                    have HW2 := hide hw2
                    clear hw2
                    cases hm : (m0 || mt F y k) with
                    | true =>
                      rw [hm] at hs
                      have HS' := hide hs
                      clear hs hm
                      generalize zF F k = x at *
                      go_wp2
                      go_quiet (first | (go_at_call 15; with_reducible refine Calls.quiet_of (unhide d6 _ (unhide DR _))))
                      go_wp2
                      go_roundw
                      case rel => exact ⟨k + 1, by omega, by go_num, by rw [unhide HS']; simp, hide (below_drewN (unhide HB) nq)⟩
                      case measure => simp [intOf]; omega
                    | false =>
                      rw [hm] at hs
                      have HS' := hide hs
                      clear hs hm
                      generalize zF F k = x at *
                      go_wp2
                      go_quiet (first | (go_at_call 15; with_reducible refine Calls.quiet_of (unhide d6 _ (unhide DR _))))
                      go_wp2
                      go_roundw
                      case rel => exact ⟨k + 1, by omega, by go_num, by rw [unhide HS']; simp, hide (below_drewN (unhide HB) nq)⟩
                      case measure => simp [intOf]; omega
                  · have b1 : decide (0 < k) = false := decide_eq_false h0
                    clear hcell3
                    cases hm : (m0 || mt F y k) with
                    | true =>
                      rw [hm] at hs
                      have HS' := hide hs
                      clear hs hm
                      generalize zF F k = x at *
                      go_wp2
                      go_quiet (first | (go_at_call 15; with_reducible refine Calls.quiet_of (unhide d6 _ (unhide DR _))))
                      go_wp2
                      go_roundw
                      case rel => exact ⟨k + 1, by omega, by go_num, by rw [unhide HS']; simp, hide (below_drewN (unhide HB) nq)⟩
                      case measure => simp [intOf]; omega
                    | false =>
                      rw [hm] at hs
                      have HS' := hide hs
                      clear hs hm
                      generalize zF F k = x at *
                      go_wp2
                      go_quiet (first | (go_at_call 15; with_reducible refine Calls.quiet_of (unhide d6 _ (unhide DR _))))
                      go_wp2
                      go_roundw
                      case rel => exact ⟨k + 1, by omega, by go_num, by rw [unhide HS']; simp, hide (below_drewN (unhide HB) nq)⟩
                      case measure => simp [intOf]; omega
              · obtain rfl : n = k := by omega
                have hlast := unhide HLAST
                rw [hlast]
                clear hlast
                go_wp2_with (go_at_call 17; refine (unhide c3 _ (unhide BR)).mono ?_; rintro e w8 ⟨rfl, hbb⟩; have B8 := hide ((unhide BR).trans (hbb.mono (unhide BR).size)); clear hbb)
                go_ret
                exact ⟨rfl, (unhide B2).trans ((unhide B8).mono (unhide B2).size)⟩
end Go.Proofs.YtmfgbecdimndcaaDoor
