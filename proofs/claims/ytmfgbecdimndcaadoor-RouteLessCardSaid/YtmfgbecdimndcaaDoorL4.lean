/- Walk of bellwetherlaw11.RouteLess. -/
import Derived.Test.YtmfgbecdimndcaaDoorL1
namespace Go.Proofs.YtmfgbecdimndcaaDoor
open Go.RowKit

theorem oth_take {L : List Int} {k : Nat} (o : Int) (h : k < L.length) : oth (L.take (k + 1)) o = if zF L k = o then oth (L.take k) o else oth (L.take k) o ++ [zF L k] := by
  have e : L.take (k + 1) = L.take k ++ [zF L k] := by
    rw [List.take_succ_eq_append_getElem h]
    simp [zF, List.getD, h]
  rw [e, oth, List.filter_append]
  by_cases hq : zF L k = o
  · rw [if_pos hq]; simp [hq, oth]
  · rw [if_neg hq]; simp [hq, oth]
theorem oth_ris {L : List Int} (h : Ris L) (o : Int) : Ris (oth L o) := ⟨h.1.filter _, fun x hx => h.2 x (oth_mem.1 hx).1⟩
/-- A way's end is the owner. -/
theorem way_last {T s : Int} {L W : List Int} {n : Nat} (hT : IsT T) (hR : Ris L) (hs : s ∈ L) (hW : IsWay T L s W) (hn : W.length = n + 1) : zF W n = ow T L := by
  have h1 := isway_end hW
  have h2 := isway_mem hs hW (n + 1) (by omega)
  rw [hn, zF_cons] at h1
  rw [zF_cons] at h2
  exact ((nxt_own hT hR.2 h2).1 h1).symm
theorem way_nil {T s : Int} {L W : List Int} (hT : IsT T) (hR : Ris L) (hs : s ∈ L) (hW : IsWay T L s W) : W = [] ↔ ow T L = s := by
  rw [← nxt_own hT hR.2 hs]
  cases W with
  | nil => exact ⟨fun _ => hW, fun _ => rfl⟩
  | cons h W => exact ⟨fun q => (by cases q), fun q => absurd (hW.1.symm.trans q) hW.2.1⟩
set_option maxRecDepth 100000 in
set_option maxHeartbeats 4000000 in
theorem less_walk (t bits self : Int) (w : World) (hG : Glob w) :
    Calls Tryd.prog 7 #[.int .i64 t, .int .i64 bits, .int .i64 self] w fun e w' => e = .returned (.bool true) ∧ Below w.heap.size w w' := by
  obtain ⟨T, hT, kT⟩ : ∃ T, wrap64 ((IntKind.u64.wrap t).tmod 4) = T ∧ IsT T := ⟨_, mod4 t, mod4_topic t⟩
  have KT := hide kT
  have HG := hide hG
  clear hG kT
  go_enter Tryd.func7, Tryd.ntmps7
  go_wp2_with fail
  rw [hT]
  clear hT
  go_wp2_with (go_at_call 23; refine (some_is _ _ _).mono ?_; rintro e w2 ⟨v, L, s, rfl, ho, hR, hs, hb⟩; have O2 := hide ho; have HR := hide hR; have HS := hide hs; have B2 := hide hb; clear ho hR hs hb)
  have hl8 := ris_le (unhide HR)
  have G2 := hide ((unhide HG).below (unhide B2) (unhide HG).size)
  have I2 := hide (unhide O2).il
  have c2 := hide (owner_il T L v w2 (unhide G2) (unhide KT) (unhide I2) (unhide HR).2 (mem_ne (unhide HS)))
  have c4 := hide (fun (w3 : World) (hb : Below w2.heap.size w2 w3) => wakes_any w3 ((unhide G2).below hb (unhide G2).size))
  obtain ⟨o, hO⟩ : ∃ o, ow T L = o := ⟨_, rfl⟩
  have hom : o ∈ L := hO ▸ ow_mem T (unhide HS)
  rw [hO] at c2
  by_cases hx : o = s
  · subst hx
    clear hO hl8 hom
    go_wp2_with (first
      | (go_at_call 24; refine (unhide c2).mono ?_; rintro e w2 ⟨rfl, rfl⟩)
      | (go_at_call 17; refine (unhide c4 _ (Below.refl _ _)).mono ?_; rintro e w5 ⟨rfl, hb⟩; have B5 := hide hb; clear hb))
    go_ret
    exact ⟨rfl, (unhide B2).trans ((unhide B5).mono (unhide B2).size)⟩
  · have hos : (o == s) = false := beq_false_of_ne hx
    obtain ⟨q2, k2, rfl⟩ := owns_shape (unhide O2)
    obtain ⟨m, hm⟩ : ∃ m, L.length = m := ⟨_, rfl⟩
    have HO := hide hO
    have HX := hide hx
    have HOM := hide hom
    have HM := hide hm
    have HTK := hide (fun k (h : k < m) => oth_take (L := L) o (k := k) (hm ▸ h))
    have HLE : Hid (∀ k, (oth (L.take k) o).length ≤ 8) := hide (fun k => Nat.le_trans (List.length_filter_le (fun n => n != o) (L.take k)) (by rw [List.length_take]; omega))
    clear hO hx hom
    go_wp2_with (go_at_call 24; refine (unhide c2).mono ?_; rintro e w2 ⟨rfl, rfl⟩)
    have J2 := hide (show ISl w2 (.slice q2 m k2) m (zF L) from by have := unhide I2; unfold IL at this; rwa [hm] at this)
    clear hm
    go_loopw [11, 12] (fun xv xi w3 => ∃ k : Nat, k ≤ m ∧ xi = .int .i64 k ∧ Hid (OL w3 w2.heap.size xv (oth (L.take k) o)) ∧ Hid (Below w2.heap.size w2 w3)) (fun _ i _ => m - (intOf i).toNat)
    case atStart => exact ⟨0, by omega, rfl, hide (OL.nil _ _), hide (Below.refl _ _)⟩
    case round =>
      obtain ⟨k, hk, rfl, HR3, HB⟩ := hrel
      by_cases hlt : k < m
      · rcases (unhide J2).below (unhide HB) (Nat.le_refl _) with ⟨h0, _⟩ | ⟨g3, o3, c3', hv3, hle3, hc3, hg3, hcell3⟩
        · omega
        · injection hv3 with hp _ hc
          subst hp
          subst hc
          unfold maxLen at hc3
          have hltz : (k : Int) < (m : Int) := by omega
          have hck := hcell3 k hlt
          have htk := unhide HTK k hlt
          have HLN := hide (show (oth (L.take k) o).length ≤ 1000000 by have := unhide HLE k; omega)
          clear hcell3
          by_cases hq : zF L k = o
          · rw [if_pos hq] at htk
            have HT2 := hide htk
            have hqb : (zF L k != o) = false := by simp [hq]
            clear htk hq
            generalize zF L k = y at *
            go_wp2
            go_roundw
            case rel => exact ⟨k + 1, by omega, by go_num, by rw [unhide HT2]; exact HR3, HB⟩
            case measure => simp [intOf]; omega
          · rw [if_neg hq] at htk
            have HT2 := hide htk
            have hqb : (zF L k != o) = true := by simp [hq]
            clear htk hq
            generalize zF L k = y at *
            go_wp2_with (at_builtin; refine wpList_snoc (by simp [Region.wanted]) (.tmp 59) (.tmp 64) rfl w2.heap.size _ (oth (L.take k) o) y rfl ((unhide HR3).alloc _) _ rfl (cell_one y _ 3) (unhide HLN) (by have := (unhide HB).size; simp; omega) ?_; intro v6 w6 o6 b6; have O6 := hide o6; have B6 := hide (((unhide HB).alloc (unhide HB).size _).trans b6); clear o6 b6)
            go_roundw
            case rel => exact ⟨k + 1, by omega, by go_num, by rw [unhide HT2]; exact O6, B6⟩
            case measure => simp [intOf]; omega
      · obtain rfl : k = m := by omega
        have e1 : L.take k = L := by rw [← unhide HM]; exact List.take_length
        rw [e1] at HR3
        clear e1
        obtain ⟨q3, k3, rfl⟩ := owns_shape (unhide HR3)
        obtain ⟨r, hr⟩ : ∃ r, (oth L o).length = r := ⟨_, rfl⟩
        rw [hr] at HR3 ⊢
        have Gr := hide ((unhide G2).below (unhide HB) (unhide G2).size)
        have Ir := hide ((unhide I2).below (unhide HB) (Nat.le_refl _))
        have hsR : s ∈ oth L o := oth_mem.2 ⟨unhide HS, fun q => unhide HX q.symm⟩
        have hRR := oth_ris (unhide HR) o
        obtain ⟨p, hp⟩ : ∃ p, ow T (oth L o) = p := ⟨_, rfl⟩
        have hpm : p ∈ oth L o := hp ▸ ow_mem T hsR
        obtain ⟨hpL, hpo⟩ := oth_mem.1 hpm
        have hgp : gp T o < gp T p := by
          have h1 : gp T o ≤ gp T p := by have := ow_least T hpL; rwa [unhide HO] at this
          by_cases e : gp T o = gp T p
          · exact absurd (gp_inj (unhide KT) ((unhide HR).2 _ (unhide HOM)) ((unhide HR).2 _ hpL) e).symm hpo
          · omega
        obtain ⟨V, hV, hVl⟩ := way_ex (unhide KT) hRR.2 hsR
        obtain ⟨W, hW, hWl⟩ := way_ex (unhide KT) (unhide HR).2 (unhide HS)
        have hRl : (oth L o).length ≤ 8 := ris_le hRR
        have d1 := owner_il T (oth L o) (.slice q3 r k3) wr (unhide Gr) (unhide KT) (unhide HR3).il hRR.2 (mem_ne hsR)
        rw [hp] at d1
        have d1 := hide d1
        have d2 := hide (way_is T (oth L o) s V (.slice q3 r k3) wr (unhide Gr) (unhide HR3).il hRR hsR (unhide KT) hV (by omega))
        have d3 := hide (fun (w3 : World) (hb : Below wr.heap.size wr w3) => way_is T L s W (.slice q2 L.length k2) w3 ((unhide Gr).below hb (unhide Gr).size) ((unhide Ir).below hb (Nat.le_refl _)) (unhide HR) (unhide HS) (unhide KT) hW (by omega))
        rw [unhide HM] at d3
        have d4 := hide (fun (w3 : World) (hb : Below wr.heap.size wr w3) => wakes_any w3 ((unhide Gr).below hb (unhide Gr).size))
        have d5 := hide (fun (w3 : World) (hb : Below wr.heap.size wr w3) => nearer_t T o p (unhide KT) ((unhide HR).2 _ (unhide HOM)) ((unhide HR).2 _ hpL) hgp w3 ((unhide Gr).below hb (unhide Gr).size))
        have hpob : (p == o) = false := beq_false_of_ne hpo
        have hW0 : W ≠ [] := fun q => unhide HX ((unhide HO).symm.trans ((way_nil (unhide KT) (unhide HR) (unhide HS) hW).1 q))
        have hWp := List.length_pos_iff.2 hW0
        obtain ⟨n, hn⟩ : ∃ n, W.length = n := ⟨_, rfl⟩
        obtain ⟨j, hj⟩ : ∃ j, n - 1 = j := ⟨_, rfl⟩
        have hlW : zF W j = o := (way_last (unhide KT) (unhide HR) (unhide HS) hW (by omega)).trans (unhide HO)
        have hn0 : 0 < n := by omega
        have hnb : ((n : Int) == 0) = false := beq_false_of_ne (by omega)
        have hj1 : (n : Int) - 1 = (j : Int) := by omega
        have hjn : j < n := by omega
        have hjz : (j : Int) < (n : Int) := by omega
        have hn9 : n < 9 := by omega
        have BR := hide ((unhide B2).trans ((unhide HB).mono (unhide B2).size))
        have hvn := way_nil (unhide KT) hRR hsR hV
        rw [hp] at hvn
        have HWN := hide hn
        have HLW := hide hlW
        have HJN := hide hjn
        by_cases hps : p = s
        · have hV0 := hvn.2 hps
          subst hV0
          have hpsb : (p == s) = true := by simp [hps]
          clear hvn hps hp hpm hpL hpo hgp hV hVl hW hWl hRl hRR hsR hW0 hWp hj hlW hl8 hjn hr
          go_wp2_with (first
            | (go_at_call 24; refine (unhide d1).mono ?_; rintro e w3 ⟨rfl, rfl⟩)
            | (go_at_call 13; refine (unhide d2).mono ?_; rintro e w4 ⟨v4, rfl, ho, hb⟩; obtain ⟨q4, k4, rfl⟩ := owns_shape ho; have B4 := hide hb; clear ho hb d2)
            | (go_at_call 13; refine (unhide d3 _ (unhide B4)).mono ?_; rintro e w5 ⟨v5, rfl, ho, hb⟩; obtain ⟨g5, k5, rfl, hk1, hk2, hg5, hcell⟩ := owns_some ho (unhide HWN) hn0; have hck := hcell j (unhide HJN); rw [unhide HLW] at hck; have B5 := hide ((unhide B4).trans (hb.mono (unhide B4).size)); have hjn := unhide HJN; unfold maxLen at hk2; clear ho hb hcell)
            | (go_at_call 17; refine (unhide d4 _ (unhide B5)).mono ?_; rintro e w6 ⟨rfl, hb⟩; have B6 := hide ((unhide B5).trans (hb.mono (unhide B5).size)); clear hb))
          go_ret
          exact ⟨rfl, (unhide BR).trans ((unhide B6).mono (unhide BR).size)⟩
        · have hV0 : V ≠ [] := fun q => hps (hvn.1 q)
          have hVp := List.length_pos_iff.2 hV0
          obtain ⟨nv, hnv⟩ : ∃ n, V.length = n := ⟨_, rfl⟩
          obtain ⟨jv, hjv⟩ : ∃ j, nv - 1 = j := ⟨_, rfl⟩
          have hlV : zF V jv = p := (way_last (unhide KT) hRR hsR hV (by omega)).trans hp
          have hnv0 : 0 < nv := by omega
          have hnvz : (0 : Int) < (nv : Int) := by omega
          have hjv1 : (nv : Int) - 1 = (jv : Int) := by omega
          have hjvn : jv < nv := by omega
          have hjvz : (jv : Int) < (nv : Int) := by omega
          have hnv9 : nv < 9 := by omega
          have HVN := hide hnv
          have HLV := hide hlV
          have HJV := hide hjvn
          have hpsb : (p == s) = false := beq_false_of_ne hps
          clear hvn hps hp hpm hpL hpo hgp hV hVl hW hWl hRl hRR hsR hW0 hWp hj hlW hl8 hjn hr hV0 hVp hjv hlV hjvn
          go_wp2_with (first
            | (go_at_call 24; refine (unhide d1).mono ?_; rintro e w3 ⟨rfl, rfl⟩)
            | (go_at_call 13; refine (unhide d2).mono ?_; rintro e w4 ⟨v4, rfl, ho, hb⟩; obtain ⟨g4, k4, rfl, hk3, hk4, hg4, hcell⟩ := owns_some ho (unhide HVN) hnv0; have hcl := hcell jv (unhide HJV); rw [unhide HLV] at hcl; have B4 := hide hb; have HC4 := hide hcl; have hjvn := unhide HJV; unfold maxLen at hk4; have HG4 := hide hg4; clear ho hb d2 hcell hcl hg4)
            | (go_at_call 13; refine (unhide d3 _ (unhide B4)).mono ?_; rintro e w5 ⟨v5, rfl, ho, hb⟩; obtain ⟨g5, k5, rfl, hk1, hk2, hg5, hcell⟩ := owns_some ho (unhide HWN) hn0; have hck := hcell j (unhide HJN); rw [unhide HLW] at hck; have hcv := (hb.cell (p := ⟨g4, jv, none⟩) (unhide HG4)).trans (unhide HC4); have B5 := hide ((unhide B4).trans (hb.mono (unhide B4).size)); have hjn := unhide HJN; unfold maxLen at hk2; clear ho hb hcell)
            | (go_at_call 25; refine (unhide d5 _ (unhide B5)).mono ?_; rintro e w6 ⟨rfl, rfl⟩)
            | (go_at_call 17; refine (unhide d4 _ (unhide B5)).mono ?_; rintro e w6 ⟨rfl, hb⟩; have B6 := hide ((unhide B5).trans (hb.mono (unhide B5).size)); clear hb))
          go_ret
          exact ⟨rfl, (unhide BR).trans ((unhide B6).mono (unhide BR).size)⟩
end Go.Proofs.YtmfgbecdimndcaaDoor
