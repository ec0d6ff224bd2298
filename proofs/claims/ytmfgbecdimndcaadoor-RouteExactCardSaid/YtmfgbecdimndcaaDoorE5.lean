/- Walks of the page's Next and Way. -/
import Derived.Test.YtmfgbecdimndcaaDoorE2
import Derived.Test.YtmfgbecdimndcaaDoorE4
namespace Go.Proofs.YtmfgbecdimndcaaDoor
open Go.RowKit

/-- The best one of the first k that are nearer than a node; -1. -/
def Bst (t s : Int) (M : List Int) (k : Nat) (b : Int) : Prop :=
  (b = -1 ∧ ∀ i, i < k → ¬ gp t (zF M i) < gp t s) ∨ (b ∈ M ∧ gp t b < gp t s ∧ ∀ i, i < k → gp t (zF M i) < gp t s → gp t b ≤ gp t (zF M i))
theorem Bst.skip {t s : Int} {M : List Int} {k : Nat} {b : Int} (h : Bst t s M k b) (hx : ¬ gp t (zF M k) < gp t s) : Bst t s M (k + 1) b := by
  rcases h with ⟨h1, h2⟩ | ⟨h1, h2, h3⟩
  · refine .inl ⟨h1, fun i hi => ?_⟩
    by_cases e : i = k
    · subst e; exact hx
    · exact h2 i (by omega)
  · refine .inr ⟨h1, h2, fun i hi hg => ?_⟩
    by_cases e : i = k
    · subst e; exact absurd hg hx
    · exact h3 i (by omega) hg
theorem Bst.keep {t s : Int} {M : List Int} {k : Nat} {b : Int} (h : Bst t s M k b) (hb : b ≠ -1) (hx : ¬ gp t (zF M k) < gp t b) : Bst t s M (k + 1) b := by
  rcases h with ⟨h1, h2⟩ | ⟨h1, h2, h3⟩
  · exact absurd h1 hb
  · refine .inr ⟨h1, h2, fun i hi hg => ?_⟩
    by_cases e : i = k
    · subst e; omega
    · exact h3 i (by omega) hg
theorem Bst.take {t s : Int} {M : List Int} {k : Nat} {b : Int} (h : Bst t s M k b) (hN : ∀ y ∈ M, IsN y) (hk : k < M.length) (hx : gp t (zF M k) < gp t s) (hb : b = -1 ∨ gp t (zF M k) < gp t b) : Bst t s M (k + 1) (zF M k) := by
  refine .inr ⟨zF_mem hk, hx, fun i hi hg => ?_⟩
  by_cases e : i = k
  · subst e; exact Int.le_refl _
  · rcases h with ⟨h1, h2⟩ | ⟨h1, h2, h3⟩
    · exact absurd hg (h2 i (by omega))
    · have := h3 i (by omega) hg
      rcases hb with hb | hb
      · have := (hN b h1).1
        omega
      · omega
set_option maxRecDepth 100000 in
set_option maxHeartbeats 4000000 in
theorem rnext_is (t : Int) (L : List Int) (s : Int) (v : Value) (w : World) (h : IL w v L) (hR : Ris L) (hs : s ∈ L) (ht : IsT t) :
    Calls Tryd.prog 21 #[.int .i64 t, v, .int .i64 s] w fun e w' => e = .returned (.int .i64 (if nxt t L s = s then -1 else nxt t L s)) ∧ Below w.heap.size w w' := by
  have hl := List.length_pos_iff.2 (mem_ne hs)
  have c1 := rowner_is t v L.length (zF L) ht w h hl (hR.2.to (Nat.le_refl _))
  rw [own_mn] at c1
  have e1 : mn (gp t) L (L.length - 1) = ow t L := rfl
  rw [e1] at c1
  have hno := nxt_own ht hR.2 hs
  by_cases hx : nxt t L s = s
  · rw [if_pos hx]
    rw [hno.1 hx] at c1
    have c1 := hide c1
    clear e1 hno hx ht hs hR h hl
    go_enter Tryd.func21, Tryd.ntmps21
    go_wp2_with (go_at_call 49; refine (unhide c1).mono ?_; rintro e w2 ⟨rfl, hb⟩; have B2 := hide hb; clear hb)
    go_ret
    exact ⟨rfl, unhide B2⟩
  · rw [if_neg hx]
    have hO : (ow t L == s) = false := beq_false_of_ne fun q => hx (hno.2 q)
    have hnear := nxt_near ht hR.2 hs hx
    have hxm := nxt_mem t hs
    have hoth := (ahd_near ht hR.2 hs hxm hnear).1
    have c1 := hide c1
    have c2 := hide (fun (w3 : World) (hb : Below w.heap.size w w3) => rfingers_is L s v w3 (h.below hb (Nat.le_refl _)) hR.2 hs)
    have c3 := fun (w3 : World) (hb : Below w.heap.size w w3) => rahead_is L s v w3 (h.below hb (Nat.le_refl _)) hR.2 (hR.2 s hs)
    simp only [if_neg hoth] at c3
    have c3 := hide c3
    obtain ⟨M, hM⟩ : ∃ M, fng L s ++ [ahd L s] = M := ⟨_, rfl⟩
    have hML : ∀ y ∈ M, y ∈ L ∧ gp t (nxt t L s) ≤ gp t y := by
      intro y hy
      rw [← hM, List.mem_append, List.mem_singleton] at hy
      have hr : y ∈ rch L s := by
        rcases hy with hy | hy
        · exact rch_mem.2 (.inl hy)
        · exact rch_mem.2 (.inr (.inr ⟨hoth, hy⟩))
      exact ⟨rch_sub hs hr, nxt_least t hr⟩
    have hxM : nxt t L s ∈ M := by
      rw [← hM, List.mem_append, List.mem_singleton]
      rcases rch_mem.1 (mnL_mem (gp t) (rch_ne L s)) with q | q | ⟨_, q⟩
      · exact .inl q
      · exact absurd q hx
      · exact .inr q
    have hend : ∀ b, Bst t s M M.length b → b = nxt t L s := by
      intro b hb
      obtain ⟨i, hi, ei⟩ := zF_of_mem hxM
      rcases hb with ⟨h1, h2⟩ | ⟨h1, h2, h3⟩
      · exact absurd (by rw [ei]; exact hnear) (h2 i hi)
      · have h4 := h3 i hi (by rw [ei]; exact hnear)
        rw [ei] at h4
        have h5 := (hML b h1).2
        exact gp_inj ht (hR.2 _ (hML b h1).1) (hR.2 _ hxm) (by omega)
    have hMN : ∀ y ∈ M, IsN y := fun y hy => hR.2 y (hML y hy).1
    have HFL := hide (show (fng L s).length ≤ 1000000 by have := fng_len L s; omega)
    have HMe := hide hM
    obtain ⟨n, hn⟩ : ∃ n, M.length = n := ⟨_, rfl⟩
    have hn63 : n ≤ 63 := by rw [← hn, ← hM, List.length_append, List.length_singleton]; have := fng_len L s; omega
    rw [hn] at hend
    have HEND := hide hend
    have HMN := hide hMN
    have HN := hide hn
    have HT := hide ht
    have HSN := hide (hR.2 s hs)
    clear e1 hno hnear hxm hoth hML hxM hend hMN hM hn hx hl h hR hs ht
    generalize nxt t L s = x at *
    generalize ahd L s = a at *
    generalize fng L s = F at *
    generalize ow t L = o at *
    go_enter Tryd.func21, Tryd.ntmps21
    go_wp2_with (first
      | (go_at_call 49; refine (unhide c1).mono ?_; rintro e w2 ⟨rfl, hb⟩; have B2 := hide hb; clear hb)
      | (go_at_call 18; refine (unhide c2 _ (unhide B2)).mono ?_; rintro e w3 ⟨v3, rfl, ho, hb⟩; have O3 := hide ho; have S3 := hide hb.size; have B3 := hide ((unhide B2).trans (hb.mono (unhide B2).size)); clear ho hb)
      | (go_at_call 19; refine (unhide c3 _ (unhide B3)).mono ?_; rintro e w4 ⟨rfl, hb⟩; have O4 := hide ((unhide O3).below hb (Nat.le_refl _)); have S4 := hide (Nat.le_trans (unhide S3) hb.size); have B4 := hide ((unhide B3).trans (hb.mono (unhide B3).size)); clear hb)
      | (at_builtin; refine wpList_snoc (by simp [Region.wanted]) (.tmp 18) (.tmp 22) rfl w2.heap.size _ F a rfl ((unhide O4).alloc _) _ rfl (cell_one a _ 3) (unhide HFL) (by have := unhide S4; simp; omega) ?_; intro v6 w6 o6 b6; rw [unhide HMe] at o6; obtain ⟨q6, k6, rfl⟩ := owns_shape o6; have I6 := hide o6.il; have B6 := hide (((unhide B4).alloc (unhide B4).size _).trans (b6.mono (unhide B2).size)); clear o6 b6))
    have I6 := unhide I6
    unfold IL at I6
    rw [unhide HN] at I6 ⊢
    have HI6 := hide I6
    clear I6
    go_loopw [8, 9] (fun xb xi w7 => ∃ (k : Nat) (b : Int), k ≤ n ∧ xi = .int .i64 k ∧ xb = .int .i64 b ∧ Hid (Bst t s M k b) ∧ Hid (Below w6.heap.size w6 w7)) (fun _ i _ => n - (intOf i).toNat)
    case atStart => exact ⟨0, -1, by omega, rfl, rfl, hide (.inl ⟨rfl, fun i hi => absurd hi (Nat.not_lt_zero _)⟩), hide (Below.refl _ _)⟩
    case round =>
      obtain ⟨k, b, hk, rfl, rfl, HBS, HB⟩ := hrel
      by_cases hlt : k < n
      · rcases (unhide HI6).below (unhide HB) (Nat.le_refl _) with ⟨h0, _⟩ | ⟨g3, o3, c3', hv3, hle3, hc3, hg3, hcell3⟩
        · omega
        · injection hv3 with hp _ hc
          subst hp
          subst hc
          unfold maxLen at hc3
          have hltz : (k : Int) < (n : Int) := by omega
          have hkM : k < M.length := by rw [unhide HN]; exact hlt
          have k1 := hcell3 k hlt
          have hck := hide (fun (w5 : World) (hb : Below wr.heap.size wr w5) => (hb.cell (p := ⟨g3, o3 + k, none⟩) hg3).trans k1)
          have hyM := zF_mem hkM
          have hyN := unhide HMN _ hyM
          have hy0 : 0 ≤ zF M k := hyN.1
          have d1 := hide (rnearer_in t (zF M k) s (unhide HT) hyN (unhide HSN))
          clear hcell3
          by_cases hq : gp t (zF M k) < gp t s
          · rw [decide_eq_true hq] at d1
            by_cases hb : b = -1
            · have HT2 := hide ((unhide HBS).take (unhide HMN) hkM hq (.inl hb))
              have hbn : decide (b < 0) = true := decide_eq_true (by omega)
              clear hq hyM hyN hkM hb
              generalize zF M k = y at *
              go_wp2_with (go_at_call 50; refine (unhide d1 _).mono ?_; rintro e w7 ⟨rfl, hb⟩; have k7 := unhide hck _ hb; have B7 := hide hb; clear hb)
              go_roundw
              case rel => exact ⟨k + 1, y, by omega, by go_num, rfl, HT2, hide ((unhide HB).trans ((unhide B7).mono (unhide HB).size))⟩
              case measure => simp [intOf]; omega
            · have hbN : IsN b := by
                rcases unhide HBS with ⟨q, _⟩ | ⟨q, _⟩
                · exact absurd q hb
                · exact unhide HMN _ q
              have hbn : decide (b < 0) = false := decide_eq_false (by have := hbN.1; omega)
              have d2 := hide (rnearer_in t (zF M k) b (unhide HT) hyN hbN)
              have m1 := trivial
              by_cases hq2 : gp t (zF M k) < gp t b
              · rw [decide_eq_true hq2] at d2
                have HT2 := hide ((unhide HBS).take (unhide HMN) hkM hq (.inr hq2))
                clear hq hq2 hyM hyN hkM hb hbN
                generalize zF M k = y at *
                go_wp2_with (first
                  | (clear m1; go_at_call 50; refine (unhide d1 _).mono ?_; rintro e w7 ⟨rfl, hb⟩; have k7 := unhide hck _ hb; have B7 := hide hb; clear hb)
                  | (go_at_call 50; refine (unhide d2 _).mono ?_; rintro e w8 ⟨rfl, hb⟩; have hb8 := (unhide B7).trans (hb.mono (unhide B7).size); have k8 := unhide hck _ hb8; have B8 := hide hb8; clear hb hb8))
                go_roundw
                case rel => exact ⟨k + 1, y, by omega, by go_num, rfl, HT2, hide ((unhide HB).trans ((unhide B8).mono (unhide HB).size))⟩
                case measure => simp [intOf]; omega
              · rw [decide_eq_false hq2] at d2
                have HT2 := hide ((unhide HBS).keep hb hq2)
                clear hq hq2 hyM hyN hkM hb hbN
                generalize zF M k = y at *
                go_wp2_with (first
                  | (clear m1; go_at_call 50; refine (unhide d1 _).mono ?_; rintro e w7 ⟨rfl, hb⟩; have k7 := unhide hck _ hb; have B7 := hide hb; clear hb)
                  | (go_at_call 50; refine (unhide d2 _).mono ?_; rintro e w8 ⟨rfl, hb⟩; have hb8 := (unhide B7).trans (hb.mono (unhide B7).size); have B8 := hide hb8; clear hb hb8))
                go_roundw
                case rel => exact ⟨k + 1, b, by omega, by go_num, rfl, HT2, hide ((unhide HB).trans ((unhide B8).mono (unhide HB).size))⟩
                case measure => simp [intOf]; omega
          · rw [decide_eq_false hq] at d1
            have HT2 := hide ((unhide HBS).skip hq)
            clear hq hyM hyN hkM
            generalize zF M k = y at *
            go_wp2_with (go_at_call 50; refine (unhide d1 _).mono ?_; rintro e w7 ⟨rfl, hb⟩; have B7 := hide hb; clear hb)
            go_roundw
            case rel => exact ⟨k + 1, b, by omega, by go_num, rfl, HT2, hide ((unhide HB).trans ((unhide B7).mono (unhide HB).size))⟩
            case measure => simp [intOf]; omega
      · have hkn : k = n := by omega
        have hb := unhide HBS
        rw [hkn] at hb
        have hb := unhide HEND _ hb
        rw [hb]
        clear hb hkn
        go_wp2
        go_ret
        exact ⟨rfl, (unhide B6).trans ((unhide HB).mono (unhide B6).size)⟩
end Go.Proofs.YtmfgbecdimndcaaDoor
