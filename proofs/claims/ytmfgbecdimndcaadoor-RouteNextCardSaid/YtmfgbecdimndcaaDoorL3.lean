/- Walk of bellwetherlaw11.RouteNext. -/
import Derived.Test.YtmfgbecdimndcaaDoorL1
namespace Go.Proofs.YtmfgbecdimndcaaDoor
open Go.RowKit

set_option maxRecDepth 100000 in
set_option maxHeartbeats 4000000 in
theorem next_walk (t bits self : Int) (w : World) (hG : Glob w) :
    Calls Tryd.prog 6 #[.int .i64 t, .int .i64 bits, .int .i64 self] w fun e w' => e = .returned (.bool true) ∧ Below w.heap.size w w' := by
  obtain ⟨T, hT, kT⟩ : ∃ T, wrap64 ((IntKind.u64.wrap t).tmod 4) = T ∧ IsT T := ⟨_, mod4 t, mod4_topic t⟩
  have KT := hide kT
  have HG := hide hG
  clear hG kT
  go_enter Tryd.func6, Tryd.ntmps6
  go_wp2_with fail
  rw [hT]
  clear hT
  go_wp2_with (go_at_call 23; refine (some_is _ _ _).mono ?_; rintro e w2 ⟨v, L, s, rfl, ho, hR, hs, hb⟩; have O2 := hide ho; have HR := hide hR; have HS := hide hs; have B2 := hide hb; clear ho hR hs hb)
  have hl8 := ris_le (unhide HR)
  have G2 := hide ((unhide HG).below (unhide B2) (unhide HG).size)
  have I2 := hide (unhide O2).il
  have c1 := next_is T L s v w2 (unhide G2) (unhide I2) (unhide HR) (unhide HS) (unhide KT)
  have c2 := hide (fun (w3 : World) (hb : Below w2.heap.size w2 w3) => owner_il T L v w3 ((unhide G2).below hb (unhide G2).size) (unhide KT) ((unhide I2).below hb (Nat.le_refl _)) (unhide HR).2 (mem_ne (unhide HS)))
  have c3 := hide (fun (w3 : World) (hb : Below w2.heap.size w2 w3) => fingers_is L s v w3 ((unhide G2).below hb (unhide G2).size) ((unhide I2).below hb (Nat.le_refl _)) (unhide HR) (unhide HS))
  have c4 := hide (fun (w3 : World) (hb : Below w2.heap.size w2 w3) => wakes_any w3 ((unhide G2).below hb (unhide G2).size))
  have hno := nxt_own (unhide KT) (unhide HR).2 (unhide HS)
  by_cases hx : nxt T L s = s
  · rw [if_pos hx] at c1
    have c1 := hide c1
    have hO := hno.1 hx
    rw [hO] at c2
    clear hO hno hx hl8
    go_wp2_with (first
      | (go_at_call 12; refine (unhide c1).mono ?_; rintro e w3 ⟨rfl, hb⟩; have B3 := hide hb; clear hb)
      | (go_at_call 24; refine (unhide c2 _ (unhide B3)).mono ?_; rintro e w3 ⟨rfl, rfl⟩)
      | (go_at_call 11; refine (unhide c3 _ (unhide B3)).mono ?_; rintro e w4 ⟨v4, rfl, ho, hb⟩; have B4 := hide ((unhide B3).trans (hb.mono (unhide B3).size)); clear ho hb)
      | (go_at_call 17; refine (unhide c4 _ (unhide B4)).mono ?_; rintro e w5 ⟨rfl, hb⟩; have B5 := hide ((unhide B4).trans (hb.mono (unhide B4).size)); clear hb))
    go_ret
    exact ⟨rfl, (unhide B2).trans ((unhide B5).mono (unhide B2).size)⟩
  · rw [if_neg hx] at c1
    have c1 := hide c1
    have hO : (ow T L != s) = true := by rw [bne_iff_ne]; exact fun q => hx (hno.2 q)
    have hnear := nxt_near (unhide KT) (unhide HR).2 (unhide HS) hx
    have hxm := nxt_mem T (unhide HS)
    have hoth := (ahd_near (unhide KT) (unhide HR).2 (unhide HS) hxm hnear).1
    have c5 := fun (w3 : World) (hb : Below w2.heap.size w2 w3) => ahead_both L s v w3 ((unhide G2).below hb (unhide G2).size) ((unhide I2).below hb (Nat.le_refl _)) (unhide HR) (unhide HS)
    rw [if_neg hoth] at c5
    have c5 := hide c5
    obtain ⟨M, hM⟩ : ∃ M, fng L s ++ [ahd L s] = M := ⟨_, rfl⟩
    have hML : ∀ y ∈ M, y ∈ L ∧ gp T (nxt T L s) ≤ gp T y := by
      intro y hy
      rw [← hM, List.mem_append, List.mem_singleton] at hy
      have hr : y ∈ rch L s := by
        rcases hy with hy | hy
        · exact rch_mem.2 (.inl hy)
        · exact rch_mem.2 (.inr (.inr ⟨hoth, hy⟩))
      exact ⟨rch_sub (unhide HS) hr, nxt_least T hr⟩
    have hxM : nxt T L s ∈ M := by
      rw [← hM, List.mem_append, List.mem_singleton]
      rcases rch_mem.1 (mnL_mem (gp T) (rch_ne L s)) with q | q | ⟨_, q⟩
      · exact .inl q
      · exact absurd q hx
      · exact .inr q
    have c6 := hide (fun (y : Int) (hy : y ∈ M) (w3 : World) (hb : Below w2.heap.size w2 w3) => nearer_f T y (nxt T L s) (unhide KT) ((unhide HR).2 y (hML y hy).1) ((unhide HR).2 _ hxm) (Int.not_lt.2 (hML y hy).2) w3 ((unhide G2).below hb (unhide G2).size))
    have c7 := hide (fun (w3 : World) (hb : Below w2.heap.size w2 w3) => nearer_t T (nxt T L s) s (unhide KT) ((unhide HR).2 _ hxm) ((unhide HR).2 s (unhide HS)) hnear w3 ((unhide G2).below hb (unhide G2).size))
    have hMl : M.length ≤ 63 := by rw [← hM, List.length_append, List.length_singleton]; have := fng_len L s; omega
    have hfl := fng_len L s
    have HFL := hide (show (fng L s).length ≤ 1000000 by omega)
    have hmt := mt_mem M (nxt T L s)
    rw [decide_eq_true hxM] at hmt
    have HMT := hide hmt
    have HMe := hide hM
    obtain ⟨n, hn⟩ : ∃ n, M.length = n := ⟨_, rfl⟩
    rw [hn] at hMl
    have HN := hide hn
    clear hno hx hnear hxm hoth hML hxM hfl hmt hM hn hl8
    generalize nxt T L s = x at *
    generalize ahd L s = a at *
    generalize fng L s = F at *
    generalize ow T L = o at *
    have m1 := trivial
    go_wp2_with (first
      | (go_at_call 12; refine (unhide c1).mono ?_; rintro e w3 ⟨rfl, hb⟩; have B3 := hide hb; clear hb)
      | (go_at_call 24; refine (unhide c2 _ (unhide B3)).mono ?_; rintro e w3 ⟨rfl, rfl⟩)
      | (go_at_call 11; refine (unhide c3 _ (unhide B3)).mono ?_; rintro e w4 ⟨v4, rfl, ho, hb⟩; have O4 := hide ho; have B4 := hide ((unhide B3).trans (hb.mono (unhide B3).size)); have S4 := hide hb.size; clear ho hb)
      | (go_at_call 10; refine (unhide c5 _ (unhide B4)).mono ?_; rintro e w5 ⟨rfl, hb⟩; have O5 := hide ((unhide O4).below hb (Nat.le_refl _)); have B5 := hide ((unhide B4).trans (hb.mono (unhide B4).size)); have S5 := hide (Nat.le_trans (unhide S4) hb.size); clear hb)
      | (clear m1; at_builtin; refine wpList_snoc (by simp [Region.wanted]) (.tmp 80) (.tmp 82) rfl w3.heap.size _ F a rfl ((unhide O5).alloc _) _ rfl (cell_one a _ 3) (unhide HFL) (by have := unhide S5; simp; omega) ?_; intro v6 w6 o6 b6; rw [unhide HMe] at o6; obtain ⟨q6, k6, rfl⟩ := owns_shape o6; have I6 := hide o6.il; have B6 := hide (((unhide B5).alloc (unhide B5).size _).trans (b6.mono (unhide B3).size)); clear o6 b6))
    have I6 := unhide I6
    unfold IL at I6
    rw [unhide HN] at I6 ⊢
    go_loop [18, 19] (fun xm xi => ∃ k : Nat, k ≤ n ∧ xi = .int .i64 k ∧ xm = .bool (mt M x k)) (fun _ i => n - (intOf i).toNat)
    case atStart => exact ⟨0, by omega, rfl, rfl⟩
    case round =>
      obtain ⟨k, hk, rfl, rfl⟩ := hrel
      by_cases hlt : k < n
      · rcases I6 with ⟨h0, _⟩ | ⟨g3, o3, c3', hv3, hle3, hc3, hg3, hcell3⟩
        · omega
        · injection hv3 with hp _ hc
          subst hp
          subst hc
          unfold maxLen at hc3
          have hltz : (k : Int) < (n : Int) := by omega
          have hck := hcell3 k hlt
          have d6 := hide (unhide c6 _ (zF_mem (by rw [unhide HN]; exact hlt)) _ (unhide B6))
          have hs : mt M x (k + 1) = (mt M x k || zF M k == x) := rfl
          clear hcell3
          cases hm : mt M x k with
          | true =>
            rw [hm] at hs
            have HS' := hide hs
            clear hs hm
            generalize zF M k = y at *
            go_wp2_with (go_at_call 25; refine (unhide d6).mono ?_; rintro e w7 ⟨rfl, rfl⟩)
            go_round
            case rel => exact ⟨k + 1, by omega, by go_num, by rw [unhide HS']; rfl⟩
            case measure => simp [intOf]; omega
          | false =>
            rw [hm] at hs
            have HS' := hide hs
            clear hs hm
            generalize zF M k = y at *
            go_wp2_with (go_at_call 25; refine (unhide d6).mono ?_; rintro e w7 ⟨rfl, rfl⟩)
            go_round
            case rel => exact ⟨k + 1, by omega, by go_num, by rw [unhide HS']; rfl⟩
            case measure => simp [intOf]; omega
      · obtain rfl : k = n := by omega
        have hM := unhide HMT
        rw [unhide HN] at hM
        rw [hM]
        clear hM
        go_wp2_with (first
          | (go_at_call 25; refine (unhide c7 _ (unhide B6)).mono ?_; rintro e w7 ⟨rfl, rfl⟩)
          | (go_at_call 17; refine (unhide c4 _ (unhide B6)).mono ?_; rintro e w8 ⟨rfl, hb⟩; have B8 := hide ((unhide B6).trans (hb.mono (unhide B6).size)); clear hb))
        go_ret
        exact ⟨rfl, (unhide B2).trans ((unhide B8).mono (unhide B2).size)⟩
end Go.Proofs.YtmfgbecdimndcaaDoor
