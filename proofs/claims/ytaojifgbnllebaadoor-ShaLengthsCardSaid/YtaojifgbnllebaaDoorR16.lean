/- Walk of bellwetherlaw01.ShaLengths. -/
import Derived.Test.YtaojifgbnllebaaDoorD0
import Derived.Test.YtaojifgbnllebaaDoorR12
namespace Go.Proofs.YtaojifgbnllebaaDoor
open Go.RowKit

/-- append onto a row of the call's own, as a step of a region that may be guarded; the old cells stay. -/
theorem wpList_append_keep {P : Program} {w : World} {ops : Array Oper} {rest : List Oper} {o : Oper} {a : Act} {Q : Exit → Act → World → Prop} (hw : Region.wanted o (yielded ops a.tmps) = true) (s x : Operand) (t : TypeId)
    (hop : o.op = Op.call { callee := Callee.builtin Builtin.append, args := #[s, x], argTypes := #[t, t] })
    (base : Nat) (e : TypeId) (i : TypeInfo) (z : Value) (bytes : Nat) (ht : P.underlying t = some (.slice e)) (hi : P.info? e = some i) (hz : i.zero = some z)
    (hsize : i.size = 1) (hby : i.bytes = bytes) (hzs : z.cells.size = 1)
    (v : Value) (n : Nat) (xs : List Value) (hs : a.eval s = v) (hown : w.ownsRow base e 1 v n xs)
    (ad : Addr) (m c : Nat) (news : List Value) (hx : a.eval x = .slice (some ad) m c) (hl : news.length = m * 1) (hnews : ∀ j u, news[j]? = some u → w.cell? (ad.add j) = some u) (h1 : ∀ u ∈ news, u.oneCell' = true)
    (h63 : n + m ≤ maxLen) (hbytes : (n + m) * bytes ≤ 140737488355328) (hbase : base ≤ w.heap.size)
    (h : ∀ v' w', w'.ownsRow base e 1 v' (n + m) (xs ++ news) → w.grownBy w' v.ownBlock → (∀ g cp, v = .slice (some ⟨g, 0, none⟩) n cp → ∀ j u, xs[j]? = some u → w'.cell? ⟨g, j, none⟩ = some u) → wpList P ops Q rest (a.put o.dst v') w') : wpList P ops Q (o :: rest) a w := by
  refine wpList_step fun K hK => ?_
  rw [if_pos hw]
  obtain ⟨v', w', hrun, r1, r2, r3⟩ : ∃ v' w', (Builtin.append_ #[t, t] o.type #[v, .slice (some ad) m c]).run P w = .ok v' w' ∧ w'.ownsRow base e 1 v' (n + m) (xs ++ news) ∧ w.grownBy w' v.ownBlock ∧ (∀ g cp, v = .slice (some ⟨g, 0, none⟩) n cp → ∀ j u, xs[j]? = some u → w'.cell? ⟨g, j, none⟩ = some u) := by
    rcases hown.2 with ⟨rfl, hn0⟩ | ⟨g, cap, cur, rfl, _⟩
    · obtain ⟨v', w', hrun, r1, r2, _⟩ := run_append_own (P := P) w base t o.type e i z 1 bytes ht hi hz hsize hby hzs (by decide) (.slice none 0 0) n xs hown ad m c news hl hnews h1 h63 hbytes hbase
      exact ⟨v', w', hrun, r1, r2, fun g cp he => by cases he⟩
    · obtain ⟨v', w', hrun, r1, r2, r3⟩ := run_append_keep (P := P) w base t o.type e i z bytes ht hi hz hsize hby hzs g n cap xs hown ad m c news hl hnews h1 h63 hbytes hbase
      refine ⟨v', w', hrun, r1, r2, fun g' cp he j u hu => ?_⟩
      injection he with he1
      injection he1 with he1
      injection he1 with he2
      subst he2
      exact r3 j u hu
  unfold Oper.wp
  simp [execOp, hop, resolve, invoke, builtin, hs, hx, hrun, Result.andThen]
  exact hK _ _ (h v' w' r1 r2 r3)

theorem bsl_keep {w w' : World} {B n : Nat} {v : Value} {F : Nat → Int} (h : w.ownsRow B 5 1 v n (bL F n)) (hn : n < 2 ^ 60) (hs : w.heap.size ≤ w'.heap.size)
    (hk : ∀ g cp, v = .slice (some ⟨g, 0, none⟩) n cp → ∀ j u, (bL F n)[j]? = some u → w'.cell? ⟨g, j, none⟩ = some u) : BSl w' v n F := by
  rcases bsl_of_owns h hn with h0 | ⟨b, off, cap, rfl, h1, h2, h3, h4⟩
  · exact .inl h0
  · rcases h.2 with ⟨hq, _⟩ | ⟨g, c, cur, hq, _⟩
    · cases hq
    · injection hq with hq1
      injection hq1 with hq1
      injection hq1 with hq2 hq3
      subst hq2
      subst hq3
      refine .inr ⟨b, 0, cap, rfl, h1, h2, by omega, fun i hi => ?_⟩
      rw [Nat.zero_add]
      exact hk b cap rfl i _ (bL_get F n i hi)

set_option maxRecDepth 100000 in
set_option maxHeartbeats 4000000 in
theorem lengths_any (n c : Int) (hc0 : 0 ≤ c) (hc1 : c < 256) (w : World) (hG : Glob s0 kk w) :
    Calls Tryd.prog 6 #[.int .i64 n, .int .u8 c] w fun e w' => e = .returned (.bool true) ∧ Below w.heap.size w w' := by
  obtain ⟨i5, hi5, hz50, hz51, hz52⟩ := info_parts info5
  have HG := hide hG
  clear hG
  obtain ⟨N, hN, hN2⟩ : ∃ N : Nat, wrap64 ((IntKind.u64.wrap n).tmod 320) = (N : Int) ∧ N ≤ 319 := by
    refine ⟨((n % 18446744073709551616) % 320).toNat, ?_, by omega⟩
    have e1 : IntKind.u64.wrap n = n % 18446744073709551616 := rfl
    rw [e1, Int.tmod_eq_emod_of_nonneg (by omega)]
    unfold wrap64
    omega
  obtain ⟨F, hF⟩ : ∃ F : Nat → Int, F = fun _ => c := ⟨_, rfl⟩
  have hf : ∀ i, 0 ≤ F i ∧ F i < 256 := fun i => by rw [hF]; exact ⟨hc0, hc1⟩
  have hFc : ∀ k, bL F k ++ [.int .u8 c] = bL F (k + 1) := fun k => by rw [bL_succ, hF]
  have HF := hide hFc
  clear hFc hF
  obtain ⟨S, hS⟩ : ∃ S, shaS s0 kk F N = S := ⟨_, rfl⟩
  obtain ⟨T, hT⟩ : ∃ T, shaS s0 kk F (N + 1) = T := ⟨_, rfl⟩
  have HS := hide hS
  have HT := hide hT
  clear hS hT
  go_enter Tryd.func6, Tryd.ntmps6
  go_wp2
  rw [hN]
  clear hN
  go_loopw [5, 6] (fun v xi w1 => ∃ k : Nat, k ≤ N ∧ xi = .int .i64 k ∧ w1.ownsRow w.heap.size 5 1 v k (bL F k) ∧ Below w.heap.size w w1) (fun _ i _ => N - (intOf i).toNat)
  case atStart => exact ⟨0, by omega, rfl, World.ownsRow_nil _ _ _ _, Below.refl _ _⟩
  case round =>
    obtain ⟨k, hk, rfl, hown, hbel⟩ := hrel
    by_cases hlt : k < N
    · go_wp2_with (at_builtin; refine wpList_append_own _ rfl (.tmp 17) (.tmp 19) 22 rfl w.heap.size 5 i5 (.int .u8 0) 1 1 Tryd.underlying22 hi5 hz50 hz51 hz52 rfl (by decide) _ k _ rfl (hown.alloc _) ⟨wr.heap.size, 0, none⟩ 1 1 [.int .u8 c] rfl rfl (cells_lit _ _ 5) (by intro u hu; simp at hu; subst hu; rfl) (by unfold maxLen; omega) (by omega) (by have := hbel.size; simp; omega) ?_)
      intro v2 w2 hown2 hgrow2 _
      rw [unhide HF] at hown2
      go_wp2
      go_roundw
      case rel =>
        refine ⟨k + 1, by omega, by go_num, hown2, (hbel.alloc hbel.size _).grown hgrow2 (by have := hbel.size; simp; omega) (fun b hb => (hown.lt b hb).1)⟩
      case measure => simp [intOf]; omega
    · obtain rfl : k = N := by omega
      have O0 := hide hown
      have B0 := hide hbel
      clear hown hbel
      have m1 := trivial
      have m2 := trivial
      have m3 := trivial
      have m4 := trivial
      go_wp2_with (first
        | (clear m1
           go_at_call 8
           go_must (refine (sum_any s0 kk F _ k _ ((unhide HG).below (unhide B0) (unhide HG).size) (bsl_of_owns (unhide O0) (by omega)) hf).mono ?_)
           rintro e w1 ⟨g1, rfl, ho, hb⟩
           rw [unhide HS] at ho
           have O1 := hide (owns_below (unhide O0) hb)
           have B1 := hide ((unhide B0).trans (hb.mono (unhide B0).size))
           have S1 := hide (sum_sl ho)
           clear ho hb)
        | (clear m2
           go_at_call 10
           go_must (refine (rsha_any F _ k _ (bsl_of_owns (unhide O1) (by omega)) hf (by omega)).mono ?_)
           rintro e w2 ⟨vh, rfl, ho, hb⟩
           rw [unhide HS] at ho
           have O2 := hide (owns_below (unhide O1) hb)
           have B2 := hide ((unhide B1).trans (hb.mono (unhide B1).size))
           have S2 := hide ((unhide S1).below hb (Nat.le_refl _))
           have H2 := hide (bsl_of_owns ho (by decide))
           clear ho hb)
        | (clear m3
           go_at_call 9
           go_must (refine (bytes_any S.byte _ _ 32 _ (unhide S2) (unhide H2) (by decide)).mono ?_)
           rintro e w3 ⟨rfl, mm, hw3⟩
           have B3 := hide (show Below w.heap.size w w3 from by rw [hw3]; exact below_drewN (unhide B2) mm)
           have O3 := hide (show w3.ownsRow w.heap.size 5 1 _ k (bL F k) from by rw [hw3]; exact unhide O2)
           clear hw3)
        | (clear m4
           at_builtin
           go_must (refine wpList_append_keep (by simp [Region.wanted, yielded]) (.tmp 28) (.tmp 30) 22 rfl w.heap.size 5 i5 (.int .u8 0) 1 Tryd.underlying22 hi5 hz50 hz51 hz52 rfl _ k _ rfl ((unhide O3).alloc _) ⟨w3.heap.size, 0, none⟩ 1 1 [.int .u8 c] rfl rfl (cells_lit _ _ 5) (by intro u hu; simp at hu; subst hu; rfl) (by unfold maxLen; omega) (by omega) (by have := (unhide B3).size; simp; omega) ?_)
           intro v4 w4 ho hgr hk4
           rw [unhide HF] at ho
           have B4 := hide (((unhide B3).alloc (unhide B3).size _).grown hgr (by have := (unhide B3).size; simp; omega) (fun b hb => ((unhide O3).lt b hb).1))
           have K4 := hide (bsl_keep ((unhide O3).alloc _) (by omega) hgr.size hk4)
           have O4 := hide ho
           clear ho hgr hk4)
        | (go_at_call 8
           go_must (refine (sum_any s0 kk F _ (k + 1) _ ((unhide HG).below (unhide B4) (unhide HG).size) (bsl_of_owns (unhide O4) (by omega)) hf).mono ?_)
           rintro e w5 ⟨g5, rfl, ho, hb⟩
           rw [unhide HT] at ho
           have K5 := hide ((unhide K4).below hb (Nat.le_refl _))
           have B5 := hide ((unhide B4).trans (hb.mono (unhide B4).size))
           have S5 := hide (sum_sl ho)
           clear ho hb)
        | (go_at_call 7
           go_must (refine (twin_any F _ k _ (unhide K5) (by omega)).mono ?_)
           rintro e w6 ⟨vt, rfl, ho, hb⟩
           have O6 := hide ho
           have B6 := hide hb
           clear ho hb)
        | (at_builtin
           go_must (refine wpList_append_keep (by simp [Region.wanted, yielded]) (.tmp 34) (.tmp 36) 22 rfl w5.heap.size 5 i5 (.int .u8 0) 1 Tryd.underlying22 hi5 hz50 hz51 hz52 rfl _ k _ rfl ((unhide O6).alloc _) ⟨w6.heap.size, 0, none⟩ 1 1 [.int .u8 c] rfl rfl (cells_lit _ _ 5) (by intro u hu; simp at hu; subst hu; rfl) (by unfold maxLen; omega) (by omega) (by have := (unhide B6).size; simp; omega) ?_)
           intro v7 w7 ho hgr _
           rw [unhide HF] at ho
           have B7 := hide (((unhide B6).alloc (unhide B6).size _).grown hgr (by have := (unhide B6).size; simp; omega) (fun b hb => ((unhide O6).lt b hb).1))
           have O7 := hide ho
           clear ho hgr)
        | (go_at_call 10
           go_must (refine (rsha_any F _ (k + 1) _ (bsl_of_owns (unhide O7) (by omega)) hf (by omega)).mono ?_)
           rintro e w8 ⟨vh8, rfl, ho, hb⟩
           rw [unhide HT] at ho
           have S8' := hide (((unhide S5).below (unhide B7) (Nat.le_refl _)).below hb (Nat.le_refl _))
           have H8 := hide (bsl_of_owns ho (by decide))
           have B8 := hide ((unhide B5).trans (((unhide B7).trans (hb.mono (unhide B7).size)).mono (unhide B5).size))
           clear ho hb)
        | (go_at_call 9
           go_must (refine (bytes_any T.byte _ _ 32 _ (unhide S8') (unhide H8) (by decide)).mono ?_)
           rintro e w9 ⟨rfl, mm9, hw9⟩
           have B9 := hide (show Below w.heap.size w w9 from by rw [hw9]; exact below_drewN (unhide B8) mm9)
           clear hw9)
        | (go_at_call 15
           go_must (refine (wakes_at w _ (unhide B9) (unhide HG)).mono ?_)
           rintro e w10 ⟨rfl, hB⟩))
      go_ret
      exact ⟨rfl, hB⟩
end Go.Proofs.YtaojifgbnllebaaDoor
