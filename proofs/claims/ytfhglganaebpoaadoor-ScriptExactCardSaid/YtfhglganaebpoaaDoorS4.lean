/- Walk of Bytes that answers. -/
import Derived.Test.YtfhglganaebpoaaDoorS3
namespace Go.Proofs.YtfhglganaebpoaaDoor
open Go.RowKit

theorem vL_five (K : IntKind) (F : Nat → Int) (j : Nat) : vL K F ((j + 1) * 5) = vL K F (j * 5) ++ [.int K (F (j * 5)), .int K (F (j * 5 + 1)), .int K (F (j * 5 + 2)), .int K (F (j * 5 + 3)), .int K (F (j * 5 + 4))] := by
  rw [Nat.succ_mul, show j * 5 + 5 = j * 5 + 1 + 1 + 1 + 1 + 1 from rfl, vL_succ, vL_succ, vL_succ, vL_succ, vL_succ]
  simp
set_option maxHeartbeats 2000000 in
set_option maxRecDepth 100000 in
theorem bytes_ok (F : Nat → Int) (v : Value) (n : Nat) (e : Addr) (w : World) (hG : Glob w e) (hv : Ss w v n F) (hE : okS F n = true) (hE2 : n ≤ 800) :
    Calls Tryd.prog 10 #[v] w fun ev w' => ∃ g, ev = .returned (.tuple #[.slice (some ⟨g, 0, none⟩) (n * 5) (n * 5), .int .i64 0]) ∧ w'.ownsRow w.heap.size 5 1 (.slice (some ⟨g, 0, none⟩) (n * 5) (n * 5)) (n * 5) (vL .u8 F (n * 5)) ∧ Below w.heap.size w w' := by
  obtain ⟨p, c, rfl, hc1, hc2⟩ := hv.shape
  obtain ⟨i, hi, hz0, hz1, hz2⟩ := info_parts info5
  unfold maxLen at hc2
  have HV := hide hv
  have HG := hide hG
  have HE := hide hE
  clear hv hG hE
  go_enter Tryd.func10, Tryd.ntmps10
  go_wp2
  go_loopw [11] (fun i w2 => ∃ k : Nat, k ≤ n ∧ i = .int .i64 k ∧ okS F k = true ∧ Below w.heap.size w w2) (fun i _ => n - (intOf i).toNat)
  case atStart => exact ⟨0, by omega, rfl, rfl, Below.refl _ _⟩
  case round =>
    obtain ⟨k, hk, rfl, ha, hb⟩ := hrel
    have HA := hide ha
    have HB := hide hb
    clear ha
    by_cases hlt : k < n
    · obtain ⟨b, off, rfl, hbs, hcell⟩ := ((unhide HV).below hb (Nat.le_refl _)).some (by omega)
      obtain ⟨q0, q1, q2, q3, q4⟩ := Ss.five hcell k hlt
      clear hcell hb
      have hby := okS_get (unhide HE) k hlt
      have hr : fst (byL (stp F k) e) 5 = .nilIface := by
        rcases byL_cases (stp F k) e with ⟨hr, _⟩ | ⟨t, _, h⟩
        · exact hr
        · rw [hby] at h; cases h
      have HR := hide hr
      have N1 := hide (show okS F (k + 1) = true by unfold okS; rw [unhide HA, hby]; rfl)
      clear hr hby
      go_upto_region 4 with fail
      obtain ⟨w1, hw1⟩ : ∃ z, z = wr.alloc (.cells #[.int .i64 (F (k * 5)), .int .i64 (F (k * 5 + 1)), .int .i64 (F (k * 5 + 2)), .int .i64 (F (k * 5 + 3)), .int .i64 (F (k * 5 + 4))] 27) := ⟨_, rfl⟩
      rw [← hw1]
      have b1 : Below wr.heap.size wr w1 := by rw [hw1]; exact below_alloc (Below.refl _ _) _
      have hx : Has w1 wr.heap.size (.cells #[.int .i64 (F (k * 5)), .int .i64 (F (k * 5 + 1)), .int .i64 (F (k * 5 + 2)), .int .i64 (F (k * 5 + 3)), .int .i64 (F (k * 5 + 4))] 27) := by rw [hw1]; exact Has.new _ _
      have GQ := hide (((unhide HG).below (unhide HB)).below b1)
      have B1 := hide (below_of (unhide HB) b1)
      have d0 := (World.cell?_drew w1 _).trans (hx.cell (k := 0) rfl)
      have d1 := (World.cell?_drew w1 _).trans (hx.cell (k := 1) rfl)
      have d2 := (World.cell?_drew w1 _).trans (hx.cell (k := 2) rfl)
      have d3 := (World.cell?_drew w1 _).trans (hx.cell (k := 3) rfl)
      have d4 := (World.cell?_drew w1 _).trans (hx.cell (k := 4) rfl)
      have g0 := (World.cell?_drew w1 _).trans (unhide GQ).2.1
      have hl := hx.1
      have BD := hide (below_drewN (Below.refl w1.heap.size w1) 1)
      have CW := wrongByte_any (stp F k) e w1.drew ((unhide GQ).below (unhide BD))
      rw [unhide HR] at CW
      unfold stp sV at CW
      dsimp only at CW
      replace CW := hide CW
      clear hw1 hx b1
      refine wa_start (fun w' => w'.cell? ⟨0, 0, none⟩ = some (.iface 91 (.pointer (some e))) ∧ w'.cell? ⟨wr.heap.size, 0, none⟩ = some (.int .i64 (F (k * 5))) ∧ w'.cell? ⟨wr.heap.size, 1, none⟩ = some (.int .i64 (F (k * 5 + 1))) ∧ w'.cell? ⟨wr.heap.size, 2, none⟩ = some (.int .i64 (F (k * 5 + 2))) ∧ w'.cell? ⟨wr.heap.size, 3, none⟩ = some (.int .i64 (F (k * 5 + 3))) ∧ w'.cell? ⟨wr.heap.size, 4, none⟩ = some (.int .i64 (F (k * 5 + 4)))) ⟨g0, d0, d1, d2, d3, d4⟩ ?_
      refine wa_take (v := (.agg #[.int .i64 (F (k * 5)), .int .i64 (F (k * 5 + 1)), .int .i64 (F (k * 5 + 2)), .int .i64 (F (k * 5 + 3)), .int .i64 (F (k * 5 + 4))])) 0 rfl (by kernel_rfl) (by kernel_rfl) (by kernel_rfl) (fun _ _ _ h => h) (by kernel_rfl) (fun w hSw => ?_) ⟨g0, d0, d1, d2, d3, d4⟩ ?_
      · try dsimp only at hSw
        go_simp
      try simp only [Act.put, List.setIfInBounds_toArray, List.set_cons_zero, List.set_cons_succ]
      refine wa_take (v := (.iface 91 (.pointer (some e)))) 2 rfl (by kernel_rfl) (by kernel_rfl) (by kernel_rfl) (fun _ _ _ h => h) (by kernel_rfl) (fun w hSw => ?_) ⟨g0, d0, d1, d2, d3, d4⟩ ?_
      · try dsimp only at hSw
        go_simp
      try simp only [Act.put, List.setIfInBounds_toArray, List.set_cons_zero, List.set_cons_succ]
      refine wa_one 1 (by kernel_rfl) rfl (by kernel_rfl) (fun Kc hK => ?_)
      go_simp
      go_at_call 23
      refine (unhide CW).mono ?_
      rintro ev w3 ⟨rfl, b3⟩
      have B3 := hide (below_of (unhide B1) (below_of (unhide BD) b3))
      have G3 := hide ((unhide GQ).below (below_of (unhide BD) b3))
      replace d0 := (b3.cell (p := ⟨wr.heap.size, 0, none⟩) hl).trans d0
      replace d1 := (b3.cell (p := ⟨wr.heap.size, 1, none⟩) hl).trans d1
      replace d2 := (b3.cell (p := ⟨wr.heap.size, 2, none⟩) hl).trans d2
      replace d3 := (b3.cell (p := ⟨wr.heap.size, 3, none⟩) hl).trans d3
      replace d4 := (b3.cell (p := ⟨wr.heap.size, 4, none⟩) hl).trans d4
      replace g0 := (unhide G3).2.1
      replace hl := Nat.lt_of_lt_of_le hl b3.size
      clear b3 CW BD GQ B1
      refine hK.out _ _ ⟨g0, d0, d1, d2, d3, d4⟩ ?_
      clear hK Kc
      try simp only [Act.put, List.setIfInBounds_toArray, List.set_cons_zero, List.set_cons_succ]
      refine wa_one 3 (by kernel_rfl) rfl (by kernel_rfl) (fun Kc hK => ?_)
      go_simp
      go_at_call 22
      refine (is_nil _ _).mono ?_
      rintro ev w4 ⟨rfl, rfl⟩
      refine hK.out _ _ ⟨g0, d0, d1, d2, d3, d4⟩ ?_
      clear hK Kc
      try simp only [Act.put, List.setIfInBounds_toArray, List.set_cons_zero, List.set_cons_succ]
      refine wa_done (by kernel_rfl) ?_

      clear d0 d1 d2 d3 d4 g0 G3 hl q0 q1 q2 q3 q4
      go_wp2
      go_roundw
      case rel => exact ⟨k + 1, by omega, by go_num, unhide N1, unhide B3⟩
      case measure => simp [intOf]; omega
    · obtain rfl : k = n := by omega
      clear hb
      go_wp2_with (at_make; refine wpList_make_own _ rfl _ _ 24 rfl w.heap.size 5 i (.int .u8 0) 1 Tryd.underlying24 hi hz0 hz1 .i64 .i64 _ (k * 5) rfl rfl (by omega) (by rw [hz2]; omega) (by unfold maxLen; omega) (unhide HB).size ?_)
      intro w1 hown hgrow
      have HB1 := hide ((unhide HB).grown hgrow (unhide HB).size (by intro k h; cases h))
      have HO := hide hown
      have hsz := hgrow.size
      obtain ⟨g, hgw⟩ : ∃ g, g = wr.heap.size := ⟨_, rfl⟩
      have HGB := hide (show w.heap.size ≤ g by rw [hgw]; exact (unhide HB).size)
      rw [← hgw] at HO ⊢
      clear hown hgrow HB hgw hsz
      go_wp2
      go_loopw [6, 29] (fun v i w2 => ∃ j : Nat, j ≤ k ∧ i = .int .i64 j ∧ v = .slice (some ⟨g, 0, none⟩) (j * 5) (k * 5) ∧ w2.ownsRow w.heap.size 5 1 (.slice (some ⟨g, 0, none⟩) (j * 5) (k * 5)) (j * 5) (vL .u8 F (j * 5)) ∧ Below w.heap.size w w2) (fun _ i _ => k - (intOf i).toNat)
      case atStart => exact ⟨0, by omega, rfl, by simp, unhide HO, unhide HB1⟩
      case round =>
        clear HO HB1
        obtain ⟨j, hj, rfl, rfl, ho, hb⟩ := hrel
        have HO := hide ho
        have HB := hide hb
        clear ho
        by_cases hlt : j < k
        · obtain ⟨b, off, rfl, hbs, hcell⟩ := ((unhide HV).below hb (Nat.le_refl _)).some (by omega)
          obtain ⟨q0, q1, q2, q3, q4⟩ := Ss.five hcell j hlt
          obtain ⟨r0, r1, r2, r3, r4⟩ := byB_stp (okS_get (unhide HA) j hlt)
          clear hcell hb
          have u0 : IntKind.u8.wrap (F (j * 5)) = F (j * 5) := by rw [IntKind.wrap_u8]; omega
          have u1 : IntKind.u8.wrap (F (j * 5 + 1)) = F (j * 5 + 1) := by rw [IntKind.wrap_u8]; omega
          have u2 : IntKind.u8.wrap (F (j * 5 + 2)) = F (j * 5 + 2) := by rw [IntKind.wrap_u8]; omega
          have u3 : IntKind.u8.wrap (F (j * 5 + 3)) = F (j * 5 + 3) := by rw [IntKind.wrap_u8]; omega
          have u4 : IntKind.u8.wrap (F (j * 5 + 4)) = F (j * 5 + 4) := by rw [IntKind.wrap_u8]; omega
          clear r0 r1 r2 r3 r4
          have jb : j ≤ 800 := by omega
          have B2 := hide (below_alloc (below_alloc (unhide HB) (.cells #[.int .i64 (F (j * 5)), .int .i64 (F (j * 5 + 1)), .int .i64 (F (j * 5 + 2)), .int .i64 (F (j * 5 + 3)), .int .i64 (F (j * 5 + 4))] 27)) (.cells #[.int .u8 (F (j * 5)), .int .u8 (F (j * 5 + 1)), .int .u8 (F (j * 5 + 2)), .int .u8 (F (j * 5 + 3)), .int .u8 (F (j * 5 + 4))] 5))
          have O2 := hide (((unhide HO).alloc (.cells #[.int .i64 (F (j * 5)), .int .i64 (F (j * 5 + 1)), .int .i64 (F (j * 5 + 2)), .int .i64 (F (j * 5 + 3)), .int .i64 (F (j * 5 + 4))] 27)).alloc (.cells #[.int .u8 (F (j * 5)), .int .u8 (F (j * 5 + 1)), .int .u8 (F (j * 5 + 2)), .int .u8 (F (j * 5 + 3)), .int .u8 (F (j * 5 + 4))] 5))
          have hsz : (wr.alloc (.cells #[.int .i64 (F (j * 5)), .int .i64 (F (j * 5 + 1)), .int .i64 (F (j * 5 + 2)), .int .i64 (F (j * 5 + 3)), .int .i64 (F (j * 5 + 4))] 27)).heap.size = wr.heap.size + 1 := by simp
          have LC := cells_lit (wr.alloc (.cells #[.int .i64 (F (j * 5)), .int .i64 (F (j * 5 + 1)), .int .i64 (F (j * 5 + 2)), .int .i64 (F (j * 5 + 3)), .int .i64 (F (j * 5 + 4))] 27)) [.int .u8 (F (j * 5)), .int .u8 (F (j * 5 + 1)), .int .u8 (F (j * 5 + 2)), .int .u8 (F (j * 5 + 3)), .int .u8 (F (j * 5 + 4))] 5
          rw [hsz] at LC
          replace LC := hide LC
          clear hsz
          have L1 : ∀ u ∈ ([.int .u8 (F (j * 5)), .int .u8 (F (j * 5 + 1)), .int .u8 (F (j * 5 + 2)), .int .u8 (F (j * 5 + 3)), .int .u8 (F (j * 5 + 4))] : List Value), u.oneCell' = true := by intro u hu; simp at hu; rcases hu with rfl | rfl | rfl | rfl | rfl <;> rfl
          go_wp2_with (at_builtin; refine wpList_append_fits _ rfl (.tmp 33) (.tmp 49) 24 rfl w.heap.size 5 i 1 Tryd.underlying24 hi hz1 g (j * 5) (k * 5) (vL .u8 F (j * 5)) rfl ?own ⟨wr.heap.size + 1, 0, none⟩ 5 5 [.int .u8 (F (j * 5)), .int .u8 (F (j * 5 + 1)), .int .u8 (F (j * 5 + 2)), .int .u8 (F (j * 5 + 3)), .int .u8 (F (j * 5 + 4))] ?hx ?hn ?hc L1 ?b1 ?main; (case own => exact unhide O2); (case hx => rfl); (case hn => rfl); (case hc => exact unhide LC); (case b1 => omega))
          intro w4 o4 g4
          have O4 := hide (show w4.ownsRow w.heap.size 5 1 (.slice (some ⟨g, 0, none⟩) ((j + 1) * 5) (k * 5)) ((j + 1) * 5) (vL .u8 F ((j + 1) * 5)) by rw [vL_five, Nat.succ_mul]; exact o4)
          have B4 := hide ((unhide B2).grown g4 (unhide B2).size (by intro q h; cases h; exact unhide HGB))
          clear o4 g4 LC O2 B2
          go_wp2
          go_roundw
          case rel => exact ⟨j + 1, by omega, by go_num, by simp [Nat.succ_mul], unhide O4, unhide B4⟩
          case measure => simp [intOf]; omega
        · obtain rfl : j = k := by omega
          have hs := unhide HO
          clear hb
          go_wp2
          go_ret2
          exact ⟨g, rfl, hs, unhide HB⟩
end Go.Proofs.YtfhglganaebpoaaDoor
