/- Walk of BagTakes. -/
import Derived.Test.YtpaeekpdchmfjaaT1
import Derived.Test.YtpaeekpdchmfjaaD1
import Derived.Test.YtpaeekpdchmfjaaF1
namespace Go.Proofs.Ytpaeekpdchmfjaa
open Go.RowKit

set_option maxHeartbeats 1000000 in
set_option maxRecDepth 100000 in
theorem takes_long (n : Int) (x : Option Addr) (L cap : Nat) (w : World) (hL : 60 < L) : Calls Try.prog 6 #[.int .i64 n, .slice x L cap] w fun e w' => e = .returned (.bool true) ∧ Below w.heap.size w w' := by
  go_enter Try.func6, Try.ntmps6
  go_wp2
  go_ret
  exact ⟨rfl, Below.refl _ _⟩
/-- What the law knows ahead of each taking. -/
def Tks (w0 w : World) (G : Nat → Nat) (m : Nat) (vl vf : Value) : Prop :=
  (∀ i, G i < 40) ∧ (∃ p c, vl = .slice p m c ∧ Fs w (.slice p m c) m (fun i => tk (G i))) ∧ (∃ p c, vf = .slice p m c) ∧ w.ownsRow w0.heap.size 3 1 vf m (vL .i64 (fun i => (G i : Int)) m) ∧ Below w0.heap.size w0 w
set_option maxHeartbeats 4000000 in
set_option maxRecDepth 100000 in
theorem takes_walk (n : Int) (x : Option Addr) (L cap : Nat) (zs : List Int) (w : World) (hr : IsRow .i64 w x L cap zs) : Calls Try.prog 6 #[.int .i64 n, .slice x L cap] w fun e w' => e = .returned (.bool true) ∧ Below w.heap.size w w' := by
  by_cases hL : 60 < L
  · exact takes_long n x L cap w hL
  obtain ⟨N, hN, hN2⟩ : ∃ q : Nat, wrap64 ((IntKind.u64.wrap n).tmod 40) = q ∧ q < 40 := modN n 40 (by omega) (by omega)
  have HS := hide hr.sl
  have hL2 : ¬ ((L : Int) > 60) := by omega
  have hLc : L ≤ 60 := by omega
  go_enter Try.func6, Try.ntmps6
  go_wp2
  clear hN hr hL hL2
  go_loopw [5, 6, 7] (fun vl vf i w2 => ∃ k : Nat, k ≤ N ∧ i = .int .i64 k ∧ Own w2 w.heap.size vl k tk ∧ w2.ownsRow w.heap.size 3 1 vf k (vL .i64 (fun i => (i : Int)) k) ∧ Below w.heap.size w w2) (fun _ _ i _ => N - (intOf i).toNat)
  case atStart => exact ⟨0, by omega, rfl, own_nil _ _ _, World.ownsRow_nil _ _ _ _, Below.refl _ _⟩
  case round =>
    obtain ⟨k, hk, rfl, hf, ho, hb⟩ := hrel
    have HB := hide hb
    have HO := hide ho
    by_cases hlt : k < N
    · have P := hide (tk_put k _ _ (by omega) hf.fs)
      have hk40 : k < 40 := by omega
      clear hf ho hb
      go_wp2_with (first
        | (go_at_call 9; (with_reducible refine (unhide P).mono ?_); rintro e w3 ⟨p3, c3, rfl, f3, b3⟩; have F3 := hide (f3.mono (unhide HB).size); have O3 := hide (owns_below (unhide HO) b3); have B3 := hide (below_of (unhide HB) b3); clear f3 b3)
        | (at_builtin; refine wpList_app64 (by simp [Region.wanted]) (.tmp 42) (.tmp 44) rfl w.heap.size _ k (fun i => (i : Int)) rfl ((unhide O3).alloc _) _ 1 (fun _ => (k : Int)) rfl ((sl_lit .i64 _ [(k : Int)] 3 1 rfl (by unfold maxLen; omega)).congr fun i hi => by (obtain rfl : i = 0 := by omega); rfl) (by omega) (by omega) (by have := (unhide B3).size; simp; omega) ?_; intro v4 w4 o4 b4 g4; have O4 := hide o4; have B4 := hide (below_up (below_alloc (unhide B3) _) b4); have F4 := hide (own_grown ((unhide O3).alloc _) g4 ((unhide F3).below (below_alloc (Below.refl _ _) _))); clear o4 b4 g4))
      go_roundw
      case rel =>
        have e : vL .i64 (cat (fun i : Nat => (i : Int)) k fun _ => (k : Int)) (k + 1) = vL .i64 (fun i : Nat => (i : Int)) (k + 1) := vL_congr fun j hj => by
          unfold cat
          split
          · rfl
          · rw [show j = k by omega]
        have o5 := unhide O4
        rw [e] at o5
        exact ⟨k + 1, by omega, by go_num, unhide F4, o5, unhide B4⟩
      case measure => simp [intOf]; omega
    · obtain rfl : k = N := by omega
      obtain ⟨p5, c5, rfl, -, -⟩ := hf.fs.shape
      obtain ⟨p6, c6, rfl⟩ := owns_shape ho
      have T0 : Hid (∃ G m, m ≤ 39 ∧ Tks w wr G m (.slice p5 k c5) (.slice p6 k c6)) := by
        refine hide ⟨fun i => if i < 40 then i else 0, k, by omega, fun i => ?_, ⟨p5, c5, rfl, hf.fs.congr fun i hi => ?_⟩, ⟨p6, c6, rfl⟩, ?_, hb⟩
        · show (if i < 40 then i else 0) < 40
          split
          · assumption
          · decide
        · simp [show i < 40 by omega]
        · rwa [vL_congr (G := fun i : Nat => (i : Int)) fun j hj => by simp [show j < 40 by omega]]
      clear hf ho HB HO hb
      go_wp2
      go_loopw [5, 6, 10] (fun vl vf i w2 => ∃ j : Nat, j ≤ L ∧ i = .int .i64 j ∧ ∃ G m, m ≤ 39 ∧ Tks w w2 G m vl vf) (fun _ _ i _ => L - (intOf i).toNat)
      case atStart => exact ⟨0, by omega, rfl, unhide T0⟩
      case round =>
        clear T0
        obtain ⟨j, hj, rfl, G, m, hm, hG, ⟨p, c, rfl, hf⟩, ⟨p', c', rfl⟩, ho, hb⟩ := hrel
        have HG := hide hG
        have HF := hide hf
        have HO := hide ho
        have HB := hide hb
        by_cases hlt2 : j < L ∧ 0 < m
        · obtain ⟨hj2, hm0⟩ := hlt2
          obtain ⟨pb, poff, rfl, hpb, hpc⟩ := (unhide HS).some (by omega)
          have c0 := (hb.cell (p := ⟨pb, poff + j, none⟩) hpb).trans (hpc j hj2)
          generalize rowF zs j = P at *
          obtain ⟨K, hq, hK⟩ := modN P m hm0 (by omega)
          obtain ⟨M, hM⟩ : ∃ M, m = M + 1 := ⟨m - 1, by omega⟩
          obtain ⟨g, rfl, hc1, hc2, hgl⟩ : ∃ g, p' = some ⟨g, 0, none⟩ ∧ m ≤ c' ∧ c' ≤ maxLen ∧ g < wr.heap.size := by
            rcases ho.2 with ⟨_, h⟩ | ⟨g, cap', cur, h, _, hg, h1, h2, _⟩
            · omega
            · cases h; exact ⟨g, rfl, h1, h2, (Array.getElem?_eq_some_iff.1 hg).1⟩
          obtain ⟨a2, c2, hsl, hrest⟩ := slice_rest g m c' K M hM hK hc1 hc2
          have RS := hide hrest
          have T := hide (tk_take G M m K hM (by omega) hK p c wr hf)
          have hGK := hG K
          have HM := hide hM
          have HK := hide hK
          have SP := hide (show Sl .i64 w (.slice (some ⟨pb, poff, none⟩) L cap) L (rowF zs) from unhide HS)
          have i1 : (0 : Int) ≤ (K : Int) := by omega
          have i2 : (K : Int) < (m : Int) := by omega
          have i3 : (j : Int) < (L : Int) := by omega
          have i4 : (m : Int) > 0 := by omega
          unfold maxLen at hc2
          clear hf ho hb hG hpc hrest hM hK hm0 hj2
          go_wp2_with (go_at_call 10; (with_reducible refine (unhide T).mono ?_); rintro e w3 ⟨q3, d3, p3, c3, rfl, s3, f3, b3⟩; have S3 := hide s3; have F3 := hide f3; have B3 := hide b3; clear s3 f3 b3)
          have d1 : ((M : Int) != (m : Int) - 1) = false := by
            have := unhide HM
            simp
            omega
          have r1 : ((G K : Nat) : Int).tmod 8 = (G K : Int) % 8 := Int.tmod_eq_emod_of_nonneg (by omega)
          have r2 : IntKind.u8.wrap (G K : Int) = (G K : Int) := by rw [IntKind.wrap_u8']; omega
          have r3 : IntKind.i64.wrap ((m : Int) - 1) = (m : Int) - 1 := by rw [IntKind.wrap_i64]; omega
          have r4 : IntKind.i64.wrap ((G K : Int) % 8) = (G K : Int) % 8 := by rw [IntKind.wrap_i64]; omega
          obtain ⟨w4, hw4⟩ : ∃ y, y = w3.alloc (.cells #[.int .i64 ((G K : Int) % 8), .slice q3 2 d3] 25) := ⟨_, rfl⟩
          rw [← hw4]
          have b34 : Below w3.heap.size w3 w4 := by rw [hw4]; exact below_alloc (Below.refl _ _) _
          have X4 : Has w4 w3.heap.size (.cells #[.int .i64 ((G K : Int) % 8), .slice q3 2 d3] 25) := by rw [hw4]; exact Has.new _ _
          have S4 := hide ((unhide S3).below b34 (Nat.le_refl _))
          have F4 := hide ((unhide F3).below b34 (Nat.le_refl _))
          have BL := hide (below_of (unhide B3) b34)
          have O4 := hide (owns_below (unhide HO) (unhide BL))
          have B4 := hide (below_of (unhide HB) (unhide BL))
          have hgl4 := Nat.lt_of_lt_of_le hgl (unhide BL).size
          have x0 := X4.cell (k := 0) rfl
          have x1 := X4.cell (k := 1) rfl
          have x2 : w4.cell? ⟨g, K, none⟩ = some (.int .i64 (G K : Int)) := by
            rw [(unhide O4).cellAt K (by have := unhide HK; omega), vL_get _ _ _ _ (unhide HK)]
          have hg12 := X4.1
          have HO2 := HO
          clear S3 F3 B3 X4 b34 hw4 HO T c0
          generalize w3.heap.size = g12 at *
          go_region_held3 (fun w' => w'.cell? ⟨g, K, none⟩ = some (.int .i64 (G K : Int)) ∧ w'.cell? ⟨g12, 0, none⟩ = some (.int .i64 ((G K : Int) % 8)) ∧ w'.cell? ⟨g12, 1, none⟩ = some (.slice q3 2 d3))
            (first
              | exact ⟨x2, x0, x1⟩
              | exact ⟨(World.cell?_alloc_past _ _ _ hgl4).trans x2, (World.cell?_alloc_past _ _ _ hg12).trans x0, (World.cell?_alloc_past _ _ _ hg12).trans x1⟩
              | exact ⟨(by assumption), (by assumption), (by assumption)⟩
              | go_keep)
            (first
              | (go_at_call 17; refine (tk_frame (G K) _ _ _ ((unhide S4).below (below_drewN (below_alloc (Below.refl _ _) _) 1) (Nat.le_refl _)) (sl_drew (sl_two_bytes w4 (G K) _ (by simp)) 1)).mono ?_; rintro e w5 ⟨rfl, b5⟩; have B5 := hide (below_of (w0 := World.drewN (w4.alloc _) 1) (below_drewN (below_alloc (Below.refl w4.heap.size w4) _) 1) b5); have z0 := ((unhide B5).cell (p := ⟨g, K, none⟩) hgl4).trans x2; have z1 := ((unhide B5).cell (p := ⟨g12, 0, none⟩) hg12).trans x0; have z2 := ((unhide B5).cell (p := ⟨g12, 1, none⟩) hg12).trans x1; clear b5))
          have F5 := hide ((unhide F4).below (unhide B5) (Nat.le_refl _))
          have O5 := hide (owns_below (unhide O4) (unhide B5))
          have B5w := hide (below_of (unhide B4) (unhide B5))
          have hKM := hide (show K ≤ M by have := unhide HM; have := unhide HK; omega)
          have i5 : (K : Int) ≤ (c' : Int) := by omega
          have hm39 : K ≤ 1000000 := by omega
          have r5 : IntKind.i64.wrap ((K : Int) + 1) = (K : Int) + 1 := by rw [IntKind.wrap_i64]; omega
          have hM39 : M - K ≤ 1000000 := by have := unhide HM; omega
          have HE : Hid (World.ownsRow (World.drewN (w5.alloc (.cells #[] 3)) 1) w5.heap.size 3 1 (.slice (some ⟨w5.heap.size, 0, none⟩) 0 0) 0 (vL .i64 (fun _ => 0) 0)) := hide (owns_below (World.ownsRow_lit (base := w5.heap.size) (e := 3) (size := 1) w5 #[] 0 (Nat.le_refl _) (by unfold maxLen; omega) rfl) (below_drewN (Below.refl _ _) 1))
          have BE : Hid (Below w5.heap.size w5 (World.drewN (w5.alloc (.cells #[] 3)) 1)) := hide (below_drewN (below_alloc (Below.refl _ _) _) 1)
          have HS1 := hide (sl_take ((sl_of_owns (unhide O5)).below (unhide BE) (Nat.le_refl _)) (Nat.le_trans (unhide hKM) (by have := unhide HM; omega)))
          clear F4 O4 B4 S4 x0 x1 x2 z0 z1 z2 hg12 hgl4 BL B5 HO2 HF HB d1 r1 r2 r3 r4 hq hgl
          go_wp2
          go_region_held3 (fun _ => True) (trivial)
            (first
              | (refine step_app64 (by simp [Region.wanted]) (.tmp 102) (.tmp 105) rfl w5.heap.size _ 0 (fun _ => 0) rfl (unhide HE) _ K (fun i => (G i : Int)) rfl (unhide HS1) (by omega) hm39 (unhide BE).size ?_; intro v6 w6 o6 b6 _; have O6 := hide (own_zero o6); have B6 := hide (below_up (unhide BE) b6); clear o6 b6 HE HS1 BE; obtain ⟨p6, c6, rfl⟩ := owns_shape (unhide O6))
              | (refine step_app64 (by simp [Region.wanted]) (.tmp 106) (.tmp 110) rfl w5.heap.size _ K (fun i => (G i : Int)) rfl (unhide O6) _ (M - K) (fun i => (G (K + 1 + i) : Int)) rfl (unhide RS _ _ ((sl_of_owns (unhide O5)).below (unhide B6) (Nat.le_refl _))) hm39 hM39 (unhide B6).size ?_; intro v7 w7 o7 b7 _; have O7 := hide (own_rest (unhide hKM) o7); have B7 := hide (below_up (unhide B6) b7); clear o7 b7 O6 B6; obtain ⟨p7, c7, rfl⟩ := owns_shape (unhide O7)))
          have F7 := hide ((unhide F5).below (unhide B7) (Nat.le_refl _))
          have B8 := hide (below_of (unhide B5w) (unhide B7))
          have O8 := hide (owns_mono (unhide O7) (unhide B5w).size)
          have G8 : Hid (∀ i, lackN G K i < 40) := hide fun i => lackN_lt (unhide HG) i
          have hM38 : M ≤ 39 := by have := unhide HM; omega
          have HM38 := hide hM38
          generalize hG2 : lackN G K = G2 at *
          clear F5 B5w O5 O7 hsl RS HG hKM i5 hm39 r5 hM39 B7 hG2 hGK HM HK i1 i2 i4 SP hc1 hc2
          go_wp2
          go_loopw [15] (fun i w2 => ∃ k2 : Nat, k2 ≤ M ∧ i = .int .i64 k2 ∧ Below w7.heap.size w7 w2) (fun i _ => M - (intOf i).toNat)
          case atStart => exact ⟨0, by omega, rfl, Below.refl _ _⟩
          case round =>
            obtain ⟨k2, hk2, rfl, hb2⟩ := hrel
            have HB2 := hide hb2
            by_cases hlt3 : k2 < M
            · obtain ⟨lb, lo, LB, rfl, hlb, hlc⟩ := ((unhide F7).below hb2 (Nat.le_refl _)).some (by omega)
              obtain ⟨-, y1, y2⟩ := hlc k2 hlt3
              obtain ⟨pk, ck, hbk, hk1, hk3⟩ := y2.shape
              rw [hbk] at y1 y2
              obtain ⟨bb, ob, rfl, -, hbc⟩ := y2.some (show 0 < (tk (G2 k2)).n from (by decide : (0 : Nat) < 2))
              have y3 := hbc 0 (show 0 < (tk (G2 k2)).n from (by decide : (0 : Nat) < 2))
              rw [Nat.add_zero] at y3
              have hO := owns_below (unhide O8) hb2
              obtain ⟨g7, rfl⟩ : ∃ g7, p7 = some ⟨g7, 0, none⟩ := by
                rcases hO.2 with ⟨_, h⟩ | ⟨g, cap', cur, h, _⟩
                · omega
                · cases h; exact ⟨g, rfl⟩
              obtain ⟨hc7, hc8⟩ : M ≤ c7 ∧ c7 ≤ maxLen := by
                rcases hO.2 with ⟨h, _⟩ | ⟨g, cap', cur, h, _, _, h1, h2, _⟩
                · cases h
                · cases h; exact ⟨h1, h2⟩
              have y4 : wr.cell? ⟨g7, k2, none⟩ = some (.int .i64 (G2 k2 : Int)) := by rw [hO.cellAt k2 (by omega), vL_get _ _ _ _ hlt3]
              have y5 := unhide G8 k2
              have y6 : (tk (G2 k2)).b 0 = (G2 k2 : Int) := rfl
              have y7 : (tk (G2 k2)).n = 2 := rfl
              rw [y6] at y3
              rw [y7] at y1 hk1
              have y8 : IntKind.i64.wrap (G2 k2 : Int) = (G2 k2 : Int) := by rw [IntKind.wrap_i64]; omega
              have y9 : ((G2 k2 : Int) != (G2 k2 : Int)) = false := by simp
              have v1 : (0 : Int) ≤ (k2 : Int) := by omega
              have v2 : (k2 : Int) < (M : Int) := by omega
              clear hlc y2 hbc hbk hO hb2 y6 y7
              generalize G2 k2 = y at *
              go_wp2
              go_quiet (fail)
              go_wp2
              go_roundw
              case rel => exact ⟨k2 + 1, by omega, by go_num, below_drewN (unhide HB2) nq⟩
              case measure => simp [intOf]; omega
            · clear hb2
              go_wp2
              go_roundw
              case rel => exact ⟨j + 1, by omega, by go_num, G2, M, unhide HM38, unhide G8, ⟨p3, c3, rfl, (unhide F7).below (unhide HB2) (Nat.le_refl _)⟩, ⟨p7, c7, rfl⟩, owns_below (unhide O8) (unhide HB2), below_of (unhide B8) (unhide HB2)⟩
              case measure => simp [intOf]; omega
        · have e : (decide ((j : Int) < (L : Int)) && decide ((m : Int) > 0)) = false := by
            by_cases q : j < L
            · rw [decide_eq_false (show ¬ ((m : Int) > 0) by omega), Bool.and_false]
            · rw [decide_eq_false (show ¬ ((j : Int) < (L : Int)) by omega), Bool.false_and]
          have C := hide (tk_check G m (by omega) _ _ hf)
          by_cases hjl : j < L
          · have hm0 : ¬ ((m : Int) > 0) := by omega
            clear hf ho hb hG e hlt2
            go_wp2_with (first
              | (go_at_call 14; (with_reducible refine (unhide C).mono ?_); rintro e w3 ⟨rfl, b3⟩; have B3 := hide (below_of (unhide HB) b3); clear b3)
              | (go_at_call 18; refine (wakes_any _).mono ?_; rintro e w4 ⟨rfl, b4⟩; replace B3 := hide (below_of (unhide B3) b4); clear b4))
            go_ret
            exact ⟨rfl, unhide B3⟩
          · have hjn : ¬ ((j : Int) < (L : Int)) := by omega
            clear hf ho hb hG e hlt2
            go_wp2_with (first
              | (go_at_call 14; (with_reducible refine (unhide C).mono ?_); rintro e w3 ⟨rfl, b3⟩; have B3 := hide (below_of (unhide HB) b3); clear b3)
              | (go_at_call 18; refine (wakes_any _).mono ?_; rintro e w4 ⟨rfl, b4⟩; replace B3 := hide (below_of (unhide B3) b4); clear b4))
            go_ret
            exact ⟨rfl, unhide B3⟩
end Go.Proofs.Ytpaeekpdchmfjaa
