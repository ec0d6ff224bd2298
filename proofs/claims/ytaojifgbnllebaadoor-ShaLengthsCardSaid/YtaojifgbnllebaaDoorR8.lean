/- Walk of the page's Sha: the bytes, padded. -/
import Derived.Test.YtaojifgbnllebaaDoorR11
namespace Go.Proofs.YtaojifgbnllebaaDoor
open Go.RowKit

theorem wrap_u32 (x : Int) : IntKind.u32.wrap x = x % 4294967296 := by simp [IntKind.wrap, IntKind.signed, IntKind.bits]
theorem R32.drew {w : World} {g n : Nat} {F : Nat → Int} (h : R32 w g n F) : R32 w.drew g n F := ⟨h.lt, h.cell, h.frozen⟩
theorem R32.other {w : World} {g n b k : Nat} {F : Nat → Int} (h : R32 w g n F) (hne : g ≠ b) (v : Value) : R32 (w.setCell ⟨b, k, none⟩ v) g n F :=
  ⟨by simpa using h.lt, fun j hj => by have := h.cell j hj; simp [go_sem, this], fun j => by simpa using h.frozen j⟩
theorem S8.add_nth (s t : S8) (j : Nat) : (s.add t).nth j = (s.nth j + t.nth j) % 4294967296 := by
  match j with
  | 0 | 1 | 2 | 3 | 4 | 5 | 6 | _ + 7 => rfl
theorem r32_vals (w : World) (s : S8) : R32 (w.alloc (.cells s.vals 33)) w.heap.size 8 s.nth := by
  refine ⟨by simp, fun j hj => ?_, fun j => by simp [go_sem]⟩
  have := s.vals_get j hj
  simp [go_sem, this]

set_option maxRecDepth 100000 in
set_option maxHeartbeats 40000000 in
theorem rsha_any (F : Nat → Int) (v : Value) (n : Nat) (w : World) (hv : BSl w v n F) (hf : ∀ i, 0 ≤ F i ∧ F i < 256) (hn : n ≤ 400) :
    Calls Tryd.prog 10 #[v] w fun e w' => ∃ v', e = .returned v' ∧ w'.ownsRow w.heap.size 5 1 v' 32 (bL (shaS s0 kk F n).byte 32) ∧ Below w.heap.size w w' := by
  obtain ⟨i5, hi5, hz50, hz51, hz52⟩ := info_parts info5
  obtain ⟨i3, hi3, hz30, hz31, hz32⟩ := info_parts info33
  obtain ⟨p, cap, rfl⟩ := bsl_slice hv
  have Hv := hide hv
  clear hv
  have hlp := lp_bd n
  go_enter Tryd.func10, Tryd.ntmps10
  go_wp2_with (first
    | (go_at_call 7; go_must (refine (twin_any F _ n _ (unhide Hv) (by omega)).mono ?_); rintro e w1 ⟨v1, rfl, hown1, hb1⟩)
    | (at_builtin; refine wpList_append_own _ rfl (.tmp 29) (.tmp 30) 22 rfl w.heap.size 5 i5 (.int .u8 0) 1 1 Tryd.underlying22 hi5 hz50 hz51 hz52 rfl (by decide) v1 n (bL F n) rfl (hown1.alloc _) ⟨w1.heap.size, 0, none⟩ 1 1 [.int .u8 128] rfl rfl (cells_lit _ _ 5) (by intro u hu; simp at hu; subst hu; rfl) (by unfold maxLen; omega) (by omega) (by have := hb1.size; simp; omega) ?_))
  intro v2 w2 hown2 hgrow2 _
  have hb2 : Below w.heap.size w w2 := (hb1.alloc hb1.size _).grown hgrow2 (by have := hb1.size; simp; omega) (fun b hb => (hown1.lt b hb).1)
  have hown2' : w2.ownsRow w.heap.size 5 1 v2 (n + 1) (bL (p1 F n) (n + 1)) := by
    rw [bL_succ, bL_congr (F := p1 F n) (G := F) (fun j hj => if_pos hj), show p1 F n n = 128 by simp [p1]]
    exact hown2
  clear hown1 hown2 hgrow2 hb1
  go_wp2
  go_loopg [3] (lp n - (n + 1)) (fun gk v w3 => ∃ m, n + 1 ≤ m ∧ m + gk = lp n ∧ w3.ownsRow w.heap.size 5 1 v m (bL (p1 F n) m) ∧ Below w.heap.size w w3)
  case atStart => exact ⟨n + 1, by omega, by omega, hown2', hb2⟩
  case round =>
    clear hown2' hb2
    obtain ⟨m, hm1, hm2, hown, hbel⟩ := hrel
    obtain ⟨av, cv, rfl⟩ := owns_len hown
    by_cases hm : m % 64 = 56
    · have hme := lp_end n m hm1 (by omega) hm
      have hmI : ((m : Int) % 64 != 56) = false := by simp; omega
      have Hme := hide hme
      clear hme
      have hm64 : m ≤ 500 := by omega
      go_wp2
      go_loopw [3, 5] (fun v xi w4 => ∃ t : Nat, t ≤ 8 ∧ xi = .int .i64 (7 - (t : Int)) ∧ w4.ownsRow w.heap.size 5 1 v (m + t) (bL (p2 F n) (m + t)) ∧ Below w.heap.size w w4) (fun _ i _ => (intOf i + 1).toNat)
      case atStart =>
        refine ⟨0, by omega, rfl, ?_, hbel⟩
        rw [Nat.add_zero, bL_congr (F := p2 F n) (G := p1 F n) (fun j hj => if_pos (by rw [← unhide Hme]; exact hj))]
        exact hown
      case round =>
        clear hown hbel
        obtain ⟨t, ht, rfl, hown, hbel⟩ := hrel
        obtain ⟨av, cv, rfl⟩ := owns_len hown
        by_cases htt : t < 8
        · have e1 : (8 * (7 - (t : Int))).toNat = 8 * (7 - t) := by omega
          have e2 : min (8 * (7 - t)) 64 = 8 * (7 - t) := by omega
          have hnn : 0 ≤ 8 * (n : Int) / 2 ^ (8 * (7 - t)) := Int.ediv_nonneg (by omega) (Int.le_of_lt (Int.pow_pos (by decide)))
          go_wp2_with (at_builtin; refine wpList_append_own _ rfl (.tmp 46) (.tmp 53) 22 rfl w.heap.size 5 i5 (.int .u8 0) 1 1 Tryd.underlying22 hi5 hz50 hz51 hz52 rfl (by decide) _ (m + t) _ rfl (hown.alloc _) ⟨wr.heap.size, 0, none⟩ 1 1 [.int .u8 (8 * (n : Int) / 2 ^ (8 * (7 - t)) % 256)] rfl rfl (cells_lit _ _ 5) (by intro u hu; simp at hu; subst hu; rfl) (by unfold maxLen; omega) (by omega) (by have := hbel.size; simp; omega) ?_)
          intro v5 w5 hown5 hgrow5 _
          go_wp2
          go_roundw
          case rel =>
            refine ⟨t + 1, by omega, by go_num, ?_, (hbel.alloc hbel.size _).grown hgrow5 (by have := hbel.size; simp; omega) (fun b hb => (hown.lt b hb).1)⟩
            rw [show m + (t + 1) = m + t + 1 by omega, bL_succ, show p2 F n (m + t) = 8 * (n : Int) / 2 ^ (8 * (7 - t)) % 256 by
              unfold p2
              rw [if_neg (by have := unhide Hme; omega), show m + t - lp n = t by have := unhide Hme; omega]]
            exact hown5
          case measure => simp [intOf]; omega
        · obtain rfl : t = 8 := by omega
          have hml : m + 8 < 2 ^ 60 := by omega
          obtain ⟨gm, cm, he, hgm, hcm, hMc⟩ : ∃ g c, (Value.slice av (m + 8) cv) = .slice (some ⟨g, 0, none⟩) (m + 8) c ∧ g < wr.heap.size ∧ m + 8 ≤ c ∧ ∀ j : Nat, j < m + 8 → wr.cell? ⟨g, j, none⟩ = some (.int .u8 (p2 F n j)) := by
            rcases hown.2 with ⟨_, h2⟩ | ⟨g, c, cur, hvv, hb, hg, hc, hm', _, _⟩
            · omega
            · rw [hvv] at hown
              exact ⟨g, c, hvv, (Array.getElem?_eq_some_iff.1 hg).1, hc, fun j hj => by rw [hown.cellAt j (by omega), bL_get _ _ j hj]⟩
          injection he with he1 _ he3
          subst he1
          subst he3
          have HM := hide hMc
          clear hMc hown
          go_wp2_with (first
            | (go_at_call_of 19 (Value.int IntKind.i64 8)
               go_must (refine (roots8 _).mono ?_)
               rintro e w5 ⟨gh, ch, rfl, hgh, hch, hch2, hrh, hb5⟩)
            | (go_at_call_of 19 (Value.int IntKind.i64 64)
               go_must (refine (roots64 _).mono ?_)
               rintro e w6 ⟨gk1, ck, rfl, hgk, hck, hck2, hrk, hb6⟩))
          obtain ⟨nb, hnb⟩ : ∃ nb, m + 8 = 64 * nb := ⟨(m + 8) / 64, by omega⟩
          have hnb1 : m + 8 ≤ 64 * nb := by omega
          have hnb2 : 64 * nb ≤ m + 8 := by omega
          have Hnb := hide hnb
          clear hnb
          have hd1 : gm < gh := by omega
          have hd2 : gh < gk1 := by have := hrh.lt; omega
          have hB6 : Below w.heap.size w w6 := (hbel.trans (hb5.mono hbel.size)).trans (hb6.mono (by have := hb5.size; have := hbel.size; omega))
          have hM6 : ∀ j : Nat, j < m + 8 → w6.cell? ⟨gm, j, none⟩ = some (.int .u8 (p2 F n j)) := fun j hj => by
            rw [hb6.cell (p := ⟨gm, j, none⟩) (by show gm < w5.heap.size; have := hb5.size; omega), hb5.cell (p := ⟨gm, j, none⟩) hgm]
            exact unhide HM j hj
          have hrh6 : R32 w6 gh 8 s0.nth := hrh.below hb6 hrh.lt
          have hgw : w.heap.size ≤ gh := by have := hbel.size; omega
          clear hb5 hb6 hrh HM hbel hgm hgh hgk
          go_loopw [8] (fun xat w7 => ∃ k : Nat, k ≤ nb ∧ xat = .int .i64 (64 * (k : Int)) ∧ R32 w7 gh 8 (S8.blocks kk (p2 F n) s0 k).nth ∧ R32 w7 gk1 64 kk ∧ (∀ j : Nat, j < m + 8 → w7.cell? ⟨gm, j, none⟩ = some (.int .u8 (p2 F n j))) ∧ Below w.heap.size w w7) (fun a _ => 64 * nb - (intOf a).toNat)
          case atStart => exact ⟨0, by omega, rfl, hrh6, hrk, hM6, hB6⟩
          case round =>
            clear hrh6 hrk hM6 hB6
            obtain ⟨k, hk, rfl, hrh, hrk, hM, hbel⟩ := hrel
            have HM := hide hM
            have Hrh := hide hrh
            have Hrk := hide hrk
            have hgks := hrk.lt
            clear hM hrh hrk
            by_cases hkt : k < nb
            · have hkI : 64 * (k : Int) < (m : Int) + 8 := by omega
              obtain ⟨bs, hbsd⟩ : ∃ bs : Nat → Int, bs = fun i => p2 F n (64 * k + i) := ⟨_, rfl⟩
              have hbs : ∀ i, 0 ≤ bs i ∧ bs i < 256 := fun i => by rw [hbsd]; exact p2_bd F hf n _
              have hMb : ∀ i : Nat, i < 64 → wr.cell? ⟨gm, 64 * k + i, none⟩ = some (.int .u8 (bs i)) := fun i hi => by rw [hbsd]; exact unhide HM _ (by omega)
              have Hbsd := hide hbsd
              have HMb := hide hMb
              obtain ⟨Bw, hBw⟩ : ∃ Bw, Bw = wr.heap.size := ⟨_, rfl⟩
              have hBw1 : gk1 < Bw := by omega
              have hBw2 : Bw ≤ wr.heap.size := by omega
              clear hBw hbsd hMb
              obtain ⟨wb, hwb⟩ : ∃ wb, wb = wr := ⟨wr, rfl⟩
              have HMb' : ∀ i : Nat, i < 64 → wb.cell? ⟨gm, 64 * k + i, none⟩ = some (.int .u8 (bs i)) := by rw [hwb]; exact unhide HMb
              have HMb2 := hide HMb'
              have hBw3 : Bw ≤ wb.heap.size := by rw [hwb]; exact hBw2
              have Hwb := hide hwb
              have Hrh2 := hide (show R32 wb gh 8 (S8.blocks kk (p2 F n) s0 k).nth by rw [hwb]; exact unhide Hrh)
              have Hrk2 := hide (show R32 wb gk1 64 kk by rw [hwb]; exact unhide Hrk)
              have hbelb : Below w.heap.size w wb := by rw [hwb]; exact hbel
              clear hwb HMb' HMb Hrh Hrk hbel
              go_wp2
              go_loopw [9, 10] (fun v xi w8 => ∃ i : Nat, i ≤ 16 ∧ xi = .int .i64 i ∧ w8.ownsRow Bw 33 1 v i (wL (wordsOf bs) i) ∧ Below Bw wb w8) (fun _ i _ => 16 - (intOf i).toNat)
              case atStart => exact ⟨0, by omega, rfl, World.ownsRow_nil _ _ _ _, (by rw [unhide Hwb]; exact Below.refl _ _)⟩
              case round =>
                obtain ⟨i, hi, rfl, hown, hb8⟩ := hrel
                obtain ⟨aw, cw, rfl⟩ := owns_len hown
                by_cases hit : i < 16
                · go_wp2
                  go_loopw [11, 12] (fun x xq w9 => ∃ q : Nat, q ≤ 4 ∧ xq = .int .i64 q ∧ x = .int .u32 (wacc bs i q) ∧ w9 = wr) (fun _ q _ => 4 - (intOf q).toNat)
                  case atStart => exact ⟨0, by omega, rfl, rfl, rfl⟩
                  case round =>
                    obtain ⟨q, hq, rfl, rfl, rfl⟩ := hrel
                    by_cases hqt : q < 4
                    · have cx : wr.cell? ⟨gm, 64 * k + 4 * i + q, none⟩ = some (.int .u8 (bs (4 * i + q))) := by
                        rw [hb8.cell (p := ⟨gm, 64 * k + 4 * i + q, none⟩) (by show gm < Bw; omega), Nat.add_assoc]; exact unhide HMb2 _ (by omega)
                      have ex : (64 * (k : Int) + 4 * i + q).toNat = 64 * k + 4 * i + q := by omega
                      have hxb : 64 * (k : Int) + 4 * i + q < (m : Int) + 8 := by omega
                      have hb := hbs (4 * i + q)
                      obtain ⟨hb0, hb1⟩ := hb
                      have hwn := wacc_nonneg bs i q
                      have hstep := wacc_add bs hbs i q
                      have Hst := hide hstep
                      clear hstep
                      go_wp2
                      exact ⟨⟨q + 1, by omega, by go_num, by rw [← unhide Hst]; go_num, trivial⟩, by simp [intOf]; omega⟩
                    · obtain rfl : q = 4 := by omega
                      have hsz8 := hb8.size
                      go_wp2_with (at_builtin; refine wpList_append_own _ rfl (.tmp 84) (.tmp 86) 38 rfl Bw 33 i3 (.int .u32 0) 1 4 Tryd.underlying38 hi3 hz30 hz31 hz32 rfl (by decide) _ i _ rfl (hown.alloc _) ⟨wr.heap.size, 0, none⟩ 1 1 [.int .u32 (wacc bs i 4)] rfl rfl (cells_lit _ _ 33) (by intro u hu; simp at hu; subst hu; rfl) (by unfold maxLen; omega) (by omega) (by simp; omega) ?_)
                      intro v9 w9 hown9 hgrow9 _
                      go_wp2
                      go_roundw
                      case rel =>
                        refine ⟨i + 1, by omega, by go_num, ?_, (hb8.alloc (by omega) _).grown hgrow9 (by simp; omega) (fun b hb => (hown.lt b hb).1)⟩
                        rw [wL_succ, wordsOf_16 bs i hit]
                        exact hown9
                      case measure => simp [intOf]; omega
                · obtain rfl : i = 16 := by omega
                  rw [show ((16 : Nat) : Int) = 16 from rfl]
                  go_wp2
                  go_loopw [9, 13] (fun v xi w8 => ∃ t : Nat, t ≤ 48 ∧ xi = .int .i64 (16 + (t : Int)) ∧ w8.ownsRow Bw 33 1 v (16 + t) (wL (wordsOf bs) (16 + t)) ∧ Below Bw wb w8) (fun _ i _ => 64 - (intOf i).toNat)
                  case atStart => exact ⟨0, by omega, rfl, hown, hb8⟩
                  case round =>
                    clear hown hb8
                    obtain ⟨t, ht, rfl, hown, hb8⟩ := hrel
                    obtain ⟨gw, cw', he, hgw1, hcw1, hcw2, hrw⟩ := R32.of_owns hown (by omega) (fun j hj => wL_get (wordsOf bs) (16 + t) j hj)
                    subst he
                    have hsz8 := hb8.size
                    by_cases htt : t < 48
                    · have c15 := hrw.cell (1 + t) (by omega)
                      have c2 := hrw.cell (14 + t) (by omega)
                      have c16 := hrw.cell t (by omega)
                      have c7 := hrw.cell (9 + t) (by omega)
                      have e15 : (16 : Int) + t - 15 = ((1 + t : Nat) : Int) := by omega
                      have e2 : (16 : Int) + t - 2 = ((14 + t : Nat) : Int) := by omega
                      have e16 : (16 : Int) + t - 16 = t := by omega
                      have e7 : (16 : Int) + t - 7 = ((9 + t : Nat) : Int) := by omega
                      have hnx := wordsOf_next bs t htt
                      have Hnx := hide hnx
                      clear hnx
                      have Hrw := hide hrw
                      clear hrw
                      go_wp2
                      go_quiet (fail)
                      go_wp2
                      obtain ⟨wq, hwq⟩ : ∃ wq, wr.drewN nq = wq := ⟨_, rfl⟩
                      rw [hwq]
                      have hownq : wq.ownsRow Bw 33 1 (.slice (some ⟨gw, 0, none⟩) (16 + t) cw') (16 + t) (wL (wordsOf bs) (16 + t)) := by rw [← hwq]; exact hown
                      have hb8q : Below Bw wb wq := by rw [← hwq]; exact below_drewN hb8 _
                      have hszq := hb8q.size
                      have c16q : wq.cell? ⟨gw, t, none⟩ = some (.int .u32 (wordsOf bs t)) := by rw [← hwq]; exact c16
                      have c7q : wq.cell? ⟨gw, 9 + t, none⟩ = some (.int .u32 (wordsOf bs (9 + t))) := by rw [← hwq]; exact c7
                      clear c15 c2 c16 c7 hwq hown hb8 hsz8
                      have hw16 : IntKind.i64.wrap (t : Int) = t := wrap_id _ (by omega) (by omega)
                      have hw7 : IntKind.i64.wrap ((9 + t : Nat) : Int) = 9 + (t : Int) := by rw [wrap_id _ (by omega) (by omega)]; omega
                      have hw7' : IntKind.i64.wrap (9 + (t : Int)) = 9 + (t : Int) := wrap_id _ (by omega) (by omega)
                      have hl16 : (t : Int) < 16 + (t : Int) := by omega
                      have hl7 : 9 + (t : Int) < 16 + (t : Int) := by omega
                      have hn7 : 0 ≤ 9 + (t : Int) := by omega
                      have ht7 : (9 + (t : Int)).toNat = 9 + t := by omega
                      have hgwq : gw < wq.heap.size := (hownq.lt gw rfl).2
                      go_region_held3 (fun w' => w'.cell? ⟨gw, t, none⟩ = some (.int .u32 (wordsOf bs t)) ∧ w'.cell? ⟨gw, 9 + t, none⟩ = some (.int .u32 (wordsOf bs (9 + t))))
                        (first
                          | exact ⟨hold9 _ _ (wL_get _ _ _ (by omega)), hold9 _ _ (wL_get _ _ _ (by omega))⟩
                          | exact ⟨c16q, c7q⟩
                          | exact ⟨(World.cell?_alloc_past (w := World.drewN _ _) hgwq).trans c16q, (World.cell?_alloc_past (w := World.drewN _ _) hgwq).trans c7q⟩
                          | go_keep)
                        (first
                          | (go_at_call 20; refine (rturned_any _ _ (by omega) (by omega) _).mono ?_; rintro e w9 ⟨rfl, mm, rfl⟩)
                          | (refine step_append_keep (by rfl) (.tmp 102) (.tmp 132) 38 (by rfl) Bw 33 i3 (.int .u32 0) 4 Tryd.underlying38 hi3 hz30 hz31 hz32 rfl gw (16 + t) cw' (wL (wordsOf bs) (16 + t)) (by rfl) (World.ownsRow.alloc (w := World.drewN _ _) hownq _) ⟨wq.heap.size, 0, none⟩ 1 1 _ (by rfl) (by rfl) (cells_lit _ _ 33) (by intro u hu; simp at hu; subst hu; rfl) (by unfold maxLen; omega) (by omega) (by simp; omega) ?_; intro v9 w9 hown9 hgrow9 hold9))
                      go_wp2
                      go_roundw
                      case rel =>
                        refine ⟨t + 1, by omega, by go_num, ?_, ?_⟩
                        · rw [show 16 + (t + 1) = 16 + t + 1 by omega, wL_succ, unhide Hnx]
                          have hx := hown9
                          simp only [wrap_u32, Int.emod_add_emod] at hx
                          exact hx
                        · refine Below.grown (Below.alloc ?_ (by show Bw ≤ wq.heap.size; omega) _) hgrow9 (by simp; omega) (by intro b hb; cases hb; exact hgw1)
                          repeat (first | exact hb8q | refine below_drewN ?_ _ | refine Below.drew ?_)
                      case measure => simp [intOf]; omega
                    · obtain rfl : t = 48 := by omega
                      rw [show (16 : Int) + ((48 : Nat) : Int) = 64 from rfl]
                      obtain ⟨st, hst⟩ : ∃ st, st = S8.blocks kk (p2 F n) s0 k := ⟨_, rfl⟩
                      have Hst := hide hst
                      have Hrh3 := hide (show R32 wr gh 8 st.nth by rw [hst]; exact (unhide Hrh2).below hb8 (by omega))
                      have Hrk3 := hide ((unhide Hrk2).below hb8 (by omega))
                      obtain ⟨wv, hwv⟩ : ∃ wv, wv = wr := ⟨wr, rfl⟩
                      obtain ⟨Bv, hBv⟩ : ∃ Bv, Bv = wr.heap.size := ⟨_, rfl⟩
                      have hBv1 : gw < Bv := by have := hrw.lt; omega
                      have hBv2 : Bw ≤ Bv := by omega
                      have Hrw := hide hrw
                      have Hwv := hide hwv
                      have HBv := hide hBv
                      clear hst hrw hwv hBv hown
                      have hhn : ∀ j u, (wL st.nth 8)[j]? = some u → wr.cell? ((⟨gh, 0, none⟩ : Addr).add j) = some u := fun j u hu => by
                        have hadd : (⟨gh, 0, none⟩ : Addr).add j = ⟨gh, j, none⟩ := by unfold Addr.add; split <;> simp_all
                        have hj : j < 8 := by have := (List.getElem?_eq_some_iff.1 hu).1; rwa [wL_length] at this
                        rw [hadd, (unhide Hrh3).cell j hj, ← hu, wL_get _ _ _ hj]
                      have Hhn := hide hhn
                      clear hhn
                      go_wp2_with (at_builtin; refine wpList_append_own _ rfl (.tmp 134) (.tmp 135) 38 rfl wr.heap.size 33 i3 (.int .u32 0) 1 4 Tryd.underlying38 hi3 hz30 hz31 hz32 rfl (by decide) (.slice none 0 0) 0 [] rfl (World.ownsRow_nil _ _ _ _) ⟨gh, 0, none⟩ 8 ch (wL st.nth 8) rfl (wL_length _ _) (unhide Hhn) (wL_one _ _) (by decide) (by decide) (Nat.le_refl _) ?_)
                      intro v9 w9 hown9 hgrow9 _
                      obtain ⟨gv, cv9, he9, hgv1, hcv1, hcv2, hrv⟩ := R32.of_owns (F := st.nth) hown9 (by omega) (fun j hj => wL_get st.nth 8 j (by omega))
                      subst he9
                      have hb9 : Below Bv wv w9 := by
                        rw [unhide Hwv, unhide HBv]
                        exact (Below.refl _ _).grown hgrow9 (Nat.le_refl _) (by intro b hb; cases hb)
                      have hgv2 : Bv ≤ gv := by rw [unhide HBv]; exact hgv1
                      clear hown9 hgrow9 hgv1
                      go_wp2
                      go_loopw [16, 17] (fun v xi w9 => ∃ t : Nat, ∃ gv cv, t ≤ 64 ∧ xi = .int .i64 t ∧ v = .slice (some ⟨gv, 0, none⟩) 8 cv ∧ 8 ≤ cv ∧ cv ≤ maxLen ∧ Bv ≤ gv ∧ R32 w9 gv 8 (S8.run kk (wordsOf bs) st t).nth ∧ Below Bv wv w9) (fun _ i _ => 64 - (intOf i).toNat)
                      case atStart => exact ⟨0, gv, cv9, by omega, rfl, rfl, hcv1, hcv2, hgv2, hrv, hb9⟩
                      case round =>
                        clear hrv hb9 hgv2 hcv1 hcv2
                        obtain ⟨t, gv, cv9, ht, rfl, rfl, hcv1, hcv2, hgv2, hrv, hb9⟩ := hrel
                        by_cases htt : t < 64
                        · obtain ⟨s, hs⟩ : ∃ s, s = S8.run kk (wordsOf bs) st t := ⟨_, rfl⟩
                          rw [← hs] at hrv
                          have Hs := hide hs
                          clear hs
                          have c0 : wr.cell? ⟨gv, 0, none⟩ = some (.int .u32 s.a) := hrv.cell 0 (by omega)
                          have c1 : wr.cell? ⟨gv, 1, none⟩ = some (.int .u32 s.b) := hrv.cell 1 (by omega)
                          have c2 : wr.cell? ⟨gv, 2, none⟩ = some (.int .u32 s.c) := hrv.cell 2 (by omega)
                          have c3 : wr.cell? ⟨gv, 3, none⟩ = some (.int .u32 s.d) := hrv.cell 3 (by omega)
                          have c4 : wr.cell? ⟨gv, 4, none⟩ = some (.int .u32 s.e) := hrv.cell 4 (by omega)
                          have c5 : wr.cell? ⟨gv, 5, none⟩ = some (.int .u32 s.f) := hrv.cell 5 (by omega)
                          have c6 : wr.cell? ⟨gv, 6, none⟩ = some (.int .u32 s.g) := hrv.cell 6 (by omega)
                          have c7 : wr.cell? ⟨gv, 7, none⟩ = some (.int .u32 s.h) := hrv.cell 7 (by omega)
                          have ck' : wr.cell? ⟨gk1, t, none⟩ = some (.int .u32 (kk t)) := by
                            rw [hb9.cell (p := ⟨gk1, t, none⟩) (by show gk1 < Bv; omega), unhide Hwv]; exact (unhide Hrk3).cell t htt
                          have cw : wr.cell? ⟨gw, t, none⟩ = some (.int .u32 (wordsOf bs t)) := by
                            rw [hb9.cell (p := ⟨gw, t, none⟩) (by show gw < Bv; omega), unhide Hwv]; exact (unhide Hrw).cell t (by omega)
                          have hsz9 := hb9.size
                          have hBvs : Bv ≤ wr.heap.size := by have := hrv.lt; omega
                          have hgvr := hrv.lt
                          have hcs : ∀ x : World, (∀ a, x.cell? a = wr.cell? a) → x.cell? ⟨gv, 0, none⟩ = some (.int .u32 s.a) ∧ x.cell? ⟨gv, 1, none⟩ = some (.int .u32 s.b) ∧ x.cell? ⟨gv, 2, none⟩ = some (.int .u32 s.c) ∧ x.cell? ⟨gv, 3, none⟩ = some (.int .u32 s.d) ∧ x.cell? ⟨gv, 4, none⟩ = some (.int .u32 s.e) ∧ x.cell? ⟨gv, 5, none⟩ = some (.int .u32 s.f) ∧ x.cell? ⟨gv, 6, none⟩ = some (.int .u32 s.g) ∧ x.cell? ⟨gv, 7, none⟩ = some (.int .u32 s.h) ∧ x.cell? ⟨gk1, t, none⟩ = some (.int .u32 (kk t)) ∧ x.cell? ⟨gw, t, none⟩ = some (.int .u32 (wordsOf bs t)) := fun x h => ⟨(h _).trans c0, (h _).trans c1, (h _).trans c2, (h _).trans c3, (h _).trans c4, (h _).trans c5, (h _).trans c6, (h _).trans c7, (h _).trans ck', (h _).trans cw⟩
                          have Hcs := hide hcs
                          clear hrv hcs
                          go_wp2
                          go_quiet (fail)
                          go_wp2
                          obtain ⟨wq, hwq⟩ : ∃ x, x = wr.drewN nq := ⟨_, rfl⟩
                          rw [← hwq]
                          have hcwq : ∀ a, wq.cell? a = wr.cell? a := fun a => by rw [hwq]; exact rfl
                          have hbwq : Below Bv wv wq := by rw [hwq]; exact below_drewN hb9 _
                          clear c0 c1 c2 c3 c4 c5 c6 c7 ck' cw hwq
                          obtain ⟨c0, c1, c2, c3, c4, c5, c6, c7, ck', cw⟩ := unhide Hcs wq hcwq
                          have Hcwq := hide hcwq
                          clear hcwq
                          go_quiet ((go_at_call 20; exact Calls.quiet_of (rturned_any _ _ (by omega) (by omega) _)))
                          go_wp2
                          obtain ⟨wq2, hwq2⟩ : ∃ x, x = wq.drewN nq := ⟨_, rfl⟩
                          rw [← hwq2]
                          have hcwq2 : ∀ a, wq2.cell? a = wr.cell? a := fun a => by rw [hwq2]; exact unhide Hcwq a
                          have hbwq2 : Below Bv wv wq2 := by rw [hwq2]; exact below_drewN hbwq _
                          clear c0 c1 c2 c3 c4 c5 c6 c7 ck' cw hwq2
                          obtain ⟨c0, c1, c2, c3, c4, c5, c6, c7, ck', cw⟩ := unhide Hcs wq2 hcwq2
                          have Hcwq2 := hide hcwq2
                          clear hcwq2
                          go_quiet ((go_at_call 20; exact Calls.quiet_of (rturned_any _ _ (by omega) (by omega) _)))
                          go_wp2
                          obtain ⟨wq3, hwq3⟩ : ∃ x, x = wq2.drewN nq := ⟨_, rfl⟩
                          rw [← hwq3]
                          have hcwq3 : ∀ a, wq3.cell? a = wr.cell? a := fun a => by rw [hwq3]; exact unhide Hcwq2 a
                          have hbwq3 : Below Bv wv wq3 := by rw [hwq3]; exact below_drewN hbwq2 _
                          clear c0 c1 c2 c3 c4 c5 c6 c7 ck' cw hwq3
                          obtain ⟨c0, c1, c2, c3, c4, c5, c6, c7, ck', cw⟩ := unhide Hcs wq3 hcwq3
                          have Hcwq3 := hide hcwq3
                          clear hcwq3
                          have hgvl : gv < wq3.heap.size := World.block_lt_of_cell? wq3 _ c0
                          have hBq3 : Bv ≤ wq3.heap.size := by omega
                          have hgvq : gv < wq3.drew.heap.size := hgvl
                          go_region_held3 (fun w' => w'.cell? ⟨gv, 0, none⟩ = some (.int .u32 s.a) ∧ w'.cell? ⟨gv, 1, none⟩ = some (.int .u32 s.b) ∧ w'.cell? ⟨gv, 2, none⟩ = some (.int .u32 s.c) ∧ w'.cell? ⟨gv, 3, none⟩ = some (.int .u32 s.d) ∧ w'.cell? ⟨gv, 4, none⟩ = some (.int .u32 s.e) ∧ w'.cell? ⟨gv, 5, none⟩ = some (.int .u32 s.f) ∧ w'.cell? ⟨gv, 6, none⟩ = some (.int .u32 s.g))
                            (first
                              | exact ⟨c0, c1, c2, c3, c4, c5, c6⟩
                              | exact ⟨(World.cell?_alloc_past _ _ _ _ hgvq).trans c0, (World.cell?_alloc_past _ _ _ _ hgvq).trans c1, (World.cell?_alloc_past _ _ _ _ hgvq).trans c2, (World.cell?_alloc_past _ _ _ _ hgvq).trans c3, (World.cell?_alloc_past _ _ _ _ hgvq).trans c4, (World.cell?_alloc_past _ _ _ _ hgvq).trans c5, (World.cell?_alloc_past _ _ _ _ hgvq).trans c6⟩
                              | go_keep)
                            (fail)
                          go_wp2
                          go_roundw
                          case rel =>
                            refine ⟨t + 1, _, _, by omega, by go_num, rfl, by omega, by unfold maxLen; omega, ?_, ?_, ?_⟩
                            · show Bv ≤ wq3.heap.size; exact hBq3
                            · rw [S8.run, ← unhide Hs]
                              first | exact r32_vals wq3.drew (s.step (kk t) (wordsOf bs t)) | exact (r32_vals wq3 (s.step (kk t) (wordsOf bs t))).drew
                            · repeat (first | exact hbwq3 | refine below_drewN ?_ _ | refine Below.drew ?_ | refine Below.alloc ?_ hBq3 _)
                          case measure => simp [intOf]; omega
                        · obtain rfl : t = 64 := by omega
                          rw [show ((64 : Nat) : Int) = 64 from rfl]
                          obtain ⟨r, hr⟩ : ∃ r, r = S8.run kk (wordsOf bs) st 64 := ⟨_, rfl⟩
                          rw [← hr] at hrv
                          have Hr := hide hr
                          clear hr
                          have hB1 : Below w.heap.size w wv := by rw [unhide Hwv]; exact hbelb.trans (hb8.mono (by have := hbelb.size; omega))
                          go_wp2
                          go_loopw [23] (fun xi w8 => ∃ i : Nat, i ≤ 8 ∧ xi = .int .i64 i ∧ R32 w8 gh 8 (fun j => if j < i then (st.nth j + r.nth j) % 4294967296 else st.nth j) ∧ R32 w8 gv 8 r.nth ∧ R32 w8 gk1 64 kk ∧ (∀ j : Nat, j < m + 8 → w8.cell? ⟨gm, j, none⟩ = some (.int .u8 (p2 F n j))) ∧ Below w.heap.size w w8) (fun i _ => 8 - (intOf i).toNat)
                          case atStart =>
                            refine ⟨0, by omega, rfl, ?_, hrv, ?_, fun j hj => ?_, hB1.trans (hb9.mono (by have := hbelb.size; omega))⟩
                            · refine R32.congr (F := st.nth) ?_ (fun j _ => by simp)
                              have := unhide Hrh3
                              rw [← unhide Hwv] at this
                              exact this.below hb9 (by omega)
                            · have := unhide Hrk3
                              rw [← unhide Hwv] at this
                              exact this.below hb9 (by omega)
                            · rw [hb9.cell (p := ⟨gm, j, none⟩) (by show gm < Bv; omega), unhide Hwv, hb8.cell (p := ⟨gm, j, none⟩) (by show gm < Bw; omega), unhide Hwb]
                              exact unhide HM j hj
                          case round =>
                            clear hrv hb9
                            obtain ⟨i, hi, rfl, h1, h2, h3, h4, h5⟩ := hrel
                            by_cases hit : i < 8
                            · have d1 := h1.cell i hit
                              rw [if_neg (Nat.lt_irrefl i)] at d1
                              have d2 := h2.cell i hit
                              have d3 := h1.frozen i
                              have H1 := hide h1
                              have H2 := hide h2
                              have H3 := hide h3
                              have H4 := hide h4
                              clear h1 h2 h3 h4
                              go_wp2
                              go_region
                              all_goals go_wp2
                              all_goals go_roundw
                              all_goals first
                                | (simp [intOf]; omega; done)
                                | (refine ⟨i + 1, by omega, by go_num, ?_, R32.other (unhide H2).drew (by omega) _, R32.other (unhide H3).drew (by omega) _, fun j hj => ?_, h5.drew.setCell (by show w.heap.size ≤ gh; omega) _⟩
                                   · refine R32.congr (R32.set (unhide H1).drew i hit _) (fun j hj => ?_)
                                     by_cases e : j = i
                                     · subst e; simp
                                     · have e2 : (j < i + 1) ↔ (j < i) := by omega
                                       simp [e, e2]
                                   · have := unhide H4 j hj
                                     have hne : gm ≠ gh := by omega
                                     simp [go_sem, this])
                            · obtain rfl : i = 8 := by omega
                              have H1 := hide h1
                              have H4 := hide h4
                              clear h1 h4
                              go_wp2
                              go_roundw
                              case rel =>
                                refine ⟨k + 1, by omega, by go_num, ?_, h3, unhide H4, h5⟩
                                refine R32.congr (unhide H1) (fun j hj => ?_)
                                rw [if_pos hj]
                                show _ = ((S8.blocks kk (p2 F n) s0 k).mix kk (wordsOf fun i => p2 F n (64 * k + i))).nth j
                                rw [← unhide Hst, ← unhide Hbsd, S8.mix, S8.add_nth, ← unhide Hr]
                              case measure => simp [intOf]; omega
            · obtain rfl : k = nb := by omega
              have hkI : ¬ 64 * (k : Int) < (m : Int) + 8 := by omega
              obtain ⟨sf, hsf⟩ : ∃ sf, sf = S8.blocks kk (p2 F n) s0 k := ⟨_, rfl⟩
              obtain ⟨wo, hwo⟩ : ∃ wo, wo = wr := ⟨wr, rfl⟩
              obtain ⟨Bo, hBo⟩ : ∃ Bo, Bo = wr.heap.size := ⟨_, rfl⟩
              have hro := hide (show R32 wo gh 8 sf.nth by rw [hsf, hwo]; exact unhide Hrh)
              have hBo1 : gh < Bo := by rw [hBo]; exact (unhide Hrh).lt
              have hBo2 : w.heap.size ≤ Bo := by have := hbel.size; omega
              have hBo3 : Bo ≤ wo.heap.size := by rw [hBo, hwo]; exact Nat.le_refl _
              have Hsf := hide hsf
              have Hwo := hide hwo
              clear hsf hwo hBo
              go_wp2
              go_loopw [24, 25] (fun v xi w8 => ∃ i : Nat, i ≤ 8 ∧ xi = .int .i64 i ∧ w8.ownsRow Bo 5 1 v (4 * i) (bL sf.byte (4 * i)) ∧ Below Bo wo w8) (fun _ i _ => 8 - (intOf i).toNat)
              case atStart => exact ⟨0, by omega, rfl, World.ownsRow_nil _ _ _ _, by rw [unhide Hwo]; exact Below.refl _ _⟩
              case round => as_aux_lemma =>
                obtain ⟨i, hi, rfl, hown, hb8⟩ := hrel
                obtain ⟨aw, cw, rfl⟩ := owns_len hown
                by_cases hit : i < 8
                · have hiI : (i : Int) < 8 := by omega
                  go_wp2
                  go_loopw [24, 26] (fun v xq w9 => ∃ q : Nat, q ≤ 4 ∧ xq = .int .i64 (3 - (q : Int)) ∧ w9.ownsRow Bo 5 1 v (4 * i + q) (bL sf.byte (4 * i + q)) ∧ Below Bo wo w9) (fun _ q _ => (intOf q + 1).toNat)
                  case atStart => exact ⟨0, by omega, rfl, hown, hb8⟩
                  case round =>
                    clear hown hb8
                    obtain ⟨q, hq, rfl, hown, hb8⟩ := hrel
                    obtain ⟨aw, cw, rfl⟩ := owns_len hown
                    by_cases hqt : q < 4
                    · have e1 : (8 * (3 - (q : Int))).toNat = 8 * (3 - q) := by omega
                      have e2 : min (8 * (3 - q)) 32 = 8 * (3 - q) := by omega
                      have ch' : wr.cell? ⟨gh, i, none⟩ = some (.int .u32 (sf.nth i)) := by
                        rw [hb8.cell (p := ⟨gh, i, none⟩) hBo1]; exact (unhide hro).cell i hit
                      have hsz8 := hb8.size
                      go_wp2_with (at_builtin; refine wpList_append_own _ rfl (.tmp 260) (.tmp 269) 22 rfl Bo 5 i5 (.int .u8 0) 1 1 Tryd.underlying22 hi5 hz50 hz51 hz52 rfl (by decide) _ (4 * i + q) _ rfl (hown.alloc _) ⟨wr.heap.size, 0, none⟩ 1 1 [.int .u8 (sf.nth i / 2 ^ (8 * (3 - q)) % 256)] rfl rfl (cells_lit _ _ 5) (by intro u hu; simp at hu; subst hu; rfl) (by unfold maxLen; omega) (by omega) (by simp; omega) ?_)
                      intro v5 w5 hown5 hgrow5 _
                      go_wp2
                      go_roundw
                      case rel =>
                        refine ⟨q + 1, by omega, by go_num, ?_, (hb8.alloc (by omega) _).grown hgrow5 (by simp; omega) (fun b hb => (hown.lt b hb).1)⟩
                        rw [show 4 * i + (q + 1) = 4 * i + q + 1 by omega, bL_succ, byte_shift sf i q hqt]
                        exact hown5
                      case measure => simp [intOf]; omega
                    · obtain rfl : q = 4 := by omega
                      go_wp2
                      go_roundw
                      case rel => exact ⟨i + 1, by omega, by go_num, by rw [show 4 * (i + 1) = 4 * i + 4 by omega]; exact hown, hb8⟩
                      case measure => simp [intOf]; omega
                · obtain rfl : i = 8 := by omega
                  have hall : S8.blocks kk (p2 F n) s0 k = shaS s0 kk F n := blocks_sha F n k (by have := unhide Hme; have := unhide Hnb; omega)
                  go_wp2
                  go_ret
                  refine ⟨_, rfl, ?_, ?_⟩
                  · rw [← hall, ← unhide Hsf]
                    exact owns_mono hown hBo2
                  · have hx : Below w.heap.size w wo := by rw [unhide Hwo]; exact hbel
                    exact hx.trans (hb8.mono hBo2)
    · have hmI : ((m : Int) % 64 != 56) = true := by simp; omega
      have hlt := lp_next n m hm1 (by omega) hm
      go_wp2_with (at_builtin; refine wpList_append_own _ rfl (.tmp 36) (.tmp 37) 22 rfl w.heap.size 5 i5 (.int .u8 0) 1 1 Tryd.underlying22 hi5 hz50 hz51 hz52 rfl (by decide) _ m _ rfl (hown.alloc _) ⟨wr.heap.size, 0, none⟩ 1 1 [.int .u8 0] rfl rfl (cells_lit _ _ 5) (by intro u hu; simp at hu; subst hu; rfl) (by unfold maxLen; omega) (by omega) (by have := hbel.size; simp; omega) ?_)
      intro v4 w4 hown4 hgrow4 _
      go_wp2
      go_roundg (gk - 1)
      case measure => omega
      case rel =>
        refine ⟨m + 1, by omega, by omega, ?_, (hbel.alloc hbel.size _).grown hgrow4 (by have := hbel.size; simp; omega) (fun b hb => (hown.lt b hb).1)⟩
        rw [bL_succ, show p1 F n m = 0 by unfold p1; rw [if_neg (by omega), if_neg (by omega)]]
        exact hown4
end Go.Proofs.YtaojifgbnllebaaDoor
