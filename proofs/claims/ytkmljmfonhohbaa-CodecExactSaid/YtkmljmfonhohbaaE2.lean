/- Walk of CodecExact. -/
import Derived.Test.YtkmljmfonhohbaaE1
import Derived.Deep.CutBlock
namespace Go.Proofs.Ytkmljmfonhohbaa
open Go.RowKit

set_option maxRecDepth 100000 in
set_option maxHeartbeats 4000000 in
theorem exact_any (F G : Nat → Int) (p q : Option Addr) (m k cb cl : Nat) (s n a : Int) (w : World) (hb : Sl .u8 w (.slice p m cb) m F) (hf : ∀ i, i < m → 0 ≤ F i ∧ F i < 256) (hl : Sl .i64 w (.slice q k cl) k G) (hm : m ≤ 600) (hk : k ≤ 300) :
    Calls Try.prog 3 #[.slice p m cb, .int .i64 s, .int .i64 n, .int .i64 a, .slice q k cl] w fun e w' => e = .returned (.bool true) ∧ Below w.heap.size w w' := by
  have d1 : decide ((600 : Int) < (m : Int)) = false := decide_eq_false (by omega)
  have d2 : decide ((300 : Int) < (k : Int)) = false := decide_eq_false (by omega)
  have HF := hide hf
  have SB := hide hb
  have SL := hide hl
  have B0 := hide (Below.refl w.heap.size w)
  clear hb hl hf
  obtain ⟨i5, hi, hz0, hz1, hz2⟩ := info_parts info5
  obtain ⟨nb, HNB⟩ : ∃ nb : Bool, Hid (nb = !decide (IsZ s ∧ IsNum s n)) := ⟨_, hide rfl⟩
  obtain ⟨Y, HY⟩ : ∃ Y, Hid (gy F m a s = Y) := ⟨_, hide rfl⟩
  obtain ⟨NX, HNX⟩ : ∃ Y, Hid (gn F m a s = Y) := ⟨_, hide rfl⟩
  obtain ⟨FF, HFF⟩ : ∃ Y, Hid (gf F m a s = Y) := ⟨_, hide rfl⟩
  have c10 : Hid (∀ v w, Sl .u8 w v m F → Calls Try.prog 10 #[v, .int .i64 a, .int .i64 s] w fun e w' => e = .returned (.tuple #[.int .i64 Y, .int .i64 NX, .int .i64 FF]) ∧ w' = w) := by
    refine hide fun v w h => ?_
    rw [← unhide HY, ← unhide HNX, ← unhide HFF]
    exact get_all F v m a s w h (unhide HF) (by omega)
  go_enter Try.func3, Try.ntmps3
  go_upto_region 10 with (first
    | (go_at_call 7; refine (twin_any F _ m _ (unhide SB) (by omega)).mono ?_; rintro e w1 ⟨v1, rfl, o1, b1⟩; have S1 := hide (sl_of_owns o1); replace SB := hide ((unhide SB).below b1 (Nat.le_refl _)); replace SL := hide ((unhide SL).below b1 (Nat.le_refl _)); replace B0 := hide (below_of (unhide B0) b1); clear o1 b1)
    | (go_at_call 8; refine (twinInts_any G _ k _ (unhide SL) (by omega)).mono ?_; rintro e w2 ⟨v2, rfl, o1, b1⟩; have S2 := hide (sl_of_owns o1); replace S1 := hide ((unhide S1).below b1 (Nat.le_refl _)); replace SB := hide ((unhide SB).below b1 (Nat.le_refl _)); replace SL := hide ((unhide SL).below b1 (Nat.le_refl _)); replace B0 := hide (below_of (unhide B0) b1); clear o1 b1)
    | (go_at_call 9; refine (put_all F _ m s n _ (unhide S1) (by omega)).mono ?_; rintro e w3 ⟨x, c, rfl, o1, b1⟩; have XP := hide o1; replace S1 := hide ((unhide S1).below b1 (Nat.le_refl _)); replace S2 := hide ((unhide S2).below b1 (Nat.le_refl _)); replace SB := hide ((unhide SB).below b1 (Nat.le_refl _)); replace SL := hide ((unhide SL).below b1 (Nat.le_refl _)); replace B0 := hide (below_of (unhide B0) b1); clear o1 b1)
    | (go_at_call 10; refine (unhide c10 _ _ (unhide S1)).mono ?_; rintro e wx ⟨rfl, hw⟩; obtain rfl := hw.symm)
    | (go_at_call 11; refine (putl_all F G _ _ m k _ (unhide S1) (unhide S2) (by omega)).mono ?_; rintro e w4 ⟨z, cz, rfl, o1, b1⟩; have XL := hide o1; replace XP := hide ((unhide XP).below b1); replace S1 := hide ((unhide S1).below b1 (Nat.le_refl _)); replace S2 := hide ((unhide S2).below b1 (Nat.le_refl _)); replace SB := hide ((unhide SB).below b1 (Nat.le_refl _)); replace SL := hide ((unhide SL).below b1 (Nat.le_refl _)); replace B0 := hide (below_of (unhide B0) b1); clear o1 b1)
    | (go_at_call 12; refine (getl_all F _ m a _ (unhide S1) (unhide HF) (by omega)).mono ?_; rintro e w5 ⟨y, ty, cy, rfl, o1, b1⟩; have XG := hide o1; replace XP := hide ((unhide XP).below b1); replace XL := hide ((unhide XL).below b1); replace S1 := hide ((unhide S1).below b1 (Nat.le_refl _)); replace S2 := hide ((unhide S2).below b1 (Nat.le_refl _)); replace SB := hide ((unhide SB).below b1 (Nat.le_refl _)); replace SL := hide ((unhide SL).below b1 (Nat.le_refl _)); replace B0 := hide (below_of (unhide B0) b1); clear o1 b1)
    | (go_at_call 13; refine (bytes_b F _ _ m _ (unhide S1) (unhide SB)).mono ?_; rintro e w6 ⟨rfl, b1⟩; replace XP := hide ((unhide XP).below b1); replace XL := hide ((unhide XL).below b1); replace XG := hide ((unhide XG).below b1); replace S2 := hide ((unhide S2).below b1 (Nat.le_refl _)); replace SB := hide ((unhide SB).below b1 (Nat.le_refl _)); replace SL := hide ((unhide SL).below b1 (Nat.le_refl _)); replace B0 := hide (below_of (unhide B0) b1); clear b1)
    | (go_at_call 14; refine (ints_b G _ _ k _ (unhide S2) (unhide SL)).mono ?_; rintro e w7 ⟨rfl, b1⟩; replace XP := hide ((unhide XP).below b1); replace XL := hide ((unhide XL).below b1); replace XG := hide ((unhide XG).below b1); replace SB := hide ((unhide SB).below b1 (Nat.le_refl _)); replace SL := hide ((unhide SL).below b1 (Nat.le_refl _)); replace B0 := hide (below_of (unhide B0) b1); clear b1))
  go_cut [89] (fun xb wc => xb = .bool nb ∧ wc = w7)
  case first => as_aux_lemma =>
    by_cases hz : IsZ s
    · by_cases hn : IsNum s n
      · have c1 := hide (size_t s hz)
        have c2 := hide (fits16_t s n hz hn)
        have E : Hid (nb = false) := hide (by rw [unhide HNB]; simp [hz, hn])
        clear hz hn
        go_wp2_with (first
          | (go_at_call 15; refine (unhide c1 _).mono ?_; rintro e wx ⟨rfl, hw⟩; obtain rfl := hw.symm)
          | (go_at_call 16; refine (unhide c2 _).mono ?_; rintro e wx ⟨rfl, hw⟩; obtain rfl := hw.symm))
        go_meet
        exact ⟨by rw [unhide E], rfl⟩
      · have c1 := hide (size_t s hz)
        have c2 := hide (fits16_f s n hz hn)
        have E : Hid (nb = true) := hide (by rw [unhide HNB]; simp [hn])
        clear hz hn
        go_wp2_with (first
          | (go_at_call 15; refine (unhide c1 _).mono ?_; rintro e wx ⟨rfl, hw⟩; obtain rfl := hw.symm)
          | (go_at_call 16; refine (unhide c2 _).mono ?_; rintro e wx ⟨rfl, hw⟩; obtain rfl := hw.symm))
        go_meet
        exact ⟨by rw [unhide E], rfl⟩
    · have c1 := hide (size_f s hz)
      have E : Hid (nb = true) := hide (by rw [unhide HNB]; simp [hz])
      clear hz
      go_wp2_with (go_at_call 15; refine (unhide c1 _).mono ?_; rintro e wx ⟨rfl, hw⟩; obtain rfl := hw.symm)
      go_meet
      exact ⟨by rw [unhide E], rfl⟩
  case rest => as_aux_lemma =>
    obtain ⟨rfl, hw7⟩ := hcut
    obtain rfl := hw7.symm
    go_upto_if 89 with fail
    go_cut [] (fun wc => Below w7.heap.size w7 wc)
    case first => as_aux_lemma =>
      rcases unhide XP with ⟨h, rfl, rfl⟩ | ⟨S, rfl, hs, hn, rfl, hx⟩
      · obtain rfl : nb = true := by rw [unhide HNB]; simp [h]
        clear h
        go_wp2
        go_meet
        exact Below.refl _ _
      · obtain rfl : nb = false := by rw [unhide HNB]; simp [hs, hn]
        have hS : 1 ≤ S ∧ S ≤ 8 := by rcases hs with h | h | h | h <;> omega
        have hn2 := (lim_le S hs n hn.2).2
        have c17 := hide (refBytes_is S n hS hn.1 (by omega))
        have HX := hide hx
        clear hx hs hn hn2 XP HNB
        go_wp2_with (first
          | (go_at_call 7; refine (twin_any F _ m _ (unhide SB) (by omega)).mono ?_; rintro e w8 ⟨v8, rfl, o1, b1⟩; have O8 := hide o1; have B8 := hide b1; clear o1 b1)
          | (go_at_call 17; refine (unhide c17 _).mono ?_; rintro e w9 ⟨rfl, o1, b1⟩; have O9 := hide o1; replace O8 := hide (owns_below (unhide O8) b1); replace B8 := hide (below_of (unhide B8) b1); clear o1 b1)
          | (at_builtin; refine wpList_append_own_g (by simp [Region.wanted, yielded]) (.tmp 102) (.tmp 105) 22 rfl w7.heap.size 5 i5 (.int .u8 0) 1 Try.underlying22 hi hz0 hz1 hz2 rfl v8 m (vL .u8 F m) rfl (unhide O8) ⟨w8.heap.size, 0, none⟩ S S (vL .u8 (bF S n 0) S) rfl (by rw [vL_length]; omega) (fun j u hu => (sl_of_owns (unhide O9)).cells.2 _ rfl j u hu) (vL_one _ _ _) (by unfold maxLen; omega) (by omega) (unhide B8).size ?_; intro v10 w10 o10 g10; rw [vL_put] at o10; have O10 := hide (sl_of_owns o10); replace B8 := hide ((unhide B8).grown g10 (unhide B8).size (fun b hb => ((unhide O8).lt b hb).1)); clear o10 g10)
          | (go_at_call 13; refine (bytes_b _ _ _ _ _ ((unhide HX).below (unhide B8) (Nat.le_refl _)) (unhide O10)).mono ?_; rintro e w11 ⟨rfl, b1⟩; replace B8 := hide (below_of (unhide B8) b1); clear b1))
        go_meet
        exact unhide B8
    case rest => as_aux_lemma =>
      replace B0 := hide (below_of (unhide B0) hcut)
      replace XL := hide ((unhide XL).below hcut)
      replace XG := hide ((unhide XG).below hcut)
      replace SB := hide ((unhide SB).below hcut (Nat.le_refl _))
      replace SL := hide ((unhide SL).below hcut (Nat.le_refl _))
      obtain ⟨w8, hw8⟩ : ∃ x, x = wc := ⟨_, rfl⟩
      rw [← hw8] at hcut B0 XL XG SB SL ⊢
      clear hcut XP HNB S1 S2 hw8 hw7
      go_upto_region 15 with fail
      clear c10
      go_upto_block 0 with fail
      go_cut [23, 24, 25] (fun xw xy xp wc => xw = .int .i64 Y ∧ xy = .int .i64 FF ∧ xp = .int .i64 NX ∧ wc = w8)
      case first => as_aux_lemma =>
        by_cases hz : IsZ s
        · have c15 := hide (size_t s hz)
          have c18 := hide (here_any p m cb a s (by unfold maxLen; omega) (by rcases hz with h | h | h | h <;> omega))
          by_cases hh : Here m a s
          · rw [decide_eq_true hh] at c18
            obtain ⟨S, rfl⟩ : ∃ S : Nat, s = S := ⟨s.toNat, by rcases hz with h | h | h | h <;> omega⟩
            obtain ⟨A, rfl⟩ : ∃ A : Nat, a = A := ⟨a.toNat, by have := hh.1; omega⟩
            have hS : 1 ≤ S ∧ S ≤ 8 := by rcases hz with h | h | h | h <;> omega
            have hA : A + S ≤ m := by have := hh.2; omega
            obtain ⟨p', cap', hp', hcap, hcap2⟩ := (unhide SB).shape
            cases hp'
            obtain ⟨bb, off, rfl, hbb, hcell⟩ := (unhide SB).some (by omega)
            have hsl : Sl .u8 w8 (.slice (some ⟨bb, off + A, none⟩) S (cb - A)) S (fun i => F (A + i)) := .inr ⟨bb, off + A, cb - A, rfl, by omega, by omega, hbb, fun i hi => by rw [Nat.add_assoc]; exact hcell (A + i) (by omega)⟩
            have hfa : ∀ i, i < S → 0 ≤ F (A + i) ∧ F (A + i) < 256 := fun i hi => unhide HF (A + i) (by omega)
            have hsub : A + S - A = S := by omega
            have hne : ¬ cb = A := by omega
            have hne2 : ¬ cb - A = 0 := by omega
            unfold maxLen at hcap2
            by_cases hx : num F A S < 4611686018427387904
            · have c19 := hide (number_t _ _ S w8 hsl hfa (by omega) (by rw [num_shift]; exact hx))
              rw [num_shift] at c19
              have EF : Hid (FF = 0) := hide (by rw [← unhide HFF, gf, if_pos hz, if_pos hh]; simp [hx])
              have EY : Hid (Y = num F A S) := hide (by rw [← unhide HY, gy, unhide HFF, unhide EF]; simp)
              have EN : Hid (NX = (A : Int) + S) := hide (by rw [← unhide HNX, gn, unhide HFF, unhide EF]; simp)
              clear hcell hsl hfa hx hh hz HF HY HNX HFF
              generalize num F A S = y at *
              go_wp2_with (first
                | (go_at_call 15; refine (unhide c15 _).mono ?_; rintro e wx ⟨rfl, hw⟩; obtain rfl := hw.symm)
                | (go_at_call 18; refine (unhide c18 _).mono ?_; rintro e wx ⟨rfl, hw⟩; obtain rfl := hw.symm)
                | (go_at_call 19; refine (unhide c19).mono ?_; rintro e wx ⟨rfl, hw⟩; obtain rfl := hw.symm))
              go_meet
              exact ⟨by rw [unhide EY], by rw [unhide EF], by rw [unhide EN], rfl⟩
            · have c19 := hide (number_f _ _ S w8 hsl hfa (by omega) (by rw [num_shift]; omega))
              have EF : Hid (FF = 1) := hide (by rw [← unhide HFF, gf, if_pos hz, if_pos hh]; simp [hx])
              have EY : Hid (Y = 0) := hide (by rw [← unhide HY, gy, unhide HFF, unhide EF]; simp)
              have EN : Hid (NX = 0) := hide (by rw [← unhide HNX, gn, unhide HFF, unhide EF]; simp)
              clear hcell hsl hfa hx hh hz HF HY HNX HFF
              go_wp2_with (first
                | (go_at_call 15; refine (unhide c15 _).mono ?_; rintro e wx ⟨rfl, hw⟩; obtain rfl := hw.symm)
                | (go_at_call 18; refine (unhide c18 _).mono ?_; rintro e wx ⟨rfl, hw⟩; obtain rfl := hw.symm)
                | (go_at_call 19; refine (unhide c19).mono ?_; rintro e wx ⟨rfl, hw⟩; obtain rfl := hw.symm))
              go_meet
              exact ⟨by rw [unhide EY], by rw [unhide EF], by rw [unhide EN], rfl⟩
          · rw [decide_eq_false hh] at c18
            have EF : Hid (FF = 2) := hide (by rw [← unhide HFF, gf, if_pos hz, if_neg hh])
            have EY : Hid (Y = 0) := hide (by rw [← unhide HY, gy, unhide HFF, unhide EF]; simp)
            have EN : Hid (NX = 0) := hide (by rw [← unhide HNX, gn, unhide HFF, unhide EF]; simp)
            clear hh hz HF HY HNX HFF
            go_wp2_with (first
                | (go_at_call 15; refine (unhide c15 _).mono ?_; rintro e wx ⟨rfl, hw⟩; obtain rfl := hw.symm)
                | (go_at_call 18; refine (unhide c18 _).mono ?_; rintro e wx ⟨rfl, hw⟩; obtain rfl := hw.symm))
            go_meet
            exact ⟨by rw [unhide EY], by rw [unhide EF], by rw [unhide EN], rfl⟩
        · have c15 := hide (size_f s hz)
          have EF : Hid (FF = 1) := hide (by rw [← unhide HFF, gf, if_neg hz])
          have EY : Hid (Y = 0) := hide (by rw [← unhide HY, gy, unhide HFF, unhide EF]; simp)
          have EN : Hid (NX = 0) := hide (by rw [← unhide HNX, gn, unhide HFF, unhide EF]; simp)
          clear hz HF HY HNX HFF
          go_wp2_with (go_at_call 15; refine (unhide c15 _).mono ?_; rintro e wx ⟨rfl, hw⟩; obtain rfl := hw.symm)
          go_meet
          exact ⟨by rw [unhide EY], by rw [unhide EF], by rw [unhide EN], rfl⟩
      case rest => as_aux_lemma =>
        obtain ⟨rfl, rfl, rfl, hw9⟩ := hcut
        obtain rfl := hw9.symm
        clear HY HNX HFF
        go_upto_block 1 with (first
          | (go_at_call 7; refine (twin_any F _ m _ (unhide SB) (by omega)).mono ?_; rintro e w9 ⟨v9, rfl, o1, b1⟩; have O9 := hide o1; have B9 := hide b1; clear o1 b1)
          | (at_builtin; refine wpList_append_own _ rfl (.tmp 149) (.tmp 154) 22 rfl w8.heap.size 5 i5 (.int .u8 0) 1 1 Try.underlying22 hi hz0 hz1 hz2 rfl (by decide) v9 m (vL .u8 F m) rfl ((unhide O9).alloc _) ⟨w9.heap.size, 0, none⟩ 1 1 [.int .u8 ((k : Int) % 256)] rfl rfl (cells_lit w9 [.int .u8 ((k : Int) % 256)] 5) (by intro u hu; simp at hu; subst hu; rfl) (by unfold maxLen; omega) (by omega) (by have := (unhide B9).size; simp; omega) ?_; intro v10 w10 o10 g10 _; rw [lstF_start F G] at o10; have O10 := hide o10; replace B9 := hide (((unhide B9).alloc (unhide B9).size _).grown g10 (by have := (unhide B9).size; simp; omega) (fun b hb => ((unhide O9).lt b hb).1)); clear o10 g10))
        go_cut [24, 28] (fun xw xl wc => xw = .int .i64 (wy G k) ∧ Sl .u8 wc xl (m + 1 + k) (lstF F m k G) ∧ Below w8.heap.size w8 wc)
        case first => as_aux_lemma =>
          clear XL XG SB B0
          go_wp2
          go_loopw [24, 28, 29] (fun xw xl xi w2 => ∃ j : Nat, j ≤ k ∧ xi = .int .i64 j ∧ xw = .int .i64 (wy G j) ∧ w2.ownsRow w8.heap.size 5 1 xl (m + 1 + j) (vL .u8 (lstF F m k G) (m + 1 + j)) ∧ Below w8.heap.size w8 w2) (fun _ _ i _ => k - (intOf i).toNat)
          case atStart => exact ⟨0, by omega, rfl, rfl, unhide O10, unhide B9⟩
          case round =>
            clear O10 B9 O9
            obtain ⟨j, hj, rfl, rfl, hown, hbel⟩ := hrel
            by_cases hlt : j < k
            · obtain ⟨bq, oq, rfl, hbq, hcell⟩ := (unhide SL).some (by omega)
              have hgj := hcell j hlt
              have hck : wr.cell? ⟨bq, oq + j, none⟩ = some (.int .i64 (G j)) := (hbel.cell (p := ⟨bq, oq + j, none⟩) hbq).trans hgj
              have HGJ := hide hgj
              have HLN := hide (lstF_next F G m k j)
              have HWY : Hid (wy G (j + 1) = if IsB (G j) then wy G j else 1) := hide rfl
              have c20 := hide (in_any (G j) 0 255)
              clear hcell hgj
              by_cases hB : IsB (G j)
              · rw [decide_eq_true (show 0 ≤ G j ∧ G j ≤ 255 from hB)] at c20
                rw [if_pos hB] at HWY
                clear hB
                generalize G j = gj at *
                generalize wy G j = wj at *
                go_wp2_with (first
                  | (at_builtin; refine wpList_append_own _ rfl (.tmp 162) (.tmp 168) 22 rfl w8.heap.size 5 i5 (.int .u8 0) 1 1 Try.underlying22 hi hz0 hz1 hz2 rfl (by decide) _ (m + 1 + j) (vL .u8 (lstF F m k G) (m + 1 + j)) rfl (hown.alloc _) ⟨wr.heap.size, 0, none⟩ 1 1 [.int .u8 (gj % 256)] rfl rfl (cells_lit wr [.int .u8 (gj % 256)] 5) (by intro u hu; simp at hu; subst hu; rfl) (by unfold maxLen; omega) (by omega) (by have := hbel.size; simp; omega) ?_; intro v2 w2 hown2 hgrow2 _; rw [unhide HLN] at hown2; replace hbel := (hbel.alloc hbel.size _).grown hgrow2 (by have := hbel.size; simp; omega) (fun b hb => (hown.lt b hb).1); replace hck : w2.cell? ⟨bq, oq + j, none⟩ = some (.int .i64 gj) := (hbel.cell (p := ⟨bq, oq + j, none⟩) hbq).trans (unhide HGJ); clear hown hgrow2; have hown := hown2; clear hown2)
                  | (go_at_call 20; refine (unhide c20 _).mono ?_; rintro e wx ⟨rfl, hw⟩; obtain rfl := hw.symm))
                go_roundw
                case rel => exact ⟨j + 1, by omega, by go_num, by rw [unhide HWY], hown, hbel⟩
                case measure => simp [intOf]; omega
              · rw [decide_eq_false (show ¬ (0 ≤ G j ∧ G j ≤ 255) from hB)] at c20
                rw [if_neg hB] at HWY
                clear hB
                generalize G j = gj at *
                generalize wy G j = wj at *
                go_wp2_with (first
                  | (at_builtin; refine wpList_append_own _ rfl (.tmp 162) (.tmp 168) 22 rfl w8.heap.size 5 i5 (.int .u8 0) 1 1 Try.underlying22 hi hz0 hz1 hz2 rfl (by decide) _ (m + 1 + j) (vL .u8 (lstF F m k G) (m + 1 + j)) rfl (hown.alloc _) ⟨wr.heap.size, 0, none⟩ 1 1 [.int .u8 (gj % 256)] rfl rfl (cells_lit wr [.int .u8 (gj % 256)] 5) (by intro u hu; simp at hu; subst hu; rfl) (by unfold maxLen; omega) (by omega) (by have := hbel.size; simp; omega) ?_; intro v2 w2 hown2 hgrow2 _; rw [unhide HLN] at hown2; replace hbel := (hbel.alloc hbel.size _).grown hgrow2 (by have := hbel.size; simp; omega) (fun b hb => (hown.lt b hb).1); replace hck : w2.cell? ⟨bq, oq + j, none⟩ = some (.int .i64 gj) := (hbel.cell (p := ⟨bq, oq + j, none⟩) hbq).trans (unhide HGJ); clear hown hgrow2; have hown := hown2; clear hown2)
                  | (go_at_call 20; refine (unhide c20 _).mono ?_; rintro e wx ⟨rfl, hw⟩; obtain rfl := hw.symm))
                go_roundw
                case rel => exact ⟨j + 1, by omega, by go_num, by rw [unhide HWY], hown, hbel⟩
                case measure => simp [intOf]; omega
            · obtain rfl : k = j := by omega
              go_wp2
              go_meet
              exact ⟨rfl, sl_of_owns hown, hbel⟩
        case rest => as_aux_lemma =>
          obtain ⟨rfl, hxl, hb9⟩ := hcut
          replace B0 := hide (below_of (unhide B0) hb9)
          replace XL := hide ((unhide XL).below hb9)
          replace XG := hide ((unhide XG).below hb9)
          replace SB := hide ((unhide SB).below hb9 (Nat.le_refl _))
          have XX := hide hxl
          obtain ⟨w11, hw11⟩ : ∃ x, x = wc := ⟨_, rfl⟩
          rw [← hw11] at hxl hb9 B0 XL XG SB XX ⊢
          clear hxl hb9 hw11 O10 O9 B9 SL
          go_upto_if 178 with fail
          go_cut [24] (fun xw wc => xw = .int .i64 cz ∧ wc = w11)
          case first => as_aux_lemma =>
            rcases unhide XL with ⟨h1, rfl, rfl⟩ | ⟨h1, h2, rfl, rfl⟩ | ⟨h1, h2, rfl, h3⟩
            · have d3 : decide ((255 : Int) < (k : Int)) = true := decide_eq_true (by omega)
              go_wp2
              go_meet
              exact ⟨rfl, rfl⟩
            · have d3 : decide ((255 : Int) < (k : Int)) = false := decide_eq_false (by omega)
              rw [wy_bad G k h2]
              clear h2
              go_wp2
              go_meet
              exact ⟨rfl, rfl⟩
            · have d3 : decide ((255 : Int) < (k : Int)) = false := decide_eq_false (by omega)
              rw [wy_ok G k h2]
              clear h2
              go_wp2
              go_meet
              exact ⟨rfl, rfl⟩
          case rest => as_aux_lemma =>
            obtain ⟨rfl, hw12⟩ := hcut
            obtain rfl := hw12.symm
            go_upto_region 36 with fail
            go_cut [200] (fun xb wc => xb = .bool false ∧ Below w11.heap.size w11 wc)
            case first => as_aux_lemma =>
              rcases unhide XL with ⟨h1, rfl, rfl⟩ | ⟨h1, h2, rfl, rfl⟩ | ⟨h1, h2, rfl, h3⟩
              · go_wp2
                go_meet
                exact ⟨rfl, Below.refl _ _⟩
              · clear h2
                go_wp2
                go_meet
                exact ⟨rfl, Below.refl _ _⟩
              · have c13 := hide (bytes_b _ _ _ _ _ h3 ((unhide XX).congr (lstF_is F G m k h1 h2)))
                clear h2 h3
                go_wp2_with (go_at_call 13; refine (unhide c13).mono ?_; rintro e w12 ⟨rfl, b1⟩; have B12 := hide b1; clear b1)
                go_meet
                exact ⟨rfl, unhide B12⟩
            case rest => as_aux_lemma =>
              obtain ⟨rfl, hb12⟩ := hcut
              replace B0 := hide (below_of (unhide B0) hb12)
              replace XG := hide ((unhide XG).below hb12)
              replace SB := hide ((unhide SB).below hb12 (Nat.le_refl _))
              obtain ⟨w13, hw13⟩ : ∃ x, x = wc := ⟨_, rfl⟩
              rw [← hw13] at hb12 B0 XG SB ⊢
              clear hb12 hw13 XL XX
              go_upto_region 38 with fail
              rcases unhide XG with ⟨hbad, rfl, rfl, rfl⟩ | ⟨A, N, rfl, hA, hN, hAN, rfl, rfl, hy⟩
              · clear XG
                rcases hbad with hh | ⟨A, rfl, hA, hh⟩
                · by_cases h0 : a < 0
                  · have e0 := decide_eq_true h0
                    clear hh
                    go_wp2_with (go_at_call 21; refine (wakes_any _).mono ?_; rintro e w14 ⟨rfl, b1⟩; replace B0 := hide (below_of (unhide B0) b1); clear b1)
                    go_ret
                    exact ⟨rfl, unhide B0⟩
                  · have e0 := decide_eq_false h0
                    have e1 : decide ((m : Int) ≤ a) = true := decide_eq_true (by have : ¬ a + 1 ≤ m := fun q => hh ⟨by omega, q⟩; omega)
                    clear hh
                    go_wp2_with (go_at_call 21; refine (wakes_any _).mono ?_; rintro e w14 ⟨rfl, b1⟩; replace B0 := hide (below_of (unhide B0) b1); clear b1)
                    go_ret
                    exact ⟨rfl, unhide B0⟩
                · have hfa := unhide HF A hA
                  have c18 := hide (here_any p m cb ((A : Int) + 1) (F A) (by unfold maxLen; omega) hfa.1)
                  rw [decide_eq_false hh] at c18
                  obtain ⟨p', cap', hp', hcap, hcap2⟩ := (unhide SB).shape
                  cases hp'
                  obtain ⟨bb, off, rfl, hbb, hcell⟩ := (unhide SB).some (by omega)
                  have hck := hcell A hA
                  have e0 : decide ((A : Int) < 0) = false := decide_eq_false (by omega)
                  have e1 : decide ((m : Int) ≤ (A : Int)) = false := decide_eq_false (by omega)
                  obtain ⟨hf0, hf1⟩ := hfa
                  clear hcell hh
                  generalize F A = fa at *
                  go_wp2_with (first
                    | (go_at_call 18; refine (unhide c18 _).mono ?_; rintro e wx ⟨rfl, hw⟩; obtain rfl := hw.symm)
                    | (go_at_call 21; refine (wakes_any _).mono ?_; rintro e w14 ⟨rfl, b1⟩; replace B0 := hide (below_of (unhide B0) b1); clear b1))
                  go_ret
                  exact ⟨rfl, unhide B0⟩
              · have hfa := unhide HF A hA
                rw [hN] at hfa
                have c18 := hide (here_any p m cb ((A : Int) + 1) (N : Int) (by unfold maxLen; omega) (by omega))
                rw [decide_eq_true (show Here m ((A : Int) + 1) N from ⟨by omega, by omega⟩)] at c18
                obtain ⟨p', cap', hp', hcap, hcap2⟩ := (unhide SB).shape
                cases hp'
                obtain ⟨bb, off, rfl, hbb, hcell⟩ := (unhide SB).some (by omega)
                have hck := hcell A hA
                rw [hN] at hck
                have e0 : decide ((A : Int) < 0) = false := decide_eq_false (by omega)
                have e1 : decide ((m : Int) ≤ (A : Int)) = false := decide_eq_false (by omega)
                obtain ⟨py, cy, rfl, ly, ly2⟩ := hy.shape
                have HYY := hide hy
                have HC := hide hcell
                obtain ⟨hf0, hf1⟩ := hfa
                unfold maxLen at ly2
                clear hcell hy hN XG
                go_wp2_with (first
                  | (go_at_call 18; refine (unhide c18 _).mono ?_; rintro e wx ⟨rfl, hw⟩; obtain rfl := hw.symm))
                go_loopw [30] (fun xi w2 => ∃ j : Nat, j ≤ N ∧ xi = .int .i64 j ∧ ∃ mm, w2 = w13.drewN mm) (fun i _ => N - (intOf i).toNat)
                case atStart => exact ⟨0, by omega, rfl, 0, rfl⟩
                case round => as_aux_lemma =>
                  obtain ⟨j, hj, rfl, mm, hW⟩ := hrel
                  by_cases hlt : j < N
                  · obtain ⟨b2, o2, rfl, _, hcy⟩ := (unhide HYY).some (by omega)
                    have k1 : wr.cell? ⟨b2, o2 + j, none⟩ = some (.int .i64 (F (A + 1 + j))) := by rw [hW]; exact hcy j hlt
                    have k2 : wr.cell? ⟨bb, off + (A + 1 + j), none⟩ = some (.int .u8 (F (A + 1 + j))) := by rw [hW]; exact unhide HC (A + 1 + j) (by omega)
                    have hfx := unhide HF (A + 1 + j) (by omega)
                    have HW := hide hW
                    obtain ⟨hx0, hx1⟩ := hfx
                    clear hW hcy hck
                    generalize F (A + 1 + j) = fx at *
                    go_wp2
                    go_quiet (fail)
                    go_wp2
                    go_roundw
                    case rel => exact ⟨j + 1, by omega, by go_num, mm + nq, by rw [unhide HW, World.drewN_drewN]⟩
                    case measure => simp [intOf]; omega
                  · replace B0 := hide (below_drewN (unhide B0) mm)
                    rw [← hW] at B0
                    clear hW hck
                    go_wp2_with (go_at_call 21; refine (wakes_any _).mono ?_; rintro e w14 ⟨rfl, b1⟩; replace B0 := hide (below_of (unhide B0) b1); clear b1)
                    go_ret
                    exact ⟨rfl, unhide B0⟩
end Go.Proofs.Ytkmljmfonhohbaa
