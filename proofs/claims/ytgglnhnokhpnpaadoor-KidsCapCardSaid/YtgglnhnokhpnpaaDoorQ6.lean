/- Walk of bellwetherlaw13.KidsCap. -/
import Derived.Test.YtgglnhnokhpnpaaDoorQ5
import Derived.Test.YtgglnhnokhpnpaaDoorD2
import Derived.Test.YtgglnhnokhpnpaaDoorJ4
import Derived.Deep.RegionHeld3
namespace Go.Proofs.YtgglnhnokhpnpaaDoor
open Go.RowKit

set_option maxRecDepth 100000 in
theorem cap_many (t s lim : Int) (q : Option Addr) (m c : Nat) (w : World) (hl : 40 < m) :
    Calls Tryd.prog 4 #[.int .i64 t, .int .i64 s, .int .i64 lim, .slice q m c] w fun e w' => e = .returned (.bool true) ∧ Below w.heap.size w w' := by
  have b1 : decide (40 < m) = true := decide_eq_true hl
  go_enter Tryd.func4, Tryd.ntmps4
  go_wp2
  go_ret
  exact ⟨rfl, Below.refl _ _⟩
theorem KO.set {w : World} {B : Nat} {v : Value} {L : List Kd} (h : KO w B v L) {g j : Nat} (hg : g < B) (u : Value) : KO (w.setCell ⟨g, j, none⟩ u) B v L := ownsRow_setCell_below h hg u
set_option maxHeartbeats 8000000 in
set_option maxRecDepth 2000000 in
theorem cap_few (t s l : Int) (q : Option Addr) (m c : Nat) (zs : List Int) (w : World) (hG : Glob w) (h : IsRow w q m c zs) (hl : ¬ 40 < m) :
    Calls Tryd.prog 4 #[.int .i64 t, .int .i64 s, .int .i64 l, .slice q m c] w fun e w' => e = .returned (.bool true) ∧ Below w.heap.size w w' := by
  have hT := mod4 t
  have kT := mod4_topic t
  have hS := mod8 s
  have kS := mod8_node s
  have hL4 := mod4 l
  obtain ⟨lim, hlim⟩ : ∃ lim, 1 + l % 4 = lim := ⟨_, rfl⟩
  have hlim1 : 1 ≤ lim := by omega
  have hlim4 : lim ≤ 4 := by omega
  have hwl : IntKind.i64.wrap (1 + l % 4) = lim := by rw [IntWalk.i64_left, IntWalk.wrap64_in _ (by omega), hlim]
  generalize t % 4 = T at *
  generalize s % 8 = S at *
  generalize l % 4 = l4 at *
  have hmk := mk8
  have HI := hide h.il
  obtain ⟨La, hLa⟩ : ∃ La, zs.take m = La := ⟨_, rfl⟩
  rw [hLa] at HI
  have HLA := hide (show m ≤ La.length from Nat.le_of_eq (il_cap (unhide HI)).1)
  have HG := hide (show ∀ W, Below w.heap.size w W → Glob W from fun W hb => hG.below hb hG.size)
  have hF := far_of kT kS
  obtain ⟨f, hf⟩ : ∃ f, (farK T S 8).length = f := ⟨_, rfl⟩
  have c23 := hide (far_call kT kS hf w hG)
  have c19 := hide (show ∀ W, Below w.heap.size w W → Calls Tryd.prog 19 #[] W fun e w' => e = .returned (.bool true) ∧ Below w.heap.size w w' from fun W hb => (wakes_any W (unhide HG W hb)).mono fun e w' (r : e = .returned (.bool true) ∧ Below W.heap.size W w') => And.intro r.1 (hb.trans (r.2.mono hb.size)))
  clear hG h hLa hlim
  obtain ⟨F, hFF⟩ : ∃ F, farK T S 8 = F := ⟨_, rfl⟩
  rw [hFF] at c23 hf hF
  clear hFF
  have hf7 : f ≤ 7 := by have := hF.len; omega
  have HF := hide hF
  have HFL := hide hf
  have b40 : decide (40 < m) = false := decide_eq_false hl
  have hl' : m ≤ 40 := by omega
  clear kT kS hF hf
  go_enter Tryd.func4, Tryd.ntmps4
  go_upto_region 4 with fail
  rw [hT, hS, hL4]
  clear hT hS hL4 hwl b40
  go_upto_region 6 with (go_at_call 23; (with_reducible refine (unhide c23).mono ?_); rintro e w1 ⟨qf, cf, rfl, i1, b1⟩; have B1 := hide b1; have I1 := hide i1; clear i1 b1)
  go_upto_region 7 with fail
  obtain ⟨wz, hwz⟩ : ∃ W : World, W = w1.alloc (.cells (rowB fun _ => false) 4) := ⟨_, rfl⟩
  rw [← hwz]
  have BZ : Hid (Below w1.heap.size w1 wz) := hide (hwz ▸ (Below.refl _ _).alloc (Nat.le_refl _) _)
  have RZ : Hid (Has wz w1.heap.size (.cells (rowB fun _ => false) 4)) := hide (hwz ▸ Has.new _ _)
  clear hwz hmk
  go_wp2
  go_loopw [10, 12] (fun xl xi w3 => ∃ i : Nat, i ≤ m ∧ xi = .int .i64 i ∧ ∃ (q : Option Addr) (n c : Nat), xl = .slice q n c ∧ ∃ (L : List Kd) (fB : Nat → Bool), Hid (KO w3 (w1.heap.size + 1) (.slice q n c) L) ∧ Hid (Has w3 w1.heap.size (.cells (rowB fB) 4)) ∧ Hid (CapI T S lim F fB L) ∧ Hid (Below w1.heap.size w1 w3)) (fun _ i _ => m - (intOf i).toNat)
  case atStart => exact ⟨0, by omega, rfl, none, 0, 0, rfl, [], fun _ => false, hide (KO.nil _ _), RZ, hide (CapI.start hlim1), BZ⟩
  case round =>
    obtain ⟨i, hi, rfl, ql, n, cl, rfl, L, fB, HK, HR, HC, HB⟩ := hrel
    have HBW := hide ((unhide B1).trans ((unhide HB).mono (unhide B1).size))
    by_cases hex : i < m ∧ 0 < f
    · obtain ⟨hlt, hf0⟩ := hex
      have b1 : decide (i < m) = true := decide_eq_true hlt
      have b2 : decide (0 < f) = true := decide_eq_true hf0
      have hfl := unhide HFL
      obtain ⟨ba, oa, rfl, hac, hac2, a3, a4⟩ := il_cell (k := i) ((unhide HI).below (unhide HBW) (Nat.le_refl _)) hlt (unhide HLA)
      obtain ⟨N, hN, hN2⟩ := modN (zF La i) f hf0 (by omega)
      obtain ⟨bf, of, rfl, hfc, hfc2, f3, f4⟩ := il_cell (k := N) ((unhide I1).below (unhide HB) (Nat.le_refl _)) hN2 (by omega)
      have hone := (unhide HF).one N (by omega)
      obtain ⟨j, hj8, hj⟩ : ∃ j : Nat, j < 8 ∧ zF F N = (j : Int) := ⟨(zF F N).toNat, by have := hone.1.1; have := hone.1.2; omega, by have := hone.1.1; omega⟩
      obtain ⟨inc, hinc⟩ : ∃ inc, 1 + (i : Int) = inc := ⟨_, rfl⟩
      have hwi : IntKind.i64.wrap (1 + (i : Int)) = inc := by rw [IntWalk.i64_left, IntWalk.wrap64_in _ (by omega), hinc]
      have hinc1 : 1 ≤ inc ∧ inc ≤ 1073741824 := by omega
      have HC2 := hide ((unhide HC).step (unhide HF) hlim1 (by omega) hj8 hj hinc1)
      rw [hj] at f4 hone
      have hrk := (unhide HC).rk (unhide HF) hlim1 hlim4
      have hnl := (kl_cap (unhide HK).kl).1
      have hways := ask_ways inc (unhide HC).gd (unhide HF).topic hone.1 hlim1
      have hcell := (unhide HR).cell hj8
      have hfrz := (unhide HR).frozen (k := j)
      have hw := wrapN (n := f) (by omega)
      have hnz : ((f : Int) == 0) = false := beq_false_of_ne (by omega)
      have hNi : (N : Int) < (f : Int) := by omega
      have hji : (j : Int) < 8 := by omega
      have hN' : IntKind.i64.wrap ((IntKind.u64.wrap (zF La i)).tmod (f : Int)) = (N : Int) := by rw [IntWalk.i64_left]; exact hN
      have HRK := hide hrk
      have HONE := hide hone
      have HW := hide hways
      have HIN := hide hinc1
      have HNL := hide hnl
      clear hrk hone hways hinc hinc1 hj hnl hfl
      generalize zF La i = a at *
      generalize hfj : fB j = fj at *
      clear hfj
      go_upto_region 12 with fail
      obtain ⟨w2, hw2⟩ : ∃ W : World, W = wr.setCell ⟨w1.heap.size, j, none⟩ (.bool true) := ⟨_, rfl⟩
      rw [← hw2]
      have B2 : Hid (Below w1.heap.size w1 w2) := hide (hw2 ▸ (unhide HB).setCell (Nat.le_refl _) _)
      have K2 : Hid (KO w2 (w1.heap.size + 1) (.slice ql n cl) L) := hide (hw2 ▸ (unhide HK).set (Nat.lt_succ_self _) _)
      have R2 : Hid (Has w2 w1.heap.size (.cells (rowB fun i => (j == i) || fB i) 4)) := hide (hw2 ▸ (unhide HR).set j)
      have S2 : Hid (w1.heap.size + 1 ≤ w2.heap.size) := hide (unhide R2).1
      have BW2 := hide ((unhide B1).trans ((unhide B2).mono (unhide B1).size))
      clear hw2 hcell hfrz f4 a4 hN hN' hw hnz hNi
      have HGW := hide (show ∀ W, Below w2.heap.size w2 W → Glob W from fun W hb => unhide HG W ((unhide BW2).trans (hb.mono (unhide BW2).size)))
      have c10 := ask_k T S lim L (j : Int) inc _ w2 (unhide HGW _ (Below.refl _ _)) (unhide K2).kl (unhide HRK) (may_yes (unhide HONE).2.2 (unhide HIN).1 (unhide HIN).2)
      obtain ⟨M, hM⟩ : ∃ M, askL T lim L (j : Int) inc = M := ⟨_, rfl⟩
      rw [hM] at c10 HC2 HW
      clear hM
      obtain ⟨p, hp⟩ : ∃ p, M.length = p := ⟨_, rfl⟩
      have hpl : ¬ lim < (p : Int) := by have := (unhide HC2).len; omega
      have b3 : decide (lim < (p : Int)) = false := decide_eq_false hpl
      have HP := hide hp
      have c18 := hide (show ∀ v W, Below w2.heap.size w2 W → KL W v M → Calls Tryd.prog 18 #[.int .i64 T, .int .i64 S, .int .i64 lim, v] W fun e w' => e = .returned (.int .i64 0) ∧ Below W.heap.size W w' from fun v W hb hk => by
        have := check_k T S lim M v W (unhide HGW W hb) hk
        rwa [chR_ok ((unhide HC2).rk (unhide HF) hlim1 hlim4)] at this)
      have c15 := hide (fun (x : Int) (b : Bool) (hx : hs M x = b) v W (hk : KL W v M) => (hx ▸ has_k M x v W hk : Calls Tryd.prog 15 #[v, .int .i64 x] W fun e w' => e = .returned (.bool b) ∧ Below W.heap.size W w'))
      clear hp
      rcases unhide HW with ⟨e1, e2, e3⟩ | ⟨f0, g1, e1, e2, g2, g3, g4⟩ | ⟨l, g1, g2, e1, e2, g3, g4⟩
      · rw [e1, e2] at c10
        have c10 := hide c10
        have c15x := hide (unhide c15 _ _ e3)
        have wd0 : IntKind.i64.wrap 0 = 0 := rfl
        have hn1 : ∃ n1, IntKind.i64.wrap ((j : Int) + 1) = n1 ∧ (0 == n1) = false := ⟨(j : Int) + 1, by rw [IntWalk.i64_left, IntWalk.wrap64_in _ (by omega)], beq_false_of_ne (by omega)⟩
        obtain ⟨n1, hn1, hn2⟩ := hn1
        clear e1 e2 e3
        go_wp2_with (first
          | (go_at_call 10; refine (unhide c10).mono ?_; rintro e w4 ⟨v4, rfl, o4, b4⟩; have O4 := hide (o4.mono (unhide S2)); have B4 := hide b4; have R4 := hide ((unhide R2).below b4 (Nat.le_refl _)); obtain ⟨q4, c4, rfl⟩ := kl_form o4.kl; rw [unhide HP] at O4 ⊢; clear o4 b4)
          | (go_at_call 18; refine (unhide c18 _ _ (unhide B4) (unhide O4).kl).mono ?_; rintro e w5 ⟨rfl, b5⟩; have O5 := hide ((unhide O4).below b5 (Nat.le_refl _)); have B5 := hide ((unhide B4).trans (b5.mono (unhide B4).size)); have R5 := hide ((unhide R4).below b5 (Nat.le_refl _)); clear b5)
          | (go_at_call 15; refine (unhide c15x _ _ (unhide O5).kl).mono ?_; rintro e w6 ⟨rfl, b6⟩; have O6 := hide ((unhide O5).below b6 (Nat.le_refl _)); have B6 := hide ((unhide B5).trans (b6.mono (unhide B5).size)); have R6 := hide ((unhide R5).below b6 (Nat.le_refl _)); clear b6))
        go_roundw
        case rel => exact ⟨i + 1, by omega, by go_num, _, _, _, rfl, M, _, O6, R6, HC2, hide ((unhide B2).trans ((unhide B6).mono (unhide B2).size))⟩
        case measure => simp [intOf]; omega
      · rw [e1, e2] at c10
        have hf0r : 0 ≤ f0 ∧ f0 < 8 := g1
        obtain ⟨who, hwho⟩ : ∃ x, (j : Int) + 1 = x := ⟨_, rfl⟩
        obtain ⟨tw, hto⟩ : ∃ x, f0 + 1 = x := ⟨_, rfl⟩
        rw [hwho, hto] at c10
        have c10 := hide c10
        have d1 : (who == 0) = false := beq_false_of_ne (by omega)
        have d2 : (tw == 0) = false := beq_false_of_ne (by omega)
        have d3 : decide (0 < who) = true := decide_eq_true (by omega)
        have d4 : 0 < who := by omega
        have d5 : IntKind.i64.wrap (who - 1) = (j : Int) := by rw [← hwho, IntWalk.i64_left, IntWalk.wrap64_in _ (by omega)]; omega
        have d6 : IntKind.i64.wrap (tw - 1) = f0 := by rw [← hto, IntWalk.i64_left, IntWalk.wrap64_in _ (by omega)]; omega
        have d7 : IntKind.i64.wrap ((j : Int) + 1) = who := by rw [IntWalk.i64_left, IntWalk.wrap64_in _ (by omega), hwho]
        subst g4
        have c15x := hide (unhide c15 _ _ g3)
        have c24 := hide (show ∀ W, Below w2.heap.size w2 W → Calls Tryd.prog 24 #[.int .i64 T, .int .i64 f0, .int .i64 (j : Int)] W fun e w' => e = .returned (.bool true) ∧ w' = W from fun W hb => by
          have := nearer_nb T f0 (j : Int) W (unhide HGW W hb)
          rwa [g2] at this)
        have c12 := hide (fun v W (hb : Below w2.heap.size w2 W) (hk : KL W v M) => kids_same M v _ W hk ((unhide K2).kl.below hb (Nat.le_refl _)))
        clear e1 e2 g1 g2 g3 hwho hto hf0r
        go_wp2_with (first
          | (go_at_call 10; refine (unhide c10).mono ?_; rintro e w4 ⟨v4, rfl, o4, b4⟩; have O4 := hide (o4.mono (unhide S2)); have B4 := hide b4; have R4 := hide ((unhide R2).below b4 (Nat.le_refl _)); obtain ⟨q4, c4, rfl⟩ := kl_form o4.kl; rw [unhide HP] at O4 ⊢; clear o4 b4)
          | (go_at_call 24; refine (unhide c24 _ (unhide B4)).mono ?_; rintro e w4 ⟨rfl, rfl⟩)
          | (go_at_call 15; refine (unhide c15x _ _ (unhide O4).kl).mono ?_; rintro e w5 ⟨rfl, b5⟩; have O5 := hide ((unhide O4).below b5 (Nat.le_refl _)); have B5 := hide ((unhide B4).trans (b5.mono (unhide B4).size)); have R5 := hide ((unhide R4).below b5 (Nat.le_refl _)); clear b5)
          | (go_at_call 18; refine (unhide c18 _ _ (unhide B5) (unhide O5).kl).mono ?_; rintro e w6 ⟨rfl, b6⟩; have O6 := hide ((unhide O5).below b6 (Nat.le_refl _)); have B6 := hide ((unhide B5).trans (b6.mono (unhide B5).size)); have R6 := hide ((unhide R5).below b6 (Nat.le_refl _)); clear b6)
          | (go_at_call 12; refine (unhide c12 _ _ (unhide B6) (unhide O6).kl).mono ?_; rintro e w7 ⟨rfl, b7⟩; have O7 := hide ((unhide O6).below b7 (Nat.le_refl _)); have B7 := hide ((unhide B6).trans (b7.mono (unhide B6).size)); have R7 := hide ((unhide R6).below b7 (Nat.le_refl _)); clear b7))
        go_roundw
        case rel => exact ⟨i + 1, by omega, by go_num, _, _, _, rfl, M, _, O7, R7, HC2, hide ((unhide B2).trans ((unhide B7).mono (unhide B2).size))⟩
        case measure => simp [intOf]; omega
      · rw [e1, e2] at c10
        have hlr : 0 ≤ l ∧ l < 8 := g1
        obtain ⟨who, hwho⟩ : ∃ x, l + 1 = x := ⟨_, rfl⟩
        obtain ⟨tw, hto⟩ : ∃ x, (j : Int) + 1 = x := ⟨_, rfl⟩
        rw [hwho, hto] at c10
        have c10 := hide c10
        have d1 : (who == 0) = false := beq_false_of_ne (by omega)
        have d2 : (tw == 0) = false := beq_false_of_ne (by omega)
        have d3 : decide (0 < who) = true := decide_eq_true (by omega)
        have d4 : 0 < who := by omega
        have d5 : IntKind.i64.wrap (who - 1) = l := by rw [← hwho, IntWalk.i64_left, IntWalk.wrap64_in _ (by omega)]; omega
        have d6 : IntKind.i64.wrap (tw - 1) = (j : Int) := by rw [← hto, IntWalk.i64_left, IntWalk.wrap64_in _ (by omega)]; omega
        obtain ⟨n1, hn1⟩ : ∃ x, (j : Int) + 1 = x := ⟨_, rfl⟩
        have d7 : IntKind.i64.wrap ((j : Int) + 1) = n1 := by rw [IntWalk.i64_left, IntWalk.wrap64_in _ (by omega), hn1]
        have d8 : (who == n1) = false := beq_false_of_ne (by omega)
        have c15x := hide (unhide c15 _ _ g4)
        have c24 := hide (show ∀ W, Below w2.heap.size w2 W → Calls Tryd.prog 24 #[.int .i64 T, .int .i64 (j : Int), .int .i64 l] W fun e w' => e = .returned (.bool true) ∧ w' = W from fun W hb => by
          have := nearer_nb T (j : Int) l W (unhide HGW W hb)
          rwa [g3] at this)
        clear e1 e2 g1 g2 g3 g4 hwho hto hlr hn1
        go_wp2_with (first
          | (go_at_call 10; refine (unhide c10).mono ?_; rintro e w4 ⟨v4, rfl, o4, b4⟩; have O4 := hide (o4.mono (unhide S2)); have B4 := hide b4; have R4 := hide ((unhide R2).below b4 (Nat.le_refl _)); obtain ⟨q4, c4, rfl⟩ := kl_form o4.kl; rw [unhide HP] at O4 ⊢; clear o4 b4)
          | (go_at_call 24; refine (unhide c24 _ (unhide B4)).mono ?_; rintro e w4 ⟨rfl, rfl⟩)
          | (go_at_call 15; refine (unhide c15x _ _ (unhide O4).kl).mono ?_; rintro e w5 ⟨rfl, b5⟩; have O5 := hide ((unhide O4).below b5 (Nat.le_refl _)); have B5 := hide ((unhide B4).trans (b5.mono (unhide B4).size)); have R5 := hide ((unhide R4).below b5 (Nat.le_refl _)); clear b5)
          | (go_at_call 18; refine (unhide c18 _ _ (unhide B5) (unhide O5).kl).mono ?_; rintro e w6 ⟨rfl, b6⟩; have O6 := hide ((unhide O5).below b6 (Nat.le_refl _)); have B6 := hide ((unhide B5).trans (b6.mono (unhide B5).size)); have R6 := hide ((unhide R5).below b6 (Nat.le_refl _)); clear b6))
        go_roundw
        case rel => exact ⟨i + 1, by omega, by go_num, _, _, _, rfl, M, _, O6, R6, HC2, hide ((unhide B2).trans ((unhide B6).mono (unhide B2).size))⟩
        case measure => simp [intOf]; omega
    · go_upto_region 8 with fail
      go_cut [47] from 39 to 46 (fun x wc => x = .bool false ∧ wc = wr)
      case first => as_aux_lemma =>
        by_cases h1 : i < m
        · have b1 : decide (i < m) = true := decide_eq_true h1
          have h2 : ¬ 0 < f := fun h2 => hex ⟨h1, h2⟩
          have b2 : decide (0 < f) = false := decide_eq_false h2
          clear hex
          go_wp2
          go_meet
          exact ⟨by simp; try omega, rfl⟩
        · have b1 : decide (i < m) = false := decide_eq_false h1
          clear hex
          go_wp2
          go_meet
          exact ⟨rfl, rfl⟩
      case rest => as_aux_lemma =>
        obtain ⟨rfl, hw⟩ := hcut
        obtain rfl := hw.symm
        clear hw hex
        go_wp2
        go_loop [18] (fun x => ∃ k : Nat, k ≤ f ∧ x = .int .i64 k ∧ Hid (∀ k', k' < k → ∀ m : Nat, m < 8 → zF F k' = (m : Int) → fB m = false)) (fun x => f - (intOf x).toNat)
        case atStart => exact ⟨0, by omega, rfl, hide (fun k' hk' => absurd hk' (Nat.not_lt_zero _))⟩
        case round =>
          obtain ⟨k, hk, rfl, HNO⟩ := hrel
          by_cases hlt : k < f
          · have b1 : decide (k < f) = true := decide_eq_true hlt
            have hfl := unhide HFL
            obtain ⟨bf, of, rfl, hfc, hfc2, f3, f4⟩ := il_cell (k := k) ((unhide I1).below (unhide HB) (Nat.le_refl _)) hlt (by omega)
            have hone := (unhide HF).one k (by omega)
            obtain ⟨j, hj8, hj⟩ : ∃ j : Nat, j < 8 ∧ zF F k = (j : Int) := ⟨(zF F k).toNat, by have := hone.1.1; have := hone.1.2; omega, by have := hone.1.1; omega⟩
            have hcell := (unhide HR).cell hj8
            have hji : (j : Int) < 8 := by omega
            have hki : (k : Int) < (f : Int) := by omega
            cases hb : fB j with
            | false =>
              rw [hb] at hcell
              rw [hj] at f4
              have HNO2 : Hid (∀ k', k' < k + 1 → ∀ m : Nat, m < 8 → zF F k' = (m : Int) → fB m = false) := hide fun k' hk' m hm he => by
                by_cases e : k' = k
                · subst e
                  rw [show m = j by omega]
                  exact hb
                · exact unhide HNO k' (by omega) m hm he
              clear hb hone hfl hj
              go_wp2
              go_round
              case rel => exact ⟨k + 1, by omega, by go_num, HNO2⟩
              case measure => simp [intOf]; omega
            | true =>
              rw [hb] at hcell
              obtain ⟨hl0, hhd⟩ := (unhide HC).head (unhide HF) (by omega) hj8 hj hb (unhide HNO)
              have hnl := (kl_cap (unhide HK).kl).1
              obtain ⟨bm, om, rfl, h1, h2, h3, h4, -, -⟩ := kl_cell (k := 0) (unhide HK).kl (by omega) (by omega)
              rw [Nat.zero_mul, Nat.add_zero, hhd, hj] at h4
              rw [hj] at f4
              have hn0 : 0 < n := by omega
              have b2 : decide (0 < n) = true := decide_eq_true hn0
              have hn0i : (0 : Int) < (n : Int) := by omega
              clear hb hone hfl hj hl0 hhd hnl
              go_upto_region 22 with fail
              obtain ⟨w5, hw5⟩ : ∃ W : World, W = wr := ⟨_, rfl⟩
              subst hw5
              have c19b := hide (show ∀ W, Below w5.heap.size w5 W → Calls Tryd.prog 19 #[] W fun e w' => e = .returned (.bool true) ∧ Below w5.heap.size w5 w' from fun W hb => (wakes_any W (unhide HG W ((unhide HBW).trans (hb.mono (unhide HBW).size)))).mono fun e w' (r : e = .returned (.bool true) ∧ Below W.heap.size W w') => And.intro r.1 (hb.trans (r.2.mono hb.size)))
              have SX := hide (show ∀ W, Below w5.heap.size w5 W → Below w5.heap.size w5 W ∧ W.cell? ⟨bf, of + k, none⟩ = some (.int .i64 (j : Int)) ∧ W.cell? ⟨bm, om, none⟩ = some (.int .i64 (j : Int)) from fun W hb => ⟨hb, (hb.cell (p := ⟨bf, of + k, none⟩) f3).trans f4, (hb.cell (p := ⟨bm, om, none⟩) h3).trans h4⟩)
              have b5 := Below.refl w5.heap.size w5
              go_region_held3 (fun w' => Below w5.heap.size w5 w' ∧ w'.cell? ⟨bf, of + k, none⟩ = some (.int .i64 (j : Int)) ∧ w'.cell? ⟨bm, om, none⟩ = some (.int .i64 (j : Int)))
                (first
                  | assumption
                  | exact unhide SX _ (by assumption)
                  | exact unhide SX _ (below_drewN (by assumption) _)
                  | exact unhide SX _ (below_drewN (by assumption) 1))
                (first
                  | (go_at_call 19; with_reducible refine (unhide c19b _ (by first | assumption | exact And.left (by assumption) | exact below_drewN (by assumption) _ | exact below_drewN (by assumption) 1 | exact below_drewN (And.left (by assumption)) 1)).mono ?_; rintro e w6 ⟨rfl, b6⟩))
              all_goals go_wp2
              all_goals go_ret
              all_goals exact ⟨rfl, (unhide HBW).trans (b6.mono (unhide HBW).size)⟩
          · obtain rfl : k = f := by omega
            have b1 : decide (k < k) = false := decide_eq_false hlt
            have hn0 := (unhide HC).none (by rw [unhide HFL]; exact unhide HNO)
            have hnl := (kl_cap (unhide HK).kl).1
            obtain rfl : n = 0 := by omega
            clear hn0 hnl
            go_wp2_with (go_at_call 19; refine (unhide c19 _ (unhide HBW)).mono ?_; rintro e w6 ⟨rfl, b6⟩; have B6 := hide b6; clear b6)
            go_ret
            exact ⟨rfl, unhide B6⟩
theorem cap_walk (t s l : Int) (q : Option Addr) (m c : Nat) (zs : List Int) (w : World) (hG : Glob w) (h : IsRow w q m c zs) :
    Calls Tryd.prog 4 #[.int .i64 t, .int .i64 s, .int .i64 l, .slice q m c] w fun e w' => e = .returned (.bool true) ∧ Below w.heap.size w w' := by
  by_cases hl : 40 < m
  · exact cap_many t s l q m c w hl
  · exact cap_few t s l q m c zs w hG h hl
end Go.Proofs.YtgglnhnokhpnpaaDoor
