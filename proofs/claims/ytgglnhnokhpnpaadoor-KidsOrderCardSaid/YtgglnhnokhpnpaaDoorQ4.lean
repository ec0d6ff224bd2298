/- Walk of bellwetherlaw13.KidsOrder. -/
import Derived.Test.YtgglnhnokhpnpaaDoorQ0
import Derived.Test.YtgglnhnokhpnpaaDoorJ4
import Derived.Deep.RegionHeld3
namespace Go.Proofs.YtgglnhnokhpnpaaDoor
open Go.RowKit

/-- Those that asked in their order, all of one incarnation. -/
def oF (t : Int) (f : Nat → Int) : Nat → List Kd
  | 0 => []
  | k + 1 => wt t (oF t f k) (f k, 2, 0)
theorem oF_mem (t : Int) (f : Nat → Int) (z : Kd) : ∀ k, z ∈ oF t f k ↔ ∃ i, i < k ∧ z = (f i, 2, 0)
  | 0 => ⟨fun h => (by cases h), fun ⟨_, h, _⟩ => absurd h (Nat.not_lt_zero _)⟩
  | k + 1 => by
    have ih := oF_mem t f z k
    unfold oF
    rw [wt_mem, ih]
    constructor
    · rintro (h | ⟨⟨i, h1, h2⟩, _⟩)
      · exact ⟨k, by omega, h⟩
      · exact ⟨i, by omega, h2⟩
    · rintro ⟨i, h1, h2⟩
      by_cases e : f i = f k
      · exact .inl (by rw [h2, e])
      · refine .inr ⟨⟨i, ?_, h2⟩, by rw [h2]; exact e⟩
        rcases Nat.lt_or_ge i k with q | q
        · exact q
        · exact absurd (by rw [show i = k by omega]) e
theorem oF_len (t : Int) (f : Nat → Int) : ∀ k, (oF t f k).length ≤ k
  | 0 => Nat.le_refl _
  | k + 1 => by
    have ih := oF_len t f k
    unfold oF wt
    rw [ins_len]
    have := dr_len (oF t f k) (f k)
    simp only at this ⊢
    omega
theorem oF_gd {t s : Int} (ht : IsT t) {f : Nat → Int} (h : ∀ i, IsN (f i) ∧ gp t s < gp t (f i)) : ∀ k, Gd t s (oF t f k)
  | 0 => Gd.nil t s
  | k + 1 => (oF_gd ht h k).wt ht ⟨(h k).1, (show (1 : Int) ≤ 2 by omega), (show (2 : Int) ≤ 1073741824 by omega), Int.le_refl 0, (show (0 : Int) ≤ 6 by omega), (h k).2⟩
theorem oF_turn {t s : Int} (ht : IsT t) {f g : Nat → Int} (h : ∀ i, IsN (f i) ∧ gp t s < gp t (f i)) (hg : ∀ i, i < 3 → g i = f (2 - i)) (h2 : ∀ i, IsN (g i) ∧ gp t s < gp t (g i)) : oF t f 3 = oF t g 3 :=
  rise_one (oF_gd ht h 3).2 (oF_gd ht h2 3).2 fun z => by
    rw [oF_mem, oF_mem]
    constructor
    · rintro ⟨i, h1, h3⟩
      exact ⟨2 - i, by omega, by rw [hg _ (by omega), show 2 - (2 - i) = i by omega]; exact h3⟩
    · rintro ⟨i, h1, h3⟩
      exact ⟨2 - i, by omega, by rw [← hg _ h1]; exact h3⟩
theorem ord_ask {t s : Int} (ht : IsT t) (hs : IsN s) {f : Nat → Int} (h : ∀ i, IsN (f i) ∧ gp t s < gp t (f i)) (k : Nat) (hk : k < 3) (v : Value) (w : World) (hG : Glob w) (hv : KL w v (oF t f k)) :
    Calls Tryd.prog 10 #[.int .i64 t, .int .i64 s, .int .i64 4, v, .int .i64 (f k), .int .i64 2] w fun e w' => ∃ q m c, e = .returned (.tuple #[.slice q m c, .int .i64 0, .int .i64 0, .int .i64 0]) ∧ KL w' (.slice q m c) (oF t f (k + 1)) ∧ Below w.heap.size w w' := by
  have hl := oF_len t f k
  have h0 := ask_k t s 4 (oF t f k) (f k) 2 _ w hG hv (rk_gd.2 ⟨ht, hs, by omega, by omega, by omega, oF_gd ht h k⟩) (may_yes ((nb_iff ht hs (h k).1).2 (h k).2) (by omega) (by omega))
  obtain ⟨e1, e2, e3⟩ := ask_in (t := t) (lim := 4) (L := oF t f k) (n := f k) 2 (.inr (by omega))
  rw [e1, e2, e3] at h0
  refine h0.mono ?_
  rintro e w' ⟨v', rfl, ho, hb⟩
  obtain ⟨q, c, rfl⟩ := kl_form ho.kl
  exact ⟨q, _, c, rfl, ho.kl, hb⟩
theorem oF_hs (t : Int) (f : Nat → Int) {i k : Nat} (h : i < k) : hs (oF t f k) (f i) = true := hs_iff.2 ⟨_, (oF_mem t f _ k).2 ⟨i, h, rfl⟩, rfl⟩
set_option maxHeartbeats 4000000 in
set_option maxRecDepth 100000 in
theorem order_few (t s n m k : Int) (w : World) (hG : Glob w) (h0 : (farK (t % 4) (s % 8) 8).length < 3) :
    Calls Tryd.prog 7 #[.int .i64 t, .int .i64 s, .int .i64 n, .int .i64 m, .int .i64 k] w fun e w' => e = .returned (.bool true) ∧ Below w.heap.size w w' := by
  have hT := mod4 t
  have kT := mod4_topic t
  have hS := mod8 s
  have kS := mod8_node s
  generalize t % 4 = T at *
  generalize s % 8 = S at *
  have HG := hide (show ∀ W, Below w.heap.size w W → Glob W from fun W hb => hG.below hb hG.size)
  obtain ⟨f, hf⟩ : ∃ f, (farK T S 8).length = f := ⟨_, rfl⟩
  rw [hf] at h0
  have c23 := hide (far_call kT kS hf w hG)
  have c19 := hide (show ∀ W, Below w.heap.size w W → Calls Tryd.prog 19 #[] W fun e w' => e = .returned (.bool true) ∧ Below w.heap.size w w' from fun W hb => (wakes_any W (unhide HG W hb)).mono fun e w' (r : e = .returned (.bool true) ∧ Below W.heap.size W w') => And.intro r.1 (hb.trans (r.2.mono hb.size)))
  have b1 : decide (f < 3) = true := decide_eq_true h0
  clear hG kT kS hf
  go_enter Tryd.func7, Tryd.ntmps7
  go_upto_region 2 with fail
  rw [hT, hS]
  clear hT hS
  go_wp2_with (first
    | (go_at_call 23; (with_reducible refine (unhide c23).mono ?_); rintro e w1 ⟨q, c, rfl, i1, b1⟩; have B1 := hide b1; clear i1 b1)
    | (go_at_call 19; refine (unhide c19 _ (unhide B1)).mono ?_; rintro e w2 ⟨rfl, b2⟩; have B2 := hide b2; clear b2))
  go_ret
  exact ⟨rfl, unhide B2⟩
set_option maxHeartbeats 4000000 in
set_option maxRecDepth 2000000 in
theorem order_many (t s n m k : Int) (w : World) (hG : Glob w) (h0 : ¬ (farK (t % 4) (s % 8) 8).length < 3) :
    Calls Tryd.prog 7 #[.int .i64 t, .int .i64 s, .int .i64 n, .int .i64 m, .int .i64 k] w fun e w' => e = .returned (.bool true) ∧ Below w.heap.size w w' := by
  have hT := mod4 t
  have kT := mod4_topic t
  have hS := mod8 s
  have kS := mod8_node s
  generalize t % 4 = T at *
  generalize s % 8 = S at *
  have HG := hide (show ∀ W, Below w.heap.size w W → Glob W from fun W hb => hG.below hb hG.size)
  have hF := far_of kT kS
  obtain ⟨f, hf⟩ : ∃ f, (farK T S 8).length = f := ⟨_, rfl⟩
  have c23 := hide (far_call kT kS hf w hG)
  have c19 := hide (show ∀ W, Below w.heap.size w W → Calls Tryd.prog 19 #[] W fun e w' => e = .returned (.bool true) ∧ Below w.heap.size w w' from fun W hb => (wakes_any W (unhide HG W hb)).mono fun e w' (r : e = .returned (.bool true) ∧ Below W.heap.size W w') => And.intro r.1 (hb.trans (r.2.mono hb.size)))
  clear hG
  obtain ⟨F, hFF⟩ : ∃ F, farK T S 8 = F := ⟨_, rfl⟩
  rw [hFF] at c23 hf hF h0
  clear hFF
  rw [hf] at h0
  have hf7 : f ≤ 7 := by have := hF.len; omega
  obtain ⟨I, hI, hI2⟩ := modN n f (by omega) (by omega)
  obtain ⟨J, hJ, hJ2⟩ := modN m f (by omega) (by omega)
  obtain ⟨K, hK, hK2⟩ := modN k f (by omega) (by omega)
  have x1 := hF.one I (by omega)
  have y1 := hF.one J (by omega)
  have z1 := hF.one K (by omega)
  have b0 : decide (f < 3) = false := decide_eq_false h0
  have hnz : ((f : Int) == 0) = false := beq_false_of_ne (by omega)
  have b9 : decide (f = 0) = false := decide_eq_false (by omega)
  have hf0 : ¬ f = 0 := by omega
  have hw := wrapN (n := f) (by omega)
  have hIi : (I : Int) < (f : Int) := by omega
  have hJi : (J : Int) < (f : Int) := by omega
  have hKi : (K : Int) < (f : Int) := by omega
  have hI' : IntKind.i64.wrap ((IntKind.u64.wrap n).tmod (f : Int)) = (I : Int) := by rw [IntWalk.i64_left]; exact hI
  have hJ' : IntKind.i64.wrap ((IntKind.u64.wrap m).tmod (f : Int)) = (J : Int) := by rw [IntWalk.i64_left]; exact hJ
  have hK' : IntKind.i64.wrap ((IntKind.u64.wrap k).tmod (f : Int)) = (K : Int) := by rw [IntWalk.i64_left]; exact hK
  have hfl := hide (show f ≤ F.length by omega)
  obtain ⟨x, hx⟩ : ∃ x, zF F I = x := ⟨_, rfl⟩
  obtain ⟨y, hy⟩ : ∃ y, zF F J = y := ⟨_, rfl⟩
  obtain ⟨z, hz⟩ : ∃ z, zF F K = z := ⟨_, rfl⟩
  rw [hx] at x1
  rw [hy] at y1
  rw [hz] at z1
  have X1 := hide x1
  have Y1 := hide y1
  have Z1 := hide z1
  have HX := hide hx
  have HY := hide hy
  have HZ := hide hz
  have KT := hide kT
  have KS := hide kS
  clear hF hf x1 y1 z1 hx hy hz kT kS
  go_enter Tryd.func7, Tryd.ntmps7
  go_upto_region 2 with fail
  rw [hT, hS]
  clear hT hS
  go_upto_region 5 with (go_at_call 23; (with_reducible refine (unhide c23).mono ?_); rintro e w1 ⟨q, c, rfl, i1, b1⟩; have B1 := hide b1; obtain ⟨bf, of, rfl, hfc, hc, f3, f4⟩ := il_cell (k := I) i1 hI2 (unhide hfl); rw [unhide HX] at f4; obtain ⟨bf', of', g0, -, -, -, f5⟩ := il_cell (k := J) i1 hJ2 (unhide hfl); cases g0; rw [unhide HY] at f5; obtain ⟨bf', of', g0, -, -, -, f6⟩ := il_cell (k := K) i1 hK2 (unhide hfl); cases g0; rw [unhide HZ] at f6; clear i1 b1)
  have SX := hide (show ∀ W, Below w1.heap.size w1 W → Below w1.heap.size w1 W ∧ W.cell? ⟨bf, of + I, none⟩ = some (.int .i64 x) ∧ W.cell? ⟨bf, of + J, none⟩ = some (.int .i64 y) ∧ W.cell? ⟨bf, of + K, none⟩ = some (.int .i64 z) from fun W hb => ⟨hb, (hb.cell (p := ⟨bf, of + I, none⟩) f3).trans f4, (hb.cell (p := ⟨bf, of + J, none⟩) f3).trans f5, (hb.cell (p := ⟨bf, of + K, none⟩) f3).trans f6⟩)
  have b5 := Below.refl w1.heap.size w1
  go_region_held3 (fun w' => Below w1.heap.size w1 w' ∧ w'.cell? ⟨bf, of + I, none⟩ = some (.int .i64 x) ∧ w'.cell? ⟨bf, of + J, none⟩ = some (.int .i64 y) ∧ w'.cell? ⟨bf, of + K, none⟩ = some (.int .i64 z))
    (first
      | assumption
      | exact unhide SX _ (by assumption)
      | exact unhide SX _ (below_drewN (by assumption) _)
      | exact unhide SX _ (below_drewN (by assumption) 1)
      | exact unhide SX _ (below_alloc (below_drewN (by assumption) _) _)
      | exact unhide SX _ (below_alloc (by assumption) _)) (fail)
  rename_i hsx
  clear hsx
  obtain ⟨wz, hwz⟩ : ∃ W : World, W = (w1.alloc (.cells #[.int .i64 x, .int .i64 y, .int .i64 z] 3)).drew := ⟨_, rfl⟩
  obtain ⟨gq, hgq⟩ : ∃ p : Option Addr, p = some ⟨w1.heap.size, 0, none⟩ := ⟨_, rfl⟩
  rw [← hwz, ← hgq]
  have BZ : Hid (Below w.heap.size w wz) := hide (hwz ▸ below_drewN ((unhide B1).alloc (unhide B1).size _) 1)
  have hlz : IL wz (.slice gq 3 3) [x, y, z] := by
    rw [hwz, hgq]
    exact (il_lit w1 [x, y, z] 3 3 rfl (by unfold maxLen; omega)).below (below_drewN (Below.refl _ _) 1) (Nat.le_refl _)
  clear hwz hgq f4 f5 f6 SX b5 hI hJ hK hI' hJ' hK' hIi hJi hKi hw hnz c23
  obtain ⟨bg, og, rfl, -, -, g1, g2⟩ := il_cell (k := 0) hlz (by omega) (by simp)
  obtain ⟨bg', og', g0, -, -, -, g3⟩ := il_cell (k := 1) hlz (by omega) (by simp)
  cases g0
  obtain ⟨bg', og', g0, -, -, -, g4⟩ := il_cell (k := 2) hlz (by omega) (by simp)
  cases g0
  rw [Nat.add_zero] at g2
  simp only [zF, List.getD_cons_zero, List.getD_cons_succ] at g2 g3 g4
  obtain ⟨fo, h0, h1, h2, hfo⟩ : ∃ fo : Nat → Int, fo 0 = x ∧ fo 1 = y ∧ fo 2 = z ∧ ∀ i, IsN (fo i) ∧ gp T S < gp T (fo i) := by
    refine ⟨fun i => if i = 0 then x else if i = 1 then y else z, rfl, rfl, rfl, fun i => ?_⟩
    by_cases e0 : i = 0
    · subst e0; exact ⟨(unhide X1).1, (unhide X1).2.1⟩
    · by_cases e1 : i = 1
      · subst e1; exact ⟨(unhide Y1).1, (unhide Y1).2.1⟩
      · simp only [e0, e1, if_false]; exact ⟨(unhide Z1).1, (unhide Z1).2.1⟩
  obtain ⟨go, hgo⟩ : ∃ go : Nat → Int, ∀ i, go i = fo (2 - i) := ⟨fun i => fo (2 - i), fun i => rfl⟩
  have hgo2 : ∀ i, IsN (go i) ∧ gp T S < gp T (go i) := fun i => by rw [hgo]; exact hfo _
  have HT := hide (oF_turn (unhide KT) hfo (fun i _ => hgo i) hgo2)
  have CA := hide (fun k (hk : k < 3) v W (hb : Below w.heap.size w W) => ord_ask (unhide KT) (unhide KS) hfo k hk v W (unhide HG W hb))
  have CB := hide (fun k (hk : k < 3) v W (hb : Below w.heap.size w W) => ord_ask (unhide KT) (unhide KS) hgo2 k hk v W (unhide HG W hb))
  have HGO := hide hgo
  have HC := hide (show ∀ W, Below wz.heap.size wz W → ∀ i, i < 3 → W.cell? ⟨bg, og + i, none⟩ = some (.int .i64 (fo i)) from fun W hb i hi => by
    have hc : wz.cell? ⟨bg, og + i, none⟩ = some (.int .i64 (fo i)) := by
      match i, hi with
      | 0, _ => rw [h0]; exact g2
      | 1, _ => rw [h1]; exact g3
      | 2, _ => rw [h2]; exact g4
    exact (hb.cell (p := ⟨bg, og + i, none⟩) g1).trans hc)
  clear h0 h1 h2 hfo hgo hgo2 g2 g3 g4 hlz
  go_wp2
  go_loopw [13, 14, 15] (fun xa xb xi w3 => ∃ i : Nat, i ≤ 3 ∧ xi = .int .i64 i ∧ ∃ (qa qb : Option Addr) (ma mb ca cb : Nat), xa = .slice qa ma ca ∧ xb = .slice qb mb cb ∧ Hid (KL w3 (.slice qa ma ca) (oF T fo i)) ∧ Hid (KL w3 (.slice qb mb cb) (oF T go i)) ∧ Hid (Below wz.heap.size wz w3)) (fun _ _ i _ => 3 - (intOf i).toNat)
  case atStart => exact ⟨0, by omega, rfl, none, none, 0, 0, 0, 0, rfl, rfl, hide (KL.nil _), hide (KL.nil _), hide (Below.refl _ _)⟩
  case round =>
    obtain ⟨i, hi, rfl, qa, qb, ma, mb, ca, cb, rfl, rfl, HA, HB, BR⟩ := hrel
    have HBR := hide ((unhide BZ).trans ((unhide BR).mono (unhide BZ).size))
    by_cases hlt : i < 3
    · have b1 : decide (i < 3) = true := decide_eq_true hlt
      obtain ⟨p, hp⟩ : ∃ p, 2 - i = p := ⟨_, rfl⟩
      have hgp : go i = fo p := by rw [unhide HGO, hp]
      have e0 : (2 : Int) - (i : Int) = (p : Int) := by omega
      have e1 : IntKind.i64.wrap ((2 : Int) - (i : Int)) = (p : Int) := by rw [e0, IntWalk.i64_left, IntWalk.wrap64_in _ (by omega)]
      have hi3 : (i : Int) < 3 := by omega
      have hp3 : (p : Int) < 3 := by omega
      have ca1 := hide (unhide CA i hlt (.slice qa ma ca) wr (unhide HBR) (unhide HA))
      have cb1 := unhide CB i hlt (.slice qb mb cb)
      rw [hgp] at cb1
      have cb1 := hide cb1
      have d1 := unhide HC wr (unhide BR) i hlt
      have D2 := hide (fun W hb => unhide HC W hb p (by omega))
      have wd0 : IntKind.i64.wrap 0 = 0 := rfl
      clear hp hgp
      generalize fo i = a at *
      generalize fo p = b at *
      have m1 := trivial
      go_wp2_with (first
        | (clear m1; go_at_call 10; refine (unhide ca1).mono ?_; rintro e w4 ⟨q4, n4, c4, rfl, k4, b4⟩; have K4 := hide k4; have B4 := hide ((unhide BR).trans (b4.mono (unhide BR).size)); have HB4 := hide ((unhide HB).below b4 (Nat.le_refl _)); have HBR4 := hide ((unhide HBR).trans (b4.mono (unhide HBR).size)); have d2 := unhide D2 w4 (unhide B4); clear k4 b4)
        | (go_at_call 10; refine (unhide cb1 _ (unhide HBR4) (unhide HB4)).mono ?_; rintro e w5 ⟨q5, n5, c5, rfl, k5, b5⟩; have K5 := hide k5; have B5 := hide ((unhide B4).trans (b5.mono (unhide B4).size)); have HA5 := hide ((unhide K4).below b5 (Nat.le_refl _)); clear k5 b5))
      go_roundw
      case rel => exact ⟨i + 1, by omega, by go_num, _, _, _, _, _, _, rfl, rfl, HA5, K5, B5⟩
      case measure => simp [intOf]; omega
    · obtain rfl : i = 3 := by omega
      have c12 := hide (kids_same (oF T fo 3) _ _ wr (unhide HA) (by rw [unhide HT]; exact unhide HB))
      have C15 := hide (show ∀ j, j < 3 → ∀ W, Below wr.heap.size wr W → Calls Tryd.prog 15 #[.slice qa ma ca, .int .i64 (fo j)] W fun e w' => e = .returned (.bool true) ∧ Below wr.heap.size wr w' from fun j hj W hb => by
        have := has_k (oF T fo 3) (fo j) _ W ((unhide HA).below hb (Nat.le_refl _))
        rw [oF_hs T fo hj] at this
        exact this.mono fun e w' (r : e = .returned (.bool true) ∧ Below W.heap.size W w') => And.intro r.1 (hb.trans (r.2.mono hb.size)))
      have x15 := hide (unhide C15 0 (by omega))
      have y15 := hide (unhide C15 1 (by omega))
      have z15 := hide (unhide C15 2 (by omega))
      have c19b := hide (fun W (hb : Below wr.heap.size wr W) => unhide c19 W ((unhide HBR).trans (hb.mono (unhide HBR).size)))
      have D := hide (show ∀ W, Below wr.heap.size wr W → W.cell? ⟨bg, og, none⟩ = some (.int .i64 (fo 0)) ∧ W.cell? ⟨bg, og + 1, none⟩ = some (.int .i64 (fo 1)) ∧ W.cell? ⟨bg, og + 2, none⟩ = some (.int .i64 (fo 2)) from fun W hb => by
        have hb2 := (unhide BR).trans (hb.mono (unhide BR).size)
        exact ⟨unhide HC W hb2 0 (by omega), unhide HC W hb2 1 (by omega), unhide HC W hb2 2 (by omega)⟩)
      clear C15 CA CB HC HGO HT
      generalize fo 0 = x' at *
      generalize fo 1 = y' at *
      generalize fo 2 = z' at *
      have m1 := trivial
      have m2 := trivial
      go_wp2_with (first
        | (go_at_call 12; refine (unhide c12).mono ?_; rintro e w4 ⟨rfl, b4⟩; have B4 := hide b4; obtain ⟨d0, d1, d2⟩ := unhide D w4 b4; clear b4)
        | (clear m1; go_at_call 15; refine (unhide x15 _ (unhide B4)).mono ?_; rintro e w5 ⟨rfl, b5⟩; have B5 := hide b5; obtain ⟨d10, d11, d12⟩ := unhide D w5 b5; clear b5)
        | (clear m2; go_at_call 15; refine (unhide y15 _ (unhide B5)).mono ?_; rintro e w6 ⟨rfl, b6⟩; have B6 := hide b6; obtain ⟨d20, d21, d22⟩ := unhide D w6 b6; clear b6)
        | (go_at_call 15; refine (unhide z15 _ (unhide B6)).mono ?_; rintro e w7 ⟨rfl, b7⟩; have B7 := hide b7; clear b7)
        | (go_at_call 19; refine (unhide c19b _ (unhide B7)).mono ?_; rintro e w8 ⟨rfl, b8⟩; have B8 := hide b8; clear b8))
      go_ret
      exact ⟨rfl, unhide B8⟩
theorem order_walk (t s n m k : Int) (w : World) (hG : Glob w) :
    Calls Tryd.prog 7 #[.int .i64 t, .int .i64 s, .int .i64 n, .int .i64 m, .int .i64 k] w fun e w' => e = .returned (.bool true) ∧ Below w.heap.size w w' := by
  by_cases h0 : (farK (t % 4) (s % 8) 8).length < 3
  · exact order_few t s n m k w hG h0
  · exact order_many t s n m k w hG h0
end Go.Proofs.YtgglnhnokhpnpaaDoor
