/- Walk of WireBack: two right messages. -/
import Derived.Test.YtmcmiojidgdjpaaBn33
namespace Go.Proofs.Ytmcmiojidgdjpaa
open Go.RowKit

set_option maxRecDepth 100000 in
set_option maxHeartbeats 4000000 in
theorem back_ok (m m' : Mg) (F G F' G' : Nat → Int) (p t p' t' : Option Addr) (n c k d n' c' k' d' : Nat) (at' : Int) (x0 x1 x2 x3 : Nat) (w : World) (hp : Sl .i64 w (.slice p n c) n F) (ht : Sl .i64 w (.slice t k d) k G) (hp' : Sl .i64 w (.slice p' n' c') n' F') (ht' : Sl .i64 w (.slice t' k' d') k' G')
    (h : chkB m F n G k = true) (h' : chkB m' F' n' G' k' = true) (b0 : x0 < 256) (b1 : x1 < 256) (b2 : x2 < 256) (b3 : x3 < 256) :
    Calls Try.prog 4 #[mv m (.slice p n c) (.slice t k d), mv m' (.slice p' n' c') (.slice t' k' d'), .int .i64 at', .agg #[.int .u8 (x0 : Int), .int .u8 (x1 : Int), .int .u8 (x2 : Int), .int .u8 (x3 : Int)]] w fun e w' => e = .returned (.bool true) ∧ Below w.heap.size w w' := by
  obtain ⟨n8, k8, _, _⟩ := lists_of m F G n k h
  obtain ⟨n8', k8', _, _⟩ := lists_of m' F' G' n' k' h'
  have hX : ∀ j, j < 4 → Cr.four x0 x1 x2 x3 j < 256 := by
    intro j hj
    match j, hj with
    | 0, _ => exact b0
    | 1, _ => exact b1
    | 2, _ => exact b2
    | 3, _ => exact b3
  obtain ⟨N, hN⟩ : ∃ N, N = 48 + n + k := ⟨_, rfl⟩
  obtain ⟨L, hL⟩ : ∃ L, L = 48 + n' + k' := ⟨_, rfl⟩
  obtain ⟨q, hq, hq2⟩ := Cr.modN at' (N - 3) (by omega) (by omega)
  have hq' : wrap64 ((IntKind.u64.wrap at').tmod ((N : Int) - 3)) = (q : Int) := by
    rw [show (N : Int) - 3 = ((N - 3 : Nat) : Int) by omega]
    exact hq
  have CA := hide (fun w => heavy_any m p t n k c d w)
  have CB := hide (fun w => heavy_any m' p' t' n' k' c' d' w)
  rw [show (decide (30 < n) || decide (30 < k)) = false by simp; omega] at CA
  rw [show (decide (30 < n') || decide (30 < k')) = false by simp; omega] at CB
  have EA : Hid (∀ w1, Below w.heap.size w w1 → Calls Try.prog 10 #[mv m (.slice p n c) (.slice t k d)] w1 fun e w' => ∃ g f, e = .returned (.tuple #[.slice (some ⟨g, 0, none⟩) N f, .int .i64 0]) ∧ w1.heap.size ≤ g ∧ N ≤ f ∧ f ≤ maxLen ∧ w'.ownsRow w1.heap.size 5 1 (.slice (some ⟨g, 0, none⟩) N f) N (Cr.bL (frD m F n G k) N) ∧ Below w1.heap.size w1 w') := by
    refine hide fun w1 hb => (enc_ok m F G _ _ n k w1 (hp.below hb (Nat.le_refl _)) (ht.below hb (Nat.le_refl _)) h).mono ?_
    rintro e w' ⟨v, rfl, o, b⟩
    rw [← hN] at o
    obtain ⟨g, f, rfl, l1, l2⟩ := Cr.owns_some o (by omega)
    exact ⟨g, f, rfl, (o.lt _ rfl).1, l1, l2, o, b⟩
  have EB : Hid (∀ w1, Below w.heap.size w w1 → Calls Try.prog 10 #[mv m' (.slice p' n' c') (.slice t' k' d')] w1 fun e w' => ∃ q f, e = .returned (.tuple #[.slice q L f, .int .i64 0]) ∧ Cr.Bs w' (.slice q L f) L (frD m' F' n' G' k') ∧ Below w1.heap.size w1 w') := by
    refine hide fun w1 hb => (enc_ok m' F' G' _ _ n' k' w1 (hp'.below hb (Nat.le_refl _)) (ht'.below hb (Nat.le_refl _)) h').mono ?_
    rintro e w' ⟨v, rfl, o, b⟩
    rw [← hL] at o
    obtain ⟨q, f, rfl⟩ := owns_shape o
    exact ⟨q, f, rfl, Cr.bs_of_owns o, b⟩
  have D1 : Hid (∀ v w1, Cr.Bs w1 v N (frD m F n G k) → Calls Try.prog 11 #[v] w1 fun e w' => ∃ q d r f, e = .returned (.tuple #[mv m (.slice q n d) (.slice r k f), .int .i64 0]) ∧ Sl .i64 w' (.slice q n d) n F ∧ Sl .i64 w' (.slice r k f) k G ∧ Below w1.heap.size w1 w') := by
    refine hide fun v w1 hs => (dec_fr m F G n k h v w1 (by rw [← hN]; exact hs)).mono ?_
    rintro e w' ⟨q, d, r, f, rfl, o1, o2, b⟩
    exact ⟨q, d, r, f, rfl, sl_of_owns o1, sl_of_owns o2, b⟩
  have M1 : Hid (∀ q e r f w1, Below w.heap.size w w1 → Sl .i64 w1 (.slice q n e) n F → Sl .i64 w1 (.slice r k f) k G → ∀ w2, Below w1.heap.size w1 w2 → Calls Try.prog 13 #[mv m (.slice q n e) (.slice r k f), mv m (.slice p n c) (.slice t k d)] w2 fun e w' => e = .returned (.bool true) ∧ Below w2.heap.size w2 w') := by
    refine hide fun q e r f w1 hb h1 h2 w2 hb2 => ?_
    have z := keepMsg_any m m F G F G (.slice q n e) (.slice r k f) (.slice p n c) (.slice t k d) n k n k w2 (h1.below hb2 (Nat.le_refl _)) (h2.below hb2 (Nat.le_refl _)) (hp.below (below_of hb hb2) (Nat.le_refl _)) (ht.below (below_of hb hb2) (Nat.le_refl _))
    rwa [(same_iff m m F G F G n k n k).2 ⟨rfl, rfl, rfl, fun _ _ => rfl, fun _ _ => rfl⟩] at z
  have M2 : Hid (∀ w1, Below w.heap.size w w1 → Calls Try.prog 13 #[mv m (.slice p n c) (.slice t k d), mv m' (.slice p' n' c') (.slice t' k' d')] w1 fun e w' => e = .returned (.bool (samB m F n G k m' F' n' G' k')) ∧ Below w1.heap.size w1 w') :=
    hide fun w1 hb => keepMsg_any m m' F G F' G' _ _ _ _ n k n' k' w1 (hp.below hb (Nat.le_refl _)) (ht.below hb (Nat.le_refl _)) (hp'.below hb (Nat.le_refl _)) (ht'.below hb (Nat.le_refl _))
  have M3 : Hid (∀ va vb w1, Cr.Bs w1 va N (frD m F n G k) → Cr.Bs w1 vb L (frD m' F' n' G' k') → ∀ w2, Below w1.heap.size w1 w2 → Calls Try.prog 14 #[va, vb] w2 fun e w' => e = .returned (.bool (samB m F n G k m' F' n' G' k')) ∧ Below w2.heap.size w2 w') := by
    refine hide fun va vb w1 h1 h2 w2 hb => bytes_fr m m' F G F' G' n k n' k' h h' va vb w2 ?_ ?_
    · rw [← hN]; exact Sl.below h1 hb (Nat.le_refl _)
    · rw [← hL]; exact Sl.below h2 hb (Nat.le_refl _)
  obtain ⟨X, hXe⟩ : ∃ X, X = Cr.four x0 x1 x2 x3 := ⟨_, rfl⟩
  rw [← hXe] at hX
  have D2 : Hid (∀ v w1, Cr.Bs w1 v N (Cr.xorD (frD m F n G k) q X 4) → Calls Try.prog 11 #[v] w1 fun e w' => ∃ cs, e = .returned (.tuple #[.agg cs, .int .i64 (if Cr.chg X 4 then 4 else 0)]) ∧ (Cr.chg X 4 = true → cs = #[.int .i64 0, .int .i64 0, .int .i64 0, .int .i64 0, .int .i64 0, .int .i64 0, .int .i64 0, .int .i64 0, .int .i64 0, .int .i64 0, .int .i64 0, .int .i64 0, .int .i64 0, .int .i64 0, .slice none 0 0, .slice none 0 0]) ∧ cs.size = 16 ∧ cs.all (·.oneCell') = true ∧ Below w1.heap.size w1 w') := by
    refine hide fun v w1 hs => ?_
    rw [hN] at hs
    by_cases hz : ∀ j, j < 4 → X j = 0
    · rw [Cr.chg_false X 4 hz]
      refine (dec_xor_same m F G n k q X h hz v w1 hs).mono ?_
      rintro e w' ⟨q, d, r, f, rfl, _, _, b⟩
      exact ⟨_, rfl, fun h => (by cases h), rfl, by simp [Value.oneCell'], b⟩
    · rw [Cr.chg_true X 4 hz]
      refine (dec_xor_bad m F G n k q X h hX (by omega) hz v w1 hs).mono ?_
      rintro e w' ⟨rfl, b⟩
      exact ⟨_, rfl, fun _ => rfl, rfl, by simp [Value.oneCell'], b⟩
  have hlt := fr_lt m F G n k h
  generalize samB m F n G k m' F' n' G' k' = Y at *
  generalize frD m F n G k = D at *
  generalize frD m' F' n' G' k' = D' at *
  have hset := fun j (_ : j < 4) => Cr.xorD_set D q X j N (by omega)
  have hx8 : ∀ j, j < 4 → bits .xor .u8 ((Cr.xorD D q X j (q + j) : Nat) : Int) ((X j : Nat) : Int) = ((D (q + j) ^^^ X j : Nat) : Int) := by
    intro j hj
    rw [Cr.xorD, if_neg (by omega)]
    exact u8_xor_nat _ _ (hlt _) (hX j hj)
  have HS := hide hset
  have HX := hide hx8
  have HXb := hide hX
  have h0 : Cr.bL (Cr.xorD D q X 0) N = Cr.bL D N := vL_congr fun j _ => by rw [Cr.xorD_zero]
  have H0 := hide h0
  have h48 : 48 ≤ N := by omega
  have h80 : N ≤ 80 := by omega
  have hqN : q + 3 < N := by omega
  clear hset hx8 hX h0 h h' hp ht hp' ht' hlt hN hL hq hq2 n8 k8 n8' k8'
  unfold mv at CA CB EA EB D1 M1 M2
  unfold mv
  obtain ⟨w0, hw0⟩ : ∃ x, x = ((w.alloc (.cells #[.int .i64 m.kd, .int .i64 m.fr, .int .i64 m.fi, .int .i64 m.tw, .int .i64 m.ti, .int .i64 m.tp, .int .i64 m.ep, .int .i64 m.sq, .int .i64 m.la, .int .i64 m.va, .int .i64 m.no, .int .i64 m.ic, .int .i64 m.ct, .int .i64 m.hp, .slice p n c, .slice t k d] 24)).alloc (.cells #[.int .i64 m'.kd, .int .i64 m'.fr, .int .i64 m'.fi, .int .i64 m'.tw, .int .i64 m'.ti, .int .i64 m'.tp, .int .i64 m'.ep, .int .i64 m'.sq, .int .i64 m'.la, .int .i64 m'.va, .int .i64 m'.no, .int .i64 m'.ic, .int .i64 m'.ct, .int .i64 m'.hp, .slice p' n' c', .slice t' k' d'] 24)).alloc (.cells #[.int .u8 (x0 : Int), .int .u8 (x1 : Int), .int .u8 (x2 : Int), .int .u8 (x3 : Int)] 39) := ⟨_, rfl⟩
  have HW0 := hide hw0
  have B0 : Hid (Below w.heap.size w w0) := hide (by rw [hw0]; exact boxed_below w _ _ _)
  have GA : Hid (Has w0 w.heap.size (.cells #[.int .i64 m.kd, .int .i64 m.fr, .int .i64 m.fi, .int .i64 m.tw, .int .i64 m.ti, .int .i64 m.tp, .int .i64 m.ep, .int .i64 m.sq, .int .i64 m.la, .int .i64 m.va, .int .i64 m.no, .int .i64 m.ic, .int .i64 m.ct, .int .i64 m.hp, .slice p n c, .slice t k d] 24)) := hide (by rw [hw0]; exact boxed_a w _ _ _)
  have GB : Hid (Has w0 (w.heap.size + 1) (.cells #[.int .i64 m'.kd, .int .i64 m'.fr, .int .i64 m'.fi, .int .i64 m'.tw, .int .i64 m'.ti, .int .i64 m'.tp, .int .i64 m'.ep, .int .i64 m'.sq, .int .i64 m'.la, .int .i64 m'.va, .int .i64 m'.no, .int .i64 m'.ic, .int .i64 m'.ct, .int .i64 m'.hp, .slice p' n' c', .slice t' k' d'] 24)) := hide (by rw [hw0]; exact boxed_b w _ _ _)
  have GX : Hid (∀ j, j < 4 → w0.cell? ⟨w.heap.size + 1 + 1, j, none⟩ = some (.int .u8 ((X j : Nat) : Int))) := by
    refine hide fun j hj => mv_cell (by rw [hw0]; exact (boxed_x w _ _ _).2) j _ ?_
    rw [hXe]
    match j, hj with
    | 0, _ | 1, _ | 2, _ | 3, _ => rfl
  have LX : Hid (w.heap.size + 1 + 1 < w0.heap.size) := hide (by rw [hw0]; exact (boxed_x w _ _ _).1)
  have BW : Hid (Below w0.heap.size w0 w0) := hide (Below.refl _ _)
  clear hw0 hXe
  go_enter Try.func4, Try.ntmps4
  go_upto_region 1 with fail
  rw [← unhide HW0]
  go_upto_region 8 with (first
    | (refine wpList_load24 (.tmp 4) rfl (by first | rfl | simp [Region.wanted, yielded]) w.heap.size #[.int .i64 m.kd, .int .i64 m.fr, .int .i64 m.fi, .int .i64 m.tw, .int .i64 m.ti, .int .i64 m.tp, .int .i64 m.ep, .int .i64 m.sq, .int .i64 m.la, .int .i64 m.va, .int .i64 m.no, .int .i64 m.ic, .int .i64 m.ct, .int .i64 m.hp, .slice p n c, .slice t k d] rfl ((unhide GA).below (unhide BW)).2 rfl ?_)
    | (refine wpList_load24 (.tmp 5) rfl (by first | rfl | simp [Region.wanted, yielded]) (w.heap.size + 1) #[.int .i64 m'.kd, .int .i64 m'.fr, .int .i64 m'.fi, .int .i64 m'.tw, .int .i64 m'.ti, .int .i64 m'.tp, .int .i64 m'.ep, .int .i64 m'.sq, .int .i64 m'.la, .int .i64 m'.va, .int .i64 m'.no, .int .i64 m'.ic, .int .i64 m'.ct, .int .i64 m'.hp, .slice p' n' c', .slice t' k' d'] rfl ((unhide GB).below (unhide BW)).2 rfl ?_)
    | (go_at_call 7; with_reducible refine (unhide CA _).mono ?_; rintro e w1 ⟨rfl, b1⟩; replace BW := hide (below_of (unhide BW) b1); clear b1)
    | (go_at_call 7; with_reducible refine (unhide CB _).mono ?_; rintro e w2 ⟨rfl, b2⟩; replace BW := hide (below_of (unhide BW) b2); clear b2)
    | (go_at_call 10; with_reducible refine (unhide EA _ (below_of (unhide B0) (unhide BW))).mono ?_; rintro e w3 ⟨g, f, rfl, l1, l2, l3, o3, b3⟩; have LG := hide (Nat.le_trans (unhide BW).size l1); have LF := hide (And.intro l2 l3); have O3 := hide (owns_mono o3 (unhide BW).size); replace BW := hide (below_of (unhide BW) b3); clear b3 l1 l2 l3 o3)
    | (go_at_call 10; with_reducible refine (unhide EB _ (below_of (unhide B0) (unhide BW))).mono ?_; rintro e w4 ⟨q4, f4, rfl, s4, b4⟩; have S4 := hide s4; replace O3 := hide (Cr.owns_below (unhide O3) b4); replace BW := hide (below_of (unhide BW) b4); clear b4 s4)
    | (go_at_call 11; with_reducible refine (unhide D1 _ _ (Cr.bs_of_owns (unhide O3))).mono ?_; rintro e w5 ⟨q5, d5, r5, f5, rfl, s5, t5, b5⟩; have S5 := hide s5; have T5 := hide t5; replace S4 := hide (bs_below (unhide S4) b5); replace O3 := hide (Cr.owns_below (unhide O3) b5); replace BW := hide (below_of (unhide BW) b5); clear b5 s5 t5)
    | (refine wpList_store_last rfl (.tmp 13) (.tmp 63) rfl _ _ rfl rfl rfl _ rfl rfl (by simp [Value.oneCell']) ?_))
  obtain ⟨w6, hw6⟩ : ∃ x, x = w5.alloc (.cells #[.int .i64 m.kd, .int .i64 m.fr, .int .i64 m.fi, .int .i64 m.tw, .int .i64 m.ti, .int .i64 m.tp, .int .i64 m.ep, .int .i64 m.sq, .int .i64 m.la, .int .i64 m.va, .int .i64 m.no, .int .i64 m.ic, .int .i64 m.ct, .int .i64 m.hp, .slice q5 n d5, .slice r5 k f5] 24) := ⟨_, rfl⟩
  have b6 : Below w5.heap.size w5 w6 := by rw [hw6]; exact below_alloc (Below.refl _ _) _
  have g6 : Has w6 w5.heap.size (.cells #[.int .i64 m.kd, .int .i64 m.fr, .int .i64 m.fi, .int .i64 m.tw, .int .i64 m.ti, .int .i64 m.tp, .int .i64 m.ep, .int .i64 m.sq, .int .i64 m.la, .int .i64 m.va, .int .i64 m.no, .int .i64 m.ic, .int .i64 m.ct, .int .i64 m.hp, .slice q5 n d5, .slice r5 k f5] 24) := by rw [hw6]; exact Has.new _ _
  have s5 := (unhide S5).below b6 (Nat.le_refl _)
  have t5 := (unhide T5).below b6 (Nat.le_refl _)
  have s4 := bs_below (unhide S4) b6
  have o3 := Cr.owns_below (unhide O3) b6
  have bw := below_of (unhide BW) b6
  have bww := below_of (unhide B0) bw
  have m1 := unhide M1 _ _ _ _ _ bww s5 t5
  have m2 := fun w2 (hb : Below w6.heap.size w6 w2) => unhide M2 w2 (below_of bww hb)
  have m3 := unhide M3 _ _ _ (Cr.bs_of_owns o3) s4
  rw [← hw6]
  refine back8 8 _ _ w6 w.heap.size (w.heap.size + 1) w5.heap.size _ _ _ _ N f _ L _ Y rfl rfl rfl rfl rfl rfl rfl ((unhide GA).below bw).2 ((unhide GB).below bw).2 g6.2 rfl rfl rfl (decide_eq_false (by omega)) (decide_eq_false (by omega)) m1 m3 m2 ?_
  intro w7 b7
  have o7 : w7.ownsRow w0.heap.size 5 1 (.slice (some ⟨g, 0, none⟩) N f) N (Cr.bL (Cr.xorD D q X 0) N) := by
    rw [unhide H0]
    exact Cr.owns_below o3 b7
  have HO := hide o7
  have HB := hide (below_of bw b7)
  clear o7 o3 b7 bw bww b6 g6 s5 t5 s4 m1 m2 m3 hw6 S4 S5 T5 O3 BW M1 M2 M3 D1 EA EB CA CB H0 GA GB HW0
  simp only [Act.put, List.setIfInBounds_toArray, List.set_cons_succ, List.set_cons_zero]
  go_wp2
  go_loopw [15, 16] (fun xc xi w4 => ∃ j : Nat, j ≤ 4 ∧ xi = .int .i64 j ∧ xc = .bool (Cr.chg X j) ∧ w4.ownsRow w0.heap.size 5 1 (.slice (some ⟨g, 0, none⟩) N f) N (Cr.bL (Cr.xorD D q X j) N) ∧ Below w0.heap.size w0 w4) (fun _ i _ => 4 - (intOf i).toNat)
  case atStart => exact ⟨0, by omega, rfl, rfl, unhide HO, unhide HB⟩
  case round =>
    clear HO HB
    obtain ⟨j, hj, rfl, rfl, hown, hbel⟩ := hrel
    by_cases hlt : j < 4
    · have hx := unhide HX j hlt
      have hset := unhide HS j hlt
      have hst := hown.stored (q + j) (.int .u8 ((D (q + j) ^^^ X j : Nat) : Int))
      rw [hset] at hst
      have hst2 : Below w0.heap.size w0 (wr.setCell ⟨g, q + j, none⟩ (.int .u8 ((D (q + j) ^^^ X j : Nat) : Int))) := hbel.grown hst.2 hbel.size (by intro k h; cases h; exact unhide LG)
      have ST2 := hide hst2
      have hc : wr.cell? ⟨g, q + j, none⟩ = some (.int .u8 ((Cr.xorD D q X j (q + j) : Nat) : Int)) := by rw [hown.cellAt (q + j) (by omega), Cr.bL, vL_get _ _ _ _ (by omega)]
      have hf := hown.frozenAt (q + j)
      have hbx : wr.cell? ⟨w.heap.size + 1 + 1, j, none⟩ = some (.int .u8 ((X j : Nat) : Int)) := (hbel.cell (p := ⟨w.heap.size + 1 + 1, j, none⟩) (unhide LX)).trans (unhide GX j hlt)
      have HBk := hide (unhide GX j hlt)
      have ST := hide hst
      clear hst hst2 hset hown hbel
      have hX8 := unhide HXb j hlt
      have hN : Cr.chg X (j + 1) = (Cr.chg X j || X j != 0) := rfl
      have HN := hide hN
      clear hN
      generalize Cr.chg X j = cc at *
      generalize X j = x at *
      generalize Cr.xorD D q X j (q + j) = y at *
      generalize D (q + j) ^^^ x = z at *
      have lf := unhide LF
      unfold maxLen at lf
      go_wp2
      go_region
      obtain ⟨w5', hw5⟩ : ∃ w5', w5' = (wr.setCell ⟨g, q + j, none⟩ (.int .u8 (z : Int))).drew := ⟨_, rfl⟩
      have hbel5 : Below w0.heap.size w0 w5' := by rw [hw5]; exact below_drewN (unhide ST2) 1
      have hown5 := Cr.owns_below (w' := w5') (unhide ST).1 (by rw [hw5]; exact below_drewN (Below.refl _ _) 1)
      have hbx5 : w5'.cell? ⟨w.heap.size + 1 + 1, j, none⟩ = some (.int .u8 (x : Int)) := (hbel5.cell (p := ⟨w.heap.size + 1 + 1, j, none⟩) (unhide LX)).trans (unhide HBk)
      have HO5 := hide hown5
      have HB5 := hide hbel5
      rw [← hw5]
      clear hw5 hown5 hbel5 ST ST2 hbx hc hf
      cases cc with
      | true =>
        go_wp2
        go_roundw
        case rel => exact ⟨j + 1, by omega, by go_num, by rw [unhide HN]; rfl, unhide HO5, unhide HB5⟩
        case measure => simp [intOf]; omega
      | false =>
        go_wp2
        go_roundw
        case rel => exact ⟨j + 1, by omega, by go_num, by rw [unhide HN, Bool.false_or, ← Cr.nz], unhide HO5, unhide HB5⟩
        case measure => simp [intOf]; omega
    · obtain rfl : j = 4 := by omega
      have O4 := hide hown
      have B4 := hide hbel
      clear hown hbel
      generalize Cr.chg X 4 = cc at *
      cases cc with
      | true =>
        go_wp2_with (first
          | (go_at_call 11; with_reducible refine (unhide D2 _ _ (Cr.bs_of_owns (unhide O4))).mono ?_; rintro e w6' ⟨cs, rfl, h6, h7, h8, b6⟩; obtain rfl := h6 rfl; replace B4 := hide ((unhide B4).trans (b6.mono (unhide B4).size)); clear b6 h6 h7 h8)
          | (refine wpList_store_last rfl (.tmp 17) (.tmp 129) rfl _ _ rfl rfl rfl _ rfl rfl (by simp [Value.oneCell']) ?_; have G6 := hide (Has.new w6' (.cells #[.int .i64 0, .int .i64 0, .int .i64 0, .int .i64 0, .int .i64 0, .int .i64 0, .int .i64 0, .int .i64 0, .int .i64 0, .int .i64 0, .int .i64 0, .int .i64 0, .int .i64 0, .int .i64 0, .slice none 0 0, .slice none 0 0] 24)); replace B4 := hide ((unhide B4).alloc (unhide B4).size (.cells #[.int .i64 0, .int .i64 0, .int .i64 0, .int .i64 0, .int .i64 0, .int .i64 0, .int .i64 0, .int .i64 0, .int .i64 0, .int .i64 0, .int .i64 0, .int .i64 0, .int .i64 0, .int .i64 0, .slice none 0 0, .slice none 0 0] 24)))
          | (refine wpList_load24 (.tmp 17) rfl (by first | rfl | simp [Region.wanted, yielded]) w6'.heap.size #[.int .i64 0, .int .i64 0, .int .i64 0, .int .i64 0, .int .i64 0, .int .i64 0, .int .i64 0, .int .i64 0, .int .i64 0, .int .i64 0, .int .i64 0, .int .i64 0, .int .i64 0, .int .i64 0, .slice none 0 0, .slice none 0 0] rfl (unhide G6).2 rfl ?_)
          | (go_at_call 13; with_reducible refine (keep_zero _).mono ?_; rintro e w7' ⟨rfl, b7⟩; replace B4 := hide ((unhide B4).trans (b7.mono (unhide B4).size)); clear b7)
          | (go_at_call 16; with_reducible refine (wakes_any _).mono ?_; rintro e w8 ⟨rfl, b8⟩; replace B4 := hide ((unhide B4).trans (b8.mono (unhide B4).size)); clear b8))
        go_ret
        exact ⟨rfl, below_of (unhide B0) (unhide B4)⟩
      | false =>
        go_wp2_with (first
          | (go_at_call 11; with_reducible refine (unhide D2 _ _ (Cr.bs_of_owns (unhide O4))).mono ?_; rintro e w6' ⟨cs, rfl, h6, h7, h8, b6⟩; have H7 := hide h7; have H8 := hide h8; replace B4 := hide ((unhide B4).trans (b6.mono (unhide B4).size)); clear b6 h6 h7 h8)
          | (refine wpList_store_last rfl (.tmp 17) (.tmp 129) rfl _ cs rfl rfl rfl _ rfl (unhide H7) (unhide H8) ?_; replace B4 := hide ((unhide B4).alloc (unhide B4).size (.cells cs 24)))
          | (go_at_call 16; with_reducible refine (wakes_any _).mono ?_; rintro e w8 ⟨rfl, b8⟩; replace B4 := hide ((unhide B4).trans (b8.mono (unhide B4).size)); clear b8))
        go_ret
        exact ⟨rfl, below_of (unhide B0) (unhide B4)⟩
end Go.Proofs.Ytmcmiojidgdjpaa
