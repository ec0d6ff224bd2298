/- Walk of bellwetherlaw12.PathWhole. -/
import Derived.Test.YtmdkaomjjglfjaaDoorV1
import Derived.Test.YtmdkaomjjglfjaaDoorW1
namespace Go.Proofs.YtmdkaomjjglfjaaDoor
open Go.RowKit

theorem cell_oneV (u : Value) (w : World) (t : TypeId) : (w.alloc (.cells #[u] t)).cell? ⟨w.heap.size, 0, none⟩ = some u := by simp [go_sem]
theorem chk_right {T : Int} {i : Nat} {L : List Int} (hT : IsT T) (hi : i < 8) (hl : L.length ≤ 8) (h : ne T i L = true) : chk T i L 8 = 0 :=
  chk_zero.2 ⟨⟨hT, by omega, by omega⟩, ⟨by omega, by omega⟩, nd_of_ne h, by omega, h⟩
theorem take_next {P : List (List Int)} {k : Nat} (h : k < P.length) : P.take (k + 1) = P.take k ++ [zL P k] := by
  rw [List.take_add_one]
  simp [zL, List.getD, List.getElem?_eq_getElem h]
theorem LO.own {w : World} {B g n cap : Nat} {P : List (List Int)} (h : LO w B (.slice (some ⟨g, 0, none⟩) n cap) P) : B ≤ g ∧ g < w.heap.size := by
  obtain ⟨V, _, h2, _⟩ := h
  exact h2.lt g rfl
theorem ol_one (w : World) (x : Int) : OL (w.alloc (.cells #[.int .i64 x] 3)) 0 (.slice (some ⟨w.heap.size, 0, none⟩) 1 1) [x] :=
  World.ownsRow_lit w #[.int .i64 x] 1 (Nat.zero_le _) (by unfold maxLen; omega) rfl
theorem set_alloc (w : World) (o : Obj) (g y : Nat) (u : Value) (h : g < w.heap.size) : (w.alloc o).setCell ⟨g, y, none⟩ u = (w.setCell ⟨g, y, none⟩ u).alloc o := by
  simp [go_sem, h]
theorem mod8N (x : Int) : ∃ q : Nat, wrap64 ((IntKind.u64.wrap x).tmod 8) = (q : Int) ∧ q < 8 := ⟨(x % 8).toNat, by rw [mod8]; omega, by omega⟩
set_option maxHeartbeats 1000000 in
theorem whole_many (t : Int) (M0 : List (List Int)) (v1 : Value) (w : World) (h : LL w v1 M0) (h8 : 8 < M0.length) :
    Calls Tryd.prog 4 #[.int .i64 t, v1] w fun e w' => e = .returned (.bool true) ∧ Below w.heap.size w w' := by
  obtain ⟨q, c, rfl⟩ := ll_form h
  clear h
  generalize M0.length = m at *
  go_enter Tryd.func4, Tryd.ntmps4
  go_wp2
  go_ret
  exact ⟨rfl, Below.refl _ _⟩
set_option maxRecDepth 100000 in
set_option maxHeartbeats 8000000 in
theorem whole_few (t : Int) (M0 : List (List Int)) (v1 : Value) (w : World) (hG : Glob w) (h : LL w v1 M0) (h8 : M0.length ≤ 8) :
    Calls Tryd.prog 4 #[.int .i64 t, v1] w fun e w' => e = .returned (.bool true) ∧ Below w.heap.size w w' := by
  obtain ⟨T, hT, kT⟩ : ∃ T, wrap64 ((IntKind.u64.wrap t).tmod 4) = T ∧ IsT T := ⟨_, mod4 t, mod4_topic t⟩
  have KT := hide kT
  have HG := hide hG
  obtain ⟨m, hm⟩ : ∃ m, M0.length = m := ⟨_, rfl⟩
  have HMM := hide (show m ≤ M0.length by omega)
  obtain ⟨q, c, rfl⟩ := ll_form h
  have HI := hide h
  rw [hm] at HI h8 ⊢
  clear hG kT h hm
  go_enter Tryd.func4, Tryd.ntmps4
  go_wp2
  rw [hT]
  clear hT
  go_loopw [5, 6] (fun xl xi w2 => ∃ i : Nat, i ≤ m ∧ xi = .int .i64 i ∧ ∃ P : List (List Int), P.length = i ∧ Hid (LO w2 w.heap.size xl P) ∧ Hid (Rt T P) ∧ Hid (Below w.heap.size w w2)) (fun _ i _ => m - (intOf i).toNat)
  case atStart => exact ⟨0, by omega, rfl, [], rfl, hide (LO.nil _ _), hide (fun j hj => absurd hj (Nat.not_lt_zero _)), hide (Below.refl _ _)⟩
  case round =>
    obtain ⟨i, hi, rfl, P, hP, HL, HR, HB⟩ := hrel
    have HP := hide hP
    clear hP
    obtain ⟨w2, hw2⟩ : ∃ x, x = wr := ⟨_, rfl⟩
    subst hw2
    obtain ⟨q5, c5, hq5⟩ := (unhide HL).form
    rw [unhide HP] at hq5
    subst hq5
    by_cases hlt : i < m
    · obtain ⟨b, off, q1, c1, rfl, hle, hc, hb, hck, hI⟩ := ll_cell (LL.below (unhide HI) (unhide HB) (Nat.le_refl _)) hlt (unhide HMM)
      obtain ⟨p, hp⟩ : ∃ p, (zL M0 i).length = p := ⟨_, rfl⟩
      rw [hp] at hck hI
      have HPL := hide (show p ≤ (zL M0 i).length by omega)
      have HI1 := hide hI
      have HCK := hide hck
      clear hI hp hck
      go_wp2
      go_loopw [7, 8, 9] (fun xp xa xk w3 => ∃ k : Nat, k ≤ p ∧ k ≤ 40 ∧ xk = .int .i64 k ∧ ∃ L : List Int, L.length ≤ 8 ∧ xa = .int .i64 (lst i L L.length) ∧ Hid (OL w3 w2.heap.size xp L) ∧ Hid (ne T i L = true) ∧ Hid (Below w2.heap.size w2 w3)) (fun _ _ k _ => p - (intOf k).toNat)
      case atStart => exact ⟨0, by omega, by omega, rfl, [], by simp, rfl, hide (OL.nil _ _), hide rfl, hide (Below.refl _ _)⟩
      case round =>
        obtain ⟨k, hk, hk40, rfl, L, hL8, rfl, HO, HN, HB3⟩ := hrel
        obtain ⟨qp, cp, hqp⟩ := owns_shape (unhide HO)
        subst hqp
        obtain ⟨l, hl⟩ : ∃ l, L.length = l := ⟨_, rfl⟩
        rw [hl] at HO hL8 ⊢
        have HLL := hide hl
        clear hl
        have hck := ((unhide HB3).cell (p := ⟨b, off + i, none⟩) hb).trans (unhide HCK)
        by_cases hex : k < p ∧ k < 40 ∧ l < 8
        · obtain ⟨h1, h2, h3⟩ := hex
          obtain ⟨b2, off2, rfl, hle2, hc2, hb2, hck2⟩ := il_cell ((unhide HI1).below (unhide HB3) (Nat.le_refl _)) h1 (unhide HPL)
          obtain ⟨X, hX, hX8⟩ := mod8N (zF (zL M0 i) k)
          have c16 := hide (nearer_nb T X (lst i L l) wr ((unhide HG).below ((unhide HB).trans ((unhide HB3).mono (unhide HB).size)) (unhide HG).size))
          have b1 : decide (k < p) = true := decide_eq_true h1
          have b2' : decide (k < 40) = true := decide_eq_true h2
          have b3 : decide (l < 8) = true := decide_eq_true h3
          have HX8 := hide hX8
          clear hX8
          cases hx : nb T X (lst i L l) with
          | true =>
            rw [hx] at c16
            have HN2 := hide (ne_snoc (unhide HN) (by rw [unhide HLL]; exact hx))
            have HE := hide (show lst i (L ++ [(X : Int)]) (l + 1) = X by have := lst_snoc i L (X : Int); rwa [unhide HLL] at this)
            have HL2 := hide (show (L ++ [(X : Int)]).length = l + 1 by rw [List.length_append, unhide HLL]; rfl)
            clear hx
            generalize lst i L l = at_ at *
            generalize zF (zL M0 i) k = x at *
            go_wp2_with (first
              | (go_at_call 16; rw [hX]; refine (unhide c16).mono ?_; rintro e wr ⟨rfl, rfl⟩)
              | (at_builtin; refine wpList_cat (by simp [Region.wanted]) (.tmp 60) (.tmp 62) rfl w2.heap.size _ _ L [(X : Int)] rfl ((unhide HO).below ((Below.refl _ _).alloc (Nat.le_refl _) _) (Nat.le_refl _)) rfl (il_lit1 _ X) (by rw [unhide HLL]; omega) (by simp) (by have := (unhide HB3).size; simp; omega) ?_; intro v4 w4 o4 b4; have O4 := hide o4; have B4 := hide (((unhide HB3).alloc (unhide HB3).size _).trans b4); clear o4 b4))
            go_roundw
            case rel => exact ⟨k + 1, by omega, by omega, by go_num, L ++ [(X : Int)], by rw [unhide HL2]; omega, by rw [unhide HL2, unhide HE], unhide O4 |> hide, HN2, B4⟩
            case measure => simp [intOf]; omega
          | false =>
            rw [hx] at c16
            clear hx
            generalize ha : lst i L l = at_ at *
            have HA := hide ha
            clear ha
            generalize zF (zL M0 i) k = x at *
            go_wp2_with (first
              | (go_at_call 16; rw [hX]; refine (unhide c16).mono ?_; rintro e wr ⟨rfl, rfl⟩))
            go_roundw
            case rel => exact ⟨k + 1, by omega, by omega, by go_num, L, by rw [unhide HLL]; exact hL8, by rw [unhide HLL, unhide HA], HO, HN, HB3⟩
            case measure => simp [intOf]; omega
        · go_upto_region 11 with fail
          go_cut [43] from 28 to 42 (fun x wc => x = .bool false ∧ wc = wr)
          case first => as_aux_lemma =>
            by_cases h1 : k < p
            · have b1 : decide (k < p) = true := decide_eq_true h1
              by_cases h2 : k < 40
              · have b2' : decide (k < 40) = true := decide_eq_true h2
                have b3 : decide (l < 8) = false := decide_eq_false (fun h3 => hex ⟨h1, h2, h3⟩)
                have b4 : ¬ l < 8 := fun h3 => hex ⟨h1, h2, h3⟩
                clear hex
                go_wp2
                go_meet
                exact ⟨by simp; omega, rfl⟩
              · have b2' : decide (k < 40) = false := decide_eq_false h2
                clear hex
                go_wp2
                go_meet
                exact ⟨rfl, rfl⟩
            · have b1 : decide (k < p) = false := decide_eq_false h1
              clear hex
              go_wp2
              go_meet
              exact ⟨rfl, rfl⟩
          case rest => as_aux_lemma =>
            obtain ⟨rfl, hw⟩ := hcut
            obtain rfl := hw.symm
            clear hw hex
            have hc0 : chk T i L 8 = 0 := chk_right (unhide KT) (by omega) (by rw [unhide HLL]; exact hL8) (unhide HN)
            have c14 := check_p T i L 8 (.slice qp l cp) wr ((unhide HG).below ((unhide HB).trans ((unhide HB3).mono (unhide HB).size)) (unhide HG).size) (unhide HO).il
            rw [hc0] at c14
            have c14 := hide c14
            have HR2 := hide ((unhide HR).snoc (by rw [unhide HP]; exact hc0))
            clear hc0
            go_wp2_with (first
              | (go_at_call 14; refine (unhide c14).mono ?_; rintro e wr ⟨rfl, rfl⟩)
              | (at_builtin; refine wpList_add (by simp [Region.wanted]) (.tmp 70) (.tmp 72) rfl w.heap.size _ _ P L rfl (((unhide HL).below (unhide HB3) (Nat.le_refl _)).below ((Below.refl _ _).alloc (Nat.le_refl _) _) (Nat.le_refl _)) _ rfl (cell_oneV _ _ 22) (((unhide HO).mono (Nat.zero_le _)).below ((Below.refl _ _).alloc (Nat.le_refl _) _) (Nat.le_refl _)) (by rw [unhide HP]; omega) (by have := (unhide HB).size; have := (unhide HB3).size; simp; omega) ?_; intro v4 w4 o4 b4; have O4 := hide o4; have B4 := hide ((((unhide HB).trans ((unhide HB3).mono (unhide HB).size)).alloc (by have := (unhide HB).size; have := (unhide HB3).size; omega) _).trans b4); clear o4 b4))
            go_roundw
            case rel => exact ⟨i + 1, by omega, by go_num, P ++ [L], by rw [List.length_append, unhide HP]; rfl, O4, HR2, B4⟩
            case measure => simp [intOf]; omega
    · obtain rfl : m = i := by omega
      clear HI HMM
      have HW := wh_right (unhide HR) (by rw [unhide HP]; exact h8)
      have c8 := whole_is T P (.slice q5 m c5) w2 ((unhide HG).below (unhide HB) (unhide HG).size) (unhide HL).ll
      rw [HW] at c8
      have c8 := hide c8
      have cK := hide (fun (w3 : World) (hb : Below w.heap.size w w3) => wakes_any w3 ((unhide HG).below hb (unhide HG).size))
      clear HW
      obtain ⟨E, hE⟩ : ∃ E : Bool, decide (m < 2 ∨ ((zL P 1).length = 0 ∧ (zL P 0).length = 0)) = E := ⟨_, rfl⟩
      have HE := hide hE
      clear hE
      go_upto_region 21 with (go_at_call 8; refine (unhide c8).mono ?_; rintro e w2 ⟨rfl, rfl⟩)
      go_cut [94] from 78 to 93 (fun x wc => x = .bool E ∧ wc = w2)
      case first => as_aux_lemma =>
        by_cases h2 : m < 2
        · have e1 : E = true := by rw [← unhide HE]; exact decide_eq_true (.inl h2)
          have b1 : decide (m < 2) = true := decide_eq_true h2
          have HE1 := hide e1
          clear e1
          go_wp2
          go_meet
          exact ⟨by rw [unhide HE1], rfl⟩
        · have b1 : decide (m < 2) = false := decide_eq_false h2
          obtain ⟨g, cap, q1, c1, hv, hle, hc, hg, k1, -⟩ := (unhide HL).cell (k := 1) (by rw [unhide HP]; omega)
          obtain ⟨g0, cap0, q0, c0, hv0, hle0, hc0, hg0, k0, -⟩ := (unhide HL).cell (k := 0) (by rw [unhide HP]; omega)
          rw [unhide HP] at hv hv0 hle hle0
          have hv1 := hv.symm.trans hv0
          cases hv1
          cases hv
          clear hv0
          by_cases h3 : (zL P 1).length = 0
          · rw [h3] at k1
            by_cases h4 : (zL P 0).length = 0
            · have e1 : E = true := by rw [← unhide HE]; exact decide_eq_true (.inr ⟨h3, h4⟩)
              have HE1 := hide e1
              rw [h4] at k0
              clear e1 h3 h4
              go_wp2
              go_meet
              exact ⟨by rw [unhide HE1], rfl⟩
            · have e1 : E = false := by rw [← unhide HE]; exact decide_eq_false (fun q => q.elim h2 (fun z => h4 z.2))
              have HE1 := hide e1
              have z0 : (((zL P 0).length : Int) == 0) = false := beq_false_of_ne (by omega)
              clear e1 h3 h4
              generalize (zL P 0).length = a0 at *
              go_wp2
              go_meet
              exact ⟨by rw [unhide HE1]; simp; omega, rfl⟩
          · have e1 : E = false := by rw [← unhide HE]; exact decide_eq_false (fun q => q.elim h2 (fun z => h3 z.1))
            have HE1 := hide e1
            have z0 : (((zL P 1).length : Int) == 0) = false := beq_false_of_ne (by omega)
            clear e1 h3
            generalize (zL P 1).length = a1 at *
            go_wp2
            go_meet
            exact ⟨by rw [unhide HE1]; simp; omega, rfl⟩
      case rest => as_aux_lemma =>
        obtain ⟨rfl, hw⟩ := hcut
        obtain rfl := hw.symm
        clear hw c8
        cases E with
        | true =>
          go_wp2_with (go_at_call 15; refine (unhide cK _ (unhide HB)).mono ?_; rintro e w5 ⟨rfl, hb⟩; have B5 := hide ((unhide HB).trans (hb.mono (unhide HB).size)); clear hb)
          go_ret
          exact ⟨rfl, unhide B5⟩
        | false =>
          have h2 : 2 ≤ m := by
            have := of_decide_eq_false (unhide HE)
            omega
          clear HE
          obtain ⟨w6, hw6⟩ : ∃ x, x = w2 := ⟨_, rfl⟩
          rw [← hw6] at HL HB ⊢
          clear hw6
          go_wp2
          go_loopw [11, 12] (fun xb xi w7 => ∃ i : Nat, i ≤ m ∧ xi = .int .i64 i ∧ ∃ Q : List (List Int), Hid (LO w7 w6.heap.size xb Q) ∧ Hid (Q = [] ∨ (Q.length = m ∧ wh Q = false)) ∧ Hid (Below w6.heap.size w6 w7)) (fun _ i _ => m - (intOf i).toNat)
          case atStart => exact ⟨0, by omega, rfl, [], hide (LO.nil _ _), hide (.inl rfl), hide (Below.refl _ _)⟩
          case round =>
            obtain ⟨i, hi, rfl, Q, HQ, HW, HB7⟩ := hrel
            obtain ⟨w7, hw7⟩ : ∃ x, x = wr := ⟨_, rfl⟩
            subst hw7
            obtain ⟨qb, cb, hqb⟩ := (unhide HQ).form
            subst hqb
            obtain ⟨x, hx⟩ : ∃ x, Q.length = x := ⟨_, rfl⟩
            have HQL := hide hx
            rw [hx] at HQ ⊢
            clear hx
            by_cases hlt : i < m
            · obtain ⟨g, cap, q1, c1, hv, hle, hc, hg, k1, hO⟩ := ((unhide HL).below (unhide HB7) (Nat.le_refl _)).cell (k := i) (by rw [unhide HP]; exact hlt)
              rw [unhide HP] at hv hle
              cases hv
              obtain ⟨a1, ha1⟩ : ∃ a, (zL P i).length = a := ⟨_, rfl⟩
              rw [ha1] at k1 hO
              have HA1 := hide ha1
              have HO1 := hide hO.il
              clear ha1 hO
              by_cases hex : 0 < a1 ∧ hd P i < m ∧ x = 0
              · obtain ⟨h3, h4, h5⟩ := hex
                subst h5
                have hQ0 : Q = [] := List.length_eq_zero_iff.1 (unhide HQL)
                subst hQ0
                have b1 : decide (0 < a1) = true := decide_eq_true h3
                have b2' : decide (hd P i < m) = true := decide_eq_true h4
                obtain ⟨b2, off2, rfl, hle2, hc2, hb2, k2⟩ := il_cell (unhide HO1) h3 (by rw [unhide HA1]; exact Nat.le_refl _)
                have hl := lv_yes (M := P) (n := i) (by rw [unhide HP]; exact hlt) (by rw [unhide HA1]; exact h3)
                have HH := hide (hd_lt (unhide HR).all hl).2
                rw [unhide HH, Nat.add_zero] at k2
                have HWB := hide (wh_bent (unhide HR) hl (by rw [unhide HP]; exact h4))
                clear hl
                obtain ⟨y, hy⟩ : ∃ y, hd P i = y := ⟨_, rfl⟩
                rw [hy] at k2 h4 b2' HWB HH
                clear hy HQL HW
                go_wp2
                go_loopw [11, 13] (fun xb xk w8 => ∃ k : Nat, k ≤ m ∧ xk = .int .i64 k ∧ Hid (LO w8 w6.heap.size xb (P.take k)) ∧ Hid (Below w6.heap.size w6 w8)) (fun _ k _ => m - (intOf k).toNat)
                case atStart => exact ⟨0, by omega, rfl, HQ, HB7⟩
                case round =>
                  clear k1 k2 hb2 hg
                  obtain ⟨k, hk, rfl, HQ8, HB8⟩ := hrel
                  by_cases hlt2 : k < m
                  · obtain ⟨g3, cap3, q3, c3, hv3, hle3, hc3, hg3, k3, hO3⟩ := ((unhide HL).below (unhide HB8) (Nat.le_refl _)).cell (k := k) (by rw [unhide HP]; exact hlt2)
                    rw [unhide HP] at hv3 hle3
                    cases hv3
                    have HO3 := hide hO3
                    have HT := hide (take_next (P := P) (k := k) (by rw [unhide HP]; exact hlt2))
                    clear hO3
                    go_wp2_with (at_builtin; refine wpList_add (by simp [Region.wanted]) (.tmp 130) (.tmp 135) rfl w6.heap.size _ _ (P.take k) (zL P k) rfl ((unhide HQ8).below ((Below.refl _ _).alloc (Nat.le_refl _) _) (Nat.le_refl _)) _ rfl (cell_oneV _ _ 22) ((unhide HO3).below ((Below.refl _ _).alloc (Nat.le_refl _) _) (Nat.le_refl _)) (by rw [List.length_take]; omega) (by have := (unhide HB8).size; simp; omega) ?_; intro v4 w4 o4 b4; have O4 := hide o4; have B4 := hide (((unhide HB8).alloc (unhide HB8).size _).trans b4); clear o4 b4)
                    go_roundw
                    case rel => exact ⟨k + 1, by omega, by go_num, hide (by rw [unhide HT]; exact unhide O4), B4⟩
                    case measure => simp [intOf]; omega
                  · obtain rfl : m = k := by omega
                    have hQ := unhide HQ8
                    rw [List.take_of_length_le (by rw [unhide HP]; exact Nat.le_refl _)] at hQ
                    obtain ⟨g3, cap3, q3, c3, hv3, hle3, hc3, hg3, k3, -⟩ := hQ.cell (k := y) (by rw [unhide HP]; exact h4)
                    rw [unhide HP] at hv3 hle3
                    subst hv3
                    obtain ⟨f3, L3, B3⟩ := LO.set (hQ.below ((Below.refl _ _).alloc (Nat.le_refl _) (.cells #[.int .i64 i] 3)) (Nat.le_refl _)) (ol_one wr i) (by rw [unhide HP]; exact h4) hQ.own.1
                    obtain ⟨g4, cap4, q4, c4, hv4, hle4, hc4, hg4, k4, hO4⟩ := ((unhide HL).below (unhide HB8) (Nat.le_refl _)).cell (k := i) (by rw [unhide HP]; exact hlt)
                    rw [unhide HP] at hv4 hle4
                    cases hv4
                    rw [unhide HA1] at k4 hO4
                    obtain ⟨b5, off5, rfl, hle5, hc5, hb5, k5⟩ := il_cell hO4.il h3 (by rw [unhide HA1]; exact Nat.le_refl _)
                    rw [unhide HH, Nat.add_zero] at k5
                    have hbs := ((unhide HB8).alloc (unhide HB8).size (.cells #[.int .i64 i] 3)).trans B3
                    rw [set_alloc wr _ g3 y _ hg3] at L3 hbs
                    have HLS := hide L3
                    have HBS := hide hbs
                    clear L3 B3 hbs hQ hO4 HQ8 HO1
                    go_wp2
                    go_roundw
                    case rel => exact ⟨i + 1, by omega, by go_num, _, HLS, hide (.inr ⟨by rw [List.length_set]; exact unhide HP, unhide HWB⟩), HBS⟩
                    case measure => simp [intOf]; omega
              · go_upto_region 27 with fail
                go_cut [123] from 102 to 122 (fun x wc => x = .bool false ∧ wc = w7)
                case first => as_aux_lemma =>
                  by_cases h3 : 0 < a1
                  · have b1 : decide (0 < a1) = true := decide_eq_true h3
                    obtain ⟨b2, off2, rfl, hle2, hc2, hb2, k2⟩ := il_cell (unhide HO1) h3 (by rw [unhide HA1]; exact Nat.le_refl _)
                    have hl := lv_yes (M := P) (n := i) (by rw [unhide HP]; exact hlt) (by rw [unhide HA1]; exact h3)
                    rw [(hd_lt (unhide HR).all hl).2, Nat.add_zero] at k2
                    clear hl
                    by_cases h4 : hd P i < m
                    · have b2' : decide (hd P i < m) = true := decide_eq_true h4
                      have b3 : ((x : Int) == 0) = false := beq_false_of_ne (fun e => hex ⟨h3, h4, by omega⟩)
                      clear hex
                      generalize hd P i = y at *
                      go_wp2
                      go_meet
                      exact ⟨rfl, rfl⟩
                    · have b2' : decide (hd P i < m) = false := decide_eq_false h4
                      clear hex
                      generalize hd P i = y at *
                      go_wp2
                      go_meet
                      exact ⟨rfl, rfl⟩
                  · have b1 : decide (0 < a1) = false := decide_eq_false h3
                    clear hex
                    go_wp2
                    go_meet
                    exact ⟨rfl, rfl⟩
                case rest => as_aux_lemma =>
                  obtain ⟨rfl, hw⟩ := hcut
                  obtain rfl := hw.symm
                  clear hw hex
                  go_wp2
                  go_roundw
                  case rel => exact ⟨i + 1, by omega, by go_num, Q, HQ, HW, HB7⟩
                  case measure => simp [intOf]; omega
            · rcases unhide HW with h0 | ⟨h0, h1⟩
              · subst h0
                have e0 : x = 0 := by rw [← unhide HQL]; rfl
                subst e0
                have cK := hide (unhide cK w7 ((unhide HB).trans ((unhide HB7).mono (unhide HB).size)))
                have B7 := hide ((unhide HB).trans ((unhide HB7).mono (unhide HB).size))
                clear HQL
                go_wp2_with (go_at_call 15; refine (unhide cK).mono ?_; rintro e w5 ⟨rfl, hb⟩; have B5 := hide ((unhide B7).trans (hb.mono (unhide B7).size)); clear hb)
                go_ret
                exact ⟨rfl, unhide B5⟩
              · have e0 : x = m := by rw [← unhide HQL]; exact h0
                subst e0
                have c8 := whole_is T Q (.slice qb x cb) w7 ((unhide HG).below ((unhide HB).trans ((unhide HB7).mono (unhide HB).size)) (unhide HG).size) (unhide HQ).ll
                rw [h1] at c8
                have c8 := hide c8
                have cK := hide (unhide cK w7 ((unhide HB).trans ((unhide HB7).mono (unhide HB).size)))
                have B7 := hide ((unhide HB).trans ((unhide HB7).mono (unhide HB).size))
                have z : ((x : Int) == 0) = false := beq_false_of_ne (by omega)
                clear HQL h0 h1
                go_wp2_with (first
                  | (go_at_call 8; refine (unhide c8).mono ?_; rintro e w7 ⟨rfl, rfl⟩)
                  | (go_at_call 15; refine (unhide cK).mono ?_; rintro e w5 ⟨rfl, hb⟩; have B5 := hide ((unhide B7).trans (hb.mono (unhide B7).size)); clear hb))
                go_ret
                exact ⟨rfl, unhide B5⟩
theorem whole_any (t : Int) (M0 : List (List Int)) (v1 : Value) (w : World) (hG : Glob w) (h : LL w v1 M0) :
    Calls Tryd.prog 4 #[.int .i64 t, v1] w fun e w' => e = .returned (.bool true) ∧ Below w.heap.size w w' := by
  by_cases h8 : M0.length ≤ 8
  · exact whole_few t M0 v1 w hG h h8
  · exact whole_many t M0 v1 w h (by omega)
theorem whole_walk (t : Int) (x : Option Addr) (l c : Nat) (M : List (List Int)) (w : World) (hG : Glob w) (h : LL w (.slice x l c) M) :
    Calls Tryd.prog 4 #[.int .i64 t, .slice x l c] w fun e w' => e = .returned (.bool true) ∧ Below w.heap.size w w' :=
  whole_any t M _ w hG h
end Go.Proofs.YtmdkaomjjglfjaaDoor
