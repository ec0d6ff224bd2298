/- Walk of bellwetherlaw12.PathRoute. -/
import Derived.Test.YtmdkaomjjglfjaaDoorR1
import Derived.Test.YtmdkaomjjglfjaaDoorW1
import Derived.Deep.RegionHeld3
namespace Go.Proofs.YtmdkaomjjglfjaaDoor
open Go.RowKit

theorem mod8R (x : Int) : ∃ q : Nat, wrap64 ((IntKind.u64.wrap x).tmod 8) = (q : Int) ∧ q < 8 := ⟨(x % 8).toNat, by rw [mod8]; omega, by omega⟩
theorem add_r (t s : Int) (L : List Int) (n : Nat) (v : Value) (w : World) (hG : Glob w) (h : IL w v L) (he : adE t s L = 0) (hn : (s :: L).length = n) :
    Calls Tryd.prog 7 #[.int .i64 t, .int .i64 s, v] w fun e w' => ∃ q c, e = .returned (.tuple #[.slice q n c, .int .i64 0]) ∧ IL w' (.slice q n c) (s :: L) ∧ Below w.heap.size w w' := by
  refine (add_ok t s L v w hG h he).mono ?_
  rintro e w' ⟨v', rfl, ho, hb⟩
  obtain ⟨q, c, rfl⟩ := owns_shape ho
  rw [← hn]
  exact ⟨q, c, rfl, ho.il, hb⟩
theorem drop_at {W : List Int} {i : Nat} (h : i < W.length) : W.drop i = zF W i :: W.drop (i + 1) := by
  rw [List.drop_eq_getElem_cons h]
  simp [zF, List.getD, List.getElem?_eq_getElem h]
set_option maxRecDepth 100000 in
set_option maxHeartbeats 8000000 in
theorem route_walk (t bits self depth : Int) (w : World) (hG : Glob w) :
    Calls Tryd.prog 5 #[.int .i64 t, .int .i64 bits, .int .i64 self, .int .i64 depth] w fun e w' => e = .returned (.bool true) ∧ Below w.heap.size w w' := by
  obtain ⟨T, hT, kT⟩ : ∃ T, wrap64 ((IntKind.u64.wrap t).tmod 4) = T ∧ IsT T := ⟨_, mod4 t, mod4_topic t⟩
  obtain ⟨D, hD, kD⟩ := mod8R depth
  have KT := hide kT
  have HG := hide hG
  clear hG kT
  go_enter Tryd.func5, Tryd.ntmps5
  go_wp2_with fail
  rw [hT, hD]
  clear hT hD
  go_wp2_with (go_at_call 17; refine (some_is _ _ _).mono ?_; rintro e w2 ⟨v, L, s, rfl, ho, hR, hs, hb⟩; have O2 := hide ho; have HR := hide hR; have HS := hide hs; have B2 := hide hb; clear ho hR hs hb)
  obtain ⟨W, hW, hWl⟩ := way_ex (unhide KT) (unhide HR).2 (unhide HS)
  have hl8 := ris_le (unhide HR)
  have G2 := hide ((unhide HG).below (unhide B2) (unhide HG).size)
  have c1 := hide (way_is T L s W v w2 (unhide G2) (unhide O2).il (unhide HR) (unhide HS) (unhide KT) hW (by omega))
  have HW := hide hW
  obtain ⟨n, hn⟩ : ∃ n, W.length = n := ⟨_, rfl⟩
  have hn8 : n < 8 := by omega
  have HN := hide hn
  have cK := hide (fun (w3 : World) (hb : Below w2.heap.size w2 w3) => wakes_any w3 ((unhide G2).below hb (unhide G2).size))
  have cW : Hid (Calls Tryd.prog 18 #[.int .i64 T, v, .int .i64 s] w2 fun e w' => ∃ q c, e = .returned (.tuple #[.slice q n c, .int .i64 0]) ∧ OL w' w2.heap.size (.slice q n c) W ∧ Below w2.heap.size w2 w') := by
    refine hide ((unhide c1).mono ?_)
    rintro e w' ⟨v', rfl, ho, hb⟩
    obtain ⟨q, c, rfl⟩ := owns_shape ho
    rw [hn] at ho ⊢
    exact ⟨q, c, rfl, ho, hb⟩
  have cC := hide (fun (d : Int) (v3 : Value) (w3 : World) (h3 : IL w3 v3 W) (hb : Below w2.heap.size w2 w3) => check_p T s W d v3 w3 ((unhide G2).below hb (unhide G2).size) h3)
  have hC8 := way_chk (unhide KT) (unhide HR).2 (unhide HS) hW 8 (by omega) (by omega)
  have hCD := way_chk (unhide KT) (unhide HR).2 (unhide HS) hW (1 + (D : Int)) (by omega) (by omega)
  rw [hn] at hC8 hCD
  rw [if_neg (by omega)] at hC8
  have cC8 := hide (fun (v3 : Value) (w3 : World) (h3 : IL w3 v3 W) hb => unhide cC 8 v3 w3 h3 hb)
  have cCD := hide (fun (v3 : Value) (w3 : World) (h3 : IL w3 v3 W) hb => unhide cC (1 + (D : Int)) v3 w3 h3 hb)
  rw [hC8] at cC8
  rw [hCD] at cCD
  obtain ⟨C, hC⟩ : ∃ C : Int, (if 1 + (D : Int) < (n : Int) then (12 : Int) else 0) = C := ⟨_, rfl⟩
  rw [hC] at cCD
  have HC := hide hC
  have eC : (C != C) = false := by simp
  clear hW hWl hl8 hn hC8 hCD hC c1 cC
  have hdw : IntKind.i64.wrap (1 + (D : Int)) = 1 + (D : Int) := by rw [IntKind.wrap_i64]; omega
  go_upto_region 7 with (go_at_call 18; refine (unhide cW).mono ?_; rintro e w3 ⟨q3, k3, rfl, ho, hb⟩; have O3 := hide ho; have B3 := hide hb; clear ho hb)
  go_upto_if 44 with fail
  go_cut [13] (fun x wc => x = .int .i64 C ∧ wc = w3)
  case first => as_aux_lemma =>
    by_cases h : 1 + (D : Int) < (n : Int)
    · have e1 : C = 12 := by rw [← unhide HC, if_pos h]
      have HE := hide e1
      have b1 : decide (1 + (D : Int) < (n : Int)) = true := decide_eq_true h
      clear e1 eC
      go_wp2
      go_meet
      exact ⟨by rw [unhide HE], rfl⟩
    · have e1 : C = 0 := by rw [← unhide HC, if_neg h]
      have HE := hide e1
      have b1 : decide (1 + (D : Int) < (n : Int)) = false := decide_eq_false h
      clear e1 eC
      go_wp2
      go_meet
      exact ⟨by rw [unhide HE], rfl⟩
  case rest => as_aux_lemma =>
    obtain ⟨rfl, hw⟩ := hcut
    obtain rfl := hw.symm
    clear hw cW HC
    have m1 := trivial
    go_wp2_with (first
      | (clear m1; go_at_call 14; refine (unhide cCD _ _ (unhide O3).il (unhide B3)).mono ?_; rintro e w3 ⟨rfl, rfl⟩)
      | (go_at_call 14; refine (unhide cC8 _ _ (unhide O3).il (unhide B3)).mono ?_; rintro e w3 ⟨rfl, rfl⟩))
    go_loopw [14] (fun xi w4 => ∃ i : Nat, i ≤ n ∧ xi = .int .i64 i ∧ Hid (Below w3.heap.size w3 w4)) (fun i _ => n - (intOf i).toNat)
    case atStart => exact ⟨0, by omega, rfl, hide (Below.refl _ _)⟩
    case round =>
      obtain ⟨i, hi, rfl, HB4⟩ := hrel
      have HB := hide ((unhide B3).trans ((unhide HB4).mono (unhide B3).size))
      by_cases hlt : i < n
      · have O4 := hide ((unhide O3).below (unhide HB4) (Nat.le_refl _))
        obtain ⟨g3, k9, hv, hk1, hk2, hg3, hcell⟩ := owns_some (unhide O3) (unhide HN) (by omega)
        cases hv
        obtain ⟨g4, k9, hv, hk14, hk24, hg4, hcell4⟩ := owns_some (unhide O4) (unhide HN) (by omega)
        cases hv
        obtain ⟨a2, z2, hsl2, hrest2⟩ := slice_rest g3 n k3 i hlt hk1 hk2
        obtain ⟨a5, z5, hsl5, hrest5⟩ := slice_at g3 n k3 i hlt hk1 hk2
        have hck := hcell4 i hlt
        unfold maxLen at hk2
        have hnn := unhide HN
        obtain ⟨s1, s2, s3⟩ := way_step (unhide KT) (unhide HR).2 (unhide HS) (unhide HW) i (by omega)
        have hm : zF W i ∈ L := by have := isway_mem (unhide HS) (unhide HW) (i + 1) (by omega); rwa [zF_cons] at this
        have hWd : IsWay T L (zF W i) (W.drop (i + 1)) := by have := isway_drop (unhide HW) (i + 1) (by omega); rwa [zF_cons] at this
        have hdl : (W.drop (i + 1)).length = n - (i + 1) := by rw [List.length_drop, hnn]
        have e1 := way_chk (unhide KT) (unhide HR).2 hm hWd 8 (by omega) (by omega)
        rw [if_neg (by omega)] at e1
        have e2 := way_add (unhide KT) (unhide HR).2 hm hWd (by omega)
        have e3 := way_back (unhide KT) (unhide HR).2 (unhide HS) (unhide HW) i (by omega)
        have hda := drop_at (W := W) (i := i) (by omega)
        have hI2 : ∀ w4, Below w3.heap.size w3 w4 → IL w4 (.slice a2 (n - (i + 1)) z2) (W.drop (i + 1)) := fun w4 hb => (hrest2 w3 W hnn (unhide O3).il).below hb (Nat.le_refl _)
        have hI5 : ∀ w4, Below w3.heap.size w3 w4 → IL w4 (.slice a5 (n - i) z5) (zF W i :: W.drop (i + 1)) := fun w4 hb => hda ▸ (hrest5 w3 W hnn (unhide O3).il).below hb (Nat.le_refl _)
        have hG4 : ∀ w4, Below w3.heap.size w3 w4 → Glob w4 := fun w4 hb => (unhide G2).below ((unhide B3).trans (hb.mono (unhide B3).size)) (unhide G2).size
        have cA := hide (fun (w4 : World) (hb : Below w3.heap.size w3 w4) => add_r T (zF W i) (W.drop (i + 1)) (n - i) (.slice a2 (n - (i + 1)) z2) w4 (hG4 w4 hb) (hI2 w4 hb) e2 (by rw [List.length_cons, hdl]; omega))
        have cE := hide (fun (w4 : World) (hb : Below w3.heap.size w3 w4) => check_p T (zF W i) (W.drop (i + 1)) 8 (.slice a2 (n - (i + 1)) z2) w4 (hG4 w4 hb) (hI2 w4 hb))
        rw [e1] at cE
        have cX := hide (fun (v1 : Value) (w4 : World) (h1 : IL w4 v1 (zF W i :: W.drop (i + 1))) (hb : Below w3.heap.size w3 w4) => ints_same (zF W i :: W.drop (i + 1)) v1 (.slice a5 (n - i) z5) w4 h1 (hI5 w4 hb))
        have cB := hide (fun (v1 : Value) (w4 : World) (h1 : IL w4 v1 [s]) (hb : Below w3.heap.size w3 w4) => check_p T (zF W i) [s] 8 v1 w4 (hG4 w4 hb) h1)
        rw [e3] at cB
        have hw1 : IntKind.i64.wrap ((i : Int) + 1) = (i : Int) + 1 := by rw [IntKind.wrap_i64]; omega
        have hltz : (i : Int) < (n : Int) := by omega
        clear hcell hcell4 hrest2 hrest5 hnn s1 s2 s3 hm hWd hdl e1 e2 e3 hda hI2 hI5 hG4 cC8 cCD hk14 hk24 O4
        generalize zF W i = x at *
        generalize W.drop (i + 1) = R at *
        go_wp2
        go_quiet (first | (go_at_call 14; with_reducible refine Calls.quiet_of_same (unhide cE _ (below_drewN (unhide HB4) _))))
        obtain ⟨w5, hw5⟩ : ∃ x, x = wr.drewN nq := ⟨_, rfl⟩
        have HB5 : Hid (Below w3.heap.size w3 w5) := hide (hw5 ▸ below_drewN (unhide HB4) nq)
        have hck5 : w5.cell? ⟨g3, i, none⟩ = some (.int .i64 x) := by rw [hw5]; exact hck
        have hg5 : g3 < w5.heap.size := by rw [hw5]; exact hg4
        have HD5 : Hid (Below w3.heap.size w3 w5.drew) := hide (below_drewN (unhide HB5) 1)
        have hckd : w5.drew.cell? ⟨g3, i, none⟩ = some (.int .i64 x) := hck5
        have hgd : g3 < w5.drew.heap.size := hg5
        rw [← hw5]
        clear hw5 hck hg4
        go_wp2
        go_region_held3 (fun w' => w'.cell? ⟨g3, i, none⟩ = some (.int .i64 x))
          (first
            | exact hck5
            | exact (by assumption)
            | go_keep)
          (first
            | (go_at_call 7; with_reducible refine (unhide cA _ (unhide HD5)).mono ?_; rintro e w6 ⟨q6, k6, rfl, h6, b6⟩; have I6 := hide h6; have hck6 := (b6.cell (p := ⟨g3, i, none⟩) hgd).trans hckd; have hg6 := Nat.lt_of_lt_of_le hgd b6.size; have B6 := hide ((unhide HD5).trans (b6.mono (unhide HD5).size)); clear h6 b6))
        clear hck5 hg5 hckd hgd
        have cI := hide (unhide cX _ _ (unhide I6) (unhide B6))
        go_wp2_with (first
          | (go_at_call 10; refine (unhide cI).mono ?_; rintro e w7 ⟨rfl, hb⟩; have hck7 := (hb.cell (p := ⟨g3, i, none⟩) hg6).trans hck6; have hg7 := Nat.lt_of_lt_of_le hg6 hb.size; have B7 := hide ((unhide B6).trans (hb.mono (unhide B6).size)); clear hb)
          | (go_at_call 14; refine (unhide cB _ _ (il_lit1 _ s) ((unhide B7).alloc (unhide B7).size _)).mono ?_; rintro e w8 ⟨rfl, hw8⟩; have B8 := hide (hw8 ▸ (unhide B7).alloc (unhide B7).size _); clear hw8))
        go_roundw
        case rel => exact ⟨i + 1, by omega, by go_num, B8⟩
        case measure => simp [intOf]; omega
      · have cK2 := hide (unhide cK _ (unhide HB))
        go_wp2_with (go_at_call 15; refine (unhide cK2).mono ?_; rintro e w5 ⟨rfl, hb⟩; have B5 := hide ((unhide HB).trans (hb.mono (unhide HB).size)); clear hb)
        go_ret
        exact ⟨rfl, (unhide B2).trans ((unhide B5).mono (unhide B2).size)⟩
end Go.Proofs.YtmdkaomjjglfjaaDoor
