/- Walk of the page's Ask. -/
import Derived.Test.YtgglnhnokhpnpaaDoorN3
import Derived.Test.YtgglnhnokhpnpaaDoorN2
import Derived.Test.YtgglnhnokhpnpaaDoorM2
namespace Go.Proofs.YtgglnhnokhpnpaaDoor
open Go.RowKit

theorem kl_take {w : World} {x : Addr} {n p c : Nat} {L : List Kd} (h : KL w (.slice (some x) n c) L) (hp : p ≤ n) : KL w (.slice (some x) p c) (L.take p) := by
  obtain ⟨hn, hnc, hc⟩ := kl_cap h
  by_cases h0 : p = 0
  · subst h0
    exact .inl ⟨by simp, .inr ⟨x, c, rfl, by unfold maxLen; omega⟩⟩
  · rcases h with ⟨rfl, h | ⟨a, cap, h, _⟩⟩ | ⟨b, off, cap, h, h1, h2, h3, h4⟩
    · cases h
    · simp at hn; omega
    · injection h with q1 q2 q3
      injection q1 with q1
      subst q1
      subst q3
      have hl : (L.take p).length = p := by rw [List.length_take]; omega
      refine .inr ⟨b, off, c, by rw [hl], by omega, h2, h3, fun j u hu => h4 j u ?_⟩
      rw [fl_take, List.getElem?_take] at hu
      split at hu
      · exact hu
      · cases hu
set_option maxHeartbeats 2000000 in
set_option maxRecDepth 100000 in
theorem rask_k (t s lim : Int) (L : List Kd) (n inc : Int) (v : Value) (w : World) (h : KL w v L) (hr : rk t s lim L = true) (hNn : IsN n) :
    Calls Tryd.prog 22 #[.int .i64 t, .int .i64 lim, v, .int .i64 n, .int .i64 inc] w fun e w' => ∃ v', e = .returned (.tuple #[v', .int .i64 (askW t lim L n), .int .i64 (askT t lim L n)]) ∧ KO w' w.heap.size v' (askL t lim L n inc) ∧ Below w.heap.size w w' := by
  obtain ⟨hT, -, hlim, -, hle, hgd⟩ := rk_gd.1 hr
  obtain ⟨PA, PB, PC⟩ := ask_page (lim := lim) (inc := inc) hgd hT hNn
  have hl4 : L.length ≤ 4 := by have := rk_gd.1 hr; omega
  have HI := hide h
  have HRN := hide (show ∀ i, i < L.length → IsN (kz L i).1 from fun i hi => (hgd.1 _ (kz_mem hi)).1)
  have hn0 : -1 ≤ n ∧ n ≤ 8 := by unfold IsN at hNn; omega
  obtain ⟨hn1, hn2⟩ := hn0
  have CHs := hide (fun W (hb : Below w.heap.size w W) => rhas_k L n v W (h.below hb (Nat.le_refl _)))
  have hb0 : Below w.heap.size w (w.alloc (.cells #[.int .i64 n, .int .i64 inc, .int .i64 0] 45)) := (Below.refl _ _).alloc (Nat.le_refl _) _
  have HX := hide (show ∀ w', Below (w.alloc (.cells #[.int .i64 n, .int .i64 inc, .int .i64 0] 45)).heap.size (w.alloc (.cells #[.int .i64 n, .int .i64 inc, .int .i64 0] 45)) w' → w'.cell? ⟨w.heap.size, 0, none⟩ = some (.int .i64 n) ∧ w'.cell? ⟨w.heap.size, 0 + 1, none⟩ = some (.int .i64 inc) ∧ w'.cell? ⟨w.heap.size, 0 + 2, none⟩ = some (.int .i64 0) from fun w' hb => ⟨(hb.cell (p := ⟨w.heap.size, 0, none⟩) (by simp)).trans (by simp [go_sem]), (hb.cell (p := ⟨w.heap.size, 0 + 1, none⟩) (by simp)).trans (by simp [go_sem]), (hb.cell (p := ⟨w.heap.size, 0 + 2, none⟩) (by simp)).trans (by simp [go_sem])⟩)
  have HBb := hide hb0
  have hgl : w.heap.size < (w.alloc (.cells #[.int .i64 n, .int .i64 inc, .int .i64 0] 45)).heap.size := by simp
  obtain ⟨q, c, rfl⟩ := kl_form h
  obtain ⟨m, hmm⟩ : ∃ m, L.length = m := ⟨_, rfl⟩
  have HM := hide hmm
  rw [hmm] at HI hl4 hle CHs ⊢
  have HK := hide (show ∀ W, Below (w.alloc (.cells #[.int .i64 n, .int .i64 inc, .int .i64 0] 45)).heap.size (w.alloc (.cells #[.int .i64 n, .int .i64 inc, .int .i64 0] 45)) W → KL W (.slice q m c) L from fun W hb => ((unhide HI).below hb0 (Nat.le_refl _)).below hb (Nat.le_refl _))
  clear h hr hNn hmm hb0 hgd
  generalize hwb : w.alloc (.cells #[.int .i64 n, .int .i64 inc, .int .i64 0] 45) = wb at *
  have CH := unhide CHs wb (unhide HBb)
  have HBr := hide (Below.refl wb.heap.size wb)
  have HWB := hide hwb
  clear hwb CHs
  go_enter Tryd.func22, Tryd.ntmps22
  go_upto_region 2 with fail
  rw [show w.alloc (.cells #[.int .i64 n, .int .i64 inc, .int .i64 0] 45) = wb from unhide HWB]
  clear HWB
  cases hh : hs L n with
  | true =>
    rw [hh] at CH
    have CH := hide CH
    obtain ⟨-, e2, e3⟩ := ask_in (t := t) (lim := lim) (L := L) inc (.inl hh)
    have HE := hide (PA hh)
    have E2 := hide e2
    have E3 := hide e3
    have CD := hide (fun W (hb : Below wb.heap.size wb W) => (rdrop_k L n _ W (unhide HK W hb) (by rw [unhide HM]; omega)).mono fun e w' (r : ∃ v', e = .returned v' ∧ KO w' W.heap.size v' (dr L n) ∧ Below W.heap.size W w') => (show ∃ v', e = .returned v' ∧ KL w' v' (dr L n) ∧ Below wb.heap.size wb w' from by obtain ⟨v', r1, r2, r3⟩ := r; exact ⟨v', r1, r2.kl, hb.trans (r3.mono hb.size)⟩))
    have CW2 := hide (fun W u (hb : Below wb.heap.size wb W) (hu : KL W u (dr L n)) => (among_k t (dr L n) n inc 0 u W hu (by have := dr_len L n; rw [unhide HM] at this; omega)).mono fun e w' (r : ∃ v', e = .returned v' ∧ KO w' W.heap.size v' (amg t (n, inc, 0) (dr L n)) ∧ Below W.heap.size W w') => (show ∃ v', e = .returned v' ∧ KO w' wb.heap.size v' (amg t (n, inc, 0) (dr L n)) ∧ Below wb.heap.size wb w' from by obtain ⟨v', r1, r2, r3⟩ := r; exact ⟨v', r1, r2.mono hb.size, hb.trans (r3.mono hb.size)⟩))
    clear e2 e3 hh PA PB PC
    go_upto_region 3 with (go_at_call 16; refine (unhide CH).mono ?_; rintro e wb ⟨rfl, rfl⟩)
    have SX := hide (show ∀ W, Below wb.heap.size wb W → Below wb.heap.size wb W ∧ W.cell? ⟨w.heap.size, 0, none⟩ = some (.int .i64 n) ∧ W.cell? ⟨w.heap.size, 0 + 1, none⟩ = some (.int .i64 inc) ∧ W.cell? ⟨w.heap.size, 0 + 2, none⟩ = some (.int .i64 0) from fun W hb => ⟨hb, unhide HX W hb⟩)
    have b3 := unhide HBr
    go_region_held3 (fun w' => Below wb.heap.size wb w' ∧ w'.cell? ⟨w.heap.size, 0, none⟩ = some (.int .i64 n) ∧ w'.cell? ⟨w.heap.size, 0 + 1, none⟩ = some (.int .i64 inc) ∧ w'.cell? ⟨w.heap.size, 0 + 2, none⟩ = some (.int .i64 0))
      (first
        | assumption
        | exact unhide SX _ (by assumption)
        | exact unhide SX _ (below_drewN (by assumption) _)
        | exact unhide SX _ (below_drewN (by assumption) 1))
      (first
        | (go_at_call 14; with_reducible refine (unhide CD _ (by first | assumption | exact And.left (by assumption) | exact below_drewN (by assumption) _ | exact below_drewN (by assumption) 1 | exact below_drewN (And.left (by assumption)) 1)).mono ?_; rintro e w5 ⟨v5, rfl, o5, b5⟩)
        | (go_at_call 36; with_reducible refine (unhide CW2 _ _ (by first | assumption | exact And.left (by assumption) | exact below_drewN (by assumption) _ | exact below_drewN (by assumption) 1 | exact below_drewN (And.left (by assumption)) 1) o5).mono ?_; rintro e w6 ⟨v6, rfl, o6, b6⟩))
    go_wp2
    go_ret3
    exact ⟨v6, by rw [unhide E2, unhide E3]; rfl, by rw [unhide HE]; exact o6.mono (unhide HBb).size, (unhide HBb).trans (b6.mono (unhide HBb).size)⟩
  | false =>
    rw [hh] at CH
    have CH := hide CH
    by_cases hnl : (L.length : Int) < lim
    · obtain ⟨-, e2, e3⟩ := ask_in (t := t) (lim := lim) (L := L) (n := n) inc (.inr hnl)
      have HE := hide (PB hh hnl)
      have E2 := hide e2
      have E3 := hide e3
      have b1 : decide ((m : Int) < lim) = true := decide_eq_true (by rwa [unhide HM] at hnl)
      have b2 : (m : Int) < lim := by rwa [unhide HM] at hnl
      have CW2 := hide (fun W (hb : Below wb.heap.size wb W) => (among_k t L n inc 0 _ W (unhide HK W hb) (by rw [unhide HM]; omega)).mono fun e w' (r : ∃ v', e = .returned v' ∧ KO w' W.heap.size v' (amg t (n, inc, 0) L) ∧ Below W.heap.size W w') => (show ∃ v', e = .returned v' ∧ KO w' wb.heap.size v' (amg t (n, inc, 0) L) ∧ Below wb.heap.size wb w' from by obtain ⟨v', r1, r2, r3⟩ := r; exact ⟨v', r1, r2.mono hb.size, hb.trans (r3.mono hb.size)⟩))
      obtain ⟨hx1, hx2, hx3⟩ := unhide HX wb (unhide HBr)
      clear e2 e3 hh PA PB PC hnl
      go_wp2_with (first
        | (go_at_call 16; refine (unhide CH).mono ?_; rintro e wb ⟨rfl, rfl⟩)
        | (go_at_call 36; refine (unhide CW2 _ (unhide HBr)).mono ?_; rintro e w6 ⟨v6, rfl, o6, b6⟩; have O6 := hide o6; have B6 := hide b6; clear o6 b6))
      go_ret3
      exact ⟨v6, by rw [unhide E2, unhide E3]; rfl, by rw [unhide HE]; exact (unhide O6).mono (unhide HBb).size, (unhide HBb).trans ((unhide B6).mono (unhide HBb).size)⟩
    · have hnl' : ¬ (m : Int) < lim := by rw [unhide HM] at hnl; exact hnl
      have hin : ¬ (hs L n = true ∨ (L.length : Int) < lim) := fun q => q.elim (fun z => by rw [hh] at z; cases z) hnl
      obtain ⟨p, rfl⟩ : ∃ p, m = p + 1 := ⟨m - 1, by omega⟩
      have b1 : decide ((p : Int) + 1 < lim) = false := decide_eq_false (by omega)
      have b2 : lim ≤ (p : Int) + 1 := by omega
      have C33 := hide (fun W (hb : Below wb.heap.size wb W) => (rnearer_nb t (kz L 0).1 n W).mono fun e w' (r : e = .returned (.bool (nb t (kz L 0).1 n)) ∧ Below W.heap.size W w') => And.intro r.1 (hb.trans (r.2.mono hb.size)))
      have hf : IsN (kz L 0).1 := unhide HRN 0 (by rw [unhide HM]; omega)
      obtain ⟨hf1, hf2⟩ := hf
      have hk0 := hide (fun W (hb : Below wb.heap.size wb W) => kl_cell (k := 0) (unhide HK W hb) (by omega) (by rw [unhide HM]; exact Nat.le_refl _))
      have hkp := hide (fun W (hb : Below wb.heap.size wb W) => kl_cell (k := p) (unhide HK W hb) (by omega) (by rw [unhide HM]; exact Nat.le_refl _))
      have hwn : IntKind.i64.wrap (n + 1) = n + 1 := by rw [IntWalk.i64_left, IntWalk.wrap64_in _ (by omega)]
      cases hx : nb t (kz L 0).1 n with
      | true =>
        obtain ⟨e1, e2, e3⟩ := ask_off inc hin hx
        have HE := hide e1
        have E2 := hide e2
        have E3 := hide e3
        rw [hx] at C33
        have C9 := hide (fun W (hb : Below wb.heap.size wb W) => (twin_k L _ W (unhide HK W hb) (by rw [unhide HM]; omega)).mono fun e w' (r : ∃ v', e = .returned v' ∧ KO w' W.heap.size v' L ∧ Below W.heap.size W w') => (show ∃ v', e = .returned v' ∧ KO w' wb.heap.size v' L ∧ Below wb.heap.size wb w' from by obtain ⟨v', r1, r2, r3⟩ := r; exact ⟨v', r1, r2.mono hb.size, hb.trans (r3.mono hb.size)⟩))
        clear e1 e2 e3 hx hin hh hnl hnl' PA PB PC hkp
        generalize hff : (kz L 0).1 = f at *
        clear hff
        have hwf : IntKind.i64.wrap (f + 1) = f + 1 := by rw [IntWalk.i64_left, IntWalk.wrap64_in _ (by omega)]
        obtain ⟨b, off, rfl, hq2, hq3, hq4, hq5, -, -⟩ := unhide hk0 _ (unhide HBr)
        rw [Nat.zero_mul, Nat.add_zero] at hq5
        go_upto_region 7 with (first
          | (go_at_call 16; refine (unhide CH).mono ?_; rintro e wb ⟨rfl, rfl⟩)
          | (go_at_call 33; refine (unhide C33 _ (unhide HBr)).mono ?_; rintro e w4 ⟨rfl, b4⟩; have B4 := hide b4; clear b4))
        have SX := hide (show ∀ W, Below wb.heap.size wb W → Below wb.heap.size wb W ∧ W.cell? ⟨b, off, none⟩ = some (.int .i64 f) from fun W hb => ⟨hb, (hb.cell (p := ⟨b, off, none⟩) hq4).trans hq5⟩)
        have b4 := unhide B4
        go_region_held3 (fun w' => Below wb.heap.size wb w' ∧ w'.cell? ⟨b, off, none⟩ = some (.int .i64 f))
          (first
            | assumption
            | exact unhide SX _ (by assumption)
            | exact unhide SX _ (below_drewN (by assumption) _)
            | exact unhide SX _ (below_drewN (by assumption) 1))
          (first
            | (go_at_call 9; with_reducible refine (unhide C9 _ (by first | assumption | exact And.left (by assumption) | exact below_drewN (by assumption) _ | exact below_drewN (by assumption) 1 | exact below_drewN (And.left (by assumption)) 1)).mono ?_; rintro e w6 ⟨v6, rfl, o6, b6⟩))
        go_wp2
        go_ret3
        (try rw [hwn]); (try rw [hwf])
        exact ⟨v6, by rw [unhide E2, unhide E3]; rfl, by rw [unhide HE]; exact o6.mono (unhide HBb).size, (unhide HBb).trans (b6.mono (unhide HBb).size)⟩
      | false =>
        have hpl : L.length - 1 = p := by rw [unhide HM]; rfl
        obtain ⟨-, e2, e3⟩ := ask_out inc hin hx
        have e1 := PC hh hnl hlim hx
        rw [hpl] at e1 e2
        have HE := hide e1
        have E2 := hide e2
        have E3 := hide e3
        rw [hx] at C33
        have hl : IsN (kz L p).1 := unhide HRN p (by rw [unhide HM]; omega)
        obtain ⟨hg1, hg2⟩ := hl
        clear e1 e2 e3 hx hin hh hnl hnl' PA PB PC hpl
        obtain ⟨b, off, rfl, hq2, hq3, hq4, hq5, -, -⟩ := unhide hk0 _ (unhide HBr)
        rw [Nat.zero_mul, Nat.add_zero] at hq5
        obtain ⟨b', off', hq1', -, -, -, hq5', -, -⟩ := unhide hkp _ (unhide HBr)
        cases hq1'
        have CW2 := hide (fun W (hb : Below wb.heap.size wb W) => (among_k t (L.take p) n inc 0 _ W (kl_take (p := p) (unhide HK W hb) (by omega)) (by have := List.length_take_le p L; omega)).mono fun e w' (r : ∃ v', e = .returned v' ∧ KO w' W.heap.size v' (amg t (n, inc, 0) (L.take p)) ∧ Below W.heap.size W w') => (show ∃ v', e = .returned v' ∧ KO w' wb.heap.size v' (amg t (n, inc, 0) (L.take p)) ∧ Below wb.heap.size wb w' from by obtain ⟨v', r1, r2, r3⟩ := r; exact ⟨v', r1, r2.mono hb.size, hb.trans (r3.mono hb.size)⟩))
        generalize hff : (kz L 0).1 = f at *
        generalize hll : (kz L p).1 = l at *
        clear hff hll
        have hwl : IntKind.i64.wrap (l + 1) = l + 1 := by rw [IntWalk.i64_left, IntWalk.wrap64_in _ (by omega)]
        have i1 : (p : Int) ≤ (c : Int) := by omega
        have i2 : p ≤ c := by omega
        have i3 : (0 : Int) ≤ (p : Int) := by omega
        have i5 : IntKind.i64.wrap (p : Int) = (p : Int) := by rw [IntWalk.i64_left, IntWalk.wrap64_in _ (by omega)]
        have i4 : IntKind.i64.wrap ((p : Int) + 1 - 1) = (p : Int) := by rw [IntWalk.i64_left, IntWalk.wrap64_in _ (by omega)]; omega
        go_upto_region 8 with (first
          | (go_at_call 16; refine (unhide CH).mono ?_; rintro e wb ⟨rfl, rfl⟩)
          | (go_at_call 33; refine (unhide C33 _ (unhide HBr)).mono ?_; rintro e w4 ⟨rfl, b4⟩; have hk5 : w4.cell? ⟨b, off + p * 3, none⟩ = some (.int .i64 l) := (b4.cell (p := ⟨b, off + p * 3, none⟩) hq4).trans hq5'; have B4 := hide b4; clear b4))
        go_upto_region 9 with fail
        have SX := hide (show ∀ W, Below wb.heap.size wb W → Below wb.heap.size wb W ∧ W.cell? ⟨w.heap.size, 0, none⟩ = some (.int .i64 n) ∧ W.cell? ⟨w.heap.size, 0 + 1, none⟩ = some (.int .i64 inc) ∧ W.cell? ⟨w.heap.size, 0 + 2, none⟩ = some (.int .i64 0) from fun W hb => ⟨hb, unhide HX W hb⟩)
        have b4 := unhide B4
        clear hq5 hq5' hk5
        go_region_held3 (fun w' => Below wb.heap.size wb w' ∧ w'.cell? ⟨w.heap.size, 0, none⟩ = some (.int .i64 n) ∧ w'.cell? ⟨w.heap.size, 0 + 1, none⟩ = some (.int .i64 inc) ∧ w'.cell? ⟨w.heap.size, 0 + 2, none⟩ = some (.int .i64 0))
          (first
            | assumption
            | exact unhide SX _ (by assumption)
            | exact unhide SX _ (below_drewN (by assumption) _)
            | exact unhide SX _ (below_drewN (by assumption) 1))
          (first
            | (go_at_call 36; with_reducible refine (unhide CW2 _ (by first | assumption | exact And.left (by assumption) | exact below_drewN (by assumption) _ | exact below_drewN (by assumption) 1 | exact below_drewN (And.left (by assumption)) 1)).mono ?_; rintro e w6 ⟨v6, rfl, o6, b6⟩))
        go_wp2
        go_ret3
        (try rw [hwn]); (try rw [hwl])
        exact ⟨v6, by rw [unhide E2, unhide E3]; rfl, by rw [unhide HE]; exact o6.mono (unhide HBb).size, (unhide HBb).trans (b6.mono (unhide HBb).size)⟩
end Go.Proofs.YtgglnhnokhpnpaaDoor
