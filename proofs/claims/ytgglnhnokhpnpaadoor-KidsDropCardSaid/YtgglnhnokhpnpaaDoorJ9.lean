/- Walks of slices.Insert put together, of kids.with. -/
import Derived.Test.YtgglnhnokhpnpaaDoorJ8
namespace Go.Proofs.YtgglnhnokhpnpaaDoor
open Go.RowKit

theorem insert_k (M : List Kd) (v : Value) (B : Nat) (x1 x2 x3 : Int) (a : Nat) (w : World) (ho : KO w B v M) (hB : B ≤ w.heap.size) (ha : a ≤ M.length) (hl : M.length ≤ 1000) :
    Calls Tryd.prog 38 #[v, .int .i64 a, .slice (some ⟨w.heap.size, 0, none⟩) 1 1] (w.alloc (.cells #[.int .i64 x1, .int .i64 x2, .int .i64 x3] 45)) fun e w' => ∃ v', e = .returned v' ∧ KO w' B v' (put M a (x1, x2, x3)) ∧ Below B w w' := by
  by_cases h : a = M.length
  · subst h
    exact insert_end M v B x1 x2 x3 w ho hB hl
  · rcases id ho.2 with ⟨rfl, h0⟩ | ⟨g, cap, cur, rfl, hbg, hg, hc, hm, hs, ht⟩
    · omega
    · by_cases hr : M.length + 1 ≤ cap
      · exact insert_room M g M.length cap a cur B x1 x2 x3 w rfl hbg hg hr hm hs ht (by omega) hl
      · exact insert_grow M g M.length cap a cur B x1 x2 x3 w rfl hbg hg hc (by omega) ht (by omega) hl
theorem put_wt (t : Int) (L : List Kd) (x : Kd) : put (dr L x.1) (pl t x.1 (dr L x.1)) x = wt t L x := (ins_pl t x (dr L x.1)).symm
set_option maxRecDepth 100000 in
set_option maxHeartbeats 2000000 in
theorem with_k (t : Int) (L : List Kd) (x1 x2 x3 : Int) (v : Value) (w : World) (hG : Glob w) (h : KL w v L) (hl : L.length ≤ 1000) :
    Calls Tryd.prog 27 #[.int .i64 t, v, .agg #[.int .i64 x1, .int .i64 x2, .int .i64 x3]] w fun e w' => ∃ v', e = .returned v' ∧ KO w' w.heap.size v' (wt t L (x1, x2, x3)) ∧ Below w.heap.size w w' := by
  have hb0 : Below w.heap.size w (w.alloc (.cells #[.int .i64 x1, .int .i64 x2, .int .i64 x3] 45)) := (Below.refl _ _).alloc (Nat.le_refl _) _
  have C := hide (drop_k L x1 v (w.alloc (.cells #[.int .i64 x1, .int .i64 x2, .int .i64 x3] 45)) (h.below hb0 (Nat.le_refl _)) hl)
  have HX := hide (show ∀ w', Below (w.alloc (.cells #[.int .i64 x1, .int .i64 x2, .int .i64 x3] 45)).heap.size (w.alloc (.cells #[.int .i64 x1, .int .i64 x2, .int .i64 x3] 45)) w' → w'.cell? ⟨w.heap.size, 0, none⟩ = some (.int .i64 x1) ∧ w'.cell? ⟨w.heap.size, 0 + 1, none⟩ = some (.int .i64 x2) ∧ w'.cell? ⟨w.heap.size, 0 + 2, none⟩ = some (.int .i64 x3) from fun w' hb => ⟨(hb.cell (p := ⟨w.heap.size, 0, none⟩) (by simp)).trans (by simp [go_sem]), (hb.cell (p := ⟨w.heap.size, 0 + 1, none⟩) (by simp)).trans (by simp [go_sem]), (hb.cell (p := ⟨w.heap.size, 0 + 2, none⟩) (by simp)).trans (by simp [go_sem])⟩)
  have HG := hide hG
  have HB0 := hide hb0
  have HD := hide (show (dr L x1).length ≤ 1000 by have := dr_len L x1; omega)
  have HW := hide (put_wt t L (x1, x2, x3))
  have hSz : (w.alloc (.cells #[.int .i64 x1, .int .i64 x2, .int .i64 x3] 45)).heap.size = w.heap.size + 1 := by simp
  obtain ⟨q, c, rfl⟩ := kl_form h
  clear h hG hb0 hl
  generalize hw1 : w.alloc (.cells #[.int .i64 x1, .int .i64 x2, .int .i64 x3] 45) = w1 at *
  have HS := hide hSz
  have HW1 := hide hw1
  clear hSz
  go_enter Tryd.func27, Tryd.ntmps27
  go_upto_region 1 with fail
  clear hw1
  have hx1 := (unhide HX w1 (Below.refl _ _)).1
  go_wp2_with (go_at_call 13; refine (unhide C).mono ?_; rintro e w2 ⟨v2, rfl, ho, hb⟩; have HO := hide ho; have HB := hide hb; clear ho hb)
  obtain ⟨q2, k2, rfl⟩ := kl_form (unhide HO).kl
  obtain ⟨m, hm⟩ : ∃ m, (dr L x1).length = m := ⟨_, rfl⟩
  have HM := hide hm
  rw [hm] at HO ⊢
  clear hm hx1
  go_loopw [8] (fun xi w3 => ∃ k : Nat, k ≤ m ∧ xi = .int .i64 k ∧ Hid (∀ i, i < k → nb t (kz (dr L x1) i).1 x1 = true) ∧ Hid (Below w2.heap.size w2 w3)) (fun i _ => m - (intOf i).toNat)
  case atStart => exact ⟨0, by omega, rfl, hide (fun i hi => absurd hi (Nat.not_lt_zero _)), hide (Below.refl _ _)⟩
  case round =>
    obtain ⟨k, hk, rfl, HR, HB3⟩ := hrel
    have HBA := hide ((unhide HB).trans ((unhide HB3).mono (unhide HB).size))
    obtain ⟨hx1, hx2, hx3⟩ := unhide HX wr (unhide HBA)
    have hwl : w.heap.size < wr.heap.size := block_lt_of_cell hx1
    have HO3 := hide ((unhide HO).below (unhide HB3) (Nat.le_refl _))
    have HG3 := hide ((unhide HG).below (unhide HB0) (unhide HG).size)
    have HG4 := hide ((unhide HG3).below (unhide HBA) (unhide HG3).size)
    by_cases hlt : k < m
    · obtain ⟨b, off, rfl, hle, hcc, hbb, c1, c2, c3⟩ := kl_cell (unhide HO3).kl hlt (by rw [unhide HM]; exact Nat.le_refl _)
      have b1 : decide (k < m) = true := decide_eq_true hlt
      cases hn : nb t (kz (dr L x1) k).1 x1 with
      | true =>
        have HR2 : Hid (∀ i, i < k + 1 → nb t (kz (dr L x1) i).1 x1 = true) := hide fun i hi => by
          by_cases e : i = k
          · subst e; exact hn
          · exact unhide HR i (by omega)
        have C2 : Hid (∀ w' : World, Glob w' → Calls Tryd.prog 24 #[.int .i64 t, .int .i64 (kz (dr L x1) k).1, .int .i64 x1] w' fun e w1 => e = .returned (.bool true) ∧ w1 = w') := hide fun w' hg => by
          have := nearer_nb t (kz (dr L x1) k).1 x1 w' hg
          rwa [hn] at this
        clear hn
        generalize kz (dr L x1) k = y at *
        obtain ⟨y1, y2, y3⟩ := y
        go_upto_region 3 with fail
        go_quiet ((go_at_call 24; exact Calls.quiet_of_same (unhide C2 _ ((unhide HG4).below (below_drewN (Below.refl _ _) _) (unhide HG4).size))))
        go_wp2
        go_roundw
        case rel => exact ⟨k + 1, by omega, by go_num, HR2, hide (below_drewN (unhide HB3) _)⟩
        case measure => simp [intOf]; omega
      | false =>
        have HE := hide (show put (dr L x1) k (x1, x2, x3) = wt t L (x1, x2, x3) by
          rw [← unhide HW, pl_at (t := t) (n := x1) (M := dr L x1) (k := k) (by rw [unhide HM]; omega) (unhide HR) (fun _ => hn)])
        have C2 : Hid (∀ w' : World, Glob w' → Calls Tryd.prog 24 #[.int .i64 t, .int .i64 (kz (dr L x1) k).1, .int .i64 x1] w' fun e w1 => e = .returned (.bool false) ∧ w1 = w') := hide fun w' hg => by
          have := nearer_nb t (kz (dr L x1) k).1 x1 w' hg
          rwa [hn] at this
        clear hn
        generalize kz (dr L x1) k = y at *
        obtain ⟨y1, y2, y3⟩ := y
        go_upto_region 3 with fail
        go_quiet ((go_at_call 24; exact Calls.quiet_of_same (unhide C2 _ ((unhide HG4).below (below_drewN (Below.refl _ _) _) (unhide HG4).size))))
        obtain ⟨wq, hwq⟩ : ∃ x, x = wr.drewN nq := ⟨_, rfl⟩
        rw [← hwq]
        have BQ : Hid (Below wr.heap.size wr wq) := hide (hwq ▸ below_drewN (Below.refl _ _) _)
        clear hwq
        have HBQ := hide ((unhide HBA).trans ((unhide BQ).mono (unhide HBA).size))
        obtain ⟨hy1, hy2, hy3⟩ := unhide HX wq (unhide HBQ)
        have CI := insert_k (dr L x1) _ w1.heap.size x1 x2 x3 k wq ((unhide HO3).below (unhide BQ) (Nat.le_refl _)) (unhide HBQ).size (by rw [unhide HM]; omega) (unhide HD)
        rw [unhide HE] at CI
        have CI := hide CI
        clear hx1 hx2 hx3
        go_wp2_with (go_at_call 38; refine (unhide CI).mono ?_; rintro e w5 ⟨v5, rfl, o5, b5⟩; have O5 := hide o5; have B5 := hide b5; clear o5 b5)
        go_ret
        refine ⟨_, rfl, (unhide O5).mono (unhide HB0).size, (unhide HB0).trans (((unhide HBQ).trans (unhide B5)).mono (unhide HB0).size)⟩
    · have b1 : decide (k < m) = false := decide_eq_false hlt
      have HE := hide (show put (dr L x1) k (x1, x2, x3) = wt t L (x1, x2, x3) by
        rw [← unhide HW, pl_at (t := t) (n := x1) (M := dr L x1) (k := k) (by rw [unhide HM]; omega) (unhide HR) (fun q => absurd q (by rw [unhide HM]; exact hlt))])
      go_upto_region 3 with fail
      go_quiet (fail)
      obtain ⟨wq, hwq⟩ : ∃ x, x = wr.drewN nq := ⟨_, rfl⟩
      rw [← hwq]
      have BQ : Hid (Below wr.heap.size wr wq) := hide (hwq ▸ below_drewN (Below.refl _ _) _)
      clear hwq
      have HBQ := hide ((unhide HBA).trans ((unhide BQ).mono (unhide HBA).size))
      obtain ⟨hy1, hy2, hy3⟩ := unhide HX wq (unhide HBQ)
      have CI := insert_k (dr L x1) _ w1.heap.size x1 x2 x3 k wq ((unhide HO3).below (unhide BQ) (Nat.le_refl _)) (unhide HBQ).size (by rw [unhide HM]; omega) (unhide HD)
      rw [unhide HE] at CI
      have CI := hide CI
      clear hx1 hx2 hx3
      go_wp2_with (go_at_call 38; refine (unhide CI).mono ?_; rintro e w5 ⟨v5, rfl, o5, b5⟩; have O5 := hide o5; have B5 := hide b5; clear o5 b5)
      go_ret
      refine ⟨_, rfl, (unhide O5).mono (unhide HB0).size, (unhide HB0).trans (((unhide HBQ).trans (unhide B5)).mono (unhide HB0).size)⟩
end Go.Proofs.YtgglnhnokhpnpaaDoor
