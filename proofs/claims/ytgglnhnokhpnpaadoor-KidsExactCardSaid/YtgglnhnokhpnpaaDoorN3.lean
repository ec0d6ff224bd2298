/- Walk of the page's among. -/
import Derived.Test.YtgglnhnokhpnpaaDoorJ9
import Derived.Deep.RegionHeld3
namespace Go.Proofs.YtgglnhnokhpnpaaDoor
open Go.RowKit

theorem amO_in {t : Int} {x : Kd} {L : List Kd} {k : Nat} (h : amI t x.1 L k = true) : amO t x L (k + 1) = amO t x L k ++ [kz L k] := by
  unfold amO; rw [if_neg (by rw [h]; rintro ⟨q, _⟩; cases q)]; rw [← amO.eq_def]
theorem amO_off {t : Int} {x : Kd} {L : List Kd} {k : Nat} (h : nb t x.1 (kz L k).1 = false) : amO t x L (k + 1) = amO t x L k ++ [kz L k] := by
  rw [amO, if_neg (by rw [h]; rintro ⟨_, q⟩; cases q)]
theorem amO_on {t : Int} {x : Kd} {L : List Kd} {k : Nat} (h1 : amI t x.1 L k = false) (h : nb t x.1 (kz L k).1 = true) : amO t x L (k + 1) = (amO t x L k ++ [x]) ++ [kz L k] := by
  rw [amO, if_pos ⟨h1, h⟩]
theorem amI_succ (t n : Int) (L : List Kd) (k : Nat) : amI t n L (k + 1) = (amI t n L k || nb t n (kz L k).1) := rfl
theorem amg_end (t : Int) (x : Kd) (L : List Kd) : (if amI t x.1 L L.length = true then amO t x L L.length else amO t x L L.length ++ [x]) = amg t x L := by
  have := amK_run t x L L.length (Nat.le_refl _)
  rw [List.drop_length] at this
  rw [← this]
  split
  · simp
  · rfl
set_option maxHeartbeats 4000000 in
set_option maxRecDepth 100000 in
theorem among_k (t : Int) (L : List Kd) (x1 x2 x3 : Int) (v : Value) (w : World) (h : KL w v L) (hl : L.length ≤ 1000) :
    Calls Tryd.prog 36 #[.int .i64 t, v, .agg #[.int .i64 x1, .int .i64 x2, .int .i64 x3]] w fun e w' => ∃ v', e = .returned v' ∧ KO w' w.heap.size v' (amg t (x1, x2, x3) L) ∧ Below w.heap.size w w' := by
  have hb0 : Below w.heap.size w (w.alloc (.cells #[.int .i64 x1, .int .i64 x2, .int .i64 x3] 45)) := (Below.refl _ _).alloc (Nat.le_refl _) _
  have XB := hide (show ∀ w', Below (w.alloc (.cells #[.int .i64 x1, .int .i64 x2, .int .i64 x3] 45)).heap.size (w.alloc (.cells #[.int .i64 x1, .int .i64 x2, .int .i64 x3] 45)) w' → w'.cell? ⟨w.heap.size, 0, none⟩ = some (.int .i64 x1) ∧ w'.cell? ⟨w.heap.size, 0 + 1, none⟩ = some (.int .i64 x2) ∧ w'.cell? ⟨w.heap.size, 0 + 2, none⟩ = some (.int .i64 x3) from fun w' hb => ⟨(hb.cell (p := ⟨w.heap.size, 0, none⟩) (by simp)).trans (by simp [go_sem]), (hb.cell (p := ⟨w.heap.size, 0 + 1, none⟩) (by simp)).trans (by simp [go_sem]), (hb.cell (p := ⟨w.heap.size, 0 + 2, none⟩) (by simp)).trans (by simp [go_sem])⟩)
  have HK := hide (h.below hb0 (Nat.le_refl _))
  have HB0 := hide hb0
  have hgl : w.heap.size < (w.alloc (.cells #[.int .i64 x1, .int .i64 x2, .int .i64 x3] 45)).heap.size := by simp
  have HAE := hide (amg_end t (x1, x2, x3) L)
  have LN0 := hide (show ∀ k, k ≤ L.length → (amO t (x1, x2, x3) L k).length ≤ 2000 from fun k hk => by have := amO_len t (x1, x2, x3) L k; omega)
  obtain ⟨q, c, rfl⟩ := kl_form h
  obtain ⟨n, hn⟩ : ∃ n, L.length = n := ⟨_, rfl⟩
  have HN := hide hn
  rw [hn] at HK HAE LN0 ⊢
  clear h hb0 hn hl
  generalize hw1 : w.alloc (.cells #[.int .i64 x1, .int .i64 x2, .int .i64 x3] 45) = wb at *
  go_enter Tryd.func36, Tryd.ntmps36
  go_upto_region 1 with fail
  clear hw1
  go_wp2
  go_loopw [7, 8, 9] (fun u b i w3 => ∃ (V : Value) (k : Nat), k ≤ n ∧ u = V ∧ b = .bool (amI t x1 L k) ∧ i = .int .i64 k ∧ KO w3 wb.heap.size V (amO t (x1, x2, x3) L k) ∧ Below wb.heap.size wb w3) (fun _ _ i _ => n - (intOf i).toNat)
  case atStart => exact ⟨_, 0, by omega, rfl, rfl, rfl, KO.nil _ _, Below.refl _ _⟩
  case round =>
    obtain ⟨V, k, hk, hu, rfl, rfl, ho, hb⟩ := hrel
    obtain rfl := hu.symm
    have HO := hide ho
    have HB := hide hb
    clear ho hb
    by_cases hlt : k < n
    · have CL := hide (fun W (hb : Below wb.heap.size wb W) => kl_cell (k := k) ((unhide HK).below hb (Nat.le_refl _)) hlt (by rw [unhide HN]; exact Nat.le_refl _))
      obtain ⟨b, off, rfl, hle2, hc, hbb, d1, d2, d3⟩ := unhide CL wr (unhide HB)
      have LN := hide (unhide LN0 k hk)
      have E1 := hide (amI_succ t x1 L k)
      have b1 : decide (k < n) = true := decide_eq_true hlt
      obtain ⟨hx1, hx2, hx3⟩ := unhide XB wr (unhide HB)
      cases hI : amI t x1 L k with
      | true =>
        have E2 := hide (amO_in (x := (x1, x2, x3)) hI)
        have E3 := hide (show amI t x1 L (k + 1) = true by rw [unhide E1, hI]; rfl)
        generalize kz L k = y at *
        obtain ⟨y1, y2, y3⟩ := y
        go_upto_region 6 with fail
        go_quiet (fail)
        obtain ⟨wq, hwq⟩ : ∃ x, x = wr.drewN nq := ⟨_, rfl⟩
        rw [← hwq]
        have BQ : Hid (Below wr.heap.size wr wq) := hide (hwq ▸ below_drewN (Below.refl _ _) _)
        clear hwq hx1 hx2 hx3 d1 d2 d3
        have HBQ := hide ((unhide HB).trans ((unhide BQ).mono (unhide HB).size))
        obtain ⟨_, _, hq, -, -, hbq, d1, d2, d3⟩ := unhide CL wq (unhide HBQ)
        cases hq
        have HOQ := hide ((unhide HO).below (unhide BQ) (Nat.le_refl _))
        have LNQ := hide (show ∀ o, Below wb.heap.size wb (wq.alloc o) from fun o => (unhide HBQ).alloc (unhide HBQ).size o)
        go_wp2_with (at_builtin; refine wpList_addK (by simp [Region.wanted]) _ _ rfl wb.heap.size _ _ (amO t (x1, x2, x3) L k) [(y1, y2, y3)] rfl ((unhide HOQ).below ((Below.refl _ _).alloc (Nat.le_refl _) _) (Nat.le_refl _)) rfl (kl_lit' _ _ _ _ _ rfl) (Nat.le_trans (unhide LN) (by omega)) (by simp) (unhide LNQ _).size ?_; intro v4 w4 o4 b4; have O4 := hide o4; have B4 := hide ((unhide LNQ _).trans b4); clear o4 b4)
        go_roundw
        case rel => exact ⟨_, k + 1, by omega, rfl, by rw [unhide E3], by go_num, by rw [unhide E2]; exact unhide O4, unhide B4⟩
        case measure => simp [intOf]; omega
      | false =>
        have C33 := hide (fun W => rnearer_nb t x1 (kz L k).1 W)
        cases hN : nb t x1 (kz L k).1 with
        | true =>
          rw [hN] at C33
          have E2 := hide (amO_on (x := (x1, x2, x3)) hI hN)
          have E3 := hide (show amI t x1 L (k + 1) = true by rw [unhide E1, hI, hN]; rfl)
          have m1 := trivial
          clear hI hN E1
          generalize kz L k = y at *
          obtain ⟨y1, y2, y3⟩ := y
          go_upto_region 6 with fail
          have b3 := Below.refl wr.heap.size wr
          have SX := hide (show ∀ W, Below wr.heap.size wr W → Below wr.heap.size wr W ∧ W.cell? ⟨w.heap.size, 0, none⟩ = some (.int .i64 x1) ∧ W.cell? ⟨b, off + k * 3, none⟩ = some (.int .i64 y1) from fun W hb => ⟨hb, (hb.cell (p := ⟨w.heap.size, 0, none⟩) (by have := (unhide HB).size; show w.heap.size < wr.heap.size; omega)).trans hx1, (hb.cell (p := ⟨b, off + k * 3, none⟩) hbb).trans d1⟩)
          go_region_held3 (fun w' => Below wr.heap.size wr w' ∧ w'.cell? ⟨w.heap.size, 0, none⟩ = some (.int .i64 x1) ∧ w'.cell? ⟨b, off + k * 3, none⟩ = some (.int .i64 y1))
            (first
              | assumption
              | exact unhide SX _ (by assumption)
              | exact unhide SX _ (below_drewN (by assumption) _)
              | exact unhide SX _ (below_drewN (by assumption) 1))
            (first
              | (go_at_call 33; (with_reducible refine (unhide C33 _).mono ?_); rintro e w9 ⟨rfl, b9⟩; first | have b10 := below_up b3 b9 | have b10 := below_of b3 b9 | have b10 := below_of (below_drewN b3 1) b9 | have b10 := below_of (And.left (by assumption)) b9))
          have HBQ := hide ((unhide HB).trans (b10.mono (unhide HB).size))
          have HOQ := hide ((unhide HO).below b10 (Nat.le_refl _))
          clear hx1 hx2 hx3 d1 d2 d3 SX b3 b9 b10
          obtain ⟨_, _, hq, -, -, hbq, d1, d2, d3⟩ := unhide CL w9 (unhide HBQ)
          cases hq
          obtain ⟨hx1, hx2, hx3⟩ := unhide XB w9 (unhide HBQ)
          have LNQ := hide (show ∀ o, Below wb.heap.size wb (w9.alloc o) from fun o => (unhide HBQ).alloc (unhide HBQ).size o)
          go_wp2_with (first
            | (clear m1; at_builtin; refine wpList_addK (by simp [Region.wanted]) _ _ rfl wb.heap.size _ _ (amO t (x1, x2, x3) L k) [(x1, x2, x3)] rfl ((unhide HOQ).below ((Below.refl _ _).alloc (Nat.le_refl _) _) (Nat.le_refl _)) rfl (kl_lit' _ _ _ _ _ rfl) (Nat.le_trans (unhide LN) (by omega)) (by simp) (unhide LNQ _).size ?_; intro v4 w4 o4 b4; have O4 := hide o4; have B4 := hide ((unhide LNQ _).trans b4); obtain ⟨_, _, hq4, -, -, hbq4, d1', d2', d3'⟩ := unhide CL w4 (unhide B4); cases hq4; have LN4 := hide (show ∀ o, Below wb.heap.size wb (w4.alloc o) from fun o => (unhide B4).alloc (unhide B4).size o); have LL4 := hide (show (amO t (x1, x2, x3) L k ++ [(x1, x2, x3)]).length ≤ 1000000 by rw [List.length_append]; have := unhide LN; simp; omega); clear o4 b4)
            | (at_builtin; refine wpList_addK (by simp [Region.wanted]) _ _ rfl wb.heap.size _ _ (amO t (x1, x2, x3) L k ++ [(x1, x2, x3)]) [(y1, y2, y3)] rfl ((unhide O4).below ((Below.refl _ _).alloc (Nat.le_refl _) _) (Nat.le_refl _)) rfl (kl_lit' _ _ _ _ _ rfl) (unhide LL4) (by simp) (unhide LN4 _).size ?_; intro v6 w6 o6 b6; have O6 := hide o6; have B6 := hide ((unhide LN4 _).trans b6); clear o6 b6))
          go_roundw
          case rel => exact ⟨_, k + 1, by omega, rfl, by rw [unhide E3], by go_num, by rw [unhide E2]; exact unhide O6, unhide B6⟩
          case measure => simp [intOf]; omega
        | false =>
          rw [hN] at C33
          have E2 := hide (amO_off (x := (x1, x2, x3)) hN)
          have E3 := hide (show amI t x1 L (k + 1) = false by rw [unhide E1, hI, hN]; rfl)
          have m1 := trivial
          clear hI hN E1
          generalize kz L k = y at *
          obtain ⟨y1, y2, y3⟩ := y
          go_upto_region 6 with fail
          have b3 := Below.refl wr.heap.size wr
          have SX := hide (show ∀ W, Below wr.heap.size wr W → Below wr.heap.size wr W ∧ W.cell? ⟨w.heap.size, 0, none⟩ = some (.int .i64 x1) ∧ W.cell? ⟨b, off + k * 3, none⟩ = some (.int .i64 y1) from fun W hb => ⟨hb, (hb.cell (p := ⟨w.heap.size, 0, none⟩) (by have := (unhide HB).size; show w.heap.size < wr.heap.size; omega)).trans hx1, (hb.cell (p := ⟨b, off + k * 3, none⟩) hbb).trans d1⟩)
          go_region_held3 (fun w' => Below wr.heap.size wr w' ∧ w'.cell? ⟨w.heap.size, 0, none⟩ = some (.int .i64 x1) ∧ w'.cell? ⟨b, off + k * 3, none⟩ = some (.int .i64 y1))
            (first
              | assumption
              | exact unhide SX _ (by assumption)
              | exact unhide SX _ (below_drewN (by assumption) _)
              | exact unhide SX _ (below_drewN (by assumption) 1))
            (first
              | (go_at_call 33; (with_reducible refine (unhide C33 _).mono ?_); rintro e w9 ⟨rfl, b9⟩; first | have b10 := below_up b3 b9 | have b10 := below_of b3 b9 | have b10 := below_of (below_drewN b3 1) b9 | have b10 := below_of (And.left (by assumption)) b9))
          have HBQ := hide ((unhide HB).trans (b10.mono (unhide HB).size))
          have HOQ := hide ((unhide HO).below b10 (Nat.le_refl _))
          clear hx1 hx2 hx3 d1 d2 d3 SX b3 b9 b10
          obtain ⟨_, _, hq, -, -, hbq, d1, d2, d3⟩ := unhide CL w9 (unhide HBQ)
          cases hq
          obtain ⟨hx1, hx2, hx3⟩ := unhide XB w9 (unhide HBQ)
          have LNQ := hide (show ∀ o, Below wb.heap.size wb (w9.alloc o) from fun o => (unhide HBQ).alloc (unhide HBQ).size o)
          go_wp2_with ((at_builtin; refine wpList_addK (by simp [Region.wanted]) _ _ rfl wb.heap.size _ _ (amO t (x1, x2, x3) L k) [(y1, y2, y3)] rfl ((unhide HOQ).below ((Below.refl _ _).alloc (Nat.le_refl _) _) (Nat.le_refl _)) rfl (kl_lit' _ _ _ _ _ rfl) (Nat.le_trans (unhide LN) (by omega)) (by simp) (unhide LNQ _).size ?_; intro v6 w6 o6 b6; have O6 := hide o6; have B6 := hide ((unhide LNQ _).trans b6); clear o6 b6))
          go_roundw
          case rel => exact ⟨_, k + 1, by omega, rfl, by rw [unhide E3], by go_num, by rw [unhide E2]; exact unhide O6, unhide B6⟩
          case measure => simp [intOf]; omega
    · obtain rfl : n = k := by omega
      have b1 : decide (n < n) = false := decide_eq_false hlt
      have LN := hide (unhide LN0 n (Nat.le_refl _))
      have LNQ := hide (show ∀ o, Below wb.heap.size wb (wr.alloc o) from fun o => (unhide HB).alloc (unhide HB).size o)
      obtain ⟨hx1, hx2, hx3⟩ := unhide XB wr (unhide HB)
      cases hI : amI t x1 L n with
      | true =>
        rw [if_pos hI] at HAE
        clear hI
        go_wp2
        go_ret
        exact ⟨_, rfl, by rw [← unhide HAE]; exact (unhide HO).mono (unhide HB0).size, (unhide HB0).trans ((unhide HB).mono (unhide HB0).size)⟩
      | false =>
        rw [if_neg (by rw [hI]; decide)] at HAE
        clear hI
        go_wp2_with (at_builtin; refine wpList_addK (by simp [Region.wanted]) _ _ rfl wb.heap.size _ _ (amO t (x1, x2, x3) L n) [(x1, x2, x3)] rfl ((unhide HO).below ((Below.refl _ _).alloc (Nat.le_refl _) _) (Nat.le_refl _)) rfl (kl_lit' _ _ _ _ _ rfl) (Nat.le_trans (unhide LN) (by omega)) (by simp) (unhide LNQ _).size ?_; intro v6 w6 o6 b6; have O6 := hide o6; have B6 := hide ((unhide LNQ _).trans b6); clear o6 b6)
        go_ret
        exact ⟨_, rfl, by rw [← unhide HAE]; exact (unhide O6).mono (unhide HB0).size, (unhide HB0).trans ((unhide B6).mono (unhide HB0).size)⟩
end Go.Proofs.YtgglnhnokhpnpaaDoor
