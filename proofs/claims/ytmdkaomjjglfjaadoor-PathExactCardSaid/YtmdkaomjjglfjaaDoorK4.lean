/- Walks of path.comesBack, path.Whole. -/
import Derived.Test.YtmdkaomjjglfjaaDoorK2
import Derived.Test.YtmdkaomjjglfjaaDoorK3
namespace Go.Proofs.YtmdkaomjjglfjaaDoor
open Go.RowKit

theorem ll_form {w : World} {v : Value} {M : List (List Int)} (h : LL w v M) : ∃ q c, v = .slice q M.length c := by
  obtain ⟨q, c, h1, _⟩ := h
  exact ⟨q, c, h1⟩
theorem lv_no1 {M : List (List Int)} {n : Nat} (h : M.length ≤ n) : lv M n = false := by unfold lv; rw [decide_eq_false (by omega)]; rfl
theorem lv_no2 {M : List (List Int)} {n : Nat} (h : (zL M n).length = 0) : lv M n = false := by unfold lv; rw [h]; simp
theorem lv_yes {M : List (List Int)} {n : Nat} (h : n < M.length) (h2 : 0 < (zL M n).length) : lv M n = true := by unfold lv; rw [decide_eq_true h, decide_eq_true h2]; rfl
set_option maxHeartbeats 1000000 in
theorem cback_is (M : List (List Int)) (n : Nat) (v : Value) (w : World) (h : LL w v M) (hN : AllN M) :
    Calls Tryd.prog 21 #[v, .int .i64 n] w fun e w' => e = .returned (.bool (alK M n 8)) ∧ w' = w := by
  obtain ⟨q, c, rfl⟩ := ll_form h
  obtain ⟨m, hm⟩ : ∃ m, M.length = m := ⟨_, rfl⟩
  have HM := hide (show m ≤ M.length by omega)
  have HM2 := hide hm
  have HI := hide h
  rw [hm] at HI ⊢
  have HN := hide hN
  clear h hm hN
  go_enter Tryd.func21, Tryd.ntmps21
  go_wp2
  go_loop [1, 5] (fun xn xi => ∃ k : Nat, k ≤ 8 ∧ xi = .int .i64 k ∧ xn = .int .i64 (it M n k : Nat) ∧ Hid (alK M n k = true)) (fun _ i => 8 - (intOf i).toNat)
  case atStart => exact ⟨0, by omega, rfl, rfl, hide rfl⟩
  case round =>
    obtain ⟨k, hk, rfl, rfl, HK⟩ := hrel
    by_cases hlt : k < 8
    · have E1 := hide (alK_succ M n k)
      by_cases hin : it M n k < m
      · obtain ⟨b, off, q1, c1, rfl, hle, hc, hb, hck, hI⟩ := ll_cell (unhide HI) hin (unhide HM)
        have hlz : ((it M n k : Nat) : Int) < (m : Int) := by omega
        by_cases he : (zL M (it M n k)).length = 0
        · have hf : alK M n 8 = false := stop_false (alK_succ M n) hlt (lv_no2 he)
          have HF := hide hf
          rw [he] at hck
          clear hf E1 he hI
          generalize it M n k = x at *
          go_wp2
          go_ret
          exact ⟨by rw [unhide HF]; rfl, rfl⟩
        · have hp : 0 < (zL M (it M n k)).length := by omega
          have hl := lv_yes (by rw [unhide HM2]; exact hin) hp
          have HK2 : Hid (alK M n (k + 1) = true) := hide (by rw [unhide E1, unhide HK, hl]; rfl)
          obtain ⟨b2, off2, rfl, hle2, hc2, hb2, hck2⟩ := il_cell hI hp (Nat.le_refl _)
          have E2 : it M n (k + 1) = hd M (it M n k) := rfl
          have E2 := hide E2
          rw [(hd_lt (unhide HN) hl).2, Nat.add_zero] at hck2
          have hz : ((zL M (it M n k)).length == 0) = false := beq_false_of_ne (by omega)
          have hzi : (((zL M (it M n k)).length : Int) == 0) = false := beq_false_of_ne (by omega)
          clear he hl E1 hI
          generalize (zL M (it M n k)).length = p at *
          generalize hd M (it M n k) = y at *
          generalize it M n k = x at *
          go_wp2
          go_round
          case rel => exact ⟨k + 1, by omega, by go_num, by rw [unhide E2], HK2⟩
          case measure => simp [intOf]; omega
      · have hf : alK M n 8 = false := stop_false (alK_succ M n) hlt (lv_no1 (by rw [unhide HM2]; omega))
        have HF := hide hf
        clear hf E1
        generalize it M n k = x at *
        go_wp2
        go_ret
        exact ⟨by rw [unhide HF]; rfl, rfl⟩
    · obtain rfl : k = 8 := by omega
      go_wp2
      go_ret
      exact ⟨by rw [unhide HK]; rfl, rfl⟩
set_option maxHeartbeats 1000000 in
theorem whole_is (t : Int) (M : List (List Int)) (v : Value) (w : World) (hG : Glob w) (h : LL w v M) :
    Calls Tryd.prog 8 #[.int .i64 t, v] w fun e w' => e = .returned (.bool (wh M)) ∧ w' = w := by
  obtain ⟨q, c, rfl⟩ := ll_form h
  obtain ⟨m, hm⟩ : ∃ m, M.length = m := ⟨_, rfl⟩
  have HM := hide (show m ≤ M.length by omega)
  have HM2 := hide hm
  have HI := hide h
  rw [hm] at HI ⊢
  have HG := hide hG
  clear h hm hG
  by_cases h8 : 8 < m
  · have HF := hide (wh_no1 (show 8 < M.length by rw [unhide HM2]; exact h8))
    go_enter Tryd.func8, Tryd.ntmps8
    go_wp2
    go_ret
    exact ⟨by rw [unhide HF]; rfl, rfl⟩
  · go_enter Tryd.func8, Tryd.ntmps8
    go_wp2
    go_loop [13] (fun xi => ∃ k : Nat, k ≤ m ∧ xi = .int .i64 k ∧ Hid (nlK M k = true)) (fun i => m - (intOf i).toNat)
    case atStart => exact ⟨0, by omega, rfl, hide rfl⟩
    case round =>
      obtain ⟨k, hk, rfl, HK⟩ := hrel
      by_cases hlt : k < m
      · obtain ⟨b, off, q1, c1, rfl, hle, hc, hb, hck, hI⟩ := ll_cell (unhide HI) hlt (unhide HM)
        have E1 := hide (nlK_succ M k)
        have ca := hide (arenodes_is (zL M k) _ w (unhide HG) hI)
        cases hx : nd (zL M k) with
        | true =>
          have HK2 : Hid (nlK M (k + 1) = true) := hide (by rw [unhide E1, unhide HK, hx]; rfl)
          rw [hx] at ca
          clear hx E1 hI
          generalize (zL M k).length = p at *
          go_wp2_with (go_at_call 20; refine (unhide ca).mono ?_; rintro e w1 ⟨rfl, rfl⟩)
          go_round
          case rel => exact ⟨k + 1, by omega, by go_num, HK2⟩
          case measure => simp [intOf]; omega
        | false =>
          have HF := hide (wh_no2 (M := M) (stop_false (nlK_succ M) (by rw [unhide HM2]; exact hlt) hx))
          rw [hx] at ca
          clear hx E1 hI
          generalize (zL M k).length = p at *
          go_wp2_with (go_at_call 20; refine (unhide ca).mono ?_; rintro e w1 ⟨rfl, rfl⟩)
          go_ret
          exact ⟨by rw [unhide HF]; rfl, rfl⟩
      · obtain rfl : m = k := by omega
        have HN := hide (show AllN M from fun i hi => (nlK_iff M _).1 (unhide HK) i (by rw [← unhide HM2]; exact hi))
        go_wp2
        go_loop [23] (fun xi => ∃ k : Nat, k ≤ m ∧ xi = .int .i64 k ∧ Hid (ncK M k = true)) (fun i => m - (intOf i).toNat)
        case atStart => exact ⟨0, by omega, rfl, hide rfl⟩
        case round =>
          obtain ⟨k, hk, rfl, HC⟩ := hrel
          by_cases hlt : k < m
          · have E1 := hide (ncK_succ M k)
            have ca := hide (cback_is M k _ w (unhide HI) (unhide HN))
            cases hx : alK M k 8 with
            | false =>
              have HC2 : Hid (ncK M (k + 1) = true) := hide (by rw [unhide E1, unhide HC, hx]; rfl)
              rw [hx] at ca
              clear hx E1
              go_wp2_with (go_at_call 21; refine (unhide ca).mono ?_; rintro e w1 ⟨rfl, rfl⟩)
              go_round
              case rel => exact ⟨k + 1, by omega, by go_num, HC2⟩
              case measure => simp [intOf]; omega
            | true =>
              have HF := hide (wh_no3 (M := M) (stop_false (ncK_succ M) (by rw [unhide HM2]; exact hlt) (by rw [hx]; rfl)))
              rw [hx] at ca
              clear hx E1
              go_wp2_with (go_at_call 21; refine (unhide ca).mono ?_; rintro e w1 ⟨rfl, rfl⟩)
              go_ret
              exact ⟨by rw [unhide HF]; rfl, rfl⟩
          · obtain rfl : m = k := by omega
            have HF := hide (wh_true (M := M) (by rw [unhide HM2]; omega) (by rw [unhide HM2]; exact unhide HK) (by rw [unhide HM2]; exact unhide HC))
            go_wp2
            go_ret
            exact ⟨by rw [unhide HF]; rfl, rfl⟩
end Go.Proofs.YtmdkaomjjglfjaaDoor
