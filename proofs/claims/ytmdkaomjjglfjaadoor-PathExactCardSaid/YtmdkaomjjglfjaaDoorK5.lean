/- Walks of the page's Path and Whole. -/
import Derived.Test.YtmdkaomjjglfjaaDoorK4
namespace Go.Proofs.YtmdkaomjjglfjaaDoor
open Go.RowKit

/-- What the page's Path answers. -/
def pth (t s : Int) (L : List Int) (d : Int) : Int :=
  if nd L = false then 1 else if d < (L.length : Int) then 12 else if ne t s L = true then 0 else 1
theorem chk_pth {t s : Int} {L : List Int} {d : Int} (h : IsT t ∧ IsN s) (h1 : 1 ≤ d) (h2 : d ≤ 8) : chk t s L d = pth t s L d := by
  unfold chk pth
  rw [if_neg (fun q => q h)]
  by_cases hn : nd L = false
  · rw [if_pos (.inr (.inr hn)), if_pos hn]
  · rw [if_neg (by rintro (q | q | q); · omega
                   · omega
                   · exact hn q), if_neg hn]
set_option maxHeartbeats 1000000 in
theorem rpath_is (t s : Int) (L : List Int) (d : Int) (v : Value) (w : World) (h : IL w v L) :
    Calls Tryd.prog 13 #[.int .i64 t, .int .i64 s, v, .int .i64 d] w fun e w' => e = .returned (.int .i64 (pth t s L d)) ∧ Below w.heap.size w w' := by
  obtain ⟨q, c, rfl⟩ := il_form h
  obtain ⟨n, hn⟩ : ∃ n, L.length = n := ⟨_, rfl⟩
  have hnd : nd L = ndK L n := by unfold nd; rw [hn]
  have hne : ne t s L = neK t s L n := by unfold ne; rw [hn]
  obtain ⟨A, hA⟩ : ∃ A, pth t s L d = A := ⟨_, rfl⟩
  rw [hA]
  unfold pth at hA
  rw [hnd, hne, hn] at hA
  have HP := hide hA
  clear hA
  have HN := hide (show n ≤ L.length by omega)
  have HI := hide h
  rw [hn] at HI ⊢
  clear h hn hnd hne
  go_enter Tryd.func13, Tryd.ntmps13
  go_wp2
  go_loop [9] (fun xi => ∃ k : Nat, k ≤ n ∧ xi = .int .i64 k ∧ Hid (ndK L k = true)) (fun i => n - (intOf i).toNat)
  case atStart => exact ⟨0, by omega, rfl, hide rfl⟩
  case round =>
    obtain ⟨k, hk, rfl, HK⟩ := hrel
    by_cases hlt : k < n
    · obtain ⟨b, off, rfl, hle, hc, hb, hck⟩ := il_cell (unhide HI) hlt (unhide HN)
      have E1 := hide (ndK_succ L k)
      by_cases hx : IsN (zF L k)
      · have HK2 : Hid (ndK L (k + 1) = true) := hide (by rw [unhide E1, unhide HK, decide_eq_true hx]; rfl)
        have c1 := hide (isnode_t (zF L k) hx w)
        clear hx E1
        generalize zF L k = x at *
        go_wp2_with (go_at_call 12; refine (unhide c1).mono ?_; rintro e w1 ⟨rfl, rfl⟩)
        go_round
        case rel => exact ⟨k + 1, by omega, by go_num, HK2⟩
        case measure => simp [intOf]; omega
      · have hf : ndK L n = false := stop_false (ndK_succ L) hlt (decide_eq_false hx)
        have c1 := hide (isnode_f (zF L k) hx w)
        have HF := hide hf
        clear hx E1 hf
        generalize zF L k = x at *
        go_wp2_with (go_at_call 12; refine (unhide c1).mono ?_; rintro e w1 ⟨rfl, rfl⟩)
        go_ret
        exact ⟨by rw [← unhide HP, if_pos (unhide HF)]; rfl, Below.refl _ _⟩
    · obtain rfl : n = k := by omega
      by_cases hd : d < (n : Int)
      · have b1 : decide (d < (n : Int)) = true := decide_eq_true hd
        have HD := hide hd
        clear hd
        go_wp2
        go_ret
        exact ⟨by rw [← unhide HP, unhide HK, if_neg (by simp), if_pos (unhide HD)]; rfl, Below.refl _ _⟩
      · have b1 : decide (d < (n : Int)) = false := decide_eq_false hd
        have HD := hide hd
        clear hd
        go_wp2
        go_loopw [10, 11] (fun xl xi w2 => ∃ k : Nat, k ≤ n ∧ xi = .int .i64 k ∧ xl = .int .i64 (lst s L k) ∧ Hid (neK t s L k = true) ∧ Hid (Below w.heap.size w w2)) (fun _ i _ => n - (intOf i).toNat)
        case atStart => exact ⟨0, by omega, rfl, rfl, hide rfl, hide (Below.refl _ _)⟩
        case round =>
          obtain ⟨k, hk, rfl, rfl, HC, HB⟩ := hrel
          by_cases hlt : k < n
          · obtain ⟨b, off, rfl, hle, hc, hb, hck⟩ := il_cell ((unhide HI).below (unhide HB) (Nat.le_refl _)) hlt (unhide HN)
            have c1 := hide (rnearer_nb t (zF L k) (lst s L k))
            have E1 := hide (neK_succ t s L k)
            have E2 : lst s L (k + 1) = zF L k := rfl
            have E2 := hide E2
            have hck2 := fun (w3 : World) (hb3 : Below wr.heap.size wr w3) => (hb3.cell (p := ⟨b, off + k, none⟩) hb).trans hck
            have C2 := hide hck2
            clear hck2
            cases hx : nb t (zF L k) (lst s L k) with
            | true =>
              have HC2 : Hid (neK t s L (k + 1) = true) := hide (by rw [unhide E1, unhide HC, hx]; rfl)
              rw [hx] at c1
              clear hx E1
              generalize lst s L k = y at *
              generalize zF L k = x at *
              go_wp2_with (go_at_call 23; refine (unhide c1 _).mono ?_; rintro e w1 ⟨rfl, hb1⟩; have hck3 := unhide C2 w1 hb1; have B1 := hide ((unhide HB).trans (hb1.mono (unhide HB).size)); have hb9 := Nat.lt_of_lt_of_le hb hb1.size; clear hb1)
              go_roundw
              case rel => exact ⟨k + 1, by omega, by go_num, by rw [unhide E2], HC2, B1⟩
              case measure => simp [intOf]; omega
            | false =>
              have hf : neK t s L n = false := stop_false (neK_succ t s L) hlt hx
              have HF := hide hf
              rw [hx] at c1
              clear hx E1 hf
              generalize lst s L k = y at *
              generalize zF L k = x at *
              go_wp2_with (go_at_call 23; refine (unhide c1 _).mono ?_; rintro e w1 ⟨rfl, hb1⟩; have B1 := hide ((unhide HB).trans (hb1.mono (unhide HB).size)); clear hb1)
              go_ret
              exact ⟨by rw [← unhide HP, unhide HK, if_neg (by simp), if_neg (Int.not_lt.2 (unhide HD)), unhide HF, if_neg (by simp)]; rfl, unhide B1⟩
          · obtain rfl : n = k := by omega
            go_wp2
            go_ret
            exact ⟨by rw [← unhide HP, unhide HK, if_neg (by simp), if_neg (Int.not_lt.2 (unhide HD)), unhide HC, if_pos rfl]; rfl, unhide HB⟩
set_option maxHeartbeats 2000000 in
theorem rwhole_is (M : List (List Int)) (v : Value) (w : World) (h : LL w v M) :
    Calls Tryd.prog 9 #[v] w fun e w' => e = .returned (.bool (wh M)) ∧ w' = w := by
  obtain ⟨q, c, rfl⟩ := ll_form h
  obtain ⟨m, hm⟩ : ∃ m, M.length = m := ⟨_, rfl⟩
  have HM := hide (show m ≤ M.length by omega)
  have HM2 := hide hm
  have HI := hide h
  rw [hm] at HI ⊢
  clear h hm
  by_cases h8 : 8 < m
  · have HF := hide (wh_no1 (show 8 < M.length by rw [unhide HM2]; exact h8))
    go_enter Tryd.func9, Tryd.ntmps9
    go_wp2
    go_ret
    exact ⟨by rw [unhide HF]; rfl, rfl⟩
  · go_enter Tryd.func9, Tryd.ntmps9
    go_wp2
    go_loop [3] (fun xi => ∃ k : Nat, k ≤ m ∧ xi = .int .i64 k ∧ Hid (nlK M k = true)) (fun i => m - (intOf i).toNat)
    case atStart => exact ⟨0, by omega, rfl, hide rfl⟩
    case round =>
      obtain ⟨k, hk, rfl, HK⟩ := hrel
      by_cases hlt : k < m
      · obtain ⟨b, off, q1, c1, rfl, hle, hc, hb, hck, hI⟩ := ll_cell (unhide HI) hlt (unhide HM)
        have E1 := hide (nlK_succ M k)
        have E3 : nd (zL M k) = ndK (zL M k) (zL M k).length := rfl
        have HL := hide (show (zL M k).length ≤ (zL M k).length from Nat.le_refl _)
        obtain ⟨p, hp⟩ : ∃ p, (zL M k).length = p := ⟨_, rfl⟩
        rw [hp] at hck hI E3
        have HL := hide (show p ≤ (zL M k).length by omega)
        have HI1 := hide hI
        have E3 := hide E3
        clear hI hp
        go_wp2
        go_loop [4] (fun xj => ∃ j : Nat, j ≤ p ∧ xj = .int .i64 j ∧ Hid (ndK (zL M k) j = true)) (fun j => p - (intOf j).toNat)
        case atStart => exact ⟨0, by omega, rfl, hide rfl⟩
        case round =>
          obtain ⟨j, hj, rfl, HJ⟩ := hrel
          by_cases hlt2 : j < p
          · obtain ⟨b2, off2, rfl, hle2, hc2, hb2, hck2⟩ := il_cell (unhide HI1) hlt2 (unhide HL)
            have E4 := hide (ndK_succ (zL M k) j)
            by_cases hx : IsN (zF (zL M k) j)
            · have HJ2 : Hid (ndK (zL M k) (j + 1) = true) := hide (by rw [unhide E4, unhide HJ, decide_eq_true hx]; rfl)
              have ca := hide (isnode_t (zF (zL M k) j) hx w)
              clear hx E4
              generalize zF (zL M k) j = x at *
              go_wp2_with (go_at_call 12; refine (unhide ca).mono ?_; rintro e w1 ⟨rfl, rfl⟩)
              go_round
              case rel => exact ⟨j + 1, by omega, by go_num, HJ2⟩
              case measure => simp [intOf]; omega
            · have hf := stop_false (ndK_succ (zL M k)) hlt2 (decide_eq_false hx)
              have HF := hide (wh_no2 (M := M) (stop_false (nlK_succ M) (by rw [unhide HM2]; exact hlt) (by rw [unhide E3]; exact hf)))
              have ca := hide (isnode_f (zF (zL M k) j) hx w)
              clear hx E4 hf
              generalize zF (zL M k) j = x at *
              go_wp2_with (go_at_call 12; refine (unhide ca).mono ?_; rintro e w1 ⟨rfl, rfl⟩)
              go_ret
              exact ⟨by rw [unhide HF]; rfl, rfl⟩
          · obtain rfl : p = j := by omega
            have HK2 : Hid (nlK M (k + 1) = true) := hide (by rw [unhide E1, unhide HK, unhide E3, unhide HJ]; rfl)
            go_wp2
            go_round
            case rel => exact ⟨k + 1, by omega, by go_num, HK2⟩
            case measure => simp [intOf]; omega
      · obtain rfl : m = k := by omega
        have HN := hide (show AllN M from fun i hi => (nlK_iff M _).1 (unhide HK) i (by rw [← unhide HM2]; exact hi))
        go_wp2
        go_loop [5] (fun xi => ∃ k : Nat, k ≤ m ∧ xi = .int .i64 k ∧ Hid (ncK M k = true)) (fun i => m - (intOf i).toNat)
        case atStart => exact ⟨0, by omega, rfl, hide rfl⟩
        case round =>
          obtain ⟨k, hk, rfl, HC⟩ := hrel
          by_cases hlt : k < m
          · have E1 := hide (ncK_succ M k)
            go_wp2
            go_loop [6, 7] (fun xa xj => ∃ j : Nat, j ≤ m + 1 ∧ xj = .int .i64 j ∧ xa = .int .i64 (it M k j : Nat) ∧ Hid (alK M k j = true)) (fun _ j => m + 2 - (intOf j).toNat)
            case atStart => exact ⟨0, by omega, rfl, rfl, hide rfl⟩
            case round =>
              obtain ⟨j, hj, rfl, rfl, HJ⟩ := hrel
              have E4 := hide (alK_succ M k j)
              have ends : lv M (it M k j) = false → ncK M (k + 1) = true := fun hf => by
                rw [unhide E1, unhide HC]
                cases hx : alK M k 8 with
                | false => rfl
                | true =>
                  have := al_eight (unhide HN) (by rw [unhide HM2]; omega) hx (j + 1)
                  rw [unhide E4, hf, Bool.and_false] at this
                  cases this
              by_cases hin : it M k j < m
              · obtain ⟨b, off, q1, c1, rfl, hle, hc, hb, hck, hI⟩ := ll_cell (unhide HI) hin (unhide HM)
                have hlz : ((it M k j : Nat) : Int) < (m : Int) := by omega
                by_cases he : (zL M (it M k j)).length = 0
                · have HC2 := hide (ends (lv_no2 he))
                  rw [he] at hck
                  clear E4 he hI ends
                  generalize it M k j = x at *
                  go_wp2
                  go_round
                  case rel => exact ⟨k + 1, by omega, by go_num, HC2⟩
                  case measure => simp [intOf]; omega
                · have hp : 0 < (zL M (it M k j)).length := by omega
                  have hl := lv_yes (by rw [unhide HM2]; exact hin) hp
                  have HJ2 : Hid (alK M k (j + 1) = true) := hide (by rw [unhide E4, unhide HJ, hl]; rfl)
                  obtain ⟨b2, off2, rfl, hle2, hc2, hb2, hck2⟩ := il_cell hI hp (Nat.le_refl _)
                  have E2 : it M k (j + 1) = hd M (it M k j) := rfl
                  have E2 := hide E2
                  rw [(hd_lt (unhide HN) hl).2, Nat.add_zero] at hck2
                  clear he hl E4 hI ends
                  generalize (zL M (it M k j)).length = p at *
                  generalize hd M (it M k j) = y at *
                  generalize it M k j = x at *
                  by_cases hj2 : m < j
                  · obtain rfl : j = m + 1 := by omega
                    have HF := hide (wh_no3 (M := M) (stop_false (ncK_succ M) (by rw [unhide HM2]; exact hlt) (by rw [al_len (by rw [unhide HM2]; exact unhide HJ2)]; rfl)))
                    go_wp2
                    go_ret
                    exact ⟨by rw [unhide HF]; rfl, rfl⟩
                  · go_wp2
                    go_round
                    case rel => exact ⟨j + 1, by omega, by go_num, by rw [unhide E2], HJ2⟩
                    case measure => simp [intOf]; omega
              · have HC2 := hide (ends (lv_no1 (by rw [unhide HM2]; omega)))
                clear E4 ends
                generalize it M k j = x at *
                go_wp2
                go_round
                case rel => exact ⟨k + 1, by omega, by go_num, HC2⟩
                case measure => simp [intOf]; omega
          · obtain rfl : m = k := by omega
            have HF := hide (wh_true (M := M) (by rw [unhide HM2]; omega) (by rw [unhide HM2]; exact unhide HK) (by rw [unhide HM2]; exact unhide HC))
            go_wp2
            go_ret
            exact ⟨by rw [unhide HF]; rfl, rfl⟩
end Go.Proofs.YtmdkaomjjglfjaaDoor
