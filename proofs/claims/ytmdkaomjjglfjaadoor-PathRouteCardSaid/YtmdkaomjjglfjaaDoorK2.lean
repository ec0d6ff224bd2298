/- Walks of path.areNodes, path.comesNearer, path.Check. -/
import Derived.Test.YtmdkaomjjglfjaaDoorK1
namespace Go.Proofs.YtmdkaomjjglfjaaDoor
open Go.RowKit

set_option maxHeartbeats 1000000 in
theorem arenodes_is (L : List Int) (v : Value) (w : World) (hG : Glob w) (h : IL w v L) :
    Calls Tryd.prog 20 #[v] w fun e w' => e = .returned (.bool (nd L)) ∧ w' = w := by
  obtain ⟨q, c, rfl⟩ := il_form h
  obtain ⟨n, hn⟩ : ∃ n, L.length = n := ⟨_, rfl⟩
  have hnd : nd L = ndK L n := by unfold nd; rw [hn]
  rw [hnd]
  have HN := hide (show n ≤ L.length by omega)
  have HI := hide h
  rw [hn] at HI ⊢
  have HG := hide hG
  clear h hn hG hnd
  go_enter Tryd.func20, Tryd.ntmps20
  go_wp2
  go_loop [9] (fun xi => ∃ k : Nat, k ≤ n ∧ xi = .int .i64 k ∧ Hid (ndK L k = true)) (fun i => n - (intOf i).toNat)
  case atStart => exact ⟨0, by omega, rfl, hide rfl⟩
  case round =>
    obtain ⟨k, hk, rfl, HK⟩ := hrel
    by_cases hlt : k < n
    · obtain ⟨b, off, rfl, hle, hc, hb, hck⟩ := il_cell (unhide HI) hlt (unhide HN)
      have E1 := hide (ndK_succ L k)
      by_cases hx : IsN (zF L k)
      · have HK2 : Hid (ndK L (k + 1) = true) := hide (by rw [unhide E1, unhide HK, decide_eq_true hx]; rfl)
        have c1 := hide (node_is (zF L k) hx w (unhide HG))
        clear hx E1
        generalize nk (zF L k) = z at *
        generalize zF L k = x at *
        go_wp2_with (go_at_call 28; refine (unhide c1).mono ?_; rintro e w1 ⟨rfl, rfl⟩)
        go_round
        case rel => exact ⟨k + 1, by omega, by go_num, HK2⟩
        case measure => simp [intOf]; omega
      · have hf : ndK L n = false := stop_false (ndK_succ L) hlt (decide_eq_false hx)
        have c1 := hide (node_no (zF L k) hx w)
        have HF := hide hf
        clear hx E1 hf
        generalize zF L k = x at *
        go_wp2_with (go_at_call 28; refine (unhide c1).mono ?_; rintro e w1 ⟨rfl, rfl⟩)
        go_ret
        exact ⟨by rw [unhide HF]; rfl, rfl⟩
    · obtain rfl : n = k := by omega
      go_wp2
      go_ret
      exact ⟨by rw [unhide HK]; rfl, rfl⟩

set_option maxHeartbeats 1000000 in
theorem nearer_all (t s : Int) (L : List Int) (v : Value) (w : World) (hG : Glob w) (h : IL w v L) :
    Calls Tryd.prog 25 #[.int .i64 t, .int .i64 s, v] w fun e w' => e = .returned (.bool (ne t s L)) ∧ w' = w := by
  obtain ⟨q, c, rfl⟩ := il_form h
  obtain ⟨n, hn⟩ : ∃ n, L.length = n := ⟨_, rfl⟩
  have hnd : ne t s L = neK t s L n := by unfold ne; rw [hn]
  rw [hnd]
  have HN := hide (show n ≤ L.length by omega)
  have HI := hide h
  rw [hn] at HI ⊢
  have HG := hide hG
  clear h hn hG hnd
  go_enter Tryd.func25, Tryd.ntmps25
  go_wp2
  go_loop [7, 13] (fun xl xi => ∃ k : Nat, k ≤ n ∧ xi = .int .i64 k ∧ xl = .int .i64 (lst s L k) ∧ Hid (neK t s L k = true)) (fun _ i => n - (intOf i).toNat)
  case atStart => exact ⟨0, by omega, rfl, rfl, hide rfl⟩
  case round =>
    obtain ⟨k, hk, rfl, rfl, HK⟩ := hrel
    by_cases hlt : k < n
    · obtain ⟨b, off, rfl, hle, hc, hb, hck⟩ := il_cell (unhide HI) hlt (unhide HN)
      have c1 := hide (nearer_nb t (zF L k) (lst s L k) w (unhide HG))
      have E1 := hide (neK_succ t s L k)
      have E2 : lst s L (k + 1) = zF L k := rfl
      have E2 := hide E2
      cases hx : nb t (zF L k) (lst s L k) with
      | true =>
        have HK2 : Hid (neK t s L (k + 1) = true) := hide (by rw [unhide E1, unhide HK, hx]; rfl)
        rw [hx] at c1
        clear hx E1
        generalize lst s L k = y at *
        generalize zF L k = x at *
        go_wp2_with (go_at_call 16; refine (unhide c1).mono ?_; rintro e w1 ⟨rfl, rfl⟩)
        go_round
        case rel => exact ⟨k + 1, by omega, by go_num, by rw [unhide E2], HK2⟩
        case measure => simp [intOf]; omega
      | false =>
        have hf : neK t s L n = false := stop_false (neK_succ t s L) hlt hx
        rw [hx] at c1
        have HF := hide hf
        clear hx E1 hf
        generalize lst s L k = y at *
        generalize zF L k = x at *
        go_wp2_with (go_at_call 16; refine (unhide c1).mono ?_; rintro e w1 ⟨rfl, rfl⟩)
        go_ret
        exact ⟨by rw [unhide HF]; rfl, rfl⟩
    · obtain rfl : n = k := by omega
      go_wp2
      go_ret
      exact ⟨by rw [unhide HK]; rfl, rfl⟩

set_option maxHeartbeats 1000000 in
theorem check_p (t s : Int) (L : List Int) (d : Int) (v : Value) (w : World) (hG : Glob w) (h : IL w v L) :
    Calls Tryd.prog 14 #[.int .i64 t, .int .i64 s, v, .int .i64 d] w fun e w' => e = .returned (.int .i64 (chk t s L d)) ∧ w' = w := by
  have c2 := hide (arenodes_is L v w hG h)
  have c3 := hide (nearer_all t s L v w hG h)
  obtain ⟨q, c, rfl⟩ := il_form h
  clear h
  unfold chk
  by_cases h1 : IsT t ∧ IsN s
  · have c1 := hide (gap_is t s h1.1 h1.2 w hG)
    rw [if_neg (fun q => q h1)]
    clear h1 hG
    generalize gp t s = g at *
    by_cases h2 : d < 1
    · rw [if_pos (.inl h2)]
      have b1 : decide (d < 1) = true := decide_eq_true h2
      clear h2
      go_enter Tryd.func14, Tryd.ntmps14
      go_wp2_with (go_at_call 24; refine (unhide c1).mono ?_; rintro e w1 ⟨rfl, rfl⟩)
      go_ret
      exact ⟨rfl, rfl⟩
    · have b1 : decide (d < 1) = false := decide_eq_false h2
      by_cases h3 : 8 < d
      · rw [if_pos (.inr (.inl h3))]
        have b2 : decide (8 < d) = true := decide_eq_true h3
        clear h2 h3
        go_enter Tryd.func14, Tryd.ntmps14
        go_wp2_with (go_at_call 24; refine (unhide c1).mono ?_; rintro e w1 ⟨rfl, rfl⟩)
        go_ret
        exact ⟨rfl, rfl⟩
      · have b2 : decide (8 < d) = false := decide_eq_false h3
        cases hx : nd L with
        | false =>
          rw [hx] at c2
          rw [if_pos (.inr (.inr rfl))]
          clear h2 h3 hx
          go_enter Tryd.func14, Tryd.ntmps14
          go_wp2_with (first
            | (go_at_call 24; refine (unhide c1).mono ?_; rintro e w1 ⟨rfl, rfl⟩)
            | (go_at_call 20; refine (unhide c2).mono ?_; rintro e w1 ⟨rfl, rfl⟩))
          go_ret
          exact ⟨rfl, rfl⟩
        | true =>
          rw [hx] at c2
          rw [if_neg (by rintro (q | q | q); · exact h2 q
                         · exact h3 q
                         · cases q)]
          clear h2 h3 hx
          by_cases h4 : d < (L.length : Int)
          · rw [if_pos h4]
            have b3 : decide (d < (L.length : Int)) = true := decide_eq_true h4
            clear h4
            go_enter Tryd.func14, Tryd.ntmps14
            go_wp2_with (first
              | (go_at_call 24; refine (unhide c1).mono ?_; rintro e w1 ⟨rfl, rfl⟩)
              | (go_at_call 20; refine (unhide c2).mono ?_; rintro e w1 ⟨rfl, rfl⟩))
            go_ret
            exact ⟨rfl, rfl⟩
          · rw [if_neg h4]
            have b3 : decide (d < (L.length : Int)) = false := decide_eq_false h4
            clear h4
            cases hy : ne t s L with
            | true =>
              rw [hy] at c3
              rw [if_pos rfl]
              clear hy
              go_enter Tryd.func14, Tryd.ntmps14
              go_wp2_with (first
                | (go_at_call 24; refine (unhide c1).mono ?_; rintro e w1 ⟨rfl, rfl⟩)
                | (go_at_call 20; refine (unhide c2).mono ?_; rintro e w1 ⟨rfl, rfl⟩)
                | (go_at_call 25; refine (unhide c3).mono ?_; rintro e w1 ⟨rfl, rfl⟩))
              go_ret
              exact ⟨rfl, rfl⟩
            | false =>
              rw [hy] at c3
              rw [if_neg Bool.false_ne_true]
              clear hy
              go_enter Tryd.func14, Tryd.ntmps14
              go_wp2_with (first
                | (go_at_call 24; refine (unhide c1).mono ?_; rintro e w1 ⟨rfl, rfl⟩)
                | (go_at_call 20; refine (unhide c2).mono ?_; rintro e w1 ⟨rfl, rfl⟩)
                | (go_at_call 25; refine (unhide c3).mono ?_; rintro e w1 ⟨rfl, rfl⟩))
              go_ret
              exact ⟨rfl, rfl⟩
  · have hno : ¬ IsT t ∨ ¬ IsN s := by
      by_cases a : IsT t
      · exact .inr fun b => h1 ⟨a, b⟩
      · exact .inl a
    have c1 := hide (gap_no t s hno w hG)
    rw [if_pos h1]
    clear h1 hno hG
    go_enter Tryd.func14, Tryd.ntmps14
    go_wp2_with (go_at_call 24; refine (unhide c1).mono ?_; rintro e w1 ⟨rfl, rfl⟩)
    go_ret
    exact ⟨rfl, rfl⟩
end Go.Proofs.YtmdkaomjjglfjaaDoor
