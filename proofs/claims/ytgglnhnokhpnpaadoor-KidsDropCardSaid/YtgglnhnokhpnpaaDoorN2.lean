/- Walks of the page's in, May, Kids. -/
import Derived.Test.YtgglnhnokhpnpaaDoorN1
namespace Go.Proofs.YtgglnhnokhpnpaaDoor
open Go.RowKit

theorem rin_t (n lo hi : Int) (h1 : lo ≤ n) (h2 : n ≤ hi) (w : World) :
    Calls Tryd.prog 32 #[.int .i64 n, .int .i64 lo, .int .i64 hi] w fun e w' => e = .returned (.bool true) ∧ w' = w := by
  have h3 : decide (n ≤ hi) = true := decide_eq_true h2
  go_enter Tryd.func32, Tryd.ntmps32
  go_wp2
  go_ret
  exact ⟨by rw [← h3]; rfl, rfl⟩
theorem rin_f (n lo hi : Int) (h : ¬ (lo ≤ n ∧ n ≤ hi)) (w : World) :
    Calls Tryd.prog 32 #[.int .i64 n, .int .i64 lo, .int .i64 hi] w fun e w' => e = .returned (.bool false) ∧ w' = w := by
  by_cases h1 : n < lo
  · clear h
    go_enter Tryd.func32, Tryd.ntmps32
    go_wp2
    go_ret
    exact ⟨rfl, rfl⟩
  · have h3 : decide (n ≤ hi) = false := decide_eq_false (by omega)
    have h4 : lo ≤ n := by omega
    clear h h1
    go_enter Tryd.func32, Tryd.ntmps32
    go_wp2
    go_ret
    exact ⟨by rw [← h3]; rfl, rfl⟩
set_option maxHeartbeats 1000000 in
theorem may_k (t s n inc : Int) (w : World) :
    Calls Tryd.prog 21 #[.int .i64 t, .int .i64 s, .int .i64 n, .int .i64 inc] w fun e w' => e = .returned (.bool (may t s n inc)) ∧ Below w.heap.size w w' := by
  by_cases h1 : IsN n
  · have c1 := hide (isnode_t n h1)
    have c2 := hide (rnearer_nb t s n w)
    cases hn : nb t s n with
    | false =>
      rw [hn] at c2
      have HA := hide (show may t s n inc = false by unfold may; rw [hn]; rfl)
      clear hn h1
      go_enter Tryd.func21, Tryd.ntmps21
      go_wp2_with (first
        | (go_at_call 31; refine (unhide c1 _).mono ?_; rintro e w1 ⟨rfl, rfl⟩)
        | (go_at_call 33; refine (unhide c2).mono ?_; rintro e w2 ⟨rfl, b2⟩; have B2 := hide b2; clear b2))
      go_ret
      exact ⟨by rw [unhide HA]; rfl, unhide B2⟩
    | true =>
      rw [hn] at c2
      by_cases hi : 1 ≤ inc ∧ inc ≤ 1073741824
      · have c3 := hide (rin_t inc 1 1073741824 hi.1 hi.2)
        have HA := hide (show may t s n inc = true by unfold may okI; rw [hn]; simp [hi.1, hi.2])
        clear hn h1 hi
        go_enter Tryd.func21, Tryd.ntmps21
        go_wp2_with (first
          | (go_at_call 31; refine (unhide c1 _).mono ?_; rintro e w1 ⟨rfl, rfl⟩)
          | (go_at_call 33; refine (unhide c2).mono ?_; rintro e w2 ⟨rfl, b2⟩; have B2 := hide b2; clear b2)
          | (go_at_call 32; refine (unhide c3 _).mono ?_; rintro e w3 ⟨rfl, rfl⟩))
        go_ret
        exact ⟨by rw [unhide HA]; rfl, unhide B2⟩
      · have c3 := hide (rin_f inc 1 1073741824 hi)
        have HA := hide (show may t s n inc = false by
          have : okI inc = false := by
            cases q : okI inc with
            | false => rfl
            | true => simp [okI] at q; exact absurd q hi
          unfold may; rw [hn, this]; rfl)
        clear hn h1 hi
        go_enter Tryd.func21, Tryd.ntmps21
        go_wp2_with (first
          | (go_at_call 31; refine (unhide c1 _).mono ?_; rintro e w1 ⟨rfl, rfl⟩)
          | (go_at_call 33; refine (unhide c2).mono ?_; rintro e w2 ⟨rfl, b2⟩; have B2 := hide b2; clear b2)
          | (go_at_call 32; refine (unhide c3 _).mono ?_; rintro e w3 ⟨rfl, rfl⟩))
        go_ret
        exact ⟨by rw [unhide HA]; rfl, unhide B2⟩
  · have c1 := hide (isnode_f n h1)
    have HA := hide (show may t s n inc = false by unfold may nb; rw [decide_eq_false (fun q => h1 q.2.2.1)]; rfl)
    clear h1
    go_enter Tryd.func21, Tryd.ntmps21
    go_wp2_with (go_at_call 31; refine (unhide c1 _).mono ?_; rintro e w1 ⟨rfl, rfl⟩)
    go_ret
    exact ⟨by rw [unhide HA]; rfl, Below.refl _ _⟩
theorem okA_pg {t a : Int} {x : Kd} : okA t a x = true ↔ IsN x.1 ∧ nb t a x.1 = true ∧ (1 ≤ x.2.1 ∧ x.2.1 ≤ 1073741824) ∧ (0 ≤ x.2.2 ∧ x.2.2 ≤ 6) := by
  unfold okA
  simp only [Bool.and_eq_true, decide_eq_true_eq]
  constructor
  · rintro ⟨⟨⟨⟨a, b⟩, c⟩, d⟩, e⟩
    exact ⟨(of_decide_eq_true e).2.2.1, e, ⟨a, b⟩, c, d⟩
  · rintro ⟨_, e, ⟨a, b⟩, c, d⟩
    exact ⟨⟨⟨⟨a, b⟩, c⟩, d⟩, e⟩
theorem okA_pf {t a : Int} {x : Kd} (h : ¬ (IsN x.1 ∧ nb t a x.1 = true ∧ (1 ≤ x.2.1 ∧ x.2.1 ≤ 1073741824) ∧ (0 ≤ x.2.2 ∧ x.2.2 ≤ 6))) : okA t a x = false := by
  cases q : okA t a x with
  | false => rfl
  | true => exact absurd (okA_pg.1 q) h
set_option maxHeartbeats 4000000 in
set_option maxRecDepth 100000 in
theorem rkids_k (t s lim : Int) (L : List Kd) (v : Value) (w : World) (h : KL w v L) :
    Calls Tryd.prog 17 #[.int .i64 t, .int .i64 s, .int .i64 lim, v] w fun e w' => e = .returned (.bool (rk t s lim L)) ∧ Below w.heap.size w w' := by
  obtain ⟨q, c, rfl⟩ := kl_form h
  obtain ⟨n, hn⟩ : ∃ n, L.length = n := ⟨_, rfl⟩
  have HN := hide hn
  have HI := hide h
  rw [hn] at HI ⊢
  by_cases ht : IsT t
  · have c25 := hide (istopic_t t ht)
    by_cases hs : IsN s
    · have c31 := hide (isnode_t s hs)
      by_cases hl : 1 ≤ lim ∧ lim ≤ 4
      · have c32 := hide (rin_t lim 1 4 hl.1 hl.2)
        by_cases hle : (n : Int) ≤ lim
        · have HA := hide (show rk t s lim L = rkK t s L n by
            unfold rk
            rw [decide_eq_true ht, decide_eq_true hs, decide_eq_true hl.1, decide_eq_true hl.2, hn, decide_eq_true hle]
            rfl)
          have b1 : decide (lim < (n : Int)) = false := decide_eq_false (by omega)
          have b2 : ¬ lim < (n : Int) := by omega
          clear h hn ht hs
          have m1 := trivial
          go_enter Tryd.func17, Tryd.ntmps17
          go_wp2_with (first
            | (go_at_call 25; refine (unhide c25 _).mono ?_; rintro e w1 ⟨rfl, rfl⟩)
            | (go_at_call 31; refine (unhide c31 _).mono ?_; rintro e w1 ⟨rfl, rfl⟩)
            | (go_at_call 32; refine (unhide c32 _).mono ?_; rintro e w1 ⟨rfl, rfl⟩))
          go_loopw [9, 10] (fun l i w3 => ∃ k : Nat, k ≤ n ∧ i = .int .i64 k ∧ l = .int .i64 (ls s L k) ∧ Hid (rkK t s L k = true) ∧ Hid (Below w1.heap.size w1 w3)) (fun _ i _ => n - (intOf i).toNat)
          case atStart => exact ⟨0, by omega, rfl, rfl, hide rfl, hide (Below.refl _ _)⟩
          case round =>
            obtain ⟨k, hk, rfl, rfl, HK, HB⟩ := hrel
            by_cases hlt : k < n
            · have CL := hide (fun W (hb : Below wr.heap.size wr W) => kl_cell (k := k) (((unhide HI).below (unhide HB) (Nat.le_refl _)).below hb (Nat.le_refl _)) hlt (by rw [unhide HN]; exact Nat.le_refl _))
              obtain ⟨b, off, rfl, hle2, hc, hbb, d1, d2, d3⟩ := unhide CL wr (Below.refl _ _)
              have E1 := hide (rkK_succ t s L k)
              have E2 := hide (show ls s L (k + 1) = (kz L k).1 from rfl)
              have HBr := hide (Below.refl wr.heap.size wr)
              clear c25 c31 c32
              by_cases hx : IsN (kz L k).1 ∧ nb t (ls s L k) (kz L k).1 = true ∧ (1 ≤ (kz L k).2.1 ∧ (kz L k).2.1 ≤ 1073741824) ∧ (0 ≤ (kz L k).2.2 ∧ (kz L k).2.2 ≤ 6)
              · have HK2 : Hid (rkK t s L (k + 1) = true) := hide (by rw [unhide E1, unhide HK, okA_pg.2 hx]; rfl)
                have d31 := hide (isnode_t _ hx.1)
                have d33 := rnearer_nb t (ls s L k) (kz L k).1 wr
                rw [hx.2.1] at d33
                have d33 := hide d33
                have dI := hide (rin_t _ 1 1073741824 hx.2.2.1.1 hx.2.2.1.2)
                have dA := hide (rin_t _ 0 6 hx.2.2.2.1 hx.2.2.2.2)
                clear E1 hx
                generalize ls s L k = a at *
                generalize kz L k = y at *
                obtain ⟨y1, y2, y3⟩ := y
                go_wp2_with (first
                  | (go_at_call 31; refine (unhide d31 _).mono ?_; rintro e w4 ⟨rfl, rfl⟩)
                  | (go_at_call 33; refine (unhide d33).mono ?_; rintro e w4 ⟨rfl, b4⟩; obtain ⟨_, _, hq, -, -, -, f1, f2, f3⟩ := unhide CL w4 b4; cases hq; have B4 := hide b4; clear b4)
                  | (clear m1; go_at_call 32; refine (unhide dI _).mono ?_; rintro e w4 ⟨rfl, rfl⟩)
                  | (go_at_call 32; refine (unhide dA _).mono ?_; rintro e w4 ⟨rfl, rfl⟩))
                go_roundw
                case rel => exact ⟨k + 1, by omega, by go_num, by rw [unhide E2], HK2, hide ((unhide HB).trans ((unhide B4).mono (unhide HB).size))⟩
                case measure => simp [intOf]; omega
              · have hf : rkK t s L n = false := stop_false (rkK_succ t s L) hlt (okA_pf hx)
                have HF := hide (show rk t s lim L = false by rw [unhide HA, hf])
                clear E1 E2 HA hf HK
                by_cases h1 : IsN (kz L k).1
                · have d31 := hide (isnode_t _ h1)
                  cases h2 : nb t (ls s L k) (kz L k).1 with
                  | false =>
                    have d33 := rnearer_nb t (ls s L k) (kz L k).1 wr
                    rw [h2] at d33
                    have d33 := hide d33
                    clear hx h1 h2
                    generalize ls s L k = a at *
                    generalize kz L k = y at *
                    obtain ⟨y1, y2, y3⟩ := y
                    go_wp2_with (first
                      | (go_at_call 31; refine (unhide d31 _).mono ?_; rintro e w4 ⟨rfl, rfl⟩)
                      | (go_at_call 33; refine (unhide d33).mono ?_; rintro e w4 ⟨rfl, b4⟩; obtain ⟨_, _, hq, -, -, -, f1, f2, f3⟩ := unhide CL w4 b4; cases hq; have B4 := hide b4; clear b4))
                    go_ret
                    exact ⟨by rw [unhide HF]; rfl, (unhide HB).trans ((unhide B4).mono (unhide HB).size)⟩
                  | true =>
                    have d33 := rnearer_nb t (ls s L k) (kz L k).1 wr
                    rw [h2] at d33
                    have d33 := hide d33
                    by_cases h3 : 1 ≤ (kz L k).2.1 ∧ (kz L k).2.1 ≤ 1073741824
                    · have dI := hide (rin_t _ 1 1073741824 h3.1 h3.2)
                      have dA := hide (rin_f _ 0 6 (fun q => hx ⟨h1, h2, h3, q⟩))
                      clear hx h1 h2 h3
                      generalize ls s L k = a at *
                      generalize kz L k = y at *
                      obtain ⟨y1, y2, y3⟩ := y
                      go_wp2_with (first
                        | (go_at_call 31; refine (unhide d31 _).mono ?_; rintro e w4 ⟨rfl, rfl⟩)
                        | (go_at_call 33; refine (unhide d33).mono ?_; rintro e w4 ⟨rfl, b4⟩; obtain ⟨_, _, hq, -, -, -, f1, f2, f3⟩ := unhide CL w4 b4; cases hq; have B4 := hide b4; clear b4)
                        | (clear m1; go_at_call 32; refine (unhide dI _).mono ?_; rintro e w4 ⟨rfl, rfl⟩)
                        | (go_at_call 32; refine (unhide dA _).mono ?_; rintro e w4 ⟨rfl, rfl⟩))
                      go_ret
                      exact ⟨by rw [unhide HF]; rfl, (unhide HB).trans ((unhide B4).mono (unhide HB).size)⟩
                    · have dI := hide (rin_f _ 1 1073741824 h3)
                      clear hx h1 h2 h3
                      generalize ls s L k = a at *
                      generalize kz L k = y at *
                      obtain ⟨y1, y2, y3⟩ := y
                      go_wp2_with (first
                        | (go_at_call 31; refine (unhide d31 _).mono ?_; rintro e w4 ⟨rfl, rfl⟩)
                        | (go_at_call 33; refine (unhide d33).mono ?_; rintro e w4 ⟨rfl, b4⟩; obtain ⟨_, _, hq, -, -, -, f1, f2, f3⟩ := unhide CL w4 b4; cases hq; have B4 := hide b4; clear b4)
                        | (clear m1; go_at_call 32; refine (unhide dI _).mono ?_; rintro e w4 ⟨rfl, rfl⟩))
                      go_ret
                      exact ⟨by rw [unhide HF]; rfl, (unhide HB).trans ((unhide B4).mono (unhide HB).size)⟩
                · have d31 := hide (isnode_f _ h1)
                  clear hx h1
                  generalize ls s L k = a at *
                  generalize kz L k = y at *
                  obtain ⟨y1, y2, y3⟩ := y
                  go_wp2_with (first
                    | (go_at_call 31; refine (unhide d31 _).mono ?_; rintro e w4 ⟨rfl, rfl⟩))
                  go_ret
                  exact ⟨by rw [unhide HF]; rfl, unhide HB⟩
            · obtain rfl : n = k := by omega
              have HF := hide (show rk t s lim L = true by rw [unhide HA]; exact unhide HK)
              go_wp2
              go_ret
              exact ⟨by rw [unhide HF]; rfl, unhide HB⟩
        · have HA := hide (show rk t s lim L = false from rk_false fun q => hle (by rw [← hn]; exact q.2.2.2.2.1))
          have b1 : decide (lim < (n : Int)) = true := decide_eq_true (by omega)
          have b2 : lim < (n : Int) := by omega
          clear h hn ht hs hle
          go_enter Tryd.func17, Tryd.ntmps17
          go_wp2_with (first
            | (go_at_call 25; refine (unhide c25 _).mono ?_; rintro e w1 ⟨rfl, rfl⟩)
            | (go_at_call 31; refine (unhide c31 _).mono ?_; rintro e w1 ⟨rfl, rfl⟩)
            | (go_at_call 32; refine (unhide c32 _).mono ?_; rintro e w1 ⟨rfl, rfl⟩))
          go_ret
          exact ⟨by rw [unhide HA]; rfl, Below.refl _ _⟩
      · have HA := hide (show rk t s lim L = false from rk_false fun q => hl ⟨q.2.2.1, q.2.2.2.1⟩)
        have c32 := hide (rin_f lim 1 4 hl)
        clear h hn ht hs hl
        go_enter Tryd.func17, Tryd.ntmps17
        go_wp2_with (first
          | (go_at_call 25; refine (unhide c25 _).mono ?_; rintro e w1 ⟨rfl, rfl⟩)
          | (go_at_call 31; refine (unhide c31 _).mono ?_; rintro e w1 ⟨rfl, rfl⟩)
          | (go_at_call 32; refine (unhide c32 _).mono ?_; rintro e w1 ⟨rfl, rfl⟩))
        go_ret
        exact ⟨by rw [unhide HA]; rfl, Below.refl _ _⟩
    · have HA := hide (show rk t s lim L = false from rk_false fun q => hs q.2.1)
      have c31 := hide (isnode_f s hs)
      clear h hn ht hs
      go_enter Tryd.func17, Tryd.ntmps17
      go_wp2_with (first
        | (go_at_call 25; refine (unhide c25 _).mono ?_; rintro e w1 ⟨rfl, rfl⟩)
        | (go_at_call 31; refine (unhide c31 _).mono ?_; rintro e w1 ⟨rfl, rfl⟩))
      go_ret
      exact ⟨by rw [unhide HA]; rfl, Below.refl _ _⟩
  · have HA := hide (show rk t s lim L = false from rk_false fun q => ht q.1)
    have c25 := hide (istopic_f t ht)
    clear h hn ht
    go_enter Tryd.func17, Tryd.ntmps17
    go_wp2_with (go_at_call 25; refine (unhide c25 _).mono ?_; rintro e w1 ⟨rfl, rfl⟩)
    go_ret
    exact ⟨by rw [unhide HA]; rfl, Below.refl _ _⟩
end Go.Proofs.YtgglnhnokhpnpaaDoor
