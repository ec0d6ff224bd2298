/- Walks of kids.Check, kids.Older. -/
import Derived.Test.YtgglnhnokhpnpaaDoorJ2
namespace Go.Proofs.YtgglnhnokhpnpaaDoor
open Go.RowKit

theorem isInc_t (i : Int) (h1 : 1 ≤ i) (h2 : i ≤ 1073741824) (w : World) : Calls Tryd.prog 26 #[.int .i64 i] w fun e w' => e = .returned (.bool true) ∧ w' = w := by
  have := isInc_any i w
  rwa [show okI i = true by simp [okI, h1, h2]] at this
theorem isInc_f (i : Int) (h : ¬ (1 ≤ i ∧ i ≤ 1073741824)) (w : World) : Calls Tryd.prog 26 #[.int .i64 i] w fun e w' => e = .returned (.bool false) ∧ w' = w := by
  have := isInc_any i w
  rwa [show okI i = false by
    cases q : okI i with
    | false => rfl
    | true => simp [okI] at q; exact absurd q h] at this
theorem okA_false {t a : Int} {x : Kd} (h : ¬ ((1 ≤ x.2.1 ∧ x.2.1 ≤ 1073741824) ∧ 0 ≤ x.2.2 ∧ x.2.2 ≤ 6 ∧ nb t a x.1 = true)) : okA t a x = false := by
  cases q : okA t a x with
  | false => rfl
  | true =>
    simp only [okA, Bool.and_eq_true, decide_eq_true_eq] at q
    exact absurd ⟨⟨q.1.1.1.1, q.1.1.1.2⟩, q.1.1.2, q.1.2, q.2⟩ h
theorem okA_true {t a : Int} {x : Kd} (h : (1 ≤ x.2.1 ∧ x.2.1 ≤ 1073741824) ∧ 0 ≤ x.2.2 ∧ x.2.2 ≤ 6 ∧ nb t a x.1 = true) : okA t a x = true := by
  simp only [okA, Bool.and_eq_true, decide_eq_true_eq]
  exact ⟨⟨⟨h.1, h.2.1⟩, h.2.2.1⟩, h.2.2.2⟩
set_option maxHeartbeats 2000000 in
set_option maxRecDepth 100000 in
theorem check_k (t s lim : Int) (L : List Kd) (v : Value) (w : World) (hG : Glob w) (h : KL w v L) :
    Calls Tryd.prog 18 #[.int .i64 t, .int .i64 s, .int .i64 lim, v] w fun e w' => e = .returned (.int .i64 (chR t s lim L)) ∧ Below w.heap.size w w' := by
  by_cases hts : IsT t ∧ IsN s
  · have c0 := hide (gap_is t s hts.1 hts.2 w hG)
    by_cases hl : (1 ≤ lim ∧ lim ≤ 4) ∧ (L.length : Int) ≤ lim
    · obtain ⟨q, c, rfl⟩ := kl_form h
      obtain ⟨n, hn⟩ : ∃ n, L.length = n := ⟨_, rfl⟩
      have HA := hide (show chR t s lim L = if rkK t s L n = true then 0 else 1 by
        by_cases e : rkK t s L n = true
        · rw [if_pos e, chR_ok (rk_iff.2 ⟨hts.1, hts.2, hl.1.1, hl.1.2, hl.2, by rw [hn]; exact e⟩)]
        · rw [if_neg e, chR_no (rk_false fun q => e (by have := q.2.2.2.2.2; rwa [hn] at this))])
      have HN := hide hn
      have HI := hide h
      have HG := hide hG
      have S1 := hG.size
      rw [hn] at HI hl ⊢
      obtain ⟨⟨hl1, hl2⟩, hl3⟩ := hl
      clear h hn hG hts
      generalize gp t s = z at *
      go_enter Tryd.func18, Tryd.ntmps18
      go_wp2_with (go_at_call 34; refine (unhide c0).mono ?_; rintro e w1 ⟨rfl, rfl⟩)
      go_loopw [11, 38] (fun l i w3 => ∃ k : Nat, k ≤ n ∧ i = .int .i64 k ∧ l = .int .i64 (ls s L k) ∧ Hid (rkK t s L k = true) ∧ Below w1.heap.size w1 w3) (fun _ i _ => n - (intOf i).toNat)
      case atStart => exact ⟨0, by omega, rfl, rfl, hide rfl, Below.refl _ _⟩
      case round =>
        obtain ⟨k, hk, rfl, rfl, HK, hb⟩ := hrel
        have HB := hide hb
        by_cases hlt : k < n
        · obtain ⟨b, off, rfl, hle, hc, hbb, d1, d2, d3⟩ := kl_cell ((unhide HI).below hb (Nat.le_refl _)) hlt (by rw [unhide HN]; exact Nat.le_refl _)
          have G2 := hide (show ∀ o, Glob (wr.alloc o) from fun o => (unhide HG).below (hb.alloc hb.size o) S1)
          have B2 := hide (show ∀ o, Below w1.heap.size w1 (wr.alloc o) from fun o => hb.alloc hb.size o)
          have E1 := hide (rkK_succ t s L k)
          have E2 := hide (show ls s L (k + 1) = (kz L k).1 from rfl)
          clear hb
          by_cases hx : (1 ≤ (kz L k).2.1 ∧ (kz L k).2.1 ≤ 1073741824) ∧ 0 ≤ (kz L k).2.2 ∧ (kz L k).2.2 ≤ 6 ∧ nb t (ls s L k) (kz L k).1 = true
          · have HK2 : Hid (rkK t s L (k + 1) = true) := hide (by rw [unhide E1, unhide HK, okA_true hx]; rfl)
            have C1 := hide (isInc_t _ hx.1.1 hx.1.2)
            have C2 : Hid (∀ w' : World, Glob w' → Calls Tryd.prog 24 #[.int .i64 t, .int .i64 (ls s L k), .int .i64 (kz L k).1] w' fun e w1 => e = .returned (.bool true) ∧ w1 = w') := hide fun w' hg => by
              have := nearer_nb t (ls s L k) (kz L k).1 w' hg
              rwa [hx.2.2.2] at this
            obtain ⟨-, h3, h4, -⟩ := hx
            clear E1
            generalize ls s L k = a at *
            generalize kz L k = y at *
            obtain ⟨y1, y2, y3⟩ := y
            go_wp2_with (first
              | (go_at_call 26; refine (unhide C1 _).mono ?_; rintro e w3 ⟨rfl, rfl⟩)
              | (go_at_call 24; refine (unhide C2 _ (unhide G2 _)).mono ?_; rintro e w3 ⟨rfl, rfl⟩))
            go_roundw
            case rel => exact ⟨k + 1, by omega, by go_num, by rw [unhide E2], HK2, unhide B2 _⟩
            case measure => simp [intOf]; omega
          · have hf : rkK t s L n = false := stop_false (rkK_succ t s L) hlt (okA_false hx)
            have HF := hide (show chR t s lim L = 1 by rw [unhide HA, hf]; rfl)
            clear E1 E2 HA hf HK
            by_cases h1 : 1 ≤ (kz L k).2.1 ∧ (kz L k).2.1 ≤ 1073741824
            · have C1 := hide (isInc_t _ h1.1 h1.2)
              by_cases h2 : 0 ≤ (kz L k).2.2
              · by_cases h3 : (kz L k).2.2 ≤ 6
                · have hx4 : nb t (ls s L k) (kz L k).1 = false := by
                    cases q : nb t (ls s L k) (kz L k).1 with
                    | false => rfl
                    | true => exact absurd ⟨h1, h2, h3, q⟩ hx
                  have C2 : Hid (∀ w' : World, Glob w' → Calls Tryd.prog 24 #[.int .i64 t, .int .i64 (ls s L k), .int .i64 (kz L k).1] w' fun e w1 => e = .returned (.bool false) ∧ w1 = w') := hide fun w' hg => by
                    have := nearer_nb t (ls s L k) (kz L k).1 w' hg
                    rwa [hx4] at this
                  clear hx hx4 h1
                  generalize ls s L k = a at *
                  generalize kz L k = y at *
                  obtain ⟨y1, y2, y3⟩ := y
                  go_wp2_with (first
                    | (go_at_call 26; refine (unhide C1 _).mono ?_; rintro e w3 ⟨rfl, rfl⟩)
                    | (go_at_call 24; refine (unhide C2 _ (unhide G2 _)).mono ?_; rintro e w3 ⟨rfl, rfl⟩))
                  go_ret
                  exact ⟨by rw [unhide HF]; rfl, unhide B2 _⟩
                · clear hx h1
                  generalize ls s L k = a at *
                  generalize kz L k = y at *
                  obtain ⟨y1, y2, y3⟩ := y
                  go_wp2_with (go_at_call 26; refine (unhide C1 _).mono ?_; rintro e w3 ⟨rfl, rfl⟩)
                  go_ret
                  exact ⟨by rw [unhide HF]; rfl, unhide B2 _⟩
              · clear hx h1
                generalize ls s L k = a at *
                generalize kz L k = y at *
                obtain ⟨y1, y2, y3⟩ := y
                go_wp2_with (go_at_call 26; refine (unhide C1 _).mono ?_; rintro e w3 ⟨rfl, rfl⟩)
                go_ret
                exact ⟨by rw [unhide HF]; rfl, unhide B2 _⟩
            · have C1 := hide (isInc_f _ h1)
              clear hx h1
              generalize ls s L k = a at *
              generalize kz L k = y at *
              obtain ⟨y1, y2, y3⟩ := y
              go_wp2_with (go_at_call 26; refine (unhide C1 _).mono ?_; rintro e w3 ⟨rfl, rfl⟩)
              go_ret
              exact ⟨by rw [unhide HF]; rfl, unhide B2 _⟩
        · obtain rfl : n = k := by omega
          have HF := hide (show chR t s lim L = 0 by rw [unhide HA, if_pos (unhide HK)])
          go_wp2
          go_ret
          exact ⟨by rw [unhide HF]; rfl, unhide HB⟩
    · have HF := hide (show chR t s lim L = 1 from chR_no (rk_false fun q => hl ⟨⟨q.2.2.1, q.2.2.2.1⟩, q.2.2.2.2.1⟩))
      obtain ⟨q, c, rfl⟩ := kl_form h
      obtain ⟨n, hn⟩ : ∃ n, L.length = n := ⟨_, rfl⟩
      rw [hn] at hl ⊢
      clear h hn hts hG
      generalize gp t s = z at *
      by_cases h1 : 1 ≤ lim
      · by_cases h2 : lim ≤ 4
        · have h3 : lim < (n : Int) := by omega
          clear hl
          go_enter Tryd.func18, Tryd.ntmps18
          go_wp2_with (go_at_call 34; refine (unhide c0).mono ?_; rintro e w1 ⟨rfl, rfl⟩)
          go_ret
          exact ⟨by rw [unhide HF]; rfl, Below.refl _ _⟩
        · clear hl
          go_enter Tryd.func18, Tryd.ntmps18
          go_wp2_with (go_at_call 34; refine (unhide c0).mono ?_; rintro e w1 ⟨rfl, rfl⟩)
          go_ret
          exact ⟨by rw [unhide HF]; rfl, Below.refl _ _⟩
      · clear hl
        go_enter Tryd.func18, Tryd.ntmps18
        go_wp2_with (go_at_call 34; refine (unhide c0).mono ?_; rintro e w1 ⟨rfl, rfl⟩)
        go_ret
        exact ⟨by rw [unhide HF]; rfl, Below.refl _ _⟩
  · have c0 := hide (gap_no t s (Decidable.not_and_iff_or_not.1 hts) w hG)
    have HF := hide (show chR t s lim L = 1 from chR_no (rk_false fun q => hts ⟨q.1, q.2.1⟩))
    clear hts h hG
    go_enter Tryd.func18, Tryd.ntmps18
    go_wp2_with (go_at_call 34; refine (unhide c0).mono ?_; rintro e w1 ⟨rfl, rfl⟩)
    go_ret
    exact ⟨by rw [unhide HF]; rfl, Below.refl _ _⟩
/-- What Older brings of right ones. -/
def ages (L : List Kd) : Prop := ∀ x ∈ L, 0 ≤ x.2.2 ∧ x.2.2 ≤ 6
theorem rk_ages {t s lim : Int} {L : List Kd} (h : rk t s lim L = true) : ages L := fun x hx => by
  obtain ⟨_, _, _, a, b, _⟩ := (rk_gd.1 h).2.2.2.2.2.1 x hx
  exact ⟨a, b⟩
set_option maxHeartbeats 1000000 in
set_option maxRecDepth 100000 in
theorem older_no (t s lim : Int) (L : List Kd) (v : Value) (w : World) (hG : Glob w) (h : KL w v L) (hr : rk t s lim L = false) :
    Calls Tryd.prog 11 #[.int .i64 t, .int .i64 s, .int .i64 lim, v] w fun e w' => e = .returned (.tuple #[.slice none 0 0, .int .i64 1]) ∧ Below w.heap.size w w' := by
  have C := check_k t s lim L v w hG h
  rw [chR_no hr] at C
  have C := hide C
  obtain ⟨q, c, rfl⟩ := kl_form h
  clear h hr
  go_enter Tryd.func11, Tryd.ntmps11
  go_wp2_with (go_at_call 18; (with_reducible refine (unhide C).mono ?_); rintro e w1 ⟨rfl, b1⟩; have B1 := hide b1; clear b1)
  go_ret2
  exact ⟨rfl, unhide B1⟩
set_option maxHeartbeats 1000000 in
set_option maxRecDepth 100000 in
theorem older_k (t s lim : Int) (L : List Kd) (v : Value) (w : World) (hG : Glob w) (h : KL w v L) (hr : rk t s lim L = true) :
    Calls Tryd.prog 11 #[.int .i64 t, .int .i64 s, .int .i64 lim, v] w fun e w' => ∃ v', e = .returned (.tuple #[v', .int .i64 0]) ∧ KO w' w.heap.size v' (old L) ∧ Below w.heap.size w w' := by
  have C := check_k t s lim L v w hG h
  rw [chR_ok hr] at C
  have C := hide C
  have HR := hide (rk_ages hr)
  have hl4 : L.length ≤ 4 := by have := rk_gd.1 hr; omega
  obtain ⟨q, c, rfl⟩ := kl_form h
  obtain ⟨n, hn⟩ : ∃ n, L.length = n := ⟨_, rfl⟩
  have HN := hide hn
  have HI := hide h
  have HE := hide (show old (L.take n) = old L by rw [← hn, List.take_length])
  rw [hn] at HI hl4 C ⊢
  clear h hn hr
  go_enter Tryd.func11, Tryd.ntmps11
  go_wp2_with (go_at_call 18; (with_reducible refine (unhide C).mono ?_); rintro e w1 ⟨rfl, b1⟩; have B1 := hide b1; clear b1)
  go_loopw [11, 24] (fun u i w3 => ∃ (V : Value) (k : Nat), k ≤ n ∧ u = V ∧ i = .int .i64 k ∧ KO w3 w.heap.size V (old (L.take k)) ∧ Below w.heap.size w w3) (fun _ i _ => n - (intOf i).toNat)
  case atStart => exact ⟨_, 0, by omega, rfl, rfl, KO.nil _ _, unhide B1⟩
  case round =>
    obtain ⟨V, k, hk, hu, rfl, ho, hb⟩ := hrel
    obtain rfl := hu.symm
    have HO := hide ho
    have HB := hide hb
    by_cases hlt : k < n
    · obtain ⟨b, off, rfl, hle, hc, hbb, c1, c2, c3⟩ := kl_cell ((unhide HI).below hb (Nat.le_refl _)) hlt (by rw [unhide HN]; exact Nat.le_refl _)
      have hkl : k < L.length := by rw [unhide HN]; exact hlt
      have ha := unhide HR _ (kz_mem hkl)
      clear ho hb
      by_cases hx : (kz L k).2.2 + 1 ≤ 6
      · have E := hide (old_yes hkl hx)
        have LN := hide (show (old (L.take k)).length ≤ 1000000 by have := old_len (L.take k); simp at this; omega)
        clear hkl
        generalize kz L k = y at *
        obtain ⟨y1, y2, y3⟩ := y
        obtain ⟨ha1, ha2⟩ := ha
        simp only at ha1 ha2 hx
        have B2 := hide (show ∀ o1 o2, Below w.heap.size w ((wr.alloc o1).alloc o2) from fun o1 o2 => ((unhide HB).alloc (unhide HB).size _).alloc ((unhide HB).alloc (unhide HB).size _).size _)
        go_wp2_with (at_builtin; refine wpList_addK (by simp [Region.wanted]) _ _ rfl w.heap.size _ _ _ [(y1, y2, y3 + 1)] rfl (((unhide HO).alloc _).alloc _) rfl (kl_lit' _ _ _ _ _ (by simp)) (unhide LN) (by simp) (unhide B2 _ _).size ?_; intro v4 w4 o4 b4; have O4 := hide o4; have B4 := hide ((unhide B2 _ _).trans b4); clear o4 b4)
        go_roundw
        case rel => exact ⟨_, k + 1, by omega, rfl, by go_num, by rw [unhide E]; exact unhide O4, unhide B4⟩
        case measure => simp [intOf]; omega
      · have E := hide (old_no hkl hx)
        clear hkl
        generalize kz L k = y at *
        obtain ⟨y1, y2, y3⟩ := y
        obtain ⟨ha1, ha2⟩ := ha
        simp only at ha1 ha2 hx
        go_wp2
        go_roundw
        case rel => exact ⟨_, k + 1, by omega, rfl, by go_num, by rw [unhide E]; exact (unhide HO).alloc _, (unhide HB).alloc (unhide HB).size _⟩
        case measure => simp [intOf]; omega
    · obtain rfl : k = n := by omega
      clear ho hb
      go_wp2
      go_ret2
      exact ⟨_, rfl, by rw [← unhide HE]; exact unhide HO, unhide HB⟩
end Go.Proofs.YtgglnhnokhpnpaaDoor
