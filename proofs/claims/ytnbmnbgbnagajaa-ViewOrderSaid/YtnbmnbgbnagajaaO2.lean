/- Walk of ViewOrder of right peers. -/
import Derived.Test.YtnbmnbgbnagajaaO1
namespace Go.Proofs.Ytnbmnbgbnagajaa
open Go.RowKit

theorem hear_s (F : Nat → Int) (v : Value) (n k q : Nat) (w : World) (hv : Pe w v n F) (h : rt n F = true) (hk : k < n) (hq : 1 ≤ q ∧ q ≤ 1000) :
    Calls Try.prog 9 #[v, .int .i64 (k : Int), .int .i64 (q : Int)] w fun e w' => ∃ p c, e = .returned (.tuple #[.slice p n c, .int .i64 0]) ∧ n ≤ c ∧ c ≤ maxLen ∧ Pe w' (.slice p n c) n (hrF F k q) ∧ Below w.heap.size w w' := by
  refine (hear_p F v n k q w hv h hk ⟨by omega, by omega⟩).mono ?_
  rintro e w' ⟨v', rfl, o, b⟩
  obtain ⟨p, c, rfl, h1, h2⟩ := o.shape
  exact ⟨p, c, rfl, h1, h2, o, b⟩
theorem rt_hs {n : Nat} {F : Nat → Int} {a q : Nat} (h : rt n F = true) (hq : 1 ≤ q ∧ q ≤ 1000) : rt n (hrF F a q) = true := rt_hr h ⟨by omega, by omega⟩
theorem kpeers_o (F : Nat → Int) (a b x y : Nat) (v u : Value) (n : Nat) (w : World) (hv : Pe w v n (hrF (hrF F a x) b y)) (hu : Pe w u n (hrF (hrF F b y) a x)) : Calls Try.prog 12 #[v, u] w fun ev w' => ev = .returned (.bool true) ∧ Below w.heap.size w w' :=
  kpeers_same _ _ v u n w hv hu fun j _ => hr_same F a b j x y
set_option maxHeartbeats 2000000 in
set_option maxRecDepth 100000 in
theorem or_good (F : Nat → Int) (v : Value) (n : Nat) (a b x y : Int) (w : World) (hv : Pe w v n F) (hr : rt n F = true) :
    Calls Try.prog 6 #[v, .int .i64 a, .int .i64 b, .int .i64 x, .int .i64 y] w fun e w' => e = .returned (.bool true) ∧ Below w.heap.size w w' := by
  have RT := hide hr
  have h8 := (rt_iff.1 hr).2.1
  have h1 := (rt_iff.1 hr).1
  have HH := hide (show decide ((20 : Int) < (n : Int)) = false by simp; omega)
  obtain ⟨A, hA, hA2⟩ := modN a n (by omega) (by omega)
  obtain ⟨B, hB, hB2⟩ := modN b n (by omega) (by omega)
  obtain ⟨X, hX, hX2⟩ := modS x
  obtain ⟨Y, hY, hY2⟩ := modS y
  have KA := hide hA2
  have KB := hide hB2
  have KX := hide hX2
  have KY := hide hY2
  have wn := wrapU n (by omega)
  have n0 : ((n : Int) == 0) = false := by simp; omega
  have HL := hide hv
  have BB := hide (Below.refl w.heap.size w)
  obtain ⟨p, c, rfl, _, hc2⟩ := hv.shape
  unfold maxLen at hc2
  clear hv hr hA2 hB2 hX2 hY2
  go_enter Try.func6, Try.ntmps6
  go_wp2_with (first
    | (go_at_call 7; (with_reducible refine (heavy_c _ _ _ false _ (unhide HH)).mono ?_); rintro e w1 ⟨rfl, b⟩; replace HL := hide ((unhide HL).below b (Nat.le_refl _)); replace BB := hide (below_of (unhide BB) b); clear b)
    | (go_at_call 13; (with_reducible refine (peers_c F _ n true _ (unhide HL) (unhide RT)).mono ?_); rintro e w2 ⟨rfl, b⟩; replace HL := hide ((unhide HL).below b (Nat.le_refl _)); replace BB := hide (below_of (unhide BB) b); clear b))
  go_quiet (fail)
  rw [hA, hB]
  clear hA hB
  obtain ⟨w3, hw3⟩ : ∃ x, x = w2.drewN nq := ⟨_, rfl⟩
  replace HL := hide (show Pe w3 (.slice p n c) n F by rw [hw3]; exact (unhide HL).below (below_drewN (Below.refl _ _) nq) (Nat.le_refl _))
  replace BB := hide (show Below w.heap.size w w3 by rw [hw3]; exact below_drewN (unhide BB) nq)
  rw [← hw3]
  clear hw3
  go_upto_region 5 with fail
  rw [hX, hY]
  clear hX hY
  have RA := hide (rt_hs (a := A) (unhide RT) (unhide KX))
  have RB := hide (rt_hs (a := B) (unhide RT) (unhide KY))
  go_wp2_with (first
    | (go_at_call 9; (with_reducible refine (hear_s F _ n A X _ (unhide HL) (unhide RT) (unhide KA) (unhide KX)).mono ?_); rintro e w4 ⟨p1, cp1, rfl, _, hp1, f, b⟩; unfold maxLen at hp1; have H1 := hide f; replace HL := hide ((unhide HL).below b (Nat.le_refl _)); replace BB := hide (below_of (unhide BB) b); clear b f)
    | (go_at_call 9; (with_reducible refine (hear_s (hrF F A X) _ n B Y _ (unhide H1) (unhide RA) (unhide KB) (unhide KY)).mono ?_); rintro e w5 ⟨p2, cp2, rfl, _, hp2, f, b⟩; unfold maxLen at hp2; have H2 := hide f; replace HL := hide ((unhide HL).below b (Nat.le_refl _)); replace BB := hide (below_of (unhide BB) b); clear b f)
    | (go_at_call 9; (with_reducible refine (hear_s F _ n B Y _ (unhide HL) (unhide RT) (unhide KB) (unhide KY)).mono ?_); rintro e w6 ⟨p3, cp3, rfl, _, hp3, f, b⟩; unfold maxLen at hp3; have H3 := hide f; replace HL := hide ((unhide HL).below b (Nat.le_refl _)); replace H2 := hide ((unhide H2).below b (Nat.le_refl _)); replace BB := hide (below_of (unhide BB) b); clear b f)
    | (go_at_call 9; (with_reducible refine (hear_s (hrF F B Y) _ n A X _ (unhide H3) (unhide RB) (unhide KA) (unhide KX)).mono ?_); rintro e w7 ⟨p4, cp4, rfl, _, hp4, f, b⟩; unfold maxLen at hp4; have H4 := hide f; replace HL := hide ((unhide HL).below b (Nat.le_refl _)); replace H2 := hide ((unhide H2).below b (Nat.le_refl _)); replace BB := hide (below_of (unhide BB) b); clear b f)
    | (go_at_call 12; (with_reducible refine (kpeers_o F A B X Y _ _ n _ (unhide H2) (unhide H4)).mono ?_); rintro e w8 ⟨rfl, b⟩; replace HL := hide ((unhide HL).below b (Nat.le_refl _)); replace H2 := hide ((unhide H2).below b (Nat.le_refl _)); replace BB := hide (below_of (unhide BB) b); clear b))
  go_loopw [17] (fun i w2 => ∃ k : Nat, k ≤ n ∧ i = .int .i64 k ∧ Below w8.heap.size w8 w2) (fun i _ => n - (intOf i).toNat)
  case atStart => exact ⟨0, by omega, rfl, Below.refl _ _⟩
  case round =>
    obtain ⟨k, hk, rfl, hb⟩ := hrel
    by_cases hlt : k < n
    · obtain ⟨bl, ol, rfl, _, cl⟩ := ((unhide HL).below hb (Nat.le_refl _)).some (by omega)
      obtain ⟨bp, op, rfl, _, cp⟩ := ((unhide H2).below hb (Nat.le_refl _)).some (by omega)
      obtain ⟨q0, q1⟩ := Pe.two cl k hlt
      obtain ⟨r0, r1⟩ := Pe.two cp k hlt
      have HB := hide hb
      clear cl cp hb
      by_cases ha : k = A
      · have e1 : ((k : Int) == (A : Int)) = true := by simp [ha]
        have g1 : ((k : Int) != (A : Int)) = false := by simp [ha]
        by_cases hbb : k = B
        · have e2 : ((k : Int) == (B : Int)) = true := by simp [hbb]
          have g2 : ((k : Int) != (B : Int)) = false := by simp [hbb]
          rw [← ha, ← hbb, hrF_at, hrF_at] at r0
          clear ha hbb r1
          generalize F (k * 2) = f at *
          by_cases f1 : f < (X : Int)
          · rw [if_pos f1] at r0
            by_cases f2 : (X : Int) < (Y : Int)
            · rw [if_pos f2] at r0
              go_wp2
              go_quiet (fail)
              go_wp2
              go_roundw
              case rel => exact ⟨k + 1, by omega, by go_num, below_drewN (unhide HB) _⟩
              case measure => simp [intOf]; omega
            · rw [if_neg f2] at r0
              go_wp2
              go_quiet (fail)
              go_wp2
              go_roundw
              case rel => exact ⟨k + 1, by omega, by go_num, below_drewN (unhide HB) _⟩
              case measure => simp [intOf]; omega
          · rw [if_neg f1] at r0
            by_cases f2 : f < (Y : Int)
            · rw [if_pos f2] at r0
              go_wp2
              go_quiet (fail)
              go_wp2
              go_roundw
              case rel => exact ⟨k + 1, by omega, by go_num, below_drewN (unhide HB) _⟩
              case measure => simp [intOf]; omega
            · rw [if_neg f2] at r0
              go_wp2
              go_quiet (fail)
              go_wp2
              go_roundw
              case rel => exact ⟨k + 1, by omega, by go_num, below_drewN (unhide HB) _⟩
              case measure => simp [intOf]; omega
        · have e2 : ((k : Int) == (B : Int)) = false := by simp; omega
          have g2 : ((k : Int) != (B : Int)) = true := by simp; omega
          rw [(hrF_off _ B k Y hbb).1, ← ha, hrF_at] at r0
          clear ha hbb r1
          generalize F (k * 2) = f at *
          by_cases f1 : f < (X : Int)
          · rw [if_pos f1] at r0
            go_wp2
            go_quiet (fail)
            go_wp2
            go_roundw
            case rel => exact ⟨k + 1, by omega, by go_num, below_drewN (unhide HB) _⟩
            case measure => simp [intOf]; omega
          · rw [if_neg f1] at r0
            go_wp2
            go_quiet (fail)
            go_wp2
            go_roundw
            case rel => exact ⟨k + 1, by omega, by go_num, below_drewN (unhide HB) _⟩
            case measure => simp [intOf]; omega
      · have e1 : ((k : Int) == (A : Int)) = false := by simp; omega
        have g1 : ((k : Int) != (A : Int)) = true := by simp; omega
        by_cases hbb : k = B
        · have e2 : ((k : Int) == (B : Int)) = true := by simp [hbb]
          have g2 : ((k : Int) != (B : Int)) = false := by simp [hbb]
          rw [← hbb, hrF_at, (hrF_off _ A k X ha).1] at r0
          clear ha hbb r1
          generalize F (k * 2) = f at *
          by_cases f1 : f < (Y : Int)
          · rw [if_pos f1] at r0
            go_wp2
            go_quiet (fail)
            go_wp2
            go_roundw
            case rel => exact ⟨k + 1, by omega, by go_num, below_drewN (unhide HB) _⟩
            case measure => simp [intOf]; omega
          · rw [if_neg f1] at r0
            go_wp2
            go_quiet (fail)
            go_wp2
            go_roundw
            case rel => exact ⟨k + 1, by omega, by go_num, below_drewN (unhide HB) _⟩
            case measure => simp [intOf]; omega
        · have e2 : ((k : Int) == (B : Int)) = false := by simp; omega
          have g2 : ((k : Int) != (B : Int)) = true := by simp; omega
          rw [(hrF_off _ B k Y hbb).1, (hrF_off _ A k X ha).1] at r0
          rw [(hrF_off _ B k Y hbb).2, (hrF_off _ A k X ha).2] at r1
          clear ha hbb
          generalize F (k * 2) = f at *
          generalize F (k * 2 + 1) = g at *
          go_wp2
          go_quiet (fail)
          go_wp2
          go_roundw
          case rel => exact ⟨k + 1, by omega, by go_num, below_drewN (unhide HB) _⟩
          case measure => simp [intOf]; omega
    · obtain rfl : k = n := by omega
      have HB := hide (below_of (unhide BB) hb)
      clear hb
      go_wp2_with (go_at_call 15; (with_reducible refine (wakes_any _).mono ?_); rintro e w9 ⟨rfl, b⟩; have B9 := hide (below_of (unhide HB) b); clear b)
      go_ret
      exact ⟨rfl, unhide B9⟩
theorem order_walk (p : Option Addr) (n c : Nat) (F : Nat → Int) (a b x y : Int) (w : World) (hv : Pe w (.slice p n c) n F) :
    Calls Try.prog 6 #[.slice p n c, .int .i64 a, .int .i64 b, .int .i64 x, .int .i64 y] w fun e w' => e = .returned (.bool true) ∧ Below w.heap.size w w' := by
  by_cases hn : 20 < n
  · exact or_heavy p n c a b x y w hn
  · cases hr : rt n F with
    | false => exact or_bad F _ n a b x y w hv (by omega) hr
    | true => exact or_good F _ n a b x y w hv hr
end Go.Proofs.Ytnbmnbgbnagajaa
