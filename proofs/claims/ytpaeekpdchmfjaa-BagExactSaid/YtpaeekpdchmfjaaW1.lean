/- Walks of Heavy and of wakes. -/
import Derived.Test.YtpaeekpdchmfjaaA7
import Derived.Test.YtpaeekpdchmfjaaA11
import Derived.Test.YtpaeekpdchmfjaaA12
namespace Go.Proofs.Ytpaeekpdchmfjaa
open Go.RowKit

theorem Own.congr {w : World} {b0 n : Nat} {v : Value} {X Y : Nat → Fm} (h : Own w b0 v n X) (e : ∀ i, i < n → (X i).t = (Y i).t ∧ (X i).n = (Y i).n ∧ ∀ j, j < (X i).n → (X i).b j = (Y i).b j) : Own w b0 v n Y := by
  obtain ⟨B, h1, h2, h3⟩ := h
  refine ⟨B, ?_, fun i hi => ?_, h3⟩
  · rwa [← fL_congr (T := fun i => (X i).t) (B := B) (fun i hi => ⟨(e i hi).1, rfl⟩)]
  · rw [← (e i hi).2.1, ← vL_congr (F := (X i).b) (e i hi).2.2]
    exact h2 i hi
/-- No more than is played. -/
def Lt (n : Nat) (X : Nat → Fm) : Prop := (n ≤ 60 ∨ 300 ≤ n ∧ n ≤ 303) ∧ ∀ i, i < n → (X i).n ≤ 200
/-- Heavy's answer. -/
def HvR (n : Nat) (X : Nat → Fm) (w : World) (e : Ending) (w' : World) : Prop := ∃ r, e = .returned (.bool r) ∧ w' = w ∧ (r = false ↔ Lt n X)
theorem hv_true {n : Nat} {X : Nat → Fm} {w w' : World} {e : Ending} (h : e = .returned (.bool true)) (hw : w' = w) (hl : ¬ Lt n X) : HvR n X w e w' := ⟨true, h, hw, ⟨fun h => (by cases h), fun h => absurd h hl⟩⟩
theorem hv_false {n : Nat} {X : Nat → Fm} {w w' : World} {e : Ending} (h : e = .returned (.bool false)) (hw : w' = w) (h1 : n ≤ 60 ∨ 300 ≤ n ∧ n ≤ 303) (h2 : ∀ i, i < n → (X i).n ≤ 200) : HvR n X w e w' := ⟨false, h, hw, ⟨fun _ => ⟨h1, h2⟩, fun _ => rfl⟩⟩
set_option maxHeartbeats 1000000 in
set_option maxRecDepth 100000 in
theorem heavy_any (X : Nat → Fm) (v : Value) (n : Nat) (w : World) (hv : Fs w v n X) : Calls Try.prog 7 #[v] w (HvR n X w) := by
  obtain ⟨p, c, rfl, hc1, hc2⟩ := hv.shape
  unfold maxLen at hc2
  have HV := hide hv
  clear hv
  by_cases h1 : 60 < n ∧ n < 300
  · obtain ⟨h1, h2⟩ := h1
    have NL := hide (show ¬ Lt n X from fun h => by have := h.1; omega)
    go_enter Try.func7, Try.ntmps7
    go_wp2
    go_ret
    exact hv_true rfl rfl (unhide NL)
  · by_cases h2 : 303 < n
    · clear h1
      have NL := hide (show ¬ Lt n X from fun h => by have := h.1; omega)
      have e1 : ¬ ((n : Int) < 300) := by omega
      have e2 : (n : Int) > 60 := by omega
      go_enter Try.func7, Try.ntmps7
      go_wp2
      go_ret
      exact hv_true rfl rfl (unhide NL)
    · have hn : n ≤ 60 ∨ 300 ≤ n ∧ n ≤ 303 := by omega
      have HN := hide hn
      have k1 : (decide ((n : Int) > 60) && decide ((n : Int) < 300)) = false := by
        rcases hn with hn | hn
        · rw [decide_eq_false (show ¬ ((n : Int) > 60) by omega)]; rfl
        · rw [decide_eq_false (show ¬ ((n : Int) < 300) by omega)]; exact Bool.and_false _
      have k2 : ¬ ((n : Int) > 303) := by omega
      have k3 : ((n : Int) > 60 ∧ (n : Int) < 300) = False := by simp; omega
      by_cases h3 : (n : Int) > 60
      all_goals
        first
        | have h4 : ¬ ((n : Int) < 300) := by omega
        | skip
        clear hn h1 h2 k1 k3
        go_enter Try.func7, Try.ntmps7
        go_wp2
        go_loop [3] (fun i => ∃ k : Nat, k ≤ n ∧ i = .int .i64 k ∧ ∀ i, i < k → (X i).n ≤ 200) (fun i => n - (intOf i).toNat)
        case atStart => exact ⟨0, by omega, rfl, fun i hi => absurd hi (Nat.not_lt_zero _)⟩
        case round =>
          obtain ⟨k, hk, rfl, ha⟩ := hrel
          have HA := hide ha
          clear ha
          by_cases hlt : k < n
          · obtain ⟨b, off, B, rfl, _, hcell⟩ := (unhide HV).some (by omega)
            obtain ⟨q1, q2, q3⟩ := hcell k hlt
            obtain ⟨pk, ck, hbk, -, -⟩ := q3.shape
            rw [hbk] at q2
            clear hcell q3 hbk
            by_cases hb : (X k).n ≤ 200
            · have NX : Hid (∀ i, i < k + 1 → (X i).n ≤ 200) := hide fun i hi => by
                by_cases e : i = k
                · rw [e]; exact hb
                · exact unhide HA i (by omega)
              go_wp2
              go_round
              case rel => exact ⟨k + 1, by omega, by go_num, unhide NX⟩
              case measure => simp [intOf]; omega
            · have NL := hide (show ¬ Lt n X from fun h => hb (h.2 k hlt))
              go_wp2
              go_ret
              exact hv_true rfl rfl (unhide NL)
          · obtain rfl : k = n := by omega
            go_wp2
            go_ret
            exact hv_false rfl rfl (unhide HN) (unhide HA)
theorem heavy_no (X : Nat → Fm) (v : Value) (n : Nat) (w : World) (hv : Fs w v n X) (h : Lt n X) : Calls Try.prog 7 #[v] w fun e w' => e = .returned (.bool false) ∧ w' = w := by
  refine (heavy_any X v n w hv).mono ?_
  rintro e w' ⟨r, rfl, rfl, hr⟩
  exact ⟨by rw [hr.2 h], rfl⟩
theorem heavy_yes (X : Nat → Fm) (v : Value) (n : Nat) (w : World) (hv : Fs w v n X) (h : ¬ Lt n X) : Calls Try.prog 7 #[v] w fun e w' => e = .returned (.bool true) ∧ w' = w := by
  refine (heavy_any X v n w hv).mono ?_
  rintro e w' ⟨r, rfl, rfl, hr⟩
  cases r with
  | false => exact absurd (hr.1 rfl) h
  | true => exact ⟨rfl, rfl⟩
end Go.Proofs.Ytpaeekpdchmfjaa
