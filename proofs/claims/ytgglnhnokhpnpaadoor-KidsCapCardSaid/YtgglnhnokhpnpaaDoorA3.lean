/- Walks of layer 3's functions: Owner, and the statements' wakes. -/
import Derived.Test.YtgglnhnokhpnpaaDoorA2
namespace Go.Proofs.YtgglnhnokhpnpaaDoor
open Go.RowKit

/-- The owner of the first k + 1 of some nodes. -/
def own (t : Int) (F : Nat → Int) : Nat → Int
  | 0 => F 0
  | k + 1 => if gp t (F (k + 1)) < gp t (own t F k) then F (k + 1) else own t F k
theorem own_met (t : Int) (F : Nat → Int) : ∀ k, ∃ i, i ≤ k ∧ own t F k = F i
  | 0 => ⟨0, Nat.le_refl _, rfl⟩
  | k + 1 => by
    obtain ⟨i, hi, h⟩ := own_met t F k
    unfold own
    split
    · exact ⟨k + 1, Nat.le_refl _, rfl⟩
    · exact ⟨i, by omega, h⟩
theorem own_node {t : Int} {F : Nat → Int} {n k : Nat} (h : NodesTo F n) (hk : k < n) : IsN (own t F k) := by
  obtain ⟨i, hi, e⟩ := own_met t F k
  rw [e]
  exact h i (by omega)
theorem own_least (t : Int) (F : Nat → Int) : ∀ k i, i ≤ k → gp t (own t F k) ≤ gp t (F i)
  | 0, i, hi => by obtain rfl : i = 0 := by omega
                   exact Int.le_refl _
  | k + 1, i, hi => by
    have h := own_least t F k
    unfold own
    split
    · next hlt =>
      by_cases e : i = k + 1
      · subst e; exact Int.le_refl _
      · have := h i (by omega); omega
    · next hge =>
      by_cases e : i = k + 1
      · subst e; omega
      · exact h i (by omega)

theorem owner_topic (t : Int) (v : Value) (h : ¬ IsT t) (w : World) :
    Calls Tryd.prog 35 #[.int .i64 t, v] w fun e w' => e = .returned (.tuple #[.int .i64 0, .int .i64 1]) ∧ w' = w := by
  go_enter Tryd.func35, Tryd.ntmps35
  go_wp2_with (first
    | (go_at_call 41; refine (topic_no _ (by assumption) _).mono ?_; rintro e w1 ⟨rfl, rfl⟩))
  go_ret2
  exact ⟨rfl, rfl⟩
theorem owner_arg (t : Int) (v : Value) (n j : Nat) (F : Nat → Int) (ht : IsT t) (w : World) (hG : Glob w) (h : ISl w v n F) (hn : NodesTo F j) (hj : j < n) (hf : ¬ IsN (F j)) :
    Calls Tryd.prog 35 #[.int .i64 t, v] w fun e w' => e = .returned (.tuple #[.int .i64 0, .int .i64 1]) ∧ w' = w := by
  generalize hT : tk t = T at *
  go_enter Tryd.func35, Tryd.ntmps35
  go_wp2_with (first
    | (go_at_call 41; refine (topic_is _ (by assumption) _ (by assumption)).mono ?_; rw [hT]; rintro e w1 ⟨rfl, rfl⟩)
    | (go_at_call 44; refine (allNodes_f _ n j F _ (by assumption) h hn hj hf).mono ?_; rintro e w1 ⟨rfl, rfl⟩))
  go_ret2
  exact ⟨rfl, rfl⟩
theorem owner_none (t : Int) (v : Value) (F : Nat → Int) (ht : IsT t) (w : World) (hG : Glob w) (h : ISl w v 0 F) :
    Calls Tryd.prog 35 #[.int .i64 t, v] w fun e w' => e = .returned (.tuple #[.int .i64 0, .int .i64 7]) ∧ w' = w := by
  have h' := h
  generalize hT : tk t = T at *
  have hv : ∃ a cap, v = .slice a 0 cap := by
    rcases h with ⟨_, rfl | ⟨x, cap, rfl, hc⟩⟩ | ⟨b, off, cap, rfl, _⟩
    · exact ⟨_, _, rfl⟩
    · exact ⟨_, _, rfl⟩
    · exact ⟨_, _, rfl⟩
  obtain ⟨a, cap, rfl⟩ := hv
  go_enter Tryd.func35, Tryd.ntmps35
  go_wp2_with (first
    | (go_at_call 41; refine (topic_is _ (by assumption) _ (by assumption)).mono ?_; rw [hT]; rintro e w1 ⟨rfl, rfl⟩)
    | (go_at_call 44; refine (allNodes_t _ 0 F _ (by assumption) h' (fun i hi => absurd hi (by omega))).mono ?_; rintro e w1 ⟨rfl, rfl⟩))
  go_ret2
  exact ⟨rfl, rfl⟩
set_option maxHeartbeats 400000 in
theorem owner_is (t : Int) (v : Value) (n : Nat) (F : Nat → Int) (ht : IsT t) (w : World) (hG : Glob w) (h : ISl w v (n + 1) F) (hn : NodesTo F (n + 1)) :
    Calls Tryd.prog 35 #[.int .i64 t, v] w fun e w' => e = .returned (.tuple #[.int .i64 (own t F n), .int .i64 0]) ∧ w' = w := by
  have h' := h
  generalize hT : tk t = T at *
  rcases h with ⟨h0, _⟩ | ⟨b, off, cap, rfl, hle, hcap, hb, hcell⟩
  · omega
  · unfold maxLen at hcap
    have hc0 := hcell 0 (by omega)
    rw [Nat.add_zero] at hc0
    by_cases hc1 : cap = 1
    · obtain rfl : n = 0 := by omega
      subst hc1
      go_enter Tryd.func35, Tryd.ntmps35
      go_wp2_with (first
        | (go_at_call 41; refine (topic_is _ (by assumption) _ (by assumption)).mono ?_; rw [hT]; rintro e w1 ⟨rfl, rfl⟩)
        | (go_at_call 44; refine (allNodes_t _ _ F _ (by assumption) h' hn).mono ?_; rintro e w1 ⟨rfl, rfl⟩))
      go_loop [8, 31] (fun o xi => xi = .int .i64 0 ∧ o = .int .i64 (F 0)) (fun _ _ => 0)
      case atStart => exact ⟨rfl, rfl⟩
      case round =>
        obtain ⟨rfl, rfl⟩ := hrel
        go_wp2
        go_ret2
        exact ⟨rfl, rfl⟩
    · have hz : ((n : Int) + 1 == 0) = false := beq_false_of_ne (by omega)
      go_enter Tryd.func35, Tryd.ntmps35
      go_wp2_with (first
        | (go_at_call 41; refine (topic_is _ (by assumption) _ (by assumption)).mono ?_; rw [hT]; rintro e w1 ⟨rfl, rfl⟩)
        | (go_at_call 44; refine (allNodes_t _ _ F _ (by assumption) h' hn).mono ?_; rintro e w1 ⟨rfl, rfl⟩))
      go_loop [8, 31] (fun o xi => ∃ k : Nat, k ≤ n ∧ xi = .int .i64 k ∧ o = .int .i64 (own t F k)) (fun _ i => n - (intOf i).toNat)
      case atStart => exact ⟨0, by omega, rfl, rfl⟩
      case round =>
        obtain ⟨k, hk, rfl, rfl⟩ := hrel
        by_cases hlt : k < n
        · have hck := hcell (k + 1) (by omega)
          rw [show off + (k + 1) = off + 1 + k by omega] at hck
          have hnk := hn (k + 1) (by omega)
          have hno : IsN (own t F k) := own_node hn (by omega)
          by_cases hgt : gp t (F (k + 1)) < gp t (own t F k)
          · have hs : own t F (k + 1) = F (k + 1) := by rw [own, if_pos hgt]
            clear hcell hn h' hc0
            generalize F (k + 1) = x at *
            generalize own t F k = y at *
            go_wp2_with (first
              | (go_at_call 24; refine (nearer_t _ _ _ (by assumption) (by assumption) (by assumption) (by assumption) _ (by assumption)).mono ?_; rintro e w1 ⟨rfl, rfl⟩))
            go_round
            case rel => exact ⟨k + 1, by omega, by go_num, by rw [hs]⟩
            case measure => simp [intOf]; omega
          · have hs : own t F (k + 1) = own t F k := by rw [own, if_neg hgt]
            clear hcell hn h' hc0
            generalize F (k + 1) = x at *
            generalize own t F k = y at *
            go_wp2_with (first
              | (go_at_call 24; refine (nearer_f _ _ _ (by assumption) (by assumption) (by assumption) (by assumption) _ (by assumption)).mono ?_; rintro e w1 ⟨rfl, rfl⟩))
            go_round
            case rel => exact ⟨k + 1, by omega, by go_num, by rw [hs]⟩
            case measure => simp [intOf]; omega
        · obtain rfl : k = n := by omega
          go_wp2
          go_ret2
          exact ⟨rfl, rfl⟩
end Go.Proofs.YtgglnhnokhpnpaaDoor
