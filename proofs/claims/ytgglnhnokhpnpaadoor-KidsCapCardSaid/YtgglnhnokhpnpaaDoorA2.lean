/- Walks of layer 3's functions: Gap's errors, Nearer, allNodes. -/
import Derived.Test.YtgglnhnokhpnpaaDoorA1
namespace Go.Proofs.YtgglnhnokhpnpaaDoor
open Go.RowKit

theorem gap_no (t n : Int) (h : ¬ IsT t ∨ ¬ IsN n) (w : World) (hG : Glob w) :
    Calls Tryd.prog 34 #[.int .i64 t, .int .i64 n] w fun e w' => e = .returned (.tuple #[.int .i64 0, .int .i64 1]) ∧ w' = w := by
  by_cases ht : IsT t
  · have hn : ¬ IsN n := by rcases h with h | h; exact absurd ht h; exact h
    clear h
    generalize hT : tk t = T at *
    go_enter Tryd.func34, Tryd.ntmps34
    go_wp2_with (first
      | (go_at_call 41; refine (topic_is _ (by assumption) _ (by assumption)).mono ?_; rw [hT]; rintro e w1 ⟨rfl, rfl⟩)
      | (go_at_call 42; refine (node_no _ (by assumption) _).mono ?_; rintro e w1 ⟨rfl, rfl⟩))
    go_ret2
    exact ⟨rfl, rfl⟩
  · clear h
    go_enter Tryd.func34, Tryd.ntmps34
    go_wp2_with (first
      | (go_at_call 41; refine (topic_no _ (by assumption) _).mono ?_; rintro e w1 ⟨rfl, rfl⟩))
    go_ret2
    exact ⟨rfl, rfl⟩

theorem nearer_any (t a b : Int) (ht : IsT t) (ha : IsN a) (hb : IsN b) (w : World) (hG : Glob w) :
    Calls Tryd.prog 24 #[.int .i64 t, .int .i64 a, .int .i64 b] w fun e w' => e = .returned (.bool (decide (gp t a < gp t b))) ∧ w' = w := by
  have m1 := trivial
  generalize hA : gp t a = A at *
  generalize hB : gp t b = B at *
  go_enter Tryd.func24, Tryd.ntmps24
  go_wp2_with (first
    | (clear m1; go_at_call 34; refine (gap_is t a ht ha _ hG).mono ?_; rw [hA]; rintro e w1 ⟨rfl, rfl⟩)
    | (go_at_call 34; refine (gap_is t b ht hb _ hG).mono ?_; rw [hB]; rintro e w1 ⟨rfl, rfl⟩))
  go_ret
  exact ⟨rfl, rfl⟩
theorem nearer_t (t a b : Int) (ht : IsT t) (ha : IsN a) (hb : IsN b) (h : gp t a < gp t b) (w : World) (hG : Glob w) :
    Calls Tryd.prog 24 #[.int .i64 t, .int .i64 a, .int .i64 b] w fun e w' => e = .returned (.bool true) ∧ w' = w := by
  have := nearer_any t a b ht ha hb w hG
  rwa [decide_eq_true h] at this
theorem nearer_f (t a b : Int) (ht : IsT t) (ha : IsN a) (hb : IsN b) (h : ¬ gp t a < gp t b) (w : World) (hG : Glob w) :
    Calls Tryd.prog 24 #[.int .i64 t, .int .i64 a, .int .i64 b] w fun e w' => e = .returned (.bool false) ∧ w' = w := by
  have := nearer_any t a b ht ha hb w hG
  rwa [decide_eq_false h] at this
theorem nearer_no (t a b : Int) (h : ¬ IsT t ∨ ¬ IsN a ∨ ¬ IsN b) (w : World) (hG : Glob w) :
    Calls Tryd.prog 24 #[.int .i64 t, .int .i64 a, .int .i64 b] w fun e w' => e = .returned (.bool false) ∧ w' = w := by
  by_cases h1 : ¬ IsT t ∨ ¬ IsN a
  · clear h
    go_enter Tryd.func24, Tryd.ntmps24
    go_wp2_with (first
      | (go_at_call 34; refine (gap_no t a h1 _ hG).mono ?_; rintro e w1 ⟨rfl, rfl⟩))
    go_ret
    exact ⟨rfl, rfl⟩
  · have ht : IsT t := Decidable.not_not.1 fun q => h1 (.inl q)
    have ha : IsN a := Decidable.not_not.1 fun q => h1 (.inr q)
    have hb : ¬ IsT t ∨ ¬ IsN b := by
      rcases h with h | h | h
      · exact .inl h
      · exact absurd ha h
      · exact .inr h
    clear h h1
    have m1 := trivial
    generalize hA : gp t a = A at *
    go_enter Tryd.func24, Tryd.ntmps24
    go_wp2_with (first
      | (clear m1; go_at_call 34; refine (gap_is t a ht ha _ hG).mono ?_; rw [hA]; rintro e w1 ⟨rfl, rfl⟩)
      | (go_at_call 34; refine (gap_no t b hb _ hG).mono ?_; rintro e w1 ⟨rfl, rfl⟩))
    go_ret
    exact ⟨rfl, rfl⟩

/-- A slice of n ints. -/
def ISl (w : World) (v : Value) (n : Nat) (F : Nat → Int) : Prop :=
  (n = 0 ∧ (v = .slice none 0 0 ∨ ∃ x cap, v = .slice (some x) 0 cap ∧ cap ≤ maxLen)) ∨
  ∃ b off cap, v = .slice (some ⟨b, off, none⟩) n cap ∧ n ≤ cap ∧ cap ≤ maxLen ∧ b < w.heap.size ∧ ∀ i, i < n → w.cell? ⟨b, off + i, none⟩ = some (.int .i64 (F i))
theorem ISl.below {w w' : World} {v : Value} {n B : Nat} {F : Nat → Int} (h : ISl w v n F) (hb : Below B w w') (hB : w.heap.size ≤ B) : ISl w' v n F := by
  rcases h with h | ⟨b, off, cap, h1, h2, h3, h4, h5⟩
  · exact .inl h
  · exact .inr ⟨b, off, cap, h1, h2, h3, Nat.lt_of_lt_of_le h4 hb.size, fun i hi => (hb.cell (p := ⟨b, off + i, none⟩) (by show b < B; omega)).trans (h5 i hi)⟩
theorem ISl.congr {w : World} {v : Value} {n : Nat} {F G : Nat → Int} (h : ISl w v n F) (e : ∀ i, i < n → F i = G i) : ISl w v n G := by
  rcases h with h | ⟨b, off, cap, h1, h2, h3, h4, h5⟩
  · exact .inl h
  · exact .inr ⟨b, off, cap, h1, h2, h3, h4, fun i hi => by rw [h5 i hi, e i hi]⟩

/-- The first of the ints that is no node. -/
def NodesTo (F : Nat → Int) (n : Nat) : Prop := ∀ i, i < n → IsN (F i)

set_option maxHeartbeats 400000 in
theorem allNodes_t (v : Value) (n : Nat) (F : Nat → Int) (w : World) (hG : Glob w) (h : ISl w v n F) (hn : NodesTo F n) :
    Calls Tryd.prog 44 #[v] w fun e w' => e = .returned (.bool true) ∧ w' = w := by
  rcases h with ⟨rfl, rfl | ⟨x, cap, rfl, hc⟩⟩ | ⟨b, off, cap, rfl, hle, hcap, hb, hcell⟩
  · go_enter Tryd.func44, Tryd.ntmps44
    go_wp2
    go_loop [9] (fun xi => xi = .int .i64 0) (fun _ => 0)
    case atStart => rfl
    case round =>
      subst hrel
      go_wp2
      go_ret
      exact ⟨rfl, rfl⟩
  · unfold maxLen at hc
    go_enter Tryd.func44, Tryd.ntmps44
    go_wp2
    go_loop [9] (fun xi => xi = .int .i64 0) (fun _ => 0)
    case atStart => rfl
    case round =>
      subst hrel
      go_wp2
      go_ret
      exact ⟨rfl, rfl⟩
  · unfold maxLen at hcap
    go_enter Tryd.func44, Tryd.ntmps44
    go_wp2
    go_loop [9] (fun xi => ∃ k : Nat, k ≤ n ∧ xi = .int .i64 k) (fun i => n - (intOf i).toNat)
    case atStart => exact ⟨0, by omega, rfl⟩
    case round =>
      obtain ⟨k, hk, rfl⟩ := hrel
      by_cases hlt : k < n
      · have hck := hcell k hlt
        have hnk := hn k hlt
        clear hcell hn
        generalize F k = x at *
        generalize hX : nk x = X at *
        go_wp2_with (first
          | (go_at_call 42; refine (node_is _ (by assumption) _ (by assumption)).mono ?_; rw [hX]; rintro e w1 ⟨rfl, rfl⟩))
        go_round
        case rel => exact ⟨k + 1, by omega, by go_num⟩
        case measure => simp [intOf]; omega
      · go_wp2
        go_ret
        exact ⟨rfl, rfl⟩

set_option maxHeartbeats 400000 in
theorem allNodes_f (v : Value) (n j : Nat) (F : Nat → Int) (w : World) (hG : Glob w) (h : ISl w v n F) (hn : NodesTo F j) (hj : j < n) (hf : ¬ IsN (F j)) :
    Calls Tryd.prog 44 #[v] w fun e w' => e = .returned (.bool false) ∧ w' = w := by
  rcases h with ⟨rfl, _⟩ | ⟨b, off, cap, rfl, hle, hcap, hb, hcell⟩
  · omega
  · unfold maxLen at hcap
    go_enter Tryd.func44, Tryd.ntmps44
    go_wp2
    go_loop [9] (fun xi => ∃ k : Nat, k ≤ j ∧ xi = .int .i64 k) (fun i => j - (intOf i).toNat)
    case atStart => exact ⟨0, by omega, rfl⟩
    case round =>
      obtain ⟨k, hk, rfl⟩ := hrel
      by_cases hlt : k < j
      · have hck := hcell k (by omega)
        have hnk := hn k hlt
        clear hcell hn hf
        generalize F k = x at *
        generalize hX : nk x = X at *
        go_wp2_with (first
          | (go_at_call 42; refine (node_is _ (by assumption) _ (by assumption)).mono ?_; rw [hX]; rintro e w1 ⟨rfl, rfl⟩))
        go_round
        case rel => exact ⟨k + 1, by omega, by go_num⟩
        case measure => simp [intOf]; omega
      · obtain rfl : k = j := by omega
        have hck := hcell k (by omega)
        clear hcell hn
        generalize F k = x at *
        go_wp2_with (first
          | (go_at_call 42; refine (node_no _ (by assumption) _).mono ?_; rintro e w1 ⟨rfl, rfl⟩))
        go_ret
        exact ⟨rfl, rfl⟩
end Go.Proofs.YtgglnhnokhpnpaaDoor
