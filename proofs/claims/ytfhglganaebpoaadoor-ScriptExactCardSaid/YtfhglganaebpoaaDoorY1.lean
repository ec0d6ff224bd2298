/- Walks of the page's In, Config, Step; of Twin. -/
import Derived.Test.YtfhglganaebpoaaDoorE9
namespace Go.Proofs.YtfhglganaebpoaaDoor
open Go.RowKit

theorem in_any (n lo hi : Int) (w : World) : Calls Tryd.prog 16 #[.int .i64 n, .int .i64 lo, .int .i64 hi] w fun ev w' => ev = .returned (.bool (inB n lo hi)) ∧ w' = w := by
  by_cases h1 : lo ≤ n
  · by_cases h2 : n ≤ hi
    · rw [inB_true ⟨h1, h2⟩]
      have e2 : decide (n ≤ hi) = true := decide_eq_true h2
      have e1 : decide (n ≥ lo) = true := decide_eq_true h1
      clear h1 h2
      go_enter Tryd.func16, Tryd.ntmps16
      go_wp2
      go_ret
      exact ⟨rfl, rfl⟩
    · rw [inB_false fun q => h2 q.2]
      have e2 : decide (n ≤ hi) = false := decide_eq_false h2
      have e1 : decide (n ≥ lo) = true := decide_eq_true h1
      clear h1 h2
      go_enter Tryd.func16, Tryd.ntmps16
      go_wp2
      go_ret
      exact ⟨rfl, rfl⟩
  · rw [inB_false fun q => h1 q.1]
    have e1 : decide (n ≥ lo) = false := decide_eq_false h1
    clear h1
    go_enter Tryd.func16, Tryd.ntmps16
    go_wp2
    go_ret
    exact ⟨rfl, rfl⟩
theorem in_is {n lo hi : Int} {b : Bool} (h : inB n lo hi = b) (w : World) : Calls Tryd.prog 16 #[.int .i64 n, .int .i64 lo, .int .i64 hi] w fun ev w' => ev = .returned (.bool b) ∧ w' = w := h ▸ in_any n lo hi w
set_option maxRecDepth 100000 in
theorem rconf_0 (f0 f1 f2 f3 f4 f5 f6 : Int) (w : World) (h0 : inB f0 1 8 = false) : Calls Tryd.prog 12 #[cV ⟨f0, f1, f2, f3, f4, f5, f6⟩] w fun ev w' => ev = .returned (.bool false) ∧ Below w.heap.size w w' := by
  have I0 := hide h0
  unfold cV
  dsimp only
  clear h0
  go_enter Tryd.func12, Tryd.ntmps12
  go_wp2_with (first
    | (go_at_call 16; (with_reducible refine (in_is (unhide I0) _).mono ?_); rintro ev w9 ⟨rfl, hw⟩; obtain rfl := hw.symm))
  go_ret
  exact ⟨rfl, below_alloc (Below.refl _ _) _⟩
set_option maxRecDepth 100000 in
theorem rconf_1 (f0 f1 f2 f3 f4 f5 f6 : Int) (w : World) (h0 : inB f0 1 8 = true) (h1 : inB f1 1 4 = false) : Calls Tryd.prog 12 #[cV ⟨f0, f1, f2, f3, f4, f5, f6⟩] w fun ev w' => ev = .returned (.bool false) ∧ Below w.heap.size w w' := by
  have I0 := hide h0
  have I1 := hide h1
  unfold cV
  dsimp only
  clear h0 h1
  go_enter Tryd.func12, Tryd.ntmps12
  go_wp2_with (first
    | (go_at_call 16; (with_reducible refine (in_is (unhide I0) _).mono ?_); rintro ev w9 ⟨rfl, hw⟩; obtain rfl := hw.symm)
    | (go_at_call 16; (with_reducible refine (in_is (unhide I1) _).mono ?_); rintro ev w9 ⟨rfl, hw⟩; obtain rfl := hw.symm))
  go_ret
  exact ⟨rfl, below_alloc (Below.refl _ _) _⟩
set_option maxRecDepth 100000 in
theorem rconf_2 (f0 f1 f2 f3 f4 f5 f6 : Int) (w : World) (h0 : inB f0 1 8 = true) (h1 : inB f1 1 4 = true) (h2 : inB f2 1 4 = false) : Calls Tryd.prog 12 #[cV ⟨f0, f1, f2, f3, f4, f5, f6⟩] w fun ev w' => ev = .returned (.bool false) ∧ Below w.heap.size w w' := by
  have I0 := hide h0
  have I1 := hide h1
  have I2 := hide h2
  unfold cV
  dsimp only
  clear h0 h1 h2
  go_enter Tryd.func12, Tryd.ntmps12
  go_wp2_with (first
    | (go_at_call 16; (with_reducible refine (in_is (unhide I0) _).mono ?_); rintro ev w9 ⟨rfl, hw⟩; obtain rfl := hw.symm)
    | (go_at_call 16; (with_reducible refine (in_is (unhide I1) _).mono ?_); rintro ev w9 ⟨rfl, hw⟩; obtain rfl := hw.symm)
    | (go_at_call 16; (with_reducible refine (in_is (unhide I2) _).mono ?_); rintro ev w9 ⟨rfl, hw⟩; obtain rfl := hw.symm))
  go_ret
  exact ⟨rfl, below_alloc (Below.refl _ _) _⟩
set_option maxRecDepth 100000 in
theorem rconf_3 (f0 f1 f2 f3 f4 f5 f6 : Int) (w : World) (h0 : inB f0 1 8 = true) (h1 : inB f1 1 4 = true) (h2 : inB f2 1 4 = true) (h3 : inB f3 1 8 = false) : Calls Tryd.prog 12 #[cV ⟨f0, f1, f2, f3, f4, f5, f6⟩] w fun ev w' => ev = .returned (.bool false) ∧ Below w.heap.size w w' := by
  have I0 := hide h0
  have I1 := hide h1
  have I2 := hide h2
  have I3 := hide h3
  unfold cV
  dsimp only
  clear h0 h1 h2 h3
  go_enter Tryd.func12, Tryd.ntmps12
  go_wp2_with (first
    | (go_at_call 16; (with_reducible refine (in_is (unhide I0) _).mono ?_); rintro ev w9 ⟨rfl, hw⟩; obtain rfl := hw.symm)
    | (go_at_call 16; (with_reducible refine (in_is (unhide I1) _).mono ?_); rintro ev w9 ⟨rfl, hw⟩; obtain rfl := hw.symm)
    | (go_at_call 16; (with_reducible refine (in_is (unhide I2) _).mono ?_); rintro ev w9 ⟨rfl, hw⟩; obtain rfl := hw.symm)
    | (go_at_call 16; (with_reducible refine (in_is (unhide I3) _).mono ?_); rintro ev w9 ⟨rfl, hw⟩; obtain rfl := hw.symm))
  go_ret
  exact ⟨rfl, below_alloc (Below.refl _ _) _⟩
set_option maxRecDepth 100000 in
theorem rconf_4 (f0 f1 f2 f3 f4 f5 f6 : Int) (w : World) (h0 : inB f0 1 8 = true) (h1 : inB f1 1 4 = true) (h2 : inB f2 1 4 = true) (h3 : inB f3 1 8 = true) (h4 : inB f4 1 16 = false) : Calls Tryd.prog 12 #[cV ⟨f0, f1, f2, f3, f4, f5, f6⟩] w fun ev w' => ev = .returned (.bool false) ∧ Below w.heap.size w w' := by
  have I0 := hide h0
  have I1 := hide h1
  have I2 := hide h2
  have I3 := hide h3
  have I4 := hide h4
  unfold cV
  dsimp only
  clear h0 h1 h2 h3 h4
  go_enter Tryd.func12, Tryd.ntmps12
  go_wp2_with (first
    | (go_at_call 16; (with_reducible refine (in_is (unhide I0) _).mono ?_); rintro ev w9 ⟨rfl, hw⟩; obtain rfl := hw.symm)
    | (go_at_call 16; (with_reducible refine (in_is (unhide I1) _).mono ?_); rintro ev w9 ⟨rfl, hw⟩; obtain rfl := hw.symm)
    | (go_at_call 16; (with_reducible refine (in_is (unhide I2) _).mono ?_); rintro ev w9 ⟨rfl, hw⟩; obtain rfl := hw.symm)
    | (go_at_call 16; (with_reducible refine (in_is (unhide I3) _).mono ?_); rintro ev w9 ⟨rfl, hw⟩; obtain rfl := hw.symm)
    | (go_at_call 16; (with_reducible refine (in_is (unhide I4) _).mono ?_); rintro ev w9 ⟨rfl, hw⟩; obtain rfl := hw.symm))
  go_ret
  exact ⟨rfl, below_alloc (Below.refl _ _) _⟩
set_option maxRecDepth 100000 in
theorem rconf_5 (f0 f1 f2 f3 f4 f5 f6 : Int) (w : World) (h0 : inB f0 1 8 = true) (h1 : inB f1 1 4 = true) (h2 : inB f2 1 4 = true) (h3 : inB f3 1 8 = true) (h4 : inB f4 1 16 = true) (h5 : inB f5 1 16 = false) : Calls Tryd.prog 12 #[cV ⟨f0, f1, f2, f3, f4, f5, f6⟩] w fun ev w' => ev = .returned (.bool false) ∧ Below w.heap.size w w' := by
  have I0 := hide h0
  have I1 := hide h1
  have I2 := hide h2
  have I3 := hide h3
  have I4 := hide h4
  have I5 := hide h5
  unfold cV
  dsimp only
  clear h0 h1 h2 h3 h4 h5
  go_enter Tryd.func12, Tryd.ntmps12
  go_wp2_with (first
    | (go_at_call 16; (with_reducible refine (in_is (unhide I0) _).mono ?_); rintro ev w9 ⟨rfl, hw⟩; obtain rfl := hw.symm)
    | (go_at_call 16; (with_reducible refine (in_is (unhide I1) _).mono ?_); rintro ev w9 ⟨rfl, hw⟩; obtain rfl := hw.symm)
    | (go_at_call 16; (with_reducible refine (in_is (unhide I2) _).mono ?_); rintro ev w9 ⟨rfl, hw⟩; obtain rfl := hw.symm)
    | (go_at_call 16; (with_reducible refine (in_is (unhide I3) _).mono ?_); rintro ev w9 ⟨rfl, hw⟩; obtain rfl := hw.symm)
    | (go_at_call 16; (with_reducible refine (in_is (unhide I4) _).mono ?_); rintro ev w9 ⟨rfl, hw⟩; obtain rfl := hw.symm)
    | (go_at_call 16; (with_reducible refine (in_is (unhide I5) _).mono ?_); rintro ev w9 ⟨rfl, hw⟩; obtain rfl := hw.symm))
  go_ret
  exact ⟨rfl, below_alloc (Below.refl _ _) _⟩
set_option maxRecDepth 100000 in
theorem rconf_6 (f0 f1 f2 f3 f4 f5 f6 : Int) (w : World) (h0 : inB f0 1 8 = true) (h1 : inB f1 1 4 = true) (h2 : inB f2 1 4 = true) (h3 : inB f3 1 8 = true) (h4 : inB f4 1 16 = true) (h5 : inB f5 1 16 = true) (h6 : inB f6 2 32 = false) : Calls Tryd.prog 12 #[cV ⟨f0, f1, f2, f3, f4, f5, f6⟩] w fun ev w' => ev = .returned (.bool false) ∧ Below w.heap.size w w' := by
  have I0 := hide h0
  have I1 := hide h1
  have I2 := hide h2
  have I3 := hide h3
  have I4 := hide h4
  have I5 := hide h5
  have I6 := hide h6
  unfold cV
  dsimp only
  clear h0 h1 h2 h3 h4 h5 h6
  go_enter Tryd.func12, Tryd.ntmps12
  go_wp2_with (first
    | (go_at_call 16; (with_reducible refine (in_is (unhide I0) _).mono ?_); rintro ev w9 ⟨rfl, hw⟩; obtain rfl := hw.symm)
    | (go_at_call 16; (with_reducible refine (in_is (unhide I1) _).mono ?_); rintro ev w9 ⟨rfl, hw⟩; obtain rfl := hw.symm)
    | (go_at_call 16; (with_reducible refine (in_is (unhide I2) _).mono ?_); rintro ev w9 ⟨rfl, hw⟩; obtain rfl := hw.symm)
    | (go_at_call 16; (with_reducible refine (in_is (unhide I3) _).mono ?_); rintro ev w9 ⟨rfl, hw⟩; obtain rfl := hw.symm)
    | (go_at_call 16; (with_reducible refine (in_is (unhide I4) _).mono ?_); rintro ev w9 ⟨rfl, hw⟩; obtain rfl := hw.symm)
    | (go_at_call 16; (with_reducible refine (in_is (unhide I5) _).mono ?_); rintro ev w9 ⟨rfl, hw⟩; obtain rfl := hw.symm)
    | (go_at_call 16; (with_reducible refine (in_is (unhide I6) _).mono ?_); rintro ev w9 ⟨rfl, hw⟩; obtain rfl := hw.symm))
  go_ret
  exact ⟨rfl, below_alloc (Below.refl _ _) _⟩
set_option maxRecDepth 100000 in
theorem rconf_7 (f0 f1 f2 f3 f4 f5 f6 : Int) (w : World) (h0 : inB f0 1 8 = true) (h1 : inB f1 1 4 = true) (h2 : inB f2 1 4 = true) (h3 : inB f3 1 8 = true) (h4 : inB f4 1 16 = true) (h5 : inB f5 1 16 = true) (h6 : inB f6 2 32 = true) : Calls Tryd.prog 12 #[cV ⟨f0, f1, f2, f3, f4, f5, f6⟩] w fun ev w' => ev = .returned (.bool true) ∧ Below w.heap.size w w' := by
  have I0 := hide h0
  have I1 := hide h1
  have I2 := hide h2
  have I3 := hide h3
  have I4 := hide h4
  have I5 := hide h5
  have I6 := hide h6
  unfold cV
  dsimp only
  clear h0 h1 h2 h3 h4 h5 h6
  go_enter Tryd.func12, Tryd.ntmps12
  go_wp2_with (first
    | (go_at_call 16; (with_reducible refine (in_is (unhide I0) _).mono ?_); rintro ev w9 ⟨rfl, hw⟩; obtain rfl := hw.symm)
    | (go_at_call 16; (with_reducible refine (in_is (unhide I1) _).mono ?_); rintro ev w9 ⟨rfl, hw⟩; obtain rfl := hw.symm)
    | (go_at_call 16; (with_reducible refine (in_is (unhide I2) _).mono ?_); rintro ev w9 ⟨rfl, hw⟩; obtain rfl := hw.symm)
    | (go_at_call 16; (with_reducible refine (in_is (unhide I3) _).mono ?_); rintro ev w9 ⟨rfl, hw⟩; obtain rfl := hw.symm)
    | (go_at_call 16; (with_reducible refine (in_is (unhide I4) _).mono ?_); rintro ev w9 ⟨rfl, hw⟩; obtain rfl := hw.symm)
    | (go_at_call 16; (with_reducible refine (in_is (unhide I5) _).mono ?_); rintro ev w9 ⟨rfl, hw⟩; obtain rfl := hw.symm)
    | (go_at_call 16; (with_reducible refine (in_is (unhide I6) _).mono ?_); rintro ev w9 ⟨rfl, hw⟩; obtain rfl := hw.symm))
  go_ret
  exact ⟨rfl, below_alloc (Below.refl _ _) _⟩
theorem rconf_any (c : Cf) (w : World) : Calls Tryd.prog 12 #[cV c] w fun ev w' => ev = .returned (.bool (cfB c)) ∧ Below w.heap.size w w' := by
  obtain ⟨f0, f1, f2, f3, f4, f5, f6⟩ := c
  cases h0 : inB f0 1 8 with
  | false => rw [show cfB ⟨f0, f1, f2, f3, f4, f5, f6⟩ = false by simp [cfB, h0]]; exact rconf_0 _ _ _ _ _ _ _ w h0
  | true =>
    cases h1 : inB f1 1 4 with
    | false => rw [show cfB ⟨f0, f1, f2, f3, f4, f5, f6⟩ = false by simp [cfB, h0, h1]]; exact rconf_1 _ _ _ _ _ _ _ w h0 h1
    | true =>
      cases h2 : inB f2 1 4 with
      | false => rw [show cfB ⟨f0, f1, f2, f3, f4, f5, f6⟩ = false by simp [cfB, h0, h1, h2]]; exact rconf_2 _ _ _ _ _ _ _ w h0 h1 h2
      | true =>
        cases h3 : inB f3 1 8 with
        | false => rw [show cfB ⟨f0, f1, f2, f3, f4, f5, f6⟩ = false by simp [cfB, h0, h1, h2, h3]]; exact rconf_3 _ _ _ _ _ _ _ w h0 h1 h2 h3
        | true =>
          cases h4 : inB f4 1 16 with
          | false => rw [show cfB ⟨f0, f1, f2, f3, f4, f5, f6⟩ = false by simp [cfB, h0, h1, h2, h3, h4]]; exact rconf_4 _ _ _ _ _ _ _ w h0 h1 h2 h3 h4
          | true =>
            cases h5 : inB f5 1 16 with
            | false => rw [show cfB ⟨f0, f1, f2, f3, f4, f5, f6⟩ = false by simp [cfB, h0, h1, h2, h3, h4, h5]]; exact rconf_5 _ _ _ _ _ _ _ w h0 h1 h2 h3 h4 h5
            | true =>
              cases h6 : inB f6 2 32 with
              | false => rw [show cfB ⟨f0, f1, f2, f3, f4, f5, f6⟩ = false by simp [cfB, h0, h1, h2, h3, h4, h5, h6]]; exact rconf_6 _ _ _ _ _ _ _ w h0 h1 h2 h3 h4 h5 h6
              | true =>
                rw [show cfB ⟨f0, f1, f2, f3, f4, f5, f6⟩ = true by simp [cfB, h0, h1, h2, h3, h4, h5, h6]]
                exact rconf_7 _ _ _ _ _ _ _ w h0 h1 h2 h3 h4 h5 h6
end Go.Proofs.YtfhglganaebpoaaDoor
