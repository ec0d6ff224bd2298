/- Walks of key.Between and of bellwetherlaw03.RingGaps. -/
import Derived.Test.YteldgklcfemenaaDoorB1
namespace Go.Proofs.YteldgklcfemenaaDoor
open Go.RowKit

theorem behind_gp (t n : Int) (ht : IsT t) (hn : IsN n) (w : World) :
    Calls Tryd.prog 22 #[.int .i64 (tk t), .int .i64 (nk n)] w fun e w' => e = .returned (.tuple #[.int .i64 (gp t n), .int .i64 0]) ∧ w' = w :=
  behind_is _ _ (tk_key t ht) (nk_key n hn) w
theorem gp_pos_nat : ∀ t, t < 4 → ∀ a, a < 8 → 0 < gp (t : Nat) (a : Nat) := by decide +kernel
theorem gp_pos {t a : Int} (ht : IsT t) (ha : IsN a) : 0 < gp t a := by
  obtain ⟨t1, t2⟩ := ht
  obtain ⟨a1, a2⟩ := ha
  obtain ⟨t, rfl⟩ := Int.eq_ofNat_of_zero_le t1
  obtain ⟨a, rfl⟩ := Int.eq_ofNat_of_zero_le a1
  exact gp_pos_nat t (by omega) a (by omega)
theorem between_f (t n o : Int) (ht : IsT t) (hn : IsN n) (ho : IsN o) (h : gp t o < gp t n) (w : World) :
    Calls Tryd.prog 23 #[.int .i64 (tk t), .int .i64 (nk n), .int .i64 (nk o)] w fun e w' => e = .returned (.bool false) ∧ w' = w := by
  have hp := gp_pos ht ho
  have hp2 := gp_pos ht hn
  have c1 := behind_gp t n ht hn
  have c2 := behind_gp t o ht ho
  generalize gp t o = x at *
  generalize gp t n = y at *
  generalize tk t = k at *
  generalize nk n = p at *
  generalize nk o = q at *
  have hxz : (x == 0) = false := beq_false_of_ne (by omega)
  have hle : decide (y ≤ x) = false := decide_eq_false (by omega)
  have m1 := trivial
  go_enter Tryd.func23, Tryd.ntmps23
  go_wp2_with (first
    | (clear m1; go_at_call 22; refine (c1 _).mono ?_; rintro e w1 ⟨rfl, rfl⟩)
    | (go_at_call 22; refine (c2 _).mono ?_; rintro e w1 ⟨rfl, rfl⟩))
  go_ret
  exact ⟨by rw [← hle]; rfl, rfl⟩

/-- The eight nodes. -/
def F8 (i : Nat) : Int := [0, 1, 2, 3, 4, 5, 6, 7].getD i 0
theorem F8_node : NodesTo F8 8 := by
  intro i hi
  match i, hi with
  | 0, _ | 1, _ | 2, _ | 3, _ | 4, _ | 5, _ | 6, _ | 7, _ => decide
theorem F8_of (n : Int) (h : IsN n) : ∃ i, i ≤ 7 ∧ F8 i = n := by
  obtain ⟨h1, h2⟩ := h
  obtain ⟨m, rfl⟩ := Int.eq_ofNat_of_zero_le h1
  refine ⟨m, by omega, ?_⟩
  match m, h2 with
  | 0, _ | 1, _ | 2, _ | 3, _ | 4, _ | 5, _ | 6, _ | 7, _ => rfl
theorem owner8 (t : Int) (ht : IsT t) (w : World) (hG : Glob w) :
    Calls Tryd.prog 11 #[.int .i64 t, .slice (some ⟨w.heap.size, 0, none⟩) 8 8] (w.alloc (.cells #[.int .i64 0, .int .i64 1, .int .i64 2, .int .i64 3, .int .i64 4, .int .i64 5, .int .i64 6, .int .i64 7] 3)) fun e w' => e = .returned (.tuple #[.int .i64 (own t F8 7), .int .i64 0]) ∧ w' = w.alloc (.cells #[.int .i64 0, .int .i64 1, .int .i64 2, .int .i64 3, .int .i64 4, .int .i64 5, .int .i64 6, .int .i64 7] 3) :=
  owner_is t _ 7 F8 ht _ (hG.alloc _) (isl_lit w [0, 1, 2, 3, 4, 5, 6, 7] 3 8 rfl (by unfold maxLen; omega)) F8_node

set_option maxHeartbeats 4000000 in
theorem gapslaw_any (t a b : Int) (w : World) (hG : Glob w) :
    Calls Tryd.prog 6 #[.int .i64 t, .int .i64 a, .int .i64 b] w fun e w' => e = .returned (.bool true) ∧ Below w.heap.size w w' := by
  obtain ⟨T, hT, kT⟩ : ∃ T, wrap64 ((IntKind.u64.wrap t).tmod 4) = T ∧ IsT T := ⟨_, mod4 t, mod4_topic t⟩
  obtain ⟨A, hA, kA⟩ : ∃ T, wrap64 ((IntKind.u64.wrap a).tmod 8) = T ∧ IsN T := ⟨_, mod8 a, mod8_node a⟩
  obtain ⟨B, hB, kB⟩ : ∃ T, wrap64 ((IntKind.u64.wrap b).tmod 8) = T ∧ IsN T := ⟨_, mod8 b, mod8_node b⟩
  obtain ⟨O, hO⟩ : ∃ O, own T F8 7 = O := ⟨_, rfl⟩
  have kO : IsN O := hO ▸ own_node F8_node (by omega)
  have hleast : ∀ n, IsN n → n ≠ O → gp T O < gp T n := by
    intro n hn hne
    obtain ⟨i, hi, e⟩ := F8_of n hn
    have h1 := own_least T F8 7 i hi
    rw [e, hO] at h1
    have h2 : gp T O ≠ gp T n := fun q => hne (gp_inj kT hn kO q.symm)
    omega
  have HL := hide hleast
  have gA := hide (gap_is T A kT kA)
  have gB := hide (gap_is T B kT kB)
  have bA := hide (behind_gp T A kT kA)
  have nA := hide (node_is A kA)
  have nB := hide (node_is B kB)
  have nO := hide (node_is O kO)
  have tT := hide (topic_is T kT)
  have oT' := owner8 T kT
  rw [hO] at oT'
  have oT := hide oT'
  clear oT'
  have nAB := hide (nearer_any T A B kT kA kB)
  have g1 := hG.alloc (.cells #[.int .i64 0, .int .i64 1, .int .i64 2, .int .i64 3, .int .i64 4, .int .i64 5, .int .i64 6, .int .i64 7] 3)
  have cA : A ≠ O → Hid (∀ w, Calls Tryd.prog 23 #[.int .i64 (tk T), .int .i64 (nk A), .int .i64 (nk O)] w fun e w' => e = .returned (.bool false) ∧ w' = w) := fun h => hide (between_f T A O kT kA kO (hleast A kA h))
  have cB : B ≠ O → Hid (∀ w, Calls Tryd.prog 23 #[.int .i64 (tk T), .int .i64 (nk B), .int .i64 (nk O)] w fun e w' => e = .returned (.bool false) ∧ w' = w) := fun h => hide (between_f T B O kT kB kO (hleast B kB h))
  clear hO hleast HL kO kA kB kT
  generalize gp T A = x at *
  generalize gp T B = y at *
  generalize tk T = k at *
  generalize nk A = p at *
  generalize nk B = q at *
  generalize nk O = r at *
  have g2 := hide g1
  have g0 := hide hG
  have m1 := trivial
  have m2 := trivial
  have m3 := trivial
  have m4 := trivial
  have c1 : Hid (A ≠ O) ∨ A = O := by by_cases h : A = O; exact .inr h; exact .inl h
  have c2 : Hid (B ≠ O) ∨ B = O := by by_cases h : B = O; exact .inr h; exact .inl h
  rcases c1 with hAO | hAO
  all_goals
    rcases c2 with hBO | hBO
  all_goals try have hA1 := cA (unhide hAO)
  all_goals try have hB1 := cB (unhide hBO)
  all_goals try have hA0 : (A == O) = false := beq_false_of_ne (unhide hAO)
  all_goals try have hB0 : (B == O) = false := beq_false_of_ne (unhide hBO)
  all_goals clear cA cB
  all_goals try subst hAO
  all_goals try subst hBO
  all_goals
    go_enter Tryd.func6, Tryd.ntmps6
    go_wp2_with (first
      | (clear m1; go_at_call 10; refine (unhide gA _ hG).mono ?_; rintro e w1 ⟨rfl, rfl⟩)
      | (go_at_call 10; refine (unhide gB _ hG).mono ?_; rintro e w1 ⟨rfl, rfl⟩)
      | (go_at_call 9; refine (unhide tT _ hG).mono ?_; rintro e w1 ⟨rfl, rfl⟩)
      | (clear m2; go_at_call 8; refine (unhide nA _ hG).mono ?_; rintro e w1 ⟨rfl, rfl⟩)
      | (clear m3; go_at_call 8; refine (unhide nB _ hG).mono ?_; rintro e w1 ⟨rfl, rfl⟩)
      | (go_at_call 22; refine (unhide bA _).mono ?_; rintro e w1 ⟨rfl, rfl⟩)
      | (go_at_call 11; refine (unhide oT _ hG).mono ?_; rintro e w2 ⟨rfl, rfl⟩)
      | (go_at_call 8; refine (unhide nO _ g1).mono ?_; rintro e w2 ⟨rfl, rfl⟩)
      | (go_at_call 12; refine (unhide nAB _ g1).mono ?_; rintro e w2 ⟨rfl, rfl⟩)
      | (clear m4; go_at_call 23; refine (unhide hA1 _).mono ?_; rintro e w2 ⟨rfl, rfl⟩)
      | (go_at_call 23; refine (unhide hB1 _).mono ?_; rintro e w2 ⟨rfl, rfl⟩)
      | (go_at_call 17; refine (wakes_any _ (by assumption)).mono ?_; rintro e w3 ⟨rfl, hb3⟩))
    go_ret
    exact ⟨rfl, ((Below.refl _ _).alloc (Nat.le_refl _) _).trans (hb3.mono (by simp))⟩
end Go.Proofs.YteldgklcfemenaaDoor
