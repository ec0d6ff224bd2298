/- Walk of bellwetherlaw12.PathExact, put together. -/
import Derived.Test.YtmdkaomjjglfjaaDoorX1
import Derived.Test.YtmdkaomjjglfjaaDoorX2
import Derived.Test.YtmdkaomjjglfjaaDoorX3
import Derived.Test.YtmdkaomjjglfjaaDoorX4
namespace Go.Proofs.YtmdkaomjjglfjaaDoor
open Go.RowKit

set_option maxHeartbeats 1000000 in
theorem exact_l (t s d : Int) (L : List Int) (M : List (List Int)) (v2 v4 : Value) (w : World) (hI : IL w v2 L) (hM : LL w v4 M) (hl : 30 < L.length) :
    Calls Tryd.prog 3 #[.int .i64 t, .int .i64 s, v2, .int .i64 d, v4] w fun e w' => e = .returned (.bool true) ∧ Below w.heap.size w w' := by
  obtain ⟨p2, k2, rfl⟩ := il_form hI
  obtain ⟨p4, k4, rfl⟩ := ll_form hM
  clear hI hM
  generalize L.length = n at *
  have b1 : decide (30 < n) = true := decide_eq_true hl
  generalize M.length = m at *
  go_enter Tryd.func3, Tryd.ntmps3
  go_wp2
  go_ret
  exact ⟨rfl, Below.refl _ _⟩
set_option maxHeartbeats 1000000 in
theorem exact_m (t s d : Int) (L : List Int) (M : List (List Int)) (v2 v4 : Value) (w : World) (hI : IL w v2 L) (hM : LL w v4 M) (hl : L.length ≤ 30) (hm : 20 < M.length) :
    Calls Tryd.prog 3 #[.int .i64 t, .int .i64 s, v2, .int .i64 d, v4] w fun e w' => e = .returned (.bool true) ∧ Below w.heap.size w w' := by
  obtain ⟨p2, k2, rfl⟩ := il_form hI
  obtain ⟨p4, k4, rfl⟩ := ll_form hM
  clear hI hM
  generalize L.length = n at *
  generalize M.length = m at *
  have b1 : decide (30 < n) = false := decide_eq_false (by omega)
  have b2 : decide (20 < m) = true := decide_eq_true hm
  go_enter Tryd.func3, Tryd.ntmps3
  go_wp2
  go_ret
  exact ⟨rfl, Below.refl _ _⟩
set_option maxHeartbeats 1000000 in
theorem exact_far (t s d : Int) (L : List Int) (M : List (List Int)) (v2 v4 : Value) (w : World) (hI : IL w v2 L) (hM : LL w v4 M) (hl : L.length ≤ 30) (hm0 : M.length ≤ 20) (hx : ¬ ∀ k, k < M.length → (zL M k).length ≤ 20) :
    Calls Tryd.prog 3 #[.int .i64 t, .int .i64 s, v2, .int .i64 d, v4] w fun e w' => e = .returned (.bool true) ∧ Below w.heap.size w w' := by
  have HM := hide hM
  obtain ⟨m, hm⟩ : ∃ m, M.length = m := ⟨_, rfl⟩
  have HMM := hide (show m ≤ M.length by omega)
  obtain ⟨p2, k2, rfl⟩ := il_form hI
  obtain ⟨p4, k4, rfl⟩ := ll_form hM
  clear hI hM
  generalize L.length = n at *
  rw [hm] at HM hm0 hx ⊢
  have HX := hide hx
  clear hm hx
  have b1 : decide (30 < n) = false := decide_eq_false (by omega)
  have b2 : decide (20 < m) = false := decide_eq_false (by omega)
  go_enter Tryd.func3, Tryd.ntmps3
  go_wp2
  go_loop [11] (fun xi => ∃ k : Nat, k ≤ m ∧ xi = .int .i64 k ∧ Hid (∀ i, i < k → (zL M i).length ≤ 20)) (fun i => m - (intOf i).toNat)
  case atStart => exact ⟨0, by omega, rfl, hide (fun i hi => absurd hi (Nat.not_lt_zero _))⟩
  case round =>
    obtain ⟨k, hk, rfl, HK⟩ := hrel
    by_cases hlt : k < m
    · obtain ⟨b, off, q1, c1, rfl, hle, hc, hb, hck, -⟩ := ll_cell (unhide HM) hlt (unhide HMM)
      by_cases h20 : (zL M k).length ≤ 20
      · have HK2 : Hid (∀ i, i < k + 1 → (zL M i).length ≤ 20) := hide fun i hi => by
          by_cases e : i = k
          · subst e; exact h20
          · exact unhide HK i (by omega)
        have b3 : decide (20 < (zL M k).length) = false := decide_eq_false (by omega)
        generalize (zL M k).length = p at *
        go_wp2
        go_round
        case rel => exact ⟨k + 1, by omega, by go_num, HK2⟩
        case measure => simp [intOf]; omega
      · have b3 : decide (20 < (zL M k).length) = true := decide_eq_true (by omega)
        have b4 : 20 < (zL M k).length := by omega
        clear h20
        generalize (zL M k).length = p at *
        go_wp2
        go_ret
        exact ⟨rfl, Below.refl _ _⟩
    · exact absurd (fun i hi => unhide HK i (by omega)) (unhide HX)
theorem exact_any (t s d : Int) (L : List Int) (M : List (List Int)) (v2 v4 : Value) (w : World) (hG : Glob w) (hI : IL w v2 L) (hM : LL w v4 M) :
    Calls Tryd.prog 3 #[.int .i64 t, .int .i64 s, v2, .int .i64 d, v4] w fun e w' => e = .returned (.bool true) ∧ Below w.heap.size w w' := by
  by_cases hl : L.length ≤ 30
  · by_cases hm0 : M.length ≤ 20
    · by_cases hx : ∀ k, k < M.length → (zL M k).length ≤ 20
      · by_cases hto : IsT t
        · by_cases hno : IsN s
          · by_cases hP : pth t s L 8 = 0
            · have h8 : L.length ≤ 8 := by
                unfold pth at hP
                split at hP
                · cases hP
                · split at hP
                  · cases hP
                  · omega
              by_cases h9 : L.length = 8
              · by_cases hd : d < 1
                · exact exact_21 t s d L M v2 v4 w hG hI hM hl hm0 hx hto hno hP h9 hd
                · by_cases hd2 : 8 < d
                  · exact exact_22 t s d L M v2 v4 w hG hI hM hl hm0 hx hto hno hP h9 hd2
                  · exact exact_23 t s d L M v2 v4 w hG hI hM hl hm0 hx hto hno hP h9 (by omega) (by omega)
              · by_cases hd : d < 1
                · exact exact_31 t s d L M v2 v4 w hG hI hM hl hm0 hx hto hno hP (by omega) hd
                · by_cases hd2 : 8 < d
                  · exact exact_32 t s d L M v2 v4 w hG hI hM hl hm0 hx hto hno hP (by omega) hd2
                  · exact exact_33 t s d L M v2 v4 w hG hI hM hl hm0 hx hto hno hP (by omega) (by omega) (by omega)
            · by_cases hd : d < 1
              · exact exact_11 t s d L M v2 v4 w hG hI hM hl hm0 hx hto hno hP hd
              · by_cases hd2 : 8 < d
                · exact exact_12 t s d L M v2 v4 w hG hI hM hl hm0 hx hto hno hP hd2
                · exact exact_13 t s d L M v2 v4 w hG hI hM hl hm0 hx hto hno hP (by omega) (by omega)
          · exact exact_n t s d L M v2 v4 w hG hI hM hl hm0 hx hto hno
        · exact exact_t t s d L M v2 v4 w hG hI hM hl hm0 hx hto
      · exact exact_far t s d L M v2 v4 w hI hM hl hm0 hx
    · exact exact_m t s d L M v2 v4 w hI hM hl (by omega)
  · exact exact_l t s d L M v2 v4 w hI hM (by omega)
end Go.Proofs.YtmdkaomjjglfjaaDoor
