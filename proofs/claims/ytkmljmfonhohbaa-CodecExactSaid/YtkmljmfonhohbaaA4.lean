/- Walks of codec.Put. -/
import Derived.Test.YtkmljmfonhohbaaA3
namespace Go.Proofs.Ytkmljmfonhohbaa
open Go.RowKit

/-- The bytes with the number's behind. -/
def putF (F : Nat → Int) (m S : Nat) (n : Int) (i : Nat) : Int := if i < m then F i else n / 2 ^ (8 * (S - 1 - (i - m))) % 256
theorem putF_ahead (F : Nat → Int) (m S : Nat) (n : Int) (i : Nat) (h : i < m) : putF F m S n i = F i := by unfold putF; rw [if_pos h]

theorem put_size (v : Value) (s n : Int) (hs : ¬ IsZ s) (w : World) :
    Calls Try.prog 9 #[v, .int .i64 s, .int .i64 n] w fun e w' => e = .returned (.tuple #[.slice none 0 0, .int .i64 1]) ∧ w' = w := by
  have c := hide (isSize_f s hs)
  clear hs
  go_enter Try.func9, Try.ntmps9
  go_wp2_with (go_at_call 22; refine (unhide c _).mono ?_; rintro e w1 ⟨rfl, rfl⟩)
  go_ret2
  exact ⟨rfl, rfl⟩
theorem put_num (v : Value) (s n : Int) (hs : IsZ s) (hn : ¬ IsNum s n) (w : World) :
    Calls Try.prog 9 #[v, .int .i64 s, .int .i64 n] w fun e w' => e = .returned (.tuple #[.slice none 0 0, .int .i64 1]) ∧ w' = w := by
  have c := hide (isSize_t s hs)
  have c2 := hide (limit_is s hs)
  by_cases h0 : n < 0
  · clear hs hn
    go_enter Try.func9, Try.ntmps9
    go_wp2_with (go_at_call 22; refine (unhide c _).mono ?_; rintro e w1 ⟨rfl, rfl⟩)
    go_ret2
    exact ⟨rfl, rfl⟩
  · have h1 : lim s ≤ n := by have : ¬ n < lim s := fun q => hn ⟨by omega, q⟩; omega
    have h2 := decide_eq_true h1
    have h3 := decide_eq_false h0
    clear hs hn
    generalize lim s = L at *
    go_enter Try.func9, Try.ntmps9
    go_wp2_with (first
      | (go_at_call 22; refine (unhide c _).mono ?_; rintro e w1 ⟨rfl, rfl⟩)
      | (go_at_call 23; refine (unhide c2 _).mono ?_; rintro e w1 ⟨rfl, rfl⟩))
    go_ret2
    exact ⟨rfl, rfl⟩

set_option maxRecDepth 100000 in
theorem put_is (F : Nat → Int) (v : Value) (m S : Nat) (n : Int) (hs : IsZ S) (hn : IsNum S n) (w : World) (hv : Sl .u8 w v m F) (hm : m ≤ 100000) :
    Calls Try.prog 9 #[v, .int .i64 (S : Int), .int .i64 n] w fun e w' => ∃ v', e = .returned (.tuple #[v', .int .i64 0]) ∧ w'.ownsRow w.heap.size 5 1 v' (m + S) (vL .u8 (putF F m S n) (m + S)) ∧ Below w.heap.size w w' := by
  obtain ⟨i, hi, hz0, hz1, hz2⟩ := info_parts info5
  have c := hide (isSize_t S hs)
  have c2 := hide (limit_is S hs)
  have c3 := hide (copied_any F v m S)
  have HV := hide hv
  obtain ⟨h0, h1⟩ := hn
  have g0 := decide_eq_false (Int.not_lt.2 h0)
  have g1 := decide_eq_false (Int.not_le.2 h1)
  have hS : 1 ≤ S ∧ S ≤ 8 := by rcases hs with h | h | h | h <;> omega
  have hE : vL .u8 (putF F m S n) m = vL .u8 F m := vL_congr fun j hj => putF_ahead F m S n j hj
  have HE := hide hE
  clear hs hv hE
  generalize lim S = L at *
  go_enter Try.func9, Try.ntmps9
  go_wp2_with (first
      | (go_at_call 22; refine (unhide c _).mono ?_; rintro e w1 ⟨rfl, hw⟩; obtain rfl := hw.symm)
      | (go_at_call 23; refine (unhide c2 _).mono ?_; rintro e w1 ⟨rfl, hw⟩; obtain rfl := hw.symm)
      | (go_at_call 24; refine (unhide c3 _ (unhide HV) (by omega) (by omega)).mono ?_; rintro e w1 ⟨rfl, hown, hbel⟩))
  go_loopw [8, 9] (fun xo xs w2 => ∃ k : Nat, k ≤ S ∧ xs = .int .i64 (8 * ((S : Int) - 1 - k)) ∧ xo = .slice (some ⟨w.heap.size, 0, none⟩) (m + k) (m + S) ∧ w2.ownsRow w.heap.size 5 1 xo (m + k) (vL .u8 (putF F m S n) (m + k)) ∧ Below w.heap.size w w2) (fun _ s _ => (intOf s + 8).toNat)
  case atStart =>
    refine ⟨0, by omega, ?_, rfl, ?_, hbel⟩
    · simp
    · rw [Nat.add_zero, unhide HE]; exact hown
  case round =>
    clear hown hbel
    obtain ⟨k, hk, rfl, rfl, hown, hbel⟩ := hrel
    by_cases hlt : k < S
    · have d1 : decide (0 ≤ 8 * ((S : Int) - 1 - k)) = true := decide_eq_true (by omega)
      have e2 : min (8 * ((S : Int) - 1 - k)).toNat 64 = 8 * (S - 1 - k) := by omega
      have hnew : vL .u8 (putF F m S n) (m + k) ++ [.int .u8 (n / 2 ^ (8 * (S - 1 - k)) % 256)] = vL .u8 (putF F m S n) (m + (k + 1)) := by
        rw [← Nat.add_assoc, vL_succ]
        unfold putF
        rw [if_neg (by omega), Nat.add_sub_cancel_left]
      have HN := hide hnew
      clear hnew
      go_wp2_with (at_builtin; refine wpList_append_fits _ rfl (.tmp 33) (.tmp 38) 22 rfl w.heap.size 5 i 1 Try.underlying22 hi hz1 w.heap.size (m + k) (m + S) (vL .u8 (putF F m S n) (m + k)) rfl (hown.alloc _) ⟨wr.heap.size, 0, none⟩ 1 1 [.int .u8 (n / 2 ^ (8 * (S - 1 - k)) % 256)] rfl rfl ?_ ?_ (by omega) ?_)
      · exact cells_lit wr [.int .u8 (n / 2 ^ (8 * (S - 1 - k)) % 256)] 5
      · intro u hu
        simp at hu
        subst hu
        rfl
      · intro w2 hown2 hgrow2
        rw [unhide HN] at hown2
        go_wp2
        go_roundw
        case rel => exact ⟨k + 1, by omega, by go_num, rfl, hown2, (hbel.alloc hbel.size _).grown hgrow2 (by simp; have := hbel.size; omega) (by intro k h; cases h; exact Nat.le_refl _)⟩
        case measure => simp [intOf]; omega
    · obtain rfl : S = k := by omega
      have d1 : decide (0 ≤ 8 * ((S : Int) - 1 - S)) = false := decide_eq_false (by omega)
      go_wp2
      go_ret2
      exact ⟨_, rfl, hown, hbel⟩
end Go.Proofs.Ytkmljmfonhohbaa
