/- Walks of codec.GetList. -/
import Derived.Test.YtkmljmfonhohbaaA6
namespace Go.Proofs.Ytkmljmfonhohbaa
open Go.RowKit

theorem getl_at (p : Option Addr) (m cap : Nat) (a : Int) (hm : m ≤ maxLen) (hh : ¬ Here m a 1) (w : World) :
    Calls Try.prog 12 #[.slice p m cap, .int .i64 a] w fun e w' => e = .returned (.tuple #[.slice none 0 0, .int .i64 0, .int .i64 2]) ∧ Below w.heap.size w w' := by
  have c2 := hide (fits_any p m cap a 1 hm (by omega) (by omega))
  rw [decide_eq_false hh] at c2
  clear hh
  go_enter Try.func12, Try.ntmps12
  go_wp2_with (go_at_call 25; refine (unhide c2 _).mono ?_; rintro e w1 ⟨rfl, hw⟩; obtain rfl := hw.symm)
  go_ret3
  exact ⟨rfl, Below.refl _ _⟩
set_option maxRecDepth 100000 in
theorem getl_cut (F : Nat → Int) (v : Value) (m a : Nat) (w : World) (hv : Sl .u8 w v m F) (hf : ∀ i, i < m → 0 ≤ F i ∧ F i < 256) (ha : a < m) (hm : m ≤ 1000000) (hh : ¬ Here m ((a : Int) + 1) (F a)) :
    Calls Try.prog 12 #[v, .int .i64 (a : Int)] w fun e w' => e = .returned (.tuple #[.slice none 0 0, .int .i64 0, .int .i64 2]) ∧ Below w.heap.size w w' := by
  obtain ⟨p, cap, rfl, hc1, hc2⟩ := hv.shape
  have hb := hf a ha
  have c := hide (fits_any p m cap a 1 (by omega) (by omega) (by omega))
  rw [decide_eq_true (show Here m a 1 from ⟨by omega, by omega⟩)] at c
  have c2 := hide (fits_any p m cap ((a : Int) + 1) (F a) (by omega) hb.1 (by omega))
  rw [decide_eq_false hh] at c2
  obtain ⟨b, off, rfl, _, hcell⟩ := hv.some (by omega)
  have hck := hcell a ha
  unfold maxLen at hc2
  have m1 := trivial
  obtain ⟨hb0, hb1⟩ := hb
  clear hv hcell hf hh
  generalize F a = x at *
  go_enter Try.func12, Try.ntmps12
  go_wp2_with (clear m1; go_at_call 25; refine (unhide c _).mono ?_; rintro e w1 ⟨rfl, hw⟩; obtain rfl := hw.symm)
  go_quiet (fail)
  go_wp2_with (go_at_call 25; refine (unhide c2 _).mono ?_; rintro e w1 ⟨rfl, hw⟩; obtain rfl := hw.symm)
  go_ret3
  exact ⟨rfl, below_drewN (Below.refl _ _) _⟩
set_option maxRecDepth 100000 in
theorem getl_is (F : Nat → Int) (v : Value) (m a n : Nat) (w : World) (hv : Sl .u8 w v m F) (hf : ∀ i, i < m → 0 ≤ F i ∧ F i < 256) (ha : a < m) (hm : m ≤ 1000000) (hn : F a = n) (hh : a + 1 + n ≤ m) :
    Calls Try.prog 12 #[v, .int .i64 (a : Int)] w fun e w' => ∃ v', e = .returned (.tuple #[v', .int .i64 ((a : Int) + 1 + n), .int .i64 0]) ∧ w'.ownsRow w.heap.size 3 1 v' n (vL .i64 (fun i => F (a + 1 + i)) n) ∧ Below w.heap.size w w' := by
  obtain ⟨i, hi, hz0, hz1, hz2⟩ := info_parts info3
  obtain ⟨p, cap, rfl, hc1, hc2⟩ := hv.shape
  have hb := hf a ha
  rw [hn] at hb
  have c := hide (fits_any p m cap a 1 (by omega) (by omega) (by omega))
  rw [decide_eq_true (show Here m a 1 from ⟨by omega, by omega⟩)] at c
  have c2 := hide (fits_any p m cap ((a : Int) + 1) n (by omega) hb.1 (by omega))
  rw [decide_eq_true (show Here m ((a : Int) + 1) n from ⟨by omega, by omega⟩)] at c2
  obtain ⟨b, off, rfl, hbs, hcell⟩ := hv.some (by omega)
  have hck := hcell a ha
  rw [hn] at hck
  unfold maxLen at hc2
  have m1 := trivial
  have HC := hide hcell
  have HF := hide hf
  obtain ⟨hb0, hb1⟩ := hb
  have hsub : a + 1 + n - (a + 1) = n := by omega
  clear hv hcell hf hn
  go_enter Try.func12, Try.ntmps12
  go_wp2_with (clear m1; go_at_call 25; refine (unhide c _).mono ?_; rintro e w1 ⟨rfl, hw⟩; obtain rfl := hw.symm)
  go_quiet (fail)
  obtain ⟨wq, hwq⟩ : ∃ x, x = w.drewN nq := ⟨_, rfl⟩
  rw [← hwq]
  have hsz : wq.heap.size = w.heap.size := by rw [hwq]; rfl
  have hbq : Below w.heap.size w wq := by rw [hwq]; exact below_drewN (Below.refl _ _) _
  have HQ := hide hsz
  clear hwq hsz hck
  by_cases hca : cap = a + 1
  · obtain rfl : n = 0 := by omega
    subst hca
    go_wp2_with (first
      | (go_at_call 25; refine (unhide c2 _).mono ?_; rintro e w1 ⟨rfl, hw⟩; obtain rfl := hw.symm)
      | (at_make; refine wpList_make_own _ rfl _ _ 23 rfl w.heap.size 3 i (.int .i64 0) 1 Try.underlying23 hi hz0 hz1 .i64 .i64 0 0 rfl rfl rfl (by rw [hz2]; omega) (by unfold maxLen; omega) (by rw [unhide HQ]; exact Nat.le_refl _) ?_))
    intro w1 hown hgrow
    rw [unhide HQ] at hown
    have hbel : Below w.heap.size w w1 := hbq.grown hgrow (by rw [unhide HQ]; exact Nat.le_refl _) (by intro k h; cases h)
    rw [unhide HQ]
    clear hgrow hbq
    go_wp2
    go_loopw [4, 36] (fun xo xi w2 => xi = .int .i64 0 ∧ xo = .slice (some ⟨w.heap.size, 0, none⟩) 0 0 ∧ w2 = w1) (fun _ _ _ => 0)
    case atStart => exact ⟨rfl, rfl, rfl⟩
    case round =>
      obtain ⟨rfl, rfl, rfl⟩ := hrel
      go_wp2
      go_ret3
      exact ⟨_, rfl, hown, hbel⟩
  · go_wp2_with (first
      | (go_at_call 25; refine (unhide c2 _).mono ?_; rintro e w1 ⟨rfl, hw⟩; obtain rfl := hw.symm)
      | (at_make; refine wpList_make_own _ rfl _ _ 23 rfl w.heap.size 3 i (.int .i64 0) 1 Try.underlying23 hi hz0 hz1 .i64 .i64 (n : Int) n rfl rfl rfl (by rw [hz2]; omega) (by unfold maxLen; omega) (by rw [unhide HQ]; exact Nat.le_refl _) ?_))
    intro w1 hown hgrow
    rw [unhide HQ] at hown
    have hbel : Below w.heap.size w w1 := hbq.grown hgrow (by rw [unhide HQ]; exact Nat.le_refl _) (by intro k h; cases h)
    rw [unhide HQ]
    clear hgrow hbq
    go_wp2
    rw [hsub]
    clear hsub
    go_loopw [4, 36] (fun xo xi w2 => ∃ k : Nat, k ≤ n ∧ xi = .int .i64 k ∧ xo = .slice (some ⟨w.heap.size, 0, none⟩) k n ∧ w2.ownsRow w.heap.size 3 1 xo k (vL .i64 (fun i => F (a + 1 + i)) k) ∧ Below w.heap.size w w2) (fun _ i _ => n - (intOf i).toNat)
    case atStart => exact ⟨0, by omega, rfl, rfl, hown, hbel⟩
    case round =>
      clear hown hbel
      obtain ⟨k, hk, rfl, rfl, hown, hbel⟩ := hrel
      by_cases hlt : k < n
      · have hck : wr.cell? ⟨b, off + (a + 1) + k, none⟩ = some (.int .u8 (F (a + 1 + k))) := by
          rw [Nat.add_assoc off]
          exact (hbel.cell (p := ⟨b, off + (a + 1 + k), none⟩) hbs).trans (unhide HC (a + 1 + k) (by omega))
        have hbd := unhide HF (a + 1 + k) (by omega)
        have hnew : vL .i64 (fun i => F (a + 1 + i)) k ++ [.int .i64 (F (a + 1 + k))] = vL .i64 (fun i => F (a + 1 + i)) (k + 1) := by rw [vL_succ]
        have HN := hide hnew
        obtain ⟨hbd0, hbd1⟩ := hbd
        clear hnew
        generalize F (a + 1 + k) = x at *
        go_wp2_with (at_builtin; refine wpList_append_fits _ rfl (.tmp 40) (.tmp 43) 23 rfl w.heap.size 3 i 1 Try.underlying23 hi hz1 w.heap.size k n (vL .i64 (fun i => F (a + 1 + i)) k) rfl (hown.alloc _) ⟨wr.heap.size, 0, none⟩ 1 1 [.int .i64 x] rfl rfl ?_ ?_ (by omega) ?_)
        · exact cells_lit wr [.int .i64 x] 3
        · intro u hu
          simp at hu
          subst hu
          rfl
        · intro w2 hown2 hgrow2
          rw [unhide HN] at hown2
          go_wp2
          go_roundw
          case rel => exact ⟨k + 1, by omega, by go_num, rfl, hown2, (hbel.alloc hbel.size _).grown hgrow2 (by simp; have := hbel.size; omega) (by intro k h; cases h; exact Nat.le_refl _)⟩
          case measure => simp [intOf]; omega
      · obtain rfl : n = k := by omega
        go_wp2
        go_ret3
        exact ⟨_, rfl, hown, hbel⟩
end Go.Proofs.Ytkmljmfonhohbaa
