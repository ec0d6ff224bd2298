/- Walks of codec.PutList. -/
import Derived.Test.YtkmljmfonhohbaaA5
namespace Go.Proofs.Ytkmljmfonhohbaa
open Go.RowKit

/-- The bytes with the list's behind. -/
def listF (F : Nat → Int) (m n : Nat) (G : Nat → Int) (i : Nat) : Int := if i < m then F i else if i = m then n else G (i - m - 1)
theorem listF_ahead (F : Nat → Int) (m n : Nat) (G : Nat → Int) (i : Nat) (h : i < m) : listF F m n G i = F i := by unfold listF; rw [if_pos h]
theorem listF_len (F : Nat → Int) (m n : Nat) (G : Nat → Int) : listF F m n G m = n := by unfold listF; simp
theorem listF_at (F : Nat → Int) (m n : Nat) (G : Nat → Int) (j : Nat) : listF F m n G (m + 1 + j) = G j := by
  unfold listF
  rw [if_neg (by omega), if_neg (by omega)]
  congr 1
  omega

theorem putl_long (v : Value) (p : Option Addr) (n cap : Nat) (hn : 255 < n) (hm : n ≤ maxLen) (w : World) :
    Calls Try.prog 11 #[v, .slice p n cap] w fun e w' => e = .returned (.tuple #[.slice none 0 0, .int .i64 2]) ∧ w' = w := by
  unfold maxLen at hm
  have h1 : decide ((255 : Int) < (n : Int)) = true := decide_eq_true (by omega)
  go_enter Try.func11, Try.ntmps11
  go_wp2
  go_ret2
  exact ⟨rfl, rfl⟩

/-- A value that a list may have. -/
abbrev IsB (x : Int) : Prop := 0 ≤ x ∧ x ≤ 255

set_option maxRecDepth 100000 in
/-- The list's first j are right: then either all are, or the one at j is not. -/
theorem putl_any (F G : Nat → Int) (v l : Value) (m n j : Nat) (w : World) (hv : Sl .u8 w v m F) (hl : Sl .i64 w l n G) (hm : m ≤ 100000) (hn : n ≤ 255) (hj : j ≤ n) (hg : ∀ i, i < j → IsB (G i)) (hbad : j < n → ¬ IsB (G j)) :
    Calls Try.prog 11 #[v, l] w fun e w' => Below w.heap.size w w' ∧ ((j < n ∧ e = .returned (.tuple #[.slice none 0 0, .int .i64 1])) ∨ (j = n ∧ ∃ v', e = .returned (.tuple #[v', .int .i64 0]) ∧ w'.ownsRow w.heap.size 5 1 v' (m + 1 + n) (vL .u8 (listF F m n G) (m + 1 + n)))) := by
  obtain ⟨i, hi, hz0, hz1, hz2⟩ := info_parts info5
  have e1 : ((1 + n : Nat) : Int) = (1 : Int) + (n : Int) := by omega
  have c3 := hide (copied_any F v m (1 + n))
  rw [e1] at c3
  clear e1
  have HV := hide hv
  obtain ⟨p, cap, rfl, hc1, hc2⟩ := hl.shape
  unfold maxLen at hc2
  have HL := hide hl
  have HG := hide hg
  have HB := hide hbad
  clear hv hl hg hbad
  have h255 : decide ((255 : Int) < (n : Int)) = false := decide_eq_false (by omega)
  have hE : vL .u8 F m ++ [.int .u8 (n : Int)] = vL .u8 (listF F m n G) (m + 1) := by
    rw [vL_succ, listF_len]
    congr 1
    exact vL_congr fun j hj => (listF_ahead F m n G j hj).symm
  have HE := hide hE
  clear hE
  have hw8 : (n : Int) % 256 = n := by omega
  go_enter Try.func11, Try.ntmps11
  go_wp2_with (first
    | (go_at_call 24; refine (unhide c3 _ (unhide HV) (by omega) (by omega)).mono ?_; rintro e w1 ⟨rfl, hown, hbel⟩)
    | (at_builtin; refine wpList_append_fits _ rfl (.tmp 16) (.tmp 20) 22 rfl w.heap.size 5 i 1 Try.underlying22 hi hz1 w.heap.size m (m + (1 + n)) (vL .u8 F m) rfl (hown.alloc _) ⟨w1.heap.size, 0, none⟩ 1 1 [.int .u8 (n : Int)] rfl rfl ?_ ?_ (by omega) ?_))
  · exact cells_lit w1 [.int .u8 (n : Int)] 5
  · intro u hu
    simp at hu
    subst hu
    rfl
  · intro w2 hown2 hgrow2
    rw [unhide HE] at hown2
    have hbel2 : Below w.heap.size w w2 := (hbel.alloc hbel.size _).grown hgrow2 (by simp; have := hbel.size; omega) (by intro k h; cases h; exact Nat.le_refl _)
    clear hgrow2 hown hbel hw8
    go_wp2
    go_loopw [6, 24] (fun xo xi w3 => ∃ k : Nat, k ≤ j ∧ xi = .int .i64 k ∧ xo = .slice (some ⟨w.heap.size, 0, none⟩) (m + 1 + k) (m + (1 + n)) ∧ w3.ownsRow w.heap.size 5 1 xo (m + 1 + k) (vL .u8 (listF F m n G) (m + 1 + k)) ∧ Below w.heap.size w w3) (fun _ i _ => n - (intOf i).toNat)
    case atStart => exact ⟨0, by omega, rfl, rfl, hown2, hbel2⟩
    case round =>
      clear hown2 hbel2
      obtain ⟨k, hk, rfl, rfl, hown, hbel⟩ := hrel
      by_cases hkn : k < n
      · obtain ⟨b, off, rfl, hb, hcell⟩ := (unhide HL).some (by omega)
        have hck : wr.cell? ⟨b, off + k, none⟩ = some (.int .i64 (G k)) := (hbel.cell (p := ⟨b, off + k, none⟩) hb).trans (hcell k hkn)
        clear hcell
        by_cases hlt : k < j
        · have hnew : vL .u8 (listF F m n G) (m + 1 + k) ++ [.int .u8 (G k)] = vL .u8 (listF F m n G) (m + 1 + (k + 1)) := by
            rw [← Nat.add_assoc, vL_succ, listF_at]
          have HN := hide hnew
          have hB := unhide HG k hlt
          have b0 := decide_eq_false (Int.not_lt.2 hB.1)
          have b1 := decide_eq_false (Int.not_lt.2 hB.2)
          have hw8 : (G k) % 256 = G k := by have := hB.1; have := hB.2; omega
          clear hnew hB
          generalize G k = x at *
          go_wp2_with (at_builtin; refine wpList_append_fits _ rfl (.tmp 34) (.tmp 37) 22 rfl w.heap.size 5 i 1 Try.underlying22 hi hz1 w.heap.size (m + 1 + k) (m + (1 + n)) (vL .u8 (listF F m n G) (m + 1 + k)) rfl (hown.alloc _) ⟨wr.heap.size, 0, none⟩ 1 1 [.int .u8 x] rfl rfl ?_ ?_ (by omega) ?_)
          · exact cells_lit wr [.int .u8 x] 5
          · intro u hu
            simp at hu
            subst hu
            rfl
          · intro w2 hown2 hgrow2
            rw [unhide HN] at hown2
            go_wp2
            go_roundw
            case rel => exact ⟨k + 1, by omega, by go_num, rfl, hown2, (hbel.alloc hbel.size _).grown hgrow2 (by simp; have := hbel.size; omega) (by intro k h; cases h; exact Nat.le_refl _)⟩
            case measure => simp [intOf]; omega
        · obtain rfl : j = k := by omega
          have hB := unhide HB hkn
          generalize G j = x at *
          by_cases h0 : x < 0
          · have b0 := decide_eq_true h0
            clear hB
            go_wp2
            go_ret2
            exact ⟨hbel, .inl ⟨hkn, rfl⟩⟩
          · have b0 := decide_eq_false h0
            have b1 : decide (255 < x) = true := decide_eq_true (by have : ¬ x ≤ 255 := fun q => hB ⟨by omega, q⟩; omega)
            clear hB
            go_wp2
            go_ret2
            exact ⟨hbel, .inl rfl⟩
      · obtain rfl : n = k := by omega
        obtain rfl : n = j := by omega
        go_wp2
        go_ret2
        exact ⟨hbel, _, rfl, hown⟩
theorem putl_is (F G : Nat → Int) (v l : Value) (m n : Nat) (w : World) (hv : Sl .u8 w v m F) (hl : Sl .i64 w l n G) (hm : m ≤ 100000) (hn : n ≤ 255) (hg : ∀ i, i < n → IsB (G i)) :
    Calls Try.prog 11 #[v, l] w fun e w' => ∃ v', e = .returned (.tuple #[v', .int .i64 0]) ∧ w'.ownsRow w.heap.size 5 1 v' (m + 1 + n) (vL .u8 (listF F m n G) (m + 1 + n)) ∧ Below w.heap.size w w' := by
  refine (putl_any F G v l m n n w hv hl hm hn (Nat.le_refl _) hg (fun h => absurd h (Nat.lt_irrefl _))).mono ?_
  rintro e w' ⟨hb, ⟨h, _⟩ | ⟨_, v', rfl, ho⟩⟩
  · omega
  · exact ⟨v', rfl, ho, hb⟩
/-- All right, or a first one that is not. -/
theorem first_bad (P : Nat → Prop) [DecidablePred P] (n : Nat) : (∀ i, i < n → P i) ∨ ∃ j, j < n ∧ (∀ i, i < j → P i) ∧ ¬ P j := by
  induction n with
  | zero => exact .inl fun i hi => by omega
  | succ n ih =>
    rcases ih with h | ⟨j, h1, h2, h3⟩
    · by_cases hp : P n
      · exact .inl fun i hi => by
          by_cases e : i < n
          · exact h i e
          · obtain rfl : i = n := by omega
            exact hp
      · exact .inr ⟨n, by omega, h, hp⟩
    · exact .inr ⟨j, by omega, h2, h3⟩
theorem putl_bad (F G : Nat → Int) (v l : Value) (m n : Nat) (w : World) (hv : Sl .u8 w v m F) (hl : Sl .i64 w l n G) (hm : m ≤ 100000) (hn : n ≤ 255) (hg : ¬ ∀ i, i < n → IsB (G i)) :
    Calls Try.prog 11 #[v, l] w fun e w' => e = .returned (.tuple #[.slice none 0 0, .int .i64 1]) ∧ Below w.heap.size w w' := by
  rcases first_bad (fun i => IsB (G i)) n with h | ⟨j, h1, h2, h3⟩
  · exact absurd h hg
  · refine (putl_any F G v l m n j w hv hl hm hn (by omega) h2 (fun _ => h3)).mono ?_
    rintro e w' ⟨hb, ⟨_, rfl⟩ | ⟨h, _⟩⟩
    · exact ⟨rfl, hb⟩
    · omega
end Go.Proofs.Ytkmljmfonhohbaa
