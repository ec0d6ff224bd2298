/- Walks of keep.TwinPeers, slices.Clone; what is stored into a row of the call's own. -/
import Derived.Test.YtnbmnbgbnagajaaA2
import Derived.Lib.SliceRun
namespace Go.Proofs.Ytnbmnbgbnagajaa
open Go.RowKit

set_option maxRecDepth 100000 in
theorem twin_any (F : Nat → Int) (v : Value) (n : Nat) (w : World) (hv : Pe w v n F) (hn : n ≤ 1000000) :
    Calls Try.prog 8 #[v] w fun e w' => ∃ v', e = .returned v' ∧ w'.ownsRow w.heap.size 42 2 v' n (vL .i64 F (n * 2)) ∧ Below w.heap.size w w' := by
  obtain ⟨i, hi, hz0, hz1, hz2⟩ := info_parts info42
  have key : ∀ (x : Addr) (cap : Nat), (∀ j u, (vL .i64 F (n * 2))[j]? = some u → w.cell? (x.add j) = some u) → Calls Try.prog 8 #[.slice (some x) n cap] w fun e w' => ∃ v', e = .returned v' ∧ w'.ownsRow w.heap.size 42 2 v' n (vL .i64 F (n * 2)) ∧ Below w.heap.size w w' := by
    intro x cap hc
    have HC := hide hc
    clear hc
    go_enter Try.func8, Try.ntmps8
    go_wp2_with (at_builtin; refine wpList_append_own _ rfl (.tmp 4) (.tmp 5) 22 rfl w.heap.size 42 i (.agg #[.int .i64 0, .int .i64 0]) 2 16 Try.underlying22 hi hz0 hz1 hz2 rfl (by decide) (.slice none 0 0) 0 [] rfl (World.ownsRow_nil _ _ _ _) x n cap (vL .i64 F (n * 2)) rfl (by rw [vL_length]) (unhide HC) (vL_one _ F _) (by unfold maxLen; omega) (by omega) (Nat.le_refl _) ?_)
    intro v2 w2 hown2 hgrow2 _
    go_wp2
    go_ret
    refine ⟨v2, rfl, by simpa using hown2, (Below.refl _ _).grown hgrow2 (Nat.le_refl _) (by intro k h; cases h)⟩
  obtain ⟨p, cap, rfl, hc1, hc2⟩ := hv.shape
  have hcs := hv.cells
  cases p with
  | none =>
    obtain ⟨rfl, rfl⟩ := hcs.1 rfl
    clear hcs
    go_enter Try.func8, Try.ntmps8
    go_wp2_with (at_builtin; refine wpList_append_own_none rfl (.tmp 4) (.tmp 5) 22 rfl w.heap.size 42 i 2 Try.underlying22 hi (.slice none 0 0) 0 [] rfl (World.ownsRow_nil _ _ _ _) rfl ?_)
    go_wp2
    go_ret
    exact ⟨_, rfl, World.ownsRow_nil _ _ _ _, Below.refl _ _⟩
  | some x => exact key x cap (hcs.2 x rfl)
set_option maxRecDepth 100000 in
theorem clone_any (F : Nat → Int) (v : Value) (n : Nat) (w : World) (hv : Pe w v n F) (hn : n ≤ 1000000) :
    Calls Try.prog 21 #[v] w fun e w' => ∃ v', e = .returned v' ∧ w'.ownsRow w.heap.size 42 2 v' n (vL .i64 F (n * 2)) ∧ Below w.heap.size w w' := by
  obtain ⟨i, hi, hz0, hz1, hz2⟩ := info_parts info42
  have key : ∀ (x : Addr) (cap : Nat), (∀ j u, (vL .i64 F (n * 2))[j]? = some u → (w.alloc (.cells #[] 42)).cell? (x.add j) = some u) → Calls Try.prog 21 #[.slice (some x) n cap] w fun e w' => ∃ v', e = .returned v' ∧ w'.ownsRow w.heap.size 42 2 v' n (vL .i64 F (n * 2)) ∧ Below w.heap.size w w' := by
    intro x cap hc
    have HC := hide hc
    have HO := hide (World.ownsRow_lit (base := w.heap.size) (e := 42) (size := 2) w #[] 0 (Nat.le_refl _) (by unfold maxLen; omega) rfl)
    clear hc
    have q22 : ∀ (w : World) (a : Option Addr) (n c n' c' : Nat), (binOp .eql 22 (.slice a n c) (.slice none n' c')).run Try.prog w = .ok (.bool a.isNone) w := fun w a n c n' c' => Lib.run_eql_slice_nil w _ _ a n c n' c' Try.underlying22
    go_enter Try.func21, Try.ntmps21
    go_wp2_with (at_builtin; refine wpList_append_own _ rfl (.tmp 5) (.tmp 6) 22 rfl w.heap.size 42 i (.agg #[.int .i64 0, .int .i64 0]) 2 16 Try.underlying22 hi hz0 hz1 hz2 rfl (by decide) _ 0 [] rfl (unhide HO) x n cap (vL .i64 F (n * 2)) rfl (by rw [vL_length]) (unhide HC) (vL_one _ F _) (by unfold maxLen; omega) (by omega) (by simp) ?_)
    intro v2 w2 hown2 hgrow2 _
    go_wp2
    go_ret
    refine ⟨v2, rfl, by simpa using hown2, ((Below.refl _ _).alloc (Nat.le_refl _) _).grown hgrow2 (by simp) (by intro k h; cases h; exact Nat.le_refl _)⟩
  have hv' := hv.below ((Below.refl w.heap.size w).alloc (Nat.le_refl _) (.cells #[] 42)) (Nat.le_refl _)
  obtain ⟨p, cap, rfl, hc1, hc2⟩ := hv.shape
  have hcs := hv'.cells
  cases p with
  | none =>
    obtain ⟨rfl, rfl⟩ := hcs.1 rfl
    clear hcs
    have q22 : ∀ (w : World) (a : Option Addr) (n c n' c' : Nat), (binOp .eql 22 (.slice a n c) (.slice none n' c')).run Try.prog w = .ok (.bool a.isNone) w := fun w a n c n' c' => Lib.run_eql_slice_nil w _ _ a n c n' c' Try.underlying22
    go_enter Try.func21, Try.ntmps21
    go_wp2
    go_ret
    exact ⟨_, rfl, World.ownsRow_nil _ _ _ _, Below.refl _ _⟩
  | some x => exact key x cap (hcs.2 x rfl)
theorem vL_set (k : IntKind) (F : Nat → Int) (m j : Nat) (x : Int) : (vL k F m).set j (.int k x) = vL k (fun i => if i = j then x else F i) m := by
  apply List.ext_getElem?
  intro i
  rw [List.getElem?_set]
  by_cases h : i < m
  · rw [vL_get _ _ _ _ h, vL_get _ _ _ _ h, vL_length]
    by_cases e : j = i
    · subst e; simp [h]
    · rw [if_neg e, if_neg (by omega)]
  · rw [List.getElem?_eq_none (show (vL k F m).length ≤ i by rw [vL_length]; omega), List.getElem?_eq_none (show (vL k _ m).length ≤ i by rw [vL_length]; omega), vL_length]
    simp; omega
theorem owns_some {w : World} {B n : Nat} {v : Value} {L : List Value} (h : w.ownsRow B 42 2 v n L) (hn : 0 < n) : ∃ g cap, v = .slice (some ⟨g, 0, none⟩) n cap ∧ n ≤ cap ∧ cap ≤ maxLen ∧ B ≤ g ∧ g < w.heap.size := by
  rcases h.2 with ⟨rfl, rfl⟩ | ⟨g, cap, cur, rfl, hb, hg, hc, hm, _, _⟩
  · omega
  · exact ⟨g, cap, rfl, hc, hm, hb, (Array.getElem?_eq_some_iff.1 hg).1⟩
end Go.Proofs.Ytnbmnbgbnagajaa
