/- Walks of keep.Twin, keep.Bytes. -/
import Derived.Test.YtaojifgbnllebaaDoorR5
import Derived.Laws.AppendOwnNone
namespace Go.Proofs.YtaojifgbnllebaaDoor
open Go.RowKit

def bL (F : Nat → Int) (n : Nat) : List Value := (List.range n).map fun j => .int .u8 (F j)
theorem bL_succ (F : Nat → Int) (n : Nat) : bL F (n + 1) = bL F n ++ [.int .u8 (F n)] := by simp [bL, List.range_succ]
theorem bL_length (F : Nat → Int) (n : Nat) : (bL F n).length = n := by simp [bL]
theorem bL_get (F : Nat → Int) (n i : Nat) (h : i < n) : (bL F n)[i]? = some (.int .u8 (F i)) := by simp [bL, h]
theorem bL_one (F : Nat → Int) (n : Nat) : ∀ u ∈ bL F n, u.oneCell' = true := by
  intro u hu
  unfold bL at hu
  obtain ⟨j, _, rfl⟩ := List.mem_map.1 hu
  rfl
theorem bL_congr {F G : Nat → Int} {n : Nat} (h : ∀ j, j < n → F j = G j) : bL F n = bL G n := by
  unfold bL
  apply List.map_congr_left
  intro j hj
  rw [h j (List.mem_range.1 hj)]
/-- A slice that the call has made holds bytes. -/
theorem bsl_of_owns {w : World} {B n : Nat} {v : Value} {F : Nat → Int} (h : w.ownsRow B 5 1 v n (bL F n)) (hn : n < 2 ^ 60) : BSl w v n F := by
  rcases h.2 with ⟨h1, h2⟩ | ⟨g, cap, cur, rfl, hb, hg, hc, hm, _, _⟩
  · exact .inl ⟨h2, .inl h1⟩
  · unfold maxLen at hm
    refine .inr ⟨g, 0, cap, rfl, hc, ⟨by omega, hn⟩, (Array.getElem?_eq_some_iff.1 hg).1, fun i hi => ?_⟩
    rw [Nat.zero_add, h.cellAt i (by omega), bL_get F n i hi]

set_option maxRecDepth 100000 in
theorem twin_any (F : Nat → Int) (v : Value) (n : Nat) (w : World) (hv : BSl w v n F) (hn : n ≤ 100000) :
    Calls Tryd.prog 7 #[v] w fun e w' => ∃ v', e = .returned v' ∧ w'.ownsRow w.heap.size 5 1 v' n (bL F n) ∧ Below w.heap.size w w' := by
  obtain ⟨i, hi, hz0, hz1, hz2⟩ := info_parts info5
  have key : ∀ (x : Addr) (cap : Nat), (∀ j u, (bL F n)[j]? = some u → w.cell? (x.add j) = some u) → Calls Tryd.prog 7 #[.slice (some x) n cap] w fun e w' => ∃ v', e = .returned v' ∧ w'.ownsRow w.heap.size 5 1 v' n (bL F n) ∧ Below w.heap.size w w' := by
    intro x cap hc
    have HC := hide hc
    clear hc
    go_enter Tryd.func7, Tryd.ntmps7
    go_wp2_with (at_builtin; refine wpList_append_own _ rfl (.tmp 4) (.tmp 5) 22 rfl w.heap.size 5 i (.int .u8 0) 1 1 Tryd.underlying22 hi hz0 hz1 hz2 rfl (by decide) (.slice none 0 0) 0 [] rfl (World.ownsRow_nil _ _ _ _) x n cap (bL F n) rfl (by rw [bL_length]; omega) (unhide HC) (bL_one F n) (by unfold maxLen; omega) (by omega) (Nat.le_refl _) ?_)
    intro v2 w2 hown2 hgrow2 _
    go_wp2
    go_ret
    refine ⟨v2, rfl, by simpa using hown2, (Below.refl _ _).grown hgrow2 (Nat.le_refl _) (by intro k h; cases h)⟩
  rcases hv with ⟨rfl, rfl | ⟨x, cap, rfl, _⟩⟩ | ⟨b, off, cap, rfl, h1, h2, h3, h4⟩
  · go_enter Tryd.func7, Tryd.ntmps7
    go_wp2_with (at_builtin; refine wpList_append_own_none rfl (.tmp 4) (.tmp 5) 22 rfl w.heap.size 5 i 1 Tryd.underlying22 hi (.slice none 0 0) 0 [] rfl (World.ownsRow_nil _ _ _ _) rfl ?_)
    go_wp2
    go_ret
    exact ⟨_, rfl, World.ownsRow_nil _ _ _ _, Below.refl _ _⟩
  · exact key x cap (fun j u hu => by simp [bL] at hu)
  · refine key ⟨b, off, none⟩ cap (fun j u hu => ?_)
    have hj : j < n := by have := (List.getElem?_eq_some_iff.1 hu).1; rwa [bL_length] at this
    rw [bL_get F n j hj] at hu
    rw [Addr.add_lit, h4 j hj, hu]
end Go.Proofs.YtaojifgbnllebaaDoor
