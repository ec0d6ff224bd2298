/- Slices of bytes; walks of Twin and keep.Bytes of what is the same. -/
import Derived.Test.YtfkhapliblnacaaM
import Derived.WalkKit
import Derived.WalkSpells
import Derived.StillTactics
import Derived.Laws.Pointers
import Derived.RowKit3
import Derived.Deep.QuietTactic
import Derived.BigQuiet
import Derived.Deep.OwnRows
import Derived.Laws.Rows
import Derived.Laws.Tables
import Derived.Laws.AppendOwn
import Derived.Laws.AppendOwnNone
import Derived.Laws.OwnMore
import Derived.OwnWalk
import Derived.Deep.DeepCutAuto
namespace Go.Proofs.Ytfkhapliblnacaa
open Go.RowKit

/-- A proposition that no walk looks into. -/
def Hid (p : Prop) : Prop := p
theorem hide {p : Prop} (h : p) : Hid p := h
theorem unhide {p : Prop} (h : Hid p) : p := h

theorem info3 : (Try.prog.info? 3).map (fun i => (i.zero, i.size, i.bytes)) = some (some (.int .i64 0), 1, 8) := by kernel_rfl
theorem info5 : (Try.prog.info? 5).map (fun i => (i.zero, i.size, i.bytes)) = some (some (.int .u8 0), 1, 1) := by kernel_rfl

/-- The slice v holds the n numbers F, of kind k. -/
def Sl (k : IntKind) (w : World) (v : Value) (n : Nat) (F : Nat → Int) : Prop :=
  (n = 0 ∧ (v = .slice none 0 0 ∨ ∃ x cap, v = .slice (some x) 0 cap ∧ cap ≤ maxLen)) ∨
  ∃ b off cap, v = .slice (some ⟨b, off, none⟩) n cap ∧ n ≤ cap ∧ cap ≤ maxLen ∧ b < w.heap.size ∧ ∀ i, i < n → w.cell? ⟨b, off + i, none⟩ = some (.int k (F i))
theorem Sl.below {k : IntKind} {w w' : World} {v : Value} {n B : Nat} {F : Nat → Int} (h : Sl k w v n F) (hb : Below B w w') (hB : w.heap.size ≤ B) : Sl k w' v n F := by
  rcases h with h | ⟨b, off, cap, h1, h2, h3, h4, h5⟩
  · exact .inl h
  · exact .inr ⟨b, off, cap, h1, h2, h3, Nat.lt_of_lt_of_le h4 hb.size, fun i hi => (hb.cell (p := ⟨b, off + i, none⟩) (by show b < B; omega)).trans (h5 i hi)⟩
theorem Sl.congr {k : IntKind} {w : World} {v : Value} {n : Nat} {F G : Nat → Int} (h : Sl k w v n F) (e : ∀ i, i < n → F i = G i) : Sl k w v n G := by
  rcases h with h | ⟨b, off, cap, h1, h2, h3, h4, h5⟩
  · exact .inl h
  · exact .inr ⟨b, off, cap, h1, h2, h3, h4, fun i hi => by rw [h5 i hi, e i hi]⟩
theorem Sl.shape {k : IntKind} {w : World} {v : Value} {n : Nat} {F : Nat → Int} (h : Sl k w v n F) : ∃ p cap, v = .slice p n cap ∧ n ≤ cap ∧ cap ≤ maxLen := by
  rcases h with ⟨rfl, rfl | ⟨x, cap, rfl, hc⟩⟩ | ⟨b, off, cap, rfl, h1, h2, _⟩
  · exact ⟨_, _, rfl, Nat.le_refl _, Nat.zero_le _⟩
  · exact ⟨_, _, rfl, Nat.zero_le _, hc⟩
  · exact ⟨_, _, rfl, h1, h2⟩
theorem Sl.some {k : IntKind} {w : World} {p : Option Addr} {cap n : Nat} {F : Nat → Int} (h : Sl k w (.slice p n cap) n F) (hn : 0 < n) : ∃ b off, p = some ⟨b, off, none⟩ ∧ b < w.heap.size ∧ ∀ i : Nat, i < n → w.cell? ⟨b, off + i, none⟩ = .some (.int k (F i)) := by
  rcases h with ⟨h0, _⟩ | ⟨b, off, cap', he, _, _, h3, h4⟩
  · omega
  · cases he
    exact ⟨b, off, rfl, h3, h4⟩

/-- The first n numbers, as values. -/
def vL (k : IntKind) (F : Nat → Int) (n : Nat) : List Value := (List.range n).map fun j => .int k (F j)
theorem vL_succ (k : IntKind) (F : Nat → Int) (n : Nat) : vL k F (n + 1) = vL k F n ++ [.int k (F n)] := by simp [vL, List.range_succ]
theorem vL_length (k : IntKind) (F : Nat → Int) (n : Nat) : (vL k F n).length = n := by simp [vL]
theorem vL_get (k : IntKind) (F : Nat → Int) (n i : Nat) (h : i < n) : (vL k F n)[i]? = some (.int k (F i)) := by simp [vL, h]
theorem vL_one (k : IntKind) (F : Nat → Int) (n : Nat) : ∀ u ∈ vL k F n, u.oneCell' = true := by
  intro u hu
  unfold vL at hu
  obtain ⟨j, _, rfl⟩ := List.mem_map.1 hu
  rfl
theorem vL_congr {k : IntKind} {F G : Nat → Int} {n : Nat} (h : ∀ j, j < n → F j = G j) : vL k F n = vL k G n := by
  unfold vL
  apply List.map_congr_left
  intro j hj
  rw [h j (List.mem_range.1 hj)]
theorem Sl.cells {k : IntKind} {w : World} {p : Option Addr} {cap n : Nat} {F : Nat → Int} (h : Sl k w (.slice p n cap) n F) :
    (p = none → n = 0 ∧ cap = 0) ∧ ∀ ad, p = .some ad → ∀ j u, (vL k F n)[j]? = .some u → w.cell? (ad.add j) = .some u := by
  rcases h with ⟨rfl, h | ⟨x, cap', h, _⟩⟩ | ⟨b, off, cap', h, h1, h2, h3, h4⟩
  · cases h
    exact ⟨fun _ => ⟨rfl, rfl⟩, fun _ h => by cases h⟩
  · cases h
    exact ⟨fun h => (by cases h), fun _ _ j u hu => by simp [vL] at hu⟩
  · cases h
    refine ⟨fun h => (by cases h), fun ad e j u hu => ?_⟩
    cases e
    have hj : j < n := by have := (List.getElem?_eq_some_iff.1 hu).1; rwa [vL_length] at this
    rw [vL_get k F n j hj] at hu
    rw [Addr.add_lit, h4 j hj, hu]
theorem sl_of_owns {k : IntKind} {e : TypeId} {w : World} {B n : Nat} {v : Value} {F : Nat → Int} (h : w.ownsRow B e 1 v n (vL k F n)) : Sl k w v n F := by
  rcases h.2 with ⟨rfl, rfl⟩ | ⟨g, cap, cur, rfl, hb, hg, hc, hm, _, _⟩
  · exact .inl ⟨rfl, .inl rfl⟩
  · refine .inr ⟨g, 0, cap, rfl, hc, hm, (Array.getElem?_eq_some_iff.1 hg).1, fun j hj => ?_⟩
    rw [Nat.zero_add, h.cellAt j (by omega), vL_get k F n j hj]
theorem cells_lit (w : World) (L : List Value) (t : TypeId) : ∀ j u, L[j]? = some u → (w.alloc (.cells L.toArray t)).cell? ((⟨w.heap.size, 0, none⟩ : Addr).add j) = some u := by
  intro j u h
  rw [Addr.add_lit]
  simp [go_sem, h]
theorem sl_lit (k : IntKind) (w : World) (xs : List Int) (t : TypeId) (n : Nat) (hn : xs.length = n) (hm : n ≤ maxLen) : Sl k (w.alloc (.cells (xs.map (Value.int k)).toArray t)) (.slice (some ⟨w.heap.size, 0, none⟩) n n) n (fun i => xs.getD i 0) := by
  refine .inr ⟨w.heap.size, 0, n, rfl, Nat.le_refl _, hm, by simp, fun i hi => ?_⟩
  have h := cells_lit w (xs.map (Value.int k)) t i (.int k (xs.getD i 0)) (by simp [hn, hi])
  rwa [Addr.add_lit] at h

set_option maxRecDepth 100000 in
theorem twin_any (F : Nat → Int) (v : Value) (n : Nat) (w : World) (hv : Sl .u8 w v n F) (hn : n ≤ 1000000) :
    Calls Try.prog 6 #[v] w fun e w' => ∃ v', e = .returned v' ∧ w'.ownsRow w.heap.size 5 1 v' n (vL .u8 F n) ∧ Below w.heap.size w w' := by
  obtain ⟨i, hi, hz0, hz1, hz2⟩ := info_parts info5
  have key : ∀ (x : Addr) (cap : Nat), (∀ j u, (vL .u8 F n)[j]? = some u → w.cell? (x.add j) = some u) → Calls Try.prog 6 #[.slice (some x) n cap] w fun e w' => ∃ v', e = .returned v' ∧ w'.ownsRow w.heap.size 5 1 v' n (vL .u8 F n) ∧ Below w.heap.size w w' := by
    intro x cap hc
    have HC := hide hc
    clear hc
    go_enter Try.func6, Try.ntmps6
    go_wp2_with (at_builtin; refine wpList_append_own _ rfl (.tmp 4) (.tmp 5) 22 rfl w.heap.size 5 i (.int .u8 0) 1 1 Try.underlying22 hi hz0 hz1 hz2 rfl (by decide) (.slice none 0 0) 0 [] rfl (World.ownsRow_nil _ _ _ _) x n cap (vL .u8 F n) rfl (by rw [vL_length]; omega) (unhide HC) (vL_one _ F n) (by unfold maxLen; omega) (by omega) (Nat.le_refl _) ?_)
    intro v2 w2 hown2 hgrow2 _
    go_wp2
    go_ret
    refine ⟨v2, rfl, by simpa using hown2, (Below.refl _ _).grown hgrow2 (Nat.le_refl _) (by intro k h; cases h)⟩
  obtain ⟨p, cap, rfl, hc1, hc2⟩ := hv.shape
  have hcs := hv.cells
  cases p with
  | none =>
    obtain ⟨rfl, rfl⟩ := hcs.1 rfl
    clear hcs
    go_enter Try.func6, Try.ntmps6
    go_wp2_with (at_builtin; refine wpList_append_own_none rfl (.tmp 4) (.tmp 5) 22 rfl w.heap.size 5 i 1 Try.underlying22 hi (.slice none 0 0) 0 [] rfl (World.ownsRow_nil _ _ _ _) rfl ?_)
    go_wp2
    go_ret
    exact ⟨_, rfl, World.ownsRow_nil _ _ _ _, Below.refl _ _⟩
  | some x => exact key x cap (hcs.2 x rfl)
set_option maxRecDepth 100000 in
theorem bytes_t (F : Nat → Int) (va vb : Value) (n : Nat) (w : World) (ha : Sl .u8 w va n F) (hb : Sl .u8 w vb n F) :
    Calls Try.prog 11 #[va, vb] w fun e w' => e = .returned (.bool true) ∧ ∃ m, w' = w.drewN m := by
  obtain ⟨pa, ca, rfl, la, ka⟩ := ha.shape
  obtain ⟨pb, cb, rfl, lb, kb⟩ := hb.shape
  unfold maxLen at ka kb
  have HA := hide ha
  have HB := hide hb
  clear ha hb
  go_enter Try.func11, Try.ntmps11
  go_wp2
  go_loopw [5] (fun xi w1 => ∃ k : Nat, k ≤ n ∧ xi = .int .i64 k ∧ ∃ m, w1 = w.drewN m) (fun i _ => n - (intOf i).toNat)
  case atStart => exact ⟨0, by omega, rfl, 0, rfl⟩
  case round =>
    obtain ⟨k, hk, rfl, m, hW⟩ := hrel
    by_cases hlt : k < n
    · obtain ⟨ba, oa, rfl, _, hca⟩ := (unhide HA).some (by omega)
      obtain ⟨bb, ob, rfl, _, hcb⟩ := (unhide HB).some (by omega)
      have c1 : wr.cell? ⟨ba, oa + k, none⟩ = some (.int .u8 (F k)) := by rw [hW]; exact hca k hlt
      have c2 : wr.cell? ⟨bb, ob + k, none⟩ = some (.int .u8 (F k)) := by rw [hW]; exact hcb k hlt
      have HW := hide hW
      clear hW hca hcb
      go_wp2
      go_quiet (fail)
      go_wp2
      go_roundw
      case rel => exact ⟨k + 1, by omega, by go_num, m + nq, by rw [unhide HW, World.drewN_drewN]⟩
      case measure => simp [intOf]; omega
    · subst hW
      go_wp2
      go_ret
      exact ⟨rfl, m, rfl⟩
theorem below_drewN {B : Nat} {a w : World} (h : Below B a w) (n : Nat) : Below B a (w.drewN n) := ⟨h.os, h.tape, h.output, h.size, h.block⟩
theorem bytes_b (F : Nat → Int) (va vb : Value) (n : Nat) (w : World) (ha : Sl .u8 w va n F) (hb : Sl .u8 w vb n F) :
    Calls Try.prog 11 #[va, vb] w fun e w' => e = .returned (.bool true) ∧ Below w.heap.size w w' := by
  refine (bytes_t F va vb n w ha hb).mono ?_
  rintro e w' ⟨rfl, m, rfl⟩
  exact ⟨rfl, below_drewN (Below.refl _ _) m⟩
theorem below_of {w w0 w' : World} (h0 : Below w.heap.size w w0) (h : Below w0.heap.size w0 w') : Below w.heap.size w w' := h0.trans (h.mono h0.size)
theorem owns_some {e : TypeId} {w : World} {B n : Nat} {v : Value} {L : List Value} (h : w.ownsRow B e 1 v n L) (hn : 0 < n) : ∃ g cap, v = .slice (some ⟨g, 0, none⟩) n cap ∧ n ≤ cap ∧ cap ≤ maxLen := by
  rcases h.2 with ⟨rfl, rfl⟩ | ⟨g, cap, cur, rfl, hb, hg, hc, hm, _, _⟩
  · omega
  · exact ⟨g, cap, rfl, hc, hm⟩
theorem Sl.take {k : IntKind} {w : World} {a : Addr} {n cap j : Nat} {F : Nat → Int} (h : Sl k w (.slice (.some a) n cap) n F) (hn : 0 < n) (hj : j ≤ n) : Sl k w (.slice (.some a) j cap) j F := by
  rcases h with ⟨h, _⟩ | ⟨b, off, cap', he, h1, h2, h3, h4⟩
  · omega
  · cases he
    exact .inr ⟨b, off, cap, rfl, by omega, h2, h3, fun i hi => h4 i (by omega)⟩

end Go.Proofs.Ytfkhapliblnacaa
