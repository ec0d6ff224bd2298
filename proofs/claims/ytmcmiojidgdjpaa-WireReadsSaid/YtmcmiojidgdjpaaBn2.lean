/- Slices of ints, messages as values; walks of TwinInts, TwinMsg, Heavy, numbers, and the page's small functions. -/
import Derived.Test.YtmcmiojidgdjpaaRows
import Derived.WalkKit
import Derived.WalkSpells
import Derived.StillTactics
import Derived.Laws.Pointers
import Derived.RowKit3
import Derived.Deep.QuietTactic
import Derived.BigQuiet
import Derived.Deep.OwnRows
import Derived.Laws.Rows
import Derived.Laws.Tables
import Derived.Laws.AppendOwn
import Derived.Laws.AppendOwnNone
import Derived.Laws.OwnMore
import Derived.OwnWalk
import Derived.Deep.DeepCutAuto
import Derived.Deep.RegionHeld3
namespace Go.Proofs.Ytmcmiojidgdjpaa
open Go.RowKit

/-- A proposition that no walk looks into. -/
def Hid (p : Prop) : Prop := p
theorem hide {p : Prop} (h : p) : Hid p := h
theorem unhide {p : Prop} (h : Hid p) : p := h
theorem info3 : (Try.prog.info? 3).map (fun i => (i.zero, i.size, i.bytes)) = some (some (.int .i64 0), 1, 8) := by kernel_rfl
theorem below_drewN {B : Nat} {a w : World} (h : Below B a w) (n : Nat) : Below B a (w.drewN n) := ⟨h.os, h.tape, h.output, h.size, h.block⟩

/-- The slice v holds the n numbers F, of kind k. -/
def Sl (k : IntKind) (w : World) (v : Value) (n : Nat) (F : Nat → Int) : Prop :=
  (n = 0 ∧ (v = .slice none 0 0 ∨ ∃ x cap, v = .slice (some x) 0 cap ∧ cap ≤ maxLen)) ∨
  ∃ b off cap, v = .slice (some ⟨b, off, none⟩) n cap ∧ n ≤ cap ∧ cap ≤ maxLen ∧ b < w.heap.size ∧ ∀ i, i < n → w.cell? ⟨b, off + i, none⟩ = some (.int k (F i))
theorem Sl.below {k : IntKind} {w w' : World} {v : Value} {n B : Nat} {F : Nat → Int} (h : Sl k w v n F) (hb : Below B w w') (hB : w.heap.size ≤ B) : Sl k w' v n F := by
  rcases h with h | ⟨b, off, cap, h1, h2, h3, h4, h5⟩
  · exact .inl h
  · exact .inr ⟨b, off, cap, h1, h2, h3, Nat.lt_of_lt_of_le h4 hb.size, fun i hi => (hb.cell (p := ⟨b, off + i, none⟩) (by show b < B; omega)).trans (h5 i hi)⟩
theorem Sl.congr {k : IntKind} {w : World} {v : Value} {n : Nat} {F G : Nat → Int} (h : Sl k w v n F) (e : ∀ i, i < n → F i = G i) : Sl k w v n G := by
  rcases h with h | ⟨b, off, cap, h1, h2, h3, h4, h5⟩
  · exact .inl h
  · exact .inr ⟨b, off, cap, h1, h2, h3, h4, fun i hi => by rw [h5 i hi, e i hi]⟩
theorem Sl.shape {k : IntKind} {w : World} {v : Value} {n : Nat} {F : Nat → Int} (h : Sl k w v n F) : ∃ p cap, v = .slice p n cap ∧ n ≤ cap ∧ cap ≤ maxLen := by
  rcases h with ⟨rfl, rfl | ⟨x, cap, rfl, hc⟩⟩ | ⟨b, off, cap, rfl, h1, h2, _⟩
  · exact ⟨_, _, rfl, Nat.le_refl _, Nat.zero_le _⟩
  · exact ⟨_, _, rfl, Nat.zero_le _, hc⟩
  · exact ⟨_, _, rfl, h1, h2⟩
theorem Sl.some {k : IntKind} {w : World} {p : Option Addr} {cap n : Nat} {F : Nat → Int} (h : Sl k w (.slice p n cap) n F) (hn : 0 < n) : ∃ b off, p = some ⟨b, off, none⟩ ∧ b < w.heap.size ∧ ∀ i : Nat, i < n → w.cell? ⟨b, off + i, none⟩ = .some (.int k (F i)) := by
  rcases h with ⟨h0, _⟩ | ⟨b, off, cap', he, _, _, h3, h4⟩
  · omega
  · cases he
    exact ⟨b, off, rfl, h3, h4⟩

/-- The first n numbers, as values. -/
def vL (k : IntKind) (F : Nat → Int) (n : Nat) : List Value := (List.range n).map fun j => .int k (F j)
theorem vL_succ (k : IntKind) (F : Nat → Int) (n : Nat) : vL k F (n + 1) = vL k F n ++ [.int k (F n)] := by simp [vL, List.range_succ]
theorem vL_length (k : IntKind) (F : Nat → Int) (n : Nat) : (vL k F n).length = n := by simp [vL]
theorem vL_get (k : IntKind) (F : Nat → Int) (n i : Nat) (h : i < n) : (vL k F n)[i]? = some (.int k (F i)) := by simp [vL, h]
theorem vL_one (k : IntKind) (F : Nat → Int) (n : Nat) : ∀ u ∈ vL k F n, u.oneCell' = true := by
  intro u hu
  unfold vL at hu
  obtain ⟨j, _, rfl⟩ := List.mem_map.1 hu
  rfl
theorem vL_congr {k : IntKind} {F G : Nat → Int} {n : Nat} (h : ∀ j, j < n → F j = G j) : vL k F n = vL k G n := by
  unfold vL
  apply List.map_congr_left
  intro j hj
  rw [h j (List.mem_range.1 hj)]
theorem Sl.cells {k : IntKind} {w : World} {p : Option Addr} {cap n : Nat} {F : Nat → Int} (h : Sl k w (.slice p n cap) n F) :
    (p = none → n = 0 ∧ cap = 0) ∧ ∀ ad, p = .some ad → ∀ j u, (vL k F n)[j]? = .some u → w.cell? (ad.add j) = .some u := by
  rcases h with ⟨rfl, h | ⟨x, cap', h, _⟩⟩ | ⟨b, off, cap', h, h1, h2, h3, h4⟩
  · cases h
    exact ⟨fun _ => ⟨rfl, rfl⟩, fun _ h => by cases h⟩
  · cases h
    exact ⟨fun h => (by cases h), fun _ _ j u hu => by simp [vL] at hu⟩
  · cases h
    refine ⟨fun h => (by cases h), fun ad e j u hu => ?_⟩
    cases e
    have hj : j < n := by have := (List.getElem?_eq_some_iff.1 hu).1; rwa [vL_length] at this
    rw [vL_get k F n j hj] at hu
    rw [Addr.add_lit, h4 j hj, hu]
theorem sl_of_owns {k : IntKind} {e : TypeId} {w : World} {B n : Nat} {v : Value} {F : Nat → Int} (h : w.ownsRow B e 1 v n (vL k F n)) : Sl k w v n F := by
  rcases h.2 with ⟨rfl, rfl⟩ | ⟨g, cap, cur, rfl, hb, hg, hc, hm, _, _⟩
  · exact .inl ⟨rfl, .inl rfl⟩
  · refine .inr ⟨g, 0, cap, rfl, hc, hm, (Array.getElem?_eq_some_iff.1 hg).1, fun j hj => ?_⟩
    rw [Nat.zero_add, h.cellAt j (by omega), vL_get k F n j hj]
theorem cells_lit (w : World) (L : List Value) (t : TypeId) : ∀ j u, L[j]? = some u → (w.alloc (.cells L.toArray t)).cell? ((⟨w.heap.size, 0, none⟩ : Addr).add j) = some u := by
  intro j u h
  rw [Addr.add_lit]
  simp [go_sem, h]
theorem sl_lit (k : IntKind) (w : World) (xs : List Int) (t : TypeId) (n : Nat) (hn : xs.length = n) (hm : n ≤ maxLen) : Sl k (w.alloc (.cells (xs.map (Value.int k)).toArray t)) (.slice (some ⟨w.heap.size, 0, none⟩) n n) n (fun i => xs.getD i 0) := by
  refine .inr ⟨w.heap.size, 0, n, rfl, Nat.le_refl _, hm, by simp, fun i hi => ?_⟩
  have h := cells_lit w (xs.map (Value.int k)) t i (.int k (xs.getD i 0)) (by simp [hn, hi])
  rwa [Addr.add_lit] at h

set_option maxRecDepth 100000 in
theorem twinInts_any (F : Nat → Int) (v : Value) (n : Nat) (w : World) (hv : Sl .i64 w v n F) (hn : n ≤ 1000000) :
    Calls Try.prog 22 #[v] w fun e w' => ∃ v', e = .returned v' ∧ w'.ownsRow w.heap.size 3 1 v' n (vL .i64 F n) ∧ Below w.heap.size w w' := by
  obtain ⟨i, hi, hz0, hz1, hz2⟩ := info_parts info3
  have key : ∀ (x : Addr) (cap : Nat), (∀ j u, (vL .i64 F n)[j]? = some u → w.cell? (x.add j) = some u) → Calls Try.prog 22 #[.slice (some x) n cap] w fun e w' => ∃ v', e = .returned v' ∧ w'.ownsRow w.heap.size 3 1 v' n (vL .i64 F n) ∧ Below w.heap.size w w' := by
    intro x cap hc
    have HC := hide hc
    clear hc
    go_enter Try.func22, Try.ntmps22
    go_wp2_with (at_builtin; refine wpList_append_own _ rfl (.tmp 4) (.tmp 5) 22 rfl w.heap.size 3 i (.int .i64 0) 1 8 Try.underlying22 hi hz0 hz1 hz2 rfl (by decide) (.slice none 0 0) 0 [] rfl (World.ownsRow_nil _ _ _ _) x n cap (vL .i64 F n) rfl (by rw [vL_length]; omega) (unhide HC) (vL_one _ F n) (by unfold maxLen; omega) (by omega) (Nat.le_refl _) ?_)
    intro v2 w2 hown2 hgrow2 _
    go_wp2
    go_ret
    refine ⟨v2, rfl, by simpa using hown2, (Below.refl _ _).grown hgrow2 (Nat.le_refl _) (by intro k h; cases h)⟩
  obtain ⟨p, cap, rfl, hc1, hc2⟩ := hv.shape
  have hcs := hv.cells
  cases p with
  | none =>
    obtain ⟨rfl, rfl⟩ := hcs.1 rfl
    clear hcs
    go_enter Try.func22, Try.ntmps22
    go_wp2_with (at_builtin; refine wpList_append_own_none rfl (.tmp 4) (.tmp 5) 22 rfl w.heap.size 3 i 1 Try.underlying22 hi (.slice none 0 0) 0 [] rfl (World.ownsRow_nil _ _ _ _) rfl ?_)
    go_wp2
    go_ret
    exact ⟨_, rfl, World.ownsRow_nil _ _ _ _, Below.refl _ _⟩
  | some x => exact key x cap (hcs.2 x rfl)
/-- The fields of a message that are no lists. -/
structure Mg where
  kd : Int
  fr : Int
  fi : Int
  tw : Int
  ti : Int
  tp : Int
  ep : Int
  sq : Int
  la : Int
  va : Int
  no : Int
  ic : Int
  ct : Int
  hp : Int
/-- A message as a value. -/
def mv (m : Mg) (p t : Value) : Value := .agg #[.int .i64 m.kd, .int .i64 m.fr, .int .i64 m.fi, .int .i64 m.tw, .int .i64 m.ti, .int .i64 m.tp, .int .i64 m.ep, .int .i64 m.sq, .int .i64 m.la, .int .i64 m.va, .int .i64 m.no, .int .i64 m.ic, .int .i64 m.ct, .int .i64 m.hp, p, t]
/-- Its numbers as a value. -/
def nv (m : Mg) : Value := .agg #[.int .i64 m.kd, .int .i64 m.fr, .int .i64 m.fi, .int .i64 m.tw, .int .i64 m.ti, .int .i64 m.tp, .int .i64 m.ep, .int .i64 m.sq, .int .i64 m.la, .int .i64 m.va, .int .i64 m.no, .int .i64 m.ic, .int .i64 m.ct, .int .i64 m.hp]

theorem in_any (n lo hi : Int) (w : World) : Calls Try.prog 30 #[.int .i64 n, .int .i64 lo, .int .i64 hi] w fun e w' => e = .returned (.bool (decide (lo ≤ n) && decide (n ≤ hi))) ∧ w' = w := by
  by_cases h1 : lo ≤ n <;> by_cases h2 : n ≤ hi
  all_goals
    go_enter Try.func30, Try.ntmps30
    go_wp2
    go_ret
    exact ⟨by simp [*], rfl⟩
theorem isNode_any (n : Int) (w : World) : Calls Try.prog 31 #[.int .i64 n] w fun e w' => e = .returned (.bool (decide (0 ≤ n) && decide (n ≤ 7))) ∧ w' = w := by
  go_enter Try.func31, Try.ntmps31
  go_wp2_with (go_at_call 30; refine (in_any _ _ _ _).mono ?_; rintro e w1 ⟨rfl, rfl⟩)
  go_ret
  exact ⟨rfl, rfl⟩
theorem count_any (n : Int) (w : World) : Calls Try.prog 32 #[.int .i64 n] w fun e w' => e = .returned (.bool (decide (1 ≤ n) && decide (n ≤ 1073741824))) ∧ w' = w := by
  go_enter Try.func32, Try.ntmps32
  go_wp2_with (go_at_call 30; refine (in_any _ _ _ _).mono ?_; rintro e w1 ⟨rfl, rfl⟩)
  go_ret
  exact ⟨rfl, rfl⟩
theorem isTopic_any (n : Int) (w : World) : Calls Try.prog 33 #[.int .i64 n] w fun e w' => e = .returned (.bool (decide (0 ≤ n) && decide (n ≤ 3))) ∧ w' = w := by
  go_enter Try.func33, Try.ntmps33
  go_wp2_with (go_at_call 30; refine (in_any _ _ _ _).mono ?_; rintro e w1 ⟨rfl, rfl⟩)
  go_ret
  exact ⟨rfl, rfl⟩
theorem value_any (n : Int) (w : World) : Calls Try.prog 36 #[.int .i64 n] w fun e w' => e = .returned (.bool (decide (0 ≤ n) && decide (n ≤ 2147483647))) ∧ w' = w := by
  go_enter Try.func36, Try.ntmps36
  go_wp2_with (go_at_call 30; refine (in_any _ _ _ _).mono ?_; rintro e w1 ⟨rfl, rfl⟩)
  go_ret
  exact ⟨rfl, rfl⟩

theorem below_of {w w0 w' : World} (h0 : Below w.heap.size w w0) (h : Below w0.heap.size w0 w') : Below w.heap.size w w' := h0.trans (h.mono h0.size)
/-- A function that answers what a cell of its own holds, whole. -/
theorem ret_row {fn : Func} {R : Ending → World → Prop} {a : Act} {w : World} (p : Tmp) (ty : TypeId) (h : fn.results = #[.cell p ty]) (g : Nat) (t : TypeId) (cs : Array Value) (d : TypeDesc)
    (hp : a.tmps.getD p undef = .pointer (some ⟨g, 0, none⟩)) (hg : w.heap[g]? = some (.cells cs t)) (hu : Try.prog.underlying ty = some d) (hd : (∃ x, d = .struct x) ∨ ∃ x y, d = .array x y)
    (hi : (Try.prog.info? ty).map (·.size) = some cs.size) (hde : a.defers = []) (hR : R (.returned (.agg cs)) w) : bodyPost Try.prog fn R .ret a w :=
  bodyPost_ret (results_cell_row h _ _ g t cs _ d hp hg hu (by rcases hd with ⟨x, rfl⟩ | ⟨x, y, rfl⟩ <;> rfl) hi) hde hR
theorem info24 : (Try.prog.info? 24).map (·.size) = some 16 := by kernel_rfl
theorem info40 : (Try.prog.info? 65).map (·.size) = some 14 := by kernel_rfl
theorem numbers_any (m : Mg) (p t : Value) (w : World) : Calls Try.prog 58 #[mv m p t] w fun e w' => e = .returned (nv m) ∧ Below w.heap.size w w' := by
  unfold mv nv
  go_enter Try.func58, Try.ntmps58
  go_wp2
  exact ret_row 2 65 rfl _ _ _ _ rfl (heap_alloc2_new _ _ _) Try.underlying65 (.inr ⟨_, _, rfl⟩) info40 rfl ⟨rfl, ((Below.refl _ _).alloc (Nat.le_refl _) _).alloc (by simp) _⟩
theorem heavy_any (m : Mg) (p t : Option Addr) (a b c d : Nat) (w : World) : Calls Try.prog 7 #[mv m (.slice p a c) (.slice t b d)] w fun e w' => e = .returned (.bool (decide (30 < a) || decide (30 < b))) ∧ Below w.heap.size w w' := by
  unfold mv
  have h1 : decide ((30 : Int) < a) = decide (30 < a) := decide_eq_decide.2 (by omega)
  have h2 : decide ((30 : Int) < b) = decide (30 < b) := decide_eq_decide.2 (by omega)
  by_cases h : 30 < a
  · have h3 : decide (30 < a) = true := decide_eq_true h
    go_enter Try.func7, Try.ntmps7
    go_wp2
    go_ret
    exact ⟨by simp [h3], (Below.refl _ _).alloc (Nat.le_refl _) _⟩
  · have h3 : decide (30 < a) = false := decide_eq_false h
    go_enter Try.func7, Try.ntmps7
    go_wp2
    go_ret
    exact ⟨by simp [h3], (Below.refl _ _).alloc (Nat.le_refl _) _⟩
theorem mv_cell {w : World} {g : Nat} {cs : Array Value} {t : TypeId} (hg : w.heap[g]? = some (.cells cs t)) (i : Nat) (v : Value) (h : cs[i]? = some v) : w.cell? ⟨g, i, none⟩ = some v := by
  simpa [World.cell?, hg] using h
theorem old_drew (w : World) (A B : Obj) : ((w.alloc A).alloc B).drew.heap[w.heap.size]? = some A := by rw [heap_drew]; exact heap_alloc2_old w A B
theorem new_drew (w : World) (A B : Obj) : ((w.alloc A).alloc B).drew.heap[w.heap.size + 1]? = some B := by rw [heap_drew]; exact heap_alloc2_new w A B
theorem owns_shape {e : TypeId} {w : World} {B n : Nat} {v : Value} {L : List Value} (h : w.ownsRow B e 1 v n L) : ∃ q c, v = .slice q n c := by
  rcases h.2 with ⟨rfl, rfl⟩ | ⟨g, cap, cur, rfl, _⟩
  · exact ⟨_, _, rfl⟩
  · exact ⟨_, _, rfl⟩
theorem twinInts_sl (F : Nat → Int) (v : Value) (n : Nat) (w : World) (hv : Sl .i64 w v n F) (hn : n ≤ 1000000) :
    Calls Try.prog 22 #[v] w fun e w' => ∃ q c, e = .returned (.slice q n c) ∧ w'.ownsRow w.heap.size 3 1 (.slice q n c) n (vL .i64 F n) ∧ Below w.heap.size w w' := by
  refine (twinInts_any F v n w hv hn).mono ?_
  rintro e w' ⟨v', rfl, o, b⟩
  obtain ⟨q, c, rfl⟩ := owns_shape o
  exact ⟨q, c, rfl, o, b⟩
theorem below_setRow {B g : Nat} {a w : World} {cs : Array Value} (h : Below B a w) (hg : B ≤ g) : Below B a (w.setRow g cs) :=
  ⟨h.os, h.tape, h.output, by rw [size_setRow]; exact h.size, fun k hk => (setRow_other w g k cs (by omega)).trans (h.block k hk)⟩
theorem owns_above {e : TypeId} {w w' : World} {B n : Nat} {v : Value} {L : List Value} (h : w.ownsRow B e 1 v n L) (hb : ∀ g, B ≤ g → g < w.heap.size → w'.heap[g]? = w.heap[g]?) : w'.ownsRow B e 1 v n L := by
  rcases h.2 with h2 | ⟨g, cap, cur, h1, h2, hg, h3⟩
  · exact ⟨h.1, .inl h2⟩
  · exact ⟨h.1, .inr ⟨g, cap, cur, h1, h2, (hb g h2 (Array.getElem?_eq_some_iff.1 hg).1).trans hg, h3⟩⟩
theorem owns_mono {e : TypeId} {w : World} {B B' n : Nat} {v : Value} {L : List Value} (h : w.ownsRow B e 1 v n L) (hB : B' ≤ B) : w.ownsRow B' e 1 v n L := by
  rcases h.2 with h2 | ⟨g, cap, cur, h1, h2, h3⟩
  · exact ⟨h.1, .inl h2⟩
  · exact ⟨h.1, .inr ⟨g, cap, cur, h1, Nat.le_trans hB h2, h3⟩⟩
set_option maxRecDepth 100000 in
set_option maxHeartbeats 1000000 in
theorem twinMsg_any (m : Mg) (F G : Nat → Int) (p t : Value) (n k : Nat) (w : World) (hp : Sl .i64 w p n F) (ht : Sl .i64 w t k G) (hn : n ≤ 1000) (hk : k ≤ 1000) :
    Calls Try.prog 8 #[mv m p t] w fun e w' => ∃ q c r d, e = .returned (mv m (.slice q n c) (.slice r k d)) ∧ w'.ownsRow w.heap.size 3 1 (.slice q n c) n (vL .i64 F n) ∧ w'.ownsRow w.heap.size 3 1 (.slice r k d) k (vL .i64 G k) ∧ Below w.heap.size w w' := by
  unfold mv
  have HP := hide hp
  have HT := hide ht
  clear hp ht
  have B0 : Hid (Below w.heap.size w ((w.alloc (.cells #[.int .i64 m.kd, .int .i64 m.fr, .int .i64 m.fi, .int .i64 m.tw, .int .i64 m.ti, .int .i64 m.tp, .int .i64 m.ep, .int .i64 m.sq, .int .i64 m.la, .int .i64 m.va, .int .i64 m.no, .int .i64 m.ic, .int .i64 m.ct, .int .i64 m.hp, p, t] 24)).alloc (.cells #[.int .i64 0, .int .i64 0, .int .i64 0, .int .i64 0, .int .i64 0, .int .i64 0, .int .i64 0, .int .i64 0, .int .i64 0, .int .i64 0, .int .i64 0, .int .i64 0, .int .i64 0, .int .i64 0, .slice none 0 0, .slice none 0 0] 24))) := hide (((Below.refl _ _).alloc (Nat.le_refl _) _).alloc (by simp) _)
  have m1 := trivial
  go_enter Try.func8, Try.ntmps8
  go_wp2
  go_region_with (first
    | (clear m1; go_at_call 22; with_reducible refine (twinInts_sl F p n _ ((unhide HP).below (unhide B0).drew (Nat.le_refl _)) (by omega)).mono ?_; rintro e w2 ⟨q2, d2, rfl, o2, b2⟩; have Op := hide o2; have B2 := hide (below_of (unhide B0).drew b2); have g2 := (b2.block w.heap.size (by simp; omega)).trans (old_drew w (.cells #[.int .i64 m.kd, .int .i64 m.fr, .int .i64 m.fi, .int .i64 m.tw, .int .i64 m.ti, .int .i64 m.tp, .int .i64 m.ep, .int .i64 m.sq, .int .i64 m.la, .int .i64 m.va, .int .i64 m.no, .int .i64 m.ic, .int .i64 m.ct, .int .i64 m.hp, p, t] 24) (.cells #[.int .i64 0, .int .i64 0, .int .i64 0, .int .i64 0, .int .i64 0, .int .i64 0, .int .i64 0, .int .i64 0, .int .i64 0, .int .i64 0, .int .i64 0, .int .i64 0, .int .i64 0, .int .i64 0, .slice none 0 0, .slice none 0 0] 24)); have G2 := hide g2; have K2 := hide ((b2.block (w.heap.size + 1) (by simp)).trans (new_drew w (.cells #[.int .i64 m.kd, .int .i64 m.fr, .int .i64 m.fi, .int .i64 m.tw, .int .i64 m.ti, .int .i64 m.tp, .int .i64 m.ep, .int .i64 m.sq, .int .i64 m.la, .int .i64 m.va, .int .i64 m.no, .int .i64 m.ic, .int .i64 m.ct, .int .i64 m.hp, p, t] 24) (.cells #[.int .i64 0, .int .i64 0, .int .i64 0, .int .i64 0, .int .i64 0, .int .i64 0, .int .i64 0, .int .i64 0, .int .i64 0, .int .i64 0, .int .i64 0, .int .i64 0, .int .i64 0, .int .i64 0, .slice none 0 0, .slice none 0 0] 24))); have c14 := mv_cell g2 14 _ rfl; have c15 := mv_cell g2 15 _ rfl; have f14 := frozen_of_row w2 w.heap.size 14 _ _ g2; have f15 := frozen_of_row w2 w.heap.size 15 _ _ g2; have L2 : Hid (w.heap.size + 2 ≤ w2.heap.size) := hide (by have := b2.size; simpa using this); clear o2 b2 g2)
    | (go_at_call 22; with_reducible refine (twinInts_sl G t k _ ((unhide HT).below (unhide B2) (Nat.le_refl _)) (by omega)).mono ?_; rintro e w3 ⟨q3, d3, rfl, o3, b3⟩; have Ot := hide o3; have B3 := hide (below_of (unhide B2) b3); have lt2 := unhide L2; have g3 := (b3.block w.heap.size (by omega)).trans (unhide G2); have G3 := hide g3; have K3 := hide ((b3.block (w.heap.size + 1) (by omega)).trans (unhide K2)); have P3 := hide (owns_above (unhide Op) (fun g _ h => b3.block g h)); clear c14 c15 f14 f15; have c14 := mv_cell g3 14 _ rfl; have c15 := mv_cell g3 15 _ rfl; have f14 := frozen_of_row w3 w.heap.size 14 _ _ g3; have f15 := frozen_of_row w3 w.heap.size 15 _ _ g3; have L3 : Hid (w2.heap.size ≤ w3.heap.size) := hide b3.size; clear o3 b3 g3 lt2))
  all_goals
    have g4 := heap_setCell_same _ w.heap.size 15 _ _ (.slice q3 k d3) (heap_setCell_same _ w.heap.size 14 _ _ (.slice q2 n d2) (unhide G3))
    have k4 := (heap_setCell_other _ ⟨w.heap.size, 15, none⟩ (w.heap.size + 1) (.slice q3 k d3) (by simp)).trans ((heap_setCell_other _ ⟨w.heap.size, 14, none⟩ (w.heap.size + 1) (.slice q2 n d2) (by simp)).trans (unhide K3))
    have h4 : ∀ g, g ≠ w.heap.size → ((w3.setCell ⟨w.heap.size, 14, none⟩ (.slice q2 n d2)).setCell ⟨w.heap.size, 15, none⟩ (.slice q3 k d3)).heap[g]? = w3.heap[g]? := fun g hg => (heap_setCell_other _ _ g _ hg).trans (heap_setCell_other _ _ g _ hg)
    have b4 : Below w.heap.size w ((w3.setCell ⟨w.heap.size, 14, none⟩ (.slice q2 n d2)).setCell ⟨w.heap.size, 15, none⟩ (.slice q3 k d3)) := ((unhide B3).setCell (Nat.le_refl _) _).setCell (Nat.le_refl _) _
    generalize (w3.setCell ⟨w.heap.size, 14, none⟩ (.slice q2 n d2)).setCell ⟨w.heap.size, 15, none⟩ (.slice q3 k d3) = w4 at *
    have G4 := hide g4
    have K4 := hide k4
    have H4 := hide h4
    have B4 := hide b4
    clear c14 c15 f14 f15 g4 k4 h4 b4
    go_wp2_with (first
      | (refine wpList_load_row rfl 24 (.tmp 1) rfl w.heap.size rfl 24 #[.int .i64 m.kd, .int .i64 m.fr, .int .i64 m.fi, .int .i64 m.tw, .int .i64 m.ti, .int .i64 m.tp, .int .i64 m.ep, .int .i64 m.sq, .int .i64 m.la, .int .i64 m.va, .int .i64 m.no, .int .i64 m.ic, .int .i64 m.ct, .int .i64 m.hp, .slice q2 n d2, .slice q3 k d3] (0, 0) _ (unhide G4) Try.underlying24 rfl info24 ?_)
      | (refine wpList_store_row rfl 24 (.tmp 2) (.tmp 11) rfl (w.heap.size + 1) #[.int .i64 m.kd, .int .i64 m.fr, .int .i64 m.fi, .int .i64 m.tw, .int .i64 m.ti, .int .i64 m.tp, .int .i64 m.ep, .int .i64 m.sq, .int .i64 m.la, .int .i64 m.va, .int .i64 m.no, .int .i64 m.ic, .int .i64 m.ct, .int .i64 m.hp, .slice q2 n d2, .slice q3 k d3] rfl rfl 24 _ (unhide K4) info24 rfl (by simp [Value.oneCell']) ?_))
    refine ret_row 2 24 rfl _ _ _ _ rfl (setRow_heap _ _ _ _ _ _ (unhide K4)) Try.underlying24 (.inl ⟨_, rfl⟩) info24 rfl ⟨q2, d2, q3, d3, rfl, ?_, ?_, ?_⟩
    · refine owns_mono (owns_above (unhide P3) (fun g hg hl => ?_)) (by simp; omega)
      have hg' : w.heap.size + 1 < g := by simp at hg; omega
      exact (setRow_other _ _ _ _ (by omega)).trans (unhide H4 g (by omega))
    · have l2 := unhide L2
      refine owns_mono (owns_above (unhide Ot) (fun g hg hl => ?_)) (by omega)
      exact (setRow_other _ _ _ _ (by omega)).trans (unhide H4 g (by omega))
    · exact below_setRow (unhide B4) (by omega)
end Go.Proofs.Ytmcmiojidgdjpaa
