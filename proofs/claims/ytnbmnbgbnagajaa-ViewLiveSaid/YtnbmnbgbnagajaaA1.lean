/- Slices of numbers and of peers, as values; blocks that are there. -/
import Derived.Test.YtnbmnbgbnagajaaRows
import Derived.WalkKit
import Derived.WalkSpells
import Derived.StillTactics
import Derived.Laws.Pointers
import Derived.RowKit3
import Derived.Deep.QuietTactic
import Derived.BigQuiet
import Derived.Deep.OwnRows
import Derived.Laws.Rows
import Derived.Laws.Tables
import Derived.Laws.AppendOwn
import Derived.Laws.AppendOwnNone
import Derived.Laws.OwnMore
import Derived.OwnWalk
import Derived.Deep.DeepCutAuto
import Derived.Deep.RegionHeld3
namespace Go.Proofs.Ytnbmnbgbnagajaa
open Go.RowKit

/-- A proposition that no walk looks into. -/
def Hid (p : Prop) : Prop := p
theorem hide {p : Prop} (h : p) : Hid p := h
theorem unhide {p : Prop} (h : Hid p) : p := h
theorem info3 : (Try.prog.info? 3).map (fun i => (i.zero, i.size, i.bytes)) = some (some (.int .i64 0), 1, 8) := by kernel_rfl
theorem below_drewN {B : Nat} {a w : World} (h : Below B a w) (n : Nat) : Below B a (w.drewN n) := ⟨h.os, h.tape, h.output, h.size, h.block⟩

/-- The slice v holds the n numbers F, of kind k. -/
def Sl (k : IntKind) (w : World) (v : Value) (n : Nat) (F : Nat → Int) : Prop :=
  (n = 0 ∧ (v = .slice none 0 0 ∨ ∃ x cap, v = .slice (some x) 0 cap ∧ cap ≤ maxLen)) ∨
  ∃ b off cap, v = .slice (some ⟨b, off, none⟩) n cap ∧ n ≤ cap ∧ cap ≤ maxLen ∧ b < w.heap.size ∧ ∀ i, i < n → w.cell? ⟨b, off + i, none⟩ = some (.int k (F i))
theorem Sl.below {k : IntKind} {w w' : World} {v : Value} {n B : Nat} {F : Nat → Int} (h : Sl k w v n F) (hb : Below B w w') (hB : w.heap.size ≤ B) : Sl k w' v n F := by
  rcases h with h | ⟨b, off, cap, h1, h2, h3, h4, h5⟩
  · exact .inl h
  · exact .inr ⟨b, off, cap, h1, h2, h3, Nat.lt_of_lt_of_le h4 hb.size, fun i hi => (hb.cell (p := ⟨b, off + i, none⟩) (by show b < B; omega)).trans (h5 i hi)⟩
theorem Sl.congr {k : IntKind} {w : World} {v : Value} {n : Nat} {F G : Nat → Int} (h : Sl k w v n F) (e : ∀ i, i < n → F i = G i) : Sl k w v n G := by
  rcases h with h | ⟨b, off, cap, h1, h2, h3, h4, h5⟩
  · exact .inl h
  · exact .inr ⟨b, off, cap, h1, h2, h3, h4, fun i hi => by rw [h5 i hi, e i hi]⟩
theorem Sl.shape {k : IntKind} {w : World} {v : Value} {n : Nat} {F : Nat → Int} (h : Sl k w v n F) : ∃ p cap, v = .slice p n cap ∧ n ≤ cap ∧ cap ≤ maxLen := by
  rcases h with ⟨rfl, rfl | ⟨x, cap, rfl, hc⟩⟩ | ⟨b, off, cap, rfl, h1, h2, _⟩
  · exact ⟨_, _, rfl, Nat.le_refl _, Nat.zero_le _⟩
  · exact ⟨_, _, rfl, Nat.zero_le _, hc⟩
  · exact ⟨_, _, rfl, h1, h2⟩
theorem Sl.some {k : IntKind} {w : World} {p : Option Addr} {cap n : Nat} {F : Nat → Int} (h : Sl k w (.slice p n cap) n F) (hn : 0 < n) : ∃ b off, p = some ⟨b, off, none⟩ ∧ b < w.heap.size ∧ ∀ i : Nat, i < n → w.cell? ⟨b, off + i, none⟩ = .some (.int k (F i)) := by
  rcases h with ⟨h0, _⟩ | ⟨b, off, cap', he, _, _, h3, h4⟩
  · omega
  · cases he
    exact ⟨b, off, rfl, h3, h4⟩

/-- The first n numbers, as values. -/
def vL (k : IntKind) (F : Nat → Int) (n : Nat) : List Value := (List.range n).map fun j => .int k (F j)
theorem vL_succ (k : IntKind) (F : Nat → Int) (n : Nat) : vL k F (n + 1) = vL k F n ++ [.int k (F n)] := by simp [vL, List.range_succ]
theorem vL_length (k : IntKind) (F : Nat → Int) (n : Nat) : (vL k F n).length = n := by simp [vL]
theorem vL_get (k : IntKind) (F : Nat → Int) (n i : Nat) (h : i < n) : (vL k F n)[i]? = some (.int k (F i)) := by simp [vL, h]
theorem vL_one (k : IntKind) (F : Nat → Int) (n : Nat) : ∀ u ∈ vL k F n, u.oneCell' = true := by
  intro u hu
  unfold vL at hu
  obtain ⟨j, _, rfl⟩ := List.mem_map.1 hu
  rfl
theorem vL_congr {k : IntKind} {F G : Nat → Int} {n : Nat} (h : ∀ j, j < n → F j = G j) : vL k F n = vL k G n := by
  unfold vL
  apply List.map_congr_left
  intro j hj
  rw [h j (List.mem_range.1 hj)]
theorem Sl.cells {k : IntKind} {w : World} {p : Option Addr} {cap n : Nat} {F : Nat → Int} (h : Sl k w (.slice p n cap) n F) :
    (p = none → n = 0 ∧ cap = 0) ∧ ∀ ad, p = .some ad → ∀ j u, (vL k F n)[j]? = .some u → w.cell? (ad.add j) = .some u := by
  rcases h with ⟨rfl, h | ⟨x, cap', h, _⟩⟩ | ⟨b, off, cap', h, h1, h2, h3, h4⟩
  · cases h
    exact ⟨fun _ => ⟨rfl, rfl⟩, fun _ h => by cases h⟩
  · cases h
    exact ⟨fun h => (by cases h), fun _ _ j u hu => by simp [vL] at hu⟩
  · cases h
    refine ⟨fun h => (by cases h), fun ad e j u hu => ?_⟩
    cases e
    have hj : j < n := by have := (List.getElem?_eq_some_iff.1 hu).1; rwa [vL_length] at this
    rw [vL_get k F n j hj] at hu
    rw [Addr.add_lit, h4 j hj, hu]
theorem sl_of_owns {k : IntKind} {e : TypeId} {w : World} {B n : Nat} {v : Value} {F : Nat → Int} (h : w.ownsRow B e 1 v n (vL k F n)) : Sl k w v n F := by
  rcases h.2 with ⟨rfl, rfl⟩ | ⟨g, cap, cur, rfl, hb, hg, hc, hm, _, _⟩
  · exact .inl ⟨rfl, .inl rfl⟩
  · refine .inr ⟨g, 0, cap, rfl, hc, hm, (Array.getElem?_eq_some_iff.1 hg).1, fun j hj => ?_⟩
    rw [Nat.zero_add, h.cellAt j (by omega), vL_get k F n j hj]
theorem cells_lit (w : World) (L : List Value) (t : TypeId) : ∀ j u, L[j]? = some u → (w.alloc (.cells L.toArray t)).cell? ((⟨w.heap.size, 0, none⟩ : Addr).add j) = some u := by
  intro j u h
  rw [Addr.add_lit]
  simp [go_sem, h]
theorem sl_lit (k : IntKind) (w : World) (xs : List Int) (t : TypeId) (n : Nat) (hn : xs.length = n) (hm : n ≤ maxLen) : Sl k (w.alloc (.cells (xs.map (Value.int k)).toArray t)) (.slice (some ⟨w.heap.size, 0, none⟩) n n) n (fun i => xs.getD i 0) := by
  refine .inr ⟨w.heap.size, 0, n, rfl, Nat.le_refl _, hm, by simp, fun i hi => ?_⟩
  have h := cells_lit w (xs.map (Value.int k)) t i (.int k (xs.getD i 0)) (by simp [hn, hi])
  rwa [Addr.add_lit] at h


theorem Sl.len {k : IntKind} {w : World} {v : Value} {n : Nat} {F : Nat → Int} (h : Sl k w v n F) : n ≤ maxLen := by
  obtain ⟨_, _, _, a, b⟩ := h.shape
  exact Nat.le_trans a b
theorem sl_nil {k : IntKind} (w : World) (F : Nat → Int) : Sl k w (.slice none 0 0) 0 F := .inl ⟨rfl, .inl rfl⟩
theorem below_alloc {w w' : World} (h : Below w.heap.size w w') (o : Obj) : Below w.heap.size w (w'.alloc o) := h.alloc h.size o
theorem below_of {w w0 w' : World} (h0 : Below w.heap.size w w0) (h : Below w0.heap.size w0 w') : Below w.heap.size w w' := h0.trans (h.mono h0.size)
theorem below_up {B : Nat} {a w w' : World} (h : Below B a w) (h' : Below B w w') : Below B a w' := h.trans h'
theorem owns_below {e : TypeId} {size : Nat} {w w' : World} {B n : Nat} {v : Value} {L : List Value} (h : w.ownsRow B e size v n L) (hb : Below w.heap.size w w') : w'.ownsRow B e size v n L := by
  refine ⟨h.1, ?_⟩
  rcases h.2 with h2 | ⟨g, cap, cur, h1, h2, h3, h4, h5, h6, h7⟩
  · exact .inl h2
  · exact .inr ⟨g, cap, cur, h1, h2, (hb.block g (Array.getElem?_eq_some_iff.1 h3).1).trans h3, h4, h5, h6, h7⟩
theorem owns_mono {e : TypeId} {size : Nat} {w : World} {B B' n : Nat} {v : Value} {L : List Value} (h : w.ownsRow B e size v n L) (hb : B' ≤ B) : w.ownsRow B' e size v n L := by
  refine ⟨h.1, ?_⟩
  rcases h.2 with h2 | ⟨g, cap, cur, h1, h2, h3⟩
  · exact .inl h2
  · exact .inr ⟨g, cap, cur, h1, Nat.le_trans hb h2, h3⟩
/-- Two rows of unlike kinds lie in unlike blocks. -/
theorem owns_apart {e e' : TypeId} {size size' : Nat} {w : World} {B B' n n' : Nat} {v v' : Value} {L L' : List Value} (h : w.ownsRow B e size v n L) (h' : w.ownsRow B' e' size' v' n' L') (he : e ≠ e') :
    v'.ownBlock = none ∨ v'.ownBlock ≠ v.ownBlock := by
  rcases h'.2 with ⟨rfl, _⟩ | ⟨g', cap', cur', rfl, _, h3', _⟩
  · exact .inl rfl
  · refine .inr fun hq => ?_
    rcases h.2 with ⟨rfl, _⟩ | ⟨g, cap, cur, rfl, _, h3, _⟩
    · cases hq
    · cases hq
      rw [h3] at h3'
      cases h3'
      exact he rfl

/-- First n of the one, then the other. -/
def cat {α : Type} (F : Nat → α) (n : Nat) (G : Nat → α) (i : Nat) : α := if i < n then F i else G (i - n)
theorem oneCell_slice (p : Option Addr) (n c : Nat) : (Value.slice p n c).oneCell' = true := rfl
theorem Sl.one {k : IntKind} {w : World} {v : Value} {n : Nat} {F : Nat → Int} (h : Sl k w v n F) : v.oneCell' = true := by
  obtain ⟨p, c, rfl, _⟩ := h.shape
  rfl
/-- A block that is there, and what it holds. -/
def Has (w : World) (g : Nat) (o : Obj) : Prop := g < w.heap.size ∧ w.heap[g]? = some o
theorem Has.below {w w' : World} {g : Nat} {o : Obj} (h : Has w g o) (b : Below w.heap.size w w') : Has w' g o := ⟨Nat.lt_of_lt_of_le h.1 b.size, (b.block g h.1).trans h.2⟩
theorem Has.new (w : World) (o : Obj) : Has (w.alloc o) w.heap.size o := ⟨by simp, heap_alloc_new _ _⟩
theorem Has.alloc {w : World} {g : Nat} {o : Obj} (h : Has w g o) (o' : Obj) : Has (w.alloc o') g o := h.below ((Below.refl _ _).alloc (Nat.le_refl _) _)
theorem Has.cell {w : World} {g k : Nat} {cs : Array Value} {t : TypeId} {m : Nat × Nat} {u : Value} (h : Has w g (.cells cs t m)) (hk : cs[k]? = some u) : w.cell? ⟨g, k, none⟩ = some u := by simp [World.cell?, h.2, hk]
theorem Has.frozen {w : World} {g k : Nat} {cs : Array Value} {t : TypeId} (h : Has w g (.cells cs t)) : w.frozen? ⟨g, k, none⟩ = false := by simp [World.frozen?, h.2]
theorem modU (x : Int) (n : Int) (h : 0 < n) (h2 : n ≤ 1000000) : wrap64 ((IntKind.u64.wrap x).tmod n) = (x % 18446744073709551616) % n := by
  have e1 : IntKind.u64.wrap x = x % 18446744073709551616 := rfl
  rw [e1, Int.tmod_eq_emod_of_nonneg (by omega)]
  have h3 := Int.emod_lt_of_pos (x % 18446744073709551616) h
  have h4 := Int.emod_nonneg (x % 18446744073709551616) (show n ≠ 0 by omega)
  unfold wrap64
  omega
theorem modN (x : Int) (n : Nat) (h : 0 < n) (h2 : n ≤ 1000000) : ∃ q : Nat, wrap64 ((IntKind.u64.wrap x).tmod n) = q ∧ q < n := by
  have h3 := Int.emod_lt_of_pos (x % 18446744073709551616) (show (0:Int) < n by omega)
  have h4 := Int.emod_nonneg (x % 18446744073709551616) (show (n:Int) ≠ 0 by omega)
  refine ⟨((x % 18446744073709551616) % n).toNat, ?_, by omega⟩
  rw [modU x n (by omega) (by omega)]
  omega
/-- The slice v holds n peers, whose numbers, one behind the other, are F. -/
def Pe (w : World) (v : Value) (n : Nat) (F : Nat → Int) : Prop :=
  (n = 0 ∧ (v = .slice none 0 0 ∨ ∃ x cap, v = .slice (some x) 0 cap ∧ cap ≤ maxLen)) ∨
  ∃ b off cap, v = .slice (some ⟨b, off, none⟩) n cap ∧ n ≤ cap ∧ cap ≤ maxLen ∧ b < w.heap.size ∧ ∀ j, j < n * 2 → w.cell? ⟨b, off + j, none⟩ = some (.int .i64 (F j))
theorem Pe.below {w w' : World} {v : Value} {n B : Nat} {F : Nat → Int} (h : Pe w v n F) (hb : Below B w w') (hB : w.heap.size ≤ B) : Pe w' v n F := by
  rcases h with h | ⟨b, off, cap, h1, h2, h3, h4, h5⟩
  · exact .inl h
  · exact .inr ⟨b, off, cap, h1, h2, h3, Nat.lt_of_lt_of_le h4 hb.size, fun i hi => (hb.cell (p := ⟨b, off + i, none⟩) (by show b < B; omega)).trans (h5 i hi)⟩
theorem Pe.congr {w : World} {v : Value} {n : Nat} {F G : Nat → Int} (h : Pe w v n F) (e : ∀ j, j < n * 2 → F j = G j) : Pe w v n G := by
  rcases h with h | ⟨b, off, cap, h1, h2, h3, h4, h5⟩
  · exact .inl h
  · exact .inr ⟨b, off, cap, h1, h2, h3, h4, fun i hi => by rw [h5 i hi, e i hi]⟩
theorem Pe.shape {w : World} {v : Value} {n : Nat} {F : Nat → Int} (h : Pe w v n F) : ∃ p cap, v = .slice p n cap ∧ n ≤ cap ∧ cap ≤ maxLen := by
  rcases h with ⟨rfl, rfl | ⟨x, cap, rfl, hc⟩⟩ | ⟨b, off, cap, rfl, h1, h2, _⟩
  · exact ⟨_, _, rfl, Nat.le_refl _, Nat.zero_le _⟩
  · exact ⟨_, _, rfl, Nat.zero_le _, hc⟩
  · exact ⟨_, _, rfl, h1, h2⟩
theorem Pe.some {w : World} {p : Option Addr} {cap n : Nat} {F : Nat → Int} (h : Pe w (.slice p n cap) n F) (hn : 0 < n) : ∃ b off, p = some ⟨b, off, none⟩ ∧ b < w.heap.size ∧ ∀ j : Nat, j < n * 2 → w.cell? ⟨b, off + j, none⟩ = .some (.int .i64 (F j)) := by
  rcases h with ⟨h0, _⟩ | ⟨b, off, cap', he, _, _, h3, h4⟩
  · omega
  · cases he
    exact ⟨b, off, rfl, h3, h4⟩
/-- The two cells of a peer. -/
theorem Pe.two {w : World} {b off n : Nat} {F : Nat → Int} (h : ∀ j : Nat, j < n * 2 → w.cell? ⟨b, off + j, none⟩ = .some (.int .i64 (F j))) (i : Nat) (hi : i < n) :
    w.cell? ⟨b, off + i * 2, none⟩ = .some (.int .i64 (F (i * 2))) ∧ w.cell? ⟨b, off + i * 2 + 1, none⟩ = .some (.int .i64 (F (i * 2 + 1))) := by
  refine ⟨h _ (by omega), ?_⟩
  rw [Nat.add_assoc]
  exact h _ (by omega)
theorem info42 : (Try.prog.info? 42).map (fun i => (i.zero, i.size, i.bytes)) = some (some (.agg #[.int .i64 0, .int .i64 0]), 2, 16) := by kernel_rfl
theorem pe_of_owns {w : World} {B n : Nat} {v : Value} {F : Nat → Int} (h : w.ownsRow B 42 2 v n (vL .i64 F (n * 2))) : Pe w v n F := by
  rcases h.2 with ⟨rfl, rfl⟩ | ⟨g, cap, cur, rfl, hb, hg, hc, hm, _, _⟩
  · exact .inl ⟨rfl, .inl rfl⟩
  · refine .inr ⟨g, 0, cap, rfl, hc, hm, (Array.getElem?_eq_some_iff.1 hg).1, fun j hj => ?_⟩
    rw [Nat.zero_add, h.cellAt j hj, vL_get _ _ _ _ hj]
theorem Pe.cells {w : World} {p : Option Addr} {cap n : Nat} {F : Nat → Int} (h : Pe w (.slice p n cap) n F) :
    (p = none → n = 0 ∧ cap = 0) ∧ ∀ ad, p = .some ad → ∀ j u, (vL .i64 F (n * 2))[j]? = .some u → w.cell? (ad.add j) = .some u := by
  rcases h with ⟨rfl, h | ⟨x, cap', h, _⟩⟩ | ⟨b, off, cap', h, h1, h2, h3, h4⟩
  · cases h
    exact ⟨fun _ => ⟨rfl, rfl⟩, fun _ h => by cases h⟩
  · cases h
    exact ⟨fun h => (by cases h), fun _ _ j u hu => by simp [vL] at hu⟩
  · cases h
    refine ⟨fun h => (by cases h), fun ad e j u hu => ?_⟩
    cases e
    have hj : j < n * 2 := by have := (List.getElem?_eq_some_iff.1 hu).1; rwa [vL_length] at this
    rw [vL_get .i64 F _ j hj] at hu
    rw [Addr.add_lit, h4 j hj, hu]
theorem pe_nil (w : World) (F : Nat → Int) : Pe w (.slice none 0 0) 0 F := .inl ⟨rfl, .inl rfl⟩
/-- A peer may be so. -/
def okP (i a : Int) : Bool := decide (0 ≤ i) && decide (i ≤ 1073741824) && decide (0 ≤ a) && decide (a ≤ 1000)
theorem okP_iff {i a : Int} : okP i a = true ↔ 0 ≤ i ∧ i ≤ 1073741824 ∧ 0 ≤ a ∧ a ≤ 1000 := by simp [okP, and_assoc]
/-- The first k peers are right. -/
def aok (F : Nat → Int) : Nat → Bool
  | 0 => true
  | k + 1 => aok F k && okP (F (k * 2)) (F (k * 2 + 1))
theorem aok_succ {F : Nat → Int} {k : Nat} (h : aok F k = true) (h' : okP (F (k * 2)) (F (k * 2 + 1)) = true) : aok F (k + 1) = true := by simp [aok, h, h']
theorem aok_iff {F : Nat → Int} {n : Nat} : aok F n = true ↔ ∀ i, i < n → okP (F (i * 2)) (F (i * 2 + 1)) = true := by
  induction n with
  | zero => exact ⟨fun _ i hi => absurd hi (Nat.not_lt_zero _), fun _ => rfl⟩
  | succ n ih =>
    unfold aok
    simp only [Bool.and_eq_true, ih]
    refine ⟨fun h i hi => ?_, fun h => ⟨fun i hi => h i (by omega), h n (by omega)⟩⟩
    by_cases e : i = n
    · subst e; exact h.2
    · exact h.1 i (by omega)
theorem aok_false {F : Nat → Int} {k n : Nat} (hk : k < n) (h : okP (F (k * 2)) (F (k * 2 + 1)) = false) : aok F n = false := by
  cases q : aok F n with
  | false => rfl
  | true => rw [aok_iff.1 q k hk] at h; cases h
/-- Peers that are right. -/
def rt (n : Nat) (F : Nat → Int) : Bool := decide (1 ≤ n) && decide (n ≤ 8) && aok F n
theorem rt_iff {n : Nat} {F : Nat → Int} : rt n F = true ↔ 1 ≤ n ∧ n ≤ 8 ∧ ∀ i, i < n → 0 ≤ F (i * 2) ∧ F (i * 2) ≤ 1073741824 ∧ 0 ≤ F (i * 2 + 1) ∧ F (i * 2 + 1) ≤ 1000 := by
  simp [rt, aok_iff, okP_iff, and_assoc]
/-- Check's answer. -/
def chk (n : Nat) (F : Nat → Int) : Int := if rt n F then 0 else 1
/-- checkPlace's answer. -/
def plc (n : Nat) (F : Nat → Int) (x : Int) : Int := if rt n F then (if 0 ≤ x ∧ x < n then 0 else 9) else 1
/-- One heard. -/
def hrF (F : Nat → Int) (from_ : Nat) (inc : Int) (j : Nat) : Int := if F (from_ * 2) ≤ inc then (if j = from_ * 2 then inc else if j = from_ * 2 + 1 then 0 else F j) else F j
/-- A tick later. -/
def olF (F : Nat → Int) (j : Nat) : Int := if j % 2 = 1 then (if 1000 < F j + 1 then 1000 else F j + 1) else F j
/-- Is one live? -/
def lvB (F : Nat → Int) (self i : Nat) : Bool := decide (i = self) || (decide (0 < F (i * 2)) && decide (F (i * 2 + 1) < 4))
/-- The live ones among the first k. -/
def lvL (F : Nat → Int) (self : Nat) : Nat → List Nat
  | 0 => []
  | k + 1 => if lvB F self k then lvL F self k ++ [k] else lvL F self k
/-- Naturals, as values. -/
def nL (L : List Nat) : List Value := L.map fun (i : Nat) => .int .i64 (i : Int)
/-- Naturals, as numbers. -/
def nF (L : List Nat) (i : Nat) : Int := ((L.getD i 0 : Nat) : Int)
theorem nL_vL (L : List Nat) : nL L = vL .i64 (nF L) L.length := by
  apply List.ext_getElem?
  intro i
  by_cases h : i < L.length
  · rw [vL_get _ _ _ _ h]
    simp [nL, nF, h]
  · rw [List.getElem?_eq_none (by simp [nL]; omega), List.getElem?_eq_none (by rw [vL_length]; omega)]
theorem nL_length (L : List Nat) : (nL L).length = L.length := by simp [nL]
theorem nL_snoc (L : List Nat) (k : Nat) : nL (L ++ [k]) = nL L ++ [.int .i64 (k : Int)] := by simp [nL]
theorem nL_one (L : List Nat) : ∀ u ∈ nL L, u.oneCell' = true := by
  rw [nL_vL]
  exact vL_one _ _ _
end Go.Proofs.Ytnbmnbgbnagajaa
