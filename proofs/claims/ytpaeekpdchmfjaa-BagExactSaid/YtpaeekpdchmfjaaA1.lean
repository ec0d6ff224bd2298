/- Slices of numbers and of frames, as values. -/
import Derived.Test.YtpaeekpdchmfjaaRows
import Derived.WalkKit
import Derived.WalkSpells
import Derived.StillTactics
import Derived.Laws.Pointers
import Derived.RowKit3
import Derived.Deep.QuietTactic
import Derived.BigQuiet
import Derived.Deep.OwnRows
import Derived.Laws.Rows
import Derived.Laws.Tables
import Derived.Laws.AppendOwn
import Derived.Laws.AppendOwnNone
import Derived.Laws.OwnMore
import Derived.OwnWalk
import Derived.Deep.DeepCutAuto
import Derived.Deep.RegionHeld3
namespace Go.Proofs.Ytpaeekpdchmfjaa
open Go.RowKit

/-- A proposition that no walk looks into. -/
def Hid (p : Prop) : Prop := p
theorem hide {p : Prop} (h : p) : Hid p := h
theorem unhide {p : Prop} (h : Hid p) : p := h
theorem info3 : (Try.prog.info? 3).map (fun i => (i.zero, i.size, i.bytes)) = some (some (.int .i64 0), 1, 8) := by kernel_rfl
theorem below_drewN {B : Nat} {a w : World} (h : Below B a w) (n : Nat) : Below B a (w.drewN n) := ⟨h.os, h.tape, h.output, h.size, h.block⟩

/-- The slice v holds the n numbers F, of kind k. -/
def Sl (k : IntKind) (w : World) (v : Value) (n : Nat) (F : Nat → Int) : Prop :=
  (n = 0 ∧ (v = .slice none 0 0 ∨ ∃ x cap, v = .slice (some x) 0 cap ∧ cap ≤ maxLen)) ∨
  ∃ b off cap, v = .slice (some ⟨b, off, none⟩) n cap ∧ n ≤ cap ∧ cap ≤ maxLen ∧ b < w.heap.size ∧ ∀ i, i < n → w.cell? ⟨b, off + i, none⟩ = some (.int k (F i))
theorem Sl.below {k : IntKind} {w w' : World} {v : Value} {n B : Nat} {F : Nat → Int} (h : Sl k w v n F) (hb : Below B w w') (hB : w.heap.size ≤ B) : Sl k w' v n F := by
  rcases h with h | ⟨b, off, cap, h1, h2, h3, h4, h5⟩
  · exact .inl h
  · exact .inr ⟨b, off, cap, h1, h2, h3, Nat.lt_of_lt_of_le h4 hb.size, fun i hi => (hb.cell (p := ⟨b, off + i, none⟩) (by show b < B; omega)).trans (h5 i hi)⟩
theorem Sl.congr {k : IntKind} {w : World} {v : Value} {n : Nat} {F G : Nat → Int} (h : Sl k w v n F) (e : ∀ i, i < n → F i = G i) : Sl k w v n G := by
  rcases h with h | ⟨b, off, cap, h1, h2, h3, h4, h5⟩
  · exact .inl h
  · exact .inr ⟨b, off, cap, h1, h2, h3, h4, fun i hi => by rw [h5 i hi, e i hi]⟩
theorem Sl.shape {k : IntKind} {w : World} {v : Value} {n : Nat} {F : Nat → Int} (h : Sl k w v n F) : ∃ p cap, v = .slice p n cap ∧ n ≤ cap ∧ cap ≤ maxLen := by
  rcases h with ⟨rfl, rfl | ⟨x, cap, rfl, hc⟩⟩ | ⟨b, off, cap, rfl, h1, h2, _⟩
  · exact ⟨_, _, rfl, Nat.le_refl _, Nat.zero_le _⟩
  · exact ⟨_, _, rfl, Nat.zero_le _, hc⟩
  · exact ⟨_, _, rfl, h1, h2⟩
theorem Sl.some {k : IntKind} {w : World} {p : Option Addr} {cap n : Nat} {F : Nat → Int} (h : Sl k w (.slice p n cap) n F) (hn : 0 < n) : ∃ b off, p = some ⟨b, off, none⟩ ∧ b < w.heap.size ∧ ∀ i : Nat, i < n → w.cell? ⟨b, off + i, none⟩ = .some (.int k (F i)) := by
  rcases h with ⟨h0, _⟩ | ⟨b, off, cap', he, _, _, h3, h4⟩
  · omega
  · cases he
    exact ⟨b, off, rfl, h3, h4⟩

/-- The first n numbers, as values. -/
def vL (k : IntKind) (F : Nat → Int) (n : Nat) : List Value := (List.range n).map fun j => .int k (F j)
theorem vL_succ (k : IntKind) (F : Nat → Int) (n : Nat) : vL k F (n + 1) = vL k F n ++ [.int k (F n)] := by simp [vL, List.range_succ]
theorem vL_length (k : IntKind) (F : Nat → Int) (n : Nat) : (vL k F n).length = n := by simp [vL]
theorem vL_get (k : IntKind) (F : Nat → Int) (n i : Nat) (h : i < n) : (vL k F n)[i]? = some (.int k (F i)) := by simp [vL, h]
theorem vL_one (k : IntKind) (F : Nat → Int) (n : Nat) : ∀ u ∈ vL k F n, u.oneCell' = true := by
  intro u hu
  unfold vL at hu
  obtain ⟨j, _, rfl⟩ := List.mem_map.1 hu
  rfl
theorem vL_congr {k : IntKind} {F G : Nat → Int} {n : Nat} (h : ∀ j, j < n → F j = G j) : vL k F n = vL k G n := by
  unfold vL
  apply List.map_congr_left
  intro j hj
  rw [h j (List.mem_range.1 hj)]
theorem Sl.cells {k : IntKind} {w : World} {p : Option Addr} {cap n : Nat} {F : Nat → Int} (h : Sl k w (.slice p n cap) n F) :
    (p = none → n = 0 ∧ cap = 0) ∧ ∀ ad, p = .some ad → ∀ j u, (vL k F n)[j]? = .some u → w.cell? (ad.add j) = .some u := by
  rcases h with ⟨rfl, h | ⟨x, cap', h, _⟩⟩ | ⟨b, off, cap', h, h1, h2, h3, h4⟩
  · cases h
    exact ⟨fun _ => ⟨rfl, rfl⟩, fun _ h => by cases h⟩
  · cases h
    exact ⟨fun h => (by cases h), fun _ _ j u hu => by simp [vL] at hu⟩
  · cases h
    refine ⟨fun h => (by cases h), fun ad e j u hu => ?_⟩
    cases e
    have hj : j < n := by have := (List.getElem?_eq_some_iff.1 hu).1; rwa [vL_length] at this
    rw [vL_get k F n j hj] at hu
    rw [Addr.add_lit, h4 j hj, hu]
theorem sl_of_owns {k : IntKind} {e : TypeId} {w : World} {B n : Nat} {v : Value} {F : Nat → Int} (h : w.ownsRow B e 1 v n (vL k F n)) : Sl k w v n F := by
  rcases h.2 with ⟨rfl, rfl⟩ | ⟨g, cap, cur, rfl, hb, hg, hc, hm, _, _⟩
  · exact .inl ⟨rfl, .inl rfl⟩
  · refine .inr ⟨g, 0, cap, rfl, hc, hm, (Array.getElem?_eq_some_iff.1 hg).1, fun j hj => ?_⟩
    rw [Nat.zero_add, h.cellAt j (by omega), vL_get k F n j hj]
theorem cells_lit (w : World) (L : List Value) (t : TypeId) : ∀ j u, L[j]? = some u → (w.alloc (.cells L.toArray t)).cell? ((⟨w.heap.size, 0, none⟩ : Addr).add j) = some u := by
  intro j u h
  rw [Addr.add_lit]
  simp [go_sem, h]
theorem sl_lit (k : IntKind) (w : World) (xs : List Int) (t : TypeId) (n : Nat) (hn : xs.length = n) (hm : n ≤ maxLen) : Sl k (w.alloc (.cells (xs.map (Value.int k)).toArray t)) (.slice (some ⟨w.heap.size, 0, none⟩) n n) n (fun i => xs.getD i 0) := by
  refine .inr ⟨w.heap.size, 0, n, rfl, Nat.le_refl _, hm, by simp, fun i hi => ?_⟩
  have h := cells_lit w (xs.map (Value.int k)) t i (.int k (xs.getD i 0)) (by simp [hn, hi])
  rwa [Addr.add_lit] at h


theorem info5 : (Try.prog.info? 5).map (fun i => (i.zero, i.size, i.bytes)) = some (some (.int .u8 0), 1, 1) := by kernel_rfl
theorem info25 : (Try.prog.info? 25).map (fun i => (i.zero, i.size, i.bytes)) = some (some (.agg #[.int .i64 0, .slice none 0 0]), 2, 32) := by kernel_rfl
theorem Sl.len {k : IntKind} {w : World} {v : Value} {n : Nat} {F : Nat → Int} (h : Sl k w v n F) : n ≤ maxLen := by
  obtain ⟨_, _, _, a, b⟩ := h.shape
  exact Nat.le_trans a b
theorem sl_nil {k : IntKind} (w : World) (F : Nat → Int) : Sl k w (.slice none 0 0) 0 F := .inl ⟨rfl, .inl rfl⟩
theorem below_alloc {w w' : World} (h : Below w.heap.size w w') (o : Obj) : Below w.heap.size w (w'.alloc o) := h.alloc h.size o
theorem below_of {w w0 w' : World} (h0 : Below w.heap.size w w0) (h : Below w0.heap.size w0 w') : Below w.heap.size w w' := h0.trans (h.mono h0.size)
theorem below_up {B : Nat} {a w w' : World} (h : Below B a w) (h' : Below B w w') : Below B a w' := h.trans h'
theorem owns_below {e : TypeId} {size : Nat} {w w' : World} {B n : Nat} {v : Value} {L : List Value} (h : w.ownsRow B e size v n L) (hb : Below w.heap.size w w') : w'.ownsRow B e size v n L := by
  refine ⟨h.1, ?_⟩
  rcases h.2 with h2 | ⟨g, cap, cur, h1, h2, h3, h4, h5, h6, h7⟩
  · exact .inl h2
  · exact .inr ⟨g, cap, cur, h1, h2, (hb.block g (Array.getElem?_eq_some_iff.1 h3).1).trans h3, h4, h5, h6, h7⟩
theorem owns_mono {e : TypeId} {size : Nat} {w : World} {B B' n : Nat} {v : Value} {L : List Value} (h : w.ownsRow B e size v n L) (hb : B' ≤ B) : w.ownsRow B' e size v n L := by
  refine ⟨h.1, ?_⟩
  rcases h.2 with h2 | ⟨g, cap, cur, h1, h2, h3⟩
  · exact .inl h2
  · exact .inr ⟨g, cap, cur, h1, Nat.le_trans hb h2, h3⟩
/-- Two rows of unlike kinds lie in unlike blocks. -/
theorem owns_apart {e e' : TypeId} {size size' : Nat} {w : World} {B B' n n' : Nat} {v v' : Value} {L L' : List Value} (h : w.ownsRow B e size v n L) (h' : w.ownsRow B' e' size' v' n' L') (he : e ≠ e') :
    v'.ownBlock = none ∨ v'.ownBlock ≠ v.ownBlock := by
  rcases h'.2 with ⟨rfl, _⟩ | ⟨g', cap', cur', rfl, _, h3', _⟩
  · exact .inl rfl
  · refine .inr fun hq => ?_
    rcases h.2 with ⟨rfl, _⟩ | ⟨g, cap, cur, rfl, _, h3, _⟩
    · cases hq
    · cases hq
      rw [h3] at h3'
      cases h3'
      exact he rfl

/-- A frame: whom it is to, and its bytes. -/
structure Fm where
  t : Int
  n : Nat
  b : Nat → Int
/-- The slice v holds the n frames X. -/
def Fs (w : World) (v : Value) (n : Nat) (X : Nat → Fm) : Prop :=
  (n = 0 ∧ (v = .slice none 0 0 ∨ ∃ x cap, v = .slice (some x) 0 cap ∧ cap ≤ maxLen)) ∨
  ∃ b off cap, ∃ B : Nat → Value, v = .slice (some ⟨b, off, none⟩) n cap ∧ n ≤ cap ∧ cap ≤ maxLen ∧ b < w.heap.size ∧
    ∀ i, i < n → w.cell? ⟨b, off + i * 2, none⟩ = some (.int .i64 (X i).t) ∧ w.cell? ⟨b, off + i * 2 + 1, none⟩ = some (B i) ∧ Sl .u8 w (B i) (X i).n (X i).b
theorem Fs.below {w w' : World} {v : Value} {n B : Nat} {X : Nat → Fm} (h : Fs w v n X) (hb : Below B w w') (hB : w.heap.size ≤ B) : Fs w' v n X := by
  rcases h with h | ⟨b, off, cap, V, h1, h2, h3, h4, h5⟩
  · exact .inl h
  · refine .inr ⟨b, off, cap, V, h1, h2, h3, Nat.lt_of_lt_of_le h4 hb.size, fun i hi => ?_⟩
    obtain ⟨p, q, r⟩ := h5 i hi
    exact ⟨(hb.cell (p := ⟨b, off + i * 2, none⟩) (by show b < B; omega)).trans p, (hb.cell (p := ⟨b, off + i * 2 + 1, none⟩) (by show b < B; omega)).trans q, r.below hb hB⟩
theorem Fs.shape {w : World} {v : Value} {n : Nat} {X : Nat → Fm} (h : Fs w v n X) : ∃ p cap, v = .slice p n cap ∧ n ≤ cap ∧ cap ≤ maxLen := by
  rcases h with ⟨rfl, rfl | ⟨x, cap, rfl, hc⟩⟩ | ⟨b, off, cap, _, rfl, h1, h2, _⟩
  · exact ⟨_, _, rfl, Nat.le_refl _, Nat.zero_le _⟩
  · exact ⟨_, _, rfl, Nat.zero_le _, hc⟩
  · exact ⟨_, _, rfl, h1, h2⟩
theorem Fs.some {w : World} {p : Option Addr} {cap n : Nat} {X : Nat → Fm} (h : Fs w (.slice p n cap) n X) (hn : 0 < n) : ∃ b off, ∃ B : Nat → Value, p = some ⟨b, off, none⟩ ∧ b < w.heap.size ∧
    ∀ i : Nat, i < n → w.cell? ⟨b, off + i * 2, none⟩ = .some (.int .i64 (X i).t) ∧ w.cell? ⟨b, off + i * 2 + 1, none⟩ = .some (B i) ∧ Sl .u8 w (B i) (X i).n (X i).b := by
  rcases h with ⟨h0, _⟩ | ⟨b, off, cap', B, he, _, _, h3, h4⟩
  · omega
  · cases he
    exact ⟨b, off, B, rfl, h3, h4⟩
theorem Fs.congr {w : World} {v : Value} {n : Nat} {X Y : Nat → Fm} (h : Fs w v n X) (e : ∀ i, i < n → (X i).t = (Y i).t ∧ (X i).n = (Y i).n ∧ ∀ j, j < (X i).n → (X i).b j = (Y i).b j) : Fs w v n Y := by
  rcases h with h | ⟨b, off, cap, V, h1, h2, h3, h4, h5⟩
  · exact .inl h
  · refine .inr ⟨b, off, cap, V, h1, h2, h3, h4, fun i hi => ?_⟩
    obtain ⟨p, q, r⟩ := h5 i hi
    obtain ⟨e1, e2, e3⟩ := e i hi
    refine ⟨by rw [p, e1], q, ?_⟩
    rw [← e2]
    exact r.congr e3
theorem fs_nil (w : World) (X : Nat → Fm) : Fs w (.slice none 0 0) 0 X := .inl ⟨rfl, .inl rfl⟩

/-- The first n frames, as cells. -/
def fL (T : Nat → Int) (B : Nat → Value) : Nat → List Value
  | 0 => []
  | n + 1 => fL T B n ++ [.int .i64 (T n), B n]
theorem fL_length (T : Nat → Int) (B : Nat → Value) (n : Nat) : (fL T B n).length = n * 2 := by
  induction n with
  | zero => rfl
  | succ n ih => simp [fL, ih]; omega
theorem fL_get (T : Nat → Int) (B : Nat → Value) (n i : Nat) (h : i < n) : (fL T B n)[i * 2]? = some (.int .i64 (T i)) ∧ (fL T B n)[i * 2 + 1]? = some (B i) := by
  induction n with
  | zero => omega
  | succ n ih =>
    unfold fL
    by_cases hq : i < n
    · rw [List.getElem?_append_left (by rw [fL_length]; omega), List.getElem?_append_left (by rw [fL_length]; omega)]
      exact ih hq
    · obtain rfl : i = n := by omega
      rw [List.getElem?_append_right (by rw [fL_length]; omega), List.getElem?_append_right (by rw [fL_length]; omega), fL_length]
      simp [show i * 2 + 1 - i * 2 = 1 by omega]
theorem fL_congr {T T' : Nat → Int} {B B' : Nat → Value} {n : Nat} (h : ∀ i, i < n → T i = T' i ∧ B i = B' i) : fL T B n = fL T' B' n := by
  induction n with
  | zero => rfl
  | succ n ih =>
    unfold fL
    rw [ih fun i hi => h i (by omega), (h n (by omega)).1, (h n (by omega)).2]
/-- First n of the one, then the other. -/
def cat {α : Type} (F : Nat → α) (n : Nat) (G : Nat → α) (i : Nat) : α := if i < n then F i else G (i - n)
theorem fL_append (T T' : Nat → Int) (B B' : Nat → Value) (n m : Nat) : fL T B n ++ fL T' B' m = fL (cat T n T') (cat B n B') (n + m) := by
  induction m with
  | zero =>
    simp only [fL, List.append_nil, Nat.add_zero]
    exact fL_congr fun i hi => by simp [cat, hi]
  | succ m ih =>
    rw [← Nat.add_assoc]
    show fL T B n ++ (fL T' B' m ++ [_, _]) = fL (cat T n T') (cat B n B') (n + m) ++ [_, _]
    rw [← List.append_assoc, ih]
    simp [cat, show ¬ n + m < n by omega]
theorem fL_one (T : Nat → Int) (B : Nat → Value) (n : Nat) (h : ∀ i, i < n → (B i).oneCell' = true) : ∀ u ∈ fL T B n, u.oneCell' = true := by
  induction n with
  | zero => intro u hu; cases hu
  | succ n ih =>
    intro u hu
    unfold fL at hu
    rcases List.mem_append.1 hu with hu | hu
    · exact ih (fun i hi => h i (by omega)) u hu
    · simp at hu
      rcases hu with rfl | rfl
      · rfl
      · exact h n (by omega)
theorem oneCell_slice (p : Option Addr) (n c : Nat) : (Value.slice p n c).oneCell' = true := rfl
theorem Sl.one {k : IntKind} {w : World} {v : Value} {n : Nat} {F : Nat → Int} (h : Sl k w v n F) : v.oneCell' = true := by
  obtain ⟨p, c, rfl, _⟩ := h.shape
  rfl
/-- v holds the n frames X, in memory from block b0 on; no two share their bytes. -/
def Own (w : World) (b0 : Nat) (v : Value) (n : Nat) (X : Nat → Fm) : Prop :=
  ∃ B : Nat → Value, w.ownsRow b0 25 2 v n (fL (fun i => (X i).t) B n) ∧ (∀ i, i < n → w.ownsRow b0 5 1 (B i) (X i).n (vL .u8 (X i).b (X i).n)) ∧
    ∀ i j, i < j → j < n → ∀ b, (B i).ownBlock = some b → (B j).ownBlock ≠ some b
theorem Own.below {w w' : World} {b0 n : Nat} {v : Value} {X : Nat → Fm} (h : Own w b0 v n X) (hb : Below w.heap.size w w') : Own w' b0 v n X := by
  obtain ⟨B, h1, h2, h3⟩ := h
  exact ⟨B, owns_below h1 hb, fun i hi => owns_below (h2 i hi) hb, h3⟩
theorem Own.mono {w : World} {b0 b1 n : Nat} {v : Value} {X : Nat → Fm} (h : Own w b0 v n X) (hb : b1 ≤ b0) : Own w b1 v n X := by
  obtain ⟨B, h1, h2, h3⟩ := h
  exact ⟨B, owns_mono h1 hb, fun i hi => owns_mono (h2 i hi) hb, h3⟩
theorem fs_of_row {w : World} {b0 n : Nat} {v : Value} {X : Nat → Fm} {B : Nat → Value} (h : w.ownsRow b0 25 2 v n (fL (fun i => (X i).t) B n)) (h2 : ∀ i, i < n → Sl .u8 w (B i) (X i).n (X i).b) : Fs w v n X := by
  rcases h.2 with ⟨rfl, rfl⟩ | ⟨g, cap, cur, rfl, hb, hg, hc, hm, _, _⟩
  · exact .inl ⟨rfl, .inl rfl⟩
  · refine .inr ⟨g, 0, cap, B, rfl, hc, hm, (Array.getElem?_eq_some_iff.1 hg).1, fun j hj => ⟨?_, ?_, h2 j hj⟩⟩
    · rw [Nat.zero_add, h.cellAt (j * 2) (by omega), (fL_get _ B n j hj).1]
    · rw [Nat.zero_add, h.cellAt (j * 2 + 1) (by omega), (fL_get _ B n j hj).2]
theorem Own.fs {w : World} {b0 n : Nat} {v : Value} {X : Nat → Fm} (h : Own w b0 v n X) : Fs w v n X := by
  obtain ⟨B, h1, h2, _⟩ := h
  exact fs_of_row h1 fun i hi => sl_of_owns (h2 i hi)
theorem own_nil (w : World) (b0 : Nat) (X : Nat → Fm) : Own w b0 (.slice none 0 0) 0 X :=
  ⟨fun _ => .slice none 0 0, World.ownsRow_nil _ _ _ _, fun _ hi => absurd hi (Nat.not_lt_zero _), fun _ _ _ h => absurd h (Nat.not_lt_zero _)⟩
/-- The cells of a slice of frames. -/
theorem Fs.cells {w : World} {p : Option Addr} {cap n : Nat} {X : Nat → Fm} (h : Fs w (.slice p n cap) n X) :
    (p = none → n = 0 ∧ cap = 0) ∧ ∃ B : Nat → Value, (∀ i, i < n → Sl .u8 w (B i) (X i).n (X i).b) ∧ ∀ ad, p = .some ad → ∀ j u, (fL (fun i => (X i).t) B n)[j]? = .some u → w.cell? (ad.add j) = .some u := by
  rcases h with ⟨rfl, h | ⟨x, cap', h, _⟩⟩ | ⟨b, off, cap', B, h, h1, h2, h3, h4⟩
  · cases h
    exact ⟨fun _ => ⟨rfl, rfl⟩, fun _ => .slice none 0 0, fun i hi => absurd hi (Nat.not_lt_zero _), fun _ h => by cases h⟩
  · cases h
    exact ⟨fun h => (by cases h), fun _ => .slice none 0 0, fun i hi => absurd hi (Nat.not_lt_zero _), fun _ _ j u hu => by simp [fL] at hu⟩
  · cases h
    refine ⟨fun h => (by cases h), B, fun i hi => (h4 i hi).2.2, fun ad e j u hu => ?_⟩
    cases e
    have hj : j < n * 2 := by have := (List.getElem?_eq_some_iff.1 hu).1; rwa [fL_length] at this
    rw [Addr.add_lit]
    rcases Nat.mod_two_eq_zero_or_one j with hq | hq
    · obtain ⟨i, rfl⟩ : ∃ i, j = i * 2 := ⟨j / 2, by omega⟩
      rw [(fL_get _ B n i (by omega)).1] at hu
      rw [(h4 i (by omega)).1, hu]
    · obtain ⟨i, rfl⟩ : ∃ i, j = i * 2 + 1 := ⟨j / 2, by omega⟩
      rw [(fL_get _ B n i (by omega)).2] at hu
      rw [← Nat.add_assoc, (h4 i (by omega)).2.1, hu]
end Go.Proofs.Ytpaeekpdchmfjaa
