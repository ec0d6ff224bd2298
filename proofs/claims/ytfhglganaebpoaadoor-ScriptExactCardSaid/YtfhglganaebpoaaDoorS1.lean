/- Slices of steps, told cell by cell. -/
import Derived.Test.YtfhglganaebpoaaDoorC2
import Derived.Deep.MidRow
import Derived.Lib.LazyBuf
namespace Go.Proofs.YtfhglganaebpoaaDoor
open Go.RowKit

/-- The slice v holds n steps, whose numbers, one behind the other, are F. -/
def Ss (w : World) (v : Value) (n : Nat) (F : Nat → Int) : Prop :=
  (n = 0 ∧ (v = .slice none 0 0 ∨ ∃ x cap, v = .slice (some x) 0 cap ∧ cap ≤ maxLen)) ∨
  ∃ b off cap, v = .slice (some ⟨b, off, none⟩) n cap ∧ n ≤ cap ∧ cap ≤ maxLen ∧ b < w.heap.size ∧ ∀ j, j < n * 5 → w.cell? ⟨b, off + j, none⟩ = some (.int .i64 (F j))
theorem Ss.below {w w' : World} {v : Value} {n B : Nat} {F : Nat → Int} (h : Ss w v n F) (hb : Below B w w') (hB : w.heap.size ≤ B) : Ss w' v n F := by
  rcases h with h | ⟨b, off, cap, h1, h2, h3, h4, h5⟩
  · exact .inl h
  · exact .inr ⟨b, off, cap, h1, h2, h3, Nat.lt_of_lt_of_le h4 hb.size, fun i hi => (hb.cell (p := ⟨b, off + i, none⟩) (by show b < B; omega)).trans (h5 i hi)⟩
theorem Ss.congr {w : World} {v : Value} {n : Nat} {F G : Nat → Int} (h : Ss w v n F) (e : ∀ j, j < n * 5 → F j = G j) : Ss w v n G := by
  rcases h with h | ⟨b, off, cap, h1, h2, h3, h4, h5⟩
  · exact .inl h
  · exact .inr ⟨b, off, cap, h1, h2, h3, h4, fun i hi => by rw [h5 i hi, e i hi]⟩
theorem Ss.shape {w : World} {v : Value} {n : Nat} {F : Nat → Int} (h : Ss w v n F) : ∃ p cap, v = .slice p n cap ∧ n ≤ cap ∧ cap ≤ maxLen := by
  rcases h with ⟨rfl, rfl | ⟨x, cap, rfl, hc⟩⟩ | ⟨b, off, cap, rfl, h1, h2, _⟩
  · exact ⟨_, _, rfl, Nat.le_refl _, Nat.zero_le _⟩
  · exact ⟨_, _, rfl, Nat.zero_le _, hc⟩
  · exact ⟨_, _, rfl, h1, h2⟩
theorem Ss.some {w : World} {p : Option Addr} {cap n : Nat} {F : Nat → Int} (h : Ss w (.slice p n cap) n F) (hn : 0 < n) : ∃ b off, p = some ⟨b, off, none⟩ ∧ b < w.heap.size ∧ ∀ j : Nat, j < n * 5 → w.cell? ⟨b, off + j, none⟩ = .some (.int .i64 (F j)) := by
  rcases h with ⟨h0, _⟩ | ⟨b, off, cap', he, _, _, h3, h4⟩
  · omega
  · cases he
    exact ⟨b, off, rfl, h3, h4⟩
/-- Step i of the numbers F. -/
def stp (F : Nat → Int) (i : Nat) : Stp := ⟨F (i * 5), F (i * 5 + 1), F (i * 5 + 2), F (i * 5 + 3), F (i * 5 + 4)⟩
/-- The five cells of a step. -/
theorem Ss.five {w : World} {b off n : Nat} {F : Nat → Int} (h : ∀ j : Nat, j < n * 5 → w.cell? ⟨b, off + j, none⟩ = .some (.int .i64 (F j))) (i : Nat) (hi : i < n) :
    w.cell? ⟨b, off + i * 5, none⟩ = .some (.int .i64 (F (i * 5))) ∧ w.cell? ⟨b, off + i * 5 + 1, none⟩ = .some (.int .i64 (F (i * 5 + 1))) ∧ w.cell? ⟨b, off + i * 5 + 2, none⟩ = .some (.int .i64 (F (i * 5 + 2))) ∧ w.cell? ⟨b, off + i * 5 + 3, none⟩ = .some (.int .i64 (F (i * 5 + 3))) ∧ w.cell? ⟨b, off + i * 5 + 4, none⟩ = .some (.int .i64 (F (i * 5 + 4))) := by
  refine ⟨h _ (by omega), ?_, ?_, ?_, ?_⟩ <;> (rw [Nat.add_assoc]; exact h _ (by omega))
theorem row_there {w : World} {g o n N : Nat} {t : TypeId} {f : Nat → Value} (R : w.rowIs g t N f) (h : o + n ≤ N) : w.there g o n := fun j hj =>
  ⟨by rw [R.cell (i := o + j) (by omega)]; rfl, R.frozen _⟩
theorem row_below {w w' : World} {g N : Nat} {t : TypeId} {f : Nat → Value} (R : w.rowIs g t N f) (b : Below w.heap.size w w') : w'.rowIs g t N f := R.of_block (b.block g R.lt)
theorem row_of_owns {w : World} {B n g : Nat} {xs : List Value} (h : w.ownsRow B 27 5 (.slice (some ⟨g, 0, none⟩) n n) n xs) : w.rowIs g 27 (n * 5) (fun j => xs.getD j undef) := by
  obtain ⟨hl, h⟩ := h
  rcases h with ⟨h, _⟩ | ⟨g', cap, cur, he, hb, hg, hc, hm, hs, ht⟩
  · cases h
  · cases he
    refine ⟨cur, hg, hs, fun i hi => ?_⟩
    rw [List.take_of_length_le (by simp [hs])] at ht
    subst ht
    simp [List.getD, show i < cur.size by omega]
theorem owns_of_row {w : World} {B n g : Nat} {f : Nat → Value} {F : Nat → Int} (h : w.rowIs g 27 (n * 5) f) (hf : ∀ j, j < n * 5 → f j = .int .i64 (F j)) (hB : B ≤ g) (hn : n ≤ maxLen) : w.ownsRow B 27 5 (.slice (some ⟨g, 0, none⟩) n n) n (vL .i64 F (n * 5)) := by
  obtain ⟨c, hc, hs, hi⟩ := h
  refine ⟨vL_length _ _ _, .inr ⟨g, n, c, rfl, hB, hc, Nat.le_refl _, hn, hs, ?_⟩⟩
  rw [List.take_of_length_le (by simp [hs])]
  apply List.ext_getElem?
  intro i
  by_cases h : i < n * 5
  · rw [vL_get _ _ _ _ h, Array.getElem?_toList, hi i h, hf i h]
  · rw [List.getElem?_eq_none (by simp; omega), List.getElem?_eq_none (by rw [vL_length]; omega)]
theorem ss_of_owns {w : World} {B n : Nat} {v : Value} {F : Nat → Int} (h : w.ownsRow B 27 5 v n (vL .i64 F (n * 5))) : Ss w v n F := by
  rcases h.2 with ⟨rfl, rfl⟩ | ⟨g, cap, cur, rfl, hb, hg, hc, hm, _, _⟩
  · exact .inl ⟨rfl, .inl rfl⟩
  · refine .inr ⟨g, 0, cap, rfl, hc, hm, (Array.getElem?_eq_some_iff.1 hg).1, fun j hj => ?_⟩
    rw [Nat.zero_add, h.cellAt j hj, vL_get _ _ _ _ hj]
theorem info27' : (Tryd.prog.info? 27).map (fun i => (i.zero, i.size, i.bytes)) = some (some (.agg #[.int .i64 0, .int .i64 0, .int .i64 0, .int .i64 0, .int .i64 0]), 5, 40) := by kernel_rfl
set_option maxRecDepth 100000 in
/-- The bytes from a step on. -/
theorem slice_from (b off n c k : Nat) (hk : k * 5 < n) (hc : n ≤ c) (w : World) : (Instr.slice 24 (.slice (some ⟨b, off, none⟩) n c) (some (.int .i64 ((k : Int) * 5))) none none).run Tryd.prog w = .ok (.slice (some ⟨b, off + k * 5, none⟩) (n - k * 5) (c - k * 5)) w := by
  obtain ⟨i, hi, hz0, hz1, hz2⟩ := info_parts info5
  have hu : Tryd.prog.underlying 24 = some (.slice 5) := Tryd.underlying24
  have z5 : ∀ w, (Go.sizeOf 5).run Tryd.prog w = .ok 1 w := fun w => by simp [Go.sizeOf, typeInfo, hi, hz1]
  have e1 : ((k : Int) * 5).toNat = k * 5 := by omega
  rw [run_slice_l (P := Tryd.prog) (w := w) 24 _ _ _ (by rw [hu]; rfl) .i64 ((k : Int) * 5) (by omega) (by omega)]
  simp only [show Tryd.prog.elem 24 = 5 from rfl, z5, Result.andThen, sliced, e1]
  rw [if_neg (by omega)]
  simp [Addr.add]
end Go.Proofs.YtfhglganaebpoaaDoor
