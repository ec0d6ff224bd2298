/- A slice of the call's own that holds a list. -/
import Derived.Test.YtgglnhnokhpnpaaDoorA6
namespace Go.Proofs.YtgglnhnokhpnpaaDoor
open Go.RowKit

theorem owns_shape {e : TypeId} {w : World} {B n : Nat} {v : Value} {L : List Value} (h : w.ownsRow B e 1 v n L) : ∃ q c, v = .slice q n c := by
  rcases h.2 with ⟨rfl, rfl⟩ | ⟨g, cap, cur, rfl, _⟩
  · exact ⟨_, _, rfl⟩
  · exact ⟨_, _, rfl⟩
/-- A slice of the call's own that holds a list. -/
def OL (w : World) (B : Nat) (v : Value) (L : List Int) : Prop := w.ownsRow B 3 1 v L.length (L.map (Value.int .i64))
theorem iL_zF (L : List Int) : iL (zF L) L.length = L.map (Value.int .i64) := by
  apply List.ext_getElem
  · simp [iL]
  · intro i h1 h2
    have hi : i < L.length := by simpa using h2
    simp [iL, zF, List.getD, hi]
theorem OL.il {w : World} {B : Nat} {v : Value} {L : List Int} (h : OL w B v L) : IL w v L := by
  unfold OL at h
  rw [← iL_zF] at h
  exact isl_of_owns h
theorem OL.nil (w : World) (B : Nat) : OL w B (.slice none 0 0) [] := World.ownsRow_nil _ _ _ _
theorem OL.mono {w : World} {A B : Nat} {v : Value} {L : List Int} (h : OL w B v L) (hA : A ≤ B) : OL w A v L := by
  refine ⟨h.1, ?_⟩
  rcases h.2 with q | ⟨g, cap, cur, e, hb, r⟩
  · exact .inl q
  · exact .inr ⟨g, cap, cur, e, by omega, r⟩
/-- It stays, where all that lies so far stays. -/
theorem OL.below {w w' : World} {B C : Nat} {v : Value} {L : List Int} (h : OL w B v L) (hb : Below C w w') (hC : w.heap.size ≤ C) : OL w' B v L := by
  refine ⟨h.1, ?_⟩
  rcases h.2 with q | ⟨g, cap, cur, e, hB, hg, r⟩
  · exact .inl q
  · have hlt : g < w.heap.size := (Array.getElem?_eq_some_iff.1 hg).1
    exact .inr ⟨g, cap, cur, e, hB, (hb.block g (by omega)).trans hg, r⟩
end Go.Proofs.YtgglnhnokhpnpaaDoor
