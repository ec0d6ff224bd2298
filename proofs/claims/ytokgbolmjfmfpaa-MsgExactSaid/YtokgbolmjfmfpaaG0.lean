/- Good messages; walk of Good. -/
import Derived.Test.YtokgbolmjfmfpaaW1
namespace Go.Proofs.Ytokgbolmjfmfpaa
open Go.RowKit

/-- The message that Good answers. -/
def gd (k : Nat) (N V : Int) : Mg :=
  match k with
  | 1 => ⟨1, N % 8, 1 + V, (N + 1) % 8, 0, 0, 0, 0, 0, 0, 0, 0, 0, 0⟩
  | 2 => ⟨2, N % 8, 1 + V, (N + 1) % 8, 1 + N, N % 4, V, 0, 0, 0, 0, 0, 0, 0⟩
  | 3 => ⟨3, N % 8, 1 + V, (N + 1) % 8, 1 + N, N % 4, V, 1 + N, V, 0, 0, 0, 0, 0⟩
  | 4 => ⟨4, N % 8, 1 + V, (N + 1) % 8, 1 + N, N % 4, 0, 0, 0, 0, (N + 2) % 8, 0, 0, 0⟩
  | 5 => ⟨5, N % 8, 1 + V, (N + 1) % 8, 1 + N, N % 4, 0, 0, 0, 0, 0, 0, 0, 0⟩
  | 6 => ⟨6, N % 8, 1 + V, (N + 1) % 8, 1 + N, N % 4, 0, 0, 0, 0, 0, 0, 0, 0⟩
  | 7 => ⟨7, N % 8, 1 + V, (N + 1) % 8, 1 + N, N % 4, 1 + V, 1 + N, 0, V, 0, 0, 0, 0⟩
  | 8 => ⟨8, N % 8, 1 + V, (N + 1) % 8, 1 + N, N % 4, 1 + V, 1 + N, 0, 0, 0, 0, 0, 0⟩
  | 9 => ⟨9, N % 8, 1 + V, (N + 1) % 8, 1 + N, N % 4, 1 + V, 1 + N, 1 + N + V, 0, 0, 0, 0, 0⟩
  | 10 => ⟨10, N % 8, 1 + V, (N + 1) % 8, 1 + N, N % 4, 0, 0, 0, V, N % 8, 1 + V, 1 + N, V % 17⟩
  | 11 => ⟨11, N % 8, 1 + V, (N + 1) % 8, 1 + N, N % 4, 0, 0, 0, V, N % 8, 1 + V, 1 + N % 40, V % 17⟩
  | 12 => ⟨12, N % 8, 1 + V, (N + 1) % 8, 1 + N, N % 4, 0, 0, 0, V % 8, 0, 0, 1 + N % 40, 0⟩
  | 13 => ⟨13, N % 8, 1 + V, (N + 1) % 8, 1 + N, N % 4, 0, 0, 0, 0, 0, 0, 1 + N % 40, 0⟩
  | _ => zeroM
/-- Its lists. -/
def gp (k : Nat) (N : Int) : List Int :=
  match k with
  | 3 => [N % 8, (N + 3) % 8]
  | 11 => [N % 8]
  | _ => []
def gt (k : Nat) (N : Int) : List Int :=
  match k with
  | 11 => [(N + 1) % 8, (N + 5) % 8]
  | _ => []
/-- A list as a function. -/
def lF (l : List Int) (i : Nat) : Int := l.getD i 0
theorem sl_setRow {w : World} {v : Value} {n g : Nat} {F : Nat → Int} {cs : Array Value} (h : Sl .i64 w v n F) (hg : ∀ b off cap, v = .slice (some ⟨b, off, none⟩) n cap → b ≠ g) : Sl .i64 (w.setRow g cs) v n F := by
  rcases h with h | ⟨b, off, cap, h1, h2, h3, h4, h5⟩
  · exact .inl h
  · exact .inr ⟨b, off, cap, h1, h2, h3, by rw [size_setRow]; exact h4, fun i hi => (cell_setRow_other w g cs ⟨b, off + i, none⟩ (hg b off cap h1)).trans (h5 i hi)⟩
theorem heap3_old (w : World) (A B C : Obj) : (((w.alloc A).alloc B).alloc C).heap[w.heap.size]? = some A :=
  (Below.heap_alloc _ C w.heap.size (by simp; omega)).trans (heap_alloc2_old w A B)
theorem heap4_old (w : World) (A B C D : Obj) : ((((w.alloc A).alloc B).alloc C).alloc D).heap[w.heap.size]? = some A :=
  (Below.heap_alloc _ D w.heap.size (by simp; omega)).trans (heap3_old w A B C)
theorem heap4_mid (w : World) (A B C D : Obj) : ((((w.alloc A).alloc B).alloc C).alloc D).heap[w.heap.size + 1]? = some B :=
  (Below.heap_alloc _ D (w.heap.size + 1) (by simp)).trans (heap3_mid w A B C)
end Go.Proofs.Ytokgbolmjfmfpaa
