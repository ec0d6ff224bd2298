/- The bytes of a string, laid anew. -/
import Derived.Test.YtaojifgbnllebaaDoorD0
import Derived.Laws.IdiomStrings
namespace Go.Proofs.YtaojifgbnllebaaDoor
open Go.RowKit

theorem bytesRow_get (s : ByteArray) (c i : Nat) (h : i < s.size) : (bytesRow s c)[i]? = some (.int .u8 ((s.data.toList.map (·.toNat)).getD i 0 : Nat)) := by
  have h' : i < s.data.size := h
  have h2 : (s.data.map fun b => Value.int .u8 b.toNat).size = s.size := by simp
  rw [bytesRow, Array.getElem?_append_left (by rw [h2]; exact h), Array.getElem?_map, Array.getElem?_eq_getElem h']
  have e : s.data[i]? = some s.data[i] := Array.getElem?_eq_getElem h'
  simp [List.getD, e]
theorem bsl_conv (A : World) (s : ByteArray) (l : List Nat) (hl : s.data.toList.map (·.toNat) = l) (n : Nat) (hn : s.size = n) (c : Nat) (hc : n ≤ c) (hc2 : c < 2 ^ 63) (hn60 : n < 2 ^ 60) (b : Nat) (fr : Nat × Nat) (hb : A.heap.size = b) :
    BSl (A.alloc (.cells (bytesRow s c) 5 fr)).drew.drew (.slice (some ⟨b, 0, none⟩) n c) n (byteAt l) := by
  have hb' : (A.alloc (.cells (bytesRow s c) 5 fr)).drew.drew.heap[b]? = some (.cells (bytesRow s c) 5 fr) := by
    rw [← hb]; exact heap_alloc_new _ _
  refine .inr ⟨b, 0, c, rfl, hc, ⟨hc2, hn60⟩, (Array.getElem?_eq_some_iff.1 hb').1, fun i hi => ?_⟩
  rw [Nat.zero_add, cell_of_row _ _ _ _ _ fr hb', bytesRow_get s c i (by omega), hl]
  rfl
theorem cap_bd (w : World) (n : Nat) (h : n ≤ 1000) : grownCap w n 0 5 < 2 ^ 63 := by
  have := grownCap_le_maxLen w n 0 5 (by unfold maxLen; omega)
  unfold maxLen at this
  omega

end Go.Proofs.YtaojifgbnllebaaDoor
