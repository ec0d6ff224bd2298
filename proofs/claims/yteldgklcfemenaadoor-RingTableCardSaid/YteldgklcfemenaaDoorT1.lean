/- The heads of the nodes' and the topics' names; small laws for bellwetherlaw03.RingTable. -/
import Derived.Test.YteldgklcfemenaaDoorB1
import Derived.Test.YteldgklcfemenaaDoorShE2
import Derived.Laws.IdiomStrings
import Derived.Laws.Concat
namespace Go.Proofs.YteldgklcfemenaaDoor
open Go.RowKit

/-- A digit, as a text. -/
def dig (a : Int) : ByteArray := ⟨#[UInt8.ofNat (48 + a.toNat)]⟩
/-- A letter and a digit, as a text. -/
def nam (c : UInt8) (a : Int) : ByteArray := ⟨#[c, UInt8.ofNat (48 + a.toNat)]⟩
theorem slice_dig (a : Int) (h : IsN a) (w : World) :
    (Instr.slice 9 (.string { data := #[48, 49, 50, 51, 52, 53, 54, 55] }) (some (.int .i64 a)) (some (.int .i64 (a + 1))) none).run Tryd.prog w = .ok (.string (dig a)) w := by
  obtain ⟨h0, h1⟩ := h
  obtain ⟨n, rfl⟩ := Int.eq_ofNat_of_zero_le h0
  have h2 : n < 8 := by omega
  match n, h2 with
  | 0, _ | 1, _ | 2, _ | 3, _ | 4, _ | 5, _ | 6, _ | 7, _ =>
    unfold Instr.slice
    simp only [Sem.run_bind, run_underlying Tryd.underlying9 w]
    rfl
theorem add_dig (c : UInt8) (a : Int) (w : World) : (Op.stringOp .add { data := #[c] } (dig a)).run Tryd.prog w = .ok (.string (nam c a)) w := by
  have e : ({ data := #[c] } : ByteArray) ++ dig a = nam c a := by
    apply ByteArray.ext
    rfl
  rw [run_string_add_sum w _ _ (by show 1 + 1 ≤ _; omega), e]
theorem nam_size (c : UInt8) (a : Int) : (nam c a).size = 2 := rfl

/-- The bytes of a name. -/
def namL (c : Nat) (a : Int) : List Nat := [c, 48 + a.toNat]
theorem head_n (a : Int) (h : IsN a) : Sh.headN (Sh.shaS Sh.s0 Sh.kk (Sh.byteAt (namL 110 a)) 2).byte 8 / 4 = nk a := by
  obtain ⟨h0, h1⟩ := h
  obtain ⟨n, rfl⟩ := Int.eq_ofNat_of_zero_le h0
  match n, h1 with
  | 0, _ => exact Sh.n0_H
  | 1, _ => exact Sh.n1_H
  | 2, _ => exact Sh.n2_H
  | 3, _ => exact Sh.n3_H
  | 4, _ => exact Sh.n4_H
  | 5, _ => exact Sh.n5_H
  | 6, _ => exact Sh.n6_H
  | 7, _ => exact Sh.n7_H
theorem head_t (a : Int) (h : IsT a) : Sh.headN (Sh.shaS Sh.s0 Sh.kk (Sh.byteAt (namL 116 a)) 2).byte 8 / 4 = tk a := by
  obtain ⟨h0, h1⟩ := h
  obtain ⟨n, rfl⟩ := Int.eq_ofNat_of_zero_le h0
  match n, h1 with
  | 0, _ => exact Sh.t0_H
  | 1, _ => exact Sh.t1_H
  | 2, _ => exact Sh.t2_H
  | 3, _ => exact Sh.t3_H
theorem namL_bd (c : Nat) (hc : c < 256) (a : Int) (h : IsN a) (i : Nat) : 0 ≤ Sh.byteAt (namL c a) i ∧ Sh.byteAt (namL c a) i < 256 := by
  obtain ⟨h0, h1⟩ := h
  have : (namL c a).getD i 0 < 256 := by
    match i with
    | 0 => exact hc
    | 1 => show 48 + a.toNat < 256; omega
    | i + 2 => show 0 < 256; omega
  unfold Sh.byteAt
  omega
theorem nam_nums (c : UInt8) (a : Int) (h : IsN a) : (nam c a).data.toList.map (·.toNat) = namL c.toNat a := by
  obtain ⟨h0, h1⟩ := h
  have e : (UInt8.ofNat (48 + a.toNat)).toNat = 48 + a.toNat := by
    rw [UInt8.toNat_ofNat']
    omega
  show [c.toNat, (UInt8.ofNat (48 + a.toNat)).toNat] = _
  rw [e]
  rfl
theorem bytesRow_get (s : ByteArray) (c i : Nat) (h : i < s.size) : (bytesRow s c)[i]? = some (.int .u8 ((s.data.toList.map (·.toNat)).getD i 0 : Nat)) := by
  have h' : i < s.data.size := h
  have h2 : (s.data.map fun b => Value.int .u8 b.toNat).size = s.size := by simp
  rw [bytesRow, Array.getElem?_append_left (by rw [h2]; exact h), Array.getElem?_map, Array.getElem?_eq_getElem h']
  have e : s.data[i]? = some s.data[i] := Array.getElem?_eq_getElem h'
  simp [List.getD, e]
theorem cap_bd (w : World) (n : Nat) (h : n ≤ 1000) : grownCap w n 0 5 < 2 ^ 63 := by
  have := grownCap_le_maxLen w n 0 5 (by unfold maxLen; omega)
  unfold maxLen at this
  omega
theorem head_conv (W A : World) (c : UInt8) (a : Int) (h : IsN a) (fr : Nat × Nat) (cap : Nat) (hc1 : 2 ≤ cap) (hc2 : cap < 2 ^ 63) (hA : A.heap[W.heap.size]? = some (.cells (bytesRow (nam c a) cap) 5 fr)) (hB : Below W.heap.size W A) (hG : Sh.Glob Sh.s0 Sh.kk W) :
    Calls Tryd.prog 21 #[.slice (some ⟨W.heap.size, 0, none⟩) 2 cap] A fun e w' => e = .returned (.int .i64 (Sh.headN (Sh.shaS Sh.s0 Sh.kk (Sh.byteAt (namL c.toNat a)) 2).byte 8 / 4)) ∧ Below W.heap.size W w' := by
  have hbsl : Sh.BSl A (.slice (some ⟨W.heap.size, 0, none⟩) 2 cap) 2 (Sh.byteAt (namL c.toNat a)) := by
    refine .inr ⟨W.heap.size, 0, cap, rfl, hc1, ⟨hc2, by decide⟩, (Array.getElem?_eq_some_iff.1 hA).1, fun i hi => ?_⟩
    rw [Nat.zero_add, cell_of_row _ _ _ _ _ fr hA, bytesRow_get (nam c a) _ i hi, nam_nums c a h]
    rfl
  refine (Sh.head_any Sh.s0 Sh.kk _ _ 2 A (hG.below hB hG.size) hbsl (namL_bd c.toNat c.toNat_lt a h)).mono ?_
  rintro e w' ⟨rfl, hb⟩
  exact ⟨rfl, hB.trans (hb.mono hB.size)⟩
theorem head_at (W : World) (c : UInt8) (a : Int) (h : IsN a) (fr : Nat × Nat) (hG : Sh.Glob Sh.s0 Sh.kk W) :
    Calls Tryd.prog 21 #[.slice (some ⟨W.heap.size, 0, none⟩) 2 (grownCap W 2 0 5)] (W.alloc (.cells (bytesRow (nam c a) (grownCap W 2 0 5)) 5 fr)).drew fun e w' => e = .returned (.int .i64 (Sh.headN (Sh.shaS Sh.s0 Sh.kk (Sh.byteAt (namL c.toNat a)) 2).byte 8 / 4)) ∧ Below W.heap.size W w' :=
  head_conv W (W.alloc (.cells (bytesRow (nam c a) (grownCap W 2 0 5)) 5 fr)).drew c a h fr _ (grownCap_ge _ _ _ _) (cap_bd _ _ (by decide)) (heap_alloc_new W _) (((Below.refl _ _).alloc (Nat.le_refl _) _).drew) hG
end Go.Proofs.YteldgklcfemenaaDoor
