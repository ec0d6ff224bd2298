/- Walk of bellwetherlaw01.wakes. -/
import Derived.Test.YtaojifgbnllebaaDoorE2
import Derived.Lib.SlBytesConst
namespace Go.Proofs.YtaojifgbnllebaaDoor
open Go.RowKit
theorem empty_hex : strOfNums (hexI (shaS s0 kk (byteAt emptyL) 0).byte 32) = { data := #[101, 51, 98, 48, 99, 52, 52, 50, 57, 56, 102, 99, 49, 99, 49, 52, 57, 97, 102, 98, 102, 52, 99, 56, 57, 57, 54, 102, 98, 57, 50, 52, 50, 55, 97, 101, 52, 49, 101, 52, 54, 52, 57, 98, 57, 51, 52, 99, 97, 52, 57, 53, 57, 57, 49, 98, 55, 56, 53, 50, 98, 56, 53, 53] } := by
  rw [empty_S]; kernel_rfl
theorem hex_empty (v : Value) (w : World) (hv : BSl w v 32 (shaS s0 kk (byteAt emptyL) 0).byte) : Calls Tryd.prog 11 #[v] w fun e w' => e = .returned (.string { data := #[101, 51, 98, 48, 99, 52, 52, 50, 57, 56, 102, 99, 49, 99, 49, 52, 57, 97, 102, 98, 102, 52, 99, 56, 57, 57, 54, 102, 98, 57, 50, 52, 50, 55, 97, 101, 52, 49, 101, 52, 54, 52, 57, 98, 57, 51, 52, 99, 97, 52, 57, 53, 57, 57, 49, 98, 55, 56, 53, 50, 98, 56, 53, 53] }) ∧ Below w.heap.size w w' := by
  rw [← empty_hex]; exact hex_any _ v 32 w hv (S8.byte_bd _) (by decide)
theorem abc_hex : strOfNums (hexI (shaS s0 kk (byteAt abcL) 3).byte 32) = { data := #[98, 97, 55, 56, 49, 54, 98, 102, 56, 102, 48, 49, 99, 102, 101, 97, 52, 49, 52, 49, 52, 48, 100, 101, 53, 100, 97, 101, 50, 50, 50, 51, 98, 48, 48, 51, 54, 49, 97, 51, 57, 54, 49, 55, 55, 97, 57, 99, 98, 52, 49, 48, 102, 102, 54, 49, 102, 50, 48, 48, 49, 53, 97, 100] } := by
  rw [abc_S]; kernel_rfl
theorem hex_abc (v : Value) (w : World) (hv : BSl w v 32 (shaS s0 kk (byteAt abcL) 3).byte) : Calls Tryd.prog 11 #[v] w fun e w' => e = .returned (.string { data := #[98, 97, 55, 56, 49, 54, 98, 102, 56, 102, 48, 49, 99, 102, 101, 97, 52, 49, 52, 49, 52, 48, 100, 101, 53, 100, 97, 101, 50, 50, 50, 51, 98, 48, 48, 51, 54, 49, 97, 51, 57, 54, 49, 55, 55, 97, 57, 99, 98, 52, 49, 48, 102, 102, 54, 49, 102, 50, 48, 48, 49, 53, 97, 100] }) ∧ Below w.heap.size w w' := by
  rw [← abc_hex]; exact hex_any _ v 32 w hv (S8.byte_bd _) (by decide)
theorem mid_hex : strOfNums (hexI (shaS s0 kk (byteAt midL) 56).byte 32) = { data := #[50, 52, 56, 100, 54, 97, 54, 49, 100, 50, 48, 54, 51, 56, 98, 56, 101, 53, 99, 48, 50, 54, 57, 51, 48, 99, 51, 101, 54, 48, 51, 57, 97, 51, 51, 99, 101, 52, 53, 57, 54, 52, 102, 102, 50, 49, 54, 55, 102, 54, 101, 99, 101, 100, 100, 52, 49, 57, 100, 98, 48, 54, 99, 49] } := by
  rw [mid_S]; kernel_rfl
theorem hex_mid (v : Value) (w : World) (hv : BSl w v 32 (shaS s0 kk (byteAt midL) 56).byte) : Calls Tryd.prog 11 #[v] w fun e w' => e = .returned (.string { data := #[50, 52, 56, 100, 54, 97, 54, 49, 100, 50, 48, 54, 51, 56, 98, 56, 101, 53, 99, 48, 50, 54, 57, 51, 48, 99, 51, 101, 54, 48, 51, 57, 97, 51, 51, 99, 101, 52, 53, 57, 54, 52, 102, 102, 50, 49, 54, 55, 102, 54, 101, 99, 101, 100, 100, 52, 49, 57, 100, 98, 48, 54, 99, 49] }) ∧ Below w.heap.size w w' := by
  rw [← mid_hex]; exact hex_any _ v 32 w hv (S8.byte_bd _) (by decide)
theorem long_hex : strOfNums (hexI (shaS s0 kk (byteAt longL) 112).byte 32) = { data := #[99, 102, 53, 98, 49, 54, 97, 55, 55, 56, 97, 102, 56, 51, 56, 48, 48, 51, 54, 99, 101, 53, 57, 101, 55, 98, 48, 52, 57, 50, 51, 55, 48, 98, 50, 52, 57, 98, 49, 49, 101, 56, 102, 48, 55, 97, 53, 49, 97, 102, 97, 99, 52, 53, 48, 51, 55, 97, 102, 101, 101, 57, 100, 49] } := by
  rw [long_S]; kernel_rfl
theorem hex_long (v : Value) (w : World) (hv : BSl w v 32 (shaS s0 kk (byteAt longL) 112).byte) : Calls Tryd.prog 11 #[v] w fun e w' => e = .returned (.string { data := #[99, 102, 53, 98, 49, 54, 97, 55, 55, 56, 97, 102, 56, 51, 56, 48, 48, 51, 54, 99, 101, 53, 57, 101, 55, 98, 48, 52, 57, 50, 51, 55, 48, 98, 50, 52, 57, 98, 49, 49, 101, 56, 102, 48, 55, 97, 53, 49, 97, 102, 97, 99, 52, 53, 48, 51, 55, 97, 102, 101, 101, 57, 100, 49] }) ∧ Below w.heap.size w w' := by
  rw [← long_hex]; exact hex_any _ v 32 w hv (S8.byte_bd _) (by decide)
theorem n0_head : headN (shaS s0 kk (byteAt n0L) 2).byte 8 / 4 = 2342812313538366385 := by
  rw [n0_S]; kernel_rfl
theorem byteAt_bd (l : List Nat) (h : l.all (· < 256) = true) (i : Nat) : 0 ≤ byteAt l i ∧ byteAt l i < 256 := by
  unfold byteAt
  refine ⟨by omega, ?_⟩
  have hx : l.getD i 0 < 256 := by
    simp only [List.getD]
    cases hq : l[i]? with
    | none => simp
    | some x =>
      have := List.all_eq_true.1 h x (List.mem_of_getElem? hq)
      simpa using this
  omega
theorem head_n0 (v : Value) (w : World) (hG : Glob s0 kk w) (hv : BSl w v 2 (byteAt n0L)) : Calls Tryd.prog 13 #[v] w fun e w' => e = .returned (.int .i64 2342812313538366385) ∧ Below w.heap.size w w' := by
  rw [← n0_head]; exact head_any s0 kk _ v 2 w hG hv (byteAt_bd _ rfl)
/-- A literal's slice. -/
theorem bsl_lit (w : World) (l : List Nat) (fr : Nat × Nat) (c : Nat) (hc : l.length ≤ c) (hc2 : c < 2 ^ 60) (n : Nat) (hn : l.length = n) : BSl (w.alloc (.cells (l.map fun x : Nat => Value.int .u8 (x : Int)).toArray 5 fr)) (.slice (some ⟨w.heap.size, 0, none⟩) n c) n (byteAt l) := by
  refine .inr ⟨w.heap.size, 0, c, rfl, by omega, ⟨by omega, by omega⟩, by simp, fun i hi => ?_⟩
  rw [Nat.zero_add]
  rw [cell_of_row _ _ _ _ _ fr (heap_alloc_new _ _)]
  simp [byteAt, List.getD, show i < l.length by omega]

set_option maxRecDepth 100000 in
set_option maxHeartbeats 1000000 in
theorem wakes_any (w : World) (hG : Glob s0 kk w) :
    Calls Tryd.prog 15 #[] w fun e w' => e = .returned (.bool true) ∧ Below w.heap.size w w' := by
  have HG := hide hG
  have g1 := hG.size
  clear hG
  have kc := fun (w : World) (C : Array Value) (n c : Nat) => Lib.run_convert_bytes_const (P := Tryd.prog) w 22 5 C n c Tryd.underlying22 Tryd.underlying5
  go_enter Tryd.func15, Tryd.ntmps15
  go_wp2_with (first
    | (go_at_call 8
       go_must (refine (sum_any s0 kk (byteAt abcL) _ 3 _ ?_ ?_ (byteAt_bd _ rfl)).mono ?_
                · exact (unhide HG).below ((Below.refl _ _).alloc (Nat.le_refl _) _) g1
                · exact bsl_lit w abcL _ 3 (by decide) (by decide) 3 rfl)
       rintro e w1 ⟨g, rfl, hown, hb1⟩
       have hB1 : Below w.heap.size w w1 := ((Below.refl _ _).alloc (Nat.le_refl _) _).trans (hb1.mono (by simp))
       clear hb1)
    | (go_at_call 11
       go_must (refine (hex_abc _ _ (sum_sl hown)).mono ?_)
       rintro e w2 ⟨rfl, hb2⟩
       have hB2 : Below w.heap.size w w2 := hB1.trans (hb2.mono hB1.size)
       clear hb2)
    | (go_at_call 13
       go_must (refine (head_n0 _ _ ?_ ?_).mono ?_
                · exact (unhide HG).below (hB2.alloc hB2.size _) g1
                · exact bsl_lit w2 n0L _ 2 (by decide) (by decide) 2 rfl)
       rintro e w3 ⟨rfl, hb3⟩
       have hB3 : Below w.heap.size w w3 := (hB2.alloc hB2.size _).trans (hb3.mono (by have := hB2.size; simp; omega))
       clear hb3))
  go_ret
  exact ⟨rfl, hB3⟩
end Go.Proofs.YtaojifgbnllebaaDoor
