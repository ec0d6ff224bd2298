/- Walk of bellwetherlaw01.ShaKnown, text 3. -/
import Derived.Test.YtaojifgbnllebaaDoorC2
namespace Go.Proofs.YtaojifgbnllebaaDoor
open Go.RowKit

set_option maxRecDepth 100000 in
set_option maxHeartbeats 4000000 in
theorem known_long (how : Int) (hm : (IntKind.u64.wrap how).tmod 4 = 3) (w : World) (hG : Glob s0 kk w) :
    Calls Tryd.prog 4 #[.int .i64 how] w fun e w' => e = .returned (.bool true) ∧ Below w.heap.size w w' := by
  have HG := hide hG
  have g1 := hG.size
  clear hG
  have hcv := fun (W : World) (s : ByteArray) => run_bytes_of_string (P := Tryd.prog) W 9 22 5 s Tryd.underlying9 Tryd.underlying22 Tryd.underlying5
  go_enter Tryd.func4, Tryd.ntmps4
  go_wp2_with fail
  go_region_with (first
    | (go_at_call 8
       go_must (refine (sum_at w _ ?_ (unhide HG) (byteAt longL) _ 112 ?_ (byteAt_bd _ rfl)).mono ?_
                · exact (((((Below.refl w.heap.size w).alloc (Nat.le_refl _) _).alloc (by simp) _).alloc (by simp; omega) _).drew.drew)
                · exact bsl_conv _ { data := #[97, 98, 99, 100, 101, 102, 103, 104, 98, 99, 100, 101, 102, 103, 104, 105, 99, 100, 101, 102, 103, 104, 105, 106, 100, 101, 102, 103, 104, 105, 106, 107, 101, 102, 103, 104, 105, 106, 107, 108, 102, 103, 104, 105, 106, 107, 108, 109, 103, 104, 105, 106, 107, 108, 109, 110, 104, 105, 106, 107, 108, 109, 110, 111, 105, 106, 107, 108, 109, 110, 111, 112, 106, 107, 108, 109, 110, 111, 112, 113, 107, 108, 109, 110, 111, 112, 113, 114, 108, 109, 110, 111, 112, 113, 114, 115, 109, 110, 111, 112, 113, 114, 115, 116, 110, 111, 112, 113, 114, 115, 116, 117] } longL rfl 112 rfl _ (grownCap_ge _ _ _ _) (cap_bd _ _ (by decide)) (by decide) _ _ (by simp))
       rintro e w1 ⟨g, rfl, _, hv1, hB1, hb1⟩
       go_must (have hs1 : w.heap.size + 1 < w1.heap.size := by
                  have := hb1.size
                  simp only [heap_drew, World.size_alloc] at this
                  omega)
       go_must (have hcs1 : w1.cell? ⟨w.heap.size + 1, 3, none⟩ = some (.string { data := #[99, 102, 53, 98, 49, 54, 97, 55, 55, 56, 97, 102, 56, 51, 56, 48, 48, 51, 54, 99, 101, 53, 57, 101, 55, 98, 48, 52, 57, 50, 51, 55, 48, 98, 50, 52, 57, 98, 49, 49, 101, 56, 102, 48, 55, 97, 53, 49, 97, 102, 97, 99, 52, 53, 48, 51, 55, 97, 102, 101, 101, 57, 100, 49] }) := by
                  rw [hb1.cell (p := ⟨w.heap.size + 1, 3, none⟩) (by show w.heap.size + 1 < _; simp only [heap_drew, World.size_alloc]; omega)]
                  simp [go_sem])
       have HB1 := hide hB1
       clear hb1 hB1)
    | (go_at_call 11
       go_must (refine (hex_long _ _ hv1).mono ?_)
       rintro e w2 ⟨rfl, hb2⟩
       have hcs2 : w2.cell? ⟨w.heap.size + 1, 3, none⟩ = some (.string { data := #[99, 102, 53, 98, 49, 54, 97, 55, 55, 56, 97, 102, 56, 51, 56, 48, 48, 51, 54, 99, 101, 53, 57, 101, 55, 98, 48, 52, 57, 50, 51, 55, 48, 98, 50, 52, 57, 98, 49, 49, 101, 56, 102, 48, 55, 97, 53, 49, 97, 102, 97, 99, 52, 53, 48, 51, 55, 97, 102, 101, 101, 57, 100, 49] }) := by
         rw [hb2.cell (p := ⟨w.heap.size + 1, 3, none⟩) hs1]
         exact hcs1
       have HB2 : Hid (Below w.heap.size w w2) := (unhide HB1).trans (hb2.mono (unhide HB1).size)
       have hs2 := hb2.size
       clear hb2)
    | (go_at_call 15
       go_must (refine (wakes_at w _ (unhide HB2) (unhide HG)).mono ?_)
       rintro e w3 ⟨rfl, hB3⟩))
  all_goals go_wp2
  all_goals go_ret
  all_goals exact ⟨rfl, hB3⟩
end Go.Proofs.YtaojifgbnllebaaDoor
