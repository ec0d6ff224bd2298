/- Walk of bellwetherlaw01.ShaKnown, text 1. -/
import Derived.Test.YtaojifgbnllebaaDoorC2
namespace Go.Proofs.YtaojifgbnllebaaDoor
open Go.RowKit

set_option maxRecDepth 100000 in
set_option maxHeartbeats 4000000 in
theorem known_abc (how : Int) (hm : (IntKind.u64.wrap how).tmod 4 = 1) (w : World) (hG : Glob s0 kk w) :
    Calls Tryd.prog 4 #[.int .i64 how] w fun e w' => e = .returned (.bool true) ∧ Below w.heap.size w w' := by
  have HG := hide hG
  have g1 := hG.size
  clear hG
  have hcv := fun (W : World) (s : ByteArray) => run_bytes_of_string (P := Tryd.prog) W 9 22 5 s Tryd.underlying9 Tryd.underlying22 Tryd.underlying5
  go_enter Tryd.func4, Tryd.ntmps4
  go_wp2_with fail
  go_region_with (first
    | (go_at_call 8
       go_must (refine (sum_at w _ ?_ (unhide HG) (byteAt abcL) _ 3 ?_ (byteAt_bd _ rfl)).mono ?_
                · exact (((((Below.refl w.heap.size w).alloc (Nat.le_refl _) _).alloc (by simp) _).alloc (by simp; omega) _).drew.drew)
                · exact bsl_conv _ { data := #[97, 98, 99] } abcL rfl 3 rfl _ (grownCap_ge _ _ _ _) (cap_bd _ _ (by decide)) (by decide) _ _ (by simp))
       rintro e w1 ⟨g, rfl, _, hv1, hB1, hb1⟩
       go_must (have hs1 : w.heap.size + 1 < w1.heap.size := by
                  have := hb1.size
                  simp only [heap_drew, World.size_alloc] at this
                  omega)
       go_must (have hcs1 : w1.cell? ⟨w.heap.size + 1, 1, none⟩ = some (.string { data := #[98, 97, 55, 56, 49, 54, 98, 102, 56, 102, 48, 49, 99, 102, 101, 97, 52, 49, 52, 49, 52, 48, 100, 101, 53, 100, 97, 101, 50, 50, 50, 51, 98, 48, 48, 51, 54, 49, 97, 51, 57, 54, 49, 55, 55, 97, 57, 99, 98, 52, 49, 48, 102, 102, 54, 49, 102, 50, 48, 48, 49, 53, 97, 100] }) := by
                  rw [hb1.cell (p := ⟨w.heap.size + 1, 1, none⟩) (by show w.heap.size + 1 < _; simp only [heap_drew, World.size_alloc]; omega)]
                  simp [go_sem])
       have HB1 := hide hB1
       clear hb1 hB1)
    | (go_at_call 11
       go_must (refine (hex_abc _ _ hv1).mono ?_)
       rintro e w2 ⟨rfl, hb2⟩
       have hcs2 : w2.cell? ⟨w.heap.size + 1, 1, none⟩ = some (.string { data := #[98, 97, 55, 56, 49, 54, 98, 102, 56, 102, 48, 49, 99, 102, 101, 97, 52, 49, 52, 49, 52, 48, 100, 101, 53, 100, 97, 101, 50, 50, 50, 51, 98, 48, 48, 51, 54, 49, 97, 51, 57, 54, 49, 55, 55, 97, 57, 99, 98, 52, 49, 48, 102, 102, 54, 49, 102, 50, 48, 48, 49, 53, 97, 100] }) := by
         rw [hb2.cell (p := ⟨w.heap.size + 1, 1, none⟩) hs1]
         exact hcs1
       have HB2 : Hid (Below w.heap.size w w2) := (unhide HB1).trans (hb2.mono (unhide HB1).size)
       have hs2 := hb2.size
       clear hb2)
    | (go_at_call 15
       go_must (refine (wakes_at w _ (unhide HB2) (unhide HG)).mono ?_)
       rintro e w3 ⟨rfl, hB3⟩))
  all_goals go_wp2
  all_goals go_ret
  all_goals exact ⟨rfl, hB3⟩
end Go.Proofs.YtaojifgbnllebaaDoor
