/- Walk of ScriptConfs, field by field. -/
import Derived.Test.YtfhglganaebpoaaDoorW1
import Derived.Test.YtfhglganaebpoaaDoorX0
import Derived.Test.YtfhglganaebpoaaDoorD1
namespace Go.Proofs.YtfhglganaebpoaaDoor
open Go.RowKit

set_option maxRecDepth 100000 in
set_option maxHeartbeats 4000000 in
theorem confs_6 (n field by' : Int) (B : Nat) (w : World) (hG : GlobE w) (hB : wrap64 ((IntKind.u64.wrap by').tmod 100) = B) (hB2 : B < 100) (hK : wrap64 ((IntKind.u64.wrap field).tmod 7) = 6) :
    Calls Tryd.prog 7 #[.int .i64 n, .int .i64 field, .int .i64 by'] w fun e w' => e = .returned (.bool true) ∧ Below w.heap.size w w' := by
  obtain ⟨e, hG⟩ := hG
  obtain ⟨q, hq, hq2⟩ := modN n 1000000 (by omega) (by omega)
  have CF := conf_any n q w hq hq2
  have HG := hide hG
  have HB := hide hB
  have HK := hide hK
  obtain ⟨y0, y1, y2, y3, y4, y5, y6⟩ := cfB_iff.1 (cfN_ok q)
  unfold cV at CF
  generalize cfN q = c at *
  obtain ⟨x0, x1, x2, x3, x4, x5, x6⟩ := c
  dsimp only at CF y0 y1 y2 y3 y4 y5 y6
  replace CF := hide CF
  have Y := hide (And.intro y0 (And.intro y1 (And.intro y2 (And.intro y3 (And.intro y4 (And.intro y5 y6))))))
  clear hq hq2 hG hB hK y0 y1 y2 y3 y4 y5 y6
  go_enter Tryd.func7, Tryd.ntmps7
  go_upto_region 7 with (go_at_call 20; refine (unhide CF).mono ?_; rintro ev w1 ⟨rfl, b1⟩; have B1 := hide b1; clear b1 CF)
  rw [unhide HB, unhide HK, show wrap64 ((B : Int) - 30) = (B : Int) - 30 from by unfold wrap64; omega]
  go_upto_region 21 with fail
  obtain ⟨w2, hw2⟩ : ∃ z, z = w1.alloc (.cells #[.int .i64 x0, .int .i64 x1, .int .i64 x2, .int .i64 x3, .int .i64 x4, .int .i64 x5, .int .i64 ((B : Int) - 30)] 23) := ⟨_, rfl⟩
  obtain ⟨w3, hw3⟩ : ∃ z, z = w2.alloc (.cells #[.int .i64 1, .int .i64 1, .int .i64 1, .int .i64 1, .int .i64 1, .int .i64 1, .int .i64 2] 3) := ⟨_, rfl⟩
  obtain ⟨w4, hw4⟩ : ∃ z, z = w3.alloc (.cells #[.int .i64 8, .int .i64 4, .int .i64 4, .int .i64 8, .int .i64 16, .int .i64 16, .int .i64 32] 3) := ⟨_, rfl⟩
  have s2 : w2.heap.size = w1.heap.size + 1 := by rw [hw2]; simp
  have s3 : w3.heap.size = w1.heap.size + 1 + 1 := by rw [hw3, hw2]; simp
  rw [← hw2, ← hw3, ← hw4]
  have b2 : Below w1.heap.size w1 w2 := by rw [hw2]; exact below_alloc (Below.refl _ _) _
  have b3 : Below w2.heap.size w2 w3 := by rw [hw3]; exact below_alloc (Below.refl _ _) _
  have b4 : Below w3.heap.size w3 w4 := by rw [hw4]; exact below_alloc (Below.refl _ _) _
  have X2 : Has w2 w1.heap.size (.cells #[.int .i64 x0, .int .i64 x1, .int .i64 x2, .int .i64 x3, .int .i64 x4, .int .i64 x5, .int .i64 ((B : Int) - 30)] 23) := by rw [hw2]; exact Has.new _ _
  have X3 : Has w3 (w1.heap.size + 1) (.cells #[.int .i64 1, .int .i64 1, .int .i64 1, .int .i64 1, .int .i64 1, .int .i64 1, .int .i64 2] 3) := by rw [hw3, ← s2]; exact Has.new _ _
  have X4 : Has w4 (w1.heap.size + 1 + 1) (.cells #[.int .i64 8, .int .i64 4, .int .i64 4, .int .i64 8, .int .i64 16, .int .i64 16, .int .i64 32] 3) := by rw [hw4, ← s3]; exact Has.new _ _
  replace X3 := X3.below b4
  replace X2 := (X2.below b3).below b4
  have B4 := hide (below_of (below_of (below_of (unhide B1) b2) b3) b4)
  have G4 := hide ((((unhide HG).below (unhide B1)).below b2).below b3 |>.below b4)
  have lg := X2.1
  have ll := X3.1
  have lh := X4.1
  have d0 := (World.cell?_drew w4 _).trans (X2.cell (k := 0) rfl)
  have d1 := (World.cell?_drew w4 _).trans (X2.cell (k := 1) rfl)
  have d2 := (World.cell?_drew w4 _).trans (X2.cell (k := 2) rfl)
  have d3 := (World.cell?_drew w4 _).trans (X2.cell (k := 3) rfl)
  have d4 := (World.cell?_drew w4 _).trans (X2.cell (k := 4) rfl)
  have d5 := (World.cell?_drew w4 _).trans (X2.cell (k := 5) rfl)
  have d6 := (World.cell?_drew w4 _).trans (X2.cell (k := 6) rfl)
  have dl := (World.cell?_drew w4 _).trans (X3.cell (k := 6) rfl)
  have dh := (World.cell?_drew w4 _).trans (X4.cell (k := 6) rfl)
  replace lg : w1.heap.size < w4.drew.heap.size := lg
  replace ll : w1.heap.size + 1 < w4.drew.heap.size := ll
  replace lh : w1.heap.size + 1 + 1 < w4.drew.heap.size := lh
  replace B4 := hide (below_of (unhide B4) (below_drewN (Below.refl w4.heap.size w4) 1))
  replace G4 := hide ((unhide G4).below (below_drewN (Below.refl w4.heap.size w4) 1))
  clear hw2 hw3 hw4 s2 s3 b2 b3 b4 X2 X3 X4 B1
  obtain ⟨y0, y1, y2, y3, y4, y5, y6⟩ := unhide Y
  by_cases h1 : 2 ≤ ((B : Int) - 30)
  · by_cases h2 : ((B : Int) - 30) ≤ 32
    · have e1 : decide (((B : Int) - 30) ≥ (2 : Int)) = true := decide_eq_true (by omega)
      have e2 : decide (((B : Int) - 30) ≤ (32 : Int)) = true := decide_eq_true (by omega)
      have CC := config_any ⟨x0, x1, x2, x3, x4, x5, ((B : Int) - 30)⟩ e w4.drew (unhide G4)
      rw [show cfE ⟨x0, x1, x2, x3, x4, x5, ((B : Int) - 30)⟩ = 0 by
        have hv : inB ((B : Int) - 30) 2 32 = true := inB_true (by omega)
        simp [cfE, cfB, hv, y0, y1, y2, y3, y4, y5]] at CC
      unfold cV at CC
      dsimp only at CC
      replace CC := hide CC
      clear y0 y1 y2 y3 y4 y5
      refine wa_start (fun w' => w'.cell? ⟨w1.heap.size, 0, none⟩ = some (.int .i64 x0) ∧ w'.cell? ⟨w1.heap.size, 1, none⟩ = some (.int .i64 x1) ∧ w'.cell? ⟨w1.heap.size, 2, none⟩ = some (.int .i64 x2) ∧ w'.cell? ⟨w1.heap.size, 3, none⟩ = some (.int .i64 x3) ∧ w'.cell? ⟨w1.heap.size, 4, none⟩ = some (.int .i64 x4) ∧ w'.cell? ⟨w1.heap.size, 5, none⟩ = some (.int .i64 x5) ∧ w'.cell? ⟨w1.heap.size, 6, none⟩ = some (.int .i64 ((B : Int) - 30)) ∧ w'.cell? ⟨w1.heap.size + 1, 6, none⟩ = some (.int .i64 2) ∧ w'.cell? ⟨w1.heap.size + 1 + 1, 6, none⟩ = some (.int .i64 32)) ⟨d0, d1, d2, d3, d4, d5, d6, dl, dh⟩ ?_
      refine wa_take (v := (.agg #[.int .i64 x0, .int .i64 x1, .int .i64 x2, .int .i64 x3, .int .i64 x4, .int .i64 x5, .int .i64 ((B : Int) - 30)])) 0 rfl (by kernel_rfl) (by kernel_rfl) (by kernel_rfl) (fun _ _ _ h => h) (by kernel_rfl) (fun w hSw => ?_) ⟨d0, d1, d2, d3, d4, d5, d6, dl, dh⟩ ?_
      · try dsimp only at hSw
        go_simp
      try simp only [Act.put, List.setIfInBounds_toArray, List.set_cons_zero, List.set_cons_succ]
      refine wa_take (v := (.int .i64 ((B : Int) - 30))) 3 rfl (by kernel_rfl) (by kernel_rfl) (by kernel_rfl) (fun _ _ _ h => h) (by kernel_rfl) (fun w hSw => ?_) ⟨d0, d1, d2, d3, d4, d5, d6, dl, dh⟩ ?_
      · try dsimp only at hSw
        go_simp
      try simp only [Act.put, List.setIfInBounds_toArray, List.set_cons_zero, List.set_cons_succ]
      refine wa_take (v := (.slice (some ⟨w1.heap.size + 1, 0, none⟩) 7 7)) 4 rfl (by kernel_rfl) (by kernel_rfl) (by kernel_rfl) (fun _ _ _ h => h) (by kernel_rfl) (fun w hSw => ?_) ⟨d0, d1, d2, d3, d4, d5, d6, dl, dh⟩ ?_
      · try dsimp only at hSw
        go_simp
      try simp only [Act.put, List.setIfInBounds_toArray, List.set_cons_zero, List.set_cons_succ]
      refine wa_take (v := (.int .i64 6)) 5 rfl (by kernel_rfl) (by kernel_rfl) (by kernel_rfl) (fun _ _ _ h => h) (by kernel_rfl) (fun w hSw => ?_) ⟨d0, d1, d2, d3, d4, d5, d6, dl, dh⟩ ?_
      · try dsimp only at hSw
        go_simp
      try simp only [Act.put, List.setIfInBounds_toArray, List.set_cons_zero, List.set_cons_succ]
      refine wa_take (v := (.pointer (some ⟨w1.heap.size + 1, 6, none⟩))) 6 rfl (by kernel_rfl) (by kernel_rfl) (by kernel_rfl) (fun _ _ _ h => h) (by kernel_rfl) (fun w hSw => ?_) ⟨d0, d1, d2, d3, d4, d5, d6, dl, dh⟩ ?_
      · try dsimp only at hSw
        go_simp
      try simp only [Act.put, List.setIfInBounds_toArray, List.set_cons_zero, List.set_cons_succ]
      refine wa_take (v := (.int .i64 2)) 7 rfl (by kernel_rfl) (by kernel_rfl) (by kernel_rfl) (fun _ _ _ h => h) (by kernel_rfl) (fun w hSw => ?_) ⟨d0, d1, d2, d3, d4, d5, d6, dl, dh⟩ ?_
      · try dsimp only at hSw
        go_simp
      try simp only [Act.put, List.setIfInBounds_toArray, List.set_cons_zero, List.set_cons_succ]
      refine wa_take (v := (.bool true)) 8 rfl (by kernel_rfl) (by kernel_rfl) (by kernel_rfl) (fun _ _ _ h => h) (by kernel_rfl) (fun w hSw => ?_) ⟨d0, d1, d2, d3, d4, d5, d6, dl, dh⟩ ?_
      · try dsimp only at hSw
        go_simp
      try simp only [Act.put, List.setIfInBounds_toArray, List.set_cons_zero, List.set_cons_succ]
      refine wa_one 1 (by kernel_rfl) rfl (by kernel_rfl) (fun Kc hK => ?_)
      go_simp
      go_at_call 11
      refine (unhide CC).mono ?_
      rintro ev w5 ⟨rfl, b5⟩
      replace B4 := hide (below_of (unhide B4) b5)
      replace d0 := (b5.cell (p := ⟨w1.heap.size, 0, none⟩) lg).trans d0
      replace d1 := (b5.cell (p := ⟨w1.heap.size, 1, none⟩) lg).trans d1
      replace d2 := (b5.cell (p := ⟨w1.heap.size, 2, none⟩) lg).trans d2
      replace d3 := (b5.cell (p := ⟨w1.heap.size, 3, none⟩) lg).trans d3
      replace d4 := (b5.cell (p := ⟨w1.heap.size, 4, none⟩) lg).trans d4
      replace d5 := (b5.cell (p := ⟨w1.heap.size, 5, none⟩) lg).trans d5
      replace d6 := (b5.cell (p := ⟨w1.heap.size, 6, none⟩) lg).trans d6
      replace dl := (b5.cell (p := ⟨w1.heap.size + 1, 6, none⟩) ll).trans dl
      replace dh := (b5.cell (p := ⟨w1.heap.size + 1 + 1, 6, none⟩) lh).trans dh
      have G5 := hide ((unhide G4).below b5)
      replace lg := Nat.lt_of_lt_of_le lg b5.size
      replace ll := Nat.lt_of_lt_of_le ll b5.size
      replace lh := Nat.lt_of_lt_of_le lh b5.size
      clear b5
      refine hK.out _ _ ⟨d0, d1, d2, d3, d4, d5, d6, dl, dh⟩ ?_
      clear hK Kc
      try simp only [Act.put, List.setIfInBounds_toArray, List.set_cons_zero, List.set_cons_succ]
      refine wa_take (v := (.bool true)) 2 rfl (by kernel_rfl) (by kernel_rfl) (by kernel_rfl) (fun _ _ _ h => h) (by kernel_rfl) (fun w hSw => ?_) ⟨d0, d1, d2, d3, d4, d5, d6, dl, dh⟩ ?_
      · try dsimp only at hSw
        go_simp
      try simp only [Act.put, List.setIfInBounds_toArray, List.set_cons_zero, List.set_cons_succ]
      refine wa_take (v := (.bool true)) 9 rfl (by kernel_rfl) (by kernel_rfl) (by kernel_rfl) (fun _ _ _ h => h) (by kernel_rfl) (fun w hSw => ?_) ⟨d0, d1, d2, d3, d4, d5, d6, dl, dh⟩ ?_
      · try dsimp only at hSw
        go_simp
      try simp only [Act.put, List.setIfInBounds_toArray, List.set_cons_zero, List.set_cons_succ]
      refine wa_take (v := (.int .i64 ((B : Int) - 30))) 10 rfl (by kernel_rfl) (by kernel_rfl) (by kernel_rfl) (fun _ _ _ h => h) (by kernel_rfl) (fun w hSw => ?_) ⟨d0, d1, d2, d3, d4, d5, d6, dl, dh⟩ ?_
      · try dsimp only at hSw
        go_simp
      try simp only [Act.put, List.setIfInBounds_toArray, List.set_cons_zero, List.set_cons_succ]
      refine wa_take (v := (.slice (some ⟨w1.heap.size + 1 + 1, 0, none⟩) 7 7)) 11 rfl (by kernel_rfl) (by kernel_rfl) (by kernel_rfl) (fun _ _ _ h => h) (by kernel_rfl) (fun w hSw => ?_) ⟨d0, d1, d2, d3, d4, d5, d6, dl, dh⟩ ?_
      · try dsimp only at hSw
        go_simp
      try simp only [Act.put, List.setIfInBounds_toArray, List.set_cons_zero, List.set_cons_succ]
      refine wa_take (v := (.int .i64 6)) 12 rfl (by kernel_rfl) (by kernel_rfl) (by kernel_rfl) (fun _ _ _ h => h) (by kernel_rfl) (fun w hSw => ?_) ⟨d0, d1, d2, d3, d4, d5, d6, dl, dh⟩ ?_
      · try dsimp only at hSw
        go_simp
      try simp only [Act.put, List.setIfInBounds_toArray, List.set_cons_zero, List.set_cons_succ]
      refine wa_take (v := (.pointer (some ⟨w1.heap.size + 1 + 1, 6, none⟩))) 13 rfl (by kernel_rfl) (by kernel_rfl) (by kernel_rfl) (fun _ _ _ h => h) (by kernel_rfl) (fun w hSw => ?_) ⟨d0, d1, d2, d3, d4, d5, d6, dl, dh⟩ ?_
      · try dsimp only at hSw
        go_simp
      try simp only [Act.put, List.setIfInBounds_toArray, List.set_cons_zero, List.set_cons_succ]
      refine wa_take (v := (.int .i64 32)) 14 rfl (by kernel_rfl) (by kernel_rfl) (by kernel_rfl) (fun _ _ _ h => h) (by kernel_rfl) (fun w hSw => ?_) ⟨d0, d1, d2, d3, d4, d5, d6, dl, dh⟩ ?_
      · try dsimp only at hSw
        go_simp
      try simp only [Act.put, List.setIfInBounds_toArray, List.set_cons_zero, List.set_cons_succ]
      refine wa_take (v := (.bool true)) 15 rfl (by kernel_rfl) (by kernel_rfl) (by kernel_rfl) (fun _ _ _ h => h) (by kernel_rfl) (fun w hSw => ?_) ⟨d0, d1, d2, d3, d4, d5, d6, dl, dh⟩ ?_
      · try dsimp only at hSw
        go_simp
      try simp only [Act.put, List.setIfInBounds_toArray, List.set_cons_zero, List.set_cons_succ]
      refine wa_take (v := (.bool true)) 16 rfl (by kernel_rfl) (by kernel_rfl) (by kernel_rfl) (fun _ _ _ h => h) (by kernel_rfl) (fun w hSw => ?_) ⟨d0, d1, d2, d3, d4, d5, d6, dl, dh⟩ ?_
      · try dsimp only at hSw
        go_simp
      try simp only [Act.put, List.setIfInBounds_toArray, List.set_cons_zero, List.set_cons_succ]
      refine wa_take (v := (.bool true)) 17 rfl (by kernel_rfl) (by kernel_rfl) (by kernel_rfl) (fun _ _ _ h => h) (by kernel_rfl) (fun w hSw => ?_) ⟨d0, d1, d2, d3, d4, d5, d6, dl, dh⟩ ?_
      · try dsimp only at hSw
        go_simp
      try simp only [Act.put, List.setIfInBounds_toArray, List.set_cons_zero, List.set_cons_succ]
      refine wa_take (v := (.bool true)) 18 rfl (by kernel_rfl) (by kernel_rfl) (by kernel_rfl) (fun _ _ _ h => h) (by kernel_rfl) (fun w hSw => ?_) ⟨d0, d1, d2, d3, d4, d5, d6, dl, dh⟩ ?_
      · try dsimp only at hSw
        go_simp
      try simp only [Act.put, List.setIfInBounds_toArray, List.set_cons_zero, List.set_cons_succ]
      refine wa_one 19 (by kernel_rfl) rfl (by kernel_rfl) (fun Kc hK => ?_)
      go_simp
      go_at_call 18
      refine (wakes_any e _ (unhide G5)).mono ?_
      rintro ev w6 ⟨rfl, b6⟩
      replace B4 := hide (below_of (unhide B4) b6)
      replace d0 := (b6.cell (p := ⟨w1.heap.size, 0, none⟩) lg).trans d0
      replace d1 := (b6.cell (p := ⟨w1.heap.size, 1, none⟩) lg).trans d1
      replace d2 := (b6.cell (p := ⟨w1.heap.size, 2, none⟩) lg).trans d2
      replace d3 := (b6.cell (p := ⟨w1.heap.size, 3, none⟩) lg).trans d3
      replace d4 := (b6.cell (p := ⟨w1.heap.size, 4, none⟩) lg).trans d4
      replace d5 := (b6.cell (p := ⟨w1.heap.size, 5, none⟩) lg).trans d5
      replace d6 := (b6.cell (p := ⟨w1.heap.size, 6, none⟩) lg).trans d6
      replace dl := (b6.cell (p := ⟨w1.heap.size + 1, 6, none⟩) ll).trans dl
      replace dh := (b6.cell (p := ⟨w1.heap.size + 1 + 1, 6, none⟩) lh).trans dh
      clear b6
      refine hK.out _ _ ⟨d0, d1, d2, d3, d4, d5, d6, dl, dh⟩ ?_
      clear hK Kc
      try simp only [Act.put, List.setIfInBounds_toArray, List.set_cons_zero, List.set_cons_succ]
      refine wa_take (v := (.bool true)) 20 rfl (by kernel_rfl) (by kernel_rfl) (by kernel_rfl) (fun _ _ _ h => h) (by kernel_rfl) (fun w hSw => ?_) ⟨d0, d1, d2, d3, d4, d5, d6, dl, dh⟩ ?_
      · try dsimp only at hSw
        go_simp
      try simp only [Act.put, List.setIfInBounds_toArray, List.set_cons_zero, List.set_cons_succ]
      refine wa_take (v := (.bool true)) 21 rfl (by kernel_rfl) (by kernel_rfl) (by kernel_rfl) (fun _ _ _ h => h) (by kernel_rfl) (fun w hSw => ?_) ⟨d0, d1, d2, d3, d4, d5, d6, dl, dh⟩ ?_
      · try dsimp only at hSw
        go_simp
      try simp only [Act.put, List.setIfInBounds_toArray, List.set_cons_zero, List.set_cons_succ]
      refine wa_done (by kernel_rfl) ?_
      go_wp2
      go_ret
      exact ⟨rfl, unhide B4⟩
    · have e1 : decide (((B : Int) - 30) ≥ (2 : Int)) = true := decide_eq_true (by omega)
      have e2 : decide (((B : Int) - 30) ≤ (32 : Int)) = false := decide_eq_false (by omega)
      have CC := config_any ⟨x0, x1, x2, x3, x4, x5, ((B : Int) - 30)⟩ e w4.drew (unhide G4)
      rw [show cfE ⟨x0, x1, x2, x3, x4, x5, ((B : Int) - 30)⟩ = 13 by
        have hv : inB ((B : Int) - 30) 2 32 = false := inB_false (by omega)
        simp [cfE, cfB, hv, y0, y1, y2, y3, y4, y5]] at CC
      unfold cV at CC
      dsimp only at CC
      replace CC := hide CC
      clear y0 y1 y2 y3 y4 y5
      refine wa_start (fun w' => w'.cell? ⟨w1.heap.size, 0, none⟩ = some (.int .i64 x0) ∧ w'.cell? ⟨w1.heap.size, 1, none⟩ = some (.int .i64 x1) ∧ w'.cell? ⟨w1.heap.size, 2, none⟩ = some (.int .i64 x2) ∧ w'.cell? ⟨w1.heap.size, 3, none⟩ = some (.int .i64 x3) ∧ w'.cell? ⟨w1.heap.size, 4, none⟩ = some (.int .i64 x4) ∧ w'.cell? ⟨w1.heap.size, 5, none⟩ = some (.int .i64 x5) ∧ w'.cell? ⟨w1.heap.size, 6, none⟩ = some (.int .i64 ((B : Int) - 30)) ∧ w'.cell? ⟨w1.heap.size + 1, 6, none⟩ = some (.int .i64 2) ∧ w'.cell? ⟨w1.heap.size + 1 + 1, 6, none⟩ = some (.int .i64 32)) ⟨d0, d1, d2, d3, d4, d5, d6, dl, dh⟩ ?_
      refine wa_take (v := (.agg #[.int .i64 x0, .int .i64 x1, .int .i64 x2, .int .i64 x3, .int .i64 x4, .int .i64 x5, .int .i64 ((B : Int) - 30)])) 0 rfl (by kernel_rfl) (by kernel_rfl) (by kernel_rfl) (fun _ _ _ h => h) (by kernel_rfl) (fun w hSw => ?_) ⟨d0, d1, d2, d3, d4, d5, d6, dl, dh⟩ ?_
      · try dsimp only at hSw
        go_simp
      try simp only [Act.put, List.setIfInBounds_toArray, List.set_cons_zero, List.set_cons_succ]
      refine wa_take (v := (.int .i64 ((B : Int) - 30))) 3 rfl (by kernel_rfl) (by kernel_rfl) (by kernel_rfl) (fun _ _ _ h => h) (by kernel_rfl) (fun w hSw => ?_) ⟨d0, d1, d2, d3, d4, d5, d6, dl, dh⟩ ?_
      · try dsimp only at hSw
        go_simp
      try simp only [Act.put, List.setIfInBounds_toArray, List.set_cons_zero, List.set_cons_succ]
      refine wa_take (v := (.slice (some ⟨w1.heap.size + 1, 0, none⟩) 7 7)) 4 rfl (by kernel_rfl) (by kernel_rfl) (by kernel_rfl) (fun _ _ _ h => h) (by kernel_rfl) (fun w hSw => ?_) ⟨d0, d1, d2, d3, d4, d5, d6, dl, dh⟩ ?_
      · try dsimp only at hSw
        go_simp
      try simp only [Act.put, List.setIfInBounds_toArray, List.set_cons_zero, List.set_cons_succ]
      refine wa_take (v := (.int .i64 6)) 5 rfl (by kernel_rfl) (by kernel_rfl) (by kernel_rfl) (fun _ _ _ h => h) (by kernel_rfl) (fun w hSw => ?_) ⟨d0, d1, d2, d3, d4, d5, d6, dl, dh⟩ ?_
      · try dsimp only at hSw
        go_simp
      try simp only [Act.put, List.setIfInBounds_toArray, List.set_cons_zero, List.set_cons_succ]
      refine wa_take (v := (.pointer (some ⟨w1.heap.size + 1, 6, none⟩))) 6 rfl (by kernel_rfl) (by kernel_rfl) (by kernel_rfl) (fun _ _ _ h => h) (by kernel_rfl) (fun w hSw => ?_) ⟨d0, d1, d2, d3, d4, d5, d6, dl, dh⟩ ?_
      · try dsimp only at hSw
        go_simp
      try simp only [Act.put, List.setIfInBounds_toArray, List.set_cons_zero, List.set_cons_succ]
      refine wa_take (v := (.int .i64 2)) 7 rfl (by kernel_rfl) (by kernel_rfl) (by kernel_rfl) (fun _ _ _ h => h) (by kernel_rfl) (fun w hSw => ?_) ⟨d0, d1, d2, d3, d4, d5, d6, dl, dh⟩ ?_
      · try dsimp only at hSw
        go_simp
      try simp only [Act.put, List.setIfInBounds_toArray, List.set_cons_zero, List.set_cons_succ]
      refine wa_take (v := (.bool true)) 8 rfl (by kernel_rfl) (by kernel_rfl) (by kernel_rfl) (fun _ _ _ h => h) (by kernel_rfl) (fun w hSw => ?_) ⟨d0, d1, d2, d3, d4, d5, d6, dl, dh⟩ ?_
      · try dsimp only at hSw
        go_simp
      try simp only [Act.put, List.setIfInBounds_toArray, List.set_cons_zero, List.set_cons_succ]
      refine wa_one 1 (by kernel_rfl) rfl (by kernel_rfl) (fun Kc hK => ?_)
      go_simp
      go_at_call 11
      refine (unhide CC).mono ?_
      rintro ev w5 ⟨rfl, b5⟩
      replace B4 := hide (below_of (unhide B4) b5)
      replace d0 := (b5.cell (p := ⟨w1.heap.size, 0, none⟩) lg).trans d0
      replace d1 := (b5.cell (p := ⟨w1.heap.size, 1, none⟩) lg).trans d1
      replace d2 := (b5.cell (p := ⟨w1.heap.size, 2, none⟩) lg).trans d2
      replace d3 := (b5.cell (p := ⟨w1.heap.size, 3, none⟩) lg).trans d3
      replace d4 := (b5.cell (p := ⟨w1.heap.size, 4, none⟩) lg).trans d4
      replace d5 := (b5.cell (p := ⟨w1.heap.size, 5, none⟩) lg).trans d5
      replace d6 := (b5.cell (p := ⟨w1.heap.size, 6, none⟩) lg).trans d6
      replace dl := (b5.cell (p := ⟨w1.heap.size + 1, 6, none⟩) ll).trans dl
      replace dh := (b5.cell (p := ⟨w1.heap.size + 1 + 1, 6, none⟩) lh).trans dh
      have G5 := hide ((unhide G4).below b5)
      replace lg := Nat.lt_of_lt_of_le lg b5.size
      replace ll := Nat.lt_of_lt_of_le ll b5.size
      replace lh := Nat.lt_of_lt_of_le lh b5.size
      clear b5
      refine hK.out _ _ ⟨d0, d1, d2, d3, d4, d5, d6, dl, dh⟩ ?_
      clear hK Kc
      try simp only [Act.put, List.setIfInBounds_toArray, List.set_cons_zero, List.set_cons_succ]
      refine wa_take (v := (.bool false)) 2 rfl (by kernel_rfl) (by kernel_rfl) (by kernel_rfl) (fun _ _ _ h => h) (by kernel_rfl) (fun w hSw => ?_) ⟨d0, d1, d2, d3, d4, d5, d6, dl, dh⟩ ?_
      · try dsimp only at hSw
        go_simp
      try simp only [Act.put, List.setIfInBounds_toArray, List.set_cons_zero, List.set_cons_succ]
      refine wa_take (v := (.bool true)) 9 rfl (by kernel_rfl) (by kernel_rfl) (by kernel_rfl) (fun _ _ _ h => h) (by kernel_rfl) (fun w hSw => ?_) ⟨d0, d1, d2, d3, d4, d5, d6, dl, dh⟩ ?_
      · try dsimp only at hSw
        go_simp
      try simp only [Act.put, List.setIfInBounds_toArray, List.set_cons_zero, List.set_cons_succ]
      refine wa_take (v := (.int .i64 ((B : Int) - 30))) 10 rfl (by kernel_rfl) (by kernel_rfl) (by kernel_rfl) (fun _ _ _ h => h) (by kernel_rfl) (fun w hSw => ?_) ⟨d0, d1, d2, d3, d4, d5, d6, dl, dh⟩ ?_
      · try dsimp only at hSw
        go_simp
      try simp only [Act.put, List.setIfInBounds_toArray, List.set_cons_zero, List.set_cons_succ]
      refine wa_take (v := (.slice (some ⟨w1.heap.size + 1 + 1, 0, none⟩) 7 7)) 11 rfl (by kernel_rfl) (by kernel_rfl) (by kernel_rfl) (fun _ _ _ h => h) (by kernel_rfl) (fun w hSw => ?_) ⟨d0, d1, d2, d3, d4, d5, d6, dl, dh⟩ ?_
      · try dsimp only at hSw
        go_simp
      try simp only [Act.put, List.setIfInBounds_toArray, List.set_cons_zero, List.set_cons_succ]
      refine wa_take (v := (.int .i64 6)) 12 rfl (by kernel_rfl) (by kernel_rfl) (by kernel_rfl) (fun _ _ _ h => h) (by kernel_rfl) (fun w hSw => ?_) ⟨d0, d1, d2, d3, d4, d5, d6, dl, dh⟩ ?_
      · try dsimp only at hSw
        go_simp
      try simp only [Act.put, List.setIfInBounds_toArray, List.set_cons_zero, List.set_cons_succ]
      refine wa_take (v := (.pointer (some ⟨w1.heap.size + 1 + 1, 6, none⟩))) 13 rfl (by kernel_rfl) (by kernel_rfl) (by kernel_rfl) (fun _ _ _ h => h) (by kernel_rfl) (fun w hSw => ?_) ⟨d0, d1, d2, d3, d4, d5, d6, dl, dh⟩ ?_
      · try dsimp only at hSw
        go_simp
      try simp only [Act.put, List.setIfInBounds_toArray, List.set_cons_zero, List.set_cons_succ]
      refine wa_take (v := (.int .i64 32)) 14 rfl (by kernel_rfl) (by kernel_rfl) (by kernel_rfl) (fun _ _ _ h => h) (by kernel_rfl) (fun w hSw => ?_) ⟨d0, d1, d2, d3, d4, d5, d6, dl, dh⟩ ?_
      · try dsimp only at hSw
        go_simp
      try simp only [Act.put, List.setIfInBounds_toArray, List.set_cons_zero, List.set_cons_succ]
      refine wa_take (v := (.bool false)) 15 rfl (by kernel_rfl) (by kernel_rfl) (by kernel_rfl) (fun _ _ _ h => h) (by kernel_rfl) (fun w hSw => ?_) ⟨d0, d1, d2, d3, d4, d5, d6, dl, dh⟩ ?_
      · try dsimp only at hSw
        go_simp
      try simp only [Act.put, List.setIfInBounds_toArray, List.set_cons_zero, List.set_cons_succ]
      refine wa_take (v := (.bool false)) 16 rfl (by kernel_rfl) (by kernel_rfl) (by kernel_rfl) (fun _ _ _ h => h) (by kernel_rfl) (fun w hSw => ?_) ⟨d0, d1, d2, d3, d4, d5, d6, dl, dh⟩ ?_
      · try dsimp only at hSw
        go_simp
      try simp only [Act.put, List.setIfInBounds_toArray, List.set_cons_zero, List.set_cons_succ]
      refine wa_take (v := (.bool true)) 17 rfl (by kernel_rfl) (by kernel_rfl) (by kernel_rfl) (fun _ _ _ h => h) (by kernel_rfl) (fun w hSw => ?_) ⟨d0, d1, d2, d3, d4, d5, d6, dl, dh⟩ ?_
      · try dsimp only at hSw
        go_simp
      try simp only [Act.put, List.setIfInBounds_toArray, List.set_cons_zero, List.set_cons_succ]
      refine wa_take (v := (.bool true)) 18 rfl (by kernel_rfl) (by kernel_rfl) (by kernel_rfl) (fun _ _ _ h => h) (by kernel_rfl) (fun w hSw => ?_) ⟨d0, d1, d2, d3, d4, d5, d6, dl, dh⟩ ?_
      · try dsimp only at hSw
        go_simp
      try simp only [Act.put, List.setIfInBounds_toArray, List.set_cons_zero, List.set_cons_succ]
      refine wa_one 19 (by kernel_rfl) rfl (by kernel_rfl) (fun Kc hK => ?_)
      go_simp
      go_at_call 18
      refine (wakes_any e _ (unhide G5)).mono ?_
      rintro ev w6 ⟨rfl, b6⟩
      replace B4 := hide (below_of (unhide B4) b6)
      replace d0 := (b6.cell (p := ⟨w1.heap.size, 0, none⟩) lg).trans d0
      replace d1 := (b6.cell (p := ⟨w1.heap.size, 1, none⟩) lg).trans d1
      replace d2 := (b6.cell (p := ⟨w1.heap.size, 2, none⟩) lg).trans d2
      replace d3 := (b6.cell (p := ⟨w1.heap.size, 3, none⟩) lg).trans d3
      replace d4 := (b6.cell (p := ⟨w1.heap.size, 4, none⟩) lg).trans d4
      replace d5 := (b6.cell (p := ⟨w1.heap.size, 5, none⟩) lg).trans d5
      replace d6 := (b6.cell (p := ⟨w1.heap.size, 6, none⟩) lg).trans d6
      replace dl := (b6.cell (p := ⟨w1.heap.size + 1, 6, none⟩) ll).trans dl
      replace dh := (b6.cell (p := ⟨w1.heap.size + 1 + 1, 6, none⟩) lh).trans dh
      clear b6
      refine hK.out _ _ ⟨d0, d1, d2, d3, d4, d5, d6, dl, dh⟩ ?_
      clear hK Kc
      try simp only [Act.put, List.setIfInBounds_toArray, List.set_cons_zero, List.set_cons_succ]
      refine wa_take (v := (.bool true)) 20 rfl (by kernel_rfl) (by kernel_rfl) (by kernel_rfl) (fun _ _ _ h => h) (by kernel_rfl) (fun w hSw => ?_) ⟨d0, d1, d2, d3, d4, d5, d6, dl, dh⟩ ?_
      · try dsimp only at hSw
        go_simp
      try simp only [Act.put, List.setIfInBounds_toArray, List.set_cons_zero, List.set_cons_succ]
      refine wa_take (v := (.bool true)) 21 rfl (by kernel_rfl) (by kernel_rfl) (by kernel_rfl) (fun _ _ _ h => h) (by kernel_rfl) (fun w hSw => ?_) ⟨d0, d1, d2, d3, d4, d5, d6, dl, dh⟩ ?_
      · try dsimp only at hSw
        go_simp
      try simp only [Act.put, List.setIfInBounds_toArray, List.set_cons_zero, List.set_cons_succ]
      refine wa_done (by kernel_rfl) ?_
      go_wp2
      go_ret
      exact ⟨rfl, unhide B4⟩
  · have e1 : decide (((B : Int) - 30) ≥ (2 : Int)) = false := decide_eq_false (by omega)
    have CC := config_any ⟨x0, x1, x2, x3, x4, x5, ((B : Int) - 30)⟩ e w4.drew (unhide G4)
    rw [show cfE ⟨x0, x1, x2, x3, x4, x5, ((B : Int) - 30)⟩ = 13 by
      have hv : inB ((B : Int) - 30) 2 32 = false := inB_false (by omega)
      simp [cfE, cfB, hv, y0, y1, y2, y3, y4, y5]] at CC
    unfold cV at CC
    dsimp only at CC
    replace CC := hide CC
    clear y0 y1 y2 y3 y4 y5
    refine wa_start (fun w' => w'.cell? ⟨w1.heap.size, 0, none⟩ = some (.int .i64 x0) ∧ w'.cell? ⟨w1.heap.size, 1, none⟩ = some (.int .i64 x1) ∧ w'.cell? ⟨w1.heap.size, 2, none⟩ = some (.int .i64 x2) ∧ w'.cell? ⟨w1.heap.size, 3, none⟩ = some (.int .i64 x3) ∧ w'.cell? ⟨w1.heap.size, 4, none⟩ = some (.int .i64 x4) ∧ w'.cell? ⟨w1.heap.size, 5, none⟩ = some (.int .i64 x5) ∧ w'.cell? ⟨w1.heap.size, 6, none⟩ = some (.int .i64 ((B : Int) - 30)) ∧ w'.cell? ⟨w1.heap.size + 1, 6, none⟩ = some (.int .i64 2) ∧ w'.cell? ⟨w1.heap.size + 1 + 1, 6, none⟩ = some (.int .i64 32)) ⟨d0, d1, d2, d3, d4, d5, d6, dl, dh⟩ ?_
    refine wa_take (v := (.agg #[.int .i64 x0, .int .i64 x1, .int .i64 x2, .int .i64 x3, .int .i64 x4, .int .i64 x5, .int .i64 ((B : Int) - 30)])) 0 rfl (by kernel_rfl) (by kernel_rfl) (by kernel_rfl) (fun _ _ _ h => h) (by kernel_rfl) (fun w hSw => ?_) ⟨d0, d1, d2, d3, d4, d5, d6, dl, dh⟩ ?_
    · try dsimp only at hSw
      go_simp
    try simp only [Act.put, List.setIfInBounds_toArray, List.set_cons_zero, List.set_cons_succ]
    refine wa_take (v := (.int .i64 ((B : Int) - 30))) 3 rfl (by kernel_rfl) (by kernel_rfl) (by kernel_rfl) (fun _ _ _ h => h) (by kernel_rfl) (fun w hSw => ?_) ⟨d0, d1, d2, d3, d4, d5, d6, dl, dh⟩ ?_
    · try dsimp only at hSw
      go_simp
    try simp only [Act.put, List.setIfInBounds_toArray, List.set_cons_zero, List.set_cons_succ]
    refine wa_take (v := (.slice (some ⟨w1.heap.size + 1, 0, none⟩) 7 7)) 4 rfl (by kernel_rfl) (by kernel_rfl) (by kernel_rfl) (fun _ _ _ h => h) (by kernel_rfl) (fun w hSw => ?_) ⟨d0, d1, d2, d3, d4, d5, d6, dl, dh⟩ ?_
    · try dsimp only at hSw
      go_simp
    try simp only [Act.put, List.setIfInBounds_toArray, List.set_cons_zero, List.set_cons_succ]
    refine wa_take (v := (.int .i64 6)) 5 rfl (by kernel_rfl) (by kernel_rfl) (by kernel_rfl) (fun _ _ _ h => h) (by kernel_rfl) (fun w hSw => ?_) ⟨d0, d1, d2, d3, d4, d5, d6, dl, dh⟩ ?_
    · try dsimp only at hSw
      go_simp
    try simp only [Act.put, List.setIfInBounds_toArray, List.set_cons_zero, List.set_cons_succ]
    refine wa_take (v := (.pointer (some ⟨w1.heap.size + 1, 6, none⟩))) 6 rfl (by kernel_rfl) (by kernel_rfl) (by kernel_rfl) (fun _ _ _ h => h) (by kernel_rfl) (fun w hSw => ?_) ⟨d0, d1, d2, d3, d4, d5, d6, dl, dh⟩ ?_
    · try dsimp only at hSw
      go_simp
    try simp only [Act.put, List.setIfInBounds_toArray, List.set_cons_zero, List.set_cons_succ]
    refine wa_take (v := (.int .i64 2)) 7 rfl (by kernel_rfl) (by kernel_rfl) (by kernel_rfl) (fun _ _ _ h => h) (by kernel_rfl) (fun w hSw => ?_) ⟨d0, d1, d2, d3, d4, d5, d6, dl, dh⟩ ?_
    · try dsimp only at hSw
      go_simp
    try simp only [Act.put, List.setIfInBounds_toArray, List.set_cons_zero, List.set_cons_succ]
    refine wa_take (v := (.bool false)) 8 rfl (by kernel_rfl) (by kernel_rfl) (by kernel_rfl) (fun _ _ _ h => h) (by kernel_rfl) (fun w hSw => ?_) ⟨d0, d1, d2, d3, d4, d5, d6, dl, dh⟩ ?_
    · try dsimp only at hSw
      go_simp
    try simp only [Act.put, List.setIfInBounds_toArray, List.set_cons_zero, List.set_cons_succ]
    refine wa_one 1 (by kernel_rfl) rfl (by kernel_rfl) (fun Kc hK => ?_)
    go_simp
    go_at_call 11
    refine (unhide CC).mono ?_
    rintro ev w5 ⟨rfl, b5⟩
    replace B4 := hide (below_of (unhide B4) b5)
    replace d0 := (b5.cell (p := ⟨w1.heap.size, 0, none⟩) lg).trans d0
    replace d1 := (b5.cell (p := ⟨w1.heap.size, 1, none⟩) lg).trans d1
    replace d2 := (b5.cell (p := ⟨w1.heap.size, 2, none⟩) lg).trans d2
    replace d3 := (b5.cell (p := ⟨w1.heap.size, 3, none⟩) lg).trans d3
    replace d4 := (b5.cell (p := ⟨w1.heap.size, 4, none⟩) lg).trans d4
    replace d5 := (b5.cell (p := ⟨w1.heap.size, 5, none⟩) lg).trans d5
    replace d6 := (b5.cell (p := ⟨w1.heap.size, 6, none⟩) lg).trans d6
    replace dl := (b5.cell (p := ⟨w1.heap.size + 1, 6, none⟩) ll).trans dl
    replace dh := (b5.cell (p := ⟨w1.heap.size + 1 + 1, 6, none⟩) lh).trans dh
    have G5 := hide ((unhide G4).below b5)
    replace lg := Nat.lt_of_lt_of_le lg b5.size
    replace ll := Nat.lt_of_lt_of_le ll b5.size
    replace lh := Nat.lt_of_lt_of_le lh b5.size
    clear b5
    refine hK.out _ _ ⟨d0, d1, d2, d3, d4, d5, d6, dl, dh⟩ ?_
    clear hK Kc
    try simp only [Act.put, List.setIfInBounds_toArray, List.set_cons_zero, List.set_cons_succ]
    refine wa_take (v := (.bool false)) 2 rfl (by kernel_rfl) (by kernel_rfl) (by kernel_rfl) (fun _ _ _ h => h) (by kernel_rfl) (fun w hSw => ?_) ⟨d0, d1, d2, d3, d4, d5, d6, dl, dh⟩ ?_
    · try dsimp only at hSw
      go_simp
    try simp only [Act.put, List.setIfInBounds_toArray, List.set_cons_zero, List.set_cons_succ]
    refine wa_take (v := (.bool false)) 9 rfl (by kernel_rfl) (by kernel_rfl) (by kernel_rfl) (fun _ _ _ h => h) (by kernel_rfl) (fun w hSw => ?_) ⟨d0, d1, d2, d3, d4, d5, d6, dl, dh⟩ ?_
    · try dsimp only at hSw
      go_simp
    try simp only [Act.put, List.setIfInBounds_toArray, List.set_cons_zero, List.set_cons_succ]
    refine wa_none 10 rfl (by kernel_rfl) (by kernel_rfl) (by kernel_rfl) (fun _ _ _ h => h) (by kernel_rfl) ⟨d0, d1, d2, d3, d4, d5, d6, dl, dh⟩ ?_
    try simp only [Act.put, List.setIfInBounds_toArray, List.set_cons_zero, List.set_cons_succ]
    refine wa_none 11 rfl (by kernel_rfl) (by kernel_rfl) (by kernel_rfl) (fun _ _ _ h => h) (by kernel_rfl) ⟨d0, d1, d2, d3, d4, d5, d6, dl, dh⟩ ?_
    try simp only [Act.put, List.setIfInBounds_toArray, List.set_cons_zero, List.set_cons_succ]
    refine wa_none 12 rfl (by kernel_rfl) (by kernel_rfl) (by kernel_rfl) (fun _ _ _ h => h) (by kernel_rfl) ⟨d0, d1, d2, d3, d4, d5, d6, dl, dh⟩ ?_
    try simp only [Act.put, List.setIfInBounds_toArray, List.set_cons_zero, List.set_cons_succ]
    refine wa_none 13 rfl (by kernel_rfl) (by kernel_rfl) (by kernel_rfl) (fun _ _ _ h => h) (by kernel_rfl) ⟨d0, d1, d2, d3, d4, d5, d6, dl, dh⟩ ?_
    try simp only [Act.put, List.setIfInBounds_toArray, List.set_cons_zero, List.set_cons_succ]
    refine wa_none 14 rfl (by kernel_rfl) (by kernel_rfl) (by kernel_rfl) (fun _ _ _ h => h) (by kernel_rfl) ⟨d0, d1, d2, d3, d4, d5, d6, dl, dh⟩ ?_
    try simp only [Act.put, List.setIfInBounds_toArray, List.set_cons_zero, List.set_cons_succ]
    refine wa_none 15 rfl (by kernel_rfl) (by kernel_rfl) (by kernel_rfl) (fun _ _ _ h => h) (by kernel_rfl) ⟨d0, d1, d2, d3, d4, d5, d6, dl, dh⟩ ?_
    try simp only [Act.put, List.setIfInBounds_toArray, List.set_cons_zero, List.set_cons_succ]
    refine wa_take (v := (.bool false)) 16 rfl (by kernel_rfl) (by kernel_rfl) (by kernel_rfl) (fun _ _ _ h => h) (by kernel_rfl) (fun w hSw => ?_) ⟨d0, d1, d2, d3, d4, d5, d6, dl, dh⟩ ?_
    · try dsimp only at hSw
      go_simp
    try simp only [Act.put, List.setIfInBounds_toArray, List.set_cons_zero, List.set_cons_succ]
    refine wa_take (v := (.bool true)) 17 rfl (by kernel_rfl) (by kernel_rfl) (by kernel_rfl) (fun _ _ _ h => h) (by kernel_rfl) (fun w hSw => ?_) ⟨d0, d1, d2, d3, d4, d5, d6, dl, dh⟩ ?_
    · try dsimp only at hSw
      go_simp
    try simp only [Act.put, List.setIfInBounds_toArray, List.set_cons_zero, List.set_cons_succ]
    refine wa_take (v := (.bool true)) 18 rfl (by kernel_rfl) (by kernel_rfl) (by kernel_rfl) (fun _ _ _ h => h) (by kernel_rfl) (fun w hSw => ?_) ⟨d0, d1, d2, d3, d4, d5, d6, dl, dh⟩ ?_
    · try dsimp only at hSw
      go_simp
    try simp only [Act.put, List.setIfInBounds_toArray, List.set_cons_zero, List.set_cons_succ]
    refine wa_one 19 (by kernel_rfl) rfl (by kernel_rfl) (fun Kc hK => ?_)
    go_simp
    go_at_call 18
    refine (wakes_any e _ (unhide G5)).mono ?_
    rintro ev w6 ⟨rfl, b6⟩
    replace B4 := hide (below_of (unhide B4) b6)
    replace d0 := (b6.cell (p := ⟨w1.heap.size, 0, none⟩) lg).trans d0
    replace d1 := (b6.cell (p := ⟨w1.heap.size, 1, none⟩) lg).trans d1
    replace d2 := (b6.cell (p := ⟨w1.heap.size, 2, none⟩) lg).trans d2
    replace d3 := (b6.cell (p := ⟨w1.heap.size, 3, none⟩) lg).trans d3
    replace d4 := (b6.cell (p := ⟨w1.heap.size, 4, none⟩) lg).trans d4
    replace d5 := (b6.cell (p := ⟨w1.heap.size, 5, none⟩) lg).trans d5
    replace d6 := (b6.cell (p := ⟨w1.heap.size, 6, none⟩) lg).trans d6
    replace dl := (b6.cell (p := ⟨w1.heap.size + 1, 6, none⟩) ll).trans dl
    replace dh := (b6.cell (p := ⟨w1.heap.size + 1 + 1, 6, none⟩) lh).trans dh
    clear b6
    refine hK.out _ _ ⟨d0, d1, d2, d3, d4, d5, d6, dl, dh⟩ ?_
    clear hK Kc
    try simp only [Act.put, List.setIfInBounds_toArray, List.set_cons_zero, List.set_cons_succ]
    refine wa_take (v := (.bool true)) 20 rfl (by kernel_rfl) (by kernel_rfl) (by kernel_rfl) (fun _ _ _ h => h) (by kernel_rfl) (fun w hSw => ?_) ⟨d0, d1, d2, d3, d4, d5, d6, dl, dh⟩ ?_
    · try dsimp only at hSw
      go_simp
    try simp only [Act.put, List.setIfInBounds_toArray, List.set_cons_zero, List.set_cons_succ]
    refine wa_take (v := (.bool true)) 21 rfl (by kernel_rfl) (by kernel_rfl) (by kernel_rfl) (fun _ _ _ h => h) (by kernel_rfl) (fun w hSw => ?_) ⟨d0, d1, d2, d3, d4, d5, d6, dl, dh⟩ ?_
    · try dsimp only at hSw
      go_simp
    try simp only [Act.put, List.setIfInBounds_toArray, List.set_cons_zero, List.set_cons_succ]
    refine wa_done (by kernel_rfl) ?_
    go_wp2
    go_ret
    exact ⟨rfl, unhide B4⟩
end Go.Proofs.YtfhglganaebpoaaDoor
