/- Walks of Twin, the page's Steps. -/
import Derived.Test.YtfhglganaebpoaaDoorS4
import Derived.Test.YtfhglganaebpoaaDoorX1
namespace Go.Proofs.YtfhglganaebpoaaDoor
open Go.RowKit

set_option maxRecDepth 100000 in
theorem twin_any (F : Nat → Int) (v : Value) (n : Nat) (w : World) (hv : Sl .u8 w v n F) (hn : n ≤ 1000000) :
    Calls Tryd.prog 8 #[v] w fun e w' => ∃ v', e = .returned v' ∧ w'.ownsRow w.heap.size 5 1 v' n (vL .u8 F n) ∧ Below w.heap.size w w' := by
  obtain ⟨i, hi, hz0, hz1, hz2⟩ := info_parts info5
  have key : ∀ (x : Addr) (cap : Nat), (∀ j u, (vL .u8 F n)[j]? = some u → w.cell? (x.add j) = some u) → Calls Tryd.prog 8 #[.slice (some x) n cap] w fun e w' => ∃ v', e = .returned v' ∧ w'.ownsRow w.heap.size 5 1 v' n (vL .u8 F n) ∧ Below w.heap.size w w' := by
    intro x cap hc
    have HC := hide hc
    clear hc
    go_enter Tryd.func8, Tryd.ntmps8
    go_wp2_with (at_builtin; refine wpList_append_own _ rfl (.tmp 4) (.tmp 5) 24 rfl w.heap.size 5 i (.int .u8 0) 1 1 Tryd.underlying24 hi hz0 hz1 hz2 rfl (by decide) (.slice none 0 0) 0 [] rfl (World.ownsRow_nil _ _ _ _) x n cap (vL .u8 F n) rfl (by rw [vL_length]; omega) (unhide HC) (vL_one _ F n) (by unfold maxLen; omega) (by omega) (Nat.le_refl _) ?_)
    intro v2 w2 hown2 hgrow2 _
    go_wp2
    go_ret
    refine ⟨v2, rfl, by simpa using hown2, (Below.refl _ _).grown hgrow2 (Nat.le_refl _) (by intro k h; cases h)⟩
  obtain ⟨p, cap, rfl, hc1, hc2⟩ := hv.shape
  have hcs := hv.cells
  cases p with
  | none =>
    obtain ⟨rfl, rfl⟩ := hcs.1 rfl
    clear hcs
    go_enter Tryd.func8, Tryd.ntmps8
    go_wp2_with (at_builtin; refine wpList_append_own_none rfl (.tmp 4) (.tmp 5) 24 rfl w.heap.size 5 i 1 Tryd.underlying24 hi (.slice none 0 0) 0 [] rfl (World.ownsRow_nil _ _ _ _) rfl ?_)
    go_wp2
    go_ret
    exact ⟨_, rfl, World.ownsRow_nil _ _ _ _, Below.refl _ _⟩
  | some x => exact key x cap (hcs.2 x rfl)
theorem fives {w : World} {b off n c I : Nat} {F : Nat → Int} (h : Sl .u8 w (.slice (some ⟨b, off, none⟩) n c) n F) (h5 : I + 5 ≤ n) :
    w.cell? ⟨b, off + I, none⟩ = some (.int .u8 (F (I))) ∧ w.cell? ⟨b, off + (I + 1), none⟩ = some (.int .u8 (F (I + 1))) ∧ w.cell? ⟨b, off + (I + 2), none⟩ = some (.int .u8 (F (I + 2))) ∧ w.cell? ⟨b, off + (I + 3), none⟩ = some (.int .u8 (F (I + 3))) ∧ w.cell? ⟨b, off + (I + 4), none⟩ = some (.int .u8 (F (I + 4))) := by
  obtain ⟨b', off', he, _, hc⟩ := h.some (by omega)
  cases he
  exact ⟨hc _ (by omega), hc _ (by omega), hc _ (by omega), hc _ (by omega), hc _ (by omega)⟩
set_option maxRecDepth 100000 in
set_option maxHeartbeats 4000000 in
theorem rsteps_any (F : Nat → Int) (v : Value) (n M : Nat) (w : World) (hv : Sl .u8 w v n F) (hF : ∀ i, i < n → 0 ≤ F i ∧ F i < 256) (hn : n ≤ 4000) (hM : M = n / 5) :
    Calls Tryd.prog 15 #[v] w fun ev w' => ∃ v', ev = .returned v' ∧ w'.ownsRow w.heap.size 27 5 v' M (vL .i64 F (M * 5)) ∧ Below w.heap.size w w' := by
  obtain ⟨p, c, rfl, hc1, hc2⟩ := hv.shape
  obtain ⟨i7, hi7, hy0, hy1, hy2⟩ := info_parts info27'
  unfold maxLen at hc2
  have HV := hide hv
  have HF := hide hF
  have HM := hide (show M * 5 ≤ n ∧ n < M * 5 + 5 from by omega)
  have HC := hide hc1
  clear hv hF hM
  go_enter Tryd.func15, Tryd.ntmps15
  go_wp2
  go_loopw [3, 4] (fun v3 i w2 => ∃ (V : Value) (j I : Nat), I = j * 5 ∧ j ≤ M ∧ v3 = V ∧ i = .int .i64 I ∧ w2.ownsRow w.heap.size 27 5 V j (vL .i64 F (j * 5)) ∧ Below w.heap.size w w2) (fun _ i _ => M * 5 - (intOf i).toNat)
  case atStart => exact ⟨_, 0, 0, rfl, by omega, rfl, rfl, World.ownsRow_nil _ _ _ _, Below.refl _ _⟩
  case round =>
    obtain ⟨V, j, I, hI, hj, hv3, rfl, ho, hb⟩ := hrel
    obtain rfl := hv3.symm
    have HI := hide hI
    have HO := hide ho
    have HB := hide hb
    have HJ := hide hj
    by_cases hlt : j < M
    · have h5 : I + 5 ≤ n := by have := unhide HM; omega
      obtain ⟨b, off, rfl, hbs, hcell⟩ := ((unhide HV).below hb (Nat.le_refl _)).some (by omega)
      have bd := unhide HF
      have q0 := hcell (I) (by omega)
      have u0 := wrap_byte (bd (I) (by omega))
      have i0 : (I : Int) < (n : Int) := by omega
      have j0 : I < n := by omega
      have d0 := (World.cell?_drew wr _).trans q0
      have q1 := hcell (I + 1) (by omega)
      have u1 := wrap_byte (bd (I + 1) (by omega))
      have i1 : ((I : Int) + 1) < (n : Int) := by omega
      have j1 : I + 1 < n := by omega
      have d1 := (World.cell?_drew wr _).trans q1
      have q2 := hcell (I + 2) (by omega)
      have u2 := wrap_byte (bd (I + 2) (by omega))
      have i2 : ((I : Int) + 2) < (n : Int) := by omega
      have j2 : I + 2 < n := by omega
      have d2 := (World.cell?_drew wr _).trans q2
      have q3 := hcell (I + 3) (by omega)
      have u3 := wrap_byte (bd (I + 3) (by omega))
      have i3 : ((I : Int) + 3) < (n : Int) := by omega
      have j3 : I + 3 < n := by omega
      have d3 := (World.cell?_drew wr _).trans q3
      have q4 := hcell (I + 4) (by omega)
      have u4 := wrap_byte (bd (I + 4) (by omega))
      have i4 : ((I : Int) + 4) < (n : Int) := by omega
      have j4 : I + 4 < n := by omega
      have d4 := (World.cell?_drew wr _).trans q4
      have y1 : IntKind.i64.wrap ((I : Int) + 1) = ((I : Int) + 1) := by rw [IntKind.wrap_i64]; omega
      have z1 : 0 ≤ ((I : Int) + 1) := by omega
      have x1 : (((I : Int) + 1)).toNat = I + 1 := by omega
      have y2 : IntKind.i64.wrap ((I : Int) + 2) = ((I : Int) + 2) := by rw [IntKind.wrap_i64]; omega
      have z2 : 0 ≤ ((I : Int) + 2) := by omega
      have x2 : (((I : Int) + 2)).toNat = I + 2 := by omega
      have y3 : IntKind.i64.wrap ((I : Int) + 3) = ((I : Int) + 3) := by rw [IntKind.wrap_i64]; omega
      have z3 : 0 ≤ ((I : Int) + 3) := by omega
      have x3 : (((I : Int) + 3)).toNat = I + 3 := by omega
      have y4 : IntKind.i64.wrap ((I : Int) + 4) = ((I : Int) + 4) := by rw [IntKind.wrap_i64]; omega
      have z4 : 0 ≤ ((I : Int) + 4) := by omega
      have x4 : (((I : Int) + 4)).toNat = I + 4 := by omega
      have t5 : (I : Int) + 5 ≤ (n : Int) := by omega
      have H5 := hide h5
      have hj8 : j ≤ 800 := by omega
      have hsz : wr.drew.heap.size = wr.heap.size := rfl
      have O2 := hide ((unhide HO).alloc (.cells #[.int .i64 (F (I)), .int .i64 (F (I + 1)), .int .i64 (F (I + 2)), .int .i64 (F (I + 3)), .int .i64 (F (I + 4))] 27)).drew
      have B2 := hide ((below_alloc (unhide HB) (.cells #[.int .i64 (F (I)), .int .i64 (F (I + 1)), .int .i64 (F (I + 2)), .int .i64 (F (I + 3)), .int .i64 (F (I + 4))] 27)).drew)
      have LC0 := cells_lit wr [.int .i64 (F (I)), .int .i64 (F (I + 1)), .int .i64 (F (I + 2)), .int .i64 (F (I + 3)), .int .i64 (F (I + 4))] 27
      have LC := hide (fun q u hu => (World.cell?_drew (wr.alloc (.cells #[.int .i64 (F (I)), .int .i64 (F (I + 1)), .int .i64 (F (I + 2)), .int .i64 (F (I + 3)), .int .i64 (F (I + 4))] 27)) _).trans (LC0 q u hu))
      have L1 : ∀ u ∈ ([.int .i64 (F (I)), .int .i64 (F (I + 1)), .int .i64 (F (I + 2)), .int .i64 (F (I + 3)), .int .i64 (F (I + 4))] : List Value), u.oneCell' = true := by intro u hu; simp at hu; rcases hu with rfl | rfl | rfl | rfl | rfl <;> rfl
      clear hcell bd hI ho hb hj hlt LC0
      go_upto_region 5 with fail
      refine wa_start (fun w' => w'.cell? ⟨b, off + I, none⟩ = some (.int .u8 (F (I))) ∧ w'.cell? ⟨b, off + (I + 1), none⟩ = some (.int .u8 (F (I + 1))) ∧ w'.cell? ⟨b, off + (I + 2), none⟩ = some (.int .u8 (F (I + 2))) ∧ w'.cell? ⟨b, off + (I + 3), none⟩ = some (.int .u8 (F (I + 3))) ∧ w'.cell? ⟨b, off + (I + 4), none⟩ = some (.int .u8 (F (I + 4)))) ⟨d0, d1, d2, d3, d4⟩ ?_
      refine wa_take (v := V) 0 rfl (by kernel_rfl) (by kernel_rfl) (by kernel_rfl) (fun _ _ _ h => h) (by kernel_rfl) (fun w hSw => ?_) ⟨d0, d1, d2, d3, d4⟩ ?_
      · try dsimp only at hSw
        go_simp
      try simp only [Act.put, List.setIfInBounds_toArray, List.set_cons_zero, List.set_cons_succ]
      refine wa_take (v := (.slice (some ⟨b, off, none⟩) n c)) 1 rfl (by kernel_rfl) (by kernel_rfl) (by kernel_rfl) (fun _ _ _ h => h) (by kernel_rfl) (fun w hSw => ?_) ⟨d0, d1, d2, d3, d4⟩ ?_
      · try dsimp only at hSw
        go_simp
      try simp only [Act.put, List.setIfInBounds_toArray, List.set_cons_zero, List.set_cons_succ]
      refine wa_take (v := (.int .i64 (I : Int))) 2 rfl (by kernel_rfl) (by kernel_rfl) (by kernel_rfl) (fun _ _ _ h => h) (by kernel_rfl) (fun w hSw => ?_) ⟨d0, d1, d2, d3, d4⟩ ?_
      · try dsimp only at hSw
        go_simp
      try simp only [Act.put, List.setIfInBounds_toArray, List.set_cons_zero, List.set_cons_succ]
      refine wa_take (v := (.pointer (some ⟨b, off + I, none⟩))) 3 rfl (by kernel_rfl) (by kernel_rfl) (by kernel_rfl) (fun _ _ _ h => h) (by kernel_rfl) (fun w hSw => ?_) ⟨d0, d1, d2, d3, d4⟩ ?_
      · try dsimp only at hSw
        go_simp
      try simp only [Act.put, List.setIfInBounds_toArray, List.set_cons_zero, List.set_cons_succ]
      refine wa_take (v := (.int .u8 (F (I)))) 4 rfl (by kernel_rfl) (by kernel_rfl) (by kernel_rfl) (fun _ _ _ h => h) (by kernel_rfl) (fun w hSw => ?_) ⟨d0, d1, d2, d3, d4⟩ ?_
      · try dsimp only at hSw
        go_simp
      try simp only [Act.put, List.setIfInBounds_toArray, List.set_cons_zero, List.set_cons_succ]
      refine wa_take (v := (.int .i64 (F (I)))) 5 rfl (by kernel_rfl) (by kernel_rfl) (by kernel_rfl) (fun _ _ _ h => h) (by kernel_rfl) (fun w hSw => ?_) ⟨d0, d1, d2, d3, d4⟩ ?_
      · try dsimp only at hSw
        go_simp
      try simp only [Act.put, List.setIfInBounds_toArray, List.set_cons_zero, List.set_cons_succ]
      refine wa_take (v := (.slice (some ⟨b, off, none⟩) n c)) 6 rfl (by kernel_rfl) (by kernel_rfl) (by kernel_rfl) (fun _ _ _ h => h) (by kernel_rfl) (fun w hSw => ?_) ⟨d0, d1, d2, d3, d4⟩ ?_
      · try dsimp only at hSw
        go_simp
      try simp only [Act.put, List.setIfInBounds_toArray, List.set_cons_zero, List.set_cons_succ]
      refine wa_take (v := (.int .i64 (I : Int))) 7 rfl (by kernel_rfl) (by kernel_rfl) (by kernel_rfl) (fun _ _ _ h => h) (by kernel_rfl) (fun w hSw => ?_) ⟨d0, d1, d2, d3, d4⟩ ?_
      · try dsimp only at hSw
        go_simp
      try simp only [Act.put, List.setIfInBounds_toArray, List.set_cons_zero, List.set_cons_succ]
      refine wa_take (v := (.int .i64 ((I : Int) + 1))) 8 rfl (by kernel_rfl) (by kernel_rfl) (by kernel_rfl) (fun _ _ _ h => h) (by kernel_rfl) (fun w hSw => ?_) ⟨d0, d1, d2, d3, d4⟩ ?_
      · try dsimp only at hSw
        go_simp
      try simp only [Act.put, List.setIfInBounds_toArray, List.set_cons_zero, List.set_cons_succ]
      refine wa_take (v := (.pointer (some ⟨b, off + (I + 1), none⟩))) 9 rfl (by kernel_rfl) (by kernel_rfl) (by kernel_rfl) (fun _ _ _ h => h) (by kernel_rfl) (fun w hSw => ?_) ⟨d0, d1, d2, d3, d4⟩ ?_
      · try dsimp only at hSw
        go_simp
      try simp only [Act.put, List.setIfInBounds_toArray, List.set_cons_zero, List.set_cons_succ]
      refine wa_take (v := (.int .u8 (F (I + 1)))) 10 rfl (by kernel_rfl) (by kernel_rfl) (by kernel_rfl) (fun _ _ _ h => h) (by kernel_rfl) (fun w hSw => ?_) ⟨d0, d1, d2, d3, d4⟩ ?_
      · try dsimp only at hSw
        go_simp
      try simp only [Act.put, List.setIfInBounds_toArray, List.set_cons_zero, List.set_cons_succ]
      refine wa_take (v := (.int .i64 (F (I + 1)))) 11 rfl (by kernel_rfl) (by kernel_rfl) (by kernel_rfl) (fun _ _ _ h => h) (by kernel_rfl) (fun w hSw => ?_) ⟨d0, d1, d2, d3, d4⟩ ?_
      · try dsimp only at hSw
        go_simp
      try simp only [Act.put, List.setIfInBounds_toArray, List.set_cons_zero, List.set_cons_succ]
      refine wa_take (v := (.slice (some ⟨b, off, none⟩) n c)) 12 rfl (by kernel_rfl) (by kernel_rfl) (by kernel_rfl) (fun _ _ _ h => h) (by kernel_rfl) (fun w hSw => ?_) ⟨d0, d1, d2, d3, d4⟩ ?_
      · try dsimp only at hSw
        go_simp
      try simp only [Act.put, List.setIfInBounds_toArray, List.set_cons_zero, List.set_cons_succ]
      refine wa_take (v := (.int .i64 (I : Int))) 13 rfl (by kernel_rfl) (by kernel_rfl) (by kernel_rfl) (fun _ _ _ h => h) (by kernel_rfl) (fun w hSw => ?_) ⟨d0, d1, d2, d3, d4⟩ ?_
      · try dsimp only at hSw
        go_simp
      try simp only [Act.put, List.setIfInBounds_toArray, List.set_cons_zero, List.set_cons_succ]
      refine wa_take (v := (.int .i64 ((I : Int) + 2))) 14 rfl (by kernel_rfl) (by kernel_rfl) (by kernel_rfl) (fun _ _ _ h => h) (by kernel_rfl) (fun w hSw => ?_) ⟨d0, d1, d2, d3, d4⟩ ?_
      · try dsimp only at hSw
        go_simp
      try simp only [Act.put, List.setIfInBounds_toArray, List.set_cons_zero, List.set_cons_succ]
      refine wa_take (v := (.pointer (some ⟨b, off + (I + 2), none⟩))) 15 rfl (by kernel_rfl) (by kernel_rfl) (by kernel_rfl) (fun _ _ _ h => h) (by kernel_rfl) (fun w hSw => ?_) ⟨d0, d1, d2, d3, d4⟩ ?_
      · try dsimp only at hSw
        go_simp
      try simp only [Act.put, List.setIfInBounds_toArray, List.set_cons_zero, List.set_cons_succ]
      refine wa_take (v := (.int .u8 (F (I + 2)))) 16 rfl (by kernel_rfl) (by kernel_rfl) (by kernel_rfl) (fun _ _ _ h => h) (by kernel_rfl) (fun w hSw => ?_) ⟨d0, d1, d2, d3, d4⟩ ?_
      · try dsimp only at hSw
        go_simp
      try simp only [Act.put, List.setIfInBounds_toArray, List.set_cons_zero, List.set_cons_succ]
      refine wa_take (v := (.int .i64 (F (I + 2)))) 17 rfl (by kernel_rfl) (by kernel_rfl) (by kernel_rfl) (fun _ _ _ h => h) (by kernel_rfl) (fun w hSw => ?_) ⟨d0, d1, d2, d3, d4⟩ ?_
      · try dsimp only at hSw
        go_simp
      try simp only [Act.put, List.setIfInBounds_toArray, List.set_cons_zero, List.set_cons_succ]
      refine wa_take (v := (.slice (some ⟨b, off, none⟩) n c)) 18 rfl (by kernel_rfl) (by kernel_rfl) (by kernel_rfl) (fun _ _ _ h => h) (by kernel_rfl) (fun w hSw => ?_) ⟨d0, d1, d2, d3, d4⟩ ?_
      · try dsimp only at hSw
        go_simp
      try simp only [Act.put, List.setIfInBounds_toArray, List.set_cons_zero, List.set_cons_succ]
      refine wa_take (v := (.int .i64 (I : Int))) 19 rfl (by kernel_rfl) (by kernel_rfl) (by kernel_rfl) (fun _ _ _ h => h) (by kernel_rfl) (fun w hSw => ?_) ⟨d0, d1, d2, d3, d4⟩ ?_
      · try dsimp only at hSw
        go_simp
      try simp only [Act.put, List.setIfInBounds_toArray, List.set_cons_zero, List.set_cons_succ]
      refine wa_take (v := (.int .i64 ((I : Int) + 3))) 20 rfl (by kernel_rfl) (by kernel_rfl) (by kernel_rfl) (fun _ _ _ h => h) (by kernel_rfl) (fun w hSw => ?_) ⟨d0, d1, d2, d3, d4⟩ ?_
      · try dsimp only at hSw
        go_simp
      try simp only [Act.put, List.setIfInBounds_toArray, List.set_cons_zero, List.set_cons_succ]
      refine wa_take (v := (.pointer (some ⟨b, off + (I + 3), none⟩))) 21 rfl (by kernel_rfl) (by kernel_rfl) (by kernel_rfl) (fun _ _ _ h => h) (by kernel_rfl) (fun w hSw => ?_) ⟨d0, d1, d2, d3, d4⟩ ?_
      · try dsimp only at hSw
        go_simp
      try simp only [Act.put, List.setIfInBounds_toArray, List.set_cons_zero, List.set_cons_succ]
      refine wa_take (v := (.int .u8 (F (I + 3)))) 22 rfl (by kernel_rfl) (by kernel_rfl) (by kernel_rfl) (fun _ _ _ h => h) (by kernel_rfl) (fun w hSw => ?_) ⟨d0, d1, d2, d3, d4⟩ ?_
      · try dsimp only at hSw
        go_simp
      try simp only [Act.put, List.setIfInBounds_toArray, List.set_cons_zero, List.set_cons_succ]
      refine wa_take (v := (.int .i64 (F (I + 3)))) 23 rfl (by kernel_rfl) (by kernel_rfl) (by kernel_rfl) (fun _ _ _ h => h) (by kernel_rfl) (fun w hSw => ?_) ⟨d0, d1, d2, d3, d4⟩ ?_
      · try dsimp only at hSw
        go_simp
      try simp only [Act.put, List.setIfInBounds_toArray, List.set_cons_zero, List.set_cons_succ]
      refine wa_take (v := (.slice (some ⟨b, off, none⟩) n c)) 24 rfl (by kernel_rfl) (by kernel_rfl) (by kernel_rfl) (fun _ _ _ h => h) (by kernel_rfl) (fun w hSw => ?_) ⟨d0, d1, d2, d3, d4⟩ ?_
      · try dsimp only at hSw
        go_simp
      try simp only [Act.put, List.setIfInBounds_toArray, List.set_cons_zero, List.set_cons_succ]
      refine wa_take (v := (.int .i64 (I : Int))) 25 rfl (by kernel_rfl) (by kernel_rfl) (by kernel_rfl) (fun _ _ _ h => h) (by kernel_rfl) (fun w hSw => ?_) ⟨d0, d1, d2, d3, d4⟩ ?_
      · try dsimp only at hSw
        go_simp
      try simp only [Act.put, List.setIfInBounds_toArray, List.set_cons_zero, List.set_cons_succ]
      refine wa_take (v := (.int .i64 ((I : Int) + 4))) 26 rfl (by kernel_rfl) (by kernel_rfl) (by kernel_rfl) (fun _ _ _ h => h) (by kernel_rfl) (fun w hSw => ?_) ⟨d0, d1, d2, d3, d4⟩ ?_
      · try dsimp only at hSw
        go_simp
      try simp only [Act.put, List.setIfInBounds_toArray, List.set_cons_zero, List.set_cons_succ]
      refine wa_take (v := (.pointer (some ⟨b, off + (I + 4), none⟩))) 27 rfl (by kernel_rfl) (by kernel_rfl) (by kernel_rfl) (fun _ _ _ h => h) (by kernel_rfl) (fun w hSw => ?_) ⟨d0, d1, d2, d3, d4⟩ ?_
      · try dsimp only at hSw
        go_simp
      try simp only [Act.put, List.setIfInBounds_toArray, List.set_cons_zero, List.set_cons_succ]
      refine wa_take (v := (.int .u8 (F (I + 4)))) 28 rfl (by kernel_rfl) (by kernel_rfl) (by kernel_rfl) (fun _ _ _ h => h) (by kernel_rfl) (fun w hSw => ?_) ⟨d0, d1, d2, d3, d4⟩ ?_
      · try dsimp only at hSw
        go_simp
      try simp only [Act.put, List.setIfInBounds_toArray, List.set_cons_zero, List.set_cons_succ]
      refine wa_take (v := (.int .i64 (F (I + 4)))) 29 rfl (by kernel_rfl) (by kernel_rfl) (by kernel_rfl) (fun _ _ _ h => h) (by kernel_rfl) (fun w hSw => ?_) ⟨d0, d1, d2, d3, d4⟩ ?_
      · try dsimp only at hSw
        go_simp
      try simp only [Act.put, List.setIfInBounds_toArray, List.set_cons_zero, List.set_cons_succ]
      refine wa_take (v := (.agg #[.int .i64 (F (I)), .int .i64 (F (I + 1)), .int .i64 (F (I + 2)), .int .i64 (F (I + 3)), .int .i64 (F (I + 4))])) 30 rfl (by kernel_rfl) (by kernel_rfl) (by kernel_rfl) (fun _ _ _ h => h) (by kernel_rfl) (fun w hSw => ?_) ⟨d0, d1, d2, d3, d4⟩ ?_
      · try dsimp only at hSw
        go_simp
      try simp only [Act.put, List.setIfInBounds_toArray, List.set_cons_zero, List.set_cons_succ]
      refine wa_one 31 (by kernel_rfl) rfl (by kernel_rfl) (fun Kc hK => ?_)
      go_simp
      refine hK.out _ _ ⟨(World.cell?_drew (wr.alloc (.cells #[.int .i64 (F (I)), .int .i64 (F (I + 1)), .int .i64 (F (I + 2)), .int .i64 (F (I + 3)), .int .i64 (F (I + 4))] 27)) _).trans ((World.cell?_alloc_lt wr (.cells #[.int .i64 (F (I)), .int .i64 (F (I + 1)), .int .i64 (F (I + 2)), .int .i64 (F (I + 3)), .int .i64 (F (I + 4))] 27) ⟨b, off + I, none⟩ hbs).trans q0), (World.cell?_drew (wr.alloc (.cells #[.int .i64 (F (I)), .int .i64 (F (I + 1)), .int .i64 (F (I + 2)), .int .i64 (F (I + 3)), .int .i64 (F (I + 4))] 27)) _).trans ((World.cell?_alloc_lt wr (.cells #[.int .i64 (F (I)), .int .i64 (F (I + 1)), .int .i64 (F (I + 2)), .int .i64 (F (I + 3)), .int .i64 (F (I + 4))] 27) ⟨b, off + (I + 1), none⟩ hbs).trans q1), (World.cell?_drew (wr.alloc (.cells #[.int .i64 (F (I)), .int .i64 (F (I + 1)), .int .i64 (F (I + 2)), .int .i64 (F (I + 3)), .int .i64 (F (I + 4))] 27)) _).trans ((World.cell?_alloc_lt wr (.cells #[.int .i64 (F (I)), .int .i64 (F (I + 1)), .int .i64 (F (I + 2)), .int .i64 (F (I + 3)), .int .i64 (F (I + 4))] 27) ⟨b, off + (I + 2), none⟩ hbs).trans q2), (World.cell?_drew (wr.alloc (.cells #[.int .i64 (F (I)), .int .i64 (F (I + 1)), .int .i64 (F (I + 2)), .int .i64 (F (I + 3)), .int .i64 (F (I + 4))] 27)) _).trans ((World.cell?_alloc_lt wr (.cells #[.int .i64 (F (I)), .int .i64 (F (I + 1)), .int .i64 (F (I + 2)), .int .i64 (F (I + 3)), .int .i64 (F (I + 4))] 27) ⟨b, off + (I + 3), none⟩ hbs).trans q3), (World.cell?_drew (wr.alloc (.cells #[.int .i64 (F (I)), .int .i64 (F (I + 1)), .int .i64 (F (I + 2)), .int .i64 (F (I + 3)), .int .i64 (F (I + 4))] 27)) _).trans ((World.cell?_alloc_lt wr (.cells #[.int .i64 (F (I)), .int .i64 (F (I + 1)), .int .i64 (F (I + 2)), .int .i64 (F (I + 3)), .int .i64 (F (I + 4))] 27) ⟨b, off + (I + 4), none⟩ hbs).trans q4)⟩ ?_
      clear hK Kc
      try simp only [Act.put, List.setIfInBounds_toArray, List.set_cons_zero, List.set_cons_succ]
      have e0 := fun d => (World.cell?_drew (wr.alloc (.cells #[.int .i64 (F (I)), .int .i64 (F (I + 1)), .int .i64 (F (I + 2)), .int .i64 (F (I + 3)), .int .i64 (F (I + 4))] 27)) ⟨b, d, none⟩).trans (World.cell?_alloc_lt wr (.cells #[.int .i64 (F (I)), .int .i64 (F (I + 1)), .int .i64 (F (I + 2)), .int .i64 (F (I + 3)), .int .i64 (F (I + 4))] 27) ⟨b, d, none⟩ hbs)
      refine wa_one 32 (by kernel_rfl) rfl (by kernel_rfl) (fun Kc hK => ?_)
      refine wp_append_own _ (.tmp 12) (.tmp 43) 25 rfl w.heap.size 27 i7 (.agg #[.int .i64 0, .int .i64 0, .int .i64 0, .int .i64 0, .int .i64 0]) 5 40 Tryd.underlying25 hi7 hy0 hy1 hy2 rfl (by decide) V j (vL .i64 F (j * 5)) rfl (unhide O2) ⟨wr.heap.size, 0, none⟩ 1 1 [.int .i64 (F (I)), .int .i64 (F (I + 1)), .int .i64 (F (I + 2)), .int .i64 (F (I + 3)), .int .i64 (F (I + 4))] rfl rfl (unhide LC) L1 (by unfold maxLen; omega) (by omega) (unhide B2).size fun v4 w4 o4 g4 _ => ?_
      have O4 := hide o4
      have B4 := hide ((unhide B2).grown g4 (unhide B2).size fun k hk => ((unhide O2).lt k hk).1)
      have S4 := hide ((unhide HV).below (unhide B4) (Nat.le_refl _))
      refine hK.out _ _ (fives (unhide S4) (unhide H5)) ?_
      clear hK Kc
      try simp only [Act.put, List.setIfInBounds_toArray, List.set_cons_zero, List.set_cons_succ]
      refine wa_take (v := v4) 33 rfl (by kernel_rfl) (by kernel_rfl) (by kernel_rfl) (fun _ _ _ h => h) (by kernel_rfl) (fun w hSw => ?_) (fives (unhide S4) (unhide H5)) ?_
      · try dsimp only at hSw
        go_simp
      try simp only [Act.put, List.setIfInBounds_toArray, List.set_cons_zero, List.set_cons_succ]
      clear o4 g4 LC O2 B2 S4 e0
      refine wa_done (by kernel_rfl) ?_
      go_wp2
      have R := hide (show w4.ownsRow w.heap.size 27 5 v4 (j + 1) (vL .i64 F ((j + 1) * 5)) by
        rw [vL_five, ← unhide HI]
        have := unhide O4
        rw [← unhide HI] at this
        exact this)
      clear O4
      go_wp2
      go_roundw
      case rel => exact ⟨_, j + 1, I + 5, by have := unhide HI; omega, by have := unhide HJ; have := unhide HM; have := unhide HI; omega, rfl, by go_num, unhide R, unhide B4⟩
      case measure => simp [intOf]; have := unhide HM; omega
    · obtain rfl : j = M := by omega
      have f5 : ¬ ((I : Int) + 5 ≤ (n : Int)) := by have := unhide HM; omega
      have I4 : I ≤ 4000 := by have := unhide HM; omega
      clear hI ho hb hj hlt
      go_wp2
      go_ret
      exact ⟨_, rfl, unhide HO, unhide HB⟩
end Go.Proofs.YtfhglganaebpoaaDoor
