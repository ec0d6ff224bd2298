/- Walk of Bytes. -/
import Derived.Test.YtfhglganaebpoaaDoorS2
namespace Go.Proofs.YtfhglganaebpoaaDoor
open Go.RowKit

/-- The first k steps are bytes. -/
def okS (F : Nat → Int) : Nat → Bool
  | 0 => true
  | k + 1 => okS F k && byB (stp F k)
theorem okS_get {F : Nat → Int} {n : Nat} (h : okS F n = true) : ∀ i, i < n → byB (stp F i) = true := by
  induction n with
  | zero => intro i hi; omega
  | succ n ih =>
    unfold okS at h
    simp only [Bool.and_eq_true] at h
    intro i hi
    by_cases e : i = n
    · subst e; exact h.2
    · exact ih h.1 i (by omega)
theorem okS_false {F : Nat → Int} {k n : Nat} (hk : k < n) (h : byB (stp F k) = false) : okS F n = false := by
  cases q : okS F n with
  | false => rfl
  | true => rw [okS_get q k hk] at h; cases h
theorem okS_of {F : Nat → Int} {n : Nat} (h : ∀ j, j < n * 5 → 0 ≤ F j ∧ F j ≤ 255) : okS F n = true := by
  induction n with
  | zero => rfl
  | succ n ih =>
    unfold okS
    rw [ih fun j hj => h j (by omega), Bool.true_and, byB_iff]
    simp only [stp, inB_iff]
    exact ⟨h _ (by omega), h _ (by omega), h _ (by omega), h _ (by omega), h _ (by omega)⟩
theorem byB_stp {F : Nat → Int} {k : Nat} (h : byB (stp F k) = true) : (0 ≤ F (k * 5) ∧ F (k * 5) ≤ 255) ∧ (0 ≤ F (k * 5 + 1) ∧ F (k * 5 + 1) ≤ 255) ∧ (0 ≤ F (k * 5 + 2) ∧ F (k * 5 + 2) ≤ 255) ∧ (0 ≤ F (k * 5 + 3) ∧ F (k * 5 + 3) ≤ 255) ∧ (0 ≤ F (k * 5 + 4) ∧ F (k * 5 + 4) ≤ 255) := by
  rw [byB_iff] at h
  simpa only [stp, inB_iff] using h
/-- What Bytes answers: 0, or why not. -/
def byE (F : Nat → Int) (n : Nat) : Int := if okS F n then (if 800 < n then 2 else 0) else 1

set_option maxHeartbeats 2000000 in
set_option maxRecDepth 100000 in
theorem bytes_bad (F : Nat → Int) (v : Value) (n : Nat) (e : Addr) (w : World) (hG : Glob w e) (hv : Ss w v n F) (hE : byE F n ≠ 0) :
    Calls Tryd.prog 10 #[v] w fun ev w' => ev = .returned (.tuple #[.slice none 0 0, .int .i64 (byE F n)]) ∧ Below w.heap.size w w' := by
  obtain ⟨p, c, rfl, hc1, hc2⟩ := hv.shape
  unfold maxLen at hc2
  have HV := hide hv
  have HG := hide hG
  have HE := hide hE
  clear hv hG hE
  go_enter Tryd.func10, Tryd.ntmps10
  go_wp2
  go_loopw [11] (fun i w2 => ∃ k : Nat, k ≤ n ∧ i = .int .i64 k ∧ okS F k = true ∧ Below w.heap.size w w2) (fun i _ => n - (intOf i).toNat)
  case atStart => exact ⟨0, by omega, rfl, rfl, Below.refl _ _⟩
  case round =>
    obtain ⟨k, hk, rfl, ha, hb⟩ := hrel
    have HA := hide ha
    have HB := hide hb
    clear ha
    by_cases hlt : k < n
    · obtain ⟨b, off, rfl, hbs, hcell⟩ := ((unhide HV).below hb (Nat.le_refl _)).some (by omega)
      obtain ⟨q0, q1, q2, q3, q4⟩ := Ss.five hcell k hlt
      clear hcell hb
      have CS := byL_cases (stp F k) e
      rcases CS with ⟨hr, hby⟩ | ⟨t, hr, hby⟩
      · have HR := hide hr
        have N1 := hide (show okS F (k + 1) = true by unfold okS; rw [unhide HA, hby]; rfl)
        clear hr hby
        go_upto_region 4 with fail
        obtain ⟨w1, hw1⟩ : ∃ z, z = wr.alloc (.cells #[.int .i64 (F (k * 5)), .int .i64 (F (k * 5 + 1)), .int .i64 (F (k * 5 + 2)), .int .i64 (F (k * 5 + 3)), .int .i64 (F (k * 5 + 4))] 27) := ⟨_, rfl⟩
        rw [← hw1]
        have b1 : Below wr.heap.size wr w1 := by rw [hw1]; exact below_alloc (Below.refl _ _) _
        have hx : Has w1 wr.heap.size (.cells #[.int .i64 (F (k * 5)), .int .i64 (F (k * 5 + 1)), .int .i64 (F (k * 5 + 2)), .int .i64 (F (k * 5 + 3)), .int .i64 (F (k * 5 + 4))] 27) := by rw [hw1]; exact Has.new _ _
        have GQ := hide (((unhide HG).below (unhide HB)).below b1)
        have B1 := hide (below_of (unhide HB) b1)
        have d0 := (World.cell?_drew w1 _).trans (hx.cell (k := 0) rfl)
        have d1 := (World.cell?_drew w1 _).trans (hx.cell (k := 1) rfl)
        have d2 := (World.cell?_drew w1 _).trans (hx.cell (k := 2) rfl)
        have d3 := (World.cell?_drew w1 _).trans (hx.cell (k := 3) rfl)
        have d4 := (World.cell?_drew w1 _).trans (hx.cell (k := 4) rfl)
        have g0 := (World.cell?_drew w1 _).trans (unhide GQ).2.1
        have hl := hx.1
        have BD := hide (below_drewN (Below.refl w1.heap.size w1) 1)
        have CW := wrongByte_any (stp F k) e w1.drew ((unhide GQ).below (unhide BD))
        rw [unhide HR] at CW
        unfold stp sV at CW
        dsimp only at CW
        replace CW := hide CW
        clear hw1 hx b1
        refine wa_start (fun w' => w'.cell? ⟨0, 0, none⟩ = some (.iface 91 (.pointer (some e))) ∧ w'.cell? ⟨wr.heap.size, 0, none⟩ = some (.int .i64 (F (k * 5))) ∧ w'.cell? ⟨wr.heap.size, 1, none⟩ = some (.int .i64 (F (k * 5 + 1))) ∧ w'.cell? ⟨wr.heap.size, 2, none⟩ = some (.int .i64 (F (k * 5 + 2))) ∧ w'.cell? ⟨wr.heap.size, 3, none⟩ = some (.int .i64 (F (k * 5 + 3))) ∧ w'.cell? ⟨wr.heap.size, 4, none⟩ = some (.int .i64 (F (k * 5 + 4)))) ⟨g0, d0, d1, d2, d3, d4⟩ ?_
        refine wa_take (v := (.agg #[.int .i64 (F (k * 5)), .int .i64 (F (k * 5 + 1)), .int .i64 (F (k * 5 + 2)), .int .i64 (F (k * 5 + 3)), .int .i64 (F (k * 5 + 4))])) 0 rfl (by kernel_rfl) (by kernel_rfl) (by kernel_rfl) (fun _ _ _ h => h) (by kernel_rfl) (fun w hSw => ?_) ⟨g0, d0, d1, d2, d3, d4⟩ ?_
        · try dsimp only at hSw
          go_simp
        try simp only [Act.put, List.setIfInBounds_toArray, List.set_cons_zero, List.set_cons_succ]
        refine wa_take (v := (.iface 91 (.pointer (some e)))) 2 rfl (by kernel_rfl) (by kernel_rfl) (by kernel_rfl) (fun _ _ _ h => h) (by kernel_rfl) (fun w hSw => ?_) ⟨g0, d0, d1, d2, d3, d4⟩ ?_
        · try dsimp only at hSw
          go_simp
        try simp only [Act.put, List.setIfInBounds_toArray, List.set_cons_zero, List.set_cons_succ]
        refine wa_one 1 (by kernel_rfl) rfl (by kernel_rfl) (fun Kc hK => ?_)
        go_simp
        go_at_call 23
        refine (unhide CW).mono ?_
        rintro ev w3 ⟨rfl, b3⟩
        have B3 := hide (below_of (unhide B1) (below_of (unhide BD) b3))
        have G3 := hide ((unhide GQ).below (below_of (unhide BD) b3))
        replace d0 := (b3.cell (p := ⟨wr.heap.size, 0, none⟩) hl).trans d0
        replace d1 := (b3.cell (p := ⟨wr.heap.size, 1, none⟩) hl).trans d1
        replace d2 := (b3.cell (p := ⟨wr.heap.size, 2, none⟩) hl).trans d2
        replace d3 := (b3.cell (p := ⟨wr.heap.size, 3, none⟩) hl).trans d3
        replace d4 := (b3.cell (p := ⟨wr.heap.size, 4, none⟩) hl).trans d4
        replace g0 := (unhide G3).2.1
        replace hl := Nat.lt_of_lt_of_le hl b3.size
        clear b3 CW BD GQ B1
        refine hK.out _ _ ⟨g0, d0, d1, d2, d3, d4⟩ ?_
        clear hK Kc
        try simp only [Act.put, List.setIfInBounds_toArray, List.set_cons_zero, List.set_cons_succ]
        refine wa_one 3 (by kernel_rfl) rfl (by kernel_rfl) (fun Kc hK => ?_)
        go_simp
        go_at_call 22
        refine (is_nil _ _).mono ?_
        rintro ev w4 ⟨rfl, rfl⟩
        refine hK.out _ _ ⟨g0, d0, d1, d2, d3, d4⟩ ?_
        clear hK Kc
        try simp only [Act.put, List.setIfInBounds_toArray, List.set_cons_zero, List.set_cons_succ]
        refine wa_done (by kernel_rfl) ?_

        clear d0 d1 d2 d3 d4 g0 G3 hl q0 q1 q2 q3 q4
        go_wp2
        go_roundw
        case rel => exact ⟨k + 1, by omega, by go_num, unhide N1, unhide B3⟩
        case measure => simp [intOf]; omega
      · have HR := hide hr
        have R := hide (show byE F n = 1 by simp [byE, okS_false hlt hby])
        clear hr hby
        go_upto_region 4 with fail
        obtain ⟨w1, hw1⟩ : ∃ z, z = wr.alloc (.cells #[.int .i64 (F (k * 5)), .int .i64 (F (k * 5 + 1)), .int .i64 (F (k * 5 + 2)), .int .i64 (F (k * 5 + 3)), .int .i64 (F (k * 5 + 4))] 27) := ⟨_, rfl⟩
        rw [← hw1]
        have b1 : Below wr.heap.size wr w1 := by rw [hw1]; exact below_alloc (Below.refl _ _) _
        have hx : Has w1 wr.heap.size (.cells #[.int .i64 (F (k * 5)), .int .i64 (F (k * 5 + 1)), .int .i64 (F (k * 5 + 2)), .int .i64 (F (k * 5 + 3)), .int .i64 (F (k * 5 + 4))] 27) := by rw [hw1]; exact Has.new _ _
        have GQ := hide (((unhide HG).below (unhide HB)).below b1)
        have B1 := hide (below_of (unhide HB) b1)
        have d0 := (World.cell?_drew w1 _).trans (hx.cell (k := 0) rfl)
        have d1 := (World.cell?_drew w1 _).trans (hx.cell (k := 1) rfl)
        have d2 := (World.cell?_drew w1 _).trans (hx.cell (k := 2) rfl)
        have d3 := (World.cell?_drew w1 _).trans (hx.cell (k := 3) rfl)
        have d4 := (World.cell?_drew w1 _).trans (hx.cell (k := 4) rfl)
        have g0 := (World.cell?_drew w1 _).trans (unhide GQ).2.1
        have hl := hx.1
        have BD := hide (below_drewN (Below.refl w1.heap.size w1) 1)
        have CW := wrongByte_any (stp F k) e w1.drew ((unhide GQ).below (unhide BD))
        rw [unhide HR] at CW
        unfold stp sV at CW
        dsimp only at CW
        replace CW := hide CW
        clear hw1 hx b1
        refine wa_start (fun w' => w'.cell? ⟨0, 0, none⟩ = some (.iface 91 (.pointer (some e))) ∧ w'.cell? ⟨wr.heap.size, 0, none⟩ = some (.int .i64 (F (k * 5))) ∧ w'.cell? ⟨wr.heap.size, 1, none⟩ = some (.int .i64 (F (k * 5 + 1))) ∧ w'.cell? ⟨wr.heap.size, 2, none⟩ = some (.int .i64 (F (k * 5 + 2))) ∧ w'.cell? ⟨wr.heap.size, 3, none⟩ = some (.int .i64 (F (k * 5 + 3))) ∧ w'.cell? ⟨wr.heap.size, 4, none⟩ = some (.int .i64 (F (k * 5 + 4)))) ⟨g0, d0, d1, d2, d3, d4⟩ ?_
        refine wa_take (v := (.agg #[.int .i64 (F (k * 5)), .int .i64 (F (k * 5 + 1)), .int .i64 (F (k * 5 + 2)), .int .i64 (F (k * 5 + 3)), .int .i64 (F (k * 5 + 4))])) 0 rfl (by kernel_rfl) (by kernel_rfl) (by kernel_rfl) (fun _ _ _ h => h) (by kernel_rfl) (fun w hSw => ?_) ⟨g0, d0, d1, d2, d3, d4⟩ ?_
        · try dsimp only at hSw
          go_simp
        try simp only [Act.put, List.setIfInBounds_toArray, List.set_cons_zero, List.set_cons_succ]
        refine wa_take (v := (.iface 91 (.pointer (some e)))) 2 rfl (by kernel_rfl) (by kernel_rfl) (by kernel_rfl) (fun _ _ _ h => h) (by kernel_rfl) (fun w hSw => ?_) ⟨g0, d0, d1, d2, d3, d4⟩ ?_
        · try dsimp only at hSw
          go_simp
        try simp only [Act.put, List.setIfInBounds_toArray, List.set_cons_zero, List.set_cons_succ]
        refine wa_one 1 (by kernel_rfl) rfl (by kernel_rfl) (fun Kc hK => ?_)
        go_simp
        go_at_call 23
        refine (unhide CW).mono ?_
        rintro ev w3 ⟨rfl, b3⟩
        have B3 := hide (below_of (unhide B1) (below_of (unhide BD) b3))
        have G3 := hide ((unhide GQ).below (below_of (unhide BD) b3))
        replace d0 := (b3.cell (p := ⟨wr.heap.size, 0, none⟩) hl).trans d0
        replace d1 := (b3.cell (p := ⟨wr.heap.size, 1, none⟩) hl).trans d1
        replace d2 := (b3.cell (p := ⟨wr.heap.size, 2, none⟩) hl).trans d2
        replace d3 := (b3.cell (p := ⟨wr.heap.size, 3, none⟩) hl).trans d3
        replace d4 := (b3.cell (p := ⟨wr.heap.size, 4, none⟩) hl).trans d4
        replace g0 := (unhide G3).2.1
        replace hl := Nat.lt_of_lt_of_le hl b3.size
        clear b3 CW BD GQ B1
        refine hK.out _ _ ⟨g0, d0, d1, d2, d3, d4⟩ ?_
        clear hK Kc
        try simp only [Act.put, List.setIfInBounds_toArray, List.set_cons_zero, List.set_cons_succ]
        refine wa_one 3 (by kernel_rfl) rfl (by kernel_rfl) (fun Kc hK => ?_)
        go_simp
        go_at_call 22
        refine (is_fe _ _ _).mono ?_
        rintro ev w4 ⟨rfl, b4⟩
        have B4 := hide (below_of (unhide B3) b4)
        replace d0 := (b4.cell (p := ⟨wr.heap.size, 0, none⟩) hl).trans d0
        replace d1 := (b4.cell (p := ⟨wr.heap.size, 1, none⟩) hl).trans d1
        replace d2 := (b4.cell (p := ⟨wr.heap.size, 2, none⟩) hl).trans d2
        replace d3 := (b4.cell (p := ⟨wr.heap.size, 3, none⟩) hl).trans d3
        replace d4 := (b4.cell (p := ⟨wr.heap.size, 4, none⟩) hl).trans d4
        replace g0 := ((unhide G3).below b4).2.1
        clear b4
        refine hK.out _ _ ⟨g0, d0, d1, d2, d3, d4⟩ ?_
        clear hK Kc
        try simp only [Act.put, List.setIfInBounds_toArray, List.set_cons_zero, List.set_cons_succ]
        refine wa_done (by kernel_rfl) ?_

        clear d0 d1 d2 d3 d4 g0 G3 hl q0 q1 q2 q3 q4
        go_wp2
        go_ret2
        exact ⟨by rw [unhide R]; rfl, unhide B4⟩
    · obtain rfl : k = n := by omega
      have h8 : 800 < k := by
        rcases Nat.lt_or_ge 800 k with h | h
        · exact h
        · exact absurd (show byE F k = 0 by simp [byE, unhide HA, Nat.not_lt.2 h]) (unhide HE)
      have R := hide (show byE F k = 2 by simp [byE, unhide HA, h8])
      clear hb
      go_wp2
      go_ret2
      exact ⟨by rw [unhide R]; rfl, unhide HB⟩
end Go.Proofs.YtfhglganaebpoaaDoor
