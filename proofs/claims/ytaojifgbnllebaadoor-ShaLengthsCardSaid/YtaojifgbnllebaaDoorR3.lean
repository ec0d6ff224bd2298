/- Walk of the page's less. -/
import Derived.Test.YtaojifgbnllebaaDoorR2
import Derived.Deep.LoopGhost
namespace Go.Proofs.YtaojifgbnllebaaDoor
open Go.RowKit

/-- A row of n digits that the call has made: at the block g. -/
theorem owns_slice {w : World} {B n : Nat} {v : Value} {xs : List Value} (h : w.ownsRow B 41 1 v n xs) (hn : 0 < n) : ∃ g cap, v = .slice (some ⟨g, 0, none⟩) n cap ∧ B ≤ g ∧ g < w.heap.size ∧ n ≤ cap ∧ cap ≤ maxLen := by
  obtain ⟨hl, h2⟩ := h
  rcases h2 with ⟨_, h2⟩ | ⟨g, cap, cur, hv, hb, hg, hc, hm, _, _⟩
  · omega
  · exact ⟨g, cap, hv, hb, (Array.getElem?_eq_some_iff.1 hg).1, hc, hm⟩
theorem owns_cell {w : World} {B n g cap : Nat} {F : Nat → Int} (h : w.ownsRow B 41 1 (.slice (some ⟨g, 0, none⟩) n cap) n (uL F n)) (i : Nat) (hi : i < n) : w.cell? ⟨g, i, none⟩ = some (.int .u64 (F i)) := by
  rw [h.cellAt i (by omega), uL_get F n i hi]
/-- The slice v holds the n digits F in w. -/
def U (w : World) (v : Value) (n : Nat) (F : Nat → Int) : Prop := ∃ g cap, v = .slice (some ⟨g, 0, none⟩) n cap ∧ g < w.heap.size ∧ n ≤ cap ∧ cap ≤ maxLen ∧ ∀ j : Nat, j < n → w.cell? ⟨g, j, none⟩ = some (.int .u64 (F j))
theorem U.below {w w' : World} {v : Value} {n B : Nat} {F : Nat → Int} (h : U w v n F) (hb : Below B w w') (hB : w.heap.size ≤ B) : U w' v n F := by
  obtain ⟨g, cap, rfl, h1, h2, h3, h4⟩ := h
  exact ⟨g, cap, rfl, Nat.lt_of_lt_of_le h1 hb.size, h2, h3, fun j hj => (hb.cell (p := ⟨g, j, none⟩) (by show g < B; omega)).trans (h4 j hj)⟩
theorem U.belowAt {w w' : World} {g n cap B : Nat} {F : Nat → Int} (h : U w (.slice (some ⟨g, 0, none⟩) n cap) n F) (hb : Below B w w') (hB : g < B) : U w' (.slice (some ⟨g, 0, none⟩) n cap) n F := by
  obtain ⟨g', cap', he, h1, h2, h3, h4⟩ := h
  cases he
  exact ⟨g, cap, rfl, Nat.lt_of_lt_of_le h1 hb.size, h2, h3, fun j hj => (hb.cell (p := ⟨g, j, none⟩) hB).trans (h4 j hj)⟩
theorem U_of_owns {w : World} {B n : Nat} {v : Value} {F : Nat → Int} (h : w.ownsRow B 41 1 v n (uL F n)) (hn : 0 < n) : U w v n F := by
  obtain ⟨g, cap, rfl, _, h2, h3, h4⟩ := owns_slice h hn
  exact ⟨g, cap, rfl, h2, h3, h4, fun j hj => owns_cell h j hj⟩
theorem uL_shift (G : Nat → Int) (n : Nat) : [Value.int .u64 0] ++ uL G n = uL (fun j => if j = 0 then 0 else G (j - 1)) (n + 1) := by
  apply List.ext_getElem?
  intro i
  cases i with
  | zero => simp [uL]
  | succ i =>
    by_cases h : i < n
    · rw [uL_get _ _ _ (by omega)]
      simp [uL, h]
    · rw [List.getElem?_eq_none (by simp [uL_length]; omega), List.getElem?_eq_none (by rw [uL_length]; omega)]
theorem dig_shift {G : Nat → Int} {n : Nat} (h : Dig G n) : Dig (fun j => if j = 0 then 0 else G (j - 1)) (n + 1) := by
  intro j hj
  show 0 ≤ (if j = 0 then (0 : Int) else G (j - 1)) ∧ (if j = 0 then (0 : Int) else G (j - 1)) < 65536
  split
  · omega
  · exact h (j - 1) (by omega)
/-- A nought behind all digits. -/
def padZ (G : Nat → Int) (n : Nat) : Nat → Int := fun j => if j < n then G j else 0
theorem padZ_uL (G : Nat → Int) (n : Nat) : uL G n ++ [Value.int .u64 0] = uL (padZ G n) (n + 1) := by
  rw [uL_succ]
  have e1 : padZ G n n = 0 := if_neg (by omega)
  have e2 : uL (padZ G n) n = uL G n := by
    unfold uL
    apply List.map_congr_left
    intro j hj
    have : j < n := List.mem_range.1 hj
    simp [padZ, this]
  rw [e1, e2]
theorem padZ_dig {G : Nat → Int} {n : Nat} (h : Dig G n) : Dig (padZ G n) (n + 1) := by
  intro j hj
  unfold padZ
  split
  · rename_i h1; exact h j h1
  · omega
theorem padZ_val (G : Nat → Int) (n : Nat) : val (padZ G n) (n + 1) = val G n := by
  show val (padZ G n) n + padZ G n n * pw n = _
  rw [show padZ G n n = 0 from if_neg (by omega), val_congr (F := padZ G n) (G := G) (fun j hj => if_pos hj)]
  omega
theorem uL_one (F : Nat → Int) (n : Nat) : ∀ u ∈ uL F n, u.oneCell' = true := by
  intro u hu
  unfold uL at hu
  obtain ⟨j, _, rfl⟩ := List.mem_map.1 hu
  rfl
theorem U_cells {w : World} {g n : Nat} {F : Nat → Int} (h : ∀ j : Nat, j < n → w.cell? ⟨g, j, none⟩ = some (.int .u64 (F j))) : ∀ j u, (uL F n)[j]? = some u → w.cell? ((⟨g, 0, none⟩ : Addr).add j) = some u := by
  intro j u hu
  have hj : j < n := by have := (List.getElem?_eq_some_iff.1 hu).1; rwa [uL_length] at this
  rw [uL_get F n j hj] at hu
  rw [Addr.add_lit, Nat.zero_add, h j hj, hu]
def powN (r : Int) : Nat → Int
  | 0 => 1
  | n + 1 => powN r n * r

set_option maxRecDepth 100000 in
set_option maxHeartbeats 2000000 in
theorem less_any (r p : Int) (power : Nat) (hp : power = 2 ∨ power = 3) (hr0 : 0 ≤ r) (hr1 : r < 18446744073709551616) (hp0 : 0 ≤ p) (hp1 : p < 9223372036854775808) (w : World) :
    Calls Tryd.prog 23 #[.int .u64 r, .int .i64 p, .int .i64 power] w fun e w' => e = .returned (.bool (decide (powN r power ≤ p * pw (2 * power)))) ∧ Below w.heap.size w w' := by
  obtain ⟨i, hi, hz0, hz1, hz2⟩ := info_parts info41
  have hpw : 2 ≤ power ∧ power ≤ 3 := by omega
  have hconv : IntKind.u64.wrap p = p := by simp [IntKind.wrap, IntKind.bits, IntKind.signed]; omega
  go_enter Tryd.func23, Tryd.ntmps23
  go_wp2_with (first
    | (go_at_call 25
       go_must (refine (digits_any r hr0 hr1 _).mono ?_)
       rintro e w1 ⟨vx, rfl, hown1, hb1⟩
       obtain ⟨gx, cx, rfl, hgx1, hgx2, hcx1, hcx2⟩ := owns_slice hown1 (by decide)))
  have hux : U w1 (.slice (some ⟨gx, 0, none⟩) 4 cx) 4 (digF r) := U_of_owns hown1 (by decide)
  clear hown1
  go_loopw [8, 9] (fun v xi w2 => ∃ k : Nat, k + 1 ≤ power ∧ xi = .int .i64 ((k : Int) + 1) ∧ ∃ F, Dig F (4 + 5 * k) ∧ val F (4 + 5 * k) = powN r (k + 1) ∧ U w2 v (4 + 5 * k) F ∧ U w2 (.slice (some ⟨gx, 0, none⟩) 4 cx) 4 (digF r) ∧ Below w.heap.size w w2) (fun _ i _ => power - (intOf i).toNat)
  case atStart => exact ⟨0, by omega, rfl, digF r, digF_dig r 4, by rw [val_dig4 r hr0 hr1]; simp [powN], hux, hux, hb1⟩
  case round =>
    clear hux hb1
    obtain ⟨k, hk, rfl, F, hdF, hvF, huy, hux, hbel⟩ := hrel
    have Hux := hide hux
    have Hv := hide hvF
    clear hvF hux
    by_cases hlt : k + 1 < power
    · obtain ⟨gy, cy, rfl, hgy, hcy, hcy2, hYc⟩ := huy
      have HY := hide hYc
      clear hYc
      go_wp2_with (go_at_call 26
                   go_must (refine (times_any F (digF r) gy (4 + 5 * k) cy gx 4 cx _ (by omega) (by omega) hgy ?_ hdF (digF_dig r 4) (unhide HY) ?_).mono ?_
                            · obtain ⟨g, c, he, h1, _⟩ := unhide Hux; cases he; exact h1
                            · obtain ⟨g, c, he, _, _, _, h1⟩ := unhide Hux; cases he; exact h1)
                   rintro e w3 ⟨rfl, G, hdG, hvG, hrow, hb3⟩)
      have hb3' := hb3
      refine ⟨⟨k + 1, by omega, by go_num, G, ?_, ?_, ⟨wr.heap.size, _, by rw [show 4 + 5 * (k + 1) = 4 + 5 * k + 4 + 1 by omega], hrow.lt, by omega, by unfold maxLen; omega, fun j hj => hrow.cell (by omega)⟩, (unhide Hux).below hb3 (Nat.le_refl _), hbel.trans (hb3.mono hbel.size)⟩, by simp [intOf]; omega⟩
      · rw [show 4 + 5 * (k + 1) = 4 + 5 * k + 4 + 1 by omega]; exact hdG
      · rw [show 4 + 5 * (k + 1) = 4 + 5 * k + 4 + 1 by omega, hvG, unhide Hv, val_dig4 r hr0 hr1]; rfl
    · obtain rfl : power = k + 1 := by omega
      obtain ⟨gy, cy, rfl, hgy, hcy, hcy2, hYc⟩ := huy
      have huy : U wr (.slice (some ⟨gy, 0, none⟩) (4 + 5 * k) cy) (4 + 5 * k) F := ⟨gy, cy, rfl, hgy, hcy, hcy2, hYc⟩
      clear Hux hYc
      obtain ⟨Bz, hBz⟩ : ∃ Bz, Bz = wr.heap.size := ⟨_, rfl⟩
      have hgyB : gy < Bz := by omega
      have hwB : w.heap.size ≤ Bz := by rw [hBz]; exact hbel.size
      have HBz := hide hBz
      clear hBz
      go_wp2_with (go_at_call 25
                   go_must (refine (digits_any p hp0 (by omega) _).mono ?_)
                   rintro e w3 ⟨vz, rfl, hown3, hb3⟩)
      go_loopw [10, 11] (fun v xi w4 => ∃ j : Nat, j ≤ 2 * (k + 1) ∧ xi = .int .i64 j ∧ ∃ G, Dig G (4 + j) ∧ val G (4 + j) = p * pw j ∧ w4.ownsRow Bz 41 1 v (4 + j) (uL G (4 + j)) ∧ Bz ≤ w4.heap.size ∧ U w4 (.slice (some ⟨gy, 0, none⟩) (4 + 5 * k) cy) (4 + 5 * k) F ∧ Below w.heap.size w w4) (fun _ i _ => 2 * (k + 1) - (intOf i).toNat)
      case atStart => exact ⟨0, by omega, rfl, digF p, digF_dig p 4, by rw [val_dig4 p hp0 (by omega)]; simp [pw], by rw [unhide HBz]; exact hown3, by rw [unhide HBz]; exact hb3.size, huy.below hb3 (Nat.le_refl _), hbel.trans (hb3.mono hbel.size)⟩
      case round =>
        clear huy hbel hown3 hb3 hgy HBz
        obtain ⟨j, hj, rfl, G, hdG, hvG, hown, hBs, huy, hbel⟩ := hrel
        have Huy := hide huy
        have HvG := hide hvG
        clear huy hvG
        obtain ⟨gz, cz, rfl, hgz1, hgz2, hcz1, hcz2⟩ := owns_slice hown (by omega)
        by_cases hjt : j < 2 * (k + 1)
        · go_wp2_with (at_builtin; refine wpList_append_own _ rfl (.tmp 33) (.tmp 34) 46 rfl Bz 41 i (.int .u64 0) 1 8 Tryd.underlying46 hi hz0 hz1 hz2 rfl (by decide) (.slice (some ⟨wr.heap.size, 0, none⟩) 1 1) 1 [.int .u64 0] rfl ?_ ⟨gz, 0, none⟩ (4 + j) cz (uL G (4 + j)) rfl (by rw [uL_length]; omega) ?_ ?_ (by unfold maxLen; omega) (by omega) ?_ ?_)
          · exact World.ownsRow_lit _ #[.int .u64 0] 1 hBs (by decide) rfl
          · have hz := U_cells (fun i hi => owns_cell hown i hi)
            intro i u hu
            have := hz i u hu
            rw [Below.cell ((Below.refl wr.heap.size wr).alloc (Nat.le_refl _) _) (p := (⟨gz, 0, none⟩ : Addr).add i) (by rw [Addr.add_lit]; exact hgz2)]
            exact this
          · exact uL_one G _
          · simp; omega
          · intro v5 w5 hown5 hgrow5 _
            have hB5 : Below wr.heap.size wr w5 := ((Below.refl _ _).alloc (Nat.le_refl _) _).grown hgrow5 (by simp) (by intro b hb; cases hb; exact Nat.le_refl _)
            go_wp2
            go_roundw
            case rel =>
              refine ⟨j + 1, by omega, by go_num, fun i => if i = 0 then 0 else G (i - 1), ?_, ?_, ?_, Nat.le_trans hBs hB5.size, (unhide Huy).below hB5 (Nat.le_refl _), hbel.trans (hB5.mono hbel.size)⟩
              · rw [show 4 + (j + 1) = 4 + j + 1 by omega]; exact dig_shift hdG
              · rw [show 4 + (j + 1) = 4 + j + 1 by omega, val_shift, unhide HvG, Int.mul_assoc]; rfl
              · rw [show 4 + (j + 1) = 1 + (4 + j) by omega]
                have := uL_shift G (4 + j)
                rw [show 1 + (4 + j) = 4 + j + 1 by omega] at hown5 ⊢
                rw [← this]
                exact hown5
            case measure => simp [intOf]; omega
        · have Hje : Hid (j = 2 * (k + 1)) := by show j = 2 * (k + 1); omega
          go_wp2
          go_loopw [8] (fun v w4 => v = .slice (some ⟨gy, 0, none⟩) (4 + 5 * k) cy ∧ w4 = wr) (fun _ _ => 0)
          case atStart => exact ⟨rfl, rfl⟩
          case round =>
            obtain ⟨rfl, rfl⟩ := hrel
            go_wp2
            go_loopg [10] (4 + 5 * k - (4 + j)) (fun gk v w4 => ∃ m, m + gk = 4 + 5 * k ∧ 4 ≤ m ∧ ∃ G, Dig G m ∧ val G m = p * pw (2 * (k + 1)) ∧ w4.ownsRow Bz 41 1 v m (uL G m) ∧ Bz ≤ w4.heap.size ∧ U w4 (.slice (some ⟨gy, 0, none⟩) (4 + 5 * k) cy) (4 + 5 * k) F ∧ Below w.heap.size w w4)
            case atStart => exact ⟨4 + j, by have := unhide Hje; omega, by omega, G, hdG, by rw [unhide HvG, unhide Hje], hown, hBs, unhide Huy, hbel⟩
            case round =>
              clear HvG hown Huy hbel hBs hgz2 hdG G hcz1 hcz2 hgz1
              obtain ⟨m, hm, hm4, G, hdG, hvG, hown, hBs, huy, hbel⟩ := hrel
              have Huy := hide huy
              have HvG := hide hvG
              clear huy hvG
              obtain ⟨gz, cz, rfl, hgz1, hgz2, hcz1, hcz2⟩ := owns_slice hown (by omega)
              by_cases hmt : m < 4 + 5 * k
              · go_wp2_with (at_builtin; refine wpList_append_own _ rfl (.tmp 49) (.tmp 50) 46 rfl Bz 41 i (.int .u64 0) 1 8 Tryd.underlying46 hi hz0 hz1 hz2 rfl (by decide) _ m (uL G m) rfl (hown.alloc _) ⟨wr.heap.size, 0, none⟩ 1 1 [.int .u64 0] rfl rfl (cells_lit _ _ 41) (by intro u hu; simp at hu; subst hu; rfl) (by unfold maxLen; omega) (by omega) (by simp; omega) ?_)
                intro v5 w5 hown5 hgrow5 _
                have hB5 : Below Bz wr w5 := ((Below.refl Bz wr).alloc hBs _).grown hgrow5 (by simp; omega) (fun b hb => (hown.lt b hb).1)
                go_wp2
                go_roundg (gk - 1)
                case measure => omega
                case rel =>
                  refine ⟨m + 1, by omega, by omega, padZ G m, padZ_dig hdG, by rw [padZ_val]; exact unhide HvG, by rw [← padZ_uL]; exact hown5, Nat.le_trans hBs hB5.size, (unhide Huy).belowAt hB5 hgyB, hbel.trans (hB5.mono hwB)⟩
              · obtain rfl : m = 4 + 5 * k := by omega
                go_wp2
                have hzc : ∀ j : Nat, j < 4 + 5 * k → wr.cell? ⟨gz, j, none⟩ = some (.int .u64 (G j)) := fun j hj => owns_cell hown j hj
                obtain ⟨gy', cy', he, hgy, _, _, hyc⟩ := unhide Huy
                injection he with he1 he2 he3
                injection he1 with he1
                injection he1 with he4
                subst he4
                subst he3
                have HZ := hide hzc
                have HY := hide hyc
                clear hzc hyc Huy
                go_loopw [12] (fun xi w5 => ∃ t : Nat, t ≤ 4 + 5 * k ∧ xi = .int .i64 ((t : Int) - 1) ∧ (∀ j, t ≤ j → j < 4 + 5 * k → F j = G j) ∧ ∃ n, w5 = wr.drewN n) (fun i _ => (intOf i + 1).toNat)
                case atStart => exact ⟨4 + 5 * k, Nat.le_refl _, by go_num, fun j h1 h2 => by omega, 0, rfl⟩
                case round =>
                  obtain ⟨t, ht, rfl, heq, n, hW⟩ := hrel
                  have Heq := hide heq
                  clear heq
                  by_cases ht0 : t = 0
                  · subst ht0
                    subst hW
                    go_wp2
                    go_ret
                    refine ⟨?_, below_drewN hbel _⟩
                    have h1 := val_congr (F := F) (G := G) (n := 4 + 5 * k) (fun j hj => unhide Heq j (by omega) hj)
                    rw [unhide Hv, unhide HvG] at h1
                    rw [decide_eq_true (p := powN r (k + 1) ≤ p * pw (2 * (k + 1))) (by omega)]
                    rfl
                  · obtain ⟨u, rfl⟩ : ∃ u, t = u + 1 := ⟨t - 1, by omega⟩
                    have e7 : ((u + 1 : Nat) : Int) - 1 = u := by omega
                    rw [e7]
                    have cy1 : wr.cell? ⟨gy, u, none⟩ = some (.int .u64 (F u)) := by rw [hW]; exact unhide HY u (by omega)
                    have cz1 : wr.cell? ⟨gz, u, none⟩ = some (.int .u64 (G u)) := by rw [hW]; exact unhide HZ u (by omega)
                    have HW := hide hW
                    have hut : (u : Int) < 4 + 5 * (k : Int) := by omega
                    have hut2 : u < 4 + 5 * k := by omega
                    clear hW
                    by_cases hne : F u = G u
                    · have hneb : (F u != G u) = false := by simp [hne]
                      have Hne := hide hne
                      clear hne
                      go_wp2
                      go_quiet (fail)
                      go_wp2
                      go_roundw
                      case rel =>
                        refine ⟨u, by omega, by go_num, fun j h1 h2 => ?_, n + nq, by rw [unhide HW, World.drewN_drewN]⟩
                        by_cases e : j = u
                        · subst e; exact unhide Hne
                        · exact unhide Heq j (by omega) h2
                      case measure => simp [intOf]
                    · have hneb : (F u != G u) = true := by simp [hne]
                      have hcmp := val_cmp hdF hdG hut2 (fun j h1 h2 => unhide Heq j (by omega) h2) hne
                      rw [unhide Hv, unhide HvG] at hcmp
                      have Hcmp := hide hcmp
                      clear hne hcmp
                      go_wp2
                      go_quiet (fail)
                      go_wp2
                      go_quiet (fail)
                      go_wp2
                      go_ret
                      refine ⟨?_, ?_⟩
                      · have e : decide (powN r (k + 1) ≤ p * pw (2 * (k + 1))) = decide (F u < G u) := by
                          rw [decide_eq_decide]; exact unhide Hcmp
                        rw [e]; rfl
                      · rw [unhide HW]
                        exact below_drewN (below_drewN (below_drewN hbel _) _) _
end Go.Proofs.YtaojifgbnllebaaDoor
