/- Walk of bellwetherlaw01.ShaHex. -/
import Derived.Test.YtaojifgbnllebaaDoorD0
namespace Go.Proofs.YtaojifgbnllebaaDoor
open Go.RowKit

theorem hexI_at (f : Nat → Int) : ∀ (n k : Nat), k < n → ((hexI f n).drop (2 * k)).take 2 = [hexd (f k / 16), hexd (f k % 16)]
  | 0, k, h => by omega
  | n + 1, k, h => by
    unfold hexI
    by_cases hk : k < n
    · have hl := hexI_length f n
      rw [List.drop_append_of_le_length (by omega), List.take_append_of_le_length (by rw [List.length_drop]; omega)]
      exact hexI_at f n k hk
    · obtain rfl : k = n := by omega
      have hl := hexI_length f k
      rw [List.drop_append, List.drop_of_length_le (by omega), hl]
      simp
theorem hex_cut (f : Nat → Int) (n k : Nat) (h : k < n) : (strOfNums (hexI f n)).extract (2 * k) (2 * k + 2) = strOfNums (hexI (fun i => f (k + i)) 1) := by
  apply ByteArray.ext
  rw [ByteArray.data_extract]
  apply Array.toList_inj.1
  have e := hexI_at f n k h
  simp only [strOfNums, List.extract_toArray, List.extract_eq_take_drop, Nat.add_sub_cancel_left, hexI, List.nil_append, Nat.add_zero]
  rw [← List.map_drop, ← List.map_take, e]

theorem hexlaw_long (p : Option Addr) (n cap : Nat) (w : World) (h : 300 < n) (h2 : n ≤ maxLen) :
    Calls Tryd.prog 5 #[.slice p n cap] w fun e w' => e = .returned (.bool true) ∧ w' = w := by
  unfold maxLen at h2
  go_enter Tryd.func5, Tryd.ntmps5
  go_wp2
  go_ret
  exact ⟨rfl, rfl⟩

set_option maxRecDepth 100000 in
set_option maxHeartbeats 1000000 in
theorem hexlaw_any (f : Nat → Int) (p : Option Addr) (n cap : Nat) (w : World) (hG : Glob s0 kk w) (hv : BSl w (.slice p n cap) n f) (hf : ∀ i, 0 ≤ f i ∧ f i < 256) (hn : n ≤ 300) :
    Calls Tryd.prog 5 #[.slice p n cap] w fun e w' => e = .returned (.bool true) ∧ Below w.heap.size w w' := by
  have HG := hide hG
  have Hv := hide hv
  clear hG hv
  have hH := headN_bd (shaS s0 kk f n).byte (S8.byte_bd _) 8
  generalize hS : shaS s0 kk f n = S at *
  have HS := hide hS
  clear hS
  have hl : (strOfNums (hexI f n)).size = 2 * n := by rw [strOfNums_size, hexI_length]
  obtain ⟨hH0, hH1⟩ := hH
  have hH2 : headN S.byte 8 / 4 < 4611686018427387904 := by omega
  have hH3 : 0 ≤ headN S.byte 8 / 4 := by omega
  clear hH0 hH1
  go_enter Tryd.func5, Tryd.ntmps5
  go_wp2_with (first
    | (go_at_call 8
       go_must (refine (sum_at w _ (Below.refl _ _) (unhide HG) f _ n (unhide Hv) hf).mono ?_)
       rintro e w1 ⟨g, rfl, hg1, hv1, hB1, _⟩
       rw [unhide HS] at hv1)
    | (go_at_call 11
       go_must (refine (hex_at w _ hB1 f _ n ((unhide Hv).below hB1 (Nat.le_refl _)) hf (by omega)).mono ?_)
       rintro e w2 ⟨rfl, hB2, hb2⟩)
    | (go_at_call 13
       go_must (refine (head_at w _ hB2 (unhide HG) f _ n ((unhide Hv).below hB2 (Nat.le_refl _)) hf).mono ?_)
       rintro e w3 ⟨rfl, hB3, hb3⟩
       rw [unhide HS]))
  go_loopw [6] (fun xi w4 => ∃ k : Nat, k ≤ n ∧ xi = .int .i64 k ∧ Below w.heap.size w w4 ∧ BSl w4 (.slice (some ⟨g, 0, none⟩) 32 32) 32 S.byte) (fun i _ => n - (intOf i).toNat)
  case atStart => exact ⟨0, by omega, rfl, hB3, (hv1.below hb2 (Nat.le_refl _)).below hb3 (Nat.le_refl _)⟩
  case round =>
    obtain ⟨k, hk, rfl, hB4, hv4⟩ := hrel
    have Hv4 := hide hv4
    clear hv1 hv4 hb2 hb3
    by_cases hlt : k < n
    · rcases unhide Hv with ⟨h0, _⟩ | ⟨b, off, cap', he, h1, h2, h3, h4⟩
      · omega
      · injection he with he1 he2 he3
        subst he1
        subst he3
        have hne : ¬ cap = k := by omega
        have hw1 : IntKind.i64.wrap (2 * (k : Int)) = 2 * (k : Int) := wrap_id _ (by omega) (by omega)
        have hw2 : IntKind.i64.wrap (2 * (k : Int) + 2) = 2 * (k : Int) + 2 := wrap_id _ (by omega) (by omega)
        have hw3 : IntKind.i64.wrap ((k : Int) + 1) = (k : Int) + 1 := wrap_id _ (by omega) (by omega)
        have hcmp := hex_cut f n k hlt
        have hx1 : 2 * (k : Int) + 2 ≤ 2 * (n : Int) := by omega
        have hx2 : (k : Int) + 1 ≤ (cap : Int) := by omega
        have hx3 : 2 * k + 2 ≤ 2 * n := by omega
        go_wp2
        go_region_with (first
          | (go_at_call 11
             go_must (refine (hex_at w _ hB4.drew (fun i => f (k + i)) _ 1 ?_ (fun i => hf _) (by omega)).mono ?_
                      · refine .inr ⟨b, off + k, cap - k, rfl, by omega, ⟨by omega, by omega⟩, Nat.lt_of_lt_of_le h3 hB4.size, fun i hi => ?_⟩
                        rw [Nat.add_assoc]
                        exact (hB4.cell (p := ⟨b, off + (k + i), none⟩) h3).trans (h4 _ (by omega)))
             rintro e w5 ⟨rfl, hB5, hb5⟩))
        all_goals (go_wp2; go_roundw)
        all_goals try (simp [intOf]; omega; done)
        all_goals exact ⟨k + 1, by omega, by go_num, hB5, BSl.below (unhide Hv4) ⟨hb5.os, hb5.tape, hb5.output, hb5.size, hb5.block⟩ (Nat.le_refl _)⟩
    · have : k = n := by omega
      subst this
      rcases unhide Hv4 with ⟨h0, _⟩ | ⟨b, off, cap', he, h1, h2, h3, h4⟩
      · omega
      injection he with he1 he2 he3
      injection he1 with he1
      injection he1 with he4 he5
      subst he4
      subst he5
      subst he3
      have hcell : ∀ i : Nat, i < 8 → wr.cell? ⟨g, i, none⟩ = some (.int .u8 (S.byte i)) := fun i hi => by
        have := h4 i (by omega)
        rw [Nat.zero_add] at this
        exact this
      have HC := hide hcell
      clear hcell h4
      go_wp2
      go_loopw [5, 7] (fun xn xi w4 => ((xi = .int .i64 7 ∧ xn = .int .i64 (headN S.byte 8 / 4)) ∨ ∃ j : Nat, j ≤ 7 ∧ xi = .int .i64 ((j : Int) - 1) ∧ xn = .int .i64 (headN S.byte j)) ∧ w4 = wr) (fun _ i _ => (intOf i + 1).toNat)
      case atStart => exact ⟨.inl ⟨rfl, rfl⟩, rfl⟩
      case round =>
        obtain ⟨hr, rfl⟩ := hrel
        rcases hr with ⟨rfl, rfl⟩ | ⟨j, hj, rfl, rfl⟩
        · have c7 := unhide HC 7 (by omega)
          have b7 := S8.byte_bd S 7
          have n7 := headN_bd S.byte (S8.byte_bd S) 7
          have e8 : headN S.byte 8 = headN S.byte 7 * 256 + S.byte 7 := rfl
          have q1 : headN S.byte 8 / 4 % 64 = S.byte 7 / 4 := by omega
          have q2 : headN S.byte 8 / 4 / 64 = headN S.byte 7 := by omega
          obtain ⟨b70, b71⟩ := b7
          clear e8 n7
          have q1b : (headN S.byte 8 / 4 % 64 != S.byte 7 / 4) = false := by simp [q1]
          have Q2 := hide q2
          clear q2
          go_wp2
          refine ⟨⟨.inr ⟨7, by omega, by go_num, by rw [unhide Q2]⟩, trivial⟩, by simp [intOf]⟩
        · by_cases hj0 : j = 0
          · subst hj0
            have h00 : headN S.byte 0 = 0 := rfl
            rw [h00]
            go_wp2_with (go_at_call 15; refine (wakes_at w _ hB4 (unhide HG)).mono ?_; rintro e w6 ⟨rfl, hB6⟩)
            go_ret
            exact ⟨rfl, hB6⟩
          · obtain ⟨m, rfl⟩ : ∃ m, j = m + 1 := ⟨j - 1, by omega⟩
            have cm := unhide HC m (by omega)
            have bm := S8.byte_bd S m
            have nm := headN_bd S.byte (S8.byte_bd S) m
            have nm1 := headN_bd S.byte (S8.byte_bd S) (m + 1)
            have e8 : headN S.byte (m + 1) = headN S.byte m * 256 + S.byte m := rfl
            have q1 : headN S.byte (m + 1) % 256 = S.byte m := by omega
            have q2 : headN S.byte (m + 1) / 256 = headN S.byte m := by omega
            obtain ⟨bm0, bm1⟩ := bm
            obtain ⟨nm10, nm12⟩ := nm1
            have nm11 : headN S.byte (m + 1) < 72057594037927936 := by
              have hp : (256 : Int) ^ (m + 1) ≤ 72057594037927936 := by
                have : m ≤ 6 := by omega
                match m, this with
                | 0, _ | 1, _ | 2, _ | 3, _ | 4, _ | 5, _ | 6, _ => decide
              omega
            clear nm12
            have q1b : (headN S.byte (m + 1) % 256 != S.byte m) = false := by simp [q1]
            have e7 : ((m + 1 : Nat) : Int) - 1 = m := by omega
            have e7b : ((m : Int) == 7) = false := by simp; omega
            have Q2 := hide q2
            clear q2 e8 nm
            rw [e7]
            go_wp2
            refine ⟨⟨.inr ⟨m, by omega, by go_num, by rw [unhide Q2]⟩, trivial⟩, by simp [intOf]⟩
end Go.Proofs.YtaojifgbnllebaaDoor
