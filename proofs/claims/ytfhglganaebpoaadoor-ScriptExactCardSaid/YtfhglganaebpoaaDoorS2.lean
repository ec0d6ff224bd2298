/- Walk of Parse. -/
import Derived.Test.YtfhglganaebpoaaDoorS1
namespace Go.Proofs.YtfhglganaebpoaaDoor
open Go.RowKit

theorem parse_long (p : Option Addr) (n c : Nat) (w : World) (h : 4000 < n) (hc : n ≤ maxLen) : Calls Tryd.prog 9 #[.slice p n c] w fun ev w' => ev = .returned (.tuple #[.slice none 0 0, .int .i64 2]) ∧ w' = w := by
  unfold maxLen at hc
  go_enter Tryd.func9, Tryd.ntmps9
  go_wp2
  go_ret2
  exact ⟨rfl, rfl⟩
/-- The row of the steps read so far. -/
theorem row_next {w : World} {g k M : Nat} {f : Nat → Value} {F : Nat → Int} (R : w.rowIs g 27 (M * 5) f) (hf : ∀ j, j < k * 5 → f j = .int .i64 (F j)) (L : List Value)
    (hL : L = [.int .i64 (F (k * 5)), .int .i64 (F (k * 5 + 1)), .int .i64 (F (k * 5 + 2)), .int .i64 (F (k * 5 + 3)), .int .i64 (F (k * 5 + 4))]) :
    ∃ f', (w.setCells g (k * 5) L).rowIs g 27 (M * 5) f' ∧ ∀ j, j < (k + 1) * 5 → f' j = .int .i64 (F j) := by
  refine ⟨_, rowIs_setCells L (k * 5) w f R, fun j hj => ?_⟩
  subst hL
  by_cases h : j < k * 5
  · rw [if_neg (by omega)]
    exact hf j h
  · rw [if_pos (by simp; omega)]
    obtain ⟨d, rfl⟩ : ∃ d, j = k * 5 + d := ⟨j - k * 5, by omega⟩
    have hd : d < 5 := by omega
    rw [show k * 5 + d - k * 5 = d by omega]
    match d, hd with
    | 0, _ => rfl
    | 1, _ => rfl
    | 2, _ => rfl
    | 3, _ => rfl
    | 4, _ => rfl
set_option maxHeartbeats 600000 in
set_option maxRecDepth 100000 in
theorem parse_ok (F : Nat → Int) (v : Value) (n M : Nat) (w : World) (hv : Sl .u8 w v n F) (hF : ∀ i, i < n → 0 ≤ F i ∧ F i < 256) (hn : n ≤ 4000) (hM : M = n / 5) :
    Calls Tryd.prog 9 #[v] w fun ev w' => ev = .returned (.tuple #[.slice (some ⟨w.heap.size, 0, none⟩) M M, .int .i64 0]) ∧ w'.ownsRow w.heap.size 27 5 (.slice (some ⟨w.heap.size, 0, none⟩) M M) M (vL .i64 F (M * 5)) ∧ Below w.heap.size w w' := by
  obtain ⟨p, c, rfl, hc1, hc2⟩ := hv.shape
  obtain ⟨i, hi, hz0, hz1, hz2⟩ := info_parts info27'
  unfold maxLen at hc2
  have HV := hide hv
  have HF := hide hF
  have e1 : (n : Int) / 5 = M := by omega
  have hM2 : M * 5 ≤ n := by omega
  have hM3 : M ≤ 800 := by omega
  have HM := hide hM2
  have HC := hide hc1
  clear hv hF hM hM2
  go_enter Tryd.func9, Tryd.ntmps9
  go_wp2_with (at_make; refine wpList_make_full _ rfl _ _ 25 rfl w.heap.size 27 i (.agg #[.int .i64 0, .int .i64 0, .int .i64 0, .int .i64 0, .int .i64 0]) 5 Tryd.underlying25 hi hz0 hz1 .i64 .i64 M M M rfl rfl rfl rfl (by rw [hz2]; omega) (by unfold maxLen; omega) (Nat.le_refl _) ?_)
  intro w1 hown hgrow
  have hbel := (Below.refl w.heap.size w).grown hgrow (Nat.le_refl _) (by intro k h; cases h)
  have R1 := hide (row_of_owns hown)
  have HB := hide hbel
  clear hown hgrow hbel e1
  go_wp2
  go_loopw [15] (fun i w2 => ∃ k : Nat, k ≤ M ∧ i = .int .i64 k ∧ (∃ f, w2.rowIs w.heap.size 27 (M * 5) f ∧ ∀ j, j < k * 5 → f j = .int .i64 (F j)) ∧ Below w.heap.size w w2) (fun i _ => M - (intOf i).toNat)
  case atStart => exact ⟨0, by omega, rfl, ⟨_, unhide R1, fun j hj => by omega⟩, unhide HB⟩
  case round =>
    clear R1 HB
    obtain ⟨k, hk, rfl, ⟨f, hr, hf⟩, hb⟩ := hrel
    have HR := hide hr
    have HF2 := hide hf
    have HB := hide hb
    clear hr hf
    by_cases hlt : k < M
    · have hlt5 : k * 5 + 5 ≤ n := by have := unhide HM; omega
      obtain ⟨b, off, rfl, hbs, hcell⟩ := ((unhide HV).below hb (Nat.le_refl _)).some (by omega)
      have SF := slice_from b off n c k (by omega) (unhide HC)
      have bd := unhide HF
      have q0 := hcell (k * 5) (by omega)
      have q1 := hcell (k * 5 + 1) (by omega)
      have q2 := hcell (k * 5 + 2) (by omega)
      have q3 := hcell (k * 5 + 3) (by omega)
      have q4 := hcell (k * 5 + 4) (by omega)
      rw [← Nat.add_assoc] at q1 q2 q3 q4
      have RD := hide (read_any b (off + k * 5) (n - k * 5) (c - k * 5) (F (k * 5)) (F (k * 5 + 1)) (F (k * 5 + 2)) (F (k * 5 + 3)) (F (k * 5 + 4)) wr hbs (by omega) (by omega) q0 q1 q2 q3 q4 (bd _ (by omega)) (bd _ (by omega)) (bd _ (by omega)) (bd _ (by omega)) (bd _ (by omega)))
      have w5 : IntKind.i64.wrap ((k : Int) * 5) = (k : Int) * 5 := by rw [IntKind.wrap_i64]; omega
      have gl := (unhide HR).lt
      clear bd hcell q0 q1 q2 q3 q4 hbs hlt5 hb
      have O5 : (#[.int .i64 (F (k * 5)), .int .i64 (F (k * 5 + 1)), .int .i64 (F (k * 5 + 2)), .int .i64 (F (k * 5 + 3)), .int .i64 (F (k * 5 + 4))] : Array Value).all (·.oneCell') = true := by simp [Value.oneCell']
      unfold sV at RD
      dsimp only at RD
      go_wp2_with (first
        | (go_at_call 21; refine (unhide RD).mono ?_; rintro ev w3 ⟨rfl, b3⟩; have R3 := hide (row_below (unhide HR) b3); have B3 := hide (below_of (unhide HB) b3); have TH := hide (row_there (o := k * 5) (n := (#[.int .i64 (F (k * 5)), .int .i64 (F (k * 5 + 1)), .int .i64 (F (k * 5 + 2)), .int .i64 (F (k * 5 + 3)), .int .i64 (F (k * 5 + 4))] : Array Value).size) (unhide R3) (by simp; omega)); clear b3)
        | (refine wpList_store_mid rfl 27 (.tmp 25) (.tmp 24) rfl w.heap.size (k * 5) _ rfl rfl ?_ info27 O5 ?_; (focus exact unhide TH); have R4 := hide (row_next (unhide R3) (unhide HF2) _ rfl); have B4 := hide (below_setCells (Nat.le_refl _) #[.int .i64 (F (k * 5)), .int .i64 (F (k * 5 + 1)), .int .i64 (F (k * 5 + 2)), .int .i64 (F (k * 5 + 3)), .int .i64 (F (k * 5 + 4))].toList (k * 5) _ (unhide B3))))
      go_roundw
      case rel => exact ⟨k + 1, by omega, by go_num, unhide R4, unhide B4⟩
      case measure => simp [intOf]; omega
    · obtain rfl : k = M := by omega
      have R := hide (owns_of_row (unhide HR) (unhide HF2) (Nat.le_refl _) (by unfold maxLen; omega))
      clear hb
      go_wp2
      go_ret2
      exact ⟨rfl, unhide R, unhide HB⟩
end Go.Proofs.YtfhglganaebpoaaDoor
