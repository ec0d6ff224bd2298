/- Walks of wire.numbers, message, written. -/
import Derived.Test.YtmcmiojidgdjpaaBn12
import Derived.Test.YtmcmiojidgdjpaaBn11
namespace Go.Proofs.Ytmcmiojidgdjpaa
open Go.RowKit

/-- A message's numbers as they stand in a frame, as a value. -/
def wv (m : Mg) : Value := .agg #[.int .i64 m.kd, .int .i64 m.fr, .int .i64 m.tw, .int .i64 m.tp, .int .i64 m.fi, .int .i64 m.ti, .int .i64 m.ep, .int .i64 m.sq, .int .i64 m.la, .int .i64 m.va, .int .i64 m.no, .int .i64 m.ic, .int .i64 m.ct, .int .i64 m.hp]
theorem wf_at (m : Mg) (j : Nat) (h : j < 14) : (#[.int .i64 m.kd, .int .i64 m.fr, .int .i64 m.tw, .int .i64 m.tp, .int .i64 m.fi, .int .i64 m.ti, .int .i64 m.ep, .int .i64 m.sq, .int .i64 m.la, .int .i64 m.va, .int .i64 m.no, .int .i64 m.ic, .int .i64 m.ct, .int .i64 m.hp] : Array Value)[j]? = some (.int .i64 (wf m j)) := by
  match j, h with
  | 0, _ | 1, _ | 2, _ | 3, _ | 4, _ | 5, _ | 6, _ | 7, _ | 8, _ | 9, _ | 10, _ | 11, _ | 12, _ | 13, _ => rfl
set_option maxRecDepth 100000 in
theorem wnumbers_any (m : Mg) (p t : Value) (w : World) : Calls Try.prog 47 #[mv m p t] w fun e w' => e = .returned (wv m) ∧ Below w.heap.size w w' := by
  unfold mv wv
  go_enter Try.func47, Try.ntmps47
  go_wp2
  exact ret_row 2 65 rfl _ _ _ _ rfl (heap_alloc2_new _ _ _) Try.underlying65 (.inr ⟨_, _, rfl⟩) info40 rfl ⟨rfl, ((Below.refl _ _).alloc (Nat.le_refl _) _).alloc (by simp) _⟩
set_option maxRecDepth 100000 in
theorem wmessage_any (m : Mg) (p t : Option Addr) (n c k d : Nat) (w : World) : Calls Try.prog 53 #[wv m, .slice p n c, .slice t k d] w fun e w' => e = .returned (mv m (.slice p n c) (.slice t k d)) ∧ Below w.heap.size w w' := by
  unfold mv wv
  go_enter Try.func53, Try.ntmps53
  go_wp2
  exact ret_row 6 24 rfl _ _ _ _ rfl (heap_alloc2_new _ _ _) Try.underlying24 (.inl ⟨_, rfl⟩) info24 rfl ⟨rfl, ((Below.refl _ _).alloc (Nat.le_refl _) _).alloc (by simp) _⟩
set_option maxRecDepth 100000 in
set_option maxHeartbeats 1000000 in
theorem written_is (m : Mg) (F G : Nat → Int) (p t : Value) (n k : Nat) (w : World) (hm : Fit m) (hp : Sl .i64 w p n F) (ht : Sl .i64 w t k G) (hn : n ≤ 255) (hk : k ≤ 255) (hF : ∀ i, i < n → Co.IsB (F i)) (hG : ∀ i, i < k → Co.IsB (G i)) :
    Calls Try.prog 24 #[mv m p t] w fun e w' => ∃ v, e = .returned v ∧ w'.ownsRow w.heap.size 5 1 v (44 + n + k) (vL .u8 (msgF m F n G k) (44 + n + k)) ∧ Below w.heap.size w w' := by
  have CN := hide (fun w => wnumbers_any m p t w)
  have FW := hide (wf_at m)
  have CP : Hid (∀ j, j < 14 → ∀ v w, Sl .u8 w v (wst j) (wb m j) → Calls Try.prog 48 #[v, .int .i64 (wsz j : Int), .int .i64 (wf m j)] w fun e w' => ∃ v', e = .returned (.tuple #[v', .int .i64 0]) ∧ Sl .u8 w' v' (wst (j + 1)) (wb m (j + 1)) ∧ Below w.heap.size w w') := by
    refine hide fun j hj v w h => (Co.put_is (wb m j) v (wst j) (wsz j) (wf m j) (wsz_z j hj) (hm j hj) w h (by have := wst_le j hj; omega)).mono ?_
    rintro e w' ⟨v', rfl, o, b⟩
    exact ⟨v', rfl, by rw [wst_succ j hj]; exact sl_of_owns o, b⟩
  have C1 : Hid (∀ v w1, Below w.heap.size w w1 → Sl .u8 w1 v 42 (wb m 14) → Calls Try.prog 50 #[v, p] w1 fun e w' => ∃ v', e = .returned (.tuple #[v', .int .i64 0]) ∧ Sl .u8 w' v' (43 + n) (Co.listF (wb m 14) 42 n F) ∧ Below w1.heap.size w1 w') := by
    refine hide fun v w1 hb h => (Co.putl_is (wb m 14) F v p 42 n w1 h (hp.below hb (Nat.le_refl _)) (by omega) hn hF).mono ?_
    rintro e w' ⟨v', rfl, o, b⟩
    exact ⟨v', rfl, sl_of_owns o, b⟩
  have C2 : Hid (∀ v w1, Below w.heap.size w w1 → Sl .u8 w1 v (43 + n) (Co.listF (wb m 14) 42 n F) → Calls Try.prog 50 #[v, t] w1 fun e w' => ∃ v', e = .returned (.tuple #[v', .int .i64 0]) ∧ w'.ownsRow w1.heap.size 5 1 v' (44 + n + k) (vL .u8 (msgF m F n G k) (44 + n + k)) ∧ Below w1.heap.size w1 w') := by
    refine hide fun v w1 hb h => (Co.putl_is (Co.listF (wb m 14) 42 n F) G v t (43 + n) k w1 h (ht.below hb (Nat.le_refl _)) (by omega) hk hG).mono ?_
    rintro e w' ⟨v', rfl, o, b⟩
    have q : 43 + n + 1 + k = 44 + n + k := by omega
    rw [q] at o
    exact ⟨v', rfl, o, b⟩
  clear hp ht hF hG hm
  generalize hM : msgF m F n G k = M at *
  generalize hL : Co.listF (wb m 14) 42 n F = L at *
  clear hM hL
  unfold mv wv at CN
  unfold mv
  have m1 := trivial
  go_enter Try.func24, Try.ntmps24
  go_wp2_with (go_at_call 47; refine ((unhide CN) _).mono ?_; rintro e w1 ⟨rfl, b1⟩; have B1 := hide (below_of ((Below.refl _ _).alloc (Nat.le_refl _) _) b1); have G1 := hide ((b1.block w.heap.size (by simp)).trans (heap_alloc_new _ _)); have L1 : Hid (w.heap.size < w1.heap.size) := hide (by have := b1.size; simp at this; omega); clear b1)
  go_loopw [3, 8] (fun xb xi w2 => ∃ j : Nat, j ≤ 14 ∧ xi = .int .i64 j ∧ Sl .u8 w2 xb (wst j) (wb m j) ∧ Below w1.heap.size w1 w2) (fun _ i _ => 14 - (intOf i).toNat)
  case atStart => exact ⟨0, by omega, rfl, .inl ⟨rfl, .inl rfl⟩, Below.refl _ _⟩
  case round =>
    obtain ⟨j, hj, rfl, hs, hb⟩ := hrel
    have HS := hide hs
    have HB := hide hb
    clear hs hb
    by_cases hlt : j < 14
    · have ci := run_index40 _ j _ (unhide FW j hlt) hlt
      have cs := hide (size_is j hlt)
      have cp := hide (unhide CP j hlt)
      have hj1 : j + 1 ≤ 14 := by omega
      generalize wf m j = x at *
      go_wp2_with (first
        | (go_at_call 49; with_reducible refine (unhide cs _).mono ?_; rintro e w3 ⟨rfl, hw⟩; obtain rfl := hw.symm)
        | (go_at_call 48; with_reducible refine (unhide cp _ _ (unhide HS)).mono ?_; rintro e w3 ⟨v3, rfl, s3, b3⟩; have S3 := hide s3; have B3 := hide (below_of (unhide HB) b3); clear s3 b3))
      go_roundw
      case rel => exact ⟨j + 1, hj1, by go_num, unhide S3, unhide B3⟩
      case measure => simp [intOf]; omega
    · obtain rfl : j = 14 := by omega
      have bw := below_of (unhide B1) (unhide HB)
      have BW := hide bw
      have g2 := ((unhide HB).block w.heap.size (unhide L1)).trans (unhide G1)
      have GW := hide g2
      have c14 := mv_cell g2 14 _ rfl
      clear bw g2
      go_wp2_with (first
        | (clear m1 c14; go_at_call 50; with_reducible refine (unhide C1 _ _ (unhide BW) (unhide HS)).mono ?_; rintro e w3 ⟨v3, rfl, s3, b3⟩; have S3 := hide s3; have B3 := hide (below_of (unhide BW) b3); have c15 := mv_cell ((b3.block w.heap.size (Nat.lt_of_lt_of_le (unhide L1) (unhide HB).size)).trans (unhide GW)) 15 _ rfl; clear s3 b3)
        | (go_at_call 50; with_reducible refine (unhide C2 _ _ (unhide B3) (unhide S3)).mono ?_; rintro e w4 ⟨v4, rfl, o4, b4⟩; have O4 := hide (owns_mono o4 (unhide B3).size); have B4 := hide (below_of (unhide B3) b4); clear o4 b4))
      go_ret
      exact ⟨_, rfl, unhide O4, unhide B4⟩
end Go.Proofs.Ytmcmiojidgdjpaa
