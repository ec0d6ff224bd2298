/- Walk of the page's Way. -/
import Derived.Test.YtmfgbecdimndcaaDoorE5
namespace Go.Proofs.YtmfgbecdimndcaaDoor
open Go.RowKit

/-- The hop behind the first k; -1. -/
def hpN (W : List Int) (k : Nat) : Int := if k < W.length then zF W k else -1
theorem hpN_is {t s : Int} {L W : List Int} (hW : IsWay t L s W) (k : Nat) (hk : k ≤ W.length) : (if nxt t L (zF (s :: W) k) = zF (s :: W) k then -1 else nxt t L (zF (s :: W) k)) = hpN W k := by
  unfold hpN
  by_cases h : k < W.length
  · obtain ⟨h1, h2⟩ := isway_step hW k h
    rw [if_pos h, h1, if_neg h2]
  · obtain rfl : k = W.length := by omega
    rw [if_neg h, if_pos (isway_end hW)]
set_option maxRecDepth 100000 in
set_option maxHeartbeats 2000000 in
theorem rway_is (t : Int) (L : List Int) (s : Int) (W : List Int) (v : Value) (w : World) (h : IL w v L) (hR : Ris L) (hs : s ∈ L) (ht : IsT t) (hW : IsWay t L s W) (hn : W.length ≤ 1000) :
    Calls Tryd.prog 22 #[.int .i64 t, v, .int .i64 s] w fun e w' => ∃ v', e = .returned v' ∧ OL w' w.heap.size v' W ∧ Below w.heap.size w w' := by
  have c0 := rnext_is t L s v w h hR hs ht
  have e0 : (if nxt t L s = s then -1 else nxt t L s) = hpN W 0 := hpN_is hW 0 (Nat.zero_le _)
  rw [e0] at c0
  have c0 := hide c0
  have c1 : ∀ k, k ≤ W.length → ∀ w3, Below w.heap.size w w3 → Calls Tryd.prog 21 #[.int .i64 t, v, .int .i64 (zF (s :: W) k)] w3 fun e w' => e = .returned (.int .i64 (hpN W k)) ∧ Below w3.heap.size w3 w' := by
    intro k hk w3 hb
    rw [← hpN_is hW k hk]
    exact rnext_is t L _ v w3 (h.below hb (Nat.le_refl _)) hR (isway_mem hs hW k hk) ht
  have c1 := hide c1
  have hWN : ∀ k, k < W.length → 0 ≤ zF W k := by
    intro k hk
    have := hR.2 _ (isway_mem hs hW (k + 1) (by omega))
    rw [zF_cons] at this
    exact this.1
  have HWN := hide hWN
  clear h hR hs ht hW e0 hWN
  go_enter Tryd.func22, Tryd.ntmps22
  go_wp2_with (go_at_call 21; refine (unhide c0).mono ?_; rintro e w2 ⟨rfl, hb⟩; have B2 := hide hb; clear hb)
  go_loopg [7, 8] (W.length + 1) (fun g xv xa w3 => ∃ k : Nat, k ≤ W.length ∧ W.length + 1 - k ≤ g ∧ xa = .int .i64 (hpN W k) ∧ Hid (OL w3 w.heap.size xv (W.take k)) ∧ Hid (Below w.heap.size w w3))
  case atStart => exact ⟨0, Nat.zero_le _, Nat.le_refl _, rfl, hide (by rw [List.take_zero]; exact OL.nil _ _), B2⟩
  case round =>
    obtain ⟨k, hk, hg, rfl, HO, HB⟩ := hrel
    by_cases hlt : k < W.length
    · have h1 : hpN W k = zF W k := if_pos hlt
      rw [h1]
      have hx0 := unhide HWN k hlt
      have e2 : W.take (k + 1) = W.take k ++ [zF W k] := by
        rw [List.take_succ_eq_append_getElem hlt]
        simp [zF, List.getD, hlt]
      have e1 : zF (s :: W) (k + 1) = zF W k := zF_cons _ _ _
      have c2 := unhide c1 (k + 1) hlt
      rw [e1] at c2
      have c2 := hide c2
      have HE2 := hide e2
      have HT := hide (show (W.take k).length ≤ 1000000 by rw [List.length_take]; omega)
      clear e1 e2 h1
      generalize zF W k = y at *
      obtain ⟨z, hz⟩ : ∃ z, hpN W (k + 1) = z := ⟨_, rfl⟩
      rw [hz] at c2
      have HZ := hide hz
      clear hz
      go_wp2_with (first
        | (at_builtin; refine wpList_snoc (by simp [Region.wanted]) (.tmp 19) (.tmp 21) rfl w.heap.size _ (W.take k) y rfl ((unhide HO).alloc _) _ rfl (cell_one y _ 3) (unhide HT) (by have := (unhide HB).size; simp; omega) ?_; intro v4 w4 o4 b4; have O4 := hide o4; have B4 := hide (((unhide HB).alloc (unhide HB).size _).trans b4); clear o4 b4)
        | (go_at_call 21; refine (unhide c2 _ (unhide B4)).mono ?_; rintro e w5 ⟨rfl, hb⟩; have O5 := hide ((unhide O4).below hb (Nat.le_refl _)); have B5 := hide ((unhide B4).trans (hb.mono (unhide B4).size)); clear hb))
      go_roundg (W.length - k)
      case measure => omega
      case rel => exact ⟨k + 1, hlt, by omega, by rw [unhide HZ], hide (by rw [unhide HE2]; exact unhide O5), B5⟩
    · obtain rfl : k = W.length := by omega
      have h1 : hpN W W.length = -1 := if_neg (Nat.lt_irrefl _)
      rw [h1]
      have HT := hide (List.take_length (l := W))
      clear h1
      go_wp2
      go_ret
      have O := unhide HO
      rw [unhide HT] at O
      exact ⟨_, rfl, O, unhide HB⟩
end Go.Proofs.YtmfgbecdimndcaaDoor
