/- Walk of the page's Head. -/
import Derived.Test.YtaojifgbnllebaaDoorR8
namespace Go.Proofs.YtaojifgbnllebaaDoor
open Go.RowKit

theorem owns_at {w : World} {B n : Nat} {v : Value} {F : Nat → Int} (h : w.ownsRow B 5 1 v n (bL F n)) (hn : 0 < n) : ∃ g c, v = .slice (some ⟨g, 0, none⟩) n c ∧ n ≤ c ∧ c ≤ maxLen ∧ ∀ j : Nat, j < n → w.cell? ⟨g, j, none⟩ = some (.int .u8 (F j)) := by
  rcases h.2 with ⟨_, h2⟩ | ⟨g, c, cur, rfl, hb, hg, hc, hm, _, _⟩
  · omega
  · exact ⟨g, c, rfl, hc, hm, fun j hj => by rw [h.cellAt j (by omega), bL_get _ _ j hj]⟩

set_option maxRecDepth 100000 in
set_option maxHeartbeats 1000000 in
theorem rhead_any (f : Nat → Int) (v : Value) (n : Nat) (w : World) (hv : BSl w v n f) (hf : ∀ i, 0 ≤ f i ∧ f i < 256) (hn : n ≤ 400) :
    Calls Tryd.prog 14 #[v] w fun e w' => e = .returned (.int .i64 (headN (shaS s0 kk f n).byte 8 / 4)) ∧ Below w.heap.size w w' := by
  have Hv := hide hv
  clear hv
  go_enter Tryd.func14, Tryd.ntmps14
  go_wp2_with (go_at_call 10; refine (rsha_any f v n _ (unhide Hv) hf hn).mono ?_; rintro e w1 ⟨v1, rfl, hown, hbel⟩)
  generalize hs : shaS s0 kk f n = s at *
  have Hs := hide hs
  clear hs
  obtain ⟨g, c, rfl, hc1, hc2, hcell⟩ := owns_at hown (by decide)
  have Hcell := hide hcell
  clear hcell hown
  go_loopw [4, 5] (fun x xi w2 => ∃ k : Nat, k ≤ 7 ∧ xi = .int .i64 k ∧ x = .int .i64 (headN s.byte k) ∧ w2 = w1) (fun _ i _ => 7 - (intOf i).toNat)
  case atStart => exact ⟨0, by omega, rfl, rfl, rfl⟩
  case round =>
    obtain ⟨k, hk, rfl, rfl, rfl⟩ := hrel
    have hp : (256 : Int) ^ k ≤ 2 ^ 56 := by
      match k, hk with
      | 0, _ | 1, _ | 2, _ | 3, _ | 4, _ | 5, _ | 6, _ | 7, _ => decide
    obtain ⟨hh0, hh1⟩ := headN_bd s.byte (S8.byte_bd s) k
    by_cases hlt : k < 7
    · have hp6 : (256 : Int) ^ k ≤ 2 ^ 48 := by
        have : k ≤ 6 := by omega
        match k, this with
        | 0, _ | 1, _ | 2, _ | 3, _ | 4, _ | 5, _ | 6, _ => decide
      have hx := unhide Hcell k (by omega)
      obtain ⟨hb0, hb1⟩ := S8.byte_bd s k
      have hlim : headN s.byte k < 281474976710656 := by omega
      clear hp hp6 hh1
      go_wp2
      go_roundw
      case rel => exact ⟨k + 1, by omega, by go_num, by rw [headN, Int.mul_comm], trivial⟩
      case measure => simp [intOf]; omega
    · obtain rfl : k = 7 := by omega
      have hx := unhide Hcell 7 (by omega)
      obtain ⟨hb0, hb1⟩ := S8.byte_bd s 7
      have hlim : headN s.byte 7 < 72057594037927936 := by omega
      clear hp hh1
      go_wp2
      go_ret
      refine ⟨?_, hbel⟩
      rw [unhide Hs, show headN s.byte 8 = headN s.byte 7 * 256 + s.byte 7 from rfl, show (headN s.byte 7 * 256 + s.byte 7) / 4 = 64 * headN s.byte 7 + s.byte 7 / 4 by omega]
      rfl
end Go.Proofs.YtaojifgbnllebaaDoor
