/- Walk of bellwetherlaw01.ShaExact. -/
import Derived.Test.YtaojifgbnllebaaDoorD0
import Derived.Test.YtaojifgbnllebaaDoorR12
import Derived.Test.YtaojifgbnllebaaDoorR13
namespace Go.Proofs.YtaojifgbnllebaaDoor
open Go.RowKit

/-- W has grown out of w, and the slice v holds the n bytes f in it. -/
def Keep (w : World) (v : Value) (n : Nat) (f : Nat → Int) (W : World) : Prop := Below w.heap.size w W ∧ BSl W v n f
theorem Keep.step {w W W' : World} {v : Value} {n : Nat} {f : Nat → Int} (h : Keep w v n f W) (hb : Below W.heap.size W W') : Keep w v n f W' :=
  ⟨h.1.trans (hb.mono h.1.size), h.2.below hb (Nat.le_refl _)⟩
theorem Keep.drewN {w W : World} {v : Value} {n : Nat} {f : Nat → Int} (h : Keep w v n f W) (m : Nat) : Keep w v n f (W.drewN m) :=
  h.step (below_drewN (Below.refl _ _) m)

theorem exact_long (p : Option Addr) (n cap : Nat) (w : World) (h : 300 < n) (h2 : n ≤ maxLen) :
    Calls Tryd.prog 3 #[.slice p n cap] w fun e w' => e = .returned (.bool true) ∧ w' = w := by
  unfold maxLen at h2
  go_enter Tryd.func3, Tryd.ntmps3
  go_wp2
  go_ret
  exact ⟨rfl, rfl⟩

set_option maxRecDepth 100000 in
set_option maxHeartbeats 4000000 in
theorem exact_any (f : Nat → Int) (p : Option Addr) (n cap : Nat) (w : World) (hG : Glob s0 kk w) (hv : BSl w (.slice p n cap) n f) (hf : ∀ i, 0 ≤ f i ∧ f i < 256) (hn : n ≤ 300) :
    Calls Tryd.prog 3 #[.slice p n cap] w fun e w' => e = .returned (.bool true) ∧ Below w.heap.size w w' := by
  have HG := hide hG
  have Hv := hide hv
  clear hG hv
  obtain ⟨S, hS⟩ : ∃ S, shaS s0 kk f n = S := ⟨_, rfl⟩
  have HS := hide hS
  clear hS
  have m1 := trivial
  go_enter Tryd.func3, Tryd.ntmps3
  go_wp2_with (first
    | (go_at_call 7
       go_must (refine (twin_any f _ n _ (unhide Hv) (by omega)).mono ?_)
       rintro e w1 ⟨vc, rfl, hown, hbel⟩
       have K1 := hide (show Keep w vc n f w1 from ⟨hbel, bsl_of_owns hown (by omega)⟩)
       clear hown hbel)
    | (go_at_call 8
       go_must (refine (sum_any s0 kk f _ n _ ((unhide HG).below (unhide K1).1 (unhide HG).size) (unhide K1).2 hf).mono ?_)
       rintro e w2 ⟨g, rfl, hown, hbel⟩
       rw [unhide HS] at hown
       have K2 := hide ((unhide K1).step hbel)
       have Hs := hide (sum_sl hown)
       clear hown hbel)
    | (go_at_call 10
       go_must (refine (rsha_any f _ n _ ((unhide Hv).below (unhide K2).1 (Nat.le_refl _)) hf (by omega)).mono ?_)
       rintro e w3 ⟨vh, rfl, hown, hbel⟩
       rw [unhide HS] at hown
       have K3 := hide ((unhide K2).step hbel)
       have Ht := hide ((unhide Hs).below hbel (Nat.le_refl _))
       have Hh := hide (bsl_of_owns hown (by decide))
       clear hown hbel)
    | (clear m1
       go_at_call 9
       go_must (refine (bytes_any S.byte _ _ 32 _ (unhide Ht) (unhide Hh) (by decide)).mono ?_)
       rintro e w4 ⟨rfl, m, hw4⟩
       have K4 := hide (show Keep w vc n f w4 from by rw [hw4]; exact (unhide K3).drewN m)
       clear hw4)
    | (go_at_call 11
       go_must (refine (hex_any f _ n _ (unhide K4).2 hf (by omega)).mono ?_)
       rintro e w5 ⟨rfl, hbel⟩
       have K5 := hide ((unhide K4).step hbel)
       clear hbel)
    | (go_at_call 12
       go_must (refine (rhex_any f _ n _ ((unhide Hv).below (unhide K5).1 (Nat.le_refl _)) hf (by omega)).mono ?_)
       rintro e w6 ⟨rfl, m, hw6⟩
       have K6 := hide (show Keep w vc n f w6 from by rw [hw6]; exact (unhide K5).drewN m)
       clear hw6)
    | (go_at_call 13
       go_must (refine (head_any s0 kk f _ n _ ((unhide HG).below (unhide K6).1 (unhide HG).size) (unhide K6).2 hf).mono ?_)
       rintro e w7 ⟨rfl, hbel⟩
       have K7 := hide ((unhide K6).step hbel)
       clear hbel)
    | (go_at_call 14
       go_must (refine (rhead_any f _ n _ ((unhide Hv).below (unhide K7).1 (Nat.le_refl _)) hf (by omega)).mono ?_)
       rintro e w8 ⟨rfl, hbel⟩
       have K8 := hide ((unhide K7).step hbel)
       clear hbel)
    | (go_at_call 9
       go_must (refine (bytes_any f _ _ n _ (unhide K8).2 ((unhide Hv).below (unhide K8).1 (Nat.le_refl _)) (by omega)).mono ?_)
       rintro e w9 ⟨rfl, m, hw9⟩
       have K9 := hide (show Keep w vc n f w9 from by rw [hw9]; exact (unhide K8).drewN m)
       clear hw9)
    | (go_at_call 15
       go_must (refine (wakes_at w _ (unhide K9).1 (unhide HG)).mono ?_)
       rintro e w10 ⟨rfl, hB⟩))
  go_ret
  exact ⟨rfl, hB⟩
end Go.Proofs.YtaojifgbnllebaaDoor
