/- Walks of slices.MinFunc over a comparison by a measure, and of the two comparisons that route makes. -/
import Derived.Test.YtmdkaomjjglfjaaDoorA5
import Derived.Test.YtmdkaomjjglfjaaDoorA6
import Derived.Deep.QuietTactic
import Derived.BigQuiet
import Derived.Shelf.Abstract
namespace Go.Proofs.YtmdkaomjjglfjaaDoor
open Go.RowKit Go.Shelf

theorem cmp_lt (x y : Int) : decide (cmpI x y < 0) = decide (x < y) := by
  unfold cmpI
  by_cases h : x < y
  · rw [if_pos h]; simp [h]
  · rw [if_neg h]
    by_cases h2 : y < x
    · rw [if_pos h2]; simp [h]
    · rw [if_neg h2]; simp [h]
theorem below_drewN {B : Nat} {a w : World} (h : Below B a w) (n : Nat) : Below B a (w.drewN n) := ⟨h.os, h.tape, h.output, h.size, h.block⟩
theorem Glob.drewN {w : World} (h : Glob w) (n : Nat) : Glob (w.drewN n) := h.below (below_drewN (Below.refl _ _) n) h.size
set_option maxHeartbeats 1000000 in
theorem minfunc_is (g : Nat) (p : Value) (f : Int → Int) (L : List Int) (v : Value) (w : World)
    (eg : ∀ args w, (callFunc g args).run Tryd.prog w = .ok (.enter g args) w)
    (hc : ∀ W a b, a ∈ L → b ∈ L → Below w.heap.size w W → Calls Tryd.prog g #[.int .i64 a, .int .i64 b, p] W fun e w' => e = .returned (.int .i64 (cmpI (f a) (f b))) ∧ Below w.heap.size w w')
    (h : IL w v L) (h0 : L ≠ []) :
    Calls Tryd.prog 52 #[v, .func (.func g) #[] #[p]] w fun e w' => e = .returned (.int .i64 (mnL f L)) ∧ Below w.heap.size w w' := by
  have hl := List.length_pos_iff.2 h0
  rcases h with ⟨h1, _⟩ | ⟨b, off, cap, rfl, hle, hcap, hb, hcell⟩
  · omega
  · unfold maxLen at hcap
    obtain ⟨n, hn⟩ : ∃ n, L.length = n := ⟨_, rfl⟩
    have hmem : ∀ i, i < n → zF L i ∈ L := fun i hi => zF_mem (by omega)
    have hmm : ∀ i, i < n → mn f L i ∈ L := fun i hi => mn_mem (by omega)
    have hlast : mnL f L = mn f L (n - 1) := by unfold mnL; rw [hn]
    rw [hlast]
    rw [hn] at hle hcell hl ⊢
    have hc0 := hcell 0 hl
    rw [Nat.add_zero] at hc0
    have HC := hide hcell
    have HK := hide hc
    have HM := hide hmem
    have HMM := hide hmm
    clear hcell hc hmem hmm hlast hn h0
    have e0 : mn f L 0 = zF L 0 := rfl
    rw [← e0] at hc0
    clear e0
    go_enter Tryd.func52, Tryd.ntmps52
    go_wp2
    go_loopw [5, 6] (fun xm xi w1 => ∃ k : Nat, k < n ∧ xi = .int .i64 ((k : Int) + 1) ∧ xm = .int .i64 (mn f L k) ∧ Below w.heap.size w w1) (fun _ i _ => n + 1 - (intOf i).toNat)
    case atStart => exact ⟨0, hl, rfl, rfl, Below.refl _ _⟩
    case round =>
      obtain ⟨k, hk, rfl, rfl, hbel⟩ := hrel
      clear hc0
      by_cases hlt : k + 1 < n
      · have hck : wr.cell? ⟨b, off + (k + 1), none⟩ = some (.int .i64 (zF L (k + 1))) := (hbel.cell (p := ⟨b, off + (k + 1), none⟩) hb).trans (unhide HC (k + 1) hlt)
        have hcall := unhide HK wr _ _ (unhide HM (k + 1) hlt) (unhide HMM k hk) hbel
        have hd := cmp_lt (f (zF L (k + 1))) (f (mn f L k))
        have hs : mn f L (k + 1) = if f (zF L (k + 1)) < f (mn f L k) then zF L (k + 1) else mn f L k := rfl
        clear hbel
        by_cases hq : f (zF L (k + 1)) < f (mn f L k)
        · rw [if_pos hq] at hs
          rw [decide_eq_true hq] at hd
          have HS := hide hs
          have HCL := hide hcall
          have HCX := hide (unhide HC (k + 1) hlt)
          clear hs hcall hq
          generalize cmpI (f (zF L (k + 1))) (f (mn f L k)) = r at *
          generalize zF L (k + 1) = x at *
          generalize mn f L k = y at *
          have hd := of_decide_eq_true hd
          go_wp2_with (go_at_fn g; refine (unhide HCL).mono ?_; rintro e w2 ⟨rfl, hb2⟩; have hck2 : w2.cell? ⟨b, off + (k + 1), none⟩ = some (.int .i64 x) := (hb2.cell (p := ⟨b, off + (k + 1), none⟩) hb).trans (unhide HCX))
          go_roundw
          case rel => exact ⟨k + 1, hlt, by go_num, by rw [unhide HS], hb2⟩
          case measure => simp [intOf]; omega
        · rw [if_neg hq] at hs
          rw [decide_eq_false hq] at hd
          have HS := hide hs
          have HCL := hide hcall
          clear hs hcall hq
          generalize cmpI (f (zF L (k + 1))) (f (mn f L k)) = r at *
          generalize zF L (k + 1) = x at *
          generalize mn f L k = y at *
          have hd := of_decide_eq_false hd
          go_wp2_with (go_at_fn g; refine (unhide HCL).mono ?_; rintro e w2 ⟨rfl, hb2⟩)
          go_roundw
          case rel => exact ⟨k + 1, hlt, by go_num, by rw [unhide HS], hb2⟩
          case measure => simp [intOf]; omega
      · obtain rfl : n = k + 1 := by omega
        go_wp2
        go_ret
        exact ⟨rfl, hbel⟩
end Go.Proofs.YtmdkaomjjglfjaaDoor
