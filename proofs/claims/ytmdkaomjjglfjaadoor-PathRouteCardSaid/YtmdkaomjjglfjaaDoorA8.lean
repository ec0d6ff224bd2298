/- Walks of route's two comparisons, firstBehind; copies, sorted rows. -/
import Derived.Test.YtmdkaomjjglfjaaDoorA7
import Derived.Test.YtmdkaomjjglfjaaDoorK0
import Derived.Test.YtmdkaomjjglfjaaDoorShelf
import Derived.Test.YtmdkaomjjglfjaaDoorShelf2
import Derived.Lib.OwnBridge
namespace Go.Proofs.YtmdkaomjjglfjaaDoor
open Go.RowKit

theorem rb_bh (a s : Int) (ha : IsN a) (hs : IsN s) (w : World) (hG : Glob w) :
    Calls Tryd.prog 55 #[.int .i64 (nk a), .int .i64 s] w fun e w' => e = .returned (.int .i64 (bh a s)) ∧ w' = w := rb_is (nk a) s (nk_key a ha) hs w hG
set_option maxHeartbeats 1000000 in
theorem closer_is (a b s : Int) (B : Nat) (ha : IsN a) (hb : IsN b) (hs : IsN s) (w : World) (hG : Glob w) (hc : w.cell? ⟨B, 0, none⟩ = some (.int .i64 s)) :
    Calls Tryd.prog 53 #[.int .i64 a, .int .i64 b, .pointer (some ⟨B, 0, none⟩)] w fun e w' => e = .returned (.int .i64 (cmpI (bh a s) (bh b s))) ∧ ∃ q, w' = w.drewN q := by
  have HG := hide hG
  have c1 := hide (fun w hG => keyof_is a ha w hG)
  have c2 := hide (fun w hG => keyof_is b hb w hG)
  have c3 := hide (fun w hG => rb_bh a s ha hs w hG)
  have c4 := hide (fun w hG => rb_bh b s hb hs w hG)
  have c5 := hide (compare_is (bh a s) (bh b s))
  clear ha hb hs hG
  generalize cmpI (bh a s) (bh b s) = r at *
  generalize bh a s = x at *
  generalize bh b s = y at *
  generalize nk a = A at *
  generalize nk b = C at *
  go_enter Tryd.func53, Tryd.ntmps53
  go_wp2
  go_quiet (first
    | (go_at_call 56; with_reducible refine Calls.quiet_of_same (unhide c1 _ ((unhide HG).drewN _)))
    | (go_at_call 56; with_reducible refine Calls.quiet_of_same (unhide c2 _ ((unhide HG).drewN _)))
    | (go_at_call 55; with_reducible refine Calls.quiet_of_same (unhide c3 _ ((unhide HG).drewN _)))
    | (go_at_call 55; with_reducible refine Calls.quiet_of_same (unhide c4 _ ((unhide HG).drewN _)))
    | (go_at_call 54; with_reducible refine Calls.quiet_of_same (unhide c5 _)))
  go_wp2
  go_ret
  exact ⟨rfl, _, rfl⟩
set_option maxHeartbeats 1000000 in
theorem sooner_is (a b k : Int) (B : Nat) (ha : IsN a) (hb : IsN b) (hk : Key k) (w : World) (hG : Glob w) (hc : w.cell? ⟨B, 0, none⟩ = some (.int .i64 k)) :
    Calls Tryd.prog 57 #[.int .i64 a, .int .i64 b, .pointer (some ⟨B, 0, none⟩)] w fun e w' => e = .returned (.int .i64 (cmpI ((nk a - k) % 4611686018427387904) ((nk b - k) % 4611686018427387904))) ∧ ∃ q, w' = w.drewN q := by
  have HG := hide hG
  have c3 := hide (fun w hG => rb_is k a hk ha w hG)
  have c4 := hide (fun w hG => rb_is k b hk hb w hG)
  have c5 := hide (compare_is ((nk a - k) % 4611686018427387904) ((nk b - k) % 4611686018427387904))
  clear ha hb hk hG
  generalize cmpI ((nk a - k) % 4611686018427387904) ((nk b - k) % 4611686018427387904) = r at *
  generalize (nk a - k) % 4611686018427387904 = x at *
  generalize (nk b - k) % 4611686018427387904 = y at *
  go_enter Tryd.func57, Tryd.ntmps57
  go_wp2
  go_quiet (first
    | (go_at_call 55; with_reducible refine Calls.quiet_of_same (unhide c3 _ ((unhide HG).drewN _)))
    | (go_at_call 55; with_reducible refine Calls.quiet_of_same (unhide c4 _ ((unhide HG).drewN _)))
    | (go_at_call 54; with_reducible refine Calls.quiet_of_same (unhide c5 _)))
  go_wp2
  go_ret
  exact ⟨rfl, _, rfl⟩
theorem e34 : ∀ args w, (callFunc 53 args).run Tryd.prog w = .ok (.enter 53 args) w := enters_of Tryd.func53 (by kernel_rfl) rfl
theorem e58 : ∀ args w, (callFunc 57 args).run Tryd.prog w = .ok (.enter 57 args) w := enters_of Tryd.func57 (by kernel_rfl) rfl
theorem e32 : ∀ args w, (callFunc 51 args).run Tryd.prog w = .ok (.enter 51 args) w := enters_of Tryd.func51 (by kernel_rfl) rfl
theorem make_func (fn : Fn) (first cap : Array Value) (w : World) : (Instr.makeFunc fn first cap).run Tryd.prog w = .ok (.func fn first cap) w := rfl
/-- The first one at a key, or behind it. -/
theorem first_is (L : List Int) (k : Int) (v : Value) (w : World) (hG : Glob w) (h : IL w v L) (hN : Nds L) (h0 : L ≠ []) (hk : Key k) :
    Calls Tryd.prog 46 #[v, .int .i64 k] w fun e w' => e = .returned (.int .i64 (fst L k)) ∧ Below w.heap.size w w' := by
  have hb0 : Below w.heap.size w (w.alloc (.cells #[.int .i64 k] 3)) := (Below.refl _ _).alloc (Nat.le_refl _) _
  have c := hide (minfunc_is 57 (.pointer (some ⟨w.heap.size, 0, none⟩)) (fun n => (nk n - k) % 4611686018427387904) L v (w.alloc (.cells #[.int .i64 k] 3)) e58
    (fun W a b ha hb hW => (sooner_is a b k w.heap.size (hN a ha) (hN b hb) hk W ((hG.alloc _).below hW (hG.alloc _).size) ((hW.cell (p := ⟨w.heap.size, 0, none⟩) (by simp)).trans (by simp [go_sem]))).mono fun e w' ⟨h1, q, h2⟩ => ⟨h1, h2 ▸ below_drewN hW q⟩)
    (h.below hb0 (Nat.le_refl _)) h0)
  have e : mnL (fun n => (nk n - k) % 4611686018427387904) L = fst L k := rfl
  rw [e] at c
  clear e
  generalize fst L k = r at *
  have hmf := make_func
  clear h hN h0 hk hG
  have HB := hide hb0
  clear hb0
  go_enter Tryd.func46, Tryd.ntmps46
  go_wp2_with (go_at_call 52; refine (unhide c).mono ?_; rintro e w1 ⟨rfl, hb⟩)
  go_ret
  exact ⟨rfl, (unhide HB).trans (hb.mono (unhide HB).size)⟩

theorem clone_il (L : List Int) (v : Value) (w : World) (hv : IL w v L) (hn : L.length ≤ 1000000) :
    Calls Tryd.prog 50 #[v] w fun e w' => ∃ q c, e = .returned (.slice q L.length c) ∧ OL w' w.heap.size (.slice q L.length c) L ∧ Below w.heap.size w w' := by
  unfold OL
  rcases hv with ⟨h0, hv⟩ | ⟨b, off, cap, rfl, hle, hcap, hb, hcell⟩
  · have hL : L = [] := List.length_eq_zero_iff.1 h0
    subst hL
    rcases hv with rfl | ⟨x, cap, rfl, hc⟩
    · refine (Tryd.slices_Clone_int_nil 0 0 w).mono ?_
      rintro e w' ⟨rfl, rfl⟩
      exact ⟨_, _, rfl, World.ownsRow_nil _ _ _ _, Below.refl _ _⟩
    · refine (Tryd.slices_Clone_int_zero x cap w).mono ?_
      rintro e w' ⟨v', rfl, o, _, b⟩
      obtain ⟨q, c, rfl⟩ := owns_shape o
      exact ⟨q, c, rfl, o, b⟩
  · refine (Tryd.slices_Clone_int b off L.length cap L w (Nat.le_refl _) (by omega) (fun j hj => hcell j hj)).mono ?_
    rintro e w' ⟨v', rfl, o, _, b⟩
    rw [List.take_of_length_le (Nat.le_refl _)] at o
    obtain ⟨q, c, rfl⟩ := owns_shape o
    exact ⟨q, c, rfl, o, b⟩
open Go.Sort in
/-- slices.Sort of a slice of the call's own. -/
theorem sort_ol (L : List Int) (v : Value) (B : Nat) (w : World) (ho : OL w B v L) (hn : L.length ≤ 1000000) :
    Calls Tryd.prog 48 #[v] w fun e w' => e = .returned (.tuple #[]) ∧ OL w' B v (srtL L) ∧ ∀ (w0 : World), Below B w0 w → Below B w0 w' := by
  have hl := srtL_len L
  rcases ho.2 with ⟨rfl, h0⟩ | ⟨g, cap, cur, rfl, hB, hg, hc1, hc2, _, _⟩
  · have hL : L = [] := List.length_eq_zero_iff.1 h0
    subst hL
    refine (Tryd.slices_Sort_int_none none 0 w).mono ?_
    rintro e w' ⟨rfl, rfl⟩
    have h1 : srtL [] = [] := List.length_eq_zero_iff.1 hl
    rw [h1]
    exact ⟨rfl, OL.nil _ _, fun _ h => h⟩
  · have hlt : g < w.heap.size := (Array.getElem?_eq_some_iff.1 hg).1
    obtain ⟨g', cap', hv, _, _, _, _, _, hH⟩ := Lib.holds_of_ownsRow ho (by intro e; cases e)
    injection hv with hv1 _ hv2
    injection hv1 with hv1
    injection hv1 with hv1
    subst hv1
    refine (Tryd.slices_Sort_int g 0 cap L w hH hlt (by omega)).mono ?_
    rintro e w' ⟨rfl, m, os, rfl⟩
    have hp := Lib.ownsRow_putRow (q := m) (k := L.length) (ys := srtL L) ho hl (Nat.le_refl _)
    rw [List.take_of_length_le (by omega)] at hp
    have hsz : (putRow (Value.int .i64) (Sort.ahead w m) g 0 (srtL L).toArray).heap.size = w.heap.size := by simp [putRow, mapBlock, Sort.ahead]
    refine ⟨rfl, ?_, fun w0 h0 => ?_⟩
    · unfold OL
      rw [hl]
      refine ⟨hp.1, ?_⟩
      rcases hp.2 with ⟨h1, _⟩ | ⟨g2, cap2, cur2, h1, h2, h3, h4⟩
      · cases h1
      · injection h1 with h5 _ h6
        injection h5 with h5
        injection h5 with h5
        subst h5
        subst h6
        refine .inr ⟨g, cap, cur2, rfl, h2, ?_, h4⟩
        exact (heap_grow_old _ _ (show g < (putRow (Value.int .i64) (Sort.ahead w m) g 0 (srtL L).toArray).heap.size by rw [hsz]; exact hlt)).trans h3
    · have h1 := Lib.below_putRow (enc := Value.int .i64) (q := m) (d := (srtL L).toArray) h0 hB
      refine ⟨h1.os, h1.tape, h1.output, Nat.le_trans h1.size (by simp [grow]), fun k hk => ?_⟩
      have hk2 := h1.block k hk
      by_cases hk3 : k < (putRow (Value.int .i64) (Sort.ahead w m) g 0 (srtL L).toArray).heap.size
      · exact (heap_grow_old _ _ hk3).trans hk2
      · exact absurd hlt (by omega)
end Go.Proofs.YtmdkaomjjglfjaaDoor
