/- Walks of view.Live, the page's Live. -/
import Derived.Test.YtnbmnbgbnagajaaA5
namespace Go.Proofs.Ytnbmnbgbnagajaa
open Go.RowKit

theorem wpList_snoc {w : World} {ops : Array Oper} {rest : List Oper} {o : Oper} {a : Act} {Q : Exit → Act → World → Prop} (hw : Region.wanted o (yielded ops a.tmps) = true) (s x : Operand)
    (hop : o.op = .call { callee := .builtin .append, args := #[s, x], argTypes := #[29, 29] }) (base : Nat)
    (v : Value) (L : List Nat) (k : Nat) (hs : a.eval s = v) (hown : w.ownsRow base 3 1 v L.length (nL L)) (g : Nat) (hx : a.eval x = .slice (some ⟨g, 0, none⟩) 1 1)
    (hc : w.cell? ⟨g, 0, none⟩ = some (.int .i64 (k : Int))) (hn : L.length ≤ 1000000) (hbase : base ≤ w.heap.size)
    (h : ∀ v' w', w'.ownsRow base 3 1 v' (L ++ [k]).length (nL (L ++ [k])) → Below base w w' → wpList Try.prog ops Q rest (a.put o.dst v') w') : wpList Try.prog ops Q (o :: rest) a w := by
  refine wpList_step fun K hK => ?_
  rw [if_pos hw]
  obtain ⟨j, hj, hz0, hz1, hz2⟩ := info_parts info3
  obtain ⟨v', w', hrun, r1, r2, _⟩ := run_append_own (P := Try.prog) w base 29 o.type 3 j (.int .i64 0) 1 8 Try.underlying29 hj hz0 hz1 hz2 rfl (by decide) v L.length _ hown ⟨g, 0, none⟩ 1 1 [.int .i64 (k : Int)] rfl
    (fun i u hu => by
      match i, hu with
      | 0, hu => simp at hu; subst hu; rw [Addr.add_lit]; exact hc
      | i + 1, hu => simp at hu) (fun u hu => by simp at hu; subst hu; rfl) (by unfold maxLen; omega) (by omega) hbase
  unfold Oper.wp
  simp [execOp, hop, resolve, invoke, builtin, hs, hx, hrun, Result.andThen]
  refine hK _ _ (h v' w' ?_ ((Below.refl _ _).grown r2 hbase (fun k hk => (hown.lt k hk).1)))
  rw [nL_snoc]
  simpa using r1
theorem lvL_yes {F : Nat → Int} {s k : Nat} (h : lvB F s k = true) : lvL F s (k + 1) = lvL F s k ++ [k] := by simp [lvL, h]
theorem lvL_no {F : Nat → Int} {s k : Nat} (h : lvB F s k = false) : lvL F s (k + 1) = lvL F s k := by simp [lvL, h]
theorem lvL_len (F : Nat → Int) (s : Nat) (k : Nat) : (lvL F s k).length ≤ k := by
  induction k with
  | zero => exact Nat.le_refl _
  | succ k ih =>
    cases h : lvB F s k with
    | true => rw [lvL_yes h]; simp; omega
    | false => rw [lvL_no h]; omega
theorem cell_one (k : Nat) (w : World) (g : Nat) (h : g = w.heap.size) : (w.alloc (.cells #[.int .i64 (k : Int)] 3)).cell? ⟨g, 0, none⟩ = some (.int .i64 (k : Int)) := by
  subst h
  have := cells_lit w [.int .i64 (k : Int)] 3 0 (.int .i64 (k : Int)) rfl
  rwa [Addr.add_lit] at this
set_option maxRecDepth 100000 in
theorem live_bad (F : Nat → Int) (v : Value) (n : Nat) (x : Int) (w : World) (hv : Pe w v n F) (h : plc n F x ≠ 0) :
    Calls Try.prog 11 #[v, .int .i64 x] w fun e w' => e = .returned (.tuple #[.slice none 0 0, .int .i64 (plc n F x)]) ∧ Below w.heap.size w w' := by
  have C := hide (place_any F v n x w hv)
  obtain ⟨p, c, rfl, hc1, hc2⟩ := hv.shape
  clear hv
  generalize plc n F x = r at *
  have e1 : (r != 0) = true := by simpa using h
  go_enter Try.func11, Try.ntmps11
  go_wp2_with (go_at_call 20; (with_reducible refine (unhide C).mono ?_); rintro e w1 ⟨rfl, b1⟩; have B1 := hide b1; clear b1)
  go_ret2
  exact ⟨rfl, unhide B1⟩
theorem livB_iff (i a : Int) : livB i a = true ↔ 0 < i ∧ a < 4 := by simp [livB]
set_option maxHeartbeats 1000000 in
set_option maxRecDepth 100000 in
theorem live_ok (F : Nat → Int) (v : Value) (n s : Nat) (w : World) (hv : Pe w v n F) (h : rt n F = true) (hs : s < n) :
    Calls Try.prog 11 #[v, .int .i64 (s : Int)] w fun e w' => ∃ v', e = .returned (.tuple #[v', .int .i64 0]) ∧ w'.ownsRow w.heap.size 3 1 v' (lvL F s n).length (nL (lvL F s n)) ∧ Below w.heap.size w w' := by
  have C := hide (place_any F v n s w hv)
  rw [plc_ok h hs] at C
  have HV := hide hv
  have h8 := (rt_iff.1 h).2.1
  obtain ⟨p, c, rfl, hc1, hc2⟩ := hv.shape
  unfold maxLen at hc2
  clear hv h
  go_enter Try.func11, Try.ntmps11
  go_wp2_with (go_at_call 20; (with_reducible refine (unhide C).mono ?_); rintro e w1 ⟨rfl, b1⟩; have B1 := hide b1; clear b1)
  go_loopw [7, 18] (fun u i w3 => ∃ (V : Value) (k : Nat), k ≤ n ∧ u = V ∧ i = .int .i64 k ∧ w3.ownsRow w.heap.size 3 1 V (lvL F s k).length (nL (lvL F s k)) ∧ Below w.heap.size w w3) (fun _ i _ => n - (intOf i).toNat)
  case atStart => exact ⟨_, 0, by omega, rfl, rfl, World.ownsRow_nil _ _ _ _, unhide B1⟩
  case round =>
    obtain ⟨V, k, hk, hu, rfl, ho, hb⟩ := hrel
    obtain rfl := hu.symm
    have HO := hide ho
    have HB := hide hb
    by_cases hlt : k < n
    · obtain ⟨b, off, rfl, _, hcell⟩ := ((unhide HV).below hb (Nat.le_refl _)).some (by omega)
      obtain ⟨q1, q2⟩ := Pe.two hcell k hlt
      have BL1 := hide (below_alloc (Below.refl wr.heap.size wr) (.cells #[.int .i64 (F (k * 2)), .int .i64 (F (k * 2 + 1))] 42))
      have LN := hide (show (lvL F s k).length ≤ 1000000 by have := lvL_len F s k; omega)
      clear hcell ho hb
      by_cases hks : k = s
      · have Y := hide (lvL_yes (show lvB F s k = true by simp [lvB, hks]))
        have e1 : ((k : Int) == (s : Int)) = true := by simp [hks]
        have CL := hide (cell_one k)
        clear hks
        go_wp2_with (at_builtin; refine wpList_snoc (by simp [Region.wanted]) (.tmp 30) (.tmp 32) rfl w.heap.size _ (lvL F s k) k rfl (((unhide HO).alloc _).alloc _) _ rfl (unhide CL _ _ (by simp)) (unhide LN) (by have := (unhide HB).size; simp; omega) ?_; intro v4 w4 o4 b4; have O4 := hide o4; have B4 := hide (below_up (below_alloc (below_alloc (unhide HB) _) _) b4); clear o4 b4)
        go_roundw
        case rel => exact ⟨_, k + 1, by omega, rfl, by go_num, by rw [unhide Y]; exact unhide O4, unhide B4⟩
        case measure => simp [intOf]; omega
      · have e1 : ((k : Int) == (s : Int)) = false := by simp; omega
        cases hr : livB (F (k * 2)) (F (k * 2 + 1)) with
        | true =>
          have Y := hide (lvL_yes (F := F) (s := s) (show lvB F s k = true by rw [livB_iff] at hr; simp [lvB, hr]))
          have HR := hide hr
          clear hr hks
          have CL := hide (cell_one k)
          go_wp2_with (first
            | (go_at_call 22; (with_reducible refine (isLive_any _ _ _).mono ?_); rw [unhide HR]; rintro e w3 ⟨rfl, b3⟩; have B3 := hide (below_of (unhide BL1) b3); have O3 := hide (owns_below (unhide HO) (unhide B3)); clear b3)
            | (at_builtin; refine wpList_snoc (by simp [Region.wanted]) (.tmp 30) (.tmp 32) rfl w.heap.size _ (lvL F s k) k rfl ((unhide O3).alloc _) _ rfl (unhide CL _ _ rfl) (unhide LN) (by have := (unhide HB).size; have := (unhide B3).size; simp; omega) ?_; intro v4 w4 o4 b4; have O4 := hide o4; have B4 := hide (below_up (below_alloc (below_of (unhide HB) (unhide B3)) _) b4); clear o4 b4))
          go_roundw
          case rel => exact ⟨_, k + 1, by omega, rfl, by go_num, by rw [unhide Y]; exact unhide O4, unhide B4⟩
          case measure => simp [intOf]; omega
        | false =>
          have Y := hide (lvL_no (F := F) (s := s) (k := k) (show lvB F s k = false by
            cases q : lvB F s k with
            | false => rfl
            | true =>
              have : livB (F (k * 2)) (F (k * 2 + 1)) = true := by rw [livB_iff]; simpa [lvB, hks] using q
              rw [hr] at this; cases this))
          have HR := hide hr
          clear hr hks
          go_wp2_with (go_at_call 22; (with_reducible refine (isLive_any _ _ _).mono ?_); rw [unhide HR]; rintro e w3 ⟨rfl, b3⟩; have B3 := hide (below_of (unhide BL1) b3); have O3 := hide (owns_below (unhide HO) (unhide B3)); clear b3)
          go_roundw
          case rel => exact ⟨_, k + 1, by omega, rfl, by go_num, by rw [unhide Y]; exact unhide O3, below_of (unhide HB) (unhide B3)⟩
          case measure => simp [intOf]; omega
    · obtain rfl : k = n := by omega
      clear ho hb
      go_wp2
      go_ret2
      exact ⟨_, rfl, unhide HO, unhide HB⟩
end Go.Proofs.Ytnbmnbgbnagajaa
