/- Walks of slices.Grow of nothing and of slices.Concat of two slices. -/
import Derived.Test.YtokgbolmjfmfpaaA1
import Derived.Lib.AppendZerosOnto
import Derived.LoopN
namespace Go.Proofs.Ytokgbolmjfmfpaa
open Go.RowKit

set_option maxRecDepth 100000 in
set_option maxHeartbeats 1000000 in
theorem grow0 (n : Nat) (w : World) (hn : n ≤ 1000000) :
    Calls Try.prog 36 #[.slice none 0 0, .int .i64 (n : Int)] w fun e w' => ∃ q c, e = .returned (.slice q 0 c) ∧ w'.ownsRow w.heap.size 3 1 (.slice q 0 c) 0 [] ∧ Below w.heap.size w w' := by
  obtain ⟨i, hi, hz0, hz1, hz2⟩ := info_parts info3
  by_cases h0 : n = 0
  · subst h0
    go_enter Try.func36, Try.ntmps36
    go_wp2
    go_ret
    exact ⟨_, _, rfl, World.ownsRow_nil _ _ _ _, Below.refl _ _⟩
  · have hGn : n ≤ grownCap w n 0 3 := grownCap_ge w _ _ _
    have hG := grownCap_le_maxLen w n 0 3 (by unfold maxLen; omega)
    have hrz : ∀ ty, (Builtin.append_ #[22, 3] ty #[.slice none 0 0, .int .i64 (n : Int)]).run Try.prog w =
        .ok (.slice (some ⟨w.heap.size, 0, none⟩) n (grownCap w n 0 3)) (w.drew.alloc (.cells (([] : List Value).toArray ++ Builtin.zeroCells (Value.int .i64 0).cells n ++ Builtin.zeroCells (Value.int .i64 0).cells (grownCap w n 0 3 - n)) 3)) := fun ty => by
      have h := Lib.run_append_grow_zeros w 22 3 ty 3 i (.int .i64 0) .i64 .i64 Try.underlying22 Try.underlying3 hi hz0 none 0 0 [] (run_firstCells_none w.drew i.size 0 0 0) n (by omega) (by rw [hz1]; omega) (by omega) (by omega) (by rw [hz2]; omega) (by rw [Nat.zero_add]; exact growslice_fits (by omega) (by rw [hz2]; omega))
      rw [Nat.zero_add] at h
      exact h
    generalize grownCap w n 0 3 = G at *
    have d1 : decide ((0 : Int) < (n : Int)) = true := decide_eq_true (by omega)
    have d2 : decide ((n : Int) < 0) = false := decide_eq_false (by omega)
    have hG2 := hide hG
    unfold maxLen at hG
    go_enter Try.func36, Try.ntmps36
    go_wp2_with (at_builtin; refine Lib.wpList_append_run _ rfl _ _ _ _ rfl _ _ rfl rfl _ _ (hrz _) ?_)
    go_ret
    refine ⟨_, _, rfl, ?_, ((Below.refl _ _).alloc (Nat.le_refl _) _).drew⟩
    exact (World.ownsRow_made (base := w.heap.size) (e := 3) (size := 1) w (Builtin.zeroCells #[Value.int .i64 0] n ++ Builtin.zeroCells #[Value.int .i64 0] (G - n)) G (Nat.le_refl _) (unhide hG2) (by simp [Builtin.zeroCells]; omega)).drew
/-- One behind the other. -/
def cat (F : Nat → Int) (m : Nat) (G : Nat → Int) (i : Nat) : Int := if i < m then F i else G (i - m)
theorem vL_append (k : IntKind) (F G : Nat → Int) (m n : Nat) : vL k F m ++ vL k G n = vL k (cat F m G) (m + n) := by
  apply List.ext_getElem?
  intro t
  by_cases h : t < m
  · rw [List.getElem?_append_left (by rw [vL_length]; exact h), vL_get _ _ _ _ h, vL_get _ _ _ _ (by omega), cat, if_pos h]
  · rw [List.getElem?_append_right (by rw [vL_length]; omega), vL_length]
    by_cases h2 : t < m + n
    · rw [vL_get _ _ _ _ (by omega), vL_get _ _ _ _ h2, cat, if_neg h]
    · rw [List.getElem?_eq_none (by rw [vL_length]; omega), List.getElem?_eq_none (by rw [vL_length]; omega)]
/-- append of a slice, whatever its shape, to a row of the call's own. -/
theorem wpList_append_sl {w : World} {ops : Array Oper} {rest : List Oper} {o : Oper} {a : Act} {Q : Exit → Act → World → Prop} (hgd : o.guard = none) (s x : Operand)
    (ho : o.op = .call { callee := .builtin .append, args := #[s, x], argTypes := #[22, 22] }) (base : Nat)
    (v : Value) (n : Nat) (F : Nat → Int) (hs : a.eval s = v) (hown : w.ownsRow base 3 1 v n (vL .i64 F n))
    (u : Value) (m : Nat) (G : Nat → Int) (hx : a.eval x = u) (hu : Sl .i64 w u m G) (hn : n ≤ 1000000) (hm : m ≤ 1000000) (hbase : base ≤ w.heap.size)
    (h : ∀ v' w', w'.ownsRow base 3 1 v' (n + m) (vL .i64 (cat F n G) (n + m)) → Below base w w' → wpList Try.prog ops Q rest (a.put o.dst v') w') : wpList Try.prog ops Q (o :: rest) a w := by
  obtain ⟨i, hi, hz0, hz1, hz2⟩ := info_parts info3
  obtain ⟨p, cap, rfl, hc1, hc2⟩ := hu.shape
  have hcs := hu.cells
  cases p with
  | none =>
    obtain ⟨rfl, rfl⟩ := hcs.1 rfl
    refine wpList_append_own_none hgd s x 22 ho base 3 i 1 Try.underlying22 hi v n _ hs hown hx ?_
    refine h v w ?_ (Below.refl _ _)
    rw [← vL_append]
    simpa [vL] using hown
  | some ad =>
    refine wpList_append_own w hgd s x 22 ho base 3 i (.int .i64 0) 1 8 Try.underlying22 hi hz0 hz1 hz2 rfl (by decide) v n _ hs hown ad m cap (vL .i64 G m) hx (by rw [vL_length]; omega) (hcs.2 ad rfl) (vL_one _ G m) (by unfold maxLen; omega) (by omega) hbase ?_
    intro v' w' ho' hg' _
    rw [vL_append] at ho'
    exact h v' w' ho' ((Below.refl _ _).grown hg' hbase fun k hk => (hown.lt k hk).1)
set_option maxRecDepth 100000 in
set_option maxHeartbeats 1000000 in
theorem concat_any (F G : Nat → Int) (u v : Value) (n k g : Nat) (w : World) (hu : Sl .i64 w u n F) (hv : Sl .i64 w v k G) (c0 : w.cell? ⟨g, 0, none⟩ = some u) (c1 : w.cell? ⟨g, 1, none⟩ = some v) (hn : n ≤ 1000) (hk : k ≤ 1000) :
    Calls Try.prog 33 #[.slice (some ⟨g, 0, none⟩) 2 2] w fun e w' => ∃ q c, e = .returned (.slice q (n + k) c) ∧ Sl .i64 w' (.slice q (n + k) c) (n + k) (cat F n G) ∧ Below w.heap.size w w' := by
  obtain ⟨pu, cu, rfl, lu, mu⟩ := hu.shape
  obtain ⟨pv, cv, rfl, lv, mv⟩ := hv.shape
  unfold maxLen at mu mv
  have HU := hide hu
  have HV := hide hv
  have hg : g < w.heap.size := block_lt_of_cell c0
  have HG := hide hg
  clear hu hv hg
  go_enter Try.func33, Try.ntmps33
  go_wp2
  go_loop [11, 3] (fun xi xs => (xi = .int .i64 0 ∧ xs = .int .i64 0) ∨ (xi = .int .i64 1 ∧ xs = .int .i64 (n : Int)) ∨ (xi = .int .i64 2 ∧ xs = .int .i64 ((n : Int) + k))) (fun i _ => 2 - (intOf i).toNat)
  case atStart => exact .inl ⟨rfl, rfl⟩
  case round =>
    rcases hrel with ⟨rfl, rfl⟩ | ⟨rfl, rfl⟩ | ⟨rfl, rfl⟩
    · go_wp2
      go_round
      case rel => exact .inr (.inl ⟨rfl, by simp⟩)
      case measure => simp [intOf]
    · go_wp2
      go_round
      case rel => exact .inr (.inr ⟨rfl, by simp⟩)
      case measure => simp [intOf]
    · have C0 := hide c0
      have C1 := hide c1
      clear c0 c1
      go_wp2_with (go_at_call 36; refine (grow0 (n + k) w (by omega)).mono ?_; rintro e w1 ⟨q1, d1, rfl, o1, b1⟩; have O1 := hide o1; have B1 := hide b1; clear o1 b1)
      go_loopw [27, 6] (fun xi xs w2 => Below w.heap.size w w2 ∧ ((xi = .int .i64 0 ∧ w2.ownsRow w.heap.size 3 1 xs 0 (vL .i64 F 0)) ∨ (xi = .int .i64 1 ∧ w2.ownsRow w.heap.size 3 1 xs n (vL .i64 F n)) ∨ (xi = .int .i64 2 ∧ w2.ownsRow w.heap.size 3 1 xs (n + k) (vL .i64 (cat F n G) (n + k))))) (fun i _ _ => 2 - (intOf i).toNat)
      case atStart => exact ⟨unhide B1, .inl ⟨rfl, by simpa [vL] using unhide O1⟩⟩
      case round =>
        obtain ⟨b2, hrel⟩ := hrel
        have c0 : wr.cell? ⟨g, 0, none⟩ = some (.slice pu n cu) := (b2.cell (unhide HG)).trans (unhide C0)
        have c1 : wr.cell? ⟨g, 1, none⟩ = some (.slice pv k cv) := (b2.cell (unhide HG)).trans (unhide C1)
        have B2 := hide b2
        clear b2
        rcases hrel with ⟨rfl, o2⟩ | ⟨rfl, o2⟩ | ⟨rfl, o2⟩
        · have O2 := hide o2
          clear o2
          go_wp2_with (at_builtin; refine wpList_append_sl rfl (.tmp 31) (.tmp 32) rfl w.heap.size _ 0 F rfl (unhide O2) (.slice pu n cu) n F rfl ((unhide HU).below (unhide B2) (Nat.le_refl _)) (by omega) (by omega) (unhide B2).size ?_)
          intro v3 w3 o3 b3
          have O3 := hide o3
          have B3 := hide ((unhide B2).trans b3)
          clear o3 b3 c0 c1
          go_wp2
          go_roundw
          case rel =>
            refine ⟨unhide B3, .inr (.inl ⟨rfl, ?_⟩)⟩
            have := unhide O3
            rw [vL_congr (G := F) (fun j _ => by simp [cat])] at this
            exact this
          case measure => simp [intOf]
        · have O2 := hide o2
          clear o2
          go_wp2_with (at_builtin; refine wpList_append_sl rfl (.tmp 31) (.tmp 32) rfl w.heap.size _ n F rfl (unhide O2) (.slice pv k cv) k G rfl ((unhide HV).below (unhide B2) (Nat.le_refl _)) (by omega) (by omega) (unhide B2).size ?_)
          intro v3 w3 o3 b3
          have O3 := hide o3
          have B3 := hide ((unhide B2).trans b3)
          clear o3 b3 c0 c1
          go_wp2
          go_roundw
          case rel => exact ⟨unhide B3, .inr (.inr ⟨rfl, unhide O3⟩)⟩
          case measure => simp [intOf]
        · obtain ⟨q, c, rfl⟩ := owns_shape o2
          have O2 := hide o2
          clear o2
          go_wp2
          go_ret
          exact ⟨q, c, rfl, sl_of_owns (unhide O2), unhide B2⟩
end Go.Proofs.Ytokgbolmjfmfpaa
