/- Appends of any slices of ints to rows of the call's own, parts of slices. -/
import Derived.Test.YtgglnhnokhpnpaaDoorK1
import Derived.Test.YtgglnhnokhpnpaaDoorK0
import Derived.Test.YtgglnhnokhpnpaaDoorJ0
import Derived.Test.YtgglnhnokhpnpaaDoorM2
import Derived.Laws.AppendOwnNone
import Derived.Lib.SliceRun
import Derived.Deep.RegionLaw
import Derived.Deep.RegionHeld3
namespace Go.Proofs.YtgglnhnokhpnpaaDoor
open Go.RowKit

theorem il_nil (w : World) : IL w (.slice none 0 0) [] := .inl ⟨rfl, .inl rfl⟩
theorem il_lit (w : World) (xs : List Int) (t : TypeId) (n : Nat) (hn : xs.length = n) (hm : n ≤ maxLen) : IL (w.alloc (.cells (xs.map (Value.int .i64)).toArray t)) (.slice (some ⟨w.heap.size, 0, none⟩) n n) xs := by
  have := isl_lit w xs t n hn hm
  rw [← hn] at this ⊢
  exact this
theorem il_cap {w : World} {q : Option Addr} {n c : Nat} {L : List Int} (h : IL w (.slice q n c) L) : n = L.length ∧ n ≤ c ∧ c ≤ maxLen := by
  rcases h with ⟨h0, h | ⟨a, cap, h, hc⟩⟩ | ⟨b, off, cap, h, h1, h2, _⟩
  · cases h; exact ⟨h0.symm, by omega, by unfold maxLen; omega⟩
  · cases h; exact ⟨h0.symm, by omega, hc⟩
  · cases h; exact ⟨rfl, h1, h2⟩
theorem il_take {w : World} {q : Option Addr} {n p c : Nat} {L : List Int} (h : IL w (.slice q n c) L) (hp : p ≤ n) : IL w (.slice q p c) (L.take p) := by
  obtain ⟨hn, hnc, hc⟩ := il_cap h
  have hl : (L.take p).length = p := by rw [List.length_take]; omega
  unfold IL
  rw [hl]
  rcases h with ⟨h0, h | ⟨a, cap, h, hc⟩⟩ | ⟨b, off, cap, h, h1, h2, h3, h4⟩
  · cases h
    obtain rfl : p = 0 := by omega
    exact .inl ⟨rfl, .inl rfl⟩
  · cases h
    obtain rfl : p = 0 := by omega
    exact .inl ⟨rfl, .inr ⟨a, c, rfl, hc⟩⟩
  · injection h with q1 q2 q3
    subst q1
    subst q3
    refine .inr ⟨b, off, c, rfl, by omega, h2, h3, fun i hi => ?_⟩
    rw [h4 i (by omega)]
    simp [zF, List.getD, hi]
theorem zF_drop_fun (L : List Int) (k : Nat) : zF (L.drop k) = fun i => zF L (k + i) := funext fun i => zF_drop L k i
/-- A slice of ints from K on, wherever it lies. -/
theorem slice_from (q : Option Addr) (m c K : Nat) (hK : K ≤ m) (hc : m ≤ c) (hc2 : c ≤ maxLen) : ∃ a2 c2, (∀ w, (Instr.slice 39 (.slice q m c) (some (.int .i64 (K : Int))) none none).run Tryd.prog w = .ok (.slice a2 (m - K) c2) w) ∧
    ∀ (w : World) (L : List Int), IL w (.slice q m c) L → IL w (.slice a2 (m - K) c2) (L.drop K) := by
  obtain ⟨i, hi, hz0, hz1, hz2⟩ := info_parts info3
  have hu : Tryd.prog.underlying 39 = some (.slice 3) := Tryd.underlying39
  have z3 : ∀ w, (Go.sizeOf 3).run Tryd.prog w = .ok 1 w := fun w => by simp [Go.sizeOf, typeInfo, hi, hz1]
  have e1 : ((K : Int)).toNat = K := by omega
  have hrun : ∀ w, (Instr.slice 39 (.slice q m c) (some (.int .i64 (K : Int))) none none).run Tryd.prog w = .ok (.slice (if c = K then q else q.map (·.add (K * 1))) (m - K) (c - K)) w := by
    intro w
    rw [run_slice_l (P := Tryd.prog) (w := w) 39 _ _ _ (by rw [hu]; rfl) .i64 (K : Int) (by omega) (by omega)]
    simp only [show Tryd.prog.elem 39 = 3 from rfl, z3, Result.andThen, sliced, e1]
  refine ⟨_, _, hrun, fun w L h => ?_⟩
  obtain ⟨hn, -, -⟩ := il_cap h
  have hl : (L.drop K).length = m - K := by rw [List.length_drop, hn]
  unfold IL at h ⊢
  rw [hl, zF_drop_fun]
  by_cases e : c = K
  · rw [if_pos e]
    cases q with
    | none =>
      rcases h with ⟨h0, h | ⟨a, cap, h, _⟩⟩ | ⟨b, off, cap, h, _⟩
      · cases h; exact .inl ⟨by omega, .inl (by rw [show 0 - K = 0 by omega])⟩
      · cases h
      · cases h
    | some x => exact .inl ⟨by omega, .inr ⟨x, c - K, by rw [show m - K = 0 by omega], by omega⟩⟩
  · rw [if_neg e]
    rcases h with ⟨h0, h | ⟨a, cap, h, hcc⟩⟩ | ⟨b, off, cap, h, h1, h2, h3, h4⟩
    · cases h; omega
    · cases h
      obtain rfl : K = 0 := by omega
      exact .inl ⟨by omega, .inr ⟨_, c - 0, rfl, by omega⟩⟩
    · injection h with q1 q2 q3
      subst q1
      subst q3
      exact .inr ⟨b, off + K, c - K, by simp [Addr.add], by omega, by omega, h3, fun i hi => by have := h4 (K + i) (by omega); rwa [← Nat.add_assoc] at this⟩
/-- An append to a row of ints of the call's own. -/
theorem il_src {w : World} {v : Value} {L : List Int} (h : IL w v L) : ∃ q c, v = .slice q L.length c ∧ (q = none → L.length = 0 ∧ c = 0) ∧ ∀ ad, q = some ad → ∀ i u, (L.map (Value.int .i64))[i]? = some u → w.cell? (ad.add i) = some u := by
  rcases h with ⟨h0, rfl | ⟨a, cap, rfl, hc⟩⟩ | ⟨b, off, cap, rfl, h1, h2, h3, h4⟩
  · have : L = [] := List.length_eq_zero_iff.1 h0
    subst this
    exact ⟨none, 0, rfl, fun _ => ⟨rfl, rfl⟩, fun ad e => by cases e⟩
  · have : L = [] := List.length_eq_zero_iff.1 h0
    subst this
    exact ⟨some a, cap, rfl, fun e => by (cases e), fun ad e i u hu => by simp at hu⟩
  · refine ⟨_, cap, rfl, fun e => by (cases e), fun ad e i u hu => ?_⟩
    cases e
    have hi : i < L.length := by have := (List.getElem?_eq_some_iff.1 hu).1; simpa using this
    rw [Addr.add_lit, h4 i hi]
    simp [zF, List.getD, List.getElem?_eq_getElem hi] at hu ⊢
    exact hu
theorem run_cat {w : World} (ty : TypeId) (base : Nat) (v u : Value) (L K : List Int) (hown : OL w base v L) (hu : IL w u K) (hn : L.length ≤ 1000000) (hm : K.length ≤ 1000000) (hbase : base ≤ w.heap.size) :
    ∃ v' w', (Builtin.append_ #[39, 39] ty #[v, u]).run Tryd.prog w = .ok v' w' ∧ OL w' base v' (L ++ K) ∧ Below base w w' ∧ w.grownBy w' v.ownBlock := by
  obtain ⟨j, hj, hz0, hz1, hz2⟩ := info_parts info3
  obtain ⟨q, c, rfl, hq, hc⟩ := il_src hu
  cases q with
  | none =>
    obtain ⟨h0, rfl⟩ := hq rfl
    rw [h0]
    obtain rfl : K = [] := List.length_eq_zero_iff.1 h0
    exact ⟨v, w, run_append_owned_none w base 39 ty 3 j 1 Tryd.underlying39 hj v L.length _ hown, by simpa using hown, Below.refl _ _, World.grownBy.refl _ _⟩
  | some ad =>
    obtain ⟨v', w', hrun, r1, r2, _⟩ := run_append_own (P := Tryd.prog) w base 39 ty 3 j (.int .i64 0) 1 8 Tryd.underlying39 hj hz0 hz1 hz2 rfl (by decide) v L.length _ hown ad K.length c (K.map (Value.int .i64)) (by simp) (hc ad rfl) (fun u hu => by simp at hu; obtain ⟨y, _, rfl⟩ := hu; rfl) (by unfold maxLen; omega) (by omega) hbase
    refine ⟨v', w', hrun, ?_, (Below.refl _ _).grown r2 hbase (fun k hk => (hown.lt k hk).1), r2⟩
    unfold OL
    rw [List.map_append, List.length_append]
    exact r1
theorem wpList_cat {w : World} {ops : Array Oper} {rest : List Oper} {o : Oper} {a : Act} {Q : Exit → Act → World → Prop} (hw : Region.wanted o (yielded ops a.tmps) = true) (s x : Operand)
    (hop : o.op = .call { callee := .builtin .append, args := #[s, x], argTypes := #[39, 39] }) (base : Nat)
    (v u : Value) (L K : List Int) (hs : a.eval s = v) (hown : OL w base v L) (hx : a.eval x = u) (hu : IL w u K) (hn : L.length ≤ 1000000) (hm : K.length ≤ 1000000) (hbase : base ≤ w.heap.size)
    (h : ∀ v' w', OL w' base v' (L ++ K) → Below base w w' → wpList Tryd.prog ops Q rest (a.put o.dst v') w') : wpList Tryd.prog ops Q (o :: rest) a w := by
  refine wpList_step fun K' hK => ?_
  rw [if_pos hw]
  obtain ⟨v', w', hrun, r1, r2, r3⟩ := run_cat o.type base v u L K hown hu hn hm hbase
  unfold Oper.wp
  simp [execOp, hop, resolve, invoke, builtin, hs, hx, hrun, Result.andThen]
  exact hK _ _ (h v' w' r1 r2)
theorem step_cat {ops : Array Oper} {o : Oper} {a : Act} {w : World} {K' : Act → World → Prop} {Q : Exit → Act → World → Prop} {E : Prop} (hgd : o.guard = none) (s x : Operand)
    (hop : o.op = .call { callee := .builtin .append, args := #[s, x], argTypes := #[39, 39] }) (base : Nat)
    (v u : Value) (L K : List Int) (hs : a.eval s = v) (hown : OL w base v L) (hx : a.eval x = u) (hu : IL w u K) (hn : L.length ≤ 1000000) (hm : K.length ≤ 1000000) (hbase : base ≤ w.heap.size)
    (h : ∀ v' w', OL w' base v' (L ++ K) → Below base w w' → w.grownBy w' v.ownBlock → K' (a.put o.dst v') w') :
    if Region.wanted o (yielded ops a.tmps) = true then Oper.wp Tryd.prog o a w K' Q else E := by
  have hw : Region.wanted o (yielded ops a.tmps) = true := by simp [Region.wanted, hgd]
  rw [if_pos hw]
  obtain ⟨v', w', hrun, r1, r2, r3⟩ := run_cat o.type base v u L K hown hu hn hm hbase
  unfold Oper.wp
  simp [execOp, hop, resolve, invoke, builtin, hs, hx, hrun, Result.andThen]
  exact h v' w' r1 r2 r3
theorem il_grown {w w' : World} {b off n c : Nat} {L : List Int} {row : Option Nat} (h : IL w (.slice (some ⟨b, off, none⟩) n c) L) (hg : w.grownBy w' row) (hne : some b ≠ row) (hs : w.heap.size ≤ w'.heap.size) : IL w' (.slice (some ⟨b, off, none⟩) n c) L := by
  rcases h with ⟨h0, h⟩ | ⟨b', off', cap, h, h1, h2, h3, h4⟩
  · exact .inl ⟨h0, h⟩
  · injection h with q1 q2 q3
    injection q1 with q1
    injection q1 with q1 q4
    subst q1
    subst q3
    subst q4
    exact .inr ⟨b, off, c, by rw [q2], h1, h2, by omega, fun i hi => hg.cell (h4 i hi) hne⟩
/-- An empty row of ints of the call's own. -/
theorem ol_empty (w : World) (B : Nat) (hB : B ≤ w.heap.size) : OL (w.alloc (.cells #[] 3)) B (.slice (some ⟨w.heap.size, 0, none⟩) 0 0) [] :=
  World.ownsRow_lit w #[] 0 hB (by unfold maxLen; omega) rfl
theorem Glob.drewN {w : World} (h : Glob w) (n : Nat) : Glob (w.drewN n) := h.below (below_drewN (Below.refl _ _) n) h.size
end Go.Proofs.YtgglnhnokhpnpaaDoor
