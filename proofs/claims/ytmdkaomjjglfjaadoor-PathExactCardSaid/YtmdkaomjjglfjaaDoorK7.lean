/- Appends to rows of the call's own; rows of slices of the call's own. -/
import Derived.Test.YtmdkaomjjglfjaaDoorK6
import Derived.Test.YtmdkaomjjglfjaaDoorK1
import Derived.Laws.AppendOwnNone
import Derived.Lib.AppendZerosOnto
namespace Go.Proofs.YtmdkaomjjglfjaaDoor
open Go.RowKit

theorem info22 : (Tryd.prog.info? 22).map (fun i => (i.zero, i.size, i.bytes)) = some (some (.slice none 0 0), 1, 24) := by kernel_rfl
/-- An append to a row of the call's own, of cells that lie somewhere. -/
theorem run_app {e t : TypeId} {z : Value} {bytes : Nat} (hu : Tryd.prog.underlying t = some (.slice e)) (hi : (Tryd.prog.info? e).map (fun i => (i.zero, i.size, i.bytes)) = some (some z, 1, bytes)) (hzs : z.cells.size = 1) (hby : bytes ≤ 24)
    {w : World} (ty : TypeId) (base : Nat) (v : Value) (n : Nat) (xs : List Value) (hown : w.ownsRow base e 1 v n xs)
    (q : Option Addr) (m c : Nat) (ys : List Value) (hm : ys.length = m) (hq : q = none → m = 0 ∧ c = 0) (hcell : ∀ ad, q = some ad → ∀ i u, ys[i]? = some u → w.cell? (ad.add i) = some u) (h1 : ∀ u ∈ ys, u.oneCell' = true) (hn : n ≤ 1000000) (hm2 : m ≤ 1000000) (hbase : base ≤ w.heap.size) :
    ∃ v' w', (Builtin.append_ #[t, t] ty #[v, .slice q m c]).run Tryd.prog w = .ok v' w' ∧ w'.ownsRow base e 1 v' (n + m) (xs ++ ys) ∧ Below base w w' ∧ w.grownBy w' v.ownBlock := by
  obtain ⟨j, hj, hz0, hz1, hz2⟩ := info_parts hi
  cases q with
  | none =>
    obtain ⟨rfl, rfl⟩ := hq rfl
    obtain rfl : ys = [] := List.length_eq_zero_iff.1 hm
    exact ⟨v, w, run_append_owned_none w base t ty e j 1 hu hj v n xs hown, by simpa using hown, Below.refl _ _, World.grownBy.refl _ _⟩
  | some ad =>
    have hbb : (n + m) * bytes ≤ 140737488355328 := Nat.le_trans (Nat.mul_le_mul_left _ hby) (by omega)
    obtain ⟨v', w', hrun, r1, r2, _⟩ := run_append_own (P := Tryd.prog) w base t ty e j z 1 bytes hu hj hz0 hz1 hz2 hzs (by decide) v n xs hown ad m c ys (by omega) (hcell ad rfl) h1 (by unfold maxLen; omega) hbb hbase
    exact ⟨v', w', hrun, r1, (Below.refl _ _).grown r2 hbase (fun k hk => (hown.lt k hk).1), r2⟩
theorem il_src {w : World} {v : Value} {L : List Int} (h : IL w v L) : ∃ q c, v = .slice q L.length c ∧ (q = none → L.length = 0 ∧ c = 0) ∧ ∀ ad, q = some ad → ∀ i u, (L.map (Value.int .i64))[i]? = some u → w.cell? (ad.add i) = some u := by
  rcases h with ⟨h0, rfl | ⟨a, cap, rfl, hc⟩⟩ | ⟨b, off, cap, rfl, h1, h2, h3, h4⟩
  · have : L = [] := List.length_eq_zero_iff.1 h0
    subst this
    exact ⟨none, 0, rfl, fun _ => ⟨rfl, rfl⟩, fun ad e => by cases e⟩
  · have : L = [] := List.length_eq_zero_iff.1 h0
    subst this
    exact ⟨some a, cap, rfl, fun e => by (cases e), fun ad e i u hu => by simp at hu⟩
  · refine ⟨_, cap, rfl, fun e => by (cases e), fun ad e i u hu => ?_⟩
    cases e
    have hi : i < L.length := by have := (List.getElem?_eq_some_iff.1 hu).1; simpa using this
    rw [Addr.add_lit, h4 i hi]
    simp [zF, List.getD, List.getElem?_eq_getElem hi] at hu ⊢
    exact hu
/-- .. of a slice that holds a list. -/
theorem wpList_cat {w : World} {ops : Array Oper} {rest : List Oper} {o : Oper} {a : Act} {Q : Exit → Act → World → Prop} (hw : Region.wanted o (yielded ops a.tmps) = true) (s x : Operand)
    (hop : o.op = .call { callee := .builtin .append, args := #[s, x], argTypes := #[22, 22] }) (base : Nat)
    (v u : Value) (L K : List Int) (hs : a.eval s = v) (hown : OL w base v L) (hx : a.eval x = u) (hu : IL w u K) (hn : L.length ≤ 1000000) (hm : K.length ≤ 1000000) (hbase : base ≤ w.heap.size)
    (h : ∀ v' w', OL w' base v' (L ++ K) → Below base w w' → wpList Tryd.prog ops Q rest (a.put o.dst v') w') : wpList Tryd.prog ops Q (o :: rest) a w := by
  obtain ⟨q, c, rfl, hq, hcell⟩ := il_src hu
  refine wpList_step fun K' hK => ?_
  rw [if_pos hw]
  obtain ⟨v', w', hrun, r1, r2, _⟩ := run_app (t := 22) Tryd.underlying22 info3 rfl (by decide) o.type base v L.length _ hown q K.length c (K.map (Value.int .i64)) (by simp) hq hcell (fun u hu => by simp at hu; obtain ⟨y, _, rfl⟩ := hu; rfl) hn hm hbase
  unfold Oper.wp
  simp [execOp, hop, resolve, invoke, builtin, hs, hx, hrun, Result.andThen]
  refine hK _ _ (h v' w' ?_ r2)
  unfold OL
  rw [List.length_append, List.map_append]
  exact r1
theorem ownsx_apart {e e' : TypeId} {size size' : Nat} {w : World} {B B' n n' : Nat} {v v' : Value} {L L' : List Value} (h : w.ownsRow B e size v n L) (h' : w.ownsRow B' e' size' v' n' L') (he : e ≠ e') :
    v'.ownBlock = none ∨ v'.ownBlock ≠ v.ownBlock := by
  rcases h'.2 with ⟨rfl, _⟩ | ⟨g', cap', cur', rfl, _, h3', _⟩
  · exact .inl rfl
  · refine .inr fun hq => ?_
    rcases h.2 with ⟨rfl, _⟩ | ⟨g, cap, cur, rfl, _, h3, _⟩
    · cases hq
    · cases hq
      rw [h3] at h3'
      cases h3'
      exact he rfl
/-- A row of slices of the call's own, each of which is a row of ints of the call's own. -/
def LO (w : World) (B : Nat) (v : Value) (M : List (List Int)) : Prop :=
  ∃ V : List Value, V.length = M.length ∧ w.ownsRow B 22 1 v M.length V ∧ ∀ i, i < M.length → OL w 0 (V.getD i (.slice none 0 0)) (zL M i)
theorem LO.nil (w : World) (B : Nat) : LO w B (.slice none 0 0) [] := ⟨[], rfl, World.ownsRow_nil _ _ _ _, fun _ hi => absurd hi (Nat.not_lt_zero _)⟩
theorem LO.below {w w' : World} {B C : Nat} {v : Value} {M : List (List Int)} (h : LO w B v M) (hb : Below C w w') (hC : w.heap.size ≤ C) : LO w' B v M := by
  obtain ⟨V, h1, h2, h3⟩ := h
  refine ⟨V, h1, ⟨h2.1, ?_⟩, fun i hi => (h3 i hi).below hb hC⟩
  rcases h2.2 with q | ⟨g, cap, cur, e, hB, hg, r⟩
  · exact .inl q
  · have hlt : g < w.heap.size := (Array.getElem?_eq_some_iff.1 hg).1
    exact .inr ⟨g, cap, cur, e, hB, (hb.block g (by omega)).trans hg, r⟩
theorem LO.form {w : World} {B : Nat} {v : Value} {M : List (List Int)} (h : LO w B v M) : ∃ q c, v = .slice q M.length c := by
  obtain ⟨V, _, h2, _⟩ := h
  exact owns_shape h2
theorem LO.ll {w : World} {B : Nat} {v : Value} {M : List (List Int)} (h : LO w B v M) : LL w v M := by
  obtain ⟨V, h1, h2, h3⟩ := h
  rcases id h2.2 with ⟨rfl, h0⟩ | ⟨g, cap, cur, rfl, hB, hg, hc, hm, _, _⟩
  · exact ⟨none, 0, by rw [h0], fun k hk => by omega⟩
  · unfold maxLen at hm
    refine ⟨some ⟨g, 0, none⟩, cap, rfl, fun k hk => ⟨g, 0, V.getD k (.slice none 0 0), rfl, hc, by omega, (Array.getElem?_eq_some_iff.1 hg).1, ?_, (h3 k hk).il⟩⟩
    rw [Nat.zero_add, h2.cellAt k (by omega)]
    simp [List.getD, List.getElem?_eq_getElem (show k < V.length by omega)]
theorem zL_left {M K : List (List Int)} {i : Nat} (h : i < M.length) : zL (M ++ K) i = zL M i := by simp [zL, List.getD, List.getElem?_append_left h]
theorem zL_snoc (M : List (List Int)) (x : List Int) : zL (M ++ [x]) M.length = x := by simp [zL, List.getD]
theorem getD_left {α : Type} {d : α} {M K : List α} {i : Nat} (h : i < M.length) : (M ++ K).getD i d = M.getD i d := by simp [List.getD, List.getElem?_append_left h]
theorem getD_snoc {α : Type} {d : α} (M : List α) (x : α) : (M ++ [x]).getD M.length d = x := by simp [List.getD]
/-- .. and one slice more: itself a row of ints of the call's own. -/
theorem wpList_add {w : World} {ops : Array Oper} {rest : List Oper} {o : Oper} {a : Act} {Q : Exit → Act → World → Prop} (hw : Region.wanted o (yielded ops a.tmps) = true) (s x : Operand)
    (hop : o.op = .call { callee := .builtin .append, args := #[s, x], argTypes := #[23, 23] }) (base : Nat)
    (v u : Value) (M : List (List Int)) (L : List Int) (hs : a.eval s = v) (hown : LO w base v M) (g : Nat) (hx : a.eval x = .slice (some ⟨g, 0, none⟩) 1 1) (hc : w.cell? ⟨g, 0, none⟩ = some u) (hu : OL w 0 u L) (hn : M.length ≤ 1000000) (hbase : base ≤ w.heap.size)
    (h : ∀ v' w', LO w' base v' (M ++ [L]) → Below base w w' → wpList Tryd.prog ops Q rest (a.put o.dst v') w') : wpList Tryd.prog ops Q (o :: rest) a w := by
  obtain ⟨V, h1, h2, h3⟩ := hown
  refine wpList_step fun K' hK => ?_
  rw [if_pos hw]
  obtain ⟨q9, c9, rfl⟩ := owns_shape hu
  obtain ⟨v', w', hrun, r1, r2, r3⟩ := run_app (t := 23) (by kernel_rfl) info22 rfl (by decide) o.type base v M.length _ h2 (some ⟨g, 0, none⟩) 1 1 [.slice q9 L.length c9] rfl (fun e => by (cases e))
    (fun ad e i y hy => by
      cases e
      match i, hy with
      | 0, hy => simp at hy; subst hy; rw [Addr.add_lit]; exact hc
      | i + 1, hy => simp at hy) (fun y hy => by simp at hy; subst hy; rfl) hn (by omega) hbase
  unfold Oper.wp
  simp [execOp, hop, resolve, invoke, builtin, hs, hx, hrun, Result.andThen]
  refine hK _ _ (h v' w' ⟨V ++ [.slice q9 L.length c9], by simp [h1], by simpa using r1, fun i hi => ?_⟩ r2)
  have keep : ∀ {y : Value} {K : List Int}, OL w 0 y K → OL w' 0 y K := fun ho => World.ownsRow.kept ho r3 (ownsx_apart h2 ho (by decide))
  by_cases e : i < M.length
  · rw [zL_left e, getD_left (by omega)]
    exact keep (h3 i e)
  · have hi' : i = M.length := by simp at hi; omega
    subst hi'
    rw [zL_snoc, ← h1, getD_snoc]
    exact keep hu
end Go.Proofs.YtmdkaomjjglfjaaDoor
