/- Copies into rows of kids of the call's own; putting one among them, as lists. -/
import Derived.Test.YtgglnhnokhpnpaaDoorJ4
import Derived.Laws.CopyOwn
import Derived.Lib.Overlaps
import Derived.Lib.AppendZerosOnto
namespace Go.Proofs.YtgglnhnokhpnpaaDoor
open Go.RowKit

theorem run_copy3 {w : World} (ty : TypeId) (g o dLen dCap : Nat) (ad : Addr) (sLen sCap : Nat) (cur cs : List Value)
    (hg : w.heap[g]? = some (.cells cur.toArray 45 (0, 0))) (hn : cs.length = Nat.min sLen dLen * 3) (hsrc : ∀ j v, cs[j]? = some v → w.cell? (ad.add j) = some v) (hfit : o + cs.length ≤ cur.length) (h1 : ∀ v ∈ cs, v.oneCell' = true) :
    ∃ w', (Builtin.copy_ #[22, 22] ty #[.slice (some ⟨g, o, none⟩) dLen dCap, .slice (some ad) sLen sCap]).run Tryd.prog w = .ok (goInt (Nat.min sLen dLen)) w' ∧ w'.heap[g]? = some (.cells (splice cur o cs).toArray 45 (0, 0)) ∧ w.grownBy w' (some g) := by
  obtain ⟨j, hj, hz0, hz1, hz2⟩ := info_parts info45
  have hl := run_loadCells_list (P := Tryd.prog) w ad cs hsrc
  have hst := run_storeCells_at Tryd.prog g o 45 cs 0 cur.toArray w hg (by simpa using hfit) h1
  rw [hn] at hl
  refine ⟨w.setRow g (splice cur o cs).toArray, ?_, setRow_heap w g _ _ 45 _ hg, ⟨rfl, rfl, rfl, by simp, fun k _ hk => setRow_other w g k _ (fun e => hk (by rw [e]))⟩⟩
  simp only [Nat.add_zero, hn] at hst
  simp [Builtin.copy_, run_underlying Tryd.underlying22, Builtin.lenOf, Builtin.firstCells, sizeOf, typeInfo, hj, hz1, hl, hst, splice, hn]
theorem wpList_copy3 {w : World} {ops : Array Oper} {rest : List Oper} {o : Oper} {a : Act} {Q : Exit → Act → World → Prop} (hgd : o.guard = none) (d s : Operand)
    (ho : o.op = .call { callee := .builtin .copy, args := #[d, s], argTypes := #[22, 22] })
    (g off dLen dCap : Nat) (ad : Addr) (sLen sCap : Nat) (hd : a.eval d = .slice (some ⟨g, off, none⟩) dLen dCap) (hs : a.eval s = .slice (some ad) sLen sCap) (cur cs : List Value)
    (hg : w.heap[g]? = some (.cells cur.toArray 45 (0, 0))) (hn : cs.length = Nat.min sLen dLen * 3) (hsrc : ∀ j v, cs[j]? = some v → w.cell? (ad.add j) = some v) (hfit : off + cs.length ≤ cur.length) (h1 : ∀ v ∈ cs, v.oneCell' = true)
    (h : ∀ w', w'.heap[g]? = some (.cells (splice cur off cs).toArray 45 (0, 0)) → w.grownBy w' (some g) → wpList Tryd.prog ops Q rest (a.put o.dst (goInt (Nat.min sLen dLen))) w') : wpList Tryd.prog ops Q (o :: rest) a w := by
  refine wpList_plain hgd fun K hK => ?_
  obtain ⟨w', hrun, r1, r2⟩ := run_copy3 o.type g off dLen dCap ad sLen sCap cur cs hg hn hsrc hfit h1
  unfold Oper.wp
  simp [execOp, ho, resolve, invoke, builtin, hd, hs, hrun, Result.andThen]
  exact hK _ _ (h w' r1 r2)
theorem step_copy3 {ops : Array Oper} {o : Oper} {a : Act} {w : World} {K : Act → World → Prop} {Q : Exit → Act → World → Prop} {E : Prop} (hgd : o.guard = none) (d s : Operand)
    (ho : o.op = .call { callee := .builtin .copy, args := #[d, s], argTypes := #[22, 22] })
    (g off dLen dCap : Nat) (ad : Addr) (sLen sCap : Nat) (hd : a.eval d = .slice (some ⟨g, off, none⟩) dLen dCap) (hs : a.eval s = .slice (some ad) sLen sCap) (cur cs : List Value)
    (hg : w.heap[g]? = some (.cells cur.toArray 45 (0, 0))) (hn : cs.length = Nat.min sLen dLen * 3) (hsrc : ∀ j v, cs[j]? = some v → w.cell? (ad.add j) = some v) (hfit : off + cs.length ≤ cur.length) (h1 : ∀ v ∈ cs, v.oneCell' = true)
    (h : ∀ w', w'.heap[g]? = some (.cells (splice cur off cs).toArray 45 (0, 0)) → w.grownBy w' (some g) → K (a.put o.dst (goInt (Nat.min sLen dLen))) w') :
    if Region.wanted o (yielded ops a.tmps) = true then Oper.wp Tryd.prog o a w K Q else E := by
  have hw : Region.wanted o (yielded ops a.tmps) = true := by simp [Region.wanted, hgd]
  rw [if_pos hw]
  obtain ⟨w', hrun, r1, r2⟩ := run_copy3 o.type g off dLen dCap ad sLen sCap cur cs hg hn hsrc hfit h1
  unfold Oper.wp
  simp [execOp, ho, resolve, invoke, builtin, hd, hs, hrun, Result.andThen]
  exact h w' r1 r2

theorem splice_len {α : Type} (L : List α) (o : Nat) (cs : List α) (h : o + cs.length ≤ L.length) : (splice L o cs).length = L.length := length_splice L o cs h
/-- Room made, one put there. -/
theorem splice_room {α : Type} (cur F X : List α) (a N k : Nat) (hF : F.length = N) (hX : X.length = k) (ha : a ≤ N) (hc : N + k ≤ cur.length) (ht : cur.take N = F) :
    (splice (splice cur (a + k) (F.drop a)) a X).take (N + k) = F.take a ++ X ++ F.drop a := by
  subst hX
  have e1 : (F.drop a).length = N - a := by rw [List.length_drop, hF]
  have e2 : cur.take a = F.take a := by rw [← ht, List.take_take, Nat.min_eq_left ha]
  have e3 : (cur.take (a + X.length)).length = a + X.length := by rw [List.length_take]; omega
  have e4 : splice cur (a + X.length) (F.drop a) = cur.take (a + X.length) ++ (F.drop a ++ cur.drop (N + X.length)) := by
    unfold splice; rw [e1, show a + X.length + (N - a) = N + X.length by omega]
  rw [e4]
  unfold splice
  have e5 : (cur.take (a + X.length) ++ (F.drop a ++ cur.drop (N + X.length))).take a = F.take a := by
    rw [List.take_append_of_le_length (by omega), List.take_take, Nat.min_eq_left (by omega), e2]
  have e6 : (cur.take (a + X.length) ++ (F.drop a ++ cur.drop (N + X.length))).drop (a + X.length) = F.drop a ++ cur.drop (N + X.length) := by
    rw [List.drop_append_of_le_length (by omega), List.drop_of_length_le (by omega), List.nil_append]
  rw [e5, e6, ← List.append_assoc, ← List.append_assoc, List.take_append_of_le_length (by simp; omega), List.take_of_length_le (by simp; omega)]
/-- Put first, the rest behind it. -/
theorem splice_grow {α : Type} (cur F X : List α) (a N k : Nat) (hF : F.length = N) (hX : X.length = k) (ha : a ≤ N) (hc : N + k ≤ cur.length) (ht : cur.take a = F.take a) :
    (splice (splice cur a X) (a + k) (F.drop a)).take (N + k) = F.take a ++ X ++ F.drop a := by
  subst hX
  have e1 : (F.drop a).length = N - a := by rw [List.length_drop, hF]
  have e0 : (F.take a).length = a := by rw [List.length_take]; omega
  have e4 : splice cur a X = (F.take a ++ X) ++ cur.drop (a + X.length) := by unfold splice; rw [ht, List.append_assoc]
  rw [e4]
  unfold splice
  have e5 : ((F.take a ++ X) ++ cur.drop (a + X.length)).take (a + X.length) = F.take a ++ X := by
    rw [List.take_append_of_le_length (by simp; omega), List.take_of_length_le (by simp; omega)]
  rw [e5, ← List.append_assoc, List.take_append_of_le_length (by simp; omega), List.take_of_length_le (by simp; omega)]
/-- A list with one put in. -/
def put (M : List Kd) (a : Nat) (x : Kd) : List Kd := M.take a ++ [x] ++ M.drop a
theorem put_len (M : List Kd) (a : Nat) (x : Kd) : (put M a x).length = M.length + 1 := by
  unfold put
  simp
  omega
theorem put_end (M : List Kd) (x : Kd) : put M M.length x = M ++ [x] := by simp [put]
/-- The cells of a kid. -/
def c3 (x : Kd) : List Value := [.int .i64 x.1, .int .i64 x.2.1, .int .i64 x.2.2]
theorem fl_put (M : List Kd) (a : Nat) (x : Kd) : fl (put M a x) = (fl M).take (a * 3) ++ c3 x ++ (fl M).drop (a * 3) := by
  unfold put
  rw [fl_append, fl_append, fl_take, fl_drop]
  rfl
theorem over_no {w : World} (a b : Addr) (la ca lb cb : Nat) (hne : a.block ≠ b.block) (tA tB : TypeId) (kA kB : Nat)
    (hsa : w.shape? a.block = some (tA, kA)) (hsb : w.shape? b.block = some (tB, kB)) (hkB : kB ≠ 0) (hfa : w.frozen? a = false) (hfe : w.frozen? { block := a.block, off := kA } = false) :
    (callFunc 45 #[.slice (some a) la ca, .slice (some b) lb cb]).run Tryd.prog w = .ok (.value (.bool false)) w := by
  obtain ⟨j, hj, hz0, hz1, hz2⟩ := info_parts info45
  rw [run_callFunc_extern (e := Extern.SlicesOverlaps.overlaps #[22, 22] #[4]) Tryd.func45 (by kernel_rfl) (by kernel_rfl) (by kernel_rfl) (by kernel_rfl)]
  rw [Lib.run_overlaps_apart w 22 4 45 Tryd.underlying22 3 (fun w => by simp [sizeOf, typeInfo, hj, hz1]) a b la ca lb cb hne tA tB kA kB hsa hsb hkB hfa hfe]
  rfl
end Go.Proofs.YtgglnhnokhpnpaaDoor
