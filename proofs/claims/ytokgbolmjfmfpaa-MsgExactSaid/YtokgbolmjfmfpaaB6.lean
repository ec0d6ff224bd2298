/- The region of msg.Same, whatever order it draws; walk of msg.Same. -/
import Derived.Test.YtokgbolmjfmfpaaB5
import Derived.Test.YtokgbolmjfmfpaaM1
namespace Go.Proofs.Ytokgbolmjfmfpaa
open Go.RowKit

def oS0 (p : String) : Oper := { dst := some 5, op := Op.load 24 (Operand.tmp 2), type := 24, pos := p, after := #[], guard := none }
def oS1 (p : String) : Oper := { dst := some 6, op := Op.call { callee := Callee.value (Operand.func 27), args := #[Operand.tmp 5], argTypes := #[24] }, type := 40, pos := p, after := #[{ on := 0, ground := Ground.data }], guard := none }
def oS2 (p : String) : Oper := { dst := some 7, op := Op.load 24 (Operand.tmp 3), type := 24, pos := p, after := #[], guard := none }
def oS3 (p : String) : Oper := { dst := some 8, op := Op.call { callee := Callee.value (Operand.func 27), args := #[Operand.tmp 7], argTypes := #[24] }, type := 40, pos := p, after := #[{ on := 2, ground := Ground.data }, { on := 1, ground := Ground.chain }], guard := none }
def oS4 (p : String) : Oper := { dst := some 9, op := Op.binOp BinOp.eql 40 (Operand.tmp 6) (Operand.tmp 8) 40, type := 4, pos := p, after := #[{ on := 1, ground := Ground.data }, { on := 3, ground := Ground.data }], guard := none }
def oS5 (p : String) : Oper := { dst := some 10, op := Op.move (Operand.tmp 9), type := 4, pos := p, after := #[{ on := 4, ground := Ground.data }, { on := 3, ground := Ground.chain }], guard := none }
def oS6 (p : String) : Oper := { dst := some 11, op := Op.fieldAddr 24 (Operand.tmp 2) 14, type := 0, pos := p, after := #[{ on := 5, ground := Ground.guard }], guard := some (5, true) }
def oS7 (p : String) : Oper := { dst := some 12, op := Op.load 22 (Operand.tmp 11), type := 22, pos := p, after := #[{ on := 6, ground := Ground.data }, { on := 5, ground := Ground.guard }], guard := some (5, true) }
def oS8 (p : String) : Oper := { dst := some 13, op := Op.fieldAddr 24 (Operand.tmp 3) 14, type := 0, pos := p, after := #[{ on := 5, ground := Ground.guard }], guard := some (5, true) }
def oS9 (p : String) : Oper := { dst := some 14, op := Op.load 22 (Operand.tmp 13), type := 22, pos := p, after := #[{ on := 8, ground := Ground.data }, { on := 5, ground := Ground.guard }], guard := some (5, true) }
def oS10 (p : String) : Oper := { dst := some 15, op := Op.call { callee := Callee.value (Operand.func 28), args := #[Operand.tmp 12, Operand.tmp 14], argTypes := #[22, 22] }, type := 4, pos := p, after := #[{ on := 7, ground := Ground.data }, { on := 9, ground := Ground.data }, { on := 5, ground := Ground.chain }, { on := 5, ground := Ground.guard }], guard := some (5, true) }
def oS11 (p : String) : Oper := { dst := some 16, op := Op.pick (Operand.tmp 10) (Operand.tmp 15) (Operand.const (Value.bool false)), type := 4, pos := p, after := #[{ on := 5, ground := Ground.data }, { on := 10, ground := Ground.data }], guard := none }
def oS12 (p : String) : Oper := { dst := some 17, op := Op.move (Operand.tmp 16), type := 4, pos := p, after := #[{ on := 11, ground := Ground.data }, { on := 10, ground := Ground.chain }], guard := none }
def oS13 (p : String) : Oper := { dst := some 18, op := Op.fieldAddr 24 (Operand.tmp 2) 15, type := 0, pos := p, after := #[{ on := 12, ground := Ground.guard }], guard := some (12, true) }
def oS14 (p : String) : Oper := { dst := some 19, op := Op.load 22 (Operand.tmp 18), type := 22, pos := p, after := #[{ on := 13, ground := Ground.data }, { on := 12, ground := Ground.guard }], guard := some (12, true) }
def oS15 (p : String) : Oper := { dst := some 20, op := Op.fieldAddr 24 (Operand.tmp 3) 15, type := 0, pos := p, after := #[{ on := 12, ground := Ground.guard }], guard := some (12, true) }
def oS16 (p : String) : Oper := { dst := some 21, op := Op.load 22 (Operand.tmp 20), type := 22, pos := p, after := #[{ on := 15, ground := Ground.data }, { on := 12, ground := Ground.guard }], guard := some (12, true) }
def oS17 (p : String) : Oper := { dst := some 22, op := Op.call { callee := Callee.value (Operand.func 28), args := #[Operand.tmp 19, Operand.tmp 21], argTypes := #[22, 22] }, type := 4, pos := p, after := #[{ on := 14, ground := Ground.data }, { on := 16, ground := Ground.data }, { on := 12, ground := Ground.chain }, { on := 12, ground := Ground.guard }], guard := some (12, true) }
def oS18 (p : String) : Oper := { dst := some 23, op := Op.pick (Operand.tmp 17) (Operand.tmp 22) (Operand.const (Value.bool false)), type := 4, pos := p, after := #[{ on := 12, ground := Ground.data }, { on := 17, ground := Ground.data }], guard := none }
def oS19 (p : String) : Oper := { dst := some 4, op := Op.assign (Operand.tmp 23), type := 4, pos := p, after := #[{ on := 18, ground := Ground.data }, { on := 17, ground := Ground.chain }, { on := 0, ground := Ground.phase }, { on := 1, ground := Ground.phase }, { on := 2, ground := Ground.phase }, { on := 3, ground := Ground.phase }, { on := 4, ground := Ground.phase }, { on := 5, ground := Ground.phase }, { on := 6, ground := Ground.phase }, { on := 7, ground := Ground.phase }, { on := 8, ground := Ground.phase }, { on := 9, ground := Ground.phase }, { on := 10, ground := Ground.phase }, { on := 11, ground := Ground.phase }, { on := 12, ground := Ground.phase }, { on := 13, ground := Ground.phase }, { on := 14, ground := Ground.phase }, { on := 15, ground := Ground.phase }, { on := 16, ground := Ground.phase }, { on := 17, ground := Ground.phase }, { on := 18, ground := Ground.phase }], guard := none }
def opsS (p : String) : Array Oper := #[oS0 p, oS1 p, oS2 p, oS3 p, oS4 p, oS5 p, oS6 p, oS7 p, oS8 p, oS9 p, oS10 p, oS11 p, oS12 p, oS13 p, oS14 p, oS15 p, oS16 p, oS17 p, oS18 p, oS19 p]
def acS (u0 u1 u2 u3 u4 : Value) : Act := { tmps := #[u0, u1, u2, u3, u4, undef, undef, undef, undef, undef, undef, undef, undef, undef, undef, undef, undef, undef, undef, undef, undef, undef, undef, undef], defers := [] }
def acT (v0 v1 v2 v3 v4 v5 v6 v7 v8 v9 v10 v11 v12 v13 v14 v15 v16 v17 v18 v19 v20 v21 v22 v23 : Value) : Act := { tmps := #[v0, v1, v2, v3, v4, v5, v6, v7, v8, v9, v10, v11, v12, v13, v14, v15, v16, v17, v18, v19, v20, v21, v22, v23], defers := [] }
theorem reAct {md : Region.Mode} {ops : Array Oper} {Q : Exit → Act → World → Prop} {S : World → Prop} {fuel : Nat} {l l' : Array Bool} {a a' : Act} {w : World} (h : a = a') (hl : l = l') (k : wpAnyH Try.prog md ops Q S fuel l' a' w) : wpAnyH Try.prog md ops Q S fuel l a w := by
  subst h
  subst hl
  exact k
theorem run_field24 (i : Nat) (hi : i = 14 ∨ i = 15) (w : World) (o : Oper) (x : Operand) (ho : o.op = .fieldAddr 24 x i) (a : Act) (g : Nat) (hx : a.eval x = .pointer (some ⟨g, 0, none⟩)) :
    (execOp a.eval o).run Try.prog w = .ok (.value (.pointer (some ⟨g, i, none⟩))) w := by
  unfold execOp
  rcases hi with rfl | rfl
  all_goals
    simp only [ho, hx]
    simp [go_sem]
theorem run_load22 (w : World) (o : Oper) (x : Operand) (ho : o.op = .load 22 x) (a : Act) (ad : Addr) (hx : a.eval x = .pointer (some ad)) (v : Value) (hc : w.cell? ad = some v) :
    (execOp a.eval o).run Try.prog w = .ok (.value v) w := by
  unfold execOp
  simp only [ho, hx]
  simp [go_sem, hc]
theorem run_eq40 (w : World) (o : Oper) (x y : Operand) (ho : o.op = .binOp .eql 40 x y 40) (a : Act) (u v : Array Value) (hx : a.eval x = .agg u) (hy : a.eval y = .agg v) (b : Bool) (h : ∀ w, (binOp .eql 40 (.agg u) (.agg v)).run Try.prog w = .ok (.bool b) w) :
    (execOp a.eval o).run Try.prog w = .ok (.value (.bool b)) w := by
  unfold execOp
  simp only [ho, hx, hy]
  simp [go_sem, h]
theorem run_call2 (f : FuncId) (hf : ∀ args w, (callFunc f args).run Try.prog w = .ok (.enter f args) w) (w : World) (o : Oper) (x y : Operand) (t u : TypeId) (ho : o.op = .call { callee := .value (.func f), args := #[x, y], argTypes := #[t, u] }) (a : Act) (v v' : Value) (hx : a.eval x = v) (hy : a.eval y = v') :
    (execOp a.eval o).run Try.prog w = .ok (.enter f #[v, v']) w := by
  unfold execOp
  simp only [ho]
  simp [resolve, invoke, hx, hy]
  simp [Act.eval, Deferred.ofValue, hf]
theorem call28 : ∀ args w, (callFunc 28 args).run Try.prog w = .ok (.enter 28 args) w := enters_of Try.func28 (by kernel_rfl) rfl
set_option maxRecDepth 100000 in
set_option maxHeartbeats 1000000 in
theorem regS {Q : Exit → Act → World → Prop} (id : Nat) (p : String) (u0 u1 u4 : Value) (g2 g3 : Nat) (cA cB aA aB : Array Value) (pa ta pb tb : Value) (x1 x2 x3 : Bool) (w : World)
    (hg2 : w.heap[g2]? = some (.cells cA 24)) (hg3 : w.heap[g3]? = some (.cells cB 24)) (sA : cA.size = 16) (sB : cB.size = 16)
    (c1 : ∀ w, Calls Try.prog 27 #[.agg cA] w fun e w' => e = .returned (.agg aA) ∧ Below w.heap.size w w') (c2 : ∀ w, Calls Try.prog 27 #[.agg cB] w fun e w' => e = .returned (.agg aB) ∧ Below w.heap.size w w')
    (e1 : ∀ w, (binOp .eql 40 (.agg aA) (.agg aB)).run Try.prog w = .ok (.bool x1) w) (kA : cA[14]? = some pa) (tA : cA[15]? = some ta) (kB : cB[14]? = some pb) (tB : cB[15]? = some tb)
    (c3 : ∀ w', Below w.heap.size w w' → Calls Try.prog 28 #[pa, pb] w' fun e w'' => e = .returned (.bool x2) ∧ Below w'.heap.size w' w'')
    (c4 : ∀ w', Below w.heap.size w w' → Calls Try.prog 28 #[ta, tb] w' fun e w'' => e = .returned (.bool x3) ∧ Below w'.heap.size w' w'')
    (h : ∀ a' w', a'.tmps.getD 4 undef = .bool (x1 && x2 && x3) → a'.defers = [] → Below w.heap.size w w' → Q .normal a' w') :
    (Code.region id (opsS p) true).wp Try.prog Q (acS u0 u1 (.pointer (some ⟨g2, 0, none⟩)) (.pointer (some ⟨g3, 0, none⟩)) u4) w := by
  have b2 : g2 < w.heap.size := (Array.getElem?_eq_some_iff.1 hg2).1
  have b3 : g3 < w.heap.size := (Array.getElem?_eq_some_iff.1 hg3).1
  refine wp_region_noPanic ?_
  have hQ : ∀ c a d v w, NoPanic Q (.panic c) (a.put d v) w → NoPanic Q (.panic c) a w := fun _ _ _ _ _ h => h
  have B0 : Below w.heap.size w w.drew := (Below.refl _ w).drew
  refine wp_region_held (S := fun w' => Below w.heap.size w w') (by kernel_rfl) ?_
  refine wpAnyH_take (i := 0) (v := .agg cA) rfl (by kernel_rfl) (by kernel_rfl) (by kernel_rfl) (fun c a w => hQ c a _ _ w) (.inl ⟨by kernel_rfl, fun w' hS => run_load24 w' g2 cA ((hS.block g2 b2).trans hg2) sA _ _ rfl _ (by kernel_rfl)⟩) B0 ?_
  refine reAct (a' := acT u0 u1 (.pointer (some ⟨g2, 0, none⟩)) (.pointer (some ⟨g3, 0, none⟩)) u4 (.agg cA) undef undef undef undef undef undef undef undef undef undef undef undef undef undef undef undef undef undef) (l' := #[true, false, false, false, false, false, false, false, false, false, false, false, false, false, false, false, false, false, false, false]) (by kernel_rfl) (by kernel_rfl) ?_
  refine wpAnyH_take (i := 2) (v := .agg cB) rfl (by kernel_rfl) (by kernel_rfl) (by kernel_rfl) (fun c a w => hQ c a _ _ w) (.inl ⟨by kernel_rfl, fun w' hS => run_load24 w' g3 cB ((hS.block g3 b3).trans hg3) sB _ _ rfl _ (by kernel_rfl)⟩) B0 ?_
  refine reAct (a' := acT u0 u1 (.pointer (some ⟨g2, 0, none⟩)) (.pointer (some ⟨g3, 0, none⟩)) u4 (.agg cA) undef (.agg cB) undef undef undef undef undef undef undef undef undef undef undef undef undef undef undef undef) (l' := #[true, false, true, false, false, false, false, false, false, false, false, false, false, false, false, false, false, false, false, false]) (by kernel_rfl) (by kernel_rfl) ?_
  refine wpAnyH_all (rs := [1]) (by kernel_rfl) (by simp) ?_
  intro i hi
  obtain rfl : i = 1 := by simpa using hi
  refine wpOp_call (o := oS1 p) rfl (by kernel_rfl) 27 #[.agg cA] (.agg aA) (run_call1 27 call27 _ _ _ _ rfl _ _ (by kernel_rfl)) (c1 _) ?_
  intro y1 by1
  have By1 := below_of B0 by1
  refine ⟨By1, ?_⟩
  refine reAct (a' := acT u0 u1 (.pointer (some ⟨g2, 0, none⟩)) (.pointer (some ⟨g3, 0, none⟩)) u4 (.agg cA) (.agg aA) (.agg cB) undef undef undef undef undef undef undef undef undef undef undef undef undef undef undef undef) (l' := #[true, true, true, false, false, false, false, false, false, false, false, false, false, false, false, false, false, false, false, false]) (by kernel_rfl) (by kernel_rfl) ?_
  refine wpAnyH_all (rs := [3]) (by kernel_rfl) (by simp) ?_
  intro i hi
  obtain rfl : i = 3 := by simpa using hi
  refine wpOp_call (o := oS3 p) rfl (by kernel_rfl) 27 #[.agg cB] (.agg aB) (run_call1 27 call27 _ _ _ _ rfl _ _ (by kernel_rfl)) (c2 _) ?_
  intro y2 by2
  have By2 := below_of By1 by2
  refine ⟨By2, ?_⟩
  refine reAct (a' := acT u0 u1 (.pointer (some ⟨g2, 0, none⟩)) (.pointer (some ⟨g3, 0, none⟩)) u4 (.agg cA) (.agg aA) (.agg cB) (.agg aB) undef undef undef undef undef undef undef undef undef undef undef undef undef undef undef) (l' := #[true, true, true, true, false, false, false, false, false, false, false, false, false, false, false, false, false, false, false, false]) (by kernel_rfl) (by kernel_rfl) ?_
  cases x1 with
  | false =>
    refine wpAnyH_take (i := 4) (v := .bool false) rfl (by kernel_rfl) (by kernel_rfl) (by kernel_rfl) (fun c a w => hQ c a _ _ w) (.inl ⟨by kernel_rfl, fun w' hS => run_eq40 w' _ _ _ rfl _ aA aB (by kernel_rfl) (by kernel_rfl) _ e1⟩) By2 ?_
    refine reAct (a' := acT u0 u1 (.pointer (some ⟨g2, 0, none⟩)) (.pointer (some ⟨g3, 0, none⟩)) u4 (.agg cA) (.agg aA) (.agg cB) (.agg aB) (.bool false) undef undef undef undef undef undef undef undef undef undef undef undef undef undef) (l' := #[true, true, true, true, true, false, false, false, false, false, false, false, false, false, false, false, false, false, false, false]) (by kernel_rfl) (by kernel_rfl) ?_
    refine wpAnyH_take (i := 5) (v := .bool false) rfl (by kernel_rfl) (by kernel_rfl) (by kernel_rfl) (fun c a w => hQ c a _ _ w) (.inl ⟨by kernel_rfl, fun w' hS => (by kernel_rfl)⟩) By2 ?_
    refine reAct (a' := acT u0 u1 (.pointer (some ⟨g2, 0, none⟩)) (.pointer (some ⟨g3, 0, none⟩)) u4 (.agg cA) (.agg aA) (.agg cB) (.agg aB) (.bool false) (.bool false) undef undef undef undef undef undef undef undef undef undef undef undef undef) (l' := #[true, true, true, true, true, true, false, false, false, false, false, false, false, false, false, false, false, false, false, false]) (by kernel_rfl) (by kernel_rfl) ?_
    refine wpAnyH_take (i := 6) (v := undef) rfl (by kernel_rfl) (by kernel_rfl) (by kernel_rfl) (fun c a w => hQ c a _ _ w) (.inr ⟨by kernel_rfl, rfl⟩) By2 ?_
    refine reAct (a' := acT u0 u1 (.pointer (some ⟨g2, 0, none⟩)) (.pointer (some ⟨g3, 0, none⟩)) u4 (.agg cA) (.agg aA) (.agg cB) (.agg aB) (.bool false) (.bool false) undef undef undef undef undef undef undef undef undef undef undef undef undef) (l' := #[true, true, true, true, true, true, true, false, false, false, false, false, false, false, false, false, false, false, false, false]) (by kernel_rfl) (by kernel_rfl) ?_
    refine wpAnyH_take (i := 7) (v := undef) rfl (by kernel_rfl) (by kernel_rfl) (by kernel_rfl) (fun c a w => hQ c a _ _ w) (.inr ⟨by kernel_rfl, rfl⟩) By2 ?_
    refine reAct (a' := acT u0 u1 (.pointer (some ⟨g2, 0, none⟩)) (.pointer (some ⟨g3, 0, none⟩)) u4 (.agg cA) (.agg aA) (.agg cB) (.agg aB) (.bool false) (.bool false) undef undef undef undef undef undef undef undef undef undef undef undef undef) (l' := #[true, true, true, true, true, true, true, true, false, false, false, false, false, false, false, false, false, false, false, false]) (by kernel_rfl) (by kernel_rfl) ?_
    refine wpAnyH_take (i := 8) (v := undef) rfl (by kernel_rfl) (by kernel_rfl) (by kernel_rfl) (fun c a w => hQ c a _ _ w) (.inr ⟨by kernel_rfl, rfl⟩) By2 ?_
    refine reAct (a' := acT u0 u1 (.pointer (some ⟨g2, 0, none⟩)) (.pointer (some ⟨g3, 0, none⟩)) u4 (.agg cA) (.agg aA) (.agg cB) (.agg aB) (.bool false) (.bool false) undef undef undef undef undef undef undef undef undef undef undef undef undef) (l' := #[true, true, true, true, true, true, true, true, true, false, false, false, false, false, false, false, false, false, false, false]) (by kernel_rfl) (by kernel_rfl) ?_
    refine wpAnyH_take (i := 9) (v := undef) rfl (by kernel_rfl) (by kernel_rfl) (by kernel_rfl) (fun c a w => hQ c a _ _ w) (.inr ⟨by kernel_rfl, rfl⟩) By2 ?_
    refine reAct (a' := acT u0 u1 (.pointer (some ⟨g2, 0, none⟩)) (.pointer (some ⟨g3, 0, none⟩)) u4 (.agg cA) (.agg aA) (.agg cB) (.agg aB) (.bool false) (.bool false) undef undef undef undef undef undef undef undef undef undef undef undef undef) (l' := #[true, true, true, true, true, true, true, true, true, true, false, false, false, false, false, false, false, false, false, false]) (by kernel_rfl) (by kernel_rfl) ?_
    refine wpAnyH_take (i := 10) (v := undef) rfl (by kernel_rfl) (by kernel_rfl) (by kernel_rfl) (fun c a w => hQ c a _ _ w) (.inr ⟨by kernel_rfl, rfl⟩) By2 ?_
    refine reAct (a' := acT u0 u1 (.pointer (some ⟨g2, 0, none⟩)) (.pointer (some ⟨g3, 0, none⟩)) u4 (.agg cA) (.agg aA) (.agg cB) (.agg aB) (.bool false) (.bool false) undef undef undef undef undef undef undef undef undef undef undef undef undef) (l' := #[true, true, true, true, true, true, true, true, true, true, true, false, false, false, false, false, false, false, false, false]) (by kernel_rfl) (by kernel_rfl) ?_
    refine wpAnyH_take (i := 11) (v := .bool false) rfl (by kernel_rfl) (by kernel_rfl) (by kernel_rfl) (fun c a w => hQ c a _ _ w) (.inl ⟨by kernel_rfl, fun w' hS => (by kernel_rfl)⟩) By2 ?_
    refine reAct (a' := acT u0 u1 (.pointer (some ⟨g2, 0, none⟩)) (.pointer (some ⟨g3, 0, none⟩)) u4 (.agg cA) (.agg aA) (.agg cB) (.agg aB) (.bool false) (.bool false) undef undef undef undef undef (.bool false) undef undef undef undef undef undef undef) (l' := #[true, true, true, true, true, true, true, true, true, true, true, true, false, false, false, false, false, false, false, false]) (by kernel_rfl) (by kernel_rfl) ?_
    refine wpAnyH_take (i := 12) (v := .bool false) rfl (by kernel_rfl) (by kernel_rfl) (by kernel_rfl) (fun c a w => hQ c a _ _ w) (.inl ⟨by kernel_rfl, fun w' hS => (by kernel_rfl)⟩) By2 ?_
    refine reAct (a' := acT u0 u1 (.pointer (some ⟨g2, 0, none⟩)) (.pointer (some ⟨g3, 0, none⟩)) u4 (.agg cA) (.agg aA) (.agg cB) (.agg aB) (.bool false) (.bool false) undef undef undef undef undef (.bool false) (.bool false) undef undef undef undef undef undef) (l' := #[true, true, true, true, true, true, true, true, true, true, true, true, true, false, false, false, false, false, false, false]) (by kernel_rfl) (by kernel_rfl) ?_
    refine wpAnyH_take (i := 13) (v := undef) rfl (by kernel_rfl) (by kernel_rfl) (by kernel_rfl) (fun c a w => hQ c a _ _ w) (.inr ⟨by kernel_rfl, rfl⟩) By2 ?_
    refine reAct (a' := acT u0 u1 (.pointer (some ⟨g2, 0, none⟩)) (.pointer (some ⟨g3, 0, none⟩)) u4 (.agg cA) (.agg aA) (.agg cB) (.agg aB) (.bool false) (.bool false) undef undef undef undef undef (.bool false) (.bool false) undef undef undef undef undef undef) (l' := #[true, true, true, true, true, true, true, true, true, true, true, true, true, true, false, false, false, false, false, false]) (by kernel_rfl) (by kernel_rfl) ?_
    refine wpAnyH_take (i := 14) (v := undef) rfl (by kernel_rfl) (by kernel_rfl) (by kernel_rfl) (fun c a w => hQ c a _ _ w) (.inr ⟨by kernel_rfl, rfl⟩) By2 ?_
    refine reAct (a' := acT u0 u1 (.pointer (some ⟨g2, 0, none⟩)) (.pointer (some ⟨g3, 0, none⟩)) u4 (.agg cA) (.agg aA) (.agg cB) (.agg aB) (.bool false) (.bool false) undef undef undef undef undef (.bool false) (.bool false) undef undef undef undef undef undef) (l' := #[true, true, true, true, true, true, true, true, true, true, true, true, true, true, true, false, false, false, false, false]) (by kernel_rfl) (by kernel_rfl) ?_
    refine wpAnyH_take (i := 15) (v := undef) rfl (by kernel_rfl) (by kernel_rfl) (by kernel_rfl) (fun c a w => hQ c a _ _ w) (.inr ⟨by kernel_rfl, rfl⟩) By2 ?_
    refine reAct (a' := acT u0 u1 (.pointer (some ⟨g2, 0, none⟩)) (.pointer (some ⟨g3, 0, none⟩)) u4 (.agg cA) (.agg aA) (.agg cB) (.agg aB) (.bool false) (.bool false) undef undef undef undef undef (.bool false) (.bool false) undef undef undef undef undef undef) (l' := #[true, true, true, true, true, true, true, true, true, true, true, true, true, true, true, true, false, false, false, false]) (by kernel_rfl) (by kernel_rfl) ?_
    refine wpAnyH_take (i := 16) (v := undef) rfl (by kernel_rfl) (by kernel_rfl) (by kernel_rfl) (fun c a w => hQ c a _ _ w) (.inr ⟨by kernel_rfl, rfl⟩) By2 ?_
    refine reAct (a' := acT u0 u1 (.pointer (some ⟨g2, 0, none⟩)) (.pointer (some ⟨g3, 0, none⟩)) u4 (.agg cA) (.agg aA) (.agg cB) (.agg aB) (.bool false) (.bool false) undef undef undef undef undef (.bool false) (.bool false) undef undef undef undef undef undef) (l' := #[true, true, true, true, true, true, true, true, true, true, true, true, true, true, true, true, true, false, false, false]) (by kernel_rfl) (by kernel_rfl) ?_
    refine wpAnyH_take (i := 17) (v := undef) rfl (by kernel_rfl) (by kernel_rfl) (by kernel_rfl) (fun c a w => hQ c a _ _ w) (.inr ⟨by kernel_rfl, rfl⟩) By2 ?_
    refine reAct (a' := acT u0 u1 (.pointer (some ⟨g2, 0, none⟩)) (.pointer (some ⟨g3, 0, none⟩)) u4 (.agg cA) (.agg aA) (.agg cB) (.agg aB) (.bool false) (.bool false) undef undef undef undef undef (.bool false) (.bool false) undef undef undef undef undef undef) (l' := #[true, true, true, true, true, true, true, true, true, true, true, true, true, true, true, true, true, true, false, false]) (by kernel_rfl) (by kernel_rfl) ?_
    refine wpAnyH_take (i := 18) (v := .bool false) rfl (by kernel_rfl) (by kernel_rfl) (by kernel_rfl) (fun c a w => hQ c a _ _ w) (.inl ⟨by kernel_rfl, fun w' hS => (by kernel_rfl)⟩) By2 ?_
    refine reAct (a' := acT u0 u1 (.pointer (some ⟨g2, 0, none⟩)) (.pointer (some ⟨g3, 0, none⟩)) u4 (.agg cA) (.agg aA) (.agg cB) (.agg aB) (.bool false) (.bool false) undef undef undef undef undef (.bool false) (.bool false) undef undef undef undef undef (.bool false)) (l' := #[true, true, true, true, true, true, true, true, true, true, true, true, true, true, true, true, true, true, true, false]) (by kernel_rfl) (by kernel_rfl) ?_
    refine wpAnyH_take (i := 19) (v := .bool false) rfl (by kernel_rfl) (by kernel_rfl) (by kernel_rfl) (fun c a w => hQ c a _ _ w) (.inl ⟨by kernel_rfl, fun w' hS => (by kernel_rfl)⟩) By2 ?_
    refine reAct (a' := acT u0 u1 (.pointer (some ⟨g2, 0, none⟩)) (.pointer (some ⟨g3, 0, none⟩)) (.bool false) (.agg cA) (.agg aA) (.agg cB) (.agg aB) (.bool false) (.bool false) undef undef undef undef undef (.bool false) (.bool false) undef undef undef undef undef (.bool false)) (l' := #[true, true, true, true, true, true, true, true, true, true, true, true, true, true, true, true, true, true, true, true]) (by kernel_rfl) (by kernel_rfl) ?_
    exact wpAnyH_done (by kernel_rfl) (NoPanic.normal (h _ _ (by kernel_rfl) (by kernel_rfl) By2)) _
  | true =>
    cases x2 with
    | false =>
      refine wpAnyH_take (i := 4) (v := .bool true) rfl (by kernel_rfl) (by kernel_rfl) (by kernel_rfl) (fun c a w => hQ c a _ _ w) (.inl ⟨by kernel_rfl, fun w' hS => run_eq40 w' _ _ _ rfl _ aA aB (by kernel_rfl) (by kernel_rfl) _ e1⟩) By2 ?_
      refine reAct (a' := acT u0 u1 (.pointer (some ⟨g2, 0, none⟩)) (.pointer (some ⟨g3, 0, none⟩)) u4 (.agg cA) (.agg aA) (.agg cB) (.agg aB) (.bool true) undef undef undef undef undef undef undef undef undef undef undef undef undef undef) (l' := #[true, true, true, true, true, false, false, false, false, false, false, false, false, false, false, false, false, false, false, false]) (by kernel_rfl) (by kernel_rfl) ?_
      refine wpAnyH_take (i := 5) (v := .bool true) rfl (by kernel_rfl) (by kernel_rfl) (by kernel_rfl) (fun c a w => hQ c a _ _ w) (.inl ⟨by kernel_rfl, fun w' hS => (by kernel_rfl)⟩) By2 ?_
      refine reAct (a' := acT u0 u1 (.pointer (some ⟨g2, 0, none⟩)) (.pointer (some ⟨g3, 0, none⟩)) u4 (.agg cA) (.agg aA) (.agg cB) (.agg aB) (.bool true) (.bool true) undef undef undef undef undef undef undef undef undef undef undef undef undef) (l' := #[true, true, true, true, true, true, false, false, false, false, false, false, false, false, false, false, false, false, false, false]) (by kernel_rfl) (by kernel_rfl) ?_
      refine wpAnyH_take (i := 6) (v := (.pointer (some ⟨g2, 14, none⟩))) rfl (by kernel_rfl) (by kernel_rfl) (by kernel_rfl) (fun c a w => hQ c a _ _ w) (.inl ⟨by kernel_rfl, fun w' hS => run_field24 14 (.inl rfl) w' _ _ rfl _ g2 (by kernel_rfl)⟩) By2 ?_
      refine reAct (a' := acT u0 u1 (.pointer (some ⟨g2, 0, none⟩)) (.pointer (some ⟨g3, 0, none⟩)) u4 (.agg cA) (.agg aA) (.agg cB) (.agg aB) (.bool true) (.bool true) (.pointer (some ⟨g2, 14, none⟩)) undef undef undef undef undef undef undef undef undef undef undef undef) (l' := #[true, true, true, true, true, true, true, false, false, false, false, false, false, false, false, false, false, false, false, false]) (by kernel_rfl) (by kernel_rfl) ?_
      refine wpAnyH_take (i := 7) (v := pa) rfl (by kernel_rfl) (by kernel_rfl) (by kernel_rfl) (fun c a w => hQ c a _ _ w) (.inl ⟨by kernel_rfl, fun w' hS => run_load22 w' _ _ rfl _ ⟨g2, 14, none⟩ (by kernel_rfl) pa (mv_cell ((hS.block g2 b2).trans hg2) 14 pa kA)⟩) By2 ?_
      refine reAct (a' := acT u0 u1 (.pointer (some ⟨g2, 0, none⟩)) (.pointer (some ⟨g3, 0, none⟩)) u4 (.agg cA) (.agg aA) (.agg cB) (.agg aB) (.bool true) (.bool true) (.pointer (some ⟨g2, 14, none⟩)) pa undef undef undef undef undef undef undef undef undef undef undef) (l' := #[true, true, true, true, true, true, true, true, false, false, false, false, false, false, false, false, false, false, false, false]) (by kernel_rfl) (by kernel_rfl) ?_
      refine wpAnyH_take (i := 8) (v := (.pointer (some ⟨g3, 14, none⟩))) rfl (by kernel_rfl) (by kernel_rfl) (by kernel_rfl) (fun c a w => hQ c a _ _ w) (.inl ⟨by kernel_rfl, fun w' hS => run_field24 14 (.inl rfl) w' _ _ rfl _ g3 (by kernel_rfl)⟩) By2 ?_
      refine reAct (a' := acT u0 u1 (.pointer (some ⟨g2, 0, none⟩)) (.pointer (some ⟨g3, 0, none⟩)) u4 (.agg cA) (.agg aA) (.agg cB) (.agg aB) (.bool true) (.bool true) (.pointer (some ⟨g2, 14, none⟩)) pa (.pointer (some ⟨g3, 14, none⟩)) undef undef undef undef undef undef undef undef undef undef) (l' := #[true, true, true, true, true, true, true, true, true, false, false, false, false, false, false, false, false, false, false, false]) (by kernel_rfl) (by kernel_rfl) ?_
      refine wpAnyH_take (i := 9) (v := pb) rfl (by kernel_rfl) (by kernel_rfl) (by kernel_rfl) (fun c a w => hQ c a _ _ w) (.inl ⟨by kernel_rfl, fun w' hS => run_load22 w' _ _ rfl _ ⟨g3, 14, none⟩ (by kernel_rfl) pb (mv_cell ((hS.block g3 b3).trans hg3) 14 pb kB)⟩) By2 ?_
      refine reAct (a' := acT u0 u1 (.pointer (some ⟨g2, 0, none⟩)) (.pointer (some ⟨g3, 0, none⟩)) u4 (.agg cA) (.agg aA) (.agg cB) (.agg aB) (.bool true) (.bool true) (.pointer (some ⟨g2, 14, none⟩)) pa (.pointer (some ⟨g3, 14, none⟩)) pb undef undef undef undef undef undef undef undef undef) (l' := #[true, true, true, true, true, true, true, true, true, true, false, false, false, false, false, false, false, false, false, false]) (by kernel_rfl) (by kernel_rfl) ?_
      refine wpAnyH_all (rs := [10]) (by kernel_rfl) (by simp) ?_
      intro i hi
      obtain rfl : i = 10 := by simpa using hi
      refine wpOp_call (o := oS10 p) rfl (by kernel_rfl) 28 #[pa, pb] (.bool false) (run_call2 28 call28 _ _ _ _ _ _ rfl _ _ _ (by kernel_rfl) (by kernel_rfl)) (c3 _ By2) ?_
      intro y3 by3
      have By3 := below_of By2 by3
      refine ⟨By3, ?_⟩
      refine reAct (a' := acT u0 u1 (.pointer (some ⟨g2, 0, none⟩)) (.pointer (some ⟨g3, 0, none⟩)) u4 (.agg cA) (.agg aA) (.agg cB) (.agg aB) (.bool true) (.bool true) (.pointer (some ⟨g2, 14, none⟩)) pa (.pointer (some ⟨g3, 14, none⟩)) pb (.bool false) undef undef undef undef undef undef undef undef) (l' := #[true, true, true, true, true, true, true, true, true, true, true, false, false, false, false, false, false, false, false, false]) (by kernel_rfl) (by kernel_rfl) ?_
      refine wpAnyH_take (i := 11) (v := .bool false) rfl (by kernel_rfl) (by kernel_rfl) (by kernel_rfl) (fun c a w => hQ c a _ _ w) (.inl ⟨by kernel_rfl, fun w' hS => (by kernel_rfl)⟩) By3 ?_
      refine reAct (a' := acT u0 u1 (.pointer (some ⟨g2, 0, none⟩)) (.pointer (some ⟨g3, 0, none⟩)) u4 (.agg cA) (.agg aA) (.agg cB) (.agg aB) (.bool true) (.bool true) (.pointer (some ⟨g2, 14, none⟩)) pa (.pointer (some ⟨g3, 14, none⟩)) pb (.bool false) (.bool false) undef undef undef undef undef undef undef) (l' := #[true, true, true, true, true, true, true, true, true, true, true, true, false, false, false, false, false, false, false, false]) (by kernel_rfl) (by kernel_rfl) ?_
      refine wpAnyH_take (i := 12) (v := .bool false) rfl (by kernel_rfl) (by kernel_rfl) (by kernel_rfl) (fun c a w => hQ c a _ _ w) (.inl ⟨by kernel_rfl, fun w' hS => (by kernel_rfl)⟩) By3 ?_
      refine reAct (a' := acT u0 u1 (.pointer (some ⟨g2, 0, none⟩)) (.pointer (some ⟨g3, 0, none⟩)) u4 (.agg cA) (.agg aA) (.agg cB) (.agg aB) (.bool true) (.bool true) (.pointer (some ⟨g2, 14, none⟩)) pa (.pointer (some ⟨g3, 14, none⟩)) pb (.bool false) (.bool false) (.bool false) undef undef undef undef undef undef) (l' := #[true, true, true, true, true, true, true, true, true, true, true, true, true, false, false, false, false, false, false, false]) (by kernel_rfl) (by kernel_rfl) ?_
      refine wpAnyH_take (i := 13) (v := undef) rfl (by kernel_rfl) (by kernel_rfl) (by kernel_rfl) (fun c a w => hQ c a _ _ w) (.inr ⟨by kernel_rfl, rfl⟩) By3 ?_
      refine reAct (a' := acT u0 u1 (.pointer (some ⟨g2, 0, none⟩)) (.pointer (some ⟨g3, 0, none⟩)) u4 (.agg cA) (.agg aA) (.agg cB) (.agg aB) (.bool true) (.bool true) (.pointer (some ⟨g2, 14, none⟩)) pa (.pointer (some ⟨g3, 14, none⟩)) pb (.bool false) (.bool false) (.bool false) undef undef undef undef undef undef) (l' := #[true, true, true, true, true, true, true, true, true, true, true, true, true, true, false, false, false, false, false, false]) (by kernel_rfl) (by kernel_rfl) ?_
      refine wpAnyH_take (i := 14) (v := undef) rfl (by kernel_rfl) (by kernel_rfl) (by kernel_rfl) (fun c a w => hQ c a _ _ w) (.inr ⟨by kernel_rfl, rfl⟩) By3 ?_
      refine reAct (a' := acT u0 u1 (.pointer (some ⟨g2, 0, none⟩)) (.pointer (some ⟨g3, 0, none⟩)) u4 (.agg cA) (.agg aA) (.agg cB) (.agg aB) (.bool true) (.bool true) (.pointer (some ⟨g2, 14, none⟩)) pa (.pointer (some ⟨g3, 14, none⟩)) pb (.bool false) (.bool false) (.bool false) undef undef undef undef undef undef) (l' := #[true, true, true, true, true, true, true, true, true, true, true, true, true, true, true, false, false, false, false, false]) (by kernel_rfl) (by kernel_rfl) ?_
      refine wpAnyH_take (i := 15) (v := undef) rfl (by kernel_rfl) (by kernel_rfl) (by kernel_rfl) (fun c a w => hQ c a _ _ w) (.inr ⟨by kernel_rfl, rfl⟩) By3 ?_
      refine reAct (a' := acT u0 u1 (.pointer (some ⟨g2, 0, none⟩)) (.pointer (some ⟨g3, 0, none⟩)) u4 (.agg cA) (.agg aA) (.agg cB) (.agg aB) (.bool true) (.bool true) (.pointer (some ⟨g2, 14, none⟩)) pa (.pointer (some ⟨g3, 14, none⟩)) pb (.bool false) (.bool false) (.bool false) undef undef undef undef undef undef) (l' := #[true, true, true, true, true, true, true, true, true, true, true, true, true, true, true, true, false, false, false, false]) (by kernel_rfl) (by kernel_rfl) ?_
      refine wpAnyH_take (i := 16) (v := undef) rfl (by kernel_rfl) (by kernel_rfl) (by kernel_rfl) (fun c a w => hQ c a _ _ w) (.inr ⟨by kernel_rfl, rfl⟩) By3 ?_
      refine reAct (a' := acT u0 u1 (.pointer (some ⟨g2, 0, none⟩)) (.pointer (some ⟨g3, 0, none⟩)) u4 (.agg cA) (.agg aA) (.agg cB) (.agg aB) (.bool true) (.bool true) (.pointer (some ⟨g2, 14, none⟩)) pa (.pointer (some ⟨g3, 14, none⟩)) pb (.bool false) (.bool false) (.bool false) undef undef undef undef undef undef) (l' := #[true, true, true, true, true, true, true, true, true, true, true, true, true, true, true, true, true, false, false, false]) (by kernel_rfl) (by kernel_rfl) ?_
      refine wpAnyH_take (i := 17) (v := undef) rfl (by kernel_rfl) (by kernel_rfl) (by kernel_rfl) (fun c a w => hQ c a _ _ w) (.inr ⟨by kernel_rfl, rfl⟩) By3 ?_
      refine reAct (a' := acT u0 u1 (.pointer (some ⟨g2, 0, none⟩)) (.pointer (some ⟨g3, 0, none⟩)) u4 (.agg cA) (.agg aA) (.agg cB) (.agg aB) (.bool true) (.bool true) (.pointer (some ⟨g2, 14, none⟩)) pa (.pointer (some ⟨g3, 14, none⟩)) pb (.bool false) (.bool false) (.bool false) undef undef undef undef undef undef) (l' := #[true, true, true, true, true, true, true, true, true, true, true, true, true, true, true, true, true, true, false, false]) (by kernel_rfl) (by kernel_rfl) ?_
      refine wpAnyH_take (i := 18) (v := .bool false) rfl (by kernel_rfl) (by kernel_rfl) (by kernel_rfl) (fun c a w => hQ c a _ _ w) (.inl ⟨by kernel_rfl, fun w' hS => (by kernel_rfl)⟩) By3 ?_
      refine reAct (a' := acT u0 u1 (.pointer (some ⟨g2, 0, none⟩)) (.pointer (some ⟨g3, 0, none⟩)) u4 (.agg cA) (.agg aA) (.agg cB) (.agg aB) (.bool true) (.bool true) (.pointer (some ⟨g2, 14, none⟩)) pa (.pointer (some ⟨g3, 14, none⟩)) pb (.bool false) (.bool false) (.bool false) undef undef undef undef undef (.bool false)) (l' := #[true, true, true, true, true, true, true, true, true, true, true, true, true, true, true, true, true, true, true, false]) (by kernel_rfl) (by kernel_rfl) ?_
      refine wpAnyH_take (i := 19) (v := .bool false) rfl (by kernel_rfl) (by kernel_rfl) (by kernel_rfl) (fun c a w => hQ c a _ _ w) (.inl ⟨by kernel_rfl, fun w' hS => (by kernel_rfl)⟩) By3 ?_
      refine reAct (a' := acT u0 u1 (.pointer (some ⟨g2, 0, none⟩)) (.pointer (some ⟨g3, 0, none⟩)) (.bool false) (.agg cA) (.agg aA) (.agg cB) (.agg aB) (.bool true) (.bool true) (.pointer (some ⟨g2, 14, none⟩)) pa (.pointer (some ⟨g3, 14, none⟩)) pb (.bool false) (.bool false) (.bool false) undef undef undef undef undef (.bool false)) (l' := #[true, true, true, true, true, true, true, true, true, true, true, true, true, true, true, true, true, true, true, true]) (by kernel_rfl) (by kernel_rfl) ?_
      exact wpAnyH_done (by kernel_rfl) (NoPanic.normal (h _ _ (by kernel_rfl) (by kernel_rfl) By3)) _
    | true =>
      refine wpAnyH_take (i := 4) (v := .bool true) rfl (by kernel_rfl) (by kernel_rfl) (by kernel_rfl) (fun c a w => hQ c a _ _ w) (.inl ⟨by kernel_rfl, fun w' hS => run_eq40 w' _ _ _ rfl _ aA aB (by kernel_rfl) (by kernel_rfl) _ e1⟩) By2 ?_
      refine reAct (a' := acT u0 u1 (.pointer (some ⟨g2, 0, none⟩)) (.pointer (some ⟨g3, 0, none⟩)) u4 (.agg cA) (.agg aA) (.agg cB) (.agg aB) (.bool true) undef undef undef undef undef undef undef undef undef undef undef undef undef undef) (l' := #[true, true, true, true, true, false, false, false, false, false, false, false, false, false, false, false, false, false, false, false]) (by kernel_rfl) (by kernel_rfl) ?_
      refine wpAnyH_take (i := 5) (v := .bool true) rfl (by kernel_rfl) (by kernel_rfl) (by kernel_rfl) (fun c a w => hQ c a _ _ w) (.inl ⟨by kernel_rfl, fun w' hS => (by kernel_rfl)⟩) By2 ?_
      refine reAct (a' := acT u0 u1 (.pointer (some ⟨g2, 0, none⟩)) (.pointer (some ⟨g3, 0, none⟩)) u4 (.agg cA) (.agg aA) (.agg cB) (.agg aB) (.bool true) (.bool true) undef undef undef undef undef undef undef undef undef undef undef undef undef) (l' := #[true, true, true, true, true, true, false, false, false, false, false, false, false, false, false, false, false, false, false, false]) (by kernel_rfl) (by kernel_rfl) ?_
      refine wpAnyH_take (i := 6) (v := (.pointer (some ⟨g2, 14, none⟩))) rfl (by kernel_rfl) (by kernel_rfl) (by kernel_rfl) (fun c a w => hQ c a _ _ w) (.inl ⟨by kernel_rfl, fun w' hS => run_field24 14 (.inl rfl) w' _ _ rfl _ g2 (by kernel_rfl)⟩) By2 ?_
      refine reAct (a' := acT u0 u1 (.pointer (some ⟨g2, 0, none⟩)) (.pointer (some ⟨g3, 0, none⟩)) u4 (.agg cA) (.agg aA) (.agg cB) (.agg aB) (.bool true) (.bool true) (.pointer (some ⟨g2, 14, none⟩)) undef undef undef undef undef undef undef undef undef undef undef undef) (l' := #[true, true, true, true, true, true, true, false, false, false, false, false, false, false, false, false, false, false, false, false]) (by kernel_rfl) (by kernel_rfl) ?_
      refine wpAnyH_take (i := 7) (v := pa) rfl (by kernel_rfl) (by kernel_rfl) (by kernel_rfl) (fun c a w => hQ c a _ _ w) (.inl ⟨by kernel_rfl, fun w' hS => run_load22 w' _ _ rfl _ ⟨g2, 14, none⟩ (by kernel_rfl) pa (mv_cell ((hS.block g2 b2).trans hg2) 14 pa kA)⟩) By2 ?_
      refine reAct (a' := acT u0 u1 (.pointer (some ⟨g2, 0, none⟩)) (.pointer (some ⟨g3, 0, none⟩)) u4 (.agg cA) (.agg aA) (.agg cB) (.agg aB) (.bool true) (.bool true) (.pointer (some ⟨g2, 14, none⟩)) pa undef undef undef undef undef undef undef undef undef undef undef) (l' := #[true, true, true, true, true, true, true, true, false, false, false, false, false, false, false, false, false, false, false, false]) (by kernel_rfl) (by kernel_rfl) ?_
      refine wpAnyH_take (i := 8) (v := (.pointer (some ⟨g3, 14, none⟩))) rfl (by kernel_rfl) (by kernel_rfl) (by kernel_rfl) (fun c a w => hQ c a _ _ w) (.inl ⟨by kernel_rfl, fun w' hS => run_field24 14 (.inl rfl) w' _ _ rfl _ g3 (by kernel_rfl)⟩) By2 ?_
      refine reAct (a' := acT u0 u1 (.pointer (some ⟨g2, 0, none⟩)) (.pointer (some ⟨g3, 0, none⟩)) u4 (.agg cA) (.agg aA) (.agg cB) (.agg aB) (.bool true) (.bool true) (.pointer (some ⟨g2, 14, none⟩)) pa (.pointer (some ⟨g3, 14, none⟩)) undef undef undef undef undef undef undef undef undef undef) (l' := #[true, true, true, true, true, true, true, true, true, false, false, false, false, false, false, false, false, false, false, false]) (by kernel_rfl) (by kernel_rfl) ?_
      refine wpAnyH_take (i := 9) (v := pb) rfl (by kernel_rfl) (by kernel_rfl) (by kernel_rfl) (fun c a w => hQ c a _ _ w) (.inl ⟨by kernel_rfl, fun w' hS => run_load22 w' _ _ rfl _ ⟨g3, 14, none⟩ (by kernel_rfl) pb (mv_cell ((hS.block g3 b3).trans hg3) 14 pb kB)⟩) By2 ?_
      refine reAct (a' := acT u0 u1 (.pointer (some ⟨g2, 0, none⟩)) (.pointer (some ⟨g3, 0, none⟩)) u4 (.agg cA) (.agg aA) (.agg cB) (.agg aB) (.bool true) (.bool true) (.pointer (some ⟨g2, 14, none⟩)) pa (.pointer (some ⟨g3, 14, none⟩)) pb undef undef undef undef undef undef undef undef undef) (l' := #[true, true, true, true, true, true, true, true, true, true, false, false, false, false, false, false, false, false, false, false]) (by kernel_rfl) (by kernel_rfl) ?_
      refine wpAnyH_all (rs := [10]) (by kernel_rfl) (by simp) ?_
      intro i hi
      obtain rfl : i = 10 := by simpa using hi
      refine wpOp_call (o := oS10 p) rfl (by kernel_rfl) 28 #[pa, pb] (.bool true) (run_call2 28 call28 _ _ _ _ _ _ rfl _ _ _ (by kernel_rfl) (by kernel_rfl)) (c3 _ By2) ?_
      intro y3 by3
      have By3 := below_of By2 by3
      refine ⟨By3, ?_⟩
      refine reAct (a' := acT u0 u1 (.pointer (some ⟨g2, 0, none⟩)) (.pointer (some ⟨g3, 0, none⟩)) u4 (.agg cA) (.agg aA) (.agg cB) (.agg aB) (.bool true) (.bool true) (.pointer (some ⟨g2, 14, none⟩)) pa (.pointer (some ⟨g3, 14, none⟩)) pb (.bool true) undef undef undef undef undef undef undef undef) (l' := #[true, true, true, true, true, true, true, true, true, true, true, false, false, false, false, false, false, false, false, false]) (by kernel_rfl) (by kernel_rfl) ?_
      refine wpAnyH_take (i := 11) (v := .bool true) rfl (by kernel_rfl) (by kernel_rfl) (by kernel_rfl) (fun c a w => hQ c a _ _ w) (.inl ⟨by kernel_rfl, fun w' hS => (by kernel_rfl)⟩) By3 ?_
      refine reAct (a' := acT u0 u1 (.pointer (some ⟨g2, 0, none⟩)) (.pointer (some ⟨g3, 0, none⟩)) u4 (.agg cA) (.agg aA) (.agg cB) (.agg aB) (.bool true) (.bool true) (.pointer (some ⟨g2, 14, none⟩)) pa (.pointer (some ⟨g3, 14, none⟩)) pb (.bool true) (.bool true) undef undef undef undef undef undef undef) (l' := #[true, true, true, true, true, true, true, true, true, true, true, true, false, false, false, false, false, false, false, false]) (by kernel_rfl) (by kernel_rfl) ?_
      refine wpAnyH_take (i := 12) (v := .bool true) rfl (by kernel_rfl) (by kernel_rfl) (by kernel_rfl) (fun c a w => hQ c a _ _ w) (.inl ⟨by kernel_rfl, fun w' hS => (by kernel_rfl)⟩) By3 ?_
      refine reAct (a' := acT u0 u1 (.pointer (some ⟨g2, 0, none⟩)) (.pointer (some ⟨g3, 0, none⟩)) u4 (.agg cA) (.agg aA) (.agg cB) (.agg aB) (.bool true) (.bool true) (.pointer (some ⟨g2, 14, none⟩)) pa (.pointer (some ⟨g3, 14, none⟩)) pb (.bool true) (.bool true) (.bool true) undef undef undef undef undef undef) (l' := #[true, true, true, true, true, true, true, true, true, true, true, true, true, false, false, false, false, false, false, false]) (by kernel_rfl) (by kernel_rfl) ?_
      refine wpAnyH_take (i := 13) (v := (.pointer (some ⟨g2, 15, none⟩))) rfl (by kernel_rfl) (by kernel_rfl) (by kernel_rfl) (fun c a w => hQ c a _ _ w) (.inl ⟨by kernel_rfl, fun w' hS => run_field24 15 (.inr rfl) w' _ _ rfl _ g2 (by kernel_rfl)⟩) By3 ?_
      refine reAct (a' := acT u0 u1 (.pointer (some ⟨g2, 0, none⟩)) (.pointer (some ⟨g3, 0, none⟩)) u4 (.agg cA) (.agg aA) (.agg cB) (.agg aB) (.bool true) (.bool true) (.pointer (some ⟨g2, 14, none⟩)) pa (.pointer (some ⟨g3, 14, none⟩)) pb (.bool true) (.bool true) (.bool true) (.pointer (some ⟨g2, 15, none⟩)) undef undef undef undef undef) (l' := #[true, true, true, true, true, true, true, true, true, true, true, true, true, true, false, false, false, false, false, false]) (by kernel_rfl) (by kernel_rfl) ?_
      refine wpAnyH_take (i := 14) (v := ta) rfl (by kernel_rfl) (by kernel_rfl) (by kernel_rfl) (fun c a w => hQ c a _ _ w) (.inl ⟨by kernel_rfl, fun w' hS => run_load22 w' _ _ rfl _ ⟨g2, 15, none⟩ (by kernel_rfl) ta (mv_cell ((hS.block g2 b2).trans hg2) 15 ta tA)⟩) By3 ?_
      refine reAct (a' := acT u0 u1 (.pointer (some ⟨g2, 0, none⟩)) (.pointer (some ⟨g3, 0, none⟩)) u4 (.agg cA) (.agg aA) (.agg cB) (.agg aB) (.bool true) (.bool true) (.pointer (some ⟨g2, 14, none⟩)) pa (.pointer (some ⟨g3, 14, none⟩)) pb (.bool true) (.bool true) (.bool true) (.pointer (some ⟨g2, 15, none⟩)) ta undef undef undef undef) (l' := #[true, true, true, true, true, true, true, true, true, true, true, true, true, true, true, false, false, false, false, false]) (by kernel_rfl) (by kernel_rfl) ?_
      refine wpAnyH_take (i := 15) (v := (.pointer (some ⟨g3, 15, none⟩))) rfl (by kernel_rfl) (by kernel_rfl) (by kernel_rfl) (fun c a w => hQ c a _ _ w) (.inl ⟨by kernel_rfl, fun w' hS => run_field24 15 (.inr rfl) w' _ _ rfl _ g3 (by kernel_rfl)⟩) By3 ?_
      refine reAct (a' := acT u0 u1 (.pointer (some ⟨g2, 0, none⟩)) (.pointer (some ⟨g3, 0, none⟩)) u4 (.agg cA) (.agg aA) (.agg cB) (.agg aB) (.bool true) (.bool true) (.pointer (some ⟨g2, 14, none⟩)) pa (.pointer (some ⟨g3, 14, none⟩)) pb (.bool true) (.bool true) (.bool true) (.pointer (some ⟨g2, 15, none⟩)) ta (.pointer (some ⟨g3, 15, none⟩)) undef undef undef) (l' := #[true, true, true, true, true, true, true, true, true, true, true, true, true, true, true, true, false, false, false, false]) (by kernel_rfl) (by kernel_rfl) ?_
      refine wpAnyH_take (i := 16) (v := tb) rfl (by kernel_rfl) (by kernel_rfl) (by kernel_rfl) (fun c a w => hQ c a _ _ w) (.inl ⟨by kernel_rfl, fun w' hS => run_load22 w' _ _ rfl _ ⟨g3, 15, none⟩ (by kernel_rfl) tb (mv_cell ((hS.block g3 b3).trans hg3) 15 tb tB)⟩) By3 ?_
      refine reAct (a' := acT u0 u1 (.pointer (some ⟨g2, 0, none⟩)) (.pointer (some ⟨g3, 0, none⟩)) u4 (.agg cA) (.agg aA) (.agg cB) (.agg aB) (.bool true) (.bool true) (.pointer (some ⟨g2, 14, none⟩)) pa (.pointer (some ⟨g3, 14, none⟩)) pb (.bool true) (.bool true) (.bool true) (.pointer (some ⟨g2, 15, none⟩)) ta (.pointer (some ⟨g3, 15, none⟩)) tb undef undef) (l' := #[true, true, true, true, true, true, true, true, true, true, true, true, true, true, true, true, true, false, false, false]) (by kernel_rfl) (by kernel_rfl) ?_
      refine wpAnyH_all (rs := [17]) (by kernel_rfl) (by simp) ?_
      intro i hi
      obtain rfl : i = 17 := by simpa using hi
      refine wpOp_call (o := oS17 p) rfl (by kernel_rfl) 28 #[ta, tb] (.bool x3) (run_call2 28 call28 _ _ _ _ _ _ rfl _ _ _ (by kernel_rfl) (by kernel_rfl)) (c4 _ By3) ?_
      intro y4 by4
      have By4 := below_of By3 by4
      refine ⟨By4, ?_⟩
      refine reAct (a' := acT u0 u1 (.pointer (some ⟨g2, 0, none⟩)) (.pointer (some ⟨g3, 0, none⟩)) u4 (.agg cA) (.agg aA) (.agg cB) (.agg aB) (.bool true) (.bool true) (.pointer (some ⟨g2, 14, none⟩)) pa (.pointer (some ⟨g3, 14, none⟩)) pb (.bool true) (.bool true) (.bool true) (.pointer (some ⟨g2, 15, none⟩)) ta (.pointer (some ⟨g3, 15, none⟩)) tb (.bool x3) undef) (l' := #[true, true, true, true, true, true, true, true, true, true, true, true, true, true, true, true, true, true, false, false]) (by kernel_rfl) (by kernel_rfl) ?_
      refine wpAnyH_take (i := 18) (v := .bool x3) rfl (by kernel_rfl) (by kernel_rfl) (by kernel_rfl) (fun c a w => hQ c a _ _ w) (.inl ⟨by kernel_rfl, fun w' hS => (by kernel_rfl)⟩) By4 ?_
      refine reAct (a' := acT u0 u1 (.pointer (some ⟨g2, 0, none⟩)) (.pointer (some ⟨g3, 0, none⟩)) u4 (.agg cA) (.agg aA) (.agg cB) (.agg aB) (.bool true) (.bool true) (.pointer (some ⟨g2, 14, none⟩)) pa (.pointer (some ⟨g3, 14, none⟩)) pb (.bool true) (.bool true) (.bool true) (.pointer (some ⟨g2, 15, none⟩)) ta (.pointer (some ⟨g3, 15, none⟩)) tb (.bool x3) (.bool x3)) (l' := #[true, true, true, true, true, true, true, true, true, true, true, true, true, true, true, true, true, true, true, false]) (by kernel_rfl) (by kernel_rfl) ?_
      refine wpAnyH_take (i := 19) (v := .bool x3) rfl (by kernel_rfl) (by kernel_rfl) (by kernel_rfl) (fun c a w => hQ c a _ _ w) (.inl ⟨by kernel_rfl, fun w' hS => (by kernel_rfl)⟩) By4 ?_
      refine reAct (a' := acT u0 u1 (.pointer (some ⟨g2, 0, none⟩)) (.pointer (some ⟨g3, 0, none⟩)) (.bool x3) (.agg cA) (.agg aA) (.agg cB) (.agg aB) (.bool true) (.bool true) (.pointer (some ⟨g2, 14, none⟩)) pa (.pointer (some ⟨g3, 14, none⟩)) pb (.bool true) (.bool true) (.bool true) (.pointer (some ⟨g2, 15, none⟩)) ta (.pointer (some ⟨g3, 15, none⟩)) tb (.bool x3) (.bool x3)) (l' := #[true, true, true, true, true, true, true, true, true, true, true, true, true, true, true, true, true, true, true, true]) (by kernel_rfl) (by kernel_rfl) ?_
      exact wpAnyH_done (by kernel_rfl) (NoPanic.normal (h _ _ (by kernel_rfl) (by kernel_rfl) By4)) _
/-- The same messages. -/
def samB (m : Mg) (F : Nat → Int) (n : Nat) (G : Nat → Int) (k : Nat) (m' : Mg) (F' : Nat → Int) (n' : Nat) (G' : Nat → Int) (k' : Nat) : Bool := eqM m m' && eqB F n F' n' && eqB G k G' k'
set_option maxRecDepth 100000 in
set_option maxHeartbeats 1000000 in
theorem same_any (m m' : Mg) (F G F' G' : Nat → Int) (p t p' t' : Value) (n k n' k' : Nat) (w : World) (hp : Sl .i64 w p n F) (ht : Sl .i64 w t k G) (hp' : Sl .i64 w p' n' F') (ht' : Sl .i64 w t' k' G')
    (hn : n ≤ 1000) (hk : k ≤ 1000) (hn' : n' ≤ 1000) (hk' : k' ≤ 1000) :
    Calls Try.prog 11 #[mv m p t, mv m' p' t'] w fun e w' => e = .returned (.bool (samB m F n G k m' F' n' G' k')) ∧ Below w.heap.size w w' := by
  have CA := hide (fun w => numbers_any m p t w)
  have CB := hide (fun w => numbers_any m' p' t' w)
  have CE := hide (fun w => run_eql40 m m' w)
  have C3 := hide (fun w' (b : Below w.heap.size w w') => equal_any F F' p p' n n' w' (hp.below b (Nat.le_refl _)) (hp'.below b (Nat.le_refl _)) (by omega) (by omega))
  have C4 := hide (fun w' (b : Below w.heap.size w w') => equal_any G G' t t' k k' w' (ht.below b (Nat.le_refl _)) (ht'.below b (Nat.le_refl _)) (by omega) (by omega))
  have HR : Hid (samB m F n G k m' F' n' G' k' = (eqM m m' && eqB F n F' n' && eqB G k G' k')) := hide rfl
  clear hp ht hp' ht'
  unfold mv nv at CA CB
  unfold nv at CE
  unfold mv
  generalize samB m F n G k m' F' n' G' k' = R at *
  generalize eqM m m' = x1 at *
  generalize eqB F n F' n' = x2 at *
  generalize eqB G k G' k' = x3 at *
  go_enter Try.func11, Try.ntmps11
  go_wp2
  have B0 : Below w.heap.size w ((w.alloc (.cells #[.int .i64 m.kd, .int .i64 m.fr, .int .i64 m.fi, .int .i64 m.tw, .int .i64 m.ti, .int .i64 m.tp, .int .i64 m.ep, .int .i64 m.sq, .int .i64 m.la, .int .i64 m.va, .int .i64 m.no, .int .i64 m.ic, .int .i64 m.ct, .int .i64 m.hp, p, t] 24)).alloc (.cells #[.int .i64 m'.kd, .int .i64 m'.fr, .int .i64 m'.fi, .int .i64 m'.tw, .int .i64 m'.ti, .int .i64 m'.tp, .int .i64 m'.ep, .int .i64 m'.sq, .int .i64 m'.la, .int .i64 m'.va, .int .i64 m'.no, .int .i64 m'.ic, .int .i64 m'.ct, .int .i64 m'.hp, p', t'] 24)) := ((Below.refl _ _).alloc (Nat.le_refl _) _).alloc (by simp) _
  refine regS _ _ _ _ _ w.heap.size (w.heap.size + 1) #[.int .i64 m.kd, .int .i64 m.fr, .int .i64 m.fi, .int .i64 m.tw, .int .i64 m.ti, .int .i64 m.tp, .int .i64 m.ep, .int .i64 m.sq, .int .i64 m.la, .int .i64 m.va, .int .i64 m.no, .int .i64 m.ic, .int .i64 m.ct, .int .i64 m.hp, p, t] #[.int .i64 m'.kd, .int .i64 m'.fr, .int .i64 m'.fi, .int .i64 m'.tw, .int .i64 m'.ti, .int .i64 m'.tp, .int .i64 m'.ep, .int .i64 m'.sq, .int .i64 m'.la, .int .i64 m'.va, .int .i64 m'.no, .int .i64 m'.ic, .int .i64 m'.ct, .int .i64 m'.hp, p', t'] #[.int .i64 m.kd, .int .i64 m.fr, .int .i64 m.fi, .int .i64 m.tw, .int .i64 m.ti, .int .i64 m.tp, .int .i64 m.ep, .int .i64 m.sq, .int .i64 m.la, .int .i64 m.va, .int .i64 m.no, .int .i64 m.ic, .int .i64 m.ct, .int .i64 m.hp] #[.int .i64 m'.kd, .int .i64 m'.fr, .int .i64 m'.fi, .int .i64 m'.tw, .int .i64 m'.ti, .int .i64 m'.tp, .int .i64 m'.ep, .int .i64 m'.sq, .int .i64 m'.la, .int .i64 m'.va, .int .i64 m'.no, .int .i64 m'.ic, .int .i64 m'.ct, .int .i64 m'.hp] p t p' t' x1 x2 x3 _ (heap_alloc2_old _ _ _) (heap_alloc2_new _ _ _) rfl rfl (unhide CA) (unhide CB) (unhide CE) rfl rfl rfl rfl (fun w' b => unhide C3 w' (below_of B0 b)) (fun w' b => unhide C4 w' (below_of B0 b)) ?_
  intro a' w' h4 hd hb
  have hb2 := below_of B0 hb
  rw [← unhide HR] at h4
  clear hb
  go_wp2
  refine bodyPost_ret (results_tmp rfl _ _ _) hd ⟨?_, hb2⟩
  rw [h4]
end Go.Proofs.Ytokgbolmjfmfpaa
