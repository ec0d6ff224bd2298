/- The page's Msg: its head, over any frame. -/
import Derived.Test.YtokgbolmjfmfpaaE3
namespace Go.Proofs.Ytokgbolmjfmfpaa
open Go.RowKit

def r0_0 (p : String) : Oper := { dst := some 1, op := Op.box 24 (Operand.tmp 0), type := 0, pos := p, after := #[], guard := none }
def r0_1 (p : String) : Oper := { dst := some 2, op := Op.assign (Operand.const (Value.bool false)), type := 4, pos := p, after := #[], guard := none }
def r0 (p : String) : Array Oper := #[r0_0 p, r0_1 p]
set_option maxRecDepth 100000 in
set_option maxHeartbeats 1000000 in
theorem reg0 {Q : Exit → Act → World → Prop} (id : Nat) (p : String) (a : Act) (w : World) (c0 c1 c2 c3 c4 c5 c6 c7 c8 c9 c10 c11 c12 c13 c14 c15 : Value) (hsz : a.tmps.size = 347) (hdf : a.defers = []) (e0 : a.eval (.tmp 0) = .agg #[c0, c1, c2, c3, c4, c5, c6, c7, c8, c9, c10, c11, c12, c13, c14, c15])
    (h : ∀ a', a'.tmps.size = 347 → a'.defers = [] → a'.eval (.tmp 1) = .pointer (some ⟨w.heap.size, 0, none⟩) → Q .normal a' (w.alloc (.cells #[c0, c1, c2, c3, c4, c5, c6, c7, c8, c9, c10, c11, c12, c13, c14, c15] 24))) :
    (Code.region id (r0 p) false).wp Try.prog Q a w := by
  refine wlStart (l := [r0_0 p, r0_1 p]) rfl ?_
  refine wlValw rfl rfl _ (run_box24 _ _ _ rfl _ c0 c1 c2 c3 c4 c5 c6 c7 c8 c9 c10 c11 c12 c13 c14 c15 e0) ?_
  refine wlVal rfl rfl (.bool false) (run_assign _ _ _ rfl _ _ (by simp [ev_const])) ?_
  exact wlDone <| h _ (by simp [sz_put, hsz]) (by simp [def_put, hdf]) (by simp [ev_ne, ev_eq, hsz])
def r1_0 (p : String) : Oper := { dst := some 5, op := Op.fieldAddr 24 (Operand.tmp 1) 0, type := 0, pos := p, after := #[], guard := none }
def r1_1 (p : String) : Oper := { dst := some 6, op := Op.load 3 (Operand.tmp 5), type := 3, pos := p, after := #[{ on := 0, ground := Ground.data }], guard := none }
def r1_2 (p : String) : Oper := { dst := some 7, op := Op.call { callee := Callee.value (Operand.func 18), args := #[Operand.tmp 6, Operand.const (Value.int IntKind.i64 1), Operand.const (Value.int IntKind.i64 13)], argTypes := #[3, 3, 3] }, type := 4, pos := p, after := #[{ on := 1, ground := Ground.data }], guard := none }
def r1_3 (p : String) : Oper := { dst := some 8, op := Op.unOp UnOp.not 4 (Operand.tmp 7), type := 4, pos := p, after := #[{ on := 2, ground := Ground.data }], guard := none }
def r1_4 (p : String) : Oper := { dst := some 9, op := Op.move (Operand.tmp 8), type := 4, pos := p, after := #[{ on := 3, ground := Ground.data }, { on := 2, ground := Ground.chain }], guard := none }
def r1_5 (p : String) : Oper := { dst := some 10, op := Op.fieldAddr 24 (Operand.tmp 1) 1, type := 0, pos := p, after := #[{ on := 4, ground := Ground.guard }], guard := some (4, false) }
def r1_6 (p : String) : Oper := { dst := some 11, op := Op.load 3 (Operand.tmp 10), type := 3, pos := p, after := #[{ on := 5, ground := Ground.data }, { on := 4, ground := Ground.guard }], guard := some (4, false) }
def r1_7 (p : String) : Oper := { dst := some 12, op := Op.call { callee := Callee.value (Operand.func 19), args := #[Operand.tmp 11], argTypes := #[3] }, type := 4, pos := p, after := #[{ on := 6, ground := Ground.data }, { on := 4, ground := Ground.chain }, { on := 4, ground := Ground.guard }], guard := some (4, false) }
def r1_8 (p : String) : Oper := { dst := some 13, op := Op.unOp UnOp.not 4 (Operand.tmp 12), type := 4, pos := p, after := #[{ on := 7, ground := Ground.data }, { on := 4, ground := Ground.guard }], guard := some (4, false) }
def r1_9 (p : String) : Oper := { dst := some 14, op := Op.pick (Operand.tmp 9) (Operand.const (Value.bool true)) (Operand.tmp 13), type := 4, pos := p, after := #[{ on := 4, ground := Ground.data }, { on := 8, ground := Ground.data }], guard := none }
def r1_10 (p : String) : Oper := { dst := some 15, op := Op.move (Operand.tmp 14), type := 4, pos := p, after := #[{ on := 9, ground := Ground.data }, { on := 7, ground := Ground.chain }], guard := none }
def r1_11 (p : String) : Oper := { dst := some 16, op := Op.fieldAddr 24 (Operand.tmp 1) 3, type := 0, pos := p, after := #[{ on := 10, ground := Ground.guard }], guard := some (10, false) }
def r1_12 (p : String) : Oper := { dst := some 17, op := Op.load 3 (Operand.tmp 16), type := 3, pos := p, after := #[{ on := 11, ground := Ground.data }, { on := 10, ground := Ground.guard }], guard := some (10, false) }
def r1_13 (p : String) : Oper := { dst := some 18, op := Op.call { callee := Callee.value (Operand.func 19), args := #[Operand.tmp 17], argTypes := #[3] }, type := 4, pos := p, after := #[{ on := 12, ground := Ground.data }, { on := 10, ground := Ground.chain }, { on := 10, ground := Ground.guard }], guard := some (10, false) }
def r1_14 (p : String) : Oper := { dst := some 19, op := Op.unOp UnOp.not 4 (Operand.tmp 18), type := 4, pos := p, after := #[{ on := 13, ground := Ground.data }, { on := 10, ground := Ground.guard }], guard := some (10, false) }
def r1_15 (p : String) : Oper := { dst := some 20, op := Op.pick (Operand.tmp 15) (Operand.const (Value.bool true)) (Operand.tmp 19), type := 4, pos := p, after := #[{ on := 10, ground := Ground.data }, { on := 14, ground := Ground.data }], guard := none }
def r1_16 (p : String) : Oper := { dst := some 21, op := Op.move (Operand.tmp 20), type := 4, pos := p, after := #[{ on := 15, ground := Ground.data }, { on := 13, ground := Ground.chain }], guard := none }
def r1_17 (p : String) : Oper := { dst := some 22, op := Op.fieldAddr 24 (Operand.tmp 1) 1, type := 0, pos := p, after := #[{ on := 16, ground := Ground.guard }], guard := some (16, false) }
def r1_18 (p : String) : Oper := { dst := some 23, op := Op.load 3 (Operand.tmp 22), type := 3, pos := p, after := #[{ on := 17, ground := Ground.data }, { on := 16, ground := Ground.guard }], guard := some (16, false) }
def r1_19 (p : String) : Oper := { dst := some 24, op := Op.fieldAddr 24 (Operand.tmp 1) 3, type := 0, pos := p, after := #[{ on := 16, ground := Ground.guard }], guard := some (16, false) }
def r1_20 (p : String) : Oper := { dst := some 25, op := Op.load 3 (Operand.tmp 24), type := 3, pos := p, after := #[{ on := 19, ground := Ground.data }, { on := 16, ground := Ground.guard }], guard := some (16, false) }
def r1_21 (p : String) : Oper := { dst := some 26, op := Op.binOp BinOp.eql 3 (Operand.tmp 23) (Operand.tmp 25) 3, type := 4, pos := p, after := #[{ on := 18, ground := Ground.data }, { on := 20, ground := Ground.data }, { on := 16, ground := Ground.guard }], guard := some (16, false) }
def r1_22 (p : String) : Oper := { dst := some 27, op := Op.pick (Operand.tmp 21) (Operand.const (Value.bool true)) (Operand.tmp 26), type := 4, pos := p, after := #[{ on := 16, ground := Ground.data }, { on := 21, ground := Ground.data }], guard := none }
def r1_23 (p : String) : Oper := { dst := some 28, op := Op.move (Operand.tmp 27), type := 4, pos := p, after := #[{ on := 22, ground := Ground.data }, { on := 16, ground := Ground.chain }], guard := none }
def r1_24 (p : String) : Oper := { dst := some 29, op := Op.fieldAddr 24 (Operand.tmp 1) 2, type := 0, pos := p, after := #[{ on := 23, ground := Ground.guard }], guard := some (23, false) }
def r1_25 (p : String) : Oper := { dst := some 30, op := Op.load 3 (Operand.tmp 29), type := 3, pos := p, after := #[{ on := 24, ground := Ground.data }, { on := 23, ground := Ground.guard }], guard := some (23, false) }
def r1_26 (p : String) : Oper := { dst := some 31, op := Op.call { callee := Callee.value (Operand.func 20), args := #[Operand.tmp 30], argTypes := #[3] }, type := 4, pos := p, after := #[{ on := 25, ground := Ground.data }, { on := 23, ground := Ground.chain }, { on := 23, ground := Ground.guard }], guard := some (23, false) }
def r1_27 (p : String) : Oper := { dst := some 32, op := Op.unOp UnOp.not 4 (Operand.tmp 31), type := 4, pos := p, after := #[{ on := 26, ground := Ground.data }, { on := 23, ground := Ground.guard }], guard := some (23, false) }
def r1_28 (p : String) : Oper := { dst := some 33, op := Op.pick (Operand.tmp 28) (Operand.const (Value.bool true)) (Operand.tmp 32), type := 4, pos := p, after := #[{ on := 23, ground := Ground.data }, { on := 27, ground := Ground.data }], guard := none }
def r1 (p : String) : Array Oper := #[r1_0 p, r1_1 p, r1_2 p, r1_3 p, r1_4 p, r1_5 p, r1_6 p, r1_7 p, r1_8 p, r1_9 p, r1_10 p, r1_11 p, r1_12 p, r1_13 p, r1_14 p, r1_15 p, r1_16 p, r1_17 p, r1_18 p, r1_19 p, r1_20 p, r1_21 p, r1_22 p, r1_23 p, r1_24 p, r1_25 p, r1_26 p, r1_27 p, r1_28 p]
set_option maxRecDepth 100000 in
set_option maxHeartbeats 1000000 in
theorem reg1 {Q : Exit → Act → World → Prop} (id : Nat) (p : String) (a : Act) (w : World) (g1 : Nat) (cs : Array Value) (kd fr fi tw : Int) (x0 x1 x2 x4 : Bool) (hsz : a.tmps.size = 347) (hdf : a.defers = []) (e1 : a.eval (.tmp 1) = .pointer (some ⟨g1, 0, none⟩)) (hg1 : w.heap[g1]? = some (.cells cs 24)) (y0 : cs[0]? = some (.int .i64 kd)) (y1 : cs[1]? = some (.int .i64 fr)) (y2 : cs[2]? = some (.int .i64 fi)) (y3 : cs[3]? = some (.int .i64 tw))
    (c0 : ∀ w, Calls Try.prog 18 #[.int .i64 kd, .int .i64 1, .int .i64 13] w fun e w' => e = .returned (.bool x0) ∧ w' = w) (c1 : ∀ w, Calls Try.prog 19 #[.int .i64 fr] w fun e w' => e = .returned (.bool x1) ∧ w' = w) (c2 : ∀ w, Calls Try.prog 19 #[.int .i64 tw] w fun e w' => e = .returned (.bool x2) ∧ w' = w) (c4 : ∀ w, Calls Try.prog 20 #[.int .i64 fi] w fun e w' => e = .returned (.bool x4) ∧ w' = w)
    (h : ∀ a', a'.tmps.size = 347 → a'.defers = [] → a'.eval (.tmp 1) = .pointer (some ⟨g1, 0, none⟩) → a'.eval (.tmp 33) = .bool (!(x0 && x1 && x2 && !(fr == tw) && x4)) → Q .normal a' w) :
    (Code.region id (r1 p) false).wp Try.prog Q a w := by
  refine wlStart (l := [r1_0 p, r1_1 p, r1_2 p, r1_3 p, r1_4 p, r1_5 p, r1_6 p, r1_7 p, r1_8 p, r1_9 p, r1_10 p, r1_11 p, r1_12 p, r1_13 p, r1_14 p, r1_15 p, r1_16 p, r1_17 p, r1_18 p, r1_19 p, r1_20 p, r1_21 p, r1_22 p, r1_23 p, r1_24 p, r1_25 p, r1_26 p, r1_27 p, r1_28 p]) rfl ?_
  refine wlVal rfl rfl (.pointer (some ⟨g1, 0, none⟩)) (run_field 0 (by omega) w _ _ rfl _ g1 (by simp [e1])) ?_
  refine wlVal rfl rfl (.int .i64 kd) (run_load3 w _ _ rfl _ ⟨g1, 0, none⟩ (by simp [ev_eq, hsz]) _ (mv_cell hg1 0 _ y0)) ?_
  refine wlC rfl rfl 18 #[(.int .i64 kd), (.int .i64 1), (.int .i64 13)] (.bool x0) (run_call3 18 call18 _ _ _ _ _ _ _ _ rfl _ _ _ _ (by simp [ev_eq, sz_put, hsz]) (by simp [ev_const]) (by simp [ev_const])) (c0 _) ?_
  cases x0 with
  | false =>
    refine wlVal rfl rfl (.bool true) (run_not w _ _ rfl _ false (by simp [ev_eq, sz_put, hsz])) ?_
    refine wlVal rfl rfl (.bool true) (run_move w _ _ rfl _ _ (by simp [ev_eq, sz_put, hsz])) ?_
    refine wlN 4 9 false true rfl rfl rfl rfl (by simp [ev_eq, sz_put, hsz]) (by decide) ?_
    refine wlN 4 9 false true rfl rfl rfl rfl (by simp [ev_ne, ev_eq, sz_put, hsz]) (by decide) ?_
    refine wlN 4 9 false true rfl rfl rfl rfl (by simp [ev_ne, ev_eq, sz_put, hsz]) (by decide) ?_
    refine wlN 4 9 false true rfl rfl rfl rfl (by simp [ev_ne, ev_eq, sz_put, hsz]) (by decide) ?_
    refine wlVal rfl rfl (.bool true) (run_pick w _ _ _ _ rfl _ true _ (by simp [ev_ne, ev_eq, sz_put, hsz]) (by simp [ev_const])) ?_
    refine wlVal rfl rfl (.bool true) (run_move w _ _ rfl _ _ (by simp [ev_eq, sz_put, hsz])) ?_
    refine wlN 10 15 false true rfl rfl rfl rfl (by simp [ev_eq, sz_put, hsz]) (by decide) ?_
    refine wlN 10 15 false true rfl rfl rfl rfl (by simp [ev_ne, ev_eq, sz_put, hsz]) (by decide) ?_
    refine wlN 10 15 false true rfl rfl rfl rfl (by simp [ev_ne, ev_eq, sz_put, hsz]) (by decide) ?_
    refine wlN 10 15 false true rfl rfl rfl rfl (by simp [ev_ne, ev_eq, sz_put, hsz]) (by decide) ?_
    refine wlVal rfl rfl (.bool true) (run_pick w _ _ _ _ rfl _ true _ (by simp [ev_ne, ev_eq, sz_put, hsz]) (by simp [ev_const])) ?_
    refine wlVal rfl rfl (.bool true) (run_move w _ _ rfl _ _ (by simp [ev_eq, sz_put, hsz])) ?_
    refine wlN 16 21 false true rfl rfl rfl rfl (by simp [ev_eq, sz_put, hsz]) (by decide) ?_
    refine wlN 16 21 false true rfl rfl rfl rfl (by simp [ev_ne, ev_eq, sz_put, hsz]) (by decide) ?_
    refine wlN 16 21 false true rfl rfl rfl rfl (by simp [ev_ne, ev_eq, sz_put, hsz]) (by decide) ?_
    refine wlN 16 21 false true rfl rfl rfl rfl (by simp [ev_ne, ev_eq, sz_put, hsz]) (by decide) ?_
    refine wlN 16 21 false true rfl rfl rfl rfl (by simp [ev_ne, ev_eq, sz_put, hsz]) (by decide) ?_
    refine wlVal rfl rfl (.bool true) (run_pick w _ _ _ _ rfl _ true _ (by simp [ev_ne, ev_eq, sz_put, hsz]) (by simp [ev_const])) ?_
    refine wlVal rfl rfl (.bool true) (run_move w _ _ rfl _ _ (by simp [ev_eq, sz_put, hsz])) ?_
    refine wlN 23 28 false true rfl rfl rfl rfl (by simp [ev_eq, sz_put, hsz]) (by decide) ?_
    refine wlN 23 28 false true rfl rfl rfl rfl (by simp [ev_ne, ev_eq, sz_put, hsz]) (by decide) ?_
    refine wlN 23 28 false true rfl rfl rfl rfl (by simp [ev_ne, ev_eq, sz_put, hsz]) (by decide) ?_
    refine wlN 23 28 false true rfl rfl rfl rfl (by simp [ev_ne, ev_eq, sz_put, hsz]) (by decide) ?_
    refine wlVal rfl rfl (.bool true) (run_pick w _ _ _ _ rfl _ true _ (by simp [ev_ne, ev_eq, sz_put, hsz]) (by simp [ev_const])) ?_
    exact wlDone <| h _ (by simp [sz_put, hsz]) (by simp [def_put, hdf]) (by simp [ev_ne, e1]) (by simp [ev_eq, sz_put, hsz])
  | true =>
    refine wlVal rfl rfl (.bool false) (run_not w _ _ rfl _ true (by simp [ev_eq, sz_put, hsz])) ?_
    refine wlVal rfl rfl (.bool false) (run_move w _ _ rfl _ _ (by simp [ev_eq, sz_put, hsz])) ?_
    refine wlG 4 9 false rfl rfl rfl rfl (by simp [ev_eq, sz_put, hsz]) (.pointer (some ⟨g1, 1, none⟩)) (run_field 1 (by omega) w _ _ rfl _ g1 (by simp [ev_ne, e1])) ?_
    refine wlG 4 9 false rfl rfl rfl rfl (by simp [ev_ne, ev_eq, sz_put, hsz]) (.int .i64 fr) (run_load3 w _ _ rfl _ ⟨g1, 1, none⟩ (by simp [ev_eq, sz_put, hsz]) _ (mv_cell hg1 1 _ y1)) ?_
    refine wlCG 4 9 false rfl rfl rfl rfl (by simp [ev_ne, ev_eq, sz_put, hsz]) 19 #[(.int .i64 fr)] (.bool x1) (run_call1 19 call19 _ _ _ _ rfl _ _ (by simp [ev_eq, sz_put, hsz])) (c1 _) ?_
    cases x1 with
    | false =>
      refine wlG 4 9 false rfl rfl rfl rfl (by simp [ev_ne, ev_eq, sz_put, hsz]) (.bool true) (run_not w _ _ rfl _ false (by simp [ev_eq, sz_put, hsz])) ?_
      refine wlVal rfl rfl (.bool true) (run_pick w _ _ _ _ rfl _ false _ (by simp [ev_ne, ev_eq, sz_put, hsz]) (by simp [ev_eq, sz_put, hsz])) ?_
      refine wlVal rfl rfl (.bool true) (run_move w _ _ rfl _ _ (by simp [ev_eq, sz_put, hsz])) ?_
      refine wlN 10 15 false true rfl rfl rfl rfl (by simp [ev_eq, sz_put, hsz]) (by decide) ?_
      refine wlN 10 15 false true rfl rfl rfl rfl (by simp [ev_ne, ev_eq, sz_put, hsz]) (by decide) ?_
      refine wlN 10 15 false true rfl rfl rfl rfl (by simp [ev_ne, ev_eq, sz_put, hsz]) (by decide) ?_
      refine wlN 10 15 false true rfl rfl rfl rfl (by simp [ev_ne, ev_eq, sz_put, hsz]) (by decide) ?_
      refine wlVal rfl rfl (.bool true) (run_pick w _ _ _ _ rfl _ true _ (by simp [ev_ne, ev_eq, sz_put, hsz]) (by simp [ev_const])) ?_
      refine wlVal rfl rfl (.bool true) (run_move w _ _ rfl _ _ (by simp [ev_eq, sz_put, hsz])) ?_
      refine wlN 16 21 false true rfl rfl rfl rfl (by simp [ev_eq, sz_put, hsz]) (by decide) ?_
      refine wlN 16 21 false true rfl rfl rfl rfl (by simp [ev_ne, ev_eq, sz_put, hsz]) (by decide) ?_
      refine wlN 16 21 false true rfl rfl rfl rfl (by simp [ev_ne, ev_eq, sz_put, hsz]) (by decide) ?_
      refine wlN 16 21 false true rfl rfl rfl rfl (by simp [ev_ne, ev_eq, sz_put, hsz]) (by decide) ?_
      refine wlN 16 21 false true rfl rfl rfl rfl (by simp [ev_ne, ev_eq, sz_put, hsz]) (by decide) ?_
      refine wlVal rfl rfl (.bool true) (run_pick w _ _ _ _ rfl _ true _ (by simp [ev_ne, ev_eq, sz_put, hsz]) (by simp [ev_const])) ?_
      refine wlVal rfl rfl (.bool true) (run_move w _ _ rfl _ _ (by simp [ev_eq, sz_put, hsz])) ?_
      refine wlN 23 28 false true rfl rfl rfl rfl (by simp [ev_eq, sz_put, hsz]) (by decide) ?_
      refine wlN 23 28 false true rfl rfl rfl rfl (by simp [ev_ne, ev_eq, sz_put, hsz]) (by decide) ?_
      refine wlN 23 28 false true rfl rfl rfl rfl (by simp [ev_ne, ev_eq, sz_put, hsz]) (by decide) ?_
      refine wlN 23 28 false true rfl rfl rfl rfl (by simp [ev_ne, ev_eq, sz_put, hsz]) (by decide) ?_
      refine wlVal rfl rfl (.bool true) (run_pick w _ _ _ _ rfl _ true _ (by simp [ev_ne, ev_eq, sz_put, hsz]) (by simp [ev_const])) ?_
      exact wlDone <| h _ (by simp [sz_put, hsz]) (by simp [def_put, hdf]) (by simp [ev_ne, e1]) (by simp [ev_eq, sz_put, hsz])
    | true =>
      refine wlG 4 9 false rfl rfl rfl rfl (by simp [ev_ne, ev_eq, sz_put, hsz]) (.bool false) (run_not w _ _ rfl _ true (by simp [ev_eq, sz_put, hsz])) ?_
      refine wlVal rfl rfl (.bool false) (run_pick w _ _ _ _ rfl _ false _ (by simp [ev_ne, ev_eq, sz_put, hsz]) (by simp [ev_eq, sz_put, hsz])) ?_
      refine wlVal rfl rfl (.bool false) (run_move w _ _ rfl _ _ (by simp [ev_eq, sz_put, hsz])) ?_
      refine wlG 10 15 false rfl rfl rfl rfl (by simp [ev_eq, sz_put, hsz]) (.pointer (some ⟨g1, 3, none⟩)) (run_field 3 (by omega) w _ _ rfl _ g1 (by simp [ev_ne, e1])) ?_
      refine wlG 10 15 false rfl rfl rfl rfl (by simp [ev_ne, ev_eq, sz_put, hsz]) (.int .i64 tw) (run_load3 w _ _ rfl _ ⟨g1, 3, none⟩ (by simp [ev_eq, sz_put, hsz]) _ (mv_cell hg1 3 _ y3)) ?_
      refine wlCG 10 15 false rfl rfl rfl rfl (by simp [ev_ne, ev_eq, sz_put, hsz]) 19 #[(.int .i64 tw)] (.bool x2) (run_call1 19 call19 _ _ _ _ rfl _ _ (by simp [ev_eq, sz_put, hsz])) (c2 _) ?_
      cases x2 with
      | false =>
        refine wlG 10 15 false rfl rfl rfl rfl (by simp [ev_ne, ev_eq, sz_put, hsz]) (.bool true) (run_not w _ _ rfl _ false (by simp [ev_eq, sz_put, hsz])) ?_
        refine wlVal rfl rfl (.bool true) (run_pick w _ _ _ _ rfl _ false _ (by simp [ev_ne, ev_eq, sz_put, hsz]) (by simp [ev_eq, sz_put, hsz])) ?_
        refine wlVal rfl rfl (.bool true) (run_move w _ _ rfl _ _ (by simp [ev_eq, sz_put, hsz])) ?_
        refine wlN 16 21 false true rfl rfl rfl rfl (by simp [ev_eq, sz_put, hsz]) (by decide) ?_
        refine wlN 16 21 false true rfl rfl rfl rfl (by simp [ev_ne, ev_eq, sz_put, hsz]) (by decide) ?_
        refine wlN 16 21 false true rfl rfl rfl rfl (by simp [ev_ne, ev_eq, sz_put, hsz]) (by decide) ?_
        refine wlN 16 21 false true rfl rfl rfl rfl (by simp [ev_ne, ev_eq, sz_put, hsz]) (by decide) ?_
        refine wlN 16 21 false true rfl rfl rfl rfl (by simp [ev_ne, ev_eq, sz_put, hsz]) (by decide) ?_
        refine wlVal rfl rfl (.bool true) (run_pick w _ _ _ _ rfl _ true _ (by simp [ev_ne, ev_eq, sz_put, hsz]) (by simp [ev_const])) ?_
        refine wlVal rfl rfl (.bool true) (run_move w _ _ rfl _ _ (by simp [ev_eq, sz_put, hsz])) ?_
        refine wlN 23 28 false true rfl rfl rfl rfl (by simp [ev_eq, sz_put, hsz]) (by decide) ?_
        refine wlN 23 28 false true rfl rfl rfl rfl (by simp [ev_ne, ev_eq, sz_put, hsz]) (by decide) ?_
        refine wlN 23 28 false true rfl rfl rfl rfl (by simp [ev_ne, ev_eq, sz_put, hsz]) (by decide) ?_
        refine wlN 23 28 false true rfl rfl rfl rfl (by simp [ev_ne, ev_eq, sz_put, hsz]) (by decide) ?_
        refine wlVal rfl rfl (.bool true) (run_pick w _ _ _ _ rfl _ true _ (by simp [ev_ne, ev_eq, sz_put, hsz]) (by simp [ev_const])) ?_
        exact wlDone <| h _ (by simp [sz_put, hsz]) (by simp [def_put, hdf]) (by simp [ev_ne, e1]) (by simp [ev_eq, sz_put, hsz])
      | true =>
        refine wlG 10 15 false rfl rfl rfl rfl (by simp [ev_ne, ev_eq, sz_put, hsz]) (.bool false) (run_not w _ _ rfl _ true (by simp [ev_eq, sz_put, hsz])) ?_
        refine wlVal rfl rfl (.bool false) (run_pick w _ _ _ _ rfl _ false _ (by simp [ev_ne, ev_eq, sz_put, hsz]) (by simp [ev_eq, sz_put, hsz])) ?_
        refine wlVal rfl rfl (.bool false) (run_move w _ _ rfl _ _ (by simp [ev_eq, sz_put, hsz])) ?_
        refine wlG 16 21 false rfl rfl rfl rfl (by simp [ev_eq, sz_put, hsz]) (.pointer (some ⟨g1, 1, none⟩)) (run_field 1 (by omega) w _ _ rfl _ g1 (by simp [ev_ne, e1])) ?_
        refine wlG 16 21 false rfl rfl rfl rfl (by simp [ev_ne, ev_eq, sz_put, hsz]) (.int .i64 fr) (run_load3 w _ _ rfl _ ⟨g1, 1, none⟩ (by simp [ev_eq, sz_put, hsz]) _ (mv_cell hg1 1 _ y1)) ?_
        refine wlG 16 21 false rfl rfl rfl rfl (by simp [ev_ne, ev_eq, sz_put, hsz]) (.pointer (some ⟨g1, 3, none⟩)) (run_field 3 (by omega) w _ _ rfl _ g1 (by simp [ev_ne, e1])) ?_
        refine wlG 16 21 false rfl rfl rfl rfl (by simp [ev_ne, ev_eq, sz_put, hsz]) (.int .i64 tw) (run_load3 w _ _ rfl _ ⟨g1, 3, none⟩ (by simp [ev_eq, sz_put, hsz]) _ (mv_cell hg1 3 _ y3)) ?_
        refine wlG 16 21 false rfl rfl rfl rfl (by simp [ev_ne, ev_eq, sz_put, hsz]) (.bool (fr == tw)) (run_eql3 w _ _ _ rfl _ fr tw (by simp [ev_ne, ev_eq, sz_put, hsz]) (by simp [ev_eq, sz_put, hsz])) ?_
        generalize he : (fr == tw) = z at *
        cases z with
        | false =>
          refine wlVal rfl rfl (.bool false) (run_pick w _ _ _ _ rfl _ false _ (by simp [ev_ne, ev_eq, sz_put, hsz]) (by simp [ev_eq, sz_put, hsz])) ?_
          refine wlVal rfl rfl (.bool false) (run_move w _ _ rfl _ _ (by simp [ev_eq, sz_put, hsz])) ?_
          refine wlG 23 28 false rfl rfl rfl rfl (by simp [ev_eq, sz_put, hsz]) (.pointer (some ⟨g1, 2, none⟩)) (run_field 2 (by omega) w _ _ rfl _ g1 (by simp [ev_ne, e1])) ?_
          refine wlG 23 28 false rfl rfl rfl rfl (by simp [ev_ne, ev_eq, sz_put, hsz]) (.int .i64 fi) (run_load3 w _ _ rfl _ ⟨g1, 2, none⟩ (by simp [ev_eq, sz_put, hsz]) _ (mv_cell hg1 2 _ y2)) ?_
          refine wlCG 23 28 false rfl rfl rfl rfl (by simp [ev_ne, ev_eq, sz_put, hsz]) 20 #[(.int .i64 fi)] (.bool x4) (run_call1 20 call20 _ _ _ _ rfl _ _ (by simp [ev_eq, sz_put, hsz])) (c4 _) ?_
          cases x4 with
          | false =>
            refine wlG 23 28 false rfl rfl rfl rfl (by simp [ev_ne, ev_eq, sz_put, hsz]) (.bool true) (run_not w _ _ rfl _ false (by simp [ev_eq, sz_put, hsz])) ?_
            refine wlVal rfl rfl (.bool true) (run_pick w _ _ _ _ rfl _ false _ (by simp [ev_ne, ev_eq, sz_put, hsz]) (by simp [ev_eq, sz_put, hsz])) ?_
            exact wlDone <| h _ (by simp [sz_put, hsz]) (by simp [def_put, hdf]) (by simp [ev_ne, e1]) (by simp [ev_eq, sz_put, hsz])
          | true =>
            refine wlG 23 28 false rfl rfl rfl rfl (by simp [ev_ne, ev_eq, sz_put, hsz]) (.bool false) (run_not w _ _ rfl _ true (by simp [ev_eq, sz_put, hsz])) ?_
            refine wlVal rfl rfl (.bool false) (run_pick w _ _ _ _ rfl _ false _ (by simp [ev_ne, ev_eq, sz_put, hsz]) (by simp [ev_eq, sz_put, hsz])) ?_
            exact wlDone <| h _ (by simp [sz_put, hsz]) (by simp [def_put, hdf]) (by simp [ev_ne, e1]) (by simp [ev_eq, sz_put, hsz])
        | true =>
          refine wlVal rfl rfl (.bool true) (run_pick w _ _ _ _ rfl _ false _ (by simp [ev_ne, ev_eq, sz_put, hsz]) (by simp [ev_eq, sz_put, hsz])) ?_
          refine wlVal rfl rfl (.bool true) (run_move w _ _ rfl _ _ (by simp [ev_eq, sz_put, hsz])) ?_
          refine wlN 23 28 false true rfl rfl rfl rfl (by simp [ev_eq, sz_put, hsz]) (by decide) ?_
          refine wlN 23 28 false true rfl rfl rfl rfl (by simp [ev_ne, ev_eq, sz_put, hsz]) (by decide) ?_
          refine wlN 23 28 false true rfl rfl rfl rfl (by simp [ev_ne, ev_eq, sz_put, hsz]) (by decide) ?_
          refine wlN 23 28 false true rfl rfl rfl rfl (by simp [ev_ne, ev_eq, sz_put, hsz]) (by decide) ?_
          refine wlVal rfl rfl (.bool true) (run_pick w _ _ _ _ rfl _ true _ (by simp [ev_ne, ev_eq, sz_put, hsz]) (by simp [ev_const])) ?_
          exact wlDone <| h _ (by simp [sz_put, hsz]) (by simp [def_put, hdf]) (by simp [ev_ne, e1]) (by simp [ev_eq, sz_put, hsz])
def r2_0 (p : String) : Oper := { dst := some 2, op := Op.assign (Operand.const (Value.bool false)), type := 4, pos := p, after := #[], guard := none }
def r2 (p : String) : Array Oper := #[r2_0 p]
set_option maxRecDepth 100000 in
set_option maxHeartbeats 1000000 in
theorem reg2 {Q : Exit → Act → World → Prop} (id : Nat) (p : String) (a : Act) (w : World) (hsz : a.tmps.size = 347) (h : ∀ a', a'.defers = a.defers → a'.eval (.tmp 2) = .bool false → Q .normal a' w) :
    (Code.region id (r2 p) false).wp Try.prog Q a w := by
  refine wlStart (l := [r2_0 p]) rfl ?_
  refine wlVal rfl rfl (.bool false) (run_assign _ _ _ rfl _ _ (by simp [ev_const])) ?_
  exact wlDone <| h _ (by simp [def_put]) (by simp [ev_eq, hsz])
def r3_0 (p : String) : Oper := { dst := some 34, op := Op.fieldAddr 24 (Operand.tmp 1) 0, type := 0, pos := p, after := #[], guard := none }
def r3_1 (p : String) : Oper := { dst := some 35, op := Op.load 3 (Operand.tmp 34), type := 3, pos := p, after := #[{ on := 0, ground := Ground.data }], guard := none }
def r3_2 (p : String) : Oper := { dst := some 36, op := Op.fieldAddr 24 (Operand.tmp 1) 1, type := 0, pos := p, after := #[], guard := none }
def r3_3 (p : String) : Oper := { dst := some 37, op := Op.load 3 (Operand.tmp 36), type := 3, pos := p, after := #[{ on := 2, ground := Ground.data }], guard := none }
def r3_4 (p : String) : Oper := { dst := some 38, op := Op.fieldAddr 24 (Operand.tmp 1) 2, type := 0, pos := p, after := #[], guard := none }
def r3_5 (p : String) : Oper := { dst := some 39, op := Op.load 3 (Operand.tmp 38), type := 3, pos := p, after := #[{ on := 4, ground := Ground.data }], guard := none }
def r3_6 (p : String) : Oper := { dst := some 40, op := Op.fieldAddr 24 (Operand.tmp 1) 3, type := 0, pos := p, after := #[], guard := none }
def r3_7 (p : String) : Oper := { dst := some 41, op := Op.load 3 (Operand.tmp 40), type := 3, pos := p, after := #[{ on := 6, ground := Ground.data }], guard := none }
def r3_8 (p : String) : Oper := { dst := some 42, op := Op.fieldAddr 24 (Operand.tmp 1) 4, type := 0, pos := p, after := #[], guard := none }
def r3_9 (p : String) : Oper := { dst := some 43, op := Op.load 3 (Operand.tmp 42), type := 3, pos := p, after := #[{ on := 8, ground := Ground.data }], guard := none }
def r3_10 (p : String) : Oper := { dst := some 44, op := Op.fieldAddr 24 (Operand.tmp 1) 5, type := 0, pos := p, after := #[], guard := none }
def r3_11 (p : String) : Oper := { dst := some 45, op := Op.load 3 (Operand.tmp 44), type := 3, pos := p, after := #[{ on := 10, ground := Ground.data }], guard := none }
def r3_12 (p : String) : Oper := { dst := some 46, op := Op.build 24 #[(0, Operand.tmp 35), (1, Operand.tmp 37), (2, Operand.tmp 39), (3, Operand.tmp 41), (4, Operand.tmp 43), (5, Operand.tmp 45)], type := 24, pos := p, after := #[{ on := 1, ground := Ground.data }, { on := 3, ground := Ground.data }, { on := 5, ground := Ground.data }, { on := 7, ground := Ground.data }, { on := 9, ground := Ground.data }, { on := 11, ground := Ground.data }], guard := none }
def r3_13 (p : String) : Oper := { dst := some 3, op := Op.alloc 24, type := 0, pos := p, after := #[], guard := none }
def r3_14 (p : String) : Oper := { dst := none, op := Op.store 24 (Operand.tmp 3) (Operand.tmp 46), type := 0, pos := p, after := #[{ on := 13, ground := Ground.data }, { on := 12, ground := Ground.data }, { on := 0, ground := Ground.phase }, { on := 1, ground := Ground.phase }, { on := 2, ground := Ground.phase }, { on := 3, ground := Ground.phase }, { on := 4, ground := Ground.phase }, { on := 5, ground := Ground.phase }, { on := 6, ground := Ground.phase }, { on := 7, ground := Ground.phase }, { on := 8, ground := Ground.phase }, { on := 9, ground := Ground.phase }, { on := 10, ground := Ground.phase }, { on := 11, ground := Ground.phase }, { on := 12, ground := Ground.phase }, { on := 13, ground := Ground.phase }], guard := none }
def r3 (p : String) : Array Oper := #[r3_0 p, r3_1 p, r3_2 p, r3_3 p, r3_4 p, r3_5 p, r3_6 p, r3_7 p, r3_8 p, r3_9 p, r3_10 p, r3_11 p, r3_12 p, r3_13 p, r3_14 p]
set_option maxRecDepth 100000 in
set_option maxHeartbeats 1000000 in
theorem reg3 {Q : Exit → Act → World → Prop} (id : Nat) (p : String) (a : Act) (w : World) (g1 : Nat) (cs : Array Value) (kd fr fi tw ti tp : Int) (hsz : a.tmps.size = 347) (hdf : a.defers = []) (e1 : a.eval (.tmp 1) = .pointer (some ⟨g1, 0, none⟩)) (hg1 : w.heap[g1]? = some (.cells cs 24)) (y0 : cs[0]? = some (.int .i64 kd)) (y1 : cs[1]? = some (.int .i64 fr)) (y2 : cs[2]? = some (.int .i64 fi)) (y3 : cs[3]? = some (.int .i64 tw)) (y4 : cs[4]? = some (.int .i64 ti)) (y5 : cs[5]? = some (.int .i64 tp))
    (h : ∀ a', Fa a' g1 w.heap.size → Q .normal a' (w.alloc (.cells #[.int .i64 kd, .int .i64 fr, .int .i64 fi, .int .i64 tw, .int .i64 ti, .int .i64 tp, .int .i64 0, .int .i64 0, .int .i64 0, .int .i64 0, .int .i64 0, .int .i64 0, .int .i64 0, .int .i64 0, .slice none 0 0, .slice none 0 0] 24))) :
    (Code.region id (r3 p) false).wp Try.prog Q a w := by
  refine wlStart (l := [r3_0 p, r3_1 p, r3_2 p, r3_3 p, r3_4 p, r3_5 p, r3_6 p, r3_7 p, r3_8 p, r3_9 p, r3_10 p, r3_11 p, r3_12 p, r3_13 p, r3_14 p]) rfl ?_
  refine wlVal rfl rfl (.pointer (some ⟨g1, 0, none⟩)) (run_field 0 (by omega) w _ _ rfl _ g1 (by simp [e1])) ?_
  refine wlVal rfl rfl (.int .i64 kd) (run_load3 w _ _ rfl _ ⟨g1, 0, none⟩ (by simp [ev_eq, hsz]) _ (mv_cell hg1 0 _ y0)) ?_
  refine wlVal rfl rfl (.pointer (some ⟨g1, 1, none⟩)) (run_field 1 (by omega) w _ _ rfl _ g1 (by simp [ev_ne, e1])) ?_
  refine wlVal rfl rfl (.int .i64 fr) (run_load3 w _ _ rfl _ ⟨g1, 1, none⟩ (by simp [ev_eq, sz_put, hsz]) _ (mv_cell hg1 1 _ y1)) ?_
  refine wlVal rfl rfl (.pointer (some ⟨g1, 2, none⟩)) (run_field 2 (by omega) w _ _ rfl _ g1 (by simp [ev_ne, e1])) ?_
  refine wlVal rfl rfl (.int .i64 fi) (run_load3 w _ _ rfl _ ⟨g1, 2, none⟩ (by simp [ev_eq, sz_put, hsz]) _ (mv_cell hg1 2 _ y2)) ?_
  refine wlVal rfl rfl (.pointer (some ⟨g1, 3, none⟩)) (run_field 3 (by omega) w _ _ rfl _ g1 (by simp [ev_ne, e1])) ?_
  refine wlVal rfl rfl (.int .i64 tw) (run_load3 w _ _ rfl _ ⟨g1, 3, none⟩ (by simp [ev_eq, sz_put, hsz]) _ (mv_cell hg1 3 _ y3)) ?_
  refine wlVal rfl rfl (.pointer (some ⟨g1, 4, none⟩)) (run_field 4 (by omega) w _ _ rfl _ g1 (by simp [ev_ne, e1])) ?_
  refine wlVal rfl rfl (.int .i64 ti) (run_load3 w _ _ rfl _ ⟨g1, 4, none⟩ (by simp [ev_eq, sz_put, hsz]) _ (mv_cell hg1 4 _ y4)) ?_
  refine wlVal rfl rfl (.pointer (some ⟨g1, 5, none⟩)) (run_field 5 (by omega) w _ _ rfl _ g1 (by simp [ev_ne, e1])) ?_
  refine wlVal rfl rfl (.int .i64 tp) (run_load3 w _ _ rfl _ ⟨g1, 5, none⟩ (by simp [ev_eq, sz_put, hsz]) _ (mv_cell hg1 5 _ y5)) ?_
  refine wlBuilt rfl rfl 24 _ rfl [(0, .int .i64 kd), (1, .int .i64 fr), (2, .int .i64 fi), (3, .int .i64 tw), (4, .int .i64 ti), (5, .int .i64 tp)] #[.int .i64 kd, .int .i64 fr, .int .i64 fi, .int .i64 tw, .int .i64 ti, .int .i64 tp, .int .i64 0, .int .i64 0, .int .i64 0, .int .i64 0, .int .i64 0, .int .i64 0, .int .i64 0, .int .i64 0, .slice none 0 0, .slice none 0 0] (by simp [ev_ne, ev_eq, sz_put, hsz]) (by kernel_rfl) ?_
  refine wlValw rfl rfl _ (run_alloc24 _ _ rfl _) ?_
  refine wlLast rfl rfl (.tmp 3) (.tmp 46) rfl w.heap.size #[.int .i64 kd, .int .i64 fr, .int .i64 fi, .int .i64 tw, .int .i64 ti, .int .i64 tp, .int .i64 0, .int .i64 0, .int .i64 0, .int .i64 0, .int .i64 0, .int .i64 0, .int .i64 0, .int .i64 0, .slice none 0 0, .slice none 0 0] (by simp [ev_eq, sz_put, hsz]) (by simp [ev_ne, ev_eq, sz_put, hsz]) rfl zero16 rfl rfl (by simp [Value.oneCell']) ?_
  exact wlDone <| h _ ⟨by simp [sz_put, hsz], by simp [def_put, hdf], by simp [ev_ne, e1], by simp [ev_eq, sz_put, hsz]⟩
end Go.Proofs.Ytokgbolmjfmfpaa
