/- The page's Msg: its regions up to the kinds, over any frame. -/
import Derived.Test.YtokgbolmjfmfpaaE3
namespace Go.Proofs.Ytokgbolmjfmfpaa
open Go.RowKit

def r4_0 (p : String) : Oper := { dst := some 47, op := Op.fieldAddr 24 (Operand.tmp 1) 0, type := 0, pos := p, after := #[], guard := none }
def r4_1 (p : String) : Oper := { dst := some 48, op := Op.load 3 (Operand.tmp 47), type := 3, pos := p, after := #[{ on := 0, ground := Ground.data }], guard := none }
def r4_2 (p : String) : Oper := { dst := some 49, op := Op.binOp BinOp.eql 3 (Operand.tmp 48) (Operand.const (Value.int IntKind.i64 1)) 3, type := 4, pos := p, after := #[{ on := 1, ground := Ground.data }], guard := none }
def r4 (p : String) : Array Oper := #[r4_0 p, r4_1 p, r4_2 p]
set_option maxRecDepth 100000 in
set_option maxHeartbeats 1000000 in
theorem reg4 {Q : Exit → Act → World → Prop} (id : Nat) (p : String) (a : Act) (w : World) (g1 g3 : Nat) (cs : Array Value) (kd : Int)
    (f : Fa a g1 g3) (hg1 : w.heap[g1]? = some (.cells cs 24)) (y0 : cs[0]? = some (.int .i64 kd)) 
    (h : ∀ a', Fa a' g1 g3 → a'.eval (.tmp 49) = .bool (kd == 1) → Q .normal a' w) :
    (Code.region id (r4 p) false).wp Try.prog Q a w := by
  have hsz := f.sz
  have hdf := f.df
  have e1 := f.e1
  have e3 := f.e3
  refine wlStart (l := [r4_0 p, r4_1 p, r4_2 p]) rfl ?_
  refine wlVal rfl rfl (.pointer (some ⟨g1, 0, none⟩)) (run_field 0 (by omega) w _ _ rfl _ g1 (by simp [e1])) ?_
  refine wlVal rfl rfl (.int .i64 kd) (run_load3 w _ _ rfl _ ⟨g1, 0, none⟩ (by simp [ev_eq, hsz]) _ (mv_cell hg1 0 _ y0)) ?_
  refine wlVal rfl rfl (.bool (kd == 1)) (run_eql3 w _ _ _ rfl _ kd 1 (by simp [ev_eq, sz_put, hsz]) (by simp [ev_const])) ?_
  exact wlDone <| h _ ⟨by simp [sz_put, hsz], by simp [def_put, hdf], by simp [ev_ne, e1], by simp [ev_ne, e3]⟩ (by simp [ev_eq, sz_put, hsz])
def r5_0 (p : String) : Oper := { dst := some 50, op := Op.fieldAddr 24 (Operand.tmp 3) 4, type := 0, pos := p, after := #[], guard := none }
def r5_1 (p : String) : Oper := { dst := none, op := Op.store 3 (Operand.tmp 50) (Operand.const (Value.int IntKind.i64 0)), type := 0, pos := p, after := #[{ on := 0, ground := Ground.data }], guard := none }
def r5_2 (p : String) : Oper := { dst := some 51, op := Op.fieldAddr 24 (Operand.tmp 3) 5, type := 0, pos := p, after := #[{ on := 0, ground := Ground.phase }, { on := 1, ground := Ground.phase }], guard := none }
def r5_3 (p : String) : Oper := { dst := none, op := Op.store 3 (Operand.tmp 51) (Operand.const (Value.int IntKind.i64 0)), type := 0, pos := p, after := #[{ on := 2, ground := Ground.data }, { on := 1, ground := Ground.chain }, { on := 0, ground := Ground.phase }, { on := 1, ground := Ground.phase }], guard := none }
def r5 (p : String) : Array Oper := #[r5_0 p, r5_1 p, r5_2 p, r5_3 p]
set_option maxRecDepth 100000 in
set_option maxHeartbeats 1000000 in
theorem reg5 {Q : Exit → Act → World → Prop} (id : Nat) (p : String) (a : Act) (w : World) (g1 g3 : Nat) (ds : Array Value)
    (f : Fa a g1 g3) (hg3 : w.heap[g3]? = some (.cells ds 24)) (hd : ds.size = 16) 
    (h : ∀ a' w', Fa a' g1 g3 → Below g3 w w' → w'.heap[g3]? = some (.cells ((ds.setIfInBounds 4 (.int .i64 0)).setIfInBounds 5 (.int .i64 0)) 24) → Q .normal a' w') :
    (Code.region id (r5 p) false).wp Try.prog Q a w := by
  have hsz := f.sz
  have hdf := f.df
  have e1 := f.e1
  have e3 := f.e3
  refine wlStart (l := [r5_0 p, r5_1 p, r5_2 p, r5_3 p]) rfl ?_
  refine wlVal rfl rfl (.pointer (some ⟨g3, 4, none⟩)) (run_field 4 (by omega) w _ _ rfl _ g3 (by simp [e3])) ?_
  obtain ⟨u0, hu0⟩ : ∃ u, (ds)[4]? = some u := by simp [hd]
  refine wlStore rfl rfl (run_store3 _ _ _ _ rfl _ ⟨g3, 4, none⟩ (by simp [ev_eq, hsz]) 0 (by simp [ev_const]) u0 (mv_cell hg3 4 _ hu0) (frozen_of_row _ g3 4 _ _ hg3)) ?_
  have hx1 := heap_setCell_same w g3 4 _ _ (.int .i64 0) hg3
  have bx1 := (Below.refl g3 w).setCell (p := ⟨g3, 4, none⟩) (Nat.le_refl _) (.int .i64 0)
  refine wlVal rfl rfl (.pointer (some ⟨g3, 5, none⟩)) (run_field 5 (by omega) (w.setCell ⟨g3, 4, none⟩ (.int .i64 0)) _ _ rfl _ g3 (by simp [ev_ne, e3])) ?_
  obtain ⟨u1, hu1⟩ : ∃ u, ((ds).setIfInBounds 4 (.int .i64 0))[5]? = some u := by simp [hd]
  refine wlStore rfl rfl (run_store3 _ _ _ _ rfl _ ⟨g3, 5, none⟩ (by simp [ev_eq, sz_put, hsz]) 0 (by simp [ev_const]) u1 (mv_cell hx1 5 _ hu1) (frozen_of_row _ g3 5 _ _ hx1)) ?_
  have hx2 := heap_setCell_same (w.setCell ⟨g3, 4, none⟩ (.int .i64 0)) g3 5 _ _ (.int .i64 0) hx1
  have bx2 := bx1.setCell (p := ⟨g3, 5, none⟩) (Nat.le_refl _) (.int .i64 0)
  exact wlDone <| h _ _ ⟨by simp [sz_put, hsz], by simp [def_put, hdf], by simp [ev_ne, e1], by simp [ev_ne, e3]⟩ bx2 hx2
def r6_0 (p : String) : Oper := { dst := some 52, op := Op.fieldAddr 24 (Operand.tmp 1) 4, type := 0, pos := p, after := #[], guard := none }
def r6_1 (p : String) : Oper := { dst := some 53, op := Op.load 3 (Operand.tmp 52), type := 3, pos := p, after := #[{ on := 0, ground := Ground.data }], guard := none }
def r6_2 (p : String) : Oper := { dst := some 54, op := Op.call { callee := Callee.value (Operand.func 20), args := #[Operand.tmp 53], argTypes := #[3] }, type := 4, pos := p, after := #[{ on := 1, ground := Ground.data }], guard := none }
def r6_3 (p : String) : Oper := { dst := some 55, op := Op.unOp UnOp.not 4 (Operand.tmp 54), type := 4, pos := p, after := #[{ on := 2, ground := Ground.data }], guard := none }
def r6_4 (p : String) : Oper := { dst := some 56, op := Op.move (Operand.tmp 55), type := 4, pos := p, after := #[{ on := 3, ground := Ground.data }, { on := 2, ground := Ground.chain }], guard := none }
def r6_5 (p : String) : Oper := { dst := some 57, op := Op.fieldAddr 24 (Operand.tmp 1) 5, type := 0, pos := p, after := #[{ on := 4, ground := Ground.guard }], guard := some (4, false) }
def r6_6 (p : String) : Oper := { dst := some 58, op := Op.load 3 (Operand.tmp 57), type := 3, pos := p, after := #[{ on := 5, ground := Ground.data }, { on := 4, ground := Ground.guard }], guard := some (4, false) }
def r6_7 (p : String) : Oper := { dst := some 59, op := Op.call { callee := Callee.value (Operand.func 21), args := #[Operand.tmp 58], argTypes := #[3] }, type := 4, pos := p, after := #[{ on := 6, ground := Ground.data }, { on := 4, ground := Ground.chain }, { on := 4, ground := Ground.guard }], guard := some (4, false) }
def r6_8 (p : String) : Oper := { dst := some 60, op := Op.unOp UnOp.not 4 (Operand.tmp 59), type := 4, pos := p, after := #[{ on := 7, ground := Ground.data }, { on := 4, ground := Ground.guard }], guard := some (4, false) }
def r6_9 (p : String) : Oper := { dst := some 61, op := Op.pick (Operand.tmp 56) (Operand.const (Value.bool true)) (Operand.tmp 60), type := 4, pos := p, after := #[{ on := 4, ground := Ground.data }, { on := 8, ground := Ground.data }], guard := none }
def r6 (p : String) : Array Oper := #[r6_0 p, r6_1 p, r6_2 p, r6_3 p, r6_4 p, r6_5 p, r6_6 p, r6_7 p, r6_8 p, r6_9 p]
set_option maxRecDepth 100000 in
set_option maxHeartbeats 1000000 in
theorem reg6 {Q : Exit → Act → World → Prop} (id : Nat) (p : String) (a : Act) (w : World) (g1 g3 : Nat) (cs : Array Value) (ti tp : Int) (x0 x1 : Bool)
    (f : Fa a g1 g3) (hg1 : w.heap[g1]? = some (.cells cs 24)) (y4 : cs[4]? = some (.int .i64 ti)) (y5 : cs[5]? = some (.int .i64 tp)) (c0 : ∀ w, Calls Try.prog 20 #[.int .i64 ti] w fun e w' => e = .returned (.bool x0) ∧ w' = w) (c1 : ∀ w, Calls Try.prog 21 #[.int .i64 tp] w fun e w' => e = .returned (.bool x1) ∧ w' = w)
    (h : ∀ a', Fa a' g1 g3 → a'.eval (.tmp 61) = .bool (!(x0 && x1)) → Q .normal a' w) :
    (Code.region id (r6 p) false).wp Try.prog Q a w := by
  have hsz := f.sz
  have hdf := f.df
  have e1 := f.e1
  have e3 := f.e3
  refine wlStart (l := [r6_0 p, r6_1 p, r6_2 p, r6_3 p, r6_4 p, r6_5 p, r6_6 p, r6_7 p, r6_8 p, r6_9 p]) rfl ?_
  refine wlVal rfl rfl (.pointer (some ⟨g1, 4, none⟩)) (run_field 4 (by omega) w _ _ rfl _ g1 (by simp [e1])) ?_
  refine wlVal rfl rfl (.int .i64 ti) (run_load3 w _ _ rfl _ ⟨g1, 4, none⟩ (by simp [ev_eq, hsz]) _ (mv_cell hg1 4 _ y4)) ?_
  refine wlC rfl rfl 20 #[(.int .i64 ti)] (.bool x0) (run_call1 20 call20 _ _ _ _ rfl _ _ (by simp [ev_eq, sz_put, hsz])) (c0 _) ?_
  cases x0 with
  | false =>
    refine wlVal rfl rfl (.bool true) (run_not w _ _ rfl _ false (by simp [ev_eq, sz_put, hsz])) ?_
    refine wlVal rfl rfl (.bool true) (run_move w _ _ rfl _ _ (by simp [ev_eq, sz_put, hsz])) ?_
    refine wlN 4 56 false true rfl rfl rfl rfl (by simp [ev_eq, sz_put, hsz]) (by decide) ?_
    refine wlN 4 56 false true rfl rfl rfl rfl (by simp [ev_ne, ev_eq, sz_put, hsz]) (by decide) ?_
    refine wlN 4 56 false true rfl rfl rfl rfl (by simp [ev_ne, ev_eq, sz_put, hsz]) (by decide) ?_
    refine wlN 4 56 false true rfl rfl rfl rfl (by simp [ev_ne, ev_eq, sz_put, hsz]) (by decide) ?_
    refine wlVal rfl rfl (.bool true) (run_pick w _ _ _ _ rfl _ true _ (by simp [ev_ne, ev_eq, sz_put, hsz]) (by simp [ev_const])) ?_
    exact wlDone <| h _ ⟨by simp [sz_put, hsz], by simp [def_put, hdf], by simp [ev_ne, e1], by simp [ev_ne, e3]⟩ (by simp [ev_eq, sz_put, hsz])
  | true =>
    refine wlVal rfl rfl (.bool false) (run_not w _ _ rfl _ true (by simp [ev_eq, sz_put, hsz])) ?_
    refine wlVal rfl rfl (.bool false) (run_move w _ _ rfl _ _ (by simp [ev_eq, sz_put, hsz])) ?_
    refine wlG 4 56 false rfl rfl rfl rfl (by simp [ev_eq, sz_put, hsz]) (.pointer (some ⟨g1, 5, none⟩)) (run_field 5 (by omega) w _ _ rfl _ g1 (by simp [ev_ne, e1])) ?_
    refine wlG 4 56 false rfl rfl rfl rfl (by simp [ev_ne, ev_eq, sz_put, hsz]) (.int .i64 tp) (run_load3 w _ _ rfl _ ⟨g1, 5, none⟩ (by simp [ev_eq, sz_put, hsz]) _ (mv_cell hg1 5 _ y5)) ?_
    refine wlCG 4 56 false rfl rfl rfl rfl (by simp [ev_ne, ev_eq, sz_put, hsz]) 21 #[(.int .i64 tp)] (.bool x1) (run_call1 21 call21 _ _ _ _ rfl _ _ (by simp [ev_eq, sz_put, hsz])) (c1 _) ?_
    cases x1 with
    | false =>
      refine wlG 4 56 false rfl rfl rfl rfl (by simp [ev_ne, ev_eq, sz_put, hsz]) (.bool true) (run_not w _ _ rfl _ false (by simp [ev_eq, sz_put, hsz])) ?_
      refine wlVal rfl rfl (.bool true) (run_pick w _ _ _ _ rfl _ false _ (by simp [ev_ne, ev_eq, sz_put, hsz]) (by simp [ev_eq, sz_put, hsz])) ?_
      exact wlDone <| h _ ⟨by simp [sz_put, hsz], by simp [def_put, hdf], by simp [ev_ne, e1], by simp [ev_ne, e3]⟩ (by simp [ev_eq, sz_put, hsz])
    | true =>
      refine wlG 4 56 false rfl rfl rfl rfl (by simp [ev_ne, ev_eq, sz_put, hsz]) (.bool false) (run_not w _ _ rfl _ true (by simp [ev_eq, sz_put, hsz])) ?_
      refine wlVal rfl rfl (.bool false) (run_pick w _ _ _ _ rfl _ false _ (by simp [ev_ne, ev_eq, sz_put, hsz]) (by simp [ev_eq, sz_put, hsz])) ?_
      exact wlDone <| h _ ⟨by simp [sz_put, hsz], by simp [def_put, hdf], by simp [ev_ne, e1], by simp [ev_ne, e3]⟩ (by simp [ev_eq, sz_put, hsz])
def r7_0 (p : String) : Oper := { dst := some 2, op := Op.assign (Operand.const (Value.bool false)), type := 4, pos := p, after := #[], guard := none }
def r7 (p : String) : Array Oper := #[r7_0 p]
set_option maxRecDepth 100000 in
set_option maxHeartbeats 1000000 in
theorem reg7 {Q : Exit → Act → World → Prop} (id : Nat) (p : String) (a : Act) (w : World) (g1 g3 : Nat)
    (f : Fa a g1 g3) 
    (h : ∀ a', Fa a' g1 g3 → a'.eval (.tmp 2) = .bool false → Q .normal a' w) :
    (Code.region id (r7 p) false).wp Try.prog Q a w := by
  have hsz := f.sz
  have hdf := f.df
  have e1 := f.e1
  have e3 := f.e3
  refine wlStart (l := [r7_0 p]) rfl ?_
  refine wlVal rfl rfl (.bool false) (run_assign w _ _ rfl _ _ (by simp [ev_const])) ?_
  exact wlDone <| h _ ⟨by simp [sz_put, hsz], by simp [def_put, hdf], by simp [ev_ne, e1], by simp [ev_ne, e3]⟩ (by simp [ev_eq, hsz])
def r8_0 (p : String) : Oper := { dst := some 4, op := Op.assign (Operand.const (Value.bool true)), type := 4, pos := p, after := #[], guard := none }
def r8 (p : String) : Array Oper := #[r8_0 p]
set_option maxRecDepth 100000 in
set_option maxHeartbeats 1000000 in
theorem reg8 {Q : Exit → Act → World → Prop} (id : Nat) (p : String) (a : Act) (w : World) (g1 g3 : Nat)
    (f : Fa a g1 g3) 
    (h : ∀ a', Fa a' g1 g3 → a'.eval (.tmp 4) = .bool true → Q .normal a' w) :
    (Code.region id (r8 p) false).wp Try.prog Q a w := by
  have hsz := f.sz
  have hdf := f.df
  have e1 := f.e1
  have e3 := f.e3
  refine wlStart (l := [r8_0 p]) rfl ?_
  refine wlVal rfl rfl (.bool true) (run_assign w _ _ rfl _ _ (by simp [ev_const])) ?_
  exact wlDone <| h _ ⟨by simp [sz_put, hsz], by simp [def_put, hdf], by simp [ev_ne, e1], by simp [ev_ne, e3]⟩ (by simp [ev_eq, hsz])
def r9_0 (p : String) : Oper := { dst := some 62, op := Op.fieldAddr 24 (Operand.tmp 1) 0, type := 0, pos := p, after := #[], guard := none }
def r9_1 (p : String) : Oper := { dst := some 63, op := Op.load 3 (Operand.tmp 62), type := 3, pos := p, after := #[{ on := 0, ground := Ground.data }], guard := none }
def r9 (p : String) : Array Oper := #[r9_0 p, r9_1 p]
set_option maxRecDepth 100000 in
set_option maxHeartbeats 1000000 in
theorem reg9 {Q : Exit → Act → World → Prop} (id : Nat) (p : String) (a : Act) (w : World) (g1 g3 : Nat) (cs : Array Value) (kd : Int)
    (f : Fa a g1 g3) (e4 : a.eval (.tmp 4) = .bool true) (hg1 : w.heap[g1]? = some (.cells cs 24)) (y0 : cs[0]? = some (.int .i64 kd)) 
    (h : ∀ a', Fr a' g1 g3 true kd → Q .normal a' w) :
    (Code.region id (r9 p) false).wp Try.prog Q a w := by
  have hsz := f.sz
  have hdf := f.df
  have e1 := f.e1
  have e3 := f.e3
  refine wlStart (l := [r9_0 p, r9_1 p]) rfl ?_
  refine wlVal rfl rfl (.pointer (some ⟨g1, 0, none⟩)) (run_field 0 (by omega) w _ _ rfl _ g1 (by simp [e1])) ?_
  refine wlVal rfl rfl (.int .i64 kd) (run_load3 w _ _ rfl _ ⟨g1, 0, none⟩ (by simp [ev_eq, hsz]) _ (mv_cell hg1 0 _ y0)) ?_
  exact wlDone <| h _ ⟨⟨by simp [sz_put, hsz], by simp [def_put, hdf], by simp [ev_ne, e1], by simp [ev_ne, e3]⟩, by simp [ev_ne, e4], by simp [ev_eq, sz_put, hsz]⟩
def r10_0 (p : String) : Oper := { dst := some 65, op := Op.binOp BinOp.eql 3 (Operand.tmp 63) (Operand.const (Value.int IntKind.i64 2)) 3, type := 4, pos := p, after := #[], guard := none }
def r10_1 (p : String) : Oper := { dst := some 64, op := Op.assign (Operand.tmp 65), type := 4, pos := p, after := #[{ on := 0, ground := Ground.data }], guard := none }
def r10 (p : String) : Array Oper := #[r10_0 p, r10_1 p]
set_option maxRecDepth 100000 in
set_option maxHeartbeats 1000000 in
theorem reg10 {Q : Exit → Act → World → Prop} (id : Nat) (p : String) (a : Act) (w : World) (g1 g3 : Nat) (o : Bool) (kd : Int)
    (f : Fr a g1 g3 o kd) 
    (h : ∀ a', Fr a' g1 g3 o kd → a'.eval (.tmp 64) = .bool (kd == 2) → Q .normal a' w) :
    (Code.region id (r10 p) false).wp Try.prog Q a w := by
  have hsz := f.fa.sz
  have hdf := f.fa.df
  have e1 := f.fa.e1
  have e3 := f.fa.e3
  have e4 := f.e4
  have ek := f.ek
  refine wlStart (l := [r10_0 p, r10_1 p]) rfl ?_
  refine wlVal rfl rfl (.bool (kd == 2)) (run_eql3 w _ _ _ rfl _ kd 2 (by simp [ek]) (by simp [ev_const])) ?_
  refine wlVal rfl rfl (.bool (kd == 2)) (run_assign w _ _ rfl _ _ (by simp [ev_eq, hsz])) ?_
  exact wlDone <| h _ ⟨⟨by simp [sz_put, hsz], by simp [def_put, hdf], by simp [ev_ne, e1], by simp [ev_ne, e3]⟩, by simp [ev_ne, e4], by simp [ev_ne, ek]⟩ (by simp [ev_eq, sz_put, hsz])
def r13_0 (p : String) : Oper := { dst := some 73, op := Op.binOp BinOp.eql 3 (Operand.tmp 63) (Operand.const (Value.int IntKind.i64 3)) 3, type := 4, pos := p, after := #[], guard := none }
def r13_1 (p : String) : Oper := { dst := some 72, op := Op.assign (Operand.tmp 73), type := 4, pos := p, after := #[{ on := 0, ground := Ground.data }], guard := none }
def r13 (p : String) : Array Oper := #[r13_0 p, r13_1 p]
set_option maxRecDepth 100000 in
set_option maxHeartbeats 1000000 in
theorem reg13 {Q : Exit → Act → World → Prop} (id : Nat) (p : String) (a : Act) (w : World) (g1 g3 : Nat) (o : Bool) (kd : Int)
    (f : Fr a g1 g3 o kd) 
    (h : ∀ a', Fr a' g1 g3 o kd → a'.eval (.tmp 72) = .bool (kd == 3) → Q .normal a' w) :
    (Code.region id (r13 p) false).wp Try.prog Q a w := by
  have hsz := f.fa.sz
  have hdf := f.fa.df
  have e1 := f.fa.e1
  have e3 := f.fa.e3
  have e4 := f.e4
  have ek := f.ek
  refine wlStart (l := [r13_0 p, r13_1 p]) rfl ?_
  refine wlVal rfl rfl (.bool (kd == 3)) (run_eql3 w _ _ _ rfl _ kd 3 (by simp [ek]) (by simp [ev_const])) ?_
  refine wlVal rfl rfl (.bool (kd == 3)) (run_assign w _ _ rfl _ _ (by simp [ev_eq, hsz])) ?_
  exact wlDone <| h _ ⟨⟨by simp [sz_put, hsz], by simp [def_put, hdf], by simp [ev_ne, e1], by simp [ev_ne, e3]⟩, by simp [ev_ne, e4], by simp [ev_ne, ek]⟩ (by simp [ev_eq, sz_put, hsz])
def r16_0 (p : String) : Oper := { dst := some 125, op := Op.binOp BinOp.eql 3 (Operand.tmp 63) (Operand.const (Value.int IntKind.i64 4)) 3, type := 4, pos := p, after := #[], guard := none }
def r16_1 (p : String) : Oper := { dst := some 124, op := Op.assign (Operand.tmp 125), type := 4, pos := p, after := #[{ on := 0, ground := Ground.data }], guard := none }
def r16 (p : String) : Array Oper := #[r16_0 p, r16_1 p]
set_option maxRecDepth 100000 in
set_option maxHeartbeats 1000000 in
theorem reg16 {Q : Exit → Act → World → Prop} (id : Nat) (p : String) (a : Act) (w : World) (g1 g3 : Nat) (o : Bool) (kd : Int)
    (f : Fr a g1 g3 o kd) 
    (h : ∀ a', Fr a' g1 g3 o kd → a'.eval (.tmp 124) = .bool (kd == 4) → Q .normal a' w) :
    (Code.region id (r16 p) false).wp Try.prog Q a w := by
  have hsz := f.fa.sz
  have hdf := f.fa.df
  have e1 := f.fa.e1
  have e3 := f.fa.e3
  have e4 := f.e4
  have ek := f.ek
  refine wlStart (l := [r16_0 p, r16_1 p]) rfl ?_
  refine wlVal rfl rfl (.bool (kd == 4)) (run_eql3 w _ _ _ rfl _ kd 4 (by simp [ek]) (by simp [ev_const])) ?_
  refine wlVal rfl rfl (.bool (kd == 4)) (run_assign w _ _ rfl _ _ (by simp [ev_eq, hsz])) ?_
  exact wlDone <| h _ ⟨⟨by simp [sz_put, hsz], by simp [def_put, hdf], by simp [ev_ne, e1], by simp [ev_ne, e3]⟩, by simp [ev_ne, e4], by simp [ev_ne, ek]⟩ (by simp [ev_eq, sz_put, hsz])
def r19_0 (p : String) : Oper := { dst := some 147, op := Op.binOp BinOp.eql 3 (Operand.tmp 63) (Operand.const (Value.int IntKind.i64 7)) 3, type := 4, pos := p, after := #[], guard := none }
def r19_1 (p : String) : Oper := { dst := some 146, op := Op.assign (Operand.tmp 147), type := 4, pos := p, after := #[{ on := 0, ground := Ground.data }], guard := none }
def r19 (p : String) : Array Oper := #[r19_0 p, r19_1 p]
set_option maxRecDepth 100000 in
set_option maxHeartbeats 1000000 in
theorem reg19 {Q : Exit → Act → World → Prop} (id : Nat) (p : String) (a : Act) (w : World) (g1 g3 : Nat) (o : Bool) (kd : Int)
    (f : Fr a g1 g3 o kd) 
    (h : ∀ a', Fr a' g1 g3 o kd → a'.eval (.tmp 146) = .bool (kd == 7) → Q .normal a' w) :
    (Code.region id (r19 p) false).wp Try.prog Q a w := by
  have hsz := f.fa.sz
  have hdf := f.fa.df
  have e1 := f.fa.e1
  have e3 := f.fa.e3
  have e4 := f.e4
  have ek := f.ek
  refine wlStart (l := [r19_0 p, r19_1 p]) rfl ?_
  refine wlVal rfl rfl (.bool (kd == 7)) (run_eql3 w _ _ _ rfl _ kd 7 (by simp [ek]) (by simp [ev_const])) ?_
  refine wlVal rfl rfl (.bool (kd == 7)) (run_assign w _ _ rfl _ _ (by simp [ev_eq, hsz])) ?_
  exact wlDone <| h _ ⟨⟨by simp [sz_put, hsz], by simp [def_put, hdf], by simp [ev_ne, e1], by simp [ev_ne, e3]⟩, by simp [ev_ne, e4], by simp [ev_ne, ek]⟩ (by simp [ev_eq, sz_put, hsz])
def r22_0 (p : String) : Oper := { dst := some 171, op := Op.binOp BinOp.eql 3 (Operand.tmp 63) (Operand.const (Value.int IntKind.i64 8)) 3, type := 4, pos := p, after := #[], guard := none }
def r22_1 (p : String) : Oper := { dst := some 170, op := Op.assign (Operand.tmp 171), type := 4, pos := p, after := #[{ on := 0, ground := Ground.data }], guard := none }
def r22 (p : String) : Array Oper := #[r22_0 p, r22_1 p]
set_option maxRecDepth 100000 in
set_option maxHeartbeats 1000000 in
theorem reg22 {Q : Exit → Act → World → Prop} (id : Nat) (p : String) (a : Act) (w : World) (g1 g3 : Nat) (o : Bool) (kd : Int)
    (f : Fr a g1 g3 o kd) 
    (h : ∀ a', Fr a' g1 g3 o kd → a'.eval (.tmp 170) = .bool (kd == 8) → Q .normal a' w) :
    (Code.region id (r22 p) false).wp Try.prog Q a w := by
  have hsz := f.fa.sz
  have hdf := f.fa.df
  have e1 := f.fa.e1
  have e3 := f.fa.e3
  have e4 := f.e4
  have ek := f.ek
  refine wlStart (l := [r22_0 p, r22_1 p]) rfl ?_
  refine wlVal rfl rfl (.bool (kd == 8)) (run_eql3 w _ _ _ rfl _ kd 8 (by simp [ek]) (by simp [ev_const])) ?_
  refine wlVal rfl rfl (.bool (kd == 8)) (run_assign w _ _ rfl _ _ (by simp [ev_eq, hsz])) ?_
  exact wlDone <| h _ ⟨⟨by simp [sz_put, hsz], by simp [def_put, hdf], by simp [ev_ne, e1], by simp [ev_ne, e3]⟩, by simp [ev_ne, e4], by simp [ev_ne, ek]⟩ (by simp [ev_eq, sz_put, hsz])
def r25_0 (p : String) : Oper := { dst := some 187, op := Op.binOp BinOp.eql 3 (Operand.tmp 63) (Operand.const (Value.int IntKind.i64 9)) 3, type := 4, pos := p, after := #[], guard := none }
def r25_1 (p : String) : Oper := { dst := some 186, op := Op.assign (Operand.tmp 187), type := 4, pos := p, after := #[{ on := 0, ground := Ground.data }], guard := none }
def r25 (p : String) : Array Oper := #[r25_0 p, r25_1 p]
set_option maxRecDepth 100000 in
set_option maxHeartbeats 1000000 in
theorem reg25 {Q : Exit → Act → World → Prop} (id : Nat) (p : String) (a : Act) (w : World) (g1 g3 : Nat) (o : Bool) (kd : Int)
    (f : Fr a g1 g3 o kd) 
    (h : ∀ a', Fr a' g1 g3 o kd → a'.eval (.tmp 186) = .bool (kd == 9) → Q .normal a' w) :
    (Code.region id (r25 p) false).wp Try.prog Q a w := by
  have hsz := f.fa.sz
  have hdf := f.fa.df
  have e1 := f.fa.e1
  have e3 := f.fa.e3
  have e4 := f.e4
  have ek := f.ek
  refine wlStart (l := [r25_0 p, r25_1 p]) rfl ?_
  refine wlVal rfl rfl (.bool (kd == 9)) (run_eql3 w _ _ _ rfl _ kd 9 (by simp [ek]) (by simp [ev_const])) ?_
  refine wlVal rfl rfl (.bool (kd == 9)) (run_assign w _ _ rfl _ _ (by simp [ev_eq, hsz])) ?_
  exact wlDone <| h _ ⟨⟨by simp [sz_put, hsz], by simp [def_put, hdf], by simp [ev_ne, e1], by simp [ev_ne, e3]⟩, by simp [ev_ne, e4], by simp [ev_ne, ek]⟩ (by simp [ev_eq, sz_put, hsz])
def r28_0 (p : String) : Oper := { dst := some 213, op := Op.binOp BinOp.eql 3 (Operand.tmp 63) (Operand.const (Value.int IntKind.i64 10)) 3, type := 4, pos := p, after := #[], guard := none }
def r28_1 (p : String) : Oper := { dst := some 212, op := Op.assign (Operand.tmp 213), type := 4, pos := p, after := #[{ on := 0, ground := Ground.data }], guard := none }
def r28 (p : String) : Array Oper := #[r28_0 p, r28_1 p]
set_option maxRecDepth 100000 in
set_option maxHeartbeats 1000000 in
theorem reg28 {Q : Exit → Act → World → Prop} (id : Nat) (p : String) (a : Act) (w : World) (g1 g3 : Nat) (o : Bool) (kd : Int)
    (f : Fr a g1 g3 o kd) 
    (h : ∀ a', Fr a' g1 g3 o kd → a'.eval (.tmp 212) = .bool (kd == 10) → Q .normal a' w) :
    (Code.region id (r28 p) false).wp Try.prog Q a w := by
  have hsz := f.fa.sz
  have hdf := f.fa.df
  have e1 := f.fa.e1
  have e3 := f.fa.e3
  have e4 := f.e4
  have ek := f.ek
  refine wlStart (l := [r28_0 p, r28_1 p]) rfl ?_
  refine wlVal rfl rfl (.bool (kd == 10)) (run_eql3 w _ _ _ rfl _ kd 10 (by simp [ek]) (by simp [ev_const])) ?_
  refine wlVal rfl rfl (.bool (kd == 10)) (run_assign w _ _ rfl _ _ (by simp [ev_eq, hsz])) ?_
  exact wlDone <| h _ ⟨⟨by simp [sz_put, hsz], by simp [def_put, hdf], by simp [ev_ne, e1], by simp [ev_ne, e3]⟩, by simp [ev_ne, e4], by simp [ev_ne, ek]⟩ (by simp [ev_eq, sz_put, hsz])
def r31_0 (p : String) : Oper := { dst := some 253, op := Op.binOp BinOp.eql 3 (Operand.tmp 63) (Operand.const (Value.int IntKind.i64 11)) 3, type := 4, pos := p, after := #[], guard := none }
def r31_1 (p : String) : Oper := { dst := some 252, op := Op.assign (Operand.tmp 253), type := 4, pos := p, after := #[{ on := 0, ground := Ground.data }], guard := none }
def r31 (p : String) : Array Oper := #[r31_0 p, r31_1 p]
set_option maxRecDepth 100000 in
set_option maxHeartbeats 1000000 in
theorem reg31 {Q : Exit → Act → World → Prop} (id : Nat) (p : String) (a : Act) (w : World) (g1 g3 : Nat) (o : Bool) (kd : Int)
    (f : Fr a g1 g3 o kd) 
    (h : ∀ a', Fr a' g1 g3 o kd → a'.eval (.tmp 252) = .bool (kd == 11) → Q .normal a' w) :
    (Code.region id (r31 p) false).wp Try.prog Q a w := by
  have hsz := f.fa.sz
  have hdf := f.fa.df
  have e1 := f.fa.e1
  have e3 := f.fa.e3
  have e4 := f.e4
  have ek := f.ek
  refine wlStart (l := [r31_0 p, r31_1 p]) rfl ?_
  refine wlVal rfl rfl (.bool (kd == 11)) (run_eql3 w _ _ _ rfl _ kd 11 (by simp [ek]) (by simp [ev_const])) ?_
  refine wlVal rfl rfl (.bool (kd == 11)) (run_assign w _ _ rfl _ _ (by simp [ev_eq, hsz])) ?_
  exact wlDone <| h _ ⟨⟨by simp [sz_put, hsz], by simp [def_put, hdf], by simp [ev_ne, e1], by simp [ev_ne, e3]⟩, by simp [ev_ne, e4], by simp [ev_ne, ek]⟩ (by simp [ev_eq, sz_put, hsz])
def r34_0 (p : String) : Oper := { dst := some 318, op := Op.binOp BinOp.eql 3 (Operand.tmp 63) (Operand.const (Value.int IntKind.i64 12)) 3, type := 4, pos := p, after := #[], guard := none }
def r34_1 (p : String) : Oper := { dst := some 317, op := Op.assign (Operand.tmp 318), type := 4, pos := p, after := #[{ on := 0, ground := Ground.data }], guard := none }
def r34 (p : String) : Array Oper := #[r34_0 p, r34_1 p]
set_option maxRecDepth 100000 in
set_option maxHeartbeats 1000000 in
theorem reg34 {Q : Exit → Act → World → Prop} (id : Nat) (p : String) (a : Act) (w : World) (g1 g3 : Nat) (o : Bool) (kd : Int)
    (f : Fr a g1 g3 o kd) 
    (h : ∀ a', Fr a' g1 g3 o kd → a'.eval (.tmp 317) = .bool (kd == 12) → Q .normal a' w) :
    (Code.region id (r34 p) false).wp Try.prog Q a w := by
  have hsz := f.fa.sz
  have hdf := f.fa.df
  have e1 := f.fa.e1
  have e3 := f.fa.e3
  have e4 := f.e4
  have ek := f.ek
  refine wlStart (l := [r34_0 p, r34_1 p]) rfl ?_
  refine wlVal rfl rfl (.bool (kd == 12)) (run_eql3 w _ _ _ rfl _ kd 12 (by simp [ek]) (by simp [ev_const])) ?_
  refine wlVal rfl rfl (.bool (kd == 12)) (run_assign w _ _ rfl _ _ (by simp [ev_eq, hsz])) ?_
  exact wlDone <| h _ ⟨⟨by simp [sz_put, hsz], by simp [def_put, hdf], by simp [ev_ne, e1], by simp [ev_ne, e3]⟩, by simp [ev_ne, e4], by simp [ev_ne, ek]⟩ (by simp [ev_eq, sz_put, hsz])
def r37_0 (p : String) : Oper := { dst := some 334, op := Op.binOp BinOp.eql 3 (Operand.tmp 63) (Operand.const (Value.int IntKind.i64 13)) 3, type := 4, pos := p, after := #[], guard := none }
def r37_1 (p : String) : Oper := { dst := some 333, op := Op.assign (Operand.tmp 334), type := 4, pos := p, after := #[{ on := 0, ground := Ground.data }], guard := none }
def r37 (p : String) : Array Oper := #[r37_0 p, r37_1 p]
set_option maxRecDepth 100000 in
set_option maxHeartbeats 1000000 in
theorem reg37 {Q : Exit → Act → World → Prop} (id : Nat) (p : String) (a : Act) (w : World) (g1 g3 : Nat) (o : Bool) (kd : Int)
    (f : Fr a g1 g3 o kd) 
    (h : ∀ a', Fr a' g1 g3 o kd → a'.eval (.tmp 333) = .bool (kd == 13) → Q .normal a' w) :
    (Code.region id (r37 p) false).wp Try.prog Q a w := by
  have hsz := f.fa.sz
  have hdf := f.fa.df
  have e1 := f.fa.e1
  have e3 := f.fa.e3
  have e4 := f.e4
  have ek := f.ek
  refine wlStart (l := [r37_0 p, r37_1 p]) rfl ?_
  refine wlVal rfl rfl (.bool (kd == 13)) (run_eql3 w _ _ _ rfl _ kd 13 (by simp [ek]) (by simp [ev_const])) ?_
  refine wlVal rfl rfl (.bool (kd == 13)) (run_assign w _ _ rfl _ _ (by simp [ev_eq, hsz])) ?_
  exact wlDone <| h _ ⟨⟨by simp [sz_put, hsz], by simp [def_put, hdf], by simp [ev_ne, e1], by simp [ev_ne, e3]⟩, by simp [ev_ne, e4], by simp [ev_ne, ek]⟩ (by simp [ev_eq, sz_put, hsz])
end Go.Proofs.Ytokgbolmjfmfpaa
