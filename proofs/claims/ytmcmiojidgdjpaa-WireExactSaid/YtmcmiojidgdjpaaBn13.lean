/- The page's Msg: the tests of the kinds and the copies of one field, over any frame. The page's Msg: a region that copies fields, whatever order it draws. The page's Msg: a region that copies fields, whatever order it draws. The page's Msg: a region that copies fields, whatever order it draws. The page's Msg: a region that copies fields, whatever order it draws. The page's Msg: a region that copies fields, whatever order it draws. -/
import Derived.Test.YtmcmiojidgdjpaaBn12
namespace Go.Proofs.Ytmcmiojidgdjpaa
open Go.RowKit

def r11_0 (p : String) : Oper := { dst := some 66, op := Op.fieldAddr 24 (Operand.tmp 1) 6, type := 0, pos := p, after := #[], guard := none }
def r11_1 (p : String) : Oper := { dst := some 67, op := Op.load 3 (Operand.tmp 66), type := 3, pos := p, after := #[{ on := 0, ground := Ground.data }], guard := none }
def r11_2 (p : String) : Oper := { dst := some 68, op := Op.call { callee := Callee.value (Operand.func 30), args := #[Operand.tmp 67, Operand.const (Value.int IntKind.i64 0), Operand.const (Value.int IntKind.i64 1073741824)], argTypes := #[3, 3, 3] }, type := 4, pos := p, after := #[{ on := 1, ground := Ground.data }], guard := none }
def r11_3 (p : String) : Oper := { dst := some 4, op := Op.assign (Operand.tmp 68), type := 4, pos := p, after := #[{ on := 2, ground := Ground.data }, { on := 2, ground := Ground.chain }, { on := 0, ground := Ground.phase }, { on := 1, ground := Ground.phase }, { on := 2, ground := Ground.phase }], guard := none }
def r11 (p : String) : Array Oper := #[r11_0 p, r11_1 p, r11_2 p, r11_3 p]
set_option maxRecDepth 100000 in
set_option maxHeartbeats 1000000 in
theorem reg11 {Q : Exit → Act → World → Prop} (id : Nat) (p : String) (a : Act) (w : World) (g1 g3 : Nat) (cs : Array Value) (ep : Int) (o : Bool) (kd : Int) (x0 : Bool)
    (f : Fr a g1 g3 o kd) (hg1 : w.heap[g1]? = some (.cells cs 24)) (y6 : cs[6]? = some (.int .i64 ep)) (c0 : ∀ w, Calls Try.prog 30 #[.int .i64 ep, .int .i64 0, .int .i64 1073741824] w fun e w' => e = .returned (.bool x0) ∧ w' = w)
    (h : ∀ a', Fr a' g1 g3 (x0) kd → Q .normal a' w) :
    (Code.region id (r11 p) false).wp Try.prog Q a w := by
  have hsz := f.fa.sz
  have hdf := f.fa.df
  have e1 := f.fa.e1
  have e3 := f.fa.e3
  have e4 := f.e4
  have ek := f.ek
  refine wlStart (l := [r11_0 p, r11_1 p, r11_2 p, r11_3 p]) rfl ?_
  refine wlVal rfl rfl (.pointer (some ⟨g1, 6, none⟩)) (run_field 6 (by omega) w _ _ rfl _ g1 (by simp [e1])) ?_
  refine wlVal rfl rfl (.int .i64 ep) (run_load3 w _ _ rfl _ ⟨g1, 6, none⟩ (by simp [ev_eq, hsz]) _ (mv_cell hg1 6 _ y6)) ?_
  refine wlC rfl rfl 30 #[(.int .i64 ep), (.int .i64 0), (.int .i64 1073741824)] (.bool x0) (run_call3 30 call18 _ _ _ _ _ _ _ _ rfl _ _ _ _ (by simp [ev_eq, sz_put, hsz]) (by simp [ev_const]) (by simp [ev_const])) (c0 _) ?_
  refine wlVal rfl rfl (.bool x0) (run_assign w _ _ rfl _ _ (by simp [ev_eq, sz_put, hsz])) ?_
  exact wlDone <| h _ ⟨⟨by simp [sz_put, hsz], by simp [def_put, hdf], by simp [ev_ne, e1], by simp [ev_ne, e3]⟩, by simp [ev_eq, sz_put, hsz], by simp [ev_ne, ek]⟩
def r17_0 (p : String) : Oper := { dst := some 126, op := Op.fieldAddr 24 (Operand.tmp 1) 10, type := 0, pos := p, after := #[], guard := none }
def r17_1 (p : String) : Oper := { dst := some 127, op := Op.load 3 (Operand.tmp 126), type := 3, pos := p, after := #[{ on := 0, ground := Ground.data }], guard := none }
def r17_2 (p : String) : Oper := { dst := some 128, op := Op.call { callee := Callee.value (Operand.func 31), args := #[Operand.tmp 127], argTypes := #[3] }, type := 4, pos := p, after := #[{ on := 1, ground := Ground.data }], guard := none }
def r17_3 (p : String) : Oper := { dst := some 129, op := Op.move (Operand.tmp 128), type := 4, pos := p, after := #[{ on := 2, ground := Ground.data }, { on := 2, ground := Ground.chain }], guard := none }
def r17_4 (p : String) : Oper := { dst := some 130, op := Op.fieldAddr 24 (Operand.tmp 1) 10, type := 0, pos := p, after := #[{ on := 3, ground := Ground.guard }], guard := some (3, true) }
def r17_5 (p : String) : Oper := { dst := some 131, op := Op.load 3 (Operand.tmp 130), type := 3, pos := p, after := #[{ on := 4, ground := Ground.data }, { on := 3, ground := Ground.guard }], guard := some (3, true) }
def r17_6 (p : String) : Oper := { dst := some 132, op := Op.fieldAddr 24 (Operand.tmp 1) 1, type := 0, pos := p, after := #[{ on := 3, ground := Ground.guard }], guard := some (3, true) }
def r17_7 (p : String) : Oper := { dst := some 133, op := Op.load 3 (Operand.tmp 132), type := 3, pos := p, after := #[{ on := 6, ground := Ground.data }, { on := 3, ground := Ground.guard }], guard := some (3, true) }
def r17_8 (p : String) : Oper := { dst := some 134, op := Op.binOp BinOp.neq 3 (Operand.tmp 131) (Operand.tmp 133) 3, type := 4, pos := p, after := #[{ on := 5, ground := Ground.data }, { on := 7, ground := Ground.data }, { on := 3, ground := Ground.guard }], guard := some (3, true) }
def r17_9 (p : String) : Oper := { dst := some 135, op := Op.pick (Operand.tmp 129) (Operand.tmp 134) (Operand.const (Value.bool false)), type := 4, pos := p, after := #[{ on := 3, ground := Ground.data }, { on := 8, ground := Ground.data }], guard := none }
def r17_10 (p : String) : Oper := { dst := some 136, op := Op.move (Operand.tmp 135), type := 4, pos := p, after := #[{ on := 9, ground := Ground.data }, { on := 3, ground := Ground.chain }], guard := none }
def r17_11 (p : String) : Oper := { dst := some 137, op := Op.fieldAddr 24 (Operand.tmp 1) 10, type := 0, pos := p, after := #[{ on := 10, ground := Ground.guard }], guard := some (10, true) }
def r17_12 (p : String) : Oper := { dst := some 138, op := Op.load 3 (Operand.tmp 137), type := 3, pos := p, after := #[{ on := 11, ground := Ground.data }, { on := 10, ground := Ground.guard }], guard := some (10, true) }
def r17_13 (p : String) : Oper := { dst := some 139, op := Op.fieldAddr 24 (Operand.tmp 1) 3, type := 0, pos := p, after := #[{ on := 10, ground := Ground.guard }], guard := some (10, true) }
def r17_14 (p : String) : Oper := { dst := some 140, op := Op.load 3 (Operand.tmp 139), type := 3, pos := p, after := #[{ on := 13, ground := Ground.data }, { on := 10, ground := Ground.guard }], guard := some (10, true) }
def r17_15 (p : String) : Oper := { dst := some 141, op := Op.binOp BinOp.neq 3 (Operand.tmp 138) (Operand.tmp 140) 3, type := 4, pos := p, after := #[{ on := 12, ground := Ground.data }, { on := 14, ground := Ground.data }, { on := 10, ground := Ground.guard }], guard := some (10, true) }
def r17_16 (p : String) : Oper := { dst := some 142, op := Op.pick (Operand.tmp 136) (Operand.tmp 141) (Operand.const (Value.bool false)), type := 4, pos := p, after := #[{ on := 10, ground := Ground.data }, { on := 15, ground := Ground.data }], guard := none }
def r17_17 (p : String) : Oper := { dst := some 4, op := Op.assign (Operand.tmp 142), type := 4, pos := p, after := #[{ on := 16, ground := Ground.data }, { on := 10, ground := Ground.chain }, { on := 0, ground := Ground.phase }, { on := 1, ground := Ground.phase }, { on := 2, ground := Ground.phase }, { on := 3, ground := Ground.phase }, { on := 4, ground := Ground.phase }, { on := 5, ground := Ground.phase }, { on := 6, ground := Ground.phase }, { on := 7, ground := Ground.phase }, { on := 8, ground := Ground.phase }, { on := 9, ground := Ground.phase }, { on := 10, ground := Ground.phase }, { on := 11, ground := Ground.phase }, { on := 12, ground := Ground.phase }, { on := 13, ground := Ground.phase }, { on := 14, ground := Ground.phase }, { on := 15, ground := Ground.phase }, { on := 16, ground := Ground.phase }], guard := none }
def r17 (p : String) : Array Oper := #[r17_0 p, r17_1 p, r17_2 p, r17_3 p, r17_4 p, r17_5 p, r17_6 p, r17_7 p, r17_8 p, r17_9 p, r17_10 p, r17_11 p, r17_12 p, r17_13 p, r17_14 p, r17_15 p, r17_16 p, r17_17 p]
set_option maxRecDepth 100000 in
set_option maxHeartbeats 1000000 in
theorem reg17 {Q : Exit → Act → World → Prop} (id : Nat) (p : String) (a : Act) (w : World) (g1 g3 : Nat) (cs : Array Value) (fr no tw : Int) (o : Bool) (kd : Int) (x0 : Bool)
    (f : Fr a g1 g3 o kd) (hg1 : w.heap[g1]? = some (.cells cs 24)) (y10 : cs[10]? = some (.int .i64 no)) (y1 : cs[1]? = some (.int .i64 fr)) (y3 : cs[3]? = some (.int .i64 tw)) (c0 : ∀ w, Calls Try.prog 31 #[.int .i64 no] w fun e w' => e = .returned (.bool x0) ∧ w' = w)
    (h : ∀ a', Fr a' g1 g3 (x0 && (no != fr) && (no != tw)) kd → Q .normal a' w) :
    (Code.region id (r17 p) false).wp Try.prog Q a w := by
  have hsz := f.fa.sz
  have hdf := f.fa.df
  have e1 := f.fa.e1
  have e3 := f.fa.e3
  have e4 := f.e4
  have ek := f.ek
  refine wlStart (l := [r17_0 p, r17_1 p, r17_2 p, r17_3 p, r17_4 p, r17_5 p, r17_6 p, r17_7 p, r17_8 p, r17_9 p, r17_10 p, r17_11 p, r17_12 p, r17_13 p, r17_14 p, r17_15 p, r17_16 p, r17_17 p]) rfl ?_
  refine wlVal rfl rfl (.pointer (some ⟨g1, 10, none⟩)) (run_field 10 (by omega) w _ _ rfl _ g1 (by simp [e1])) ?_
  refine wlVal rfl rfl (.int .i64 no) (run_load3 w _ _ rfl _ ⟨g1, 10, none⟩ (by simp [ev_eq, hsz]) _ (mv_cell hg1 10 _ y10)) ?_
  refine wlC rfl rfl 31 #[(.int .i64 no)] (.bool x0) (run_call1 31 call19 _ _ _ _ rfl _ _ (by simp [ev_eq, sz_put, hsz])) (c0 _) ?_
  cases x0 with
  | false =>
    refine wlVal rfl rfl (.bool false) (run_move w _ _ rfl _ _ (by simp [ev_eq, sz_put, hsz])) ?_
    refine wlN 3 129 true false rfl rfl rfl rfl (by simp [ev_eq, sz_put, hsz]) (by decide) ?_
    refine wlN 3 129 true false rfl rfl rfl rfl (by simp [ev_ne, ev_eq, sz_put, hsz]) (by decide) ?_
    refine wlN 3 129 true false rfl rfl rfl rfl (by simp [ev_ne, ev_eq, sz_put, hsz]) (by decide) ?_
    refine wlN 3 129 true false rfl rfl rfl rfl (by simp [ev_ne, ev_eq, sz_put, hsz]) (by decide) ?_
    refine wlN 3 129 true false rfl rfl rfl rfl (by simp [ev_ne, ev_eq, sz_put, hsz]) (by decide) ?_
    refine wlVal rfl rfl (.bool false) (run_pick w _ _ _ _ rfl _ false _ (by simp [ev_ne, ev_eq, sz_put, hsz]) (by simp [ev_const])) ?_
    refine wlVal rfl rfl (.bool false) (run_move w _ _ rfl _ _ (by simp [ev_eq, sz_put, hsz])) ?_
    refine wlN 10 136 true false rfl rfl rfl rfl (by simp [ev_eq, sz_put, hsz]) (by decide) ?_
    refine wlN 10 136 true false rfl rfl rfl rfl (by simp [ev_ne, ev_eq, sz_put, hsz]) (by decide) ?_
    refine wlN 10 136 true false rfl rfl rfl rfl (by simp [ev_ne, ev_eq, sz_put, hsz]) (by decide) ?_
    refine wlN 10 136 true false rfl rfl rfl rfl (by simp [ev_ne, ev_eq, sz_put, hsz]) (by decide) ?_
    refine wlN 10 136 true false rfl rfl rfl rfl (by simp [ev_ne, ev_eq, sz_put, hsz]) (by decide) ?_
    refine wlVal rfl rfl (.bool false) (run_pick w _ _ _ _ rfl _ false _ (by simp [ev_ne, ev_eq, sz_put, hsz]) (by simp [ev_const])) ?_
    refine wlVal rfl rfl (.bool false) (run_assign w _ _ rfl _ _ (by simp [ev_eq, sz_put, hsz])) ?_
    exact wlDone <| h _ ⟨⟨by simp [sz_put, hsz], by simp [def_put, hdf], by simp [ev_ne, e1], by simp [ev_ne, e3]⟩, by simp [ev_eq, sz_put, hsz], by simp [ev_ne, ek]⟩
  | true =>
    refine wlVal rfl rfl (.bool true) (run_move w _ _ rfl _ _ (by simp [ev_eq, sz_put, hsz])) ?_
    refine wlG 3 129 true rfl rfl rfl rfl (by simp [ev_eq, sz_put, hsz]) (.pointer (some ⟨g1, 10, none⟩)) (run_field 10 (by omega) w _ _ rfl _ g1 (by simp [ev_ne, e1])) ?_
    refine wlG 3 129 true rfl rfl rfl rfl (by simp [ev_ne, ev_eq, sz_put, hsz]) (.int .i64 no) (run_load3 w _ _ rfl _ ⟨g1, 10, none⟩ (by simp [ev_eq, sz_put, hsz]) _ (mv_cell hg1 10 _ y10)) ?_
    refine wlG 3 129 true rfl rfl rfl rfl (by simp [ev_ne, ev_eq, sz_put, hsz]) (.pointer (some ⟨g1, 1, none⟩)) (run_field 1 (by omega) w _ _ rfl _ g1 (by simp [ev_ne, e1])) ?_
    refine wlG 3 129 true rfl rfl rfl rfl (by simp [ev_ne, ev_eq, sz_put, hsz]) (.int .i64 fr) (run_load3 w _ _ rfl _ ⟨g1, 1, none⟩ (by simp [ev_eq, sz_put, hsz]) _ (mv_cell hg1 1 _ y1)) ?_
    refine wlG 3 129 true rfl rfl rfl rfl (by simp [ev_ne, ev_eq, sz_put, hsz]) (.bool (no != fr)) (run_neq3 w _ _ _ rfl _ no fr (by simp [ev_ne, ev_eq, sz_put, hsz]) (by simp [ev_eq, sz_put, hsz])) ?_
    generalize he : (no != fr) = z at *
    cases z with
    | false =>
      refine wlVal rfl rfl (.bool false) (run_pick w _ _ _ _ rfl _ true _ (by simp [ev_ne, ev_eq, sz_put, hsz]) (by simp [ev_eq, sz_put, hsz])) ?_
      refine wlVal rfl rfl (.bool false) (run_move w _ _ rfl _ _ (by simp [ev_eq, sz_put, hsz])) ?_
      refine wlN 10 136 true false rfl rfl rfl rfl (by simp [ev_eq, sz_put, hsz]) (by decide) ?_
      refine wlN 10 136 true false rfl rfl rfl rfl (by simp [ev_ne, ev_eq, sz_put, hsz]) (by decide) ?_
      refine wlN 10 136 true false rfl rfl rfl rfl (by simp [ev_ne, ev_eq, sz_put, hsz]) (by decide) ?_
      refine wlN 10 136 true false rfl rfl rfl rfl (by simp [ev_ne, ev_eq, sz_put, hsz]) (by decide) ?_
      refine wlN 10 136 true false rfl rfl rfl rfl (by simp [ev_ne, ev_eq, sz_put, hsz]) (by decide) ?_
      refine wlVal rfl rfl (.bool false) (run_pick w _ _ _ _ rfl _ false _ (by simp [ev_ne, ev_eq, sz_put, hsz]) (by simp [ev_const])) ?_
      refine wlVal rfl rfl (.bool false) (run_assign w _ _ rfl _ _ (by simp [ev_eq, sz_put, hsz])) ?_
      exact wlDone <| h _ ⟨⟨by simp [sz_put, hsz], by simp [def_put, hdf], by simp [ev_ne, e1], by simp [ev_ne, e3]⟩, by simp [ev_eq, sz_put, hsz], by simp [ev_ne, ek]⟩
    | true =>
      refine wlVal rfl rfl (.bool true) (run_pick w _ _ _ _ rfl _ true _ (by simp [ev_ne, ev_eq, sz_put, hsz]) (by simp [ev_eq, sz_put, hsz])) ?_
      refine wlVal rfl rfl (.bool true) (run_move w _ _ rfl _ _ (by simp [ev_eq, sz_put, hsz])) ?_
      refine wlG 10 136 true rfl rfl rfl rfl (by simp [ev_eq, sz_put, hsz]) (.pointer (some ⟨g1, 10, none⟩)) (run_field 10 (by omega) w _ _ rfl _ g1 (by simp [ev_ne, e1])) ?_
      refine wlG 10 136 true rfl rfl rfl rfl (by simp [ev_ne, ev_eq, sz_put, hsz]) (.int .i64 no) (run_load3 w _ _ rfl _ ⟨g1, 10, none⟩ (by simp [ev_eq, sz_put, hsz]) _ (mv_cell hg1 10 _ y10)) ?_
      refine wlG 10 136 true rfl rfl rfl rfl (by simp [ev_ne, ev_eq, sz_put, hsz]) (.pointer (some ⟨g1, 3, none⟩)) (run_field 3 (by omega) w _ _ rfl _ g1 (by simp [ev_ne, e1])) ?_
      refine wlG 10 136 true rfl rfl rfl rfl (by simp [ev_ne, ev_eq, sz_put, hsz]) (.int .i64 tw) (run_load3 w _ _ rfl _ ⟨g1, 3, none⟩ (by simp [ev_eq, sz_put, hsz]) _ (mv_cell hg1 3 _ y3)) ?_
      refine wlG 10 136 true rfl rfl rfl rfl (by simp [ev_ne, ev_eq, sz_put, hsz]) (.bool (no != tw)) (run_neq3 w _ _ _ rfl _ no tw (by simp [ev_ne, ev_eq, sz_put, hsz]) (by simp [ev_eq, sz_put, hsz])) ?_
      refine wlVal rfl rfl (.bool (no != tw)) (run_pick w _ _ _ _ rfl _ true _ (by simp [ev_ne, ev_eq, sz_put, hsz]) (by simp [ev_eq, sz_put, hsz])) ?_
      refine wlVal rfl rfl (.bool (no != tw)) (run_assign w _ _ rfl _ _ (by simp [ev_eq, sz_put, hsz])) ?_
      exact wlDone <| h _ ⟨⟨by simp [sz_put, hsz], by simp [def_put, hdf], by simp [ev_ne, e1], by simp [ev_ne, e3]⟩, by simp [ev_eq, sz_put, hsz], by simp [ev_ne, ek]⟩
def r20_0 (p : String) : Oper := { dst := some 148, op := Op.fieldAddr 24 (Operand.tmp 1) 6, type := 0, pos := p, after := #[], guard := none }
def r20_1 (p : String) : Oper := { dst := some 149, op := Op.load 3 (Operand.tmp 148), type := 3, pos := p, after := #[{ on := 0, ground := Ground.data }], guard := none }
def r20_2 (p : String) : Oper := { dst := some 150, op := Op.call { callee := Callee.value (Operand.func 30), args := #[Operand.tmp 149, Operand.const (Value.int IntKind.i64 1), Operand.const (Value.int IntKind.i64 1073741824)], argTypes := #[3, 3, 3] }, type := 4, pos := p, after := #[{ on := 1, ground := Ground.data }], guard := none }
def r20_3 (p : String) : Oper := { dst := some 151, op := Op.move (Operand.tmp 150), type := 4, pos := p, after := #[{ on := 2, ground := Ground.data }, { on := 2, ground := Ground.chain }], guard := none }
def r20_4 (p : String) : Oper := { dst := some 152, op := Op.fieldAddr 24 (Operand.tmp 1) 7, type := 0, pos := p, after := #[{ on := 3, ground := Ground.guard }], guard := some (3, true) }
def r20_5 (p : String) : Oper := { dst := some 153, op := Op.load 3 (Operand.tmp 152), type := 3, pos := p, after := #[{ on := 4, ground := Ground.data }, { on := 3, ground := Ground.guard }], guard := some (3, true) }
def r20_6 (p : String) : Oper := { dst := some 154, op := Op.call { callee := Callee.value (Operand.func 32), args := #[Operand.tmp 153], argTypes := #[3] }, type := 4, pos := p, after := #[{ on := 5, ground := Ground.data }, { on := 3, ground := Ground.chain }, { on := 3, ground := Ground.guard }], guard := some (3, true) }
def r20_7 (p : String) : Oper := { dst := some 155, op := Op.pick (Operand.tmp 151) (Operand.tmp 154) (Operand.const (Value.bool false)), type := 4, pos := p, after := #[{ on := 3, ground := Ground.data }, { on := 6, ground := Ground.data }], guard := none }
def r20_8 (p : String) : Oper := { dst := some 156, op := Op.move (Operand.tmp 155), type := 4, pos := p, after := #[{ on := 7, ground := Ground.data }, { on := 6, ground := Ground.chain }], guard := none }
def r20_9 (p : String) : Oper := { dst := some 157, op := Op.fieldAddr 24 (Operand.tmp 1) 9, type := 0, pos := p, after := #[{ on := 8, ground := Ground.guard }], guard := some (8, true) }
def r20_10 (p : String) : Oper := { dst := some 158, op := Op.load 3 (Operand.tmp 157), type := 3, pos := p, after := #[{ on := 9, ground := Ground.data }, { on := 8, ground := Ground.guard }], guard := some (8, true) }
def r20_11 (p : String) : Oper := { dst := some 159, op := Op.call { callee := Callee.value (Operand.func 36), args := #[Operand.tmp 158], argTypes := #[3] }, type := 4, pos := p, after := #[{ on := 10, ground := Ground.data }, { on := 8, ground := Ground.chain }, { on := 8, ground := Ground.guard }], guard := some (8, true) }
def r20_12 (p : String) : Oper := { dst := some 160, op := Op.pick (Operand.tmp 156) (Operand.tmp 159) (Operand.const (Value.bool false)), type := 4, pos := p, after := #[{ on := 8, ground := Ground.data }, { on := 11, ground := Ground.data }], guard := none }
def r20_13 (p : String) : Oper := { dst := some 4, op := Op.assign (Operand.tmp 160), type := 4, pos := p, after := #[{ on := 12, ground := Ground.data }, { on := 11, ground := Ground.chain }, { on := 0, ground := Ground.phase }, { on := 1, ground := Ground.phase }, { on := 2, ground := Ground.phase }, { on := 3, ground := Ground.phase }, { on := 4, ground := Ground.phase }, { on := 5, ground := Ground.phase }, { on := 6, ground := Ground.phase }, { on := 7, ground := Ground.phase }, { on := 8, ground := Ground.phase }, { on := 9, ground := Ground.phase }, { on := 10, ground := Ground.phase }, { on := 11, ground := Ground.phase }, { on := 12, ground := Ground.phase }], guard := none }
def r20 (p : String) : Array Oper := #[r20_0 p, r20_1 p, r20_2 p, r20_3 p, r20_4 p, r20_5 p, r20_6 p, r20_7 p, r20_8 p, r20_9 p, r20_10 p, r20_11 p, r20_12 p, r20_13 p]
set_option maxRecDepth 100000 in
set_option maxHeartbeats 1000000 in
theorem reg20 {Q : Exit → Act → World → Prop} (id : Nat) (p : String) (a : Act) (w : World) (g1 g3 : Nat) (cs : Array Value) (ep sq va : Int) (o : Bool) (kd : Int) (x0 x1 x2 : Bool)
    (f : Fr a g1 g3 o kd) (hg1 : w.heap[g1]? = some (.cells cs 24)) (y6 : cs[6]? = some (.int .i64 ep)) (y7 : cs[7]? = some (.int .i64 sq)) (y9 : cs[9]? = some (.int .i64 va)) (c0 : ∀ w, Calls Try.prog 30 #[.int .i64 ep, .int .i64 1, .int .i64 1073741824] w fun e w' => e = .returned (.bool x0) ∧ w' = w) (c1 : ∀ w, Calls Try.prog 32 #[.int .i64 sq] w fun e w' => e = .returned (.bool x1) ∧ w' = w) (c2 : ∀ w, Calls Try.prog 36 #[.int .i64 va] w fun e w' => e = .returned (.bool x2) ∧ w' = w)
    (h : ∀ a', Fr a' g1 g3 (x0 && x1 && x2) kd → Q .normal a' w) :
    (Code.region id (r20 p) false).wp Try.prog Q a w := by
  have hsz := f.fa.sz
  have hdf := f.fa.df
  have e1 := f.fa.e1
  have e3 := f.fa.e3
  have e4 := f.e4
  have ek := f.ek
  refine wlStart (l := [r20_0 p, r20_1 p, r20_2 p, r20_3 p, r20_4 p, r20_5 p, r20_6 p, r20_7 p, r20_8 p, r20_9 p, r20_10 p, r20_11 p, r20_12 p, r20_13 p]) rfl ?_
  refine wlVal rfl rfl (.pointer (some ⟨g1, 6, none⟩)) (run_field 6 (by omega) w _ _ rfl _ g1 (by simp [e1])) ?_
  refine wlVal rfl rfl (.int .i64 ep) (run_load3 w _ _ rfl _ ⟨g1, 6, none⟩ (by simp [ev_eq, hsz]) _ (mv_cell hg1 6 _ y6)) ?_
  refine wlC rfl rfl 30 #[(.int .i64 ep), (.int .i64 1), (.int .i64 1073741824)] (.bool x0) (run_call3 30 call18 _ _ _ _ _ _ _ _ rfl _ _ _ _ (by simp [ev_eq, sz_put, hsz]) (by simp [ev_const]) (by simp [ev_const])) (c0 _) ?_
  cases x0 with
  | false =>
    refine wlVal rfl rfl (.bool false) (run_move w _ _ rfl _ _ (by simp [ev_eq, sz_put, hsz])) ?_
    refine wlN 3 151 true false rfl rfl rfl rfl (by simp [ev_eq, sz_put, hsz]) (by decide) ?_
    refine wlN 3 151 true false rfl rfl rfl rfl (by simp [ev_ne, ev_eq, sz_put, hsz]) (by decide) ?_
    refine wlN 3 151 true false rfl rfl rfl rfl (by simp [ev_ne, ev_eq, sz_put, hsz]) (by decide) ?_
    refine wlVal rfl rfl (.bool false) (run_pick w _ _ _ _ rfl _ false _ (by simp [ev_ne, ev_eq, sz_put, hsz]) (by simp [ev_const])) ?_
    refine wlVal rfl rfl (.bool false) (run_move w _ _ rfl _ _ (by simp [ev_eq, sz_put, hsz])) ?_
    refine wlN 8 156 true false rfl rfl rfl rfl (by simp [ev_eq, sz_put, hsz]) (by decide) ?_
    refine wlN 8 156 true false rfl rfl rfl rfl (by simp [ev_ne, ev_eq, sz_put, hsz]) (by decide) ?_
    refine wlN 8 156 true false rfl rfl rfl rfl (by simp [ev_ne, ev_eq, sz_put, hsz]) (by decide) ?_
    refine wlVal rfl rfl (.bool false) (run_pick w _ _ _ _ rfl _ false _ (by simp [ev_ne, ev_eq, sz_put, hsz]) (by simp [ev_const])) ?_
    refine wlVal rfl rfl (.bool false) (run_assign w _ _ rfl _ _ (by simp [ev_eq, sz_put, hsz])) ?_
    exact wlDone <| h _ ⟨⟨by simp [sz_put, hsz], by simp [def_put, hdf], by simp [ev_ne, e1], by simp [ev_ne, e3]⟩, by simp [ev_eq, sz_put, hsz], by simp [ev_ne, ek]⟩
  | true =>
    refine wlVal rfl rfl (.bool true) (run_move w _ _ rfl _ _ (by simp [ev_eq, sz_put, hsz])) ?_
    refine wlG 3 151 true rfl rfl rfl rfl (by simp [ev_eq, sz_put, hsz]) (.pointer (some ⟨g1, 7, none⟩)) (run_field 7 (by omega) w _ _ rfl _ g1 (by simp [ev_ne, e1])) ?_
    refine wlG 3 151 true rfl rfl rfl rfl (by simp [ev_ne, ev_eq, sz_put, hsz]) (.int .i64 sq) (run_load3 w _ _ rfl _ ⟨g1, 7, none⟩ (by simp [ev_eq, sz_put, hsz]) _ (mv_cell hg1 7 _ y7)) ?_
    refine wlCG 3 151 true rfl rfl rfl rfl (by simp [ev_ne, ev_eq, sz_put, hsz]) 32 #[(.int .i64 sq)] (.bool x1) (run_call1 32 call20 _ _ _ _ rfl _ _ (by simp [ev_eq, sz_put, hsz])) (c1 _) ?_
    cases x1 with
    | false =>
      refine wlVal rfl rfl (.bool false) (run_pick w _ _ _ _ rfl _ true _ (by simp [ev_ne, ev_eq, sz_put, hsz]) (by simp [ev_eq, sz_put, hsz])) ?_
      refine wlVal rfl rfl (.bool false) (run_move w _ _ rfl _ _ (by simp [ev_eq, sz_put, hsz])) ?_
      refine wlN 8 156 true false rfl rfl rfl rfl (by simp [ev_eq, sz_put, hsz]) (by decide) ?_
      refine wlN 8 156 true false rfl rfl rfl rfl (by simp [ev_ne, ev_eq, sz_put, hsz]) (by decide) ?_
      refine wlN 8 156 true false rfl rfl rfl rfl (by simp [ev_ne, ev_eq, sz_put, hsz]) (by decide) ?_
      refine wlVal rfl rfl (.bool false) (run_pick w _ _ _ _ rfl _ false _ (by simp [ev_ne, ev_eq, sz_put, hsz]) (by simp [ev_const])) ?_
      refine wlVal rfl rfl (.bool false) (run_assign w _ _ rfl _ _ (by simp [ev_eq, sz_put, hsz])) ?_
      exact wlDone <| h _ ⟨⟨by simp [sz_put, hsz], by simp [def_put, hdf], by simp [ev_ne, e1], by simp [ev_ne, e3]⟩, by simp [ev_eq, sz_put, hsz], by simp [ev_ne, ek]⟩
    | true =>
      refine wlVal rfl rfl (.bool true) (run_pick w _ _ _ _ rfl _ true _ (by simp [ev_ne, ev_eq, sz_put, hsz]) (by simp [ev_eq, sz_put, hsz])) ?_
      refine wlVal rfl rfl (.bool true) (run_move w _ _ rfl _ _ (by simp [ev_eq, sz_put, hsz])) ?_
      refine wlG 8 156 true rfl rfl rfl rfl (by simp [ev_eq, sz_put, hsz]) (.pointer (some ⟨g1, 9, none⟩)) (run_field 9 (by omega) w _ _ rfl _ g1 (by simp [ev_ne, e1])) ?_
      refine wlG 8 156 true rfl rfl rfl rfl (by simp [ev_ne, ev_eq, sz_put, hsz]) (.int .i64 va) (run_load3 w _ _ rfl _ ⟨g1, 9, none⟩ (by simp [ev_eq, sz_put, hsz]) _ (mv_cell hg1 9 _ y9)) ?_
      refine wlCG 8 156 true rfl rfl rfl rfl (by simp [ev_ne, ev_eq, sz_put, hsz]) 36 #[(.int .i64 va)] (.bool x2) (run_call1 36 call23 _ _ _ _ rfl _ _ (by simp [ev_eq, sz_put, hsz])) (c2 _) ?_
      refine wlVal rfl rfl (.bool x2) (run_pick w _ _ _ _ rfl _ true _ (by simp [ev_ne, ev_eq, sz_put, hsz]) (by simp [ev_eq, sz_put, hsz])) ?_
      refine wlVal rfl rfl (.bool x2) (run_assign w _ _ rfl _ _ (by simp [ev_eq, sz_put, hsz])) ?_
      exact wlDone <| h _ ⟨⟨by simp [sz_put, hsz], by simp [def_put, hdf], by simp [ev_ne, e1], by simp [ev_ne, e3]⟩, by simp [ev_eq, sz_put, hsz], by simp [ev_ne, ek]⟩
def r23_0 (p : String) : Oper := { dst := some 172, op := Op.fieldAddr 24 (Operand.tmp 1) 6, type := 0, pos := p, after := #[], guard := none }
def r23_1 (p : String) : Oper := { dst := some 173, op := Op.load 3 (Operand.tmp 172), type := 3, pos := p, after := #[{ on := 0, ground := Ground.data }], guard := none }
def r23_2 (p : String) : Oper := { dst := some 174, op := Op.call { callee := Callee.value (Operand.func 30), args := #[Operand.tmp 173, Operand.const (Value.int IntKind.i64 1), Operand.const (Value.int IntKind.i64 1073741824)], argTypes := #[3, 3, 3] }, type := 4, pos := p, after := #[{ on := 1, ground := Ground.data }], guard := none }
def r23_3 (p : String) : Oper := { dst := some 175, op := Op.move (Operand.tmp 174), type := 4, pos := p, after := #[{ on := 2, ground := Ground.data }, { on := 2, ground := Ground.chain }], guard := none }
def r23_4 (p : String) : Oper := { dst := some 176, op := Op.fieldAddr 24 (Operand.tmp 1) 7, type := 0, pos := p, after := #[{ on := 3, ground := Ground.guard }], guard := some (3, true) }
def r23_5 (p : String) : Oper := { dst := some 177, op := Op.load 3 (Operand.tmp 176), type := 3, pos := p, after := #[{ on := 4, ground := Ground.data }, { on := 3, ground := Ground.guard }], guard := some (3, true) }
def r23_6 (p : String) : Oper := { dst := some 178, op := Op.call { callee := Callee.value (Operand.func 32), args := #[Operand.tmp 177], argTypes := #[3] }, type := 4, pos := p, after := #[{ on := 5, ground := Ground.data }, { on := 3, ground := Ground.chain }, { on := 3, ground := Ground.guard }], guard := some (3, true) }
def r23_7 (p : String) : Oper := { dst := some 179, op := Op.pick (Operand.tmp 175) (Operand.tmp 178) (Operand.const (Value.bool false)), type := 4, pos := p, after := #[{ on := 3, ground := Ground.data }, { on := 6, ground := Ground.data }], guard := none }
def r23_8 (p : String) : Oper := { dst := some 4, op := Op.assign (Operand.tmp 179), type := 4, pos := p, after := #[{ on := 7, ground := Ground.data }, { on := 6, ground := Ground.chain }, { on := 0, ground := Ground.phase }, { on := 1, ground := Ground.phase }, { on := 2, ground := Ground.phase }, { on := 3, ground := Ground.phase }, { on := 4, ground := Ground.phase }, { on := 5, ground := Ground.phase }, { on := 6, ground := Ground.phase }, { on := 7, ground := Ground.phase }], guard := none }
def r23 (p : String) : Array Oper := #[r23_0 p, r23_1 p, r23_2 p, r23_3 p, r23_4 p, r23_5 p, r23_6 p, r23_7 p, r23_8 p]
set_option maxRecDepth 100000 in
set_option maxHeartbeats 1000000 in
theorem reg23 {Q : Exit → Act → World → Prop} (id : Nat) (p : String) (a : Act) (w : World) (g1 g3 : Nat) (cs : Array Value) (ep sq : Int) (o : Bool) (kd : Int) (x0 x1 : Bool)
    (f : Fr a g1 g3 o kd) (hg1 : w.heap[g1]? = some (.cells cs 24)) (y6 : cs[6]? = some (.int .i64 ep)) (y7 : cs[7]? = some (.int .i64 sq)) (c0 : ∀ w, Calls Try.prog 30 #[.int .i64 ep, .int .i64 1, .int .i64 1073741824] w fun e w' => e = .returned (.bool x0) ∧ w' = w) (c1 : ∀ w, Calls Try.prog 32 #[.int .i64 sq] w fun e w' => e = .returned (.bool x1) ∧ w' = w)
    (h : ∀ a', Fr a' g1 g3 (x0 && x1) kd → Q .normal a' w) :
    (Code.region id (r23 p) false).wp Try.prog Q a w := by
  have hsz := f.fa.sz
  have hdf := f.fa.df
  have e1 := f.fa.e1
  have e3 := f.fa.e3
  have e4 := f.e4
  have ek := f.ek
  refine wlStart (l := [r23_0 p, r23_1 p, r23_2 p, r23_3 p, r23_4 p, r23_5 p, r23_6 p, r23_7 p, r23_8 p]) rfl ?_
  refine wlVal rfl rfl (.pointer (some ⟨g1, 6, none⟩)) (run_field 6 (by omega) w _ _ rfl _ g1 (by simp [e1])) ?_
  refine wlVal rfl rfl (.int .i64 ep) (run_load3 w _ _ rfl _ ⟨g1, 6, none⟩ (by simp [ev_eq, hsz]) _ (mv_cell hg1 6 _ y6)) ?_
  refine wlC rfl rfl 30 #[(.int .i64 ep), (.int .i64 1), (.int .i64 1073741824)] (.bool x0) (run_call3 30 call18 _ _ _ _ _ _ _ _ rfl _ _ _ _ (by simp [ev_eq, sz_put, hsz]) (by simp [ev_const]) (by simp [ev_const])) (c0 _) ?_
  cases x0 with
  | false =>
    refine wlVal rfl rfl (.bool false) (run_move w _ _ rfl _ _ (by simp [ev_eq, sz_put, hsz])) ?_
    refine wlN 3 175 true false rfl rfl rfl rfl (by simp [ev_eq, sz_put, hsz]) (by decide) ?_
    refine wlN 3 175 true false rfl rfl rfl rfl (by simp [ev_ne, ev_eq, sz_put, hsz]) (by decide) ?_
    refine wlN 3 175 true false rfl rfl rfl rfl (by simp [ev_ne, ev_eq, sz_put, hsz]) (by decide) ?_
    refine wlVal rfl rfl (.bool false) (run_pick w _ _ _ _ rfl _ false _ (by simp [ev_ne, ev_eq, sz_put, hsz]) (by simp [ev_const])) ?_
    refine wlVal rfl rfl (.bool false) (run_assign w _ _ rfl _ _ (by simp [ev_eq, sz_put, hsz])) ?_
    exact wlDone <| h _ ⟨⟨by simp [sz_put, hsz], by simp [def_put, hdf], by simp [ev_ne, e1], by simp [ev_ne, e3]⟩, by simp [ev_eq, sz_put, hsz], by simp [ev_ne, ek]⟩
  | true =>
    refine wlVal rfl rfl (.bool true) (run_move w _ _ rfl _ _ (by simp [ev_eq, sz_put, hsz])) ?_
    refine wlG 3 175 true rfl rfl rfl rfl (by simp [ev_eq, sz_put, hsz]) (.pointer (some ⟨g1, 7, none⟩)) (run_field 7 (by omega) w _ _ rfl _ g1 (by simp [ev_ne, e1])) ?_
    refine wlG 3 175 true rfl rfl rfl rfl (by simp [ev_ne, ev_eq, sz_put, hsz]) (.int .i64 sq) (run_load3 w _ _ rfl _ ⟨g1, 7, none⟩ (by simp [ev_eq, sz_put, hsz]) _ (mv_cell hg1 7 _ y7)) ?_
    refine wlCG 3 175 true rfl rfl rfl rfl (by simp [ev_ne, ev_eq, sz_put, hsz]) 32 #[(.int .i64 sq)] (.bool x1) (run_call1 32 call20 _ _ _ _ rfl _ _ (by simp [ev_eq, sz_put, hsz])) (c1 _) ?_
    refine wlVal rfl rfl (.bool x1) (run_pick w _ _ _ _ rfl _ true _ (by simp [ev_ne, ev_eq, sz_put, hsz]) (by simp [ev_eq, sz_put, hsz])) ?_
    refine wlVal rfl rfl (.bool x1) (run_assign w _ _ rfl _ _ (by simp [ev_eq, sz_put, hsz])) ?_
    exact wlDone <| h _ ⟨⟨by simp [sz_put, hsz], by simp [def_put, hdf], by simp [ev_ne, e1], by simp [ev_ne, e3]⟩, by simp [ev_eq, sz_put, hsz], by simp [ev_ne, ek]⟩
def r26_0 (p : String) : Oper := { dst := some 188, op := Op.fieldAddr 24 (Operand.tmp 1) 6, type := 0, pos := p, after := #[], guard := none }
def r26_1 (p : String) : Oper := { dst := some 189, op := Op.load 3 (Operand.tmp 188), type := 3, pos := p, after := #[{ on := 0, ground := Ground.data }], guard := none }
def r26_2 (p : String) : Oper := { dst := some 190, op := Op.call { callee := Callee.value (Operand.func 30), args := #[Operand.tmp 189, Operand.const (Value.int IntKind.i64 1), Operand.const (Value.int IntKind.i64 1073741824)], argTypes := #[3, 3, 3] }, type := 4, pos := p, after := #[{ on := 1, ground := Ground.data }], guard := none }
def r26_3 (p : String) : Oper := { dst := some 191, op := Op.move (Operand.tmp 190), type := 4, pos := p, after := #[{ on := 2, ground := Ground.data }, { on := 2, ground := Ground.chain }], guard := none }
def r26_4 (p : String) : Oper := { dst := some 192, op := Op.fieldAddr 24 (Operand.tmp 1) 7, type := 0, pos := p, after := #[{ on := 3, ground := Ground.guard }], guard := some (3, true) }
def r26_5 (p : String) : Oper := { dst := some 193, op := Op.load 3 (Operand.tmp 192), type := 3, pos := p, after := #[{ on := 4, ground := Ground.data }, { on := 3, ground := Ground.guard }], guard := some (3, true) }
def r26_6 (p : String) : Oper := { dst := some 194, op := Op.call { callee := Callee.value (Operand.func 32), args := #[Operand.tmp 193], argTypes := #[3] }, type := 4, pos := p, after := #[{ on := 5, ground := Ground.data }, { on := 3, ground := Ground.chain }, { on := 3, ground := Ground.guard }], guard := some (3, true) }
def r26_7 (p : String) : Oper := { dst := some 195, op := Op.pick (Operand.tmp 191) (Operand.tmp 194) (Operand.const (Value.bool false)), type := 4, pos := p, after := #[{ on := 3, ground := Ground.data }, { on := 6, ground := Ground.data }], guard := none }
def r26_8 (p : String) : Oper := { dst := some 196, op := Op.move (Operand.tmp 195), type := 4, pos := p, after := #[{ on := 7, ground := Ground.data }, { on := 6, ground := Ground.chain }], guard := none }
def r26_9 (p : String) : Oper := { dst := some 197, op := Op.fieldAddr 24 (Operand.tmp 1) 8, type := 0, pos := p, after := #[{ on := 8, ground := Ground.guard }], guard := some (8, true) }
def r26_10 (p : String) : Oper := { dst := some 198, op := Op.load 3 (Operand.tmp 197), type := 3, pos := p, after := #[{ on := 9, ground := Ground.data }, { on := 8, ground := Ground.guard }], guard := some (8, true) }
def r26_11 (p : String) : Oper := { dst := some 199, op := Op.fieldAddr 24 (Operand.tmp 1) 7, type := 0, pos := p, after := #[{ on := 8, ground := Ground.guard }], guard := some (8, true) }
def r26_12 (p : String) : Oper := { dst := some 200, op := Op.load 3 (Operand.tmp 199), type := 3, pos := p, after := #[{ on := 11, ground := Ground.data }, { on := 8, ground := Ground.guard }], guard := some (8, true) }
def r26_13 (p : String) : Oper := { dst := some 201, op := Op.call { callee := Callee.value (Operand.func 30), args := #[Operand.tmp 198, Operand.tmp 200, Operand.const (Value.int IntKind.i64 1073741824)], argTypes := #[3, 3, 3] }, type := 4, pos := p, after := #[{ on := 10, ground := Ground.data }, { on := 12, ground := Ground.data }, { on := 8, ground := Ground.chain }, { on := 8, ground := Ground.guard }], guard := some (8, true) }
def r26_14 (p : String) : Oper := { dst := some 202, op := Op.pick (Operand.tmp 196) (Operand.tmp 201) (Operand.const (Value.bool false)), type := 4, pos := p, after := #[{ on := 8, ground := Ground.data }, { on := 13, ground := Ground.data }], guard := none }
def r26_15 (p : String) : Oper := { dst := some 4, op := Op.assign (Operand.tmp 202), type := 4, pos := p, after := #[{ on := 14, ground := Ground.data }, { on := 13, ground := Ground.chain }, { on := 0, ground := Ground.phase }, { on := 1, ground := Ground.phase }, { on := 2, ground := Ground.phase }, { on := 3, ground := Ground.phase }, { on := 4, ground := Ground.phase }, { on := 5, ground := Ground.phase }, { on := 6, ground := Ground.phase }, { on := 7, ground := Ground.phase }, { on := 8, ground := Ground.phase }, { on := 9, ground := Ground.phase }, { on := 10, ground := Ground.phase }, { on := 11, ground := Ground.phase }, { on := 12, ground := Ground.phase }, { on := 13, ground := Ground.phase }, { on := 14, ground := Ground.phase }], guard := none }
def r26 (p : String) : Array Oper := #[r26_0 p, r26_1 p, r26_2 p, r26_3 p, r26_4 p, r26_5 p, r26_6 p, r26_7 p, r26_8 p, r26_9 p, r26_10 p, r26_11 p, r26_12 p, r26_13 p, r26_14 p, r26_15 p]
set_option maxRecDepth 100000 in
set_option maxHeartbeats 1000000 in
theorem reg26 {Q : Exit → Act → World → Prop} (id : Nat) (p : String) (a : Act) (w : World) (g1 g3 : Nat) (cs : Array Value) (ep la sq : Int) (o : Bool) (kd : Int) (x0 x1 x2 : Bool)
    (f : Fr a g1 g3 o kd) (hg1 : w.heap[g1]? = some (.cells cs 24)) (y6 : cs[6]? = some (.int .i64 ep)) (y7 : cs[7]? = some (.int .i64 sq)) (y8 : cs[8]? = some (.int .i64 la)) (c0 : ∀ w, Calls Try.prog 30 #[.int .i64 ep, .int .i64 1, .int .i64 1073741824] w fun e w' => e = .returned (.bool x0) ∧ w' = w) (c1 : ∀ w, Calls Try.prog 32 #[.int .i64 sq] w fun e w' => e = .returned (.bool x1) ∧ w' = w) (c2 : ∀ w, Calls Try.prog 30 #[.int .i64 la, .int .i64 sq, .int .i64 1073741824] w fun e w' => e = .returned (.bool x2) ∧ w' = w)
    (h : ∀ a', Fr a' g1 g3 (x0 && x1 && x2) kd → Q .normal a' w) :
    (Code.region id (r26 p) false).wp Try.prog Q a w := by
  have hsz := f.fa.sz
  have hdf := f.fa.df
  have e1 := f.fa.e1
  have e3 := f.fa.e3
  have e4 := f.e4
  have ek := f.ek
  refine wlStart (l := [r26_0 p, r26_1 p, r26_2 p, r26_3 p, r26_4 p, r26_5 p, r26_6 p, r26_7 p, r26_8 p, r26_9 p, r26_10 p, r26_11 p, r26_12 p, r26_13 p, r26_14 p, r26_15 p]) rfl ?_
  refine wlVal rfl rfl (.pointer (some ⟨g1, 6, none⟩)) (run_field 6 (by omega) w _ _ rfl _ g1 (by simp [e1])) ?_
  refine wlVal rfl rfl (.int .i64 ep) (run_load3 w _ _ rfl _ ⟨g1, 6, none⟩ (by simp [ev_eq, hsz]) _ (mv_cell hg1 6 _ y6)) ?_
  refine wlC rfl rfl 30 #[(.int .i64 ep), (.int .i64 1), (.int .i64 1073741824)] (.bool x0) (run_call3 30 call18 _ _ _ _ _ _ _ _ rfl _ _ _ _ (by simp [ev_eq, sz_put, hsz]) (by simp [ev_const]) (by simp [ev_const])) (c0 _) ?_
  cases x0 with
  | false =>
    refine wlVal rfl rfl (.bool false) (run_move w _ _ rfl _ _ (by simp [ev_eq, sz_put, hsz])) ?_
    refine wlN 3 191 true false rfl rfl rfl rfl (by simp [ev_eq, sz_put, hsz]) (by decide) ?_
    refine wlN 3 191 true false rfl rfl rfl rfl (by simp [ev_ne, ev_eq, sz_put, hsz]) (by decide) ?_
    refine wlN 3 191 true false rfl rfl rfl rfl (by simp [ev_ne, ev_eq, sz_put, hsz]) (by decide) ?_
    refine wlVal rfl rfl (.bool false) (run_pick w _ _ _ _ rfl _ false _ (by simp [ev_ne, ev_eq, sz_put, hsz]) (by simp [ev_const])) ?_
    refine wlVal rfl rfl (.bool false) (run_move w _ _ rfl _ _ (by simp [ev_eq, sz_put, hsz])) ?_
    refine wlN 8 196 true false rfl rfl rfl rfl (by simp [ev_eq, sz_put, hsz]) (by decide) ?_
    refine wlN 8 196 true false rfl rfl rfl rfl (by simp [ev_ne, ev_eq, sz_put, hsz]) (by decide) ?_
    refine wlN 8 196 true false rfl rfl rfl rfl (by simp [ev_ne, ev_eq, sz_put, hsz]) (by decide) ?_
    refine wlN 8 196 true false rfl rfl rfl rfl (by simp [ev_ne, ev_eq, sz_put, hsz]) (by decide) ?_
    refine wlN 8 196 true false rfl rfl rfl rfl (by simp [ev_ne, ev_eq, sz_put, hsz]) (by decide) ?_
    refine wlVal rfl rfl (.bool false) (run_pick w _ _ _ _ rfl _ false _ (by simp [ev_ne, ev_eq, sz_put, hsz]) (by simp [ev_const])) ?_
    refine wlVal rfl rfl (.bool false) (run_assign w _ _ rfl _ _ (by simp [ev_eq, sz_put, hsz])) ?_
    exact wlDone <| h _ ⟨⟨by simp [sz_put, hsz], by simp [def_put, hdf], by simp [ev_ne, e1], by simp [ev_ne, e3]⟩, by simp [ev_eq, sz_put, hsz], by simp [ev_ne, ek]⟩
  | true =>
    refine wlVal rfl rfl (.bool true) (run_move w _ _ rfl _ _ (by simp [ev_eq, sz_put, hsz])) ?_
    refine wlG 3 191 true rfl rfl rfl rfl (by simp [ev_eq, sz_put, hsz]) (.pointer (some ⟨g1, 7, none⟩)) (run_field 7 (by omega) w _ _ rfl _ g1 (by simp [ev_ne, e1])) ?_
    refine wlG 3 191 true rfl rfl rfl rfl (by simp [ev_ne, ev_eq, sz_put, hsz]) (.int .i64 sq) (run_load3 w _ _ rfl _ ⟨g1, 7, none⟩ (by simp [ev_eq, sz_put, hsz]) _ (mv_cell hg1 7 _ y7)) ?_
    refine wlCG 3 191 true rfl rfl rfl rfl (by simp [ev_ne, ev_eq, sz_put, hsz]) 32 #[(.int .i64 sq)] (.bool x1) (run_call1 32 call20 _ _ _ _ rfl _ _ (by simp [ev_eq, sz_put, hsz])) (c1 _) ?_
    cases x1 with
    | false =>
      refine wlVal rfl rfl (.bool false) (run_pick w _ _ _ _ rfl _ true _ (by simp [ev_ne, ev_eq, sz_put, hsz]) (by simp [ev_eq, sz_put, hsz])) ?_
      refine wlVal rfl rfl (.bool false) (run_move w _ _ rfl _ _ (by simp [ev_eq, sz_put, hsz])) ?_
      refine wlN 8 196 true false rfl rfl rfl rfl (by simp [ev_eq, sz_put, hsz]) (by decide) ?_
      refine wlN 8 196 true false rfl rfl rfl rfl (by simp [ev_ne, ev_eq, sz_put, hsz]) (by decide) ?_
      refine wlN 8 196 true false rfl rfl rfl rfl (by simp [ev_ne, ev_eq, sz_put, hsz]) (by decide) ?_
      refine wlN 8 196 true false rfl rfl rfl rfl (by simp [ev_ne, ev_eq, sz_put, hsz]) (by decide) ?_
      refine wlN 8 196 true false rfl rfl rfl rfl (by simp [ev_ne, ev_eq, sz_put, hsz]) (by decide) ?_
      refine wlVal rfl rfl (.bool false) (run_pick w _ _ _ _ rfl _ false _ (by simp [ev_ne, ev_eq, sz_put, hsz]) (by simp [ev_const])) ?_
      refine wlVal rfl rfl (.bool false) (run_assign w _ _ rfl _ _ (by simp [ev_eq, sz_put, hsz])) ?_
      exact wlDone <| h _ ⟨⟨by simp [sz_put, hsz], by simp [def_put, hdf], by simp [ev_ne, e1], by simp [ev_ne, e3]⟩, by simp [ev_eq, sz_put, hsz], by simp [ev_ne, ek]⟩
    | true =>
      refine wlVal rfl rfl (.bool true) (run_pick w _ _ _ _ rfl _ true _ (by simp [ev_ne, ev_eq, sz_put, hsz]) (by simp [ev_eq, sz_put, hsz])) ?_
      refine wlVal rfl rfl (.bool true) (run_move w _ _ rfl _ _ (by simp [ev_eq, sz_put, hsz])) ?_
      refine wlG 8 196 true rfl rfl rfl rfl (by simp [ev_eq, sz_put, hsz]) (.pointer (some ⟨g1, 8, none⟩)) (run_field 8 (by omega) w _ _ rfl _ g1 (by simp [ev_ne, e1])) ?_
      refine wlG 8 196 true rfl rfl rfl rfl (by simp [ev_ne, ev_eq, sz_put, hsz]) (.int .i64 la) (run_load3 w _ _ rfl _ ⟨g1, 8, none⟩ (by simp [ev_eq, sz_put, hsz]) _ (mv_cell hg1 8 _ y8)) ?_
      refine wlG 8 196 true rfl rfl rfl rfl (by simp [ev_ne, ev_eq, sz_put, hsz]) (.pointer (some ⟨g1, 7, none⟩)) (run_field 7 (by omega) w _ _ rfl _ g1 (by simp [ev_ne, e1])) ?_
      refine wlG 8 196 true rfl rfl rfl rfl (by simp [ev_ne, ev_eq, sz_put, hsz]) (.int .i64 sq) (run_load3 w _ _ rfl _ ⟨g1, 7, none⟩ (by simp [ev_eq, sz_put, hsz]) _ (mv_cell hg1 7 _ y7)) ?_
      refine wlCG 8 196 true rfl rfl rfl rfl (by simp [ev_ne, ev_eq, sz_put, hsz]) 30 #[(.int .i64 la), (.int .i64 sq), (.int .i64 1073741824)] (.bool x2) (run_call3 30 call18 _ _ _ _ _ _ _ _ rfl _ _ _ _ (by simp [ev_ne, ev_eq, sz_put, hsz]) (by simp [ev_eq, sz_put, hsz]) (by simp [ev_const])) (c2 _) ?_
      refine wlVal rfl rfl (.bool x2) (run_pick w _ _ _ _ rfl _ true _ (by simp [ev_ne, ev_eq, sz_put, hsz]) (by simp [ev_eq, sz_put, hsz])) ?_
      refine wlVal rfl rfl (.bool x2) (run_assign w _ _ rfl _ _ (by simp [ev_eq, sz_put, hsz])) ?_
      exact wlDone <| h _ ⟨⟨by simp [sz_put, hsz], by simp [def_put, hdf], by simp [ev_ne, e1], by simp [ev_ne, e3]⟩, by simp [ev_eq, sz_put, hsz], by simp [ev_ne, ek]⟩
def r29_0 (p : String) : Oper := { dst := some 214, op := Op.fieldAddr 24 (Operand.tmp 1) 10, type := 0, pos := p, after := #[], guard := none }
def r29_1 (p : String) : Oper := { dst := some 215, op := Op.load 3 (Operand.tmp 214), type := 3, pos := p, after := #[{ on := 0, ground := Ground.data }], guard := none }
def r29_2 (p : String) : Oper := { dst := some 216, op := Op.call { callee := Callee.value (Operand.func 31), args := #[Operand.tmp 215], argTypes := #[3] }, type := 4, pos := p, after := #[{ on := 1, ground := Ground.data }], guard := none }
def r29_3 (p : String) : Oper := { dst := some 217, op := Op.move (Operand.tmp 216), type := 4, pos := p, after := #[{ on := 2, ground := Ground.data }, { on := 2, ground := Ground.chain }], guard := none }
def r29_4 (p : String) : Oper := { dst := some 218, op := Op.fieldAddr 24 (Operand.tmp 1) 11, type := 0, pos := p, after := #[{ on := 3, ground := Ground.guard }], guard := some (3, true) }
def r29_5 (p : String) : Oper := { dst := some 219, op := Op.load 3 (Operand.tmp 218), type := 3, pos := p, after := #[{ on := 4, ground := Ground.data }, { on := 3, ground := Ground.guard }], guard := some (3, true) }
def r29_6 (p : String) : Oper := { dst := some 220, op := Op.call { callee := Callee.value (Operand.func 32), args := #[Operand.tmp 219], argTypes := #[3] }, type := 4, pos := p, after := #[{ on := 5, ground := Ground.data }, { on := 3, ground := Ground.chain }, { on := 3, ground := Ground.guard }], guard := some (3, true) }
def r29_7 (p : String) : Oper := { dst := some 221, op := Op.pick (Operand.tmp 217) (Operand.tmp 220) (Operand.const (Value.bool false)), type := 4, pos := p, after := #[{ on := 3, ground := Ground.data }, { on := 6, ground := Ground.data }], guard := none }
def r29_8 (p : String) : Oper := { dst := some 222, op := Op.move (Operand.tmp 221), type := 4, pos := p, after := #[{ on := 7, ground := Ground.data }, { on := 6, ground := Ground.chain }], guard := none }
def r29_9 (p : String) : Oper := { dst := some 223, op := Op.fieldAddr 24 (Operand.tmp 1) 12, type := 0, pos := p, after := #[{ on := 8, ground := Ground.guard }], guard := some (8, true) }
def r29_10 (p : String) : Oper := { dst := some 224, op := Op.load 3 (Operand.tmp 223), type := 3, pos := p, after := #[{ on := 9, ground := Ground.data }, { on := 8, ground := Ground.guard }], guard := some (8, true) }
def r29_11 (p : String) : Oper := { dst := some 225, op := Op.call { callee := Callee.value (Operand.func 32), args := #[Operand.tmp 224], argTypes := #[3] }, type := 4, pos := p, after := #[{ on := 10, ground := Ground.data }, { on := 8, ground := Ground.chain }, { on := 8, ground := Ground.guard }], guard := some (8, true) }
def r29_12 (p : String) : Oper := { dst := some 226, op := Op.pick (Operand.tmp 222) (Operand.tmp 225) (Operand.const (Value.bool false)), type := 4, pos := p, after := #[{ on := 8, ground := Ground.data }, { on := 11, ground := Ground.data }], guard := none }
def r29_13 (p : String) : Oper := { dst := some 227, op := Op.move (Operand.tmp 226), type := 4, pos := p, after := #[{ on := 12, ground := Ground.data }, { on := 11, ground := Ground.chain }], guard := none }
def r29_14 (p : String) : Oper := { dst := some 228, op := Op.fieldAddr 24 (Operand.tmp 1) 9, type := 0, pos := p, after := #[{ on := 13, ground := Ground.guard }], guard := some (13, true) }
def r29_15 (p : String) : Oper := { dst := some 229, op := Op.load 3 (Operand.tmp 228), type := 3, pos := p, after := #[{ on := 14, ground := Ground.data }, { on := 13, ground := Ground.guard }], guard := some (13, true) }
def r29_16 (p : String) : Oper := { dst := some 230, op := Op.call { callee := Callee.value (Operand.func 36), args := #[Operand.tmp 229], argTypes := #[3] }, type := 4, pos := p, after := #[{ on := 15, ground := Ground.data }, { on := 13, ground := Ground.chain }, { on := 13, ground := Ground.guard }], guard := some (13, true) }
def r29_17 (p : String) : Oper := { dst := some 231, op := Op.pick (Operand.tmp 227) (Operand.tmp 230) (Operand.const (Value.bool false)), type := 4, pos := p, after := #[{ on := 13, ground := Ground.data }, { on := 16, ground := Ground.data }], guard := none }
def r29_18 (p : String) : Oper := { dst := some 232, op := Op.move (Operand.tmp 231), type := 4, pos := p, after := #[{ on := 17, ground := Ground.data }, { on := 16, ground := Ground.chain }], guard := none }
def r29_19 (p : String) : Oper := { dst := some 233, op := Op.fieldAddr 24 (Operand.tmp 1) 13, type := 0, pos := p, after := #[{ on := 18, ground := Ground.guard }], guard := some (18, true) }
def r29_20 (p : String) : Oper := { dst := some 234, op := Op.load 3 (Operand.tmp 233), type := 3, pos := p, after := #[{ on := 19, ground := Ground.data }, { on := 18, ground := Ground.guard }], guard := some (18, true) }
def r29_21 (p : String) : Oper := { dst := some 235, op := Op.call { callee := Callee.value (Operand.func 30), args := #[Operand.tmp 234, Operand.const (Value.int IntKind.i64 0), Operand.const (Value.int IntKind.i64 16)], argTypes := #[3, 3, 3] }, type := 4, pos := p, after := #[{ on := 20, ground := Ground.data }, { on := 18, ground := Ground.chain }, { on := 18, ground := Ground.guard }], guard := some (18, true) }
def r29_22 (p : String) : Oper := { dst := some 236, op := Op.pick (Operand.tmp 232) (Operand.tmp 235) (Operand.const (Value.bool false)), type := 4, pos := p, after := #[{ on := 18, ground := Ground.data }, { on := 21, ground := Ground.data }], guard := none }
def r29_23 (p : String) : Oper := { dst := some 4, op := Op.assign (Operand.tmp 236), type := 4, pos := p, after := #[{ on := 22, ground := Ground.data }, { on := 21, ground := Ground.chain }, { on := 0, ground := Ground.phase }, { on := 1, ground := Ground.phase }, { on := 2, ground := Ground.phase }, { on := 3, ground := Ground.phase }, { on := 4, ground := Ground.phase }, { on := 5, ground := Ground.phase }, { on := 6, ground := Ground.phase }, { on := 7, ground := Ground.phase }, { on := 8, ground := Ground.phase }, { on := 9, ground := Ground.phase }, { on := 10, ground := Ground.phase }, { on := 11, ground := Ground.phase }, { on := 12, ground := Ground.phase }, { on := 13, ground := Ground.phase }, { on := 14, ground := Ground.phase }, { on := 15, ground := Ground.phase }, { on := 16, ground := Ground.phase }, { on := 17, ground := Ground.phase }, { on := 18, ground := Ground.phase }, { on := 19, ground := Ground.phase }, { on := 20, ground := Ground.phase }, { on := 21, ground := Ground.phase }, { on := 22, ground := Ground.phase }], guard := none }
def r29 (p : String) : Array Oper := #[r29_0 p, r29_1 p, r29_2 p, r29_3 p, r29_4 p, r29_5 p, r29_6 p, r29_7 p, r29_8 p, r29_9 p, r29_10 p, r29_11 p, r29_12 p, r29_13 p, r29_14 p, r29_15 p, r29_16 p, r29_17 p, r29_18 p, r29_19 p, r29_20 p, r29_21 p, r29_22 p, r29_23 p]
set_option maxRecDepth 100000 in
set_option maxHeartbeats 1000000 in
theorem reg29 {Q : Exit → Act → World → Prop} (id : Nat) (p : String) (a : Act) (w : World) (g1 g3 : Nat) (cs : Array Value) (cn ho ic no va : Int) (o : Bool) (kd : Int) (x0 x1 x2 x3 x4 : Bool)
    (f : Fr a g1 g3 o kd) (hg1 : w.heap[g1]? = some (.cells cs 24)) (y9 : cs[9]? = some (.int .i64 va)) (y10 : cs[10]? = some (.int .i64 no)) (y11 : cs[11]? = some (.int .i64 ic)) (y12 : cs[12]? = some (.int .i64 cn)) (y13 : cs[13]? = some (.int .i64 ho)) (c0 : ∀ w, Calls Try.prog 31 #[.int .i64 no] w fun e w' => e = .returned (.bool x0) ∧ w' = w) (c1 : ∀ w, Calls Try.prog 32 #[.int .i64 ic] w fun e w' => e = .returned (.bool x1) ∧ w' = w) (c2 : ∀ w, Calls Try.prog 32 #[.int .i64 cn] w fun e w' => e = .returned (.bool x2) ∧ w' = w) (c3 : ∀ w, Calls Try.prog 36 #[.int .i64 va] w fun e w' => e = .returned (.bool x3) ∧ w' = w) (c4 : ∀ w, Calls Try.prog 30 #[.int .i64 ho, .int .i64 0, .int .i64 16] w fun e w' => e = .returned (.bool x4) ∧ w' = w)
    (h : ∀ a', Fr a' g1 g3 (x0 && x1 && x2 && x3 && x4) kd → Q .normal a' w) :
    (Code.region id (r29 p) false).wp Try.prog Q a w := by
  have hsz := f.fa.sz
  have hdf := f.fa.df
  have e1 := f.fa.e1
  have e3 := f.fa.e3
  have e4 := f.e4
  have ek := f.ek
  refine wlStart (l := [r29_0 p, r29_1 p, r29_2 p, r29_3 p, r29_4 p, r29_5 p, r29_6 p, r29_7 p, r29_8 p, r29_9 p, r29_10 p, r29_11 p, r29_12 p, r29_13 p, r29_14 p, r29_15 p, r29_16 p, r29_17 p, r29_18 p, r29_19 p, r29_20 p, r29_21 p, r29_22 p, r29_23 p]) rfl ?_
  refine wlVal rfl rfl (.pointer (some ⟨g1, 10, none⟩)) (run_field 10 (by omega) w _ _ rfl _ g1 (by simp [e1])) ?_
  refine wlVal rfl rfl (.int .i64 no) (run_load3 w _ _ rfl _ ⟨g1, 10, none⟩ (by simp [ev_eq, hsz]) _ (mv_cell hg1 10 _ y10)) ?_
  refine wlC rfl rfl 31 #[(.int .i64 no)] (.bool x0) (run_call1 31 call19 _ _ _ _ rfl _ _ (by simp [ev_eq, sz_put, hsz])) (c0 _) ?_
  cases x0 with
  | false =>
    refine wlVal rfl rfl (.bool false) (run_move w _ _ rfl _ _ (by simp [ev_eq, sz_put, hsz])) ?_
    refine wlN 3 217 true false rfl rfl rfl rfl (by simp [ev_eq, sz_put, hsz]) (by decide) ?_
    refine wlN 3 217 true false rfl rfl rfl rfl (by simp [ev_ne, ev_eq, sz_put, hsz]) (by decide) ?_
    refine wlN 3 217 true false rfl rfl rfl rfl (by simp [ev_ne, ev_eq, sz_put, hsz]) (by decide) ?_
    refine wlVal rfl rfl (.bool false) (run_pick w _ _ _ _ rfl _ false _ (by simp [ev_ne, ev_eq, sz_put, hsz]) (by simp [ev_const])) ?_
    refine wlVal rfl rfl (.bool false) (run_move w _ _ rfl _ _ (by simp [ev_eq, sz_put, hsz])) ?_
    refine wlN 8 222 true false rfl rfl rfl rfl (by simp [ev_eq, sz_put, hsz]) (by decide) ?_
    refine wlN 8 222 true false rfl rfl rfl rfl (by simp [ev_ne, ev_eq, sz_put, hsz]) (by decide) ?_
    refine wlN 8 222 true false rfl rfl rfl rfl (by simp [ev_ne, ev_eq, sz_put, hsz]) (by decide) ?_
    refine wlVal rfl rfl (.bool false) (run_pick w _ _ _ _ rfl _ false _ (by simp [ev_ne, ev_eq, sz_put, hsz]) (by simp [ev_const])) ?_
    refine wlVal rfl rfl (.bool false) (run_move w _ _ rfl _ _ (by simp [ev_eq, sz_put, hsz])) ?_
    refine wlN 13 227 true false rfl rfl rfl rfl (by simp [ev_eq, sz_put, hsz]) (by decide) ?_
    refine wlN 13 227 true false rfl rfl rfl rfl (by simp [ev_ne, ev_eq, sz_put, hsz]) (by decide) ?_
    refine wlN 13 227 true false rfl rfl rfl rfl (by simp [ev_ne, ev_eq, sz_put, hsz]) (by decide) ?_
    refine wlVal rfl rfl (.bool false) (run_pick w _ _ _ _ rfl _ false _ (by simp [ev_ne, ev_eq, sz_put, hsz]) (by simp [ev_const])) ?_
    refine wlVal rfl rfl (.bool false) (run_move w _ _ rfl _ _ (by simp [ev_eq, sz_put, hsz])) ?_
    refine wlN 18 232 true false rfl rfl rfl rfl (by simp [ev_eq, sz_put, hsz]) (by decide) ?_
    refine wlN 18 232 true false rfl rfl rfl rfl (by simp [ev_ne, ev_eq, sz_put, hsz]) (by decide) ?_
    refine wlN 18 232 true false rfl rfl rfl rfl (by simp [ev_ne, ev_eq, sz_put, hsz]) (by decide) ?_
    refine wlVal rfl rfl (.bool false) (run_pick w _ _ _ _ rfl _ false _ (by simp [ev_ne, ev_eq, sz_put, hsz]) (by simp [ev_const])) ?_
    refine wlVal rfl rfl (.bool false) (run_assign w _ _ rfl _ _ (by simp [ev_eq, sz_put, hsz])) ?_
    exact wlDone <| h _ ⟨⟨by simp [sz_put, hsz], by simp [def_put, hdf], by simp [ev_ne, e1], by simp [ev_ne, e3]⟩, by simp [ev_eq, sz_put, hsz], by simp [ev_ne, ek]⟩
  | true =>
    refine wlVal rfl rfl (.bool true) (run_move w _ _ rfl _ _ (by simp [ev_eq, sz_put, hsz])) ?_
    refine wlG 3 217 true rfl rfl rfl rfl (by simp [ev_eq, sz_put, hsz]) (.pointer (some ⟨g1, 11, none⟩)) (run_field 11 (by omega) w _ _ rfl _ g1 (by simp [ev_ne, e1])) ?_
    refine wlG 3 217 true rfl rfl rfl rfl (by simp [ev_ne, ev_eq, sz_put, hsz]) (.int .i64 ic) (run_load3 w _ _ rfl _ ⟨g1, 11, none⟩ (by simp [ev_eq, sz_put, hsz]) _ (mv_cell hg1 11 _ y11)) ?_
    refine wlCG 3 217 true rfl rfl rfl rfl (by simp [ev_ne, ev_eq, sz_put, hsz]) 32 #[(.int .i64 ic)] (.bool x1) (run_call1 32 call20 _ _ _ _ rfl _ _ (by simp [ev_eq, sz_put, hsz])) (c1 _) ?_
    cases x1 with
    | false =>
      refine wlVal rfl rfl (.bool false) (run_pick w _ _ _ _ rfl _ true _ (by simp [ev_ne, ev_eq, sz_put, hsz]) (by simp [ev_eq, sz_put, hsz])) ?_
      refine wlVal rfl rfl (.bool false) (run_move w _ _ rfl _ _ (by simp [ev_eq, sz_put, hsz])) ?_
      refine wlN 8 222 true false rfl rfl rfl rfl (by simp [ev_eq, sz_put, hsz]) (by decide) ?_
      refine wlN 8 222 true false rfl rfl rfl rfl (by simp [ev_ne, ev_eq, sz_put, hsz]) (by decide) ?_
      refine wlN 8 222 true false rfl rfl rfl rfl (by simp [ev_ne, ev_eq, sz_put, hsz]) (by decide) ?_
      refine wlVal rfl rfl (.bool false) (run_pick w _ _ _ _ rfl _ false _ (by simp [ev_ne, ev_eq, sz_put, hsz]) (by simp [ev_const])) ?_
      refine wlVal rfl rfl (.bool false) (run_move w _ _ rfl _ _ (by simp [ev_eq, sz_put, hsz])) ?_
      refine wlN 13 227 true false rfl rfl rfl rfl (by simp [ev_eq, sz_put, hsz]) (by decide) ?_
      refine wlN 13 227 true false rfl rfl rfl rfl (by simp [ev_ne, ev_eq, sz_put, hsz]) (by decide) ?_
      refine wlN 13 227 true false rfl rfl rfl rfl (by simp [ev_ne, ev_eq, sz_put, hsz]) (by decide) ?_
      refine wlVal rfl rfl (.bool false) (run_pick w _ _ _ _ rfl _ false _ (by simp [ev_ne, ev_eq, sz_put, hsz]) (by simp [ev_const])) ?_
      refine wlVal rfl rfl (.bool false) (run_move w _ _ rfl _ _ (by simp [ev_eq, sz_put, hsz])) ?_
      refine wlN 18 232 true false rfl rfl rfl rfl (by simp [ev_eq, sz_put, hsz]) (by decide) ?_
      refine wlN 18 232 true false rfl rfl rfl rfl (by simp [ev_ne, ev_eq, sz_put, hsz]) (by decide) ?_
      refine wlN 18 232 true false rfl rfl rfl rfl (by simp [ev_ne, ev_eq, sz_put, hsz]) (by decide) ?_
      refine wlVal rfl rfl (.bool false) (run_pick w _ _ _ _ rfl _ false _ (by simp [ev_ne, ev_eq, sz_put, hsz]) (by simp [ev_const])) ?_
      refine wlVal rfl rfl (.bool false) (run_assign w _ _ rfl _ _ (by simp [ev_eq, sz_put, hsz])) ?_
      exact wlDone <| h _ ⟨⟨by simp [sz_put, hsz], by simp [def_put, hdf], by simp [ev_ne, e1], by simp [ev_ne, e3]⟩, by simp [ev_eq, sz_put, hsz], by simp [ev_ne, ek]⟩
    | true =>
      refine wlVal rfl rfl (.bool true) (run_pick w _ _ _ _ rfl _ true _ (by simp [ev_ne, ev_eq, sz_put, hsz]) (by simp [ev_eq, sz_put, hsz])) ?_
      refine wlVal rfl rfl (.bool true) (run_move w _ _ rfl _ _ (by simp [ev_eq, sz_put, hsz])) ?_
      refine wlG 8 222 true rfl rfl rfl rfl (by simp [ev_eq, sz_put, hsz]) (.pointer (some ⟨g1, 12, none⟩)) (run_field 12 (by omega) w _ _ rfl _ g1 (by simp [ev_ne, e1])) ?_
      refine wlG 8 222 true rfl rfl rfl rfl (by simp [ev_ne, ev_eq, sz_put, hsz]) (.int .i64 cn) (run_load3 w _ _ rfl _ ⟨g1, 12, none⟩ (by simp [ev_eq, sz_put, hsz]) _ (mv_cell hg1 12 _ y12)) ?_
      refine wlCG 8 222 true rfl rfl rfl rfl (by simp [ev_ne, ev_eq, sz_put, hsz]) 32 #[(.int .i64 cn)] (.bool x2) (run_call1 32 call20 _ _ _ _ rfl _ _ (by simp [ev_eq, sz_put, hsz])) (c2 _) ?_
      cases x2 with
      | false =>
        refine wlVal rfl rfl (.bool false) (run_pick w _ _ _ _ rfl _ true _ (by simp [ev_ne, ev_eq, sz_put, hsz]) (by simp [ev_eq, sz_put, hsz])) ?_
        refine wlVal rfl rfl (.bool false) (run_move w _ _ rfl _ _ (by simp [ev_eq, sz_put, hsz])) ?_
        refine wlN 13 227 true false rfl rfl rfl rfl (by simp [ev_eq, sz_put, hsz]) (by decide) ?_
        refine wlN 13 227 true false rfl rfl rfl rfl (by simp [ev_ne, ev_eq, sz_put, hsz]) (by decide) ?_
        refine wlN 13 227 true false rfl rfl rfl rfl (by simp [ev_ne, ev_eq, sz_put, hsz]) (by decide) ?_
        refine wlVal rfl rfl (.bool false) (run_pick w _ _ _ _ rfl _ false _ (by simp [ev_ne, ev_eq, sz_put, hsz]) (by simp [ev_const])) ?_
        refine wlVal rfl rfl (.bool false) (run_move w _ _ rfl _ _ (by simp [ev_eq, sz_put, hsz])) ?_
        refine wlN 18 232 true false rfl rfl rfl rfl (by simp [ev_eq, sz_put, hsz]) (by decide) ?_
        refine wlN 18 232 true false rfl rfl rfl rfl (by simp [ev_ne, ev_eq, sz_put, hsz]) (by decide) ?_
        refine wlN 18 232 true false rfl rfl rfl rfl (by simp [ev_ne, ev_eq, sz_put, hsz]) (by decide) ?_
        refine wlVal rfl rfl (.bool false) (run_pick w _ _ _ _ rfl _ false _ (by simp [ev_ne, ev_eq, sz_put, hsz]) (by simp [ev_const])) ?_
        refine wlVal rfl rfl (.bool false) (run_assign w _ _ rfl _ _ (by simp [ev_eq, sz_put, hsz])) ?_
        exact wlDone <| h _ ⟨⟨by simp [sz_put, hsz], by simp [def_put, hdf], by simp [ev_ne, e1], by simp [ev_ne, e3]⟩, by simp [ev_eq, sz_put, hsz], by simp [ev_ne, ek]⟩
      | true =>
        refine wlVal rfl rfl (.bool true) (run_pick w _ _ _ _ rfl _ true _ (by simp [ev_ne, ev_eq, sz_put, hsz]) (by simp [ev_eq, sz_put, hsz])) ?_
        refine wlVal rfl rfl (.bool true) (run_move w _ _ rfl _ _ (by simp [ev_eq, sz_put, hsz])) ?_
        refine wlG 13 227 true rfl rfl rfl rfl (by simp [ev_eq, sz_put, hsz]) (.pointer (some ⟨g1, 9, none⟩)) (run_field 9 (by omega) w _ _ rfl _ g1 (by simp [ev_ne, e1])) ?_
        refine wlG 13 227 true rfl rfl rfl rfl (by simp [ev_ne, ev_eq, sz_put, hsz]) (.int .i64 va) (run_load3 w _ _ rfl _ ⟨g1, 9, none⟩ (by simp [ev_eq, sz_put, hsz]) _ (mv_cell hg1 9 _ y9)) ?_
        refine wlCG 13 227 true rfl rfl rfl rfl (by simp [ev_ne, ev_eq, sz_put, hsz]) 36 #[(.int .i64 va)] (.bool x3) (run_call1 36 call23 _ _ _ _ rfl _ _ (by simp [ev_eq, sz_put, hsz])) (c3 _) ?_
        cases x3 with
        | false =>
          refine wlVal rfl rfl (.bool false) (run_pick w _ _ _ _ rfl _ true _ (by simp [ev_ne, ev_eq, sz_put, hsz]) (by simp [ev_eq, sz_put, hsz])) ?_
          refine wlVal rfl rfl (.bool false) (run_move w _ _ rfl _ _ (by simp [ev_eq, sz_put, hsz])) ?_
          refine wlN 18 232 true false rfl rfl rfl rfl (by simp [ev_eq, sz_put, hsz]) (by decide) ?_
          refine wlN 18 232 true false rfl rfl rfl rfl (by simp [ev_ne, ev_eq, sz_put, hsz]) (by decide) ?_
          refine wlN 18 232 true false rfl rfl rfl rfl (by simp [ev_ne, ev_eq, sz_put, hsz]) (by decide) ?_
          refine wlVal rfl rfl (.bool false) (run_pick w _ _ _ _ rfl _ false _ (by simp [ev_ne, ev_eq, sz_put, hsz]) (by simp [ev_const])) ?_
          refine wlVal rfl rfl (.bool false) (run_assign w _ _ rfl _ _ (by simp [ev_eq, sz_put, hsz])) ?_
          exact wlDone <| h _ ⟨⟨by simp [sz_put, hsz], by simp [def_put, hdf], by simp [ev_ne, e1], by simp [ev_ne, e3]⟩, by simp [ev_eq, sz_put, hsz], by simp [ev_ne, ek]⟩
        | true =>
          refine wlVal rfl rfl (.bool true) (run_pick w _ _ _ _ rfl _ true _ (by simp [ev_ne, ev_eq, sz_put, hsz]) (by simp [ev_eq, sz_put, hsz])) ?_
          refine wlVal rfl rfl (.bool true) (run_move w _ _ rfl _ _ (by simp [ev_eq, sz_put, hsz])) ?_
          refine wlG 18 232 true rfl rfl rfl rfl (by simp [ev_eq, sz_put, hsz]) (.pointer (some ⟨g1, 13, none⟩)) (run_field 13 (by omega) w _ _ rfl _ g1 (by simp [ev_ne, e1])) ?_
          refine wlG 18 232 true rfl rfl rfl rfl (by simp [ev_ne, ev_eq, sz_put, hsz]) (.int .i64 ho) (run_load3 w _ _ rfl _ ⟨g1, 13, none⟩ (by simp [ev_eq, sz_put, hsz]) _ (mv_cell hg1 13 _ y13)) ?_
          refine wlCG 18 232 true rfl rfl rfl rfl (by simp [ev_ne, ev_eq, sz_put, hsz]) 30 #[(.int .i64 ho), (.int .i64 0), (.int .i64 16)] (.bool x4) (run_call3 30 call18 _ _ _ _ _ _ _ _ rfl _ _ _ _ (by simp [ev_eq, sz_put, hsz]) (by simp [ev_const]) (by simp [ev_const])) (c4 _) ?_
          refine wlVal rfl rfl (.bool x4) (run_pick w _ _ _ _ rfl _ true _ (by simp [ev_ne, ev_eq, sz_put, hsz]) (by simp [ev_eq, sz_put, hsz])) ?_
          refine wlVal rfl rfl (.bool x4) (run_assign w _ _ rfl _ _ (by simp [ev_eq, sz_put, hsz])) ?_
          exact wlDone <| h _ ⟨⟨by simp [sz_put, hsz], by simp [def_put, hdf], by simp [ev_ne, e1], by simp [ev_ne, e3]⟩, by simp [ev_eq, sz_put, hsz], by simp [ev_ne, ek]⟩
def r35_0 (p : String) : Oper := { dst := some 319, op := Op.fieldAddr 24 (Operand.tmp 1) 12, type := 0, pos := p, after := #[], guard := none }
def r35_1 (p : String) : Oper := { dst := some 320, op := Op.load 3 (Operand.tmp 319), type := 3, pos := p, after := #[{ on := 0, ground := Ground.data }], guard := none }
def r35_2 (p : String) : Oper := { dst := some 321, op := Op.call { callee := Callee.value (Operand.func 30), args := #[Operand.tmp 320, Operand.const (Value.int IntKind.i64 1), Operand.const (Value.int IntKind.i64 40)], argTypes := #[3, 3, 3] }, type := 4, pos := p, after := #[{ on := 1, ground := Ground.data }], guard := none }
def r35_3 (p : String) : Oper := { dst := some 322, op := Op.move (Operand.tmp 321), type := 4, pos := p, after := #[{ on := 2, ground := Ground.data }, { on := 2, ground := Ground.chain }], guard := none }
def r35_4 (p : String) : Oper := { dst := some 323, op := Op.fieldAddr 24 (Operand.tmp 1) 9, type := 0, pos := p, after := #[{ on := 3, ground := Ground.guard }], guard := some (3, true) }
def r35_5 (p : String) : Oper := { dst := some 324, op := Op.load 3 (Operand.tmp 323), type := 3, pos := p, after := #[{ on := 4, ground := Ground.data }, { on := 3, ground := Ground.guard }], guard := some (3, true) }
def r35_6 (p : String) : Oper := { dst := some 325, op := Op.call { callee := Callee.value (Operand.func 31), args := #[Operand.tmp 324], argTypes := #[3] }, type := 4, pos := p, after := #[{ on := 5, ground := Ground.data }, { on := 3, ground := Ground.chain }, { on := 3, ground := Ground.guard }], guard := some (3, true) }
def r35_7 (p : String) : Oper := { dst := some 326, op := Op.pick (Operand.tmp 322) (Operand.tmp 325) (Operand.const (Value.bool false)), type := 4, pos := p, after := #[{ on := 3, ground := Ground.data }, { on := 6, ground := Ground.data }], guard := none }
def r35_8 (p : String) : Oper := { dst := some 4, op := Op.assign (Operand.tmp 326), type := 4, pos := p, after := #[{ on := 7, ground := Ground.data }, { on := 6, ground := Ground.chain }, { on := 0, ground := Ground.phase }, { on := 1, ground := Ground.phase }, { on := 2, ground := Ground.phase }, { on := 3, ground := Ground.phase }, { on := 4, ground := Ground.phase }, { on := 5, ground := Ground.phase }, { on := 6, ground := Ground.phase }, { on := 7, ground := Ground.phase }], guard := none }
def r35 (p : String) : Array Oper := #[r35_0 p, r35_1 p, r35_2 p, r35_3 p, r35_4 p, r35_5 p, r35_6 p, r35_7 p, r35_8 p]
set_option maxRecDepth 100000 in
set_option maxHeartbeats 1000000 in
theorem reg35 {Q : Exit → Act → World → Prop} (id : Nat) (p : String) (a : Act) (w : World) (g1 g3 : Nat) (cs : Array Value) (cn va : Int) (o : Bool) (kd : Int) (x0 x1 : Bool)
    (f : Fr a g1 g3 o kd) (hg1 : w.heap[g1]? = some (.cells cs 24)) (y9 : cs[9]? = some (.int .i64 va)) (y12 : cs[12]? = some (.int .i64 cn)) (c0 : ∀ w, Calls Try.prog 30 #[.int .i64 cn, .int .i64 1, .int .i64 40] w fun e w' => e = .returned (.bool x0) ∧ w' = w) (c1 : ∀ w, Calls Try.prog 31 #[.int .i64 va] w fun e w' => e = .returned (.bool x1) ∧ w' = w)
    (h : ∀ a', Fr a' g1 g3 (x0 && x1) kd → Q .normal a' w) :
    (Code.region id (r35 p) false).wp Try.prog Q a w := by
  have hsz := f.fa.sz
  have hdf := f.fa.df
  have e1 := f.fa.e1
  have e3 := f.fa.e3
  have e4 := f.e4
  have ek := f.ek
  refine wlStart (l := [r35_0 p, r35_1 p, r35_2 p, r35_3 p, r35_4 p, r35_5 p, r35_6 p, r35_7 p, r35_8 p]) rfl ?_
  refine wlVal rfl rfl (.pointer (some ⟨g1, 12, none⟩)) (run_field 12 (by omega) w _ _ rfl _ g1 (by simp [e1])) ?_
  refine wlVal rfl rfl (.int .i64 cn) (run_load3 w _ _ rfl _ ⟨g1, 12, none⟩ (by simp [ev_eq, hsz]) _ (mv_cell hg1 12 _ y12)) ?_
  refine wlC rfl rfl 30 #[(.int .i64 cn), (.int .i64 1), (.int .i64 40)] (.bool x0) (run_call3 30 call18 _ _ _ _ _ _ _ _ rfl _ _ _ _ (by simp [ev_eq, sz_put, hsz]) (by simp [ev_const]) (by simp [ev_const])) (c0 _) ?_
  cases x0 with
  | false =>
    refine wlVal rfl rfl (.bool false) (run_move w _ _ rfl _ _ (by simp [ev_eq, sz_put, hsz])) ?_
    refine wlN 3 322 true false rfl rfl rfl rfl (by simp [ev_eq, sz_put, hsz]) (by decide) ?_
    refine wlN 3 322 true false rfl rfl rfl rfl (by simp [ev_ne, ev_eq, sz_put, hsz]) (by decide) ?_
    refine wlN 3 322 true false rfl rfl rfl rfl (by simp [ev_ne, ev_eq, sz_put, hsz]) (by decide) ?_
    refine wlVal rfl rfl (.bool false) (run_pick w _ _ _ _ rfl _ false _ (by simp [ev_ne, ev_eq, sz_put, hsz]) (by simp [ev_const])) ?_
    refine wlVal rfl rfl (.bool false) (run_assign w _ _ rfl _ _ (by simp [ev_eq, sz_put, hsz])) ?_
    exact wlDone <| h _ ⟨⟨by simp [sz_put, hsz], by simp [def_put, hdf], by simp [ev_ne, e1], by simp [ev_ne, e3]⟩, by simp [ev_eq, sz_put, hsz], by simp [ev_ne, ek]⟩
  | true =>
    refine wlVal rfl rfl (.bool true) (run_move w _ _ rfl _ _ (by simp [ev_eq, sz_put, hsz])) ?_
    refine wlG 3 322 true rfl rfl rfl rfl (by simp [ev_eq, sz_put, hsz]) (.pointer (some ⟨g1, 9, none⟩)) (run_field 9 (by omega) w _ _ rfl _ g1 (by simp [ev_ne, e1])) ?_
    refine wlG 3 322 true rfl rfl rfl rfl (by simp [ev_ne, ev_eq, sz_put, hsz]) (.int .i64 va) (run_load3 w _ _ rfl _ ⟨g1, 9, none⟩ (by simp [ev_eq, sz_put, hsz]) _ (mv_cell hg1 9 _ y9)) ?_
    refine wlCG 3 322 true rfl rfl rfl rfl (by simp [ev_ne, ev_eq, sz_put, hsz]) 31 #[(.int .i64 va)] (.bool x1) (run_call1 31 call19 _ _ _ _ rfl _ _ (by simp [ev_eq, sz_put, hsz])) (c1 _) ?_
    refine wlVal rfl rfl (.bool x1) (run_pick w _ _ _ _ rfl _ true _ (by simp [ev_ne, ev_eq, sz_put, hsz]) (by simp [ev_eq, sz_put, hsz])) ?_
    refine wlVal rfl rfl (.bool x1) (run_assign w _ _ rfl _ _ (by simp [ev_eq, sz_put, hsz])) ?_
    exact wlDone <| h _ ⟨⟨by simp [sz_put, hsz], by simp [def_put, hdf], by simp [ev_ne, e1], by simp [ev_ne, e3]⟩, by simp [ev_eq, sz_put, hsz], by simp [ev_ne, ek]⟩
def r38_0 (p : String) : Oper := { dst := some 335, op := Op.fieldAddr 24 (Operand.tmp 1) 12, type := 0, pos := p, after := #[], guard := none }
def r38_1 (p : String) : Oper := { dst := some 336, op := Op.load 3 (Operand.tmp 335), type := 3, pos := p, after := #[{ on := 0, ground := Ground.data }], guard := none }
def r38_2 (p : String) : Oper := { dst := some 337, op := Op.call { callee := Callee.value (Operand.func 30), args := #[Operand.tmp 336, Operand.const (Value.int IntKind.i64 1), Operand.const (Value.int IntKind.i64 40)], argTypes := #[3, 3, 3] }, type := 4, pos := p, after := #[{ on := 1, ground := Ground.data }], guard := none }
def r38_3 (p : String) : Oper := { dst := some 4, op := Op.assign (Operand.tmp 337), type := 4, pos := p, after := #[{ on := 2, ground := Ground.data }, { on := 2, ground := Ground.chain }, { on := 0, ground := Ground.phase }, { on := 1, ground := Ground.phase }, { on := 2, ground := Ground.phase }], guard := none }
def r38 (p : String) : Array Oper := #[r38_0 p, r38_1 p, r38_2 p, r38_3 p]
set_option maxRecDepth 100000 in
set_option maxHeartbeats 1000000 in
theorem reg38 {Q : Exit → Act → World → Prop} (id : Nat) (p : String) (a : Act) (w : World) (g1 g3 : Nat) (cs : Array Value) (cn : Int) (o : Bool) (kd : Int) (x0 : Bool)
    (f : Fr a g1 g3 o kd) (hg1 : w.heap[g1]? = some (.cells cs 24)) (y12 : cs[12]? = some (.int .i64 cn)) (c0 : ∀ w, Calls Try.prog 30 #[.int .i64 cn, .int .i64 1, .int .i64 40] w fun e w' => e = .returned (.bool x0) ∧ w' = w)
    (h : ∀ a', Fr a' g1 g3 (x0) kd → Q .normal a' w) :
    (Code.region id (r38 p) false).wp Try.prog Q a w := by
  have hsz := f.fa.sz
  have hdf := f.fa.df
  have e1 := f.fa.e1
  have e3 := f.fa.e3
  have e4 := f.e4
  have ek := f.ek
  refine wlStart (l := [r38_0 p, r38_1 p, r38_2 p, r38_3 p]) rfl ?_
  refine wlVal rfl rfl (.pointer (some ⟨g1, 12, none⟩)) (run_field 12 (by omega) w _ _ rfl _ g1 (by simp [e1])) ?_
  refine wlVal rfl rfl (.int .i64 cn) (run_load3 w _ _ rfl _ ⟨g1, 12, none⟩ (by simp [ev_eq, hsz]) _ (mv_cell hg1 12 _ y12)) ?_
  refine wlC rfl rfl 30 #[(.int .i64 cn), (.int .i64 1), (.int .i64 40)] (.bool x0) (run_call3 30 call18 _ _ _ _ _ _ _ _ rfl _ _ _ _ (by simp [ev_eq, sz_put, hsz]) (by simp [ev_const]) (by simp [ev_const])) (c0 _) ?_
  refine wlVal rfl rfl (.bool x0) (run_assign w _ _ rfl _ _ (by simp [ev_eq, sz_put, hsz])) ?_
  exact wlDone <| h _ ⟨⟨by simp [sz_put, hsz], by simp [def_put, hdf], by simp [ev_ne, e1], by simp [ev_ne, e3]⟩, by simp [ev_eq, sz_put, hsz], by simp [ev_ne, ek]⟩
def r12_0 (p : String) : Oper := { dst := some 69, op := Op.fieldAddr 24 (Operand.tmp 1) 6, type := 0, pos := p, after := #[], guard := none }
def r12_1 (p : String) : Oper := { dst := some 70, op := Op.load 3 (Operand.tmp 69), type := 3, pos := p, after := #[{ on := 0, ground := Ground.data }], guard := none }
def r12_2 (p : String) : Oper := { dst := some 71, op := Op.fieldAddr 24 (Operand.tmp 3) 6, type := 0, pos := p, after := #[{ on := 0, ground := Ground.phase }, { on := 1, ground := Ground.phase }], guard := none }
def r12_3 (p : String) : Oper := { dst := none, op := Op.store 3 (Operand.tmp 71) (Operand.tmp 70), type := 0, pos := p, after := #[{ on := 2, ground := Ground.data }, { on := 1, ground := Ground.data }, { on := 0, ground := Ground.phase }, { on := 1, ground := Ground.phase }], guard := none }
def r12 (p : String) : Array Oper := #[r12_0 p, r12_1 p, r12_2 p, r12_3 p]
set_option maxRecDepth 100000 in
set_option maxHeartbeats 1000000 in
theorem reg12 {Q : Exit → Act → World → Prop} (id : Nat) (p : String) (a : Act) (w : World) (g1 g3 : Nat) (cs : Array Value) (ep : Int) (ds : Array Value) (o : Bool) (kd : Int)
    (f : Fr a g1 g3 o kd) (hg3 : w.heap[g3]? = some (.cells ds 24)) (hd : ds.size = 16) (hg1 : w.heap[g1]? = some (.cells cs 24)) (y6 : cs[6]? = some (.int .i64 ep)) 
    (h : ∀ a' w', Fr a' g1 g3 o kd → Below g3 w w' → w'.heap[g3]? = some (.cells (ds.setIfInBounds 6 (.int .i64 ep)) 24) → Q .normal a' w') :
    (Code.region id (r12 p) false).wp Try.prog Q a w := by
  have hsz := f.fa.sz
  have hdf := f.fa.df
  have e1 := f.fa.e1
  have e3 := f.fa.e3
  have e4 := f.e4
  have ek := f.ek
  refine wlStart (l := [r12_0 p, r12_1 p, r12_2 p, r12_3 p]) rfl ?_
  refine wlVal rfl rfl (.pointer (some ⟨g1, 6, none⟩)) (run_field 6 (by omega) w _ _ rfl _ g1 (by simp [e1])) ?_
  refine wlVal rfl rfl (.int .i64 ep) (run_load3 w _ _ rfl _ ⟨g1, 6, none⟩ (by simp [ev_eq, hsz]) _ (mv_cell hg1 6 _ y6)) ?_
  refine wlVal rfl rfl (.pointer (some ⟨g3, 6, none⟩)) (run_field 6 (by omega) w _ _ rfl _ g3 (by simp [ev_ne, e3])) ?_
  obtain ⟨u0, hu0⟩ : ∃ u, (ds)[6]? = some u := by simp [hd]
  refine wlStore rfl rfl (run_store3 _ _ _ _ rfl _ ⟨g3, 6, none⟩ (by simp [ev_eq, sz_put, hsz]) ep (by simp [ev_ne, ev_eq, sz_put, hsz]) u0 (mv_cell hg3 6 _ hu0) (frozen_of_row _ g3 6 _ _ hg3)) ?_
  have hx1 := heap_setCell_same w g3 6 _ _ (.int .i64 ep) hg3
  have bx1 := (Below.refl g3 w).setCell (p := ⟨g3, 6, none⟩) (Nat.le_refl _) (.int .i64 ep)
  exact wlDone <| h _ _ ⟨⟨by simp [sz_put, hsz], by simp [def_put, hdf], by simp [ev_ne, e1], by simp [ev_ne, e3]⟩, by simp [ev_ne, e4], by simp [ev_ne, ek]⟩ bx1 hx1
def r18_0 (p : String) : Oper := { dst := some 143, op := Op.fieldAddr 24 (Operand.tmp 1) 10, type := 0, pos := p, after := #[], guard := none }
def r18_1 (p : String) : Oper := { dst := some 144, op := Op.load 3 (Operand.tmp 143), type := 3, pos := p, after := #[{ on := 0, ground := Ground.data }], guard := none }
def r18_2 (p : String) : Oper := { dst := some 145, op := Op.fieldAddr 24 (Operand.tmp 3) 10, type := 0, pos := p, after := #[{ on := 0, ground := Ground.phase }, { on := 1, ground := Ground.phase }], guard := none }
def r18_3 (p : String) : Oper := { dst := none, op := Op.store 3 (Operand.tmp 145) (Operand.tmp 144), type := 0, pos := p, after := #[{ on := 2, ground := Ground.data }, { on := 1, ground := Ground.data }, { on := 0, ground := Ground.phase }, { on := 1, ground := Ground.phase }], guard := none }
def r18 (p : String) : Array Oper := #[r18_0 p, r18_1 p, r18_2 p, r18_3 p]
set_option maxRecDepth 100000 in
set_option maxHeartbeats 1000000 in
theorem reg18 {Q : Exit → Act → World → Prop} (id : Nat) (p : String) (a : Act) (w : World) (g1 g3 : Nat) (cs : Array Value) (no : Int) (ds : Array Value) (o : Bool) (kd : Int)
    (f : Fr a g1 g3 o kd) (hg3 : w.heap[g3]? = some (.cells ds 24)) (hd : ds.size = 16) (hg1 : w.heap[g1]? = some (.cells cs 24)) (y10 : cs[10]? = some (.int .i64 no)) 
    (h : ∀ a' w', Fr a' g1 g3 o kd → Below g3 w w' → w'.heap[g3]? = some (.cells (ds.setIfInBounds 10 (.int .i64 no)) 24) → Q .normal a' w') :
    (Code.region id (r18 p) false).wp Try.prog Q a w := by
  have hsz := f.fa.sz
  have hdf := f.fa.df
  have e1 := f.fa.e1
  have e3 := f.fa.e3
  have e4 := f.e4
  have ek := f.ek
  refine wlStart (l := [r18_0 p, r18_1 p, r18_2 p, r18_3 p]) rfl ?_
  refine wlVal rfl rfl (.pointer (some ⟨g1, 10, none⟩)) (run_field 10 (by omega) w _ _ rfl _ g1 (by simp [e1])) ?_
  refine wlVal rfl rfl (.int .i64 no) (run_load3 w _ _ rfl _ ⟨g1, 10, none⟩ (by simp [ev_eq, hsz]) _ (mv_cell hg1 10 _ y10)) ?_
  refine wlVal rfl rfl (.pointer (some ⟨g3, 10, none⟩)) (run_field 10 (by omega) w _ _ rfl _ g3 (by simp [ev_ne, e3])) ?_
  obtain ⟨u0, hu0⟩ : ∃ u, (ds)[10]? = some u := by simp [hd]
  refine wlStore rfl rfl (run_store3 _ _ _ _ rfl _ ⟨g3, 10, none⟩ (by simp [ev_eq, sz_put, hsz]) no (by simp [ev_ne, ev_eq, sz_put, hsz]) u0 (mv_cell hg3 10 _ hu0) (frozen_of_row _ g3 10 _ _ hg3)) ?_
  have hx1 := heap_setCell_same w g3 10 _ _ (.int .i64 no) hg3
  have bx1 := (Below.refl g3 w).setCell (p := ⟨g3, 10, none⟩) (Nat.le_refl _) (.int .i64 no)
  exact wlDone <| h _ _ ⟨⟨by simp [sz_put, hsz], by simp [def_put, hdf], by simp [ev_ne, e1], by simp [ev_ne, e3]⟩, by simp [ev_ne, e4], by simp [ev_ne, ek]⟩ bx1 hx1
def r39_0 (p : String) : Oper := { dst := some 338, op := Op.fieldAddr 24 (Operand.tmp 1) 12, type := 0, pos := p, after := #[], guard := none }
def r39_1 (p : String) : Oper := { dst := some 339, op := Op.load 3 (Operand.tmp 338), type := 3, pos := p, after := #[{ on := 0, ground := Ground.data }], guard := none }
def r39_2 (p : String) : Oper := { dst := some 340, op := Op.fieldAddr 24 (Operand.tmp 3) 12, type := 0, pos := p, after := #[{ on := 0, ground := Ground.phase }, { on := 1, ground := Ground.phase }], guard := none }
def r39_3 (p : String) : Oper := { dst := none, op := Op.store 3 (Operand.tmp 340) (Operand.tmp 339), type := 0, pos := p, after := #[{ on := 2, ground := Ground.data }, { on := 1, ground := Ground.data }, { on := 0, ground := Ground.phase }, { on := 1, ground := Ground.phase }], guard := none }
def r39 (p : String) : Array Oper := #[r39_0 p, r39_1 p, r39_2 p, r39_3 p]
set_option maxRecDepth 100000 in
set_option maxHeartbeats 1000000 in
theorem reg39 {Q : Exit → Act → World → Prop} (id : Nat) (p : String) (a : Act) (w : World) (g1 g3 : Nat) (cs : Array Value) (cn : Int) (ds : Array Value) (o : Bool) (kd : Int)
    (f : Fr a g1 g3 o kd) (hg3 : w.heap[g3]? = some (.cells ds 24)) (hd : ds.size = 16) (hg1 : w.heap[g1]? = some (.cells cs 24)) (y12 : cs[12]? = some (.int .i64 cn)) 
    (h : ∀ a' w', Fr a' g1 g3 o kd → Below g3 w w' → w'.heap[g3]? = some (.cells (ds.setIfInBounds 12 (.int .i64 cn)) 24) → Q .normal a' w') :
    (Code.region id (r39 p) false).wp Try.prog Q a w := by
  have hsz := f.fa.sz
  have hdf := f.fa.df
  have e1 := f.fa.e1
  have e3 := f.fa.e3
  have e4 := f.e4
  have ek := f.ek
  refine wlStart (l := [r39_0 p, r39_1 p, r39_2 p, r39_3 p]) rfl ?_
  refine wlVal rfl rfl (.pointer (some ⟨g1, 12, none⟩)) (run_field 12 (by omega) w _ _ rfl _ g1 (by simp [e1])) ?_
  refine wlVal rfl rfl (.int .i64 cn) (run_load3 w _ _ rfl _ ⟨g1, 12, none⟩ (by simp [ev_eq, hsz]) _ (mv_cell hg1 12 _ y12)) ?_
  refine wlVal rfl rfl (.pointer (some ⟨g3, 12, none⟩)) (run_field 12 (by omega) w _ _ rfl _ g3 (by simp [ev_ne, e3])) ?_
  obtain ⟨u0, hu0⟩ : ∃ u, (ds)[12]? = some u := by simp [hd]
  refine wlStore rfl rfl (run_store3 _ _ _ _ rfl _ ⟨g3, 12, none⟩ (by simp [ev_eq, sz_put, hsz]) cn (by simp [ev_ne, ev_eq, sz_put, hsz]) u0 (mv_cell hg3 12 _ hu0) (frozen_of_row _ g3 12 _ _ hg3)) ?_
  have hx1 := heap_setCell_same w g3 12 _ _ (.int .i64 cn) hg3
  have bx1 := (Below.refl g3 w).setCell (p := ⟨g3, 12, none⟩) (Nat.le_refl _) (.int .i64 cn)
  exact wlDone <| h _ _ ⟨⟨by simp [sz_put, hsz], by simp [def_put, hdf], by simp [ev_ne, e1], by simp [ev_ne, e3]⟩, by simp [ev_ne, e4], by simp [ev_ne, ek]⟩ bx1 hx1
end Go.Proofs.Ytmcmiojidgdjpaa
namespace Go.Proofs.Ytmcmiojidgdjpaa
open Go.RowKit

def c24_0 (p : String) : Oper := { dst := some 180, op := Op.fieldAddr 24 (Operand.tmp 1) 6, type := 0, pos := p, after := #[], guard := none }
def c24_1 (p : String) : Oper := { dst := some 181, op := Op.load 3 (Operand.tmp 180), type := 3, pos := p, after := #[{ on := 0, ground := Ground.data }], guard := none }
def c24_2 (p : String) : Oper := { dst := some 182, op := Op.fieldAddr 24 (Operand.tmp 1) 7, type := 0, pos := p, after := #[{ on := 5, ground := Ground.gcOnly Departure.lateStores }], guard := none }
def c24_3 (p : String) : Oper := { dst := some 183, op := Op.load 3 (Operand.tmp 182), type := 3, pos := p, after := #[{ on := 2, ground := Ground.data }, { on := 5, ground := Ground.gcOnly Departure.lateStores }], guard := none }
def c24_4 (p : String) : Oper := { dst := some 184, op := Op.fieldAddr 24 (Operand.tmp 3) 6, type := 0, pos := p, after := #[{ on := 0, ground := Ground.phase }, { on := 1, ground := Ground.phase }, { on := 2, ground := Ground.textOnly Departure.lateStores }, { on := 3, ground := Ground.textOnly Departure.lateStores }], guard := none }
def c24_5 (p : String) : Oper := { dst := none, op := Op.store 3 (Operand.tmp 184) (Operand.tmp 181), type := 0, pos := p, after := #[{ on := 4, ground := Ground.data }, { on := 1, ground := Ground.data }, { on := 0, ground := Ground.phase }, { on := 1, ground := Ground.phase }, { on := 2, ground := Ground.textOnly Departure.lateStores }, { on := 3, ground := Ground.textOnly Departure.lateStores }], guard := none }
def c24_6 (p : String) : Oper := { dst := some 185, op := Op.fieldAddr 24 (Operand.tmp 3) 7, type := 0, pos := p, after := #[{ on := 0, ground := Ground.phase }, { on := 1, ground := Ground.phase }, { on := 2, ground := Ground.phase }, { on := 3, ground := Ground.phase }, { on := 4, ground := Ground.phase }, { on := 5, ground := Ground.phase }], guard := none }
def c24_7 (p : String) : Oper := { dst := none, op := Op.store 3 (Operand.tmp 185) (Operand.tmp 183), type := 0, pos := p, after := #[{ on := 6, ground := Ground.data }, { on := 3, ground := Ground.data }, { on := 5, ground := Ground.chain }, { on := 0, ground := Ground.phase }, { on := 1, ground := Ground.phase }, { on := 2, ground := Ground.phase }, { on := 3, ground := Ground.phase }, { on := 4, ground := Ground.phase }, { on := 5, ground := Ground.phase }], guard := none }
def c24 (p : String) : Array Oper := #[c24_0 p, c24_1 p, c24_2 p, c24_3 p, c24_4 p, c24_5 p, c24_6 p, c24_7 p]
set_option maxRecDepth 100000 in
set_option maxHeartbeats 2000000 in
theorem copy_24 {Q : Exit → Act → World → Prop} (id : Nat) (p : String) (a : Act) (w : World) (g1 g3 : Nat) (cs ds : Array Value) (n0 : Int) (n1 : Int) (hsz : a.tmps.size = 347) (e1 : a.eval (.tmp 1) = .pointer (some ⟨g1, 0, none⟩)) (e3 : a.eval (.tmp 3) = .pointer (some ⟨g3, 0, none⟩))
    (hg1 : w.heap[g1]? = some (.cells cs 24)) (hg3 : w.heap[g3]? = some (.cells ds 24)) (hlt : g1 < g3) (hd : ds.size = 16) (y0 : cs[6]? = some (.int .i64 n0)) (y1 : cs[7]? = some (.int .i64 n1))
    (h : ∀ w', Below g3 w w' → w'.heap[g3]? = some (.cells ((ds.setIfInBounds 6 (.int .i64 n0)).setIfInBounds 7 (.int .i64 n1)) 24) → Q .normal ((((((a.put (some 180) (.pointer (some ⟨g1, 6, none⟩))).put (some 181) (.int .i64 n0)).put (some 182) (.pointer (some ⟨g1, 7, none⟩))).put (some 183) (.int .i64 n1)).put (some 184) (.pointer (some ⟨g3, 6, none⟩))).put (some 185) (.pointer (some ⟨g3, 7, none⟩))) w') :
    (Code.region id (c24 p) true).wp Try.prog Q a w := by
  refine wp_region_noPanic ?_
  have hQ : ∀ c a d v w, NoPanic Q (.panic c) (a.put d v) w → NoPanic Q (.panic c) a w := fun _ _ _ _ _ h => h
  have hx0 : w.drew.heap[g3]? = some (.cells ds 24) := by rw [heap_drew]; exact hg3
  have b0 : Below g3 w w.drew := (Below.refl _ w).drew
  refine wp_region_held (S := fun w' => Below g3 w w') (by kernel_rfl) ?_
  refine wpAnyH_take (i := 0) (v := .pointer (some ⟨g1, 6, none⟩)) rfl (by kernel_rfl) (by kernel_rfl) (by kernel_rfl) (fun c a w => hQ c a _ _ w) (.inl ⟨by kernel_rfl, fun w' hS => run_field 6 (by omega) w' _ _ rfl _ g1 (by simp [e1])⟩) b0 ?_
  refine reAct (a' := (a.put (some 180) (.pointer (some ⟨g1, 6, none⟩)))) (l' := #[true, false, false, false, false, false, false, false]) (by kernel_rfl) (by kernel_rfl) ?_
  refine wpAnyH_take (i := 1) (v := (.int .i64 n0)) rfl (by kernel_rfl) (by kernel_rfl) (by kernel_rfl) (fun c a w => hQ c a _ _ w) (.inl ⟨by kernel_rfl, fun w' hS => run_load3 w' _ _ rfl _ ⟨g1, 6, none⟩ (by simp [ev_eq, hsz]) _ (mv_cell ((hS.block g1 hlt).trans hg1) 6 _ y0)⟩) b0 ?_
  refine reAct (a' := ((a.put (some 180) (.pointer (some ⟨g1, 6, none⟩))).put (some 181) (.int .i64 n0))) (l' := #[true, true, false, false, false, false, false, false]) (by kernel_rfl) (by kernel_rfl) ?_
  refine wpAnyH_take (i := 2) (v := .pointer (some ⟨g1, 7, none⟩)) rfl (by kernel_rfl) (by kernel_rfl) (by kernel_rfl) (fun c a w => hQ c a _ _ w) (.inl ⟨by kernel_rfl, fun w' hS => run_field 7 (by omega) w' _ _ rfl _ g1 (by simp [ev_ne, e1])⟩) b0 ?_
  refine reAct (a' := (((a.put (some 180) (.pointer (some ⟨g1, 6, none⟩))).put (some 181) (.int .i64 n0)).put (some 182) (.pointer (some ⟨g1, 7, none⟩)))) (l' := #[true, true, true, false, false, false, false, false]) (by kernel_rfl) (by kernel_rfl) ?_
  refine wpAnyH_take (i := 3) (v := (.int .i64 n1)) rfl (by kernel_rfl) (by kernel_rfl) (by kernel_rfl) (fun c a w => hQ c a _ _ w) (.inl ⟨by kernel_rfl, fun w' hS => run_load3 w' _ _ rfl _ ⟨g1, 7, none⟩ (by simp [ev_eq, sz_put, hsz]) _ (mv_cell ((hS.block g1 hlt).trans hg1) 7 _ y1)⟩) b0 ?_
  refine reAct (a' := ((((a.put (some 180) (.pointer (some ⟨g1, 6, none⟩))).put (some 181) (.int .i64 n0)).put (some 182) (.pointer (some ⟨g1, 7, none⟩))).put (some 183) (.int .i64 n1))) (l' := #[true, true, true, true, false, false, false, false]) (by kernel_rfl) (by kernel_rfl) ?_
  refine wpAnyH_take (i := 4) (v := .pointer (some ⟨g3, 6, none⟩)) rfl (by kernel_rfl) (by kernel_rfl) (by kernel_rfl) (fun c a w => hQ c a _ _ w) (.inl ⟨by kernel_rfl, fun w' hS => run_field 6 (by omega) w' _ _ rfl _ g3 (by simp [ev_ne, e3])⟩) b0 ?_
  refine reAct (a' := (((((a.put (some 180) (.pointer (some ⟨g1, 6, none⟩))).put (some 181) (.int .i64 n0)).put (some 182) (.pointer (some ⟨g1, 7, none⟩))).put (some 183) (.int .i64 n1)).put (some 184) (.pointer (some ⟨g3, 6, none⟩)))) (l' := #[true, true, true, true, true, false, false, false]) (by kernel_rfl) (by kernel_rfl) ?_
  refine wpAnyH_all (rs := [5]) (by kernel_rfl) (by simp) ?_
  intro i hi
  obtain rfl : i = 5 := by simpa using hi
  have hx1 := heap_setCell_same w.drew g3 6 _ _ (.int .i64 n0) hx0
  have b1 : Below g3 w (w.drew.setCell ⟨g3, 6, none⟩ (.int .i64 n0)) := b0.setCell (Nat.le_refl _) _
  obtain ⟨u0, hu0⟩ : ∃ u, (ds)[6]? = some u := by simp [hd]
  refine wpOp_skip2 (o := c24_5 p) rfl (by kernel_rfl) (run_store3 _ _ _ _ rfl _ ⟨g3, 6, none⟩ (by simp [ev_eq, sz_put, hsz]) _ (by simp [ev_ne, ev_eq, sz_put, hsz]) u0 (mv_cell hx0 6 _ hu0) (frozen_of_row _ g3 6 _ _ hx0)) ⟨b1, ?_⟩
  refine reAct (a' := (((((a.put (some 180) (.pointer (some ⟨g1, 6, none⟩))).put (some 181) (.int .i64 n0)).put (some 182) (.pointer (some ⟨g1, 7, none⟩))).put (some 183) (.int .i64 n1)).put (some 184) (.pointer (some ⟨g3, 6, none⟩)))) (l' := #[true, true, true, true, true, true, false, false]) (by kernel_rfl) (by kernel_rfl) ?_
  refine wpAnyH_take (i := 6) (v := .pointer (some ⟨g3, 7, none⟩)) rfl (by kernel_rfl) (by kernel_rfl) (by kernel_rfl) (fun c a w => hQ c a _ _ w) (.inl ⟨by kernel_rfl, fun w' hS => run_field 7 (by omega) w' _ _ rfl _ g3 (by simp [ev_ne, e3])⟩) b1 ?_
  refine reAct (a' := ((((((a.put (some 180) (.pointer (some ⟨g1, 6, none⟩))).put (some 181) (.int .i64 n0)).put (some 182) (.pointer (some ⟨g1, 7, none⟩))).put (some 183) (.int .i64 n1)).put (some 184) (.pointer (some ⟨g3, 6, none⟩))).put (some 185) (.pointer (some ⟨g3, 7, none⟩)))) (l' := #[true, true, true, true, true, true, true, false]) (by kernel_rfl) (by kernel_rfl) ?_
  refine wpAnyH_all (rs := [7]) (by kernel_rfl) (by simp) ?_
  intro i hi
  obtain rfl : i = 7 := by simpa using hi
  have hx2 := heap_setCell_same (w.drew.setCell ⟨g3, 6, none⟩ (.int .i64 n0)) g3 7 _ _ (.int .i64 n1) hx1
  have b2 : Below g3 w ((w.drew.setCell ⟨g3, 6, none⟩ (.int .i64 n0)).setCell ⟨g3, 7, none⟩ (.int .i64 n1)) := b1.setCell (Nat.le_refl _) _
  obtain ⟨u1, hu1⟩ : ∃ u, (ds.setIfInBounds 6 (.int .i64 n0))[7]? = some u := by simp [hd]
  refine wpOp_skip2 (o := c24_7 p) rfl (by kernel_rfl) (run_store3 _ _ _ _ rfl _ ⟨g3, 7, none⟩ (by simp [ev_eq, sz_put, hsz]) _ (by simp [ev_ne, ev_eq, sz_put, hsz]) u1 (mv_cell hx1 7 _ hu1) (frozen_of_row _ g3 7 _ _ hx1)) ⟨b2, ?_⟩
  refine reAct (a' := ((((((a.put (some 180) (.pointer (some ⟨g1, 6, none⟩))).put (some 181) (.int .i64 n0)).put (some 182) (.pointer (some ⟨g1, 7, none⟩))).put (some 183) (.int .i64 n1)).put (some 184) (.pointer (some ⟨g3, 6, none⟩))).put (some 185) (.pointer (some ⟨g3, 7, none⟩)))) (l' := #[true, true, true, true, true, true, true, true]) (by kernel_rfl) (by kernel_rfl) ?_
  exact wpAnyH_done (by kernel_rfl) (NoPanic.normal (h _ b2 hx2)) _
end Go.Proofs.Ytmcmiojidgdjpaa
namespace Go.Proofs.Ytmcmiojidgdjpaa
open Go.RowKit

def c27_0 (p : String) : Oper := { dst := some 203, op := Op.fieldAddr 24 (Operand.tmp 1) 6, type := 0, pos := p, after := #[], guard := none }
def c27_1 (p : String) : Oper := { dst := some 204, op := Op.load 3 (Operand.tmp 203), type := 3, pos := p, after := #[{ on := 0, ground := Ground.data }], guard := none }
def c27_2 (p : String) : Oper := { dst := some 205, op := Op.fieldAddr 24 (Operand.tmp 1) 7, type := 0, pos := p, after := #[{ on := 7, ground := Ground.gcOnly Departure.lateStores }], guard := none }
def c27_3 (p : String) : Oper := { dst := some 206, op := Op.load 3 (Operand.tmp 205), type := 3, pos := p, after := #[{ on := 2, ground := Ground.data }, { on := 7, ground := Ground.gcOnly Departure.lateStores }], guard := none }
def c27_4 (p : String) : Oper := { dst := some 207, op := Op.fieldAddr 24 (Operand.tmp 1) 8, type := 0, pos := p, after := #[{ on := 9, ground := Ground.gcOnly Departure.lateStores }], guard := none }
def c27_5 (p : String) : Oper := { dst := some 208, op := Op.load 3 (Operand.tmp 207), type := 3, pos := p, after := #[{ on := 4, ground := Ground.data }, { on := 9, ground := Ground.gcOnly Departure.lateStores }], guard := none }
def c27_6 (p : String) : Oper := { dst := some 209, op := Op.fieldAddr 24 (Operand.tmp 3) 6, type := 0, pos := p, after := #[{ on := 0, ground := Ground.phase }, { on := 1, ground := Ground.phase }, { on := 2, ground := Ground.textOnly Departure.lateStores }, { on := 3, ground := Ground.textOnly Departure.lateStores }, { on := 4, ground := Ground.textOnly Departure.lateStores }, { on := 5, ground := Ground.textOnly Departure.lateStores }], guard := none }
def c27_7 (p : String) : Oper := { dst := none, op := Op.store 3 (Operand.tmp 209) (Operand.tmp 204), type := 0, pos := p, after := #[{ on := 6, ground := Ground.data }, { on := 1, ground := Ground.data }, { on := 0, ground := Ground.phase }, { on := 1, ground := Ground.phase }, { on := 2, ground := Ground.textOnly Departure.lateStores }, { on := 3, ground := Ground.textOnly Departure.lateStores }, { on := 4, ground := Ground.textOnly Departure.lateStores }, { on := 5, ground := Ground.textOnly Departure.lateStores }], guard := none }
def c27_8 (p : String) : Oper := { dst := some 210, op := Op.fieldAddr 24 (Operand.tmp 3) 7, type := 0, pos := p, after := #[{ on := 0, ground := Ground.phase }, { on := 1, ground := Ground.phase }, { on := 2, ground := Ground.phase }, { on := 3, ground := Ground.phase }, { on := 4, ground := Ground.textOnly Departure.lateStores }, { on := 5, ground := Ground.textOnly Departure.lateStores }, { on := 6, ground := Ground.phase }, { on := 7, ground := Ground.phase }], guard := none }
def c27_9 (p : String) : Oper := { dst := none, op := Op.store 3 (Operand.tmp 210) (Operand.tmp 206), type := 0, pos := p, after := #[{ on := 8, ground := Ground.data }, { on := 3, ground := Ground.data }, { on := 7, ground := Ground.chain }, { on := 0, ground := Ground.phase }, { on := 1, ground := Ground.phase }, { on := 2, ground := Ground.phase }, { on := 3, ground := Ground.phase }, { on := 4, ground := Ground.textOnly Departure.lateStores }, { on := 5, ground := Ground.textOnly Departure.lateStores }, { on := 6, ground := Ground.phase }, { on := 7, ground := Ground.phase }], guard := none }
def c27_10 (p : String) : Oper := { dst := some 211, op := Op.fieldAddr 24 (Operand.tmp 3) 8, type := 0, pos := p, after := #[{ on := 0, ground := Ground.phase }, { on := 1, ground := Ground.phase }, { on := 2, ground := Ground.phase }, { on := 3, ground := Ground.phase }, { on := 4, ground := Ground.phase }, { on := 5, ground := Ground.phase }, { on := 6, ground := Ground.phase }, { on := 7, ground := Ground.phase }, { on := 8, ground := Ground.phase }, { on := 9, ground := Ground.phase }], guard := none }
def c27_11 (p : String) : Oper := { dst := none, op := Op.store 3 (Operand.tmp 211) (Operand.tmp 208), type := 0, pos := p, after := #[{ on := 10, ground := Ground.data }, { on := 5, ground := Ground.data }, { on := 9, ground := Ground.chain }, { on := 0, ground := Ground.phase }, { on := 1, ground := Ground.phase }, { on := 2, ground := Ground.phase }, { on := 3, ground := Ground.phase }, { on := 4, ground := Ground.phase }, { on := 5, ground := Ground.phase }, { on := 6, ground := Ground.phase }, { on := 7, ground := Ground.phase }, { on := 8, ground := Ground.phase }, { on := 9, ground := Ground.phase }], guard := none }
def c27 (p : String) : Array Oper := #[c27_0 p, c27_1 p, c27_2 p, c27_3 p, c27_4 p, c27_5 p, c27_6 p, c27_7 p, c27_8 p, c27_9 p, c27_10 p, c27_11 p]
set_option maxRecDepth 100000 in
set_option maxHeartbeats 2000000 in
theorem copy_27 {Q : Exit → Act → World → Prop} (id : Nat) (p : String) (a : Act) (w : World) (g1 g3 : Nat) (cs ds : Array Value) (n0 : Int) (n1 : Int) (n2 : Int) (hsz : a.tmps.size = 347) (e1 : a.eval (.tmp 1) = .pointer (some ⟨g1, 0, none⟩)) (e3 : a.eval (.tmp 3) = .pointer (some ⟨g3, 0, none⟩))
    (hg1 : w.heap[g1]? = some (.cells cs 24)) (hg3 : w.heap[g3]? = some (.cells ds 24)) (hlt : g1 < g3) (hd : ds.size = 16) (y0 : cs[6]? = some (.int .i64 n0)) (y1 : cs[7]? = some (.int .i64 n1)) (y2 : cs[8]? = some (.int .i64 n2))
    (h : ∀ w', Below g3 w w' → w'.heap[g3]? = some (.cells (((ds.setIfInBounds 6 (.int .i64 n0)).setIfInBounds 7 (.int .i64 n1)).setIfInBounds 8 (.int .i64 n2)) 24) → Q .normal (((((((((a.put (some 203) (.pointer (some ⟨g1, 6, none⟩))).put (some 204) (.int .i64 n0)).put (some 205) (.pointer (some ⟨g1, 7, none⟩))).put (some 206) (.int .i64 n1)).put (some 207) (.pointer (some ⟨g1, 8, none⟩))).put (some 208) (.int .i64 n2)).put (some 209) (.pointer (some ⟨g3, 6, none⟩))).put (some 210) (.pointer (some ⟨g3, 7, none⟩))).put (some 211) (.pointer (some ⟨g3, 8, none⟩))) w') :
    (Code.region id (c27 p) true).wp Try.prog Q a w := by
  refine wp_region_noPanic ?_
  have hQ : ∀ c a d v w, NoPanic Q (.panic c) (a.put d v) w → NoPanic Q (.panic c) a w := fun _ _ _ _ _ h => h
  have hx0 : w.drew.heap[g3]? = some (.cells ds 24) := by rw [heap_drew]; exact hg3
  have b0 : Below g3 w w.drew := (Below.refl _ w).drew
  refine wp_region_held (S := fun w' => Below g3 w w') (by kernel_rfl) ?_
  refine wpAnyH_take (i := 0) (v := .pointer (some ⟨g1, 6, none⟩)) rfl (by kernel_rfl) (by kernel_rfl) (by kernel_rfl) (fun c a w => hQ c a _ _ w) (.inl ⟨by kernel_rfl, fun w' hS => run_field 6 (by omega) w' _ _ rfl _ g1 (by simp [e1])⟩) b0 ?_
  refine reAct (a' := (a.put (some 203) (.pointer (some ⟨g1, 6, none⟩)))) (l' := #[true, false, false, false, false, false, false, false, false, false, false, false]) (by kernel_rfl) (by kernel_rfl) ?_
  refine wpAnyH_take (i := 1) (v := (.int .i64 n0)) rfl (by kernel_rfl) (by kernel_rfl) (by kernel_rfl) (fun c a w => hQ c a _ _ w) (.inl ⟨by kernel_rfl, fun w' hS => run_load3 w' _ _ rfl _ ⟨g1, 6, none⟩ (by simp [ev_eq, hsz]) _ (mv_cell ((hS.block g1 hlt).trans hg1) 6 _ y0)⟩) b0 ?_
  refine reAct (a' := ((a.put (some 203) (.pointer (some ⟨g1, 6, none⟩))).put (some 204) (.int .i64 n0))) (l' := #[true, true, false, false, false, false, false, false, false, false, false, false]) (by kernel_rfl) (by kernel_rfl) ?_
  refine wpAnyH_take (i := 2) (v := .pointer (some ⟨g1, 7, none⟩)) rfl (by kernel_rfl) (by kernel_rfl) (by kernel_rfl) (fun c a w => hQ c a _ _ w) (.inl ⟨by kernel_rfl, fun w' hS => run_field 7 (by omega) w' _ _ rfl _ g1 (by simp [ev_ne, e1])⟩) b0 ?_
  refine reAct (a' := (((a.put (some 203) (.pointer (some ⟨g1, 6, none⟩))).put (some 204) (.int .i64 n0)).put (some 205) (.pointer (some ⟨g1, 7, none⟩)))) (l' := #[true, true, true, false, false, false, false, false, false, false, false, false]) (by kernel_rfl) (by kernel_rfl) ?_
  refine wpAnyH_take (i := 3) (v := (.int .i64 n1)) rfl (by kernel_rfl) (by kernel_rfl) (by kernel_rfl) (fun c a w => hQ c a _ _ w) (.inl ⟨by kernel_rfl, fun w' hS => run_load3 w' _ _ rfl _ ⟨g1, 7, none⟩ (by simp [ev_eq, sz_put, hsz]) _ (mv_cell ((hS.block g1 hlt).trans hg1) 7 _ y1)⟩) b0 ?_
  refine reAct (a' := ((((a.put (some 203) (.pointer (some ⟨g1, 6, none⟩))).put (some 204) (.int .i64 n0)).put (some 205) (.pointer (some ⟨g1, 7, none⟩))).put (some 206) (.int .i64 n1))) (l' := #[true, true, true, true, false, false, false, false, false, false, false, false]) (by kernel_rfl) (by kernel_rfl) ?_
  refine wpAnyH_take (i := 4) (v := .pointer (some ⟨g1, 8, none⟩)) rfl (by kernel_rfl) (by kernel_rfl) (by kernel_rfl) (fun c a w => hQ c a _ _ w) (.inl ⟨by kernel_rfl, fun w' hS => run_field 8 (by omega) w' _ _ rfl _ g1 (by simp [ev_ne, e1])⟩) b0 ?_
  refine reAct (a' := (((((a.put (some 203) (.pointer (some ⟨g1, 6, none⟩))).put (some 204) (.int .i64 n0)).put (some 205) (.pointer (some ⟨g1, 7, none⟩))).put (some 206) (.int .i64 n1)).put (some 207) (.pointer (some ⟨g1, 8, none⟩)))) (l' := #[true, true, true, true, true, false, false, false, false, false, false, false]) (by kernel_rfl) (by kernel_rfl) ?_
  refine wpAnyH_take (i := 5) (v := (.int .i64 n2)) rfl (by kernel_rfl) (by kernel_rfl) (by kernel_rfl) (fun c a w => hQ c a _ _ w) (.inl ⟨by kernel_rfl, fun w' hS => run_load3 w' _ _ rfl _ ⟨g1, 8, none⟩ (by simp [ev_eq, sz_put, hsz]) _ (mv_cell ((hS.block g1 hlt).trans hg1) 8 _ y2)⟩) b0 ?_
  refine reAct (a' := ((((((a.put (some 203) (.pointer (some ⟨g1, 6, none⟩))).put (some 204) (.int .i64 n0)).put (some 205) (.pointer (some ⟨g1, 7, none⟩))).put (some 206) (.int .i64 n1)).put (some 207) (.pointer (some ⟨g1, 8, none⟩))).put (some 208) (.int .i64 n2))) (l' := #[true, true, true, true, true, true, false, false, false, false, false, false]) (by kernel_rfl) (by kernel_rfl) ?_
  refine wpAnyH_take (i := 6) (v := .pointer (some ⟨g3, 6, none⟩)) rfl (by kernel_rfl) (by kernel_rfl) (by kernel_rfl) (fun c a w => hQ c a _ _ w) (.inl ⟨by kernel_rfl, fun w' hS => run_field 6 (by omega) w' _ _ rfl _ g3 (by simp [ev_ne, e3])⟩) b0 ?_
  refine reAct (a' := (((((((a.put (some 203) (.pointer (some ⟨g1, 6, none⟩))).put (some 204) (.int .i64 n0)).put (some 205) (.pointer (some ⟨g1, 7, none⟩))).put (some 206) (.int .i64 n1)).put (some 207) (.pointer (some ⟨g1, 8, none⟩))).put (some 208) (.int .i64 n2)).put (some 209) (.pointer (some ⟨g3, 6, none⟩)))) (l' := #[true, true, true, true, true, true, true, false, false, false, false, false]) (by kernel_rfl) (by kernel_rfl) ?_
  refine wpAnyH_all (rs := [7]) (by kernel_rfl) (by simp) ?_
  intro i hi
  obtain rfl : i = 7 := by simpa using hi
  have hx1 := heap_setCell_same w.drew g3 6 _ _ (.int .i64 n0) hx0
  have b1 : Below g3 w (w.drew.setCell ⟨g3, 6, none⟩ (.int .i64 n0)) := b0.setCell (Nat.le_refl _) _
  obtain ⟨u0, hu0⟩ : ∃ u, (ds)[6]? = some u := by simp [hd]
  refine wpOp_skip2 (o := c27_7 p) rfl (by kernel_rfl) (run_store3 _ _ _ _ rfl _ ⟨g3, 6, none⟩ (by simp [ev_eq, sz_put, hsz]) _ (by simp [ev_ne, ev_eq, sz_put, hsz]) u0 (mv_cell hx0 6 _ hu0) (frozen_of_row _ g3 6 _ _ hx0)) ⟨b1, ?_⟩
  refine reAct (a' := (((((((a.put (some 203) (.pointer (some ⟨g1, 6, none⟩))).put (some 204) (.int .i64 n0)).put (some 205) (.pointer (some ⟨g1, 7, none⟩))).put (some 206) (.int .i64 n1)).put (some 207) (.pointer (some ⟨g1, 8, none⟩))).put (some 208) (.int .i64 n2)).put (some 209) (.pointer (some ⟨g3, 6, none⟩)))) (l' := #[true, true, true, true, true, true, true, true, false, false, false, false]) (by kernel_rfl) (by kernel_rfl) ?_
  refine wpAnyH_take (i := 8) (v := .pointer (some ⟨g3, 7, none⟩)) rfl (by kernel_rfl) (by kernel_rfl) (by kernel_rfl) (fun c a w => hQ c a _ _ w) (.inl ⟨by kernel_rfl, fun w' hS => run_field 7 (by omega) w' _ _ rfl _ g3 (by simp [ev_ne, e3])⟩) b1 ?_
  refine reAct (a' := ((((((((a.put (some 203) (.pointer (some ⟨g1, 6, none⟩))).put (some 204) (.int .i64 n0)).put (some 205) (.pointer (some ⟨g1, 7, none⟩))).put (some 206) (.int .i64 n1)).put (some 207) (.pointer (some ⟨g1, 8, none⟩))).put (some 208) (.int .i64 n2)).put (some 209) (.pointer (some ⟨g3, 6, none⟩))).put (some 210) (.pointer (some ⟨g3, 7, none⟩)))) (l' := #[true, true, true, true, true, true, true, true, true, false, false, false]) (by kernel_rfl) (by kernel_rfl) ?_
  refine wpAnyH_all (rs := [9]) (by kernel_rfl) (by simp) ?_
  intro i hi
  obtain rfl : i = 9 := by simpa using hi
  have hx2 := heap_setCell_same (w.drew.setCell ⟨g3, 6, none⟩ (.int .i64 n0)) g3 7 _ _ (.int .i64 n1) hx1
  have b2 : Below g3 w ((w.drew.setCell ⟨g3, 6, none⟩ (.int .i64 n0)).setCell ⟨g3, 7, none⟩ (.int .i64 n1)) := b1.setCell (Nat.le_refl _) _
  obtain ⟨u1, hu1⟩ : ∃ u, (ds.setIfInBounds 6 (.int .i64 n0))[7]? = some u := by simp [hd]
  refine wpOp_skip2 (o := c27_9 p) rfl (by kernel_rfl) (run_store3 _ _ _ _ rfl _ ⟨g3, 7, none⟩ (by simp [ev_eq, sz_put, hsz]) _ (by simp [ev_ne, ev_eq, sz_put, hsz]) u1 (mv_cell hx1 7 _ hu1) (frozen_of_row _ g3 7 _ _ hx1)) ⟨b2, ?_⟩
  refine reAct (a' := ((((((((a.put (some 203) (.pointer (some ⟨g1, 6, none⟩))).put (some 204) (.int .i64 n0)).put (some 205) (.pointer (some ⟨g1, 7, none⟩))).put (some 206) (.int .i64 n1)).put (some 207) (.pointer (some ⟨g1, 8, none⟩))).put (some 208) (.int .i64 n2)).put (some 209) (.pointer (some ⟨g3, 6, none⟩))).put (some 210) (.pointer (some ⟨g3, 7, none⟩)))) (l' := #[true, true, true, true, true, true, true, true, true, true, false, false]) (by kernel_rfl) (by kernel_rfl) ?_
  refine wpAnyH_take (i := 10) (v := .pointer (some ⟨g3, 8, none⟩)) rfl (by kernel_rfl) (by kernel_rfl) (by kernel_rfl) (fun c a w => hQ c a _ _ w) (.inl ⟨by kernel_rfl, fun w' hS => run_field 8 (by omega) w' _ _ rfl _ g3 (by simp [ev_ne, e3])⟩) b2 ?_
  refine reAct (a' := (((((((((a.put (some 203) (.pointer (some ⟨g1, 6, none⟩))).put (some 204) (.int .i64 n0)).put (some 205) (.pointer (some ⟨g1, 7, none⟩))).put (some 206) (.int .i64 n1)).put (some 207) (.pointer (some ⟨g1, 8, none⟩))).put (some 208) (.int .i64 n2)).put (some 209) (.pointer (some ⟨g3, 6, none⟩))).put (some 210) (.pointer (some ⟨g3, 7, none⟩))).put (some 211) (.pointer (some ⟨g3, 8, none⟩)))) (l' := #[true, true, true, true, true, true, true, true, true, true, true, false]) (by kernel_rfl) (by kernel_rfl) ?_
  refine wpAnyH_all (rs := [11]) (by kernel_rfl) (by simp) ?_
  intro i hi
  obtain rfl : i = 11 := by simpa using hi
  have hx3 := heap_setCell_same ((w.drew.setCell ⟨g3, 6, none⟩ (.int .i64 n0)).setCell ⟨g3, 7, none⟩ (.int .i64 n1)) g3 8 _ _ (.int .i64 n2) hx2
  have b3 : Below g3 w (((w.drew.setCell ⟨g3, 6, none⟩ (.int .i64 n0)).setCell ⟨g3, 7, none⟩ (.int .i64 n1)).setCell ⟨g3, 8, none⟩ (.int .i64 n2)) := b2.setCell (Nat.le_refl _) _
  obtain ⟨u2, hu2⟩ : ∃ u, ((ds.setIfInBounds 6 (.int .i64 n0)).setIfInBounds 7 (.int .i64 n1))[8]? = some u := by simp [hd]
  refine wpOp_skip2 (o := c27_11 p) rfl (by kernel_rfl) (run_store3 _ _ _ _ rfl _ ⟨g3, 8, none⟩ (by simp [ev_eq, sz_put, hsz]) _ (by simp [ev_ne, ev_eq, sz_put, hsz]) u2 (mv_cell hx2 8 _ hu2) (frozen_of_row _ g3 8 _ _ hx2)) ⟨b3, ?_⟩
  refine reAct (a' := (((((((((a.put (some 203) (.pointer (some ⟨g1, 6, none⟩))).put (some 204) (.int .i64 n0)).put (some 205) (.pointer (some ⟨g1, 7, none⟩))).put (some 206) (.int .i64 n1)).put (some 207) (.pointer (some ⟨g1, 8, none⟩))).put (some 208) (.int .i64 n2)).put (some 209) (.pointer (some ⟨g3, 6, none⟩))).put (some 210) (.pointer (some ⟨g3, 7, none⟩))).put (some 211) (.pointer (some ⟨g3, 8, none⟩)))) (l' := #[true, true, true, true, true, true, true, true, true, true, true, true]) (by kernel_rfl) (by kernel_rfl) ?_
  exact wpAnyH_done (by kernel_rfl) (NoPanic.normal (h _ b3 hx3)) _
end Go.Proofs.Ytmcmiojidgdjpaa
namespace Go.Proofs.Ytmcmiojidgdjpaa
open Go.RowKit

def c30_0 (p : String) : Oper := { dst := some 237, op := Op.fieldAddr 24 (Operand.tmp 1) 10, type := 0, pos := p, after := #[], guard := none }
def c30_1 (p : String) : Oper := { dst := some 238, op := Op.load 3 (Operand.tmp 237), type := 3, pos := p, after := #[{ on := 0, ground := Ground.data }], guard := none }
def c30_2 (p : String) : Oper := { dst := some 239, op := Op.fieldAddr 24 (Operand.tmp 1) 11, type := 0, pos := p, after := #[{ on := 11, ground := Ground.gcOnly Departure.lateStores }], guard := none }
def c30_3 (p : String) : Oper := { dst := some 240, op := Op.load 3 (Operand.tmp 239), type := 3, pos := p, after := #[{ on := 2, ground := Ground.data }, { on := 11, ground := Ground.gcOnly Departure.lateStores }], guard := none }
def c30_4 (p : String) : Oper := { dst := some 241, op := Op.fieldAddr 24 (Operand.tmp 1) 12, type := 0, pos := p, after := #[{ on := 13, ground := Ground.gcOnly Departure.lateStores }], guard := none }
def c30_5 (p : String) : Oper := { dst := some 242, op := Op.load 3 (Operand.tmp 241), type := 3, pos := p, after := #[{ on := 4, ground := Ground.data }, { on := 13, ground := Ground.gcOnly Departure.lateStores }], guard := none }
def c30_6 (p : String) : Oper := { dst := some 243, op := Op.fieldAddr 24 (Operand.tmp 1) 9, type := 0, pos := p, after := #[{ on := 15, ground := Ground.gcOnly Departure.lateStores }], guard := none }
def c30_7 (p : String) : Oper := { dst := some 244, op := Op.load 3 (Operand.tmp 243), type := 3, pos := p, after := #[{ on := 6, ground := Ground.data }, { on := 15, ground := Ground.gcOnly Departure.lateStores }], guard := none }
def c30_8 (p : String) : Oper := { dst := some 245, op := Op.fieldAddr 24 (Operand.tmp 1) 13, type := 0, pos := p, after := #[{ on := 17, ground := Ground.gcOnly Departure.lateStores }], guard := none }
def c30_9 (p : String) : Oper := { dst := some 246, op := Op.load 3 (Operand.tmp 245), type := 3, pos := p, after := #[{ on := 8, ground := Ground.data }, { on := 17, ground := Ground.gcOnly Departure.lateStores }], guard := none }
def c30_10 (p : String) : Oper := { dst := some 247, op := Op.fieldAddr 24 (Operand.tmp 3) 10, type := 0, pos := p, after := #[{ on := 0, ground := Ground.phase }, { on := 1, ground := Ground.phase }, { on := 2, ground := Ground.textOnly Departure.lateStores }, { on := 3, ground := Ground.textOnly Departure.lateStores }, { on := 4, ground := Ground.textOnly Departure.lateStores }, { on := 5, ground := Ground.textOnly Departure.lateStores }, { on := 6, ground := Ground.textOnly Departure.lateStores }, { on := 7, ground := Ground.textOnly Departure.lateStores }, { on := 8, ground := Ground.textOnly Departure.lateStores }, { on := 9, ground := Ground.textOnly Departure.lateStores }], guard := none }
def c30_11 (p : String) : Oper := { dst := none, op := Op.store 3 (Operand.tmp 247) (Operand.tmp 238), type := 0, pos := p, after := #[{ on := 10, ground := Ground.data }, { on := 1, ground := Ground.data }, { on := 0, ground := Ground.phase }, { on := 1, ground := Ground.phase }, { on := 2, ground := Ground.textOnly Departure.lateStores }, { on := 3, ground := Ground.textOnly Departure.lateStores }, { on := 4, ground := Ground.textOnly Departure.lateStores }, { on := 5, ground := Ground.textOnly Departure.lateStores }, { on := 6, ground := Ground.textOnly Departure.lateStores }, { on := 7, ground := Ground.textOnly Departure.lateStores }, { on := 8, ground := Ground.textOnly Departure.lateStores }, { on := 9, ground := Ground.textOnly Departure.lateStores }], guard := none }
def c30_12 (p : String) : Oper := { dst := some 248, op := Op.fieldAddr 24 (Operand.tmp 3) 11, type := 0, pos := p, after := #[{ on := 0, ground := Ground.phase }, { on := 1, ground := Ground.phase }, { on := 2, ground := Ground.phase }, { on := 3, ground := Ground.phase }, { on := 4, ground := Ground.textOnly Departure.lateStores }, { on := 5, ground := Ground.textOnly Departure.lateStores }, { on := 6, ground := Ground.textOnly Departure.lateStores }, { on := 7, ground := Ground.textOnly Departure.lateStores }, { on := 8, ground := Ground.textOnly Departure.lateStores }, { on := 9, ground := Ground.textOnly Departure.lateStores }, { on := 10, ground := Ground.phase }, { on := 11, ground := Ground.phase }], guard := none }
def c30_13 (p : String) : Oper := { dst := none, op := Op.store 3 (Operand.tmp 248) (Operand.tmp 240), type := 0, pos := p, after := #[{ on := 12, ground := Ground.data }, { on := 3, ground := Ground.data }, { on := 11, ground := Ground.chain }, { on := 0, ground := Ground.phase }, { on := 1, ground := Ground.phase }, { on := 2, ground := Ground.phase }, { on := 3, ground := Ground.phase }, { on := 4, ground := Ground.textOnly Departure.lateStores }, { on := 5, ground := Ground.textOnly Departure.lateStores }, { on := 6, ground := Ground.textOnly Departure.lateStores }, { on := 7, ground := Ground.textOnly Departure.lateStores }, { on := 8, ground := Ground.textOnly Departure.lateStores }, { on := 9, ground := Ground.textOnly Departure.lateStores }, { on := 10, ground := Ground.phase }, { on := 11, ground := Ground.phase }], guard := none }
def c30_14 (p : String) : Oper := { dst := some 249, op := Op.fieldAddr 24 (Operand.tmp 3) 12, type := 0, pos := p, after := #[{ on := 0, ground := Ground.phase }, { on := 1, ground := Ground.phase }, { on := 2, ground := Ground.phase }, { on := 3, ground := Ground.phase }, { on := 4, ground := Ground.phase }, { on := 5, ground := Ground.phase }, { on := 6, ground := Ground.textOnly Departure.lateStores }, { on := 7, ground := Ground.textOnly Departure.lateStores }, { on := 8, ground := Ground.textOnly Departure.lateStores }, { on := 9, ground := Ground.textOnly Departure.lateStores }, { on := 10, ground := Ground.phase }, { on := 11, ground := Ground.phase }, { on := 12, ground := Ground.phase }, { on := 13, ground := Ground.phase }], guard := none }
def c30_15 (p : String) : Oper := { dst := none, op := Op.store 3 (Operand.tmp 249) (Operand.tmp 242), type := 0, pos := p, after := #[{ on := 14, ground := Ground.data }, { on := 5, ground := Ground.data }, { on := 13, ground := Ground.chain }, { on := 0, ground := Ground.phase }, { on := 1, ground := Ground.phase }, { on := 2, ground := Ground.phase }, { on := 3, ground := Ground.phase }, { on := 4, ground := Ground.phase }, { on := 5, ground := Ground.phase }, { on := 6, ground := Ground.textOnly Departure.lateStores }, { on := 7, ground := Ground.textOnly Departure.lateStores }, { on := 8, ground := Ground.textOnly Departure.lateStores }, { on := 9, ground := Ground.textOnly Departure.lateStores }, { on := 10, ground := Ground.phase }, { on := 11, ground := Ground.phase }, { on := 12, ground := Ground.phase }, { on := 13, ground := Ground.phase }], guard := none }
def c30_16 (p : String) : Oper := { dst := some 250, op := Op.fieldAddr 24 (Operand.tmp 3) 9, type := 0, pos := p, after := #[{ on := 0, ground := Ground.phase }, { on := 1, ground := Ground.phase }, { on := 2, ground := Ground.phase }, { on := 3, ground := Ground.phase }, { on := 4, ground := Ground.phase }, { on := 5, ground := Ground.phase }, { on := 6, ground := Ground.phase }, { on := 7, ground := Ground.phase }, { on := 8, ground := Ground.textOnly Departure.lateStores }, { on := 9, ground := Ground.textOnly Departure.lateStores }, { on := 10, ground := Ground.phase }, { on := 11, ground := Ground.phase }, { on := 12, ground := Ground.phase }, { on := 13, ground := Ground.phase }, { on := 14, ground := Ground.phase }, { on := 15, ground := Ground.phase }], guard := none }
def c30_17 (p : String) : Oper := { dst := none, op := Op.store 3 (Operand.tmp 250) (Operand.tmp 244), type := 0, pos := p, after := #[{ on := 16, ground := Ground.data }, { on := 7, ground := Ground.data }, { on := 15, ground := Ground.chain }, { on := 0, ground := Ground.phase }, { on := 1, ground := Ground.phase }, { on := 2, ground := Ground.phase }, { on := 3, ground := Ground.phase }, { on := 4, ground := Ground.phase }, { on := 5, ground := Ground.phase }, { on := 6, ground := Ground.phase }, { on := 7, ground := Ground.phase }, { on := 8, ground := Ground.textOnly Departure.lateStores }, { on := 9, ground := Ground.textOnly Departure.lateStores }, { on := 10, ground := Ground.phase }, { on := 11, ground := Ground.phase }, { on := 12, ground := Ground.phase }, { on := 13, ground := Ground.phase }, { on := 14, ground := Ground.phase }, { on := 15, ground := Ground.phase }], guard := none }
def c30_18 (p : String) : Oper := { dst := some 251, op := Op.fieldAddr 24 (Operand.tmp 3) 13, type := 0, pos := p, after := #[{ on := 0, ground := Ground.phase }, { on := 1, ground := Ground.phase }, { on := 2, ground := Ground.phase }, { on := 3, ground := Ground.phase }, { on := 4, ground := Ground.phase }, { on := 5, ground := Ground.phase }, { on := 6, ground := Ground.phase }, { on := 7, ground := Ground.phase }, { on := 8, ground := Ground.phase }, { on := 9, ground := Ground.phase }, { on := 10, ground := Ground.phase }, { on := 11, ground := Ground.phase }, { on := 12, ground := Ground.phase }, { on := 13, ground := Ground.phase }, { on := 14, ground := Ground.phase }, { on := 15, ground := Ground.phase }, { on := 16, ground := Ground.phase }, { on := 17, ground := Ground.phase }], guard := none }
def c30_19 (p : String) : Oper := { dst := none, op := Op.store 3 (Operand.tmp 251) (Operand.tmp 246), type := 0, pos := p, after := #[{ on := 18, ground := Ground.data }, { on := 9, ground := Ground.data }, { on := 17, ground := Ground.chain }, { on := 0, ground := Ground.phase }, { on := 1, ground := Ground.phase }, { on := 2, ground := Ground.phase }, { on := 3, ground := Ground.phase }, { on := 4, ground := Ground.phase }, { on := 5, ground := Ground.phase }, { on := 6, ground := Ground.phase }, { on := 7, ground := Ground.phase }, { on := 8, ground := Ground.phase }, { on := 9, ground := Ground.phase }, { on := 10, ground := Ground.phase }, { on := 11, ground := Ground.phase }, { on := 12, ground := Ground.phase }, { on := 13, ground := Ground.phase }, { on := 14, ground := Ground.phase }, { on := 15, ground := Ground.phase }, { on := 16, ground := Ground.phase }, { on := 17, ground := Ground.phase }], guard := none }
def c30 (p : String) : Array Oper := #[c30_0 p, c30_1 p, c30_2 p, c30_3 p, c30_4 p, c30_5 p, c30_6 p, c30_7 p, c30_8 p, c30_9 p, c30_10 p, c30_11 p, c30_12 p, c30_13 p, c30_14 p, c30_15 p, c30_16 p, c30_17 p, c30_18 p, c30_19 p]
set_option maxRecDepth 100000 in
set_option maxHeartbeats 2000000 in
theorem copy_30 {Q : Exit → Act → World → Prop} (id : Nat) (p : String) (a : Act) (w : World) (g1 g3 : Nat) (cs ds : Array Value) (n0 : Int) (n1 : Int) (n2 : Int) (n3 : Int) (n4 : Int) (hsz : a.tmps.size = 347) (e1 : a.eval (.tmp 1) = .pointer (some ⟨g1, 0, none⟩)) (e3 : a.eval (.tmp 3) = .pointer (some ⟨g3, 0, none⟩))
    (hg1 : w.heap[g1]? = some (.cells cs 24)) (hg3 : w.heap[g3]? = some (.cells ds 24)) (hlt : g1 < g3) (hd : ds.size = 16) (y0 : cs[10]? = some (.int .i64 n0)) (y1 : cs[11]? = some (.int .i64 n1)) (y2 : cs[12]? = some (.int .i64 n2)) (y3 : cs[9]? = some (.int .i64 n3)) (y4 : cs[13]? = some (.int .i64 n4))
    (h : ∀ w', Below g3 w w' → w'.heap[g3]? = some (.cells (((((ds.setIfInBounds 10 (.int .i64 n0)).setIfInBounds 11 (.int .i64 n1)).setIfInBounds 12 (.int .i64 n2)).setIfInBounds 9 (.int .i64 n3)).setIfInBounds 13 (.int .i64 n4)) 24) → Q .normal (((((((((((((((a.put (some 237) (.pointer (some ⟨g1, 10, none⟩))).put (some 238) (.int .i64 n0)).put (some 239) (.pointer (some ⟨g1, 11, none⟩))).put (some 240) (.int .i64 n1)).put (some 241) (.pointer (some ⟨g1, 12, none⟩))).put (some 242) (.int .i64 n2)).put (some 243) (.pointer (some ⟨g1, 9, none⟩))).put (some 244) (.int .i64 n3)).put (some 245) (.pointer (some ⟨g1, 13, none⟩))).put (some 246) (.int .i64 n4)).put (some 247) (.pointer (some ⟨g3, 10, none⟩))).put (some 248) (.pointer (some ⟨g3, 11, none⟩))).put (some 249) (.pointer (some ⟨g3, 12, none⟩))).put (some 250) (.pointer (some ⟨g3, 9, none⟩))).put (some 251) (.pointer (some ⟨g3, 13, none⟩))) w') :
    (Code.region id (c30 p) true).wp Try.prog Q a w := by
  refine wp_region_noPanic ?_
  have hQ : ∀ c a d v w, NoPanic Q (.panic c) (a.put d v) w → NoPanic Q (.panic c) a w := fun _ _ _ _ _ h => h
  have hx0 : w.drew.heap[g3]? = some (.cells ds 24) := by rw [heap_drew]; exact hg3
  have b0 : Below g3 w w.drew := (Below.refl _ w).drew
  refine wp_region_held (S := fun w' => Below g3 w w') (by kernel_rfl) ?_
  refine wpAnyH_take (i := 0) (v := .pointer (some ⟨g1, 10, none⟩)) rfl (by kernel_rfl) (by kernel_rfl) (by kernel_rfl) (fun c a w => hQ c a _ _ w) (.inl ⟨by kernel_rfl, fun w' hS => run_field 10 (by omega) w' _ _ rfl _ g1 (by simp [e1])⟩) b0 ?_
  refine reAct (a' := (a.put (some 237) (.pointer (some ⟨g1, 10, none⟩)))) (l' := #[true, false, false, false, false, false, false, false, false, false, false, false, false, false, false, false, false, false, false, false]) (by kernel_rfl) (by kernel_rfl) ?_
  refine wpAnyH_take (i := 1) (v := (.int .i64 n0)) rfl (by kernel_rfl) (by kernel_rfl) (by kernel_rfl) (fun c a w => hQ c a _ _ w) (.inl ⟨by kernel_rfl, fun w' hS => run_load3 w' _ _ rfl _ ⟨g1, 10, none⟩ (by simp [ev_eq, hsz]) _ (mv_cell ((hS.block g1 hlt).trans hg1) 10 _ y0)⟩) b0 ?_
  refine reAct (a' := ((a.put (some 237) (.pointer (some ⟨g1, 10, none⟩))).put (some 238) (.int .i64 n0))) (l' := #[true, true, false, false, false, false, false, false, false, false, false, false, false, false, false, false, false, false, false, false]) (by kernel_rfl) (by kernel_rfl) ?_
  refine wpAnyH_take (i := 2) (v := .pointer (some ⟨g1, 11, none⟩)) rfl (by kernel_rfl) (by kernel_rfl) (by kernel_rfl) (fun c a w => hQ c a _ _ w) (.inl ⟨by kernel_rfl, fun w' hS => run_field 11 (by omega) w' _ _ rfl _ g1 (by simp [ev_ne, e1])⟩) b0 ?_
  refine reAct (a' := (((a.put (some 237) (.pointer (some ⟨g1, 10, none⟩))).put (some 238) (.int .i64 n0)).put (some 239) (.pointer (some ⟨g1, 11, none⟩)))) (l' := #[true, true, true, false, false, false, false, false, false, false, false, false, false, false, false, false, false, false, false, false]) (by kernel_rfl) (by kernel_rfl) ?_
  refine wpAnyH_take (i := 3) (v := (.int .i64 n1)) rfl (by kernel_rfl) (by kernel_rfl) (by kernel_rfl) (fun c a w => hQ c a _ _ w) (.inl ⟨by kernel_rfl, fun w' hS => run_load3 w' _ _ rfl _ ⟨g1, 11, none⟩ (by simp [ev_eq, sz_put, hsz]) _ (mv_cell ((hS.block g1 hlt).trans hg1) 11 _ y1)⟩) b0 ?_
  refine reAct (a' := ((((a.put (some 237) (.pointer (some ⟨g1, 10, none⟩))).put (some 238) (.int .i64 n0)).put (some 239) (.pointer (some ⟨g1, 11, none⟩))).put (some 240) (.int .i64 n1))) (l' := #[true, true, true, true, false, false, false, false, false, false, false, false, false, false, false, false, false, false, false, false]) (by kernel_rfl) (by kernel_rfl) ?_
  refine wpAnyH_take (i := 4) (v := .pointer (some ⟨g1, 12, none⟩)) rfl (by kernel_rfl) (by kernel_rfl) (by kernel_rfl) (fun c a w => hQ c a _ _ w) (.inl ⟨by kernel_rfl, fun w' hS => run_field 12 (by omega) w' _ _ rfl _ g1 (by simp [ev_ne, e1])⟩) b0 ?_
  refine reAct (a' := (((((a.put (some 237) (.pointer (some ⟨g1, 10, none⟩))).put (some 238) (.int .i64 n0)).put (some 239) (.pointer (some ⟨g1, 11, none⟩))).put (some 240) (.int .i64 n1)).put (some 241) (.pointer (some ⟨g1, 12, none⟩)))) (l' := #[true, true, true, true, true, false, false, false, false, false, false, false, false, false, false, false, false, false, false, false]) (by kernel_rfl) (by kernel_rfl) ?_
  refine wpAnyH_take (i := 5) (v := (.int .i64 n2)) rfl (by kernel_rfl) (by kernel_rfl) (by kernel_rfl) (fun c a w => hQ c a _ _ w) (.inl ⟨by kernel_rfl, fun w' hS => run_load3 w' _ _ rfl _ ⟨g1, 12, none⟩ (by simp [ev_eq, sz_put, hsz]) _ (mv_cell ((hS.block g1 hlt).trans hg1) 12 _ y2)⟩) b0 ?_
  refine reAct (a' := ((((((a.put (some 237) (.pointer (some ⟨g1, 10, none⟩))).put (some 238) (.int .i64 n0)).put (some 239) (.pointer (some ⟨g1, 11, none⟩))).put (some 240) (.int .i64 n1)).put (some 241) (.pointer (some ⟨g1, 12, none⟩))).put (some 242) (.int .i64 n2))) (l' := #[true, true, true, true, true, true, false, false, false, false, false, false, false, false, false, false, false, false, false, false]) (by kernel_rfl) (by kernel_rfl) ?_
  refine wpAnyH_take (i := 6) (v := .pointer (some ⟨g1, 9, none⟩)) rfl (by kernel_rfl) (by kernel_rfl) (by kernel_rfl) (fun c a w => hQ c a _ _ w) (.inl ⟨by kernel_rfl, fun w' hS => run_field 9 (by omega) w' _ _ rfl _ g1 (by simp [ev_ne, e1])⟩) b0 ?_
  refine reAct (a' := (((((((a.put (some 237) (.pointer (some ⟨g1, 10, none⟩))).put (some 238) (.int .i64 n0)).put (some 239) (.pointer (some ⟨g1, 11, none⟩))).put (some 240) (.int .i64 n1)).put (some 241) (.pointer (some ⟨g1, 12, none⟩))).put (some 242) (.int .i64 n2)).put (some 243) (.pointer (some ⟨g1, 9, none⟩)))) (l' := #[true, true, true, true, true, true, true, false, false, false, false, false, false, false, false, false, false, false, false, false]) (by kernel_rfl) (by kernel_rfl) ?_
  refine wpAnyH_take (i := 7) (v := (.int .i64 n3)) rfl (by kernel_rfl) (by kernel_rfl) (by kernel_rfl) (fun c a w => hQ c a _ _ w) (.inl ⟨by kernel_rfl, fun w' hS => run_load3 w' _ _ rfl _ ⟨g1, 9, none⟩ (by simp [ev_eq, sz_put, hsz]) _ (mv_cell ((hS.block g1 hlt).trans hg1) 9 _ y3)⟩) b0 ?_
  refine reAct (a' := ((((((((a.put (some 237) (.pointer (some ⟨g1, 10, none⟩))).put (some 238) (.int .i64 n0)).put (some 239) (.pointer (some ⟨g1, 11, none⟩))).put (some 240) (.int .i64 n1)).put (some 241) (.pointer (some ⟨g1, 12, none⟩))).put (some 242) (.int .i64 n2)).put (some 243) (.pointer (some ⟨g1, 9, none⟩))).put (some 244) (.int .i64 n3))) (l' := #[true, true, true, true, true, true, true, true, false, false, false, false, false, false, false, false, false, false, false, false]) (by kernel_rfl) (by kernel_rfl) ?_
  refine wpAnyH_take (i := 8) (v := .pointer (some ⟨g1, 13, none⟩)) rfl (by kernel_rfl) (by kernel_rfl) (by kernel_rfl) (fun c a w => hQ c a _ _ w) (.inl ⟨by kernel_rfl, fun w' hS => run_field 13 (by omega) w' _ _ rfl _ g1 (by simp [ev_ne, e1])⟩) b0 ?_
  refine reAct (a' := (((((((((a.put (some 237) (.pointer (some ⟨g1, 10, none⟩))).put (some 238) (.int .i64 n0)).put (some 239) (.pointer (some ⟨g1, 11, none⟩))).put (some 240) (.int .i64 n1)).put (some 241) (.pointer (some ⟨g1, 12, none⟩))).put (some 242) (.int .i64 n2)).put (some 243) (.pointer (some ⟨g1, 9, none⟩))).put (some 244) (.int .i64 n3)).put (some 245) (.pointer (some ⟨g1, 13, none⟩)))) (l' := #[true, true, true, true, true, true, true, true, true, false, false, false, false, false, false, false, false, false, false, false]) (by kernel_rfl) (by kernel_rfl) ?_
  refine wpAnyH_take (i := 9) (v := (.int .i64 n4)) rfl (by kernel_rfl) (by kernel_rfl) (by kernel_rfl) (fun c a w => hQ c a _ _ w) (.inl ⟨by kernel_rfl, fun w' hS => run_load3 w' _ _ rfl _ ⟨g1, 13, none⟩ (by simp [ev_eq, sz_put, hsz]) _ (mv_cell ((hS.block g1 hlt).trans hg1) 13 _ y4)⟩) b0 ?_
  refine reAct (a' := ((((((((((a.put (some 237) (.pointer (some ⟨g1, 10, none⟩))).put (some 238) (.int .i64 n0)).put (some 239) (.pointer (some ⟨g1, 11, none⟩))).put (some 240) (.int .i64 n1)).put (some 241) (.pointer (some ⟨g1, 12, none⟩))).put (some 242) (.int .i64 n2)).put (some 243) (.pointer (some ⟨g1, 9, none⟩))).put (some 244) (.int .i64 n3)).put (some 245) (.pointer (some ⟨g1, 13, none⟩))).put (some 246) (.int .i64 n4))) (l' := #[true, true, true, true, true, true, true, true, true, true, false, false, false, false, false, false, false, false, false, false]) (by kernel_rfl) (by kernel_rfl) ?_
  refine wpAnyH_take (i := 10) (v := .pointer (some ⟨g3, 10, none⟩)) rfl (by kernel_rfl) (by kernel_rfl) (by kernel_rfl) (fun c a w => hQ c a _ _ w) (.inl ⟨by kernel_rfl, fun w' hS => run_field 10 (by omega) w' _ _ rfl _ g3 (by simp [ev_ne, e3])⟩) b0 ?_
  refine reAct (a' := (((((((((((a.put (some 237) (.pointer (some ⟨g1, 10, none⟩))).put (some 238) (.int .i64 n0)).put (some 239) (.pointer (some ⟨g1, 11, none⟩))).put (some 240) (.int .i64 n1)).put (some 241) (.pointer (some ⟨g1, 12, none⟩))).put (some 242) (.int .i64 n2)).put (some 243) (.pointer (some ⟨g1, 9, none⟩))).put (some 244) (.int .i64 n3)).put (some 245) (.pointer (some ⟨g1, 13, none⟩))).put (some 246) (.int .i64 n4)).put (some 247) (.pointer (some ⟨g3, 10, none⟩)))) (l' := #[true, true, true, true, true, true, true, true, true, true, true, false, false, false, false, false, false, false, false, false]) (by kernel_rfl) (by kernel_rfl) ?_
  refine wpAnyH_all (rs := [11]) (by kernel_rfl) (by simp) ?_
  intro i hi
  obtain rfl : i = 11 := by simpa using hi
  have hx1 := heap_setCell_same w.drew g3 10 _ _ (.int .i64 n0) hx0
  have b1 : Below g3 w (w.drew.setCell ⟨g3, 10, none⟩ (.int .i64 n0)) := b0.setCell (Nat.le_refl _) _
  obtain ⟨u0, hu0⟩ : ∃ u, (ds)[10]? = some u := by simp [hd]
  refine wpOp_skip2 (o := c30_11 p) rfl (by kernel_rfl) (run_store3 _ _ _ _ rfl _ ⟨g3, 10, none⟩ (by simp [ev_eq, sz_put, hsz]) _ (by simp [ev_ne, ev_eq, sz_put, hsz]) u0 (mv_cell hx0 10 _ hu0) (frozen_of_row _ g3 10 _ _ hx0)) ⟨b1, ?_⟩
  refine reAct (a' := (((((((((((a.put (some 237) (.pointer (some ⟨g1, 10, none⟩))).put (some 238) (.int .i64 n0)).put (some 239) (.pointer (some ⟨g1, 11, none⟩))).put (some 240) (.int .i64 n1)).put (some 241) (.pointer (some ⟨g1, 12, none⟩))).put (some 242) (.int .i64 n2)).put (some 243) (.pointer (some ⟨g1, 9, none⟩))).put (some 244) (.int .i64 n3)).put (some 245) (.pointer (some ⟨g1, 13, none⟩))).put (some 246) (.int .i64 n4)).put (some 247) (.pointer (some ⟨g3, 10, none⟩)))) (l' := #[true, true, true, true, true, true, true, true, true, true, true, true, false, false, false, false, false, false, false, false]) (by kernel_rfl) (by kernel_rfl) ?_
  refine wpAnyH_take (i := 12) (v := .pointer (some ⟨g3, 11, none⟩)) rfl (by kernel_rfl) (by kernel_rfl) (by kernel_rfl) (fun c a w => hQ c a _ _ w) (.inl ⟨by kernel_rfl, fun w' hS => run_field 11 (by omega) w' _ _ rfl _ g3 (by simp [ev_ne, e3])⟩) b1 ?_
  refine reAct (a' := ((((((((((((a.put (some 237) (.pointer (some ⟨g1, 10, none⟩))).put (some 238) (.int .i64 n0)).put (some 239) (.pointer (some ⟨g1, 11, none⟩))).put (some 240) (.int .i64 n1)).put (some 241) (.pointer (some ⟨g1, 12, none⟩))).put (some 242) (.int .i64 n2)).put (some 243) (.pointer (some ⟨g1, 9, none⟩))).put (some 244) (.int .i64 n3)).put (some 245) (.pointer (some ⟨g1, 13, none⟩))).put (some 246) (.int .i64 n4)).put (some 247) (.pointer (some ⟨g3, 10, none⟩))).put (some 248) (.pointer (some ⟨g3, 11, none⟩)))) (l' := #[true, true, true, true, true, true, true, true, true, true, true, true, true, false, false, false, false, false, false, false]) (by kernel_rfl) (by kernel_rfl) ?_
  refine wpAnyH_all (rs := [13]) (by kernel_rfl) (by simp) ?_
  intro i hi
  obtain rfl : i = 13 := by simpa using hi
  have hx2 := heap_setCell_same (w.drew.setCell ⟨g3, 10, none⟩ (.int .i64 n0)) g3 11 _ _ (.int .i64 n1) hx1
  have b2 : Below g3 w ((w.drew.setCell ⟨g3, 10, none⟩ (.int .i64 n0)).setCell ⟨g3, 11, none⟩ (.int .i64 n1)) := b1.setCell (Nat.le_refl _) _
  obtain ⟨u1, hu1⟩ : ∃ u, (ds.setIfInBounds 10 (.int .i64 n0))[11]? = some u := by simp [hd]
  refine wpOp_skip2 (o := c30_13 p) rfl (by kernel_rfl) (run_store3 _ _ _ _ rfl _ ⟨g3, 11, none⟩ (by simp [ev_eq, sz_put, hsz]) _ (by simp [ev_ne, ev_eq, sz_put, hsz]) u1 (mv_cell hx1 11 _ hu1) (frozen_of_row _ g3 11 _ _ hx1)) ⟨b2, ?_⟩
  refine reAct (a' := ((((((((((((a.put (some 237) (.pointer (some ⟨g1, 10, none⟩))).put (some 238) (.int .i64 n0)).put (some 239) (.pointer (some ⟨g1, 11, none⟩))).put (some 240) (.int .i64 n1)).put (some 241) (.pointer (some ⟨g1, 12, none⟩))).put (some 242) (.int .i64 n2)).put (some 243) (.pointer (some ⟨g1, 9, none⟩))).put (some 244) (.int .i64 n3)).put (some 245) (.pointer (some ⟨g1, 13, none⟩))).put (some 246) (.int .i64 n4)).put (some 247) (.pointer (some ⟨g3, 10, none⟩))).put (some 248) (.pointer (some ⟨g3, 11, none⟩)))) (l' := #[true, true, true, true, true, true, true, true, true, true, true, true, true, true, false, false, false, false, false, false]) (by kernel_rfl) (by kernel_rfl) ?_
  refine wpAnyH_take (i := 14) (v := .pointer (some ⟨g3, 12, none⟩)) rfl (by kernel_rfl) (by kernel_rfl) (by kernel_rfl) (fun c a w => hQ c a _ _ w) (.inl ⟨by kernel_rfl, fun w' hS => run_field 12 (by omega) w' _ _ rfl _ g3 (by simp [ev_ne, e3])⟩) b2 ?_
  refine reAct (a' := (((((((((((((a.put (some 237) (.pointer (some ⟨g1, 10, none⟩))).put (some 238) (.int .i64 n0)).put (some 239) (.pointer (some ⟨g1, 11, none⟩))).put (some 240) (.int .i64 n1)).put (some 241) (.pointer (some ⟨g1, 12, none⟩))).put (some 242) (.int .i64 n2)).put (some 243) (.pointer (some ⟨g1, 9, none⟩))).put (some 244) (.int .i64 n3)).put (some 245) (.pointer (some ⟨g1, 13, none⟩))).put (some 246) (.int .i64 n4)).put (some 247) (.pointer (some ⟨g3, 10, none⟩))).put (some 248) (.pointer (some ⟨g3, 11, none⟩))).put (some 249) (.pointer (some ⟨g3, 12, none⟩)))) (l' := #[true, true, true, true, true, true, true, true, true, true, true, true, true, true, true, false, false, false, false, false]) (by kernel_rfl) (by kernel_rfl) ?_
  refine wpAnyH_all (rs := [15]) (by kernel_rfl) (by simp) ?_
  intro i hi
  obtain rfl : i = 15 := by simpa using hi
  have hx3 := heap_setCell_same ((w.drew.setCell ⟨g3, 10, none⟩ (.int .i64 n0)).setCell ⟨g3, 11, none⟩ (.int .i64 n1)) g3 12 _ _ (.int .i64 n2) hx2
  have b3 : Below g3 w (((w.drew.setCell ⟨g3, 10, none⟩ (.int .i64 n0)).setCell ⟨g3, 11, none⟩ (.int .i64 n1)).setCell ⟨g3, 12, none⟩ (.int .i64 n2)) := b2.setCell (Nat.le_refl _) _
  obtain ⟨u2, hu2⟩ : ∃ u, ((ds.setIfInBounds 10 (.int .i64 n0)).setIfInBounds 11 (.int .i64 n1))[12]? = some u := by simp [hd]
  refine wpOp_skip2 (o := c30_15 p) rfl (by kernel_rfl) (run_store3 _ _ _ _ rfl _ ⟨g3, 12, none⟩ (by simp [ev_eq, sz_put, hsz]) _ (by simp [ev_ne, ev_eq, sz_put, hsz]) u2 (mv_cell hx2 12 _ hu2) (frozen_of_row _ g3 12 _ _ hx2)) ⟨b3, ?_⟩
  refine reAct (a' := (((((((((((((a.put (some 237) (.pointer (some ⟨g1, 10, none⟩))).put (some 238) (.int .i64 n0)).put (some 239) (.pointer (some ⟨g1, 11, none⟩))).put (some 240) (.int .i64 n1)).put (some 241) (.pointer (some ⟨g1, 12, none⟩))).put (some 242) (.int .i64 n2)).put (some 243) (.pointer (some ⟨g1, 9, none⟩))).put (some 244) (.int .i64 n3)).put (some 245) (.pointer (some ⟨g1, 13, none⟩))).put (some 246) (.int .i64 n4)).put (some 247) (.pointer (some ⟨g3, 10, none⟩))).put (some 248) (.pointer (some ⟨g3, 11, none⟩))).put (some 249) (.pointer (some ⟨g3, 12, none⟩)))) (l' := #[true, true, true, true, true, true, true, true, true, true, true, true, true, true, true, true, false, false, false, false]) (by kernel_rfl) (by kernel_rfl) ?_
  refine wpAnyH_take (i := 16) (v := .pointer (some ⟨g3, 9, none⟩)) rfl (by kernel_rfl) (by kernel_rfl) (by kernel_rfl) (fun c a w => hQ c a _ _ w) (.inl ⟨by kernel_rfl, fun w' hS => run_field 9 (by omega) w' _ _ rfl _ g3 (by simp [ev_ne, e3])⟩) b3 ?_
  refine reAct (a' := ((((((((((((((a.put (some 237) (.pointer (some ⟨g1, 10, none⟩))).put (some 238) (.int .i64 n0)).put (some 239) (.pointer (some ⟨g1, 11, none⟩))).put (some 240) (.int .i64 n1)).put (some 241) (.pointer (some ⟨g1, 12, none⟩))).put (some 242) (.int .i64 n2)).put (some 243) (.pointer (some ⟨g1, 9, none⟩))).put (some 244) (.int .i64 n3)).put (some 245) (.pointer (some ⟨g1, 13, none⟩))).put (some 246) (.int .i64 n4)).put (some 247) (.pointer (some ⟨g3, 10, none⟩))).put (some 248) (.pointer (some ⟨g3, 11, none⟩))).put (some 249) (.pointer (some ⟨g3, 12, none⟩))).put (some 250) (.pointer (some ⟨g3, 9, none⟩)))) (l' := #[true, true, true, true, true, true, true, true, true, true, true, true, true, true, true, true, true, false, false, false]) (by kernel_rfl) (by kernel_rfl) ?_
  refine wpAnyH_all (rs := [17]) (by kernel_rfl) (by simp) ?_
  intro i hi
  obtain rfl : i = 17 := by simpa using hi
  have hx4 := heap_setCell_same (((w.drew.setCell ⟨g3, 10, none⟩ (.int .i64 n0)).setCell ⟨g3, 11, none⟩ (.int .i64 n1)).setCell ⟨g3, 12, none⟩ (.int .i64 n2)) g3 9 _ _ (.int .i64 n3) hx3
  have b4 : Below g3 w ((((w.drew.setCell ⟨g3, 10, none⟩ (.int .i64 n0)).setCell ⟨g3, 11, none⟩ (.int .i64 n1)).setCell ⟨g3, 12, none⟩ (.int .i64 n2)).setCell ⟨g3, 9, none⟩ (.int .i64 n3)) := b3.setCell (Nat.le_refl _) _
  obtain ⟨u3, hu3⟩ : ∃ u, (((ds.setIfInBounds 10 (.int .i64 n0)).setIfInBounds 11 (.int .i64 n1)).setIfInBounds 12 (.int .i64 n2))[9]? = some u := by simp [hd]
  refine wpOp_skip2 (o := c30_17 p) rfl (by kernel_rfl) (run_store3 _ _ _ _ rfl _ ⟨g3, 9, none⟩ (by simp [ev_eq, sz_put, hsz]) _ (by simp [ev_ne, ev_eq, sz_put, hsz]) u3 (mv_cell hx3 9 _ hu3) (frozen_of_row _ g3 9 _ _ hx3)) ⟨b4, ?_⟩
  refine reAct (a' := ((((((((((((((a.put (some 237) (.pointer (some ⟨g1, 10, none⟩))).put (some 238) (.int .i64 n0)).put (some 239) (.pointer (some ⟨g1, 11, none⟩))).put (some 240) (.int .i64 n1)).put (some 241) (.pointer (some ⟨g1, 12, none⟩))).put (some 242) (.int .i64 n2)).put (some 243) (.pointer (some ⟨g1, 9, none⟩))).put (some 244) (.int .i64 n3)).put (some 245) (.pointer (some ⟨g1, 13, none⟩))).put (some 246) (.int .i64 n4)).put (some 247) (.pointer (some ⟨g3, 10, none⟩))).put (some 248) (.pointer (some ⟨g3, 11, none⟩))).put (some 249) (.pointer (some ⟨g3, 12, none⟩))).put (some 250) (.pointer (some ⟨g3, 9, none⟩)))) (l' := #[true, true, true, true, true, true, true, true, true, true, true, true, true, true, true, true, true, true, false, false]) (by kernel_rfl) (by kernel_rfl) ?_
  refine wpAnyH_take (i := 18) (v := .pointer (some ⟨g3, 13, none⟩)) rfl (by kernel_rfl) (by kernel_rfl) (by kernel_rfl) (fun c a w => hQ c a _ _ w) (.inl ⟨by kernel_rfl, fun w' hS => run_field 13 (by omega) w' _ _ rfl _ g3 (by simp [ev_ne, e3])⟩) b4 ?_
  refine reAct (a' := (((((((((((((((a.put (some 237) (.pointer (some ⟨g1, 10, none⟩))).put (some 238) (.int .i64 n0)).put (some 239) (.pointer (some ⟨g1, 11, none⟩))).put (some 240) (.int .i64 n1)).put (some 241) (.pointer (some ⟨g1, 12, none⟩))).put (some 242) (.int .i64 n2)).put (some 243) (.pointer (some ⟨g1, 9, none⟩))).put (some 244) (.int .i64 n3)).put (some 245) (.pointer (some ⟨g1, 13, none⟩))).put (some 246) (.int .i64 n4)).put (some 247) (.pointer (some ⟨g3, 10, none⟩))).put (some 248) (.pointer (some ⟨g3, 11, none⟩))).put (some 249) (.pointer (some ⟨g3, 12, none⟩))).put (some 250) (.pointer (some ⟨g3, 9, none⟩))).put (some 251) (.pointer (some ⟨g3, 13, none⟩)))) (l' := #[true, true, true, true, true, true, true, true, true, true, true, true, true, true, true, true, true, true, true, false]) (by kernel_rfl) (by kernel_rfl) ?_
  refine wpAnyH_all (rs := [19]) (by kernel_rfl) (by simp) ?_
  intro i hi
  obtain rfl : i = 19 := by simpa using hi
  have hx5 := heap_setCell_same ((((w.drew.setCell ⟨g3, 10, none⟩ (.int .i64 n0)).setCell ⟨g3, 11, none⟩ (.int .i64 n1)).setCell ⟨g3, 12, none⟩ (.int .i64 n2)).setCell ⟨g3, 9, none⟩ (.int .i64 n3)) g3 13 _ _ (.int .i64 n4) hx4
  have b5 : Below g3 w (((((w.drew.setCell ⟨g3, 10, none⟩ (.int .i64 n0)).setCell ⟨g3, 11, none⟩ (.int .i64 n1)).setCell ⟨g3, 12, none⟩ (.int .i64 n2)).setCell ⟨g3, 9, none⟩ (.int .i64 n3)).setCell ⟨g3, 13, none⟩ (.int .i64 n4)) := b4.setCell (Nat.le_refl _) _
  obtain ⟨u4, hu4⟩ : ∃ u, ((((ds.setIfInBounds 10 (.int .i64 n0)).setIfInBounds 11 (.int .i64 n1)).setIfInBounds 12 (.int .i64 n2)).setIfInBounds 9 (.int .i64 n3))[13]? = some u := by simp [hd]
  refine wpOp_skip2 (o := c30_19 p) rfl (by kernel_rfl) (run_store3 _ _ _ _ rfl _ ⟨g3, 13, none⟩ (by simp [ev_eq, sz_put, hsz]) _ (by simp [ev_ne, ev_eq, sz_put, hsz]) u4 (mv_cell hx4 13 _ hu4) (frozen_of_row _ g3 13 _ _ hx4)) ⟨b5, ?_⟩
  refine reAct (a' := (((((((((((((((a.put (some 237) (.pointer (some ⟨g1, 10, none⟩))).put (some 238) (.int .i64 n0)).put (some 239) (.pointer (some ⟨g1, 11, none⟩))).put (some 240) (.int .i64 n1)).put (some 241) (.pointer (some ⟨g1, 12, none⟩))).put (some 242) (.int .i64 n2)).put (some 243) (.pointer (some ⟨g1, 9, none⟩))).put (some 244) (.int .i64 n3)).put (some 245) (.pointer (some ⟨g1, 13, none⟩))).put (some 246) (.int .i64 n4)).put (some 247) (.pointer (some ⟨g3, 10, none⟩))).put (some 248) (.pointer (some ⟨g3, 11, none⟩))).put (some 249) (.pointer (some ⟨g3, 12, none⟩))).put (some 250) (.pointer (some ⟨g3, 9, none⟩))).put (some 251) (.pointer (some ⟨g3, 13, none⟩)))) (l' := #[true, true, true, true, true, true, true, true, true, true, true, true, true, true, true, true, true, true, true, true]) (by kernel_rfl) (by kernel_rfl) ?_
  exact wpAnyH_done (by kernel_rfl) (NoPanic.normal (h _ b5 hx5)) _
end Go.Proofs.Ytmcmiojidgdjpaa
namespace Go.Proofs.Ytmcmiojidgdjpaa
open Go.RowKit

def c33_0 (p : String) : Oper := { dst := some 296, op := Op.fieldAddr 24 (Operand.tmp 1) 10, type := 0, pos := p, after := #[], guard := none }
def c33_1 (p : String) : Oper := { dst := some 297, op := Op.load 3 (Operand.tmp 296), type := 3, pos := p, after := #[{ on := 0, ground := Ground.data }], guard := none }
def c33_2 (p : String) : Oper := { dst := some 298, op := Op.fieldAddr 24 (Operand.tmp 1) 11, type := 0, pos := p, after := #[{ on := 15, ground := Ground.gcOnly Departure.lateStores }], guard := none }
def c33_3 (p : String) : Oper := { dst := some 299, op := Op.load 3 (Operand.tmp 298), type := 3, pos := p, after := #[{ on := 2, ground := Ground.data }, { on := 15, ground := Ground.gcOnly Departure.lateStores }], guard := none }
def c33_4 (p : String) : Oper := { dst := some 300, op := Op.fieldAddr 24 (Operand.tmp 1) 12, type := 0, pos := p, after := #[{ on := 17, ground := Ground.gcOnly Departure.lateStores }], guard := none }
def c33_5 (p : String) : Oper := { dst := some 301, op := Op.load 3 (Operand.tmp 300), type := 3, pos := p, after := #[{ on := 4, ground := Ground.data }, { on := 17, ground := Ground.gcOnly Departure.lateStores }], guard := none }
def c33_6 (p : String) : Oper := { dst := some 302, op := Op.fieldAddr 24 (Operand.tmp 1) 9, type := 0, pos := p, after := #[{ on := 19, ground := Ground.gcOnly Departure.lateStores }], guard := none }
def c33_7 (p : String) : Oper := { dst := some 303, op := Op.load 3 (Operand.tmp 302), type := 3, pos := p, after := #[{ on := 6, ground := Ground.data }, { on := 19, ground := Ground.gcOnly Departure.lateStores }], guard := none }
def c33_8 (p : String) : Oper := { dst := some 304, op := Op.fieldAddr 24 (Operand.tmp 1) 13, type := 0, pos := p, after := #[{ on := 21, ground := Ground.gcOnly Departure.lateStores }], guard := none }
def c33_9 (p : String) : Oper := { dst := some 305, op := Op.load 3 (Operand.tmp 304), type := 3, pos := p, after := #[{ on := 8, ground := Ground.data }, { on := 21, ground := Ground.gcOnly Departure.lateStores }], guard := none }
def c33_10 (p : String) : Oper := { dst := some 306, op := Op.fieldAddr 24 (Operand.tmp 1) 14, type := 0, pos := p, after := #[{ on := 23, ground := Ground.gcOnly Departure.lateStores }], guard := none }
def c33_11 (p : String) : Oper := { dst := some 307, op := Op.load 22 (Operand.tmp 306), type := 22, pos := p, after := #[{ on := 10, ground := Ground.data }, { on := 23, ground := Ground.gcOnly Departure.lateStores }], guard := none }
def c33_12 (p : String) : Oper := { dst := some 308, op := Op.fieldAddr 24 (Operand.tmp 1) 15, type := 0, pos := p, after := #[{ on := 25, ground := Ground.gcOnly Departure.lateStores }], guard := none }
def c33_13 (p : String) : Oper := { dst := some 309, op := Op.load 22 (Operand.tmp 308), type := 22, pos := p, after := #[{ on := 12, ground := Ground.data }, { on := 25, ground := Ground.gcOnly Departure.lateStores }], guard := none }
def c33_14 (p : String) : Oper := { dst := some 310, op := Op.fieldAddr 24 (Operand.tmp 3) 10, type := 0, pos := p, after := #[{ on := 0, ground := Ground.phase }, { on := 1, ground := Ground.phase }, { on := 2, ground := Ground.textOnly Departure.lateStores }, { on := 3, ground := Ground.textOnly Departure.lateStores }, { on := 4, ground := Ground.textOnly Departure.lateStores }, { on := 5, ground := Ground.textOnly Departure.lateStores }, { on := 6, ground := Ground.textOnly Departure.lateStores }, { on := 7, ground := Ground.textOnly Departure.lateStores }, { on := 8, ground := Ground.textOnly Departure.lateStores }, { on := 9, ground := Ground.textOnly Departure.lateStores }, { on := 10, ground := Ground.textOnly Departure.lateStores }, { on := 11, ground := Ground.textOnly Departure.lateStores }, { on := 12, ground := Ground.textOnly Departure.lateStores }, { on := 13, ground := Ground.textOnly Departure.lateStores }], guard := none }
def c33_15 (p : String) : Oper := { dst := none, op := Op.store 3 (Operand.tmp 310) (Operand.tmp 297), type := 0, pos := p, after := #[{ on := 14, ground := Ground.data }, { on := 1, ground := Ground.data }, { on := 0, ground := Ground.phase }, { on := 1, ground := Ground.phase }, { on := 2, ground := Ground.textOnly Departure.lateStores }, { on := 3, ground := Ground.textOnly Departure.lateStores }, { on := 4, ground := Ground.textOnly Departure.lateStores }, { on := 5, ground := Ground.textOnly Departure.lateStores }, { on := 6, ground := Ground.textOnly Departure.lateStores }, { on := 7, ground := Ground.textOnly Departure.lateStores }, { on := 8, ground := Ground.textOnly Departure.lateStores }, { on := 9, ground := Ground.textOnly Departure.lateStores }, { on := 10, ground := Ground.textOnly Departure.lateStores }, { on := 11, ground := Ground.textOnly Departure.lateStores }, { on := 12, ground := Ground.textOnly Departure.lateStores }, { on := 13, ground := Ground.textOnly Departure.lateStores }], guard := none }
def c33_16 (p : String) : Oper := { dst := some 311, op := Op.fieldAddr 24 (Operand.tmp 3) 11, type := 0, pos := p, after := #[{ on := 0, ground := Ground.phase }, { on := 1, ground := Ground.phase }, { on := 2, ground := Ground.phase }, { on := 3, ground := Ground.phase }, { on := 4, ground := Ground.textOnly Departure.lateStores }, { on := 5, ground := Ground.textOnly Departure.lateStores }, { on := 6, ground := Ground.textOnly Departure.lateStores }, { on := 7, ground := Ground.textOnly Departure.lateStores }, { on := 8, ground := Ground.textOnly Departure.lateStores }, { on := 9, ground := Ground.textOnly Departure.lateStores }, { on := 10, ground := Ground.textOnly Departure.lateStores }, { on := 11, ground := Ground.textOnly Departure.lateStores }, { on := 12, ground := Ground.textOnly Departure.lateStores }, { on := 13, ground := Ground.textOnly Departure.lateStores }, { on := 14, ground := Ground.phase }, { on := 15, ground := Ground.phase }], guard := none }
def c33_17 (p : String) : Oper := { dst := none, op := Op.store 3 (Operand.tmp 311) (Operand.tmp 299), type := 0, pos := p, after := #[{ on := 16, ground := Ground.data }, { on := 3, ground := Ground.data }, { on := 15, ground := Ground.chain }, { on := 0, ground := Ground.phase }, { on := 1, ground := Ground.phase }, { on := 2, ground := Ground.phase }, { on := 3, ground := Ground.phase }, { on := 4, ground := Ground.textOnly Departure.lateStores }, { on := 5, ground := Ground.textOnly Departure.lateStores }, { on := 6, ground := Ground.textOnly Departure.lateStores }, { on := 7, ground := Ground.textOnly Departure.lateStores }, { on := 8, ground := Ground.textOnly Departure.lateStores }, { on := 9, ground := Ground.textOnly Departure.lateStores }, { on := 10, ground := Ground.textOnly Departure.lateStores }, { on := 11, ground := Ground.textOnly Departure.lateStores }, { on := 12, ground := Ground.textOnly Departure.lateStores }, { on := 13, ground := Ground.textOnly Departure.lateStores }, { on := 14, ground := Ground.phase }, { on := 15, ground := Ground.phase }], guard := none }
def c33_18 (p : String) : Oper := { dst := some 312, op := Op.fieldAddr 24 (Operand.tmp 3) 12, type := 0, pos := p, after := #[{ on := 0, ground := Ground.phase }, { on := 1, ground := Ground.phase }, { on := 2, ground := Ground.phase }, { on := 3, ground := Ground.phase }, { on := 4, ground := Ground.phase }, { on := 5, ground := Ground.phase }, { on := 6, ground := Ground.textOnly Departure.lateStores }, { on := 7, ground := Ground.textOnly Departure.lateStores }, { on := 8, ground := Ground.textOnly Departure.lateStores }, { on := 9, ground := Ground.textOnly Departure.lateStores }, { on := 10, ground := Ground.textOnly Departure.lateStores }, { on := 11, ground := Ground.textOnly Departure.lateStores }, { on := 12, ground := Ground.textOnly Departure.lateStores }, { on := 13, ground := Ground.textOnly Departure.lateStores }, { on := 14, ground := Ground.phase }, { on := 15, ground := Ground.phase }, { on := 16, ground := Ground.phase }, { on := 17, ground := Ground.phase }], guard := none }
def c33_19 (p : String) : Oper := { dst := none, op := Op.store 3 (Operand.tmp 312) (Operand.tmp 301), type := 0, pos := p, after := #[{ on := 18, ground := Ground.data }, { on := 5, ground := Ground.data }, { on := 17, ground := Ground.chain }, { on := 0, ground := Ground.phase }, { on := 1, ground := Ground.phase }, { on := 2, ground := Ground.phase }, { on := 3, ground := Ground.phase }, { on := 4, ground := Ground.phase }, { on := 5, ground := Ground.phase }, { on := 6, ground := Ground.textOnly Departure.lateStores }, { on := 7, ground := Ground.textOnly Departure.lateStores }, { on := 8, ground := Ground.textOnly Departure.lateStores }, { on := 9, ground := Ground.textOnly Departure.lateStores }, { on := 10, ground := Ground.textOnly Departure.lateStores }, { on := 11, ground := Ground.textOnly Departure.lateStores }, { on := 12, ground := Ground.textOnly Departure.lateStores }, { on := 13, ground := Ground.textOnly Departure.lateStores }, { on := 14, ground := Ground.phase }, { on := 15, ground := Ground.phase }, { on := 16, ground := Ground.phase }, { on := 17, ground := Ground.phase }], guard := none }
def c33_20 (p : String) : Oper := { dst := some 313, op := Op.fieldAddr 24 (Operand.tmp 3) 9, type := 0, pos := p, after := #[{ on := 0, ground := Ground.phase }, { on := 1, ground := Ground.phase }, { on := 2, ground := Ground.phase }, { on := 3, ground := Ground.phase }, { on := 4, ground := Ground.phase }, { on := 5, ground := Ground.phase }, { on := 6, ground := Ground.phase }, { on := 7, ground := Ground.phase }, { on := 8, ground := Ground.textOnly Departure.lateStores }, { on := 9, ground := Ground.textOnly Departure.lateStores }, { on := 10, ground := Ground.textOnly Departure.lateStores }, { on := 11, ground := Ground.textOnly Departure.lateStores }, { on := 12, ground := Ground.textOnly Departure.lateStores }, { on := 13, ground := Ground.textOnly Departure.lateStores }, { on := 14, ground := Ground.phase }, { on := 15, ground := Ground.phase }, { on := 16, ground := Ground.phase }, { on := 17, ground := Ground.phase }, { on := 18, ground := Ground.phase }, { on := 19, ground := Ground.phase }], guard := none }
def c33_21 (p : String) : Oper := { dst := none, op := Op.store 3 (Operand.tmp 313) (Operand.tmp 303), type := 0, pos := p, after := #[{ on := 20, ground := Ground.data }, { on := 7, ground := Ground.data }, { on := 19, ground := Ground.chain }, { on := 0, ground := Ground.phase }, { on := 1, ground := Ground.phase }, { on := 2, ground := Ground.phase }, { on := 3, ground := Ground.phase }, { on := 4, ground := Ground.phase }, { on := 5, ground := Ground.phase }, { on := 6, ground := Ground.phase }, { on := 7, ground := Ground.phase }, { on := 8, ground := Ground.textOnly Departure.lateStores }, { on := 9, ground := Ground.textOnly Departure.lateStores }, { on := 10, ground := Ground.textOnly Departure.lateStores }, { on := 11, ground := Ground.textOnly Departure.lateStores }, { on := 12, ground := Ground.textOnly Departure.lateStores }, { on := 13, ground := Ground.textOnly Departure.lateStores }, { on := 14, ground := Ground.phase }, { on := 15, ground := Ground.phase }, { on := 16, ground := Ground.phase }, { on := 17, ground := Ground.phase }, { on := 18, ground := Ground.phase }, { on := 19, ground := Ground.phase }], guard := none }
def c33_22 (p : String) : Oper := { dst := some 314, op := Op.fieldAddr 24 (Operand.tmp 3) 13, type := 0, pos := p, after := #[{ on := 0, ground := Ground.phase }, { on := 1, ground := Ground.phase }, { on := 2, ground := Ground.phase }, { on := 3, ground := Ground.phase }, { on := 4, ground := Ground.phase }, { on := 5, ground := Ground.phase }, { on := 6, ground := Ground.phase }, { on := 7, ground := Ground.phase }, { on := 8, ground := Ground.phase }, { on := 9, ground := Ground.phase }, { on := 10, ground := Ground.textOnly Departure.lateStores }, { on := 11, ground := Ground.textOnly Departure.lateStores }, { on := 12, ground := Ground.textOnly Departure.lateStores }, { on := 13, ground := Ground.textOnly Departure.lateStores }, { on := 14, ground := Ground.phase }, { on := 15, ground := Ground.phase }, { on := 16, ground := Ground.phase }, { on := 17, ground := Ground.phase }, { on := 18, ground := Ground.phase }, { on := 19, ground := Ground.phase }, { on := 20, ground := Ground.phase }, { on := 21, ground := Ground.phase }], guard := none }
def c33_23 (p : String) : Oper := { dst := none, op := Op.store 3 (Operand.tmp 314) (Operand.tmp 305), type := 0, pos := p, after := #[{ on := 22, ground := Ground.data }, { on := 9, ground := Ground.data }, { on := 21, ground := Ground.chain }, { on := 0, ground := Ground.phase }, { on := 1, ground := Ground.phase }, { on := 2, ground := Ground.phase }, { on := 3, ground := Ground.phase }, { on := 4, ground := Ground.phase }, { on := 5, ground := Ground.phase }, { on := 6, ground := Ground.phase }, { on := 7, ground := Ground.phase }, { on := 8, ground := Ground.phase }, { on := 9, ground := Ground.phase }, { on := 10, ground := Ground.textOnly Departure.lateStores }, { on := 11, ground := Ground.textOnly Departure.lateStores }, { on := 12, ground := Ground.textOnly Departure.lateStores }, { on := 13, ground := Ground.textOnly Departure.lateStores }, { on := 14, ground := Ground.phase }, { on := 15, ground := Ground.phase }, { on := 16, ground := Ground.phase }, { on := 17, ground := Ground.phase }, { on := 18, ground := Ground.phase }, { on := 19, ground := Ground.phase }, { on := 20, ground := Ground.phase }, { on := 21, ground := Ground.phase }], guard := none }
def c33_24 (p : String) : Oper := { dst := some 315, op := Op.fieldAddr 24 (Operand.tmp 3) 14, type := 0, pos := p, after := #[{ on := 0, ground := Ground.phase }, { on := 1, ground := Ground.phase }, { on := 2, ground := Ground.phase }, { on := 3, ground := Ground.phase }, { on := 4, ground := Ground.phase }, { on := 5, ground := Ground.phase }, { on := 6, ground := Ground.phase }, { on := 7, ground := Ground.phase }, { on := 8, ground := Ground.phase }, { on := 9, ground := Ground.phase }, { on := 10, ground := Ground.phase }, { on := 11, ground := Ground.phase }, { on := 12, ground := Ground.textOnly Departure.lateStores }, { on := 13, ground := Ground.textOnly Departure.lateStores }, { on := 14, ground := Ground.phase }, { on := 15, ground := Ground.phase }, { on := 16, ground := Ground.phase }, { on := 17, ground := Ground.phase }, { on := 18, ground := Ground.phase }, { on := 19, ground := Ground.phase }, { on := 20, ground := Ground.phase }, { on := 21, ground := Ground.phase }, { on := 22, ground := Ground.phase }, { on := 23, ground := Ground.phase }], guard := none }
def c33_25 (p : String) : Oper := { dst := none, op := Op.store 22 (Operand.tmp 315) (Operand.tmp 307), type := 0, pos := p, after := #[{ on := 24, ground := Ground.data }, { on := 11, ground := Ground.data }, { on := 23, ground := Ground.chain }, { on := 0, ground := Ground.phase }, { on := 1, ground := Ground.phase }, { on := 2, ground := Ground.phase }, { on := 3, ground := Ground.phase }, { on := 4, ground := Ground.phase }, { on := 5, ground := Ground.phase }, { on := 6, ground := Ground.phase }, { on := 7, ground := Ground.phase }, { on := 8, ground := Ground.phase }, { on := 9, ground := Ground.phase }, { on := 10, ground := Ground.phase }, { on := 11, ground := Ground.phase }, { on := 12, ground := Ground.textOnly Departure.lateStores }, { on := 13, ground := Ground.textOnly Departure.lateStores }, { on := 14, ground := Ground.phase }, { on := 15, ground := Ground.phase }, { on := 16, ground := Ground.phase }, { on := 17, ground := Ground.phase }, { on := 18, ground := Ground.phase }, { on := 19, ground := Ground.phase }, { on := 20, ground := Ground.phase }, { on := 21, ground := Ground.phase }, { on := 22, ground := Ground.phase }, { on := 23, ground := Ground.phase }], guard := none }
def c33_26 (p : String) : Oper := { dst := some 316, op := Op.fieldAddr 24 (Operand.tmp 3) 15, type := 0, pos := p, after := #[{ on := 0, ground := Ground.phase }, { on := 1, ground := Ground.phase }, { on := 2, ground := Ground.phase }, { on := 3, ground := Ground.phase }, { on := 4, ground := Ground.phase }, { on := 5, ground := Ground.phase }, { on := 6, ground := Ground.phase }, { on := 7, ground := Ground.phase }, { on := 8, ground := Ground.phase }, { on := 9, ground := Ground.phase }, { on := 10, ground := Ground.phase }, { on := 11, ground := Ground.phase }, { on := 12, ground := Ground.phase }, { on := 13, ground := Ground.phase }, { on := 14, ground := Ground.phase }, { on := 15, ground := Ground.phase }, { on := 16, ground := Ground.phase }, { on := 17, ground := Ground.phase }, { on := 18, ground := Ground.phase }, { on := 19, ground := Ground.phase }, { on := 20, ground := Ground.phase }, { on := 21, ground := Ground.phase }, { on := 22, ground := Ground.phase }, { on := 23, ground := Ground.phase }, { on := 24, ground := Ground.phase }, { on := 25, ground := Ground.phase }], guard := none }
def c33_27 (p : String) : Oper := { dst := none, op := Op.store 22 (Operand.tmp 316) (Operand.tmp 309), type := 0, pos := p, after := #[{ on := 26, ground := Ground.data }, { on := 13, ground := Ground.data }, { on := 25, ground := Ground.chain }, { on := 0, ground := Ground.phase }, { on := 1, ground := Ground.phase }, { on := 2, ground := Ground.phase }, { on := 3, ground := Ground.phase }, { on := 4, ground := Ground.phase }, { on := 5, ground := Ground.phase }, { on := 6, ground := Ground.phase }, { on := 7, ground := Ground.phase }, { on := 8, ground := Ground.phase }, { on := 9, ground := Ground.phase }, { on := 10, ground := Ground.phase }, { on := 11, ground := Ground.phase }, { on := 12, ground := Ground.phase }, { on := 13, ground := Ground.phase }, { on := 14, ground := Ground.phase }, { on := 15, ground := Ground.phase }, { on := 16, ground := Ground.phase }, { on := 17, ground := Ground.phase }, { on := 18, ground := Ground.phase }, { on := 19, ground := Ground.phase }, { on := 20, ground := Ground.phase }, { on := 21, ground := Ground.phase }, { on := 22, ground := Ground.phase }, { on := 23, ground := Ground.phase }, { on := 24, ground := Ground.phase }, { on := 25, ground := Ground.phase }], guard := none }
def c33 (p : String) : Array Oper := #[c33_0 p, c33_1 p, c33_2 p, c33_3 p, c33_4 p, c33_5 p, c33_6 p, c33_7 p, c33_8 p, c33_9 p, c33_10 p, c33_11 p, c33_12 p, c33_13 p, c33_14 p, c33_15 p, c33_16 p, c33_17 p, c33_18 p, c33_19 p, c33_20 p, c33_21 p, c33_22 p, c33_23 p, c33_24 p, c33_25 p, c33_26 p, c33_27 p]
set_option maxRecDepth 100000 in
set_option maxHeartbeats 2000000 in
theorem copy_33 {Q : Exit → Act → World → Prop} (id : Nat) (p : String) (a : Act) (w : World) (g1 g3 : Nat) (cs ds : Array Value) (n0 : Int) (n1 : Int) (n2 : Int) (n3 : Int) (n4 : Int) (q5 : Option Addr) (l5 k5 : Nat) (q6 : Option Addr) (l6 k6 : Nat) (hsz : a.tmps.size = 347) (e1 : a.eval (.tmp 1) = .pointer (some ⟨g1, 0, none⟩)) (e3 : a.eval (.tmp 3) = .pointer (some ⟨g3, 0, none⟩))
    (hg1 : w.heap[g1]? = some (.cells cs 24)) (hg3 : w.heap[g3]? = some (.cells ds 24)) (hlt : g1 < g3) (hd : ds.size = 16) (y0 : cs[10]? = some (.int .i64 n0)) (y1 : cs[11]? = some (.int .i64 n1)) (y2 : cs[12]? = some (.int .i64 n2)) (y3 : cs[9]? = some (.int .i64 n3)) (y4 : cs[13]? = some (.int .i64 n4)) (y5 : cs[14]? = some (.slice q5 l5 k5)) (y6 : cs[15]? = some (.slice q6 l6 k6))
    (h : ∀ w', Below g3 w w' → w'.heap[g3]? = some (.cells (((((((ds.setIfInBounds 10 (.int .i64 n0)).setIfInBounds 11 (.int .i64 n1)).setIfInBounds 12 (.int .i64 n2)).setIfInBounds 9 (.int .i64 n3)).setIfInBounds 13 (.int .i64 n4)).setIfInBounds 14 (.slice q5 l5 k5)).setIfInBounds 15 (.slice q6 l6 k6)) 24) → Q .normal (((((((((((((((((((((a.put (some 296) (.pointer (some ⟨g1, 10, none⟩))).put (some 297) (.int .i64 n0)).put (some 298) (.pointer (some ⟨g1, 11, none⟩))).put (some 299) (.int .i64 n1)).put (some 300) (.pointer (some ⟨g1, 12, none⟩))).put (some 301) (.int .i64 n2)).put (some 302) (.pointer (some ⟨g1, 9, none⟩))).put (some 303) (.int .i64 n3)).put (some 304) (.pointer (some ⟨g1, 13, none⟩))).put (some 305) (.int .i64 n4)).put (some 306) (.pointer (some ⟨g1, 14, none⟩))).put (some 307) (.slice q5 l5 k5)).put (some 308) (.pointer (some ⟨g1, 15, none⟩))).put (some 309) (.slice q6 l6 k6)).put (some 310) (.pointer (some ⟨g3, 10, none⟩))).put (some 311) (.pointer (some ⟨g3, 11, none⟩))).put (some 312) (.pointer (some ⟨g3, 12, none⟩))).put (some 313) (.pointer (some ⟨g3, 9, none⟩))).put (some 314) (.pointer (some ⟨g3, 13, none⟩))).put (some 315) (.pointer (some ⟨g3, 14, none⟩))).put (some 316) (.pointer (some ⟨g3, 15, none⟩))) w') :
    (Code.region id (c33 p) true).wp Try.prog Q a w := by
  refine wp_region_noPanic ?_
  have hQ : ∀ c a d v w, NoPanic Q (.panic c) (a.put d v) w → NoPanic Q (.panic c) a w := fun _ _ _ _ _ h => h
  have hx0 : w.drew.heap[g3]? = some (.cells ds 24) := by rw [heap_drew]; exact hg3
  have b0 : Below g3 w w.drew := (Below.refl _ w).drew
  refine wp_region_held (S := fun w' => Below g3 w w') (by kernel_rfl) ?_
  refine wpAnyH_take (i := 0) (v := .pointer (some ⟨g1, 10, none⟩)) rfl (by kernel_rfl) (by kernel_rfl) (by kernel_rfl) (fun c a w => hQ c a _ _ w) (.inl ⟨by kernel_rfl, fun w' hS => run_field 10 (by omega) w' _ _ rfl _ g1 (by simp [e1])⟩) b0 ?_
  refine reAct (a' := (a.put (some 296) (.pointer (some ⟨g1, 10, none⟩)))) (l' := #[true, false, false, false, false, false, false, false, false, false, false, false, false, false, false, false, false, false, false, false, false, false, false, false, false, false, false, false]) (by kernel_rfl) (by kernel_rfl) ?_
  refine wpAnyH_take (i := 1) (v := (.int .i64 n0)) rfl (by kernel_rfl) (by kernel_rfl) (by kernel_rfl) (fun c a w => hQ c a _ _ w) (.inl ⟨by kernel_rfl, fun w' hS => run_load3 w' _ _ rfl _ ⟨g1, 10, none⟩ (by simp [ev_eq, hsz]) _ (mv_cell ((hS.block g1 hlt).trans hg1) 10 _ y0)⟩) b0 ?_
  refine reAct (a' := ((a.put (some 296) (.pointer (some ⟨g1, 10, none⟩))).put (some 297) (.int .i64 n0))) (l' := #[true, true, false, false, false, false, false, false, false, false, false, false, false, false, false, false, false, false, false, false, false, false, false, false, false, false, false, false]) (by kernel_rfl) (by kernel_rfl) ?_
  refine wpAnyH_take (i := 2) (v := .pointer (some ⟨g1, 11, none⟩)) rfl (by kernel_rfl) (by kernel_rfl) (by kernel_rfl) (fun c a w => hQ c a _ _ w) (.inl ⟨by kernel_rfl, fun w' hS => run_field 11 (by omega) w' _ _ rfl _ g1 (by simp [ev_ne, e1])⟩) b0 ?_
  refine reAct (a' := (((a.put (some 296) (.pointer (some ⟨g1, 10, none⟩))).put (some 297) (.int .i64 n0)).put (some 298) (.pointer (some ⟨g1, 11, none⟩)))) (l' := #[true, true, true, false, false, false, false, false, false, false, false, false, false, false, false, false, false, false, false, false, false, false, false, false, false, false, false, false]) (by kernel_rfl) (by kernel_rfl) ?_
  refine wpAnyH_take (i := 3) (v := (.int .i64 n1)) rfl (by kernel_rfl) (by kernel_rfl) (by kernel_rfl) (fun c a w => hQ c a _ _ w) (.inl ⟨by kernel_rfl, fun w' hS => run_load3 w' _ _ rfl _ ⟨g1, 11, none⟩ (by simp [ev_eq, sz_put, hsz]) _ (mv_cell ((hS.block g1 hlt).trans hg1) 11 _ y1)⟩) b0 ?_
  refine reAct (a' := ((((a.put (some 296) (.pointer (some ⟨g1, 10, none⟩))).put (some 297) (.int .i64 n0)).put (some 298) (.pointer (some ⟨g1, 11, none⟩))).put (some 299) (.int .i64 n1))) (l' := #[true, true, true, true, false, false, false, false, false, false, false, false, false, false, false, false, false, false, false, false, false, false, false, false, false, false, false, false]) (by kernel_rfl) (by kernel_rfl) ?_
  refine wpAnyH_take (i := 4) (v := .pointer (some ⟨g1, 12, none⟩)) rfl (by kernel_rfl) (by kernel_rfl) (by kernel_rfl) (fun c a w => hQ c a _ _ w) (.inl ⟨by kernel_rfl, fun w' hS => run_field 12 (by omega) w' _ _ rfl _ g1 (by simp [ev_ne, e1])⟩) b0 ?_
  refine reAct (a' := (((((a.put (some 296) (.pointer (some ⟨g1, 10, none⟩))).put (some 297) (.int .i64 n0)).put (some 298) (.pointer (some ⟨g1, 11, none⟩))).put (some 299) (.int .i64 n1)).put (some 300) (.pointer (some ⟨g1, 12, none⟩)))) (l' := #[true, true, true, true, true, false, false, false, false, false, false, false, false, false, false, false, false, false, false, false, false, false, false, false, false, false, false, false]) (by kernel_rfl) (by kernel_rfl) ?_
  refine wpAnyH_take (i := 5) (v := (.int .i64 n2)) rfl (by kernel_rfl) (by kernel_rfl) (by kernel_rfl) (fun c a w => hQ c a _ _ w) (.inl ⟨by kernel_rfl, fun w' hS => run_load3 w' _ _ rfl _ ⟨g1, 12, none⟩ (by simp [ev_eq, sz_put, hsz]) _ (mv_cell ((hS.block g1 hlt).trans hg1) 12 _ y2)⟩) b0 ?_
  refine reAct (a' := ((((((a.put (some 296) (.pointer (some ⟨g1, 10, none⟩))).put (some 297) (.int .i64 n0)).put (some 298) (.pointer (some ⟨g1, 11, none⟩))).put (some 299) (.int .i64 n1)).put (some 300) (.pointer (some ⟨g1, 12, none⟩))).put (some 301) (.int .i64 n2))) (l' := #[true, true, true, true, true, true, false, false, false, false, false, false, false, false, false, false, false, false, false, false, false, false, false, false, false, false, false, false]) (by kernel_rfl) (by kernel_rfl) ?_
  refine wpAnyH_take (i := 6) (v := .pointer (some ⟨g1, 9, none⟩)) rfl (by kernel_rfl) (by kernel_rfl) (by kernel_rfl) (fun c a w => hQ c a _ _ w) (.inl ⟨by kernel_rfl, fun w' hS => run_field 9 (by omega) w' _ _ rfl _ g1 (by simp [ev_ne, e1])⟩) b0 ?_
  refine reAct (a' := (((((((a.put (some 296) (.pointer (some ⟨g1, 10, none⟩))).put (some 297) (.int .i64 n0)).put (some 298) (.pointer (some ⟨g1, 11, none⟩))).put (some 299) (.int .i64 n1)).put (some 300) (.pointer (some ⟨g1, 12, none⟩))).put (some 301) (.int .i64 n2)).put (some 302) (.pointer (some ⟨g1, 9, none⟩)))) (l' := #[true, true, true, true, true, true, true, false, false, false, false, false, false, false, false, false, false, false, false, false, false, false, false, false, false, false, false, false]) (by kernel_rfl) (by kernel_rfl) ?_
  refine wpAnyH_take (i := 7) (v := (.int .i64 n3)) rfl (by kernel_rfl) (by kernel_rfl) (by kernel_rfl) (fun c a w => hQ c a _ _ w) (.inl ⟨by kernel_rfl, fun w' hS => run_load3 w' _ _ rfl _ ⟨g1, 9, none⟩ (by simp [ev_eq, sz_put, hsz]) _ (mv_cell ((hS.block g1 hlt).trans hg1) 9 _ y3)⟩) b0 ?_
  refine reAct (a' := ((((((((a.put (some 296) (.pointer (some ⟨g1, 10, none⟩))).put (some 297) (.int .i64 n0)).put (some 298) (.pointer (some ⟨g1, 11, none⟩))).put (some 299) (.int .i64 n1)).put (some 300) (.pointer (some ⟨g1, 12, none⟩))).put (some 301) (.int .i64 n2)).put (some 302) (.pointer (some ⟨g1, 9, none⟩))).put (some 303) (.int .i64 n3))) (l' := #[true, true, true, true, true, true, true, true, false, false, false, false, false, false, false, false, false, false, false, false, false, false, false, false, false, false, false, false]) (by kernel_rfl) (by kernel_rfl) ?_
  refine wpAnyH_take (i := 8) (v := .pointer (some ⟨g1, 13, none⟩)) rfl (by kernel_rfl) (by kernel_rfl) (by kernel_rfl) (fun c a w => hQ c a _ _ w) (.inl ⟨by kernel_rfl, fun w' hS => run_field 13 (by omega) w' _ _ rfl _ g1 (by simp [ev_ne, e1])⟩) b0 ?_
  refine reAct (a' := (((((((((a.put (some 296) (.pointer (some ⟨g1, 10, none⟩))).put (some 297) (.int .i64 n0)).put (some 298) (.pointer (some ⟨g1, 11, none⟩))).put (some 299) (.int .i64 n1)).put (some 300) (.pointer (some ⟨g1, 12, none⟩))).put (some 301) (.int .i64 n2)).put (some 302) (.pointer (some ⟨g1, 9, none⟩))).put (some 303) (.int .i64 n3)).put (some 304) (.pointer (some ⟨g1, 13, none⟩)))) (l' := #[true, true, true, true, true, true, true, true, true, false, false, false, false, false, false, false, false, false, false, false, false, false, false, false, false, false, false, false]) (by kernel_rfl) (by kernel_rfl) ?_
  refine wpAnyH_take (i := 9) (v := (.int .i64 n4)) rfl (by kernel_rfl) (by kernel_rfl) (by kernel_rfl) (fun c a w => hQ c a _ _ w) (.inl ⟨by kernel_rfl, fun w' hS => run_load3 w' _ _ rfl _ ⟨g1, 13, none⟩ (by simp [ev_eq, sz_put, hsz]) _ (mv_cell ((hS.block g1 hlt).trans hg1) 13 _ y4)⟩) b0 ?_
  refine reAct (a' := ((((((((((a.put (some 296) (.pointer (some ⟨g1, 10, none⟩))).put (some 297) (.int .i64 n0)).put (some 298) (.pointer (some ⟨g1, 11, none⟩))).put (some 299) (.int .i64 n1)).put (some 300) (.pointer (some ⟨g1, 12, none⟩))).put (some 301) (.int .i64 n2)).put (some 302) (.pointer (some ⟨g1, 9, none⟩))).put (some 303) (.int .i64 n3)).put (some 304) (.pointer (some ⟨g1, 13, none⟩))).put (some 305) (.int .i64 n4))) (l' := #[true, true, true, true, true, true, true, true, true, true, false, false, false, false, false, false, false, false, false, false, false, false, false, false, false, false, false, false]) (by kernel_rfl) (by kernel_rfl) ?_
  refine wpAnyH_take (i := 10) (v := .pointer (some ⟨g1, 14, none⟩)) rfl (by kernel_rfl) (by kernel_rfl) (by kernel_rfl) (fun c a w => hQ c a _ _ w) (.inl ⟨by kernel_rfl, fun w' hS => run_field 14 (by omega) w' _ _ rfl _ g1 (by simp [ev_ne, e1])⟩) b0 ?_
  refine reAct (a' := (((((((((((a.put (some 296) (.pointer (some ⟨g1, 10, none⟩))).put (some 297) (.int .i64 n0)).put (some 298) (.pointer (some ⟨g1, 11, none⟩))).put (some 299) (.int .i64 n1)).put (some 300) (.pointer (some ⟨g1, 12, none⟩))).put (some 301) (.int .i64 n2)).put (some 302) (.pointer (some ⟨g1, 9, none⟩))).put (some 303) (.int .i64 n3)).put (some 304) (.pointer (some ⟨g1, 13, none⟩))).put (some 305) (.int .i64 n4)).put (some 306) (.pointer (some ⟨g1, 14, none⟩)))) (l' := #[true, true, true, true, true, true, true, true, true, true, true, false, false, false, false, false, false, false, false, false, false, false, false, false, false, false, false, false]) (by kernel_rfl) (by kernel_rfl) ?_
  refine wpAnyH_take (i := 11) (v := (.slice q5 l5 k5)) rfl (by kernel_rfl) (by kernel_rfl) (by kernel_rfl) (fun c a w => hQ c a _ _ w) (.inl ⟨by kernel_rfl, fun w' hS => run_load22 w' _ _ rfl _ ⟨g1, 14, none⟩ (by simp [ev_eq, sz_put, hsz]) _ (mv_cell ((hS.block g1 hlt).trans hg1) 14 _ y5)⟩) b0 ?_
  refine reAct (a' := ((((((((((((a.put (some 296) (.pointer (some ⟨g1, 10, none⟩))).put (some 297) (.int .i64 n0)).put (some 298) (.pointer (some ⟨g1, 11, none⟩))).put (some 299) (.int .i64 n1)).put (some 300) (.pointer (some ⟨g1, 12, none⟩))).put (some 301) (.int .i64 n2)).put (some 302) (.pointer (some ⟨g1, 9, none⟩))).put (some 303) (.int .i64 n3)).put (some 304) (.pointer (some ⟨g1, 13, none⟩))).put (some 305) (.int .i64 n4)).put (some 306) (.pointer (some ⟨g1, 14, none⟩))).put (some 307) (.slice q5 l5 k5))) (l' := #[true, true, true, true, true, true, true, true, true, true, true, true, false, false, false, false, false, false, false, false, false, false, false, false, false, false, false, false]) (by kernel_rfl) (by kernel_rfl) ?_
  refine wpAnyH_take (i := 12) (v := .pointer (some ⟨g1, 15, none⟩)) rfl (by kernel_rfl) (by kernel_rfl) (by kernel_rfl) (fun c a w => hQ c a _ _ w) (.inl ⟨by kernel_rfl, fun w' hS => run_field 15 (by omega) w' _ _ rfl _ g1 (by simp [ev_ne, e1])⟩) b0 ?_
  refine reAct (a' := (((((((((((((a.put (some 296) (.pointer (some ⟨g1, 10, none⟩))).put (some 297) (.int .i64 n0)).put (some 298) (.pointer (some ⟨g1, 11, none⟩))).put (some 299) (.int .i64 n1)).put (some 300) (.pointer (some ⟨g1, 12, none⟩))).put (some 301) (.int .i64 n2)).put (some 302) (.pointer (some ⟨g1, 9, none⟩))).put (some 303) (.int .i64 n3)).put (some 304) (.pointer (some ⟨g1, 13, none⟩))).put (some 305) (.int .i64 n4)).put (some 306) (.pointer (some ⟨g1, 14, none⟩))).put (some 307) (.slice q5 l5 k5)).put (some 308) (.pointer (some ⟨g1, 15, none⟩)))) (l' := #[true, true, true, true, true, true, true, true, true, true, true, true, true, false, false, false, false, false, false, false, false, false, false, false, false, false, false, false]) (by kernel_rfl) (by kernel_rfl) ?_
  refine wpAnyH_take (i := 13) (v := (.slice q6 l6 k6)) rfl (by kernel_rfl) (by kernel_rfl) (by kernel_rfl) (fun c a w => hQ c a _ _ w) (.inl ⟨by kernel_rfl, fun w' hS => run_load22 w' _ _ rfl _ ⟨g1, 15, none⟩ (by simp [ev_eq, sz_put, hsz]) _ (mv_cell ((hS.block g1 hlt).trans hg1) 15 _ y6)⟩) b0 ?_
  refine reAct (a' := ((((((((((((((a.put (some 296) (.pointer (some ⟨g1, 10, none⟩))).put (some 297) (.int .i64 n0)).put (some 298) (.pointer (some ⟨g1, 11, none⟩))).put (some 299) (.int .i64 n1)).put (some 300) (.pointer (some ⟨g1, 12, none⟩))).put (some 301) (.int .i64 n2)).put (some 302) (.pointer (some ⟨g1, 9, none⟩))).put (some 303) (.int .i64 n3)).put (some 304) (.pointer (some ⟨g1, 13, none⟩))).put (some 305) (.int .i64 n4)).put (some 306) (.pointer (some ⟨g1, 14, none⟩))).put (some 307) (.slice q5 l5 k5)).put (some 308) (.pointer (some ⟨g1, 15, none⟩))).put (some 309) (.slice q6 l6 k6))) (l' := #[true, true, true, true, true, true, true, true, true, true, true, true, true, true, false, false, false, false, false, false, false, false, false, false, false, false, false, false]) (by kernel_rfl) (by kernel_rfl) ?_
  refine wpAnyH_take (i := 14) (v := .pointer (some ⟨g3, 10, none⟩)) rfl (by kernel_rfl) (by kernel_rfl) (by kernel_rfl) (fun c a w => hQ c a _ _ w) (.inl ⟨by kernel_rfl, fun w' hS => run_field 10 (by omega) w' _ _ rfl _ g3 (by simp [ev_ne, e3])⟩) b0 ?_
  refine reAct (a' := (((((((((((((((a.put (some 296) (.pointer (some ⟨g1, 10, none⟩))).put (some 297) (.int .i64 n0)).put (some 298) (.pointer (some ⟨g1, 11, none⟩))).put (some 299) (.int .i64 n1)).put (some 300) (.pointer (some ⟨g1, 12, none⟩))).put (some 301) (.int .i64 n2)).put (some 302) (.pointer (some ⟨g1, 9, none⟩))).put (some 303) (.int .i64 n3)).put (some 304) (.pointer (some ⟨g1, 13, none⟩))).put (some 305) (.int .i64 n4)).put (some 306) (.pointer (some ⟨g1, 14, none⟩))).put (some 307) (.slice q5 l5 k5)).put (some 308) (.pointer (some ⟨g1, 15, none⟩))).put (some 309) (.slice q6 l6 k6)).put (some 310) (.pointer (some ⟨g3, 10, none⟩)))) (l' := #[true, true, true, true, true, true, true, true, true, true, true, true, true, true, true, false, false, false, false, false, false, false, false, false, false, false, false, false]) (by kernel_rfl) (by kernel_rfl) ?_
  refine wpAnyH_all (rs := [15]) (by kernel_rfl) (by simp) ?_
  intro i hi
  obtain rfl : i = 15 := by simpa using hi
  have hx1 := heap_setCell_same w.drew g3 10 _ _ (.int .i64 n0) hx0
  have b1 : Below g3 w (w.drew.setCell ⟨g3, 10, none⟩ (.int .i64 n0)) := b0.setCell (Nat.le_refl _) _
  obtain ⟨u0, hu0⟩ : ∃ u, (ds)[10]? = some u := by simp [hd]
  refine wpOp_skip2 (o := c33_15 p) rfl (by kernel_rfl) (run_store3 _ _ _ _ rfl _ ⟨g3, 10, none⟩ (by simp [ev_eq, sz_put, hsz]) _ (by simp [ev_ne, ev_eq, sz_put, hsz]) u0 (mv_cell hx0 10 _ hu0) (frozen_of_row _ g3 10 _ _ hx0)) ⟨b1, ?_⟩
  refine reAct (a' := (((((((((((((((a.put (some 296) (.pointer (some ⟨g1, 10, none⟩))).put (some 297) (.int .i64 n0)).put (some 298) (.pointer (some ⟨g1, 11, none⟩))).put (some 299) (.int .i64 n1)).put (some 300) (.pointer (some ⟨g1, 12, none⟩))).put (some 301) (.int .i64 n2)).put (some 302) (.pointer (some ⟨g1, 9, none⟩))).put (some 303) (.int .i64 n3)).put (some 304) (.pointer (some ⟨g1, 13, none⟩))).put (some 305) (.int .i64 n4)).put (some 306) (.pointer (some ⟨g1, 14, none⟩))).put (some 307) (.slice q5 l5 k5)).put (some 308) (.pointer (some ⟨g1, 15, none⟩))).put (some 309) (.slice q6 l6 k6)).put (some 310) (.pointer (some ⟨g3, 10, none⟩)))) (l' := #[true, true, true, true, true, true, true, true, true, true, true, true, true, true, true, true, false, false, false, false, false, false, false, false, false, false, false, false]) (by kernel_rfl) (by kernel_rfl) ?_
  refine wpAnyH_take (i := 16) (v := .pointer (some ⟨g3, 11, none⟩)) rfl (by kernel_rfl) (by kernel_rfl) (by kernel_rfl) (fun c a w => hQ c a _ _ w) (.inl ⟨by kernel_rfl, fun w' hS => run_field 11 (by omega) w' _ _ rfl _ g3 (by simp [ev_ne, e3])⟩) b1 ?_
  refine reAct (a' := ((((((((((((((((a.put (some 296) (.pointer (some ⟨g1, 10, none⟩))).put (some 297) (.int .i64 n0)).put (some 298) (.pointer (some ⟨g1, 11, none⟩))).put (some 299) (.int .i64 n1)).put (some 300) (.pointer (some ⟨g1, 12, none⟩))).put (some 301) (.int .i64 n2)).put (some 302) (.pointer (some ⟨g1, 9, none⟩))).put (some 303) (.int .i64 n3)).put (some 304) (.pointer (some ⟨g1, 13, none⟩))).put (some 305) (.int .i64 n4)).put (some 306) (.pointer (some ⟨g1, 14, none⟩))).put (some 307) (.slice q5 l5 k5)).put (some 308) (.pointer (some ⟨g1, 15, none⟩))).put (some 309) (.slice q6 l6 k6)).put (some 310) (.pointer (some ⟨g3, 10, none⟩))).put (some 311) (.pointer (some ⟨g3, 11, none⟩)))) (l' := #[true, true, true, true, true, true, true, true, true, true, true, true, true, true, true, true, true, false, false, false, false, false, false, false, false, false, false, false]) (by kernel_rfl) (by kernel_rfl) ?_
  refine wpAnyH_all (rs := [17]) (by kernel_rfl) (by simp) ?_
  intro i hi
  obtain rfl : i = 17 := by simpa using hi
  have hx2 := heap_setCell_same (w.drew.setCell ⟨g3, 10, none⟩ (.int .i64 n0)) g3 11 _ _ (.int .i64 n1) hx1
  have b2 : Below g3 w ((w.drew.setCell ⟨g3, 10, none⟩ (.int .i64 n0)).setCell ⟨g3, 11, none⟩ (.int .i64 n1)) := b1.setCell (Nat.le_refl _) _
  obtain ⟨u1, hu1⟩ : ∃ u, (ds.setIfInBounds 10 (.int .i64 n0))[11]? = some u := by simp [hd]
  refine wpOp_skip2 (o := c33_17 p) rfl (by kernel_rfl) (run_store3 _ _ _ _ rfl _ ⟨g3, 11, none⟩ (by simp [ev_eq, sz_put, hsz]) _ (by simp [ev_ne, ev_eq, sz_put, hsz]) u1 (mv_cell hx1 11 _ hu1) (frozen_of_row _ g3 11 _ _ hx1)) ⟨b2, ?_⟩
  refine reAct (a' := ((((((((((((((((a.put (some 296) (.pointer (some ⟨g1, 10, none⟩))).put (some 297) (.int .i64 n0)).put (some 298) (.pointer (some ⟨g1, 11, none⟩))).put (some 299) (.int .i64 n1)).put (some 300) (.pointer (some ⟨g1, 12, none⟩))).put (some 301) (.int .i64 n2)).put (some 302) (.pointer (some ⟨g1, 9, none⟩))).put (some 303) (.int .i64 n3)).put (some 304) (.pointer (some ⟨g1, 13, none⟩))).put (some 305) (.int .i64 n4)).put (some 306) (.pointer (some ⟨g1, 14, none⟩))).put (some 307) (.slice q5 l5 k5)).put (some 308) (.pointer (some ⟨g1, 15, none⟩))).put (some 309) (.slice q6 l6 k6)).put (some 310) (.pointer (some ⟨g3, 10, none⟩))).put (some 311) (.pointer (some ⟨g3, 11, none⟩)))) (l' := #[true, true, true, true, true, true, true, true, true, true, true, true, true, true, true, true, true, true, false, false, false, false, false, false, false, false, false, false]) (by kernel_rfl) (by kernel_rfl) ?_
  refine wpAnyH_take (i := 18) (v := .pointer (some ⟨g3, 12, none⟩)) rfl (by kernel_rfl) (by kernel_rfl) (by kernel_rfl) (fun c a w => hQ c a _ _ w) (.inl ⟨by kernel_rfl, fun w' hS => run_field 12 (by omega) w' _ _ rfl _ g3 (by simp [ev_ne, e3])⟩) b2 ?_
  refine reAct (a' := (((((((((((((((((a.put (some 296) (.pointer (some ⟨g1, 10, none⟩))).put (some 297) (.int .i64 n0)).put (some 298) (.pointer (some ⟨g1, 11, none⟩))).put (some 299) (.int .i64 n1)).put (some 300) (.pointer (some ⟨g1, 12, none⟩))).put (some 301) (.int .i64 n2)).put (some 302) (.pointer (some ⟨g1, 9, none⟩))).put (some 303) (.int .i64 n3)).put (some 304) (.pointer (some ⟨g1, 13, none⟩))).put (some 305) (.int .i64 n4)).put (some 306) (.pointer (some ⟨g1, 14, none⟩))).put (some 307) (.slice q5 l5 k5)).put (some 308) (.pointer (some ⟨g1, 15, none⟩))).put (some 309) (.slice q6 l6 k6)).put (some 310) (.pointer (some ⟨g3, 10, none⟩))).put (some 311) (.pointer (some ⟨g3, 11, none⟩))).put (some 312) (.pointer (some ⟨g3, 12, none⟩)))) (l' := #[true, true, true, true, true, true, true, true, true, true, true, true, true, true, true, true, true, true, true, false, false, false, false, false, false, false, false, false]) (by kernel_rfl) (by kernel_rfl) ?_
  refine wpAnyH_all (rs := [19]) (by kernel_rfl) (by simp) ?_
  intro i hi
  obtain rfl : i = 19 := by simpa using hi
  have hx3 := heap_setCell_same ((w.drew.setCell ⟨g3, 10, none⟩ (.int .i64 n0)).setCell ⟨g3, 11, none⟩ (.int .i64 n1)) g3 12 _ _ (.int .i64 n2) hx2
  have b3 : Below g3 w (((w.drew.setCell ⟨g3, 10, none⟩ (.int .i64 n0)).setCell ⟨g3, 11, none⟩ (.int .i64 n1)).setCell ⟨g3, 12, none⟩ (.int .i64 n2)) := b2.setCell (Nat.le_refl _) _
  obtain ⟨u2, hu2⟩ : ∃ u, ((ds.setIfInBounds 10 (.int .i64 n0)).setIfInBounds 11 (.int .i64 n1))[12]? = some u := by simp [hd]
  refine wpOp_skip2 (o := c33_19 p) rfl (by kernel_rfl) (run_store3 _ _ _ _ rfl _ ⟨g3, 12, none⟩ (by simp [ev_eq, sz_put, hsz]) _ (by simp [ev_ne, ev_eq, sz_put, hsz]) u2 (mv_cell hx2 12 _ hu2) (frozen_of_row _ g3 12 _ _ hx2)) ⟨b3, ?_⟩
  refine reAct (a' := (((((((((((((((((a.put (some 296) (.pointer (some ⟨g1, 10, none⟩))).put (some 297) (.int .i64 n0)).put (some 298) (.pointer (some ⟨g1, 11, none⟩))).put (some 299) (.int .i64 n1)).put (some 300) (.pointer (some ⟨g1, 12, none⟩))).put (some 301) (.int .i64 n2)).put (some 302) (.pointer (some ⟨g1, 9, none⟩))).put (some 303) (.int .i64 n3)).put (some 304) (.pointer (some ⟨g1, 13, none⟩))).put (some 305) (.int .i64 n4)).put (some 306) (.pointer (some ⟨g1, 14, none⟩))).put (some 307) (.slice q5 l5 k5)).put (some 308) (.pointer (some ⟨g1, 15, none⟩))).put (some 309) (.slice q6 l6 k6)).put (some 310) (.pointer (some ⟨g3, 10, none⟩))).put (some 311) (.pointer (some ⟨g3, 11, none⟩))).put (some 312) (.pointer (some ⟨g3, 12, none⟩)))) (l' := #[true, true, true, true, true, true, true, true, true, true, true, true, true, true, true, true, true, true, true, true, false, false, false, false, false, false, false, false]) (by kernel_rfl) (by kernel_rfl) ?_
  refine wpAnyH_take (i := 20) (v := .pointer (some ⟨g3, 9, none⟩)) rfl (by kernel_rfl) (by kernel_rfl) (by kernel_rfl) (fun c a w => hQ c a _ _ w) (.inl ⟨by kernel_rfl, fun w' hS => run_field 9 (by omega) w' _ _ rfl _ g3 (by simp [ev_ne, e3])⟩) b3 ?_
  refine reAct (a' := ((((((((((((((((((a.put (some 296) (.pointer (some ⟨g1, 10, none⟩))).put (some 297) (.int .i64 n0)).put (some 298) (.pointer (some ⟨g1, 11, none⟩))).put (some 299) (.int .i64 n1)).put (some 300) (.pointer (some ⟨g1, 12, none⟩))).put (some 301) (.int .i64 n2)).put (some 302) (.pointer (some ⟨g1, 9, none⟩))).put (some 303) (.int .i64 n3)).put (some 304) (.pointer (some ⟨g1, 13, none⟩))).put (some 305) (.int .i64 n4)).put (some 306) (.pointer (some ⟨g1, 14, none⟩))).put (some 307) (.slice q5 l5 k5)).put (some 308) (.pointer (some ⟨g1, 15, none⟩))).put (some 309) (.slice q6 l6 k6)).put (some 310) (.pointer (some ⟨g3, 10, none⟩))).put (some 311) (.pointer (some ⟨g3, 11, none⟩))).put (some 312) (.pointer (some ⟨g3, 12, none⟩))).put (some 313) (.pointer (some ⟨g3, 9, none⟩)))) (l' := #[true, true, true, true, true, true, true, true, true, true, true, true, true, true, true, true, true, true, true, true, true, false, false, false, false, false, false, false]) (by kernel_rfl) (by kernel_rfl) ?_
  refine wpAnyH_all (rs := [21]) (by kernel_rfl) (by simp) ?_
  intro i hi
  obtain rfl : i = 21 := by simpa using hi
  have hx4 := heap_setCell_same (((w.drew.setCell ⟨g3, 10, none⟩ (.int .i64 n0)).setCell ⟨g3, 11, none⟩ (.int .i64 n1)).setCell ⟨g3, 12, none⟩ (.int .i64 n2)) g3 9 _ _ (.int .i64 n3) hx3
  have b4 : Below g3 w ((((w.drew.setCell ⟨g3, 10, none⟩ (.int .i64 n0)).setCell ⟨g3, 11, none⟩ (.int .i64 n1)).setCell ⟨g3, 12, none⟩ (.int .i64 n2)).setCell ⟨g3, 9, none⟩ (.int .i64 n3)) := b3.setCell (Nat.le_refl _) _
  obtain ⟨u3, hu3⟩ : ∃ u, (((ds.setIfInBounds 10 (.int .i64 n0)).setIfInBounds 11 (.int .i64 n1)).setIfInBounds 12 (.int .i64 n2))[9]? = some u := by simp [hd]
  refine wpOp_skip2 (o := c33_21 p) rfl (by kernel_rfl) (run_store3 _ _ _ _ rfl _ ⟨g3, 9, none⟩ (by simp [ev_eq, sz_put, hsz]) _ (by simp [ev_ne, ev_eq, sz_put, hsz]) u3 (mv_cell hx3 9 _ hu3) (frozen_of_row _ g3 9 _ _ hx3)) ⟨b4, ?_⟩
  refine reAct (a' := ((((((((((((((((((a.put (some 296) (.pointer (some ⟨g1, 10, none⟩))).put (some 297) (.int .i64 n0)).put (some 298) (.pointer (some ⟨g1, 11, none⟩))).put (some 299) (.int .i64 n1)).put (some 300) (.pointer (some ⟨g1, 12, none⟩))).put (some 301) (.int .i64 n2)).put (some 302) (.pointer (some ⟨g1, 9, none⟩))).put (some 303) (.int .i64 n3)).put (some 304) (.pointer (some ⟨g1, 13, none⟩))).put (some 305) (.int .i64 n4)).put (some 306) (.pointer (some ⟨g1, 14, none⟩))).put (some 307) (.slice q5 l5 k5)).put (some 308) (.pointer (some ⟨g1, 15, none⟩))).put (some 309) (.slice q6 l6 k6)).put (some 310) (.pointer (some ⟨g3, 10, none⟩))).put (some 311) (.pointer (some ⟨g3, 11, none⟩))).put (some 312) (.pointer (some ⟨g3, 12, none⟩))).put (some 313) (.pointer (some ⟨g3, 9, none⟩)))) (l' := #[true, true, true, true, true, true, true, true, true, true, true, true, true, true, true, true, true, true, true, true, true, true, false, false, false, false, false, false]) (by kernel_rfl) (by kernel_rfl) ?_
  refine wpAnyH_take (i := 22) (v := .pointer (some ⟨g3, 13, none⟩)) rfl (by kernel_rfl) (by kernel_rfl) (by kernel_rfl) (fun c a w => hQ c a _ _ w) (.inl ⟨by kernel_rfl, fun w' hS => run_field 13 (by omega) w' _ _ rfl _ g3 (by simp [ev_ne, e3])⟩) b4 ?_
  refine reAct (a' := (((((((((((((((((((a.put (some 296) (.pointer (some ⟨g1, 10, none⟩))).put (some 297) (.int .i64 n0)).put (some 298) (.pointer (some ⟨g1, 11, none⟩))).put (some 299) (.int .i64 n1)).put (some 300) (.pointer (some ⟨g1, 12, none⟩))).put (some 301) (.int .i64 n2)).put (some 302) (.pointer (some ⟨g1, 9, none⟩))).put (some 303) (.int .i64 n3)).put (some 304) (.pointer (some ⟨g1, 13, none⟩))).put (some 305) (.int .i64 n4)).put (some 306) (.pointer (some ⟨g1, 14, none⟩))).put (some 307) (.slice q5 l5 k5)).put (some 308) (.pointer (some ⟨g1, 15, none⟩))).put (some 309) (.slice q6 l6 k6)).put (some 310) (.pointer (some ⟨g3, 10, none⟩))).put (some 311) (.pointer (some ⟨g3, 11, none⟩))).put (some 312) (.pointer (some ⟨g3, 12, none⟩))).put (some 313) (.pointer (some ⟨g3, 9, none⟩))).put (some 314) (.pointer (some ⟨g3, 13, none⟩)))) (l' := #[true, true, true, true, true, true, true, true, true, true, true, true, true, true, true, true, true, true, true, true, true, true, true, false, false, false, false, false]) (by kernel_rfl) (by kernel_rfl) ?_
  refine wpAnyH_all (rs := [23]) (by kernel_rfl) (by simp) ?_
  intro i hi
  obtain rfl : i = 23 := by simpa using hi
  have hx5 := heap_setCell_same ((((w.drew.setCell ⟨g3, 10, none⟩ (.int .i64 n0)).setCell ⟨g3, 11, none⟩ (.int .i64 n1)).setCell ⟨g3, 12, none⟩ (.int .i64 n2)).setCell ⟨g3, 9, none⟩ (.int .i64 n3)) g3 13 _ _ (.int .i64 n4) hx4
  have b5 : Below g3 w (((((w.drew.setCell ⟨g3, 10, none⟩ (.int .i64 n0)).setCell ⟨g3, 11, none⟩ (.int .i64 n1)).setCell ⟨g3, 12, none⟩ (.int .i64 n2)).setCell ⟨g3, 9, none⟩ (.int .i64 n3)).setCell ⟨g3, 13, none⟩ (.int .i64 n4)) := b4.setCell (Nat.le_refl _) _
  obtain ⟨u4, hu4⟩ : ∃ u, ((((ds.setIfInBounds 10 (.int .i64 n0)).setIfInBounds 11 (.int .i64 n1)).setIfInBounds 12 (.int .i64 n2)).setIfInBounds 9 (.int .i64 n3))[13]? = some u := by simp [hd]
  refine wpOp_skip2 (o := c33_23 p) rfl (by kernel_rfl) (run_store3 _ _ _ _ rfl _ ⟨g3, 13, none⟩ (by simp [ev_eq, sz_put, hsz]) _ (by simp [ev_ne, ev_eq, sz_put, hsz]) u4 (mv_cell hx4 13 _ hu4) (frozen_of_row _ g3 13 _ _ hx4)) ⟨b5, ?_⟩
  refine reAct (a' := (((((((((((((((((((a.put (some 296) (.pointer (some ⟨g1, 10, none⟩))).put (some 297) (.int .i64 n0)).put (some 298) (.pointer (some ⟨g1, 11, none⟩))).put (some 299) (.int .i64 n1)).put (some 300) (.pointer (some ⟨g1, 12, none⟩))).put (some 301) (.int .i64 n2)).put (some 302) (.pointer (some ⟨g1, 9, none⟩))).put (some 303) (.int .i64 n3)).put (some 304) (.pointer (some ⟨g1, 13, none⟩))).put (some 305) (.int .i64 n4)).put (some 306) (.pointer (some ⟨g1, 14, none⟩))).put (some 307) (.slice q5 l5 k5)).put (some 308) (.pointer (some ⟨g1, 15, none⟩))).put (some 309) (.slice q6 l6 k6)).put (some 310) (.pointer (some ⟨g3, 10, none⟩))).put (some 311) (.pointer (some ⟨g3, 11, none⟩))).put (some 312) (.pointer (some ⟨g3, 12, none⟩))).put (some 313) (.pointer (some ⟨g3, 9, none⟩))).put (some 314) (.pointer (some ⟨g3, 13, none⟩)))) (l' := #[true, true, true, true, true, true, true, true, true, true, true, true, true, true, true, true, true, true, true, true, true, true, true, true, false, false, false, false]) (by kernel_rfl) (by kernel_rfl) ?_
  refine wpAnyH_take (i := 24) (v := .pointer (some ⟨g3, 14, none⟩)) rfl (by kernel_rfl) (by kernel_rfl) (by kernel_rfl) (fun c a w => hQ c a _ _ w) (.inl ⟨by kernel_rfl, fun w' hS => run_field 14 (by omega) w' _ _ rfl _ g3 (by simp [ev_ne, e3])⟩) b5 ?_
  refine reAct (a' := ((((((((((((((((((((a.put (some 296) (.pointer (some ⟨g1, 10, none⟩))).put (some 297) (.int .i64 n0)).put (some 298) (.pointer (some ⟨g1, 11, none⟩))).put (some 299) (.int .i64 n1)).put (some 300) (.pointer (some ⟨g1, 12, none⟩))).put (some 301) (.int .i64 n2)).put (some 302) (.pointer (some ⟨g1, 9, none⟩))).put (some 303) (.int .i64 n3)).put (some 304) (.pointer (some ⟨g1, 13, none⟩))).put (some 305) (.int .i64 n4)).put (some 306) (.pointer (some ⟨g1, 14, none⟩))).put (some 307) (.slice q5 l5 k5)).put (some 308) (.pointer (some ⟨g1, 15, none⟩))).put (some 309) (.slice q6 l6 k6)).put (some 310) (.pointer (some ⟨g3, 10, none⟩))).put (some 311) (.pointer (some ⟨g3, 11, none⟩))).put (some 312) (.pointer (some ⟨g3, 12, none⟩))).put (some 313) (.pointer (some ⟨g3, 9, none⟩))).put (some 314) (.pointer (some ⟨g3, 13, none⟩))).put (some 315) (.pointer (some ⟨g3, 14, none⟩)))) (l' := #[true, true, true, true, true, true, true, true, true, true, true, true, true, true, true, true, true, true, true, true, true, true, true, true, true, false, false, false]) (by kernel_rfl) (by kernel_rfl) ?_
  refine wpAnyH_all (rs := [25]) (by kernel_rfl) (by simp) ?_
  intro i hi
  obtain rfl : i = 25 := by simpa using hi
  have hx6 := heap_setCell_same (((((w.drew.setCell ⟨g3, 10, none⟩ (.int .i64 n0)).setCell ⟨g3, 11, none⟩ (.int .i64 n1)).setCell ⟨g3, 12, none⟩ (.int .i64 n2)).setCell ⟨g3, 9, none⟩ (.int .i64 n3)).setCell ⟨g3, 13, none⟩ (.int .i64 n4)) g3 14 _ _ (.slice q5 l5 k5) hx5
  have b6 : Below g3 w ((((((w.drew.setCell ⟨g3, 10, none⟩ (.int .i64 n0)).setCell ⟨g3, 11, none⟩ (.int .i64 n1)).setCell ⟨g3, 12, none⟩ (.int .i64 n2)).setCell ⟨g3, 9, none⟩ (.int .i64 n3)).setCell ⟨g3, 13, none⟩ (.int .i64 n4)).setCell ⟨g3, 14, none⟩ (.slice q5 l5 k5)) := b5.setCell (Nat.le_refl _) _
  obtain ⟨u5, hu5⟩ : ∃ u, (((((ds.setIfInBounds 10 (.int .i64 n0)).setIfInBounds 11 (.int .i64 n1)).setIfInBounds 12 (.int .i64 n2)).setIfInBounds 9 (.int .i64 n3)).setIfInBounds 13 (.int .i64 n4))[14]? = some u := by simp [hd]
  refine wpOp_skip2 (o := c33_25 p) rfl (by kernel_rfl) (run_store22 _ _ _ _ rfl _ ⟨g3, 14, none⟩ (by simp [ev_eq, sz_put, hsz]) _ _ _ (by simp [ev_ne, ev_eq, sz_put, hsz]) u5 (mv_cell hx5 14 _ hu5) (frozen_of_row _ g3 14 _ _ hx5)) ⟨b6, ?_⟩
  refine reAct (a' := ((((((((((((((((((((a.put (some 296) (.pointer (some ⟨g1, 10, none⟩))).put (some 297) (.int .i64 n0)).put (some 298) (.pointer (some ⟨g1, 11, none⟩))).put (some 299) (.int .i64 n1)).put (some 300) (.pointer (some ⟨g1, 12, none⟩))).put (some 301) (.int .i64 n2)).put (some 302) (.pointer (some ⟨g1, 9, none⟩))).put (some 303) (.int .i64 n3)).put (some 304) (.pointer (some ⟨g1, 13, none⟩))).put (some 305) (.int .i64 n4)).put (some 306) (.pointer (some ⟨g1, 14, none⟩))).put (some 307) (.slice q5 l5 k5)).put (some 308) (.pointer (some ⟨g1, 15, none⟩))).put (some 309) (.slice q6 l6 k6)).put (some 310) (.pointer (some ⟨g3, 10, none⟩))).put (some 311) (.pointer (some ⟨g3, 11, none⟩))).put (some 312) (.pointer (some ⟨g3, 12, none⟩))).put (some 313) (.pointer (some ⟨g3, 9, none⟩))).put (some 314) (.pointer (some ⟨g3, 13, none⟩))).put (some 315) (.pointer (some ⟨g3, 14, none⟩)))) (l' := #[true, true, true, true, true, true, true, true, true, true, true, true, true, true, true, true, true, true, true, true, true, true, true, true, true, true, false, false]) (by kernel_rfl) (by kernel_rfl) ?_
  refine wpAnyH_take (i := 26) (v := .pointer (some ⟨g3, 15, none⟩)) rfl (by kernel_rfl) (by kernel_rfl) (by kernel_rfl) (fun c a w => hQ c a _ _ w) (.inl ⟨by kernel_rfl, fun w' hS => run_field 15 (by omega) w' _ _ rfl _ g3 (by simp [ev_ne, e3])⟩) b6 ?_
  refine reAct (a' := (((((((((((((((((((((a.put (some 296) (.pointer (some ⟨g1, 10, none⟩))).put (some 297) (.int .i64 n0)).put (some 298) (.pointer (some ⟨g1, 11, none⟩))).put (some 299) (.int .i64 n1)).put (some 300) (.pointer (some ⟨g1, 12, none⟩))).put (some 301) (.int .i64 n2)).put (some 302) (.pointer (some ⟨g1, 9, none⟩))).put (some 303) (.int .i64 n3)).put (some 304) (.pointer (some ⟨g1, 13, none⟩))).put (some 305) (.int .i64 n4)).put (some 306) (.pointer (some ⟨g1, 14, none⟩))).put (some 307) (.slice q5 l5 k5)).put (some 308) (.pointer (some ⟨g1, 15, none⟩))).put (some 309) (.slice q6 l6 k6)).put (some 310) (.pointer (some ⟨g3, 10, none⟩))).put (some 311) (.pointer (some ⟨g3, 11, none⟩))).put (some 312) (.pointer (some ⟨g3, 12, none⟩))).put (some 313) (.pointer (some ⟨g3, 9, none⟩))).put (some 314) (.pointer (some ⟨g3, 13, none⟩))).put (some 315) (.pointer (some ⟨g3, 14, none⟩))).put (some 316) (.pointer (some ⟨g3, 15, none⟩)))) (l' := #[true, true, true, true, true, true, true, true, true, true, true, true, true, true, true, true, true, true, true, true, true, true, true, true, true, true, true, false]) (by kernel_rfl) (by kernel_rfl) ?_
  refine wpAnyH_all (rs := [27]) (by kernel_rfl) (by simp) ?_
  intro i hi
  obtain rfl : i = 27 := by simpa using hi
  have hx7 := heap_setCell_same ((((((w.drew.setCell ⟨g3, 10, none⟩ (.int .i64 n0)).setCell ⟨g3, 11, none⟩ (.int .i64 n1)).setCell ⟨g3, 12, none⟩ (.int .i64 n2)).setCell ⟨g3, 9, none⟩ (.int .i64 n3)).setCell ⟨g3, 13, none⟩ (.int .i64 n4)).setCell ⟨g3, 14, none⟩ (.slice q5 l5 k5)) g3 15 _ _ (.slice q6 l6 k6) hx6
  have b7 : Below g3 w (((((((w.drew.setCell ⟨g3, 10, none⟩ (.int .i64 n0)).setCell ⟨g3, 11, none⟩ (.int .i64 n1)).setCell ⟨g3, 12, none⟩ (.int .i64 n2)).setCell ⟨g3, 9, none⟩ (.int .i64 n3)).setCell ⟨g3, 13, none⟩ (.int .i64 n4)).setCell ⟨g3, 14, none⟩ (.slice q5 l5 k5)).setCell ⟨g3, 15, none⟩ (.slice q6 l6 k6)) := b6.setCell (Nat.le_refl _) _
  obtain ⟨u6, hu6⟩ : ∃ u, ((((((ds.setIfInBounds 10 (.int .i64 n0)).setIfInBounds 11 (.int .i64 n1)).setIfInBounds 12 (.int .i64 n2)).setIfInBounds 9 (.int .i64 n3)).setIfInBounds 13 (.int .i64 n4)).setIfInBounds 14 (.slice q5 l5 k5))[15]? = some u := by simp [hd]
  refine wpOp_skip2 (o := c33_27 p) rfl (by kernel_rfl) (run_store22 _ _ _ _ rfl _ ⟨g3, 15, none⟩ (by simp [ev_eq, sz_put, hsz]) _ _ _ (by simp [ev_ne, ev_eq, sz_put, hsz]) u6 (mv_cell hx6 15 _ hu6) (frozen_of_row _ g3 15 _ _ hx6)) ⟨b7, ?_⟩
  refine reAct (a' := (((((((((((((((((((((a.put (some 296) (.pointer (some ⟨g1, 10, none⟩))).put (some 297) (.int .i64 n0)).put (some 298) (.pointer (some ⟨g1, 11, none⟩))).put (some 299) (.int .i64 n1)).put (some 300) (.pointer (some ⟨g1, 12, none⟩))).put (some 301) (.int .i64 n2)).put (some 302) (.pointer (some ⟨g1, 9, none⟩))).put (some 303) (.int .i64 n3)).put (some 304) (.pointer (some ⟨g1, 13, none⟩))).put (some 305) (.int .i64 n4)).put (some 306) (.pointer (some ⟨g1, 14, none⟩))).put (some 307) (.slice q5 l5 k5)).put (some 308) (.pointer (some ⟨g1, 15, none⟩))).put (some 309) (.slice q6 l6 k6)).put (some 310) (.pointer (some ⟨g3, 10, none⟩))).put (some 311) (.pointer (some ⟨g3, 11, none⟩))).put (some 312) (.pointer (some ⟨g3, 12, none⟩))).put (some 313) (.pointer (some ⟨g3, 9, none⟩))).put (some 314) (.pointer (some ⟨g3, 13, none⟩))).put (some 315) (.pointer (some ⟨g3, 14, none⟩))).put (some 316) (.pointer (some ⟨g3, 15, none⟩)))) (l' := #[true, true, true, true, true, true, true, true, true, true, true, true, true, true, true, true, true, true, true, true, true, true, true, true, true, true, true, true]) (by kernel_rfl) (by kernel_rfl) ?_
  exact wpAnyH_done (by kernel_rfl) (NoPanic.normal (h _ b7 hx7)) _
end Go.Proofs.Ytmcmiojidgdjpaa
namespace Go.Proofs.Ytmcmiojidgdjpaa
open Go.RowKit

def c36_0 (p : String) : Oper := { dst := some 327, op := Op.fieldAddr 24 (Operand.tmp 1) 12, type := 0, pos := p, after := #[], guard := none }
def c36_1 (p : String) : Oper := { dst := some 328, op := Op.load 3 (Operand.tmp 327), type := 3, pos := p, after := #[{ on := 0, ground := Ground.data }], guard := none }
def c36_2 (p : String) : Oper := { dst := some 329, op := Op.fieldAddr 24 (Operand.tmp 1) 9, type := 0, pos := p, after := #[{ on := 5, ground := Ground.gcOnly Departure.lateStores }], guard := none }
def c36_3 (p : String) : Oper := { dst := some 330, op := Op.load 3 (Operand.tmp 329), type := 3, pos := p, after := #[{ on := 2, ground := Ground.data }, { on := 5, ground := Ground.gcOnly Departure.lateStores }], guard := none }
def c36_4 (p : String) : Oper := { dst := some 331, op := Op.fieldAddr 24 (Operand.tmp 3) 12, type := 0, pos := p, after := #[{ on := 0, ground := Ground.phase }, { on := 1, ground := Ground.phase }, { on := 2, ground := Ground.textOnly Departure.lateStores }, { on := 3, ground := Ground.textOnly Departure.lateStores }], guard := none }
def c36_5 (p : String) : Oper := { dst := none, op := Op.store 3 (Operand.tmp 331) (Operand.tmp 328), type := 0, pos := p, after := #[{ on := 4, ground := Ground.data }, { on := 1, ground := Ground.data }, { on := 0, ground := Ground.phase }, { on := 1, ground := Ground.phase }, { on := 2, ground := Ground.textOnly Departure.lateStores }, { on := 3, ground := Ground.textOnly Departure.lateStores }], guard := none }
def c36_6 (p : String) : Oper := { dst := some 332, op := Op.fieldAddr 24 (Operand.tmp 3) 9, type := 0, pos := p, after := #[{ on := 0, ground := Ground.phase }, { on := 1, ground := Ground.phase }, { on := 2, ground := Ground.phase }, { on := 3, ground := Ground.phase }, { on := 4, ground := Ground.phase }, { on := 5, ground := Ground.phase }], guard := none }
def c36_7 (p : String) : Oper := { dst := none, op := Op.store 3 (Operand.tmp 332) (Operand.tmp 330), type := 0, pos := p, after := #[{ on := 6, ground := Ground.data }, { on := 3, ground := Ground.data }, { on := 5, ground := Ground.chain }, { on := 0, ground := Ground.phase }, { on := 1, ground := Ground.phase }, { on := 2, ground := Ground.phase }, { on := 3, ground := Ground.phase }, { on := 4, ground := Ground.phase }, { on := 5, ground := Ground.phase }], guard := none }
def c36 (p : String) : Array Oper := #[c36_0 p, c36_1 p, c36_2 p, c36_3 p, c36_4 p, c36_5 p, c36_6 p, c36_7 p]
set_option maxRecDepth 100000 in
set_option maxHeartbeats 2000000 in
theorem copy_36 {Q : Exit → Act → World → Prop} (id : Nat) (p : String) (a : Act) (w : World) (g1 g3 : Nat) (cs ds : Array Value) (n0 : Int) (n1 : Int) (hsz : a.tmps.size = 347) (e1 : a.eval (.tmp 1) = .pointer (some ⟨g1, 0, none⟩)) (e3 : a.eval (.tmp 3) = .pointer (some ⟨g3, 0, none⟩))
    (hg1 : w.heap[g1]? = some (.cells cs 24)) (hg3 : w.heap[g3]? = some (.cells ds 24)) (hlt : g1 < g3) (hd : ds.size = 16) (y0 : cs[12]? = some (.int .i64 n0)) (y1 : cs[9]? = some (.int .i64 n1))
    (h : ∀ w', Below g3 w w' → w'.heap[g3]? = some (.cells ((ds.setIfInBounds 12 (.int .i64 n0)).setIfInBounds 9 (.int .i64 n1)) 24) → Q .normal ((((((a.put (some 327) (.pointer (some ⟨g1, 12, none⟩))).put (some 328) (.int .i64 n0)).put (some 329) (.pointer (some ⟨g1, 9, none⟩))).put (some 330) (.int .i64 n1)).put (some 331) (.pointer (some ⟨g3, 12, none⟩))).put (some 332) (.pointer (some ⟨g3, 9, none⟩))) w') :
    (Code.region id (c36 p) true).wp Try.prog Q a w := by
  refine wp_region_noPanic ?_
  have hQ : ∀ c a d v w, NoPanic Q (.panic c) (a.put d v) w → NoPanic Q (.panic c) a w := fun _ _ _ _ _ h => h
  have hx0 : w.drew.heap[g3]? = some (.cells ds 24) := by rw [heap_drew]; exact hg3
  have b0 : Below g3 w w.drew := (Below.refl _ w).drew
  refine wp_region_held (S := fun w' => Below g3 w w') (by kernel_rfl) ?_
  refine wpAnyH_take (i := 0) (v := .pointer (some ⟨g1, 12, none⟩)) rfl (by kernel_rfl) (by kernel_rfl) (by kernel_rfl) (fun c a w => hQ c a _ _ w) (.inl ⟨by kernel_rfl, fun w' hS => run_field 12 (by omega) w' _ _ rfl _ g1 (by simp [e1])⟩) b0 ?_
  refine reAct (a' := (a.put (some 327) (.pointer (some ⟨g1, 12, none⟩)))) (l' := #[true, false, false, false, false, false, false, false]) (by kernel_rfl) (by kernel_rfl) ?_
  refine wpAnyH_take (i := 1) (v := (.int .i64 n0)) rfl (by kernel_rfl) (by kernel_rfl) (by kernel_rfl) (fun c a w => hQ c a _ _ w) (.inl ⟨by kernel_rfl, fun w' hS => run_load3 w' _ _ rfl _ ⟨g1, 12, none⟩ (by simp [ev_eq, hsz]) _ (mv_cell ((hS.block g1 hlt).trans hg1) 12 _ y0)⟩) b0 ?_
  refine reAct (a' := ((a.put (some 327) (.pointer (some ⟨g1, 12, none⟩))).put (some 328) (.int .i64 n0))) (l' := #[true, true, false, false, false, false, false, false]) (by kernel_rfl) (by kernel_rfl) ?_
  refine wpAnyH_take (i := 2) (v := .pointer (some ⟨g1, 9, none⟩)) rfl (by kernel_rfl) (by kernel_rfl) (by kernel_rfl) (fun c a w => hQ c a _ _ w) (.inl ⟨by kernel_rfl, fun w' hS => run_field 9 (by omega) w' _ _ rfl _ g1 (by simp [ev_ne, e1])⟩) b0 ?_
  refine reAct (a' := (((a.put (some 327) (.pointer (some ⟨g1, 12, none⟩))).put (some 328) (.int .i64 n0)).put (some 329) (.pointer (some ⟨g1, 9, none⟩)))) (l' := #[true, true, true, false, false, false, false, false]) (by kernel_rfl) (by kernel_rfl) ?_
  refine wpAnyH_take (i := 3) (v := (.int .i64 n1)) rfl (by kernel_rfl) (by kernel_rfl) (by kernel_rfl) (fun c a w => hQ c a _ _ w) (.inl ⟨by kernel_rfl, fun w' hS => run_load3 w' _ _ rfl _ ⟨g1, 9, none⟩ (by simp [ev_eq, sz_put, hsz]) _ (mv_cell ((hS.block g1 hlt).trans hg1) 9 _ y1)⟩) b0 ?_
  refine reAct (a' := ((((a.put (some 327) (.pointer (some ⟨g1, 12, none⟩))).put (some 328) (.int .i64 n0)).put (some 329) (.pointer (some ⟨g1, 9, none⟩))).put (some 330) (.int .i64 n1))) (l' := #[true, true, true, true, false, false, false, false]) (by kernel_rfl) (by kernel_rfl) ?_
  refine wpAnyH_take (i := 4) (v := .pointer (some ⟨g3, 12, none⟩)) rfl (by kernel_rfl) (by kernel_rfl) (by kernel_rfl) (fun c a w => hQ c a _ _ w) (.inl ⟨by kernel_rfl, fun w' hS => run_field 12 (by omega) w' _ _ rfl _ g3 (by simp [ev_ne, e3])⟩) b0 ?_
  refine reAct (a' := (((((a.put (some 327) (.pointer (some ⟨g1, 12, none⟩))).put (some 328) (.int .i64 n0)).put (some 329) (.pointer (some ⟨g1, 9, none⟩))).put (some 330) (.int .i64 n1)).put (some 331) (.pointer (some ⟨g3, 12, none⟩)))) (l' := #[true, true, true, true, true, false, false, false]) (by kernel_rfl) (by kernel_rfl) ?_
  refine wpAnyH_all (rs := [5]) (by kernel_rfl) (by simp) ?_
  intro i hi
  obtain rfl : i = 5 := by simpa using hi
  have hx1 := heap_setCell_same w.drew g3 12 _ _ (.int .i64 n0) hx0
  have b1 : Below g3 w (w.drew.setCell ⟨g3, 12, none⟩ (.int .i64 n0)) := b0.setCell (Nat.le_refl _) _
  obtain ⟨u0, hu0⟩ : ∃ u, (ds)[12]? = some u := by simp [hd]
  refine wpOp_skip2 (o := c36_5 p) rfl (by kernel_rfl) (run_store3 _ _ _ _ rfl _ ⟨g3, 12, none⟩ (by simp [ev_eq, sz_put, hsz]) _ (by simp [ev_ne, ev_eq, sz_put, hsz]) u0 (mv_cell hx0 12 _ hu0) (frozen_of_row _ g3 12 _ _ hx0)) ⟨b1, ?_⟩
  refine reAct (a' := (((((a.put (some 327) (.pointer (some ⟨g1, 12, none⟩))).put (some 328) (.int .i64 n0)).put (some 329) (.pointer (some ⟨g1, 9, none⟩))).put (some 330) (.int .i64 n1)).put (some 331) (.pointer (some ⟨g3, 12, none⟩)))) (l' := #[true, true, true, true, true, true, false, false]) (by kernel_rfl) (by kernel_rfl) ?_
  refine wpAnyH_take (i := 6) (v := .pointer (some ⟨g3, 9, none⟩)) rfl (by kernel_rfl) (by kernel_rfl) (by kernel_rfl) (fun c a w => hQ c a _ _ w) (.inl ⟨by kernel_rfl, fun w' hS => run_field 9 (by omega) w' _ _ rfl _ g3 (by simp [ev_ne, e3])⟩) b1 ?_
  refine reAct (a' := ((((((a.put (some 327) (.pointer (some ⟨g1, 12, none⟩))).put (some 328) (.int .i64 n0)).put (some 329) (.pointer (some ⟨g1, 9, none⟩))).put (some 330) (.int .i64 n1)).put (some 331) (.pointer (some ⟨g3, 12, none⟩))).put (some 332) (.pointer (some ⟨g3, 9, none⟩)))) (l' := #[true, true, true, true, true, true, true, false]) (by kernel_rfl) (by kernel_rfl) ?_
  refine wpAnyH_all (rs := [7]) (by kernel_rfl) (by simp) ?_
  intro i hi
  obtain rfl : i = 7 := by simpa using hi
  have hx2 := heap_setCell_same (w.drew.setCell ⟨g3, 12, none⟩ (.int .i64 n0)) g3 9 _ _ (.int .i64 n1) hx1
  have b2 : Below g3 w ((w.drew.setCell ⟨g3, 12, none⟩ (.int .i64 n0)).setCell ⟨g3, 9, none⟩ (.int .i64 n1)) := b1.setCell (Nat.le_refl _) _
  obtain ⟨u1, hu1⟩ : ∃ u, (ds.setIfInBounds 12 (.int .i64 n0))[9]? = some u := by simp [hd]
  refine wpOp_skip2 (o := c36_7 p) rfl (by kernel_rfl) (run_store3 _ _ _ _ rfl _ ⟨g3, 9, none⟩ (by simp [ev_eq, sz_put, hsz]) _ (by simp [ev_ne, ev_eq, sz_put, hsz]) u1 (mv_cell hx1 9 _ hu1) (frozen_of_row _ g3 9 _ _ hx1)) ⟨b2, ?_⟩
  refine reAct (a' := ((((((a.put (some 327) (.pointer (some ⟨g1, 12, none⟩))).put (some 328) (.int .i64 n0)).put (some 329) (.pointer (some ⟨g1, 9, none⟩))).put (some 330) (.int .i64 n1)).put (some 331) (.pointer (some ⟨g3, 12, none⟩))).put (some 332) (.pointer (some ⟨g3, 9, none⟩)))) (l' := #[true, true, true, true, true, true, true, true]) (by kernel_rfl) (by kernel_rfl) ?_
  exact wpAnyH_done (by kernel_rfl) (NoPanic.normal (h _ b2 hx2)) _
end Go.Proofs.Ytmcmiojidgdjpaa
