/- The page's Msg: the tests of the kinds and the copies of one field, over any frame. -/
import Derived.Test.YtokgbolmjfmfpaaE3
namespace Go.Proofs.Ytokgbolmjfmfpaa
open Go.RowKit

def r11_0 (p : String) : Oper := { dst := some 66, op := Op.fieldAddr 24 (Operand.tmp 1) 6, type := 0, pos := p, after := #[], guard := none }
def r11_1 (p : String) : Oper := { dst := some 67, op := Op.load 3 (Operand.tmp 66), type := 3, pos := p, after := #[{ on := 0, ground := Ground.data }], guard := none }
def r11_2 (p : String) : Oper := { dst := some 68, op := Op.call { callee := Callee.value (Operand.func 18), args := #[Operand.tmp 67, Operand.const (Value.int IntKind.i64 0), Operand.const (Value.int IntKind.i64 1073741824)], argTypes := #[3, 3, 3] }, type := 4, pos := p, after := #[{ on := 1, ground := Ground.data }], guard := none }
def r11_3 (p : String) : Oper := { dst := some 4, op := Op.assign (Operand.tmp 68), type := 4, pos := p, after := #[{ on := 2, ground := Ground.data }, { on := 2, ground := Ground.chain }, { on := 0, ground := Ground.phase }, { on := 1, ground := Ground.phase }, { on := 2, ground := Ground.phase }], guard := none }
def r11 (p : String) : Array Oper := #[r11_0 p, r11_1 p, r11_2 p, r11_3 p]
set_option maxRecDepth 100000 in
set_option maxHeartbeats 1000000 in
theorem reg11 {Q : Exit → Act → World → Prop} (id : Nat) (p : String) (a : Act) (w : World) (g1 g3 : Nat) (cs : Array Value) (ep : Int) (o : Bool) (kd : Int) (x0 : Bool)
    (f : Fr a g1 g3 o kd) (hg1 : w.heap[g1]? = some (.cells cs 24)) (y6 : cs[6]? = some (.int .i64 ep)) (c0 : ∀ w, Calls Try.prog 18 #[.int .i64 ep, .int .i64 0, .int .i64 1073741824] w fun e w' => e = .returned (.bool x0) ∧ w' = w)
    (h : ∀ a', Fr a' g1 g3 (x0) kd → Q .normal a' w) :
    (Code.region id (r11 p) false).wp Try.prog Q a w := by
  have hsz := f.fa.sz
  have hdf := f.fa.df
  have e1 := f.fa.e1
  have e3 := f.fa.e3
  have e4 := f.e4
  have ek := f.ek
  refine wlStart (l := [r11_0 p, r11_1 p, r11_2 p, r11_3 p]) rfl ?_
  refine wlVal rfl rfl (.pointer (some ⟨g1, 6, none⟩)) (run_field 6 (by omega) w _ _ rfl _ g1 (by simp [e1])) ?_
  refine wlVal rfl rfl (.int .i64 ep) (run_load3 w _ _ rfl _ ⟨g1, 6, none⟩ (by simp [ev_eq, hsz]) _ (mv_cell hg1 6 _ y6)) ?_
  refine wlC rfl rfl 18 #[(.int .i64 ep), (.int .i64 0), (.int .i64 1073741824)] (.bool x0) (run_call3 18 call18 _ _ _ _ _ _ _ _ rfl _ _ _ _ (by simp [ev_eq, sz_put, hsz]) (by simp [ev_const]) (by simp [ev_const])) (c0 _) ?_
  refine wlVal rfl rfl (.bool x0) (run_assign w _ _ rfl _ _ (by simp [ev_eq, sz_put, hsz])) ?_
  exact wlDone <| h _ ⟨⟨by simp [sz_put, hsz], by simp [def_put, hdf], by simp [ev_ne, e1], by simp [ev_ne, e3]⟩, by simp [ev_eq, sz_put, hsz], by simp [ev_ne, ek]⟩
def r17_0 (p : String) : Oper := { dst := some 126, op := Op.fieldAddr 24 (Operand.tmp 1) 10, type := 0, pos := p, after := #[], guard := none }
def r17_1 (p : String) : Oper := { dst := some 127, op := Op.load 3 (Operand.tmp 126), type := 3, pos := p, after := #[{ on := 0, ground := Ground.data }], guard := none }
def r17_2 (p : String) : Oper := { dst := some 128, op := Op.call { callee := Callee.value (Operand.func 19), args := #[Operand.tmp 127], argTypes := #[3] }, type := 4, pos := p, after := #[{ on := 1, ground := Ground.data }], guard := none }
def r17_3 (p : String) : Oper := { dst := some 129, op := Op.move (Operand.tmp 128), type := 4, pos := p, after := #[{ on := 2, ground := Ground.data }, { on := 2, ground := Ground.chain }], guard := none }
def r17_4 (p : String) : Oper := { dst := some 130, op := Op.fieldAddr 24 (Operand.tmp 1) 10, type := 0, pos := p, after := #[{ on := 3, ground := Ground.guard }], guard := some (3, true) }
def r17_5 (p : String) : Oper := { dst := some 131, op := Op.load 3 (Operand.tmp 130), type := 3, pos := p, after := #[{ on := 4, ground := Ground.data }, { on := 3, ground := Ground.guard }], guard := some (3, true) }
def r17_6 (p : String) : Oper := { dst := some 132, op := Op.fieldAddr 24 (Operand.tmp 1) 1, type := 0, pos := p, after := #[{ on := 3, ground := Ground.guard }], guard := some (3, true) }
def r17_7 (p : String) : Oper := { dst := some 133, op := Op.load 3 (Operand.tmp 132), type := 3, pos := p, after := #[{ on := 6, ground := Ground.data }, { on := 3, ground := Ground.guard }], guard := some (3, true) }
def r17_8 (p : String) : Oper := { dst := some 134, op := Op.binOp BinOp.neq 3 (Operand.tmp 131) (Operand.tmp 133) 3, type := 4, pos := p, after := #[{ on := 5, ground := Ground.data }, { on := 7, ground := Ground.data }, { on := 3, ground := Ground.guard }], guard := some (3, true) }
def r17_9 (p : String) : Oper := { dst := some 135, op := Op.pick (Operand.tmp 129) (Operand.tmp 134) (Operand.const (Value.bool false)), type := 4, pos := p, after := #[{ on := 3, ground := Ground.data }, { on := 8, ground := Ground.data }], guard := none }
def r17_10 (p : String) : Oper := { dst := some 136, op := Op.move (Operand.tmp 135), type := 4, pos := p, after := #[{ on := 9, ground := Ground.data }, { on := 3, ground := Ground.chain }], guard := none }
def r17_11 (p : String) : Oper := { dst := some 137, op := Op.fieldAddr 24 (Operand.tmp 1) 10, type := 0, pos := p, after := #[{ on := 10, ground := Ground.guard }], guard := some (10, true) }
def r17_12 (p : String) : Oper := { dst := some 138, op := Op.load 3 (Operand.tmp 137), type := 3, pos := p, after := #[{ on := 11, ground := Ground.data }, { on := 10, ground := Ground.guard }], guard := some (10, true) }
def r17_13 (p : String) : Oper := { dst := some 139, op := Op.fieldAddr 24 (Operand.tmp 1) 3, type := 0, pos := p, after := #[{ on := 10, ground := Ground.guard }], guard := some (10, true) }
def r17_14 (p : String) : Oper := { dst := some 140, op := Op.load 3 (Operand.tmp 139), type := 3, pos := p, after := #[{ on := 13, ground := Ground.data }, { on := 10, ground := Ground.guard }], guard := some (10, true) }
def r17_15 (p : String) : Oper := { dst := some 141, op := Op.binOp BinOp.neq 3 (Operand.tmp 138) (Operand.tmp 140) 3, type := 4, pos := p, after := #[{ on := 12, ground := Ground.data }, { on := 14, ground := Ground.data }, { on := 10, ground := Ground.guard }], guard := some (10, true) }
def r17_16 (p : String) : Oper := { dst := some 142, op := Op.pick (Operand.tmp 136) (Operand.tmp 141) (Operand.const (Value.bool false)), type := 4, pos := p, after := #[{ on := 10, ground := Ground.data }, { on := 15, ground := Ground.data }], guard := none }
def r17_17 (p : String) : Oper := { dst := some 4, op := Op.assign (Operand.tmp 142), type := 4, pos := p, after := #[{ on := 16, ground := Ground.data }, { on := 10, ground := Ground.chain }, { on := 0, ground := Ground.phase }, { on := 1, ground := Ground.phase }, { on := 2, ground := Ground.phase }, { on := 3, ground := Ground.phase }, { on := 4, ground := Ground.phase }, { on := 5, ground := Ground.phase }, { on := 6, ground := Ground.phase }, { on := 7, ground := Ground.phase }, { on := 8, ground := Ground.phase }, { on := 9, ground := Ground.phase }, { on := 10, ground := Ground.phase }, { on := 11, ground := Ground.phase }, { on := 12, ground := Ground.phase }, { on := 13, ground := Ground.phase }, { on := 14, ground := Ground.phase }, { on := 15, ground := Ground.phase }, { on := 16, ground := Ground.phase }], guard := none }
def r17 (p : String) : Array Oper := #[r17_0 p, r17_1 p, r17_2 p, r17_3 p, r17_4 p, r17_5 p, r17_6 p, r17_7 p, r17_8 p, r17_9 p, r17_10 p, r17_11 p, r17_12 p, r17_13 p, r17_14 p, r17_15 p, r17_16 p, r17_17 p]
set_option maxRecDepth 100000 in
set_option maxHeartbeats 1000000 in
theorem reg17 {Q : Exit → Act → World → Prop} (id : Nat) (p : String) (a : Act) (w : World) (g1 g3 : Nat) (cs : Array Value) (fr no tw : Int) (o : Bool) (kd : Int) (x0 : Bool)
    (f : Fr a g1 g3 o kd) (hg1 : w.heap[g1]? = some (.cells cs 24)) (y10 : cs[10]? = some (.int .i64 no)) (y1 : cs[1]? = some (.int .i64 fr)) (y3 : cs[3]? = some (.int .i64 tw)) (c0 : ∀ w, Calls Try.prog 19 #[.int .i64 no] w fun e w' => e = .returned (.bool x0) ∧ w' = w)
    (h : ∀ a', Fr a' g1 g3 (x0 && (no != fr) && (no != tw)) kd → Q .normal a' w) :
    (Code.region id (r17 p) false).wp Try.prog Q a w := by
  have hsz := f.fa.sz
  have hdf := f.fa.df
  have e1 := f.fa.e1
  have e3 := f.fa.e3
  have e4 := f.e4
  have ek := f.ek
  refine wlStart (l := [r17_0 p, r17_1 p, r17_2 p, r17_3 p, r17_4 p, r17_5 p, r17_6 p, r17_7 p, r17_8 p, r17_9 p, r17_10 p, r17_11 p, r17_12 p, r17_13 p, r17_14 p, r17_15 p, r17_16 p, r17_17 p]) rfl ?_
  refine wlVal rfl rfl (.pointer (some ⟨g1, 10, none⟩)) (run_field 10 (by omega) w _ _ rfl _ g1 (by simp [e1])) ?_
  refine wlVal rfl rfl (.int .i64 no) (run_load3 w _ _ rfl _ ⟨g1, 10, none⟩ (by simp [ev_eq, hsz]) _ (mv_cell hg1 10 _ y10)) ?_
  refine wlC rfl rfl 19 #[(.int .i64 no)] (.bool x0) (run_call1 19 call19 _ _ _ _ rfl _ _ (by simp [ev_eq, sz_put, hsz])) (c0 _) ?_
  cases x0 with
  | false =>
    refine wlVal rfl rfl (.bool false) (run_move w _ _ rfl _ _ (by simp [ev_eq, sz_put, hsz])) ?_
    refine wlN 3 129 true false rfl rfl rfl rfl (by simp [ev_eq, sz_put, hsz]) (by decide) ?_
    refine wlN 3 129 true false rfl rfl rfl rfl (by simp [ev_ne, ev_eq, sz_put, hsz]) (by decide) ?_
    refine wlN 3 129 true false rfl rfl rfl rfl (by simp [ev_ne, ev_eq, sz_put, hsz]) (by decide) ?_
    refine wlN 3 129 true false rfl rfl rfl rfl (by simp [ev_ne, ev_eq, sz_put, hsz]) (by decide) ?_
    refine wlN 3 129 true false rfl rfl rfl rfl (by simp [ev_ne, ev_eq, sz_put, hsz]) (by decide) ?_
    refine wlVal rfl rfl (.bool false) (run_pick w _ _ _ _ rfl _ false _ (by simp [ev_ne, ev_eq, sz_put, hsz]) (by simp [ev_const])) ?_
    refine wlVal rfl rfl (.bool false) (run_move w _ _ rfl _ _ (by simp [ev_eq, sz_put, hsz])) ?_
    refine wlN 10 136 true false rfl rfl rfl rfl (by simp [ev_eq, sz_put, hsz]) (by decide) ?_
    refine wlN 10 136 true false rfl rfl rfl rfl (by simp [ev_ne, ev_eq, sz_put, hsz]) (by decide) ?_
    refine wlN 10 136 true false rfl rfl rfl rfl (by simp [ev_ne, ev_eq, sz_put, hsz]) (by decide) ?_
    refine wlN 10 136 true false rfl rfl rfl rfl (by simp [ev_ne, ev_eq, sz_put, hsz]) (by decide) ?_
    refine wlN 10 136 true false rfl rfl rfl rfl (by simp [ev_ne, ev_eq, sz_put, hsz]) (by decide) ?_
    refine wlVal rfl rfl (.bool false) (run_pick w _ _ _ _ rfl _ false _ (by simp [ev_ne, ev_eq, sz_put, hsz]) (by simp [ev_const])) ?_
    refine wlVal rfl rfl (.bool false) (run_assign w _ _ rfl _ _ (by simp [ev_eq, sz_put, hsz])) ?_
    exact wlDone <| h _ ⟨⟨by simp [sz_put, hsz], by simp [def_put, hdf], by simp [ev_ne, e1], by simp [ev_ne, e3]⟩, by simp [ev_eq, sz_put, hsz], by simp [ev_ne, ek]⟩
  | true =>
    refine wlVal rfl rfl (.bool true) (run_move w _ _ rfl _ _ (by simp [ev_eq, sz_put, hsz])) ?_
    refine wlG 3 129 true rfl rfl rfl rfl (by simp [ev_eq, sz_put, hsz]) (.pointer (some ⟨g1, 10, none⟩)) (run_field 10 (by omega) w _ _ rfl _ g1 (by simp [ev_ne, e1])) ?_
    refine wlG 3 129 true rfl rfl rfl rfl (by simp [ev_ne, ev_eq, sz_put, hsz]) (.int .i64 no) (run_load3 w _ _ rfl _ ⟨g1, 10, none⟩ (by simp [ev_eq, sz_put, hsz]) _ (mv_cell hg1 10 _ y10)) ?_
    refine wlG 3 129 true rfl rfl rfl rfl (by simp [ev_ne, ev_eq, sz_put, hsz]) (.pointer (some ⟨g1, 1, none⟩)) (run_field 1 (by omega) w _ _ rfl _ g1 (by simp [ev_ne, e1])) ?_
    refine wlG 3 129 true rfl rfl rfl rfl (by simp [ev_ne, ev_eq, sz_put, hsz]) (.int .i64 fr) (run_load3 w _ _ rfl _ ⟨g1, 1, none⟩ (by simp [ev_eq, sz_put, hsz]) _ (mv_cell hg1 1 _ y1)) ?_
    refine wlG 3 129 true rfl rfl rfl rfl (by simp [ev_ne, ev_eq, sz_put, hsz]) (.bool (no != fr)) (run_neq3 w _ _ _ rfl _ no fr (by simp [ev_ne, ev_eq, sz_put, hsz]) (by simp [ev_eq, sz_put, hsz])) ?_
    generalize he : (no != fr) = z at *
    cases z with
    | false =>
      refine wlVal rfl rfl (.bool false) (run_pick w _ _ _ _ rfl _ true _ (by simp [ev_ne, ev_eq, sz_put, hsz]) (by simp [ev_eq, sz_put, hsz])) ?_
      refine wlVal rfl rfl (.bool false) (run_move w _ _ rfl _ _ (by simp [ev_eq, sz_put, hsz])) ?_
      refine wlN 10 136 true false rfl rfl rfl rfl (by simp [ev_eq, sz_put, hsz]) (by decide) ?_
      refine wlN 10 136 true false rfl rfl rfl rfl (by simp [ev_ne, ev_eq, sz_put, hsz]) (by decide) ?_
      refine wlN 10 136 true false rfl rfl rfl rfl (by simp [ev_ne, ev_eq, sz_put, hsz]) (by decide) ?_
      refine wlN 10 136 true false rfl rfl rfl rfl (by simp [ev_ne, ev_eq, sz_put, hsz]) (by decide) ?_
      refine wlN 10 136 true false rfl rfl rfl rfl (by simp [ev_ne, ev_eq, sz_put, hsz]) (by decide) ?_
      refine wlVal rfl rfl (.bool false) (run_pick w _ _ _ _ rfl _ false _ (by simp [ev_ne, ev_eq, sz_put, hsz]) (by simp [ev_const])) ?_
      refine wlVal rfl rfl (.bool false) (run_assign w _ _ rfl _ _ (by simp [ev_eq, sz_put, hsz])) ?_
      exact wlDone <| h _ ⟨⟨by simp [sz_put, hsz], by simp [def_put, hdf], by simp [ev_ne, e1], by simp [ev_ne, e3]⟩, by simp [ev_eq, sz_put, hsz], by simp [ev_ne, ek]⟩
    | true =>
      refine wlVal rfl rfl (.bool true) (run_pick w _ _ _ _ rfl _ true _ (by simp [ev_ne, ev_eq, sz_put, hsz]) (by simp [ev_eq, sz_put, hsz])) ?_
      refine wlVal rfl rfl (.bool true) (run_move w _ _ rfl _ _ (by simp [ev_eq, sz_put, hsz])) ?_
      refine wlG 10 136 true rfl rfl rfl rfl (by simp [ev_eq, sz_put, hsz]) (.pointer (some ⟨g1, 10, none⟩)) (run_field 10 (by omega) w _ _ rfl _ g1 (by simp [ev_ne, e1])) ?_
      refine wlG 10 136 true rfl rfl rfl rfl (by simp [ev_ne, ev_eq, sz_put, hsz]) (.int .i64 no) (run_load3 w _ _ rfl _ ⟨g1, 10, none⟩ (by simp [ev_eq, sz_put, hsz]) _ (mv_cell hg1 10 _ y10)) ?_
      refine wlG 10 136 true rfl rfl rfl rfl (by simp [ev_ne, ev_eq, sz_put, hsz]) (.pointer (some ⟨g1, 3, none⟩)) (run_field 3 (by omega) w _ _ rfl _ g1 (by simp [ev_ne, e1])) ?_
      refine wlG 10 136 true rfl rfl rfl rfl (by simp [ev_ne, ev_eq, sz_put, hsz]) (.int .i64 tw) (run_load3 w _ _ rfl _ ⟨g1, 3, none⟩ (by simp [ev_eq, sz_put, hsz]) _ (mv_cell hg1 3 _ y3)) ?_
      refine wlG 10 136 true rfl rfl rfl rfl (by simp [ev_ne, ev_eq, sz_put, hsz]) (.bool (no != tw)) (run_neq3 w _ _ _ rfl _ no tw (by simp [ev_ne, ev_eq, sz_put, hsz]) (by simp [ev_eq, sz_put, hsz])) ?_
      refine wlVal rfl rfl (.bool (no != tw)) (run_pick w _ _ _ _ rfl _ true _ (by simp [ev_ne, ev_eq, sz_put, hsz]) (by simp [ev_eq, sz_put, hsz])) ?_
      refine wlVal rfl rfl (.bool (no != tw)) (run_assign w _ _ rfl _ _ (by simp [ev_eq, sz_put, hsz])) ?_
      exact wlDone <| h _ ⟨⟨by simp [sz_put, hsz], by simp [def_put, hdf], by simp [ev_ne, e1], by simp [ev_ne, e3]⟩, by simp [ev_eq, sz_put, hsz], by simp [ev_ne, ek]⟩
def r20_0 (p : String) : Oper := { dst := some 148, op := Op.fieldAddr 24 (Operand.tmp 1) 6, type := 0, pos := p, after := #[], guard := none }
def r20_1 (p : String) : Oper := { dst := some 149, op := Op.load 3 (Operand.tmp 148), type := 3, pos := p, after := #[{ on := 0, ground := Ground.data }], guard := none }
def r20_2 (p : String) : Oper := { dst := some 150, op := Op.call { callee := Callee.value (Operand.func 18), args := #[Operand.tmp 149, Operand.const (Value.int IntKind.i64 1), Operand.const (Value.int IntKind.i64 1073741824)], argTypes := #[3, 3, 3] }, type := 4, pos := p, after := #[{ on := 1, ground := Ground.data }], guard := none }
def r20_3 (p : String) : Oper := { dst := some 151, op := Op.move (Operand.tmp 150), type := 4, pos := p, after := #[{ on := 2, ground := Ground.data }, { on := 2, ground := Ground.chain }], guard := none }
def r20_4 (p : String) : Oper := { dst := some 152, op := Op.fieldAddr 24 (Operand.tmp 1) 7, type := 0, pos := p, after := #[{ on := 3, ground := Ground.guard }], guard := some (3, true) }
def r20_5 (p : String) : Oper := { dst := some 153, op := Op.load 3 (Operand.tmp 152), type := 3, pos := p, after := #[{ on := 4, ground := Ground.data }, { on := 3, ground := Ground.guard }], guard := some (3, true) }
def r20_6 (p : String) : Oper := { dst := some 154, op := Op.call { callee := Callee.value (Operand.func 20), args := #[Operand.tmp 153], argTypes := #[3] }, type := 4, pos := p, after := #[{ on := 5, ground := Ground.data }, { on := 3, ground := Ground.chain }, { on := 3, ground := Ground.guard }], guard := some (3, true) }
def r20_7 (p : String) : Oper := { dst := some 155, op := Op.pick (Operand.tmp 151) (Operand.tmp 154) (Operand.const (Value.bool false)), type := 4, pos := p, after := #[{ on := 3, ground := Ground.data }, { on := 6, ground := Ground.data }], guard := none }
def r20_8 (p : String) : Oper := { dst := some 156, op := Op.move (Operand.tmp 155), type := 4, pos := p, after := #[{ on := 7, ground := Ground.data }, { on := 6, ground := Ground.chain }], guard := none }
def r20_9 (p : String) : Oper := { dst := some 157, op := Op.fieldAddr 24 (Operand.tmp 1) 9, type := 0, pos := p, after := #[{ on := 8, ground := Ground.guard }], guard := some (8, true) }
def r20_10 (p : String) : Oper := { dst := some 158, op := Op.load 3 (Operand.tmp 157), type := 3, pos := p, after := #[{ on := 9, ground := Ground.data }, { on := 8, ground := Ground.guard }], guard := some (8, true) }
def r20_11 (p : String) : Oper := { dst := some 159, op := Op.call { callee := Callee.value (Operand.func 23), args := #[Operand.tmp 158], argTypes := #[3] }, type := 4, pos := p, after := #[{ on := 10, ground := Ground.data }, { on := 8, ground := Ground.chain }, { on := 8, ground := Ground.guard }], guard := some (8, true) }
def r20_12 (p : String) : Oper := { dst := some 160, op := Op.pick (Operand.tmp 156) (Operand.tmp 159) (Operand.const (Value.bool false)), type := 4, pos := p, after := #[{ on := 8, ground := Ground.data }, { on := 11, ground := Ground.data }], guard := none }
def r20_13 (p : String) : Oper := { dst := some 4, op := Op.assign (Operand.tmp 160), type := 4, pos := p, after := #[{ on := 12, ground := Ground.data }, { on := 11, ground := Ground.chain }, { on := 0, ground := Ground.phase }, { on := 1, ground := Ground.phase }, { on := 2, ground := Ground.phase }, { on := 3, ground := Ground.phase }, { on := 4, ground := Ground.phase }, { on := 5, ground := Ground.phase }, { on := 6, ground := Ground.phase }, { on := 7, ground := Ground.phase }, { on := 8, ground := Ground.phase }, { on := 9, ground := Ground.phase }, { on := 10, ground := Ground.phase }, { on := 11, ground := Ground.phase }, { on := 12, ground := Ground.phase }], guard := none }
def r20 (p : String) : Array Oper := #[r20_0 p, r20_1 p, r20_2 p, r20_3 p, r20_4 p, r20_5 p, r20_6 p, r20_7 p, r20_8 p, r20_9 p, r20_10 p, r20_11 p, r20_12 p, r20_13 p]
set_option maxRecDepth 100000 in
set_option maxHeartbeats 1000000 in
theorem reg20 {Q : Exit → Act → World → Prop} (id : Nat) (p : String) (a : Act) (w : World) (g1 g3 : Nat) (cs : Array Value) (ep sq va : Int) (o : Bool) (kd : Int) (x0 x1 x2 : Bool)
    (f : Fr a g1 g3 o kd) (hg1 : w.heap[g1]? = some (.cells cs 24)) (y6 : cs[6]? = some (.int .i64 ep)) (y7 : cs[7]? = some (.int .i64 sq)) (y9 : cs[9]? = some (.int .i64 va)) (c0 : ∀ w, Calls Try.prog 18 #[.int .i64 ep, .int .i64 1, .int .i64 1073741824] w fun e w' => e = .returned (.bool x0) ∧ w' = w) (c1 : ∀ w, Calls Try.prog 20 #[.int .i64 sq] w fun e w' => e = .returned (.bool x1) ∧ w' = w) (c2 : ∀ w, Calls Try.prog 23 #[.int .i64 va] w fun e w' => e = .returned (.bool x2) ∧ w' = w)
    (h : ∀ a', Fr a' g1 g3 (x0 && x1 && x2) kd → Q .normal a' w) :
    (Code.region id (r20 p) false).wp Try.prog Q a w := by
  have hsz := f.fa.sz
  have hdf := f.fa.df
  have e1 := f.fa.e1
  have e3 := f.fa.e3
  have e4 := f.e4
  have ek := f.ek
  refine wlStart (l := [r20_0 p, r20_1 p, r20_2 p, r20_3 p, r20_4 p, r20_5 p, r20_6 p, r20_7 p, r20_8 p, r20_9 p, r20_10 p, r20_11 p, r20_12 p, r20_13 p]) rfl ?_
  refine wlVal rfl rfl (.pointer (some ⟨g1, 6, none⟩)) (run_field 6 (by omega) w _ _ rfl _ g1 (by simp [e1])) ?_
  refine wlVal rfl rfl (.int .i64 ep) (run_load3 w _ _ rfl _ ⟨g1, 6, none⟩ (by simp [ev_eq, hsz]) _ (mv_cell hg1 6 _ y6)) ?_
  refine wlC rfl rfl 18 #[(.int .i64 ep), (.int .i64 1), (.int .i64 1073741824)] (.bool x0) (run_call3 18 call18 _ _ _ _ _ _ _ _ rfl _ _ _ _ (by simp [ev_eq, sz_put, hsz]) (by simp [ev_const]) (by simp [ev_const])) (c0 _) ?_
  cases x0 with
  | false =>
    refine wlVal rfl rfl (.bool false) (run_move w _ _ rfl _ _ (by simp [ev_eq, sz_put, hsz])) ?_
    refine wlN 3 151 true false rfl rfl rfl rfl (by simp [ev_eq, sz_put, hsz]) (by decide) ?_
    refine wlN 3 151 true false rfl rfl rfl rfl (by simp [ev_ne, ev_eq, sz_put, hsz]) (by decide) ?_
    refine wlN 3 151 true false rfl rfl rfl rfl (by simp [ev_ne, ev_eq, sz_put, hsz]) (by decide) ?_
    refine wlVal rfl rfl (.bool false) (run_pick w _ _ _ _ rfl _ false _ (by simp [ev_ne, ev_eq, sz_put, hsz]) (by simp [ev_const])) ?_
    refine wlVal rfl rfl (.bool false) (run_move w _ _ rfl _ _ (by simp [ev_eq, sz_put, hsz])) ?_
    refine wlN 8 156 true false rfl rfl rfl rfl (by simp [ev_eq, sz_put, hsz]) (by decide) ?_
    refine wlN 8 156 true false rfl rfl rfl rfl (by simp [ev_ne, ev_eq, sz_put, hsz]) (by decide) ?_
    refine wlN 8 156 true false rfl rfl rfl rfl (by simp [ev_ne, ev_eq, sz_put, hsz]) (by decide) ?_
    refine wlVal rfl rfl (.bool false) (run_pick w _ _ _ _ rfl _ false _ (by simp [ev_ne, ev_eq, sz_put, hsz]) (by simp [ev_const])) ?_
    refine wlVal rfl rfl (.bool false) (run_assign w _ _ rfl _ _ (by simp [ev_eq, sz_put, hsz])) ?_
    exact wlDone <| h _ ⟨⟨by simp [sz_put, hsz], by simp [def_put, hdf], by simp [ev_ne, e1], by simp [ev_ne, e3]⟩, by simp [ev_eq, sz_put, hsz], by simp [ev_ne, ek]⟩
  | true =>
    refine wlVal rfl rfl (.bool true) (run_move w _ _ rfl _ _ (by simp [ev_eq, sz_put, hsz])) ?_
    refine wlG 3 151 true rfl rfl rfl rfl (by simp [ev_eq, sz_put, hsz]) (.pointer (some ⟨g1, 7, none⟩)) (run_field 7 (by omega) w _ _ rfl _ g1 (by simp [ev_ne, e1])) ?_
    refine wlG 3 151 true rfl rfl rfl rfl (by simp [ev_ne, ev_eq, sz_put, hsz]) (.int .i64 sq) (run_load3 w _ _ rfl _ ⟨g1, 7, none⟩ (by simp [ev_eq, sz_put, hsz]) _ (mv_cell hg1 7 _ y7)) ?_
    refine wlCG 3 151 true rfl rfl rfl rfl (by simp [ev_ne, ev_eq, sz_put, hsz]) 20 #[(.int .i64 sq)] (.bool x1) (run_call1 20 call20 _ _ _ _ rfl _ _ (by simp [ev_eq, sz_put, hsz])) (c1 _) ?_
    cases x1 with
    | false =>
      refine wlVal rfl rfl (.bool false) (run_pick w _ _ _ _ rfl _ true _ (by simp [ev_ne, ev_eq, sz_put, hsz]) (by simp [ev_eq, sz_put, hsz])) ?_
      refine wlVal rfl rfl (.bool false) (run_move w _ _ rfl _ _ (by simp [ev_eq, sz_put, hsz])) ?_
      refine wlN 8 156 true false rfl rfl rfl rfl (by simp [ev_eq, sz_put, hsz]) (by decide) ?_
      refine wlN 8 156 true false rfl rfl rfl rfl (by simp [ev_ne, ev_eq, sz_put, hsz]) (by decide) ?_
      refine wlN 8 156 true false rfl rfl rfl rfl (by simp [ev_ne, ev_eq, sz_put, hsz]) (by decide) ?_
      refine wlVal rfl rfl (.bool false) (run_pick w _ _ _ _ rfl _ false _ (by simp [ev_ne, ev_eq, sz_put, hsz]) (by simp [ev_const])) ?_
      refine wlVal rfl rfl (.bool false) (run_assign w _ _ rfl _ _ (by simp [ev_eq, sz_put, hsz])) ?_
      exact wlDone <| h _ ⟨⟨by simp [sz_put, hsz], by simp [def_put, hdf], by simp [ev_ne, e1], by simp [ev_ne, e3]⟩, by simp [ev_eq, sz_put, hsz], by simp [ev_ne, ek]⟩
    | true =>
      refine wlVal rfl rfl (.bool true) (run_pick w _ _ _ _ rfl _ true _ (by simp [ev_ne, ev_eq, sz_put, hsz]) (by simp [ev_eq, sz_put, hsz])) ?_
      refine wlVal rfl rfl (.bool true) (run_move w _ _ rfl _ _ (by simp [ev_eq, sz_put, hsz])) ?_
      refine wlG 8 156 true rfl rfl rfl rfl (by simp [ev_eq, sz_put, hsz]) (.pointer (some ⟨g1, 9, none⟩)) (run_field 9 (by omega) w _ _ rfl _ g1 (by simp [ev_ne, e1])) ?_
      refine wlG 8 156 true rfl rfl rfl rfl (by simp [ev_ne, ev_eq, sz_put, hsz]) (.int .i64 va) (run_load3 w _ _ rfl _ ⟨g1, 9, none⟩ (by simp [ev_eq, sz_put, hsz]) _ (mv_cell hg1 9 _ y9)) ?_
      refine wlCG 8 156 true rfl rfl rfl rfl (by simp [ev_ne, ev_eq, sz_put, hsz]) 23 #[(.int .i64 va)] (.bool x2) (run_call1 23 call23 _ _ _ _ rfl _ _ (by simp [ev_eq, sz_put, hsz])) (c2 _) ?_
      refine wlVal rfl rfl (.bool x2) (run_pick w _ _ _ _ rfl _ true _ (by simp [ev_ne, ev_eq, sz_put, hsz]) (by simp [ev_eq, sz_put, hsz])) ?_
      refine wlVal rfl rfl (.bool x2) (run_assign w _ _ rfl _ _ (by simp [ev_eq, sz_put, hsz])) ?_
      exact wlDone <| h _ ⟨⟨by simp [sz_put, hsz], by simp [def_put, hdf], by simp [ev_ne, e1], by simp [ev_ne, e3]⟩, by simp [ev_eq, sz_put, hsz], by simp [ev_ne, ek]⟩
def r23_0 (p : String) : Oper := { dst := some 172, op := Op.fieldAddr 24 (Operand.tmp 1) 6, type := 0, pos := p, after := #[], guard := none }
def r23_1 (p : String) : Oper := { dst := some 173, op := Op.load 3 (Operand.tmp 172), type := 3, pos := p, after := #[{ on := 0, ground := Ground.data }], guard := none }
def r23_2 (p : String) : Oper := { dst := some 174, op := Op.call { callee := Callee.value (Operand.func 18), args := #[Operand.tmp 173, Operand.const (Value.int IntKind.i64 1), Operand.const (Value.int IntKind.i64 1073741824)], argTypes := #[3, 3, 3] }, type := 4, pos := p, after := #[{ on := 1, ground := Ground.data }], guard := none }
def r23_3 (p : String) : Oper := { dst := some 175, op := Op.move (Operand.tmp 174), type := 4, pos := p, after := #[{ on := 2, ground := Ground.data }, { on := 2, ground := Ground.chain }], guard := none }
def r23_4 (p : String) : Oper := { dst := some 176, op := Op.fieldAddr 24 (Operand.tmp 1) 7, type := 0, pos := p, after := #[{ on := 3, ground := Ground.guard }], guard := some (3, true) }
def r23_5 (p : String) : Oper := { dst := some 177, op := Op.load 3 (Operand.tmp 176), type := 3, pos := p, after := #[{ on := 4, ground := Ground.data }, { on := 3, ground := Ground.guard }], guard := some (3, true) }
def r23_6 (p : String) : Oper := { dst := some 178, op := Op.call { callee := Callee.value (Operand.func 20), args := #[Operand.tmp 177], argTypes := #[3] }, type := 4, pos := p, after := #[{ on := 5, ground := Ground.data }, { on := 3, ground := Ground.chain }, { on := 3, ground := Ground.guard }], guard := some (3, true) }
def r23_7 (p : String) : Oper := { dst := some 179, op := Op.pick (Operand.tmp 175) (Operand.tmp 178) (Operand.const (Value.bool false)), type := 4, pos := p, after := #[{ on := 3, ground := Ground.data }, { on := 6, ground := Ground.data }], guard := none }
def r23_8 (p : String) : Oper := { dst := some 4, op := Op.assign (Operand.tmp 179), type := 4, pos := p, after := #[{ on := 7, ground := Ground.data }, { on := 6, ground := Ground.chain }, { on := 0, ground := Ground.phase }, { on := 1, ground := Ground.phase }, { on := 2, ground := Ground.phase }, { on := 3, ground := Ground.phase }, { on := 4, ground := Ground.phase }, { on := 5, ground := Ground.phase }, { on := 6, ground := Ground.phase }, { on := 7, ground := Ground.phase }], guard := none }
def r23 (p : String) : Array Oper := #[r23_0 p, r23_1 p, r23_2 p, r23_3 p, r23_4 p, r23_5 p, r23_6 p, r23_7 p, r23_8 p]
set_option maxRecDepth 100000 in
set_option maxHeartbeats 1000000 in
theorem reg23 {Q : Exit → Act → World → Prop} (id : Nat) (p : String) (a : Act) (w : World) (g1 g3 : Nat) (cs : Array Value) (ep sq : Int) (o : Bool) (kd : Int) (x0 x1 : Bool)
    (f : Fr a g1 g3 o kd) (hg1 : w.heap[g1]? = some (.cells cs 24)) (y6 : cs[6]? = some (.int .i64 ep)) (y7 : cs[7]? = some (.int .i64 sq)) (c0 : ∀ w, Calls Try.prog 18 #[.int .i64 ep, .int .i64 1, .int .i64 1073741824] w fun e w' => e = .returned (.bool x0) ∧ w' = w) (c1 : ∀ w, Calls Try.prog 20 #[.int .i64 sq] w fun e w' => e = .returned (.bool x1) ∧ w' = w)
    (h : ∀ a', Fr a' g1 g3 (x0 && x1) kd → Q .normal a' w) :
    (Code.region id (r23 p) false).wp Try.prog Q a w := by
  have hsz := f.fa.sz
  have hdf := f.fa.df
  have e1 := f.fa.e1
  have e3 := f.fa.e3
  have e4 := f.e4
  have ek := f.ek
  refine wlStart (l := [r23_0 p, r23_1 p, r23_2 p, r23_3 p, r23_4 p, r23_5 p, r23_6 p, r23_7 p, r23_8 p]) rfl ?_
  refine wlVal rfl rfl (.pointer (some ⟨g1, 6, none⟩)) (run_field 6 (by omega) w _ _ rfl _ g1 (by simp [e1])) ?_
  refine wlVal rfl rfl (.int .i64 ep) (run_load3 w _ _ rfl _ ⟨g1, 6, none⟩ (by simp [ev_eq, hsz]) _ (mv_cell hg1 6 _ y6)) ?_
  refine wlC rfl rfl 18 #[(.int .i64 ep), (.int .i64 1), (.int .i64 1073741824)] (.bool x0) (run_call3 18 call18 _ _ _ _ _ _ _ _ rfl _ _ _ _ (by simp [ev_eq, sz_put, hsz]) (by simp [ev_const]) (by simp [ev_const])) (c0 _) ?_
  cases x0 with
  | false =>
    refine wlVal rfl rfl (.bool false) (run_move w _ _ rfl _ _ (by simp [ev_eq, sz_put, hsz])) ?_
    refine wlN 3 175 true false rfl rfl rfl rfl (by simp [ev_eq, sz_put, hsz]) (by decide) ?_
    refine wlN 3 175 true false rfl rfl rfl rfl (by simp [ev_ne, ev_eq, sz_put, hsz]) (by decide) ?_
    refine wlN 3 175 true false rfl rfl rfl rfl (by simp [ev_ne, ev_eq, sz_put, hsz]) (by decide) ?_
    refine wlVal rfl rfl (.bool false) (run_pick w _ _ _ _ rfl _ false _ (by simp [ev_ne, ev_eq, sz_put, hsz]) (by simp [ev_const])) ?_
    refine wlVal rfl rfl (.bool false) (run_assign w _ _ rfl _ _ (by simp [ev_eq, sz_put, hsz])) ?_
    exact wlDone <| h _ ⟨⟨by simp [sz_put, hsz], by simp [def_put, hdf], by simp [ev_ne, e1], by simp [ev_ne, e3]⟩, by simp [ev_eq, sz_put, hsz], by simp [ev_ne, ek]⟩
  | true =>
    refine wlVal rfl rfl (.bool true) (run_move w _ _ rfl _ _ (by simp [ev_eq, sz_put, hsz])) ?_
    refine wlG 3 175 true rfl rfl rfl rfl (by simp [ev_eq, sz_put, hsz]) (.pointer (some ⟨g1, 7, none⟩)) (run_field 7 (by omega) w _ _ rfl _ g1 (by simp [ev_ne, e1])) ?_
    refine wlG 3 175 true rfl rfl rfl rfl (by simp [ev_ne, ev_eq, sz_put, hsz]) (.int .i64 sq) (run_load3 w _ _ rfl _ ⟨g1, 7, none⟩ (by simp [ev_eq, sz_put, hsz]) _ (mv_cell hg1 7 _ y7)) ?_
    refine wlCG 3 175 true rfl rfl rfl rfl (by simp [ev_ne, ev_eq, sz_put, hsz]) 20 #[(.int .i64 sq)] (.bool x1) (run_call1 20 call20 _ _ _ _ rfl _ _ (by simp [ev_eq, sz_put, hsz])) (c1 _) ?_
    refine wlVal rfl rfl (.bool x1) (run_pick w _ _ _ _ rfl _ true _ (by simp [ev_ne, ev_eq, sz_put, hsz]) (by simp [ev_eq, sz_put, hsz])) ?_
    refine wlVal rfl rfl (.bool x1) (run_assign w _ _ rfl _ _ (by simp [ev_eq, sz_put, hsz])) ?_
    exact wlDone <| h _ ⟨⟨by simp [sz_put, hsz], by simp [def_put, hdf], by simp [ev_ne, e1], by simp [ev_ne, e3]⟩, by simp [ev_eq, sz_put, hsz], by simp [ev_ne, ek]⟩
def r26_0 (p : String) : Oper := { dst := some 188, op := Op.fieldAddr 24 (Operand.tmp 1) 6, type := 0, pos := p, after := #[], guard := none }
def r26_1 (p : String) : Oper := { dst := some 189, op := Op.load 3 (Operand.tmp 188), type := 3, pos := p, after := #[{ on := 0, ground := Ground.data }], guard := none }
def r26_2 (p : String) : Oper := { dst := some 190, op := Op.call { callee := Callee.value (Operand.func 18), args := #[Operand.tmp 189, Operand.const (Value.int IntKind.i64 1), Operand.const (Value.int IntKind.i64 1073741824)], argTypes := #[3, 3, 3] }, type := 4, pos := p, after := #[{ on := 1, ground := Ground.data }], guard := none }
def r26_3 (p : String) : Oper := { dst := some 191, op := Op.move (Operand.tmp 190), type := 4, pos := p, after := #[{ on := 2, ground := Ground.data }, { on := 2, ground := Ground.chain }], guard := none }
def r26_4 (p : String) : Oper := { dst := some 192, op := Op.fieldAddr 24 (Operand.tmp 1) 7, type := 0, pos := p, after := #[{ on := 3, ground := Ground.guard }], guard := some (3, true) }
def r26_5 (p : String) : Oper := { dst := some 193, op := Op.load 3 (Operand.tmp 192), type := 3, pos := p, after := #[{ on := 4, ground := Ground.data }, { on := 3, ground := Ground.guard }], guard := some (3, true) }
def r26_6 (p : String) : Oper := { dst := some 194, op := Op.call { callee := Callee.value (Operand.func 20), args := #[Operand.tmp 193], argTypes := #[3] }, type := 4, pos := p, after := #[{ on := 5, ground := Ground.data }, { on := 3, ground := Ground.chain }, { on := 3, ground := Ground.guard }], guard := some (3, true) }
def r26_7 (p : String) : Oper := { dst := some 195, op := Op.pick (Operand.tmp 191) (Operand.tmp 194) (Operand.const (Value.bool false)), type := 4, pos := p, after := #[{ on := 3, ground := Ground.data }, { on := 6, ground := Ground.data }], guard := none }
def r26_8 (p : String) : Oper := { dst := some 196, op := Op.move (Operand.tmp 195), type := 4, pos := p, after := #[{ on := 7, ground := Ground.data }, { on := 6, ground := Ground.chain }], guard := none }
def r26_9 (p : String) : Oper := { dst := some 197, op := Op.fieldAddr 24 (Operand.tmp 1) 8, type := 0, pos := p, after := #[{ on := 8, ground := Ground.guard }], guard := some (8, true) }
def r26_10 (p : String) : Oper := { dst := some 198, op := Op.load 3 (Operand.tmp 197), type := 3, pos := p, after := #[{ on := 9, ground := Ground.data }, { on := 8, ground := Ground.guard }], guard := some (8, true) }
def r26_11 (p : String) : Oper := { dst := some 199, op := Op.fieldAddr 24 (Operand.tmp 1) 7, type := 0, pos := p, after := #[{ on := 8, ground := Ground.guard }], guard := some (8, true) }
def r26_12 (p : String) : Oper := { dst := some 200, op := Op.load 3 (Operand.tmp 199), type := 3, pos := p, after := #[{ on := 11, ground := Ground.data }, { on := 8, ground := Ground.guard }], guard := some (8, true) }
def r26_13 (p : String) : Oper := { dst := some 201, op := Op.call { callee := Callee.value (Operand.func 18), args := #[Operand.tmp 198, Operand.tmp 200, Operand.const (Value.int IntKind.i64 1073741824)], argTypes := #[3, 3, 3] }, type := 4, pos := p, after := #[{ on := 10, ground := Ground.data }, { on := 12, ground := Ground.data }, { on := 8, ground := Ground.chain }, { on := 8, ground := Ground.guard }], guard := some (8, true) }
def r26_14 (p : String) : Oper := { dst := some 202, op := Op.pick (Operand.tmp 196) (Operand.tmp 201) (Operand.const (Value.bool false)), type := 4, pos := p, after := #[{ on := 8, ground := Ground.data }, { on := 13, ground := Ground.data }], guard := none }
def r26_15 (p : String) : Oper := { dst := some 4, op := Op.assign (Operand.tmp 202), type := 4, pos := p, after := #[{ on := 14, ground := Ground.data }, { on := 13, ground := Ground.chain }, { on := 0, ground := Ground.phase }, { on := 1, ground := Ground.phase }, { on := 2, ground := Ground.phase }, { on := 3, ground := Ground.phase }, { on := 4, ground := Ground.phase }, { on := 5, ground := Ground.phase }, { on := 6, ground := Ground.phase }, { on := 7, ground := Ground.phase }, { on := 8, ground := Ground.phase }, { on := 9, ground := Ground.phase }, { on := 10, ground := Ground.phase }, { on := 11, ground := Ground.phase }, { on := 12, ground := Ground.phase }, { on := 13, ground := Ground.phase }, { on := 14, ground := Ground.phase }], guard := none }
def r26 (p : String) : Array Oper := #[r26_0 p, r26_1 p, r26_2 p, r26_3 p, r26_4 p, r26_5 p, r26_6 p, r26_7 p, r26_8 p, r26_9 p, r26_10 p, r26_11 p, r26_12 p, r26_13 p, r26_14 p, r26_15 p]
set_option maxRecDepth 100000 in
set_option maxHeartbeats 1000000 in
theorem reg26 {Q : Exit → Act → World → Prop} (id : Nat) (p : String) (a : Act) (w : World) (g1 g3 : Nat) (cs : Array Value) (ep la sq : Int) (o : Bool) (kd : Int) (x0 x1 x2 : Bool)
    (f : Fr a g1 g3 o kd) (hg1 : w.heap[g1]? = some (.cells cs 24)) (y6 : cs[6]? = some (.int .i64 ep)) (y7 : cs[7]? = some (.int .i64 sq)) (y8 : cs[8]? = some (.int .i64 la)) (c0 : ∀ w, Calls Try.prog 18 #[.int .i64 ep, .int .i64 1, .int .i64 1073741824] w fun e w' => e = .returned (.bool x0) ∧ w' = w) (c1 : ∀ w, Calls Try.prog 20 #[.int .i64 sq] w fun e w' => e = .returned (.bool x1) ∧ w' = w) (c2 : ∀ w, Calls Try.prog 18 #[.int .i64 la, .int .i64 sq, .int .i64 1073741824] w fun e w' => e = .returned (.bool x2) ∧ w' = w)
    (h : ∀ a', Fr a' g1 g3 (x0 && x1 && x2) kd → Q .normal a' w) :
    (Code.region id (r26 p) false).wp Try.prog Q a w := by
  have hsz := f.fa.sz
  have hdf := f.fa.df
  have e1 := f.fa.e1
  have e3 := f.fa.e3
  have e4 := f.e4
  have ek := f.ek
  refine wlStart (l := [r26_0 p, r26_1 p, r26_2 p, r26_3 p, r26_4 p, r26_5 p, r26_6 p, r26_7 p, r26_8 p, r26_9 p, r26_10 p, r26_11 p, r26_12 p, r26_13 p, r26_14 p, r26_15 p]) rfl ?_
  refine wlVal rfl rfl (.pointer (some ⟨g1, 6, none⟩)) (run_field 6 (by omega) w _ _ rfl _ g1 (by simp [e1])) ?_
  refine wlVal rfl rfl (.int .i64 ep) (run_load3 w _ _ rfl _ ⟨g1, 6, none⟩ (by simp [ev_eq, hsz]) _ (mv_cell hg1 6 _ y6)) ?_
  refine wlC rfl rfl 18 #[(.int .i64 ep), (.int .i64 1), (.int .i64 1073741824)] (.bool x0) (run_call3 18 call18 _ _ _ _ _ _ _ _ rfl _ _ _ _ (by simp [ev_eq, sz_put, hsz]) (by simp [ev_const]) (by simp [ev_const])) (c0 _) ?_
  cases x0 with
  | false =>
    refine wlVal rfl rfl (.bool false) (run_move w _ _ rfl _ _ (by simp [ev_eq, sz_put, hsz])) ?_
    refine wlN 3 191 true false rfl rfl rfl rfl (by simp [ev_eq, sz_put, hsz]) (by decide) ?_
    refine wlN 3 191 true false rfl rfl rfl rfl (by simp [ev_ne, ev_eq, sz_put, hsz]) (by decide) ?_
    refine wlN 3 191 true false rfl rfl rfl rfl (by simp [ev_ne, ev_eq, sz_put, hsz]) (by decide) ?_
    refine wlVal rfl rfl (.bool false) (run_pick w _ _ _ _ rfl _ false _ (by simp [ev_ne, ev_eq, sz_put, hsz]) (by simp [ev_const])) ?_
    refine wlVal rfl rfl (.bool false) (run_move w _ _ rfl _ _ (by simp [ev_eq, sz_put, hsz])) ?_
    refine wlN 8 196 true false rfl rfl rfl rfl (by simp [ev_eq, sz_put, hsz]) (by decide) ?_
    refine wlN 8 196 true false rfl rfl rfl rfl (by simp [ev_ne, ev_eq, sz_put, hsz]) (by decide) ?_
    refine wlN 8 196 true false rfl rfl rfl rfl (by simp [ev_ne, ev_eq, sz_put, hsz]) (by decide) ?_
    refine wlN 8 196 true false rfl rfl rfl rfl (by simp [ev_ne, ev_eq, sz_put, hsz]) (by decide) ?_
    refine wlN 8 196 true false rfl rfl rfl rfl (by simp [ev_ne, ev_eq, sz_put, hsz]) (by decide) ?_
    refine wlVal rfl rfl (.bool false) (run_pick w _ _ _ _ rfl _ false _ (by simp [ev_ne, ev_eq, sz_put, hsz]) (by simp [ev_const])) ?_
    refine wlVal rfl rfl (.bool false) (run_assign w _ _ rfl _ _ (by simp [ev_eq, sz_put, hsz])) ?_
    exact wlDone <| h _ ⟨⟨by simp [sz_put, hsz], by simp [def_put, hdf], by simp [ev_ne, e1], by simp [ev_ne, e3]⟩, by simp [ev_eq, sz_put, hsz], by simp [ev_ne, ek]⟩
  | true =>
    refine wlVal rfl rfl (.bool true) (run_move w _ _ rfl _ _ (by simp [ev_eq, sz_put, hsz])) ?_
    refine wlG 3 191 true rfl rfl rfl rfl (by simp [ev_eq, sz_put, hsz]) (.pointer (some ⟨g1, 7, none⟩)) (run_field 7 (by omega) w _ _ rfl _ g1 (by simp [ev_ne, e1])) ?_
    refine wlG 3 191 true rfl rfl rfl rfl (by simp [ev_ne, ev_eq, sz_put, hsz]) (.int .i64 sq) (run_load3 w _ _ rfl _ ⟨g1, 7, none⟩ (by simp [ev_eq, sz_put, hsz]) _ (mv_cell hg1 7 _ y7)) ?_
    refine wlCG 3 191 true rfl rfl rfl rfl (by simp [ev_ne, ev_eq, sz_put, hsz]) 20 #[(.int .i64 sq)] (.bool x1) (run_call1 20 call20 _ _ _ _ rfl _ _ (by simp [ev_eq, sz_put, hsz])) (c1 _) ?_
    cases x1 with
    | false =>
      refine wlVal rfl rfl (.bool false) (run_pick w _ _ _ _ rfl _ true _ (by simp [ev_ne, ev_eq, sz_put, hsz]) (by simp [ev_eq, sz_put, hsz])) ?_
      refine wlVal rfl rfl (.bool false) (run_move w _ _ rfl _ _ (by simp [ev_eq, sz_put, hsz])) ?_
      refine wlN 8 196 true false rfl rfl rfl rfl (by simp [ev_eq, sz_put, hsz]) (by decide) ?_
      refine wlN 8 196 true false rfl rfl rfl rfl (by simp [ev_ne, ev_eq, sz_put, hsz]) (by decide) ?_
      refine wlN 8 196 true false rfl rfl rfl rfl (by simp [ev_ne, ev_eq, sz_put, hsz]) (by decide) ?_
      refine wlN 8 196 true false rfl rfl rfl rfl (by simp [ev_ne, ev_eq, sz_put, hsz]) (by decide) ?_
      refine wlN 8 196 true false rfl rfl rfl rfl (by simp [ev_ne, ev_eq, sz_put, hsz]) (by decide) ?_
      refine wlVal rfl rfl (.bool false) (run_pick w _ _ _ _ rfl _ false _ (by simp [ev_ne, ev_eq, sz_put, hsz]) (by simp [ev_const])) ?_
      refine wlVal rfl rfl (.bool false) (run_assign w _ _ rfl _ _ (by simp [ev_eq, sz_put, hsz])) ?_
      exact wlDone <| h _ ⟨⟨by simp [sz_put, hsz], by simp [def_put, hdf], by simp [ev_ne, e1], by simp [ev_ne, e3]⟩, by simp [ev_eq, sz_put, hsz], by simp [ev_ne, ek]⟩
    | true =>
      refine wlVal rfl rfl (.bool true) (run_pick w _ _ _ _ rfl _ true _ (by simp [ev_ne, ev_eq, sz_put, hsz]) (by simp [ev_eq, sz_put, hsz])) ?_
      refine wlVal rfl rfl (.bool true) (run_move w _ _ rfl _ _ (by simp [ev_eq, sz_put, hsz])) ?_
      refine wlG 8 196 true rfl rfl rfl rfl (by simp [ev_eq, sz_put, hsz]) (.pointer (some ⟨g1, 8, none⟩)) (run_field 8 (by omega) w _ _ rfl _ g1 (by simp [ev_ne, e1])) ?_
      refine wlG 8 196 true rfl rfl rfl rfl (by simp [ev_ne, ev_eq, sz_put, hsz]) (.int .i64 la) (run_load3 w _ _ rfl _ ⟨g1, 8, none⟩ (by simp [ev_eq, sz_put, hsz]) _ (mv_cell hg1 8 _ y8)) ?_
      refine wlG 8 196 true rfl rfl rfl rfl (by simp [ev_ne, ev_eq, sz_put, hsz]) (.pointer (some ⟨g1, 7, none⟩)) (run_field 7 (by omega) w _ _ rfl _ g1 (by simp [ev_ne, e1])) ?_
      refine wlG 8 196 true rfl rfl rfl rfl (by simp [ev_ne, ev_eq, sz_put, hsz]) (.int .i64 sq) (run_load3 w _ _ rfl _ ⟨g1, 7, none⟩ (by simp [ev_eq, sz_put, hsz]) _ (mv_cell hg1 7 _ y7)) ?_
      refine wlCG 8 196 true rfl rfl rfl rfl (by simp [ev_ne, ev_eq, sz_put, hsz]) 18 #[(.int .i64 la), (.int .i64 sq), (.int .i64 1073741824)] (.bool x2) (run_call3 18 call18 _ _ _ _ _ _ _ _ rfl _ _ _ _ (by simp [ev_ne, ev_eq, sz_put, hsz]) (by simp [ev_eq, sz_put, hsz]) (by simp [ev_const])) (c2 _) ?_
      refine wlVal rfl rfl (.bool x2) (run_pick w _ _ _ _ rfl _ true _ (by simp [ev_ne, ev_eq, sz_put, hsz]) (by simp [ev_eq, sz_put, hsz])) ?_
      refine wlVal rfl rfl (.bool x2) (run_assign w _ _ rfl _ _ (by simp [ev_eq, sz_put, hsz])) ?_
      exact wlDone <| h _ ⟨⟨by simp [sz_put, hsz], by simp [def_put, hdf], by simp [ev_ne, e1], by simp [ev_ne, e3]⟩, by simp [ev_eq, sz_put, hsz], by simp [ev_ne, ek]⟩
def r29_0 (p : String) : Oper := { dst := some 214, op := Op.fieldAddr 24 (Operand.tmp 1) 10, type := 0, pos := p, after := #[], guard := none }
def r29_1 (p : String) : Oper := { dst := some 215, op := Op.load 3 (Operand.tmp 214), type := 3, pos := p, after := #[{ on := 0, ground := Ground.data }], guard := none }
def r29_2 (p : String) : Oper := { dst := some 216, op := Op.call { callee := Callee.value (Operand.func 19), args := #[Operand.tmp 215], argTypes := #[3] }, type := 4, pos := p, after := #[{ on := 1, ground := Ground.data }], guard := none }
def r29_3 (p : String) : Oper := { dst := some 217, op := Op.move (Operand.tmp 216), type := 4, pos := p, after := #[{ on := 2, ground := Ground.data }, { on := 2, ground := Ground.chain }], guard := none }
def r29_4 (p : String) : Oper := { dst := some 218, op := Op.fieldAddr 24 (Operand.tmp 1) 11, type := 0, pos := p, after := #[{ on := 3, ground := Ground.guard }], guard := some (3, true) }
def r29_5 (p : String) : Oper := { dst := some 219, op := Op.load 3 (Operand.tmp 218), type := 3, pos := p, after := #[{ on := 4, ground := Ground.data }, { on := 3, ground := Ground.guard }], guard := some (3, true) }
def r29_6 (p : String) : Oper := { dst := some 220, op := Op.call { callee := Callee.value (Operand.func 20), args := #[Operand.tmp 219], argTypes := #[3] }, type := 4, pos := p, after := #[{ on := 5, ground := Ground.data }, { on := 3, ground := Ground.chain }, { on := 3, ground := Ground.guard }], guard := some (3, true) }
def r29_7 (p : String) : Oper := { dst := some 221, op := Op.pick (Operand.tmp 217) (Operand.tmp 220) (Operand.const (Value.bool false)), type := 4, pos := p, after := #[{ on := 3, ground := Ground.data }, { on := 6, ground := Ground.data }], guard := none }
def r29_8 (p : String) : Oper := { dst := some 222, op := Op.move (Operand.tmp 221), type := 4, pos := p, after := #[{ on := 7, ground := Ground.data }, { on := 6, ground := Ground.chain }], guard := none }
def r29_9 (p : String) : Oper := { dst := some 223, op := Op.fieldAddr 24 (Operand.tmp 1) 12, type := 0, pos := p, after := #[{ on := 8, ground := Ground.guard }], guard := some (8, true) }
def r29_10 (p : String) : Oper := { dst := some 224, op := Op.load 3 (Operand.tmp 223), type := 3, pos := p, after := #[{ on := 9, ground := Ground.data }, { on := 8, ground := Ground.guard }], guard := some (8, true) }
def r29_11 (p : String) : Oper := { dst := some 225, op := Op.call { callee := Callee.value (Operand.func 20), args := #[Operand.tmp 224], argTypes := #[3] }, type := 4, pos := p, after := #[{ on := 10, ground := Ground.data }, { on := 8, ground := Ground.chain }, { on := 8, ground := Ground.guard }], guard := some (8, true) }
def r29_12 (p : String) : Oper := { dst := some 226, op := Op.pick (Operand.tmp 222) (Operand.tmp 225) (Operand.const (Value.bool false)), type := 4, pos := p, after := #[{ on := 8, ground := Ground.data }, { on := 11, ground := Ground.data }], guard := none }
def r29_13 (p : String) : Oper := { dst := some 227, op := Op.move (Operand.tmp 226), type := 4, pos := p, after := #[{ on := 12, ground := Ground.data }, { on := 11, ground := Ground.chain }], guard := none }
def r29_14 (p : String) : Oper := { dst := some 228, op := Op.fieldAddr 24 (Operand.tmp 1) 9, type := 0, pos := p, after := #[{ on := 13, ground := Ground.guard }], guard := some (13, true) }
def r29_15 (p : String) : Oper := { dst := some 229, op := Op.load 3 (Operand.tmp 228), type := 3, pos := p, after := #[{ on := 14, ground := Ground.data }, { on := 13, ground := Ground.guard }], guard := some (13, true) }
def r29_16 (p : String) : Oper := { dst := some 230, op := Op.call { callee := Callee.value (Operand.func 23), args := #[Operand.tmp 229], argTypes := #[3] }, type := 4, pos := p, after := #[{ on := 15, ground := Ground.data }, { on := 13, ground := Ground.chain }, { on := 13, ground := Ground.guard }], guard := some (13, true) }
def r29_17 (p : String) : Oper := { dst := some 231, op := Op.pick (Operand.tmp 227) (Operand.tmp 230) (Operand.const (Value.bool false)), type := 4, pos := p, after := #[{ on := 13, ground := Ground.data }, { on := 16, ground := Ground.data }], guard := none }
def r29_18 (p : String) : Oper := { dst := some 232, op := Op.move (Operand.tmp 231), type := 4, pos := p, after := #[{ on := 17, ground := Ground.data }, { on := 16, ground := Ground.chain }], guard := none }
def r29_19 (p : String) : Oper := { dst := some 233, op := Op.fieldAddr 24 (Operand.tmp 1) 13, type := 0, pos := p, after := #[{ on := 18, ground := Ground.guard }], guard := some (18, true) }
def r29_20 (p : String) : Oper := { dst := some 234, op := Op.load 3 (Operand.tmp 233), type := 3, pos := p, after := #[{ on := 19, ground := Ground.data }, { on := 18, ground := Ground.guard }], guard := some (18, true) }
def r29_21 (p : String) : Oper := { dst := some 235, op := Op.call { callee := Callee.value (Operand.func 18), args := #[Operand.tmp 234, Operand.const (Value.int IntKind.i64 0), Operand.const (Value.int IntKind.i64 16)], argTypes := #[3, 3, 3] }, type := 4, pos := p, after := #[{ on := 20, ground := Ground.data }, { on := 18, ground := Ground.chain }, { on := 18, ground := Ground.guard }], guard := some (18, true) }
def r29_22 (p : String) : Oper := { dst := some 236, op := Op.pick (Operand.tmp 232) (Operand.tmp 235) (Operand.const (Value.bool false)), type := 4, pos := p, after := #[{ on := 18, ground := Ground.data }, { on := 21, ground := Ground.data }], guard := none }
def r29_23 (p : String) : Oper := { dst := some 4, op := Op.assign (Operand.tmp 236), type := 4, pos := p, after := #[{ on := 22, ground := Ground.data }, { on := 21, ground := Ground.chain }, { on := 0, ground := Ground.phase }, { on := 1, ground := Ground.phase }, { on := 2, ground := Ground.phase }, { on := 3, ground := Ground.phase }, { on := 4, ground := Ground.phase }, { on := 5, ground := Ground.phase }, { on := 6, ground := Ground.phase }, { on := 7, ground := Ground.phase }, { on := 8, ground := Ground.phase }, { on := 9, ground := Ground.phase }, { on := 10, ground := Ground.phase }, { on := 11, ground := Ground.phase }, { on := 12, ground := Ground.phase }, { on := 13, ground := Ground.phase }, { on := 14, ground := Ground.phase }, { on := 15, ground := Ground.phase }, { on := 16, ground := Ground.phase }, { on := 17, ground := Ground.phase }, { on := 18, ground := Ground.phase }, { on := 19, ground := Ground.phase }, { on := 20, ground := Ground.phase }, { on := 21, ground := Ground.phase }, { on := 22, ground := Ground.phase }], guard := none }
def r29 (p : String) : Array Oper := #[r29_0 p, r29_1 p, r29_2 p, r29_3 p, r29_4 p, r29_5 p, r29_6 p, r29_7 p, r29_8 p, r29_9 p, r29_10 p, r29_11 p, r29_12 p, r29_13 p, r29_14 p, r29_15 p, r29_16 p, r29_17 p, r29_18 p, r29_19 p, r29_20 p, r29_21 p, r29_22 p, r29_23 p]
set_option maxRecDepth 100000 in
set_option maxHeartbeats 1000000 in
theorem reg29 {Q : Exit → Act → World → Prop} (id : Nat) (p : String) (a : Act) (w : World) (g1 g3 : Nat) (cs : Array Value) (cn ho ic no va : Int) (o : Bool) (kd : Int) (x0 x1 x2 x3 x4 : Bool)
    (f : Fr a g1 g3 o kd) (hg1 : w.heap[g1]? = some (.cells cs 24)) (y9 : cs[9]? = some (.int .i64 va)) (y10 : cs[10]? = some (.int .i64 no)) (y11 : cs[11]? = some (.int .i64 ic)) (y12 : cs[12]? = some (.int .i64 cn)) (y13 : cs[13]? = some (.int .i64 ho)) (c0 : ∀ w, Calls Try.prog 19 #[.int .i64 no] w fun e w' => e = .returned (.bool x0) ∧ w' = w) (c1 : ∀ w, Calls Try.prog 20 #[.int .i64 ic] w fun e w' => e = .returned (.bool x1) ∧ w' = w) (c2 : ∀ w, Calls Try.prog 20 #[.int .i64 cn] w fun e w' => e = .returned (.bool x2) ∧ w' = w) (c3 : ∀ w, Calls Try.prog 23 #[.int .i64 va] w fun e w' => e = .returned (.bool x3) ∧ w' = w) (c4 : ∀ w, Calls Try.prog 18 #[.int .i64 ho, .int .i64 0, .int .i64 16] w fun e w' => e = .returned (.bool x4) ∧ w' = w)
    (h : ∀ a', Fr a' g1 g3 (x0 && x1 && x2 && x3 && x4) kd → Q .normal a' w) :
    (Code.region id (r29 p) false).wp Try.prog Q a w := by
  have hsz := f.fa.sz
  have hdf := f.fa.df
  have e1 := f.fa.e1
  have e3 := f.fa.e3
  have e4 := f.e4
  have ek := f.ek
  refine wlStart (l := [r29_0 p, r29_1 p, r29_2 p, r29_3 p, r29_4 p, r29_5 p, r29_6 p, r29_7 p, r29_8 p, r29_9 p, r29_10 p, r29_11 p, r29_12 p, r29_13 p, r29_14 p, r29_15 p, r29_16 p, r29_17 p, r29_18 p, r29_19 p, r29_20 p, r29_21 p, r29_22 p, r29_23 p]) rfl ?_
  refine wlVal rfl rfl (.pointer (some ⟨g1, 10, none⟩)) (run_field 10 (by omega) w _ _ rfl _ g1 (by simp [e1])) ?_
  refine wlVal rfl rfl (.int .i64 no) (run_load3 w _ _ rfl _ ⟨g1, 10, none⟩ (by simp [ev_eq, hsz]) _ (mv_cell hg1 10 _ y10)) ?_
  refine wlC rfl rfl 19 #[(.int .i64 no)] (.bool x0) (run_call1 19 call19 _ _ _ _ rfl _ _ (by simp [ev_eq, sz_put, hsz])) (c0 _) ?_
  cases x0 with
  | false =>
    refine wlVal rfl rfl (.bool false) (run_move w _ _ rfl _ _ (by simp [ev_eq, sz_put, hsz])) ?_
    refine wlN 3 217 true false rfl rfl rfl rfl (by simp [ev_eq, sz_put, hsz]) (by decide) ?_
    refine wlN 3 217 true false rfl rfl rfl rfl (by simp [ev_ne, ev_eq, sz_put, hsz]) (by decide) ?_
    refine wlN 3 217 true false rfl rfl rfl rfl (by simp [ev_ne, ev_eq, sz_put, hsz]) (by decide) ?_
    refine wlVal rfl rfl (.bool false) (run_pick w _ _ _ _ rfl _ false _ (by simp [ev_ne, ev_eq, sz_put, hsz]) (by simp [ev_const])) ?_
    refine wlVal rfl rfl (.bool false) (run_move w _ _ rfl _ _ (by simp [ev_eq, sz_put, hsz])) ?_
    refine wlN 8 222 true false rfl rfl rfl rfl (by simp [ev_eq, sz_put, hsz]) (by decide) ?_
    refine wlN 8 222 true false rfl rfl rfl rfl (by simp [ev_ne, ev_eq, sz_put, hsz]) (by decide) ?_
    refine wlN 8 222 true false rfl rfl rfl rfl (by simp [ev_ne, ev_eq, sz_put, hsz]) (by decide) ?_
    refine wlVal rfl rfl (.bool false) (run_pick w _ _ _ _ rfl _ false _ (by simp [ev_ne, ev_eq, sz_put, hsz]) (by simp [ev_const])) ?_
    refine wlVal rfl rfl (.bool false) (run_move w _ _ rfl _ _ (by simp [ev_eq, sz_put, hsz])) ?_
    refine wlN 13 227 true false rfl rfl rfl rfl (by simp [ev_eq, sz_put, hsz]) (by decide) ?_
    refine wlN 13 227 true false rfl rfl rfl rfl (by simp [ev_ne, ev_eq, sz_put, hsz]) (by decide) ?_
    refine wlN 13 227 true false rfl rfl rfl rfl (by simp [ev_ne, ev_eq, sz_put, hsz]) (by decide) ?_
    refine wlVal rfl rfl (.bool false) (run_pick w _ _ _ _ rfl _ false _ (by simp [ev_ne, ev_eq, sz_put, hsz]) (by simp [ev_const])) ?_
    refine wlVal rfl rfl (.bool false) (run_move w _ _ rfl _ _ (by simp [ev_eq, sz_put, hsz])) ?_
    refine wlN 18 232 true false rfl rfl rfl rfl (by simp [ev_eq, sz_put, hsz]) (by decide) ?_
    refine wlN 18 232 true false rfl rfl rfl rfl (by simp [ev_ne, ev_eq, sz_put, hsz]) (by decide) ?_
    refine wlN 18 232 true false rfl rfl rfl rfl (by simp [ev_ne, ev_eq, sz_put, hsz]) (by decide) ?_
    refine wlVal rfl rfl (.bool false) (run_pick w _ _ _ _ rfl _ false _ (by simp [ev_ne, ev_eq, sz_put, hsz]) (by simp [ev_const])) ?_
    refine wlVal rfl rfl (.bool false) (run_assign w _ _ rfl _ _ (by simp [ev_eq, sz_put, hsz])) ?_
    exact wlDone <| h _ ⟨⟨by simp [sz_put, hsz], by simp [def_put, hdf], by simp [ev_ne, e1], by simp [ev_ne, e3]⟩, by simp [ev_eq, sz_put, hsz], by simp [ev_ne, ek]⟩
  | true =>
    refine wlVal rfl rfl (.bool true) (run_move w _ _ rfl _ _ (by simp [ev_eq, sz_put, hsz])) ?_
    refine wlG 3 217 true rfl rfl rfl rfl (by simp [ev_eq, sz_put, hsz]) (.pointer (some ⟨g1, 11, none⟩)) (run_field 11 (by omega) w _ _ rfl _ g1 (by simp [ev_ne, e1])) ?_
    refine wlG 3 217 true rfl rfl rfl rfl (by simp [ev_ne, ev_eq, sz_put, hsz]) (.int .i64 ic) (run_load3 w _ _ rfl _ ⟨g1, 11, none⟩ (by simp [ev_eq, sz_put, hsz]) _ (mv_cell hg1 11 _ y11)) ?_
    refine wlCG 3 217 true rfl rfl rfl rfl (by simp [ev_ne, ev_eq, sz_put, hsz]) 20 #[(.int .i64 ic)] (.bool x1) (run_call1 20 call20 _ _ _ _ rfl _ _ (by simp [ev_eq, sz_put, hsz])) (c1 _) ?_
    cases x1 with
    | false =>
      refine wlVal rfl rfl (.bool false) (run_pick w _ _ _ _ rfl _ true _ (by simp [ev_ne, ev_eq, sz_put, hsz]) (by simp [ev_eq, sz_put, hsz])) ?_
      refine wlVal rfl rfl (.bool false) (run_move w _ _ rfl _ _ (by simp [ev_eq, sz_put, hsz])) ?_
      refine wlN 8 222 true false rfl rfl rfl rfl (by simp [ev_eq, sz_put, hsz]) (by decide) ?_
      refine wlN 8 222 true false rfl rfl rfl rfl (by simp [ev_ne, ev_eq, sz_put, hsz]) (by decide) ?_
      refine wlN 8 222 true false rfl rfl rfl rfl (by simp [ev_ne, ev_eq, sz_put, hsz]) (by decide) ?_
      refine wlVal rfl rfl (.bool false) (run_pick w _ _ _ _ rfl _ false _ (by simp [ev_ne, ev_eq, sz_put, hsz]) (by simp [ev_const])) ?_
      refine wlVal rfl rfl (.bool false) (run_move w _ _ rfl _ _ (by simp [ev_eq, sz_put, hsz])) ?_
      refine wlN 13 227 true false rfl rfl rfl rfl (by simp [ev_eq, sz_put, hsz]) (by decide) ?_
      refine wlN 13 227 true false rfl rfl rfl rfl (by simp [ev_ne, ev_eq, sz_put, hsz]) (by decide) ?_
      refine wlN 13 227 true false rfl rfl rfl rfl (by simp [ev_ne, ev_eq, sz_put, hsz]) (by decide) ?_
      refine wlVal rfl rfl (.bool false) (run_pick w _ _ _ _ rfl _ false _ (by simp [ev_ne, ev_eq, sz_put, hsz]) (by simp [ev_const])) ?_
      refine wlVal rfl rfl (.bool false) (run_move w _ _ rfl _ _ (by simp [ev_eq, sz_put, hsz])) ?_
      refine wlN 18 232 true false rfl rfl rfl rfl (by simp [ev_eq, sz_put, hsz]) (by decide) ?_
      refine wlN 18 232 true false rfl rfl rfl rfl (by simp [ev_ne, ev_eq, sz_put, hsz]) (by decide) ?_
      refine wlN 18 232 true false rfl rfl rfl rfl (by simp [ev_ne, ev_eq, sz_put, hsz]) (by decide) ?_
      refine wlVal rfl rfl (.bool false) (run_pick w _ _ _ _ rfl _ false _ (by simp [ev_ne, ev_eq, sz_put, hsz]) (by simp [ev_const])) ?_
      refine wlVal rfl rfl (.bool false) (run_assign w _ _ rfl _ _ (by simp [ev_eq, sz_put, hsz])) ?_
      exact wlDone <| h _ ⟨⟨by simp [sz_put, hsz], by simp [def_put, hdf], by simp [ev_ne, e1], by simp [ev_ne, e3]⟩, by simp [ev_eq, sz_put, hsz], by simp [ev_ne, ek]⟩
    | true =>
      refine wlVal rfl rfl (.bool true) (run_pick w _ _ _ _ rfl _ true _ (by simp [ev_ne, ev_eq, sz_put, hsz]) (by simp [ev_eq, sz_put, hsz])) ?_
      refine wlVal rfl rfl (.bool true) (run_move w _ _ rfl _ _ (by simp [ev_eq, sz_put, hsz])) ?_
      refine wlG 8 222 true rfl rfl rfl rfl (by simp [ev_eq, sz_put, hsz]) (.pointer (some ⟨g1, 12, none⟩)) (run_field 12 (by omega) w _ _ rfl _ g1 (by simp [ev_ne, e1])) ?_
      refine wlG 8 222 true rfl rfl rfl rfl (by simp [ev_ne, ev_eq, sz_put, hsz]) (.int .i64 cn) (run_load3 w _ _ rfl _ ⟨g1, 12, none⟩ (by simp [ev_eq, sz_put, hsz]) _ (mv_cell hg1 12 _ y12)) ?_
      refine wlCG 8 222 true rfl rfl rfl rfl (by simp [ev_ne, ev_eq, sz_put, hsz]) 20 #[(.int .i64 cn)] (.bool x2) (run_call1 20 call20 _ _ _ _ rfl _ _ (by simp [ev_eq, sz_put, hsz])) (c2 _) ?_
      cases x2 with
      | false =>
        refine wlVal rfl rfl (.bool false) (run_pick w _ _ _ _ rfl _ true _ (by simp [ev_ne, ev_eq, sz_put, hsz]) (by simp [ev_eq, sz_put, hsz])) ?_
        refine wlVal rfl rfl (.bool false) (run_move w _ _ rfl _ _ (by simp [ev_eq, sz_put, hsz])) ?_
        refine wlN 13 227 true false rfl rfl rfl rfl (by simp [ev_eq, sz_put, hsz]) (by decide) ?_
        refine wlN 13 227 true false rfl rfl rfl rfl (by simp [ev_ne, ev_eq, sz_put, hsz]) (by decide) ?_
        refine wlN 13 227 true false rfl rfl rfl rfl (by simp [ev_ne, ev_eq, sz_put, hsz]) (by decide) ?_
        refine wlVal rfl rfl (.bool false) (run_pick w _ _ _ _ rfl _ false _ (by simp [ev_ne, ev_eq, sz_put, hsz]) (by simp [ev_const])) ?_
        refine wlVal rfl rfl (.bool false) (run_move w _ _ rfl _ _ (by simp [ev_eq, sz_put, hsz])) ?_
        refine wlN 18 232 true false rfl rfl rfl rfl (by simp [ev_eq, sz_put, hsz]) (by decide) ?_
        refine wlN 18 232 true false rfl rfl rfl rfl (by simp [ev_ne, ev_eq, sz_put, hsz]) (by decide) ?_
        refine wlN 18 232 true false rfl rfl rfl rfl (by simp [ev_ne, ev_eq, sz_put, hsz]) (by decide) ?_
        refine wlVal rfl rfl (.bool false) (run_pick w _ _ _ _ rfl _ false _ (by simp [ev_ne, ev_eq, sz_put, hsz]) (by simp [ev_const])) ?_
        refine wlVal rfl rfl (.bool false) (run_assign w _ _ rfl _ _ (by simp [ev_eq, sz_put, hsz])) ?_
        exact wlDone <| h _ ⟨⟨by simp [sz_put, hsz], by simp [def_put, hdf], by simp [ev_ne, e1], by simp [ev_ne, e3]⟩, by simp [ev_eq, sz_put, hsz], by simp [ev_ne, ek]⟩
      | true =>
        refine wlVal rfl rfl (.bool true) (run_pick w _ _ _ _ rfl _ true _ (by simp [ev_ne, ev_eq, sz_put, hsz]) (by simp [ev_eq, sz_put, hsz])) ?_
        refine wlVal rfl rfl (.bool true) (run_move w _ _ rfl _ _ (by simp [ev_eq, sz_put, hsz])) ?_
        refine wlG 13 227 true rfl rfl rfl rfl (by simp [ev_eq, sz_put, hsz]) (.pointer (some ⟨g1, 9, none⟩)) (run_field 9 (by omega) w _ _ rfl _ g1 (by simp [ev_ne, e1])) ?_
        refine wlG 13 227 true rfl rfl rfl rfl (by simp [ev_ne, ev_eq, sz_put, hsz]) (.int .i64 va) (run_load3 w _ _ rfl _ ⟨g1, 9, none⟩ (by simp [ev_eq, sz_put, hsz]) _ (mv_cell hg1 9 _ y9)) ?_
        refine wlCG 13 227 true rfl rfl rfl rfl (by simp [ev_ne, ev_eq, sz_put, hsz]) 23 #[(.int .i64 va)] (.bool x3) (run_call1 23 call23 _ _ _ _ rfl _ _ (by simp [ev_eq, sz_put, hsz])) (c3 _) ?_
        cases x3 with
        | false =>
          refine wlVal rfl rfl (.bool false) (run_pick w _ _ _ _ rfl _ true _ (by simp [ev_ne, ev_eq, sz_put, hsz]) (by simp [ev_eq, sz_put, hsz])) ?_
          refine wlVal rfl rfl (.bool false) (run_move w _ _ rfl _ _ (by simp [ev_eq, sz_put, hsz])) ?_
          refine wlN 18 232 true false rfl rfl rfl rfl (by simp [ev_eq, sz_put, hsz]) (by decide) ?_
          refine wlN 18 232 true false rfl rfl rfl rfl (by simp [ev_ne, ev_eq, sz_put, hsz]) (by decide) ?_
          refine wlN 18 232 true false rfl rfl rfl rfl (by simp [ev_ne, ev_eq, sz_put, hsz]) (by decide) ?_
          refine wlVal rfl rfl (.bool false) (run_pick w _ _ _ _ rfl _ false _ (by simp [ev_ne, ev_eq, sz_put, hsz]) (by simp [ev_const])) ?_
          refine wlVal rfl rfl (.bool false) (run_assign w _ _ rfl _ _ (by simp [ev_eq, sz_put, hsz])) ?_
          exact wlDone <| h _ ⟨⟨by simp [sz_put, hsz], by simp [def_put, hdf], by simp [ev_ne, e1], by simp [ev_ne, e3]⟩, by simp [ev_eq, sz_put, hsz], by simp [ev_ne, ek]⟩
        | true =>
          refine wlVal rfl rfl (.bool true) (run_pick w _ _ _ _ rfl _ true _ (by simp [ev_ne, ev_eq, sz_put, hsz]) (by simp [ev_eq, sz_put, hsz])) ?_
          refine wlVal rfl rfl (.bool true) (run_move w _ _ rfl _ _ (by simp [ev_eq, sz_put, hsz])) ?_
          refine wlG 18 232 true rfl rfl rfl rfl (by simp [ev_eq, sz_put, hsz]) (.pointer (some ⟨g1, 13, none⟩)) (run_field 13 (by omega) w _ _ rfl _ g1 (by simp [ev_ne, e1])) ?_
          refine wlG 18 232 true rfl rfl rfl rfl (by simp [ev_ne, ev_eq, sz_put, hsz]) (.int .i64 ho) (run_load3 w _ _ rfl _ ⟨g1, 13, none⟩ (by simp [ev_eq, sz_put, hsz]) _ (mv_cell hg1 13 _ y13)) ?_
          refine wlCG 18 232 true rfl rfl rfl rfl (by simp [ev_ne, ev_eq, sz_put, hsz]) 18 #[(.int .i64 ho), (.int .i64 0), (.int .i64 16)] (.bool x4) (run_call3 18 call18 _ _ _ _ _ _ _ _ rfl _ _ _ _ (by simp [ev_eq, sz_put, hsz]) (by simp [ev_const]) (by simp [ev_const])) (c4 _) ?_
          refine wlVal rfl rfl (.bool x4) (run_pick w _ _ _ _ rfl _ true _ (by simp [ev_ne, ev_eq, sz_put, hsz]) (by simp [ev_eq, sz_put, hsz])) ?_
          refine wlVal rfl rfl (.bool x4) (run_assign w _ _ rfl _ _ (by simp [ev_eq, sz_put, hsz])) ?_
          exact wlDone <| h _ ⟨⟨by simp [sz_put, hsz], by simp [def_put, hdf], by simp [ev_ne, e1], by simp [ev_ne, e3]⟩, by simp [ev_eq, sz_put, hsz], by simp [ev_ne, ek]⟩
def r35_0 (p : String) : Oper := { dst := some 319, op := Op.fieldAddr 24 (Operand.tmp 1) 12, type := 0, pos := p, after := #[], guard := none }
def r35_1 (p : String) : Oper := { dst := some 320, op := Op.load 3 (Operand.tmp 319), type := 3, pos := p, after := #[{ on := 0, ground := Ground.data }], guard := none }
def r35_2 (p : String) : Oper := { dst := some 321, op := Op.call { callee := Callee.value (Operand.func 18), args := #[Operand.tmp 320, Operand.const (Value.int IntKind.i64 1), Operand.const (Value.int IntKind.i64 40)], argTypes := #[3, 3, 3] }, type := 4, pos := p, after := #[{ on := 1, ground := Ground.data }], guard := none }
def r35_3 (p : String) : Oper := { dst := some 322, op := Op.move (Operand.tmp 321), type := 4, pos := p, after := #[{ on := 2, ground := Ground.data }, { on := 2, ground := Ground.chain }], guard := none }
def r35_4 (p : String) : Oper := { dst := some 323, op := Op.fieldAddr 24 (Operand.tmp 1) 9, type := 0, pos := p, after := #[{ on := 3, ground := Ground.guard }], guard := some (3, true) }
def r35_5 (p : String) : Oper := { dst := some 324, op := Op.load 3 (Operand.tmp 323), type := 3, pos := p, after := #[{ on := 4, ground := Ground.data }, { on := 3, ground := Ground.guard }], guard := some (3, true) }
def r35_6 (p : String) : Oper := { dst := some 325, op := Op.call { callee := Callee.value (Operand.func 19), args := #[Operand.tmp 324], argTypes := #[3] }, type := 4, pos := p, after := #[{ on := 5, ground := Ground.data }, { on := 3, ground := Ground.chain }, { on := 3, ground := Ground.guard }], guard := some (3, true) }
def r35_7 (p : String) : Oper := { dst := some 326, op := Op.pick (Operand.tmp 322) (Operand.tmp 325) (Operand.const (Value.bool false)), type := 4, pos := p, after := #[{ on := 3, ground := Ground.data }, { on := 6, ground := Ground.data }], guard := none }
def r35_8 (p : String) : Oper := { dst := some 4, op := Op.assign (Operand.tmp 326), type := 4, pos := p, after := #[{ on := 7, ground := Ground.data }, { on := 6, ground := Ground.chain }, { on := 0, ground := Ground.phase }, { on := 1, ground := Ground.phase }, { on := 2, ground := Ground.phase }, { on := 3, ground := Ground.phase }, { on := 4, ground := Ground.phase }, { on := 5, ground := Ground.phase }, { on := 6, ground := Ground.phase }, { on := 7, ground := Ground.phase }], guard := none }
def r35 (p : String) : Array Oper := #[r35_0 p, r35_1 p, r35_2 p, r35_3 p, r35_4 p, r35_5 p, r35_6 p, r35_7 p, r35_8 p]
set_option maxRecDepth 100000 in
set_option maxHeartbeats 1000000 in
theorem reg35 {Q : Exit → Act → World → Prop} (id : Nat) (p : String) (a : Act) (w : World) (g1 g3 : Nat) (cs : Array Value) (cn va : Int) (o : Bool) (kd : Int) (x0 x1 : Bool)
    (f : Fr a g1 g3 o kd) (hg1 : w.heap[g1]? = some (.cells cs 24)) (y9 : cs[9]? = some (.int .i64 va)) (y12 : cs[12]? = some (.int .i64 cn)) (c0 : ∀ w, Calls Try.prog 18 #[.int .i64 cn, .int .i64 1, .int .i64 40] w fun e w' => e = .returned (.bool x0) ∧ w' = w) (c1 : ∀ w, Calls Try.prog 19 #[.int .i64 va] w fun e w' => e = .returned (.bool x1) ∧ w' = w)
    (h : ∀ a', Fr a' g1 g3 (x0 && x1) kd → Q .normal a' w) :
    (Code.region id (r35 p) false).wp Try.prog Q a w := by
  have hsz := f.fa.sz
  have hdf := f.fa.df
  have e1 := f.fa.e1
  have e3 := f.fa.e3
  have e4 := f.e4
  have ek := f.ek
  refine wlStart (l := [r35_0 p, r35_1 p, r35_2 p, r35_3 p, r35_4 p, r35_5 p, r35_6 p, r35_7 p, r35_8 p]) rfl ?_
  refine wlVal rfl rfl (.pointer (some ⟨g1, 12, none⟩)) (run_field 12 (by omega) w _ _ rfl _ g1 (by simp [e1])) ?_
  refine wlVal rfl rfl (.int .i64 cn) (run_load3 w _ _ rfl _ ⟨g1, 12, none⟩ (by simp [ev_eq, hsz]) _ (mv_cell hg1 12 _ y12)) ?_
  refine wlC rfl rfl 18 #[(.int .i64 cn), (.int .i64 1), (.int .i64 40)] (.bool x0) (run_call3 18 call18 _ _ _ _ _ _ _ _ rfl _ _ _ _ (by simp [ev_eq, sz_put, hsz]) (by simp [ev_const]) (by simp [ev_const])) (c0 _) ?_
  cases x0 with
  | false =>
    refine wlVal rfl rfl (.bool false) (run_move w _ _ rfl _ _ (by simp [ev_eq, sz_put, hsz])) ?_
    refine wlN 3 322 true false rfl rfl rfl rfl (by simp [ev_eq, sz_put, hsz]) (by decide) ?_
    refine wlN 3 322 true false rfl rfl rfl rfl (by simp [ev_ne, ev_eq, sz_put, hsz]) (by decide) ?_
    refine wlN 3 322 true false rfl rfl rfl rfl (by simp [ev_ne, ev_eq, sz_put, hsz]) (by decide) ?_
    refine wlVal rfl rfl (.bool false) (run_pick w _ _ _ _ rfl _ false _ (by simp [ev_ne, ev_eq, sz_put, hsz]) (by simp [ev_const])) ?_
    refine wlVal rfl rfl (.bool false) (run_assign w _ _ rfl _ _ (by simp [ev_eq, sz_put, hsz])) ?_
    exact wlDone <| h _ ⟨⟨by simp [sz_put, hsz], by simp [def_put, hdf], by simp [ev_ne, e1], by simp [ev_ne, e3]⟩, by simp [ev_eq, sz_put, hsz], by simp [ev_ne, ek]⟩
  | true =>
    refine wlVal rfl rfl (.bool true) (run_move w _ _ rfl _ _ (by simp [ev_eq, sz_put, hsz])) ?_
    refine wlG 3 322 true rfl rfl rfl rfl (by simp [ev_eq, sz_put, hsz]) (.pointer (some ⟨g1, 9, none⟩)) (run_field 9 (by omega) w _ _ rfl _ g1 (by simp [ev_ne, e1])) ?_
    refine wlG 3 322 true rfl rfl rfl rfl (by simp [ev_ne, ev_eq, sz_put, hsz]) (.int .i64 va) (run_load3 w _ _ rfl _ ⟨g1, 9, none⟩ (by simp [ev_eq, sz_put, hsz]) _ (mv_cell hg1 9 _ y9)) ?_
    refine wlCG 3 322 true rfl rfl rfl rfl (by simp [ev_ne, ev_eq, sz_put, hsz]) 19 #[(.int .i64 va)] (.bool x1) (run_call1 19 call19 _ _ _ _ rfl _ _ (by simp [ev_eq, sz_put, hsz])) (c1 _) ?_
    refine wlVal rfl rfl (.bool x1) (run_pick w _ _ _ _ rfl _ true _ (by simp [ev_ne, ev_eq, sz_put, hsz]) (by simp [ev_eq, sz_put, hsz])) ?_
    refine wlVal rfl rfl (.bool x1) (run_assign w _ _ rfl _ _ (by simp [ev_eq, sz_put, hsz])) ?_
    exact wlDone <| h _ ⟨⟨by simp [sz_put, hsz], by simp [def_put, hdf], by simp [ev_ne, e1], by simp [ev_ne, e3]⟩, by simp [ev_eq, sz_put, hsz], by simp [ev_ne, ek]⟩
def r38_0 (p : String) : Oper := { dst := some 335, op := Op.fieldAddr 24 (Operand.tmp 1) 12, type := 0, pos := p, after := #[], guard := none }
def r38_1 (p : String) : Oper := { dst := some 336, op := Op.load 3 (Operand.tmp 335), type := 3, pos := p, after := #[{ on := 0, ground := Ground.data }], guard := none }
def r38_2 (p : String) : Oper := { dst := some 337, op := Op.call { callee := Callee.value (Operand.func 18), args := #[Operand.tmp 336, Operand.const (Value.int IntKind.i64 1), Operand.const (Value.int IntKind.i64 40)], argTypes := #[3, 3, 3] }, type := 4, pos := p, after := #[{ on := 1, ground := Ground.data }], guard := none }
def r38_3 (p : String) : Oper := { dst := some 4, op := Op.assign (Operand.tmp 337), type := 4, pos := p, after := #[{ on := 2, ground := Ground.data }, { on := 2, ground := Ground.chain }, { on := 0, ground := Ground.phase }, { on := 1, ground := Ground.phase }, { on := 2, ground := Ground.phase }], guard := none }
def r38 (p : String) : Array Oper := #[r38_0 p, r38_1 p, r38_2 p, r38_3 p]
set_option maxRecDepth 100000 in
set_option maxHeartbeats 1000000 in
theorem reg38 {Q : Exit → Act → World → Prop} (id : Nat) (p : String) (a : Act) (w : World) (g1 g3 : Nat) (cs : Array Value) (cn : Int) (o : Bool) (kd : Int) (x0 : Bool)
    (f : Fr a g1 g3 o kd) (hg1 : w.heap[g1]? = some (.cells cs 24)) (y12 : cs[12]? = some (.int .i64 cn)) (c0 : ∀ w, Calls Try.prog 18 #[.int .i64 cn, .int .i64 1, .int .i64 40] w fun e w' => e = .returned (.bool x0) ∧ w' = w)
    (h : ∀ a', Fr a' g1 g3 (x0) kd → Q .normal a' w) :
    (Code.region id (r38 p) false).wp Try.prog Q a w := by
  have hsz := f.fa.sz
  have hdf := f.fa.df
  have e1 := f.fa.e1
  have e3 := f.fa.e3
  have e4 := f.e4
  have ek := f.ek
  refine wlStart (l := [r38_0 p, r38_1 p, r38_2 p, r38_3 p]) rfl ?_
  refine wlVal rfl rfl (.pointer (some ⟨g1, 12, none⟩)) (run_field 12 (by omega) w _ _ rfl _ g1 (by simp [e1])) ?_
  refine wlVal rfl rfl (.int .i64 cn) (run_load3 w _ _ rfl _ ⟨g1, 12, none⟩ (by simp [ev_eq, hsz]) _ (mv_cell hg1 12 _ y12)) ?_
  refine wlC rfl rfl 18 #[(.int .i64 cn), (.int .i64 1), (.int .i64 40)] (.bool x0) (run_call3 18 call18 _ _ _ _ _ _ _ _ rfl _ _ _ _ (by simp [ev_eq, sz_put, hsz]) (by simp [ev_const]) (by simp [ev_const])) (c0 _) ?_
  refine wlVal rfl rfl (.bool x0) (run_assign w _ _ rfl _ _ (by simp [ev_eq, sz_put, hsz])) ?_
  exact wlDone <| h _ ⟨⟨by simp [sz_put, hsz], by simp [def_put, hdf], by simp [ev_ne, e1], by simp [ev_ne, e3]⟩, by simp [ev_eq, sz_put, hsz], by simp [ev_ne, ek]⟩
def r12_0 (p : String) : Oper := { dst := some 69, op := Op.fieldAddr 24 (Operand.tmp 1) 6, type := 0, pos := p, after := #[], guard := none }
def r12_1 (p : String) : Oper := { dst := some 70, op := Op.load 3 (Operand.tmp 69), type := 3, pos := p, after := #[{ on := 0, ground := Ground.data }], guard := none }
def r12_2 (p : String) : Oper := { dst := some 71, op := Op.fieldAddr 24 (Operand.tmp 3) 6, type := 0, pos := p, after := #[{ on := 0, ground := Ground.phase }, { on := 1, ground := Ground.phase }], guard := none }
def r12_3 (p : String) : Oper := { dst := none, op := Op.store 3 (Operand.tmp 71) (Operand.tmp 70), type := 0, pos := p, after := #[{ on := 2, ground := Ground.data }, { on := 1, ground := Ground.data }, { on := 0, ground := Ground.phase }, { on := 1, ground := Ground.phase }], guard := none }
def r12 (p : String) : Array Oper := #[r12_0 p, r12_1 p, r12_2 p, r12_3 p]
set_option maxRecDepth 100000 in
set_option maxHeartbeats 1000000 in
theorem reg12 {Q : Exit → Act → World → Prop} (id : Nat) (p : String) (a : Act) (w : World) (g1 g3 : Nat) (cs : Array Value) (ep : Int) (ds : Array Value) (o : Bool) (kd : Int)
    (f : Fr a g1 g3 o kd) (hg3 : w.heap[g3]? = some (.cells ds 24)) (hd : ds.size = 16) (hg1 : w.heap[g1]? = some (.cells cs 24)) (y6 : cs[6]? = some (.int .i64 ep)) 
    (h : ∀ a' w', Fr a' g1 g3 o kd → Below g3 w w' → w'.heap[g3]? = some (.cells (ds.setIfInBounds 6 (.int .i64 ep)) 24) → Q .normal a' w') :
    (Code.region id (r12 p) false).wp Try.prog Q a w := by
  have hsz := f.fa.sz
  have hdf := f.fa.df
  have e1 := f.fa.e1
  have e3 := f.fa.e3
  have e4 := f.e4
  have ek := f.ek
  refine wlStart (l := [r12_0 p, r12_1 p, r12_2 p, r12_3 p]) rfl ?_
  refine wlVal rfl rfl (.pointer (some ⟨g1, 6, none⟩)) (run_field 6 (by omega) w _ _ rfl _ g1 (by simp [e1])) ?_
  refine wlVal rfl rfl (.int .i64 ep) (run_load3 w _ _ rfl _ ⟨g1, 6, none⟩ (by simp [ev_eq, hsz]) _ (mv_cell hg1 6 _ y6)) ?_
  refine wlVal rfl rfl (.pointer (some ⟨g3, 6, none⟩)) (run_field 6 (by omega) w _ _ rfl _ g3 (by simp [ev_ne, e3])) ?_
  obtain ⟨u0, hu0⟩ : ∃ u, (ds)[6]? = some u := by simp [hd]
  refine wlStore rfl rfl (run_store3 _ _ _ _ rfl _ ⟨g3, 6, none⟩ (by simp [ev_eq, sz_put, hsz]) ep (by simp [ev_ne, ev_eq, sz_put, hsz]) u0 (mv_cell hg3 6 _ hu0) (frozen_of_row _ g3 6 _ _ hg3)) ?_
  have hx1 := heap_setCell_same w g3 6 _ _ (.int .i64 ep) hg3
  have bx1 := (Below.refl g3 w).setCell (p := ⟨g3, 6, none⟩) (Nat.le_refl _) (.int .i64 ep)
  exact wlDone <| h _ _ ⟨⟨by simp [sz_put, hsz], by simp [def_put, hdf], by simp [ev_ne, e1], by simp [ev_ne, e3]⟩, by simp [ev_ne, e4], by simp [ev_ne, ek]⟩ bx1 hx1
def r18_0 (p : String) : Oper := { dst := some 143, op := Op.fieldAddr 24 (Operand.tmp 1) 10, type := 0, pos := p, after := #[], guard := none }
def r18_1 (p : String) : Oper := { dst := some 144, op := Op.load 3 (Operand.tmp 143), type := 3, pos := p, after := #[{ on := 0, ground := Ground.data }], guard := none }
def r18_2 (p : String) : Oper := { dst := some 145, op := Op.fieldAddr 24 (Operand.tmp 3) 10, type := 0, pos := p, after := #[{ on := 0, ground := Ground.phase }, { on := 1, ground := Ground.phase }], guard := none }
def r18_3 (p : String) : Oper := { dst := none, op := Op.store 3 (Operand.tmp 145) (Operand.tmp 144), type := 0, pos := p, after := #[{ on := 2, ground := Ground.data }, { on := 1, ground := Ground.data }, { on := 0, ground := Ground.phase }, { on := 1, ground := Ground.phase }], guard := none }
def r18 (p : String) : Array Oper := #[r18_0 p, r18_1 p, r18_2 p, r18_3 p]
set_option maxRecDepth 100000 in
set_option maxHeartbeats 1000000 in
theorem reg18 {Q : Exit → Act → World → Prop} (id : Nat) (p : String) (a : Act) (w : World) (g1 g3 : Nat) (cs : Array Value) (no : Int) (ds : Array Value) (o : Bool) (kd : Int)
    (f : Fr a g1 g3 o kd) (hg3 : w.heap[g3]? = some (.cells ds 24)) (hd : ds.size = 16) (hg1 : w.heap[g1]? = some (.cells cs 24)) (y10 : cs[10]? = some (.int .i64 no)) 
    (h : ∀ a' w', Fr a' g1 g3 o kd → Below g3 w w' → w'.heap[g3]? = some (.cells (ds.setIfInBounds 10 (.int .i64 no)) 24) → Q .normal a' w') :
    (Code.region id (r18 p) false).wp Try.prog Q a w := by
  have hsz := f.fa.sz
  have hdf := f.fa.df
  have e1 := f.fa.e1
  have e3 := f.fa.e3
  have e4 := f.e4
  have ek := f.ek
  refine wlStart (l := [r18_0 p, r18_1 p, r18_2 p, r18_3 p]) rfl ?_
  refine wlVal rfl rfl (.pointer (some ⟨g1, 10, none⟩)) (run_field 10 (by omega) w _ _ rfl _ g1 (by simp [e1])) ?_
  refine wlVal rfl rfl (.int .i64 no) (run_load3 w _ _ rfl _ ⟨g1, 10, none⟩ (by simp [ev_eq, hsz]) _ (mv_cell hg1 10 _ y10)) ?_
  refine wlVal rfl rfl (.pointer (some ⟨g3, 10, none⟩)) (run_field 10 (by omega) w _ _ rfl _ g3 (by simp [ev_ne, e3])) ?_
  obtain ⟨u0, hu0⟩ : ∃ u, (ds)[10]? = some u := by simp [hd]
  refine wlStore rfl rfl (run_store3 _ _ _ _ rfl _ ⟨g3, 10, none⟩ (by simp [ev_eq, sz_put, hsz]) no (by simp [ev_ne, ev_eq, sz_put, hsz]) u0 (mv_cell hg3 10 _ hu0) (frozen_of_row _ g3 10 _ _ hg3)) ?_
  have hx1 := heap_setCell_same w g3 10 _ _ (.int .i64 no) hg3
  have bx1 := (Below.refl g3 w).setCell (p := ⟨g3, 10, none⟩) (Nat.le_refl _) (.int .i64 no)
  exact wlDone <| h _ _ ⟨⟨by simp [sz_put, hsz], by simp [def_put, hdf], by simp [ev_ne, e1], by simp [ev_ne, e3]⟩, by simp [ev_ne, e4], by simp [ev_ne, ek]⟩ bx1 hx1
def r39_0 (p : String) : Oper := { dst := some 338, op := Op.fieldAddr 24 (Operand.tmp 1) 12, type := 0, pos := p, after := #[], guard := none }
def r39_1 (p : String) : Oper := { dst := some 339, op := Op.load 3 (Operand.tmp 338), type := 3, pos := p, after := #[{ on := 0, ground := Ground.data }], guard := none }
def r39_2 (p : String) : Oper := { dst := some 340, op := Op.fieldAddr 24 (Operand.tmp 3) 12, type := 0, pos := p, after := #[{ on := 0, ground := Ground.phase }, { on := 1, ground := Ground.phase }], guard := none }
def r39_3 (p : String) : Oper := { dst := none, op := Op.store 3 (Operand.tmp 340) (Operand.tmp 339), type := 0, pos := p, after := #[{ on := 2, ground := Ground.data }, { on := 1, ground := Ground.data }, { on := 0, ground := Ground.phase }, { on := 1, ground := Ground.phase }], guard := none }
def r39 (p : String) : Array Oper := #[r39_0 p, r39_1 p, r39_2 p, r39_3 p]
set_option maxRecDepth 100000 in
set_option maxHeartbeats 1000000 in
theorem reg39 {Q : Exit → Act → World → Prop} (id : Nat) (p : String) (a : Act) (w : World) (g1 g3 : Nat) (cs : Array Value) (cn : Int) (ds : Array Value) (o : Bool) (kd : Int)
    (f : Fr a g1 g3 o kd) (hg3 : w.heap[g3]? = some (.cells ds 24)) (hd : ds.size = 16) (hg1 : w.heap[g1]? = some (.cells cs 24)) (y12 : cs[12]? = some (.int .i64 cn)) 
    (h : ∀ a' w', Fr a' g1 g3 o kd → Below g3 w w' → w'.heap[g3]? = some (.cells (ds.setIfInBounds 12 (.int .i64 cn)) 24) → Q .normal a' w') :
    (Code.region id (r39 p) false).wp Try.prog Q a w := by
  have hsz := f.fa.sz
  have hdf := f.fa.df
  have e1 := f.fa.e1
  have e3 := f.fa.e3
  have e4 := f.e4
  have ek := f.ek
  refine wlStart (l := [r39_0 p, r39_1 p, r39_2 p, r39_3 p]) rfl ?_
  refine wlVal rfl rfl (.pointer (some ⟨g1, 12, none⟩)) (run_field 12 (by omega) w _ _ rfl _ g1 (by simp [e1])) ?_
  refine wlVal rfl rfl (.int .i64 cn) (run_load3 w _ _ rfl _ ⟨g1, 12, none⟩ (by simp [ev_eq, hsz]) _ (mv_cell hg1 12 _ y12)) ?_
  refine wlVal rfl rfl (.pointer (some ⟨g3, 12, none⟩)) (run_field 12 (by omega) w _ _ rfl _ g3 (by simp [ev_ne, e3])) ?_
  obtain ⟨u0, hu0⟩ : ∃ u, (ds)[12]? = some u := by simp [hd]
  refine wlStore rfl rfl (run_store3 _ _ _ _ rfl _ ⟨g3, 12, none⟩ (by simp [ev_eq, sz_put, hsz]) cn (by simp [ev_ne, ev_eq, sz_put, hsz]) u0 (mv_cell hg3 12 _ hu0) (frozen_of_row _ g3 12 _ _ hg3)) ?_
  have hx1 := heap_setCell_same w g3 12 _ _ (.int .i64 cn) hg3
  have bx1 := (Below.refl g3 w).setCell (p := ⟨g3, 12, none⟩) (Nat.le_refl _) (.int .i64 cn)
  exact wlDone <| h _ _ ⟨⟨by simp [sz_put, hsz], by simp [def_put, hdf], by simp [ev_ne, e1], by simp [ev_ne, e3]⟩, by simp [ev_ne, e4], by simp [ev_ne, ek]⟩ bx1 hx1
end Go.Proofs.Ytokgbolmjfmfpaa
