/- The page's Msg: the copies of several fields and its end, over any frame. -/
import Derived.Test.YtmcmiojidgdjpaaBn12
import Derived.Test.YtmcmiojidgdjpaaBn13
namespace Go.Proofs.Ytmcmiojidgdjpaa
open Go.RowKit

set_option maxRecDepth 100000 in
set_option maxHeartbeats 1000000 in
theorem reg15 {Q : Exit → Act → World → Prop} (id : Nat) (p : String) (a : Act) (w : World) (g1 g3 : Nat) (cs ds : Array Value) (o : Bool) (kd : Int) (n0 : Int) (n1 : Int) (n2 : Int) (q3 : Option Addr) (l3 k3 : Nat) (f : Fr a g1 g3 o kd) (hg1 : w.heap[g1]? = some (.cells cs 24)) (hg3 : w.heap[g3]? = some (.cells ds 24)) (hlt : g1 < g3) (hd : ds.size = 16) (y0 : cs[6]? = some (.int .i64 n0)) (y1 : cs[7]? = some (.int .i64 n1)) (y2 : cs[8]? = some (.int .i64 n2)) (y3 : cs[14]? = some (.slice q3 l3 k3))
    (h : ∀ a' w', Fr a' g1 g3 o kd → Below g3 w w' → w'.heap[g3]? = some (.cells ((((ds.setIfInBounds 6 (.int .i64 n0)).setIfInBounds 7 (.int .i64 n1)).setIfInBounds 8 (.int .i64 n2)).setIfInBounds 14 (.slice q3 l3 k3)) 24) → Q .normal a' w') :
    (Code.region id (c15 p) true).wp Try.prog Q a w := by
  have hsz := f.fa.sz
  have hdf := f.fa.df
  have e1 := f.fa.e1
  have e3 := f.fa.e3
  have e4 := f.e4
  have ek := f.ek
  exact copy_15 id p a w g1 g3 cs ds n0 n1 n2 q3 l3 k3 hsz e1 e3 hg1 hg3 hlt hd y0 y1 y2 y3 fun w' b' h' => h _ w' ⟨⟨by simp [sz_put, hsz], by simp [def_put, hdf], by simp [ev_ne, e1], by simp [ev_ne, e3]⟩, by simp [ev_ne, e4], by simp [ev_ne, ek]⟩ b' h'
set_option maxRecDepth 100000 in
set_option maxHeartbeats 1000000 in
theorem reg21 {Q : Exit → Act → World → Prop} (id : Nat) (p : String) (a : Act) (w : World) (g1 g3 : Nat) (cs ds : Array Value) (o : Bool) (kd : Int) (n0 : Int) (n1 : Int) (n2 : Int) (f : Fr a g1 g3 o kd) (hg1 : w.heap[g1]? = some (.cells cs 24)) (hg3 : w.heap[g3]? = some (.cells ds 24)) (hlt : g1 < g3) (hd : ds.size = 16) (y0 : cs[6]? = some (.int .i64 n0)) (y1 : cs[7]? = some (.int .i64 n1)) (y2 : cs[9]? = some (.int .i64 n2))
    (h : ∀ a' w', Fr a' g1 g3 o kd → Below g3 w w' → w'.heap[g3]? = some (.cells (((ds.setIfInBounds 6 (.int .i64 n0)).setIfInBounds 7 (.int .i64 n1)).setIfInBounds 9 (.int .i64 n2)) 24) → Q .normal a' w') :
    (Code.region id (c21 p) true).wp Try.prog Q a w := by
  have hsz := f.fa.sz
  have hdf := f.fa.df
  have e1 := f.fa.e1
  have e3 := f.fa.e3
  have e4 := f.e4
  have ek := f.ek
  exact copy_21 id p a w g1 g3 cs ds n0 n1 n2 hsz e1 e3 hg1 hg3 hlt hd y0 y1 y2 fun w' b' h' => h _ w' ⟨⟨by simp [sz_put, hsz], by simp [def_put, hdf], by simp [ev_ne, e1], by simp [ev_ne, e3]⟩, by simp [ev_ne, e4], by simp [ev_ne, ek]⟩ b' h'
set_option maxRecDepth 100000 in
set_option maxHeartbeats 1000000 in
theorem reg24 {Q : Exit → Act → World → Prop} (id : Nat) (p : String) (a : Act) (w : World) (g1 g3 : Nat) (cs ds : Array Value) (o : Bool) (kd : Int) (n0 : Int) (n1 : Int) (f : Fr a g1 g3 o kd) (hg1 : w.heap[g1]? = some (.cells cs 24)) (hg3 : w.heap[g3]? = some (.cells ds 24)) (hlt : g1 < g3) (hd : ds.size = 16) (y0 : cs[6]? = some (.int .i64 n0)) (y1 : cs[7]? = some (.int .i64 n1))
    (h : ∀ a' w', Fr a' g1 g3 o kd → Below g3 w w' → w'.heap[g3]? = some (.cells ((ds.setIfInBounds 6 (.int .i64 n0)).setIfInBounds 7 (.int .i64 n1)) 24) → Q .normal a' w') :
    (Code.region id (c24 p) true).wp Try.prog Q a w := by
  have hsz := f.fa.sz
  have hdf := f.fa.df
  have e1 := f.fa.e1
  have e3 := f.fa.e3
  have e4 := f.e4
  have ek := f.ek
  exact copy_24 id p a w g1 g3 cs ds n0 n1 hsz e1 e3 hg1 hg3 hlt hd y0 y1 fun w' b' h' => h _ w' ⟨⟨by simp [sz_put, hsz], by simp [def_put, hdf], by simp [ev_ne, e1], by simp [ev_ne, e3]⟩, by simp [ev_ne, e4], by simp [ev_ne, ek]⟩ b' h'
set_option maxRecDepth 100000 in
set_option maxHeartbeats 1000000 in
theorem reg27 {Q : Exit → Act → World → Prop} (id : Nat) (p : String) (a : Act) (w : World) (g1 g3 : Nat) (cs ds : Array Value) (o : Bool) (kd : Int) (n0 : Int) (n1 : Int) (n2 : Int) (f : Fr a g1 g3 o kd) (hg1 : w.heap[g1]? = some (.cells cs 24)) (hg3 : w.heap[g3]? = some (.cells ds 24)) (hlt : g1 < g3) (hd : ds.size = 16) (y0 : cs[6]? = some (.int .i64 n0)) (y1 : cs[7]? = some (.int .i64 n1)) (y2 : cs[8]? = some (.int .i64 n2))
    (h : ∀ a' w', Fr a' g1 g3 o kd → Below g3 w w' → w'.heap[g3]? = some (.cells (((ds.setIfInBounds 6 (.int .i64 n0)).setIfInBounds 7 (.int .i64 n1)).setIfInBounds 8 (.int .i64 n2)) 24) → Q .normal a' w') :
    (Code.region id (c27 p) true).wp Try.prog Q a w := by
  have hsz := f.fa.sz
  have hdf := f.fa.df
  have e1 := f.fa.e1
  have e3 := f.fa.e3
  have e4 := f.e4
  have ek := f.ek
  exact copy_27 id p a w g1 g3 cs ds n0 n1 n2 hsz e1 e3 hg1 hg3 hlt hd y0 y1 y2 fun w' b' h' => h _ w' ⟨⟨by simp [sz_put, hsz], by simp [def_put, hdf], by simp [ev_ne, e1], by simp [ev_ne, e3]⟩, by simp [ev_ne, e4], by simp [ev_ne, ek]⟩ b' h'
set_option maxRecDepth 100000 in
set_option maxHeartbeats 1000000 in
theorem reg30 {Q : Exit → Act → World → Prop} (id : Nat) (p : String) (a : Act) (w : World) (g1 g3 : Nat) (cs ds : Array Value) (o : Bool) (kd : Int) (n0 : Int) (n1 : Int) (n2 : Int) (n3 : Int) (n4 : Int) (f : Fr a g1 g3 o kd) (hg1 : w.heap[g1]? = some (.cells cs 24)) (hg3 : w.heap[g3]? = some (.cells ds 24)) (hlt : g1 < g3) (hd : ds.size = 16) (y0 : cs[10]? = some (.int .i64 n0)) (y1 : cs[11]? = some (.int .i64 n1)) (y2 : cs[12]? = some (.int .i64 n2)) (y3 : cs[9]? = some (.int .i64 n3)) (y4 : cs[13]? = some (.int .i64 n4))
    (h : ∀ a' w', Fr a' g1 g3 o kd → Below g3 w w' → w'.heap[g3]? = some (.cells (((((ds.setIfInBounds 10 (.int .i64 n0)).setIfInBounds 11 (.int .i64 n1)).setIfInBounds 12 (.int .i64 n2)).setIfInBounds 9 (.int .i64 n3)).setIfInBounds 13 (.int .i64 n4)) 24) → Q .normal a' w') :
    (Code.region id (c30 p) true).wp Try.prog Q a w := by
  have hsz := f.fa.sz
  have hdf := f.fa.df
  have e1 := f.fa.e1
  have e3 := f.fa.e3
  have e4 := f.e4
  have ek := f.ek
  exact copy_30 id p a w g1 g3 cs ds n0 n1 n2 n3 n4 hsz e1 e3 hg1 hg3 hlt hd y0 y1 y2 y3 y4 fun w' b' h' => h _ w' ⟨⟨by simp [sz_put, hsz], by simp [def_put, hdf], by simp [ev_ne, e1], by simp [ev_ne, e3]⟩, by simp [ev_ne, e4], by simp [ev_ne, ek]⟩ b' h'
set_option maxRecDepth 100000 in
set_option maxHeartbeats 1000000 in
theorem reg33 {Q : Exit → Act → World → Prop} (id : Nat) (p : String) (a : Act) (w : World) (g1 g3 : Nat) (cs ds : Array Value) (o : Bool) (kd : Int) (n0 : Int) (n1 : Int) (n2 : Int) (n3 : Int) (n4 : Int) (q5 : Option Addr) (l5 k5 : Nat) (q6 : Option Addr) (l6 k6 : Nat) (f : Fr a g1 g3 o kd) (hg1 : w.heap[g1]? = some (.cells cs 24)) (hg3 : w.heap[g3]? = some (.cells ds 24)) (hlt : g1 < g3) (hd : ds.size = 16) (y0 : cs[10]? = some (.int .i64 n0)) (y1 : cs[11]? = some (.int .i64 n1)) (y2 : cs[12]? = some (.int .i64 n2)) (y3 : cs[9]? = some (.int .i64 n3)) (y4 : cs[13]? = some (.int .i64 n4)) (y5 : cs[14]? = some (.slice q5 l5 k5)) (y6 : cs[15]? = some (.slice q6 l6 k6))
    (h : ∀ a' w', Fr a' g1 g3 o kd → Below g3 w w' → w'.heap[g3]? = some (.cells (((((((ds.setIfInBounds 10 (.int .i64 n0)).setIfInBounds 11 (.int .i64 n1)).setIfInBounds 12 (.int .i64 n2)).setIfInBounds 9 (.int .i64 n3)).setIfInBounds 13 (.int .i64 n4)).setIfInBounds 14 (.slice q5 l5 k5)).setIfInBounds 15 (.slice q6 l6 k6)) 24) → Q .normal a' w') :
    (Code.region id (c33 p) true).wp Try.prog Q a w := by
  have hsz := f.fa.sz
  have hdf := f.fa.df
  have e1 := f.fa.e1
  have e3 := f.fa.e3
  have e4 := f.e4
  have ek := f.ek
  exact copy_33 id p a w g1 g3 cs ds n0 n1 n2 n3 n4 q5 l5 k5 q6 l6 k6 hsz e1 e3 hg1 hg3 hlt hd y0 y1 y2 y3 y4 y5 y6 fun w' b' h' => h _ w' ⟨⟨by simp [sz_put, hsz], by simp [def_put, hdf], by simp [ev_ne, e1], by simp [ev_ne, e3]⟩, by simp [ev_ne, e4], by simp [ev_ne, ek]⟩ b' h'
set_option maxRecDepth 100000 in
set_option maxHeartbeats 1000000 in
theorem reg36 {Q : Exit → Act → World → Prop} (id : Nat) (p : String) (a : Act) (w : World) (g1 g3 : Nat) (cs ds : Array Value) (o : Bool) (kd : Int) (n0 : Int) (n1 : Int) (f : Fr a g1 g3 o kd) (hg1 : w.heap[g1]? = some (.cells cs 24)) (hg3 : w.heap[g3]? = some (.cells ds 24)) (hlt : g1 < g3) (hd : ds.size = 16) (y0 : cs[12]? = some (.int .i64 n0)) (y1 : cs[9]? = some (.int .i64 n1))
    (h : ∀ a' w', Fr a' g1 g3 o kd → Below g3 w w' → w'.heap[g3]? = some (.cells ((ds.setIfInBounds 12 (.int .i64 n0)).setIfInBounds 9 (.int .i64 n1)) 24) → Q .normal a' w') :
    (Code.region id (c36 p) true).wp Try.prog Q a w := by
  have hsz := f.fa.sz
  have hdf := f.fa.df
  have e1 := f.fa.e1
  have e3 := f.fa.e3
  have e4 := f.e4
  have ek := f.ek
  exact copy_36 id p a w g1 g3 cs ds n0 n1 hsz e1 e3 hg1 hg3 hlt hd y0 y1 fun w' b' h' => h _ w' ⟨⟨by simp [sz_put, hsz], by simp [def_put, hdf], by simp [ev_ne, e1], by simp [ev_ne, e3]⟩, by simp [ev_ne, e4], by simp [ev_ne, ek]⟩ b' h'
def r40_0 (p : String) : Oper := { dst := some 341, op := Op.move (Operand.tmp 4), type := 4, pos := p, after := #[], guard := none }
def r40_1 (p : String) : Oper := { dst := some 342, op := Op.move (Operand.tmp 341), type := 4, pos := p, after := #[{ on := 0, ground := Ground.data }], guard := none }
def r40_2 (p : String) : Oper := { dst := some 343, op := Op.load 24 (Operand.tmp 3), type := 24, pos := p, after := #[{ on := 1, ground := Ground.guard }], guard := some (1, true) }
def r40_3 (p : String) : Oper := { dst := some 344, op := Op.load 24 (Operand.tmp 1), type := 24, pos := p, after := #[{ on := 1, ground := Ground.guard }], guard := some (1, true) }
def r40_4 (p : String) : Oper := { dst := some 345, op := Op.call { callee := Callee.value (Operand.func 13), args := #[Operand.tmp 343, Operand.tmp 344], argTypes := #[24, 24] }, type := 4, pos := p, after := #[{ on := 2, ground := Ground.data }, { on := 3, ground := Ground.data }, { on := 1, ground := Ground.chain }, { on := 1, ground := Ground.guard }], guard := some (1, true) }
def r40_5 (p : String) : Oper := { dst := some 346, op := Op.pick (Operand.tmp 342) (Operand.tmp 345) (Operand.const (Value.bool false)), type := 4, pos := p, after := #[{ on := 1, ground := Ground.data }, { on := 4, ground := Ground.data }], guard := none }
def r40_6 (p : String) : Oper := { dst := some 2, op := Op.assign (Operand.tmp 346), type := 4, pos := p, after := #[{ on := 5, ground := Ground.data }, { on := 4, ground := Ground.chain }, { on := 0, ground := Ground.phase }, { on := 1, ground := Ground.phase }, { on := 2, ground := Ground.phase }, { on := 3, ground := Ground.phase }, { on := 4, ground := Ground.phase }, { on := 5, ground := Ground.phase }], guard := none }
def r40 (p : String) : Array Oper := #[r40_0 p, r40_1 p, r40_2 p, r40_3 p, r40_4 p, r40_5 p, r40_6 p]
set_option maxRecDepth 100000 in
set_option maxHeartbeats 1000000 in
theorem reg40 {Q : Exit → Act → World → Prop} (id : Nat) (p : String) (a : Act) (w : World) (g1 g3 : Nat) (cs ds : Array Value) (o X : Bool) (kd : Int) (f : Fr a g1 g3 o kd) (hg1 : w.heap[g1]? = some (.cells cs 24)) (hg3 : w.heap[g3]? = some (.cells ds 24)) (hc1 : cs.size = 16) (hc3 : ds.size = 16)
    (ck : Calls Try.prog 13 #[.agg ds, .agg cs] w fun e w' => e = .returned (.bool X) ∧ Below w.heap.size w w')
    (h : ∀ a' w', a'.defers = [] → a'.eval (.tmp 2) = .bool (o && X) → Below w.heap.size w w' → Q .normal a' w') :
    (Code.region id (r40 p) false).wp Try.prog Q a w := by
  have hsz := f.fa.sz
  have hdf := f.fa.df
  have e1 := f.fa.e1
  have e3 := f.fa.e3
  have e4 := f.e4
  refine wlStart (l := [r40_0 p, r40_1 p, r40_2 p, r40_3 p, r40_4 p, r40_5 p, r40_6 p]) rfl ?_
  clear f
  cases o with
  | false =>
    refine wlVal rfl rfl (.bool false) (run_move w _ _ rfl _ _ (by simp [e4])) ?_
    refine wlVal rfl rfl (.bool false) (run_move w _ _ rfl _ _ (by simp [ev_eq, hsz])) ?_
    refine wlN 1 342 true false rfl rfl rfl rfl (by simp [ev_eq, sz_put, hsz]) (by decide) ?_
    refine wlN 1 342 true false rfl rfl rfl rfl (by simp [ev_ne, ev_eq, sz_put, hsz]) (by decide) ?_
    refine wlN 1 342 true false rfl rfl rfl rfl (by simp [ev_ne, ev_eq, sz_put, hsz]) (by decide) ?_
    refine wlVal rfl rfl (.bool false) (run_pick w _ _ _ _ rfl _ false _ (by simp [ev_ne, ev_eq, sz_put, hsz]) (by simp [ev_const])) ?_
    refine wlVal rfl rfl (.bool false) (run_assign w _ _ rfl _ _ (by simp [ev_eq, sz_put, hsz])) ?_
    exact wlDone <| h _ _ (by simp [def_put, hdf]) (by simp [ev_eq, sz_put, hsz]) (Below.refl _ _)
  | true =>
    refine wlVal rfl rfl (.bool true) (run_move w _ _ rfl _ _ (by simp [e4])) ?_
    refine wlVal rfl rfl (.bool true) (run_move w _ _ rfl _ _ (by simp [ev_eq, hsz])) ?_
    refine wlG 1 342 true rfl rfl rfl rfl (by simp [ev_eq, sz_put, hsz]) (.agg ds) (run_load24 w g3 ds hg3 hc3 _ _ rfl _ (by simp [ev_ne, e3])) ?_
    refine wlG 1 342 true rfl rfl rfl rfl (by simp [ev_ne, ev_eq, sz_put, hsz]) (.agg cs) (run_load24 w g1 cs hg1 hc1 _ _ rfl _ (by simp [ev_ne, e1])) ?_
    refine wlBG 1 342 true rfl rfl rfl rfl (by simp [ev_ne, ev_eq, sz_put, hsz]) 13 #[(.agg ds), (.agg cs)] (.bool X) (run_call2 13 call12 _ _ _ _ _ _ rfl _ _ _ (by simp [ev_ne, ev_eq, sz_put, hsz]) (by simp [ev_eq, sz_put, hsz])) (ck) ?_
    intro wd1 bwd1
    have Bwd1 := bwd1
    refine wlVal rfl rfl (.bool X) (run_pick wd1 _ _ _ _ rfl _ true _ (by simp [ev_ne, ev_eq, sz_put, hsz]) (by simp [ev_eq, sz_put, hsz])) ?_
    refine wlVal rfl rfl (.bool X) (run_assign wd1 _ _ rfl _ _ (by simp [ev_eq, sz_put, hsz])) ?_
    exact wlDone <| h _ _ (by simp [def_put, hdf]) (by simp [ev_eq, sz_put, hsz]) Bwd1
end Go.Proofs.Ytmcmiojidgdjpaa
