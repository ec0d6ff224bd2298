/- The law MsgExact: its regions ahead of the last line, over any frame. -/
import Derived.Test.YtokgbolmjfmfpaaE3
namespace Go.Proofs.Ytokgbolmjfmfpaa
open Go.RowKit

theorem wlB {ops : Array Oper} {rest : List Oper} {Q : Exit → Act → World → Prop} {a : Act} {w : World} {o : Oper} {d : Nat} (hd : o.dst = some d) (hg : o.guard = none) (f : FuncId) (args : Array Value) (v : Value)
    (hr : (execOp a.eval o).run Try.prog w = .ok (.enter f args) w) (hc : Calls Try.prog f args w fun e w' => e = .returned v ∧ Below w.heap.size w w') (h : ∀ w', Below w.heap.size w w' → WL ops Q rest (a.put (some d) v) w') : WL ops Q (o :: rest) a w :=
  ⟨wpList_step fun K hK => by
    rw [if_pos (wanted_none hg)]
    simp only [Oper.wp, hr, Oper.upon_enter, hd]
    refine hc.mono ?_
    rintro e w' ⟨rfl, b⟩
    exact hK _ _ (h w' b).out⟩
theorem wlE {ops : Array Oper} {rest : List Oper} {Q : Exit → Act → World → Prop} {a : Act} {w : World} {o : Oper} {d : Nat} (hd : o.dst = some d) (hg : o.guard = none) (f : FuncId) (args : Array Value) {R : Ending → World → Prop}
    (hr : (execOp a.eval o).run Try.prog w = .ok (.enter f args) w) (hc : Calls Try.prog f args w R) (h : ∀ e w', R e w' → ∃ v, e = .returned v ∧ WL ops Q rest (a.put (some d) v) w') : WL ops Q (o :: rest) a w :=
  ⟨wpList_step fun K hK => by
    rw [if_pos (wanted_none hg)]
    simp only [Oper.wp, hr, Oper.upon_enter, hd]
    refine hc.mono ?_
    intro e w' hR
    obtain ⟨v, rfl, hk⟩ := h e w' hR
    exact hK _ _ hk.out⟩
theorem call6 : ∀ args w, (callFunc 6 args).run Try.prog w = .ok (.enter 6 args) w := enters_of Try.func6 (by kernel_rfl) rfl
theorem call7 : ∀ args w, (callFunc 7 args).run Try.prog w = .ok (.enter 7 args) w := enters_of Try.func7 (by kernel_rfl) rfl
theorem call9 : ∀ args w, (callFunc 9 args).run Try.prog w = .ok (.enter 9 args) w := enters_of Try.func9 (by kernel_rfl) rfl
/-- The law's frame: where the two messages lie, and the list. -/
structure Fl (a : Act) (ga gb : Nat) (pl : Option Addr) (nl cl : Nat) : Prop where
  sz : a.tmps.size = 65
  df : a.defers = []
  e2 : a.eval (.tmp 2) = .slice pl nl cl
  e3 : a.eval (.tmp 3) = .pointer (some ⟨ga, 0, none⟩)
  e4 : a.eval (.tmp 4) = .pointer (some ⟨gb, 0, none⟩)
/-- Beside them, the two copies. -/
structure Fm (a : Act) (ga gb gi : Nat) (pl : Option Addr) (nl cl : Nat) (pk : Option Addr) (nk ck : Nat) : Prop where
  fl : Fl a ga gb pl nl cl
  e7 : a.eval (.tmp 7) = .pointer (some ⟨gi, 0, none⟩)
  e8 : a.eval (.tmp 8) = .slice pk nk ck
def l0_0 (p : String) : Oper := { dst := some 3, op := Op.box 24 (Operand.tmp 0), type := 0, pos := p, after := #[], guard := none }
def l0_1 (p : String) : Oper := { dst := some 4, op := Op.box 24 (Operand.tmp 1), type := 0, pos := p, after := #[], guard := none }
def l0_2 (p : String) : Oper := { dst := some 6, op := Op.assign (Operand.const (Value.bool false)), type := 4, pos := p, after := #[], guard := none }
def l0 (p : String) : Array Oper := #[l0_0 p, l0_1 p, l0_2 p]
set_option maxRecDepth 100000 in
set_option maxHeartbeats 1000000 in
theorem law0 {Q : Exit → Act → World → Prop} (id : Nat) (p : String) (a : Act) (w : World) (c0 c1 c2 c3 c4 c5 c6 c7 c8 c9 c10 c11 c12 c13 c14 c15 d0 d1 d2 d3 d4 d5 d6 d7 d8 d9 d10 d11 d12 d13 d14 d15 : Value) (pl : Option Addr) (nl cl : Nat) (hsz : a.tmps.size = 65) (hdf : a.defers = []) (e0 : a.eval (.tmp 0) = .agg #[c0, c1, c2, c3, c4, c5, c6, c7, c8, c9, c10, c11, c12, c13, c14, c15]) (e1 : a.eval (.tmp 1) = .agg #[d0, d1, d2, d3, d4, d5, d6, d7, d8, d9, d10, d11, d12, d13, d14, d15]) (e2 : a.eval (.tmp 2) = .slice pl nl cl)
    (h : ∀ a', Fl a' w.heap.size (w.alloc (.cells #[c0, c1, c2, c3, c4, c5, c6, c7, c8, c9, c10, c11, c12, c13, c14, c15] 24)).heap.size pl nl cl → Q .normal a' ((w.alloc (.cells #[c0, c1, c2, c3, c4, c5, c6, c7, c8, c9, c10, c11, c12, c13, c14, c15] 24)).alloc (.cells #[d0, d1, d2, d3, d4, d5, d6, d7, d8, d9, d10, d11, d12, d13, d14, d15] 24))) :
    (Code.region id (l0 p) false).wp Try.prog Q a w := by
  refine wlStart (l := [l0_0 p, l0_1 p, l0_2 p]) rfl ?_
  refine wlValw rfl rfl _ (run_box24 _ _ _ rfl _ c0 c1 c2 c3 c4 c5 c6 c7 c8 c9 c10 c11 c12 c13 c14 c15 e0) ?_
  refine wlValw rfl rfl _ (run_box24 _ _ _ rfl _ d0 d1 d2 d3 d4 d5 d6 d7 d8 d9 d10 d11 d12 d13 d14 d15 (by simp [ev_ne, e1])) ?_
  refine wlVal rfl rfl (.bool false) (run_assign _ _ _ rfl _ _ (by simp [ev_const])) ?_
  exact wlDone <| h _ ⟨by simp [sz_put, hsz], by simp [def_put, hdf], by simp [ev_ne, e2], by simp [ev_ne, ev_eq, hsz], by simp [ev_ne, ev_eq, sz_put, hsz]⟩
def l1_0 (p : String) : Oper := { dst := some 10, op := Op.load 24 (Operand.tmp 3), type := 24, pos := p, after := #[], guard := none }
def l1_1 (p : String) : Oper := { dst := some 11, op := Op.call { callee := Callee.value (Operand.func 6), args := #[Operand.tmp 10], argTypes := #[24] }, type := 4, pos := p, after := #[{ on := 0, ground := Ground.data }], guard := none }
def l1_2 (p : String) : Oper := { dst := some 12, op := Op.move (Operand.tmp 11), type := 4, pos := p, after := #[{ on := 1, ground := Ground.data }, { on := 1, ground := Ground.chain }], guard := none }
def l1_3 (p : String) : Oper := { dst := some 13, op := Op.load 24 (Operand.tmp 4), type := 24, pos := p, after := #[{ on := 2, ground := Ground.guard }], guard := some (2, false) }
def l1_4 (p : String) : Oper := { dst := some 14, op := Op.call { callee := Callee.value (Operand.func 6), args := #[Operand.tmp 13], argTypes := #[24] }, type := 4, pos := p, after := #[{ on := 3, ground := Ground.data }, { on := 2, ground := Ground.chain }, { on := 2, ground := Ground.guard }], guard := some (2, false) }
def l1_5 (p : String) : Oper := { dst := some 15, op := Op.pick (Operand.tmp 12) (Operand.const (Value.bool true)) (Operand.tmp 14), type := 4, pos := p, after := #[{ on := 2, ground := Ground.data }, { on := 4, ground := Ground.data }], guard := none }
def l1_6 (p : String) : Oper := { dst := some 16, op := Op.move (Operand.tmp 15), type := 4, pos := p, after := #[{ on := 5, ground := Ground.data }, { on := 4, ground := Ground.chain }], guard := none }
def l1_7 (p : String) : Oper := { dst := some 17, op := Op.move (Operand.tmp 2), type := 22, pos := p, after := #[{ on := 6, ground := Ground.guard }], guard := some (6, false) }
def l1_8 (p : String) : Oper := { dst := some 18, op := Op.call { callee := Callee.builtin Builtin.len, args := #[Operand.tmp 17], argTypes := #[22] }, type := 3, pos := p, after := #[{ on := 7, ground := Ground.data }, { on := 6, ground := Ground.guard }], guard := some (6, false) }
def l1_9 (p : String) : Oper := { dst := some 19, op := Op.binOp BinOp.gtr 3 (Operand.tmp 18) (Operand.const (Value.int IntKind.i64 50)) 3, type := 4, pos := p, after := #[{ on := 8, ground := Ground.data }, { on := 6, ground := Ground.guard }], guard := some (6, false) }
def l1_10 (p : String) : Oper := { dst := some 20, op := Op.pick (Operand.tmp 16) (Operand.const (Value.bool true)) (Operand.tmp 19), type := 4, pos := p, after := #[{ on := 6, ground := Ground.data }, { on := 9, ground := Ground.data }], guard := none }
def l1 (p : String) : Array Oper := #[l1_0 p, l1_1 p, l1_2 p, l1_3 p, l1_4 p, l1_5 p, l1_6 p, l1_7 p, l1_8 p, l1_9 p, l1_10 p]
set_option maxRecDepth 100000 in
set_option maxHeartbeats 1000000 in
theorem law1 {Q : Exit → Act → World → Prop} (id : Nat) (p : String) (a : Act) (w : World) (ga gb : Nat) (ca cb : Array Value) (pl : Option Addr) (nl cl : Nat) (xa xb : Bool) (f : Fl a ga gb pl nl cl) (hga : w.heap[ga]? = some (.cells ca 24)) (hgb : w.heap[gb]? = some (.cells cb 24)) (sga : ca.size = 16) (sgb : cb.size = 16)
    (cA : ∀ w, Calls Try.prog 6 #[.agg ca] w fun e w' => e = .returned (.bool xa) ∧ Below w.heap.size w w') (cB : ∀ w, Calls Try.prog 6 #[.agg cb] w fun e w' => e = .returned (.bool xb) ∧ Below w.heap.size w w')
    (h : ∀ a' w', Fl a' ga gb pl nl cl → a'.eval (.tmp 20) = .bool (xa || xb || decide (50 < (nl : Int))) → Below w.heap.size w w' → Q .normal a' w') :
    (Code.region id (l1 p) false).wp Try.prog Q a w := by
  have bgb : gb < w.heap.size := (Array.getElem?_eq_some_iff.1 hgb).1
  have hsz := f.sz
  have hdf := f.df
  have e2 := f.e2
  have e3 := f.e3
  have e4 := f.e4
  refine wlStart (l := [l1_0 p, l1_1 p, l1_2 p, l1_3 p, l1_4 p, l1_5 p, l1_6 p, l1_7 p, l1_8 p, l1_9 p, l1_10 p]) rfl ?_
  refine wlVal rfl rfl (.agg ca) (run_load24 w ga ca hga sga _ _ rfl _ (by simp [e3])) ?_
  refine wlB rfl rfl 6 #[(.agg ca)] (.bool xa) (run_call1 6 call6 _ _ _ _ rfl _ _ (by simp [ev_eq, hsz])) (cA _) ?_
  intro wd1 bwd1
  have Bwd1 := bwd1
  cases xa with
  | false =>
    refine wlVal rfl rfl (.bool false) (run_move wd1 _ _ rfl _ _ (by simp [ev_eq, sz_put, hsz])) ?_
    refine wlG 2 12 false rfl rfl rfl rfl (by simp [ev_eq, sz_put, hsz]) (.agg cb) (run_load24 wd1 gb cb ((Bwd1.block gb bgb).trans hgb) sgb _ _ rfl _ (by simp [ev_ne, e4])) ?_
    refine wlBG 2 12 false rfl rfl rfl rfl (by simp [ev_ne, ev_eq, sz_put, hsz]) 6 #[(.agg cb)] (.bool xb) (run_call1 6 call6 _ _ _ _ rfl _ _ (by simp [ev_eq, sz_put, hsz])) (cB _) ?_
    intro wd2 bwd2
    have Bwd2 := below_of Bwd1 bwd2
    cases xb with
    | false =>
      refine wlVal rfl rfl (.bool false) (run_pick wd2 _ _ _ _ rfl _ false _ (by simp [ev_ne, ev_eq, sz_put, hsz]) (by simp [ev_eq, sz_put, hsz])) ?_
      refine wlVal rfl rfl (.bool false) (run_move wd2 _ _ rfl _ _ (by simp [ev_eq, sz_put, hsz])) ?_
      refine wlG 6 16 false rfl rfl rfl rfl (by simp [ev_eq, sz_put, hsz]) (.slice pl nl cl) (run_move wd2 _ _ rfl _ _ (by simp [ev_ne, e2])) ?_
      refine wlG 6 16 false rfl rfl rfl rfl (by simp [ev_ne, ev_eq, sz_put, hsz]) (.int .i64 (nl : Int)) (run_len wd2 _ _ rfl _ pl nl cl (by simp [ev_eq, sz_put, hsz])) ?_
      refine wlG 6 16 false rfl rfl rfl rfl (by simp [ev_ne, ev_eq, sz_put, hsz]) (.bool (decide (50 < (nl : Int)))) (run_gtr3 wd2 _ _ _ rfl _ (nl : Int) 50 (by simp [ev_eq, sz_put, hsz]) (by simp [ev_const])) ?_
      refine wlVal rfl rfl (.bool (decide (50 < (nl : Int)))) (run_pick wd2 _ _ _ _ rfl _ false _ (by simp [ev_ne, ev_eq, sz_put, hsz]) (by simp [ev_eq, sz_put, hsz])) ?_
      exact wlDone <| h _ _ ⟨by simp [sz_put, hsz], by simp [def_put, hdf], by simp [ev_ne, e2], by simp [ev_ne, e3], by simp [ev_ne, e4]⟩ (by simp [ev_eq, sz_put, hsz]) Bwd2
    | true =>
      refine wlVal rfl rfl (.bool true) (run_pick wd2 _ _ _ _ rfl _ false _ (by simp [ev_ne, ev_eq, sz_put, hsz]) (by simp [ev_eq, sz_put, hsz])) ?_
      refine wlVal rfl rfl (.bool true) (run_move wd2 _ _ rfl _ _ (by simp [ev_eq, sz_put, hsz])) ?_
      refine wlN 6 16 false true rfl rfl rfl rfl (by simp [ev_eq, sz_put, hsz]) (by decide) ?_
      refine wlN 6 16 false true rfl rfl rfl rfl (by simp [ev_ne, ev_eq, sz_put, hsz]) (by decide) ?_
      refine wlN 6 16 false true rfl rfl rfl rfl (by simp [ev_ne, ev_eq, sz_put, hsz]) (by decide) ?_
      refine wlVal rfl rfl (.bool true) (run_pick wd2 _ _ _ _ rfl _ true _ (by simp [ev_ne, ev_eq, sz_put, hsz]) (by simp [ev_const])) ?_
      exact wlDone <| h _ _ ⟨by simp [sz_put, hsz], by simp [def_put, hdf], by simp [ev_ne, e2], by simp [ev_ne, e3], by simp [ev_ne, e4]⟩ (by simp [ev_eq, sz_put, hsz]) Bwd2
  | true =>
    refine wlVal rfl rfl (.bool true) (run_move wd1 _ _ rfl _ _ (by simp [ev_eq, sz_put, hsz])) ?_
    refine wlN 2 12 false true rfl rfl rfl rfl (by simp [ev_eq, sz_put, hsz]) (by decide) ?_
    refine wlN 2 12 false true rfl rfl rfl rfl (by simp [ev_ne, ev_eq, sz_put, hsz]) (by decide) ?_
    refine wlVal rfl rfl (.bool true) (run_pick wd1 _ _ _ _ rfl _ true _ (by simp [ev_ne, ev_eq, sz_put, hsz]) (by simp [ev_const])) ?_
    refine wlVal rfl rfl (.bool true) (run_move wd1 _ _ rfl _ _ (by simp [ev_eq, sz_put, hsz])) ?_
    refine wlN 6 16 false true rfl rfl rfl rfl (by simp [ev_eq, sz_put, hsz]) (by decide) ?_
    refine wlN 6 16 false true rfl rfl rfl rfl (by simp [ev_ne, ev_eq, sz_put, hsz]) (by decide) ?_
    refine wlN 6 16 false true rfl rfl rfl rfl (by simp [ev_ne, ev_eq, sz_put, hsz]) (by decide) ?_
    refine wlVal rfl rfl (.bool true) (run_pick wd1 _ _ _ _ rfl _ true _ (by simp [ev_ne, ev_eq, sz_put, hsz]) (by simp [ev_const])) ?_
    exact wlDone <| h _ _ ⟨by simp [sz_put, hsz], by simp [def_put, hdf], by simp [ev_ne, e2], by simp [ev_ne, e3], by simp [ev_ne, e4]⟩ (by simp [ev_eq, sz_put, hsz]) Bwd1
def l2_0 (p : String) : Oper := { dst := some 6, op := Op.assign (Operand.const (Value.bool true)), type := 4, pos := p, after := #[], guard := none }
def l2 (p : String) : Array Oper := #[l2_0 p]
set_option maxRecDepth 100000 in
set_option maxHeartbeats 1000000 in
theorem law2 {Q : Exit → Act → World → Prop} (id : Nat) (p : String) (a : Act) (w : World) (hsz : a.tmps.size = 65) (h : ∀ a', a'.defers = a.defers → a'.eval (.tmp 6) = .bool true → Q .normal a' w) :
    (Code.region id (l2 p) false).wp Try.prog Q a w := by
  refine wlStart (l := [l2_0 p]) rfl ?_
  refine wlVal rfl rfl (.bool true) (run_assign _ _ _ rfl _ _ (by simp [ev_const])) ?_
  exact wlDone <| h _ (by simp [def_put]) (by simp [ev_eq, hsz])
def l3_0 (p : String) : Oper := { dst := some 21, op := Op.load 24 (Operand.tmp 3), type := 24, pos := p, after := #[], guard := none }
def l3_1 (p : String) : Oper := { dst := some 22, op := Op.call { callee := Callee.value (Operand.func 7), args := #[Operand.tmp 21], argTypes := #[24] }, type := 24, pos := p, after := #[{ on := 0, ground := Ground.data }], guard := none }
def l3_2 (p : String) : Oper := { dst := some 23, op := Op.move (Operand.tmp 2), type := 22, pos := p, after := #[], guard := none }
def l3_3 (p : String) : Oper := { dst := some 24, op := Op.call { callee := Callee.value (Operand.func 8), args := #[Operand.tmp 23], argTypes := #[22] }, type := 22, pos := p, after := #[{ on := 2, ground := Ground.data }, { on := 1, ground := Ground.chain }], guard := none }
def l3_4 (p : String) : Oper := { dst := some 7, op := Op.alloc 24, type := 0, pos := p, after := #[], guard := none }
def l3_5 (p : String) : Oper := { dst := none, op := Op.store 24 (Operand.tmp 7) (Operand.tmp 22), type := 0, pos := p, after := #[{ on := 4, ground := Ground.data }, { on := 1, ground := Ground.data }, { on := 3, ground := Ground.chain }, { on := 0, ground := Ground.phase }, { on := 1, ground := Ground.phase }, { on := 2, ground := Ground.textOnly Departure.lateStores }, { on := 3, ground := Ground.textOnly Departure.lateStoresUnsure }, { on := 4, ground := Ground.phase }], guard := none }
def l3_6 (p : String) : Oper := { dst := some 8, op := Op.assign (Operand.tmp 24), type := 22, pos := p, after := #[{ on := 3, ground := Ground.data }, { on := 5, ground := Ground.chain }, { on := 0, ground := Ground.phase }, { on := 1, ground := Ground.phase }, { on := 2, ground := Ground.phase }, { on := 3, ground := Ground.phase }, { on := 4, ground := Ground.phase }, { on := 5, ground := Ground.phase }], guard := none }
def l3 (p : String) : Array Oper := #[l3_0 p, l3_1 p, l3_2 p, l3_3 p, l3_4 p, l3_5 p, l3_6 p]
set_option maxRecDepth 100000 in
set_option maxHeartbeats 1000000 in
theorem law3 {Q : Exit → Act → World → Prop} (id : Nat) (p : String) (a : Act) (w : World) (ga gb : Nat) (m : Mg) (F G L : Nat → Int) (pp : Option Addr) (n cp : Nat) (pt : Option Addr) (k ct : Nat) (pl : Option Addr) (nl cl : Nat) (f : Fl a ga gb pl nl cl) (hga : w.heap[ga]? = some (.cells #[.int .i64 m.kd, .int .i64 m.fr, .int .i64 m.fi, .int .i64 m.tw, .int .i64 m.ti, .int .i64 m.tp, .int .i64 m.ep, .int .i64 m.sq, .int .i64 m.la, .int .i64 m.va, .int .i64 m.no, .int .i64 m.ic, .int .i64 m.ct, .int .i64 m.hp, .slice pp n cp, .slice pt k ct] 24))
    (hp : Sl .i64 w (.slice pp n cp) n F) (ht : Sl .i64 w (.slice pt k ct) k G) (hl : Sl .i64 w (.slice pl nl cl) nl L) (hn : n ≤ 1000) (hk : k ≤ 1000) (hm : nl ≤ 1000)
    (h : ∀ a' w' gi q c r d s e, Fm a' ga gb gi pl nl cl s nl e → w'.heap[gi]? = some (.cells #[.int .i64 m.kd, .int .i64 m.fr, .int .i64 m.fi, .int .i64 m.tw, .int .i64 m.ti, .int .i64 m.tp, .int .i64 m.ep, .int .i64 m.sq, .int .i64 m.la, .int .i64 m.va, .int .i64 m.no, .int .i64 m.ic, .int .i64 m.ct, .int .i64 m.hp, .slice q n c, .slice r k d] 24) → Sl .i64 w' (.slice q n c) n F → Sl .i64 w' (.slice r k d) k G → Sl .i64 w' (.slice s nl e) nl L → Below w.heap.size w w' → Q .normal a' w') :
    (Code.region id (l3 p) false).wp Try.prog Q a w := by
  have hsz := f.sz
  have hdf := f.df
  have e2 := f.e2
  have e3 := f.e3
  have e4 := f.e4
  refine wlStart (l := [l3_0 p, l3_1 p, l3_2 p, l3_3 p, l3_4 p, l3_5 p, l3_6 p]) rfl ?_
  refine wlVal rfl rfl (.agg #[.int .i64 m.kd, .int .i64 m.fr, .int .i64 m.fi, .int .i64 m.tw, .int .i64 m.ti, .int .i64 m.tp, .int .i64 m.ep, .int .i64 m.sq, .int .i64 m.la, .int .i64 m.va, .int .i64 m.no, .int .i64 m.ic, .int .i64 m.ct, .int .i64 m.hp, .slice pp n cp, .slice pt k ct]) (run_load24 w ga _ hga rfl _ _ rfl _ (by simp [e3])) ?_
  refine wlE rfl rfl 7 #[.agg #[.int .i64 m.kd, .int .i64 m.fr, .int .i64 m.fi, .int .i64 m.tw, .int .i64 m.ti, .int .i64 m.tp, .int .i64 m.ep, .int .i64 m.sq, .int .i64 m.la, .int .i64 m.va, .int .i64 m.no, .int .i64 m.ic, .int .i64 m.ct, .int .i64 m.hp, .slice pp n cp, .slice pt k ct]] (run_call1 7 call7 _ _ _ _ rfl _ _ (by simp [ev_eq, hsz])) (twinMsg_any m F G (.slice pp n cp) (.slice pt k ct) n k w hp ht hn hk) ?_
  rintro e w1 ⟨q, c, r, d, rfl, o1, o2, b1⟩
  refine ⟨_, rfl, ?_⟩
  unfold mv
  refine wlVal rfl rfl (.slice pl nl cl) (run_move _ _ _ rfl _ _ (by simp [ev_ne, e2])) ?_
  refine wlE rfl rfl 8 #[.slice pl nl cl] (run_call1 8 call8 _ _ _ _ rfl _ _ (by simp [ev_eq, sz_put, hsz])) (twinInts_sl L (.slice pl nl cl) nl w1 (hl.below b1 (Nat.le_refl _)) (by omega)) ?_
  rintro e w2 ⟨s, e', rfl, o3, b2⟩
  refine ⟨_, rfl, ?_⟩
  refine wlValw rfl rfl _ (run_alloc24 _ _ rfl _) ?_
  refine wlLast rfl rfl (.tmp 7) (.tmp 22) rfl w2.heap.size #[.int .i64 m.kd, .int .i64 m.fr, .int .i64 m.fi, .int .i64 m.tw, .int .i64 m.ti, .int .i64 m.tp, .int .i64 m.ep, .int .i64 m.sq, .int .i64 m.la, .int .i64 m.va, .int .i64 m.no, .int .i64 m.ic, .int .i64 m.ct, .int .i64 m.hp, .slice q n c, .slice r k d] (by simp [ev_eq, sz_put, hsz]) (by simp [ev_ne, ev_eq, sz_put, hsz]) rfl zero16 rfl rfl (by simp [Value.oneCell']) ?_
  refine wlVal rfl rfl (.slice s nl e') (run_assign _ _ _ rfl _ _ (by simp [ev_ne, ev_eq, sz_put, hsz])) ?_
  have b3 : Below w2.heap.size w2 (w2.alloc (.cells #[.int .i64 m.kd, .int .i64 m.fr, .int .i64 m.fi, .int .i64 m.tw, .int .i64 m.ti, .int .i64 m.tp, .int .i64 m.ep, .int .i64 m.sq, .int .i64 m.la, .int .i64 m.va, .int .i64 m.no, .int .i64 m.ic, .int .i64 m.ct, .int .i64 m.hp, .slice q n c, .slice r k d] 24)) := (Below.refl _ _).alloc (Nat.le_refl _) _
  have b23 := below_of b2 b3
  exact wlDone <| h _ _ w2.heap.size q c r d s e' ⟨⟨by simp [sz_put, hsz], by simp [def_put, hdf], by simp [ev_ne, e2], by simp [ev_ne, e3], by simp [ev_ne, e4]⟩, by simp [ev_ne, ev_eq, sz_put, hsz], by simp [ev_eq, sz_put, hsz]⟩ (heap_alloc_new _ _) ((sl_of_owns o1).below b23 (Nat.le_refl _)) ((sl_of_owns o2).below b23 (Nat.le_refl _)) ((sl_of_owns o3).below b3 (Nat.le_refl _)) (below_of b1 b23)
def l4_0 (p : String) : Oper := { dst := some 9, op := Op.assign (Operand.const (Value.int IntKind.i64 5)), type := 28, pos := p, after := #[], guard := none }
def l4 (p : String) : Array Oper := #[l4_0 p]
set_option maxRecDepth 100000 in
set_option maxHeartbeats 1000000 in
theorem law4 {Q : Exit → Act → World → Prop} (id : Nat) (p : String) (a : Act) (w : World) (ga gb gi : Nat) (pl : Option Addr) (nl cl : Nat) (pk : Option Addr) (nk ck : Nat) (f : Fm a ga gb gi pl nl cl pk nk ck) (h : ∀ a', Fm a' ga gb gi pl nl cl pk nk ck → a'.eval (.tmp 9) = .int .i64 5 → Q .normal a' w) :
    (Code.region id (l4 p) false).wp Try.prog Q a w := by
  have hsz := f.fl.sz
  have hdf := f.fl.df
  have e2 := f.fl.e2
  have e3 := f.fl.e3
  have e4 := f.fl.e4
  have e7 := f.e7
  have e8 := f.e8
  refine wlStart (l := [l4_0 p]) rfl ?_
  refine wlVal rfl rfl (.int .i64 5) (run_assign _ _ _ rfl _ _ (by simp [ev_const])) ?_
  exact wlDone <| h _ ⟨⟨by simp [sz_put, hsz], by simp [def_put, hdf], by simp [ev_ne, e2], by simp [ev_ne, e3], by simp [ev_ne, e4]⟩, by simp [ev_ne, e7], by simp [ev_ne, e8]⟩ (by simp [ev_eq, hsz])
def l6_0 (p : String) : Oper := { dst := some 9, op := Op.assign (Operand.const (Value.int IntKind.i64 0)), type := 28, pos := p, after := #[], guard := none }
def l6 (p : String) : Array Oper := #[l6_0 p]
set_option maxRecDepth 100000 in
set_option maxHeartbeats 1000000 in
theorem law6 {Q : Exit → Act → World → Prop} (id : Nat) (p : String) (a : Act) (w : World) (ga gb gi : Nat) (pl : Option Addr) (nl cl : Nat) (pk : Option Addr) (nk ck : Nat) (f : Fm a ga gb gi pl nl cl pk nk ck) (h : ∀ a', Fm a' ga gb gi pl nl cl pk nk ck → a'.eval (.tmp 9) = .int .i64 0 → Q .normal a' w) :
    (Code.region id (l6 p) false).wp Try.prog Q a w := by
  have hsz := f.fl.sz
  have hdf := f.fl.df
  have e2 := f.fl.e2
  have e3 := f.fl.e3
  have e4 := f.fl.e4
  have e7 := f.e7
  have e8 := f.e8
  refine wlStart (l := [l6_0 p]) rfl ?_
  refine wlVal rfl rfl (.int .i64 0) (run_assign _ _ _ rfl _ _ (by simp [ev_const])) ?_
  exact wlDone <| h _ ⟨⟨by simp [sz_put, hsz], by simp [def_put, hdf], by simp [ev_ne, e2], by simp [ev_ne, e3], by simp [ev_ne, e4]⟩, by simp [ev_ne, e7], by simp [ev_ne, e8]⟩ (by simp [ev_eq, hsz])
def l5_0 (p : String) : Oper := { dst := some 25, op := Op.load 24 (Operand.tmp 3), type := 24, pos := p, after := #[], guard := none }
def l5_1 (p : String) : Oper := { dst := some 26, op := Op.call { callee := Callee.value (Operand.func 9), args := #[Operand.tmp 25], argTypes := #[24] }, type := 4, pos := p, after := #[{ on := 0, ground := Ground.data }], guard := none }
def l5 (p : String) : Array Oper := #[l5_0 p, l5_1 p]
set_option maxRecDepth 100000 in
set_option maxHeartbeats 1000000 in
theorem law5 {Q : Exit → Act → World → Prop} (id : Nat) (p : String) (a : Act) (w : World) (ca : Array Value) (z : Int) (X : Bool) (ga gb gi : Nat) (pl : Option Addr) (nl cl : Nat) (pk : Option Addr) (nk ck : Nat) (f : Fm a ga gb gi pl nl cl pk nk ck) (e9 : a.eval (.tmp 9) = .int .i64 z) (hga : w.heap[ga]? = some (.cells ca 24)) (sga : ca.size = 16) (cR : Calls Try.prog 9 #[.agg ca] w fun e w' => e = .returned (.bool X) ∧ Below w.heap.size w w')
    (h : ∀ a' w', Fm a' ga gb gi pl nl cl pk nk ck → a'.eval (.tmp 9) = .int .i64 z → a'.eval (.tmp 26) = .bool X → Below w.heap.size w w' → Q .normal a' w') :
    (Code.region id (l5 p) false).wp Try.prog Q a w := by
  have hsz := f.fl.sz
  have hdf := f.fl.df
  have e2 := f.fl.e2
  have e3 := f.fl.e3
  have e4 := f.fl.e4
  have e7 := f.e7
  have e8 := f.e8
  refine wlStart (l := [l5_0 p, l5_1 p]) rfl ?_
  refine wlVal rfl rfl (.agg ca) (run_load24 w ga ca hga sga _ _ rfl _ (by simp [e3])) ?_
  refine wlB rfl rfl 9 #[.agg ca] (.bool X) (run_call1 9 call9 _ _ _ _ rfl _ _ (by simp [ev_eq, hsz])) cR ?_
  intro w1 b1
  exact wlDone <| h _ _ ⟨⟨by simp [sz_put, hsz], by simp [def_put, hdf], by simp [ev_ne, e2], by simp [ev_ne, e3], by simp [ev_ne, e4]⟩, by simp [ev_ne, e7], by simp [ev_ne, e8]⟩ (by simp [ev_ne, e9]) (by simp [ev_eq, sz_put, hsz]) b1
end Go.Proofs.Ytokgbolmjfmfpaa
