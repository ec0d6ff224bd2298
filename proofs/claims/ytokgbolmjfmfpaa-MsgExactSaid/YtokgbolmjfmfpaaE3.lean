/- The page's Msg: what its frame holds from the switch on; steps of a region that keeps its order, over any frame. -/
import Derived.Test.YtokgbolmjfmfpaaE2
namespace Go.Proofs.Ytokgbolmjfmfpaa
open Go.RowKit

/-- The frame's size, and where the two messages lie. -/
structure Fa (a : Act) (g1 g3 : Nat) : Prop where
  sz : a.tmps.size = 347
  df : a.defers = []
  e1 : a.eval (.tmp 1) = .pointer (some ⟨g1, 0, none⟩)
  e3 : a.eval (.tmp 3) = .pointer (some ⟨g3, 0, none⟩)
/-- Beside them: whether all is well so far, and the kind. -/
structure Fr (a : Act) (g1 g3 : Nat) (o : Bool) (kd : Int) : Prop where
  fa : Fa a g1 g3
  e4 : a.eval (.tmp 4) = .bool o
  ek : a.eval (.tmp 63) = .int .i64 kd
theorem Fa.put {a : Act} {g1 g3 : Nat} (h : Fa a g1 g3) (d : Nat) (v : Value) (h1 : d ≠ 1) (h3 : d ≠ 3) : Fa (a.put (some d) v) g1 g3 :=
  ⟨by rw [sz_put]; exact h.sz, by rw [def_put]; exact h.df, by rw [ev_ne _ _ _ _ h1]; exact h.e1, by rw [ev_ne _ _ _ _ h3]; exact h.e3⟩
theorem Fr.put {a : Act} {g1 g3 : Nat} {o : Bool} {kd : Int} (h : Fr a g1 g3 o kd) (d : Nat) (v : Value) (h1 : d ≠ 1) (h3 : d ≠ 3) (h4 : d ≠ 4) (hk : d ≠ 63) : Fr (a.put (some d) v) g1 g3 o kd :=
  ⟨h.fa.put d v h1 h3, by rw [ev_ne _ _ _ _ h4]; exact h.e4, by rw [ev_ne _ _ _ _ hk]; exact h.ek⟩
theorem Fr.ok {a : Act} {g1 g3 : Nat} {o : Bool} {kd : Int} (h : Fr a g1 g3 o kd) (b : Bool) : Fr (a.put (some 4) (.bool b)) g1 g3 b kd :=
  ⟨h.fa.put 4 _ (by decide) (by decide), ev_eq _ _ _ (by rw [h.fa.sz]; decide), by rw [ev_ne _ _ _ _ (by decide)]; exact h.ek⟩
/-- The rest of a region that keeps its order. (One word, so that nobody opens it.) -/
structure WL (ops : Array Oper) (Q : Exit → Act → World → Prop) (l : List Oper) (a : Act) (w : World) : Prop where
  out : wpList Try.prog ops Q l a w
theorem wlStart {ops : Array Oper} {Q : Exit → Act → World → Prop} {id : Nat} {a : Act} {w : World} {l : List Oper} (hl : ops.toList = l) (h : WL ops Q l a w) : (Code.region id ops false).wp Try.prog Q a w :=
  wp_region_list (by rw [hl]; exact h.out)
theorem wlDone {ops : Array Oper} {Q : Exit → Act → World → Prop} {a : Act} {w : World} (h : Q .normal a w) : WL ops Q [] a w := ⟨h⟩
theorem wlStep {ops : Array Oper} {rest : List Oper} {Q : Exit → Act → World → Prop} {a : Act} {w : World} {o : Oper} {w' : World} {v : Value} {d : Nat} (hd : o.dst = some d) (hw : Region.wanted o (yielded ops a.tmps) = true) (hr : (execOp a.eval o).run Try.prog w = .ok (.value v) w') (h : WL ops Q rest (a.put (some d) v) w') : WL ops Q (o :: rest) a w :=
  ⟨wpList_step fun K hK => by
    rw [if_pos hw]
    simp only [Oper.wp, hr, Oper.upon, hd]
    exact hK _ _ h.out⟩
theorem wlVal {ops : Array Oper} {rest : List Oper} {Q : Exit → Act → World → Prop} {a : Act} {w : World} {o : Oper} {d : Nat} (hd : o.dst = some d) (hg : o.guard = none) (v : Value) (hr : (execOp a.eval o).run Try.prog w = .ok (.value v) w) (h : WL ops Q rest (a.put (some d) v) w) : WL ops Q (o :: rest) a w :=
  wlStep hd (wanted_none hg) hr h
theorem wlValw {ops : Array Oper} {rest : List Oper} {Q : Exit → Act → World → Prop} {a : Act} {w : World} {w' : World} {o : Oper} {d : Nat} (hd : o.dst = some d) (hg : o.guard = none) (v : Value) (hr : (execOp a.eval o).run Try.prog w = .ok (.value v) w') (h : WL ops Q rest (a.put (some d) v) w') : WL ops Q (o :: rest) a w :=
  wlStep hd (wanted_none hg) hr h
theorem wlG {ops : Array Oper} {rest : List Oper} {Q : Exit → Act → World → Prop} {a : Act} {w : World} {o : Oper} {d : Nat} {oj : Oper} (j jd : Nat) (b : Bool) (hd : o.dst = some d) (hg : o.guard = some (j, b)) (hj : ops[j]? = some oj) (hjd : oj.dst = some jd) (hv : a.eval (.tmp jd) = .bool b) (v : Value) (hr : (execOp a.eval o).run Try.prog w = .ok (.value v) w) (h : WL ops Q rest (a.put (some d) v) w) : WL ops Q (o :: rest) a w :=
  wlStep hd (wanted_yes hg hj hjd hv) hr h
theorem wlN {ops : Array Oper} {rest : List Oper} {Q : Exit → Act → World → Prop} {a : Act} {w : World} {o oj : Oper} {d : Nat} (j jd : Nat) (b c : Bool) (hd : o.dst = some d) (hg : o.guard = some (j, b)) (hj : ops[j]? = some oj) (hjd : oj.dst = some jd) (hv : a.eval (.tmp jd) = .bool c) (hn : c ≠ b) (h : WL ops Q rest (a.put (some d) undef) w) : WL ops Q (o :: rest) a w :=
  ⟨wpList_step fun K hK => by
    rw [wanted_no hg hj hjd hv hn, hd]
    exact hK _ _ h.out⟩
theorem wlStore {ops : Array Oper} {rest : List Oper} {Q : Exit → Act → World → Prop} {a : Act} {w : World} {w' : World} {o : Oper} (hd : o.dst = none) (hg : o.guard = none) (hr : (execOp a.eval o).run Try.prog w = .ok .skip w') (h : WL ops Q rest a w') : WL ops Q (o :: rest) a w :=
  ⟨wpList_step fun K hK => by
    rw [if_pos (wanted_none hg)]
    simp only [Oper.wp, hr, Oper.upon, hd]
    exact hK _ _ h.out⟩
theorem wlCallW {ops : Array Oper} {rest : List Oper} {Q : Exit → Act → World → Prop} {a : Act} {w : World} {o : Oper} {d : Nat} (hd : o.dst = some d) (hw : Region.wanted o (yielded ops a.tmps) = true) (f : FuncId) (args : Array Value) (v : Value)
    (hr : (execOp a.eval o).run Try.prog w = .ok (.enter f args) w) (hc : Calls Try.prog f args w fun e w' => e = .returned v ∧ w' = w) (h : WL ops Q rest (a.put (some d) v) w) : WL ops Q (o :: rest) a w :=
  ⟨wpList_step fun K hK => by
    rw [if_pos hw]
    simp only [Oper.wp, hr, Oper.upon_enter, hd]
    refine hc.mono ?_
    rintro e w' ⟨rfl, rfl⟩
    exact hK _ _ h.out⟩
theorem wlC {ops : Array Oper} {rest : List Oper} {Q : Exit → Act → World → Prop} {a : Act} {w : World} {o : Oper} {d : Nat} (hd : o.dst = some d) (hg : o.guard = none) (f : FuncId) (args : Array Value) (v : Value)
    (hr : (execOp a.eval o).run Try.prog w = .ok (.enter f args) w) (hc : Calls Try.prog f args w fun e w' => e = .returned v ∧ w' = w) (h : WL ops Q rest (a.put (some d) v) w) : WL ops Q (o :: rest) a w :=
  wlCallW hd (wanted_none hg) f args v hr hc h
theorem wlCG {ops : Array Oper} {rest : List Oper} {Q : Exit → Act → World → Prop} {a : Act} {w : World} {o : Oper} {d : Nat} {oj : Oper} (j jd : Nat) (b : Bool) (hd : o.dst = some d) (hg : o.guard = some (j, b)) (hj : ops[j]? = some oj) (hjd : oj.dst = some jd) (hv : a.eval (.tmp jd) = .bool b) (f : FuncId) (args : Array Value) (v : Value)
    (hr : (execOp a.eval o).run Try.prog w = .ok (.enter f args) w) (hc : Calls Try.prog f args w fun e w' => e = .returned v ∧ w' = w) (h : WL ops Q rest (a.put (some d) v) w) : WL ops Q (o :: rest) a w :=
  wlCallW hd (wanted_yes hg hj hjd hv) f args v hr hc h
theorem wlBG {ops : Array Oper} {rest : List Oper} {Q : Exit → Act → World → Prop} {a : Act} {w : World} {o : Oper} {d : Nat} {oj : Oper} (j jd : Nat) (b : Bool) (hd : o.dst = some d) (hg : o.guard = some (j, b)) (hj : ops[j]? = some oj) (hjd : oj.dst = some jd) (hv : a.eval (.tmp jd) = .bool b) (f : FuncId) (args : Array Value) (v : Value)
    (hr : (execOp a.eval o).run Try.prog w = .ok (.enter f args) w) (hc : Calls Try.prog f args w fun e w' => e = .returned v ∧ Below w.heap.size w w') (h : ∀ w', Below w.heap.size w w' → WL ops Q rest (a.put (some d) v) w') : WL ops Q (o :: rest) a w :=
  ⟨wpList_step fun K hK => by
    rw [if_pos (wanted_yes hg hj hjd hv)]
    simp only [Oper.wp, hr, Oper.upon_enter, hd]
    refine hc.mono ?_
    rintro e w' ⟨rfl, b⟩
    exact hK _ _ (h w' b).out⟩
theorem wlBuilt {ops : Array Oper} {rest : List Oper} {Q : Exit → Act → World → Prop} {a : Act} {w : World} {o : Oper} {d : Nat} (hd : o.dst = some d) (hg : o.guard = none) (t : TypeId) (parts : Array (Nat × Operand)) (ho : o.op = .build t parts)
    (vs : List (Nat × Value)) (cs : Array Value) (hv : (parts.map fun (i, x) => (i, a.eval x)).toList = vs) (hb : Try.prog.built t vs = some cs)
    (h : WL ops Q rest (a.put (some d) (.agg cs)) w) : WL ops Q (o :: rest) a w :=
  ⟨wpList_built hg t parts ho vs cs hv hb (by rw [hd]; exact h.out)⟩
theorem wlLast {ops : Array Oper} {rest : List Oper} {Q : Exit → Act → World → Prop} {a : Act} {w : World} {o : Oper} (hd : o.dst = none) (hgd : o.guard = none) (x y : Operand) (ho : o.op = .store 24 x y)
    (g : Nat) (cells : Array Value) (hx : a.eval x = .pointer (some ⟨g, 0, none⟩)) (hy : a.eval y = .agg cells) (hg : g = w.heap.size) (old : Array Value) (hold : old.size = 16) (hc : cells.size = 16) (h1 : cells.all (·.oneCell') = true)
    (h : WL ops Q rest a (w.alloc (.cells cells 24))) : WL ops Q (o :: rest) a (w.alloc (.cells old 24)) :=
  ⟨wpList_store_last hgd x y ho g cells hx hy hg old hold hc h1 (by rw [hd]; exact h.out)⟩
theorem run_not (w : World) (o : Oper) (x : Operand) (ho : o.op = .unOp .not 4 x) (a : Act) (b : Bool) (hx : a.eval x = .bool b) : (execOp a.eval o).run Try.prog w = .ok (.value (.bool (!b))) w := by
  unfold execOp
  simp only [ho, hx]
  simp [go_sem]
theorem run_neq3 (w : World) (o : Oper) (x y : Operand) (ho : o.op = .binOp .neq 3 x y 3) (a : Act) (m n : Int) (hx : a.eval x = .int .i64 m) (hy : a.eval y = .int .i64 n) : (execOp a.eval o).run Try.prog w = .ok (.value (.bool (m != n))) w := by
  unfold execOp
  simp only [ho, hx, hy]
  simp [go_sem]
def zero16 : Array Value := #[.int .i64 0, .int .i64 0, .int .i64 0, .int .i64 0, .int .i64 0, .int .i64 0, .int .i64 0, .int .i64 0, .int .i64 0, .int .i64 0, .int .i64 0, .int .i64 0, .int .i64 0, .int .i64 0, .slice none 0 0, .slice none 0 0]
theorem run_alloc24 (w : World) (o : Oper) (ho : o.op = .alloc 24) (a : Act) : (execOp a.eval o).run Try.prog w = .ok (.value (.pointer (some ⟨w.heap.size, 0, none⟩))) (w.alloc (.cells zero16 24)) := by
  unfold execOp
  simp only [ho]
  simp [go_sem, zero16]
theorem run_box24 (w : World) (o : Oper) (x : Operand) (ho : o.op = .box 24 x) (a : Act) (c0 c1 c2 c3 c4 c5 c6 c7 c8 c9 c10 c11 c12 c13 c14 c15 : Value) (hx : a.eval x = .agg #[c0, c1, c2, c3, c4, c5, c6, c7, c8, c9, c10, c11, c12, c13, c14, c15]) : (execOp a.eval o).run Try.prog w = .ok (.value (.pointer (some ⟨w.heap.size, 0, none⟩))) (w.alloc (.cells #[c0, c1, c2, c3, c4, c5, c6, c7, c8, c9, c10, c11, c12, c13, c14, c15] 24)) := by
  unfold execOp
  simp only [ho, hx]
  simp [go_sem]
theorem call21 : ∀ args w, (callFunc 21 args).run Try.prog w = .ok (.enter 21 args) w := enters_of Try.func21 (by kernel_rfl) rfl
end Go.Proofs.Ytokgbolmjfmfpaa
