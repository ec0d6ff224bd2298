/- Walk of msg.limits: the least and the greatest numbers of a kind's fields. -/
import Derived.Test.YtokgbolmjfmfpaaA1
import Derived.OrdersHeld
namespace Go.Proofs.Ytokgbolmjfmfpaa
open Go.RowKit

/-- The least numbers of a message of this kind. -/
def lo (m : Mg) : Mg where
  kd := 1
  fr := 0
  fi := 1
  tw := 0
  ti := if m.kd = 1 then 0 else 1
  tp := 0
  ep := if m.kd = 7 ∨ m.kd = 8 ∨ m.kd = 9 then 1 else 0
  sq := if m.kd = 3 ∨ m.kd = 7 ∨ m.kd = 8 ∨ m.kd = 9 then 1 else 0
  la := if m.kd = 9 then m.sq else 0
  va := 0
  no := 0
  ic := if m.kd = 10 ∨ m.kd = 11 then 1 else 0
  ct := if m.kd = 10 ∨ m.kd = 11 ∨ m.kd = 12 ∨ m.kd = 13 then 1 else 0
  hp := 0
/-- The greatest ones. -/
def hi (m : Mg) : Mg where
  kd := 13
  fr := 7
  fi := 1073741824
  tw := 7
  ti := if m.kd = 1 then 0 else 1073741824
  tp := if m.kd = 1 then 0 else 3
  ep := if m.kd = 2 ∨ m.kd = 3 ∨ m.kd = 7 ∨ m.kd = 8 ∨ m.kd = 9 then 1073741824 else 0
  sq := if m.kd = 3 ∨ m.kd = 7 ∨ m.kd = 8 ∨ m.kd = 9 then 1073741824 else 0
  la := if m.kd = 3 ∨ m.kd = 9 then 1073741824 else 0
  va := if m.kd = 7 ∨ m.kd = 10 ∨ m.kd = 11 then 2147483647 else if m.kd = 12 then 7 else 0
  no := if m.kd = 4 ∨ m.kd = 10 ∨ m.kd = 11 then 7 else 0
  ic := if m.kd = 10 ∨ m.kd = 11 then 1073741824 else 0
  ct := if m.kd = 10 then 1073741824 else if m.kd = 11 ∨ m.kd = 12 ∨ m.kd = 13 then 40 else 0
  hp := if m.kd = 10 ∨ m.kd = 11 then 16 else 0
/-- A function that answers what two cells of its own hold, whole. -/
theorem ret_rows {fn : Func} {R : Ending → World → Prop} {a : Act} {w : World} (p q : Tmp) (h : fn.results = #[.cell p 24, .cell q 24]) (g k : Nat) (cs ds : Array Value)
    (hp : a.tmps.getD p undef = .pointer (some ⟨g, 0, none⟩)) (hq : a.tmps.getD q undef = .pointer (some ⟨k, 0, none⟩)) (hg : w.heap[g]? = some (.cells cs 24)) (hk : w.heap[k]? = some (.cells ds 24))
    (hc : cs.size = 16) (hd : ds.size = 16) (hde : a.defers = []) (hR : R (.returned (.tuple #[.agg cs, .agg ds])) w) : bodyPost Try.prog fn R .ret a w := by
  refine bodyPost_ret ?_ hde hR
  have hp' : a.tmps[p]?.getD undef = .pointer (some ⟨g, 0, none⟩) := by simpa using hp
  have hq' : a.tmps[q]?.getD undef = .pointer (some ⟨k, 0, none⟩) := by simpa using hq
  have h1 := run_loadVar_row (P := Try.prog) w g 24 24 cs (0, 0) _ hg Try.underlying24 rfl (by rw [hc]; exact info24)
  have h2 := run_loadVar_row (P := Try.prog) w k 24 24 ds (0, 0) _ hk Try.underlying24 rfl (by rw [hd]; exact info24)
  simp [results, h, hp', hq', asAddr, h1, h2]
theorem heap3_mid (w : World) (A B C : Obj) : (((w.alloc A).alloc B).alloc C).heap[w.heap.size + 1]? = some B := by
  exact (Below.heap_alloc ((w.alloc A).alloc B) C (w.heap.size + 1) (by simp)).trans (heap_alloc2_new w A B)
theorem heap3_new (w : World) (A B C : Obj) : (((w.alloc A).alloc B).alloc C).heap[w.heap.size + 1 + 1]? = some C := by
  have h := heap_alloc_new ((w.alloc A).alloc B) C
  have e : ((w.alloc A).alloc B).heap.size = w.heap.size + 1 + 1 := by simp
  rwa [e] at h
theorem heap3_mid_d (w : World) (A B C : Obj) : (((w.alloc A).alloc B).alloc C).drew.heap[w.heap.size + 1]? = some B := by rw [heap_drew]; exact heap3_mid w A B C
theorem heap3_new_d (w : World) (A B C : Obj) : (((w.alloc A).alloc B).alloc C).drew.heap[w.heap.size + 1 + 1]? = some C := by rw [heap_drew]; exact heap3_new w A B C
theorem heap3_mid_dd (w : World) (A B C : Obj) : (((w.alloc A).alloc B).alloc C).drew.drew.heap[w.heap.size + 1]? = some B := by rw [heap_drew]; exact heap3_mid_d w A B C
theorem heap3_new_dd (w : World) (A B C : Obj) : (((w.alloc A).alloc B).alloc C).drew.drew.heap[w.heap.size + 1 + 1]? = some C := by rw [heap_drew]; exact heap3_new_d w A B C
theorem below3 (w : World) (A B C : Obj) : Below w.heap.size w (((w.alloc A).alloc B).alloc C) := (((Below.refl _ _).alloc (Nat.le_refl _) _).alloc (by simp) _).alloc (by simp; omega) _
theorem built_lo : Try.prog.built 24 [(0, .int .i64 1), (2, .int .i64 1)] = some #[.int .i64 1, .int .i64 0, .int .i64 1, .int .i64 0, .int .i64 0, .int .i64 0, .int .i64 0, .int .i64 0, .int .i64 0, .int .i64 0, .int .i64 0, .int .i64 0, .int .i64 0, .int .i64 0, .slice none 0 0, .slice none 0 0] := by kernel_rfl
theorem wpList_built {P : Program} {ops : Array Oper} {rest : List Oper} {o : Oper} {a : Act} {w : World} {Q : Exit → Act → World → Prop} (hg : o.guard = none) (t : TypeId) (parts : Array (Nat × Operand)) (ho : o.op = .build t parts)
    (vs : List (Nat × Value)) (cs : Array Value) (hv : (parts.map fun (i, x) => (i, a.eval x)).toList = vs) (hb : P.built t vs = some cs)
    (h : wpList P ops Q rest (a.put o.dst (.agg cs)) w) : wpList P ops Q (o :: rest) a w :=
  wpList_build hg t parts ho (by rw [hv, hb]; rfl) (by rw [hv, hb]; exact h)
theorem built_hi : Try.prog.built 24 [(0, .int .i64 13), (1, .int .i64 7), (2, .int .i64 1073741824), (3, .int .i64 7)] = some #[.int .i64 13, .int .i64 7, .int .i64 1073741824, .int .i64 7, .int .i64 0, .int .i64 0, .int .i64 0, .int .i64 0, .int .i64 0, .int .i64 0, .int .i64 0, .int .i64 0, .int .i64 0, .int .i64 0, .slice none 0 0, .slice none 0 0] := by kernel_rfl
theorem setRow_last (w : World) (old cells : Array Value) (t : TypeId) : (w.alloc (.cells old t)).setRow w.heap.size cells = w.alloc (.cells cells t) := by
  unfold World.setRow World.alloc
  congr 1
  apply Array.ext_getElem?
  intro i
  rw [Array.getElem?_modify, Array.getElem?_push, Array.getElem?_push]
  by_cases h : w.heap.size = i
  · simp [h]
  · rw [if_neg h, if_neg (fun e => h e.symm), if_neg (fun e => h e.symm)]
theorem setRow_past (w : World) (g : Nat) (cells : Array Value) (o : Obj) (h : g < w.heap.size) : (w.alloc o).setRow g cells = (w.setRow g cells).alloc o := by
  unfold World.setRow World.alloc
  congr 1
  apply Array.ext_getElem?
  intro i
  rw [Array.getElem?_modify, Array.getElem?_push, Array.getElem?_push]
  by_cases h1 : i = w.heap.size
  · subst h1
    simp [show ¬ g = w.heap.size by omega]
  · simp [h1, Array.getElem?_modify]
theorem wpList_store_last {ops : Array Oper} {rest : List Oper} {o : Oper} {a : Act} {w : World} {Q : Exit → Act → World → Prop} (hgd : o.guard = none) (x y : Operand) (ho : o.op = .store 24 x y)
    (g : Nat) (cells : Array Value) (hx : a.eval x = .pointer (some ⟨g, 0, none⟩)) (hy : a.eval y = .agg cells) (hg : g = w.heap.size) (old : Array Value) (hold : old.size = 16) (hc : cells.size = 16) (h1 : cells.all (·.oneCell') = true)
    (h : wpList Try.prog ops Q rest (a.put o.dst undef) (w.alloc (.cells cells 24))) : wpList Try.prog ops Q (o :: rest) a (w.alloc (.cells old 24)) := by
  subst hg
  refine wpList_store_row hgd 24 x y ho _ cells hx hy 24 old (heap_alloc_new _ _) (by rw [hc]; exact info24) (by omega) h1 ?_
  rw [setRow_last]
  exact h
theorem wpList_store_mid {ops : Array Oper} {rest : List Oper} {o : Oper} {a : Act} {w : World} {Q : Exit → Act → World → Prop} (hgd : o.guard = none) (x y : Operand) (ho : o.op = .store 24 x y) (C : Obj)
    (g : Nat) (cells : Array Value) (hx : a.eval x = .pointer (some ⟨g, 0, none⟩)) (hy : a.eval y = .agg cells) (hg : g = w.heap.size) (old : Array Value) (hold : old.size = 16) (hc : cells.size = 16) (h1 : cells.all (·.oneCell') = true)
    (h : wpList Try.prog ops Q rest (a.put o.dst undef) ((w.alloc (.cells cells 24)).alloc C)) : wpList Try.prog ops Q (o :: rest) a ((w.alloc (.cells old 24)).alloc C) := by
  subst hg
  refine wpList_store_row hgd 24 x y ho _ cells hx hy 24 old (heap_alloc2_old _ _ _) (by rw [hc]; exact info24) (by omega) h1 ?_
  rw [setRow_past _ _ _ _ (by simp), setRow_last]
  exact h
theorem setRow_self (w : World) (g : Nat) (cs : Array Value) (t : TypeId) (hg : w.heap[g]? = some (.cells cs t)) : w.setRow g cs = w := by
  have e : (w.setRow g cs).heap = w.heap := by
    apply Array.ext_getElem?
    intro i
    by_cases h : i = g
    · subst h
      rw [setRow_heap w i cs cs t _ hg, hg]
    · exact setRow_other w g i cs h
  unfold World.setRow at *
  cases w
  simp at e
  simp [e]
/-- What a load of a whole message answers. -/
theorem run_load24 (w : World) (g : Nat) (cs : Array Value) (hg : w.heap[g]? = some (.cells cs 24)) (hc : cs.size = 16) (o : Oper) (x : Operand) (ho : o.op = .load 24 x) (a : Act) (hx : a.eval x = .pointer (some ⟨g, 0, none⟩)) :
    (execOp a.eval o).run Try.prog w = .ok (.value (.agg cs)) w := by
  unfold execOp
  simp only [ho, hx, Instr.loadAt, Instr.sureAddr, Sem.run_bind, Sem.run_pure, Result.andThen_ok, run_loadVar_row w g 24 24 cs (0, 0) _ hg Try.underlying24 rfl (by rw [hc]; exact info24)]
/-- What a store of the message that is there does: nothing. -/
theorem run_store24 (w : World) (g : Nat) (cs : Array Value) (hg : w.heap[g]? = some (.cells cs 24)) (hc : cs.size = 16) (h1 : cs.all (·.oneCell') = true) (o : Oper) (x y : Operand) (ho : o.op = .store 24 x y) (a : Act) (hx : a.eval x = .pointer (some ⟨g, 0, none⟩)) (hy : a.eval y = .agg cs) :
    (execOp a.eval o).run Try.prog w = .ok .skip w := by
  unfold execOp
  simp only [ho, hx, hy, Instr.storeAt, Instr.sureAddr, Sem.run_bind, Sem.run_pure, Result.andThen_ok, run_storeVar_row w g 24 24 cs cs hg (by rw [hc]; exact info24) rfl h1, setRow_self w g cs 24 hg]
theorem wpOp_skip {ops : Array Oper} {Q : Exit → Act → World → Prop} {i : Nat} {K : Act → World → Prop} {a : Act} {w : World} {o : Oper} (hi : ops[i]? = some o) (hw : Region.wanted o (yielded ops a.tmps) = true) (hr : (execOp a.eval o).run Try.prog w = .ok .skip w) (h : K (a.put o.dst undef) w) : wpOp Try.prog ops Q i K a w := by
  unfold Go.wpOp
  simp only [hi, hw, if_true, Oper.wp, hr, Oper.upon]
  exact .inl h
/-- 'return least, most' of two cells that are the results. -/
theorem region_same {Q : Exit → Act → World → Prop} (id : Nat) (p0 p1 p2 p3 : String) (a : Act) (w : World) (g1 g2 : Nat) (cs ds : Array Value) (e0 : a.eval (.tmp 2) = .pointer (some ⟨g1, 0, none⟩)) (e1 : (a.put (some 76) (.agg cs)).eval (.tmp 3) = .pointer (some ⟨g2, 0, none⟩))
    (e2 : ((a.put (some 76) (.agg cs)).put (some 77) (.agg ds)).eval (.tmp 2) = .pointer (some ⟨g1, 0, none⟩)) (e3 : ((a.put (some 76) (.agg cs)).put (some 77) (.agg ds)).eval (.tmp 76) = .agg cs)
    (e4 : (((a.put (some 76) (.agg cs)).put (some 77) (.agg ds)).put none undef).eval (.tmp 3) = .pointer (some ⟨g2, 0, none⟩)) (e5 : (((a.put (some 76) (.agg cs)).put (some 77) (.agg ds)).put none undef).eval (.tmp 77) = .agg ds)
    (hg1 : w.heap[g1]? = some (.cells cs 24)) (hg2 : w.heap[g2]? = some (.cells ds 24)) (hc : cs.size = 16) (hd : ds.size = 16) (h1 : cs.all (·.oneCell') = true) (h2 : ds.all (·.oneCell') = true)
    (h : Q .normal ((((a.put (some 76) (.agg cs)).put (some 77) (.agg ds)).put none undef).put none undef) w.drew) :
    (Code.region id #[{ dst := some 76, op := Op.load 24 (.tmp 2), type := 24, pos := p0, after := #[], guard := none },
      { dst := some 77, op := Op.load 24 (.tmp 3), type := 24, pos := p1, after := #[{ on := 2, ground := Ground.gcOnly Departure.lateStores }], guard := none },
      { dst := none, op := Op.store 24 (.tmp 2) (.tmp 76), type := 0, pos := p2, after := #[{ on := 0, ground := Ground.data }, { on := 0, ground := Ground.phase }, { on := 1, ground := Ground.textOnly Departure.lateStores }], guard := none },
      { dst := none, op := Op.store 24 (.tmp 3) (.tmp 77), type := 0, pos := p3, after := #[{ on := 1, ground := Ground.data }, { on := 2, ground := Ground.chain }, { on := 0, ground := Ground.phase }, { on := 1, ground := Ground.phase }, { on := 2, ground := Ground.phase }], guard := none }] true).wp Try.prog Q a w := by
  have k1 : w.drew.heap[g1]? = some (.cells cs 24) := by rw [heap_drew]; exact hg1
  have k2 : w.drew.heap[g2]? = some (.cells ds 24) := by rw [heap_drew]; exact hg2
  refine wp_region_noPanic ?_
  have hQ : ∀ c a d v w, NoPanic Q (.panic c) (a.put d v) w → NoPanic Q (.panic c) a w := fun _ _ _ _ _ h => h
  refine wp_region_held (S := fun w' => w'.heap[g1]? = some (.cells cs 24) ∧ w'.heap[g2]? = some (.cells ds 24)) (by kernel_rfl) ?_
  refine wpAnyH_take (i := 0) (v := .agg cs) rfl (by kernel_rfl) (by kernel_rfl) (by kernel_rfl) (fun c a w => hQ c a _ _ w) (.inl ⟨rfl, fun w' hS => run_load24 w' g1 cs hS.1 hc _ _ rfl _ e0⟩) ⟨hg1, hg2⟩ ?_
  refine wpAnyH_take (i := 1) (v := .agg ds) rfl (by kernel_rfl) (by kernel_rfl) (by kernel_rfl) (fun c a w => hQ c a _ _ w) (.inl ⟨rfl, fun w' hS => run_load24 w' g2 ds hS.2 hd _ _ rfl _ e1⟩) ⟨hg1, hg2⟩ ?_
  refine wpAnyH_all (rs := [2]) (by kernel_rfl) (by simp) ?_
  intro i hi
  obtain rfl : i = 2 := by simpa using hi
  refine wpOp_skip (o := { dst := none, op := Op.store 24 (.tmp 2) (.tmp 76), type := 0, pos := p2, after := #[{ on := 0, ground := Ground.data }, { on := 0, ground := Ground.phase }, { on := 1, ground := Ground.textOnly Departure.lateStores }], guard := none }) rfl rfl (run_store24 w.drew g1 cs k1 hc h1 _ _ _ rfl _ e2 e3) ⟨⟨hg1, hg2⟩, ?_⟩
  refine wpAnyH_all (rs := [3]) (by kernel_rfl) (by simp) ?_
  intro i hi
  obtain rfl : i = 3 := by simpa using hi
  refine wpOp_skip (o := { dst := none, op := Op.store 24 (.tmp 3) (.tmp 77), type := 0, pos := p3, after := #[{ on := 1, ground := Ground.data }, { on := 2, ground := Ground.chain }, { on := 0, ground := Ground.phase }, { on := 1, ground := Ground.phase }, { on := 2, ground := Ground.phase }], guard := none }) rfl rfl (run_store24 w.drew g2 ds k2 hd h2 _ _ _ rfl _ e4 e5) ⟨⟨hg1, hg2⟩, ?_⟩
  exact wpAnyH_done (by kernel_rfl) (NoPanic.normal h) _
end Go.Proofs.Ytokgbolmjfmfpaa
