/- Steps of a region over any frame: guards, calls, moves, picks, comparisons, append. -/
import Derived.Test.YtokgbolmjfmfpaaE1
import Derived.Test.YtokgbolmjfmfpaaA6
import Derived.Test.YtokgbolmjfmfpaaA4
namespace Go.Proofs.Ytokgbolmjfmfpaa
open Go.RowKit

theorem wanted_yes {ops : Array Oper} {o oj : Oper} {a : Act} {j d : Nat} {b : Bool} (hg : o.guard = some (j, b)) (hj : ops[j]? = some oj) (hd : oj.dst = some d) (hv : a.eval (.tmp d) = .bool b) : Region.wanted o (yielded ops a.tmps) = true := by
  have h : a.tmps[d]? = some (.bool b) := by
    simp only [Act.eval] at hv
    cases e : a.tmps[d]? with
    | none => simp [Array.getD, Array.getElem?_eq_none_iff.1 e |> Nat.not_lt.2, undef] at hv
    | some u =>
      obtain ⟨h1, h2⟩ := Array.getElem?_eq_some_iff.1 e
      simp [Array.getD, h1, h2] at hv
      rw [hv]
  simp [Region.wanted, hg, yielded, hj, hd, h]
theorem wanted_no {ops : Array Oper} {o oj : Oper} {a : Act} {j d : Nat} {b c : Bool} (hg : o.guard = some (j, b)) (hj : ops[j]? = some oj) (hd : oj.dst = some d) (hv : a.eval (.tmp d) = .bool c) (hn : c ≠ b) : Region.wanted o (yielded ops a.tmps) = false := by
  have h : a.tmps[d]? = some (.bool c) := by
    simp only [Act.eval] at hv
    cases e : a.tmps[d]? with
    | none => simp [Array.getD, Array.getElem?_eq_none_iff.1 e |> Nat.not_lt.2, undef] at hv
    | some u =>
      obtain ⟨h1, h2⟩ := Array.getElem?_eq_some_iff.1 e
      simp [Array.getD, h1, h2] at hv
      rw [hv]
  simp [Region.wanted, hg, yielded, hj, hd, h, hn]
theorem ev_const (a : Act) (v : Value) : a.eval (.const v) = v := rfl
theorem def_put (a : Act) (d : Option Nat) (v : Value) : (a.put d v).defers = a.defers := by
  cases d <;> rfl
theorem below_app {s t : Nat} {w w1 w2 : World} (h1 : Below s w w1) (h2 : Below t w1 w2) (h : s ≤ t) : Below s w w2 := h1.trans (h2.mono h)
theorem runlike_b (F : Nat → Int) (va : Value) (n : Nat) (w : World) (ha : Sl .i64 w va n F) :
    Calls Try.prog 14 #[va] w fun e w' => e = .returned (.bool (unB F n)) ∧ Below w.heap.size w w' := by
  refine (runlike_any F va n w ha).mono ?_
  rintro e w' ⟨rfl, m, rfl⟩
  exact ⟨rfl, below_drewN (Below.refl _ _) m⟩
theorem wpOp_callE {ops : Array Oper} {Q : Exit → Act → World → Prop} {i : Nat} {K : Act → World → Prop} {a : Act} {w : World} {o : Oper} (hi : ops[i]? = some o) (hw : Region.wanted o (yielded ops a.tmps) = true) (f : FuncId) (args : Array Value) {R : Ending → World → Prop}
    (hr : (execOp a.eval o).run Try.prog w = .ok (.enter f args) w) (hc : Calls Try.prog f args w R) (h : ∀ e w', R e w' → ∃ v, e = .returned v ∧ K (a.put o.dst v) w') : wpOp Try.prog ops Q i K a w := by
  unfold Go.wpOp
  simp only [hi, hw, if_true, Oper.wp, hr, Oper.upon_enter]
  left
  refine hc.mono ?_
  intro e w' hR
  obtain ⟨v, rfl, hk⟩ := h e w' hR
  exact hk
/-- append of a slice, whatever its shape, to a row of the call's own, guarded or not. -/
theorem wpOp_append {w : World} {ops : Array Oper} {i : Nat} {K : Act → World → Prop} {o : Oper} {a : Act} {Q : Exit → Act → World → Prop} (hio : ops[i]? = some o) (hw : Region.wanted o (yielded ops a.tmps) = true) (s x : Operand)
    (ho : o.op = .call { callee := .builtin .append, args := #[s, x], argTypes := #[22, 22] }) (base : Nat)
    (v : Value) (n : Nat) (F : Nat → Int) (hs : a.eval s = v) (hown : w.ownsRow base 3 1 v n (vL .i64 F n))
    (u : Value) (m : Nat) (G : Nat → Int) (hx : a.eval x = u) (hu : Sl .i64 w u m G) (hn : n ≤ 1000000) (hm : m ≤ 1000000) (hbase : base ≤ w.heap.size)
    (h : ∀ v' w', w'.ownsRow base 3 1 v' (n + m) (vL .i64 (cat F n G) (n + m)) → Below base w w' → K (a.put o.dst v') w') : wpOp Try.prog ops Q i K a w := by
  obtain ⟨j, hj, hz0, hz1, hz2⟩ := info_parts info3
  obtain ⟨p, cap, rfl, hc1, hc2⟩ := hu.shape
  have hcs := hu.cells
  unfold Go.wpOp
  simp only [hio, hw, if_true]
  left
  cases p with
  | none =>
    obtain ⟨rfl, rfl⟩ := hcs.1 rfl
    have hrun := run_append_owned_none (P := Try.prog) (w := w) base 22 o.type 3 j 1 Try.underlying22 hj v n _ hown
    have hk := h v w (by rw [← vL_append]; simpa [vL] using hown) (Below.refl _ _)
    unfold Oper.wp
    simp [execOp, ho, resolve, invoke, builtin, hs, hx, hrun, Result.andThen]
    exact hk
  | some ad =>
    refine wp_append_own w s x 22 ho base 3 j (.int .i64 0) 1 8 Try.underlying22 hj hz0 hz1 hz2 rfl (by decide) v n _ hs hown ad m cap (vL .i64 G m) hx (by rw [vL_length]; omega) (hcs.2 ad rfl) (vL_one _ G m) (by unfold maxLen; omega) (by omega) hbase ?_
    intro v' w' ho' hg' _
    rw [vL_append] at ho'
    exact h v' w' ho' ((Below.refl _ _).grown hg' hbase fun k hk => (hown.lt k hk).1)
/-- A region that draws its order, some of its operations done. (One word, so that nobody opens it.) -/
structure WA (md : Region.Mode) (ops : Array Oper) (Q : Exit → Act → World → Prop) (S : World → Prop) (fuel : Nat) (l : Array Bool) (a : Act) (w : World) : Prop where
  out : wpAnyH Try.prog md ops Q S fuel l a w
theorem wanted_none {ops : Array Oper} {o : Oper} {a : Act} (hg : o.guard = none) : Region.wanted o (yielded ops a.tmps) = true := by
  simp [Region.wanted, hg]
theorem waStart {ops : Array Oper} {Q : Exit → Act → World → Prop} {id : Nat} {a : Act} {w : World} (S : World → Prop) (h : WA .any ops Q S ops.size (Array.replicate ops.size false) a w.drew) : (Code.region id ops true).wp Try.prog Q a w :=
  wp_region_held (by kernel_rfl) h.out
theorem waPut {md : Region.Mode} {ops : Array Oper} {Q : Exit → Act → World → Prop} {S : World → Prop} {fuel : Nat} {l : Array Bool} {a : Act} {w : World} {l' : Array Bool} {d : Option Nat} {d' : Nat} {v : Value} (h : d = some d') (hl : l = l') (k : WA md ops Q S fuel l' (a.put (some d') v) w) : WA md ops Q S fuel l (a.put d v) w := by
  subst h
  subst hl
  exact k
theorem waDone {md : Region.Mode} {ops : Array Oper} {Q : Exit → Act → World → Prop} {S : World → Prop} {fuel : Nat} {l : Array Bool} {a : Act} {w : World} (hr : Region.ready md ops l = []) (h : Q .normal a w) : WA md ops Q S fuel l a w := ⟨wpAnyH_done hr h fuel⟩
theorem waTake {md : Region.Mode} {ops : Array Oper} {Q : Exit → Act → World → Prop} {S : World → Prop} {fuel : Nat} {l : Array Bool} {a : Act} {w : World} {i : Nat} {o : Oper} {v : Value} (hi : ops[i]? = some o) (hg : o.guard = none) (hs : Region.noSelect ops = true) (hf : Region.free md ops l i = true) (hr : (Region.ready md ops l).contains i = true)
    (hQ : ∀ c a w, Q (.panic c) (a.put o.dst v) w → Q (.panic c) a w) (hy : ∀ w, S w → (execOp a.eval o).run Try.prog w = .ok (.value v) w) (hS : S w) (h : WA md ops Q S fuel (l.setIfInBounds i true) (a.put o.dst v) w) : WA md ops Q S (fuel + 1) l a w :=
  ⟨wpAnyH_take hi hs hf hr hQ (.inl ⟨wanted_none hg, hy⟩) hS h.out⟩
theorem waTakeG {md : Region.Mode} {ops : Array Oper} {Q : Exit → Act → World → Prop} {S : World → Prop} {fuel : Nat} {l : Array Bool} {a : Act} {w : World} {i : Nat} {o oj : Oper} {v : Value} (j jd : Nat) (b : Bool) (hi : ops[i]? = some o) (hg : o.guard = some (j, b)) (hj : ops[j]? = some oj) (hd : oj.dst = some jd) (hv : a.eval (.tmp jd) = .bool b) (hs : Region.noSelect ops = true) (hf : Region.free md ops l i = true) (hr : (Region.ready md ops l).contains i = true)
    (hQ : ∀ c a w, Q (.panic c) (a.put o.dst v) w → Q (.panic c) a w) (hy : ∀ w, S w → (execOp a.eval o).run Try.prog w = .ok (.value v) w) (hS : S w) (h : WA md ops Q S fuel (l.setIfInBounds i true) (a.put o.dst v) w) : WA md ops Q S (fuel + 1) l a w :=
  ⟨wpAnyH_take hi hs hf hr hQ (.inl ⟨wanted_yes hg hj hd hv, hy⟩) hS h.out⟩
theorem waTakeN {md : Region.Mode} {ops : Array Oper} {Q : Exit → Act → World → Prop} {S : World → Prop} {fuel : Nat} {l : Array Bool} {a : Act} {w : World} {i : Nat} {o oj : Oper} (j jd : Nat) (b c : Bool) (hi : ops[i]? = some o) (hg : o.guard = some (j, b)) (hj : ops[j]? = some oj) (hd : oj.dst = some jd) (hv : a.eval (.tmp jd) = .bool c) (hn : c ≠ b) (hs : Region.noSelect ops = true) (hf : Region.free md ops l i = true) (hr : (Region.ready md ops l).contains i = true)
    (hQ : ∀ c a w, Q (.panic c) (a.put o.dst undef) w → Q (.panic c) a w) (hS : S w) (h : WA md ops Q S fuel (l.setIfInBounds i true) (a.put o.dst undef) w) : WA md ops Q S (fuel + 1) l a w :=
  ⟨wpAnyH_take hi hs hf hr hQ (.inr ⟨wanted_no hg hj hd hv hn, rfl⟩) hS h.out⟩
theorem waOne {md : Region.Mode} {ops : Array Oper} {Q : Exit → Act → World → Prop} {S : World → Prop} {fuel : Nat} {l : Array Bool} {a : Act} {w : World} (i : Nat) (hl : Region.ready md ops l = [i]) (h : wpOp Try.prog ops Q i (fun a' w' => S w' ∧ WA md ops Q S fuel (l.setIfInBounds i true) a' w') a w) : WA md ops Q S (fuel + 1) l a w := by
  refine ⟨wpAnyH_all hl (by simp) fun k hk => ?_⟩
  obtain rfl : k = i := by simpa using hk
  exact wpOp_mono (fun a' w' h => ⟨h.1, h.2.out⟩) h
theorem waCall {md : Region.Mode} {ops : Array Oper} {Q : Exit → Act → World → Prop} {S : World → Prop} {fuel : Nat} {l : Array Bool} {a : Act} {w : World} (i : Nat) {o : Oper} (hl : Region.ready md ops l = [i]) (hi : ops[i]? = some o) (hg : o.guard = none) (f : FuncId) (args : Array Value) (v : Value)
    (hr : (execOp a.eval o).run Try.prog w = .ok (.enter f args) w) (hc : Calls Try.prog f args w fun e w' => e = .returned v ∧ Below w.heap.size w w') (h : ∀ w', Below w.heap.size w w' → S w' ∧ WA md ops Q S fuel (l.setIfInBounds i true) (a.put o.dst v) w') : WA md ops Q S (fuel + 1) l a w :=
  waOne i hl (wpOp_call hi (wanted_none hg) f args v hr hc h)
theorem waCallG {md : Region.Mode} {ops : Array Oper} {Q : Exit → Act → World → Prop} {S : World → Prop} {fuel : Nat} {l : Array Bool} {a : Act} {w : World} (i : Nat) {o oj : Oper} (hl : Region.ready md ops l = [i]) (j jd : Nat) (b : Bool) (hi : ops[i]? = some o) (hg : o.guard = some (j, b)) (hj : ops[j]? = some oj) (hd : oj.dst = some jd) (hv : a.eval (.tmp jd) = .bool b) (f : FuncId) (args : Array Value) (v : Value)
    (hr : (execOp a.eval o).run Try.prog w = .ok (.enter f args) w) (hc : Calls Try.prog f args w fun e w' => e = .returned v ∧ Below w.heap.size w w') (h : ∀ w', Below w.heap.size w w' → S w' ∧ WA md ops Q S fuel (l.setIfInBounds i true) (a.put o.dst v) w') : WA md ops Q S (fuel + 1) l a w :=
  waOne i hl (wpOp_call hi (wanted_yes hg hj hd hv) f args v hr hc h)
theorem waCallEG {md : Region.Mode} {ops : Array Oper} {Q : Exit → Act → World → Prop} {S : World → Prop} {fuel : Nat} {l : Array Bool} {a : Act} {w : World} (i : Nat) {o oj : Oper} (hl : Region.ready md ops l = [i]) (j jd : Nat) (b : Bool) (hi : ops[i]? = some o) (hg : o.guard = some (j, b)) (hj : ops[j]? = some oj) (hd : oj.dst = some jd) (hv : a.eval (.tmp jd) = .bool b) (f : FuncId) (args : Array Value) {R : Ending → World → Prop}
    (hr : (execOp a.eval o).run Try.prog w = .ok (.enter f args) w) (hc : Calls Try.prog f args w R) (h : ∀ e w', R e w' → ∃ v, e = .returned v ∧ S w' ∧ WA md ops Q S fuel (l.setIfInBounds i true) (a.put o.dst v) w') : WA md ops Q S (fuel + 1) l a w :=
  waOne i hl (wpOp_callE hi (wanted_yes hg hj hd hv) f args hr hc h)
theorem waAppG {md : Region.Mode} {ops : Array Oper} {Q : Exit → Act → World → Prop} {S : World → Prop} {fuel : Nat} {l : Array Bool} {a : Act} {w : World} (i : Nat) {o oj : Oper} (hl : Region.ready md ops l = [i]) (j jd : Nat) (b : Bool) (hi : ops[i]? = some o) (hg : o.guard = some (j, b)) (hj : ops[j]? = some oj) (hd : oj.dst = some jd) (hv : a.eval (.tmp jd) = .bool b) (s x : Operand)
    (ho : o.op = .call { callee := .builtin .append, args := #[s, x], argTypes := #[22, 22] }) (base : Nat)
    (v : Value) (n : Nat) (F : Nat → Int) (hs : a.eval s = v) (hown : w.ownsRow base 3 1 v n (vL .i64 F n))
    (u : Value) (m : Nat) (G : Nat → Int) (hx : a.eval x = u) (hu : Sl .i64 w u m G) (hn : n ≤ 1000000) (hm : m ≤ 1000000) (hbase : base ≤ w.heap.size)
    (h : ∀ v' w', w'.ownsRow base 3 1 v' (n + m) (vL .i64 (cat F n G) (n + m)) → Below base w w' → S w' ∧ WA md ops Q S fuel (l.setIfInBounds i true) (a.put o.dst v') w') : WA md ops Q S (fuel + 1) l a w :=
  waOne i hl (wpOp_append hi (wanted_yes hg hj hd hv) s x ho base v n F hs hown u m G hx hu hn hm hbase h)
theorem run_move (w : World) (o : Oper) (x : Operand) (ho : o.op = .move x) (a : Act) (v : Value) (hx : a.eval x = v) : (execOp a.eval o).run Try.prog w = .ok (.value v) w := by
  unfold execOp
  simp only [ho, hx]
  simp [go_sem]
theorem run_assign (w : World) (o : Oper) (x : Operand) (ho : o.op = .assign x) (a : Act) (v : Value) (hx : a.eval x = v) : (execOp a.eval o).run Try.prog w = .ok (.value v) w := by
  unfold execOp
  simp only [ho, hx]
  simp [go_sem]
theorem run_pick (w : World) (o : Oper) (c x y : Operand) (ho : o.op = .pick c x y) (a : Act) (b : Bool) (v : Value) (hc : a.eval c = .bool b) (hx : (if b then a.eval x else a.eval y) = v) : (execOp a.eval o).run Try.prog w = .ok (.value v) w := by
  subst hx
  unfold execOp
  simp only [ho, hc]
  cases b <;> simp [go_sem]
theorem run_eql3 (w : World) (o : Oper) (x y : Operand) (ho : o.op = .binOp .eql 3 x y 3) (a : Act) (m n : Int) (hx : a.eval x = .int .i64 m) (hy : a.eval y = .int .i64 n) : (execOp a.eval o).run Try.prog w = .ok (.value (.bool (m == n))) w := by
  unfold execOp
  simp only [ho, hx, hy]
  simp [go_sem]
theorem run_eql28 (w : World) (o : Oper) (x y : Operand) (ho : o.op = .binOp .eql 28 x y 28) (a : Act) (m : Int) (hx : a.eval x = .int .i64 m) (hy : a.eval y = .int .i64 m) : (execOp a.eval o).run Try.prog w = .ok (.value (.bool true)) w := by
  unfold execOp
  simp only [ho, hx, hy]
  simp [go_sem]
theorem run_eql4 (w : World) (o : Oper) (x y : Operand) (ho : o.op = .binOp .eql 4 x y 4) (a : Act) (m : Bool) (hx : a.eval x = .bool m) (hy : a.eval y = .bool m) : (execOp a.eval o).run Try.prog w = .ok (.value (.bool true)) w := by
  unfold execOp
  simp only [ho, hx, hy]
  simp [go_sem]
theorem run_gtr3 (w : World) (o : Oper) (x y : Operand) (ho : o.op = .binOp .gtr 3 x y 3) (a : Act) (m n : Int) (hx : a.eval x = .int .i64 m) (hy : a.eval y = .int .i64 n) : (execOp a.eval o).run Try.prog w = .ok (.value (.bool (decide (n < m)))) w := by
  unfold execOp
  simp only [ho, hx, hy]
  simp [go_sem]
theorem run_len (w : World) (o : Oper) (x : Operand) (ho : o.op = .call { callee := .builtin .len, args := #[x], argTypes := #[22] }) (a : Act) (p : Option Addr) (n c : Nat) (hx : a.eval x = .slice p n c) : (execOp a.eval o).run Try.prog w = .ok (.value (.int .i64 (n : Int))) w := by
  unfold execOp
  simp only [ho]
  simp [resolve, invoke, builtin, hx]
  simp [go_sem]
theorem run_index0 (w : World) (o : Oper) (x : Operand) (ho : o.op = .indexAddr 22 x (.const (.int .i64 0))) (a : Act) (g f : Nat) (n c : Nat) (hx : a.eval x = .slice (some ⟨g, f, none⟩) n c) (hn : 0 < n) : (execOp a.eval o).run Try.prog w = .ok (.value (.pointer (some ⟨g, f, none⟩))) w := by
  unfold execOp
  simp only [ho, hx]
  simp [go_sem, hn]
theorem run_call0 (f : FuncId) (hf : ∀ args w, (callFunc f args).run Try.prog w = .ok (.enter f args) w) (w : World) (o : Oper) (ho : o.op = .call { callee := .value (.func f), args := #[], argTypes := #[] }) (a : Act) :
    (execOp a.eval o).run Try.prog w = .ok (.enter f #[]) w := by
  unfold execOp
  simp only [ho]
  simp [resolve, invoke]
  simp [Act.eval, Deferred.ofValue, hf]
theorem run_call3 (f : FuncId) (hf : ∀ args w, (callFunc f args).run Try.prog w = .ok (.enter f args) w) (w : World) (o : Oper) (x y z : Operand) (t u s : TypeId) (ho : o.op = .call { callee := .value (.func f), args := #[x, y, z], argTypes := #[t, u, s] }) (a : Act) (v v' v'' : Value) (hx : a.eval x = v) (hy : a.eval y = v') (hz : a.eval z = v'') :
    (execOp a.eval o).run Try.prog w = .ok (.enter f #[v, v', v'']) w := by
  unfold execOp
  simp only [ho]
  simp [resolve, invoke, hx, hy, hz]
  simp [Act.eval, Deferred.ofValue, hf]
theorem call8 : ∀ args w, (callFunc 8 args).run Try.prog w = .ok (.enter 8 args) w := enters_of Try.func8 (by kernel_rfl) rfl
theorem call10 : ∀ args w, (callFunc 10 args).run Try.prog w = .ok (.enter 10 args) w := enters_of Try.func10 (by kernel_rfl) rfl
theorem call11 : ∀ args w, (callFunc 11 args).run Try.prog w = .ok (.enter 11 args) w := enters_of Try.func11 (by kernel_rfl) rfl
theorem call12 : ∀ args w, (callFunc 12 args).run Try.prog w = .ok (.enter 12 args) w := enters_of Try.func12 (by kernel_rfl) rfl
theorem call13 : ∀ args w, (callFunc 13 args).run Try.prog w = .ok (.enter 13 args) w := enters_of Try.func13 (by kernel_rfl) rfl
theorem call14 : ∀ args w, (callFunc 14 args).run Try.prog w = .ok (.enter 14 args) w := enters_of Try.func14 (by kernel_rfl) rfl
theorem call15 : ∀ args w, (callFunc 15 args).run Try.prog w = .ok (.enter 15 args) w := enters_of Try.func15 (by kernel_rfl) rfl
theorem call16 : ∀ args w, (callFunc 16 args).run Try.prog w = .ok (.enter 16 args) w := enters_of Try.func16 (by kernel_rfl) rfl
theorem call18 : ∀ args w, (callFunc 18 args).run Try.prog w = .ok (.enter 18 args) w := enters_of Try.func18 (by kernel_rfl) rfl
theorem call19 : ∀ args w, (callFunc 19 args).run Try.prog w = .ok (.enter 19 args) w := enters_of Try.func19 (by kernel_rfl) rfl
theorem call20 : ∀ args w, (callFunc 20 args).run Try.prog w = .ok (.enter 20 args) w := enters_of Try.func20 (by kernel_rfl) rfl
theorem call22 : ∀ args w, (callFunc 22 args).run Try.prog w = .ok (.enter 22 args) w := enters_of Try.func22 (by kernel_rfl) rfl
theorem call23 : ∀ args w, (callFunc 23 args).run Try.prog w = .ok (.enter 23 args) w := enters_of Try.func23 (by kernel_rfl) rfl
end Go.Proofs.Ytokgbolmjfmfpaa
