/- Whether two rows of numbers, two slices are the same. The region of msg.Same, whatever order it draws; walk of msg.Same. Slots of a frame behind a step; steps that read or store one field of a message. Steps of a region over any frame: guards, calls, moves, picks, comparisons, append. The page's Msg: what its frame holds from the switch on; steps of a region that keeps its order, over any frame. Walks of wire.start and wire.size. Walk of keep.Msg: one region, conjunct by conjunct, over any frame. WireBack: the tests behind the first Decode, whatever order they draw. The page's Msg: its head, over any frame. The page's Msg: its regions up to the kinds, over any frame. The page's Msg: a region that copies fields, whatever order it draws. The page's Msg: a region that copies fields, whatever order it draws. -/
import Derived.Test.YtmcmiojidgdjpaaBn5
import Derived.Test.YtmcmiojidgdjpaaBn11
import Derived.Test.YtmcmiojidgdjpaaBn1
import Derived.ChangeKeysEq
import Derived.Test.YtmcmiojidgdjpaaBn4
import Derived.Test.YtmcmiojidgdjpaaBn3
namespace Go.Proofs.Ytmcmiojidgdjpaa
open Go.RowKit

/-- The same numbers. -/
def eqM (a b : Mg) : Bool := (List.range 14).all fun i => fld a i == fld b i
theorem cells3 : Try.prog.cellsOf 3 = 1 := by kernel_rfl
theorem lst_getD' (F : Nat → Int) (n i : Nat) (h : i < n) : ((List.range n).map F).getD i 0 = F i := by simp [List.getD, h]
end Go.Proofs.Ytmcmiojidgdjpaa
namespace Go.Proofs.Ytmcmiojidgdjpaa
open Go.RowKit

theorem reAct {md : Region.Mode} {ops : Array Oper} {Q : Exit → Act → World → Prop} {S : World → Prop} {fuel : Nat} {l l' : Array Bool} {a a' : Act} {w : World} (h : a = a') (hl : l = l') (k : wpAnyH Try.prog md ops Q S fuel l' a' w) : wpAnyH Try.prog md ops Q S fuel l a w := by
  subst h
  subst hl
  exact k
theorem run_field24 (i : Nat) (hi : i = 14 ∨ i = 15) (w : World) (o : Oper) (x : Operand) (ho : o.op = .fieldAddr 24 x i) (a : Act) (g : Nat) (hx : a.eval x = .pointer (some ⟨g, 0, none⟩)) :
    (execOp a.eval o).run Try.prog w = .ok (.value (.pointer (some ⟨g, i, none⟩))) w := by
  unfold execOp
  rcases hi with rfl | rfl
  all_goals
    simp only [ho, hx]
    simp [go_sem]
theorem run_load22 (w : World) (o : Oper) (x : Operand) (ho : o.op = .load 22 x) (a : Act) (ad : Addr) (hx : a.eval x = .pointer (some ad)) (v : Value) (hc : w.cell? ad = some v) :
    (execOp a.eval o).run Try.prog w = .ok (.value v) w := by
  unfold execOp
  simp only [ho, hx]
  simp [go_sem, hc]
theorem run_call2 (f : FuncId) (hf : ∀ args w, (callFunc f args).run Try.prog w = .ok (.enter f args) w) (w : World) (o : Oper) (x y : Operand) (t u : TypeId) (ho : o.op = .call { callee := .value (.func f), args := #[x, y], argTypes := #[t, u] }) (a : Act) (v v' : Value) (hx : a.eval x = v) (hy : a.eval y = v') :
    (execOp a.eval o).run Try.prog w = .ok (.enter f #[v, v']) w := by
  unfold execOp
  simp only [ho]
  simp [resolve, invoke, hx, hy]
  simp [Act.eval, Deferred.ofValue, hf]
/-- The same messages. -/
def samB (m : Mg) (F : Nat → Int) (n : Nat) (G : Nat → Int) (k : Nat) (m' : Mg) (F' : Nat → Int) (n' : Nat) (G' : Nat → Int) (k' : Nat) : Bool := eqM m m' && eqB F n F' n' && eqB G k G' k'
end Go.Proofs.Ytmcmiojidgdjpaa
namespace Go.Proofs.Ytmcmiojidgdjpaa
open Go.RowKit

theorem ev_ne (a : Act) (d e : Nat) (v : Value) (h : d ≠ e) : (a.put (some d) v).eval (.tmp e) = a.eval (.tmp e) := by
  simp [Act.put, Act.eval, h]
theorem ev_eq (a : Act) (d : Nat) (v : Value) (h : d < a.tmps.size) : (a.put (some d) v).eval (.tmp d) = v := by
  simp [Act.put, Act.eval, h]
theorem sz_put (a : Act) (d : Option Nat) (v : Value) : (a.put d v).tmps.size = a.tmps.size := by
  cases d <;> simp [Act.put]
theorem put_none (a : Act) (v : Value) : a.put none v = a := rfl
theorem run_field (i : Nat) (hi : i < 16) (w : World) (o : Oper) (x : Operand) (ho : o.op = .fieldAddr 24 x i) (a : Act) (g : Nat) (hx : a.eval x = .pointer (some ⟨g, 0, none⟩)) :
    (execOp a.eval o).run Try.prog w = .ok (.value (.pointer (some ⟨g, i, none⟩))) w := by
  unfold execOp
  have h : i = 0 ∨ i = 1 ∨ i = 2 ∨ i = 3 ∨ i = 4 ∨ i = 5 ∨ i = 6 ∨ i = 7 ∨ i = 8 ∨ i = 9 ∨ i = 10 ∨ i = 11 ∨ i = 12 ∨ i = 13 ∨ i = 14 ∨ i = 15 := by omega
  rcases h with rfl | rfl | rfl | rfl | rfl | rfl | rfl | rfl | rfl | rfl | rfl | rfl | rfl | rfl | rfl | rfl
  all_goals
    simp only [ho, hx]
    simp [go_sem]
theorem run_load3 (w : World) (o : Oper) (x : Operand) (ho : o.op = .load 3 x) (a : Act) (ad : Addr) (hx : a.eval x = .pointer (some ad)) (v : Value) (hc : w.cell? ad = some v) :
    (execOp a.eval o).run Try.prog w = .ok (.value v) w := by
  unfold execOp
  simp only [ho, hx]
  simp [go_sem, hc]
theorem run_store3 (w : World) (o : Oper) (x y : Operand) (ho : o.op = .store 3 x y) (a : Act) (ad : Addr) (hx : a.eval x = .pointer (some ad)) (n : Int) (hy : a.eval y = .int .i64 n) (u : Value) (hc : w.cell? ad = some u) (hf : w.frozen? ad = false) :
    (execOp a.eval o).run Try.prog w = .ok .skip (w.setCell ad (.int .i64 n)) := by
  unfold execOp
  simp only [ho, hx, hy]
  simp [go_sem, hc, hf]
theorem run_store22 (w : World) (o : Oper) (x y : Operand) (ho : o.op = .store 22 x y) (a : Act) (ad : Addr) (hx : a.eval x = .pointer (some ad)) (p : Option Addr) (n c : Nat) (hy : a.eval y = .slice p n c) (u : Value) (hc : w.cell? ad = some u) (hf : w.frozen? ad = false) :
    (execOp a.eval o).run Try.prog w = .ok .skip (w.setCell ad (.slice p n c)) := by
  unfold execOp
  simp only [ho, hx, hy]
  simp [go_sem, hc, hf]
end Go.Proofs.Ytmcmiojidgdjpaa
namespace Go.Proofs.Ytmcmiojidgdjpaa
open Go.RowKit

theorem wanted_yes {ops : Array Oper} {o oj : Oper} {a : Act} {j d : Nat} {b : Bool} (hg : o.guard = some (j, b)) (hj : ops[j]? = some oj) (hd : oj.dst = some d) (hv : a.eval (.tmp d) = .bool b) : Region.wanted o (yielded ops a.tmps) = true := by
  have h : a.tmps[d]? = some (.bool b) := by
    simp only [Act.eval] at hv
    cases e : a.tmps[d]? with
    | none => simp [Array.getD, Array.getElem?_eq_none_iff.1 e |> Nat.not_lt.2, undef] at hv
    | some u =>
      obtain ⟨h1, h2⟩ := Array.getElem?_eq_some_iff.1 e
      simp [Array.getD, h1, h2] at hv
      rw [hv]
  simp [Region.wanted, hg, yielded, hj, hd, h]
theorem wanted_no {ops : Array Oper} {o oj : Oper} {a : Act} {j d : Nat} {b c : Bool} (hg : o.guard = some (j, b)) (hj : ops[j]? = some oj) (hd : oj.dst = some d) (hv : a.eval (.tmp d) = .bool c) (hn : c ≠ b) : Region.wanted o (yielded ops a.tmps) = false := by
  have h : a.tmps[d]? = some (.bool c) := by
    simp only [Act.eval] at hv
    cases e : a.tmps[d]? with
    | none => simp [Array.getD, Array.getElem?_eq_none_iff.1 e |> Nat.not_lt.2, undef] at hv
    | some u =>
      obtain ⟨h1, h2⟩ := Array.getElem?_eq_some_iff.1 e
      simp [Array.getD, h1, h2] at hv
      rw [hv]
  simp [Region.wanted, hg, yielded, hj, hd, h, hn]
theorem ev_const (a : Act) (v : Value) : a.eval (.const v) = v := rfl
theorem def_put (a : Act) (d : Option Nat) (v : Value) : (a.put d v).defers = a.defers := by
  cases d <;> rfl
theorem below_app {s t : Nat} {w w1 w2 : World} (h1 : Below s w w1) (h2 : Below t w1 w2) (h : s ≤ t) : Below s w w2 := h1.trans (h2.mono h)
theorem runlike_b (F : Nat → Int) (va : Value) (n : Nat) (w : World) (ha : Sl .i64 w va n F) :
    Calls Try.prog 35 #[va] w fun e w' => e = .returned (.bool (unB F n)) ∧ Below w.heap.size w w' := by
  refine (runlike_any F va n w ha).mono ?_
  rintro e w' ⟨rfl, m, rfl⟩
  exact ⟨rfl, below_drewN (Below.refl _ _) m⟩
theorem wpOp_callE {ops : Array Oper} {Q : Exit → Act → World → Prop} {i : Nat} {K : Act → World → Prop} {a : Act} {w : World} {o : Oper} (hi : ops[i]? = some o) (hw : Region.wanted o (yielded ops a.tmps) = true) (f : FuncId) (args : Array Value) {R : Ending → World → Prop}
    (hr : (execOp a.eval o).run Try.prog w = .ok (.enter f args) w) (hc : Calls Try.prog f args w R) (h : ∀ e w', R e w' → ∃ v, e = .returned v ∧ K (a.put o.dst v) w') : wpOp Try.prog ops Q i K a w := by
  unfold Go.wpOp
  simp only [hi, hw, if_true, Oper.wp, hr, Oper.upon_enter]
  left
  refine hc.mono ?_
  intro e w' hR
  obtain ⟨v, rfl, hk⟩ := h e w' hR
  exact hk
/-- append of a slice, whatever its shape, to a row of the call's own, guarded or not. -/
theorem wpOp_append {w : World} {ops : Array Oper} {i : Nat} {K : Act → World → Prop} {o : Oper} {a : Act} {Q : Exit → Act → World → Prop} (hio : ops[i]? = some o) (hw : Region.wanted o (yielded ops a.tmps) = true) (s x : Operand)
    (ho : o.op = .call { callee := .builtin .append, args := #[s, x], argTypes := #[22, 22] }) (base : Nat)
    (v : Value) (n : Nat) (F : Nat → Int) (hs : a.eval s = v) (hown : w.ownsRow base 3 1 v n (vL .i64 F n))
    (u : Value) (m : Nat) (G : Nat → Int) (hx : a.eval x = u) (hu : Sl .i64 w u m G) (hn : n ≤ 1000000) (hm : m ≤ 1000000) (hbase : base ≤ w.heap.size)
    (h : ∀ v' w', w'.ownsRow base 3 1 v' (n + m) (vL .i64 (cat F n G) (n + m)) → Below base w w' → K (a.put o.dst v') w') : wpOp Try.prog ops Q i K a w := by
  obtain ⟨j, hj, hz0, hz1, hz2⟩ := info_parts info3
  obtain ⟨p, cap, rfl, hc1, hc2⟩ := hu.shape
  have hcs := hu.cells
  unfold Go.wpOp
  simp only [hio, hw, if_true]
  left
  cases p with
  | none =>
    obtain ⟨rfl, rfl⟩ := hcs.1 rfl
    have hrun := run_append_owned_none (P := Try.prog) (w := w) base 22 o.type 3 j 1 Try.underlying22 hj v n _ hown
    have hk := h v w (by rw [← vL_append]; simpa [vL] using hown) (Below.refl _ _)
    unfold Oper.wp
    simp [execOp, ho, resolve, invoke, builtin, hs, hx, hrun, Result.andThen]
    exact hk
  | some ad =>
    refine wp_append_own w s x 22 ho base 3 j (.int .i64 0) 1 8 Try.underlying22 hj hz0 hz1 hz2 rfl (by decide) v n _ hs hown ad m cap (vL .i64 G m) hx (by rw [vL_length]; omega) (hcs.2 ad rfl) (vL_one _ G m) (by unfold maxLen; omega) (by omega) hbase ?_
    intro v' w' ho' hg' _
    rw [vL_append] at ho'
    exact h v' w' ho' ((Below.refl _ _).grown hg' hbase fun k hk => (hown.lt k hk).1)
/-- A region that draws its order, some of its operations done. (One word, so that nobody opens it.) -/
structure WA (md : Region.Mode) (ops : Array Oper) (Q : Exit → Act → World → Prop) (S : World → Prop) (fuel : Nat) (l : Array Bool) (a : Act) (w : World) : Prop where
  out : wpAnyH Try.prog md ops Q S fuel l a w
theorem wanted_none {ops : Array Oper} {o : Oper} {a : Act} (hg : o.guard = none) : Region.wanted o (yielded ops a.tmps) = true := by
  simp [Region.wanted, hg]
theorem waStart {ops : Array Oper} {Q : Exit → Act → World → Prop} {id : Nat} {a : Act} {w : World} (S : World → Prop) (h : WA .any ops Q S ops.size (Array.replicate ops.size false) a w.drew) : (Code.region id ops true).wp Try.prog Q a w :=
  wp_region_held (by kernel_rfl) h.out
theorem waPut {md : Region.Mode} {ops : Array Oper} {Q : Exit → Act → World → Prop} {S : World → Prop} {fuel : Nat} {l : Array Bool} {a : Act} {w : World} {l' : Array Bool} {d : Option Nat} {d' : Nat} {v : Value} (h : d = some d') (hl : l = l') (k : WA md ops Q S fuel l' (a.put (some d') v) w) : WA md ops Q S fuel l (a.put d v) w := by
  subst h
  subst hl
  exact k
theorem waDone {md : Region.Mode} {ops : Array Oper} {Q : Exit → Act → World → Prop} {S : World → Prop} {fuel : Nat} {l : Array Bool} {a : Act} {w : World} (hr : Region.ready md ops l = []) (h : Q .normal a w) : WA md ops Q S fuel l a w := ⟨wpAnyH_done hr h fuel⟩
theorem waTake {md : Region.Mode} {ops : Array Oper} {Q : Exit → Act → World → Prop} {S : World → Prop} {fuel : Nat} {l : Array Bool} {a : Act} {w : World} {i : Nat} {o : Oper} {v : Value} (hi : ops[i]? = some o) (hg : o.guard = none) (hs : Region.noSelect ops = true) (hf : Region.free md ops l i = true) (hr : (Region.ready md ops l).contains i = true)
    (hQ : ∀ c a w, Q (.panic c) (a.put o.dst v) w → Q (.panic c) a w) (hy : ∀ w, S w → (execOp a.eval o).run Try.prog w = .ok (.value v) w) (hS : S w) (h : WA md ops Q S fuel (l.setIfInBounds i true) (a.put o.dst v) w) : WA md ops Q S (fuel + 1) l a w :=
  ⟨wpAnyH_take hi hs hf hr hQ (.inl ⟨wanted_none hg, hy⟩) hS h.out⟩
theorem waTakeG {md : Region.Mode} {ops : Array Oper} {Q : Exit → Act → World → Prop} {S : World → Prop} {fuel : Nat} {l : Array Bool} {a : Act} {w : World} {i : Nat} {o oj : Oper} {v : Value} (j jd : Nat) (b : Bool) (hi : ops[i]? = some o) (hg : o.guard = some (j, b)) (hj : ops[j]? = some oj) (hd : oj.dst = some jd) (hv : a.eval (.tmp jd) = .bool b) (hs : Region.noSelect ops = true) (hf : Region.free md ops l i = true) (hr : (Region.ready md ops l).contains i = true)
    (hQ : ∀ c a w, Q (.panic c) (a.put o.dst v) w → Q (.panic c) a w) (hy : ∀ w, S w → (execOp a.eval o).run Try.prog w = .ok (.value v) w) (hS : S w) (h : WA md ops Q S fuel (l.setIfInBounds i true) (a.put o.dst v) w) : WA md ops Q S (fuel + 1) l a w :=
  ⟨wpAnyH_take hi hs hf hr hQ (.inl ⟨wanted_yes hg hj hd hv, hy⟩) hS h.out⟩
theorem waTakeN {md : Region.Mode} {ops : Array Oper} {Q : Exit → Act → World → Prop} {S : World → Prop} {fuel : Nat} {l : Array Bool} {a : Act} {w : World} {i : Nat} {o oj : Oper} (j jd : Nat) (b c : Bool) (hi : ops[i]? = some o) (hg : o.guard = some (j, b)) (hj : ops[j]? = some oj) (hd : oj.dst = some jd) (hv : a.eval (.tmp jd) = .bool c) (hn : c ≠ b) (hs : Region.noSelect ops = true) (hf : Region.free md ops l i = true) (hr : (Region.ready md ops l).contains i = true)
    (hQ : ∀ c a w, Q (.panic c) (a.put o.dst undef) w → Q (.panic c) a w) (hS : S w) (h : WA md ops Q S fuel (l.setIfInBounds i true) (a.put o.dst undef) w) : WA md ops Q S (fuel + 1) l a w :=
  ⟨wpAnyH_take hi hs hf hr hQ (.inr ⟨wanted_no hg hj hd hv hn, rfl⟩) hS h.out⟩
theorem waOne {md : Region.Mode} {ops : Array Oper} {Q : Exit → Act → World → Prop} {S : World → Prop} {fuel : Nat} {l : Array Bool} {a : Act} {w : World} (i : Nat) (hl : Region.ready md ops l = [i]) (h : wpOp Try.prog ops Q i (fun a' w' => S w' ∧ WA md ops Q S fuel (l.setIfInBounds i true) a' w') a w) : WA md ops Q S (fuel + 1) l a w := by
  refine ⟨wpAnyH_all hl (by simp) fun k hk => ?_⟩
  obtain rfl : k = i := by simpa using hk
  exact wpOp_mono (fun a' w' h => ⟨h.1, h.2.out⟩) h
theorem waCall {md : Region.Mode} {ops : Array Oper} {Q : Exit → Act → World → Prop} {S : World → Prop} {fuel : Nat} {l : Array Bool} {a : Act} {w : World} (i : Nat) {o : Oper} (hl : Region.ready md ops l = [i]) (hi : ops[i]? = some o) (hg : o.guard = none) (f : FuncId) (args : Array Value) (v : Value)
    (hr : (execOp a.eval o).run Try.prog w = .ok (.enter f args) w) (hc : Calls Try.prog f args w fun e w' => e = .returned v ∧ Below w.heap.size w w') (h : ∀ w', Below w.heap.size w w' → S w' ∧ WA md ops Q S fuel (l.setIfInBounds i true) (a.put o.dst v) w') : WA md ops Q S (fuel + 1) l a w :=
  waOne i hl (wpOp_call hi (wanted_none hg) f args v hr hc h)
theorem waCallG {md : Region.Mode} {ops : Array Oper} {Q : Exit → Act → World → Prop} {S : World → Prop} {fuel : Nat} {l : Array Bool} {a : Act} {w : World} (i : Nat) {o oj : Oper} (hl : Region.ready md ops l = [i]) (j jd : Nat) (b : Bool) (hi : ops[i]? = some o) (hg : o.guard = some (j, b)) (hj : ops[j]? = some oj) (hd : oj.dst = some jd) (hv : a.eval (.tmp jd) = .bool b) (f : FuncId) (args : Array Value) (v : Value)
    (hr : (execOp a.eval o).run Try.prog w = .ok (.enter f args) w) (hc : Calls Try.prog f args w fun e w' => e = .returned v ∧ Below w.heap.size w w') (h : ∀ w', Below w.heap.size w w' → S w' ∧ WA md ops Q S fuel (l.setIfInBounds i true) (a.put o.dst v) w') : WA md ops Q S (fuel + 1) l a w :=
  waOne i hl (wpOp_call hi (wanted_yes hg hj hd hv) f args v hr hc h)
theorem waCallEG {md : Region.Mode} {ops : Array Oper} {Q : Exit → Act → World → Prop} {S : World → Prop} {fuel : Nat} {l : Array Bool} {a : Act} {w : World} (i : Nat) {o oj : Oper} (hl : Region.ready md ops l = [i]) (j jd : Nat) (b : Bool) (hi : ops[i]? = some o) (hg : o.guard = some (j, b)) (hj : ops[j]? = some oj) (hd : oj.dst = some jd) (hv : a.eval (.tmp jd) = .bool b) (f : FuncId) (args : Array Value) {R : Ending → World → Prop}
    (hr : (execOp a.eval o).run Try.prog w = .ok (.enter f args) w) (hc : Calls Try.prog f args w R) (h : ∀ e w', R e w' → ∃ v, e = .returned v ∧ S w' ∧ WA md ops Q S fuel (l.setIfInBounds i true) (a.put o.dst v) w') : WA md ops Q S (fuel + 1) l a w :=
  waOne i hl (wpOp_callE hi (wanted_yes hg hj hd hv) f args hr hc h)
theorem waAppG {md : Region.Mode} {ops : Array Oper} {Q : Exit → Act → World → Prop} {S : World → Prop} {fuel : Nat} {l : Array Bool} {a : Act} {w : World} (i : Nat) {o oj : Oper} (hl : Region.ready md ops l = [i]) (j jd : Nat) (b : Bool) (hi : ops[i]? = some o) (hg : o.guard = some (j, b)) (hj : ops[j]? = some oj) (hd : oj.dst = some jd) (hv : a.eval (.tmp jd) = .bool b) (s x : Operand)
    (ho : o.op = .call { callee := .builtin .append, args := #[s, x], argTypes := #[22, 22] }) (base : Nat)
    (v : Value) (n : Nat) (F : Nat → Int) (hs : a.eval s = v) (hown : w.ownsRow base 3 1 v n (vL .i64 F n))
    (u : Value) (m : Nat) (G : Nat → Int) (hx : a.eval x = u) (hu : Sl .i64 w u m G) (hn : n ≤ 1000000) (hm : m ≤ 1000000) (hbase : base ≤ w.heap.size)
    (h : ∀ v' w', w'.ownsRow base 3 1 v' (n + m) (vL .i64 (cat F n G) (n + m)) → Below base w w' → S w' ∧ WA md ops Q S fuel (l.setIfInBounds i true) (a.put o.dst v') w') : WA md ops Q S (fuel + 1) l a w :=
  waOne i hl (wpOp_append hi (wanted_yes hg hj hd hv) s x ho base v n F hs hown u m G hx hu hn hm hbase h)
theorem run_move (w : World) (o : Oper) (x : Operand) (ho : o.op = .move x) (a : Act) (v : Value) (hx : a.eval x = v) : (execOp a.eval o).run Try.prog w = .ok (.value v) w := by
  unfold execOp
  simp only [ho, hx]
  simp [go_sem]
theorem run_assign (w : World) (o : Oper) (x : Operand) (ho : o.op = .assign x) (a : Act) (v : Value) (hx : a.eval x = v) : (execOp a.eval o).run Try.prog w = .ok (.value v) w := by
  unfold execOp
  simp only [ho, hx]
  simp [go_sem]
theorem run_pick (w : World) (o : Oper) (c x y : Operand) (ho : o.op = .pick c x y) (a : Act) (b : Bool) (v : Value) (hc : a.eval c = .bool b) (hx : (if b then a.eval x else a.eval y) = v) : (execOp a.eval o).run Try.prog w = .ok (.value v) w := by
  subst hx
  unfold execOp
  simp only [ho, hc]
  cases b <;> simp [go_sem]
theorem run_eql3 (w : World) (o : Oper) (x y : Operand) (ho : o.op = .binOp .eql 3 x y 3) (a : Act) (m n : Int) (hx : a.eval x = .int .i64 m) (hy : a.eval y = .int .i64 n) : (execOp a.eval o).run Try.prog w = .ok (.value (.bool (m == n))) w := by
  unfold execOp
  simp only [ho, hx, hy]
  simp [go_sem]
theorem run_eql28 (w : World) (o : Oper) (x y : Operand) (ho : o.op = .binOp .eql 29 x y 29) (a : Act) (m : Int) (hx : a.eval x = .int .i64 m) (hy : a.eval y = .int .i64 m) : (execOp a.eval o).run Try.prog w = .ok (.value (.bool true)) w := by
  unfold execOp
  simp only [ho, hx, hy]
  simp [go_sem]
theorem run_eql4 (w : World) (o : Oper) (x y : Operand) (ho : o.op = .binOp .eql 4 x y 4) (a : Act) (m : Bool) (hx : a.eval x = .bool m) (hy : a.eval y = .bool m) : (execOp a.eval o).run Try.prog w = .ok (.value (.bool true)) w := by
  unfold execOp
  simp only [ho, hx, hy]
  simp [go_sem]
theorem run_gtr3 (w : World) (o : Oper) (x y : Operand) (ho : o.op = .binOp .gtr 3 x y 3) (a : Act) (m n : Int) (hx : a.eval x = .int .i64 m) (hy : a.eval y = .int .i64 n) : (execOp a.eval o).run Try.prog w = .ok (.value (.bool (decide (n < m)))) w := by
  unfold execOp
  simp only [ho, hx, hy]
  simp [go_sem]
theorem run_len (w : World) (o : Oper) (x : Operand) (ho : o.op = .call { callee := .builtin .len, args := #[x], argTypes := #[22] }) (a : Act) (p : Option Addr) (n c : Nat) (hx : a.eval x = .slice p n c) : (execOp a.eval o).run Try.prog w = .ok (.value (.int .i64 (n : Int))) w := by
  unfold execOp
  simp only [ho]
  simp [resolve, invoke, builtin, hx]
  simp [go_sem]
theorem run_index0 (w : World) (o : Oper) (x : Operand) (ho : o.op = .indexAddr 22 x (.const (.int .i64 0))) (a : Act) (g f : Nat) (n c : Nat) (hx : a.eval x = .slice (some ⟨g, f, none⟩) n c) (hn : 0 < n) : (execOp a.eval o).run Try.prog w = .ok (.value (.pointer (some ⟨g, f, none⟩))) w := by
  unfold execOp
  simp only [ho, hx]
  simp [go_sem, hn]
theorem run_call0 (f : FuncId) (hf : ∀ args w, (callFunc f args).run Try.prog w = .ok (.enter f args) w) (w : World) (o : Oper) (ho : o.op = .call { callee := .value (.func f), args := #[], argTypes := #[] }) (a : Act) :
    (execOp a.eval o).run Try.prog w = .ok (.enter f #[]) w := by
  unfold execOp
  simp only [ho]
  simp [resolve, invoke]
  simp [Act.eval, Deferred.ofValue, hf]
theorem run_call3 (f : FuncId) (hf : ∀ args w, (callFunc f args).run Try.prog w = .ok (.enter f args) w) (w : World) (o : Oper) (x y z : Operand) (t u s : TypeId) (ho : o.op = .call { callee := .value (.func f), args := #[x, y, z], argTypes := #[t, u, s] }) (a : Act) (v v' v'' : Value) (hx : a.eval x = v) (hy : a.eval y = v') (hz : a.eval z = v'') :
    (execOp a.eval o).run Try.prog w = .ok (.enter f #[v, v', v'']) w := by
  unfold execOp
  simp only [ho]
  simp [resolve, invoke, hx, hy, hz]
  simp [Act.eval, Deferred.ofValue, hf]
theorem call8 : ∀ args w, (callFunc 22 args).run Try.prog w = .ok (.enter 22 args) w := enters_of Try.func22 (by kernel_rfl) rfl
theorem call10 : ∀ args w, (callFunc 23 args).run Try.prog w = .ok (.enter 23 args) w := enters_of Try.func23 (by kernel_rfl) rfl
theorem call12 : ∀ args w, (callFunc 13 args).run Try.prog w = .ok (.enter 13 args) w := enters_of Try.func13 (by kernel_rfl) rfl
theorem call13 : ∀ args w, (callFunc 60 args).run Try.prog w = .ok (.enter 60 args) w := enters_of Try.func60 (by kernel_rfl) rfl
theorem call14 : ∀ args w, (callFunc 35 args).run Try.prog w = .ok (.enter 35 args) w := enters_of Try.func35 (by kernel_rfl) rfl
theorem call15 : ∀ args w, (callFunc 29 args).run Try.prog w = .ok (.enter 29 args) w := enters_of Try.func29 (by kernel_rfl) rfl
theorem call18 : ∀ args w, (callFunc 30 args).run Try.prog w = .ok (.enter 30 args) w := enters_of Try.func30 (by kernel_rfl) rfl
theorem call19 : ∀ args w, (callFunc 31 args).run Try.prog w = .ok (.enter 31 args) w := enters_of Try.func31 (by kernel_rfl) rfl
theorem call20 : ∀ args w, (callFunc 32 args).run Try.prog w = .ok (.enter 32 args) w := enters_of Try.func32 (by kernel_rfl) rfl
theorem call22 : ∀ args w, (callFunc 34 args).run Try.prog w = .ok (.enter 34 args) w := enters_of Try.func34 (by kernel_rfl) rfl
theorem call23 : ∀ args w, (callFunc 36 args).run Try.prog w = .ok (.enter 36 args) w := enters_of Try.func36 (by kernel_rfl) rfl
end Go.Proofs.Ytmcmiojidgdjpaa
namespace Go.Proofs.Ytmcmiojidgdjpaa
open Go.RowKit

/-- The frame's size, and where the two messages lie. -/
structure Fa (a : Act) (g1 g3 : Nat) : Prop where
  sz : a.tmps.size = 347
  df : a.defers = []
  e1 : a.eval (.tmp 1) = .pointer (some ⟨g1, 0, none⟩)
  e3 : a.eval (.tmp 3) = .pointer (some ⟨g3, 0, none⟩)
/-- Beside them: whether all is well so far, and the kind. -/
structure Fr (a : Act) (g1 g3 : Nat) (o : Bool) (kd : Int) : Prop where
  fa : Fa a g1 g3
  e4 : a.eval (.tmp 4) = .bool o
  ek : a.eval (.tmp 63) = .int .i64 kd
theorem Fa.put {a : Act} {g1 g3 : Nat} (h : Fa a g1 g3) (d : Nat) (v : Value) (h1 : d ≠ 1) (h3 : d ≠ 3) : Fa (a.put (some d) v) g1 g3 :=
  ⟨by rw [sz_put]; exact h.sz, by rw [def_put]; exact h.df, by rw [ev_ne _ _ _ _ h1]; exact h.e1, by rw [ev_ne _ _ _ _ h3]; exact h.e3⟩
theorem Fr.put {a : Act} {g1 g3 : Nat} {o : Bool} {kd : Int} (h : Fr a g1 g3 o kd) (d : Nat) (v : Value) (h1 : d ≠ 1) (h3 : d ≠ 3) (h4 : d ≠ 4) (hk : d ≠ 63) : Fr (a.put (some d) v) g1 g3 o kd :=
  ⟨h.fa.put d v h1 h3, by rw [ev_ne _ _ _ _ h4]; exact h.e4, by rw [ev_ne _ _ _ _ hk]; exact h.ek⟩
theorem Fr.ok {a : Act} {g1 g3 : Nat} {o : Bool} {kd : Int} (h : Fr a g1 g3 o kd) (b : Bool) : Fr (a.put (some 4) (.bool b)) g1 g3 b kd :=
  ⟨h.fa.put 4 _ (by decide) (by decide), ev_eq _ _ _ (by rw [h.fa.sz]; decide), by rw [ev_ne _ _ _ _ (by decide)]; exact h.ek⟩
/-- The rest of a region that keeps its order. (One word, so that nobody opens it.) -/
structure WL (ops : Array Oper) (Q : Exit → Act → World → Prop) (l : List Oper) (a : Act) (w : World) : Prop where
  out : wpList Try.prog ops Q l a w
theorem wlStart {ops : Array Oper} {Q : Exit → Act → World → Prop} {id : Nat} {a : Act} {w : World} {l : List Oper} (hl : ops.toList = l) (h : WL ops Q l a w) : (Code.region id ops false).wp Try.prog Q a w :=
  wp_region_list (by rw [hl]; exact h.out)
theorem wlDone {ops : Array Oper} {Q : Exit → Act → World → Prop} {a : Act} {w : World} (h : Q .normal a w) : WL ops Q [] a w := ⟨h⟩
theorem wlStep {ops : Array Oper} {rest : List Oper} {Q : Exit → Act → World → Prop} {a : Act} {w : World} {o : Oper} {w' : World} {v : Value} {d : Nat} (hd : o.dst = some d) (hw : Region.wanted o (yielded ops a.tmps) = true) (hr : (execOp a.eval o).run Try.prog w = .ok (.value v) w') (h : WL ops Q rest (a.put (some d) v) w') : WL ops Q (o :: rest) a w :=
  ⟨wpList_step fun K hK => by
    rw [if_pos hw]
    simp only [Oper.wp, hr, Oper.upon, hd]
    exact hK _ _ h.out⟩
theorem wlVal {ops : Array Oper} {rest : List Oper} {Q : Exit → Act → World → Prop} {a : Act} {w : World} {o : Oper} {d : Nat} (hd : o.dst = some d) (hg : o.guard = none) (v : Value) (hr : (execOp a.eval o).run Try.prog w = .ok (.value v) w) (h : WL ops Q rest (a.put (some d) v) w) : WL ops Q (o :: rest) a w :=
  wlStep hd (wanted_none hg) hr h
theorem wlValw {ops : Array Oper} {rest : List Oper} {Q : Exit → Act → World → Prop} {a : Act} {w : World} {w' : World} {o : Oper} {d : Nat} (hd : o.dst = some d) (hg : o.guard = none) (v : Value) (hr : (execOp a.eval o).run Try.prog w = .ok (.value v) w') (h : WL ops Q rest (a.put (some d) v) w') : WL ops Q (o :: rest) a w :=
  wlStep hd (wanted_none hg) hr h
theorem wlG {ops : Array Oper} {rest : List Oper} {Q : Exit → Act → World → Prop} {a : Act} {w : World} {o : Oper} {d : Nat} {oj : Oper} (j jd : Nat) (b : Bool) (hd : o.dst = some d) (hg : o.guard = some (j, b)) (hj : ops[j]? = some oj) (hjd : oj.dst = some jd) (hv : a.eval (.tmp jd) = .bool b) (v : Value) (hr : (execOp a.eval o).run Try.prog w = .ok (.value v) w) (h : WL ops Q rest (a.put (some d) v) w) : WL ops Q (o :: rest) a w :=
  wlStep hd (wanted_yes hg hj hjd hv) hr h
theorem wlN {ops : Array Oper} {rest : List Oper} {Q : Exit → Act → World → Prop} {a : Act} {w : World} {o oj : Oper} {d : Nat} (j jd : Nat) (b c : Bool) (hd : o.dst = some d) (hg : o.guard = some (j, b)) (hj : ops[j]? = some oj) (hjd : oj.dst = some jd) (hv : a.eval (.tmp jd) = .bool c) (hn : c ≠ b) (h : WL ops Q rest (a.put (some d) undef) w) : WL ops Q (o :: rest) a w :=
  ⟨wpList_step fun K hK => by
    rw [wanted_no hg hj hjd hv hn, hd]
    exact hK _ _ h.out⟩
theorem wlStore {ops : Array Oper} {rest : List Oper} {Q : Exit → Act → World → Prop} {a : Act} {w : World} {w' : World} {o : Oper} (hd : o.dst = none) (hg : o.guard = none) (hr : (execOp a.eval o).run Try.prog w = .ok .skip w') (h : WL ops Q rest a w') : WL ops Q (o :: rest) a w :=
  ⟨wpList_step fun K hK => by
    rw [if_pos (wanted_none hg)]
    simp only [Oper.wp, hr, Oper.upon, hd]
    exact hK _ _ h.out⟩
theorem wlCallW {ops : Array Oper} {rest : List Oper} {Q : Exit → Act → World → Prop} {a : Act} {w : World} {o : Oper} {d : Nat} (hd : o.dst = some d) (hw : Region.wanted o (yielded ops a.tmps) = true) (f : FuncId) (args : Array Value) (v : Value)
    (hr : (execOp a.eval o).run Try.prog w = .ok (.enter f args) w) (hc : Calls Try.prog f args w fun e w' => e = .returned v ∧ w' = w) (h : WL ops Q rest (a.put (some d) v) w) : WL ops Q (o :: rest) a w :=
  ⟨wpList_step fun K hK => by
    rw [if_pos hw]
    simp only [Oper.wp, hr, Oper.upon_enter, hd]
    refine hc.mono ?_
    rintro e w' ⟨rfl, rfl⟩
    exact hK _ _ h.out⟩
theorem wlC {ops : Array Oper} {rest : List Oper} {Q : Exit → Act → World → Prop} {a : Act} {w : World} {o : Oper} {d : Nat} (hd : o.dst = some d) (hg : o.guard = none) (f : FuncId) (args : Array Value) (v : Value)
    (hr : (execOp a.eval o).run Try.prog w = .ok (.enter f args) w) (hc : Calls Try.prog f args w fun e w' => e = .returned v ∧ w' = w) (h : WL ops Q rest (a.put (some d) v) w) : WL ops Q (o :: rest) a w :=
  wlCallW hd (wanted_none hg) f args v hr hc h
theorem wlCG {ops : Array Oper} {rest : List Oper} {Q : Exit → Act → World → Prop} {a : Act} {w : World} {o : Oper} {d : Nat} {oj : Oper} (j jd : Nat) (b : Bool) (hd : o.dst = some d) (hg : o.guard = some (j, b)) (hj : ops[j]? = some oj) (hjd : oj.dst = some jd) (hv : a.eval (.tmp jd) = .bool b) (f : FuncId) (args : Array Value) (v : Value)
    (hr : (execOp a.eval o).run Try.prog w = .ok (.enter f args) w) (hc : Calls Try.prog f args w fun e w' => e = .returned v ∧ w' = w) (h : WL ops Q rest (a.put (some d) v) w) : WL ops Q (o :: rest) a w :=
  wlCallW hd (wanted_yes hg hj hjd hv) f args v hr hc h
theorem wlBG {ops : Array Oper} {rest : List Oper} {Q : Exit → Act → World → Prop} {a : Act} {w : World} {o : Oper} {d : Nat} {oj : Oper} (j jd : Nat) (b : Bool) (hd : o.dst = some d) (hg : o.guard = some (j, b)) (hj : ops[j]? = some oj) (hjd : oj.dst = some jd) (hv : a.eval (.tmp jd) = .bool b) (f : FuncId) (args : Array Value) (v : Value)
    (hr : (execOp a.eval o).run Try.prog w = .ok (.enter f args) w) (hc : Calls Try.prog f args w fun e w' => e = .returned v ∧ Below w.heap.size w w') (h : ∀ w', Below w.heap.size w w' → WL ops Q rest (a.put (some d) v) w') : WL ops Q (o :: rest) a w :=
  ⟨wpList_step fun K hK => by
    rw [if_pos (wanted_yes hg hj hjd hv)]
    simp only [Oper.wp, hr, Oper.upon_enter, hd]
    refine hc.mono ?_
    rintro e w' ⟨rfl, b⟩
    exact hK _ _ (h w' b).out⟩
theorem wlBuilt {ops : Array Oper} {rest : List Oper} {Q : Exit → Act → World → Prop} {a : Act} {w : World} {o : Oper} {d : Nat} (hd : o.dst = some d) (hg : o.guard = none) (t : TypeId) (parts : Array (Nat × Operand)) (ho : o.op = .build t parts)
    (vs : List (Nat × Value)) (cs : Array Value) (hv : (parts.map fun (i, x) => (i, a.eval x)).toList = vs) (hb : Try.prog.built t vs = some cs)
    (h : WL ops Q rest (a.put (some d) (.agg cs)) w) : WL ops Q (o :: rest) a w :=
  ⟨wpList_built hg t parts ho vs cs hv hb (by rw [hd]; exact h.out)⟩
theorem wlLast {ops : Array Oper} {rest : List Oper} {Q : Exit → Act → World → Prop} {a : Act} {w : World} {o : Oper} (hd : o.dst = none) (hgd : o.guard = none) (x y : Operand) (ho : o.op = .store 24 x y)
    (g : Nat) (cells : Array Value) (hx : a.eval x = .pointer (some ⟨g, 0, none⟩)) (hy : a.eval y = .agg cells) (hg : g = w.heap.size) (old : Array Value) (hold : old.size = 16) (hc : cells.size = 16) (h1 : cells.all (·.oneCell') = true)
    (h : WL ops Q rest a (w.alloc (.cells cells 24))) : WL ops Q (o :: rest) a (w.alloc (.cells old 24)) :=
  ⟨wpList_store_last hgd x y ho g cells hx hy hg old hold hc h1 (by rw [hd]; exact h.out)⟩
theorem run_not (w : World) (o : Oper) (x : Operand) (ho : o.op = .unOp .not 4 x) (a : Act) (b : Bool) (hx : a.eval x = .bool b) : (execOp a.eval o).run Try.prog w = .ok (.value (.bool (!b))) w := by
  unfold execOp
  simp only [ho, hx]
  simp [go_sem]
theorem run_neq3 (w : World) (o : Oper) (x y : Operand) (ho : o.op = .binOp .neq 3 x y 3) (a : Act) (m n : Int) (hx : a.eval x = .int .i64 m) (hy : a.eval y = .int .i64 n) : (execOp a.eval o).run Try.prog w = .ok (.value (.bool (m != n))) w := by
  unfold execOp
  simp only [ho, hx, hy]
  simp [go_sem]
def zero16 : Array Value := #[.int .i64 0, .int .i64 0, .int .i64 0, .int .i64 0, .int .i64 0, .int .i64 0, .int .i64 0, .int .i64 0, .int .i64 0, .int .i64 0, .int .i64 0, .int .i64 0, .int .i64 0, .int .i64 0, .slice none 0 0, .slice none 0 0]
theorem run_alloc24 (w : World) (o : Oper) (ho : o.op = .alloc 24) (a : Act) : (execOp a.eval o).run Try.prog w = .ok (.value (.pointer (some ⟨w.heap.size, 0, none⟩))) (w.alloc (.cells zero16 24)) := by
  unfold execOp
  simp only [ho]
  simp [go_sem, zero16]
theorem run_box24 (w : World) (o : Oper) (x : Operand) (ho : o.op = .box 24 x) (a : Act) (c0 c1 c2 c3 c4 c5 c6 c7 c8 c9 c10 c11 c12 c13 c14 c15 : Value) (hx : a.eval x = .agg #[c0, c1, c2, c3, c4, c5, c6, c7, c8, c9, c10, c11, c12, c13, c14, c15]) : (execOp a.eval o).run Try.prog w = .ok (.value (.pointer (some ⟨w.heap.size, 0, none⟩))) (w.alloc (.cells #[c0, c1, c2, c3, c4, c5, c6, c7, c8, c9, c10, c11, c12, c13, c14, c15] 24)) := by
  unfold execOp
  simp only [ho, hx]
  simp [go_sem]
theorem call21 : ∀ args w, (callFunc 33 args).run Try.prog w = .ok (.enter 33 args) w := enters_of Try.func33 (by kernel_rfl) rfl
end Go.Proofs.Ytmcmiojidgdjpaa
namespace Go.Proofs.Ytmcmiojidgdjpaa
open Go.RowKit

theorem run_add3 (w : World) (o : Oper) (x y : Operand) (ho : o.op = .binOp .add 3 x y 3) (a : Act) (m n : Int) (hx : a.eval x = .int .i64 m) (hy : a.eval y = .int .i64 n) (hm : 0 ≤ m + n) (hmn : m + n < 4611686018427387904) : (execOp a.eval o).run Try.prog w = .ok (.value (.int .i64 (m + n))) w := by
  have e : IntKind.i64.wrap (m + n) = m + n := by
    rw [IntKind.wrap_i64]
    omega
  unfold execOp
  simp only [ho, hx, hy]
  simp [go_sem, e]
/-- What the frame of start holds: the field, and how many bytes so far. -/
structure FrS (a : Act) (x y : Int) : Prop where
  sz : a.tmps.size = 62
  df : a.defers = []
  e4 : a.eval (.tmp 4) = .int .i64 x
  e3 : a.eval (.tmp 3) = .int .i64 y
theorem FrS.put {a : Act} {x y : Int} (h : FrS a x y) (d : Nat) (v : Value) (h4 : 4 < d) : FrS (a.put (some d) v) x y :=
  ⟨by rw [sz_put]; exact h.sz, by rw [def_put]; exact h.df, by rw [ev_ne _ _ _ _ (by omega)]; exact h.e4, by rw [ev_ne _ _ _ _ (by omega)]; exact h.e3⟩
theorem tstR {Q : Exit → Act → World → Prop} {id : Nat} {o1 o2 : Oper} {a : Act} {w : World} {x y c : Int} {d1 d2 : Nat}
    (h1 : o1.op = .binOp .eql 3 (.tmp 4) (.const (.int .i64 c)) 3) (g1 : o1.guard = none) (e1 : o1.dst = some d1) (h2 : o2.op = .assign (.tmp d1)) (g2 : o2.guard = none) (e2 : o2.dst = some d2)
    (hd : 4 < d1 ∧ d1 < 62 ∧ 4 < d2 ∧ d2 < 62) (f : FrS a x y) (h : ∀ a', FrS a' x y → a'.eval (.tmp d2) = .bool (x == c) → Q .normal a' w) : (Code.region id #[o1, o2] false).wp Try.prog Q a w := by
  refine wlStart (l := [o1, o2]) rfl ?_
  have f1 := f.put d1 (.bool (x == c)) hd.1
  refine wlVal e1 g1 (.bool (x == c)) (run_eql3 w _ _ _ h1 _ _ _ f.e4 (ev_const _ _)) ?_
  refine wlVal e2 g2 (.bool (x == c)) (run_assign w _ _ h2 _ _ (ev_eq _ _ _ (by rw [f.sz]; omega))) ?_
  exact wlDone (h _ (f1.put d2 _ hd.2.2.1) (ev_eq _ _ _ (by rw [f1.sz]; omega)))
theorem tstHit {Q : Exit → Act → World → Prop} {id k : Nat} {o1 o2 : Oper} {a : Act} {w : World} {x y c : Int} {d1 d2 : Nat} {rest : Code}
    (h1 : o1.op = .binOp .eql 3 (.tmp 4) (.const (.int .i64 c)) 3) (g1 : o1.guard = none) (e1 : o1.dst = some d1) (h2 : o2.op = .assign (.tmp d1)) (g2 : o2.guard = none) (e2 : o2.dst = some d2)
    (hd : 4 < d1 ∧ d1 < 62 ∧ 4 < d2 ∧ d2 < 62) (f : FrS a x y) (hx : (x == c) = true) (h : ∀ a', FrS a' x y → Q (.exit k) a' w) : (((Code.region id #[o1, o2] false).seq (Code.cond (.tmp d2) (Code.exit k) Code.skip)).seq rest).wp Try.prog Q a w := by
  refine wp_seq_k fun K hK => ?_
  refine wp_seq_k fun K1 hK1 => ?_
  refine tstR h1 g1 e1 h2 g2 e2 hd f fun a' f' he => ?_
  exact hK1 _ _ (wp_cond_true (he.trans (by rw [hx])) (wp_exit (h a' f')))
theorem tstMiss {Q : Exit → Act → World → Prop} {id k : Nat} {o1 o2 : Oper} {a : Act} {w : World} {x y c : Int} {d1 d2 : Nat} {rest : Code}
    (h1 : o1.op = .binOp .eql 3 (.tmp 4) (.const (.int .i64 c)) 3) (g1 : o1.guard = none) (e1 : o1.dst = some d1) (h2 : o2.op = .assign (.tmp d1)) (g2 : o2.guard = none) (e2 : o2.dst = some d2)
    (hd : 4 < d1 ∧ d1 < 62 ∧ 4 < d2 ∧ d2 < 62) (f : FrS a x y) (hx : (x == c) = false) (h : ∀ a', FrS a' x y → rest.wp Try.prog Q a' w) : (((Code.region id #[o1, o2] false).seq (Code.cond (.tmp d2) (Code.exit k) Code.skip)).seq rest).wp Try.prog Q a w := by
  refine wp_seq_k fun K hK => ?_
  refine wp_seq_k fun K1 hK1 => ?_
  refine tstR h1 g1 e1 h2 g2 e2 hd f fun a' f' he => ?_
  exact hK1 _ _ (wp_cond_false (he.trans (by rw [hx])) (wp_skip (hK _ _ (h a' f'))))
theorem tstLast {Q : Exit → Act → World → Prop} {id k : Nat} {o1 o2 : Oper} {a : Act} {w : World} {x y c : Int} {d1 d2 : Nat}
    (h1 : o1.op = .binOp .eql 3 (.tmp 4) (.const (.int .i64 c)) 3) (g1 : o1.guard = none) (e1 : o1.dst = some d1) (h2 : o2.op = .assign (.tmp d1)) (g2 : o2.guard = none) (e2 : o2.dst = some d2)
    (hd : 4 < d1 ∧ d1 < 62 ∧ 4 < d2 ∧ d2 < 62) (f : FrS a x y) (h : ∀ a', FrS a' x y → (if (x == c) = true then Q (.exit k) a' w else Q .normal a' w)) : ((Code.region id #[o1, o2] false).seq (Code.cond (.tmp d2) (Code.exit k) Code.skip)).wp Try.prog Q a w := by
  refine wp_seq_k fun K1 hK1 => ?_
  refine tstR h1 g1 e1 h2 g2 e2 hd f fun a' f' he => ?_
  refine hK1 _ _ ?_
  have h' := h a' f'
  cases e : (x == c) with
  | true =>
    rw [if_pos e] at h'
    exact wp_cond_true (he.trans (by rw [e])) (wp_exit h')
  | false =>
    rw [if_neg (by simp [e])] at h'
    exact wp_cond_false (he.trans (by rw [e])) (wp_skip h')
theorem addR {Q : Exit → Act → World → Prop} {id : Nat} {o1 o2 o3 : Oper} {a : Act} {w : World} {x y c : Int} {d1 d2 : Nat}
    (h1 : o1.op = .move (.tmp 3)) (g1 : o1.guard = none) (e1 : o1.dst = some d1) (h2 : o2.op = .binOp .add 3 (.tmp d1) (.const (.int .i64 c)) 3) (g2 : o2.guard = none) (e2 : o2.dst = some d2) (h3 : o3.op = .assign (.tmp d2)) (g3 : o3.guard = none) (e3 : o3.dst = some 3)
    (hd : 4 < d1 ∧ d1 < 62 ∧ 4 < d2 ∧ d2 < 62) (f : FrS a x y) (hy : 0 ≤ y + c ∧ y + c < 4611686018427387904) (h : ∀ a', FrS a' x (y + c) → Q .normal a' w) : (Code.region id #[o1, o2, o3] false).wp Try.prog Q a w := by
  refine wlStart (l := [o1, o2, o3]) rfl ?_
  have f1 := f.put d1 (.int .i64 y) hd.1
  have f2 := f1.put d2 (.int .i64 (y + c)) hd.2.2.1
  refine wlVal e1 g1 (.int .i64 y) (run_move w _ _ h1 _ _ f.e3) ?_
  refine wlVal e2 g2 (.int .i64 (y + c)) (run_add3 w _ _ _ h2 _ _ _ (ev_eq _ _ _ (by rw [f.sz]; omega)) (ev_const _ _) hy.1 hy.2) ?_
  refine wlVal e3 g3 (.int .i64 (y + c)) (run_assign w _ _ h3 _ _ (ev_eq _ _ _ (by rw [f1.sz]; omega))) ?_
  exact wlDone (h _ ⟨by rw [sz_put]; exact f2.sz, by rw [def_put]; exact f2.df, by rw [ev_ne _ _ _ _ (by decide)]; exact f2.e4, ev_eq _ _ _ (by rw [f2.sz]; decide)⟩)
/-- What a call of start comes to. -/
def RS (y : Int) (w : World) (e : Exit) (a' : Act) (w' : World) : Prop := e = .ret ∧ a'.defers = [] ∧ a'.eval (.tmp 2) = .int .i64 y ∧ w' = w
theorem retR {y : Int} {w : World} {id : Nat} {o1 o2 : Oper} {a : Act} {x : Int} {d1 : Nat} (h1 : o1.op = .move (.tmp 3)) (g1 : o1.guard = none) (e1 : o1.dst = some d1) (h2 : o2.op = .assign (.tmp d1)) (g2 : o2.guard = none) (e2 : o2.dst = some 2)
    (hd : 4 < d1 ∧ d1 < 62) (f : FrS a x y) : ((Code.region id #[o1, o2] false).seq Code.ret).wp Try.prog (RS y w) a w := by
  refine wp_seq_k fun K hK => ?_
  refine wlStart (l := [o1, o2]) rfl ?_
  have f1 := f.put d1 (.int .i64 y) hd.1
  refine wlVal e1 g1 (.int .i64 y) (run_move w _ _ h1 _ _ f.e3) ?_
  refine wlVal e2 g2 (.int .i64 y) (run_assign w _ _ h2 _ _ (ev_eq _ _ _ (by rw [f.sz]; omega))) ?_
  refine wlDone (hK _ _ (wp_ret ⟨rfl, ?_, ?_, rfl⟩))
  · rw [def_put]
    exact f1.df
  · exact ev_eq _ _ _ (by rw [f1.sz]; decide)
theorem headR {Q : Exit → Act → World → Prop} {i0 i1 i2 : Nat} {o0 o1 o2 : Oper} {a : Act} {w : World} {x : Int} {rest : Code} {last : Code}
    (h0 : o0.op = .assign (.const (.int .i64 0))) (g0 : o0.guard = none) (e0 : o0.dst = some 2) (h1 : o1.op = .assign (.const (.int .i64 0))) (g1 : o1.guard = none) (e1 : o1.dst = some 3) (h2 : o2.op = .move (.tmp 0)) (g2 : o2.guard = none) (e2 : o2.dst = some 4)
    (hs : a.tmps.size = 62) (hdf : a.defers = []) (hx : a.eval (.tmp 0) = .int .i64 x) (h : ∀ a', FrS a' x 0 → ∀ K : Act → World → Prop, (∀ a w, last.wp Try.prog Q a w → K a w) → rest.wp Try.prog (Exit.then K Q) a' w) :
    ((Code.region i0 #[o0] false).seq ((Code.region i1 #[o1] false).seq (((Code.region i2 #[o2] false).seq rest).seq last))).wp Try.prog Q a w := by
  refine wp_seq_k fun K0 k0 => ?_
  refine wlStart (l := [o0]) rfl ?_
  refine wlVal e0 g0 (.int .i64 0) (run_assign w _ _ h0 _ _ (ev_const _ _)) (wlDone (k0 _ _ ?_))
  refine wp_seq_k fun K1 k1 => ?_
  refine wlStart (l := [o1]) rfl ?_
  refine wlVal e1 g1 (.int .i64 0) (run_assign w _ _ h1 _ _ (ev_const _ _)) (wlDone (k1 _ _ ?_))
  refine wp_seq_k fun K2 k2 => ?_
  refine wp_seq_k fun K3 k3 => ?_
  refine wlStart (l := [o2]) rfl ?_
  refine wlVal e2 g2 (.int .i64 x) (run_move w _ _ h2 _ _ (by rw [ev_ne _ _ _ _ (by decide), ev_ne _ _ _ _ (by decide)]; exact hx)) (wlDone (k3 _ _ ?_))
  refine h _ ⟨by simp [sz_put, hs], by simp [def_put, hdf], ev_eq _ _ _ (by simp [sz_put, hs]), ?_⟩ K2 k2
  rw [ev_ne _ _ _ _ (by decide)]
  exact ev_eq _ _ _ (by simp [sz_put, hs])

set_option maxRecDepth 100000 in
theorem start_0 (w : World) : Calls Try.prog 51 #[.int .i64 0] w fun e w' => e = .returned (.int .i64 0) ∧ w' = w := by
  go_enter Try.func51, Try.ntmps51
  refine wp_mono (Q := RS 0 w) ?_ ?_
  rotate_left
  · rintro e a' w' ⟨rfl, hd, hv, hw⟩
    refine bodyPost_ret (results_tmp rfl _ _ _) hd ⟨?_, hw⟩
    exact congrArg Ending.returned hv
  refine headR rfl rfl rfl rfl rfl rfl rfl rfl rfl rfl rfl rfl ?_
  intro a f0 Z hZ
  refine wp_block ?_
  refine wp_seq_k fun K14 h14 => ?_
  refine wp_block ?_
  refine wp_seq_k fun K13 h13 => ?_
  refine wp_block ?_
  refine wp_seq_k fun K12 h12 => ?_
  refine wp_block ?_
  refine wp_seq_k fun K11 h11 => ?_
  refine wp_block ?_
  refine wp_seq_k fun K10 h10 => ?_
  refine wp_block ?_
  refine wp_seq_k fun K9 h9 => ?_
  refine wp_block ?_
  refine wp_seq_k fun K8 h8 => ?_
  refine wp_block ?_
  refine wp_seq_k fun K7 h7 => ?_
  refine wp_block ?_
  refine wp_seq_k fun K6 h6 => ?_
  refine wp_block ?_
  refine wp_seq_k fun K5 h5 => ?_
  refine wp_block ?_
  refine wp_seq_k fun K4 h4 => ?_
  refine wp_block ?_
  refine wp_seq_k fun K3 h3 => ?_
  refine wp_block ?_
  refine wp_seq_k fun K2 h2 => ?_
  refine wp_block ?_
  refine wp_seq_k fun K1 h1 => ?_
  refine wp_block ?_
  refine wp_seq_k fun X hX => ?_
  refine tstMiss rfl rfl rfl rfl rfl rfl (by decide) f0 (by decide) ?_
  intro a1 f1
  refine tstMiss rfl rfl rfl rfl rfl rfl (by decide) f1 (by decide) ?_
  intro a2 f2
  refine tstMiss rfl rfl rfl rfl rfl rfl (by decide) f2 (by decide) ?_
  intro a3 f3
  refine tstMiss rfl rfl rfl rfl rfl rfl (by decide) f3 (by decide) ?_
  intro a4 f4
  refine tstMiss rfl rfl rfl rfl rfl rfl (by decide) f4 (by decide) ?_
  intro a5 f5
  refine tstMiss rfl rfl rfl rfl rfl rfl (by decide) f5 (by decide) ?_
  intro a6 f6
  refine tstMiss rfl rfl rfl rfl rfl rfl (by decide) f6 (by decide) ?_
  intro a7 f7
  refine tstMiss rfl rfl rfl rfl rfl rfl (by decide) f7 (by decide) ?_
  intro a8 f8
  refine tstMiss rfl rfl rfl rfl rfl rfl (by decide) f8 (by decide) ?_
  intro a9 f9
  refine tstMiss rfl rfl rfl rfl rfl rfl (by decide) f9 (by decide) ?_
  intro a10 f10
  refine tstMiss rfl rfl rfl rfl rfl rfl (by decide) f10 (by decide) ?_
  intro a11 f11
  refine tstMiss rfl rfl rfl rfl rfl rfl (by decide) f11 (by decide) ?_
  intro a12 f12
  refine tstMiss rfl rfl rfl rfl rfl rfl (by decide) f12 (by decide) ?_
  intro a13 f13
  refine tstLast rfl rfl rfl rfl rfl rfl (by decide) f13 ?_
  intro a14 f14
  rw [if_neg (by decide)]
  refine hX _ _ (wp_exit ?_)
  show Z _ _
  exact hZ _ _ (retR rfl rfl rfl rfl rfl rfl (by decide) f14)
set_option maxRecDepth 100000 in
theorem start_1 (w : World) : Calls Try.prog 51 #[.int .i64 1] w fun e w' => e = .returned (.int .i64 1) ∧ w' = w := by
  go_enter Try.func51, Try.ntmps51
  refine wp_mono (Q := RS 1 w) ?_ ?_
  rotate_left
  · rintro e a' w' ⟨rfl, hd, hv, hw⟩
    refine bodyPost_ret (results_tmp rfl _ _ _) hd ⟨?_, hw⟩
    exact congrArg Ending.returned hv
  refine headR rfl rfl rfl rfl rfl rfl rfl rfl rfl rfl rfl rfl ?_
  intro a f0 Z hZ
  refine wp_block ?_
  refine wp_seq_k fun K14 h14 => ?_
  refine wp_block ?_
  refine wp_seq_k fun K13 h13 => ?_
  refine wp_block ?_
  refine wp_seq_k fun K12 h12 => ?_
  refine wp_block ?_
  refine wp_seq_k fun K11 h11 => ?_
  refine wp_block ?_
  refine wp_seq_k fun K10 h10 => ?_
  refine wp_block ?_
  refine wp_seq_k fun K9 h9 => ?_
  refine wp_block ?_
  refine wp_seq_k fun K8 h8 => ?_
  refine wp_block ?_
  refine wp_seq_k fun K7 h7 => ?_
  refine wp_block ?_
  refine wp_seq_k fun K6 h6 => ?_
  refine wp_block ?_
  refine wp_seq_k fun K5 h5 => ?_
  refine wp_block ?_
  refine wp_seq_k fun K4 h4 => ?_
  refine wp_block ?_
  refine wp_seq_k fun K3 h3 => ?_
  refine wp_block ?_
  refine wp_seq_k fun K2 h2 => ?_
  refine wp_block ?_
  refine wp_seq_k fun K1 h1 => ?_
  refine wp_block ?_
  refine wp_seq_k fun X hX => ?_
  refine tstMiss rfl rfl rfl rfl rfl rfl (by decide) f0 (by decide) ?_
  intro a1 f1
  refine tstMiss rfl rfl rfl rfl rfl rfl (by decide) f1 (by decide) ?_
  intro a2 f2
  refine tstMiss rfl rfl rfl rfl rfl rfl (by decide) f2 (by decide) ?_
  intro a3 f3
  refine tstMiss rfl rfl rfl rfl rfl rfl (by decide) f3 (by decide) ?_
  intro a4 f4
  refine tstMiss rfl rfl rfl rfl rfl rfl (by decide) f4 (by decide) ?_
  intro a5 f5
  refine tstMiss rfl rfl rfl rfl rfl rfl (by decide) f5 (by decide) ?_
  intro a6 f6
  refine tstMiss rfl rfl rfl rfl rfl rfl (by decide) f6 (by decide) ?_
  intro a7 f7
  refine tstMiss rfl rfl rfl rfl rfl rfl (by decide) f7 (by decide) ?_
  intro a8 f8
  refine tstMiss rfl rfl rfl rfl rfl rfl (by decide) f8 (by decide) ?_
  intro a9 f9
  refine tstMiss rfl rfl rfl rfl rfl rfl (by decide) f9 (by decide) ?_
  intro a10 f10
  refine tstMiss rfl rfl rfl rfl rfl rfl (by decide) f10 (by decide) ?_
  intro a11 f11
  refine tstMiss rfl rfl rfl rfl rfl rfl (by decide) f11 (by decide) ?_
  intro a12 f12
  refine tstMiss rfl rfl rfl rfl rfl rfl (by decide) f12 (by decide) ?_
  intro a13 f13
  refine tstLast rfl rfl rfl rfl rfl rfl (by decide) f13 ?_
  intro a14 f14
  rw [if_pos (by decide)]
  show K14 _ _
  refine h14 _ _ ?_
  refine wp_seq_k fun Y hY => ?_
  refine addR rfl rfl rfl rfl rfl rfl rfl rfl rfl (by decide) f14 (by decide) ?_
  intro a15 f15
  refine hY _ _ (wp_exit ?_)
  show Z _ _
  exact hZ _ _ (retR rfl rfl rfl rfl rfl rfl (by decide) f15)
set_option maxRecDepth 100000 in
theorem start_2 (w : World) : Calls Try.prog 51 #[.int .i64 2] w fun e w' => e = .returned (.int .i64 2) ∧ w' = w := by
  go_enter Try.func51, Try.ntmps51
  refine wp_mono (Q := RS 2 w) ?_ ?_
  rotate_left
  · rintro e a' w' ⟨rfl, hd, hv, hw⟩
    refine bodyPost_ret (results_tmp rfl _ _ _) hd ⟨?_, hw⟩
    exact congrArg Ending.returned hv
  refine headR rfl rfl rfl rfl rfl rfl rfl rfl rfl rfl rfl rfl ?_
  intro a f0 Z hZ
  refine wp_block ?_
  refine wp_seq_k fun K14 h14 => ?_
  refine wp_block ?_
  refine wp_seq_k fun K13 h13 => ?_
  refine wp_block ?_
  refine wp_seq_k fun K12 h12 => ?_
  refine wp_block ?_
  refine wp_seq_k fun K11 h11 => ?_
  refine wp_block ?_
  refine wp_seq_k fun K10 h10 => ?_
  refine wp_block ?_
  refine wp_seq_k fun K9 h9 => ?_
  refine wp_block ?_
  refine wp_seq_k fun K8 h8 => ?_
  refine wp_block ?_
  refine wp_seq_k fun K7 h7 => ?_
  refine wp_block ?_
  refine wp_seq_k fun K6 h6 => ?_
  refine wp_block ?_
  refine wp_seq_k fun K5 h5 => ?_
  refine wp_block ?_
  refine wp_seq_k fun K4 h4 => ?_
  refine wp_block ?_
  refine wp_seq_k fun K3 h3 => ?_
  refine wp_block ?_
  refine wp_seq_k fun K2 h2 => ?_
  refine wp_block ?_
  refine wp_seq_k fun K1 h1 => ?_
  refine wp_block ?_
  refine wp_seq_k fun X hX => ?_
  refine tstMiss rfl rfl rfl rfl rfl rfl (by decide) f0 (by decide) ?_
  intro a1 f1
  refine tstMiss rfl rfl rfl rfl rfl rfl (by decide) f1 (by decide) ?_
  intro a2 f2
  refine tstMiss rfl rfl rfl rfl rfl rfl (by decide) f2 (by decide) ?_
  intro a3 f3
  refine tstMiss rfl rfl rfl rfl rfl rfl (by decide) f3 (by decide) ?_
  intro a4 f4
  refine tstMiss rfl rfl rfl rfl rfl rfl (by decide) f4 (by decide) ?_
  intro a5 f5
  refine tstMiss rfl rfl rfl rfl rfl rfl (by decide) f5 (by decide) ?_
  intro a6 f6
  refine tstMiss rfl rfl rfl rfl rfl rfl (by decide) f6 (by decide) ?_
  intro a7 f7
  refine tstMiss rfl rfl rfl rfl rfl rfl (by decide) f7 (by decide) ?_
  intro a8 f8
  refine tstMiss rfl rfl rfl rfl rfl rfl (by decide) f8 (by decide) ?_
  intro a9 f9
  refine tstMiss rfl rfl rfl rfl rfl rfl (by decide) f9 (by decide) ?_
  intro a10 f10
  refine tstMiss rfl rfl rfl rfl rfl rfl (by decide) f10 (by decide) ?_
  intro a11 f11
  refine tstMiss rfl rfl rfl rfl rfl rfl (by decide) f11 (by decide) ?_
  intro a12 f12
  refine tstHit rfl rfl rfl rfl rfl rfl (by decide) f12 (by decide) ?_
  intro a13 f13
  show K13 _ _
  refine h13 _ _ ?_
  refine addR rfl rfl rfl rfl rfl rfl rfl rfl rfl (by decide) f13 (by decide) ?_
  intro a14 f14
  show K14 _ _
  refine h14 _ _ ?_
  refine wp_seq_k fun Y hY => ?_
  refine addR rfl rfl rfl rfl rfl rfl rfl rfl rfl (by decide) f14 (by decide) ?_
  intro a15 f15
  refine hY _ _ (wp_exit ?_)
  show Z _ _
  exact hZ _ _ (retR rfl rfl rfl rfl rfl rfl (by decide) f15)
set_option maxRecDepth 100000 in
theorem start_3 (w : World) : Calls Try.prog 51 #[.int .i64 3] w fun e w' => e = .returned (.int .i64 3) ∧ w' = w := by
  go_enter Try.func51, Try.ntmps51
  refine wp_mono (Q := RS 3 w) ?_ ?_
  rotate_left
  · rintro e a' w' ⟨rfl, hd, hv, hw⟩
    refine bodyPost_ret (results_tmp rfl _ _ _) hd ⟨?_, hw⟩
    exact congrArg Ending.returned hv
  refine headR rfl rfl rfl rfl rfl rfl rfl rfl rfl rfl rfl rfl ?_
  intro a f0 Z hZ
  refine wp_block ?_
  refine wp_seq_k fun K14 h14 => ?_
  refine wp_block ?_
  refine wp_seq_k fun K13 h13 => ?_
  refine wp_block ?_
  refine wp_seq_k fun K12 h12 => ?_
  refine wp_block ?_
  refine wp_seq_k fun K11 h11 => ?_
  refine wp_block ?_
  refine wp_seq_k fun K10 h10 => ?_
  refine wp_block ?_
  refine wp_seq_k fun K9 h9 => ?_
  refine wp_block ?_
  refine wp_seq_k fun K8 h8 => ?_
  refine wp_block ?_
  refine wp_seq_k fun K7 h7 => ?_
  refine wp_block ?_
  refine wp_seq_k fun K6 h6 => ?_
  refine wp_block ?_
  refine wp_seq_k fun K5 h5 => ?_
  refine wp_block ?_
  refine wp_seq_k fun K4 h4 => ?_
  refine wp_block ?_
  refine wp_seq_k fun K3 h3 => ?_
  refine wp_block ?_
  refine wp_seq_k fun K2 h2 => ?_
  refine wp_block ?_
  refine wp_seq_k fun K1 h1 => ?_
  refine wp_block ?_
  refine wp_seq_k fun X hX => ?_
  refine tstMiss rfl rfl rfl rfl rfl rfl (by decide) f0 (by decide) ?_
  intro a1 f1
  refine tstMiss rfl rfl rfl rfl rfl rfl (by decide) f1 (by decide) ?_
  intro a2 f2
  refine tstMiss rfl rfl rfl rfl rfl rfl (by decide) f2 (by decide) ?_
  intro a3 f3
  refine tstMiss rfl rfl rfl rfl rfl rfl (by decide) f3 (by decide) ?_
  intro a4 f4
  refine tstMiss rfl rfl rfl rfl rfl rfl (by decide) f4 (by decide) ?_
  intro a5 f5
  refine tstMiss rfl rfl rfl rfl rfl rfl (by decide) f5 (by decide) ?_
  intro a6 f6
  refine tstMiss rfl rfl rfl rfl rfl rfl (by decide) f6 (by decide) ?_
  intro a7 f7
  refine tstMiss rfl rfl rfl rfl rfl rfl (by decide) f7 (by decide) ?_
  intro a8 f8
  refine tstMiss rfl rfl rfl rfl rfl rfl (by decide) f8 (by decide) ?_
  intro a9 f9
  refine tstMiss rfl rfl rfl rfl rfl rfl (by decide) f9 (by decide) ?_
  intro a10 f10
  refine tstMiss rfl rfl rfl rfl rfl rfl (by decide) f10 (by decide) ?_
  intro a11 f11
  refine tstHit rfl rfl rfl rfl rfl rfl (by decide) f11 (by decide) ?_
  intro a12 f12
  show K12 _ _
  refine h12 _ _ ?_
  refine addR rfl rfl rfl rfl rfl rfl rfl rfl rfl (by decide) f12 (by decide) ?_
  intro a13 f13
  show K13 _ _
  refine h13 _ _ ?_
  refine addR rfl rfl rfl rfl rfl rfl rfl rfl rfl (by decide) f13 (by decide) ?_
  intro a14 f14
  show K14 _ _
  refine h14 _ _ ?_
  refine wp_seq_k fun Y hY => ?_
  refine addR rfl rfl rfl rfl rfl rfl rfl rfl rfl (by decide) f14 (by decide) ?_
  intro a15 f15
  refine hY _ _ (wp_exit ?_)
  show Z _ _
  exact hZ _ _ (retR rfl rfl rfl rfl rfl rfl (by decide) f15)
set_option maxRecDepth 100000 in
theorem start_4 (w : World) : Calls Try.prog 51 #[.int .i64 4] w fun e w' => e = .returned (.int .i64 4) ∧ w' = w := by
  go_enter Try.func51, Try.ntmps51
  refine wp_mono (Q := RS 4 w) ?_ ?_
  rotate_left
  · rintro e a' w' ⟨rfl, hd, hv, hw⟩
    refine bodyPost_ret (results_tmp rfl _ _ _) hd ⟨?_, hw⟩
    exact congrArg Ending.returned hv
  refine headR rfl rfl rfl rfl rfl rfl rfl rfl rfl rfl rfl rfl ?_
  intro a f0 Z hZ
  refine wp_block ?_
  refine wp_seq_k fun K14 h14 => ?_
  refine wp_block ?_
  refine wp_seq_k fun K13 h13 => ?_
  refine wp_block ?_
  refine wp_seq_k fun K12 h12 => ?_
  refine wp_block ?_
  refine wp_seq_k fun K11 h11 => ?_
  refine wp_block ?_
  refine wp_seq_k fun K10 h10 => ?_
  refine wp_block ?_
  refine wp_seq_k fun K9 h9 => ?_
  refine wp_block ?_
  refine wp_seq_k fun K8 h8 => ?_
  refine wp_block ?_
  refine wp_seq_k fun K7 h7 => ?_
  refine wp_block ?_
  refine wp_seq_k fun K6 h6 => ?_
  refine wp_block ?_
  refine wp_seq_k fun K5 h5 => ?_
  refine wp_block ?_
  refine wp_seq_k fun K4 h4 => ?_
  refine wp_block ?_
  refine wp_seq_k fun K3 h3 => ?_
  refine wp_block ?_
  refine wp_seq_k fun K2 h2 => ?_
  refine wp_block ?_
  refine wp_seq_k fun K1 h1 => ?_
  refine wp_block ?_
  refine wp_seq_k fun X hX => ?_
  refine tstMiss rfl rfl rfl rfl rfl rfl (by decide) f0 (by decide) ?_
  intro a1 f1
  refine tstMiss rfl rfl rfl rfl rfl rfl (by decide) f1 (by decide) ?_
  intro a2 f2
  refine tstMiss rfl rfl rfl rfl rfl rfl (by decide) f2 (by decide) ?_
  intro a3 f3
  refine tstMiss rfl rfl rfl rfl rfl rfl (by decide) f3 (by decide) ?_
  intro a4 f4
  refine tstMiss rfl rfl rfl rfl rfl rfl (by decide) f4 (by decide) ?_
  intro a5 f5
  refine tstMiss rfl rfl rfl rfl rfl rfl (by decide) f5 (by decide) ?_
  intro a6 f6
  refine tstMiss rfl rfl rfl rfl rfl rfl (by decide) f6 (by decide) ?_
  intro a7 f7
  refine tstMiss rfl rfl rfl rfl rfl rfl (by decide) f7 (by decide) ?_
  intro a8 f8
  refine tstMiss rfl rfl rfl rfl rfl rfl (by decide) f8 (by decide) ?_
  intro a9 f9
  refine tstMiss rfl rfl rfl rfl rfl rfl (by decide) f9 (by decide) ?_
  intro a10 f10
  refine tstHit rfl rfl rfl rfl rfl rfl (by decide) f10 (by decide) ?_
  intro a11 f11
  show K11 _ _
  refine h11 _ _ ?_
  refine addR rfl rfl rfl rfl rfl rfl rfl rfl rfl (by decide) f11 (by decide) ?_
  intro a12 f12
  show K12 _ _
  refine h12 _ _ ?_
  refine addR rfl rfl rfl rfl rfl rfl rfl rfl rfl (by decide) f12 (by decide) ?_
  intro a13 f13
  show K13 _ _
  refine h13 _ _ ?_
  refine addR rfl rfl rfl rfl rfl rfl rfl rfl rfl (by decide) f13 (by decide) ?_
  intro a14 f14
  show K14 _ _
  refine h14 _ _ ?_
  refine wp_seq_k fun Y hY => ?_
  refine addR rfl rfl rfl rfl rfl rfl rfl rfl rfl (by decide) f14 (by decide) ?_
  intro a15 f15
  refine hY _ _ (wp_exit ?_)
  show Z _ _
  exact hZ _ _ (retR rfl rfl rfl rfl rfl rfl (by decide) f15)
set_option maxRecDepth 100000 in
theorem start_5 (w : World) : Calls Try.prog 51 #[.int .i64 5] w fun e w' => e = .returned (.int .i64 8) ∧ w' = w := by
  go_enter Try.func51, Try.ntmps51
  refine wp_mono (Q := RS 8 w) ?_ ?_
  rotate_left
  · rintro e a' w' ⟨rfl, hd, hv, hw⟩
    refine bodyPost_ret (results_tmp rfl _ _ _) hd ⟨?_, hw⟩
    exact congrArg Ending.returned hv
  refine headR rfl rfl rfl rfl rfl rfl rfl rfl rfl rfl rfl rfl ?_
  intro a f0 Z hZ
  refine wp_block ?_
  refine wp_seq_k fun K14 h14 => ?_
  refine wp_block ?_
  refine wp_seq_k fun K13 h13 => ?_
  refine wp_block ?_
  refine wp_seq_k fun K12 h12 => ?_
  refine wp_block ?_
  refine wp_seq_k fun K11 h11 => ?_
  refine wp_block ?_
  refine wp_seq_k fun K10 h10 => ?_
  refine wp_block ?_
  refine wp_seq_k fun K9 h9 => ?_
  refine wp_block ?_
  refine wp_seq_k fun K8 h8 => ?_
  refine wp_block ?_
  refine wp_seq_k fun K7 h7 => ?_
  refine wp_block ?_
  refine wp_seq_k fun K6 h6 => ?_
  refine wp_block ?_
  refine wp_seq_k fun K5 h5 => ?_
  refine wp_block ?_
  refine wp_seq_k fun K4 h4 => ?_
  refine wp_block ?_
  refine wp_seq_k fun K3 h3 => ?_
  refine wp_block ?_
  refine wp_seq_k fun K2 h2 => ?_
  refine wp_block ?_
  refine wp_seq_k fun K1 h1 => ?_
  refine wp_block ?_
  refine wp_seq_k fun X hX => ?_
  refine tstMiss rfl rfl rfl rfl rfl rfl (by decide) f0 (by decide) ?_
  intro a1 f1
  refine tstMiss rfl rfl rfl rfl rfl rfl (by decide) f1 (by decide) ?_
  intro a2 f2
  refine tstMiss rfl rfl rfl rfl rfl rfl (by decide) f2 (by decide) ?_
  intro a3 f3
  refine tstMiss rfl rfl rfl rfl rfl rfl (by decide) f3 (by decide) ?_
  intro a4 f4
  refine tstMiss rfl rfl rfl rfl rfl rfl (by decide) f4 (by decide) ?_
  intro a5 f5
  refine tstMiss rfl rfl rfl rfl rfl rfl (by decide) f5 (by decide) ?_
  intro a6 f6
  refine tstMiss rfl rfl rfl rfl rfl rfl (by decide) f6 (by decide) ?_
  intro a7 f7
  refine tstMiss rfl rfl rfl rfl rfl rfl (by decide) f7 (by decide) ?_
  intro a8 f8
  refine tstMiss rfl rfl rfl rfl rfl rfl (by decide) f8 (by decide) ?_
  intro a9 f9
  refine tstHit rfl rfl rfl rfl rfl rfl (by decide) f9 (by decide) ?_
  intro a10 f10
  show K10 _ _
  refine h10 _ _ ?_
  refine addR rfl rfl rfl rfl rfl rfl rfl rfl rfl (by decide) f10 (by decide) ?_
  intro a11 f11
  show K11 _ _
  refine h11 _ _ ?_
  refine addR rfl rfl rfl rfl rfl rfl rfl rfl rfl (by decide) f11 (by decide) ?_
  intro a12 f12
  show K12 _ _
  refine h12 _ _ ?_
  refine addR rfl rfl rfl rfl rfl rfl rfl rfl rfl (by decide) f12 (by decide) ?_
  intro a13 f13
  show K13 _ _
  refine h13 _ _ ?_
  refine addR rfl rfl rfl rfl rfl rfl rfl rfl rfl (by decide) f13 (by decide) ?_
  intro a14 f14
  show K14 _ _
  refine h14 _ _ ?_
  refine wp_seq_k fun Y hY => ?_
  refine addR rfl rfl rfl rfl rfl rfl rfl rfl rfl (by decide) f14 (by decide) ?_
  intro a15 f15
  refine hY _ _ (wp_exit ?_)
  show Z _ _
  exact hZ _ _ (retR rfl rfl rfl rfl rfl rfl (by decide) f15)
set_option maxRecDepth 100000 in
theorem start_6 (w : World) : Calls Try.prog 51 #[.int .i64 6] w fun e w' => e = .returned (.int .i64 12) ∧ w' = w := by
  go_enter Try.func51, Try.ntmps51
  refine wp_mono (Q := RS 12 w) ?_ ?_
  rotate_left
  · rintro e a' w' ⟨rfl, hd, hv, hw⟩
    refine bodyPost_ret (results_tmp rfl _ _ _) hd ⟨?_, hw⟩
    exact congrArg Ending.returned hv
  refine headR rfl rfl rfl rfl rfl rfl rfl rfl rfl rfl rfl rfl ?_
  intro a f0 Z hZ
  refine wp_block ?_
  refine wp_seq_k fun K14 h14 => ?_
  refine wp_block ?_
  refine wp_seq_k fun K13 h13 => ?_
  refine wp_block ?_
  refine wp_seq_k fun K12 h12 => ?_
  refine wp_block ?_
  refine wp_seq_k fun K11 h11 => ?_
  refine wp_block ?_
  refine wp_seq_k fun K10 h10 => ?_
  refine wp_block ?_
  refine wp_seq_k fun K9 h9 => ?_
  refine wp_block ?_
  refine wp_seq_k fun K8 h8 => ?_
  refine wp_block ?_
  refine wp_seq_k fun K7 h7 => ?_
  refine wp_block ?_
  refine wp_seq_k fun K6 h6 => ?_
  refine wp_block ?_
  refine wp_seq_k fun K5 h5 => ?_
  refine wp_block ?_
  refine wp_seq_k fun K4 h4 => ?_
  refine wp_block ?_
  refine wp_seq_k fun K3 h3 => ?_
  refine wp_block ?_
  refine wp_seq_k fun K2 h2 => ?_
  refine wp_block ?_
  refine wp_seq_k fun K1 h1 => ?_
  refine wp_block ?_
  refine wp_seq_k fun X hX => ?_
  refine tstMiss rfl rfl rfl rfl rfl rfl (by decide) f0 (by decide) ?_
  intro a1 f1
  refine tstMiss rfl rfl rfl rfl rfl rfl (by decide) f1 (by decide) ?_
  intro a2 f2
  refine tstMiss rfl rfl rfl rfl rfl rfl (by decide) f2 (by decide) ?_
  intro a3 f3
  refine tstMiss rfl rfl rfl rfl rfl rfl (by decide) f3 (by decide) ?_
  intro a4 f4
  refine tstMiss rfl rfl rfl rfl rfl rfl (by decide) f4 (by decide) ?_
  intro a5 f5
  refine tstMiss rfl rfl rfl rfl rfl rfl (by decide) f5 (by decide) ?_
  intro a6 f6
  refine tstMiss rfl rfl rfl rfl rfl rfl (by decide) f6 (by decide) ?_
  intro a7 f7
  refine tstMiss rfl rfl rfl rfl rfl rfl (by decide) f7 (by decide) ?_
  intro a8 f8
  refine tstHit rfl rfl rfl rfl rfl rfl (by decide) f8 (by decide) ?_
  intro a9 f9
  show K9 _ _
  refine h9 _ _ ?_
  refine addR rfl rfl rfl rfl rfl rfl rfl rfl rfl (by decide) f9 (by decide) ?_
  intro a10 f10
  show K10 _ _
  refine h10 _ _ ?_
  refine addR rfl rfl rfl rfl rfl rfl rfl rfl rfl (by decide) f10 (by decide) ?_
  intro a11 f11
  show K11 _ _
  refine h11 _ _ ?_
  refine addR rfl rfl rfl rfl rfl rfl rfl rfl rfl (by decide) f11 (by decide) ?_
  intro a12 f12
  show K12 _ _
  refine h12 _ _ ?_
  refine addR rfl rfl rfl rfl rfl rfl rfl rfl rfl (by decide) f12 (by decide) ?_
  intro a13 f13
  show K13 _ _
  refine h13 _ _ ?_
  refine addR rfl rfl rfl rfl rfl rfl rfl rfl rfl (by decide) f13 (by decide) ?_
  intro a14 f14
  show K14 _ _
  refine h14 _ _ ?_
  refine wp_seq_k fun Y hY => ?_
  refine addR rfl rfl rfl rfl rfl rfl rfl rfl rfl (by decide) f14 (by decide) ?_
  intro a15 f15
  refine hY _ _ (wp_exit ?_)
  show Z _ _
  exact hZ _ _ (retR rfl rfl rfl rfl rfl rfl (by decide) f15)
set_option maxRecDepth 100000 in
theorem start_7 (w : World) : Calls Try.prog 51 #[.int .i64 7] w fun e w' => e = .returned (.int .i64 20) ∧ w' = w := by
  go_enter Try.func51, Try.ntmps51
  refine wp_mono (Q := RS 20 w) ?_ ?_
  rotate_left
  · rintro e a' w' ⟨rfl, hd, hv, hw⟩
    refine bodyPost_ret (results_tmp rfl _ _ _) hd ⟨?_, hw⟩
    exact congrArg Ending.returned hv
  refine headR rfl rfl rfl rfl rfl rfl rfl rfl rfl rfl rfl rfl ?_
  intro a f0 Z hZ
  refine wp_block ?_
  refine wp_seq_k fun K14 h14 => ?_
  refine wp_block ?_
  refine wp_seq_k fun K13 h13 => ?_
  refine wp_block ?_
  refine wp_seq_k fun K12 h12 => ?_
  refine wp_block ?_
  refine wp_seq_k fun K11 h11 => ?_
  refine wp_block ?_
  refine wp_seq_k fun K10 h10 => ?_
  refine wp_block ?_
  refine wp_seq_k fun K9 h9 => ?_
  refine wp_block ?_
  refine wp_seq_k fun K8 h8 => ?_
  refine wp_block ?_
  refine wp_seq_k fun K7 h7 => ?_
  refine wp_block ?_
  refine wp_seq_k fun K6 h6 => ?_
  refine wp_block ?_
  refine wp_seq_k fun K5 h5 => ?_
  refine wp_block ?_
  refine wp_seq_k fun K4 h4 => ?_
  refine wp_block ?_
  refine wp_seq_k fun K3 h3 => ?_
  refine wp_block ?_
  refine wp_seq_k fun K2 h2 => ?_
  refine wp_block ?_
  refine wp_seq_k fun K1 h1 => ?_
  refine wp_block ?_
  refine wp_seq_k fun X hX => ?_
  refine tstMiss rfl rfl rfl rfl rfl rfl (by decide) f0 (by decide) ?_
  intro a1 f1
  refine tstMiss rfl rfl rfl rfl rfl rfl (by decide) f1 (by decide) ?_
  intro a2 f2
  refine tstMiss rfl rfl rfl rfl rfl rfl (by decide) f2 (by decide) ?_
  intro a3 f3
  refine tstMiss rfl rfl rfl rfl rfl rfl (by decide) f3 (by decide) ?_
  intro a4 f4
  refine tstMiss rfl rfl rfl rfl rfl rfl (by decide) f4 (by decide) ?_
  intro a5 f5
  refine tstMiss rfl rfl rfl rfl rfl rfl (by decide) f5 (by decide) ?_
  intro a6 f6
  refine tstMiss rfl rfl rfl rfl rfl rfl (by decide) f6 (by decide) ?_
  intro a7 f7
  refine tstHit rfl rfl rfl rfl rfl rfl (by decide) f7 (by decide) ?_
  intro a8 f8
  show K8 _ _
  refine h8 _ _ ?_
  refine addR rfl rfl rfl rfl rfl rfl rfl rfl rfl (by decide) f8 (by decide) ?_
  intro a9 f9
  show K9 _ _
  refine h9 _ _ ?_
  refine addR rfl rfl rfl rfl rfl rfl rfl rfl rfl (by decide) f9 (by decide) ?_
  intro a10 f10
  show K10 _ _
  refine h10 _ _ ?_
  refine addR rfl rfl rfl rfl rfl rfl rfl rfl rfl (by decide) f10 (by decide) ?_
  intro a11 f11
  show K11 _ _
  refine h11 _ _ ?_
  refine addR rfl rfl rfl rfl rfl rfl rfl rfl rfl (by decide) f11 (by decide) ?_
  intro a12 f12
  show K12 _ _
  refine h12 _ _ ?_
  refine addR rfl rfl rfl rfl rfl rfl rfl rfl rfl (by decide) f12 (by decide) ?_
  intro a13 f13
  show K13 _ _
  refine h13 _ _ ?_
  refine addR rfl rfl rfl rfl rfl rfl rfl rfl rfl (by decide) f13 (by decide) ?_
  intro a14 f14
  show K14 _ _
  refine h14 _ _ ?_
  refine wp_seq_k fun Y hY => ?_
  refine addR rfl rfl rfl rfl rfl rfl rfl rfl rfl (by decide) f14 (by decide) ?_
  intro a15 f15
  refine hY _ _ (wp_exit ?_)
  show Z _ _
  exact hZ _ _ (retR rfl rfl rfl rfl rfl rfl (by decide) f15)
set_option maxRecDepth 100000 in
theorem start_8 (w : World) : Calls Try.prog 51 #[.int .i64 8] w fun e w' => e = .returned (.int .i64 24) ∧ w' = w := by
  go_enter Try.func51, Try.ntmps51
  refine wp_mono (Q := RS 24 w) ?_ ?_
  rotate_left
  · rintro e a' w' ⟨rfl, hd, hv, hw⟩
    refine bodyPost_ret (results_tmp rfl _ _ _) hd ⟨?_, hw⟩
    exact congrArg Ending.returned hv
  refine headR rfl rfl rfl rfl rfl rfl rfl rfl rfl rfl rfl rfl ?_
  intro a f0 Z hZ
  refine wp_block ?_
  refine wp_seq_k fun K14 h14 => ?_
  refine wp_block ?_
  refine wp_seq_k fun K13 h13 => ?_
  refine wp_block ?_
  refine wp_seq_k fun K12 h12 => ?_
  refine wp_block ?_
  refine wp_seq_k fun K11 h11 => ?_
  refine wp_block ?_
  refine wp_seq_k fun K10 h10 => ?_
  refine wp_block ?_
  refine wp_seq_k fun K9 h9 => ?_
  refine wp_block ?_
  refine wp_seq_k fun K8 h8 => ?_
  refine wp_block ?_
  refine wp_seq_k fun K7 h7 => ?_
  refine wp_block ?_
  refine wp_seq_k fun K6 h6 => ?_
  refine wp_block ?_
  refine wp_seq_k fun K5 h5 => ?_
  refine wp_block ?_
  refine wp_seq_k fun K4 h4 => ?_
  refine wp_block ?_
  refine wp_seq_k fun K3 h3 => ?_
  refine wp_block ?_
  refine wp_seq_k fun K2 h2 => ?_
  refine wp_block ?_
  refine wp_seq_k fun K1 h1 => ?_
  refine wp_block ?_
  refine wp_seq_k fun X hX => ?_
  refine tstMiss rfl rfl rfl rfl rfl rfl (by decide) f0 (by decide) ?_
  intro a1 f1
  refine tstMiss rfl rfl rfl rfl rfl rfl (by decide) f1 (by decide) ?_
  intro a2 f2
  refine tstMiss rfl rfl rfl rfl rfl rfl (by decide) f2 (by decide) ?_
  intro a3 f3
  refine tstMiss rfl rfl rfl rfl rfl rfl (by decide) f3 (by decide) ?_
  intro a4 f4
  refine tstMiss rfl rfl rfl rfl rfl rfl (by decide) f4 (by decide) ?_
  intro a5 f5
  refine tstMiss rfl rfl rfl rfl rfl rfl (by decide) f5 (by decide) ?_
  intro a6 f6
  refine tstHit rfl rfl rfl rfl rfl rfl (by decide) f6 (by decide) ?_
  intro a7 f7
  show K7 _ _
  refine h7 _ _ ?_
  refine addR rfl rfl rfl rfl rfl rfl rfl rfl rfl (by decide) f7 (by decide) ?_
  intro a8 f8
  show K8 _ _
  refine h8 _ _ ?_
  refine addR rfl rfl rfl rfl rfl rfl rfl rfl rfl (by decide) f8 (by decide) ?_
  intro a9 f9
  show K9 _ _
  refine h9 _ _ ?_
  refine addR rfl rfl rfl rfl rfl rfl rfl rfl rfl (by decide) f9 (by decide) ?_
  intro a10 f10
  show K10 _ _
  refine h10 _ _ ?_
  refine addR rfl rfl rfl rfl rfl rfl rfl rfl rfl (by decide) f10 (by decide) ?_
  intro a11 f11
  show K11 _ _
  refine h11 _ _ ?_
  refine addR rfl rfl rfl rfl rfl rfl rfl rfl rfl (by decide) f11 (by decide) ?_
  intro a12 f12
  show K12 _ _
  refine h12 _ _ ?_
  refine addR rfl rfl rfl rfl rfl rfl rfl rfl rfl (by decide) f12 (by decide) ?_
  intro a13 f13
  show K13 _ _
  refine h13 _ _ ?_
  refine addR rfl rfl rfl rfl rfl rfl rfl rfl rfl (by decide) f13 (by decide) ?_
  intro a14 f14
  show K14 _ _
  refine h14 _ _ ?_
  refine wp_seq_k fun Y hY => ?_
  refine addR rfl rfl rfl rfl rfl rfl rfl rfl rfl (by decide) f14 (by decide) ?_
  intro a15 f15
  refine hY _ _ (wp_exit ?_)
  show Z _ _
  exact hZ _ _ (retR rfl rfl rfl rfl rfl rfl (by decide) f15)
set_option maxRecDepth 100000 in
theorem start_9 (w : World) : Calls Try.prog 51 #[.int .i64 9] w fun e w' => e = .returned (.int .i64 28) ∧ w' = w := by
  go_enter Try.func51, Try.ntmps51
  refine wp_mono (Q := RS 28 w) ?_ ?_
  rotate_left
  · rintro e a' w' ⟨rfl, hd, hv, hw⟩
    refine bodyPost_ret (results_tmp rfl _ _ _) hd ⟨?_, hw⟩
    exact congrArg Ending.returned hv
  refine headR rfl rfl rfl rfl rfl rfl rfl rfl rfl rfl rfl rfl ?_
  intro a f0 Z hZ
  refine wp_block ?_
  refine wp_seq_k fun K14 h14 => ?_
  refine wp_block ?_
  refine wp_seq_k fun K13 h13 => ?_
  refine wp_block ?_
  refine wp_seq_k fun K12 h12 => ?_
  refine wp_block ?_
  refine wp_seq_k fun K11 h11 => ?_
  refine wp_block ?_
  refine wp_seq_k fun K10 h10 => ?_
  refine wp_block ?_
  refine wp_seq_k fun K9 h9 => ?_
  refine wp_block ?_
  refine wp_seq_k fun K8 h8 => ?_
  refine wp_block ?_
  refine wp_seq_k fun K7 h7 => ?_
  refine wp_block ?_
  refine wp_seq_k fun K6 h6 => ?_
  refine wp_block ?_
  refine wp_seq_k fun K5 h5 => ?_
  refine wp_block ?_
  refine wp_seq_k fun K4 h4 => ?_
  refine wp_block ?_
  refine wp_seq_k fun K3 h3 => ?_
  refine wp_block ?_
  refine wp_seq_k fun K2 h2 => ?_
  refine wp_block ?_
  refine wp_seq_k fun K1 h1 => ?_
  refine wp_block ?_
  refine wp_seq_k fun X hX => ?_
  refine tstMiss rfl rfl rfl rfl rfl rfl (by decide) f0 (by decide) ?_
  intro a1 f1
  refine tstMiss rfl rfl rfl rfl rfl rfl (by decide) f1 (by decide) ?_
  intro a2 f2
  refine tstMiss rfl rfl rfl rfl rfl rfl (by decide) f2 (by decide) ?_
  intro a3 f3
  refine tstMiss rfl rfl rfl rfl rfl rfl (by decide) f3 (by decide) ?_
  intro a4 f4
  refine tstMiss rfl rfl rfl rfl rfl rfl (by decide) f4 (by decide) ?_
  intro a5 f5
  refine tstHit rfl rfl rfl rfl rfl rfl (by decide) f5 (by decide) ?_
  intro a6 f6
  show K6 _ _
  refine h6 _ _ ?_
  refine addR rfl rfl rfl rfl rfl rfl rfl rfl rfl (by decide) f6 (by decide) ?_
  intro a7 f7
  show K7 _ _
  refine h7 _ _ ?_
  refine addR rfl rfl rfl rfl rfl rfl rfl rfl rfl (by decide) f7 (by decide) ?_
  intro a8 f8
  show K8 _ _
  refine h8 _ _ ?_
  refine addR rfl rfl rfl rfl rfl rfl rfl rfl rfl (by decide) f8 (by decide) ?_
  intro a9 f9
  show K9 _ _
  refine h9 _ _ ?_
  refine addR rfl rfl rfl rfl rfl rfl rfl rfl rfl (by decide) f9 (by decide) ?_
  intro a10 f10
  show K10 _ _
  refine h10 _ _ ?_
  refine addR rfl rfl rfl rfl rfl rfl rfl rfl rfl (by decide) f10 (by decide) ?_
  intro a11 f11
  show K11 _ _
  refine h11 _ _ ?_
  refine addR rfl rfl rfl rfl rfl rfl rfl rfl rfl (by decide) f11 (by decide) ?_
  intro a12 f12
  show K12 _ _
  refine h12 _ _ ?_
  refine addR rfl rfl rfl rfl rfl rfl rfl rfl rfl (by decide) f12 (by decide) ?_
  intro a13 f13
  show K13 _ _
  refine h13 _ _ ?_
  refine addR rfl rfl rfl rfl rfl rfl rfl rfl rfl (by decide) f13 (by decide) ?_
  intro a14 f14
  show K14 _ _
  refine h14 _ _ ?_
  refine wp_seq_k fun Y hY => ?_
  refine addR rfl rfl rfl rfl rfl rfl rfl rfl rfl (by decide) f14 (by decide) ?_
  intro a15 f15
  refine hY _ _ (wp_exit ?_)
  show Z _ _
  exact hZ _ _ (retR rfl rfl rfl rfl rfl rfl (by decide) f15)
set_option maxRecDepth 100000 in
theorem start_10 (w : World) : Calls Try.prog 51 #[.int .i64 10] w fun e w' => e = .returned (.int .i64 32) ∧ w' = w := by
  go_enter Try.func51, Try.ntmps51
  refine wp_mono (Q := RS 32 w) ?_ ?_
  rotate_left
  · rintro e a' w' ⟨rfl, hd, hv, hw⟩
    refine bodyPost_ret (results_tmp rfl _ _ _) hd ⟨?_, hw⟩
    exact congrArg Ending.returned hv
  refine headR rfl rfl rfl rfl rfl rfl rfl rfl rfl rfl rfl rfl ?_
  intro a f0 Z hZ
  refine wp_block ?_
  refine wp_seq_k fun K14 h14 => ?_
  refine wp_block ?_
  refine wp_seq_k fun K13 h13 => ?_
  refine wp_block ?_
  refine wp_seq_k fun K12 h12 => ?_
  refine wp_block ?_
  refine wp_seq_k fun K11 h11 => ?_
  refine wp_block ?_
  refine wp_seq_k fun K10 h10 => ?_
  refine wp_block ?_
  refine wp_seq_k fun K9 h9 => ?_
  refine wp_block ?_
  refine wp_seq_k fun K8 h8 => ?_
  refine wp_block ?_
  refine wp_seq_k fun K7 h7 => ?_
  refine wp_block ?_
  refine wp_seq_k fun K6 h6 => ?_
  refine wp_block ?_
  refine wp_seq_k fun K5 h5 => ?_
  refine wp_block ?_
  refine wp_seq_k fun K4 h4 => ?_
  refine wp_block ?_
  refine wp_seq_k fun K3 h3 => ?_
  refine wp_block ?_
  refine wp_seq_k fun K2 h2 => ?_
  refine wp_block ?_
  refine wp_seq_k fun K1 h1 => ?_
  refine wp_block ?_
  refine wp_seq_k fun X hX => ?_
  refine tstMiss rfl rfl rfl rfl rfl rfl (by decide) f0 (by decide) ?_
  intro a1 f1
  refine tstMiss rfl rfl rfl rfl rfl rfl (by decide) f1 (by decide) ?_
  intro a2 f2
  refine tstMiss rfl rfl rfl rfl rfl rfl (by decide) f2 (by decide) ?_
  intro a3 f3
  refine tstMiss rfl rfl rfl rfl rfl rfl (by decide) f3 (by decide) ?_
  intro a4 f4
  refine tstHit rfl rfl rfl rfl rfl rfl (by decide) f4 (by decide) ?_
  intro a5 f5
  show K5 _ _
  refine h5 _ _ ?_
  refine addR rfl rfl rfl rfl rfl rfl rfl rfl rfl (by decide) f5 (by decide) ?_
  intro a6 f6
  show K6 _ _
  refine h6 _ _ ?_
  refine addR rfl rfl rfl rfl rfl rfl rfl rfl rfl (by decide) f6 (by decide) ?_
  intro a7 f7
  show K7 _ _
  refine h7 _ _ ?_
  refine addR rfl rfl rfl rfl rfl rfl rfl rfl rfl (by decide) f7 (by decide) ?_
  intro a8 f8
  show K8 _ _
  refine h8 _ _ ?_
  refine addR rfl rfl rfl rfl rfl rfl rfl rfl rfl (by decide) f8 (by decide) ?_
  intro a9 f9
  show K9 _ _
  refine h9 _ _ ?_
  refine addR rfl rfl rfl rfl rfl rfl rfl rfl rfl (by decide) f9 (by decide) ?_
  intro a10 f10
  show K10 _ _
  refine h10 _ _ ?_
  refine addR rfl rfl rfl rfl rfl rfl rfl rfl rfl (by decide) f10 (by decide) ?_
  intro a11 f11
  show K11 _ _
  refine h11 _ _ ?_
  refine addR rfl rfl rfl rfl rfl rfl rfl rfl rfl (by decide) f11 (by decide) ?_
  intro a12 f12
  show K12 _ _
  refine h12 _ _ ?_
  refine addR rfl rfl rfl rfl rfl rfl rfl rfl rfl (by decide) f12 (by decide) ?_
  intro a13 f13
  show K13 _ _
  refine h13 _ _ ?_
  refine addR rfl rfl rfl rfl rfl rfl rfl rfl rfl (by decide) f13 (by decide) ?_
  intro a14 f14
  show K14 _ _
  refine h14 _ _ ?_
  refine wp_seq_k fun Y hY => ?_
  refine addR rfl rfl rfl rfl rfl rfl rfl rfl rfl (by decide) f14 (by decide) ?_
  intro a15 f15
  refine hY _ _ (wp_exit ?_)
  show Z _ _
  exact hZ _ _ (retR rfl rfl rfl rfl rfl rfl (by decide) f15)
set_option maxRecDepth 100000 in
theorem start_11 (w : World) : Calls Try.prog 51 #[.int .i64 11] w fun e w' => e = .returned (.int .i64 33) ∧ w' = w := by
  go_enter Try.func51, Try.ntmps51
  refine wp_mono (Q := RS 33 w) ?_ ?_
  rotate_left
  · rintro e a' w' ⟨rfl, hd, hv, hw⟩
    refine bodyPost_ret (results_tmp rfl _ _ _) hd ⟨?_, hw⟩
    exact congrArg Ending.returned hv
  refine headR rfl rfl rfl rfl rfl rfl rfl rfl rfl rfl rfl rfl ?_
  intro a f0 Z hZ
  refine wp_block ?_
  refine wp_seq_k fun K14 h14 => ?_
  refine wp_block ?_
  refine wp_seq_k fun K13 h13 => ?_
  refine wp_block ?_
  refine wp_seq_k fun K12 h12 => ?_
  refine wp_block ?_
  refine wp_seq_k fun K11 h11 => ?_
  refine wp_block ?_
  refine wp_seq_k fun K10 h10 => ?_
  refine wp_block ?_
  refine wp_seq_k fun K9 h9 => ?_
  refine wp_block ?_
  refine wp_seq_k fun K8 h8 => ?_
  refine wp_block ?_
  refine wp_seq_k fun K7 h7 => ?_
  refine wp_block ?_
  refine wp_seq_k fun K6 h6 => ?_
  refine wp_block ?_
  refine wp_seq_k fun K5 h5 => ?_
  refine wp_block ?_
  refine wp_seq_k fun K4 h4 => ?_
  refine wp_block ?_
  refine wp_seq_k fun K3 h3 => ?_
  refine wp_block ?_
  refine wp_seq_k fun K2 h2 => ?_
  refine wp_block ?_
  refine wp_seq_k fun K1 h1 => ?_
  refine wp_block ?_
  refine wp_seq_k fun X hX => ?_
  refine tstMiss rfl rfl rfl rfl rfl rfl (by decide) f0 (by decide) ?_
  intro a1 f1
  refine tstMiss rfl rfl rfl rfl rfl rfl (by decide) f1 (by decide) ?_
  intro a2 f2
  refine tstMiss rfl rfl rfl rfl rfl rfl (by decide) f2 (by decide) ?_
  intro a3 f3
  refine tstHit rfl rfl rfl rfl rfl rfl (by decide) f3 (by decide) ?_
  intro a4 f4
  show K4 _ _
  refine h4 _ _ ?_
  refine addR rfl rfl rfl rfl rfl rfl rfl rfl rfl (by decide) f4 (by decide) ?_
  intro a5 f5
  show K5 _ _
  refine h5 _ _ ?_
  refine addR rfl rfl rfl rfl rfl rfl rfl rfl rfl (by decide) f5 (by decide) ?_
  intro a6 f6
  show K6 _ _
  refine h6 _ _ ?_
  refine addR rfl rfl rfl rfl rfl rfl rfl rfl rfl (by decide) f6 (by decide) ?_
  intro a7 f7
  show K7 _ _
  refine h7 _ _ ?_
  refine addR rfl rfl rfl rfl rfl rfl rfl rfl rfl (by decide) f7 (by decide) ?_
  intro a8 f8
  show K8 _ _
  refine h8 _ _ ?_
  refine addR rfl rfl rfl rfl rfl rfl rfl rfl rfl (by decide) f8 (by decide) ?_
  intro a9 f9
  show K9 _ _
  refine h9 _ _ ?_
  refine addR rfl rfl rfl rfl rfl rfl rfl rfl rfl (by decide) f9 (by decide) ?_
  intro a10 f10
  show K10 _ _
  refine h10 _ _ ?_
  refine addR rfl rfl rfl rfl rfl rfl rfl rfl rfl (by decide) f10 (by decide) ?_
  intro a11 f11
  show K11 _ _
  refine h11 _ _ ?_
  refine addR rfl rfl rfl rfl rfl rfl rfl rfl rfl (by decide) f11 (by decide) ?_
  intro a12 f12
  show K12 _ _
  refine h12 _ _ ?_
  refine addR rfl rfl rfl rfl rfl rfl rfl rfl rfl (by decide) f12 (by decide) ?_
  intro a13 f13
  show K13 _ _
  refine h13 _ _ ?_
  refine addR rfl rfl rfl rfl rfl rfl rfl rfl rfl (by decide) f13 (by decide) ?_
  intro a14 f14
  show K14 _ _
  refine h14 _ _ ?_
  refine wp_seq_k fun Y hY => ?_
  refine addR rfl rfl rfl rfl rfl rfl rfl rfl rfl (by decide) f14 (by decide) ?_
  intro a15 f15
  refine hY _ _ (wp_exit ?_)
  show Z _ _
  exact hZ _ _ (retR rfl rfl rfl rfl rfl rfl (by decide) f15)
set_option maxRecDepth 100000 in
theorem start_12 (w : World) : Calls Try.prog 51 #[.int .i64 12] w fun e w' => e = .returned (.int .i64 37) ∧ w' = w := by
  go_enter Try.func51, Try.ntmps51
  refine wp_mono (Q := RS 37 w) ?_ ?_
  rotate_left
  · rintro e a' w' ⟨rfl, hd, hv, hw⟩
    refine bodyPost_ret (results_tmp rfl _ _ _) hd ⟨?_, hw⟩
    exact congrArg Ending.returned hv
  refine headR rfl rfl rfl rfl rfl rfl rfl rfl rfl rfl rfl rfl ?_
  intro a f0 Z hZ
  refine wp_block ?_
  refine wp_seq_k fun K14 h14 => ?_
  refine wp_block ?_
  refine wp_seq_k fun K13 h13 => ?_
  refine wp_block ?_
  refine wp_seq_k fun K12 h12 => ?_
  refine wp_block ?_
  refine wp_seq_k fun K11 h11 => ?_
  refine wp_block ?_
  refine wp_seq_k fun K10 h10 => ?_
  refine wp_block ?_
  refine wp_seq_k fun K9 h9 => ?_
  refine wp_block ?_
  refine wp_seq_k fun K8 h8 => ?_
  refine wp_block ?_
  refine wp_seq_k fun K7 h7 => ?_
  refine wp_block ?_
  refine wp_seq_k fun K6 h6 => ?_
  refine wp_block ?_
  refine wp_seq_k fun K5 h5 => ?_
  refine wp_block ?_
  refine wp_seq_k fun K4 h4 => ?_
  refine wp_block ?_
  refine wp_seq_k fun K3 h3 => ?_
  refine wp_block ?_
  refine wp_seq_k fun K2 h2 => ?_
  refine wp_block ?_
  refine wp_seq_k fun K1 h1 => ?_
  refine wp_block ?_
  refine wp_seq_k fun X hX => ?_
  refine tstMiss rfl rfl rfl rfl rfl rfl (by decide) f0 (by decide) ?_
  intro a1 f1
  refine tstMiss rfl rfl rfl rfl rfl rfl (by decide) f1 (by decide) ?_
  intro a2 f2
  refine tstHit rfl rfl rfl rfl rfl rfl (by decide) f2 (by decide) ?_
  intro a3 f3
  show K3 _ _
  refine h3 _ _ ?_
  refine addR rfl rfl rfl rfl rfl rfl rfl rfl rfl (by decide) f3 (by decide) ?_
  intro a4 f4
  show K4 _ _
  refine h4 _ _ ?_
  refine addR rfl rfl rfl rfl rfl rfl rfl rfl rfl (by decide) f4 (by decide) ?_
  intro a5 f5
  show K5 _ _
  refine h5 _ _ ?_
  refine addR rfl rfl rfl rfl rfl rfl rfl rfl rfl (by decide) f5 (by decide) ?_
  intro a6 f6
  show K6 _ _
  refine h6 _ _ ?_
  refine addR rfl rfl rfl rfl rfl rfl rfl rfl rfl (by decide) f6 (by decide) ?_
  intro a7 f7
  show K7 _ _
  refine h7 _ _ ?_
  refine addR rfl rfl rfl rfl rfl rfl rfl rfl rfl (by decide) f7 (by decide) ?_
  intro a8 f8
  show K8 _ _
  refine h8 _ _ ?_
  refine addR rfl rfl rfl rfl rfl rfl rfl rfl rfl (by decide) f8 (by decide) ?_
  intro a9 f9
  show K9 _ _
  refine h9 _ _ ?_
  refine addR rfl rfl rfl rfl rfl rfl rfl rfl rfl (by decide) f9 (by decide) ?_
  intro a10 f10
  show K10 _ _
  refine h10 _ _ ?_
  refine addR rfl rfl rfl rfl rfl rfl rfl rfl rfl (by decide) f10 (by decide) ?_
  intro a11 f11
  show K11 _ _
  refine h11 _ _ ?_
  refine addR rfl rfl rfl rfl rfl rfl rfl rfl rfl (by decide) f11 (by decide) ?_
  intro a12 f12
  show K12 _ _
  refine h12 _ _ ?_
  refine addR rfl rfl rfl rfl rfl rfl rfl rfl rfl (by decide) f12 (by decide) ?_
  intro a13 f13
  show K13 _ _
  refine h13 _ _ ?_
  refine addR rfl rfl rfl rfl rfl rfl rfl rfl rfl (by decide) f13 (by decide) ?_
  intro a14 f14
  show K14 _ _
  refine h14 _ _ ?_
  refine wp_seq_k fun Y hY => ?_
  refine addR rfl rfl rfl rfl rfl rfl rfl rfl rfl (by decide) f14 (by decide) ?_
  intro a15 f15
  refine hY _ _ (wp_exit ?_)
  show Z _ _
  exact hZ _ _ (retR rfl rfl rfl rfl rfl rfl (by decide) f15)
set_option maxRecDepth 100000 in
theorem start_13 (w : World) : Calls Try.prog 51 #[.int .i64 13] w fun e w' => e = .returned (.int .i64 41) ∧ w' = w := by
  go_enter Try.func51, Try.ntmps51
  refine wp_mono (Q := RS 41 w) ?_ ?_
  rotate_left
  · rintro e a' w' ⟨rfl, hd, hv, hw⟩
    refine bodyPost_ret (results_tmp rfl _ _ _) hd ⟨?_, hw⟩
    exact congrArg Ending.returned hv
  refine headR rfl rfl rfl rfl rfl rfl rfl rfl rfl rfl rfl rfl ?_
  intro a f0 Z hZ
  refine wp_block ?_
  refine wp_seq_k fun K14 h14 => ?_
  refine wp_block ?_
  refine wp_seq_k fun K13 h13 => ?_
  refine wp_block ?_
  refine wp_seq_k fun K12 h12 => ?_
  refine wp_block ?_
  refine wp_seq_k fun K11 h11 => ?_
  refine wp_block ?_
  refine wp_seq_k fun K10 h10 => ?_
  refine wp_block ?_
  refine wp_seq_k fun K9 h9 => ?_
  refine wp_block ?_
  refine wp_seq_k fun K8 h8 => ?_
  refine wp_block ?_
  refine wp_seq_k fun K7 h7 => ?_
  refine wp_block ?_
  refine wp_seq_k fun K6 h6 => ?_
  refine wp_block ?_
  refine wp_seq_k fun K5 h5 => ?_
  refine wp_block ?_
  refine wp_seq_k fun K4 h4 => ?_
  refine wp_block ?_
  refine wp_seq_k fun K3 h3 => ?_
  refine wp_block ?_
  refine wp_seq_k fun K2 h2 => ?_
  refine wp_block ?_
  refine wp_seq_k fun K1 h1 => ?_
  refine wp_block ?_
  refine wp_seq_k fun X hX => ?_
  refine tstMiss rfl rfl rfl rfl rfl rfl (by decide) f0 (by decide) ?_
  intro a1 f1
  refine tstHit rfl rfl rfl rfl rfl rfl (by decide) f1 (by decide) ?_
  intro a2 f2
  show K2 _ _
  refine h2 _ _ ?_
  refine addR rfl rfl rfl rfl rfl rfl rfl rfl rfl (by decide) f2 (by decide) ?_
  intro a3 f3
  show K3 _ _
  refine h3 _ _ ?_
  refine addR rfl rfl rfl rfl rfl rfl rfl rfl rfl (by decide) f3 (by decide) ?_
  intro a4 f4
  show K4 _ _
  refine h4 _ _ ?_
  refine addR rfl rfl rfl rfl rfl rfl rfl rfl rfl (by decide) f4 (by decide) ?_
  intro a5 f5
  show K5 _ _
  refine h5 _ _ ?_
  refine addR rfl rfl rfl rfl rfl rfl rfl rfl rfl (by decide) f5 (by decide) ?_
  intro a6 f6
  show K6 _ _
  refine h6 _ _ ?_
  refine addR rfl rfl rfl rfl rfl rfl rfl rfl rfl (by decide) f6 (by decide) ?_
  intro a7 f7
  show K7 _ _
  refine h7 _ _ ?_
  refine addR rfl rfl rfl rfl rfl rfl rfl rfl rfl (by decide) f7 (by decide) ?_
  intro a8 f8
  show K8 _ _
  refine h8 _ _ ?_
  refine addR rfl rfl rfl rfl rfl rfl rfl rfl rfl (by decide) f8 (by decide) ?_
  intro a9 f9
  show K9 _ _
  refine h9 _ _ ?_
  refine addR rfl rfl rfl rfl rfl rfl rfl rfl rfl (by decide) f9 (by decide) ?_
  intro a10 f10
  show K10 _ _
  refine h10 _ _ ?_
  refine addR rfl rfl rfl rfl rfl rfl rfl rfl rfl (by decide) f10 (by decide) ?_
  intro a11 f11
  show K11 _ _
  refine h11 _ _ ?_
  refine addR rfl rfl rfl rfl rfl rfl rfl rfl rfl (by decide) f11 (by decide) ?_
  intro a12 f12
  show K12 _ _
  refine h12 _ _ ?_
  refine addR rfl rfl rfl rfl rfl rfl rfl rfl rfl (by decide) f12 (by decide) ?_
  intro a13 f13
  show K13 _ _
  refine h13 _ _ ?_
  refine addR rfl rfl rfl rfl rfl rfl rfl rfl rfl (by decide) f13 (by decide) ?_
  intro a14 f14
  show K14 _ _
  refine h14 _ _ ?_
  refine wp_seq_k fun Y hY => ?_
  refine addR rfl rfl rfl rfl rfl rfl rfl rfl rfl (by decide) f14 (by decide) ?_
  intro a15 f15
  refine hY _ _ (wp_exit ?_)
  show Z _ _
  exact hZ _ _ (retR rfl rfl rfl rfl rfl rfl (by decide) f15)
set_option maxRecDepth 100000 in
theorem start_14 (w : World) : Calls Try.prog 51 #[.int .i64 14] w fun e w' => e = .returned (.int .i64 42) ∧ w' = w := by
  go_enter Try.func51, Try.ntmps51
  refine wp_mono (Q := RS 42 w) ?_ ?_
  rotate_left
  · rintro e a' w' ⟨rfl, hd, hv, hw⟩
    refine bodyPost_ret (results_tmp rfl _ _ _) hd ⟨?_, hw⟩
    exact congrArg Ending.returned hv
  refine headR rfl rfl rfl rfl rfl rfl rfl rfl rfl rfl rfl rfl ?_
  intro a f0 Z hZ
  refine wp_block ?_
  refine wp_seq_k fun K14 h14 => ?_
  refine wp_block ?_
  refine wp_seq_k fun K13 h13 => ?_
  refine wp_block ?_
  refine wp_seq_k fun K12 h12 => ?_
  refine wp_block ?_
  refine wp_seq_k fun K11 h11 => ?_
  refine wp_block ?_
  refine wp_seq_k fun K10 h10 => ?_
  refine wp_block ?_
  refine wp_seq_k fun K9 h9 => ?_
  refine wp_block ?_
  refine wp_seq_k fun K8 h8 => ?_
  refine wp_block ?_
  refine wp_seq_k fun K7 h7 => ?_
  refine wp_block ?_
  refine wp_seq_k fun K6 h6 => ?_
  refine wp_block ?_
  refine wp_seq_k fun K5 h5 => ?_
  refine wp_block ?_
  refine wp_seq_k fun K4 h4 => ?_
  refine wp_block ?_
  refine wp_seq_k fun K3 h3 => ?_
  refine wp_block ?_
  refine wp_seq_k fun K2 h2 => ?_
  refine wp_block ?_
  refine wp_seq_k fun K1 h1 => ?_
  refine wp_block ?_
  refine wp_seq_k fun X hX => ?_
  refine tstHit rfl rfl rfl rfl rfl rfl (by decide) f0 (by decide) ?_
  intro a1 f1
  show K1 _ _
  refine h1 _ _ ?_
  refine addR rfl rfl rfl rfl rfl rfl rfl rfl rfl (by decide) f1 (by decide) ?_
  intro a2 f2
  show K2 _ _
  refine h2 _ _ ?_
  refine addR rfl rfl rfl rfl rfl rfl rfl rfl rfl (by decide) f2 (by decide) ?_
  intro a3 f3
  show K3 _ _
  refine h3 _ _ ?_
  refine addR rfl rfl rfl rfl rfl rfl rfl rfl rfl (by decide) f3 (by decide) ?_
  intro a4 f4
  show K4 _ _
  refine h4 _ _ ?_
  refine addR rfl rfl rfl rfl rfl rfl rfl rfl rfl (by decide) f4 (by decide) ?_
  intro a5 f5
  show K5 _ _
  refine h5 _ _ ?_
  refine addR rfl rfl rfl rfl rfl rfl rfl rfl rfl (by decide) f5 (by decide) ?_
  intro a6 f6
  show K6 _ _
  refine h6 _ _ ?_
  refine addR rfl rfl rfl rfl rfl rfl rfl rfl rfl (by decide) f6 (by decide) ?_
  intro a7 f7
  show K7 _ _
  refine h7 _ _ ?_
  refine addR rfl rfl rfl rfl rfl rfl rfl rfl rfl (by decide) f7 (by decide) ?_
  intro a8 f8
  show K8 _ _
  refine h8 _ _ ?_
  refine addR rfl rfl rfl rfl rfl rfl rfl rfl rfl (by decide) f8 (by decide) ?_
  intro a9 f9
  show K9 _ _
  refine h9 _ _ ?_
  refine addR rfl rfl rfl rfl rfl rfl rfl rfl rfl (by decide) f9 (by decide) ?_
  intro a10 f10
  show K10 _ _
  refine h10 _ _ ?_
  refine addR rfl rfl rfl rfl rfl rfl rfl rfl rfl (by decide) f10 (by decide) ?_
  intro a11 f11
  show K11 _ _
  refine h11 _ _ ?_
  refine addR rfl rfl rfl rfl rfl rfl rfl rfl rfl (by decide) f11 (by decide) ?_
  intro a12 f12
  show K12 _ _
  refine h12 _ _ ?_
  refine addR rfl rfl rfl rfl rfl rfl rfl rfl rfl (by decide) f12 (by decide) ?_
  intro a13 f13
  show K13 _ _
  refine h13 _ _ ?_
  refine addR rfl rfl rfl rfl rfl rfl rfl rfl rfl (by decide) f13 (by decide) ?_
  intro a14 f14
  show K14 _ _
  refine h14 _ _ ?_
  refine wp_seq_k fun Y hY => ?_
  refine addR rfl rfl rfl rfl rfl rfl rfl rfl rfl (by decide) f14 (by decide) ?_
  intro a15 f15
  refine hY _ _ (wp_exit ?_)
  show Z _ _
  exact hZ _ _ (retR rfl rfl rfl rfl rfl rfl (by decide) f15)
theorem start_is (j : Nat) (h : j ≤ 14) (w : World) : Calls Try.prog 51 #[.int .i64 (j : Int)] w fun e w' => e = .returned (.int .i64 (wst j : Int)) ∧ w' = w := by
  match j, h with
  | 0, _ => exact start_0 w
  | 1, _ => exact start_1 w
  | 2, _ => exact start_2 w
  | 3, _ => exact start_3 w
  | 4, _ => exact start_4 w
  | 5, _ => exact start_5 w
  | 6, _ => exact start_6 w
  | 7, _ => exact start_7 w
  | 8, _ => exact start_8 w
  | 9, _ => exact start_9 w
  | 10, _ => exact start_10 w
  | 11, _ => exact start_11 w
  | 12, _ => exact start_12 w
  | 13, _ => exact start_13 w
  | 14, _ => exact start_14 w
set_option maxRecDepth 100000 in
theorem size_is (j : Nat) (h : j < 14) (w : World) : Calls Try.prog 49 #[.int .i64 (j : Int)] w fun e w' => e = .returned (.int .i64 (wsz j : Int)) ∧ w' = w := by
  have c1 := hide (start_is j (by omega))
  have c2 := hide (start_is (j + 1) (by omega))
  have hs : (wst (j + 1) : Int) - (wst j : Int) = wsz j := by
    have := wst_succ j h
    omega
  have b1 : wst j ≤ 42 := by have := wst_le j h; omega
  have b2 : wst (j + 1) ≤ 42 := by have := wst_le j h; have := wst_succ j h; omega
  have e1 : ((j + 1 : Nat) : Int) = (j : Int) + 1 := by omega
  rw [e1] at c2
  generalize wst (j + 1) = s1 at *
  generalize wst j = s0 at *
  generalize wsz j = z at *
  have m1 := trivial
  go_enter Try.func49, Try.ntmps49
  go_wp2_with (first
    | (clear m1; go_at_call 51; with_reducible refine (unhide c2 _).mono ?_; rintro e w2 ⟨rfl, hw⟩; obtain rfl := hw.symm)
    | (go_at_call 51; with_reducible refine (unhide c1 _).mono ?_; rintro e w2 ⟨rfl, hw⟩; obtain rfl := hw.symm))
  go_ret
  exact ⟨rfl, rfl⟩
end Go.Proofs.Ytmcmiojidgdjpaa
namespace Go.Proofs.Ytmcmiojidgdjpaa
open Go.RowKit

/-- The frame of keep.Msg: its size, where the two messages lie. -/
structure Fk (a : Act) (g1 g2 : Nat) : Prop where
  sz : a.tmps.size = 115
  df : a.defers = []
  e2 : a.eval (.tmp 2) = .pointer (some ⟨g1, 0, none⟩)
  e3 : a.eval (.tmp 3) = .pointer (some ⟨g2, 0, none⟩)
theorem Fk.put {a : Act} {g1 g2 : Nat} (h : Fk a g1 g2) (d : Nat) (v : Value) (hd : 3 < d) : Fk (a.put (some d) v) g1 g2 :=
  ⟨by rw [sz_put]; exact h.sz, by rw [def_put]; exact h.df, by rw [ev_ne _ _ _ _ (by omega)]; exact h.e2, by rw [ev_ne _ _ _ _ (by omega)]; exact h.e3⟩
theorem ints_bel (F G : Nat → Int) (va vb : Value) (n k : Nat) (w : World) (ha : Sl .i64 w va n F) (hb : Sl .i64 w vb k G) : Calls Try.prog 29 #[va, vb] w fun e w' => e = .returned (.bool (eqB F n G k)) ∧ Below w.heap.size w w' := by
  refine (ints_any F G va vb n k w ha hb).mono ?_
  rintro e w' ⟨rfl, m, rfl⟩
  exact ⟨rfl, below_drewN (Below.refl _ _) m⟩
/-- The first conjunct. -/
theorem cjFirst {ops : Array Oper} {Q : Exit → Act → World → Prop} {rest : List Oper} {a : Act} {w : World} {o1 o2 o3 o4 o5 o6 : Oper} {g1 g2 : Nat} (x y : Int) (i d1 d2 d3 d4 d5 d6 : Nat) (hi : i < 16)
    (h1 : o1.op = .fieldAddr 24 (.tmp 2) i) (q1 : o1.guard = none) (x1 : o1.dst = some d1) (h2 : o2.op = .load 3 (.tmp d1)) (q2 : o2.guard = none) (x2 : o2.dst = some d2)
    (h3 : o3.op = .fieldAddr 24 (.tmp 3) i) (q3 : o3.guard = none) (x3 : o3.dst = some d3) (h4 : o4.op = .load 3 (.tmp d3)) (q4 : o4.guard = none) (x4 : o4.dst = some d4)
    (h5 : o5.op = .binOp .eql 3 (.tmp d2) (.tmp d4) 3) (q5 : o5.guard = none) (x5 : o5.dst = some d5) (h6 : o6.op = .move (.tmp d5)) (q6 : o6.guard = none) (x6 : o6.dst = some d6)
    (hd : 3 < d1 ∧ d1 < d2 ∧ d2 < d3 ∧ d3 < d4 ∧ d4 < d5 ∧ d5 < d6 ∧ d6 < 115) (f : Fk a g1 g2) (hx : w.cell? ⟨g1, i, none⟩ = some (.int .i64 x)) (hy : w.cell? ⟨g2, i, none⟩ = some (.int .i64 y))
    (h : ∀ a', Fk a' g1 g2 → a'.eval (.tmp d6) = .bool (x == y) → WL ops Q rest a' w) : WL ops Q (o1 :: o2 :: o3 :: o4 :: o5 :: o6 :: rest) a w := by
  obtain ⟨l1, l2, l3, l4, l5, l6⟩ := hd
  have v1 := f.put d1 (.pointer (some ⟨g1, i, none⟩)) (by omega)
  have p1 : (a.put (some d1) (.pointer (some ⟨g1, i, none⟩))).eval (.tmp d1) = .pointer (some ⟨g1, i, none⟩) := ev_eq _ _ _ (by rw [f.sz]; omega)
  refine wlVal x1 q1 _ (run_field i hi w _ _ h1 _ g1 f.e2) ?_
  generalize a.put (some d1) (.pointer (some ⟨g1, i, none⟩)) = a1 at *
  have v2 := v1.put d2 (.int .i64 x) (by omega)
  have p2 : (a1.put (some d2) (.int .i64 x)).eval (.tmp d2) = .int .i64 x := ev_eq _ _ _ (by rw [v1.sz]; omega)
  refine wlVal x2 q2 _ (run_load3 w _ _ h2 _ _ p1 _ hx) ?_
  generalize a1.put (some d2) (.int .i64 x) = a2 at *
  have v3 := v2.put d3 (.pointer (some ⟨g2, i, none⟩)) (by omega)
  have p3 : (a2.put (some d3) (.pointer (some ⟨g2, i, none⟩))).eval (.tmp d3) = .pointer (some ⟨g2, i, none⟩) := ev_eq _ _ _ (by rw [v2.sz]; omega)
  have r3 : (a2.put (some d3) (.pointer (some ⟨g2, i, none⟩))).eval (.tmp d2) = .int .i64 x := (ev_ne _ _ _ _ (by omega)).trans p2
  refine wlVal x3 q3 _ (run_field i hi w _ _ h3 _ g2 v2.e3) ?_
  generalize a2.put (some d3) (.pointer (some ⟨g2, i, none⟩)) = a3 at *
  have v4 := v3.put d4 (.int .i64 y) (by omega)
  have p4 : (a3.put (some d4) (.int .i64 y)).eval (.tmp d4) = .int .i64 y := ev_eq _ _ _ (by rw [v3.sz]; omega)
  have r4 : (a3.put (some d4) (.int .i64 y)).eval (.tmp d2) = .int .i64 x := (ev_ne _ _ _ _ (by omega)).trans r3
  refine wlVal x4 q4 _ (run_load3 w _ _ h4 _ _ p3 _ hy) ?_
  generalize a3.put (some d4) (.int .i64 y) = a4 at *
  have v5 := v4.put d5 (.bool (x == y)) (by omega)
  have p5 : (a4.put (some d5) (.bool (x == y))).eval (.tmp d5) = .bool (x == y) := ev_eq _ _ _ (by rw [v4.sz]; omega)
  refine wlVal x5 q5 _ (run_eql3 w _ _ _ h5 _ _ _ r4 p4) ?_
  generalize a4.put (some d5) (.bool (x == y)) = a5 at *
  refine wlVal x6 q6 (.bool (x == y)) (run_move w _ _ h6 _ _ p5) ?_
  exact h _ (v5.put d6 _ (by omega)) (ev_eq _ _ _ (by rw [v5.sz]; omega))
/-- A conjunct of two numbers. -/
theorem cjInt {ops : Array Oper} {Q : Exit → Act → World → Prop} {rest : List Oper} {a : Act} {w : World} {o1 o2 o3 o4 o5 o6 o7 oj : Oper} {g1 g2 : Nat} {b : Bool} (x y : Int) (i j d0 d1 d2 d3 d4 d5 d6 d7 : Nat) (hi : i < 16)
    (h1 : o1.op = .fieldAddr 24 (.tmp 2) i) (q1 : o1.guard = some (j, true)) (x1 : o1.dst = some d1) (h2 : o2.op = .load 3 (.tmp d1)) (q2 : o2.guard = some (j, true)) (x2 : o2.dst = some d2)
    (h3 : o3.op = .fieldAddr 24 (.tmp 3) i) (q3 : o3.guard = some (j, true)) (x3 : o3.dst = some d3) (h4 : o4.op = .load 3 (.tmp d3)) (q4 : o4.guard = some (j, true)) (x4 : o4.dst = some d4)
    (h5 : o5.op = .binOp .eql 3 (.tmp d2) (.tmp d4) 3) (q5 : o5.guard = some (j, true)) (x5 : o5.dst = some d5) (h6 : o6.op = .pick (.tmp d0) (.tmp d5) (.const (.bool false))) (q6 : o6.guard = none) (x6 : o6.dst = some d6)
    (h7 : o7.op = .move (.tmp d6)) (q7 : o7.guard = none) (x7 : o7.dst = some d7) (hj : ops[j]? = some oj) (hjd : oj.dst = some d0)
    (hd : 3 < d0 ∧ d0 < d1 ∧ d1 < d2 ∧ d2 < d3 ∧ d3 < d4 ∧ d4 < d5 ∧ d5 < d6 ∧ d6 < d7 ∧ d7 < 115) (f : Fk a g1 g2) (hv : a.eval (.tmp d0) = .bool b) (hx : w.cell? ⟨g1, i, none⟩ = some (.int .i64 x)) (hy : w.cell? ⟨g2, i, none⟩ = some (.int .i64 y))
    (h : ∀ a', Fk a' g1 g2 → a'.eval (.tmp d7) = .bool (b && (x == y)) → WL ops Q rest a' w) : WL ops Q (o1 :: o2 :: o3 :: o4 :: o5 :: o6 :: o7 :: rest) a w := by
  obtain ⟨l0, l1, l2, l3, l4, l5, l6, l7, l8⟩ := hd
  cases b with
  | false =>
    have v1 := f.put d1 undef (by omega)
    have e1 : (a.put (some d1) undef).eval (.tmp d0) = .bool false := (ev_ne _ _ _ _ (by omega)).trans hv
    refine wlN j d0 true false x1 q1 hj hjd hv (by decide) ?_
    generalize a.put (some d1) undef = a1 at *
    have v2 := v1.put d2 undef (by omega)
    have e2 : (a1.put (some d2) undef).eval (.tmp d0) = .bool false := (ev_ne _ _ _ _ (by omega)).trans e1
    refine wlN j d0 true false x2 q2 hj hjd e1 (by decide) ?_
    generalize a1.put (some d2) undef = a2 at *
    have v3 := v2.put d3 undef (by omega)
    have e3 : (a2.put (some d3) undef).eval (.tmp d0) = .bool false := (ev_ne _ _ _ _ (by omega)).trans e2
    refine wlN j d0 true false x3 q3 hj hjd e2 (by decide) ?_
    generalize a2.put (some d3) undef = a3 at *
    have v4 := v3.put d4 undef (by omega)
    have e4 : (a3.put (some d4) undef).eval (.tmp d0) = .bool false := (ev_ne _ _ _ _ (by omega)).trans e3
    refine wlN j d0 true false x4 q4 hj hjd e3 (by decide) ?_
    generalize a3.put (some d4) undef = a4 at *
    have v5 := v4.put d5 undef (by omega)
    have e5 : (a4.put (some d5) undef).eval (.tmp d0) = .bool false := (ev_ne _ _ _ _ (by omega)).trans e4
    refine wlN j d0 true false x5 q5 hj hjd e4 (by decide) ?_
    generalize a4.put (some d5) undef = a5 at *
    have v6 := v5.put d6 (.bool false) (by omega)
    refine wlVal x6 q6 (.bool false) (run_pick w _ _ _ _ h6 _ false _ e5 (ev_const a5 _)) ?_
    refine wlVal x7 q7 (.bool false) (run_move w _ _ h7 _ _ (ev_eq _ _ _ (by rw [v5.sz]; omega))) ?_
    exact h _ (v6.put d7 _ (by omega)) (ev_eq _ _ _ (by rw [v6.sz]; omega))
  | true =>
    have v1 := f.put d1 (.pointer (some ⟨g1, i, none⟩)) (by omega)
    have e1 : (a.put (some d1) (.pointer (some ⟨g1, i, none⟩))).eval (.tmp d0) = .bool true := (ev_ne _ _ _ _ (by omega)).trans hv
    have p1 : (a.put (some d1) (.pointer (some ⟨g1, i, none⟩))).eval (.tmp d1) = .pointer (some ⟨g1, i, none⟩) := ev_eq _ _ _ (by rw [f.sz]; omega)
    refine wlG j d0 true x1 q1 hj hjd hv _ (run_field i hi w _ _ h1 _ g1 f.e2) ?_
    generalize a.put (some d1) (.pointer (some ⟨g1, i, none⟩)) = a1 at *
    have v2 := v1.put d2 (.int .i64 x) (by omega)
    have e2 : (a1.put (some d2) (.int .i64 x)).eval (.tmp d0) = .bool true := (ev_ne _ _ _ _ (by omega)).trans e1
    have p2 : (a1.put (some d2) (.int .i64 x)).eval (.tmp d2) = .int .i64 x := ev_eq _ _ _ (by rw [v1.sz]; omega)
    refine wlG j d0 true x2 q2 hj hjd e1 _ (run_load3 w _ _ h2 _ _ p1 _ hx) ?_
    generalize a1.put (some d2) (.int .i64 x) = a2 at *
    have v3 := v2.put d3 (.pointer (some ⟨g2, i, none⟩)) (by omega)
    have e3 : (a2.put (some d3) (.pointer (some ⟨g2, i, none⟩))).eval (.tmp d0) = .bool true := (ev_ne _ _ _ _ (by omega)).trans e2
    have p3 : (a2.put (some d3) (.pointer (some ⟨g2, i, none⟩))).eval (.tmp d3) = .pointer (some ⟨g2, i, none⟩) := ev_eq _ _ _ (by rw [v2.sz]; omega)
    have r3 : (a2.put (some d3) (.pointer (some ⟨g2, i, none⟩))).eval (.tmp d2) = .int .i64 x := (ev_ne _ _ _ _ (by omega)).trans p2
    refine wlG j d0 true x3 q3 hj hjd e2 _ (run_field i hi w _ _ h3 _ g2 v2.e3) ?_
    generalize a2.put (some d3) (.pointer (some ⟨g2, i, none⟩)) = a3 at *
    have v4 := v3.put d4 (.int .i64 y) (by omega)
    have e4 : (a3.put (some d4) (.int .i64 y)).eval (.tmp d0) = .bool true := (ev_ne _ _ _ _ (by omega)).trans e3
    have p4 : (a3.put (some d4) (.int .i64 y)).eval (.tmp d4) = .int .i64 y := ev_eq _ _ _ (by rw [v3.sz]; omega)
    have r4 : (a3.put (some d4) (.int .i64 y)).eval (.tmp d2) = .int .i64 x := (ev_ne _ _ _ _ (by omega)).trans r3
    refine wlG j d0 true x4 q4 hj hjd e3 _ (run_load3 w _ _ h4 _ _ p3 _ hy) ?_
    generalize a3.put (some d4) (.int .i64 y) = a4 at *
    have v5 := v4.put d5 (.bool (x == y)) (by omega)
    have e5 : (a4.put (some d5) (.bool (x == y))).eval (.tmp d0) = .bool true := (ev_ne _ _ _ _ (by omega)).trans e4
    have p5 : (a4.put (some d5) (.bool (x == y))).eval (.tmp d5) = .bool (x == y) := ev_eq _ _ _ (by rw [v4.sz]; omega)
    refine wlG j d0 true x5 q5 hj hjd e4 _ (run_eql3 w _ _ _ h5 _ _ _ r4 p4) ?_
    generalize a4.put (some d5) (.bool (x == y)) = a5 at *
    have v6 := v5.put d6 (.bool (x == y)) (by omega)
    refine wlVal x6 q6 (.bool (x == y)) (run_pick w _ _ _ _ h6 _ true _ e5 p5) ?_
    refine wlVal x7 q7 (.bool (x == y)) (run_move w _ _ h7 _ _ (ev_eq _ _ _ (by rw [v5.sz]; omega))) ?_
    refine h _ (v6.put d7 _ (by omega)) ?_
    rw [Bool.true_and]
    exact ev_eq _ _ _ (by rw [v6.sz]; omega)
/-- A conjunct of two lists. -/
theorem cjList {ops : Array Oper} {Q : Exit → Act → World → Prop} {rest : List Oper} {a : Act} {w : World} {o1 o2 o3 o4 o5 o6 oj : Oper} {g1 g2 : Nat} {b : Bool} (x y : Value) (r : Bool) (i j d0 d1 d2 d3 d4 d5 d6 : Nat) (hi : i < 16)
    (h1 : o1.op = .fieldAddr 24 (.tmp 2) i) (q1 : o1.guard = some (j, true)) (x1 : o1.dst = some d1) (h2 : o2.op = .load 22 (.tmp d1)) (q2 : o2.guard = some (j, true)) (x2 : o2.dst = some d2)
    (h3 : o3.op = .fieldAddr 24 (.tmp 3) i) (q3 : o3.guard = some (j, true)) (x3 : o3.dst = some d3) (h4 : o4.op = .load 22 (.tmp d3)) (q4 : o4.guard = some (j, true)) (x4 : o4.dst = some d4)
    (h5 : o5.op = .call { callee := .value (.func 29), args := #[.tmp d2, .tmp d4], argTypes := #[22, 22] }) (q5 : o5.guard = some (j, true)) (x5 : o5.dst = some d5) (h6 : o6.op = .pick (.tmp d0) (.tmp d5) (.const (.bool false))) (q6 : o6.guard = none) (x6 : o6.dst = some d6)
    (hj : ops[j]? = some oj) (hjd : oj.dst = some d0)
    (hd : 3 < d0 ∧ d0 < d1 ∧ d1 < d2 ∧ d2 < d3 ∧ d3 < d4 ∧ d4 < d5 ∧ d5 < d6 ∧ d6 < 115) (f : Fk a g1 g2) (hv : a.eval (.tmp d0) = .bool b) (hx : w.cell? ⟨g1, i, none⟩ = some x) (hy : w.cell? ⟨g2, i, none⟩ = some y)
    (hc : Calls Try.prog 29 #[x, y] w fun e w' => e = .returned (.bool r) ∧ Below w.heap.size w w')
    (h : ∀ a' w', Fk a' g1 g2 → a'.eval (.tmp d6) = .bool (b && r) → Below w.heap.size w w' → WL ops Q rest a' w') : WL ops Q (o1 :: o2 :: o3 :: o4 :: o5 :: o6 :: rest) a w := by
  obtain ⟨l0, l1, l2, l3, l4, l5, l6, l7⟩ := hd
  cases b with
  | false =>
    have v1 := f.put d1 undef (by omega)
    have e1 : (a.put (some d1) undef).eval (.tmp d0) = .bool false := (ev_ne _ _ _ _ (by omega)).trans hv
    refine wlN j d0 true false x1 q1 hj hjd hv (by decide) ?_
    generalize a.put (some d1) undef = a1 at *
    have v2 := v1.put d2 undef (by omega)
    have e2 : (a1.put (some d2) undef).eval (.tmp d0) = .bool false := (ev_ne _ _ _ _ (by omega)).trans e1
    refine wlN j d0 true false x2 q2 hj hjd e1 (by decide) ?_
    generalize a1.put (some d2) undef = a2 at *
    have v3 := v2.put d3 undef (by omega)
    have e3 : (a2.put (some d3) undef).eval (.tmp d0) = .bool false := (ev_ne _ _ _ _ (by omega)).trans e2
    refine wlN j d0 true false x3 q3 hj hjd e2 (by decide) ?_
    generalize a2.put (some d3) undef = a3 at *
    have v4 := v3.put d4 undef (by omega)
    have e4 : (a3.put (some d4) undef).eval (.tmp d0) = .bool false := (ev_ne _ _ _ _ (by omega)).trans e3
    refine wlN j d0 true false x4 q4 hj hjd e3 (by decide) ?_
    generalize a3.put (some d4) undef = a4 at *
    have v5 := v4.put d5 undef (by omega)
    have e5 : (a4.put (some d5) undef).eval (.tmp d0) = .bool false := (ev_ne _ _ _ _ (by omega)).trans e4
    refine wlN j d0 true false x5 q5 hj hjd e4 (by decide) ?_
    generalize a4.put (some d5) undef = a5 at *
    refine wlVal x6 q6 (.bool false) (run_pick w _ _ _ _ h6 _ false _ e5 (ev_const a5 _)) ?_
    exact h _ _ (v5.put d6 _ (by omega)) (ev_eq _ _ _ (by rw [v5.sz]; omega)) (Below.refl _ _)
  | true =>
    have v1 := f.put d1 (.pointer (some ⟨g1, i, none⟩)) (by omega)
    have e1 : (a.put (some d1) (.pointer (some ⟨g1, i, none⟩))).eval (.tmp d0) = .bool true := (ev_ne _ _ _ _ (by omega)).trans hv
    have p1 : (a.put (some d1) (.pointer (some ⟨g1, i, none⟩))).eval (.tmp d1) = .pointer (some ⟨g1, i, none⟩) := ev_eq _ _ _ (by rw [f.sz]; omega)
    refine wlG j d0 true x1 q1 hj hjd hv _ (run_field i hi w _ _ h1 _ g1 f.e2) ?_
    generalize a.put (some d1) (.pointer (some ⟨g1, i, none⟩)) = a1 at *
    have v2 := v1.put d2 x (by omega)
    have e2 : (a1.put (some d2) x).eval (.tmp d0) = .bool true := (ev_ne _ _ _ _ (by omega)).trans e1
    have p2 : (a1.put (some d2) x).eval (.tmp d2) = x := ev_eq _ _ _ (by rw [v1.sz]; omega)
    refine wlG j d0 true x2 q2 hj hjd e1 _ (run_load22 w _ _ h2 _ _ p1 _ hx) ?_
    generalize a1.put (some d2) x = a2 at *
    have v3 := v2.put d3 (.pointer (some ⟨g2, i, none⟩)) (by omega)
    have e3 : (a2.put (some d3) (.pointer (some ⟨g2, i, none⟩))).eval (.tmp d0) = .bool true := (ev_ne _ _ _ _ (by omega)).trans e2
    have p3 : (a2.put (some d3) (.pointer (some ⟨g2, i, none⟩))).eval (.tmp d3) = .pointer (some ⟨g2, i, none⟩) := ev_eq _ _ _ (by rw [v2.sz]; omega)
    have r3 : (a2.put (some d3) (.pointer (some ⟨g2, i, none⟩))).eval (.tmp d2) = x := (ev_ne _ _ _ _ (by omega)).trans p2
    refine wlG j d0 true x3 q3 hj hjd e2 _ (run_field i hi w _ _ h3 _ g2 v2.e3) ?_
    generalize a2.put (some d3) (.pointer (some ⟨g2, i, none⟩)) = a3 at *
    have v4 := v3.put d4 y (by omega)
    have e4 : (a3.put (some d4) y).eval (.tmp d0) = .bool true := (ev_ne _ _ _ _ (by omega)).trans e3
    have p4 : (a3.put (some d4) y).eval (.tmp d4) = y := ev_eq _ _ _ (by rw [v3.sz]; omega)
    have r4 : (a3.put (some d4) y).eval (.tmp d2) = x := (ev_ne _ _ _ _ (by omega)).trans r3
    refine wlG j d0 true x4 q4 hj hjd e3 _ (run_load22 w _ _ h4 _ _ p3 _ hy) ?_
    generalize a3.put (some d4) y = a4 at *
    refine wlBG j d0 true x5 q5 hj hjd e4 29 #[x, y] (.bool r) (run_call2 29 call15 w _ _ _ _ _ h5 _ _ _ r4 p4) hc fun w' b' => ?_
    have v5 := v4.put d5 (.bool r) (by omega)
    have e5 : (a4.put (some d5) (.bool r)).eval (.tmp d0) = .bool true := (ev_ne _ _ _ _ (by omega)).trans e4
    have p5 : (a4.put (some d5) (.bool r)).eval (.tmp d5) = .bool r := ev_eq _ _ _ (by rw [v4.sz]; omega)
    generalize a4.put (some d5) (.bool r) = a5 at *
    refine wlVal x6 q6 (.bool r) (run_pick w' _ _ _ _ h6 _ true _ e5 p5) ?_
    refine h _ _ (v5.put d6 _ (by omega)) ?_ b'
    rw [Bool.true_and]
    exact ev_eq _ _ _ (by rw [v5.sz]; omega)
theorem eqM_chain (a b : Mg) : eqM a b = (((((((((((((((a.kd == b.kd) && (a.fr == b.fr)) && (a.fi == b.fi)) && (a.tw == b.tw)) && (a.ti == b.ti)) && (a.tp == b.tp)) && (a.ep == b.ep)) && (a.sq == b.sq)) && (a.la == b.la)) && (a.va == b.va)) && (a.no == b.no)) && (a.ic == b.ic)) && (a.ct == b.ct)) && (a.hp == b.hp))) := by
  unfold eqM
  rw [show List.range 14 = [0, 1, 2, 3, 4, 5, 6, 7, 8, 9, 10, 11, 12, 13] from rfl]
  simp only [List.all_cons, List.all_nil, Bool.and_true, Bool.and_assoc]
  rfl
set_option maxRecDepth 100000 in
set_option maxHeartbeats 4000000 in
theorem keepMsg_any (m m' : Mg) (F G F' G' : Nat → Int) (p t p' t' : Value) (n k n' k' : Nat) (w : World) (hp : Sl .i64 w p n F) (ht : Sl .i64 w t k G) (hp' : Sl .i64 w p' n' F') (ht' : Sl .i64 w t' k' G') :
    Calls Try.prog 13 #[mv m p t, mv m' p' t'] w fun e w' => e = .returned (.bool (samB m F n G k m' F' n' G' k')) ∧ Below w.heap.size w w' := by
  obtain ⟨pp, cp, rfl, _, _⟩ := hp.shape
  obtain ⟨pt, ct, rfl, _, _⟩ := ht.shape
  obtain ⟨pp', cp', rfl, _, _⟩ := hp'.shape
  obtain ⟨pt', ct', rfl, _, _⟩ := ht'.shape
  unfold mv
  obtain ⟨w0, hw0⟩ : ∃ x, x = (w.alloc (.cells #[.int .i64 m.kd, .int .i64 m.fr, .int .i64 m.fi, .int .i64 m.tw, .int .i64 m.ti, .int .i64 m.tp, .int .i64 m.ep, .int .i64 m.sq, .int .i64 m.la, .int .i64 m.va, .int .i64 m.no, .int .i64 m.ic, .int .i64 m.ct, .int .i64 m.hp, .slice pp n cp, .slice pt k ct] 24)).alloc (.cells #[.int .i64 m'.kd, .int .i64 m'.fr, .int .i64 m'.fi, .int .i64 m'.tw, .int .i64 m'.ti, .int .i64 m'.tp, .int .i64 m'.ep, .int .i64 m'.sq, .int .i64 m'.la, .int .i64 m'.va, .int .i64 m'.no, .int .i64 m'.ic, .int .i64 m'.ct, .int .i64 m'.hp, .slice pp' n' cp', .slice pt' k' ct'] 24) := ⟨_, rfl⟩
  have B0 : Below w.heap.size w w0 := by rw [hw0]; exact ((Below.refl _ _).alloc (Nat.le_refl _) _).alloc (by simp) _
  have GA : w0.heap[w.heap.size]? = some (.cells #[.int .i64 m.kd, .int .i64 m.fr, .int .i64 m.fi, .int .i64 m.tw, .int .i64 m.ti, .int .i64 m.tp, .int .i64 m.ep, .int .i64 m.sq, .int .i64 m.la, .int .i64 m.va, .int .i64 m.no, .int .i64 m.ic, .int .i64 m.ct, .int .i64 m.hp, .slice pp n cp, .slice pt k ct] 24) := by rw [hw0]; exact heap_alloc2_old _ _ _
  have GB : w0.heap[w.heap.size + 1]? = some (.cells #[.int .i64 m'.kd, .int .i64 m'.fr, .int .i64 m'.fi, .int .i64 m'.tw, .int .i64 m'.ti, .int .i64 m'.tp, .int .i64 m'.ep, .int .i64 m'.sq, .int .i64 m'.la, .int .i64 m'.va, .int .i64 m'.no, .int .i64 m'.ic, .int .i64 m'.ct, .int .i64 m'.hp, .slice pp' n' cp', .slice pt' k' ct'] 24) := by rw [hw0]; exact heap_alloc2_new _ _ _
  have HW0 := hide hw0
  clear hw0
  go_enter Try.func13, Try.ntmps13
  refine wp_mono (Q := fun e a' w' => e = .ret ∧ a'.defers = [] ∧ a'.eval (.tmp 4) = .bool (samB m F n G k m' F' n' G' k') ∧ Below w.heap.size w w') ?_ ?_
  rotate_left
  · rintro e a' w' ⟨rfl, hd, hv, hb⟩
    refine bodyPost_ret (results_tmp rfl _ _ _) hd ⟨?_, hb⟩
    exact congrArg Ending.returned hv
  go_upto_region 1 with fail
  rw [← unhide HW0]
  refine wlStart rfl ?_
  refine cjFirst m.kd m'.kd 0 5 6 7 8 9 10 (by decide) rfl rfl rfl rfl rfl rfl rfl rfl rfl rfl rfl rfl rfl rfl rfl rfl rfl rfl (by decide) ⟨rfl, rfl, rfl, rfl⟩ (mv_cell GA 0 _ rfl) (mv_cell GB 0 _ rfl) fun a0 f0 v0 => ?_
  refine cjInt m.fr m'.fr 1 5 10 11 12 13 14 15 16 17 (by decide) rfl rfl rfl rfl rfl rfl rfl rfl rfl rfl rfl rfl rfl rfl rfl rfl rfl rfl rfl rfl rfl rfl rfl (by decide) f0 v0 (mv_cell GA 1 _ rfl) (mv_cell GB 1 _ rfl) fun a1 f1 v1 => ?_
  refine cjInt m.fi m'.fi 2 12 17 18 19 20 21 22 23 24 (by decide) rfl rfl rfl rfl rfl rfl rfl rfl rfl rfl rfl rfl rfl rfl rfl rfl rfl rfl rfl rfl rfl rfl rfl (by decide) f1 v1 (mv_cell GA 2 _ rfl) (mv_cell GB 2 _ rfl) fun a2 f2 v2 => ?_
  refine cjInt m.tw m'.tw 3 19 24 25 26 27 28 29 30 31 (by decide) rfl rfl rfl rfl rfl rfl rfl rfl rfl rfl rfl rfl rfl rfl rfl rfl rfl rfl rfl rfl rfl rfl rfl (by decide) f2 v2 (mv_cell GA 3 _ rfl) (mv_cell GB 3 _ rfl) fun a3 f3 v3 => ?_
  refine cjInt m.ti m'.ti 4 26 31 32 33 34 35 36 37 38 (by decide) rfl rfl rfl rfl rfl rfl rfl rfl rfl rfl rfl rfl rfl rfl rfl rfl rfl rfl rfl rfl rfl rfl rfl (by decide) f3 v3 (mv_cell GA 4 _ rfl) (mv_cell GB 4 _ rfl) fun a4 f4 v4 => ?_
  refine cjInt m.tp m'.tp 5 33 38 39 40 41 42 43 44 45 (by decide) rfl rfl rfl rfl rfl rfl rfl rfl rfl rfl rfl rfl rfl rfl rfl rfl rfl rfl rfl rfl rfl rfl rfl (by decide) f4 v4 (mv_cell GA 5 _ rfl) (mv_cell GB 5 _ rfl) fun a5 f5 v5 => ?_
  refine cjInt m.ep m'.ep 6 40 45 46 47 48 49 50 51 52 (by decide) rfl rfl rfl rfl rfl rfl rfl rfl rfl rfl rfl rfl rfl rfl rfl rfl rfl rfl rfl rfl rfl rfl rfl (by decide) f5 v5 (mv_cell GA 6 _ rfl) (mv_cell GB 6 _ rfl) fun a6 f6 v6 => ?_
  refine cjInt m.sq m'.sq 7 47 52 53 54 55 56 57 58 59 (by decide) rfl rfl rfl rfl rfl rfl rfl rfl rfl rfl rfl rfl rfl rfl rfl rfl rfl rfl rfl rfl rfl rfl rfl (by decide) f6 v6 (mv_cell GA 7 _ rfl) (mv_cell GB 7 _ rfl) fun a7 f7 v7 => ?_
  refine cjInt m.la m'.la 8 54 59 60 61 62 63 64 65 66 (by decide) rfl rfl rfl rfl rfl rfl rfl rfl rfl rfl rfl rfl rfl rfl rfl rfl rfl rfl rfl rfl rfl rfl rfl (by decide) f7 v7 (mv_cell GA 8 _ rfl) (mv_cell GB 8 _ rfl) fun a8 f8 v8 => ?_
  refine cjInt m.va m'.va 9 61 66 67 68 69 70 71 72 73 (by decide) rfl rfl rfl rfl rfl rfl rfl rfl rfl rfl rfl rfl rfl rfl rfl rfl rfl rfl rfl rfl rfl rfl rfl (by decide) f8 v8 (mv_cell GA 9 _ rfl) (mv_cell GB 9 _ rfl) fun a9 f9 v9 => ?_
  refine cjInt m.no m'.no 10 68 73 74 75 76 77 78 79 80 (by decide) rfl rfl rfl rfl rfl rfl rfl rfl rfl rfl rfl rfl rfl rfl rfl rfl rfl rfl rfl rfl rfl rfl rfl (by decide) f9 v9 (mv_cell GA 10 _ rfl) (mv_cell GB 10 _ rfl) fun a10 f10 v10 => ?_
  refine cjInt m.ic m'.ic 11 75 80 81 82 83 84 85 86 87 (by decide) rfl rfl rfl rfl rfl rfl rfl rfl rfl rfl rfl rfl rfl rfl rfl rfl rfl rfl rfl rfl rfl rfl rfl (by decide) f10 v10 (mv_cell GA 11 _ rfl) (mv_cell GB 11 _ rfl) fun a11 f11 v11 => ?_
  refine cjInt m.ct m'.ct 12 82 87 88 89 90 91 92 93 94 (by decide) rfl rfl rfl rfl rfl rfl rfl rfl rfl rfl rfl rfl rfl rfl rfl rfl rfl rfl rfl rfl rfl rfl rfl (by decide) f11 v11 (mv_cell GA 12 _ rfl) (mv_cell GB 12 _ rfl) fun a12 f12 v12 => ?_
  refine cjInt m.hp m'.hp 13 89 94 95 96 97 98 99 100 101 (by decide) rfl rfl rfl rfl rfl rfl rfl rfl rfl rfl rfl rfl rfl rfl rfl rfl rfl rfl rfl rfl rfl rfl rfl (by decide) f12 v12 (mv_cell GA 13 _ rfl) (mv_cell GB 13 _ rfl) fun a13 f13 v13 => ?_
  refine cjList (.slice pp n cp) (.slice pp' n' cp') (eqB F n F' n') 14 96 101 102 103 104 105 106 107 (by decide) rfl rfl rfl rfl rfl rfl rfl rfl rfl rfl rfl rfl rfl rfl rfl rfl rfl rfl rfl rfl (by decide) f13 v13 (mv_cell GA 14 _ rfl) (mv_cell GB 14 _ rfl) (ints_bel F F' _ _ n n' _ (hp.below B0 (Nat.le_refl _)) (hp'.below B0 (Nat.le_refl _))) fun a14 w14 f14 v14 b14 => ?_
  have B14 := below_of B0 b14
  have GA14 := (b14.block w.heap.size (Array.getElem?_eq_some_iff.1 GA).1).trans GA
  have GB14 := (b14.block (w.heap.size + 1) (Array.getElem?_eq_some_iff.1 GB).1).trans GB
  obtain ⟨z, hz, ez⟩ : ∃ z, a14.eval (.tmp 107) = .bool z ∧ z = (eqM m m' && eqB F n F' n') := ⟨_, v14, by rw [eqM_chain]⟩
  refine wlVal rfl rfl (.bool z) (run_move w14 _ _ rfl _ _ hz) ?_
  have g14 := f14.put 108 (.bool z) (by decide)
  have u14 := ev_eq a14 108 (.bool z) (by rw [f14.sz]; decide)
  refine cjList (.slice pt k ct) (.slice pt' k' ct') (eqB G k G' k') 15 103 108 109 110 111 112 113 114 (by decide) rfl rfl rfl rfl rfl rfl rfl rfl rfl rfl rfl rfl rfl rfl rfl rfl rfl rfl rfl rfl (by decide) g14 u14 (mv_cell GA14 15 _ rfl) (mv_cell GB14 15 _ rfl) (ints_bel G G' _ _ k k' _ (ht.below B14 (Nat.le_refl _)) (ht'.below B14 (Nat.le_refl _))) fun a15 w15 f15 v15 b15 => ?_
  refine wlVal rfl rfl (.bool (z && eqB G k G' k')) (run_assign w15 _ _ rfl _ _ v15) ?_
  have h4 := ev_eq a15 4 (.bool (z && eqB G k G' k')) (by rw [f15.sz]; decide)
  have g15 := f15.put 4 (.bool (z && eqB G k G' k')) (by decide)
  have B15 := below_of B14 b15
  refine wlDone ?_
  generalize a15.put (some 4) (.bool (z && eqB G k G' k')) = a16 at *
  rw [ez] at h4
  clear v14 v15 f14 f15 u14 g14
  go_wp2
  refine ⟨g15.df, ?_⟩
  unfold samB
  rw [← h4]
  simp [Act.eval]
end Go.Proofs.Ytmcmiojidgdjpaa
namespace Go.Proofs.Ytmcmiojidgdjpaa
open Go.RowKit

theorem ev_low {k : Nat} (hk : k < 65) (a : Act) (d : Nat) (v : Value) (hd : 65 ≤ d) : (a.put (some d) v).eval (.tmp k) = a.eval (.tmp k) := ev_ne _ _ _ _ (by omega)
theorem run_notq (w : World) (o : Oper) (x : Operand) (ho : o.op = .unOp .not 4 x) (a : Act) (b : Bool) (hx : a.eval x = .bool b) : (execOp a.eval o).run Try.prog w = .ok (.value (.bool (!b))) w := by
  unfold execOp
  simp only [ho, hx]
  simp [go_sem]
theorem run_len25 (w : World) (o : Oper) (x : Operand) (ho : o.op = .call { callee := .builtin .len, args := #[x], argTypes := #[25] }) (a : Act) (p : Option Addr) (n c : Nat) (hx : a.eval x = .slice p n c) : (execOp a.eval o).run Try.prog w = .ok (.value (.int .i64 (n : Int))) w := by
  unfold execOp
  simp only [ho]
  simp [resolve, invoke, builtin, hx]
  simp [go_sem]
theorem run_lss3 (w : World) (o : Oper) (x y : Operand) (ho : o.op = .binOp .lss 3 x y 3) (a : Act) (m n : Int) (b : Bool) (hx : a.eval x = .int .i64 m) (hy : a.eval y = .int .i64 n) (hb : decide (m < n) = b) : (execOp a.eval o).run Try.prog w = .ok (.value (.bool b)) w := by
  unfold execOp
  simp only [ho, hx, hy]
  simp [go_sem, hb]
theorem run_gtr3d (w : World) (o : Oper) (x y : Operand) (ho : o.op = .binOp .gtr 3 x y 3) (a : Act) (m n : Int) (b : Bool) (hx : a.eval x = .int .i64 m) (hy : a.eval y = .int .i64 n) (hb : decide (n < m) = b) : (execOp a.eval o).run Try.prog w = .ok (.value (.bool b)) w := by
  unfold execOp
  simp only [ho, hx, hy]
  simp [go_sem, hb]
theorem run_neq29 (w : World) (o : Oper) (x y : Operand) (ho : o.op = .binOp .neq 29 x y 29) (a : Act) (m n : Int) (b : Bool) (hx : a.eval x = .int .i64 m) (hy : a.eval y = .int .i64 n) (hb : (m != n) = b) : (execOp a.eval o).run Try.prog w = .ok (.value (.bool b)) w := by
  unfold execOp
  simp only [ho, hx, hy]
  simp [go_sem, hb]
theorem run_neq4 (w : World) (o : Oper) (x y : Operand) (ho : o.op = .binOp .neq 4 x y 4) (a : Act) (m : Bool) (hx : a.eval x = .bool m) (hy : a.eval y = .bool m) : (execOp a.eval o).run Try.prog w = .ok (.value (.bool false)) w := by
  unfold execOp
  simp only [ho, hx, hy]
  simp [go_sem]
theorem call13k : ∀ args w, (callFunc 13 args).run Try.prog w = .ok (.enter 13 args) w := enters_of Try.func13 (by kernel_rfl) rfl
theorem call14k : ∀ args w, (callFunc 14 args).run Try.prog w = .ok (.enter 14 args) w := enters_of Try.func14 (by kernel_rfl) rfl
def k8_0 (p : String) : Oper := { dst := some 65, op := Op.move (Operand.tmp 14), type := 29, pos := p, after := #[], guard := none }
def k8_1 (p : String) : Oper := { dst := some 66, op := Op.binOp BinOp.neq 29 (Operand.tmp 65) (Operand.const (Value.int IntKind.i64 0)) 29, type := 4, pos := p, after := #[{ on := 0, ground := Ground.data }], guard := none }
def k8_2 (p : String) : Oper := { dst := some 67, op := Op.move (Operand.tmp 66), type := 4, pos := p, after := #[{ on := 1, ground := Ground.data }], guard := none }
def k8_3 (p : String) : Oper := { dst := some 68, op := Op.load 24 (Operand.tmp 13), type := 24, pos := p, after := #[{ on := 2, ground := Ground.guard }], guard := some (2, false) }
def k8_4 (p : String) : Oper := { dst := some 69, op := Op.load 24 (Operand.tmp 4), type := 24, pos := p, after := #[{ on := 2, ground := Ground.guard }], guard := some (2, false) }
def k8_5 (p : String) : Oper := { dst := some 70, op := Op.call { callee := Callee.value (Operand.func 13), args := #[Operand.tmp 68, Operand.tmp 69], argTypes := #[24, 24] }, type := 4, pos := p, after := #[{ on := 3, ground := Ground.data }, { on := 4, ground := Ground.data }, { on := 2, ground := Ground.chain }, { on := 2, ground := Ground.guard }], guard := some (2, false) }
def k8_6 (p : String) : Oper := { dst := some 71, op := Op.unOp UnOp.not 4 (Operand.tmp 70), type := 4, pos := p, after := #[{ on := 5, ground := Ground.data }, { on := 2, ground := Ground.guard }], guard := some (2, false) }
def k8_7 (p : String) : Oper := { dst := some 72, op := Op.pick (Operand.tmp 67) (Operand.const (Value.bool true)) (Operand.tmp 71), type := 4, pos := p, after := #[{ on := 2, ground := Ground.data }, { on := 6, ground := Ground.data }], guard := none }
def k8_8 (p : String) : Oper := { dst := some 73, op := Op.move (Operand.tmp 72), type := 4, pos := p, after := #[{ on := 7, ground := Ground.data }, { on := 5, ground := Ground.chain }], guard := none }
def k8_9 (p : String) : Oper := { dst := some 74, op := Op.move (Operand.tmp 9), type := 25, pos := p, after := #[{ on := 8, ground := Ground.guard }], guard := some (8, false) }
def k8_10 (p : String) : Oper := { dst := some 75, op := Op.move (Operand.tmp 11), type := 25, pos := p, after := #[{ on := 8, ground := Ground.guard }], guard := some (8, false) }
def k8_11 (p : String) : Oper := { dst := some 76, op := Op.call { callee := Callee.value (Operand.func 14), args := #[Operand.tmp 74, Operand.tmp 75], argTypes := #[25, 25] }, type := 4, pos := p, after := #[{ on := 9, ground := Ground.data }, { on := 10, ground := Ground.data }, { on := 8, ground := Ground.chain }, { on := 8, ground := Ground.guard }], guard := some (8, false) }
def k8_12 (p : String) : Oper := { dst := some 77, op := Op.load 24 (Operand.tmp 4), type := 24, pos := p, after := #[{ on := 8, ground := Ground.guard }], guard := some (8, false) }
def k8_13 (p : String) : Oper := { dst := some 78, op := Op.load 24 (Operand.tmp 5), type := 24, pos := p, after := #[{ on := 8, ground := Ground.guard }], guard := some (8, false) }
def k8_14 (p : String) : Oper := { dst := some 79, op := Op.call { callee := Callee.value (Operand.func 13), args := #[Operand.tmp 77, Operand.tmp 78], argTypes := #[24, 24] }, type := 4, pos := p, after := #[{ on := 12, ground := Ground.data }, { on := 13, ground := Ground.data }, { on := 11, ground := Ground.chain }, { on := 8, ground := Ground.guard }], guard := some (8, false) }
def k8_15 (p : String) : Oper := { dst := some 80, op := Op.binOp BinOp.neq 4 (Operand.tmp 76) (Operand.tmp 79) 4, type := 4, pos := p, after := #[{ on := 11, ground := Ground.data }, { on := 14, ground := Ground.data }, { on := 8, ground := Ground.guard }], guard := some (8, false) }
def k8_16 (p : String) : Oper := { dst := some 81, op := Op.pick (Operand.tmp 73) (Operand.const (Value.bool true)) (Operand.tmp 80), type := 4, pos := p, after := #[{ on := 8, ground := Ground.data }, { on := 15, ground := Ground.data }], guard := none }
def k8_17 (p : String) : Oper := { dst := some 82, op := Op.move (Operand.tmp 81), type := 4, pos := p, after := #[{ on := 16, ground := Ground.data }, { on := 14, ground := Ground.chain }], guard := none }
def k8_18 (p : String) : Oper := { dst := some 83, op := Op.move (Operand.tmp 9), type := 25, pos := p, after := #[{ on := 17, ground := Ground.guard }], guard := some (17, false) }
def k8_19 (p : String) : Oper := { dst := some 84, op := Op.call { callee := Callee.builtin Builtin.len, args := #[Operand.tmp 83], argTypes := #[25] }, type := 3, pos := p, after := #[{ on := 18, ground := Ground.data }, { on := 17, ground := Ground.guard }], guard := some (17, false) }
def k8_20 (p : String) : Oper := { dst := some 85, op := Op.binOp BinOp.lss 3 (Operand.tmp 84) (Operand.const (Value.int IntKind.i64 48)) 3, type := 4, pos := p, after := #[{ on := 19, ground := Ground.data }, { on := 17, ground := Ground.guard }], guard := some (17, false) }
def k8_21 (p : String) : Oper := { dst := some 86, op := Op.pick (Operand.tmp 82) (Operand.const (Value.bool true)) (Operand.tmp 85), type := 4, pos := p, after := #[{ on := 17, ground := Ground.data }, { on := 20, ground := Ground.data }], guard := none }
def k8_22 (p : String) : Oper := { dst := some 87, op := Op.move (Operand.tmp 86), type := 4, pos := p, after := #[{ on := 21, ground := Ground.data }, { on := 17, ground := Ground.chain }], guard := none }
def k8_23 (p : String) : Oper := { dst := some 88, op := Op.move (Operand.tmp 9), type := 25, pos := p, after := #[{ on := 22, ground := Ground.guard }], guard := some (22, false) }
def k8_24 (p : String) : Oper := { dst := some 89, op := Op.call { callee := Callee.builtin Builtin.len, args := #[Operand.tmp 88], argTypes := #[25] }, type := 3, pos := p, after := #[{ on := 23, ground := Ground.data }, { on := 22, ground := Ground.guard }], guard := some (22, false) }
def k8_25 (p : String) : Oper := { dst := some 90, op := Op.binOp BinOp.gtr 3 (Operand.tmp 89) (Operand.const (Value.int IntKind.i64 80)) 3, type := 4, pos := p, after := #[{ on := 24, ground := Ground.data }, { on := 22, ground := Ground.guard }], guard := some (22, false) }
def k8_26 (p : String) : Oper := { dst := some 91, op := Op.pick (Operand.tmp 87) (Operand.const (Value.bool true)) (Operand.tmp 90), type := 4, pos := p, after := #[{ on := 22, ground := Ground.data }, { on := 25, ground := Ground.data }], guard := none }
def k8 (p : String) : Array Oper := #[k8_0 p, k8_1 p, k8_2 p, k8_3 p, k8_4 p, k8_5 p, k8_6 p, k8_7 p, k8_8 p, k8_9 p, k8_10 p, k8_11 p, k8_12 p, k8_13 p, k8_14 p, k8_15 p, k8_16 p, k8_17 p, k8_18 p, k8_19 p, k8_20 p, k8_21 p, k8_22 p, k8_23 p, k8_24 p, k8_25 p, k8_26 p]
set_option maxRecDepth 100000 in
set_option maxHeartbeats 4000000 in
theorem back8 {Q : Exit → Act → World → Prop} (id : Nat) (p : String) (a : Act) (w : World) (ga gb gm : Nat) (ca cb cm : Array Value) (pp : Option Addr) (N cp : Nat) (pq : Option Addr) (L cq : Nat) (X : Bool)
    (hsz : a.tmps.size = 152) (e4 : a.eval (.tmp 4) = .pointer (some ⟨ga, 0, none⟩)) (e5 : a.eval (.tmp 5) = .pointer (some ⟨gb, 0, none⟩)) (e13 : a.eval (.tmp 13) = .pointer (some ⟨gm, 0, none⟩)) (e9 : a.eval (.tmp 9) = .slice pp N cp) (e11 : a.eval (.tmp 11) = .slice pq L cq) (e14 : a.eval (.tmp 14) = .int .i64 0)
    (hga : w.heap[ga]? = some (.cells ca 24)) (hgb : w.heap[gb]? = some (.cells cb 24)) (hgm : w.heap[gm]? = some (.cells cm 24)) (sga : ca.size = 16) (sgb : cb.size = 16) (sgm : cm.size = 16)
    (h48 : decide ((N : Int) < 48) = false) (h80 : decide ((80 : Int) < (N : Int)) = false)
    (d5 : ∀ w1, Below w.heap.size w w1 → Calls Try.prog 13 #[.agg cm, .agg ca] w1 fun e w' => e = .returned (.bool true) ∧ Below w1.heap.size w1 w')
    (d11 : ∀ w1, Below w.heap.size w w1 → Calls Try.prog 14 #[.slice pp N cp, .slice pq L cq] w1 fun e w' => e = .returned (.bool X) ∧ Below w1.heap.size w1 w')
    (d14 : ∀ w1, Below w.heap.size w w1 → Calls Try.prog 13 #[.agg ca, .agg cb] w1 fun e w' => e = .returned (.bool X) ∧ Below w1.heap.size w1 w')
    (h : ∀ w', Below w.heap.size w w' → Q .normal ((((((((((((((((((((((((((((a.put (some 65) (.int .i64 0)).put (some 66) (.bool false)).put (some 67) (.bool false)).put (some 68) (.agg cm)).put (some 69) (.agg ca)).put (some 70) (.bool true)).put (some 71) (.bool false)).put (some 72) (.bool false)).put (some 73) (.bool false)).put (some 74) (.slice pp N cp)).put (some 75) (.slice pq L cq)).put (some 77) (.agg ca)).put (some 78) (.agg cb)).put (some 76) (.bool X)).put (some 79) (.bool X)).put (some 80) (.bool false)).put (some 81) (.bool false)).put (some 82) (.bool false)).put (some 83) (.slice pp N cp)).put (some 84) (.int .i64 (N : Int))).put (some 85) (.bool false)).put (some 86) (.bool false)).put (some 87) (.bool false)).put (some 88) (.slice pp N cp)).put (some 89) (.int .i64 (N : Int))).put (some 90) (.bool false)).put (some 91) (.bool false))) w') :
    (Code.region id (k8 p) true).wp Try.prog Q a w := by
  have bga : ga < w.heap.size := (Array.getElem?_eq_some_iff.1 hga).1
  have bgb : gb < w.heap.size := (Array.getElem?_eq_some_iff.1 hgb).1
  have bgm : gm < w.heap.size := (Array.getElem?_eq_some_iff.1 hgm).1
  refine wp_region_noPanic ?_
  have hQ : ∀ c a d v w, NoPanic Q (.panic c) (a.put d v) w → NoPanic Q (.panic c) a w := fun _ _ _ _ _ h => h
  have B0 : Below w.heap.size w w.drew := (Below.refl _ w).drew
  refine waStart (fun w' => Below w.heap.size w w') ?_
  refine waTake (i := 0) (v := (.int .i64 0)) rfl rfl (by kernel_rfl) (by kernel_rfl) (by kernel_rfl) (fun c a w => hQ c a _ _ w) (fun w' hS => run_move w' _ _ rfl _ _ (by simp [e14])) B0 ?_
  refine waPut (d' := 65) (l' := #[true, false, false, false, false, false, false, false, false, false, false, false, false, false, false, false, false, false, false, false, false, false, false, false, false, false, false]) rfl (by kernel_rfl) ?_
  refine waTake (i := 1) (v := (.bool false)) rfl rfl (by kernel_rfl) (by kernel_rfl) (by kernel_rfl) (fun c a w => hQ c a _ _ w) (fun w' hS => run_neq29 w' _ _ _ rfl _ 0 0 _ (by simp [ev_eq, hsz]) (by simp [ev_const]) rfl) B0 ?_
  refine waPut (d' := 66) (l' := #[true, true, false, false, false, false, false, false, false, false, false, false, false, false, false, false, false, false, false, false, false, false, false, false, false, false, false]) rfl (by kernel_rfl) ?_
  refine waTake (i := 2) (v := (.bool false)) rfl rfl (by kernel_rfl) (by kernel_rfl) (by kernel_rfl) (fun c a w => hQ c a _ _ w) (fun w' hS => run_move w' _ _ rfl _ _ (by simp [ev_eq, sz_put, hsz])) B0 ?_
  refine waPut (d' := 67) (l' := #[true, true, true, false, false, false, false, false, false, false, false, false, false, false, false, false, false, false, false, false, false, false, false, false, false, false, false]) rfl (by kernel_rfl) ?_
  refine waTakeG (i := 3) (v := (.agg cm)) 2 67 false rfl rfl rfl rfl (by simp [ev_eq, sz_put, hsz]) (by kernel_rfl) (by kernel_rfl) (by kernel_rfl) (fun c a w => hQ c a _ _ w) (fun w' hS => run_load24 w' gm cm ((hS.block gm bgm).trans hgm) sgm _ _ rfl _ (by simp [ev_ne, e13])) B0 ?_
  refine waPut (d' := 68) (l' := #[true, true, true, true, false, false, false, false, false, false, false, false, false, false, false, false, false, false, false, false, false, false, false, false, false, false, false]) rfl (by kernel_rfl) ?_
  refine waTakeG (i := 4) (v := (.agg ca)) 2 67 false rfl rfl rfl rfl (by simp [ev_ne, ev_eq, sz_put, hsz]) (by kernel_rfl) (by kernel_rfl) (by kernel_rfl) (fun c a w => hQ c a _ _ w) (fun w' hS => run_load24 w' ga ca ((hS.block ga bga).trans hga) sga _ _ rfl _ (by simp [ev_ne, e4])) B0 ?_
  refine waPut (d' := 69) (l' := #[true, true, true, true, true, false, false, false, false, false, false, false, false, false, false, false, false, false, false, false, false, false, false, false, false, false, false]) rfl (by kernel_rfl) ?_
  refine waCallG 5 (o := k8_5 p) (by kernel_rfl) 2 67 false rfl rfl rfl rfl (by simp [ev_ne, ev_eq, sz_put, hsz]) 13 #[(.agg cm), (.agg ca)] (.bool true) (run_call2 13 call13k _ _ _ _ _ _ rfl _ _ _ (by simp [ev_ne, ev_eq, sz_put, hsz]) (by simp [ev_eq, sz_put, hsz])) (d5 _ B0) ?_
  intro wd1 bwd1
  have Bwd1 := below_of B0 bwd1
  refine ⟨Bwd1, ?_⟩
  refine waPut (d' := 70) (l' := #[true, true, true, true, true, true, false, false, false, false, false, false, false, false, false, false, false, false, false, false, false, false, false, false, false, false, false]) rfl (by kernel_rfl) ?_
  refine waTakeG (i := 6) (v := (.bool false)) 2 67 false rfl rfl rfl rfl (by simp [ev_ne, ev_eq, sz_put, hsz]) (by kernel_rfl) (by kernel_rfl) (by kernel_rfl) (fun c a w => hQ c a _ _ w) (fun w' hS => run_notq w' _ _ rfl _ true (by simp [ev_eq, sz_put, hsz])) Bwd1 ?_
  refine waPut (d' := 71) (l' := #[true, true, true, true, true, true, true, false, false, false, false, false, false, false, false, false, false, false, false, false, false, false, false, false, false, false, false]) rfl (by kernel_rfl) ?_
  refine waTake (i := 7) (v := (.bool false)) rfl rfl (by kernel_rfl) (by kernel_rfl) (by kernel_rfl) (fun c a w => hQ c a _ _ w) (fun w' hS => run_pick w' _ _ _ _ rfl _ false _ (by simp [ev_ne, ev_eq, sz_put, hsz]) (by simp [ev_eq, sz_put, hsz])) Bwd1 ?_
  refine waPut (d' := 72) (l' := #[true, true, true, true, true, true, true, true, false, false, false, false, false, false, false, false, false, false, false, false, false, false, false, false, false, false, false]) rfl (by kernel_rfl) ?_
  refine waTake (i := 8) (v := (.bool false)) rfl rfl (by kernel_rfl) (by kernel_rfl) (by kernel_rfl) (fun c a w => hQ c a _ _ w) (fun w' hS => run_move w' _ _ rfl _ _ (by simp [ev_eq, sz_put, hsz])) Bwd1 ?_
  refine waPut (d' := 73) (l' := #[true, true, true, true, true, true, true, true, true, false, false, false, false, false, false, false, false, false, false, false, false, false, false, false, false, false, false]) rfl (by kernel_rfl) ?_
  refine waTakeG (i := 9) (v := (.slice pp N cp)) 8 73 false rfl rfl rfl rfl (by simp [ev_eq, sz_put, hsz]) (by kernel_rfl) (by kernel_rfl) (by kernel_rfl) (fun c a w => hQ c a _ _ w) (fun w' hS => run_move w' _ _ rfl _ _ (by simp [ev_ne, e9])) Bwd1 ?_
  refine waPut (d' := 74) (l' := #[true, true, true, true, true, true, true, true, true, true, false, false, false, false, false, false, false, false, false, false, false, false, false, false, false, false, false]) rfl (by kernel_rfl) ?_
  refine waTakeG (i := 10) (v := (.slice pq L cq)) 8 73 false rfl rfl rfl rfl (by simp [ev_ne, ev_eq, sz_put, hsz]) (by kernel_rfl) (by kernel_rfl) (by kernel_rfl) (fun c a w => hQ c a _ _ w) (fun w' hS => run_move w' _ _ rfl _ _ (by simp [ev_ne, e11])) Bwd1 ?_
  refine waPut (d' := 75) (l' := #[true, true, true, true, true, true, true, true, true, true, true, false, false, false, false, false, false, false, false, false, false, false, false, false, false, false, false]) rfl (by kernel_rfl) ?_
  refine waTakeG (i := 12) (v := (.agg ca)) 8 73 false rfl rfl rfl rfl (by simp [ev_ne, ev_eq, sz_put, hsz]) (by kernel_rfl) (by kernel_rfl) (by kernel_rfl) (fun c a w => hQ c a _ _ w) (fun w' hS => run_load24 w' ga ca ((hS.block ga bga).trans hga) sga _ _ rfl _ (by simp [ev_ne, e4])) Bwd1 ?_
  refine waPut (d' := 77) (l' := #[true, true, true, true, true, true, true, true, true, true, true, false, true, false, false, false, false, false, false, false, false, false, false, false, false, false, false]) rfl (by kernel_rfl) ?_
  refine waTakeG (i := 13) (v := (.agg cb)) 8 73 false rfl rfl rfl rfl (by simp [ev_ne, ev_eq, sz_put, hsz]) (by kernel_rfl) (by kernel_rfl) (by kernel_rfl) (fun c a w => hQ c a _ _ w) (fun w' hS => run_load24 w' gb cb ((hS.block gb bgb).trans hgb) sgb _ _ rfl _ (by simp [ev_ne, e5])) Bwd1 ?_
  refine waPut (d' := 78) (l' := #[true, true, true, true, true, true, true, true, true, true, true, false, true, true, false, false, false, false, false, false, false, false, false, false, false, false, false]) rfl (by kernel_rfl) ?_
  refine waCallG 11 (o := k8_11 p) (by kernel_rfl) 8 73 false rfl rfl rfl rfl (by simp [ev_ne, ev_eq, sz_put, hsz]) 14 #[(.slice pp N cp), (.slice pq L cq)] (.bool X) (run_call2 14 call14k _ _ _ _ _ _ rfl _ _ _ (by simp [ev_ne, ev_eq, sz_put, hsz]) (by simp [ev_ne, ev_eq, sz_put, hsz])) (d11 _ Bwd1) ?_
  intro wd2 bwd2
  have Bwd2 := below_of Bwd1 bwd2
  refine ⟨Bwd2, ?_⟩
  refine waPut (d' := 76) (l' := #[true, true, true, true, true, true, true, true, true, true, true, true, true, true, false, false, false, false, false, false, false, false, false, false, false, false, false]) rfl (by kernel_rfl) ?_
  refine waCallG 14 (o := k8_14 p) (by kernel_rfl) 8 73 false rfl rfl rfl rfl (by simp [ev_ne, ev_eq, sz_put, hsz]) 13 #[(.agg ca), (.agg cb)] (.bool X) (run_call2 13 call13k _ _ _ _ _ _ rfl _ _ _ (by simp [ev_ne, ev_eq, sz_put, hsz]) (by simp [ev_ne, ev_eq, sz_put, hsz])) (d14 _ Bwd2) ?_
  intro wd3 bwd3
  have Bwd3 := below_of Bwd2 bwd3
  refine ⟨Bwd3, ?_⟩
  refine waPut (d' := 79) (l' := #[true, true, true, true, true, true, true, true, true, true, true, true, true, true, true, false, false, false, false, false, false, false, false, false, false, false, false]) rfl (by kernel_rfl) ?_
  refine waTakeG (i := 15) (v := (.bool false)) 8 73 false rfl rfl rfl rfl (by simp [ev_ne, ev_eq, sz_put, hsz]) (by kernel_rfl) (by kernel_rfl) (by kernel_rfl) (fun c a w => hQ c a _ _ w) (fun w' hS => run_neq4 w' _ _ _ rfl _ X (by simp [ev_ne, ev_eq, sz_put, hsz]) (by simp [ev_eq, sz_put, hsz])) Bwd3 ?_
  refine waPut (d' := 80) (l' := #[true, true, true, true, true, true, true, true, true, true, true, true, true, true, true, true, false, false, false, false, false, false, false, false, false, false, false]) rfl (by kernel_rfl) ?_
  refine waTake (i := 16) (v := (.bool false)) rfl rfl (by kernel_rfl) (by kernel_rfl) (by kernel_rfl) (fun c a w => hQ c a _ _ w) (fun w' hS => run_pick w' _ _ _ _ rfl _ false _ (by simp [ev_ne, ev_eq, sz_put, hsz]) (by simp [ev_eq, sz_put, hsz])) Bwd3 ?_
  refine waPut (d' := 81) (l' := #[true, true, true, true, true, true, true, true, true, true, true, true, true, true, true, true, true, false, false, false, false, false, false, false, false, false, false]) rfl (by kernel_rfl) ?_
  refine waTake (i := 17) (v := (.bool false)) rfl rfl (by kernel_rfl) (by kernel_rfl) (by kernel_rfl) (fun c a w => hQ c a _ _ w) (fun w' hS => run_move w' _ _ rfl _ _ (by simp [ev_eq, sz_put, hsz])) Bwd3 ?_
  refine waPut (d' := 82) (l' := #[true, true, true, true, true, true, true, true, true, true, true, true, true, true, true, true, true, true, false, false, false, false, false, false, false, false, false]) rfl (by kernel_rfl) ?_
  refine waTakeG (i := 18) (v := (.slice pp N cp)) 17 82 false rfl rfl rfl rfl (by simp [ev_eq, sz_put, hsz]) (by kernel_rfl) (by kernel_rfl) (by kernel_rfl) (fun c a w => hQ c a _ _ w) (fun w' hS => run_move w' _ _ rfl _ _ (by simp [ev_ne, e9])) Bwd3 ?_
  refine waPut (d' := 83) (l' := #[true, true, true, true, true, true, true, true, true, true, true, true, true, true, true, true, true, true, true, false, false, false, false, false, false, false, false]) rfl (by kernel_rfl) ?_
  refine waTakeG (i := 19) (v := (.int .i64 (N : Int))) 17 82 false rfl rfl rfl rfl (by simp [ev_ne, ev_eq, sz_put, hsz]) (by kernel_rfl) (by kernel_rfl) (by kernel_rfl) (fun c a w => hQ c a _ _ w) (fun w' hS => run_len25 w' _ _ rfl _ pp N cp (by simp [ev_eq, sz_put, hsz])) Bwd3 ?_
  refine waPut (d' := 84) (l' := #[true, true, true, true, true, true, true, true, true, true, true, true, true, true, true, true, true, true, true, true, false, false, false, false, false, false, false]) rfl (by kernel_rfl) ?_
  refine waTakeG (i := 20) (v := (.bool false)) 17 82 false rfl rfl rfl rfl (by simp [ev_ne, ev_eq, sz_put, hsz]) (by kernel_rfl) (by kernel_rfl) (by kernel_rfl) (fun c a w => hQ c a _ _ w) (fun w' hS => run_lss3 w' _ _ _ rfl _ (N : Int) 48 _ (by simp [ev_eq, sz_put, hsz]) (by simp [ev_const]) h48) Bwd3 ?_
  refine waPut (d' := 85) (l' := #[true, true, true, true, true, true, true, true, true, true, true, true, true, true, true, true, true, true, true, true, true, false, false, false, false, false, false]) rfl (by kernel_rfl) ?_
  refine waTake (i := 21) (v := (.bool false)) rfl rfl (by kernel_rfl) (by kernel_rfl) (by kernel_rfl) (fun c a w => hQ c a _ _ w) (fun w' hS => run_pick w' _ _ _ _ rfl _ false _ (by simp [ev_ne, ev_eq, sz_put, hsz]) (by simp [ev_eq, sz_put, hsz])) Bwd3 ?_
  refine waPut (d' := 86) (l' := #[true, true, true, true, true, true, true, true, true, true, true, true, true, true, true, true, true, true, true, true, true, true, false, false, false, false, false]) rfl (by kernel_rfl) ?_
  refine waTake (i := 22) (v := (.bool false)) rfl rfl (by kernel_rfl) (by kernel_rfl) (by kernel_rfl) (fun c a w => hQ c a _ _ w) (fun w' hS => run_move w' _ _ rfl _ _ (by simp [ev_eq, sz_put, hsz])) Bwd3 ?_
  refine waPut (d' := 87) (l' := #[true, true, true, true, true, true, true, true, true, true, true, true, true, true, true, true, true, true, true, true, true, true, true, false, false, false, false]) rfl (by kernel_rfl) ?_
  refine waTakeG (i := 23) (v := (.slice pp N cp)) 22 87 false rfl rfl rfl rfl (by simp [ev_eq, sz_put, hsz]) (by kernel_rfl) (by kernel_rfl) (by kernel_rfl) (fun c a w => hQ c a _ _ w) (fun w' hS => run_move w' _ _ rfl _ _ (by simp [ev_ne, e9])) Bwd3 ?_
  refine waPut (d' := 88) (l' := #[true, true, true, true, true, true, true, true, true, true, true, true, true, true, true, true, true, true, true, true, true, true, true, true, false, false, false]) rfl (by kernel_rfl) ?_
  refine waTakeG (i := 24) (v := (.int .i64 (N : Int))) 22 87 false rfl rfl rfl rfl (by simp [ev_ne, ev_eq, sz_put, hsz]) (by kernel_rfl) (by kernel_rfl) (by kernel_rfl) (fun c a w => hQ c a _ _ w) (fun w' hS => run_len25 w' _ _ rfl _ pp N cp (by simp [ev_eq, sz_put, hsz])) Bwd3 ?_
  refine waPut (d' := 89) (l' := #[true, true, true, true, true, true, true, true, true, true, true, true, true, true, true, true, true, true, true, true, true, true, true, true, true, false, false]) rfl (by kernel_rfl) ?_
  refine waTakeG (i := 25) (v := (.bool false)) 22 87 false rfl rfl rfl rfl (by simp [ev_ne, ev_eq, sz_put, hsz]) (by kernel_rfl) (by kernel_rfl) (by kernel_rfl) (fun c a w => hQ c a _ _ w) (fun w' hS => run_gtr3d w' _ _ _ rfl _ (N : Int) 80 _ (by simp [ev_eq, sz_put, hsz]) (by simp [ev_const]) h80) Bwd3 ?_
  refine waPut (d' := 90) (l' := #[true, true, true, true, true, true, true, true, true, true, true, true, true, true, true, true, true, true, true, true, true, true, true, true, true, true, false]) rfl (by kernel_rfl) ?_
  refine waTake (i := 26) (v := (.bool false)) rfl rfl (by kernel_rfl) (by kernel_rfl) (by kernel_rfl) (fun c a w => hQ c a _ _ w) (fun w' hS => run_pick w' _ _ _ _ rfl _ false _ (by simp [ev_ne, ev_eq, sz_put, hsz]) (by simp [ev_eq, sz_put, hsz])) Bwd3 ?_
  refine waPut (d' := 91) (l' := #[true, true, true, true, true, true, true, true, true, true, true, true, true, true, true, true, true, true, true, true, true, true, true, true, true, true, true]) rfl (by kernel_rfl) ?_
  exact waDone (by kernel_rfl) (NoPanic.normal (h _ Bwd3))
end Go.Proofs.Ytmcmiojidgdjpaa
namespace Go.Proofs.Ytmcmiojidgdjpaa
open Go.RowKit

def r0_0 (p : String) : Oper := { dst := some 1, op := Op.box 24 (Operand.tmp 0), type := 0, pos := p, after := #[], guard := none }
def r0_1 (p : String) : Oper := { dst := some 2, op := Op.assign (Operand.const (Value.bool false)), type := 4, pos := p, after := #[], guard := none }
def r0 (p : String) : Array Oper := #[r0_0 p, r0_1 p]
set_option maxRecDepth 100000 in
set_option maxHeartbeats 1000000 in
theorem reg0 {Q : Exit → Act → World → Prop} (id : Nat) (p : String) (a : Act) (w : World) (c0 c1 c2 c3 c4 c5 c6 c7 c8 c9 c10 c11 c12 c13 c14 c15 : Value) (hsz : a.tmps.size = 347) (hdf : a.defers = []) (e0 : a.eval (.tmp 0) = .agg #[c0, c1, c2, c3, c4, c5, c6, c7, c8, c9, c10, c11, c12, c13, c14, c15])
    (h : ∀ a', a'.tmps.size = 347 → a'.defers = [] → a'.eval (.tmp 1) = .pointer (some ⟨w.heap.size, 0, none⟩) → Q .normal a' (w.alloc (.cells #[c0, c1, c2, c3, c4, c5, c6, c7, c8, c9, c10, c11, c12, c13, c14, c15] 24))) :
    (Code.region id (r0 p) false).wp Try.prog Q a w := by
  refine wlStart (l := [r0_0 p, r0_1 p]) rfl ?_
  refine wlValw rfl rfl _ (run_box24 _ _ _ rfl _ c0 c1 c2 c3 c4 c5 c6 c7 c8 c9 c10 c11 c12 c13 c14 c15 e0) ?_
  refine wlVal rfl rfl (.bool false) (run_assign _ _ _ rfl _ _ (by simp [ev_const])) ?_
  exact wlDone <| h _ (by simp [sz_put, hsz]) (by simp [def_put, hdf]) (by simp [ev_ne, ev_eq, hsz])
def r1_0 (p : String) : Oper := { dst := some 5, op := Op.fieldAddr 24 (Operand.tmp 1) 0, type := 0, pos := p, after := #[], guard := none }
def r1_1 (p : String) : Oper := { dst := some 6, op := Op.load 3 (Operand.tmp 5), type := 3, pos := p, after := #[{ on := 0, ground := Ground.data }], guard := none }
def r1_2 (p : String) : Oper := { dst := some 7, op := Op.call { callee := Callee.value (Operand.func 30), args := #[Operand.tmp 6, Operand.const (Value.int IntKind.i64 1), Operand.const (Value.int IntKind.i64 13)], argTypes := #[3, 3, 3] }, type := 4, pos := p, after := #[{ on := 1, ground := Ground.data }], guard := none }
def r1_3 (p : String) : Oper := { dst := some 8, op := Op.unOp UnOp.not 4 (Operand.tmp 7), type := 4, pos := p, after := #[{ on := 2, ground := Ground.data }], guard := none }
def r1_4 (p : String) : Oper := { dst := some 9, op := Op.move (Operand.tmp 8), type := 4, pos := p, after := #[{ on := 3, ground := Ground.data }, { on := 2, ground := Ground.chain }], guard := none }
def r1_5 (p : String) : Oper := { dst := some 10, op := Op.fieldAddr 24 (Operand.tmp 1) 1, type := 0, pos := p, after := #[{ on := 4, ground := Ground.guard }], guard := some (4, false) }
def r1_6 (p : String) : Oper := { dst := some 11, op := Op.load 3 (Operand.tmp 10), type := 3, pos := p, after := #[{ on := 5, ground := Ground.data }, { on := 4, ground := Ground.guard }], guard := some (4, false) }
def r1_7 (p : String) : Oper := { dst := some 12, op := Op.call { callee := Callee.value (Operand.func 31), args := #[Operand.tmp 11], argTypes := #[3] }, type := 4, pos := p, after := #[{ on := 6, ground := Ground.data }, { on := 4, ground := Ground.chain }, { on := 4, ground := Ground.guard }], guard := some (4, false) }
def r1_8 (p : String) : Oper := { dst := some 13, op := Op.unOp UnOp.not 4 (Operand.tmp 12), type := 4, pos := p, after := #[{ on := 7, ground := Ground.data }, { on := 4, ground := Ground.guard }], guard := some (4, false) }
def r1_9 (p : String) : Oper := { dst := some 14, op := Op.pick (Operand.tmp 9) (Operand.const (Value.bool true)) (Operand.tmp 13), type := 4, pos := p, after := #[{ on := 4, ground := Ground.data }, { on := 8, ground := Ground.data }], guard := none }
def r1_10 (p : String) : Oper := { dst := some 15, op := Op.move (Operand.tmp 14), type := 4, pos := p, after := #[{ on := 9, ground := Ground.data }, { on := 7, ground := Ground.chain }], guard := none }
def r1_11 (p : String) : Oper := { dst := some 16, op := Op.fieldAddr 24 (Operand.tmp 1) 3, type := 0, pos := p, after := #[{ on := 10, ground := Ground.guard }], guard := some (10, false) }
def r1_12 (p : String) : Oper := { dst := some 17, op := Op.load 3 (Operand.tmp 16), type := 3, pos := p, after := #[{ on := 11, ground := Ground.data }, { on := 10, ground := Ground.guard }], guard := some (10, false) }
def r1_13 (p : String) : Oper := { dst := some 18, op := Op.call { callee := Callee.value (Operand.func 31), args := #[Operand.tmp 17], argTypes := #[3] }, type := 4, pos := p, after := #[{ on := 12, ground := Ground.data }, { on := 10, ground := Ground.chain }, { on := 10, ground := Ground.guard }], guard := some (10, false) }
def r1_14 (p : String) : Oper := { dst := some 19, op := Op.unOp UnOp.not 4 (Operand.tmp 18), type := 4, pos := p, after := #[{ on := 13, ground := Ground.data }, { on := 10, ground := Ground.guard }], guard := some (10, false) }
def r1_15 (p : String) : Oper := { dst := some 20, op := Op.pick (Operand.tmp 15) (Operand.const (Value.bool true)) (Operand.tmp 19), type := 4, pos := p, after := #[{ on := 10, ground := Ground.data }, { on := 14, ground := Ground.data }], guard := none }
def r1_16 (p : String) : Oper := { dst := some 21, op := Op.move (Operand.tmp 20), type := 4, pos := p, after := #[{ on := 15, ground := Ground.data }, { on := 13, ground := Ground.chain }], guard := none }
def r1_17 (p : String) : Oper := { dst := some 22, op := Op.fieldAddr 24 (Operand.tmp 1) 1, type := 0, pos := p, after := #[{ on := 16, ground := Ground.guard }], guard := some (16, false) }
def r1_18 (p : String) : Oper := { dst := some 23, op := Op.load 3 (Operand.tmp 22), type := 3, pos := p, after := #[{ on := 17, ground := Ground.data }, { on := 16, ground := Ground.guard }], guard := some (16, false) }
def r1_19 (p : String) : Oper := { dst := some 24, op := Op.fieldAddr 24 (Operand.tmp 1) 3, type := 0, pos := p, after := #[{ on := 16, ground := Ground.guard }], guard := some (16, false) }
def r1_20 (p : String) : Oper := { dst := some 25, op := Op.load 3 (Operand.tmp 24), type := 3, pos := p, after := #[{ on := 19, ground := Ground.data }, { on := 16, ground := Ground.guard }], guard := some (16, false) }
def r1_21 (p : String) : Oper := { dst := some 26, op := Op.binOp BinOp.eql 3 (Operand.tmp 23) (Operand.tmp 25) 3, type := 4, pos := p, after := #[{ on := 18, ground := Ground.data }, { on := 20, ground := Ground.data }, { on := 16, ground := Ground.guard }], guard := some (16, false) }
def r1_22 (p : String) : Oper := { dst := some 27, op := Op.pick (Operand.tmp 21) (Operand.const (Value.bool true)) (Operand.tmp 26), type := 4, pos := p, after := #[{ on := 16, ground := Ground.data }, { on := 21, ground := Ground.data }], guard := none }
def r1_23 (p : String) : Oper := { dst := some 28, op := Op.move (Operand.tmp 27), type := 4, pos := p, after := #[{ on := 22, ground := Ground.data }, { on := 16, ground := Ground.chain }], guard := none }
def r1_24 (p : String) : Oper := { dst := some 29, op := Op.fieldAddr 24 (Operand.tmp 1) 2, type := 0, pos := p, after := #[{ on := 23, ground := Ground.guard }], guard := some (23, false) }
def r1_25 (p : String) : Oper := { dst := some 30, op := Op.load 3 (Operand.tmp 29), type := 3, pos := p, after := #[{ on := 24, ground := Ground.data }, { on := 23, ground := Ground.guard }], guard := some (23, false) }
def r1_26 (p : String) : Oper := { dst := some 31, op := Op.call { callee := Callee.value (Operand.func 32), args := #[Operand.tmp 30], argTypes := #[3] }, type := 4, pos := p, after := #[{ on := 25, ground := Ground.data }, { on := 23, ground := Ground.chain }, { on := 23, ground := Ground.guard }], guard := some (23, false) }
def r1_27 (p : String) : Oper := { dst := some 32, op := Op.unOp UnOp.not 4 (Operand.tmp 31), type := 4, pos := p, after := #[{ on := 26, ground := Ground.data }, { on := 23, ground := Ground.guard }], guard := some (23, false) }
def r1_28 (p : String) : Oper := { dst := some 33, op := Op.pick (Operand.tmp 28) (Operand.const (Value.bool true)) (Operand.tmp 32), type := 4, pos := p, after := #[{ on := 23, ground := Ground.data }, { on := 27, ground := Ground.data }], guard := none }
def r1 (p : String) : Array Oper := #[r1_0 p, r1_1 p, r1_2 p, r1_3 p, r1_4 p, r1_5 p, r1_6 p, r1_7 p, r1_8 p, r1_9 p, r1_10 p, r1_11 p, r1_12 p, r1_13 p, r1_14 p, r1_15 p, r1_16 p, r1_17 p, r1_18 p, r1_19 p, r1_20 p, r1_21 p, r1_22 p, r1_23 p, r1_24 p, r1_25 p, r1_26 p, r1_27 p, r1_28 p]
set_option maxRecDepth 100000 in
set_option maxHeartbeats 1000000 in
theorem reg1 {Q : Exit → Act → World → Prop} (id : Nat) (p : String) (a : Act) (w : World) (g1 : Nat) (cs : Array Value) (kd fr fi tw : Int) (x0 x1 x2 x4 : Bool) (hsz : a.tmps.size = 347) (hdf : a.defers = []) (e1 : a.eval (.tmp 1) = .pointer (some ⟨g1, 0, none⟩)) (hg1 : w.heap[g1]? = some (.cells cs 24)) (y0 : cs[0]? = some (.int .i64 kd)) (y1 : cs[1]? = some (.int .i64 fr)) (y2 : cs[2]? = some (.int .i64 fi)) (y3 : cs[3]? = some (.int .i64 tw))
    (c0 : ∀ w, Calls Try.prog 30 #[.int .i64 kd, .int .i64 1, .int .i64 13] w fun e w' => e = .returned (.bool x0) ∧ w' = w) (c1 : ∀ w, Calls Try.prog 31 #[.int .i64 fr] w fun e w' => e = .returned (.bool x1) ∧ w' = w) (c2 : ∀ w, Calls Try.prog 31 #[.int .i64 tw] w fun e w' => e = .returned (.bool x2) ∧ w' = w) (c4 : ∀ w, Calls Try.prog 32 #[.int .i64 fi] w fun e w' => e = .returned (.bool x4) ∧ w' = w)
    (h : ∀ a', a'.tmps.size = 347 → a'.defers = [] → a'.eval (.tmp 1) = .pointer (some ⟨g1, 0, none⟩) → a'.eval (.tmp 33) = .bool (!(x0 && x1 && x2 && !(fr == tw) && x4)) → Q .normal a' w) :
    (Code.region id (r1 p) false).wp Try.prog Q a w := by
  refine wlStart (l := [r1_0 p, r1_1 p, r1_2 p, r1_3 p, r1_4 p, r1_5 p, r1_6 p, r1_7 p, r1_8 p, r1_9 p, r1_10 p, r1_11 p, r1_12 p, r1_13 p, r1_14 p, r1_15 p, r1_16 p, r1_17 p, r1_18 p, r1_19 p, r1_20 p, r1_21 p, r1_22 p, r1_23 p, r1_24 p, r1_25 p, r1_26 p, r1_27 p, r1_28 p]) rfl ?_
  refine wlVal rfl rfl (.pointer (some ⟨g1, 0, none⟩)) (run_field 0 (by omega) w _ _ rfl _ g1 (by simp [e1])) ?_
  refine wlVal rfl rfl (.int .i64 kd) (run_load3 w _ _ rfl _ ⟨g1, 0, none⟩ (by simp [ev_eq, hsz]) _ (mv_cell hg1 0 _ y0)) ?_
  refine wlC rfl rfl 30 #[(.int .i64 kd), (.int .i64 1), (.int .i64 13)] (.bool x0) (run_call3 30 call18 _ _ _ _ _ _ _ _ rfl _ _ _ _ (by simp [ev_eq, sz_put, hsz]) (by simp [ev_const]) (by simp [ev_const])) (c0 _) ?_
  cases x0 with
  | false =>
    refine wlVal rfl rfl (.bool true) (run_not w _ _ rfl _ false (by simp [ev_eq, sz_put, hsz])) ?_
    refine wlVal rfl rfl (.bool true) (run_move w _ _ rfl _ _ (by simp [ev_eq, sz_put, hsz])) ?_
    refine wlN 4 9 false true rfl rfl rfl rfl (by simp [ev_eq, sz_put, hsz]) (by decide) ?_
    refine wlN 4 9 false true rfl rfl rfl rfl (by simp [ev_ne, ev_eq, sz_put, hsz]) (by decide) ?_
    refine wlN 4 9 false true rfl rfl rfl rfl (by simp [ev_ne, ev_eq, sz_put, hsz]) (by decide) ?_
    refine wlN 4 9 false true rfl rfl rfl rfl (by simp [ev_ne, ev_eq, sz_put, hsz]) (by decide) ?_
    refine wlVal rfl rfl (.bool true) (run_pick w _ _ _ _ rfl _ true _ (by simp [ev_ne, ev_eq, sz_put, hsz]) (by simp [ev_const])) ?_
    refine wlVal rfl rfl (.bool true) (run_move w _ _ rfl _ _ (by simp [ev_eq, sz_put, hsz])) ?_
    refine wlN 10 15 false true rfl rfl rfl rfl (by simp [ev_eq, sz_put, hsz]) (by decide) ?_
    refine wlN 10 15 false true rfl rfl rfl rfl (by simp [ev_ne, ev_eq, sz_put, hsz]) (by decide) ?_
    refine wlN 10 15 false true rfl rfl rfl rfl (by simp [ev_ne, ev_eq, sz_put, hsz]) (by decide) ?_
    refine wlN 10 15 false true rfl rfl rfl rfl (by simp [ev_ne, ev_eq, sz_put, hsz]) (by decide) ?_
    refine wlVal rfl rfl (.bool true) (run_pick w _ _ _ _ rfl _ true _ (by simp [ev_ne, ev_eq, sz_put, hsz]) (by simp [ev_const])) ?_
    refine wlVal rfl rfl (.bool true) (run_move w _ _ rfl _ _ (by simp [ev_eq, sz_put, hsz])) ?_
    refine wlN 16 21 false true rfl rfl rfl rfl (by simp [ev_eq, sz_put, hsz]) (by decide) ?_
    refine wlN 16 21 false true rfl rfl rfl rfl (by simp [ev_ne, ev_eq, sz_put, hsz]) (by decide) ?_
    refine wlN 16 21 false true rfl rfl rfl rfl (by simp [ev_ne, ev_eq, sz_put, hsz]) (by decide) ?_
    refine wlN 16 21 false true rfl rfl rfl rfl (by simp [ev_ne, ev_eq, sz_put, hsz]) (by decide) ?_
    refine wlN 16 21 false true rfl rfl rfl rfl (by simp [ev_ne, ev_eq, sz_put, hsz]) (by decide) ?_
    refine wlVal rfl rfl (.bool true) (run_pick w _ _ _ _ rfl _ true _ (by simp [ev_ne, ev_eq, sz_put, hsz]) (by simp [ev_const])) ?_
    refine wlVal rfl rfl (.bool true) (run_move w _ _ rfl _ _ (by simp [ev_eq, sz_put, hsz])) ?_
    refine wlN 23 28 false true rfl rfl rfl rfl (by simp [ev_eq, sz_put, hsz]) (by decide) ?_
    refine wlN 23 28 false true rfl rfl rfl rfl (by simp [ev_ne, ev_eq, sz_put, hsz]) (by decide) ?_
    refine wlN 23 28 false true rfl rfl rfl rfl (by simp [ev_ne, ev_eq, sz_put, hsz]) (by decide) ?_
    refine wlN 23 28 false true rfl rfl rfl rfl (by simp [ev_ne, ev_eq, sz_put, hsz]) (by decide) ?_
    refine wlVal rfl rfl (.bool true) (run_pick w _ _ _ _ rfl _ true _ (by simp [ev_ne, ev_eq, sz_put, hsz]) (by simp [ev_const])) ?_
    exact wlDone <| h _ (by simp [sz_put, hsz]) (by simp [def_put, hdf]) (by simp [ev_ne, e1]) (by simp [ev_eq, sz_put, hsz])
  | true =>
    refine wlVal rfl rfl (.bool false) (run_not w _ _ rfl _ true (by simp [ev_eq, sz_put, hsz])) ?_
    refine wlVal rfl rfl (.bool false) (run_move w _ _ rfl _ _ (by simp [ev_eq, sz_put, hsz])) ?_
    refine wlG 4 9 false rfl rfl rfl rfl (by simp [ev_eq, sz_put, hsz]) (.pointer (some ⟨g1, 1, none⟩)) (run_field 1 (by omega) w _ _ rfl _ g1 (by simp [ev_ne, e1])) ?_
    refine wlG 4 9 false rfl rfl rfl rfl (by simp [ev_ne, ev_eq, sz_put, hsz]) (.int .i64 fr) (run_load3 w _ _ rfl _ ⟨g1, 1, none⟩ (by simp [ev_eq, sz_put, hsz]) _ (mv_cell hg1 1 _ y1)) ?_
    refine wlCG 4 9 false rfl rfl rfl rfl (by simp [ev_ne, ev_eq, sz_put, hsz]) 31 #[(.int .i64 fr)] (.bool x1) (run_call1 31 call19 _ _ _ _ rfl _ _ (by simp [ev_eq, sz_put, hsz])) (c1 _) ?_
    cases x1 with
    | false =>
      refine wlG 4 9 false rfl rfl rfl rfl (by simp [ev_ne, ev_eq, sz_put, hsz]) (.bool true) (run_not w _ _ rfl _ false (by simp [ev_eq, sz_put, hsz])) ?_
      refine wlVal rfl rfl (.bool true) (run_pick w _ _ _ _ rfl _ false _ (by simp [ev_ne, ev_eq, sz_put, hsz]) (by simp [ev_eq, sz_put, hsz])) ?_
      refine wlVal rfl rfl (.bool true) (run_move w _ _ rfl _ _ (by simp [ev_eq, sz_put, hsz])) ?_
      refine wlN 10 15 false true rfl rfl rfl rfl (by simp [ev_eq, sz_put, hsz]) (by decide) ?_
      refine wlN 10 15 false true rfl rfl rfl rfl (by simp [ev_ne, ev_eq, sz_put, hsz]) (by decide) ?_
      refine wlN 10 15 false true rfl rfl rfl rfl (by simp [ev_ne, ev_eq, sz_put, hsz]) (by decide) ?_
      refine wlN 10 15 false true rfl rfl rfl rfl (by simp [ev_ne, ev_eq, sz_put, hsz]) (by decide) ?_
      refine wlVal rfl rfl (.bool true) (run_pick w _ _ _ _ rfl _ true _ (by simp [ev_ne, ev_eq, sz_put, hsz]) (by simp [ev_const])) ?_
      refine wlVal rfl rfl (.bool true) (run_move w _ _ rfl _ _ (by simp [ev_eq, sz_put, hsz])) ?_
      refine wlN 16 21 false true rfl rfl rfl rfl (by simp [ev_eq, sz_put, hsz]) (by decide) ?_
      refine wlN 16 21 false true rfl rfl rfl rfl (by simp [ev_ne, ev_eq, sz_put, hsz]) (by decide) ?_
      refine wlN 16 21 false true rfl rfl rfl rfl (by simp [ev_ne, ev_eq, sz_put, hsz]) (by decide) ?_
      refine wlN 16 21 false true rfl rfl rfl rfl (by simp [ev_ne, ev_eq, sz_put, hsz]) (by decide) ?_
      refine wlN 16 21 false true rfl rfl rfl rfl (by simp [ev_ne, ev_eq, sz_put, hsz]) (by decide) ?_
      refine wlVal rfl rfl (.bool true) (run_pick w _ _ _ _ rfl _ true _ (by simp [ev_ne, ev_eq, sz_put, hsz]) (by simp [ev_const])) ?_
      refine wlVal rfl rfl (.bool true) (run_move w _ _ rfl _ _ (by simp [ev_eq, sz_put, hsz])) ?_
      refine wlN 23 28 false true rfl rfl rfl rfl (by simp [ev_eq, sz_put, hsz]) (by decide) ?_
      refine wlN 23 28 false true rfl rfl rfl rfl (by simp [ev_ne, ev_eq, sz_put, hsz]) (by decide) ?_
      refine wlN 23 28 false true rfl rfl rfl rfl (by simp [ev_ne, ev_eq, sz_put, hsz]) (by decide) ?_
      refine wlN 23 28 false true rfl rfl rfl rfl (by simp [ev_ne, ev_eq, sz_put, hsz]) (by decide) ?_
      refine wlVal rfl rfl (.bool true) (run_pick w _ _ _ _ rfl _ true _ (by simp [ev_ne, ev_eq, sz_put, hsz]) (by simp [ev_const])) ?_
      exact wlDone <| h _ (by simp [sz_put, hsz]) (by simp [def_put, hdf]) (by simp [ev_ne, e1]) (by simp [ev_eq, sz_put, hsz])
    | true =>
      refine wlG 4 9 false rfl rfl rfl rfl (by simp [ev_ne, ev_eq, sz_put, hsz]) (.bool false) (run_not w _ _ rfl _ true (by simp [ev_eq, sz_put, hsz])) ?_
      refine wlVal rfl rfl (.bool false) (run_pick w _ _ _ _ rfl _ false _ (by simp [ev_ne, ev_eq, sz_put, hsz]) (by simp [ev_eq, sz_put, hsz])) ?_
      refine wlVal rfl rfl (.bool false) (run_move w _ _ rfl _ _ (by simp [ev_eq, sz_put, hsz])) ?_
      refine wlG 10 15 false rfl rfl rfl rfl (by simp [ev_eq, sz_put, hsz]) (.pointer (some ⟨g1, 3, none⟩)) (run_field 3 (by omega) w _ _ rfl _ g1 (by simp [ev_ne, e1])) ?_
      refine wlG 10 15 false rfl rfl rfl rfl (by simp [ev_ne, ev_eq, sz_put, hsz]) (.int .i64 tw) (run_load3 w _ _ rfl _ ⟨g1, 3, none⟩ (by simp [ev_eq, sz_put, hsz]) _ (mv_cell hg1 3 _ y3)) ?_
      refine wlCG 10 15 false rfl rfl rfl rfl (by simp [ev_ne, ev_eq, sz_put, hsz]) 31 #[(.int .i64 tw)] (.bool x2) (run_call1 31 call19 _ _ _ _ rfl _ _ (by simp [ev_eq, sz_put, hsz])) (c2 _) ?_
      cases x2 with
      | false =>
        refine wlG 10 15 false rfl rfl rfl rfl (by simp [ev_ne, ev_eq, sz_put, hsz]) (.bool true) (run_not w _ _ rfl _ false (by simp [ev_eq, sz_put, hsz])) ?_
        refine wlVal rfl rfl (.bool true) (run_pick w _ _ _ _ rfl _ false _ (by simp [ev_ne, ev_eq, sz_put, hsz]) (by simp [ev_eq, sz_put, hsz])) ?_
        refine wlVal rfl rfl (.bool true) (run_move w _ _ rfl _ _ (by simp [ev_eq, sz_put, hsz])) ?_
        refine wlN 16 21 false true rfl rfl rfl rfl (by simp [ev_eq, sz_put, hsz]) (by decide) ?_
        refine wlN 16 21 false true rfl rfl rfl rfl (by simp [ev_ne, ev_eq, sz_put, hsz]) (by decide) ?_
        refine wlN 16 21 false true rfl rfl rfl rfl (by simp [ev_ne, ev_eq, sz_put, hsz]) (by decide) ?_
        refine wlN 16 21 false true rfl rfl rfl rfl (by simp [ev_ne, ev_eq, sz_put, hsz]) (by decide) ?_
        refine wlN 16 21 false true rfl rfl rfl rfl (by simp [ev_ne, ev_eq, sz_put, hsz]) (by decide) ?_
        refine wlVal rfl rfl (.bool true) (run_pick w _ _ _ _ rfl _ true _ (by simp [ev_ne, ev_eq, sz_put, hsz]) (by simp [ev_const])) ?_
        refine wlVal rfl rfl (.bool true) (run_move w _ _ rfl _ _ (by simp [ev_eq, sz_put, hsz])) ?_
        refine wlN 23 28 false true rfl rfl rfl rfl (by simp [ev_eq, sz_put, hsz]) (by decide) ?_
        refine wlN 23 28 false true rfl rfl rfl rfl (by simp [ev_ne, ev_eq, sz_put, hsz]) (by decide) ?_
        refine wlN 23 28 false true rfl rfl rfl rfl (by simp [ev_ne, ev_eq, sz_put, hsz]) (by decide) ?_
        refine wlN 23 28 false true rfl rfl rfl rfl (by simp [ev_ne, ev_eq, sz_put, hsz]) (by decide) ?_
        refine wlVal rfl rfl (.bool true) (run_pick w _ _ _ _ rfl _ true _ (by simp [ev_ne, ev_eq, sz_put, hsz]) (by simp [ev_const])) ?_
        exact wlDone <| h _ (by simp [sz_put, hsz]) (by simp [def_put, hdf]) (by simp [ev_ne, e1]) (by simp [ev_eq, sz_put, hsz])
      | true =>
        refine wlG 10 15 false rfl rfl rfl rfl (by simp [ev_ne, ev_eq, sz_put, hsz]) (.bool false) (run_not w _ _ rfl _ true (by simp [ev_eq, sz_put, hsz])) ?_
        refine wlVal rfl rfl (.bool false) (run_pick w _ _ _ _ rfl _ false _ (by simp [ev_ne, ev_eq, sz_put, hsz]) (by simp [ev_eq, sz_put, hsz])) ?_
        refine wlVal rfl rfl (.bool false) (run_move w _ _ rfl _ _ (by simp [ev_eq, sz_put, hsz])) ?_
        refine wlG 16 21 false rfl rfl rfl rfl (by simp [ev_eq, sz_put, hsz]) (.pointer (some ⟨g1, 1, none⟩)) (run_field 1 (by omega) w _ _ rfl _ g1 (by simp [ev_ne, e1])) ?_
        refine wlG 16 21 false rfl rfl rfl rfl (by simp [ev_ne, ev_eq, sz_put, hsz]) (.int .i64 fr) (run_load3 w _ _ rfl _ ⟨g1, 1, none⟩ (by simp [ev_eq, sz_put, hsz]) _ (mv_cell hg1 1 _ y1)) ?_
        refine wlG 16 21 false rfl rfl rfl rfl (by simp [ev_ne, ev_eq, sz_put, hsz]) (.pointer (some ⟨g1, 3, none⟩)) (run_field 3 (by omega) w _ _ rfl _ g1 (by simp [ev_ne, e1])) ?_
        refine wlG 16 21 false rfl rfl rfl rfl (by simp [ev_ne, ev_eq, sz_put, hsz]) (.int .i64 tw) (run_load3 w _ _ rfl _ ⟨g1, 3, none⟩ (by simp [ev_eq, sz_put, hsz]) _ (mv_cell hg1 3 _ y3)) ?_
        refine wlG 16 21 false rfl rfl rfl rfl (by simp [ev_ne, ev_eq, sz_put, hsz]) (.bool (fr == tw)) (run_eql3 w _ _ _ rfl _ fr tw (by simp [ev_ne, ev_eq, sz_put, hsz]) (by simp [ev_eq, sz_put, hsz])) ?_
        generalize he : (fr == tw) = z at *
        cases z with
        | false =>
          refine wlVal rfl rfl (.bool false) (run_pick w _ _ _ _ rfl _ false _ (by simp [ev_ne, ev_eq, sz_put, hsz]) (by simp [ev_eq, sz_put, hsz])) ?_
          refine wlVal rfl rfl (.bool false) (run_move w _ _ rfl _ _ (by simp [ev_eq, sz_put, hsz])) ?_
          refine wlG 23 28 false rfl rfl rfl rfl (by simp [ev_eq, sz_put, hsz]) (.pointer (some ⟨g1, 2, none⟩)) (run_field 2 (by omega) w _ _ rfl _ g1 (by simp [ev_ne, e1])) ?_
          refine wlG 23 28 false rfl rfl rfl rfl (by simp [ev_ne, ev_eq, sz_put, hsz]) (.int .i64 fi) (run_load3 w _ _ rfl _ ⟨g1, 2, none⟩ (by simp [ev_eq, sz_put, hsz]) _ (mv_cell hg1 2 _ y2)) ?_
          refine wlCG 23 28 false rfl rfl rfl rfl (by simp [ev_ne, ev_eq, sz_put, hsz]) 32 #[(.int .i64 fi)] (.bool x4) (run_call1 32 call20 _ _ _ _ rfl _ _ (by simp [ev_eq, sz_put, hsz])) (c4 _) ?_
          cases x4 with
          | false =>
            refine wlG 23 28 false rfl rfl rfl rfl (by simp [ev_ne, ev_eq, sz_put, hsz]) (.bool true) (run_not w _ _ rfl _ false (by simp [ev_eq, sz_put, hsz])) ?_
            refine wlVal rfl rfl (.bool true) (run_pick w _ _ _ _ rfl _ false _ (by simp [ev_ne, ev_eq, sz_put, hsz]) (by simp [ev_eq, sz_put, hsz])) ?_
            exact wlDone <| h _ (by simp [sz_put, hsz]) (by simp [def_put, hdf]) (by simp [ev_ne, e1]) (by simp [ev_eq, sz_put, hsz])
          | true =>
            refine wlG 23 28 false rfl rfl rfl rfl (by simp [ev_ne, ev_eq, sz_put, hsz]) (.bool false) (run_not w _ _ rfl _ true (by simp [ev_eq, sz_put, hsz])) ?_
            refine wlVal rfl rfl (.bool false) (run_pick w _ _ _ _ rfl _ false _ (by simp [ev_ne, ev_eq, sz_put, hsz]) (by simp [ev_eq, sz_put, hsz])) ?_
            exact wlDone <| h _ (by simp [sz_put, hsz]) (by simp [def_put, hdf]) (by simp [ev_ne, e1]) (by simp [ev_eq, sz_put, hsz])
        | true =>
          refine wlVal rfl rfl (.bool true) (run_pick w _ _ _ _ rfl _ false _ (by simp [ev_ne, ev_eq, sz_put, hsz]) (by simp [ev_eq, sz_put, hsz])) ?_
          refine wlVal rfl rfl (.bool true) (run_move w _ _ rfl _ _ (by simp [ev_eq, sz_put, hsz])) ?_
          refine wlN 23 28 false true rfl rfl rfl rfl (by simp [ev_eq, sz_put, hsz]) (by decide) ?_
          refine wlN 23 28 false true rfl rfl rfl rfl (by simp [ev_ne, ev_eq, sz_put, hsz]) (by decide) ?_
          refine wlN 23 28 false true rfl rfl rfl rfl (by simp [ev_ne, ev_eq, sz_put, hsz]) (by decide) ?_
          refine wlN 23 28 false true rfl rfl rfl rfl (by simp [ev_ne, ev_eq, sz_put, hsz]) (by decide) ?_
          refine wlVal rfl rfl (.bool true) (run_pick w _ _ _ _ rfl _ true _ (by simp [ev_ne, ev_eq, sz_put, hsz]) (by simp [ev_const])) ?_
          exact wlDone <| h _ (by simp [sz_put, hsz]) (by simp [def_put, hdf]) (by simp [ev_ne, e1]) (by simp [ev_eq, sz_put, hsz])
def r2_0 (p : String) : Oper := { dst := some 2, op := Op.assign (Operand.const (Value.bool false)), type := 4, pos := p, after := #[], guard := none }
def r2 (p : String) : Array Oper := #[r2_0 p]
set_option maxRecDepth 100000 in
set_option maxHeartbeats 1000000 in
theorem reg2 {Q : Exit → Act → World → Prop} (id : Nat) (p : String) (a : Act) (w : World) (hsz : a.tmps.size = 347) (h : ∀ a', a'.defers = a.defers → a'.eval (.tmp 2) = .bool false → Q .normal a' w) :
    (Code.region id (r2 p) false).wp Try.prog Q a w := by
  refine wlStart (l := [r2_0 p]) rfl ?_
  refine wlVal rfl rfl (.bool false) (run_assign _ _ _ rfl _ _ (by simp [ev_const])) ?_
  exact wlDone <| h _ (by simp [def_put]) (by simp [ev_eq, hsz])
def r3_0 (p : String) : Oper := { dst := some 34, op := Op.fieldAddr 24 (Operand.tmp 1) 0, type := 0, pos := p, after := #[], guard := none }
def r3_1 (p : String) : Oper := { dst := some 35, op := Op.load 3 (Operand.tmp 34), type := 3, pos := p, after := #[{ on := 0, ground := Ground.data }], guard := none }
def r3_2 (p : String) : Oper := { dst := some 36, op := Op.fieldAddr 24 (Operand.tmp 1) 1, type := 0, pos := p, after := #[], guard := none }
def r3_3 (p : String) : Oper := { dst := some 37, op := Op.load 3 (Operand.tmp 36), type := 3, pos := p, after := #[{ on := 2, ground := Ground.data }], guard := none }
def r3_4 (p : String) : Oper := { dst := some 38, op := Op.fieldAddr 24 (Operand.tmp 1) 2, type := 0, pos := p, after := #[], guard := none }
def r3_5 (p : String) : Oper := { dst := some 39, op := Op.load 3 (Operand.tmp 38), type := 3, pos := p, after := #[{ on := 4, ground := Ground.data }], guard := none }
def r3_6 (p : String) : Oper := { dst := some 40, op := Op.fieldAddr 24 (Operand.tmp 1) 3, type := 0, pos := p, after := #[], guard := none }
def r3_7 (p : String) : Oper := { dst := some 41, op := Op.load 3 (Operand.tmp 40), type := 3, pos := p, after := #[{ on := 6, ground := Ground.data }], guard := none }
def r3_8 (p : String) : Oper := { dst := some 42, op := Op.fieldAddr 24 (Operand.tmp 1) 4, type := 0, pos := p, after := #[], guard := none }
def r3_9 (p : String) : Oper := { dst := some 43, op := Op.load 3 (Operand.tmp 42), type := 3, pos := p, after := #[{ on := 8, ground := Ground.data }], guard := none }
def r3_10 (p : String) : Oper := { dst := some 44, op := Op.fieldAddr 24 (Operand.tmp 1) 5, type := 0, pos := p, after := #[], guard := none }
def r3_11 (p : String) : Oper := { dst := some 45, op := Op.load 3 (Operand.tmp 44), type := 3, pos := p, after := #[{ on := 10, ground := Ground.data }], guard := none }
def r3_12 (p : String) : Oper := { dst := some 46, op := Op.build 24 #[(0, Operand.tmp 35), (1, Operand.tmp 37), (2, Operand.tmp 39), (3, Operand.tmp 41), (4, Operand.tmp 43), (5, Operand.tmp 45)], type := 24, pos := p, after := #[{ on := 1, ground := Ground.data }, { on := 3, ground := Ground.data }, { on := 5, ground := Ground.data }, { on := 7, ground := Ground.data }, { on := 9, ground := Ground.data }, { on := 11, ground := Ground.data }], guard := none }
def r3_13 (p : String) : Oper := { dst := some 3, op := Op.alloc 24, type := 0, pos := p, after := #[], guard := none }
def r3_14 (p : String) : Oper := { dst := none, op := Op.store 24 (Operand.tmp 3) (Operand.tmp 46), type := 0, pos := p, after := #[{ on := 13, ground := Ground.data }, { on := 12, ground := Ground.data }, { on := 0, ground := Ground.phase }, { on := 1, ground := Ground.phase }, { on := 2, ground := Ground.phase }, { on := 3, ground := Ground.phase }, { on := 4, ground := Ground.phase }, { on := 5, ground := Ground.phase }, { on := 6, ground := Ground.phase }, { on := 7, ground := Ground.phase }, { on := 8, ground := Ground.phase }, { on := 9, ground := Ground.phase }, { on := 10, ground := Ground.phase }, { on := 11, ground := Ground.phase }, { on := 12, ground := Ground.phase }, { on := 13, ground := Ground.phase }], guard := none }
def r3 (p : String) : Array Oper := #[r3_0 p, r3_1 p, r3_2 p, r3_3 p, r3_4 p, r3_5 p, r3_6 p, r3_7 p, r3_8 p, r3_9 p, r3_10 p, r3_11 p, r3_12 p, r3_13 p, r3_14 p]
set_option maxRecDepth 100000 in
set_option maxHeartbeats 1000000 in
theorem reg3 {Q : Exit → Act → World → Prop} (id : Nat) (p : String) (a : Act) (w : World) (g1 : Nat) (cs : Array Value) (kd fr fi tw ti tp : Int) (hsz : a.tmps.size = 347) (hdf : a.defers = []) (e1 : a.eval (.tmp 1) = .pointer (some ⟨g1, 0, none⟩)) (hg1 : w.heap[g1]? = some (.cells cs 24)) (y0 : cs[0]? = some (.int .i64 kd)) (y1 : cs[1]? = some (.int .i64 fr)) (y2 : cs[2]? = some (.int .i64 fi)) (y3 : cs[3]? = some (.int .i64 tw)) (y4 : cs[4]? = some (.int .i64 ti)) (y5 : cs[5]? = some (.int .i64 tp))
    (h : ∀ a', Fa a' g1 w.heap.size → Q .normal a' (w.alloc (.cells #[.int .i64 kd, .int .i64 fr, .int .i64 fi, .int .i64 tw, .int .i64 ti, .int .i64 tp, .int .i64 0, .int .i64 0, .int .i64 0, .int .i64 0, .int .i64 0, .int .i64 0, .int .i64 0, .int .i64 0, .slice none 0 0, .slice none 0 0] 24))) :
    (Code.region id (r3 p) false).wp Try.prog Q a w := by
  refine wlStart (l := [r3_0 p, r3_1 p, r3_2 p, r3_3 p, r3_4 p, r3_5 p, r3_6 p, r3_7 p, r3_8 p, r3_9 p, r3_10 p, r3_11 p, r3_12 p, r3_13 p, r3_14 p]) rfl ?_
  refine wlVal rfl rfl (.pointer (some ⟨g1, 0, none⟩)) (run_field 0 (by omega) w _ _ rfl _ g1 (by simp [e1])) ?_
  refine wlVal rfl rfl (.int .i64 kd) (run_load3 w _ _ rfl _ ⟨g1, 0, none⟩ (by simp [ev_eq, hsz]) _ (mv_cell hg1 0 _ y0)) ?_
  refine wlVal rfl rfl (.pointer (some ⟨g1, 1, none⟩)) (run_field 1 (by omega) w _ _ rfl _ g1 (by simp [ev_ne, e1])) ?_
  refine wlVal rfl rfl (.int .i64 fr) (run_load3 w _ _ rfl _ ⟨g1, 1, none⟩ (by simp [ev_eq, sz_put, hsz]) _ (mv_cell hg1 1 _ y1)) ?_
  refine wlVal rfl rfl (.pointer (some ⟨g1, 2, none⟩)) (run_field 2 (by omega) w _ _ rfl _ g1 (by simp [ev_ne, e1])) ?_
  refine wlVal rfl rfl (.int .i64 fi) (run_load3 w _ _ rfl _ ⟨g1, 2, none⟩ (by simp [ev_eq, sz_put, hsz]) _ (mv_cell hg1 2 _ y2)) ?_
  refine wlVal rfl rfl (.pointer (some ⟨g1, 3, none⟩)) (run_field 3 (by omega) w _ _ rfl _ g1 (by simp [ev_ne, e1])) ?_
  refine wlVal rfl rfl (.int .i64 tw) (run_load3 w _ _ rfl _ ⟨g1, 3, none⟩ (by simp [ev_eq, sz_put, hsz]) _ (mv_cell hg1 3 _ y3)) ?_
  refine wlVal rfl rfl (.pointer (some ⟨g1, 4, none⟩)) (run_field 4 (by omega) w _ _ rfl _ g1 (by simp [ev_ne, e1])) ?_
  refine wlVal rfl rfl (.int .i64 ti) (run_load3 w _ _ rfl _ ⟨g1, 4, none⟩ (by simp [ev_eq, sz_put, hsz]) _ (mv_cell hg1 4 _ y4)) ?_
  refine wlVal rfl rfl (.pointer (some ⟨g1, 5, none⟩)) (run_field 5 (by omega) w _ _ rfl _ g1 (by simp [ev_ne, e1])) ?_
  refine wlVal rfl rfl (.int .i64 tp) (run_load3 w _ _ rfl _ ⟨g1, 5, none⟩ (by simp [ev_eq, sz_put, hsz]) _ (mv_cell hg1 5 _ y5)) ?_
  refine wlBuilt rfl rfl 24 _ rfl [(0, .int .i64 kd), (1, .int .i64 fr), (2, .int .i64 fi), (3, .int .i64 tw), (4, .int .i64 ti), (5, .int .i64 tp)] #[.int .i64 kd, .int .i64 fr, .int .i64 fi, .int .i64 tw, .int .i64 ti, .int .i64 tp, .int .i64 0, .int .i64 0, .int .i64 0, .int .i64 0, .int .i64 0, .int .i64 0, .int .i64 0, .int .i64 0, .slice none 0 0, .slice none 0 0] (by simp [ev_ne, ev_eq, sz_put, hsz]) (by kernel_rfl) ?_
  refine wlValw rfl rfl _ (run_alloc24 _ _ rfl _) ?_
  refine wlLast rfl rfl (.tmp 3) (.tmp 46) rfl w.heap.size #[.int .i64 kd, .int .i64 fr, .int .i64 fi, .int .i64 tw, .int .i64 ti, .int .i64 tp, .int .i64 0, .int .i64 0, .int .i64 0, .int .i64 0, .int .i64 0, .int .i64 0, .int .i64 0, .int .i64 0, .slice none 0 0, .slice none 0 0] (by simp [ev_eq, sz_put, hsz]) (by simp [ev_ne, ev_eq, sz_put, hsz]) rfl zero16 rfl rfl (by simp [Value.oneCell']) ?_
  exact wlDone <| h _ ⟨by simp [sz_put, hsz], by simp [def_put, hdf], by simp [ev_ne, e1], by simp [ev_eq, sz_put, hsz]⟩
end Go.Proofs.Ytmcmiojidgdjpaa
namespace Go.Proofs.Ytmcmiojidgdjpaa
open Go.RowKit

def r4_0 (p : String) : Oper := { dst := some 47, op := Op.fieldAddr 24 (Operand.tmp 1) 0, type := 0, pos := p, after := #[], guard := none }
def r4_1 (p : String) : Oper := { dst := some 48, op := Op.load 3 (Operand.tmp 47), type := 3, pos := p, after := #[{ on := 0, ground := Ground.data }], guard := none }
def r4_2 (p : String) : Oper := { dst := some 49, op := Op.binOp BinOp.eql 3 (Operand.tmp 48) (Operand.const (Value.int IntKind.i64 1)) 3, type := 4, pos := p, after := #[{ on := 1, ground := Ground.data }], guard := none }
def r4 (p : String) : Array Oper := #[r4_0 p, r4_1 p, r4_2 p]
set_option maxRecDepth 100000 in
set_option maxHeartbeats 1000000 in
theorem reg4 {Q : Exit → Act → World → Prop} (id : Nat) (p : String) (a : Act) (w : World) (g1 g3 : Nat) (cs : Array Value) (kd : Int)
    (f : Fa a g1 g3) (hg1 : w.heap[g1]? = some (.cells cs 24)) (y0 : cs[0]? = some (.int .i64 kd)) 
    (h : ∀ a', Fa a' g1 g3 → a'.eval (.tmp 49) = .bool (kd == 1) → Q .normal a' w) :
    (Code.region id (r4 p) false).wp Try.prog Q a w := by
  have hsz := f.sz
  have hdf := f.df
  have e1 := f.e1
  have e3 := f.e3
  refine wlStart (l := [r4_0 p, r4_1 p, r4_2 p]) rfl ?_
  refine wlVal rfl rfl (.pointer (some ⟨g1, 0, none⟩)) (run_field 0 (by omega) w _ _ rfl _ g1 (by simp [e1])) ?_
  refine wlVal rfl rfl (.int .i64 kd) (run_load3 w _ _ rfl _ ⟨g1, 0, none⟩ (by simp [ev_eq, hsz]) _ (mv_cell hg1 0 _ y0)) ?_
  refine wlVal rfl rfl (.bool (kd == 1)) (run_eql3 w _ _ _ rfl _ kd 1 (by simp [ev_eq, sz_put, hsz]) (by simp [ev_const])) ?_
  exact wlDone <| h _ ⟨by simp [sz_put, hsz], by simp [def_put, hdf], by simp [ev_ne, e1], by simp [ev_ne, e3]⟩ (by simp [ev_eq, sz_put, hsz])
def r5_0 (p : String) : Oper := { dst := some 50, op := Op.fieldAddr 24 (Operand.tmp 3) 4, type := 0, pos := p, after := #[], guard := none }
def r5_1 (p : String) : Oper := { dst := none, op := Op.store 3 (Operand.tmp 50) (Operand.const (Value.int IntKind.i64 0)), type := 0, pos := p, after := #[{ on := 0, ground := Ground.data }], guard := none }
def r5_2 (p : String) : Oper := { dst := some 51, op := Op.fieldAddr 24 (Operand.tmp 3) 5, type := 0, pos := p, after := #[{ on := 0, ground := Ground.phase }, { on := 1, ground := Ground.phase }], guard := none }
def r5_3 (p : String) : Oper := { dst := none, op := Op.store 3 (Operand.tmp 51) (Operand.const (Value.int IntKind.i64 0)), type := 0, pos := p, after := #[{ on := 2, ground := Ground.data }, { on := 1, ground := Ground.chain }, { on := 0, ground := Ground.phase }, { on := 1, ground := Ground.phase }], guard := none }
def r5 (p : String) : Array Oper := #[r5_0 p, r5_1 p, r5_2 p, r5_3 p]
set_option maxRecDepth 100000 in
set_option maxHeartbeats 1000000 in
theorem reg5 {Q : Exit → Act → World → Prop} (id : Nat) (p : String) (a : Act) (w : World) (g1 g3 : Nat) (ds : Array Value)
    (f : Fa a g1 g3) (hg3 : w.heap[g3]? = some (.cells ds 24)) (hd : ds.size = 16) 
    (h : ∀ a' w', Fa a' g1 g3 → Below g3 w w' → w'.heap[g3]? = some (.cells ((ds.setIfInBounds 4 (.int .i64 0)).setIfInBounds 5 (.int .i64 0)) 24) → Q .normal a' w') :
    (Code.region id (r5 p) false).wp Try.prog Q a w := by
  have hsz := f.sz
  have hdf := f.df
  have e1 := f.e1
  have e3 := f.e3
  refine wlStart (l := [r5_0 p, r5_1 p, r5_2 p, r5_3 p]) rfl ?_
  refine wlVal rfl rfl (.pointer (some ⟨g3, 4, none⟩)) (run_field 4 (by omega) w _ _ rfl _ g3 (by simp [e3])) ?_
  obtain ⟨u0, hu0⟩ : ∃ u, (ds)[4]? = some u := by simp [hd]
  refine wlStore rfl rfl (run_store3 _ _ _ _ rfl _ ⟨g3, 4, none⟩ (by simp [ev_eq, hsz]) 0 (by simp [ev_const]) u0 (mv_cell hg3 4 _ hu0) (frozen_of_row _ g3 4 _ _ hg3)) ?_
  have hx1 := heap_setCell_same w g3 4 _ _ (.int .i64 0) hg3
  have bx1 := (Below.refl g3 w).setCell (p := ⟨g3, 4, none⟩) (Nat.le_refl _) (.int .i64 0)
  refine wlVal rfl rfl (.pointer (some ⟨g3, 5, none⟩)) (run_field 5 (by omega) (w.setCell ⟨g3, 4, none⟩ (.int .i64 0)) _ _ rfl _ g3 (by simp [ev_ne, e3])) ?_
  obtain ⟨u1, hu1⟩ : ∃ u, ((ds).setIfInBounds 4 (.int .i64 0))[5]? = some u := by simp [hd]
  refine wlStore rfl rfl (run_store3 _ _ _ _ rfl _ ⟨g3, 5, none⟩ (by simp [ev_eq, sz_put, hsz]) 0 (by simp [ev_const]) u1 (mv_cell hx1 5 _ hu1) (frozen_of_row _ g3 5 _ _ hx1)) ?_
  have hx2 := heap_setCell_same (w.setCell ⟨g3, 4, none⟩ (.int .i64 0)) g3 5 _ _ (.int .i64 0) hx1
  have bx2 := bx1.setCell (p := ⟨g3, 5, none⟩) (Nat.le_refl _) (.int .i64 0)
  exact wlDone <| h _ _ ⟨by simp [sz_put, hsz], by simp [def_put, hdf], by simp [ev_ne, e1], by simp [ev_ne, e3]⟩ bx2 hx2
def r6_0 (p : String) : Oper := { dst := some 52, op := Op.fieldAddr 24 (Operand.tmp 1) 4, type := 0, pos := p, after := #[], guard := none }
def r6_1 (p : String) : Oper := { dst := some 53, op := Op.load 3 (Operand.tmp 52), type := 3, pos := p, after := #[{ on := 0, ground := Ground.data }], guard := none }
def r6_2 (p : String) : Oper := { dst := some 54, op := Op.call { callee := Callee.value (Operand.func 32), args := #[Operand.tmp 53], argTypes := #[3] }, type := 4, pos := p, after := #[{ on := 1, ground := Ground.data }], guard := none }
def r6_3 (p : String) : Oper := { dst := some 55, op := Op.unOp UnOp.not 4 (Operand.tmp 54), type := 4, pos := p, after := #[{ on := 2, ground := Ground.data }], guard := none }
def r6_4 (p : String) : Oper := { dst := some 56, op := Op.move (Operand.tmp 55), type := 4, pos := p, after := #[{ on := 3, ground := Ground.data }, { on := 2, ground := Ground.chain }], guard := none }
def r6_5 (p : String) : Oper := { dst := some 57, op := Op.fieldAddr 24 (Operand.tmp 1) 5, type := 0, pos := p, after := #[{ on := 4, ground := Ground.guard }], guard := some (4, false) }
def r6_6 (p : String) : Oper := { dst := some 58, op := Op.load 3 (Operand.tmp 57), type := 3, pos := p, after := #[{ on := 5, ground := Ground.data }, { on := 4, ground := Ground.guard }], guard := some (4, false) }
def r6_7 (p : String) : Oper := { dst := some 59, op := Op.call { callee := Callee.value (Operand.func 33), args := #[Operand.tmp 58], argTypes := #[3] }, type := 4, pos := p, after := #[{ on := 6, ground := Ground.data }, { on := 4, ground := Ground.chain }, { on := 4, ground := Ground.guard }], guard := some (4, false) }
def r6_8 (p : String) : Oper := { dst := some 60, op := Op.unOp UnOp.not 4 (Operand.tmp 59), type := 4, pos := p, after := #[{ on := 7, ground := Ground.data }, { on := 4, ground := Ground.guard }], guard := some (4, false) }
def r6_9 (p : String) : Oper := { dst := some 61, op := Op.pick (Operand.tmp 56) (Operand.const (Value.bool true)) (Operand.tmp 60), type := 4, pos := p, after := #[{ on := 4, ground := Ground.data }, { on := 8, ground := Ground.data }], guard := none }
def r6 (p : String) : Array Oper := #[r6_0 p, r6_1 p, r6_2 p, r6_3 p, r6_4 p, r6_5 p, r6_6 p, r6_7 p, r6_8 p, r6_9 p]
set_option maxRecDepth 100000 in
set_option maxHeartbeats 1000000 in
theorem reg6 {Q : Exit → Act → World → Prop} (id : Nat) (p : String) (a : Act) (w : World) (g1 g3 : Nat) (cs : Array Value) (ti tp : Int) (x0 x1 : Bool)
    (f : Fa a g1 g3) (hg1 : w.heap[g1]? = some (.cells cs 24)) (y4 : cs[4]? = some (.int .i64 ti)) (y5 : cs[5]? = some (.int .i64 tp)) (c0 : ∀ w, Calls Try.prog 32 #[.int .i64 ti] w fun e w' => e = .returned (.bool x0) ∧ w' = w) (c1 : ∀ w, Calls Try.prog 33 #[.int .i64 tp] w fun e w' => e = .returned (.bool x1) ∧ w' = w)
    (h : ∀ a', Fa a' g1 g3 → a'.eval (.tmp 61) = .bool (!(x0 && x1)) → Q .normal a' w) :
    (Code.region id (r6 p) false).wp Try.prog Q a w := by
  have hsz := f.sz
  have hdf := f.df
  have e1 := f.e1
  have e3 := f.e3
  refine wlStart (l := [r6_0 p, r6_1 p, r6_2 p, r6_3 p, r6_4 p, r6_5 p, r6_6 p, r6_7 p, r6_8 p, r6_9 p]) rfl ?_
  refine wlVal rfl rfl (.pointer (some ⟨g1, 4, none⟩)) (run_field 4 (by omega) w _ _ rfl _ g1 (by simp [e1])) ?_
  refine wlVal rfl rfl (.int .i64 ti) (run_load3 w _ _ rfl _ ⟨g1, 4, none⟩ (by simp [ev_eq, hsz]) _ (mv_cell hg1 4 _ y4)) ?_
  refine wlC rfl rfl 32 #[(.int .i64 ti)] (.bool x0) (run_call1 32 call20 _ _ _ _ rfl _ _ (by simp [ev_eq, sz_put, hsz])) (c0 _) ?_
  cases x0 with
  | false =>
    refine wlVal rfl rfl (.bool true) (run_not w _ _ rfl _ false (by simp [ev_eq, sz_put, hsz])) ?_
    refine wlVal rfl rfl (.bool true) (run_move w _ _ rfl _ _ (by simp [ev_eq, sz_put, hsz])) ?_
    refine wlN 4 56 false true rfl rfl rfl rfl (by simp [ev_eq, sz_put, hsz]) (by decide) ?_
    refine wlN 4 56 false true rfl rfl rfl rfl (by simp [ev_ne, ev_eq, sz_put, hsz]) (by decide) ?_
    refine wlN 4 56 false true rfl rfl rfl rfl (by simp [ev_ne, ev_eq, sz_put, hsz]) (by decide) ?_
    refine wlN 4 56 false true rfl rfl rfl rfl (by simp [ev_ne, ev_eq, sz_put, hsz]) (by decide) ?_
    refine wlVal rfl rfl (.bool true) (run_pick w _ _ _ _ rfl _ true _ (by simp [ev_ne, ev_eq, sz_put, hsz]) (by simp [ev_const])) ?_
    exact wlDone <| h _ ⟨by simp [sz_put, hsz], by simp [def_put, hdf], by simp [ev_ne, e1], by simp [ev_ne, e3]⟩ (by simp [ev_eq, sz_put, hsz])
  | true =>
    refine wlVal rfl rfl (.bool false) (run_not w _ _ rfl _ true (by simp [ev_eq, sz_put, hsz])) ?_
    refine wlVal rfl rfl (.bool false) (run_move w _ _ rfl _ _ (by simp [ev_eq, sz_put, hsz])) ?_
    refine wlG 4 56 false rfl rfl rfl rfl (by simp [ev_eq, sz_put, hsz]) (.pointer (some ⟨g1, 5, none⟩)) (run_field 5 (by omega) w _ _ rfl _ g1 (by simp [ev_ne, e1])) ?_
    refine wlG 4 56 false rfl rfl rfl rfl (by simp [ev_ne, ev_eq, sz_put, hsz]) (.int .i64 tp) (run_load3 w _ _ rfl _ ⟨g1, 5, none⟩ (by simp [ev_eq, sz_put, hsz]) _ (mv_cell hg1 5 _ y5)) ?_
    refine wlCG 4 56 false rfl rfl rfl rfl (by simp [ev_ne, ev_eq, sz_put, hsz]) 33 #[(.int .i64 tp)] (.bool x1) (run_call1 33 call21 _ _ _ _ rfl _ _ (by simp [ev_eq, sz_put, hsz])) (c1 _) ?_
    cases x1 with
    | false =>
      refine wlG 4 56 false rfl rfl rfl rfl (by simp [ev_ne, ev_eq, sz_put, hsz]) (.bool true) (run_not w _ _ rfl _ false (by simp [ev_eq, sz_put, hsz])) ?_
      refine wlVal rfl rfl (.bool true) (run_pick w _ _ _ _ rfl _ false _ (by simp [ev_ne, ev_eq, sz_put, hsz]) (by simp [ev_eq, sz_put, hsz])) ?_
      exact wlDone <| h _ ⟨by simp [sz_put, hsz], by simp [def_put, hdf], by simp [ev_ne, e1], by simp [ev_ne, e3]⟩ (by simp [ev_eq, sz_put, hsz])
    | true =>
      refine wlG 4 56 false rfl rfl rfl rfl (by simp [ev_ne, ev_eq, sz_put, hsz]) (.bool false) (run_not w _ _ rfl _ true (by simp [ev_eq, sz_put, hsz])) ?_
      refine wlVal rfl rfl (.bool false) (run_pick w _ _ _ _ rfl _ false _ (by simp [ev_ne, ev_eq, sz_put, hsz]) (by simp [ev_eq, sz_put, hsz])) ?_
      exact wlDone <| h _ ⟨by simp [sz_put, hsz], by simp [def_put, hdf], by simp [ev_ne, e1], by simp [ev_ne, e3]⟩ (by simp [ev_eq, sz_put, hsz])
def r7_0 (p : String) : Oper := { dst := some 2, op := Op.assign (Operand.const (Value.bool false)), type := 4, pos := p, after := #[], guard := none }
def r7 (p : String) : Array Oper := #[r7_0 p]
set_option maxRecDepth 100000 in
set_option maxHeartbeats 1000000 in
theorem reg7 {Q : Exit → Act → World → Prop} (id : Nat) (p : String) (a : Act) (w : World) (g1 g3 : Nat)
    (f : Fa a g1 g3) 
    (h : ∀ a', Fa a' g1 g3 → a'.eval (.tmp 2) = .bool false → Q .normal a' w) :
    (Code.region id (r7 p) false).wp Try.prog Q a w := by
  have hsz := f.sz
  have hdf := f.df
  have e1 := f.e1
  have e3 := f.e3
  refine wlStart (l := [r7_0 p]) rfl ?_
  refine wlVal rfl rfl (.bool false) (run_assign w _ _ rfl _ _ (by simp [ev_const])) ?_
  exact wlDone <| h _ ⟨by simp [sz_put, hsz], by simp [def_put, hdf], by simp [ev_ne, e1], by simp [ev_ne, e3]⟩ (by simp [ev_eq, hsz])
def r8_0 (p : String) : Oper := { dst := some 4, op := Op.assign (Operand.const (Value.bool true)), type := 4, pos := p, after := #[], guard := none }
def r8 (p : String) : Array Oper := #[r8_0 p]
set_option maxRecDepth 100000 in
set_option maxHeartbeats 1000000 in
theorem reg8 {Q : Exit → Act → World → Prop} (id : Nat) (p : String) (a : Act) (w : World) (g1 g3 : Nat)
    (f : Fa a g1 g3) 
    (h : ∀ a', Fa a' g1 g3 → a'.eval (.tmp 4) = .bool true → Q .normal a' w) :
    (Code.region id (r8 p) false).wp Try.prog Q a w := by
  have hsz := f.sz
  have hdf := f.df
  have e1 := f.e1
  have e3 := f.e3
  refine wlStart (l := [r8_0 p]) rfl ?_
  refine wlVal rfl rfl (.bool true) (run_assign w _ _ rfl _ _ (by simp [ev_const])) ?_
  exact wlDone <| h _ ⟨by simp [sz_put, hsz], by simp [def_put, hdf], by simp [ev_ne, e1], by simp [ev_ne, e3]⟩ (by simp [ev_eq, hsz])
def r9_0 (p : String) : Oper := { dst := some 62, op := Op.fieldAddr 24 (Operand.tmp 1) 0, type := 0, pos := p, after := #[], guard := none }
def r9_1 (p : String) : Oper := { dst := some 63, op := Op.load 3 (Operand.tmp 62), type := 3, pos := p, after := #[{ on := 0, ground := Ground.data }], guard := none }
def r9 (p : String) : Array Oper := #[r9_0 p, r9_1 p]
set_option maxRecDepth 100000 in
set_option maxHeartbeats 1000000 in
theorem reg9 {Q : Exit → Act → World → Prop} (id : Nat) (p : String) (a : Act) (w : World) (g1 g3 : Nat) (cs : Array Value) (kd : Int)
    (f : Fa a g1 g3) (e4 : a.eval (.tmp 4) = .bool true) (hg1 : w.heap[g1]? = some (.cells cs 24)) (y0 : cs[0]? = some (.int .i64 kd)) 
    (h : ∀ a', Fr a' g1 g3 true kd → Q .normal a' w) :
    (Code.region id (r9 p) false).wp Try.prog Q a w := by
  have hsz := f.sz
  have hdf := f.df
  have e1 := f.e1
  have e3 := f.e3
  refine wlStart (l := [r9_0 p, r9_1 p]) rfl ?_
  refine wlVal rfl rfl (.pointer (some ⟨g1, 0, none⟩)) (run_field 0 (by omega) w _ _ rfl _ g1 (by simp [e1])) ?_
  refine wlVal rfl rfl (.int .i64 kd) (run_load3 w _ _ rfl _ ⟨g1, 0, none⟩ (by simp [ev_eq, hsz]) _ (mv_cell hg1 0 _ y0)) ?_
  exact wlDone <| h _ ⟨⟨by simp [sz_put, hsz], by simp [def_put, hdf], by simp [ev_ne, e1], by simp [ev_ne, e3]⟩, by simp [ev_ne, e4], by simp [ev_eq, sz_put, hsz]⟩
def r10_0 (p : String) : Oper := { dst := some 65, op := Op.binOp BinOp.eql 3 (Operand.tmp 63) (Operand.const (Value.int IntKind.i64 2)) 3, type := 4, pos := p, after := #[], guard := none }
def r10_1 (p : String) : Oper := { dst := some 64, op := Op.assign (Operand.tmp 65), type := 4, pos := p, after := #[{ on := 0, ground := Ground.data }], guard := none }
def r10 (p : String) : Array Oper := #[r10_0 p, r10_1 p]
set_option maxRecDepth 100000 in
set_option maxHeartbeats 1000000 in
theorem reg10 {Q : Exit → Act → World → Prop} (id : Nat) (p : String) (a : Act) (w : World) (g1 g3 : Nat) (o : Bool) (kd : Int)
    (f : Fr a g1 g3 o kd) 
    (h : ∀ a', Fr a' g1 g3 o kd → a'.eval (.tmp 64) = .bool (kd == 2) → Q .normal a' w) :
    (Code.region id (r10 p) false).wp Try.prog Q a w := by
  have hsz := f.fa.sz
  have hdf := f.fa.df
  have e1 := f.fa.e1
  have e3 := f.fa.e3
  have e4 := f.e4
  have ek := f.ek
  refine wlStart (l := [r10_0 p, r10_1 p]) rfl ?_
  refine wlVal rfl rfl (.bool (kd == 2)) (run_eql3 w _ _ _ rfl _ kd 2 (by simp [ek]) (by simp [ev_const])) ?_
  refine wlVal rfl rfl (.bool (kd == 2)) (run_assign w _ _ rfl _ _ (by simp [ev_eq, hsz])) ?_
  exact wlDone <| h _ ⟨⟨by simp [sz_put, hsz], by simp [def_put, hdf], by simp [ev_ne, e1], by simp [ev_ne, e3]⟩, by simp [ev_ne, e4], by simp [ev_ne, ek]⟩ (by simp [ev_eq, sz_put, hsz])
def r13_0 (p : String) : Oper := { dst := some 73, op := Op.binOp BinOp.eql 3 (Operand.tmp 63) (Operand.const (Value.int IntKind.i64 3)) 3, type := 4, pos := p, after := #[], guard := none }
def r13_1 (p : String) : Oper := { dst := some 72, op := Op.assign (Operand.tmp 73), type := 4, pos := p, after := #[{ on := 0, ground := Ground.data }], guard := none }
def r13 (p : String) : Array Oper := #[r13_0 p, r13_1 p]
set_option maxRecDepth 100000 in
set_option maxHeartbeats 1000000 in
theorem reg13 {Q : Exit → Act → World → Prop} (id : Nat) (p : String) (a : Act) (w : World) (g1 g3 : Nat) (o : Bool) (kd : Int)
    (f : Fr a g1 g3 o kd) 
    (h : ∀ a', Fr a' g1 g3 o kd → a'.eval (.tmp 72) = .bool (kd == 3) → Q .normal a' w) :
    (Code.region id (r13 p) false).wp Try.prog Q a w := by
  have hsz := f.fa.sz
  have hdf := f.fa.df
  have e1 := f.fa.e1
  have e3 := f.fa.e3
  have e4 := f.e4
  have ek := f.ek
  refine wlStart (l := [r13_0 p, r13_1 p]) rfl ?_
  refine wlVal rfl rfl (.bool (kd == 3)) (run_eql3 w _ _ _ rfl _ kd 3 (by simp [ek]) (by simp [ev_const])) ?_
  refine wlVal rfl rfl (.bool (kd == 3)) (run_assign w _ _ rfl _ _ (by simp [ev_eq, hsz])) ?_
  exact wlDone <| h _ ⟨⟨by simp [sz_put, hsz], by simp [def_put, hdf], by simp [ev_ne, e1], by simp [ev_ne, e3]⟩, by simp [ev_ne, e4], by simp [ev_ne, ek]⟩ (by simp [ev_eq, sz_put, hsz])
def r16_0 (p : String) : Oper := { dst := some 125, op := Op.binOp BinOp.eql 3 (Operand.tmp 63) (Operand.const (Value.int IntKind.i64 4)) 3, type := 4, pos := p, after := #[], guard := none }
def r16_1 (p : String) : Oper := { dst := some 124, op := Op.assign (Operand.tmp 125), type := 4, pos := p, after := #[{ on := 0, ground := Ground.data }], guard := none }
def r16 (p : String) : Array Oper := #[r16_0 p, r16_1 p]
set_option maxRecDepth 100000 in
set_option maxHeartbeats 1000000 in
theorem reg16 {Q : Exit → Act → World → Prop} (id : Nat) (p : String) (a : Act) (w : World) (g1 g3 : Nat) (o : Bool) (kd : Int)
    (f : Fr a g1 g3 o kd) 
    (h : ∀ a', Fr a' g1 g3 o kd → a'.eval (.tmp 124) = .bool (kd == 4) → Q .normal a' w) :
    (Code.region id (r16 p) false).wp Try.prog Q a w := by
  have hsz := f.fa.sz
  have hdf := f.fa.df
  have e1 := f.fa.e1
  have e3 := f.fa.e3
  have e4 := f.e4
  have ek := f.ek
  refine wlStart (l := [r16_0 p, r16_1 p]) rfl ?_
  refine wlVal rfl rfl (.bool (kd == 4)) (run_eql3 w _ _ _ rfl _ kd 4 (by simp [ek]) (by simp [ev_const])) ?_
  refine wlVal rfl rfl (.bool (kd == 4)) (run_assign w _ _ rfl _ _ (by simp [ev_eq, hsz])) ?_
  exact wlDone <| h _ ⟨⟨by simp [sz_put, hsz], by simp [def_put, hdf], by simp [ev_ne, e1], by simp [ev_ne, e3]⟩, by simp [ev_ne, e4], by simp [ev_ne, ek]⟩ (by simp [ev_eq, sz_put, hsz])
def r19_0 (p : String) : Oper := { dst := some 147, op := Op.binOp BinOp.eql 3 (Operand.tmp 63) (Operand.const (Value.int IntKind.i64 7)) 3, type := 4, pos := p, after := #[], guard := none }
def r19_1 (p : String) : Oper := { dst := some 146, op := Op.assign (Operand.tmp 147), type := 4, pos := p, after := #[{ on := 0, ground := Ground.data }], guard := none }
def r19 (p : String) : Array Oper := #[r19_0 p, r19_1 p]
set_option maxRecDepth 100000 in
set_option maxHeartbeats 1000000 in
theorem reg19 {Q : Exit → Act → World → Prop} (id : Nat) (p : String) (a : Act) (w : World) (g1 g3 : Nat) (o : Bool) (kd : Int)
    (f : Fr a g1 g3 o kd) 
    (h : ∀ a', Fr a' g1 g3 o kd → a'.eval (.tmp 146) = .bool (kd == 7) → Q .normal a' w) :
    (Code.region id (r19 p) false).wp Try.prog Q a w := by
  have hsz := f.fa.sz
  have hdf := f.fa.df
  have e1 := f.fa.e1
  have e3 := f.fa.e3
  have e4 := f.e4
  have ek := f.ek
  refine wlStart (l := [r19_0 p, r19_1 p]) rfl ?_
  refine wlVal rfl rfl (.bool (kd == 7)) (run_eql3 w _ _ _ rfl _ kd 7 (by simp [ek]) (by simp [ev_const])) ?_
  refine wlVal rfl rfl (.bool (kd == 7)) (run_assign w _ _ rfl _ _ (by simp [ev_eq, hsz])) ?_
  exact wlDone <| h _ ⟨⟨by simp [sz_put, hsz], by simp [def_put, hdf], by simp [ev_ne, e1], by simp [ev_ne, e3]⟩, by simp [ev_ne, e4], by simp [ev_ne, ek]⟩ (by simp [ev_eq, sz_put, hsz])
def r22_0 (p : String) : Oper := { dst := some 171, op := Op.binOp BinOp.eql 3 (Operand.tmp 63) (Operand.const (Value.int IntKind.i64 8)) 3, type := 4, pos := p, after := #[], guard := none }
def r22_1 (p : String) : Oper := { dst := some 170, op := Op.assign (Operand.tmp 171), type := 4, pos := p, after := #[{ on := 0, ground := Ground.data }], guard := none }
def r22 (p : String) : Array Oper := #[r22_0 p, r22_1 p]
set_option maxRecDepth 100000 in
set_option maxHeartbeats 1000000 in
theorem reg22 {Q : Exit → Act → World → Prop} (id : Nat) (p : String) (a : Act) (w : World) (g1 g3 : Nat) (o : Bool) (kd : Int)
    (f : Fr a g1 g3 o kd) 
    (h : ∀ a', Fr a' g1 g3 o kd → a'.eval (.tmp 170) = .bool (kd == 8) → Q .normal a' w) :
    (Code.region id (r22 p) false).wp Try.prog Q a w := by
  have hsz := f.fa.sz
  have hdf := f.fa.df
  have e1 := f.fa.e1
  have e3 := f.fa.e3
  have e4 := f.e4
  have ek := f.ek
  refine wlStart (l := [r22_0 p, r22_1 p]) rfl ?_
  refine wlVal rfl rfl (.bool (kd == 8)) (run_eql3 w _ _ _ rfl _ kd 8 (by simp [ek]) (by simp [ev_const])) ?_
  refine wlVal rfl rfl (.bool (kd == 8)) (run_assign w _ _ rfl _ _ (by simp [ev_eq, hsz])) ?_
  exact wlDone <| h _ ⟨⟨by simp [sz_put, hsz], by simp [def_put, hdf], by simp [ev_ne, e1], by simp [ev_ne, e3]⟩, by simp [ev_ne, e4], by simp [ev_ne, ek]⟩ (by simp [ev_eq, sz_put, hsz])
def r25_0 (p : String) : Oper := { dst := some 187, op := Op.binOp BinOp.eql 3 (Operand.tmp 63) (Operand.const (Value.int IntKind.i64 9)) 3, type := 4, pos := p, after := #[], guard := none }
def r25_1 (p : String) : Oper := { dst := some 186, op := Op.assign (Operand.tmp 187), type := 4, pos := p, after := #[{ on := 0, ground := Ground.data }], guard := none }
def r25 (p : String) : Array Oper := #[r25_0 p, r25_1 p]
set_option maxRecDepth 100000 in
set_option maxHeartbeats 1000000 in
theorem reg25 {Q : Exit → Act → World → Prop} (id : Nat) (p : String) (a : Act) (w : World) (g1 g3 : Nat) (o : Bool) (kd : Int)
    (f : Fr a g1 g3 o kd) 
    (h : ∀ a', Fr a' g1 g3 o kd → a'.eval (.tmp 186) = .bool (kd == 9) → Q .normal a' w) :
    (Code.region id (r25 p) false).wp Try.prog Q a w := by
  have hsz := f.fa.sz
  have hdf := f.fa.df
  have e1 := f.fa.e1
  have e3 := f.fa.e3
  have e4 := f.e4
  have ek := f.ek
  refine wlStart (l := [r25_0 p, r25_1 p]) rfl ?_
  refine wlVal rfl rfl (.bool (kd == 9)) (run_eql3 w _ _ _ rfl _ kd 9 (by simp [ek]) (by simp [ev_const])) ?_
  refine wlVal rfl rfl (.bool (kd == 9)) (run_assign w _ _ rfl _ _ (by simp [ev_eq, hsz])) ?_
  exact wlDone <| h _ ⟨⟨by simp [sz_put, hsz], by simp [def_put, hdf], by simp [ev_ne, e1], by simp [ev_ne, e3]⟩, by simp [ev_ne, e4], by simp [ev_ne, ek]⟩ (by simp [ev_eq, sz_put, hsz])
def r28_0 (p : String) : Oper := { dst := some 213, op := Op.binOp BinOp.eql 3 (Operand.tmp 63) (Operand.const (Value.int IntKind.i64 10)) 3, type := 4, pos := p, after := #[], guard := none }
def r28_1 (p : String) : Oper := { dst := some 212, op := Op.assign (Operand.tmp 213), type := 4, pos := p, after := #[{ on := 0, ground := Ground.data }], guard := none }
def r28 (p : String) : Array Oper := #[r28_0 p, r28_1 p]
set_option maxRecDepth 100000 in
set_option maxHeartbeats 1000000 in
theorem reg28 {Q : Exit → Act → World → Prop} (id : Nat) (p : String) (a : Act) (w : World) (g1 g3 : Nat) (o : Bool) (kd : Int)
    (f : Fr a g1 g3 o kd) 
    (h : ∀ a', Fr a' g1 g3 o kd → a'.eval (.tmp 212) = .bool (kd == 10) → Q .normal a' w) :
    (Code.region id (r28 p) false).wp Try.prog Q a w := by
  have hsz := f.fa.sz
  have hdf := f.fa.df
  have e1 := f.fa.e1
  have e3 := f.fa.e3
  have e4 := f.e4
  have ek := f.ek
  refine wlStart (l := [r28_0 p, r28_1 p]) rfl ?_
  refine wlVal rfl rfl (.bool (kd == 10)) (run_eql3 w _ _ _ rfl _ kd 10 (by simp [ek]) (by simp [ev_const])) ?_
  refine wlVal rfl rfl (.bool (kd == 10)) (run_assign w _ _ rfl _ _ (by simp [ev_eq, hsz])) ?_
  exact wlDone <| h _ ⟨⟨by simp [sz_put, hsz], by simp [def_put, hdf], by simp [ev_ne, e1], by simp [ev_ne, e3]⟩, by simp [ev_ne, e4], by simp [ev_ne, ek]⟩ (by simp [ev_eq, sz_put, hsz])
def r31_0 (p : String) : Oper := { dst := some 253, op := Op.binOp BinOp.eql 3 (Operand.tmp 63) (Operand.const (Value.int IntKind.i64 11)) 3, type := 4, pos := p, after := #[], guard := none }
def r31_1 (p : String) : Oper := { dst := some 252, op := Op.assign (Operand.tmp 253), type := 4, pos := p, after := #[{ on := 0, ground := Ground.data }], guard := none }
def r31 (p : String) : Array Oper := #[r31_0 p, r31_1 p]
set_option maxRecDepth 100000 in
set_option maxHeartbeats 1000000 in
theorem reg31 {Q : Exit → Act → World → Prop} (id : Nat) (p : String) (a : Act) (w : World) (g1 g3 : Nat) (o : Bool) (kd : Int)
    (f : Fr a g1 g3 o kd) 
    (h : ∀ a', Fr a' g1 g3 o kd → a'.eval (.tmp 252) = .bool (kd == 11) → Q .normal a' w) :
    (Code.region id (r31 p) false).wp Try.prog Q a w := by
  have hsz := f.fa.sz
  have hdf := f.fa.df
  have e1 := f.fa.e1
  have e3 := f.fa.e3
  have e4 := f.e4
  have ek := f.ek
  refine wlStart (l := [r31_0 p, r31_1 p]) rfl ?_
  refine wlVal rfl rfl (.bool (kd == 11)) (run_eql3 w _ _ _ rfl _ kd 11 (by simp [ek]) (by simp [ev_const])) ?_
  refine wlVal rfl rfl (.bool (kd == 11)) (run_assign w _ _ rfl _ _ (by simp [ev_eq, hsz])) ?_
  exact wlDone <| h _ ⟨⟨by simp [sz_put, hsz], by simp [def_put, hdf], by simp [ev_ne, e1], by simp [ev_ne, e3]⟩, by simp [ev_ne, e4], by simp [ev_ne, ek]⟩ (by simp [ev_eq, sz_put, hsz])
def r34_0 (p : String) : Oper := { dst := some 318, op := Op.binOp BinOp.eql 3 (Operand.tmp 63) (Operand.const (Value.int IntKind.i64 12)) 3, type := 4, pos := p, after := #[], guard := none }
def r34_1 (p : String) : Oper := { dst := some 317, op := Op.assign (Operand.tmp 318), type := 4, pos := p, after := #[{ on := 0, ground := Ground.data }], guard := none }
def r34 (p : String) : Array Oper := #[r34_0 p, r34_1 p]
set_option maxRecDepth 100000 in
set_option maxHeartbeats 1000000 in
theorem reg34 {Q : Exit → Act → World → Prop} (id : Nat) (p : String) (a : Act) (w : World) (g1 g3 : Nat) (o : Bool) (kd : Int)
    (f : Fr a g1 g3 o kd) 
    (h : ∀ a', Fr a' g1 g3 o kd → a'.eval (.tmp 317) = .bool (kd == 12) → Q .normal a' w) :
    (Code.region id (r34 p) false).wp Try.prog Q a w := by
  have hsz := f.fa.sz
  have hdf := f.fa.df
  have e1 := f.fa.e1
  have e3 := f.fa.e3
  have e4 := f.e4
  have ek := f.ek
  refine wlStart (l := [r34_0 p, r34_1 p]) rfl ?_
  refine wlVal rfl rfl (.bool (kd == 12)) (run_eql3 w _ _ _ rfl _ kd 12 (by simp [ek]) (by simp [ev_const])) ?_
  refine wlVal rfl rfl (.bool (kd == 12)) (run_assign w _ _ rfl _ _ (by simp [ev_eq, hsz])) ?_
  exact wlDone <| h _ ⟨⟨by simp [sz_put, hsz], by simp [def_put, hdf], by simp [ev_ne, e1], by simp [ev_ne, e3]⟩, by simp [ev_ne, e4], by simp [ev_ne, ek]⟩ (by simp [ev_eq, sz_put, hsz])
def r37_0 (p : String) : Oper := { dst := some 334, op := Op.binOp BinOp.eql 3 (Operand.tmp 63) (Operand.const (Value.int IntKind.i64 13)) 3, type := 4, pos := p, after := #[], guard := none }
def r37_1 (p : String) : Oper := { dst := some 333, op := Op.assign (Operand.tmp 334), type := 4, pos := p, after := #[{ on := 0, ground := Ground.data }], guard := none }
def r37 (p : String) : Array Oper := #[r37_0 p, r37_1 p]
set_option maxRecDepth 100000 in
set_option maxHeartbeats 1000000 in
theorem reg37 {Q : Exit → Act → World → Prop} (id : Nat) (p : String) (a : Act) (w : World) (g1 g3 : Nat) (o : Bool) (kd : Int)
    (f : Fr a g1 g3 o kd) 
    (h : ∀ a', Fr a' g1 g3 o kd → a'.eval (.tmp 333) = .bool (kd == 13) → Q .normal a' w) :
    (Code.region id (r37 p) false).wp Try.prog Q a w := by
  have hsz := f.fa.sz
  have hdf := f.fa.df
  have e1 := f.fa.e1
  have e3 := f.fa.e3
  have e4 := f.e4
  have ek := f.ek
  refine wlStart (l := [r37_0 p, r37_1 p]) rfl ?_
  refine wlVal rfl rfl (.bool (kd == 13)) (run_eql3 w _ _ _ rfl _ kd 13 (by simp [ek]) (by simp [ev_const])) ?_
  refine wlVal rfl rfl (.bool (kd == 13)) (run_assign w _ _ rfl _ _ (by simp [ev_eq, hsz])) ?_
  exact wlDone <| h _ ⟨⟨by simp [sz_put, hsz], by simp [def_put, hdf], by simp [ev_ne, e1], by simp [ev_ne, e3]⟩, by simp [ev_ne, e4], by simp [ev_ne, ek]⟩ (by simp [ev_eq, sz_put, hsz])
end Go.Proofs.Ytmcmiojidgdjpaa
namespace Go.Proofs.Ytmcmiojidgdjpaa
open Go.RowKit

def c15_0 (p : String) : Oper := { dst := some 112, op := Op.fieldAddr 24 (Operand.tmp 1) 6, type := 0, pos := p, after := #[], guard := none }
def c15_1 (p : String) : Oper := { dst := some 113, op := Op.load 3 (Operand.tmp 112), type := 3, pos := p, after := #[{ on := 0, ground := Ground.data }], guard := none }
def c15_2 (p : String) : Oper := { dst := some 114, op := Op.fieldAddr 24 (Operand.tmp 1) 7, type := 0, pos := p, after := #[{ on := 9, ground := Ground.gcOnly Departure.lateStores }], guard := none }
def c15_3 (p : String) : Oper := { dst := some 115, op := Op.load 3 (Operand.tmp 114), type := 3, pos := p, after := #[{ on := 2, ground := Ground.data }, { on := 9, ground := Ground.gcOnly Departure.lateStores }], guard := none }
def c15_4 (p : String) : Oper := { dst := some 116, op := Op.fieldAddr 24 (Operand.tmp 1) 8, type := 0, pos := p, after := #[{ on := 11, ground := Ground.gcOnly Departure.lateStores }], guard := none }
def c15_5 (p : String) : Oper := { dst := some 117, op := Op.load 3 (Operand.tmp 116), type := 3, pos := p, after := #[{ on := 4, ground := Ground.data }, { on := 11, ground := Ground.gcOnly Departure.lateStores }], guard := none }
def c15_6 (p : String) : Oper := { dst := some 118, op := Op.fieldAddr 24 (Operand.tmp 1) 14, type := 0, pos := p, after := #[{ on := 13, ground := Ground.gcOnly Departure.lateStores }], guard := none }
def c15_7 (p : String) : Oper := { dst := some 119, op := Op.load 22 (Operand.tmp 118), type := 22, pos := p, after := #[{ on := 6, ground := Ground.data }, { on := 13, ground := Ground.gcOnly Departure.lateStores }], guard := none }
def c15_8 (p : String) : Oper := { dst := some 120, op := Op.fieldAddr 24 (Operand.tmp 3) 6, type := 0, pos := p, after := #[{ on := 0, ground := Ground.phase }, { on := 1, ground := Ground.phase }, { on := 2, ground := Ground.textOnly Departure.lateStores }, { on := 3, ground := Ground.textOnly Departure.lateStores }, { on := 4, ground := Ground.textOnly Departure.lateStores }, { on := 5, ground := Ground.textOnly Departure.lateStores }, { on := 6, ground := Ground.textOnly Departure.lateStores }, { on := 7, ground := Ground.textOnly Departure.lateStores }], guard := none }
def c15_9 (p : String) : Oper := { dst := none, op := Op.store 3 (Operand.tmp 120) (Operand.tmp 113), type := 0, pos := p, after := #[{ on := 8, ground := Ground.data }, { on := 1, ground := Ground.data }, { on := 0, ground := Ground.phase }, { on := 1, ground := Ground.phase }, { on := 2, ground := Ground.textOnly Departure.lateStores }, { on := 3, ground := Ground.textOnly Departure.lateStores }, { on := 4, ground := Ground.textOnly Departure.lateStores }, { on := 5, ground := Ground.textOnly Departure.lateStores }, { on := 6, ground := Ground.textOnly Departure.lateStores }, { on := 7, ground := Ground.textOnly Departure.lateStores }], guard := none }
def c15_10 (p : String) : Oper := { dst := some 121, op := Op.fieldAddr 24 (Operand.tmp 3) 7, type := 0, pos := p, after := #[{ on := 0, ground := Ground.phase }, { on := 1, ground := Ground.phase }, { on := 2, ground := Ground.phase }, { on := 3, ground := Ground.phase }, { on := 4, ground := Ground.textOnly Departure.lateStores }, { on := 5, ground := Ground.textOnly Departure.lateStores }, { on := 6, ground := Ground.textOnly Departure.lateStores }, { on := 7, ground := Ground.textOnly Departure.lateStores }, { on := 8, ground := Ground.phase }, { on := 9, ground := Ground.phase }], guard := none }
def c15_11 (p : String) : Oper := { dst := none, op := Op.store 3 (Operand.tmp 121) (Operand.tmp 115), type := 0, pos := p, after := #[{ on := 10, ground := Ground.data }, { on := 3, ground := Ground.data }, { on := 9, ground := Ground.chain }, { on := 0, ground := Ground.phase }, { on := 1, ground := Ground.phase }, { on := 2, ground := Ground.phase }, { on := 3, ground := Ground.phase }, { on := 4, ground := Ground.textOnly Departure.lateStores }, { on := 5, ground := Ground.textOnly Departure.lateStores }, { on := 6, ground := Ground.textOnly Departure.lateStores }, { on := 7, ground := Ground.textOnly Departure.lateStores }, { on := 8, ground := Ground.phase }, { on := 9, ground := Ground.phase }], guard := none }
def c15_12 (p : String) : Oper := { dst := some 122, op := Op.fieldAddr 24 (Operand.tmp 3) 8, type := 0, pos := p, after := #[{ on := 0, ground := Ground.phase }, { on := 1, ground := Ground.phase }, { on := 2, ground := Ground.phase }, { on := 3, ground := Ground.phase }, { on := 4, ground := Ground.phase }, { on := 5, ground := Ground.phase }, { on := 6, ground := Ground.textOnly Departure.lateStores }, { on := 7, ground := Ground.textOnly Departure.lateStores }, { on := 8, ground := Ground.phase }, { on := 9, ground := Ground.phase }, { on := 10, ground := Ground.phase }, { on := 11, ground := Ground.phase }], guard := none }
def c15_13 (p : String) : Oper := { dst := none, op := Op.store 3 (Operand.tmp 122) (Operand.tmp 117), type := 0, pos := p, after := #[{ on := 12, ground := Ground.data }, { on := 5, ground := Ground.data }, { on := 11, ground := Ground.chain }, { on := 0, ground := Ground.phase }, { on := 1, ground := Ground.phase }, { on := 2, ground := Ground.phase }, { on := 3, ground := Ground.phase }, { on := 4, ground := Ground.phase }, { on := 5, ground := Ground.phase }, { on := 6, ground := Ground.textOnly Departure.lateStores }, { on := 7, ground := Ground.textOnly Departure.lateStores }, { on := 8, ground := Ground.phase }, { on := 9, ground := Ground.phase }, { on := 10, ground := Ground.phase }, { on := 11, ground := Ground.phase }], guard := none }
def c15_14 (p : String) : Oper := { dst := some 123, op := Op.fieldAddr 24 (Operand.tmp 3) 14, type := 0, pos := p, after := #[{ on := 0, ground := Ground.phase }, { on := 1, ground := Ground.phase }, { on := 2, ground := Ground.phase }, { on := 3, ground := Ground.phase }, { on := 4, ground := Ground.phase }, { on := 5, ground := Ground.phase }, { on := 6, ground := Ground.phase }, { on := 7, ground := Ground.phase }, { on := 8, ground := Ground.phase }, { on := 9, ground := Ground.phase }, { on := 10, ground := Ground.phase }, { on := 11, ground := Ground.phase }, { on := 12, ground := Ground.phase }, { on := 13, ground := Ground.phase }], guard := none }
def c15_15 (p : String) : Oper := { dst := none, op := Op.store 22 (Operand.tmp 123) (Operand.tmp 119), type := 0, pos := p, after := #[{ on := 14, ground := Ground.data }, { on := 7, ground := Ground.data }, { on := 13, ground := Ground.chain }, { on := 0, ground := Ground.phase }, { on := 1, ground := Ground.phase }, { on := 2, ground := Ground.phase }, { on := 3, ground := Ground.phase }, { on := 4, ground := Ground.phase }, { on := 5, ground := Ground.phase }, { on := 6, ground := Ground.phase }, { on := 7, ground := Ground.phase }, { on := 8, ground := Ground.phase }, { on := 9, ground := Ground.phase }, { on := 10, ground := Ground.phase }, { on := 11, ground := Ground.phase }, { on := 12, ground := Ground.phase }, { on := 13, ground := Ground.phase }], guard := none }
def c15 (p : String) : Array Oper := #[c15_0 p, c15_1 p, c15_2 p, c15_3 p, c15_4 p, c15_5 p, c15_6 p, c15_7 p, c15_8 p, c15_9 p, c15_10 p, c15_11 p, c15_12 p, c15_13 p, c15_14 p, c15_15 p]
set_option maxRecDepth 100000 in
set_option maxHeartbeats 2000000 in
theorem copy_15 {Q : Exit → Act → World → Prop} (id : Nat) (p : String) (a : Act) (w : World) (g1 g3 : Nat) (cs ds : Array Value) (n0 : Int) (n1 : Int) (n2 : Int) (q3 : Option Addr) (l3 k3 : Nat) (hsz : a.tmps.size = 347) (e1 : a.eval (.tmp 1) = .pointer (some ⟨g1, 0, none⟩)) (e3 : a.eval (.tmp 3) = .pointer (some ⟨g3, 0, none⟩))
    (hg1 : w.heap[g1]? = some (.cells cs 24)) (hg3 : w.heap[g3]? = some (.cells ds 24)) (hlt : g1 < g3) (hd : ds.size = 16) (y0 : cs[6]? = some (.int .i64 n0)) (y1 : cs[7]? = some (.int .i64 n1)) (y2 : cs[8]? = some (.int .i64 n2)) (y3 : cs[14]? = some (.slice q3 l3 k3))
    (h : ∀ w', Below g3 w w' → w'.heap[g3]? = some (.cells ((((ds.setIfInBounds 6 (.int .i64 n0)).setIfInBounds 7 (.int .i64 n1)).setIfInBounds 8 (.int .i64 n2)).setIfInBounds 14 (.slice q3 l3 k3)) 24) → Q .normal ((((((((((((a.put (some 112) (.pointer (some ⟨g1, 6, none⟩))).put (some 113) (.int .i64 n0)).put (some 114) (.pointer (some ⟨g1, 7, none⟩))).put (some 115) (.int .i64 n1)).put (some 116) (.pointer (some ⟨g1, 8, none⟩))).put (some 117) (.int .i64 n2)).put (some 118) (.pointer (some ⟨g1, 14, none⟩))).put (some 119) (.slice q3 l3 k3)).put (some 120) (.pointer (some ⟨g3, 6, none⟩))).put (some 121) (.pointer (some ⟨g3, 7, none⟩))).put (some 122) (.pointer (some ⟨g3, 8, none⟩))).put (some 123) (.pointer (some ⟨g3, 14, none⟩))) w') :
    (Code.region id (c15 p) true).wp Try.prog Q a w := by
  refine wp_region_noPanic ?_
  have hQ : ∀ c a d v w, NoPanic Q (.panic c) (a.put d v) w → NoPanic Q (.panic c) a w := fun _ _ _ _ _ h => h
  have hx0 : w.drew.heap[g3]? = some (.cells ds 24) := by rw [heap_drew]; exact hg3
  have b0 : Below g3 w w.drew := (Below.refl _ w).drew
  refine wp_region_held (S := fun w' => Below g3 w w') (by kernel_rfl) ?_
  refine wpAnyH_take (i := 0) (v := .pointer (some ⟨g1, 6, none⟩)) rfl (by kernel_rfl) (by kernel_rfl) (by kernel_rfl) (fun c a w => hQ c a _ _ w) (.inl ⟨by kernel_rfl, fun w' hS => run_field 6 (by omega) w' _ _ rfl _ g1 (by simp [e1])⟩) b0 ?_
  refine reAct (a' := (a.put (some 112) (.pointer (some ⟨g1, 6, none⟩)))) (l' := #[true, false, false, false, false, false, false, false, false, false, false, false, false, false, false, false]) (by kernel_rfl) (by kernel_rfl) ?_
  refine wpAnyH_take (i := 1) (v := (.int .i64 n0)) rfl (by kernel_rfl) (by kernel_rfl) (by kernel_rfl) (fun c a w => hQ c a _ _ w) (.inl ⟨by kernel_rfl, fun w' hS => run_load3 w' _ _ rfl _ ⟨g1, 6, none⟩ (by simp [ev_eq, hsz]) _ (mv_cell ((hS.block g1 hlt).trans hg1) 6 _ y0)⟩) b0 ?_
  refine reAct (a' := ((a.put (some 112) (.pointer (some ⟨g1, 6, none⟩))).put (some 113) (.int .i64 n0))) (l' := #[true, true, false, false, false, false, false, false, false, false, false, false, false, false, false, false]) (by kernel_rfl) (by kernel_rfl) ?_
  refine wpAnyH_take (i := 2) (v := .pointer (some ⟨g1, 7, none⟩)) rfl (by kernel_rfl) (by kernel_rfl) (by kernel_rfl) (fun c a w => hQ c a _ _ w) (.inl ⟨by kernel_rfl, fun w' hS => run_field 7 (by omega) w' _ _ rfl _ g1 (by simp [ev_ne, e1])⟩) b0 ?_
  refine reAct (a' := (((a.put (some 112) (.pointer (some ⟨g1, 6, none⟩))).put (some 113) (.int .i64 n0)).put (some 114) (.pointer (some ⟨g1, 7, none⟩)))) (l' := #[true, true, true, false, false, false, false, false, false, false, false, false, false, false, false, false]) (by kernel_rfl) (by kernel_rfl) ?_
  refine wpAnyH_take (i := 3) (v := (.int .i64 n1)) rfl (by kernel_rfl) (by kernel_rfl) (by kernel_rfl) (fun c a w => hQ c a _ _ w) (.inl ⟨by kernel_rfl, fun w' hS => run_load3 w' _ _ rfl _ ⟨g1, 7, none⟩ (by simp [ev_eq, sz_put, hsz]) _ (mv_cell ((hS.block g1 hlt).trans hg1) 7 _ y1)⟩) b0 ?_
  refine reAct (a' := ((((a.put (some 112) (.pointer (some ⟨g1, 6, none⟩))).put (some 113) (.int .i64 n0)).put (some 114) (.pointer (some ⟨g1, 7, none⟩))).put (some 115) (.int .i64 n1))) (l' := #[true, true, true, true, false, false, false, false, false, false, false, false, false, false, false, false]) (by kernel_rfl) (by kernel_rfl) ?_
  refine wpAnyH_take (i := 4) (v := .pointer (some ⟨g1, 8, none⟩)) rfl (by kernel_rfl) (by kernel_rfl) (by kernel_rfl) (fun c a w => hQ c a _ _ w) (.inl ⟨by kernel_rfl, fun w' hS => run_field 8 (by omega) w' _ _ rfl _ g1 (by simp [ev_ne, e1])⟩) b0 ?_
  refine reAct (a' := (((((a.put (some 112) (.pointer (some ⟨g1, 6, none⟩))).put (some 113) (.int .i64 n0)).put (some 114) (.pointer (some ⟨g1, 7, none⟩))).put (some 115) (.int .i64 n1)).put (some 116) (.pointer (some ⟨g1, 8, none⟩)))) (l' := #[true, true, true, true, true, false, false, false, false, false, false, false, false, false, false, false]) (by kernel_rfl) (by kernel_rfl) ?_
  refine wpAnyH_take (i := 5) (v := (.int .i64 n2)) rfl (by kernel_rfl) (by kernel_rfl) (by kernel_rfl) (fun c a w => hQ c a _ _ w) (.inl ⟨by kernel_rfl, fun w' hS => run_load3 w' _ _ rfl _ ⟨g1, 8, none⟩ (by simp [ev_eq, sz_put, hsz]) _ (mv_cell ((hS.block g1 hlt).trans hg1) 8 _ y2)⟩) b0 ?_
  refine reAct (a' := ((((((a.put (some 112) (.pointer (some ⟨g1, 6, none⟩))).put (some 113) (.int .i64 n0)).put (some 114) (.pointer (some ⟨g1, 7, none⟩))).put (some 115) (.int .i64 n1)).put (some 116) (.pointer (some ⟨g1, 8, none⟩))).put (some 117) (.int .i64 n2))) (l' := #[true, true, true, true, true, true, false, false, false, false, false, false, false, false, false, false]) (by kernel_rfl) (by kernel_rfl) ?_
  refine wpAnyH_take (i := 6) (v := .pointer (some ⟨g1, 14, none⟩)) rfl (by kernel_rfl) (by kernel_rfl) (by kernel_rfl) (fun c a w => hQ c a _ _ w) (.inl ⟨by kernel_rfl, fun w' hS => run_field 14 (by omega) w' _ _ rfl _ g1 (by simp [ev_ne, e1])⟩) b0 ?_
  refine reAct (a' := (((((((a.put (some 112) (.pointer (some ⟨g1, 6, none⟩))).put (some 113) (.int .i64 n0)).put (some 114) (.pointer (some ⟨g1, 7, none⟩))).put (some 115) (.int .i64 n1)).put (some 116) (.pointer (some ⟨g1, 8, none⟩))).put (some 117) (.int .i64 n2)).put (some 118) (.pointer (some ⟨g1, 14, none⟩)))) (l' := #[true, true, true, true, true, true, true, false, false, false, false, false, false, false, false, false]) (by kernel_rfl) (by kernel_rfl) ?_
  refine wpAnyH_take (i := 7) (v := (.slice q3 l3 k3)) rfl (by kernel_rfl) (by kernel_rfl) (by kernel_rfl) (fun c a w => hQ c a _ _ w) (.inl ⟨by kernel_rfl, fun w' hS => run_load22 w' _ _ rfl _ ⟨g1, 14, none⟩ (by simp [ev_eq, sz_put, hsz]) _ (mv_cell ((hS.block g1 hlt).trans hg1) 14 _ y3)⟩) b0 ?_
  refine reAct (a' := ((((((((a.put (some 112) (.pointer (some ⟨g1, 6, none⟩))).put (some 113) (.int .i64 n0)).put (some 114) (.pointer (some ⟨g1, 7, none⟩))).put (some 115) (.int .i64 n1)).put (some 116) (.pointer (some ⟨g1, 8, none⟩))).put (some 117) (.int .i64 n2)).put (some 118) (.pointer (some ⟨g1, 14, none⟩))).put (some 119) (.slice q3 l3 k3))) (l' := #[true, true, true, true, true, true, true, true, false, false, false, false, false, false, false, false]) (by kernel_rfl) (by kernel_rfl) ?_
  refine wpAnyH_take (i := 8) (v := .pointer (some ⟨g3, 6, none⟩)) rfl (by kernel_rfl) (by kernel_rfl) (by kernel_rfl) (fun c a w => hQ c a _ _ w) (.inl ⟨by kernel_rfl, fun w' hS => run_field 6 (by omega) w' _ _ rfl _ g3 (by simp [ev_ne, e3])⟩) b0 ?_
  refine reAct (a' := (((((((((a.put (some 112) (.pointer (some ⟨g1, 6, none⟩))).put (some 113) (.int .i64 n0)).put (some 114) (.pointer (some ⟨g1, 7, none⟩))).put (some 115) (.int .i64 n1)).put (some 116) (.pointer (some ⟨g1, 8, none⟩))).put (some 117) (.int .i64 n2)).put (some 118) (.pointer (some ⟨g1, 14, none⟩))).put (some 119) (.slice q3 l3 k3)).put (some 120) (.pointer (some ⟨g3, 6, none⟩)))) (l' := #[true, true, true, true, true, true, true, true, true, false, false, false, false, false, false, false]) (by kernel_rfl) (by kernel_rfl) ?_
  refine wpAnyH_all (rs := [9]) (by kernel_rfl) (by simp) ?_
  intro i hi
  obtain rfl : i = 9 := by simpa using hi
  have hx1 := heap_setCell_same w.drew g3 6 _ _ (.int .i64 n0) hx0
  have b1 : Below g3 w (w.drew.setCell ⟨g3, 6, none⟩ (.int .i64 n0)) := b0.setCell (Nat.le_refl _) _
  obtain ⟨u0, hu0⟩ : ∃ u, (ds)[6]? = some u := by simp [hd]
  refine wpOp_skip2 (o := c15_9 p) rfl (by kernel_rfl) (run_store3 _ _ _ _ rfl _ ⟨g3, 6, none⟩ (by simp [ev_eq, sz_put, hsz]) _ (by simp [ev_ne, ev_eq, sz_put, hsz]) u0 (mv_cell hx0 6 _ hu0) (frozen_of_row _ g3 6 _ _ hx0)) ⟨b1, ?_⟩
  refine reAct (a' := (((((((((a.put (some 112) (.pointer (some ⟨g1, 6, none⟩))).put (some 113) (.int .i64 n0)).put (some 114) (.pointer (some ⟨g1, 7, none⟩))).put (some 115) (.int .i64 n1)).put (some 116) (.pointer (some ⟨g1, 8, none⟩))).put (some 117) (.int .i64 n2)).put (some 118) (.pointer (some ⟨g1, 14, none⟩))).put (some 119) (.slice q3 l3 k3)).put (some 120) (.pointer (some ⟨g3, 6, none⟩)))) (l' := #[true, true, true, true, true, true, true, true, true, true, false, false, false, false, false, false]) (by kernel_rfl) (by kernel_rfl) ?_
  refine wpAnyH_take (i := 10) (v := .pointer (some ⟨g3, 7, none⟩)) rfl (by kernel_rfl) (by kernel_rfl) (by kernel_rfl) (fun c a w => hQ c a _ _ w) (.inl ⟨by kernel_rfl, fun w' hS => run_field 7 (by omega) w' _ _ rfl _ g3 (by simp [ev_ne, e3])⟩) b1 ?_
  refine reAct (a' := ((((((((((a.put (some 112) (.pointer (some ⟨g1, 6, none⟩))).put (some 113) (.int .i64 n0)).put (some 114) (.pointer (some ⟨g1, 7, none⟩))).put (some 115) (.int .i64 n1)).put (some 116) (.pointer (some ⟨g1, 8, none⟩))).put (some 117) (.int .i64 n2)).put (some 118) (.pointer (some ⟨g1, 14, none⟩))).put (some 119) (.slice q3 l3 k3)).put (some 120) (.pointer (some ⟨g3, 6, none⟩))).put (some 121) (.pointer (some ⟨g3, 7, none⟩)))) (l' := #[true, true, true, true, true, true, true, true, true, true, true, false, false, false, false, false]) (by kernel_rfl) (by kernel_rfl) ?_
  refine wpAnyH_all (rs := [11]) (by kernel_rfl) (by simp) ?_
  intro i hi
  obtain rfl : i = 11 := by simpa using hi
  have hx2 := heap_setCell_same (w.drew.setCell ⟨g3, 6, none⟩ (.int .i64 n0)) g3 7 _ _ (.int .i64 n1) hx1
  have b2 : Below g3 w ((w.drew.setCell ⟨g3, 6, none⟩ (.int .i64 n0)).setCell ⟨g3, 7, none⟩ (.int .i64 n1)) := b1.setCell (Nat.le_refl _) _
  obtain ⟨u1, hu1⟩ : ∃ u, (ds.setIfInBounds 6 (.int .i64 n0))[7]? = some u := by simp [hd]
  refine wpOp_skip2 (o := c15_11 p) rfl (by kernel_rfl) (run_store3 _ _ _ _ rfl _ ⟨g3, 7, none⟩ (by simp [ev_eq, sz_put, hsz]) _ (by simp [ev_ne, ev_eq, sz_put, hsz]) u1 (mv_cell hx1 7 _ hu1) (frozen_of_row _ g3 7 _ _ hx1)) ⟨b2, ?_⟩
  refine reAct (a' := ((((((((((a.put (some 112) (.pointer (some ⟨g1, 6, none⟩))).put (some 113) (.int .i64 n0)).put (some 114) (.pointer (some ⟨g1, 7, none⟩))).put (some 115) (.int .i64 n1)).put (some 116) (.pointer (some ⟨g1, 8, none⟩))).put (some 117) (.int .i64 n2)).put (some 118) (.pointer (some ⟨g1, 14, none⟩))).put (some 119) (.slice q3 l3 k3)).put (some 120) (.pointer (some ⟨g3, 6, none⟩))).put (some 121) (.pointer (some ⟨g3, 7, none⟩)))) (l' := #[true, true, true, true, true, true, true, true, true, true, true, true, false, false, false, false]) (by kernel_rfl) (by kernel_rfl) ?_
  refine wpAnyH_take (i := 12) (v := .pointer (some ⟨g3, 8, none⟩)) rfl (by kernel_rfl) (by kernel_rfl) (by kernel_rfl) (fun c a w => hQ c a _ _ w) (.inl ⟨by kernel_rfl, fun w' hS => run_field 8 (by omega) w' _ _ rfl _ g3 (by simp [ev_ne, e3])⟩) b2 ?_
  refine reAct (a' := (((((((((((a.put (some 112) (.pointer (some ⟨g1, 6, none⟩))).put (some 113) (.int .i64 n0)).put (some 114) (.pointer (some ⟨g1, 7, none⟩))).put (some 115) (.int .i64 n1)).put (some 116) (.pointer (some ⟨g1, 8, none⟩))).put (some 117) (.int .i64 n2)).put (some 118) (.pointer (some ⟨g1, 14, none⟩))).put (some 119) (.slice q3 l3 k3)).put (some 120) (.pointer (some ⟨g3, 6, none⟩))).put (some 121) (.pointer (some ⟨g3, 7, none⟩))).put (some 122) (.pointer (some ⟨g3, 8, none⟩)))) (l' := #[true, true, true, true, true, true, true, true, true, true, true, true, true, false, false, false]) (by kernel_rfl) (by kernel_rfl) ?_
  refine wpAnyH_all (rs := [13]) (by kernel_rfl) (by simp) ?_
  intro i hi
  obtain rfl : i = 13 := by simpa using hi
  have hx3 := heap_setCell_same ((w.drew.setCell ⟨g3, 6, none⟩ (.int .i64 n0)).setCell ⟨g3, 7, none⟩ (.int .i64 n1)) g3 8 _ _ (.int .i64 n2) hx2
  have b3 : Below g3 w (((w.drew.setCell ⟨g3, 6, none⟩ (.int .i64 n0)).setCell ⟨g3, 7, none⟩ (.int .i64 n1)).setCell ⟨g3, 8, none⟩ (.int .i64 n2)) := b2.setCell (Nat.le_refl _) _
  obtain ⟨u2, hu2⟩ : ∃ u, ((ds.setIfInBounds 6 (.int .i64 n0)).setIfInBounds 7 (.int .i64 n1))[8]? = some u := by simp [hd]
  refine wpOp_skip2 (o := c15_13 p) rfl (by kernel_rfl) (run_store3 _ _ _ _ rfl _ ⟨g3, 8, none⟩ (by simp [ev_eq, sz_put, hsz]) _ (by simp [ev_ne, ev_eq, sz_put, hsz]) u2 (mv_cell hx2 8 _ hu2) (frozen_of_row _ g3 8 _ _ hx2)) ⟨b3, ?_⟩
  refine reAct (a' := (((((((((((a.put (some 112) (.pointer (some ⟨g1, 6, none⟩))).put (some 113) (.int .i64 n0)).put (some 114) (.pointer (some ⟨g1, 7, none⟩))).put (some 115) (.int .i64 n1)).put (some 116) (.pointer (some ⟨g1, 8, none⟩))).put (some 117) (.int .i64 n2)).put (some 118) (.pointer (some ⟨g1, 14, none⟩))).put (some 119) (.slice q3 l3 k3)).put (some 120) (.pointer (some ⟨g3, 6, none⟩))).put (some 121) (.pointer (some ⟨g3, 7, none⟩))).put (some 122) (.pointer (some ⟨g3, 8, none⟩)))) (l' := #[true, true, true, true, true, true, true, true, true, true, true, true, true, true, false, false]) (by kernel_rfl) (by kernel_rfl) ?_
  refine wpAnyH_take (i := 14) (v := .pointer (some ⟨g3, 14, none⟩)) rfl (by kernel_rfl) (by kernel_rfl) (by kernel_rfl) (fun c a w => hQ c a _ _ w) (.inl ⟨by kernel_rfl, fun w' hS => run_field 14 (by omega) w' _ _ rfl _ g3 (by simp [ev_ne, e3])⟩) b3 ?_
  refine reAct (a' := ((((((((((((a.put (some 112) (.pointer (some ⟨g1, 6, none⟩))).put (some 113) (.int .i64 n0)).put (some 114) (.pointer (some ⟨g1, 7, none⟩))).put (some 115) (.int .i64 n1)).put (some 116) (.pointer (some ⟨g1, 8, none⟩))).put (some 117) (.int .i64 n2)).put (some 118) (.pointer (some ⟨g1, 14, none⟩))).put (some 119) (.slice q3 l3 k3)).put (some 120) (.pointer (some ⟨g3, 6, none⟩))).put (some 121) (.pointer (some ⟨g3, 7, none⟩))).put (some 122) (.pointer (some ⟨g3, 8, none⟩))).put (some 123) (.pointer (some ⟨g3, 14, none⟩)))) (l' := #[true, true, true, true, true, true, true, true, true, true, true, true, true, true, true, false]) (by kernel_rfl) (by kernel_rfl) ?_
  refine wpAnyH_all (rs := [15]) (by kernel_rfl) (by simp) ?_
  intro i hi
  obtain rfl : i = 15 := by simpa using hi
  have hx4 := heap_setCell_same (((w.drew.setCell ⟨g3, 6, none⟩ (.int .i64 n0)).setCell ⟨g3, 7, none⟩ (.int .i64 n1)).setCell ⟨g3, 8, none⟩ (.int .i64 n2)) g3 14 _ _ (.slice q3 l3 k3) hx3
  have b4 : Below g3 w ((((w.drew.setCell ⟨g3, 6, none⟩ (.int .i64 n0)).setCell ⟨g3, 7, none⟩ (.int .i64 n1)).setCell ⟨g3, 8, none⟩ (.int .i64 n2)).setCell ⟨g3, 14, none⟩ (.slice q3 l3 k3)) := b3.setCell (Nat.le_refl _) _
  obtain ⟨u3, hu3⟩ : ∃ u, (((ds.setIfInBounds 6 (.int .i64 n0)).setIfInBounds 7 (.int .i64 n1)).setIfInBounds 8 (.int .i64 n2))[14]? = some u := by simp [hd]
  refine wpOp_skip2 (o := c15_15 p) rfl (by kernel_rfl) (run_store22 _ _ _ _ rfl _ ⟨g3, 14, none⟩ (by simp [ev_eq, sz_put, hsz]) _ _ _ (by simp [ev_ne, ev_eq, sz_put, hsz]) u3 (mv_cell hx3 14 _ hu3) (frozen_of_row _ g3 14 _ _ hx3)) ⟨b4, ?_⟩
  refine reAct (a' := ((((((((((((a.put (some 112) (.pointer (some ⟨g1, 6, none⟩))).put (some 113) (.int .i64 n0)).put (some 114) (.pointer (some ⟨g1, 7, none⟩))).put (some 115) (.int .i64 n1)).put (some 116) (.pointer (some ⟨g1, 8, none⟩))).put (some 117) (.int .i64 n2)).put (some 118) (.pointer (some ⟨g1, 14, none⟩))).put (some 119) (.slice q3 l3 k3)).put (some 120) (.pointer (some ⟨g3, 6, none⟩))).put (some 121) (.pointer (some ⟨g3, 7, none⟩))).put (some 122) (.pointer (some ⟨g3, 8, none⟩))).put (some 123) (.pointer (some ⟨g3, 14, none⟩)))) (l' := #[true, true, true, true, true, true, true, true, true, true, true, true, true, true, true, true]) (by kernel_rfl) (by kernel_rfl) ?_
  exact wpAnyH_done (by kernel_rfl) (NoPanic.normal (h _ b4 hx4)) _
end Go.Proofs.Ytmcmiojidgdjpaa
namespace Go.Proofs.Ytmcmiojidgdjpaa
open Go.RowKit

def c21_0 (p : String) : Oper := { dst := some 161, op := Op.fieldAddr 24 (Operand.tmp 1) 6, type := 0, pos := p, after := #[], guard := none }
def c21_1 (p : String) : Oper := { dst := some 162, op := Op.load 3 (Operand.tmp 161), type := 3, pos := p, after := #[{ on := 0, ground := Ground.data }], guard := none }
def c21_2 (p : String) : Oper := { dst := some 163, op := Op.fieldAddr 24 (Operand.tmp 1) 7, type := 0, pos := p, after := #[{ on := 7, ground := Ground.gcOnly Departure.lateStores }], guard := none }
def c21_3 (p : String) : Oper := { dst := some 164, op := Op.load 3 (Operand.tmp 163), type := 3, pos := p, after := #[{ on := 2, ground := Ground.data }, { on := 7, ground := Ground.gcOnly Departure.lateStores }], guard := none }
def c21_4 (p : String) : Oper := { dst := some 165, op := Op.fieldAddr 24 (Operand.tmp 1) 9, type := 0, pos := p, after := #[{ on := 9, ground := Ground.gcOnly Departure.lateStores }], guard := none }
def c21_5 (p : String) : Oper := { dst := some 166, op := Op.load 3 (Operand.tmp 165), type := 3, pos := p, after := #[{ on := 4, ground := Ground.data }, { on := 9, ground := Ground.gcOnly Departure.lateStores }], guard := none }
def c21_6 (p : String) : Oper := { dst := some 167, op := Op.fieldAddr 24 (Operand.tmp 3) 6, type := 0, pos := p, after := #[{ on := 0, ground := Ground.phase }, { on := 1, ground := Ground.phase }, { on := 2, ground := Ground.textOnly Departure.lateStores }, { on := 3, ground := Ground.textOnly Departure.lateStores }, { on := 4, ground := Ground.textOnly Departure.lateStores }, { on := 5, ground := Ground.textOnly Departure.lateStores }], guard := none }
def c21_7 (p : String) : Oper := { dst := none, op := Op.store 3 (Operand.tmp 167) (Operand.tmp 162), type := 0, pos := p, after := #[{ on := 6, ground := Ground.data }, { on := 1, ground := Ground.data }, { on := 0, ground := Ground.phase }, { on := 1, ground := Ground.phase }, { on := 2, ground := Ground.textOnly Departure.lateStores }, { on := 3, ground := Ground.textOnly Departure.lateStores }, { on := 4, ground := Ground.textOnly Departure.lateStores }, { on := 5, ground := Ground.textOnly Departure.lateStores }], guard := none }
def c21_8 (p : String) : Oper := { dst := some 168, op := Op.fieldAddr 24 (Operand.tmp 3) 7, type := 0, pos := p, after := #[{ on := 0, ground := Ground.phase }, { on := 1, ground := Ground.phase }, { on := 2, ground := Ground.phase }, { on := 3, ground := Ground.phase }, { on := 4, ground := Ground.textOnly Departure.lateStores }, { on := 5, ground := Ground.textOnly Departure.lateStores }, { on := 6, ground := Ground.phase }, { on := 7, ground := Ground.phase }], guard := none }
def c21_9 (p : String) : Oper := { dst := none, op := Op.store 3 (Operand.tmp 168) (Operand.tmp 164), type := 0, pos := p, after := #[{ on := 8, ground := Ground.data }, { on := 3, ground := Ground.data }, { on := 7, ground := Ground.chain }, { on := 0, ground := Ground.phase }, { on := 1, ground := Ground.phase }, { on := 2, ground := Ground.phase }, { on := 3, ground := Ground.phase }, { on := 4, ground := Ground.textOnly Departure.lateStores }, { on := 5, ground := Ground.textOnly Departure.lateStores }, { on := 6, ground := Ground.phase }, { on := 7, ground := Ground.phase }], guard := none }
def c21_10 (p : String) : Oper := { dst := some 169, op := Op.fieldAddr 24 (Operand.tmp 3) 9, type := 0, pos := p, after := #[{ on := 0, ground := Ground.phase }, { on := 1, ground := Ground.phase }, { on := 2, ground := Ground.phase }, { on := 3, ground := Ground.phase }, { on := 4, ground := Ground.phase }, { on := 5, ground := Ground.phase }, { on := 6, ground := Ground.phase }, { on := 7, ground := Ground.phase }, { on := 8, ground := Ground.phase }, { on := 9, ground := Ground.phase }], guard := none }
def c21_11 (p : String) : Oper := { dst := none, op := Op.store 3 (Operand.tmp 169) (Operand.tmp 166), type := 0, pos := p, after := #[{ on := 10, ground := Ground.data }, { on := 5, ground := Ground.data }, { on := 9, ground := Ground.chain }, { on := 0, ground := Ground.phase }, { on := 1, ground := Ground.phase }, { on := 2, ground := Ground.phase }, { on := 3, ground := Ground.phase }, { on := 4, ground := Ground.phase }, { on := 5, ground := Ground.phase }, { on := 6, ground := Ground.phase }, { on := 7, ground := Ground.phase }, { on := 8, ground := Ground.phase }, { on := 9, ground := Ground.phase }], guard := none }
def c21 (p : String) : Array Oper := #[c21_0 p, c21_1 p, c21_2 p, c21_3 p, c21_4 p, c21_5 p, c21_6 p, c21_7 p, c21_8 p, c21_9 p, c21_10 p, c21_11 p]
set_option maxRecDepth 100000 in
set_option maxHeartbeats 2000000 in
theorem copy_21 {Q : Exit → Act → World → Prop} (id : Nat) (p : String) (a : Act) (w : World) (g1 g3 : Nat) (cs ds : Array Value) (n0 : Int) (n1 : Int) (n2 : Int) (hsz : a.tmps.size = 347) (e1 : a.eval (.tmp 1) = .pointer (some ⟨g1, 0, none⟩)) (e3 : a.eval (.tmp 3) = .pointer (some ⟨g3, 0, none⟩))
    (hg1 : w.heap[g1]? = some (.cells cs 24)) (hg3 : w.heap[g3]? = some (.cells ds 24)) (hlt : g1 < g3) (hd : ds.size = 16) (y0 : cs[6]? = some (.int .i64 n0)) (y1 : cs[7]? = some (.int .i64 n1)) (y2 : cs[9]? = some (.int .i64 n2))
    (h : ∀ w', Below g3 w w' → w'.heap[g3]? = some (.cells (((ds.setIfInBounds 6 (.int .i64 n0)).setIfInBounds 7 (.int .i64 n1)).setIfInBounds 9 (.int .i64 n2)) 24) → Q .normal (((((((((a.put (some 161) (.pointer (some ⟨g1, 6, none⟩))).put (some 162) (.int .i64 n0)).put (some 163) (.pointer (some ⟨g1, 7, none⟩))).put (some 164) (.int .i64 n1)).put (some 165) (.pointer (some ⟨g1, 9, none⟩))).put (some 166) (.int .i64 n2)).put (some 167) (.pointer (some ⟨g3, 6, none⟩))).put (some 168) (.pointer (some ⟨g3, 7, none⟩))).put (some 169) (.pointer (some ⟨g3, 9, none⟩))) w') :
    (Code.region id (c21 p) true).wp Try.prog Q a w := by
  refine wp_region_noPanic ?_
  have hQ : ∀ c a d v w, NoPanic Q (.panic c) (a.put d v) w → NoPanic Q (.panic c) a w := fun _ _ _ _ _ h => h
  have hx0 : w.drew.heap[g3]? = some (.cells ds 24) := by rw [heap_drew]; exact hg3
  have b0 : Below g3 w w.drew := (Below.refl _ w).drew
  refine wp_region_held (S := fun w' => Below g3 w w') (by kernel_rfl) ?_
  refine wpAnyH_take (i := 0) (v := .pointer (some ⟨g1, 6, none⟩)) rfl (by kernel_rfl) (by kernel_rfl) (by kernel_rfl) (fun c a w => hQ c a _ _ w) (.inl ⟨by kernel_rfl, fun w' hS => run_field 6 (by omega) w' _ _ rfl _ g1 (by simp [e1])⟩) b0 ?_
  refine reAct (a' := (a.put (some 161) (.pointer (some ⟨g1, 6, none⟩)))) (l' := #[true, false, false, false, false, false, false, false, false, false, false, false]) (by kernel_rfl) (by kernel_rfl) ?_
  refine wpAnyH_take (i := 1) (v := (.int .i64 n0)) rfl (by kernel_rfl) (by kernel_rfl) (by kernel_rfl) (fun c a w => hQ c a _ _ w) (.inl ⟨by kernel_rfl, fun w' hS => run_load3 w' _ _ rfl _ ⟨g1, 6, none⟩ (by simp [ev_eq, hsz]) _ (mv_cell ((hS.block g1 hlt).trans hg1) 6 _ y0)⟩) b0 ?_
  refine reAct (a' := ((a.put (some 161) (.pointer (some ⟨g1, 6, none⟩))).put (some 162) (.int .i64 n0))) (l' := #[true, true, false, false, false, false, false, false, false, false, false, false]) (by kernel_rfl) (by kernel_rfl) ?_
  refine wpAnyH_take (i := 2) (v := .pointer (some ⟨g1, 7, none⟩)) rfl (by kernel_rfl) (by kernel_rfl) (by kernel_rfl) (fun c a w => hQ c a _ _ w) (.inl ⟨by kernel_rfl, fun w' hS => run_field 7 (by omega) w' _ _ rfl _ g1 (by simp [ev_ne, e1])⟩) b0 ?_
  refine reAct (a' := (((a.put (some 161) (.pointer (some ⟨g1, 6, none⟩))).put (some 162) (.int .i64 n0)).put (some 163) (.pointer (some ⟨g1, 7, none⟩)))) (l' := #[true, true, true, false, false, false, false, false, false, false, false, false]) (by kernel_rfl) (by kernel_rfl) ?_
  refine wpAnyH_take (i := 3) (v := (.int .i64 n1)) rfl (by kernel_rfl) (by kernel_rfl) (by kernel_rfl) (fun c a w => hQ c a _ _ w) (.inl ⟨by kernel_rfl, fun w' hS => run_load3 w' _ _ rfl _ ⟨g1, 7, none⟩ (by simp [ev_eq, sz_put, hsz]) _ (mv_cell ((hS.block g1 hlt).trans hg1) 7 _ y1)⟩) b0 ?_
  refine reAct (a' := ((((a.put (some 161) (.pointer (some ⟨g1, 6, none⟩))).put (some 162) (.int .i64 n0)).put (some 163) (.pointer (some ⟨g1, 7, none⟩))).put (some 164) (.int .i64 n1))) (l' := #[true, true, true, true, false, false, false, false, false, false, false, false]) (by kernel_rfl) (by kernel_rfl) ?_
  refine wpAnyH_take (i := 4) (v := .pointer (some ⟨g1, 9, none⟩)) rfl (by kernel_rfl) (by kernel_rfl) (by kernel_rfl) (fun c a w => hQ c a _ _ w) (.inl ⟨by kernel_rfl, fun w' hS => run_field 9 (by omega) w' _ _ rfl _ g1 (by simp [ev_ne, e1])⟩) b0 ?_
  refine reAct (a' := (((((a.put (some 161) (.pointer (some ⟨g1, 6, none⟩))).put (some 162) (.int .i64 n0)).put (some 163) (.pointer (some ⟨g1, 7, none⟩))).put (some 164) (.int .i64 n1)).put (some 165) (.pointer (some ⟨g1, 9, none⟩)))) (l' := #[true, true, true, true, true, false, false, false, false, false, false, false]) (by kernel_rfl) (by kernel_rfl) ?_
  refine wpAnyH_take (i := 5) (v := (.int .i64 n2)) rfl (by kernel_rfl) (by kernel_rfl) (by kernel_rfl) (fun c a w => hQ c a _ _ w) (.inl ⟨by kernel_rfl, fun w' hS => run_load3 w' _ _ rfl _ ⟨g1, 9, none⟩ (by simp [ev_eq, sz_put, hsz]) _ (mv_cell ((hS.block g1 hlt).trans hg1) 9 _ y2)⟩) b0 ?_
  refine reAct (a' := ((((((a.put (some 161) (.pointer (some ⟨g1, 6, none⟩))).put (some 162) (.int .i64 n0)).put (some 163) (.pointer (some ⟨g1, 7, none⟩))).put (some 164) (.int .i64 n1)).put (some 165) (.pointer (some ⟨g1, 9, none⟩))).put (some 166) (.int .i64 n2))) (l' := #[true, true, true, true, true, true, false, false, false, false, false, false]) (by kernel_rfl) (by kernel_rfl) ?_
  refine wpAnyH_take (i := 6) (v := .pointer (some ⟨g3, 6, none⟩)) rfl (by kernel_rfl) (by kernel_rfl) (by kernel_rfl) (fun c a w => hQ c a _ _ w) (.inl ⟨by kernel_rfl, fun w' hS => run_field 6 (by omega) w' _ _ rfl _ g3 (by simp [ev_ne, e3])⟩) b0 ?_
  refine reAct (a' := (((((((a.put (some 161) (.pointer (some ⟨g1, 6, none⟩))).put (some 162) (.int .i64 n0)).put (some 163) (.pointer (some ⟨g1, 7, none⟩))).put (some 164) (.int .i64 n1)).put (some 165) (.pointer (some ⟨g1, 9, none⟩))).put (some 166) (.int .i64 n2)).put (some 167) (.pointer (some ⟨g3, 6, none⟩)))) (l' := #[true, true, true, true, true, true, true, false, false, false, false, false]) (by kernel_rfl) (by kernel_rfl) ?_
  refine wpAnyH_all (rs := [7]) (by kernel_rfl) (by simp) ?_
  intro i hi
  obtain rfl : i = 7 := by simpa using hi
  have hx1 := heap_setCell_same w.drew g3 6 _ _ (.int .i64 n0) hx0
  have b1 : Below g3 w (w.drew.setCell ⟨g3, 6, none⟩ (.int .i64 n0)) := b0.setCell (Nat.le_refl _) _
  obtain ⟨u0, hu0⟩ : ∃ u, (ds)[6]? = some u := by simp [hd]
  refine wpOp_skip2 (o := c21_7 p) rfl (by kernel_rfl) (run_store3 _ _ _ _ rfl _ ⟨g3, 6, none⟩ (by simp [ev_eq, sz_put, hsz]) _ (by simp [ev_ne, ev_eq, sz_put, hsz]) u0 (mv_cell hx0 6 _ hu0) (frozen_of_row _ g3 6 _ _ hx0)) ⟨b1, ?_⟩
  refine reAct (a' := (((((((a.put (some 161) (.pointer (some ⟨g1, 6, none⟩))).put (some 162) (.int .i64 n0)).put (some 163) (.pointer (some ⟨g1, 7, none⟩))).put (some 164) (.int .i64 n1)).put (some 165) (.pointer (some ⟨g1, 9, none⟩))).put (some 166) (.int .i64 n2)).put (some 167) (.pointer (some ⟨g3, 6, none⟩)))) (l' := #[true, true, true, true, true, true, true, true, false, false, false, false]) (by kernel_rfl) (by kernel_rfl) ?_
  refine wpAnyH_take (i := 8) (v := .pointer (some ⟨g3, 7, none⟩)) rfl (by kernel_rfl) (by kernel_rfl) (by kernel_rfl) (fun c a w => hQ c a _ _ w) (.inl ⟨by kernel_rfl, fun w' hS => run_field 7 (by omega) w' _ _ rfl _ g3 (by simp [ev_ne, e3])⟩) b1 ?_
  refine reAct (a' := ((((((((a.put (some 161) (.pointer (some ⟨g1, 6, none⟩))).put (some 162) (.int .i64 n0)).put (some 163) (.pointer (some ⟨g1, 7, none⟩))).put (some 164) (.int .i64 n1)).put (some 165) (.pointer (some ⟨g1, 9, none⟩))).put (some 166) (.int .i64 n2)).put (some 167) (.pointer (some ⟨g3, 6, none⟩))).put (some 168) (.pointer (some ⟨g3, 7, none⟩)))) (l' := #[true, true, true, true, true, true, true, true, true, false, false, false]) (by kernel_rfl) (by kernel_rfl) ?_
  refine wpAnyH_all (rs := [9]) (by kernel_rfl) (by simp) ?_
  intro i hi
  obtain rfl : i = 9 := by simpa using hi
  have hx2 := heap_setCell_same (w.drew.setCell ⟨g3, 6, none⟩ (.int .i64 n0)) g3 7 _ _ (.int .i64 n1) hx1
  have b2 : Below g3 w ((w.drew.setCell ⟨g3, 6, none⟩ (.int .i64 n0)).setCell ⟨g3, 7, none⟩ (.int .i64 n1)) := b1.setCell (Nat.le_refl _) _
  obtain ⟨u1, hu1⟩ : ∃ u, (ds.setIfInBounds 6 (.int .i64 n0))[7]? = some u := by simp [hd]
  refine wpOp_skip2 (o := c21_9 p) rfl (by kernel_rfl) (run_store3 _ _ _ _ rfl _ ⟨g3, 7, none⟩ (by simp [ev_eq, sz_put, hsz]) _ (by simp [ev_ne, ev_eq, sz_put, hsz]) u1 (mv_cell hx1 7 _ hu1) (frozen_of_row _ g3 7 _ _ hx1)) ⟨b2, ?_⟩
  refine reAct (a' := ((((((((a.put (some 161) (.pointer (some ⟨g1, 6, none⟩))).put (some 162) (.int .i64 n0)).put (some 163) (.pointer (some ⟨g1, 7, none⟩))).put (some 164) (.int .i64 n1)).put (some 165) (.pointer (some ⟨g1, 9, none⟩))).put (some 166) (.int .i64 n2)).put (some 167) (.pointer (some ⟨g3, 6, none⟩))).put (some 168) (.pointer (some ⟨g3, 7, none⟩)))) (l' := #[true, true, true, true, true, true, true, true, true, true, false, false]) (by kernel_rfl) (by kernel_rfl) ?_
  refine wpAnyH_take (i := 10) (v := .pointer (some ⟨g3, 9, none⟩)) rfl (by kernel_rfl) (by kernel_rfl) (by kernel_rfl) (fun c a w => hQ c a _ _ w) (.inl ⟨by kernel_rfl, fun w' hS => run_field 9 (by omega) w' _ _ rfl _ g3 (by simp [ev_ne, e3])⟩) b2 ?_
  refine reAct (a' := (((((((((a.put (some 161) (.pointer (some ⟨g1, 6, none⟩))).put (some 162) (.int .i64 n0)).put (some 163) (.pointer (some ⟨g1, 7, none⟩))).put (some 164) (.int .i64 n1)).put (some 165) (.pointer (some ⟨g1, 9, none⟩))).put (some 166) (.int .i64 n2)).put (some 167) (.pointer (some ⟨g3, 6, none⟩))).put (some 168) (.pointer (some ⟨g3, 7, none⟩))).put (some 169) (.pointer (some ⟨g3, 9, none⟩)))) (l' := #[true, true, true, true, true, true, true, true, true, true, true, false]) (by kernel_rfl) (by kernel_rfl) ?_
  refine wpAnyH_all (rs := [11]) (by kernel_rfl) (by simp) ?_
  intro i hi
  obtain rfl : i = 11 := by simpa using hi
  have hx3 := heap_setCell_same ((w.drew.setCell ⟨g3, 6, none⟩ (.int .i64 n0)).setCell ⟨g3, 7, none⟩ (.int .i64 n1)) g3 9 _ _ (.int .i64 n2) hx2
  have b3 : Below g3 w (((w.drew.setCell ⟨g3, 6, none⟩ (.int .i64 n0)).setCell ⟨g3, 7, none⟩ (.int .i64 n1)).setCell ⟨g3, 9, none⟩ (.int .i64 n2)) := b2.setCell (Nat.le_refl _) _
  obtain ⟨u2, hu2⟩ : ∃ u, ((ds.setIfInBounds 6 (.int .i64 n0)).setIfInBounds 7 (.int .i64 n1))[9]? = some u := by simp [hd]
  refine wpOp_skip2 (o := c21_11 p) rfl (by kernel_rfl) (run_store3 _ _ _ _ rfl _ ⟨g3, 9, none⟩ (by simp [ev_eq, sz_put, hsz]) _ (by simp [ev_ne, ev_eq, sz_put, hsz]) u2 (mv_cell hx2 9 _ hu2) (frozen_of_row _ g3 9 _ _ hx2)) ⟨b3, ?_⟩
  refine reAct (a' := (((((((((a.put (some 161) (.pointer (some ⟨g1, 6, none⟩))).put (some 162) (.int .i64 n0)).put (some 163) (.pointer (some ⟨g1, 7, none⟩))).put (some 164) (.int .i64 n1)).put (some 165) (.pointer (some ⟨g1, 9, none⟩))).put (some 166) (.int .i64 n2)).put (some 167) (.pointer (some ⟨g3, 6, none⟩))).put (some 168) (.pointer (some ⟨g3, 7, none⟩))).put (some 169) (.pointer (some ⟨g3, 9, none⟩)))) (l' := #[true, true, true, true, true, true, true, true, true, true, true, true]) (by kernel_rfl) (by kernel_rfl) ?_
  exact wpAnyH_done (by kernel_rfl) (NoPanic.normal (h _ b3 hx3)) _
end Go.Proofs.Ytmcmiojidgdjpaa
