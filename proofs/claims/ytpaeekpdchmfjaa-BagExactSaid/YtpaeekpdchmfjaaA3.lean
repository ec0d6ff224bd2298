/- Walks of bytes.Clone, Twin, copied. -/
import Derived.Test.YtpaeekpdchmfjaaA1
import Derived.Lib.SliceRun
namespace Go.Proofs.Ytpaeekpdchmfjaa
open Go.RowKit

set_option maxRecDepth 100000 in
theorem twin_any (F : Nat → Int) (v : Value) (n : Nat) (w : World) (hv : Sl .u8 w v n F) (hn : n ≤ 1000000) :
    Calls Try.prog 19 #[v] w fun e w' => ∃ v', e = .returned v' ∧ w'.ownsRow w.heap.size 5 1 v' n (vL .u8 F n) ∧ Below w.heap.size w w' := by
  obtain ⟨i, hi, hz0, hz1, hz2⟩ := info_parts info5
  have key : ∀ (x : Addr) (cap : Nat), (∀ j u, (vL .u8 F n)[j]? = some u → w.cell? (x.add j) = some u) → Calls Try.prog 19 #[.slice (some x) n cap] w fun e w' => ∃ v', e = .returned v' ∧ w'.ownsRow w.heap.size 5 1 v' n (vL .u8 F n) ∧ Below w.heap.size w w' := by
    intro x cap hc
    have HC := hide hc
    clear hc
    go_enter Try.func19, Try.ntmps19
    go_wp2_with (at_builtin; refine wpList_append_own _ rfl (.tmp 4) (.tmp 5) 23 rfl w.heap.size 5 i (.int .u8 0) 1 1 Try.underlying23 hi hz0 hz1 hz2 rfl (by decide) (.slice none 0 0) 0 [] rfl (World.ownsRow_nil _ _ _ _) x n cap (vL .u8 F n) rfl (by rw [vL_length]; omega) (unhide HC) (vL_one _ F n) (by unfold maxLen; omega) (by omega) (Nat.le_refl _) ?_)
    intro v2 w2 hown2 hgrow2 _
    go_wp2
    go_ret
    refine ⟨v2, rfl, by simpa using hown2, (Below.refl _ _).grown hgrow2 (Nat.le_refl _) (by intro k h; cases h)⟩
  obtain ⟨p, cap, rfl, hc1, hc2⟩ := hv.shape
  have hcs := hv.cells
  cases p with
  | none =>
    obtain ⟨rfl, rfl⟩ := hcs.1 rfl
    clear hcs
    go_enter Try.func19, Try.ntmps19
    go_wp2_with (at_builtin; refine wpList_append_own_none rfl (.tmp 4) (.tmp 5) 23 rfl w.heap.size 5 i 1 Try.underlying23 hi (.slice none 0 0) 0 [] rfl (World.ownsRow_nil _ _ _ _) rfl ?_)
    go_wp2
    go_ret
    exact ⟨_, rfl, World.ownsRow_nil _ _ _ _, Below.refl _ _⟩
  | some x => exact key x cap (hcs.2 x rfl)
set_option maxRecDepth 100000 in
theorem clone_any (F : Nat → Int) (v : Value) (n : Nat) (w : World) (hv : Sl .u8 w v n F) (hn : n ≤ 1000000) :
    Calls Try.prog 27 #[v] w fun e w' => ∃ v', e = .returned v' ∧ w'.ownsRow w.heap.size 5 1 v' n (vL .u8 F n) ∧ Below w.heap.size w w' := by
  obtain ⟨i, hi, hz0, hz1, hz2⟩ := info_parts info5
  have key : ∀ (x : Addr) (cap : Nat), (∀ j u, (vL .u8 F n)[j]? = some u → (w.alloc (.cells #[] 5)).cell? (x.add j) = some u) → Calls Try.prog 27 #[.slice (some x) n cap] w fun e w' => ∃ v', e = .returned v' ∧ w'.ownsRow w.heap.size 5 1 v' n (vL .u8 F n) ∧ Below w.heap.size w w' := by
    intro x cap hc
    have HC := hide hc
    have HO := hide (World.ownsRow_lit (base := w.heap.size) (e := 5) (size := 1) w #[] 0 (Nat.le_refl _) (by unfold maxLen; omega) rfl)
    clear hc
    have q23 : ∀ (w : World) (a : Option Addr) (n c n' c' : Nat), (binOp .eql 23 (.slice a n c) (.slice none n' c')).run Try.prog w = .ok (.bool a.isNone) w := fun w a n c n' c' => Lib.run_eql_slice_nil w _ _ a n c n' c' Try.underlying23
    go_enter Try.func27, Try.ntmps27
    go_wp2_with (at_builtin; refine wpList_append_own _ rfl (.tmp 5) (.tmp 6) 23 rfl w.heap.size 5 i (.int .u8 0) 1 1 Try.underlying23 hi hz0 hz1 hz2 rfl (by decide) _ 0 [] rfl (unhide HO) x n cap (vL .u8 F n) rfl (by rw [vL_length]; omega) (unhide HC) (vL_one _ F n) (by unfold maxLen; omega) (by omega) (by simp) ?_)
    intro v2 w2 hown2 hgrow2 _
    go_wp2
    go_ret
    refine ⟨v2, rfl, by simpa using hown2, ((Below.refl _ _).alloc (Nat.le_refl _) _).grown hgrow2 (by simp) (by intro k h; cases h; exact Nat.le_refl _)⟩
  have hv' := hv.below ((Below.refl w.heap.size w).alloc (Nat.le_refl _) (.cells #[] 5)) (Nat.le_refl _)
  obtain ⟨p, cap, rfl, hc1, hc2⟩ := hv.shape
  have hcs := hv'.cells
  cases p with
  | none =>
    obtain ⟨rfl, rfl⟩ := hcs.1 rfl
    clear hcs
    have q23 : ∀ (w : World) (a : Option Addr) (n c n' c' : Nat), (binOp .eql 23 (.slice a n c) (.slice none n' c')).run Try.prog w = .ok (.bool a.isNone) w := fun w a n c n' c' => Lib.run_eql_slice_nil w _ _ a n c n' c' Try.underlying23
    go_enter Try.func27, Try.ntmps27
    go_wp2
    go_ret
    exact ⟨_, rfl, World.ownsRow_nil _ _ _ _, Below.refl _ _⟩
  | some x => exact key x cap (hcs.2 x rfl)
/-- A block that is there, and what it holds. -/
def Has (w : World) (g : Nat) (o : Obj) : Prop := g < w.heap.size ∧ w.heap[g]? = some o
theorem Has.below {w w' : World} {g : Nat} {o : Obj} (h : Has w g o) (b : Below w.heap.size w w') : Has w' g o := ⟨Nat.lt_of_lt_of_le h.1 b.size, (b.block g h.1).trans h.2⟩
theorem Has.new (w : World) (o : Obj) : Has (w.alloc o) w.heap.size o := ⟨by simp, heap_alloc_new _ _⟩
theorem Has.alloc {w : World} {g : Nat} {o : Obj} (h : Has w g o) (o' : Obj) : Has (w.alloc o') g o := h.below ((Below.refl _ _).alloc (Nat.le_refl _) _)
theorem Has.cell {w : World} {g k : Nat} {cs : Array Value} {t : TypeId} {m : Nat × Nat} {u : Value} (h : Has w g (.cells cs t m)) (hk : cs[k]? = some u) : w.cell? ⟨g, k, none⟩ = some u := by simp [World.cell?, h.2, hk]
theorem Has.frozen {w : World} {g k : Nat} {cs : Array Value} {t : TypeId} (h : Has w g (.cells cs t)) : w.frozen? ⟨g, k, none⟩ = false := by simp [World.frozen?, h.2]
theorem owns_shape {e : TypeId} {size : Nat} {w : World} {B n : Nat} {v : Value} {L : List Value} (h : w.ownsRow B e size v n L) : ∃ p c, v = .slice p n c := by
  rcases h.2 with ⟨rfl, rfl⟩ | ⟨g, cap, cur, rfl, _⟩
  · exact ⟨_, _, rfl⟩
  · exact ⟨_, _, rfl⟩
theorem Has.set2 {w : World} {g : Nat} {a b : Value} {t : TypeId} (h : Has w g (.cells #[a, b] t)) (c d : Value) : Has ((w.setCell ⟨g, 0, none⟩ c).setCell ⟨g, 1, none⟩ d) g (.cells #[c, d] t) :=
  ⟨by simpa using h.1, heap_setCell_same _ g 1 #[c, b] t d (heap_setCell_same _ g 0 #[a, b] t c h.2)⟩
theorem owns_setOther {e : TypeId} {size : Nat} {w : World} {B n : Nat} {v : Value} {L : List Value} (h : w.ownsRow B e size v n L) {a : Addr} (ha : v.ownBlock ≠ some a.block) (u : Value) : (w.setCell a u).ownsRow B e size v n L := by
  refine ⟨h.1, ?_⟩
  rcases h.2 with h2 | ⟨g, cap, cur, rfl, h2, h3, h4⟩
  · exact .inl h2
  · exact .inr ⟨g, cap, cur, rfl, h2, by rw [heap_setCell_other _ _ _ _ (fun q => ha (by rw [← q]; rfl))]; exact h3, h4⟩
theorem owns_has {e e' : TypeId} {size : Nat} {w : World} {B n g : Nat} {v : Value} {L : List Value} {cs : Array Value} (h : w.ownsRow B e size v n L) (h' : Has w g (.cells cs e')) (he : e ≠ e') : v.ownBlock ≠ some g := by
  rcases h.2 with ⟨rfl, _⟩ | ⟨g', cap, cur, rfl, _, h3, _⟩
  · intro q; cases q
  · intro q
    cases q
    rw [h'.2] at h3
    cases h3
    exact he rfl
theorem two_step {w w1 : World} {a b : Obj} {m : Nat} (h : Below (((w.alloc a).alloc b).drewN m).heap.size (((w.alloc a).alloc b).drewN m) w1) : Has w1 w.heap.size a ∧ Has w1 (w.heap.size + 1) b ∧ Below w.heap.size w w1 := by
  refine ⟨Has.below (w := ((w.alloc a).alloc b).drewN m) ((Has.new w a).alloc b) h, ?_, below_of (w0 := ((w.alloc a).alloc b).drewN m) (below_drewN (below_alloc (below_alloc (Below.refl _ _) _) _) m) h⟩
  have := Has.new (w.alloc a) b
  rw [show (w.alloc a).heap.size = w.heap.size + 1 by simp] at this
  exact Has.below (w := ((w.alloc a).alloc b).drewN m) this h
set_option maxRecDepth 100000 in
theorem copied_any (t : Int) (F : Nat → Int) (v : Value) (n : Nat) (w : World) (hv : Sl .u8 w v n F) (hn : n ≤ 1000000) :
    Calls Try.prog 23 #[.agg #[.int .i64 t, v]] w fun e w' => ∃ v', e = .returned (.agg #[.int .i64 t, v']) ∧ w'.ownsRow w.heap.size 5 1 v' n (vL .u8 F n) ∧ Below w.heap.size w w' := by
  obtain ⟨p, c, rfl, hc1, hc2⟩ := hv.shape
  have HV := hide hv
  have HN := hide hn
  clear hv hn
  have c0 : ∀ w1 w2 : World, Below w.heap.size w w1 → Below w1.heap.size w1 w2 → Below w.heap.size w w2 := fun _ _ a b => below_of a b
  have K : Hid (∀ w1, Below w.heap.size w w1 → Calls Try.prog 27 #[.slice p n c] w1 fun e w' => ∃ v', e = .returned v' ∧ w'.ownsRow w1.heap.size 5 1 v' n (vL .u8 F n) ∧ Below w1.heap.size w1 w') := hide fun w1 h => clone_any F _ n w1 ((unhide HV).below h (Nat.le_refl _)) (unhide HN)
  go_enter Try.func23, Try.ntmps23
  go_wp2
  go_region_held3 (fun w' => w'.cell? ⟨w.heap.size, 0, none⟩ = some (.int .i64 t) ∧ w'.cell? ⟨w.heap.size, 1, none⟩ = some (.slice p n c) ∧ w'.frozen? ⟨w.heap.size + 1, 0, none⟩ = false ∧ w'.frozen? ⟨w.heap.size + 1, 1, none⟩ = false ∧ w.heap.size + 1 < w'.heap.size)
    (first
      | go_keep)
    (first
      | (go_at_call 27; refine ((unhide K) _ (below_drewN (below_alloc (below_alloc (Below.refl _ _) _) _) 1)).mono ?_; rintro e w1 ⟨v1, rfl, o1, b1⟩; obtain ⟨p1, c1, rfl⟩ := owns_shape o1; obtain ⟨h0, h1, h2⟩ := two_step (m := 1) b1; have H0 := hide h0; have H1 := hide h1; have B1 := hide h2; have O1 := hide o1; clear o1 b1 h0 h1 h2; have f0 := (unhide H0).cell (k := 0) rfl; have f1 := (unhide H0).cell (k := 1) rfl; have f2 := (unhide H1).frozen (k := 0); have f3 := (unhide H1).frozen (k := 1); have f4 := (unhide H1).1; have g0 := (unhide H1).cell (k := 0) rfl; have g1 := (unhide H1).cell (k := 1) rfl))
  go_wp2
  have h3 := (unhide H1).set2 (.int .i64 t) (.slice p1 n c1)
  have o2 := owns_setOther (owns_setOther (unhide O1) (a := ⟨w.heap.size + 1, 0, none⟩) (owns_has (unhide O1) (unhide H1) (by decide)) (.int .i64 t)) (a := ⟨w.heap.size + 1, 1, none⟩) (owns_has (unhide O1) (unhide H1) (by decide)) (.slice p1 n c1)
  have b2 := ((unhide B1).setCell (show w.heap.size ≤ (⟨w.heap.size + 1, 0, none⟩ : Addr).block from Nat.le_succ _) (.int .i64 t)).setCell (show w.heap.size ≤ (⟨w.heap.size + 1, 1, none⟩ : Addr).block from Nat.le_succ _) (.slice p1 n c1)
  generalize (w1.setCell ⟨w.heap.size + 1, 0, none⟩ (.int .i64 t)).setCell ⟨w.heap.size + 1, 1, none⟩ (.slice p1 n c1) = w2 at *
  have e0 := h3.cell (k := 0) rfl
  have e1 := h3.cell (k := 1) rfl
  exact bodyPost_ret (v := .agg #[.int .i64 t, .slice p1 n c1]) (by simp [results, Try.results23, go_sem, e0, e1]) rfl ⟨_, rfl, owns_mono o2 (by simp; omega), b2⟩
end Go.Proofs.Ytpaeekpdchmfjaa
