/- The region 'low, high := numbers(least), numbers(most)', whatever order it draws. -/
import Derived.Test.YtokgbolmjfmfpaaM1
namespace Go.Proofs.Ytokgbolmjfmfpaa
open Go.RowKit

def op0 (p0 : String) : Oper := { dst := some 14, op := Op.load 24 (.tmp 3), type := 24, pos := p0, after := #[], guard := none }
def op1 (p1 : String) : Oper := { dst := some 15, op := Op.call { callee := .value (.func 27), args := #[.tmp 14], argTypes := #[24] }, type := 40, pos := p1, after := #[{ on := 0, ground := Ground.data }], guard := none }
def op2 (p2 : String) : Oper := { dst := some 16, op := Op.load 24 (.tmp 4), type := 24, pos := p2, after := #[], guard := none }
def op3 (p3 : String) : Oper := { dst := some 17, op := Op.call { callee := .value (.func 27), args := #[.tmp 16], argTypes := #[24] }, type := 40, pos := p3, after := #[{ on := 2, ground := Ground.data }, { on := 1, ground := Ground.chain }], guard := none }
def op4 (p4 : String) : Oper := { dst := some 5, op := Op.alloc 40, type := 0, pos := p4, after := #[], guard := none }
def op5 (p5 : String) : Oper := { dst := some 6, op := Op.alloc 40, type := 0, pos := p5, after := #[], guard := none }
def op6 (p6 : String) : Oper := { dst := none, op := Op.store 40 (.tmp 5) (.tmp 15), type := 0, pos := p6, after := #[{ on := 4, ground := Ground.data }, { on := 1, ground := Ground.data }, { on := 3, ground := Ground.chain }, { on := 0, ground := Ground.phase }, { on := 1, ground := Ground.phase }, { on := 2, ground := Ground.textOnly Departure.lateStores }, { on := 3, ground := Ground.textOnly Departure.lateStoresUnsure }, { on := 4, ground := Ground.phase }, { on := 5, ground := Ground.phase }], guard := none }
def op7 (p7 : String) : Oper := { dst := none, op := Op.store 40 (.tmp 6) (.tmp 17), type := 0, pos := p7, after := #[{ on := 5, ground := Ground.data }, { on := 3, ground := Ground.data }, { on := 6, ground := Ground.chain }, { on := 0, ground := Ground.phase }, { on := 1, ground := Ground.phase }, { on := 2, ground := Ground.phase }, { on := 3, ground := Ground.phase }, { on := 4, ground := Ground.phase }, { on := 5, ground := Ground.phase }, { on := 6, ground := Ground.phase }], guard := none }
def ops2 (p0 p1 p2 p3 p4 p5 p6 p7 : String) : Array Oper := #[op0 p0, op1 p1, op2 p2, op3 p3, op4 p4, op5 p5, op6 p6, op7 p7]
def ac2 (u0 u1 u2 u3 u4 u9 u10 u11 u12 u13 v5 v6 v14 v15 v16 v17 : Value) : Act := { tmps := #[u0, u1, u2, u3, u4, v5, v6, undef, undef, u9, u10, u11, u12, u13, v14, v15, v16, v17, undef, undef, undef, undef, undef, undef, undef, undef, undef, undef, undef, undef, undef, undef, undef, undef, undef, undef, undef], defers := [] }
set_option maxRecDepth 100000 in
set_option maxHeartbeats 1000000 in
theorem region2 {Q : Exit → Act → World → Prop} (id : Nat) (p0 p1 p2 p3 p4 p5 p6 p7 : String) (u0 u1 u2 u9 u10 u11 u12 u13 : Value) (g3 g4 : Nat) (cL cH aL aH : Array Value) (w : World)
    (hg3 : w.heap[g3]? = some (.cells cL 24)) (hg4 : w.heap[g4]? = some (.cells cH 24)) (sL : cL.size = 16) (sH : cH.size = 16) (tL : aL.size = 14) (tH : aH.size = 14) (oL : aL.all (·.oneCell') = true) (oH : aH.all (·.oneCell') = true)
    (c1 : ∀ w, Calls Try.prog 27 #[.agg cL] w fun e w' => e = .returned (.agg aL) ∧ Below w.heap.size w w') (c2 : ∀ w, Calls Try.prog 27 #[.agg cH] w fun e w' => e = .returned (.agg aH) ∧ Below w.heap.size w w')
    (h : ∀ g5 g6 w', Below w.heap.size w w' → w.heap.size ≤ g5 → w.heap.size ≤ g6 → w'.heap[g5]? = some (.cells aL 40) → w'.heap[g6]? = some (.cells aH 40) → Q .normal (ac2 u0 u1 u2 (.pointer (some ⟨g3, 0, none⟩)) (.pointer (some ⟨g4, 0, none⟩)) u9 u10 u11 u12 u13 (.pointer (some ⟨g5, 0, none⟩)) (.pointer (some ⟨g6, 0, none⟩)) (.agg cL) (.agg aL) (.agg cH) (.agg aH)) w') :
    (Code.region id (ops2 p0 p1 p2 p3 p4 p5 p6 p7) true).wp Try.prog Q (ac2 u0 u1 u2 (.pointer (some ⟨g3, 0, none⟩)) (.pointer (some ⟨g4, 0, none⟩)) u9 u10 u11 u12 u13 undef undef undef undef undef undef) w := by
  have b3 : g3 < w.heap.size := (Array.getElem?_eq_some_iff.1 hg3).1
  have b4 : g4 < w.heap.size := (Array.getElem?_eq_some_iff.1 hg4).1
  refine wp_region_noPanic ?_
  have hQ : ∀ c a d v w, NoPanic Q (.panic c) (a.put d v) w → NoPanic Q (.panic c) a w := fun _ _ _ _ _ h => h
  have t211 : ∀ (g5 : Nat) (g6 : Nat) (x : World), Below w.heap.size w x → g5 ≠ g6 → w.heap.size ≤ g5 → x.heap[g5]? = some (.cells zero14 40) → w.heap.size ≤ g6 → x.heap[g6]? = some (.cells zero14 40) → wpAnyH Try.prog .any (ops2 p0 p1 p2 p3 p4 p5 p6 p7) (NoPanic Q) (fun w' => Below w.heap.size w w') 2 #[true, true, true, true, true, true, false, false] (ac2 u0 u1 u2 (.pointer (some ⟨g3, 0, none⟩)) (.pointer (some ⟨g4, 0, none⟩)) u9 u10 u11 u12 u13 (.pointer (some ⟨g5, 0, none⟩)) (.pointer (some ⟨g6, 0, none⟩)) (.agg cL) (.agg aL) (.agg cH) (.agg aH)) x := by
    intro g5 g6 x bx ne l5 h5 l6 h6
    refine wpAnyH_all (rs := [6]) (by kernel_rfl) (by simp) ?_
    intro i hi
    obtain rfl : i = 6 := by simpa using hi
    refine wpOp_skip2 (o := op6 p6) rfl rfl (run_store40 x g5 zero14 aL h5 rfl tL oL _ _ _ rfl _ rfl rfl) ⟨below_setRow bx l5, ?_⟩
    refine wpAnyH_all (rs := [7]) (by kernel_rfl) (by simp) ?_
    intro i hi
    obtain rfl : i = 7 := by simpa using hi
    refine wpOp_skip2 (o := op7 p7) rfl rfl (run_store40 (x.setRow g5 aL) g6 zero14 aH ((setRow_other x g5 g6 aL (fun e => ne e.symm)).trans h6) rfl tH oH _ _ _ rfl _ rfl rfl) ⟨below_setRow (below_setRow bx l5) l6, ?_⟩
    exact wpAnyH_done (by kernel_rfl) (NoPanic.normal (h g5 g6 _ (below_setRow (below_setRow bx l5) l6) l5 l6 ((setRow_other _ g6 g5 aH ne).trans (setRow_heap x g5 _ aL 40 _ h5)) (setRow_heap _ g6 _ aH 40 _ ((setRow_other x g5 g6 aL (fun e => ne e.symm)).trans h6)))) _
  have t210 : ∀ (g5 : Nat) (x : World), Below w.heap.size w x → w.heap.size ≤ g5 → x.heap[g5]? = some (.cells zero14 40) → wpAnyH Try.prog .any (ops2 p0 p1 p2 p3 p4 p5 p6 p7) (NoPanic Q) (fun w' => Below w.heap.size w w') 3 #[true, true, true, true, true, false, false, false] (ac2 u0 u1 u2 (.pointer (some ⟨g3, 0, none⟩)) (.pointer (some ⟨g4, 0, none⟩)) u9 u10 u11 u12 u13 (.pointer (some ⟨g5, 0, none⟩)) undef (.agg cL) (.agg aL) (.agg cH) (.agg aH)) x := by
    intro g5 x bx l5 h5
    refine wpAnyH_all (rs := [5]) (by kernel_rfl) (by simp) ?_
    intro i hi
    obtain rfl : i = 5 := by simpa using hi
    refine wpOp_value (o := op5 p5) rfl rfl _ (run_alloc40 x _ rfl _) ⟨bx.alloc bx.size _, ?_⟩
    exact t211 g5 (x.heap.size) _ (bx.alloc bx.size _) (by have := (Array.getElem?_eq_some_iff.1 h5).1; omega) l5 ((Below.heap_alloc x _ g5 (Array.getElem?_eq_some_iff.1 h5).1).trans h5) bx.size (heap_alloc_new x _)
  have t201 : ∀ (g6 : Nat) (x : World), Below w.heap.size w x → w.heap.size ≤ g6 → x.heap[g6]? = some (.cells zero14 40) → wpAnyH Try.prog .any (ops2 p0 p1 p2 p3 p4 p5 p6 p7) (NoPanic Q) (fun w' => Below w.heap.size w w') 3 #[true, true, true, true, false, true, false, false] (ac2 u0 u1 u2 (.pointer (some ⟨g3, 0, none⟩)) (.pointer (some ⟨g4, 0, none⟩)) u9 u10 u11 u12 u13 undef (.pointer (some ⟨g6, 0, none⟩)) (.agg cL) (.agg aL) (.agg cH) (.agg aH)) x := by
    intro g6 x bx l6 h6
    refine wpAnyH_all (rs := [4]) (by kernel_rfl) (by simp) ?_
    intro i hi
    obtain rfl : i = 4 := by simpa using hi
    refine wpOp_value (o := op4 p4) rfl rfl _ (run_alloc40 x _ rfl _) ⟨bx.alloc bx.size _, ?_⟩
    exact t211 (x.heap.size) g6 _ (bx.alloc bx.size _) (by have := (Array.getElem?_eq_some_iff.1 h6).1; omega) bx.size (heap_alloc_new x _) l6 ((Below.heap_alloc x _ g6 (Array.getElem?_eq_some_iff.1 h6).1).trans h6)
  have t200 : ∀ (x : World), Below w.heap.size w x → wpAnyH Try.prog .any (ops2 p0 p1 p2 p3 p4 p5 p6 p7) (NoPanic Q) (fun w' => Below w.heap.size w w') 4 #[true, true, true, true, false, false, false, false] (ac2 u0 u1 u2 (.pointer (some ⟨g3, 0, none⟩)) (.pointer (some ⟨g4, 0, none⟩)) u9 u10 u11 u12 u13 undef undef (.agg cL) (.agg aL) (.agg cH) (.agg aH)) x := by
    intro x bx
    refine wpAnyH_all (rs := [4, 5]) (by kernel_rfl) (by simp) ?_
    intro i hi
    have hi2 : i = 4 ∨ i = 5 := by simpa using hi
    rcases hi2 with rfl | rfl
    · refine wpOp_value (o := op4 p4) rfl rfl _ (run_alloc40 x _ rfl _) ⟨bx.alloc bx.size _, ?_⟩
      exact t210 (x.heap.size) _ (bx.alloc bx.size _) bx.size (heap_alloc_new x _)
    · refine wpOp_value (o := op5 p5) rfl rfl _ (run_alloc40 x _ rfl _) ⟨bx.alloc bx.size _, ?_⟩
      exact t201 (x.heap.size) _ (bx.alloc bx.size _) bx.size (heap_alloc_new x _)
  have t111 : ∀ (g5 : Nat) (g6 : Nat) (x : World), Below w.heap.size w x → g5 ≠ g6 → w.heap.size ≤ g5 → x.heap[g5]? = some (.cells zero14 40) → w.heap.size ≤ g6 → x.heap[g6]? = some (.cells zero14 40) → wpAnyH Try.prog .any (ops2 p0 p1 p2 p3 p4 p5 p6 p7) (NoPanic Q) (fun w' => Below w.heap.size w w') 3 #[true, true, true, false, true, true, false, false] (ac2 u0 u1 u2 (.pointer (some ⟨g3, 0, none⟩)) (.pointer (some ⟨g4, 0, none⟩)) u9 u10 u11 u12 u13 (.pointer (some ⟨g5, 0, none⟩)) (.pointer (some ⟨g6, 0, none⟩)) (.agg cL) (.agg aL) (.agg cH) undef) x := by
    intro g5 g6 x bx ne l5 h5 l6 h6
    refine wpAnyH_all (rs := [3]) (by kernel_rfl) (by simp) ?_
    intro i hi
    obtain rfl : i = 3 := by simpa using hi
    refine wpOp_call (o := op3 p3) rfl rfl 27 #[.agg cH] (.agg aH) (run_call1 27 call27 x _ _ _ rfl _ _ rfl) (c2 x) (fun y by2 => ⟨bx.trans (by2.mono bx.size), ?_⟩)
    exact t211 g5 g6 _ (bx.trans (by2.mono bx.size)) ne l5 ((by2.block g5 (Array.getElem?_eq_some_iff.1 h5).1).trans h5) l6 ((by2.block g6 (Array.getElem?_eq_some_iff.1 h6).1).trans h6)
  have t110 : ∀ (g5 : Nat) (x : World), Below w.heap.size w x → w.heap.size ≤ g5 → x.heap[g5]? = some (.cells zero14 40) → wpAnyH Try.prog .any (ops2 p0 p1 p2 p3 p4 p5 p6 p7) (NoPanic Q) (fun w' => Below w.heap.size w w') 4 #[true, true, true, false, true, false, false, false] (ac2 u0 u1 u2 (.pointer (some ⟨g3, 0, none⟩)) (.pointer (some ⟨g4, 0, none⟩)) u9 u10 u11 u12 u13 (.pointer (some ⟨g5, 0, none⟩)) undef (.agg cL) (.agg aL) (.agg cH) undef) x := by
    intro g5 x bx l5 h5
    refine wpAnyH_all (rs := [3, 5]) (by kernel_rfl) (by simp) ?_
    intro i hi
    have hi2 : i = 3 ∨ i = 5 := by simpa using hi
    rcases hi2 with rfl | rfl
    · refine wpOp_call (o := op3 p3) rfl rfl 27 #[.agg cH] (.agg aH) (run_call1 27 call27 x _ _ _ rfl _ _ rfl) (c2 x) (fun y by2 => ⟨bx.trans (by2.mono bx.size), ?_⟩)
      exact t210 g5 _ (bx.trans (by2.mono bx.size)) l5 ((by2.block g5 (Array.getElem?_eq_some_iff.1 h5).1).trans h5)
    · refine wpOp_value (o := op5 p5) rfl rfl _ (run_alloc40 x _ rfl _) ⟨bx.alloc bx.size _, ?_⟩
      exact t111 g5 (x.heap.size) _ (bx.alloc bx.size _) (by have := (Array.getElem?_eq_some_iff.1 h5).1; omega) l5 ((Below.heap_alloc x _ g5 (Array.getElem?_eq_some_iff.1 h5).1).trans h5) bx.size (heap_alloc_new x _)
  have t101 : ∀ (g6 : Nat) (x : World), Below w.heap.size w x → w.heap.size ≤ g6 → x.heap[g6]? = some (.cells zero14 40) → wpAnyH Try.prog .any (ops2 p0 p1 p2 p3 p4 p5 p6 p7) (NoPanic Q) (fun w' => Below w.heap.size w w') 4 #[true, true, true, false, false, true, false, false] (ac2 u0 u1 u2 (.pointer (some ⟨g3, 0, none⟩)) (.pointer (some ⟨g4, 0, none⟩)) u9 u10 u11 u12 u13 undef (.pointer (some ⟨g6, 0, none⟩)) (.agg cL) (.agg aL) (.agg cH) undef) x := by
    intro g6 x bx l6 h6
    refine wpAnyH_all (rs := [3, 4]) (by kernel_rfl) (by simp) ?_
    intro i hi
    have hi2 : i = 3 ∨ i = 4 := by simpa using hi
    rcases hi2 with rfl | rfl
    · refine wpOp_call (o := op3 p3) rfl rfl 27 #[.agg cH] (.agg aH) (run_call1 27 call27 x _ _ _ rfl _ _ rfl) (c2 x) (fun y by2 => ⟨bx.trans (by2.mono bx.size), ?_⟩)
      exact t201 g6 _ (bx.trans (by2.mono bx.size)) l6 ((by2.block g6 (Array.getElem?_eq_some_iff.1 h6).1).trans h6)
    · refine wpOp_value (o := op4 p4) rfl rfl _ (run_alloc40 x _ rfl _) ⟨bx.alloc bx.size _, ?_⟩
      exact t111 (x.heap.size) g6 _ (bx.alloc bx.size _) (by have := (Array.getElem?_eq_some_iff.1 h6).1; omega) bx.size (heap_alloc_new x _) l6 ((Below.heap_alloc x _ g6 (Array.getElem?_eq_some_iff.1 h6).1).trans h6)
  have t100 : ∀ (x : World), Below w.heap.size w x → wpAnyH Try.prog .any (ops2 p0 p1 p2 p3 p4 p5 p6 p7) (NoPanic Q) (fun w' => Below w.heap.size w w') 5 #[true, true, true, false, false, false, false, false] (ac2 u0 u1 u2 (.pointer (some ⟨g3, 0, none⟩)) (.pointer (some ⟨g4, 0, none⟩)) u9 u10 u11 u12 u13 undef undef (.agg cL) (.agg aL) (.agg cH) undef) x := by
    intro x bx
    refine wpAnyH_all (rs := [3, 4, 5]) (by kernel_rfl) (by simp) ?_
    intro i hi
    have hi2 : i = 3 ∨ i = 4 ∨ i = 5 := by simpa using hi
    rcases hi2 with rfl | rfl | rfl
    · refine wpOp_call (o := op3 p3) rfl rfl 27 #[.agg cH] (.agg aH) (run_call1 27 call27 x _ _ _ rfl _ _ rfl) (c2 x) (fun y by2 => ⟨bx.trans (by2.mono bx.size), ?_⟩)
      exact t200  _ (bx.trans (by2.mono bx.size))
    · refine wpOp_value (o := op4 p4) rfl rfl _ (run_alloc40 x _ rfl _) ⟨bx.alloc bx.size _, ?_⟩
      exact t110 (x.heap.size) _ (bx.alloc bx.size _) bx.size (heap_alloc_new x _)
    · refine wpOp_value (o := op5 p5) rfl rfl _ (run_alloc40 x _ rfl _) ⟨bx.alloc bx.size _, ?_⟩
      exact t101 (x.heap.size) _ (bx.alloc bx.size _) bx.size (heap_alloc_new x _)
  have t011 : ∀ (g5 : Nat) (g6 : Nat) (x : World), Below w.heap.size w x → g5 ≠ g6 → w.heap.size ≤ g5 → x.heap[g5]? = some (.cells zero14 40) → w.heap.size ≤ g6 → x.heap[g6]? = some (.cells zero14 40) → wpAnyH Try.prog .any (ops2 p0 p1 p2 p3 p4 p5 p6 p7) (NoPanic Q) (fun w' => Below w.heap.size w w') 4 #[true, false, true, false, true, true, false, false] (ac2 u0 u1 u2 (.pointer (some ⟨g3, 0, none⟩)) (.pointer (some ⟨g4, 0, none⟩)) u9 u10 u11 u12 u13 (.pointer (some ⟨g5, 0, none⟩)) (.pointer (some ⟨g6, 0, none⟩)) (.agg cL) undef (.agg cH) undef) x := by
    intro g5 g6 x bx ne l5 h5 l6 h6
    refine wpAnyH_all (rs := [1]) (by kernel_rfl) (by simp) ?_
    intro i hi
    obtain rfl : i = 1 := by simpa using hi
    refine wpOp_call (o := op1 p1) rfl rfl 27 #[.agg cL] (.agg aL) (run_call1 27 call27 x _ _ _ rfl _ _ rfl) (c1 x) (fun y by2 => ⟨bx.trans (by2.mono bx.size), ?_⟩)
    exact t111 g5 g6 _ (bx.trans (by2.mono bx.size)) ne l5 ((by2.block g5 (Array.getElem?_eq_some_iff.1 h5).1).trans h5) l6 ((by2.block g6 (Array.getElem?_eq_some_iff.1 h6).1).trans h6)
  have t010 : ∀ (g5 : Nat) (x : World), Below w.heap.size w x → w.heap.size ≤ g5 → x.heap[g5]? = some (.cells zero14 40) → wpAnyH Try.prog .any (ops2 p0 p1 p2 p3 p4 p5 p6 p7) (NoPanic Q) (fun w' => Below w.heap.size w w') 5 #[true, false, true, false, true, false, false, false] (ac2 u0 u1 u2 (.pointer (some ⟨g3, 0, none⟩)) (.pointer (some ⟨g4, 0, none⟩)) u9 u10 u11 u12 u13 (.pointer (some ⟨g5, 0, none⟩)) undef (.agg cL) undef (.agg cH) undef) x := by
    intro g5 x bx l5 h5
    refine wpAnyH_all (rs := [1, 5]) (by kernel_rfl) (by simp) ?_
    intro i hi
    have hi2 : i = 1 ∨ i = 5 := by simpa using hi
    rcases hi2 with rfl | rfl
    · refine wpOp_call (o := op1 p1) rfl rfl 27 #[.agg cL] (.agg aL) (run_call1 27 call27 x _ _ _ rfl _ _ rfl) (c1 x) (fun y by2 => ⟨bx.trans (by2.mono bx.size), ?_⟩)
      exact t110 g5 _ (bx.trans (by2.mono bx.size)) l5 ((by2.block g5 (Array.getElem?_eq_some_iff.1 h5).1).trans h5)
    · refine wpOp_value (o := op5 p5) rfl rfl _ (run_alloc40 x _ rfl _) ⟨bx.alloc bx.size _, ?_⟩
      exact t011 g5 (x.heap.size) _ (bx.alloc bx.size _) (by have := (Array.getElem?_eq_some_iff.1 h5).1; omega) l5 ((Below.heap_alloc x _ g5 (Array.getElem?_eq_some_iff.1 h5).1).trans h5) bx.size (heap_alloc_new x _)
  have t001 : ∀ (g6 : Nat) (x : World), Below w.heap.size w x → w.heap.size ≤ g6 → x.heap[g6]? = some (.cells zero14 40) → wpAnyH Try.prog .any (ops2 p0 p1 p2 p3 p4 p5 p6 p7) (NoPanic Q) (fun w' => Below w.heap.size w w') 5 #[true, false, true, false, false, true, false, false] (ac2 u0 u1 u2 (.pointer (some ⟨g3, 0, none⟩)) (.pointer (some ⟨g4, 0, none⟩)) u9 u10 u11 u12 u13 undef (.pointer (some ⟨g6, 0, none⟩)) (.agg cL) undef (.agg cH) undef) x := by
    intro g6 x bx l6 h6
    refine wpAnyH_all (rs := [1, 4]) (by kernel_rfl) (by simp) ?_
    intro i hi
    have hi2 : i = 1 ∨ i = 4 := by simpa using hi
    rcases hi2 with rfl | rfl
    · refine wpOp_call (o := op1 p1) rfl rfl 27 #[.agg cL] (.agg aL) (run_call1 27 call27 x _ _ _ rfl _ _ rfl) (c1 x) (fun y by2 => ⟨bx.trans (by2.mono bx.size), ?_⟩)
      exact t101 g6 _ (bx.trans (by2.mono bx.size)) l6 ((by2.block g6 (Array.getElem?_eq_some_iff.1 h6).1).trans h6)
    · refine wpOp_value (o := op4 p4) rfl rfl _ (run_alloc40 x _ rfl _) ⟨bx.alloc bx.size _, ?_⟩
      exact t011 (x.heap.size) g6 _ (bx.alloc bx.size _) (by have := (Array.getElem?_eq_some_iff.1 h6).1; omega) bx.size (heap_alloc_new x _) l6 ((Below.heap_alloc x _ g6 (Array.getElem?_eq_some_iff.1 h6).1).trans h6)
  have t000 : ∀ (x : World), Below w.heap.size w x → wpAnyH Try.prog .any (ops2 p0 p1 p2 p3 p4 p5 p6 p7) (NoPanic Q) (fun w' => Below w.heap.size w w') 6 #[true, false, true, false, false, false, false, false] (ac2 u0 u1 u2 (.pointer (some ⟨g3, 0, none⟩)) (.pointer (some ⟨g4, 0, none⟩)) u9 u10 u11 u12 u13 undef undef (.agg cL) undef (.agg cH) undef) x := by
    intro x bx
    refine wpAnyH_all (rs := [1, 4, 5]) (by kernel_rfl) (by simp) ?_
    intro i hi
    have hi2 : i = 1 ∨ i = 4 ∨ i = 5 := by simpa using hi
    rcases hi2 with rfl | rfl | rfl
    · refine wpOp_call (o := op1 p1) rfl rfl 27 #[.agg cL] (.agg aL) (run_call1 27 call27 x _ _ _ rfl _ _ rfl) (c1 x) (fun y by2 => ⟨bx.trans (by2.mono bx.size), ?_⟩)
      exact t100  _ (bx.trans (by2.mono bx.size))
    · refine wpOp_value (o := op4 p4) rfl rfl _ (run_alloc40 x _ rfl _) ⟨bx.alloc bx.size _, ?_⟩
      exact t010 (x.heap.size) _ (bx.alloc bx.size _) bx.size (heap_alloc_new x _)
    · refine wpOp_value (o := op5 p5) rfl rfl _ (run_alloc40 x _ rfl _) ⟨bx.alloc bx.size _, ?_⟩
      exact t001 (x.heap.size) _ (bx.alloc bx.size _) bx.size (heap_alloc_new x _)
  refine wp_region_held (S := fun w' => Below w.heap.size w w') (by kernel_rfl) ?_
  refine wpAnyH_take (i := 0) (v := .agg cL) rfl (by kernel_rfl) (by kernel_rfl) (by kernel_rfl) (fun c a w => hQ c a _ _ w) (.inl ⟨rfl, fun w' hS => run_load24 w' g3 cL ((hS.block g3 b3).trans hg3) sL _ _ rfl _ rfl⟩) (Below.refl _ w).drew ?_
  refine wpAnyH_take (i := 2) (v := .agg cH) rfl (by kernel_rfl) (by kernel_rfl) (by kernel_rfl) (fun c a w => hQ c a _ _ w) (.inl ⟨rfl, fun w' hS => run_load24 w' g4 cH ((hS.block g4 b4).trans hg4) sH _ _ rfl _ rfl⟩) (Below.refl _ w).drew ?_
  exact t000 _ (Below.refl _ w).drew
end Go.Proofs.Ytokgbolmjfmfpaa
