/- The region 'low, high := numbers(least), numbers(most)', whatever order it draws. Walk of nodesRight. Walks of fewNodes and of the page's nodes. Walk of the page's Unlike. Walk of msg.Unlike: a sorted copy has two alike side by side just if two are alike. Walks of slices.Grow of nothing and of slices.Concat of two slices. Walk of listsRight. Walk of keep.Ints. Slices of bytes; walks of Twin and keep.Bytes of what is the same. -/
import Derived.Test.YtmcmiojidgdjpaaBv3
import Derived.Test.YtmcmiojidgdjpaaBv2
import Derived.Test.YtmcmiojidgdjpaaBv1
import Derived.Sort.WalkC
import Derived.Lib.RowBridge
import Derived.Lib.AppendZerosOnto
import Derived.LoopN
import Derived.WalkKit
import Derived.WalkSpells
import Derived.StillTactics
import Derived.Laws.Pointers
import Derived.RowKit3
import Derived.Deep.QuietTactic
import Derived.BigQuiet
import Derived.Deep.OwnRows
import Derived.Laws.Rows
import Derived.Laws.Tables
import Derived.Laws.AppendOwn
import Derived.Laws.AppendOwnNone
import Derived.Laws.OwnMore
import Derived.OwnWalk
import Derived.Deep.DeepCutAuto
namespace Go.Proofs.Ytmcmiojidgdjpaa
open Go.RowKit

def op0 (p0 : String) : Oper := { dst := some 14, op := Op.load 24 (.tmp 3), type := 24, pos := p0, after := #[], guard := none }
def op1 (p1 : String) : Oper := { dst := some 15, op := Op.call { callee := .value (.func 58), args := #[.tmp 14], argTypes := #[24] }, type := 65, pos := p1, after := #[{ on := 0, ground := Ground.data }], guard := none }
def op2 (p2 : String) : Oper := { dst := some 16, op := Op.load 24 (.tmp 4), type := 24, pos := p2, after := #[], guard := none }
def op3 (p3 : String) : Oper := { dst := some 17, op := Op.call { callee := .value (.func 58), args := #[.tmp 16], argTypes := #[24] }, type := 65, pos := p3, after := #[{ on := 2, ground := Ground.data }, { on := 1, ground := Ground.chain }], guard := none }
def op4 (p4 : String) : Oper := { dst := some 5, op := Op.alloc 65, type := 0, pos := p4, after := #[], guard := none }
def op5 (p5 : String) : Oper := { dst := some 6, op := Op.alloc 65, type := 0, pos := p5, after := #[], guard := none }
def op6 (p6 : String) : Oper := { dst := none, op := Op.store 65 (.tmp 5) (.tmp 15), type := 0, pos := p6, after := #[{ on := 4, ground := Ground.data }, { on := 1, ground := Ground.data }, { on := 3, ground := Ground.chain }, { on := 0, ground := Ground.phase }, { on := 1, ground := Ground.phase }, { on := 2, ground := Ground.textOnly Departure.lateStores }, { on := 3, ground := Ground.textOnly Departure.lateStoresUnsure }, { on := 4, ground := Ground.phase }, { on := 5, ground := Ground.phase }], guard := none }
def op7 (p7 : String) : Oper := { dst := none, op := Op.store 65 (.tmp 6) (.tmp 17), type := 0, pos := p7, after := #[{ on := 5, ground := Ground.data }, { on := 3, ground := Ground.data }, { on := 6, ground := Ground.chain }, { on := 0, ground := Ground.phase }, { on := 1, ground := Ground.phase }, { on := 2, ground := Ground.phase }, { on := 3, ground := Ground.phase }, { on := 4, ground := Ground.phase }, { on := 5, ground := Ground.phase }, { on := 6, ground := Ground.phase }], guard := none }
def ops2 (p0 p1 p2 p3 p4 p5 p6 p7 : String) : Array Oper := #[op0 p0, op1 p1, op2 p2, op3 p3, op4 p4, op5 p5, op6 p6, op7 p7]
def ac2 (u0 u1 u2 u3 u4 u9 u10 u11 u12 u13 v5 v6 v14 v15 v16 v17 : Value) : Act := { tmps := #[u0, u1, u2, u3, u4, v5, v6, undef, undef, u9, u10, u11, u12, u13, v14, v15, v16, v17, undef, undef, undef, undef, undef, undef, undef, undef, undef, undef, undef, undef, undef, undef, undef, undef, undef, undef, undef], defers := [] }
set_option maxRecDepth 100000 in
set_option maxHeartbeats 1000000 in
theorem region2 {Q : Exit → Act → World → Prop} (id : Nat) (p0 p1 p2 p3 p4 p5 p6 p7 : String) (u0 u1 u2 u9 u10 u11 u12 u13 : Value) (g3 g4 : Nat) (cL cH aL aH : Array Value) (w : World)
    (hg3 : w.heap[g3]? = some (.cells cL 24)) (hg4 : w.heap[g4]? = some (.cells cH 24)) (sL : cL.size = 16) (sH : cH.size = 16) (tL : aL.size = 14) (tH : aH.size = 14) (oL : aL.all (·.oneCell') = true) (oH : aH.all (·.oneCell') = true)
    (c1 : ∀ w, Calls Try.prog 58 #[.agg cL] w fun e w' => e = .returned (.agg aL) ∧ Below w.heap.size w w') (c2 : ∀ w, Calls Try.prog 58 #[.agg cH] w fun e w' => e = .returned (.agg aH) ∧ Below w.heap.size w w')
    (h : ∀ g5 g6 w', Below w.heap.size w w' → w.heap.size ≤ g5 → w.heap.size ≤ g6 → w'.heap[g5]? = some (.cells aL 65) → w'.heap[g6]? = some (.cells aH 65) → Q .normal (ac2 u0 u1 u2 (.pointer (some ⟨g3, 0, none⟩)) (.pointer (some ⟨g4, 0, none⟩)) u9 u10 u11 u12 u13 (.pointer (some ⟨g5, 0, none⟩)) (.pointer (some ⟨g6, 0, none⟩)) (.agg cL) (.agg aL) (.agg cH) (.agg aH)) w') :
    (Code.region id (ops2 p0 p1 p2 p3 p4 p5 p6 p7) true).wp Try.prog Q (ac2 u0 u1 u2 (.pointer (some ⟨g3, 0, none⟩)) (.pointer (some ⟨g4, 0, none⟩)) u9 u10 u11 u12 u13 undef undef undef undef undef undef) w := by
  have b3 : g3 < w.heap.size := (Array.getElem?_eq_some_iff.1 hg3).1
  have b4 : g4 < w.heap.size := (Array.getElem?_eq_some_iff.1 hg4).1
  refine wp_region_noPanic ?_
  have hQ : ∀ c a d v w, NoPanic Q (.panic c) (a.put d v) w → NoPanic Q (.panic c) a w := fun _ _ _ _ _ h => h
  have t211 : ∀ (g5 : Nat) (g6 : Nat) (x : World), Below w.heap.size w x → g5 ≠ g6 → w.heap.size ≤ g5 → x.heap[g5]? = some (.cells zero14 65) → w.heap.size ≤ g6 → x.heap[g6]? = some (.cells zero14 65) → wpAnyH Try.prog .any (ops2 p0 p1 p2 p3 p4 p5 p6 p7) (NoPanic Q) (fun w' => Below w.heap.size w w') 2 #[true, true, true, true, true, true, false, false] (ac2 u0 u1 u2 (.pointer (some ⟨g3, 0, none⟩)) (.pointer (some ⟨g4, 0, none⟩)) u9 u10 u11 u12 u13 (.pointer (some ⟨g5, 0, none⟩)) (.pointer (some ⟨g6, 0, none⟩)) (.agg cL) (.agg aL) (.agg cH) (.agg aH)) x := by
    intro g5 g6 x bx ne l5 h5 l6 h6
    refine wpAnyH_all (rs := [6]) (by kernel_rfl) (by simp) ?_
    intro i hi
    obtain rfl : i = 6 := by simpa using hi
    refine wpOp_skip2 (o := op6 p6) rfl rfl (run_store40 x g5 zero14 aL h5 rfl tL oL _ _ _ rfl _ rfl rfl) ⟨below_setRow bx l5, ?_⟩
    refine wpAnyH_all (rs := [7]) (by kernel_rfl) (by simp) ?_
    intro i hi
    obtain rfl : i = 7 := by simpa using hi
    refine wpOp_skip2 (o := op7 p7) rfl rfl (run_store40 (x.setRow g5 aL) g6 zero14 aH ((setRow_other x g5 g6 aL (fun e => ne e.symm)).trans h6) rfl tH oH _ _ _ rfl _ rfl rfl) ⟨below_setRow (below_setRow bx l5) l6, ?_⟩
    exact wpAnyH_done (by kernel_rfl) (NoPanic.normal (h g5 g6 _ (below_setRow (below_setRow bx l5) l6) l5 l6 ((setRow_other _ g6 g5 aH ne).trans (setRow_heap x g5 _ aL 65 _ h5)) (setRow_heap _ g6 _ aH 65 _ ((setRow_other x g5 g6 aL (fun e => ne e.symm)).trans h6)))) _
  have t210 : ∀ (g5 : Nat) (x : World), Below w.heap.size w x → w.heap.size ≤ g5 → x.heap[g5]? = some (.cells zero14 65) → wpAnyH Try.prog .any (ops2 p0 p1 p2 p3 p4 p5 p6 p7) (NoPanic Q) (fun w' => Below w.heap.size w w') 3 #[true, true, true, true, true, false, false, false] (ac2 u0 u1 u2 (.pointer (some ⟨g3, 0, none⟩)) (.pointer (some ⟨g4, 0, none⟩)) u9 u10 u11 u12 u13 (.pointer (some ⟨g5, 0, none⟩)) undef (.agg cL) (.agg aL) (.agg cH) (.agg aH)) x := by
    intro g5 x bx l5 h5
    refine wpAnyH_all (rs := [5]) (by kernel_rfl) (by simp) ?_
    intro i hi
    obtain rfl : i = 5 := by simpa using hi
    refine wpOp_value (o := op5 p5) rfl rfl _ (run_alloc40 x _ rfl _) ⟨bx.alloc bx.size _, ?_⟩
    exact t211 g5 (x.heap.size) _ (bx.alloc bx.size _) (by have := (Array.getElem?_eq_some_iff.1 h5).1; omega) l5 ((Below.heap_alloc x _ g5 (Array.getElem?_eq_some_iff.1 h5).1).trans h5) bx.size (heap_alloc_new x _)
  have t201 : ∀ (g6 : Nat) (x : World), Below w.heap.size w x → w.heap.size ≤ g6 → x.heap[g6]? = some (.cells zero14 65) → wpAnyH Try.prog .any (ops2 p0 p1 p2 p3 p4 p5 p6 p7) (NoPanic Q) (fun w' => Below w.heap.size w w') 3 #[true, true, true, true, false, true, false, false] (ac2 u0 u1 u2 (.pointer (some ⟨g3, 0, none⟩)) (.pointer (some ⟨g4, 0, none⟩)) u9 u10 u11 u12 u13 undef (.pointer (some ⟨g6, 0, none⟩)) (.agg cL) (.agg aL) (.agg cH) (.agg aH)) x := by
    intro g6 x bx l6 h6
    refine wpAnyH_all (rs := [4]) (by kernel_rfl) (by simp) ?_
    intro i hi
    obtain rfl : i = 4 := by simpa using hi
    refine wpOp_value (o := op4 p4) rfl rfl _ (run_alloc40 x _ rfl _) ⟨bx.alloc bx.size _, ?_⟩
    exact t211 (x.heap.size) g6 _ (bx.alloc bx.size _) (by have := (Array.getElem?_eq_some_iff.1 h6).1; omega) bx.size (heap_alloc_new x _) l6 ((Below.heap_alloc x _ g6 (Array.getElem?_eq_some_iff.1 h6).1).trans h6)
  have t200 : ∀ (x : World), Below w.heap.size w x → wpAnyH Try.prog .any (ops2 p0 p1 p2 p3 p4 p5 p6 p7) (NoPanic Q) (fun w' => Below w.heap.size w w') 4 #[true, true, true, true, false, false, false, false] (ac2 u0 u1 u2 (.pointer (some ⟨g3, 0, none⟩)) (.pointer (some ⟨g4, 0, none⟩)) u9 u10 u11 u12 u13 undef undef (.agg cL) (.agg aL) (.agg cH) (.agg aH)) x := by
    intro x bx
    refine wpAnyH_all (rs := [4, 5]) (by kernel_rfl) (by simp) ?_
    intro i hi
    have hi2 : i = 4 ∨ i = 5 := by simpa using hi
    rcases hi2 with rfl | rfl
    · refine wpOp_value (o := op4 p4) rfl rfl _ (run_alloc40 x _ rfl _) ⟨bx.alloc bx.size _, ?_⟩
      exact t210 (x.heap.size) _ (bx.alloc bx.size _) bx.size (heap_alloc_new x _)
    · refine wpOp_value (o := op5 p5) rfl rfl _ (run_alloc40 x _ rfl _) ⟨bx.alloc bx.size _, ?_⟩
      exact t201 (x.heap.size) _ (bx.alloc bx.size _) bx.size (heap_alloc_new x _)
  have t111 : ∀ (g5 : Nat) (g6 : Nat) (x : World), Below w.heap.size w x → g5 ≠ g6 → w.heap.size ≤ g5 → x.heap[g5]? = some (.cells zero14 65) → w.heap.size ≤ g6 → x.heap[g6]? = some (.cells zero14 65) → wpAnyH Try.prog .any (ops2 p0 p1 p2 p3 p4 p5 p6 p7) (NoPanic Q) (fun w' => Below w.heap.size w w') 3 #[true, true, true, false, true, true, false, false] (ac2 u0 u1 u2 (.pointer (some ⟨g3, 0, none⟩)) (.pointer (some ⟨g4, 0, none⟩)) u9 u10 u11 u12 u13 (.pointer (some ⟨g5, 0, none⟩)) (.pointer (some ⟨g6, 0, none⟩)) (.agg cL) (.agg aL) (.agg cH) undef) x := by
    intro g5 g6 x bx ne l5 h5 l6 h6
    refine wpAnyH_all (rs := [3]) (by kernel_rfl) (by simp) ?_
    intro i hi
    obtain rfl : i = 3 := by simpa using hi
    refine wpOp_call (o := op3 p3) rfl rfl 58 #[.agg cH] (.agg aH) (run_call1 58 call27 x _ _ _ rfl _ _ rfl) (c2 x) (fun y by2 => ⟨bx.trans (by2.mono bx.size), ?_⟩)
    exact t211 g5 g6 _ (bx.trans (by2.mono bx.size)) ne l5 ((by2.block g5 (Array.getElem?_eq_some_iff.1 h5).1).trans h5) l6 ((by2.block g6 (Array.getElem?_eq_some_iff.1 h6).1).trans h6)
  have t110 : ∀ (g5 : Nat) (x : World), Below w.heap.size w x → w.heap.size ≤ g5 → x.heap[g5]? = some (.cells zero14 65) → wpAnyH Try.prog .any (ops2 p0 p1 p2 p3 p4 p5 p6 p7) (NoPanic Q) (fun w' => Below w.heap.size w w') 4 #[true, true, true, false, true, false, false, false] (ac2 u0 u1 u2 (.pointer (some ⟨g3, 0, none⟩)) (.pointer (some ⟨g4, 0, none⟩)) u9 u10 u11 u12 u13 (.pointer (some ⟨g5, 0, none⟩)) undef (.agg cL) (.agg aL) (.agg cH) undef) x := by
    intro g5 x bx l5 h5
    refine wpAnyH_all (rs := [3, 5]) (by kernel_rfl) (by simp) ?_
    intro i hi
    have hi2 : i = 3 ∨ i = 5 := by simpa using hi
    rcases hi2 with rfl | rfl
    · refine wpOp_call (o := op3 p3) rfl rfl 58 #[.agg cH] (.agg aH) (run_call1 58 call27 x _ _ _ rfl _ _ rfl) (c2 x) (fun y by2 => ⟨bx.trans (by2.mono bx.size), ?_⟩)
      exact t210 g5 _ (bx.trans (by2.mono bx.size)) l5 ((by2.block g5 (Array.getElem?_eq_some_iff.1 h5).1).trans h5)
    · refine wpOp_value (o := op5 p5) rfl rfl _ (run_alloc40 x _ rfl _) ⟨bx.alloc bx.size _, ?_⟩
      exact t111 g5 (x.heap.size) _ (bx.alloc bx.size _) (by have := (Array.getElem?_eq_some_iff.1 h5).1; omega) l5 ((Below.heap_alloc x _ g5 (Array.getElem?_eq_some_iff.1 h5).1).trans h5) bx.size (heap_alloc_new x _)
  have t101 : ∀ (g6 : Nat) (x : World), Below w.heap.size w x → w.heap.size ≤ g6 → x.heap[g6]? = some (.cells zero14 65) → wpAnyH Try.prog .any (ops2 p0 p1 p2 p3 p4 p5 p6 p7) (NoPanic Q) (fun w' => Below w.heap.size w w') 4 #[true, true, true, false, false, true, false, false] (ac2 u0 u1 u2 (.pointer (some ⟨g3, 0, none⟩)) (.pointer (some ⟨g4, 0, none⟩)) u9 u10 u11 u12 u13 undef (.pointer (some ⟨g6, 0, none⟩)) (.agg cL) (.agg aL) (.agg cH) undef) x := by
    intro g6 x bx l6 h6
    refine wpAnyH_all (rs := [3, 4]) (by kernel_rfl) (by simp) ?_
    intro i hi
    have hi2 : i = 3 ∨ i = 4 := by simpa using hi
    rcases hi2 with rfl | rfl
    · refine wpOp_call (o := op3 p3) rfl rfl 58 #[.agg cH] (.agg aH) (run_call1 58 call27 x _ _ _ rfl _ _ rfl) (c2 x) (fun y by2 => ⟨bx.trans (by2.mono bx.size), ?_⟩)
      exact t201 g6 _ (bx.trans (by2.mono bx.size)) l6 ((by2.block g6 (Array.getElem?_eq_some_iff.1 h6).1).trans h6)
    · refine wpOp_value (o := op4 p4) rfl rfl _ (run_alloc40 x _ rfl _) ⟨bx.alloc bx.size _, ?_⟩
      exact t111 (x.heap.size) g6 _ (bx.alloc bx.size _) (by have := (Array.getElem?_eq_some_iff.1 h6).1; omega) bx.size (heap_alloc_new x _) l6 ((Below.heap_alloc x _ g6 (Array.getElem?_eq_some_iff.1 h6).1).trans h6)
  have t100 : ∀ (x : World), Below w.heap.size w x → wpAnyH Try.prog .any (ops2 p0 p1 p2 p3 p4 p5 p6 p7) (NoPanic Q) (fun w' => Below w.heap.size w w') 5 #[true, true, true, false, false, false, false, false] (ac2 u0 u1 u2 (.pointer (some ⟨g3, 0, none⟩)) (.pointer (some ⟨g4, 0, none⟩)) u9 u10 u11 u12 u13 undef undef (.agg cL) (.agg aL) (.agg cH) undef) x := by
    intro x bx
    refine wpAnyH_all (rs := [3, 4, 5]) (by kernel_rfl) (by simp) ?_
    intro i hi
    have hi2 : i = 3 ∨ i = 4 ∨ i = 5 := by simpa using hi
    rcases hi2 with rfl | rfl | rfl
    · refine wpOp_call (o := op3 p3) rfl rfl 58 #[.agg cH] (.agg aH) (run_call1 58 call27 x _ _ _ rfl _ _ rfl) (c2 x) (fun y by2 => ⟨bx.trans (by2.mono bx.size), ?_⟩)
      exact t200  _ (bx.trans (by2.mono bx.size))
    · refine wpOp_value (o := op4 p4) rfl rfl _ (run_alloc40 x _ rfl _) ⟨bx.alloc bx.size _, ?_⟩
      exact t110 (x.heap.size) _ (bx.alloc bx.size _) bx.size (heap_alloc_new x _)
    · refine wpOp_value (o := op5 p5) rfl rfl _ (run_alloc40 x _ rfl _) ⟨bx.alloc bx.size _, ?_⟩
      exact t101 (x.heap.size) _ (bx.alloc bx.size _) bx.size (heap_alloc_new x _)
  have t011 : ∀ (g5 : Nat) (g6 : Nat) (x : World), Below w.heap.size w x → g5 ≠ g6 → w.heap.size ≤ g5 → x.heap[g5]? = some (.cells zero14 65) → w.heap.size ≤ g6 → x.heap[g6]? = some (.cells zero14 65) → wpAnyH Try.prog .any (ops2 p0 p1 p2 p3 p4 p5 p6 p7) (NoPanic Q) (fun w' => Below w.heap.size w w') 4 #[true, false, true, false, true, true, false, false] (ac2 u0 u1 u2 (.pointer (some ⟨g3, 0, none⟩)) (.pointer (some ⟨g4, 0, none⟩)) u9 u10 u11 u12 u13 (.pointer (some ⟨g5, 0, none⟩)) (.pointer (some ⟨g6, 0, none⟩)) (.agg cL) undef (.agg cH) undef) x := by
    intro g5 g6 x bx ne l5 h5 l6 h6
    refine wpAnyH_all (rs := [1]) (by kernel_rfl) (by simp) ?_
    intro i hi
    obtain rfl : i = 1 := by simpa using hi
    refine wpOp_call (o := op1 p1) rfl rfl 58 #[.agg cL] (.agg aL) (run_call1 58 call27 x _ _ _ rfl _ _ rfl) (c1 x) (fun y by2 => ⟨bx.trans (by2.mono bx.size), ?_⟩)
    exact t111 g5 g6 _ (bx.trans (by2.mono bx.size)) ne l5 ((by2.block g5 (Array.getElem?_eq_some_iff.1 h5).1).trans h5) l6 ((by2.block g6 (Array.getElem?_eq_some_iff.1 h6).1).trans h6)
  have t010 : ∀ (g5 : Nat) (x : World), Below w.heap.size w x → w.heap.size ≤ g5 → x.heap[g5]? = some (.cells zero14 65) → wpAnyH Try.prog .any (ops2 p0 p1 p2 p3 p4 p5 p6 p7) (NoPanic Q) (fun w' => Below w.heap.size w w') 5 #[true, false, true, false, true, false, false, false] (ac2 u0 u1 u2 (.pointer (some ⟨g3, 0, none⟩)) (.pointer (some ⟨g4, 0, none⟩)) u9 u10 u11 u12 u13 (.pointer (some ⟨g5, 0, none⟩)) undef (.agg cL) undef (.agg cH) undef) x := by
    intro g5 x bx l5 h5
    refine wpAnyH_all (rs := [1, 5]) (by kernel_rfl) (by simp) ?_
    intro i hi
    have hi2 : i = 1 ∨ i = 5 := by simpa using hi
    rcases hi2 with rfl | rfl
    · refine wpOp_call (o := op1 p1) rfl rfl 58 #[.agg cL] (.agg aL) (run_call1 58 call27 x _ _ _ rfl _ _ rfl) (c1 x) (fun y by2 => ⟨bx.trans (by2.mono bx.size), ?_⟩)
      exact t110 g5 _ (bx.trans (by2.mono bx.size)) l5 ((by2.block g5 (Array.getElem?_eq_some_iff.1 h5).1).trans h5)
    · refine wpOp_value (o := op5 p5) rfl rfl _ (run_alloc40 x _ rfl _) ⟨bx.alloc bx.size _, ?_⟩
      exact t011 g5 (x.heap.size) _ (bx.alloc bx.size _) (by have := (Array.getElem?_eq_some_iff.1 h5).1; omega) l5 ((Below.heap_alloc x _ g5 (Array.getElem?_eq_some_iff.1 h5).1).trans h5) bx.size (heap_alloc_new x _)
  have t001 : ∀ (g6 : Nat) (x : World), Below w.heap.size w x → w.heap.size ≤ g6 → x.heap[g6]? = some (.cells zero14 65) → wpAnyH Try.prog .any (ops2 p0 p1 p2 p3 p4 p5 p6 p7) (NoPanic Q) (fun w' => Below w.heap.size w w') 5 #[true, false, true, false, false, true, false, false] (ac2 u0 u1 u2 (.pointer (some ⟨g3, 0, none⟩)) (.pointer (some ⟨g4, 0, none⟩)) u9 u10 u11 u12 u13 undef (.pointer (some ⟨g6, 0, none⟩)) (.agg cL) undef (.agg cH) undef) x := by
    intro g6 x bx l6 h6
    refine wpAnyH_all (rs := [1, 4]) (by kernel_rfl) (by simp) ?_
    intro i hi
    have hi2 : i = 1 ∨ i = 4 := by simpa using hi
    rcases hi2 with rfl | rfl
    · refine wpOp_call (o := op1 p1) rfl rfl 58 #[.agg cL] (.agg aL) (run_call1 58 call27 x _ _ _ rfl _ _ rfl) (c1 x) (fun y by2 => ⟨bx.trans (by2.mono bx.size), ?_⟩)
      exact t101 g6 _ (bx.trans (by2.mono bx.size)) l6 ((by2.block g6 (Array.getElem?_eq_some_iff.1 h6).1).trans h6)
    · refine wpOp_value (o := op4 p4) rfl rfl _ (run_alloc40 x _ rfl _) ⟨bx.alloc bx.size _, ?_⟩
      exact t011 (x.heap.size) g6 _ (bx.alloc bx.size _) (by have := (Array.getElem?_eq_some_iff.1 h6).1; omega) bx.size (heap_alloc_new x _) l6 ((Below.heap_alloc x _ g6 (Array.getElem?_eq_some_iff.1 h6).1).trans h6)
  have t000 : ∀ (x : World), Below w.heap.size w x → wpAnyH Try.prog .any (ops2 p0 p1 p2 p3 p4 p5 p6 p7) (NoPanic Q) (fun w' => Below w.heap.size w w') 6 #[true, false, true, false, false, false, false, false] (ac2 u0 u1 u2 (.pointer (some ⟨g3, 0, none⟩)) (.pointer (some ⟨g4, 0, none⟩)) u9 u10 u11 u12 u13 undef undef (.agg cL) undef (.agg cH) undef) x := by
    intro x bx
    refine wpAnyH_all (rs := [1, 4, 5]) (by kernel_rfl) (by simp) ?_
    intro i hi
    have hi2 : i = 1 ∨ i = 4 ∨ i = 5 := by simpa using hi
    rcases hi2 with rfl | rfl | rfl
    · refine wpOp_call (o := op1 p1) rfl rfl 58 #[.agg cL] (.agg aL) (run_call1 58 call27 x _ _ _ rfl _ _ rfl) (c1 x) (fun y by2 => ⟨bx.trans (by2.mono bx.size), ?_⟩)
      exact t100  _ (bx.trans (by2.mono bx.size))
    · refine wpOp_value (o := op4 p4) rfl rfl _ (run_alloc40 x _ rfl _) ⟨bx.alloc bx.size _, ?_⟩
      exact t010 (x.heap.size) _ (bx.alloc bx.size _) bx.size (heap_alloc_new x _)
    · refine wpOp_value (o := op5 p5) rfl rfl _ (run_alloc40 x _ rfl _) ⟨bx.alloc bx.size _, ?_⟩
      exact t001 (x.heap.size) _ (bx.alloc bx.size _) bx.size (heap_alloc_new x _)
  refine wp_region_held (S := fun w' => Below w.heap.size w w') (by kernel_rfl) ?_
  refine wpAnyH_take (i := 0) (v := .agg cL) rfl (by kernel_rfl) (by kernel_rfl) (by kernel_rfl) (fun c a w => hQ c a _ _ w) (.inl ⟨rfl, fun w' hS => run_load24 w' g3 cL ((hS.block g3 b3).trans hg3) sL _ _ rfl _ rfl⟩) (Below.refl _ w).drew ?_
  refine wpAnyH_take (i := 2) (v := .agg cH) rfl (by kernel_rfl) (by kernel_rfl) (by kernel_rfl) (fun c a w => hQ c a _ _ w) (.inl ⟨rfl, fun w' hS => run_load24 w' g4 cH ((hS.block g4 b4).trans hg4) sH _ _ rfl _ rfl⟩) (Below.refl _ w).drew ?_
  exact t000 _ (Below.refl _ w).drew
end Go.Proofs.Ytmcmiojidgdjpaa
namespace Go.Proofs.Ytmcmiojidgdjpaa
open Go.RowKit

/-- Whom it goes from, goes to and, as a Redirect, names are unlike. -/
def ndsB (m : Mg) : Bool := decide (¬ (m.kd = 4 ∧ (m.no = m.fr ∨ m.no = m.tw)) ∧ m.fr ≠ m.tw)
set_option maxRecDepth 100000 in
set_option maxHeartbeats 1000000 in
theorem nodesRight_any (m : Mg) (p t : Value) (w : World) : Calls Try.prog 45 #[mv m p t] w fun e w' => e = .returned (.bool (ndsB m)) ∧ Below w.heap.size w w' := by
  unfold mv
  by_cases h4 : m.kd = 4
  · have d4 : (m.kd == 4) = true := by simp [h4]
    by_cases ha : m.no = m.fr
    · have da : (m.no == m.fr) = true := by simp [ha]
      have hr : ndsB m = false := decide_eq_false (fun q => q.1 ⟨h4, .inl ha⟩)
      rw [hr]
      clear h4 ha hr
      generalize m.kd = x1 at *
      generalize m.no = x2 at *
      generalize m.fr = x3 at *
      go_enter Try.func45, Try.ntmps45
      go_wp2
      go_ret
      exact ⟨rfl, (Below.refl _ _).alloc (Nat.le_refl _) _⟩
    · have da : (m.no == m.fr) = false := by simp [ha]
      by_cases hb : m.no = m.tw
      · have db : (m.no == m.tw) = true := by simp [hb]
        have hr : ndsB m = false := decide_eq_false (fun q => q.1 ⟨h4, .inr hb⟩)
        rw [hr]
        clear h4 ha hb hr
        generalize m.kd = x1 at *
        generalize m.no = x2 at *
        generalize m.fr = x3 at *
        generalize m.tw = x4 at *
        go_enter Try.func45, Try.ntmps45
        go_wp2
        go_ret
        exact ⟨rfl, (Below.refl _ _).alloc (Nat.le_refl _) _⟩
      · have db : (m.no == m.tw) = false := by simp [hb]
        have hr : ndsB m = (m.fr != m.tw) := by
          by_cases e : m.fr = m.tw
          · rw [ndsB, decide_eq_false (fun q => q.2 e)]; simp [e]
          · rw [ndsB, decide_eq_true ⟨fun q => by rcases q.2 with q | q; exact ha q; exact hb q, e⟩]; simp [e]
        rw [hr]
        clear h4 ha hb hr
        generalize m.kd = x1 at *
        generalize m.no = x2 at *
        generalize m.fr = x3 at *
        generalize m.tw = x4 at *
        go_enter Try.func45, Try.ntmps45
        go_wp2
        go_ret
        exact ⟨rfl, (Below.refl _ _).alloc (Nat.le_refl _) _⟩
  · have d4 : (m.kd == 4) = false := by simp [h4]
    have hr : ndsB m = (m.fr != m.tw) := by
      by_cases e : m.fr = m.tw
      · rw [ndsB, decide_eq_false (fun q => q.2 e)]; simp [e]
      · rw [ndsB, decide_eq_true ⟨fun q => h4 q.1, e⟩]; simp [e]
    rw [hr]
    clear h4 hr
    generalize m.kd = x1 at *
    generalize m.fr = x3 at *
    generalize m.tw = x4 at *
    go_enter Try.func45, Try.ntmps45
    go_wp2
    go_ret
    exact ⟨rfl, (Below.refl _ _).alloc (Nat.le_refl _) _⟩
end Go.Proofs.Ytmcmiojidgdjpaa
namespace Go.Proofs.Ytmcmiojidgdjpaa
open Go.RowKit

/-- At most eight numbers, all nodes. -/
def fewB (F : Nat → Int) (n : Nat) : Bool := decide (n ≤ 8 ∧ ∀ i, i < n → 0 ≤ F i ∧ F i ≤ 7)
theorem few_any (F : Nat → Int) (v : Value) (n : Nat) (w : World) (h : Sl .i64 w v n F) :
    Calls Try.prog 59 #[v] w fun e w' => e = .returned (.bool (fewB F n)) ∧ w' = w := by
  obtain ⟨p, cap, rfl, hc1, hc2⟩ := h.shape
  unfold maxLen at hc2
  have H := hide h
  clear h
  by_cases h8 : n ≤ 8
  · have d8 : decide ((8 : Int) < (n : Int)) = false := decide_eq_false (by omega)
    go_enter Try.func59, Try.ntmps59
    go_wp2
    go_loop [10] (fun xi => ∃ k : Nat, k ≤ n ∧ xi = .int .i64 k ∧ ∀ i, i < k → 0 ≤ F i ∧ F i ≤ 7) (fun i => n - (intOf i).toNat)
    case atStart => exact ⟨0, by omega, rfl, fun i hi => by omega⟩
    case round =>
      obtain ⟨k, hk, rfl, hall⟩ := hrel
      by_cases hlt : k < n
      · obtain ⟨b, off, rfl, _, hcell⟩ := (unhide H).some (by omega)
        have hck := hcell k hlt
        clear hcell
        have HA := hide hall
        clear hall
        obtain ⟨x, hx⟩ : ∃ x, x = F k := ⟨_, rfl⟩
        rw [← hx] at hck
        have HX := hide hx
        clear hx
        by_cases h0 : x < 0
        · have d0 : decide (x < 0) = true := decide_eq_true h0
          go_wp2
          go_ret
          refine ⟨?_, rfl⟩
          rw [fewB, decide_eq_false (fun q => by have := q.2 k hlt; rw [← unhide HX] at this; omega)]
          rfl
        · have d0 : decide (x < 0) = false := decide_eq_false h0
          by_cases h7 : 7 < x
          · have d7 : decide (7 < x) = true := decide_eq_true h7
            go_wp2
            go_ret
            refine ⟨?_, rfl⟩
            rw [fewB, decide_eq_false (fun q => by have := q.2 k hlt; rw [← unhide HX] at this; omega)]
            rfl
          · have d7 : decide (7 < x) = false := decide_eq_false h7
            go_wp2
            go_round
            case rel =>
              refine ⟨k + 1, by omega, by go_num, fun i hi => ?_⟩
              by_cases e : i = k
              · rw [e, ← unhide HX]; omega
              · exact unhide HA i (by omega)
            case measure => simp [intOf]; omega
      · have HA := hide hall
        clear hall
        go_wp2
        go_ret
        refine ⟨?_, rfl⟩
        rw [fewB, decide_eq_true ⟨h8, fun i hi => unhide HA i (by omega)⟩]
        rfl
  · have d8 : decide ((8 : Int) < (n : Int)) = true := decide_eq_true (by omega)
    go_enter Try.func59, Try.ntmps59
    go_wp2
    go_ret
    refine ⟨?_, rfl⟩
    rw [fewB, decide_eq_false (fun q => h8 q.1)]
    rfl
theorem nodes_any (F : Nat → Int) (v : Value) (n : Nat) (w : World) (h : Sl .i64 w v n F) :
    Calls Try.prog 34 #[v] w fun e w' => e = .returned (.bool (fewB F n)) ∧ w' = w := by
  obtain ⟨p, cap, rfl, hc1, hc2⟩ := h.shape
  unfold maxLen at hc2
  have H := hide h
  clear h
  go_enter Try.func34, Try.ntmps34
  go_wp2
  go_loop [3] (fun xi => ∃ k : Nat, k ≤ n ∧ xi = .int .i64 k ∧ ∀ i, i < k → 0 ≤ F i ∧ F i ≤ 7) (fun i => n - (intOf i).toNat)
  case atStart => exact ⟨0, by omega, rfl, fun i hi => by omega⟩
  case round =>
    obtain ⟨k, hk, rfl, hall⟩ := hrel
    have HA := hide hall
    clear hall
    by_cases hlt : k < n
    · obtain ⟨b, off, rfl, _, hcell⟩ := (unhide H).some (by omega)
      have hck := hcell k hlt
      clear hcell
      obtain ⟨x, hx⟩ : ∃ x, x = F k := ⟨_, rfl⟩
      rw [← hx] at hck
      have HX := hide hx
      clear hx
      by_cases h0 : 0 ≤ x ∧ x ≤ 7
      · have d0 : decide (0 ≤ x) = true := decide_eq_true h0.1
        have d1 : decide (x ≤ 7) = true := decide_eq_true h0.2
        go_wp2_with (go_at_call 31; refine (isNode_any _ _).mono ?_; rw [d0, d1]; rintro e w1 ⟨rfl, rfl⟩)
        go_round
        case rel =>
          refine ⟨k + 1, by omega, by go_num, fun i hi => ?_⟩
          by_cases e : i = k
          · rw [e, ← unhide HX]; exact h0
          · exact unhide HA i (by omega)
        case measure => simp [intOf]; omega
      · have d0 : (decide (0 ≤ x) && decide (x ≤ 7)) = false := by rw [← Bool.decide_and]; exact decide_eq_false h0
        go_wp2_with (go_at_call 31; refine (isNode_any _ _).mono ?_; rw [d0]; rintro e w1 ⟨rfl, rfl⟩)
        go_ret
        refine ⟨?_, rfl⟩
        rw [fewB, decide_eq_false (fun q => by have := q.2 k hlt; rw [← unhide HX] at this; exact h0 this)]
        rfl
    · go_wp2
      go_ret
      refine ⟨?_, rfl⟩
      have e8 : decide ((n : Int) ≤ 8) = fewB F n := decide_eq_decide.2 ⟨fun q => ⟨by omega, fun i hi => unhide HA i (by omega)⟩, fun q => by have := q.1; omega⟩
      rw [← e8]
      simp
end Go.Proofs.Ytmcmiojidgdjpaa
namespace Go.Proofs.Ytmcmiojidgdjpaa
open Go.RowKit

/-- All numbers are unlike. -/
abbrev Unl (F : Nat → Int) (n : Nat) : Prop := ∀ i, i < n → ∀ j, j < i → F j ≠ F i
def unB (F : Nat → Int) (n : Nat) : Bool := decide (Unl F n)
set_option maxRecDepth 100000 in
set_option maxHeartbeats 1000000 in
theorem runlike_any (F : Nat → Int) (va : Value) (n : Nat) (w : World) (ha : Sl .i64 w va n F) :
    Calls Try.prog 35 #[va] w fun e w' => e = .returned (.bool (unB F n)) ∧ ∃ m, w' = w.drewN m := by
  obtain ⟨pa, ca, rfl, la, ka⟩ := ha.shape
  unfold maxLen at ka
  have HA := hide ha
  clear ha
  go_enter Try.func35, Try.ntmps35
  go_wp2
  go_loopw [3] (fun xi w1 => ∃ k : Nat, k ≤ n ∧ xi = .int .i64 k ∧ Unl F k ∧ ∃ m, w1 = w.drewN m) (fun i _ => n - (intOf i).toNat)
  case atStart => exact ⟨0, by omega, rfl, fun i hi => by omega, 0, rfl⟩
  case round =>
    obtain ⟨k, hk, rfl, hall, m, hW⟩ := hrel
    have HL := hide hall
    clear hall
    by_cases hlt : k < n
    · obtain ⟨ba, oa, rfl, _, hca⟩ := (unhide HA).some (by omega)
      have HC := hide hca
      have HW := hide hW
      clear hW hca
      go_wp2
      go_loopw [4] (fun xi w1 => ∃ l : Nat, l ≤ k ∧ xi = .int .i64 l ∧ (∀ j, j < l → F j ≠ F k) ∧ ∃ m, w1 = w.drewN m) (fun i _ => k - (intOf i).toNat)
      case atStart => exact ⟨0, by omega, rfl, fun i hi => by omega, m, unhide HW⟩
      case round =>
        obtain ⟨l, hl, rfl, hall2, m2, hW2⟩ := hrel
        have HL2 := hide hall2
        clear hall2
        by_cases hlt2 : l < k
        · have c1 : wr.cell? ⟨ba, oa + k, none⟩ = some (.int .i64 (F k)) := by rw [hW2]; exact unhide HC k hlt
          have c2 : wr.cell? ⟨ba, oa + l, none⟩ = some (.int .i64 (F l)) := by rw [hW2]; exact unhide HC l (by omega)
          have HW2 := hide hW2
          clear hW2
          by_cases hx : F l = F k
          · have d1 : (F l == F k) = true := by simp [hx]
            have HX := hide hx
            clear hx
            go_wp2
            go_quiet (fail)
            go_wp2
            go_ret
            refine ⟨?_, m2 + nq, by rw [unhide HW2, World.drewN_drewN]⟩
            rw [unB, decide_eq_false (fun q => q k hlt l hlt2 (unhide HX))]
            rfl
          · have d1 : (F l == F k) = false := by simp [hx]
            have HX := hide hx
            clear hx
            go_wp2
            go_quiet (fail)
            go_wp2
            go_roundw
            case rel =>
              refine ⟨l + 1, by omega, by go_num, fun i hi => ?_, m2 + nq, by rw [unhide HW2, World.drewN_drewN]⟩
              by_cases e : i = l
              · rw [e]; exact unhide HX
              · exact unhide HL2 i (by omega)
            case measure => simp [intOf]; omega
        · go_wp2
          go_roundw
          case rel =>
            refine ⟨k + 1, by omega, by go_num, fun i hi j hj => ?_, m2, by first | exact hW2 | rfl⟩
            by_cases e : i = k
            · rw [e]; exact unhide HL2 j (by omega)
            · exact unhide HL i (by omega) j hj
          case measure => simp [intOf]; omega
    · subst hW
      go_wp2
      go_ret
      refine ⟨?_, m, rfl⟩
      obtain rfl : k = n := by omega
      rw [unB, decide_eq_true (unhide HL)]
      rfl
end Go.Proofs.Ytmcmiojidgdjpaa
namespace Go.Proofs.Ytmcmiojidgdjpaa
open Go.RowKit

/-- The first n numbers. -/
def lst (F : Nat → Int) (n : Nat) : List Int := (List.range n).map F
theorem lst_length (F : Nat → Int) (n : Nat) : (lst F n).length = n := by simp [lst]
theorem lst_getD (F : Nat → Int) (n i : Nat) (h : i < n) : (lst F n).getD i 0 = F i := by simp [lst, List.getD, h]
theorem lst_vL (F : Nat → Int) (n : Nat) : (lst F n).map (Value.int .i64) = vL .i64 F n := by simp [lst, vL]
theorem nodup_lst (F : Nat → Int) (n : Nat) : (lst F n).Nodup ↔ Unl F n := by
  unfold lst Unl
  rw [List.Nodup, List.pairwise_map, List.pairwise_iff_getElem]
  constructor
  · intro h i hi j hj
    have := h j i (by simp; omega) (by simp; omega) hj
    simpa using this
  · intro h i j hi hj hij
    simp at hi hj
    simpa using h j hj i hij
/-- The sorted numbers. -/
def srt (F : Nat → Int) (n : Nat) : List Int := (lst F n).mergeSort fun x y => decide (x ≤ y)
theorem srt_length (F : Nat → Int) (n : Nat) : (srt F n).length = n := by rw [srt, List.length_mergeSort, lst_length]
theorem srt_perm (F : Nat → Int) (n : Nat) : (srt F n).Perm (lst F n) := List.mergeSort_perm _ _
theorem srt_pair (F : Nat → Int) (n : Nat) : (srt F n).Pairwise (fun x y => x ≤ y) := by
  have := List.pairwise_mergeSort (le := fun (x y : Int) => decide (x ≤ y)) (by intro a b c h1 h2; simp at *; omega) (by intro a b; simp; omega) (lst F n)
  exact this.imp (by intro a b h; simpa using h)
theorem srt_side (F : Nat → Int) (n : Nat) : Unl F n ↔ ∀ i, i + 1 < n → (srt F n).getD (i + 1) 0 ≠ (srt F n).getD i 0 := by
  rw [← nodup_lst, ← (srt_perm F n).nodup_iff]
  have hp := srt_pair F n
  have hl := srt_length F n
  generalize srt F n = L at *
  subst hl
  rw [List.Nodup, List.pairwise_iff_getElem]
  rw [List.pairwise_iff_getElem] at hp
  constructor
  · intro h i hi e
    have h1 := h i (i + 1) (by omega) hi (by omega)
    simp [List.getD, hi, show i < L.length by omega] at e
    exact h1 e.symm
  · intro h i j hi hj hij e
    have h1 := h i (by omega)
    simp [List.getD, show i + 1 < L.length by omega, hi] at h1
    have h2 := hp i (i + 1) hi (by omega) (by omega)
    by_cases hj2 : j = i + 1
    · subst hj2
      exact h1 e.symm
    · have h3 := hp (i + 1) j (by omega) hj (by omega)
      omega
theorem clone_sl (F : Nat → Int) (v : Value) (n : Nat) (w : World) (hv : Sl .i64 w v n F) (hn : n ≤ 1000000) :
    Calls Try.prog 64 #[v] w fun e w' => ∃ q c, e = .returned (.slice q n c) ∧ w'.ownsRow w.heap.size 3 1 (.slice q n c) n (vL .i64 F n) ∧ Below w.heap.size w w' := by
  rcases hv with ⟨rfl, rfl | ⟨x, cap, rfl, hc⟩⟩ | ⟨b, off, cap, rfl, hle, hcap, hb, hcell⟩
  · refine (Try.slices_Clone_int_nil 0 0 w).mono ?_
    rintro e w' ⟨rfl, rfl⟩
    exact ⟨_, _, rfl, World.ownsRow_nil _ _ _ _, Below.refl _ _⟩
  · refine (Try.slices_Clone_int_zero x cap w).mono ?_
    rintro e w' ⟨v', rfl, o, _, b⟩
    obtain ⟨q, c, rfl⟩ := owns_shape o
    exact ⟨q, c, rfl, o, b⟩
  · refine (Try.slices_Clone_int b off n cap (lst F n) w (by rw [lst_length]; exact Nat.le_refl _) (by omega) (fun j hj => ?_)).mono ?_
    · rw [lst_length] at hj
      rw [hcell j hj, lst_getD F n j hj]
    · rintro e w' ⟨v', rfl, o, _, b⟩
      rw [List.take_of_length_le (by rw [lst_length]; exact Nat.le_refl _), lst_vL] at o
      obtain ⟨q, c, rfl⟩ := owns_shape o
      exact ⟨q, c, rfl, o, b⟩
open Go.Sort in
theorem sort_own (F : Nat → Int) (q : Option Addr) (c n B : Nat) (w : World) (ho : w.ownsRow B 3 1 (.slice q n c) n (vL .i64 F n)) (hn : n ≤ 1000000) :
    Calls Try.prog 65 #[.slice q n c] w fun e w' => e = .returned (.tuple #[]) ∧ Sl .i64 w' (.slice q n c) n (fun i => (srt F n).getD i 0) ∧ Below B w w' := by
  rcases ho.2 with ⟨h1, rfl⟩ | ⟨g, cap, cur, h1, hB, hg, hc1, hc2, _, _⟩
  · cases h1
    refine (Try.slices_Sort_int_none none 0 w).mono ?_
    rintro e w' ⟨rfl, rfl⟩
    exact ⟨rfl, .inl ⟨rfl, .inl rfl⟩, Below.refl _ _⟩
  · cases h1
    have hlt : g < w.heap.size := (Array.getElem?_eq_some_iff.1 hg).1
    have hl : (lst F n).toArray.size = n := by simp [lst_length]
    have hH : Holds (Value.int .i64) w g 0 (lst F n).toArray := by
      intro j hj
      rw [hl] at hj
      refine ⟨?_, ?_⟩
      · rw [Nat.zero_add, ho.cellAt j (by omega), vL_get .i64 F n j hj]
        simp [lst, hj]
      · exact ho.frozenAt (0 + j)
    have hs : (srt F n).toArray.size = (lst F n).toArray.size := by simp [srt_length, lst_length]
    have h := Try.slices_Sort_int g 0 c (lst F n) w hH hlt (by rw [lst_length]; omega)
    rw [lst_length] at h
    refine h.mono ?_
    rintro e w' ⟨rfl, m, os, rfl⟩
    refine ⟨rfl, .inr ⟨g, 0, c, rfl, hc1, hc2, by simp; omega, fun i hi => ?_⟩, ?_⟩
    · have hp := holds_putRow (Value.int .i64) (Sort.ahead w m) g 0 _ (srt F n).toArray (holds_ahead _ w m g 0 _ hH) hs
      have hq := holds_grow (Value.int .i64) _ os g 0 _ (by simp; exact hlt) hp
      have := (hq i (by simp [srt_length]; exact hi)).1
      refine this.trans ?_
      have hi2 : i < (srt F n).length := by rw [srt_length]; exact hi
      simp [List.getD, hi2]
    · refine ⟨rfl, rfl, rfl, by simp, fun k hk => ?_⟩
      have hk2 : k < w.heap.size := by omega
      rw [heap_grow_old _ _ (by simp; exact hk2)]
      unfold putRow mapBlock
      rw [Array.getElem?_modify, if_neg (by omega)]
      rfl
set_option maxRecDepth 100000 in
set_option maxHeartbeats 1000000 in
theorem unlike_any (F : Nat → Int) (v : Value) (n : Nat) (w : World) (hv : Sl .i64 w v n F) (hn : n ≤ 1000000) :
    Calls Try.prog 60 #[v] w fun e w' => e = .returned (.bool (unB F n)) ∧ Below w.heap.size w w' := by
  have c1 := hide (clone_sl F v n w hv hn)
  clear hv
  go_enter Try.func60, Try.ntmps60
  go_wp2_with (first
    | (go_at_call 64; refine (unhide c1).mono ?_; rintro e w1 ⟨q, c, rfl, o1, b1⟩; have O1 := hide o1; have B1 := hide b1; clear o1 b1)
    | (go_at_call 65; refine (sort_own F q c n w.heap.size _ (unhide O1) hn).mono ?_; rintro e w2 ⟨rfl, s2, b2⟩; have S2 := hide s2; have B2 := hide ((unhide B1).trans b2); clear s2 b2))
  obtain ⟨p, cap, hpc, hc1, hc2⟩ := (unhide S2).shape
  cases hpc
  unfold maxLen at hc2
  have i0 : ((0 : Nat) : Int) = 0 := rfl
  go_loopw [4] (fun xi w3 => ∃ k : Nat, (k + 1 ≤ n ∨ k = 0) ∧ xi = .int .i64 ((k : Int) + 1) ∧ (∀ i, i < k → (srt F n).getD (i + 1) 0 ≠ (srt F n).getD i 0) ∧ ∃ m, w3 = w2.drewN m) (fun i _ => n - (intOf i).toNat)
  case atStart => exact ⟨0, .inr rfl, by simp, fun i hi => by omega, 0, rfl⟩
  case round =>
    obtain ⟨k, hk, rfl, hall, m, hW⟩ := hrel
    have HL := hide hall
    clear hall
    by_cases hlt : k + 1 < n
    · obtain ⟨b, off, rfl, _, hc⟩ := (unhide S2).some (by omega)
      have c1 : wr.cell? ⟨b, off + (k + 1), none⟩ = some (.int .i64 ((srt F n).getD (k + 1) 0)) := by rw [hW]; exact hc (k + 1) hlt
      have c2 : wr.cell? ⟨b, off + k, none⟩ = some (.int .i64 ((srt F n).getD k 0)) := by rw [hW]; exact hc k (by omega)
      have HW := hide hW
      clear hW hc
      generalize hx : (srt F n).getD (k + 1) 0 = x at *
      generalize hy : (srt F n).getD k 0 = y at *
      have HX := hide hx
      have HY := hide hy
      clear hx hy
      by_cases e : x = y
      · have d1 : (x == y) = true := by simp [e]
        have HE := hide e
        clear e
        go_wp2
        go_quiet (fail)
        go_wp2
        go_ret
        refine ⟨?_, ?_⟩
        · rw [unB, decide_eq_false (fun q => (srt_side F n).1 q k hlt (by rw [unhide HX, unhide HY]; exact unhide HE))]
          rfl
        · rw [unhide HW]
          exact below_drewN (below_drewN (unhide B2) m) nq
      · have d1 : (x == y) = false := by simp [e]
        have HE := hide e
        clear e
        go_wp2
        go_quiet (fail)
        go_wp2
        go_roundw
        case rel =>
          refine ⟨k + 1, .inl (by omega), by go_num, fun i hi => ?_, m + nq, by rw [unhide HW, World.drewN_drewN]⟩
          by_cases e : i = k
          · rw [e, unhide HX, unhide HY]; exact unhide HE
          · exact unhide HL i (by omega)
        case measure => simp [intOf]; omega
    · subst hW
      go_wp2
      go_ret
      refine ⟨?_, below_drewN (unhide B2) m⟩
      rw [unB, decide_eq_true ((srt_side F n).2 fun i hi => unhide HL i (by omega))]
      rfl
end Go.Proofs.Ytmcmiojidgdjpaa
namespace Go.Proofs.Ytmcmiojidgdjpaa
open Go.RowKit

set_option maxRecDepth 100000 in
set_option maxHeartbeats 1000000 in
theorem grow0 (n : Nat) (w : World) (hn : n ≤ 1000000) :
    Calls Try.prog 66 #[.slice none 0 0, .int .i64 (n : Int)] w fun e w' => ∃ q c, e = .returned (.slice q 0 c) ∧ w'.ownsRow w.heap.size 3 1 (.slice q 0 c) 0 [] ∧ Below w.heap.size w w' := by
  obtain ⟨i, hi, hz0, hz1, hz2⟩ := info_parts info3
  by_cases h0 : n = 0
  · subst h0
    go_enter Try.func66, Try.ntmps66
    go_wp2
    go_ret
    exact ⟨_, _, rfl, World.ownsRow_nil _ _ _ _, Below.refl _ _⟩
  · have hGn : n ≤ grownCap w n 0 3 := grownCap_ge w _ _ _
    have hG := grownCap_le_maxLen w n 0 3 (by unfold maxLen; omega)
    have hrz : ∀ ty, (Builtin.append_ #[22, 3] ty #[.slice none 0 0, .int .i64 (n : Int)]).run Try.prog w =
        .ok (.slice (some ⟨w.heap.size, 0, none⟩) n (grownCap w n 0 3)) (w.drew.alloc (.cells (([] : List Value).toArray ++ Builtin.zeroCells (Value.int .i64 0).cells n ++ Builtin.zeroCells (Value.int .i64 0).cells (grownCap w n 0 3 - n)) 3)) := fun ty => by
      have h := Lib.run_append_grow_zeros w 22 3 ty 3 i (.int .i64 0) .i64 .i64 Try.underlying22 Try.underlying3 hi hz0 none 0 0 [] (run_firstCells_none w.drew i.size 0 0 0) n (by omega) (by rw [hz1]; omega) (by omega) (by omega) (by rw [hz2]; omega) (by rw [Nat.zero_add]; exact growslice_fits (by omega) (by rw [hz2]; omega))
      rw [Nat.zero_add] at h
      exact h
    generalize grownCap w n 0 3 = G at *
    have d1 : decide ((0 : Int) < (n : Int)) = true := decide_eq_true (by omega)
    have d2 : decide ((n : Int) < 0) = false := decide_eq_false (by omega)
    have hG2 := hide hG
    unfold maxLen at hG
    go_enter Try.func66, Try.ntmps66
    go_wp2_with (at_builtin; refine Lib.wpList_append_run _ rfl _ _ _ _ rfl _ _ rfl rfl _ _ (hrz _) ?_)
    go_ret
    refine ⟨_, _, rfl, ?_, ((Below.refl _ _).alloc (Nat.le_refl _) _).drew⟩
    exact (World.ownsRow_made (base := w.heap.size) (e := 3) (size := 1) w (Builtin.zeroCells #[Value.int .i64 0] n ++ Builtin.zeroCells #[Value.int .i64 0] (G - n)) G (Nat.le_refl _) (unhide hG2) (by simp [Builtin.zeroCells]; omega)).drew
/-- One behind the other. -/
def cat (F : Nat → Int) (m : Nat) (G : Nat → Int) (i : Nat) : Int := if i < m then F i else G (i - m)
theorem vL_append (k : IntKind) (F G : Nat → Int) (m n : Nat) : vL k F m ++ vL k G n = vL k (cat F m G) (m + n) := by
  apply List.ext_getElem?
  intro t
  by_cases h : t < m
  · rw [List.getElem?_append_left (by rw [vL_length]; exact h), vL_get _ _ _ _ h, vL_get _ _ _ _ (by omega), cat, if_pos h]
  · rw [List.getElem?_append_right (by rw [vL_length]; omega), vL_length]
    by_cases h2 : t < m + n
    · rw [vL_get _ _ _ _ (by omega), vL_get _ _ _ _ h2, cat, if_neg h]
    · rw [List.getElem?_eq_none (by rw [vL_length]; omega), List.getElem?_eq_none (by rw [vL_length]; omega)]
/-- append of a slice, whatever its shape, to a row of the call's own. -/
theorem wpList_append_sl {w : World} {ops : Array Oper} {rest : List Oper} {o : Oper} {a : Act} {Q : Exit → Act → World → Prop} (hgd : o.guard = none) (s x : Operand)
    (ho : o.op = .call { callee := .builtin .append, args := #[s, x], argTypes := #[22, 22] }) (base : Nat)
    (v : Value) (n : Nat) (F : Nat → Int) (hs : a.eval s = v) (hown : w.ownsRow base 3 1 v n (vL .i64 F n))
    (u : Value) (m : Nat) (G : Nat → Int) (hx : a.eval x = u) (hu : Sl .i64 w u m G) (hn : n ≤ 1000000) (hm : m ≤ 1000000) (hbase : base ≤ w.heap.size)
    (h : ∀ v' w', w'.ownsRow base 3 1 v' (n + m) (vL .i64 (cat F n G) (n + m)) → Below base w w' → wpList Try.prog ops Q rest (a.put o.dst v') w') : wpList Try.prog ops Q (o :: rest) a w := by
  obtain ⟨i, hi, hz0, hz1, hz2⟩ := info_parts info3
  obtain ⟨p, cap, rfl, hc1, hc2⟩ := hu.shape
  have hcs := hu.cells
  cases p with
  | none =>
    obtain ⟨rfl, rfl⟩ := hcs.1 rfl
    refine wpList_append_own_none hgd s x 22 ho base 3 i 1 Try.underlying22 hi v n _ hs hown hx ?_
    refine h v w ?_ (Below.refl _ _)
    rw [← vL_append]
    simpa [vL] using hown
  | some ad =>
    refine wpList_append_own w hgd s x 22 ho base 3 i (.int .i64 0) 1 8 Try.underlying22 hi hz0 hz1 hz2 rfl (by decide) v n _ hs hown ad m cap (vL .i64 G m) hx (by rw [vL_length]; omega) (hcs.2 ad rfl) (vL_one _ G m) (by unfold maxLen; omega) (by omega) hbase ?_
    intro v' w' ho' hg' _
    rw [vL_append] at ho'
    exact h v' w' ho' ((Below.refl _ _).grown hg' hbase fun k hk => (hown.lt k hk).1)
set_option maxRecDepth 100000 in
set_option maxHeartbeats 1000000 in
theorem concat_any (F G : Nat → Int) (u v : Value) (n k g : Nat) (w : World) (hu : Sl .i64 w u n F) (hv : Sl .i64 w v k G) (c0 : w.cell? ⟨g, 0, none⟩ = some u) (c1 : w.cell? ⟨g, 1, none⟩ = some v) (hn : n ≤ 1000) (hk : k ≤ 1000) :
    Calls Try.prog 61 #[.slice (some ⟨g, 0, none⟩) 2 2] w fun e w' => ∃ q c, e = .returned (.slice q (n + k) c) ∧ Sl .i64 w' (.slice q (n + k) c) (n + k) (cat F n G) ∧ Below w.heap.size w w' := by
  obtain ⟨pu, cu, rfl, lu, mu⟩ := hu.shape
  obtain ⟨pv, cv, rfl, lv, mv⟩ := hv.shape
  unfold maxLen at mu mv
  have HU := hide hu
  have HV := hide hv
  have hg : g < w.heap.size := block_lt_of_cell c0
  have HG := hide hg
  clear hu hv hg
  go_enter Try.func61, Try.ntmps61
  go_wp2
  go_loop [11, 3] (fun xi xs => (xi = .int .i64 0 ∧ xs = .int .i64 0) ∨ (xi = .int .i64 1 ∧ xs = .int .i64 (n : Int)) ∨ (xi = .int .i64 2 ∧ xs = .int .i64 ((n : Int) + k))) (fun i _ => 2 - (intOf i).toNat)
  case atStart => exact .inl ⟨rfl, rfl⟩
  case round =>
    rcases hrel with ⟨rfl, rfl⟩ | ⟨rfl, rfl⟩ | ⟨rfl, rfl⟩
    · go_wp2
      go_round
      case rel => exact .inr (.inl ⟨rfl, by simp⟩)
      case measure => simp [intOf]
    · go_wp2
      go_round
      case rel => exact .inr (.inr ⟨rfl, by simp⟩)
      case measure => simp [intOf]
    · have C0 := hide c0
      have C1 := hide c1
      clear c0 c1
      go_wp2_with (go_at_call 66; refine (grow0 (n + k) w (by omega)).mono ?_; rintro e w1 ⟨q1, d1, rfl, o1, b1⟩; have O1 := hide o1; have B1 := hide b1; clear o1 b1)
      go_loopw [27, 6] (fun xi xs w2 => Below w.heap.size w w2 ∧ ((xi = .int .i64 0 ∧ w2.ownsRow w.heap.size 3 1 xs 0 (vL .i64 F 0)) ∨ (xi = .int .i64 1 ∧ w2.ownsRow w.heap.size 3 1 xs n (vL .i64 F n)) ∨ (xi = .int .i64 2 ∧ w2.ownsRow w.heap.size 3 1 xs (n + k) (vL .i64 (cat F n G) (n + k))))) (fun i _ _ => 2 - (intOf i).toNat)
      case atStart => exact ⟨unhide B1, .inl ⟨rfl, by simpa [vL] using unhide O1⟩⟩
      case round =>
        obtain ⟨b2, hrel⟩ := hrel
        have c0 : wr.cell? ⟨g, 0, none⟩ = some (.slice pu n cu) := (b2.cell (unhide HG)).trans (unhide C0)
        have c1 : wr.cell? ⟨g, 1, none⟩ = some (.slice pv k cv) := (b2.cell (unhide HG)).trans (unhide C1)
        have B2 := hide b2
        clear b2
        rcases hrel with ⟨rfl, o2⟩ | ⟨rfl, o2⟩ | ⟨rfl, o2⟩
        · have O2 := hide o2
          clear o2
          go_wp2_with (at_builtin; refine wpList_append_sl rfl (.tmp 31) (.tmp 32) rfl w.heap.size _ 0 F rfl (unhide O2) (.slice pu n cu) n F rfl ((unhide HU).below (unhide B2) (Nat.le_refl _)) (by omega) (by omega) (unhide B2).size ?_)
          intro v3 w3 o3 b3
          have O3 := hide o3
          have B3 := hide ((unhide B2).trans b3)
          clear o3 b3 c0 c1
          go_wp2
          go_roundw
          case rel =>
            refine ⟨unhide B3, .inr (.inl ⟨rfl, ?_⟩)⟩
            have := unhide O3
            rw [vL_congr (G := F) (fun j _ => by simp [cat])] at this
            exact this
          case measure => simp [intOf]
        · have O2 := hide o2
          clear o2
          go_wp2_with (at_builtin; refine wpList_append_sl rfl (.tmp 31) (.tmp 32) rfl w.heap.size _ n F rfl (unhide O2) (.slice pv k cv) k G rfl ((unhide HV).below (unhide B2) (Nat.le_refl _)) (by omega) (by omega) (unhide B2).size ?_)
          intro v3 w3 o3 b3
          have O3 := hide o3
          have B3 := hide ((unhide B2).trans b3)
          clear o3 b3 c0 c1
          go_wp2
          go_roundw
          case rel => exact ⟨unhide B3, .inr (.inr ⟨rfl, unhide O3⟩)⟩
          case measure => simp [intOf]
        · obtain ⟨q, c, rfl⟩ := owns_shape o2
          have O2 := hide o2
          clear o2
          go_wp2
          go_ret
          exact ⟨q, c, rfl, sl_of_owns (unhide O2), unhide B2⟩
end Go.Proofs.Ytmcmiojidgdjpaa
namespace Go.Proofs.Ytmcmiojidgdjpaa
open Go.RowKit

/-- The lists are such as one of its kind may have. -/
def lisB (m : Mg) (F : Nat → Int) (n : Nat) (G : Nat → Int) (k : Nat) : Bool :=
  if m.kd = 3 then decide (k = 0) && decide (0 < n) && decide (F 0 = m.fr) && fewB F n && unB F n
  else if m.kd = 11 then fewB F n && fewB G k && unB (cat F n G) (n + k)
  else decide (n = 0) && decide (k = 0)
set_option maxRecDepth 100000 in
set_option maxHeartbeats 1000000 in
theorem lists_other (m : Mg) (F G : Nat → Int) (p t : Value) (n k : Nat) (w : World) (hp : Sl .i64 w p n F) (ht : Sl .i64 w t k G) (_ : n ≤ 1000) (_ : k ≤ 1000) (h3 : m.kd ≠ 3) (h11 : m.kd ≠ 11) :
    Calls Try.prog 46 #[mv m p t] w fun e w' => e = .returned (.bool (lisB m F n G k)) ∧ Below w.heap.size w w' := by
  obtain ⟨pp, cp, rfl, lp, kp⟩ := hp.shape
  obtain ⟨pt, ct, rfl, lt, kt⟩ := ht.shape
  unfold maxLen at kp kt
  have HP := hide hp
  have HT := hide ht
  clear hp ht
  have B0 : Hid (Below w.heap.size w (w.alloc (.cells #[.int .i64 m.kd, .int .i64 m.fr, .int .i64 m.fi, .int .i64 m.tw, .int .i64 m.ti, .int .i64 m.tp, .int .i64 m.ep, .int .i64 m.sq, .int .i64 m.la, .int .i64 m.va, .int .i64 m.no, .int .i64 m.ic, .int .i64 m.ct, .int .i64 m.hp, .slice pp n cp, .slice pt k ct] 24))) := hide ((Below.refl _ _).alloc (Nat.le_refl _) _)
  have hr : lisB m F n G k = (decide (n = 0) && decide (k = 0)) := by simp [lisB, h3, h11]
  rw [hr]
  have d3 : (m.kd == 3) = false := by simp [h3]
  have d11 : (m.kd == 11) = false := by simp [h11]
  clear h3 h11 hr
  unfold mv
  by_cases h0 : n = 0
  · have e0 : ((n : Int) == 0) = true := by simp; omega
    have e1 : ((k : Int) == 0) = decide (k = 0) := by by_cases q : k = 0 <;> simp [q]
    have e2 : decide (n = 0) = true := decide_eq_true h0
    clear h0
    generalize m.kd = x1 at *
    go_enter Try.func46, Try.ntmps46
    go_wp2
    go_ret
    exact ⟨by simp [e2], (Below.refl _ _).alloc (Nat.le_refl _) _⟩
  · have e0 : ((n : Int) == 0) = false := by simp; omega
    have e2 : decide (n = 0) = false := decide_eq_false h0
    clear h0
    generalize m.kd = x1 at *
    go_enter Try.func46, Try.ntmps46
    go_wp2
    go_ret
    exact ⟨by simp [e2], (Below.refl _ _).alloc (Nat.le_refl _) _⟩
set_option maxRecDepth 100000 in
set_option maxHeartbeats 1000000 in
theorem lists_any (m : Mg) (F G : Nat → Int) (p t : Value) (n k : Nat) (w : World) (hp : Sl .i64 w p n F) (ht : Sl .i64 w t k G) (hn : n ≤ 1000) (hk : k ≤ 1000) (h11 : m.kd = 11) :
    Calls Try.prog 46 #[mv m p t] w fun e w' => e = .returned (.bool (lisB m F n G k)) ∧ Below w.heap.size w w' := by
  obtain ⟨pp, cp, rfl, lp, kp⟩ := hp.shape
  obtain ⟨pt, ct, rfl, lt, kt⟩ := ht.shape
  unfold maxLen at kp kt
  have HP := hide hp
  have HT := hide ht
  clear hp ht
  have B0 : Hid (Below w.heap.size w (w.alloc (.cells #[.int .i64 m.kd, .int .i64 m.fr, .int .i64 m.fi, .int .i64 m.tw, .int .i64 m.ti, .int .i64 m.tp, .int .i64 m.ep, .int .i64 m.sq, .int .i64 m.la, .int .i64 m.va, .int .i64 m.no, .int .i64 m.ic, .int .i64 m.ct, .int .i64 m.hp, .slice pp n cp, .slice pt k ct] 24))) := hide ((Below.refl _ _).alloc (Nat.le_refl _) _)
  have hr : lisB m F n G k = (fewB F n && fewB G k && unB (cat F n G) (n + k)) := by simp [lisB, h11]
  rw [hr]
  have d3 : (m.kd == 3) = false := by simp [h11]
  have d11 : (m.kd == 11) = true := by simp [h11]
  clear h11 hr
  unfold mv
  have m1 := trivial
  have CF := hide (few_any F (.slice pp n cp) n _ ((unhide HP).below (unhide B0) (Nat.le_refl _)))
  have CG := hide (few_any G (.slice pt k ct) k _ ((unhide HT).below (unhide B0) (Nat.le_refl _)))
  cases hF : fewB F n with
  | false =>
    rw [hF] at CF
    generalize m.kd = x1 at *
    go_enter Try.func46, Try.ntmps46
    go_wp2_with (go_at_call 59; with_reducible refine (unhide CF).mono ?_; rintro e w1 ⟨rfl, rfl⟩)
    go_ret
    exact ⟨rfl, unhide B0⟩
  | true =>
    cases hG : fewB G k with
    | false =>
      rw [hF] at CF
      rw [hG] at CG
      generalize m.kd = x1 at *
      go_enter Try.func46, Try.ntmps46
      go_wp2_with (first
        | (clear m1; go_at_call 59; with_reducible refine (unhide CF).mono ?_; rintro e w1 ⟨rfl, rfl⟩)
        | (go_at_call 59; with_reducible refine (unhide CG).mono ?_; rintro e w1 ⟨rfl, rfl⟩))
      go_ret
      exact ⟨rfl, unhide B0⟩
    | true =>
      rw [hF] at CF
      rw [hG] at CG
      have CC := hide (concat_any F G (.slice pp n cp) (.slice pt k ct) n k (w.heap.size + 1) ((w.alloc (.cells #[.int .i64 m.kd, .int .i64 m.fr, .int .i64 m.fi, .int .i64 m.tw, .int .i64 m.ti, .int .i64 m.tp, .int .i64 m.ep, .int .i64 m.sq, .int .i64 m.la, .int .i64 m.va, .int .i64 m.no, .int .i64 m.ic, .int .i64 m.ct, .int .i64 m.hp, .slice pp n cp, .slice pt k ct] 24)).alloc (.cells #[.slice pp n cp, .slice pt k ct] 22)) ((unhide HP).below (((unhide B0)).alloc (by simp) _) (Nat.le_refl _)) ((unhide HT).below (((unhide B0)).alloc (by simp) _) (Nat.le_refl _)) (mv_cell (heap_alloc2_new _ _ _) 0 _ rfl) (mv_cell (heap_alloc2_new _ _ _) 1 _ rfl) hn hk)
      generalize m.kd = x1 at *
      go_enter Try.func46, Try.ntmps46
      go_wp2_with (first
        | (clear m1; go_at_call 59; with_reducible refine (unhide CF).mono ?_; rintro e w1 ⟨rfl, rfl⟩)
        | (go_at_call 59; with_reducible refine (unhide CG).mono ?_; rintro e w1 ⟨rfl, rfl⟩)
        | (go_at_call 61; with_reducible refine (unhide CC).mono ?_; rintro e w2 ⟨q2, d2, rfl, s2, b2⟩; have S2 := hide s2; have B2 := hide (below_of ((unhide B0).alloc (by simp) _) b2); clear s2 b2)
        | (go_at_call 60; with_reducible refine (unlike_any (cat F n G) _ (n + k) _ (unhide S2) (by omega)).mono ?_; rintro e w3 ⟨rfl, b3⟩; have B3 := hide (below_of (unhide B2) b3); clear b3))
      go_ret
      exact ⟨rfl, unhide B3⟩
end Go.Proofs.Ytmcmiojidgdjpaa
namespace Go.Proofs.Ytmcmiojidgdjpaa
open Go.RowKit

/-- The same numbers. -/
def eqB (F : Nat → Int) (n : Nat) (G : Nat → Int) (k : Nat) : Bool := decide (n = k ∧ ∀ i, i < n → F i = G i)
set_option maxRecDepth 100000 in
theorem ints_any (F G : Nat → Int) (va vb : Value) (n k : Nat) (w : World) (ha : Sl .i64 w va n F) (hb : Sl .i64 w vb k G) :
    Calls Try.prog 29 #[va, vb] w fun e w' => e = .returned (.bool (eqB F n G k)) ∧ ∃ m, w' = w.drewN m := by
  obtain ⟨pa, ca, rfl, la, ka⟩ := ha.shape
  obtain ⟨pb, cb, rfl, lb, kb⟩ := hb.shape
  unfold maxLen at ka kb
  have HA := hide ha
  have HB := hide hb
  clear ha hb
  by_cases hnk : n = k
  · subst hnk
    go_enter Try.func29, Try.ntmps29
    go_wp2
    go_loopw [5] (fun xi w1 => ∃ k : Nat, k ≤ n ∧ xi = .int .i64 k ∧ (∀ i, i < k → F i = G i) ∧ ∃ m, w1 = w.drewN m) (fun i _ => n - (intOf i).toNat)
    case atStart => exact ⟨0, by omega, rfl, fun i hi => by omega, 0, rfl⟩
    case round =>
      obtain ⟨k, hk, rfl, hall, m, hW⟩ := hrel
      have HL := hide hall
      clear hall
      by_cases hlt : k < n
      · obtain ⟨ba, oa, rfl, _, hca⟩ := (unhide HA).some (by omega)
        obtain ⟨bb, ob, rfl, _, hcb⟩ := (unhide HB).some (by omega)
        have c1 : wr.cell? ⟨ba, oa + k, none⟩ = some (.int .i64 (F k)) := by rw [hW]; exact hca k hlt
        have c2 : wr.cell? ⟨bb, ob + k, none⟩ = some (.int .i64 (G k)) := by rw [hW]; exact hcb k hlt
        have HW := hide hW
        clear hW hca hcb
        by_cases hx : F k = G k
        · have d1 : (F k != G k) = false := by simp [hx]
          have HX := hide hx
          clear hx
          go_wp2
          go_quiet (fail)
          go_wp2
          go_roundw
          case rel =>
            refine ⟨k + 1, by omega, by go_num, fun i hi => ?_, m + nq, by rw [unhide HW, World.drewN_drewN]⟩
            by_cases e : i = k
            · rw [e]; exact unhide HX
            · exact unhide HL i (by omega)
          case measure => simp [intOf]; omega
        · have d1 : (F k != G k) = true := by simp [hx]
          have HX := hide hx
          clear hx
          go_wp2
          go_quiet (fail)
          go_wp2
          go_ret
          refine ⟨?_, m + nq, by rw [unhide HW, World.drewN_drewN]⟩
          rw [eqB, decide_eq_false (fun q => unhide HX (q.2 k hlt))]
          rfl
      · subst hW
        go_wp2
        go_ret
        refine ⟨?_, m, rfl⟩
        rw [eqB, decide_eq_true ⟨rfl, fun i hi => unhide HL i (by omega)⟩]
        rfl
  · have d : ((n : Int) != (k : Int)) = true := by simp; omega
    go_enter Try.func29, Try.ntmps29
    go_wp2
    go_ret
    refine ⟨?_, 0, rfl⟩
    rw [eqB, decide_eq_false (fun q => hnk q.1)]
    rfl
theorem ints_b (F G : Nat → Int) (va vb : Value) (n k : Nat) (w : World) (ha : Sl .i64 w va n F) (hb : Sl .i64 w vb k G) :
    Calls Try.prog 29 #[va, vb] w fun e w' => e = .returned (.bool (eqB F n G k)) ∧ Below w.heap.size w w' := by
  refine (ints_any F G va vb n k w ha hb).mono ?_
  rintro e w' ⟨rfl, m, rfl⟩
  exact ⟨rfl, below_drewN (Below.refl _ _) m⟩
end Go.Proofs.Ytmcmiojidgdjpaa
namespace Go.Proofs.Ytmcmiojidgdjpaa.Cr
open Go.RowKit

theorem info3 : (Try.prog.info? 3).map (fun i => (i.zero, i.size, i.bytes)) = some (some (.int .i64 0), 1, 8) := by kernel_rfl
theorem info5 : (Try.prog.info? 5).map (fun i => (i.zero, i.size, i.bytes)) = some (some (.int .u8 0), 1, 1) := by kernel_rfl

set_option maxRecDepth 100000 in
theorem twin_any (F : Nat → Int) (v : Value) (n : Nat) (w : World) (hv : Sl .u8 w v n F) (hn : n ≤ 1000000) :
    Calls Try.prog 9 #[v] w fun e w' => ∃ v', e = .returned v' ∧ w'.ownsRow w.heap.size 5 1 v' n (vL .u8 F n) ∧ Below w.heap.size w w' := by
  obtain ⟨i, hi, hz0, hz1, hz2⟩ := info_parts info5
  have key : ∀ (x : Addr) (cap : Nat), (∀ j u, (vL .u8 F n)[j]? = some u → w.cell? (x.add j) = some u) → Calls Try.prog 9 #[.slice (some x) n cap] w fun e w' => ∃ v', e = .returned v' ∧ w'.ownsRow w.heap.size 5 1 v' n (vL .u8 F n) ∧ Below w.heap.size w w' := by
    intro x cap hc
    have HC := hide hc
    clear hc
    go_enter Try.func9, Try.ntmps9
    go_wp2_with (at_builtin; refine wpList_append_own _ rfl (.tmp 4) (.tmp 5) 25 rfl w.heap.size 5 i (.int .u8 0) 1 1 Try.underlying25 hi hz0 hz1 hz2 rfl (by decide) (.slice none 0 0) 0 [] rfl (World.ownsRow_nil _ _ _ _) x n cap (vL .u8 F n) rfl (by rw [vL_length]; omega) (unhide HC) (vL_one _ F n) (by unfold maxLen; omega) (by omega) (Nat.le_refl _) ?_)
    intro v2 w2 hown2 hgrow2 _
    go_wp2
    go_ret
    refine ⟨v2, rfl, by simpa using hown2, (Below.refl _ _).grown hgrow2 (Nat.le_refl _) (by intro k h; cases h)⟩
  obtain ⟨p, cap, rfl, hc1, hc2⟩ := hv.shape
  have hcs := hv.cells
  cases p with
  | none =>
    obtain ⟨rfl, rfl⟩ := hcs.1 rfl
    clear hcs
    go_enter Try.func9, Try.ntmps9
    go_wp2_with (at_builtin; refine wpList_append_own_none rfl (.tmp 4) (.tmp 5) 25 rfl w.heap.size 5 i 1 Try.underlying25 hi (.slice none 0 0) 0 [] rfl (World.ownsRow_nil _ _ _ _) rfl ?_)
    go_wp2
    go_ret
    exact ⟨_, rfl, World.ownsRow_nil _ _ _ _, Below.refl _ _⟩
  | some x => exact key x cap (hcs.2 x rfl)
set_option maxRecDepth 100000 in
theorem bytes_t (F : Nat → Int) (va vb : Value) (n : Nat) (w : World) (ha : Sl .u8 w va n F) (hb : Sl .u8 w vb n F) :
    Calls Try.prog 14 #[va, vb] w fun e w' => e = .returned (.bool true) ∧ ∃ m, w' = w.drewN m := by
  obtain ⟨pa, ca, rfl, la, ka⟩ := ha.shape
  obtain ⟨pb, cb, rfl, lb, kb⟩ := hb.shape
  unfold maxLen at ka kb
  have HA := hide ha
  have HB := hide hb
  clear ha hb
  go_enter Try.func14, Try.ntmps14
  go_wp2
  go_loopw [5] (fun xi w1 => ∃ k : Nat, k ≤ n ∧ xi = .int .i64 k ∧ ∃ m, w1 = w.drewN m) (fun i _ => n - (intOf i).toNat)
  case atStart => exact ⟨0, by omega, rfl, 0, rfl⟩
  case round =>
    obtain ⟨k, hk, rfl, m, hW⟩ := hrel
    by_cases hlt : k < n
    · obtain ⟨ba, oa, rfl, _, hca⟩ := (unhide HA).some (by omega)
      obtain ⟨bb, ob, rfl, _, hcb⟩ := (unhide HB).some (by omega)
      have c1 : wr.cell? ⟨ba, oa + k, none⟩ = some (.int .u8 (F k)) := by rw [hW]; exact hca k hlt
      have c2 : wr.cell? ⟨bb, ob + k, none⟩ = some (.int .u8 (F k)) := by rw [hW]; exact hcb k hlt
      have HW := hide hW
      clear hW hca hcb
      go_wp2
      go_quiet (fail)
      go_wp2
      go_roundw
      case rel => exact ⟨k + 1, by omega, by go_num, m + nq, by rw [unhide HW, World.drewN_drewN]⟩
      case measure => simp [intOf]; omega
    · subst hW
      go_wp2
      go_ret
      exact ⟨rfl, m, rfl⟩
theorem below_drewN {B : Nat} {a w : World} (h : Below B a w) (n : Nat) : Below B a (w.drewN n) := ⟨h.os, h.tape, h.output, h.size, h.block⟩
theorem bytes_b (F : Nat → Int) (va vb : Value) (n : Nat) (w : World) (ha : Sl .u8 w va n F) (hb : Sl .u8 w vb n F) :
    Calls Try.prog 14 #[va, vb] w fun e w' => e = .returned (.bool true) ∧ Below w.heap.size w w' := by
  refine (bytes_t F va vb n w ha hb).mono ?_
  rintro e w' ⟨rfl, m, rfl⟩
  exact ⟨rfl, below_drewN (Below.refl _ _) m⟩
theorem below_of {w w0 w' : World} (h0 : Below w.heap.size w w0) (h : Below w0.heap.size w0 w') : Below w.heap.size w w' := h0.trans (h.mono h0.size)
theorem owns_some {e : TypeId} {w : World} {B n : Nat} {v : Value} {L : List Value} (h : w.ownsRow B e 1 v n L) (hn : 0 < n) : ∃ g cap, v = .slice (some ⟨g, 0, none⟩) n cap ∧ n ≤ cap ∧ cap ≤ maxLen := by
  rcases h.2 with ⟨rfl, rfl⟩ | ⟨g, cap, cur, rfl, hb, hg, hc, hm, _, _⟩
  · omega
  · exact ⟨g, cap, rfl, hc, hm⟩
theorem _root_.Go.Proofs.Ytmcmiojidgdjpaa.Sl.take {k : IntKind} {w : World} {a : Addr} {n cap j : Nat} {F : Nat → Int} (h : Sl k w (.slice (.some a) n cap) n F) (hn : 0 < n) (hj : j ≤ n) : Sl k w (.slice (.some a) j cap) j F := by
  rcases h with ⟨h, _⟩ | ⟨b, off, cap', he, h1, h2, h3, h4⟩
  · omega
  · cases he
    exact .inr ⟨b, off, cap, rfl, by omega, h2, h3, fun i hi => h4 i (by omega)⟩

end Go.Proofs.Ytmcmiojidgdjpaa.Cr
