/- The page's Msg: a region that copies fields, whatever order it draws. -/
import Derived.Test.YtokgbolmjfmfpaaE1
namespace Go.Proofs.Ytokgbolmjfmfpaa
open Go.RowKit

def c36_0 (p : String) : Oper := { dst := some 327, op := Op.fieldAddr 24 (Operand.tmp 1) 12, type := 0, pos := p, after := #[], guard := none }
def c36_1 (p : String) : Oper := { dst := some 328, op := Op.load 3 (Operand.tmp 327), type := 3, pos := p, after := #[{ on := 0, ground := Ground.data }], guard := none }
def c36_2 (p : String) : Oper := { dst := some 329, op := Op.fieldAddr 24 (Operand.tmp 1) 9, type := 0, pos := p, after := #[{ on := 5, ground := Ground.gcOnly Departure.lateStores }], guard := none }
def c36_3 (p : String) : Oper := { dst := some 330, op := Op.load 3 (Operand.tmp 329), type := 3, pos := p, after := #[{ on := 2, ground := Ground.data }, { on := 5, ground := Ground.gcOnly Departure.lateStores }], guard := none }
def c36_4 (p : String) : Oper := { dst := some 331, op := Op.fieldAddr 24 (Operand.tmp 3) 12, type := 0, pos := p, after := #[{ on := 0, ground := Ground.phase }, { on := 1, ground := Ground.phase }, { on := 2, ground := Ground.textOnly Departure.lateStores }, { on := 3, ground := Ground.textOnly Departure.lateStores }], guard := none }
def c36_5 (p : String) : Oper := { dst := none, op := Op.store 3 (Operand.tmp 331) (Operand.tmp 328), type := 0, pos := p, after := #[{ on := 4, ground := Ground.data }, { on := 1, ground := Ground.data }, { on := 0, ground := Ground.phase }, { on := 1, ground := Ground.phase }, { on := 2, ground := Ground.textOnly Departure.lateStores }, { on := 3, ground := Ground.textOnly Departure.lateStores }], guard := none }
def c36_6 (p : String) : Oper := { dst := some 332, op := Op.fieldAddr 24 (Operand.tmp 3) 9, type := 0, pos := p, after := #[{ on := 0, ground := Ground.phase }, { on := 1, ground := Ground.phase }, { on := 2, ground := Ground.phase }, { on := 3, ground := Ground.phase }, { on := 4, ground := Ground.phase }, { on := 5, ground := Ground.phase }], guard := none }
def c36_7 (p : String) : Oper := { dst := none, op := Op.store 3 (Operand.tmp 332) (Operand.tmp 330), type := 0, pos := p, after := #[{ on := 6, ground := Ground.data }, { on := 3, ground := Ground.data }, { on := 5, ground := Ground.chain }, { on := 0, ground := Ground.phase }, { on := 1, ground := Ground.phase }, { on := 2, ground := Ground.phase }, { on := 3, ground := Ground.phase }, { on := 4, ground := Ground.phase }, { on := 5, ground := Ground.phase }], guard := none }
def c36 (p : String) : Array Oper := #[c36_0 p, c36_1 p, c36_2 p, c36_3 p, c36_4 p, c36_5 p, c36_6 p, c36_7 p]
set_option maxRecDepth 100000 in
set_option maxHeartbeats 2000000 in
theorem copy_36 {Q : Exit → Act → World → Prop} (id : Nat) (p : String) (a : Act) (w : World) (g1 g3 : Nat) (cs ds : Array Value) (n0 : Int) (n1 : Int) (hsz : a.tmps.size = 347) (e1 : a.eval (.tmp 1) = .pointer (some ⟨g1, 0, none⟩)) (e3 : a.eval (.tmp 3) = .pointer (some ⟨g3, 0, none⟩))
    (hg1 : w.heap[g1]? = some (.cells cs 24)) (hg3 : w.heap[g3]? = some (.cells ds 24)) (hlt : g1 < g3) (hd : ds.size = 16) (y0 : cs[12]? = some (.int .i64 n0)) (y1 : cs[9]? = some (.int .i64 n1))
    (h : ∀ w', Below g3 w w' → w'.heap[g3]? = some (.cells ((ds.setIfInBounds 12 (.int .i64 n0)).setIfInBounds 9 (.int .i64 n1)) 24) → Q .normal ((((((a.put (some 327) (.pointer (some ⟨g1, 12, none⟩))).put (some 328) (.int .i64 n0)).put (some 329) (.pointer (some ⟨g1, 9, none⟩))).put (some 330) (.int .i64 n1)).put (some 331) (.pointer (some ⟨g3, 12, none⟩))).put (some 332) (.pointer (some ⟨g3, 9, none⟩))) w') :
    (Code.region id (c36 p) true).wp Try.prog Q a w := by
  refine wp_region_noPanic ?_
  have hQ : ∀ c a d v w, NoPanic Q (.panic c) (a.put d v) w → NoPanic Q (.panic c) a w := fun _ _ _ _ _ h => h
  have hx0 : w.drew.heap[g3]? = some (.cells ds 24) := by rw [heap_drew]; exact hg3
  have b0 : Below g3 w w.drew := (Below.refl _ w).drew
  refine wp_region_held (S := fun w' => Below g3 w w') (by kernel_rfl) ?_
  refine wpAnyH_take (i := 0) (v := .pointer (some ⟨g1, 12, none⟩)) rfl (by kernel_rfl) (by kernel_rfl) (by kernel_rfl) (fun c a w => hQ c a _ _ w) (.inl ⟨by kernel_rfl, fun w' hS => run_field 12 (by omega) w' _ _ rfl _ g1 (by simp [e1])⟩) b0 ?_
  refine reAct (a' := (a.put (some 327) (.pointer (some ⟨g1, 12, none⟩)))) (l' := #[true, false, false, false, false, false, false, false]) (by kernel_rfl) (by kernel_rfl) ?_
  refine wpAnyH_take (i := 1) (v := (.int .i64 n0)) rfl (by kernel_rfl) (by kernel_rfl) (by kernel_rfl) (fun c a w => hQ c a _ _ w) (.inl ⟨by kernel_rfl, fun w' hS => run_load3 w' _ _ rfl _ ⟨g1, 12, none⟩ (by simp [ev_eq, hsz]) _ (mv_cell ((hS.block g1 hlt).trans hg1) 12 _ y0)⟩) b0 ?_
  refine reAct (a' := ((a.put (some 327) (.pointer (some ⟨g1, 12, none⟩))).put (some 328) (.int .i64 n0))) (l' := #[true, true, false, false, false, false, false, false]) (by kernel_rfl) (by kernel_rfl) ?_
  refine wpAnyH_take (i := 2) (v := .pointer (some ⟨g1, 9, none⟩)) rfl (by kernel_rfl) (by kernel_rfl) (by kernel_rfl) (fun c a w => hQ c a _ _ w) (.inl ⟨by kernel_rfl, fun w' hS => run_field 9 (by omega) w' _ _ rfl _ g1 (by simp [ev_ne, e1])⟩) b0 ?_
  refine reAct (a' := (((a.put (some 327) (.pointer (some ⟨g1, 12, none⟩))).put (some 328) (.int .i64 n0)).put (some 329) (.pointer (some ⟨g1, 9, none⟩)))) (l' := #[true, true, true, false, false, false, false, false]) (by kernel_rfl) (by kernel_rfl) ?_
  refine wpAnyH_take (i := 3) (v := (.int .i64 n1)) rfl (by kernel_rfl) (by kernel_rfl) (by kernel_rfl) (fun c a w => hQ c a _ _ w) (.inl ⟨by kernel_rfl, fun w' hS => run_load3 w' _ _ rfl _ ⟨g1, 9, none⟩ (by simp [ev_eq, sz_put, hsz]) _ (mv_cell ((hS.block g1 hlt).trans hg1) 9 _ y1)⟩) b0 ?_
  refine reAct (a' := ((((a.put (some 327) (.pointer (some ⟨g1, 12, none⟩))).put (some 328) (.int .i64 n0)).put (some 329) (.pointer (some ⟨g1, 9, none⟩))).put (some 330) (.int .i64 n1))) (l' := #[true, true, true, true, false, false, false, false]) (by kernel_rfl) (by kernel_rfl) ?_
  refine wpAnyH_take (i := 4) (v := .pointer (some ⟨g3, 12, none⟩)) rfl (by kernel_rfl) (by kernel_rfl) (by kernel_rfl) (fun c a w => hQ c a _ _ w) (.inl ⟨by kernel_rfl, fun w' hS => run_field 12 (by omega) w' _ _ rfl _ g3 (by simp [ev_ne, e3])⟩) b0 ?_
  refine reAct (a' := (((((a.put (some 327) (.pointer (some ⟨g1, 12, none⟩))).put (some 328) (.int .i64 n0)).put (some 329) (.pointer (some ⟨g1, 9, none⟩))).put (some 330) (.int .i64 n1)).put (some 331) (.pointer (some ⟨g3, 12, none⟩)))) (l' := #[true, true, true, true, true, false, false, false]) (by kernel_rfl) (by kernel_rfl) ?_
  refine wpAnyH_all (rs := [5]) (by kernel_rfl) (by simp) ?_
  intro i hi
  obtain rfl : i = 5 := by simpa using hi
  have hx1 := heap_setCell_same w.drew g3 12 _ _ (.int .i64 n0) hx0
  have b1 : Below g3 w (w.drew.setCell ⟨g3, 12, none⟩ (.int .i64 n0)) := b0.setCell (Nat.le_refl _) _
  obtain ⟨u0, hu0⟩ : ∃ u, (ds)[12]? = some u := by simp [hd]
  refine wpOp_skip2 (o := c36_5 p) rfl (by kernel_rfl) (run_store3 _ _ _ _ rfl _ ⟨g3, 12, none⟩ (by simp [ev_eq, sz_put, hsz]) _ (by simp [ev_ne, ev_eq, sz_put, hsz]) u0 (mv_cell hx0 12 _ hu0) (frozen_of_row _ g3 12 _ _ hx0)) ⟨b1, ?_⟩
  refine reAct (a' := (((((a.put (some 327) (.pointer (some ⟨g1, 12, none⟩))).put (some 328) (.int .i64 n0)).put (some 329) (.pointer (some ⟨g1, 9, none⟩))).put (some 330) (.int .i64 n1)).put (some 331) (.pointer (some ⟨g3, 12, none⟩)))) (l' := #[true, true, true, true, true, true, false, false]) (by kernel_rfl) (by kernel_rfl) ?_
  refine wpAnyH_take (i := 6) (v := .pointer (some ⟨g3, 9, none⟩)) rfl (by kernel_rfl) (by kernel_rfl) (by kernel_rfl) (fun c a w => hQ c a _ _ w) (.inl ⟨by kernel_rfl, fun w' hS => run_field 9 (by omega) w' _ _ rfl _ g3 (by simp [ev_ne, e3])⟩) b1 ?_
  refine reAct (a' := ((((((a.put (some 327) (.pointer (some ⟨g1, 12, none⟩))).put (some 328) (.int .i64 n0)).put (some 329) (.pointer (some ⟨g1, 9, none⟩))).put (some 330) (.int .i64 n1)).put (some 331) (.pointer (some ⟨g3, 12, none⟩))).put (some 332) (.pointer (some ⟨g3, 9, none⟩)))) (l' := #[true, true, true, true, true, true, true, false]) (by kernel_rfl) (by kernel_rfl) ?_
  refine wpAnyH_all (rs := [7]) (by kernel_rfl) (by simp) ?_
  intro i hi
  obtain rfl : i = 7 := by simpa using hi
  have hx2 := heap_setCell_same (w.drew.setCell ⟨g3, 12, none⟩ (.int .i64 n0)) g3 9 _ _ (.int .i64 n1) hx1
  have b2 : Below g3 w ((w.drew.setCell ⟨g3, 12, none⟩ (.int .i64 n0)).setCell ⟨g3, 9, none⟩ (.int .i64 n1)) := b1.setCell (Nat.le_refl _) _
  obtain ⟨u1, hu1⟩ : ∃ u, (ds.setIfInBounds 12 (.int .i64 n0))[9]? = some u := by simp [hd]
  refine wpOp_skip2 (o := c36_7 p) rfl (by kernel_rfl) (run_store3 _ _ _ _ rfl _ ⟨g3, 9, none⟩ (by simp [ev_eq, sz_put, hsz]) _ (by simp [ev_ne, ev_eq, sz_put, hsz]) u1 (mv_cell hx1 9 _ hu1) (frozen_of_row _ g3 9 _ _ hx1)) ⟨b2, ?_⟩
  refine reAct (a' := ((((((a.put (some 327) (.pointer (some ⟨g1, 12, none⟩))).put (some 328) (.int .i64 n0)).put (some 329) (.pointer (some ⟨g1, 9, none⟩))).put (some 330) (.int .i64 n1)).put (some 331) (.pointer (some ⟨g3, 12, none⟩))).put (some 332) (.pointer (some ⟨g3, 9, none⟩)))) (l' := #[true, true, true, true, true, true, true, true]) (by kernel_rfl) (by kernel_rfl) ?_
  exact wpAnyH_done (by kernel_rfl) (NoPanic.normal (h _ b2 hx2)) _
end Go.Proofs.Ytokgbolmjfmfpaa
