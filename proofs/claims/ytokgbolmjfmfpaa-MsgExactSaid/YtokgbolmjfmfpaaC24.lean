/- The page's Msg: a region that copies fields, whatever order it draws. -/
import Derived.Test.YtokgbolmjfmfpaaE1
namespace Go.Proofs.Ytokgbolmjfmfpaa
open Go.RowKit

def c24_0 (p : String) : Oper := { dst := some 180, op := Op.fieldAddr 24 (Operand.tmp 1) 6, type := 0, pos := p, after := #[], guard := none }
def c24_1 (p : String) : Oper := { dst := some 181, op := Op.load 3 (Operand.tmp 180), type := 3, pos := p, after := #[{ on := 0, ground := Ground.data }], guard := none }
def c24_2 (p : String) : Oper := { dst := some 182, op := Op.fieldAddr 24 (Operand.tmp 1) 7, type := 0, pos := p, after := #[{ on := 5, ground := Ground.gcOnly Departure.lateStores }], guard := none }
def c24_3 (p : String) : Oper := { dst := some 183, op := Op.load 3 (Operand.tmp 182), type := 3, pos := p, after := #[{ on := 2, ground := Ground.data }, { on := 5, ground := Ground.gcOnly Departure.lateStores }], guard := none }
def c24_4 (p : String) : Oper := { dst := some 184, op := Op.fieldAddr 24 (Operand.tmp 3) 6, type := 0, pos := p, after := #[{ on := 0, ground := Ground.phase }, { on := 1, ground := Ground.phase }, { on := 2, ground := Ground.textOnly Departure.lateStores }, { on := 3, ground := Ground.textOnly Departure.lateStores }], guard := none }
def c24_5 (p : String) : Oper := { dst := none, op := Op.store 3 (Operand.tmp 184) (Operand.tmp 181), type := 0, pos := p, after := #[{ on := 4, ground := Ground.data }, { on := 1, ground := Ground.data }, { on := 0, ground := Ground.phase }, { on := 1, ground := Ground.phase }, { on := 2, ground := Ground.textOnly Departure.lateStores }, { on := 3, ground := Ground.textOnly Departure.lateStores }], guard := none }
def c24_6 (p : String) : Oper := { dst := some 185, op := Op.fieldAddr 24 (Operand.tmp 3) 7, type := 0, pos := p, after := #[{ on := 0, ground := Ground.phase }, { on := 1, ground := Ground.phase }, { on := 2, ground := Ground.phase }, { on := 3, ground := Ground.phase }, { on := 4, ground := Ground.phase }, { on := 5, ground := Ground.phase }], guard := none }
def c24_7 (p : String) : Oper := { dst := none, op := Op.store 3 (Operand.tmp 185) (Operand.tmp 183), type := 0, pos := p, after := #[{ on := 6, ground := Ground.data }, { on := 3, ground := Ground.data }, { on := 5, ground := Ground.chain }, { on := 0, ground := Ground.phase }, { on := 1, ground := Ground.phase }, { on := 2, ground := Ground.phase }, { on := 3, ground := Ground.phase }, { on := 4, ground := Ground.phase }, { on := 5, ground := Ground.phase }], guard := none }
def c24 (p : String) : Array Oper := #[c24_0 p, c24_1 p, c24_2 p, c24_3 p, c24_4 p, c24_5 p, c24_6 p, c24_7 p]
set_option maxRecDepth 100000 in
set_option maxHeartbeats 2000000 in
theorem copy_24 {Q : Exit → Act → World → Prop} (id : Nat) (p : String) (a : Act) (w : World) (g1 g3 : Nat) (cs ds : Array Value) (n0 : Int) (n1 : Int) (hsz : a.tmps.size = 347) (e1 : a.eval (.tmp 1) = .pointer (some ⟨g1, 0, none⟩)) (e3 : a.eval (.tmp 3) = .pointer (some ⟨g3, 0, none⟩))
    (hg1 : w.heap[g1]? = some (.cells cs 24)) (hg3 : w.heap[g3]? = some (.cells ds 24)) (hlt : g1 < g3) (hd : ds.size = 16) (y0 : cs[6]? = some (.int .i64 n0)) (y1 : cs[7]? = some (.int .i64 n1))
    (h : ∀ w', Below g3 w w' → w'.heap[g3]? = some (.cells ((ds.setIfInBounds 6 (.int .i64 n0)).setIfInBounds 7 (.int .i64 n1)) 24) → Q .normal ((((((a.put (some 180) (.pointer (some ⟨g1, 6, none⟩))).put (some 181) (.int .i64 n0)).put (some 182) (.pointer (some ⟨g1, 7, none⟩))).put (some 183) (.int .i64 n1)).put (some 184) (.pointer (some ⟨g3, 6, none⟩))).put (some 185) (.pointer (some ⟨g3, 7, none⟩))) w') :
    (Code.region id (c24 p) true).wp Try.prog Q a w := by
  refine wp_region_noPanic ?_
  have hQ : ∀ c a d v w, NoPanic Q (.panic c) (a.put d v) w → NoPanic Q (.panic c) a w := fun _ _ _ _ _ h => h
  have hx0 : w.drew.heap[g3]? = some (.cells ds 24) := by rw [heap_drew]; exact hg3
  have b0 : Below g3 w w.drew := (Below.refl _ w).drew
  refine wp_region_held (S := fun w' => Below g3 w w') (by kernel_rfl) ?_
  refine wpAnyH_take (i := 0) (v := .pointer (some ⟨g1, 6, none⟩)) rfl (by kernel_rfl) (by kernel_rfl) (by kernel_rfl) (fun c a w => hQ c a _ _ w) (.inl ⟨by kernel_rfl, fun w' hS => run_field 6 (by omega) w' _ _ rfl _ g1 (by simp [e1])⟩) b0 ?_
  refine reAct (a' := (a.put (some 180) (.pointer (some ⟨g1, 6, none⟩)))) (l' := #[true, false, false, false, false, false, false, false]) (by kernel_rfl) (by kernel_rfl) ?_
  refine wpAnyH_take (i := 1) (v := (.int .i64 n0)) rfl (by kernel_rfl) (by kernel_rfl) (by kernel_rfl) (fun c a w => hQ c a _ _ w) (.inl ⟨by kernel_rfl, fun w' hS => run_load3 w' _ _ rfl _ ⟨g1, 6, none⟩ (by simp [ev_eq, hsz]) _ (mv_cell ((hS.block g1 hlt).trans hg1) 6 _ y0)⟩) b0 ?_
  refine reAct (a' := ((a.put (some 180) (.pointer (some ⟨g1, 6, none⟩))).put (some 181) (.int .i64 n0))) (l' := #[true, true, false, false, false, false, false, false]) (by kernel_rfl) (by kernel_rfl) ?_
  refine wpAnyH_take (i := 2) (v := .pointer (some ⟨g1, 7, none⟩)) rfl (by kernel_rfl) (by kernel_rfl) (by kernel_rfl) (fun c a w => hQ c a _ _ w) (.inl ⟨by kernel_rfl, fun w' hS => run_field 7 (by omega) w' _ _ rfl _ g1 (by simp [ev_ne, e1])⟩) b0 ?_
  refine reAct (a' := (((a.put (some 180) (.pointer (some ⟨g1, 6, none⟩))).put (some 181) (.int .i64 n0)).put (some 182) (.pointer (some ⟨g1, 7, none⟩)))) (l' := #[true, true, true, false, false, false, false, false]) (by kernel_rfl) (by kernel_rfl) ?_
  refine wpAnyH_take (i := 3) (v := (.int .i64 n1)) rfl (by kernel_rfl) (by kernel_rfl) (by kernel_rfl) (fun c a w => hQ c a _ _ w) (.inl ⟨by kernel_rfl, fun w' hS => run_load3 w' _ _ rfl _ ⟨g1, 7, none⟩ (by simp [ev_eq, sz_put, hsz]) _ (mv_cell ((hS.block g1 hlt).trans hg1) 7 _ y1)⟩) b0 ?_
  refine reAct (a' := ((((a.put (some 180) (.pointer (some ⟨g1, 6, none⟩))).put (some 181) (.int .i64 n0)).put (some 182) (.pointer (some ⟨g1, 7, none⟩))).put (some 183) (.int .i64 n1))) (l' := #[true, true, true, true, false, false, false, false]) (by kernel_rfl) (by kernel_rfl) ?_
  refine wpAnyH_take (i := 4) (v := .pointer (some ⟨g3, 6, none⟩)) rfl (by kernel_rfl) (by kernel_rfl) (by kernel_rfl) (fun c a w => hQ c a _ _ w) (.inl ⟨by kernel_rfl, fun w' hS => run_field 6 (by omega) w' _ _ rfl _ g3 (by simp [ev_ne, e3])⟩) b0 ?_
  refine reAct (a' := (((((a.put (some 180) (.pointer (some ⟨g1, 6, none⟩))).put (some 181) (.int .i64 n0)).put (some 182) (.pointer (some ⟨g1, 7, none⟩))).put (some 183) (.int .i64 n1)).put (some 184) (.pointer (some ⟨g3, 6, none⟩)))) (l' := #[true, true, true, true, true, false, false, false]) (by kernel_rfl) (by kernel_rfl) ?_
  refine wpAnyH_all (rs := [5]) (by kernel_rfl) (by simp) ?_
  intro i hi
  obtain rfl : i = 5 := by simpa using hi
  have hx1 := heap_setCell_same w.drew g3 6 _ _ (.int .i64 n0) hx0
  have b1 : Below g3 w (w.drew.setCell ⟨g3, 6, none⟩ (.int .i64 n0)) := b0.setCell (Nat.le_refl _) _
  obtain ⟨u0, hu0⟩ : ∃ u, (ds)[6]? = some u := by simp [hd]
  refine wpOp_skip2 (o := c24_5 p) rfl (by kernel_rfl) (run_store3 _ _ _ _ rfl _ ⟨g3, 6, none⟩ (by simp [ev_eq, sz_put, hsz]) _ (by simp [ev_ne, ev_eq, sz_put, hsz]) u0 (mv_cell hx0 6 _ hu0) (frozen_of_row _ g3 6 _ _ hx0)) ⟨b1, ?_⟩
  refine reAct (a' := (((((a.put (some 180) (.pointer (some ⟨g1, 6, none⟩))).put (some 181) (.int .i64 n0)).put (some 182) (.pointer (some ⟨g1, 7, none⟩))).put (some 183) (.int .i64 n1)).put (some 184) (.pointer (some ⟨g3, 6, none⟩)))) (l' := #[true, true, true, true, true, true, false, false]) (by kernel_rfl) (by kernel_rfl) ?_
  refine wpAnyH_take (i := 6) (v := .pointer (some ⟨g3, 7, none⟩)) rfl (by kernel_rfl) (by kernel_rfl) (by kernel_rfl) (fun c a w => hQ c a _ _ w) (.inl ⟨by kernel_rfl, fun w' hS => run_field 7 (by omega) w' _ _ rfl _ g3 (by simp [ev_ne, e3])⟩) b1 ?_
  refine reAct (a' := ((((((a.put (some 180) (.pointer (some ⟨g1, 6, none⟩))).put (some 181) (.int .i64 n0)).put (some 182) (.pointer (some ⟨g1, 7, none⟩))).put (some 183) (.int .i64 n1)).put (some 184) (.pointer (some ⟨g3, 6, none⟩))).put (some 185) (.pointer (some ⟨g3, 7, none⟩)))) (l' := #[true, true, true, true, true, true, true, false]) (by kernel_rfl) (by kernel_rfl) ?_
  refine wpAnyH_all (rs := [7]) (by kernel_rfl) (by simp) ?_
  intro i hi
  obtain rfl : i = 7 := by simpa using hi
  have hx2 := heap_setCell_same (w.drew.setCell ⟨g3, 6, none⟩ (.int .i64 n0)) g3 7 _ _ (.int .i64 n1) hx1
  have b2 : Below g3 w ((w.drew.setCell ⟨g3, 6, none⟩ (.int .i64 n0)).setCell ⟨g3, 7, none⟩ (.int .i64 n1)) := b1.setCell (Nat.le_refl _) _
  obtain ⟨u1, hu1⟩ : ∃ u, (ds.setIfInBounds 6 (.int .i64 n0))[7]? = some u := by simp [hd]
  refine wpOp_skip2 (o := c24_7 p) rfl (by kernel_rfl) (run_store3 _ _ _ _ rfl _ ⟨g3, 7, none⟩ (by simp [ev_eq, sz_put, hsz]) _ (by simp [ev_ne, ev_eq, sz_put, hsz]) u1 (mv_cell hx1 7 _ hu1) (frozen_of_row _ g3 7 _ _ hx1)) ⟨b2, ?_⟩
  refine reAct (a' := ((((((a.put (some 180) (.pointer (some ⟨g1, 6, none⟩))).put (some 181) (.int .i64 n0)).put (some 182) (.pointer (some ⟨g1, 7, none⟩))).put (some 183) (.int .i64 n1)).put (some 184) (.pointer (some ⟨g3, 6, none⟩))).put (some 185) (.pointer (some ⟨g3, 7, none⟩)))) (l' := #[true, true, true, true, true, true, true, true]) (by kernel_rfl) (by kernel_rfl) ?_
  exact wpAnyH_done (by kernel_rfl) (NoPanic.normal (h _ b2 hx2)) _
end Go.Proofs.Ytokgbolmjfmfpaa
