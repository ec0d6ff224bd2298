/- Small laws: whole rows of words out of and into memory. -/
import Derived.Test.YteldgklcfemenaaDoorShA1
import Derived.Deep.QuietTactic
import Derived.BigQuiet
import Derived.Deep.OwnRows
import Derived.Laws.Rows
import Derived.Laws.Tables
namespace Go.Proofs.YteldgklcfemenaaDoor.Sh
open Go.RowKit

theorem below_drewN {B : Nat} {a w : World} (h : Below B a w) (n : Nat) : Below B a (w.drewN n) := ⟨h.os, h.tape, h.output, h.size, h.block⟩
theorem below_setRow {B : Nat} {a w : World} (h : Below B a w) {g : Nat} (hg : B ≤ g) (cs : Array Value) : Below B a (w.setRow g cs) :=
  h.trans ⟨rfl, rfl, rfl, by simp [World.setRow], fun k hk => setRow_other w g k cs (by omega)⟩

/-- A store of a word into a row of words. -/
theorem row_set {w : World} {b t n : Nat} {F G : Nat → Int} (h : w.rowIs b t n (fun m => .int .u32 (F m))) (k : Nat) (v : Int) (e : ∀ m, m < n → (if m = k then v else F m) = G m) :
    (w.setCell ⟨b, k, none⟩ (.int .u32 v)).rowIs b t n (fun m => .int .u32 (G m)) := by
  refine (h.set k (.int .u32 v)).congr ?_
  intro m hm
  rw [← e m hm]; split <;> rfl

theorem row_arr {w : World} {b t n : Nat} {F : Nat → Int} (h : w.rowIs b t n (fun m => .int .u32 (F m))) : w.heap[b]? = some (.cells (arr n F) t (0, 0)) := by
  obtain ⟨c, hb, hn, hc⟩ := h
  rw [hb, arr_of n F c hn hc]

theorem arr_all (n : Nat) (F : Nat → Int) : (arr n F).all (·.oneCell') = true := by
  simp [arr, Value.oneCell']

theorem arr_row (w : World) (b t n : Nat) (F : Nat → Int) (h : w.heap[b]? = some (.cells (arr n F) t (0, 0))) : w.rowIs b t n (fun m => .int .u32 (F m)) :=
  ⟨_, h, arr_size _ _, fun i hi => arr_get _ _ i hi⟩

/-- A whole row of words, stored. -/
theorem wpList_store_row {P : Program} {ops : Array Oper} {rest : List Oper} {o : Oper} {a : Act} {w : World} {Q : Exit → Act → World → Prop} (hgd : o.guard = none) (ty : TypeId) (x y : Operand) (ho : o.op = .store ty x y)
    (g : Nat) (cells : Array Value) (hx : a.eval x = .pointer (some ⟨g, 0, none⟩)) (hy : a.eval y = .agg cells) (t : TypeId) (old : Array Value) (hg : w.heap[g]? = some (.cells old t (0, 0)))
    (hi : (P.info? ty).map (·.size) = some cells.size) (hold : old.size = cells.size) (h1 : cells.all (·.oneCell') = true)
    (h : wpList P ops Q rest (a.put o.dst undef) (w.setRow g cells)) : wpList P ops Q (o :: rest) a w :=
  wpList_plain hgd fun _ hK => by
    unfold Oper.wp execOp
    simp only [ho, hx, hy, Instr.storeAt, Instr.sureAddr, Sem.run_bind, Sem.run_pure, Result.andThen_ok, run_storeVar_row w g t ty old cells hg hi hold h1]
    exact hK _ _ h
theorem size43 : (Tryd.prog.info? 52).map (·.size) = some 64 := by kernel_rfl
theorem size34 : (Tryd.prog.info? 47).map (·.size) = some 8 := by kernel_rfl
end Go.Proofs.YteldgklcfemenaaDoor.Sh
