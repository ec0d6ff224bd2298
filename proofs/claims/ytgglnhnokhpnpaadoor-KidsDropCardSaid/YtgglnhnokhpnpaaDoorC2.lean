/- Walk of the page's Owner; append of a slice of ints that came in to a nil slice. -/
import Derived.Test.YtgglnhnokhpnpaaDoorC1
import Derived.Laws.OwnMore
namespace Go.Proofs.YtgglnhnokhpnpaaDoor
open Go.RowKit

/-- The page's best one of the first k. -/
def bst (t : Int) (F : Nat → Int) : Nat → Int
  | 0 => -1
  | k + 1 => own t F k
/-- append of ints that came in to a nil slice. -/
theorem wpList_append_isl {w : World} {ops : Array Oper} {rest : List Oper} {o : Oper} {a : Act} {Q : Exit → Act → World → Prop} (hgd : o.guard = none) (s x : Operand)
    (ho : o.op = .call { callee := .builtin .append, args := #[s, x], argTypes := #[39, 39] })
    (v : Value) (n : Nat) (F : Nat → Int) (hs : a.eval s = .slice none 0 0) (hx : a.eval x = v) (hv : ISl w v n F) (hn : n ≤ 1000)
    (h : ∀ v' w', w'.ownsRow w.heap.size 3 1 v' n (iL F n) → Below w.heap.size w w' → wpList Tryd.prog ops Q rest (a.put o.dst v') w') : wpList Tryd.prog ops Q (o :: rest) a w := by
  obtain ⟨i3, hi3, hz30, hz31, hz32⟩ := info_parts info3
  have key : ∀ (ad : Addr) (c : Nat), v = .slice (some ad) n c → (∀ j u, (iL F n)[j]? = some u → w.cell? (ad.add j) = some u) → wpList Tryd.prog ops Q (o :: rest) a w := by
    intro ad c hv2 hcell
    refine wpList_append_own _ hgd s x 39 ho w.heap.size 3 i3 (.int .i64 0) 1 8 Tryd.underlying39 hi3 hz30 hz31 hz32 rfl (by decide) (.slice none 0 0) 0 [] hs (World.ownsRow_nil _ _ _ _) ad n c (iL F n) (by rw [hx, hv2]) (by rw [iL_length, Nat.mul_one]) hcell (iL_one F n) (by unfold maxLen; omega) (by omega) (Nat.le_refl _) ?_
    intro v' w' ho2 hg _
    rw [Nat.zero_add, List.nil_append] at ho2
    exact h v' w' ho2 ((Below.refl _ _).grown hg (Nat.le_refl _) (fun b hb => by cases hb))
  rcases id hv with ⟨rfl, rfl | ⟨ad, c, rfl, _⟩⟩ | ⟨b, off, c, rfl, _⟩
  · refine wpList_plain hgd fun _ hK => ?_
    have hr := run_append_owned_none (P := Tryd.prog) (w := w) w.heap.size 39 o.type 3 i3 1 Tryd.underlying39 hi3 (.slice none 0 0) 0 [] (World.ownsRow_nil _ _ _ _)
    unfold Oper.wp execOp
    simp only [ho, resolve, invoke, builtin, Sem.run_bind, Sem.run_pure, Result.andThen_ok, List.map_toArray, List.map_cons, List.map_nil, hs, hx, hr]
    exact hK _ _ (h _ _ (World.ownsRow_nil _ _ _ _) (Below.refl _ _))
  · exact key ad c rfl (fun j u hu => by cases hu)
  · exact key _ c rfl (isl_cells hv)
end Go.Proofs.YtgglnhnokhpnpaaDoor
