/- Whether two rows of numbers, two slices are the same. -/
import Derived.Test.YtokgbolmjfmfpaaA3
import Derived.Test.YtokgbolmjfmfpaaA9
import Derived.Test.YtokgbolmjfmfpaaShelf
import Derived.ChangeKeysEq
namespace Go.Proofs.Ytokgbolmjfmfpaa
open Go.RowKit

/-- The same numbers. -/
def eqM (a b : Mg) : Bool := (List.range 14).all fun i => fld a i == fld b i
theorem cells3 : Try.prog.cellsOf 3 = 1 := by kernel_rfl
theorem run_items (d : Nat) (cs ds : Array Value) (f g : Nat → Int) (w : World) : ∀ is : List Nat, (∀ i ∈ is, cs[i]? = some (.int .i64 (f i)) ∧ ds[i]? = some (.int .i64 (g i))) →
    (Op.eqItems (d + 1) 3 1 cs ds is).run Try.prog w = .ok (is.all fun i => f i == g i) w
  | [], _ => by simp [Op.eqItems]
  | i :: is, h => by
    obtain ⟨h1, h2⟩ := h i (by simp)
    have ih := run_items d cs ds f g w is (fun j hj => h j (by simp [hj]))
    have p1 : (part 3 cs (i * 1)).run Try.prog w = .ok (.int .i64 (f i)) w := by simp [part, isAgg, run_underlying Try.underlying3, h1]
    have p2 : (part 3 ds (i * 1)).run Try.prog w = .ok (.int .i64 (g i)) w := by simp [part, isAgg, run_underlying Try.underlying3, h2]
    simp only [Op.eqItems, Sem.run_bind, p1, p2, Result.andThen_ok, run_equalIn_int w d 3 .i64 .i64 _ _ Try.underlying3, List.all_cons]
    cases hb : (f i == g i)
    · simp
    · simpa using ih
theorem run_eql40 (a b : Mg) (w : World) : (binOp .eql 40 (nv a) (nv b)).run Try.prog w = .ok (.bool (eqM a b)) w := by
  obtain ⟨i, hi, _⟩ := info_parts info3
  unfold nv
  rw [run_eql_struct, run_equalIn_array w 9999 _ _ Try.underlying40 hi, cells3, run_items 9998 _ _ (fld a) (fld b) w (List.range 14) (fun j hj => ⟨fld_nv a j (by simpa using hj), fld_nv b j (by simpa using hj)⟩)]
  rfl
theorem lst_getD' (F : Nat → Int) (n i : Nat) (h : i < n) : ((List.range n).map F).getD i 0 = F i := by simp [List.getD, h]
theorem equal_any (F G : Nat → Int) (va vb : Value) (n k : Nat) (w : World) (ha : Sl .i64 w va n F) (hb : Sl .i64 w vb k G) (hn : n ≤ 1000000) (hk : k ≤ 1000000) :
    Calls Try.prog 28 #[va, vb] w fun e w' => e = .returned (.bool (eqB F n G k)) ∧ Below w.heap.size w w' := by
  obtain ⟨pa, ca, rfl, la, ka⟩ := ha.shape
  obtain ⟨pb, cb, rfl, lb, kb⟩ := hb.shape
  by_cases hnk : n = k
  · subst hnk
    by_cases h0 : n = 0
    · subst h0
      refine (Try.slices_Equal_int_empty pa pb ca 0 cb w (by omega)).mono ?_
      rintro e w' ⟨rfl, rfl⟩
      exact ⟨rfl, Below.refl _ _⟩
    · obtain ⟨ba, oa, rfl, _, ca'⟩ := ha.some (by omega)
      obtain ⟨bb, ob, rfl, _, cb'⟩ := hb.some (by omega)
      refine (Try.slices_Equal_int ba oa n ca bb ob n cb ((List.range n).map F) ((List.range n).map G) w (by simp) (by simp) (by omega) (by omega) (fun j hj => ?_) (fun j hj => ?_)).mono ?_
      · have hj' : j < n := by simpa using hj
        rw [ca' j hj', lst_getD' F n j hj']
      · have hj' : j < n := by simpa using hj
        rw [cb' j hj', lst_getD' G n j hj']
      · rintro e w' ⟨rfl, q, rfl⟩
        refine ⟨?_, below_drewN (Below.refl _ _) q⟩
        rw [List.take_of_length_le (by simp), List.take_of_length_le (by simp)]
        congr 2
        rw [Bool.eq_iff_iff]
        simp only [beq_iff_eq, eqB, decide_eq_true_eq, true_and]
        constructor
        · intro e i hi
          have := congrArg (fun l => l.getD i 0) e
          simpa [List.getD, hi] using this
        · intro e
          apply List.map_congr_left
          intro i hi
          exact e i (List.mem_range.1 hi)
  · refine (Try.slices_Equal_int_lens pa pb n ca k cb w hnk).mono ?_
    rintro e w' ⟨rfl, rfl⟩
    refine ⟨?_, Below.refl _ _⟩
    rw [eqB, decide_eq_false (fun q => hnk q.1)]
end Go.Proofs.Ytokgbolmjfmfpaa
