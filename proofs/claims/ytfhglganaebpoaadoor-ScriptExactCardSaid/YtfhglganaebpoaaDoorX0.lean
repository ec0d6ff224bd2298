/- A region that draws its order, taken step by step. -/
import Derived.Test.YtfhglganaebpoaaDoorA0
import Derived.Deep.RegionHeld3
namespace Go.Proofs.YtfhglganaebpoaaDoor
open Go.RowKit

/-- The way through a region that draws its order (not to be opened). -/
structure WA (md : Region.Mode) (ops : Array Oper) (Q : Exit → Act → World → Prop) (S : World → Prop) (fuel : Nat) (l : Array Bool) (a : Act) (w : World) : Prop where
  out : wpAnyH Tryd.prog md ops Q S fuel l a w
variable {md : Region.Mode} {ops : Array Oper} {Q : Exit → Act → World → Prop} {S : World → Prop} {fuel : Nat} {l : Array Bool} {a : Act} {w : World}
theorem at_drop {i : Nat} {o : Oper} {r : List Oper} (h : ops.toList.drop i = o :: r) : ops[i]? = some o := by
  have := List.getElem?_drop (xs := ops.toList) (i := i) (j := 0)
  rw [h] at this
  simpa using this.symm
theorem wa_start {id : Nat} (S : World → Prop) (hS : S w.drew) (h : WA .any ops Q S ops.size (Array.replicate ops.size false) a w.drew) : (Code.region id ops true).wp Tryd.prog Q a w := wp_region_held_drew (by kernel_rfl) hS fun _ => h.out
theorem wa_take {o : Oper} {r : List Oper} {v : Value} (i : Nat) (hd : ops.toList.drop i = o :: r) (hs : Region.noSelect ops = true) (hf : Region.free md ops l i = true) (hr : (Region.ready md ops l).contains i = true)
    (hQ : ∀ c a w, Q (.panic c) (a.put o.dst v) w → Q (.panic c) a w) (hw : Region.wanted o (yielded ops a.tmps) = true) (hy : ∀ w, S w → (execOp a.eval o).run Tryd.prog w = .ok (.value v) w) (hS : S w)
    (k : WA md ops Q S fuel (l.setIfInBounds i true) (a.put o.dst v) w) : WA md ops Q S (fuel + 1) l a w := ⟨wpAnyH_take (at_drop hd) hs hf hr hQ (.inl ⟨hw, hy⟩) hS k.out⟩
theorem wa_none {o : Oper} {r : List Oper} (i : Nat) (hd : ops.toList.drop i = o :: r) (hs : Region.noSelect ops = true) (hf : Region.free md ops l i = true) (hr : (Region.ready md ops l).contains i = true)
    (hQ : ∀ c a w, Q (.panic c) (a.put o.dst undef) w → Q (.panic c) a w) (hw : Region.wanted o (yielded ops a.tmps) = false) (hS : S w)
    (k : WA md ops Q S fuel (l.setIfInBounds i true) (a.put o.dst undef) w) : WA md ops Q S (fuel + 1) l a w := ⟨wpAnyH_take (at_drop hd) hs hf hr hQ (.inr ⟨hw, rfl⟩) hS k.out⟩
theorem wa_done (hr : Region.ready md ops l = []) (h : Q .normal a w) : WA md ops Q S fuel l a w := ⟨wpAnyH_done hr h fuel⟩
theorem wa_one {o : Oper} {r : List Oper} (i : Nat) (hl : Region.ready md ops l = [i]) (hd : ops.toList.drop i = o :: r) (hw : Region.wanted o (yielded ops a.tmps) = true)
    (h : ∀ K : Act → World → Prop, Shut (∀ a w, S w → WA md ops Q S fuel (l.setIfInBounds i true) a w → K a w) → Oper.wp Tryd.prog o a w K Q) : WA md ops Q S (fuel + 1) l a w :=
  ⟨wpAnyH_ready hl (by simp) (AllReadyH.cons (at_drop hd) (fun K hK => by rw [if_pos hw]; exact h K (fun a w hS hW => hK.out a w hS fun _ => hW.out)) AllReadyH.nil)⟩
theorem wa_two {o o' : Oper} {r r' : List Oper} (i j : Nat) (hl : Region.ready md ops l = [i, j]) (hd : ops.toList.drop i = o :: r) (hd' : ops.toList.drop j = o' :: r') (hw : Region.wanted o (yielded ops a.tmps) = true) (hw' : Region.wanted o' (yielded ops a.tmps) = true)
    (h : ∀ K : Act → World → Prop, Shut (∀ a w, S w → WA md ops Q S fuel (l.setIfInBounds i true) a w → K a w) → Oper.wp Tryd.prog o a w K Q)
    (h' : ∀ K : Act → World → Prop, Shut (∀ a w, S w → WA md ops Q S fuel (l.setIfInBounds j true) a w → K a w) → Oper.wp Tryd.prog o' a w K Q) : WA md ops Q S (fuel + 1) l a w :=
  ⟨wpAnyH_ready hl (by simp) (AllReadyH.cons (at_drop hd) (fun K hK => by rw [if_pos hw]; exact h K (fun a w hS hW => hK.out a w hS fun _ => hW.out)) (AllReadyH.cons (at_drop hd') (fun K hK => by rw [if_pos hw']; exact h' K (fun a w hS hW => hK.out a w hS fun _ => hW.out)) AllReadyH.nil))⟩
end Go.Proofs.YtfhglganaebpoaaDoor
