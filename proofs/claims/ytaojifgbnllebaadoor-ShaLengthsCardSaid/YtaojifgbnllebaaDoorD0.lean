/- The contracts once more, told from an elder world. -/
import Derived.Test.YtaojifgbnllebaaDoorC1
namespace Go.Proofs.YtaojifgbnllebaaDoor
open Go.RowKit

theorem sum_at (w W : World) (hb : Below w.heap.size w W) (hG : Glob s0 kk w) (f : Nat → Int) (v : Value) (n : Nat) (hv : BSl W v n f) (hf : ∀ i, 0 ≤ f i ∧ f i < 256) :
    Calls Tryd.prog 8 #[v] W fun e w' => ∃ g, e = .returned (.slice (some ⟨g, 0, none⟩) 32 32) ∧ w.heap.size ≤ g ∧ BSl w' (.slice (some ⟨g, 0, none⟩) 32 32) 32 (shaS s0 kk f n).byte ∧ Below w.heap.size w w' ∧ Below W.heap.size W w' := by
  refine (sum_any s0 kk f v n W (hG.below hb hG.size) hv hf).mono ?_
  rintro e w1 ⟨g, rfl, hown, hb1⟩
  exact ⟨g, rfl, by have := (hown.lt g rfl).1; have := hb.size; omega, sum_sl hown, hb.trans (hb1.mono hb.size), hb1⟩
theorem hex_at (w W : World) (hb : Below w.heap.size w W) (f : Nat → Int) (v : Value) (n : Nat) (hv : BSl W v n f) (hf : ∀ i, 0 ≤ f i ∧ f i < 256) (hn : n ≤ 100000) :
    Calls Tryd.prog 11 #[v] W fun e w' => e = .returned (.string (strOfNums (hexI f n))) ∧ Below w.heap.size w w' ∧ Below W.heap.size W w' := by
  refine (hex_any f v n W hv hf hn).mono ?_
  rintro e w1 ⟨rfl, hb1⟩
  exact ⟨rfl, hb.trans (hb1.mono hb.size), hb1⟩
theorem head_at (w W : World) (hb : Below w.heap.size w W) (hG : Glob s0 kk w) (f : Nat → Int) (v : Value) (n : Nat) (hv : BSl W v n f) (hf : ∀ i, 0 ≤ f i ∧ f i < 256) :
    Calls Tryd.prog 13 #[v] W fun e w' => e = .returned (.int .i64 (headN (shaS s0 kk f n).byte 8 / 4)) ∧ Below w.heap.size w w' ∧ Below W.heap.size W w' := by
  refine (head_any s0 kk f v n W (hG.below hb hG.size) hv hf).mono ?_
  rintro e w1 ⟨rfl, hb1⟩
  exact ⟨rfl, hb.trans (hb1.mono hb.size), hb1⟩
theorem wakes_at (w W : World) (hb : Below w.heap.size w W) (hG : Glob s0 kk w) :
    Calls Tryd.prog 15 #[] W fun e w' => e = .returned (.bool true) ∧ Below w.heap.size w w' := by
  refine (wakes_any W (hG.below hb hG.size)).mono ?_
  rintro e w1 ⟨rfl, hb1⟩
  exact ⟨rfl, hb.trans (hb1.mono hb.size)⟩
end Go.Proofs.YtaojifgbnllebaaDoor
