/- PathExact: contracts told again. -/
import Derived.Test.YtmdkaomjjglfjaaDoorW1
import Derived.Test.YtmdkaomjjglfjaaDoorK5
namespace Go.Proofs.YtmdkaomjjglfjaaDoor
open Go.RowKit

theorem ol_lit1 (w : World) (x : Int) : OL (w.alloc (.cells #[.int .i64 x] 3)) w.heap.size (.slice (some ⟨w.heap.size, 0, none⟩) 1 1) [x] :=
  World.ownsRow_lit w #[.int .i64 x] 1 (Nat.le_refl _) (by unfold maxLen; omega) rfl
theorem twin_n (L : List Int) (n : Nat) (v : Value) (w : World) (h : IL w v L) (hn : L.length = n) (h2 : n ≤ 1000) :
    Calls Tryd.prog 6 #[v] w fun e w' => ∃ q c, e = .returned (.slice q n c) ∧ IL w' (.slice q n c) L ∧ Below w.heap.size w w' := by
  refine (twin_il L v w h (by omega)).mono ?_
  rintro e w' ⟨v', rfl, ho, hb⟩
  obtain ⟨q, c, rfl⟩ := owns_shape ho
  rw [← hn]
  exact ⟨q, c, rfl, ho.il, hb⟩
theorem add_n (t s : Int) (L : List Int) (n : Nat) (v : Value) (w : World) (hG : Glob w) (h : IL w v L) (he : adE t s L = 0) (hn : (s :: L).length = n) :
    Calls Tryd.prog 7 #[.int .i64 t, .int .i64 s, v] w fun e w' => ∃ q c, e = .returned (.tuple #[.slice q n c, .int .i64 0]) ∧ IL w' (.slice q n c) (s :: L) ∧ Below w.heap.size w w' := by
  refine (add_ok t s L v w hG h he).mono ?_
  rintro e w' ⟨v', rfl, ho, hb⟩
  obtain ⟨q, c, rfl⟩ := owns_shape ho
  rw [← hn]
  exact ⟨q, c, rfl, ho.il, hb⟩
end Go.Proofs.YtmdkaomjjglfjaaDoor
