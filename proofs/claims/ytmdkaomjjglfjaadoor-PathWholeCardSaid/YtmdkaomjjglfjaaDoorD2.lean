/- Slices of slices of ints that came in. -/
import Derived.Test.YtmdkaomjjglfjaaDoorD1
import Derived.Test.YtmdkaomjjglfjaaDoorK1
import Derived.Deep.Matrix
namespace Go.Proofs.YtmdkaomjjglfjaaDoor
open Go.ChangeShapes Go.WideShapes Go.ChangeAt Go.RowKit

theorem zF_take {L : List Int} {n i : Nat} (h : i < n) : zF (L.take n) i = zF L i := by simp [zF, List.getD, h]
theorem il_cells {w : World} {a : Option Addr} {len cap : Nat} {zs : List Int} (h1 : len ≤ cap) (h2 : cap ≤ maxLen) (h3 : zs.length = cap) (h4 : a = none → cap = 0) (h5 : ∀ x, a = some x → ∀ c, c < cap → w.cell? (x.add c) = some (.int .i64 (zs.getD c 0))) :
    IL w (.slice a len cap) (zs.take len) := by
  have hl : (zs.take len).length = len := by rw [List.length_take]; omega
  unfold IL
  rw [hl]
  cases a with
  | none =>
    have hc := h4 rfl
    subst hc
    obtain rfl : len = 0 := by omega
    exact .inl ⟨rfl, .inl rfl⟩
  | some x =>
    by_cases h0 : len = 0
    · subst h0
      exact .inl ⟨rfl, .inr ⟨x, cap, rfl, h2⟩⟩
    · obtain ⟨b, off, spot⟩ := x
      have hc := h5 _ rfl 0 (by omega)
      have hspot : spot = none := by simpa [Addr.add] using World.cell?_spot hc
      subst hspot
      have hc0 := block_lt_of_cell hc
      refine .inr ⟨b, off, cap, rfl, h1, h2, by simpa [Addr.add] using hc0, fun i hi => ?_⟩
      have := h5 _ rfl i (by omega)
      rw [Addr.add_lit] at this
      rw [this, zF_take hi]
      rfl
theorem IsRow.il {w : World} {a : Option Addr} {len cap : Nat} {zs : List Int} (h : IsRow w a len cap zs) : IL w (.slice a len cap) (zs.take len) := by
  rcases h with ⟨rfl, rfl, rfl, rfl⟩ | ⟨x, rfl, h1, h2, h3, h4, _⟩
  · exact .inl ⟨rfl, .inl rfl⟩
  · refine il_cells h1 h2 h3 (fun e => by cases e) fun y e c hc => ?_
    cases e
    exact h4 c (by omega)
theorem open_rows {H : Type} {enc : TypeId × Value → H} {W : World} {base : Nat} {held : Bool} {a : Option Addr} {len cap : Nat} {d : DataW H} {p : List MemPlace}
    (h : ∃ fuel, DataW.trod enc Tryd.prog W base (fun _ => true) held fuel 23 (Value.slice a len cap).cells.toList = some (d, p)) : ∃ M, LL W (.slice a len cap) M := by
  obtain ⟨fuel, hf⟩ := h
  rcases Deep.open_int_rows (show Tryd.prog.underlying 23 = some (.slice 22) by kernel_rfl) Tryd.underlying22 Tryd.underlying3 (by kernel_rfl) (by kernel_rfl) hf with ⟨hcs, _⟩ | ⟨x, l, c, A, L, C, Z, hcs, _, hl, hm, _, hcell⟩
  · simp [Value.cells] at hcs
    obtain ⟨rfl, rfl, rfl⟩ := hcs
    exact ⟨[], none, 0, rfl, fun k hk => absurd hk (Nat.not_lt_zero _)⟩
  · simp [Value.cells] at hcs
    obtain ⟨rfl, rfl, rfl⟩ := hcs
    have hlen : ((List.range len).map fun r => (Z r).take (L r)).length = len := by simp
    refine ⟨(List.range len).map fun r => (Z r).take (L r), some x, cap, by rw [hlen], fun k hk => ?_⟩
    rw [hlen] at hk ⊢
    obtain ⟨g1, g2, g3, g4, _, g6, g7⟩ := hcell k (by omega)
    have g0 := (hcell 0 (by omega)).1
    obtain ⟨b, off, spot⟩ := x
    have hspot : spot = none := by simpa [Addr.add] using World.cell?_spot g0
    subst hspot
    have hb := block_lt_of_cell g0
    rw [Addr.add_lit] at g1
    unfold maxLen at hm
    refine ⟨b, off, _, rfl, hl, by omega, by simpa [Addr.add] using hb, g1, ?_⟩
    have e : zL ((List.range len).map fun r => (Z r).take (L r)) k = (Z k).take (L k) := by simp [zL, List.getD, List.getElem?_map, List.getElem?_range hk]
    rw [e]
    exact il_cells g2 g3 g4 g6 fun y ey c hc => (g7 y ey).2 c hc
end Go.Proofs.YtmdkaomjjglfjaaDoor
