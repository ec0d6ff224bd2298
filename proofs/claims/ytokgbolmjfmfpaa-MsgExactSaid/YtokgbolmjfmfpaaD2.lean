/- Messages and slices that came in. -/
import Derived.Test.YtokgbolmjfmfpaaD1
namespace Go.Proofs.Ytokgbolmjfmfpaa
open Go.ChangeShapes Go.WideShapes Go.ChangeAt Go.RowKit

/-- A slice of numbers that came in. -/
def IsRow (k : IntKind) (w : World) (a : Option Addr) (len cap : Nat) (zs : List Int) : Prop :=
  (a = none ∧ len = 0 ∧ cap = 0 ∧ zs = []) ∨
  ∃ x, a = some x ∧ len ≤ cap ∧ cap ≤ maxLen ∧ zs.length = cap ∧ (∀ i, i < zs.length → w.cell? (x.add i) = some (.int k (zs.getD i 0))) ∧ ∀ n ∈ zs, (Lit.int k n).wf = true
def rowF (zs : List Int) (i : Nat) : Int := zs.getD i 0
theorem IsRow.sl {k : IntKind} {w : World} {a : Option Addr} {len cap : Nat} {zs : List Int} (h : IsRow k w a len cap zs) : Sl k w (.slice a len cap) len (rowF zs) := by
  rcases h with ⟨rfl, rfl, rfl, rfl⟩ | ⟨x, rfl, h1, h2, h3, h4, _⟩
  · exact .inl ⟨rfl, .inl rfl⟩
  · by_cases h0 : len = 0
    · subst h0
      exact .inl ⟨rfl, .inr ⟨x, cap, rfl, by omega⟩⟩
    · obtain ⟨b, off, spot⟩ := x
      have hc := h4 0 (by omega)
      have hspot : spot = none := by simpa [Addr.add] using World.cell?_spot hc
      subst hspot
      have hc0 := block_lt_of_cell hc
      refine .inr ⟨b, off, cap, rfl, h1, h2, by simpa [Addr.add] using hc0, fun i hi => ?_⟩
      have := h4 i (by omega)
      rwa [Addr.add_lit] at this
theorem IsRow.len {k : IntKind} {w : World} {a : Option Addr} {len cap : Nat} {zs : List Int} (h : IsRow k w a len cap zs) : len ≤ maxLen := by
  rcases h with ⟨_, rfl, _, _⟩ | ⟨x, _, h1, h2, _⟩
  · exact Nat.zero_le _
  · omega
theorem row_cell {H : Type} {enc : TypeId × Value → H} {W : World} {base fuel : Nat} {held : Bool} {u : Value} {o : Option (DataW H × List MemPlace)} (ho : o.isSome = true)
    (hf : DataW.trod enc Try.prog W base (fun _ => true) held fuel 22 [u] = o) : ∃ a len cap zs, u = .slice a len cap ∧ IsRow .i64 W a len cap zs := by
  obtain ⟨x, rfl⟩ := Option.isSome_iff_exists.1 ho
  rcases open_ints Try.underlying22 Try.underlying3 (by kernel_rfl) hf with ⟨hcs, _⟩ | ⟨x, l, c, zs, hcs, _, hl, hm, hz, _, hcell, hwz⟩
  · exact ⟨none, 0, 0, [], (List.cons.inj hcs).1, .inl ⟨rfl, rfl, rfl, rfl⟩⟩
  · exact ⟨some x, l, c, zs, (List.cons.inj hcs).1, .inr ⟨_, rfl, hl, hm, by simpa using hz, hcell, hwz⟩⟩
theorem int_cell {H : Type} {enc : TypeId × Value → H} {W : World} {base fuel : Nat} {held : Bool} {u : Value} {o : Option (DataW H × List MemPlace)} (ho : o.isSome = true)
    (hf : DataW.trod enc Try.prog W base (fun _ => true) held fuel 3 [u] = o) : ∃ n, u = .int .i64 n := by
  obtain ⟨x, rfl⟩ := Option.isSome_iff_exists.1 ho
  obtain ⟨n, h, _⟩ := DataW.trod_int Try.underlying3 hf
  exact ⟨n, (List.cons.inj h).1⟩
theorem open_row64 {H : Type} {enc : TypeId × Value → H} {W : World} {base : Nat} {held : Bool} {a : Option Addr} {len cap : Nat} {d : DataW H} {p : List MemPlace}
    (h : ∃ fuel, DataW.trod enc Try.prog W base (fun _ => true) held fuel 22 (Value.slice a len cap).cells.toList = some (d, p)) : ∃ zs, IsRow .i64 W a len cap zs := by
  obtain ⟨fuel, hf⟩ := h
  obtain ⟨a', len', cap', zs, e, hr⟩ := row_cell (u := .slice a len cap) (o := some (d, p)) rfl hf
  cases e
  exact ⟨zs, hr⟩
theorem cells24 : Try.prog.cellsOf 24 = 16 := by kernel_rfl
theorem c3 : Try.prog.cellsOf 3 = 1 := by kernel_rfl
theorem c22 : Try.prog.cellsOf 22 = 1 := by kernel_rfl
set_option maxRecDepth 10000 in
theorem open_msg {H : Type} {enc : TypeId × Value → H} {W : World} {r : Reach} {base b0 : Nat} {held : Bool} {v : Value} {d : DataW H} {p : List MemPlace}
    (hv : Value.okWide Try.prog W r b0 24 v) (h : ∃ fuel, DataW.trod enc Try.prog W base (fun _ => true) held fuel 24 v.cells.toList = some (d, p)) :
    ∃ (m : Mg) (x : Option Addr) (n c : Nat) (zs : List Int) (y : Option Addr) (k e : Nat) (us : List Int), v = mv m (.slice x n c) (.slice y k e) ∧ IsRow .i64 W x n c zs ∧ IsRow .i64 W y k e us := by
  obtain ⟨cs, rfl, hs⟩ := okWide_struct Try.underlying24 hv
  obtain ⟨fuel, hf⟩ := h
  rw [cells24] at hs
  obtain ⟨xs, m, _, _, hl, hlen, hx⟩ := DataW.trod_struct Try.underlying24 hf
  have hlen' : xs.length = 16 := hlen
  obtain ⟨l⟩ := cs
  match l, hs with
  | [a0, a1, a2, a3, a4, a5, a6, a7, a8, a9, a10, a11, a12, a13, a14, a15], _ =>
    have q0 : DataW.trod enc Try.prog W base (fun _ => true) held m 3 (([a0, a1, a2, a3, a4, a5, a6, a7, a8, a9, a10, a11, a12, a13, a14, a15].drop 0).take (Try.prog.cellsOf 3)) = xs[0]? := hx 0 _ rfl
    rw [c3] at q0
    obtain ⟨n0, e0⟩ := int_cell (u := a0) (by simp [hlen']) q0
    have q1 : DataW.trod enc Try.prog W base (fun _ => true) held m 3 (([a0, a1, a2, a3, a4, a5, a6, a7, a8, a9, a10, a11, a12, a13, a14, a15].drop 1).take (Try.prog.cellsOf 3)) = xs[1]? := hx 1 _ rfl
    rw [c3] at q1
    obtain ⟨n1, e1⟩ := int_cell (u := a1) (by simp [hlen']) q1
    have q2 : DataW.trod enc Try.prog W base (fun _ => true) held m 3 (([a0, a1, a2, a3, a4, a5, a6, a7, a8, a9, a10, a11, a12, a13, a14, a15].drop 2).take (Try.prog.cellsOf 3)) = xs[2]? := hx 2 _ rfl
    rw [c3] at q2
    obtain ⟨n2, e2⟩ := int_cell (u := a2) (by simp [hlen']) q2
    have q3 : DataW.trod enc Try.prog W base (fun _ => true) held m 3 (([a0, a1, a2, a3, a4, a5, a6, a7, a8, a9, a10, a11, a12, a13, a14, a15].drop 3).take (Try.prog.cellsOf 3)) = xs[3]? := hx 3 _ rfl
    rw [c3] at q3
    obtain ⟨n3, e3⟩ := int_cell (u := a3) (by simp [hlen']) q3
    have q4 : DataW.trod enc Try.prog W base (fun _ => true) held m 3 (([a0, a1, a2, a3, a4, a5, a6, a7, a8, a9, a10, a11, a12, a13, a14, a15].drop 4).take (Try.prog.cellsOf 3)) = xs[4]? := hx 4 _ rfl
    rw [c3] at q4
    obtain ⟨n4, e4⟩ := int_cell (u := a4) (by simp [hlen']) q4
    have q5 : DataW.trod enc Try.prog W base (fun _ => true) held m 3 (([a0, a1, a2, a3, a4, a5, a6, a7, a8, a9, a10, a11, a12, a13, a14, a15].drop 5).take (Try.prog.cellsOf 3)) = xs[5]? := hx 5 _ rfl
    rw [c3] at q5
    obtain ⟨n5, e5⟩ := int_cell (u := a5) (by simp [hlen']) q5
    have q6 : DataW.trod enc Try.prog W base (fun _ => true) held m 3 (([a0, a1, a2, a3, a4, a5, a6, a7, a8, a9, a10, a11, a12, a13, a14, a15].drop 6).take (Try.prog.cellsOf 3)) = xs[6]? := hx 6 _ rfl
    rw [c3] at q6
    obtain ⟨n6, e6⟩ := int_cell (u := a6) (by simp [hlen']) q6
    have q7 : DataW.trod enc Try.prog W base (fun _ => true) held m 3 (([a0, a1, a2, a3, a4, a5, a6, a7, a8, a9, a10, a11, a12, a13, a14, a15].drop 7).take (Try.prog.cellsOf 3)) = xs[7]? := hx 7 _ rfl
    rw [c3] at q7
    obtain ⟨n7, e7⟩ := int_cell (u := a7) (by simp [hlen']) q7
    have q8 : DataW.trod enc Try.prog W base (fun _ => true) held m 3 (([a0, a1, a2, a3, a4, a5, a6, a7, a8, a9, a10, a11, a12, a13, a14, a15].drop 8).take (Try.prog.cellsOf 3)) = xs[8]? := hx 8 _ rfl
    rw [c3] at q8
    obtain ⟨n8, e8⟩ := int_cell (u := a8) (by simp [hlen']) q8
    have q9 : DataW.trod enc Try.prog W base (fun _ => true) held m 3 (([a0, a1, a2, a3, a4, a5, a6, a7, a8, a9, a10, a11, a12, a13, a14, a15].drop 9).take (Try.prog.cellsOf 3)) = xs[9]? := hx 9 _ rfl
    rw [c3] at q9
    obtain ⟨n9, e9⟩ := int_cell (u := a9) (by simp [hlen']) q9
    have q10 : DataW.trod enc Try.prog W base (fun _ => true) held m 3 (([a0, a1, a2, a3, a4, a5, a6, a7, a8, a9, a10, a11, a12, a13, a14, a15].drop 10).take (Try.prog.cellsOf 3)) = xs[10]? := hx 10 _ rfl
    rw [c3] at q10
    obtain ⟨n10, e10⟩ := int_cell (u := a10) (by simp [hlen']) q10
    have q11 : DataW.trod enc Try.prog W base (fun _ => true) held m 3 (([a0, a1, a2, a3, a4, a5, a6, a7, a8, a9, a10, a11, a12, a13, a14, a15].drop 11).take (Try.prog.cellsOf 3)) = xs[11]? := hx 11 _ rfl
    rw [c3] at q11
    obtain ⟨n11, e11⟩ := int_cell (u := a11) (by simp [hlen']) q11
    have q12 : DataW.trod enc Try.prog W base (fun _ => true) held m 3 (([a0, a1, a2, a3, a4, a5, a6, a7, a8, a9, a10, a11, a12, a13, a14, a15].drop 12).take (Try.prog.cellsOf 3)) = xs[12]? := hx 12 _ rfl
    rw [c3] at q12
    obtain ⟨n12, e12⟩ := int_cell (u := a12) (by simp [hlen']) q12
    have q13 : DataW.trod enc Try.prog W base (fun _ => true) held m 3 (([a0, a1, a2, a3, a4, a5, a6, a7, a8, a9, a10, a11, a12, a13, a14, a15].drop 13).take (Try.prog.cellsOf 3)) = xs[13]? := hx 13 _ rfl
    rw [c3] at q13
    obtain ⟨n13, e13⟩ := int_cell (u := a13) (by simp [hlen']) q13
    have q14 : DataW.trod enc Try.prog W base (fun _ => true) held m 22 (([a0, a1, a2, a3, a4, a5, a6, a7, a8, a9, a10, a11, a12, a13, a14, a15].drop 14).take (Try.prog.cellsOf 22)) = xs[14]? := hx 14 _ rfl
    rw [c22] at q14
    obtain ⟨x14, l14, k14, z14, e14, r14⟩ := row_cell (u := a14) (by simp [hlen']) q14
    have q15 : DataW.trod enc Try.prog W base (fun _ => true) held m 22 (([a0, a1, a2, a3, a4, a5, a6, a7, a8, a9, a10, a11, a12, a13, a14, a15].drop 15).take (Try.prog.cellsOf 22)) = xs[15]? := hx 15 _ rfl
    rw [c22] at q15
    obtain ⟨x15, l15, k15, z15, e15, r15⟩ := row_cell (u := a15) (by simp [hlen']) q15
    subst e0 e1 e2 e3 e4 e5 e6 e7 e8 e9 e10 e11 e12 e13 e14 e15
    exact ⟨⟨n0, n1, n2, n3, n4, n5, n6, n7, n8, n9, n10, n11, n12, n13⟩, x14, l14, k14, z14, x15, l15, k15, z15, rfl, r14, r15⟩
end Go.Proofs.Ytokgbolmjfmfpaa
