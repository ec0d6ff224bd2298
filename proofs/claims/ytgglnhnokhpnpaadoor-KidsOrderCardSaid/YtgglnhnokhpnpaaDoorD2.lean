/- Slices of kids that came in. -/
import Derived.Test.YtgglnhnokhpnpaaDoorD1
import Derived.Test.YtgglnhnokhpnpaaDoorJ0
import Derived.Deep.Slices
namespace Go.Proofs.YtgglnhnokhpnpaaDoor
open Go.ChangeShapes Go.WideShapes Go.ChangeAt Go.RowKit Go.Deep

theorem zF_take {L : List Int} {n i : Nat} (h : i < n) : zF (L.take n) i = zF L i := by simp [zF, List.getD, h]
theorem IsRow.il {w : World} {a : Option Addr} {len cap : Nat} {zs : List Int} (h : IsRow w a len cap zs) : IL w (.slice a len cap) (zs.take len) := by
  rcases h with ⟨rfl, rfl, rfl, rfl⟩ | ⟨x, rfl, h1, h2, h3, h4, _⟩
  · exact .inl ⟨rfl, .inl rfl⟩
  · have hl : (zs.take len).length = len := by rw [List.length_take]; omega
    unfold IL
    rw [hl]
    by_cases h0 : len = 0
    · subst h0
      exact .inl ⟨rfl, .inr ⟨x, cap, rfl, h2⟩⟩
    · obtain ⟨b, off, spot⟩ := x
      have hc := h4 0 (by omega)
      have hspot : spot = none := by simpa [Addr.add] using World.cell?_spot hc
      subst hspot
      have hc0 := block_lt_of_cell hc
      refine .inr ⟨b, off, cap, rfl, h1, h2, by simpa [Addr.add] using hc0, fun i hi => ?_⟩
      have := h4 i (by omega)
      rw [Addr.add_lit] at this
      rw [this, zF_take hi]
      rfl
theorem c45 : Tryd.prog.cellsOf 45 = 3 := by kernel_rfl
set_option maxRecDepth 100000 in
theorem three_ints {H : Type} {enc : TypeId × Value → H} {W : World} {base n : Nat} {held : Bool} {cs : List Value} {x : DataW H × List MemPlace} (hs : cs.length = 3) (hf : DataW.trod enc Tryd.prog W base (fun _ => true) held n 45 cs = some x) :
    ∃ a0 a1 a2 : Int, cs = [.int .i64 a0, .int .i64 a1, .int .i64 a2] := by
  obtain ⟨xs, m, _, _, _, hlen, hx⟩ := DataW.trod_struct Tryd.underlying45 hf
  have hlen' : xs.length = 3 := hlen
  match cs, hs, xs, hlen' with
  | [v0, v1, v2], _, [x0, x1, x2], _ =>
    have q0 : DataW.trod enc Tryd.prog W base (fun _ => true) held m 3 (([v0, v1, v2].drop 0).take (Tryd.prog.cellsOf 3)) = some x0 := hx 0 _ rfl
    have q1 : DataW.trod enc Tryd.prog W base (fun _ => true) held m 3 (([v0, v1, v2].drop 1).take (Tryd.prog.cellsOf 3)) = some x1 := hx 1 _ rfl
    have q2 : DataW.trod enc Tryd.prog W base (fun _ => true) held m 3 (([v0, v1, v2].drop 2).take (Tryd.prog.cellsOf 3)) = some x2 := hx 2 _ rfl
    rw [cells3] at q0 q1 q2
    obtain ⟨n0, e0, _⟩ := DataW.trod_int Tryd.underlying3 q0
    obtain ⟨n1, e1, _⟩ := DataW.trod_int Tryd.underlying3 q1
    obtain ⟨n2, e2, _⟩ := DataW.trod_int Tryd.underlying3 q2
    obtain rfl := (List.cons.inj e0).1
    obtain rfl := (List.cons.inj e1).1
    obtain rfl := (List.cons.inj e2).1
    exact ⟨n0, n1, n2, rfl⟩
/-- The list of kids whose numbers lie in a row. -/
def kdL (F : Nat → Int) (n : Nat) : List Kd := (List.range n).map fun i => (F (i * 3), F (i * 3 + 1), F (i * 3 + 2))
theorem kdL_len (F : Nat → Int) (n : Nat) : (kdL F n).length = n := by simp [kdL]
theorem fl_flat : ∀ L : List Kd, ∀ j, j < L.length * 3 → ∃ u, (fl L)[j]? = some u ∧ (j % 3 = 0 → u = .int .i64 (kz L (j / 3)).1) ∧ (j % 3 = 1 → u = .int .i64 (kz L (j / 3)).2.1) ∧ (j % 3 = 2 → u = .int .i64 (kz L (j / 3)).2.2) := by
  intro L j hj
  obtain ⟨h1, h2, h3⟩ := fl_get L (j / 3) (by omega)
  have hm : j % 3 = 0 ∨ j % 3 = 1 ∨ j % 3 = 2 := by omega
  rcases hm with h | h | h
  · rw [show j / 3 * 3 = j by omega] at h1
    exact ⟨_, h1, fun _ => rfl, fun q => by omega, fun q => by omega⟩
  · rw [show j / 3 * 3 + 1 = j by omega] at h2
    exact ⟨_, h2, fun q => by omega, fun _ => rfl, fun q => by omega⟩
  · rw [show j / 3 * 3 + 2 = j by omega] at h3
    exact ⟨_, h3, fun q => by omega, fun q => by omega, fun _ => rfl⟩
theorem kdL_kz (F : Nat → Int) {n i : Nat} (h : i < n) : kz (kdL F n) i = (F (i * 3), F (i * 3 + 1), F (i * 3 + 2)) := by simp [kz, kdL, List.getD, h]
theorem open_kids {H : Type} {enc : TypeId × Value → H} {W : World} {base : Nat} {held : Bool} {a : Option Addr} {len cap : Nat} {d : DataW H} {p : List MemPlace}
    (h : ∃ fuel, DataW.trod enc Tryd.prog W base (fun _ => true) held fuel 22 (Value.slice a len cap).cells.toList = some (d, p)) : ∃ L, KL W (.slice a len cap) L := by
  obtain ⟨fuel, hf⟩ := h
  rcases open_slice Tryd.underlying22 hf with ⟨hcs, _⟩ | ⟨x, l, c, m, n, D, Pl, hcs, _, hl, hm, hmm, _, hx⟩
  · simp [Value.cells] at hcs
    obtain ⟨rfl, rfl, rfl⟩ := hcs
    exact ⟨[], KL.nil _⟩
  · simp [Value.cells] at hcs
    obtain ⟨rfl, rfl, rfl⟩ := hcs
    have hlm : m = cap := by simpa using hmm
    subst hlm
    by_cases h0 : len = 0
    · subst h0
      exact ⟨[], .inl ⟨rfl, .inr ⟨x, m, rfl, hm⟩⟩⟩
    · have each : ∀ j, ∃ z : Int, j < len * 3 → W.cell? (x.add j) = some (.int .i64 z) := by
        intro j
        by_cases hj : j < len * 3
        · obtain ⟨cs', h1, h2⟩ := hx (j / 3) (by omega)
          rw [c45] at h1
          obtain ⟨_, hlen, hcell⟩ := World.cells?_some h1
          obtain ⟨a0, a1, a2, e⟩ := three_ints hlen h2
          subst e
          have hk : j % 3 < 3 := Nat.mod_lt _ (by omega)
          have := hcell (j % 3) hk
          rw [add_add, show j / 3 * 3 + j % 3 = j by omega] at this
          have hg : ∃ z : Int, ([.int .i64 a0, .int .i64 a1, .int .i64 a2] : List Value)[j % 3]? = some (.int .i64 z) := by
            generalize j % 3 = q at hk
            match q, hk with
            | 0, _ => exact ⟨_, rfl⟩
            | 1, _ => exact ⟨_, rfl⟩
            | 2, _ => exact ⟨_, rfl⟩
          obtain ⟨z, hz⟩ := hg
          rw [hz] at this
          exact ⟨z, fun _ => this⟩
        · exact ⟨0, fun h => absurd h hj⟩
      obtain ⟨F, hF⟩ : ∃ F : Nat → Int, ∀ j, j < len * 3 → W.cell? (x.add j) = some (.int .i64 (F j)) := ⟨fun j => Classical.choose (each j), fun j => Classical.choose_spec (each j)⟩
      obtain ⟨b, off, spot⟩ := x
      have hc := hF 0 (by omega)
      have hspot : spot = none := by simpa [Addr.add] using World.cell?_spot hc
      subst hspot
      have hc0 := block_lt_of_cell hc
      refine ⟨kdL F len, .inr ⟨b, off, m, by rw [kdL_len], by rw [kdL_len]; exact hl, hm, by simpa [Addr.add] using hc0, fun j u hu => ?_⟩⟩
      have hj : j < len * 3 := by have := (List.getElem?_eq_some_iff.1 hu).1; rw [fl_length, kdL_len] at this; exact this
      have hcj := hF j hj
      rw [Addr.add_lit] at hcj
      rw [hcj]
      obtain ⟨u', hu', k0, k1, k2⟩ := fl_flat (kdL F len) j (by rw [kdL_len]; exact hj)
      rw [hu'] at hu
      obtain rfl := Option.some.inj hu
      have hd : j / 3 < len := by omega
      rw [kdL_kz F hd] at k0 k1 k2
      have hm3 : j % 3 = 0 ∨ j % 3 = 1 ∨ j % 3 = 2 := by omega
      rcases hm3 with q | q | q
      · rw [k0 q, show j / 3 * 3 = j by omega]
      · rw [k1 q]; simp only; rw [show j / 3 * 3 + 1 = j by omega]
      · rw [k2 q]; simp only; rw [show j / 3 * 3 + 2 = j by omega]
end Go.Proofs.YtgglnhnokhpnpaaDoor
