/- Slices that came in; what the rows of this seat want; numbers taken by a divisor. -/
import Derived.Test.YtofaoagmchokmaaA1
import Derived.Deep.SlicePairs
import Derived.Deep.DeepHandedRow
import Derived.ShutString
import Derived.ChangeOld
import Derived.ChangeSlices
import Derived.ProofKit
import Derived.OpenShut
import Derived.JoinedOf
import Derived.Carry
namespace Go.Proofs.Ytofaoagmchokmaa
open Go.ChangeShapes Go.WideShapes Go.ChangeAt Go.RowKit Go.Deep

theorem own0 : ownKnob Try.prog.godebug = none := by kernel_rfl
theorem laidOut : laidOutB Try.prog = true := by kernel_rfl
theorem c41 : Try.prog.cellsOf 41 = 2 := by kernel_rfl
theorem c3 : Try.prog.cellsOf 3 = 1 := by kernel_rfl
/-- The list of the first n items of a function. -/
def itL (f : Nat → It) (n : Nat) : List It := (List.range n).map f
theorem itL_len (f : Nat → It) (n : Nat) : (itL f n).length = n := by simp [itL]
theorem itL_kz (f : Nat → It) {n i : Nat} (h : i < n) : kz (itL f n) i = f i := by simp [kz, itL, List.getD, h]
theorem open_items {H : Type} {enc : TypeId × Value → H} {W : World} {base : Nat} {held : Bool} {a : Option Addr} {len cap : Nat} {d : DataW H} {p : List MemPlace}
    (h : ∃ fuel, DataW.trod enc Try.prog W base (fun _ => true) held fuel 22 (Value.slice a len cap).cells.toList = some (d, p)) : ∃ L, KL W (.slice a len cap) L := by
  obtain ⟨fuel, hf⟩ := h
  rcases open_slice_pairs Try.underlying22 Try.underlying41 c41 rfl rfl c3 c3 hf with ⟨hcs, _⟩ | ⟨x, l, c, m, n, V0, V1, D0, D1, P0, P1, hcs, _, hl, hm, hmm, _, hx⟩
  · simp [Value.cells] at hcs
    obtain ⟨rfl, rfl, rfl⟩ := hcs
    exact ⟨[], KL.nil _⟩
  · simp [Value.cells] at hcs
    obtain ⟨rfl, rfl, rfl⟩ := hcs
    have hlm : m = cap := by simpa using hmm
    subst hlm
    by_cases h0 : len = 0
    · subst h0
      exact ⟨[], .inl ⟨rfl, .inr ⟨x, m, rfl, hm⟩⟩⟩
    · obtain ⟨b, off, spot⟩ := x
      have hc := (hx 0 (by omega)).1
      have hspot : spot = none := by simpa [Addr.add] using World.cell?_spot hc
      subst hspot
      have hc0 := block_lt_of_cell hc
      have each : ∀ i : Nat, ∃ f : It, i < len → W.cell? ⟨b, off + i * 2, none⟩ = some (.int .i64 f.1) ∧ W.cell? ⟨b, off + (i * 2 + 1), none⟩ = some (.int .i64 f.2) := by
        intro i
        by_cases hi : i < len
        · obtain ⟨q0, q1, q2, q3⟩ := hx i (by omega)
          obtain ⟨t, e0, _⟩ := DataW.trod_int Try.underlying3 q2
          obtain ⟨t', e1, _⟩ := DataW.trod_int Try.underlying3 q3
          have e0' := (List.cons.inj e0).1
          have e1' := (List.cons.inj e1).1
          rw [Addr.add_lit] at q0 q1
          exact ⟨⟨t, t'⟩, fun _ => ⟨by rw [q0, e0'], by rw [q1, e1']⟩⟩
        · exact ⟨⟨0, 0⟩, fun h => absurd h hi⟩
      obtain ⟨f, hf2⟩ : ∃ f : Nat → It, ∀ i, i < len → W.cell? ⟨b, off + i * 2, none⟩ = some (.int .i64 (f i).1) ∧ W.cell? ⟨b, off + (i * 2 + 1), none⟩ = some (.int .i64 (f i).2) :=
        ⟨fun i => Classical.choose (each i), fun i => Classical.choose_spec (each i)⟩
      refine ⟨itL f len, .inr ⟨b, off, m, by rw [itL_len], by rw [itL_len]; exact hl, hm, by simpa [Addr.add] using hc0, fun j u hu => ?_⟩⟩
      have hj : j < len * 2 := by have := (List.getElem?_eq_some_iff.1 hu).1; rw [fl_length, itL_len] at this; exact this
      have hd : j / 2 < len := by omega
      obtain ⟨g1, g2⟩ := hf2 (j / 2) hd
      obtain ⟨k1, k2⟩ := fl_get (itL f len) (j / 2) (by rw [itL_len]; exact hd)
      rw [itL_kz f hd] at k1 k2
      rcases Nat.mod_two_eq_zero_or_one j with hq | hq
      · rw [show j / 2 * 2 = j by omega] at g1 k1
        rw [k1] at hu
        obtain rfl := Option.some.inj hu
        exact g1
      · rw [show j / 2 * 2 + 1 = j by omega] at g2 k2
        rw [k2] at hu
        obtain rfl := Option.some.inj hu
        exact g2
/-- A slice of numbers that came in. -/
def IsRow (k : IntKind) (w : World) (a : Option Addr) (len cap : Nat) (zs : List Int) : Prop :=
  (a = none ∧ len = 0 ∧ cap = 0 ∧ zs = []) ∨
  ∃ x, a = some x ∧ len ≤ cap ∧ cap ≤ maxLen ∧ zs.length = cap ∧ (∀ i, i < zs.length → w.cell? (x.add i) = some (.int k (zs.getD i 0))) ∧ ∀ n ∈ zs, (Lit.int k n).wf = true
theorem open_row64 {H : Type} {enc : TypeId × Value → H} {W : World} {base : Nat} {held : Bool} {a : Option Addr} {len cap : Nat} {d : DataW H} {p : List MemPlace}
    (h : ∃ fuel, DataW.trod enc Try.prog W base (fun _ => true) held fuel 38 (Value.slice a len cap).cells.toList = some (d, p)) : ∃ zs, IsRow .i64 W a len cap zs := by
  obtain ⟨fuel, hf⟩ := h
  rcases open_ints Try.underlying38 Try.underlying3 (by kernel_rfl) hf with ⟨hcs, _⟩ | ⟨x, l, c, zs, hcs, _, hl, hm, hz, _, hcell, hwz⟩
  · simp [Value.cells] at hcs
    obtain ⟨rfl, rfl, rfl⟩ := hcs
    exact ⟨[], .inl ⟨rfl, rfl, rfl, rfl⟩⟩
  · simp [Value.cells] at hcs
    obtain ⟨rfl, rfl, rfl⟩ := hcs
    exact ⟨zs, .inr ⟨_, rfl, hl, hm, by simpa using hz, hcell, hwz⟩⟩
/-- A slice of numbers is there. -/
def IL (w : World) (v : Value) (n : Nat) (F : Nat → Int) : Prop :=
  ∃ q c, v = .slice q n c ∧ n ≤ c ∧ c ≤ 9223372036854775807 ∧ ∀ k, k < n → ∃ b off, q = some ⟨b, off, none⟩ ∧ b < w.heap.size ∧ w.cell? ⟨b, off + k, none⟩ = some (.int .i64 (F k))
theorem IL.below {w w' : World} {v : Value} {n B : Nat} {F : Nat → Int} (h : IL w v n F) (hb : Below B w w') (hB : w.heap.size ≤ B) : IL w' v n F := by
  obtain ⟨q, c, rfl, h1, h2, h3⟩ := h
  refine ⟨q, c, rfl, h1, h2, fun k hk => ?_⟩
  obtain ⟨b, off, e, l, g⟩ := h3 k hk
  exact ⟨b, off, e, Nat.lt_of_lt_of_le l hb.size, (hb.cell (p := ⟨b, off + k, none⟩) (by show b < B; omega)).trans g⟩
theorem IsRow.il {w : World} {a : Option Addr} {len cap : Nat} {zs : List Int} (h : IsRow .i64 w a len cap zs) : IL w (.slice a len cap) len (fun k => zs.getD k 0) := by
  rcases h with ⟨rfl, rfl, rfl, rfl⟩ | ⟨x, rfl, h1, h2, h3, h4, _⟩
  · exact ⟨_, _, rfl, by omega, by omega, fun k hk => absurd hk (Nat.not_lt_zero _)⟩
  · unfold maxLen at h2
    refine ⟨_, _, rfl, h1, by omega, fun k hk => ?_⟩
    obtain ⟨b, off, spot⟩ := x
    have h0 := h4 0 (by omega)
    have hspot : spot = none := by simpa [Addr.add] using World.cell?_spot h0
    subst hspot
    have hc0 := block_lt_of_cell h0
    have hc := h4 k (by omega)
    rw [Addr.add_lit] at hc
    exact ⟨b, off, rfl, by simpa [Addr.add] using hc0, hc⟩
theorem il_cell {w : World} {q : Option Addr} {n c : Nat} {F : Nat → Int} (h : IL w (.slice q n c) n F) {k : Nat} (hk : k < n) :
    ∃ b off, q = some ⟨b, off, none⟩ ∧ n ≤ c ∧ c ≤ 9223372036854775807 ∧ b < w.heap.size ∧ w.cell? ⟨b, off + k, none⟩ = some (.int .i64 (F k)) := by
  obtain ⟨q', c', e, h1, h2, h3⟩ := h
  cases e
  obtain ⟨b, off, e, l, g⟩ := h3 k hk
  exact ⟨b, off, e, h1, h2, l, g⟩
theorem modU (x : Int) (n : Int) (h : 0 < n) (h2 : n ≤ 2000000000) : wrap64 ((IntKind.u64.wrap x).tmod n) = (x % 18446744073709551616) % n := by
  have e1 : IntKind.u64.wrap x = x % 18446744073709551616 := rfl
  rw [e1, Int.tmod_eq_emod_of_nonneg (by omega)]
  have h3 := Int.emod_lt_of_pos (x % 18446744073709551616) h
  have h4 := Int.emod_nonneg (x % 18446744073709551616) (show n ≠ 0 by omega)
  unfold wrap64
  omega
theorem modN (x : Int) (n : Int) (h : 0 < n) (h2 : n ≤ 2000000000) : ∃ q : Int, wrap64 ((IntKind.u64.wrap x).tmod n) = q ∧ 0 ≤ q ∧ q < n :=
  ⟨_, modU x n h h2, Int.emod_nonneg _ (by omega), Int.emod_lt_of_pos _ h⟩
end Go.Proofs.Ytofaoagmchokmaa
