/- What the rows' list gives: the package's two variables; bytes, steps, configs that came in. -/
import Derived.Test.YtfhglganaebpoaaDoorS1
import Derived.Test.YtfhglganaebpoaaDoorCards
import Derived.Test.YtfhglganaebpoaaDoorTie
import Derived.Stop.LaidErr
import Derived.LaidHandle
import Derived.LaidSub
import Derived.Deep.Slices
import Derived.Deep.DeepHandedRow
import Derived.ShutString
import Derived.ChangeOld
import Derived.ChangeSlices
import Derived.ProofKit
import Derived.OpenShut
import Derived.JoinedOf
import Derived.Carry
namespace Go.Proofs.YtfhglganaebpoaaDoor
open Go.ChangeShapes Go.WideShapes Go.ChangeAt Go.RowKit Go.Deep

theorem own0 : ownKnob Tryd.prog.godebug = none := by kernel_rfl
theorem laidOut : laidOutB Tryd.prog = true := by kernel_rfl
theorem gE : Tryd.prog.globalNamed "errors.errorType" = some 1 := by kernel_rfl
theorem gO : Tryd.prog.globalNamed "bellwether/script.errOutside" = some 0 := by kernel_rfl
theorem gOt : (Tryd.prog.globals[0]?).map (·.type) = some 52 := by kernel_rfl
theorem cells113 : Tryd.prog.cellsOf 113 = 1 := by kernel_rfl
theorem cells9 : Tryd.prog.cellsOf 9 = 1 := by kernel_rfl
theorem star : "*" ++ "errors.errorString" = "*errors.errorString" := by decide
theorem row91 (u : TypeId) (h : Tryd.prog.typeName? 3 u = some "*errors.errorString") : u = 91 :=
  typeName_ptr_named (nm := "errors.errorString") (by rw [star]; kernel_rfl) (by kernel_rfl) (by decide) u (by rw [star]; exact h)
theorem rt77 : (Tryd.prog.cutTypes.find? (·.1 == "internal/reflectlite.rtype")).map (·.2) = some 77 := by kernel_rfl
theorem typesN : Tryd.prog.types.size = 125 := by kernel_rfl
theorem oneRow : ((List.range 125).filter fun t => Tryd.prog.rowNamed t [101, 114, 114, 111, 114]) = [52] := by kernel_rfl
def laid2 : List (String × DataW Unit) := [("errors.errorType", Rows.laid_errors_errorType), ("bellwether/script.errOutside", Rows.laid_bellwether_script_errOutside)]
/-- The package's variables, whatever the address of the error is. -/
def GlobE (w : World) : Prop := ∃ e, Glob w e
theorem glob_of {W : World} (h : laidMetH Tryd.prog laid2 W) : GlobE W := by
  obtain ⟨hd, hh⟩ := laidMetH_iff.1 h
  have hd' : laidMet Tryd.prog [("bellwether/script.errOutside", Rows.laid_bellwether_script_errOutside)] W := hd
  obtain ⟨a, s, hv, _⟩ := laid_sentinel hd' gO gOt Tryd.underlying52 row91 Tryd.underlying91 Tryd.underlying113 rfl rfl Tryd.underlying9 cells113 cells9
  have hh' : handlesMet Tryd.prog [("errors.errorType", Rows.laid_errors_errorType)] W := hh
  obtain ⟨name, u, ty, e1, e2, e3, e4, e5⟩ := hh' _ (List.mem_singleton.2 rfl)
  have en : name = [101, 114, 114, 111, 114] := (Option.some.inj e1).symm
  subst en
  obtain rfl := Option.some.inj (rt77.symm.trans e2)
  have hm : ty ∈ (List.range 125).filter fun t => Tryd.prog.rowNamed t [101, 114, 114, 111, 114] := List.mem_filter.2 ⟨List.mem_range.2 (by rw [← typesN]; exact e3), e4⟩
  rw [oneRow] at hm
  obtain rfl := List.mem_singleton.1 hm
  have ht : typeHandle Tryd.prog 52 = .pointer (some ⟨2, 52, none⟩) := by kernel_rfl
  rw [ht] at e5
  have c1 : W.cell? ⟨1, 0, none⟩ = some (.iface 77 (.agg #[.pointer (some ⟨2, 52, none⟩)])) := by simpa using World.var?_cell gE e5 0
  exact ⟨a, block_lt_of_cell c1, by simpa using World.var?_cell gO hv 0, c1⟩

/-- The error's text. -/
def outS : ByteArray := { data := #[111, 117, 116, 115, 105, 100, 101, 32, 105, 116, 115, 32, 98, 111, 117, 110, 100, 115] }
/-- A world for the witness: the settled one, the variables holding what their texts lay. -/
def laidOn (W : World) : World :=
  { W with heap := (W.heap.modify 0 fun
      | .cells _ t frozen => .cells #[.iface 91 (.pointer (some ⟨7, 0, none⟩))] t frozen
      | o => o).modify 1 fun
      | .cells _ t frozen => .cells #[.iface 77 (.agg #[.pointer (some ⟨2, 52, none⟩)])] t frozen
      | o => o }
theorem laid_met (os : Os) (args : Array Value) : laidMetH Tryd.prog laid2 ((laidOn (World.holding Tryd.prog os ⟨#[.cells #[.string outS] 113], #[], []⟩)).forCall (fun _ _ => 0) ⟨#[], args, []⟩).memory :=
  laidMetH_of_parts (laidMet_of_run (ps := [.cell 0 0, .cell 7 0]) 8 (by kernel_rfl) (by kernel_rfl) (by kernel_rfl)) (by kernel_rfl)

/-- A slice of numbers that came in. -/
def IsRow (k : IntKind) (w : World) (a : Option Addr) (len cap : Nat) (zs : List Int) : Prop :=
  (a = none ∧ len = 0 ∧ cap = 0 ∧ zs = []) ∨
  ∃ x, a = some x ∧ len ≤ cap ∧ cap ≤ maxLen ∧ zs.length = cap ∧ (∀ i, i < zs.length → w.cell? (x.add i) = some (.int k (zs.getD i 0))) ∧ ∀ n ∈ zs, (Lit.int k n).wf = true
def rowF (zs : List Int) (i : Nat) : Int := zs.getD i 0
theorem IsRow.bd {w : World} {a : Option Addr} {len cap : Nat} {zs : List Int} (h : IsRow .u8 w a len cap zs) (i : Nat) : 0 ≤ rowF zs i ∧ rowF zs i < 256 := by
  have hwf : ∀ n ∈ zs, (Lit.int .u8 n).wf = true := by
    rcases h with ⟨_, _, _, rfl⟩ | ⟨x, _, _, _, _, _, h⟩
    · simp
    · exact h
  unfold rowF
  simp only [List.getD]
  cases hq : zs[i]? with
  | none => simp
  | some n =>
    have := hwf n (List.mem_of_getElem? hq)
    simp [Lit.wf, IntKind.min, IntKind.max, IntKind.signed, IntKind.bits] at this
    simp
    omega
theorem IsRow.sl {k : IntKind} {w : World} {a : Option Addr} {len cap : Nat} {zs : List Int} (h : IsRow k w a len cap zs) : Sl k w (.slice a len cap) len (rowF zs) := by
  rcases h with ⟨rfl, rfl, rfl, rfl⟩ | ⟨x, rfl, h1, h2, h3, h4, _⟩
  · exact .inl ⟨rfl, .inl rfl⟩
  · by_cases h0 : len = 0
    · subst h0
      exact .inl ⟨rfl, .inr ⟨x, cap, rfl, by omega⟩⟩
    · obtain ⟨b, off, spot⟩ := x
      have hc := h4 0 (by omega)
      have hspot : spot = none := by simpa [Addr.add] using World.cell?_spot hc
      subst hspot
      have hc0 := block_lt_of_cell hc
      refine .inr ⟨b, off, cap, rfl, h1, h2, by simpa [Addr.add] using hc0, fun i hi => ?_⟩
      have := h4 i (by omega)
      rwa [Addr.add_lit] at this

theorem open_row8 {H : Type} {enc : TypeId × Value → H} {W : World} {base : Nat} {held : Bool} {a : Option Addr} {len cap : Nat} {d : DataW H} {p : List MemPlace}
    (h : ∃ fuel, DataW.trod enc Tryd.prog W base (fun _ => true) held fuel 24 (Value.slice a len cap).cells.toList = some (d, p)) : ∃ zs, IsRow .u8 W a len cap zs := by
  obtain ⟨fuel, hf⟩ := h
  rcases open_ints Tryd.underlying24 Tryd.underlying5 (by kernel_rfl) hf with ⟨hcs, _⟩ | ⟨x, l, c, zs, hcs, _, hl, hm, hz, _, hcell, hwz⟩
  · simp [Value.cells] at hcs
    obtain ⟨rfl, rfl, rfl⟩ := hcs
    exact ⟨[], .inl ⟨rfl, rfl, rfl, rfl⟩⟩
  · simp [Value.cells] at hcs
    obtain ⟨rfl, rfl, rfl⟩ := hcs
    exact ⟨zs, .inr ⟨_, rfl, hl, hm, by simpa using hz, hcell, hwz⟩⟩
theorem c3 : Tryd.prog.cellsOf 3 = 1 := by kernel_rfl
theorem c23 : Tryd.prog.cellsOf 23 = 7 := by kernel_rfl
theorem c27 : Tryd.prog.cellsOf 27 = 5 := by kernel_rfl
set_option maxRecDepth 100000 in
theorem five_ints {H : Type} {enc : TypeId × Value → H} {W : World} {base n : Nat} {held : Bool} {cs : List Value} {x : DataW H × List MemPlace} (hs : cs.length = 5) (hf : DataW.trod enc Tryd.prog W base (fun _ => true) held n 27 cs = some x) :
    ∃ a0 a1 a2 a3 a4 : Int, cs = [.int .i64 a0, .int .i64 a1, .int .i64 a2, .int .i64 a3, .int .i64 a4] := by
  obtain ⟨xs, m, _, _, _, hlen, hx⟩ := DataW.trod_struct Tryd.underlying27 hf
  have hlen' : xs.length = 5 := hlen
  match cs, hs, xs, hlen' with
  | [v0, v1, v2, v3, v4], _, [x0, x1, x2, x3, x4], _ =>
    have q0 : DataW.trod enc Tryd.prog W base (fun _ => true) held m 3 (([v0, v1, v2, v3, v4].drop 0).take (Tryd.prog.cellsOf 3)) = some x0 := hx 0 _ rfl
    have q1 : DataW.trod enc Tryd.prog W base (fun _ => true) held m 3 (([v0, v1, v2, v3, v4].drop 1).take (Tryd.prog.cellsOf 3)) = some x1 := hx 1 _ rfl
    have q2 : DataW.trod enc Tryd.prog W base (fun _ => true) held m 3 (([v0, v1, v2, v3, v4].drop 2).take (Tryd.prog.cellsOf 3)) = some x2 := hx 2 _ rfl
    have q3 : DataW.trod enc Tryd.prog W base (fun _ => true) held m 3 (([v0, v1, v2, v3, v4].drop 3).take (Tryd.prog.cellsOf 3)) = some x3 := hx 3 _ rfl
    have q4 : DataW.trod enc Tryd.prog W base (fun _ => true) held m 3 (([v0, v1, v2, v3, v4].drop 4).take (Tryd.prog.cellsOf 3)) = some x4 := hx 4 _ rfl
    rw [c3] at q0 q1 q2 q3 q4
    obtain ⟨n0, e0, _⟩ := DataW.trod_int Tryd.underlying3 q0
    obtain ⟨n1, e1, _⟩ := DataW.trod_int Tryd.underlying3 q1
    obtain ⟨n2, e2, _⟩ := DataW.trod_int Tryd.underlying3 q2
    obtain ⟨n3, e3, _⟩ := DataW.trod_int Tryd.underlying3 q3
    obtain ⟨n4, e4, _⟩ := DataW.trod_int Tryd.underlying3 q4
    obtain rfl := (List.cons.inj e0).1
    obtain rfl := (List.cons.inj e1).1
    obtain rfl := (List.cons.inj e2).1
    obtain rfl := (List.cons.inj e3).1
    obtain rfl := (List.cons.inj e4).1
    exact ⟨_, _, _, _, _, rfl⟩
set_option maxRecDepth 100000 in
theorem open_step {H : Type} {enc : TypeId × Value → H} {W : World} {r : Reach} {base b0 : Nat} {held : Bool} {v : Value} {d : DataW H} {p : List MemPlace}
    (hv : Value.okWide Tryd.prog W r b0 27 v) (h : ∃ fuel, DataW.trod enc Tryd.prog W base (fun _ => true) held fuel 27 v.cells.toList = some (d, p)) : ∃ s : Stp, v = sV s := by
  obtain ⟨cs, rfl, hs⟩ := okWide_struct Tryd.underlying27 hv
  obtain ⟨fuel, hf⟩ := h
  rw [c27] at hs
  obtain ⟨l⟩ := cs
  obtain ⟨a0, a1, a2, a3, a4, e⟩ := five_ints (cs := l) (by simpa using hs) hf
  subst e
  exact ⟨⟨a0, a1, a2, a3, a4⟩, rfl⟩
set_option maxRecDepth 100000 in
theorem open_conf {H : Type} {enc : TypeId × Value → H} {W : World} {r : Reach} {base b0 : Nat} {held : Bool} {v : Value} {d : DataW H} {p : List MemPlace}
    (hv : Value.okWide Tryd.prog W r b0 23 v) (h : ∃ fuel, DataW.trod enc Tryd.prog W base (fun _ => true) held fuel 23 v.cells.toList = some (d, p)) : ∃ c : Cf, v = cV c := by
  obtain ⟨cs, rfl, hs⟩ := okWide_struct Tryd.underlying23 hv
  obtain ⟨fuel, hf⟩ := h
  rw [c23] at hs
  obtain ⟨l⟩ := cs
  obtain ⟨xs, m, _, _, _, hlen, hx⟩ := DataW.trod_struct Tryd.underlying23 hf
  have hlen' : xs.length = 7 := hlen
  match l, hs, xs, hlen' with
  | [v0, v1, v2, v3, v4, v5, v6], _, [x0, x1, x2, x3, x4, x5, x6], _ =>
    have q0 : DataW.trod enc Tryd.prog W base (fun _ => true) held m 3 (([v0, v1, v2, v3, v4, v5, v6].drop 0).take (Tryd.prog.cellsOf 3)) = some x0 := hx 0 _ rfl
    have q1 : DataW.trod enc Tryd.prog W base (fun _ => true) held m 3 (([v0, v1, v2, v3, v4, v5, v6].drop 1).take (Tryd.prog.cellsOf 3)) = some x1 := hx 1 _ rfl
    have q2 : DataW.trod enc Tryd.prog W base (fun _ => true) held m 3 (([v0, v1, v2, v3, v4, v5, v6].drop 2).take (Tryd.prog.cellsOf 3)) = some x2 := hx 2 _ rfl
    have q3 : DataW.trod enc Tryd.prog W base (fun _ => true) held m 3 (([v0, v1, v2, v3, v4, v5, v6].drop 3).take (Tryd.prog.cellsOf 3)) = some x3 := hx 3 _ rfl
    have q4 : DataW.trod enc Tryd.prog W base (fun _ => true) held m 3 (([v0, v1, v2, v3, v4, v5, v6].drop 4).take (Tryd.prog.cellsOf 3)) = some x4 := hx 4 _ rfl
    have q5 : DataW.trod enc Tryd.prog W base (fun _ => true) held m 3 (([v0, v1, v2, v3, v4, v5, v6].drop 5).take (Tryd.prog.cellsOf 3)) = some x5 := hx 5 _ rfl
    have q6 : DataW.trod enc Tryd.prog W base (fun _ => true) held m 3 (([v0, v1, v2, v3, v4, v5, v6].drop 6).take (Tryd.prog.cellsOf 3)) = some x6 := hx 6 _ rfl
    rw [c3] at q0 q1 q2 q3 q4 q5 q6
    obtain ⟨n0, e0, _⟩ := DataW.trod_int Tryd.underlying3 q0
    obtain ⟨n1, e1, _⟩ := DataW.trod_int Tryd.underlying3 q1
    obtain ⟨n2, e2, _⟩ := DataW.trod_int Tryd.underlying3 q2
    obtain ⟨n3, e3, _⟩ := DataW.trod_int Tryd.underlying3 q3
    obtain ⟨n4, e4, _⟩ := DataW.trod_int Tryd.underlying3 q4
    obtain ⟨n5, e5, _⟩ := DataW.trod_int Tryd.underlying3 q5
    obtain ⟨n6, e6, _⟩ := DataW.trod_int Tryd.underlying3 q6
    obtain rfl := (List.cons.inj e0).1
    obtain rfl := (List.cons.inj e1).1
    obtain rfl := (List.cons.inj e2).1
    obtain rfl := (List.cons.inj e3).1
    obtain rfl := (List.cons.inj e4).1
    obtain rfl := (List.cons.inj e5).1
    obtain rfl := (List.cons.inj e6).1
    exact ⟨⟨n0, n1, n2, n3, n4, n5, n6⟩, rfl⟩
set_option maxRecDepth 100000 in
theorem open_steps {H : Type} {enc : TypeId × Value → H} {W : World} {base : Nat} {held : Bool} {a : Option Addr} {len cap : Nat} {d : DataW H} {p : List MemPlace}
    (h : ∃ fuel, DataW.trod enc Tryd.prog W base (fun _ => true) held fuel 25 (Value.slice a len cap).cells.toList = some (d, p)) : ∃ F : Nat → Int, Ss W (.slice a len cap) len F := by
  obtain ⟨fuel, hf⟩ := h
  rcases open_slice Tryd.underlying25 hf with ⟨hcs, _⟩ | ⟨x, l, c, m, n, D, Pl, hcs, _, hl, hm, hmm, _, hx⟩
  · simp [Value.cells] at hcs
    obtain ⟨rfl, rfl, rfl⟩ := hcs
    exact ⟨fun _ => 0, .inl ⟨rfl, .inl rfl⟩⟩
  · simp [Value.cells] at hcs
    obtain ⟨rfl, rfl, rfl⟩ := hcs
    have hlm : m = cap := by simpa using hmm
    subst hlm
    by_cases h0 : len = 0
    · subst h0
      exact ⟨fun _ => 0, .inl ⟨rfl, .inr ⟨x, m, rfl, hm⟩⟩⟩
    · have each : ∀ j, ∃ z : Int, j < len * 5 → W.cell? (x.add j) = some (.int .i64 z) := by
        intro j
        by_cases hj : j < len * 5
        · obtain ⟨cs', h1, h2⟩ := hx (j / 5) (by omega)
          rw [c27] at h1
          obtain ⟨_, hlen, hcell⟩ := World.cells?_some h1
          obtain ⟨a0, a1, a2, a3, a4, e⟩ := five_ints hlen h2
          subst e
          have hk : j % 5 < 5 := Nat.mod_lt _ (by omega)
          have := hcell (j % 5) hk
          rw [add_add, show j / 5 * 5 + j % 5 = j by omega] at this
          have hg : ∃ z : Int, ([.int .i64 a0, .int .i64 a1, .int .i64 a2, .int .i64 a3, .int .i64 a4] : List Value)[j % 5]? = some (.int .i64 z) := by
            generalize j % 5 = q at hk
            match q, hk with
            | 0, _ => exact ⟨_, rfl⟩
            | 1, _ => exact ⟨_, rfl⟩
            | 2, _ => exact ⟨_, rfl⟩
            | 3, _ => exact ⟨_, rfl⟩
            | 4, _ => exact ⟨_, rfl⟩
          obtain ⟨z, hz⟩ := hg
          rw [hz] at this
          exact ⟨z, fun _ => this⟩
        · exact ⟨0, fun h => absurd h hj⟩
      obtain ⟨F, hF⟩ : ∃ F : Nat → Int, ∀ j, j < len * 5 → W.cell? (x.add j) = some (.int .i64 (F j)) := ⟨fun j => Classical.choose (each j), fun j => Classical.choose_spec (each j)⟩
      obtain ⟨b, off, spot⟩ := x
      have hc := hF 0 (by omega)
      have hspot : spot = none := by simpa [Addr.add] using World.cell?_spot hc
      subst hspot
      have hc0 := block_lt_of_cell hc
      refine ⟨F, .inr ⟨b, off, m, rfl, hl, hm, by simpa [Addr.add] using hc0, fun j hj => ?_⟩⟩
      have := hF j hj
      rwa [Addr.add_lit] at this
end Go.Proofs.YtfhglganaebpoaaDoor
