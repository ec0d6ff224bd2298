/- errors.Is and errors.As over what the package makes: no error, or a fieldError that wraps errOutside. -/
import Derived.Test.YtfhglganaebpoaaDoorA0
import Derived.LaidEql
import Derived.Stop.Asserts
import Derived.RowKitTokens
namespace Go.Proofs.YtfhglganaebpoaaDoor
open Go.RowKit Go.Extern.Stop Go.Stop Go.Extern

/-- The error that tells the field s, wrapping the one at e. -/
def feV (s : Value) (e : Addr) : Value := .iface 58 (.agg #[s, .iface 91 (.pointer (some e))])
/-- What the package's variables hold. -/
def Glob (w : World) (e : Addr) : Prop :=
  1 < w.heap.size ∧ w.cell? ⟨0, 0, none⟩ = some (.iface 91 (.pointer (some e))) ∧ w.cell? ⟨1, 0, none⟩ = some (.iface 77 (.agg #[.pointer (some ⟨2, 52, none⟩)]))
theorem Glob.below {w w' : World} {e : Addr} (h : Glob w e) (b : Below w.heap.size w w') : Glob w' e :=
  ⟨Nat.lt_of_lt_of_le h.1 b.size, (b.cell (p := ⟨0, 0, none⟩) (by have := h.1; show 0 < w.heap.size; omega)).trans h.2.1, (b.cell (p := ⟨1, 0, none⟩) h.1).trans h.2.2⟩

theorem isTypeOf (v : Value) (w : World) : (ReflectliteType.typeOf #[.iface 91 v]).run Tryd.prog w = .ok (.iface 77 (.agg #[.pointer (some ⟨2, 91, none⟩)])) w := by kernel_rfl
/-- The entry of (rtype).Comparable. -/
def cmpE : Array Value → Sem Value := ReflectliteType.method fun t => do Rtype.noPackHeld "Comparable" t; pure (.bool (← typeInfo t).comparable)
theorem isComparable (w : World) : (cmpE #[.agg #[.pointer (some ⟨2, 91, none⟩)]]).run Tryd.prog w = .ok (.bool true) w := by kernel_rfl
theorem isMethodComparable (v : Value) (w : World) : (Go.method 225 77 v "Comparable").run Tryd.prog w = .ok (61, v) w := by kernel_rfl
theorem isComp : (Tryd.prog.info? 91).map (·.comparable) = some true := by kernel_rfl
theorem isSize : (Tryd.prog.info? 113).map (·.size) = some 1 := by kernel_rfl
theorem noIsF (v : Value) (xT : TypeId) (w : World) : (Instr.typeAssert (.iface 58 v) xT 79 true).run Tryd.prog w = .ok (.tuple #[.nilIface, .bool false]) w := run_typeAssert_lacksB Tryd.underlying79 (by kernel_rfl) (by kernel_rfl) v xT w
theorem hasUnwrapF (v : Value) (xT : TypeId) (w : World) : (Instr.typeAssert (.iface 58 v) xT 82 true).run Tryd.prog w = .ok (.tuple #[.iface 58 v, .bool true]) w := run_typeAssert_hasB Tryd.underlying82 (by kernel_rfl) v xT w
theorem methodUnwrap (v : Value) (w : World) : (Go.method 225 58 v "Unwrap").run Tryd.prog w = .ok (55, v) w := by kernel_rfl

/-- errors.Is(nil, x). -/
theorem is_nil (b : Addr) (w : World) :
    Calls Tryd.prog 22 #[.nilIface, .iface 91 (.pointer (some b))] w fun e w' => e = .returned (.bool false) ∧ w' = w := by
  have hn := run_eql_iface_nil_left (P := Tryd.prog) w 91 (.pointer (some b)) Tryd.underlying52
  go_enter Tryd.func22, Tryd.ntmps22
  go_wp2
  go_ret
  exact ⟨rfl, rfl⟩
set_option maxRecDepth 100000 in
/-- errors.Is of a field's error and what it wraps. -/
theorem is_fe (s : Value) (b : Addr) (w : World) :
    Calls Tryd.prog 22 #[feV s b, .iface 91 (.pointer (some b))] w fun e w' => e = .returned (.bool true) ∧ Below w.heap.size w w' := by
  unfold feV
  obtain ⟨i, hi, hcmp⟩ := Option.map_eq_some_iff.1 isComp
  obtain ⟨j, hj, hjs⟩ := Option.map_eq_some_iff.1 isSize
  have h8 := @run_callFunc_extern Tryd.prog 28 _ ReflectliteType.typeOf Tryd.func28 (by kernel_rfl) (by kernel_rfl) (by kernel_rfl) (by kernel_rfl)
  have h32 := @run_callFunc_extern Tryd.prog 61 _ cmpE Tryd.func61 (by kernel_rfl) (by kernel_rfl) (by kernel_rfl) (by kernel_rfl)
  have tT := isTypeOf
  have cT := isComparable
  have mR := isMethodComparable
  have nF := noIsF
  have uF := hasUnwrapF
  have mU := methodUnwrap
  have heq := run_eql_iface_ptr_same (P := Tryd.prog) w b Tryd.underlying52 Tryd.underlying91 hi hcmp hj
  have heq2 := run_eql_iface_ptr_same (P := Tryd.prog) (w.alloc (.cells #[s, .iface 91 (.pointer (some b))] 58)) b Tryd.underlying52 Tryd.underlying91 hi hcmp hj
  have hty := run_eql_iface_types (P := Tryd.prog) 58 91 (.agg #[s, .iface 91 (.pointer (some b))]) (.pointer (some b)) Tryd.underlying52 (by decide) w
  go_enter Tryd.func22, Tryd.ntmps22
  go_wp2
  refine wp_loop_rounds 2 ?_
  rw [rounds_succ]
  go_wp2
  rw [rounds_succ]
  go_wp2
  go_ret
  exact ⟨rfl, below_alloc (Below.refl _ _) _⟩
end Go.Proofs.YtfhglganaebpoaaDoor
