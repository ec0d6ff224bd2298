/-
  NARROWER THAN 'FOR EVERY INPUT', by the rows' own cells (each row's printed sentence says how): ScriptExact: laid · ScriptBack: laid · ScriptBounds: laid · ScriptLong: laid · ScriptConfs: laid.
  DERIVED. THE GIVEN ROWS OF THIS SEAT. 5 by the template 'for every input the law returns true; each argument reads behind the call as it read before'; 0 by the template 'total and deterministic' (their statements: YtfhglganaebpoaaDoorTotals.lean).
  GIVEN WITH THE SEED: the statements are not yours to turn. If you find one false, say at which input.
  Laid BY PROGRAM, IN A SANDBOX (cutbox-rows.mjs): the forced cells as the released guide's own fill.sh prints them over the translation 8344fe30499c97ee… (all of the seat's roots in one cut). By AI agents, Wed Nov 11 2026. No macro, syntax, notation, axiom, sorry.
-/
import Derived.Test.YtfhglganaebpoaaDoorChecked
import GoSem.Claim
import GoSem.ClaimJoined
import GoSem.ClaimMapViews
import Derived.JoinedTies
import Derived.KernelRfl
namespace Go.Proofs.YtfhglganaebpoaaDoor
/- THE CELL 'sum', in the pinned program and in every row, IS THE sha256 OF THE DUMP (.gsa) THAT YtfhglganaebpoaaDoorProg.lean LOADS. Nothing in Lean hashes anything: it is a label: what it is worth is what the hold of that sum in a sandbox is worth. -/
noncomputable def Tryd.pinned : Pinned := { name := "ytfhglganaebpoaadoor", sum := "8344fe30499c97eef6a290a00ffe77e957373355396a1cc49e3dfbbf5c0413db", checked := Tryd.checked }
namespace Rows
def none {H : Type} : Left H := { results := [], args := [] }

/- WHAT THE LISTED PACKAGE-LEVEL VARIABLES READ AS WHEN THE CALL BEGINS. Each datum BY PROGRAM (the guide's laid-datum.mjs) off the statement by which the dump's own 'gosem.cut.vars' lays the variable. In a bare row this is a premise. The card (YtfhglganaebpoaaDoorCards.lean) ties it to the program's text. -/
def laid_errors_errorType {H : Type} : DataW H := .iface "internal/reflectlite.rtype" (.agg [.ptr (.lit (.string [101, 114, 114, 111, 114]))])
def laid_bellwether_script_errOutside {H : Type} : DataW H := .iface "*errors.errorString" (.ptr (.agg [.lit (.string [111, 117, 116, 115, 105, 100, 101, 32, 105, 116, 115, 32, 98, 111, 117, 110, 100, 115])]))

/-- 'bellwetherlaw09.ScriptExact': WHATEVER THE INPUT: true; the input reads as it did. -/
def scriptExactSpec : ChangeSpec := { name := "scriptExact", fn := fun _ => fun
  | [d1, d2, d3, d4] => { results := [.lit (.bool true)], args := [d1, d2, d3, d4] }
  | _ => none }
def scriptExactRow : OpenClaim := { program := "ytfhglganaebpoaadoor", sum := "8344fe30499c97eef6a290a00ffe77e957373355396a1cc49e3dfbbf5c0413db", func := "bellwether/bellwetherlaw09.ScriptExact", spec := "scriptExact", inPlace := ["internal/reflectlite.TypeOf", "internal/reflectlite.ValueOf", "(internal/reflectlite.Value).Type", "(internal/reflectlite.Value).IsNil", "(internal/reflectlite.Value).Elem", "(internal/reflectlite.Value).Set"], unfollowed := true, recurses := true, named := ["bellwether/script.errOutside", "errors.errorType"], apart := false, laid := [("errors.errorType", laid_errors_errorType), ("bellwether/script.errOutside", laid_bellwether_script_errOutside)] }
def ScriptExactSaid : Prop := scriptExactRow.holds Tryd.pinned (OpenSpec.ofChange scriptExactSpec)

/-- ITS FALSE NEIGHBOUR: 'it returns false'. Refute it at one input. -/
def scriptExactWrong : ChangeSpec := { name := "scriptExact", fn := fun _ => fun
  | [d1, d2, d3, d4] => { results := [.lit (.bool false)], args := [d1, d2, d3, d4] }
  | _ => none }
def ScriptExactWrongFalsely : Prop := scriptExactRow.holds Tryd.pinned (OpenSpec.ofChange scriptExactWrong)

/-- 'bellwetherlaw09.ScriptBack': WHATEVER THE INPUT: true; the input reads as it did. -/
def scriptBackSpec : ChangeSpec := { name := "scriptBack", fn := fun _ => fun
  | [d1, d2] => { results := [.lit (.bool true)], args := [d1, d2] }
  | _ => none }
def scriptBackRow : OpenClaim := { program := "ytfhglganaebpoaadoor", sum := "8344fe30499c97eef6a290a00ffe77e957373355396a1cc49e3dfbbf5c0413db", func := "bellwether/bellwetherlaw09.ScriptBack", spec := "scriptBack", inPlace := ["internal/reflectlite.TypeOf", "internal/reflectlite.ValueOf", "(internal/reflectlite.Value).Type", "(internal/reflectlite.Value).IsNil", "(internal/reflectlite.Value).Elem", "(internal/reflectlite.Value).Set"], unfollowed := true, recurses := true, named := ["bellwether/script.errOutside", "errors.errorType"], apart := false, laid := [("errors.errorType", laid_errors_errorType), ("bellwether/script.errOutside", laid_bellwether_script_errOutside)] }
def ScriptBackSaid : Prop := scriptBackRow.holds Tryd.pinned (OpenSpec.ofChange scriptBackSpec)

/-- ITS FALSE NEIGHBOUR: 'it returns false'. Refute it at one input. -/
def scriptBackWrong : ChangeSpec := { name := "scriptBack", fn := fun _ => fun
  | [d1, d2] => { results := [.lit (.bool false)], args := [d1, d2] }
  | _ => none }
def ScriptBackWrongFalsely : Prop := scriptBackRow.holds Tryd.pinned (OpenSpec.ofChange scriptBackWrong)

/-- 'bellwetherlaw09.ScriptBounds': WHATEVER THE INPUT: true; the input reads as it did. -/
def scriptBoundsSpec : ChangeSpec := { name := "scriptBounds", fn := fun _ => fun
  | [d1, d2, d3] => { results := [.lit (.bool true)], args := [d1, d2, d3] }
  | _ => none }
def scriptBoundsRow : OpenClaim := { program := "ytfhglganaebpoaadoor", sum := "8344fe30499c97eef6a290a00ffe77e957373355396a1cc49e3dfbbf5c0413db", func := "bellwether/bellwetherlaw09.ScriptBounds", spec := "scriptBounds", inPlace := ["internal/reflectlite.TypeOf", "internal/reflectlite.ValueOf", "(internal/reflectlite.Value).Type", "(internal/reflectlite.Value).IsNil", "(internal/reflectlite.Value).Elem", "(internal/reflectlite.Value).Set"], unfollowed := true, recurses := true, named := ["bellwether/script.errOutside", "errors.errorType"], apart := false, laid := [("errors.errorType", laid_errors_errorType), ("bellwether/script.errOutside", laid_bellwether_script_errOutside)] }
def ScriptBoundsSaid : Prop := scriptBoundsRow.holds Tryd.pinned (OpenSpec.ofChange scriptBoundsSpec)

/-- ITS FALSE NEIGHBOUR: 'it returns false'. Refute it at one input. -/
def scriptBoundsWrong : ChangeSpec := { name := "scriptBounds", fn := fun _ => fun
  | [d1, d2, d3] => { results := [.lit (.bool false)], args := [d1, d2, d3] }
  | _ => none }
def ScriptBoundsWrongFalsely : Prop := scriptBoundsRow.holds Tryd.pinned (OpenSpec.ofChange scriptBoundsWrong)

/-- 'bellwetherlaw09.ScriptLong': WHATEVER THE INPUT: true; the input reads as it did. -/
def scriptLongSpec : ChangeSpec := { name := "scriptLong", fn := fun _ => fun
  | [d1, d2] => { results := [.lit (.bool true)], args := [d1, d2] }
  | _ => none }
def scriptLongRow : OpenClaim := { program := "ytfhglganaebpoaadoor", sum := "8344fe30499c97eef6a290a00ffe77e957373355396a1cc49e3dfbbf5c0413db", func := "bellwether/bellwetherlaw09.ScriptLong", spec := "scriptLong", inPlace := ["internal/reflectlite.TypeOf", "internal/reflectlite.ValueOf", "(internal/reflectlite.Value).Type", "(internal/reflectlite.Value).IsNil", "(internal/reflectlite.Value).Elem", "(internal/reflectlite.Value).Set"], unfollowed := true, recurses := true, named := ["bellwether/script.errOutside", "errors.errorType"], apart := false, laid := [("errors.errorType", laid_errors_errorType), ("bellwether/script.errOutside", laid_bellwether_script_errOutside)] }
def ScriptLongSaid : Prop := scriptLongRow.holds Tryd.pinned (OpenSpec.ofChange scriptLongSpec)

/-- ITS FALSE NEIGHBOUR: 'it returns false'. Refute it at one input. -/
def scriptLongWrong : ChangeSpec := { name := "scriptLong", fn := fun _ => fun
  | [d1, d2] => { results := [.lit (.bool false)], args := [d1, d2] }
  | _ => none }
def ScriptLongWrongFalsely : Prop := scriptLongRow.holds Tryd.pinned (OpenSpec.ofChange scriptLongWrong)

/-- 'bellwetherlaw09.ScriptConfs': WHATEVER THE INPUT: true; the input reads as it did. -/
def scriptConfsSpec : ChangeSpec := { name := "scriptConfs", fn := fun _ => fun
  | [d1, d2, d3] => { results := [.lit (.bool true)], args := [d1, d2, d3] }
  | _ => none }
def scriptConfsRow : OpenClaim := { program := "ytfhglganaebpoaadoor", sum := "8344fe30499c97eef6a290a00ffe77e957373355396a1cc49e3dfbbf5c0413db", func := "bellwether/bellwetherlaw09.ScriptConfs", spec := "scriptConfs", inPlace := ["internal/reflectlite.TypeOf", "internal/reflectlite.ValueOf", "(internal/reflectlite.Value).Type", "(internal/reflectlite.Value).IsNil", "(internal/reflectlite.Value).Elem", "(internal/reflectlite.Value).Set"], unfollowed := true, recurses := true, named := ["bellwether/script.errOutside", "errors.errorType"], apart := false, laid := [("errors.errorType", laid_errors_errorType), ("bellwether/script.errOutside", laid_bellwether_script_errOutside)] }
def ScriptConfsSaid : Prop := scriptConfsRow.holds Tryd.pinned (OpenSpec.ofChange scriptConfsSpec)

/-- ITS FALSE NEIGHBOUR: 'it returns false'. Refute it at one input. -/
def scriptConfsWrong : ChangeSpec := { name := "scriptConfs", fn := fun _ => fun
  | [d1, d2, d3] => { results := [.lit (.bool false)], args := [d1, d2, d3] }
  | _ => none }
def ScriptConfsWrongFalsely : Prop := scriptConfsRow.holds Tryd.pinned (OpenSpec.ofChange scriptConfsWrong)

/- THE SECOND FORM. 'bulk': how many values and letters a reading holds, each counted each time it is reached (what is shared counts as often as it is met; a slice's spare places count too). A statement '..UptoSaid' is the law's where the arguments, and the package variables that the reading takes, are together of bulk at most 1048576: NARROWER than '..Said'. Prove '..Said' where nothing that the law and all that it calls make is longer than what came in: it says more and counts as full. Else prove '..UptoSaid'. A law counts once. -/
mutual
def uptoBulk {H : Type} : DataW H → Nat
  | .lit (.string bytes) => bytes.length + 1
  | .lit _ => 1
  | .nil => 1
  | .ptr d => uptoBulk d + 1
  | .slice elems spare => uptoBulkAll elems + uptoBulkAll spare + 1
  | .agg parts => uptoBulkAll parts + 1
  | .iface _ d => uptoBulk d + 1
  | .map entries => uptoBulkEntries entries + 1
  | .held _ => 1
def uptoBulkAll {H : Type} : List (DataW H) → Nat
  | [] => 0
  | d :: r => uptoBulk d + uptoBulkAll r
def uptoBulkEntries {H : Type} : List (Lit × DataW H) → Nat
  | [] => 0
  | x :: r => uptoBulkEntry x + uptoBulkEntries r
def uptoBulkEntry {H : Type} : Lit × DataW H → Nat
  | (.string bytes, d) => bytes.length + uptoBulk d + 1
  | (_, d) => uptoBulk d + 1
 end
def uptoSmall : (H : Type) → List (DataW H) → Bool := fun _ ds => decide (uptoBulkAll ds ≤ 1048576)
def OpenSpec.upto (s : _root_.Go.ChangeSpec) : _root_.Go.OpenSpec := { _root_.Go.OpenSpec.ofChange s with cond := some uptoSmall }

/-- 'bellwetherlaw09.ScriptExact', WHERE WHAT IT READS IS OF BULK AT MOST 1048576: true; the input reads as it did. -/
def scriptExactUptoRow : OpenClaim := { program := "ytfhglganaebpoaadoor", sum := "8344fe30499c97eef6a290a00ffe77e957373355396a1cc49e3dfbbf5c0413db", func := "bellwether/bellwetherlaw09.ScriptExact", spec := "scriptExact", inPlace := ["internal/reflectlite.TypeOf", "internal/reflectlite.ValueOf", "(internal/reflectlite.Value).Type", "(internal/reflectlite.Value).IsNil", "(internal/reflectlite.Value).Elem", "(internal/reflectlite.Value).Set"], unfollowed := true, recurses := true, named := ["bellwether/script.errOutside", "errors.errorType"], apart := false, laid := [("errors.errorType", laid_errors_errorType), ("bellwether/script.errOutside", laid_bellwether_script_errOutside)], narrowed := true }
def ScriptExactUptoSaid : Prop := scriptExactUptoRow.holds Tryd.pinned (OpenSpec.upto scriptExactSpec)

/-- 'bellwetherlaw09.ScriptBack', WHERE WHAT IT READS IS OF BULK AT MOST 1048576: true; the input reads as it did. -/
def scriptBackUptoRow : OpenClaim := { program := "ytfhglganaebpoaadoor", sum := "8344fe30499c97eef6a290a00ffe77e957373355396a1cc49e3dfbbf5c0413db", func := "bellwether/bellwetherlaw09.ScriptBack", spec := "scriptBack", inPlace := ["internal/reflectlite.TypeOf", "internal/reflectlite.ValueOf", "(internal/reflectlite.Value).Type", "(internal/reflectlite.Value).IsNil", "(internal/reflectlite.Value).Elem", "(internal/reflectlite.Value).Set"], unfollowed := true, recurses := true, named := ["bellwether/script.errOutside", "errors.errorType"], apart := false, laid := [("errors.errorType", laid_errors_errorType), ("bellwether/script.errOutside", laid_bellwether_script_errOutside)], narrowed := true }
def ScriptBackUptoSaid : Prop := scriptBackUptoRow.holds Tryd.pinned (OpenSpec.upto scriptBackSpec)

/-- 'bellwetherlaw09.ScriptBounds', WHERE WHAT IT READS IS OF BULK AT MOST 1048576: true; the input reads as it did. -/
def scriptBoundsUptoRow : OpenClaim := { program := "ytfhglganaebpoaadoor", sum := "8344fe30499c97eef6a290a00ffe77e957373355396a1cc49e3dfbbf5c0413db", func := "bellwether/bellwetherlaw09.ScriptBounds", spec := "scriptBounds", inPlace := ["internal/reflectlite.TypeOf", "internal/reflectlite.ValueOf", "(internal/reflectlite.Value).Type", "(internal/reflectlite.Value).IsNil", "(internal/reflectlite.Value).Elem", "(internal/reflectlite.Value).Set"], unfollowed := true, recurses := true, named := ["bellwether/script.errOutside", "errors.errorType"], apart := false, laid := [("errors.errorType", laid_errors_errorType), ("bellwether/script.errOutside", laid_bellwether_script_errOutside)], narrowed := true }
def ScriptBoundsUptoSaid : Prop := scriptBoundsUptoRow.holds Tryd.pinned (OpenSpec.upto scriptBoundsSpec)

/-- 'bellwetherlaw09.ScriptLong', WHERE WHAT IT READS IS OF BULK AT MOST 1048576: true; the input reads as it did. -/
def scriptLongUptoRow : OpenClaim := { program := "ytfhglganaebpoaadoor", sum := "8344fe30499c97eef6a290a00ffe77e957373355396a1cc49e3dfbbf5c0413db", func := "bellwether/bellwetherlaw09.ScriptLong", spec := "scriptLong", inPlace := ["internal/reflectlite.TypeOf", "internal/reflectlite.ValueOf", "(internal/reflectlite.Value).Type", "(internal/reflectlite.Value).IsNil", "(internal/reflectlite.Value).Elem", "(internal/reflectlite.Value).Set"], unfollowed := true, recurses := true, named := ["bellwether/script.errOutside", "errors.errorType"], apart := false, laid := [("errors.errorType", laid_errors_errorType), ("bellwether/script.errOutside", laid_bellwether_script_errOutside)], narrowed := true }
def ScriptLongUptoSaid : Prop := scriptLongUptoRow.holds Tryd.pinned (OpenSpec.upto scriptLongSpec)

/-- 'bellwetherlaw09.ScriptConfs', WHERE WHAT IT READS IS OF BULK AT MOST 1048576: true; the input reads as it did. -/
def scriptConfsUptoRow : OpenClaim := { program := "ytfhglganaebpoaadoor", sum := "8344fe30499c97eef6a290a00ffe77e957373355396a1cc49e3dfbbf5c0413db", func := "bellwether/bellwetherlaw09.ScriptConfs", spec := "scriptConfs", inPlace := ["internal/reflectlite.TypeOf", "internal/reflectlite.ValueOf", "(internal/reflectlite.Value).Type", "(internal/reflectlite.Value).IsNil", "(internal/reflectlite.Value).Elem", "(internal/reflectlite.Value).Set"], unfollowed := true, recurses := true, named := ["bellwether/script.errOutside", "errors.errorType"], apart := false, laid := [("errors.errorType", laid_errors_errorType), ("bellwether/script.errOutside", laid_bellwether_script_errOutside)], narrowed := true }
def ScriptConfsUptoSaid : Prop := scriptConfsUptoRow.holds Tryd.pinned (OpenSpec.upto scriptConfsSpec)

end Rows
end Go.Proofs.YtfhglganaebpoaaDoor
