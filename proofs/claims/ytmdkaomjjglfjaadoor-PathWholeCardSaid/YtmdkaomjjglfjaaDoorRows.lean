/-
  NARROWER THAN 'FOR EVERY INPUT', by the rows' own cells (each row's printed sentence says how): PathExact: laid · PathWhole: laid · PathRoute: laid.
  DERIVED. THE GIVEN ROWS OF THIS SEAT. 3 by the template 'for every input the law returns true; each argument reads behind the call as it read before'; 0 by the template 'total and deterministic' (their statements: YtmdkaomjjglfjaaDoorTotals.lean).
  GIVEN WITH THE SEED: the statements are not yours to turn. If you find one false, say at which input.
  Laid BY PROGRAM, IN A SANDBOX (cutbox-rows.mjs): the forced cells as the released guide's own fill.sh prints them over the translation cfa00ace0a31d9a9… (all of the seat's roots in one cut). By AI agents, Wed Nov 11 2026. No macro, syntax, notation, axiom, sorry.
-/
import Derived.Test.YtmdkaomjjglfjaaDoorChecked
import GoSem.Claim
import GoSem.ClaimJoined
import GoSem.ClaimMapViews
import Derived.JoinedTies
import Derived.KernelRfl
namespace Go.Proofs.YtmdkaomjjglfjaaDoor
/- THE CELL 'sum', in the pinned program and in every row, IS THE sha256 OF THE DUMP (.gsa) THAT YtmdkaomjjglfjaaDoorProg.lean LOADS. Nothing in Lean hashes anything: it is a label: what it is worth is what the hold of that sum in a sandbox is worth. -/
noncomputable def Tryd.pinned : Pinned := { name := "ytmdkaomjjglfjaadoor", sum := "cfa00ace0a31d9a9805d4a2cdfdca46f7e2599e0f0539fa096eb5b58880883fc", checked := Tryd.checked }
namespace Rows
def none {H : Type} : Left H := { results := [], args := [] }

/- WHAT THE LISTED PACKAGE-LEVEL VARIABLES READ AS WHEN THE CALL BEGINS. Each datum BY PROGRAM (the guide's laid-datum.mjs) off the statement by which the dump's own 'gosem.cut.vars' lays the variable. In a bare row this is a premise. The card (YtmdkaomjjglfjaaDoorCards.lean) ties it to the program's text. -/
def laid_bellwether_ring_nodeKeys {H : Type} : DataW H := .agg [.lit (.int .i64 2342812313538366385), .lit (.int .i64 1863050908023769503), .lit (.int .i64 81111313352671826), .lit (.int .i64 2434324899588211290), .lit (.int .i64 2454816673080883147), .lit (.int .i64 1342378062264523301), .lit (.int .i64 820659310660760249), .lit (.int .i64 2006264061484817761)]
def laid_bellwether_ring_topicKeys {H : Type} : DataW H := .agg [.lit (.int .i64 1462484242049070477), .lit (.int .i64 1775212608919665246), .lit (.int .i64 3535639072113518480), .lit (.int .i64 3725500155902745375)]

/-- 'bellwetherlaw12.PathExact': WHATEVER THE INPUT: true; the input reads as it did. -/
def pathExactSpec : ChangeSpec := { name := "pathExact", fn := fun _ => fun
  | [d1, d2, d3, d4, d5] => { results := [.lit (.bool true)], args := [d1, d2, d3, d4, d5] }
  | _ => none }
def pathExactRow : OpenClaim := { program := "ytmdkaomjjglfjaadoor", sum := "cfa00ace0a31d9a9805d4a2cdfdca46f7e2599e0f0539fa096eb5b58880883fc", func := "bellwether/bellwetherlaw12.PathExact", spec := "pathExact", named := ["bellwether/ring.topicKeys", "bellwether/ring.nodeKeys"], apart := false, laid := [("bellwether/ring.nodeKeys", laid_bellwether_ring_nodeKeys), ("bellwether/ring.topicKeys", laid_bellwether_ring_topicKeys)] }
def PathExactSaid : Prop := pathExactRow.holds Tryd.pinned (OpenSpec.ofChange pathExactSpec)

/-- ITS FALSE NEIGHBOUR: 'it returns false'. Refute it at one input. -/
def pathExactWrong : ChangeSpec := { name := "pathExact", fn := fun _ => fun
  | [d1, d2, d3, d4, d5] => { results := [.lit (.bool false)], args := [d1, d2, d3, d4, d5] }
  | _ => none }
def PathExactWrongFalsely : Prop := pathExactRow.holds Tryd.pinned (OpenSpec.ofChange pathExactWrong)

/-- 'bellwetherlaw12.PathWhole': WHATEVER THE INPUT: true; the input reads as it did. -/
def pathWholeSpec : ChangeSpec := { name := "pathWhole", fn := fun _ => fun
  | [d1, d2] => { results := [.lit (.bool true)], args := [d1, d2] }
  | _ => none }
def pathWholeRow : OpenClaim := { program := "ytmdkaomjjglfjaadoor", sum := "cfa00ace0a31d9a9805d4a2cdfdca46f7e2599e0f0539fa096eb5b58880883fc", func := "bellwether/bellwetherlaw12.PathWhole", spec := "pathWhole", named := ["bellwether/ring.topicKeys", "bellwether/ring.nodeKeys"], apart := false, laid := [("bellwether/ring.nodeKeys", laid_bellwether_ring_nodeKeys), ("bellwether/ring.topicKeys", laid_bellwether_ring_topicKeys)] }
def PathWholeSaid : Prop := pathWholeRow.holds Tryd.pinned (OpenSpec.ofChange pathWholeSpec)

/-- ITS FALSE NEIGHBOUR: 'it returns false'. Refute it at one input. -/
def pathWholeWrong : ChangeSpec := { name := "pathWhole", fn := fun _ => fun
  | [d1, d2] => { results := [.lit (.bool false)], args := [d1, d2] }
  | _ => none }
def PathWholeWrongFalsely : Prop := pathWholeRow.holds Tryd.pinned (OpenSpec.ofChange pathWholeWrong)

/-- 'bellwetherlaw12.PathRoute': WHATEVER THE INPUT: true; the input reads as it did. -/
def pathRouteSpec : ChangeSpec := { name := "pathRoute", fn := fun _ => fun
  | [d1, d2, d3, d4] => { results := [.lit (.bool true)], args := [d1, d2, d3, d4] }
  | _ => none }
def pathRouteRow : OpenClaim := { program := "ytmdkaomjjglfjaadoor", sum := "cfa00ace0a31d9a9805d4a2cdfdca46f7e2599e0f0539fa096eb5b58880883fc", func := "bellwether/bellwetherlaw12.PathRoute", spec := "pathRoute", unfollowed := true, recurses := true, named := ["bellwether/ring.nodeKeys", "bellwether/ring.topicKeys"], apart := false, laid := [("bellwether/ring.nodeKeys", laid_bellwether_ring_nodeKeys), ("bellwether/ring.topicKeys", laid_bellwether_ring_topicKeys)] }
def PathRouteSaid : Prop := pathRouteRow.holds Tryd.pinned (OpenSpec.ofChange pathRouteSpec)

/-- ITS FALSE NEIGHBOUR: 'it returns false'. Refute it at one input. -/
def pathRouteWrong : ChangeSpec := { name := "pathRoute", fn := fun _ => fun
  | [d1, d2, d3, d4] => { results := [.lit (.bool false)], args := [d1, d2, d3, d4] }
  | _ => none }
def PathRouteWrongFalsely : Prop := pathRouteRow.holds Tryd.pinned (OpenSpec.ofChange pathRouteWrong)

/- THE SECOND FORM. 'bulk': how many values and letters a reading holds, each counted each time it is reached (what is shared counts as often as it is met; a slice's spare places count too). A statement '..UptoSaid' is the law's where the arguments, and the package variables that the reading takes, are together of bulk at most 1048576: NARROWER than '..Said'. Prove '..Said' where nothing that the law and all that it calls make is longer than what came in: it says more and counts as full. Else prove '..UptoSaid'. A law counts once. -/
mutual
def uptoBulk {H : Type} : DataW H → Nat
  | .lit (.string bytes) => bytes.length + 1
  | .lit _ => 1
  | .nil => 1
  | .ptr d => uptoBulk d + 1
  | .slice elems spare => uptoBulkAll elems + uptoBulkAll spare + 1
  | .agg parts => uptoBulkAll parts + 1
  | .iface _ d => uptoBulk d + 1
  | .map entries => uptoBulkEntries entries + 1
  | .held _ => 1
def uptoBulkAll {H : Type} : List (DataW H) → Nat
  | [] => 0
  | d :: r => uptoBulk d + uptoBulkAll r
def uptoBulkEntries {H : Type} : List (Lit × DataW H) → Nat
  | [] => 0
  | x :: r => uptoBulkEntry x + uptoBulkEntries r
def uptoBulkEntry {H : Type} : Lit × DataW H → Nat
  | (.string bytes, d) => bytes.length + uptoBulk d + 1
  | (_, d) => uptoBulk d + 1
 end
def uptoSmall : (H : Type) → List (DataW H) → Bool := fun _ ds => decide (uptoBulkAll ds ≤ 1048576)
def OpenSpec.upto (s : _root_.Go.ChangeSpec) : _root_.Go.OpenSpec := { _root_.Go.OpenSpec.ofChange s with cond := some uptoSmall }

/-- 'bellwetherlaw12.PathExact', WHERE WHAT IT READS IS OF BULK AT MOST 1048576: true; the input reads as it did. -/
def pathExactUptoRow : OpenClaim := { program := "ytmdkaomjjglfjaadoor", sum := "cfa00ace0a31d9a9805d4a2cdfdca46f7e2599e0f0539fa096eb5b58880883fc", func := "bellwether/bellwetherlaw12.PathExact", spec := "pathExact", named := ["bellwether/ring.topicKeys", "bellwether/ring.nodeKeys"], apart := false, laid := [("bellwether/ring.nodeKeys", laid_bellwether_ring_nodeKeys), ("bellwether/ring.topicKeys", laid_bellwether_ring_topicKeys)], narrowed := true }
def PathExactUptoSaid : Prop := pathExactUptoRow.holds Tryd.pinned (OpenSpec.upto pathExactSpec)

/-- 'bellwetherlaw12.PathWhole', WHERE WHAT IT READS IS OF BULK AT MOST 1048576: true; the input reads as it did. -/
def pathWholeUptoRow : OpenClaim := { program := "ytmdkaomjjglfjaadoor", sum := "cfa00ace0a31d9a9805d4a2cdfdca46f7e2599e0f0539fa096eb5b58880883fc", func := "bellwether/bellwetherlaw12.PathWhole", spec := "pathWhole", named := ["bellwether/ring.topicKeys", "bellwether/ring.nodeKeys"], apart := false, laid := [("bellwether/ring.nodeKeys", laid_bellwether_ring_nodeKeys), ("bellwether/ring.topicKeys", laid_bellwether_ring_topicKeys)], narrowed := true }
def PathWholeUptoSaid : Prop := pathWholeUptoRow.holds Tryd.pinned (OpenSpec.upto pathWholeSpec)

/-- 'bellwetherlaw12.PathRoute', WHERE WHAT IT READS IS OF BULK AT MOST 1048576: true; the input reads as it did. -/
def pathRouteUptoRow : OpenClaim := { program := "ytmdkaomjjglfjaadoor", sum := "cfa00ace0a31d9a9805d4a2cdfdca46f7e2599e0f0539fa096eb5b58880883fc", func := "bellwether/bellwetherlaw12.PathRoute", spec := "pathRoute", unfollowed := true, recurses := true, named := ["bellwether/ring.nodeKeys", "bellwether/ring.topicKeys"], apart := false, laid := [("bellwether/ring.nodeKeys", laid_bellwether_ring_nodeKeys), ("bellwether/ring.topicKeys", laid_bellwether_ring_topicKeys)], narrowed := true }
def PathRouteUptoSaid : Prop := pathRouteUptoRow.holds Tryd.pinned (OpenSpec.upto pathRouteSpec)

end Rows
end Go.Proofs.YtmdkaomjjglfjaaDoor
