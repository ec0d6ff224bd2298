/-
  NARROWER THAN 'FOR EVERY INPUT', by the rows' own cells (each row's printed sentence says how): EpochExact: laid · EpochOnce: laid · EpochTurns: laid.
  DERIVED. THE GIVEN ROWS OF THIS SEAT. 3 by the template 'for every input the law returns true; each argument reads behind the call as it read before'; 0 by the template 'total and deterministic' (their statements: YtmnidpbmifdflaaDoorTotals.lean).
  GIVEN WITH THE SEED: the statements are not yours to turn. If you find one false, say at which input.
  Laid BY PROGRAM, IN A SANDBOX (cutbox-rows.mjs): the forced cells as the released guide's own fill.sh prints them over the translation dd6db3f3b09cecf2… (all of the seat's roots in one cut). By AI agents, Wed Nov 11 2026. No macro, syntax, notation, axiom, sorry.
-/
import Derived.Test.YtmnidpbmifdflaaDoorChecked
import GoSem.Claim
import GoSem.ClaimJoined
import GoSem.ClaimMapViews
import Derived.JoinedTies
import Derived.KernelRfl
namespace Go.Proofs.YtmnidpbmifdflaaDoor
/- THE CELL 'sum', in the pinned program and in every row, IS THE sha256 OF THE DUMP (.gsa) THAT YtmnidpbmifdflaaDoorProg.lean LOADS. Nothing in Lean hashes anything: it is a label: what it is worth is what the hold of that sum in a sandbox is worth. -/
noncomputable def Tryd.pinned : Pinned := { name := "ytmnidpbmifdflaadoor", sum := "dd6db3f3b09cecf23a0e9518d285bf27e12cd946d2c45c4f7e349461a8b2b697", checked := Tryd.checked }
namespace Rows
def none {H : Type} : Left H := { results := [], args := [] }

/- WHAT THE LISTED PACKAGE-LEVEL VARIABLES READ AS WHEN THE CALL BEGINS. Each datum BY PROGRAM (the guide's laid-datum.mjs) off the statement by which the dump's own 'gosem.cut.vars' lays the variable. In a bare row this is a premise. The card (YtmnidpbmifdflaaDoorCards.lean) ties it to the program's text. -/
def laid_bellwether_ring_nodeKeys {H : Type} : DataW H := .agg [.lit (.int .i64 2342812313538366385), .lit (.int .i64 1863050908023769503), .lit (.int .i64 81111313352671826), .lit (.int .i64 2434324899588211290), .lit (.int .i64 2454816673080883147), .lit (.int .i64 1342378062264523301), .lit (.int .i64 820659310660760249), .lit (.int .i64 2006264061484817761)]

/-- 'bellwetherlaw14.EpochExact': WHATEVER THE INPUT: true; the input reads as it did. -/
def epochExactSpec : ChangeSpec := { name := "epochExact", fn := fun _ => fun
  | [d1, d2, d3] => { results := [.lit (.bool true)], args := [d1, d2, d3] }
  | _ => none }
def epochExactRow : OpenClaim := { program := "ytmnidpbmifdflaadoor", sum := "dd6db3f3b09cecf23a0e9518d285bf27e12cd946d2c45c4f7e349461a8b2b697", func := "bellwether/bellwetherlaw14.EpochExact", spec := "epochExact", named := ["bellwether/ring.nodeKeys"], apart := false, laid := [("bellwether/ring.nodeKeys", laid_bellwether_ring_nodeKeys)] }
def EpochExactSaid : Prop := epochExactRow.holds Tryd.pinned (OpenSpec.ofChange epochExactSpec)

/-- ITS FALSE NEIGHBOUR: 'it returns false'. Refute it at one input. -/
def epochExactWrong : ChangeSpec := { name := "epochExact", fn := fun _ => fun
  | [d1, d2, d3] => { results := [.lit (.bool false)], args := [d1, d2, d3] }
  | _ => none }
def EpochExactWrongFalsely : Prop := epochExactRow.holds Tryd.pinned (OpenSpec.ofChange epochExactWrong)

/-- 'bellwetherlaw14.EpochOnce': WHATEVER THE INPUT: true; the input reads as it did. -/
def epochOnceSpec : ChangeSpec := { name := "epochOnce", fn := fun _ => fun
  | [d1, d2, d3, d4] => { results := [.lit (.bool true)], args := [d1, d2, d3, d4] }
  | _ => none }
def epochOnceRow : OpenClaim := { program := "ytmnidpbmifdflaadoor", sum := "dd6db3f3b09cecf23a0e9518d285bf27e12cd946d2c45c4f7e349461a8b2b697", func := "bellwether/bellwetherlaw14.EpochOnce", spec := "epochOnce", named := ["bellwether/ring.nodeKeys"], apart := false, laid := [("bellwether/ring.nodeKeys", laid_bellwether_ring_nodeKeys)] }
def EpochOnceSaid : Prop := epochOnceRow.holds Tryd.pinned (OpenSpec.ofChange epochOnceSpec)

/-- ITS FALSE NEIGHBOUR: 'it returns false'. Refute it at one input. -/
def epochOnceWrong : ChangeSpec := { name := "epochOnce", fn := fun _ => fun
  | [d1, d2, d3, d4] => { results := [.lit (.bool false)], args := [d1, d2, d3, d4] }
  | _ => none }
def EpochOnceWrongFalsely : Prop := epochOnceRow.holds Tryd.pinned (OpenSpec.ofChange epochOnceWrong)

/-- 'bellwetherlaw14.EpochTurns': WHATEVER THE INPUT: true; the input reads as it did. -/
def epochTurnsSpec : ChangeSpec := { name := "epochTurns", fn := fun _ => fun
  | [d] => { results := [.lit (.bool true)], args := [d] }
  | _ => none }
def epochTurnsRow : OpenClaim := { program := "ytmnidpbmifdflaadoor", sum := "dd6db3f3b09cecf23a0e9518d285bf27e12cd946d2c45c4f7e349461a8b2b697", func := "bellwether/bellwetherlaw14.EpochTurns", spec := "epochTurns", named := ["bellwether/ring.nodeKeys"], apart := false, laid := [("bellwether/ring.nodeKeys", laid_bellwether_ring_nodeKeys)] }
def EpochTurnsSaid : Prop := epochTurnsRow.holds Tryd.pinned (OpenSpec.ofChange epochTurnsSpec)

/-- ITS FALSE NEIGHBOUR: 'it returns false'. Refute it at one input. -/
def epochTurnsWrong : ChangeSpec := { name := "epochTurns", fn := fun _ => fun
  | [d] => { results := [.lit (.bool false)], args := [d] }
  | _ => none }
def EpochTurnsWrongFalsely : Prop := epochTurnsRow.holds Tryd.pinned (OpenSpec.ofChange epochTurnsWrong)

/- THE SECOND FORM. 'bulk': how many values and letters a reading holds, each counted each time it is reached (what is shared counts as often as it is met; a slice's spare places count too). A statement '..UptoSaid' is the law's where the arguments, and the package variables that the reading takes, are together of bulk at most 1048576: NARROWER than '..Said'. Prove '..Said' where nothing that the law and all that it calls make is longer than what came in: it says more and counts as full. Else prove '..UptoSaid'. A law counts once. -/
mutual
def uptoBulk {H : Type} : DataW H → Nat
  | .lit (.string bytes) => bytes.length + 1
  | .lit _ => 1
  | .nil => 1
  | .ptr d => uptoBulk d + 1
  | .slice elems spare => uptoBulkAll elems + uptoBulkAll spare + 1
  | .agg parts => uptoBulkAll parts + 1
  | .iface _ d => uptoBulk d + 1
  | .map entries => uptoBulkEntries entries + 1
  | .held _ => 1
def uptoBulkAll {H : Type} : List (DataW H) → Nat
  | [] => 0
  | d :: r => uptoBulk d + uptoBulkAll r
def uptoBulkEntries {H : Type} : List (Lit × DataW H) → Nat
  | [] => 0
  | x :: r => uptoBulkEntry x + uptoBulkEntries r
def uptoBulkEntry {H : Type} : Lit × DataW H → Nat
  | (.string bytes, d) => bytes.length + uptoBulk d + 1
  | (_, d) => uptoBulk d + 1
 end
def uptoSmall : (H : Type) → List (DataW H) → Bool := fun _ ds => decide (uptoBulkAll ds ≤ 1048576)
def OpenSpec.upto (s : _root_.Go.ChangeSpec) : _root_.Go.OpenSpec := { _root_.Go.OpenSpec.ofChange s with cond := some uptoSmall }

/-- 'bellwetherlaw14.EpochExact', WHERE WHAT IT READS IS OF BULK AT MOST 1048576: true; the input reads as it did. -/
def epochExactUptoRow : OpenClaim := { program := "ytmnidpbmifdflaadoor", sum := "dd6db3f3b09cecf23a0e9518d285bf27e12cd946d2c45c4f7e349461a8b2b697", func := "bellwether/bellwetherlaw14.EpochExact", spec := "epochExact", named := ["bellwether/ring.nodeKeys"], apart := false, laid := [("bellwether/ring.nodeKeys", laid_bellwether_ring_nodeKeys)], narrowed := true }
def EpochExactUptoSaid : Prop := epochExactUptoRow.holds Tryd.pinned (OpenSpec.upto epochExactSpec)

/-- 'bellwetherlaw14.EpochOnce', WHERE WHAT IT READS IS OF BULK AT MOST 1048576: true; the input reads as it did. -/
def epochOnceUptoRow : OpenClaim := { program := "ytmnidpbmifdflaadoor", sum := "dd6db3f3b09cecf23a0e9518d285bf27e12cd946d2c45c4f7e349461a8b2b697", func := "bellwether/bellwetherlaw14.EpochOnce", spec := "epochOnce", named := ["bellwether/ring.nodeKeys"], apart := false, laid := [("bellwether/ring.nodeKeys", laid_bellwether_ring_nodeKeys)], narrowed := true }
def EpochOnceUptoSaid : Prop := epochOnceUptoRow.holds Tryd.pinned (OpenSpec.upto epochOnceSpec)

/-- 'bellwetherlaw14.EpochTurns', WHERE WHAT IT READS IS OF BULK AT MOST 1048576: true; the input reads as it did. -/
def epochTurnsUptoRow : OpenClaim := { program := "ytmnidpbmifdflaadoor", sum := "dd6db3f3b09cecf23a0e9518d285bf27e12cd946d2c45c4f7e349461a8b2b697", func := "bellwether/bellwetherlaw14.EpochTurns", spec := "epochTurns", named := ["bellwether/ring.nodeKeys"], apart := false, laid := [("bellwether/ring.nodeKeys", laid_bellwether_ring_nodeKeys)], narrowed := true }
def EpochTurnsUptoSaid : Prop := epochTurnsUptoRow.holds Tryd.pinned (OpenSpec.upto epochTurnsSpec)

end Rows
end Go.Proofs.YtmnidpbmifdflaaDoor
