/-
  NARROWER THAN 'FOR EVERY INPUT', by the rows' own cells (each row's printed sentence says how): RouteExact: laid · RouteWay: laid · RouteKnows: laid · RouteNext: laid · RouteLess: laid · RouteSteps: laid.
  DERIVED. THE GIVEN ROWS OF THIS SEAT. 6 by the template 'for every input the law returns true; each argument reads behind the call as it read before'; 0 by the template 'total and deterministic' (their statements: YtmfgbecdimndcaaDoorTotals.lean).
  GIVEN WITH THE SEED: the statements are not yours to turn. If you find one false, say at which input.
  Laid BY PROGRAM, IN A SANDBOX (cutbox-rows.mjs): the forced cells as the released guide's own fill.sh prints them over the translation 4fc677719ebd9050… (all of the seat's roots in one cut). By AI agents, Wed Nov 11 2026. No macro, syntax, notation, axiom, sorry.
-/
import Derived.Test.YtmfgbecdimndcaaDoorChecked
import GoSem.Claim
import GoSem.ClaimJoined
import GoSem.ClaimMapViews
import Derived.JoinedTies
import Derived.KernelRfl
namespace Go.Proofs.YtmfgbecdimndcaaDoor
/- THE CELL 'sum', in the pinned program and in every row, IS THE sha256 OF THE DUMP (.gsa) THAT YtmfgbecdimndcaaDoorProg.lean LOADS. Nothing in Lean hashes anything: it is a label: what it is worth is what the hold of that sum in a sandbox is worth. -/
noncomputable def Tryd.pinned : Pinned := { name := "ytmfgbecdimndcaadoor", sum := "4fc677719ebd9050796fae4b387c56a8aa25cf77d00a0b6cea0d0c816bc434a7", checked := Tryd.checked }
namespace Rows
def none {H : Type} : Left H := { results := [], args := [] }

/- WHAT THE LISTED PACKAGE-LEVEL VARIABLES READ AS WHEN THE CALL BEGINS. Each datum BY PROGRAM (the guide's laid-datum.mjs) off the statement by which the dump's own 'gosem.cut.vars' lays the variable. In a bare row this is a premise. The card (YtmfgbecdimndcaaDoorCards.lean) ties it to the program's text. -/
def laid_bellwether_ring_nodeKeys {H : Type} : DataW H := .agg [.lit (.int .i64 2342812313538366385), .lit (.int .i64 1863050908023769503), .lit (.int .i64 81111313352671826), .lit (.int .i64 2434324899588211290), .lit (.int .i64 2454816673080883147), .lit (.int .i64 1342378062264523301), .lit (.int .i64 820659310660760249), .lit (.int .i64 2006264061484817761)]
def laid_bellwether_ring_topicKeys {H : Type} : DataW H := .agg [.lit (.int .i64 1462484242049070477), .lit (.int .i64 1775212608919665246), .lit (.int .i64 3535639072113518480), .lit (.int .i64 3725500155902745375)]

/-- 'bellwetherlaw11.RouteExact': WHATEVER THE INPUT: true; the input reads as it did. -/
def routeExactSpec : ChangeSpec := { name := "routeExact", fn := fun _ => fun
  | [d1, d2, d3] => { results := [.lit (.bool true)], args := [d1, d2, d3] }
  | _ => none }
def routeExactRow : OpenClaim := { program := "ytmfgbecdimndcaadoor", sum := "4fc677719ebd9050796fae4b387c56a8aa25cf77d00a0b6cea0d0c816bc434a7", func := "bellwether/bellwetherlaw11.RouteExact", spec := "routeExact", unfollowed := true, recurses := true, named := ["bellwether/ring.nodeKeys", "bellwether/ring.topicKeys"], apart := false, laid := [("bellwether/ring.nodeKeys", laid_bellwether_ring_nodeKeys), ("bellwether/ring.topicKeys", laid_bellwether_ring_topicKeys)] }
def RouteExactSaid : Prop := routeExactRow.holds Tryd.pinned (OpenSpec.ofChange routeExactSpec)

/-- ITS FALSE NEIGHBOUR: 'it returns false'. Refute it at one input. -/
def routeExactWrong : ChangeSpec := { name := "routeExact", fn := fun _ => fun
  | [d1, d2, d3] => { results := [.lit (.bool false)], args := [d1, d2, d3] }
  | _ => none }
def RouteExactWrongFalsely : Prop := routeExactRow.holds Tryd.pinned (OpenSpec.ofChange routeExactWrong)

/-- 'bellwetherlaw11.RouteWay': WHATEVER THE INPUT: true; the input reads as it did. -/
def routeWaySpec : ChangeSpec := { name := "routeWay", fn := fun _ => fun
  | [d1, d2, d3] => { results := [.lit (.bool true)], args := [d1, d2, d3] }
  | _ => none }
def routeWayRow : OpenClaim := { program := "ytmfgbecdimndcaadoor", sum := "4fc677719ebd9050796fae4b387c56a8aa25cf77d00a0b6cea0d0c816bc434a7", func := "bellwether/bellwetherlaw11.RouteWay", spec := "routeWay", unfollowed := true, recurses := true, named := ["bellwether/ring.nodeKeys", "bellwether/ring.topicKeys"], apart := false, laid := [("bellwether/ring.nodeKeys", laid_bellwether_ring_nodeKeys), ("bellwether/ring.topicKeys", laid_bellwether_ring_topicKeys)] }
def RouteWaySaid : Prop := routeWayRow.holds Tryd.pinned (OpenSpec.ofChange routeWaySpec)

/-- ITS FALSE NEIGHBOUR: 'it returns false'. Refute it at one input. -/
def routeWayWrong : ChangeSpec := { name := "routeWay", fn := fun _ => fun
  | [d1, d2, d3] => { results := [.lit (.bool false)], args := [d1, d2, d3] }
  | _ => none }
def RouteWayWrongFalsely : Prop := routeWayRow.holds Tryd.pinned (OpenSpec.ofChange routeWayWrong)

/-- 'bellwetherlaw11.RouteKnows': WHATEVER THE INPUT: true; the input reads as it did. -/
def routeKnowsSpec : ChangeSpec := { name := "routeKnows", fn := fun _ => fun
  | [d1, d2, d3] => { results := [.lit (.bool true)], args := [d1, d2, d3] }
  | _ => none }
def routeKnowsRow : OpenClaim := { program := "ytmfgbecdimndcaadoor", sum := "4fc677719ebd9050796fae4b387c56a8aa25cf77d00a0b6cea0d0c816bc434a7", func := "bellwether/bellwetherlaw11.RouteKnows", spec := "routeKnows", unfollowed := true, recurses := true, named := ["bellwether/ring.nodeKeys", "bellwether/ring.topicKeys"], apart := false, laid := [("bellwether/ring.nodeKeys", laid_bellwether_ring_nodeKeys), ("bellwether/ring.topicKeys", laid_bellwether_ring_topicKeys)] }
def RouteKnowsSaid : Prop := routeKnowsRow.holds Tryd.pinned (OpenSpec.ofChange routeKnowsSpec)

/-- ITS FALSE NEIGHBOUR: 'it returns false'. Refute it at one input. -/
def routeKnowsWrong : ChangeSpec := { name := "routeKnows", fn := fun _ => fun
  | [d1, d2, d3] => { results := [.lit (.bool false)], args := [d1, d2, d3] }
  | _ => none }
def RouteKnowsWrongFalsely : Prop := routeKnowsRow.holds Tryd.pinned (OpenSpec.ofChange routeKnowsWrong)

/-- 'bellwetherlaw11.RouteNext': WHATEVER THE INPUT: true; the input reads as it did. -/
def routeNextSpec : ChangeSpec := { name := "routeNext", fn := fun _ => fun
  | [d1, d2, d3] => { results := [.lit (.bool true)], args := [d1, d2, d3] }
  | _ => none }
def routeNextRow : OpenClaim := { program := "ytmfgbecdimndcaadoor", sum := "4fc677719ebd9050796fae4b387c56a8aa25cf77d00a0b6cea0d0c816bc434a7", func := "bellwether/bellwetherlaw11.RouteNext", spec := "routeNext", unfollowed := true, recurses := true, named := ["bellwether/ring.nodeKeys", "bellwether/ring.topicKeys"], apart := false, laid := [("bellwether/ring.nodeKeys", laid_bellwether_ring_nodeKeys), ("bellwether/ring.topicKeys", laid_bellwether_ring_topicKeys)] }
def RouteNextSaid : Prop := routeNextRow.holds Tryd.pinned (OpenSpec.ofChange routeNextSpec)

/-- ITS FALSE NEIGHBOUR: 'it returns false'. Refute it at one input. -/
def routeNextWrong : ChangeSpec := { name := "routeNext", fn := fun _ => fun
  | [d1, d2, d3] => { results := [.lit (.bool false)], args := [d1, d2, d3] }
  | _ => none }
def RouteNextWrongFalsely : Prop := routeNextRow.holds Tryd.pinned (OpenSpec.ofChange routeNextWrong)

/-- 'bellwetherlaw11.RouteLess': WHATEVER THE INPUT: true; the input reads as it did. -/
def routeLessSpec : ChangeSpec := { name := "routeLess", fn := fun _ => fun
  | [d1, d2, d3] => { results := [.lit (.bool true)], args := [d1, d2, d3] }
  | _ => none }
def routeLessRow : OpenClaim := { program := "ytmfgbecdimndcaadoor", sum := "4fc677719ebd9050796fae4b387c56a8aa25cf77d00a0b6cea0d0c816bc434a7", func := "bellwether/bellwetherlaw11.RouteLess", spec := "routeLess", unfollowed := true, recurses := true, named := ["bellwether/ring.topicKeys", "bellwether/ring.nodeKeys"], apart := false, laid := [("bellwether/ring.nodeKeys", laid_bellwether_ring_nodeKeys), ("bellwether/ring.topicKeys", laid_bellwether_ring_topicKeys)] }
def RouteLessSaid : Prop := routeLessRow.holds Tryd.pinned (OpenSpec.ofChange routeLessSpec)

/-- ITS FALSE NEIGHBOUR: 'it returns false'. Refute it at one input. -/
def routeLessWrong : ChangeSpec := { name := "routeLess", fn := fun _ => fun
  | [d1, d2, d3] => { results := [.lit (.bool false)], args := [d1, d2, d3] }
  | _ => none }
def RouteLessWrongFalsely : Prop := routeLessRow.holds Tryd.pinned (OpenSpec.ofChange routeLessWrong)

/-- 'bellwetherlaw11.RouteSteps': WHATEVER THE INPUT: true; the input reads as it did. -/
def routeStepsSpec : ChangeSpec := { name := "routeSteps", fn := fun _ => fun
  | [d1, d2, d3, d4] => { results := [.lit (.bool true)], args := [d1, d2, d3, d4] }
  | _ => none }
def routeStepsRow : OpenClaim := { program := "ytmfgbecdimndcaadoor", sum := "4fc677719ebd9050796fae4b387c56a8aa25cf77d00a0b6cea0d0c816bc434a7", func := "bellwether/bellwetherlaw11.RouteSteps", spec := "routeSteps", unfollowed := true, recurses := true, named := ["bellwether/ring.nodeKeys", "bellwether/ring.topicKeys"], apart := false, laid := [("bellwether/ring.nodeKeys", laid_bellwether_ring_nodeKeys), ("bellwether/ring.topicKeys", laid_bellwether_ring_topicKeys)] }
def RouteStepsSaid : Prop := routeStepsRow.holds Tryd.pinned (OpenSpec.ofChange routeStepsSpec)

/-- ITS FALSE NEIGHBOUR: 'it returns false'. Refute it at one input. -/
def routeStepsWrong : ChangeSpec := { name := "routeSteps", fn := fun _ => fun
  | [d1, d2, d3, d4] => { results := [.lit (.bool false)], args := [d1, d2, d3, d4] }
  | _ => none }
def RouteStepsWrongFalsely : Prop := routeStepsRow.holds Tryd.pinned (OpenSpec.ofChange routeStepsWrong)

/- THE SECOND FORM. 'bulk': how many values and letters a reading holds, each counted each time it is reached (what is shared counts as often as it is met; a slice's spare places count too). A statement '..UptoSaid' is the law's where the arguments, and the package variables that the reading takes, are together of bulk at most 1048576: NARROWER than '..Said'. Prove '..Said' where nothing that the law and all that it calls make is longer than what came in: it says more and counts as full. Else prove '..UptoSaid'. A law counts once. -/
mutual
def uptoBulk {H : Type} : DataW H → Nat
  | .lit (.string bytes) => bytes.length + 1
  | .lit _ => 1
  | .nil => 1
  | .ptr d => uptoBulk d + 1
  | .slice elems spare => uptoBulkAll elems + uptoBulkAll spare + 1
  | .agg parts => uptoBulkAll parts + 1
  | .iface _ d => uptoBulk d + 1
  | .map entries => uptoBulkEntries entries + 1
  | .held _ => 1
def uptoBulkAll {H : Type} : List (DataW H) → Nat
  | [] => 0
  | d :: r => uptoBulk d + uptoBulkAll r
def uptoBulkEntries {H : Type} : List (Lit × DataW H) → Nat
  | [] => 0
  | x :: r => uptoBulkEntry x + uptoBulkEntries r
def uptoBulkEntry {H : Type} : Lit × DataW H → Nat
  | (.string bytes, d) => bytes.length + uptoBulk d + 1
  | (_, d) => uptoBulk d + 1
 end
def uptoSmall : (H : Type) → List (DataW H) → Bool := fun _ ds => decide (uptoBulkAll ds ≤ 1048576)
def OpenSpec.upto (s : _root_.Go.ChangeSpec) : _root_.Go.OpenSpec := { _root_.Go.OpenSpec.ofChange s with cond := some uptoSmall }

/-- 'bellwetherlaw11.RouteExact', WHERE WHAT IT READS IS OF BULK AT MOST 1048576: true; the input reads as it did. -/
def routeExactUptoRow : OpenClaim := { program := "ytmfgbecdimndcaadoor", sum := "4fc677719ebd9050796fae4b387c56a8aa25cf77d00a0b6cea0d0c816bc434a7", func := "bellwether/bellwetherlaw11.RouteExact", spec := "routeExact", unfollowed := true, recurses := true, named := ["bellwether/ring.nodeKeys", "bellwether/ring.topicKeys"], apart := false, laid := [("bellwether/ring.nodeKeys", laid_bellwether_ring_nodeKeys), ("bellwether/ring.topicKeys", laid_bellwether_ring_topicKeys)], narrowed := true }
def RouteExactUptoSaid : Prop := routeExactUptoRow.holds Tryd.pinned (OpenSpec.upto routeExactSpec)

/-- 'bellwetherlaw11.RouteWay', WHERE WHAT IT READS IS OF BULK AT MOST 1048576: true; the input reads as it did. -/
def routeWayUptoRow : OpenClaim := { program := "ytmfgbecdimndcaadoor", sum := "4fc677719ebd9050796fae4b387c56a8aa25cf77d00a0b6cea0d0c816bc434a7", func := "bellwether/bellwetherlaw11.RouteWay", spec := "routeWay", unfollowed := true, recurses := true, named := ["bellwether/ring.nodeKeys", "bellwether/ring.topicKeys"], apart := false, laid := [("bellwether/ring.nodeKeys", laid_bellwether_ring_nodeKeys), ("bellwether/ring.topicKeys", laid_bellwether_ring_topicKeys)], narrowed := true }
def RouteWayUptoSaid : Prop := routeWayUptoRow.holds Tryd.pinned (OpenSpec.upto routeWaySpec)

/-- 'bellwetherlaw11.RouteKnows', WHERE WHAT IT READS IS OF BULK AT MOST 1048576: true; the input reads as it did. -/
def routeKnowsUptoRow : OpenClaim := { program := "ytmfgbecdimndcaadoor", sum := "4fc677719ebd9050796fae4b387c56a8aa25cf77d00a0b6cea0d0c816bc434a7", func := "bellwether/bellwetherlaw11.RouteKnows", spec := "routeKnows", unfollowed := true, recurses := true, named := ["bellwether/ring.nodeKeys", "bellwether/ring.topicKeys"], apart := false, laid := [("bellwether/ring.nodeKeys", laid_bellwether_ring_nodeKeys), ("bellwether/ring.topicKeys", laid_bellwether_ring_topicKeys)], narrowed := true }
def RouteKnowsUptoSaid : Prop := routeKnowsUptoRow.holds Tryd.pinned (OpenSpec.upto routeKnowsSpec)

/-- 'bellwetherlaw11.RouteNext', WHERE WHAT IT READS IS OF BULK AT MOST 1048576: true; the input reads as it did. -/
def routeNextUptoRow : OpenClaim := { program := "ytmfgbecdimndcaadoor", sum := "4fc677719ebd9050796fae4b387c56a8aa25cf77d00a0b6cea0d0c816bc434a7", func := "bellwether/bellwetherlaw11.RouteNext", spec := "routeNext", unfollowed := true, recurses := true, named := ["bellwether/ring.nodeKeys", "bellwether/ring.topicKeys"], apart := false, laid := [("bellwether/ring.nodeKeys", laid_bellwether_ring_nodeKeys), ("bellwether/ring.topicKeys", laid_bellwether_ring_topicKeys)], narrowed := true }
def RouteNextUptoSaid : Prop := routeNextUptoRow.holds Tryd.pinned (OpenSpec.upto routeNextSpec)

/-- 'bellwetherlaw11.RouteLess', WHERE WHAT IT READS IS OF BULK AT MOST 1048576: true; the input reads as it did. -/
def routeLessUptoRow : OpenClaim := { program := "ytmfgbecdimndcaadoor", sum := "4fc677719ebd9050796fae4b387c56a8aa25cf77d00a0b6cea0d0c816bc434a7", func := "bellwether/bellwetherlaw11.RouteLess", spec := "routeLess", unfollowed := true, recurses := true, named := ["bellwether/ring.topicKeys", "bellwether/ring.nodeKeys"], apart := false, laid := [("bellwether/ring.nodeKeys", laid_bellwether_ring_nodeKeys), ("bellwether/ring.topicKeys", laid_bellwether_ring_topicKeys)], narrowed := true }
def RouteLessUptoSaid : Prop := routeLessUptoRow.holds Tryd.pinned (OpenSpec.upto routeLessSpec)

/-- 'bellwetherlaw11.RouteSteps', WHERE WHAT IT READS IS OF BULK AT MOST 1048576: true; the input reads as it did. -/
def routeStepsUptoRow : OpenClaim := { program := "ytmfgbecdimndcaadoor", sum := "4fc677719ebd9050796fae4b387c56a8aa25cf77d00a0b6cea0d0c816bc434a7", func := "bellwether/bellwetherlaw11.RouteSteps", spec := "routeSteps", unfollowed := true, recurses := true, named := ["bellwether/ring.nodeKeys", "bellwether/ring.topicKeys"], apart := false, laid := [("bellwether/ring.nodeKeys", laid_bellwether_ring_nodeKeys), ("bellwether/ring.topicKeys", laid_bellwether_ring_topicKeys)], narrowed := true }
def RouteStepsUptoSaid : Prop := routeStepsUptoRow.holds Tryd.pinned (OpenSpec.upto routeStepsSpec)

end Rows
end Go.Proofs.YtmfgbecdimndcaaDoor
