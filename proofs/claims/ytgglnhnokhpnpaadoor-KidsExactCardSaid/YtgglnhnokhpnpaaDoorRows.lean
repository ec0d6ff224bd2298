/-
  NARROWER THAN 'FOR EVERY INPUT', by the rows' own cells (each row's printed sentence says how): KidsExact: laid · KidsCap: laid · KidsAge: laid · KidsDrop: laid · KidsOrder: laid · KidsSent: laid.
  DERIVED. THE GIVEN ROWS OF THIS SEAT. 6 by the template 'for every input the law returns true; each argument reads behind the call as it read before'; 0 by the template 'total and deterministic' (their statements: YtgglnhnokhpnpaaDoorTotals.lean).
  GIVEN WITH THE SEED: the statements are not yours to turn. If you find one false, say at which input.
  Laid BY PROGRAM, IN A SANDBOX (cutbox-rows.mjs): the forced cells as the released guide's own fill.sh prints them over the translation c34ca4abc9b62119… (all of the seat's roots in one cut). By AI agents, Wed Nov 11 2026. No macro, syntax, notation, axiom, sorry.
-/
import Derived.Test.YtgglnhnokhpnpaaDoorChecked
import GoSem.Claim
import GoSem.ClaimJoined
import GoSem.ClaimMapViews
import Derived.JoinedTies
import Derived.KernelRfl
namespace Go.Proofs.YtgglnhnokhpnpaaDoor
/- THE CELL 'sum', in the pinned program and in every row, IS THE sha256 OF THE DUMP (.gsa) THAT YtgglnhnokhpnpaaDoorProg.lean LOADS. Nothing in Lean hashes anything: it is a label: what it is worth is what the hold of that sum in a sandbox is worth. -/
noncomputable def Tryd.pinned : Pinned := { name := "ytgglnhnokhpnpaadoor", sum := "c34ca4abc9b621193a7002f223e02bb5663d398346cb5a672d397db0f067c1e0", checked := Tryd.checked }
namespace Rows
def none {H : Type} : Left H := { results := [], args := [] }

/- WHAT THE LISTED PACKAGE-LEVEL VARIABLES READ AS WHEN THE CALL BEGINS. Each datum BY PROGRAM (the guide's laid-datum.mjs) off the statement by which the dump's own 'gosem.cut.vars' lays the variable. In a bare row this is a premise. The card (YtgglnhnokhpnpaaDoorCards.lean) ties it to the program's text. -/
def laid_bellwether_ring_nodeKeys {H : Type} : DataW H := .agg [.lit (.int .i64 2342812313538366385), .lit (.int .i64 1863050908023769503), .lit (.int .i64 81111313352671826), .lit (.int .i64 2434324899588211290), .lit (.int .i64 2454816673080883147), .lit (.int .i64 1342378062264523301), .lit (.int .i64 820659310660760249), .lit (.int .i64 2006264061484817761)]
def laid_bellwether_ring_topicKeys {H : Type} : DataW H := .agg [.lit (.int .i64 1462484242049070477), .lit (.int .i64 1775212608919665246), .lit (.int .i64 3535639072113518480), .lit (.int .i64 3725500155902745375)]

/-- 'bellwetherlaw13.KidsExact': WHATEVER THE INPUT: true; the input reads as it did. -/
def kidsExactSpec : ChangeSpec := { name := "kidsExact", fn := fun _ => fun
  | [d1, d2, d3, d4, d5, d6] => { results := [.lit (.bool true)], args := [d1, d2, d3, d4, d5, d6] }
  | _ => none }
def kidsExactRow : OpenClaim := { program := "ytgglnhnokhpnpaadoor", sum := "c34ca4abc9b621193a7002f223e02bb5663d398346cb5a672d397db0f067c1e0", func := "bellwether/bellwetherlaw13.KidsExact", spec := "kidsExact", inPlace := ["slices.overlaps[bellwether/api.Kid]"], unfollowed := true, recurses := true, named := ["bellwether/ring.topicKeys", "bellwether/ring.nodeKeys"], apart := false, laid := [("bellwether/ring.nodeKeys", laid_bellwether_ring_nodeKeys), ("bellwether/ring.topicKeys", laid_bellwether_ring_topicKeys)] }
def KidsExactSaid : Prop := kidsExactRow.holds Tryd.pinned (OpenSpec.ofChange kidsExactSpec)

/-- ITS FALSE NEIGHBOUR: 'it returns false'. Refute it at one input. -/
def kidsExactWrong : ChangeSpec := { name := "kidsExact", fn := fun _ => fun
  | [d1, d2, d3, d4, d5, d6] => { results := [.lit (.bool false)], args := [d1, d2, d3, d4, d5, d6] }
  | _ => none }
def KidsExactWrongFalsely : Prop := kidsExactRow.holds Tryd.pinned (OpenSpec.ofChange kidsExactWrong)

/-- 'bellwetherlaw13.KidsCap': WHATEVER THE INPUT: true; the input reads as it did. -/
def kidsCapSpec : ChangeSpec := { name := "kidsCap", fn := fun _ => fun
  | [d1, d2, d3, d4] => { results := [.lit (.bool true)], args := [d1, d2, d3, d4] }
  | _ => none }
def kidsCapRow : OpenClaim := { program := "ytgglnhnokhpnpaadoor", sum := "c34ca4abc9b621193a7002f223e02bb5663d398346cb5a672d397db0f067c1e0", func := "bellwether/bellwetherlaw13.KidsCap", spec := "kidsCap", inPlace := ["slices.overlaps[bellwether/api.Kid]"], unfollowed := true, recurses := true, named := ["bellwether/ring.topicKeys", "bellwether/ring.nodeKeys"], apart := false, laid := [("bellwether/ring.nodeKeys", laid_bellwether_ring_nodeKeys), ("bellwether/ring.topicKeys", laid_bellwether_ring_topicKeys)] }
def KidsCapSaid : Prop := kidsCapRow.holds Tryd.pinned (OpenSpec.ofChange kidsCapSpec)

/-- ITS FALSE NEIGHBOUR: 'it returns false'. Refute it at one input. -/
def kidsCapWrong : ChangeSpec := { name := "kidsCap", fn := fun _ => fun
  | [d1, d2, d3, d4] => { results := [.lit (.bool false)], args := [d1, d2, d3, d4] }
  | _ => none }
def KidsCapWrongFalsely : Prop := kidsCapRow.holds Tryd.pinned (OpenSpec.ofChange kidsCapWrong)

/-- 'bellwetherlaw13.KidsAge': WHATEVER THE INPUT: true; the input reads as it did. -/
def kidsAgeSpec : ChangeSpec := { name := "kidsAge", fn := fun _ => fun
  | [d1, d2, d3, d4, d5] => { results := [.lit (.bool true)], args := [d1, d2, d3, d4, d5] }
  | _ => none }
def kidsAgeRow : OpenClaim := { program := "ytgglnhnokhpnpaadoor", sum := "c34ca4abc9b621193a7002f223e02bb5663d398346cb5a672d397db0f067c1e0", func := "bellwether/bellwetherlaw13.KidsAge", spec := "kidsAge", inPlace := ["slices.overlaps[bellwether/api.Kid]"], unfollowed := true, recurses := true, named := ["bellwether/ring.topicKeys", "bellwether/ring.nodeKeys"], apart := false, laid := [("bellwether/ring.nodeKeys", laid_bellwether_ring_nodeKeys), ("bellwether/ring.topicKeys", laid_bellwether_ring_topicKeys)] }
def KidsAgeSaid : Prop := kidsAgeRow.holds Tryd.pinned (OpenSpec.ofChange kidsAgeSpec)

/-- ITS FALSE NEIGHBOUR: 'it returns false'. Refute it at one input. -/
def kidsAgeWrong : ChangeSpec := { name := "kidsAge", fn := fun _ => fun
  | [d1, d2, d3, d4, d5] => { results := [.lit (.bool false)], args := [d1, d2, d3, d4, d5] }
  | _ => none }
def KidsAgeWrongFalsely : Prop := kidsAgeRow.holds Tryd.pinned (OpenSpec.ofChange kidsAgeWrong)

/-- 'bellwetherlaw13.KidsDrop': WHATEVER THE INPUT: true; the input reads as it did. -/
def kidsDropSpec : ChangeSpec := { name := "kidsDrop", fn := fun _ => fun
  | [d1, d2, d3, d4, d5] => { results := [.lit (.bool true)], args := [d1, d2, d3, d4, d5] }
  | _ => none }
def kidsDropRow : OpenClaim := { program := "ytgglnhnokhpnpaadoor", sum := "c34ca4abc9b621193a7002f223e02bb5663d398346cb5a672d397db0f067c1e0", func := "bellwether/bellwetherlaw13.KidsDrop", spec := "kidsDrop", inPlace := ["slices.overlaps[bellwether/api.Kid]"], unfollowed := true, recurses := true, named := ["bellwether/ring.topicKeys", "bellwether/ring.nodeKeys"], apart := false, laid := [("bellwether/ring.nodeKeys", laid_bellwether_ring_nodeKeys), ("bellwether/ring.topicKeys", laid_bellwether_ring_topicKeys)] }
def KidsDropSaid : Prop := kidsDropRow.holds Tryd.pinned (OpenSpec.ofChange kidsDropSpec)

/-- ITS FALSE NEIGHBOUR: 'it returns false'. Refute it at one input. -/
def kidsDropWrong : ChangeSpec := { name := "kidsDrop", fn := fun _ => fun
  | [d1, d2, d3, d4, d5] => { results := [.lit (.bool false)], args := [d1, d2, d3, d4, d5] }
  | _ => none }
def KidsDropWrongFalsely : Prop := kidsDropRow.holds Tryd.pinned (OpenSpec.ofChange kidsDropWrong)

/-- 'bellwetherlaw13.KidsOrder': WHATEVER THE INPUT: true; the input reads as it did. -/
def kidsOrderSpec : ChangeSpec := { name := "kidsOrder", fn := fun _ => fun
  | [d1, d2, d3, d4, d5] => { results := [.lit (.bool true)], args := [d1, d2, d3, d4, d5] }
  | _ => none }
def kidsOrderRow : OpenClaim := { program := "ytgglnhnokhpnpaadoor", sum := "c34ca4abc9b621193a7002f223e02bb5663d398346cb5a672d397db0f067c1e0", func := "bellwether/bellwetherlaw13.KidsOrder", spec := "kidsOrder", inPlace := ["slices.overlaps[bellwether/api.Kid]"], unfollowed := true, recurses := true, named := ["bellwether/ring.topicKeys", "bellwether/ring.nodeKeys"], apart := false, laid := [("bellwether/ring.nodeKeys", laid_bellwether_ring_nodeKeys), ("bellwether/ring.topicKeys", laid_bellwether_ring_topicKeys)] }
def KidsOrderSaid : Prop := kidsOrderRow.holds Tryd.pinned (OpenSpec.ofChange kidsOrderSpec)

/-- ITS FALSE NEIGHBOUR: 'it returns false'. Refute it at one input. -/
def kidsOrderWrong : ChangeSpec := { name := "kidsOrder", fn := fun _ => fun
  | [d1, d2, d3, d4, d5] => { results := [.lit (.bool false)], args := [d1, d2, d3, d4, d5] }
  | _ => none }
def KidsOrderWrongFalsely : Prop := kidsOrderRow.holds Tryd.pinned (OpenSpec.ofChange kidsOrderWrong)

/-- 'bellwetherlaw13.KidsSent': WHATEVER THE INPUT: true; the input reads as it did. -/
def kidsSentSpec : ChangeSpec := { name := "kidsSent", fn := fun _ => fun
  | [d1, d2, d3, d4] => { results := [.lit (.bool true)], args := [d1, d2, d3, d4] }
  | _ => none }
def kidsSentRow : OpenClaim := { program := "ytgglnhnokhpnpaadoor", sum := "c34ca4abc9b621193a7002f223e02bb5663d398346cb5a672d397db0f067c1e0", func := "bellwether/bellwetherlaw13.KidsSent", spec := "kidsSent", inPlace := ["slices.overlaps[bellwether/api.Kid]"], unfollowed := true, recurses := true, named := ["bellwether/ring.topicKeys", "bellwether/ring.nodeKeys"], apart := false, laid := [("bellwether/ring.nodeKeys", laid_bellwether_ring_nodeKeys), ("bellwether/ring.topicKeys", laid_bellwether_ring_topicKeys)] }
def KidsSentSaid : Prop := kidsSentRow.holds Tryd.pinned (OpenSpec.ofChange kidsSentSpec)

/-- ITS FALSE NEIGHBOUR: 'it returns false'. Refute it at one input. -/
def kidsSentWrong : ChangeSpec := { name := "kidsSent", fn := fun _ => fun
  | [d1, d2, d3, d4] => { results := [.lit (.bool false)], args := [d1, d2, d3, d4] }
  | _ => none }
def KidsSentWrongFalsely : Prop := kidsSentRow.holds Tryd.pinned (OpenSpec.ofChange kidsSentWrong)

/- THE SECOND FORM. 'bulk': how many values and letters a reading holds, each counted each time it is reached (what is shared counts as often as it is met; a slice's spare places count too). A statement '..UptoSaid' is the law's where the arguments, and the package variables that the reading takes, are together of bulk at most 1048576: NARROWER than '..Said'. Prove '..Said' where nothing that the law and all that it calls make is longer than what came in: it says more and counts as full. Else prove '..UptoSaid'. A law counts once. -/
mutual
def uptoBulk {H : Type} : DataW H → Nat
  | .lit (.string bytes) => bytes.length + 1
  | .lit _ => 1
  | .nil => 1
  | .ptr d => uptoBulk d + 1
  | .slice elems spare => uptoBulkAll elems + uptoBulkAll spare + 1
  | .agg parts => uptoBulkAll parts + 1
  | .iface _ d => uptoBulk d + 1
  | .map entries => uptoBulkEntries entries + 1
  | .held _ => 1
def uptoBulkAll {H : Type} : List (DataW H) → Nat
  | [] => 0
  | d :: r => uptoBulk d + uptoBulkAll r
def uptoBulkEntries {H : Type} : List (Lit × DataW H) → Nat
  | [] => 0
  | x :: r => uptoBulkEntry x + uptoBulkEntries r
def uptoBulkEntry {H : Type} : Lit × DataW H → Nat
  | (.string bytes, d) => bytes.length + uptoBulk d + 1
  | (_, d) => uptoBulk d + 1
 end
def uptoSmall : (H : Type) → List (DataW H) → Bool := fun _ ds => decide (uptoBulkAll ds ≤ 1048576)
def OpenSpec.upto (s : _root_.Go.ChangeSpec) : _root_.Go.OpenSpec := { _root_.Go.OpenSpec.ofChange s with cond := some uptoSmall }

/-- 'bellwetherlaw13.KidsExact', WHERE WHAT IT READS IS OF BULK AT MOST 1048576: true; the input reads as it did. -/
def kidsExactUptoRow : OpenClaim := { program := "ytgglnhnokhpnpaadoor", sum := "c34ca4abc9b621193a7002f223e02bb5663d398346cb5a672d397db0f067c1e0", func := "bellwether/bellwetherlaw13.KidsExact", spec := "kidsExact", inPlace := ["slices.overlaps[bellwether/api.Kid]"], unfollowed := true, recurses := true, named := ["bellwether/ring.topicKeys", "bellwether/ring.nodeKeys"], apart := false, laid := [("bellwether/ring.nodeKeys", laid_bellwether_ring_nodeKeys), ("bellwether/ring.topicKeys", laid_bellwether_ring_topicKeys)], narrowed := true }
def KidsExactUptoSaid : Prop := kidsExactUptoRow.holds Tryd.pinned (OpenSpec.upto kidsExactSpec)

/-- 'bellwetherlaw13.KidsCap', WHERE WHAT IT READS IS OF BULK AT MOST 1048576: true; the input reads as it did. -/
def kidsCapUptoRow : OpenClaim := { program := "ytgglnhnokhpnpaadoor", sum := "c34ca4abc9b621193a7002f223e02bb5663d398346cb5a672d397db0f067c1e0", func := "bellwether/bellwetherlaw13.KidsCap", spec := "kidsCap", inPlace := ["slices.overlaps[bellwether/api.Kid]"], unfollowed := true, recurses := true, named := ["bellwether/ring.topicKeys", "bellwether/ring.nodeKeys"], apart := false, laid := [("bellwether/ring.nodeKeys", laid_bellwether_ring_nodeKeys), ("bellwether/ring.topicKeys", laid_bellwether_ring_topicKeys)], narrowed := true }
def KidsCapUptoSaid : Prop := kidsCapUptoRow.holds Tryd.pinned (OpenSpec.upto kidsCapSpec)

/-- 'bellwetherlaw13.KidsAge', WHERE WHAT IT READS IS OF BULK AT MOST 1048576: true; the input reads as it did. -/
def kidsAgeUptoRow : OpenClaim := { program := "ytgglnhnokhpnpaadoor", sum := "c34ca4abc9b621193a7002f223e02bb5663d398346cb5a672d397db0f067c1e0", func := "bellwether/bellwetherlaw13.KidsAge", spec := "kidsAge", inPlace := ["slices.overlaps[bellwether/api.Kid]"], unfollowed := true, recurses := true, named := ["bellwether/ring.topicKeys", "bellwether/ring.nodeKeys"], apart := false, laid := [("bellwether/ring.nodeKeys", laid_bellwether_ring_nodeKeys), ("bellwether/ring.topicKeys", laid_bellwether_ring_topicKeys)], narrowed := true }
def KidsAgeUptoSaid : Prop := kidsAgeUptoRow.holds Tryd.pinned (OpenSpec.upto kidsAgeSpec)

/-- 'bellwetherlaw13.KidsDrop', WHERE WHAT IT READS IS OF BULK AT MOST 1048576: true; the input reads as it did. -/
def kidsDropUptoRow : OpenClaim := { program := "ytgglnhnokhpnpaadoor", sum := "c34ca4abc9b621193a7002f223e02bb5663d398346cb5a672d397db0f067c1e0", func := "bellwether/bellwetherlaw13.KidsDrop", spec := "kidsDrop", inPlace := ["slices.overlaps[bellwether/api.Kid]"], unfollowed := true, recurses := true, named := ["bellwether/ring.topicKeys", "bellwether/ring.nodeKeys"], apart := false, laid := [("bellwether/ring.nodeKeys", laid_bellwether_ring_nodeKeys), ("bellwether/ring.topicKeys", laid_bellwether_ring_topicKeys)], narrowed := true }
def KidsDropUptoSaid : Prop := kidsDropUptoRow.holds Tryd.pinned (OpenSpec.upto kidsDropSpec)

/-- 'bellwetherlaw13.KidsOrder', WHERE WHAT IT READS IS OF BULK AT MOST 1048576: true; the input reads as it did. -/
def kidsOrderUptoRow : OpenClaim := { program := "ytgglnhnokhpnpaadoor", sum := "c34ca4abc9b621193a7002f223e02bb5663d398346cb5a672d397db0f067c1e0", func := "bellwether/bellwetherlaw13.KidsOrder", spec := "kidsOrder", inPlace := ["slices.overlaps[bellwether/api.Kid]"], unfollowed := true, recurses := true, named := ["bellwether/ring.topicKeys", "bellwether/ring.nodeKeys"], apart := false, laid := [("bellwether/ring.nodeKeys", laid_bellwether_ring_nodeKeys), ("bellwether/ring.topicKeys", laid_bellwether_ring_topicKeys)], narrowed := true }
def KidsOrderUptoSaid : Prop := kidsOrderUptoRow.holds Tryd.pinned (OpenSpec.upto kidsOrderSpec)

/-- 'bellwetherlaw13.KidsSent', WHERE WHAT IT READS IS OF BULK AT MOST 1048576: true; the input reads as it did. -/
def kidsSentUptoRow : OpenClaim := { program := "ytgglnhnokhpnpaadoor", sum := "c34ca4abc9b621193a7002f223e02bb5663d398346cb5a672d397db0f067c1e0", func := "bellwether/bellwetherlaw13.KidsSent", spec := "kidsSent", inPlace := ["slices.overlaps[bellwether/api.Kid]"], unfollowed := true, recurses := true, named := ["bellwether/ring.topicKeys", "bellwether/ring.nodeKeys"], apart := false, laid := [("bellwether/ring.nodeKeys", laid_bellwether_ring_nodeKeys), ("bellwether/ring.topicKeys", laid_bellwether_ring_topicKeys)], narrowed := true }
def KidsSentUptoSaid : Prop := kidsSentUptoRow.holds Tryd.pinned (OpenSpec.upto kidsSentSpec)

end Rows
end Go.Proofs.YtgglnhnokhpnpaaDoor
