/-
  NARROWER THAN 'FOR EVERY INPUT', by the rows' own cells (each row's printed sentence says how): RingExact: laid · RingTable: laid · RingNearer: laid · RingGaps: laid · RingOwners: laid.
  DERIVED. THE GIVEN ROWS OF THIS SEAT. 5 by the template 'for every input the law returns true; each argument reads behind the call as it read before'; 0 by the template 'total and deterministic' (their statements: YteldgklcfemenaaDoorTotals.lean).
  GIVEN WITH THE SEED: the statements are not yours to turn. If you find one false, say at which input.
  Laid BY PROGRAM, IN A SANDBOX (cutbox-rows.mjs): the forced cells as the released guide's own fill.sh prints them over the translation 32429d8485c0f252… (all of the seat's roots in one cut). By AI agents, Wed Nov 11 2026. No macro, syntax, notation, axiom, sorry.
-/
import Derived.Test.YteldgklcfemenaaDoorChecked
import GoSem.Claim
import GoSem.ClaimJoined
import GoSem.ClaimMapViews
import Derived.JoinedTies
import Derived.KernelRfl
namespace Go.Proofs.YteldgklcfemenaaDoor
/- THE CELL 'sum', in the pinned program and in every row, IS THE sha256 OF THE DUMP (.gsa) THAT YteldgklcfemenaaDoorProg.lean LOADS. Nothing in Lean hashes anything: it is a label: what it is worth is what the hold of that sum in a sandbox is worth. -/
noncomputable def Tryd.pinned : Pinned := { name := "yteldgklcfemenaadoor", sum := "32429d8485c0f25288af0917900b0661cf1295fb059d1683a87ec4ef24f18a6a", checked := Tryd.checked }
namespace Rows
def none {H : Type} : Left H := { results := [], args := [] }

/- WHAT THE LISTED PACKAGE-LEVEL VARIABLES READ AS WHEN THE CALL BEGINS. Each datum BY PROGRAM (the guide's laid-datum.mjs) off the statement by which the dump's own 'gosem.cut.vars' lays the variable. In a bare row this is a premise. The card (YteldgklcfemenaaDoorCards.lean) ties it to the program's text. -/
def laid_bellwether_ring_nodeKeys {H : Type} : DataW H := .agg [.lit (.int .i64 2342812313538366385), .lit (.int .i64 1863050908023769503), .lit (.int .i64 81111313352671826), .lit (.int .i64 2434324899588211290), .lit (.int .i64 2454816673080883147), .lit (.int .i64 1342378062264523301), .lit (.int .i64 820659310660760249), .lit (.int .i64 2006264061484817761)]
def laid_bellwether_ring_topicKeys {H : Type} : DataW H := .agg [.lit (.int .i64 1462484242049070477), .lit (.int .i64 1775212608919665246), .lit (.int .i64 3535639072113518480), .lit (.int .i64 3725500155902745375)]
def laid_bellwether_sha_start {H : Type} : DataW H := .agg [.lit (.int .u32 1779033703), .lit (.int .u32 3144134277), .lit (.int .u32 1013904242), .lit (.int .u32 2773480762), .lit (.int .u32 1359893119), .lit (.int .u32 2600822924), .lit (.int .u32 528734635), .lit (.int .u32 1541459225)]
def laid_bellwether_sha_rounds {H : Type} : DataW H := .agg [.lit (.int .u32 1116352408), .lit (.int .u32 1899447441), .lit (.int .u32 3049323471), .lit (.int .u32 3921009573), .lit (.int .u32 961987163), .lit (.int .u32 1508970993), .lit (.int .u32 2453635748), .lit (.int .u32 2870763221), .lit (.int .u32 3624381080), .lit (.int .u32 310598401), .lit (.int .u32 607225278), .lit (.int .u32 1426881987), .lit (.int .u32 1925078388), .lit (.int .u32 2162078206), .lit (.int .u32 2614888103), .lit (.int .u32 3248222580), .lit (.int .u32 3835390401), .lit (.int .u32 4022224774), .lit (.int .u32 264347078), .lit (.int .u32 604807628), .lit (.int .u32 770255983), .lit (.int .u32 1249150122), .lit (.int .u32 1555081692), .lit (.int .u32 1996064986), .lit (.int .u32 2554220882), .lit (.int .u32 2821834349), .lit (.int .u32 2952996808), .lit (.int .u32 3210313671), .lit (.int .u32 3336571891), .lit (.int .u32 3584528711), .lit (.int .u32 113926993), .lit (.int .u32 338241895), .lit (.int .u32 666307205), .lit (.int .u32 773529912), .lit (.int .u32 1294757372), .lit (.int .u32 1396182291), .lit (.int .u32 1695183700), .lit (.int .u32 1986661051), .lit (.int .u32 2177026350), .lit (.int .u32 2456956037), .lit (.int .u32 2730485921), .lit (.int .u32 2820302411), .lit (.int .u32 3259730800), .lit (.int .u32 3345764771), .lit (.int .u32 3516065817), .lit (.int .u32 3600352804), .lit (.int .u32 4094571909), .lit (.int .u32 275423344), .lit (.int .u32 430227734), .lit (.int .u32 506948616), .lit (.int .u32 659060556), .lit (.int .u32 883997877), .lit (.int .u32 958139571), .lit (.int .u32 1322822218), .lit (.int .u32 1537002063), .lit (.int .u32 1747873779), .lit (.int .u32 1955562222), .lit (.int .u32 2024104815), .lit (.int .u32 2227730452), .lit (.int .u32 2361852424), .lit (.int .u32 2428436474), .lit (.int .u32 2756734187), .lit (.int .u32 3204031479), .lit (.int .u32 3329325298)]

/-- 'bellwetherlaw03.RingExact': WHATEVER THE INPUT: true; the input reads as it did. -/
def ringExactSpec : ChangeSpec := { name := "ringExact", fn := fun _ => fun
  | [d1, d2, d3, d4] => { results := [.lit (.bool true)], args := [d1, d2, d3, d4] }
  | _ => none }
def ringExactRow : OpenClaim := { program := "yteldgklcfemenaadoor", sum := "32429d8485c0f25288af0917900b0661cf1295fb059d1683a87ec4ef24f18a6a", func := "bellwether/bellwetherlaw03.RingExact", spec := "ringExact", named := ["bellwether/ring.nodeKeys", "bellwether/ring.topicKeys"], apart := false, laid := [("bellwether/ring.nodeKeys", laid_bellwether_ring_nodeKeys), ("bellwether/ring.topicKeys", laid_bellwether_ring_topicKeys)] }
def RingExactSaid : Prop := ringExactRow.holds Tryd.pinned (OpenSpec.ofChange ringExactSpec)

/-- ITS FALSE NEIGHBOUR: 'it returns false'. Refute it at one input. -/
def ringExactWrong : ChangeSpec := { name := "ringExact", fn := fun _ => fun
  | [d1, d2, d3, d4] => { results := [.lit (.bool false)], args := [d1, d2, d3, d4] }
  | _ => none }
def RingExactWrongFalsely : Prop := ringExactRow.holds Tryd.pinned (OpenSpec.ofChange ringExactWrong)

/-- 'bellwetherlaw03.RingTable': WHATEVER THE INPUT: true; the input reads as it did. -/
def ringTableSpec : ChangeSpec := { name := "ringTable", fn := fun _ => fun
  | [d1, d2, d3] => { results := [.lit (.bool true)], args := [d1, d2, d3] }
  | _ => none }
def ringTableRow : OpenClaim := { program := "yteldgklcfemenaadoor", sum := "32429d8485c0f25288af0917900b0661cf1295fb059d1683a87ec4ef24f18a6a", func := "bellwether/bellwetherlaw03.RingTable", spec := "ringTable", named := ["bellwether/ring.nodeKeys", "bellwether/ring.topicKeys", "bellwether/sha.start", "bellwether/sha.rounds"], apart := false, laid := [("bellwether/ring.nodeKeys", laid_bellwether_ring_nodeKeys), ("bellwether/ring.topicKeys", laid_bellwether_ring_topicKeys), ("bellwether/sha.start", laid_bellwether_sha_start), ("bellwether/sha.rounds", laid_bellwether_sha_rounds)] }
def RingTableSaid : Prop := ringTableRow.holds Tryd.pinned (OpenSpec.ofChange ringTableSpec)

/-- ITS FALSE NEIGHBOUR: 'it returns false'. Refute it at one input. -/
def ringTableWrong : ChangeSpec := { name := "ringTable", fn := fun _ => fun
  | [d1, d2, d3] => { results := [.lit (.bool false)], args := [d1, d2, d3] }
  | _ => none }
def RingTableWrongFalsely : Prop := ringTableRow.holds Tryd.pinned (OpenSpec.ofChange ringTableWrong)

/-- 'bellwetherlaw03.RingNearer': WHATEVER THE INPUT: true; the input reads as it did. -/
def ringNearerSpec : ChangeSpec := { name := "ringNearer", fn := fun _ => fun
  | [d1, d2, d3, d4, d5] => { results := [.lit (.bool true)], args := [d1, d2, d3, d4, d5] }
  | _ => none }
def ringNearerRow : OpenClaim := { program := "yteldgklcfemenaadoor", sum := "32429d8485c0f25288af0917900b0661cf1295fb059d1683a87ec4ef24f18a6a", func := "bellwether/bellwetherlaw03.RingNearer", spec := "ringNearer", named := ["bellwether/ring.topicKeys", "bellwether/ring.nodeKeys"], apart := false, laid := [("bellwether/ring.nodeKeys", laid_bellwether_ring_nodeKeys), ("bellwether/ring.topicKeys", laid_bellwether_ring_topicKeys)] }
def RingNearerSaid : Prop := ringNearerRow.holds Tryd.pinned (OpenSpec.ofChange ringNearerSpec)

/-- ITS FALSE NEIGHBOUR: 'it returns false'. Refute it at one input. -/
def ringNearerWrong : ChangeSpec := { name := "ringNearer", fn := fun _ => fun
  | [d1, d2, d3, d4, d5] => { results := [.lit (.bool false)], args := [d1, d2, d3, d4, d5] }
  | _ => none }
def RingNearerWrongFalsely : Prop := ringNearerRow.holds Tryd.pinned (OpenSpec.ofChange ringNearerWrong)

/-- 'bellwetherlaw03.RingGaps': WHATEVER THE INPUT: true; the input reads as it did. -/
def ringGapsSpec : ChangeSpec := { name := "ringGaps", fn := fun _ => fun
  | [d1, d2, d3] => { results := [.lit (.bool true)], args := [d1, d2, d3] }
  | _ => none }
def ringGapsRow : OpenClaim := { program := "yteldgklcfemenaadoor", sum := "32429d8485c0f25288af0917900b0661cf1295fb059d1683a87ec4ef24f18a6a", func := "bellwether/bellwetherlaw03.RingGaps", spec := "ringGaps", named := ["bellwether/ring.topicKeys", "bellwether/ring.nodeKeys"], apart := false, laid := [("bellwether/ring.nodeKeys", laid_bellwether_ring_nodeKeys), ("bellwether/ring.topicKeys", laid_bellwether_ring_topicKeys)] }
def RingGapsSaid : Prop := ringGapsRow.holds Tryd.pinned (OpenSpec.ofChange ringGapsSpec)

/-- ITS FALSE NEIGHBOUR: 'it returns false'. Refute it at one input. -/
def ringGapsWrong : ChangeSpec := { name := "ringGaps", fn := fun _ => fun
  | [d1, d2, d3] => { results := [.lit (.bool false)], args := [d1, d2, d3] }
  | _ => none }
def RingGapsWrongFalsely : Prop := ringGapsRow.holds Tryd.pinned (OpenSpec.ofChange ringGapsWrong)

/-- 'bellwetherlaw03.RingOwners': WHATEVER THE INPUT: true; the input reads as it did. -/
def ringOwnersSpec : ChangeSpec := { name := "ringOwners", fn := fun _ => fun
  | [d1, d2, d3] => { results := [.lit (.bool true)], args := [d1, d2, d3] }
  | _ => none }
def ringOwnersRow : OpenClaim := { program := "yteldgklcfemenaadoor", sum := "32429d8485c0f25288af0917900b0661cf1295fb059d1683a87ec4ef24f18a6a", func := "bellwether/bellwetherlaw03.RingOwners", spec := "ringOwners", named := ["bellwether/ring.topicKeys", "bellwether/ring.nodeKeys"], apart := false, laid := [("bellwether/ring.nodeKeys", laid_bellwether_ring_nodeKeys), ("bellwether/ring.topicKeys", laid_bellwether_ring_topicKeys)] }
def RingOwnersSaid : Prop := ringOwnersRow.holds Tryd.pinned (OpenSpec.ofChange ringOwnersSpec)

/-- ITS FALSE NEIGHBOUR: 'it returns false'. Refute it at one input. -/
def ringOwnersWrong : ChangeSpec := { name := "ringOwners", fn := fun _ => fun
  | [d1, d2, d3] => { results := [.lit (.bool false)], args := [d1, d2, d3] }
  | _ => none }
def RingOwnersWrongFalsely : Prop := ringOwnersRow.holds Tryd.pinned (OpenSpec.ofChange ringOwnersWrong)

/- THE SECOND FORM. 'bulk': how many values and letters a reading holds, each counted each time it is reached (what is shared counts as often as it is met; a slice's spare places count too). A statement '..UptoSaid' is the law's where the arguments, and the package variables that the reading takes, are together of bulk at most 1048576: NARROWER than '..Said'. Prove '..Said' where nothing that the law and all that it calls make is longer than what came in: it says more and counts as full. Else prove '..UptoSaid'. A law counts once. -/
mutual
def uptoBulk {H : Type} : DataW H → Nat
  | .lit (.string bytes) => bytes.length + 1
  | .lit _ => 1
  | .nil => 1
  | .ptr d => uptoBulk d + 1
  | .slice elems spare => uptoBulkAll elems + uptoBulkAll spare + 1
  | .agg parts => uptoBulkAll parts + 1
  | .iface _ d => uptoBulk d + 1
  | .map entries => uptoBulkEntries entries + 1
  | .held _ => 1
def uptoBulkAll {H : Type} : List (DataW H) → Nat
  | [] => 0
  | d :: r => uptoBulk d + uptoBulkAll r
def uptoBulkEntries {H : Type} : List (Lit × DataW H) → Nat
  | [] => 0
  | x :: r => uptoBulkEntry x + uptoBulkEntries r
def uptoBulkEntry {H : Type} : Lit × DataW H → Nat
  | (.string bytes, d) => bytes.length + uptoBulk d + 1
  | (_, d) => uptoBulk d + 1
 end
def uptoSmall : (H : Type) → List (DataW H) → Bool := fun _ ds => decide (uptoBulkAll ds ≤ 1048576)
def OpenSpec.upto (s : _root_.Go.ChangeSpec) : _root_.Go.OpenSpec := { _root_.Go.OpenSpec.ofChange s with cond := some uptoSmall }

/-- 'bellwetherlaw03.RingExact', WHERE WHAT IT READS IS OF BULK AT MOST 1048576: true; the input reads as it did. -/
def ringExactUptoRow : OpenClaim := { program := "yteldgklcfemenaadoor", sum := "32429d8485c0f25288af0917900b0661cf1295fb059d1683a87ec4ef24f18a6a", func := "bellwether/bellwetherlaw03.RingExact", spec := "ringExact", named := ["bellwether/ring.nodeKeys", "bellwether/ring.topicKeys"], apart := false, laid := [("bellwether/ring.nodeKeys", laid_bellwether_ring_nodeKeys), ("bellwether/ring.topicKeys", laid_bellwether_ring_topicKeys)], narrowed := true }
def RingExactUptoSaid : Prop := ringExactUptoRow.holds Tryd.pinned (OpenSpec.upto ringExactSpec)

/-- 'bellwetherlaw03.RingTable', WHERE WHAT IT READS IS OF BULK AT MOST 1048576: true; the input reads as it did. -/
def ringTableUptoRow : OpenClaim := { program := "yteldgklcfemenaadoor", sum := "32429d8485c0f25288af0917900b0661cf1295fb059d1683a87ec4ef24f18a6a", func := "bellwether/bellwetherlaw03.RingTable", spec := "ringTable", named := ["bellwether/ring.nodeKeys", "bellwether/ring.topicKeys", "bellwether/sha.start", "bellwether/sha.rounds"], apart := false, laid := [("bellwether/ring.nodeKeys", laid_bellwether_ring_nodeKeys), ("bellwether/ring.topicKeys", laid_bellwether_ring_topicKeys), ("bellwether/sha.start", laid_bellwether_sha_start), ("bellwether/sha.rounds", laid_bellwether_sha_rounds)], narrowed := true }
def RingTableUptoSaid : Prop := ringTableUptoRow.holds Tryd.pinned (OpenSpec.upto ringTableSpec)

/-- 'bellwetherlaw03.RingNearer', WHERE WHAT IT READS IS OF BULK AT MOST 1048576: true; the input reads as it did. -/
def ringNearerUptoRow : OpenClaim := { program := "yteldgklcfemenaadoor", sum := "32429d8485c0f25288af0917900b0661cf1295fb059d1683a87ec4ef24f18a6a", func := "bellwether/bellwetherlaw03.RingNearer", spec := "ringNearer", named := ["bellwether/ring.topicKeys", "bellwether/ring.nodeKeys"], apart := false, laid := [("bellwether/ring.nodeKeys", laid_bellwether_ring_nodeKeys), ("bellwether/ring.topicKeys", laid_bellwether_ring_topicKeys)], narrowed := true }
def RingNearerUptoSaid : Prop := ringNearerUptoRow.holds Tryd.pinned (OpenSpec.upto ringNearerSpec)

/-- 'bellwetherlaw03.RingGaps', WHERE WHAT IT READS IS OF BULK AT MOST 1048576: true; the input reads as it did. -/
def ringGapsUptoRow : OpenClaim := { program := "yteldgklcfemenaadoor", sum := "32429d8485c0f25288af0917900b0661cf1295fb059d1683a87ec4ef24f18a6a", func := "bellwether/bellwetherlaw03.RingGaps", spec := "ringGaps", named := ["bellwether/ring.topicKeys", "bellwether/ring.nodeKeys"], apart := false, laid := [("bellwether/ring.nodeKeys", laid_bellwether_ring_nodeKeys), ("bellwether/ring.topicKeys", laid_bellwether_ring_topicKeys)], narrowed := true }
def RingGapsUptoSaid : Prop := ringGapsUptoRow.holds Tryd.pinned (OpenSpec.upto ringGapsSpec)

/-- 'bellwetherlaw03.RingOwners', WHERE WHAT IT READS IS OF BULK AT MOST 1048576: true; the input reads as it did. -/
def ringOwnersUptoRow : OpenClaim := { program := "yteldgklcfemenaadoor", sum := "32429d8485c0f25288af0917900b0661cf1295fb059d1683a87ec4ef24f18a6a", func := "bellwether/bellwetherlaw03.RingOwners", spec := "ringOwners", named := ["bellwether/ring.topicKeys", "bellwether/ring.nodeKeys"], apart := false, laid := [("bellwether/ring.nodeKeys", laid_bellwether_ring_nodeKeys), ("bellwether/ring.topicKeys", laid_bellwether_ring_topicKeys)], narrowed := true }
def RingOwnersUptoSaid : Prop := ringOwnersUptoRow.holds Tryd.pinned (OpenSpec.upto ringOwnersSpec)

end Rows
end Go.Proofs.YteldgklcfemenaaDoor
