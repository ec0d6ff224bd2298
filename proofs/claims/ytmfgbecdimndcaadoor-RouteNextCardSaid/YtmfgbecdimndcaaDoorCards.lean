/-
  DERIVED. GIVEN WITH THE SEED: THE CARDS: each row of YtmfgbecdimndcaaDoorRows.lean that lists a variable, with what it lists TIED to the program's text (the seventh form; the later family's looks); each row that meets fmt, with fmt's text TOLD by the authors' own Lean function (tested against real Go, not proved from fmt's source: count such statements apart). THE CARD IS WHAT COUNTS. Prove the row's statement (the work); the ties are given (YtmfgbecdimndcaaDoorTie.lean); close each card by the builder's one call (the guide's Derived/Test/ToyasCard.lean, 'card_holds'). Laid BY PROGRAM, IN A SANDBOX (cutbox-door.mjs). By AI agents, Wed Nov 11 2026. No macro, syntax, notation, axiom, sorry.
-/
import Derived.Test.YtmfgbecdimndcaaDoorRows
import GoSem.ClaimSeven
namespace Go.Proofs.YtmfgbecdimndcaaDoor
namespace Rows

/-- THE TIED CARD OF 'bellwetherlaw11.RouteExact'. -/
def routeExactCard : Claim7 := { stood := { row := routeExactRow, standIns := [], harness := (true, "9d29185e891d15581c0f0dac91b29f4e81e5eb7cc9cdb30028c602d8114f90a3"), looks := false }, kinds := [], alts := [], laidByText := true, laidKinds := [.data, .data], laidTests := true, laidLooks := .later }
def RouteExactCardSaid : Prop := Claim7.holds Tryd.pinned (.plain (OpenSpec.ofChange routeExactSpec)) routeExactCard

/-- THE TIED CARD OF 'bellwetherlaw11.RouteWay'. -/
def routeWayCard : Claim7 := { stood := { row := routeWayRow, standIns := [], harness := (true, "9d29185e891d15581c0f0dac91b29f4e81e5eb7cc9cdb30028c602d8114f90a3"), looks := false }, kinds := [], alts := [], laidByText := true, laidKinds := [.data, .data], laidTests := true, laidLooks := .later }
def RouteWayCardSaid : Prop := Claim7.holds Tryd.pinned (.plain (OpenSpec.ofChange routeWaySpec)) routeWayCard

/-- THE TIED CARD OF 'bellwetherlaw11.RouteKnows'. -/
def routeKnowsCard : Claim7 := { stood := { row := routeKnowsRow, standIns := [], harness := (true, "9d29185e891d15581c0f0dac91b29f4e81e5eb7cc9cdb30028c602d8114f90a3"), looks := false }, kinds := [], alts := [], laidByText := true, laidKinds := [.data, .data], laidTests := true, laidLooks := .later }
def RouteKnowsCardSaid : Prop := Claim7.holds Tryd.pinned (.plain (OpenSpec.ofChange routeKnowsSpec)) routeKnowsCard

/-- THE TIED CARD OF 'bellwetherlaw11.RouteNext'. -/
def routeNextCard : Claim7 := { stood := { row := routeNextRow, standIns := [], harness := (true, "9d29185e891d15581c0f0dac91b29f4e81e5eb7cc9cdb30028c602d8114f90a3"), looks := false }, kinds := [], alts := [], laidByText := true, laidKinds := [.data, .data], laidTests := true, laidLooks := .later }
def RouteNextCardSaid : Prop := Claim7.holds Tryd.pinned (.plain (OpenSpec.ofChange routeNextSpec)) routeNextCard

/-- THE TIED CARD OF 'bellwetherlaw11.RouteLess'. -/
def routeLessCard : Claim7 := { stood := { row := routeLessRow, standIns := [], harness := (true, "9d29185e891d15581c0f0dac91b29f4e81e5eb7cc9cdb30028c602d8114f90a3"), looks := false }, kinds := [], alts := [], laidByText := true, laidKinds := [.data, .data], laidTests := true, laidLooks := .later }
def RouteLessCardSaid : Prop := Claim7.holds Tryd.pinned (.plain (OpenSpec.ofChange routeLessSpec)) routeLessCard

/-- THE TIED CARD OF 'bellwetherlaw11.RouteSteps'. -/
def routeStepsCard : Claim7 := { stood := { row := routeStepsRow, standIns := [], harness := (true, "9d29185e891d15581c0f0dac91b29f4e81e5eb7cc9cdb30028c602d8114f90a3"), looks := false }, kinds := [], alts := [], laidByText := true, laidKinds := [.data, .data], laidTests := true, laidLooks := .later }
def RouteStepsCardSaid : Prop := Claim7.holds Tryd.pinned (.plain (OpenSpec.ofChange routeStepsSpec)) routeStepsCard

/-- THE SECOND FORM's CARD OF 'bellwetherlaw11.RouteExact'. -/
def routeExactUptoCard : Claim7 := { stood := { row := routeExactUptoRow, standIns := [], harness := (true, "9d29185e891d15581c0f0dac91b29f4e81e5eb7cc9cdb30028c602d8114f90a3"), looks := false }, kinds := [], alts := [], laidByText := true, laidKinds := [.data, .data], laidTests := true, laidLooks := .later }
def RouteExactUptoCardSaid : Prop := Claim7.holds Tryd.pinned (.plain (OpenSpec.upto routeExactSpec)) routeExactUptoCard

/-- THE SECOND FORM's CARD OF 'bellwetherlaw11.RouteWay'. -/
def routeWayUptoCard : Claim7 := { stood := { row := routeWayUptoRow, standIns := [], harness := (true, "9d29185e891d15581c0f0dac91b29f4e81e5eb7cc9cdb30028c602d8114f90a3"), looks := false }, kinds := [], alts := [], laidByText := true, laidKinds := [.data, .data], laidTests := true, laidLooks := .later }
def RouteWayUptoCardSaid : Prop := Claim7.holds Tryd.pinned (.plain (OpenSpec.upto routeWaySpec)) routeWayUptoCard

/-- THE SECOND FORM's CARD OF 'bellwetherlaw11.RouteKnows'. -/
def routeKnowsUptoCard : Claim7 := { stood := { row := routeKnowsUptoRow, standIns := [], harness := (true, "9d29185e891d15581c0f0dac91b29f4e81e5eb7cc9cdb30028c602d8114f90a3"), looks := false }, kinds := [], alts := [], laidByText := true, laidKinds := [.data, .data], laidTests := true, laidLooks := .later }
def RouteKnowsUptoCardSaid : Prop := Claim7.holds Tryd.pinned (.plain (OpenSpec.upto routeKnowsSpec)) routeKnowsUptoCard

/-- THE SECOND FORM's CARD OF 'bellwetherlaw11.RouteNext'. -/
def routeNextUptoCard : Claim7 := { stood := { row := routeNextUptoRow, standIns := [], harness := (true, "9d29185e891d15581c0f0dac91b29f4e81e5eb7cc9cdb30028c602d8114f90a3"), looks := false }, kinds := [], alts := [], laidByText := true, laidKinds := [.data, .data], laidTests := true, laidLooks := .later }
def RouteNextUptoCardSaid : Prop := Claim7.holds Tryd.pinned (.plain (OpenSpec.upto routeNextSpec)) routeNextUptoCard

/-- THE SECOND FORM's CARD OF 'bellwetherlaw11.RouteLess'. -/
def routeLessUptoCard : Claim7 := { stood := { row := routeLessUptoRow, standIns := [], harness := (true, "9d29185e891d15581c0f0dac91b29f4e81e5eb7cc9cdb30028c602d8114f90a3"), looks := false }, kinds := [], alts := [], laidByText := true, laidKinds := [.data, .data], laidTests := true, laidLooks := .later }
def RouteLessUptoCardSaid : Prop := Claim7.holds Tryd.pinned (.plain (OpenSpec.upto routeLessSpec)) routeLessUptoCard

/-- THE SECOND FORM's CARD OF 'bellwetherlaw11.RouteSteps'. -/
def routeStepsUptoCard : Claim7 := { stood := { row := routeStepsUptoRow, standIns := [], harness := (true, "9d29185e891d15581c0f0dac91b29f4e81e5eb7cc9cdb30028c602d8114f90a3"), looks := false }, kinds := [], alts := [], laidByText := true, laidKinds := [.data, .data], laidTests := true, laidLooks := .later }
def RouteStepsUptoCardSaid : Prop := Claim7.holds Tryd.pinned (.plain (OpenSpec.upto routeStepsSpec)) routeStepsUptoCard
end Rows
end Go.Proofs.YtmfgbecdimndcaaDoor
