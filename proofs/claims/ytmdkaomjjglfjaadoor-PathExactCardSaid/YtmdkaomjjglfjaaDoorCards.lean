/-
  DERIVED. GIVEN WITH THE SEED: THE CARDS: each row of YtmdkaomjjglfjaaDoorRows.lean that lists a variable, with what it lists TIED to the program's text (the seventh form; the later family's looks); each row that meets fmt, with fmt's text TOLD by the authors' own Lean function (tested against real Go, not proved from fmt's source: count such statements apart). THE CARD IS WHAT COUNTS. Prove the row's statement (the work); the ties are given (YtmdkaomjjglfjaaDoorTie.lean); close each card by the builder's one call (the guide's Derived/Test/ToyasCard.lean, 'card_holds'). Laid BY PROGRAM, IN A SANDBOX (cutbox-door.mjs). By AI agents, Wed Nov 11 2026. No macro, syntax, notation, axiom, sorry.
-/
import Derived.Test.YtmdkaomjjglfjaaDoorRows
import GoSem.ClaimSeven
namespace Go.Proofs.YtmdkaomjjglfjaaDoor
namespace Rows

/-- THE TIED CARD OF 'bellwetherlaw12.PathExact'. -/
def pathExactCard : Claim7 := { stood := { row := pathExactRow, standIns := [], harness := (true, "d3e0493527b8b7ae79934e74f4ea3d7734926da1b1a1b4c4ae35bc216840b924"), looks := false }, kinds := [], alts := [], laidByText := true, laidKinds := [.data, .data], laidTests := true, laidLooks := .later }
def PathExactCardSaid : Prop := Claim7.holds Tryd.pinned (.plain (OpenSpec.ofChange pathExactSpec)) pathExactCard

/-- THE TIED CARD OF 'bellwetherlaw12.PathWhole'. -/
def pathWholeCard : Claim7 := { stood := { row := pathWholeRow, standIns := [], harness := (true, "d3e0493527b8b7ae79934e74f4ea3d7734926da1b1a1b4c4ae35bc216840b924"), looks := false }, kinds := [], alts := [], laidByText := true, laidKinds := [.data, .data], laidTests := true, laidLooks := .later }
def PathWholeCardSaid : Prop := Claim7.holds Tryd.pinned (.plain (OpenSpec.ofChange pathWholeSpec)) pathWholeCard

/-- THE TIED CARD OF 'bellwetherlaw12.PathRoute'. -/
def pathRouteCard : Claim7 := { stood := { row := pathRouteRow, standIns := [], harness := (true, "d3e0493527b8b7ae79934e74f4ea3d7734926da1b1a1b4c4ae35bc216840b924"), looks := false }, kinds := [], alts := [], laidByText := true, laidKinds := [.data, .data], laidTests := true, laidLooks := .later }
def PathRouteCardSaid : Prop := Claim7.holds Tryd.pinned (.plain (OpenSpec.ofChange pathRouteSpec)) pathRouteCard

/-- THE SECOND FORM's CARD OF 'bellwetherlaw12.PathExact'. -/
def pathExactUptoCard : Claim7 := { stood := { row := pathExactUptoRow, standIns := [], harness := (true, "d3e0493527b8b7ae79934e74f4ea3d7734926da1b1a1b4c4ae35bc216840b924"), looks := false }, kinds := [], alts := [], laidByText := true, laidKinds := [.data, .data], laidTests := true, laidLooks := .later }
def PathExactUptoCardSaid : Prop := Claim7.holds Tryd.pinned (.plain (OpenSpec.upto pathExactSpec)) pathExactUptoCard

/-- THE SECOND FORM's CARD OF 'bellwetherlaw12.PathWhole'. -/
def pathWholeUptoCard : Claim7 := { stood := { row := pathWholeUptoRow, standIns := [], harness := (true, "d3e0493527b8b7ae79934e74f4ea3d7734926da1b1a1b4c4ae35bc216840b924"), looks := false }, kinds := [], alts := [], laidByText := true, laidKinds := [.data, .data], laidTests := true, laidLooks := .later }
def PathWholeUptoCardSaid : Prop := Claim7.holds Tryd.pinned (.plain (OpenSpec.upto pathWholeSpec)) pathWholeUptoCard

/-- THE SECOND FORM's CARD OF 'bellwetherlaw12.PathRoute'. -/
def pathRouteUptoCard : Claim7 := { stood := { row := pathRouteUptoRow, standIns := [], harness := (true, "d3e0493527b8b7ae79934e74f4ea3d7734926da1b1a1b4c4ae35bc216840b924"), looks := false }, kinds := [], alts := [], laidByText := true, laidKinds := [.data, .data], laidTests := true, laidLooks := .later }
def PathRouteUptoCardSaid : Prop := Claim7.holds Tryd.pinned (.plain (OpenSpec.upto pathRouteSpec)) pathRouteUptoCard
end Rows
end Go.Proofs.YtmdkaomjjglfjaaDoor
