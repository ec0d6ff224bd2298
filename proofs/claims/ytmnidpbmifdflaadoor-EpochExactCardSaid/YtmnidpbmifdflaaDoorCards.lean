/-
  DERIVED. GIVEN WITH THE SEED: THE CARDS: each row of YtmnidpbmifdflaaDoorRows.lean that lists a variable, with what it lists TIED to the program's text (the seventh form; the later family's looks); each row that meets fmt, with fmt's text TOLD by the authors' own Lean function (tested against real Go, not proved from fmt's source: count such statements apart). THE CARD IS WHAT COUNTS. Prove the row's statement (the work); the ties are given (YtmnidpbmifdflaaDoorTie.lean); close each card by the builder's one call (the guide's Derived/Test/ToyasCard.lean, 'card_holds'). Laid BY PROGRAM, IN A SANDBOX (cutbox-door.mjs). By AI agents, Wed Nov 11 2026. No macro, syntax, notation, axiom, sorry.
-/
import Derived.Test.YtmnidpbmifdflaaDoorRows
import GoSem.ClaimSeven
namespace Go.Proofs.YtmnidpbmifdflaaDoor
namespace Rows

/-- THE TIED CARD OF 'bellwetherlaw14.EpochExact'. -/
def epochExactCard : Claim7 := { stood := { row := epochExactRow, standIns := [], harness := (true, "ed10464ffe4d4a976cdd64dc6a5b7fd667bdd07fdf26761d5fd3e6f69a54ccfe"), looks := false }, kinds := [], alts := [], laidByText := true, laidKinds := [.data], laidTests := true, laidLooks := .later }
def EpochExactCardSaid : Prop := Claim7.holds Tryd.pinned (.plain (OpenSpec.ofChange epochExactSpec)) epochExactCard

/-- THE TIED CARD OF 'bellwetherlaw14.EpochOnce'. -/
def epochOnceCard : Claim7 := { stood := { row := epochOnceRow, standIns := [], harness := (true, "ed10464ffe4d4a976cdd64dc6a5b7fd667bdd07fdf26761d5fd3e6f69a54ccfe"), looks := false }, kinds := [], alts := [], laidByText := true, laidKinds := [.data], laidTests := true, laidLooks := .later }
def EpochOnceCardSaid : Prop := Claim7.holds Tryd.pinned (.plain (OpenSpec.ofChange epochOnceSpec)) epochOnceCard

/-- THE TIED CARD OF 'bellwetherlaw14.EpochTurns'. -/
def epochTurnsCard : Claim7 := { stood := { row := epochTurnsRow, standIns := [], harness := (true, "ed10464ffe4d4a976cdd64dc6a5b7fd667bdd07fdf26761d5fd3e6f69a54ccfe"), looks := false }, kinds := [], alts := [], laidByText := true, laidKinds := [.data], laidTests := true, laidLooks := .later }
def EpochTurnsCardSaid : Prop := Claim7.holds Tryd.pinned (.plain (OpenSpec.ofChange epochTurnsSpec)) epochTurnsCard

/-- THE SECOND FORM's CARD OF 'bellwetherlaw14.EpochExact'. -/
def epochExactUptoCard : Claim7 := { stood := { row := epochExactUptoRow, standIns := [], harness := (true, "ed10464ffe4d4a976cdd64dc6a5b7fd667bdd07fdf26761d5fd3e6f69a54ccfe"), looks := false }, kinds := [], alts := [], laidByText := true, laidKinds := [.data], laidTests := true, laidLooks := .later }
def EpochExactUptoCardSaid : Prop := Claim7.holds Tryd.pinned (.plain (OpenSpec.upto epochExactSpec)) epochExactUptoCard

/-- THE SECOND FORM's CARD OF 'bellwetherlaw14.EpochOnce'. -/
def epochOnceUptoCard : Claim7 := { stood := { row := epochOnceUptoRow, standIns := [], harness := (true, "ed10464ffe4d4a976cdd64dc6a5b7fd667bdd07fdf26761d5fd3e6f69a54ccfe"), looks := false }, kinds := [], alts := [], laidByText := true, laidKinds := [.data], laidTests := true, laidLooks := .later }
def EpochOnceUptoCardSaid : Prop := Claim7.holds Tryd.pinned (.plain (OpenSpec.upto epochOnceSpec)) epochOnceUptoCard

/-- THE SECOND FORM's CARD OF 'bellwetherlaw14.EpochTurns'. -/
def epochTurnsUptoCard : Claim7 := { stood := { row := epochTurnsUptoRow, standIns := [], harness := (true, "ed10464ffe4d4a976cdd64dc6a5b7fd667bdd07fdf26761d5fd3e6f69a54ccfe"), looks := false }, kinds := [], alts := [], laidByText := true, laidKinds := [.data], laidTests := true, laidLooks := .later }
def EpochTurnsUptoCardSaid : Prop := Claim7.holds Tryd.pinned (.plain (OpenSpec.upto epochTurnsSpec)) epochTurnsUptoCard
end Rows
end Go.Proofs.YtmnidpbmifdflaaDoor
