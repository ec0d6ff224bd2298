/-
  DERIVED. GIVEN WITH THE SEED: THE CARDS: each row of YteldgklcfemenaaDoorRows.lean that lists a variable, with what it lists TIED to the program's text (the seventh form; the later family's looks); each row that meets fmt, with fmt's text TOLD by the authors' own Lean function (tested against real Go, not proved from fmt's source: count such statements apart). THE CARD IS WHAT COUNTS. Prove the row's statement (the work); the ties are given (YteldgklcfemenaaDoorTie.lean); close each card by the builder's one call (the guide's Derived/Test/ToyasCard.lean, 'card_holds'). Laid BY PROGRAM, IN A SANDBOX (cutbox-door.mjs). By AI agents, Wed Nov 11 2026. No macro, syntax, notation, axiom, sorry.
-/
import Derived.Test.YteldgklcfemenaaDoorRows
import GoSem.ClaimSeven
namespace Go.Proofs.YteldgklcfemenaaDoor
namespace Rows

/-- THE TIED CARD OF 'bellwetherlaw03.RingExact'. -/
def ringExactCard : Claim7 := { stood := { row := ringExactRow, standIns := [], harness := (true, "106114d438be7490a5df5c6bc7231486b10c583532643d015cacf7947ddaf704"), looks := false }, kinds := [], alts := [], laidByText := true, laidKinds := [.data, .data], laidTests := true, laidLooks := .later }
def RingExactCardSaid : Prop := Claim7.holds Tryd.pinned (.plain (OpenSpec.ofChange ringExactSpec)) ringExactCard

/-- THE TIED CARD OF 'bellwetherlaw03.RingTable'. -/
def ringTableCard : Claim7 := { stood := { row := ringTableRow, standIns := [], harness := (true, "106114d438be7490a5df5c6bc7231486b10c583532643d015cacf7947ddaf704"), looks := false }, kinds := [], alts := [], laidByText := true, laidKinds := [.data, .data, .data, .data], laidTests := true, laidLooks := .later }
def RingTableCardSaid : Prop := Claim7.holds Tryd.pinned (.plain (OpenSpec.ofChange ringTableSpec)) ringTableCard

/-- THE TIED CARD OF 'bellwetherlaw03.RingNearer'. -/
def ringNearerCard : Claim7 := { stood := { row := ringNearerRow, standIns := [], harness := (true, "106114d438be7490a5df5c6bc7231486b10c583532643d015cacf7947ddaf704"), looks := false }, kinds := [], alts := [], laidByText := true, laidKinds := [.data, .data], laidTests := true, laidLooks := .later }
def RingNearerCardSaid : Prop := Claim7.holds Tryd.pinned (.plain (OpenSpec.ofChange ringNearerSpec)) ringNearerCard

/-- THE TIED CARD OF 'bellwetherlaw03.RingGaps'. -/
def ringGapsCard : Claim7 := { stood := { row := ringGapsRow, standIns := [], harness := (true, "106114d438be7490a5df5c6bc7231486b10c583532643d015cacf7947ddaf704"), looks := false }, kinds := [], alts := [], laidByText := true, laidKinds := [.data, .data], laidTests := true, laidLooks := .later }
def RingGapsCardSaid : Prop := Claim7.holds Tryd.pinned (.plain (OpenSpec.ofChange ringGapsSpec)) ringGapsCard

/-- THE TIED CARD OF 'bellwetherlaw03.RingOwners'. -/
def ringOwnersCard : Claim7 := { stood := { row := ringOwnersRow, standIns := [], harness := (true, "106114d438be7490a5df5c6bc7231486b10c583532643d015cacf7947ddaf704"), looks := false }, kinds := [], alts := [], laidByText := true, laidKinds := [.data, .data], laidTests := true, laidLooks := .later }
def RingOwnersCardSaid : Prop := Claim7.holds Tryd.pinned (.plain (OpenSpec.ofChange ringOwnersSpec)) ringOwnersCard

/-- THE SECOND FORM's CARD OF 'bellwetherlaw03.RingExact'. -/
def ringExactUptoCard : Claim7 := { stood := { row := ringExactUptoRow, standIns := [], harness := (true, "106114d438be7490a5df5c6bc7231486b10c583532643d015cacf7947ddaf704"), looks := false }, kinds := [], alts := [], laidByText := true, laidKinds := [.data, .data], laidTests := true, laidLooks := .later }
def RingExactUptoCardSaid : Prop := Claim7.holds Tryd.pinned (.plain (OpenSpec.upto ringExactSpec)) ringExactUptoCard

/-- THE SECOND FORM's CARD OF 'bellwetherlaw03.RingTable'. -/
def ringTableUptoCard : Claim7 := { stood := { row := ringTableUptoRow, standIns := [], harness := (true, "106114d438be7490a5df5c6bc7231486b10c583532643d015cacf7947ddaf704"), looks := false }, kinds := [], alts := [], laidByText := true, laidKinds := [.data, .data, .data, .data], laidTests := true, laidLooks := .later }
def RingTableUptoCardSaid : Prop := Claim7.holds Tryd.pinned (.plain (OpenSpec.upto ringTableSpec)) ringTableUptoCard

/-- THE SECOND FORM's CARD OF 'bellwetherlaw03.RingNearer'. -/
def ringNearerUptoCard : Claim7 := { stood := { row := ringNearerUptoRow, standIns := [], harness := (true, "106114d438be7490a5df5c6bc7231486b10c583532643d015cacf7947ddaf704"), looks := false }, kinds := [], alts := [], laidByText := true, laidKinds := [.data, .data], laidTests := true, laidLooks := .later }
def RingNearerUptoCardSaid : Prop := Claim7.holds Tryd.pinned (.plain (OpenSpec.upto ringNearerSpec)) ringNearerUptoCard

/-- THE SECOND FORM's CARD OF 'bellwetherlaw03.RingGaps'. -/
def ringGapsUptoCard : Claim7 := { stood := { row := ringGapsUptoRow, standIns := [], harness := (true, "106114d438be7490a5df5c6bc7231486b10c583532643d015cacf7947ddaf704"), looks := false }, kinds := [], alts := [], laidByText := true, laidKinds := [.data, .data], laidTests := true, laidLooks := .later }
def RingGapsUptoCardSaid : Prop := Claim7.holds Tryd.pinned (.plain (OpenSpec.upto ringGapsSpec)) ringGapsUptoCard

/-- THE SECOND FORM's CARD OF 'bellwetherlaw03.RingOwners'. -/
def ringOwnersUptoCard : Claim7 := { stood := { row := ringOwnersUptoRow, standIns := [], harness := (true, "106114d438be7490a5df5c6bc7231486b10c583532643d015cacf7947ddaf704"), looks := false }, kinds := [], alts := [], laidByText := true, laidKinds := [.data, .data], laidTests := true, laidLooks := .later }
def RingOwnersUptoCardSaid : Prop := Claim7.holds Tryd.pinned (.plain (OpenSpec.upto ringOwnersSpec)) ringOwnersUptoCard
end Rows
end Go.Proofs.YteldgklcfemenaaDoor
