/-
  DERIVED. GIVEN WITH THE SEED: THE CARDS: each row of YtgglnhnokhpnpaaDoorRows.lean that lists a variable, with what it lists TIED to the program's text (the seventh form; the later family's looks); each row that meets fmt, with fmt's text TOLD by the authors' own Lean function (tested against real Go, not proved from fmt's source: count such statements apart). THE CARD IS WHAT COUNTS. Prove the row's statement (the work); the ties are given (YtgglnhnokhpnpaaDoorTie.lean); close each card by the builder's one call (the guide's Derived/Test/ToyasCard.lean, 'card_holds'). Laid BY PROGRAM, IN A SANDBOX (cutbox-door.mjs). By AI agents, Wed Nov 11 2026. No macro, syntax, notation, axiom, sorry.
-/
import Derived.Test.YtgglnhnokhpnpaaDoorRows
import GoSem.ClaimSeven
namespace Go.Proofs.YtgglnhnokhpnpaaDoor
namespace Rows

/-- THE TIED CARD OF 'bellwetherlaw13.KidsExact'. -/
def kidsExactCard : Claim7 := { stood := { row := kidsExactRow, standIns := [], harness := (true, "3b3eb79331820c119a7223f1a0fba124fa78a88135b727072cba91b2b44a4481"), looks := false }, kinds := [], alts := [], laidByText := true, laidKinds := [.data, .data], laidTests := true, laidLooks := .later }
def KidsExactCardSaid : Prop := Claim7.holds Tryd.pinned (.plain (OpenSpec.ofChange kidsExactSpec)) kidsExactCard

/-- THE TIED CARD OF 'bellwetherlaw13.KidsCap'. -/
def kidsCapCard : Claim7 := { stood := { row := kidsCapRow, standIns := [], harness := (true, "3b3eb79331820c119a7223f1a0fba124fa78a88135b727072cba91b2b44a4481"), looks := false }, kinds := [], alts := [], laidByText := true, laidKinds := [.data, .data], laidTests := true, laidLooks := .later }
def KidsCapCardSaid : Prop := Claim7.holds Tryd.pinned (.plain (OpenSpec.ofChange kidsCapSpec)) kidsCapCard

/-- THE TIED CARD OF 'bellwetherlaw13.KidsAge'. -/
def kidsAgeCard : Claim7 := { stood := { row := kidsAgeRow, standIns := [], harness := (true, "3b3eb79331820c119a7223f1a0fba124fa78a88135b727072cba91b2b44a4481"), looks := false }, kinds := [], alts := [], laidByText := true, laidKinds := [.data, .data], laidTests := true, laidLooks := .later }
def KidsAgeCardSaid : Prop := Claim7.holds Tryd.pinned (.plain (OpenSpec.ofChange kidsAgeSpec)) kidsAgeCard

/-- THE TIED CARD OF 'bellwetherlaw13.KidsDrop'. -/
def kidsDropCard : Claim7 := { stood := { row := kidsDropRow, standIns := [], harness := (true, "3b3eb79331820c119a7223f1a0fba124fa78a88135b727072cba91b2b44a4481"), looks := false }, kinds := [], alts := [], laidByText := true, laidKinds := [.data, .data], laidTests := true, laidLooks := .later }
def KidsDropCardSaid : Prop := Claim7.holds Tryd.pinned (.plain (OpenSpec.ofChange kidsDropSpec)) kidsDropCard

/-- THE TIED CARD OF 'bellwetherlaw13.KidsOrder'. -/
def kidsOrderCard : Claim7 := { stood := { row := kidsOrderRow, standIns := [], harness := (true, "3b3eb79331820c119a7223f1a0fba124fa78a88135b727072cba91b2b44a4481"), looks := false }, kinds := [], alts := [], laidByText := true, laidKinds := [.data, .data], laidTests := true, laidLooks := .later }
def KidsOrderCardSaid : Prop := Claim7.holds Tryd.pinned (.plain (OpenSpec.ofChange kidsOrderSpec)) kidsOrderCard

/-- THE TIED CARD OF 'bellwetherlaw13.KidsSent'. -/
def kidsSentCard : Claim7 := { stood := { row := kidsSentRow, standIns := [], harness := (true, "3b3eb79331820c119a7223f1a0fba124fa78a88135b727072cba91b2b44a4481"), looks := false }, kinds := [], alts := [], laidByText := true, laidKinds := [.data, .data], laidTests := true, laidLooks := .later }
def KidsSentCardSaid : Prop := Claim7.holds Tryd.pinned (.plain (OpenSpec.ofChange kidsSentSpec)) kidsSentCard

/-- THE SECOND FORM's CARD OF 'bellwetherlaw13.KidsExact'. -/
def kidsExactUptoCard : Claim7 := { stood := { row := kidsExactUptoRow, standIns := [], harness := (true, "3b3eb79331820c119a7223f1a0fba124fa78a88135b727072cba91b2b44a4481"), looks := false }, kinds := [], alts := [], laidByText := true, laidKinds := [.data, .data], laidTests := true, laidLooks := .later }
def KidsExactUptoCardSaid : Prop := Claim7.holds Tryd.pinned (.plain (OpenSpec.upto kidsExactSpec)) kidsExactUptoCard

/-- THE SECOND FORM's CARD OF 'bellwetherlaw13.KidsCap'. -/
def kidsCapUptoCard : Claim7 := { stood := { row := kidsCapUptoRow, standIns := [], harness := (true, "3b3eb79331820c119a7223f1a0fba124fa78a88135b727072cba91b2b44a4481"), looks := false }, kinds := [], alts := [], laidByText := true, laidKinds := [.data, .data], laidTests := true, laidLooks := .later }
def KidsCapUptoCardSaid : Prop := Claim7.holds Tryd.pinned (.plain (OpenSpec.upto kidsCapSpec)) kidsCapUptoCard

/-- THE SECOND FORM's CARD OF 'bellwetherlaw13.KidsAge'. -/
def kidsAgeUptoCard : Claim7 := { stood := { row := kidsAgeUptoRow, standIns := [], harness := (true, "3b3eb79331820c119a7223f1a0fba124fa78a88135b727072cba91b2b44a4481"), looks := false }, kinds := [], alts := [], laidByText := true, laidKinds := [.data, .data], laidTests := true, laidLooks := .later }
def KidsAgeUptoCardSaid : Prop := Claim7.holds Tryd.pinned (.plain (OpenSpec.upto kidsAgeSpec)) kidsAgeUptoCard

/-- THE SECOND FORM's CARD OF 'bellwetherlaw13.KidsDrop'. -/
def kidsDropUptoCard : Claim7 := { stood := { row := kidsDropUptoRow, standIns := [], harness := (true, "3b3eb79331820c119a7223f1a0fba124fa78a88135b727072cba91b2b44a4481"), looks := false }, kinds := [], alts := [], laidByText := true, laidKinds := [.data, .data], laidTests := true, laidLooks := .later }
def KidsDropUptoCardSaid : Prop := Claim7.holds Tryd.pinned (.plain (OpenSpec.upto kidsDropSpec)) kidsDropUptoCard

/-- THE SECOND FORM's CARD OF 'bellwetherlaw13.KidsOrder'. -/
def kidsOrderUptoCard : Claim7 := { stood := { row := kidsOrderUptoRow, standIns := [], harness := (true, "3b3eb79331820c119a7223f1a0fba124fa78a88135b727072cba91b2b44a4481"), looks := false }, kinds := [], alts := [], laidByText := true, laidKinds := [.data, .data], laidTests := true, laidLooks := .later }
def KidsOrderUptoCardSaid : Prop := Claim7.holds Tryd.pinned (.plain (OpenSpec.upto kidsOrderSpec)) kidsOrderUptoCard

/-- THE SECOND FORM's CARD OF 'bellwetherlaw13.KidsSent'. -/
def kidsSentUptoCard : Claim7 := { stood := { row := kidsSentUptoRow, standIns := [], harness := (true, "3b3eb79331820c119a7223f1a0fba124fa78a88135b727072cba91b2b44a4481"), looks := false }, kinds := [], alts := [], laidByText := true, laidKinds := [.data, .data], laidTests := true, laidLooks := .later }
def KidsSentUptoCardSaid : Prop := Claim7.holds Tryd.pinned (.plain (OpenSpec.upto kidsSentSpec)) kidsSentUptoCard
end Rows
end Go.Proofs.YtgglnhnokhpnpaaDoor
