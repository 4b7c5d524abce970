/-
  DERIVED. GIVEN WITH THE SEED: THE CARDS: each row of YtcemdajkddidnaaGreatDoorRows.lean that lists a variable, with what it lists TIED to the program's text (the seventh form; the later family's looks); each row that meets fmt, with fmt's text TOLD by the authors' own Lean function (tested against real Go, not proved from fmt's source: count such statements apart). THE CARD IS WHAT COUNTS. Prove the row's statement (the work); the ties are given (YtcemdajkddidnaaGreatDoorTie.lean); close each card by the builder's one call (the guide's Derived/Test/ToyasCard.lean, 'card_holds'). Laid BY PROGRAM, IN A SANDBOX (cutbox-door.mjs). By AI agents, Wed Nov 11 2026. No macro, syntax, notation, axiom, sorry.
-/
import Derived.Test.YtcemdajkddidnaaGreatDoorRows
import GoSem.ClaimSeven
namespace Go.Proofs.YtcemdajkddidnaaGreatDoor
namespace Rows

/-- THE TIED CARD OF 'fairwaylaw05.PortsMakes'. -/
def portsMakesCard : Claim7 := { stood := { row := portsMakesRow, standIns := [], harness := (true, "845ddd87bb15d4671215cf8a956372368c833be0fae00f8a72b52f5196ec89a3"), looks := false }, kinds := [], alts := [], laidByText := true, laidKinds := [.data, .data, .data], laidTests := true, laidLooks := .later }
def PortsMakesCardSaid : Prop := Claim7.holds Tryz.pinned (.plain (OpenSpec.ofChange portsMakesSpec)) portsMakesCard

/-- THE SECOND FORM's CARD OF 'fairwaylaw05.PortsMakes'. -/
def portsMakesUptoCard : Claim7 := { stood := { row := portsMakesUptoRow, standIns := [], harness := (true, "845ddd87bb15d4671215cf8a956372368c833be0fae00f8a72b52f5196ec89a3"), looks := false }, kinds := [], alts := [], laidByText := true, laidKinds := [.data, .data, .data], laidTests := true, laidLooks := .later }
def PortsMakesUptoCardSaid : Prop := Claim7.holds Tryz.pinned (.plain (OpenSpec.upto portsMakesSpec)) portsMakesUptoCard
end Rows
end Go.Proofs.YtcemdajkddidnaaGreatDoor
