/-
  DERIVED. GIVEN WITH THE SEED: THE CARDS: each row of YtimgggpojbpfkaaGreatDoorRows.lean that lists a variable, with what it lists TIED to the program's text (the seventh form; the later family's looks); each row that meets fmt, with fmt's text TOLD by the authors' own Lean function (tested against real Go, not proved from fmt's source: count such statements apart). THE CARD IS WHAT COUNTS. Prove the row's statement (the work); the ties are given (YtimgggpojbpfkaaGreatDoorTie.lean); close each card by the builder's one call (the guide's Derived/Test/ToyasCard.lean, 'card_holds'). Laid BY PROGRAM, IN A SANDBOX (cutbox-door.mjs). By AI agents, Wed Nov 11 2026. No macro, syntax, notation, axiom, sorry.
-/
import Derived.Test.YtimgggpojbpfkaaGreatDoorRows
import GoSem.ClaimSeven
namespace Go.Proofs.YtimgggpojbpfkaaGreatDoor
namespace Rows

/-- THE TIED CARD OF 'palfreylaw12.AlgoTurned'. -/
def algoTurnedCard : Claim7 := { stood := { row := algoTurnedRow, standIns := [], harness := (true, "de57c7ff94ecc3163df27d28d89150fa36b94fd199572ae8b63b260340328f73"), looks := false }, kinds := [], alts := [], laidByText := true, laidKinds := [.data], laidTests := true, laidLooks := .later }
def AlgoTurnedCardSaid : Prop := Claim7.holds Tryz.pinned (.plain (OpenSpec.ofChange algoTurnedSpec)) algoTurnedCard

/-- THE SECOND FORM's CARD OF 'palfreylaw12.AlgoTurned'. -/
def algoTurnedUptoCard : Claim7 := { stood := { row := algoTurnedUptoRow, standIns := [], harness := (true, "de57c7ff94ecc3163df27d28d89150fa36b94fd199572ae8b63b260340328f73"), looks := false }, kinds := [], alts := [], laidByText := true, laidKinds := [.data], laidTests := true, laidLooks := .later }
def AlgoTurnedUptoCardSaid : Prop := Claim7.holds Tryz.pinned (.plain (OpenSpec.upto algoTurnedSpec)) algoTurnedUptoCard
end Rows
end Go.Proofs.YtimgggpojbpfkaaGreatDoor
