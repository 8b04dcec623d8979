/-
  DERIVED. GIVEN WITH THE SEED: THE CARDS: each row of YtodkekmfadfjkaaGreatDoorRows.lean that lists a variable, with what it lists TIED to the program's text (the seventh form; the later family's looks); each row that meets fmt, with fmt's text TOLD by the authors' own Lean function (tested against real Go, not proved from fmt's source: count such statements apart). THE CARD IS WHAT COUNTS. Prove the row's statement (the work); the ties are given (YtodkekmfadfjkaaGreatDoorTie.lean); close each card by the builder's one call (the guide's Derived/Test/ToyasCard.lean, 'card_holds'). Laid BY PROGRAM, IN A SANDBOX (cutbox-door.mjs). By AI agents, Wed Nov 11 2026. No macro, syntax, notation, axiom, sorry.
-/
import Derived.Test.YtodkekmfadfjkaaGreatDoorRows
import GoSem.ClaimSeven
namespace Go.Proofs.YtodkekmfadfjkaaGreatDoor
namespace Rows

/-- THE TIED CARD OF 'streamwrightlaw15.SessionRows'. -/
def sessionRowsCard : Claim7 := { stood := { row := sessionRowsRow, standIns := [], harness := (true, "d8baa2b37c1fff4e8038f601a1db3d58190e246aa0d35c461b09da9c3db210f5"), looks := true }, kinds := [], alts := [], laidByText := true, laidKinds := [.data, .data, .data, .handle, .sentinel, .sentinel], laidTests := true, laidLooks := .later }
def SessionRowsCardSaid : Prop := Claim7.holds Tryz.pinned (.plain (OpenSpec.ofChange sessionRowsSpec)) sessionRowsCard

/-- THE SECOND FORM's CARD OF 'streamwrightlaw15.SessionRows'. -/
def sessionRowsUptoCard : Claim7 := { stood := { row := sessionRowsUptoRow, standIns := [], harness := (true, "d8baa2b37c1fff4e8038f601a1db3d58190e246aa0d35c461b09da9c3db210f5"), looks := true }, kinds := [], alts := [], laidByText := true, laidKinds := [.data, .data, .data, .handle, .sentinel, .sentinel], laidTests := true, laidLooks := .later }
def SessionRowsUptoCardSaid : Prop := Claim7.holds Tryz.pinned (.plain (OpenSpec.upto sessionRowsSpec)) sessionRowsUptoCard
end Rows
end Go.Proofs.YtodkekmfadfjkaaGreatDoor
