/-
  DERIVED. GIVEN WITH THE SEED: THE CARDS: each row of YtplaplhmjpfbjaaGreatDoorRows.lean that lists a variable, with what it lists TIED to the program's text (the seventh form; the later family's looks); each row that meets fmt, with fmt's text TOLD by the authors' own Lean function (tested against real Go, not proved from fmt's source: count such statements apart). THE CARD IS WHAT COUNTS. Prove the row's statement (the work); the ties are given (YtplaplhmjpfbjaaGreatDoorTie.lean); close each card by the builder's one call (the guide's Derived/Test/ToyasCard.lean, 'card_holds'). Laid BY PROGRAM, IN A SANDBOX (cutbox-door.mjs). By AI agents, Wed Nov 11 2026. No macro, syntax, notation, axiom, sorry.
-/
import Derived.Test.YtplaplhmjpfbjaaGreatDoorRows
import GoSem.ClaimSeven
namespace Go.Proofs.YtplaplhmjpfbjaaGreatDoor
namespace Rows

/-- THE TIED CARD OF 'streamwrightlaw8.OpOuts'. -/
def opOutsCard : Claim7 := { stood := { row := opOutsRow, standIns := [], harness := (true, "505771157a2c914018ef01d2c9a8713aae77ab54b19b60fe373bf700ccdb00a0"), looks := true }, kinds := [], alts := [], laidByText := true, laidKinds := [.data, .data, .data, .handle, .sentinel, .sentinel], laidTests := true, laidLooks := .later }
def OpOutsCardSaid : Prop := Claim7.holds Tryz.pinned (.plain (OpenSpec.ofChange opOutsSpec)) opOutsCard

/-- THE SECOND FORM's CARD OF 'streamwrightlaw8.OpOuts'. -/
def opOutsUptoCard : Claim7 := { stood := { row := opOutsUptoRow, standIns := [], harness := (true, "505771157a2c914018ef01d2c9a8713aae77ab54b19b60fe373bf700ccdb00a0"), looks := true }, kinds := [], alts := [], laidByText := true, laidKinds := [.data, .data, .data, .handle, .sentinel, .sentinel], laidTests := true, laidLooks := .later }
def OpOutsUptoCardSaid : Prop := Claim7.holds Tryz.pinned (.plain (OpenSpec.upto opOutsSpec)) opOutsUptoCard
end Rows
end Go.Proofs.YtplaplhmjpfbjaaGreatDoor
