/-
  DERIVED. GIVEN WITH THE SEED: THE CARDS: each row of YtiiliobffnhpmaaGreatDoorRows.lean that lists a variable, with what it lists TIED to the program's text (the seventh form; the later family's looks); each row that meets fmt, with fmt's text TOLD by the authors' own Lean function (tested against real Go, not proved from fmt's source: count such statements apart). THE CARD IS WHAT COUNTS. Prove the row's statement (the work); the ties are given (YtiiliobffnhpmaaGreatDoorTie.lean); close each card by the builder's one call (the guide's Derived/Test/ToyasCard.lean, 'card_holds'). Laid BY PROGRAM, IN A SANDBOX (cutbox-door.mjs). By AI agents, Wed Nov 11 2026. No macro, syntax, notation, axiom, sorry.
-/
import Derived.Test.YtiiliobffnhpmaaGreatDoorRows
import GoSem.ClaimSeven
namespace Go.Proofs.YtiiliobffnhpmaaGreatDoor
namespace Rows

/-- THE TIED CARD OF 'streamwrightlaw10.JobWeighs'. -/
def jobWeighsCard : Claim7 := { stood := { row := jobWeighsRow, standIns := [], harness := (true, "abb7a359c3daa1e7631e4c317797622af7e94ac93f4b205d01d7f9ec684f973f"), looks := true }, kinds := [], alts := [], laidByText := true, laidKinds := [.data, .data, .data, .data, .sentinel, .sentinel, .pinned], laidTests := true, laidLooks := .later }
def JobWeighsCardSaid : Prop := Claim7.holds Tryz.pinned (.plain (OpenSpec.ofChange jobWeighsSpec)) jobWeighsCard

/-- THE TIED CARD OF 'streamwrightlaw10.JobBack'. -/
def jobBackCard : Claim7 := { stood := { row := jobBackRow, standIns := [], harness := (true, "abb7a359c3daa1e7631e4c317797622af7e94ac93f4b205d01d7f9ec684f973f"), looks := true }, kinds := [], alts := [], laidByText := true, laidKinds := [.data, .data, .data, .data, .handle, .sentinel, .sentinel, .pinned], laidTests := true, laidLooks := .later }
def JobBackCardSaid : Prop := Claim7.holds Tryz.pinned (.plain (OpenSpec.ofChange jobBackSpec)) jobBackCard

/-- THE SECOND FORM's CARD OF 'streamwrightlaw10.JobWeighs'. -/
def jobWeighsUptoCard : Claim7 := { stood := { row := jobWeighsUptoRow, standIns := [], harness := (true, "abb7a359c3daa1e7631e4c317797622af7e94ac93f4b205d01d7f9ec684f973f"), looks := true }, kinds := [], alts := [], laidByText := true, laidKinds := [.data, .data, .data, .data, .sentinel, .sentinel, .pinned], laidTests := true, laidLooks := .later }
def JobWeighsUptoCardSaid : Prop := Claim7.holds Tryz.pinned (.plain (OpenSpec.upto jobWeighsSpec)) jobWeighsUptoCard

/-- THE SECOND FORM's CARD OF 'streamwrightlaw10.JobBack'. -/
def jobBackUptoCard : Claim7 := { stood := { row := jobBackUptoRow, standIns := [], harness := (true, "abb7a359c3daa1e7631e4c317797622af7e94ac93f4b205d01d7f9ec684f973f"), looks := true }, kinds := [], alts := [], laidByText := true, laidKinds := [.data, .data, .data, .data, .handle, .sentinel, .sentinel, .pinned], laidTests := true, laidLooks := .later }
def JobBackUptoCardSaid : Prop := Claim7.holds Tryz.pinned (.plain (OpenSpec.upto jobBackSpec)) jobBackUptoCard
end Rows
end Go.Proofs.YtiiliobffnhpmaaGreatDoor
