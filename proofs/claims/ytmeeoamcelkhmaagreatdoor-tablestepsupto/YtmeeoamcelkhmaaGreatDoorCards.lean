/-
  DERIVED. GIVEN WITH THE SEED: THE CARDS: each row of YtmeeoamcelkhmaaGreatDoorRows.lean that lists a variable, with what it lists TIED to the program's text (the seventh form; the later family's looks); each row that meets fmt, with fmt's text TOLD by the authors' own Lean function (tested against real Go, not proved from fmt's source: count such statements apart). THE CARD IS WHAT COUNTS. Prove the row's statement (the work); the ties are given (YtmeeoamcelkhmaaGreatDoorTie.lean); close each card by the builder's one call (the guide's Derived/Test/ToyasCard.lean, 'card_holds'). Laid BY PROGRAM, IN A SANDBOX (cutbox-door.mjs). By AI agents, Wed Nov 11 2026. No macro, syntax, notation, axiom, sorry.
-/
import Derived.Test.YtmeeoamcelkhmaaGreatDoorRows
import GoSem.ClaimSeven
namespace Go.Proofs.YtmeeoamcelkhmaaGreatDoor
namespace Rows

/-- THE TIED CARD OF 'streamwrightlaw13.TableSteps'. -/
def tableStepsCard : Claim7 := { stood := { row := tableStepsRow, standIns := [], harness := (true, "a5f28099f8c8ec627c4ce7cf641625270fcfb78f263d903cf2ffb29f4f265c75"), looks := true }, kinds := [], alts := [], laidByText := true, laidKinds := [.handle], laidTests := true, laidLooks := .later }
def TableStepsCardSaid : Prop := Claim7.holds Tryz.pinned (.plain (OpenSpec.ofChange tableStepsSpec)) tableStepsCard

/-- THE SECOND FORM's CARD OF 'streamwrightlaw13.TableSteps'. -/
def tableStepsUptoCard : Claim7 := { stood := { row := tableStepsUptoRow, standIns := [], harness := (true, "a5f28099f8c8ec627c4ce7cf641625270fcfb78f263d903cf2ffb29f4f265c75"), looks := true }, kinds := [], alts := [], laidByText := true, laidKinds := [.handle], laidTests := true, laidLooks := .later }
def TableStepsUptoCardSaid : Prop := Claim7.holds Tryz.pinned (.plain (OpenSpec.upto tableStepsSpec)) tableStepsUptoCard
end Rows
end Go.Proofs.YtmeeoamcelkhmaaGreatDoor
