/-
  DERIVED. GIVEN WITH THE SEED: THE CARDS: each row of YtdbboaebigpkoaaGreatDoorRows.lean that lists a variable, with what it lists TIED to the program's text (the seventh form; the later family's looks); each row that meets fmt, with fmt's text TOLD by the authors' own Lean function (tested against real Go, not proved from fmt's source: count such statements apart). THE CARD IS WHAT COUNTS. Prove the row's statement (the work); the ties are given (YtdbboaebigpkoaaGreatDoorTie.lean); close each card by the builder's one call (the guide's Derived/Test/ToyasCard.lean, 'card_holds'). Laid BY PROGRAM, IN A SANDBOX (cutbox-door.mjs). By AI agents, Wed Nov 11 2026. No macro, syntax, notation, axiom, sorry.
-/
import Derived.Test.YtdbboaebigpkoaaGreatDoorRows
import GoSem.ClaimSeven
namespace Go.Proofs.YtdbboaebigpkoaaGreatDoor
namespace Rows

/-- THE TIED CARD OF 'streamwrightlaw6.AggSplits'. -/
def aggSplitsCard : Claim7 := { stood := { row := aggSplitsRow, standIns := [], harness := (true, "842be152619912033bc171fef5c72e12b7ad83b8072399ec9e5954ba4da11ce3"), looks := true }, kinds := [], alts := [], laidByText := true, laidKinds := [.handle], laidTests := true, laidLooks := .later }
def AggSplitsCardSaid : Prop := Claim7.holds Tryz.pinned (.plain (OpenSpec.ofChange aggSplitsSpec)) aggSplitsCard

/-- THE SECOND FORM's CARD OF 'streamwrightlaw6.AggSplits'. -/
def aggSplitsUptoCard : Claim7 := { stood := { row := aggSplitsUptoRow, standIns := [], harness := (true, "842be152619912033bc171fef5c72e12b7ad83b8072399ec9e5954ba4da11ce3"), looks := true }, kinds := [], alts := [], laidByText := true, laidKinds := [.handle], laidTests := true, laidLooks := .later }
def AggSplitsUptoCardSaid : Prop := Claim7.holds Tryz.pinned (.plain (OpenSpec.upto aggSplitsSpec)) aggSplitsUptoCard
end Rows
end Go.Proofs.YtdbboaebigpkoaaGreatDoor
