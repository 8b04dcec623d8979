/-
  DERIVED. GIVEN WITH THE SEED: THE CARDS: each row of YthdbfgnjeolfaaaDoorRows.lean that lists a variable, with what it lists TIED to the program's text (the seventh form; the later family's looks); each row that meets fmt, with fmt's text TOLD by the authors' own Lean function (tested against real Go, not proved from fmt's source: count such statements apart). THE CARD IS WHAT COUNTS. Prove the row's statement (the work); the ties are given (YthdbfgnjeolfaaaDoorTie.lean); close each card by the builder's one call (the guide's Derived/Test/ToyasCard.lean, 'card_holds'). Laid BY PROGRAM, IN A SANDBOX (cutbox-door.mjs). By AI agents, Wed Nov 11 2026. No macro, syntax, notation, axiom, sorry.
-/
import Derived.Test.YthdbfgnjeolfaaaDoorRows
import GoSem.ClaimSeven
namespace Go.Proofs.YthdbfgnjeolfaaaDoor
namespace Rows

/-- THE TIED CARD OF 'streamwrightlaw4.SourceSteps'. -/
def sourceStepsCard : Claim7 := { stood := { row := sourceStepsRow, standIns := [], harness := (true, "4efeb2e57c744fed0f504e801d45b310bcb21acb0ad68297cdd1cf159d7336c5"), looks := true }, kinds := [], alts := [], laidByText := true, laidKinds := [.handle], laidTests := true, laidLooks := .later }
def SourceStepsCardSaid : Prop := Claim7.holds Tryd.pinned (.plain (OpenSpec.ofChange sourceStepsSpec)) sourceStepsCard

/-- THE SECOND FORM's CARD OF 'streamwrightlaw4.SourceSteps'. -/
def sourceStepsUptoCard : Claim7 := { stood := { row := sourceStepsUptoRow, standIns := [], harness := (true, "4efeb2e57c744fed0f504e801d45b310bcb21acb0ad68297cdd1cf159d7336c5"), looks := true }, kinds := [], alts := [], laidByText := true, laidKinds := [.handle], laidTests := true, laidLooks := .later }
def SourceStepsUptoCardSaid : Prop := Claim7.holds Tryd.pinned (.plain (OpenSpec.upto sourceStepsSpec)) sourceStepsUptoCard
end Rows
end Go.Proofs.YthdbfgnjeolfaaaDoor
