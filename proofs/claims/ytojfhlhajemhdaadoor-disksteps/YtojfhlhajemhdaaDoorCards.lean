/-
  DERIVED. GIVEN WITH THE SEED: THE CARDS: each row of YtojfhlhajemhdaaDoorRows.lean that lists a variable, with what it lists TIED to the program's text (the seventh form; the later family's looks); each row that meets fmt, with fmt's text TOLD by the authors' own Lean function (tested against real Go, not proved from fmt's source: count such statements apart). THE CARD IS WHAT COUNTS. Prove the row's statement (the work); the ties are given (YtojfhlhajemhdaaDoorTie.lean); close each card by the builder's one call (the guide's Derived/Test/ToyasCard.lean, 'card_holds'). Laid BY PROGRAM, IN A SANDBOX (cutbox-door.mjs). By AI agents, Wed Nov 11 2026. No macro, syntax, notation, axiom, sorry.
-/
import Derived.Test.YtojfhlhajemhdaaDoorRows
import GoSem.ClaimSeven
namespace Go.Proofs.YtojfhlhajemhdaaDoor
namespace Rows

/-- THE TIED CARD OF 'streamwrightlaw12.DiskSteps'. -/
def diskStepsCard : Claim7 := { stood := { row := diskStepsRow, standIns := [], harness := (true, "ecda83bcd2fa58a70ed63d96cb50b7f40146d3ce404dd34016a527e94ea81809"), looks := true }, kinds := [], alts := [], laidByText := true, laidKinds := [.handle], laidTests := true, laidLooks := .later }
def DiskStepsCardSaid : Prop := Claim7.holds Tryd.pinned (.plain (OpenSpec.ofChange diskStepsSpec)) diskStepsCard

/-- THE SECOND FORM's CARD OF 'streamwrightlaw12.DiskSteps'. -/
def diskStepsUptoCard : Claim7 := { stood := { row := diskStepsUptoRow, standIns := [], harness := (true, "ecda83bcd2fa58a70ed63d96cb50b7f40146d3ce404dd34016a527e94ea81809"), looks := true }, kinds := [], alts := [], laidByText := true, laidKinds := [.handle], laidTests := true, laidLooks := .later }
def DiskStepsUptoCardSaid : Prop := Claim7.holds Tryd.pinned (.plain (OpenSpec.upto diskStepsSpec)) diskStepsUptoCard
end Rows
end Go.Proofs.YtojfhlhajemhdaaDoor
