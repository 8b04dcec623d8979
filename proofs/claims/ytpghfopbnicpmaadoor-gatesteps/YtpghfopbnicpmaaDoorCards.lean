/-
  DERIVED. GIVEN WITH THE SEED: THE CARDS: each row of YtpghfopbnicpmaaDoorRows.lean that lists a variable, with what it lists TIED to the program's text (the seventh form; the later family's looks); each row that meets fmt, with fmt's text TOLD by the authors' own Lean function (tested against real Go, not proved from fmt's source: count such statements apart). THE CARD IS WHAT COUNTS. Prove the row's statement (the work); the ties are given (YtpghfopbnicpmaaDoorTie.lean); close each card by the builder's one call (the guide's Derived/Test/ToyasCard.lean, 'card_holds'). Laid BY PROGRAM, IN A SANDBOX (cutbox-door.mjs). By AI agents, Wed Nov 11 2026. No macro, syntax, notation, axiom, sorry.
-/
import Derived.Test.YtpghfopbnicpmaaDoorRows
import GoSem.ClaimSeven
namespace Go.Proofs.YtpghfopbnicpmaaDoor
namespace Rows

/-- THE TIED CARD OF 'streamwrightlaw9.GateSteps'. -/
def gateStepsCard : Claim7 := { stood := { row := gateStepsRow, standIns := [], harness := (true, "de0425283e1c3ebd534e2079b0c440501e907b48e61f71fc5d512ea48ed0d305"), looks := true }, kinds := [], alts := [], laidByText := true, laidKinds := [.handle], laidTests := true, laidLooks := .later }
def GateStepsCardSaid : Prop := Claim7.holds Tryd.pinned (.plain (OpenSpec.ofChange gateStepsSpec)) gateStepsCard

/-- THE SECOND FORM's CARD OF 'streamwrightlaw9.GateSteps'. -/
def gateStepsUptoCard : Claim7 := { stood := { row := gateStepsUptoRow, standIns := [], harness := (true, "de0425283e1c3ebd534e2079b0c440501e907b48e61f71fc5d512ea48ed0d305"), looks := true }, kinds := [], alts := [], laidByText := true, laidKinds := [.handle], laidTests := true, laidLooks := .later }
def GateStepsUptoCardSaid : Prop := Claim7.holds Tryd.pinned (.plain (OpenSpec.upto gateStepsSpec)) gateStepsUptoCard
end Rows
end Go.Proofs.YtpghfopbnicpmaaDoor
