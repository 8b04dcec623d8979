/-
  DERIVED. GIVEN WITH THE SEED: THE CARDS: each row of YtkeolfdjdckdaaaDoorRows.lean that lists a variable, with what it lists TIED to the program's text (the seventh form; the later family's looks); each row that meets fmt, with fmt's text TOLD by the authors' own Lean function (tested against real Go, not proved from fmt's source: count such statements apart). THE CARD IS WHAT COUNTS. Prove the row's statement (the work); the ties are given (YtkeolfdjdckdaaaDoorTie.lean); close each card by the builder's one call (the guide's Derived/Test/ToyasCard.lean, 'card_holds'). Laid BY PROGRAM, IN A SANDBOX (cutbox-door.mjs). By AI agents, Wed Nov 11 2026. No macro, syntax, notation, axiom, sorry.
-/
import Derived.Test.YtkeolfdjdckdaaaDoorRows
import GoSem.ClaimSeven
namespace Go.Proofs.YtkeolfdjdckdaaaDoor
namespace Rows

/-- THE TIED CARD OF 'streamwrightlaw6.AggFolds'. -/
def aggFoldsCard : Claim7 := { stood := { row := aggFoldsRow, standIns := [], harness := (true, "90a5175455512c39c606d8392ab39c30ac8ba1b02711c7a0cfb42c6d4d098dd4"), looks := true }, kinds := [], alts := [], laidByText := true, laidKinds := [.handle], laidTests := true, laidLooks := .later }
def AggFoldsCardSaid : Prop := Claim7.holds Tryd.pinned (.plain (OpenSpec.ofChange aggFoldsSpec)) aggFoldsCard

/-- THE TIED CARD OF 'streamwrightlaw6.AggTurns'. -/
def aggTurnsCard : Claim7 := { stood := { row := aggTurnsRow, standIns := [], harness := (true, "90a5175455512c39c606d8392ab39c30ac8ba1b02711c7a0cfb42c6d4d098dd4"), looks := true }, kinds := [], alts := [], laidByText := true, laidKinds := [.handle], laidTests := true, laidLooks := .later }
def AggTurnsCardSaid : Prop := Claim7.holds Tryd.pinned (.plain (OpenSpec.ofChange aggTurnsSpec)) aggTurnsCard

/-- THE SECOND FORM's CARD OF 'streamwrightlaw6.AggFolds'. -/
def aggFoldsUptoCard : Claim7 := { stood := { row := aggFoldsUptoRow, standIns := [], harness := (true, "90a5175455512c39c606d8392ab39c30ac8ba1b02711c7a0cfb42c6d4d098dd4"), looks := true }, kinds := [], alts := [], laidByText := true, laidKinds := [.handle], laidTests := true, laidLooks := .later }
def AggFoldsUptoCardSaid : Prop := Claim7.holds Tryd.pinned (.plain (OpenSpec.upto aggFoldsSpec)) aggFoldsUptoCard

/-- THE SECOND FORM's CARD OF 'streamwrightlaw6.AggTurns'. -/
def aggTurnsUptoCard : Claim7 := { stood := { row := aggTurnsUptoRow, standIns := [], harness := (true, "90a5175455512c39c606d8392ab39c30ac8ba1b02711c7a0cfb42c6d4d098dd4"), looks := true }, kinds := [], alts := [], laidByText := true, laidKinds := [.handle], laidTests := true, laidLooks := .later }
def AggTurnsUptoCardSaid : Prop := Claim7.holds Tryd.pinned (.plain (OpenSpec.upto aggTurnsSpec)) aggTurnsUptoCard
end Rows
end Go.Proofs.YtkeolfdjdckdaaaDoor
