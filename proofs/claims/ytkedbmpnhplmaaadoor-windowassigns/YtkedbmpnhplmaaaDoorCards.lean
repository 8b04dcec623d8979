/-
  DERIVED. GIVEN WITH THE SEED: THE CARDS: each row of YtkedbmpnhplmaaaDoorRows.lean that lists a variable, with what it lists TIED to the program's text (the seventh form; the later family's looks); each row that meets fmt, with fmt's text TOLD by the authors' own Lean function (tested against real Go, not proved from fmt's source: count such statements apart). THE CARD IS WHAT COUNTS. Prove the row's statement (the work); the ties are given (YtkedbmpnhplmaaaDoorTie.lean); close each card by the builder's one call (the guide's Derived/Test/ToyasCard.lean, 'card_holds'). Laid BY PROGRAM, IN A SANDBOX (cutbox-door.mjs). By AI agents, Wed Nov 11 2026. No macro, syntax, notation, axiom, sorry.
-/
import Derived.Test.YtkedbmpnhplmaaaDoorRows
import GoSem.ClaimSeven
namespace Go.Proofs.YtkedbmpnhplmaaaDoor
namespace Rows

/-- THE TIED CARD OF 'streamwrightlaw5.WindowAssigns'. -/
def windowAssignsCard : Claim7 := { stood := { row := windowAssignsRow, standIns := [], harness := (true, "9239831c150494675f0db90f70a6425c09c4ab890ba4a33824e2a5c00bca552a"), looks := true }, kinds := [], alts := [], laidByText := true, laidKinds := [.handle], laidTests := true, laidLooks := .later }
def WindowAssignsCardSaid : Prop := Claim7.holds Tryd.pinned (.plain (OpenSpec.ofChange windowAssignsSpec)) windowAssignsCard

/-- THE SECOND FORM's CARD OF 'streamwrightlaw5.WindowAssigns'. -/
def windowAssignsUptoCard : Claim7 := { stood := { row := windowAssignsUptoRow, standIns := [], harness := (true, "9239831c150494675f0db90f70a6425c09c4ab890ba4a33824e2a5c00bca552a"), looks := true }, kinds := [], alts := [], laidByText := true, laidKinds := [.handle], laidTests := true, laidLooks := .later }
def WindowAssignsUptoCardSaid : Prop := Claim7.holds Tryd.pinned (.plain (OpenSpec.upto windowAssignsSpec)) windowAssignsUptoCard
end Rows
end Go.Proofs.YtkedbmpnhplmaaaDoor
