/-
  DERIVED. GIVEN WITH THE SEED: THE CARDS: each row of YtoioaalkeanhgaaDoorRows.lean that lists a variable, with what it lists TIED to the program's text (the seventh form; the later family's looks); each row that meets fmt, with fmt's text TOLD by the authors' own Lean function (tested against real Go, not proved from fmt's source: count such statements apart). THE CARD IS WHAT COUNTS. Prove the row's statement (the work); the ties are given (YtoioaalkeanhgaaDoorTie.lean); close each card by the builder's one call (the guide's Derived/Test/ToyasCard.lean, 'card_holds'). Laid BY PROGRAM, IN A SANDBOX (cutbox-door.mjs). By AI agents, Wed Nov 11 2026. No macro, syntax, notation, axiom, sorry.
-/
import Derived.Test.YtoioaalkeanhgaaDoorRows
import GoSem.ClaimSeven
namespace Go.Proofs.YtoioaalkeanhgaaDoor
namespace Rows

/-- THE TIED CARD OF 'streamwrightlaw12.DiskPacks'. -/
def diskPacksCard : Claim7 := { stood := { row := diskPacksRow, standIns := [], harness := (true, "3d0b2b4ad828da7d300246d057671fef72a83f224c5045bf990f5712b520ce71"), looks := true }, kinds := [], alts := [], laidByText := true, laidKinds := [.handle, .data], laidTests := true, laidLooks := .later }
def DiskPacksCardSaid : Prop := Claim7.holds Tryd.pinned (.plain (OpenSpec.ofChange diskPacksSpec)) diskPacksCard

/-- THE SECOND FORM's CARD OF 'streamwrightlaw12.DiskPacks'. -/
def diskPacksUptoCard : Claim7 := { stood := { row := diskPacksUptoRow, standIns := [], harness := (true, "3d0b2b4ad828da7d300246d057671fef72a83f224c5045bf990f5712b520ce71"), looks := true }, kinds := [], alts := [], laidByText := true, laidKinds := [.handle, .data], laidTests := true, laidLooks := .later }
def DiskPacksUptoCardSaid : Prop := Claim7.holds Tryd.pinned (.plain (OpenSpec.upto diskPacksSpec)) diskPacksUptoCard
end Rows
end Go.Proofs.YtoioaalkeanhgaaDoor
