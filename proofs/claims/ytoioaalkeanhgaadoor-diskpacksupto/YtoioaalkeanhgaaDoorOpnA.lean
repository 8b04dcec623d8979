import Derived.Test.YtoioaalkeanhgaaDoorTldB
import Derived.Test.YtoioaalkeanhgaaDoorCrcA
import Derived.Laws.CopyOwn
import Derived.Deep.OwnRows
import Derived.Laws.OwnMore
import Derived.OwnWalk
import Derived.Deep.QuietTactic
import Derived.BigQuiet
import Derived.Laws.IdiomStrings
import Derived.WideShapes
namespace Go.Proofs.YtoioaalkeanhgaaDoor
open Go.RowKit
set_option linter.unusedVariables false
set_option maxRecDepth 100000

theorem info5 : (Tryd.prog.info? 5).map (fun i => (i.zero, i.size, i.bytes)) = some (some (.int .u8 0), 1, 1) := by kernel_rfl
theorem size5 : (Tryd.prog.info? 5).map (·.size) = some 1 := by kernel_rfl
def u8v (c : UInt8) : Value := .int .u8 (c.toNat : Int)

theorem bytes_of_row {w : World} {g len cap : Nat} {f : Nat → UInt8} {L : List Value} (h : w.heap[g]? = some (.cells L.toArray 5 (0, 0))) (hL : ∀ i, i < len → L[i]? = some (u8v (f i))) : Bytes w (some ⟨g, 0, none⟩) len f := by
  intro i hi
  refine ⟨g, 0, rfl, ?_⟩
  rw [cell_of_row w g (0 + i) L.toArray 5 (0, 0) h]
  simpa [u8v] using hL i hi

end Go.Proofs.YtoioaalkeanhgaaDoor
