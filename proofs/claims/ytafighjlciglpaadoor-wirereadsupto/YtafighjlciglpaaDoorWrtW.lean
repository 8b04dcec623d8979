import Derived.Test.YtafighjlciglpaaDoorWrtG
namespace Go.Proofs.YtafighjlciglpaaDoor
open Go.RowKit
set_option linter.unusedVariables false
set_option maxRecDepth 100000

theorem encRows_pos (rs : List Rw) : 0 < (encRows rs).length := by
  unfold encRows; rw [List.length_append]; have := encInt_pos (rs.length : Int); omega

end Go.Proofs.YtafighjlciglpaaDoor
