import Derived.Test.YtoioaalkeanhgaaDoorWrtF
import Derived.Laws.StructEq
import Derived.Deep.RegionHeld3
import Derived.Deep.DrawnRows
import Derived.Deep.RegionWith
namespace Go.Proofs.YtoioaalkeanhgaaDoor
open Go.RowKit
set_option linter.unusedVariables false
set_option maxRecDepth 100000

/-- '==' of two values. -/
def eqB (k1 n1 : Int) (s1 : ByteArray) (k2 n2 : Int) (s2 : ByteArray) : Bool := k1 == k2 && (n1 == n2 && s1.toList == s2.toList)

theorem bel1t {w w1 : World} {o : Obj} (h : Below (w.alloc o).drew.heap.size (w.alloc o).drew w1) : Below w.heap.size w w1 := (bel1 w o).drew.trans (h.mono (by simp))

def validB (k n : Int) (s : ByteArray) : Bool :=
  if k = 0 then (n == 0 && s.toList == [])
  else if k = 1 then s.toList == []
  else if k = 2 then s.toList == [] && (n == 0 || n == 1)
  else if k = 3 then n == 0 && decide ((s.size : Int) ≤ 60)
  else false

theorem empty_list : (⟨#[]⟩ : ByteArray).toList = [] := by simp

theorem validB_V (v : V) : validB v.k v.n v.s = validV v := by
  have h : (v.s.toList == []) = decide (v.s.size = 0) := by
    rw [← isE]; cases v.s.toList <;> rfl
  have h60 : decide ((v.s.size : Int) ≤ 60) = decide (v.s.size ≤ 60) := by
    rw [decide_eq_decide]; omega
  unfold validB validV
  rw [h, h60]
  simp only [show ∀ a b : Int, (a == b) = decide (a = b) from fun a b => rfl]

end Go.Proofs.YtoioaalkeanhgaaDoor
