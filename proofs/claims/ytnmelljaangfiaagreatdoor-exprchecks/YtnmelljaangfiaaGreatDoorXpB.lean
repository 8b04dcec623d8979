import Derived.Test.YtnmelljaangfiaaGreatDoorProg
import Derived.WalkKit
import Derived.Below
import Derived.WalkSmall
import Derived.LoopN
import Derived.Laws.StructEq
import Derived.Laws.Cover1
import Derived.Handy
import Derived.KernelRfl
import Derived.Deep.DrawnRows
import Derived.Deep.RegionWith
import Derived.Deep.QuietTactic
import Derived.BigQuiet
import Derived.Deep.OwnRows
import Derived.Laws.OwnMore
import Derived.OwnWalk
import Derived.Laws.IdiomStrings
import Derived.WideShapes
import Derived.Lib.Bytealg
import Derived.Laws.Slices
import Derived.Laws.Strings
import Derived.Laws.BytesString
import Derived.Test.YtnmelljaangfiaaGreatDoorXpK
namespace Go.Proofs.YtnmelljaangfiaaGreatDoor
open Go.RowKit
set_option linter.unusedVariables false
set_option maxRecDepth 100000

theorem xcell {w wx : World} {a : Addr} {v : Value} (hb : Below w.heap.size w wx) (h : w.cell? a = some v) : wx.cell? a = some v := (hb.cell (World.block_lt_of_cell? _ _ h)).trans h
theorem xbel1 (w : World) (o1 : Obj) : Below w.heap.size w (w.alloc o1) := (Below.refl _ _).alloc (Nat.le_refl _) _
theorem xtoList {s t : ByteArray} (h : s.toList = t.toList) : s = t := by
  have := congrArg List.toByteArray h
  apply ByteArray.ext
  apply Array.toList_inj.1
  simpa [ByteArray.toList_eq] using h
theorem xeq {s t : ByteArray} (h : s = t) : (s.toList == t.toList) = true := by rw [h]; exact beq_self_eq_true _
theorem xne {s t : ByteArray} (h : ¬ s = t) : (s.toList == t.toList) = false := by
  rw [beq_eq_false_iff_ne]; exact fun e => h (xtoList e)

theorem xl (t : ByteArray) (l : List UInt8) : (t.toList == l) = decide (t = ⟨l.toArray⟩) := by
  have e : (⟨l.toArray⟩ : ByteArray).toList = l := by simp [ByteArray.toList_eq]
  by_cases h : t = ⟨l.toArray⟩
  · rw [decide_eq_true h, h, e]; exact beq_self_eq_true _
  · rw [decide_eq_false h, beq_eq_false_iff_ne]
    exact fun h' => h (xtoList (h'.trans e.symm))
theorem xnl {t : ByteArray} {l : List UInt8} (h : ¬ t = ⟨l.toArray⟩) : (t.toList == l) = false := by rw [xl]; exact decide_eq_false h
end Go.Proofs.YtnmelljaangfiaaGreatDoor
