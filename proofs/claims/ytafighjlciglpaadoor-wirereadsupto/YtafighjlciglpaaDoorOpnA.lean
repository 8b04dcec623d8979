import Derived.Test.YtafighjlciglpaaDoorTldB
import Derived.Test.YtafighjlciglpaaDoorCrcA
import Derived.Laws.CopyOwn
import Derived.Deep.OwnRows
import Derived.Laws.OwnMore
import Derived.OwnWalk
import Derived.Deep.QuietTactic
import Derived.BigQuiet
import Derived.Laws.IdiomStrings
import Derived.WideShapes
namespace Go.Proofs.YtafighjlciglpaaDoor
open Go.RowKit
set_option linter.unusedVariables false
set_option maxRecDepth 100000

theorem info5 : (Tryd.prog.info? 5).map (fun i => (i.zero, i.size, i.bytes)) = some (some (.int .u8 0), 1, 1) := by kernel_rfl
theorem size5 : (Tryd.prog.info? 5).map (·.size) = some 1 := by kernel_rfl
def u8v (c : UInt8) : Value := .int .u8 (c.toNat : Int)

theorem bytes_of_row {w : World} {g len cap : Nat} {f : Nat → UInt8} {L : List Value} (h : w.heap[g]? = some (.cells L.toArray 5 (0, 0))) (hL : ∀ i, i < len → L[i]? = some (u8v (f i))) : Bytes w (some ⟨g, 0, none⟩) len f := by
  intro i hi
  refine ⟨g, 0, rfl, ?_⟩
  rw [cell_of_row w g (0 + i) L.toArray 5 (0, 0) h]
  simpa [u8v] using hL i hi

set_option maxHeartbeats 1000000 in
theorem copied_any (a : Option Addr) (len cap : Nat) (f : Nat → UInt8) (w : World) (hl : Bytes w a len f) (hm : len ≤ 140737488355328) :
    Calls Tryd.prog 6 #[.slice a len cap] w fun e w' => e = .returned (.slice (some ⟨w.heap.size, 0, none⟩) len len) ∧ Bytes w' (some ⟨w.heap.size, 0, none⟩) len f ∧ Below w.heap.size w w' ∧ w.heap.size < w'.heap.size := by
  have hmk := run_make_row' (P := Tryd.prog) 22 5 (.int .u8 0) 1 Tryd.underlying22 info5 rfl .i64 .i64 len (by omega) (by omega)
  have HL : Hid (Bytes (w.alloc (.cells (madeCells #[.int .u8 0] len) 5)) a len f) := hl.later (bel1 w _)
  have HG : Hid ((w.alloc (.cells (madeCells #[.int .u8 0] len) 5)).heap[w.heap.size]? = some (.cells (List.replicate len (.int .u8 0)).toArray 5 (0, 0))) := by
    unfold Hid
    rw [heap_alloc_new w _]
    congr 2
    rw [← toList_madeCells_one]
  have hlen : ((List.range len).map fun i => u8v (f i)).length = Nat.min len len := by simp
  clear hl
  go_enter Tryd.func6, Tryd.ntmps6
  go_wp2_with (first
    | (refine wpList_copy_splice rfl _ _ 22 22 rfl 5 Tryd.underlying22 size5 _ _ len len len cap rfl rfl w.heap.size 0 (List.replicate len (.int .u8 0)) 5 HG.out ((List.range len).map fun i => u8v (f i)) hlen ?c1 (by simp) (by intro v hv; simp at hv; obtain ⟨i, _, rfl⟩ := hv; rfl) w.heap.size w (bel1 w _) (Nat.le_refl _) ?_))
  case c1 =>
    intro h0
    have h0' : 0 < len := by simpa using h0
    obtain ⟨b, off, rfl, _⟩ := HL.out 0 h0'
    refine ⟨_, rfl, ?_⟩
    intro j v hj
    have hj' : j < len := by
      have := (List.getElem?_eq_some_iff.1 hj).1
      simpa using this
    obtain ⟨b', off', e, hc⟩ := HL.out j hj'
    simp only [Option.some.injEq, Addr.mk.injEq, and_true] at e
    obtain ⟨rfl, rfl⟩ := e
    rw [WideShapes.add_plain, hc]
    have hv : j = v := by simpa [hj'] using hj
    rw [hv]; rfl
  · intro w' hrow hB
    have hB' : Below w.heap.size w w' := hB
    have HR : Hid (Bytes w' (some ⟨w.heap.size, 0, none⟩) len f) := by
      refine bytes_of_row (cap := 0) hrow.out ?_
      intro i hi
      simp [splice, hi]
    have hlt : w.heap.size < w'.heap.size := by
      rcases Nat.lt_or_ge w.heap.size w'.heap.size with h | h
      · exact h
      · have := hrow.out; rw [Array.getElem?_eq_none h] at this; cases this
    clear hrow hB HL HG hmk hlen
    go_wp2
    go_ret
    exact ⟨rfl, HR.out, hB', hlt⟩
end Go.Proofs.YtafighjlciglpaaDoor
