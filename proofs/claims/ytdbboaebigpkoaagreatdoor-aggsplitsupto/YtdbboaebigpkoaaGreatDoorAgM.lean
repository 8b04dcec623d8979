import Derived.Test.YtdbboaebigpkoaaGreatDoorAgP
import Derived.Maps.OwnSet
import Derived.DeepKeys5
namespace Go.Proofs.YtdbboaebigpkoaaGreatDoor
open Go.RowKit Go.Maps
set_option linter.unusedVariables false
set_option linter.unusedSimpArgs false
set_option maxRecDepth 100000

theorem laidOutM : laidOutB Tryz.prog = true := by kernel_rfl
theorem rowV : (25 : TypeId) < Tryz.prog.types.size := of_decide_eq_true (by kernel_rfl)
theorem wideV : (match Tryz.prog.underlying 25 with | some (.array _ _) | some (.struct _) => true | _ => false) = true := by kernel_rfl
theorem lawV : Keyed Tryz.prog 25 := Keyed.of_law (deep_law_laid laidOutM (m := 2) (by omega) rowV (by kernel_rfl) wideV)
theorem keyTypeV : Tryz.prog.keyType 25 = true := by kernel_rfl
theorem cellsOfV : Tryz.prog.cellsOf 25 = 3 := by kernel_rfl
theorem cellsOfK : Tryz.prog.cellsOf 23 = 1 := by kernel_rfl
theorem cellsOfI : Tryz.prog.cellsOf 2 = 1 := by kernel_rfl
theorem cellsOfS : Tryz.prog.cellsOf 9 = 1 := by kernel_rfl
def vv (v : V) : Value := .agg #[.int .i64 v.k, .int .i64 v.n, .string v.s]
/-- A value's bytes as a map's key. -/
def keyV (v : V) : Lit := .string (keyBytes [.int .i64 v.k, .int .i64 v.n, .string v.s.data.toList])
/-- Its numbers are numbers of 64 bits, its text is one. -/
def Fits (v : V) : Prop := (Lit.int .i64 v.k).wf = true ∧ (Lit.int .i64 v.n).wf = true ∧ v.s.size ≤ maxLen
theorem keyLits_V (d : Nat) (v : V) (h1 : (Lit.int .i64 v.k).wf = true) (h2 : (Lit.int .i64 v.n).wf = true) (h3 : v.s.size ≤ maxLen) :
    Option.map (fun ls => Lit.string (keyBytes ls)) (Tryz.prog.keyLits (d + 1 + 1) 25 (vv v).cells.toList) = some (keyV v) := by
  have a : Tryz.prog.keyLits (d + 1) 23 [.int .i64 v.k] = some [.int .i64 v.k] := by simp [Program.keyLits, Tryz.underlying23, h1]
  have b : Tryz.prog.keyLits (d + 1) 2 [.int .i64 v.n] = some [.int .i64 v.n] := by simp [Program.keyLits, Tryz.underlying2, h2]
  have c : Tryz.prog.keyLits (d + 1) 9 [.string v.s] = some [.string v.s.data.toList] := by simp [Program.keyLits, Tryz.underlying9, h3]
  unfold Program.keyLits
  rw [Tryz.underlying25]
  simp [vv, Value.cells, cellsOfV, cellsOfK, cellsOfI, cellsOfS, a, b, c, keyV]
theorem keyV_of (v : V) (h : Fits v) : keyOf Tryz.prog 25 (vv v) = some (keyV v) := by
  obtain ⟨h1, h2, h3⟩ := h
  have hu := Tryz.underlying25
  have hf : (vv v).formed Tryz.prog 25 = true := by simp [Value.formed, vv, hu, cellsOfV]
  unfold keyOf
  rw [hu]
  simp only [keyTypeV, hf, Bool.and_self, if_true]
  rw [show Tryz.prog.types.size = (209 - 1) + 1 from by kernel_rfl]
  exact keyLits_V _ v h1 h2 h3
theorem keyV_inj (a b : V) (ha : Fits a) (hb : Fits b) (h : keyV a = keyV b) : a = b := by
  have h1 := keyV_of a ha
  have h2 := keyV_of b hb
  rw [← h] at h2
  have := lawV.inj h1 h2
  obtain ⟨k1, n1, s1⟩ := a
  obtain ⟨k2, n2, s2⟩ := b
  simpa [vv] using this
end Go.Proofs.YtdbboaebigpkoaaGreatDoor
