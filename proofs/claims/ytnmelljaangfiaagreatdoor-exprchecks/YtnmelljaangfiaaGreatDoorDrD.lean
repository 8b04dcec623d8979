import Derived.Test.YtnmelljaangfiaaGreatDoorDrB
import Derived.Test.YtnmelljaangfiaaGreatDoorDrC
namespace Go.Proofs.YtnmelljaangfiaaGreatDoor.Dc
open Go.RowKit
set_option linter.unusedVariables false
set_option linter.unusedSimpArgs false
set_option maxRecDepth 100000

def cellsD (t : Tk) : List Value := [.int .u8 (srt t.kd), .string t.tx, .int .i64 t.pl]
/-- The document's tokens in a row of one's own. -/
def OD (w : World) (B : Nat) (x : Value) (ts : List Tk) : Prop := w.ownsRow B 61 3 x ts.length (ts.flatMap cellsD)
theorem infoTD : (Tryz.prog.info? 61).map (fun i => (i.zero, i.size, i.bytes)) = some (some (.agg #[.int .u8 0, .string ⟨#[]⟩, .int .i64 0]), 3, 32) := by kernel_rfl
def ToksD (w : World) (s : ByteArray) (e : Ending) (w' : World) : Prop := Below w.heap.size w w' ∧
  match tok s.size 0 s.data.toList with
  | .error p => e = .returned (.tuple #[.slice none 0 0, .int .i64 p])
  | .ok l => ∃ x, e = .returned (.tuple #[x, .int .i64 (-1)]) ∧ OD w' w.heap.size x (l ++ [endT s.size])

/-- The document's signs, in its order. -/
def sgs : List ByteArray := [bNe, bLe, bGe, bCat, bEq, bLt, bGt, bPlus, bMinus, bMul, bDiv, bMod, bOpen, bShut, bComma]
/-- How long the first of them is with which a text begins. -/
def fl : List ByteArray → List UInt8 → Nat
  | [], _ => 0
  | g :: r, l => if g.data.toList <+: l then g.data.toList.length else fl r l
theorem fl_sLen (l : List UInt8) : fl sgs l = sLen l := by
  unfold sgs sLen
  simp only [fl, bNe, bLe, bGe, bCat, bEq, bLt, bGt, bPlus, bMinus, bMul, bDiv, bMod, bOpen, bShut, bComma]
  match l with
  | [] => simp
  | [c] =>
    simp [List.cons_prefix_cons]
    grind (splits := 60)
  | c :: d :: r =>
    simp [List.cons_prefix_cons]
    grind (splits := 60)
def SgsPost (w : World) (e : Ending) (w' : World) : Prop := ∃ b, e = .returned (.slice (some ⟨b, 0, none⟩) 15 15) ∧ Below w.heap.size w w' ∧ w.heap.size ≤ b ∧ ∀ i (h : i < sgs.length), w'.cell? ⟨b, i, none⟩ = some (.string sgs[i])
set_option maxHeartbeats 4000000 in
theorem signs_any (w : World) : Calls Tryz.prog 45 #[] w (SgsPost w) := by
  go_enter Tryz.func45, Tryz.ntmps45
  go_wp2
  go_ret
  refine ⟨_, rfl, ?_, ?_, ?_⟩
  · exact xbel1 _ _
  · simp
  · intro i hi
    match i, hi with
    | 0, _ => go_simp; rfl
    | 1, _ => go_simp; rfl
    | 2, _ => go_simp; rfl
    | 3, _ => go_simp; rfl
    | 4, _ => go_simp; rfl
    | 5, _ => go_simp; rfl
    | 6, _ => go_simp; rfl
    | 7, _ => go_simp; rfl
    | 8, _ => go_simp; rfl
    | 9, _ => go_simp; rfl
    | 10, _ => go_simp; rfl
    | 11, _ => go_simp; rfl
    | 12, _ => go_simp; rfl
    | 13, _ => go_simp; rfl
    | 14, _ => go_simp; rfl
    | i + 15, h => exact absurd h (by simp [sgs])
end Go.Proofs.YtnmelljaangfiaaGreatDoor.Dc
