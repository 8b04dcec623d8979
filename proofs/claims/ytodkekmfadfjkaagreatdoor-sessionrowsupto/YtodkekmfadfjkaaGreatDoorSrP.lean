import Derived.Test.YtodkekmfadfjkaaGreatDoorVlB
import Derived.Test.YtodkekmfadfjkaaGreatDoorVShwT
import Derived.Test.YtodkekmfadfjkaaGreatDoorVBkI
import Derived.Lib.ItoaLen
namespace Go.Proofs.YtodkekmfadfjkaaGreatDoor
open Go.RowKit
set_option linter.unusedVariables false
set_option linter.unusedSimpArgs false
set_option maxRecDepth 100000

theorem vb_eq (k n : Int) (s : ByteArray) : Vl.validB k n s = validB k n s := rfl
/-- A value that lies in memory. -/
def FitV (v : V) : Prop := v.s.size ≤ maxLen ∧ -9223372036854775808 ≤ v.n ∧ v.n ≤ 9223372036854775807
def shB (v : V) : ByteArray := Vl.showB v.k v.n v.s
def sh (v : V) : List UInt8 := (shB v).data.toList
/-- What stands behind the colon. -/
def tl : List V → List UInt8
  | [] => []
  | v :: vs => 32 :: (sh v ++ (if vs.isEmpty then [] else 44 :: tl vs))
def sep (vs : List V) : List UInt8 := if vs.isEmpty then [] else [44]
def showR (t : Int) (vs : List V) : List UInt8 := Lib.itoa t ++ 58 :: tl vs
theorem tl_snoc (vs : List V) (v : V) : tl (vs ++ [v]) = tl vs ++ (sep vs ++ 32 :: sh v) := by
  induction vs with
  | nil => simp [tl, sep]
  | cons x vs ih =>
    rw [List.cons_append]
    unfold tl
    rw [ih]
    cases vs with
    | nil => simp [sep, tl]
    | cons y vs => simp [sep]
theorem sh_len (v : V) (h : FitV v) : (sh v).length ≤ 200 := by
  unfold sh shB Vl.showB
  split
  · rename_i hv
    split
    · have := Lib.itoa_length_le v.n h.2.1 h.2.2
      show ((Lib.itoa v.n).toArray.toList).length ≤ 200
      simp; omega
    split
    · split <;> decide
    split
    · rename_i h3
      rcases Vl.valid_kind hv with e | e | ⟨e, -⟩ | ⟨e, -⟩ | ⟨e, h60⟩
      · omega
      · omega
      · omega
      · omega
      · have h1 := Vl.escAll_len v.s.data.toList
        have h2 : v.s.data.toList.length = v.s.size := by simp
        show ((39 :: Vl.escAll v.s.data.toList ++ [39]).toArray.toList).length ≤ 200
        simp; omega
    · decide
  · decide
theorem tl_len (vs : List V) (h : ∀ v ∈ vs, FitV v) : (tl vs).length ≤ 202 * vs.length := by
  induction vs with
  | nil => simp [tl]
  | cons x vs ih =>
    have h1 := sh_len x (h x (List.mem_cons_self ..))
    have h2 := ih fun v hv => h v (List.mem_cons_of_mem _ hv)
    unfold tl
    split <;> simp <;> omega
end Go.Proofs.YtodkekmfadfjkaaGreatDoor
