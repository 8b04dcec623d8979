import Derived.Test.YtmeeoamcelkhmaaGreatDoorProg
import Derived.WalkKit
import Derived.Below
import Derived.Laws.StructEq
import Derived.Laws.Cover1
import Derived.KernelRfl
namespace Go.Proofs.YtmeeoamcelkhmaaGreatDoor
set_option linter.unusedVariables false

/-- '==' of two values. -/
def eqB (k1 n1 : Int) (s1 : ByteArray) (k2 n2 : Int) (s2 : ByteArray) : Bool := k1 == k2 && (n1 == n2 && s1.toList == s2.toList)

theorem eq26 (k1 n1 : Int) (s1 : ByteArray) (k2 n2 : Int) (s2 : ByteArray) (w : World) :
    (Op.equalIn 10000 43 (.agg #[.int .i64 k1, .int .i64 n1, .string s1]) (.agg #[.int .i64 k2, .int .i64 n2, .string s2])).run Tryz.prog w = .ok (eqB k1 n1 s1 k2 n2 s2) w := by
  have u24 := Tryz.underlying41
  have u2 := Tryz.underlying2
  have u9 := Tryz.underlying9
  have a24 := Tryz.isAgg41
  have z24 := Tryz.sizeOf41
  have a2 := Tryz.isAgg2
  have z2 := Tryz.sizeOf2
  have a9 := Tryz.isAgg9
  have z9 := Tryz.sizeOf9
  have hS : Tryz.prog.underlying 43 = some (.struct (Tryz.prog.fieldsOf 43)) := by kernel_rfl
  rw [show (10000 : Nat) = 9999 + 1 from rfl, run_equalIn_agg w 9999 43 _ _ hS (by kernel_rfl)]
  simp only [Program.fieldsOf, Tryz.underlying43]
  go_simp
  unfold eqB
  by_cases h1 : k1 = k2 <;> by_cases h2 : n1 = n2 <;> by_cases h3 : s1.toList = s2.toList <;> simp [h1, h2, h3]
theorem guard26 : Tryz.prog.eqGuardType Tryz.prog.depth 43 = false := by kernel_rfl
theorem neq26 (k1 n1 : Int) (s1 : ByteArray) (k2 n2 : Int) (s2 : ByteArray) (w : World) :
    (binOp .neq 43 (.agg #[.int .i64 k1, .int .i64 n1, .string s1]) (.agg #[.int .i64 k2, .int .i64 n2, .string s2])).run Tryz.prog w = .ok (.bool (!eqB k1 n1 s1 k2 n2 s2)) w := by
  rw [run_neq_struct, eq26]; rfl
theorem eql26 (k1 n1 : Int) (s1 : ByteArray) (k2 n2 : Int) (s2 : ByteArray) (w : World) :
    (binOp .eql 43 (.agg #[.int .i64 k1, .int .i64 n1, .string s1]) (.agg #[.int .i64 k2, .int .i64 n2, .string s2])).run Tryz.prog w = .ok (.bool (eqB k1 n1 s1 k2 n2 s2)) w := by
  rw [run_eql_struct, eq26]; rfl
end Go.Proofs.YtmeeoamcelkhmaaGreatDoor
