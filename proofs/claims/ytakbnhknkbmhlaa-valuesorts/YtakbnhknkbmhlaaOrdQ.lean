import Derived.Test.YtakbnhknkbmhlaaProg
import Derived.WalkKit
import Derived.Below
import Derived.Laws.StructEq
import Derived.Laws.Cover1
import Derived.KernelRfl
namespace Go.Proofs.Ytakbnhknkbmhlaa
set_option linter.unusedVariables false

/-- '==' of two values. -/
def eqB (k1 n1 : Int) (s1 : ByteArray) (k2 n2 : Int) (s2 : ByteArray) : Bool := k1 == k2 && (n1 == n2 && s1.toList == s2.toList)

theorem eq26 (k1 n1 : Int) (s1 : ByteArray) (k2 n2 : Int) (s2 : ByteArray) (w : World) :
    (Op.equalIn 10000 26 (.agg #[.int .i64 k1, .int .i64 n1, .string s1]) (.agg #[.int .i64 k2, .int .i64 n2, .string s2])).run Try.prog w = .ok (eqB k1 n1 s1 k2 n2 s2) w := by
  have u24 := Try.underlying24
  have u2 := Try.underlying2
  have u9 := Try.underlying9
  have a24 := Try.isAgg24
  have z24 := Try.sizeOf24
  have a2 := Try.isAgg2
  have z2 := Try.sizeOf2
  have a9 := Try.isAgg9
  have z9 := Try.sizeOf9
  have hS : Try.prog.underlying 26 = some (.struct (Try.prog.fieldsOf 26)) := by kernel_rfl
  rw [show (10000 : Nat) = 9999 + 1 from rfl, run_equalIn_agg w 9999 26 _ _ hS (by kernel_rfl)]
  simp only [Program.fieldsOf, Try.underlying26]
  go_simp
  unfold eqB
  by_cases h1 : k1 = k2 <;> by_cases h2 : n1 = n2 <;> by_cases h3 : s1.toList = s2.toList <;> simp [h1, h2, h3]
theorem guard26 : Try.prog.eqGuardType Try.prog.depth 26 = false := by kernel_rfl
theorem neq26 (k1 n1 : Int) (s1 : ByteArray) (k2 n2 : Int) (s2 : ByteArray) (w : World) :
    (binOp .neq 26 (.agg #[.int .i64 k1, .int .i64 n1, .string s1]) (.agg #[.int .i64 k2, .int .i64 n2, .string s2])).run Try.prog w = .ok (.bool (!eqB k1 n1 s1 k2 n2 s2)) w := by
  rw [run_neq_struct, eq26]; rfl
theorem eql26 (k1 n1 : Int) (s1 : ByteArray) (k2 n2 : Int) (s2 : ByteArray) (w : World) :
    (binOp .eql 26 (.agg #[.int .i64 k1, .int .i64 n1, .string s1]) (.agg #[.int .i64 k2, .int .i64 n2, .string s2])).run Try.prog w = .ok (.bool (eqB k1 n1 s1 k2 n2 s2)) w := by
  rw [run_eql_struct, eq26]; rfl
end Go.Proofs.Ytakbnhknkbmhlaa
