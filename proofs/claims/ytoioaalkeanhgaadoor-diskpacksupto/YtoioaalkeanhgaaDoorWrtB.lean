import Derived.Test.YtoioaalkeanhgaaDoorWrtA
namespace Go.Proofs.YtoioaalkeanhgaaDoor
open Go.RowKit
set_option linter.unusedVariables false
set_option maxRecDepth 100000
theorem zig_ref (x : Int) (hx : x < 0) (h1 : -9223372036854775808 ≤ x) : bits .xor .u64 IntKind.u64.max (IntKind.u64.wrap (IntKind.u64.wrap x * 2)) = ((zig x : Nat) : Int) := by
  rw [wrap64u, wrap64u]
  have e1 : x % 18446744073709551616 * 2 % 18446744073709551616 = (((18446744073709551616 + 2 * x).toNat : Nat) : Int) := by omega
  have e2 : IntKind.u64.max = ((18446744073709551615 : Nat) : Int) := by decide
  rw [e1, e2, u64_xor_nat _ _ (by decide) (by omega), Nat.xor_comm, xor_ones _ (by omega), zig_neg x hx]
  omega

end Go.Proofs.YtoioaalkeanhgaaDoor
