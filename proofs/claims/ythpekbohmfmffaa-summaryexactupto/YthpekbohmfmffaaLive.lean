/-
  The law's own numbers hold: live answers true.
-/
import Derived.Test.YthpekbohmfmffaaTen
import Derived.Test.YthpekbohmfmffaaText
import Derived.Test.YthpekbohmfmffaaMulb
import Derived.Test.YthpekbohmfmffaaCmp
namespace Go.Proofs.Ythpekbohmfmffaa
open Go.RowKit
theorem nv1000 : nv (10 ^ 3) = .agg #[.int .u64 1000, .int .u64 0, .int .u64 0, .int .u64 0] := by simp [nv, l0, l1, l2, l3]
theorem nv2 : nv 2 = .agg #[.int .u64 2, .int .u64 0, .int .u64 0, .int .u64 0] := by simp [nv, l0, l1, l2, l3]
theorem nvh : nv (vl 0 0 0 9223372036854775808 * vl 2 0 0 0 / MM) = .agg #[.int .u64 1, .int .u64 0, .int .u64 0, .int .u64 0] := by
  rw [show vl 0 0 0 9223372036854775808 * vl 2 0 0 0 / MM = 1 from by decide]; simp [nv, l0, l1, l2, l3]
theorem nvl : nv (vl 0 0 0 9223372036854775808 * vl 2 0 0 0) = .agg #[.int .u64 0, .int .u64 0, .int .u64 0, .int .u64 0] := by
  rw [show vl 0 0 0 9223372036854775808 * vl 2 0 0 0 = MM from by decide]; simp [nv, l0, l1, l2, l3, MM]
theorem txt1000 : strOf (decF 78 1000) = ⟨#[49, 48, 48, 48]⟩ := by decide
theorem cmp1000 : cm (vl 1000 0 0 0) (vl 0 0 0 0) = 1 := by decide
end Go.Proofs.Ythpekbohmfmffaa
