/-
  math/bits.Div64 where the high word is 0, limb.divLimb of a number of one limb: the walks.
-/
import Derived.Test.YtdcojpbgijkmgaaDoorAid
namespace Go.Proofs.YtdcojpbgijkmgaaDoor
open Go.RowKit
set_option maxHeartbeats 1000000 in
theorem div64_0 (lo y : Int) (w : World) (h0 : 0 ≤ lo) (h1 : lo < 18446744073709551616) (h2 : 0 < y) (h3 : y < 18446744073709551616) :
    Calls Tryd.prog 69 #[.int .u64 0, .int .u64 lo, .int .u64 y] w fun e w' =>
      e = .returned (.tuple #[.int .u64 (lo / y), .int .u64 (lo % y)]) ∧ ∃ n, w' = w.drewN n := by
  have hy : (y == 0) = false := by rw [beq_eq_false_iff_ne]; omega
  have hy2 : ¬ y ≤ 0 := by omega
  have hy3 : y ≠ 0 := by omega
  go_enter Tryd.func69, Tryd.ntmps69
  go_wp2
  go_quiet (fail)
  go_wp2
  go_ret2
  exact ⟨rfl, _, rfl⟩
end Go.Proofs.YtdcojpbgijkmgaaDoor
