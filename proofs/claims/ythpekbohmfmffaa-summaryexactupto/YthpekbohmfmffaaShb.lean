/-
  limb.shiftLeft and limb.shiftRight as products and quotients.
-/
import Derived.Test.YthpekbohmfmffaaSh
namespace Go.Proofs.Ythpekbohmfmffaa
open Go.RowKit
theorem nv_top (X c : Int) : nv (X + MM * c) = nv X := by
  rw [← nv_mod (X + MM * c), Int.add_mul_emod_self_left, nv_mod]
theorem nv_up (Y : Int) : nv (18446744073709551616 * Y) = .agg #[.int .u64 0, .int .u64 (l0 Y), .int .u64 (l1 Y), .int .u64 (l2 Y)] := by
  obtain ⟨a, b, c, d, _⟩ := sh (v := 0) (Y := Y) (by decide) (by decide)
  rw [Int.zero_add] at a b c d
  rw [nv, a, b, c, d]
theorem nv_down {Y : Int} (h0 : 0 ≤ Y) (h : Y < MM) : nv (Y / 18446744073709551616) = .agg #[.int .u64 (l1 Y), .int .u64 (l2 Y), .int .u64 (l3 Y), .int .u64 0] := by
  have a : l0 (Y / 18446744073709551616) = l1 Y := by unfold l0 l1; rfl
  have b : l1 (Y / 18446744073709551616) = l2 Y := by unfold l1 l2; omega
  have c : l2 (Y / 18446744073709551616) = l3 Y := by unfold l2 l3; omega
  have d : l3 (Y / 18446744073709551616) = 0 := by unfold l3; unfold MM at h; omega
  rw [nv, a, b, c, d]
theorem cases64 (n : Int) (h0 : 0 ≤ n) (h : n ≤ 256) : ∃ r : Nat, r < 64 ∧ n % 64 = (r : Int) ∧ (n / 64 = 0 ∨ n / 64 = 1 ∨ n / 64 = 2 ∨ n / 64 = 3 ∨ n / 64 = 4) :=
  ⟨(n % 64).toNat, by omega, by omega, by omega⟩
theorem pow64 (n : Int) (r k : Nat) (h0 : 0 ≤ n) (hr : n % 64 = (r : Int)) (hk : n / 64 = (k : Int)) : (2 : Int) ^ n.toNat = 2 ^ r * 18446744073709551616 ^ k := by
  rw [show n.toNat = r + 64 * k from by omega, Int.pow_add, Int.pow_mul]; rfl
end Go.Proofs.Ythpekbohmfmffaa
