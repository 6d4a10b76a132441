/-
  The document's Bit, whatever the number: the walks.
-/
import Derived.Test.YthpekbohmfmffaaDvw
namespace Go.Proofs.Ythpekbohmfmffaa
open Go.RowKit
theorem and_one (a : Int) (h0 : 0 ≤ a) (h1 : a < 18446744073709551616) : bits .and .u64 a 1 = a % 2 := by
  obtain ⟨x, rfl⟩ := Int.eq_ofNat_of_zero_le h0
  have e := bits_and_u64_nat x 1 (by omega) (by decide)
  rw [Nat.and_one_is_mod] at e
  rw [show ((1 : Nat) : Int) = 1 from rfl] at e
  rw [e]; omega
theorem sh_bd {a : Int} (h : U1 a) (r : Nat) : 0 ≤ a / 2 ^ r ∧ a / 2 ^ r < 18446744073709551616 := by
  obtain ⟨p, q⟩ := h
  have hp : (0 : Int) < 2 ^ r := Int.pow_pos (by decide)
  refine ⟨Int.ediv_nonneg p (by omega), ?_⟩
  have := Int.ediv_le_self (2 ^ r) p
  omega
end Go.Proofs.Ythpekbohmfmffaa
