/-
  limb.Bits, the document's Bit and Bits, whatever the limbs: the walks.
-/
import Derived.Test.YthpekbohmfmffaaBitm
import Derived.Test.YthpekbohmfmffaaAid
namespace Go.Proofs.Ythpekbohmfmffaa
open Go.RowKit
theorem bl_le {a : Int} (h : U1 a) (h0 : a ≠ 0) : (Lib.bitLen a.toNat : Int) ≤ 64 ∧ (0 : Int) ≤ Lib.bitLen a.toNat := by
  obtain ⟨p, q⟩ := h
  obtain ⟨b1, b2, b3, b4⟩ := bitLen_bd 64 a.toNat (by omega) (by omega) (by omega)
  omega
end Go.Proofs.Ythpekbohmfmffaa
