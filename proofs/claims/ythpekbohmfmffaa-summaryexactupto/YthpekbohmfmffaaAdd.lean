/-
  limb.addCarry, limb.subBorrow, Add, Sub, From, Odd, whatever the limbs: the walks.
-/
import Derived.Test.YthpekbohmfmffaaNum
namespace Go.Proofs.Ythpekbohmfmffaa
open Go.RowKit

theorem addc_eq {a0 a1 a2 a3 b0 b1 b2 b3 n : Int} (_ha : U4 a0 a1 a2 a3) (_hb : U4 b0 b1 b2 b3) (hn : n = vl a0 a1 a2 a3 + vl b0 b1 b2 b3) :
   (a0 + b0) % 18446744073709551616 = l0 n ∧ (a1 + b1 + (a0 + b0) / 18446744073709551616) % 18446744073709551616 = l1 n ∧
   (a2 + b2 + (a1 + b1 + (a0 + b0) / 18446744073709551616) / 18446744073709551616) % 18446744073709551616 = l2 n ∧
   (a3 + b3 + (a2 + b2 + (a1 + b1 + (a0 + b0) / 18446744073709551616) / 18446744073709551616) / 18446744073709551616) % 18446744073709551616 = l3 n ∧
   (a3 + b3 + (a2 + b2 + (a1 + b1 + (a0 + b0) / 18446744073709551616) / 18446744073709551616) / 18446744073709551616) / 18446744073709551616 = n / MM := by
  subst hn
  unfold U4 U1 at _ha _hb; unfold vl l0 l1 l2 l3 MM
  omega

theorem subc_eq {a0 a1 a2 a3 b0 b1 b2 b3 n c1 c2 c3 : Int} (_ha : U4 a0 a1 a2 a3) (_hb : U4 b0 b1 b2 b3) (hn : n = vl a0 a1 a2 a3 - vl b0 b1 b2 b3) (h1 : c1 = bw a0 b0 0) (h2 : c2 = bw a1 b1 c1) (h3 : c3 = bw a2 b2 c2) :
   (a0 - b0) % 18446744073709551616 = l0 (n % MM) ∧ (a1 - b1 - c1) % 18446744073709551616 = l1 (n % MM) ∧ (a2 - b2 - c2) % 18446744073709551616 = l2 (n % MM) ∧ (a3 - b3 - c3) % 18446744073709551616 = l3 (n % MM) ∧ bw a3 b3 c3 = -(n / MM) := by
  subst hn
  unfold bw at *
  unfold U4 U1 at _ha _hb; unfold vl l0 l1 l2 l3 MM
  omega

end Go.Proofs.Ythpekbohmfmffaa
