/-
  math/bits.Div64 where the high word is 0, limb.divLimb of a number of one limb: the walks.
-/
import Derived.Test.YthpekbohmfmffaaAid
namespace Go.Proofs.Ythpekbohmfmffaa
open Go.RowKit
end Go.Proofs.Ythpekbohmfmffaa
