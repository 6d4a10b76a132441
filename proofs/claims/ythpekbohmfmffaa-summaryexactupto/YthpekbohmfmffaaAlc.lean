/-
  More small facts on worlds.
-/
import Derived.Test.YthpekbohmfmffaaDvw
import Derived.Test.YthpekbohmfmffaaEq
import Derived.Test.YthpekbohmfmffaaMulb
namespace Go.Proofs.Ythpekbohmfmffaa
open Go.RowKit
theorem At4.al1 {w : World} {k : Nat} {a b c d : Int} (h : At4 w k a b c d) (hk : k < w.heap.size) (x : Array Value) (t : TypeId) : At4 (w.alloc (.cells x t)) k a b c d := h.mo ((Mo.refl _).alloc _ _) hk
theorem At4.al2 {w : World} {k : Nat} {a b c d : Int} (h : At4 w k a b c d) (hk : k < w.heap.size) (x : Array Value) (t : TypeId) (y : Array Value) (u : TypeId) : At4 ((w.alloc (.cells x t)).alloc (.cells y u)) k a b c d := h.mo (((Mo.refl _).alloc _ _).alloc _ _) hk
theorem nv_add_mod (n m : Int) : nv (n % MM + m % MM) = nv (n + m) := by
  rw [← nv_mod (n % MM + m % MM), ← nv_mod (n + m), ← Int.add_emod]

theorem At4.st {w : World} {k j : Nat} {a b c d : Int} (h : At4 w j a b c d) (hk : j ≠ k) {z : Int} : At4 (st4 w k z) j a b c d :=
  (((h.set hk _ _).set hk _ _).set hk _ _).set hk _ _
theorem At4.st_same {w : World} {k : Nat} {a b c d : Int} (h : At4 w k a b c d) {z : Int} : At4 (st4 w k z) k (l0 z) (l1 z) (l2 z) (l3 z) := by
  obtain ⟨b0, b1, b2, b3⟩ := h
  simp [At4, go_sem, *]

end Go.Proofs.Ythpekbohmfmffaa
