/-
  The document's Add and Sub, whatever the limbs: the walks.
-/
import Derived.Test.YthpekbohmfmffaaAddb
import Derived.Test.YthpekbohmfmffaaCmp
namespace Go.Proofs.Ythpekbohmfmffaa
open Go.RowKit
theorem vint {k : IntKind} {a b : Int} (h : a = b) : Value.int k a = .int k b := by rw [h]
theorem setl0 (X : World) (m N : Nat) (x0 x1 x2 x3 v u : Value) (hN : N = X.heap.size) (h : v = u) :
    ((X.alloc (.cells #[x0, x1, x2, x3] 24)).drewN m).setCell ⟨N, 0, none⟩ v = (X.alloc (.cells #[u, x1, x2, x3] 24)).drewN m := by
  subst hN; subst h
  show (((X.alloc (.cells #[x0, x1, x2, x3] 24)).setCell ⟨X.heap.size, 0, none⟩ v).drewN m) = _
  rw [World.setCell_alloc_at _ _ _ _ _ rfl]
  rfl
theorem setl1 (X : World) (m N : Nat) (x0 x1 x2 x3 v u : Value) (hN : N = X.heap.size) (h : v = u) :
    ((X.alloc (.cells #[x0, x1, x2, x3] 24)).drewN m).setCell ⟨N, 1, none⟩ v = (X.alloc (.cells #[x0, u, x2, x3] 24)).drewN m := by
  subst hN; subst h
  show (((X.alloc (.cells #[x0, x1, x2, x3] 24)).setCell ⟨X.heap.size, 1, none⟩ v).drewN m) = _
  rw [World.setCell_alloc_at _ _ _ _ _ rfl]
  rfl
theorem setl2 (X : World) (m N : Nat) (x0 x1 x2 x3 v u : Value) (hN : N = X.heap.size) (h : v = u) :
    ((X.alloc (.cells #[x0, x1, x2, x3] 24)).drewN m).setCell ⟨N, 2, none⟩ v = (X.alloc (.cells #[x0, x1, u, x3] 24)).drewN m := by
  subst hN; subst h
  show (((X.alloc (.cells #[x0, x1, x2, x3] 24)).setCell ⟨X.heap.size, 2, none⟩ v).drewN m) = _
  rw [World.setCell_alloc_at _ _ _ _ _ rfl]
  rfl
theorem setl3 (X : World) (m N : Nat) (x0 x1 x2 x3 v u : Value) (hN : N = X.heap.size) (h : v = u) :
    ((X.alloc (.cells #[x0, x1, x2, x3] 24)).drewN m).setCell ⟨N, 3, none⟩ v = (X.alloc (.cells #[x0, x1, x2, u] 24)).drewN m := by
  subst hN; subst h
  show (((X.alloc (.cells #[x0, x1, x2, x3] 24)).setCell ⟨X.heap.size, 3, none⟩ v).drewN m) = _
  rw [World.setCell_alloc_at _ _ _ _ _ rfl]
  rfl

theorem ov_eq {a b c d e f g h : Int} (h1 : U4 a b c d) (h2 : U4 e f g h) : ((vl a b c d + vl e f g h) / MM == 1) = ov (vl a b c d + vl e f g h) := by
  obtain ⟨p, q⟩ := vl_bd h1; obtain ⟨r, s⟩ := vl_bd h2
  unfold ov; unfold MM at *
  rw [Bool.eq_iff_iff]; simp; omega

end Go.Proofs.Ythpekbohmfmffaa
