/-
  The contracts of limb's functions and of the document's, in plain numbers.
-/
import Derived.Test.YtdcojpbgijkmgaaDoorRmul
import Derived.Test.YtdcojpbgijkmgaaDoorDiv
import Derived.Test.YtdcojpbgijkmgaaDoorRadd
import Derived.Test.YtdcojpbgijkmgaaDoorAlc
import Derived.Test.YtdcojpbgijkmgaaDoorTen
import Derived.Test.YtdcojpbgijkmgaaDoorText
import Derived.Test.YtdcojpbgijkmgaaDoorMulb
import Derived.Test.YtdcojpbgijkmgaaDoorCmp
namespace Go.Proofs.YtdcojpbgijkmgaaDoor
open Go.RowKit
theorem mul_n (A B : Int) (w : World) (hA0 : 0 ≤ A) (hAM : A < MM) (hB0 : 0 ≤ B) (hBM : B < MM) :
    Calls Tryd.prog 86 #[nv A, nv B] w fun e w' => e = .returned (.tuple #[nv (A * B / MM), nv (A * B)]) ∧ Mo w w' := by
  have h := mul_any (l0 A) (l1 A) (l2 A) (l3 A) (l0 B) (l1 B) (l2 B) (l3 B) w (u4_lb A) (u4_lb B)
  rw [vl_lb A hA0 hAM, vl_lb B hB0 hBM] at h
  exact h
theorem add_n (A B : Int) (w : World) (hA0 : 0 ≤ A) (hAM : A < MM) (hB0 : 0 ≤ B) (hBM : B < MM) :
    Calls Tryd.prog 72 #[nv A, nv B] w fun e w' => e = .returned (.tuple #[nv (A + B), .bool (ov (A + B))]) ∧ Mo w w' := by
  have h := add_any (l0 A) (l1 A) (l2 A) (l3 A) (l0 B) (l1 B) (l2 B) (l3 B) w (u4_lb A) (u4_lb B)
  rw [vl_lb A hA0 hAM, vl_lb B hB0 hBM] at h
  exact h
theorem radd_n (A B : Int) (w : World) (hA0 : 0 ≤ A) (hAM : A < MM) (hB0 : 0 ≤ B) (hBM : B < MM) :
    Calls Tryd.prog 56 #[nv A, nv B] w fun e w' => e = .returned (.tuple #[nv (A + B), .bool (ov (A + B))]) ∧ Mo w w' := by
  have h := radd_any (l0 A) (l1 A) (l2 A) (l3 A) (l0 B) (l1 B) (l2 B) (l3 B) w (u4_lb A) (u4_lb B)
  rw [vl_lb A hA0 hAM, vl_lb B hB0 hBM] at h
  exact h
theorem cmp_n (A B : Int) (w : World) (hA0 : 0 ≤ A) (hAM : A < MM) (hB0 : 0 ≤ B) (hBM : B < MM) :
    Calls Tryd.prog 61 #[nv A, nv B] w fun e w' => e = .returned (.int .i64 (cm A B)) ∧ Mo w w' := by
  have h := cmp15_any (l0 A) (l1 A) (l2 A) (l3 A) (l0 B) (l1 B) (l2 B) (l3 B) w (u4_lb A) (u4_lb B)
  rw [vl_lb A hA0 hAM, vl_lb B hB0 hBM] at h
  exact h
theorem div_n (H L D : Int) (w : World) (hH0 : 0 ≤ H) (hHM : H < MM) (hL0 : 0 ≤ L) (hLM : L < MM) (hD0 : 0 ≤ D) (hDM : D < MM) :
    Calls Tryd.prog 48 #[nv H, nv L, nv D] w fun e w' => e = .returned (.tuple #[nv (dq H L D), nv (dr H L D), .bool (dok H D)]) ∧ Mo w w' := by
  have h := div_any (l0 H) (l1 H) (l2 H) (l3 H) (l0 L) (l1 L) (l2 L) (l3 L) (l0 D) (l1 D) (l2 D) (l3 D) w (u4_lb H) (u4_lb L) (u4_lb D)
  rw [vl_lb H hH0 hHM, vl_lb L hL0 hLM, vl_lb D hD0 hDM] at h
  exact h
/-- == of two numbers. -/
theorem eqn (a b : Int) (w : World) : (Op.equalIn 10000 24 (nv a) (nv b)).run Tryd.prog w = .ok (decide (a % MM = b % MM)) w := by
  rw [eq4]
  congr 1
  rw [Bool.eq_iff_iff]
  simp
  constructor
  · rintro ⟨e0, e1, e2, e3⟩
    rw [← vl_nv a, ← vl_nv b, e0, e1, e2, e3]
  · intro h
    have h1 : nv a = nv b := by rw [← nv_mod a, ← nv_mod b, h]
    simp [nv] at h1
    exact h1
end Go.Proofs.YtdcojpbgijkmgaaDoor
