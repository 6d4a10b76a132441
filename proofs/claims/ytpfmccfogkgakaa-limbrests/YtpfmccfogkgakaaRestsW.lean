/-
  exciselaw01.LimbRests answers true for every three numbers: the two ways joined.
-/
import Derived.Test.YtpfmccfogkgakaaRests
import Derived.Test.YtpfmccfogkgakaaRestsC
namespace Go.Proofs.Ytpfmccfogkgakaa
open Go.RowKit
theorem rests_walk (a0 a1 a2 a3 b0 b1 b2 b3 c0 c1 c2 c3 : Int) (w : World) (ha : U4 a0 a1 a2 a3) (hb : U4 b0 b1 b2 b3) (hc : U4 c0 c1 c2 c3) :
    Calls Try.prog 9 #[.agg #[.int .u64 a0, .int .u64 a1, .int .u64 a2, .int .u64 a3], .agg #[.int .u64 b0, .int .u64 b1, .int .u64 b2, .int .u64 b3], .agg #[.int .u64 c0, .int .u64 c1, .int .u64 c2, .int .u64 c3]] w fun e w' => e = .returned (.bool true) ∧ Mo w w' := by
  obtain ⟨a1', a2'⟩ := vl_bd ha
  obtain ⟨b1', b2'⟩ := vl_bd hb
  obtain ⟨c1', c2'⟩ := vl_bd hc
  rw [← nv_vl ha, ← nv_vl hb, ← nv_vl hc]
  generalize vl a0 a1 a2 a3 = H at *
  generalize vl b0 b1 b2 b3 = L at *
  generalize vl c0 c1 c2 c3 = D at *
  by_cases hlt : H < D
  · have hok : dok H D = true := decide_eq_true hlt
    have eq : dq H L D = (H * MM + L) / D := if_neg (by omega)
    have er : dr H L D = (H * MM + L) % D := if_neg (by omega)
    have bq := dq_bd (D := D) a1' b1' b2'
    have br := dr_bd (L := L) a1' c2'
    have lt : dr H L D < D := by rw [er]; exact Int.emod_lt_of_pos _ (by omega)
    have key := Int.mul_ediv_add_emod (H * MM + L) D
    rw [← eq, ← er, Int.mul_comm] at key
    have hcm : cm (dr H L D) D = -1 := if_pos lt
    have hsum : nv (dq H L D * D % MM + dr H L D) = nv L := by
      rw [← nv_mod, Int.emod_add_emod, key, Int.add_comm, Int.add_mul_emod_self_right, nv_mod]
    by_cases hLR : L < dr H L D
    · have x1 : dq H L D * D / MM + 1 = H := by unfold MM at *; omega
      have x2 : ov (dq H L D * D % MM + dr H L D) = true := decide_eq_true (by unfold MM at *; omega)
      exact rests_c H L D _ _ _ w a1' a2' b1' b2' c1' c2' hok rfl rfl rfl bq br hsum x2 x1 hcm
    · have x1 : dq H L D * D / MM = H := by unfold MM at *; omega
      have x2 : ov (dq H L D * D % MM + dr H L D) = false := decide_eq_false (by unfold MM at *; omega)
      exact rests_n H L D _ _ _ w a1' a2' b1' b2' c1' c2' hok rfl rfl rfl bq br hsum x2 x1 hcm
  · exact rests_no H L D w a1' a2' b1' b2' c1' c2' (decide_eq_false hlt)
end Go.Proofs.Ytpfmccfogkgakaa
