/-
  The law's own numbers hold: live answers true.
-/
import Derived.Test.YtoiiekmkcpcbgaaTen
import Derived.Test.YtoiiekmkcpcbgaaText
import Derived.Test.YtoiiekmkcpcbgaaMulb
import Derived.Test.YtoiiekmkcpcbgaaCmp
namespace Go.Proofs.Ytoiiekmkcpcbgaa
open Go.RowKit
theorem nv1000 : nv (10 ^ 3) = .agg #[.int .u64 1000, .int .u64 0, .int .u64 0, .int .u64 0] := by simp [nv, l0, l1, l2, l3]
theorem nv2 : nv 2 = .agg #[.int .u64 2, .int .u64 0, .int .u64 0, .int .u64 0] := by simp [nv, l0, l1, l2, l3]
theorem nvh : nv (vl 0 0 0 9223372036854775808 * vl 2 0 0 0 / MM) = .agg #[.int .u64 1, .int .u64 0, .int .u64 0, .int .u64 0] := by
  rw [show vl 0 0 0 9223372036854775808 * vl 2 0 0 0 / MM = 1 from by decide]; simp [nv, l0, l1, l2, l3]
theorem nvl : nv (vl 0 0 0 9223372036854775808 * vl 2 0 0 0) = .agg #[.int .u64 0, .int .u64 0, .int .u64 0, .int .u64 0] := by
  rw [show vl 0 0 0 9223372036854775808 * vl 2 0 0 0 = MM from by decide]; simp [nv, l0, l1, l2, l3, MM]
theorem txt1000 : strOf (decF 78 1000) = ⟨#[49, 48, 48, 48]⟩ := by decide
theorem cmp1000 : cm (vl 1000 0 0 0) (vl 0 0 0 0) = 1 := by decide
theorem text_1000 (w : World) : Calls Try.prog 24 #[.agg #[.int .u64 1000, .int .u64 0, .int .u64 0, .int .u64 0]] w fun e w' => e = .returned (.string ⟨#[49, 48, 48, 48]⟩) ∧ Mo w w' := by
  have h := text_n (10 ^ 3) w (by decide) (by decide)
  rw [nv1000, show ((10 : Int) ^ 3) = 1000 from by decide, txt1000] at h
  exact h
set_option maxHeartbeats 1000000 in
theorem live_any (w : World) : Calls Try.prog 17 #[] w fun e w' => e = .returned (.bool true) ∧ Mo w w' := by
  have q4 := eq4
  go_enter Try.func17, Try.ntmps17
  go_wp2_with fail
  refine (ten_yes 3 _ (by decide)).mono ?_
  rintro e w1 ⟨rfl, hm1⟩
  rw [nv1000]
  go_wp2_with fail
  refine (from20_any 2 _ ⟨by decide, by decide⟩).mono ?_
  rintro e w2 ⟨rfl, hm2⟩
  rw [nv2]
  have hc2 := hm2.cell
  have hz2 := hm2.size
  simp only [World.size_alloc] at hc2 hz2
  go_wp2_with fail
  refine (mul_any 0 0 0 9223372036854775808 2 0 0 0 _ ⟨⟨by decide, by decide⟩, ⟨by decide, by decide⟩, ⟨by decide, by decide⟩, ⟨by decide, by decide⟩⟩ ⟨⟨by decide, by decide⟩, ⟨by decide, by decide⟩, ⟨by decide, by decide⟩, ⟨by decide, by decide⟩⟩).mono ?_
  rintro e w3 ⟨rfl, hm3⟩
  rw [nvh, nvl]
  have hc3 := hm3.cell
  have hz3 := hm3.size
  have z1 : w1.heap.size < w2.heap.size := by omega
  have z2 : w1.heap.size < w3.heap.size := by omega
  have z3 : w1.heap.size < w3.heap.size + 1 := by omega
  go_wp2_with fail
  refine (text_1000 _).mono ?_
  rintro e w4 ⟨rfl, hm4⟩
  have hc4 := hm4.cell
  have hz4 := hm4.size
  simp only [World.size_alloc] at hc4 hz4
  have z4 : w1.heap.size < w3.heap.size + 1 + 1 := by omega
  go_wp2_with fail
  refine (cmp15_any 1000 0 0 0 0 0 0 0 _ ⟨⟨by decide, by decide⟩, ⟨by decide, by decide⟩, ⟨by decide, by decide⟩, ⟨by decide, by decide⟩⟩ ⟨⟨by decide, by decide⟩, ⟨by decide, by decide⟩, ⟨by decide, by decide⟩, ⟨by decide, by decide⟩⟩).mono ?_
  rintro e w5 ⟨rfl, hm5⟩
  rw [cmp1000]
  go_wp2_with fail
  go_ret
  exact ⟨rfl, ((((hm1.alloc _ _).trans hm2).trans hm3).alloc _ _ |>.alloc _ _).trans (hm4.trans hm5)⟩
end Go.Proofs.Ytoiiekmkcpcbgaa
