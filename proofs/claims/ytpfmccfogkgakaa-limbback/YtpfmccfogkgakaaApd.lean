/-
  limb.appendDigit, whatever the number and the digit: the walk.
-/
import Derived.Test.YtpfmccfogkgakaaDiv
import Derived.Test.YtpfmccfogkgakaaOrder
namespace Go.Proofs.Ytpfmccfogkgakaa
open Go.RowKit
/-- A number with one digit more fits. -/
def fits (A d : Int) : Bool := decide (A * 10 + d < MM)
theorem At0.st {w : World} {k j : Nat} (h : At0 w j) (hk : j ≠ k) (z : Int) : At0 (st4 w k z) j := by
  obtain ⟨⟨b0, b1, b2, b3⟩, f, s⟩ := h
  refine ⟨by simp [At4, go_sem, *], fun o => by simp [World.frozen?_setCell, f o], by simpa [World.setCell] using s⟩
set_option maxHeartbeats 1000000 in
theorem apd_any (A c : Int) (w : World) (hA0 : 0 ≤ A) (hAM : A < MM) (hc0 : 48 ≤ c) (hc1 : c ≤ 57) :
    Calls Try.prog 44 #[nv A, .int .u8 c] w fun e w' =>
      e = .returned (.tuple #[nv (A * 10 + (c - 48)), .bool (fits A (c - 48))]) ∧ Mo w w' := by
  have hT : (A * 10 / MM = 0 ∧ (!ov (A * 10 % MM + (c - 48))) = fits A (c - 48)) ∨ (A * 10 / MM ≠ 0 ∧ fits A (c - 48) = false) := by
    by_cases h : A * 10 / MM = 0
    · refine Or.inl ⟨h, ?_⟩
      unfold ov fits
      rw [Bool.eq_iff_iff]
      simp
      unfold MM at *
      omega
    · refine Or.inr ⟨h, decide_eq_false ?_⟩
      unfold MM at *
      omega
  have H1 : Hid (nv (A * 10 % MM + (c - 48) % MM) = nv (A * 10 + (c - 48))) := nv_add_mod _ _
  have H2 : Hid ((c - 48) % MM = c - 48) := by show _ = _; unfold MM; omega
  have hu : U1 (c - 48) := ⟨by omega, by omega⟩
  have w8 : IntKind.u8.wrap (c - 48) = c - 48 := by rw [IntKind.wrap_u8]; omega
  have w64 : IntKind.u64.wrap (c - 48) = c - 48 := by rw [IntKind.wrap_u64]; omega
  go_enter Try.func44, Try.ntmps44
  go_wp2_with fail
  refine (mulLimb_any (l0 A) (l1 A) (l2 A) (l3 A) 10 _ (u4_lb A) ⟨by decide, by decide⟩).mono ?_
  rintro e w1 ⟨rfl, hm1⟩
  rw [vl_lb A hA0 hAM]
  have Z1 : At0 w1 (w.heap.size + 1) := At0.mo ⟨by simp [At4, go_sem], fun o => by simp [go_sem], by simp⟩ hm1
  have M1 : Mo w w1 := (((Mo.refl _).alloc _ _).alloc _ _).trans hm1
  have a : Mo w1 (w1.alloc (.cells #[.int .u64 (l0 (A * 10)), .int .u64 (l1 (A * 10)), .int .u64 (l2 (A * 10)), .int .u64 (l3 (A * 10))] 24)) := (Mo.refl _).alloc _ _
  have Z2 := Z1.mo a
  have M2 := M1.trans a
  have n2 := AtN.new w1 (A * 10)
  have hz : w.heap.size + 1 < w1.heap.size := Z1.2.2
  clear hm1 a M1 Z1
  go_upto_region 2 with fail
  revert Z2 M2 n2
  generalize w1.alloc (.cells #[.int .u64 (l0 (A * 10)), .int .u64 (l1 (A * 10)), .int .u64 (l2 (A * 10)), .int .u64 (l3 (A * 10))] 24) = W0
  intro Z2 M2 n2
  go_cut [8, 9] from 15 to 23 (fun s8 s9 wx => ∃ k, s8 = .pointer (some ⟨k, 0, none⟩) ∧ s9 = .bool (ov (A * 10 % MM + (c - 48))) ∧ w.heap.size + 1 < k ∧ Mo w wx ∧ At0 wx (w.heap.size + 1) ∧ AtN wx k (A * 10 + (c - 48)))
  case first =>
    have nz := n2
    obtain ⟨⟨i0, i1, i2, i3⟩, _, x0⟩ := nz
    go_region_held3 (fun w' => w'.cell? ⟨w1.heap.size, 0, none⟩ = some (.int .u64 (l0 (A * 10))) ∧ w'.cell? ⟨w1.heap.size, 1, none⟩ = some (.int .u64 (l1 (A * 10))) ∧ w'.cell? ⟨w1.heap.size, 2, none⟩ = some (.int .u64 (l2 (A * 10))) ∧ w'.cell? ⟨w1.heap.size, 3, none⟩ = some (.int .u64 (l3 (A * 10)))) (simp [go_sem, World.cell?_alloc_past, *])
      (first | (go_at_call 20; refine (from20_any (c - 48) _ hu).mono ?_; rintro e w2 ⟨rfl, hm2⟩; have m2 : Mo W0 w2 := Mo.trans (by repeat (first | with_reducible exact Mo.refl _ | with_reducible apply Mo.drew | with_reducible apply Mo.alloc)) hm2; (try (with_reducible have k2 := At0.mk1 hm2)); obtain ⟨⟨e0, e1, e2, e3⟩, _, y1⟩ := n2.mo m2) | (go_at_call 10; refine (add_any (l0 (A * 10)) (l1 (A * 10)) (l2 (A * 10)) (l3 (A * 10)) (l0 (c - 48)) (l1 (c - 48)) (l2 (c - 48)) (l3 (c - 48)) _ (u4_lb _) (u4_lb _)).mono ?_; rintro e w3 ⟨rfl, hm3⟩; rw [vl_nv (A * 10), vl_nv (c - 48), H1.out, H2.out]; have m3 : Mo w2 w3 := Mo.trans (by repeat (first | with_reducible exact Mo.refl _ | with_reducible apply Mo.drew | with_reducible apply Mo.alloc)) hm3; (try (with_reducible have k3 := At0.mk2 hm3)); (try (with_reducible have k3 := k2.mo m3)); (try have k4 := k3); (try obtain ⟨⟨g0, g1, g2, g3⟩, ff, y9⟩ := k3); (try have ff := fun o => ff o); obtain ⟨⟨f0, f1, f2, f3⟩, _, y2⟩ := n2.mo (m2.trans m3)))
    all_goals
      go_wp2
      go_meet
      case rel =>
        have m := m2.trans m3
        have z1 := m2.size
        have z2 := m3.size
        refine ⟨_, rfl, rfl, by omega, ?_, ?_, ?_⟩
        · first | with_reducible exact (M2.trans m).alloc _ _ | exact (M2.trans m).st4 (by omega) _
        · first | with_reducible exact (Z2.mo m).mo ((Mo.refl _).alloc _ _) | exact (Z2.mo m).st (by omega) _
        · first | with_reducible exact AtN.new _ _ | exact k4.same _
  case rest =>
    obtain ⟨k, rfl, rfl, hk, M, Z, n⟩ := hcut
    obtain ⟨⟨i0, i1, i2, i3⟩, _, x0⟩ := n
    have Zz := Z
    obtain ⟨⟨c0, c1, c2, c3⟩, fc, zc⟩ := Zz
    have fc := fun o => fc o
    clear Z2 M2 n2
    rcases hT with ⟨hT, hf⟩ | ⟨hT, hf⟩
    · have tb : (A * 10 / MM == 0) = true := by rw [hT]; rfl
      have HF : Hid _ := hf
      clear hT hf
      go_wp2
      refine bodyPost_ret (v := .tuple #[nv (A * 10 + (c - 48)), .bool (!ov (A * 10 % MM + (c - 48)))]) (by simp [results, Try.results44, go_sem, c0, c1, c2, c3]) rfl ?_
      exact ⟨by rw [HF.out], M.st4 (by omega) _⟩
    · have tb : (A * 10 / MM == 0) = false := by simp [hT]
      have HF : Hid _ := hf
      clear hT hf
      go_wp2
      refine bodyPost_ret (v := .tuple #[nv (A * 10 + (c - 48)), .bool false]) (by simp [results, Try.results44, go_sem, c0, c1, c2, c3]) rfl ?_
      exact ⟨by rw [HF.out], M.st4 (by omega) _⟩
end Go.Proofs.Ytpfmccfogkgakaa
