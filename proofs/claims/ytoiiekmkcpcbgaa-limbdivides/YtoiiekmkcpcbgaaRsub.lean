/-
  The document's Sub, whatever the numbers: the walk.
-/
import Derived.Test.YtoiiekmkcpcbgaaDiv
import Derived.Test.YtoiiekmkcpcbgaaRadd
import Derived.Test.YtoiiekmkcpcbgaaAlc
namespace Go.Proofs.Ytoiiekmkcpcbgaa
open Go.RowKit
/-- The blocks of the call: the two numbers and the result. -/
def SW (w wx : World) (a b : Int) : Prop := Mo w wx ∧ AtN wx w.heap.size a ∧ AtN wx (w.heap.size + 1) b ∧ AtN wx (w.heap.size + 1 + 1) 0
theorem SW.mo {w wx w1 : World} {a b : Int} (v : SW w wx a b) (m : Mo wx w1) : SW w w1 a b := by
  obtain ⟨v1, v2, v3, v4⟩ := v
  exact ⟨v1.trans m, v2.mo m, v3.mo m, v4.mo m⟩
theorem SW.setk {w wx : World} {a b : Int} (v : SW w wx a b) {k : Nat} (hk : w.heap.size + 1 + 1 < k) (z : Int) : SW w (st4 wx k z) a b := by
  obtain ⟨v1, v2, v3, v4⟩ := v
  exact ⟨v1.st4 (by omega) z, v2.other (by omega) z, v3.other (by omega) z, v4.other (by omega) z⟩
theorem SW.start (w : World) (a b : Int) : SW w (((w.alloc (.cells #[.int .u64 (l0 a), .int .u64 (l1 a), .int .u64 (l2 a), .int .u64 (l3 a)] 24)).alloc (.cells #[.int .u64 (l0 b), .int .u64 (l1 b), .int .u64 (l2 b), .int .u64 (l3 b)] 24)).alloc (.cells #[.int .u64 0, .int .u64 0, .int .u64 0, .int .u64 0] 24)) a b := by
  have z0 : l0 0 = 0 := by decide
  have z1 : l1 0 = 0 := by decide
  have z2 : l2 0 = 0 := by decide
  have z3 : l3 0 = 0 := by decide
  refine ⟨(((Mo.refl _).alloc _ _).alloc _ _).alloc _ _, ⟨by simp [At4, go_sem], fun o => by simp [go_sem], by simp <;> omega⟩, ⟨by simp [At4, go_sem], fun o => by simp [go_sem], by simp <;> omega⟩, ⟨by simp [At4, go_sem, z0, z1, z2, z3], fun o => by simp [go_sem], by simp <;> omega⟩⟩

set_option maxHeartbeats 4000000 in
theorem rsub_n (A B : Int) (w : World) (hA0 : 0 ≤ A) (hAM : A < MM) (hB0 : 0 ≤ B) (hBM : B < MM) :
    Calls Try.prog 66 #[nv A, nv B] w fun e w' =>
      e = .returned (.tuple #[nv (A - B), .bool (un (A - B))]) ∧ Mo w w' := by
  have hcm : decide (cm A B < 0) = un (A - B) := by
    unfold cm un
    by_cases h : A < B
    · rw [if_pos h, decide_eq_true (by decide), decide_eq_true (by omega)]
    · rw [if_neg h, decide_eq_false (p := A - B < 0) (by omega)]
      split <;> decide
  have Hcm : Hid _ := hcm
  clear hcm
  have v0 := SW.start w A B
  have H1 : Hid (nv (A + (MM - 1 - B) % MM) = nv (A + (MM - 1 - B))) := by
    show _ = _
    rw [← nv_mod (A + (MM - 1 - B) % MM), Int.add_emod_emod, nv_mod]
  have H2 : Hid (nv ((A + (MM - 1 - B)) % MM + 1 % MM) = nv (A - B)) := by
    show _ = _
    rw [nv_add_mod, show A + (MM - 1 - B) + 1 = A - B + MM * 1 from by omega, nv_top]
  go_enter Try.func66, Try.ntmps66
  go_upto_region 1 with fail
  revert v0
  generalize ((w.alloc (.cells #[.int .u64 (l0 A), .int .u64 (l1 A), .int .u64 (l2 A), .int .u64 (l3 A)] 24)).alloc (.cells #[.int .u64 (l0 B), .int .u64 (l1 B), .int .u64 (l2 B), .int .u64 (l3 B)] 24)).alloc (.cells #[.int .u64 0, .int .u64 0, .int .u64 0, .int .u64 0] 24) = W0
  intro v0
  go_cut [6, 7] from 8 to 14 (fun s6 _ wx => ∃ k, s6 = .pointer (some ⟨k, 0, none⟩) ∧ w.heap.size + 1 + 1 < k ∧ SW w wx A B ∧ AtN wx k (A + (MM - 1 - B)))
  case first =>
    have v0z := v0
    obtain ⟨_, ⟨⟨c0, c1, c2, c3⟩, _, x1⟩, ⟨⟨d0, d1, d2, d3⟩, _, x2⟩, _, _, x3⟩ := v0z
    go_region_held3 (fun w' => w'.cell? ⟨w.heap.size, 0, none⟩ = some (.int .u64 (l0 A)) ∧ w'.cell? ⟨w.heap.size, 1, none⟩ = some (.int .u64 (l1 A)) ∧ w'.cell? ⟨w.heap.size, 2, none⟩ = some (.int .u64 (l2 A)) ∧ w'.cell? ⟨w.heap.size, 3, none⟩ = some (.int .u64 (l3 A)) ∧ w'.cell? ⟨w.heap.size + 1, 0, none⟩ = some (.int .u64 (l0 B)) ∧ w'.cell? ⟨w.heap.size + 1, 1, none⟩ = some (.int .u64 (l1 B)) ∧ w'.cell? ⟨w.heap.size + 1, 2, none⟩ = some (.int .u64 (l2 B)) ∧ w'.cell? ⟨w.heap.size + 1, 3, none⟩ = some (.int .u64 (l3 B))) (simp [go_sem, World.cell?_alloc_past, *])
      (first | (go_at_call 98; refine (not_any (l0 B) (l1 B) (l2 B) (l3 B) _ (u4_lb B)).mono ?_; rintro e w1 ⟨rfl, hm1⟩; rw [vl_lb B hB0 hBM]; have v1 := v0.mo (Mo.trans (by repeat (first | with_reducible exact Mo.refl _ | with_reducible apply Mo.drew | with_reducible apply Mo.alloc)) hm1); (try (with_reducible have k1 := At0.mk1 hm1)); have v1z := v1; obtain ⟨_, ⟨⟨e0, e1, e2, e3⟩, _, y1⟩, ⟨⟨f0, f1, f2, f3⟩, _, y2⟩, _, _, y3⟩ := v1z) | (go_at_call 64; refine (radd_any (l0 A) (l1 A) (l2 A) (l3 A) _ _ _ _ _ (u4_lb A) (u4_lb _)).mono ?_; rintro e w2 ⟨rfl, hm2⟩; rw [vl_lb A hA0 hAM, vl_nv, H1.out]; have m2 : Mo w1 w2 := Mo.trans (by repeat (first | with_reducible exact Mo.refl _ | with_reducible apply Mo.drew | with_reducible apply Mo.alloc)) hm2; (try (with_reducible have k2 := At0.mk2 hm2)); (try (with_reducible have k2 := k1.mo m2)); (try have k3 := k2); (try obtain ⟨⟨i0, i1, i2, i3⟩, ff, y9⟩ := k2); (try have ff := fun o => ff o); have v2 := v1.mo m2; have v2z := v2; obtain ⟨_, ⟨⟨g0, g1, g2, g3⟩, _, y4⟩, ⟨⟨h0, h1, h2, h3⟩, _, y5⟩, _, _, y6⟩ := v2z))
    all_goals
      go_wp2
      go_meet
      case rel =>
        have z1 := hm1.size
        have z2 := m2.size
        simp at z1
        refine ⟨_, rfl, by omega, ?_, ?_⟩
        · first | exact v2.setk (by omega) _ | exact v2.mo ((Mo.refl _).alloc _ _)
        · first | exact k3.same _ | exact AtN.new _ _
  case rest =>
    clear v0
    obtain ⟨k, rfl, hk, v, n⟩ := hcut
    go_upto_region 2 with fail
    go_cut [] from 15 to 20 (fun wx => SW w wx A B ∧ AtN wx k (A - B))
    case first =>
      have vz := v
      have nz := n
      obtain ⟨⟨i0, i1, i2, i3⟩, _, x0⟩ := nz
      go_region_with
        (first | (go_at_call 69; refine (from34_any 1 _ ⟨by decide, by decide⟩).mono ?_; rintro e w1 ⟨rfl, hm1⟩; have m1 : Mo wc w1 := Mo.trans (by repeat (first | with_reducible exact Mo.refl _ | with_reducible apply Mo.drew | with_reducible apply Mo.alloc)) hm1; obtain ⟨⟨i0, i1, i2, i3⟩, _, x1⟩ := n.mo m1) | (go_at_call 64; refine (radd_any (l0 (A + (MM - 1 - B))) (l1 (A + (MM - 1 - B))) (l2 (A + (MM - 1 - B))) (l3 (A + (MM - 1 - B))) (l0 1) (l1 1) (l2 1) (l3 1) _ (u4_lb _) (u4_lb _)).mono ?_; rintro e w2 ⟨rfl, hm2⟩; rw [vl_nv (A + (MM - 1 - B)), vl_nv 1, H2.out]; have m2 : Mo w1 w2 := Mo.trans (by repeat (first | with_reducible exact Mo.refl _ | with_reducible apply Mo.drew | with_reducible apply Mo.alloc)) hm2; have m3 := m1.trans m2; obtain ⟨⟨i0, i1, i2, i3⟩, ff, x1⟩ := n.mo m3; have ff := fun o => ff o))
      all_goals
        go_wp2
        go_meet
        case rel => exact ⟨(v.mo m3).setk hk _, (n.mo m3).same _⟩
    case rest =>
      clear v n
      obtain ⟨v, n⟩ := hcut
      go_upto_region 3 with fail
      go_cut [5] from 21 to 25 (fun s5 wx => s5 = .bool (un (A - B)) ∧ AtN wx (w.heap.size + 1 + 1) (A - B) ∧ Mo w wx)
      case first =>
        have hcm := Hcm.out
        have vz := v
        have nz := n
        obtain ⟨_, ⟨⟨c0, c1, c2, c3⟩, _, x1⟩, ⟨⟨d0, d1, d2, d3⟩, _, x2⟩, _, _, x3⟩ := vz
        obtain ⟨⟨i0, i1, i2, i3⟩, _, x0⟩ := nz
        have ne : ¬ k = w.heap.size + 1 + 1 := by omega
        go_region_held3 (fun w' => w'.cell? ⟨w.heap.size, 0, none⟩ = some (.int .u64 (l0 A)) ∧ w'.cell? ⟨w.heap.size, 1, none⟩ = some (.int .u64 (l1 A)) ∧ w'.cell? ⟨w.heap.size, 2, none⟩ = some (.int .u64 (l2 A)) ∧ w'.cell? ⟨w.heap.size, 3, none⟩ = some (.int .u64 (l3 A)) ∧ w'.cell? ⟨w.heap.size + 1, 0, none⟩ = some (.int .u64 (l0 B)) ∧ w'.cell? ⟨w.heap.size + 1, 1, none⟩ = some (.int .u64 (l1 B)) ∧ w'.cell? ⟨w.heap.size + 1, 2, none⟩ = some (.int .u64 (l2 B)) ∧ w'.cell? ⟨w.heap.size + 1, 3, none⟩ = some (.int .u64 (l3 B)) ∧ w'.cell? ⟨k, 0, none⟩ = some (.int .u64 (l0 (A - B))) ∧ w'.cell? ⟨k, 1, none⟩ = some (.int .u64 (l1 (A - B))) ∧ w'.cell? ⟨k, 2, none⟩ = some (.int .u64 (l2 (A - B))) ∧ w'.cell? ⟨k, 3, none⟩ = some (.int .u64 (l3 (A - B)))) (simp [go_sem, *])
          (first | (go_at_call 63; refine (cmp16_any (l0 A) (l1 A) (l2 A) (l3 A) (l0 B) (l1 B) (l2 B) (l3 B) _ (u4_lb A) (u4_lb B)).mono ?_; rintro e w1 ⟨rfl, hm1⟩; rw [vl_lb A hA0 hAM, vl_lb B hB0 hBM]; have m1 : Mo wc w1 := Mo.trans (by repeat (first | with_reducible exact Mo.refl _ | with_reducible apply Mo.drew | with_reducible apply Mo.alloc)) hm1; have v1 := v.mo m1; obtain ⟨q1, ⟨⟨c0, c1, c2, c3⟩, _, y1⟩, ⟨⟨d0, d1, d2, d3⟩, _, y2⟩, ⟨⟨e0, e1, e2, e3⟩, fe, y3⟩⟩ := v1; obtain ⟨⟨i0, i1, i2, i3⟩, _, y0⟩ := n.mo m1; have fe := fun o => fe o))
        all_goals
          go_wp2
          go_meet
          case rel =>
            have v1 := v.mo m1
            exact ⟨rfl, v1.2.2.2.same _, v1.1.st4 (by omega) _⟩
      case rest =>
        obtain ⟨rfl, ⟨⟨a0, a1, a2, a3⟩, _, _⟩, hmo⟩ := hcut
        go_wp2
        refine bodyPost_ret (v := .tuple #[nv (A - B), .bool (un (A - B))]) (by simp [results, Try.results66, go_sem, a0, a1, a2, a3]) rfl ?_
        exact ⟨rfl, hmo⟩
end Go.Proofs.Ytoiiekmkcpcbgaa
