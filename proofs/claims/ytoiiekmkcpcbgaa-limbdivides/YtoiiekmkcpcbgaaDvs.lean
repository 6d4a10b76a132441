/-
  exciselaw01.LimbDivides answers true for every three numbers: quotient and rest are the document's.
-/
import Derived.Test.YtoiiekmkcpcbgaaRdiv
namespace Go.Proofs.Ytoiiekmkcpcbgaa
open Go.RowKit
set_option maxHeartbeats 4000000 in
theorem divides_n (A B C : Int) (w : World) (hA0 : 0 ≤ A) (hAM : A < MM) (hB0 : 0 ≤ B) (hBM : B < MM) (hC0 : 0 ≤ C) (hCM : C < MM) :
    Calls Try.prog 4 #[nv A, nv B, nv C] w fun e w' => e = .returned (.bool true) ∧ Mo w w' := by
  have q4 := eq4
  go_enter Try.func4, Try.ntmps4
  go_wp2_with fail
  refine (div_n A B C _ hA0 hAM hB0 hBM hC0 hCM).mono ?_
  rintro e w1 ⟨rfl, hm1⟩
  have Qa : AtN w1 w.heap.size A := AtN.mo ⟨by simp [At4, go_sem], fun o => by simp [go_sem], by simp <;> omega⟩ hm1
  have Qb : AtN w1 (w.heap.size + 1) B := AtN.mo ⟨by simp [At4, go_sem], fun o => by simp [go_sem], by simp <;> omega⟩ hm1
  have Qc : AtN w1 (w.heap.size + 1 + 1) C := AtN.mo ⟨by simp [At4, go_sem], fun o => by simp [go_sem], by simp <;> omega⟩ hm1
  have M1 : Mo w w1 := Mo.trans (by repeat (first | with_reducible exact Mo.refl _ | with_reducible apply Mo.alloc)) hm1
  obtain ⟨⟨a0, a1, a2, a3⟩, _, sa⟩ := Qa
  obtain ⟨⟨b0, b1, b2, b3⟩, _, sb⟩ := Qb
  obtain ⟨⟨c0, c1, c2, c3⟩, _, sc⟩ := Qc
  go_wp2_with fail
  refine (rdiv_n A B C _ hA0 hAM hB0 hBM hC0 hCM).mono ?_
  rintro e w2 ⟨rfl, hm2⟩
  have Qh : AtN w2 w1.heap.size (dq A B C) := AtN.mo ⟨by simp [At4, go_sem], fun o => by simp [go_sem], by simp <;> omega⟩ hm2
  have Ql : AtN w2 (w1.heap.size + 1) (dr A B C) := AtN.mo ⟨by simp [At4, go_sem], fun o => by simp [go_sem], by simp <;> omega⟩ hm2
  have M2 : Mo w w2 := M1.trans (Mo.trans (by repeat (first | with_reducible exact Mo.refl _ | with_reducible apply Mo.alloc)) hm2)
  clear a0 a1 a2 a3 b0 b1 b2 b3 sa sb
  go_wp2_with fail
  refine (live_any _).mono ?_
  rintro e w3 ⟨rfl, hm3⟩
  have m3 : Mo w2 w3 := Mo.trans (by repeat (first | with_reducible exact Mo.refl _ | with_reducible apply Mo.alloc)) hm3
  have Qi : AtN w3 w2.heap.size (dq A B C) := AtN.mo ⟨by simp [At4, go_sem], fun o => by simp [go_sem], by simp <;> omega⟩ hm3
  have Qk : AtN w3 (w2.heap.size + 1) (dr A B C) := AtN.mo ⟨by simp [At4, go_sem], fun o => by simp [go_sem], by simp <;> omega⟩ hm3
  have Qh := Qh.mo m3
  have Ql := Ql.mo m3
  have M3 : Mo w w3 := M2.trans m3
  obtain ⟨⟨a0, a1, a2, a3⟩, _, sa⟩ := Qh
  obtain ⟨⟨b0, b1, b2, b3⟩, _, sb⟩ := Ql
  obtain ⟨⟨c0, c1, c2, c3⟩, _, sc⟩ := Qi
  obtain ⟨⟨d0, d1, d2, d3⟩, _, sd⟩ := Qk
  go_wp2
  go_ret
  exact ⟨rfl, M3⟩
end Go.Proofs.Ytoiiekmkcpcbgaa
