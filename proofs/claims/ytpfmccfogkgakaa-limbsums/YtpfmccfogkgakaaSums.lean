/-
  exciselaw01.LimbSums answers true for every two numbers: sums, differences, how they stand, bits.
-/
import Derived.Test.YtpfmccfogkgakaaRsub
import Derived.Test.YtpfmccfogkgakaaRbits
import Derived.Test.YtpfmccfogkgakaaLive
namespace Go.Proofs.Ytpfmccfogkgakaa
open Go.RowKit
theorem nv_small {u : Int} (h : U1 u) : nv u = .agg #[.int .u64 u, .int .u64 0, .int .u64 0, .int .u64 0] := by
  have e0 : l0 u = u := by unfold U1 at h; unfold l0; omega
  have e1 : l1 u = 0 := by unfold U1 at h; unfold l1; omega
  have e2 : l2 u = 0 := by unfold U1 at h; unfold l2; omega
  have e3 : l3 u = 0 := by unfold U1 at h; unfold l3; omega
  rw [nv, e0, e1, e2, e3]

set_option maxHeartbeats 8000000 in
theorem sums_n (A B : Int) (w : World) (hA0 : 0 ≤ A) (hAM : A < MM) (hB0 : 0 ≤ B) (hBM : B < MM) :
    Calls Try.prog 3 #[nv A, nv B] w fun e w' => e = .returned (.bool true) ∧ Mo w w' := by
  have q4 := eq4
  go_enter Try.func3, Try.ntmps3
  go_wp2_with fail
  refine (add_any (l0 A) (l1 A) (l2 A) (l3 A) (l0 B) (l1 B) (l2 B) (l3 B) _ (u4_lb A) (u4_lb B)).mono ?_
  rintro e w1 ⟨rfl, hm1⟩
  rw [vl_lb A hA0 hAM, vl_lb B hB0 hBM]
  have hz1 := hm1.size
  simp only [World.size_alloc] at hz1
  have Qa : At4 w1 (w.heap.size) (l0 A) (l1 A) (l2 A) (l3 A) := At4.mo (by simp [At4, go_sem]) hm1 (by first | omega | (simp <;> omega))
  have sa : w.heap.size < w1.heap.size := by omega
  have sax : w.heap.size < w1.heap.size + 1 := by omega
  have Oa := Qa
  obtain ⟨oa0, oa1, oa2, oa3⟩ := Oa
  have Qb : At4 w1 (w.heap.size + 1) (l0 B) (l1 B) (l2 B) (l3 B) := At4.mo (by simp [At4, go_sem]) hm1 (by first | omega | (simp <;> omega))
  have sb : w.heap.size + 1 < w1.heap.size := by omega
  have sbx : w.heap.size + 1 < w1.heap.size + 1 := by omega
  have Ob := Qb
  obtain ⟨ob0, ob1, ob2, ob3⟩ := Ob
  go_wp2_with fail
  refine (radd_any (l0 A) (l1 A) (l2 A) (l3 A) (l0 B) (l1 B) (l2 B) (l3 B) _ (u4_lb A) (u4_lb B)).mono ?_
  rintro e w2 ⟨rfl, hm2⟩
  rw [vl_lb A hA0 hAM, vl_lb B hB0 hBM]
  have hz2 := hm2.size
  simp only [World.size_alloc] at hz2
  clear oa0 oa1 oa2 oa3 ob0 ob1 ob2 ob3
  have Qa := (Qa.al1 sa _ _).mo hm2 (by first | omega | (simp <;> omega))
  have sa : w.heap.size < w2.heap.size := by omega
  have sax : w.heap.size < w2.heap.size + 1 := by omega
  have Oa := Qa
  obtain ⟨oa0, oa1, oa2, oa3⟩ := Oa
  have Qb := (Qb.al1 sb _ _).mo hm2 (by first | omega | (simp <;> omega))
  have sb : w.heap.size + 1 < w2.heap.size := by omega
  have sbx : w.heap.size + 1 < w2.heap.size + 1 := by omega
  have Ob := Qb
  obtain ⟨ob0, ob1, ob2, ob3⟩ := Ob
  have Qs : At4 w2 (w1.heap.size) (l0 (A + B)) (l1 (A + B)) (l2 (A + B)) (l3 (A + B)) := At4.mo (by simp [At4, go_sem]) hm2 (by first | omega | (simp <;> omega))
  have ss : w1.heap.size < w2.heap.size := by omega
  have ssx : w1.heap.size < w2.heap.size + 1 := by omega
  have Os := Qs
  obtain ⟨os0, os1, os2, os3⟩ := Os
  go_wp2_with fail
  refine (sub_any (l0 A) (l1 A) (l2 A) (l3 A) (l0 B) (l1 B) (l2 B) (l3 B) _ (u4_lb A) (u4_lb B)).mono ?_
  rintro e w3 ⟨rfl, hm3⟩
  rw [vl_lb A hA0 hAM, vl_lb B hB0 hBM, nv_mod]
  have hz3 := hm3.size
  simp only [World.size_alloc] at hz3
  clear oa0 oa1 oa2 oa3 ob0 ob1 ob2 ob3 os0 os1 os2 os3
  have Qa := (Qa.al1 sa _ _).mo hm3 (by first | omega | (simp <;> omega))
  have sa : w.heap.size < w3.heap.size := by omega
  have sax : w.heap.size < w3.heap.size + 1 := by omega
  have Oa := Qa
  obtain ⟨oa0, oa1, oa2, oa3⟩ := Oa
  have Qb := (Qb.al1 sb _ _).mo hm3 (by first | omega | (simp <;> omega))
  have sb : w.heap.size + 1 < w3.heap.size := by omega
  have sbx : w.heap.size + 1 < w3.heap.size + 1 := by omega
  have Ob := Qb
  obtain ⟨ob0, ob1, ob2, ob3⟩ := Ob
  have Qs := (Qs.al1 ss _ _).mo hm3 (by first | omega | (simp <;> omega))
  have ss : w1.heap.size < w3.heap.size := by omega
  have ssx : w1.heap.size < w3.heap.size + 1 := by omega
  have Os := Qs
  obtain ⟨os0, os1, os2, os3⟩ := Os
  have Qt : At4 w3 (w2.heap.size) (l0 (A + B)) (l1 (A + B)) (l2 (A + B)) (l3 (A + B)) := At4.mo (by simp [At4, go_sem]) hm3 (by first | omega | (simp <;> omega))
  have st : w2.heap.size < w3.heap.size := by omega
  have stx : w2.heap.size < w3.heap.size + 1 := by omega
  have Ot := Qt
  obtain ⟨ot0, ot1, ot2, ot3⟩ := Ot
  go_wp2_with fail
  refine (rsub_n A B _ hA0 hAM hB0 hBM).mono ?_
  rintro e w4 ⟨rfl, hm4⟩
  have hz4 := hm4.size
  simp only [World.size_alloc] at hz4
  clear oa0 oa1 oa2 oa3 ob0 ob1 ob2 ob3 os0 os1 os2 os3 ot0 ot1 ot2 ot3
  have Qa := (Qa.al1 sa _ _).mo hm4 (by first | omega | (simp <;> omega))
  have sa : w.heap.size < w4.heap.size := by omega
  have sax : w.heap.size < w4.heap.size + 1 := by omega
  have Oa := Qa
  obtain ⟨oa0, oa1, oa2, oa3⟩ := Oa
  have Qb := (Qb.al1 sb _ _).mo hm4 (by first | omega | (simp <;> omega))
  have sb : w.heap.size + 1 < w4.heap.size := by omega
  have sbx : w.heap.size + 1 < w4.heap.size + 1 := by omega
  have Ob := Qb
  obtain ⟨ob0, ob1, ob2, ob3⟩ := Ob
  have Qs := (Qs.al1 ss _ _).mo hm4 (by first | omega | (simp <;> omega))
  have ss : w1.heap.size < w4.heap.size := by omega
  have ssx : w1.heap.size < w4.heap.size + 1 := by omega
  have Os := Qs
  obtain ⟨os0, os1, os2, os3⟩ := Os
  have Qt := (Qt.al1 st _ _).mo hm4 (by first | omega | (simp <;> omega))
  have st : w2.heap.size < w4.heap.size := by omega
  have stx : w2.heap.size < w4.heap.size + 1 := by omega
  have Ot := Qt
  obtain ⟨ot0, ot1, ot2, ot3⟩ := Ot
  have Qd : At4 w4 (w3.heap.size) (l0 (A - B)) (l1 (A - B)) (l2 (A - B)) (l3 (A - B)) := At4.mo (by simp [At4, go_sem]) hm4 (by first | omega | (simp <;> omega))
  have sd : w3.heap.size < w4.heap.size := by omega
  have sdx : w3.heap.size < w4.heap.size + 1 := by omega
  have Od := Qd
  obtain ⟨od0, od1, od2, od3⟩ := Od
  have Ga := Qa.al1 sa (#[.int .u64 (l0 (A - B)), .int .u64 (l1 (A - B)), .int .u64 (l2 (A - B)), .int .u64 (l3 (A - B))]) 24
  have Gb := Qb.al1 sb (#[.int .u64 (l0 (A - B)), .int .u64 (l1 (A - B)), .int .u64 (l2 (A - B)), .int .u64 (l3 (A - B))]) 24
  have Gs := Qs.al1 ss (#[.int .u64 (l0 (A - B)), .int .u64 (l1 (A - B)), .int .u64 (l2 (A - B)), .int .u64 (l3 (A - B))]) 24
  have Gt := Qt.al1 st (#[.int .u64 (l0 (A - B)), .int .u64 (l1 (A - B)), .int .u64 (l2 (A - B)), .int .u64 (l3 (A - B))]) 24
  have Gd := Qd.al1 sd (#[.int .u64 (l0 (A - B)), .int .u64 (l1 (A - B)), .int .u64 (l2 (A - B)), .int .u64 (l3 (A - B))]) 24
  have Ge : At4 (w4.alloc (.cells #[.int .u64 (l0 (A - B)), .int .u64 (l1 (A - B)), .int .u64 (l2 (A - B)), .int .u64 (l3 (A - B))] 24)) w4.heap.size (l0 (A - B)) (l1 (A - B)) (l2 (A - B)) (l3 (A - B)) := by simp [At4, go_sem]
  have M0 : Mo w (w4.alloc (.cells #[.int .u64 (l0 (A - B)), .int .u64 (l1 (A - B)), .int .u64 (l2 (A - B)), .int .u64 (l3 (A - B))] 24)) := by
    repeat (first | with_reducible exact Mo.refl _ | with_reducible apply Mo.drew | with_reducible apply Mo.alloc | with_reducible refine Mo.trans ?_ (by with_reducible assumption))
  have Sa : w.heap.size < (w4.alloc (.cells #[.int .u64 (l0 (A - B)), .int .u64 (l1 (A - B)), .int .u64 (l2 (A - B)), .int .u64 (l3 (A - B))] 24)).heap.size := by simp <;> omega
  have Sb : w.heap.size + 1 < (w4.alloc (.cells #[.int .u64 (l0 (A - B)), .int .u64 (l1 (A - B)), .int .u64 (l2 (A - B)), .int .u64 (l3 (A - B))] 24)).heap.size := by simp <;> omega
  have Ss : w1.heap.size < (w4.alloc (.cells #[.int .u64 (l0 (A - B)), .int .u64 (l1 (A - B)), .int .u64 (l2 (A - B)), .int .u64 (l3 (A - B))] 24)).heap.size := by simp <;> omega
  have St : w2.heap.size < (w4.alloc (.cells #[.int .u64 (l0 (A - B)), .int .u64 (l1 (A - B)), .int .u64 (l2 (A - B)), .int .u64 (l3 (A - B))] 24)).heap.size := by simp <;> omega
  have Sd : w3.heap.size < (w4.alloc (.cells #[.int .u64 (l0 (A - B)), .int .u64 (l1 (A - B)), .int .u64 (l2 (A - B)), .int .u64 (l3 (A - B))] 24)).heap.size := by simp <;> omega
  have Se : w4.heap.size < (w4.alloc (.cells #[.int .u64 (l0 (A - B)), .int .u64 (l1 (A - B)), .int .u64 (l2 (A - B)), .int .u64 (l3 (A - B))] 24)).heap.size := by simp <;> omega
  clear oa0 oa1 oa2 oa3 ob0 ob1 ob2 ob3 os0 os1 os2 os3 ot0 ot1 ot2 ot3 od0 od1 od2 od3
  go_upto_region 5 with fail
  revert Ga Gb Gs Gt Gd Ge M0 Sa Sb Ss St Sd Se
  generalize w4.alloc (.cells #[.int .u64 (l0 (A - B)), .int .u64 (l1 (A - B)), .int .u64 (l2 (A - B)), .int .u64 (l3 (A - B))] 24) = W0
  intro Ga Gb Gs Gt Gd Ge M0 Sa Sb Ss St Sd Se
  have Za := Ga
  obtain ⟨a0, a1, a2, a3⟩ := Za
  have Zb := Gb
  obtain ⟨b0, b1, b2, b3⟩ := Zb
  have Zs := Gs
  obtain ⟨s0, s1, s2, s3⟩ := Zs
  have Zt := Gt
  obtain ⟨t0, t1, t2, t3⟩ := Zt
  have Zd := Gd
  obtain ⟨d0, d1, d2, d3⟩ := Zd
  have Ze := Ge
  obtain ⟨e0, e1, e2, e3⟩ := Ze
  have M : Mo W0 W0 := Mo.refl _
  have htm : (l0 A).tmod 2 = l0 A % 2 := Int.tmod_eq_emod_of_nonneg (u_l0 A).1
  clear Qa sa sax Qb sb sbx Qs ss ssx Qt st stx Qd sd sdx
  go_region_held3 (fun w' => w'.cell? ⟨w.heap.size, 0, none⟩ = some (.int .u64 (l0 A)) ∧ w'.cell? ⟨w.heap.size, 1, none⟩ = some (.int .u64 (l1 A)) ∧ w'.cell? ⟨w.heap.size, 2, none⟩ = some (.int .u64 (l2 A)) ∧ w'.cell? ⟨w.heap.size, 3, none⟩ = some (.int .u64 (l3 A)) ∧ w'.cell? ⟨w.heap.size + 1, 0, none⟩ = some (.int .u64 (l0 B)) ∧ w'.cell? ⟨w.heap.size + 1, 1, none⟩ = some (.int .u64 (l1 B)) ∧ w'.cell? ⟨w.heap.size + 1, 2, none⟩ = some (.int .u64 (l2 B)) ∧ w'.cell? ⟨w.heap.size + 1, 3, none⟩ = some (.int .u64 (l3 B)) ∧ w'.cell? ⟨w1.heap.size, 0, none⟩ = some (.int .u64 (l0 (A + B))) ∧ w'.cell? ⟨w1.heap.size, 1, none⟩ = some (.int .u64 (l1 (A + B))) ∧ w'.cell? ⟨w1.heap.size, 2, none⟩ = some (.int .u64 (l2 (A + B))) ∧ w'.cell? ⟨w1.heap.size, 3, none⟩ = some (.int .u64 (l3 (A + B))) ∧ w'.cell? ⟨w2.heap.size, 0, none⟩ = some (.int .u64 (l0 (A + B))) ∧ w'.cell? ⟨w2.heap.size, 1, none⟩ = some (.int .u64 (l1 (A + B))) ∧ w'.cell? ⟨w2.heap.size, 2, none⟩ = some (.int .u64 (l2 (A + B))) ∧ w'.cell? ⟨w2.heap.size, 3, none⟩ = some (.int .u64 (l3 (A + B))) ∧ w'.cell? ⟨w3.heap.size, 0, none⟩ = some (.int .u64 (l0 (A - B))) ∧ w'.cell? ⟨w3.heap.size, 1, none⟩ = some (.int .u64 (l1 (A - B))) ∧ w'.cell? ⟨w3.heap.size, 2, none⟩ = some (.int .u64 (l2 (A - B))) ∧ w'.cell? ⟨w3.heap.size, 3, none⟩ = some (.int .u64 (l3 (A - B))) ∧ w'.cell? ⟨w4.heap.size, 0, none⟩ = some (.int .u64 (l0 (A - B))) ∧ w'.cell? ⟨w4.heap.size, 1, none⟩ = some (.int .u64 (l1 (A - B))) ∧ w'.cell? ⟨w4.heap.size, 2, none⟩ = some (.int .u64 (l2 (A - B))) ∧ w'.cell? ⟨w4.heap.size, 3, none⟩ = some (.int .u64 (l3 (A - B)))) (simp [go_sem, *])
    (first | (go_at_call 14; refine (live_any _).mono ?_; rintro e u ⟨rfl, hu⟩; replace M := M.trans (Mo.trans (by repeat (first | with_reducible exact Mo.refl _ | with_reducible apply Mo.drew | with_reducible apply Mo.alloc)) hu); clear hu; clear a0 a1 a2 a3 b0 b1 b2 b3 s0 s1 s2 s3 t0 t1 t2 t3 d0 d1 d2 d3 e0 e1 e2 e3; obtain ⟨a0, a1, a2, a3⟩ := Ga.mo M Sa; obtain ⟨b0, b1, b2, b3⟩ := Gb.mo M Sb; obtain ⟨s0, s1, s2, s3⟩ := Gs.mo M Ss; obtain ⟨t0, t1, t2, t3⟩ := Gt.mo M St; obtain ⟨d0, d1, d2, d3⟩ := Gd.mo M Sd; obtain ⟨e0, e1, e2, e3⟩ := Ge.mo M Se) | (go_at_call 15; refine (cmp15_any (l0 A) (l1 A) (l2 A) (l3 A) (l0 B) (l1 B) (l2 B) (l3 B) _ (u4_lb A) (u4_lb B)).mono ?_; rintro e u ⟨rfl, hu⟩; rw [vl_lb A hA0 hAM, vl_lb B hB0 hBM]; replace M := M.trans (Mo.trans (by repeat (first | with_reducible exact Mo.refl _ | with_reducible apply Mo.drew | with_reducible apply Mo.alloc)) hu); clear hu; clear a0 a1 a2 a3 b0 b1 b2 b3 s0 s1 s2 s3 t0 t1 t2 t3 d0 d1 d2 d3 e0 e1 e2 e3; obtain ⟨a0, a1, a2, a3⟩ := Ga.mo M Sa; obtain ⟨b0, b1, b2, b3⟩ := Gb.mo M Sb; obtain ⟨s0, s1, s2, s3⟩ := Gs.mo M Ss; obtain ⟨t0, t1, t2, t3⟩ := Gt.mo M St; obtain ⟨d0, d1, d2, d3⟩ := Gd.mo M Sd; obtain ⟨e0, e1, e2, e3⟩ := Ge.mo M Se) | (go_at_call 16; refine (cmp16_any (l0 A) (l1 A) (l2 A) (l3 A) (l0 B) (l1 B) (l2 B) (l3 B) _ (u4_lb A) (u4_lb B)).mono ?_; rintro e u ⟨rfl, hu⟩; rw [vl_lb A hA0 hAM, vl_lb B hB0 hBM]; replace M := M.trans (Mo.trans (by repeat (first | with_reducible exact Mo.refl _ | with_reducible apply Mo.drew | with_reducible apply Mo.alloc)) hu); clear hu; clear a0 a1 a2 a3 b0 b1 b2 b3 s0 s1 s2 s3 t0 t1 t2 t3 d0 d1 d2 d3 e0 e1 e2 e3; obtain ⟨a0, a1, a2, a3⟩ := Ga.mo M Sa; obtain ⟨b0, b1, b2, b3⟩ := Gb.mo M Sb; obtain ⟨s0, s1, s2, s3⟩ := Gs.mo M Ss; obtain ⟨t0, t1, t2, t3⟩ := Gt.mo M St; obtain ⟨d0, d1, d2, d3⟩ := Gd.mo M Sd; obtain ⟨e0, e1, e2, e3⟩ := Ge.mo M Se) | (go_at_call 17; refine (bits_any (l0 A) (l1 A) (l2 A) (l3 A) _ (u4_lb A)).mono ?_; rintro e u ⟨rfl, hu⟩; rw [vl_lb A hA0 hAM]; replace M := M.trans (Mo.trans (by repeat (first | with_reducible exact Mo.refl _ | with_reducible apply Mo.drew | with_reducible apply Mo.alloc)) hu); clear hu; clear a0 a1 a2 a3 b0 b1 b2 b3 s0 s1 s2 s3 t0 t1 t2 t3 d0 d1 d2 d3 e0 e1 e2 e3; obtain ⟨a0, a1, a2, a3⟩ := Ga.mo M Sa; obtain ⟨b0, b1, b2, b3⟩ := Gb.mo M Sb; obtain ⟨s0, s1, s2, s3⟩ := Gs.mo M Ss; obtain ⟨t0, t1, t2, t3⟩ := Gt.mo M St; obtain ⟨d0, d1, d2, d3⟩ := Gd.mo M Sd; obtain ⟨e0, e1, e2, e3⟩ := Ge.mo M Se) | (go_at_call 18; refine (rbits_any A _ hA0 hAM).mono ?_; rintro e u ⟨rfl, hu⟩; replace M := M.trans (Mo.trans (by repeat (first | with_reducible exact Mo.refl _ | with_reducible apply Mo.drew | with_reducible apply Mo.alloc)) hu); clear hu; clear a0 a1 a2 a3 b0 b1 b2 b3 s0 s1 s2 s3 t0 t1 t2 t3 d0 d1 d2 d3 e0 e1 e2 e3; obtain ⟨a0, a1, a2, a3⟩ := Ga.mo M Sa; obtain ⟨b0, b1, b2, b3⟩ := Gb.mo M Sb; obtain ⟨s0, s1, s2, s3⟩ := Gs.mo M Ss; obtain ⟨t0, t1, t2, t3⟩ := Gt.mo M St; obtain ⟨d0, d1, d2, d3⟩ := Gd.mo M Sd; obtain ⟨e0, e1, e2, e3⟩ := Ge.mo M Se) | (go_at_call 19; refine (odd_any (l0 A) (l1 A) (l2 A) (l3 A) _ (u4_lb A)).mono ?_; rintro e u ⟨rfl, hu⟩; replace M := M.trans (Mo.trans (by repeat (first | with_reducible exact Mo.refl _ | with_reducible apply Mo.drew | with_reducible apply Mo.alloc)) hu); clear hu; clear a0 a1 a2 a3 b0 b1 b2 b3 s0 s1 s2 s3 t0 t1 t2 t3 d0 d1 d2 d3 e0 e1 e2 e3; obtain ⟨a0, a1, a2, a3⟩ := Ga.mo M Sa; obtain ⟨b0, b1, b2, b3⟩ := Gb.mo M Sb; obtain ⟨s0, s1, s2, s3⟩ := Gs.mo M Ss; obtain ⟨t0, t1, t2, t3⟩ := Gt.mo M St; obtain ⟨d0, d1, d2, d3⟩ := Gd.mo M Sd; obtain ⟨e0, e1, e2, e3⟩ := Ge.mo M Se) | (go_at_call 20; refine (from20_any (l2 A) _ (u_l2 A)).mono ?_; rintro e u ⟨rfl, hu⟩; rw [nv_small (u_l2 A)]; replace M := M.trans (Mo.trans (by repeat (first | with_reducible exact Mo.refl _ | with_reducible apply Mo.drew | with_reducible apply Mo.alloc)) hu); clear hu; clear a0 a1 a2 a3 b0 b1 b2 b3 s0 s1 s2 s3 t0 t1 t2 t3 d0 d1 d2 d3 e0 e1 e2 e3; obtain ⟨a0, a1, a2, a3⟩ := Ga.mo M Sa; obtain ⟨b0, b1, b2, b3⟩ := Gb.mo M Sb; obtain ⟨s0, s1, s2, s3⟩ := Gs.mo M Ss; obtain ⟨t0, t1, t2, t3⟩ := Gt.mo M St; obtain ⟨d0, d1, d2, d3⟩ := Gd.mo M Sd; obtain ⟨e0, e1, e2, e3⟩ := Ge.mo M Se))
  all_goals
    go_wp2
    go_ret
    exact ⟨rfl, M0.trans M⟩

theorem sums_walk (a0 a1 a2 a3 b0 b1 b2 b3 : Int) (w : World) (ha : U4 a0 a1 a2 a3) (hb : U4 b0 b1 b2 b3) :
    Calls Try.prog 3 #[.agg #[.int .u64 a0, .int .u64 a1, .int .u64 a2, .int .u64 a3], .agg #[.int .u64 b0, .int .u64 b1, .int .u64 b2, .int .u64 b3]] w fun e w' => e = .returned (.bool true) ∧ Mo w w' := by
  rw [← nv_vl ha, ← nv_vl hb]
  exact sums_n _ _ w (vl_bd ha).1 (vl_bd ha).2 (vl_bd hb).1 (vl_bd hb).2
end Go.Proofs.Ytpfmccfogkgakaa
