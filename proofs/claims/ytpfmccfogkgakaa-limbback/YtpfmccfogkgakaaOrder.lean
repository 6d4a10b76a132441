/-
  exciselaw01.LimbOrder answers true for every three numbers: sums and products do not ask for the order, and products go over sums.
-/
import Derived.Test.YtpfmccfogkgakaaLive
namespace Go.Proofs.Ytpfmccfogkgakaa
open Go.RowKit
theorem At4.al1 {w : World} {k : Nat} {a b c d : Int} (h : At4 w k a b c d) (hk : k < w.heap.size) (x : Array Value) (t : TypeId) : At4 (w.alloc (.cells x t)) k a b c d := h.mo ((Mo.refl _).alloc _ _) hk
theorem At4.al2 {w : World} {k : Nat} {a b c d : Int} (h : At4 w k a b c d) (hk : k < w.heap.size) (x : Array Value) (t : TypeId) (y : Array Value) (u : TypeId) : At4 ((w.alloc (.cells x t)).alloc (.cells y u)) k a b c d := h.mo (((Mo.refl _).alloc _ _).alloc _ _) hk
theorem nv_add_mod (n m : Int) : nv (n % MM + m % MM) = nv (n + m) := by
  rw [← nv_mod (n % MM + m % MM), ← nv_mod (n + m), ← Int.add_emod]

set_option maxHeartbeats 4000000 in
theorem order_walk (a0 a1 a2 a3 b0 b1 b2 b3 c0 c1 c2 c3 : Int) (w : World) (ha : U4 a0 a1 a2 a3) (hb : U4 b0 b1 b2 b3) (hc : U4 c0 c1 c2 c3) :
    Calls Try.prog 8 #[.agg #[.int .u64 a0, .int .u64 a1, .int .u64 a2, .int .u64 a3], .agg #[.int .u64 b0, .int .u64 b1, .int .u64 b2, .int .u64 b3], .agg #[.int .u64 c0, .int .u64 c1, .int .u64 c2, .int .u64 c3]] w fun e w' => e = .returned (.bool true) ∧ Mo w w' := by
  have q4 := eq4
  go_enter Try.func8, Try.ntmps8
  go_wp2_with fail
  refine (add_any a0 a1 a2 a3 b0 b1 b2 b3 _ ha hb).mono ?_
  rintro e w1 ⟨rfl, hm1⟩
  have hz1 := hm1.size
  simp only [World.size_alloc] at hz1
  have Qa : At4 w1 (w.heap.size) a0 a1 a2 a3 := At4.mo (by simp [At4, go_sem]) hm1 (by first | omega | (simp <;> omega))
  have sa : w.heap.size < w1.heap.size := by omega
  have sax : w.heap.size < w1.heap.size + 1 := by omega
  have Oa := Qa
  obtain ⟨oa0, oa1, oa2, oa3⟩ := Oa
  have Qb : At4 w1 (w.heap.size + 1) b0 b1 b2 b3 := At4.mo (by simp [At4, go_sem]) hm1 (by first | omega | (simp <;> omega))
  have sb : w.heap.size + 1 < w1.heap.size := by omega
  have sbx : w.heap.size + 1 < w1.heap.size + 1 := by omega
  have Ob := Qb
  obtain ⟨ob0, ob1, ob2, ob3⟩ := Ob
  have Qc : At4 w1 (w.heap.size + 1 + 1) c0 c1 c2 c3 := At4.mo (by simp [At4, go_sem]) hm1 (by first | omega | (simp <;> omega))
  have sc : w.heap.size + 1 + 1 < w1.heap.size := by omega
  have scx : w.heap.size + 1 + 1 < w1.heap.size + 1 := by omega
  have Oc := Qc
  obtain ⟨oc0, oc1, oc2, oc3⟩ := Oc
  go_wp2_with fail
  refine (add_any b0 b1 b2 b3 a0 a1 a2 a3 _ hb ha).mono ?_
  rintro e w2 ⟨rfl, hm2⟩
  rw [Int.add_comm (vl b0 b1 b2 b3) (vl a0 a1 a2 a3)]
  have hz2 := hm2.size
  simp only [World.size_alloc] at hz2
  clear oa0 oa1 oa2 oa3 ob0 ob1 ob2 ob3 oc0 oc1 oc2 oc3
  have Qa := (Qa.al1 sa _ _).mo hm2 (by first | omega | (simp <;> omega))
  have sa : w.heap.size < w2.heap.size := by omega
  have sax : w.heap.size < w2.heap.size + 1 := by omega
  have Oa := Qa
  obtain ⟨oa0, oa1, oa2, oa3⟩ := Oa
  have Qb := (Qb.al1 sb _ _).mo hm2 (by first | omega | (simp <;> omega))
  have sb : w.heap.size + 1 < w2.heap.size := by omega
  have sbx : w.heap.size + 1 < w2.heap.size + 1 := by omega
  have Ob := Qb
  obtain ⟨ob0, ob1, ob2, ob3⟩ := Ob
  have Qc := (Qc.al1 sc _ _).mo hm2 (by first | omega | (simp <;> omega))
  have sc : w.heap.size + 1 + 1 < w2.heap.size := by omega
  have scx : w.heap.size + 1 + 1 < w2.heap.size + 1 := by omega
  have Oc := Qc
  obtain ⟨oc0, oc1, oc2, oc3⟩ := Oc
  have Qs : At4 w2 (w1.heap.size) (l0 (vl a0 a1 a2 a3 + vl b0 b1 b2 b3)) (l1 (vl a0 a1 a2 a3 + vl b0 b1 b2 b3)) (l2 (vl a0 a1 a2 a3 + vl b0 b1 b2 b3)) (l3 (vl a0 a1 a2 a3 + vl b0 b1 b2 b3)) := At4.mo (by simp [At4, go_sem]) hm2 (by first | omega | (simp <;> omega))
  have ss : w1.heap.size < w2.heap.size := by omega
  have ssx : w1.heap.size < w2.heap.size + 1 := by omega
  have Os := Qs
  obtain ⟨os0, os1, os2, os3⟩ := Os
  go_wp2_with fail
  refine (mul_any a0 a1 a2 a3 b0 b1 b2 b3 _ ha hb).mono ?_
  rintro e w3 ⟨rfl, hm3⟩
  have hz3 := hm3.size
  simp only [World.size_alloc] at hz3
  clear oa0 oa1 oa2 oa3 ob0 ob1 ob2 ob3 oc0 oc1 oc2 oc3 os0 os1 os2 os3
  have Qa := (Qa.al1 sa _ _).mo hm3 (by first | omega | (simp <;> omega))
  have sa : w.heap.size < w3.heap.size := by omega
  have sax : w.heap.size < w3.heap.size + 1 := by omega
  have Oa := Qa
  obtain ⟨oa0, oa1, oa2, oa3⟩ := Oa
  have Qb := (Qb.al1 sb _ _).mo hm3 (by first | omega | (simp <;> omega))
  have sb : w.heap.size + 1 < w3.heap.size := by omega
  have sbx : w.heap.size + 1 < w3.heap.size + 1 := by omega
  have Ob := Qb
  obtain ⟨ob0, ob1, ob2, ob3⟩ := Ob
  have Qc := (Qc.al1 sc _ _).mo hm3 (by first | omega | (simp <;> omega))
  have sc : w.heap.size + 1 + 1 < w3.heap.size := by omega
  have scx : w.heap.size + 1 + 1 < w3.heap.size + 1 := by omega
  have Oc := Qc
  obtain ⟨oc0, oc1, oc2, oc3⟩ := Oc
  have Qs := (Qs.al1 ss _ _).mo hm3 (by first | omega | (simp <;> omega))
  have ss : w1.heap.size < w3.heap.size := by omega
  have ssx : w1.heap.size < w3.heap.size + 1 := by omega
  have Os := Qs
  obtain ⟨os0, os1, os2, os3⟩ := Os
  have Qt : At4 w3 (w2.heap.size) (l0 (vl a0 a1 a2 a3 + vl b0 b1 b2 b3)) (l1 (vl a0 a1 a2 a3 + vl b0 b1 b2 b3)) (l2 (vl a0 a1 a2 a3 + vl b0 b1 b2 b3)) (l3 (vl a0 a1 a2 a3 + vl b0 b1 b2 b3)) := At4.mo (by simp [At4, go_sem]) hm3 (by first | omega | (simp <;> omega))
  have st : w2.heap.size < w3.heap.size := by omega
  have stx : w2.heap.size < w3.heap.size + 1 := by omega
  have Ot := Qt
  obtain ⟨ot0, ot1, ot2, ot3⟩ := Ot
  go_wp2_with fail
  refine (mul_any b0 b1 b2 b3 a0 a1 a2 a3 _ hb ha).mono ?_
  rintro e w4 ⟨rfl, hm4⟩
  rw [Int.mul_comm (vl b0 b1 b2 b3) (vl a0 a1 a2 a3)]
  have hz4 := hm4.size
  simp only [World.size_alloc] at hz4
  clear oa0 oa1 oa2 oa3 ob0 ob1 ob2 ob3 oc0 oc1 oc2 oc3 os0 os1 os2 os3 ot0 ot1 ot2 ot3
  have Qa := (Qa.al2 sa _ _ _ _).mo hm4 (by first | omega | (simp <;> omega))
  have sa : w.heap.size < w4.heap.size := by omega
  have sax : w.heap.size < w4.heap.size + 1 := by omega
  have Oa := Qa
  obtain ⟨oa0, oa1, oa2, oa3⟩ := Oa
  have Qb := (Qb.al2 sb _ _ _ _).mo hm4 (by first | omega | (simp <;> omega))
  have sb : w.heap.size + 1 < w4.heap.size := by omega
  have sbx : w.heap.size + 1 < w4.heap.size + 1 := by omega
  have Ob := Qb
  obtain ⟨ob0, ob1, ob2, ob3⟩ := Ob
  have Qc := (Qc.al2 sc _ _ _ _).mo hm4 (by first | omega | (simp <;> omega))
  have sc : w.heap.size + 1 + 1 < w4.heap.size := by omega
  have scx : w.heap.size + 1 + 1 < w4.heap.size + 1 := by omega
  have Oc := Qc
  obtain ⟨oc0, oc1, oc2, oc3⟩ := Oc
  have Qs := (Qs.al2 ss _ _ _ _).mo hm4 (by first | omega | (simp <;> omega))
  have ss : w1.heap.size < w4.heap.size := by omega
  have ssx : w1.heap.size < w4.heap.size + 1 := by omega
  have Os := Qs
  obtain ⟨os0, os1, os2, os3⟩ := Os
  have Qt := (Qt.al2 st _ _ _ _).mo hm4 (by first | omega | (simp <;> omega))
  have st : w2.heap.size < w4.heap.size := by omega
  have stx : w2.heap.size < w4.heap.size + 1 := by omega
  have Ot := Qt
  obtain ⟨ot0, ot1, ot2, ot3⟩ := Ot
  have Qh : At4 w4 (w3.heap.size) (l0 (vl a0 a1 a2 a3 * vl b0 b1 b2 b3 / MM)) (l1 (vl a0 a1 a2 a3 * vl b0 b1 b2 b3 / MM)) (l2 (vl a0 a1 a2 a3 * vl b0 b1 b2 b3 / MM)) (l3 (vl a0 a1 a2 a3 * vl b0 b1 b2 b3 / MM)) := At4.mo (by simp [At4, go_sem]) hm4 (by first | omega | (simp <;> omega))
  have sh : w3.heap.size < w4.heap.size := by omega
  have shx : w3.heap.size < w4.heap.size + 1 := by omega
  have Oh := Qh
  obtain ⟨oh0, oh1, oh2, oh3⟩ := Oh
  have Ql : At4 w4 (w3.heap.size + 1) (l0 (vl a0 a1 a2 a3 * vl b0 b1 b2 b3)) (l1 (vl a0 a1 a2 a3 * vl b0 b1 b2 b3)) (l2 (vl a0 a1 a2 a3 * vl b0 b1 b2 b3)) (l3 (vl a0 a1 a2 a3 * vl b0 b1 b2 b3)) := At4.mo (by simp [At4, go_sem]) hm4 (by first | omega | (simp <;> omega))
  have sl : w3.heap.size + 1 < w4.heap.size := by omega
  have slx : w3.heap.size + 1 < w4.heap.size + 1 := by omega
  have Ol := Ql
  obtain ⟨ol0, ol1, ol2, ol3⟩ := Ol
  go_wp2_with fail
  refine (live_any _).mono ?_
  rintro e w5 ⟨rfl, hm5⟩
  have hz5 := hm5.size
  simp only [World.size_alloc] at hz5
  clear oa0 oa1 oa2 oa3 ob0 ob1 ob2 ob3 oc0 oc1 oc2 oc3 os0 os1 os2 os3 ot0 ot1 ot2 ot3 oh0 oh1 oh2 oh3 ol0 ol1 ol2 ol3
  have Qa := (Qa.al2 sa _ _ _ _).mo hm5 (by first | omega | (simp <;> omega))
  have sa : w.heap.size < w5.heap.size := by omega
  have sax : w.heap.size < w5.heap.size + 1 := by omega
  have Oa := Qa
  obtain ⟨oa0, oa1, oa2, oa3⟩ := Oa
  have Qb := (Qb.al2 sb _ _ _ _).mo hm5 (by first | omega | (simp <;> omega))
  have sb : w.heap.size + 1 < w5.heap.size := by omega
  have sbx : w.heap.size + 1 < w5.heap.size + 1 := by omega
  have Ob := Qb
  obtain ⟨ob0, ob1, ob2, ob3⟩ := Ob
  have Qc := (Qc.al2 sc _ _ _ _).mo hm5 (by first | omega | (simp <;> omega))
  have sc : w.heap.size + 1 + 1 < w5.heap.size := by omega
  have scx : w.heap.size + 1 + 1 < w5.heap.size + 1 := by omega
  have Oc := Qc
  obtain ⟨oc0, oc1, oc2, oc3⟩ := Oc
  have Qs := (Qs.al2 ss _ _ _ _).mo hm5 (by first | omega | (simp <;> omega))
  have ss : w1.heap.size < w5.heap.size := by omega
  have ssx : w1.heap.size < w5.heap.size + 1 := by omega
  have Os := Qs
  obtain ⟨os0, os1, os2, os3⟩ := Os
  have Qt := (Qt.al2 st _ _ _ _).mo hm5 (by first | omega | (simp <;> omega))
  have st : w2.heap.size < w5.heap.size := by omega
  have stx : w2.heap.size < w5.heap.size + 1 := by omega
  have Ot := Qt
  obtain ⟨ot0, ot1, ot2, ot3⟩ := Ot
  have Qh := (Qh.al2 sh _ _ _ _).mo hm5 (by first | omega | (simp <;> omega))
  have sh : w3.heap.size < w5.heap.size := by omega
  have shx : w3.heap.size < w5.heap.size + 1 := by omega
  have Oh := Qh
  obtain ⟨oh0, oh1, oh2, oh3⟩ := Oh
  have Ql := (Ql.al2 sl _ _ _ _).mo hm5 (by first | omega | (simp <;> omega))
  have sl : w3.heap.size + 1 < w5.heap.size := by omega
  have slx : w3.heap.size + 1 < w5.heap.size + 1 := by omega
  have Ol := Ql
  obtain ⟨ol0, ol1, ol2, ol3⟩ := Ol
  have Qi : At4 w5 (w4.heap.size) (l0 (vl a0 a1 a2 a3 * vl b0 b1 b2 b3 / MM)) (l1 (vl a0 a1 a2 a3 * vl b0 b1 b2 b3 / MM)) (l2 (vl a0 a1 a2 a3 * vl b0 b1 b2 b3 / MM)) (l3 (vl a0 a1 a2 a3 * vl b0 b1 b2 b3 / MM)) := At4.mo (by simp [At4, go_sem]) hm5 (by first | omega | (simp <;> omega))
  have si : w4.heap.size < w5.heap.size := by omega
  have six : w4.heap.size < w5.heap.size + 1 := by omega
  have Oi := Qi
  obtain ⟨oi0, oi1, oi2, oi3⟩ := Oi
  have Qm : At4 w5 (w4.heap.size + 1) (l0 (vl a0 a1 a2 a3 * vl b0 b1 b2 b3)) (l1 (vl a0 a1 a2 a3 * vl b0 b1 b2 b3)) (l2 (vl a0 a1 a2 a3 * vl b0 b1 b2 b3)) (l3 (vl a0 a1 a2 a3 * vl b0 b1 b2 b3)) := At4.mo (by simp [At4, go_sem]) hm5 (by first | omega | (simp <;> omega))
  have sm : w4.heap.size + 1 < w5.heap.size := by omega
  have smx : w4.heap.size + 1 < w5.heap.size + 1 := by omega
  have Om := Qm
  obtain ⟨om0, om1, om2, om3⟩ := Om
  go_wp2_with fail
  refine (mul_any (l0 (vl a0 a1 a2 a3 + vl b0 b1 b2 b3)) (l1 (vl a0 a1 a2 a3 + vl b0 b1 b2 b3)) (l2 (vl a0 a1 a2 a3 + vl b0 b1 b2 b3)) (l3 (vl a0 a1 a2 a3 + vl b0 b1 b2 b3)) c0 c1 c2 c3 _ (u4_lb _) hc).mono ?_
  rintro e w6 ⟨rfl, hm6⟩
  rw [vl_nv (vl a0 a1 a2 a3 + vl b0 b1 b2 b3), nv_mul_mod (vl a0 a1 a2 a3 + vl b0 b1 b2 b3), Int.add_mul (vl a0 a1 a2 a3)]
  have hz6 := hm6.size
  clear oa0 oa1 oa2 oa3 ob0 ob1 ob2 ob3 oc0 oc1 oc2 oc3 os0 os1 os2 os3 ot0 ot1 ot2 ot3 oh0 oh1 oh2 oh3 ol0 ol1 ol2 ol3 oi0 oi1 oi2 oi3 om0 om1 om2 om3
  have Qa := (Qa).mo hm6 (by first | omega | (simp <;> omega))
  have sa : w.heap.size < w6.heap.size := by omega
  have sax : w.heap.size < w6.heap.size + 1 := by omega
  have Oa := Qa
  obtain ⟨oa0, oa1, oa2, oa3⟩ := Oa
  have Qb := (Qb).mo hm6 (by first | omega | (simp <;> omega))
  have sb : w.heap.size + 1 < w6.heap.size := by omega
  have sbx : w.heap.size + 1 < w6.heap.size + 1 := by omega
  have Ob := Qb
  obtain ⟨ob0, ob1, ob2, ob3⟩ := Ob
  have Qc := (Qc).mo hm6 (by first | omega | (simp <;> omega))
  have sc : w.heap.size + 1 + 1 < w6.heap.size := by omega
  have scx : w.heap.size + 1 + 1 < w6.heap.size + 1 := by omega
  have Oc := Qc
  obtain ⟨oc0, oc1, oc2, oc3⟩ := Oc
  have Qs := (Qs).mo hm6 (by first | omega | (simp <;> omega))
  have ss : w1.heap.size < w6.heap.size := by omega
  have ssx : w1.heap.size < w6.heap.size + 1 := by omega
  have Os := Qs
  obtain ⟨os0, os1, os2, os3⟩ := Os
  have Qt := (Qt).mo hm6 (by first | omega | (simp <;> omega))
  have st : w2.heap.size < w6.heap.size := by omega
  have stx : w2.heap.size < w6.heap.size + 1 := by omega
  have Ot := Qt
  obtain ⟨ot0, ot1, ot2, ot3⟩ := Ot
  have Qh := (Qh).mo hm6 (by first | omega | (simp <;> omega))
  have sh : w3.heap.size < w6.heap.size := by omega
  have shx : w3.heap.size < w6.heap.size + 1 := by omega
  have Oh := Qh
  obtain ⟨oh0, oh1, oh2, oh3⟩ := Oh
  have Ql := (Ql).mo hm6 (by first | omega | (simp <;> omega))
  have sl : w3.heap.size + 1 < w6.heap.size := by omega
  have slx : w3.heap.size + 1 < w6.heap.size + 1 := by omega
  have Ol := Ql
  obtain ⟨ol0, ol1, ol2, ol3⟩ := Ol
  have Qi := (Qi).mo hm6 (by first | omega | (simp <;> omega))
  have si : w4.heap.size < w6.heap.size := by omega
  have six : w4.heap.size < w6.heap.size + 1 := by omega
  have Oi := Qi
  obtain ⟨oi0, oi1, oi2, oi3⟩ := Oi
  have Qm := (Qm).mo hm6 (by first | omega | (simp <;> omega))
  have sm : w4.heap.size + 1 < w6.heap.size := by omega
  have smx : w4.heap.size + 1 < w6.heap.size + 1 := by omega
  have Om := Qm
  obtain ⟨om0, om1, om2, om3⟩ := Om
  go_wp2_with fail
  refine (mul_any a0 a1 a2 a3 c0 c1 c2 c3 _ ha hc).mono ?_
  rintro e w7 ⟨rfl, hm7⟩
  have hz7 := hm7.size
  simp only [World.size_alloc] at hz7
  clear oa0 oa1 oa2 oa3 ob0 ob1 ob2 ob3 oc0 oc1 oc2 oc3 os0 os1 os2 os3 ot0 ot1 ot2 ot3 oh0 oh1 oh2 oh3 ol0 ol1 ol2 ol3 oi0 oi1 oi2 oi3 om0 om1 om2 om3
  have Qa := (Qa.al2 sa _ _ _ _).mo hm7 (by first | omega | (simp <;> omega))
  have sa : w.heap.size < w7.heap.size := by omega
  have sax : w.heap.size < w7.heap.size + 1 := by omega
  have Oa := Qa
  obtain ⟨oa0, oa1, oa2, oa3⟩ := Oa
  have Qb := (Qb.al2 sb _ _ _ _).mo hm7 (by first | omega | (simp <;> omega))
  have sb : w.heap.size + 1 < w7.heap.size := by omega
  have sbx : w.heap.size + 1 < w7.heap.size + 1 := by omega
  have Ob := Qb
  obtain ⟨ob0, ob1, ob2, ob3⟩ := Ob
  have Qc := (Qc.al2 sc _ _ _ _).mo hm7 (by first | omega | (simp <;> omega))
  have sc : w.heap.size + 1 + 1 < w7.heap.size := by omega
  have scx : w.heap.size + 1 + 1 < w7.heap.size + 1 := by omega
  have Oc := Qc
  obtain ⟨oc0, oc1, oc2, oc3⟩ := Oc
  have Qs := (Qs.al2 ss _ _ _ _).mo hm7 (by first | omega | (simp <;> omega))
  have ss : w1.heap.size < w7.heap.size := by omega
  have ssx : w1.heap.size < w7.heap.size + 1 := by omega
  have Os := Qs
  obtain ⟨os0, os1, os2, os3⟩ := Os
  have Qt := (Qt.al2 st _ _ _ _).mo hm7 (by first | omega | (simp <;> omega))
  have st : w2.heap.size < w7.heap.size := by omega
  have stx : w2.heap.size < w7.heap.size + 1 := by omega
  have Ot := Qt
  obtain ⟨ot0, ot1, ot2, ot3⟩ := Ot
  have Qh := (Qh.al2 sh _ _ _ _).mo hm7 (by first | omega | (simp <;> omega))
  have sh : w3.heap.size < w7.heap.size := by omega
  have shx : w3.heap.size < w7.heap.size + 1 := by omega
  have Oh := Qh
  obtain ⟨oh0, oh1, oh2, oh3⟩ := Oh
  have Ql := (Ql.al2 sl _ _ _ _).mo hm7 (by first | omega | (simp <;> omega))
  have sl : w3.heap.size + 1 < w7.heap.size := by omega
  have slx : w3.heap.size + 1 < w7.heap.size + 1 := by omega
  have Ol := Ql
  obtain ⟨ol0, ol1, ol2, ol3⟩ := Ol
  have Qi := (Qi.al2 si _ _ _ _).mo hm7 (by first | omega | (simp <;> omega))
  have si : w4.heap.size < w7.heap.size := by omega
  have six : w4.heap.size < w7.heap.size + 1 := by omega
  have Oi := Qi
  obtain ⟨oi0, oi1, oi2, oi3⟩ := Oi
  have Qm := (Qm.al2 sm _ _ _ _).mo hm7 (by first | omega | (simp <;> omega))
  have sm : w4.heap.size + 1 < w7.heap.size := by omega
  have smx : w4.heap.size + 1 < w7.heap.size + 1 := by omega
  have Om := Qm
  obtain ⟨om0, om1, om2, om3⟩ := Om
  have Qleft : At4 w7 (w6.heap.size + 1) (l0 (vl a0 a1 a2 a3 * vl c0 c1 c2 c3 + vl b0 b1 b2 b3 * vl c0 c1 c2 c3)) (l1 (vl a0 a1 a2 a3 * vl c0 c1 c2 c3 + vl b0 b1 b2 b3 * vl c0 c1 c2 c3)) (l2 (vl a0 a1 a2 a3 * vl c0 c1 c2 c3 + vl b0 b1 b2 b3 * vl c0 c1 c2 c3)) (l3 (vl a0 a1 a2 a3 * vl c0 c1 c2 c3 + vl b0 b1 b2 b3 * vl c0 c1 c2 c3)) := At4.mo (by simp [At4, go_sem]) hm7 (by first | omega | (simp <;> omega))
  have sleft : w6.heap.size + 1 < w7.heap.size := by omega
  have sleftx : w6.heap.size + 1 < w7.heap.size + 1 := by omega
  have Oleft := Qleft
  obtain ⟨oleft0, oleft1, oleft2, oleft3⟩ := Oleft
  go_wp2_with fail
  refine (mul_any b0 b1 b2 b3 c0 c1 c2 c3 _ hb hc).mono ?_
  rintro e w8 ⟨rfl, hm8⟩
  have hz8 := hm8.size
  simp only [World.size_alloc] at hz8
  clear oa0 oa1 oa2 oa3 ob0 ob1 ob2 ob3 oc0 oc1 oc2 oc3 os0 os1 os2 os3 ot0 ot1 ot2 ot3 oh0 oh1 oh2 oh3 ol0 ol1 ol2 ol3 oi0 oi1 oi2 oi3 om0 om1 om2 om3 oleft0 oleft1 oleft2 oleft3
  have Qa := (Qa.al2 sa _ _ _ _).mo hm8 (by first | omega | (simp <;> omega))
  have sa : w.heap.size < w8.heap.size := by omega
  have sax : w.heap.size < w8.heap.size + 1 := by omega
  have Oa := Qa
  obtain ⟨oa0, oa1, oa2, oa3⟩ := Oa
  have Qb := (Qb.al2 sb _ _ _ _).mo hm8 (by first | omega | (simp <;> omega))
  have sb : w.heap.size + 1 < w8.heap.size := by omega
  have sbx : w.heap.size + 1 < w8.heap.size + 1 := by omega
  have Ob := Qb
  obtain ⟨ob0, ob1, ob2, ob3⟩ := Ob
  have Qc := (Qc.al2 sc _ _ _ _).mo hm8 (by first | omega | (simp <;> omega))
  have sc : w.heap.size + 1 + 1 < w8.heap.size := by omega
  have scx : w.heap.size + 1 + 1 < w8.heap.size + 1 := by omega
  have Oc := Qc
  obtain ⟨oc0, oc1, oc2, oc3⟩ := Oc
  have Qs := (Qs.al2 ss _ _ _ _).mo hm8 (by first | omega | (simp <;> omega))
  have ss : w1.heap.size < w8.heap.size := by omega
  have ssx : w1.heap.size < w8.heap.size + 1 := by omega
  have Os := Qs
  obtain ⟨os0, os1, os2, os3⟩ := Os
  have Qt := (Qt.al2 st _ _ _ _).mo hm8 (by first | omega | (simp <;> omega))
  have st : w2.heap.size < w8.heap.size := by omega
  have stx : w2.heap.size < w8.heap.size + 1 := by omega
  have Ot := Qt
  obtain ⟨ot0, ot1, ot2, ot3⟩ := Ot
  have Qh := (Qh.al2 sh _ _ _ _).mo hm8 (by first | omega | (simp <;> omega))
  have sh : w3.heap.size < w8.heap.size := by omega
  have shx : w3.heap.size < w8.heap.size + 1 := by omega
  have Oh := Qh
  obtain ⟨oh0, oh1, oh2, oh3⟩ := Oh
  have Ql := (Ql.al2 sl _ _ _ _).mo hm8 (by first | omega | (simp <;> omega))
  have sl : w3.heap.size + 1 < w8.heap.size := by omega
  have slx : w3.heap.size + 1 < w8.heap.size + 1 := by omega
  have Ol := Ql
  obtain ⟨ol0, ol1, ol2, ol3⟩ := Ol
  have Qi := (Qi.al2 si _ _ _ _).mo hm8 (by first | omega | (simp <;> omega))
  have si : w4.heap.size < w8.heap.size := by omega
  have six : w4.heap.size < w8.heap.size + 1 := by omega
  have Oi := Qi
  obtain ⟨oi0, oi1, oi2, oi3⟩ := Oi
  have Qm := (Qm.al2 sm _ _ _ _).mo hm8 (by first | omega | (simp <;> omega))
  have sm : w4.heap.size + 1 < w8.heap.size := by omega
  have smx : w4.heap.size + 1 < w8.heap.size + 1 := by omega
  have Om := Qm
  obtain ⟨om0, om1, om2, om3⟩ := Om
  have Qleft := (Qleft.al2 sleft _ _ _ _).mo hm8 (by first | omega | (simp <;> omega))
  have sleft : w6.heap.size + 1 < w8.heap.size := by omega
  have sleftx : w6.heap.size + 1 < w8.heap.size + 1 := by omega
  have Oleft := Qleft
  obtain ⟨oleft0, oleft1, oleft2, oleft3⟩ := Oleft
  have Qp : At4 w8 (w7.heap.size + 1) (l0 (vl a0 a1 a2 a3 * vl c0 c1 c2 c3)) (l1 (vl a0 a1 a2 a3 * vl c0 c1 c2 c3)) (l2 (vl a0 a1 a2 a3 * vl c0 c1 c2 c3)) (l3 (vl a0 a1 a2 a3 * vl c0 c1 c2 c3)) := At4.mo (by simp [At4, go_sem]) hm8 (by first | omega | (simp <;> omega))
  have sp : w7.heap.size + 1 < w8.heap.size := by omega
  have spx : w7.heap.size + 1 < w8.heap.size + 1 := by omega
  have Op := Qp
  obtain ⟨op0, op1, op2, op3⟩ := Op
  go_wp2_with fail
  refine (add_any (l0 (vl a0 a1 a2 a3 * vl c0 c1 c2 c3)) (l1 (vl a0 a1 a2 a3 * vl c0 c1 c2 c3)) (l2 (vl a0 a1 a2 a3 * vl c0 c1 c2 c3)) (l3 (vl a0 a1 a2 a3 * vl c0 c1 c2 c3)) (l0 (vl b0 b1 b2 b3 * vl c0 c1 c2 c3)) (l1 (vl b0 b1 b2 b3 * vl c0 c1 c2 c3)) (l2 (vl b0 b1 b2 b3 * vl c0 c1 c2 c3)) (l3 (vl b0 b1 b2 b3 * vl c0 c1 c2 c3)) _ (u4_lb _) (u4_lb _)).mono ?_
  rintro e w9 ⟨rfl, hm9⟩
  rw [vl_nv (vl a0 a1 a2 a3 * vl c0 c1 c2 c3), vl_nv (vl b0 b1 b2 b3 * vl c0 c1 c2 c3), nv_add_mod (vl a0 a1 a2 a3 * vl c0 c1 c2 c3) (vl b0 b1 b2 b3 * vl c0 c1 c2 c3)]
  have hz9 := hm9.size
  simp only [World.size_alloc] at hz9
  clear oa0 oa1 oa2 oa3 ob0 ob1 ob2 ob3 oc0 oc1 oc2 oc3 os0 os1 os2 os3 ot0 ot1 ot2 ot3 oh0 oh1 oh2 oh3 ol0 ol1 ol2 ol3 oi0 oi1 oi2 oi3 om0 om1 om2 om3 oleft0 oleft1 oleft2 oleft3 op0 op1 op2 op3
  have Qa := (Qa.al2 sa _ _ _ _).mo hm9 (by first | omega | (simp <;> omega))
  have sa : w.heap.size < w9.heap.size := by omega
  have sax : w.heap.size < w9.heap.size + 1 := by omega
  have Oa := Qa
  obtain ⟨oa0, oa1, oa2, oa3⟩ := Oa
  have Qb := (Qb.al2 sb _ _ _ _).mo hm9 (by first | omega | (simp <;> omega))
  have sb : w.heap.size + 1 < w9.heap.size := by omega
  have sbx : w.heap.size + 1 < w9.heap.size + 1 := by omega
  have Ob := Qb
  obtain ⟨ob0, ob1, ob2, ob3⟩ := Ob
  have Qc := (Qc.al2 sc _ _ _ _).mo hm9 (by first | omega | (simp <;> omega))
  have sc : w.heap.size + 1 + 1 < w9.heap.size := by omega
  have scx : w.heap.size + 1 + 1 < w9.heap.size + 1 := by omega
  have Oc := Qc
  obtain ⟨oc0, oc1, oc2, oc3⟩ := Oc
  have Qs := (Qs.al2 ss _ _ _ _).mo hm9 (by first | omega | (simp <;> omega))
  have ss : w1.heap.size < w9.heap.size := by omega
  have ssx : w1.heap.size < w9.heap.size + 1 := by omega
  have Os := Qs
  obtain ⟨os0, os1, os2, os3⟩ := Os
  have Qt := (Qt.al2 st _ _ _ _).mo hm9 (by first | omega | (simp <;> omega))
  have st : w2.heap.size < w9.heap.size := by omega
  have stx : w2.heap.size < w9.heap.size + 1 := by omega
  have Ot := Qt
  obtain ⟨ot0, ot1, ot2, ot3⟩ := Ot
  have Qh := (Qh.al2 sh _ _ _ _).mo hm9 (by first | omega | (simp <;> omega))
  have sh : w3.heap.size < w9.heap.size := by omega
  have shx : w3.heap.size < w9.heap.size + 1 := by omega
  have Oh := Qh
  obtain ⟨oh0, oh1, oh2, oh3⟩ := Oh
  have Ql := (Ql.al2 sl _ _ _ _).mo hm9 (by first | omega | (simp <;> omega))
  have sl : w3.heap.size + 1 < w9.heap.size := by omega
  have slx : w3.heap.size + 1 < w9.heap.size + 1 := by omega
  have Ol := Ql
  obtain ⟨ol0, ol1, ol2, ol3⟩ := Ol
  have Qi := (Qi.al2 si _ _ _ _).mo hm9 (by first | omega | (simp <;> omega))
  have si : w4.heap.size < w9.heap.size := by omega
  have six : w4.heap.size < w9.heap.size + 1 := by omega
  have Oi := Qi
  obtain ⟨oi0, oi1, oi2, oi3⟩ := Oi
  have Qm := (Qm.al2 sm _ _ _ _).mo hm9 (by first | omega | (simp <;> omega))
  have sm : w4.heap.size + 1 < w9.heap.size := by omega
  have smx : w4.heap.size + 1 < w9.heap.size + 1 := by omega
  have Om := Qm
  obtain ⟨om0, om1, om2, om3⟩ := Om
  have Qleft := (Qleft.al2 sleft _ _ _ _).mo hm9 (by first | omega | (simp <;> omega))
  have sleft : w6.heap.size + 1 < w9.heap.size := by omega
  have sleftx : w6.heap.size + 1 < w9.heap.size + 1 := by omega
  have Oleft := Qleft
  obtain ⟨oleft0, oleft1, oleft2, oleft3⟩ := Oleft
  have Qp := (Qp.al2 sp _ _ _ _).mo hm9 (by first | omega | (simp <;> omega))
  have sp : w7.heap.size + 1 < w9.heap.size := by omega
  have spx : w7.heap.size + 1 < w9.heap.size + 1 := by omega
  have Op := Qp
  obtain ⟨op0, op1, op2, op3⟩ := Op
  have Qq : At4 w9 (w8.heap.size + 1) (l0 (vl b0 b1 b2 b3 * vl c0 c1 c2 c3)) (l1 (vl b0 b1 b2 b3 * vl c0 c1 c2 c3)) (l2 (vl b0 b1 b2 b3 * vl c0 c1 c2 c3)) (l3 (vl b0 b1 b2 b3 * vl c0 c1 c2 c3)) := At4.mo (by simp [At4, go_sem]) hm9 (by first | omega | (simp <;> omega))
  have sq : w8.heap.size + 1 < w9.heap.size := by omega
  have sqx : w8.heap.size + 1 < w9.heap.size + 1 := by omega
  have Oq := Qq
  obtain ⟨oq0, oq1, oq2, oq3⟩ := Oq
  go_wp2_with fail
  go_ret
  refine ⟨rfl, ?_⟩
  repeat (first | with_reducible exact Mo.refl _ | with_reducible apply Mo.drew | with_reducible apply Mo.drewN | with_reducible apply Mo.alloc | with_reducible refine Mo.trans ?_ (by with_reducible assumption))
end Go.Proofs.Ytpfmccfogkgakaa
