/-
  exciselaw01.LimbRests answers true for every three numbers: quotient times divisor and rest is what was divided, the rest below the divisor.
-/
import Derived.Test.YtpfmccfogkgakaaOrder
import Derived.Test.YtpfmccfogkgakaaDiv
import Derived.Deep.CutRange
namespace Go.Proofs.Ytpfmccfogkgakaa
open Go.RowKit
theorem At4.st {w : World} {k j : Nat} {a b c d : Int} (h : At4 w j a b c d) (hk : j ≠ k) {z : Int} : At4 (st4 w k z) j a b c d :=
  (((h.set hk _ _).set hk _ _).set hk _ _).set hk _ _
theorem At4.st_same {w : World} {k : Nat} {a b c d : Int} (h : At4 w k a b c d) {z : Int} : At4 (st4 w k z) k (l0 z) (l1 z) (l2 z) (l3 z) := by
  obtain ⟨b0, b1, b2, b3⟩ := h
  simp [At4, go_sem, *]

set_option maxHeartbeats 4000000 in
theorem rests_c (H L D Q R P : Int) (w : World) (hH0 : 0 ≤ H) (hHM : H < MM) (hL0 : 0 ≤ L) (hLM : L < MM) (hD0 : 0 ≤ D) (hDM : D < MM) (Hok : Hid (dok H D = true)) (HQ : Hid (Q = dq H L D)) (HR : Hid (R = dr H L D)) (HP : Hid (P = Q * D)) (bQ : Hid (0 ≤ Q ∧ Q < MM)) (bR : Hid (0 ≤ R ∧ R < MM))
    (Hsum : Hid (nv (P % MM + R) = nv L)) (Hov : Hid (ov (P % MM + R) = true)) (HPH : Hid (P / MM + 1 = H)) (Hcm : Hid (cm R D = -1)) :
    Calls Try.prog 9 #[nv H, nv L, nv D] w fun e w' => e = .returned (.bool true) ∧ Mo w w' := by
  have q4 := eq4
  go_enter Try.func9, Try.ntmps9
  go_wp2_with fail
  refine (div_any (l0 H) (l1 H) (l2 H) (l3 H) (l0 L) (l1 L) (l2 L) (l3 L) (l0 D) (l1 D) (l2 D) (l3 D) _ (u4_lb H) (u4_lb L) (u4_lb D)).mono ?_
  rintro e w1 ⟨rfl, hm1⟩
  rw [vl_lb H hH0 hHM, vl_lb L hL0 hLM, vl_lb D hD0 hDM, Hok.out, ← HQ.out, ← HR.out]
  have hz1 := hm1.size
  simp only [World.size_alloc] at hz1
  have Qh : At4 w1 (w.heap.size) (l0 H) (l1 H) (l2 H) (l3 H) := At4.mo (by simp [At4, go_sem]) hm1 (by first | omega | (simp <;> omega))
  have sh : w.heap.size < w1.heap.size := by omega
  have shx : w.heap.size < w1.heap.size + 1 := by omega
  have Oh := Qh
  obtain ⟨oh0, oh1, oh2, oh3⟩ := Oh
  have Ql : At4 w1 (w.heap.size + 1) (l0 L) (l1 L) (l2 L) (l3 L) := At4.mo (by simp [At4, go_sem]) hm1 (by first | omega | (simp <;> omega))
  have sl : w.heap.size + 1 < w1.heap.size := by omega
  have slx : w.heap.size + 1 < w1.heap.size + 1 := by omega
  have Ol := Ql
  obtain ⟨ol0, ol1, ol2, ol3⟩ := Ol
  have Qd : At4 w1 (w.heap.size + 1 + 1) (l0 D) (l1 D) (l2 D) (l3 D) := At4.mo (by simp [At4, go_sem]) hm1 (by first | omega | (simp <;> omega))
  have sd : w.heap.size + 1 + 1 < w1.heap.size := by omega
  have sdx : w.heap.size + 1 + 1 < w1.heap.size + 1 := by omega
  have Od := Qd
  obtain ⟨od0, od1, od2, od3⟩ := Od
  go_wp2_with fail
  refine (live_any _).mono ?_
  rintro e w2 ⟨rfl, hm2⟩
  have hz2 := hm2.size
  simp only [World.size_alloc] at hz2
  clear oh0 oh1 oh2 oh3 ol0 ol1 ol2 ol3 od0 od1 od2 od3
  have Qh := (Qh.al2 sh _ _ _ _).mo hm2 (by first | omega | (simp <;> omega))
  have sh : w.heap.size < w2.heap.size := by omega
  have shx : w.heap.size < w2.heap.size + 1 := by omega
  have Oh := Qh
  obtain ⟨oh0, oh1, oh2, oh3⟩ := Oh
  have Ql := (Ql.al2 sl _ _ _ _).mo hm2 (by first | omega | (simp <;> omega))
  have sl : w.heap.size + 1 < w2.heap.size := by omega
  have slx : w.heap.size + 1 < w2.heap.size + 1 := by omega
  have Ol := Ql
  obtain ⟨ol0, ol1, ol2, ol3⟩ := Ol
  have Qd := (Qd.al2 sd _ _ _ _).mo hm2 (by first | omega | (simp <;> omega))
  have sd : w.heap.size + 1 + 1 < w2.heap.size := by omega
  have sdx : w.heap.size + 1 + 1 < w2.heap.size + 1 := by omega
  have Od := Qd
  obtain ⟨od0, od1, od2, od3⟩ := Od
  have Qq : At4 w2 (w1.heap.size) (l0 Q) (l1 Q) (l2 Q) (l3 Q) := At4.mo (by simp [At4, go_sem]) hm2 (by first | omega | (simp <;> omega))
  have sq : w1.heap.size < w2.heap.size := by omega
  have sqx : w1.heap.size < w2.heap.size + 1 := by omega
  have Oq := Qq
  obtain ⟨oq0, oq1, oq2, oq3⟩ := Oq
  have Qr : At4 w2 (w1.heap.size + 1) (l0 R) (l1 R) (l2 R) (l3 R) := At4.mo (by simp [At4, go_sem]) hm2 (by first | omega | (simp <;> omega))
  have sr : w1.heap.size + 1 < w2.heap.size := by omega
  have srx : w1.heap.size + 1 < w2.heap.size + 1 := by omega
  have Or := Qr
  obtain ⟨or0, or1, or2, or3⟩ := Or
  go_wp2_with fail
  refine (mul_any (l0 Q) (l1 Q) (l2 Q) (l3 Q) (l0 D) (l1 D) (l2 D) (l3 D) _ (u4_lb Q) (u4_lb D)).mono ?_
  rintro e w3 ⟨rfl, hm3⟩
  rw [vl_lb Q bQ.out.1 bQ.out.2, vl_lb D hD0 hDM, ← HP.out]
  have hz3 := hm3.size
  clear oh0 oh1 oh2 oh3 ol0 ol1 ol2 ol3 od0 od1 od2 od3 oq0 oq1 oq2 oq3 or0 or1 or2 or3
  have Qh := (Qh).mo hm3 (by first | omega | (simp <;> omega))
  have sh : w.heap.size < w3.heap.size := by omega
  have shx : w.heap.size < w3.heap.size + 1 := by omega
  have Oh := Qh
  obtain ⟨oh0, oh1, oh2, oh3⟩ := Oh
  have Ql := (Ql).mo hm3 (by first | omega | (simp <;> omega))
  have sl : w.heap.size + 1 < w3.heap.size := by omega
  have slx : w.heap.size + 1 < w3.heap.size + 1 := by omega
  have Ol := Ql
  obtain ⟨ol0, ol1, ol2, ol3⟩ := Ol
  have Qd := (Qd).mo hm3 (by first | omega | (simp <;> omega))
  have sd : w.heap.size + 1 + 1 < w3.heap.size := by omega
  have sdx : w.heap.size + 1 + 1 < w3.heap.size + 1 := by omega
  have Od := Qd
  obtain ⟨od0, od1, od2, od3⟩ := Od
  have Qq := (Qq).mo hm3 (by first | omega | (simp <;> omega))
  have sq : w1.heap.size < w3.heap.size := by omega
  have sqx : w1.heap.size < w3.heap.size + 1 := by omega
  have Oq := Qq
  obtain ⟨oq0, oq1, oq2, oq3⟩ := Oq
  have Qr := (Qr).mo hm3 (by first | omega | (simp <;> omega))
  have sr : w1.heap.size + 1 < w3.heap.size := by omega
  have srx : w1.heap.size + 1 < w3.heap.size + 1 := by omega
  have Or := Qr
  obtain ⟨or0, or1, or2, or3⟩ := Or
  go_wp2_with fail
  refine (add_any (l0 P) (l1 P) (l2 P) (l3 P) (l0 R) (l1 R) (l2 R) (l3 R) _ (u4_lb P) (u4_lb R)).mono ?_
  rintro e w4 ⟨rfl, hm4⟩
  rw [vl_nv P, vl_lb R bR.out.1 bR.out.2, Hsum.out, Hov.out]
  have hz4 := hm4.size
  simp only [World.size_alloc] at hz4
  clear oh0 oh1 oh2 oh3 ol0 ol1 ol2 ol3 od0 od1 od2 od3 oq0 oq1 oq2 oq3 or0 or1 or2 or3
  have Qh := (Qh.al2 sh _ _ _ _).mo hm4 (by first | omega | (simp <;> omega))
  have sh : w.heap.size < w4.heap.size := by omega
  have shx : w.heap.size < w4.heap.size + 1 := by omega
  have Oh := Qh
  obtain ⟨oh0, oh1, oh2, oh3⟩ := Oh
  have Ql := (Ql.al2 sl _ _ _ _).mo hm4 (by first | omega | (simp <;> omega))
  have sl : w.heap.size + 1 < w4.heap.size := by omega
  have slx : w.heap.size + 1 < w4.heap.size + 1 := by omega
  have Ol := Ql
  obtain ⟨ol0, ol1, ol2, ol3⟩ := Ol
  have Qd := (Qd.al2 sd _ _ _ _).mo hm4 (by first | omega | (simp <;> omega))
  have sd : w.heap.size + 1 + 1 < w4.heap.size := by omega
  have sdx : w.heap.size + 1 + 1 < w4.heap.size + 1 := by omega
  have Od := Qd
  obtain ⟨od0, od1, od2, od3⟩ := Od
  have Qq := (Qq.al2 sq _ _ _ _).mo hm4 (by first | omega | (simp <;> omega))
  have sq : w1.heap.size < w4.heap.size := by omega
  have sqx : w1.heap.size < w4.heap.size + 1 := by omega
  have Oq := Qq
  obtain ⟨oq0, oq1, oq2, oq3⟩ := Oq
  have Qr := (Qr.al2 sr _ _ _ _).mo hm4 (by first | omega | (simp <;> omega))
  have sr : w1.heap.size + 1 < w4.heap.size := by omega
  have srx : w1.heap.size + 1 < w4.heap.size + 1 := by omega
  have Or := Qr
  obtain ⟨or0, or1, or2, or3⟩ := Or
  have Qp : At4 w4 (w3.heap.size) (l0 (P / MM)) (l1 (P / MM)) (l2 (P / MM)) (l3 (P / MM)) := At4.mo (by simp [At4, go_sem]) hm4 (by first | omega | (simp <;> omega))
  have sp : w3.heap.size < w4.heap.size := by omega
  have spx : w3.heap.size < w4.heap.size + 1 := by omega
  have Op := Qp
  obtain ⟨op0, op1, op2, op3⟩ := Op
  have Qm : At4 w4 (w3.heap.size + 1) (l0 P) (l1 P) (l2 P) (l3 P) := At4.mo (by simp [At4, go_sem]) hm4 (by first | omega | (simp <;> omega))
  have sm : w3.heap.size + 1 < w4.heap.size := by omega
  have smx : w3.heap.size + 1 < w4.heap.size + 1 := by omega
  have Om := Qm
  obtain ⟨om0, om1, om2, om3⟩ := Om
  have Fp : Fz w4 w3.heap.size := Fz.mo (fun o => by simp [go_sem]) hm4
  have M4 : Mo w w4 := by
    repeat (first | with_reducible exact Mo.refl _ | with_reducible apply Mo.drew | with_reducible apply Mo.alloc | with_reducible refine Mo.trans ?_ (by with_reducible assumption))
  go_upto_region 7 with fail
  go_cut [] from 42 to 47 (fun wx => Mo w wx ∧ At4 wx w.heap.size (l0 H) (l1 H) (l2 H) (l3 H) ∧ At4 wx (w.heap.size + 1) (l0 L) (l1 L) (l2 L) (l3 L) ∧ At4 wx (w.heap.size + 1 + 1) (l0 D) (l1 D) (l2 D) (l3 D) ∧ At4 wx w3.heap.size (l0 H) (l1 H) (l2 H) (l3 H) ∧ At4 wx (w1.heap.size + 1) (l0 R) (l1 R) (l2 R) (l3 R) ∧ At4 wx w4.heap.size (l0 L) (l1 L) (l2 L) (l3 L))
  case first =>
    go_region_with
      (first | (go_at_call 20; refine (from20_any 1 _ ⟨by decide, by decide⟩).mono ?_; rintro e w5 ⟨rfl, hm5⟩; have m5 : Mo w4 w5 := Mo.trans (by repeat (first | with_reducible exact Mo.refl _ | with_reducible apply Mo.drew | with_reducible apply Mo.alloc)) hm5; obtain ⟨a0, a1, a2, a3⟩ := Qp.mo m5 sp) | (go_at_call 10; refine (add_any (l0 (P / MM)) (l1 (P / MM)) (l2 (P / MM)) (l3 (P / MM)) (l0 1) (l1 1) (l2 1) (l3 1) _ (u4_lb _) (u4_lb _)).mono ?_; rintro e w6 ⟨rfl, hm6⟩; rw [vl_nv (P / MM), vl_nv 1, nv_add_mod, HPH.out]; have m6 : Mo w5 w6 := Mo.trans (by repeat (first | with_reducible exact Mo.refl _ | with_reducible apply Mo.drew | with_reducible apply Mo.alloc)) hm6; have m7 := m5.trans m6; obtain ⟨a0, a1, a2, a3⟩ := Qp.mo m7 sp; have F6 := fun o => (Fp.mo m7) o))
    all_goals
      go_wp2
      go_meet
      case rel =>
        have z6 := m7.size
        have g5 : At4 w5 w4.heap.size (l0 L) (l1 L) (l2 L) (l3 L) := At4.mo (by simp [At4, go_sem]) hm5 (by simp)
        have z5 : w4.heap.size < w5.heap.size := by
          have := hm5.size
          simp at this
          omega
        refine ⟨((((M4.trans m7).setCell (by show w.heap.size ≤ w3.heap.size; omega) _).setCell (by show w.heap.size ≤ w3.heap.size; omega) _).setCell (by show w.heap.size ≤ w3.heap.size; omega) _).setCell (by show w.heap.size ≤ w3.heap.size; omega) _, At4.st (Qh.mo m7 sh) (by omega), At4.st (Ql.mo m7 sl) (by omega), At4.st (Qd.mo m7 sd) (by omega), At4.st_same (Qp.mo m7 sp), At4.st (Qr.mo m7 sr) (by omega), At4.st (g5.mo m6 z5) (by omega)⟩
  case rest =>
    obtain ⟨hmo, ⟨b0, b1, b2, b3⟩, ⟨d0, d1, d2, d3⟩, ⟨e0, e1, e2, e3⟩, ⟨f0, f1, f2, f3⟩, ⟨g0, g1, g2, g3⟩, ⟨i0, i1, i2, i3⟩⟩ := hcut
    go_wp2_with fail
    refine (cmp15_any (l0 R) (l1 R) (l2 R) (l3 R) (l0 D) (l1 D) (l2 D) (l3 D) _ (u4_lb R) (u4_lb D)).mono ?_
    rintro e w8 ⟨rfl, hm8⟩
    rw [vl_lb R bR.out.1 bR.out.2, vl_lb D hD0 hDM, Hcm.out]
    go_wp2_with fail
    go_ret
    exact ⟨rfl, hmo.trans hm8⟩
end Go.Proofs.Ytpfmccfogkgakaa
