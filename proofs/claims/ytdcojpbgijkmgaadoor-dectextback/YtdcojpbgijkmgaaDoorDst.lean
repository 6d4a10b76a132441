/-
  limb.guessLimb and limb.divStep, whatever the limbs: the walks.
-/
import Derived.Test.YtdcojpbgijkmgaaDoorDivl
import Derived.Test.YtdcojpbgijkmgaaDoorMul
import Derived.Test.YtdcojpbgijkmgaaDoorAid
import Derived.Deep.CutRange
namespace Go.Proofs.YtdcojpbgijkmgaaDoor
open Go.RowKit
/-- The guess of a limb of the quotient. -/
def gl (r2 r3 b3 : Int) : Int := if b3 ≤ r3 then 18446744073709551615 else (r3 * 18446744073709551616 + r2) / b3
set_option maxHeartbeats 1000000 in
theorem guess_any (r0 r1 r2 r3 b0 b1 b2 b3 : Int) (w : World) (hr : U4 r0 r1 r2 r3) (hb : U4 b0 b1 b2 b3) :
    Calls Tryd.prog 94 #[.agg #[.int .u64 r0, .int .u64 r1, .int .u64 r2, .int .u64 r3], .agg #[.int .u64 b0, .int .u64 b1, .int .u64 b2, .int .u64 b3]] w fun e w' =>
      e = .returned (.int .u64 (gl r2 r3 b3)) ∧ Mo w w' := by
  obtain ⟨⟨p0, q0⟩, ⟨p1, q1⟩, ⟨p2, q2⟩, ⟨p3, q3⟩⟩ := hr
  obtain ⟨⟨u0, v0⟩, ⟨u1, v1⟩, ⟨u2, v2⟩, ⟨u3, v3⟩⟩ := hb
  by_cases h : b3 ≤ r3
  · have e : gl r2 r3 b3 = 18446744073709551615 := by unfold gl; rw [if_pos h]
    rw [e]
    clear e
    go_enter Tryd.func94, Tryd.ntmps94
    go_wp2
    go_ret
    exact ⟨rfl, ((Mo.refl _).alloc _ _).alloc _ _⟩
  · have e : gl r2 r3 b3 = (r3 * 18446744073709551616 + r2) / b3 := by unfold gl; rw [if_neg h]
    rw [e]
    clear e
    have h' : r3 < b3 := by omega
    go_enter Tryd.func94, Tryd.ntmps94
    go_wp2_with (go_at_call 69; refine (div64_any r3 r2 b3 _ p3 h' p2 q2 v3).mono ?_; rintro e w' ⟨rfl, n, rfl⟩)
    go_ret
    exact ⟨rfl, (((Mo.refl _).alloc _ _).alloc _ _).drewN _⟩
/-- The guess is a word, and not below the quotient. -/
theorem gl_bd {r0 r1 r2 r3 b0 b1 b2 b3 x : Int} (hr : U4 r0 r1 r2 r3) (hb : U4 b0 b1 b2 b3) (hx : U1 x) (hlt : vl r0 r1 r2 r3 < vl b0 b1 b2 b3) :
    U1 (gl r2 r3 b3) ∧ (vl r0 r1 r2 r3 * 18446744073709551616 + x) / vl b0 b1 b2 b3 ≤ gl r2 r3 b3 := by
  have rb := vl_bd hr
  have bb := vl_bd hb
  obtain ⟨⟨p0, q0⟩, ⟨p1, q1⟩, ⟨p2, q2⟩, ⟨p3, q3⟩⟩ := hr
  obtain ⟨⟨u0, v0⟩, ⟨u1, v1⟩, ⟨u2, v2⟩, ⟨u3, v3⟩⟩ := hb
  obtain ⟨x0, x1⟩ := hx
  have qlt : (vl r0 r1 r2 r3 * 18446744073709551616 + x) / vl b0 b1 b2 b3 < 18446744073709551616 := by
    apply Int.ediv_lt_of_lt_mul (by omega)
    have : (vl r0 r1 r2 r3 + 1) * 18446744073709551616 ≤ vl b0 b1 b2 b3 * 18446744073709551616 := by omega
    omega
  have qn : 0 ≤ (vl r0 r1 r2 r3 * 18446744073709551616 + x) / vl b0 b1 b2 b3 := Int.ediv_nonneg (by omega) (by omega)
  unfold gl
  by_cases h : b3 ≤ r3
  · rw [if_pos h]
    exact ⟨⟨by decide, by decide⟩, by omega⟩
  · rw [if_neg h]
    refine ⟨⟨Int.ediv_nonneg (by omega) u3, Int.ediv_lt_of_lt_mul (by omega) (by omega)⟩, ?_⟩
    apply (Int.le_ediv_iff_mul_le (by omega)).2
    have m := Int.ediv_mul_le (vl r0 r1 r2 r3 * 18446744073709551616 + x) (show vl b0 b1 b2 b3 ≠ 0 by omega)
    generalize (vl r0 r1 r2 r3 * 18446744073709551616 + x) / vl b0 b1 b2 b3 = q at *
    have m2 : q * (6277101735386680763835789423207666416102355444464034512896 * b3) ≤ q * vl b0 b1 b2 b3 := Int.mul_le_mul_of_nonneg_left (by unfold vl; omega) qn
    rw [Int.mul_left_comm] at m2
    have m3 : vl r0 r1 r2 r3 * 18446744073709551616 + x < 6277101735386680763835789423207666416102355444464034512896 * (r3 * 18446744073709551616 + r2 + 1) := by unfold vl; omega
    omega

/-- What is left and its top limb, of Y = N less D times the guess, whatever its sign. -/
theorem left_eq {r0 r1 r2 r3 x T lo N DG Y : Int} (hN : N = vl r0 r1 r2 r3 * 18446744073709551616 + x) (hT : T = DG / MM) (hlo : lo = DG % MM) (hY : Y = N - DG) :
    (vl x r0 r1 r2 - lo) % MM = Y % MM ∧ IntKind.u64.wrap (IntKind.u64.wrap (r3 - T) - -((vl x r0 r1 r2 - lo) / MM)) = Y / MM % 18446744073709551616 := by
  rw [IntKind.wrap_u64, IntKind.wrap_u64]
  have e : Y = (vl x r0 r1 r2 - lo) + MM * (r3 - T) := by subst hN hY hT hlo; unfold vl MM; omega
  constructor
  · rw [e]; unfold MM; omega
  · rw [e]; unfold MM; omega
theorem back_eq {Y D S : Int} (hS : S = Y % MM + D) : nv S = nv (Y + D) ∧ IntKind.u64.wrap (Y / MM % 18446744073709551616 + S / MM) = (Y + D) / MM % 18446744073709551616 := by
  constructor
  · rw [← nv_mod S, ← nv_mod (Y + D), hS, Int.emod_add_emod]
  · rw [IntKind.wrap_u64, hS]; unfold MM; omega
/-- Where the top limb is not 0, what is left is below 0; else the guess is the quotient. -/
theorem top_says {N D g Y t : Int} (hD : 0 < D) (hD2 : D < MM) (hN : 0 ≤ N) (hg : 0 ≤ g) (hg2 : g < 18446744073709551616) (hq : N / D ≤ g) (hY : Y = N - D * g) (ht : t = Y / MM % 18446744073709551616) :
    (t ≠ 0 → N / D ≤ g - 1 ∧ 1 ≤ g) ∧ (t = 0 → g = N / D ∧ Y = N % D) := by
  have m1 : N < (N / D + 1) * D := Int.lt_ediv_add_one_mul_self N hD
  have m2 : (N / D + 1) * D ≤ (g + 1) * D := Int.mul_le_mul_of_nonneg_right (by omega) (by omega)
  rw [Int.add_mul g, Int.one_mul, Int.mul_comm g] at m2
  have m3 : D * g ≤ D * 18446744073709551615 := Int.mul_le_mul_of_nonneg_left (by omega) (by omega)
  have qn : 0 ≤ N / D := Int.ediv_nonneg hN (by omega)
  have ylt : Y < D := by omega
  refine ⟨fun h => ?_, fun h => ?_⟩
  · have yneg : Y < 0 := by
      apply Int.lt_of_not_ge
      intro hge
      apply h
      rw [ht]
      unfold MM at *
      omega
    have : N / D < g := by
      apply Int.ediv_lt_of_lt_mul hD
      rw [Int.mul_comm]
      omega
    omega
  · have ypos : 0 ≤ Y := by
      apply Int.le_of_not_gt
      intro hlt
      rw [ht] at h
      unfold MM at *
      omega
    have : g ≤ N / D := by
      apply (Int.le_ediv_iff_mul_le hD).2
      rw [Int.mul_comm]
      omega
    have e : g = N / D := by omega
    refine ⟨e, ?_⟩
    rw [hY, e, Int.emod_def]

/-- The world of a step. -/
def DW (w wr : World) (k : Nat) (b0 b1 b2 b3 y0 y1 y2 y3 : Int) : Prop := Mo w wr ∧ w.heap.size + 1 + 1 < k ∧ k < wr.heap.size ∧ At4 wr (w.heap.size + 1) b0 b1 b2 b3 ∧ At4 wr (w.heap.size + 1 + 1) 0 0 0 0 ∧ Fz wr (w.heap.size + 1 + 1) ∧ At4 wr k y0 y1 y2 y3 ∧ Fz wr k
theorem DW.mo {w wr w1 : World} {k : Nat} {b0 b1 b2 b3 y0 y1 y2 y3 : Int} (h : DW w wr k b0 b1 b2 b3 y0 y1 y2 y3) (m : Mo wr w1) : DW w w1 k b0 b1 b2 b3 y0 y1 y2 y3 := by
  obtain ⟨h1, h2, h3, h4, h5, h6, h7, h8⟩ := h
  have := m.size
  exact ⟨h1.trans m, h2, by omega, h4.mo m (by omega), h5.mo m (by omega), h6.mo m, h7.mo m h3, h8.mo m⟩
theorem DW.put {w w1 : World} {k : Nat} {b0 b1 b2 b3 y0 y1 y2 y3 : Int} (h : DW w w1 k b0 b1 b2 b3 y0 y1 y2 y3) (z0 z1 z2 z3 : Int) : DW w ((((w1.setCell ⟨k, 0, none⟩ (.int .u64 z0)).setCell ⟨k, 1, none⟩ (.int .u64 z1)).setCell ⟨k, 2, none⟩ (.int .u64 z2)).setCell ⟨k, 3, none⟩ (.int .u64 z3)) k b0 b1 b2 b3 z0 z1 z2 z3 := by
  obtain ⟨h1, h2, h3, ⟨a0, a1, a2, a3⟩, ⟨c0, c1, c2, c3⟩, h6, ⟨d0, d1, d2, d3⟩, h8⟩ := h
  have le : w.heap.size ≤ k := by omega
  have n1 : ¬ w.heap.size + 1 = k := by omega
  have n2 : ¬ w.heap.size + 1 + 1 = k := by omega
  refine ⟨(((h1.setCell le _).setCell le _).setCell le _).setCell le _, h2, by simpa [World.setCell] using h3, ?_, ?_, ?_, ?_, ?_⟩
  · simp [At4, go_sem, *]
  · simp [At4, go_sem, *]
  · intro o; simp [World.frozen?_setCell, h6 o]
  · simp [At4, go_sem, *]
  · intro o; simp [World.frozen?_setCell, h8 o]

set_option maxHeartbeats 2000000 in
theorem divStep_any (r0 r1 r2 r3 x b0 b1 b2 b3 N D : Int) (w : World) (hr : U4 r0 r1 r2 r3) (hx : U1 x) (hb : U4 b0 b1 b2 b3) (hN : Hid (N = vl r0 r1 r2 r3 * 18446744073709551616 + x)) (hD : Hid (D = vl b0 b1 b2 b3)) (hlt : Hid (vl r0 r1 r2 r3 < D)) :
    Calls Tryd.prog 74 #[.agg #[.int .u64 r0, .int .u64 r1, .int .u64 r2, .int .u64 r3], .int .u64 x, .agg #[.int .u64 b0, .int .u64 b1, .int .u64 b2, .int .u64 b3]] w fun e w' =>
      e = .returned (.tuple #[.int .u64 (N / D), nv (N % D)]) ∧ Mo w w' := by
  have rb := vl_bd hr
  have bb := vl_bd hb
  have gb := gl_bd hr hb hx (by rw [← hD.out]; exact hlt.out)
  have HG : Hid (N / D ≤ gl r2 r3 b3) := by have := gb.2; rw [← hN.out, ← hD.out] at this; exact this
  have HB : Hid ((0 < D ∧ D < MM) ∧ 0 ≤ N) := by
    have a := hlt.out; have c := hD.out; have d := hN.out; unfold U1 at hx
    exact ⟨⟨by omega, by omega⟩, by omega⟩
  have gu := gb.1
  clear gb rb bb
  generalize hgl : gl r2 r3 b3 = g at *
  have Hgl : Hid _ := hgl
  clear hgl
  have gu' := gu
  obtain ⟨g0, g1⟩ := gu'
  go_enter Tryd.func74, Tryd.ntmps74
  go_wp2_with fail
  refine (guess_any r0 r1 r2 r3 b0 b1 b2 b3 _ hr hb).mono ?_
  rintro e w1 ⟨rfl, hm1⟩
  rw [Hgl.out]
  have z1 := hm1.size
  simp only [World.size_alloc] at z1
  have R1 : At4 w1 w.heap.size r0 r1 r2 r3 := At4.mo (by simp [At4, go_sem]) hm1 (by simp; omega)
  have B1 : At4 w1 (w.heap.size + 1) b0 b1 b2 b3 := At4.mo (by simp [At4, go_sem]) hm1 (by simp)
  have Z1 : At4 w1 (w.heap.size + 1 + 1) 0 0 0 0 := At4.mo (by simp [At4, go_sem]) hm1 (by simp)
  have F1 : Fz w1 (w.heap.size + 1 + 1) := Fz.mo (fun o => by simp [go_sem]) hm1
  have M1 : Mo w w1 := ((((Mo.refl _).alloc _ _).alloc _ _).alloc _ _).trans hm1
  clear hm1
  have o1 := R1
  have o2 := B1
  obtain ⟨c0, c1, c2, c3⟩ := o1
  obtain ⟨d0, d1, d2, d3⟩ := o2
  go_wp2_with fail
  refine (mulLimb_any b0 b1 b2 b3 g _ hb gu).mono ?_
  rintro e w2 ⟨rfl, hm2⟩
  rw [← hD.out]
  have z2 := hm2.size
  have R2 := R1.mo hm2 (by omega)
  have B2 := B1.mo hm2 (by omega)
  have Z2 := Z1.mo hm2 (by omega)
  have F2 := F1.mo hm2
  have M2 := M1.trans hm2
  clear c0 c1 c2 c3 d0 d1 d2 d3 R1 B1 Z1 F1 M1
  have o1 := R2
  have s1 : w.heap.size < w2.heap.size := by omega
  obtain ⟨c0, c1, c2, c3⟩ := o1
  generalize hT : D * g / MM = T
  generalize hP : D * g = P at *
  go_wp2_with fail
  refine (subBorrow_any x r0 r1 r2 (l0 P) (l1 P) (l2 P) (l3 P) _ ⟨hx, hr.1, hr.2.1, hr.2.2.1⟩ (u4_lb P)).mono ?_
  rintro e w3 ⟨rfl, hm3⟩
  rw [vl_nv P]
  obtain ⟨f1, f2⟩ := left_eq (r0 := r0) (r1 := r1) (r2 := r2) (r3 := r3) (x := x) (T := T) (lo := P % MM) (N := N) (DG := P) (Y := N - P) hN.out hT.symm rfl rfl
  rw [f1, nv_mod]
  generalize hbo : -((vl x r0 r1 r2 - P % MM) / MM) = bo at *
  generalize ht0 : (N - P) / MM % 18446744073709551616 = t0 at *
  have Ht0 : Hid _ := ht0
  have HP : Hid _ := hP
  have hz3 := hm3.size
  simp only [World.size_alloc] at hz3
  have q1 : (Mo (w2.alloc (.cells #[.int .u64 (l0 P), .int .u64 (l1 P), .int .u64 (l2 P), .int .u64 (l3 P)] 24)) w3) := hm3
  have m0 : Mo w2 w3 := ((Mo.refl _).alloc _ _).trans q1
  have R3 := R2.mo m0 s1
  have B3 := B2.mo m0 (by omega)
  have Z3 := Z2.mo m0 (by omega)
  have F3 := F2.mo m0
  have M3 := M2.trans m0
  have S0 : DW w (w3.alloc (.cells #[.int .u64 (l0 (N - P)), .int .u64 (l1 (N - P)), .int .u64 (l2 (N - P)), .int .u64 (l3 (N - P))] 24)) w3.heap.size b0 b1 b2 b3 (l0 (N - P)) (l1 (N - P)) (l2 (N - P)) (l3 (N - P)) := by
    have a : Mo w3 (w3.alloc (.cells #[.int .u64 (l0 (N - P)), .int .u64 (l1 (N - P)), .int .u64 (l2 (N - P)), .int .u64 (l3 (N - P))] 24)) := (Mo.refl _).alloc _ _
    exact ⟨M3.trans a, by omega, by simp, B3.mo a (by omega), Z3.mo a (by omega), F3.mo a, by simp [At4, go_sem], fun o => by simp [go_sem]⟩
  clear c0 c1 c2 c3 R2 B2 Z2 F2 M2 hm2 hm3 q1 m0 hT hP hbo ht0 f1 B3 Z3 F3 M3
  have s3 : w.heap.size < w3.heap.size := by omega
  obtain ⟨c0, c1, c2, c3⟩ := R3
  go_wp2
  go_loopw [8, 13] (fun s8 s13 wr => ∃ h t Y : Int, s8 = .int .u64 h ∧ s13 = .int .u64 t ∧ 0 ≤ h ∧ h < 18446744073709551616 ∧ 0 ≤ t ∧ t < 18446744073709551616 ∧ N / D ≤ h ∧ Y = N - D * h ∧ t = Y / MM % 18446744073709551616 ∧ DW w wr w3.heap.size b0 b1 b2 b3 (l0 Y) (l1 Y) (l2 Y) (l3 Y)) (fun s8 _ _ => (intOf s8).toNat)
  case atStart =>
    refine ⟨g, t0, N - P, rfl, rfl, g0, g1, ?_, ?_, HG.out, by rw [HP.out], Ht0.out.symm, S0⟩
    · rw [← Ht0.out]; omega
    · rw [← Ht0.out]; omega
  case round =>
    obtain ⟨h, t, Y, rfl, rfl, i1, i2, i3, i4, i5, i6, i7, ht⟩ := hrel
    obtain ⟨ts1, ts2⟩ := top_says HB.out.1.1 HB.out.1.2 HB.out.2 i1 i2 i5 i6 i7
    have HY : Hid (Y = N - D * h) := i6
    have Ht : Hid (t = Y / MM % 18446744073709551616) := i7
    clear i6 i7 i5 S0
    by_cases tz : t = 0
    · obtain ⟨e1, e2⟩ := ts2 tz
      have E1 : Hid _ := e1
      have E2 : Hid _ := e2
      have tb : (t != 0) = false := by rw [tz]; rfl
      clear e1 e2 ts1 ts2 tz
      obtain ⟨k1, k2, k3, K4, ⟨n0, n1, n2, n3⟩, K6, ⟨y0, y1, y2, y3⟩, K8⟩ := ht
      have K6 := fun o => K6 o
      go_wp2
      go_cut [6] from 56 to 57 (fun s6 wx => s6 = .int .u64 h ∧ At4 wx (w.heap.size + 1 + 1) (l0 Y) (l1 Y) (l2 Y) (l3 Y) ∧ Mo w wx)
      case first =>
        go_region
        go_wp2
        go_meet
        case rel =>
          refine ⟨rfl, by simp [At4, go_sem, n0, n1, n2, n3], ?_⟩
          repeat (first | with_reducible exact k1 | with_reducible apply Mo.drew | with_reducible refine Mo.setCell ?_ (by simp <;> omega) _)
      case rest =>
        obtain ⟨rfl, ⟨P0, P1, P2, P3⟩, hmo⟩ := hcut
        go_wp2
        refine bodyPost_ret (v := .tuple #[.int .u64 h, nv Y]) (by simp [results, Tryd.results74, go_sem, P0, P1, P2, P3]) rfl ?_
        exact ⟨by rw [E1.out, E2.out], hmo⟩
    · obtain ⟨j1, j2⟩ := ts1 tz
      have J1 : Hid (N / D ≤ h - 1) := j1
      have tb : (t != 0) = true := by simp [tz]
      clear ts1 ts2 tz j1
      have ht0 := ht
      obtain ⟨k1, k2, k3, ⟨d0, d1, d2, d3⟩, K5, K6, ⟨y0, y1, y2, y3⟩, K8⟩ := ht
      clear K5 K6 K8
      go_wp2_with fail
      refine (addCarry_any (l0 Y) (l1 Y) (l2 Y) (l3 Y) b0 b1 b2 b3 _ (u4_lb Y) hb).mono ?_
      rintro e w4 ⟨rfl, hm4⟩
      rw [vl_nv Y, ← hD.out]
      obtain ⟨f1, f2⟩ := back_eq (Y := Y) (D := D) rfl
      rw [f1]
      rw [← Ht.out] at f2
      have hd := (ht0.mo hm4).put (l0 (Y + D)) (l1 (Y + D)) (l2 (Y + D)) (l3 (Y + D))
      have ht1 := ht0.mo hm4
      clear k1 k2 k3 d0 d1 d2 d3 y0 y1 y2 y3
      obtain ⟨k1, k2, k3, K4, K5, K6, ⟨y0, y1, y2, y3⟩, K8⟩ := ht1
      have K8 := fun o => K8 o
      clear K4 K5 K6
      generalize (Y % MM + D) / MM = c at *
      generalize ht2 : (Y + D) / MM % 18446744073709551616 = t2 at *
      have Ht2 : Hid _ := ht2
      clear ht2 f1
      go_wp2
      go_roundw
      case rel =>
        refine ⟨h - 1, t2, Y + D, rfl, rfl, by omega, by omega, ?_, ?_, J1.out, ?_, Ht2.out.symm, hd⟩
        · rw [← Ht2.out]; omega
        · rw [← Ht2.out]; omega
        · rw [HY.out, Int.mul_sub, Int.mul_one]; omega
      case measure => simp [intOf]; omega
end Go.Proofs.YtdcojpbgijkmgaaDoor
