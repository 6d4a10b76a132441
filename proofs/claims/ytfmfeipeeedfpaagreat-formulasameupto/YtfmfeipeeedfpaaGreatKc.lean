/-
  limb.guessLimb and limb.divStep, whatever the limbs: the walks. Plain arithmetic of shifts of four limbs. Plain arithmetic of limb.Mul: one row more. limb.shiftLeft and limb.shiftRight, whatever the limbs and the number from 0 to 256: the walks. limb.shiftLeft and limb.shiftRight as products and quotients. limb.Bits, the document's Bit and Bits, whatever the limbs: the walks. limb.Cmp and the document's Cmp hold two numbers against each other, whatever the limbs: the walks. limb.Div, whatever the numbers: the walk. limb.Mul, whatever the limbs: the walk. The document's Sub, whatever the numbers: the walk. limb.Ten, whatever the number: the walk. The contracts of limb's functions and of the document's, in plain numbers. Decimals: what may be, signs, tens, products (the program). Decimals: numbers of twice as many bits; sums, differences, how two stand (the program). Decimals: the calls for sums, differences, how two stand (the program). Decimals: sums, differences, how two stand (the program). Decimals: how two stand, rounding (the program). Decimals: rounding, products (the program). Decimals: products and rounded numbers (the program). Values of formulas: what is said of them, what comes of them; == of them. What may be a value, what is asked of one: the program. What operands are asked: the program. Operators, and what is done with one value: the program. What is done with values: the program.
-/
import Derived.Test.YtfmfeipeeedfpaaGreatKb
import Derived.Deep.CutRange
import Derived.ScopeJumps
import Derived.WalkMore
import Derived.Laws.StructEq
namespace Go.Proofs.YtfmfeipeeedfpaaGreat
open Go.RowKit
/-- The guess of a limb of the quotient. -/
def gl (r2 r3 b3 : Int) : Int := if b3 ≤ r3 then 18446744073709551615 else (r3 * 18446744073709551616 + r2) / b3
set_option maxHeartbeats 1000000 in
theorem guess_any (r0 r1 r2 r3 b0 b1 b2 b3 : Int) (w : World) (hr : U4 r0 r1 r2 r3) (hb : U4 b0 b1 b2 b3) :
    Calls Tryz.prog 229 #[.agg #[.int .u64 r0, .int .u64 r1, .int .u64 r2, .int .u64 r3], .agg #[.int .u64 b0, .int .u64 b1, .int .u64 b2, .int .u64 b3]] w fun e w' =>
      e = .returned (.int .u64 (gl r2 r3 b3)) ∧ Mo w w' := by
  obtain ⟨⟨p0, q0⟩, ⟨p1, q1⟩, ⟨p2, q2⟩, ⟨p3, q3⟩⟩ := hr
  obtain ⟨⟨u0, v0⟩, ⟨u1, v1⟩, ⟨u2, v2⟩, ⟨u3, v3⟩⟩ := hb
  by_cases h : b3 ≤ r3
  · have e : gl r2 r3 b3 = 18446744073709551615 := by unfold gl; rw [if_pos h]
    rw [e]
    clear e
    go_enter Tryz.func229, Tryz.ntmps229
    go_wp2
    go_ret
    exact ⟨rfl, ((Mo.refl _).alloc _ _).alloc _ _⟩
  · have e : gl r2 r3 b3 = (r3 * 18446744073709551616 + r2) / b3 := by unfold gl; rw [if_neg h]
    rw [e]
    clear e
    have h' : r3 < b3 := by omega
    go_enter Tryz.func229, Tryz.ntmps229
    go_wp2_with (go_at_call 232; refine (div64_any r3 r2 b3 _ p3 h' p2 q2 v3).mono ?_; rintro e w' ⟨rfl, n, rfl⟩)
    go_ret
    exact ⟨rfl, (((Mo.refl _).alloc _ _).alloc _ _).drewN _⟩
/-- The guess is a word, and not below the quotient. -/
theorem gl_bd {r0 r1 r2 r3 b0 b1 b2 b3 x : Int} (hr : U4 r0 r1 r2 r3) (hb : U4 b0 b1 b2 b3) (hx : U1 x) (hlt : vl r0 r1 r2 r3 < vl b0 b1 b2 b3) :
    U1 (gl r2 r3 b3) ∧ (vl r0 r1 r2 r3 * 18446744073709551616 + x) / vl b0 b1 b2 b3 ≤ gl r2 r3 b3 := by
  have rb := vl_bd hr
  have bb := vl_bd hb
  obtain ⟨⟨p0, q0⟩, ⟨p1, q1⟩, ⟨p2, q2⟩, ⟨p3, q3⟩⟩ := hr
  obtain ⟨⟨u0, v0⟩, ⟨u1, v1⟩, ⟨u2, v2⟩, ⟨u3, v3⟩⟩ := hb
  obtain ⟨x0, x1⟩ := hx
  have qlt : (vl r0 r1 r2 r3 * 18446744073709551616 + x) / vl b0 b1 b2 b3 < 18446744073709551616 := by
    apply Int.ediv_lt_of_lt_mul (by omega)
    have : (vl r0 r1 r2 r3 + 1) * 18446744073709551616 ≤ vl b0 b1 b2 b3 * 18446744073709551616 := by omega
    omega
  have qn : 0 ≤ (vl r0 r1 r2 r3 * 18446744073709551616 + x) / vl b0 b1 b2 b3 := Int.ediv_nonneg (by omega) (by omega)
  unfold gl
  by_cases h : b3 ≤ r3
  · rw [if_pos h]
    exact ⟨⟨by decide, by decide⟩, by omega⟩
  · rw [if_neg h]
    refine ⟨⟨Int.ediv_nonneg (by omega) u3, Int.ediv_lt_of_lt_mul (by omega) (by omega)⟩, ?_⟩
    apply (Int.le_ediv_iff_mul_le (by omega)).2
    have m := Int.ediv_mul_le (vl r0 r1 r2 r3 * 18446744073709551616 + x) (show vl b0 b1 b2 b3 ≠ 0 by omega)
    generalize (vl r0 r1 r2 r3 * 18446744073709551616 + x) / vl b0 b1 b2 b3 = q at *
    have m2 : q * (6277101735386680763835789423207666416102355444464034512896 * b3) ≤ q * vl b0 b1 b2 b3 := Int.mul_le_mul_of_nonneg_left (by unfold vl; omega) qn
    rw [Int.mul_left_comm] at m2
    have m3 : vl r0 r1 r2 r3 * 18446744073709551616 + x < 6277101735386680763835789423207666416102355444464034512896 * (r3 * 18446744073709551616 + r2 + 1) := by unfold vl; omega
    omega

/-- What is left and its top limb, of Y = N less D times the guess, whatever its sign. -/
theorem left_eq {r0 r1 r2 r3 x T lo N DG Y : Int} (hN : N = vl r0 r1 r2 r3 * 18446744073709551616 + x) (hT : T = DG / MM) (hlo : lo = DG % MM) (hY : Y = N - DG) :
    (vl x r0 r1 r2 - lo) % MM = Y % MM ∧ IntKind.u64.wrap (IntKind.u64.wrap (r3 - T) - -((vl x r0 r1 r2 - lo) / MM)) = Y / MM % 18446744073709551616 := by
  rw [IntKind.wrap_u64, IntKind.wrap_u64]
  have e : Y = (vl x r0 r1 r2 - lo) + MM * (r3 - T) := by subst hN hY hT hlo; unfold vl MM; omega
  constructor
  · rw [e]; unfold MM; omega
  · rw [e]; unfold MM; omega
theorem back_eq {Y D S : Int} (hS : S = Y % MM + D) : nv S = nv (Y + D) ∧ IntKind.u64.wrap (Y / MM % 18446744073709551616 + S / MM) = (Y + D) / MM % 18446744073709551616 := by
  constructor
  · rw [← nv_mod S, ← nv_mod (Y + D), hS, Int.emod_add_emod]
  · rw [IntKind.wrap_u64, hS]; unfold MM; omega
/-- Where the top limb is not 0, what is left is below 0; else the guess is the quotient. -/
theorem top_says {N D g Y t : Int} (hD : 0 < D) (hD2 : D < MM) (hN : 0 ≤ N) (hg : 0 ≤ g) (hg2 : g < 18446744073709551616) (hq : N / D ≤ g) (hY : Y = N - D * g) (ht : t = Y / MM % 18446744073709551616) :
    (t ≠ 0 → N / D ≤ g - 1 ∧ 1 ≤ g) ∧ (t = 0 → g = N / D ∧ Y = N % D) := by
  have m1 : N < (N / D + 1) * D := Int.lt_ediv_add_one_mul_self N hD
  have m2 : (N / D + 1) * D ≤ (g + 1) * D := Int.mul_le_mul_of_nonneg_right (by omega) (by omega)
  rw [Int.add_mul g, Int.one_mul, Int.mul_comm g] at m2
  have m3 : D * g ≤ D * 18446744073709551615 := Int.mul_le_mul_of_nonneg_left (by omega) (by omega)
  have qn : 0 ≤ N / D := Int.ediv_nonneg hN (by omega)
  have ylt : Y < D := by omega
  refine ⟨fun h => ?_, fun h => ?_⟩
  · have yneg : Y < 0 := by
      apply Int.lt_of_not_ge
      intro hge
      apply h
      rw [ht]
      unfold MM at *
      omega
    have : N / D < g := by
      apply Int.ediv_lt_of_lt_mul hD
      rw [Int.mul_comm]
      omega
    omega
  · have ypos : 0 ≤ Y := by
      apply Int.le_of_not_gt
      intro hlt
      rw [ht] at h
      unfold MM at *
      omega
    have : g ≤ N / D := by
      apply (Int.le_ediv_iff_mul_le hD).2
      rw [Int.mul_comm]
      omega
    have e : g = N / D := by omega
    refine ⟨e, ?_⟩
    rw [hY, e, Int.emod_def]

/-- The world of a step. -/
def DW (w wr : World) (k : Nat) (b0 b1 b2 b3 y0 y1 y2 y3 : Int) : Prop := Mo w wr ∧ w.heap.size + 1 + 1 < k ∧ k < wr.heap.size ∧ At4 wr (w.heap.size + 1) b0 b1 b2 b3 ∧ At4 wr (w.heap.size + 1 + 1) 0 0 0 0 ∧ Fz wr (w.heap.size + 1 + 1) ∧ At4 wr k y0 y1 y2 y3 ∧ Fz wr k
theorem DW.mo {w wr w1 : World} {k : Nat} {b0 b1 b2 b3 y0 y1 y2 y3 : Int} (h : DW w wr k b0 b1 b2 b3 y0 y1 y2 y3) (m : Mo wr w1) : DW w w1 k b0 b1 b2 b3 y0 y1 y2 y3 := by
  obtain ⟨h1, h2, h3, h4, h5, h6, h7, h8⟩ := h
  have := m.size
  exact ⟨h1.trans m, h2, by omega, h4.mo m (by omega), h5.mo m (by omega), h6.mo m, h7.mo m h3, h8.mo m⟩
theorem DW.put {w w1 : World} {k : Nat} {b0 b1 b2 b3 y0 y1 y2 y3 : Int} (h : DW w w1 k b0 b1 b2 b3 y0 y1 y2 y3) (z0 z1 z2 z3 : Int) : DW w ((((w1.setCell ⟨k, 0, none⟩ (.int .u64 z0)).setCell ⟨k, 1, none⟩ (.int .u64 z1)).setCell ⟨k, 2, none⟩ (.int .u64 z2)).setCell ⟨k, 3, none⟩ (.int .u64 z3)) k b0 b1 b2 b3 z0 z1 z2 z3 := by
  obtain ⟨h1, h2, h3, ⟨a0, a1, a2, a3⟩, ⟨c0, c1, c2, c3⟩, h6, ⟨d0, d1, d2, d3⟩, h8⟩ := h
  have le : w.heap.size ≤ k := by omega
  have n1 : ¬ w.heap.size + 1 = k := by omega
  have n2 : ¬ w.heap.size + 1 + 1 = k := by omega
  refine ⟨(((h1.setCell le _).setCell le _).setCell le _).setCell le _, h2, by simpa [World.setCell] using h3, ?_, ?_, ?_, ?_, ?_⟩
  · simp [At4, go_sem, *]
  · simp [At4, go_sem, *]
  · intro o; simp [World.frozen?_setCell, h6 o]
  · simp [At4, go_sem, *]
  · intro o; simp [World.frozen?_setCell, h8 o]

set_option maxHeartbeats 2000000 in
theorem divStep_any (r0 r1 r2 r3 x b0 b1 b2 b3 N D : Int) (w : World) (hr : U4 r0 r1 r2 r3) (hx : U1 x) (hb : U4 b0 b1 b2 b3) (hN : Hid (N = vl r0 r1 r2 r3 * 18446744073709551616 + x)) (hD : Hid (D = vl b0 b1 b2 b3)) (hlt : Hid (vl r0 r1 r2 r3 < D)) :
    Calls Tryz.prog 221 #[.agg #[.int .u64 r0, .int .u64 r1, .int .u64 r2, .int .u64 r3], .int .u64 x, .agg #[.int .u64 b0, .int .u64 b1, .int .u64 b2, .int .u64 b3]] w fun e w' =>
      e = .returned (.tuple #[.int .u64 (N / D), nv (N % D)]) ∧ Mo w w' := by
  have rb := vl_bd hr
  have bb := vl_bd hb
  have gb := gl_bd hr hb hx (by rw [← hD.out]; exact hlt.out)
  have HG : Hid (N / D ≤ gl r2 r3 b3) := by have := gb.2; rw [← hN.out, ← hD.out] at this; exact this
  have HB : Hid ((0 < D ∧ D < MM) ∧ 0 ≤ N) := by
    have a := hlt.out; have c := hD.out; have d := hN.out; unfold U1 at hx
    exact ⟨⟨by omega, by omega⟩, by omega⟩
  have gu := gb.1
  clear gb rb bb
  generalize hgl : gl r2 r3 b3 = g at *
  have Hgl : Hid _ := hgl
  clear hgl
  have gu' := gu
  obtain ⟨g0, g1⟩ := gu'
  go_enter Tryz.func221, Tryz.ntmps221
  go_wp2_with fail
  refine (guess_any r0 r1 r2 r3 b0 b1 b2 b3 _ hr hb).mono ?_
  rintro e w1 ⟨rfl, hm1⟩
  rw [Hgl.out]
  have z1 := hm1.size
  simp only [World.size_alloc] at z1
  have R1 : At4 w1 w.heap.size r0 r1 r2 r3 := At4.mo (by simp [At4, go_sem]) hm1 (by simp; omega)
  have B1 : At4 w1 (w.heap.size + 1) b0 b1 b2 b3 := At4.mo (by simp [At4, go_sem]) hm1 (by simp)
  have Z1 : At4 w1 (w.heap.size + 1 + 1) 0 0 0 0 := At4.mo (by simp [At4, go_sem]) hm1 (by simp)
  have F1 : Fz w1 (w.heap.size + 1 + 1) := Fz.mo (fun o => by simp [go_sem]) hm1
  have M1 : Mo w w1 := ((((Mo.refl _).alloc _ _).alloc _ _).alloc _ _).trans hm1
  clear hm1
  have o1 := R1
  have o2 := B1
  obtain ⟨c0, c1, c2, c3⟩ := o1
  obtain ⟨d0, d1, d2, d3⟩ := o2
  go_wp2_with fail
  refine (mulLimb_any b0 b1 b2 b3 g _ hb gu).mono ?_
  rintro e w2 ⟨rfl, hm2⟩
  rw [← hD.out]
  have z2 := hm2.size
  have R2 := R1.mo hm2 (by omega)
  have B2 := B1.mo hm2 (by omega)
  have Z2 := Z1.mo hm2 (by omega)
  have F2 := F1.mo hm2
  have M2 := M1.trans hm2
  clear c0 c1 c2 c3 d0 d1 d2 d3 R1 B1 Z1 F1 M1
  have o1 := R2
  have s1 : w.heap.size < w2.heap.size := by omega
  obtain ⟨c0, c1, c2, c3⟩ := o1
  generalize hT : D * g / MM = T
  generalize hP : D * g = P at *
  go_wp2_with fail
  refine (subBorrow_any x r0 r1 r2 (l0 P) (l1 P) (l2 P) (l3 P) _ ⟨hx, hr.1, hr.2.1, hr.2.2.1⟩ (u4_lb P)).mono ?_
  rintro e w3 ⟨rfl, hm3⟩
  rw [vl_nv P]
  obtain ⟨f1, f2⟩ := left_eq (r0 := r0) (r1 := r1) (r2 := r2) (r3 := r3) (x := x) (T := T) (lo := P % MM) (N := N) (DG := P) (Y := N - P) hN.out hT.symm rfl rfl
  rw [f1, nv_mod]
  generalize hbo : -((vl x r0 r1 r2 - P % MM) / MM) = bo at *
  generalize ht0 : (N - P) / MM % 18446744073709551616 = t0 at *
  have Ht0 : Hid _ := ht0
  have HP : Hid _ := hP
  have hz3 := hm3.size
  simp only [World.size_alloc] at hz3
  have q1 : (Mo (w2.alloc (.cells #[.int .u64 (l0 P), .int .u64 (l1 P), .int .u64 (l2 P), .int .u64 (l3 P)] 24)) w3) := hm3
  have m0 : Mo w2 w3 := ((Mo.refl _).alloc _ _).trans q1
  have R3 := R2.mo m0 s1
  have B3 := B2.mo m0 (by omega)
  have Z3 := Z2.mo m0 (by omega)
  have F3 := F2.mo m0
  have M3 := M2.trans m0
  have S0 : DW w (w3.alloc (.cells #[.int .u64 (l0 (N - P)), .int .u64 (l1 (N - P)), .int .u64 (l2 (N - P)), .int .u64 (l3 (N - P))] 24)) w3.heap.size b0 b1 b2 b3 (l0 (N - P)) (l1 (N - P)) (l2 (N - P)) (l3 (N - P)) := by
    have a : Mo w3 (w3.alloc (.cells #[.int .u64 (l0 (N - P)), .int .u64 (l1 (N - P)), .int .u64 (l2 (N - P)), .int .u64 (l3 (N - P))] 24)) := (Mo.refl _).alloc _ _
    exact ⟨M3.trans a, by omega, by simp, B3.mo a (by omega), Z3.mo a (by omega), F3.mo a, by simp [At4, go_sem], fun o => by simp [go_sem]⟩
  clear c0 c1 c2 c3 R2 B2 Z2 F2 M2 hm2 hm3 q1 m0 hT hP hbo ht0 f1 B3 Z3 F3 M3
  have s3 : w.heap.size < w3.heap.size := by omega
  obtain ⟨c0, c1, c2, c3⟩ := R3
  go_wp2
  go_loopw [8, 13] (fun s8 s13 wr => ∃ h t Y : Int, s8 = .int .u64 h ∧ s13 = .int .u64 t ∧ 0 ≤ h ∧ h < 18446744073709551616 ∧ 0 ≤ t ∧ t < 18446744073709551616 ∧ N / D ≤ h ∧ Y = N - D * h ∧ t = Y / MM % 18446744073709551616 ∧ DW w wr w3.heap.size b0 b1 b2 b3 (l0 Y) (l1 Y) (l2 Y) (l3 Y)) (fun s8 _ _ => (intOf s8).toNat)
  case atStart =>
    refine ⟨g, t0, N - P, rfl, rfl, g0, g1, ?_, ?_, HG.out, by rw [HP.out], Ht0.out.symm, S0⟩
    · rw [← Ht0.out]; omega
    · rw [← Ht0.out]; omega
  case round =>
    obtain ⟨h, t, Y, rfl, rfl, i1, i2, i3, i4, i5, i6, i7, ht⟩ := hrel
    obtain ⟨ts1, ts2⟩ := top_says HB.out.1.1 HB.out.1.2 HB.out.2 i1 i2 i5 i6 i7
    have HY : Hid (Y = N - D * h) := i6
    have Ht : Hid (t = Y / MM % 18446744073709551616) := i7
    clear i6 i7 i5 S0
    by_cases tz : t = 0
    · obtain ⟨e1, e2⟩ := ts2 tz
      have E1 : Hid _ := e1
      have E2 : Hid _ := e2
      have tb : (t != 0) = false := by rw [tz]; rfl
      clear e1 e2 ts1 ts2 tz
      obtain ⟨k1, k2, k3, K4, ⟨n0, n1, n2, n3⟩, K6, ⟨y0, y1, y2, y3⟩, K8⟩ := ht
      have K6 := fun o => K6 o
      go_wp2
      go_cut [6] from 56 to 57 (fun s6 wx => s6 = .int .u64 h ∧ At4 wx (w.heap.size + 1 + 1) (l0 Y) (l1 Y) (l2 Y) (l3 Y) ∧ Mo w wx)
      case first =>
        go_region
        go_wp2
        go_meet
        case rel =>
          refine ⟨rfl, by simp [At4, go_sem, n0, n1, n2, n3], ?_⟩
          repeat (first | with_reducible exact k1 | with_reducible apply Mo.drew | with_reducible refine Mo.setCell ?_ (by simp <;> omega) _)
      case rest =>
        obtain ⟨rfl, ⟨P0, P1, P2, P3⟩, hmo⟩ := hcut
        go_wp2
        refine bodyPost_ret (v := .tuple #[.int .u64 h, nv Y]) (by simp [results, Tryz.results221, go_sem, P0, P1, P2, P3]) rfl ?_
        exact ⟨by rw [E1.out, E2.out], hmo⟩
    · obtain ⟨j1, j2⟩ := ts1 tz
      have J1 : Hid (N / D ≤ h - 1) := j1
      have tb : (t != 0) = true := by simp [tz]
      clear ts1 ts2 tz j1
      have ht0 := ht
      obtain ⟨k1, k2, k3, ⟨d0, d1, d2, d3⟩, K5, K6, ⟨y0, y1, y2, y3⟩, K8⟩ := ht
      clear K5 K6 K8
      go_wp2_with fail
      refine (addCarry_any (l0 Y) (l1 Y) (l2 Y) (l3 Y) b0 b1 b2 b3 _ (u4_lb Y) hb).mono ?_
      rintro e w4 ⟨rfl, hm4⟩
      rw [vl_nv Y, ← hD.out]
      obtain ⟨f1, f2⟩ := back_eq (Y := Y) (D := D) rfl
      rw [f1]
      rw [← Ht.out] at f2
      have hd := (ht0.mo hm4).put (l0 (Y + D)) (l1 (Y + D)) (l2 (Y + D)) (l3 (Y + D))
      have ht1 := ht0.mo hm4
      clear k1 k2 k3 d0 d1 d2 d3 y0 y1 y2 y3
      obtain ⟨k1, k2, k3, K4, K5, K6, ⟨y0, y1, y2, y3⟩, K8⟩ := ht1
      have K8 := fun o => K8 o
      clear K4 K5 K6
      generalize (Y % MM + D) / MM = c at *
      generalize ht2 : (Y + D) / MM % 18446744073709551616 = t2 at *
      have Ht2 : Hid _ := ht2
      clear ht2 f1
      go_wp2
      go_roundw
      case rel =>
        refine ⟨h - 1, t2, Y + D, rfl, rfl, by omega, by omega, ?_, ?_, J1.out, ?_, Ht2.out.symm, hd⟩
        · rw [← Ht2.out]; omega
        · rw [← Ht2.out]; omega
        · rw [HY.out, Int.mul_sub, Int.mul_one]; omega
      case measure => simp [intOf]; omega
end Go.Proofs.YtfmfeipeeedfpaaGreat
namespace Go.Proofs.YtfmfeipeeedfpaaGreat
/-- A limb shifted up, with what comes from below. -/
def sl (r : Nat) (a b : Int) : Int := a * 2 ^ r % 18446744073709551616 + b / 2 ^ (64 - r)
/-- A limb shifted down, with what comes from above. -/
def sr (r : Nat) (a b : Int) : Int := a / 2 ^ r + b * 2 ^ (64 - r) % 18446744073709551616
theorem pq (r : Nat) (hr : r < 64) : (0 : Int) < 2 ^ r ∧ (0 : Int) < 2 ^ (64 - r) ∧ (2 : Int) ^ (64 - r) * 2 ^ r = 18446744073709551616 :=
  ⟨Int.pow_pos (by decide), Int.pow_pos (by decide), pow_split r (by omega)⟩
theorem sl_top (r : Nat) (hr : r < 64) (a : Int) : a * 2 ^ r % 18446744073709551616 = a % 2 ^ (64 - r) * 2 ^ r ∧ a * 2 ^ r / 18446744073709551616 = a / 2 ^ (64 - r) := by
  obtain ⟨hP, hQ, e⟩ := pq r hr
  rw [← e]
  have d : a * 2 ^ r / (2 ^ (64 - r) * 2 ^ r) = a / 2 ^ (64 - r) := Int.mul_ediv_mul_of_pos_left _ _ hP
  refine ⟨?_, d⟩
  rw [mod_sub, d, mod_sub a, Int.sub_mul, Int.mul_assoc]
theorem low_lt (r : Nat) (hr : r < 64) {b : Int} (hb : U1 b) : 0 ≤ b / 2 ^ (64 - r) ∧ b / 2 ^ (64 - r) < 2 ^ r := by
  obtain ⟨hP, hQ, e⟩ := pq r hr
  obtain ⟨b0, b1⟩ := hb
  refine ⟨Int.ediv_nonneg b0 (by omega), Int.ediv_lt_of_lt_mul hQ ?_⟩
  rw [Int.mul_comm, e]; exact b1
theorem sl_u (r : Nat) (hr : r < 64) {a b : Int} (_ha : U1 a) (hb : U1 b) : U1 (sl r a b) := by
  obtain ⟨hP, hQ, e⟩ := pq r hr
  obtain ⟨t1, t2⟩ := sl_top r hr a
  obtain ⟨w1, w2⟩ := low_lt r hr hb
  unfold sl
  have m0 := Int.emod_nonneg a (show (2 : Int) ^ (64 - r) ≠ 0 by omega)
  have m1 := Int.emod_lt_of_pos a hQ
  have k0 : 0 ≤ a % 2 ^ (64 - r) * 2 ^ r := Int.mul_nonneg m0 (by omega)
  have k1 : (a % 2 ^ (64 - r) + 1) * 2 ^ r ≤ 2 ^ (64 - r) * 2 ^ r := Int.mul_le_mul_of_nonneg_right (by omega) (by omega)
  rw [Int.add_mul, Int.one_mul, e] at k1
  rw [t1]
  exact ⟨by omega, by omega⟩
theorem sl_or (r : Nat) (hr : r < 64) {a b : Int} (ha : U1 a) (hb : U1 b) : Go.bits .or .u64 (Go.IntKind.u64.wrap (a * 2 ^ r)) (b / 2 ^ (64 - r)) = sl r a b := by
  obtain ⟨t1, t2⟩ := sl_top r hr a
  obtain ⟨w1, w2⟩ := low_lt r hr hb
  have u := sl_u r hr ha hb
  obtain ⟨hP, hQ, e⟩ := pq r hr
  have m0 := Int.emod_nonneg a (show (2 : Int) ^ (64 - r) ≠ 0 by omega)
  unfold sl at *
  rw [Go.IntKind.wrap_u64, t1] at *
  exact or_join _ _ r m0 w1 w2 u.2
theorem sl_0 (r : Nat) (a : Int) : Go.IntKind.u64.wrap (a * 2 ^ r) = sl r a 0 := by
  unfold sl; rw [Go.IntKind.wrap_u64, Int.zero_ediv, Int.add_zero]
theorem sl_vl (r : Nat) (hr : r < 64) {a0 a1 a2 a3 : Int} (ha : U4 a0 a1 a2 a3) :
    U4 (sl r a0 0) (sl r a1 a0) (sl r a2 a1) (sl r a3 a2) ∧ vl (sl r a0 0) (sl r a1 a0) (sl r a2 a1) (sl r a3 a2) + MM * (a3 / 2 ^ (64 - r)) = vl a0 a1 a2 a3 * 2 ^ r := by
  obtain ⟨g0, g1, g2, g3⟩ := ha
  refine ⟨⟨sl_u r hr g0 ⟨by decide, by decide⟩, sl_u r hr g1 g0, sl_u r hr g2 g1, sl_u r hr g3 g2⟩, ?_⟩
  have e0 := (sl_top r hr a0).2
  have e1 := (sl_top r hr a1).2
  have e2 := (sl_top r hr a2).2
  have e3 := (sl_top r hr a3).2
  have e : vl a0 a1 a2 a3 * 2 ^ r = a0 * 2 ^ r + 18446744073709551616 * (a1 * 2 ^ r) + 340282366920938463463374607431768211456 * (a2 * 2 ^ r) + 6277101735386680763835789423207666416102355444464034512896 * (a3 * 2 ^ r) := by
    unfold vl; rw [Int.add_mul, Int.add_mul, Int.add_mul, Int.mul_assoc, Int.mul_assoc, Int.mul_assoc]
  rw [e]
  unfold sl
  rw [Int.zero_ediv, ← e0, ← e1, ← e2, ← e3]
  generalize a0 * 2 ^ r = x0 at *
  generalize a1 * 2 ^ r = x1 at *
  generalize a2 * 2 ^ r = x2 at *
  generalize a3 * 2 ^ r = x3 at *
  unfold vl MM
  omega
theorem sr_parts (r : Nat) (hr : r < 64) {a b : Int} (ha : U1 a) (_hb : U1 b) : b * 2 ^ (64 - r) % 18446744073709551616 = b % 2 ^ r * 2 ^ (64 - r) ∧ 0 ≤ a / 2 ^ r ∧ a / 2 ^ r < 2 ^ (64 - r) ∧ 0 ≤ b % 2 ^ r ∧ (b % 2 ^ r + 1) * 2 ^ (64 - r) ≤ 18446744073709551616 ∧ 0 ≤ b % 2 ^ r * 2 ^ (64 - r) := by
  obtain ⟨hP, hQ, e⟩ := pq r hr
  obtain ⟨a0, a1⟩ := ha
  have m0 := Int.emod_nonneg b (show (2 : Int) ^ r ≠ 0 by omega)
  have m1 := Int.emod_lt_of_pos b hP
  refine ⟨?_, Int.ediv_nonneg a0 (by omega), Int.ediv_lt_of_lt_mul hP (by rw [e]; exact a1), m0, ?_, Int.mul_nonneg m0 (by omega)⟩
  · rw [← e, Int.mul_comm (2 ^ (64 - r)) (2 ^ r)]
    have d : b * 2 ^ (64 - r) / (2 ^ r * 2 ^ (64 - r)) = b / 2 ^ r := Int.mul_ediv_mul_of_pos_left _ _ hQ
    rw [mod_sub, d, mod_sub b, Int.sub_mul, Int.mul_assoc]
  · have := Int.mul_le_mul_of_nonneg_right (show b % 2 ^ r + 1 ≤ 2 ^ r by omega) (show (0 : Int) ≤ 2 ^ (64 - r) by omega)
    rw [Int.mul_comm (2 ^ r) (2 ^ (64 - r)), e] at this
    exact this
theorem sr_u (r : Nat) (hr : r < 64) {a b : Int} (ha : U1 a) (hb : U1 b) : U1 (sr r a b) := by
  obtain ⟨p1, p2, p3, p4, p5, p6⟩ := sr_parts r hr ha hb
  rw [Int.add_mul, Int.one_mul] at p5
  unfold sr
  rw [p1]
  exact ⟨by omega, by omega⟩
theorem or_join' (a b : Int) (k : Nat) (ha : 0 ≤ a) (hb : 0 ≤ b) (hb2 : b < 2 ^ k) (h : a * 2 ^ k + b < 18446744073709551616) : Go.bits .or .u64 b (a * 2 ^ k) = b + a * 2 ^ k := by
  have e := or_join a b k ha hb hb2 h
  obtain ⟨x, rfl⟩ := Int.eq_ofNat_of_zero_le ha
  obtain ⟨z, rfl⟩ := Int.eq_ofNat_of_zero_le hb
  have e1 : ((x * 2 ^ k : Nat) : Int) = (x : Int) * 2 ^ k := by rw [Int.natCast_mul, Int.natCast_pow]; rfl
  rw [← e1] at e h ⊢
  rw [Go.bits_or_u64_nat _ _ (by omega) (by omega)] at e ⊢
  rw [Nat.or_comm, e, Int.add_comm]
theorem sr_or (r : Nat) (hr : r < 64) {a b : Int} (ha : U1 a) (hb : U1 b) : Go.bits .or .u64 (a / 2 ^ r) (Go.IntKind.u64.wrap (b * 2 ^ (64 - r))) = sr r a b := by
  obtain ⟨p1, p2, p3, p4, p5, p6⟩ := sr_parts r hr ha hb
  have u := (sr_u r hr ha hb).2
  unfold sr at *
  rw [Go.IntKind.wrap_u64, p1] at *
  exact or_join' _ _ _ p4 p2 p3 (by omega)
theorem sr_0 (r : Nat) (a : Int) : a / 2 ^ r = sr r a 0 := by
  unfold sr; rw [Int.zero_mul, Int.zero_emod, Int.add_zero]
theorem sr_vl (r : Nat) (hr : r < 64) {a0 a1 a2 a3 : Int} (ha : U4 a0 a1 a2 a3) :
    U4 (sr r a0 a1) (sr r a1 a2) (sr r a2 a3) (sr r a3 0) ∧ vl (sr r a0 a1) (sr r a1 a2) (sr r a2 a3) (sr r a3 0) = vl a0 a1 a2 a3 / 2 ^ r := by
  obtain ⟨g0, g1, g2, g3⟩ := ha
  have gz : U1 0 := ⟨by decide, by decide⟩
  refine ⟨⟨sr_u r hr g0 g1, sr_u r hr g1 g2, sr_u r hr g2 g3, sr_u r hr g3 gz⟩, ?_⟩
  obtain ⟨hP, hQ, e⟩ := pq r hr
  have p1 := (sr_parts r hr g0 g1).1
  have p2 := (sr_parts r hr g1 g2).1
  have p3 := (sr_parts r hr g2 g3).1
  have d0 := Int.mul_ediv_add_emod a0 (2 ^ r)
  have d1 := Int.mul_ediv_add_emod a1 (2 ^ r)
  have d2 := Int.mul_ediv_add_emod a2 (2 ^ r)
  have d3 := Int.mul_ediv_add_emod a3 (2 ^ r)
  have m0 := Int.emod_nonneg a0 (show (2 : Int) ^ r ≠ 0 by omega)
  have m1 := Int.emod_lt_of_pos a0 hP
  have f : ∀ x : Int, 2 ^ r * (x * 2 ^ (64 - r)) = x * 18446744073709551616 := fun x => by rw [Int.mul_left_comm, Int.mul_comm (2 ^ r) (2 ^ (64 - r)), e]
  have key : vl a0 a1 a2 a3 = a0 % 2 ^ r + 2 ^ r * vl (sr r a0 a1) (sr r a1 a2) (sr r a2 a3) (sr r a3 0) := by
    have f1 := f (a1 % 2 ^ r)
    have f2 := f (a2 % 2 ^ r)
    have f3 := f (a3 % 2 ^ r)
    have ev : ∀ x y z t : Int, 2 ^ r * vl x y z t = 2 ^ r * x + 18446744073709551616 * (2 ^ r * y) + 340282366920938463463374607431768211456 * (2 ^ r * z) + 6277101735386680763835789423207666416102355444464034512896 * (2 ^ r * t) := fun x y z t => by
      unfold vl; rw [Int.mul_add, Int.mul_add, Int.mul_add, Int.mul_left_comm, Int.mul_left_comm (2 ^ r) _ z, Int.mul_left_comm (2 ^ r) _ t]
    rw [ev]
    unfold sr
    rw [p1, p2, p3, Int.zero_mul, Int.zero_emod]
    simp only [Int.mul_add, Int.add_zero, f1, f2, f3]
    unfold vl
    generalize 2 ^ r * (a0 / 2 ^ r) = y0 at *
    generalize 2 ^ r * (a1 / 2 ^ r) = y1 at *
    generalize 2 ^ r * (a2 / 2 ^ r) = y2 at *
    generalize 2 ^ r * (a3 / 2 ^ r) = y3 at *
    generalize a0 % 2 ^ r = n0 at *
    generalize a1 % 2 ^ r = n1 at *
    generalize a2 % 2 ^ r = n2 at *
    generalize a3 % 2 ^ r = n3 at *
    clear p1 p2 p3 f f1 f2 f3 ev e hP hQ m0 m1
    omega
  rw [key, Int.add_mul_ediv_left _ _ (by omega), Int.ediv_eq_zero_of_lt m0 m1, Int.zero_add]
theorem sh {v Y : Int} (_h0 : 0 ≤ v) (_h1 : v < 18446744073709551616) :
    l0 (v + 18446744073709551616 * Y) = v ∧ l1 (v + 18446744073709551616 * Y) = l0 Y ∧ l2 (v + 18446744073709551616 * Y) = l1 Y ∧ l3 (v + 18446744073709551616 * Y) = l2 Y ∧ l0 ((v + 18446744073709551616 * Y) / MM) = l3 Y ∧ l1 ((v + 18446744073709551616 * Y) / MM) = l0 (Y / MM) ∧ l2 ((v + 18446744073709551616 * Y) / MM) = l1 (Y / MM) ∧ l3 ((v + 18446744073709551616 * Y) / MM) = l2 (Y / MM) := by
  refine ⟨?_, ?_, ?_, ?_, ?_, ?_, ?_, ?_⟩ <;> simp only [l0, l1, l2, l3, MM] <;> omega
/-- A row p over what stands there. -/
theorem row {p X R : Int} (_hp : 0 ≤ p) (_hp2 : p ≤ 2135987035920910082395021706169552114602704522356652769947041607822219725780640550022962086936576 - 115792089237316195423570985008687907853269984665640564039457584007913129639936) (_hX0 : 0 ≤ X) (_hX : X < MM) (_hR : R = p % MM) :
    l0 (X + R) = l0 (X + p) ∧ l1 (X + R) = l1 (X + p) ∧ l2 (X + R) = l2 (X + p) ∧ l3 (X + R) = l3 (X + p) ∧ p / MM + (X + R) / MM = l0 ((X + p) / MM) ∧ p / MM + (X + R) / MM < 18446744073709551616 ∧ 0 ≤ p / MM + (X + R) / MM ∧ l1 ((X + p) / MM) = 0 ∧ l2 ((X + p) / MM) = 0 ∧ l3 ((X + p) / MM) = 0 := by
  have e : p / MM + (X + R) / MM = (X + p) / MM := by unfold MM at *; omega
  have b1 : (X + p) / MM < 18446744073709551616 := by unfold MM at *; omega
  have b0 : 0 ≤ (X + p) / MM := by unfold MM at *; omega
  rw [e]
  refine ⟨?_, ?_, ?_, ?_, ?_, b1, b0, ?_, ?_, ?_⟩
  · unfold l0; unfold MM at *; omega
  · unfold l1; unfold MM at *; omega
  · unfold l2; unfold MM at *; omega
  · unfold l3; unfold MM at *; omega
  · unfold l0; omega
  · unfold l1; omega
  · unfold l2; omega
  · unfold l3; omega
theorem u_l0 (n : Int) : U1 (l0 n) := (u4_lb n).1
theorem u_l1 (n : Int) : U1 (l1 n) := (u4_lb n).2.1
theorem u_l2 (n : Int) : U1 (l2 n) := (u4_lb n).2.2.1
theorem u_l3 (n : Int) : U1 (l3 n) := (u4_lb n).2.2.2
/-- One row of a product over what stands there: what is written, limb by limb. -/
theorem rnd {X p Y x0 x1 x2 x3 : Int} (hx : U4 x0 x1 x2 x3) (hX : vl x0 x1 x2 x3 = X) (hp : 0 ≤ p) (hp2 : p ≤ 2135987035920910082395021706169552114602704522356652769947041607822219725780640550022962086936576 - 115792089237316195423570985008687907853269984665640564039457584007913129639936) (hY : Y = X + p) :
    ∃ c1 c2 c3 c4, (x0 + l0 p) / 18446744073709551616 = c1 ∧ (x0 + l0 p) % 18446744073709551616 = l0 Y ∧ (x1 + l1 p + c1) / 18446744073709551616 = c2 ∧ (x1 + l1 p + c1) % 18446744073709551616 = l1 Y ∧ (x2 + l2 p + c2) / 18446744073709551616 = c3 ∧ (x2 + l2 p + c2) % 18446744073709551616 = l2 Y ∧ (x3 + l3 p + c3) / 18446744073709551616 = c4 ∧ (x3 + l3 p + c3) % 18446744073709551616 = l3 Y ∧ p / MM + c4 = l0 (Y / MM) ∧ (0 ≤ c1 ∧ c1 ≤ 1) ∧ (0 ≤ c2 ∧ c2 ≤ 1) ∧ (0 ≤ c3 ∧ c3 ≤ 1) ∧ (0 ≤ p / MM + c4 ∧ p / MM + c4 < 18446744073709551616) := by
  have hb := vl_bd hx
  obtain ⟨e0, e1, e2, e3, e4⟩ := addc_eq hx (u4_lb p) rfl
  rw [vl_nv p, hX] at e0 e1 e2 e3 e4
  rw [hX] at hb
  obtain ⟨f0, f1, f2, f3, f4, f5, f6, _⟩ := row hp hp2 hb.1 hb.2 rfl
  rw [← hY] at f0 f1 f2 f3 f4
  have g := u4_lb p
  unfold U4 U1 at hx g
  refine ⟨_, _, _, _, rfl, e0.trans f0, rfl, e1.trans f1, rfl, e2.trans f2, rfl, e3.trans f3, ?_, ?_, ?_, ?_, ?_⟩
  · rw [e4]; exact f4
  · omega
  · omega
  · omega
  · rw [e4]; exact ⟨f6, f5⟩
theorem rnd0 {p : Int} (hp : 0 ≤ p) (hp2 : p ≤ 2135987035920910082395021706169552114602704522356652769947041607822219725780640550022962086936576 - 115792089237316195423570985008687907853269984665640564039457584007913129639936) :
    l0 p / 18446744073709551616 = 0 ∧ l0 p % 18446744073709551616 = l0 p ∧ l1 p / 18446744073709551616 = 0 ∧ l1 p % 18446744073709551616 = l1 p ∧ l2 p / 18446744073709551616 = 0 ∧ l2 p % 18446744073709551616 = l2 p ∧ l3 p / 18446744073709551616 = 0 ∧ l3 p % 18446744073709551616 = l3 p ∧ p / MM = l0 (p / MM) := by
  refine ⟨?_, ?_, ?_, ?_, ?_, ?_, ?_, ?_, ?_⟩ <;> simp only [l0, l1, l2, l3, MM] <;> omega
/-- What stands above the lowest limb of a number of five limbs. -/
theorem up {Y : Int} (h0 : 0 ≤ Y) (h1 : Y < 2135987035920910082395021706169552114602704522356652769947041607822219725780640550022962086936576) : vl (l1 Y) (l2 Y) (l3 Y) (l0 (Y / MM)) = Y / 18446744073709551616 := by
  have e : (Y / MM) = Y / 18446744073709551616 / 6277101735386680763835789423207666416102355444464034512896 := by unfold MM; omega
  have b : Y / 18446744073709551616 < MM := by unfold MM; omega
  have b0 : 0 ≤ Y / 18446744073709551616 := by omega
  have e1 : l1 Y = l0 (Y / 18446744073709551616) := by unfold l1 l0; rfl
  have e2 : l2 Y = l1 (Y / 18446744073709551616) := by unfold l2 l1; omega
  have e3 : l3 Y = l2 (Y / 18446744073709551616) := by unfold l3 l2; omega
  have e4 : l0 (Y / MM) = l3 (Y / 18446744073709551616) := by rw [e]; unfold l0 l3; rfl
  rw [e1, e2, e3, e4, vl_lb _ b0 b]
theorem pbd {v c : Int} (h0 : 0 ≤ v) (h1 : v < MM) (hc : U1 c) : 0 ≤ v * c ∧ v * c ≤ 2135987035920910082395021706169552114602704522356652769947041607822219725780640550022962086936576 - 115792089237316195423570985008687907853269984665640564039457584007913129639936 - 18446744073709551615 := by
  obtain ⟨c0, c1⟩ := hc
  refine ⟨Int.mul_nonneg h0 c0, ?_⟩
  have := Int.mul_le_mul (a := v) (b := c) (c := 115792089237316195423570985008687907853269984665640564039457584007913129639935) (d := 18446744073709551615) (by unfold MM at h1; omega) (by omega) c0 (by decide)
  omega
theorem ybd {Y p Z : Int} (h0 : 0 ≤ Y) (h1 : Y < 2135987035920910082395021706169552114602704522356652769947041607822219725780640550022962086936576) (hp : 0 ≤ p) (hp2 : p ≤ 2135987035920910082395021706169552114602704522356652769947041607822219725780640550022962086936576 - 115792089237316195423570985008687907853269984665640564039457584007913129639936 - 18446744073709551615) (hZ : Z = Y / 18446744073709551616 + p) : 0 ≤ Z ∧ Z < 2135987035920910082395021706169552114602704522356652769947041607822219725780640550022962086936576 := by omega
/-- The limbs of the whole product. -/
theorem prod_eq {P Y0 Y1 Y2 Y3 p0 p1 p2 p3 : Int} (h0 : Y0 = p0) (h1 : Y1 = Y0 / 18446744073709551616 + p1) (h2 : Y2 = Y1 / 18446744073709551616 + p2) (h3 : Y3 = Y2 / 18446744073709551616 + p3) (hP : P = p0 + 18446744073709551616 * (p1 + 18446744073709551616 * (p2 + 18446744073709551616 * p3))) :
    l0 Y0 = l0 P ∧ l0 Y1 = l1 P ∧ l0 Y2 = l2 P ∧ l0 Y3 = l3 P ∧ l1 Y3 = l0 (P / MM) ∧ l2 Y3 = l1 (P / MM) ∧ l3 Y3 = l2 (P / MM) ∧ l0 (Y3 / MM) = l3 (P / MM) := by
  have e : P = l0 Y0 + 18446744073709551616 * (l0 Y1 + 18446744073709551616 * (l0 Y2 + 18446744073709551616 * Y3)) := by subst hP h3 h2 h1 h0; unfold l0; omega
  obtain ⟨a0, a1, a2, a3, a4, a5, a6, a7⟩ := sh (v := l0 Y0) (Y := l0 Y1 + 18446744073709551616 * (l0 Y2 + 18446744073709551616 * Y3)) (u_l0 _).1 (u_l0 _).2
  obtain ⟨b0, b1, b2, b3, b4, b5, b6, b7⟩ := sh (v := l0 Y1) (Y := l0 Y2 + 18446744073709551616 * Y3) (u_l0 _).1 (u_l0 _).2
  obtain ⟨c0, c1, c2, c3, c4, c5, c6, c7⟩ := sh (v := l0 Y2) (Y := Y3) (u_l0 _).1 (u_l0 _).2
  rw [← e] at a0 a1 a2 a3 a4 a5 a6 a7
  rw [a0, a1, a2, a3, a4, a5, a6, a7, b0, b1, b2, b3, b4, b5, b6, c0, c1, c2, c3, c4, c5]
  exact ⟨rfl, rfl, rfl, rfl, rfl, rfl, rfl, rfl⟩
theorem rnd0b {p : Int} (hp : 0 ≤ p) (hp2 : p ≤ 2135987035920910082395021706169552114602704522356652769947041607822219725780640550022962086936576 - 115792089237316195423570985008687907853269984665640564039457584007913129639936) : 0 ≤ p / MM ∧ p / MM < 18446744073709551616 := by unfold MM; omega
end Go.Proofs.YtfmfeipeeedfpaaGreat
namespace Go.Proofs.YtfmfeipeeedfpaaGreat
open Go.RowKit

set_option maxHeartbeats 2000000 in
theorem shl_0 (a0 a1 a2 a3 n x0 x1 x2 x3 : Int) (r : Nat) (w : World) (ha : U4 a0 a1 a2 a3) (hq : n / 64 = 0) (hr : n % 64 = (r : Int)) (_h64 : r < 64) (_hn0 : 0 ≤ n) (_hn : n ≤ 256) (e0 : IntKind.u64.wrap (a0 * 2 ^ r) = x0) (e1 : bits .or .u64 (IntKind.u64.wrap (a1 * 2 ^ r)) (a0 / 2 ^ (64 - r)) = x1) (e2 : bits .or .u64 (IntKind.u64.wrap (a2 * 2 ^ r)) (a1 / 2 ^ (64 - r)) = x2) (e3 : bits .or .u64 (IntKind.u64.wrap (a3 * 2 ^ r)) (a2 / 2 ^ (64 - r)) = x3) :
    Calls Tryz.prog 219 #[.agg #[.int .u64 a0, .int .u64 a1, .int .u64 a2, .int .u64 a3], .int .i64 n] w fun e w' =>
      e = .returned (.agg #[.int .u64 x0, .int .u64 x1, .int .u64 x2, .int .u64 x3]) ∧ Mo w w' := by
  obtain ⟨⟨p0, q0⟩, ⟨p1, q1⟩, ⟨p2, q2⟩, ⟨p3, q3⟩⟩ := ha
  go_enter Tryz.func219, Tryz.ntmps219
  go_wp2
  refine wp_loop_rounds 5 ?_
  rw [rounds_succ]
  go_wp2
  rw [rounds_succ]
  go_wp2
  go_region
  go_wp2
  rw [rounds_succ]
  go_wp2
  go_region
  go_wp2
  rw [rounds_succ]
  go_wp2
  go_region
  go_wp2
  rw [rounds_succ]
  go_wp2
  refine bodyPost_ret (v := .agg #[.int .u64 x0, .int .u64 x1, .int .u64 x2, .int .u64 x3]) (by simp [results, Tryz.results219, go_sem]) rfl ?_
  refine ⟨rfl, ?_⟩
  repeat (first | with_reducible exact Mo.refl _ | with_reducible apply Mo.drew | with_reducible apply Mo.drewN | with_reducible apply Mo.alloc | with_reducible refine Mo.setCell ?_ (by simp <;> omega) _ | with_reducible refine Mo.trans ?_ (by with_reducible assumption))

set_option maxHeartbeats 2000000 in
theorem shr_0 (a0 a1 a2 a3 n x0 x1 x2 x3 : Int) (r : Nat) (w : World) (ha : U4 a0 a1 a2 a3) (hq : n / 64 = 0) (hr : n % 64 = (r : Int)) (_h64 : r < 64) (_hn0 : 0 ≤ n) (_hn : n ≤ 256) (e0 : bits .or .u64 (a0 / 2 ^ r) (IntKind.u64.wrap (a1 * 2 ^ (64 - r))) = x0) (e1 : bits .or .u64 (a1 / 2 ^ r) (IntKind.u64.wrap (a2 * 2 ^ (64 - r))) = x1) (e2 : bits .or .u64 (a2 / 2 ^ r) (IntKind.u64.wrap (a3 * 2 ^ (64 - r))) = x2) (e3 : a3 / 2 ^ r = x3) :
    Calls Tryz.prog 220 #[.agg #[.int .u64 a0, .int .u64 a1, .int .u64 a2, .int .u64 a3], .int .i64 n] w fun e w' =>
      e = .returned (.agg #[.int .u64 x0, .int .u64 x1, .int .u64 x2, .int .u64 x3]) ∧ Mo w w' := by
  obtain ⟨⟨p0, q0⟩, ⟨p1, q1⟩, ⟨p2, q2⟩, ⟨p3, q3⟩⟩ := ha
  go_enter Tryz.func220, Tryz.ntmps220
  go_wp2
  refine wp_loop_rounds 5 ?_
  rw [rounds_succ]
  go_wp2
  go_region
  go_wp2
  rw [rounds_succ]
  go_wp2
  go_region
  go_wp2
  rw [rounds_succ]
  go_wp2
  go_region
  go_wp2
  rw [rounds_succ]
  go_wp2
  rw [rounds_succ]
  go_wp2
  refine bodyPost_ret (v := .agg #[.int .u64 x0, .int .u64 x1, .int .u64 x2, .int .u64 x3]) (by simp [results, Tryz.results220, go_sem]) rfl ?_
  refine ⟨rfl, ?_⟩
  repeat (first | with_reducible exact Mo.refl _ | with_reducible apply Mo.drew | with_reducible apply Mo.drewN | with_reducible apply Mo.alloc | with_reducible refine Mo.setCell ?_ (by simp <;> omega) _ | with_reducible refine Mo.trans ?_ (by with_reducible assumption))

set_option maxHeartbeats 2000000 in
theorem shl_1 (a0 a1 a2 a3 n x0 x1 x2 x3 : Int) (r : Nat) (w : World) (ha : U4 a0 a1 a2 a3) (hq : n / 64 = 1) (hr : n % 64 = (r : Int)) (_h64 : r < 64) (_hn0 : 0 ≤ n) (_hn : n ≤ 256) (e0 : IntKind.u64.wrap (a0 * 2 ^ r) = x0) (e1 : bits .or .u64 (IntKind.u64.wrap (a1 * 2 ^ r)) (a0 / 2 ^ (64 - r)) = x1) (e2 : bits .or .u64 (IntKind.u64.wrap (a2 * 2 ^ r)) (a1 / 2 ^ (64 - r)) = x2) (_e3 : bits .or .u64 (IntKind.u64.wrap (a3 * 2 ^ r)) (a2 / 2 ^ (64 - r)) = x3) :
    Calls Tryz.prog 219 #[.agg #[.int .u64 a0, .int .u64 a1, .int .u64 a2, .int .u64 a3], .int .i64 n] w fun e w' =>
      e = .returned (.agg #[.int .u64 0, .int .u64 x0, .int .u64 x1, .int .u64 x2]) ∧ Mo w w' := by
  obtain ⟨⟨p0, q0⟩, ⟨p1, q1⟩, ⟨p2, q2⟩, ⟨p3, q3⟩⟩ := ha
  go_enter Tryz.func219, Tryz.ntmps219
  go_wp2
  refine wp_loop_rounds 5 ?_
  rw [rounds_succ]
  go_wp2
  rw [rounds_succ]
  go_wp2
  go_region
  go_wp2
  rw [rounds_succ]
  go_wp2
  go_region
  go_wp2
  rw [rounds_succ]
  go_wp2
  refine bodyPost_ret (v := .agg #[.int .u64 0, .int .u64 x0, .int .u64 x1, .int .u64 x2]) (by simp [results, Tryz.results219, go_sem]) rfl ?_
  refine ⟨rfl, ?_⟩
  repeat (first | with_reducible exact Mo.refl _ | with_reducible apply Mo.drew | with_reducible apply Mo.drewN | with_reducible apply Mo.alloc | with_reducible refine Mo.setCell ?_ (by simp <;> omega) _ | with_reducible refine Mo.trans ?_ (by with_reducible assumption))

set_option maxHeartbeats 2000000 in
theorem shr_1 (a0 a1 a2 a3 n x0 x1 x2 x3 : Int) (r : Nat) (w : World) (ha : U4 a0 a1 a2 a3) (hq : n / 64 = 1) (hr : n % 64 = (r : Int)) (_h64 : r < 64) (_hn0 : 0 ≤ n) (_hn : n ≤ 256) (_e0 : bits .or .u64 (a0 / 2 ^ r) (IntKind.u64.wrap (a1 * 2 ^ (64 - r))) = x0) (e1 : bits .or .u64 (a1 / 2 ^ r) (IntKind.u64.wrap (a2 * 2 ^ (64 - r))) = x1) (e2 : bits .or .u64 (a2 / 2 ^ r) (IntKind.u64.wrap (a3 * 2 ^ (64 - r))) = x2) (e3 : a3 / 2 ^ r = x3) :
    Calls Tryz.prog 220 #[.agg #[.int .u64 a0, .int .u64 a1, .int .u64 a2, .int .u64 a3], .int .i64 n] w fun e w' =>
      e = .returned (.agg #[.int .u64 x1, .int .u64 x2, .int .u64 x3, .int .u64 0]) ∧ Mo w w' := by
  obtain ⟨⟨p0, q0⟩, ⟨p1, q1⟩, ⟨p2, q2⟩, ⟨p3, q3⟩⟩ := ha
  go_enter Tryz.func220, Tryz.ntmps220
  go_wp2
  refine wp_loop_rounds 5 ?_
  rw [rounds_succ]
  go_wp2
  go_region
  go_wp2
  rw [rounds_succ]
  go_wp2
  go_region
  go_wp2
  rw [rounds_succ]
  go_wp2
  rw [rounds_succ]
  go_wp2
  refine bodyPost_ret (v := .agg #[.int .u64 x1, .int .u64 x2, .int .u64 x3, .int .u64 0]) (by simp [results, Tryz.results220, go_sem]) rfl ?_
  refine ⟨rfl, ?_⟩
  repeat (first | with_reducible exact Mo.refl _ | with_reducible apply Mo.drew | with_reducible apply Mo.drewN | with_reducible apply Mo.alloc | with_reducible refine Mo.setCell ?_ (by simp <;> omega) _ | with_reducible refine Mo.trans ?_ (by with_reducible assumption))

set_option maxHeartbeats 2000000 in
theorem shl_2 (a0 a1 a2 a3 n x0 x1 x2 x3 : Int) (r : Nat) (w : World) (ha : U4 a0 a1 a2 a3) (hq : n / 64 = 2) (hr : n % 64 = (r : Int)) (_h64 : r < 64) (_hn0 : 0 ≤ n) (_hn : n ≤ 256) (e0 : IntKind.u64.wrap (a0 * 2 ^ r) = x0) (e1 : bits .or .u64 (IntKind.u64.wrap (a1 * 2 ^ r)) (a0 / 2 ^ (64 - r)) = x1) (_e2 : bits .or .u64 (IntKind.u64.wrap (a2 * 2 ^ r)) (a1 / 2 ^ (64 - r)) = x2) (_e3 : bits .or .u64 (IntKind.u64.wrap (a3 * 2 ^ r)) (a2 / 2 ^ (64 - r)) = x3) :
    Calls Tryz.prog 219 #[.agg #[.int .u64 a0, .int .u64 a1, .int .u64 a2, .int .u64 a3], .int .i64 n] w fun e w' =>
      e = .returned (.agg #[.int .u64 0, .int .u64 0, .int .u64 x0, .int .u64 x1]) ∧ Mo w w' := by
  obtain ⟨⟨p0, q0⟩, ⟨p1, q1⟩, ⟨p2, q2⟩, ⟨p3, q3⟩⟩ := ha
  go_enter Tryz.func219, Tryz.ntmps219
  go_wp2
  refine wp_loop_rounds 5 ?_
  rw [rounds_succ]
  go_wp2
  rw [rounds_succ]
  go_wp2
  go_region
  go_wp2
  rw [rounds_succ]
  go_wp2
  refine bodyPost_ret (v := .agg #[.int .u64 0, .int .u64 0, .int .u64 x0, .int .u64 x1]) (by simp [results, Tryz.results219, go_sem]) rfl ?_
  refine ⟨rfl, ?_⟩
  repeat (first | with_reducible exact Mo.refl _ | with_reducible apply Mo.drew | with_reducible apply Mo.drewN | with_reducible apply Mo.alloc | with_reducible refine Mo.setCell ?_ (by simp <;> omega) _ | with_reducible refine Mo.trans ?_ (by with_reducible assumption))

set_option maxHeartbeats 2000000 in
theorem shr_2 (a0 a1 a2 a3 n x0 x1 x2 x3 : Int) (r : Nat) (w : World) (ha : U4 a0 a1 a2 a3) (hq : n / 64 = 2) (hr : n % 64 = (r : Int)) (_h64 : r < 64) (_hn0 : 0 ≤ n) (_hn : n ≤ 256) (_e0 : bits .or .u64 (a0 / 2 ^ r) (IntKind.u64.wrap (a1 * 2 ^ (64 - r))) = x0) (_e1 : bits .or .u64 (a1 / 2 ^ r) (IntKind.u64.wrap (a2 * 2 ^ (64 - r))) = x1) (e2 : bits .or .u64 (a2 / 2 ^ r) (IntKind.u64.wrap (a3 * 2 ^ (64 - r))) = x2) (e3 : a3 / 2 ^ r = x3) :
    Calls Tryz.prog 220 #[.agg #[.int .u64 a0, .int .u64 a1, .int .u64 a2, .int .u64 a3], .int .i64 n] w fun e w' =>
      e = .returned (.agg #[.int .u64 x2, .int .u64 x3, .int .u64 0, .int .u64 0]) ∧ Mo w w' := by
  obtain ⟨⟨p0, q0⟩, ⟨p1, q1⟩, ⟨p2, q2⟩, ⟨p3, q3⟩⟩ := ha
  go_enter Tryz.func220, Tryz.ntmps220
  go_wp2
  refine wp_loop_rounds 5 ?_
  rw [rounds_succ]
  go_wp2
  go_region
  go_wp2
  rw [rounds_succ]
  go_wp2
  rw [rounds_succ]
  go_wp2
  refine bodyPost_ret (v := .agg #[.int .u64 x2, .int .u64 x3, .int .u64 0, .int .u64 0]) (by simp [results, Tryz.results220, go_sem]) rfl ?_
  refine ⟨rfl, ?_⟩
  repeat (first | with_reducible exact Mo.refl _ | with_reducible apply Mo.drew | with_reducible apply Mo.drewN | with_reducible apply Mo.alloc | with_reducible refine Mo.setCell ?_ (by simp <;> omega) _ | with_reducible refine Mo.trans ?_ (by with_reducible assumption))

set_option maxHeartbeats 2000000 in
theorem shl_3 (a0 a1 a2 a3 n x0 x1 x2 x3 : Int) (r : Nat) (w : World) (ha : U4 a0 a1 a2 a3) (hq : n / 64 = 3) (hr : n % 64 = (r : Int)) (_h64 : r < 64) (_hn0 : 0 ≤ n) (_hn : n ≤ 256) (e0 : IntKind.u64.wrap (a0 * 2 ^ r) = x0) (_e1 : bits .or .u64 (IntKind.u64.wrap (a1 * 2 ^ r)) (a0 / 2 ^ (64 - r)) = x1) (_e2 : bits .or .u64 (IntKind.u64.wrap (a2 * 2 ^ r)) (a1 / 2 ^ (64 - r)) = x2) (_e3 : bits .or .u64 (IntKind.u64.wrap (a3 * 2 ^ r)) (a2 / 2 ^ (64 - r)) = x3) :
    Calls Tryz.prog 219 #[.agg #[.int .u64 a0, .int .u64 a1, .int .u64 a2, .int .u64 a3], .int .i64 n] w fun e w' =>
      e = .returned (.agg #[.int .u64 0, .int .u64 0, .int .u64 0, .int .u64 x0]) ∧ Mo w w' := by
  obtain ⟨⟨p0, q0⟩, ⟨p1, q1⟩, ⟨p2, q2⟩, ⟨p3, q3⟩⟩ := ha
  go_enter Tryz.func219, Tryz.ntmps219
  go_wp2
  refine wp_loop_rounds 5 ?_
  rw [rounds_succ]
  go_wp2
  rw [rounds_succ]
  go_wp2
  refine bodyPost_ret (v := .agg #[.int .u64 0, .int .u64 0, .int .u64 0, .int .u64 x0]) (by simp [results, Tryz.results219, go_sem]) rfl ?_
  refine ⟨rfl, ?_⟩
  repeat (first | with_reducible exact Mo.refl _ | with_reducible apply Mo.drew | with_reducible apply Mo.drewN | with_reducible apply Mo.alloc | with_reducible refine Mo.setCell ?_ (by simp <;> omega) _ | with_reducible refine Mo.trans ?_ (by with_reducible assumption))

set_option maxHeartbeats 2000000 in
theorem shr_3 (a0 a1 a2 a3 n x0 x1 x2 x3 : Int) (r : Nat) (w : World) (ha : U4 a0 a1 a2 a3) (hq : n / 64 = 3) (hr : n % 64 = (r : Int)) (_h64 : r < 64) (_hn0 : 0 ≤ n) (_hn : n ≤ 256) (_e0 : bits .or .u64 (a0 / 2 ^ r) (IntKind.u64.wrap (a1 * 2 ^ (64 - r))) = x0) (_e1 : bits .or .u64 (a1 / 2 ^ r) (IntKind.u64.wrap (a2 * 2 ^ (64 - r))) = x1) (_e2 : bits .or .u64 (a2 / 2 ^ r) (IntKind.u64.wrap (a3 * 2 ^ (64 - r))) = x2) (e3 : a3 / 2 ^ r = x3) :
    Calls Tryz.prog 220 #[.agg #[.int .u64 a0, .int .u64 a1, .int .u64 a2, .int .u64 a3], .int .i64 n] w fun e w' =>
      e = .returned (.agg #[.int .u64 x3, .int .u64 0, .int .u64 0, .int .u64 0]) ∧ Mo w w' := by
  obtain ⟨⟨p0, q0⟩, ⟨p1, q1⟩, ⟨p2, q2⟩, ⟨p3, q3⟩⟩ := ha
  go_enter Tryz.func220, Tryz.ntmps220
  go_wp2
  refine wp_loop_rounds 5 ?_
  rw [rounds_succ]
  go_wp2
  rw [rounds_succ]
  go_wp2
  refine bodyPost_ret (v := .agg #[.int .u64 x3, .int .u64 0, .int .u64 0, .int .u64 0]) (by simp [results, Tryz.results220, go_sem]) rfl ?_
  refine ⟨rfl, ?_⟩
  repeat (first | with_reducible exact Mo.refl _ | with_reducible apply Mo.drew | with_reducible apply Mo.drewN | with_reducible apply Mo.alloc | with_reducible refine Mo.setCell ?_ (by simp <;> omega) _ | with_reducible refine Mo.trans ?_ (by with_reducible assumption))

set_option maxHeartbeats 2000000 in
theorem shl_4 (a0 a1 a2 a3 n : Int) (r : Nat) (w : World) (ha : U4 a0 a1 a2 a3) (hq : n / 64 = 4) (hr : n % 64 = (r : Int)) (_h64 : r < 64) (_hn0 : 0 ≤ n) (_hn : n ≤ 256) :
    Calls Tryz.prog 219 #[.agg #[.int .u64 a0, .int .u64 a1, .int .u64 a2, .int .u64 a3], .int .i64 n] w fun e w' =>
      e = .returned (.agg #[.int .u64 0, .int .u64 0, .int .u64 0, .int .u64 0]) ∧ Mo w w' := by
  obtain ⟨⟨p0, q0⟩, ⟨p1, q1⟩, ⟨p2, q2⟩, ⟨p3, q3⟩⟩ := ha
  go_enter Tryz.func219, Tryz.ntmps219
  go_wp2
  refine wp_loop_rounds 5 ?_
  rw [rounds_succ]
  go_wp2
  refine bodyPost_ret (v := .agg #[.int .u64 0, .int .u64 0, .int .u64 0, .int .u64 0]) (by simp [results, Tryz.results219, go_sem]) rfl ?_
  refine ⟨rfl, ?_⟩
  repeat (first | with_reducible exact Mo.refl _ | with_reducible apply Mo.drew | with_reducible apply Mo.drewN | with_reducible apply Mo.alloc | with_reducible refine Mo.setCell ?_ (by simp <;> omega) _ | with_reducible refine Mo.trans ?_ (by with_reducible assumption))

set_option maxHeartbeats 2000000 in
theorem shr_4 (a0 a1 a2 a3 n : Int) (r : Nat) (w : World) (ha : U4 a0 a1 a2 a3) (hq : n / 64 = 4) (hr : n % 64 = (r : Int)) (_h64 : r < 64) (_hn0 : 0 ≤ n) (_hn : n ≤ 256) :
    Calls Tryz.prog 220 #[.agg #[.int .u64 a0, .int .u64 a1, .int .u64 a2, .int .u64 a3], .int .i64 n] w fun e w' =>
      e = .returned (.agg #[.int .u64 0, .int .u64 0, .int .u64 0, .int .u64 0]) ∧ Mo w w' := by
  obtain ⟨⟨p0, q0⟩, ⟨p1, q1⟩, ⟨p2, q2⟩, ⟨p3, q3⟩⟩ := ha
  go_enter Tryz.func220, Tryz.ntmps220
  go_wp2
  refine wp_loop_rounds 5 ?_
  rw [rounds_succ]
  go_wp2
  refine bodyPost_ret (v := .agg #[.int .u64 0, .int .u64 0, .int .u64 0, .int .u64 0]) (by simp [results, Tryz.results220, go_sem]) rfl ?_
  refine ⟨rfl, ?_⟩
  repeat (first | with_reducible exact Mo.refl _ | with_reducible apply Mo.drew | with_reducible apply Mo.drewN | with_reducible apply Mo.alloc | with_reducible refine Mo.setCell ?_ (by simp <;> omega) _ | with_reducible refine Mo.trans ?_ (by with_reducible assumption))
theorem nv_top (X c : Int) : nv (X + MM * c) = nv X := by
  rw [← nv_mod (X + MM * c), Int.add_mul_emod_self_left, nv_mod]
theorem nv_up (Y : Int) : nv (18446744073709551616 * Y) = .agg #[.int .u64 0, .int .u64 (l0 Y), .int .u64 (l1 Y), .int .u64 (l2 Y)] := by
  obtain ⟨a, b, c, d, _⟩ := sh (v := 0) (Y := Y) (by decide) (by decide)
  rw [Int.zero_add] at a b c d
  rw [nv, a, b, c, d]
theorem nv_down {Y : Int} (h0 : 0 ≤ Y) (h : Y < MM) : nv (Y / 18446744073709551616) = .agg #[.int .u64 (l1 Y), .int .u64 (l2 Y), .int .u64 (l3 Y), .int .u64 0] := by
  have a : l0 (Y / 18446744073709551616) = l1 Y := by unfold l0 l1; rfl
  have b : l1 (Y / 18446744073709551616) = l2 Y := by unfold l1 l2; omega
  have c : l2 (Y / 18446744073709551616) = l3 Y := by unfold l2 l3; omega
  have d : l3 (Y / 18446744073709551616) = 0 := by unfold l3; unfold MM at h; omega
  rw [nv, a, b, c, d]
theorem cases64 (n : Int) (h0 : 0 ≤ n) (h : n ≤ 256) : ∃ r : Nat, r < 64 ∧ n % 64 = (r : Int) ∧ (n / 64 = 0 ∨ n / 64 = 1 ∨ n / 64 = 2 ∨ n / 64 = 3 ∨ n / 64 = 4) :=
  ⟨(n % 64).toNat, by omega, by omega, by omega⟩
theorem pow64 (n : Int) (r k : Nat) (h0 : 0 ≤ n) (hr : n % 64 = (r : Int)) (hk : n / 64 = (k : Int)) : (2 : Int) ^ n.toNat = 2 ^ r * 18446744073709551616 ^ k := by
  rw [show n.toNat = r + 64 * k from by omega, Int.pow_add, Int.pow_mul]; rfl
theorem shl_any (a0 a1 a2 a3 n : Int) (w : World) (ha : U4 a0 a1 a2 a3) (h0 : 0 ≤ n) (h : n ≤ 256) :
    Calls Tryz.prog 219 #[.agg #[.int .u64 a0, .int .u64 a1, .int .u64 a2, .int .u64 a3], .int .i64 n] w fun e w' =>
      e = .returned (nv (vl a0 a1 a2 a3 * 2 ^ n.toNat)) ∧ Mo w w' := by
  obtain ⟨r, hr, er, hq⟩ := cases64 n h0 h
  obtain ⟨u, e⟩ := sl_vl r hr ha
  have g := ha
  obtain ⟨g0, g1, g2, g3⟩ := g
  have c0 := sl_0 r a0
  have c1 := sl_or r hr g1 g0
  have c2 := sl_or r hr g2 g1
  have c3 := sl_or r hr g3 g2
  generalize sl r a0 0 = x0 at *
  generalize sl r a1 a0 = x1 at *
  generalize sl r a2 a1 = x2 at *
  generalize sl r a3 a2 = x3 at *
  rcases hq with hq | hq | hq | hq | hq
  · rw [pow64 n r 0 h0 er hq, Int.pow_zero, Int.mul_one, ← e, nv_top, nv_vl u]
    exact shl_0 a0 a1 a2 a3 n x0 x1 x2 x3 r w ha hq er hr h0 h c0 c1 c2 c3
  · rw [pow64 n r 1 h0 er hq, ← Int.mul_assoc, ← e, show ∀ t : Int, t * 18446744073709551616 ^ 1 = 18446744073709551616 * t from fun t => by rw [Int.pow_one, Int.mul_comm], Int.mul_add, Int.mul_left_comm, nv_top, nv_up, l0_vl u, l1_vl u, l2_vl u]
    exact shl_1 a0 a1 a2 a3 n x0 x1 x2 x3 r w ha hq er hr h0 h c0 c1 c2 c3
  · rw [pow64 n r 2 h0 er hq, ← Int.mul_assoc, ← e, show ∀ t : Int, t * 18446744073709551616 ^ 2 = 18446744073709551616 * (18446744073709551616 * t) from fun t => by omega, Int.mul_add, Int.mul_left_comm _ MM, Int.mul_add, Int.mul_left_comm _ MM, nv_top, nv_up]
    obtain ⟨a, b, c, _⟩ := sh (v := 0) (Y := vl x0 x1 x2 x3) (by decide) (by decide)
    rw [Int.zero_add] at a b c
    rw [a, b, c, l0_vl u, l1_vl u]
    exact shl_2 a0 a1 a2 a3 n x0 x1 x2 x3 r w ha hq er hr h0 h c0 c1 c2 c3
  · have k : nv (vl a0 a1 a2 a3 * 2 ^ n.toNat) = .agg #[.int .u64 0, .int .u64 0, .int .u64 0, .int .u64 x0] := by
      rw [pow64 n r 3 h0 er hq, ← Int.mul_assoc, ← e]
      have i0 := l0_vl u
      generalize hX : vl x0 x1 x2 x3 = X at *
      have s0 : l0 ((X + MM * (a3 / 2 ^ (64 - r))) * 18446744073709551616 ^ 3) = 0 := by unfold l0 MM; omega
      have s1 : l1 ((X + MM * (a3 / 2 ^ (64 - r))) * 18446744073709551616 ^ 3) = 0 := by unfold l1 MM; omega
      have s2 : l2 ((X + MM * (a3 / 2 ^ (64 - r))) * 18446744073709551616 ^ 3) = 0 := by unfold l2 MM; omega
      have s3 : l3 ((X + MM * (a3 / 2 ^ (64 - r))) * 18446744073709551616 ^ 3) = l0 X := by unfold l3 l0 MM; omega
      rw [nv, s0, s1, s2, s3, i0]
    rw [k]
    exact shl_3 a0 a1 a2 a3 n x0 x1 x2 x3 r w ha hq er hr h0 h c0 c1 c2 c3
  · have k : nv (vl a0 a1 a2 a3 * 2 ^ n.toNat) = .agg #[.int .u64 0, .int .u64 0, .int .u64 0, .int .u64 0] := by
      rw [pow64 n r 4 h0 er hq, ← Int.mul_assoc, ← nv_mod, show ((18446744073709551616 : Int) ^ 4) = MM from by decide, Int.mul_emod_left]
      simp [nv, l0, l1, l2, l3]
    rw [k]
    exact shl_4 a0 a1 a2 a3 n r w ha hq er hr h0 h
theorem shr_any (a0 a1 a2 a3 n : Int) (w : World) (ha : U4 a0 a1 a2 a3) (h0 : 0 ≤ n) (h : n ≤ 256) :
    Calls Tryz.prog 220 #[.agg #[.int .u64 a0, .int .u64 a1, .int .u64 a2, .int .u64 a3], .int .i64 n] w fun e w' =>
      e = .returned (nv (vl a0 a1 a2 a3 / 2 ^ n.toNat)) ∧ Mo w w' := by
  obtain ⟨r, hr, er, hq⟩ := cases64 n h0 h
  obtain ⟨u, e⟩ := sr_vl r hr ha
  have hP := (pq r hr).1
  have bd := vl_bd ha
  have g := ha
  obtain ⟨g0, g1, g2, g3⟩ := g
  have c0 := sr_or r hr g0 g1
  have c1 := sr_or r hr g1 g2
  have c2 := sr_or r hr g2 g3
  have c3 := sr_0 r a3
  generalize sr r a0 a1 = x0 at *
  generalize sr r a1 a2 = x1 at *
  generalize sr r a2 a3 = x2 at *
  generalize sr r a3 0 = x3 at *
  have ub := vl_bd u
  have q : ∀ k : Nat, n / 64 = (k : Int) → vl a0 a1 a2 a3 / 2 ^ n.toNat = vl x0 x1 x2 x3 / 18446744073709551616 ^ k := fun k hk => by
    rw [pow64 n r k h0 er hk, e, Int.ediv_ediv_of_nonneg (by omega)]
  rcases hq with hq | hq | hq | hq | hq
  · rw [q 0 hq, Int.pow_zero, Int.ediv_one, nv_vl u]
    exact shr_0 a0 a1 a2 a3 n x0 x1 x2 x3 r w ha hq er hr h0 h c0 c1 c2 c3
  · rw [q 1 hq, Int.pow_one, nv_down ub.1 ub.2, l1_vl u, l2_vl u, l3_vl u]
    exact shr_1 a0 a1 a2 a3 n x0 x1 x2 x3 r w ha hq er hr h0 h c0 c1 c2 c3
  · have k : nv (vl a0 a1 a2 a3 / 2 ^ n.toNat) = .agg #[.int .u64 x2, .int .u64 x3, .int .u64 0, .int .u64 0] := by
      rw [q 2 hq]
      unfold U4 U1 at u
      have s0 : l0 (vl x0 x1 x2 x3 / 18446744073709551616 ^ 2) = x2 := by unfold l0 vl; omega
      have s1 : l1 (vl x0 x1 x2 x3 / 18446744073709551616 ^ 2) = x3 := by unfold l1 vl; omega
      have s2 : l2 (vl x0 x1 x2 x3 / 18446744073709551616 ^ 2) = 0 := by unfold l2 vl; omega
      have s3 : l3 (vl x0 x1 x2 x3 / 18446744073709551616 ^ 2) = 0 := by unfold l3 vl; omega
      rw [nv, s0, s1, s2, s3]
    rw [k]
    exact shr_2 a0 a1 a2 a3 n x0 x1 x2 x3 r w ha hq er hr h0 h c0 c1 c2 c3
  · have k : nv (vl a0 a1 a2 a3 / 2 ^ n.toNat) = .agg #[.int .u64 x3, .int .u64 0, .int .u64 0, .int .u64 0] := by
      rw [q 3 hq]
      unfold U4 U1 at u
      have s0 : l0 (vl x0 x1 x2 x3 / 18446744073709551616 ^ 3) = x3 := by unfold l0 vl; omega
      have s1 : l1 (vl x0 x1 x2 x3 / 18446744073709551616 ^ 3) = 0 := by unfold l1 vl; omega
      have s2 : l2 (vl x0 x1 x2 x3 / 18446744073709551616 ^ 3) = 0 := by unfold l2 vl; omega
      have s3 : l3 (vl x0 x1 x2 x3 / 18446744073709551616 ^ 3) = 0 := by unfold l3 vl; omega
      rw [nv, s0, s1, s2, s3]
    rw [k]
    exact shr_3 a0 a1 a2 a3 n x0 x1 x2 x3 r w ha hq er hr h0 h c0 c1 c2 c3
  · have k : nv (vl a0 a1 a2 a3 / 2 ^ n.toNat) = .agg #[.int .u64 0, .int .u64 0, .int .u64 0, .int .u64 0] := by
      rw [q 4 hq, show ((18446744073709551616 : Int) ^ 4) = MM from by decide, Int.ediv_eq_zero_of_lt ub.1 ub.2]
      simp [nv, l0, l1, l2, l3]
    rw [k]
    exact shr_4 a0 a1 a2 a3 n r w ha hq er hr h0 h
theorem bl_le {a : Int} (h : U1 a) (h0 : a ≠ 0) : (Lib.bitLen a.toNat : Int) ≤ 64 ∧ (0 : Int) ≤ Lib.bitLen a.toNat := by
  obtain ⟨p, q⟩ := h
  obtain ⟨b1, b2, b3, b4⟩ := bitLen_bd 64 a.toNat (by omega) (by omega) (by omega)
  omega
set_option maxHeartbeats 1000000 in
theorem bits_any (a0 a1 a2 a3 : Int) (w : World) (ha : U4 a0 a1 a2 a3) :
    Calls Tryz.prog 218 #[.agg #[.int .u64 a0, .int .u64 a1, .int .u64 a2, .int .u64 a3]] w fun e w' =>
      e = .returned (.int .i64 (bln (vl a0 a1 a2 a3))) ∧ Mo w w' := by
  have fin : ∀ (r : Int) (w' : World), r = bln (vl a0 a1 a2 a3) → Mo w w' → (Ending.returned (.int .i64 r) = .returned (.int .i64 (bln (vl a0 a1 a2 a3))) ∧ Mo w w') := fun r w' h m => ⟨ret_int h, m⟩
  obtain ⟨g0, g1, g2, g3⟩ := ha
  have g := g0
  have g' := g1
  have g'' := g2
  have g''' := g3
  obtain ⟨p0, q0⟩ := g
  obtain ⟨p1, q1⟩ := g'
  obtain ⟨p2, q2⟩ := g''
  obtain ⟨p3, q3⟩ := g'''
  go_enter Tryz.func218, Tryz.ntmps218
  go_wp2
  refine wp_loop_rounds 5 ?_
  rw [rounds_succ]
  by_cases h3 : a3 = 0
  · have e3 : (a3 != 0) = false := by simp [h3]
    have H3 : Hid _ := h3
    clear h3
    go_wp2
    rw [rounds_succ]
    by_cases h2 : a2 = 0
    · have e2 : (a2 != 0) = false := by simp [h2]
      have H2 : Hid _ := h2
      clear h2
      go_wp2
      rw [rounds_succ]
      by_cases h1 : a1 = 0
      · have e1 : (a1 != 0) = false := by simp [h1]
        have H1 : Hid _ := h1
        clear h1
        go_wp2
        rw [rounds_succ]
        by_cases h0 : a0 = 0
        · have e0 : (a0 != 0) = false := by simp [h0]
          have H0 : Hid _ := h0
          clear h0
          go_wp2
          rw [rounds_succ]
          go_wp2
          go_ret
          refine fin _ _ ?_ ((Mo.refl _).alloc _ _)
          rw [H0.out, H1.out, H2.out, H3.out]; decide
        · have e0 : (a0 != 0) = true := by simp [h0]
          have b := bl_le g0 h0
          obtain ⟨b1, b2⟩ := b
          go_wp2_with (go_at_call 126; refine (Tryz.bits_Len64 a0 _ (by omega) (by omega)).mono ?_; rintro e w' ⟨rfl, rfl⟩)
          go_ret
          refine fin _ _ ?_ ((Mo.refl _).alloc _ _)
          have k := bln_join (a := a0) (low := 0) 0 (by omega) q0 (by omega) (by decide)
          rw [H1.out, H2.out, H3.out, show vl a0 0 0 0 = a0 * 2 ^ 0 + 0 from by unfold vl; omega, k]; simp
      · have e1 : (a1 != 0) = true := by simp [h1]
        have b := bl_le g1 h1
        obtain ⟨b1, b2⟩ := b
        go_wp2_with (go_at_call 126; refine (Tryz.bits_Len64 a1 _ (by omega) (by omega)).mono ?_; rintro e w' ⟨rfl, rfl⟩)
        go_ret
        refine fin _ _ ?_ ((Mo.refl _).alloc _ _)
        have k := bln_join (a := a1) (low := a0) 64 (by omega) q1 (by omega) (by omega)
        rw [H2.out, H3.out, show vl a0 a1 0 0 = a1 * 2 ^ 64 + a0 from by unfold vl; omega, k]; simp
    · have e2 : (a2 != 0) = true := by simp [h2]
      have b := bl_le g2 h2
      obtain ⟨b1, b2⟩ := b
      go_wp2_with (go_at_call 126; refine (Tryz.bits_Len64 a2 _ (by omega) (by omega)).mono ?_; rintro e w' ⟨rfl, rfl⟩)
      go_ret
      refine fin _ _ ?_ ((Mo.refl _).alloc _ _)
      have k := bln_join (a := a2) (low := a0 + 18446744073709551616 * a1) 128 (by omega) q2 (by omega) (by omega)
      rw [H3.out, show vl a0 a1 a2 0 = a2 * 2 ^ 128 + (a0 + 18446744073709551616 * a1) from by unfold vl; omega, k]; simp
  · have e3 : (a3 != 0) = true := by simp [h3]
    have b := bl_le g3 h3
    obtain ⟨b1, b2⟩ := b
    go_wp2_with (go_at_call 126; refine (Tryz.bits_Len64 a3 _ (by omega) (by omega)).mono ?_; rintro e w' ⟨rfl, rfl⟩)
    go_ret
    refine fin _ _ ?_ ((Mo.refl _).alloc _ _)
    have k := bln_join (a := a3) (low := a0 + 18446744073709551616 * a1 + 340282366920938463463374607431768211456 * a2) 192 (by omega) q3 (by omega) (by omega)
    rw [show vl a0 a1 a2 a3 = a3 * 2 ^ 192 + (a0 + 18446744073709551616 * a1 + 340282366920938463463374607431768211456 * a2) from by unfold vl; omega, k]; simp

set_option maxHeartbeats 4000000 in
theorem cmp15_any (a0 a1 a2 a3 b0 b1 b2 b3 : Int) (w : World) (ha : U4 a0 a1 a2 a3) (hb : U4 b0 b1 b2 b3) :
    Calls Tryz.prog 209 #[.agg #[.int .u64 a0, .int .u64 a1, .int .u64 a2, .int .u64 a3], .agg #[.int .u64 b0, .int .u64 b1, .int .u64 b2, .int .u64 b3]] w fun e w' =>
      e = .returned (.int .i64 (cm (vl a0 a1 a2 a3) (vl b0 b1 b2 b3))) ∧ Mo w w' := by
  have fin : ∀ (r : Int) (w' : World), r = cm (vl a0 a1 a2 a3) (vl b0 b1 b2 b3) → Mo w w' → (Ending.returned (.int .i64 r) = .returned (.int .i64 (cm (vl a0 a1 a2 a3) (vl b0 b1 b2 b3))) ∧ Mo w w') := fun r w' h m => ⟨ret_int h, m⟩
  obtain ⟨⟨p0, q0⟩, ⟨p1, q1⟩, ⟨p2, q2⟩, ⟨p3, q3⟩⟩ := ha
  obtain ⟨⟨r0, s0⟩, ⟨r1, s1⟩, ⟨r2, s2⟩, ⟨r3, s3⟩⟩ := hb
  go_enter Tryz.func209, Tryz.ntmps209
  go_wp2
  refine wp_loop_rounds 5 ?_
  rw [rounds_succ]
  by_cases h3 : a3 < b3
  · go_wp2
    go_quiet (fail)
    go_wp2
    go_ret
    refine fin _ _ (by unfold cm vl; split <;> (try split) <;> omega) ?_
    repeat (first | exact Mo.refl _ | apply Mo.drew | apply Mo.drewN | apply Mo.alloc)
  by_cases h3' : b3 < a3
  · go_wp2
    go_quiet (fail)
    go_wp2
    go_quiet (fail)
    go_wp2
    go_ret
    refine fin _ _ (by unfold cm vl; split <;> (try split) <;> omega) ?_
    repeat (first | exact Mo.refl _ | apply Mo.drew | apply Mo.drewN | apply Mo.alloc)
  go_wp2
  go_quiet (fail)
  go_wp2
  go_quiet (fail)
  go_wp2
  rw [rounds_succ]
  by_cases h2 : a2 < b2
  · go_wp2
    go_quiet (fail)
    go_wp2
    go_ret
    refine fin _ _ (by unfold cm vl; split <;> (try split) <;> omega) ?_
    repeat (first | exact Mo.refl _ | apply Mo.drew | apply Mo.drewN | apply Mo.alloc)
  by_cases h2' : b2 < a2
  · go_wp2
    go_quiet (fail)
    go_wp2
    go_quiet (fail)
    go_wp2
    go_ret
    refine fin _ _ (by unfold cm vl; split <;> (try split) <;> omega) ?_
    repeat (first | exact Mo.refl _ | apply Mo.drew | apply Mo.drewN | apply Mo.alloc)
  go_wp2
  go_quiet (fail)
  go_wp2
  go_quiet (fail)
  go_wp2
  rw [rounds_succ]
  by_cases h1 : a1 < b1
  · go_wp2
    go_quiet (fail)
    go_wp2
    go_ret
    refine fin _ _ (by unfold cm vl; split <;> (try split) <;> omega) ?_
    repeat (first | exact Mo.refl _ | apply Mo.drew | apply Mo.drewN | apply Mo.alloc)
  by_cases h1' : b1 < a1
  · go_wp2
    go_quiet (fail)
    go_wp2
    go_quiet (fail)
    go_wp2
    go_ret
    refine fin _ _ (by unfold cm vl; split <;> (try split) <;> omega) ?_
    repeat (first | exact Mo.refl _ | apply Mo.drew | apply Mo.drewN | apply Mo.alloc)
  go_wp2
  go_quiet (fail)
  go_wp2
  go_quiet (fail)
  go_wp2
  rw [rounds_succ]
  by_cases h0 : a0 < b0
  · go_wp2
    go_quiet (fail)
    go_wp2
    go_ret
    refine fin _ _ (by unfold cm vl; split <;> (try split) <;> omega) ?_
    repeat (first | exact Mo.refl _ | apply Mo.drew | apply Mo.drewN | apply Mo.alloc)
  by_cases h0' : b0 < a0
  · go_wp2
    go_quiet (fail)
    go_wp2
    go_quiet (fail)
    go_wp2
    go_ret
    refine fin _ _ (by unfold cm vl; split <;> (try split) <;> omega) ?_
    repeat (first | exact Mo.refl _ | apply Mo.drew | apply Mo.drewN | apply Mo.alloc)
  go_wp2
  go_quiet (fail)
  go_wp2
  go_quiet (fail)
  go_wp2
  rw [rounds_succ]
  go_wp2
  go_ret
  refine fin _ _ (by unfold cm vl; split <;> (try split) <;> omega) ?_
  repeat (first | exact Mo.refl _ | apply Mo.drew | apply Mo.drewN | apply Mo.alloc)

/-- The block k holds four zeros. -/
def At0 (w : World) (k : Nat) : Prop := At4 w k 0 0 0 0 ∧ Fz w k ∧ k < w.heap.size
theorem At0.mo {w w' : World} {k : Nat} (h : At0 w k) (m : Mo w w') : At0 w' k := ⟨h.1.mo m h.2.2, h.2.1.mo m, Nat.lt_of_lt_of_le h.2.2 m.size⟩
theorem At0.new (w : World) : At0 (w.alloc (.cells #[.int .u64 0, .int .u64 0, .int .u64 0, .int .u64 0] 24)) w.heap.size :=
  ⟨by simp [At4, go_sem], fun o => by simp [go_sem], by simp⟩
theorem At0.mk1 {w w' : World} (m : Mo ((w.alloc (.cells #[.int .u64 0, .int .u64 0, .int .u64 0, .int .u64 0] 24)).drew) w') : At0 w' w.heap.size :=
  (At0.new w).mo (((Mo.refl _).drew).trans m)
theorem At0.mk2 {w w' : World} (m : Mo (w.alloc (.cells #[.int .u64 0, .int .u64 0, .int .u64 0, .int .u64 0] 24)) w') : At0 w' w.heap.size := (At0.new w).mo m
theorem At0.same {w : World} {k : Nat} (h : At0 w k) (z : Int) : AtN (st4 w k z) k z := by
  obtain ⟨⟨b0, b1, b2, b3⟩, f, s⟩ := h
  refine ⟨by simp [At4, go_sem, *], fun o => by simp [World.frozen?_setCell, f o], by simpa [World.setCell] using s⟩

theorem divStep_n (P x D : Int) (w : World) (h0 : 0 ≤ P) (h : P < D) (hD : D < MM) (hx : U1 x) :
    Calls Tryz.prog 221 #[nv P, .int .u64 x, nv D] w fun e w' => e = .returned (.tuple #[.int .u64 ((P * 18446744073709551616 + x) / D), nv ((P * 18446744073709551616 + x) % D)]) ∧ Mo w w' :=
  divStep_any (l0 P) (l1 P) (l2 P) (l3 P) x (l0 D) (l1 D) (l2 D) (l3 D) (P * 18446744073709551616 + x) D w (u4_lb P) hx (u4_lb D) (show _ = _ by rw [vl_lb P h0 (by omega)]) (show _ = _ by rw [vl_lb D (by omega) hD]) (show _ < _ by rw [vl_lb P h0 (by omega)]; exact h)
/-- The world between two steps. -/
def LW (w wr : World) (kr kq : Nat) (H low D P c0 c1 c2 c3 : Int) : Prop := VW w wr H low D ∧ AtN wr kr P ∧ At4 wr kq c0 c1 c2 c3 ∧ Fz wr kq ∧ kq < wr.heap.size ∧ w.heap.size + 1 + 1 + 1 + 1 < kr ∧ kr < kq
theorem LW.mo {w wr w1 : World} {kr kq : Nat} {H low D P c0 c1 c2 c3 : Int} (h : LW w wr kr kq H low D P c0 c1 c2 c3) (m : Mo wr w1) : LW w w1 kr kq H low D P c0 c1 c2 c3 := by
  obtain ⟨h1, h2, h3, h4, h5, h6, h7⟩ := h
  exact ⟨h1.mo m, h2.mo m, h3.mo m h5, h4.mo m, Nat.lt_of_lt_of_le h5 m.size, h6, h7⟩
theorem AtN.cell {w : World} {k j o : Nat} {n : Int} (h : AtN w j n) (hk : j ≠ k) (v : Value) : AtN (w.setCell ⟨k, o, none⟩ v) j n := by
  obtain ⟨⟨b0, b1, b2, b3⟩, f, s⟩ := h
  refine ⟨by simp [At4, go_sem, *], fun o => by simp [World.frozen?_setCell, f o], by simpa [World.setCell] using s⟩
theorem VW.cell {w wx : World} {h l d : Int} (v : VW w wx h l d) {k o : Nat} (hk : w.heap.size + 1 + 1 + 1 + 1 < k) (x : Value) : VW w (wx.setCell ⟨k, o, none⟩ x) h l d := by
  obtain ⟨v1, v2, v3, v4, v5, v6⟩ := v
  exact ⟨v1.setCell (by show w.heap.size ≤ k; omega) _, v2.cell (by omega) _, v3.cell (by omega) _, v4.cell (by omega) _, v5.cell (by omega) _, v6.cell (by omega) _⟩
theorem LW.put0 {w w1 : World} {kr kq : Nat} {H low D P c0 c1 c2 c3 : Int} (h : LW w w1 kr kq H low D P c0 c1 c2 c3) (q P' : Int) : LW w (st4 (w1.setCell ⟨kq, 0, none⟩ (.int .u64 q)) kr P') kr kq H low D P' q c1 c2 c3 := by
  obtain ⟨h1, h2, ⟨d0, d1, d2, d3⟩, h4, h5, h6, h7⟩ := h
  have n1 : kr ≠ kq := by omega
  have n2 : kq ≠ kr := by omega
  refine ⟨(h1.cell (by omega) _).setk h6 _, (h2.cell n1 _).same _, ?_, ?_, ?_, h6, h7⟩
  · simp [At4, go_sem, *]
  · intro o; simp [World.frozen?_setCell, h4 o]
  · simpa [World.setCell] using h5
theorem LW.put1 {w w1 : World} {kr kq : Nat} {H low D P c0 c1 c2 c3 : Int} (h : LW w w1 kr kq H low D P c0 c1 c2 c3) (q P' : Int) : LW w (st4 (w1.setCell ⟨kq, 1, none⟩ (.int .u64 q)) kr P') kr kq H low D P' c0 q c2 c3 := by
  obtain ⟨h1, h2, ⟨d0, d1, d2, d3⟩, h4, h5, h6, h7⟩ := h
  have n1 : kr ≠ kq := by omega
  have n2 : kq ≠ kr := by omega
  refine ⟨(h1.cell (by omega) _).setk h6 _, (h2.cell n1 _).same _, ?_, ?_, ?_, h6, h7⟩
  · simp [At4, go_sem, *]
  · intro o; simp [World.frozen?_setCell, h4 o]
  · simpa [World.setCell] using h5
theorem LW.put2 {w w1 : World} {kr kq : Nat} {H low D P c0 c1 c2 c3 : Int} (h : LW w w1 kr kq H low D P c0 c1 c2 c3) (q P' : Int) : LW w (st4 (w1.setCell ⟨kq, 2, none⟩ (.int .u64 q)) kr P') kr kq H low D P' c0 c1 q c3 := by
  obtain ⟨h1, h2, ⟨d0, d1, d2, d3⟩, h4, h5, h6, h7⟩ := h
  have n1 : kr ≠ kq := by omega
  have n2 : kq ≠ kr := by omega
  refine ⟨(h1.cell (by omega) _).setk h6 _, (h2.cell n1 _).same _, ?_, ?_, ?_, h6, h7⟩
  · simp [At4, go_sem, *]
  · intro o; simp [World.frozen?_setCell, h4 o]
  · simpa [World.setCell] using h5
theorem LW.put3 {w w1 : World} {kr kq : Nat} {H low D P c0 c1 c2 c3 : Int} (h : LW w w1 kr kq H low D P c0 c1 c2 c3) (q P' : Int) : LW w (st4 (w1.setCell ⟨kq, 3, none⟩ (.int .u64 q)) kr P') kr kq H low D P' c0 c1 c2 q := by
  obtain ⟨h1, h2, ⟨d0, d1, d2, d3⟩, h4, h5, h6, h7⟩ := h
  have n1 : kr ≠ kq := by omega
  have n2 : kq ≠ kr := by omega
  refine ⟨(h1.cell (by omega) _).setk h6 _, (h2.cell n1 _).same _, ?_, ?_, ?_, h6, h7⟩
  · simp [At4, go_sem, *]
  · intro o; simp [World.frozen?_setCell, h4 o]
  · simpa [World.setCell] using h5

set_option maxHeartbeats 4000000 in
theorem div_yes (H L D P4 D' : Int) (s : Nat) (w : World) (hH0 : 0 ≤ H) (hHM : H < MM) (hL0 : 0 ≤ L) (hLM : L < MM) (hD0 : 0 ≤ D) (hDM : D < MM) (hlt : Hid (H < D))
    (hs : 256 - bln D = (s : Int)) (hs2 : s ≤ 255) (hP4 : Hid (P4 = H * 2 ^ s + L / 2 ^ (256 - s))) (hD' : Hid (D' = D * 2 ^ s)) (hHs : Hid (0 ≤ H * 2 ^ s ∧ H * 2 ^ s < MM)) (hLs : Hid (0 ≤ L / 2 ^ (256 - s) ∧ L / 2 ^ (256 - s) < MM))
    (low q0 q1 q2 q3 P3 P2 P1 P0 : Int) (hlow : Hid (low = L * 2 ^ s % MM)) (e3 : Hid ((P4 * 18446744073709551616 + l3 low) / D' = q3)) (f3 : Hid ((P4 * 18446744073709551616 + l3 low) % D' = P3)) (e2 : Hid ((P3 * 18446744073709551616 + l2 low) / D' = q2)) (f2 : Hid ((P3 * 18446744073709551616 + l2 low) % D' = P2)) (e1 : Hid ((P2 * 18446744073709551616 + l1 low) / D' = q1)) (f1 : Hid ((P2 * 18446744073709551616 + l1 low) % D' = P1)) (e0 : Hid ((P1 * 18446744073709551616 + l0 low) / D' = q0)) (f0 : Hid ((P1 * 18446744073709551616 + l0 low) % D' = P0)) (hDM' : Hid (D' < MM)) (b4 : Hid (0 ≤ P4 ∧ P4 < D')) (b3 : Hid (0 ≤ P3 ∧ P3 < D')) (b2 : Hid (0 ≤ P2 ∧ P2 < D')) (b1 : Hid (0 ≤ P1 ∧ P1 < D')) (b0 : Hid (0 ≤ P0 ∧ P0 < D')) :
    Calls Tryz.prog 205 #[nv H, nv L, nv D] w fun e w' =>
      e = .returned (.tuple #[.agg #[.int .u64 q0, .int .u64 q1, .int .u64 q2, .int .u64 q3], nv (P0 / 2 ^ s), .bool true]) ∧ Mo w w' := by
  have s0 : (0 : Int) ≤ (s : Int) := by omega
  have s1 : (s : Int) ≤ 256 := by omega
  have s2 : (0 : Int) ≤ 256 - (s : Int) := by omega
  have s3 : 256 - (s : Int) ≤ 256 := by omega
  have hwr : IntKind.i64.wrap (256 - (s : Int)) = 256 - (s : Int) := by rw [IntKind.wrap_i64]; omega
  go_enter Tryz.func205, Tryz.ntmps205
  go_wp2_with fail
  refine (cmp15_any (l0 H) (l1 H) (l2 H) (l3 H) (l0 D) (l1 D) (l2 D) (l3 D) _ (u4_lb H) (u4_lb D)).mono ?_
  rintro e w1 ⟨rfl, hm1⟩
  rw [vl_lb H hH0 hHM, vl_lb D hD0 hDM, show cm H D = -1 from by unfold cm; rw [if_pos hlt.out]]
  have v1 := (VW.start w H L D).mo hm1
  clear hm1
  have o1 := v1.2.2.2.1.1
  obtain ⟨c0, c1, c2, c3⟩ := o1
  go_wp2_with fail
  refine (bits_any (l0 D) (l1 D) (l2 D) (l3 D) _ (u4_lb D)).mono ?_
  rintro e w2 ⟨rfl, hm2⟩
  rw [vl_lb D hD0 hDM]
  have v2 := v1.mo hm2
  clear hm2 v1 c0 c1 c2 c3
  go_upto_region 4 with fail
  go_cut [] from 23 to 25 (fun wx => VW w wx H L D')
  case first =>
    have o1 := v2.2.2.2.1.1
    obtain ⟨c0, c1, c2, c3⟩ := o1
    go_wp2_with fail
    refine (shl_any (l0 D) (l1 D) (l2 D) (l3 D) s _ (u4_lb D) s0 s1).mono ?_
    rintro e w3 ⟨rfl, hm3⟩
    rw [vl_lb D hD0 hDM, Int.toNat_natCast, ← hD'.out]
    have v3 := v2.mo hm3
    clear hm3 c0 c1 c2 c3
    have o1 := v3.2.2.2.1
    obtain ⟨⟨c0, c1, c2, c3⟩, f, z⟩ := o1
    have f := fun o => f o
    go_wp2
    go_meet
    case rel => exact v3.setd _
  case rest =>
    clear v2
    have v := hcut
    go_upto_region 5 with fail
    go_cut [10, 11] from 26 to 36 (fun s10 _ wx => ∃ k, s10 = .pointer (some ⟨k, 0, none⟩) ∧ w.heap.size + 1 + 1 + 1 + 1 < k ∧ VW w wx H L D' ∧ AtN wx k P4)
    case first =>
      have nH := v.2.1
      have nL := v.2.2.1
      have o1 := nH
      have o2 := nL
      obtain ⟨⟨c0, c1, c2, c3⟩, _, y1⟩ := o1
      obtain ⟨⟨d0, d1, d2, d3⟩, _, y2⟩ := o2
      go_region_held3 (fun w' => w'.cell? ⟨w.heap.size, 0, none⟩ = some (.int .u64 (l0 H)) ∧ w'.cell? ⟨w.heap.size, 1, none⟩ = some (.int .u64 (l1 H)) ∧ w'.cell? ⟨w.heap.size, 2, none⟩ = some (.int .u64 (l2 H)) ∧ w'.cell? ⟨w.heap.size, 3, none⟩ = some (.int .u64 (l3 H)) ∧ w'.cell? ⟨w.heap.size + 1, 0, none⟩ = some (.int .u64 (l0 L)) ∧ w'.cell? ⟨w.heap.size + 1, 1, none⟩ = some (.int .u64 (l1 L)) ∧ w'.cell? ⟨w.heap.size + 1, 2, none⟩ = some (.int .u64 (l2 L)) ∧ w'.cell? ⟨w.heap.size + 1, 3, none⟩ = some (.int .u64 (l3 L))) (simp [go_sem, World.cell?_alloc_past, *])
        (first | (go_at_call 219; refine (shl_any (l0 H) (l1 H) (l2 H) (l3 H) s _ (u4_lb H) s0 s1).mono ?_; rintro e w4 ⟨rfl, hm4⟩; rw [vl_lb H hH0 hHM, Int.toNat_natCast]; have m4 : Mo wc w4 := Mo.trans (by repeat (first | with_reducible exact Mo.refl _ | with_reducible apply Mo.drew | with_reducible apply Mo.alloc)) hm4; (try (with_reducible have k4 := At0.mk1 hm4)); obtain ⟨⟨e0, e1, e2, e3⟩, _, y3⟩ := nH.mo m4; obtain ⟨⟨f0, f1, f2, f3⟩, _, y4⟩ := nL.mo m4) | (go_at_call 220; refine (shr_any (l0 L) (l1 L) (l2 L) (l3 L) (256 - s) _ (u4_lb L) s2 s3).mono ?_; rintro e w5 ⟨rfl, hm5⟩; rw [vl_lb L hL0 hLM, show (256 - (s : Int)).toNat = 256 - s from (by omega)]; have m5 : Mo w4 w5 := Mo.trans (by repeat (first | with_reducible exact Mo.refl _ | with_reducible apply Mo.drew | with_reducible apply Mo.alloc)) hm5; (try (with_reducible have k5 := At0.mk2 hm5)); (try (with_reducible have k5 := k4.mo m5)); obtain ⟨⟨g0, g1, g2, g3⟩, _, y5⟩ := nH.mo (m4.trans m5); obtain ⟨⟨h0, h1, h2, h3⟩, _, y6⟩ := nL.mo (m4.trans m5)) | (go_at_call 207; refine (add_any _ _ _ _ _ _ _ _ _ (u4_lb _) (u4_lb _)).mono ?_; rintro e w6 ⟨rfl, hm6⟩; rw [vl_lb _ hHs.out.1 hHs.out.2, vl_lb _ hLs.out.1 hLs.out.2, ← hP4.out]; have m6 : Mo w5 w6 := Mo.trans (by repeat (first | with_reducible exact Mo.refl _ | with_reducible apply Mo.drew | with_reducible apply Mo.alloc)) hm6; (try (with_reducible have k6 := At0.mk2 hm6)); (try (with_reducible have k6 := k5.mo m6)); (try have k7 := k6); (try obtain ⟨⟨i0, i1, i2, i3⟩, ff, y9⟩ := k6); (try have ff := fun o => ff o); obtain ⟨⟨j0, j1, j2, j3⟩, _, y7⟩ := nH.mo ((m4.trans m5).trans m6); obtain ⟨⟨t0, t1, t2, t3⟩, _, y8⟩ := nL.mo ((m4.trans m5).trans m6)))
      all_goals
        go_wp2
        go_meet
        case rel =>
          have m := (m4.trans m5).trans m6
          have x1 := v.2.2.2.2.2.2.2
          have x2 := m4.size
          have x3 := m5.size
          have x4 := m6.size
          refine ⟨_, rfl, by omega, ?_, ?_⟩
          · first | exact (v.mo m).setk (by omega) _ | exact (v.mo m).mo ((Mo.refl _).alloc _ _)
          · first | exact k7.same _ | exact AtN.new _ _
    case rest =>
      clear v
      obtain ⟨kr, rfl, hkr, v, nr⟩ := hcut
      have nr0 := nr
      have o1 := v.2.2.1.1
      obtain ⟨c0, c1, c2, c3⟩ := o1
      go_wp2_with fail
      refine (shl_any (l0 L) (l1 L) (l2 L) (l3 L) s _ (u4_lb L) s0 s1).mono ?_
      rintro e w7 ⟨rfl, hm7⟩
      rw [vl_lb L hL0 hLM, Int.toNat_natCast, ← nv_mod, ← hlow.out]
      have v7 := v.mo hm7
      have n7 := nr0.mo hm7
      clear hm7 c0 c1 c2 c3 nr nr0 v
      have S0 : LW w ((st4 w7 (w.heap.size + 1) low).alloc (.cells #[.int .u64 0, .int .u64 0, .int .u64 0, .int .u64 0] 24)) kr w7.heap.size H low D' P4 0 0 0 0 := by
        have a : Mo (st4 w7 (w.heap.size + 1) low) ((st4 w7 (w.heap.size + 1) low).alloc (.cells #[.int .u64 0, .int .u64 0, .int .u64 0, .int .u64 0] 24)) := (Mo.refl _).alloc _ _
        have z := At0.new (st4 w7 (w.heap.size + 1) low)
        rw [show (st4 w7 (w.heap.size + 1) low).heap.size = w7.heap.size from by simp [World.setCell]] at z
        exact ⟨(v7.setl low).mo a, (n7.other (by omega) low).mo a, z.1, z.2.1, z.2.2, hkr, n7.2.2⟩
      have o1 := v7.2.2.1
      obtain ⟨⟨c0, c1, c2, c3⟩, f, z⟩ := o1
      have f := fun o => f o
      go_wp2
      go_loopw [13] (fun i wr => (i = .int .i64 3 ∧ LW w wr kr w7.heap.size H low D' P4 0 0 0 0) ∨ (i = .int .i64 2 ∧ LW w wr kr w7.heap.size H low D' P3 0 0 0 q3) ∨ (i = .int .i64 1 ∧ LW w wr kr w7.heap.size H low D' P2 0 0 q2 q3) ∨ (i = .int .i64 0 ∧ LW w wr kr w7.heap.size H low D' P1 0 q1 q2 q3) ∨ (i = .int .i64 (-1) ∧ LW w wr kr w7.heap.size H low D' P0 q0 q1 q2 q3)) (fun i _ => (intOf i + 1).toNat)
      case atStart => exact Or.inl ⟨rfl, S0⟩
      case round =>
        clear S0 c0 c1 c2 c3 f z v7 n7
        obtain ⟨rfl, hw⟩ | ⟨rfl, hw⟩ | ⟨rfl, hw⟩ | ⟨rfl, hw⟩ | ⟨rfl, hw⟩ := hrel
        · have hw0 := hw
          obtain ⟨⟨_, _, ⟨⟨c0, c1, c2, c3⟩, _, _⟩, ⟨⟨d0, d1, d2, d3⟩, _, _⟩, _, _⟩, ⟨⟨r0, r1, r2, r3⟩, _, _⟩, _⟩ := hw
          go_wp2
          go_region_with
            (first | (go_at_call 221; refine (divStep_n P4 (l3 low) D' _ b4.out.1 b4.out.2 hDM'.out (u_l3 low)).mono ?_; rintro e w8 ⟨rfl, hm8⟩; rw [e3.out, f3.out]; have hw1 := hw0.mo (Mo.trans (by repeat (first | with_reducible exact Mo.refl _ | with_reducible apply Mo.drew)) hm8); have hw2 := hw1; obtain ⟨⟨_, _, ⟨⟨c0, c1, c2, c3⟩, _, _⟩, ⟨⟨d0, d1, d2, d3⟩, _, _⟩, _, _⟩, ⟨⟨r0, r1, r2, r3⟩, fr, _⟩, ⟨x0, x1, x2, x3⟩, fq, _, _, _⟩ := hw2; have fr := fun o => fr o; have fq := fun o => fq o))
          all_goals
            go_wp2
            go_roundw
            case rel => exact Or.inr (Or.inl ⟨rfl, hw1.put3 _ _⟩)
            case measure => simp [intOf]
        · have hw0 := hw
          obtain ⟨⟨_, _, ⟨⟨c0, c1, c2, c3⟩, _, _⟩, ⟨⟨d0, d1, d2, d3⟩, _, _⟩, _, _⟩, ⟨⟨r0, r1, r2, r3⟩, _, _⟩, _⟩ := hw
          go_wp2
          go_region_with
            (first | (go_at_call 221; refine (divStep_n P3 (l2 low) D' _ b3.out.1 b3.out.2 hDM'.out (u_l2 low)).mono ?_; rintro e w8 ⟨rfl, hm8⟩; rw [e2.out, f2.out]; have hw1 := hw0.mo (Mo.trans (by repeat (first | with_reducible exact Mo.refl _ | with_reducible apply Mo.drew)) hm8); have hw2 := hw1; obtain ⟨⟨_, _, ⟨⟨c0, c1, c2, c3⟩, _, _⟩, ⟨⟨d0, d1, d2, d3⟩, _, _⟩, _, _⟩, ⟨⟨r0, r1, r2, r3⟩, fr, _⟩, ⟨x0, x1, x2, x3⟩, fq, _, _, _⟩ := hw2; have fr := fun o => fr o; have fq := fun o => fq o))
          all_goals
            go_wp2
            go_roundw
            case rel => exact Or.inr (Or.inr (Or.inl ⟨rfl, hw1.put2 _ _⟩))
            case measure => simp [intOf]
        · have hw0 := hw
          obtain ⟨⟨_, _, ⟨⟨c0, c1, c2, c3⟩, _, _⟩, ⟨⟨d0, d1, d2, d3⟩, _, _⟩, _, _⟩, ⟨⟨r0, r1, r2, r3⟩, _, _⟩, _⟩ := hw
          go_wp2
          go_region_with
            (first | (go_at_call 221; refine (divStep_n P2 (l1 low) D' _ b2.out.1 b2.out.2 hDM'.out (u_l1 low)).mono ?_; rintro e w8 ⟨rfl, hm8⟩; rw [e1.out, f1.out]; have hw1 := hw0.mo (Mo.trans (by repeat (first | with_reducible exact Mo.refl _ | with_reducible apply Mo.drew)) hm8); have hw2 := hw1; obtain ⟨⟨_, _, ⟨⟨c0, c1, c2, c3⟩, _, _⟩, ⟨⟨d0, d1, d2, d3⟩, _, _⟩, _, _⟩, ⟨⟨r0, r1, r2, r3⟩, fr, _⟩, ⟨x0, x1, x2, x3⟩, fq, _, _, _⟩ := hw2; have fr := fun o => fr o; have fq := fun o => fq o))
          all_goals
            go_wp2
            go_roundw
            case rel => exact Or.inr (Or.inr (Or.inr (Or.inl ⟨rfl, hw1.put1 _ _⟩)))
            case measure => simp [intOf]
        · have hw0 := hw
          obtain ⟨⟨_, _, ⟨⟨c0, c1, c2, c3⟩, _, _⟩, ⟨⟨d0, d1, d2, d3⟩, _, _⟩, _, _⟩, ⟨⟨r0, r1, r2, r3⟩, _, _⟩, _⟩ := hw
          go_wp2
          go_region_with
            (first | (go_at_call 221; refine (divStep_n P1 (l0 low) D' _ b1.out.1 b1.out.2 hDM'.out (u_l0 low)).mono ?_; rintro e w8 ⟨rfl, hm8⟩; rw [e0.out, f0.out]; have hw1 := hw0.mo (Mo.trans (by repeat (first | with_reducible exact Mo.refl _ | with_reducible apply Mo.drew)) hm8); have hw2 := hw1; obtain ⟨⟨_, _, ⟨⟨c0, c1, c2, c3⟩, _, _⟩, ⟨⟨d0, d1, d2, d3⟩, _, _⟩, _, _⟩, ⟨⟨r0, r1, r2, r3⟩, fr, _⟩, ⟨x0, x1, x2, x3⟩, fq, _, _, _⟩ := hw2; have fr := fun o => fr o; have fq := fun o => fq o))
          all_goals
            go_wp2
            go_roundw
            case rel => exact Or.inr (Or.inr (Or.inr (Or.inr ⟨rfl, hw1.put0 _ _⟩)))
            case measure => simp [intOf]
        · have hw0 := hw
          obtain ⟨⟨k1, _, _, _, ⟨⟨c0, c1, c2, c3⟩, fc, _⟩, ⟨⟨d0, d1, d2, d3⟩, fd, _⟩⟩, ⟨⟨r0, r1, r2, r3⟩, _, _⟩, ⟨x0, x1, x2, x3⟩, _⟩ := hw
          go_wp2
          go_cut [8] from 55 to 58 (fun s8 wx => s8 = .bool true ∧ At4 wx (w.heap.size + 1 + 1 + 1) q0 q1 q2 q3 ∧ AtN wx (w.heap.size + 1 + 1 + 1 + 1) (P0 / 2 ^ s) ∧ Mo w wx)
          case first =>
            go_region_held3 (fun w' => w'.cell? ⟨w7.heap.size, 0, none⟩ = some (.int .u64 q0) ∧ w'.cell? ⟨w7.heap.size, 1, none⟩ = some (.int .u64 q1) ∧ w'.cell? ⟨w7.heap.size, 2, none⟩ = some (.int .u64 q2) ∧ w'.cell? ⟨w7.heap.size, 3, none⟩ = some (.int .u64 q3) ∧ w'.cell? ⟨kr, 0, none⟩ = some (.int .u64 (l0 P0)) ∧ w'.cell? ⟨kr, 1, none⟩ = some (.int .u64 (l1 P0)) ∧ w'.cell? ⟨kr, 2, none⟩ = some (.int .u64 (l2 P0)) ∧ w'.cell? ⟨kr, 3, none⟩ = some (.int .u64 (l3 P0))) (simp [go_sem, *])
              (first | (go_at_call 220; refine (shr_any (l0 P0) (l1 P0) (l2 P0) (l3 P0) s _ (u4_lb P0) s0 s1).mono ?_; rintro e w9 ⟨rfl, hm9⟩; rw [vl_lb P0 b0.out.1 (Int.lt_trans b0.out.2 hDM'.out), Int.toNat_natCast]; have hw1 := hw0.mo (Mo.trans (by repeat (first | with_reducible exact Mo.refl _ | with_reducible apply Mo.drew)) hm9); have hw2 := hw1; obtain ⟨⟨k1, _, _, _, ⟨⟨c0, c1, c2, c3⟩, fc, zc⟩, ⟨⟨d0, d1, d2, d3⟩, fd, zd⟩⟩, ⟨⟨r0, r1, r2, r3⟩, _, _⟩, ⟨x0, x1, x2, x3⟩, _, _, zq, zr⟩ := hw2; have fc := fun o => fc o; have fd := fun o => fd o; have n1 : ¬ kr = w.heap.size + 1 + 1 + 1 := (by omega); have n2 : ¬ kr = w.heap.size + 1 + 1 + 1 + 1 := (by omega); have n3 : ¬ w7.heap.size = w.heap.size + 1 + 1 + 1 := (by omega); have n4 : ¬ w7.heap.size = w.heap.size + 1 + 1 + 1 + 1 := (by omega)))
            go_wp2
            go_meet
            case rel =>
              have le1 : w.heap.size ≤ w.heap.size + 1 + 1 + 1 := by omega
              have le2 : w.heap.size ≤ w.heap.size + 1 + 1 + 1 + 1 := by omega
              refine ⟨rfl, by simp [At4, go_sem, c0, c1, c2, c3], ⟨by simp [At4, go_sem, d0, d1, d2, d3], fun o => by simp [World.frozen?_setCell, fd o], by simpa [World.setCell] using zd⟩, ?_⟩
              repeat (first | with_reducible exact k1 | with_reducible apply Mo.drew | with_reducible refine Mo.setCell ?_ le1 _ | with_reducible refine Mo.setCell ?_ le2 _)
          case rest =>
            obtain ⟨rfl, ⟨a0, a1, a2, a3⟩, ⟨⟨g0, g1, g2, g3⟩, _, _⟩, hmo⟩ := hcut
            go_wp2
            refine bodyPost_ret (v := .tuple #[.agg #[.int .u64 q0, .int .u64 q1, .int .u64 q2, .int .u64 q3], nv (P0 / 2 ^ s), .bool true]) (by simp [results, Tryz.results205, go_sem, a0, a1, a2, a3, g0, g1, g2, g3]) rfl ?_
            exact ⟨rfl, hmo⟩

set_option maxHeartbeats 1000000 in
theorem div_no (H L D : Int) (w : World) (hH0 : 0 ≤ H) (hHM : H < MM) (hD0 : 0 ≤ D) (hDM : D < MM) (hge : D ≤ H) :
    Calls Tryz.prog 205 #[nv H, nv L, nv D] w fun e w' =>
      e = .returned (.tuple #[.agg #[.int .u64 0, .int .u64 0, .int .u64 0, .int .u64 0], .agg #[.int .u64 0, .int .u64 0, .int .u64 0, .int .u64 0], .bool false]) ∧ Mo w w' := by
  have hc : cm H D = 0 ∨ cm H D = 1 := by unfold cm; rw [if_neg (by omega)]; split <;> simp
  have z0 : l0 0 = 0 := by decide
  have z1 : l1 0 = 0 := by decide
  have z2 : l2 0 = 0 := by decide
  have z3 : l3 0 = 0 := by decide
  rcases hc with hc | hc
  all_goals
    have Hc : Hid _ := hc
    clear hc
    go_enter Tryz.func205, Tryz.ntmps205
    go_wp2_with fail
    refine (cmp15_any (l0 H) (l1 H) (l2 H) (l3 H) (l0 D) (l1 D) (l2 D) (l3 D) _ (u4_lb H) (u4_lb D)).mono ?_
    rintro e w1 ⟨rfl, hm1⟩
    rw [vl_lb H hH0 hHM, vl_lb D hD0 hDM, Hc.out]
    have v1 := (VW.start w H L D).mo hm1
    clear hm1
    obtain ⟨m1, _, _, _, ⟨⟨c0, c1, c2, c3⟩, fc, zc⟩, ⟨⟨d0, d1, d2, d3⟩, fd, zd⟩⟩ := v1
    rw [z0] at c0 d0; rw [z1] at c1 d1; rw [z2] at c2 d2; rw [z3] at c3 d3
    have fc := fun o => fc o
    have fd := fun o => fd o
    go_wp2
    refine bodyPost_ret (v := .tuple #[.agg #[.int .u64 0, .int .u64 0, .int .u64 0, .int .u64 0], .agg #[.int .u64 0, .int .u64 0, .int .u64 0, .int .u64 0], .bool false]) (by simp [results, Tryz.results205, go_sem, c0, c1, c2, c3, d0, d1, d2, d3]) rfl ?_
    refine ⟨rfl, ?_⟩
    have le1 : w.heap.size ≤ w.heap.size + 1 + 1 + 1 := by omega
    have le2 : w.heap.size ≤ w.heap.size + 1 + 1 + 1 + 1 := by omega
    repeat (first | with_reducible exact m1 | with_reducible apply Mo.drew | with_reducible refine Mo.setCell ?_ le1 _ | with_reducible refine Mo.setCell ?_ le2 _)

/-- What Div answers. -/
def dq (H L D : Int) : Int := if D ≤ H then 0 else (H * MM + L) / D
def dr (H L D : Int) : Int := if D ≤ H then 0 else (H * MM + L) % D
def dok (H D : Int) : Bool := decide (H < D)
theorem div_any (h0 h1 h2 h3 l0' l1' l2' l3' d0 d1 d2 d3 : Int) (w : World) (hh : U4 h0 h1 h2 h3) (hl : U4 l0' l1' l2' l3') (hd : U4 d0 d1 d2 d3) :
    Calls Tryz.prog 205 #[.agg #[.int .u64 h0, .int .u64 h1, .int .u64 h2, .int .u64 h3], .agg #[.int .u64 l0', .int .u64 l1', .int .u64 l2', .int .u64 l3'], .agg #[.int .u64 d0, .int .u64 d1, .int .u64 d2, .int .u64 d3]] w fun e w' =>
      e = .returned (.tuple #[nv (dq (vl h0 h1 h2 h3) (vl l0' l1' l2' l3') (vl d0 d1 d2 d3)), nv (dr (vl h0 h1 h2 h3) (vl l0' l1' l2' l3') (vl d0 d1 d2 d3)), .bool (dok (vl h0 h1 h2 h3) (vl d0 d1 d2 d3))]) ∧ Mo w w' := by
  obtain ⟨a1, a2⟩ := vl_bd hh
  obtain ⟨b1, b2⟩ := vl_bd hl
  obtain ⟨c1, c2⟩ := vl_bd hd
  rw [← nv_vl hh, ← nv_vl hl, ← nv_vl hd]
  generalize vl h0 h1 h2 h3 = H at *
  generalize vl l0' l1' l2' l3' = L at *
  generalize vl d0 d1 d2 d3 = D at *
  by_cases hge : D ≤ H
  · have e1 : nv (dq H L D) = .agg #[.int .u64 0, .int .u64 0, .int .u64 0, .int .u64 0] := by unfold dq; rw [if_pos hge]; simp [nv, l0, l1, l2, l3]
    have e2 : nv (dr H L D) = .agg #[.int .u64 0, .int .u64 0, .int .u64 0, .int .u64 0] := by unfold dr; rw [if_pos hge]; simp [nv, l0, l1, l2, l3]
    have e3 : dok H D = false := decide_eq_false (by omega)
    rw [e1, e2, e3]
    exact div_no H L D w a1 a2 c1 c2 hge
  · have hlt : H < D := by omega
    obtain ⟨s, hs, hs2, m1, m2⟩ := dshift (D := D) (by omega) c2
    obtain ⟨p1, p2, p3, p4⟩ := shifted (s := s) (H := H) (L := L) (D := D) hs2 a1 hlt b1 b2
    have low0 : 0 ≤ L * 2 ^ s % MM := Int.emod_nonneg _ (by decide)
    have low1 : L * 2 ^ s % MM < MM := Int.emod_lt_of_pos _ (by decide)
    obtain ⟨u, w3, w2, w1, w0, k1, k2⟩ := steps_eq p1 p2 low0 low1 rfl rfl rfl rfl rfl rfl rfl rfl
    have hP : (0 : Int) < 2 ^ s := Int.pow_pos (by decide)
    have hQ : (0 : Int) < 2 ^ (256 - s) := Int.pow_pos (by decide)
    have q1 : 0 ≤ H * 2 ^ s := Int.mul_nonneg a1 (by omega)
    have q2 : 0 ≤ L / 2 ^ (256 - s) := Int.ediv_nonneg b1 (by omega)
    have e3 : dok H D = true := decide_eq_true hlt
    have e1 : dq H L D = (H * MM + L) / D := if_neg hge
    have e2 : dr H L D = (H * MM + L) % D := if_neg hge
    rw [e1, e2, e3, ← k1.trans p3, nv_vl u, ← p4, ← k2]
    exact div_yes H L D _ _ s w a1 a2 b1 b2 c1 c2 hlt hs hs2 rfl rfl ⟨q1, by omega⟩ ⟨q2, by omega⟩ _ _ _ _ _ _ _ _ _ rfl rfl rfl rfl rfl rfl rfl rfl rfl m1 ⟨p1, p2⟩ w3 w2 w1 w0
/-- The world between two rows: what lies in the blocks of the call. -/
def MW (w wr : World) (a0 a1 a2 a3 x0 x1 x2 x3 x4 x5 x6 x7 : Int) : Prop := Mo w wr ∧ w.heap.size + 1 + 1 + 1 + 1 < wr.heap.size ∧ At4 wr w.heap.size a0 a1 a2 a3 ∧ At4 wr (w.heap.size + 1 + 1) 0 0 0 0 ∧ At4 wr (w.heap.size + 1 + 1 + 1) 0 0 0 0 ∧ At8 wr (w.heap.size + 1 + 1 + 1 + 1) x0 x1 x2 x3 x4 x5 x6 x7 ∧ Fz wr (w.heap.size + 1 + 1) ∧ Fz wr (w.heap.size + 1 + 1 + 1) ∧ Fz wr (w.heap.size + 1 + 1 + 1 + 1)
theorem MW.mo {w wr w1 : World} {a0 a1 a2 a3 x0 x1 x2 x3 x4 x5 x6 x7 : Int} (h : MW w wr a0 a1 a2 a3 x0 x1 x2 x3 x4 x5 x6 x7) (m : Mo wr w1) : MW w w1 a0 a1 a2 a3 x0 x1 x2 x3 x4 x5 x6 x7 := by
  obtain ⟨h1, h2, h3, h4, h5, h6, h7, h8, h9⟩ := h
  have := m.size
  exact ⟨h1.trans m, by omega, h3.mo m (by omega), h4.mo m (by omega), h5.mo m (by omega), h6.mo m (by omega), h7.mo m, h8.mo m, h9.mo m⟩

theorem At4.set {w : World} {k k' : Nat} {a b c d : Int} (h : At4 w k a b c d) (hk : k ≠ k') (o : Nat) (v : Value) : At4 (w.setCell ⟨k', o, none⟩ v) k a b c d := by
  obtain ⟨h0, h1, h2, h3⟩ := h
  have e : ∀ j, (w.setCell ⟨k', o, none⟩ v).cell? ⟨k, j, none⟩ = w.cell? ⟨k, j, none⟩ := fun j => World.cell?_of_block (Below.heap_setCell _ _ _ _ hk)
  exact ⟨(e 0).trans h0, (e 1).trans h1, (e 2).trans h2, (e 3).trans h3⟩
theorem Fz.set {w : World} {k : Nat} (h : Fz w k) (a : Addr) (v : Value) : Fz (w.setCell a v) k := fun o => (World.frozen?_setCell _ _ _ _).trans (h o)
theorem MW.put0 {w w1 : World} {a0 a1 a2 a3 x0 x1 x2 x3 x4 x5 x6 x7 : Int} (h : MW w w1 a0 a1 a2 a3 x0 x1 x2 x3 x4 x5 x6 x7) (y : Int) : MW w (w1.setCell ⟨w.heap.size + 1 + 1 + 1 + 1, 0, none⟩ (.int .u64 y)) a0 a1 a2 a3 y x1 x2 x3 x4 x5 x6 x7 := by
  obtain ⟨h1, h2, h3, h4, h5, h6, h7, h8, h9⟩ := h
  refine ⟨h1.setCell (by show w.heap.size ≤ w.heap.size + 1 + 1 + 1 + 1; omega) _, by simpa [World.setCell] using h2, h3.set (by omega) _ _, h4.set (by omega) _ _, h5.set (by omega) _ _, ?_, h7.set _ _, h8.set _ _, h9.set _ _⟩
  obtain ⟨d0, d1, d2, d3, d4, d5, d6, d7⟩ := h6
  simp [At8, go_sem, *]
theorem MW.put1 {w w1 : World} {a0 a1 a2 a3 x0 x1 x2 x3 x4 x5 x6 x7 : Int} (h : MW w w1 a0 a1 a2 a3 x0 x1 x2 x3 x4 x5 x6 x7) (y : Int) : MW w (w1.setCell ⟨w.heap.size + 1 + 1 + 1 + 1, 1, none⟩ (.int .u64 y)) a0 a1 a2 a3 x0 y x2 x3 x4 x5 x6 x7 := by
  obtain ⟨h1, h2, h3, h4, h5, h6, h7, h8, h9⟩ := h
  refine ⟨h1.setCell (by show w.heap.size ≤ w.heap.size + 1 + 1 + 1 + 1; omega) _, by simpa [World.setCell] using h2, h3.set (by omega) _ _, h4.set (by omega) _ _, h5.set (by omega) _ _, ?_, h7.set _ _, h8.set _ _, h9.set _ _⟩
  obtain ⟨d0, d1, d2, d3, d4, d5, d6, d7⟩ := h6
  simp [At8, go_sem, *]
theorem MW.put2 {w w1 : World} {a0 a1 a2 a3 x0 x1 x2 x3 x4 x5 x6 x7 : Int} (h : MW w w1 a0 a1 a2 a3 x0 x1 x2 x3 x4 x5 x6 x7) (y : Int) : MW w (w1.setCell ⟨w.heap.size + 1 + 1 + 1 + 1, 2, none⟩ (.int .u64 y)) a0 a1 a2 a3 x0 x1 y x3 x4 x5 x6 x7 := by
  obtain ⟨h1, h2, h3, h4, h5, h6, h7, h8, h9⟩ := h
  refine ⟨h1.setCell (by show w.heap.size ≤ w.heap.size + 1 + 1 + 1 + 1; omega) _, by simpa [World.setCell] using h2, h3.set (by omega) _ _, h4.set (by omega) _ _, h5.set (by omega) _ _, ?_, h7.set _ _, h8.set _ _, h9.set _ _⟩
  obtain ⟨d0, d1, d2, d3, d4, d5, d6, d7⟩ := h6
  simp [At8, go_sem, *]
theorem MW.put3 {w w1 : World} {a0 a1 a2 a3 x0 x1 x2 x3 x4 x5 x6 x7 : Int} (h : MW w w1 a0 a1 a2 a3 x0 x1 x2 x3 x4 x5 x6 x7) (y : Int) : MW w (w1.setCell ⟨w.heap.size + 1 + 1 + 1 + 1, 3, none⟩ (.int .u64 y)) a0 a1 a2 a3 x0 x1 x2 y x4 x5 x6 x7 := by
  obtain ⟨h1, h2, h3, h4, h5, h6, h7, h8, h9⟩ := h
  refine ⟨h1.setCell (by show w.heap.size ≤ w.heap.size + 1 + 1 + 1 + 1; omega) _, by simpa [World.setCell] using h2, h3.set (by omega) _ _, h4.set (by omega) _ _, h5.set (by omega) _ _, ?_, h7.set _ _, h8.set _ _, h9.set _ _⟩
  obtain ⟨d0, d1, d2, d3, d4, d5, d6, d7⟩ := h6
  simp [At8, go_sem, *]
theorem MW.put4 {w w1 : World} {a0 a1 a2 a3 x0 x1 x2 x3 x4 x5 x6 x7 : Int} (h : MW w w1 a0 a1 a2 a3 x0 x1 x2 x3 x4 x5 x6 x7) (y : Int) : MW w (w1.setCell ⟨w.heap.size + 1 + 1 + 1 + 1, 4, none⟩ (.int .u64 y)) a0 a1 a2 a3 x0 x1 x2 x3 y x5 x6 x7 := by
  obtain ⟨h1, h2, h3, h4, h5, h6, h7, h8, h9⟩ := h
  refine ⟨h1.setCell (by show w.heap.size ≤ w.heap.size + 1 + 1 + 1 + 1; omega) _, by simpa [World.setCell] using h2, h3.set (by omega) _ _, h4.set (by omega) _ _, h5.set (by omega) _ _, ?_, h7.set _ _, h8.set _ _, h9.set _ _⟩
  obtain ⟨d0, d1, d2, d3, d4, d5, d6, d7⟩ := h6
  simp [At8, go_sem, *]
theorem MW.put5 {w w1 : World} {a0 a1 a2 a3 x0 x1 x2 x3 x4 x5 x6 x7 : Int} (h : MW w w1 a0 a1 a2 a3 x0 x1 x2 x3 x4 x5 x6 x7) (y : Int) : MW w (w1.setCell ⟨w.heap.size + 1 + 1 + 1 + 1, 5, none⟩ (.int .u64 y)) a0 a1 a2 a3 x0 x1 x2 x3 x4 y x6 x7 := by
  obtain ⟨h1, h2, h3, h4, h5, h6, h7, h8, h9⟩ := h
  refine ⟨h1.setCell (by show w.heap.size ≤ w.heap.size + 1 + 1 + 1 + 1; omega) _, by simpa [World.setCell] using h2, h3.set (by omega) _ _, h4.set (by omega) _ _, h5.set (by omega) _ _, ?_, h7.set _ _, h8.set _ _, h9.set _ _⟩
  obtain ⟨d0, d1, d2, d3, d4, d5, d6, d7⟩ := h6
  simp [At8, go_sem, *]
theorem MW.put6 {w w1 : World} {a0 a1 a2 a3 x0 x1 x2 x3 x4 x5 x6 x7 : Int} (h : MW w w1 a0 a1 a2 a3 x0 x1 x2 x3 x4 x5 x6 x7) (y : Int) : MW w (w1.setCell ⟨w.heap.size + 1 + 1 + 1 + 1, 6, none⟩ (.int .u64 y)) a0 a1 a2 a3 x0 x1 x2 x3 x4 x5 y x7 := by
  obtain ⟨h1, h2, h3, h4, h5, h6, h7, h8, h9⟩ := h
  refine ⟨h1.setCell (by show w.heap.size ≤ w.heap.size + 1 + 1 + 1 + 1; omega) _, by simpa [World.setCell] using h2, h3.set (by omega) _ _, h4.set (by omega) _ _, h5.set (by omega) _ _, ?_, h7.set _ _, h8.set _ _, h9.set _ _⟩
  obtain ⟨d0, d1, d2, d3, d4, d5, d6, d7⟩ := h6
  simp [At8, go_sem, *]
theorem MW.put7 {w w1 : World} {a0 a1 a2 a3 x0 x1 x2 x3 x4 x5 x6 x7 : Int} (h : MW w w1 a0 a1 a2 a3 x0 x1 x2 x3 x4 x5 x6 x7) (y : Int) : MW w (w1.setCell ⟨w.heap.size + 1 + 1 + 1 + 1, 7, none⟩ (.int .u64 y)) a0 a1 a2 a3 x0 x1 x2 x3 x4 x5 x6 y := by
  obtain ⟨h1, h2, h3, h4, h5, h6, h7, h8, h9⟩ := h
  refine ⟨h1.setCell (by show w.heap.size ≤ w.heap.size + 1 + 1 + 1 + 1; omega) _, by simpa [World.setCell] using h2, h3.set (by omega) _ _, h4.set (by omega) _ _, h5.set (by omega) _ _, ?_, h7.set _ _, h8.set _ _, h9.set _ _⟩
  obtain ⟨d0, d1, d2, d3, d4, d5, d6, d7⟩ := h6
  simp [At8, go_sem, *]

set_option maxHeartbeats 4000000 in
theorem mul_raw (a0 a1 a2 a3 b0 b1 b2 b3 Y0 Y1 Y2 Y3 : Int) (w : World) (ha : U4 a0 a1 a2 a3) (hb : U4 b0 b1 b2 b3) (hY0 : Hid (Y0 = vl a0 a1 a2 a3 * b0)) (hY1 : Hid (Y1 = Y0 / 18446744073709551616 + vl a0 a1 a2 a3 * b1)) (hY2 : Hid (Y2 = Y1 / 18446744073709551616 + vl a0 a1 a2 a3 * b2)) (hY3 : Hid (Y3 = Y2 / 18446744073709551616 + vl a0 a1 a2 a3 * b3)) :
    Calls Tryz.prog 204 #[.agg #[.int .u64 a0, .int .u64 a1, .int .u64 a2, .int .u64 a3], .agg #[.int .u64 b0, .int .u64 b1, .int .u64 b2, .int .u64 b3]] w fun e w' =>
      e = .returned (.tuple #[.agg #[.int .u64 (l1 Y3), .int .u64 (l2 Y3), .int .u64 (l3 Y3), .int .u64 (l0 (Y3 / MM))], .agg #[.int .u64 (l0 Y0), .int .u64 (l0 Y1), .int .u64 (l0 Y2), .int .u64 (l0 Y3)]]) ∧ Mo w w' := by
  have hv := vl_bd ha
  have hb' := hb
  obtain ⟨g0, g1, g2, g3⟩ := hb'
  have pb0 := pbd hv.1 hv.2 g0
  have pb1 := pbd hv.1 hv.2 g1
  have pb2 := pbd hv.1 hv.2 g2
  have pb3 := pbd hv.1 hv.2 g3
  have yb0 : 0 ≤ Y0 ∧ Y0 < 2135987035920910082395021706169552114602704522356652769947041607822219725780640550022962086936576 := by have := hY0.out; omega
  have yb1 := ybd yb0.1 yb0.2 pb1.1 pb1.2 hY1.out
  have yb2 := ybd yb1.1 yb1.2 pb2.1 pb2.2 hY2.out
  have HB : Hid ((0 ≤ Y0 ∧ Y0 < 2135987035920910082395021706169552114602704522356652769947041607822219725780640550022962086936576) ∧ (0 ≤ Y1 ∧ Y1 < 2135987035920910082395021706169552114602704522356652769947041607822219725780640550022962086936576) ∧ (0 ≤ Y2 ∧ Y2 < 2135987035920910082395021706169552114602704522356652769947041607822219725780640550022962086936576)) := ⟨yb0, yb1, yb2⟩
  have HP : Hid (vl a0 a1 a2 a3 * b0 ≤ 2135987035920910082395021706169552114602704522356652769947041607822219725780640550022962086936576 - 115792089237316195423570985008687907853269984665640564039457584007913129639936 ∧ vl a0 a1 a2 a3 * b1 ≤ 2135987035920910082395021706169552114602704522356652769947041607822219725780640550022962086936576 - 115792089237316195423570985008687907853269984665640564039457584007913129639936 ∧ vl a0 a1 a2 a3 * b2 ≤ 2135987035920910082395021706169552114602704522356652769947041607822219725780640550022962086936576 - 115792089237316195423570985008687907853269984665640564039457584007913129639936 ∧ vl a0 a1 a2 a3 * b3 ≤ 2135987035920910082395021706169552114602704522356652769947041607822219725780640550022962086936576 - 115792089237316195423570985008687907853269984665640564039457584007913129639936) := ⟨by omega, by omega, by omega, by omega⟩
  have HQ : Hid (0 ≤ vl a0 a1 a2 a3 * b0 ∧ 0 ≤ vl a0 a1 a2 a3 * b1 ∧ 0 ≤ vl a0 a1 a2 a3 * b2 ∧ 0 ≤ vl a0 a1 a2 a3 * b3) := ⟨pb0.1, pb1.1, pb2.1, pb3.1⟩
  clear pb0 pb1 pb2 pb3 yb0 yb1 yb2 hv
  have ix0 := idx0
  have ix1 := idx1
  have ix2 := idx2
  have ix3 := idx3
  go_enter Tryz.func204, Tryz.ntmps204
  go_wp2
  go_loopw [17] (fun i wr => (i = .int .i64 0 ∧ MW w wr a0 a1 a2 a3 0 0 0 0 0 0 0 0) ∨ (i = .int .i64 1 ∧ MW w wr a0 a1 a2 a3 (l0 Y0) (l1 Y0) (l2 Y0) (l3 Y0) (l0 (Y0 / MM)) 0 0 0) ∨ (i = .int .i64 2 ∧ MW w wr a0 a1 a2 a3 (l0 Y0) (l0 Y1) (l1 Y1) (l2 Y1) (l3 Y1) (l0 (Y1 / MM)) 0 0) ∨ (i = .int .i64 3 ∧ MW w wr a0 a1 a2 a3 (l0 Y0) (l0 Y1) (l0 Y2) (l1 Y2) (l2 Y2) (l3 Y2) (l0 (Y2 / MM)) 0) ∨ (i = .int .i64 4 ∧ MW w wr a0 a1 a2 a3 (l0 Y0) (l0 Y1) (l0 Y2) (l0 Y3) (l1 Y3) (l2 Y3) (l3 Y3) (l0 (Y3 / MM)))) (fun i _ => 4 - (intOf i).toNat)
  case atStart =>
    refine Or.inl ⟨rfl, ?_⟩
    refine ⟨by repeat (first | with_reducible exact Mo.refl _ | with_reducible apply Mo.drew | with_reducible apply Mo.drewN | with_reducible apply Mo.alloc | with_reducible refine Mo.setCell ?_ (by simp <;> omega) _ | with_reducible refine Mo.trans ?_ (by with_reducible assumption)), by simp, ?_, ?_, ?_, ?_, ?_, ?_, ?_⟩
    · simp [At4, go_sem]
    · simp [At4, go_sem]
    · simp [At4, go_sem]
    · simp [At8, go_sem]
    · intro o; simp [go_sem]
    · intro o; simp [go_sem]
    · intro o; simp [go_sem]
  case round =>
    obtain ⟨rfl, hw⟩ | ⟨rfl, hw⟩ | ⟨rfl, hw⟩ | ⟨rfl, hw⟩ | ⟨rfl, hw⟩ := hrel
    · have hw0 := hw
      obtain ⟨k0, k1, ⟨A0, A1, A2, A3⟩, _⟩ := hw
      go_wp2_with fail
      refine (mulLimb_any a0 a1 a2 a3 b0 _ ha g0).mono ?_
      rintro e w1 ⟨rfl, hm⟩
      have hw1 := hw0.mo hm
      have hw2 := hw1
      clear A0 A1 A2 A3 k0 k1
      obtain ⟨k0, k1, ⟨A0, A1, A2, A3⟩, ⟨B0, B1, B2, B3⟩, ⟨C0, C1, C2, C3⟩, ⟨D0, D1, D2, D3, D4, D5, D6, D7⟩, F1, F2, F3⟩ := hw1
      have F1 := fun o => F1 o
      have F2 := fun o => F2 o
      have F3 := fun o => F3 o
      obtain ⟨E0, E1, E2, E3, E4, E5, E6, E7, E8x⟩ := rnd0 (p := (vl a0 a1 a2 a3 * b0)) HQ.out.1 HP.out.1
      have E8 : Hid _ := E8x
      clear E8x
      obtain ⟨m4, n4⟩ := rnd0b (p := (vl a0 a1 a2 a3 * b0)) HQ.out.1 HP.out.1
      go_wp2_with fail
      refine wp_loop_rounds 5 ?_
      rw [rounds_succ]
      go_wp2_with (simp only [add64_0 0 (l0 (vl a0 a1 a2 a3 * b0)) (Int.le_refl 0) (u_l0 _).1])
      rw [rounds_succ]
      go_wp2_with (simp only [add64_0 0 (l1 (vl a0 a1 a2 a3 * b0)) (Int.le_refl 0) (u_l1 _).1])
      rw [rounds_succ]
      go_wp2_with (simp only [add64_0 0 (l2 (vl a0 a1 a2 a3 * b0)) (Int.le_refl 0) (u_l2 _).1])
      rw [rounds_succ]
      go_wp2_with (simp only [add64_0 0 (l3 (vl a0 a1 a2 a3 * b0)) (Int.le_refl 0) (u_l3 _).1])
      rw [rounds_succ]
      go_wp2
      go_roundw
      case rel =>
        refine Or.inr (Or.inl ⟨rfl, ?_⟩)
        rw [hY0.out, ← E8.out]
        exact (((((hw2.put0 _).put1 _).put2 _).put3 _).put4 _).mo ((Mo.refl _).alloc _ _)
      case measure => simp [intOf]
    · have hw0 := hw
      obtain ⟨k0, k1, ⟨A0, A1, A2, A3⟩, _⟩ := hw
      go_wp2_with fail
      refine (mulLimb_any a0 a1 a2 a3 b1 _ ha g1).mono ?_
      rintro e w1 ⟨rfl, hm⟩
      have hw1 := hw0.mo hm
      have hw2 := hw1
      clear A0 A1 A2 A3 k0 k1
      obtain ⟨k0, k1, ⟨A0, A1, A2, A3⟩, ⟨B0, B1, B2, B3⟩, ⟨C0, C1, C2, C3⟩, ⟨D0, D1, D2, D3, D4, D5, D6, D7⟩, F1, F2, F3⟩ := hw1
      have F1 := fun o => F1 o
      have F2 := fun o => F2 o
      have F3 := fun o => F3 o
      obtain ⟨c1, c2, c3, c4, E0, E1, E2, E3, E4, E5, E6, E7, E8, ⟨m1, n1⟩, ⟨m2, n2⟩, ⟨m3, n3⟩, m4, n4⟩ := rnd (Y := Y1) ⟨u_l1 Y0, u_l2 Y0, u_l3 Y0, u_l0 (Y0 / MM)⟩ (up HB.out.1.1 HB.out.1.2) HQ.out.2.1 HP.out.2.1 hY1.out
      go_wp2_with fail
      refine wp_loop_rounds 5 ?_
      rw [rounds_succ]
      go_wp2_with (simp only [add64_0 (l1 Y0) (l0 (vl a0 a1 a2 a3 * b1)) (u_l1 _).1 (u_l0 _).1])
      rw [rounds_succ]
      go_wp2_with (simp only [add64 (l2 Y0) (l1 (vl a0 a1 a2 a3 * b1)) c1 (u_l2 _).1 (u_l1 _).1 m1 n1])
      rw [rounds_succ]
      go_wp2_with (simp only [add64 (l3 Y0) (l2 (vl a0 a1 a2 a3 * b1)) c2 (u_l3 _).1 (u_l2 _).1 m2 n2])
      rw [rounds_succ]
      go_wp2_with (simp only [add64 (l0 (Y0 / MM)) (l3 (vl a0 a1 a2 a3 * b1)) c3 (u_l0 _).1 (u_l3 _).1 m3 n3])
      rw [rounds_succ]
      go_wp2
      go_roundw
      case rel =>
        refine Or.inr (Or.inr (Or.inl ⟨rfl, ?_⟩))
        exact (((((hw2.put1 _).put2 _).put3 _).put4 _).put5 _).mo ((Mo.refl _).alloc _ _)
      case measure => simp [intOf]
    · have hw0 := hw
      obtain ⟨k0, k1, ⟨A0, A1, A2, A3⟩, _⟩ := hw
      go_wp2_with fail
      refine (mulLimb_any a0 a1 a2 a3 b2 _ ha g2).mono ?_
      rintro e w1 ⟨rfl, hm⟩
      have hw1 := hw0.mo hm
      have hw2 := hw1
      clear A0 A1 A2 A3 k0 k1
      obtain ⟨k0, k1, ⟨A0, A1, A2, A3⟩, ⟨B0, B1, B2, B3⟩, ⟨C0, C1, C2, C3⟩, ⟨D0, D1, D2, D3, D4, D5, D6, D7⟩, F1, F2, F3⟩ := hw1
      have F1 := fun o => F1 o
      have F2 := fun o => F2 o
      have F3 := fun o => F3 o
      obtain ⟨c1, c2, c3, c4, E0, E1, E2, E3, E4, E5, E6, E7, E8, ⟨m1, n1⟩, ⟨m2, n2⟩, ⟨m3, n3⟩, m4, n4⟩ := rnd (Y := Y2) ⟨u_l1 Y1, u_l2 Y1, u_l3 Y1, u_l0 (Y1 / MM)⟩ (up HB.out.2.1.1 HB.out.2.1.2) HQ.out.2.2.1 HP.out.2.2.1 hY2.out
      go_wp2_with fail
      refine wp_loop_rounds 5 ?_
      rw [rounds_succ]
      go_wp2_with (simp only [add64_0 (l1 Y1) (l0 (vl a0 a1 a2 a3 * b2)) (u_l1 _).1 (u_l0 _).1])
      rw [rounds_succ]
      go_wp2_with (simp only [add64 (l2 Y1) (l1 (vl a0 a1 a2 a3 * b2)) c1 (u_l2 _).1 (u_l1 _).1 m1 n1])
      rw [rounds_succ]
      go_wp2_with (simp only [add64 (l3 Y1) (l2 (vl a0 a1 a2 a3 * b2)) c2 (u_l3 _).1 (u_l2 _).1 m2 n2])
      rw [rounds_succ]
      go_wp2_with (simp only [add64 (l0 (Y1 / MM)) (l3 (vl a0 a1 a2 a3 * b2)) c3 (u_l0 _).1 (u_l3 _).1 m3 n3])
      rw [rounds_succ]
      go_wp2
      go_roundw
      case rel =>
        refine Or.inr (Or.inr (Or.inr (Or.inl ⟨rfl, ?_⟩)))
        exact (((((hw2.put2 _).put3 _).put4 _).put5 _).put6 _).mo ((Mo.refl _).alloc _ _)
      case measure => simp [intOf]
    · have hw0 := hw
      obtain ⟨k0, k1, ⟨A0, A1, A2, A3⟩, _⟩ := hw
      go_wp2_with fail
      refine (mulLimb_any a0 a1 a2 a3 b3 _ ha g3).mono ?_
      rintro e w1 ⟨rfl, hm⟩
      have hw1 := hw0.mo hm
      have hw2 := hw1
      clear A0 A1 A2 A3 k0 k1
      obtain ⟨k0, k1, ⟨A0, A1, A2, A3⟩, ⟨B0, B1, B2, B3⟩, ⟨C0, C1, C2, C3⟩, ⟨D0, D1, D2, D3, D4, D5, D6, D7⟩, F1, F2, F3⟩ := hw1
      have F1 := fun o => F1 o
      have F2 := fun o => F2 o
      have F3 := fun o => F3 o
      obtain ⟨c1, c2, c3, c4, E0, E1, E2, E3, E4, E5, E6, E7, E8, ⟨m1, n1⟩, ⟨m2, n2⟩, ⟨m3, n3⟩, m4, n4⟩ := rnd (Y := Y3) ⟨u_l1 Y2, u_l2 Y2, u_l3 Y2, u_l0 (Y2 / MM)⟩ (up HB.out.2.2.1 HB.out.2.2.2) HQ.out.2.2.2 HP.out.2.2.2 hY3.out
      go_wp2_with fail
      refine wp_loop_rounds 5 ?_
      rw [rounds_succ]
      go_wp2_with (simp only [add64_0 (l1 Y2) (l0 (vl a0 a1 a2 a3 * b3)) (u_l1 _).1 (u_l0 _).1])
      rw [rounds_succ]
      go_wp2_with (simp only [add64 (l2 Y2) (l1 (vl a0 a1 a2 a3 * b3)) c1 (u_l2 _).1 (u_l1 _).1 m1 n1])
      rw [rounds_succ]
      go_wp2_with (simp only [add64 (l3 Y2) (l2 (vl a0 a1 a2 a3 * b3)) c2 (u_l3 _).1 (u_l2 _).1 m2 n2])
      rw [rounds_succ]
      go_wp2_with (simp only [add64 (l0 (Y2 / MM)) (l3 (vl a0 a1 a2 a3 * b3)) c3 (u_l0 _).1 (u_l3 _).1 m3 n3])
      rw [rounds_succ]
      go_wp2
      go_roundw
      case rel =>
        refine Or.inr (Or.inr (Or.inr (Or.inr ⟨rfl, ?_⟩)))
        exact (((((hw2.put3 _).put4 _).put5 _).put6 _).put7 _).mo ((Mo.refl _).alloc _ _)
      case measure => simp [intOf]
    · obtain ⟨k0, k1, ⟨A0, A1, A2, A3⟩, ⟨B0, B1, B2, B3⟩, ⟨C0, C1, C2, C3⟩, ⟨D0, D1, D2, D3, D4, D5, D6, D7⟩, F1, F2, F3⟩ := hw
      have F1 := fun o => F1 o
      have F2 := fun o => F2 o
      have F3 := fun o => F3 o
      have z2 : w.heap.size + 1 + 1 < wr.heap.size := by omega
      have z3 : w.heap.size + 1 + 1 + 1 < wr.heap.size := by omega
      have z4 : w.heap.size + 1 + 1 < wr.heap.size + 1 := by omega
      have z5 : w.heap.size + 1 + 1 + 1 < wr.heap.size + 1 := by omega
      go_wp2
      go_cut [] from 73 to 74 (fun wx => At4 wx (w.heap.size + 1 + 1) (l1 Y3) (l2 Y3) (l3 Y3) (l0 (Y3 / MM)) ∧ At4 wx (w.heap.size + 1 + 1 + 1) (l0 Y0) (l0 Y1) (l0 Y2) (l0 Y3) ∧ Mo w wx)
      case first =>
        go_region
        go_wp2
        go_meet
        case rel =>
          refine ⟨?_, ?_, ?_⟩
          · simp [At4, go_sem, B0, B1, B2, B3, z2, z4]
          · simp [At4, go_sem, C0, C1, C2, C3, z3, z5]
          · repeat (first | with_reducible exact Mo.refl _ | with_reducible apply Mo.drew | with_reducible apply Mo.drewN | with_reducible apply Mo.alloc | with_reducible refine Mo.setCell ?_ (by simp <;> omega) _ | with_reducible refine Mo.trans ?_ (by with_reducible assumption))
      case rest =>
        obtain ⟨⟨P0, P1, P2, P3⟩, ⟨R0, R1, R2, R3⟩, hmo⟩ := hcut
        go_wp2
        refine bodyPost_ret (v := .tuple #[.agg #[.int .u64 (l1 Y3), .int .u64 (l2 Y3), .int .u64 (l3 Y3), .int .u64 (l0 (Y3 / MM))], .agg #[.int .u64 (l0 Y0), .int .u64 (l0 Y1), .int .u64 (l0 Y2), .int .u64 (l0 Y3)]]) (by simp [results, Tryz.results204, go_sem, P0, P1, P2, P3, R0, R1, R2, R3]) rfl ?_
        exact ⟨rfl, hmo⟩

theorem mul_any (a0 a1 a2 a3 b0 b1 b2 b3 : Int) (w : World) (ha : U4 a0 a1 a2 a3) (hb : U4 b0 b1 b2 b3) :
    Calls Tryz.prog 204 #[.agg #[.int .u64 a0, .int .u64 a1, .int .u64 a2, .int .u64 a3], .agg #[.int .u64 b0, .int .u64 b1, .int .u64 b2, .int .u64 b3]] w fun e w' =>
      e = .returned (.tuple #[nv (vl a0 a1 a2 a3 * vl b0 b1 b2 b3 / MM), nv (vl a0 a1 a2 a3 * vl b0 b1 b2 b3)]) ∧ Mo w w' := by
  refine (mul_raw a0 a1 a2 a3 b0 b1 b2 b3 _ _ _ _ w ha hb rfl rfl rfl rfl).mono ?_
  rintro e w' ⟨rfl, hm⟩
  have hP : vl a0 a1 a2 a3 * vl b0 b1 b2 b3 = vl a0 a1 a2 a3 * b0 + 18446744073709551616 * (vl a0 a1 a2 a3 * b1 + 18446744073709551616 * (vl a0 a1 a2 a3 * b2 + 18446744073709551616 * (vl a0 a1 a2 a3 * b3))) := by
    rw [show vl b0 b1 b2 b3 = b0 + 18446744073709551616 * (b1 + 18446744073709551616 * (b2 + 18446744073709551616 * b3)) from by unfold vl; omega]
    generalize vl a0 a1 a2 a3 = v
    have q : ∀ x y : Int, v * (x + 18446744073709551616 * y) = v * x + 18446744073709551616 * (v * y) := fun x y => by rw [Int.mul_add, Int.mul_left_comm]
    rw [q, q, q]
  obtain ⟨e0, e1, e2, e3, e4, e5, e6, e7⟩ := prod_eq rfl rfl rfl rfl hP
  refine ⟨?_, hm⟩
  rw [nv_of e0 e1 e2 e3, nv_of e4 e5 e6 e7]
/-- The blocks of the call: the two numbers and the result. -/
def SW (w wx : World) (a b : Int) : Prop := Mo w wx ∧ AtN wx w.heap.size a ∧ AtN wx (w.heap.size + 1) b ∧ AtN wx (w.heap.size + 1 + 1) 0
theorem SW.mo {w wx w1 : World} {a b : Int} (v : SW w wx a b) (m : Mo wx w1) : SW w w1 a b := by
  obtain ⟨v1, v2, v3, v4⟩ := v
  exact ⟨v1.trans m, v2.mo m, v3.mo m, v4.mo m⟩
theorem SW.setk {w wx : World} {a b : Int} (v : SW w wx a b) {k : Nat} (hk : w.heap.size + 1 + 1 < k) (z : Int) : SW w (st4 wx k z) a b := by
  obtain ⟨v1, v2, v3, v4⟩ := v
  exact ⟨v1.st4 (by omega) z, v2.other (by omega) z, v3.other (by omega) z, v4.other (by omega) z⟩
theorem SW.start (w : World) (a b : Int) : SW w (((w.alloc (.cells #[.int .u64 (l0 a), .int .u64 (l1 a), .int .u64 (l2 a), .int .u64 (l3 a)] 24)).alloc (.cells #[.int .u64 (l0 b), .int .u64 (l1 b), .int .u64 (l2 b), .int .u64 (l3 b)] 24)).alloc (.cells #[.int .u64 0, .int .u64 0, .int .u64 0, .int .u64 0] 24)) a b := by
  have z0 : l0 0 = 0 := by decide
  have z1 : l1 0 = 0 := by decide
  have z2 : l2 0 = 0 := by decide
  have z3 : l3 0 = 0 := by decide
  refine ⟨(((Mo.refl _).alloc _ _).alloc _ _).alloc _ _, ⟨by simp [At4, go_sem], fun o => by simp [go_sem], by simp <;> omega⟩, ⟨by simp [At4, go_sem], fun o => by simp [go_sem], by simp <;> omega⟩, ⟨by simp [At4, go_sem, z0, z1, z2, z3], fun o => by simp [go_sem], by simp <;> omega⟩⟩

theorem nv_mul_mod (n c : Int) : nv (n % MM * c) = nv (n * c) := by
  rw [← nv_mod (n % MM * c), ← nv_mod (n * c), Int.mul_emod, Int.emod_emod, ← Int.mul_emod]
/-- The world between two rounds. -/
def TT (w wr : World) (b : Nat) (n : Int) : Prop := Mo w wr ∧ w.heap.size < b ∧ b < wr.heap.size ∧ At4 wr w.heap.size 0 0 0 0 ∧ Fz wr w.heap.size ∧ At4 wr b (l0 n) (l1 n) (l2 n) (l3 n) ∧ Fz wr b
theorem TT.mo {w wr w1 : World} {b : Nat} {n : Int} (h : TT w wr b n) (m : Mo wr w1) : TT w w1 b n := by
  obtain ⟨h1, h2, h3, h4, h5, h6, h7⟩ := h
  have := m.size
  exact ⟨h1.trans m, h2, by omega, h4.mo m (by omega), h5.mo m, h6.mo m h3, h7.mo m⟩
theorem TT.put {w w1 : World} {b : Nat} {n q : Int} (h : TT w w1 b n) : TT w ((((w1.setCell ⟨b, 0, none⟩ (.int .u64 (l0 q))).setCell ⟨b, 1, none⟩ (.int .u64 (l1 q))).setCell ⟨b, 2, none⟩ (.int .u64 (l2 q))).setCell ⟨b, 3, none⟩ (.int .u64 (l3 q))) b q := by
  obtain ⟨h1, h2, h3, ⟨c0, c1, c2, c3⟩, h5, ⟨b0, b1, b2, b3⟩, h7⟩ := h
  have ne : ¬ w.heap.size = b := by omega
  have le : w.heap.size ≤ b := by omega
  refine ⟨(((h1.setCell le _).setCell le _).setCell le _).setCell le _, h2, by simpa [World.setCell] using h3, ?_, ?_, ?_, ?_⟩
  · simp [At4, go_sem, *]
  · intro o; simp [World.frozen?_setCell, h5 o]
  · simp [At4, go_sem, *]
  · intro o; simp [World.frozen?_setCell, h7 o]

set_option maxHeartbeats 1000000 in
theorem ten_yes (n : Nat) (w : World) (h7 : n ≤ 77) :
    Calls Tryz.prog 208 #[.int .i64 n] w fun e w' => e = .returned (.tuple #[nv (10 ^ n), .bool true]) ∧ Mo w w' := by
  have e1 : nv 1 = .agg #[.int .u64 1, .int .u64 0, .int .u64 0, .int .u64 0] := by simp [nv, l0, l1, l2, l3]
  have hn : ¬ ((n : Int) < 0) := by omega
  have hn7 : ¬ (77 < (n : Int)) := by omega
  go_enter Tryz.func208, Tryz.ntmps208
  go_wp2_with fail
  refine (from20_any 1 _ ⟨by decide, by decide⟩).mono ?_
  rintro e w1 ⟨rfl, hm⟩
  have hz := hm.size
  simp only [World.size_alloc] at hz
  have hA : At4 w1 w.heap.size 0 0 0 0 := At4.mo (by simp [At4, go_sem]) hm (by simp)
  have hF : Fz w1 w.heap.size := Fz.mo (fun o => by simp [go_sem]) hm
  have hM : Mo w w1 := ((Mo.refl _).alloc _ _).trans hm
  have hS : TT w (w1.alloc (.cells #[.int .u64 (l0 1), .int .u64 (l1 1), .int .u64 (l2 1), .int .u64 (l3 1)] 24)) w1.heap.size 1 := by
    have z : w.heap.size < w1.heap.size := by omega
    exact ⟨hM.alloc _ _, z, by simp, hA.mo ((Mo.refl _).alloc _ _) z, hF.mo ((Mo.refl _).alloc _ _), by simp [At4, go_sem], fun o => by simp [go_sem]⟩
  have HS : Hid _ := hS
  clear hS hA hF e1
  go_wp2
  go_loopw [14] (fun i wr => ∃ k : Nat, k ≤ n ∧ i = .int .i64 k ∧ TT w wr w1.heap.size (10 ^ k)) (fun i _ => n - (intOf i).toNat)
  case atStart => exact ⟨0, Nat.zero_le _, rfl, HS.out⟩
  case round =>
    obtain ⟨k, hk, rfl, ht⟩ := hrel
    by_cases hlt : k < n
    · have ht0 := ht
      obtain ⟨g1, g2, g3, ⟨c0, c1, c2, c3⟩, g5, ⟨b0, b1, b2, b3⟩, g7⟩ := ht
      clear g5 g7
      go_wp2_with fail
      refine (mulLimb_any (l0 (10 ^ k)) (l1 (10 ^ k)) (l2 (10 ^ k)) (l3 (10 ^ k)) 10 _ (u4_lb _) ⟨by decide, by decide⟩).mono ?_
      rintro e w2 ⟨rfl, hm2⟩
      rw [vl_nv, nv_mul_mod, ← Int.pow_succ]
      have t1 := ht0.mo hm2
      have t3 := t1.put (q := 10 ^ (k + 1))
      clear b0 b1 b2 b3 c0 c1 c2 c3 g1 g2 g3
      obtain ⟨g1, g2, g3, ⟨c0, c1, c2, c3⟩, g5, ⟨b0, b1, b2, b3⟩, g7⟩ := t1
      have g7 := fun o => g7 o
      clear g5
      go_wp2
      go_roundw
      case rel => exact ⟨k + 1, by omega, by go_num, t3⟩
      case measure => simp [intOf]; omega
    · have hkn : k = n := by omega
      subst hkn
      obtain ⟨g1, g2, g3, ⟨c0, c1, c2, c3⟩, g5, ⟨b0, b1, b2, b3⟩, g7⟩ := ht
      have g5 := fun o => g5 o
      go_wp2
      refine bodyPost_ret (v := .tuple #[nv (10 ^ k), .bool true]) (by simp [results, Tryz.results208, go_sem, c0, c1, c2, c3]) rfl ?_
      refine ⟨rfl, ?_⟩
      exact (((g1.setCell (Nat.le_refl _) _).setCell (Nat.le_refl _) _).setCell (Nat.le_refl _) _).setCell (Nat.le_refl _) _
theorem mul_n (A B : Int) (w : World) (hA0 : 0 ≤ A) (hAM : A < MM) (hB0 : 0 ≤ B) (hBM : B < MM) :
    Calls Tryz.prog 204 #[nv A, nv B] w fun e w' => e = .returned (.tuple #[nv (A * B / MM), nv (A * B)]) ∧ Mo w w' := by
  have h := mul_any (l0 A) (l1 A) (l2 A) (l3 A) (l0 B) (l1 B) (l2 B) (l3 B) w (u4_lb A) (u4_lb B)
  rw [vl_lb A hA0 hAM, vl_lb B hB0 hBM] at h
  exact h
theorem add_n (A B : Int) (w : World) (hA0 : 0 ≤ A) (hAM : A < MM) (hB0 : 0 ≤ B) (hBM : B < MM) :
    Calls Tryz.prog 207 #[nv A, nv B] w fun e w' => e = .returned (.tuple #[nv (A + B), .bool (ov (A + B))]) ∧ Mo w w' := by
  have h := add_any (l0 A) (l1 A) (l2 A) (l3 A) (l0 B) (l1 B) (l2 B) (l3 B) w (u4_lb A) (u4_lb B)
  rw [vl_lb A hA0 hAM, vl_lb B hB0 hBM] at h
  exact h
theorem sub_n (A B : Int) (w : World) (hA0 : 0 ≤ A) (hAM : A < MM) (hB0 : 0 ≤ B) (hBM : B < MM) :
    Calls Tryz.prog 210 #[nv A, nv B] w fun e w' => e = .returned (.tuple #[nv (A - B), .bool (un (A - B))]) ∧ Mo w w' := by
  have h := sub_any (l0 A) (l1 A) (l2 A) (l3 A) (l0 B) (l1 B) (l2 B) (l3 B) w (u4_lb A) (u4_lb B)
  rw [vl_lb A hA0 hAM, vl_lb B hB0 hBM, nv_mod] at h
  exact h
theorem cmp_n (A B : Int) (w : World) (hA0 : 0 ≤ A) (hAM : A < MM) (hB0 : 0 ≤ B) (hBM : B < MM) :
    Calls Tryz.prog 209 #[nv A, nv B] w fun e w' => e = .returned (.int .i64 (cm A B)) ∧ Mo w w' := by
  have h := cmp15_any (l0 A) (l1 A) (l2 A) (l3 A) (l0 B) (l1 B) (l2 B) (l3 B) w (u4_lb A) (u4_lb B)
  rw [vl_lb A hA0 hAM, vl_lb B hB0 hBM] at h
  exact h
theorem div_n (H L D : Int) (w : World) (hH0 : 0 ≤ H) (hHM : H < MM) (hL0 : 0 ≤ L) (hLM : L < MM) (hD0 : 0 ≤ D) (hDM : D < MM) :
    Calls Tryz.prog 205 #[nv H, nv L, nv D] w fun e w' => e = .returned (.tuple #[nv (dq H L D), nv (dr H L D), .bool (dok H D)]) ∧ Mo w w' := by
  have h := div_any (l0 H) (l1 H) (l2 H) (l3 H) (l0 L) (l1 L) (l2 L) (l3 L) (l0 D) (l1 D) (l2 D) (l3 D) w (u4_lb H) (u4_lb L) (u4_lb D)
  rw [vl_lb H hH0 hHM, vl_lb L hL0 hLM, vl_lb D hD0 hDM] at h
  exact h
end Go.Proofs.YtfmfeipeeedfpaaGreat
namespace Go.Proofs.YtfmfeipeeedfpaaGreat
open S Go.RowKit
abbrev z0 : Value := nv 0
set_option maxRecDepth 20000 in
theorem p_isSc (s : Int) (w : World) : Calls Tryz.prog 184 #[.int .i64 s] w fun r W => r = .returned (.bool (sc s)) ∧ Mb w W := by
  refine fn_pure [.int .i64 s] Tryz.func184 rfl rfl rfl (run_ok (st mo ?_))
  refine ⟨fun h => st mo ⟨fun h2 => st mo ?_, fun h2 => st mo ?_⟩, fun h => st mo ?_⟩
  · show _ = _; unfold sc; rw [decide_eq_true h, decide_eq_true h2]; rfl
  · show _ = _; unfold sc; rw [decide_eq_true h, decide_eq_false (by omega)]; rfl
  · show _ = _; unfold sc; rw [decide_eq_false (by omega)]; rfl
theorem p_isSc' {s : Int} {b : Bool} (h : sc s = b) (w : World) : Calls Tryz.prog 184 #[.int .i64 s] w fun r W => r = .returned (.bool b) ∧ Mb w W := h ▸ p_isSc s w
theorem MM_0 : (0 : Int) ≤ 0 ∧ (0 : Int) < MM := by decide
abbrev dcl (f : Value) (n s : Int) : Value := .agg #[f, .int .u64 (l0 n), .int .u64 (l1 n), .int .u64 (l2 n), .int .u64 (l3 n), .int .i64 s]
set_option maxRecDepth 20000 in
theorem p_dck (b : Bool) (n s : Int) (hn : 0 ≤ n ∧ n < MM) (w : World) : Calls Tryz.prog 157 #[dc b n s] w fun r W => r = .returned (.int .i64 (ck b n s)) ∧ Mb w W := by
  cases b
  · refine fn_pure [dcl litF n s] Tryz.func157 rfl rfl rfl (run_ok (st mo ?_))
    cases hs : sc s with
    | false =>
      refine ⟨_, fun nn => r_call (t := litF) rfl rfl Tryz.func184 (fun W M E => p_isSc' hs W), st mo ?_⟩
      show _ = _; rw [ck, hs]; rfl
    | true =>
      refine ⟨_, fun nn => r_call (t := litT) rfl rfl Tryz.func184 (fun W M E => p_isSc' hs W), st mo ?_⟩
      show _ = _; rw [ck, hs]; rfl
  · refine fn_pure [dcl litT n s] Tryz.func157 rfl rfl rfl (run_ok (st mo ?_))
    cases hs : sc s with
    | false =>
      refine ⟨_, fun nn => r_call (t := litF) rfl rfl Tryz.func184 (fun W M E => p_isSc' hs W), st mo ?_⟩
      show _ = _; rw [ck, hs]; rfl
    | true =>
      refine ⟨_, fun nn => r_call (t := litT) rfl rfl Tryz.func184 (fun W M E => p_isSc' hs W), st mo ?_⟩
      refine ⟨_, r_eqN n 0 hn MM_0, fun h => st mo ?_, fun h => st mo ?_⟩
      · show _ = _; rw [ck, hs, h]; rfl
      · show _ = _; rw [ck, hs, h]; rfl
theorem p_dck' {b : Bool} {n s c : Int} (h : ck b n s = c) (hn : 0 ≤ n ∧ n < MM) (w : World) : Calls Tryz.prog 157 #[dc b n s] w fun r W => r = .returned (.int .i64 c) ∧ Mb w W := h ▸ p_dck b n s hn w
set_option maxRecDepth 20000 in
theorem p_sgnd (b : Bool) (n s : Int) (hn : 0 ≤ n ∧ n < MM) (w : World) : Calls Tryz.prog 168 #[.bool b, nv n, .int .i64 s] w fun r W => r = .returned (dc (b && !decide (n = 0)) n s) ∧ Mb w W := by
  cases b
  · refine fn_pure [litF, nv n, .int .i64 s] Tryz.func168 rfl rfl rfl (run_ok (st mo ?_))
    exact ⟨dk, st mo rfl⟩
  · refine fn_pure [litT, nv n, .int .i64 s] Tryz.func168 rfl rfl rfl (run_ok (st mo ?_))
    refine ⟨_, r_neN n 0 hn MM_0, fun h => st mo ⟨dk, st mo ?_⟩, fun h => st mo ⟨dk, st mo ?_⟩⟩
    · show _ = _; rw [h]; rfl
    · show _ = _; rw [h]; rfl
set_option maxRecDepth 20000 in
theorem p_from (u : Int) (hu : 0 ≤ u ∧ u < 18446744073709551616) (w : World) : Calls Tryz.prog 159 #[.int .u64 u] w fun r W => r = .returned (nv u) ∧ Mb w W := by
  rw [show nv u = .agg #[.int .u64 u, .int .u64 0, .int .u64 0, .int .u64 0] by
    rw [nv, show l0 u = u by unfold l0; omega, show l1 u = 0 by unfold l1; omega, show l2 u = 0 by unfold l2; omega, show l3 u = 0 by unfold l3; omega]]
  exact fn_pure [.int .u64 u] Tryz.func159 rfl rfl rfl (run_ok (st mo rfl))
set_option maxRecDepth 20000 in
theorem p_odd (n : Int) (w : World) : Calls Tryz.prog 223 #[nv n] w fun r W => r = .returned (.bool (decide (n % 2 = 1))) ∧ Mb w W := by
  refine fn_pure [nv n] Tryz.func223 rfl rfl rfl (run_ok (st mo ?_))
  refine ⟨by decide, n % 2, by rw [Int.tmod_eq_emod_of_nonneg (by unfold l0; omega)]; unfold l0; omega, st mo ⟨fun h => st mo ?_, fun h => st mo ?_⟩⟩
  · show _ = _; rw [decide_eq_true h]
  · show _ = _; rw [decide_eq_false h]
theorem p_odd' {n : Int} {b : Bool} (h : decide (n % 2 = 1) = b) (w : World) : Calls Tryz.prog 223 #[nv n] w fun r W => r = .returned (.bool b) ∧ Mb w W := h ▸ p_odd n w
set_option maxRecDepth 20000 in
theorem p_ten (k : Nat) (hk : k ≤ 77) (w : World) : Calls Tryz.prog 190 #[.int .i64 (k : Int)] w fun r W => r = .returned (nv (10 ^ k)) ∧ Mb w W := by
  refine fn_pure [.int .i64 (k : Int)] Tryz.func190 rfl rfl rfl (run_ok (st mo ?_))
  refine ⟨_, fun nn => r_call (t := .tuple #[nv (10 ^ k), litT]) rfl rfl Tryz.func208 (fun W M E => (ten_yes k W hk).mono fun _ _ ⟨a, b⟩ => ⟨a, b.mb⟩), st mo ?_⟩
  rfl
set_option maxRecDepth 20000 in
theorem p_mulD (A B : Int) (hA : 0 ≤ A ∧ A < MM) (hB : 0 ≤ B ∧ B < MM) (w : World) : Calls Tryz.prog 187 #[nv A, nv B] w fun r W => r = .returned (dw (A * B)) ∧ Mb w W := by
  refine fn_pure [nv A, nv B] Tryz.func187 rfl rfl rfl (run_ok (st mo ?_))
  refine ⟨_, fun nn => r_call (t := .tuple #[nv (A * B / MM), nv (A * B)]) rfl rfl Tryz.func204 (fun W M E => (mul_n A B W hA.1 hA.2 hB.1 hB.2).mono fun _ _ ⟨a, b⟩ => ⟨a, b.mb⟩), st mo ?_⟩
  rfl
theorem p10_b {k : Nat} (h : k ≤ 77) : 0 ≤ (10 : Int) ^ k ∧ (10 : Int) ^ k < MM := by
  refine ⟨Int.le_of_lt (Int.pow_pos (by decide)), ?_⟩
  have h1 : (10 : Nat) ^ k ≤ 10 ^ 77 := Nat.pow_le_pow_right (by decide) h
  have h3 : ((10 ^ k : Nat) : Int) = (10 : Int) ^ k := by rw [Int.natCast_pow]; rfl
  have h2 : ((10 ^ 77 : Nat) : Int) < MM := by decide
  rw [← h3]
  exact Int.lt_of_le_of_lt (Int.ofNat_le.2 h1) h2
set_option maxRecDepth 20000 in
/-- A number in the last digits of a scale that is not below its own. -/
theorem p_lift (b : Bool) (n s S : Int) (k : Nat) (hn : 0 ≤ n ∧ n < MM) (hs : 0 ≤ s ∧ S ≤ 18) (hk : S - s = (k : Int)) (w : World) : Calls Tryz.prog 193 #[dc b n s, .int .i64 S] w fun r W => r = .returned (dw (n * 10 ^ k)) ∧ Mb w W := by
  refine fn_pure [dc b n s, .int .i64 S] Tryz.func193 rfl rfl rfl (run_ok (st mo ?_))
  refine ⟨(k : Int), wz k hk, st mo ?_⟩
  refine ⟨_, fun nn => r_call (t := nv (10 ^ k)) rfl rfl Tryz.func190 (fun W M E => p_ten k (by omega) W), st mo ?_⟩
  refine ⟨_, fun nn => r_call (t := dw (n * 10 ^ k)) rfl rfl Tryz.func187 (fun W M E => p_mulD n (10 ^ k) hn (p10_b (by omega)) W), st mo ⟨dk, st mo ?_⟩⟩
  rfl
abbrev bl (b : Bool) : Value := if b then litT else litF
theorem MM_p : (0 : Int) < MM := by decide
theorem hi_b {X : Int} (h : 0 ≤ X ∧ X < MM * MM) : 0 ≤ X / MM ∧ X / MM < MM := ⟨Int.ediv_nonneg h.1 (by decide), Int.ediv_lt_of_lt_mul MM_p h.2⟩
theorem lo_b (X : Int) : 0 ≤ X % MM ∧ X % MM < MM := ⟨Int.emod_nonneg _ (by decide), Int.emod_lt_of_pos _ MM_p⟩
theorem add_c (X Y : Int) (W : World) : Calls Tryz.prog 207 #[nv X, nv Y] W fun e W' => e = .returned (.tuple #[nv (X + Y), .bool (decide (MM ≤ X % MM + Y % MM))]) ∧ Mb W W' := by
  have q := add_n (X % MM) (Y % MM) W (lo_b X).1 (lo_b X).2 (lo_b Y).1 (lo_b Y).2
  rw [nv_mod, nv_mod, ← nv_mod (X % MM + Y % MM), ← Int.add_emod, nv_mod] at q
  exact q.mono fun _ _ ⟨a, b⟩ => ⟨a, b.mb⟩
theorem add_c' {X Y Z : Int} {o : Bool} (hz : Z = X + Y) (ho : decide (MM ≤ X % MM + Y % MM) = o) (W : World) : Calls Tryz.prog 207 #[nv X, nv Y] W fun e W' => e = .returned (.tuple #[nv Z, .bool o]) ∧ Mb W W' := by subst hz ho; exact add_c X Y W
theorem sub_c' {X Y Z : Int} {o : Bool} (hz : Z = X - Y) (ho : decide (X % MM - Y % MM < 0) = o) (W : World) : Calls Tryz.prog 210 #[nv X, nv Y] W fun e W' => e = .returned (.tuple #[nv Z, .bool o]) ∧ Mb W W' := by
  have q := sub_n (X % MM) (Y % MM) W (lo_b X).1 (lo_b X).2 (lo_b Y).1 (lo_b Y).2
  rw [nv_mod, nv_mod, ← nv_mod (X % MM - Y % MM), ← Int.sub_emod, nv_mod, show un (X % MM - Y % MM) = o from ho, ← hz] at q
  exact q.mono fun _ _ ⟨a, b⟩ => ⟨a, b.mb⟩
theorem cmp_c {A B c : Int} (hA : 0 ≤ A ∧ A < MM) (hB : 0 ≤ B ∧ B < MM) (h : cm A B = c) (W : World) : Calls Tryz.prog 209 #[nv A, nv B] W fun e W' => e = .returned (.int .i64 c) ∧ Mb W W' :=
  (cmp_n A B W hA.1 hA.2 hB.1 hB.2).mono fun _ _ ⟨a, b⟩ => ⟨h ▸ a, b.mb⟩
set_option maxRecDepth 20000 in
theorem p_addD (X Y : Int) (w : World) : Calls Tryz.prog 194 #[dw X, dw Y] w fun r W => r = .returned (dw (X + Y)) ∧ Mb w W := by
  refine fn_pure [dw X, dw Y] Tryz.func194 rfl rfl rfl (run_ok (st mo ?_))
  by_cases hc : MM ≤ X % MM + Y % MM
  · have e : (X + Y) / MM = X / MM + Y / MM + 1 := by unfold MM at *; omega
    refine ⟨_, fun nn => r_call (t := .tuple #[nv (X + Y), litT]) rfl rfl Tryz.func207 (fun W M E => add_c' rfl (decide_eq_true hc) W), st mo ?_⟩
    refine ⟨_, fun nn => r_call (t := .tuple #[nv (X / MM + Y / MM), .bool (decide (MM ≤ (X / MM) % MM + (Y / MM) % MM))]) rfl rfl Tryz.func207 (fun W M E => add_c' rfl rfl W), st mo ?_⟩
    refine ⟨_, fun nn => r_call (t := nv 1) rfl rfl Tryz.func159 (fun W M E => p_from 1 (by decide) W), st mo ?_⟩
    refine ⟨_, fun nn => r_call (t := .tuple #[nv ((X + Y) / MM), .bool (decide (MM ≤ (X / MM + Y / MM) % MM + 1 % MM))]) rfl rfl Tryz.func207 (fun W M E => add_c' e rfl W), st mo ⟨dk, st mo ?_⟩⟩
    rfl
  · have e : (X + Y) / MM = X / MM + Y / MM := by unfold MM at *; omega
    refine ⟨_, fun nn => r_call (t := .tuple #[nv (X + Y), litF]) rfl rfl Tryz.func207 (fun W M E => add_c' rfl (decide_eq_false hc) W), st mo ?_⟩
    refine ⟨_, fun nn => r_call (t := .tuple #[nv ((X + Y) / MM), .bool (decide (MM ≤ (X / MM) % MM + (Y / MM) % MM))]) rfl rfl Tryz.func207 (fun W M E => add_c' e rfl W), st mo ?_⟩
    rfl
set_option maxRecDepth 20000 in
theorem p_subD (X Y : Int) (w : World) : Calls Tryz.prog 196 #[dw X, dw Y] w fun r W => r = .returned (dw (X - Y)) ∧ Mb w W := by
  refine fn_pure [dw X, dw Y] Tryz.func196 rfl rfl rfl (run_ok (st mo ?_))
  by_cases hc : X % MM - Y % MM < 0
  · have e : (X - Y) / MM = X / MM - Y / MM - 1 := by unfold MM at *; omega
    refine ⟨_, fun nn => r_call (t := .tuple #[nv (X - Y), litT]) rfl rfl Tryz.func210 (fun W M E => sub_c' rfl (decide_eq_true hc) W), st mo ?_⟩
    refine ⟨_, fun nn => r_call (t := .tuple #[nv (X / MM - Y / MM), .bool (decide ((X / MM) % MM - (Y / MM) % MM < 0))]) rfl rfl Tryz.func210 (fun W M E => sub_c' rfl rfl W), st mo ?_⟩
    refine ⟨_, fun nn => r_call (t := nv 1) rfl rfl Tryz.func159 (fun W M E => p_from 1 (by decide) W), st mo ?_⟩
    refine ⟨_, fun nn => r_call (t := .tuple #[nv ((X - Y) / MM), .bool (decide ((X / MM - Y / MM) % MM - 1 % MM < 0))]) rfl rfl Tryz.func210 (fun W M E => sub_c' e rfl W), st mo ⟨dk, st mo ?_⟩⟩
    rfl
  · have e : (X - Y) / MM = X / MM - Y / MM := by unfold MM at *; omega
    refine ⟨_, fun nn => r_call (t := .tuple #[nv (X - Y), litF]) rfl rfl Tryz.func210 (fun W M E => sub_c' rfl (decide_eq_false hc) W), st mo ?_⟩
    refine ⟨_, fun nn => r_call (t := .tuple #[nv ((X - Y) / MM), .bool (decide ((X / MM) % MM - (Y / MM) % MM < 0))]) rfl rfl Tryz.func210 (fun W M E => sub_c' e rfl W), st mo ?_⟩
    rfl
theorem cm_hi {X Y : Int} (h : ¬ cm (X / MM) (Y / MM) = 0) : cm X Y = cm (X / MM) (Y / MM) := by
  unfold cm at *; unfold MM at *
  repeat (first | omega | split at * )
theorem cm_lo {X Y : Int} (h : cm (X / MM) (Y / MM) = 0) : cm X Y = cm (X % MM) (Y % MM) := by
  unfold cm at *; unfold MM at *
  repeat (first | omega | split at * )
set_option maxRecDepth 20000 in
theorem p_cmpD (X Y : Int) (hX : 0 ≤ X ∧ X < MM * MM) (hY : 0 ≤ Y ∧ Y < MM * MM) (w : World) : Calls Tryz.prog 195 #[dw X, dw Y] w fun r W => r = .returned (.int .i64 (cm X Y)) ∧ Mb w W := by
  refine fn_pure [dw X, dw Y] Tryz.func195 rfl rfl rfl (run_ok (st mo ?_))
  refine ⟨_, r_eqW X Y hX hY, fun h => st mo ?_, fun h => st mo ?_⟩
  · have h := of_decide_eq_true h
    show _ = _; rw [h]; unfold cm; rw [if_neg (by omega), if_neg (by omega)]
  · refine ⟨_, fun nn => r_call (t := .int .i64 (cm (X / MM) (Y / MM))) rfl rfl Tryz.func209 (fun W M E => cmp_c (hi_b hX) (hi_b hY) rfl W), st mo ⟨fun h1 => st mo ?_, fun h1 => st mo ?_⟩⟩
    · show _ = _; rw [cm_hi h1]
    · refine ⟨_, fun nn => r_call (t := .int .i64 (cm (X % MM) (Y % MM))) rfl rfl Tryz.func209 (fun W M E => cmp_c (lo_b X) (lo_b Y) rfl W) (by rw [nv_mod, nv_mod]; rfl), st mo ?_⟩
      show _ = _; rw [cm_lo h1]
abbrev DR.y (r : DR) : Value := .tuple #[dc r.b r.n r.s, .int .i64 r.e]
theorem fx_0 {b : Bool} {X s : Int} (h : X < MM) : fxR b X s = ⟨b && !decide (X = 0), X, s, 0⟩ := if_pos h
theorem fx_7 {b : Bool} {X s : Int} (h : ¬ X < MM) : fxR b X s = erR 7 := if_neg h
theorem hi_0 {X : Int} (h : X < MM) (h0 : 0 ≤ X) : X / MM = 0 := Int.ediv_eq_zero_of_lt h0 h
theorem hi_1 {X : Int} (h : ¬ X < MM) : ¬ X / MM = 0 := by unfold MM at *; omega
theorem lo_n {X : Int} (h : X < MM) (h0 : 0 ≤ X) : X % MM = X := Int.emod_eq_of_lt h0 h
set_option maxRecDepth 20000 in
theorem p_dfit (b : Bool) (X s : Int) (hX : 0 ≤ X ∧ X < MM * MM) (w : World) : Calls Tryz.prog 189 #[.bool b, dw X, .int .i64 s] w fun r W => r = .returned (fxR b X s).v ∧ Mb w W := by
  refine fn_pure [.bool b, dw X, .int .i64 s] Tryz.func189 rfl rfl rfl (run_ok (st mo ?_))
  refine ⟨_, r_neN (X / MM) 0 (hi_b hX) MM_0, fun h => st mo ?_, fun h => st mo ?_⟩
  · have h : ¬ X < MM := fun q => by rw [hi_0 q hX.1] at h; cases h
    show _ = _; rw [fx_7 h]; rfl
  · have h : X < MM := Classical.byContradiction fun q => by rw [decide_eq_false (hi_1 q)] at h; cases h
    refine ⟨_, fun nn => r_call (t := dc (b && !decide (X = 0)) X s) rfl rfl Tryz.func168 (fun W M E => p_sgnd b X s ⟨hX.1, h⟩ W), st mo ?_⟩
    show _ = _; rw [fx_0 h]; rfl
theorem p_dfit' {b : Bool} {X s : Int} {r : DR} (h : fxR b X s = r) (hX : 0 ≤ X ∧ X < MM * MM) (w : World) : Calls Tryz.prog 189 #[.bool b, dw X, .int .i64 s] w fun e W => e = .returned r.v ∧ Mb w W := h ▸ p_dfit b X s hX w
set_option maxRecDepth 20000 in
theorem p_ckb (b : Bool) (n s : Int) (c : Bool) (m t : Int) (hn : 0 ≤ n ∧ n < MM) (hm : 0 ≤ m ∧ m < MM) (h1 : ck b n s = 0) (h2 : ck c m t = 0) (w : World) : Calls Tryz.prog 185 #[dc b n s, dc c m t] w fun r W => r = .returned (.int .i64 0) ∧ Mb w W := by
  refine fn_pure [dc b n s, dc c m t] Tryz.func185 rfl rfl rfl (run_ok (st mo ?_))
  refine ⟨_, fun nn => r_call (t := .int .i64 0) rfl rfl Tryz.func157 (fun W M E => p_dck' h1 hn W), st mo ⟨fun h => absurd h (by decide), fun _ => st mo ?_⟩⟩
  refine ⟨_, fun nn => r_call (t := .int .i64 0) rfl rfl Tryz.func157 (fun W M E => p_dck' h2 hm W), st mo ?_⟩
  rfl
theorem r_max {w0 : B0} {X : World} {o : Oper} {fr : FT} {h : HT} {n : Nat} {y z : Operand} {ts : Array TypeId} (a b : Int) (ho : o.op = .call { callee := .builtin .max, args := #[y, z], argTypes := ts } := by rfl) (hy : den2 (evo fr y) = .int .i64 a := by rfl) (hz : den2 (evo fr z) = .int .i64 b := by rfl) (hpy : pur2 (evo fr y) = true := by rfl) (hpz : pur2 (evo fr z) = true := by rfl) : Oa (Am w0 X) Tryz.prog o fr h n ⟨.int .i64 (max a b), h, n, 0, 0⟩ := by
  refine Oa.val fun k W ac hA hop => ⟨.int .i64 (max a b), pur_vx rfl, ?_⟩
  have h1 := pur2_eq (hop y (by rw [ho]; simp [Op.operands, Call.operands])) hpy
  have h2 := pur2_eq (hop z (by rw [ho]; simp [Op.operands, Call.operands])) hpz
  rw [hy] at h1
  rw [hz] at h2
  by_cases hb : a < b
  · rw [show max a b = b by omega]
    simp [execOp, ho, resolve, invoke, builtin, h1, h2, Builtin.max_, Builtin.max2, show b > a by omega]
  · rw [show max a b = a by omega]
    simp [execOp, ho, resolve, invoke, builtin, h1, h2, Builtin.max_, Builtin.max2, show ¬ b > a by omega]
/-- == and != of two flags. -/
theorem r_eqB {w0 : B0} {X : World} {o : Oper} {fr : FT} {h : HT} {n : Nat} {y z : Operand} {t' : TypeId} (a b : Bool) (ho : o.op = .binOp .eql 4 y z t' := by rfl) (hy : den2 (evo fr y) = .bool a := by rfl) (hz : den2 (evo fr z) = .bool b := by rfl) (hpy : pur2 (evo fr y) = true := by rfl) (hpz : pur2 (evo fr z) = true := by rfl) : Oa (Am w0 X) Tryz.prog o fr h n ⟨.bool (a == b), h, n, 0, 0⟩ :=
  Oo.to (s_bin0 ho (fun k u hu => by rw [pur2_eq hu hpy, hy]) (fun k u hu => by rw [pur2_eq hu hpz, hz]) rfl (fun w => by kernel_rfl))
theorem r_neB {w0 : B0} {X : World} {o : Oper} {fr : FT} {h : HT} {n : Nat} {y z : Operand} {t' : TypeId} (a b : Bool) (ho : o.op = .binOp .neq 4 y z t' := by rfl) (hy : den2 (evo fr y) = .bool a := by rfl) (hz : den2 (evo fr z) = .bool b := by rfl) (hpy : pur2 (evo fr y) = true := by rfl) (hpz : pur2 (evo fr z) = true := by rfl) : Oa (Am w0 X) Tryz.prog o fr h n ⟨.bool (a != b), h, n, 0, 0⟩ :=
  Oo.to (s_bin0 ho (fun k u hu => by rw [pur2_eq hu hpy, hy]) (fun k u hu => by rw [pur2_eq hu hpz, hz]) rfl (fun w => by kernel_rfl))
theorem sgn_mul (b : Bool) (n k : Int) : sgn b n * k = sgn b (n * k) := by cases b <;> simp [sgn, Int.neg_mul]
theorem ab_sgn {b : Bool} {Z : Int} (h : 0 ≤ Z) : ab (sgn b Z) = Z := by unfold ab sgn; cases b <;> simp <;> omega
theorem lt_sgn {b : Bool} {Z : Int} (h : 0 ≤ Z) : decide (sgn b Z < 0) = (b && !decide (Z = 0)) := by
  unfold sgn
  cases b
  · simp; omega
  · by_cases q : Z = 0
    · simp [q]
    · simp [q]; omega
theorem fx_sgn {b : Bool} {Z S : Int} (h : 0 ≤ Z) : fxR b Z S = fzR (sgn b Z) S := by
  unfold fxR fzR; rw [ab_sgn h, lt_sgn h]
theorem lift_b {n : Int} {k : Nat} (h : 0 ≤ n ∧ n < MM) (hk : k ≤ 18) : 0 ≤ n * 10 ^ k ∧ n * 10 ^ k < 1000000000000000000 * MM := by
  have h1 : (10 : Nat) ^ k ≤ 10 ^ 18 := Nat.pow_le_pow_right (by decide) hk
  have h3 : ((10 ^ k : Nat) : Int) = (10 : Int) ^ k := by rw [Int.natCast_pow]; rfl
  have h4 : (10 : Int) ^ k ≤ 1000000000000000000 := by rw [← h3]; omega
  have h5 : (0 : Int) ≤ 10 ^ k := Int.le_of_lt (Int.pow_pos (by decide))
  have a : n * 10 ^ k ≤ n * 1000000000000000000 := Int.mul_le_mul_of_nonneg_left h4 h.1
  exact ⟨Int.mul_nonneg h.1 h5, by unfold MM at *; omega⟩
theorem lift_w {X : Int} (h : 0 ≤ X ∧ X < 1000000000000000000 * MM) : 0 ≤ X ∧ X < MM * MM := ⟨h.1, Int.lt_trans h.2 (by decide)⟩
/-- The lifted numbers of two. -/
theorem lifts {s t : Int} (hs : sc s = true) (ht : sc t = true) : ∃ i j : Nat, max s t - s = (i : Int) ∧ max s t - t = (j : Int) ∧ i ≤ 18 ∧ j ≤ 18 ∧ 0 ≤ s ∧ 0 ≤ t ∧ max s t ≤ 18 := by
  obtain ⟨s0, s1⟩ := sc_iff.1 hs
  obtain ⟨t0, t1⟩ := sc_iff.1 ht
  exact ⟨(max s t - s).toNat, (max s t - t).toNat, by omega, by omega, by omega, by omega, s0, t0, by omega⟩
theorem addR_same (b : Bool) {n s m t : Int} {i j : Nat} (hn : 0 ≤ n ∧ n < MM) (hm : 0 ≤ m ∧ m < MM) (hi : max s t - s = (i : Int)) (hj : max s t - t = (j : Int)) : addR b n s b m t = fxR b (n * 10 ^ i + m * 10 ^ j) (max s t) := by
  have p : ∀ k : Nat, (0 : Int) ≤ 10 ^ k := fun k => Int.le_of_lt (Int.pow_pos (by decide))
  rw [fx_sgn (Int.add_nonneg (Int.mul_nonneg hn.1 (p i)) (Int.mul_nonneg hm.1 (p j)))]
  unfold addR addV
  rw [hi, hj, pw_nat, pw_nat, sgn_mul, sgn_mul]
  congr 1
  unfold sgn; cases b <;> simp <;> omega
theorem addR_diff (b : Bool) {n s m t : Int} {i j : Nat} (hi : max s t - s = (i : Int)) (hj : max s t - t = (j : Int)) : addR b n s (!b) m t = if n * 10 ^ i < m * 10 ^ j then fxR (!b) (m * 10 ^ j - n * 10 ^ i) (max s t) else fxR b (n * 10 ^ i - m * 10 ^ j) (max s t) := by
  unfold addR addV
  rw [hi, hj, pw_nat, pw_nat, sgn_mul, sgn_mul]
  split
  next h =>
    rw [fx_sgn (by omega)]; congr 1
    unfold sgn; cases b <;> simp <;> omega
  next h =>
    rw [fx_sgn (by omega)]; congr 1
    unfold sgn; cases b <;> simp <;> omega
set_option maxRecDepth 20000 in
theorem p_add (b : Bool) (n s : Int) (c : Bool) (m t : Int) (hn : 0 ≤ n ∧ n < MM) (hm : 0 ≤ m ∧ m < MM) (h1 : ck b n s = 0) (h2 : ck c m t = 0) (w : World) : Calls Tryz.prog 169 #[dc b n s, dc c m t] w fun r W => r = .returned (addR b n s c m t).v ∧ Mb w W := by
  obtain ⟨i, j, hi, hj, hi8, hj8, s0, t0, hS⟩ := lifts (ck_s h1) (ck_s h2)
  have bX := lift_b hn hi8
  have bY := lift_b hm hj8
  by_cases hbc : c = b
  · subst hbc
    rw [addR_same c hn hm hi hj]
    have bZ : 0 ≤ n * 10 ^ i + m * 10 ^ j ∧ n * 10 ^ i + m * 10 ^ j < MM * MM := ⟨by omega, by unfold MM at *; omega⟩
    generalize hr : fxR c (n * 10 ^ i + m * 10 ^ j) (max s t) = r
    cases c
    · refine fn_pure [dcl litF n s, dcl litF m t] Tryz.func169 rfl rfl rfl (run_ok (st mo ?_))
      refine ⟨_, fun nn => r_call (t := .int .i64 0) rfl rfl Tryz.func185 (fun W M E => p_ckb false n s false m t hn hm h1 h2 W), st mo ⟨fun h => absurd h (by decide), fun _ => st mo ?_⟩⟩
      refine ⟨_, fun nn => r_max s t, st mo ?_⟩
      refine ⟨_, fun nn => r_call (t := dw (n * 10 ^ i)) rfl rfl Tryz.func193 (fun W M E => p_lift false n s _ i hn ⟨s0, hS⟩ hi W), st mo ?_⟩
      refine ⟨_, fun nn => r_call (t := dw (m * 10 ^ j)) rfl rfl Tryz.func193 (fun W M E => p_lift false m t _ j hm ⟨t0, hS⟩ hj W), st mo ⟨dk, st mo ?_⟩⟩
      refine ⟨_, r_eqB false false, fun _ => st mo ?_, fun h => absurd h (by decide)⟩
      refine ⟨_, fun nn => r_call (t := dw (n * 10 ^ i + m * 10 ^ j)) rfl rfl Tryz.func194 (fun W M E => p_addD _ _ W), st mo ?_⟩
      refine ⟨_, fun nn => r_call (t := r.y) rfl rfl Tryz.func189 (fun W M E => p_dfit' hr bZ W), st mo ⟨dk, st mo ?_⟩⟩
      rfl
    · refine fn_pure [dcl litT n s, dcl litT m t] Tryz.func169 rfl rfl rfl (run_ok (st mo ?_))
      refine ⟨_, fun nn => r_call (t := .int .i64 0) rfl rfl Tryz.func185 (fun W M E => p_ckb true n s true m t hn hm h1 h2 W), st mo ⟨fun h => absurd h (by decide), fun _ => st mo ?_⟩⟩
      refine ⟨_, fun nn => r_max s t, st mo ?_⟩
      refine ⟨_, fun nn => r_call (t := dw (n * 10 ^ i)) rfl rfl Tryz.func193 (fun W M E => p_lift true n s _ i hn ⟨s0, hS⟩ hi W), st mo ?_⟩
      refine ⟨_, fun nn => r_call (t := dw (m * 10 ^ j)) rfl rfl Tryz.func193 (fun W M E => p_lift true m t _ j hm ⟨t0, hS⟩ hj W), st mo ⟨dk, st mo ?_⟩⟩
      refine ⟨_, r_eqB true true, fun _ => st mo ?_, fun h => absurd h (by decide)⟩
      refine ⟨_, fun nn => r_call (t := dw (n * 10 ^ i + m * 10 ^ j)) rfl rfl Tryz.func194 (fun W M E => p_addD _ _ W), st mo ?_⟩
      refine ⟨_, fun nn => r_call (t := r.y) rfl rfl Tryz.func189 (fun W M E => p_dfit' hr bZ W), st mo ⟨dk, st mo ?_⟩⟩
      rfl
  · obtain rfl : c = !b := by cases b <;> cases c <;> simp_all
    rw [addR_diff b hi hj]
    by_cases hlt : n * 10 ^ i < m * 10 ^ j
    · rw [if_pos hlt]
      have hc : cm (n * 10 ^ i) (m * 10 ^ j) = -1 := if_pos hlt
      have bZ : 0 ≤ m * 10 ^ j - n * 10 ^ i ∧ m * 10 ^ j - n * 10 ^ i < MM * MM := ⟨by omega, by unfold MM at *; omega⟩
      generalize hr : fxR (!b) (m * 10 ^ j - n * 10 ^ i) (max s t) = r
      cases b
      · refine fn_pure [dcl litF n s, dcl litT m t] Tryz.func169 rfl rfl rfl (run_ok (st mo ?_))
        refine ⟨_, fun nn => r_call (t := .int .i64 0) rfl rfl Tryz.func185 (fun W M E => p_ckb false n s true m t hn hm h1 h2 W), st mo ⟨fun h => absurd h (by decide), fun _ => st mo ?_⟩⟩
        refine ⟨_, fun nn => r_max s t, st mo ?_⟩
        refine ⟨_, fun nn => r_call (t := dw (n * 10 ^ i)) rfl rfl Tryz.func193 (fun W M E => p_lift false n s _ i hn ⟨s0, hS⟩ hi W), st mo ?_⟩
        refine ⟨_, fun nn => r_call (t := dw (m * 10 ^ j)) rfl rfl Tryz.func193 (fun W M E => p_lift true m t _ j hm ⟨t0, hS⟩ hj W), st mo ⟨dk, st mo ?_⟩⟩
        refine ⟨_, r_eqB false true, fun h => absurd h (by decide), fun _ => st mo ?_⟩
        refine ⟨_, fun nn => r_call (t := .int .i64 (-1)) rfl rfl Tryz.func195 (fun W M E => hc ▸ p_cmpD _ _ (lift_w bX) (lift_w bY) W), st mo ?_⟩
        refine ⟨fun _ => st mo ?_, fun h => absurd h (by decide)⟩
        refine ⟨_, fun nn => r_call (t := dw (m * 10 ^ j - n * 10 ^ i)) rfl rfl Tryz.func196 (fun W M E => p_subD _ _ W), st mo ?_⟩
        refine ⟨_, fun nn => r_call (t := r.y) rfl rfl Tryz.func189 (fun W M E => p_dfit' hr bZ W), st mo ⟨dk, st mo ?_⟩⟩
        rfl
      · refine fn_pure [dcl litT n s, dcl litF m t] Tryz.func169 rfl rfl rfl (run_ok (st mo ?_))
        refine ⟨_, fun nn => r_call (t := .int .i64 0) rfl rfl Tryz.func185 (fun W M E => p_ckb true n s false m t hn hm h1 h2 W), st mo ⟨fun h => absurd h (by decide), fun _ => st mo ?_⟩⟩
        refine ⟨_, fun nn => r_max s t, st mo ?_⟩
        refine ⟨_, fun nn => r_call (t := dw (n * 10 ^ i)) rfl rfl Tryz.func193 (fun W M E => p_lift true n s _ i hn ⟨s0, hS⟩ hi W), st mo ?_⟩
        refine ⟨_, fun nn => r_call (t := dw (m * 10 ^ j)) rfl rfl Tryz.func193 (fun W M E => p_lift false m t _ j hm ⟨t0, hS⟩ hj W), st mo ⟨dk, st mo ?_⟩⟩
        refine ⟨_, r_eqB true false, fun h => absurd h (by decide), fun _ => st mo ?_⟩
        refine ⟨_, fun nn => r_call (t := .int .i64 (-1)) rfl rfl Tryz.func195 (fun W M E => hc ▸ p_cmpD _ _ (lift_w bX) (lift_w bY) W), st mo ?_⟩
        refine ⟨fun _ => st mo ?_, fun h => absurd h (by decide)⟩
        refine ⟨_, fun nn => r_call (t := dw (m * 10 ^ j - n * 10 ^ i)) rfl rfl Tryz.func196 (fun W M E => p_subD _ _ W), st mo ?_⟩
        refine ⟨_, fun nn => r_call (t := r.y) rfl rfl Tryz.func189 (fun W M E => p_dfit' hr bZ W), st mo ⟨dk, st mo ?_⟩⟩
        rfl
    · rw [if_neg hlt]
      have hc : 0 ≤ cm (n * 10 ^ i) (m * 10 ^ j) := by unfold cm; rw [if_neg hlt]; split <;> decide
      have bZ : 0 ≤ n * 10 ^ i - m * 10 ^ j ∧ n * 10 ^ i - m * 10 ^ j < MM * MM := ⟨by omega, by unfold MM at *; omega⟩
      generalize hr : fxR b (n * 10 ^ i - m * 10 ^ j) (max s t) = r
      cases b
      · refine fn_pure [dcl litF n s, dcl litT m t] Tryz.func169 rfl rfl rfl (run_ok (st mo ?_))
        refine ⟨_, fun nn => r_call (t := .int .i64 0) rfl rfl Tryz.func185 (fun W M E => p_ckb false n s true m t hn hm h1 h2 W), st mo ⟨fun h => absurd h (by decide), fun _ => st mo ?_⟩⟩
        refine ⟨_, fun nn => r_max s t, st mo ?_⟩
        refine ⟨_, fun nn => r_call (t := dw (n * 10 ^ i)) rfl rfl Tryz.func193 (fun W M E => p_lift false n s _ i hn ⟨s0, hS⟩ hi W), st mo ?_⟩
        refine ⟨_, fun nn => r_call (t := dw (m * 10 ^ j)) rfl rfl Tryz.func193 (fun W M E => p_lift true m t _ j hm ⟨t0, hS⟩ hj W), st mo ⟨dk, st mo ?_⟩⟩
        refine ⟨_, r_eqB false true, fun h => absurd h (by decide), fun _ => st mo ?_⟩
        refine ⟨_, fun nn => r_call (t := .int .i64 (cm (n * 10 ^ i) (m * 10 ^ j))) rfl rfl Tryz.func195 (fun W M E => p_cmpD _ _ (lift_w bX) (lift_w bY) W), st mo ?_⟩
        refine ⟨fun h => absurd h (by omega), fun _ => st mo ?_⟩
        refine ⟨_, fun nn => r_call (t := dw (n * 10 ^ i - m * 10 ^ j)) rfl rfl Tryz.func196 (fun W M E => p_subD _ _ W), st mo ?_⟩
        refine ⟨_, fun nn => r_call (t := r.y) rfl rfl Tryz.func189 (fun W M E => p_dfit' hr bZ W), st mo ⟨dk, st mo ?_⟩⟩
        rfl
      · refine fn_pure [dcl litT n s, dcl litF m t] Tryz.func169 rfl rfl rfl (run_ok (st mo ?_))
        refine ⟨_, fun nn => r_call (t := .int .i64 0) rfl rfl Tryz.func185 (fun W M E => p_ckb true n s false m t hn hm h1 h2 W), st mo ⟨fun h => absurd h (by decide), fun _ => st mo ?_⟩⟩
        refine ⟨_, fun nn => r_max s t, st mo ?_⟩
        refine ⟨_, fun nn => r_call (t := dw (n * 10 ^ i)) rfl rfl Tryz.func193 (fun W M E => p_lift true n s _ i hn ⟨s0, hS⟩ hi W), st mo ?_⟩
        refine ⟨_, fun nn => r_call (t := dw (m * 10 ^ j)) rfl rfl Tryz.func193 (fun W M E => p_lift false m t _ j hm ⟨t0, hS⟩ hj W), st mo ⟨dk, st mo ?_⟩⟩
        refine ⟨_, r_eqB true false, fun h => absurd h (by decide), fun _ => st mo ?_⟩
        refine ⟨_, fun nn => r_call (t := .int .i64 (cm (n * 10 ^ i) (m * 10 ^ j))) rfl rfl Tryz.func195 (fun W M E => p_cmpD _ _ (lift_w bX) (lift_w bY) W), st mo ?_⟩
        refine ⟨fun h => absurd h (by omega), fun _ => st mo ?_⟩
        refine ⟨_, fun nn => r_call (t := dw (n * 10 ^ i - m * 10 ^ j)) rfl rfl Tryz.func196 (fun W M E => p_subD _ _ W), st mo ?_⟩
        refine ⟨_, fun nn => r_call (t := r.y) rfl rfl Tryz.func189 (fun W M E => p_dfit' hr bZ W), st mo ⟨dk, st mo ?_⟩⟩
        rfl
theorem neg_ck {c : Bool} {m t : Int} (h : ck c m t = 0) : ck (!c && !decide (m = 0)) m t = 0 := ck_ok (ck_s h) (by simp)
theorem neg_sgn {c : Bool} {m t : Int} (h : ck c m t = 0) : sgn (!c && !decide (m = 0)) m = -(sgn c m) := by
  have := (ck_0 h).2
  unfold sgn
  by_cases q : m = 0
  · subst q; cases c <;> rfl
  · cases c <;> simp [q]
set_option maxRecDepth 20000 in
theorem p_dneg (b : Bool) (n s : Int) (hn : 0 ≤ n ∧ n < MM) (h1 : ck b n s = 0) (w : World) : Calls Tryz.prog 136 #[dc b n s] w fun r W => r = .returned (negR b n s).v ∧ Mb w W := by
  cases b
  · refine fn_pure [dcl litF n s] Tryz.func136 rfl rfl rfl (run_ok (st mo ?_))
    refine ⟨_, fun nn => r_call (t := .int .i64 0) rfl rfl Tryz.func157 (fun W M E => p_dck' h1 hn W), st mo ⟨fun h => absurd h (by decide), fun _ => st mo ?_⟩⟩
    refine ⟨_, fun nn => r_call (t := dc (true && !decide (n = 0)) n s) rfl rfl Tryz.func168 (fun W M E => p_sgnd true n s hn W), st mo ?_⟩
    rfl
  · refine fn_pure [dcl litT n s] Tryz.func136 rfl rfl rfl (run_ok (st mo ?_))
    refine ⟨_, fun nn => r_call (t := .int .i64 0) rfl rfl Tryz.func157 (fun W M E => p_dck' h1 hn W), st mo ⟨fun h => absurd h (by decide), fun _ => st mo ?_⟩⟩
    refine ⟨_, fun nn => r_call (t := dc (false && !decide (n = 0)) n s) rfl rfl Tryz.func168 (fun W M E => p_sgnd false n s hn W), st mo ?_⟩
    rfl
set_option maxRecDepth 20000 in
theorem p_sub (b : Bool) (n s : Int) (c : Bool) (m t : Int) (hn : 0 ≤ n ∧ n < MM) (hm : 0 ≤ m ∧ m < MM) (h1 : ck b n s = 0) (h2 : ck c m t = 0) (w : World) : Calls Tryz.prog 170 #[dc b n s, dc c m t] w fun r W => r = .returned (subR b n s c m t).v ∧ Mb w W := by
  have e : subR b n s c m t = addR b n s (!c && !decide (m = 0)) m t := by unfold subR addR; rw [neg_sgn h2]
  refine fn_pure [dc b n s, dc c m t] Tryz.func170 rfl rfl rfl (run_ok (st mo ?_))
  refine ⟨_, fun nn => r_call (t := (negR c m t).y) rfl rfl Tryz.func136 (fun W M E => p_dneg c m t hm h2 W), st mo ?_⟩
  refine ⟨fun h => absurd (show (negR c m t).e = 0 from rfl) h, fun _ => st mo ?_⟩
  refine ⟨_, fun nn => r_call (t := (addR b n s (!c && !decide (m = 0)) m t).y) rfl rfl Tryz.func169 (fun W M E => p_add b n s _ m t hn hm h1 (neg_ck h2) W), st mo ?_⟩
  show _ = _; rw [e]; rfl
def sg (b : Bool) (n : Int) : Int := if n = 0 then 0 else if b then -1 else 1
set_option maxRecDepth 20000 in
theorem p_sign (b : Bool) (n s : Int) (hn : 0 ≤ n ∧ n < MM) (w : World) : Calls Tryz.prog 198 #[dc b n s] w fun r W => r = .returned (.int .i64 (sg b n)) ∧ Mb w W := by
  cases b
  · refine fn_pure [dcl litF n s] Tryz.func198 rfl rfl rfl (run_ok (st mo ?_))
    refine ⟨_, r_eqN n 0 hn MM_0, fun h => st mo ?_, fun h => st mo ?_⟩
    · show _ = _; rw [sg, if_pos (of_decide_eq_true h)]
    · show _ = _; rw [sg, if_neg (of_decide_eq_false h)]; rfl
  · refine fn_pure [dcl litT n s] Tryz.func198 rfl rfl rfl (run_ok (st mo ?_))
    refine ⟨_, r_eqN n 0 hn MM_0, fun h => st mo ?_, fun h => st mo ?_⟩
    · show _ = _; rw [sg, if_pos (of_decide_eq_true h)]
    · show _ = _; rw [sg, if_neg (of_decide_eq_false h)]; rfl
set_option maxRecDepth 20000 in
theorem p_nan (x : Int) (w : World) : Calls Tryz.prog 211 #[.int .i64 x] w fun r W => r = .returned (.bool false) ∧ Mb w W := by
  refine fn_pure [.int .i64 x] Tryz.func211 rfl rfl rfl (run_ok (st mo ?_))
  refine ⟨fun h => absurd rfl h, fun _ => st mo rfl⟩
set_option maxRecDepth 20000 in
theorem p_cmpI {x y c : Int} (hc : cm x y = c) (w : World) : Calls Tryz.prog 197 #[.int .i64 x, .int .i64 y] w fun r W => r = .returned (.int .i64 c) ∧ Mb w W := by
  subst hc
  refine fn_pure [.int .i64 x, .int .i64 y] Tryz.func197 rfl rfl rfl (run_ok (st mo ?_))
  refine ⟨_, fun nn => r_call (t := litF) rfl rfl Tryz.func211 (fun W M E => p_nan x W), st mo ?_⟩
  refine ⟨_, fun nn => r_call (t := litF) rfl rfl Tryz.func211 (fun W M E => p_nan y W), st mo ⟨fun h => st mo ?_, fun h => st mo ⟨fun h' => st mo ?_, fun h' => st mo ?_⟩⟩⟩
  · show _ = _; rw [cm, if_pos h]
  · show _ = _; rw [cm, if_neg (by omega), if_pos (by omega)]
  · show _ = _; rw [cm, if_neg (by omega), if_neg (by omega)]
/-- Numbers with signs stand as their signs do, else as their sizes. -/
theorem cm_sg {b c : Bool} {n m s t : Int} (h1 : ck b n s = 0) (h2 : ck c m t = 0) (hn : 0 ≤ n) (hm : 0 ≤ m) {i j : Nat} (h : ¬ cm (sg b n) (sg c m) = 0) : cm (sgn b n * 10 ^ i) (sgn c m * 10 ^ j) = cm (sg b n) (sg c m) := by
  have p : ∀ k : Nat, (0 : Int) < 10 ^ k := fun k => Int.pow_pos (by decide)
  have a1 := (ck_0 h1).2
  have a2 := (ck_0 h2).2
  have key : ∀ {b : Bool} {n : Int} (k : Nat), (b = true → ¬ n = 0) → 0 ≤ n → (sgn b n * 10 ^ k = 0 ∧ sg b n = 0) ∨ (0 < sgn b n * 10 ^ k ∧ sg b n = 1) ∨ (sgn b n * 10 ^ k < 0 ∧ sg b n = -1) := by
    intro b n k hb h0
    by_cases q : n = 0
    · subst q; left; cases b <;> simp [sgn, sg]
    · have := Int.mul_pos (show 0 < n by omega) (p k)
      cases b
      · right; left; refine ⟨by unfold sgn; simpa using this, ?_⟩; unfold sg; rw [if_neg q]; rfl
      · right; right; refine ⟨by unfold sgn; simp [Int.neg_mul]; omega, ?_⟩; unfold sg; rw [if_neg q]; rfl
  rcases key i a1 hn with ⟨e1, e2⟩ | ⟨e1, e2⟩ | ⟨e1, e2⟩ <;> rcases key j a2 hm with ⟨f1, f2⟩ | ⟨f1, f2⟩ | ⟨f1, f2⟩ <;> rw [e2, f2] at h ⊢ <;> first | exact absurd rfl h | (unfold cm; repeat (first | omega | split))
theorem cm_sz {b c : Bool} {n m s t : Int} (h1 : ck b n s = 0) (h2 : ck c m t = 0) (hn : 0 ≤ n) (hm : 0 ≤ m) {i j : Nat} (h : cm (sg b n) (sg c m) = 0) : cm (sgn b n * 10 ^ i) (sgn c m * 10 ^ j) = if b then -(cm (n * 10 ^ i) (m * 10 ^ j)) else cm (n * 10 ^ i) (m * 10 ^ j) := by
  have a1 := (ck_0 h1).2
  have a2 := (ck_0 h2).2
  by_cases q : n = 0
  · subst q
    have hb : b = false := by cases b; rfl; exact absurd rfl (a1 rfl)
    subst hb
    by_cases r : m = 0
    · subst r
      have hc : c = false := by cases c; rfl; exact absurd rfl (a2 rfl)
      subst hc; rfl
    · cases c <;> simp [sg, r, cm] at h
  · by_cases r : m = 0
    · subst r; cases b <;> simp [sg, q, cm] at h
    · have hbc : b = c := by cases b <;> cases c <;> simp [sg, q, r, cm] at h ⊢
      subst hbc
      cases b
      · rfl
      · simp only [sgn, if_true, Int.neg_mul]
        unfold cm
        repeat (first | omega | split)
theorem cm_b (a b : Int) : -1 ≤ cm a b ∧ cm a b ≤ 1 := by unfold cm; repeat (first | omega | split)
set_option maxRecDepth 20000 in
theorem p_dcmp (b : Bool) (n s : Int) (c : Bool) (m t : Int) (hn : 0 ≤ n ∧ n < MM) (hm : 0 ≤ m ∧ m < MM) (h1 : ck b n s = 0) (h2 : ck c m t = 0) (w : World) : Calls Tryz.prog 172 #[dc b n s, dc c m t] w fun r W => r = .returned (.int .i64 (cmpR b n s c m t)) ∧ Mb w W := by
  obtain ⟨i, j, hi, hj, hi8, hj8, s0, t0, hS⟩ := lifts (ck_s h1) (ck_s h2)
  have bX := lift_b hn hi8
  have bY := lift_b hm hj8
  have e1 := cm_sg (i := i) (j := j) h1 h2 hn.1 hm.1
  have e2 := cm_sz (i := i) (j := j) h1 h2 hn.1 hm.1
  have e : cmpR b n s c m t = cm (sgn b n * 10 ^ i) (sgn c m * 10 ^ j) := by unfold cmpR; rw [hi, hj]; rfl
  rw [e]; clear e
  have hb := cm_b (n * 10 ^ i) (m * 10 ^ j)
  cases b
  · refine fn_pure [dcl litF n s, dc c m t] Tryz.func172 rfl rfl rfl (run_ok (st mo ?_))
    refine ⟨_, fun nn => r_call (t := .int .i64 0) rfl rfl Tryz.func185 (fun W M E => p_ckb false n s c m t hn hm h1 h2 W), st mo ⟨fun h => absurd rfl h, fun _ => st mo ?_⟩⟩
    refine ⟨_, fun nn => r_call (t := .int .i64 (sg false n)) rfl rfl Tryz.func198 (fun W M E => p_sign false n s hn W), st mo ?_⟩
    refine ⟨_, fun nn => r_call (t := .int .i64 (sg c m)) rfl rfl Tryz.func198 (fun W M E => p_sign c m t hm W), st mo ?_⟩
    refine ⟨_, fun nn => r_call (t := .int .i64 (cm (sg false n) (sg c m))) rfl rfl Tryz.func197 (fun W M E => p_cmpI rfl W), st mo ⟨dk, st mo ⟨fun h => st mo ?_, fun h => st mo ?_⟩⟩⟩
    · show _ = _; rw [e1 h]
    · refine ⟨_, fun nn => r_max s t, st mo ?_⟩
      refine ⟨_, fun nn => r_call (t := dw (n * 10 ^ i)) rfl rfl Tryz.func193 (fun W M E => p_lift false n s _ i hn ⟨s0, hS⟩ hi W), st mo ?_⟩
      refine ⟨_, fun nn => r_call (t := dw (m * 10 ^ j)) rfl rfl Tryz.func193 (fun W M E => p_lift c m t _ j hm ⟨t0, hS⟩ hj W), st mo ?_⟩
      refine ⟨_, fun nn => r_call (t := .int .i64 (cm (n * 10 ^ i) (m * 10 ^ j))) rfl rfl Tryz.func195 (fun W M E => p_cmpD _ _ (lift_w bX) (lift_w bY) W), st mo ⟨dk, st mo ?_⟩⟩
      rw [e2 h]
      exact rfl
  · refine fn_pure [dcl litT n s, dc c m t] Tryz.func172 rfl rfl rfl (run_ok (st mo ?_))
    refine ⟨_, fun nn => r_call (t := .int .i64 0) rfl rfl Tryz.func185 (fun W M E => p_ckb true n s c m t hn hm h1 h2 W), st mo ⟨fun h => absurd rfl h, fun _ => st mo ?_⟩⟩
    refine ⟨_, fun nn => r_call (t := .int .i64 (sg true n)) rfl rfl Tryz.func198 (fun W M E => p_sign true n s hn W), st mo ?_⟩
    refine ⟨_, fun nn => r_call (t := .int .i64 (sg c m)) rfl rfl Tryz.func198 (fun W M E => p_sign c m t hm W), st mo ?_⟩
    refine ⟨_, fun nn => r_call (t := .int .i64 (cm (sg true n) (sg c m))) rfl rfl Tryz.func197 (fun W M E => p_cmpI rfl W), st mo ⟨dk, st mo ⟨fun h => st mo ?_, fun h => st mo ?_⟩⟩⟩
    · show _ = _; rw [e1 h]
    · refine ⟨_, fun nn => r_max s t, st mo ?_⟩
      refine ⟨_, fun nn => r_call (t := dw (n * 10 ^ i)) rfl rfl Tryz.func193 (fun W M E => p_lift true n s _ i hn ⟨s0, hS⟩ hi W), st mo ?_⟩
      refine ⟨_, fun nn => r_call (t := dw (m * 10 ^ j)) rfl rfl Tryz.func193 (fun W M E => p_lift c m t _ j hm ⟨t0, hS⟩ hj W), st mo ?_⟩
      refine ⟨_, fun nn => r_call (t := .int .i64 (cm (n * 10 ^ i) (m * 10 ^ j))) rfl rfl Tryz.func195 (fun W M E => p_cmpD _ _ (lift_w bX) (lift_w bY) W), st mo ⟨dk, st mo ?_⟩⟩
      rw [e2 h]
      exact ⟨-(cm (n * 10 ^ i) (m * 10 ^ j)), (by rw [wi (by omega)]; omega), st mo rfl⟩
def rkE (S p : Int) : Int := if sc S then (if 1 ≤ p ∧ p ≤ 5 then 0 else 22) else 21
set_option maxRecDepth 20000 in
theorem p_ckR (S p : Int) (w : World) : Calls Tryz.prog 186 #[.int .i64 S, .int .i64 p] w fun r W => r = .returned (.int .i64 (rkE S p)) ∧ Mb w W := by
  refine fn_pure [.int .i64 S, .int .i64 p] Tryz.func186 rfl rfl rfl (run_ok (st mo ?_))
  cases hs : sc S with
  | false =>
    refine ⟨_, fun nn => r_call (t := litF) rfl rfl Tryz.func184 (fun W M E => p_isSc' hs W), st mo ?_⟩
    show _ = _; rw [rkE, hs]; rfl
  | true =>
    refine ⟨_, fun nn => r_call (t := litT) rfl rfl Tryz.func184 (fun W M E => p_isSc' hs W), st mo ?_⟩
    refine ⟨fun h => st mo ?_, fun h1 => st mo ⟨fun h => st mo ?_, fun h2 => st mo ⟨fun h => st mo ?_, fun h3 => st mo ⟨fun h => st mo ?_, fun h4 => st mo ⟨fun h => st mo ?_, fun h5 => st mo ?_⟩⟩⟩⟩⟩
    iterate 5 (show _ = _; rw [rkE, hs, if_pos rfl, if_pos (by omega)])
    show _ = _; rw [rkE, hs, if_pos rfl, if_neg (by omega)]
set_option maxRecDepth 20000 in
theorem p_half (r d : Int) (hr : 0 ≤ r ∧ r + r < MM) (hd : 0 ≤ d ∧ d < MM) (w : World) : Calls Tryz.prog 222 #[nv r, nv d] w fun e W => e = .returned (.int .i64 (cm (r + r) d)) ∧ Mb w W := by
  refine fn_pure [nv r, nv d] Tryz.func222 rfl rfl rfl (run_ok (st mo ?_))
  refine ⟨_, fun nn => r_call (t := .tuple #[nv (r + r), .bool (decide (MM ≤ r % MM + r % MM))]) rfl rfl Tryz.func207 (fun W M E => add_c r r W), st mo ?_⟩
  refine ⟨_, fun nn => r_call (t := .int .i64 (cm (r + r) d)) rfl rfl Tryz.func209 (fun W M E => cmp_c ⟨by omega, hr.2⟩ hd rfl W), st mo ?_⟩
  rfl
theorem cm_g {a b : Int} : (0 ≤ cm a b ↔ b ≤ a) ∧ (0 < cm a b ↔ b < a) ∧ (cm a b = 0 ↔ a = b) := by
  unfold cm
  refine ⟨?_, ?_, ?_⟩ <;> (repeat (first | omega | split))
set_option maxRecDepth 20000 in
theorem p_away (b : Bool) (q r d p : Int) (hr : 0 ≤ r ∧ r + r < MM) (hd : 0 ≤ d ∧ d < MM) (w : World) : Calls Tryz.prog 206 #[.bool b, nv q, nv r, nv d, .int .i64 p] w fun e W => e = .returned (.bool (aw b q r d p)) ∧ Mb w W := by
  obtain ⟨g1, g2, g3⟩ := @cm_g (r + r) d
  cases b
  · refine fn_pure [litF, nv q, nv r, nv d, .int .i64 p] Tryz.func206 rfl rfl rfl (run_ok (st mo ?_))
    refine ⟨_, r_eqN r 0 ⟨hr.1, by omega⟩ MM_0, fun h => st mo ?_, fun h0 => st mo ?_⟩
    · show _ = _; rw [aw, if_pos (of_decide_eq_true h)]
    have h0 := of_decide_eq_false h0
    refine ⟨fun h1 => st mo ?_, fun h1 => st mo ⟨fun h2 => st mo ?_, fun h2 => st mo ⟨fun h4 => st mo ?_, fun h4 => st mo ⟨fun h5 => st mo ?_, fun h5 => st mo ?_⟩⟩⟩⟩
    · refine ⟨_, fun nn => r_call (t := .int .i64 (cm (r + r) d)) rfl rfl Tryz.func222 (fun W M E => p_half r d hr hd W), st mo ⟨fun h => st mo ?_, fun h => st mo ?_⟩⟩
      · show _ = _; rw [aw, if_neg h0, if_pos h1, decide_eq_true (g1.1 h)]
      · show _ = _; rw [aw, if_neg h0, if_pos h1, decide_eq_false (by omega)]
    · refine ⟨_, fun nn => r_call (t := .int .i64 (cm (r + r) d)) rfl rfl Tryz.func222 (fun W M E => p_half r d hr hd W), st mo ⟨fun h => st mo ?_, fun h => st mo ⟨fun g => st mo ?_, fun g => st mo ?_⟩⟩⟩
      · show _ = _; rw [aw, if_neg h0, if_neg h1, if_pos h2, decide_eq_true (g2.1 h)]; rfl
      · cases ho : decide (q % 2 = 1) with
        | true =>
          refine ⟨_, fun nn => r_call (t := litT) rfl rfl Tryz.func223 (fun W M E => p_odd' ho W), st mo ?_⟩
          show _ = _; rw [aw, if_neg h0, if_neg h1, if_pos h2, decide_eq_true (g3.1 g), ho]; simp
        | false =>
          refine ⟨_, fun nn => r_call (t := litF) rfl rfl Tryz.func223 (fun W M E => p_odd' ho W), st mo ?_⟩
          show _ = _; rw [aw, if_neg h0, if_neg h1, if_pos h2, decide_eq_false (by omega : ¬ d < r + r), ho]; simp
      · show _ = _; rw [aw, if_neg h0, if_neg h1, if_pos h2, decide_eq_false (by omega), decide_eq_false (by omega)]; rfl
    · show _ = _; rw [aw, if_neg h0, if_neg h1, if_neg h2, if_pos h4]
    · show _ = _; rw [aw, if_neg h0, if_neg h1, if_neg h2, if_neg h4, if_pos h5]
    · show _ = _; rw [aw, if_neg h0, if_neg h1, if_neg h2, if_neg h4, if_neg h5]
  · refine fn_pure [litT, nv q, nv r, nv d, .int .i64 p] Tryz.func206 rfl rfl rfl (run_ok (st mo ?_))
    refine ⟨_, r_eqN r 0 ⟨hr.1, by omega⟩ MM_0, fun h => st mo ?_, fun h0 => st mo ?_⟩
    · show _ = _; rw [aw, if_pos (of_decide_eq_true h)]
    have h0 := of_decide_eq_false h0
    refine ⟨fun h1 => st mo ?_, fun h1 => st mo ⟨fun h2 => st mo ?_, fun h2 => st mo ⟨fun h4 => st mo ?_, fun h4 => st mo ⟨fun h5 => st mo ?_, fun h5 => st mo ?_⟩⟩⟩⟩
    · refine ⟨_, fun nn => r_call (t := .int .i64 (cm (r + r) d)) rfl rfl Tryz.func222 (fun W M E => p_half r d hr hd W), st mo ⟨fun h => st mo ?_, fun h => st mo ?_⟩⟩
      · show _ = _; rw [aw, if_neg h0, if_pos h1, decide_eq_true (g1.1 h)]
      · show _ = _; rw [aw, if_neg h0, if_pos h1, decide_eq_false (by omega)]
    · refine ⟨_, fun nn => r_call (t := .int .i64 (cm (r + r) d)) rfl rfl Tryz.func222 (fun W M E => p_half r d hr hd W), st mo ⟨fun h => st mo ?_, fun h => st mo ⟨fun g => st mo ?_, fun g => st mo ?_⟩⟩⟩
      · show _ = _; rw [aw, if_neg h0, if_neg h1, if_pos h2, decide_eq_true (g2.1 h)]; rfl
      · cases ho : decide (q % 2 = 1) with
        | true =>
          refine ⟨_, fun nn => r_call (t := litT) rfl rfl Tryz.func223 (fun W M E => p_odd' ho W), st mo ?_⟩
          show _ = _; rw [aw, if_neg h0, if_neg h1, if_pos h2, decide_eq_true (g3.1 g), ho]; simp
        | false =>
          refine ⟨_, fun nn => r_call (t := litF) rfl rfl Tryz.func223 (fun W M E => p_odd' ho W), st mo ?_⟩
          show _ = _; rw [aw, if_neg h0, if_neg h1, if_pos h2, decide_eq_false (by omega : ¬ d < r + r), ho]; simp
      · show _ = _; rw [aw, if_neg h0, if_neg h1, if_pos h2, decide_eq_false (by omega), decide_eq_false (by omega)]; rfl
    · show _ = _; rw [aw, if_neg h0, if_neg h1, if_neg h2, if_pos h4]
    · show _ = _; rw [aw, if_neg h0, if_neg h1, if_neg h2, if_neg h4, if_pos h5]
    · show _ = _; rw [aw, if_neg h0, if_neg h1, if_neg h2, if_neg h4, if_neg h5]
theorem wide_dm (X : Int) : X / MM * MM + X % MM = X := by have := Int.mul_ediv_add_emod X MM; rw [Int.mul_comm] at this; exact this
theorem div_c {X D : Int} {q r : Int} {o : Bool} (hX : 0 ≤ X ∧ X < MM * MM) (hD : 0 ≤ D ∧ D < MM) (h : dq (X / MM) (X % MM) D = q ∧ dr (X / MM) (X % MM) D = r ∧ decide (X / MM < D) = o) (W : World) : Calls Tryz.prog 205 #[nv (X / MM), nv X, nv D] W fun e W' => e = .returned (.tuple #[nv q, nv r, .bool o]) ∧ Mb W W' := by
  have a := div_n (X / MM) (X % MM) D W (hi_b hX).1 (hi_b hX).2 (lo_b X).1 (lo_b X).2 hD.1 hD.2
  obtain ⟨h1, h2, h3⟩ := h
  rw [nv_mod, h1, h2, show dok (X / MM) D = o from h3] at a
  exact a.mono fun _ _ ⟨a, b⟩ => ⟨a, b.mb⟩
theorem dq_ok {X D : Int} (h : X / MM < D) : dq (X / MM) (X % MM) D = X / D ∧ dr (X / MM) (X % MM) D = X % D ∧ decide (X / MM < D) = true := by
  unfold dq dr
  rw [if_neg (by omega), if_neg (by omega), wide_dm]
  exact ⟨rfl, rfl, decide_eq_true h⟩
theorem q_b {X D : Int} (hX : 0 ≤ X) (hD : 0 < D) (h : X / MM < D) : 0 ≤ X / D ∧ X / D < MM := by
  refine ⟨Int.ediv_nonneg hX (Int.le_of_lt hD), Int.ediv_lt_of_lt_mul hD ?_⟩
  have h1 := wide_dm X
  have h2 := (lo_b X).2
  have h3 : X / MM + 1 ≤ D := h
  have h4 : (X / MM + 1) * MM ≤ D * MM := Int.mul_le_mul_of_nonneg_right h3 (Int.le_of_lt MM_p)
  rw [Int.add_mul, Int.one_mul] at h4
  rw [Int.mul_comm MM D]
  omega
theorem qt_no {X D : Int} (hD : 0 < D) (h : ¬ X / MM < D) : MM ≤ X / D := by
  refine (Int.le_ediv_iff_mul_le hD).2 ?_
  have h1 := wide_dm X
  have h2 := (lo_b X).1
  have h4 : D * MM ≤ X / MM * MM := Int.mul_le_mul_of_nonneg_right (by omega) (Int.le_of_lt MM_p)
  rw [Int.mul_comm MM D]
  omega
theorem p10_s {k : Nat} (h : k ≤ 36) : 0 < (10 : Int) ^ k ∧ (10 : Int) ^ k < MM ∧ 10 ^ k + 10 ^ k < MM := by
  have h1 : (10 : Nat) ^ k ≤ 10 ^ 36 := Nat.pow_le_pow_right (by decide) h
  have h3 : ((10 ^ k : Nat) : Int) = (10 : Int) ^ k := by rw [Int.natCast_pow]; rfl
  have h2 : ((10 ^ 36 : Nat) : Int) + ((10 ^ 36 : Nat) : Int) < MM := by decide
  have h4 := Int.ofNat_le.2 h1
  have h5 : (0 : Int) < 10 ^ k := Int.pow_pos (by decide)
  rw [← h3] at h5 ⊢
  refine ⟨h5, ?_, ?_⟩ <;> omega
theorem p_ten' {k : Nat} {D : Int} (h : 10 ^ k = D) (hk : k ≤ 77) (w : World) : Calls Tryz.prog 190 #[.int .i64 (k : Int)] w fun r W => r = .returned (nv D) ∧ Mb w W := h ▸ p_ten k hk w
set_option maxRecDepth 20000 in
theorem p_short (b : Bool) (X S p : Int) (k : Nat) (hX : 0 ≤ X ∧ X < MM * MM) (hk : k ≤ 36) (w : World) : Calls Tryz.prog 188 #[.bool b, dw X, .int .i64 (k : Int), .int .i64 S, .int .i64 p] w fun e W => e = .returned (fxR b (ro b X k p) S).v ∧ Mb w W := by
  obtain ⟨d0, d1, d2⟩ := p10_s hk
  generalize hR : fxR b (ro b X k p) S = R
  obtain ⟨D, hD⟩ : ∃ D, (10 : Int) ^ k = D := ⟨_, rfl⟩
  unfold ro at hR
  rw [hD] at hR d0 d1 d2
  refine fn_pure [.bool b, dw X, .int .i64 (k : Int), .int .i64 S, .int .i64 p] Tryz.func188 rfl rfl rfl (run_ok (st mo ?_))
  refine ⟨_, fun nn => r_call (t := nv D) rfl rfl Tryz.func190 (fun W M E => p_ten' hD (by omega) W), st mo ?_⟩
  by_cases ho : X / MM < D
  · have hq := q_b hX.1 d0 ho
    have hr : 0 ≤ X % D ∧ X % D < D := ⟨Int.emod_nonneg _ (by omega), Int.emod_lt_of_pos _ d0⟩
    have hdv := dq_ok ho
    generalize hqe : X / D = q at hR hq hdv
    generalize hre : X % D = r at hR hr hdv
    refine ⟨_, fun nn => r_call (t := .tuple #[nv q, nv r, litT]) rfl rfl Tryz.func205 (fun W M E => div_c hX ⟨by omega, d1⟩ hdv W), st mo ?_⟩
    have hA := p_away b q r D p ⟨hr.1, by omega⟩ ⟨by omega, d1⟩
    cases ha : aw b q r D p with
    | false =>
      rw [ha] at hA hR
      rw [show q + (if false = true then (1 : Int) else 0) = q by simp, fx_0 hq.2] at hR
      refine ⟨_, fun nn => r_call (t := litF) rfl rfl Tryz.func206 (fun W M E => hA W), st mo ?_⟩
      refine ⟨_, fun nn => r_call (t := dc (b && !decide (q = 0)) q S) rfl rfl Tryz.func168 (fun W M E => p_sgnd b q S hq W), st mo ?_⟩
      subst hR; rfl
    | true =>
      rw [ha] at hA hR
      rw [show q + (if true = true then (1 : Int) else 0) = q + 1 by simp] at hR
      refine ⟨_, fun nn => r_call (t := litT) rfl rfl Tryz.func206 (fun W M E => hA W), st mo ?_⟩
      refine ⟨_, fun nn => r_call (t := nv 1) rfl rfl Tryz.func159 (fun W M E => p_from 1 (by decide) W), st mo ?_⟩
      by_cases hov : MM ≤ q + 1
      · rw [fx_7 (by omega)] at hR
        refine ⟨_, fun nn => r_call (t := .tuple #[nv (q + 1), litT]) rfl rfl Tryz.func207 (fun W M E => add_c' (X := q) (Y := 1) rfl (decide_eq_true (by rw [lo_n hq.2 hq.1]; exact hov)) W), st mo ⟨dk, st mo ?_⟩⟩
        subst hR; rfl
      · rw [fx_0 (by omega)] at hR
        refine ⟨_, fun nn => r_call (t := .tuple #[nv (q + 1), litF]) rfl rfl Tryz.func207 (fun W M E => add_c' (X := q) (Y := 1) rfl (decide_eq_false (by rw [lo_n hq.2 hq.1]; exact hov)) W), st mo ⟨dk, st mo ?_⟩⟩
        refine ⟨_, fun nn => r_call (t := dc (b && !decide (q + 1 = 0)) (q + 1) S) rfl rfl Tryz.func168 (fun W M E => p_sgnd b (q + 1) S ⟨by omega, by omega⟩ W), st mo ?_⟩
        subst hR; rfl
  · have hq := qt_no d0 ho
    refine ⟨_, fun nn => r_call (t := .tuple #[nv (dq (X / MM) (X % MM) D), nv (dr (X / MM) (X % MM) D), litF]) rfl rfl Tryz.func205 (fun W M E => div_c hX ⟨by omega, d1⟩ ⟨rfl, rfl, decide_eq_false ho⟩ W), st mo ?_⟩
    have : ¬ X / D + (if aw b (X / D) (X % D) D p = true then 1 else 0) < MM := by split <;> omega
    rw [fx_7 this] at hR
    subst hR; rfl
theorem p_short' {b : Bool} {X S p : Int} {k : Nat} {R : DR} (h : fxR b (ro b X k p) S = R) (hX : 0 ≤ X ∧ X < MM * MM) (hk : k ≤ 36) (w : World) : Calls Tryz.prog 188 #[.bool b, dw X, .int .i64 (k : Int), .int .i64 S, .int .i64 p] w fun e W => e = .returned R.v ∧ Mb w W := h ▸ p_short b X S p k hX hk w
theorem mul_b {n m : Int} (hn : 0 ≤ n ∧ n < MM) (hm : 0 ≤ m ∧ m < MM) : 0 ≤ n * m ∧ n * m < MM * MM :=
  ⟨Int.mul_nonneg hn.1 hm.1, Int.lt_of_le_of_lt (Int.mul_le_mul_of_nonneg_left (Int.le_of_lt hm.2) hn.1) (Int.mul_lt_mul_of_pos_right hn.2 MM_p)⟩
theorem mto_e {b : Bool} {n s : Int} {c : Bool} {m t S p : Int} (h : rkE S p ≠ 0) : mtoR b n s c m t S p = erR (rkE S p) := by
  unfold mtoR rkE at *
  by_cases q : sc S = true
  · by_cases r : 1 ≤ p ∧ p ≤ 5
    · simp [q, r] at h
    · simp [q, r]
  · simp [q]
set_option maxRecDepth 20000 in
theorem p_mto (b : Bool) (n s : Int) (c : Bool) (m t S p : Int) (hn : 0 ≤ n ∧ n < MM) (hm : 0 ≤ m ∧ m < MM) (h1 : ck b n s = 0) (h2 : ck c m t = 0) (w : World) : Calls Tryz.prog 158 #[dc b n s, dc c m t, .int .i64 S, .int .i64 p] w fun e W => e = .returned (mtoR b n s c m t S p).v ∧ Mb w W := by
  obtain ⟨s0, s1⟩ := sc_iff.1 (ck_s h1)
  obtain ⟨t0, t1⟩ := sc_iff.1 (ck_s h2)
  have hX := mul_b hn hm
  generalize hR : mtoR b n s c m t S p = R
  cases b
  · cases c
    · refine fn_pure [dcl litF n s, dcl litF m t, .int .i64 S, .int .i64 p] Tryz.func158 rfl rfl rfl (run_ok (st mo ?_))
      refine ⟨_, fun nn => r_call (t := .int .i64 0) rfl rfl Tryz.func185 (fun W M E => p_ckb false n s false m t hn hm h1 h2 W), st mo ⟨fun h => absurd rfl h, fun _ => st mo ?_⟩⟩
      refine ⟨_, fun nn => r_call (t := .int .i64 (rkE S p)) rfl rfl Tryz.func186 (fun W M E => p_ckR S p W), st mo ⟨fun h => st mo ?_, fun h => st mo ?_⟩⟩
      · have : mtoR false n s false m t S p = erR (rkE S p) := mto_e h
        rw [this] at hR; subst hR; rfl
      · have hk : sc S = true ∧ 1 ≤ p ∧ p ≤ 5 := by unfold rkE at h; by_cases q : sc S = true <;> by_cases r : 1 ≤ p ∧ p ≤ 5 <;> simp [q, r] at h; exact ⟨q, r⟩
        obtain ⟨S0, S1⟩ := sc_iff.1 hk.1
        unfold mtoR at hR
        rw [hk.1, if_pos rfl, if_pos hk.2] at hR
        refine ⟨_, r_neB false false, fun h => absurd h (by decide), fun _ => st mo ?_⟩
        refine ⟨_, fun nn => r_call (t := dw (n * m)) rfl rfl Tryz.func187 (fun W M E => p_mulD n m hn hm W), st mo ⟨dk, st mo ?_⟩⟩
        unfold rdV at hR
        by_cases hle : s + t ≤ S
        · rw [if_pos hle] at hR
          obtain ⟨k, hk'⟩ : ∃ k : Nat, S - (s + t) = (k : Int) := ⟨(S - (s + t)).toNat, by omega⟩
          rw [hk', pw_nat] at hR
          refine ⟨s + t, wi (by omega), st mo ⟨s + t - S, wi (by omega), st mo ⟨fun h => absurd h (by omega), fun _ => st mo ?_⟩⟩⟩
          have p1 : (1 : Int) ≤ 10 ^ k := by have : (0 : Int) < 10 ^ k := Int.pow_pos (by decide); omega
          refine ⟨_, r_neN (n * m / MM) 0 (hi_b hX) MM_0, fun h => st mo ?_, fun h => st mo ?_⟩
          · have h : ¬ n * m < MM := fun q => by rw [hi_0 q hX.1] at h; cases h
            have := Int.mul_le_mul_of_nonneg_left p1 hX.1
            rw [fx_7 (by omega)] at hR
            subst hR; rfl
          · have h : n * m < MM := Classical.byContradiction fun q => by rw [decide_eq_false (hi_1 q)] at h; cases h
            refine ⟨(k : Int), wz k (by omega), st mo ?_⟩
            refine ⟨_, fun nn => r_call (t := nv (10 ^ k)) rfl rfl Tryz.func190 (fun W M E => p_ten k (by omega) W), st mo ?_⟩
            refine ⟨_, fun nn => r_call (t := dw (n * m * 10 ^ k)) rfl rfl Tryz.func187 (fun W M E => p_mulD (n * m) (10 ^ k) ⟨hX.1, h⟩ (p10_b (by omega)) W), st mo ?_⟩
            refine ⟨_, fun nn => r_call (t := R.y) rfl rfl Tryz.func189 (fun W M E => p_dfit' hR (mul_b ⟨hX.1, h⟩ (p10_b (by omega))) W), st mo ⟨dk, st mo ?_⟩⟩
            rfl
        · rw [if_neg hle] at hR
          obtain ⟨k, hk'⟩ : ∃ k : Nat, s + t - S = (k : Int) := ⟨(s + t - S).toNat, by omega⟩
          rw [hk', Int.toNat_natCast] at hR
          refine ⟨s + t, wi (by omega), st mo ⟨(k : Int), wz k (by omega), st mo ⟨fun _ => st mo ?_, fun h => absurd h (by omega)⟩⟩⟩
          refine ⟨_, fun nn => r_call (t := R.y) rfl rfl Tryz.func188 (fun W M E => p_short' hR hX (by omega) W), st mo ?_⟩
          rfl
    · refine fn_pure [dcl litF n s, dcl litT m t, .int .i64 S, .int .i64 p] Tryz.func158 rfl rfl rfl (run_ok (st mo ?_))
      refine ⟨_, fun nn => r_call (t := .int .i64 0) rfl rfl Tryz.func185 (fun W M E => p_ckb false n s true m t hn hm h1 h2 W), st mo ⟨fun h => absurd rfl h, fun _ => st mo ?_⟩⟩
      refine ⟨_, fun nn => r_call (t := .int .i64 (rkE S p)) rfl rfl Tryz.func186 (fun W M E => p_ckR S p W), st mo ⟨fun h => st mo ?_, fun h => st mo ?_⟩⟩
      · have : mtoR false n s true m t S p = erR (rkE S p) := mto_e h
        rw [this] at hR; subst hR; rfl
      · have hk : sc S = true ∧ 1 ≤ p ∧ p ≤ 5 := by unfold rkE at h; by_cases q : sc S = true <;> by_cases r : 1 ≤ p ∧ p ≤ 5 <;> simp [q, r] at h; exact ⟨q, r⟩
        obtain ⟨S0, S1⟩ := sc_iff.1 hk.1
        unfold mtoR at hR
        rw [hk.1, if_pos rfl, if_pos hk.2] at hR
        refine ⟨_, r_neB false true, fun _ => st mo ?_, fun h => absurd h (by decide)⟩
        refine ⟨_, fun nn => r_call (t := dw (n * m)) rfl rfl Tryz.func187 (fun W M E => p_mulD n m hn hm W), st mo ⟨dk, st mo ?_⟩⟩
        unfold rdV at hR
        by_cases hle : s + t ≤ S
        · rw [if_pos hle] at hR
          obtain ⟨k, hk'⟩ : ∃ k : Nat, S - (s + t) = (k : Int) := ⟨(S - (s + t)).toNat, by omega⟩
          rw [hk', pw_nat] at hR
          refine ⟨s + t, wi (by omega), st mo ⟨s + t - S, wi (by omega), st mo ⟨fun h => absurd h (by omega), fun _ => st mo ?_⟩⟩⟩
          have p1 : (1 : Int) ≤ 10 ^ k := by have : (0 : Int) < 10 ^ k := Int.pow_pos (by decide); omega
          refine ⟨_, r_neN (n * m / MM) 0 (hi_b hX) MM_0, fun h => st mo ?_, fun h => st mo ?_⟩
          · have h : ¬ n * m < MM := fun q => by rw [hi_0 q hX.1] at h; cases h
            have := Int.mul_le_mul_of_nonneg_left p1 hX.1
            rw [fx_7 (by omega)] at hR
            subst hR; rfl
          · have h : n * m < MM := Classical.byContradiction fun q => by rw [decide_eq_false (hi_1 q)] at h; cases h
            refine ⟨(k : Int), wz k (by omega), st mo ?_⟩
            refine ⟨_, fun nn => r_call (t := nv (10 ^ k)) rfl rfl Tryz.func190 (fun W M E => p_ten k (by omega) W), st mo ?_⟩
            refine ⟨_, fun nn => r_call (t := dw (n * m * 10 ^ k)) rfl rfl Tryz.func187 (fun W M E => p_mulD (n * m) (10 ^ k) ⟨hX.1, h⟩ (p10_b (by omega)) W), st mo ?_⟩
            refine ⟨_, fun nn => r_call (t := R.y) rfl rfl Tryz.func189 (fun W M E => p_dfit' hR (mul_b ⟨hX.1, h⟩ (p10_b (by omega))) W), st mo ⟨dk, st mo ?_⟩⟩
            rfl
        · rw [if_neg hle] at hR
          obtain ⟨k, hk'⟩ : ∃ k : Nat, s + t - S = (k : Int) := ⟨(s + t - S).toNat, by omega⟩
          rw [hk', Int.toNat_natCast] at hR
          refine ⟨s + t, wi (by omega), st mo ⟨(k : Int), wz k (by omega), st mo ⟨fun _ => st mo ?_, fun h => absurd h (by omega)⟩⟩⟩
          refine ⟨_, fun nn => r_call (t := R.y) rfl rfl Tryz.func188 (fun W M E => p_short' hR hX (by omega) W), st mo ?_⟩
          rfl
  · cases c
    · refine fn_pure [dcl litT n s, dcl litF m t, .int .i64 S, .int .i64 p] Tryz.func158 rfl rfl rfl (run_ok (st mo ?_))
      refine ⟨_, fun nn => r_call (t := .int .i64 0) rfl rfl Tryz.func185 (fun W M E => p_ckb true n s false m t hn hm h1 h2 W), st mo ⟨fun h => absurd rfl h, fun _ => st mo ?_⟩⟩
      refine ⟨_, fun nn => r_call (t := .int .i64 (rkE S p)) rfl rfl Tryz.func186 (fun W M E => p_ckR S p W), st mo ⟨fun h => st mo ?_, fun h => st mo ?_⟩⟩
      · have : mtoR true n s false m t S p = erR (rkE S p) := mto_e h
        rw [this] at hR; subst hR; rfl
      · have hk : sc S = true ∧ 1 ≤ p ∧ p ≤ 5 := by unfold rkE at h; by_cases q : sc S = true <;> by_cases r : 1 ≤ p ∧ p ≤ 5 <;> simp [q, r] at h; exact ⟨q, r⟩
        obtain ⟨S0, S1⟩ := sc_iff.1 hk.1
        unfold mtoR at hR
        rw [hk.1, if_pos rfl, if_pos hk.2] at hR
        refine ⟨_, r_neB true false, fun _ => st mo ?_, fun h => absurd h (by decide)⟩
        refine ⟨_, fun nn => r_call (t := dw (n * m)) rfl rfl Tryz.func187 (fun W M E => p_mulD n m hn hm W), st mo ⟨dk, st mo ?_⟩⟩
        unfold rdV at hR
        by_cases hle : s + t ≤ S
        · rw [if_pos hle] at hR
          obtain ⟨k, hk'⟩ : ∃ k : Nat, S - (s + t) = (k : Int) := ⟨(S - (s + t)).toNat, by omega⟩
          rw [hk', pw_nat] at hR
          refine ⟨s + t, wi (by omega), st mo ⟨s + t - S, wi (by omega), st mo ⟨fun h => absurd h (by omega), fun _ => st mo ?_⟩⟩⟩
          have p1 : (1 : Int) ≤ 10 ^ k := by have : (0 : Int) < 10 ^ k := Int.pow_pos (by decide); omega
          refine ⟨_, r_neN (n * m / MM) 0 (hi_b hX) MM_0, fun h => st mo ?_, fun h => st mo ?_⟩
          · have h : ¬ n * m < MM := fun q => by rw [hi_0 q hX.1] at h; cases h
            have := Int.mul_le_mul_of_nonneg_left p1 hX.1
            rw [fx_7 (by omega)] at hR
            subst hR; rfl
          · have h : n * m < MM := Classical.byContradiction fun q => by rw [decide_eq_false (hi_1 q)] at h; cases h
            refine ⟨(k : Int), wz k (by omega), st mo ?_⟩
            refine ⟨_, fun nn => r_call (t := nv (10 ^ k)) rfl rfl Tryz.func190 (fun W M E => p_ten k (by omega) W), st mo ?_⟩
            refine ⟨_, fun nn => r_call (t := dw (n * m * 10 ^ k)) rfl rfl Tryz.func187 (fun W M E => p_mulD (n * m) (10 ^ k) ⟨hX.1, h⟩ (p10_b (by omega)) W), st mo ?_⟩
            refine ⟨_, fun nn => r_call (t := R.y) rfl rfl Tryz.func189 (fun W M E => p_dfit' hR (mul_b ⟨hX.1, h⟩ (p10_b (by omega))) W), st mo ⟨dk, st mo ?_⟩⟩
            rfl
        · rw [if_neg hle] at hR
          obtain ⟨k, hk'⟩ : ∃ k : Nat, s + t - S = (k : Int) := ⟨(s + t - S).toNat, by omega⟩
          rw [hk', Int.toNat_natCast] at hR
          refine ⟨s + t, wi (by omega), st mo ⟨(k : Int), wz k (by omega), st mo ⟨fun _ => st mo ?_, fun h => absurd h (by omega)⟩⟩⟩
          refine ⟨_, fun nn => r_call (t := R.y) rfl rfl Tryz.func188 (fun W M E => p_short' hR hX (by omega) W), st mo ?_⟩
          rfl
    · refine fn_pure [dcl litT n s, dcl litT m t, .int .i64 S, .int .i64 p] Tryz.func158 rfl rfl rfl (run_ok (st mo ?_))
      refine ⟨_, fun nn => r_call (t := .int .i64 0) rfl rfl Tryz.func185 (fun W M E => p_ckb true n s true m t hn hm h1 h2 W), st mo ⟨fun h => absurd rfl h, fun _ => st mo ?_⟩⟩
      refine ⟨_, fun nn => r_call (t := .int .i64 (rkE S p)) rfl rfl Tryz.func186 (fun W M E => p_ckR S p W), st mo ⟨fun h => st mo ?_, fun h => st mo ?_⟩⟩
      · have : mtoR true n s true m t S p = erR (rkE S p) := mto_e h
        rw [this] at hR; subst hR; rfl
      · have hk : sc S = true ∧ 1 ≤ p ∧ p ≤ 5 := by unfold rkE at h; by_cases q : sc S = true <;> by_cases r : 1 ≤ p ∧ p ≤ 5 <;> simp [q, r] at h; exact ⟨q, r⟩
        obtain ⟨S0, S1⟩ := sc_iff.1 hk.1
        unfold mtoR at hR
        rw [hk.1, if_pos rfl, if_pos hk.2] at hR
        refine ⟨_, r_neB true true, fun h => absurd h (by decide), fun _ => st mo ?_⟩
        refine ⟨_, fun nn => r_call (t := dw (n * m)) rfl rfl Tryz.func187 (fun W M E => p_mulD n m hn hm W), st mo ⟨dk, st mo ?_⟩⟩
        unfold rdV at hR
        by_cases hle : s + t ≤ S
        · rw [if_pos hle] at hR
          obtain ⟨k, hk'⟩ : ∃ k : Nat, S - (s + t) = (k : Int) := ⟨(S - (s + t)).toNat, by omega⟩
          rw [hk', pw_nat] at hR
          refine ⟨s + t, wi (by omega), st mo ⟨s + t - S, wi (by omega), st mo ⟨fun h => absurd h (by omega), fun _ => st mo ?_⟩⟩⟩
          have p1 : (1 : Int) ≤ 10 ^ k := by have : (0 : Int) < 10 ^ k := Int.pow_pos (by decide); omega
          refine ⟨_, r_neN (n * m / MM) 0 (hi_b hX) MM_0, fun h => st mo ?_, fun h => st mo ?_⟩
          · have h : ¬ n * m < MM := fun q => by rw [hi_0 q hX.1] at h; cases h
            have := Int.mul_le_mul_of_nonneg_left p1 hX.1
            rw [fx_7 (by omega)] at hR
            subst hR; rfl
          · have h : n * m < MM := Classical.byContradiction fun q => by rw [decide_eq_false (hi_1 q)] at h; cases h
            refine ⟨(k : Int), wz k (by omega), st mo ?_⟩
            refine ⟨_, fun nn => r_call (t := nv (10 ^ k)) rfl rfl Tryz.func190 (fun W M E => p_ten k (by omega) W), st mo ?_⟩
            refine ⟨_, fun nn => r_call (t := dw (n * m * 10 ^ k)) rfl rfl Tryz.func187 (fun W M E => p_mulD (n * m) (10 ^ k) ⟨hX.1, h⟩ (p10_b (by omega)) W), st mo ?_⟩
            refine ⟨_, fun nn => r_call (t := R.y) rfl rfl Tryz.func189 (fun W M E => p_dfit' hR (mul_b ⟨hX.1, h⟩ (p10_b (by omega))) W), st mo ⟨dk, st mo ?_⟩⟩
            rfl
        · rw [if_neg hle] at hR
          obtain ⟨k, hk'⟩ : ∃ k : Nat, s + t - S = (k : Int) := ⟨(s + t - S).toNat, by omega⟩
          rw [hk', Int.toNat_natCast] at hR
          refine ⟨s + t, wi (by omega), st mo ⟨(k : Int), wz k (by omega), st mo ⟨fun _ => st mo ?_, fun h => absurd h (by omega)⟩⟩⟩
          refine ⟨_, fun nn => r_call (t := R.y) rfl rfl Tryz.func188 (fun W M E => p_short' hR hX (by omega) W), st mo ?_⟩
          rfl
theorem mto_1 (b : Bool) (n s S p : Int) : mtoR b n s false 1 0 S p = rndR b n s S p := by
  unfold mtoR rndR; rw [Int.mul_one, Int.add_zero, show (b != false) = b by cases b <;> rfl]
set_option maxRecDepth 20000 in
theorem p_resc (b : Bool) (n s S p : Int) (hn : 0 ≤ n ∧ n < MM) (h1 : ck b n s = 0) (w : World) : Calls Tryz.prog 115 #[dc b n s, .int .i64 S, .int .i64 p] w fun e W => e = .returned (rndR b n s S p).v ∧ Mb w W := by
  rw [← mto_1]
  refine fn_pure [dc b n s, .int .i64 S, .int .i64 p] Tryz.func115 rfl rfl rfl (run_ok (st mo ?_))
  refine ⟨_, fun nn => r_call (t := nv 1) rfl rfl Tryz.func159 (fun W M E => p_from 1 (by decide) W), st mo ?_⟩
  refine ⟨_, fun nn => r_call (t := (mtoR b n s false 1 0 S p).y) rfl rfl Tryz.func158 (fun W M E => p_mto b n s false 1 0 S p hn ⟨by decide, by decide⟩ h1 (by decide) W), st mo ⟨dk, st mo ?_⟩⟩
  rfl
end Go.Proofs.YtfmfeipeeedfpaaGreat
namespace Go.Proofs.YtfmfeipeeedfpaaGreat
open Go.RowKit
def s4 (n0 n1 n2 n3 m0 m1 m2 m3 : Int) : Bool := n0 == m0 && (n1 == m1 && (n2 == m2 && n3 == m3))
theorem ht40 : Tryz.prog.underlying 26 = some (.struct (Tryz.prog.fieldsOf 26)) := by kernel_rfl
theorem hp40 : Tryz.prog.stoodInHeld 26 = false := by kernel_rfl
theorem fo40 : (Tryz.prog.fieldsOf 26).toList.map (fun f => (f.name, f.type, f.offset)) = [("Neg", 4, 0), ("N", 24, 1), ("Scale", 3, 5)] := by kernel_rfl
theorem pt40 (x0 x1 x2 x3 x4 x5 : Value) (w : World) : (part 4 #[x0, x1, x2, x3, x4, x5] 0).run Tryz.prog w = .ok x0 w := by kernel_rfl
theorem pt41 (x0 x1 x2 x3 x4 x5 : Value) (w : World) : (part 24 #[x0, x1, x2, x3, x4, x5] 1).run Tryz.prog w = .ok (.agg #[x1, x2, x3, x4]) w := by kernel_rfl
theorem pt45 (x0 x1 x2 x3 x4 x5 : Value) (w : World) : (part 3 #[x0, x1, x2, x3, x4, x5] 5).run Tryz.prog w = .ok x5 w := by kernel_rfl
theorem ht28 : Tryz.prog.underlying 28 = some (.struct (Tryz.prog.fieldsOf 28)) := by kernel_rfl
theorem hp28 : Tryz.prog.stoodInHeld 28 = false := by kernel_rfl
theorem fo28 : (Tryz.prog.fieldsOf 28).toList.map (fun f => (f.name, f.type, f.offset)) = [("Kind", 3, 0), ("Num", 26, 1), ("Flag", 4, 7), ("Text", 9, 8), ("Err", 3, 9)] := by kernel_rfl
theorem p28_0 (x0 x1 x2 x3 x4 x5 x6 x7 x8 x9 : Value) (w : World) : (part 3 #[x0, x1, x2, x3, x4, x5, x6, x7, x8, x9] 0).run Tryz.prog w = .ok x0 w := by kernel_rfl
theorem p28_1 (x0 x1 x2 x3 x4 x5 x6 x7 x8 x9 : Value) (w : World) : (part 26 #[x0, x1, x2, x3, x4, x5, x6, x7, x8, x9] 1).run Tryz.prog w = .ok (.agg #[x1, x2, x3, x4, x5, x6]) w := by kernel_rfl
theorem p28_7 (x0 x1 x2 x3 x4 x5 x6 x7 x8 x9 : Value) (w : World) : (part 4 #[x0, x1, x2, x3, x4, x5, x6, x7, x8, x9] 7).run Tryz.prog w = .ok x7 w := by kernel_rfl
theorem p28_8 (x0 x1 x2 x3 x4 x5 x6 x7 x8 x9 : Value) (w : World) : (part 9 #[x0, x1, x2, x3, x4, x5, x6, x7, x8, x9] 8).run Tryz.prog w = .ok x8 w := by kernel_rfl
theorem p28_9 (x0 x1 x2 x3 x4 x5 x6 x7 x8 x9 : Value) (w : World) : (part 3 #[x0, x1, x2, x3, x4, x5, x6, x7, x8, x9] 9).run Tryz.prog w = .ok x9 w := by kernel_rfl
theorem gt28 : Tryz.prog.eqGuardType Tryz.prog.depth 28 = false := by kernel_rfl
/-- The same value: kind, number, flag, text, error. -/
def svl (k : Int) (b : Bool) (n0 n1 n2 n3 s : Int) (f : Bool) (t : ByteArray) (e : Int) (k' : Int) (b' : Bool) (m0 m1 m2 m3 s' : Int) (f' : Bool) (t' : ByteArray) (e' : Int) : Bool :=
  k == k' && ((b == b' && (s4 n0 n1 n2 n3 m0 m1 m2 m3 && s == s')) && (f == f' && (t == t' && e == e')))
theorem eq26 (d : Nat) (b c : Bool) (n0 n1 n2 n3 m0 m1 m2 m3 s t : Int) (w : World) : (Op.equalIn (d + 1 + 1 + 1) 26 (.agg #[.bool b, .int .u64 n0, .int .u64 n1, .int .u64 n2, .int .u64 n3, .int .i64 s]) (.agg #[.bool c, .int .u64 m0, .int .u64 m1, .int .u64 m2, .int .u64 m3, .int .i64 t])).run Tryz.prog w = .ok (b == c && (s4 n0 n1 n2 n3 m0 m1 m2 m3 && s == t)) w := by
  rw [run_equalIn_struct w (d + 1 + 1) 26 _ _ ht40 hp40]
  have h := fo40
  generalize (Tryz.prog.fieldsOf 26).toList = L at h
  have hl : L.length = 3 := by have := congrArg List.length h; simpa using this
  match L, hl with
  | [f0, f1, f2], _ =>
    simp at h
    obtain ⟨⟨a0, a1, a2⟩, ⟨b0, b1, b2⟩, ⟨c0, c1, c2⟩⟩ := h
    have q1 : (Op.equalIn (d + 1 + 1) 4 (.bool b) (.bool c)).run Tryz.prog w = .ok (b == c) w := by kernel_rfl
    have q2 : _ = Result.ok (s4 n0 n1 n2 n3 m0 m1 m2 m3) w := eq4d d n0 n1 n2 n3 m0 m1 m2 m3 w
    have q3 : (Op.equalIn (d + 1 + 1) 3 (.int .i64 s) (.int .i64 t)).run Tryz.prog w = .ok (s == t) w := run_equalIn_int w (d + 1) 3 .i64 .i64 s t Tryz.underlying3
    generalize s4 n0 n1 n2 n3 m0 m1 m2 m3 = z at q2 ⊢
    simp only [Op.eqFields, a0, a1, a2, b0, b1, b2, c0, c1, c2]
    cases h1 : (b == c) <;> cases z <;> cases h3 : (s == t) <;> simp [Sem.run_bind, pt40, pt41, pt45, Result.andThen_ok, q1, q2, q3, h1, h3, Sem.run_pure]
theorem eq28 (k : Int) (b : Bool) (n0 n1 n2 n3 s : Int) (f : Bool) (t : ByteArray) (e : Int) (k' : Int) (b' : Bool) (m0 m1 m2 m3 s' : Int) (f' : Bool) (t' : ByteArray) (e' : Int) (w : World) : (Op.equalIn 10000 28 (.agg #[.int .i64 k, .bool b, .int .u64 n0, .int .u64 n1, .int .u64 n2, .int .u64 n3, .int .i64 s, .bool f, .string t, .int .i64 e]) (.agg #[.int .i64 k', .bool b', .int .u64 m0, .int .u64 m1, .int .u64 m2, .int .u64 m3, .int .i64 s', .bool f', .string t', .int .i64 e'])).run Tryz.prog w = .ok (svl k b n0 n1 n2 n3 s f t e k' b' m0 m1 m2 m3 s' f' t' e') w := by
  rw [show (10000 : Nat) = 9999 + 1 from rfl, run_equalIn_struct w 9999 28 _ _ ht28 hp28]
  have h := fo28
  generalize (Tryz.prog.fieldsOf 28).toList = L at h
  have hl : L.length = 5 := by have := congrArg List.length h; simpa using this
  match L, hl with
  | [f0, f1, f2, f3, f4], _ =>
    simp at h
    obtain ⟨⟨a0, a1, a2⟩, ⟨b0, b1, b2⟩, ⟨c0, c1, c2⟩, ⟨g0, g1, g2⟩, ⟨i0, i1, i2⟩⟩ := h
    have qi : ∀ x y : Int, (Op.equalIn 9999 3 (.int .i64 x) (.int .i64 y)).run Tryz.prog w = .ok (x == y) w := fun x y => run_equalIn_int w 9998 3 .i64 .i64 x y Tryz.underlying3
    have q2 : (Op.equalIn 9999 26 _ _).run Tryz.prog w = _ := eq26 9996 b b' n0 n1 n2 n3 m0 m1 m2 m3 s s' w
    have q3 : (Op.equalIn 9999 4 (.bool f) (.bool f')).run Tryz.prog w = .ok (f == f') w := by kernel_rfl
    have q4 : (Op.equalIn 9999 9 (.string t) (.string t')).run Tryz.prog w = .ok (t == t') w := by kernel_rfl
    unfold svl
    generalize (b == b' && (s4 n0 n1 n2 n3 m0 m1 m2 m3 && s == s')) = z at q2 ⊢
    simp only [Op.eqFields, a0, a1, a2, b0, b1, b2, c0, c1, c2, g0, g1, g2, i0, i1, i2]
    cases h1 : (k == k') <;> cases z <;> cases h3 : (f == f') <;> cases h4 : (t == t') <;> cases h5 : (e == e') <;> simp [Sem.run_bind, p28_0, p28_1, p28_7, p28_8, p28_9, Result.andThen_ok, qi, q2, q3, q4, h1, h3, h4, h5, Sem.run_pure]
section
variable {k : Int} {b : Bool} {n0 n1 n2 n3 s : Int} {f : Bool} {t : ByteArray} {e : Int} {k' : Int} {b' : Bool} {m0 m1 m2 m3 s' : Int} {f' : Bool} {t' : ByteArray} {e' : Int} {r : Bool}
theorem eqV (h : svl k b n0 n1 n2 n3 s f t e k' b' m0 m1 m2 m3 s' f' t' e' = r) (x y : Operand) (w : World) : (do eqGuard .eql 28 x y (.agg #[.int .i64 k, .bool b, .int .u64 n0, .int .u64 n1, .int .u64 n2, .int .u64 n3, .int .i64 s, .bool f, .string t, .int .i64 e]) (.agg #[.int .i64 k', .bool b', .int .u64 m0, .int .u64 m1, .int .u64 m2, .int .u64 m3, .int .i64 s', .bool f', .string t', .int .i64 e']); binOp .eql 28 (.agg #[.int .i64 k, .bool b, .int .u64 n0, .int .u64 n1, .int .u64 n2, .int .u64 n3, .int .i64 s, .bool f, .string t, .int .i64 e]) (.agg #[.int .i64 k', .bool b', .int .u64 m0, .int .u64 m1, .int .u64 m2, .int .u64 m3, .int .i64 s', .bool f', .string t', .int .i64 e'])).run Tryz.prog w = .ok (.bool r) w := eqa_run gt28 (by rw [← h]; exact eq28 ..) x y
theorem neV (h : svl k b n0 n1 n2 n3 s f t e k' b' m0 m1 m2 m3 s' f' t' e' = r) (x y : Operand) (w : World) : (do eqGuard .neq 28 x y (.agg #[.int .i64 k, .bool b, .int .u64 n0, .int .u64 n1, .int .u64 n2, .int .u64 n3, .int .i64 s, .bool f, .string t, .int .i64 e]) (.agg #[.int .i64 k', .bool b', .int .u64 m0, .int .u64 m1, .int .u64 m2, .int .u64 m3, .int .i64 s', .bool f', .string t', .int .i64 e']); binOp .neq 28 (.agg #[.int .i64 k, .bool b, .int .u64 n0, .int .u64 n1, .int .u64 n2, .int .u64 n3, .int .i64 s, .bool f, .string t, .int .i64 e]) (.agg #[.int .i64 k', .bool b', .int .u64 m0, .int .u64 m1, .int .u64 m2, .int .u64 m3, .int .i64 s', .bool f', .string t', .int .i64 e'])).run Tryz.prog w = .ok (.bool (!r)) w := nea_run gt28 (by rw [← h]; exact eq28 ..) x y
end
theorem ba_beq (a b : ByteArray) : (a == b) = decide (a = b) := by
  obtain ⟨a⟩ := a
  obtain ⟨b⟩ := b
  have h : ((⟨a⟩ : ByteArray) == ⟨b⟩) = (a == b) := rfl
  rw [h]
  by_cases q : a = b
  · subst q; simp
  · have : ¬ (⟨a⟩ : ByteArray) = ⟨b⟩ := fun e => q (by injection e)
    simp [this, q]
/-- A value: its kind, its number (sign, digits, scale), its flag, its text, its error. -/
structure VL where
  k : Int
  b : Bool
  n : Int
  s : Int
  f : Bool
  t : ByteArray
  e : Int
def VL.cells (v : VL) : List Value := [.int .i64 v.k, .bool v.b, .int .u64 (l0 v.n), .int .u64 (l1 v.n), .int .u64 (l2 v.n), .int .u64 (l3 v.n), .int .i64 v.s, .bool v.f, .string v.t, .int .i64 v.e]
abbrev VL.v (v : VL) : Value := .agg v.cells.toArray
/-- Its digits have room. -/
def VL.ok (v : VL) : Prop := 0 ≤ v.n ∧ v.n < MM
abbrev E0 : ByteArray := ⟨#[]⟩
def vBl : VL := ⟨0, false, 0, 0, false, E0, 0⟩
def vEr (e : Int) : VL := ⟨4, false, 0, 0, false, E0, e⟩
def vFl (f : Bool) : VL := ⟨2, false, 0, 0, f, E0, 0⟩
def vNu (b : Bool) (n s : Int) : VL := ⟨1, b, n, s, false, E0, 0⟩
def vTx (t : ByteArray) : VL := ⟨3, false, 0, 0, false, t, 0⟩
/-- Is it one of the errors? -/
def isE (e : Int) : Bool := decide (1 ≤ e) && decide (e ≤ 5)
def vBad (e : Int) : VL := vEr (if isE e then e else 2)
/-- Are two values the same, field by field? -/
def svv (x y : VL) : Bool := svl x.k x.b (l0 x.n) (l1 x.n) (l2 x.n) (l3 x.n) x.s x.f x.t x.e y.k y.b (l0 y.n) (l1 y.n) (l2 y.n) (l3 y.n) y.s y.f y.t y.e
theorem eqW {x y : VL} {r : Bool} (h : svv x y = r) (p q : Operand) (w : World) : (do eqGuard .eql 28 p q x.v y.v; binOp .eql 28 x.v y.v).run Tryz.prog w = .ok (.bool r) w := eqV h p q w
theorem neW {x y : VL} {r : Bool} (h : svv x y = r) (p q : Operand) (w : World) : (do eqGuard .neq 28 p q x.v y.v; binOp .neq 28 x.v y.v).run Tryz.prog w = .ok (.bool (!r)) w := neV h p q w
theorem svv_self (x : VL) : svv x x = true := by simp [svv, svl, s4, ba_beq]
theorem svv_eq {x y : VL} (hx : x.ok) (hy : y.ok) (h : svv x y = true) : x = y := by
  obtain ⟨k, b, n, s, f, t, e⟩ := x
  obtain ⟨k', b', n', s', f', t', e'⟩ := y
  simp only [svv, svl, s4, ba_beq, Bool.and_eq_true, beq_iff_eq, decide_eq_true_eq] at h
  have hn : n = n' := nv_inj hx.1 hx.2 hy.1 hy.2 (by simp_all)
  simp_all
/-- It without the fields that its kind gives no meaning. -/
def bareV (v : VL) : VL := if v.k = 1 then vNu v.b v.n v.s else if v.k = 2 then vFl v.f else if v.k = 3 then vTx v.t else if v.k = 4 then vEr v.e else vBl
/-- May what its kind gives a meaning be? -/
def inB (v : VL) : Bool := if v.k = 1 then decide (ck v.b v.n v.s = 0) else if v.k = 3 then decide (v.t.size ≤ 64) else if v.k = 4 then isE v.e else true
def ckv (v : VL) : Bool := svv v (bareV v) && inB v
def ckI (v : VL) : Int := if ckv v then 0 else 1
theorem ok_0 (k : Int) (b : Bool) (s : Int) (f : Bool) (t : ByteArray) (e : Int) : VL.ok ⟨k, b, 0, s, f, t, e⟩ := ⟨Int.le_refl 0, by show (0 : Int) < MM; decide⟩
theorem bare_ok {v : VL} (h : v.ok) : (bareV v).ok := by
  unfold bareV
  split; · exact h
  split; · exact ok_0 _ _ _ _ _ _
  split; · exact ok_0 _ _ _ _ _ _
  split; · exact ok_0 _ _ _ _ _ _
  exact ok_0 _ _ _ _ _ _
theorem ckv_eq {v : VL} (h : v.ok) (c : ckv v = true) : v = bareV v := svv_eq h (bare_ok h) (by unfold ckv at c; simp at c; exact c.1)
theorem ckv_in {v : VL} (c : ckv v = true) : inB v = true := by unfold ckv at c; simp at c; exact c.2
theorem ckv_num {v : VL} (h : v.ok) (c : ckv v = true) (k : v.k = 1) : v = vNu v.b v.n v.s ∧ ck v.b v.n v.s = 0 := by
  refine ⟨?_, ?_⟩
  · have q := ckv_eq h c; unfold bareV at q; rw [if_pos k] at q; exact q
  · have q := ckv_in c; unfold inB at q; rw [if_pos k] at q; exact of_decide_eq_true q
theorem ckv_err {v : VL} (h : v.ok) (c : ckv v = true) (k : v.k = 4) : v = vEr v.e ∧ isE v.e = true := by
  refine ⟨?_, ?_⟩
  · have q := ckv_eq h c; unfold bareV at q; simp [k] at q; exact q
  · have q := ckv_in c; unfold inB at q; simp [k] at q; exact q
theorem bad_of {e : Int} (h : isE e = true) : vBad e = vEr e := by unfold vBad; rw [if_pos h]
theorem isE_bad (e : Int) : isE (if isE e then e else 2) = true := by
  split
  · assumption
  · rfl
theorem ckv_vEr {e : Int} (h : isE e = true) : ckv (vEr e) = true := by
  have : bareV (vEr e) = vEr e := by unfold bareV vEr; simp
  unfold ckv; rw [this, svv_self]; unfold inB vEr; simp [h]
theorem ckv_vBad (e : Int) : ckv (vBad e) = true := ckv_vEr (isE_bad e)
theorem ckv_vFl (f : Bool) : ckv (vFl f) = true := by
  have : bareV (vFl f) = vFl f := by unfold bareV vFl; simp
  unfold ckv; rw [this, svv_self]; unfold inB vFl; simp
theorem ckv_vNu {b : Bool} {n s : Int} (h : ck b n s = 0) : ckv (vNu b n s) = true := by
  have : bareV (vNu b n s) = vNu b n s := by unfold bareV vNu; simp
  unfold ckv; rw [this, svv_self]; unfold inB vNu; simp [h]
/-- What an operand comes to when it is asked (but for its kind): 0, if there is no fault. -/
def ask (v : VL) : Int := if ckv v then (if v.k = 4 then v.e else if v.k = 0 then 3 else 0) else 2
def ask2 (x y : VL) : Int := if ask x = 0 then ask y else ask x
def askK (k : Int) (v : VL) : Int := if ask v = 0 then (if v.k = k then 0 else 2) else ask v
theorem ask_0 {v : VL} (h : v.ok) (a : ask v = 0) : ckv v = true ∧ v.k ≠ 4 ∧ v.k ≠ 0 := by
  unfold ask at a
  split at a
  next c =>
    refine ⟨c, ?_, ?_⟩
    · intro k; rw [if_pos k] at a; have := (ckv_err h c k).2; rw [a] at this; exact absurd this (by decide)
    · intro k
      rw [if_neg (by omega), if_pos k] at a
      exact absurd a (by decide)
  next => exact absurd a (by decide)
/-- What a call of decimal answers, as a value. -/
def numV (r : DR) : VL := if r.e = 0 then vNu r.b r.n r.s else if r.e = 7 then vBad 1 else vBad 2
def ordV (op o : Int) : VL :=
  if op = 4 then vFl (decide (o = 0)) else if op = 5 then vFl (!decide (o = 0)) else if op = 6 then vFl (decide (o < 0)) else if op = 7 then vFl (decide (o ≤ 0))
  else if op = 8 then vFl (decide (0 < o)) else if op = 9 then vFl (decide (0 ≤ o)) else vBad 2
def opN (op : Int) (b : Bool) (n s : Int) (c : Bool) (m t : Int) : VL :=
  if op = 1 then numV (addR b n s c m t) else if op = 2 then numV (subR b n s c m t) else if op = 3 then numV (mulR b n s c m t) else ordV op (cmpR b n s c m t)
def opF (op : Int) (f g : Bool) : VL := if op = 10 then vFl (f && g) else if op = 11 then vFl (f || g) else vBad 2
def opV (op : Int) (x y : VL) : VL :=
  if ask2 x y = 0 then
    (if x.k = y.k then (if x.k = 1 then opN op x.b x.n x.s y.b y.n y.s else if op = 4 then vFl (svv x y) else if op = 5 then vFl (!svv x y) else if x.k = 2 then opF op x.f y.f else vBad 2) else vBad 2)
  else vBad (ask2 x y)
def negV (x : VL) : VL := if askK 1 x = 0 then numV (negR x.b x.n x.s) else vBad (askK 1 x)
def notV (x : VL) : VL := if askK 2 x = 0 then vFl (!x.f) else vBad (askK 2 x)
def mayV (x : VL) : VL := if ckv x then x else vBad 2
def ifV (c x y : VL) : VL := if askK 2 c = 0 then mayV (if c.f then x else y) else vBad (askK 2 c)
def rndV (x : VL) (S p : Int) : VL := if askK 1 x = 0 then numV (rndR x.b x.n x.s S p) else vBad (askK 1 x)
def blkV (x : VL) : VL := if ckv x then (if x.k = 4 then x else vFl (decide (x.k = 0))) else vBad 2
def fitV (x : VL) (tk ts p : Int) : VL := if ckv x then (if x.k = 4 then x else if x.k = 0 then x else if x.k = tk then (if x.k = 1 then rndV x ts p else x) else vBad 2) else vBad 2
end Go.Proofs.YtfmfeipeeedfpaaGreat
namespace Go.Proofs.YtfmfeipeeedfpaaGreat
open S
abbrev VL.y (x : VL) : Value := .agg (x.cells.map rel1).toArray
set_option maxRecDepth 20000 in
theorem p_isE (e : Int) (w : World) : Calls Tryz.prog 79 #[.int .i64 e] w fun r W => r = .returned (.bool (isE e)) ∧ Mb w W := by
  refine fn_pure [.int .i64 e] Tryz.func79 rfl rfl rfl (run_ok (st mo ?_))
  refine ⟨fun h => st mo ⟨fun h2 => st mo ?_, fun h2 => st mo ?_⟩, fun h => st mo ?_⟩
  · show _ = _; unfold isE; rw [decide_eq_true h, decide_eq_true h2]; rfl
  · show _ = _; unfold isE; rw [decide_eq_true h, decide_eq_false (by omega)]; rfl
  · show _ = _; unfold isE; rw [decide_eq_false (by omega)]; rfl
set_option maxRecDepth 20000 in
theorem p_flag (b : Bool) (w : World) : Calls Tryz.prog 137 #[.bool b] w fun r W => r = .returned (vFl b).v ∧ Mb w W :=
  fn_pure [.bool b] Tryz.func137 rfl rfl rfl (run_ok (st mo rfl))
set_option maxRecDepth 20000 in
theorem p_bad (e : Int) (w : World) : Calls Tryz.prog 44 #[.int .i64 e] w fun r W => r = .returned (vBad e).v ∧ Mb w W := by
  cases h : isE e with
  | true =>
    rw [bad_of h]
    exact fn_pure [.int .i64 e] Tryz.func44 rfl rfl rfl (run_ok (st mo ⟨_, fun nn => r_call (t := litT) rfl rfl Tryz.func79 (fun W M E => by have := p_isE e W; rw [h] at this; exact this), st mo rfl⟩))
  | false =>
    rw [show vBad e = vEr 2 by unfold vBad; rw [h]; rfl]
    exact fn_pure [.int .i64 e] Tryz.func44 rfl rfl rfl (run_ok (st mo ⟨_, fun nn => r_call (t := litF) rfl rfl Tryz.func79 (fun W M E => by have := p_isE e W; rw [h] at this; exact this), st mo rfl⟩))
set_option maxRecDepth 20000 in
theorem p_bare (v : VL) (w : World) : Calls Tryz.prog 111 #[v.v] w fun r W => r = .returned (bareV v).v ∧ Mb w W := by
  refine fn_pure [v.y] Tryz.func111 rfl rfl rfl (run_ok (st mo ?_))
  refine ⟨fun h => st mo ?_, fun h1 => st mo ⟨fun h => st mo ?_, fun h2 => st mo ⟨fun h => st mo ?_, fun h3 => st mo ⟨fun h => st mo ?_, fun h4 => st mo ?_⟩⟩⟩⟩
  · show _ = _; rw [bareV, if_pos h]; rfl
  · refine ⟨_, fun nn => r_call (t := (vFl v.f).y) rfl rfl Tryz.func137 (fun W M E => p_flag v.f W), st mo ?_⟩
    show _ = _; rw [bareV, if_neg h1, if_pos h]; rfl
  · show _ = _; rw [bareV, if_neg h1, if_neg h2, if_pos h]; rfl
  · show _ = _; rw [bareV, if_neg h1, if_neg h2, if_neg h3, if_pos h]; rfl
  · show _ = _; rw [bareV, if_neg h1, if_neg h2, if_neg h3, if_neg h4]; rfl
set_option maxRecDepth 20000 in
theorem p_inB (v : VL) (hv : v.ok) (w : World) : Calls Tryz.prog 112 #[v.v] w fun r W => r = .returned (.bool (inB v)) ∧ Mb w W := by
  refine fn_pure [v.y] Tryz.func112 rfl rfl rfl (run_ok (st mo ?_))
  refine ⟨fun h => st mo ?_, fun h1 => st mo ⟨fun h => st mo ?_, fun h3 => st mo ⟨fun h => st mo ?_, fun h4 => st mo ?_⟩⟩⟩
  · refine ⟨_, fun nn => r_call (t := .int .i64 (ck v.b v.n v.s)) rfl rfl Tryz.func157 (fun W M E => p_dck v.b v.n v.s ⟨hv.1, hv.2⟩ W), st mo ⟨fun h2 => st mo ?_, fun h2 => st mo ?_⟩⟩
    · show _ = _; rw [inB, if_pos h, decide_eq_true h2]
    · show _ = _; rw [inB, if_pos h, decide_eq_false h2]
  · refine st mo ⟨fun h2 => st mo ?_, fun h2 => st mo ?_⟩
    · show _ = _; rw [inB, if_neg h1, if_pos h, decide_eq_true (by omega)]
    · show _ = _; rw [inB, if_neg h1, if_pos h, decide_eq_false (by omega)]
  · refine ⟨_, fun nn => r_call (t := .bool (isE v.e)) rfl rfl Tryz.func79 (fun W M E => p_isE v.e W), st mo ?_⟩
    show _ = _; rw [inB, if_neg h1, if_neg h3, if_pos h]
  · show _ = _; rw [inB, if_neg h1, if_neg h3, if_neg h4]
theorem r_neV {w0 : B0} {X : World} {o : Oper} {fr : FT} {h : HT} {n : Nat} {y z : Operand} {t' : TypeId} (p q : VL) (ho : o.op = .binOp .neq 28 y z t' := by rfl) (hy : den2 (evo fr y) = p.v := by rfl) (hz : den2 (evo fr z) = q.v := by rfl) (hpy : pur2 (evo fr y) = true := by rfl) (hpz : pur2 (evo fr z) = true := by rfl) : Oa (Am w0 X) Tryz.prog o fr h n ⟨.bool (!svv p q), h, n, 0, 0⟩ :=
  Oo.to (s_bin0 ho (fun k u hu => by rw [pur2_eq hu hpy, hy]) (fun k u hu => by rw [pur2_eq hu hpz, hz]) rfl (fun w => neW rfl y z w))
theorem r_eqV {w0 : B0} {X : World} {o : Oper} {fr : FT} {h : HT} {n : Nat} {y z : Operand} {t' : TypeId} (p q : VL) (ho : o.op = .binOp .eql 28 y z t' := by rfl) (hy : den2 (evo fr y) = p.v := by rfl) (hz : den2 (evo fr z) = q.v := by rfl) (hpy : pur2 (evo fr y) = true := by rfl) (hpz : pur2 (evo fr z) = true := by rfl) : Oa (Am w0 X) Tryz.prog o fr h n ⟨.bool (svv p q), h, n, 0, 0⟩ :=
  Oo.to (s_bin0 ho (fun k u hu => by rw [pur2_eq hu hpy, hy]) (fun k u hu => by rw [pur2_eq hu hpz, hz]) rfl (fun w => eqW rfl y z w))
set_option maxRecDepth 20000 in
theorem p_check (v : VL) (hv : v.ok) (w : World) : Calls Tryz.prog 77 #[v.v] w fun r W => r = .returned (.int .i64 (ckI v)) ∧ Mb w W := by
  refine fn_pure [v.y] Tryz.func77 rfl rfl rfl (run_ok (st mo ?_))
  refine ⟨_, fun nn => r_call (t := (bareV v).y) rfl rfl Tryz.func111 (fun W M E => p_bare v W), st mo ?_⟩
  refine ⟨_, r_neV v (bareV v), fun h => st mo ⟨dk, st mo ?_⟩, fun h => st mo ?_⟩
  · have : ckI v = 1 := by unfold ckI ckv; simp at h; rw [h]; rfl
    show _ = _; rw [this]
  · simp at h
    cases hi : inB v with
    | true =>
      refine ⟨_, fun nn => r_call (t := litT) rfl rfl Tryz.func112 (fun W M E => by have := p_inB v hv W; rw [hi] at this; exact this), st mo ⟨dk, st mo ?_⟩⟩
      have : ckI v = 0 := by unfold ckI ckv; rw [h, hi]; rfl
      show _ = _; rw [this]
    | false =>
      refine ⟨_, fun nn => r_call (t := litF) rfl rfl Tryz.func112 (fun W M E => by have := p_inB v hv W; rw [hi] at this; exact this), st mo ⟨dk, st mo ?_⟩⟩
      have : ckI v = 1 := by unfold ckI ckv; rw [h, hi]; rfl
      show _ = _; rw [this]
set_option maxRecDepth 20000 in
theorem p_num (r : DR) (w : World) : Calls Tryz.prog 114 #[dc r.b r.n r.s, .int .i64 r.e] w fun e W => e = .returned (numV r).v ∧ Mb w W := by
  refine fn_pure [dc r.b r.n r.s, .int .i64 r.e] Tryz.func114 rfl rfl rfl (run_ok (st mo ?_))
  refine ⟨fun h => st mo ?_, fun h1 => st mo ⟨fun h => st mo ?_, fun h2 => st mo ?_⟩⟩
  · show _ = _; rw [numV, if_pos h]; rfl
  · refine ⟨_, fun nn => r_call (t := (vBad 1).y) rfl rfl Tryz.func44 (fun W M E => p_bad 1 W), st mo ?_⟩
    show _ = _; rw [numV, if_neg h1, if_pos h]; rfl
  · refine ⟨_, fun nn => r_call (t := (vBad 2).y) rfl rfl Tryz.func44 (fun W M E => p_bad 2 W), st mo ?_⟩
    show _ = _; rw [numV, if_neg h1, if_neg h2]; rfl
abbrev VL.r (x : VL) : List Value := x.cells.map rel1
theorem ckI_1 {v : VL} (h : ¬ ckI v = 0) : ckv v = false := by
  cases c : ckv v with
  | true => exact absurd (by unfold ckI; rw [c]; rfl) h
  | false => rfl
theorem ckI_0 {v : VL} (h : ckI v = 0) : ckv v = true := by
  cases c : ckv v with
  | true => rfl
  | false => unfold ckI at h; rw [c] at h; cases h
theorem ask_c {v : VL} (h : ckv v = false) : ask v = 2 := by unfold ask; rw [h]; rfl
theorem ask_e {v : VL} (h : ckv v = true) (k : v.k = 4) : ask v = v.e := by unfold ask; rw [if_pos h, if_pos k]
theorem ask_b {v : VL} (h : ckv v = true) (k : v.k = 0) : ask v = 3 := by unfold ask; rw [if_pos h, if_neg (by omega), if_pos k]
theorem ask_n {v : VL} (h : ckv v = true) (k : ¬ v.k = 4) (q : ¬ v.k = 0) : ask v = 0 := by unfold ask; rw [if_pos h, if_neg k, if_neg q]
set_option maxRecDepth 20000 in
theorem p_fault1 (X : World) (v : VL) (hv : v.ok) : Ctr Tryz.prog X 138 [.slice (some ⟨0, 0, none⟩) 1 10] [(0, some v.r)] 1 1 (.int .i64 (ask v)) [(0, some v.r)] 1 := by
  refine fn_c _ Tryz.func138 rfl rfl rfl rfl (fun w l X' hX => run_ok (st mo ?_))
  refine st mo ?_
  refine S.w_loop (fun i : Nat => ⟨⟨26, [(5, .slice (some ⟨0, 0, none⟩) 1 10), (6, .int .i64 1), (7, .int .i64 (i : Int))]⟩, [(0, some v.r)], 1, X'⟩) (fun i => i ≤ 1 ∧ (i = 1 → ask v = 0)) (fun i => 1 - i) 0 ⟨by omega, by omega⟩ [0] ⟨rfl, ⟨fs, fv, fv, trivial⟩, ⟨flr rfl, trivial⟩, xf, rfl, rfl⟩ ?_
  intro i hi
  rcases i with _ | i
  · refine st mo ⟨fun _ => st mo ⟨0, rfl, by decide, st mo ⟨v.r, rfl, rfl, Or.inl (st mo ?_)⟩⟩, fun h => absurd h (by omega)⟩
    refine ⟨_, fun nn => r_call (t := .int .i64 (ckI v)) rfl rfl Tryz.func77 (fun W M E => p_check v hv W), st mo ?_⟩
    refine ⟨fun h => st mo ?_, fun h => st mo ⟨fun h4 => st mo ?_, fun h4 => st mo ⟨fun h0 => st mo ?_, fun h0 => st mo ?_⟩⟩⟩
    · exact ⟨rfl, [0], fe (ask_c (ckI_1 h)).symm, ⟨flr rfl, trivial⟩, rfl, rfl⟩
    · exact ⟨rfl, [0], fe (ask_e (ckI_0 h) h4).symm, ⟨flr rfl, trivial⟩, rfl, rfl⟩
    · exact ⟨rfl, [0], fe (ask_b (ckI_0 h) h0).symm, ⟨flr rfl, trivial⟩, rfl, rfl⟩
    · refine ⟨_, wz 1 rfl, st mo ?_⟩
      exact ⟨1, ⟨by omega, fun _ => ask_n (ckI_0 h) h4 h0⟩, by decide, [0], rfl, ⟨fs, fv, fv, trivial⟩, ⟨flr rfl, trivial⟩, xf, rfl, rfl⟩
  · obtain rfl : i = 0 := by omega
    refine st mo ⟨fun h => absurd h (by omega), fun _ => st mo (st mo ?_)⟩
    exact ⟨rfl, [0], fe (hi.2 rfl).symm, ⟨flr rfl, trivial⟩, rfl, rfl⟩
set_option maxRecDepth 20000 in
theorem p_fault2 (X : World) (v u : VL) (hv : v.ok) (hu : u.ok) : Ctr Tryz.prog X 138 [.slice (some ⟨0, 0, none⟩) 2 10] [(0, some ((v.cells ++ u.cells).map rel1))] 1 1 (.int .i64 (ask2 v u)) [(0, some ((v.cells ++ u.cells).map rel1))] 1 := by
  refine fn_c _ Tryz.func138 rfl rfl rfl rfl (fun w l X' hX => run_ok (st mo ?_))
  refine st mo ?_
  refine S.w_loop (fun i : Nat => ⟨⟨26, [(5, .slice (some ⟨0, 0, none⟩) 2 10), (6, .int .i64 2), (7, .int .i64 (i : Int))]⟩, [(0, some ((v.cells ++ u.cells).map rel1))], 1, X'⟩) (fun i => i ≤ 2 ∧ (1 ≤ i → ask v = 0) ∧ (i = 2 → ask u = 0)) (fun i => 2 - i) 0 ⟨by omega, by omega, by omega⟩ [0] ⟨rfl, ⟨fs, fv, fv, trivial⟩, ⟨flr rfl, trivial⟩, xf, rfl, rfl⟩ ?_
  intro i hi
  rcases i with _ | i
  · refine st mo ⟨fun _ => st mo ⟨0, rfl, by decide, st mo ⟨v.r, rfl, rfl, Or.inl (st mo ?_)⟩⟩, fun h => absurd h (by omega)⟩
    refine ⟨_, fun nn => r_call (t := .int .i64 (ckI v)) rfl rfl Tryz.func77 (fun W M E => p_check v hv W), st mo ?_⟩
    have key : ¬ ask v = 0 → ask2 v u = ask v := fun h => by unfold ask2; rw [if_neg h]
    refine ⟨fun h => st mo ?_, fun h => st mo ⟨fun h4 => st mo ?_, fun h4 => st mo ⟨fun h0 => st mo ?_, fun h0 => st mo ?_⟩⟩⟩
    · have a := ask_c (ckI_1 h)
      exact ⟨rfl, [0], fe (by rw [key (by omega), a]), ⟨flr rfl, trivial⟩, rfl, rfl⟩
    · have a := ask_e (ckI_0 h) h4
      have b := (ckv_err hv (ckI_0 h) h4).2
      exact ⟨rfl, [0], fe (by rw [key (by rw [a]; intro e; rw [e] at b; cases b), a]), ⟨flr rfl, trivial⟩, rfl, rfl⟩
    · have a := ask_b (ckI_0 h) h0
      exact ⟨rfl, [0], fe (by rw [key (by omega), a]), ⟨flr rfl, trivial⟩, rfl, rfl⟩
    · refine ⟨_, wz 1 rfl, st mo ?_⟩
      exact ⟨1, ⟨by omega, fun _ => ask_n (ckI_0 h) h4 h0, by omega⟩, by decide, [0], rfl, ⟨fs, fv, fv, trivial⟩, ⟨flr rfl, trivial⟩, xf, rfl, rfl⟩
  · rcases i with _ | i
    · have key : ask2 v u = ask u := by unfold ask2; rw [if_pos (hi.2.1 (by omega))]
      refine st mo ⟨fun _ => st mo ⟨1, rfl, by decide, st mo ⟨u.r, rfl, rfl, Or.inl (st mo ?_)⟩⟩, fun h => absurd h (by omega)⟩
      refine ⟨_, fun nn => r_call (t := .int .i64 (ckI u)) rfl rfl Tryz.func77 (fun W M E => p_check u hu W), st mo ?_⟩
      refine ⟨fun h => st mo ?_, fun h => st mo ⟨fun h4 => st mo ?_, fun h4 => st mo ⟨fun h0 => st mo ?_, fun h0 => st mo ?_⟩⟩⟩
      · exact ⟨rfl, [0], fe (by rw [key, ask_c (ckI_1 h)]), ⟨flr rfl, trivial⟩, rfl, rfl⟩
      · exact ⟨rfl, [0], fe (by rw [key, ask_e (ckI_0 h) h4]), ⟨flr rfl, trivial⟩, rfl, rfl⟩
      · exact ⟨rfl, [0], fe (by rw [key, ask_b (ckI_0 h) h0]), ⟨flr rfl, trivial⟩, rfl, rfl⟩
      · refine ⟨_, wz 2 rfl, st mo ?_⟩
        exact ⟨2, ⟨by omega, fun _ => hi.2.1 (by omega), fun _ => ask_n (ckI_0 h) h4 h0⟩, by decide, [0], rfl, ⟨fs, fv, fv, trivial⟩, ⟨flr rfl, trivial⟩, xf, rfl, rfl⟩
    · obtain rfl : i = 0 := by omega
      refine st mo ⟨fun h => absurd h (by omega), fun _ => st mo (st mo ?_)⟩
      exact ⟨rfl, [0], fe (by unfold ask2; rw [if_pos (hi.2.1 (by omega)), hi.2.2 rfl]), ⟨flr rfl, trivial⟩, rfl, rfl⟩
set_option maxRecDepth 20000 in
theorem p_faultFor (k : Int) (v : VL) (hv : v.ok) (w : World) : Calls Tryz.prog 113 #[.int .i64 k, v.v] w fun r W => r = .returned (.int .i64 (askK k v)) ∧ Mb w W := by
  refine fn_pure [.int .i64 k, v.y] Tryz.func113 rfl rfl rfl (run_ok (st mo ?_))
  refine ⟨_, fun nn => r_c (tc := .int .i64 (ask v)) [1] [some v.r] [] rfl rfl (p_fault1 w v hv) (by exact fitL_cons fs rfl) ⟨flr rfl, trivial⟩ uv ⟨ulr rfl, trivial⟩, st mo ?_⟩
  refine ⟨fun h => st mo ?_, fun h => st mo ⟨fun h2 => st mo ?_, fun h2 => st mo ?_⟩⟩
  · show _ = _; unfold askK; rw [if_neg h]
  · show _ = _; unfold askK; rw [if_pos h, if_neg h2]
  · show _ = _; unfold askK; rw [if_pos h, if_pos h2]
end Go.Proofs.YtfmfeipeeedfpaaGreat
namespace Go.Proofs.YtfmfeipeeedfpaaGreat
open S Go.RowKit
theorem d_mul (b : Bool) (n s : Int) (c : Bool) (m t : Int) (w : World) (hn : 0 ≤ n ∧ n < MM) (hm : 0 ≤ m ∧ m < MM) (h1 : ck b n s = 0) (h2 : ck c m t = 0) : Calls Tryz.prog 158 #[dc b n s, dc c m t, .int .i64 (min (s + t) 18), .int .i64 2] w fun e9 w' => e9 = .returned (mulR b n s c m t).v ∧ Mb w w' := by
  obtain ⟨a0, a1⟩ := sc_iff.1 (ck_s h1)
  obtain ⟨b0, b1⟩ := sc_iff.1 (ck_s h2)
  have q := p_mto b n s c m t (min (s + t) 18) 2 hn hm h1 h2 w
  unfold mtoR at q
  rw [if_pos (sc_iff.2 ⟨by omega, by omega⟩), if_pos (by decide)] at q
  exact q
set_option maxRecDepth 20000 in
theorem p_ofOrder (op o : Int) (w : World) : Calls Tryz.prog 171 #[.int .i64 op, .int .i64 o] w fun r W => r = .returned (ordV op o).v ∧ Mb w W := by
  refine fn_pure [.int .i64 op, .int .i64 o] Tryz.func171 rfl rfl rfl (run_ok (st mo ?_))
  refine ⟨fun h => st mo ⟨fun q => st mo ?_, fun q => st mo ?_⟩, fun h4 => st mo ?_⟩
  · refine ⟨_, fun nn => r_call (t := (vFl true).y) rfl rfl Tryz.func137 (fun W M E => p_flag true W), st mo ?_⟩
    show _ = _; rw [ordV, if_pos h, decide_eq_true q]; rfl
  · refine ⟨_, fun nn => r_call (t := (vFl false).y) rfl rfl Tryz.func137 (fun W M E => p_flag false W), st mo ?_⟩
    show _ = _; rw [ordV, if_pos h, decide_eq_false q]; rfl
  refine ⟨fun h => st mo ⟨fun q => st mo ?_, fun q => st mo ?_⟩, fun h5 => st mo ?_⟩
  · refine ⟨_, fun nn => r_call (t := (vFl true).y) rfl rfl Tryz.func137 (fun W M E => p_flag true W), st mo ?_⟩
    show _ = _; rw [ordV, if_neg h4, if_pos h, decide_eq_false q]; rfl
  · refine ⟨_, fun nn => r_call (t := (vFl false).y) rfl rfl Tryz.func137 (fun W M E => p_flag false W), st mo ?_⟩
    show _ = _; rw [ordV, if_neg h4, if_pos h, decide_eq_true q]; rfl
  refine ⟨fun h => st mo ⟨fun q => st mo ?_, fun q => st mo ?_⟩, fun h6 => st mo ?_⟩
  · refine ⟨_, fun nn => r_call (t := (vFl true).y) rfl rfl Tryz.func137 (fun W M E => p_flag true W), st mo ?_⟩
    show _ = _; rw [ordV, if_neg h4, if_neg h5, if_pos h, decide_eq_true (by omega)]; rfl
  · refine ⟨_, fun nn => r_call (t := (vFl false).y) rfl rfl Tryz.func137 (fun W M E => p_flag false W), st mo ?_⟩
    show _ = _; rw [ordV, if_neg h4, if_neg h5, if_pos h, decide_eq_false (by omega)]; rfl
  refine ⟨fun h => st mo ⟨fun q => st mo ?_, fun q => st mo ?_⟩, fun h7 => st mo ?_⟩
  · refine ⟨_, fun nn => r_call (t := (vFl true).y) rfl rfl Tryz.func137 (fun W M E => p_flag true W), st mo ?_⟩
    show _ = _; rw [ordV, if_neg h4, if_neg h5, if_neg h6, if_pos h, decide_eq_true (by omega)]; rfl
  · refine ⟨_, fun nn => r_call (t := (vFl false).y) rfl rfl Tryz.func137 (fun W M E => p_flag false W), st mo ?_⟩
    show _ = _; rw [ordV, if_neg h4, if_neg h5, if_neg h6, if_pos h, decide_eq_false (by omega)]; rfl
  refine ⟨fun h => st mo ⟨fun q => st mo ?_, fun q => st mo ?_⟩, fun h8 => st mo ?_⟩
  · refine ⟨_, fun nn => r_call (t := (vFl true).y) rfl rfl Tryz.func137 (fun W M E => p_flag true W), st mo ?_⟩
    show _ = _; rw [ordV, if_neg h4, if_neg h5, if_neg h6, if_neg h7, if_pos h, decide_eq_true (by omega)]; rfl
  · refine ⟨_, fun nn => r_call (t := (vFl false).y) rfl rfl Tryz.func137 (fun W M E => p_flag false W), st mo ?_⟩
    show _ = _; rw [ordV, if_neg h4, if_neg h5, if_neg h6, if_neg h7, if_pos h, decide_eq_false (by omega)]; rfl
  refine ⟨fun h => st mo ⟨fun q => st mo ?_, fun q => st mo ?_⟩, fun h9 => st mo ?_⟩
  · refine ⟨_, fun nn => r_call (t := (vFl true).y) rfl rfl Tryz.func137 (fun W M E => p_flag true W), st mo ?_⟩
    show _ = _; rw [ordV, if_neg h4, if_neg h5, if_neg h6, if_neg h7, if_neg h8, if_pos h, decide_eq_true (by omega)]; rfl
  · refine ⟨_, fun nn => r_call (t := (vFl false).y) rfl rfl Tryz.func137 (fun W M E => p_flag false W), st mo ?_⟩
    show _ = _; rw [ordV, if_neg h4, if_neg h5, if_neg h6, if_neg h7, if_neg h8, if_pos h, decide_eq_false (by omega)]; rfl
  refine ⟨_, fun nn => r_call (t := (vBad 2).y) rfl rfl Tryz.func44 (fun W M E => p_bad 2 W), st mo ?_⟩
  show _ = _; rw [ordV, if_neg h4, if_neg h5, if_neg h6, if_neg h7, if_neg h8, if_neg h9]; rfl
set_option maxRecDepth 20000 in
theorem p_ofFlags (op : Int) (f g : Bool) (w : World) : Calls Tryz.prog 140 #[.int .i64 op, .bool f, .bool g] w fun r W => r = .returned (opF op f g).v ∧ Mb w W := by
  cases f <;> cases g
  · refine fn_pure [.int .i64 op, litF, litF] Tryz.func140 rfl rfl rfl (run_ok (st mo ⟨fun h => st mo ?_, fun h1 => st mo ⟨fun h => st mo ?_, fun h2 => st mo ?_⟩⟩))
    · refine ⟨_, fun nn => r_call (t := (vFl false).y) rfl rfl Tryz.func137 (fun W M E => p_flag false W), st mo ?_⟩
      show _ = _; rw [opF, if_pos h]; rfl
    · refine ⟨_, fun nn => r_call (t := (vFl false).y) rfl rfl Tryz.func137 (fun W M E => p_flag false W), st mo ?_⟩
      show _ = _; rw [opF, if_neg h1, if_pos h]; rfl
    · refine ⟨_, fun nn => r_call (t := (vBad 2).y) rfl rfl Tryz.func44 (fun W M E => p_bad 2 W), st mo ?_⟩
      show _ = _; rw [opF, if_neg h1, if_neg h2]; rfl
  · refine fn_pure [.int .i64 op, litF, litT] Tryz.func140 rfl rfl rfl (run_ok (st mo ⟨fun h => st mo ?_, fun h1 => st mo ⟨fun h => st mo ?_, fun h2 => st mo ?_⟩⟩))
    · refine ⟨_, fun nn => r_call (t := (vFl false).y) rfl rfl Tryz.func137 (fun W M E => p_flag false W), st mo ?_⟩
      show _ = _; rw [opF, if_pos h]; rfl
    · refine ⟨_, fun nn => r_call (t := (vFl true).y) rfl rfl Tryz.func137 (fun W M E => p_flag true W), st mo ?_⟩
      show _ = _; rw [opF, if_neg h1, if_pos h]; rfl
    · refine ⟨_, fun nn => r_call (t := (vBad 2).y) rfl rfl Tryz.func44 (fun W M E => p_bad 2 W), st mo ?_⟩
      show _ = _; rw [opF, if_neg h1, if_neg h2]; rfl
  · refine fn_pure [.int .i64 op, litT, litF] Tryz.func140 rfl rfl rfl (run_ok (st mo ⟨fun h => st mo ?_, fun h1 => st mo ⟨fun h => st mo ?_, fun h2 => st mo ?_⟩⟩))
    · refine ⟨_, fun nn => r_call (t := (vFl false).y) rfl rfl Tryz.func137 (fun W M E => p_flag false W), st mo ?_⟩
      show _ = _; rw [opF, if_pos h]; rfl
    · refine ⟨_, fun nn => r_call (t := (vFl true).y) rfl rfl Tryz.func137 (fun W M E => p_flag true W), st mo ?_⟩
      show _ = _; rw [opF, if_neg h1, if_pos h]; rfl
    · refine ⟨_, fun nn => r_call (t := (vBad 2).y) rfl rfl Tryz.func44 (fun W M E => p_bad 2 W), st mo ?_⟩
      show _ = _; rw [opF, if_neg h1, if_neg h2]; rfl
  · refine fn_pure [.int .i64 op, litT, litT] Tryz.func140 rfl rfl rfl (run_ok (st mo ⟨fun h => st mo ?_, fun h1 => st mo ⟨fun h => st mo ?_, fun h2 => st mo ?_⟩⟩))
    · refine ⟨_, fun nn => r_call (t := (vFl true).y) rfl rfl Tryz.func137 (fun W M E => p_flag true W), st mo ?_⟩
      show _ = _; rw [opF, if_pos h]; rfl
    · refine ⟨_, fun nn => r_call (t := (vFl true).y) rfl rfl Tryz.func137 (fun W M E => p_flag true W), st mo ?_⟩
      show _ = _; rw [opF, if_neg h1, if_pos h]; rfl
    · refine ⟨_, fun nn => r_call (t := (vBad 2).y) rfl rfl Tryz.func44 (fun W M E => p_bad 2 W), st mo ?_⟩
      show _ = _; rw [opF, if_neg h1, if_neg h2]; rfl
theorem r_min {w0 : B0} {X : World} {o : Oper} {fr : FT} {h : HT} {n : Nat} {y z : Operand} {ts : Array TypeId} (a b : Int) (ho : o.op = .call { callee := .builtin .min, args := #[y, z], argTypes := ts } := by rfl) (hy : den2 (evo fr y) = .int .i64 a := by rfl) (hz : den2 (evo fr z) = .int .i64 b := by rfl) (hpy : pur2 (evo fr y) = true := by rfl) (hpz : pur2 (evo fr z) = true := by rfl) : Oa (Am w0 X) Tryz.prog o fr h n ⟨.int .i64 (min a b), h, n, 0, 0⟩ := by
  refine Oa.val fun k W ac hA hop => ⟨.int .i64 (min a b), pur_vx rfl, ?_⟩
  have h1 := pur2_eq (hop y (by rw [ho]; simp [Op.operands, Call.operands])) hpy
  have h2 := pur2_eq (hop z (by rw [ho]; simp [Op.operands, Call.operands])) hpz
  rw [hy] at h1
  rw [hz] at h2
  by_cases hb : a ≤ b
  · rw [show min a b = a by omega]
    simp [execOp, ho, resolve, invoke, builtin, h1, h2, Builtin.min_, Builtin.min2, show ¬ b < a by omega]
  · rw [show min a b = b by omega]
    simp [execOp, ho, resolve, invoke, builtin, h1, h2, Builtin.min_, Builtin.min2, show b < a by omega]
set_option maxRecDepth 20000 in
theorem d_op (op : Int) (b : Bool) (n s : Int) (c : Bool) (m t : Int) (w : World) (hn0 : 0 ≤ n) (hn : n < MM) (hm0 : 0 ≤ m) (hm : m < MM) (h1 : ck b n s = 0) (h2 : ck c m t = 0) : Calls Tryz.prog 139 #[.int .i64 op, dc b n s, dc c m t] w fun r W => r = .returned (opN op b n s c m t).v ∧ Mb w W := by
  refine fn_pure [.int .i64 op, dc b n s, dc c m t] Tryz.func139 rfl rfl rfl (run_ok (st mo ?_))
  refine ⟨fun h => st mo ?_, fun q1 => st mo ⟨fun h => st mo ?_, fun q2 => st mo ⟨fun h => st mo ?_, fun q3 => st mo ?_⟩⟩⟩
  · refine ⟨_, fun nn => r_call (t := (addR b n s c m t).y) rfl rfl Tryz.func169 (fun W M E => p_add b n s c m t ⟨hn0, hn⟩ ⟨hm0, hm⟩ h1 h2 W), st mo ?_⟩
    refine ⟨_, fun nn => r_call (t := (numV (addR b n s c m t)).y) rfl rfl Tryz.func114 (fun W M E => p_num (addR b n s c m t) W), st mo ?_⟩
    show _ = _; rw [opN, if_pos h]; rfl
  · refine ⟨_, fun nn => r_call (t := (subR b n s c m t).y) rfl rfl Tryz.func170 (fun W M E => p_sub b n s c m t ⟨hn0, hn⟩ ⟨hm0, hm⟩ h1 h2 W), st mo ?_⟩
    refine ⟨_, fun nn => r_call (t := (numV (subR b n s c m t)).y) rfl rfl Tryz.func114 (fun W M E => p_num (subR b n s c m t) W), st mo ?_⟩
    show _ = _; rw [opN, if_neg q1, if_pos h]; rfl
  · have a1 := sc_iff.1 (ck_s h1)
    have a2 := sc_iff.1 (ck_s h2)
    refine ⟨_, wi (by omega), st mo ⟨_, fun nn => r_min (s + t) 18, st mo ?_⟩⟩
    refine ⟨_, fun nn => r_call (t := (mulR b n s c m t).y) rfl rfl Tryz.func158 (fun W M E => d_mul b n s c m t W ⟨hn0, hn⟩ ⟨hm0, hm⟩ h1 h2), st mo ?_⟩
    refine ⟨_, fun nn => r_call (t := (numV (mulR b n s c m t)).y) rfl rfl Tryz.func114 (fun W M E => p_num (mulR b n s c m t) W), st mo ?_⟩
    show _ = _; rw [opN, if_neg q1, if_neg q2, if_pos h]; rfl
  · refine ⟨_, fun nn => r_call (t := .int .i64 (cmpR b n s c m t)) rfl rfl Tryz.func172 (fun W M E => p_dcmp b n s c m t ⟨hn0, hn⟩ ⟨hm0, hm⟩ h1 h2 W), st mo ?_⟩
    refine ⟨_, fun nn => r_call (t := (ordV op (cmpR b n s c m t)).y) rfl rfl Tryz.func171 (fun W M E => p_ofOrder op (cmpR b n s c m t) W), st mo ?_⟩
    show _ = _; rw [opN, if_neg q1, if_neg q2, if_neg q3]; rfl
theorem ask2_0 {x y : VL} (h : ask2 x y = 0) : ask x = 0 ∧ ask y = 0 := by
  unfold ask2 at h
  split at h
  next q => exact ⟨q, h⟩
  next q => exact absurd h q
theorem askK_0 {k : Int} {x : VL} (h : askK k x = 0) : ask x = 0 ∧ x.k = k := by
  unfold askK at h
  split at h
  next q =>
    split at h
    next r => exact ⟨q, r⟩
    next => cases h
  next q => exact absurd h q
theorem num_of {x : VL} (hx : x.ok) (h : ask x = 0) (k : x.k = 1) : ck x.b x.n x.s = 0 := (ckv_num hx (ask_0 hx h).1 k).2
set_option maxRecDepth 20000 in
theorem p_op (op : Int) (x y : VL) (hx : x.ok) (hy : y.ok) (w : World) : Calls Tryz.prog 94 #[.int .i64 op, x.v, y.v] w fun r W => r = .returned (opV op x y).v ∧ Mb w W := by
  refine fn_pure [.int .i64 op, x.y, y.y] Tryz.func94 rfl rfl rfl (run_ok (st mo ?_))
  refine ⟨_, fun nn => r_c (tc := .int .i64 (ask2 x y)) [3] [some ((x.cells ++ y.cells).map rel1)] [] rfl rfl (p_fault2 w x y hx hy) (by exact fitL_cons fs rfl) ⟨flr rfl, trivial⟩ uv ⟨ulr rfl, trivial⟩, st mo ?_⟩
  refine ⟨fun h => st mo ?_, fun h => st mo ⟨fun hk => st mo ?_, fun hk => st mo ⟨fun h1 => st mo ?_, fun h1 => st mo ⟨fun h4 => st mo ?_, fun h4 => st mo ⟨fun h5 => st mo ?_, fun h5 => st mo ⟨fun h2 => st mo ?_, fun h2 => st mo ?_⟩⟩⟩⟩⟩⟩
  · refine ⟨_, fun nn => r_call (t := (vBad (ask2 x y)).y) rfl rfl Tryz.func44 (fun W M E => p_bad (ask2 x y) W), st mo ?_⟩
    show _ = _; rw [opV, if_neg h]; rfl
  · refine ⟨_, fun nn => r_call (t := (vBad 2).y) rfl rfl Tryz.func44 (fun W M E => p_bad 2 W), st mo ?_⟩
    show _ = _; rw [opV, if_pos h, if_neg hk]; rfl
  · refine ⟨_, fun nn => r_call (t := (opN op x.b x.n x.s y.b y.n y.s).y) rfl rfl Tryz.func139 (fun W M E => d_op op x.b x.n x.s y.b y.n y.s W hx.1 hx.2 hy.1 hy.2 (num_of hx (ask2_0 h).1 h1) (num_of hy (ask2_0 h).2 (by rw [← hk]; exact h1))), st mo ?_⟩
    show _ = _; rw [opV, if_pos h, if_pos hk, if_pos h1]; rfl
  · refine ⟨_, r_eqV x y, fun q => st mo ?_, fun q => st mo ?_⟩
    · refine ⟨_, fun nn => r_call (t := (vFl true).y) rfl rfl Tryz.func137 (fun W M E => p_flag true W), st mo ?_⟩
      show _ = _; rw [opV, if_pos h, if_pos hk, if_neg h1, if_pos h4, q]; rfl
    · refine ⟨_, fun nn => r_call (t := (vFl false).y) rfl rfl Tryz.func137 (fun W M E => p_flag false W), st mo ?_⟩
      show _ = _; rw [opV, if_pos h, if_pos hk, if_neg h1, if_pos h4, q]; rfl
  · refine ⟨_, r_neV x y, fun q => st mo ?_, fun q => st mo ?_⟩
    · refine ⟨_, fun nn => r_call (t := (vFl true).y) rfl rfl Tryz.func137 (fun W M E => p_flag true W), st mo ?_⟩
      show _ = _; rw [opV, if_pos h, if_pos hk, if_neg h1, if_neg h4, if_pos h5, q]; rfl
    · refine ⟨_, fun nn => r_call (t := (vFl false).y) rfl rfl Tryz.func137 (fun W M E => p_flag false W), st mo ?_⟩
      show _ = _; rw [opV, if_pos h, if_pos hk, if_neg h1, if_neg h4, if_pos h5, q]; rfl
  · refine ⟨_, fun nn => r_call (t := (opF op x.f y.f).y) rfl rfl Tryz.func140 (fun W M E => p_ofFlags op x.f y.f W), st mo ?_⟩
    show _ = _; rw [opV, if_pos h, if_pos hk, if_neg h1, if_neg h4, if_neg h5, if_pos h2]; rfl
  · refine ⟨_, fun nn => r_call (t := (vBad 2).y) rfl rfl Tryz.func44 (fun W M E => p_bad 2 W), st mo ?_⟩
    show _ = _; rw [opV, if_pos h, if_pos hk, if_neg h1, if_neg h4, if_neg h5, if_neg h2]; rfl
set_option maxRecDepth 20000 in
theorem p_neg (x : VL) (hx : x.ok) (w : World) : Calls Tryz.prog 92 #[x.v] w fun r W => r = .returned (negV x).v ∧ Mb w W := by
  refine fn_pure [x.y] Tryz.func92 rfl rfl rfl (run_ok (st mo ?_))
  refine ⟨_, fun nn => r_call (t := .int .i64 (askK 1 x)) rfl rfl Tryz.func113 (fun W M E => p_faultFor 1 x hx W), st mo ?_⟩
  refine ⟨fun h => st mo ?_, fun h => st mo ?_⟩
  · refine ⟨_, fun nn => r_call (t := (vBad (askK 1 x)).y) rfl rfl Tryz.func44 (fun W M E => p_bad (askK 1 x) W), st mo ?_⟩
    show _ = _; rw [negV, if_neg h]; rfl
  · refine ⟨_, fun nn => r_call (t := (negR x.b x.n x.s).y) rfl rfl Tryz.func136 (fun W M E => p_dneg x.b x.n x.s hx (num_of hx (askK_0 h).1 (askK_0 h).2) W), st mo ?_⟩
    refine ⟨_, fun nn => r_call (t := (numV (negR x.b x.n x.s)).y) rfl rfl Tryz.func114 (fun W M E => p_num (negR x.b x.n x.s) W), st mo ?_⟩
    show _ = _; rw [negV, if_pos h]; rfl
set_option maxRecDepth 20000 in
theorem p_not (x : VL) (hx : x.ok) (w : World) : Calls Tryz.prog 93 #[x.v] w fun r W => r = .returned (notV x).v ∧ Mb w W := by
  refine fn_pure [x.y] Tryz.func93 rfl rfl rfl (run_ok (st mo ?_))
  refine ⟨_, fun nn => r_call (t := .int .i64 (askK 2 x)) rfl rfl Tryz.func113 (fun W M E => p_faultFor 2 x hx W), st mo ?_⟩
  refine ⟨fun h => st mo ?_, fun h => st mo ?_⟩
  · refine ⟨_, fun nn => r_call (t := (vBad (askK 2 x)).y) rfl rfl Tryz.func44 (fun W M E => p_bad (askK 2 x) W), st mo ?_⟩
    show _ = _; rw [notV, if_neg h]; rfl
  · refine ⟨_, fun nn => r_call (t := (vFl (!x.f)).y) rfl rfl Tryz.func137 (fun W M E => p_flag (!x.f) W), st mo ?_⟩
    show _ = _; rw [notV, if_pos h]; rfl
set_option maxRecDepth 20000 in
theorem p_if (c x y : VL) (hc : c.ok) (hx : x.ok) (hy : y.ok) (w : World) : Calls Tryz.prog 95 #[c.v, x.v, y.v] w fun r W => r = .returned (ifV c x y).v ∧ Mb w W := by
  refine fn_pure [c.y, x.y, y.y] Tryz.func95 rfl rfl rfl (run_ok (st mo ?_))
  refine ⟨_, fun nn => r_call (t := .int .i64 (askK 2 c)) rfl rfl Tryz.func113 (fun W M E => p_faultFor 2 c hc W), st mo ?_⟩
  refine ⟨fun h => st mo ?_, fun h => st mo ⟨fun hf => st mo ?_, fun hf => st mo ?_⟩⟩
  · refine ⟨_, fun nn => r_call (t := (vBad (askK 2 c)).y) rfl rfl Tryz.func44 (fun W M E => p_bad (askK 2 c) W), st mo ?_⟩
    show _ = _; rw [ifV, if_neg h]; rfl
  · refine ⟨_, fun nn => r_call (t := .int .i64 (ckI x)) rfl rfl Tryz.func77 (fun W M E => p_check x hx W), st mo ⟨fun q => st mo ?_, fun q => st mo ?_⟩⟩
    · refine ⟨_, fun nn => r_call (t := (vBad 2).y) rfl rfl Tryz.func44 (fun W M E => p_bad 2 W), st mo ?_⟩
      show _ = _; rw [ifV, if_pos h, hf, if_pos rfl, mayV, ckI_1 q]; rfl
    · show _ = _; rw [ifV, if_pos h, hf, if_pos rfl, mayV, ckI_0 q]; rfl
  · refine ⟨_, fun nn => r_call (t := .int .i64 (ckI y)) rfl rfl Tryz.func77 (fun W M E => p_check y hy W), st mo ⟨fun q => st mo ?_, fun q => st mo ?_⟩⟩
    · refine ⟨_, fun nn => r_call (t := (vBad 2).y) rfl rfl Tryz.func44 (fun W M E => p_bad 2 W), st mo ?_⟩
      show _ = _; rw [ifV, if_pos h, hf, if_neg (by decide), mayV, ckI_1 q]; rfl
    · show _ = _; rw [ifV, if_pos h, hf, if_neg (by decide), mayV, ckI_0 q]; rfl
set_option maxRecDepth 20000 in
theorem p_round (x : VL) (hx : x.ok) (s p : Int) (w : World) : Calls Tryz.prog 78 #[x.v, .int .i64 s, .int .i64 p] w fun r W => r = .returned (rndV x s p).v ∧ Mb w W := by
  refine fn_pure [x.y, .int .i64 s, .int .i64 p] Tryz.func78 rfl rfl rfl (run_ok (st mo ?_))
  refine ⟨_, fun nn => r_call (t := .int .i64 (askK 1 x)) rfl rfl Tryz.func113 (fun W M E => p_faultFor 1 x hx W), st mo ?_⟩
  refine ⟨fun h => st mo ?_, fun h => st mo ?_⟩
  · refine ⟨_, fun nn => r_call (t := (vBad (askK 1 x)).y) rfl rfl Tryz.func44 (fun W M E => p_bad (askK 1 x) W), st mo ?_⟩
    show _ = _; rw [rndV, if_neg h]; rfl
  · refine ⟨_, fun nn => r_call (t := (rndR x.b x.n x.s s p).y) rfl rfl Tryz.func115 (fun W M E => p_resc x.b x.n x.s s p hx (num_of hx (askK_0 h).1 (askK_0 h).2) W), st mo ?_⟩
    refine ⟨_, fun nn => r_call (t := (numV (rndR x.b x.n x.s s p)).y) rfl rfl Tryz.func114 (fun W M E => p_num (rndR x.b x.n x.s s p) W), st mo ?_⟩
    show _ = _; rw [rndV, if_pos h]; rfl
set_option maxRecDepth 20000 in
theorem p_blank (x : VL) (hx : x.ok) (w : World) : Calls Tryz.prog 97 #[x.v] w fun r W => r = .returned (blkV x).v ∧ Mb w W := by
  refine fn_pure [x.y] Tryz.func97 rfl rfl rfl (run_ok (st mo ?_))
  refine ⟨_, fun nn => r_call (t := .int .i64 (ckI x)) rfl rfl Tryz.func77 (fun W M E => p_check x hx W), st mo ⟨fun q => st mo ?_, fun q => st mo ⟨fun h => st mo ?_, fun h => st mo ⟨fun h0 => st mo ?_, fun h0 => st mo ?_⟩⟩⟩⟩
  · refine ⟨_, fun nn => r_call (t := (vBad 2).y) rfl rfl Tryz.func44 (fun W M E => p_bad 2 W), st mo ?_⟩
    show _ = _; rw [blkV, ckI_1 q]; rfl
  · show _ = _; rw [blkV, if_pos (ckI_0 q), if_pos h]; rfl
  · refine ⟨_, fun nn => r_call (t := (vFl true).y) rfl rfl Tryz.func137 (fun W M E => p_flag true W), st mo ?_⟩
    show _ = _; rw [blkV, if_pos (ckI_0 q), if_neg h, decide_eq_true h0]; rfl
  · refine ⟨_, fun nn => r_call (t := (vFl false).y) rfl rfl Tryz.func137 (fun W M E => p_flag false W), st mo ?_⟩
    show _ = _; rw [blkV, if_pos (ckI_0 q), if_neg h, decide_eq_false h0]; rfl
end Go.Proofs.YtfmfeipeeedfpaaGreat
