/-
  A part of the proof.
-/
import Derived.Test.YthehmmhnacomkaaKa4
import Derived.Test.YthehmmhnacomkaaKa1
import Derived.Test.YthehmmhnacomkaaProg
import Derived.WalkKit
import Derived.WalkSpells
import Derived.Handy
import Derived.BigQuiet
import Derived.Deep.RegionHeld3
import Derived.Test.YthehmmhnacomkaaKa3
import Derived.Shelf.Small.Bits
import Derived.Shelf.Strconv.Itoa0
import Derived.Shelf.Bits.Mul64
import Derived.Deep.CutBlock
import Derived.Test.YthehmmhnacomkaaKa5
import Derived.Deep.CutRange
namespace Go.Proofs.Ythehmmhnacomkaa
open Go.RowKit
def gl (r2 r3 b3 : Int) : Int := if b3 ≤ r3 then 18446744073709551615 else (r3 * 18446744073709551616 + r2) / b3
set_option maxHeartbeats 1000000 in
theorem guess_any (r0 r1 r2 r3 b0 b1 b2 b3 : Int) (w : World) (hr : U4 r0 r1 r2 r3) (hb : U4 b0 b1 b2 b3) :
  Calls Try.prog 108 #[.agg #[.int .u64 r0, .int .u64 r1, .int .u64 r2, .int .u64 r3], .agg #[.int .u64 b0, .int .u64 b1, .int .u64 b2, .int .u64 b3]] w fun e w' =>
   e = .returned (.int .u64 (gl r2 r3 b3)) ∧ Mo w w' := by
 obtain ⟨⟨p0, q0⟩, ⟨p1, q1⟩, ⟨p2, q2⟩, ⟨p3, q3⟩⟩ := hr
 obtain ⟨⟨u0, v0⟩, ⟨u1, v1⟩, ⟨u2, v2⟩, ⟨u3, v3⟩⟩ := hb
 by_cases h : b3 ≤ r3
 ·have e : gl r2 r3 b3 = 18446744073709551615 := by unfold gl; rw [if_pos h]
  rw [e]
  clear e
  go_enter Try.func108, Try.ntmps108
  go_wp2
  go_ret
  exact ⟨rfl, ((Mo.refl _).alloc _ _).alloc _ _⟩
 ·have e : gl r2 r3 b3 = (r3 * 18446744073709551616 + r2) / b3 := by unfold gl; rw [if_neg h]
  rw [e]
  clear e
  have h' : r3 < b3 := by omega
  go_enter Try.func108, Try.ntmps108
  go_wp2_with (go_at_call 110; refine (div64_any r3 r2 b3 _ p3 h' p2 q2 v3).mono ?_; rintro e w' ⟨rfl, n, rfl⟩)
  go_ret
  exact ⟨rfl, (((Mo.refl _).alloc _ _).alloc _ _).drewN _⟩
theorem gl_bd {r0 r1 r2 r3 b0 b1 b2 b3 x : Int} (hr : U4 r0 r1 r2 r3) (hb : U4 b0 b1 b2 b3) (hx : U1 x) (hlt : vl r0 r1 r2 r3 < vl b0 b1 b2 b3) :
  U1 (gl r2 r3 b3) ∧ (vl r0 r1 r2 r3 * 18446744073709551616 + x) / vl b0 b1 b2 b3 ≤ gl r2 r3 b3 := by
 have rb := vl_bd hr
 have bb := vl_bd hb
 obtain ⟨⟨p0, q0⟩, ⟨p1, q1⟩, ⟨p2, q2⟩, ⟨p3, q3⟩⟩ := hr
 obtain ⟨⟨u0, v0⟩, ⟨u1, v1⟩, ⟨u2, v2⟩, ⟨u3, v3⟩⟩ := hb
 obtain ⟨x0, x1⟩ := hx
 have qlt : (vl r0 r1 r2 r3 * 18446744073709551616 + x) / vl b0 b1 b2 b3 < 18446744073709551616 := by
  apply Int.ediv_lt_of_lt_mul (by omega)
  have : (vl r0 r1 r2 r3 + 1) * 18446744073709551616 ≤ vl b0 b1 b2 b3 * 18446744073709551616 := by omega
  omega
 have qn : 0 ≤ (vl r0 r1 r2 r3 * 18446744073709551616 + x) / vl b0 b1 b2 b3 := Int.ediv_nonneg (by omega) (by omega)
 unfold gl
 by_cases h : b3 ≤ r3
 ·rw [if_pos h]
  exact ⟨⟨by decide, by decide⟩, by omega⟩
 ·rw [if_neg h]
  refine ⟨⟨Int.ediv_nonneg (by omega) u3, Int.ediv_lt_of_lt_mul (by omega) (by omega)⟩, ?_⟩
  apply (Int.le_ediv_iff_mul_le (by omega)).2
  have m := Int.ediv_mul_le (vl r0 r1 r2 r3 * 18446744073709551616 + x) (show vl b0 b1 b2 b3 ≠ 0 by omega)
  generalize (vl r0 r1 r2 r3 * 18446744073709551616 + x) / vl b0 b1 b2 b3 = q at *
  have m2 : q * (6277101735386680763835789423207666416102355444464034512896 * b3) ≤ q * vl b0 b1 b2 b3 := Int.mul_le_mul_of_nonneg_left (by unfold vl; omega) qn
  rw [Int.mul_left_comm] at m2
  have m3 : vl r0 r1 r2 r3 * 18446744073709551616 + x < 6277101735386680763835789423207666416102355444464034512896 * (r3 * 18446744073709551616 + r2 + 1) := by unfold vl; omega
  omega

theorem left_eq {r0 r1 r2 r3 x T lo N DG Y : Int} (hN : N = vl r0 r1 r2 r3 * 18446744073709551616 + x) (hT : T = DG / MM) (hlo : lo = DG % MM) (hY : Y = N - DG) :
  (vl x r0 r1 r2 - lo) % MM = Y % MM ∧ IntKind.u64.wrap (IntKind.u64.wrap (r3 - T) - -((vl x r0 r1 r2 - lo) / MM)) = Y / MM % 18446744073709551616 := by
 rw [IntKind.wrap_u64, IntKind.wrap_u64]
 have e : Y = (vl x r0 r1 r2 - lo) + MM * (r3 - T) := by subst hN hY hT hlo; unfold vl MM; omega
 constructor
 ·rw [e]; unfold MM; omega
 ·rw [e]; unfold MM; omega
theorem back_eq {Y D S : Int} (hS : S = Y % MM + D) : nv S = nv (Y + D) ∧ IntKind.u64.wrap (Y / MM % 18446744073709551616 + S / MM) = (Y + D) / MM % 18446744073709551616 := by
 constructor
 ·rw [← nv_mod S, ← nv_mod (Y + D), hS, Int.emod_add_emod]
 ·rw [IntKind.wrap_u64, hS]; unfold MM; omega
theorem top_says {N D g Y t : Int} (hD : 0 < D) (hD2 : D < MM) (hN : 0 ≤ N) (hg : 0 ≤ g) (hg2 : g < 18446744073709551616) (hq : N / D ≤ g) (hY : Y = N - D * g) (ht : t = Y / MM % 18446744073709551616) :
  (t ≠ 0 → N / D ≤ g - 1 ∧ 1 ≤ g) ∧ (t = 0 → g = N / D ∧ Y = N % D) := by
 have m1 : N < (N / D + 1) * D := Int.lt_ediv_add_one_mul_self N hD
 have m2 : (N / D + 1) * D ≤ (g + 1) * D := Int.mul_le_mul_of_nonneg_right (by omega) (by omega)
 rw [Int.add_mul g, Int.one_mul, Int.mul_comm g] at m2
 have m3 : D * g ≤ D * 18446744073709551615 := Int.mul_le_mul_of_nonneg_left (by omega) (by omega)
 have qn : 0 ≤ N / D := Int.ediv_nonneg hN (by omega)
 have ylt : Y < D := by omega
 refine ⟨fun h => ?_, fun h => ?_⟩
 ·have yneg : Y < 0 := by
   apply Int.lt_of_not_ge
   intro hge
   apply h
   rw [ht]
   unfold MM at *
   omega
  have : N / D < g := by
   apply Int.ediv_lt_of_lt_mul hD
   rw [Int.mul_comm]
   omega
  omega
 ·have ypos : 0 ≤ Y := by
   apply Int.le_of_not_gt
   intro hlt
   rw [ht] at h
   unfold MM at *
   omega
  have : g ≤ N / D := by
   apply (Int.le_ediv_iff_mul_le hD).2
   rw [Int.mul_comm]
   omega
  have e : g = N / D := by omega
  refine ⟨e, ?_⟩
  rw [hY, e, Int.emod_def]

def DW (w wr : World) (k : Nat) (b0 b1 b2 b3 y0 y1 y2 y3 : Int) : Prop := Mo w wr ∧ w.heap.size + 1 + 1 < k ∧ k < wr.heap.size ∧ At4 wr (w.heap.size + 1) b0 b1 b2 b3 ∧ At4 wr (w.heap.size + 1 + 1) 0 0 0 0 ∧ Fz wr (w.heap.size + 1 + 1) ∧ At4 wr k y0 y1 y2 y3 ∧ Fz wr k
theorem DW.mo {w wr w1 : World} {k : Nat} {b0 b1 b2 b3 y0 y1 y2 y3 : Int} (h : DW w wr k b0 b1 b2 b3 y0 y1 y2 y3) (m : Mo wr w1) : DW w w1 k b0 b1 b2 b3 y0 y1 y2 y3 := by
 obtain ⟨h1, h2, h3, h4, h5, h6, h7, h8⟩ := h
 have := m.size
 exact ⟨h1.trans m, h2, by omega, h4.mo m (by omega), h5.mo m (by omega), h6.mo m, h7.mo m h3, h8.mo m⟩
theorem DW.put {w w1 : World} {k : Nat} {b0 b1 b2 b3 y0 y1 y2 y3 : Int} (h : DW w w1 k b0 b1 b2 b3 y0 y1 y2 y3) (z0 z1 z2 z3 : Int) : DW w ((((w1.setCell ⟨k, 0, none⟩ (.int .u64 z0)).setCell ⟨k, 1, none⟩ (.int .u64 z1)).setCell ⟨k, 2, none⟩ (.int .u64 z2)).setCell ⟨k, 3, none⟩ (.int .u64 z3)) k b0 b1 b2 b3 z0 z1 z2 z3 := by
 obtain ⟨h1, h2, h3, ⟨a0, a1, a2, a3⟩, ⟨c0, c1, c2, c3⟩, h6, ⟨d0, d1, d2, d3⟩, h8⟩ := h
 have le : w.heap.size ≤ k := by omega
 have n1 : ¬ w.heap.size + 1 = k := by omega
 have n2 : ¬ w.heap.size + 1 + 1 = k := by omega
 refine ⟨(((h1.setCell le _).setCell le _).setCell le _).setCell le _, h2, by simpa [World.setCell] using h3, ?_, ?_, ?_, ?_, ?_⟩
 ·simp [At4, go_sem, *]
 ·simp [At4, go_sem, *]
 ·intro o; simp [World.frozen?_setCell, h6 o]
 ·simp [At4, go_sem, *]
 ·intro o; simp [World.frozen?_setCell, h8 o]

set_option maxHeartbeats 2000000 in
theorem divStep_any (r0 r1 r2 r3 x b0 b1 b2 b3 N D : Int) (w : World) (hr : U4 r0 r1 r2 r3) (hx : U1 x) (hb : U4 b0 b1 b2 b3) (hN : Hid (N = vl r0 r1 r2 r3 * 18446744073709551616 + x)) (hD : Hid (D = vl b0 b1 b2 b3)) (hlt : Hid (vl r0 r1 r2 r3 < D)) :
  Calls Try.prog 100 #[.agg #[.int .u64 r0, .int .u64 r1, .int .u64 r2, .int .u64 r3], .int .u64 x, .agg #[.int .u64 b0, .int .u64 b1, .int .u64 b2, .int .u64 b3]] w fun e w' =>
   e = .returned (.tuple #[.int .u64 (N / D), nv (N % D)]) ∧ Mo w w' := by
 have rb := vl_bd hr
 have bb := vl_bd hb
 have gb := gl_bd hr hb hx (by rw [← hD.out]; exact hlt.out)
 have HG : Hid (N / D ≤ gl r2 r3 b3) := by have := gb.2; rw [← hN.out, ← hD.out] at this; exact this
 have HB : Hid ((0 < D ∧ D < MM) ∧ 0 ≤ N) := by
  have a := hlt.out; have c := hD.out; have d := hN.out; unfold U1 at hx
  exact ⟨⟨by omega, by omega⟩, by omega⟩
 have gu := gb.1
 clear gb rb bb
 generalize hgl : gl r2 r3 b3 = g at *
 have Hgl : Hid _ := hgl
 clear hgl
 have gu' := gu
 obtain ⟨g0, g1⟩ := gu'
 go_enter Try.func100, Try.ntmps100
 go_wp2_with fail
 refine (guess_any r0 r1 r2 r3 b0 b1 b2 b3 _ hr hb).mono ?_
 rintro e w1 ⟨rfl, hm1⟩
 rw [Hgl.out]
 have z1 := hm1.size
 simp only [World.size_alloc] at z1
 have R1 : At4 w1 w.heap.size r0 r1 r2 r3 := At4.mo (by simp [At4, go_sem]) hm1 (by simp; omega)
 have B1 : At4 w1 (w.heap.size + 1) b0 b1 b2 b3 := At4.mo (by simp [At4, go_sem]) hm1 (by simp)
 have Z1 : At4 w1 (w.heap.size + 1 + 1) 0 0 0 0 := At4.mo (by simp [At4, go_sem]) hm1 (by simp)
 have F1 : Fz w1 (w.heap.size + 1 + 1) := Fz.mo (fun o => by simp [go_sem]) hm1
 have M1 : Mo w w1 := ((((Mo.refl _).alloc _ _).alloc _ _).alloc _ _).trans hm1
 clear hm1
 have o1 := R1
 have o2 := B1
 obtain ⟨c0, c1, c2, c3⟩ := o1
 obtain ⟨d0, d1, d2, d3⟩ := o2
 go_wp2_with fail
 refine (mulLimb_any b0 b1 b2 b3 g _ hb gu).mono ?_
 rintro e w2 ⟨rfl, hm2⟩
 rw [← hD.out]
 have z2 := hm2.size
 have R2 := R1.mo hm2 (by omega)
 have B2 := B1.mo hm2 (by omega)
 have Z2 := Z1.mo hm2 (by omega)
 have F2 := F1.mo hm2
 have M2 := M1.trans hm2
 clear c0 c1 c2 c3 d0 d1 d2 d3 R1 B1 Z1 F1 M1
 have o1 := R2
 have s1 : w.heap.size < w2.heap.size := by omega
 obtain ⟨c0, c1, c2, c3⟩ := o1
 generalize hT : D * g / MM = T
 generalize hP : D * g = P at *
 go_wp2_with fail
 refine (subBorrow_any x r0 r1 r2 (l0 P) (l1 P) (l2 P) (l3 P) _ ⟨hx, hr.1, hr.2.1, hr.2.2.1⟩ (u4_lb P)).mono ?_
 rintro e w3 ⟨rfl, hm3⟩
 rw [vl_nv P]
 obtain ⟨f1, f2⟩ := left_eq (r0 := r0) (r1 := r1) (r2 := r2) (r3 := r3) (x := x) (T := T) (lo := P % MM) (N := N) (DG := P) (Y := N - P) hN.out hT.symm rfl rfl
 rw [f1, nv_mod]
 generalize hbo : -((vl x r0 r1 r2 - P % MM) / MM) = bo at *
 generalize ht0 : (N - P) / MM % 18446744073709551616 = t0 at *
 have Ht0 : Hid _ := ht0
 have HP : Hid _ := hP
 have hz3 := hm3.size
 simp only [World.size_alloc] at hz3
 have q1 : (Mo (w2.alloc (.cells #[.int .u64 (l0 P), .int .u64 (l1 P), .int .u64 (l2 P), .int .u64 (l3 P)] 31)) w3) := hm3
 have m0 : Mo w2 w3 := ((Mo.refl _).alloc _ _).trans q1
 have R3 := R2.mo m0 s1
 have B3 := B2.mo m0 (by omega)
 have Z3 := Z2.mo m0 (by omega)
 have F3 := F2.mo m0
 have M3 := M2.trans m0
 have S0 : DW w (w3.alloc (.cells #[.int .u64 (l0 (N - P)), .int .u64 (l1 (N - P)), .int .u64 (l2 (N - P)), .int .u64 (l3 (N - P))] 31)) w3.heap.size b0 b1 b2 b3 (l0 (N - P)) (l1 (N - P)) (l2 (N - P)) (l3 (N - P)) := by
  have a : Mo w3 (w3.alloc (.cells #[.int .u64 (l0 (N - P)), .int .u64 (l1 (N - P)), .int .u64 (l2 (N - P)), .int .u64 (l3 (N - P))] 31)) := (Mo.refl _).alloc _ _
  exact ⟨M3.trans a, by omega, by simp, B3.mo a (by omega), Z3.mo a (by omega), F3.mo a, by simp [At4, go_sem], fun o => by simp [go_sem]⟩
 clear c0 c1 c2 c3 R2 B2 Z2 F2 M2 hm2 hm3 q1 m0 hT hP hbo ht0 f1 B3 Z3 F3 M3
 have s3 : w.heap.size < w3.heap.size := by omega
 obtain ⟨c0, c1, c2, c3⟩ := R3
 go_wp2
 go_loopw [8, 13] (fun s8 s13 wr => ∃ h t Y : Int, s8 = .int .u64 h ∧ s13 = .int .u64 t ∧ 0 ≤ h ∧ h < 18446744073709551616 ∧ 0 ≤ t ∧ t < 18446744073709551616 ∧ N / D ≤ h ∧ Y = N - D * h ∧ t = Y / MM % 18446744073709551616 ∧ DW w wr w3.heap.size b0 b1 b2 b3 (l0 Y) (l1 Y) (l2 Y) (l3 Y)) (fun s8 _ _ => (intOf s8).toNat)
 case atStart =>
  refine ⟨g, t0, N - P, rfl, rfl, g0, g1, ?_, ?_, HG.out, by rw [HP.out], Ht0.out.symm, S0⟩
  ·rw [← Ht0.out]; omega
  ·rw [← Ht0.out]; omega
 case round =>
  obtain ⟨h, t, Y, rfl, rfl, i1, i2, i3, i4, i5, i6, i7, ht⟩ := hrel
  obtain ⟨ts1, ts2⟩ := top_says HB.out.1.1 HB.out.1.2 HB.out.2 i1 i2 i5 i6 i7
  have HY : Hid (Y = N - D * h) := i6
  have Ht : Hid (t = Y / MM % 18446744073709551616) := i7
  clear i6 i7 i5 S0
  by_cases tz : t = 0
  ·obtain ⟨e1, e2⟩ := ts2 tz
   have E1 : Hid _ := e1
   have E2 : Hid _ := e2
   have tb : (t != 0) = false := by rw [tz]; rfl
   clear e1 e2 ts1 ts2 tz
   obtain ⟨k1, k2, k3, K4, ⟨n0, n1, n2, n3⟩, K6, ⟨y0, y1, y2, y3⟩, K8⟩ := ht
   have K6 := fun o => K6 o
   go_wp2
   go_cut [6] from 56 to 57 (fun s6 wx => s6 = .int .u64 h ∧ At4 wx (w.heap.size + 1 + 1) (l0 Y) (l1 Y) (l2 Y) (l3 Y) ∧ Mo w wx)
   case first =>
    go_region
    go_wp2
    go_meet
    case rel =>
     refine ⟨rfl, by simp [At4, go_sem, n0, n1, n2, n3], ?_⟩
     repeat (first | with_reducible exact k1 | with_reducible apply Mo.drew | with_reducible refine Mo.setCell ?_ (by simp <;> omega) _)
   case rest =>
    obtain ⟨rfl, ⟨P0, P1, P2, P3⟩, hmo⟩ := hcut
    go_wp2
    refine bodyPost_ret (v := .tuple #[.int .u64 h, nv Y]) (by simp [results, Try.results100, go_sem, P0, P1, P2, P3]) rfl ?_
    exact ⟨by rw [E1.out, E2.out], hmo⟩
  ·obtain ⟨j1, j2⟩ := ts1 tz
   have J1 : Hid (N / D ≤ h - 1) := j1
   have tb : (t != 0) = true := by simp [tz]
   clear ts1 ts2 tz j1
   have ht0 := ht
   obtain ⟨k1, k2, k3, ⟨d0, d1, d2, d3⟩, K5, K6, ⟨y0, y1, y2, y3⟩, K8⟩ := ht
   clear K5 K6 K8
   go_wp2_with fail
   refine (addCarry_any (l0 Y) (l1 Y) (l2 Y) (l3 Y) b0 b1 b2 b3 _ (u4_lb Y) hb).mono ?_
   rintro e w4 ⟨rfl, hm4⟩
   rw [vl_nv Y, ← hD.out]
   obtain ⟨f1, f2⟩ := back_eq (Y := Y) (D := D) rfl
   rw [f1]
   rw [← Ht.out] at f2
   have hd := (ht0.mo hm4).put (l0 (Y + D)) (l1 (Y + D)) (l2 (Y + D)) (l3 (Y + D))
   have ht1 := ht0.mo hm4
   clear k1 k2 k3 d0 d1 d2 d3 y0 y1 y2 y3
   obtain ⟨k1, k2, k3, K4, K5, K6, ⟨y0, y1, y2, y3⟩, K8⟩ := ht1
   have K8 := fun o => K8 o
   clear K4 K5 K6
   generalize (Y % MM + D) / MM = c at *
   generalize ht2 : (Y + D) / MM % 18446744073709551616 = t2 at *
   have Ht2 : Hid _ := ht2
   clear ht2 f1
   go_wp2
   go_roundw
   case rel =>
    refine ⟨h - 1, t2, Y + D, rfl, rfl, by omega, by omega, ?_, ?_, J1.out, ?_, Ht2.out.symm, hd⟩
    ·rw [← Ht2.out]; omega
    ·rw [← Ht2.out]; omega
    ·rw [HY.out, Int.mul_sub, Int.mul_one]; omega
   case measure => simp [intOf]; omega
end Go.Proofs.Ythehmmhnacomkaa

namespace Go.Proofs.Ythehmmhnacomkaa
def sl (r : Nat) (a b : Int) : Int := a * 2 ^ r % 18446744073709551616 + b / 2 ^ (64 - r)
def sr (r : Nat) (a b : Int) : Int := a / 2 ^ r + b * 2 ^ (64 - r) % 18446744073709551616
theorem pq (r : Nat) (hr : r < 64) : (0 : Int) < 2 ^ r ∧ (0 : Int) < 2 ^ (64 - r) ∧ (2 : Int) ^ (64 - r) * 2 ^ r = 18446744073709551616 :=
 ⟨Int.pow_pos (by decide), Int.pow_pos (by decide), pow_split r (by omega)⟩
theorem sl_top (r : Nat) (hr : r < 64) (a : Int) : a * 2 ^ r % 18446744073709551616 = a % 2 ^ (64 - r) * 2 ^ r ∧ a * 2 ^ r / 18446744073709551616 = a / 2 ^ (64 - r) := by
 obtain ⟨hP, hQ, e⟩ := pq r hr
 rw [← e]
 have d : a * 2 ^ r / (2 ^ (64 - r) * 2 ^ r) = a / 2 ^ (64 - r) := Int.mul_ediv_mul_of_pos_left _ _ hP
 refine ⟨?_, d⟩
 rw [mod_sub, d, mod_sub a, Int.sub_mul, Int.mul_assoc]
theorem low_lt (r : Nat) (hr : r < 64) {b : Int} (hb : U1 b) : 0 ≤ b / 2 ^ (64 - r) ∧ b / 2 ^ (64 - r) < 2 ^ r := by
 obtain ⟨hP, hQ, e⟩ := pq r hr
 obtain ⟨b0, b1⟩ := hb
 refine ⟨Int.ediv_nonneg b0 (by omega), Int.ediv_lt_of_lt_mul hQ ?_⟩
 rw [Int.mul_comm, e]; exact b1
theorem sl_u (r : Nat) (hr : r < 64) {a b : Int} (_ha : U1 a) (hb : U1 b) : U1 (sl r a b) := by
 obtain ⟨hP, hQ, e⟩ := pq r hr
 obtain ⟨t1, t2⟩ := sl_top r hr a
 obtain ⟨w1, w2⟩ := low_lt r hr hb
 unfold sl
 have m0 := Int.emod_nonneg a (show (2 : Int) ^ (64 - r) ≠ 0 by omega)
 have m1 := Int.emod_lt_of_pos a hQ
 have k0 : 0 ≤ a % 2 ^ (64 - r) * 2 ^ r := Int.mul_nonneg m0 (by omega)
 have k1 : (a % 2 ^ (64 - r) + 1) * 2 ^ r ≤ 2 ^ (64 - r) * 2 ^ r := Int.mul_le_mul_of_nonneg_right (by omega) (by omega)
 rw [Int.add_mul, Int.one_mul, e] at k1
 rw [t1]
 exact ⟨by omega, by omega⟩
theorem sl_or (r : Nat) (hr : r < 64) {a b : Int} (ha : U1 a) (hb : U1 b) : Go.bits .or .u64 (Go.IntKind.u64.wrap (a * 2 ^ r)) (b / 2 ^ (64 - r)) = sl r a b := by
 obtain ⟨t1, t2⟩ := sl_top r hr a
 obtain ⟨w1, w2⟩ := low_lt r hr hb
 have u := sl_u r hr ha hb
 obtain ⟨hP, hQ, e⟩ := pq r hr
 have m0 := Int.emod_nonneg a (show (2 : Int) ^ (64 - r) ≠ 0 by omega)
 unfold sl at *
 rw [Go.IntKind.wrap_u64, t1] at *
 exact or_join _ _ r m0 w1 w2 u.2
theorem sl_0 (r : Nat) (a : Int) : Go.IntKind.u64.wrap (a * 2 ^ r) = sl r a 0 := by
 unfold sl; rw [Go.IntKind.wrap_u64, Int.zero_ediv, Int.add_zero]
theorem sl_vl (r : Nat) (hr : r < 64) {a0 a1 a2 a3 : Int} (ha : U4 a0 a1 a2 a3) :
  U4 (sl r a0 0) (sl r a1 a0) (sl r a2 a1) (sl r a3 a2) ∧ vl (sl r a0 0) (sl r a1 a0) (sl r a2 a1) (sl r a3 a2) + MM * (a3 / 2 ^ (64 - r)) = vl a0 a1 a2 a3 * 2 ^ r := by
 obtain ⟨g0, g1, g2, g3⟩ := ha
 refine ⟨⟨sl_u r hr g0 ⟨by decide, by decide⟩, sl_u r hr g1 g0, sl_u r hr g2 g1, sl_u r hr g3 g2⟩, ?_⟩
 have e0 := (sl_top r hr a0).2
 have e1 := (sl_top r hr a1).2
 have e2 := (sl_top r hr a2).2
 have e3 := (sl_top r hr a3).2
 have e : vl a0 a1 a2 a3 * 2 ^ r = a0 * 2 ^ r + 18446744073709551616 * (a1 * 2 ^ r) + 340282366920938463463374607431768211456 * (a2 * 2 ^ r) + 6277101735386680763835789423207666416102355444464034512896 * (a3 * 2 ^ r) := by
  unfold vl; rw [Int.add_mul, Int.add_mul, Int.add_mul, Int.mul_assoc, Int.mul_assoc, Int.mul_assoc]
 rw [e]
 unfold sl
 rw [Int.zero_ediv, ← e0, ← e1, ← e2, ← e3]
 generalize a0 * 2 ^ r = x0 at *
 generalize a1 * 2 ^ r = x1 at *
 generalize a2 * 2 ^ r = x2 at *
 generalize a3 * 2 ^ r = x3 at *
 unfold vl MM
 omega
theorem sr_parts (r : Nat) (hr : r < 64) {a b : Int} (ha : U1 a) (_hb : U1 b) : b * 2 ^ (64 - r) % 18446744073709551616 = b % 2 ^ r * 2 ^ (64 - r) ∧ 0 ≤ a / 2 ^ r ∧ a / 2 ^ r < 2 ^ (64 - r) ∧ 0 ≤ b % 2 ^ r ∧ (b % 2 ^ r + 1) * 2 ^ (64 - r) ≤ 18446744073709551616 ∧ 0 ≤ b % 2 ^ r * 2 ^ (64 - r) := by
 obtain ⟨hP, hQ, e⟩ := pq r hr
 obtain ⟨a0, a1⟩ := ha
 have m0 := Int.emod_nonneg b (show (2 : Int) ^ r ≠ 0 by omega)
 have m1 := Int.emod_lt_of_pos b hP
 refine ⟨?_, Int.ediv_nonneg a0 (by omega), Int.ediv_lt_of_lt_mul hP (by rw [e]; exact a1), m0, ?_, Int.mul_nonneg m0 (by omega)⟩
 ·rw [← e, Int.mul_comm (2 ^ (64 - r)) (2 ^ r)]
  have d : b * 2 ^ (64 - r) / (2 ^ r * 2 ^ (64 - r)) = b / 2 ^ r := Int.mul_ediv_mul_of_pos_left _ _ hQ
  rw [mod_sub, d, mod_sub b, Int.sub_mul, Int.mul_assoc]
 ·have := Int.mul_le_mul_of_nonneg_right (show b % 2 ^ r + 1 ≤ 2 ^ r by omega) (show (0 : Int) ≤ 2 ^ (64 - r) by omega)
  rw [Int.mul_comm (2 ^ r) (2 ^ (64 - r)), e] at this
  exact this
theorem sr_u (r : Nat) (hr : r < 64) {a b : Int} (ha : U1 a) (hb : U1 b) : U1 (sr r a b) := by
 obtain ⟨p1, p2, p3, p4, p5, p6⟩ := sr_parts r hr ha hb
 rw [Int.add_mul, Int.one_mul] at p5
 unfold sr
 rw [p1]
 exact ⟨by omega, by omega⟩
theorem or_join' (a b : Int) (k : Nat) (ha : 0 ≤ a) (hb : 0 ≤ b) (hb2 : b < 2 ^ k) (h : a * 2 ^ k + b < 18446744073709551616) : Go.bits .or .u64 b (a * 2 ^ k) = b + a * 2 ^ k := by
 have e := or_join a b k ha hb hb2 h
 obtain ⟨x, rfl⟩ := Int.eq_ofNat_of_zero_le ha
 obtain ⟨z, rfl⟩ := Int.eq_ofNat_of_zero_le hb
 have e1 : ((x * 2 ^ k : Nat) : Int) = (x : Int) * 2 ^ k := by rw [Int.natCast_mul, Int.natCast_pow]; rfl
 rw [← e1] at e h ⊢
 rw [Go.bits_or_u64_nat _ _ (by omega) (by omega)] at e ⊢
 rw [Nat.or_comm, e, Int.add_comm]
theorem sr_or (r : Nat) (hr : r < 64) {a b : Int} (ha : U1 a) (hb : U1 b) : Go.bits .or .u64 (a / 2 ^ r) (Go.IntKind.u64.wrap (b * 2 ^ (64 - r))) = sr r a b := by
 obtain ⟨p1, p2, p3, p4, p5, p6⟩ := sr_parts r hr ha hb
 have u := (sr_u r hr ha hb).2
 unfold sr at *
 rw [Go.IntKind.wrap_u64, p1] at *
 exact or_join' _ _ _ p4 p2 p3 (by omega)
theorem sr_0 (r : Nat) (a : Int) : a / 2 ^ r = sr r a 0 := by
 unfold sr; rw [Int.zero_mul, Int.zero_emod, Int.add_zero]
theorem sr_vl (r : Nat) (hr : r < 64) {a0 a1 a2 a3 : Int} (ha : U4 a0 a1 a2 a3) :
  U4 (sr r a0 a1) (sr r a1 a2) (sr r a2 a3) (sr r a3 0) ∧ vl (sr r a0 a1) (sr r a1 a2) (sr r a2 a3) (sr r a3 0) = vl a0 a1 a2 a3 / 2 ^ r := by
 obtain ⟨g0, g1, g2, g3⟩ := ha
 have gz : U1 0 := ⟨by decide, by decide⟩
 refine ⟨⟨sr_u r hr g0 g1, sr_u r hr g1 g2, sr_u r hr g2 g3, sr_u r hr g3 gz⟩, ?_⟩
 obtain ⟨hP, hQ, e⟩ := pq r hr
 have p1 := (sr_parts r hr g0 g1).1
 have p2 := (sr_parts r hr g1 g2).1
 have p3 := (sr_parts r hr g2 g3).1
 have d0 := Int.mul_ediv_add_emod a0 (2 ^ r)
 have d1 := Int.mul_ediv_add_emod a1 (2 ^ r)
 have d2 := Int.mul_ediv_add_emod a2 (2 ^ r)
 have d3 := Int.mul_ediv_add_emod a3 (2 ^ r)
 have m0 := Int.emod_nonneg a0 (show (2 : Int) ^ r ≠ 0 by omega)
 have m1 := Int.emod_lt_of_pos a0 hP
 have f : ∀ x : Int, 2 ^ r * (x * 2 ^ (64 - r)) = x * 18446744073709551616 := fun x => by rw [Int.mul_left_comm, Int.mul_comm (2 ^ r) (2 ^ (64 - r)), e]
 have key : vl a0 a1 a2 a3 = a0 % 2 ^ r + 2 ^ r * vl (sr r a0 a1) (sr r a1 a2) (sr r a2 a3) (sr r a3 0) := by
  have f1 := f (a1 % 2 ^ r)
  have f2 := f (a2 % 2 ^ r)
  have f3 := f (a3 % 2 ^ r)
  have ev : ∀ x y z t : Int, 2 ^ r * vl x y z t = 2 ^ r * x + 18446744073709551616 * (2 ^ r * y) + 340282366920938463463374607431768211456 * (2 ^ r * z) + 6277101735386680763835789423207666416102355444464034512896 * (2 ^ r * t) := fun x y z t => by
   unfold vl; rw [Int.mul_add, Int.mul_add, Int.mul_add, Int.mul_left_comm, Int.mul_left_comm (2 ^ r) _ z, Int.mul_left_comm (2 ^ r) _ t]
  rw [ev]
  unfold sr
  rw [p1, p2, p3, Int.zero_mul, Int.zero_emod]
  simp only [Int.mul_add, Int.add_zero, f1, f2, f3]
  unfold vl
  generalize 2 ^ r * (a0 / 2 ^ r) = y0 at *
  generalize 2 ^ r * (a1 / 2 ^ r) = y1 at *
  generalize 2 ^ r * (a2 / 2 ^ r) = y2 at *
  generalize 2 ^ r * (a3 / 2 ^ r) = y3 at *
  generalize a0 % 2 ^ r = n0 at *
  generalize a1 % 2 ^ r = n1 at *
  generalize a2 % 2 ^ r = n2 at *
  generalize a3 % 2 ^ r = n3 at *
  clear p1 p2 p3 f f1 f2 f3 ev e hP hQ m0 m1
  omega
 rw [key, Int.add_mul_ediv_left _ _ (by omega), Int.ediv_eq_zero_of_lt m0 m1, Int.zero_add]
end Go.Proofs.Ythehmmhnacomkaa

namespace Go.Proofs.Ythehmmhnacomkaa
theorem sh {v Y : Int} (_h0 : 0 ≤ v) (_h1 : v < 18446744073709551616) :
  l0 (v + 18446744073709551616 * Y) = v ∧ l1 (v + 18446744073709551616 * Y) = l0 Y ∧ l2 (v + 18446744073709551616 * Y) = l1 Y ∧ l3 (v + 18446744073709551616 * Y) = l2 Y ∧ l0 ((v + 18446744073709551616 * Y) / MM) = l3 Y ∧ l1 ((v + 18446744073709551616 * Y) / MM) = l0 (Y / MM) ∧ l2 ((v + 18446744073709551616 * Y) / MM) = l1 (Y / MM) ∧ l3 ((v + 18446744073709551616 * Y) / MM) = l2 (Y / MM) := by
 refine ⟨?_, ?_, ?_, ?_, ?_, ?_, ?_, ?_⟩ <;> simp only [l0, l1, l2, l3, MM] <;> omega
theorem row {p X R : Int} (_hp : 0 ≤ p) (_hp2 : p ≤ 2135987035920910082395021706169552114602704522356652769947041607822219725780640550022962086936576 - 115792089237316195423570985008687907853269984665640564039457584007913129639936) (_hX0 : 0 ≤ X) (_hX : X < MM) (_hR : R = p % MM) :
  l0 (X + R) = l0 (X + p) ∧ l1 (X + R) = l1 (X + p) ∧ l2 (X + R) = l2 (X + p) ∧ l3 (X + R) = l3 (X + p) ∧ p / MM + (X + R) / MM = l0 ((X + p) / MM) ∧ p / MM + (X + R) / MM < 18446744073709551616 ∧ 0 ≤ p / MM + (X + R) / MM ∧ l1 ((X + p) / MM) = 0 ∧ l2 ((X + p) / MM) = 0 ∧ l3 ((X + p) / MM) = 0 := by
 have e : p / MM + (X + R) / MM = (X + p) / MM := by unfold MM at *; omega
 have b1 : (X + p) / MM < 18446744073709551616 := by unfold MM at *; omega
 have b0 : 0 ≤ (X + p) / MM := by unfold MM at *; omega
 rw [e]
 refine ⟨?_, ?_, ?_, ?_, ?_, b1, b0, ?_, ?_, ?_⟩
 ·unfold l0; unfold MM at *; omega
 ·unfold l1; unfold MM at *; omega
 ·unfold l2; unfold MM at *; omega
 ·unfold l3; unfold MM at *; omega
 ·unfold l0; omega
 ·unfold l1; omega
 ·unfold l2; omega
 ·unfold l3; omega
theorem u_l0 (n : Int) : U1 (l0 n) := (u4_lb n).1
theorem u_l1 (n : Int) : U1 (l1 n) := (u4_lb n).2.1
theorem u_l2 (n : Int) : U1 (l2 n) := (u4_lb n).2.2.1
theorem u_l3 (n : Int) : U1 (l3 n) := (u4_lb n).2.2.2
theorem rnd {X p Y x0 x1 x2 x3 : Int} (hx : U4 x0 x1 x2 x3) (hX : vl x0 x1 x2 x3 = X) (hp : 0 ≤ p) (hp2 : p ≤ 2135987035920910082395021706169552114602704522356652769947041607822219725780640550022962086936576 - 115792089237316195423570985008687907853269984665640564039457584007913129639936) (hY : Y = X + p) :
  ∃ c1 c2 c3 c4, (x0 + l0 p) / 18446744073709551616 = c1 ∧ (x0 + l0 p) % 18446744073709551616 = l0 Y ∧ (x1 + l1 p + c1) / 18446744073709551616 = c2 ∧ (x1 + l1 p + c1) % 18446744073709551616 = l1 Y ∧ (x2 + l2 p + c2) / 18446744073709551616 = c3 ∧ (x2 + l2 p + c2) % 18446744073709551616 = l2 Y ∧ (x3 + l3 p + c3) / 18446744073709551616 = c4 ∧ (x3 + l3 p + c3) % 18446744073709551616 = l3 Y ∧ p / MM + c4 = l0 (Y / MM) ∧ (0 ≤ c1 ∧ c1 ≤ 1) ∧ (0 ≤ c2 ∧ c2 ≤ 1) ∧ (0 ≤ c3 ∧ c3 ≤ 1) ∧ (0 ≤ p / MM + c4 ∧ p / MM + c4 < 18446744073709551616) := by
 have hb := vl_bd hx
 obtain ⟨e0, e1, e2, e3, e4⟩ := addc_eq hx (u4_lb p) rfl
 rw [vl_nv p, hX] at e0 e1 e2 e3 e4
 rw [hX] at hb
 obtain ⟨f0, f1, f2, f3, f4, f5, f6, _⟩ := row hp hp2 hb.1 hb.2 rfl
 rw [← hY] at f0 f1 f2 f3 f4
 have g := u4_lb p
 unfold U4 U1 at hx g
 refine ⟨_, _, _, _, rfl, e0.trans f0, rfl, e1.trans f1, rfl, e2.trans f2, rfl, e3.trans f3, ?_, ?_, ?_, ?_, ?_⟩
 ·rw [e4]; exact f4
 ·omega
 ·omega
 ·omega
 ·rw [e4]; exact ⟨f6, f5⟩
theorem rnd0 {p : Int} (hp : 0 ≤ p) (hp2 : p ≤ 2135987035920910082395021706169552114602704522356652769947041607822219725780640550022962086936576 - 115792089237316195423570985008687907853269984665640564039457584007913129639936) :
  l0 p / 18446744073709551616 = 0 ∧ l0 p % 18446744073709551616 = l0 p ∧ l1 p / 18446744073709551616 = 0 ∧ l1 p % 18446744073709551616 = l1 p ∧ l2 p / 18446744073709551616 = 0 ∧ l2 p % 18446744073709551616 = l2 p ∧ l3 p / 18446744073709551616 = 0 ∧ l3 p % 18446744073709551616 = l3 p ∧ p / MM = l0 (p / MM) := by
 refine ⟨?_, ?_, ?_, ?_, ?_, ?_, ?_, ?_, ?_⟩ <;> simp only [l0, l1, l2, l3, MM] <;> omega
theorem up {Y : Int} (h0 : 0 ≤ Y) (h1 : Y < 2135987035920910082395021706169552114602704522356652769947041607822219725780640550022962086936576) : vl (l1 Y) (l2 Y) (l3 Y) (l0 (Y / MM)) = Y / 18446744073709551616 := by
 have e : (Y / MM) = Y / 18446744073709551616 / 6277101735386680763835789423207666416102355444464034512896 := by unfold MM; omega
 have b : Y / 18446744073709551616 < MM := by unfold MM; omega
 have b0 : 0 ≤ Y / 18446744073709551616 := by omega
 have e1 : l1 Y = l0 (Y / 18446744073709551616) := by unfold l1 l0; rfl
 have e2 : l2 Y = l1 (Y / 18446744073709551616) := by unfold l2 l1; omega
 have e3 : l3 Y = l2 (Y / 18446744073709551616) := by unfold l3 l2; omega
 have e4 : l0 (Y / MM) = l3 (Y / 18446744073709551616) := by rw [e]; unfold l0 l3; rfl
 rw [e1, e2, e3, e4, vl_lb _ b0 b]
theorem pbd {v c : Int} (h0 : 0 ≤ v) (h1 : v < MM) (hc : U1 c) : 0 ≤ v * c ∧ v * c ≤ 2135987035920910082395021706169552114602704522356652769947041607822219725780640550022962086936576 - 115792089237316195423570985008687907853269984665640564039457584007913129639936 - 18446744073709551615 := by
 obtain ⟨c0, c1⟩ := hc
 refine ⟨Int.mul_nonneg h0 c0, ?_⟩
 have := Int.mul_le_mul (a := v) (b := c) (c := 115792089237316195423570985008687907853269984665640564039457584007913129639935) (d := 18446744073709551615) (by unfold MM at h1; omega) (by omega) c0 (by decide)
 omega
theorem ybd {Y p Z : Int} (h0 : 0 ≤ Y) (h1 : Y < 2135987035920910082395021706169552114602704522356652769947041607822219725780640550022962086936576) (hp : 0 ≤ p) (hp2 : p ≤ 2135987035920910082395021706169552114602704522356652769947041607822219725780640550022962086936576 - 115792089237316195423570985008687907853269984665640564039457584007913129639936 - 18446744073709551615) (hZ : Z = Y / 18446744073709551616 + p) : 0 ≤ Z ∧ Z < 2135987035920910082395021706169552114602704522356652769947041607822219725780640550022962086936576 := by omega
theorem prod_eq {P Y0 Y1 Y2 Y3 p0 p1 p2 p3 : Int} (h0 : Y0 = p0) (h1 : Y1 = Y0 / 18446744073709551616 + p1) (h2 : Y2 = Y1 / 18446744073709551616 + p2) (h3 : Y3 = Y2 / 18446744073709551616 + p3) (hP : P = p0 + 18446744073709551616 * (p1 + 18446744073709551616 * (p2 + 18446744073709551616 * p3))) :
  l0 Y0 = l0 P ∧ l0 Y1 = l1 P ∧ l0 Y2 = l2 P ∧ l0 Y3 = l3 P ∧ l1 Y3 = l0 (P / MM) ∧ l2 Y3 = l1 (P / MM) ∧ l3 Y3 = l2 (P / MM) ∧ l0 (Y3 / MM) = l3 (P / MM) := by
 have e : P = l0 Y0 + 18446744073709551616 * (l0 Y1 + 18446744073709551616 * (l0 Y2 + 18446744073709551616 * Y3)) := by subst hP h3 h2 h1 h0; unfold l0; omega
 obtain ⟨a0, a1, a2, a3, a4, a5, a6, a7⟩ := sh (v := l0 Y0) (Y := l0 Y1 + 18446744073709551616 * (l0 Y2 + 18446744073709551616 * Y3)) (u_l0 _).1 (u_l0 _).2
 obtain ⟨b0, b1, b2, b3, b4, b5, b6, b7⟩ := sh (v := l0 Y1) (Y := l0 Y2 + 18446744073709551616 * Y3) (u_l0 _).1 (u_l0 _).2
 obtain ⟨c0, c1, c2, c3, c4, c5, c6, c7⟩ := sh (v := l0 Y2) (Y := Y3) (u_l0 _).1 (u_l0 _).2
 rw [← e] at a0 a1 a2 a3 a4 a5 a6 a7
 rw [a0, a1, a2, a3, a4, a5, a6, a7, b0, b1, b2, b3, b4, b5, b6, c0, c1, c2, c3, c4, c5]
 exact ⟨rfl, rfl, rfl, rfl, rfl, rfl, rfl, rfl⟩
theorem rnd0b {p : Int} (hp : 0 ≤ p) (hp2 : p ≤ 2135987035920910082395021706169552114602704522356652769947041607822219725780640550022962086936576 - 115792089237316195423570985008687907853269984665640564039457584007913129639936) : 0 ≤ p / MM ∧ p / MM < 18446744073709551616 := by unfold MM; omega
end Go.Proofs.Ythehmmhnacomkaa

namespace Go.Proofs.Ythehmmhnacomkaa
open Go.RowKit

set_option maxHeartbeats 2000000 in
theorem shl_0 (a0 a1 a2 a3 n x0 x1 x2 x3 : Int) (r : Nat) (w : World) (ha : U4 a0 a1 a2 a3) (hq : n / 64 = 0) (hr : n % 64 = (r : Int)) (_h64 : r < 64) (_hn0 : 0 ≤ n) (_hn : n ≤ 256) (e0 : IntKind.u64.wrap (a0 * 2 ^ r) = x0) (e1 : bits .or .u64 (IntKind.u64.wrap (a1 * 2 ^ r)) (a0 / 2 ^ (64 - r)) = x1) (e2 : bits .or .u64 (IntKind.u64.wrap (a2 * 2 ^ r)) (a1 / 2 ^ (64 - r)) = x2) (e3 : bits .or .u64 (IntKind.u64.wrap (a3 * 2 ^ r)) (a2 / 2 ^ (64 - r)) = x3) :
  Calls Try.prog 98 #[.agg #[.int .u64 a0, .int .u64 a1, .int .u64 a2, .int .u64 a3], .int .i64 n] w fun e w' =>
   e = .returned (.agg #[.int .u64 x0, .int .u64 x1, .int .u64 x2, .int .u64 x3]) ∧ Mo w w' := by
 obtain ⟨⟨p0, q0⟩, ⟨p1, q1⟩, ⟨p2, q2⟩, ⟨p3, q3⟩⟩ := ha
 go_enter Try.func98, Try.ntmps98
 go_wp2
 refine wp_loop_rounds 5 ?_
 rw [rounds_succ]
 go_wp2
 rw [rounds_succ]
 go_wp2
 go_region
 go_wp2
 rw [rounds_succ]
 go_wp2
 go_region
 go_wp2
 rw [rounds_succ]
 go_wp2
 go_region
 go_wp2
 rw [rounds_succ]
 go_wp2
 refine bodyPost_ret (v := .agg #[.int .u64 x0, .int .u64 x1, .int .u64 x2, .int .u64 x3]) (by simp [results, Try.results98, go_sem]) rfl ?_
 refine ⟨rfl, ?_⟩
 repeat (first | with_reducible exact Mo.refl _ | with_reducible apply Mo.drew | with_reducible apply Mo.drewN | with_reducible apply Mo.alloc | with_reducible refine Mo.setCell ?_ (by simp <;> omega) _ | with_reducible refine Mo.trans ?_ (by with_reducible assumption))

set_option maxHeartbeats 2000000 in
theorem shr_0 (a0 a1 a2 a3 n x0 x1 x2 x3 : Int) (r : Nat) (w : World) (ha : U4 a0 a1 a2 a3) (hq : n / 64 = 0) (hr : n % 64 = (r : Int)) (_h64 : r < 64) (_hn0 : 0 ≤ n) (_hn : n ≤ 256) (e0 : bits .or .u64 (a0 / 2 ^ r) (IntKind.u64.wrap (a1 * 2 ^ (64 - r))) = x0) (e1 : bits .or .u64 (a1 / 2 ^ r) (IntKind.u64.wrap (a2 * 2 ^ (64 - r))) = x1) (e2 : bits .or .u64 (a2 / 2 ^ r) (IntKind.u64.wrap (a3 * 2 ^ (64 - r))) = x2) (e3 : a3 / 2 ^ r = x3) :
  Calls Try.prog 99 #[.agg #[.int .u64 a0, .int .u64 a1, .int .u64 a2, .int .u64 a3], .int .i64 n] w fun e w' =>
   e = .returned (.agg #[.int .u64 x0, .int .u64 x1, .int .u64 x2, .int .u64 x3]) ∧ Mo w w' := by
 obtain ⟨⟨p0, q0⟩, ⟨p1, q1⟩, ⟨p2, q2⟩, ⟨p3, q3⟩⟩ := ha
 go_enter Try.func99, Try.ntmps99
 go_wp2
 refine wp_loop_rounds 5 ?_
 rw [rounds_succ]
 go_wp2
 go_region
 go_wp2
 rw [rounds_succ]
 go_wp2
 go_region
 go_wp2
 rw [rounds_succ]
 go_wp2
 go_region
 go_wp2
 rw [rounds_succ]
 go_wp2
 rw [rounds_succ]
 go_wp2
 refine bodyPost_ret (v := .agg #[.int .u64 x0, .int .u64 x1, .int .u64 x2, .int .u64 x3]) (by simp [results, Try.results99, go_sem]) rfl ?_
 refine ⟨rfl, ?_⟩
 repeat (first | with_reducible exact Mo.refl _ | with_reducible apply Mo.drew | with_reducible apply Mo.drewN | with_reducible apply Mo.alloc | with_reducible refine Mo.setCell ?_ (by simp <;> omega) _ | with_reducible refine Mo.trans ?_ (by with_reducible assumption))

set_option maxHeartbeats 2000000 in
theorem shl_1 (a0 a1 a2 a3 n x0 x1 x2 x3 : Int) (r : Nat) (w : World) (ha : U4 a0 a1 a2 a3) (hq : n / 64 = 1) (hr : n % 64 = (r : Int)) (_h64 : r < 64) (_hn0 : 0 ≤ n) (_hn : n ≤ 256) (e0 : IntKind.u64.wrap (a0 * 2 ^ r) = x0) (e1 : bits .or .u64 (IntKind.u64.wrap (a1 * 2 ^ r)) (a0 / 2 ^ (64 - r)) = x1) (e2 : bits .or .u64 (IntKind.u64.wrap (a2 * 2 ^ r)) (a1 / 2 ^ (64 - r)) = x2) (_e3 : bits .or .u64 (IntKind.u64.wrap (a3 * 2 ^ r)) (a2 / 2 ^ (64 - r)) = x3) :
  Calls Try.prog 98 #[.agg #[.int .u64 a0, .int .u64 a1, .int .u64 a2, .int .u64 a3], .int .i64 n] w fun e w' =>
   e = .returned (.agg #[.int .u64 0, .int .u64 x0, .int .u64 x1, .int .u64 x2]) ∧ Mo w w' := by
 obtain ⟨⟨p0, q0⟩, ⟨p1, q1⟩, ⟨p2, q2⟩, ⟨p3, q3⟩⟩ := ha
 go_enter Try.func98, Try.ntmps98
 go_wp2
 refine wp_loop_rounds 5 ?_
 rw [rounds_succ]
 go_wp2
 rw [rounds_succ]
 go_wp2
 go_region
 go_wp2
 rw [rounds_succ]
 go_wp2
 go_region
 go_wp2
 rw [rounds_succ]
 go_wp2
 refine bodyPost_ret (v := .agg #[.int .u64 0, .int .u64 x0, .int .u64 x1, .int .u64 x2]) (by simp [results, Try.results98, go_sem]) rfl ?_
 refine ⟨rfl, ?_⟩
 repeat (first | with_reducible exact Mo.refl _ | with_reducible apply Mo.drew | with_reducible apply Mo.drewN | with_reducible apply Mo.alloc | with_reducible refine Mo.setCell ?_ (by simp <;> omega) _ | with_reducible refine Mo.trans ?_ (by with_reducible assumption))

set_option maxHeartbeats 2000000 in
theorem shr_1 (a0 a1 a2 a3 n x0 x1 x2 x3 : Int) (r : Nat) (w : World) (ha : U4 a0 a1 a2 a3) (hq : n / 64 = 1) (hr : n % 64 = (r : Int)) (_h64 : r < 64) (_hn0 : 0 ≤ n) (_hn : n ≤ 256) (_e0 : bits .or .u64 (a0 / 2 ^ r) (IntKind.u64.wrap (a1 * 2 ^ (64 - r))) = x0) (e1 : bits .or .u64 (a1 / 2 ^ r) (IntKind.u64.wrap (a2 * 2 ^ (64 - r))) = x1) (e2 : bits .or .u64 (a2 / 2 ^ r) (IntKind.u64.wrap (a3 * 2 ^ (64 - r))) = x2) (e3 : a3 / 2 ^ r = x3) :
  Calls Try.prog 99 #[.agg #[.int .u64 a0, .int .u64 a1, .int .u64 a2, .int .u64 a3], .int .i64 n] w fun e w' =>
   e = .returned (.agg #[.int .u64 x1, .int .u64 x2, .int .u64 x3, .int .u64 0]) ∧ Mo w w' := by
 obtain ⟨⟨p0, q0⟩, ⟨p1, q1⟩, ⟨p2, q2⟩, ⟨p3, q3⟩⟩ := ha
 go_enter Try.func99, Try.ntmps99
 go_wp2
 refine wp_loop_rounds 5 ?_
 rw [rounds_succ]
 go_wp2
 go_region
 go_wp2
 rw [rounds_succ]
 go_wp2
 go_region
 go_wp2
 rw [rounds_succ]
 go_wp2
 rw [rounds_succ]
 go_wp2
 refine bodyPost_ret (v := .agg #[.int .u64 x1, .int .u64 x2, .int .u64 x3, .int .u64 0]) (by simp [results, Try.results99, go_sem]) rfl ?_
 refine ⟨rfl, ?_⟩
 repeat (first | with_reducible exact Mo.refl _ | with_reducible apply Mo.drew | with_reducible apply Mo.drewN | with_reducible apply Mo.alloc | with_reducible refine Mo.setCell ?_ (by simp <;> omega) _ | with_reducible refine Mo.trans ?_ (by with_reducible assumption))

set_option maxHeartbeats 2000000 in
theorem shl_2 (a0 a1 a2 a3 n x0 x1 x2 x3 : Int) (r : Nat) (w : World) (ha : U4 a0 a1 a2 a3) (hq : n / 64 = 2) (hr : n % 64 = (r : Int)) (_h64 : r < 64) (_hn0 : 0 ≤ n) (_hn : n ≤ 256) (e0 : IntKind.u64.wrap (a0 * 2 ^ r) = x0) (e1 : bits .or .u64 (IntKind.u64.wrap (a1 * 2 ^ r)) (a0 / 2 ^ (64 - r)) = x1) (_e2 : bits .or .u64 (IntKind.u64.wrap (a2 * 2 ^ r)) (a1 / 2 ^ (64 - r)) = x2) (_e3 : bits .or .u64 (IntKind.u64.wrap (a3 * 2 ^ r)) (a2 / 2 ^ (64 - r)) = x3) :
  Calls Try.prog 98 #[.agg #[.int .u64 a0, .int .u64 a1, .int .u64 a2, .int .u64 a3], .int .i64 n] w fun e w' =>
   e = .returned (.agg #[.int .u64 0, .int .u64 0, .int .u64 x0, .int .u64 x1]) ∧ Mo w w' := by
 obtain ⟨⟨p0, q0⟩, ⟨p1, q1⟩, ⟨p2, q2⟩, ⟨p3, q3⟩⟩ := ha
 go_enter Try.func98, Try.ntmps98
 go_wp2
 refine wp_loop_rounds 5 ?_
 rw [rounds_succ]
 go_wp2
 rw [rounds_succ]
 go_wp2
 go_region
 go_wp2
 rw [rounds_succ]
 go_wp2
 refine bodyPost_ret (v := .agg #[.int .u64 0, .int .u64 0, .int .u64 x0, .int .u64 x1]) (by simp [results, Try.results98, go_sem]) rfl ?_
 refine ⟨rfl, ?_⟩
 repeat (first | with_reducible exact Mo.refl _ | with_reducible apply Mo.drew | with_reducible apply Mo.drewN | with_reducible apply Mo.alloc | with_reducible refine Mo.setCell ?_ (by simp <;> omega) _ | with_reducible refine Mo.trans ?_ (by with_reducible assumption))

set_option maxHeartbeats 2000000 in
theorem shr_2 (a0 a1 a2 a3 n x0 x1 x2 x3 : Int) (r : Nat) (w : World) (ha : U4 a0 a1 a2 a3) (hq : n / 64 = 2) (hr : n % 64 = (r : Int)) (_h64 : r < 64) (_hn0 : 0 ≤ n) (_hn : n ≤ 256) (_e0 : bits .or .u64 (a0 / 2 ^ r) (IntKind.u64.wrap (a1 * 2 ^ (64 - r))) = x0) (_e1 : bits .or .u64 (a1 / 2 ^ r) (IntKind.u64.wrap (a2 * 2 ^ (64 - r))) = x1) (e2 : bits .or .u64 (a2 / 2 ^ r) (IntKind.u64.wrap (a3 * 2 ^ (64 - r))) = x2) (e3 : a3 / 2 ^ r = x3) :
  Calls Try.prog 99 #[.agg #[.int .u64 a0, .int .u64 a1, .int .u64 a2, .int .u64 a3], .int .i64 n] w fun e w' =>
   e = .returned (.agg #[.int .u64 x2, .int .u64 x3, .int .u64 0, .int .u64 0]) ∧ Mo w w' := by
 obtain ⟨⟨p0, q0⟩, ⟨p1, q1⟩, ⟨p2, q2⟩, ⟨p3, q3⟩⟩ := ha
 go_enter Try.func99, Try.ntmps99
 go_wp2
 refine wp_loop_rounds 5 ?_
 rw [rounds_succ]
 go_wp2
 go_region
 go_wp2
 rw [rounds_succ]
 go_wp2
 rw [rounds_succ]
 go_wp2
 refine bodyPost_ret (v := .agg #[.int .u64 x2, .int .u64 x3, .int .u64 0, .int .u64 0]) (by simp [results, Try.results99, go_sem]) rfl ?_
 refine ⟨rfl, ?_⟩
 repeat (first | with_reducible exact Mo.refl _ | with_reducible apply Mo.drew | with_reducible apply Mo.drewN | with_reducible apply Mo.alloc | with_reducible refine Mo.setCell ?_ (by simp <;> omega) _ | with_reducible refine Mo.trans ?_ (by with_reducible assumption))

set_option maxHeartbeats 2000000 in
theorem shl_3 (a0 a1 a2 a3 n x0 x1 x2 x3 : Int) (r : Nat) (w : World) (ha : U4 a0 a1 a2 a3) (hq : n / 64 = 3) (hr : n % 64 = (r : Int)) (_h64 : r < 64) (_hn0 : 0 ≤ n) (_hn : n ≤ 256) (e0 : IntKind.u64.wrap (a0 * 2 ^ r) = x0) (_e1 : bits .or .u64 (IntKind.u64.wrap (a1 * 2 ^ r)) (a0 / 2 ^ (64 - r)) = x1) (_e2 : bits .or .u64 (IntKind.u64.wrap (a2 * 2 ^ r)) (a1 / 2 ^ (64 - r)) = x2) (_e3 : bits .or .u64 (IntKind.u64.wrap (a3 * 2 ^ r)) (a2 / 2 ^ (64 - r)) = x3) :
  Calls Try.prog 98 #[.agg #[.int .u64 a0, .int .u64 a1, .int .u64 a2, .int .u64 a3], .int .i64 n] w fun e w' =>
   e = .returned (.agg #[.int .u64 0, .int .u64 0, .int .u64 0, .int .u64 x0]) ∧ Mo w w' := by
 obtain ⟨⟨p0, q0⟩, ⟨p1, q1⟩, ⟨p2, q2⟩, ⟨p3, q3⟩⟩ := ha
 go_enter Try.func98, Try.ntmps98
 go_wp2
 refine wp_loop_rounds 5 ?_
 rw [rounds_succ]
 go_wp2
 rw [rounds_succ]
 go_wp2
 refine bodyPost_ret (v := .agg #[.int .u64 0, .int .u64 0, .int .u64 0, .int .u64 x0]) (by simp [results, Try.results98, go_sem]) rfl ?_
 refine ⟨rfl, ?_⟩
 repeat (first | with_reducible exact Mo.refl _ | with_reducible apply Mo.drew | with_reducible apply Mo.drewN | with_reducible apply Mo.alloc | with_reducible refine Mo.setCell ?_ (by simp <;> omega) _ | with_reducible refine Mo.trans ?_ (by with_reducible assumption))

set_option maxHeartbeats 2000000 in
theorem shr_3 (a0 a1 a2 a3 n x0 x1 x2 x3 : Int) (r : Nat) (w : World) (ha : U4 a0 a1 a2 a3) (hq : n / 64 = 3) (hr : n % 64 = (r : Int)) (_h64 : r < 64) (_hn0 : 0 ≤ n) (_hn : n ≤ 256) (_e0 : bits .or .u64 (a0 / 2 ^ r) (IntKind.u64.wrap (a1 * 2 ^ (64 - r))) = x0) (_e1 : bits .or .u64 (a1 / 2 ^ r) (IntKind.u64.wrap (a2 * 2 ^ (64 - r))) = x1) (_e2 : bits .or .u64 (a2 / 2 ^ r) (IntKind.u64.wrap (a3 * 2 ^ (64 - r))) = x2) (e3 : a3 / 2 ^ r = x3) :
  Calls Try.prog 99 #[.agg #[.int .u64 a0, .int .u64 a1, .int .u64 a2, .int .u64 a3], .int .i64 n] w fun e w' =>
   e = .returned (.agg #[.int .u64 x3, .int .u64 0, .int .u64 0, .int .u64 0]) ∧ Mo w w' := by
 obtain ⟨⟨p0, q0⟩, ⟨p1, q1⟩, ⟨p2, q2⟩, ⟨p3, q3⟩⟩ := ha
 go_enter Try.func99, Try.ntmps99
 go_wp2
 refine wp_loop_rounds 5 ?_
 rw [rounds_succ]
 go_wp2
 rw [rounds_succ]
 go_wp2
 refine bodyPost_ret (v := .agg #[.int .u64 x3, .int .u64 0, .int .u64 0, .int .u64 0]) (by simp [results, Try.results99, go_sem]) rfl ?_
 refine ⟨rfl, ?_⟩
 repeat (first | with_reducible exact Mo.refl _ | with_reducible apply Mo.drew | with_reducible apply Mo.drewN | with_reducible apply Mo.alloc | with_reducible refine Mo.setCell ?_ (by simp <;> omega) _ | with_reducible refine Mo.trans ?_ (by with_reducible assumption))

set_option maxHeartbeats 2000000 in
theorem shl_4 (a0 a1 a2 a3 n : Int) (r : Nat) (w : World) (ha : U4 a0 a1 a2 a3) (hq : n / 64 = 4) (hr : n % 64 = (r : Int)) (_h64 : r < 64) (_hn0 : 0 ≤ n) (_hn : n ≤ 256) :
  Calls Try.prog 98 #[.agg #[.int .u64 a0, .int .u64 a1, .int .u64 a2, .int .u64 a3], .int .i64 n] w fun e w' =>
   e = .returned (.agg #[.int .u64 0, .int .u64 0, .int .u64 0, .int .u64 0]) ∧ Mo w w' := by
 obtain ⟨⟨p0, q0⟩, ⟨p1, q1⟩, ⟨p2, q2⟩, ⟨p3, q3⟩⟩ := ha
 go_enter Try.func98, Try.ntmps98
 go_wp2
 refine wp_loop_rounds 5 ?_
 rw [rounds_succ]
 go_wp2
 refine bodyPost_ret (v := .agg #[.int .u64 0, .int .u64 0, .int .u64 0, .int .u64 0]) (by simp [results, Try.results98, go_sem]) rfl ?_
 refine ⟨rfl, ?_⟩
 repeat (first | with_reducible exact Mo.refl _ | with_reducible apply Mo.drew | with_reducible apply Mo.drewN | with_reducible apply Mo.alloc | with_reducible refine Mo.setCell ?_ (by simp <;> omega) _ | with_reducible refine Mo.trans ?_ (by with_reducible assumption))

set_option maxHeartbeats 2000000 in
theorem shr_4 (a0 a1 a2 a3 n : Int) (r : Nat) (w : World) (ha : U4 a0 a1 a2 a3) (hq : n / 64 = 4) (hr : n % 64 = (r : Int)) (_h64 : r < 64) (_hn0 : 0 ≤ n) (_hn : n ≤ 256) :
  Calls Try.prog 99 #[.agg #[.int .u64 a0, .int .u64 a1, .int .u64 a2, .int .u64 a3], .int .i64 n] w fun e w' =>
   e = .returned (.agg #[.int .u64 0, .int .u64 0, .int .u64 0, .int .u64 0]) ∧ Mo w w' := by
 obtain ⟨⟨p0, q0⟩, ⟨p1, q1⟩, ⟨p2, q2⟩, ⟨p3, q3⟩⟩ := ha
 go_enter Try.func99, Try.ntmps99
 go_wp2
 refine wp_loop_rounds 5 ?_
 rw [rounds_succ]
 go_wp2
 refine bodyPost_ret (v := .agg #[.int .u64 0, .int .u64 0, .int .u64 0, .int .u64 0]) (by simp [results, Try.results99, go_sem]) rfl ?_
 refine ⟨rfl, ?_⟩
 repeat (first | with_reducible exact Mo.refl _ | with_reducible apply Mo.drew | with_reducible apply Mo.drewN | with_reducible apply Mo.alloc | with_reducible refine Mo.setCell ?_ (by simp <;> omega) _ | with_reducible refine Mo.trans ?_ (by with_reducible assumption))
end Go.Proofs.Ythehmmhnacomkaa

