/-
  A part of the proof.
-/
import Derived.Test.YtogomodbcjpfiaaGreatDoorKa5
import Derived.Test.YtogomodbcjpfiaaGreatDoorKa1
import Derived.Test.YtogomodbcjpfiaaGreatDoorProg
import Derived.WalkKit
import Derived.WalkSpells
import Derived.Handy
import Derived.BigQuiet
import Derived.Deep.RegionHeld3
import Derived.Test.YtogomodbcjpfiaaGreatDoorKa4
import Derived.Shelf.Small.Bits
import Derived.Shelf.Strconv.Itoa0
import Derived.Shelf.Bits.Mul64
import Derived.Deep.CutBlock
import Derived.Deep.CutRange
import Derived.Test.YtogomodbcjpfiaaGreatDoorKa6
import Derived.ChangeKeysEq
namespace Go.Proofs.YtogomodbcjpfiaaGreatDoor
open Go.RowKit
def At0 (w : World) (k : Nat) : Prop := At4 w k 0 0 0 0 ∧ Fz w k ∧ k < w.heap.size
theorem At0.mo {w w' : World} {k : Nat} (h : At0 w k) (m : Mo w w') : At0 w' k := ⟨h.1.mo m h.2.2, h.2.1.mo m, Nat.lt_of_lt_of_le h.2.2 m.size⟩
theorem At0.new (w : World) : At0 (w.alloc (.cells #[.int .u64 0, .int .u64 0, .int .u64 0, .int .u64 0] 24)) w.heap.size :=
 ⟨by simp [At4, go_sem], fun o => by simp [go_sem], by simp⟩
theorem At0.mk1 {w w' : World} (m : Mo ((w.alloc (.cells #[.int .u64 0, .int .u64 0, .int .u64 0, .int .u64 0] 24)).drew) w') : At0 w' w.heap.size :=
 (At0.new w).mo (((Mo.refl _).drew).trans m)
theorem At0.mk2 {w w' : World} (m : Mo (w.alloc (.cells #[.int .u64 0, .int .u64 0, .int .u64 0, .int .u64 0] 24)) w') : At0 w' w.heap.size := (At0.new w).mo m
theorem At0.same {w : World} {k : Nat} (h : At0 w k) (z : Int) : AtN (st4 w k z) k z := by
 obtain ⟨⟨b0, b1, b2, b3⟩, f, s⟩ := h
 refine ⟨by simp [At4, go_sem, *], fun o => by simp [World.frozen?_setCell, f o], by simpa [World.setCell] using s⟩

theorem divStep_n (P x D : Int) (w : World) (h0 : 0 ≤ P) (h : P < D) (hD : D < MM) (hx : U1 x) :
  Calls Tryz.prog 143 #[nv P, .int .u64 x, nv D] w fun e w' => e = .returned (.tuple #[.int .u64 ((P * 18446744073709551616 + x) / D), nv ((P * 18446744073709551616 + x) % D)]) ∧ Mo w w' :=
 divStep_any (l0 P) (l1 P) (l2 P) (l3 P) x (l0 D) (l1 D) (l2 D) (l3 D) (P * 18446744073709551616 + x) D w (u4_lb P) hx (u4_lb D) (show _ = _ by rw [vl_lb P h0 (by omega)]) (show _ = _ by rw [vl_lb D (by omega) hD]) (show _ < _ by rw [vl_lb P h0 (by omega)]; exact h)
def LW (w wr : World) (kr kq : Nat) (H low D P c0 c1 c2 c3 : Int) : Prop := VW w wr H low D ∧ AtN wr kr P ∧ At4 wr kq c0 c1 c2 c3 ∧ Fz wr kq ∧ kq < wr.heap.size ∧ w.heap.size + 1 + 1 + 1 + 1 < kr ∧ kr < kq
theorem LW.mo {w wr w1 : World} {kr kq : Nat} {H low D P c0 c1 c2 c3 : Int} (h : LW w wr kr kq H low D P c0 c1 c2 c3) (m : Mo wr w1) : LW w w1 kr kq H low D P c0 c1 c2 c3 := by
 obtain ⟨h1, h2, h3, h4, h5, h6, h7⟩ := h
 exact ⟨h1.mo m, h2.mo m, h3.mo m h5, h4.mo m, Nat.lt_of_lt_of_le h5 m.size, h6, h7⟩
theorem AtN.cell {w : World} {k j o : Nat} {n : Int} (h : AtN w j n) (hk : j ≠ k) (v : Value) : AtN (w.setCell ⟨k, o, none⟩ v) j n := by
 obtain ⟨⟨b0, b1, b2, b3⟩, f, s⟩ := h
 refine ⟨by simp [At4, go_sem, *], fun o => by simp [World.frozen?_setCell, f o], by simpa [World.setCell] using s⟩
theorem VW.cell {w wx : World} {h l d : Int} (v : VW w wx h l d) {k o : Nat} (hk : w.heap.size + 1 + 1 + 1 + 1 < k) (x : Value) : VW w (wx.setCell ⟨k, o, none⟩ x) h l d := by
 obtain ⟨v1, v2, v3, v4, v5, v6⟩ := v
 exact ⟨v1.setCell (by show w.heap.size ≤ k; omega) _, v2.cell (by omega) _, v3.cell (by omega) _, v4.cell (by omega) _, v5.cell (by omega) _, v6.cell (by omega) _⟩
theorem LW.put0 {w w1 : World} {kr kq : Nat} {H low D P c0 c1 c2 c3 : Int} (h : LW w w1 kr kq H low D P c0 c1 c2 c3) (q P' : Int) : LW w (st4 (w1.setCell ⟨kq, 0, none⟩ (.int .u64 q)) kr P') kr kq H low D P' q c1 c2 c3 := by
 obtain ⟨h1, h2, ⟨d0, d1, d2, d3⟩, h4, h5, h6, h7⟩ := h
 have n1 : kr ≠ kq := by omega
 have n2 : kq ≠ kr := by omega
 refine ⟨(h1.cell (by omega) _).setk h6 _, (h2.cell n1 _).same _, ?_, ?_, ?_, h6, h7⟩
 ·simp [At4, go_sem, *]
 ·intro o; simp [World.frozen?_setCell, h4 o]
 ·simpa [World.setCell] using h5
theorem LW.put1 {w w1 : World} {kr kq : Nat} {H low D P c0 c1 c2 c3 : Int} (h : LW w w1 kr kq H low D P c0 c1 c2 c3) (q P' : Int) : LW w (st4 (w1.setCell ⟨kq, 1, none⟩ (.int .u64 q)) kr P') kr kq H low D P' c0 q c2 c3 := by
 obtain ⟨h1, h2, ⟨d0, d1, d2, d3⟩, h4, h5, h6, h7⟩ := h
 have n1 : kr ≠ kq := by omega
 have n2 : kq ≠ kr := by omega
 refine ⟨(h1.cell (by omega) _).setk h6 _, (h2.cell n1 _).same _, ?_, ?_, ?_, h6, h7⟩
 ·simp [At4, go_sem, *]
 ·intro o; simp [World.frozen?_setCell, h4 o]
 ·simpa [World.setCell] using h5
theorem LW.put2 {w w1 : World} {kr kq : Nat} {H low D P c0 c1 c2 c3 : Int} (h : LW w w1 kr kq H low D P c0 c1 c2 c3) (q P' : Int) : LW w (st4 (w1.setCell ⟨kq, 2, none⟩ (.int .u64 q)) kr P') kr kq H low D P' c0 c1 q c3 := by
 obtain ⟨h1, h2, ⟨d0, d1, d2, d3⟩, h4, h5, h6, h7⟩ := h
 have n1 : kr ≠ kq := by omega
 have n2 : kq ≠ kr := by omega
 refine ⟨(h1.cell (by omega) _).setk h6 _, (h2.cell n1 _).same _, ?_, ?_, ?_, h6, h7⟩
 ·simp [At4, go_sem, *]
 ·intro o; simp [World.frozen?_setCell, h4 o]
 ·simpa [World.setCell] using h5
theorem LW.put3 {w w1 : World} {kr kq : Nat} {H low D P c0 c1 c2 c3 : Int} (h : LW w w1 kr kq H low D P c0 c1 c2 c3) (q P' : Int) : LW w (st4 (w1.setCell ⟨kq, 3, none⟩ (.int .u64 q)) kr P') kr kq H low D P' c0 c1 c2 q := by
 obtain ⟨h1, h2, ⟨d0, d1, d2, d3⟩, h4, h5, h6, h7⟩ := h
 have n1 : kr ≠ kq := by omega
 have n2 : kq ≠ kr := by omega
 refine ⟨(h1.cell (by omega) _).setk h6 _, (h2.cell n1 _).same _, ?_, ?_, ?_, h6, h7⟩
 ·simp [At4, go_sem, *]
 ·intro o; simp [World.frozen?_setCell, h4 o]
 ·simpa [World.setCell] using h5

set_option maxHeartbeats 4000000 in
theorem div_yes (H L D P4 D' : Int) (s : Nat) (w : World) (hH0 : 0 ≤ H) (hHM : H < MM) (hL0 : 0 ≤ L) (hLM : L < MM) (hD0 : 0 ≤ D) (hDM : D < MM) (hlt : Hid (H < D))
  (hs : 256 - bln D = (s : Int)) (hs2 : s ≤ 255) (hP4 : Hid (P4 = H * 2 ^ s + L / 2 ^ (256 - s))) (hD' : Hid (D' = D * 2 ^ s)) (hHs : Hid (0 ≤ H * 2 ^ s ∧ H * 2 ^ s < MM)) (hLs : Hid (0 ≤ L / 2 ^ (256 - s) ∧ L / 2 ^ (256 - s) < MM))
  (low q0 q1 q2 q3 P3 P2 P1 P0 : Int) (hlow : Hid (low = L * 2 ^ s % MM)) (e3 : Hid ((P4 * 18446744073709551616 + l3 low) / D' = q3)) (f3 : Hid ((P4 * 18446744073709551616 + l3 low) % D' = P3)) (e2 : Hid ((P3 * 18446744073709551616 + l2 low) / D' = q2)) (f2 : Hid ((P3 * 18446744073709551616 + l2 low) % D' = P2)) (e1 : Hid ((P2 * 18446744073709551616 + l1 low) / D' = q1)) (f1 : Hid ((P2 * 18446744073709551616 + l1 low) % D' = P1)) (e0 : Hid ((P1 * 18446744073709551616 + l0 low) / D' = q0)) (f0 : Hid ((P1 * 18446744073709551616 + l0 low) % D' = P0)) (hDM' : Hid (D' < MM)) (b4 : Hid (0 ≤ P4 ∧ P4 < D')) (b3 : Hid (0 ≤ P3 ∧ P3 < D')) (b2 : Hid (0 ≤ P2 ∧ P2 < D')) (b1 : Hid (0 ≤ P1 ∧ P1 < D')) (b0 : Hid (0 ≤ P0 ∧ P0 < D')) :
  Calls Tryz.prog 117 #[nv H, nv L, nv D] w fun e w' =>
   e = .returned (.tuple #[.agg #[.int .u64 q0, .int .u64 q1, .int .u64 q2, .int .u64 q3], nv (P0 / 2 ^ s), .bool true]) ∧ Mo w w' := by
 have s0 : (0 : Int) ≤ (s : Int) := by omega
 have s1 : (s : Int) ≤ 256 := by omega
 have s2 : (0 : Int) ≤ 256 - (s : Int) := by omega
 have s3 : 256 - (s : Int) ≤ 256 := by omega
 have hwr : IntKind.i64.wrap (256 - (s : Int)) = 256 - (s : Int) := by rw [IntKind.wrap_i64]; omega
 go_enter Tryz.func117, Tryz.ntmps117
 go_wp2_with fail
 refine (cmp15_any (l0 H) (l1 H) (l2 H) (l3 H) (l0 D) (l1 D) (l2 D) (l3 D) _ (u4_lb H) (u4_lb D)).mono ?_
 rintro e w1 ⟨rfl, hm1⟩
 rw [vl_lb H hH0 hHM, vl_lb D hD0 hDM, show cm H D = -1 from by unfold cm; rw [if_pos hlt.out]]
 have v1 := (VW.start w H L D).mo hm1
 clear hm1
 have o1 := v1.2.2.2.1.1
 obtain ⟨c0, c1, c2, c3⟩ := o1
 go_wp2_with fail
 refine (bits_any (l0 D) (l1 D) (l2 D) (l3 D) _ (u4_lb D)).mono ?_
 rintro e w2 ⟨rfl, hm2⟩
 rw [vl_lb D hD0 hDM]
 have v2 := v1.mo hm2
 clear hm2 v1 c0 c1 c2 c3
 go_upto_region 4 with fail
 go_cut [] from 23 to 25 (fun wx => VW w wx H L D')
 case first =>
  have o1 := v2.2.2.2.1.1
  obtain ⟨c0, c1, c2, c3⟩ := o1
  go_wp2_with fail
  refine (shl_any (l0 D) (l1 D) (l2 D) (l3 D) s _ (u4_lb D) s0 s1).mono ?_
  rintro e w3 ⟨rfl, hm3⟩
  rw [vl_lb D hD0 hDM, Int.toNat_natCast, ← hD'.out]
  have v3 := v2.mo hm3
  clear hm3 c0 c1 c2 c3
  have o1 := v3.2.2.2.1
  obtain ⟨⟨c0, c1, c2, c3⟩, f, z⟩ := o1
  have f := fun o => f o
  go_wp2
  go_meet
  case rel => exact v3.setd _
 case rest =>
  clear v2
  have v := hcut
  go_upto_region 5 with fail
  go_cut [10, 11] from 26 to 36 (fun s10 _ wx => ∃ k, s10 = .pointer (some ⟨k, 0, none⟩) ∧ w.heap.size + 1 + 1 + 1 + 1 < k ∧ VW w wx H L D' ∧ AtN wx k P4)
  case first =>
   have nH := v.2.1
   have nL := v.2.2.1
   have o1 := nH
   have o2 := nL
   obtain ⟨⟨c0, c1, c2, c3⟩, _, y1⟩ := o1
   obtain ⟨⟨d0, d1, d2, d3⟩, _, y2⟩ := o2
   go_region_held3 (fun w' => w'.cell? ⟨w.heap.size, 0, none⟩ = some (.int .u64 (l0 H)) ∧ w'.cell? ⟨w.heap.size, 1, none⟩ = some (.int .u64 (l1 H)) ∧ w'.cell? ⟨w.heap.size, 2, none⟩ = some (.int .u64 (l2 H)) ∧ w'.cell? ⟨w.heap.size, 3, none⟩ = some (.int .u64 (l3 H)) ∧ w'.cell? ⟨w.heap.size + 1, 0, none⟩ = some (.int .u64 (l0 L)) ∧ w'.cell? ⟨w.heap.size + 1, 1, none⟩ = some (.int .u64 (l1 L)) ∧ w'.cell? ⟨w.heap.size + 1, 2, none⟩ = some (.int .u64 (l2 L)) ∧ w'.cell? ⟨w.heap.size + 1, 3, none⟩ = some (.int .u64 (l3 L))) (simp [go_sem, World.cell?_alloc_past, *])
    (first | (go_at_call 141; refine (shl_any (l0 H) (l1 H) (l2 H) (l3 H) s _ (u4_lb H) s0 s1).mono ?_; rintro e w4 ⟨rfl, hm4⟩; rw [vl_lb H hH0 hHM, Int.toNat_natCast]; have m4 : Mo wc w4 := Mo.trans (by repeat (first | with_reducible exact Mo.refl _ | with_reducible apply Mo.drew | with_reducible apply Mo.alloc)) hm4; (try (with_reducible have k4 := At0.mk1 hm4)); obtain ⟨⟨e0, e1, e2, e3⟩, _, y3⟩ := nH.mo m4; obtain ⟨⟨f0, f1, f2, f3⟩, _, y4⟩ := nL.mo m4) | (go_at_call 142; refine (shr_any (l0 L) (l1 L) (l2 L) (l3 L) (256 - s) _ (u4_lb L) s2 s3).mono ?_; rintro e w5 ⟨rfl, hm5⟩; rw [vl_lb L hL0 hLM, show (256 - (s : Int)).toNat = 256 - s from (by omega)]; have m5 : Mo w4 w5 := Mo.trans (by repeat (first | with_reducible exact Mo.refl _ | with_reducible apply Mo.drew | with_reducible apply Mo.alloc)) hm5; (try (with_reducible have k5 := At0.mk2 hm5)); (try (with_reducible have k5 := k4.mo m5)); obtain ⟨⟨g0, g1, g2, g3⟩, _, y5⟩ := nH.mo (m4.trans m5); obtain ⟨⟨h0, h1, h2, h3⟩, _, y6⟩ := nL.mo (m4.trans m5)) | (go_at_call 113; refine (add_any _ _ _ _ _ _ _ _ _ (u4_lb _) (u4_lb _)).mono ?_; rintro e w6 ⟨rfl, hm6⟩; rw [vl_lb _ hHs.out.1 hHs.out.2, vl_lb _ hLs.out.1 hLs.out.2, ← hP4.out]; have m6 : Mo w5 w6 := Mo.trans (by repeat (first | with_reducible exact Mo.refl _ | with_reducible apply Mo.drew | with_reducible apply Mo.alloc)) hm6; (try (with_reducible have k6 := At0.mk2 hm6)); (try (with_reducible have k6 := k5.mo m6)); (try have k7 := k6); (try obtain ⟨⟨i0, i1, i2, i3⟩, ff, y9⟩ := k6); (try have ff := fun o => ff o); obtain ⟨⟨j0, j1, j2, j3⟩, _, y7⟩ := nH.mo ((m4.trans m5).trans m6); obtain ⟨⟨t0, t1, t2, t3⟩, _, y8⟩ := nL.mo ((m4.trans m5).trans m6)))
   all_goals
    go_wp2
    go_meet
    case rel =>
     have m := (m4.trans m5).trans m6
     have x1 := v.2.2.2.2.2.2.2
     have x2 := m4.size
     have x3 := m5.size
     have x4 := m6.size
     refine ⟨_, rfl, by omega, ?_, ?_⟩
     ·first | exact (v.mo m).setk (by omega) _ | exact (v.mo m).mo ((Mo.refl _).alloc _ _)
     ·first | exact k7.same _ | exact AtN.new _ _
  case rest =>
   clear v
   obtain ⟨kr, rfl, hkr, v, nr⟩ := hcut
   have nr0 := nr
   have o1 := v.2.2.1.1
   obtain ⟨c0, c1, c2, c3⟩ := o1
   go_wp2_with fail
   refine (shl_any (l0 L) (l1 L) (l2 L) (l3 L) s _ (u4_lb L) s0 s1).mono ?_
   rintro e w7 ⟨rfl, hm7⟩
   rw [vl_lb L hL0 hLM, Int.toNat_natCast, ← nv_mod, ← hlow.out]
   have v7 := v.mo hm7
   have n7 := nr0.mo hm7
   clear hm7 c0 c1 c2 c3 nr nr0 v
   have S0 : LW w ((st4 w7 (w.heap.size + 1) low).alloc (.cells #[.int .u64 0, .int .u64 0, .int .u64 0, .int .u64 0] 24)) kr w7.heap.size H low D' P4 0 0 0 0 := by
    have a : Mo (st4 w7 (w.heap.size + 1) low) ((st4 w7 (w.heap.size + 1) low).alloc (.cells #[.int .u64 0, .int .u64 0, .int .u64 0, .int .u64 0] 24)) := (Mo.refl _).alloc _ _
    have z := At0.new (st4 w7 (w.heap.size + 1) low)
    rw [show (st4 w7 (w.heap.size + 1) low).heap.size = w7.heap.size from by simp [World.setCell]] at z
    exact ⟨(v7.setl low).mo a, (n7.other (by omega) low).mo a, z.1, z.2.1, z.2.2, hkr, n7.2.2⟩
   have o1 := v7.2.2.1
   obtain ⟨⟨c0, c1, c2, c3⟩, f, z⟩ := o1
   have f := fun o => f o
   go_wp2
   go_loopw [13] (fun i wr => (i = .int .i64 3 ∧ LW w wr kr w7.heap.size H low D' P4 0 0 0 0) ∨ (i = .int .i64 2 ∧ LW w wr kr w7.heap.size H low D' P3 0 0 0 q3) ∨ (i = .int .i64 1 ∧ LW w wr kr w7.heap.size H low D' P2 0 0 q2 q3) ∨ (i = .int .i64 0 ∧ LW w wr kr w7.heap.size H low D' P1 0 q1 q2 q3) ∨ (i = .int .i64 (-1) ∧ LW w wr kr w7.heap.size H low D' P0 q0 q1 q2 q3)) (fun i _ => (intOf i + 1).toNat)
   case atStart => exact Or.inl ⟨rfl, S0⟩
   case round =>
    clear S0 c0 c1 c2 c3 f z v7 n7
    obtain ⟨rfl, hw⟩ | ⟨rfl, hw⟩ | ⟨rfl, hw⟩ | ⟨rfl, hw⟩ | ⟨rfl, hw⟩ := hrel
    ·have hw0 := hw
     obtain ⟨⟨_, _, ⟨⟨c0, c1, c2, c3⟩, _, _⟩, ⟨⟨d0, d1, d2, d3⟩, _, _⟩, _, _⟩, ⟨⟨r0, r1, r2, r3⟩, _, _⟩, _⟩ := hw
     go_wp2
     go_region_with
      (first | (go_at_call 143; refine (divStep_n P4 (l3 low) D' _ b4.out.1 b4.out.2 hDM'.out (u_l3 low)).mono ?_; rintro e w8 ⟨rfl, hm8⟩; rw [e3.out, f3.out]; have hw1 := hw0.mo (Mo.trans (by repeat (first | with_reducible exact Mo.refl _ | with_reducible apply Mo.drew)) hm8); have hw2 := hw1; obtain ⟨⟨_, _, ⟨⟨c0, c1, c2, c3⟩, _, _⟩, ⟨⟨d0, d1, d2, d3⟩, _, _⟩, _, _⟩, ⟨⟨r0, r1, r2, r3⟩, fr, _⟩, ⟨x0, x1, x2, x3⟩, fq, _, _, _⟩ := hw2; have fr := fun o => fr o; have fq := fun o => fq o))
     all_goals
      go_wp2
      go_roundw
      case rel => exact Or.inr (Or.inl ⟨rfl, hw1.put3 _ _⟩)
      case measure => simp [intOf]
    ·have hw0 := hw
     obtain ⟨⟨_, _, ⟨⟨c0, c1, c2, c3⟩, _, _⟩, ⟨⟨d0, d1, d2, d3⟩, _, _⟩, _, _⟩, ⟨⟨r0, r1, r2, r3⟩, _, _⟩, _⟩ := hw
     go_wp2
     go_region_with
      (first | (go_at_call 143; refine (divStep_n P3 (l2 low) D' _ b3.out.1 b3.out.2 hDM'.out (u_l2 low)).mono ?_; rintro e w8 ⟨rfl, hm8⟩; rw [e2.out, f2.out]; have hw1 := hw0.mo (Mo.trans (by repeat (first | with_reducible exact Mo.refl _ | with_reducible apply Mo.drew)) hm8); have hw2 := hw1; obtain ⟨⟨_, _, ⟨⟨c0, c1, c2, c3⟩, _, _⟩, ⟨⟨d0, d1, d2, d3⟩, _, _⟩, _, _⟩, ⟨⟨r0, r1, r2, r3⟩, fr, _⟩, ⟨x0, x1, x2, x3⟩, fq, _, _, _⟩ := hw2; have fr := fun o => fr o; have fq := fun o => fq o))
     all_goals
      go_wp2
      go_roundw
      case rel => exact Or.inr (Or.inr (Or.inl ⟨rfl, hw1.put2 _ _⟩))
      case measure => simp [intOf]
    ·have hw0 := hw
     obtain ⟨⟨_, _, ⟨⟨c0, c1, c2, c3⟩, _, _⟩, ⟨⟨d0, d1, d2, d3⟩, _, _⟩, _, _⟩, ⟨⟨r0, r1, r2, r3⟩, _, _⟩, _⟩ := hw
     go_wp2
     go_region_with
      (first | (go_at_call 143; refine (divStep_n P2 (l1 low) D' _ b2.out.1 b2.out.2 hDM'.out (u_l1 low)).mono ?_; rintro e w8 ⟨rfl, hm8⟩; rw [e1.out, f1.out]; have hw1 := hw0.mo (Mo.trans (by repeat (first | with_reducible exact Mo.refl _ | with_reducible apply Mo.drew)) hm8); have hw2 := hw1; obtain ⟨⟨_, _, ⟨⟨c0, c1, c2, c3⟩, _, _⟩, ⟨⟨d0, d1, d2, d3⟩, _, _⟩, _, _⟩, ⟨⟨r0, r1, r2, r3⟩, fr, _⟩, ⟨x0, x1, x2, x3⟩, fq, _, _, _⟩ := hw2; have fr := fun o => fr o; have fq := fun o => fq o))
     all_goals
      go_wp2
      go_roundw
      case rel => exact Or.inr (Or.inr (Or.inr (Or.inl ⟨rfl, hw1.put1 _ _⟩)))
      case measure => simp [intOf]
    ·have hw0 := hw
     obtain ⟨⟨_, _, ⟨⟨c0, c1, c2, c3⟩, _, _⟩, ⟨⟨d0, d1, d2, d3⟩, _, _⟩, _, _⟩, ⟨⟨r0, r1, r2, r3⟩, _, _⟩, _⟩ := hw
     go_wp2
     go_region_with
      (first | (go_at_call 143; refine (divStep_n P1 (l0 low) D' _ b1.out.1 b1.out.2 hDM'.out (u_l0 low)).mono ?_; rintro e w8 ⟨rfl, hm8⟩; rw [e0.out, f0.out]; have hw1 := hw0.mo (Mo.trans (by repeat (first | with_reducible exact Mo.refl _ | with_reducible apply Mo.drew)) hm8); have hw2 := hw1; obtain ⟨⟨_, _, ⟨⟨c0, c1, c2, c3⟩, _, _⟩, ⟨⟨d0, d1, d2, d3⟩, _, _⟩, _, _⟩, ⟨⟨r0, r1, r2, r3⟩, fr, _⟩, ⟨x0, x1, x2, x3⟩, fq, _, _, _⟩ := hw2; have fr := fun o => fr o; have fq := fun o => fq o))
     all_goals
      go_wp2
      go_roundw
      case rel => exact Or.inr (Or.inr (Or.inr (Or.inr ⟨rfl, hw1.put0 _ _⟩)))
      case measure => simp [intOf]
    ·have hw0 := hw
     obtain ⟨⟨k1, _, _, _, ⟨⟨c0, c1, c2, c3⟩, fc, _⟩, ⟨⟨d0, d1, d2, d3⟩, fd, _⟩⟩, ⟨⟨r0, r1, r2, r3⟩, _, _⟩, ⟨x0, x1, x2, x3⟩, _⟩ := hw
     go_wp2
     go_cut [8] from 55 to 58 (fun s8 wx => s8 = .bool true ∧ At4 wx (w.heap.size + 1 + 1 + 1) q0 q1 q2 q3 ∧ AtN wx (w.heap.size + 1 + 1 + 1 + 1) (P0 / 2 ^ s) ∧ Mo w wx)
     case first =>
      go_region_held3 (fun w' => w'.cell? ⟨w7.heap.size, 0, none⟩ = some (.int .u64 q0) ∧ w'.cell? ⟨w7.heap.size, 1, none⟩ = some (.int .u64 q1) ∧ w'.cell? ⟨w7.heap.size, 2, none⟩ = some (.int .u64 q2) ∧ w'.cell? ⟨w7.heap.size, 3, none⟩ = some (.int .u64 q3) ∧ w'.cell? ⟨kr, 0, none⟩ = some (.int .u64 (l0 P0)) ∧ w'.cell? ⟨kr, 1, none⟩ = some (.int .u64 (l1 P0)) ∧ w'.cell? ⟨kr, 2, none⟩ = some (.int .u64 (l2 P0)) ∧ w'.cell? ⟨kr, 3, none⟩ = some (.int .u64 (l3 P0))) (simp [go_sem, *])
       (first | (go_at_call 142; refine (shr_any (l0 P0) (l1 P0) (l2 P0) (l3 P0) s _ (u4_lb P0) s0 s1).mono ?_; rintro e w9 ⟨rfl, hm9⟩; rw [vl_lb P0 b0.out.1 (Int.lt_trans b0.out.2 hDM'.out), Int.toNat_natCast]; have hw1 := hw0.mo (Mo.trans (by repeat (first | with_reducible exact Mo.refl _ | with_reducible apply Mo.drew)) hm9); have hw2 := hw1; obtain ⟨⟨k1, _, _, _, ⟨⟨c0, c1, c2, c3⟩, fc, zc⟩, ⟨⟨d0, d1, d2, d3⟩, fd, zd⟩⟩, ⟨⟨r0, r1, r2, r3⟩, _, _⟩, ⟨x0, x1, x2, x3⟩, _, _, zq, zr⟩ := hw2; have fc := fun o => fc o; have fd := fun o => fd o; have n1 : ¬ kr = w.heap.size + 1 + 1 + 1 := (by omega); have n2 : ¬ kr = w.heap.size + 1 + 1 + 1 + 1 := (by omega); have n3 : ¬ w7.heap.size = w.heap.size + 1 + 1 + 1 := (by omega); have n4 : ¬ w7.heap.size = w.heap.size + 1 + 1 + 1 + 1 := (by omega)))
      go_wp2
      go_meet
      case rel =>
       have le1 : w.heap.size ≤ w.heap.size + 1 + 1 + 1 := by omega
       have le2 : w.heap.size ≤ w.heap.size + 1 + 1 + 1 + 1 := by omega
       refine ⟨rfl, by simp [At4, go_sem, c0, c1, c2, c3], ⟨by simp [At4, go_sem, d0, d1, d2, d3], fun o => by simp [World.frozen?_setCell, fd o], by simpa [World.setCell] using zd⟩, ?_⟩
       repeat (first | with_reducible exact k1 | with_reducible apply Mo.drew | with_reducible refine Mo.setCell ?_ le1 _ | with_reducible refine Mo.setCell ?_ le2 _)
     case rest =>
      obtain ⟨rfl, ⟨a0, a1, a2, a3⟩, ⟨⟨g0, g1, g2, g3⟩, _, _⟩, hmo⟩ := hcut
      go_wp2
      refine bodyPost_ret (v := .tuple #[.agg #[.int .u64 q0, .int .u64 q1, .int .u64 q2, .int .u64 q3], nv (P0 / 2 ^ s), .bool true]) (by simp [results, Tryz.results117, go_sem, a0, a1, a2, a3, g0, g1, g2, g3]) rfl ?_
      exact ⟨rfl, hmo⟩

set_option maxHeartbeats 1000000 in
theorem div_no (H L D : Int) (w : World) (hH0 : 0 ≤ H) (hHM : H < MM) (hD0 : 0 ≤ D) (hDM : D < MM) (hge : D ≤ H) :
  Calls Tryz.prog 117 #[nv H, nv L, nv D] w fun e w' =>
   e = .returned (.tuple #[.agg #[.int .u64 0, .int .u64 0, .int .u64 0, .int .u64 0], .agg #[.int .u64 0, .int .u64 0, .int .u64 0, .int .u64 0], .bool false]) ∧ Mo w w' := by
 have hc : cm H D = 0 ∨ cm H D = 1 := by unfold cm; rw [if_neg (by omega)]; split <;> simp
 have z0 : l0 0 = 0 := by decide
 have z1 : l1 0 = 0 := by decide
 have z2 : l2 0 = 0 := by decide
 have z3 : l3 0 = 0 := by decide
 rcases hc with hc | hc
 all_goals
  have Hc : Hid _ := hc
  clear hc
  go_enter Tryz.func117, Tryz.ntmps117
  go_wp2_with fail
  refine (cmp15_any (l0 H) (l1 H) (l2 H) (l3 H) (l0 D) (l1 D) (l2 D) (l3 D) _ (u4_lb H) (u4_lb D)).mono ?_
  rintro e w1 ⟨rfl, hm1⟩
  rw [vl_lb H hH0 hHM, vl_lb D hD0 hDM, Hc.out]
  have v1 := (VW.start w H L D).mo hm1
  clear hm1
  obtain ⟨m1, _, _, _, ⟨⟨c0, c1, c2, c3⟩, fc, zc⟩, ⟨⟨d0, d1, d2, d3⟩, fd, zd⟩⟩ := v1
  rw [z0] at c0 d0; rw [z1] at c1 d1; rw [z2] at c2 d2; rw [z3] at c3 d3
  have fc := fun o => fc o
  have fd := fun o => fd o
  go_wp2
  refine bodyPost_ret (v := .tuple #[.agg #[.int .u64 0, .int .u64 0, .int .u64 0, .int .u64 0], .agg #[.int .u64 0, .int .u64 0, .int .u64 0, .int .u64 0], .bool false]) (by simp [results, Tryz.results117, go_sem, c0, c1, c2, c3, d0, d1, d2, d3]) rfl ?_
  refine ⟨rfl, ?_⟩
  have le1 : w.heap.size ≤ w.heap.size + 1 + 1 + 1 := by omega
  have le2 : w.heap.size ≤ w.heap.size + 1 + 1 + 1 + 1 := by omega
  repeat (first | with_reducible exact m1 | with_reducible apply Mo.drew | with_reducible refine Mo.setCell ?_ le1 _ | with_reducible refine Mo.setCell ?_ le2 _)

def dq (H L D : Int) : Int := if D ≤ H then 0 else (H * MM + L) / D
def dr (H L D : Int) : Int := if D ≤ H then 0 else (H * MM + L) % D
def dok (H D : Int) : Bool := decide (H < D)
theorem div_any (h0 h1 h2 h3 l0' l1' l2' l3' d0 d1 d2 d3 : Int) (w : World) (hh : U4 h0 h1 h2 h3) (hl : U4 l0' l1' l2' l3') (hd : U4 d0 d1 d2 d3) :
  Calls Tryz.prog 117 #[.agg #[.int .u64 h0, .int .u64 h1, .int .u64 h2, .int .u64 h3], .agg #[.int .u64 l0', .int .u64 l1', .int .u64 l2', .int .u64 l3'], .agg #[.int .u64 d0, .int .u64 d1, .int .u64 d2, .int .u64 d3]] w fun e w' =>
   e = .returned (.tuple #[nv (dq (vl h0 h1 h2 h3) (vl l0' l1' l2' l3') (vl d0 d1 d2 d3)), nv (dr (vl h0 h1 h2 h3) (vl l0' l1' l2' l3') (vl d0 d1 d2 d3)), .bool (dok (vl h0 h1 h2 h3) (vl d0 d1 d2 d3))]) ∧ Mo w w' := by
 obtain ⟨a1, a2⟩ := vl_bd hh
 obtain ⟨b1, b2⟩ := vl_bd hl
 obtain ⟨c1, c2⟩ := vl_bd hd
 rw [← nv_vl hh, ← nv_vl hl, ← nv_vl hd]
 generalize vl h0 h1 h2 h3 = H at *
 generalize vl l0' l1' l2' l3' = L at *
 generalize vl d0 d1 d2 d3 = D at *
 by_cases hge : D ≤ H
 ·have e1 : nv (dq H L D) = .agg #[.int .u64 0, .int .u64 0, .int .u64 0, .int .u64 0] := by unfold dq; rw [if_pos hge]; simp [nv, l0, l1, l2, l3]
  have e2 : nv (dr H L D) = .agg #[.int .u64 0, .int .u64 0, .int .u64 0, .int .u64 0] := by unfold dr; rw [if_pos hge]; simp [nv, l0, l1, l2, l3]
  have e3 : dok H D = false := decide_eq_false (by omega)
  rw [e1, e2, e3]
  exact div_no H L D w a1 a2 c1 c2 hge
 ·have hlt : H < D := by omega
  obtain ⟨s, hs, hs2, m1, m2⟩ := dshift (D := D) (by omega) c2
  obtain ⟨p1, p2, p3, p4⟩ := shifted (s := s) (H := H) (L := L) (D := D) hs2 a1 hlt b1 b2
  have low0 : 0 ≤ L * 2 ^ s % MM := Int.emod_nonneg _ (by decide)
  have low1 : L * 2 ^ s % MM < MM := Int.emod_lt_of_pos _ (by decide)
  obtain ⟨u, w3, w2, w1, w0, k1, k2⟩ := steps_eq p1 p2 low0 low1 rfl rfl rfl rfl rfl rfl rfl rfl
  have hP : (0 : Int) < 2 ^ s := Int.pow_pos (by decide)
  have hQ : (0 : Int) < 2 ^ (256 - s) := Int.pow_pos (by decide)
  have q1 : 0 ≤ H * 2 ^ s := Int.mul_nonneg a1 (by omega)
  have q2 : 0 ≤ L / 2 ^ (256 - s) := Int.ediv_nonneg b1 (by omega)
  have e3 : dok H D = true := decide_eq_true hlt
  have e1 : dq H L D = (H * MM + L) / D := if_neg hge
  have e2 : dr H L D = (H * MM + L) % D := if_neg hge
  rw [e1, e2, e3, ← k1.trans p3, nv_vl u, ← p4, ← k2]
  exact div_yes H L D _ _ s w a1 a2 b1 b2 c1 c2 hlt hs hs2 rfl rfl ⟨q1, by omega⟩ ⟨q2, by omega⟩ _ _ _ _ _ _ _ _ _ rfl rfl rfl rfl rfl rfl rfl rfl rfl m1 ⟨p1, p2⟩ w3 w2 w1 w0
end Go.Proofs.YtogomodbcjpfiaaGreatDoor

namespace Go.Proofs.YtogomodbcjpfiaaGreatDoor
open Go.RowKit
theorem part0 (x0 x1 x2 x3 : Value) (w : World) : (part 22 #[x0, x1, x2, x3] 0).run Tryz.prog w = .ok x0 w := by kernel_rfl
theorem part1 (x0 x1 x2 x3 : Value) (w : World) : (part 22 #[x0, x1, x2, x3] 1).run Tryz.prog w = .ok x1 w := by kernel_rfl
theorem part2 (x0 x1 x2 x3 : Value) (w : World) : (part 22 #[x0, x1, x2, x3] 2).run Tryz.prog w = .ok x2 w := by kernel_rfl
theorem part3 (x0 x1 x2 x3 : Value) (w : World) : (part 22 #[x0, x1, x2, x3] 3).run Tryz.prog w = .ok x3 w := by kernel_rfl
theorem cells22 : Tryz.prog.cellsOf 22 = 1 := by kernel_rfl
theorem info22 : ∃ i, Tryz.prog.info? 22 = some i := Option.isSome_iff_exists.1 (by kernel_rfl)
theorem eq4 (a b c d e f g h : Int) (w : World) : (Op.equalIn 10000 24 (.agg #[.int .u64 a, .int .u64 b, .int .u64 c, .int .u64 d]) (.agg #[.int .u64 e, .int .u64 f, .int .u64 g, .int .u64 h])).run Tryz.prog w = .ok (a == e && (b == f && (c == g && d == h))) w := by
 obtain ⟨i, hi⟩ := info22
 rw [show (10000 : Nat) = 9998 + 1 + 1 from rfl, run_equalIn_array w (9998 + 1) _ _ Tryz.underlying24 hi, cells22]
 have q : ∀ (x y : Int), (Op.equalIn 9999 22 (.int .u64 x) (.int .u64 y)).run Tryz.prog w = .ok (x == y) w := fun x y => run_equalIn_int w 9998 22 .u64 .u64 x y Tryz.underlying22
 rw [show List.range 4 = [0, 1, 2, 3] from rfl]
 cases ha : a == e <;> cases hb : b == f <;> cases hc : c == g <;> cases hd : d == h <;> simp [Op.eqItems, Sem.run_bind, part0, part1, part2, part3, Result.andThen_ok, q, ha, hb, hc, hd, Sem.run_pure]
end Go.Proofs.YtogomodbcjpfiaaGreatDoor

namespace Go.Proofs.YtogomodbcjpfiaaGreatDoor
open Go.RowKit
def MW (w wr : World) (a0 a1 a2 a3 x0 x1 x2 x3 x4 x5 x6 x7 : Int) : Prop := Mo w wr ∧ w.heap.size + 1 + 1 + 1 + 1 < wr.heap.size ∧ At4 wr w.heap.size a0 a1 a2 a3 ∧ At4 wr (w.heap.size + 1 + 1) 0 0 0 0 ∧ At4 wr (w.heap.size + 1 + 1 + 1) 0 0 0 0 ∧ At8 wr (w.heap.size + 1 + 1 + 1 + 1) x0 x1 x2 x3 x4 x5 x6 x7 ∧ Fz wr (w.heap.size + 1 + 1) ∧ Fz wr (w.heap.size + 1 + 1 + 1) ∧ Fz wr (w.heap.size + 1 + 1 + 1 + 1)
theorem MW.mo {w wr w1 : World} {a0 a1 a2 a3 x0 x1 x2 x3 x4 x5 x6 x7 : Int} (h : MW w wr a0 a1 a2 a3 x0 x1 x2 x3 x4 x5 x6 x7) (m : Mo wr w1) : MW w w1 a0 a1 a2 a3 x0 x1 x2 x3 x4 x5 x6 x7 := by
 obtain ⟨h1, h2, h3, h4, h5, h6, h7, h8, h9⟩ := h
 have := m.size
 exact ⟨h1.trans m, by omega, h3.mo m (by omega), h4.mo m (by omega), h5.mo m (by omega), h6.mo m (by omega), h7.mo m, h8.mo m, h9.mo m⟩

theorem At4.set {w : World} {k k' : Nat} {a b c d : Int} (h : At4 w k a b c d) (hk : k ≠ k') (o : Nat) (v : Value) : At4 (w.setCell ⟨k', o, none⟩ v) k a b c d := by
 obtain ⟨h0, h1, h2, h3⟩ := h
 have e : ∀ j, (w.setCell ⟨k', o, none⟩ v).cell? ⟨k, j, none⟩ = w.cell? ⟨k, j, none⟩ := fun j => World.cell?_of_block (Below.heap_setCell _ _ _ _ hk)
 exact ⟨(e 0).trans h0, (e 1).trans h1, (e 2).trans h2, (e 3).trans h3⟩
theorem Fz.set {w : World} {k : Nat} (h : Fz w k) (a : Addr) (v : Value) : Fz (w.setCell a v) k := fun o => (World.frozen?_setCell _ _ _ _).trans (h o)
theorem MW.put0 {w w1 : World} {a0 a1 a2 a3 x0 x1 x2 x3 x4 x5 x6 x7 : Int} (h : MW w w1 a0 a1 a2 a3 x0 x1 x2 x3 x4 x5 x6 x7) (y : Int) : MW w (w1.setCell ⟨w.heap.size + 1 + 1 + 1 + 1, 0, none⟩ (.int .u64 y)) a0 a1 a2 a3 y x1 x2 x3 x4 x5 x6 x7 := by
 obtain ⟨h1, h2, h3, h4, h5, h6, h7, h8, h9⟩ := h
 refine ⟨h1.setCell (by show w.heap.size ≤ w.heap.size + 1 + 1 + 1 + 1; omega) _, by simpa [World.setCell] using h2, h3.set (by omega) _ _, h4.set (by omega) _ _, h5.set (by omega) _ _, ?_, h7.set _ _, h8.set _ _, h9.set _ _⟩
 obtain ⟨d0, d1, d2, d3, d4, d5, d6, d7⟩ := h6
 simp [At8, go_sem, *]
theorem MW.put1 {w w1 : World} {a0 a1 a2 a3 x0 x1 x2 x3 x4 x5 x6 x7 : Int} (h : MW w w1 a0 a1 a2 a3 x0 x1 x2 x3 x4 x5 x6 x7) (y : Int) : MW w (w1.setCell ⟨w.heap.size + 1 + 1 + 1 + 1, 1, none⟩ (.int .u64 y)) a0 a1 a2 a3 x0 y x2 x3 x4 x5 x6 x7 := by
 obtain ⟨h1, h2, h3, h4, h5, h6, h7, h8, h9⟩ := h
 refine ⟨h1.setCell (by show w.heap.size ≤ w.heap.size + 1 + 1 + 1 + 1; omega) _, by simpa [World.setCell] using h2, h3.set (by omega) _ _, h4.set (by omega) _ _, h5.set (by omega) _ _, ?_, h7.set _ _, h8.set _ _, h9.set _ _⟩
 obtain ⟨d0, d1, d2, d3, d4, d5, d6, d7⟩ := h6
 simp [At8, go_sem, *]
theorem MW.put2 {w w1 : World} {a0 a1 a2 a3 x0 x1 x2 x3 x4 x5 x6 x7 : Int} (h : MW w w1 a0 a1 a2 a3 x0 x1 x2 x3 x4 x5 x6 x7) (y : Int) : MW w (w1.setCell ⟨w.heap.size + 1 + 1 + 1 + 1, 2, none⟩ (.int .u64 y)) a0 a1 a2 a3 x0 x1 y x3 x4 x5 x6 x7 := by
 obtain ⟨h1, h2, h3, h4, h5, h6, h7, h8, h9⟩ := h
 refine ⟨h1.setCell (by show w.heap.size ≤ w.heap.size + 1 + 1 + 1 + 1; omega) _, by simpa [World.setCell] using h2, h3.set (by omega) _ _, h4.set (by omega) _ _, h5.set (by omega) _ _, ?_, h7.set _ _, h8.set _ _, h9.set _ _⟩
 obtain ⟨d0, d1, d2, d3, d4, d5, d6, d7⟩ := h6
 simp [At8, go_sem, *]
theorem MW.put3 {w w1 : World} {a0 a1 a2 a3 x0 x1 x2 x3 x4 x5 x6 x7 : Int} (h : MW w w1 a0 a1 a2 a3 x0 x1 x2 x3 x4 x5 x6 x7) (y : Int) : MW w (w1.setCell ⟨w.heap.size + 1 + 1 + 1 + 1, 3, none⟩ (.int .u64 y)) a0 a1 a2 a3 x0 x1 x2 y x4 x5 x6 x7 := by
 obtain ⟨h1, h2, h3, h4, h5, h6, h7, h8, h9⟩ := h
 refine ⟨h1.setCell (by show w.heap.size ≤ w.heap.size + 1 + 1 + 1 + 1; omega) _, by simpa [World.setCell] using h2, h3.set (by omega) _ _, h4.set (by omega) _ _, h5.set (by omega) _ _, ?_, h7.set _ _, h8.set _ _, h9.set _ _⟩
 obtain ⟨d0, d1, d2, d3, d4, d5, d6, d7⟩ := h6
 simp [At8, go_sem, *]
theorem MW.put4 {w w1 : World} {a0 a1 a2 a3 x0 x1 x2 x3 x4 x5 x6 x7 : Int} (h : MW w w1 a0 a1 a2 a3 x0 x1 x2 x3 x4 x5 x6 x7) (y : Int) : MW w (w1.setCell ⟨w.heap.size + 1 + 1 + 1 + 1, 4, none⟩ (.int .u64 y)) a0 a1 a2 a3 x0 x1 x2 x3 y x5 x6 x7 := by
 obtain ⟨h1, h2, h3, h4, h5, h6, h7, h8, h9⟩ := h
 refine ⟨h1.setCell (by show w.heap.size ≤ w.heap.size + 1 + 1 + 1 + 1; omega) _, by simpa [World.setCell] using h2, h3.set (by omega) _ _, h4.set (by omega) _ _, h5.set (by omega) _ _, ?_, h7.set _ _, h8.set _ _, h9.set _ _⟩
 obtain ⟨d0, d1, d2, d3, d4, d5, d6, d7⟩ := h6
 simp [At8, go_sem, *]
theorem MW.put5 {w w1 : World} {a0 a1 a2 a3 x0 x1 x2 x3 x4 x5 x6 x7 : Int} (h : MW w w1 a0 a1 a2 a3 x0 x1 x2 x3 x4 x5 x6 x7) (y : Int) : MW w (w1.setCell ⟨w.heap.size + 1 + 1 + 1 + 1, 5, none⟩ (.int .u64 y)) a0 a1 a2 a3 x0 x1 x2 x3 x4 y x6 x7 := by
 obtain ⟨h1, h2, h3, h4, h5, h6, h7, h8, h9⟩ := h
 refine ⟨h1.setCell (by show w.heap.size ≤ w.heap.size + 1 + 1 + 1 + 1; omega) _, by simpa [World.setCell] using h2, h3.set (by omega) _ _, h4.set (by omega) _ _, h5.set (by omega) _ _, ?_, h7.set _ _, h8.set _ _, h9.set _ _⟩
 obtain ⟨d0, d1, d2, d3, d4, d5, d6, d7⟩ := h6
 simp [At8, go_sem, *]
theorem MW.put6 {w w1 : World} {a0 a1 a2 a3 x0 x1 x2 x3 x4 x5 x6 x7 : Int} (h : MW w w1 a0 a1 a2 a3 x0 x1 x2 x3 x4 x5 x6 x7) (y : Int) : MW w (w1.setCell ⟨w.heap.size + 1 + 1 + 1 + 1, 6, none⟩ (.int .u64 y)) a0 a1 a2 a3 x0 x1 x2 x3 x4 x5 y x7 := by
 obtain ⟨h1, h2, h3, h4, h5, h6, h7, h8, h9⟩ := h
 refine ⟨h1.setCell (by show w.heap.size ≤ w.heap.size + 1 + 1 + 1 + 1; omega) _, by simpa [World.setCell] using h2, h3.set (by omega) _ _, h4.set (by omega) _ _, h5.set (by omega) _ _, ?_, h7.set _ _, h8.set _ _, h9.set _ _⟩
 obtain ⟨d0, d1, d2, d3, d4, d5, d6, d7⟩ := h6
 simp [At8, go_sem, *]
theorem MW.put7 {w w1 : World} {a0 a1 a2 a3 x0 x1 x2 x3 x4 x5 x6 x7 : Int} (h : MW w w1 a0 a1 a2 a3 x0 x1 x2 x3 x4 x5 x6 x7) (y : Int) : MW w (w1.setCell ⟨w.heap.size + 1 + 1 + 1 + 1, 7, none⟩ (.int .u64 y)) a0 a1 a2 a3 x0 x1 x2 x3 x4 x5 x6 y := by
 obtain ⟨h1, h2, h3, h4, h5, h6, h7, h8, h9⟩ := h
 refine ⟨h1.setCell (by show w.heap.size ≤ w.heap.size + 1 + 1 + 1 + 1; omega) _, by simpa [World.setCell] using h2, h3.set (by omega) _ _, h4.set (by omega) _ _, h5.set (by omega) _ _, ?_, h7.set _ _, h8.set _ _, h9.set _ _⟩
 obtain ⟨d0, d1, d2, d3, d4, d5, d6, d7⟩ := h6
 simp [At8, go_sem, *]

set_option maxHeartbeats 4000000 in
theorem mul_raw (a0 a1 a2 a3 b0 b1 b2 b3 Y0 Y1 Y2 Y3 : Int) (w : World) (ha : U4 a0 a1 a2 a3) (hb : U4 b0 b1 b2 b3) (hY0 : Hid (Y0 = vl a0 a1 a2 a3 * b0)) (hY1 : Hid (Y1 = Y0 / 18446744073709551616 + vl a0 a1 a2 a3 * b1)) (hY2 : Hid (Y2 = Y1 / 18446744073709551616 + vl a0 a1 a2 a3 * b2)) (hY3 : Hid (Y3 = Y2 / 18446744073709551616 + vl a0 a1 a2 a3 * b3)) :
  Calls Tryz.prog 116 #[.agg #[.int .u64 a0, .int .u64 a1, .int .u64 a2, .int .u64 a3], .agg #[.int .u64 b0, .int .u64 b1, .int .u64 b2, .int .u64 b3]] w fun e w' =>
   e = .returned (.tuple #[.agg #[.int .u64 (l1 Y3), .int .u64 (l2 Y3), .int .u64 (l3 Y3), .int .u64 (l0 (Y3 / MM))], .agg #[.int .u64 (l0 Y0), .int .u64 (l0 Y1), .int .u64 (l0 Y2), .int .u64 (l0 Y3)]]) ∧ Mo w w' := by
 have hv := vl_bd ha
 have hb' := hb
 obtain ⟨g0, g1, g2, g3⟩ := hb'
 have pb0 := pbd hv.1 hv.2 g0
 have pb1 := pbd hv.1 hv.2 g1
 have pb2 := pbd hv.1 hv.2 g2
 have pb3 := pbd hv.1 hv.2 g3
 have yb0 : 0 ≤ Y0 ∧ Y0 < 2135987035920910082395021706169552114602704522356652769947041607822219725780640550022962086936576 := by have := hY0.out; omega
 have yb1 := ybd yb0.1 yb0.2 pb1.1 pb1.2 hY1.out
 have yb2 := ybd yb1.1 yb1.2 pb2.1 pb2.2 hY2.out
 have HB : Hid ((0 ≤ Y0 ∧ Y0 < 2135987035920910082395021706169552114602704522356652769947041607822219725780640550022962086936576) ∧ (0 ≤ Y1 ∧ Y1 < 2135987035920910082395021706169552114602704522356652769947041607822219725780640550022962086936576) ∧ (0 ≤ Y2 ∧ Y2 < 2135987035920910082395021706169552114602704522356652769947041607822219725780640550022962086936576)) := ⟨yb0, yb1, yb2⟩
 have HP : Hid (vl a0 a1 a2 a3 * b0 ≤ 2135987035920910082395021706169552114602704522356652769947041607822219725780640550022962086936576 - 115792089237316195423570985008687907853269984665640564039457584007913129639936 ∧ vl a0 a1 a2 a3 * b1 ≤ 2135987035920910082395021706169552114602704522356652769947041607822219725780640550022962086936576 - 115792089237316195423570985008687907853269984665640564039457584007913129639936 ∧ vl a0 a1 a2 a3 * b2 ≤ 2135987035920910082395021706169552114602704522356652769947041607822219725780640550022962086936576 - 115792089237316195423570985008687907853269984665640564039457584007913129639936 ∧ vl a0 a1 a2 a3 * b3 ≤ 2135987035920910082395021706169552114602704522356652769947041607822219725780640550022962086936576 - 115792089237316195423570985008687907853269984665640564039457584007913129639936) := ⟨by omega, by omega, by omega, by omega⟩
 have HQ : Hid (0 ≤ vl a0 a1 a2 a3 * b0 ∧ 0 ≤ vl a0 a1 a2 a3 * b1 ∧ 0 ≤ vl a0 a1 a2 a3 * b2 ∧ 0 ≤ vl a0 a1 a2 a3 * b3) := ⟨pb0.1, pb1.1, pb2.1, pb3.1⟩
 clear pb0 pb1 pb2 pb3 yb0 yb1 yb2 hv
 have ix0 := idx0
 have ix1 := idx1
 have ix2 := idx2
 have ix3 := idx3
 go_enter Tryz.func116, Tryz.ntmps116
 go_wp2
 go_loopw [17] (fun i wr => (i = .int .i64 0 ∧ MW w wr a0 a1 a2 a3 0 0 0 0 0 0 0 0) ∨ (i = .int .i64 1 ∧ MW w wr a0 a1 a2 a3 (l0 Y0) (l1 Y0) (l2 Y0) (l3 Y0) (l0 (Y0 / MM)) 0 0 0) ∨ (i = .int .i64 2 ∧ MW w wr a0 a1 a2 a3 (l0 Y0) (l0 Y1) (l1 Y1) (l2 Y1) (l3 Y1) (l0 (Y1 / MM)) 0 0) ∨ (i = .int .i64 3 ∧ MW w wr a0 a1 a2 a3 (l0 Y0) (l0 Y1) (l0 Y2) (l1 Y2) (l2 Y2) (l3 Y2) (l0 (Y2 / MM)) 0) ∨ (i = .int .i64 4 ∧ MW w wr a0 a1 a2 a3 (l0 Y0) (l0 Y1) (l0 Y2) (l0 Y3) (l1 Y3) (l2 Y3) (l3 Y3) (l0 (Y3 / MM)))) (fun i _ => 4 - (intOf i).toNat)
 case atStart =>
  refine Or.inl ⟨rfl, ?_⟩
  refine ⟨by repeat (first | with_reducible exact Mo.refl _ | with_reducible apply Mo.drew | with_reducible apply Mo.drewN | with_reducible apply Mo.alloc | with_reducible refine Mo.setCell ?_ (by simp <;> omega) _ | with_reducible refine Mo.trans ?_ (by with_reducible assumption)), by simp, ?_, ?_, ?_, ?_, ?_, ?_, ?_⟩
  ·simp [At4, go_sem]
  ·simp [At4, go_sem]
  ·simp [At4, go_sem]
  ·simp [At8, go_sem]
  ·intro o; simp [go_sem]
  ·intro o; simp [go_sem]
  ·intro o; simp [go_sem]
 case round =>
  obtain ⟨rfl, hw⟩ | ⟨rfl, hw⟩ | ⟨rfl, hw⟩ | ⟨rfl, hw⟩ | ⟨rfl, hw⟩ := hrel
  ·have hw0 := hw
   obtain ⟨k0, k1, ⟨A0, A1, A2, A3⟩, _⟩ := hw
   go_wp2_with fail
   refine (mulLimb_any a0 a1 a2 a3 b0 _ ha g0).mono ?_
   rintro e w1 ⟨rfl, hm⟩
   have hw1 := hw0.mo hm
   have hw2 := hw1
   clear A0 A1 A2 A3 k0 k1
   obtain ⟨k0, k1, ⟨A0, A1, A2, A3⟩, ⟨B0, B1, B2, B3⟩, ⟨C0, C1, C2, C3⟩, ⟨D0, D1, D2, D3, D4, D5, D6, D7⟩, F1, F2, F3⟩ := hw1
   have F1 := fun o => F1 o
   have F2 := fun o => F2 o
   have F3 := fun o => F3 o
   obtain ⟨E0, E1, E2, E3, E4, E5, E6, E7, E8x⟩ := rnd0 (p := (vl a0 a1 a2 a3 * b0)) HQ.out.1 HP.out.1
   have E8 : Hid _ := E8x
   clear E8x
   obtain ⟨m4, n4⟩ := rnd0b (p := (vl a0 a1 a2 a3 * b0)) HQ.out.1 HP.out.1
   go_wp2_with fail
   refine wp_loop_rounds 5 ?_
   rw [rounds_succ]
   go_wp2_with (simp only [add64_0 0 (l0 (vl a0 a1 a2 a3 * b0)) (Int.le_refl 0) (u_l0 _).1])
   rw [rounds_succ]
   go_wp2_with (simp only [add64_0 0 (l1 (vl a0 a1 a2 a3 * b0)) (Int.le_refl 0) (u_l1 _).1])
   rw [rounds_succ]
   go_wp2_with (simp only [add64_0 0 (l2 (vl a0 a1 a2 a3 * b0)) (Int.le_refl 0) (u_l2 _).1])
   rw [rounds_succ]
   go_wp2_with (simp only [add64_0 0 (l3 (vl a0 a1 a2 a3 * b0)) (Int.le_refl 0) (u_l3 _).1])
   rw [rounds_succ]
   go_wp2
   go_roundw
   case rel =>
    refine Or.inr (Or.inl ⟨rfl, ?_⟩)
    rw [hY0.out, ← E8.out]
    exact (((((hw2.put0 _).put1 _).put2 _).put3 _).put4 _).mo ((Mo.refl _).alloc _ _)
   case measure => simp [intOf]
  ·have hw0 := hw
   obtain ⟨k0, k1, ⟨A0, A1, A2, A3⟩, _⟩ := hw
   go_wp2_with fail
   refine (mulLimb_any a0 a1 a2 a3 b1 _ ha g1).mono ?_
   rintro e w1 ⟨rfl, hm⟩
   have hw1 := hw0.mo hm
   have hw2 := hw1
   clear A0 A1 A2 A3 k0 k1
   obtain ⟨k0, k1, ⟨A0, A1, A2, A3⟩, ⟨B0, B1, B2, B3⟩, ⟨C0, C1, C2, C3⟩, ⟨D0, D1, D2, D3, D4, D5, D6, D7⟩, F1, F2, F3⟩ := hw1
   have F1 := fun o => F1 o
   have F2 := fun o => F2 o
   have F3 := fun o => F3 o
   obtain ⟨c1, c2, c3, c4, E0, E1, E2, E3, E4, E5, E6, E7, E8, ⟨m1, n1⟩, ⟨m2, n2⟩, ⟨m3, n3⟩, m4, n4⟩ := rnd (Y := Y1) ⟨u_l1 Y0, u_l2 Y0, u_l3 Y0, u_l0 (Y0 / MM)⟩ (up HB.out.1.1 HB.out.1.2) HQ.out.2.1 HP.out.2.1 hY1.out
   go_wp2_with fail
   refine wp_loop_rounds 5 ?_
   rw [rounds_succ]
   go_wp2_with (simp only [add64_0 (l1 Y0) (l0 (vl a0 a1 a2 a3 * b1)) (u_l1 _).1 (u_l0 _).1])
   rw [rounds_succ]
   go_wp2_with (simp only [add64 (l2 Y0) (l1 (vl a0 a1 a2 a3 * b1)) c1 (u_l2 _).1 (u_l1 _).1 m1 n1])
   rw [rounds_succ]
   go_wp2_with (simp only [add64 (l3 Y0) (l2 (vl a0 a1 a2 a3 * b1)) c2 (u_l3 _).1 (u_l2 _).1 m2 n2])
   rw [rounds_succ]
   go_wp2_with (simp only [add64 (l0 (Y0 / MM)) (l3 (vl a0 a1 a2 a3 * b1)) c3 (u_l0 _).1 (u_l3 _).1 m3 n3])
   rw [rounds_succ]
   go_wp2
   go_roundw
   case rel =>
    refine Or.inr (Or.inr (Or.inl ⟨rfl, ?_⟩))
    exact (((((hw2.put1 _).put2 _).put3 _).put4 _).put5 _).mo ((Mo.refl _).alloc _ _)
   case measure => simp [intOf]
  ·have hw0 := hw
   obtain ⟨k0, k1, ⟨A0, A1, A2, A3⟩, _⟩ := hw
   go_wp2_with fail
   refine (mulLimb_any a0 a1 a2 a3 b2 _ ha g2).mono ?_
   rintro e w1 ⟨rfl, hm⟩
   have hw1 := hw0.mo hm
   have hw2 := hw1
   clear A0 A1 A2 A3 k0 k1
   obtain ⟨k0, k1, ⟨A0, A1, A2, A3⟩, ⟨B0, B1, B2, B3⟩, ⟨C0, C1, C2, C3⟩, ⟨D0, D1, D2, D3, D4, D5, D6, D7⟩, F1, F2, F3⟩ := hw1
   have F1 := fun o => F1 o
   have F2 := fun o => F2 o
   have F3 := fun o => F3 o
   obtain ⟨c1, c2, c3, c4, E0, E1, E2, E3, E4, E5, E6, E7, E8, ⟨m1, n1⟩, ⟨m2, n2⟩, ⟨m3, n3⟩, m4, n4⟩ := rnd (Y := Y2) ⟨u_l1 Y1, u_l2 Y1, u_l3 Y1, u_l0 (Y1 / MM)⟩ (up HB.out.2.1.1 HB.out.2.1.2) HQ.out.2.2.1 HP.out.2.2.1 hY2.out
   go_wp2_with fail
   refine wp_loop_rounds 5 ?_
   rw [rounds_succ]
   go_wp2_with (simp only [add64_0 (l1 Y1) (l0 (vl a0 a1 a2 a3 * b2)) (u_l1 _).1 (u_l0 _).1])
   rw [rounds_succ]
   go_wp2_with (simp only [add64 (l2 Y1) (l1 (vl a0 a1 a2 a3 * b2)) c1 (u_l2 _).1 (u_l1 _).1 m1 n1])
   rw [rounds_succ]
   go_wp2_with (simp only [add64 (l3 Y1) (l2 (vl a0 a1 a2 a3 * b2)) c2 (u_l3 _).1 (u_l2 _).1 m2 n2])
   rw [rounds_succ]
   go_wp2_with (simp only [add64 (l0 (Y1 / MM)) (l3 (vl a0 a1 a2 a3 * b2)) c3 (u_l0 _).1 (u_l3 _).1 m3 n3])
   rw [rounds_succ]
   go_wp2
   go_roundw
   case rel =>
    refine Or.inr (Or.inr (Or.inr (Or.inl ⟨rfl, ?_⟩)))
    exact (((((hw2.put2 _).put3 _).put4 _).put5 _).put6 _).mo ((Mo.refl _).alloc _ _)
   case measure => simp [intOf]
  ·have hw0 := hw
   obtain ⟨k0, k1, ⟨A0, A1, A2, A3⟩, _⟩ := hw
   go_wp2_with fail
   refine (mulLimb_any a0 a1 a2 a3 b3 _ ha g3).mono ?_
   rintro e w1 ⟨rfl, hm⟩
   have hw1 := hw0.mo hm
   have hw2 := hw1
   clear A0 A1 A2 A3 k0 k1
   obtain ⟨k0, k1, ⟨A0, A1, A2, A3⟩, ⟨B0, B1, B2, B3⟩, ⟨C0, C1, C2, C3⟩, ⟨D0, D1, D2, D3, D4, D5, D6, D7⟩, F1, F2, F3⟩ := hw1
   have F1 := fun o => F1 o
   have F2 := fun o => F2 o
   have F3 := fun o => F3 o
   obtain ⟨c1, c2, c3, c4, E0, E1, E2, E3, E4, E5, E6, E7, E8, ⟨m1, n1⟩, ⟨m2, n2⟩, ⟨m3, n3⟩, m4, n4⟩ := rnd (Y := Y3) ⟨u_l1 Y2, u_l2 Y2, u_l3 Y2, u_l0 (Y2 / MM)⟩ (up HB.out.2.2.1 HB.out.2.2.2) HQ.out.2.2.2 HP.out.2.2.2 hY3.out
   go_wp2_with fail
   refine wp_loop_rounds 5 ?_
   rw [rounds_succ]
   go_wp2_with (simp only [add64_0 (l1 Y2) (l0 (vl a0 a1 a2 a3 * b3)) (u_l1 _).1 (u_l0 _).1])
   rw [rounds_succ]
   go_wp2_with (simp only [add64 (l2 Y2) (l1 (vl a0 a1 a2 a3 * b3)) c1 (u_l2 _).1 (u_l1 _).1 m1 n1])
   rw [rounds_succ]
   go_wp2_with (simp only [add64 (l3 Y2) (l2 (vl a0 a1 a2 a3 * b3)) c2 (u_l3 _).1 (u_l2 _).1 m2 n2])
   rw [rounds_succ]
   go_wp2_with (simp only [add64 (l0 (Y2 / MM)) (l3 (vl a0 a1 a2 a3 * b3)) c3 (u_l0 _).1 (u_l3 _).1 m3 n3])
   rw [rounds_succ]
   go_wp2
   go_roundw
   case rel =>
    refine Or.inr (Or.inr (Or.inr (Or.inr ⟨rfl, ?_⟩)))
    exact (((((hw2.put3 _).put4 _).put5 _).put6 _).put7 _).mo ((Mo.refl _).alloc _ _)
   case measure => simp [intOf]
  ·obtain ⟨k0, k1, ⟨A0, A1, A2, A3⟩, ⟨B0, B1, B2, B3⟩, ⟨C0, C1, C2, C3⟩, ⟨D0, D1, D2, D3, D4, D5, D6, D7⟩, F1, F2, F3⟩ := hw
   have F1 := fun o => F1 o
   have F2 := fun o => F2 o
   have F3 := fun o => F3 o
   have z2 : w.heap.size + 1 + 1 < wr.heap.size := by omega
   have z3 : w.heap.size + 1 + 1 + 1 < wr.heap.size := by omega
   have z4 : w.heap.size + 1 + 1 < wr.heap.size + 1 := by omega
   have z5 : w.heap.size + 1 + 1 + 1 < wr.heap.size + 1 := by omega
   go_wp2
   go_cut [] from 73 to 74 (fun wx => At4 wx (w.heap.size + 1 + 1) (l1 Y3) (l2 Y3) (l3 Y3) (l0 (Y3 / MM)) ∧ At4 wx (w.heap.size + 1 + 1 + 1) (l0 Y0) (l0 Y1) (l0 Y2) (l0 Y3) ∧ Mo w wx)
   case first =>
    go_region
    go_wp2
    go_meet
    case rel =>
     refine ⟨?_, ?_, ?_⟩
     ·simp [At4, go_sem, B0, B1, B2, B3, z2, z4]
     ·simp [At4, go_sem, C0, C1, C2, C3, z3, z5]
     ·repeat (first | with_reducible exact Mo.refl _ | with_reducible apply Mo.drew | with_reducible apply Mo.drewN | with_reducible apply Mo.alloc | with_reducible refine Mo.setCell ?_ (by simp <;> omega) _ | with_reducible refine Mo.trans ?_ (by with_reducible assumption))
   case rest =>
    obtain ⟨⟨P0, P1, P2, P3⟩, ⟨R0, R1, R2, R3⟩, hmo⟩ := hcut
    go_wp2
    refine bodyPost_ret (v := .tuple #[.agg #[.int .u64 (l1 Y3), .int .u64 (l2 Y3), .int .u64 (l3 Y3), .int .u64 (l0 (Y3 / MM))], .agg #[.int .u64 (l0 Y0), .int .u64 (l0 Y1), .int .u64 (l0 Y2), .int .u64 (l0 Y3)]]) (by simp [results, Tryz.results116, go_sem, P0, P1, P2, P3, R0, R1, R2, R3]) rfl ?_
    exact ⟨rfl, hmo⟩

theorem mul_any (a0 a1 a2 a3 b0 b1 b2 b3 : Int) (w : World) (ha : U4 a0 a1 a2 a3) (hb : U4 b0 b1 b2 b3) :
  Calls Tryz.prog 116 #[.agg #[.int .u64 a0, .int .u64 a1, .int .u64 a2, .int .u64 a3], .agg #[.int .u64 b0, .int .u64 b1, .int .u64 b2, .int .u64 b3]] w fun e w' =>
   e = .returned (.tuple #[nv (vl a0 a1 a2 a3 * vl b0 b1 b2 b3 / MM), nv (vl a0 a1 a2 a3 * vl b0 b1 b2 b3)]) ∧ Mo w w' := by
 refine (mul_raw a0 a1 a2 a3 b0 b1 b2 b3 _ _ _ _ w ha hb rfl rfl rfl rfl).mono ?_
 rintro e w' ⟨rfl, hm⟩
 have hP : vl a0 a1 a2 a3 * vl b0 b1 b2 b3 = vl a0 a1 a2 a3 * b0 + 18446744073709551616 * (vl a0 a1 a2 a3 * b1 + 18446744073709551616 * (vl a0 a1 a2 a3 * b2 + 18446744073709551616 * (vl a0 a1 a2 a3 * b3))) := by
  rw [show vl b0 b1 b2 b3 = b0 + 18446744073709551616 * (b1 + 18446744073709551616 * (b2 + 18446744073709551616 * b3)) from by unfold vl; omega]
  generalize vl a0 a1 a2 a3 = v
  have q : ∀ x y : Int, v * (x + 18446744073709551616 * y) = v * x + 18446744073709551616 * (v * y) := fun x y => by rw [Int.mul_add, Int.mul_left_comm]
  rw [q, q, q]
 obtain ⟨e0, e1, e2, e3, e4, e5, e6, e7⟩ := prod_eq rfl rfl rfl rfl hP
 refine ⟨?_, hm⟩
 rw [nv_of e0 e1 e2 e3, nv_of e4 e5 e6 e7]
end Go.Proofs.YtogomodbcjpfiaaGreatDoor

namespace Go.Proofs.YtogomodbcjpfiaaGreatDoor
open Go.RowKit
theorem nv_add_mod (n m : Int) : nv (n % MM + m % MM) = nv (n + m) := by
 rw [← nv_mod (n % MM + m % MM), ← nv_mod (n + m), ← Int.add_emod]

theorem At4.st {w : World} {k j : Nat} {a b c d : Int} (h : At4 w j a b c d) (hk : j ≠ k) {z : Int} : At4 (st4 w k z) j a b c d :=
 (((h.set hk _ _).set hk _ _).set hk _ _).set hk _ _
end Go.Proofs.YtogomodbcjpfiaaGreatDoor

