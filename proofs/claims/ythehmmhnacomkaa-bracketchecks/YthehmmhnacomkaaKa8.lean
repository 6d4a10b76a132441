/-
  A part of the proof.
-/
import Derived.Test.YthehmmhnacomkaaKa5
import Derived.Test.YthehmmhnacomkaaKa1
import Derived.Test.YthehmmhnacomkaaProg
import Derived.WalkKit
import Derived.WalkSpells
import Derived.Handy
import Derived.BigQuiet
import Derived.Deep.RegionHeld3
import Derived.Test.YthehmmhnacomkaaKa3
import Derived.Shelf.Small.Bits
import Derived.Shelf.Strconv.Itoa0
import Derived.Shelf.Bits.Mul64
import Derived.Test.YthehmmhnacomkaaKa6
import Derived.Deep.CutRange
import Derived.Test.YthehmmhnacomkaaKa4
import Derived.Deep.CutBlock
import Derived.Test.YthehmmhnacomkaaKa7
import Derived.ChangeKeysEq
import Derived.ScopeJumps
import Derived.WalkMore
import Derived.Laws.StructEq
namespace Go.Proofs.Ythehmmhnacomkaa
open Go.RowKit
def MW (w wr : World) (a0 a1 a2 a3 x0 x1 x2 x3 x4 x5 x6 x7 : Int) : Prop := Mo w wr ∧ w.heap.size + 1 + 1 + 1 + 1 < wr.heap.size ∧ At4 wr w.heap.size a0 a1 a2 a3 ∧ At4 wr (w.heap.size + 1 + 1) 0 0 0 0 ∧ At4 wr (w.heap.size + 1 + 1 + 1) 0 0 0 0 ∧ At8 wr (w.heap.size + 1 + 1 + 1 + 1) x0 x1 x2 x3 x4 x5 x6 x7 ∧ Fz wr (w.heap.size + 1 + 1) ∧ Fz wr (w.heap.size + 1 + 1 + 1) ∧ Fz wr (w.heap.size + 1 + 1 + 1 + 1)
theorem MW.mo {w wr w1 : World} {a0 a1 a2 a3 x0 x1 x2 x3 x4 x5 x6 x7 : Int} (h : MW w wr a0 a1 a2 a3 x0 x1 x2 x3 x4 x5 x6 x7) (m : Mo wr w1) : MW w w1 a0 a1 a2 a3 x0 x1 x2 x3 x4 x5 x6 x7 := by
 obtain ⟨h1, h2, h3, h4, h5, h6, h7, h8, h9⟩ := h
 have := m.size
 exact ⟨h1.trans m, by omega, h3.mo m (by omega), h4.mo m (by omega), h5.mo m (by omega), h6.mo m (by omega), h7.mo m, h8.mo m, h9.mo m⟩

theorem At4.set {w : World} {k k' : Nat} {a b c d : Int} (h : At4 w k a b c d) (hk : k ≠ k') (o : Nat) (v : Value) : At4 (w.setCell ⟨k', o, none⟩ v) k a b c d := by
 obtain ⟨h0, h1, h2, h3⟩ := h
 have e : ∀ j, (w.setCell ⟨k', o, none⟩ v).cell? ⟨k, j, none⟩ = w.cell? ⟨k, j, none⟩ := fun j => World.cell?_of_block (Below.heap_setCell _ _ _ _ hk)
 exact ⟨(e 0).trans h0, (e 1).trans h1, (e 2).trans h2, (e 3).trans h3⟩
theorem Fz.set {w : World} {k : Nat} (h : Fz w k) (a : Addr) (v : Value) : Fz (w.setCell a v) k := fun o => (World.frozen?_setCell _ _ _ _).trans (h o)
theorem MW.put0 {w w1 : World} {a0 a1 a2 a3 x0 x1 x2 x3 x4 x5 x6 x7 : Int} (h : MW w w1 a0 a1 a2 a3 x0 x1 x2 x3 x4 x5 x6 x7) (y : Int) : MW w (w1.setCell ⟨w.heap.size + 1 + 1 + 1 + 1, 0, none⟩ (.int .u64 y)) a0 a1 a2 a3 y x1 x2 x3 x4 x5 x6 x7 := by
 obtain ⟨h1, h2, h3, h4, h5, h6, h7, h8, h9⟩ := h
 refine ⟨h1.setCell (by show w.heap.size ≤ w.heap.size + 1 + 1 + 1 + 1; omega) _, by simpa [World.setCell] using h2, h3.set (by omega) _ _, h4.set (by omega) _ _, h5.set (by omega) _ _, ?_, h7.set _ _, h8.set _ _, h9.set _ _⟩
 obtain ⟨d0, d1, d2, d3, d4, d5, d6, d7⟩ := h6
 simp [At8, go_sem, *]
theorem MW.put1 {w w1 : World} {a0 a1 a2 a3 x0 x1 x2 x3 x4 x5 x6 x7 : Int} (h : MW w w1 a0 a1 a2 a3 x0 x1 x2 x3 x4 x5 x6 x7) (y : Int) : MW w (w1.setCell ⟨w.heap.size + 1 + 1 + 1 + 1, 1, none⟩ (.int .u64 y)) a0 a1 a2 a3 x0 y x2 x3 x4 x5 x6 x7 := by
 obtain ⟨h1, h2, h3, h4, h5, h6, h7, h8, h9⟩ := h
 refine ⟨h1.setCell (by show w.heap.size ≤ w.heap.size + 1 + 1 + 1 + 1; omega) _, by simpa [World.setCell] using h2, h3.set (by omega) _ _, h4.set (by omega) _ _, h5.set (by omega) _ _, ?_, h7.set _ _, h8.set _ _, h9.set _ _⟩
 obtain ⟨d0, d1, d2, d3, d4, d5, d6, d7⟩ := h6
 simp [At8, go_sem, *]
theorem MW.put2 {w w1 : World} {a0 a1 a2 a3 x0 x1 x2 x3 x4 x5 x6 x7 : Int} (h : MW w w1 a0 a1 a2 a3 x0 x1 x2 x3 x4 x5 x6 x7) (y : Int) : MW w (w1.setCell ⟨w.heap.size + 1 + 1 + 1 + 1, 2, none⟩ (.int .u64 y)) a0 a1 a2 a3 x0 x1 y x3 x4 x5 x6 x7 := by
 obtain ⟨h1, h2, h3, h4, h5, h6, h7, h8, h9⟩ := h
 refine ⟨h1.setCell (by show w.heap.size ≤ w.heap.size + 1 + 1 + 1 + 1; omega) _, by simpa [World.setCell] using h2, h3.set (by omega) _ _, h4.set (by omega) _ _, h5.set (by omega) _ _, ?_, h7.set _ _, h8.set _ _, h9.set _ _⟩
 obtain ⟨d0, d1, d2, d3, d4, d5, d6, d7⟩ := h6
 simp [At8, go_sem, *]
theorem MW.put3 {w w1 : World} {a0 a1 a2 a3 x0 x1 x2 x3 x4 x5 x6 x7 : Int} (h : MW w w1 a0 a1 a2 a3 x0 x1 x2 x3 x4 x5 x6 x7) (y : Int) : MW w (w1.setCell ⟨w.heap.size + 1 + 1 + 1 + 1, 3, none⟩ (.int .u64 y)) a0 a1 a2 a3 x0 x1 x2 y x4 x5 x6 x7 := by
 obtain ⟨h1, h2, h3, h4, h5, h6, h7, h8, h9⟩ := h
 refine ⟨h1.setCell (by show w.heap.size ≤ w.heap.size + 1 + 1 + 1 + 1; omega) _, by simpa [World.setCell] using h2, h3.set (by omega) _ _, h4.set (by omega) _ _, h5.set (by omega) _ _, ?_, h7.set _ _, h8.set _ _, h9.set _ _⟩
 obtain ⟨d0, d1, d2, d3, d4, d5, d6, d7⟩ := h6
 simp [At8, go_sem, *]
theorem MW.put4 {w w1 : World} {a0 a1 a2 a3 x0 x1 x2 x3 x4 x5 x6 x7 : Int} (h : MW w w1 a0 a1 a2 a3 x0 x1 x2 x3 x4 x5 x6 x7) (y : Int) : MW w (w1.setCell ⟨w.heap.size + 1 + 1 + 1 + 1, 4, none⟩ (.int .u64 y)) a0 a1 a2 a3 x0 x1 x2 x3 y x5 x6 x7 := by
 obtain ⟨h1, h2, h3, h4, h5, h6, h7, h8, h9⟩ := h
 refine ⟨h1.setCell (by show w.heap.size ≤ w.heap.size + 1 + 1 + 1 + 1; omega) _, by simpa [World.setCell] using h2, h3.set (by omega) _ _, h4.set (by omega) _ _, h5.set (by omega) _ _, ?_, h7.set _ _, h8.set _ _, h9.set _ _⟩
 obtain ⟨d0, d1, d2, d3, d4, d5, d6, d7⟩ := h6
 simp [At8, go_sem, *]
theorem MW.put5 {w w1 : World} {a0 a1 a2 a3 x0 x1 x2 x3 x4 x5 x6 x7 : Int} (h : MW w w1 a0 a1 a2 a3 x0 x1 x2 x3 x4 x5 x6 x7) (y : Int) : MW w (w1.setCell ⟨w.heap.size + 1 + 1 + 1 + 1, 5, none⟩ (.int .u64 y)) a0 a1 a2 a3 x0 x1 x2 x3 x4 y x6 x7 := by
 obtain ⟨h1, h2, h3, h4, h5, h6, h7, h8, h9⟩ := h
 refine ⟨h1.setCell (by show w.heap.size ≤ w.heap.size + 1 + 1 + 1 + 1; omega) _, by simpa [World.setCell] using h2, h3.set (by omega) _ _, h4.set (by omega) _ _, h5.set (by omega) _ _, ?_, h7.set _ _, h8.set _ _, h9.set _ _⟩
 obtain ⟨d0, d1, d2, d3, d4, d5, d6, d7⟩ := h6
 simp [At8, go_sem, *]
theorem MW.put6 {w w1 : World} {a0 a1 a2 a3 x0 x1 x2 x3 x4 x5 x6 x7 : Int} (h : MW w w1 a0 a1 a2 a3 x0 x1 x2 x3 x4 x5 x6 x7) (y : Int) : MW w (w1.setCell ⟨w.heap.size + 1 + 1 + 1 + 1, 6, none⟩ (.int .u64 y)) a0 a1 a2 a3 x0 x1 x2 x3 x4 x5 y x7 := by
 obtain ⟨h1, h2, h3, h4, h5, h6, h7, h8, h9⟩ := h
 refine ⟨h1.setCell (by show w.heap.size ≤ w.heap.size + 1 + 1 + 1 + 1; omega) _, by simpa [World.setCell] using h2, h3.set (by omega) _ _, h4.set (by omega) _ _, h5.set (by omega) _ _, ?_, h7.set _ _, h8.set _ _, h9.set _ _⟩
 obtain ⟨d0, d1, d2, d3, d4, d5, d6, d7⟩ := h6
 simp [At8, go_sem, *]
theorem MW.put7 {w w1 : World} {a0 a1 a2 a3 x0 x1 x2 x3 x4 x5 x6 x7 : Int} (h : MW w w1 a0 a1 a2 a3 x0 x1 x2 x3 x4 x5 x6 x7) (y : Int) : MW w (w1.setCell ⟨w.heap.size + 1 + 1 + 1 + 1, 7, none⟩ (.int .u64 y)) a0 a1 a2 a3 x0 x1 x2 x3 x4 x5 x6 y := by
 obtain ⟨h1, h2, h3, h4, h5, h6, h7, h8, h9⟩ := h
 refine ⟨h1.setCell (by show w.heap.size ≤ w.heap.size + 1 + 1 + 1 + 1; omega) _, by simpa [World.setCell] using h2, h3.set (by omega) _ _, h4.set (by omega) _ _, h5.set (by omega) _ _, ?_, h7.set _ _, h8.set _ _, h9.set _ _⟩
 obtain ⟨d0, d1, d2, d3, d4, d5, d6, d7⟩ := h6
 simp [At8, go_sem, *]

set_option maxHeartbeats 4000000 in
theorem mul_raw (a0 a1 a2 a3 b0 b1 b2 b3 Y0 Y1 Y2 Y3 : Int) (w : World) (ha : U4 a0 a1 a2 a3) (hb : U4 b0 b1 b2 b3) (hY0 : Hid (Y0 = vl a0 a1 a2 a3 * b0)) (hY1 : Hid (Y1 = Y0 / 18446744073709551616 + vl a0 a1 a2 a3 * b1)) (hY2 : Hid (Y2 = Y1 / 18446744073709551616 + vl a0 a1 a2 a3 * b2)) (hY3 : Hid (Y3 = Y2 / 18446744073709551616 + vl a0 a1 a2 a3 * b3)) :
  Calls Try.prog 82 #[.agg #[.int .u64 a0, .int .u64 a1, .int .u64 a2, .int .u64 a3], .agg #[.int .u64 b0, .int .u64 b1, .int .u64 b2, .int .u64 b3]] w fun e w' =>
   e = .returned (.tuple #[.agg #[.int .u64 (l1 Y3), .int .u64 (l2 Y3), .int .u64 (l3 Y3), .int .u64 (l0 (Y3 / MM))], .agg #[.int .u64 (l0 Y0), .int .u64 (l0 Y1), .int .u64 (l0 Y2), .int .u64 (l0 Y3)]]) ∧ Mo w w' := by
 have hv := vl_bd ha
 have hb' := hb
 obtain ⟨g0, g1, g2, g3⟩ := hb'
 have pb0 := pbd hv.1 hv.2 g0
 have pb1 := pbd hv.1 hv.2 g1
 have pb2 := pbd hv.1 hv.2 g2
 have pb3 := pbd hv.1 hv.2 g3
 have yb0 : 0 ≤ Y0 ∧ Y0 < 2135987035920910082395021706169552114602704522356652769947041607822219725780640550022962086936576 := by have := hY0.out; omega
 have yb1 := ybd yb0.1 yb0.2 pb1.1 pb1.2 hY1.out
 have yb2 := ybd yb1.1 yb1.2 pb2.1 pb2.2 hY2.out
 have HB : Hid ((0 ≤ Y0 ∧ Y0 < 2135987035920910082395021706169552114602704522356652769947041607822219725780640550022962086936576) ∧ (0 ≤ Y1 ∧ Y1 < 2135987035920910082395021706169552114602704522356652769947041607822219725780640550022962086936576) ∧ (0 ≤ Y2 ∧ Y2 < 2135987035920910082395021706169552114602704522356652769947041607822219725780640550022962086936576)) := ⟨yb0, yb1, yb2⟩
 have HP : Hid (vl a0 a1 a2 a3 * b0 ≤ 2135987035920910082395021706169552114602704522356652769947041607822219725780640550022962086936576 - 115792089237316195423570985008687907853269984665640564039457584007913129639936 ∧ vl a0 a1 a2 a3 * b1 ≤ 2135987035920910082395021706169552114602704522356652769947041607822219725780640550022962086936576 - 115792089237316195423570985008687907853269984665640564039457584007913129639936 ∧ vl a0 a1 a2 a3 * b2 ≤ 2135987035920910082395021706169552114602704522356652769947041607822219725780640550022962086936576 - 115792089237316195423570985008687907853269984665640564039457584007913129639936 ∧ vl a0 a1 a2 a3 * b3 ≤ 2135987035920910082395021706169552114602704522356652769947041607822219725780640550022962086936576 - 115792089237316195423570985008687907853269984665640564039457584007913129639936) := ⟨by omega, by omega, by omega, by omega⟩
 have HQ : Hid (0 ≤ vl a0 a1 a2 a3 * b0 ∧ 0 ≤ vl a0 a1 a2 a3 * b1 ∧ 0 ≤ vl a0 a1 a2 a3 * b2 ∧ 0 ≤ vl a0 a1 a2 a3 * b3) := ⟨pb0.1, pb1.1, pb2.1, pb3.1⟩
 clear pb0 pb1 pb2 pb3 yb0 yb1 yb2 hv
 have ix0 := idx0
 have ix1 := idx1
 have ix2 := idx2
 have ix3 := idx3
 go_enter Try.func82, Try.ntmps82
 go_wp2
 go_loopw [17] (fun i wr => (i = .int .i64 0 ∧ MW w wr a0 a1 a2 a3 0 0 0 0 0 0 0 0) ∨ (i = .int .i64 1 ∧ MW w wr a0 a1 a2 a3 (l0 Y0) (l1 Y0) (l2 Y0) (l3 Y0) (l0 (Y0 / MM)) 0 0 0) ∨ (i = .int .i64 2 ∧ MW w wr a0 a1 a2 a3 (l0 Y0) (l0 Y1) (l1 Y1) (l2 Y1) (l3 Y1) (l0 (Y1 / MM)) 0 0) ∨ (i = .int .i64 3 ∧ MW w wr a0 a1 a2 a3 (l0 Y0) (l0 Y1) (l0 Y2) (l1 Y2) (l2 Y2) (l3 Y2) (l0 (Y2 / MM)) 0) ∨ (i = .int .i64 4 ∧ MW w wr a0 a1 a2 a3 (l0 Y0) (l0 Y1) (l0 Y2) (l0 Y3) (l1 Y3) (l2 Y3) (l3 Y3) (l0 (Y3 / MM)))) (fun i _ => 4 - (intOf i).toNat)
 case atStart =>
  refine Or.inl ⟨rfl, ?_⟩
  refine ⟨by repeat (first | with_reducible exact Mo.refl _ | with_reducible apply Mo.drew | with_reducible apply Mo.drewN | with_reducible apply Mo.alloc | with_reducible refine Mo.setCell ?_ (by simp <;> omega) _ | with_reducible refine Mo.trans ?_ (by with_reducible assumption)), by simp, ?_, ?_, ?_, ?_, ?_, ?_, ?_⟩
  ·simp [At4, go_sem]
  ·simp [At4, go_sem]
  ·simp [At4, go_sem]
  ·simp [At8, go_sem]
  ·intro o; simp [go_sem]
  ·intro o; simp [go_sem]
  ·intro o; simp [go_sem]
 case round =>
  obtain ⟨rfl, hw⟩ | ⟨rfl, hw⟩ | ⟨rfl, hw⟩ | ⟨rfl, hw⟩ | ⟨rfl, hw⟩ := hrel
  ·have hw0 := hw
   obtain ⟨k0, k1, ⟨A0, A1, A2, A3⟩, _⟩ := hw
   go_wp2_with fail
   refine (mulLimb_any a0 a1 a2 a3 b0 _ ha g0).mono ?_
   rintro e w1 ⟨rfl, hm⟩
   have hw1 := hw0.mo hm
   have hw2 := hw1
   clear A0 A1 A2 A3 k0 k1
   obtain ⟨k0, k1, ⟨A0, A1, A2, A3⟩, ⟨B0, B1, B2, B3⟩, ⟨C0, C1, C2, C3⟩, ⟨D0, D1, D2, D3, D4, D5, D6, D7⟩, F1, F2, F3⟩ := hw1
   have F1 := fun o => F1 o
   have F2 := fun o => F2 o
   have F3 := fun o => F3 o
   obtain ⟨E0, E1, E2, E3, E4, E5, E6, E7, E8x⟩ := rnd0 (p := (vl a0 a1 a2 a3 * b0)) HQ.out.1 HP.out.1
   have E8 : Hid _ := E8x
   clear E8x
   obtain ⟨m4, n4⟩ := rnd0b (p := (vl a0 a1 a2 a3 * b0)) HQ.out.1 HP.out.1
   go_wp2_with fail
   refine wp_loop_rounds 5 ?_
   rw [rounds_succ]
   go_wp2_with (simp only [add64_0 0 (l0 (vl a0 a1 a2 a3 * b0)) (Int.le_refl 0) (u_l0 _).1])
   rw [rounds_succ]
   go_wp2_with (simp only [add64_0 0 (l1 (vl a0 a1 a2 a3 * b0)) (Int.le_refl 0) (u_l1 _).1])
   rw [rounds_succ]
   go_wp2_with (simp only [add64_0 0 (l2 (vl a0 a1 a2 a3 * b0)) (Int.le_refl 0) (u_l2 _).1])
   rw [rounds_succ]
   go_wp2_with (simp only [add64_0 0 (l3 (vl a0 a1 a2 a3 * b0)) (Int.le_refl 0) (u_l3 _).1])
   rw [rounds_succ]
   go_wp2
   go_roundw
   case rel =>
    refine Or.inr (Or.inl ⟨rfl, ?_⟩)
    rw [hY0.out, ← E8.out]
    exact (((((hw2.put0 _).put1 _).put2 _).put3 _).put4 _).mo ((Mo.refl _).alloc _ _)
   case measure => simp [intOf]
  ·have hw0 := hw
   obtain ⟨k0, k1, ⟨A0, A1, A2, A3⟩, _⟩ := hw
   go_wp2_with fail
   refine (mulLimb_any a0 a1 a2 a3 b1 _ ha g1).mono ?_
   rintro e w1 ⟨rfl, hm⟩
   have hw1 := hw0.mo hm
   have hw2 := hw1
   clear A0 A1 A2 A3 k0 k1
   obtain ⟨k0, k1, ⟨A0, A1, A2, A3⟩, ⟨B0, B1, B2, B3⟩, ⟨C0, C1, C2, C3⟩, ⟨D0, D1, D2, D3, D4, D5, D6, D7⟩, F1, F2, F3⟩ := hw1
   have F1 := fun o => F1 o
   have F2 := fun o => F2 o
   have F3 := fun o => F3 o
   obtain ⟨c1, c2, c3, c4, E0, E1, E2, E3, E4, E5, E6, E7, E8, ⟨m1, n1⟩, ⟨m2, n2⟩, ⟨m3, n3⟩, m4, n4⟩ := rnd (Y := Y1) ⟨u_l1 Y0, u_l2 Y0, u_l3 Y0, u_l0 (Y0 / MM)⟩ (up HB.out.1.1 HB.out.1.2) HQ.out.2.1 HP.out.2.1 hY1.out
   go_wp2_with fail
   refine wp_loop_rounds 5 ?_
   rw [rounds_succ]
   go_wp2_with (simp only [add64_0 (l1 Y0) (l0 (vl a0 a1 a2 a3 * b1)) (u_l1 _).1 (u_l0 _).1])
   rw [rounds_succ]
   go_wp2_with (simp only [add64 (l2 Y0) (l1 (vl a0 a1 a2 a3 * b1)) c1 (u_l2 _).1 (u_l1 _).1 m1 n1])
   rw [rounds_succ]
   go_wp2_with (simp only [add64 (l3 Y0) (l2 (vl a0 a1 a2 a3 * b1)) c2 (u_l3 _).1 (u_l2 _).1 m2 n2])
   rw [rounds_succ]
   go_wp2_with (simp only [add64 (l0 (Y0 / MM)) (l3 (vl a0 a1 a2 a3 * b1)) c3 (u_l0 _).1 (u_l3 _).1 m3 n3])
   rw [rounds_succ]
   go_wp2
   go_roundw
   case rel =>
    refine Or.inr (Or.inr (Or.inl ⟨rfl, ?_⟩))
    exact (((((hw2.put1 _).put2 _).put3 _).put4 _).put5 _).mo ((Mo.refl _).alloc _ _)
   case measure => simp [intOf]
  ·have hw0 := hw
   obtain ⟨k0, k1, ⟨A0, A1, A2, A3⟩, _⟩ := hw
   go_wp2_with fail
   refine (mulLimb_any a0 a1 a2 a3 b2 _ ha g2).mono ?_
   rintro e w1 ⟨rfl, hm⟩
   have hw1 := hw0.mo hm
   have hw2 := hw1
   clear A0 A1 A2 A3 k0 k1
   obtain ⟨k0, k1, ⟨A0, A1, A2, A3⟩, ⟨B0, B1, B2, B3⟩, ⟨C0, C1, C2, C3⟩, ⟨D0, D1, D2, D3, D4, D5, D6, D7⟩, F1, F2, F3⟩ := hw1
   have F1 := fun o => F1 o
   have F2 := fun o => F2 o
   have F3 := fun o => F3 o
   obtain ⟨c1, c2, c3, c4, E0, E1, E2, E3, E4, E5, E6, E7, E8, ⟨m1, n1⟩, ⟨m2, n2⟩, ⟨m3, n3⟩, m4, n4⟩ := rnd (Y := Y2) ⟨u_l1 Y1, u_l2 Y1, u_l3 Y1, u_l0 (Y1 / MM)⟩ (up HB.out.2.1.1 HB.out.2.1.2) HQ.out.2.2.1 HP.out.2.2.1 hY2.out
   go_wp2_with fail
   refine wp_loop_rounds 5 ?_
   rw [rounds_succ]
   go_wp2_with (simp only [add64_0 (l1 Y1) (l0 (vl a0 a1 a2 a3 * b2)) (u_l1 _).1 (u_l0 _).1])
   rw [rounds_succ]
   go_wp2_with (simp only [add64 (l2 Y1) (l1 (vl a0 a1 a2 a3 * b2)) c1 (u_l2 _).1 (u_l1 _).1 m1 n1])
   rw [rounds_succ]
   go_wp2_with (simp only [add64 (l3 Y1) (l2 (vl a0 a1 a2 a3 * b2)) c2 (u_l3 _).1 (u_l2 _).1 m2 n2])
   rw [rounds_succ]
   go_wp2_with (simp only [add64 (l0 (Y1 / MM)) (l3 (vl a0 a1 a2 a3 * b2)) c3 (u_l0 _).1 (u_l3 _).1 m3 n3])
   rw [rounds_succ]
   go_wp2
   go_roundw
   case rel =>
    refine Or.inr (Or.inr (Or.inr (Or.inl ⟨rfl, ?_⟩)))
    exact (((((hw2.put2 _).put3 _).put4 _).put5 _).put6 _).mo ((Mo.refl _).alloc _ _)
   case measure => simp [intOf]
  ·have hw0 := hw
   obtain ⟨k0, k1, ⟨A0, A1, A2, A3⟩, _⟩ := hw
   go_wp2_with fail
   refine (mulLimb_any a0 a1 a2 a3 b3 _ ha g3).mono ?_
   rintro e w1 ⟨rfl, hm⟩
   have hw1 := hw0.mo hm
   have hw2 := hw1
   clear A0 A1 A2 A3 k0 k1
   obtain ⟨k0, k1, ⟨A0, A1, A2, A3⟩, ⟨B0, B1, B2, B3⟩, ⟨C0, C1, C2, C3⟩, ⟨D0, D1, D2, D3, D4, D5, D6, D7⟩, F1, F2, F3⟩ := hw1
   have F1 := fun o => F1 o
   have F2 := fun o => F2 o
   have F3 := fun o => F3 o
   obtain ⟨c1, c2, c3, c4, E0, E1, E2, E3, E4, E5, E6, E7, E8, ⟨m1, n1⟩, ⟨m2, n2⟩, ⟨m3, n3⟩, m4, n4⟩ := rnd (Y := Y3) ⟨u_l1 Y2, u_l2 Y2, u_l3 Y2, u_l0 (Y2 / MM)⟩ (up HB.out.2.2.1 HB.out.2.2.2) HQ.out.2.2.2 HP.out.2.2.2 hY3.out
   go_wp2_with fail
   refine wp_loop_rounds 5 ?_
   rw [rounds_succ]
   go_wp2_with (simp only [add64_0 (l1 Y2) (l0 (vl a0 a1 a2 a3 * b3)) (u_l1 _).1 (u_l0 _).1])
   rw [rounds_succ]
   go_wp2_with (simp only [add64 (l2 Y2) (l1 (vl a0 a1 a2 a3 * b3)) c1 (u_l2 _).1 (u_l1 _).1 m1 n1])
   rw [rounds_succ]
   go_wp2_with (simp only [add64 (l3 Y2) (l2 (vl a0 a1 a2 a3 * b3)) c2 (u_l3 _).1 (u_l2 _).1 m2 n2])
   rw [rounds_succ]
   go_wp2_with (simp only [add64 (l0 (Y2 / MM)) (l3 (vl a0 a1 a2 a3 * b3)) c3 (u_l0 _).1 (u_l3 _).1 m3 n3])
   rw [rounds_succ]
   go_wp2
   go_roundw
   case rel =>
    refine Or.inr (Or.inr (Or.inr (Or.inr ⟨rfl, ?_⟩)))
    exact (((((hw2.put3 _).put4 _).put5 _).put6 _).put7 _).mo ((Mo.refl _).alloc _ _)
   case measure => simp [intOf]
  ·obtain ⟨k0, k1, ⟨A0, A1, A2, A3⟩, ⟨B0, B1, B2, B3⟩, ⟨C0, C1, C2, C3⟩, ⟨D0, D1, D2, D3, D4, D5, D6, D7⟩, F1, F2, F3⟩ := hw
   have F1 := fun o => F1 o
   have F2 := fun o => F2 o
   have F3 := fun o => F3 o
   have z2 : w.heap.size + 1 + 1 < wr.heap.size := by omega
   have z3 : w.heap.size + 1 + 1 + 1 < wr.heap.size := by omega
   have z4 : w.heap.size + 1 + 1 < wr.heap.size + 1 := by omega
   have z5 : w.heap.size + 1 + 1 + 1 < wr.heap.size + 1 := by omega
   go_wp2
   go_cut [] from 73 to 74 (fun wx => At4 wx (w.heap.size + 1 + 1) (l1 Y3) (l2 Y3) (l3 Y3) (l0 (Y3 / MM)) ∧ At4 wx (w.heap.size + 1 + 1 + 1) (l0 Y0) (l0 Y1) (l0 Y2) (l0 Y3) ∧ Mo w wx)
   case first =>
    go_region
    go_wp2
    go_meet
    case rel =>
     refine ⟨?_, ?_, ?_⟩
     ·simp [At4, go_sem, B0, B1, B2, B3, z2, z4]
     ·simp [At4, go_sem, C0, C1, C2, C3, z3, z5]
     ·repeat (first | with_reducible exact Mo.refl _ | with_reducible apply Mo.drew | with_reducible apply Mo.drewN | with_reducible apply Mo.alloc | with_reducible refine Mo.setCell ?_ (by simp <;> omega) _ | with_reducible refine Mo.trans ?_ (by with_reducible assumption))
   case rest =>
    obtain ⟨⟨P0, P1, P2, P3⟩, ⟨R0, R1, R2, R3⟩, hmo⟩ := hcut
    go_wp2
    refine bodyPost_ret (v := .tuple #[.agg #[.int .u64 (l1 Y3), .int .u64 (l2 Y3), .int .u64 (l3 Y3), .int .u64 (l0 (Y3 / MM))], .agg #[.int .u64 (l0 Y0), .int .u64 (l0 Y1), .int .u64 (l0 Y2), .int .u64 (l0 Y3)]]) (by simp [results, Try.results82, go_sem, P0, P1, P2, P3, R0, R1, R2, R3]) rfl ?_
    exact ⟨rfl, hmo⟩

theorem mul_any (a0 a1 a2 a3 b0 b1 b2 b3 : Int) (w : World) (ha : U4 a0 a1 a2 a3) (hb : U4 b0 b1 b2 b3) :
  Calls Try.prog 82 #[.agg #[.int .u64 a0, .int .u64 a1, .int .u64 a2, .int .u64 a3], .agg #[.int .u64 b0, .int .u64 b1, .int .u64 b2, .int .u64 b3]] w fun e w' =>
   e = .returned (.tuple #[nv (vl a0 a1 a2 a3 * vl b0 b1 b2 b3 / MM), nv (vl a0 a1 a2 a3 * vl b0 b1 b2 b3)]) ∧ Mo w w' := by
 refine (mul_raw a0 a1 a2 a3 b0 b1 b2 b3 _ _ _ _ w ha hb rfl rfl rfl rfl).mono ?_
 rintro e w' ⟨rfl, hm⟩
 have hP : vl a0 a1 a2 a3 * vl b0 b1 b2 b3 = vl a0 a1 a2 a3 * b0 + 18446744073709551616 * (vl a0 a1 a2 a3 * b1 + 18446744073709551616 * (vl a0 a1 a2 a3 * b2 + 18446744073709551616 * (vl a0 a1 a2 a3 * b3))) := by
  rw [show vl b0 b1 b2 b3 = b0 + 18446744073709551616 * (b1 + 18446744073709551616 * (b2 + 18446744073709551616 * b3)) from by unfold vl; omega]
  generalize vl a0 a1 a2 a3 = v
  have q : ∀ x y : Int, v * (x + 18446744073709551616 * y) = v * x + 18446744073709551616 * (v * y) := fun x y => by rw [Int.mul_add, Int.mul_left_comm]
  rw [q, q, q]
 obtain ⟨e0, e1, e2, e3, e4, e5, e6, e7⟩ := prod_eq rfl rfl rfl rfl hP
 refine ⟨?_, hm⟩
 rw [nv_of e0 e1 e2 e3, nv_of e4 e5 e6 e7]
end Go.Proofs.Ythehmmhnacomkaa

namespace Go.Proofs.Ythehmmhnacomkaa
open Go.RowKit
theorem nv_add_mod (n m : Int) : nv (n % MM + m % MM) = nv (n + m) := by
 rw [← nv_mod (n % MM + m % MM), ← nv_mod (n + m), ← Int.add_emod]

theorem At4.st {w : World} {k j : Nat} {a b c d : Int} (h : At4 w j a b c d) (hk : j ≠ k) {z : Int} : At4 (st4 w k z) j a b c d :=
 (((h.set hk _ _).set hk _ _).set hk _ _).set hk _ _
end Go.Proofs.Ythehmmhnacomkaa

namespace Go.Proofs.Ythehmmhnacomkaa
open Go.RowKit
theorem nv_mul_mod (n c : Int) : nv (n % MM * c) = nv (n * c) := by
 rw [← nv_mod (n % MM * c), ← nv_mod (n * c), Int.mul_emod, Int.emod_emod, ← Int.mul_emod]
def TT (w wr : World) (b : Nat) (n : Int) : Prop := Mo w wr ∧ w.heap.size < b ∧ b < wr.heap.size ∧ At4 wr w.heap.size 0 0 0 0 ∧ Fz wr w.heap.size ∧ At4 wr b (l0 n) (l1 n) (l2 n) (l3 n) ∧ Fz wr b
theorem TT.mo {w wr w1 : World} {b : Nat} {n : Int} (h : TT w wr b n) (m : Mo wr w1) : TT w w1 b n := by
 obtain ⟨h1, h2, h3, h4, h5, h6, h7⟩ := h
 have := m.size
 exact ⟨h1.trans m, h2, by omega, h4.mo m (by omega), h5.mo m, h6.mo m h3, h7.mo m⟩
theorem TT.put {w w1 : World} {b : Nat} {n q : Int} (h : TT w w1 b n) : TT w ((((w1.setCell ⟨b, 0, none⟩ (.int .u64 (l0 q))).setCell ⟨b, 1, none⟩ (.int .u64 (l1 q))).setCell ⟨b, 2, none⟩ (.int .u64 (l2 q))).setCell ⟨b, 3, none⟩ (.int .u64 (l3 q))) b q := by
 obtain ⟨h1, h2, h3, ⟨c0, c1, c2, c3⟩, h5, ⟨b0, b1, b2, b3⟩, h7⟩ := h
 have ne : ¬ w.heap.size = b := by omega
 have le : w.heap.size ≤ b := by omega
 refine ⟨(((h1.setCell le _).setCell le _).setCell le _).setCell le _, h2, by simpa [World.setCell] using h3, ?_, ?_, ?_, ?_⟩
 ·simp [At4, go_sem, *]
 ·intro o; simp [World.frozen?_setCell, h5 o]
 ·simp [At4, go_sem, *]
 ·intro o; simp [World.frozen?_setCell, h7 o]

set_option maxHeartbeats 1000000 in
theorem ten_yes (n : Nat) (w : World) (h7 : n ≤ 77) :
  Calls Try.prog 83 #[.int .i64 n] w fun e w' => e = .returned (.tuple #[nv (10 ^ n), .bool true]) ∧ Mo w w' := by
 have e1 : nv 1 = .agg #[.int .u64 1, .int .u64 0, .int .u64 0, .int .u64 0] := by simp [nv, l0, l1, l2, l3]
 have hn : ¬ ((n : Int) < 0) := by omega
 have hn7 : ¬ (77 < (n : Int)) := by omega
 go_enter Try.func83, Try.ntmps83
 go_wp2_with fail
 refine (from20_any 1 _ ⟨by decide, by decide⟩).mono ?_
 rintro e w1 ⟨rfl, hm⟩
 have hz := hm.size
 simp only [World.size_alloc] at hz
 have hA : At4 w1 w.heap.size 0 0 0 0 := At4.mo (by simp [At4, go_sem]) hm (by simp)
 have hF : Fz w1 w.heap.size := Fz.mo (fun o => by simp [go_sem]) hm
 have hM : Mo w w1 := ((Mo.refl _).alloc _ _).trans hm
 have hS : TT w (w1.alloc (.cells #[.int .u64 (l0 1), .int .u64 (l1 1), .int .u64 (l2 1), .int .u64 (l3 1)] 31)) w1.heap.size 1 := by
  have z : w.heap.size < w1.heap.size := by omega
  exact ⟨hM.alloc _ _, z, by simp, hA.mo ((Mo.refl _).alloc _ _) z, hF.mo ((Mo.refl _).alloc _ _), by simp [At4, go_sem], fun o => by simp [go_sem]⟩
 have HS : Hid _ := hS
 clear hS hA hF e1
 go_wp2
 go_loopw [14] (fun i wr => ∃ k : Nat, k ≤ n ∧ i = .int .i64 k ∧ TT w wr w1.heap.size (10 ^ k)) (fun i _ => n - (intOf i).toNat)
 case atStart => exact ⟨0, Nat.zero_le _, rfl, HS.out⟩
 case round =>
  obtain ⟨k, hk, rfl, ht⟩ := hrel
  by_cases hlt : k < n
  ·have ht0 := ht
   obtain ⟨g1, g2, g3, ⟨c0, c1, c2, c3⟩, g5, ⟨b0, b1, b2, b3⟩, g7⟩ := ht
   clear g5 g7
   go_wp2_with fail
   refine (mulLimb_any (l0 (10 ^ k)) (l1 (10 ^ k)) (l2 (10 ^ k)) (l3 (10 ^ k)) 10 _ (u4_lb _) ⟨by decide, by decide⟩).mono ?_
   rintro e w2 ⟨rfl, hm2⟩
   rw [vl_nv, nv_mul_mod, ← Int.pow_succ]
   have t1 := ht0.mo hm2
   have t3 := t1.put (q := 10 ^ (k + 1))
   clear b0 b1 b2 b3 c0 c1 c2 c3 g1 g2 g3
   obtain ⟨g1, g2, g3, ⟨c0, c1, c2, c3⟩, g5, ⟨b0, b1, b2, b3⟩, g7⟩ := t1
   have g7 := fun o => g7 o
   clear g5
   go_wp2
   go_roundw
   case rel => exact ⟨k + 1, by omega, by go_num, t3⟩
   case measure => simp [intOf]; omega
  ·have hkn : k = n := by omega
   subst hkn
   obtain ⟨g1, g2, g3, ⟨c0, c1, c2, c3⟩, g5, ⟨b0, b1, b2, b3⟩, g7⟩ := ht
   have g5 := fun o => g5 o
   go_wp2
   refine bodyPost_ret (v := .tuple #[nv (10 ^ k), .bool true]) (by simp [results, Try.results83, go_sem, c0, c1, c2, c3]) rfl ?_
   refine ⟨rfl, ?_⟩
   exact (((g1.setCell (Nat.le_refl _) _).setCell (Nat.le_refl _) _).setCell (Nat.le_refl _) _).setCell (Nat.le_refl _) _
end Go.Proofs.Ythehmmhnacomkaa

namespace Go.Proofs.Ythehmmhnacomkaa
open Go.RowKit
theorem zero4 {q : Int} (h0 : 0 ≤ q) (h : q < MM) : (l0 q == 0 && (l1 q == 0 && (l2 q == 0 && l3 q == 0))) = decide (q = 0) := by
 have e := vl_lb q h0 h
 rw [Bool.eq_iff_iff]
 simp
 constructor
 ·rintro ⟨a, b, c, d⟩; rw [a, b, c, d] at e; rw [← e]; rfl
 ·rintro rfl; decide
end Go.Proofs.Ythehmmhnacomkaa

namespace Go.Proofs.Ythehmmhnacomkaa
open Go.RowKit
theorem mul_n (A B : Int) (w : World) (hA0 : 0 ≤ A) (hAM : A < MM) (hB0 : 0 ≤ B) (hBM : B < MM) :
  Calls Try.prog 82 #[nv A, nv B] w fun e w' => e = .returned (.tuple #[nv (A * B / MM), nv (A * B)]) ∧ Mo w w' := by
 have h := mul_any (l0 A) (l1 A) (l2 A) (l3 A) (l0 B) (l1 B) (l2 B) (l3 B) w (u4_lb A) (u4_lb B)
 rw [vl_lb A hA0 hAM, vl_lb B hB0 hBM] at h
 exact h
theorem add_n (A B : Int) (w : World) (hA0 : 0 ≤ A) (hAM : A < MM) (hB0 : 0 ≤ B) (hBM : B < MM) :
  Calls Try.prog 87 #[nv A, nv B] w fun e w' => e = .returned (.tuple #[nv (A + B), .bool (ov (A + B))]) ∧ Mo w w' := by
 have h := add_any (l0 A) (l1 A) (l2 A) (l3 A) (l0 B) (l1 B) (l2 B) (l3 B) w (u4_lb A) (u4_lb B)
 rw [vl_lb A hA0 hAM, vl_lb B hB0 hBM] at h
 exact h
theorem cmp_n (A B : Int) (w : World) (hA0 : 0 ≤ A) (hAM : A < MM) (hB0 : 0 ≤ B) (hBM : B < MM) :
  Calls Try.prog 66 #[nv A, nv B] w fun e w' => e = .returned (.int .i64 (cm A B)) ∧ Mo w w' := by
 have h := cmp15_any (l0 A) (l1 A) (l2 A) (l3 A) (l0 B) (l1 B) (l2 B) (l3 B) w (u4_lb A) (u4_lb B)
 rw [vl_lb A hA0 hAM, vl_lb B hB0 hBM] at h
 exact h
theorem div_n (H L D : Int) (w : World) (hH0 : 0 ≤ H) (hHM : H < MM) (hL0 : 0 ≤ L) (hLM : L < MM) (hD0 : 0 ≤ D) (hDM : D < MM) :
  Calls Try.prog 85 #[nv H, nv L, nv D] w fun e w' => e = .returned (.tuple #[nv (dq H L D), nv (dr H L D), .bool (dok H D)]) ∧ Mo w w' := by
 have h := div_any (l0 H) (l1 H) (l2 H) (l3 H) (l0 L) (l1 L) (l2 L) (l3 L) (l0 D) (l1 D) (l2 D) (l3 D) w (u4_lb H) (u4_lb L) (u4_lb D)
 rw [vl_lb H hH0 hHM, vl_lb L hL0 hLM, vl_lb D hD0 hDM] at h
 exact h
end Go.Proofs.Ythehmmhnacomkaa

namespace Go.Proofs.Ythehmmhnacomkaa
open Go.RowKit
abbrev dc (b : Bool) (n s : Int) : Value := .agg #[.bool b, .int .u64 (l0 n), .int .u64 (l1 n), .int .u64 (l2 n), .int .u64 (l3 n), .int .i64 s]
abbrev dw (X : Int) : Value := .agg #[.int .u64 (l0 (X / MM)), .int .u64 (l1 (X / MM)), .int .u64 (l2 (X / MM)), .int .u64 (l3 (X / MM)), .int .u64 (l0 X), .int .u64 (l1 X), .int .u64 (l2 X), .int .u64 (l3 X)]
def AtD (w : World) (k : Nat) (b : Bool) (n s : Int) : Prop := (w.cell? ⟨k, 0, none⟩ = some (.bool b) ∧ w.cell? ⟨k, 1, none⟩ = some (.int .u64 (l0 n)) ∧ w.cell? ⟨k, 2, none⟩ = some (.int .u64 (l1 n)) ∧ w.cell? ⟨k, 3, none⟩ = some (.int .u64 (l2 n)) ∧ w.cell? ⟨k, 4, none⟩ = some (.int .u64 (l3 n)) ∧ w.cell? ⟨k, 5, none⟩ = some (.int .i64 s)) ∧ Fz w k ∧ k < w.heap.size
theorem AtD.mo {w w' : World} {k : Nat} {b : Bool} {n s : Int} (h : AtD w k b n s) (m : Mo w w') : AtD w' k b n s := by
 obtain ⟨c, f, z⟩ := h
 refine ⟨?_, f.mo m, Nat.lt_of_lt_of_le z m.size⟩
 simp only [m.cell k _ z]; exact c
def AtW (w : World) (k : Nat) (X : Int) : Prop := (w.cell? ⟨k, 0, none⟩ = some (.int .u64 (l0 (X / MM))) ∧ w.cell? ⟨k, 1, none⟩ = some (.int .u64 (l1 (X / MM))) ∧ w.cell? ⟨k, 2, none⟩ = some (.int .u64 (l2 (X / MM))) ∧ w.cell? ⟨k, 3, none⟩ = some (.int .u64 (l3 (X / MM))) ∧ w.cell? ⟨k, 4, none⟩ = some (.int .u64 (l0 X)) ∧ w.cell? ⟨k, 5, none⟩ = some (.int .u64 (l1 X)) ∧ w.cell? ⟨k, 6, none⟩ = some (.int .u64 (l2 X)) ∧ w.cell? ⟨k, 7, none⟩ = some (.int .u64 (l3 X))) ∧ Fz w k ∧ k < w.heap.size
theorem AtW.mo {w w' : World} {k : Nat} {X : Int} (h : AtW w k X) (m : Mo w w') : AtW w' k X := by
 obtain ⟨c, f, z⟩ := h
 refine ⟨?_, f.mo m, Nat.lt_of_lt_of_le z m.size⟩
 simp only [m.cell k _ z]; exact c

def sc (s : Int) : Bool := decide (0 ≤ s) && decide (s ≤ 18)
set_option maxHeartbeats 1000000 in
theorem isScale_n (s : Int) (w : World) : Calls Try.prog 49 #[.int .i64 s] w fun e w' => e = .returned (.bool (sc s)) ∧ Mo w w' := by
 by_cases h : 0 ≤ s
 ·have h1 : decide (s ≥ 0) = true := decide_eq_true h
  have e : sc s = decide (s ≤ 18) := by unfold sc; rw [decide_eq_true h]; rfl
  rw [e]
  go_enter Try.func49, Try.ntmps49
  go_wp2
  go_ret
  exact ⟨rfl, Mo.refl _⟩
 ·have h1 : decide (s ≥ 0) = false := decide_eq_false h
  have e : sc s = false := by unfold sc; rw [decide_eq_false h]; rfl
  rw [e]
  go_enter Try.func49, Try.ntmps49
  go_wp2
  go_ret
  exact ⟨rfl, Mo.refl _⟩
theorem zb {n : Int} (h0 : 0 ≤ n) (h : n < MM) : (l0 n == 0 && (l1 n == 0 && (l2 n == 0 && l3 n == 0))) = decide (n = 0) := zero4 h0 h
def ck (b : Bool) (n s : Int) : Int := if sc s && !(b && decide (n = 0)) then 0 else 20
set_option maxHeartbeats 2000000 in
theorem check_n (b : Bool) (n s : Int) (w : World) (hn0 : 0 ≤ n) (hn : n < MM) : Calls Try.prog 29 #[dc b n s] w fun e w' => e = .returned (.int .i64 (ck b n s)) ∧ Mo w w' := by
 have q4 := eq4
 have z4 := zb hn0 hn
 have Q : AtD (w.alloc (.cells #[.bool b, .int .u64 (l0 n), .int .u64 (l1 n), .int .u64 (l2 n), .int .u64 (l3 n), .int .i64 s] 33)) w.heap.size b n s := ⟨by simp [go_sem], fun o => by simp [go_sem], by simp⟩
 go_enter Try.func29, Try.ntmps29
 go_wp2_with fail
 refine (isScale_n s _).mono ?_
 rintro e w1 ⟨rfl, hm1⟩
 have M1 : Mo w w1 := ((Mo.refl _).alloc _ _).trans hm1
 obtain ⟨⟨a0, a1, a2, a3, a4, a5⟩, _, sz⟩ := Q.mo hm1
 clear Q hm1
 cases hs : sc s <;> cases hb : b <;> cases hz : decide (n = 0)
 all_goals
  rw [hz] at z4
  go_wp2
  go_ret
  exact ⟨by simp [ck, *], M1⟩
end Go.Proofs.Ythehmmhnacomkaa

namespace Go.Proofs.Ythehmmhnacomkaa
open Go.RowKit
set_option maxHeartbeats 2000000 in
theorem signed_n (b : Bool) (n s : Int) (w : World) (hn0 : 0 ≤ n) (hn : n < MM) :
  Calls Try.prog 84 #[.bool b, nv n, .int .i64 s] w fun e w' => e = .returned (dc (b && !decide (n = 0)) n s) ∧ Mo w w' := by
 have q4 := eq4
 have z4 := zb hn0 hn
 go_enter Try.func84, Try.ntmps84
 cases hb : b <;> cases hz : decide (n = 0)
 all_goals
  rw [hz] at z4
  go_wp2
  go_region
  all_goals
   go_wp2
   refine bodyPost_ret (by simp [results, Try.results84, go_sem]; rfl) rfl ?_
   refine ⟨by simp, ?_⟩
   repeat (first | with_reducible exact Mo.refl _ | with_reducible apply Mo.drew | with_reducible apply Mo.drewN | with_reducible apply Mo.alloc | with_reducible refine Mo.setCell ?_ (by simp <;> omega) _)
set_option maxHeartbeats 2000000 in
theorem dten_n (k : Nat) (w : World) (hk : k ≤ 77) : Calls Try.prog 68 #[.int .i64 (k : Int)] w fun e w' => e = .returned (nv (10 ^ k)) ∧ Mo w w' := by
 go_enter Try.func68, Try.ntmps68
 go_wp2_with fail
 refine (ten_yes k _ hk).mono ?_
 rintro e w1 ⟨rfl, hm1⟩
 have M1 : Mo w w1 := ((Mo.refl _).alloc _ _).trans hm1
 have Q1 : At0 w1 w.heap.size := At0.mo ⟨by simp [At4, go_sem], fun o => by simp [go_sem], by simp <;> omega⟩ hm1
 obtain ⟨⟨a0, a1, a2, a3⟩, fa, sa⟩ := Q1
 have fa := fun o => fa o
 go_wp2
 refine bodyPost_ret (v := nv (10 ^ k)) (by simp [results, Try.results68, go_sem, *]) rfl ?_
 refine ⟨rfl, ?_⟩
 repeat (first | with_reducible exact M1 | with_reducible apply Mo.drew | with_reducible apply Mo.drewN | with_reducible apply Mo.alloc | with_reducible refine Mo.setCell ?_ (by simp <;> omega) _)
theorem zl0 : l0 0 = 0 := rfl
theorem zl1 : l1 0 = 0 := rfl
theorem zl2 : l2 0 = 0 := rfl
theorem zl3 : l3 0 = 0 := rfl
set_option maxHeartbeats 2000000 in
theorem mulDouble_n (A B : Int) (w : World) (hA0 : 0 ≤ A) (hAM : A < MM) (hB0 : 0 ≤ B) (hBM : B < MM) :
  Calls Try.prog 67 #[nv A, nv B] w fun e w' => e = .returned (dw (A * B)) ∧ Mo w w' := by
 go_enter Try.func67, Try.ntmps67
 go_wp2_with fail
 refine (mul_n A B _ hA0 hAM hB0 hBM).mono ?_
 rintro e w1 ⟨rfl, hm1⟩
 have m : Mo w w1 := Mo.trans (by repeat (first | with_reducible exact Mo.refl _ | with_reducible apply Mo.drew | with_reducible apply Mo.alloc)) hm1
 have M := m
 have Qr : AtW w1 (w.heap.size + 1 + 1) 0 := AtW.mo ⟨by simp [go_sem, zl0, zl1, zl2, zl3], fun o => by simp [go_sem], by simp <;> omega⟩ hm1
 clear hm1 m
 have Or := Qr
 obtain ⟨⟨cr0, cr1, cr2, cr3, cr4, cr5, cr6, cr7⟩, fr, sr⟩ := Or
 have fr := fun o => fr o
 have sxr : w.heap.size + 1 + 1 < w1.heap.size + 1 := by omega
 have syr : w.heap.size + 1 + 1 < w1.heap.size + 1 + 1 := by omega
 have a : Mo w1 ((((w1).alloc (.cells #[.int .u64 (l0 (A * B / MM)), .int .u64 (l1 (A * B / MM)), .int .u64 (l2 (A * B / MM)), .int .u64 (l3 (A * B / MM))] 31))).alloc (.cells #[.int .u64 (l0 (A * B)), .int .u64 (l1 (A * B)), .int .u64 (l2 (A * B)), .int .u64 (l3 (A * B))] 31)) := by repeat (first | with_reducible exact Mo.refl _ | with_reducible apply Mo.alloc)
 clear cr0 cr1 cr2 cr3 cr4 cr5 cr6 cr7 fr sr sxr syr
 have Qr := Qr.mo a
 have M := M.trans a
 have Qh : AtN ((((w1).alloc (.cells #[.int .u64 (l0 (A * B / MM)), .int .u64 (l1 (A * B / MM)), .int .u64 (l2 (A * B / MM)), .int .u64 (l3 (A * B / MM))] 31))).alloc (.cells #[.int .u64 (l0 (A * B)), .int .u64 (l1 (A * B)), .int .u64 (l2 (A * B)), .int .u64 (l3 (A * B))] 31)) (w1.heap.size) (A * B / MM) := ⟨by simp [At4, go_sem], fun o => by simp [go_sem], by simp <;> omega⟩
 have Ql : AtN ((((w1).alloc (.cells #[.int .u64 (l0 (A * B / MM)), .int .u64 (l1 (A * B / MM)), .int .u64 (l2 (A * B / MM)), .int .u64 (l3 (A * B / MM))] 31))).alloc (.cells #[.int .u64 (l0 (A * B)), .int .u64 (l1 (A * B)), .int .u64 (l2 (A * B)), .int .u64 (l3 (A * B))] 31)) (w1.heap.size + 1) (A * B) := ⟨by simp [At4, go_sem], fun o => by simp [go_sem], by simp <;> omega⟩
 clear a
 go_upto_region 2 with fail
 generalize ((((w1).alloc (.cells #[.int .u64 (l0 (A * B / MM)), .int .u64 (l1 (A * B / MM)), .int .u64 (l2 (A * B / MM)), .int .u64 (l3 (A * B / MM))] 31))).alloc (.cells #[.int .u64 (l0 (A * B)), .int .u64 (l1 (A * B)), .int .u64 (l2 (A * B)), .int .u64 (l3 (A * B))] 31)) = W0 at *
 have Or := Qr
 obtain ⟨⟨cr0, cr1, cr2, cr3, cr4, cr5, cr6, cr7⟩, fr, sr⟩ := Or
 have fr := fun o => fr o
 have sxr : w.heap.size + 1 + 1 < W0.heap.size + 1 := by omega
 have syr : w.heap.size + 1 + 1 < W0.heap.size + 1 + 1 := by omega
 have Oh := Qh
 obtain ⟨⟨ch0, ch1, ch2, ch3⟩, fh, sh⟩ := Oh
 have fh := fun o => fh o
 have sxh : w1.heap.size < W0.heap.size + 1 := by omega
 have syh : w1.heap.size < W0.heap.size + 1 + 1 := by omega
 have Ol := Ql
 obtain ⟨⟨cl0, cl1, cl2, cl3⟩, fl, sl⟩ := Ol
 have fl := fun o => fl o
 have sxl : w1.heap.size + 1 < W0.heap.size + 1 := by omega
 have syl : w1.heap.size + 1 < W0.heap.size + 1 + 1 := by omega
 go_wp2
 refine bodyPost_ret (v := dw (A * B)) (by simp [results, Try.results67, go_sem, *]) rfl ?_
 refine ⟨rfl, ?_⟩
 repeat (first | with_reducible exact M | with_reducible exact Mo.refl _ | with_reducible apply Mo.drew | with_reducible apply Mo.drewN | with_reducible apply Mo.alloc | with_reducible refine Mo.setCell ?_ (by simp <;> omega) _)
end Go.Proofs.Ythehmmhnacomkaa

namespace Go.Proofs.Ythehmmhnacomkaa
open Go.RowKit
theorem eq4d (d : Nat) (a b c e f g h i : Int) (w : World) : (Op.equalIn (d + 1 + 1) 31 (.agg #[.int .u64 a, .int .u64 b, .int .u64 c, .int .u64 e]) (.agg #[.int .u64 f, .int .u64 g, .int .u64 h, .int .u64 i])).run Try.prog w = .ok (a == f && (b == g && (c == h && e == i))) w := by
 obtain ⟨j, hj⟩ := info22
 rw [run_equalIn_array w (d + 1) _ _ Try.underlying31 hj, cells22]
 have q : ∀ (x y : Int), (Op.equalIn (d + 1) 29 (.int .u64 x) (.int .u64 y)).run Try.prog w = .ok (x == y) w := fun x y => run_equalIn_int w d 29 .u64 .u64 x y Try.underlying29
 rw [show List.range 4 = [0, 1, 2, 3] from rfl]
 cases ha : a == f <;> cases hb : b == g <;> cases hc : c == h <;> cases hd : e == i <;> simp [Op.eqItems, Sem.run_bind, part0, part1, part2, part3, Result.andThen_ok, q, ha, hb, hc, hd, Sem.run_pure]
theorem ht81 : Try.prog.underlying 74 = some (.struct (Try.prog.fieldsOf 74)) := by kernel_rfl
theorem hp81 : Try.prog.stoodInHeld 74 = false := by kernel_rfl
theorem fo81 : (Try.prog.fieldsOf 74).toList.map (fun f => (f.name, f.type, f.offset)) = [("high", 31, 0), ("low", 31, 4)] := by kernel_rfl
theorem pt80 (x0 x1 x2 x3 x4 x5 x6 x7 : Value) (w : World) : (part 31 #[x0, x1, x2, x3, x4, x5, x6, x7] 0).run Try.prog w = .ok (.agg #[x0, x1, x2, x3]) w := by kernel_rfl
theorem pt84 (x0 x1 x2 x3 x4 x5 x6 x7 : Value) (w : World) : (part 31 #[x0, x1, x2, x3, x4, x5, x6, x7] 4).run Try.prog w = .ok (.agg #[x4, x5, x6, x7]) w := by kernel_rfl
theorem eq81n (a0 a1 a2 a3 a4 a5 a6 a7 b0 b1 b2 b3 b4 b5 b6 b7 : Int) (w : World) : (Op.equalIn 10000 74 (.agg #[.int .u64 a0, .int .u64 a1, .int .u64 a2, .int .u64 a3, .int .u64 a4, .int .u64 a5, .int .u64 a6, .int .u64 a7]) (.agg #[.int .u64 b0, .int .u64 b1, .int .u64 b2, .int .u64 b3, .int .u64 b4, .int .u64 b5, .int .u64 b6, .int .u64 b7])).run Try.prog w = .ok ((a0 == b0 && (a1 == b1 && (a2 == b2 && a3 == b3))) && (a4 == b4 && (a5 == b5 && (a6 == b6 && a7 == b7)))) w := by
 rw [show (10000 : Nat) = 9999 + 1 from rfl, run_equalIn_struct w 9999 74 _ _ ht81 hp81]
 have h := fo81
 generalize (Try.prog.fieldsOf 74).toList = L at h
 have hl : L.length = 2 := by have := congrArg List.length h; simpa using this
 match L, hl with
 | [f0, f1], _ =>
  simp at h
  obtain ⟨⟨x0, x1, x2⟩, ⟨y0, y1, y2⟩⟩ := h
  have q1 := eq4d 9997 a0 a1 a2 a3 b0 b1 b2 b3 w
  have q2 := eq4d 9997 a4 a5 a6 a7 b4 b5 b6 b7 w
  generalize hz : (a0 == b0 && (a1 == b1 && (a2 == b2 && a3 == b3))) = z at q1 ⊢
  generalize hz : (a4 == b4 && (a5 == b5 && (a6 == b6 && a7 == b7))) = y at q2 ⊢
  simp only [Op.eqFields, x0, x1, x2, y0, y1, y2]
  cases z <;> cases y <;> simp [Sem.run_bind, pt80, pt84, Result.andThen_ok, q1, q2, Sem.run_pure]
theorem limbs_eq {n m : Int} (hn0 : 0 ≤ n) (hn : n < MM) (hm0 : 0 ≤ m) (hm : m < MM) : (l0 n == l0 m && (l1 n == l1 m && (l2 n == l2 m && l3 n == l3 m))) = decide (n = m) := by
 rw [Bool.eq_iff_iff]
 simp
 constructor
 ·rintro ⟨a, b, c, d⟩; exact nv_inj hn0 hn hm0 hm ⟨a, b, c, d⟩
 ·rintro rfl; exact ⟨rfl, rfl, rfl, rfl⟩
theorem l0_mod (n : Int) : l0 (n % MM) = l0 n := by unfold l0 MM; omega
theorem l1_mod (n : Int) : l1 (n % MM) = l1 n := by unfold l1 MM; omega
theorem l2_mod (n : Int) : l2 (n % MM) = l2 n := by unfold l2 MM; omega
theorem l3_mod (n : Int) : l3 (n % MM) = l3 n := by unfold l3 MM; omega
theorem wide_eqn {X Y : Int} (hX0 : 0 ≤ X) (hX : X < MM * MM) (hY0 : 0 ≤ Y) (hY : Y < MM * MM) : ((l0 (X / MM) == l0 (Y / MM) && (l1 (X / MM) == l1 (Y / MM) && (l2 (X / MM) == l2 (Y / MM) && l3 (X / MM) == l3 (Y / MM)))) && (l0 X == l0 Y && (l1 X == l1 Y && (l2 X == l2 Y && l3 X == l3 Y)))) = decide (X = Y) := by
 have p : (0 : Int) < MM := by decide
 rw [limbs_eq (Int.ediv_nonneg hX0 (by omega)) (Int.ediv_lt_of_lt_mul p hX) (Int.ediv_nonneg hY0 (by omega)) (Int.ediv_lt_of_lt_mul p hY), ← l0_mod X, ← l1_mod X, ← l2_mod X, ← l3_mod X, ← l0_mod Y, ← l1_mod Y, ← l2_mod Y, ← l3_mod Y, limbs_eq (Int.emod_nonneg _ (by omega)) (Int.emod_lt_of_pos _ p) (Int.emod_nonneg _ (by omega)) (Int.emod_lt_of_pos _ p)]
 rw [Bool.eq_iff_iff]
 simp
 constructor
 ·rintro ⟨a, b⟩
  rw [← Int.mul_ediv_add_emod X MM, ← Int.mul_ediv_add_emod Y MM, a, b]
 ·rintro rfl; exact ⟨rfl, rfl⟩
theorem eq81 (a0 a1 a2 a3 a4 a5 a6 a7 b0 b1 b2 b3 b4 b5 b6 b7 : Int) (w : World) : (Op.equalIn 10000 74 (.agg #[.int .u64 a0, .int .u64 a1, .int .u64 a2, .int .u64 a3, .int .u64 a4, .int .u64 a5, .int .u64 a6, .int .u64 a7]) (.agg #[.int .u64 b0, .int .u64 b1, .int .u64 b2, .int .u64 b3, .int .u64 b4, .int .u64 b5, .int .u64 b6, .int .u64 b7])).run Try.prog w = .ok (a0 == b0 && (a1 == b1 && (a2 == b2 && (a3 == b3 && (a4 == b4 && (a5 == b5 && (a6 == b6 && a7 == b7))))))) w := by
 rw [eq81n]; simp only [Bool.and_assoc]
theorem wide_eq {X Y : Int} (hX0 : 0 ≤ X) (hX : X < MM * MM) (hY0 : 0 ≤ Y) (hY : Y < MM * MM) : (l0 (X / MM) == l0 (Y / MM) && (l1 (X / MM) == l1 (Y / MM) && (l2 (X / MM) == l2 (Y / MM) && (l3 (X / MM) == l3 (Y / MM) && (l0 X == l0 Y && (l1 X == l1 Y && (l2 X == l2 Y && l3 X == l3 Y))))))) = decide (X = Y) := by
 rw [← wide_eqn hX0 hX hY0 hY]; simp only [Bool.and_assoc]
end Go.Proofs.Ythehmmhnacomkaa

