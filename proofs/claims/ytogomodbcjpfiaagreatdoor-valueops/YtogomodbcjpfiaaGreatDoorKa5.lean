/-
  A part of the proof.
-/
import Derived.Test.YtogomodbcjpfiaaGreatDoorKa1
import Derived.Test.YtogomodbcjpfiaaGreatDoorProg
import Derived.WalkKit
import Derived.WalkSpells
import Derived.Handy
import Derived.BigQuiet
import Derived.Deep.RegionHeld3
import Derived.Test.YtogomodbcjpfiaaGreatDoorKa4
import Derived.Shelf.Small.Bits
import Derived.Shelf.Strconv.Itoa0
import Derived.Shelf.Bits.Mul64
import Derived.Deep.CutBlock
import Derived.Deep.CutRange
namespace Go.Proofs.YtogomodbcjpfiaaGreatDoor
open Go.RowKit
def AtN (w : World) (k : Nat) (n : Int) : Prop := At4 w k (l0 n) (l1 n) (l2 n) (l3 n) ∧ Fz w k ∧ k < w.heap.size
abbrev st4 (w : World) (k : Nat) (z : Int) : World := (((w.setCell ⟨k, 0, none⟩ (.int .u64 (l0 z))).setCell ⟨k, 1, none⟩ (.int .u64 (l1 z))).setCell ⟨k, 2, none⟩ (.int .u64 (l2 z))).setCell ⟨k, 3, none⟩ (.int .u64 (l3 z))
theorem AtN.mo {w w' : World} {k : Nat} {n : Int} (h : AtN w k n) (m : Mo w w') : AtN w' k n :=
 ⟨h.1.mo m h.2.2, h.2.1.mo m, Nat.lt_of_lt_of_le h.2.2 m.size⟩
theorem AtN.same {w : World} {k : Nat} {n : Int} (h : AtN w k n) (z : Int) : AtN (st4 w k z) k z := by
 obtain ⟨⟨b0, b1, b2, b3⟩, f, s⟩ := h
 refine ⟨by simp [At4, go_sem, *], fun o => by simp [World.frozen?_setCell, f o], by simpa [World.setCell] using s⟩
theorem AtN.other {w : World} {k j : Nat} {n : Int} (h : AtN w j n) (hk : j ≠ k) (z : Int) : AtN (st4 w k z) j n := by
 obtain ⟨⟨b0, b1, b2, b3⟩, f, s⟩ := h
 refine ⟨by simp [At4, go_sem, *], fun o => by simp [World.frozen?_setCell, f o], by simpa [World.setCell] using s⟩
theorem AtN.new (w : World) (n : Int) : AtN (w.alloc (.cells #[.int .u64 (l0 n), .int .u64 (l1 n), .int .u64 (l2 n), .int .u64 (l3 n)] 24)) w.heap.size n :=
 ⟨by simp [At4, go_sem], fun o => by simp [go_sem], by simp⟩
theorem Mo.st4 {a b : World} (h : Mo a b) {k : Nat} (hk : a.heap.size ≤ k) (z : Int) : Mo a (st4 b k z) :=
 (((h.setCell hk _).setCell hk _).setCell hk _).setCell hk _
def VW (w wx : World) (h l d : Int) : Prop := Mo w wx ∧ AtN wx w.heap.size h ∧ AtN wx (w.heap.size + 1) l ∧ AtN wx (w.heap.size + 1 + 1) d ∧ AtN wx (w.heap.size + 1 + 1 + 1) 0 ∧ AtN wx (w.heap.size + 1 + 1 + 1 + 1) 0
theorem VW.mo {w wx w1 : World} {h l d : Int} (v : VW w wx h l d) (m : Mo wx w1) : VW w w1 h l d := by
 obtain ⟨v1, v2, v3, v4, v5, v6⟩ := v
 exact ⟨v1.trans m, v2.mo m, v3.mo m, v4.mo m, v5.mo m, v6.mo m⟩
theorem VW.setd {w wx : World} {h l d : Int} (v : VW w wx h l d) (z : Int) : VW w (st4 wx (w.heap.size + 1 + 1) z) h l z := by
 obtain ⟨v1, v2, v3, v4, v5, v6⟩ := v
 exact ⟨v1.st4 (by omega) z, v2.other (by omega) z, v3.other (by omega) z, v4.same z, v5.other (by omega) z, v6.other (by omega) z⟩
theorem VW.setl {w wx : World} {h l d : Int} (v : VW w wx h l d) (z : Int) : VW w (st4 wx (w.heap.size + 1) z) h z d := by
 obtain ⟨v1, v2, v3, v4, v5, v6⟩ := v
 exact ⟨v1.st4 (by omega) z, v2.other (by omega) z, v3.same z, v4.other (by omega) z, v5.other (by omega) z, v6.other (by omega) z⟩
theorem VW.setk {w wx : World} {h l d : Int} (v : VW w wx h l d) {k : Nat} (hk : w.heap.size + 1 + 1 + 1 + 1 < k) (z : Int) : VW w (st4 wx k z) h l d := by
 obtain ⟨v1, v2, v3, v4, v5, v6⟩ := v
 exact ⟨v1.st4 (by omega) z, v2.other (by omega) z, v3.other (by omega) z, v4.other (by omega) z, v5.other (by omega) z, v6.other (by omega) z⟩
theorem VW.start (w : World) (h l d : Int) : VW w (((((w.alloc (.cells #[.int .u64 (l0 h), .int .u64 (l1 h), .int .u64 (l2 h), .int .u64 (l3 h)] 24)).alloc (.cells #[.int .u64 (l0 l), .int .u64 (l1 l), .int .u64 (l2 l), .int .u64 (l3 l)] 24)).alloc (.cells #[.int .u64 (l0 d), .int .u64 (l1 d), .int .u64 (l2 d), .int .u64 (l3 d)] 24)).alloc (.cells #[.int .u64 0, .int .u64 0, .int .u64 0, .int .u64 0] 24)).alloc (.cells #[.int .u64 0, .int .u64 0, .int .u64 0, .int .u64 0] 24)) h l d := by
 have z0 : l0 0 = 0 := by decide
 have z1 : l1 0 = 0 := by decide
 have z2 : l2 0 = 0 := by decide
 have z3 : l3 0 = 0 := by decide
 refine ⟨(((((Mo.refl _).alloc _ _).alloc _ _).alloc _ _).alloc _ _).alloc _ _, ⟨by simp [At4, go_sem], fun o => by simp [go_sem], by simp <;> omega⟩, ⟨by simp [At4, go_sem], fun o => by simp [go_sem], by simp <;> omega⟩, ⟨by simp [At4, go_sem], fun o => by simp [go_sem], by simp <;> omega⟩, ⟨by simp [At4, go_sem, z0, z1, z2, z3], fun o => by simp [go_sem], by simp <;> omega⟩, ⟨by simp [At4, go_sem, z0, z1, z2, z3], fun o => by simp [go_sem], by simp <;> omega⟩⟩

theorem dshift {D : Int} (h0 : 0 < D) (h : D < MM) : ∃ s : Nat, 256 - bln D = (s : Int) ∧ s ≤ 255 ∧ D * 2 ^ s < MM ∧ 57896044618658097711785492504343953926634992332820282019728792003956564819968 ≤ D * 2 ^ s := by
 obtain ⟨m, rfl⟩ := Int.eq_ofNat_of_zero_le (show 0 ≤ D by omega)
 have ne : m ≠ 0 := by omega
 have a1 := Nat.log2_self_le ne
 have a2 := @Nat.lt_log2_self m
 have lt : Nat.log2 m < 256 := (Nat.log2_lt ne).2 (by unfold MM at h; omega)
 refine ⟨255 - Nat.log2 m, ?_, by omega, ?_, ?_⟩
 ·unfold bln; rw [if_neg (by omega), Int.toNat_natCast]; omega
 ·have b : m * 2 ^ (255 - Nat.log2 m) < 2 ^ (Nat.log2 m + 1) * 2 ^ (255 - Nat.log2 m) := Nat.mul_lt_mul_of_pos_right a2 (Nat.pow_pos (by decide))
  rw [← Nat.pow_add, show Nat.log2 m + 1 + (255 - Nat.log2 m) = 256 from by omega] at b
  have e : ((m * 2 ^ (255 - Nat.log2 m) : Nat) : Int) = (m : Int) * 2 ^ (255 - Nat.log2 m) := by rw [Int.natCast_mul, cast_pow]
  rw [← e]
  generalize m * 2 ^ (255 - Nat.log2 m) = z at *
  unfold MM; omega
 ·have b : 2 ^ Nat.log2 m * 2 ^ (255 - Nat.log2 m) ≤ m * 2 ^ (255 - Nat.log2 m) := Nat.mul_le_mul_right _ a1
  rw [← Nat.pow_add, show Nat.log2 m + (255 - Nat.log2 m) = 255 from by omega] at b
  have e : ((m * 2 ^ (255 - Nat.log2 m) : Nat) : Int) = (m : Int) * 2 ^ (255 - Nat.log2 m) := by rw [Int.natCast_mul, cast_pow]
  rw [← e]
  generalize m * 2 ^ (255 - Nat.log2 m) = z at *
  omega

theorem step_bd {P e D : Int} (h0 : 0 ≤ P) (h : P < D) (he : U1 e) : U1 ((P * 18446744073709551616 + e) / D) ∧ 0 ≤ (P * 18446744073709551616 + e) % D ∧ (P * 18446744073709551616 + e) % D < D ∧ D * ((P * 18446744073709551616 + e) / D) + (P * 18446744073709551616 + e) % D = P * 18446744073709551616 + e := by
 obtain ⟨a, b⟩ := he
 refine ⟨⟨Int.ediv_nonneg (by omega) (by omega), Int.ediv_lt_of_lt_mul (by omega) (by omega)⟩, Int.emod_nonneg _ (by omega), Int.emod_lt_of_pos _ (by omega), Int.mul_ediv_add_emod _ _⟩
theorem steps_eq {P4 P3 P2 P1 P0 q3 q2 q1 q0 low D : Int} (h0 : 0 ≤ P4) (h : P4 < D) (hl0 : 0 ≤ low) (hl : low < MM)
  (e3 : q3 = (P4 * 18446744073709551616 + l3 low) / D) (f3 : P3 = (P4 * 18446744073709551616 + l3 low) % D) (e2 : q2 = (P3 * 18446744073709551616 + l2 low) / D) (f2 : P2 = (P3 * 18446744073709551616 + l2 low) % D)
  (e1 : q1 = (P2 * 18446744073709551616 + l1 low) / D) (f1 : P1 = (P2 * 18446744073709551616 + l1 low) % D) (e0 : q0 = (P1 * 18446744073709551616 + l0 low) / D) (f0 : P0 = (P1 * 18446744073709551616 + l0 low) % D) :
  U4 q0 q1 q2 q3 ∧ (0 ≤ P3 ∧ P3 < D) ∧ (0 ≤ P2 ∧ P2 < D) ∧ (0 ≤ P1 ∧ P1 < D) ∧ (0 ≤ P0 ∧ P0 < D) ∧ vl q0 q1 q2 q3 = (P4 * MM + low) / D ∧ P0 = (P4 * MM + low) % D := by
 obtain ⟨u0, u1, u2, u3⟩ := u4_lb low
 obtain ⟨a3, b3, c3, d3⟩ := step_bd h0 h u3
 rw [← e3, ← f3] at d3; rw [← e3] at a3; rw [← f3] at b3 c3
 obtain ⟨a2, b2, c2, d2⟩ := step_bd b3 c3 u2
 rw [← e2, ← f2] at d2; rw [← e2] at a2; rw [← f2] at b2 c2
 obtain ⟨a1, b1, c1, d1⟩ := step_bd b2 c2 u1
 rw [← e1, ← f1] at d1; rw [← e1] at a1; rw [← f1] at b1 c1
 obtain ⟨a0, b0, c0, d0⟩ := step_bd b1 c1 u0
 rw [← e0, ← f0] at d0; rw [← e0] at a0; rw [← f0] at b0 c0
 have lw := vl_lb low hl0 hl
 have key : P4 * MM + low = P0 + D * vl q0 q1 q2 q3 := by
  have e : D * vl q0 q1 q2 q3 = D * q0 + 18446744073709551616 * (D * q1) + 340282366920938463463374607431768211456 * (D * q2) + 6277101735386680763835789423207666416102355444464034512896 * (D * q3) := by
   unfold vl; rw [Int.mul_add, Int.mul_add, Int.mul_add, Int.mul_left_comm, Int.mul_left_comm D _ q2, Int.mul_left_comm D _ q3]
  rw [e, ← lw]
  clear e e0 e1 e2 e3 f0 f1 f2 f3 lw
  unfold vl MM
  omega
 refine ⟨⟨a0, a1, a2, a3⟩, ⟨b3, c3⟩, ⟨b2, c2⟩, ⟨b1, c1⟩, ⟨b0, c0⟩, ?_, ?_⟩
 ·rw [key, Int.add_mul_ediv_left _ _ (by omega), Int.ediv_eq_zero_of_lt b0 c0, Int.zero_add]
 ·rw [key, Int.add_mul_emod_self_left, Int.emod_eq_of_lt b0 c0]
theorem shifted {H L D : Int} {s : Nat} (hs : s ≤ 255) (hH : 0 ≤ H) (hHD : H < D) (hL0 : 0 ≤ L) (hL : L < MM) :
  0 ≤ H * 2 ^ s + L / 2 ^ (256 - s) ∧ H * 2 ^ s + L / 2 ^ (256 - s) < D * 2 ^ s ∧
  ((H * 2 ^ s + L / 2 ^ (256 - s)) * MM + L * 2 ^ s % MM) / (D * 2 ^ s) = (H * MM + L) / D ∧ ((H * 2 ^ s + L / 2 ^ (256 - s)) * MM + L * 2 ^ s % MM) % (D * 2 ^ s) / 2 ^ s = (H * MM + L) % D := by
 have hP : (0 : Int) < 2 ^ s := Int.pow_pos (by decide)
 have hQ : (0 : Int) < 2 ^ (256 - s) := Int.pow_pos (by decide)
 have hPQ : (2 : Int) ^ (256 - s) * 2 ^ s = MM := by rw [← Int.pow_add, show 256 - s + s = 256 from by omega]; decide
 have lq0 : 0 ≤ L / 2 ^ (256 - s) := Int.ediv_nonneg hL0 (by omega)
 have lq : L / 2 ^ (256 - s) < 2 ^ s := Int.ediv_lt_of_lt_mul hQ (by rw [Int.mul_comm, hPQ]; exact hL)
 have hy1 : (H + 1) * 2 ^ s ≤ D * 2 ^ s := Int.mul_le_mul_of_nonneg_right (by omega) (by omega)
 rw [Int.add_mul, Int.one_mul] at hy1
 have hiP : 0 ≤ H * 2 ^ s := Int.mul_nonneg hH (by omega)
 have lop : L * 2 ^ s / MM = L / 2 ^ (256 - s) := by rw [← hPQ]; exact Int.mul_ediv_mul_of_pos_left _ _ hP
 have whole : (H * 2 ^ s + L / 2 ^ (256 - s)) * MM + L * 2 ^ s % MM = (H * MM + L) * 2 ^ s := by
  rw [Int.add_mul (H * MM), Int.mul_right_comm H MM, ← lop, Int.add_mul]
  have := Int.mul_ediv_add_emod (L * 2 ^ s) MM
  rw [Int.mul_comm MM] at this
  omega
 have div1 : (H * MM + L) * 2 ^ s / (D * 2 ^ s) = (H * MM + L) / D := Int.mul_ediv_mul_of_pos_left _ _ hP
 refine ⟨by omega, by omega, ?_, ?_⟩
 ·rw [whole, div1]
 ·rw [whole, mod_sub, div1, mod_sub, ← Int.mul_assoc, ← Int.sub_mul, Int.mul_ediv_cancel _ (by omega)]
end Go.Proofs.YtogomodbcjpfiaaGreatDoor

namespace Go.Proofs.YtogomodbcjpfiaaGreatDoor
open Go.RowKit
theorem AtN.at (w : World) (n : Int) {k : Nat} (h : k = w.heap.size) : AtN (w.alloc (.cells #[.int .u64 (l0 n), .int .u64 (l1 n), .int .u64 (l2 n), .int .u64 (l3 n)] 24)) k n := by subst h; exact AtN.new w n
theorem AtN.zero (w : World) : AtN (w.alloc (.cells #[.int .u64 0, .int .u64 0, .int .u64 0, .int .u64 0] 24)) w.heap.size 0 := AtN.new w 0
end Go.Proofs.YtogomodbcjpfiaaGreatDoor

namespace Go.Proofs.YtogomodbcjpfiaaGreatDoor
open Go.RowKit

theorem addc_eq {a0 a1 a2 a3 b0 b1 b2 b3 n : Int} (_ha : U4 a0 a1 a2 a3) (_hb : U4 b0 b1 b2 b3) (hn : n = vl a0 a1 a2 a3 + vl b0 b1 b2 b3) :
   (a0 + b0) % 18446744073709551616 = l0 n ∧ (a1 + b1 + (a0 + b0) / 18446744073709551616) % 18446744073709551616 = l1 n ∧
   (a2 + b2 + (a1 + b1 + (a0 + b0) / 18446744073709551616) / 18446744073709551616) % 18446744073709551616 = l2 n ∧
   (a3 + b3 + (a2 + b2 + (a1 + b1 + (a0 + b0) / 18446744073709551616) / 18446744073709551616) / 18446744073709551616) % 18446744073709551616 = l3 n ∧
   (a3 + b3 + (a2 + b2 + (a1 + b1 + (a0 + b0) / 18446744073709551616) / 18446744073709551616) / 18446744073709551616) / 18446744073709551616 = n / MM := by
  subst hn
  unfold U4 U1 at _ha _hb; unfold vl l0 l1 l2 l3 MM
  omega

set_option maxHeartbeats 2000000 in
theorem addCarry_any (a0 a1 a2 a3 b0 b1 b2 b3 : Int) (w : World) (ha : U4 a0 a1 a2 a3) (hb : U4 b0 b1 b2 b3) :
  Calls Tryz.prog 136 #[.agg #[.int .u64 a0, .int .u64 a1, .int .u64 a2, .int .u64 a3], .agg #[.int .u64 b0, .int .u64 b1, .int .u64 b2, .int .u64 b3]] w fun e w' => 
   e = .returned (.tuple #[nv (vl a0 a1 a2 a3 + vl b0 b1 b2 b3), .int .u64 ((vl a0 a1 a2 a3 + vl b0 b1 b2 b3) / MM)]) ∧ Mo w w' := by
 have ha' := ha
 have hb' := hb
 obtain ⟨⟨p0, q0⟩, ⟨p1, q1⟩, ⟨p2, q2⟩, ⟨p3, q3⟩⟩ := ha'
 obtain ⟨⟨r0, s0⟩, ⟨r1, s1⟩, ⟨r2, s2⟩, ⟨r3, s3⟩⟩ := hb'
 have k1 : 0 ≤ (a0 + b0) / 18446744073709551616 := by omega
 have k1' : (a0 + b0) / 18446744073709551616 ≤ 1 := by omega
 have k2 : 0 ≤ (a1 + b1 + (a0 + b0) / 18446744073709551616) / 18446744073709551616 := by omega
 have k2' : (a1 + b1 + (a0 + b0) / 18446744073709551616) / 18446744073709551616 ≤ 1 := by omega
 have k3 : 0 ≤ (a2 + b2 + (a1 + b1 + (a0 + b0) / 18446744073709551616) / 18446744073709551616) / 18446744073709551616 := by omega
 have k3' : (a2 + b2 + (a1 + b1 + (a0 + b0) / 18446744073709551616) / 18446744073709551616) / 18446744073709551616 ≤ 1 := by omega
 go_enter Tryz.func136, Tryz.ntmps136
 go_wp2
 refine wp_loop_rounds 5 ?_
 rw [rounds_succ]
 go_wp2
 go_region_held3 (fun w' => w'.cell? ⟨w.heap.size, 0, none⟩ = some (.int .u64 a0) ∧ w'.cell? ⟨w.heap.size + 1, 0, none⟩ = some (.int .u64 b0)) (simp [go_sem, World.cell?_alloc_past])
  (first | simp only [add64_0 a0 b0 p0 r0])
 go_wp2
 rw [rounds_succ]
 go_wp2
 go_region_held3 (fun w' => w'.cell? ⟨w.heap.size, 1, none⟩ = some (.int .u64 a1) ∧ w'.cell? ⟨w.heap.size + 1, 1, none⟩ = some (.int .u64 b1)) (simp [go_sem, World.cell?_alloc_past])
  (first | simp only [add64 a1 b1 _ p1 r1 k1 k1'])
 go_wp2
 rw [rounds_succ]
 go_wp2
 go_region_held3 (fun w' => w'.cell? ⟨w.heap.size, 2, none⟩ = some (.int .u64 a2) ∧ w'.cell? ⟨w.heap.size + 1, 2, none⟩ = some (.int .u64 b2)) (simp [go_sem, World.cell?_alloc_past])
  (first | simp only [add64 a2 b2 _ p2 r2 k2 k2'])
 go_wp2
 rw [rounds_succ]
 go_wp2
 go_region_held3 (fun w' => w'.cell? ⟨w.heap.size, 3, none⟩ = some (.int .u64 a3) ∧ w'.cell? ⟨w.heap.size + 1, 3, none⟩ = some (.int .u64 b3)) (simp [go_sem, World.cell?_alloc_past])
  (first | simp only [add64 a3 b3 _ p3 r3 k3 k3'])
 go_wp2
 rw [rounds_succ]
 go_wp2
 refine bodyPost_ret (by simp [results, Tryz.results136, go_sem]; rfl) rfl ?_
 obtain ⟨e0, e1, e2, e3, e4⟩ := addc_eq ha hb rfl
 rw [nv_of e0 e1 e2 e3, e4]
 refine ⟨rfl, ?_⟩
 repeat (first | exact Mo.refl _ | apply Mo.drew | apply Mo.alloc)

theorem subc_eq {a0 a1 a2 a3 b0 b1 b2 b3 n c1 c2 c3 : Int} (_ha : U4 a0 a1 a2 a3) (_hb : U4 b0 b1 b2 b3) (hn : n = vl a0 a1 a2 a3 - vl b0 b1 b2 b3) (h1 : c1 = bw a0 b0 0) (h2 : c2 = bw a1 b1 c1) (h3 : c3 = bw a2 b2 c2) :
   (a0 - b0) % 18446744073709551616 = l0 (n % MM) ∧ (a1 - b1 - c1) % 18446744073709551616 = l1 (n % MM) ∧ (a2 - b2 - c2) % 18446744073709551616 = l2 (n % MM) ∧ (a3 - b3 - c3) % 18446744073709551616 = l3 (n % MM) ∧ bw a3 b3 c3 = -(n / MM) := by
  subst hn
  unfold bw at *
  unfold U4 U1 at _ha _hb; unfold vl l0 l1 l2 l3 MM
  omega

set_option maxHeartbeats 2000000 in
theorem subBorrow_any (a0 a1 a2 a3 b0 b1 b2 b3 : Int) (w : World) (ha : U4 a0 a1 a2 a3) (hb : U4 b0 b1 b2 b3) :
  Calls Tryz.prog 137 #[.agg #[.int .u64 a0, .int .u64 a1, .int .u64 a2, .int .u64 a3], .agg #[.int .u64 b0, .int .u64 b1, .int .u64 b2, .int .u64 b3]] w fun e w' =>
   e = .returned (.tuple #[nv ((vl a0 a1 a2 a3 - vl b0 b1 b2 b3) % MM), .int .u64 (-((vl a0 a1 a2 a3 - vl b0 b1 b2 b3) / MM))]) ∧ Mo w w' := by
 have ha' := ha
 have hb' := hb
 obtain ⟨⟨p0, q0⟩, ⟨p1, q1⟩, ⟨p2, q2⟩, ⟨p3, q3⟩⟩ := ha'
 obtain ⟨⟨r0, s0⟩, ⟨r1, s1⟩, ⟨r2, s2⟩, ⟨r3, s3⟩⟩ := hb'
 obtain ⟨k1, k1'⟩ := bw_bd p0 q0 r0 s0 (Int.le_refl 0) (by decide)
 obtain ⟨k2, k2'⟩ := bw_bd p1 q1 r1 s1 k1 k1'
 obtain ⟨k3, k3'⟩ := bw_bd p2 q2 r2 s2 k2 k2'
 go_enter Tryz.func137, Tryz.ntmps137
 go_wp2
 refine wp_loop_rounds 5 ?_
 rw [rounds_succ]
 go_wp2
 go_region_held3 (fun w' => w'.cell? ⟨w.heap.size, 0, none⟩ = some (.int .u64 a0) ∧ w'.cell? ⟨w.heap.size + 1, 0, none⟩ = some (.int .u64 b0)) (simp [go_sem, World.cell?_alloc_past])
  (first | simp only [sub64_0 a0 b0 p0 q0 r0 s0])
 go_wp2
 rw [rounds_succ]
 go_wp2
 go_region_held3 (fun w' => w'.cell? ⟨w.heap.size, 1, none⟩ = some (.int .u64 a1) ∧ w'.cell? ⟨w.heap.size + 1, 1, none⟩ = some (.int .u64 b1)) (simp [go_sem, World.cell?_alloc_past])
  (first | simp only [sub64 a1 b1 _ p1 q1 r1 s1 k1 k1'])
 go_wp2
 rw [rounds_succ]
 go_wp2
 go_region_held3 (fun w' => w'.cell? ⟨w.heap.size, 2, none⟩ = some (.int .u64 a2) ∧ w'.cell? ⟨w.heap.size + 1, 2, none⟩ = some (.int .u64 b2)) (simp [go_sem, World.cell?_alloc_past])
  (first | simp only [sub64 a2 b2 _ p2 q2 r2 s2 k2 k2'])
 go_wp2
 rw [rounds_succ]
 go_wp2
 go_region_held3 (fun w' => w'.cell? ⟨w.heap.size, 3, none⟩ = some (.int .u64 a3) ∧ w'.cell? ⟨w.heap.size + 1, 3, none⟩ = some (.int .u64 b3)) (simp [go_sem, World.cell?_alloc_past])
  (first | simp only [sub64 a3 b3 _ p3 q3 r3 s3 k3 k3'])
 go_wp2
 rw [rounds_succ]
 go_wp2
 refine bodyPost_ret (by simp [results, Tryz.results137, go_sem]; rfl) rfl ?_
 obtain ⟨e0, e1, e2, e3, e4⟩ := subc_eq ha hb rfl rfl rfl rfl
 rw [nv_of e0 e1 e2 e3, e4]
 refine ⟨rfl, ?_⟩
 repeat (first | exact Mo.refl _ | apply Mo.drew | apply Mo.alloc)
end Go.Proofs.YtogomodbcjpfiaaGreatDoor

namespace Go.Proofs.YtogomodbcjpfiaaGreatDoor
open Go.RowKit

set_option maxHeartbeats 1000000 in
theorem add_any (a0 a1 a2 a3 b0 b1 b2 b3 : Int) (w : World) (ha : U4 a0 a1 a2 a3) (hb : U4 b0 b1 b2 b3) :
  Calls Tryz.prog 113 #[.agg #[.int .u64 a0, .int .u64 a1, .int .u64 a2, .int .u64 a3], .agg #[.int .u64 b0, .int .u64 b1, .int .u64 b2, .int .u64 b3]] w fun e w' =>
   e = .returned (.tuple #[nv (vl a0 a1 a2 a3 + vl b0 b1 b2 b3), .bool (ov (vl a0 a1 a2 a3 + vl b0 b1 b2 b3))]) ∧ Mo w w' := by
 rw [← ov_ne ha hb]
 go_enter Tryz.func113, Tryz.ntmps113
 go_wp2_with fail
 refine (addCarry_any a0 a1 a2 a3 b0 b1 b2 b3 _ ha hb).mono ?_
 rintro e w1 ⟨rfl, hm⟩
 have hc := hm.cell
 have hf := hm.2
 have hz := hm.size
 simp only [World.size_alloc] at hz hc
 have hz2 : w.heap.size + 1 + 1 < w1.heap.size := by omega
 go_wp2
 refine bodyPost_ret (by simp [results, Tryz.results113, go_sem, hc, hz2]; rfl) rfl ?_
 refine ⟨rfl, ?_⟩
 repeat (first | exact Mo.refl _ | with_reducible apply Mo.drew | with_reducible apply Mo.drewN | with_reducible apply Mo.alloc | with_reducible refine Mo.setCell ?_ (by simp <;> omega) _ | with_reducible refine Mo.trans ?_ (by assumption))

set_option maxHeartbeats 1000000 in
theorem sub_any (a0 a1 a2 a3 b0 b1 b2 b3 : Int) (w : World) (ha : U4 a0 a1 a2 a3) (hb : U4 b0 b1 b2 b3) :
  Calls Tryz.prog 115 #[.agg #[.int .u64 a0, .int .u64 a1, .int .u64 a2, .int .u64 a3], .agg #[.int .u64 b0, .int .u64 b1, .int .u64 b2, .int .u64 b3]] w fun e w' =>
   e = .returned (.tuple #[nv ((vl a0 a1 a2 a3 - vl b0 b1 b2 b3) % MM), .bool (un (vl a0 a1 a2 a3 - vl b0 b1 b2 b3))]) ∧ Mo w w' := by
 rw [← un_ne ha hb]
 go_enter Tryz.func115, Tryz.ntmps115
 go_wp2_with fail
 refine (subBorrow_any a0 a1 a2 a3 b0 b1 b2 b3 _ ha hb).mono ?_
 rintro e w1 ⟨rfl, hm⟩
 have hc := hm.cell
 have hf := hm.2
 have hz := hm.size
 simp only [World.size_alloc] at hz hc
 have hz2 : w.heap.size + 1 + 1 < w1.heap.size := by omega
 go_wp2
 refine bodyPost_ret (by simp [results, Tryz.results115, go_sem, hc, hz2]; rfl) rfl ?_
 refine ⟨rfl, ?_⟩
 repeat (first | exact Mo.refl _ | with_reducible apply Mo.drew | with_reducible apply Mo.drewN | with_reducible apply Mo.alloc | with_reducible refine Mo.setCell ?_ (by simp <;> omega) _ | with_reducible refine Mo.trans ?_ (by assumption))

set_option maxHeartbeats 400000 in
theorem from20_any (u : Int) (w : World) (h : U1 u) :
  Calls Tryz.prog 72 #[.int .u64 u] w fun e w' => e = .returned (nv u) ∧ Mo w w' := by
 have e0 : l0 u = u := by unfold U1 at h; unfold l0; omega
 have e1 : l1 u = 0 := by unfold U1 at h; unfold l1; omega
 have e2 : l2 u = 0 := by unfold U1 at h; unfold l2; omega
 have e3 : l3 u = 0 := by unfold U1 at h; unfold l3; omega
 rw [nv, e0, e1, e2, e3]
 clear e0 e1 e2 e3
 go_enter Tryz.func72, Tryz.ntmps72
 go_wp2
 refine bodyPost_ret (by simp [results, Tryz.results72, go_sem]; rfl) rfl ?_
 refine ⟨rfl, ?_⟩
 repeat (first | exact Mo.refl _ | with_reducible apply Mo.drew | with_reducible apply Mo.drewN | with_reducible apply Mo.alloc | with_reducible refine Mo.setCell ?_ (by simp <;> omega) _ | with_reducible refine Mo.trans ?_ (by assumption))

set_option maxHeartbeats 400000 in
theorem odd_any (a0 a1 a2 a3 : Int) (w : World) (ha : U4 a0 a1 a2 a3) :
  Calls Tryz.prog 145 #[.agg #[.int .u64 a0, .int .u64 a1, .int .u64 a2, .int .u64 a3]] w fun e w' => e = .returned (.bool (a0 % 2 == 1)) ∧ Mo w w' := by
 obtain ⟨⟨p0, q0⟩, ⟨p1, q1⟩, ⟨p2, q2⟩, ⟨p3, q3⟩⟩ := ha
 go_enter Tryz.func145, Tryz.ntmps145
 go_wp2
 go_ret
 refine ⟨rfl, ?_⟩
 repeat (first | exact Mo.refl _ | with_reducible apply Mo.drew | with_reducible apply Mo.drewN | with_reducible apply Mo.alloc | with_reducible refine Mo.setCell ?_ (by simp <;> omega) _ | with_reducible refine Mo.trans ?_ (by assumption))

end Go.Proofs.YtogomodbcjpfiaaGreatDoor

namespace Go.Proofs.YtogomodbcjpfiaaGreatDoor
open Go.RowKit
def mh (x y : Int) : Int := x * y / 18446744073709551616
def ml (x y : Int) : Int := x * y % 18446744073709551616
theorem mul64 (x y : Int) (hx : U1 x) (hy : U1 y) (w : World) :
  Calls Tryz.prog 148 #[.int .u64 x, .int .u64 y] w fun e w' => e = .returned (.tuple #[.int .u64 (mh x y), .int .u64 (ml x y)]) ∧ w' = w := by
 obtain ⟨x0, x1⟩ := hx
 obtain ⟨y0, y1⟩ := hy
 obtain ⟨x, rfl⟩ := Int.eq_ofNat_of_zero_le x0
 obtain ⟨y, rfl⟩ := Int.eq_ofNat_of_zero_le y0
 have e1 : mh (x : Int) y = ((x * y / 18446744073709551616 : Nat) : Int) := by unfold mh; omega
 have e2 : ml (x : Int) y = ((x * y % 18446744073709551616 : Nat) : Int) := by unfold ml; omega
 rw [e1, e2]
 exact Tryz.bits_Mul64 x y (by omega) (by omega) w

theorem mul_bd {x y : Int} (hx : U1 x) (hy : U1 y) : 0 ≤ x * y ∧ x * y ≤ 340282366920938463426481119284349108225 := by
 obtain ⟨x0, x1⟩ := hx
 obtain ⟨y0, y1⟩ := hy
 refine ⟨Int.mul_nonneg x0 y0, ?_⟩
 exact Int.mul_le_mul (by omega : x ≤ 18446744073709551615) (by omega : y ≤ 18446744073709551615) y0 (by decide)
theorem mh_bd {x y : Int} (hx : U1 x) (hy : U1 y) : 0 ≤ mh x y ∧ mh x y ≤ 18446744073709551614 := by
 have h := mul_bd hx hy; unfold mh; omega
theorem ml_bd {x y : Int} (_hx : U1 x) (_hy : U1 y) : 0 ≤ ml x y ∧ ml x y < 18446744073709551616 := by
 unfold ml; omega

theorem mull_eq {a0 a1 a2 a3 c t1 t2 t3 t4 : Int} (ha : U4 a0 a1 a2 a3) (hc : U1 c) (h1 : t1 = mh a0 c) (h2 : t2 = mh a1 c + (ml a1 c + t1) / 18446744073709551616) (h3 : t3 = mh a2 c + (ml a2 c + t2) / 18446744073709551616) (h4 : t4 = mh a3 c + (ml a3 c + t3) / 18446744073709551616) :
  ml a0 c = l0 (vl a0 a1 a2 a3 * c) ∧ (ml a1 c + t1) % 18446744073709551616 = l1 (vl a0 a1 a2 a3 * c) ∧ (ml a2 c + t2) % 18446744073709551616 = l2 (vl a0 a1 a2 a3 * c) ∧ (ml a3 c + t3) % 18446744073709551616 = l3 (vl a0 a1 a2 a3 * c) ∧ t4 = vl a0 a1 a2 a3 * c / MM := by
 obtain ⟨g0, g1, g2, g3⟩ := ha
 have b0 := mul_bd g0 hc
 have b1 := mul_bd g1 hc
 have b2 := mul_bd g2 hc
 have b3 := mul_bd g3 hc
 have e : vl a0 a1 a2 a3 * c = a0 * c + 18446744073709551616 * (a1 * c) + 340282366920938463463374607431768211456 * (a2 * c) + 6277101735386680763835789423207666416102355444464034512896 * (a3 * c) := by
  unfold vl; rw [Int.add_mul, Int.add_mul, Int.add_mul, Int.mul_assoc, Int.mul_assoc, Int.mul_assoc]
 rw [e]
 unfold mh ml at *
 generalize a0 * c = p0 at *
 generalize a1 * c = p1 at *
 generalize a2 * c = p2 at *
 generalize a3 * c = p3 at *
 unfold l0 l1 l2 l3 MM
 omega

set_option maxHeartbeats 2000000 in
theorem mulLimb_raw (a0 a1 a2 a3 c t1 t2 t3 t4 : Int) (w : World) (ha : U4 a0 a1 a2 a3) (hc : U1 c) (h1 : Hid (t1 = mh a0 c)) (h2 : Hid (t2 = mh a1 c + (ml a1 c + t1) / 18446744073709551616)) (h3 : Hid (t3 = mh a2 c + (ml a2 c + t2) / 18446744073709551616)) (h4 : Hid (t4 = mh a3 c + (ml a3 c + t3) / 18446744073709551616)) :
  Calls Tryz.prog 138 #[.agg #[.int .u64 a0, .int .u64 a1, .int .u64 a2, .int .u64 a3], .int .u64 c] w fun e w' =>
   e = .returned (.tuple #[.agg #[.int .u64 (ml a0 c), .int .u64 ((ml a1 c + t1) % 18446744073709551616), .int .u64 ((ml a2 c + t2) % 18446744073709551616), .int .u64 ((ml a3 c + t3) % 18446744073709551616)], .int .u64 t4]) ∧ Mo w w' := by
 have g := ha
 obtain ⟨g0, g1, g2, g3⟩ := g
 obtain ⟨p0, q0⟩ := mh_bd g0 hc
 obtain ⟨r0, s0⟩ := ml_bd g0 hc
 obtain ⟨p1, q1⟩ := mh_bd g1 hc
 obtain ⟨r1, s1⟩ := ml_bd g1 hc
 obtain ⟨p2, q2⟩ := mh_bd g2 hc
 obtain ⟨r2, s2⟩ := ml_bd g2 hc
 obtain ⟨p3, q3⟩ := mh_bd g3 hc
 obtain ⟨r3, s3⟩ := ml_bd g3 hc
 have j1 : 0 ≤ t1 ∧ t1 < 18446744073709551616 := by have := h1.out; omega
 have j2 : 0 ≤ t2 ∧ t2 < 18446744073709551616 := by have := h2.out; omega
 have j3 : 0 ≤ t3 ∧ t3 < 18446744073709551616 := by have := h3.out; omega
 obtain ⟨u1, v1⟩ := j1
 obtain ⟨u2, v2⟩ := j2
 obtain ⟨u3, v3⟩ := j3
 have x1 : mh a0 c + ml a0 c / 18446744073709551616 = t1 := by have := h1.out; omega
 have x2 : mh a1 c + (ml a1 c + t1) / 18446744073709551616 = t2 := h2.out.symm
 have x3 : mh a2 c + (ml a2 c + t2) / 18446744073709551616 = t3 := h3.out.symm
 have x4 : mh a3 c + (ml a3 c + t3) / 18446744073709551616 = t4 := h4.out.symm
 have y1 : ml a0 c % 18446744073709551616 = ml a0 c := by omega
 have i0 : ∀ w : World, (Instr.index 24 (.agg #[.int .u64 a0, .int .u64 a1, .int .u64 a2, .int .u64 a3]) (.int .i64 0)).run Tryz.prog w = .ok (.int .u64 a0) w := fun _ => by kernel_rfl
 have i1 : ∀ w : World, (Instr.index 24 (.agg #[.int .u64 a0, .int .u64 a1, .int .u64 a2, .int .u64 a3]) (.int .i64 1)).run Tryz.prog w = .ok (.int .u64 a1) w := fun _ => by kernel_rfl
 have i2 : ∀ w : World, (Instr.index 24 (.agg #[.int .u64 a0, .int .u64 a1, .int .u64 a2, .int .u64 a3]) (.int .i64 2)).run Tryz.prog w = .ok (.int .u64 a2) w := fun _ => by kernel_rfl
 have i3 : ∀ w : World, (Instr.index 24 (.agg #[.int .u64 a0, .int .u64 a1, .int .u64 a2, .int .u64 a3]) (.int .i64 3)).run Tryz.prog w = .ok (.int .u64 a3) w := fun _ => by kernel_rfl
 go_enter Tryz.func138, Tryz.ntmps138
 go_wp2
 refine wp_loop_rounds 5 ?_
 rw [rounds_succ]
 go_wp2_with (first | (go_at_call 148; refine (mul64 a0 c g0 hc _).mono ?_; rintro e w' ⟨rfl, rfl⟩) | simp only [add64_0 (ml a0 c) 0 r0 (Int.le_refl 0)])
 rw [rounds_succ]
 go_wp2_with (first | (go_at_call 148; refine (mul64 a1 c g1 hc _).mono ?_; rintro e w' ⟨rfl, rfl⟩) | simp only [add64_0 (ml a1 c) t1 r1 u1])
 rw [rounds_succ]
 go_wp2_with (first | (go_at_call 148; refine (mul64 a2 c g2 hc _).mono ?_; rintro e w' ⟨rfl, rfl⟩) | simp only [add64_0 (ml a2 c) t2 r2 u2])
 rw [rounds_succ]
 go_wp2_with (first | (go_at_call 148; refine (mul64 a3 c g3 hc _).mono ?_; rintro e w' ⟨rfl, rfl⟩) | simp only [add64_0 (ml a3 c) t3 r3 u3])
 rw [rounds_succ]
 go_wp2
 refine bodyPost_ret (by simp [results, Tryz.results138, go_sem]; rfl) rfl ?_
 refine ⟨rfl, ?_⟩
 repeat (first | exact Mo.refl _ | with_reducible apply Mo.drew | with_reducible apply Mo.drewN | with_reducible apply Mo.alloc | with_reducible refine Mo.setCell ?_ (by simp <;> omega) _ | with_reducible refine Mo.trans ?_ (by assumption))

theorem mulLimb_any (a0 a1 a2 a3 c : Int) (w : World) (ha : U4 a0 a1 a2 a3) (hc : U1 c) :
  Calls Tryz.prog 138 #[.agg #[.int .u64 a0, .int .u64 a1, .int .u64 a2, .int .u64 a3], .int .u64 c] w fun e w' =>
   e = .returned (.tuple #[nv (vl a0 a1 a2 a3 * c), .int .u64 (vl a0 a1 a2 a3 * c / MM)]) ∧ Mo w w' := by
 refine (mulLimb_raw a0 a1 a2 a3 c _ _ _ _ w ha hc rfl rfl rfl rfl).mono ?_
 rintro e w' ⟨rfl, hm⟩
 obtain ⟨e0, e1, e2, e3, e4⟩ := mull_eq ha hc rfl rfl rfl rfl
 refine ⟨?_, hm⟩
 rw [nv_of e0 e1 e2 e3, e4]
end Go.Proofs.YtogomodbcjpfiaaGreatDoor

namespace Go.Proofs.YtogomodbcjpfiaaGreatDoor
open Go.RowKit
def gl (r2 r3 b3 : Int) : Int := if b3 ≤ r3 then 18446744073709551615 else (r3 * 18446744073709551616 + r2) / b3
set_option maxHeartbeats 1000000 in
theorem guess_any (r0 r1 r2 r3 b0 b1 b2 b3 : Int) (w : World) (hr : U4 r0 r1 r2 r3) (hb : U4 b0 b1 b2 b3) :
  Calls Tryz.prog 158 #[.agg #[.int .u64 r0, .int .u64 r1, .int .u64 r2, .int .u64 r3], .agg #[.int .u64 b0, .int .u64 b1, .int .u64 b2, .int .u64 b3]] w fun e w' =>
   e = .returned (.int .u64 (gl r2 r3 b3)) ∧ Mo w w' := by
 obtain ⟨⟨p0, q0⟩, ⟨p1, q1⟩, ⟨p2, q2⟩, ⟨p3, q3⟩⟩ := hr
 obtain ⟨⟨u0, v0⟩, ⟨u1, v1⟩, ⟨u2, v2⟩, ⟨u3, v3⟩⟩ := hb
 by_cases h : b3 ≤ r3
 ·have e : gl r2 r3 b3 = 18446744073709551615 := by unfold gl; rw [if_pos h]
  rw [e]
  clear e
  go_enter Tryz.func158, Tryz.ntmps158
  go_wp2
  go_ret
  exact ⟨rfl, ((Mo.refl _).alloc _ _).alloc _ _⟩
 ·have e : gl r2 r3 b3 = (r3 * 18446744073709551616 + r2) / b3 := by unfold gl; rw [if_neg h]
  rw [e]
  clear e
  have h' : r3 < b3 := by omega
  go_enter Tryz.func158, Tryz.ntmps158
  go_wp2_with (go_at_call 130; refine (div64_any r3 r2 b3 _ p3 h' p2 q2 v3).mono ?_; rintro e w' ⟨rfl, n, rfl⟩)
  go_ret
  exact ⟨rfl, (((Mo.refl _).alloc _ _).alloc _ _).drewN _⟩
theorem gl_bd {r0 r1 r2 r3 b0 b1 b2 b3 x : Int} (hr : U4 r0 r1 r2 r3) (hb : U4 b0 b1 b2 b3) (hx : U1 x) (hlt : vl r0 r1 r2 r3 < vl b0 b1 b2 b3) :
  U1 (gl r2 r3 b3) ∧ (vl r0 r1 r2 r3 * 18446744073709551616 + x) / vl b0 b1 b2 b3 ≤ gl r2 r3 b3 := by
 have rb := vl_bd hr
 have bb := vl_bd hb
 obtain ⟨⟨p0, q0⟩, ⟨p1, q1⟩, ⟨p2, q2⟩, ⟨p3, q3⟩⟩ := hr
 obtain ⟨⟨u0, v0⟩, ⟨u1, v1⟩, ⟨u2, v2⟩, ⟨u3, v3⟩⟩ := hb
 obtain ⟨x0, x1⟩ := hx
 have qlt : (vl r0 r1 r2 r3 * 18446744073709551616 + x) / vl b0 b1 b2 b3 < 18446744073709551616 := by
  apply Int.ediv_lt_of_lt_mul (by omega)
  have : (vl r0 r1 r2 r3 + 1) * 18446744073709551616 ≤ vl b0 b1 b2 b3 * 18446744073709551616 := by omega
  omega
 have qn : 0 ≤ (vl r0 r1 r2 r3 * 18446744073709551616 + x) / vl b0 b1 b2 b3 := Int.ediv_nonneg (by omega) (by omega)
 unfold gl
 by_cases h : b3 ≤ r3
 ·rw [if_pos h]
  exact ⟨⟨by decide, by decide⟩, by omega⟩
 ·rw [if_neg h]
  refine ⟨⟨Int.ediv_nonneg (by omega) u3, Int.ediv_lt_of_lt_mul (by omega) (by omega)⟩, ?_⟩
  apply (Int.le_ediv_iff_mul_le (by omega)).2
  have m := Int.ediv_mul_le (vl r0 r1 r2 r3 * 18446744073709551616 + x) (show vl b0 b1 b2 b3 ≠ 0 by omega)
  generalize (vl r0 r1 r2 r3 * 18446744073709551616 + x) / vl b0 b1 b2 b3 = q at *
  have m2 : q * (6277101735386680763835789423207666416102355444464034512896 * b3) ≤ q * vl b0 b1 b2 b3 := Int.mul_le_mul_of_nonneg_left (by unfold vl; omega) qn
  rw [Int.mul_left_comm] at m2
  have m3 : vl r0 r1 r2 r3 * 18446744073709551616 + x < 6277101735386680763835789423207666416102355444464034512896 * (r3 * 18446744073709551616 + r2 + 1) := by unfold vl; omega
  omega

theorem left_eq {r0 r1 r2 r3 x T lo N DG Y : Int} (hN : N = vl r0 r1 r2 r3 * 18446744073709551616 + x) (hT : T = DG / MM) (hlo : lo = DG % MM) (hY : Y = N - DG) :
  (vl x r0 r1 r2 - lo) % MM = Y % MM ∧ IntKind.u64.wrap (IntKind.u64.wrap (r3 - T) - -((vl x r0 r1 r2 - lo) / MM)) = Y / MM % 18446744073709551616 := by
 rw [IntKind.wrap_u64, IntKind.wrap_u64]
 have e : Y = (vl x r0 r1 r2 - lo) + MM * (r3 - T) := by subst hN hY hT hlo; unfold vl MM; omega
 constructor
 ·rw [e]; unfold MM; omega
 ·rw [e]; unfold MM; omega
theorem back_eq {Y D S : Int} (hS : S = Y % MM + D) : nv S = nv (Y + D) ∧ IntKind.u64.wrap (Y / MM % 18446744073709551616 + S / MM) = (Y + D) / MM % 18446744073709551616 := by
 constructor
 ·rw [← nv_mod S, ← nv_mod (Y + D), hS, Int.emod_add_emod]
 ·rw [IntKind.wrap_u64, hS]; unfold MM; omega
theorem top_says {N D g Y t : Int} (hD : 0 < D) (hD2 : D < MM) (hN : 0 ≤ N) (hg : 0 ≤ g) (hg2 : g < 18446744073709551616) (hq : N / D ≤ g) (hY : Y = N - D * g) (ht : t = Y / MM % 18446744073709551616) :
  (t ≠ 0 → N / D ≤ g - 1 ∧ 1 ≤ g) ∧ (t = 0 → g = N / D ∧ Y = N % D) := by
 have m1 : N < (N / D + 1) * D := Int.lt_ediv_add_one_mul_self N hD
 have m2 : (N / D + 1) * D ≤ (g + 1) * D := Int.mul_le_mul_of_nonneg_right (by omega) (by omega)
 rw [Int.add_mul g, Int.one_mul, Int.mul_comm g] at m2
 have m3 : D * g ≤ D * 18446744073709551615 := Int.mul_le_mul_of_nonneg_left (by omega) (by omega)
 have qn : 0 ≤ N / D := Int.ediv_nonneg hN (by omega)
 have ylt : Y < D := by omega
 refine ⟨fun h => ?_, fun h => ?_⟩
 ·have yneg : Y < 0 := by
   apply Int.lt_of_not_ge
   intro hge
   apply h
   rw [ht]
   unfold MM at *
   omega
  have : N / D < g := by
   apply Int.ediv_lt_of_lt_mul hD
   rw [Int.mul_comm]
   omega
  omega
 ·have ypos : 0 ≤ Y := by
   apply Int.le_of_not_gt
   intro hlt
   rw [ht] at h
   unfold MM at *
   omega
  have : g ≤ N / D := by
   apply (Int.le_ediv_iff_mul_le hD).2
   rw [Int.mul_comm]
   omega
  have e : g = N / D := by omega
  refine ⟨e, ?_⟩
  rw [hY, e, Int.emod_def]

def DW (w wr : World) (k : Nat) (b0 b1 b2 b3 y0 y1 y2 y3 : Int) : Prop := Mo w wr ∧ w.heap.size + 1 + 1 < k ∧ k < wr.heap.size ∧ At4 wr (w.heap.size + 1) b0 b1 b2 b3 ∧ At4 wr (w.heap.size + 1 + 1) 0 0 0 0 ∧ Fz wr (w.heap.size + 1 + 1) ∧ At4 wr k y0 y1 y2 y3 ∧ Fz wr k
theorem DW.mo {w wr w1 : World} {k : Nat} {b0 b1 b2 b3 y0 y1 y2 y3 : Int} (h : DW w wr k b0 b1 b2 b3 y0 y1 y2 y3) (m : Mo wr w1) : DW w w1 k b0 b1 b2 b3 y0 y1 y2 y3 := by
 obtain ⟨h1, h2, h3, h4, h5, h6, h7, h8⟩ := h
 have := m.size
 exact ⟨h1.trans m, h2, by omega, h4.mo m (by omega), h5.mo m (by omega), h6.mo m, h7.mo m h3, h8.mo m⟩
theorem DW.put {w w1 : World} {k : Nat} {b0 b1 b2 b3 y0 y1 y2 y3 : Int} (h : DW w w1 k b0 b1 b2 b3 y0 y1 y2 y3) (z0 z1 z2 z3 : Int) : DW w ((((w1.setCell ⟨k, 0, none⟩ (.int .u64 z0)).setCell ⟨k, 1, none⟩ (.int .u64 z1)).setCell ⟨k, 2, none⟩ (.int .u64 z2)).setCell ⟨k, 3, none⟩ (.int .u64 z3)) k b0 b1 b2 b3 z0 z1 z2 z3 := by
 obtain ⟨h1, h2, h3, ⟨a0, a1, a2, a3⟩, ⟨c0, c1, c2, c3⟩, h6, ⟨d0, d1, d2, d3⟩, h8⟩ := h
 have le : w.heap.size ≤ k := by omega
 have n1 : ¬ w.heap.size + 1 = k := by omega
 have n2 : ¬ w.heap.size + 1 + 1 = k := by omega
 refine ⟨(((h1.setCell le _).setCell le _).setCell le _).setCell le _, h2, by simpa [World.setCell] using h3, ?_, ?_, ?_, ?_, ?_⟩
 ·simp [At4, go_sem, *]
 ·simp [At4, go_sem, *]
 ·intro o; simp [World.frozen?_setCell, h6 o]
 ·simp [At4, go_sem, *]
 ·intro o; simp [World.frozen?_setCell, h8 o]

set_option maxHeartbeats 2000000 in
theorem divStep_any (r0 r1 r2 r3 x b0 b1 b2 b3 N D : Int) (w : World) (hr : U4 r0 r1 r2 r3) (hx : U1 x) (hb : U4 b0 b1 b2 b3) (hN : Hid (N = vl r0 r1 r2 r3 * 18446744073709551616 + x)) (hD : Hid (D = vl b0 b1 b2 b3)) (hlt : Hid (vl r0 r1 r2 r3 < D)) :
  Calls Tryz.prog 143 #[.agg #[.int .u64 r0, .int .u64 r1, .int .u64 r2, .int .u64 r3], .int .u64 x, .agg #[.int .u64 b0, .int .u64 b1, .int .u64 b2, .int .u64 b3]] w fun e w' =>
   e = .returned (.tuple #[.int .u64 (N / D), nv (N % D)]) ∧ Mo w w' := by
 have rb := vl_bd hr
 have bb := vl_bd hb
 have gb := gl_bd hr hb hx (by rw [← hD.out]; exact hlt.out)
 have HG : Hid (N / D ≤ gl r2 r3 b3) := by have := gb.2; rw [← hN.out, ← hD.out] at this; exact this
 have HB : Hid ((0 < D ∧ D < MM) ∧ 0 ≤ N) := by
  have a := hlt.out; have c := hD.out; have d := hN.out; unfold U1 at hx
  exact ⟨⟨by omega, by omega⟩, by omega⟩
 have gu := gb.1
 clear gb rb bb
 generalize hgl : gl r2 r3 b3 = g at *
 have Hgl : Hid _ := hgl
 clear hgl
 have gu' := gu
 obtain ⟨g0, g1⟩ := gu'
 go_enter Tryz.func143, Tryz.ntmps143
 go_wp2_with fail
 refine (guess_any r0 r1 r2 r3 b0 b1 b2 b3 _ hr hb).mono ?_
 rintro e w1 ⟨rfl, hm1⟩
 rw [Hgl.out]
 have z1 := hm1.size
 simp only [World.size_alloc] at z1
 have R1 : At4 w1 w.heap.size r0 r1 r2 r3 := At4.mo (by simp [At4, go_sem]) hm1 (by simp; omega)
 have B1 : At4 w1 (w.heap.size + 1) b0 b1 b2 b3 := At4.mo (by simp [At4, go_sem]) hm1 (by simp)
 have Z1 : At4 w1 (w.heap.size + 1 + 1) 0 0 0 0 := At4.mo (by simp [At4, go_sem]) hm1 (by simp)
 have F1 : Fz w1 (w.heap.size + 1 + 1) := Fz.mo (fun o => by simp [go_sem]) hm1
 have M1 : Mo w w1 := ((((Mo.refl _).alloc _ _).alloc _ _).alloc _ _).trans hm1
 clear hm1
 have o1 := R1
 have o2 := B1
 obtain ⟨c0, c1, c2, c3⟩ := o1
 obtain ⟨d0, d1, d2, d3⟩ := o2
 go_wp2_with fail
 refine (mulLimb_any b0 b1 b2 b3 g _ hb gu).mono ?_
 rintro e w2 ⟨rfl, hm2⟩
 rw [← hD.out]
 have z2 := hm2.size
 have R2 := R1.mo hm2 (by omega)
 have B2 := B1.mo hm2 (by omega)
 have Z2 := Z1.mo hm2 (by omega)
 have F2 := F1.mo hm2
 have M2 := M1.trans hm2
 clear c0 c1 c2 c3 d0 d1 d2 d3 R1 B1 Z1 F1 M1
 have o1 := R2
 have s1 : w.heap.size < w2.heap.size := by omega
 obtain ⟨c0, c1, c2, c3⟩ := o1
 generalize hT : D * g / MM = T
 generalize hP : D * g = P at *
 go_wp2_with fail
 refine (subBorrow_any x r0 r1 r2 (l0 P) (l1 P) (l2 P) (l3 P) _ ⟨hx, hr.1, hr.2.1, hr.2.2.1⟩ (u4_lb P)).mono ?_
 rintro e w3 ⟨rfl, hm3⟩
 rw [vl_nv P]
 obtain ⟨f1, f2⟩ := left_eq (r0 := r0) (r1 := r1) (r2 := r2) (r3 := r3) (x := x) (T := T) (lo := P % MM) (N := N) (DG := P) (Y := N - P) hN.out hT.symm rfl rfl
 rw [f1, nv_mod]
 generalize hbo : -((vl x r0 r1 r2 - P % MM) / MM) = bo at *
 generalize ht0 : (N - P) / MM % 18446744073709551616 = t0 at *
 have Ht0 : Hid _ := ht0
 have HP : Hid _ := hP
 have hz3 := hm3.size
 simp only [World.size_alloc] at hz3
 have q1 : (Mo (w2.alloc (.cells #[.int .u64 (l0 P), .int .u64 (l1 P), .int .u64 (l2 P), .int .u64 (l3 P)] 24)) w3) := hm3
 have m0 : Mo w2 w3 := ((Mo.refl _).alloc _ _).trans q1
 have R3 := R2.mo m0 s1
 have B3 := B2.mo m0 (by omega)
 have Z3 := Z2.mo m0 (by omega)
 have F3 := F2.mo m0
 have M3 := M2.trans m0
 have S0 : DW w (w3.alloc (.cells #[.int .u64 (l0 (N - P)), .int .u64 (l1 (N - P)), .int .u64 (l2 (N - P)), .int .u64 (l3 (N - P))] 24)) w3.heap.size b0 b1 b2 b3 (l0 (N - P)) (l1 (N - P)) (l2 (N - P)) (l3 (N - P)) := by
  have a : Mo w3 (w3.alloc (.cells #[.int .u64 (l0 (N - P)), .int .u64 (l1 (N - P)), .int .u64 (l2 (N - P)), .int .u64 (l3 (N - P))] 24)) := (Mo.refl _).alloc _ _
  exact ⟨M3.trans a, by omega, by simp, B3.mo a (by omega), Z3.mo a (by omega), F3.mo a, by simp [At4, go_sem], fun o => by simp [go_sem]⟩
 clear c0 c1 c2 c3 R2 B2 Z2 F2 M2 hm2 hm3 q1 m0 hT hP hbo ht0 f1 B3 Z3 F3 M3
 have s3 : w.heap.size < w3.heap.size := by omega
 obtain ⟨c0, c1, c2, c3⟩ := R3
 go_wp2
 go_loopw [8, 13] (fun s8 s13 wr => ∃ h t Y : Int, s8 = .int .u64 h ∧ s13 = .int .u64 t ∧ 0 ≤ h ∧ h < 18446744073709551616 ∧ 0 ≤ t ∧ t < 18446744073709551616 ∧ N / D ≤ h ∧ Y = N - D * h ∧ t = Y / MM % 18446744073709551616 ∧ DW w wr w3.heap.size b0 b1 b2 b3 (l0 Y) (l1 Y) (l2 Y) (l3 Y)) (fun s8 _ _ => (intOf s8).toNat)
 case atStart =>
  refine ⟨g, t0, N - P, rfl, rfl, g0, g1, ?_, ?_, HG.out, by rw [HP.out], Ht0.out.symm, S0⟩
  ·rw [← Ht0.out]; omega
  ·rw [← Ht0.out]; omega
 case round =>
  obtain ⟨h, t, Y, rfl, rfl, i1, i2, i3, i4, i5, i6, i7, ht⟩ := hrel
  obtain ⟨ts1, ts2⟩ := top_says HB.out.1.1 HB.out.1.2 HB.out.2 i1 i2 i5 i6 i7
  have HY : Hid (Y = N - D * h) := i6
  have Ht : Hid (t = Y / MM % 18446744073709551616) := i7
  clear i6 i7 i5 S0
  by_cases tz : t = 0
  ·obtain ⟨e1, e2⟩ := ts2 tz
   have E1 : Hid _ := e1
   have E2 : Hid _ := e2
   have tb : (t != 0) = false := by rw [tz]; rfl
   clear e1 e2 ts1 ts2 tz
   obtain ⟨k1, k2, k3, K4, ⟨n0, n1, n2, n3⟩, K6, ⟨y0, y1, y2, y3⟩, K8⟩ := ht
   have K6 := fun o => K6 o
   go_wp2
   go_cut [6] from 56 to 57 (fun s6 wx => s6 = .int .u64 h ∧ At4 wx (w.heap.size + 1 + 1) (l0 Y) (l1 Y) (l2 Y) (l3 Y) ∧ Mo w wx)
   case first =>
    go_region
    go_wp2
    go_meet
    case rel =>
     refine ⟨rfl, by simp [At4, go_sem, n0, n1, n2, n3], ?_⟩
     repeat (first | with_reducible exact k1 | with_reducible apply Mo.drew | with_reducible refine Mo.setCell ?_ (by simp <;> omega) _)
   case rest =>
    obtain ⟨rfl, ⟨P0, P1, P2, P3⟩, hmo⟩ := hcut
    go_wp2
    refine bodyPost_ret (v := .tuple #[.int .u64 h, nv Y]) (by simp [results, Tryz.results143, go_sem, P0, P1, P2, P3]) rfl ?_
    exact ⟨by rw [E1.out, E2.out], hmo⟩
  ·obtain ⟨j1, j2⟩ := ts1 tz
   have J1 : Hid (N / D ≤ h - 1) := j1
   have tb : (t != 0) = true := by simp [tz]
   clear ts1 ts2 tz j1
   have ht0 := ht
   obtain ⟨k1, k2, k3, ⟨d0, d1, d2, d3⟩, K5, K6, ⟨y0, y1, y2, y3⟩, K8⟩ := ht
   clear K5 K6 K8
   go_wp2_with fail
   refine (addCarry_any (l0 Y) (l1 Y) (l2 Y) (l3 Y) b0 b1 b2 b3 _ (u4_lb Y) hb).mono ?_
   rintro e w4 ⟨rfl, hm4⟩
   rw [vl_nv Y, ← hD.out]
   obtain ⟨f1, f2⟩ := back_eq (Y := Y) (D := D) rfl
   rw [f1]
   rw [← Ht.out] at f2
   have hd := (ht0.mo hm4).put (l0 (Y + D)) (l1 (Y + D)) (l2 (Y + D)) (l3 (Y + D))
   have ht1 := ht0.mo hm4
   clear k1 k2 k3 d0 d1 d2 d3 y0 y1 y2 y3
   obtain ⟨k1, k2, k3, K4, K5, K6, ⟨y0, y1, y2, y3⟩, K8⟩ := ht1
   have K8 := fun o => K8 o
   clear K4 K5 K6
   generalize (Y % MM + D) / MM = c at *
   generalize ht2 : (Y + D) / MM % 18446744073709551616 = t2 at *
   have Ht2 : Hid _ := ht2
   clear ht2 f1
   go_wp2
   go_roundw
   case rel =>
    refine ⟨h - 1, t2, Y + D, rfl, rfl, by omega, by omega, ?_, ?_, J1.out, ?_, Ht2.out.symm, hd⟩
    ·rw [← Ht2.out]; omega
    ·rw [← Ht2.out]; omega
    ·rw [HY.out, Int.mul_sub, Int.mul_one]; omega
   case measure => simp [intOf]; omega
end Go.Proofs.YtogomodbcjpfiaaGreatDoor

