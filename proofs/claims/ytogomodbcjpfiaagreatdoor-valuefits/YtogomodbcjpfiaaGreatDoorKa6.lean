/-
  A part of the proof.
-/
import Derived.Test.YtogomodbcjpfiaaGreatDoorKa4
import Derived.Test.YtogomodbcjpfiaaGreatDoorKa1
import Derived.Test.YtogomodbcjpfiaaGreatDoorProg
import Derived.WalkKit
import Derived.WalkSpells
import Derived.Handy
import Derived.BigQuiet
import Derived.Deep.RegionHeld3
import Derived.Shelf.Small.Bits
import Derived.Shelf.Strconv.Itoa0
import Derived.Shelf.Bits.Mul64
import Derived.Deep.CutBlock
import Derived.Test.YtogomodbcjpfiaaGreatDoorKa5
namespace Go.Proofs.YtogomodbcjpfiaaGreatDoor
def sl (r : Nat) (a b : Int) : Int := a * 2 ^ r % 18446744073709551616 + b / 2 ^ (64 - r)
def sr (r : Nat) (a b : Int) : Int := a / 2 ^ r + b * 2 ^ (64 - r) % 18446744073709551616
theorem pq (r : Nat) (hr : r < 64) : (0 : Int) < 2 ^ r ∧ (0 : Int) < 2 ^ (64 - r) ∧ (2 : Int) ^ (64 - r) * 2 ^ r = 18446744073709551616 :=
 ⟨Int.pow_pos (by decide), Int.pow_pos (by decide), pow_split r (by omega)⟩
theorem sl_top (r : Nat) (hr : r < 64) (a : Int) : a * 2 ^ r % 18446744073709551616 = a % 2 ^ (64 - r) * 2 ^ r ∧ a * 2 ^ r / 18446744073709551616 = a / 2 ^ (64 - r) := by
 obtain ⟨hP, hQ, e⟩ := pq r hr
 rw [← e]
 have d : a * 2 ^ r / (2 ^ (64 - r) * 2 ^ r) = a / 2 ^ (64 - r) := Int.mul_ediv_mul_of_pos_left _ _ hP
 refine ⟨?_, d⟩
 rw [mod_sub, d, mod_sub a, Int.sub_mul, Int.mul_assoc]
theorem low_lt (r : Nat) (hr : r < 64) {b : Int} (hb : U1 b) : 0 ≤ b / 2 ^ (64 - r) ∧ b / 2 ^ (64 - r) < 2 ^ r := by
 obtain ⟨hP, hQ, e⟩ := pq r hr
 obtain ⟨b0, b1⟩ := hb
 refine ⟨Int.ediv_nonneg b0 (by omega), Int.ediv_lt_of_lt_mul hQ ?_⟩
 rw [Int.mul_comm, e]; exact b1
theorem sl_u (r : Nat) (hr : r < 64) {a b : Int} (_ha : U1 a) (hb : U1 b) : U1 (sl r a b) := by
 obtain ⟨hP, hQ, e⟩ := pq r hr
 obtain ⟨t1, t2⟩ := sl_top r hr a
 obtain ⟨w1, w2⟩ := low_lt r hr hb
 unfold sl
 have m0 := Int.emod_nonneg a (show (2 : Int) ^ (64 - r) ≠ 0 by omega)
 have m1 := Int.emod_lt_of_pos a hQ
 have k0 : 0 ≤ a % 2 ^ (64 - r) * 2 ^ r := Int.mul_nonneg m0 (by omega)
 have k1 : (a % 2 ^ (64 - r) + 1) * 2 ^ r ≤ 2 ^ (64 - r) * 2 ^ r := Int.mul_le_mul_of_nonneg_right (by omega) (by omega)
 rw [Int.add_mul, Int.one_mul, e] at k1
 rw [t1]
 exact ⟨by omega, by omega⟩
theorem sl_or (r : Nat) (hr : r < 64) {a b : Int} (ha : U1 a) (hb : U1 b) : Go.bits .or .u64 (Go.IntKind.u64.wrap (a * 2 ^ r)) (b / 2 ^ (64 - r)) = sl r a b := by
 obtain ⟨t1, t2⟩ := sl_top r hr a
 obtain ⟨w1, w2⟩ := low_lt r hr hb
 have u := sl_u r hr ha hb
 obtain ⟨hP, hQ, e⟩ := pq r hr
 have m0 := Int.emod_nonneg a (show (2 : Int) ^ (64 - r) ≠ 0 by omega)
 unfold sl at *
 rw [Go.IntKind.wrap_u64, t1] at *
 exact or_join _ _ r m0 w1 w2 u.2
theorem sl_0 (r : Nat) (a : Int) : Go.IntKind.u64.wrap (a * 2 ^ r) = sl r a 0 := by
 unfold sl; rw [Go.IntKind.wrap_u64, Int.zero_ediv, Int.add_zero]
theorem sl_vl (r : Nat) (hr : r < 64) {a0 a1 a2 a3 : Int} (ha : U4 a0 a1 a2 a3) :
  U4 (sl r a0 0) (sl r a1 a0) (sl r a2 a1) (sl r a3 a2) ∧ vl (sl r a0 0) (sl r a1 a0) (sl r a2 a1) (sl r a3 a2) + MM * (a3 / 2 ^ (64 - r)) = vl a0 a1 a2 a3 * 2 ^ r := by
 obtain ⟨g0, g1, g2, g3⟩ := ha
 refine ⟨⟨sl_u r hr g0 ⟨by decide, by decide⟩, sl_u r hr g1 g0, sl_u r hr g2 g1, sl_u r hr g3 g2⟩, ?_⟩
 have e0 := (sl_top r hr a0).2
 have e1 := (sl_top r hr a1).2
 have e2 := (sl_top r hr a2).2
 have e3 := (sl_top r hr a3).2
 have e : vl a0 a1 a2 a3 * 2 ^ r = a0 * 2 ^ r + 18446744073709551616 * (a1 * 2 ^ r) + 340282366920938463463374607431768211456 * (a2 * 2 ^ r) + 6277101735386680763835789423207666416102355444464034512896 * (a3 * 2 ^ r) := by
  unfold vl; rw [Int.add_mul, Int.add_mul, Int.add_mul, Int.mul_assoc, Int.mul_assoc, Int.mul_assoc]
 rw [e]
 unfold sl
 rw [Int.zero_ediv, ← e0, ← e1, ← e2, ← e3]
 generalize a0 * 2 ^ r = x0 at *
 generalize a1 * 2 ^ r = x1 at *
 generalize a2 * 2 ^ r = x2 at *
 generalize a3 * 2 ^ r = x3 at *
 unfold vl MM
 omega
theorem sr_parts (r : Nat) (hr : r < 64) {a b : Int} (ha : U1 a) (_hb : U1 b) : b * 2 ^ (64 - r) % 18446744073709551616 = b % 2 ^ r * 2 ^ (64 - r) ∧ 0 ≤ a / 2 ^ r ∧ a / 2 ^ r < 2 ^ (64 - r) ∧ 0 ≤ b % 2 ^ r ∧ (b % 2 ^ r + 1) * 2 ^ (64 - r) ≤ 18446744073709551616 ∧ 0 ≤ b % 2 ^ r * 2 ^ (64 - r) := by
 obtain ⟨hP, hQ, e⟩ := pq r hr
 obtain ⟨a0, a1⟩ := ha
 have m0 := Int.emod_nonneg b (show (2 : Int) ^ r ≠ 0 by omega)
 have m1 := Int.emod_lt_of_pos b hP
 refine ⟨?_, Int.ediv_nonneg a0 (by omega), Int.ediv_lt_of_lt_mul hP (by rw [e]; exact a1), m0, ?_, Int.mul_nonneg m0 (by omega)⟩
 ·rw [← e, Int.mul_comm (2 ^ (64 - r)) (2 ^ r)]
  have d : b * 2 ^ (64 - r) / (2 ^ r * 2 ^ (64 - r)) = b / 2 ^ r := Int.mul_ediv_mul_of_pos_left _ _ hQ
  rw [mod_sub, d, mod_sub b, Int.sub_mul, Int.mul_assoc]
 ·have := Int.mul_le_mul_of_nonneg_right (show b % 2 ^ r + 1 ≤ 2 ^ r by omega) (show (0 : Int) ≤ 2 ^ (64 - r) by omega)
  rw [Int.mul_comm (2 ^ r) (2 ^ (64 - r)), e] at this
  exact this
theorem sr_u (r : Nat) (hr : r < 64) {a b : Int} (ha : U1 a) (hb : U1 b) : U1 (sr r a b) := by
 obtain ⟨p1, p2, p3, p4, p5, p6⟩ := sr_parts r hr ha hb
 rw [Int.add_mul, Int.one_mul] at p5
 unfold sr
 rw [p1]
 exact ⟨by omega, by omega⟩
theorem or_join' (a b : Int) (k : Nat) (ha : 0 ≤ a) (hb : 0 ≤ b) (hb2 : b < 2 ^ k) (h : a * 2 ^ k + b < 18446744073709551616) : Go.bits .or .u64 b (a * 2 ^ k) = b + a * 2 ^ k := by
 have e := or_join a b k ha hb hb2 h
 obtain ⟨x, rfl⟩ := Int.eq_ofNat_of_zero_le ha
 obtain ⟨z, rfl⟩ := Int.eq_ofNat_of_zero_le hb
 have e1 : ((x * 2 ^ k : Nat) : Int) = (x : Int) * 2 ^ k := by rw [Int.natCast_mul, Int.natCast_pow]; rfl
 rw [← e1] at e h ⊢
 rw [Go.bits_or_u64_nat _ _ (by omega) (by omega)] at e ⊢
 rw [Nat.or_comm, e, Int.add_comm]
theorem sr_or (r : Nat) (hr : r < 64) {a b : Int} (ha : U1 a) (hb : U1 b) : Go.bits .or .u64 (a / 2 ^ r) (Go.IntKind.u64.wrap (b * 2 ^ (64 - r))) = sr r a b := by
 obtain ⟨p1, p2, p3, p4, p5, p6⟩ := sr_parts r hr ha hb
 have u := (sr_u r hr ha hb).2
 unfold sr at *
 rw [Go.IntKind.wrap_u64, p1] at *
 exact or_join' _ _ _ p4 p2 p3 (by omega)
theorem sr_0 (r : Nat) (a : Int) : a / 2 ^ r = sr r a 0 := by
 unfold sr; rw [Int.zero_mul, Int.zero_emod, Int.add_zero]
theorem sr_vl (r : Nat) (hr : r < 64) {a0 a1 a2 a3 : Int} (ha : U4 a0 a1 a2 a3) :
  U4 (sr r a0 a1) (sr r a1 a2) (sr r a2 a3) (sr r a3 0) ∧ vl (sr r a0 a1) (sr r a1 a2) (sr r a2 a3) (sr r a3 0) = vl a0 a1 a2 a3 / 2 ^ r := by
 obtain ⟨g0, g1, g2, g3⟩ := ha
 have gz : U1 0 := ⟨by decide, by decide⟩
 refine ⟨⟨sr_u r hr g0 g1, sr_u r hr g1 g2, sr_u r hr g2 g3, sr_u r hr g3 gz⟩, ?_⟩
 obtain ⟨hP, hQ, e⟩ := pq r hr
 have p1 := (sr_parts r hr g0 g1).1
 have p2 := (sr_parts r hr g1 g2).1
 have p3 := (sr_parts r hr g2 g3).1
 have d0 := Int.mul_ediv_add_emod a0 (2 ^ r)
 have d1 := Int.mul_ediv_add_emod a1 (2 ^ r)
 have d2 := Int.mul_ediv_add_emod a2 (2 ^ r)
 have d3 := Int.mul_ediv_add_emod a3 (2 ^ r)
 have m0 := Int.emod_nonneg a0 (show (2 : Int) ^ r ≠ 0 by omega)
 have m1 := Int.emod_lt_of_pos a0 hP
 have f : ∀ x : Int, 2 ^ r * (x * 2 ^ (64 - r)) = x * 18446744073709551616 := fun x => by rw [Int.mul_left_comm, Int.mul_comm (2 ^ r) (2 ^ (64 - r)), e]
 have key : vl a0 a1 a2 a3 = a0 % 2 ^ r + 2 ^ r * vl (sr r a0 a1) (sr r a1 a2) (sr r a2 a3) (sr r a3 0) := by
  have f1 := f (a1 % 2 ^ r)
  have f2 := f (a2 % 2 ^ r)
  have f3 := f (a3 % 2 ^ r)
  have ev : ∀ x y z t : Int, 2 ^ r * vl x y z t = 2 ^ r * x + 18446744073709551616 * (2 ^ r * y) + 340282366920938463463374607431768211456 * (2 ^ r * z) + 6277101735386680763835789423207666416102355444464034512896 * (2 ^ r * t) := fun x y z t => by
   unfold vl; rw [Int.mul_add, Int.mul_add, Int.mul_add, Int.mul_left_comm, Int.mul_left_comm (2 ^ r) _ z, Int.mul_left_comm (2 ^ r) _ t]
  rw [ev]
  unfold sr
  rw [p1, p2, p3, Int.zero_mul, Int.zero_emod]
  simp only [Int.mul_add, Int.add_zero, f1, f2, f3]
  unfold vl
  generalize 2 ^ r * (a0 / 2 ^ r) = y0 at *
  generalize 2 ^ r * (a1 / 2 ^ r) = y1 at *
  generalize 2 ^ r * (a2 / 2 ^ r) = y2 at *
  generalize 2 ^ r * (a3 / 2 ^ r) = y3 at *
  generalize a0 % 2 ^ r = n0 at *
  generalize a1 % 2 ^ r = n1 at *
  generalize a2 % 2 ^ r = n2 at *
  generalize a3 % 2 ^ r = n3 at *
  clear p1 p2 p3 f f1 f2 f3 ev e hP hQ m0 m1
  omega
 rw [key, Int.add_mul_ediv_left _ _ (by omega), Int.ediv_eq_zero_of_lt m0 m1, Int.zero_add]
end Go.Proofs.YtogomodbcjpfiaaGreatDoor

namespace Go.Proofs.YtogomodbcjpfiaaGreatDoor
theorem sh {v Y : Int} (_h0 : 0 ≤ v) (_h1 : v < 18446744073709551616) :
  l0 (v + 18446744073709551616 * Y) = v ∧ l1 (v + 18446744073709551616 * Y) = l0 Y ∧ l2 (v + 18446744073709551616 * Y) = l1 Y ∧ l3 (v + 18446744073709551616 * Y) = l2 Y ∧ l0 ((v + 18446744073709551616 * Y) / MM) = l3 Y ∧ l1 ((v + 18446744073709551616 * Y) / MM) = l0 (Y / MM) ∧ l2 ((v + 18446744073709551616 * Y) / MM) = l1 (Y / MM) ∧ l3 ((v + 18446744073709551616 * Y) / MM) = l2 (Y / MM) := by
 refine ⟨?_, ?_, ?_, ?_, ?_, ?_, ?_, ?_⟩ <;> simp only [l0, l1, l2, l3, MM] <;> omega
theorem row {p X R : Int} (_hp : 0 ≤ p) (_hp2 : p ≤ 2135987035920910082395021706169552114602704522356652769947041607822219725780640550022962086936576 - 115792089237316195423570985008687907853269984665640564039457584007913129639936) (_hX0 : 0 ≤ X) (_hX : X < MM) (_hR : R = p % MM) :
  l0 (X + R) = l0 (X + p) ∧ l1 (X + R) = l1 (X + p) ∧ l2 (X + R) = l2 (X + p) ∧ l3 (X + R) = l3 (X + p) ∧ p / MM + (X + R) / MM = l0 ((X + p) / MM) ∧ p / MM + (X + R) / MM < 18446744073709551616 ∧ 0 ≤ p / MM + (X + R) / MM ∧ l1 ((X + p) / MM) = 0 ∧ l2 ((X + p) / MM) = 0 ∧ l3 ((X + p) / MM) = 0 := by
 have e : p / MM + (X + R) / MM = (X + p) / MM := by unfold MM at *; omega
 have b1 : (X + p) / MM < 18446744073709551616 := by unfold MM at *; omega
 have b0 : 0 ≤ (X + p) / MM := by unfold MM at *; omega
 rw [e]
 refine ⟨?_, ?_, ?_, ?_, ?_, b1, b0, ?_, ?_, ?_⟩
 ·unfold l0; unfold MM at *; omega
 ·unfold l1; unfold MM at *; omega
 ·unfold l2; unfold MM at *; omega
 ·unfold l3; unfold MM at *; omega
 ·unfold l0; omega
 ·unfold l1; omega
 ·unfold l2; omega
 ·unfold l3; omega
theorem u_l0 (n : Int) : U1 (l0 n) := (u4_lb n).1
theorem u_l1 (n : Int) : U1 (l1 n) := (u4_lb n).2.1
theorem u_l2 (n : Int) : U1 (l2 n) := (u4_lb n).2.2.1
theorem u_l3 (n : Int) : U1 (l3 n) := (u4_lb n).2.2.2
theorem rnd {X p Y x0 x1 x2 x3 : Int} (hx : U4 x0 x1 x2 x3) (hX : vl x0 x1 x2 x3 = X) (hp : 0 ≤ p) (hp2 : p ≤ 2135987035920910082395021706169552114602704522356652769947041607822219725780640550022962086936576 - 115792089237316195423570985008687907853269984665640564039457584007913129639936) (hY : Y = X + p) :
  ∃ c1 c2 c3 c4, (x0 + l0 p) / 18446744073709551616 = c1 ∧ (x0 + l0 p) % 18446744073709551616 = l0 Y ∧ (x1 + l1 p + c1) / 18446744073709551616 = c2 ∧ (x1 + l1 p + c1) % 18446744073709551616 = l1 Y ∧ (x2 + l2 p + c2) / 18446744073709551616 = c3 ∧ (x2 + l2 p + c2) % 18446744073709551616 = l2 Y ∧ (x3 + l3 p + c3) / 18446744073709551616 = c4 ∧ (x3 + l3 p + c3) % 18446744073709551616 = l3 Y ∧ p / MM + c4 = l0 (Y / MM) ∧ (0 ≤ c1 ∧ c1 ≤ 1) ∧ (0 ≤ c2 ∧ c2 ≤ 1) ∧ (0 ≤ c3 ∧ c3 ≤ 1) ∧ (0 ≤ p / MM + c4 ∧ p / MM + c4 < 18446744073709551616) := by
 have hb := vl_bd hx
 obtain ⟨e0, e1, e2, e3, e4⟩ := addc_eq hx (u4_lb p) rfl
 rw [vl_nv p, hX] at e0 e1 e2 e3 e4
 rw [hX] at hb
 obtain ⟨f0, f1, f2, f3, f4, f5, f6, _⟩ := row hp hp2 hb.1 hb.2 rfl
 rw [← hY] at f0 f1 f2 f3 f4
 have g := u4_lb p
 unfold U4 U1 at hx g
 refine ⟨_, _, _, _, rfl, e0.trans f0, rfl, e1.trans f1, rfl, e2.trans f2, rfl, e3.trans f3, ?_, ?_, ?_, ?_, ?_⟩
 ·rw [e4]; exact f4
 ·omega
 ·omega
 ·omega
 ·rw [e4]; exact ⟨f6, f5⟩
theorem rnd0 {p : Int} (hp : 0 ≤ p) (hp2 : p ≤ 2135987035920910082395021706169552114602704522356652769947041607822219725780640550022962086936576 - 115792089237316195423570985008687907853269984665640564039457584007913129639936) :
  l0 p / 18446744073709551616 = 0 ∧ l0 p % 18446744073709551616 = l0 p ∧ l1 p / 18446744073709551616 = 0 ∧ l1 p % 18446744073709551616 = l1 p ∧ l2 p / 18446744073709551616 = 0 ∧ l2 p % 18446744073709551616 = l2 p ∧ l3 p / 18446744073709551616 = 0 ∧ l3 p % 18446744073709551616 = l3 p ∧ p / MM = l0 (p / MM) := by
 refine ⟨?_, ?_, ?_, ?_, ?_, ?_, ?_, ?_, ?_⟩ <;> simp only [l0, l1, l2, l3, MM] <;> omega
theorem up {Y : Int} (h0 : 0 ≤ Y) (h1 : Y < 2135987035920910082395021706169552114602704522356652769947041607822219725780640550022962086936576) : vl (l1 Y) (l2 Y) (l3 Y) (l0 (Y / MM)) = Y / 18446744073709551616 := by
 have e : (Y / MM) = Y / 18446744073709551616 / 6277101735386680763835789423207666416102355444464034512896 := by unfold MM; omega
 have b : Y / 18446744073709551616 < MM := by unfold MM; omega
 have b0 : 0 ≤ Y / 18446744073709551616 := by omega
 have e1 : l1 Y = l0 (Y / 18446744073709551616) := by unfold l1 l0; rfl
 have e2 : l2 Y = l1 (Y / 18446744073709551616) := by unfold l2 l1; omega
 have e3 : l3 Y = l2 (Y / 18446744073709551616) := by unfold l3 l2; omega
 have e4 : l0 (Y / MM) = l3 (Y / 18446744073709551616) := by rw [e]; unfold l0 l3; rfl
 rw [e1, e2, e3, e4, vl_lb _ b0 b]
theorem pbd {v c : Int} (h0 : 0 ≤ v) (h1 : v < MM) (hc : U1 c) : 0 ≤ v * c ∧ v * c ≤ 2135987035920910082395021706169552114602704522356652769947041607822219725780640550022962086936576 - 115792089237316195423570985008687907853269984665640564039457584007913129639936 - 18446744073709551615 := by
 obtain ⟨c0, c1⟩ := hc
 refine ⟨Int.mul_nonneg h0 c0, ?_⟩
 have := Int.mul_le_mul (a := v) (b := c) (c := 115792089237316195423570985008687907853269984665640564039457584007913129639935) (d := 18446744073709551615) (by unfold MM at h1; omega) (by omega) c0 (by decide)
 omega
theorem ybd {Y p Z : Int} (h0 : 0 ≤ Y) (h1 : Y < 2135987035920910082395021706169552114602704522356652769947041607822219725780640550022962086936576) (hp : 0 ≤ p) (hp2 : p ≤ 2135987035920910082395021706169552114602704522356652769947041607822219725780640550022962086936576 - 115792089237316195423570985008687907853269984665640564039457584007913129639936 - 18446744073709551615) (hZ : Z = Y / 18446744073709551616 + p) : 0 ≤ Z ∧ Z < 2135987035920910082395021706169552114602704522356652769947041607822219725780640550022962086936576 := by omega
theorem prod_eq {P Y0 Y1 Y2 Y3 p0 p1 p2 p3 : Int} (h0 : Y0 = p0) (h1 : Y1 = Y0 / 18446744073709551616 + p1) (h2 : Y2 = Y1 / 18446744073709551616 + p2) (h3 : Y3 = Y2 / 18446744073709551616 + p3) (hP : P = p0 + 18446744073709551616 * (p1 + 18446744073709551616 * (p2 + 18446744073709551616 * p3))) :
  l0 Y0 = l0 P ∧ l0 Y1 = l1 P ∧ l0 Y2 = l2 P ∧ l0 Y3 = l3 P ∧ l1 Y3 = l0 (P / MM) ∧ l2 Y3 = l1 (P / MM) ∧ l3 Y3 = l2 (P / MM) ∧ l0 (Y3 / MM) = l3 (P / MM) := by
 have e : P = l0 Y0 + 18446744073709551616 * (l0 Y1 + 18446744073709551616 * (l0 Y2 + 18446744073709551616 * Y3)) := by subst hP h3 h2 h1 h0; unfold l0; omega
 obtain ⟨a0, a1, a2, a3, a4, a5, a6, a7⟩ := sh (v := l0 Y0) (Y := l0 Y1 + 18446744073709551616 * (l0 Y2 + 18446744073709551616 * Y3)) (u_l0 _).1 (u_l0 _).2
 obtain ⟨b0, b1, b2, b3, b4, b5, b6, b7⟩ := sh (v := l0 Y1) (Y := l0 Y2 + 18446744073709551616 * Y3) (u_l0 _).1 (u_l0 _).2
 obtain ⟨c0, c1, c2, c3, c4, c5, c6, c7⟩ := sh (v := l0 Y2) (Y := Y3) (u_l0 _).1 (u_l0 _).2
 rw [← e] at a0 a1 a2 a3 a4 a5 a6 a7
 rw [a0, a1, a2, a3, a4, a5, a6, a7, b0, b1, b2, b3, b4, b5, b6, c0, c1, c2, c3, c4, c5]
 exact ⟨rfl, rfl, rfl, rfl, rfl, rfl, rfl, rfl⟩
theorem rnd0b {p : Int} (hp : 0 ≤ p) (hp2 : p ≤ 2135987035920910082395021706169552114602704522356652769947041607822219725780640550022962086936576 - 115792089237316195423570985008687907853269984665640564039457584007913129639936) : 0 ≤ p / MM ∧ p / MM < 18446744073709551616 := by unfold MM; omega
end Go.Proofs.YtogomodbcjpfiaaGreatDoor

namespace Go.Proofs.YtogomodbcjpfiaaGreatDoor
open Go.RowKit

set_option maxHeartbeats 2000000 in
theorem shl_0 (a0 a1 a2 a3 n x0 x1 x2 x3 : Int) (r : Nat) (w : World) (ha : U4 a0 a1 a2 a3) (hq : n / 64 = 0) (hr : n % 64 = (r : Int)) (_h64 : r < 64) (_hn0 : 0 ≤ n) (_hn : n ≤ 256) (e0 : IntKind.u64.wrap (a0 * 2 ^ r) = x0) (e1 : bits .or .u64 (IntKind.u64.wrap (a1 * 2 ^ r)) (a0 / 2 ^ (64 - r)) = x1) (e2 : bits .or .u64 (IntKind.u64.wrap (a2 * 2 ^ r)) (a1 / 2 ^ (64 - r)) = x2) (e3 : bits .or .u64 (IntKind.u64.wrap (a3 * 2 ^ r)) (a2 / 2 ^ (64 - r)) = x3) :
  Calls Tryz.prog 141 #[.agg #[.int .u64 a0, .int .u64 a1, .int .u64 a2, .int .u64 a3], .int .i64 n] w fun e w' =>
   e = .returned (.agg #[.int .u64 x0, .int .u64 x1, .int .u64 x2, .int .u64 x3]) ∧ Mo w w' := by
 obtain ⟨⟨p0, q0⟩, ⟨p1, q1⟩, ⟨p2, q2⟩, ⟨p3, q3⟩⟩ := ha
 go_enter Tryz.func141, Tryz.ntmps141
 go_wp2
 refine wp_loop_rounds 5 ?_
 rw [rounds_succ]
 go_wp2
 rw [rounds_succ]
 go_wp2
 go_region
 go_wp2
 rw [rounds_succ]
 go_wp2
 go_region
 go_wp2
 rw [rounds_succ]
 go_wp2
 go_region
 go_wp2
 rw [rounds_succ]
 go_wp2
 refine bodyPost_ret (v := .agg #[.int .u64 x0, .int .u64 x1, .int .u64 x2, .int .u64 x3]) (by simp [results, Tryz.results141, go_sem]) rfl ?_
 refine ⟨rfl, ?_⟩
 repeat (first | with_reducible exact Mo.refl _ | with_reducible apply Mo.drew | with_reducible apply Mo.drewN | with_reducible apply Mo.alloc | with_reducible refine Mo.setCell ?_ (by simp <;> omega) _ | with_reducible refine Mo.trans ?_ (by with_reducible assumption))

set_option maxHeartbeats 2000000 in
theorem shr_0 (a0 a1 a2 a3 n x0 x1 x2 x3 : Int) (r : Nat) (w : World) (ha : U4 a0 a1 a2 a3) (hq : n / 64 = 0) (hr : n % 64 = (r : Int)) (_h64 : r < 64) (_hn0 : 0 ≤ n) (_hn : n ≤ 256) (e0 : bits .or .u64 (a0 / 2 ^ r) (IntKind.u64.wrap (a1 * 2 ^ (64 - r))) = x0) (e1 : bits .or .u64 (a1 / 2 ^ r) (IntKind.u64.wrap (a2 * 2 ^ (64 - r))) = x1) (e2 : bits .or .u64 (a2 / 2 ^ r) (IntKind.u64.wrap (a3 * 2 ^ (64 - r))) = x2) (e3 : a3 / 2 ^ r = x3) :
  Calls Tryz.prog 142 #[.agg #[.int .u64 a0, .int .u64 a1, .int .u64 a2, .int .u64 a3], .int .i64 n] w fun e w' =>
   e = .returned (.agg #[.int .u64 x0, .int .u64 x1, .int .u64 x2, .int .u64 x3]) ∧ Mo w w' := by
 obtain ⟨⟨p0, q0⟩, ⟨p1, q1⟩, ⟨p2, q2⟩, ⟨p3, q3⟩⟩ := ha
 go_enter Tryz.func142, Tryz.ntmps142
 go_wp2
 refine wp_loop_rounds 5 ?_
 rw [rounds_succ]
 go_wp2
 go_region
 go_wp2
 rw [rounds_succ]
 go_wp2
 go_region
 go_wp2
 rw [rounds_succ]
 go_wp2
 go_region
 go_wp2
 rw [rounds_succ]
 go_wp2
 rw [rounds_succ]
 go_wp2
 refine bodyPost_ret (v := .agg #[.int .u64 x0, .int .u64 x1, .int .u64 x2, .int .u64 x3]) (by simp [results, Tryz.results142, go_sem]) rfl ?_
 refine ⟨rfl, ?_⟩
 repeat (first | with_reducible exact Mo.refl _ | with_reducible apply Mo.drew | with_reducible apply Mo.drewN | with_reducible apply Mo.alloc | with_reducible refine Mo.setCell ?_ (by simp <;> omega) _ | with_reducible refine Mo.trans ?_ (by with_reducible assumption))

set_option maxHeartbeats 2000000 in
theorem shl_1 (a0 a1 a2 a3 n x0 x1 x2 x3 : Int) (r : Nat) (w : World) (ha : U4 a0 a1 a2 a3) (hq : n / 64 = 1) (hr : n % 64 = (r : Int)) (_h64 : r < 64) (_hn0 : 0 ≤ n) (_hn : n ≤ 256) (e0 : IntKind.u64.wrap (a0 * 2 ^ r) = x0) (e1 : bits .or .u64 (IntKind.u64.wrap (a1 * 2 ^ r)) (a0 / 2 ^ (64 - r)) = x1) (e2 : bits .or .u64 (IntKind.u64.wrap (a2 * 2 ^ r)) (a1 / 2 ^ (64 - r)) = x2) (_e3 : bits .or .u64 (IntKind.u64.wrap (a3 * 2 ^ r)) (a2 / 2 ^ (64 - r)) = x3) :
  Calls Tryz.prog 141 #[.agg #[.int .u64 a0, .int .u64 a1, .int .u64 a2, .int .u64 a3], .int .i64 n] w fun e w' =>
   e = .returned (.agg #[.int .u64 0, .int .u64 x0, .int .u64 x1, .int .u64 x2]) ∧ Mo w w' := by
 obtain ⟨⟨p0, q0⟩, ⟨p1, q1⟩, ⟨p2, q2⟩, ⟨p3, q3⟩⟩ := ha
 go_enter Tryz.func141, Tryz.ntmps141
 go_wp2
 refine wp_loop_rounds 5 ?_
 rw [rounds_succ]
 go_wp2
 rw [rounds_succ]
 go_wp2
 go_region
 go_wp2
 rw [rounds_succ]
 go_wp2
 go_region
 go_wp2
 rw [rounds_succ]
 go_wp2
 refine bodyPost_ret (v := .agg #[.int .u64 0, .int .u64 x0, .int .u64 x1, .int .u64 x2]) (by simp [results, Tryz.results141, go_sem]) rfl ?_
 refine ⟨rfl, ?_⟩
 repeat (first | with_reducible exact Mo.refl _ | with_reducible apply Mo.drew | with_reducible apply Mo.drewN | with_reducible apply Mo.alloc | with_reducible refine Mo.setCell ?_ (by simp <;> omega) _ | with_reducible refine Mo.trans ?_ (by with_reducible assumption))

set_option maxHeartbeats 2000000 in
theorem shr_1 (a0 a1 a2 a3 n x0 x1 x2 x3 : Int) (r : Nat) (w : World) (ha : U4 a0 a1 a2 a3) (hq : n / 64 = 1) (hr : n % 64 = (r : Int)) (_h64 : r < 64) (_hn0 : 0 ≤ n) (_hn : n ≤ 256) (_e0 : bits .or .u64 (a0 / 2 ^ r) (IntKind.u64.wrap (a1 * 2 ^ (64 - r))) = x0) (e1 : bits .or .u64 (a1 / 2 ^ r) (IntKind.u64.wrap (a2 * 2 ^ (64 - r))) = x1) (e2 : bits .or .u64 (a2 / 2 ^ r) (IntKind.u64.wrap (a3 * 2 ^ (64 - r))) = x2) (e3 : a3 / 2 ^ r = x3) :
  Calls Tryz.prog 142 #[.agg #[.int .u64 a0, .int .u64 a1, .int .u64 a2, .int .u64 a3], .int .i64 n] w fun e w' =>
   e = .returned (.agg #[.int .u64 x1, .int .u64 x2, .int .u64 x3, .int .u64 0]) ∧ Mo w w' := by
 obtain ⟨⟨p0, q0⟩, ⟨p1, q1⟩, ⟨p2, q2⟩, ⟨p3, q3⟩⟩ := ha
 go_enter Tryz.func142, Tryz.ntmps142
 go_wp2
 refine wp_loop_rounds 5 ?_
 rw [rounds_succ]
 go_wp2
 go_region
 go_wp2
 rw [rounds_succ]
 go_wp2
 go_region
 go_wp2
 rw [rounds_succ]
 go_wp2
 rw [rounds_succ]
 go_wp2
 refine bodyPost_ret (v := .agg #[.int .u64 x1, .int .u64 x2, .int .u64 x3, .int .u64 0]) (by simp [results, Tryz.results142, go_sem]) rfl ?_
 refine ⟨rfl, ?_⟩
 repeat (first | with_reducible exact Mo.refl _ | with_reducible apply Mo.drew | with_reducible apply Mo.drewN | with_reducible apply Mo.alloc | with_reducible refine Mo.setCell ?_ (by simp <;> omega) _ | with_reducible refine Mo.trans ?_ (by with_reducible assumption))

set_option maxHeartbeats 2000000 in
theorem shl_2 (a0 a1 a2 a3 n x0 x1 x2 x3 : Int) (r : Nat) (w : World) (ha : U4 a0 a1 a2 a3) (hq : n / 64 = 2) (hr : n % 64 = (r : Int)) (_h64 : r < 64) (_hn0 : 0 ≤ n) (_hn : n ≤ 256) (e0 : IntKind.u64.wrap (a0 * 2 ^ r) = x0) (e1 : bits .or .u64 (IntKind.u64.wrap (a1 * 2 ^ r)) (a0 / 2 ^ (64 - r)) = x1) (_e2 : bits .or .u64 (IntKind.u64.wrap (a2 * 2 ^ r)) (a1 / 2 ^ (64 - r)) = x2) (_e3 : bits .or .u64 (IntKind.u64.wrap (a3 * 2 ^ r)) (a2 / 2 ^ (64 - r)) = x3) :
  Calls Tryz.prog 141 #[.agg #[.int .u64 a0, .int .u64 a1, .int .u64 a2, .int .u64 a3], .int .i64 n] w fun e w' =>
   e = .returned (.agg #[.int .u64 0, .int .u64 0, .int .u64 x0, .int .u64 x1]) ∧ Mo w w' := by
 obtain ⟨⟨p0, q0⟩, ⟨p1, q1⟩, ⟨p2, q2⟩, ⟨p3, q3⟩⟩ := ha
 go_enter Tryz.func141, Tryz.ntmps141
 go_wp2
 refine wp_loop_rounds 5 ?_
 rw [rounds_succ]
 go_wp2
 rw [rounds_succ]
 go_wp2
 go_region
 go_wp2
 rw [rounds_succ]
 go_wp2
 refine bodyPost_ret (v := .agg #[.int .u64 0, .int .u64 0, .int .u64 x0, .int .u64 x1]) (by simp [results, Tryz.results141, go_sem]) rfl ?_
 refine ⟨rfl, ?_⟩
 repeat (first | with_reducible exact Mo.refl _ | with_reducible apply Mo.drew | with_reducible apply Mo.drewN | with_reducible apply Mo.alloc | with_reducible refine Mo.setCell ?_ (by simp <;> omega) _ | with_reducible refine Mo.trans ?_ (by with_reducible assumption))

set_option maxHeartbeats 2000000 in
theorem shr_2 (a0 a1 a2 a3 n x0 x1 x2 x3 : Int) (r : Nat) (w : World) (ha : U4 a0 a1 a2 a3) (hq : n / 64 = 2) (hr : n % 64 = (r : Int)) (_h64 : r < 64) (_hn0 : 0 ≤ n) (_hn : n ≤ 256) (_e0 : bits .or .u64 (a0 / 2 ^ r) (IntKind.u64.wrap (a1 * 2 ^ (64 - r))) = x0) (_e1 : bits .or .u64 (a1 / 2 ^ r) (IntKind.u64.wrap (a2 * 2 ^ (64 - r))) = x1) (e2 : bits .or .u64 (a2 / 2 ^ r) (IntKind.u64.wrap (a3 * 2 ^ (64 - r))) = x2) (e3 : a3 / 2 ^ r = x3) :
  Calls Tryz.prog 142 #[.agg #[.int .u64 a0, .int .u64 a1, .int .u64 a2, .int .u64 a3], .int .i64 n] w fun e w' =>
   e = .returned (.agg #[.int .u64 x2, .int .u64 x3, .int .u64 0, .int .u64 0]) ∧ Mo w w' := by
 obtain ⟨⟨p0, q0⟩, ⟨p1, q1⟩, ⟨p2, q2⟩, ⟨p3, q3⟩⟩ := ha
 go_enter Tryz.func142, Tryz.ntmps142
 go_wp2
 refine wp_loop_rounds 5 ?_
 rw [rounds_succ]
 go_wp2
 go_region
 go_wp2
 rw [rounds_succ]
 go_wp2
 rw [rounds_succ]
 go_wp2
 refine bodyPost_ret (v := .agg #[.int .u64 x2, .int .u64 x3, .int .u64 0, .int .u64 0]) (by simp [results, Tryz.results142, go_sem]) rfl ?_
 refine ⟨rfl, ?_⟩
 repeat (first | with_reducible exact Mo.refl _ | with_reducible apply Mo.drew | with_reducible apply Mo.drewN | with_reducible apply Mo.alloc | with_reducible refine Mo.setCell ?_ (by simp <;> omega) _ | with_reducible refine Mo.trans ?_ (by with_reducible assumption))

set_option maxHeartbeats 2000000 in
theorem shl_3 (a0 a1 a2 a3 n x0 x1 x2 x3 : Int) (r : Nat) (w : World) (ha : U4 a0 a1 a2 a3) (hq : n / 64 = 3) (hr : n % 64 = (r : Int)) (_h64 : r < 64) (_hn0 : 0 ≤ n) (_hn : n ≤ 256) (e0 : IntKind.u64.wrap (a0 * 2 ^ r) = x0) (_e1 : bits .or .u64 (IntKind.u64.wrap (a1 * 2 ^ r)) (a0 / 2 ^ (64 - r)) = x1) (_e2 : bits .or .u64 (IntKind.u64.wrap (a2 * 2 ^ r)) (a1 / 2 ^ (64 - r)) = x2) (_e3 : bits .or .u64 (IntKind.u64.wrap (a3 * 2 ^ r)) (a2 / 2 ^ (64 - r)) = x3) :
  Calls Tryz.prog 141 #[.agg #[.int .u64 a0, .int .u64 a1, .int .u64 a2, .int .u64 a3], .int .i64 n] w fun e w' =>
   e = .returned (.agg #[.int .u64 0, .int .u64 0, .int .u64 0, .int .u64 x0]) ∧ Mo w w' := by
 obtain ⟨⟨p0, q0⟩, ⟨p1, q1⟩, ⟨p2, q2⟩, ⟨p3, q3⟩⟩ := ha
 go_enter Tryz.func141, Tryz.ntmps141
 go_wp2
 refine wp_loop_rounds 5 ?_
 rw [rounds_succ]
 go_wp2
 rw [rounds_succ]
 go_wp2
 refine bodyPost_ret (v := .agg #[.int .u64 0, .int .u64 0, .int .u64 0, .int .u64 x0]) (by simp [results, Tryz.results141, go_sem]) rfl ?_
 refine ⟨rfl, ?_⟩
 repeat (first | with_reducible exact Mo.refl _ | with_reducible apply Mo.drew | with_reducible apply Mo.drewN | with_reducible apply Mo.alloc | with_reducible refine Mo.setCell ?_ (by simp <;> omega) _ | with_reducible refine Mo.trans ?_ (by with_reducible assumption))

set_option maxHeartbeats 2000000 in
theorem shr_3 (a0 a1 a2 a3 n x0 x1 x2 x3 : Int) (r : Nat) (w : World) (ha : U4 a0 a1 a2 a3) (hq : n / 64 = 3) (hr : n % 64 = (r : Int)) (_h64 : r < 64) (_hn0 : 0 ≤ n) (_hn : n ≤ 256) (_e0 : bits .or .u64 (a0 / 2 ^ r) (IntKind.u64.wrap (a1 * 2 ^ (64 - r))) = x0) (_e1 : bits .or .u64 (a1 / 2 ^ r) (IntKind.u64.wrap (a2 * 2 ^ (64 - r))) = x1) (_e2 : bits .or .u64 (a2 / 2 ^ r) (IntKind.u64.wrap (a3 * 2 ^ (64 - r))) = x2) (e3 : a3 / 2 ^ r = x3) :
  Calls Tryz.prog 142 #[.agg #[.int .u64 a0, .int .u64 a1, .int .u64 a2, .int .u64 a3], .int .i64 n] w fun e w' =>
   e = .returned (.agg #[.int .u64 x3, .int .u64 0, .int .u64 0, .int .u64 0]) ∧ Mo w w' := by
 obtain ⟨⟨p0, q0⟩, ⟨p1, q1⟩, ⟨p2, q2⟩, ⟨p3, q3⟩⟩ := ha
 go_enter Tryz.func142, Tryz.ntmps142
 go_wp2
 refine wp_loop_rounds 5 ?_
 rw [rounds_succ]
 go_wp2
 rw [rounds_succ]
 go_wp2
 refine bodyPost_ret (v := .agg #[.int .u64 x3, .int .u64 0, .int .u64 0, .int .u64 0]) (by simp [results, Tryz.results142, go_sem]) rfl ?_
 refine ⟨rfl, ?_⟩
 repeat (first | with_reducible exact Mo.refl _ | with_reducible apply Mo.drew | with_reducible apply Mo.drewN | with_reducible apply Mo.alloc | with_reducible refine Mo.setCell ?_ (by simp <;> omega) _ | with_reducible refine Mo.trans ?_ (by with_reducible assumption))

set_option maxHeartbeats 2000000 in
theorem shl_4 (a0 a1 a2 a3 n : Int) (r : Nat) (w : World) (ha : U4 a0 a1 a2 a3) (hq : n / 64 = 4) (hr : n % 64 = (r : Int)) (_h64 : r < 64) (_hn0 : 0 ≤ n) (_hn : n ≤ 256) :
  Calls Tryz.prog 141 #[.agg #[.int .u64 a0, .int .u64 a1, .int .u64 a2, .int .u64 a3], .int .i64 n] w fun e w' =>
   e = .returned (.agg #[.int .u64 0, .int .u64 0, .int .u64 0, .int .u64 0]) ∧ Mo w w' := by
 obtain ⟨⟨p0, q0⟩, ⟨p1, q1⟩, ⟨p2, q2⟩, ⟨p3, q3⟩⟩ := ha
 go_enter Tryz.func141, Tryz.ntmps141
 go_wp2
 refine wp_loop_rounds 5 ?_
 rw [rounds_succ]
 go_wp2
 refine bodyPost_ret (v := .agg #[.int .u64 0, .int .u64 0, .int .u64 0, .int .u64 0]) (by simp [results, Tryz.results141, go_sem]) rfl ?_
 refine ⟨rfl, ?_⟩
 repeat (first | with_reducible exact Mo.refl _ | with_reducible apply Mo.drew | with_reducible apply Mo.drewN | with_reducible apply Mo.alloc | with_reducible refine Mo.setCell ?_ (by simp <;> omega) _ | with_reducible refine Mo.trans ?_ (by with_reducible assumption))

set_option maxHeartbeats 2000000 in
theorem shr_4 (a0 a1 a2 a3 n : Int) (r : Nat) (w : World) (ha : U4 a0 a1 a2 a3) (hq : n / 64 = 4) (hr : n % 64 = (r : Int)) (_h64 : r < 64) (_hn0 : 0 ≤ n) (_hn : n ≤ 256) :
  Calls Tryz.prog 142 #[.agg #[.int .u64 a0, .int .u64 a1, .int .u64 a2, .int .u64 a3], .int .i64 n] w fun e w' =>
   e = .returned (.agg #[.int .u64 0, .int .u64 0, .int .u64 0, .int .u64 0]) ∧ Mo w w' := by
 obtain ⟨⟨p0, q0⟩, ⟨p1, q1⟩, ⟨p2, q2⟩, ⟨p3, q3⟩⟩ := ha
 go_enter Tryz.func142, Tryz.ntmps142
 go_wp2
 refine wp_loop_rounds 5 ?_
 rw [rounds_succ]
 go_wp2
 refine bodyPost_ret (v := .agg #[.int .u64 0, .int .u64 0, .int .u64 0, .int .u64 0]) (by simp [results, Tryz.results142, go_sem]) rfl ?_
 refine ⟨rfl, ?_⟩
 repeat (first | with_reducible exact Mo.refl _ | with_reducible apply Mo.drew | with_reducible apply Mo.drewN | with_reducible apply Mo.alloc | with_reducible refine Mo.setCell ?_ (by simp <;> omega) _ | with_reducible refine Mo.trans ?_ (by with_reducible assumption))
end Go.Proofs.YtogomodbcjpfiaaGreatDoor

namespace Go.Proofs.YtogomodbcjpfiaaGreatDoor
open Go.RowKit
theorem nv_top (X c : Int) : nv (X + MM * c) = nv X := by
 rw [← nv_mod (X + MM * c), Int.add_mul_emod_self_left, nv_mod]
theorem nv_up (Y : Int) : nv (18446744073709551616 * Y) = .agg #[.int .u64 0, .int .u64 (l0 Y), .int .u64 (l1 Y), .int .u64 (l2 Y)] := by
 obtain ⟨a, b, c, d, _⟩ := sh (v := 0) (Y := Y) (by decide) (by decide)
 rw [Int.zero_add] at a b c d
 rw [nv, a, b, c, d]
theorem nv_down {Y : Int} (h0 : 0 ≤ Y) (h : Y < MM) : nv (Y / 18446744073709551616) = .agg #[.int .u64 (l1 Y), .int .u64 (l2 Y), .int .u64 (l3 Y), .int .u64 0] := by
 have a : l0 (Y / 18446744073709551616) = l1 Y := by unfold l0 l1; rfl
 have b : l1 (Y / 18446744073709551616) = l2 Y := by unfold l1 l2; omega
 have c : l2 (Y / 18446744073709551616) = l3 Y := by unfold l2 l3; omega
 have d : l3 (Y / 18446744073709551616) = 0 := by unfold l3; unfold MM at h; omega
 rw [nv, a, b, c, d]
theorem cases64 (n : Int) (h0 : 0 ≤ n) (h : n ≤ 256) : ∃ r : Nat, r < 64 ∧ n % 64 = (r : Int) ∧ (n / 64 = 0 ∨ n / 64 = 1 ∨ n / 64 = 2 ∨ n / 64 = 3 ∨ n / 64 = 4) :=
 ⟨(n % 64).toNat, by omega, by omega, by omega⟩
theorem pow64 (n : Int) (r k : Nat) (h0 : 0 ≤ n) (hr : n % 64 = (r : Int)) (hk : n / 64 = (k : Int)) : (2 : Int) ^ n.toNat = 2 ^ r * 18446744073709551616 ^ k := by
 rw [show n.toNat = r + 64 * k from by omega, Int.pow_add, Int.pow_mul]; rfl
theorem shl_any (a0 a1 a2 a3 n : Int) (w : World) (ha : U4 a0 a1 a2 a3) (h0 : 0 ≤ n) (h : n ≤ 256) :
  Calls Tryz.prog 141 #[.agg #[.int .u64 a0, .int .u64 a1, .int .u64 a2, .int .u64 a3], .int .i64 n] w fun e w' =>
   e = .returned (nv (vl a0 a1 a2 a3 * 2 ^ n.toNat)) ∧ Mo w w' := by
 obtain ⟨r, hr, er, hq⟩ := cases64 n h0 h
 obtain ⟨u, e⟩ := sl_vl r hr ha
 have g := ha
 obtain ⟨g0, g1, g2, g3⟩ := g
 have c0 := sl_0 r a0
 have c1 := sl_or r hr g1 g0
 have c2 := sl_or r hr g2 g1
 have c3 := sl_or r hr g3 g2
 generalize sl r a0 0 = x0 at *
 generalize sl r a1 a0 = x1 at *
 generalize sl r a2 a1 = x2 at *
 generalize sl r a3 a2 = x3 at *
 rcases hq with hq | hq | hq | hq | hq
 ·rw [pow64 n r 0 h0 er hq, Int.pow_zero, Int.mul_one, ← e, nv_top, nv_vl u]
  exact shl_0 a0 a1 a2 a3 n x0 x1 x2 x3 r w ha hq er hr h0 h c0 c1 c2 c3
 ·rw [pow64 n r 1 h0 er hq, ← Int.mul_assoc, ← e, show ∀ t : Int, t * 18446744073709551616 ^ 1 = 18446744073709551616 * t from fun t => by rw [Int.pow_one, Int.mul_comm], Int.mul_add, Int.mul_left_comm, nv_top, nv_up, l0_vl u, l1_vl u, l2_vl u]
  exact shl_1 a0 a1 a2 a3 n x0 x1 x2 x3 r w ha hq er hr h0 h c0 c1 c2 c3
 ·rw [pow64 n r 2 h0 er hq, ← Int.mul_assoc, ← e, show ∀ t : Int, t * 18446744073709551616 ^ 2 = 18446744073709551616 * (18446744073709551616 * t) from fun t => by omega, Int.mul_add, Int.mul_left_comm _ MM, Int.mul_add, Int.mul_left_comm _ MM, nv_top, nv_up]
  obtain ⟨a, b, c, _⟩ := sh (v := 0) (Y := vl x0 x1 x2 x3) (by decide) (by decide)
  rw [Int.zero_add] at a b c
  rw [a, b, c, l0_vl u, l1_vl u]
  exact shl_2 a0 a1 a2 a3 n x0 x1 x2 x3 r w ha hq er hr h0 h c0 c1 c2 c3
 ·have k : nv (vl a0 a1 a2 a3 * 2 ^ n.toNat) = .agg #[.int .u64 0, .int .u64 0, .int .u64 0, .int .u64 x0] := by
   rw [pow64 n r 3 h0 er hq, ← Int.mul_assoc, ← e]
   have i0 := l0_vl u
   generalize hX : vl x0 x1 x2 x3 = X at *
   have s0 : l0 ((X + MM * (a3 / 2 ^ (64 - r))) * 18446744073709551616 ^ 3) = 0 := by unfold l0 MM; omega
   have s1 : l1 ((X + MM * (a3 / 2 ^ (64 - r))) * 18446744073709551616 ^ 3) = 0 := by unfold l1 MM; omega
   have s2 : l2 ((X + MM * (a3 / 2 ^ (64 - r))) * 18446744073709551616 ^ 3) = 0 := by unfold l2 MM; omega
   have s3 : l3 ((X + MM * (a3 / 2 ^ (64 - r))) * 18446744073709551616 ^ 3) = l0 X := by unfold l3 l0 MM; omega
   rw [nv, s0, s1, s2, s3, i0]
  rw [k]
  exact shl_3 a0 a1 a2 a3 n x0 x1 x2 x3 r w ha hq er hr h0 h c0 c1 c2 c3
 ·have k : nv (vl a0 a1 a2 a3 * 2 ^ n.toNat) = .agg #[.int .u64 0, .int .u64 0, .int .u64 0, .int .u64 0] := by
   rw [pow64 n r 4 h0 er hq, ← Int.mul_assoc, ← nv_mod, show ((18446744073709551616 : Int) ^ 4) = MM from by decide, Int.mul_emod_left]
   simp [nv, l0, l1, l2, l3]
  rw [k]
  exact shl_4 a0 a1 a2 a3 n r w ha hq er hr h0 h
theorem shr_any (a0 a1 a2 a3 n : Int) (w : World) (ha : U4 a0 a1 a2 a3) (h0 : 0 ≤ n) (h : n ≤ 256) :
  Calls Tryz.prog 142 #[.agg #[.int .u64 a0, .int .u64 a1, .int .u64 a2, .int .u64 a3], .int .i64 n] w fun e w' =>
   e = .returned (nv (vl a0 a1 a2 a3 / 2 ^ n.toNat)) ∧ Mo w w' := by
 obtain ⟨r, hr, er, hq⟩ := cases64 n h0 h
 obtain ⟨u, e⟩ := sr_vl r hr ha
 have hP := (pq r hr).1
 have bd := vl_bd ha
 have g := ha
 obtain ⟨g0, g1, g2, g3⟩ := g
 have c0 := sr_or r hr g0 g1
 have c1 := sr_or r hr g1 g2
 have c2 := sr_or r hr g2 g3
 have c3 := sr_0 r a3
 generalize sr r a0 a1 = x0 at *
 generalize sr r a1 a2 = x1 at *
 generalize sr r a2 a3 = x2 at *
 generalize sr r a3 0 = x3 at *
 have ub := vl_bd u
 have q : ∀ k : Nat, n / 64 = (k : Int) → vl a0 a1 a2 a3 / 2 ^ n.toNat = vl x0 x1 x2 x3 / 18446744073709551616 ^ k := fun k hk => by
  rw [pow64 n r k h0 er hk, e, Int.ediv_ediv_of_nonneg (by omega)]
 rcases hq with hq | hq | hq | hq | hq
 ·rw [q 0 hq, Int.pow_zero, Int.ediv_one, nv_vl u]
  exact shr_0 a0 a1 a2 a3 n x0 x1 x2 x3 r w ha hq er hr h0 h c0 c1 c2 c3
 ·rw [q 1 hq, Int.pow_one, nv_down ub.1 ub.2, l1_vl u, l2_vl u, l3_vl u]
  exact shr_1 a0 a1 a2 a3 n x0 x1 x2 x3 r w ha hq er hr h0 h c0 c1 c2 c3
 ·have k : nv (vl a0 a1 a2 a3 / 2 ^ n.toNat) = .agg #[.int .u64 x2, .int .u64 x3, .int .u64 0, .int .u64 0] := by
   rw [q 2 hq]
   unfold U4 U1 at u
   have s0 : l0 (vl x0 x1 x2 x3 / 18446744073709551616 ^ 2) = x2 := by unfold l0 vl; omega
   have s1 : l1 (vl x0 x1 x2 x3 / 18446744073709551616 ^ 2) = x3 := by unfold l1 vl; omega
   have s2 : l2 (vl x0 x1 x2 x3 / 18446744073709551616 ^ 2) = 0 := by unfold l2 vl; omega
   have s3 : l3 (vl x0 x1 x2 x3 / 18446744073709551616 ^ 2) = 0 := by unfold l3 vl; omega
   rw [nv, s0, s1, s2, s3]
  rw [k]
  exact shr_2 a0 a1 a2 a3 n x0 x1 x2 x3 r w ha hq er hr h0 h c0 c1 c2 c3
 ·have k : nv (vl a0 a1 a2 a3 / 2 ^ n.toNat) = .agg #[.int .u64 x3, .int .u64 0, .int .u64 0, .int .u64 0] := by
   rw [q 3 hq]
   unfold U4 U1 at u
   have s0 : l0 (vl x0 x1 x2 x3 / 18446744073709551616 ^ 3) = x3 := by unfold l0 vl; omega
   have s1 : l1 (vl x0 x1 x2 x3 / 18446744073709551616 ^ 3) = 0 := by unfold l1 vl; omega
   have s2 : l2 (vl x0 x1 x2 x3 / 18446744073709551616 ^ 3) = 0 := by unfold l2 vl; omega
   have s3 : l3 (vl x0 x1 x2 x3 / 18446744073709551616 ^ 3) = 0 := by unfold l3 vl; omega
   rw [nv, s0, s1, s2, s3]
  rw [k]
  exact shr_3 a0 a1 a2 a3 n x0 x1 x2 x3 r w ha hq er hr h0 h c0 c1 c2 c3
 ·have k : nv (vl a0 a1 a2 a3 / 2 ^ n.toNat) = .agg #[.int .u64 0, .int .u64 0, .int .u64 0, .int .u64 0] := by
   rw [q 4 hq, show ((18446744073709551616 : Int) ^ 4) = MM from by decide, Int.ediv_eq_zero_of_lt ub.1 ub.2]
   simp [nv, l0, l1, l2, l3]
  rw [k]
  exact shr_4 a0 a1 a2 a3 n r w ha hq er hr h0 h
end Go.Proofs.YtogomodbcjpfiaaGreatDoor

namespace Go.Proofs.YtogomodbcjpfiaaGreatDoor
open Go.RowKit
theorem bl_le {a : Int} (h : U1 a) (h0 : a ≠ 0) : (Lib.bitLen a.toNat : Int) ≤ 64 ∧ (0 : Int) ≤ Lib.bitLen a.toNat := by
 obtain ⟨p, q⟩ := h
 obtain ⟨b1, b2, b3, b4⟩ := bitLen_bd 64 a.toNat (by omega) (by omega) (by omega)
 omega
set_option maxHeartbeats 1000000 in
theorem bits_any (a0 a1 a2 a3 : Int) (w : World) (ha : U4 a0 a1 a2 a3) :
  Calls Tryz.prog 140 #[.agg #[.int .u64 a0, .int .u64 a1, .int .u64 a2, .int .u64 a3]] w fun e w' =>
   e = .returned (.int .i64 (bln (vl a0 a1 a2 a3))) ∧ Mo w w' := by
 have fin : ∀ (r : Int) (w' : World), r = bln (vl a0 a1 a2 a3) → Mo w w' → (Ending.returned (.int .i64 r) = .returned (.int .i64 (bln (vl a0 a1 a2 a3))) ∧ Mo w w') := fun r w' h m => ⟨ret_int h, m⟩
 obtain ⟨g0, g1, g2, g3⟩ := ha
 have g := g0
 have g' := g1
 have g'' := g2
 have g''' := g3
 obtain ⟨p0, q0⟩ := g
 obtain ⟨p1, q1⟩ := g'
 obtain ⟨p2, q2⟩ := g''
 obtain ⟨p3, q3⟩ := g'''
 go_enter Tryz.func140, Tryz.ntmps140
 go_wp2
 refine wp_loop_rounds 5 ?_
 rw [rounds_succ]
 by_cases h3 : a3 = 0
 ·have e3 : (a3 != 0) = false := by simp [h3]
  have H3 : Hid _ := h3
  clear h3
  go_wp2
  rw [rounds_succ]
  by_cases h2 : a2 = 0
  ·have e2 : (a2 != 0) = false := by simp [h2]
   have H2 : Hid _ := h2
   clear h2
   go_wp2
   rw [rounds_succ]
   by_cases h1 : a1 = 0
   ·have e1 : (a1 != 0) = false := by simp [h1]
    have H1 : Hid _ := h1
    clear h1
    go_wp2
    rw [rounds_succ]
    by_cases h0 : a0 = 0
    ·have e0 : (a0 != 0) = false := by simp [h0]
     have H0 : Hid _ := h0
     clear h0
     go_wp2
     rw [rounds_succ]
     go_wp2
     go_ret
     refine fin _ _ ?_ ((Mo.refl _).alloc _ _)
     rw [H0.out, H1.out, H2.out, H3.out]; decide
    ·have e0 : (a0 != 0) = true := by simp [h0]
     have b := bl_le g0 h0
     obtain ⟨b1, b2⟩ := b
     go_wp2_with (go_at_call 153; refine (Tryz.bits_Len64 a0 _ (by omega) (by omega)).mono ?_; rintro e w' ⟨rfl, rfl⟩)
     go_ret
     refine fin _ _ ?_ ((Mo.refl _).alloc _ _)
     have k := bln_join (a := a0) (low := 0) 0 (by omega) q0 (by omega) (by decide)
     rw [H1.out, H2.out, H3.out, show vl a0 0 0 0 = a0 * 2 ^ 0 + 0 from by unfold vl; omega, k]; simp
   ·have e1 : (a1 != 0) = true := by simp [h1]
    have b := bl_le g1 h1
    obtain ⟨b1, b2⟩ := b
    go_wp2_with (go_at_call 153; refine (Tryz.bits_Len64 a1 _ (by omega) (by omega)).mono ?_; rintro e w' ⟨rfl, rfl⟩)
    go_ret
    refine fin _ _ ?_ ((Mo.refl _).alloc _ _)
    have k := bln_join (a := a1) (low := a0) 64 (by omega) q1 (by omega) (by omega)
    rw [H2.out, H3.out, show vl a0 a1 0 0 = a1 * 2 ^ 64 + a0 from by unfold vl; omega, k]; simp
  ·have e2 : (a2 != 0) = true := by simp [h2]
   have b := bl_le g2 h2
   obtain ⟨b1, b2⟩ := b
   go_wp2_with (go_at_call 153; refine (Tryz.bits_Len64 a2 _ (by omega) (by omega)).mono ?_; rintro e w' ⟨rfl, rfl⟩)
   go_ret
   refine fin _ _ ?_ ((Mo.refl _).alloc _ _)
   have k := bln_join (a := a2) (low := a0 + 18446744073709551616 * a1) 128 (by omega) q2 (by omega) (by omega)
   rw [H3.out, show vl a0 a1 a2 0 = a2 * 2 ^ 128 + (a0 + 18446744073709551616 * a1) from by unfold vl; omega, k]; simp
 ·have e3 : (a3 != 0) = true := by simp [h3]
  have b := bl_le g3 h3
  obtain ⟨b1, b2⟩ := b
  go_wp2_with (go_at_call 153; refine (Tryz.bits_Len64 a3 _ (by omega) (by omega)).mono ?_; rintro e w' ⟨rfl, rfl⟩)
  go_ret
  refine fin _ _ ?_ ((Mo.refl _).alloc _ _)
  have k := bln_join (a := a3) (low := a0 + 18446744073709551616 * a1 + 340282366920938463463374607431768211456 * a2) 192 (by omega) q3 (by omega) (by omega)
  rw [show vl a0 a1 a2 a3 = a3 * 2 ^ 192 + (a0 + 18446744073709551616 * a1 + 340282366920938463463374607431768211456 * a2) from by unfold vl; omega, k]; simp
end Go.Proofs.YtogomodbcjpfiaaGreatDoor

namespace Go.Proofs.YtogomodbcjpfiaaGreatDoor
open Go.RowKit

set_option maxHeartbeats 4000000 in
theorem cmp15_any (a0 a1 a2 a3 b0 b1 b2 b3 : Int) (w : World) (ha : U4 a0 a1 a2 a3) (hb : U4 b0 b1 b2 b3) :
  Calls Tryz.prog 114 #[.agg #[.int .u64 a0, .int .u64 a1, .int .u64 a2, .int .u64 a3], .agg #[.int .u64 b0, .int .u64 b1, .int .u64 b2, .int .u64 b3]] w fun e w' =>
   e = .returned (.int .i64 (cm (vl a0 a1 a2 a3) (vl b0 b1 b2 b3))) ∧ Mo w w' := by
 have fin : ∀ (r : Int) (w' : World), r = cm (vl a0 a1 a2 a3) (vl b0 b1 b2 b3) → Mo w w' → (Ending.returned (.int .i64 r) = .returned (.int .i64 (cm (vl a0 a1 a2 a3) (vl b0 b1 b2 b3))) ∧ Mo w w') := fun r w' h m => ⟨ret_int h, m⟩
 obtain ⟨⟨p0, q0⟩, ⟨p1, q1⟩, ⟨p2, q2⟩, ⟨p3, q3⟩⟩ := ha
 obtain ⟨⟨r0, s0⟩, ⟨r1, s1⟩, ⟨r2, s2⟩, ⟨r3, s3⟩⟩ := hb
 go_enter Tryz.func114, Tryz.ntmps114
 go_wp2
 refine wp_loop_rounds 5 ?_
 rw [rounds_succ]
 by_cases h3 : a3 < b3
 ·go_wp2
  go_quiet (fail)
  go_wp2
  go_ret
  refine fin _ _ (by unfold cm vl; split <;> (try split) <;> omega) ?_
  repeat (first | exact Mo.refl _ | apply Mo.drew | apply Mo.drewN | apply Mo.alloc)
 by_cases h3' : b3 < a3
 ·go_wp2
  go_quiet (fail)
  go_wp2
  go_quiet (fail)
  go_wp2
  go_ret
  refine fin _ _ (by unfold cm vl; split <;> (try split) <;> omega) ?_
  repeat (first | exact Mo.refl _ | apply Mo.drew | apply Mo.drewN | apply Mo.alloc)
 go_wp2
 go_quiet (fail)
 go_wp2
 go_quiet (fail)
 go_wp2
 rw [rounds_succ]
 by_cases h2 : a2 < b2
 ·go_wp2
  go_quiet (fail)
  go_wp2
  go_ret
  refine fin _ _ (by unfold cm vl; split <;> (try split) <;> omega) ?_
  repeat (first | exact Mo.refl _ | apply Mo.drew | apply Mo.drewN | apply Mo.alloc)
 by_cases h2' : b2 < a2
 ·go_wp2
  go_quiet (fail)
  go_wp2
  go_quiet (fail)
  go_wp2
  go_ret
  refine fin _ _ (by unfold cm vl; split <;> (try split) <;> omega) ?_
  repeat (first | exact Mo.refl _ | apply Mo.drew | apply Mo.drewN | apply Mo.alloc)
 go_wp2
 go_quiet (fail)
 go_wp2
 go_quiet (fail)
 go_wp2
 rw [rounds_succ]
 by_cases h1 : a1 < b1
 ·go_wp2
  go_quiet (fail)
  go_wp2
  go_ret
  refine fin _ _ (by unfold cm vl; split <;> (try split) <;> omega) ?_
  repeat (first | exact Mo.refl _ | apply Mo.drew | apply Mo.drewN | apply Mo.alloc)
 by_cases h1' : b1 < a1
 ·go_wp2
  go_quiet (fail)
  go_wp2
  go_quiet (fail)
  go_wp2
  go_ret
  refine fin _ _ (by unfold cm vl; split <;> (try split) <;> omega) ?_
  repeat (first | exact Mo.refl _ | apply Mo.drew | apply Mo.drewN | apply Mo.alloc)
 go_wp2
 go_quiet (fail)
 go_wp2
 go_quiet (fail)
 go_wp2
 rw [rounds_succ]
 by_cases h0 : a0 < b0
 ·go_wp2
  go_quiet (fail)
  go_wp2
  go_ret
  refine fin _ _ (by unfold cm vl; split <;> (try split) <;> omega) ?_
  repeat (first | exact Mo.refl _ | apply Mo.drew | apply Mo.drewN | apply Mo.alloc)
 by_cases h0' : b0 < a0
 ·go_wp2
  go_quiet (fail)
  go_wp2
  go_quiet (fail)
  go_wp2
  go_ret
  refine fin _ _ (by unfold cm vl; split <;> (try split) <;> omega) ?_
  repeat (first | exact Mo.refl _ | apply Mo.drew | apply Mo.drewN | apply Mo.alloc)
 go_wp2
 go_quiet (fail)
 go_wp2
 go_quiet (fail)
 go_wp2
 rw [rounds_succ]
 go_wp2
 go_ret
 refine fin _ _ (by unfold cm vl; split <;> (try split) <;> omega) ?_
 repeat (first | exact Mo.refl _ | apply Mo.drew | apply Mo.drewN | apply Mo.alloc)

end Go.Proofs.YtogomodbcjpfiaaGreatDoor

