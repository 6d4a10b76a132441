/-
  A part of the proof.
-/
import Derived.Test.YthehmmhnacomkaaKa6
import Derived.Test.YthehmmhnacomkaaKa4
import Derived.Test.YthehmmhnacomkaaKa1
import Derived.Test.YthehmmhnacomkaaProg
import Derived.WalkKit
import Derived.WalkSpells
import Derived.Handy
import Derived.BigQuiet
import Derived.Deep.RegionHeld3
import Derived.Test.YthehmmhnacomkaaKa3
import Derived.Shelf.Small.Bits
import Derived.Shelf.Strconv.Itoa0
import Derived.Shelf.Bits.Mul64
import Derived.Deep.CutBlock
import Derived.Test.YthehmmhnacomkaaKa5
import Derived.Deep.CutRange
import Derived.ChangeKeysEq
namespace Go.Proofs.Ythehmmhnacomkaa
open Go.RowKit
theorem nv_top (X c : Int) : nv (X + MM * c) = nv X := by
 rw [← nv_mod (X + MM * c), Int.add_mul_emod_self_left, nv_mod]
theorem nv_up (Y : Int) : nv (18446744073709551616 * Y) = .agg #[.int .u64 0, .int .u64 (l0 Y), .int .u64 (l1 Y), .int .u64 (l2 Y)] := by
 obtain ⟨a, b, c, d, _⟩ := sh (v := 0) (Y := Y) (by decide) (by decide)
 rw [Int.zero_add] at a b c d
 rw [nv, a, b, c, d]
theorem nv_down {Y : Int} (h0 : 0 ≤ Y) (h : Y < MM) : nv (Y / 18446744073709551616) = .agg #[.int .u64 (l1 Y), .int .u64 (l2 Y), .int .u64 (l3 Y), .int .u64 0] := by
 have a : l0 (Y / 18446744073709551616) = l1 Y := by unfold l0 l1; rfl
 have b : l1 (Y / 18446744073709551616) = l2 Y := by unfold l1 l2; omega
 have c : l2 (Y / 18446744073709551616) = l3 Y := by unfold l2 l3; omega
 have d : l3 (Y / 18446744073709551616) = 0 := by unfold l3; unfold MM at h; omega
 rw [nv, a, b, c, d]
theorem cases64 (n : Int) (h0 : 0 ≤ n) (h : n ≤ 256) : ∃ r : Nat, r < 64 ∧ n % 64 = (r : Int) ∧ (n / 64 = 0 ∨ n / 64 = 1 ∨ n / 64 = 2 ∨ n / 64 = 3 ∨ n / 64 = 4) :=
 ⟨(n % 64).toNat, by omega, by omega, by omega⟩
theorem pow64 (n : Int) (r k : Nat) (h0 : 0 ≤ n) (hr : n % 64 = (r : Int)) (hk : n / 64 = (k : Int)) : (2 : Int) ^ n.toNat = 2 ^ r * 18446744073709551616 ^ k := by
 rw [show n.toNat = r + 64 * k from by omega, Int.pow_add, Int.pow_mul]; rfl
theorem shl_any (a0 a1 a2 a3 n : Int) (w : World) (ha : U4 a0 a1 a2 a3) (h0 : 0 ≤ n) (h : n ≤ 256) :
  Calls Try.prog 98 #[.agg #[.int .u64 a0, .int .u64 a1, .int .u64 a2, .int .u64 a3], .int .i64 n] w fun e w' =>
   e = .returned (nv (vl a0 a1 a2 a3 * 2 ^ n.toNat)) ∧ Mo w w' := by
 obtain ⟨r, hr, er, hq⟩ := cases64 n h0 h
 obtain ⟨u, e⟩ := sl_vl r hr ha
 have g := ha
 obtain ⟨g0, g1, g2, g3⟩ := g
 have c0 := sl_0 r a0
 have c1 := sl_or r hr g1 g0
 have c2 := sl_or r hr g2 g1
 have c3 := sl_or r hr g3 g2
 generalize sl r a0 0 = x0 at *
 generalize sl r a1 a0 = x1 at *
 generalize sl r a2 a1 = x2 at *
 generalize sl r a3 a2 = x3 at *
 rcases hq with hq | hq | hq | hq | hq
 ·rw [pow64 n r 0 h0 er hq, Int.pow_zero, Int.mul_one, ← e, nv_top, nv_vl u]
  exact shl_0 a0 a1 a2 a3 n x0 x1 x2 x3 r w ha hq er hr h0 h c0 c1 c2 c3
 ·rw [pow64 n r 1 h0 er hq, ← Int.mul_assoc, ← e, show ∀ t : Int, t * 18446744073709551616 ^ 1 = 18446744073709551616 * t from fun t => by rw [Int.pow_one, Int.mul_comm], Int.mul_add, Int.mul_left_comm, nv_top, nv_up, l0_vl u, l1_vl u, l2_vl u]
  exact shl_1 a0 a1 a2 a3 n x0 x1 x2 x3 r w ha hq er hr h0 h c0 c1 c2 c3
 ·rw [pow64 n r 2 h0 er hq, ← Int.mul_assoc, ← e, show ∀ t : Int, t * 18446744073709551616 ^ 2 = 18446744073709551616 * (18446744073709551616 * t) from fun t => by omega, Int.mul_add, Int.mul_left_comm _ MM, Int.mul_add, Int.mul_left_comm _ MM, nv_top, nv_up]
  obtain ⟨a, b, c, _⟩ := sh (v := 0) (Y := vl x0 x1 x2 x3) (by decide) (by decide)
  rw [Int.zero_add] at a b c
  rw [a, b, c, l0_vl u, l1_vl u]
  exact shl_2 a0 a1 a2 a3 n x0 x1 x2 x3 r w ha hq er hr h0 h c0 c1 c2 c3
 ·have k : nv (vl a0 a1 a2 a3 * 2 ^ n.toNat) = .agg #[.int .u64 0, .int .u64 0, .int .u64 0, .int .u64 x0] := by
   rw [pow64 n r 3 h0 er hq, ← Int.mul_assoc, ← e]
   have i0 := l0_vl u
   generalize hX : vl x0 x1 x2 x3 = X at *
   have s0 : l0 ((X + MM * (a3 / 2 ^ (64 - r))) * 18446744073709551616 ^ 3) = 0 := by unfold l0 MM; omega
   have s1 : l1 ((X + MM * (a3 / 2 ^ (64 - r))) * 18446744073709551616 ^ 3) = 0 := by unfold l1 MM; omega
   have s2 : l2 ((X + MM * (a3 / 2 ^ (64 - r))) * 18446744073709551616 ^ 3) = 0 := by unfold l2 MM; omega
   have s3 : l3 ((X + MM * (a3 / 2 ^ (64 - r))) * 18446744073709551616 ^ 3) = l0 X := by unfold l3 l0 MM; omega
   rw [nv, s0, s1, s2, s3, i0]
  rw [k]
  exact shl_3 a0 a1 a2 a3 n x0 x1 x2 x3 r w ha hq er hr h0 h c0 c1 c2 c3
 ·have k : nv (vl a0 a1 a2 a3 * 2 ^ n.toNat) = .agg #[.int .u64 0, .int .u64 0, .int .u64 0, .int .u64 0] := by
   rw [pow64 n r 4 h0 er hq, ← Int.mul_assoc, ← nv_mod, show ((18446744073709551616 : Int) ^ 4) = MM from by decide, Int.mul_emod_left]
   simp [nv, l0, l1, l2, l3]
  rw [k]
  exact shl_4 a0 a1 a2 a3 n r w ha hq er hr h0 h
theorem shr_any (a0 a1 a2 a3 n : Int) (w : World) (ha : U4 a0 a1 a2 a3) (h0 : 0 ≤ n) (h : n ≤ 256) :
  Calls Try.prog 99 #[.agg #[.int .u64 a0, .int .u64 a1, .int .u64 a2, .int .u64 a3], .int .i64 n] w fun e w' =>
   e = .returned (nv (vl a0 a1 a2 a3 / 2 ^ n.toNat)) ∧ Mo w w' := by
 obtain ⟨r, hr, er, hq⟩ := cases64 n h0 h
 obtain ⟨u, e⟩ := sr_vl r hr ha
 have hP := (pq r hr).1
 have bd := vl_bd ha
 have g := ha
 obtain ⟨g0, g1, g2, g3⟩ := g
 have c0 := sr_or r hr g0 g1
 have c1 := sr_or r hr g1 g2
 have c2 := sr_or r hr g2 g3
 have c3 := sr_0 r a3
 generalize sr r a0 a1 = x0 at *
 generalize sr r a1 a2 = x1 at *
 generalize sr r a2 a3 = x2 at *
 generalize sr r a3 0 = x3 at *
 have ub := vl_bd u
 have q : ∀ k : Nat, n / 64 = (k : Int) → vl a0 a1 a2 a3 / 2 ^ n.toNat = vl x0 x1 x2 x3 / 18446744073709551616 ^ k := fun k hk => by
  rw [pow64 n r k h0 er hk, e, Int.ediv_ediv_of_nonneg (by omega)]
 rcases hq with hq | hq | hq | hq | hq
 ·rw [q 0 hq, Int.pow_zero, Int.ediv_one, nv_vl u]
  exact shr_0 a0 a1 a2 a3 n x0 x1 x2 x3 r w ha hq er hr h0 h c0 c1 c2 c3
 ·rw [q 1 hq, Int.pow_one, nv_down ub.1 ub.2, l1_vl u, l2_vl u, l3_vl u]
  exact shr_1 a0 a1 a2 a3 n x0 x1 x2 x3 r w ha hq er hr h0 h c0 c1 c2 c3
 ·have k : nv (vl a0 a1 a2 a3 / 2 ^ n.toNat) = .agg #[.int .u64 x2, .int .u64 x3, .int .u64 0, .int .u64 0] := by
   rw [q 2 hq]
   unfold U4 U1 at u
   have s0 : l0 (vl x0 x1 x2 x3 / 18446744073709551616 ^ 2) = x2 := by unfold l0 vl; omega
   have s1 : l1 (vl x0 x1 x2 x3 / 18446744073709551616 ^ 2) = x3 := by unfold l1 vl; omega
   have s2 : l2 (vl x0 x1 x2 x3 / 18446744073709551616 ^ 2) = 0 := by unfold l2 vl; omega
   have s3 : l3 (vl x0 x1 x2 x3 / 18446744073709551616 ^ 2) = 0 := by unfold l3 vl; omega
   rw [nv, s0, s1, s2, s3]
  rw [k]
  exact shr_2 a0 a1 a2 a3 n x0 x1 x2 x3 r w ha hq er hr h0 h c0 c1 c2 c3
 ·have k : nv (vl a0 a1 a2 a3 / 2 ^ n.toNat) = .agg #[.int .u64 x3, .int .u64 0, .int .u64 0, .int .u64 0] := by
   rw [q 3 hq]
   unfold U4 U1 at u
   have s0 : l0 (vl x0 x1 x2 x3 / 18446744073709551616 ^ 3) = x3 := by unfold l0 vl; omega
   have s1 : l1 (vl x0 x1 x2 x3 / 18446744073709551616 ^ 3) = 0 := by unfold l1 vl; omega
   have s2 : l2 (vl x0 x1 x2 x3 / 18446744073709551616 ^ 3) = 0 := by unfold l2 vl; omega
   have s3 : l3 (vl x0 x1 x2 x3 / 18446744073709551616 ^ 3) = 0 := by unfold l3 vl; omega
   rw [nv, s0, s1, s2, s3]
  rw [k]
  exact shr_3 a0 a1 a2 a3 n x0 x1 x2 x3 r w ha hq er hr h0 h c0 c1 c2 c3
 ·have k : nv (vl a0 a1 a2 a3 / 2 ^ n.toNat) = .agg #[.int .u64 0, .int .u64 0, .int .u64 0, .int .u64 0] := by
   rw [q 4 hq, show ((18446744073709551616 : Int) ^ 4) = MM from by decide, Int.ediv_eq_zero_of_lt ub.1 ub.2]
   simp [nv, l0, l1, l2, l3]
  rw [k]
  exact shr_4 a0 a1 a2 a3 n r w ha hq er hr h0 h
end Go.Proofs.Ythehmmhnacomkaa

namespace Go.Proofs.Ythehmmhnacomkaa
open Go.RowKit
theorem bl_le {a : Int} (h : U1 a) (h0 : a ≠ 0) : (Lib.bitLen a.toNat : Int) ≤ 64 ∧ (0 : Int) ≤ Lib.bitLen a.toNat := by
 obtain ⟨p, q⟩ := h
 obtain ⟨b1, b2, b3, b4⟩ := bitLen_bd 64 a.toNat (by omega) (by omega) (by omega)
 omega
set_option maxHeartbeats 1000000 in
theorem bits_any (a0 a1 a2 a3 : Int) (w : World) (ha : U4 a0 a1 a2 a3) :
  Calls Try.prog 97 #[.agg #[.int .u64 a0, .int .u64 a1, .int .u64 a2, .int .u64 a3]] w fun e w' =>
   e = .returned (.int .i64 (bln (vl a0 a1 a2 a3))) ∧ Mo w w' := by
 have fin : ∀ (r : Int) (w' : World), r = bln (vl a0 a1 a2 a3) → Mo w w' → (Ending.returned (.int .i64 r) = .returned (.int .i64 (bln (vl a0 a1 a2 a3))) ∧ Mo w w') := fun r w' h m => ⟨ret_int h, m⟩
 obtain ⟨g0, g1, g2, g3⟩ := ha
 have g := g0
 have g' := g1
 have g'' := g2
 have g''' := g3
 obtain ⟨p0, q0⟩ := g
 obtain ⟨p1, q1⟩ := g'
 obtain ⟨p2, q2⟩ := g''
 obtain ⟨p3, q3⟩ := g'''
 go_enter Try.func97, Try.ntmps97
 go_wp2
 refine wp_loop_rounds 5 ?_
 rw [rounds_succ]
 by_cases h3 : a3 = 0
 ·have e3 : (a3 != 0) = false := by simp [h3]
  have H3 : Hid _ := h3
  clear h3
  go_wp2
  rw [rounds_succ]
  by_cases h2 : a2 = 0
  ·have e2 : (a2 != 0) = false := by simp [h2]
   have H2 : Hid _ := h2
   clear h2
   go_wp2
   rw [rounds_succ]
   by_cases h1 : a1 = 0
   ·have e1 : (a1 != 0) = false := by simp [h1]
    have H1 : Hid _ := h1
    clear h1
    go_wp2
    rw [rounds_succ]
    by_cases h0 : a0 = 0
    ·have e0 : (a0 != 0) = false := by simp [h0]
     have H0 : Hid _ := h0
     clear h0
     go_wp2
     rw [rounds_succ]
     go_wp2
     go_ret
     refine fin _ _ ?_ ((Mo.refl _).alloc _ _)
     rw [H0.out, H1.out, H2.out, H3.out]; decide
    ·have e0 : (a0 != 0) = true := by simp [h0]
     have b := bl_le g0 h0
     obtain ⟨b1, b2⟩ := b
     go_wp2_with (go_at_call 57; refine (Try.bits_Len64 a0 _ (by omega) (by omega)).mono ?_; rintro e w' ⟨rfl, rfl⟩)
     go_ret
     refine fin _ _ ?_ ((Mo.refl _).alloc _ _)
     have k := bln_join (a := a0) (low := 0) 0 (by omega) q0 (by omega) (by decide)
     rw [H1.out, H2.out, H3.out, show vl a0 0 0 0 = a0 * 2 ^ 0 + 0 from by unfold vl; omega, k]; simp
   ·have e1 : (a1 != 0) = true := by simp [h1]
    have b := bl_le g1 h1
    obtain ⟨b1, b2⟩ := b
    go_wp2_with (go_at_call 57; refine (Try.bits_Len64 a1 _ (by omega) (by omega)).mono ?_; rintro e w' ⟨rfl, rfl⟩)
    go_ret
    refine fin _ _ ?_ ((Mo.refl _).alloc _ _)
    have k := bln_join (a := a1) (low := a0) 64 (by omega) q1 (by omega) (by omega)
    rw [H2.out, H3.out, show vl a0 a1 0 0 = a1 * 2 ^ 64 + a0 from by unfold vl; omega, k]; simp
  ·have e2 : (a2 != 0) = true := by simp [h2]
   have b := bl_le g2 h2
   obtain ⟨b1, b2⟩ := b
   go_wp2_with (go_at_call 57; refine (Try.bits_Len64 a2 _ (by omega) (by omega)).mono ?_; rintro e w' ⟨rfl, rfl⟩)
   go_ret
   refine fin _ _ ?_ ((Mo.refl _).alloc _ _)
   have k := bln_join (a := a2) (low := a0 + 18446744073709551616 * a1) 128 (by omega) q2 (by omega) (by omega)
   rw [H3.out, show vl a0 a1 a2 0 = a2 * 2 ^ 128 + (a0 + 18446744073709551616 * a1) from by unfold vl; omega, k]; simp
 ·have e3 : (a3 != 0) = true := by simp [h3]
  have b := bl_le g3 h3
  obtain ⟨b1, b2⟩ := b
  go_wp2_with (go_at_call 57; refine (Try.bits_Len64 a3 _ (by omega) (by omega)).mono ?_; rintro e w' ⟨rfl, rfl⟩)
  go_ret
  refine fin _ _ ?_ ((Mo.refl _).alloc _ _)
  have k := bln_join (a := a3) (low := a0 + 18446744073709551616 * a1 + 340282366920938463463374607431768211456 * a2) 192 (by omega) q3 (by omega) (by omega)
  rw [show vl a0 a1 a2 a3 = a3 * 2 ^ 192 + (a0 + 18446744073709551616 * a1 + 340282366920938463463374607431768211456 * a2) from by unfold vl; omega, k]; simp
end Go.Proofs.Ythehmmhnacomkaa

namespace Go.Proofs.Ythehmmhnacomkaa
open Go.RowKit

set_option maxHeartbeats 4000000 in
theorem cmp15_any (a0 a1 a2 a3 b0 b1 b2 b3 : Int) (w : World) (ha : U4 a0 a1 a2 a3) (hb : U4 b0 b1 b2 b3) :
  Calls Try.prog 66 #[.agg #[.int .u64 a0, .int .u64 a1, .int .u64 a2, .int .u64 a3], .agg #[.int .u64 b0, .int .u64 b1, .int .u64 b2, .int .u64 b3]] w fun e w' =>
   e = .returned (.int .i64 (cm (vl a0 a1 a2 a3) (vl b0 b1 b2 b3))) ∧ Mo w w' := by
 have fin : ∀ (r : Int) (w' : World), r = cm (vl a0 a1 a2 a3) (vl b0 b1 b2 b3) → Mo w w' → (Ending.returned (.int .i64 r) = .returned (.int .i64 (cm (vl a0 a1 a2 a3) (vl b0 b1 b2 b3))) ∧ Mo w w') := fun r w' h m => ⟨ret_int h, m⟩
 obtain ⟨⟨p0, q0⟩, ⟨p1, q1⟩, ⟨p2, q2⟩, ⟨p3, q3⟩⟩ := ha
 obtain ⟨⟨r0, s0⟩, ⟨r1, s1⟩, ⟨r2, s2⟩, ⟨r3, s3⟩⟩ := hb
 go_enter Try.func66, Try.ntmps66
 go_wp2
 refine wp_loop_rounds 5 ?_
 rw [rounds_succ]
 by_cases h3 : a3 < b3
 ·go_wp2
  go_quiet (fail)
  go_wp2
  go_ret
  refine fin _ _ (by unfold cm vl; split <;> (try split) <;> omega) ?_
  repeat (first | exact Mo.refl _ | apply Mo.drew | apply Mo.drewN | apply Mo.alloc)
 by_cases h3' : b3 < a3
 ·go_wp2
  go_quiet (fail)
  go_wp2
  go_quiet (fail)
  go_wp2
  go_ret
  refine fin _ _ (by unfold cm vl; split <;> (try split) <;> omega) ?_
  repeat (first | exact Mo.refl _ | apply Mo.drew | apply Mo.drewN | apply Mo.alloc)
 go_wp2
 go_quiet (fail)
 go_wp2
 go_quiet (fail)
 go_wp2
 rw [rounds_succ]
 by_cases h2 : a2 < b2
 ·go_wp2
  go_quiet (fail)
  go_wp2
  go_ret
  refine fin _ _ (by unfold cm vl; split <;> (try split) <;> omega) ?_
  repeat (first | exact Mo.refl _ | apply Mo.drew | apply Mo.drewN | apply Mo.alloc)
 by_cases h2' : b2 < a2
 ·go_wp2
  go_quiet (fail)
  go_wp2
  go_quiet (fail)
  go_wp2
  go_ret
  refine fin _ _ (by unfold cm vl; split <;> (try split) <;> omega) ?_
  repeat (first | exact Mo.refl _ | apply Mo.drew | apply Mo.drewN | apply Mo.alloc)
 go_wp2
 go_quiet (fail)
 go_wp2
 go_quiet (fail)
 go_wp2
 rw [rounds_succ]
 by_cases h1 : a1 < b1
 ·go_wp2
  go_quiet (fail)
  go_wp2
  go_ret
  refine fin _ _ (by unfold cm vl; split <;> (try split) <;> omega) ?_
  repeat (first | exact Mo.refl _ | apply Mo.drew | apply Mo.drewN | apply Mo.alloc)
 by_cases h1' : b1 < a1
 ·go_wp2
  go_quiet (fail)
  go_wp2
  go_quiet (fail)
  go_wp2
  go_ret
  refine fin _ _ (by unfold cm vl; split <;> (try split) <;> omega) ?_
  repeat (first | exact Mo.refl _ | apply Mo.drew | apply Mo.drewN | apply Mo.alloc)
 go_wp2
 go_quiet (fail)
 go_wp2
 go_quiet (fail)
 go_wp2
 rw [rounds_succ]
 by_cases h0 : a0 < b0
 ·go_wp2
  go_quiet (fail)
  go_wp2
  go_ret
  refine fin _ _ (by unfold cm vl; split <;> (try split) <;> omega) ?_
  repeat (first | exact Mo.refl _ | apply Mo.drew | apply Mo.drewN | apply Mo.alloc)
 by_cases h0' : b0 < a0
 ·go_wp2
  go_quiet (fail)
  go_wp2
  go_quiet (fail)
  go_wp2
  go_ret
  refine fin _ _ (by unfold cm vl; split <;> (try split) <;> omega) ?_
  repeat (first | exact Mo.refl _ | apply Mo.drew | apply Mo.drewN | apply Mo.alloc)
 go_wp2
 go_quiet (fail)
 go_wp2
 go_quiet (fail)
 go_wp2
 rw [rounds_succ]
 go_wp2
 go_ret
 refine fin _ _ (by unfold cm vl; split <;> (try split) <;> omega) ?_
 repeat (first | exact Mo.refl _ | apply Mo.drew | apply Mo.drewN | apply Mo.alloc)

set_option maxHeartbeats 4000000 in
theorem cmp16_any (a0 a1 a2 a3 b0 b1 b2 b3 : Int) (w : World) (ha : U4 a0 a1 a2 a3) (hb : U4 b0 b1 b2 b3) :
  Calls Try.prog 63 #[.agg #[.int .u64 a0, .int .u64 a1, .int .u64 a2, .int .u64 a3], .agg #[.int .u64 b0, .int .u64 b1, .int .u64 b2, .int .u64 b3]] w fun e w' =>
   e = .returned (.int .i64 (cm (vl a0 a1 a2 a3) (vl b0 b1 b2 b3))) ∧ Mo w w' := by
 have fin : ∀ (r : Int) (w' : World), r = cm (vl a0 a1 a2 a3) (vl b0 b1 b2 b3) → Mo w w' → (Ending.returned (.int .i64 r) = .returned (.int .i64 (cm (vl a0 a1 a2 a3) (vl b0 b1 b2 b3))) ∧ Mo w w') := fun r w' h m => ⟨ret_int h, m⟩
 obtain ⟨⟨p0, q0⟩, ⟨p1, q1⟩, ⟨p2, q2⟩, ⟨p3, q3⟩⟩ := ha
 obtain ⟨⟨r0, s0⟩, ⟨r1, s1⟩, ⟨r2, s2⟩, ⟨r3, s3⟩⟩ := hb
 go_enter Try.func63, Try.ntmps63
 go_wp2
 refine wp_loop_rounds 5 ?_
 rw [rounds_succ]
 by_cases h3 : a3 < b3
 ·go_wp2
  go_quiet (fail)
  go_wp2
  go_ret
  refine fin _ _ (by unfold cm vl; split <;> (try split) <;> omega) ?_
  repeat (first | exact Mo.refl _ | apply Mo.drew | apply Mo.drewN | apply Mo.alloc)
 by_cases h3' : b3 < a3
 ·go_wp2
  go_quiet (fail)
  go_wp2
  go_quiet (fail)
  go_wp2
  go_ret
  refine fin _ _ (by unfold cm vl; split <;> (try split) <;> omega) ?_
  repeat (first | exact Mo.refl _ | apply Mo.drew | apply Mo.drewN | apply Mo.alloc)
 go_wp2
 go_quiet (fail)
 go_wp2
 go_quiet (fail)
 go_wp2
 rw [rounds_succ]
 by_cases h2 : a2 < b2
 ·go_wp2
  go_quiet (fail)
  go_wp2
  go_ret
  refine fin _ _ (by unfold cm vl; split <;> (try split) <;> omega) ?_
  repeat (first | exact Mo.refl _ | apply Mo.drew | apply Mo.drewN | apply Mo.alloc)
 by_cases h2' : b2 < a2
 ·go_wp2
  go_quiet (fail)
  go_wp2
  go_quiet (fail)
  go_wp2
  go_ret
  refine fin _ _ (by unfold cm vl; split <;> (try split) <;> omega) ?_
  repeat (first | exact Mo.refl _ | apply Mo.drew | apply Mo.drewN | apply Mo.alloc)
 go_wp2
 go_quiet (fail)
 go_wp2
 go_quiet (fail)
 go_wp2
 rw [rounds_succ]
 by_cases h1 : a1 < b1
 ·go_wp2
  go_quiet (fail)
  go_wp2
  go_ret
  refine fin _ _ (by unfold cm vl; split <;> (try split) <;> omega) ?_
  repeat (first | exact Mo.refl _ | apply Mo.drew | apply Mo.drewN | apply Mo.alloc)
 by_cases h1' : b1 < a1
 ·go_wp2
  go_quiet (fail)
  go_wp2
  go_quiet (fail)
  go_wp2
  go_ret
  refine fin _ _ (by unfold cm vl; split <;> (try split) <;> omega) ?_
  repeat (first | exact Mo.refl _ | apply Mo.drew | apply Mo.drewN | apply Mo.alloc)
 go_wp2
 go_quiet (fail)
 go_wp2
 go_quiet (fail)
 go_wp2
 rw [rounds_succ]
 by_cases h0 : a0 < b0
 ·go_wp2
  go_quiet (fail)
  go_wp2
  go_ret
  refine fin _ _ (by unfold cm vl; split <;> (try split) <;> omega) ?_
  repeat (first | exact Mo.refl _ | apply Mo.drew | apply Mo.drewN | apply Mo.alloc)
 by_cases h0' : b0 < a0
 ·go_wp2
  go_quiet (fail)
  go_wp2
  go_quiet (fail)
  go_wp2
  go_ret
  refine fin _ _ (by unfold cm vl; split <;> (try split) <;> omega) ?_
  repeat (first | exact Mo.refl _ | apply Mo.drew | apply Mo.drewN | apply Mo.alloc)
 go_wp2
 go_quiet (fail)
 go_wp2
 go_quiet (fail)
 go_wp2
 rw [rounds_succ]
 go_wp2
 go_ret
 refine fin _ _ (by unfold cm vl; split <;> (try split) <;> omega) ?_
 repeat (first | exact Mo.refl _ | apply Mo.drew | apply Mo.drewN | apply Mo.alloc)
end Go.Proofs.Ythehmmhnacomkaa

namespace Go.Proofs.Ythehmmhnacomkaa
open Go.RowKit
def At0 (w : World) (k : Nat) : Prop := At4 w k 0 0 0 0 ∧ Fz w k ∧ k < w.heap.size
theorem At0.mo {w w' : World} {k : Nat} (h : At0 w k) (m : Mo w w') : At0 w' k := ⟨h.1.mo m h.2.2, h.2.1.mo m, Nat.lt_of_lt_of_le h.2.2 m.size⟩
theorem At0.new (w : World) : At0 (w.alloc (.cells #[.int .u64 0, .int .u64 0, .int .u64 0, .int .u64 0] 31)) w.heap.size :=
 ⟨by simp [At4, go_sem], fun o => by simp [go_sem], by simp⟩
theorem At0.mk1 {w w' : World} (m : Mo ((w.alloc (.cells #[.int .u64 0, .int .u64 0, .int .u64 0, .int .u64 0] 31)).drew) w') : At0 w' w.heap.size :=
 (At0.new w).mo (((Mo.refl _).drew).trans m)
theorem At0.mk2 {w w' : World} (m : Mo (w.alloc (.cells #[.int .u64 0, .int .u64 0, .int .u64 0, .int .u64 0] 31)) w') : At0 w' w.heap.size := (At0.new w).mo m
theorem At0.same {w : World} {k : Nat} (h : At0 w k) (z : Int) : AtN (st4 w k z) k z := by
 obtain ⟨⟨b0, b1, b2, b3⟩, f, s⟩ := h
 refine ⟨by simp [At4, go_sem, *], fun o => by simp [World.frozen?_setCell, f o], by simpa [World.setCell] using s⟩

theorem divStep_n (P x D : Int) (w : World) (h0 : 0 ≤ P) (h : P < D) (hD : D < MM) (hx : U1 x) :
  Calls Try.prog 100 #[nv P, .int .u64 x, nv D] w fun e w' => e = .returned (.tuple #[.int .u64 ((P * 18446744073709551616 + x) / D), nv ((P * 18446744073709551616 + x) % D)]) ∧ Mo w w' :=
 divStep_any (l0 P) (l1 P) (l2 P) (l3 P) x (l0 D) (l1 D) (l2 D) (l3 D) (P * 18446744073709551616 + x) D w (u4_lb P) hx (u4_lb D) (show _ = _ by rw [vl_lb P h0 (by omega)]) (show _ = _ by rw [vl_lb D (by omega) hD]) (show _ < _ by rw [vl_lb P h0 (by omega)]; exact h)
def LW (w wr : World) (kr kq : Nat) (H low D P c0 c1 c2 c3 : Int) : Prop := VW w wr H low D ∧ AtN wr kr P ∧ At4 wr kq c0 c1 c2 c3 ∧ Fz wr kq ∧ kq < wr.heap.size ∧ w.heap.size + 1 + 1 + 1 + 1 < kr ∧ kr < kq
theorem LW.mo {w wr w1 : World} {kr kq : Nat} {H low D P c0 c1 c2 c3 : Int} (h : LW w wr kr kq H low D P c0 c1 c2 c3) (m : Mo wr w1) : LW w w1 kr kq H low D P c0 c1 c2 c3 := by
 obtain ⟨h1, h2, h3, h4, h5, h6, h7⟩ := h
 exact ⟨h1.mo m, h2.mo m, h3.mo m h5, h4.mo m, Nat.lt_of_lt_of_le h5 m.size, h6, h7⟩
theorem AtN.cell {w : World} {k j o : Nat} {n : Int} (h : AtN w j n) (hk : j ≠ k) (v : Value) : AtN (w.setCell ⟨k, o, none⟩ v) j n := by
 obtain ⟨⟨b0, b1, b2, b3⟩, f, s⟩ := h
 refine ⟨by simp [At4, go_sem, *], fun o => by simp [World.frozen?_setCell, f o], by simpa [World.setCell] using s⟩
theorem VW.cell {w wx : World} {h l d : Int} (v : VW w wx h l d) {k o : Nat} (hk : w.heap.size + 1 + 1 + 1 + 1 < k) (x : Value) : VW w (wx.setCell ⟨k, o, none⟩ x) h l d := by
 obtain ⟨v1, v2, v3, v4, v5, v6⟩ := v
 exact ⟨v1.setCell (by show w.heap.size ≤ k; omega) _, v2.cell (by omega) _, v3.cell (by omega) _, v4.cell (by omega) _, v5.cell (by omega) _, v6.cell (by omega) _⟩
theorem LW.put0 {w w1 : World} {kr kq : Nat} {H low D P c0 c1 c2 c3 : Int} (h : LW w w1 kr kq H low D P c0 c1 c2 c3) (q P' : Int) : LW w (st4 (w1.setCell ⟨kq, 0, none⟩ (.int .u64 q)) kr P') kr kq H low D P' q c1 c2 c3 := by
 obtain ⟨h1, h2, ⟨d0, d1, d2, d3⟩, h4, h5, h6, h7⟩ := h
 have n1 : kr ≠ kq := by omega
 have n2 : kq ≠ kr := by omega
 refine ⟨(h1.cell (by omega) _).setk h6 _, (h2.cell n1 _).same _, ?_, ?_, ?_, h6, h7⟩
 ·simp [At4, go_sem, *]
 ·intro o; simp [World.frozen?_setCell, h4 o]
 ·simpa [World.setCell] using h5
theorem LW.put1 {w w1 : World} {kr kq : Nat} {H low D P c0 c1 c2 c3 : Int} (h : LW w w1 kr kq H low D P c0 c1 c2 c3) (q P' : Int) : LW w (st4 (w1.setCell ⟨kq, 1, none⟩ (.int .u64 q)) kr P') kr kq H low D P' c0 q c2 c3 := by
 obtain ⟨h1, h2, ⟨d0, d1, d2, d3⟩, h4, h5, h6, h7⟩ := h
 have n1 : kr ≠ kq := by omega
 have n2 : kq ≠ kr := by omega
 refine ⟨(h1.cell (by omega) _).setk h6 _, (h2.cell n1 _).same _, ?_, ?_, ?_, h6, h7⟩
 ·simp [At4, go_sem, *]
 ·intro o; simp [World.frozen?_setCell, h4 o]
 ·simpa [World.setCell] using h5
theorem LW.put2 {w w1 : World} {kr kq : Nat} {H low D P c0 c1 c2 c3 : Int} (h : LW w w1 kr kq H low D P c0 c1 c2 c3) (q P' : Int) : LW w (st4 (w1.setCell ⟨kq, 2, none⟩ (.int .u64 q)) kr P') kr kq H low D P' c0 c1 q c3 := by
 obtain ⟨h1, h2, ⟨d0, d1, d2, d3⟩, h4, h5, h6, h7⟩ := h
 have n1 : kr ≠ kq := by omega
 have n2 : kq ≠ kr := by omega
 refine ⟨(h1.cell (by omega) _).setk h6 _, (h2.cell n1 _).same _, ?_, ?_, ?_, h6, h7⟩
 ·simp [At4, go_sem, *]
 ·intro o; simp [World.frozen?_setCell, h4 o]
 ·simpa [World.setCell] using h5
theorem LW.put3 {w w1 : World} {kr kq : Nat} {H low D P c0 c1 c2 c3 : Int} (h : LW w w1 kr kq H low D P c0 c1 c2 c3) (q P' : Int) : LW w (st4 (w1.setCell ⟨kq, 3, none⟩ (.int .u64 q)) kr P') kr kq H low D P' c0 c1 c2 q := by
 obtain ⟨h1, h2, ⟨d0, d1, d2, d3⟩, h4, h5, h6, h7⟩ := h
 have n1 : kr ≠ kq := by omega
 have n2 : kq ≠ kr := by omega
 refine ⟨(h1.cell (by omega) _).setk h6 _, (h2.cell n1 _).same _, ?_, ?_, ?_, h6, h7⟩
 ·simp [At4, go_sem, *]
 ·intro o; simp [World.frozen?_setCell, h4 o]
 ·simpa [World.setCell] using h5

set_option maxHeartbeats 4000000 in
theorem div_yes (H L D P4 D' : Int) (s : Nat) (w : World) (hH0 : 0 ≤ H) (hHM : H < MM) (hL0 : 0 ≤ L) (hLM : L < MM) (hD0 : 0 ≤ D) (hDM : D < MM) (hlt : Hid (H < D))
  (hs : 256 - bln D = (s : Int)) (hs2 : s ≤ 255) (hP4 : Hid (P4 = H * 2 ^ s + L / 2 ^ (256 - s))) (hD' : Hid (D' = D * 2 ^ s)) (hHs : Hid (0 ≤ H * 2 ^ s ∧ H * 2 ^ s < MM)) (hLs : Hid (0 ≤ L / 2 ^ (256 - s) ∧ L / 2 ^ (256 - s) < MM))
  (low q0 q1 q2 q3 P3 P2 P1 P0 : Int) (hlow : Hid (low = L * 2 ^ s % MM)) (e3 : Hid ((P4 * 18446744073709551616 + l3 low) / D' = q3)) (f3 : Hid ((P4 * 18446744073709551616 + l3 low) % D' = P3)) (e2 : Hid ((P3 * 18446744073709551616 + l2 low) / D' = q2)) (f2 : Hid ((P3 * 18446744073709551616 + l2 low) % D' = P2)) (e1 : Hid ((P2 * 18446744073709551616 + l1 low) / D' = q1)) (f1 : Hid ((P2 * 18446744073709551616 + l1 low) % D' = P1)) (e0 : Hid ((P1 * 18446744073709551616 + l0 low) / D' = q0)) (f0 : Hid ((P1 * 18446744073709551616 + l0 low) % D' = P0)) (hDM' : Hid (D' < MM)) (b4 : Hid (0 ≤ P4 ∧ P4 < D')) (b3 : Hid (0 ≤ P3 ∧ P3 < D')) (b2 : Hid (0 ≤ P2 ∧ P2 < D')) (b1 : Hid (0 ≤ P1 ∧ P1 < D')) (b0 : Hid (0 ≤ P0 ∧ P0 < D')) :
  Calls Try.prog 85 #[nv H, nv L, nv D] w fun e w' =>
   e = .returned (.tuple #[.agg #[.int .u64 q0, .int .u64 q1, .int .u64 q2, .int .u64 q3], nv (P0 / 2 ^ s), .bool true]) ∧ Mo w w' := by
 have s0 : (0 : Int) ≤ (s : Int) := by omega
 have s1 : (s : Int) ≤ 256 := by omega
 have s2 : (0 : Int) ≤ 256 - (s : Int) := by omega
 have s3 : 256 - (s : Int) ≤ 256 := by omega
 have hwr : IntKind.i64.wrap (256 - (s : Int)) = 256 - (s : Int) := by rw [IntKind.wrap_i64]; omega
 go_enter Try.func85, Try.ntmps85
 go_wp2_with fail
 refine (cmp15_any (l0 H) (l1 H) (l2 H) (l3 H) (l0 D) (l1 D) (l2 D) (l3 D) _ (u4_lb H) (u4_lb D)).mono ?_
 rintro e w1 ⟨rfl, hm1⟩
 rw [vl_lb H hH0 hHM, vl_lb D hD0 hDM, show cm H D = -1 from by unfold cm; rw [if_pos hlt.out]]
 have v1 := (VW.start w H L D).mo hm1
 clear hm1
 have o1 := v1.2.2.2.1.1
 obtain ⟨c0, c1, c2, c3⟩ := o1
 go_wp2_with fail
 refine (bits_any (l0 D) (l1 D) (l2 D) (l3 D) _ (u4_lb D)).mono ?_
 rintro e w2 ⟨rfl, hm2⟩
 rw [vl_lb D hD0 hDM]
 have v2 := v1.mo hm2
 clear hm2 v1 c0 c1 c2 c3
 go_upto_region 4 with fail
 go_cut [] from 23 to 25 (fun wx => VW w wx H L D')
 case first =>
  have o1 := v2.2.2.2.1.1
  obtain ⟨c0, c1, c2, c3⟩ := o1
  go_wp2_with fail
  refine (shl_any (l0 D) (l1 D) (l2 D) (l3 D) s _ (u4_lb D) s0 s1).mono ?_
  rintro e w3 ⟨rfl, hm3⟩
  rw [vl_lb D hD0 hDM, Int.toNat_natCast, ← hD'.out]
  have v3 := v2.mo hm3
  clear hm3 c0 c1 c2 c3
  have o1 := v3.2.2.2.1
  obtain ⟨⟨c0, c1, c2, c3⟩, f, z⟩ := o1
  have f := fun o => f o
  go_wp2
  go_meet
  case rel => exact v3.setd _
 case rest =>
  clear v2
  have v := hcut
  go_upto_region 5 with fail
  go_cut [10, 11] from 26 to 36 (fun s10 _ wx => ∃ k, s10 = .pointer (some ⟨k, 0, none⟩) ∧ w.heap.size + 1 + 1 + 1 + 1 < k ∧ VW w wx H L D' ∧ AtN wx k P4)
  case first =>
   have nH := v.2.1
   have nL := v.2.2.1
   have o1 := nH
   have o2 := nL
   obtain ⟨⟨c0, c1, c2, c3⟩, _, y1⟩ := o1
   obtain ⟨⟨d0, d1, d2, d3⟩, _, y2⟩ := o2
   go_region_held3 (fun w' => w'.cell? ⟨w.heap.size, 0, none⟩ = some (.int .u64 (l0 H)) ∧ w'.cell? ⟨w.heap.size, 1, none⟩ = some (.int .u64 (l1 H)) ∧ w'.cell? ⟨w.heap.size, 2, none⟩ = some (.int .u64 (l2 H)) ∧ w'.cell? ⟨w.heap.size, 3, none⟩ = some (.int .u64 (l3 H)) ∧ w'.cell? ⟨w.heap.size + 1, 0, none⟩ = some (.int .u64 (l0 L)) ∧ w'.cell? ⟨w.heap.size + 1, 1, none⟩ = some (.int .u64 (l1 L)) ∧ w'.cell? ⟨w.heap.size + 1, 2, none⟩ = some (.int .u64 (l2 L)) ∧ w'.cell? ⟨w.heap.size + 1, 3, none⟩ = some (.int .u64 (l3 L))) (simp [go_sem, World.cell?_alloc_past, *])
    (first | (go_at_call 98; refine (shl_any (l0 H) (l1 H) (l2 H) (l3 H) s _ (u4_lb H) s0 s1).mono ?_; rintro e w4 ⟨rfl, hm4⟩; rw [vl_lb H hH0 hHM, Int.toNat_natCast]; have m4 : Mo wc w4 := Mo.trans (by repeat (first | with_reducible exact Mo.refl _ | with_reducible apply Mo.drew | with_reducible apply Mo.alloc)) hm4; (try (with_reducible have k4 := At0.mk1 hm4)); obtain ⟨⟨e0, e1, e2, e3⟩, _, y3⟩ := nH.mo m4; obtain ⟨⟨f0, f1, f2, f3⟩, _, y4⟩ := nL.mo m4) | (go_at_call 99; refine (shr_any (l0 L) (l1 L) (l2 L) (l3 L) (256 - s) _ (u4_lb L) s2 s3).mono ?_; rintro e w5 ⟨rfl, hm5⟩; rw [vl_lb L hL0 hLM, show (256 - (s : Int)).toNat = 256 - s from (by omega)]; have m5 : Mo w4 w5 := Mo.trans (by repeat (first | with_reducible exact Mo.refl _ | with_reducible apply Mo.drew | with_reducible apply Mo.alloc)) hm5; (try (with_reducible have k5 := At0.mk2 hm5)); (try (with_reducible have k5 := k4.mo m5)); obtain ⟨⟨g0, g1, g2, g3⟩, _, y5⟩ := nH.mo (m4.trans m5); obtain ⟨⟨h0, h1, h2, h3⟩, _, y6⟩ := nL.mo (m4.trans m5)) | (go_at_call 87; refine (add_any _ _ _ _ _ _ _ _ _ (u4_lb _) (u4_lb _)).mono ?_; rintro e w6 ⟨rfl, hm6⟩; rw [vl_lb _ hHs.out.1 hHs.out.2, vl_lb _ hLs.out.1 hLs.out.2, ← hP4.out]; have m6 : Mo w5 w6 := Mo.trans (by repeat (first | with_reducible exact Mo.refl _ | with_reducible apply Mo.drew | with_reducible apply Mo.alloc)) hm6; (try (with_reducible have k6 := At0.mk2 hm6)); (try (with_reducible have k6 := k5.mo m6)); (try have k7 := k6); (try obtain ⟨⟨i0, i1, i2, i3⟩, ff, y9⟩ := k6); (try have ff := fun o => ff o); obtain ⟨⟨j0, j1, j2, j3⟩, _, y7⟩ := nH.mo ((m4.trans m5).trans m6); obtain ⟨⟨t0, t1, t2, t3⟩, _, y8⟩ := nL.mo ((m4.trans m5).trans m6)))
   all_goals
    go_wp2
    go_meet
    case rel =>
     have m := (m4.trans m5).trans m6
     have x1 := v.2.2.2.2.2.2.2
     have x2 := m4.size
     have x3 := m5.size
     have x4 := m6.size
     refine ⟨_, rfl, by omega, ?_, ?_⟩
     ·first | exact (v.mo m).setk (by omega) _ | exact (v.mo m).mo ((Mo.refl _).alloc _ _)
     ·first | exact k7.same _ | exact AtN.new _ _
  case rest =>
   clear v
   obtain ⟨kr, rfl, hkr, v, nr⟩ := hcut
   have nr0 := nr
   have o1 := v.2.2.1.1
   obtain ⟨c0, c1, c2, c3⟩ := o1
   go_wp2_with fail
   refine (shl_any (l0 L) (l1 L) (l2 L) (l3 L) s _ (u4_lb L) s0 s1).mono ?_
   rintro e w7 ⟨rfl, hm7⟩
   rw [vl_lb L hL0 hLM, Int.toNat_natCast, ← nv_mod, ← hlow.out]
   have v7 := v.mo hm7
   have n7 := nr0.mo hm7
   clear hm7 c0 c1 c2 c3 nr nr0 v
   have S0 : LW w ((st4 w7 (w.heap.size + 1) low).alloc (.cells #[.int .u64 0, .int .u64 0, .int .u64 0, .int .u64 0] 31)) kr w7.heap.size H low D' P4 0 0 0 0 := by
    have a : Mo (st4 w7 (w.heap.size + 1) low) ((st4 w7 (w.heap.size + 1) low).alloc (.cells #[.int .u64 0, .int .u64 0, .int .u64 0, .int .u64 0] 31)) := (Mo.refl _).alloc _ _
    have z := At0.new (st4 w7 (w.heap.size + 1) low)
    rw [show (st4 w7 (w.heap.size + 1) low).heap.size = w7.heap.size from by simp [World.setCell]] at z
    exact ⟨(v7.setl low).mo a, (n7.other (by omega) low).mo a, z.1, z.2.1, z.2.2, hkr, n7.2.2⟩
   have o1 := v7.2.2.1
   obtain ⟨⟨c0, c1, c2, c3⟩, f, z⟩ := o1
   have f := fun o => f o
   go_wp2
   go_loopw [13] (fun i wr => (i = .int .i64 3 ∧ LW w wr kr w7.heap.size H low D' P4 0 0 0 0) ∨ (i = .int .i64 2 ∧ LW w wr kr w7.heap.size H low D' P3 0 0 0 q3) ∨ (i = .int .i64 1 ∧ LW w wr kr w7.heap.size H low D' P2 0 0 q2 q3) ∨ (i = .int .i64 0 ∧ LW w wr kr w7.heap.size H low D' P1 0 q1 q2 q3) ∨ (i = .int .i64 (-1) ∧ LW w wr kr w7.heap.size H low D' P0 q0 q1 q2 q3)) (fun i _ => (intOf i + 1).toNat)
   case atStart => exact Or.inl ⟨rfl, S0⟩
   case round =>
    clear S0 c0 c1 c2 c3 f z v7 n7
    obtain ⟨rfl, hw⟩ | ⟨rfl, hw⟩ | ⟨rfl, hw⟩ | ⟨rfl, hw⟩ | ⟨rfl, hw⟩ := hrel
    ·have hw0 := hw
     obtain ⟨⟨_, _, ⟨⟨c0, c1, c2, c3⟩, _, _⟩, ⟨⟨d0, d1, d2, d3⟩, _, _⟩, _, _⟩, ⟨⟨r0, r1, r2, r3⟩, _, _⟩, _⟩ := hw
     go_wp2
     go_region_with
      (first | (go_at_call 100; refine (divStep_n P4 (l3 low) D' _ b4.out.1 b4.out.2 hDM'.out (u_l3 low)).mono ?_; rintro e w8 ⟨rfl, hm8⟩; rw [e3.out, f3.out]; have hw1 := hw0.mo (Mo.trans (by repeat (first | with_reducible exact Mo.refl _ | with_reducible apply Mo.drew)) hm8); have hw2 := hw1; obtain ⟨⟨_, _, ⟨⟨c0, c1, c2, c3⟩, _, _⟩, ⟨⟨d0, d1, d2, d3⟩, _, _⟩, _, _⟩, ⟨⟨r0, r1, r2, r3⟩, fr, _⟩, ⟨x0, x1, x2, x3⟩, fq, _, _, _⟩ := hw2; have fr := fun o => fr o; have fq := fun o => fq o))
     all_goals
      go_wp2
      go_roundw
      case rel => exact Or.inr (Or.inl ⟨rfl, hw1.put3 _ _⟩)
      case measure => simp [intOf]
    ·have hw0 := hw
     obtain ⟨⟨_, _, ⟨⟨c0, c1, c2, c3⟩, _, _⟩, ⟨⟨d0, d1, d2, d3⟩, _, _⟩, _, _⟩, ⟨⟨r0, r1, r2, r3⟩, _, _⟩, _⟩ := hw
     go_wp2
     go_region_with
      (first | (go_at_call 100; refine (divStep_n P3 (l2 low) D' _ b3.out.1 b3.out.2 hDM'.out (u_l2 low)).mono ?_; rintro e w8 ⟨rfl, hm8⟩; rw [e2.out, f2.out]; have hw1 := hw0.mo (Mo.trans (by repeat (first | with_reducible exact Mo.refl _ | with_reducible apply Mo.drew)) hm8); have hw2 := hw1; obtain ⟨⟨_, _, ⟨⟨c0, c1, c2, c3⟩, _, _⟩, ⟨⟨d0, d1, d2, d3⟩, _, _⟩, _, _⟩, ⟨⟨r0, r1, r2, r3⟩, fr, _⟩, ⟨x0, x1, x2, x3⟩, fq, _, _, _⟩ := hw2; have fr := fun o => fr o; have fq := fun o => fq o))
     all_goals
      go_wp2
      go_roundw
      case rel => exact Or.inr (Or.inr (Or.inl ⟨rfl, hw1.put2 _ _⟩))
      case measure => simp [intOf]
    ·have hw0 := hw
     obtain ⟨⟨_, _, ⟨⟨c0, c1, c2, c3⟩, _, _⟩, ⟨⟨d0, d1, d2, d3⟩, _, _⟩, _, _⟩, ⟨⟨r0, r1, r2, r3⟩, _, _⟩, _⟩ := hw
     go_wp2
     go_region_with
      (first | (go_at_call 100; refine (divStep_n P2 (l1 low) D' _ b2.out.1 b2.out.2 hDM'.out (u_l1 low)).mono ?_; rintro e w8 ⟨rfl, hm8⟩; rw [e1.out, f1.out]; have hw1 := hw0.mo (Mo.trans (by repeat (first | with_reducible exact Mo.refl _ | with_reducible apply Mo.drew)) hm8); have hw2 := hw1; obtain ⟨⟨_, _, ⟨⟨c0, c1, c2, c3⟩, _, _⟩, ⟨⟨d0, d1, d2, d3⟩, _, _⟩, _, _⟩, ⟨⟨r0, r1, r2, r3⟩, fr, _⟩, ⟨x0, x1, x2, x3⟩, fq, _, _, _⟩ := hw2; have fr := fun o => fr o; have fq := fun o => fq o))
     all_goals
      go_wp2
      go_roundw
      case rel => exact Or.inr (Or.inr (Or.inr (Or.inl ⟨rfl, hw1.put1 _ _⟩)))
      case measure => simp [intOf]
    ·have hw0 := hw
     obtain ⟨⟨_, _, ⟨⟨c0, c1, c2, c3⟩, _, _⟩, ⟨⟨d0, d1, d2, d3⟩, _, _⟩, _, _⟩, ⟨⟨r0, r1, r2, r3⟩, _, _⟩, _⟩ := hw
     go_wp2
     go_region_with
      (first | (go_at_call 100; refine (divStep_n P1 (l0 low) D' _ b1.out.1 b1.out.2 hDM'.out (u_l0 low)).mono ?_; rintro e w8 ⟨rfl, hm8⟩; rw [e0.out, f0.out]; have hw1 := hw0.mo (Mo.trans (by repeat (first | with_reducible exact Mo.refl _ | with_reducible apply Mo.drew)) hm8); have hw2 := hw1; obtain ⟨⟨_, _, ⟨⟨c0, c1, c2, c3⟩, _, _⟩, ⟨⟨d0, d1, d2, d3⟩, _, _⟩, _, _⟩, ⟨⟨r0, r1, r2, r3⟩, fr, _⟩, ⟨x0, x1, x2, x3⟩, fq, _, _, _⟩ := hw2; have fr := fun o => fr o; have fq := fun o => fq o))
     all_goals
      go_wp2
      go_roundw
      case rel => exact Or.inr (Or.inr (Or.inr (Or.inr ⟨rfl, hw1.put0 _ _⟩)))
      case measure => simp [intOf]
    ·have hw0 := hw
     obtain ⟨⟨k1, _, _, _, ⟨⟨c0, c1, c2, c3⟩, fc, _⟩, ⟨⟨d0, d1, d2, d3⟩, fd, _⟩⟩, ⟨⟨r0, r1, r2, r3⟩, _, _⟩, ⟨x0, x1, x2, x3⟩, _⟩ := hw
     go_wp2
     go_cut [8] from 55 to 58 (fun s8 wx => s8 = .bool true ∧ At4 wx (w.heap.size + 1 + 1 + 1) q0 q1 q2 q3 ∧ AtN wx (w.heap.size + 1 + 1 + 1 + 1) (P0 / 2 ^ s) ∧ Mo w wx)
     case first =>
      go_region_held3 (fun w' => w'.cell? ⟨w7.heap.size, 0, none⟩ = some (.int .u64 q0) ∧ w'.cell? ⟨w7.heap.size, 1, none⟩ = some (.int .u64 q1) ∧ w'.cell? ⟨w7.heap.size, 2, none⟩ = some (.int .u64 q2) ∧ w'.cell? ⟨w7.heap.size, 3, none⟩ = some (.int .u64 q3) ∧ w'.cell? ⟨kr, 0, none⟩ = some (.int .u64 (l0 P0)) ∧ w'.cell? ⟨kr, 1, none⟩ = some (.int .u64 (l1 P0)) ∧ w'.cell? ⟨kr, 2, none⟩ = some (.int .u64 (l2 P0)) ∧ w'.cell? ⟨kr, 3, none⟩ = some (.int .u64 (l3 P0))) (simp [go_sem, *])
       (first | (go_at_call 99; refine (shr_any (l0 P0) (l1 P0) (l2 P0) (l3 P0) s _ (u4_lb P0) s0 s1).mono ?_; rintro e w9 ⟨rfl, hm9⟩; rw [vl_lb P0 b0.out.1 (Int.lt_trans b0.out.2 hDM'.out), Int.toNat_natCast]; have hw1 := hw0.mo (Mo.trans (by repeat (first | with_reducible exact Mo.refl _ | with_reducible apply Mo.drew)) hm9); have hw2 := hw1; obtain ⟨⟨k1, _, _, _, ⟨⟨c0, c1, c2, c3⟩, fc, zc⟩, ⟨⟨d0, d1, d2, d3⟩, fd, zd⟩⟩, ⟨⟨r0, r1, r2, r3⟩, _, _⟩, ⟨x0, x1, x2, x3⟩, _, _, zq, zr⟩ := hw2; have fc := fun o => fc o; have fd := fun o => fd o; have n1 : ¬ kr = w.heap.size + 1 + 1 + 1 := (by omega); have n2 : ¬ kr = w.heap.size + 1 + 1 + 1 + 1 := (by omega); have n3 : ¬ w7.heap.size = w.heap.size + 1 + 1 + 1 := (by omega); have n4 : ¬ w7.heap.size = w.heap.size + 1 + 1 + 1 + 1 := (by omega)))
      go_wp2
      go_meet
      case rel =>
       have le1 : w.heap.size ≤ w.heap.size + 1 + 1 + 1 := by omega
       have le2 : w.heap.size ≤ w.heap.size + 1 + 1 + 1 + 1 := by omega
       refine ⟨rfl, by simp [At4, go_sem, c0, c1, c2, c3], ⟨by simp [At4, go_sem, d0, d1, d2, d3], fun o => by simp [World.frozen?_setCell, fd o], by simpa [World.setCell] using zd⟩, ?_⟩
       repeat (first | with_reducible exact k1 | with_reducible apply Mo.drew | with_reducible refine Mo.setCell ?_ le1 _ | with_reducible refine Mo.setCell ?_ le2 _)
     case rest =>
      obtain ⟨rfl, ⟨a0, a1, a2, a3⟩, ⟨⟨g0, g1, g2, g3⟩, _, _⟩, hmo⟩ := hcut
      go_wp2
      refine bodyPost_ret (v := .tuple #[.agg #[.int .u64 q0, .int .u64 q1, .int .u64 q2, .int .u64 q3], nv (P0 / 2 ^ s), .bool true]) (by simp [results, Try.results85, go_sem, a0, a1, a2, a3, g0, g1, g2, g3]) rfl ?_
      exact ⟨rfl, hmo⟩

set_option maxHeartbeats 1000000 in
theorem div_no (H L D : Int) (w : World) (hH0 : 0 ≤ H) (hHM : H < MM) (hD0 : 0 ≤ D) (hDM : D < MM) (hge : D ≤ H) :
  Calls Try.prog 85 #[nv H, nv L, nv D] w fun e w' =>
   e = .returned (.tuple #[.agg #[.int .u64 0, .int .u64 0, .int .u64 0, .int .u64 0], .agg #[.int .u64 0, .int .u64 0, .int .u64 0, .int .u64 0], .bool false]) ∧ Mo w w' := by
 have hc : cm H D = 0 ∨ cm H D = 1 := by unfold cm; rw [if_neg (by omega)]; split <;> simp
 have z0 : l0 0 = 0 := by decide
 have z1 : l1 0 = 0 := by decide
 have z2 : l2 0 = 0 := by decide
 have z3 : l3 0 = 0 := by decide
 rcases hc with hc | hc
 all_goals
  have Hc : Hid _ := hc
  clear hc
  go_enter Try.func85, Try.ntmps85
  go_wp2_with fail
  refine (cmp15_any (l0 H) (l1 H) (l2 H) (l3 H) (l0 D) (l1 D) (l2 D) (l3 D) _ (u4_lb H) (u4_lb D)).mono ?_
  rintro e w1 ⟨rfl, hm1⟩
  rw [vl_lb H hH0 hHM, vl_lb D hD0 hDM, Hc.out]
  have v1 := (VW.start w H L D).mo hm1
  clear hm1
  obtain ⟨m1, _, _, _, ⟨⟨c0, c1, c2, c3⟩, fc, zc⟩, ⟨⟨d0, d1, d2, d3⟩, fd, zd⟩⟩ := v1
  rw [z0] at c0 d0; rw [z1] at c1 d1; rw [z2] at c2 d2; rw [z3] at c3 d3
  have fc := fun o => fc o
  have fd := fun o => fd o
  go_wp2
  refine bodyPost_ret (v := .tuple #[.agg #[.int .u64 0, .int .u64 0, .int .u64 0, .int .u64 0], .agg #[.int .u64 0, .int .u64 0, .int .u64 0, .int .u64 0], .bool false]) (by simp [results, Try.results85, go_sem, c0, c1, c2, c3, d0, d1, d2, d3]) rfl ?_
  refine ⟨rfl, ?_⟩
  have le1 : w.heap.size ≤ w.heap.size + 1 + 1 + 1 := by omega
  have le2 : w.heap.size ≤ w.heap.size + 1 + 1 + 1 + 1 := by omega
  repeat (first | with_reducible exact m1 | with_reducible apply Mo.drew | with_reducible refine Mo.setCell ?_ le1 _ | with_reducible refine Mo.setCell ?_ le2 _)

def dq (H L D : Int) : Int := if D ≤ H then 0 else (H * MM + L) / D
def dr (H L D : Int) : Int := if D ≤ H then 0 else (H * MM + L) % D
def dok (H D : Int) : Bool := decide (H < D)
theorem div_any (h0 h1 h2 h3 l0' l1' l2' l3' d0 d1 d2 d3 : Int) (w : World) (hh : U4 h0 h1 h2 h3) (hl : U4 l0' l1' l2' l3') (hd : U4 d0 d1 d2 d3) :
  Calls Try.prog 85 #[.agg #[.int .u64 h0, .int .u64 h1, .int .u64 h2, .int .u64 h3], .agg #[.int .u64 l0', .int .u64 l1', .int .u64 l2', .int .u64 l3'], .agg #[.int .u64 d0, .int .u64 d1, .int .u64 d2, .int .u64 d3]] w fun e w' =>
   e = .returned (.tuple #[nv (dq (vl h0 h1 h2 h3) (vl l0' l1' l2' l3') (vl d0 d1 d2 d3)), nv (dr (vl h0 h1 h2 h3) (vl l0' l1' l2' l3') (vl d0 d1 d2 d3)), .bool (dok (vl h0 h1 h2 h3) (vl d0 d1 d2 d3))]) ∧ Mo w w' := by
 obtain ⟨a1, a2⟩ := vl_bd hh
 obtain ⟨b1, b2⟩ := vl_bd hl
 obtain ⟨c1, c2⟩ := vl_bd hd
 rw [← nv_vl hh, ← nv_vl hl, ← nv_vl hd]
 generalize vl h0 h1 h2 h3 = H at *
 generalize vl l0' l1' l2' l3' = L at *
 generalize vl d0 d1 d2 d3 = D at *
 by_cases hge : D ≤ H
 ·have e1 : nv (dq H L D) = .agg #[.int .u64 0, .int .u64 0, .int .u64 0, .int .u64 0] := by unfold dq; rw [if_pos hge]; simp [nv, l0, l1, l2, l3]
  have e2 : nv (dr H L D) = .agg #[.int .u64 0, .int .u64 0, .int .u64 0, .int .u64 0] := by unfold dr; rw [if_pos hge]; simp [nv, l0, l1, l2, l3]
  have e3 : dok H D = false := decide_eq_false (by omega)
  rw [e1, e2, e3]
  exact div_no H L D w a1 a2 c1 c2 hge
 ·have hlt : H < D := by omega
  obtain ⟨s, hs, hs2, m1, m2⟩ := dshift (D := D) (by omega) c2
  obtain ⟨p1, p2, p3, p4⟩ := shifted (s := s) (H := H) (L := L) (D := D) hs2 a1 hlt b1 b2
  have low0 : 0 ≤ L * 2 ^ s % MM := Int.emod_nonneg _ (by decide)
  have low1 : L * 2 ^ s % MM < MM := Int.emod_lt_of_pos _ (by decide)
  obtain ⟨u, w3, w2, w1, w0, k1, k2⟩ := steps_eq p1 p2 low0 low1 rfl rfl rfl rfl rfl rfl rfl rfl
  have hP : (0 : Int) < 2 ^ s := Int.pow_pos (by decide)
  have hQ : (0 : Int) < 2 ^ (256 - s) := Int.pow_pos (by decide)
  have q1 : 0 ≤ H * 2 ^ s := Int.mul_nonneg a1 (by omega)
  have q2 : 0 ≤ L / 2 ^ (256 - s) := Int.ediv_nonneg b1 (by omega)
  have e3 : dok H D = true := decide_eq_true hlt
  have e1 : dq H L D = (H * MM + L) / D := if_neg hge
  have e2 : dr H L D = (H * MM + L) % D := if_neg hge
  rw [e1, e2, e3, ← k1.trans p3, nv_vl u, ← p4, ← k2]
  exact div_yes H L D _ _ s w a1 a2 b1 b2 c1 c2 hlt hs hs2 rfl rfl ⟨q1, by omega⟩ ⟨q2, by omega⟩ _ _ _ _ _ _ _ _ _ rfl rfl rfl rfl rfl rfl rfl rfl rfl m1 ⟨p1, p2⟩ w3 w2 w1 w0
end Go.Proofs.Ythehmmhnacomkaa

namespace Go.Proofs.Ythehmmhnacomkaa
open Go.RowKit
theorem part0 (x0 x1 x2 x3 : Value) (w : World) : (part 29 #[x0, x1, x2, x3] 0).run Try.prog w = .ok x0 w := by kernel_rfl
theorem part1 (x0 x1 x2 x3 : Value) (w : World) : (part 29 #[x0, x1, x2, x3] 1).run Try.prog w = .ok x1 w := by kernel_rfl
theorem part2 (x0 x1 x2 x3 : Value) (w : World) : (part 29 #[x0, x1, x2, x3] 2).run Try.prog w = .ok x2 w := by kernel_rfl
theorem part3 (x0 x1 x2 x3 : Value) (w : World) : (part 29 #[x0, x1, x2, x3] 3).run Try.prog w = .ok x3 w := by kernel_rfl
theorem cells22 : Try.prog.cellsOf 29 = 1 := by kernel_rfl
theorem info22 : ∃ i, Try.prog.info? 29 = some i := Option.isSome_iff_exists.1 (by kernel_rfl)
theorem eq4 (a b c d e f g h : Int) (w : World) : (Op.equalIn 10000 31 (.agg #[.int .u64 a, .int .u64 b, .int .u64 c, .int .u64 d]) (.agg #[.int .u64 e, .int .u64 f, .int .u64 g, .int .u64 h])).run Try.prog w = .ok (a == e && (b == f && (c == g && d == h))) w := by
 obtain ⟨i, hi⟩ := info22
 rw [show (10000 : Nat) = 9998 + 1 + 1 from rfl, run_equalIn_array w (9998 + 1) _ _ Try.underlying31 hi, cells22]
 have q : ∀ (x y : Int), (Op.equalIn 9999 29 (.int .u64 x) (.int .u64 y)).run Try.prog w = .ok (x == y) w := fun x y => run_equalIn_int w 9998 29 .u64 .u64 x y Try.underlying29
 rw [show List.range 4 = [0, 1, 2, 3] from rfl]
 cases ha : a == e <;> cases hb : b == f <;> cases hc : c == g <;> cases hd : d == h <;> simp [Op.eqItems, Sem.run_bind, part0, part1, part2, part3, Result.andThen_ok, q, ha, hb, hc, hd, Sem.run_pure]
end Go.Proofs.Ythehmmhnacomkaa

