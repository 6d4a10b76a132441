/-
  A part of the proof.
-/
import Derived.Test.YthehmmhnacomkaaKa1
import Derived.Test.YthehmmhnacomkaaProg
import Derived.WalkKit
import Derived.WalkSpells
import Derived.Handy
import Derived.BigQuiet
import Derived.Deep.RegionHeld3
import Derived.Test.YthehmmhnacomkaaKa3
import Derived.Shelf.Small.Bits
import Derived.Shelf.Strconv.Itoa0
import Derived.Shelf.Bits.Mul64
import Derived.Deep.CutBlock
namespace Go.Proofs.Ythehmmhnacomkaa
open Go.RowKit
theorem bitLen_zero : Lib.bitLen 0 = 0 := by decide
theorem bitLen_bd : ∀ (k x : Nat), x < 2 ^ k → k ≤ 64 → x ≠ 0 → 1 ≤ Lib.bitLen x ∧ Lib.bitLen x ≤ k ∧ 2 ^ (Lib.bitLen x - 1) ≤ x ∧ x < 2 ^ Lib.bitLen x
 | 0, x, h, _, h0 => by simp at h; omega
 | k + 1, x, h, hk, h0 => by
  have h64 : x < 2 ^ 64 := Nat.lt_of_lt_of_le h (Nat.pow_le_pow_right (n := 2) (by decide) hk)
  have e := Lib.bitLen_half x h0 h64
  by_cases hx : x / 2 = 0
  ·rw [hx, bitLen_zero] at e
   have : x = 1 := by omega
   subst this
   rw [e]; simp
  ·have h2 : x / 2 < 2 ^ k := by rw [Nat.pow_succ] at h; omega
   obtain ⟨a, b, c, d⟩ := bitLen_bd k (x / 2) h2 (by omega) hx
   rw [e]
   generalize Lib.bitLen (x / 2) = m at *
   obtain ⟨m, rfl⟩ : ∃ j, m = j + 1 := ⟨m - 1, by omega⟩
   have c' : 2 ^ m ≤ x / 2 := by simpa using c
   refine ⟨by omega, by omega, ?_, ?_⟩
   ·rw [show 1 + (m + 1) - 1 = m + 1 from by omega, Nat.pow_succ]; omega
   ·rw [show 1 + (m + 1) = m + 1 + 1 from by omega, Nat.pow_succ]; omega
theorem lead (y : Int) (h0 : 0 < y) (h1 : y < 18446744073709551616) : ∃ k : Nat, (64 - (Lib.bitLen y.toNat : Int)) = k ∧ k ≤ 63 ∧ 9223372036854775808 ≤ y * 2 ^ k ∧ y * 2 ^ k < 18446744073709551616 := by
 obtain ⟨x, rfl⟩ := Int.eq_ofNat_of_zero_le (show 0 ≤ y by omega)
 obtain ⟨a, b, c, d⟩ := bitLen_bd 64 x (by omega) (by omega) (by omega)
 refine ⟨64 - Lib.bitLen x, ?_, by omega, ?_, ?_⟩
 ·simp; omega
 ·have h : 2 ^ (Lib.bitLen x - 1) * 2 ^ (64 - Lib.bitLen x) ≤ x * 2 ^ (64 - Lib.bitLen x) := Nat.mul_le_mul_right _ c
  rw [← Nat.pow_add, show Lib.bitLen x - 1 + (64 - Lib.bitLen x) = 63 from by omega] at h
  have e : ((x * 2 ^ (64 - Lib.bitLen x) : Nat) : Int) = (x : Int) * 2 ^ (64 - Lib.bitLen x) := by rw [Int.natCast_mul, Int.natCast_pow]; rfl
  rw [← e]
  generalize x * 2 ^ (64 - Lib.bitLen x) = z at *
  omega
 ·have h : x * 2 ^ (64 - Lib.bitLen x) < 2 ^ Lib.bitLen x * 2 ^ (64 - Lib.bitLen x) := Nat.mul_lt_mul_of_pos_right d (Nat.pow_pos (by decide))
  rw [← Nat.pow_add, show Lib.bitLen x + (64 - Lib.bitLen x) = 64 from by omega] at h
  have e : ((x * 2 ^ (64 - Lib.bitLen x) : Nat) : Int) = (x : Int) * 2 ^ (64 - Lib.bitLen x) := by rw [Int.natCast_mul, Int.natCast_pow]; rfl
  rw [← e]
  generalize x * 2 ^ (64 - Lib.bitLen x) = z at *
  omega

theorem div_fit {u h : Int} (hu : 0 ≤ u) (hh : 0 < h) : 0 ≤ u / h ∧ u / h ≤ u ∧ 0 ≤ u / h * h ∧ u / h * h ≤ u := by
 have a := Int.ediv_nonneg hu (show 0 ≤ h by omega)
 have b := Int.ediv_mul_le u (show h ≠ 0 by omega)
 refine ⟨a, ?_, Int.mul_nonneg a (by omega), b⟩
 exact Int.ediv_le_self h hu
theorem mod_sub (u h : Int) : u % h = u - u / h * h := by rw [Int.emod_def, Int.mul_comm]

set_option maxHeartbeats 2000000 in
theorem div64_core (hi lo y Y h l u v d1 d0 T1 R1 T0 R0 : Int) (k : Nat) (w : World) (h0 : 0 < hi) (h1 : hi < y) (_h2 : 0 ≤ lo) (_h3 : lo < 18446744073709551616) (h4 : y < 18446744073709551616)
  (hk : Hid ((64 - (Lib.bitLen y.toNat : Int)) = k)) (hk2 : k ≤ 63)
  (eY : IntKind.u64.wrap (y * 2 ^ k) = Y) (eh : Y / 4294967296 = h) (el : bits .and .u64 Y 4294967295 = l)
  (eu : bits .or .u64 (IntKind.u64.wrap (hi * 2 ^ k)) (lo / 2 ^ (64 - k)) = u) (ev : IntKind.u64.wrap (lo * 2 ^ k) = v) (e1 : v / 4294967296 = d1) (e0 : bits .and .u64 v 4294967295 = d0)
  (hY : Hid (Y = h * 4294967296 + l)) (bh : 2147483648 ≤ h) (bh2 : h < 4294967296) (bl : 0 ≤ l) (bl2 : l < 4294967296) (bd1 : 0 ≤ d1) (bd1' : d1 < 4294967296) (bd0 : 0 ≤ d0) (bd0' : d0 < 4294967296) (bu : 0 ≤ u) (bu2 : u < Y) (bY2 : Y < 18446744073709551616)
  (q1 : Hid (T1 = (u * 4294967296 + d1) / Y)) (q2 : Hid (R1 = (u * 4294967296 + d1) % Y)) (q3 : Hid (T0 = (R1 * 4294967296 + d0) / Y)) (q4 : Hid (R0 = (R1 * 4294967296 + d0) % Y))
  (bT1 : 0 ≤ T1) (bT1' : T1 < 4294967296) (bR1 : 0 ≤ R1) (bR1' : R1 < Y) (bT0 : 0 ≤ T0) (bT0' : T0 < 4294967296) (bR0 : 0 ≤ R0) (bR0' : R0 < Y) :
  Calls Try.prog 110 #[.int .u64 hi, .int .u64 lo, .int .u64 y] w fun e w' =>
   e = .returned (.tuple #[.int .u64 (T1 * 4294967296 + T0), .int .u64 (R0 / 2 ^ k)]) ∧ w' = w := by
 have hy : (y == 0) = false := by rw [beq_eq_false_iff_ne]; omega
 have hy2 : ¬ y ≤ hi := by omega
 have hh : (hi == 0) = false := by rw [beq_eq_false_iff_ne]; omega
 have hh0 : h ≠ 0 := by omega
 obtain ⟨a1, a2, a3, a4⟩ := div_fit bu (show 0 < h by omega)
 obtain ⟨a5, a6, a7, a8⟩ := div_fit bR1 (show 0 < h by omega)
 have r1 : IntKind.u64.wrap (IntKind.u64.wrap (IntKind.u64.wrap (u * 4294967296) + d1) - IntKind.u64.wrap (T1 * Y)) = R1 := by
  have := q2.out; have e := q1.out
  have m := mod_sub (u * 4294967296 + d1) Y
  rw [← e] at m
  simp only [IntKind.wrap_u64]
  omega
 have r0 : IntKind.u64.wrap (IntKind.u64.wrap (IntKind.u64.wrap (R1 * 4294967296) + d0) - IntKind.u64.wrap (T0 * Y)) = R0 := by
  have := q4.out; have e := q3.out
  have m := mod_sub (R1 * 4294967296 + d0) Y
  rw [← e] at m
  simp only [IntKind.wrap_u64]
  omega
 have G1 : Gs u d1 h l (u / h) (u - u / h * h) := by
  rw [← mod_sub]; exact Gs.start bh bh2 bl bl2 bd1 bd1' bu (by rw [← hY.out]; exact bu2)
 have G0 : Gs R1 d0 h l (R1 / h) (R1 - R1 / h * h) := by
  rw [← mod_sub]; exact Gs.start bh bh2 bl bl2 bd0 bd0' bR1 (by rw [← hY.out]; exact bR1')
 have Hr1 : Hid _ := r1
 have Hr0 : Hid _ := r0
 clear r1 r0
 go_enter Try.func110, Try.ntmps110
 go_upto_block 0 with (go_at_call 111; refine (Try.bits_LeadingZeros64 y _ (by omega) (by omega)).mono ?_; rintro e w' ⟨rfl, rfl⟩; rw [hk.out])
 go_cut [15, 16] from 67 to 85 (fun a _ wx => a = .int .u64 T1 ∧ wx = w')
 case first =>
  go_wp2
  go_loop [15, 16] (fun a b => ∃ q r : Int, a = .int .u64 q ∧ b = .int .u64 r ∧ Gs u d1 h l q r) (fun a _ => (intOf a).toNat)
  case atStart => exact ⟨_, _, rfl, rfl, G1⟩
  case round =>
   obtain ⟨q, r, rfl, rfl, g⟩ := hrel
   have i1 := g.hq
   have i2 := g.hr
   have i3 := g.hr2
   have i4 : q ≤ u := by
    have m1 : q * 1 ≤ q * h := Int.mul_le_mul_of_nonneg_left (show (1 : Int) ≤ h by omega) i1
    have m2 := g.hqr
    omega
   by_cases hq : 4294967296 ≤ q
   ·obtain ⟨j1, _⟩ := g.down (Or.inl hq)
    by_cases hs : 4294967296 ≤ r + h
    ·have hT : q - 1 = T1 := by rw [q1.out, hY.out]; exact g.stop (Or.inl hq) hs
     have HT : Hid _ := hT
     clear hT
     go_wp2
     go_meet
     case rel => exact ⟨by rw [HT.out], rfl⟩
    ·go_wp2
     go_round
     case rel => exact ⟨_, _, rfl, rfl, g.next (Or.inl hq) (by omega)⟩
     case measure => simp [intOf]; omega
   ·obtain ⟨f1, f2⟩ := g.fit (by omega)
    by_cases ht : 4294967296 * r + d1 < q * l
    ·obtain ⟨j1, _⟩ := g.down (Or.inr ht)
     by_cases hs : 4294967296 ≤ r + h
     ·have hT : q - 1 = T1 := by rw [q1.out, hY.out]; exact g.stop (Or.inr ht) hs
      have HT : Hid _ := hT
      clear hT
      go_wp2
      go_meet
      case rel => exact ⟨by rw [HT.out], rfl⟩
     ·go_wp2
      go_round
      case rel => exact ⟨_, _, rfl, rfl, g.next (Or.inr ht) (by omega)⟩
      case measure => simp [intOf]; omega
    ·have hT : q = T1 := by rw [q1.out, hY.out]; exact g.done (by omega)
     have HT : Hid _ := hT
     clear hT
     go_wp2
     go_meet
     case rel => exact ⟨by rw [HT.out], rfl⟩
 case rest =>
  obtain ⟨rfl, rfl⟩ := hcut
  have r1 := Hr1.out
  go_upto_block 2 with fail
  go_cut [18, 16] from 102 to 120 (fun a _ wx => a = .int .u64 T0 ∧ wx = wc)
  case first =>
   go_wp2
   go_loop [18, 16] (fun a b => ∃ q r : Int, a = .int .u64 q ∧ b = .int .u64 r ∧ Gs R1 d0 h l q r) (fun a _ => (intOf a).toNat)
   case atStart => exact ⟨_, _, rfl, rfl, G0⟩
   case round =>
    obtain ⟨q, r, rfl, rfl, g⟩ := hrel
    have i1 := g.hq
    have i2 := g.hr
    have i3 := g.hr2
    have i4 : q ≤ R1 := by
     have m1 : q * 1 ≤ q * h := Int.mul_le_mul_of_nonneg_left (show (1 : Int) ≤ h by omega) i1
     have m2 := g.hqr
     omega
    by_cases hq : 4294967296 ≤ q
    ·obtain ⟨j1, _⟩ := g.down (Or.inl hq)
     by_cases hs : 4294967296 ≤ r + h
     ·have hT : q - 1 = T0 := by rw [q3.out, hY.out]; exact g.stop (Or.inl hq) hs
      have HT : Hid _ := hT
      clear hT
      go_wp2
      go_meet
      case rel => exact ⟨by rw [HT.out], rfl⟩
     ·go_wp2
      go_round
      case rel => exact ⟨_, _, rfl, rfl, g.next (Or.inl hq) (by omega)⟩
      case measure => simp [intOf]; omega
    ·obtain ⟨f1, f2⟩ := g.fit (by omega)
     by_cases ht : 4294967296 * r + d0 < q * l
     ·obtain ⟨j1, _⟩ := g.down (Or.inr ht)
      by_cases hs : 4294967296 ≤ r + h
      ·have hT : q - 1 = T0 := by rw [q3.out, hY.out]; exact g.stop (Or.inr ht) hs
       have HT : Hid _ := hT
       clear hT
       go_wp2
       go_meet
       case rel => exact ⟨by rw [HT.out], rfl⟩
      ·go_wp2
       go_round
       case rel => exact ⟨_, _, rfl, rfl, g.next (Or.inr ht) (by omega)⟩
       case measure => simp [intOf]; omega
     ·have hT : q = T0 := by rw [q3.out, hY.out]; exact g.done (by omega)
      have HT : Hid _ := hT
      clear hT
      go_wp2
      go_meet
      case rel => exact ⟨by rw [HT.out], rfl⟩
  case rest =>
   obtain ⟨rfl, rfl⟩ := hcut
   have r0 := Hr0.out
   go_wp2
   go_ret2
   exact ⟨rfl, rfl⟩

theorem mask32 (a : Int) (h0 : 0 ≤ a) (h1 : a < 18446744073709551616) : bits .and .u64 a 4294967295 = a % 4294967296 := by
 obtain ⟨x, rfl⟩ := Int.eq_ofNat_of_zero_le h0
 rw [Mul64.maskN x (by omega)]
 omega
theorem or_join (a b : Int) (k : Nat) (ha : 0 ≤ a) (hb : 0 ≤ b) (hb2 : b < 2 ^ k) (h : a * 2 ^ k + b < 18446744073709551616) : bits .or .u64 (a * 2 ^ k) b = a * 2 ^ k + b := by
 obtain ⟨x, rfl⟩ := Int.eq_ofNat_of_zero_le ha
 obtain ⟨z, rfl⟩ := Int.eq_ofNat_of_zero_le hb
 have e : ((x * 2 ^ k : Nat) : Int) = (x : Int) * 2 ^ k := by rw [Int.natCast_mul, Int.natCast_pow]; rfl
 have e2 : ((2 ^ k : Nat) : Int) = (2 : Int) ^ k := by rw [Int.natCast_pow]; rfl
 rw [← e] at h ⊢
 rw [← e2] at hb2
 have j : x * 2 ^ k ||| z = x * 2 ^ k + z := by
  rw [Nat.mul_comm x]; exact (Nat.two_pow_add_eq_or_of_lt (by omega) x).symm
 rw [bits_or_u64_nat (x * 2 ^ k) z (by omega) (by omega), j]
 omega
theorem pow_split (k : Nat) (hk : k ≤ 63) : (2 : Int) ^ (64 - k) * 2 ^ k = 18446744073709551616 := by
 rw [← Int.pow_add, show 64 - k + k = 64 from by omega]; decide

theorem div64_big (hi lo y : Int) (w : World) (h0 : 0 < hi) (h1 : hi < y) (h2 : 0 ≤ lo) (h3 : lo < 18446744073709551616) (h4 : y < 18446744073709551616) :
  Calls Try.prog 110 #[.int .u64 hi, .int .u64 lo, .int .u64 y] w fun e w' =>
   e = .returned (.tuple #[.int .u64 ((hi * 18446744073709551616 + lo) / y), .int .u64 ((hi * 18446744073709551616 + lo) % y)]) ∧ w' = w := by
 obtain ⟨k, hk, hk2, c1, c2⟩ := lead y (by omega) h4
 have hP : (0 : Int) < 2 ^ k := Int.pow_pos (by decide)
 have hQ : (0 : Int) < 2 ^ (64 - k) := Int.pow_pos (by decide)
 have hPQ := pow_split k hk2
 -- the words, shifted
 have lq : lo / 2 ^ (64 - k) < 2 ^ k := Int.ediv_lt_of_lt_mul hQ (by rw [Int.mul_comm, hPQ]; exact h3)
 have lq0 : 0 ≤ lo / 2 ^ (64 - k) := Int.ediv_nonneg h2 (by omega)
 have hy1 : (hi + 1) * 2 ^ k ≤ y * 2 ^ k := Int.mul_le_mul_of_nonneg_right (by omega) (by omega)
 rw [Int.add_mul, Int.one_mul] at hy1
 have hiP : 0 ≤ hi * 2 ^ k := Int.mul_nonneg (by omega) (by omega)
 have lop : lo * 2 ^ k / 18446744073709551616 = lo / 2 ^ (64 - k) := by
  rw [← hPQ]; exact Int.mul_ediv_mul_of_pos_left _ _ hP
 have eY : IntKind.u64.wrap (y * 2 ^ k) = y * 2 ^ k := by rw [IntKind.wrap_u64]; omega
 have ehi : IntKind.u64.wrap (hi * 2 ^ k) = hi * 2 ^ k := by rw [IntKind.wrap_u64]; omega
 have eu : bits .or .u64 (IntKind.u64.wrap (hi * 2 ^ k)) (lo / 2 ^ (64 - k)) = hi * 2 ^ k + lo / 2 ^ (64 - k) := by
  rw [ehi]; exact or_join hi _ k (by omega) lq0 lq (by omega)
 have ev : IntKind.u64.wrap (lo * 2 ^ k) = lo * 2 ^ k % 18446744073709551616 := by rw [IntKind.wrap_u64]
 have whole : (hi * 2 ^ k + lo / 2 ^ (64 - k)) * 18446744073709551616 + lo * 2 ^ k % 18446744073709551616 = (hi * 18446744073709551616 + lo) * 2 ^ k := by
  rw [Int.add_mul (hi * 18446744073709551616), Int.mul_right_comm hi 18446744073709551616, ← lop, Int.add_mul]; omega
 have div1 : (hi * 18446744073709551616 + lo) * 2 ^ k / (y * 2 ^ k) = (hi * 18446744073709551616 + lo) / y := Int.mul_ediv_mul_of_pos_left _ _ hP
 have mod1 : (hi * 18446744073709551616 + lo) * 2 ^ k % (y * 2 ^ k) = (hi * 18446744073709551616 + lo) % y * 2 ^ k := by
  rw [mod_sub, div1, mod_sub, Int.sub_mul, Int.mul_assoc]
 have mod2 : (hi * 18446744073709551616 + lo) % y * 2 ^ k / 2 ^ k = (hi * 18446744073709551616 + lo) % y := Int.mul_ediv_cancel _ (by omega)
 generalize hYe : y * 2 ^ k = Y at *
 generalize hue : hi * 2 ^ k + lo / 2 ^ (64 - k) = u at *
 generalize hve : lo * 2 ^ k % 18446744073709551616 = v at *
 have hv : 0 ≤ v ∧ v < 18446744073709551616 := by omega
 have hu : 0 ≤ u ∧ u < Y := by omega
 have hY0 : Y ≠ 0 := by omega
 -- the digits
 have b1 := Int.emod_nonneg (u * 4294967296 + v / 4294967296) hY0
 have b2 := Int.emod_lt_of_pos (u * 4294967296 + v / 4294967296) (show 0 < Y by omega)
 have t1 : (u * 4294967296 + v / 4294967296) / Y < 4294967296 := Int.ediv_lt_of_lt_mul (by omega) (by omega)
 have t1' : 0 ≤ (u * 4294967296 + v / 4294967296) / Y := Int.ediv_nonneg (by omega) (by omega)
 have s1 := mod_sub (u * 4294967296 + v / 4294967296) Y
 generalize hT1 : (u * 4294967296 + v / 4294967296) / Y = T1 at *
 generalize hR1 : (u * 4294967296 + v / 4294967296) % Y = R1 at *
 have b3 := Int.emod_nonneg (R1 * 4294967296 + v % 4294967296) hY0
 have b4 := Int.emod_lt_of_pos (R1 * 4294967296 + v % 4294967296) (show 0 < Y by omega)
 have t0 : (R1 * 4294967296 + v % 4294967296) / Y < 4294967296 := Int.ediv_lt_of_lt_mul (by omega) (by omega)
 have t0' : 0 ≤ (R1 * 4294967296 + v % 4294967296) / Y := Int.ediv_nonneg (by omega) (by omega)
 have s0 := mod_sub (R1 * 4294967296 + v % 4294967296) Y
 generalize hT0 : (R1 * 4294967296 + v % 4294967296) / Y = T0 at *
 generalize hR0 : (R1 * 4294967296 + v % 4294967296) % Y = R0 at *
 have key : (hi * 18446744073709551616 + lo) * 2 ^ k = R0 + Y * (T1 * 4294967296 + T0) := by
  rw [← whole, Int.mul_add, ← Int.mul_assoc, Int.mul_comm Y T1, Int.mul_comm Y T0]; omega
 have fq : (hi * 18446744073709551616 + lo) / y = T1 * 4294967296 + T0 := by
  rw [← div1, key, Int.add_mul_ediv_left _ _ hY0, Int.ediv_eq_zero_of_lt b3 b4, Int.zero_add]
 have fr : (hi * 18446744073709551616 + lo) % y = R0 / 2 ^ k := by
  rw [← mod2, ← mod1, key, Int.add_mul_emod_self_left, Int.emod_eq_of_lt b3 b4]
 rw [fq, fr]
 exact div64_core hi lo y Y (Y / 4294967296) (Y % 4294967296) u v (v / 4294967296) (v % 4294967296) T1 R1 T0 R0 k w h0 h1 h2 h3 h4 hk hk2 (by rw [hYe]; exact eY) rfl (mask32 Y (by omega) c2) eu ev rfl (mask32 v hv.1 hv.2)
  (show Y = Y / 4294967296 * 4294967296 + Y % 4294967296 by omega) (by omega) (by omega) (by omega) (by omega) (by omega) (by omega) (by omega) (by omega) hu.1 hu.2 c2 hT1.symm hR1.symm hT0.symm hR0.symm t1' t1 b1 b2 t0' t0 b3 b4

theorem div64_any (hi lo y : Int) (w : World) (h0 : 0 ≤ hi) (h1 : hi < y) (h2 : 0 ≤ lo) (h3 : lo < 18446744073709551616) (h4 : y < 18446744073709551616) :
  Calls Try.prog 110 #[.int .u64 hi, .int .u64 lo, .int .u64 y] w fun e w' =>
   e = .returned (.tuple #[.int .u64 ((hi * 18446744073709551616 + lo) / y), .int .u64 ((hi * 18446744073709551616 + lo) % y)]) ∧ ∃ n, w' = w.drewN n := by
 by_cases h : hi = 0
 ·subst h
  rw [Int.zero_mul, Int.zero_add]
  exact div64_0 lo y w h2 h3 (by omega) h4
 ·refine (div64_big hi lo y w (by omega) h1 h2 h3 h4).mono ?_
  rintro e w' ⟨rfl, rfl⟩
  exact ⟨rfl, 0, rfl⟩
end Go.Proofs.Ythehmmhnacomkaa

namespace Go.Proofs.Ythehmmhnacomkaa
def bln (n : Int) : Int := if n = 0 then 0 else (Nat.log2 n.toNat : Int) + 1
theorem cast_pow (k : Nat) : ((2 ^ k : Nat) : Int) = (2 : Int) ^ k := by rw [Int.natCast_pow]; rfl
theorem bln_of {n : Int} (k : Nat) (h1 : (2 : Int) ^ k ≤ n) (h2 : n < 2 ^ (k + 1)) : bln n = k + 1 := by
 have hp : (0 : Int) < 2 ^ k := Int.pow_pos (by decide)
 obtain ⟨m, rfl⟩ := Int.eq_ofNat_of_zero_le (show 0 ≤ n by omega)
 rw [← cast_pow] at h1 h2
 have : Nat.log2 m = k := (Nat.log2_eq_iff (by omega)).2 ⟨by omega, by omega⟩
 unfold bln
 rw [if_neg (by omega), Int.toNat_natCast, this]
theorem bln_join {a low : Int} (s : Nat) (ha : 0 < a) (ha2 : a < 18446744073709551616) (h0 : 0 ≤ low) (h1 : low < 2 ^ s) : bln (a * 2 ^ s + low) = s + Lib.bitLen a.toNat := by
 obtain ⟨x, rfl⟩ := Int.eq_ofNat_of_zero_le (show 0 ≤ a by omega)
 obtain ⟨b1, b2, b3, b4⟩ := bitLen_bd 64 x (by omega) (by omega) (by omega)
 rw [Int.toNat_natCast]
 generalize Lib.bitLen x = L at *
 obtain ⟨m, rfl⟩ : ∃ j, L = j + 1 := ⟨L - 1, by omega⟩
 have b3' : 2 ^ m ≤ x := by simpa using b3
 have c3 : (2 : Int) ^ m ≤ x := by rw [← cast_pow]; omega
 have c4 : (x : Int) + 1 ≤ 2 ^ (m + 1) := by rw [← cast_pow]; omega
 have hp : (0 : Int) ≤ 2 ^ s := Int.le_of_lt (Int.pow_pos (by decide))
 have e := bln_of (n := (x : Int) * 2 ^ s + low) (s + m) ?_ ?_
 ·rw [e]; omega
 ·have := Int.mul_le_mul_of_nonneg_right c3 hp
  rw [← Int.pow_add, Nat.add_comm] at this
  omega
 ·have := Int.mul_le_mul_of_nonneg_right c4 hp
  rw [← Int.pow_add, Int.add_mul, Int.one_mul, show m + 1 + s = s + m + 1 from by omega] at this
  omega
theorem div_pow_split (n : Int) (i j : Nat) : n / 2 ^ (i + j) = n / 2 ^ i / 2 ^ j := by
 rw [Int.pow_add, Int.ediv_ediv_of_nonneg (Int.le_of_lt (Int.pow_pos (by decide)))]
end Go.Proofs.Ythehmmhnacomkaa

namespace Go.Proofs.Ythehmmhnacomkaa
open Go.RowKit
def AtN (w : World) (k : Nat) (n : Int) : Prop := At4 w k (l0 n) (l1 n) (l2 n) (l3 n) ∧ Fz w k ∧ k < w.heap.size
abbrev st4 (w : World) (k : Nat) (z : Int) : World := (((w.setCell ⟨k, 0, none⟩ (.int .u64 (l0 z))).setCell ⟨k, 1, none⟩ (.int .u64 (l1 z))).setCell ⟨k, 2, none⟩ (.int .u64 (l2 z))).setCell ⟨k, 3, none⟩ (.int .u64 (l3 z))
theorem AtN.mo {w w' : World} {k : Nat} {n : Int} (h : AtN w k n) (m : Mo w w') : AtN w' k n :=
 ⟨h.1.mo m h.2.2, h.2.1.mo m, Nat.lt_of_lt_of_le h.2.2 m.size⟩
theorem AtN.same {w : World} {k : Nat} {n : Int} (h : AtN w k n) (z : Int) : AtN (st4 w k z) k z := by
 obtain ⟨⟨b0, b1, b2, b3⟩, f, s⟩ := h
 refine ⟨by simp [At4, go_sem, *], fun o => by simp [World.frozen?_setCell, f o], by simpa [World.setCell] using s⟩
theorem AtN.other {w : World} {k j : Nat} {n : Int} (h : AtN w j n) (hk : j ≠ k) (z : Int) : AtN (st4 w k z) j n := by
 obtain ⟨⟨b0, b1, b2, b3⟩, f, s⟩ := h
 refine ⟨by simp [At4, go_sem, *], fun o => by simp [World.frozen?_setCell, f o], by simpa [World.setCell] using s⟩
theorem AtN.new (w : World) (n : Int) : AtN (w.alloc (.cells #[.int .u64 (l0 n), .int .u64 (l1 n), .int .u64 (l2 n), .int .u64 (l3 n)] 31)) w.heap.size n :=
 ⟨by simp [At4, go_sem], fun o => by simp [go_sem], by simp⟩
theorem Mo.st4 {a b : World} (h : Mo a b) {k : Nat} (hk : a.heap.size ≤ k) (z : Int) : Mo a (st4 b k z) :=
 (((h.setCell hk _).setCell hk _).setCell hk _).setCell hk _
def VW (w wx : World) (h l d : Int) : Prop := Mo w wx ∧ AtN wx w.heap.size h ∧ AtN wx (w.heap.size + 1) l ∧ AtN wx (w.heap.size + 1 + 1) d ∧ AtN wx (w.heap.size + 1 + 1 + 1) 0 ∧ AtN wx (w.heap.size + 1 + 1 + 1 + 1) 0
theorem VW.mo {w wx w1 : World} {h l d : Int} (v : VW w wx h l d) (m : Mo wx w1) : VW w w1 h l d := by
 obtain ⟨v1, v2, v3, v4, v5, v6⟩ := v
 exact ⟨v1.trans m, v2.mo m, v3.mo m, v4.mo m, v5.mo m, v6.mo m⟩
theorem VW.setd {w wx : World} {h l d : Int} (v : VW w wx h l d) (z : Int) : VW w (st4 wx (w.heap.size + 1 + 1) z) h l z := by
 obtain ⟨v1, v2, v3, v4, v5, v6⟩ := v
 exact ⟨v1.st4 (by omega) z, v2.other (by omega) z, v3.other (by omega) z, v4.same z, v5.other (by omega) z, v6.other (by omega) z⟩
theorem VW.setl {w wx : World} {h l d : Int} (v : VW w wx h l d) (z : Int) : VW w (st4 wx (w.heap.size + 1) z) h z d := by
 obtain ⟨v1, v2, v3, v4, v5, v6⟩ := v
 exact ⟨v1.st4 (by omega) z, v2.other (by omega) z, v3.same z, v4.other (by omega) z, v5.other (by omega) z, v6.other (by omega) z⟩
theorem VW.setk {w wx : World} {h l d : Int} (v : VW w wx h l d) {k : Nat} (hk : w.heap.size + 1 + 1 + 1 + 1 < k) (z : Int) : VW w (st4 wx k z) h l d := by
 obtain ⟨v1, v2, v3, v4, v5, v6⟩ := v
 exact ⟨v1.st4 (by omega) z, v2.other (by omega) z, v3.other (by omega) z, v4.other (by omega) z, v5.other (by omega) z, v6.other (by omega) z⟩
theorem VW.start (w : World) (h l d : Int) : VW w (((((w.alloc (.cells #[.int .u64 (l0 h), .int .u64 (l1 h), .int .u64 (l2 h), .int .u64 (l3 h)] 31)).alloc (.cells #[.int .u64 (l0 l), .int .u64 (l1 l), .int .u64 (l2 l), .int .u64 (l3 l)] 31)).alloc (.cells #[.int .u64 (l0 d), .int .u64 (l1 d), .int .u64 (l2 d), .int .u64 (l3 d)] 31)).alloc (.cells #[.int .u64 0, .int .u64 0, .int .u64 0, .int .u64 0] 31)).alloc (.cells #[.int .u64 0, .int .u64 0, .int .u64 0, .int .u64 0] 31)) h l d := by
 have z0 : l0 0 = 0 := by decide
 have z1 : l1 0 = 0 := by decide
 have z2 : l2 0 = 0 := by decide
 have z3 : l3 0 = 0 := by decide
 refine ⟨(((((Mo.refl _).alloc _ _).alloc _ _).alloc _ _).alloc _ _).alloc _ _, ⟨by simp [At4, go_sem], fun o => by simp [go_sem], by simp <;> omega⟩, ⟨by simp [At4, go_sem], fun o => by simp [go_sem], by simp <;> omega⟩, ⟨by simp [At4, go_sem], fun o => by simp [go_sem], by simp <;> omega⟩, ⟨by simp [At4, go_sem, z0, z1, z2, z3], fun o => by simp [go_sem], by simp <;> omega⟩, ⟨by simp [At4, go_sem, z0, z1, z2, z3], fun o => by simp [go_sem], by simp <;> omega⟩⟩

theorem dshift {D : Int} (h0 : 0 < D) (h : D < MM) : ∃ s : Nat, 256 - bln D = (s : Int) ∧ s ≤ 255 ∧ D * 2 ^ s < MM ∧ 57896044618658097711785492504343953926634992332820282019728792003956564819968 ≤ D * 2 ^ s := by
 obtain ⟨m, rfl⟩ := Int.eq_ofNat_of_zero_le (show 0 ≤ D by omega)
 have ne : m ≠ 0 := by omega
 have a1 := Nat.log2_self_le ne
 have a2 := @Nat.lt_log2_self m
 have lt : Nat.log2 m < 256 := (Nat.log2_lt ne).2 (by unfold MM at h; omega)
 refine ⟨255 - Nat.log2 m, ?_, by omega, ?_, ?_⟩
 ·unfold bln; rw [if_neg (by omega), Int.toNat_natCast]; omega
 ·have b : m * 2 ^ (255 - Nat.log2 m) < 2 ^ (Nat.log2 m + 1) * 2 ^ (255 - Nat.log2 m) := Nat.mul_lt_mul_of_pos_right a2 (Nat.pow_pos (by decide))
  rw [← Nat.pow_add, show Nat.log2 m + 1 + (255 - Nat.log2 m) = 256 from by omega] at b
  have e : ((m * 2 ^ (255 - Nat.log2 m) : Nat) : Int) = (m : Int) * 2 ^ (255 - Nat.log2 m) := by rw [Int.natCast_mul, cast_pow]
  rw [← e]
  generalize m * 2 ^ (255 - Nat.log2 m) = z at *
  unfold MM; omega
 ·have b : 2 ^ Nat.log2 m * 2 ^ (255 - Nat.log2 m) ≤ m * 2 ^ (255 - Nat.log2 m) := Nat.mul_le_mul_right _ a1
  rw [← Nat.pow_add, show Nat.log2 m + (255 - Nat.log2 m) = 255 from by omega] at b
  have e : ((m * 2 ^ (255 - Nat.log2 m) : Nat) : Int) = (m : Int) * 2 ^ (255 - Nat.log2 m) := by rw [Int.natCast_mul, cast_pow]
  rw [← e]
  generalize m * 2 ^ (255 - Nat.log2 m) = z at *
  omega

theorem step_bd {P e D : Int} (h0 : 0 ≤ P) (h : P < D) (he : U1 e) : U1 ((P * 18446744073709551616 + e) / D) ∧ 0 ≤ (P * 18446744073709551616 + e) % D ∧ (P * 18446744073709551616 + e) % D < D ∧ D * ((P * 18446744073709551616 + e) / D) + (P * 18446744073709551616 + e) % D = P * 18446744073709551616 + e := by
 obtain ⟨a, b⟩ := he
 refine ⟨⟨Int.ediv_nonneg (by omega) (by omega), Int.ediv_lt_of_lt_mul (by omega) (by omega)⟩, Int.emod_nonneg _ (by omega), Int.emod_lt_of_pos _ (by omega), Int.mul_ediv_add_emod _ _⟩
theorem steps_eq {P4 P3 P2 P1 P0 q3 q2 q1 q0 low D : Int} (h0 : 0 ≤ P4) (h : P4 < D) (hl0 : 0 ≤ low) (hl : low < MM)
  (e3 : q3 = (P4 * 18446744073709551616 + l3 low) / D) (f3 : P3 = (P4 * 18446744073709551616 + l3 low) % D) (e2 : q2 = (P3 * 18446744073709551616 + l2 low) / D) (f2 : P2 = (P3 * 18446744073709551616 + l2 low) % D)
  (e1 : q1 = (P2 * 18446744073709551616 + l1 low) / D) (f1 : P1 = (P2 * 18446744073709551616 + l1 low) % D) (e0 : q0 = (P1 * 18446744073709551616 + l0 low) / D) (f0 : P0 = (P1 * 18446744073709551616 + l0 low) % D) :
  U4 q0 q1 q2 q3 ∧ (0 ≤ P3 ∧ P3 < D) ∧ (0 ≤ P2 ∧ P2 < D) ∧ (0 ≤ P1 ∧ P1 < D) ∧ (0 ≤ P0 ∧ P0 < D) ∧ vl q0 q1 q2 q3 = (P4 * MM + low) / D ∧ P0 = (P4 * MM + low) % D := by
 obtain ⟨u0, u1, u2, u3⟩ := u4_lb low
 obtain ⟨a3, b3, c3, d3⟩ := step_bd h0 h u3
 rw [← e3, ← f3] at d3; rw [← e3] at a3; rw [← f3] at b3 c3
 obtain ⟨a2, b2, c2, d2⟩ := step_bd b3 c3 u2
 rw [← e2, ← f2] at d2; rw [← e2] at a2; rw [← f2] at b2 c2
 obtain ⟨a1, b1, c1, d1⟩ := step_bd b2 c2 u1
 rw [← e1, ← f1] at d1; rw [← e1] at a1; rw [← f1] at b1 c1
 obtain ⟨a0, b0, c0, d0⟩ := step_bd b1 c1 u0
 rw [← e0, ← f0] at d0; rw [← e0] at a0; rw [← f0] at b0 c0
 have lw := vl_lb low hl0 hl
 have key : P4 * MM + low = P0 + D * vl q0 q1 q2 q3 := by
  have e : D * vl q0 q1 q2 q3 = D * q0 + 18446744073709551616 * (D * q1) + 340282366920938463463374607431768211456 * (D * q2) + 6277101735386680763835789423207666416102355444464034512896 * (D * q3) := by
   unfold vl; rw [Int.mul_add, Int.mul_add, Int.mul_add, Int.mul_left_comm, Int.mul_left_comm D _ q2, Int.mul_left_comm D _ q3]
  rw [e, ← lw]
  clear e e0 e1 e2 e3 f0 f1 f2 f3 lw
  unfold vl MM
  omega
 refine ⟨⟨a0, a1, a2, a3⟩, ⟨b3, c3⟩, ⟨b2, c2⟩, ⟨b1, c1⟩, ⟨b0, c0⟩, ?_, ?_⟩
 ·rw [key, Int.add_mul_ediv_left _ _ (by omega), Int.ediv_eq_zero_of_lt b0 c0, Int.zero_add]
 ·rw [key, Int.add_mul_emod_self_left, Int.emod_eq_of_lt b0 c0]
theorem shifted {H L D : Int} {s : Nat} (hs : s ≤ 255) (hH : 0 ≤ H) (hHD : H < D) (hL0 : 0 ≤ L) (hL : L < MM) :
  0 ≤ H * 2 ^ s + L / 2 ^ (256 - s) ∧ H * 2 ^ s + L / 2 ^ (256 - s) < D * 2 ^ s ∧
  ((H * 2 ^ s + L / 2 ^ (256 - s)) * MM + L * 2 ^ s % MM) / (D * 2 ^ s) = (H * MM + L) / D ∧ ((H * 2 ^ s + L / 2 ^ (256 - s)) * MM + L * 2 ^ s % MM) % (D * 2 ^ s) / 2 ^ s = (H * MM + L) % D := by
 have hP : (0 : Int) < 2 ^ s := Int.pow_pos (by decide)
 have hQ : (0 : Int) < 2 ^ (256 - s) := Int.pow_pos (by decide)
 have hPQ : (2 : Int) ^ (256 - s) * 2 ^ s = MM := by rw [← Int.pow_add, show 256 - s + s = 256 from by omega]; decide
 have lq0 : 0 ≤ L / 2 ^ (256 - s) := Int.ediv_nonneg hL0 (by omega)
 have lq : L / 2 ^ (256 - s) < 2 ^ s := Int.ediv_lt_of_lt_mul hQ (by rw [Int.mul_comm, hPQ]; exact hL)
 have hy1 : (H + 1) * 2 ^ s ≤ D * 2 ^ s := Int.mul_le_mul_of_nonneg_right (by omega) (by omega)
 rw [Int.add_mul, Int.one_mul] at hy1
 have hiP : 0 ≤ H * 2 ^ s := Int.mul_nonneg hH (by omega)
 have lop : L * 2 ^ s / MM = L / 2 ^ (256 - s) := by rw [← hPQ]; exact Int.mul_ediv_mul_of_pos_left _ _ hP
 have whole : (H * 2 ^ s + L / 2 ^ (256 - s)) * MM + L * 2 ^ s % MM = (H * MM + L) * 2 ^ s := by
  rw [Int.add_mul (H * MM), Int.mul_right_comm H MM, ← lop, Int.add_mul]
  have := Int.mul_ediv_add_emod (L * 2 ^ s) MM
  rw [Int.mul_comm MM] at this
  omega
 have div1 : (H * MM + L) * 2 ^ s / (D * 2 ^ s) = (H * MM + L) / D := Int.mul_ediv_mul_of_pos_left _ _ hP
 refine ⟨by omega, by omega, ?_, ?_⟩
 ·rw [whole, div1]
 ·rw [whole, mod_sub, div1, mod_sub, ← Int.mul_assoc, ← Int.sub_mul, Int.mul_ediv_cancel _ (by omega)]
end Go.Proofs.Ythehmmhnacomkaa

