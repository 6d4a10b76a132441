/-
  The document's Bit, whatever the number: the walks.
-/
import Derived.Test.YtoiiekmkcpcbgaaDvw
namespace Go.Proofs.Ytoiiekmkcpcbgaa
open Go.RowKit
theorem and_one (a : Int) (h0 : 0 ≤ a) (h1 : a < 18446744073709551616) : bits .and .u64 a 1 = a % 2 := by
  obtain ⟨x, rfl⟩ := Int.eq_ofNat_of_zero_le h0
  have e := bits_and_u64_nat x 1 (by omega) (by decide)
  rw [Nat.and_one_is_mod] at e
  rw [show ((1 : Nat) : Int) = 1 from rfl] at e
  rw [e]; omega
theorem sh_bd {a : Int} (h : U1 a) (r : Nat) : 0 ≤ a / 2 ^ r ∧ a / 2 ^ r < 18446744073709551616 := by
  obtain ⟨p, q⟩ := h
  have hp : (0 : Int) < 2 ^ r := Int.pow_pos (by decide)
  refine ⟨Int.ediv_nonneg p (by omega), ?_⟩
  have := Int.ediv_le_self (2 ^ r) p
  omega
set_option maxHeartbeats 1000000 in
theorem bit_any (n : Int) (i : Nat) (w : World) (_hn0 : 0 ≤ n) (_hn : n < MM) (hi : i < 256) :
    Calls Try.prog 65 #[nv n, .int .i64 (i : Int)] w fun e w' => e = .returned (.int .u64 (n / 2 ^ i % 2)) ∧ Mo w w' := by
  have fin : ∀ (r : Int) (w' : World), r = n / 2 ^ i % 2 → Mo w w' → (Ending.returned (.int .u64 r) = .returned (.int .u64 (n / 2 ^ i % 2)) ∧ Mo w w') := fun r w' h m => ⟨by rw [h], m⟩
  obtain ⟨r, hr, er⟩ : ∃ r : Nat, r < 64 ∧ (i : Int) % 64 = (r : Int) := ⟨i % 64, by omega, by omega⟩
  have u := u4_lb n
  obtain ⟨u0, u1, u2, u3⟩ := u
  have s0 := sh_bd u0 r
  have s1 := sh_bd u1 r
  have s2 := sh_bd u2 r
  have s3 := sh_bd u3 r
  have t0 := and_one _ s0.1 s0.2
  have t1 := and_one _ s1.1 s1.2
  have t2 := and_one _ s2.1 s2.2
  have t3 := and_one _ s3.1 s3.2
  clear s0 s1 s2 s3
  obtain ⟨p0, q0⟩ := u0
  obtain ⟨p1, q1⟩ := u1
  obtain ⟨p2, q2⟩ := u2
  obtain ⟨p3, q3⟩ := u3
  have hq : (i : Int) / 64 = 0 ∨ (i : Int) / 64 = 1 ∨ (i : Int) / 64 = 2 ∨ (i : Int) / 64 = 3 := by omega
  rcases hq with hq | hq | hq | hq
  · go_enter Try.func65, Try.ntmps65
    go_wp2
    go_ret
    refine fin _ _ ?_ ((Mo.refl _).alloc _ _)
    rw [show i = r from by omega, ← bit_low (l0 n) (n / 18446744073709551616) r hr, show l0 n + 18446744073709551616 * (n / 18446744073709551616) = n from by unfold l0; omega]
  · go_enter Try.func65, Try.ntmps65
    go_wp2
    go_ret
    refine fin _ _ ?_ ((Mo.refl _).alloc _ _)
    rw [show i = 64 + r from by omega, div_pow_split, ← bit_low (l1 n) (n / 340282366920938463463374607431768211456) r hr, show l1 n + 18446744073709551616 * (n / 340282366920938463463374607431768211456) = n / 2 ^ 64 from by unfold l1; omega]
  · go_enter Try.func65, Try.ntmps65
    go_wp2
    go_ret
    refine fin _ _ ?_ ((Mo.refl _).alloc _ _)
    rw [show i = 128 + r from by omega, div_pow_split, ← bit_low (l2 n) (n / 6277101735386680763835789423207666416102355444464034512896) r hr, show l2 n + 18446744073709551616 * (n / 6277101735386680763835789423207666416102355444464034512896) = n / 2 ^ 128 from by unfold l2; omega]
  · go_enter Try.func65, Try.ntmps65
    go_wp2
    go_ret
    refine fin _ _ ?_ ((Mo.refl _).alloc _ _)
    rw [show i = 192 + r from by omega, div_pow_split, ← bit_low (l3 n) (n / MM) r hr, show l3 n + 18446744073709551616 * (n / MM) = n / 2 ^ 192 from by unfold l3 MM; omega]
end Go.Proofs.Ytoiiekmkcpcbgaa
