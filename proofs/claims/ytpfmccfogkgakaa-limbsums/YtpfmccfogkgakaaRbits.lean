/-
  The document's Bit and Bits, whatever the number: the walks.
-/
import Derived.Test.YtpfmccfogkgakaaDvw
namespace Go.Proofs.Ytpfmccfogkgakaa
open Go.RowKit
theorem and_one (a : Int) (h0 : 0 ≤ a) (h1 : a < 18446744073709551616) : bits .and .u64 a 1 = a % 2 := by
  obtain ⟨x, rfl⟩ := Int.eq_ofNat_of_zero_le h0
  have e := bits_and_u64_nat x 1 (by omega) (by decide)
  rw [Nat.and_one_is_mod] at e
  rw [show ((1 : Nat) : Int) = 1 from rfl] at e
  rw [e]; omega
theorem sh_bd {a : Int} (h : U1 a) (r : Nat) : 0 ≤ a / 2 ^ r ∧ a / 2 ^ r < 18446744073709551616 := by
  obtain ⟨p, q⟩ := h
  have hp : (0 : Int) < 2 ^ r := Int.pow_pos (by decide)
  refine ⟨Int.ediv_nonneg p (by omega), ?_⟩
  have := Int.ediv_le_self (2 ^ r) p
  omega
set_option maxHeartbeats 1000000 in
theorem bit_any (n : Int) (i : Nat) (w : World) (_hn0 : 0 ≤ n) (_hn : n < MM) (hi : i < 256) :
    Calls Try.prog 36 #[nv n, .int .i64 (i : Int)] w fun e w' => e = .returned (.int .u64 (n / 2 ^ i % 2)) ∧ Mo w w' := by
  have fin : ∀ (r : Int) (w' : World), r = n / 2 ^ i % 2 → Mo w w' → (Ending.returned (.int .u64 r) = .returned (.int .u64 (n / 2 ^ i % 2)) ∧ Mo w w') := fun r w' h m => ⟨by rw [h], m⟩
  obtain ⟨r, hr, er⟩ : ∃ r : Nat, r < 64 ∧ (i : Int) % 64 = (r : Int) := ⟨i % 64, by omega, by omega⟩
  have u := u4_lb n
  obtain ⟨u0, u1, u2, u3⟩ := u
  have s0 := sh_bd u0 r
  have s1 := sh_bd u1 r
  have s2 := sh_bd u2 r
  have s3 := sh_bd u3 r
  have t0 := and_one _ s0.1 s0.2
  have t1 := and_one _ s1.1 s1.2
  have t2 := and_one _ s2.1 s2.2
  have t3 := and_one _ s3.1 s3.2
  clear s0 s1 s2 s3
  obtain ⟨p0, q0⟩ := u0
  obtain ⟨p1, q1⟩ := u1
  obtain ⟨p2, q2⟩ := u2
  obtain ⟨p3, q3⟩ := u3
  have hq : (i : Int) / 64 = 0 ∨ (i : Int) / 64 = 1 ∨ (i : Int) / 64 = 2 ∨ (i : Int) / 64 = 3 := by omega
  rcases hq with hq | hq | hq | hq
  · go_enter Try.func36, Try.ntmps36
    go_wp2
    go_ret
    refine fin _ _ ?_ ((Mo.refl _).alloc _ _)
    rw [show i = r from by omega, ← bit_low (l0 n) (n / 18446744073709551616) r hr, show l0 n + 18446744073709551616 * (n / 18446744073709551616) = n from by unfold l0; omega]
  · go_enter Try.func36, Try.ntmps36
    go_wp2
    go_ret
    refine fin _ _ ?_ ((Mo.refl _).alloc _ _)
    rw [show i = 64 + r from by omega, div_pow_split, ← bit_low (l1 n) (n / 340282366920938463463374607431768211456) r hr, show l1 n + 18446744073709551616 * (n / 340282366920938463463374607431768211456) = n / 2 ^ 64 from by unfold l1; omega]
  · go_enter Try.func36, Try.ntmps36
    go_wp2
    go_ret
    refine fin _ _ ?_ ((Mo.refl _).alloc _ _)
    rw [show i = 128 + r from by omega, div_pow_split, ← bit_low (l2 n) (n / 6277101735386680763835789423207666416102355444464034512896) r hr, show l2 n + 18446744073709551616 * (n / 6277101735386680763835789423207666416102355444464034512896) = n / 2 ^ 128 from by unfold l2; omega]
  · go_enter Try.func36, Try.ntmps36
    go_wp2
    go_ret
    refine fin _ _ ?_ ((Mo.refl _).alloc _ _)
    rw [show i = 192 + r from by omega, div_pow_split, ← bit_low (l3 n) (n / MM) r hr, show l3 n + 18446744073709551616 * (n / MM) = n / 2 ^ 192 from by unfold l3 MM; omega]
theorem bit_top {n : Int} {j : Nat} (h0 : 0 ≤ n) (h : n < 2 ^ (j + 1)) : (n / 2 ^ j % 2 = 1 → 2 ^ j ≤ n) ∧ (n / 2 ^ j % 2 ≠ 1 → n < 2 ^ j) := by
  have hp : (0 : Int) < 2 ^ j := Int.pow_pos (by decide)
  have a : 0 ≤ n / 2 ^ j := Int.ediv_nonneg h0 (by omega)
  have b : n / 2 ^ j < 2 := Int.ediv_lt_of_lt_mul hp (by rw [Int.pow_succ] at h; omega)
  have c := Int.ediv_mul_le n (show (2 : Int) ^ j ≠ 0 by omega)
  have d := Int.lt_ediv_add_one_mul_self n hp
  refine ⟨fun e => ?_, fun e => ?_⟩
  · have : n / 2 ^ j = 1 := by omega
    rw [this, Int.one_mul] at c
    exact c
  · have : n / 2 ^ j = 0 := by omega
    rw [this, Int.zero_add, Int.one_mul] at d
    exact d
set_option maxHeartbeats 1000000 in
theorem rbits_any (n : Int) (w : World) (hn0 : 0 ≤ n) (hn : n < MM) :
    Calls Try.prog 18 #[nv n] w fun e w' => e = .returned (.int .i64 (bln n)) ∧ Mo w w' := by
  have a0 : AtN (w.alloc (.cells #[.int .u64 (l0 n), .int .u64 (l1 n), .int .u64 (l2 n), .int .u64 (l3 n)] 24)) w.heap.size n := AtN.new w n
  have HA : Hid _ := a0
  clear a0
  go_enter Try.func18, Try.ntmps18
  go_wp2
  go_loopw [3] (fun s wr => ∃ i : Int, s = .int .i64 i ∧ -1 ≤ i ∧ i ≤ 255 ∧ n < 2 ^ (i + 1).toNat ∧ Mo w wr ∧ AtN wr w.heap.size n) (fun s _ => (intOf s + 1).toNat)
  case atStart => exact ⟨255, rfl, by decide, by decide, by unfold MM at hn; exact hn, (Mo.refl _).alloc _ _, HA.out⟩
  case round =>
    obtain ⟨i, rfl, i1, i2, i3, hm, ha⟩ := hrel
    have H3 : Hid _ := i3
    clear i3
    by_cases hi : 0 ≤ i
    · obtain ⟨j, rfl⟩ := Int.eq_ofNat_of_zero_le hi
      have ha0 := ha
      obtain ⟨⟨c0, c1, c2, c3⟩, _, z⟩ := ha
      have h3 := H3.out
      rw [show ((j : Int) + 1).toNat = j + 1 from by omega] at h3
      obtain ⟨b1, b2⟩ := bit_top hn0 h3
      have B1 : Hid _ := b1
      have B2 : Hid _ := b2
      have H4 : Hid _ := h3
      clear b1 b2 h3
      go_wp2_with fail
      refine (bit_any n j _ hn0 hn (by omega)).mono ?_
      rintro e w1 ⟨rfl, hm1⟩
      by_cases hb : n / 2 ^ j % 2 = 1
      · have hb' : (n / 2 ^ j % 2 == 1) = true := by simp [hb]
        have HB : Hid _ := hb
        clear hb
        go_wp2
        go_ret
        refine ⟨?_, hm.trans hm1⟩
        rw [bln_of j (B1.out HB.out) H4.out]; rfl
      · have hb' : (n / 2 ^ j % 2 == 1) = false := by simp [hb]
        have HB : Hid _ := hb
        clear hb
        go_wp2
        go_roundw
        case rel =>
          refine ⟨(j : Int) - 1, rfl, by omega, by omega, ?_, hm.trans hm1, ha0.mo hm1⟩
          rw [show ((j : Int) - 1 + 1).toNat = j from by omega]
          exact B2.out HB.out
        case measure => simp [intOf]
    · have hz : i = -1 := by omega
      subst hz
      go_wp2
      go_ret
      refine ⟨?_, hm⟩
      have h3 := H3.out
      have : n = 0 := by simp at h3; omega
      rw [this]; rfl
end Go.Proofs.Ytpfmccfogkgakaa
