/-
  limb.shiftLeft and limb.shiftRight as products and quotients.
-/
import Derived.Test.YtdcojpbgijkmgaaDoorSh
namespace Go.Proofs.YtdcojpbgijkmgaaDoor
open Go.RowKit
theorem nv_top (X c : Int) : nv (X + MM * c) = nv X := by
  rw [← nv_mod (X + MM * c), Int.add_mul_emod_self_left, nv_mod]
theorem nv_up (Y : Int) : nv (18446744073709551616 * Y) = .agg #[.int .u64 0, .int .u64 (l0 Y), .int .u64 (l1 Y), .int .u64 (l2 Y)] := by
  obtain ⟨a, b, c, d, _⟩ := sh (v := 0) (Y := Y) (by decide) (by decide)
  rw [Int.zero_add] at a b c d
  rw [nv, a, b, c, d]
theorem nv_down {Y : Int} (h0 : 0 ≤ Y) (h : Y < MM) : nv (Y / 18446744073709551616) = .agg #[.int .u64 (l1 Y), .int .u64 (l2 Y), .int .u64 (l3 Y), .int .u64 0] := by
  have a : l0 (Y / 18446744073709551616) = l1 Y := by unfold l0 l1; rfl
  have b : l1 (Y / 18446744073709551616) = l2 Y := by unfold l1 l2; omega
  have c : l2 (Y / 18446744073709551616) = l3 Y := by unfold l2 l3; omega
  have d : l3 (Y / 18446744073709551616) = 0 := by unfold l3; unfold MM at h; omega
  rw [nv, a, b, c, d]
theorem cases64 (n : Int) (h0 : 0 ≤ n) (h : n ≤ 256) : ∃ r : Nat, r < 64 ∧ n % 64 = (r : Int) ∧ (n / 64 = 0 ∨ n / 64 = 1 ∨ n / 64 = 2 ∨ n / 64 = 3 ∨ n / 64 = 4) :=
  ⟨(n % 64).toNat, by omega, by omega, by omega⟩
theorem pow64 (n : Int) (r k : Nat) (h0 : 0 ≤ n) (hr : n % 64 = (r : Int)) (hk : n / 64 = (k : Int)) : (2 : Int) ^ n.toNat = 2 ^ r * 18446744073709551616 ^ k := by
  rw [show n.toNat = r + 64 * k from by omega, Int.pow_add, Int.pow_mul]; rfl
theorem shl_any (a0 a1 a2 a3 n : Int) (w : World) (ha : U4 a0 a1 a2 a3) (h0 : 0 ≤ n) (h : n ≤ 256) :
    Calls Tryd.prog 71 #[.agg #[.int .u64 a0, .int .u64 a1, .int .u64 a2, .int .u64 a3], .int .i64 n] w fun e w' =>
      e = .returned (nv (vl a0 a1 a2 a3 * 2 ^ n.toNat)) ∧ Mo w w' := by
  obtain ⟨r, hr, er, hq⟩ := cases64 n h0 h
  obtain ⟨u, e⟩ := sl_vl r hr ha
  have g := ha
  obtain ⟨g0, g1, g2, g3⟩ := g
  have c0 := sl_0 r a0
  have c1 := sl_or r hr g1 g0
  have c2 := sl_or r hr g2 g1
  have c3 := sl_or r hr g3 g2
  generalize sl r a0 0 = x0 at *
  generalize sl r a1 a0 = x1 at *
  generalize sl r a2 a1 = x2 at *
  generalize sl r a3 a2 = x3 at *
  rcases hq with hq | hq | hq | hq | hq
  · rw [pow64 n r 0 h0 er hq, Int.pow_zero, Int.mul_one, ← e, nv_top, nv_vl u]
    exact shl_0 a0 a1 a2 a3 n x0 x1 x2 x3 r w ha hq er hr h0 h c0 c1 c2 c3
  · rw [pow64 n r 1 h0 er hq, ← Int.mul_assoc, ← e, show ∀ t : Int, t * 18446744073709551616 ^ 1 = 18446744073709551616 * t from fun t => by rw [Int.pow_one, Int.mul_comm], Int.mul_add, Int.mul_left_comm, nv_top, nv_up, l0_vl u, l1_vl u, l2_vl u]
    exact shl_1 a0 a1 a2 a3 n x0 x1 x2 x3 r w ha hq er hr h0 h c0 c1 c2 c3
  · rw [pow64 n r 2 h0 er hq, ← Int.mul_assoc, ← e, show ∀ t : Int, t * 18446744073709551616 ^ 2 = 18446744073709551616 * (18446744073709551616 * t) from fun t => by omega, Int.mul_add, Int.mul_left_comm _ MM, Int.mul_add, Int.mul_left_comm _ MM, nv_top, nv_up]
    obtain ⟨a, b, c, _⟩ := sh (v := 0) (Y := vl x0 x1 x2 x3) (by decide) (by decide)
    rw [Int.zero_add] at a b c
    rw [a, b, c, l0_vl u, l1_vl u]
    exact shl_2 a0 a1 a2 a3 n x0 x1 x2 x3 r w ha hq er hr h0 h c0 c1 c2 c3
  · have k : nv (vl a0 a1 a2 a3 * 2 ^ n.toNat) = .agg #[.int .u64 0, .int .u64 0, .int .u64 0, .int .u64 x0] := by
      rw [pow64 n r 3 h0 er hq, ← Int.mul_assoc, ← e]
      have i0 := l0_vl u
      generalize hX : vl x0 x1 x2 x3 = X at *
      have s0 : l0 ((X + MM * (a3 / 2 ^ (64 - r))) * 18446744073709551616 ^ 3) = 0 := by unfold l0 MM; omega
      have s1 : l1 ((X + MM * (a3 / 2 ^ (64 - r))) * 18446744073709551616 ^ 3) = 0 := by unfold l1 MM; omega
      have s2 : l2 ((X + MM * (a3 / 2 ^ (64 - r))) * 18446744073709551616 ^ 3) = 0 := by unfold l2 MM; omega
      have s3 : l3 ((X + MM * (a3 / 2 ^ (64 - r))) * 18446744073709551616 ^ 3) = l0 X := by unfold l3 l0 MM; omega
      rw [nv, s0, s1, s2, s3, i0]
    rw [k]
    exact shl_3 a0 a1 a2 a3 n x0 x1 x2 x3 r w ha hq er hr h0 h c0 c1 c2 c3
  · have k : nv (vl a0 a1 a2 a3 * 2 ^ n.toNat) = .agg #[.int .u64 0, .int .u64 0, .int .u64 0, .int .u64 0] := by
      rw [pow64 n r 4 h0 er hq, ← Int.mul_assoc, ← nv_mod, show ((18446744073709551616 : Int) ^ 4) = MM from by decide, Int.mul_emod_left]
      simp [nv, l0, l1, l2, l3]
    rw [k]
    exact shl_4 a0 a1 a2 a3 n r w ha hq er hr h0 h
theorem shr_any (a0 a1 a2 a3 n : Int) (w : World) (ha : U4 a0 a1 a2 a3) (h0 : 0 ≤ n) (h : n ≤ 256) :
    Calls Tryd.prog 73 #[.agg #[.int .u64 a0, .int .u64 a1, .int .u64 a2, .int .u64 a3], .int .i64 n] w fun e w' =>
      e = .returned (nv (vl a0 a1 a2 a3 / 2 ^ n.toNat)) ∧ Mo w w' := by
  obtain ⟨r, hr, er, hq⟩ := cases64 n h0 h
  obtain ⟨u, e⟩ := sr_vl r hr ha
  have hP := (pq r hr).1
  have bd := vl_bd ha
  have g := ha
  obtain ⟨g0, g1, g2, g3⟩ := g
  have c0 := sr_or r hr g0 g1
  have c1 := sr_or r hr g1 g2
  have c2 := sr_or r hr g2 g3
  have c3 := sr_0 r a3
  generalize sr r a0 a1 = x0 at *
  generalize sr r a1 a2 = x1 at *
  generalize sr r a2 a3 = x2 at *
  generalize sr r a3 0 = x3 at *
  have ub := vl_bd u
  have q : ∀ k : Nat, n / 64 = (k : Int) → vl a0 a1 a2 a3 / 2 ^ n.toNat = vl x0 x1 x2 x3 / 18446744073709551616 ^ k := fun k hk => by
    rw [pow64 n r k h0 er hk, e, Int.ediv_ediv_of_nonneg (by omega)]
  rcases hq with hq | hq | hq | hq | hq
  · rw [q 0 hq, Int.pow_zero, Int.ediv_one, nv_vl u]
    exact shr_0 a0 a1 a2 a3 n x0 x1 x2 x3 r w ha hq er hr h0 h c0 c1 c2 c3
  · rw [q 1 hq, Int.pow_one, nv_down ub.1 ub.2, l1_vl u, l2_vl u, l3_vl u]
    exact shr_1 a0 a1 a2 a3 n x0 x1 x2 x3 r w ha hq er hr h0 h c0 c1 c2 c3
  · have k : nv (vl a0 a1 a2 a3 / 2 ^ n.toNat) = .agg #[.int .u64 x2, .int .u64 x3, .int .u64 0, .int .u64 0] := by
      rw [q 2 hq]
      unfold U4 U1 at u
      have s0 : l0 (vl x0 x1 x2 x3 / 18446744073709551616 ^ 2) = x2 := by unfold l0 vl; omega
      have s1 : l1 (vl x0 x1 x2 x3 / 18446744073709551616 ^ 2) = x3 := by unfold l1 vl; omega
      have s2 : l2 (vl x0 x1 x2 x3 / 18446744073709551616 ^ 2) = 0 := by unfold l2 vl; omega
      have s3 : l3 (vl x0 x1 x2 x3 / 18446744073709551616 ^ 2) = 0 := by unfold l3 vl; omega
      rw [nv, s0, s1, s2, s3]
    rw [k]
    exact shr_2 a0 a1 a2 a3 n x0 x1 x2 x3 r w ha hq er hr h0 h c0 c1 c2 c3
  · have k : nv (vl a0 a1 a2 a3 / 2 ^ n.toNat) = .agg #[.int .u64 x3, .int .u64 0, .int .u64 0, .int .u64 0] := by
      rw [q 3 hq]
      unfold U4 U1 at u
      have s0 : l0 (vl x0 x1 x2 x3 / 18446744073709551616 ^ 3) = x3 := by unfold l0 vl; omega
      have s1 : l1 (vl x0 x1 x2 x3 / 18446744073709551616 ^ 3) = 0 := by unfold l1 vl; omega
      have s2 : l2 (vl x0 x1 x2 x3 / 18446744073709551616 ^ 3) = 0 := by unfold l2 vl; omega
      have s3 : l3 (vl x0 x1 x2 x3 / 18446744073709551616 ^ 3) = 0 := by unfold l3 vl; omega
      rw [nv, s0, s1, s2, s3]
    rw [k]
    exact shr_3 a0 a1 a2 a3 n x0 x1 x2 x3 r w ha hq er hr h0 h c0 c1 c2 c3
  · have k : nv (vl a0 a1 a2 a3 / 2 ^ n.toNat) = .agg #[.int .u64 0, .int .u64 0, .int .u64 0, .int .u64 0] := by
      rw [q 4 hq, show ((18446744073709551616 : Int) ^ 4) = MM from by decide, Int.ediv_eq_zero_of_lt ub.1 ub.2]
      simp [nv, l0, l1, l2, l3]
    rw [k]
    exact shr_4 a0 a1 a2 a3 n r w ha hq er hr h0 h
end Go.Proofs.YtdcojpbgijkmgaaDoor
