/-
  limb.Bits, the document's Bit and Bits, whatever the limbs: the walks.
-/
import Derived.Test.YtdcojpbgijkmgaaDoorBitm
import Derived.Test.YtdcojpbgijkmgaaDoorAid
namespace Go.Proofs.YtdcojpbgijkmgaaDoor
open Go.RowKit
theorem bl_le {a : Int} (h : U1 a) (h0 : a ≠ 0) : (Lib.bitLen a.toNat : Int) ≤ 64 ∧ (0 : Int) ≤ Lib.bitLen a.toNat := by
  obtain ⟨p, q⟩ := h
  obtain ⟨b1, b2, b3, b4⟩ := bitLen_bd 64 a.toNat (by omega) (by omega) (by omega)
  omega
set_option maxHeartbeats 1000000 in
theorem bits_any (a0 a1 a2 a3 : Int) (w : World) (ha : U4 a0 a1 a2 a3) :
    Calls Tryd.prog 70 #[.agg #[.int .u64 a0, .int .u64 a1, .int .u64 a2, .int .u64 a3]] w fun e w' =>
      e = .returned (.int .i64 (bln (vl a0 a1 a2 a3))) ∧ Mo w w' := by
  have fin : ∀ (r : Int) (w' : World), r = bln (vl a0 a1 a2 a3) → Mo w w' → (Ending.returned (.int .i64 r) = .returned (.int .i64 (bln (vl a0 a1 a2 a3))) ∧ Mo w w') := fun r w' h m => ⟨ret_int h, m⟩
  obtain ⟨g0, g1, g2, g3⟩ := ha
  have g := g0
  have g' := g1
  have g'' := g2
  have g''' := g3
  obtain ⟨p0, q0⟩ := g
  obtain ⟨p1, q1⟩ := g'
  obtain ⟨p2, q2⟩ := g''
  obtain ⟨p3, q3⟩ := g'''
  go_enter Tryd.func70, Tryd.ntmps70
  go_wp2
  refine wp_loop_rounds 5 ?_
  rw [rounds_succ]
  by_cases h3 : a3 = 0
  · have e3 : (a3 != 0) = false := by simp [h3]
    have H3 : Hid _ := h3
    clear h3
    go_wp2
    rw [rounds_succ]
    by_cases h2 : a2 = 0
    · have e2 : (a2 != 0) = false := by simp [h2]
      have H2 : Hid _ := h2
      clear h2
      go_wp2
      rw [rounds_succ]
      by_cases h1 : a1 = 0
      · have e1 : (a1 != 0) = false := by simp [h1]
        have H1 : Hid _ := h1
        clear h1
        go_wp2
        rw [rounds_succ]
        by_cases h0 : a0 = 0
        · have e0 : (a0 != 0) = false := by simp [h0]
          have H0 : Hid _ := h0
          clear h0
          go_wp2
          rw [rounds_succ]
          go_wp2
          go_ret
          refine fin _ _ ?_ ((Mo.refl _).alloc _ _)
          rw [H0.out, H1.out, H2.out, H3.out]; decide
        · have e0 : (a0 != 0) = true := by simp [h0]
          have b := bl_le g0 h0
          obtain ⟨b1, b2⟩ := b
          go_wp2_with (go_at_call 92; refine (Tryd.bits_Len64 a0 _ (by omega) (by omega)).mono ?_; rintro e w' ⟨rfl, rfl⟩)
          go_ret
          refine fin _ _ ?_ ((Mo.refl _).alloc _ _)
          have k := bln_join (a := a0) (low := 0) 0 (by omega) q0 (by omega) (by decide)
          rw [H1.out, H2.out, H3.out, show vl a0 0 0 0 = a0 * 2 ^ 0 + 0 from by unfold vl; omega, k]; simp
      · have e1 : (a1 != 0) = true := by simp [h1]
        have b := bl_le g1 h1
        obtain ⟨b1, b2⟩ := b
        go_wp2_with (go_at_call 92; refine (Tryd.bits_Len64 a1 _ (by omega) (by omega)).mono ?_; rintro e w' ⟨rfl, rfl⟩)
        go_ret
        refine fin _ _ ?_ ((Mo.refl _).alloc _ _)
        have k := bln_join (a := a1) (low := a0) 64 (by omega) q1 (by omega) (by omega)
        rw [H2.out, H3.out, show vl a0 a1 0 0 = a1 * 2 ^ 64 + a0 from by unfold vl; omega, k]; simp
    · have e2 : (a2 != 0) = true := by simp [h2]
      have b := bl_le g2 h2
      obtain ⟨b1, b2⟩ := b
      go_wp2_with (go_at_call 92; refine (Tryd.bits_Len64 a2 _ (by omega) (by omega)).mono ?_; rintro e w' ⟨rfl, rfl⟩)
      go_ret
      refine fin _ _ ?_ ((Mo.refl _).alloc _ _)
      have k := bln_join (a := a2) (low := a0 + 18446744073709551616 * a1) 128 (by omega) q2 (by omega) (by omega)
      rw [H3.out, show vl a0 a1 a2 0 = a2 * 2 ^ 128 + (a0 + 18446744073709551616 * a1) from by unfold vl; omega, k]; simp
  · have e3 : (a3 != 0) = true := by simp [h3]
    have b := bl_le g3 h3
    obtain ⟨b1, b2⟩ := b
    go_wp2_with (go_at_call 92; refine (Tryd.bits_Len64 a3 _ (by omega) (by omega)).mono ?_; rintro e w' ⟨rfl, rfl⟩)
    go_ret
    refine fin _ _ ?_ ((Mo.refl _).alloc _ _)
    have k := bln_join (a := a3) (low := a0 + 18446744073709551616 * a1 + 340282366920938463463374607431768211456 * a2) 192 (by omega) q3 (by omega) (by omega)
    rw [show vl a0 a1 a2 a3 = a3 * 2 ^ 192 + (a0 + 18446744073709551616 * a1 + 340282366920938463463374607431768211456 * a2) from by unfold vl; omega, k]; simp
end Go.Proofs.YtdcojpbgijkmgaaDoor
