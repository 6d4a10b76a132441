/-
  limb.Cmp and the document's Cmp hold two numbers against each other, whatever the limbs: the walks.
-/
import Derived.Test.YthpekbohmfmffaaNum
namespace Go.Proofs.Ythpekbohmfmffaa
open Go.RowKit

set_option maxHeartbeats 4000000 in
theorem cmp15_any (a0 a1 a2 a3 b0 b1 b2 b3 : Int) (w : World) (ha : U4 a0 a1 a2 a3) (hb : U4 b0 b1 b2 b3) :
    Calls Try.prog 58 #[.agg #[.int .u64 a0, .int .u64 a1, .int .u64 a2, .int .u64 a3], .agg #[.int .u64 b0, .int .u64 b1, .int .u64 b2, .int .u64 b3]] w fun e w' =>
      e = .returned (.int .i64 (cm (vl a0 a1 a2 a3) (vl b0 b1 b2 b3))) ∧ Mo w w' := by
  have fin : ∀ (r : Int) (w' : World), r = cm (vl a0 a1 a2 a3) (vl b0 b1 b2 b3) → Mo w w' → (Ending.returned (.int .i64 r) = .returned (.int .i64 (cm (vl a0 a1 a2 a3) (vl b0 b1 b2 b3))) ∧ Mo w w') := fun r w' h m => ⟨ret_int h, m⟩
  obtain ⟨⟨p0, q0⟩, ⟨p1, q1⟩, ⟨p2, q2⟩, ⟨p3, q3⟩⟩ := ha
  obtain ⟨⟨r0, s0⟩, ⟨r1, s1⟩, ⟨r2, s2⟩, ⟨r3, s3⟩⟩ := hb
  go_enter Try.func58, Try.ntmps58
  go_wp2
  refine wp_loop_rounds 5 ?_
  rw [rounds_succ]
  by_cases h3 : a3 < b3
  · go_wp2
    go_quiet (fail)
    go_wp2
    go_ret
    refine fin _ _ (by unfold cm vl; split <;> (try split) <;> omega) ?_
    repeat (first | exact Mo.refl _ | apply Mo.drew | apply Mo.drewN | apply Mo.alloc)
  by_cases h3' : b3 < a3
  · go_wp2
    go_quiet (fail)
    go_wp2
    go_quiet (fail)
    go_wp2
    go_ret
    refine fin _ _ (by unfold cm vl; split <;> (try split) <;> omega) ?_
    repeat (first | exact Mo.refl _ | apply Mo.drew | apply Mo.drewN | apply Mo.alloc)
  go_wp2
  go_quiet (fail)
  go_wp2
  go_quiet (fail)
  go_wp2
  rw [rounds_succ]
  by_cases h2 : a2 < b2
  · go_wp2
    go_quiet (fail)
    go_wp2
    go_ret
    refine fin _ _ (by unfold cm vl; split <;> (try split) <;> omega) ?_
    repeat (first | exact Mo.refl _ | apply Mo.drew | apply Mo.drewN | apply Mo.alloc)
  by_cases h2' : b2 < a2
  · go_wp2
    go_quiet (fail)
    go_wp2
    go_quiet (fail)
    go_wp2
    go_ret
    refine fin _ _ (by unfold cm vl; split <;> (try split) <;> omega) ?_
    repeat (first | exact Mo.refl _ | apply Mo.drew | apply Mo.drewN | apply Mo.alloc)
  go_wp2
  go_quiet (fail)
  go_wp2
  go_quiet (fail)
  go_wp2
  rw [rounds_succ]
  by_cases h1 : a1 < b1
  · go_wp2
    go_quiet (fail)
    go_wp2
    go_ret
    refine fin _ _ (by unfold cm vl; split <;> (try split) <;> omega) ?_
    repeat (first | exact Mo.refl _ | apply Mo.drew | apply Mo.drewN | apply Mo.alloc)
  by_cases h1' : b1 < a1
  · go_wp2
    go_quiet (fail)
    go_wp2
    go_quiet (fail)
    go_wp2
    go_ret
    refine fin _ _ (by unfold cm vl; split <;> (try split) <;> omega) ?_
    repeat (first | exact Mo.refl _ | apply Mo.drew | apply Mo.drewN | apply Mo.alloc)
  go_wp2
  go_quiet (fail)
  go_wp2
  go_quiet (fail)
  go_wp2
  rw [rounds_succ]
  by_cases h0 : a0 < b0
  · go_wp2
    go_quiet (fail)
    go_wp2
    go_ret
    refine fin _ _ (by unfold cm vl; split <;> (try split) <;> omega) ?_
    repeat (first | exact Mo.refl _ | apply Mo.drew | apply Mo.drewN | apply Mo.alloc)
  by_cases h0' : b0 < a0
  · go_wp2
    go_quiet (fail)
    go_wp2
    go_quiet (fail)
    go_wp2
    go_ret
    refine fin _ _ (by unfold cm vl; split <;> (try split) <;> omega) ?_
    repeat (first | exact Mo.refl _ | apply Mo.drew | apply Mo.drewN | apply Mo.alloc)
  go_wp2
  go_quiet (fail)
  go_wp2
  go_quiet (fail)
  go_wp2
  rw [rounds_succ]
  go_wp2
  go_ret
  refine fin _ _ (by unfold cm vl; split <;> (try split) <;> omega) ?_
  repeat (first | exact Mo.refl _ | apply Mo.drew | apply Mo.drewN | apply Mo.alloc)

set_option maxHeartbeats 4000000 in
theorem cmp16_any (a0 a1 a2 a3 b0 b1 b2 b3 : Int) (w : World) (ha : U4 a0 a1 a2 a3) (hb : U4 b0 b1 b2 b3) :
    Calls Try.prog 63 #[.agg #[.int .u64 a0, .int .u64 a1, .int .u64 a2, .int .u64 a3], .agg #[.int .u64 b0, .int .u64 b1, .int .u64 b2, .int .u64 b3]] w fun e w' =>
      e = .returned (.int .i64 (cm (vl a0 a1 a2 a3) (vl b0 b1 b2 b3))) ∧ Mo w w' := by
  have fin : ∀ (r : Int) (w' : World), r = cm (vl a0 a1 a2 a3) (vl b0 b1 b2 b3) → Mo w w' → (Ending.returned (.int .i64 r) = .returned (.int .i64 (cm (vl a0 a1 a2 a3) (vl b0 b1 b2 b3))) ∧ Mo w w') := fun r w' h m => ⟨ret_int h, m⟩
  obtain ⟨⟨p0, q0⟩, ⟨p1, q1⟩, ⟨p2, q2⟩, ⟨p3, q3⟩⟩ := ha
  obtain ⟨⟨r0, s0⟩, ⟨r1, s1⟩, ⟨r2, s2⟩, ⟨r3, s3⟩⟩ := hb
  go_enter Try.func63, Try.ntmps63
  go_wp2
  refine wp_loop_rounds 5 ?_
  rw [rounds_succ]
  by_cases h3 : a3 < b3
  · go_wp2
    go_quiet (fail)
    go_wp2
    go_ret
    refine fin _ _ (by unfold cm vl; split <;> (try split) <;> omega) ?_
    repeat (first | exact Mo.refl _ | apply Mo.drew | apply Mo.drewN | apply Mo.alloc)
  by_cases h3' : b3 < a3
  · go_wp2
    go_quiet (fail)
    go_wp2
    go_quiet (fail)
    go_wp2
    go_ret
    refine fin _ _ (by unfold cm vl; split <;> (try split) <;> omega) ?_
    repeat (first | exact Mo.refl _ | apply Mo.drew | apply Mo.drewN | apply Mo.alloc)
  go_wp2
  go_quiet (fail)
  go_wp2
  go_quiet (fail)
  go_wp2
  rw [rounds_succ]
  by_cases h2 : a2 < b2
  · go_wp2
    go_quiet (fail)
    go_wp2
    go_ret
    refine fin _ _ (by unfold cm vl; split <;> (try split) <;> omega) ?_
    repeat (first | exact Mo.refl _ | apply Mo.drew | apply Mo.drewN | apply Mo.alloc)
  by_cases h2' : b2 < a2
  · go_wp2
    go_quiet (fail)
    go_wp2
    go_quiet (fail)
    go_wp2
    go_ret
    refine fin _ _ (by unfold cm vl; split <;> (try split) <;> omega) ?_
    repeat (first | exact Mo.refl _ | apply Mo.drew | apply Mo.drewN | apply Mo.alloc)
  go_wp2
  go_quiet (fail)
  go_wp2
  go_quiet (fail)
  go_wp2
  rw [rounds_succ]
  by_cases h1 : a1 < b1
  · go_wp2
    go_quiet (fail)
    go_wp2
    go_ret
    refine fin _ _ (by unfold cm vl; split <;> (try split) <;> omega) ?_
    repeat (first | exact Mo.refl _ | apply Mo.drew | apply Mo.drewN | apply Mo.alloc)
  by_cases h1' : b1 < a1
  · go_wp2
    go_quiet (fail)
    go_wp2
    go_quiet (fail)
    go_wp2
    go_ret
    refine fin _ _ (by unfold cm vl; split <;> (try split) <;> omega) ?_
    repeat (first | exact Mo.refl _ | apply Mo.drew | apply Mo.drewN | apply Mo.alloc)
  go_wp2
  go_quiet (fail)
  go_wp2
  go_quiet (fail)
  go_wp2
  rw [rounds_succ]
  by_cases h0 : a0 < b0
  · go_wp2
    go_quiet (fail)
    go_wp2
    go_ret
    refine fin _ _ (by unfold cm vl; split <;> (try split) <;> omega) ?_
    repeat (first | exact Mo.refl _ | apply Mo.drew | apply Mo.drewN | apply Mo.alloc)
  by_cases h0' : b0 < a0
  · go_wp2
    go_quiet (fail)
    go_wp2
    go_quiet (fail)
    go_wp2
    go_ret
    refine fin _ _ (by unfold cm vl; split <;> (try split) <;> omega) ?_
    repeat (first | exact Mo.refl _ | apply Mo.drew | apply Mo.drewN | apply Mo.alloc)
  go_wp2
  go_quiet (fail)
  go_wp2
  go_quiet (fail)
  go_wp2
  rw [rounds_succ]
  go_wp2
  go_ret
  refine fin _ _ (by unfold cm vl; split <;> (try split) <;> omega) ?_
  repeat (first | exact Mo.refl _ | apply Mo.drew | apply Mo.drewN | apply Mo.alloc)
end Go.Proofs.Ythpekbohmfmffaa
