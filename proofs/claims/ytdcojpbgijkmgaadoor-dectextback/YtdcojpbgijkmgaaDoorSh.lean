/-
  limb.shiftLeft and limb.shiftRight, whatever the limbs and the number from 0 to 256: the walks.
-/
import Derived.Test.YtdcojpbgijkmgaaDoorShm
import Derived.Test.YtdcojpbgijkmgaaDoorMula
import Derived.Test.YtdcojpbgijkmgaaDoorAid
namespace Go.Proofs.YtdcojpbgijkmgaaDoor
open Go.RowKit

set_option maxHeartbeats 2000000 in
theorem shl_0 (a0 a1 a2 a3 n x0 x1 x2 x3 : Int) (r : Nat) (w : World) (ha : U4 a0 a1 a2 a3) (hq : n / 64 = 0) (hr : n % 64 = (r : Int)) (_h64 : r < 64) (_hn0 : 0 ≤ n) (_hn : n ≤ 256) (e0 : IntKind.u64.wrap (a0 * 2 ^ r) = x0) (e1 : bits .or .u64 (IntKind.u64.wrap (a1 * 2 ^ r)) (a0 / 2 ^ (64 - r)) = x1) (e2 : bits .or .u64 (IntKind.u64.wrap (a2 * 2 ^ r)) (a1 / 2 ^ (64 - r)) = x2) (e3 : bits .or .u64 (IntKind.u64.wrap (a3 * 2 ^ r)) (a2 / 2 ^ (64 - r)) = x3) :
    Calls Tryd.prog 71 #[.agg #[.int .u64 a0, .int .u64 a1, .int .u64 a2, .int .u64 a3], .int .i64 n] w fun e w' =>
      e = .returned (.agg #[.int .u64 x0, .int .u64 x1, .int .u64 x2, .int .u64 x3]) ∧ Mo w w' := by
  obtain ⟨⟨p0, q0⟩, ⟨p1, q1⟩, ⟨p2, q2⟩, ⟨p3, q3⟩⟩ := ha
  go_enter Tryd.func71, Tryd.ntmps71
  go_wp2
  refine wp_loop_rounds 5 ?_
  rw [rounds_succ]
  go_wp2
  rw [rounds_succ]
  go_wp2
  go_region
  go_wp2
  rw [rounds_succ]
  go_wp2
  go_region
  go_wp2
  rw [rounds_succ]
  go_wp2
  go_region
  go_wp2
  rw [rounds_succ]
  go_wp2
  refine bodyPost_ret (v := .agg #[.int .u64 x0, .int .u64 x1, .int .u64 x2, .int .u64 x3]) (by simp [results, Tryd.results71, go_sem]) rfl ?_
  refine ⟨rfl, ?_⟩
  repeat (first | with_reducible exact Mo.refl _ | with_reducible apply Mo.drew | with_reducible apply Mo.drewN | with_reducible apply Mo.alloc | with_reducible refine Mo.setCell ?_ (by simp <;> omega) _ | with_reducible refine Mo.trans ?_ (by with_reducible assumption))

set_option maxHeartbeats 2000000 in
theorem shr_0 (a0 a1 a2 a3 n x0 x1 x2 x3 : Int) (r : Nat) (w : World) (ha : U4 a0 a1 a2 a3) (hq : n / 64 = 0) (hr : n % 64 = (r : Int)) (_h64 : r < 64) (_hn0 : 0 ≤ n) (_hn : n ≤ 256) (e0 : bits .or .u64 (a0 / 2 ^ r) (IntKind.u64.wrap (a1 * 2 ^ (64 - r))) = x0) (e1 : bits .or .u64 (a1 / 2 ^ r) (IntKind.u64.wrap (a2 * 2 ^ (64 - r))) = x1) (e2 : bits .or .u64 (a2 / 2 ^ r) (IntKind.u64.wrap (a3 * 2 ^ (64 - r))) = x2) (e3 : a3 / 2 ^ r = x3) :
    Calls Tryd.prog 73 #[.agg #[.int .u64 a0, .int .u64 a1, .int .u64 a2, .int .u64 a3], .int .i64 n] w fun e w' =>
      e = .returned (.agg #[.int .u64 x0, .int .u64 x1, .int .u64 x2, .int .u64 x3]) ∧ Mo w w' := by
  obtain ⟨⟨p0, q0⟩, ⟨p1, q1⟩, ⟨p2, q2⟩, ⟨p3, q3⟩⟩ := ha
  go_enter Tryd.func73, Tryd.ntmps73
  go_wp2
  refine wp_loop_rounds 5 ?_
  rw [rounds_succ]
  go_wp2
  go_region
  go_wp2
  rw [rounds_succ]
  go_wp2
  go_region
  go_wp2
  rw [rounds_succ]
  go_wp2
  go_region
  go_wp2
  rw [rounds_succ]
  go_wp2
  rw [rounds_succ]
  go_wp2
  refine bodyPost_ret (v := .agg #[.int .u64 x0, .int .u64 x1, .int .u64 x2, .int .u64 x3]) (by simp [results, Tryd.results73, go_sem]) rfl ?_
  refine ⟨rfl, ?_⟩
  repeat (first | with_reducible exact Mo.refl _ | with_reducible apply Mo.drew | with_reducible apply Mo.drewN | with_reducible apply Mo.alloc | with_reducible refine Mo.setCell ?_ (by simp <;> omega) _ | with_reducible refine Mo.trans ?_ (by with_reducible assumption))

set_option maxHeartbeats 2000000 in
theorem shl_1 (a0 a1 a2 a3 n x0 x1 x2 x3 : Int) (r : Nat) (w : World) (ha : U4 a0 a1 a2 a3) (hq : n / 64 = 1) (hr : n % 64 = (r : Int)) (_h64 : r < 64) (_hn0 : 0 ≤ n) (_hn : n ≤ 256) (e0 : IntKind.u64.wrap (a0 * 2 ^ r) = x0) (e1 : bits .or .u64 (IntKind.u64.wrap (a1 * 2 ^ r)) (a0 / 2 ^ (64 - r)) = x1) (e2 : bits .or .u64 (IntKind.u64.wrap (a2 * 2 ^ r)) (a1 / 2 ^ (64 - r)) = x2) (_e3 : bits .or .u64 (IntKind.u64.wrap (a3 * 2 ^ r)) (a2 / 2 ^ (64 - r)) = x3) :
    Calls Tryd.prog 71 #[.agg #[.int .u64 a0, .int .u64 a1, .int .u64 a2, .int .u64 a3], .int .i64 n] w fun e w' =>
      e = .returned (.agg #[.int .u64 0, .int .u64 x0, .int .u64 x1, .int .u64 x2]) ∧ Mo w w' := by
  obtain ⟨⟨p0, q0⟩, ⟨p1, q1⟩, ⟨p2, q2⟩, ⟨p3, q3⟩⟩ := ha
  go_enter Tryd.func71, Tryd.ntmps71
  go_wp2
  refine wp_loop_rounds 5 ?_
  rw [rounds_succ]
  go_wp2
  rw [rounds_succ]
  go_wp2
  go_region
  go_wp2
  rw [rounds_succ]
  go_wp2
  go_region
  go_wp2
  rw [rounds_succ]
  go_wp2
  refine bodyPost_ret (v := .agg #[.int .u64 0, .int .u64 x0, .int .u64 x1, .int .u64 x2]) (by simp [results, Tryd.results71, go_sem]) rfl ?_
  refine ⟨rfl, ?_⟩
  repeat (first | with_reducible exact Mo.refl _ | with_reducible apply Mo.drew | with_reducible apply Mo.drewN | with_reducible apply Mo.alloc | with_reducible refine Mo.setCell ?_ (by simp <;> omega) _ | with_reducible refine Mo.trans ?_ (by with_reducible assumption))

set_option maxHeartbeats 2000000 in
theorem shr_1 (a0 a1 a2 a3 n x0 x1 x2 x3 : Int) (r : Nat) (w : World) (ha : U4 a0 a1 a2 a3) (hq : n / 64 = 1) (hr : n % 64 = (r : Int)) (_h64 : r < 64) (_hn0 : 0 ≤ n) (_hn : n ≤ 256) (_e0 : bits .or .u64 (a0 / 2 ^ r) (IntKind.u64.wrap (a1 * 2 ^ (64 - r))) = x0) (e1 : bits .or .u64 (a1 / 2 ^ r) (IntKind.u64.wrap (a2 * 2 ^ (64 - r))) = x1) (e2 : bits .or .u64 (a2 / 2 ^ r) (IntKind.u64.wrap (a3 * 2 ^ (64 - r))) = x2) (e3 : a3 / 2 ^ r = x3) :
    Calls Tryd.prog 73 #[.agg #[.int .u64 a0, .int .u64 a1, .int .u64 a2, .int .u64 a3], .int .i64 n] w fun e w' =>
      e = .returned (.agg #[.int .u64 x1, .int .u64 x2, .int .u64 x3, .int .u64 0]) ∧ Mo w w' := by
  obtain ⟨⟨p0, q0⟩, ⟨p1, q1⟩, ⟨p2, q2⟩, ⟨p3, q3⟩⟩ := ha
  go_enter Tryd.func73, Tryd.ntmps73
  go_wp2
  refine wp_loop_rounds 5 ?_
  rw [rounds_succ]
  go_wp2
  go_region
  go_wp2
  rw [rounds_succ]
  go_wp2
  go_region
  go_wp2
  rw [rounds_succ]
  go_wp2
  rw [rounds_succ]
  go_wp2
  refine bodyPost_ret (v := .agg #[.int .u64 x1, .int .u64 x2, .int .u64 x3, .int .u64 0]) (by simp [results, Tryd.results73, go_sem]) rfl ?_
  refine ⟨rfl, ?_⟩
  repeat (first | with_reducible exact Mo.refl _ | with_reducible apply Mo.drew | with_reducible apply Mo.drewN | with_reducible apply Mo.alloc | with_reducible refine Mo.setCell ?_ (by simp <;> omega) _ | with_reducible refine Mo.trans ?_ (by with_reducible assumption))

set_option maxHeartbeats 2000000 in
theorem shl_2 (a0 a1 a2 a3 n x0 x1 x2 x3 : Int) (r : Nat) (w : World) (ha : U4 a0 a1 a2 a3) (hq : n / 64 = 2) (hr : n % 64 = (r : Int)) (_h64 : r < 64) (_hn0 : 0 ≤ n) (_hn : n ≤ 256) (e0 : IntKind.u64.wrap (a0 * 2 ^ r) = x0) (e1 : bits .or .u64 (IntKind.u64.wrap (a1 * 2 ^ r)) (a0 / 2 ^ (64 - r)) = x1) (_e2 : bits .or .u64 (IntKind.u64.wrap (a2 * 2 ^ r)) (a1 / 2 ^ (64 - r)) = x2) (_e3 : bits .or .u64 (IntKind.u64.wrap (a3 * 2 ^ r)) (a2 / 2 ^ (64 - r)) = x3) :
    Calls Tryd.prog 71 #[.agg #[.int .u64 a0, .int .u64 a1, .int .u64 a2, .int .u64 a3], .int .i64 n] w fun e w' =>
      e = .returned (.agg #[.int .u64 0, .int .u64 0, .int .u64 x0, .int .u64 x1]) ∧ Mo w w' := by
  obtain ⟨⟨p0, q0⟩, ⟨p1, q1⟩, ⟨p2, q2⟩, ⟨p3, q3⟩⟩ := ha
  go_enter Tryd.func71, Tryd.ntmps71
  go_wp2
  refine wp_loop_rounds 5 ?_
  rw [rounds_succ]
  go_wp2
  rw [rounds_succ]
  go_wp2
  go_region
  go_wp2
  rw [rounds_succ]
  go_wp2
  refine bodyPost_ret (v := .agg #[.int .u64 0, .int .u64 0, .int .u64 x0, .int .u64 x1]) (by simp [results, Tryd.results71, go_sem]) rfl ?_
  refine ⟨rfl, ?_⟩
  repeat (first | with_reducible exact Mo.refl _ | with_reducible apply Mo.drew | with_reducible apply Mo.drewN | with_reducible apply Mo.alloc | with_reducible refine Mo.setCell ?_ (by simp <;> omega) _ | with_reducible refine Mo.trans ?_ (by with_reducible assumption))

set_option maxHeartbeats 2000000 in
theorem shr_2 (a0 a1 a2 a3 n x0 x1 x2 x3 : Int) (r : Nat) (w : World) (ha : U4 a0 a1 a2 a3) (hq : n / 64 = 2) (hr : n % 64 = (r : Int)) (_h64 : r < 64) (_hn0 : 0 ≤ n) (_hn : n ≤ 256) (_e0 : bits .or .u64 (a0 / 2 ^ r) (IntKind.u64.wrap (a1 * 2 ^ (64 - r))) = x0) (_e1 : bits .or .u64 (a1 / 2 ^ r) (IntKind.u64.wrap (a2 * 2 ^ (64 - r))) = x1) (e2 : bits .or .u64 (a2 / 2 ^ r) (IntKind.u64.wrap (a3 * 2 ^ (64 - r))) = x2) (e3 : a3 / 2 ^ r = x3) :
    Calls Tryd.prog 73 #[.agg #[.int .u64 a0, .int .u64 a1, .int .u64 a2, .int .u64 a3], .int .i64 n] w fun e w' =>
      e = .returned (.agg #[.int .u64 x2, .int .u64 x3, .int .u64 0, .int .u64 0]) ∧ Mo w w' := by
  obtain ⟨⟨p0, q0⟩, ⟨p1, q1⟩, ⟨p2, q2⟩, ⟨p3, q3⟩⟩ := ha
  go_enter Tryd.func73, Tryd.ntmps73
  go_wp2
  refine wp_loop_rounds 5 ?_
  rw [rounds_succ]
  go_wp2
  go_region
  go_wp2
  rw [rounds_succ]
  go_wp2
  rw [rounds_succ]
  go_wp2
  refine bodyPost_ret (v := .agg #[.int .u64 x2, .int .u64 x3, .int .u64 0, .int .u64 0]) (by simp [results, Tryd.results73, go_sem]) rfl ?_
  refine ⟨rfl, ?_⟩
  repeat (first | with_reducible exact Mo.refl _ | with_reducible apply Mo.drew | with_reducible apply Mo.drewN | with_reducible apply Mo.alloc | with_reducible refine Mo.setCell ?_ (by simp <;> omega) _ | with_reducible refine Mo.trans ?_ (by with_reducible assumption))

set_option maxHeartbeats 2000000 in
theorem shl_3 (a0 a1 a2 a3 n x0 x1 x2 x3 : Int) (r : Nat) (w : World) (ha : U4 a0 a1 a2 a3) (hq : n / 64 = 3) (hr : n % 64 = (r : Int)) (_h64 : r < 64) (_hn0 : 0 ≤ n) (_hn : n ≤ 256) (e0 : IntKind.u64.wrap (a0 * 2 ^ r) = x0) (_e1 : bits .or .u64 (IntKind.u64.wrap (a1 * 2 ^ r)) (a0 / 2 ^ (64 - r)) = x1) (_e2 : bits .or .u64 (IntKind.u64.wrap (a2 * 2 ^ r)) (a1 / 2 ^ (64 - r)) = x2) (_e3 : bits .or .u64 (IntKind.u64.wrap (a3 * 2 ^ r)) (a2 / 2 ^ (64 - r)) = x3) :
    Calls Tryd.prog 71 #[.agg #[.int .u64 a0, .int .u64 a1, .int .u64 a2, .int .u64 a3], .int .i64 n] w fun e w' =>
      e = .returned (.agg #[.int .u64 0, .int .u64 0, .int .u64 0, .int .u64 x0]) ∧ Mo w w' := by
  obtain ⟨⟨p0, q0⟩, ⟨p1, q1⟩, ⟨p2, q2⟩, ⟨p3, q3⟩⟩ := ha
  go_enter Tryd.func71, Tryd.ntmps71
  go_wp2
  refine wp_loop_rounds 5 ?_
  rw [rounds_succ]
  go_wp2
  rw [rounds_succ]
  go_wp2
  refine bodyPost_ret (v := .agg #[.int .u64 0, .int .u64 0, .int .u64 0, .int .u64 x0]) (by simp [results, Tryd.results71, go_sem]) rfl ?_
  refine ⟨rfl, ?_⟩
  repeat (first | with_reducible exact Mo.refl _ | with_reducible apply Mo.drew | with_reducible apply Mo.drewN | with_reducible apply Mo.alloc | with_reducible refine Mo.setCell ?_ (by simp <;> omega) _ | with_reducible refine Mo.trans ?_ (by with_reducible assumption))

set_option maxHeartbeats 2000000 in
theorem shr_3 (a0 a1 a2 a3 n x0 x1 x2 x3 : Int) (r : Nat) (w : World) (ha : U4 a0 a1 a2 a3) (hq : n / 64 = 3) (hr : n % 64 = (r : Int)) (_h64 : r < 64) (_hn0 : 0 ≤ n) (_hn : n ≤ 256) (_e0 : bits .or .u64 (a0 / 2 ^ r) (IntKind.u64.wrap (a1 * 2 ^ (64 - r))) = x0) (_e1 : bits .or .u64 (a1 / 2 ^ r) (IntKind.u64.wrap (a2 * 2 ^ (64 - r))) = x1) (_e2 : bits .or .u64 (a2 / 2 ^ r) (IntKind.u64.wrap (a3 * 2 ^ (64 - r))) = x2) (e3 : a3 / 2 ^ r = x3) :
    Calls Tryd.prog 73 #[.agg #[.int .u64 a0, .int .u64 a1, .int .u64 a2, .int .u64 a3], .int .i64 n] w fun e w' =>
      e = .returned (.agg #[.int .u64 x3, .int .u64 0, .int .u64 0, .int .u64 0]) ∧ Mo w w' := by
  obtain ⟨⟨p0, q0⟩, ⟨p1, q1⟩, ⟨p2, q2⟩, ⟨p3, q3⟩⟩ := ha
  go_enter Tryd.func73, Tryd.ntmps73
  go_wp2
  refine wp_loop_rounds 5 ?_
  rw [rounds_succ]
  go_wp2
  rw [rounds_succ]
  go_wp2
  refine bodyPost_ret (v := .agg #[.int .u64 x3, .int .u64 0, .int .u64 0, .int .u64 0]) (by simp [results, Tryd.results73, go_sem]) rfl ?_
  refine ⟨rfl, ?_⟩
  repeat (first | with_reducible exact Mo.refl _ | with_reducible apply Mo.drew | with_reducible apply Mo.drewN | with_reducible apply Mo.alloc | with_reducible refine Mo.setCell ?_ (by simp <;> omega) _ | with_reducible refine Mo.trans ?_ (by with_reducible assumption))

set_option maxHeartbeats 2000000 in
theorem shl_4 (a0 a1 a2 a3 n : Int) (r : Nat) (w : World) (ha : U4 a0 a1 a2 a3) (hq : n / 64 = 4) (hr : n % 64 = (r : Int)) (_h64 : r < 64) (_hn0 : 0 ≤ n) (_hn : n ≤ 256) :
    Calls Tryd.prog 71 #[.agg #[.int .u64 a0, .int .u64 a1, .int .u64 a2, .int .u64 a3], .int .i64 n] w fun e w' =>
      e = .returned (.agg #[.int .u64 0, .int .u64 0, .int .u64 0, .int .u64 0]) ∧ Mo w w' := by
  obtain ⟨⟨p0, q0⟩, ⟨p1, q1⟩, ⟨p2, q2⟩, ⟨p3, q3⟩⟩ := ha
  go_enter Tryd.func71, Tryd.ntmps71
  go_wp2
  refine wp_loop_rounds 5 ?_
  rw [rounds_succ]
  go_wp2
  refine bodyPost_ret (v := .agg #[.int .u64 0, .int .u64 0, .int .u64 0, .int .u64 0]) (by simp [results, Tryd.results71, go_sem]) rfl ?_
  refine ⟨rfl, ?_⟩
  repeat (first | with_reducible exact Mo.refl _ | with_reducible apply Mo.drew | with_reducible apply Mo.drewN | with_reducible apply Mo.alloc | with_reducible refine Mo.setCell ?_ (by simp <;> omega) _ | with_reducible refine Mo.trans ?_ (by with_reducible assumption))

set_option maxHeartbeats 2000000 in
theorem shr_4 (a0 a1 a2 a3 n : Int) (r : Nat) (w : World) (ha : U4 a0 a1 a2 a3) (hq : n / 64 = 4) (hr : n % 64 = (r : Int)) (_h64 : r < 64) (_hn0 : 0 ≤ n) (_hn : n ≤ 256) :
    Calls Tryd.prog 73 #[.agg #[.int .u64 a0, .int .u64 a1, .int .u64 a2, .int .u64 a3], .int .i64 n] w fun e w' =>
      e = .returned (.agg #[.int .u64 0, .int .u64 0, .int .u64 0, .int .u64 0]) ∧ Mo w w' := by
  obtain ⟨⟨p0, q0⟩, ⟨p1, q1⟩, ⟨p2, q2⟩, ⟨p3, q3⟩⟩ := ha
  go_enter Tryd.func73, Tryd.ntmps73
  go_wp2
  refine wp_loop_rounds 5 ?_
  rw [rounds_succ]
  go_wp2
  refine bodyPost_ret (v := .agg #[.int .u64 0, .int .u64 0, .int .u64 0, .int .u64 0]) (by simp [results, Tryd.results73, go_sem]) rfl ?_
  refine ⟨rfl, ?_⟩
  repeat (first | with_reducible exact Mo.refl _ | with_reducible apply Mo.drew | with_reducible apply Mo.drewN | with_reducible apply Mo.alloc | with_reducible refine Mo.setCell ?_ (by simp <;> omega) _ | with_reducible refine Mo.trans ?_ (by with_reducible assumption))
end Go.Proofs.YtdcojpbgijkmgaaDoor
