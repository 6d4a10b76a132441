/-
  For every value and every int exciselaw05.SummaryOf returns true, and its arguments read behind the call as they read before; no conditions.
-/
import Derived.Carry
import Derived.ChangeMaps5
import Derived.Test.YthpekbohmfmffaaU6
/-
  The document's Of, in each case.
-/
namespace Go.Proofs.Ythpekbohmfmffaa
open Go.RowKit
section
variable {w : World}
theorem rof_a (K : Int) (vb : Bool) (vn vs : Int) (fl : Bool) (tx : ByteArray) (er sc9 : Int) (q0 : decide (K = 0) = true) : Calls Try.prog 11 #[vl10 K vb vn vs fl tx er, .int .i64 sc9] w fun e w' => e = .returned (sm 1 (0) (1) (0) (0) (0) false false (0) (0) false (0) (0)) ∧ Mo w w' := by
  refine w_enter 67 Try.func11 Try.ntmps11 rfl rfl ?_
  have M : Mo w w := Mo.refl _
  refine w_seq ?_
  refine w_reg ?_
  refine wl_box 28 (.tmp 0) (.agg #[.int .i64 (K), .bool vb, .int .u64 (l0 (vn)), .int .u64 (l1 (vn)), .int .u64 (l2 (vn)), .int .u64 (l3 (vn)), .int .i64 (vs), .bool fl, .string tx, .int .i64 (er)]) (#[.int .i64 (K), .bool vb, .int .u64 (l0 (vn)), .int .u64 (l1 (vn)), .int .u64 (l2 (vn)), .int .u64 (l3 (vn)), .int .i64 (vs), .bool fl, .string tx, .int .i64 (er)]) rfl rfl (fun _ => by kernel_rfl) rfl ?_
  intro k1 w1 hk hz hq Q1
  have N_k1 : w.heap.size ≤ k1 := by have := M.size; omega
  replace M := M.trans hq
  clear hk hz hq
  refine wl_alloc 33 #[.int .i64 0, .int .i64 0, .int .i64 0, .int .i64 0, .int .i64 0, .int .u64 0, .int .u64 0, .int .u64 0, .int .u64 0, .int .u64 0, .bool false, .bool false, .int .u64 0, .int .u64 0, .int .u64 0, .int .u64 0, .int .i64 0, .bool false, .int .u64 0, .int .u64 0, .int .u64 0, .int .u64 0, .int .i64 0] rfl (fun _ => by kernel_rfl) rfl ?_
  intro k2 w2 hk hz hq Q2
  have ne_k1_k2 : k1 ≠ k2 := by have := Q1.lt; omega
  have N_k2 : w.heap.size ≤ k2 := by have := M.size; omega
  replace Q1 := Q1.mo hq
  replace M := M.trans hq
  clear hk hz hq
  refine w_nil ?_
  refine xn_then ?_
  refine w_seq ?_
  refine w_reg ?_
  refine wl_build 33 [(0, (.const (.int .i64 (1))))] [(0, .int .i64 (1))] (.agg #[.int .i64 (1), .int .i64 0, .int .i64 0, .int .i64 0, .int .i64 0, .int .u64 0, .int .u64 0, .int .u64 0, .int .u64 0, .int .u64 0, .bool false, .bool false, .int .u64 0, .int .u64 0, .int .u64 0, .int .u64 0, .int .i64 0, .bool false, .int .u64 0, .int .u64 0, .int .u64 0, .int .u64 0, .int .i64 0]) rfl rfl (by kernel_rfl) rfl ?_
  refine wl_alloc 33 #[.int .i64 0, .int .i64 0, .int .i64 0, .int .i64 0, .int .i64 0, .int .u64 0, .int .u64 0, .int .u64 0, .int .u64 0, .int .u64 0, .bool false, .bool false, .int .u64 0, .int .u64 0, .int .u64 0, .int .u64 0, .int .i64 0, .bool false, .int .u64 0, .int .u64 0, .int .u64 0, .int .u64 0, .int .i64 0] rfl (fun _ => by kernel_rfl) rfl ?_
  intro k3 w3 hk hz hq Q3
  have ne_k1_k3 : k1 ≠ k3 := by have := Q1.lt; omega
  have ne_k2_k3 : k2 ≠ k3 := by have := Q2.lt; omega
  have N_k3 : w.heap.size ≤ k3 := by have := M.size; omega
  replace Q1 := Q1.mo hq
  replace Q2 := Q2.mo hq
  replace M := M.trans hq
  clear hk hz hq
  refine wl_st 33 (.tmp 5) (.tmp 6) k3 0 #[.int .i64 (1), .int .i64 0, .int .i64 0, .int .i64 0, .int .i64 0, .int .u64 0, .int .u64 0, .int .u64 0, .int .u64 0, .int .u64 0, .bool false, .bool false, .int .u64 0, .int .u64 0, .int .u64 0, .int .u64 0, .int .i64 0, .bool false, .int .u64 0, .int .u64 0, .int .u64 0, .int .u64 0, .int .i64 0] [.int .i64 0, .int .i64 0, .int .i64 0, .int .i64 0, .int .i64 0, .int .u64 0, .int .u64 0, .int .u64 0, .int .u64 0, .int .u64 0, .bool false, .bool false, .int .u64 0, .int .u64 0, .int .u64 0, .int .u64 0, .int .i64 0, .bool false, .int .u64 0, .int .u64 0, .int .u64 0, .int .u64 0, .int .i64 0] [.int .i64 (1), .int .i64 0, .int .i64 0, .int .i64 0, .int .i64 0, .int .u64 0, .int .u64 0, .int .u64 0, .int .u64 0, .int .u64 0, .bool false, .bool false, .int .u64 0, .int .u64 0, .int .u64 0, .int .u64 0, .int .i64 0, .bool false, .int .u64 0, .int .u64 0, .int .u64 0, .int .u64 0, .int .i64 0] Q3 rfl rfl rfl rfl rfl sz33 rfl rfl rfl ?_
  intro w4 hS Qn
  replace Q3 := Qn
  clear Qn
  replace Q1 := hS.other _ _ ne_k1_k3 Q1
  replace Q2 := hS.other _ _ ne_k2_k3 Q2
  replace M := hS.mo _ N_k3 M
  clear hS
  refine w_nil ?_
  refine xn_then ?_
  refine w_seq ?_
  refine w_block ?_
  refine w_seq ?_
  refine w_reg ?_
  refine wl_un (fun v => Instr.fieldAt 28 v 0) (.tmp 2) (pt k1 0) (pt k1 0) (fun _ => rfl) rfl (by kernel_rfl) rfl ?_
  refine wl_load 3 (.tmp 10) (pt k1 0) (.int .i64 (K)) rfl rfl (run_one Q1 3 0 rfl Try.underlying3 rfl) rfl ?_
  refine wl_bin (fun x y => do eqGuard .eql 3 (.tmp 11) (.const (.int .i64 (0))) x y; binOp .eql 3 x y) (.tmp 11) (.const (.int .i64 (0))) (.int .i64 (K)) (.int .i64 (0)) (.bool true) (fun _ => rfl) rfl rfl (eqI q0 _ _ _) rfl ?_
  refine wl_mv (.tmp 12) (.bool true) (fun _ => rfl) rfl rfl ?_
  refine w_nil ?_
  refine xn_then ?_
  refine w_condT rfl ?_
  refine w_reg ?_
  refine wl_un (fun v => Instr.fieldAt 33 v 2) (.tmp 5) (pt k3 0) (pt k3 2) (fun _ => rfl) rfl (by kernel_rfl) rfl ?_
  refine wl_st1 3 (.tmp 13) (.const (.int .i64 (1))) k3 2 (.int .i64 (1)) [.int .i64 (1), .int .i64 0, .int .i64 0, .int .i64 0, .int .i64 0, .int .u64 0, .int .u64 0, .int .u64 0, .int .u64 0, .int .u64 0, .bool false, .bool false, .int .u64 0, .int .u64 0, .int .u64 0, .int .u64 0, .int .i64 0, .bool false, .int .u64 0, .int .u64 0, .int .u64 0, .int .u64 0, .int .i64 0] [.int .i64 (1), .int .i64 0, .int .i64 (1), .int .i64 0, .int .i64 0, .int .u64 0, .int .u64 0, .int .u64 0, .int .u64 0, .int .u64 0, .bool false, .bool false, .int .u64 0, .int .u64 0, .int .u64 0, .int .u64 0, .int .i64 0, .bool false, .int .u64 0, .int .u64 0, .int .u64 0, .int .u64 0, .int .i64 0] Q3 rfl rfl rfl rfl rfl sz3 rfl rfl rfl rfl ?_
  intro w5 hS Qn
  replace Q3 := Qn
  clear Qn
  replace Q1 := hS.other _ _ ne_k1_k3 Q1
  replace Q2 := hS.other _ _ ne_k2_k3 Q2
  replace M := hS.mo _ N_k3 M
  clear hS
  refine w_nil ?_
  refine xn_blk ?_
  refine xn_then ?_
  refine w_seq ?_
  refine w_reg ?_
  refine wl_load 33 (.tmp 5) (pt k3 0) (.agg #[.int .i64 (1), .int .i64 0, .int .i64 (1), .int .i64 0, .int .i64 0, .int .u64 0, .int .u64 0, .int .u64 0, .int .u64 0, .int .u64 0, .bool false, .bool false, .int .u64 0, .int .u64 0, .int .u64 0, .int .u64 0, .int .i64 0, .bool false, .int .u64 0, .int .u64 0, .int .u64 0, .int .u64 0, .int .i64 0]) rfl rfl (run_row Q3 33 0 23 [.int .i64 (1), .int .i64 0, .int .i64 (1), .int .i64 0, .int .i64 0, .int .u64 0, .int .u64 0, .int .u64 0, .int .u64 0, .int .u64 0, .bool false, .bool false, .int .u64 0, .int .u64 0, .int .u64 0, .int .u64 0, .int .i64 0, .bool false, .int .u64 0, .int .u64 0, .int .u64 0, .int .u64 0, .int .i64 0] rfl Try.underlying33 rfl sz33) rfl ?_
  refine wl_st 33 (.tmp 4) (.tmp 66) k2 0 #[.int .i64 (1), .int .i64 0, .int .i64 (1), .int .i64 0, .int .i64 0, .int .u64 0, .int .u64 0, .int .u64 0, .int .u64 0, .int .u64 0, .bool false, .bool false, .int .u64 0, .int .u64 0, .int .u64 0, .int .u64 0, .int .i64 0, .bool false, .int .u64 0, .int .u64 0, .int .u64 0, .int .u64 0, .int .i64 0] [.int .i64 0, .int .i64 0, .int .i64 0, .int .i64 0, .int .i64 0, .int .u64 0, .int .u64 0, .int .u64 0, .int .u64 0, .int .u64 0, .bool false, .bool false, .int .u64 0, .int .u64 0, .int .u64 0, .int .u64 0, .int .i64 0, .bool false, .int .u64 0, .int .u64 0, .int .u64 0, .int .u64 0, .int .i64 0] [.int .i64 (1), .int .i64 0, .int .i64 (1), .int .i64 0, .int .i64 0, .int .u64 0, .int .u64 0, .int .u64 0, .int .u64 0, .int .u64 0, .bool false, .bool false, .int .u64 0, .int .u64 0, .int .u64 0, .int .u64 0, .int .i64 0, .bool false, .int .u64 0, .int .u64 0, .int .u64 0, .int .u64 0, .int .i64 0] Q2 rfl rfl rfl rfl rfl sz33 rfl rfl rfl ?_
  intro w6 hS Qn
  replace Q2 := Qn
  clear Qn
  replace Q1 := hS.other _ _ ne_k1_k2 Q1
  replace Q3 := hS.other _ _ ne_k2_k3.symm Q3
  replace M := hS.mo _ N_k2 M
  clear hS
  refine w_nil ?_
  refine xn_then ?_
  refine w_ret ?_
  exact w_ret1 _ (.agg #[.int .i64 (1), .int .i64 0, .int .i64 (1), .int .i64 0, .int .i64 0, .int .u64 0, .int .u64 0, .int .u64 0, .int .u64 0, .int .u64 0, .bool false, .bool false, .int .u64 0, .int .u64 0, .int .u64 0, .int .u64 0, .int .i64 0, .bool false, .int .u64 0, .int .u64 0, .int .u64 0, .int .u64 0, .int .i64 0]) rfl ⟨k2, rfl, (run_row Q2 33 0 23 [.int .i64 (1), .int .i64 0, .int .i64 (1), .int .i64 0, .int .i64 0, .int .u64 0, .int .u64 0, .int .u64 0, .int .u64 0, .int .u64 0, .bool false, .bool false, .int .u64 0, .int .u64 0, .int .u64 0, .int .u64 0, .int .i64 0, .bool false, .int .u64 0, .int .u64 0, .int .u64 0, .int .u64 0, .int .i64 0] rfl Try.underlying33 rfl sz33)⟩ ⟨rfl, M⟩
theorem rof_b (K : Int) (vb : Bool) (vn vs : Int) (fl : Bool) (tx : ByteArray) (er sc9 : Int) (q0 : decide (K = 0) = false) (q4 : decide (K = 4) = true) (qe : decide (1 ≤ er) = true) : Calls Try.prog 11 #[vl10 K vb vn vs fl tx er, .int .i64 sc9] w fun e w' => e = .returned (sm 1 (0) (0) (1) (er) (0) false false (0) (0) false (0) (0)) ∧ Mo w w' := by
  refine w_enter 67 Try.func11 Try.ntmps11 rfl rfl ?_
  have M : Mo w w := Mo.refl _
  refine w_seq ?_
  refine w_reg ?_
  refine wl_box 28 (.tmp 0) (.agg #[.int .i64 (K), .bool vb, .int .u64 (l0 (vn)), .int .u64 (l1 (vn)), .int .u64 (l2 (vn)), .int .u64 (l3 (vn)), .int .i64 (vs), .bool fl, .string tx, .int .i64 (er)]) (#[.int .i64 (K), .bool vb, .int .u64 (l0 (vn)), .int .u64 (l1 (vn)), .int .u64 (l2 (vn)), .int .u64 (l3 (vn)), .int .i64 (vs), .bool fl, .string tx, .int .i64 (er)]) rfl rfl (fun _ => by kernel_rfl) rfl ?_
  intro k1 w1 hk hz hq Q1
  have N_k1 : w.heap.size ≤ k1 := by have := M.size; omega
  replace M := M.trans hq
  clear hk hz hq
  refine wl_alloc 33 #[.int .i64 0, .int .i64 0, .int .i64 0, .int .i64 0, .int .i64 0, .int .u64 0, .int .u64 0, .int .u64 0, .int .u64 0, .int .u64 0, .bool false, .bool false, .int .u64 0, .int .u64 0, .int .u64 0, .int .u64 0, .int .i64 0, .bool false, .int .u64 0, .int .u64 0, .int .u64 0, .int .u64 0, .int .i64 0] rfl (fun _ => by kernel_rfl) rfl ?_
  intro k2 w2 hk hz hq Q2
  have ne_k1_k2 : k1 ≠ k2 := by have := Q1.lt; omega
  have N_k2 : w.heap.size ≤ k2 := by have := M.size; omega
  replace Q1 := Q1.mo hq
  replace M := M.trans hq
  clear hk hz hq
  refine w_nil ?_
  refine xn_then ?_
  refine w_seq ?_
  refine w_reg ?_
  refine wl_build 33 [(0, (.const (.int .i64 (1))))] [(0, .int .i64 (1))] (.agg #[.int .i64 (1), .int .i64 0, .int .i64 0, .int .i64 0, .int .i64 0, .int .u64 0, .int .u64 0, .int .u64 0, .int .u64 0, .int .u64 0, .bool false, .bool false, .int .u64 0, .int .u64 0, .int .u64 0, .int .u64 0, .int .i64 0, .bool false, .int .u64 0, .int .u64 0, .int .u64 0, .int .u64 0, .int .i64 0]) rfl rfl (by kernel_rfl) rfl ?_
  refine wl_alloc 33 #[.int .i64 0, .int .i64 0, .int .i64 0, .int .i64 0, .int .i64 0, .int .u64 0, .int .u64 0, .int .u64 0, .int .u64 0, .int .u64 0, .bool false, .bool false, .int .u64 0, .int .u64 0, .int .u64 0, .int .u64 0, .int .i64 0, .bool false, .int .u64 0, .int .u64 0, .int .u64 0, .int .u64 0, .int .i64 0] rfl (fun _ => by kernel_rfl) rfl ?_
  intro k3 w3 hk hz hq Q3
  have ne_k1_k3 : k1 ≠ k3 := by have := Q1.lt; omega
  have ne_k2_k3 : k2 ≠ k3 := by have := Q2.lt; omega
  have N_k3 : w.heap.size ≤ k3 := by have := M.size; omega
  replace Q1 := Q1.mo hq
  replace Q2 := Q2.mo hq
  replace M := M.trans hq
  clear hk hz hq
  refine wl_st 33 (.tmp 5) (.tmp 6) k3 0 #[.int .i64 (1), .int .i64 0, .int .i64 0, .int .i64 0, .int .i64 0, .int .u64 0, .int .u64 0, .int .u64 0, .int .u64 0, .int .u64 0, .bool false, .bool false, .int .u64 0, .int .u64 0, .int .u64 0, .int .u64 0, .int .i64 0, .bool false, .int .u64 0, .int .u64 0, .int .u64 0, .int .u64 0, .int .i64 0] [.int .i64 0, .int .i64 0, .int .i64 0, .int .i64 0, .int .i64 0, .int .u64 0, .int .u64 0, .int .u64 0, .int .u64 0, .int .u64 0, .bool false, .bool false, .int .u64 0, .int .u64 0, .int .u64 0, .int .u64 0, .int .i64 0, .bool false, .int .u64 0, .int .u64 0, .int .u64 0, .int .u64 0, .int .i64 0] [.int .i64 (1), .int .i64 0, .int .i64 0, .int .i64 0, .int .i64 0, .int .u64 0, .int .u64 0, .int .u64 0, .int .u64 0, .int .u64 0, .bool false, .bool false, .int .u64 0, .int .u64 0, .int .u64 0, .int .u64 0, .int .i64 0, .bool false, .int .u64 0, .int .u64 0, .int .u64 0, .int .u64 0, .int .i64 0] Q3 rfl rfl rfl rfl rfl sz33 rfl rfl rfl ?_
  intro w4 hS Qn
  replace Q3 := Qn
  clear Qn
  replace Q1 := hS.other _ _ ne_k1_k3 Q1
  replace Q2 := hS.other _ _ ne_k2_k3 Q2
  replace M := hS.mo _ N_k3 M
  clear hS
  refine w_nil ?_
  refine xn_then ?_
  refine w_seq ?_
  refine w_block ?_
  refine w_seq ?_
  refine w_reg ?_
  refine wl_un (fun v => Instr.fieldAt 28 v 0) (.tmp 2) (pt k1 0) (pt k1 0) (fun _ => rfl) rfl (by kernel_rfl) rfl ?_
  refine wl_load 3 (.tmp 10) (pt k1 0) (.int .i64 (K)) rfl rfl (run_one Q1 3 0 rfl Try.underlying3 rfl) rfl ?_
  refine wl_bin (fun x y => do eqGuard .eql 3 (.tmp 11) (.const (.int .i64 (0))) x y; binOp .eql 3 x y) (.tmp 11) (.const (.int .i64 (0))) (.int .i64 (K)) (.int .i64 (0)) (.bool false) (fun _ => rfl) rfl rfl (eqI q0 _ _ _) rfl ?_
  refine wl_mv (.tmp 12) (.bool false) (fun _ => rfl) rfl rfl ?_
  refine w_nil ?_
  refine xn_then ?_
  refine w_condF rfl ?_
  refine w_seq ?_
  refine w_reg ?_
  refine wl_un (fun v => Instr.fieldAt 28 v 0) (.tmp 2) (pt k1 0) (pt k1 0) (fun _ => rfl) rfl (by kernel_rfl) rfl ?_
  refine wl_load 3 (.tmp 15) (pt k1 0) (.int .i64 (K)) rfl rfl (run_one Q1 3 0 rfl Try.underlying3 rfl) rfl ?_
  refine wl_bin (fun x y => do eqGuard .eql 3 (.tmp 16) (.const (.int .i64 (4))) x y; binOp .eql 3 x y) (.tmp 16) (.const (.int .i64 (4))) (.int .i64 (K)) (.int .i64 (4)) (.bool true) (fun _ => rfl) rfl rfl (eqI q4 _ _ _) rfl ?_
  refine wl_mv (.tmp 17) (.bool true) (fun _ => rfl) rfl rfl ?_
  refine wl_un (fun v => Instr.fieldAt 28 v 4) (.tmp 2) (pt k1 0) (pt k1 9) (fun _ => rfl) rfl (by kernel_rfl) rfl ?_
  refine wl_load 3 (.tmp 19) (pt k1 9) (.int .i64 (er)) rfl rfl (run_one Q1 3 9 rfl Try.underlying3 rfl) rfl ?_
  refine wl_bin (fun x y => do eqGuard .geq 3 (.tmp 20) (.const (.int .i64 (1))) x y; binOp .geq 3 x y) (.tmp 20) (.const (.int .i64 (1))) (.int .i64 (er)) (.int .i64 (1)) (.bool true) (fun _ => rfl) rfl rfl (geI qe _ _ _) rfl ?_
  refine wl_pick (.tmp 18) (.tmp 21) (.const (.bool false)) true (.bool true) (fun _ => rfl) rfl rfl rfl ?_
  refine wl_mv (.tmp 22) (.bool true) (fun _ => rfl) rfl rfl ?_
  refine w_nil ?_
  refine xn_then ?_
  refine w_condT rfl ?_
  have hsm : Smos [vq (pt k1 9), vq (.int .i64 (er)), vq (pt k3 3), pqf k3 [.int .i64 (1), .int .i64 0, .int .i64 0, .int .i64 (1), .int .i64 (er), .int .u64 0, .int .u64 0, .int .u64 0, .int .u64 0, .int .u64 0, .bool false, .bool false, .int .u64 0, .int .u64 0, .int .u64 0, .int .u64 0, .int .i64 0, .bool false, .int .u64 0, .int .u64 0, .int .u64 0, .int .u64 0, .int .i64 0] 3 1, vq (pt k3 4), pqf k3 [.int .i64 (1), .int .i64 0, .int .i64 0, .int .i64 (1), .int .i64 (er), .int .u64 0, .int .u64 0, .int .u64 0, .int .u64 0, .int .u64 0, .bool false, .bool false, .int .u64 0, .int .u64 0, .int .u64 0, .int .u64 0, .int .i64 0, .bool false, .int .u64 0, .int .u64 0, .int .u64 0, .int .u64 0, .int .i64 0] 4 1] := smos_cons (smo_vq _) (smos_cons (smo_vq _) (smos_cons (smo_vq _) (smos_cons (smo_pqf _ _ _ _) (smos_cons (smo_vq _) (smos_cons (smo_pqf _ _ _ _) (smos_nil))))))
  have hst : Spts k3 [.int .i64 (1), .int .i64 0, .int .i64 0, .int .i64 (1), .int .i64 (er), .int .u64 0, .int .u64 0, .int .u64 0, .int .u64 0, .int .u64 0, .bool false, .bool false, .int .u64 0, .int .u64 0, .int .u64 0, .int .u64 0, .int .i64 0, .bool false, .int .u64 0, .int .u64 0, .int .u64 0, .int .u64 0, .int .i64 0] [vq (pt k1 9), vq (.int .i64 (er)), vq (pt k3 3), pqf k3 [.int .i64 (1), .int .i64 0, .int .i64 0, .int .i64 (1), .int .i64 (er), .int .u64 0, .int .u64 0, .int .u64 0, .int .u64 0, .int .u64 0, .bool false, .bool false, .int .u64 0, .int .u64 0, .int .u64 0, .int .u64 0, .int .i64 0, .bool false, .int .u64 0, .int .u64 0, .int .u64 0, .int .u64 0, .int .i64 0] 3 1, vq (pt k3 4), pqf k3 [.int .i64 (1), .int .i64 0, .int .i64 0, .int .i64 (1), .int .i64 (er), .int .u64 0, .int .u64 0, .int .u64 0, .int .u64 0, .int .u64 0, .bool false, .bool false, .int .u64 0, .int .u64 0, .int .u64 0, .int .u64 0, .int .i64 0, .bool false, .int .u64 0, .int .u64 0, .int .u64 0, .int .u64 0, .int .i64 0] 4 1] := spts_cons (spt_vq _) (spts_cons (spt_vq _) (spts_cons (spt_vq _) (spts_cons (spt_pqf _ _ rfl) (spts_cons (spt_vq _) (spts_cons (spt_pqf _ _ rfl) (spts_nil))))))
  refine w_og (GD k3 [.int .i64 (1), .int .i64 0, .int .i64 0, .int .i64 0, .int .i64 0, .int .u64 0, .int .u64 0, .int .u64 0, .int .u64 0, .int .u64 0, .bool false, .bool false, .int .u64 0, .int .u64 0, .int .u64 0, .int .u64 0, .int .i64 0, .bool false, .int .u64 0, .int .u64 0, .int .u64 0, .int .u64 0, .int .i64 0] [.int .i64 (1), .int .i64 0, .int .i64 0, .int .i64 (1), .int .i64 (er), .int .u64 0, .int .u64 0, .int .u64 0, .int .u64 0, .int .u64 0, .bool false, .bool false, .int .u64 0, .int .u64 0, .int .u64 0, .int .u64 0, .int .i64 0, .bool false, .int .u64 0, .int .u64 0, .int .u64 0, .int .u64 0, .int .i64 0] w4) [vq (pt k1 9), vq (.int .i64 (er)), vq (pt k3 3), pqf k3 [.int .i64 (1), .int .i64 0, .int .i64 0, .int .i64 (1), .int .i64 (er), .int .u64 0, .int .u64 0, .int .u64 0, .int .u64 0, .int .u64 0, .bool false, .bool false, .int .u64 0, .int .u64 0, .int .u64 0, .int .u64 0, .int .i64 0, .bool false, .int .u64 0, .int .u64 0, .int .u64 0, .int .u64 0, .int .i64 0] 3 1, vq (pt k3 4), pqf k3 [.int .i64 (1), .int .i64 0, .int .i64 0, .int .i64 (1), .int .i64 (er), .int .u64 0, .int .u64 0, .int .u64 0, .int .u64 0, .int .u64 0, .bool false, .bool false, .int .u64 0, .int .u64 0, .int .u64 0, .int .u64 0, .int .i64 0, .bool false, .int .u64 0, .int .u64 0, .int .u64 0, .int .u64 0, .int .i64 0] 4 1] (by kernel_rfl) (by kernel_rfl) (by kernel_rfl) (GD.start Q3 rfl) ?_ ?_
  · refine ea_cons ?_ (ea_cons ?_ (ea_cons ?_ (ea_cons ?_ (ea_cons ?_ (ea_cons ?_ (ea_nil))))))
    · exact ovq_eq (pt k1 9) rfl GD.grow hsm (fun f wf hG hd K hK => go_run rfl (wo_un (fun v => Instr.fieldAt 28 v 4) (.tmp 2) (pt k1 0) (pt k1 9) (fun _ => rfl) rfl (by kernel_rfl) (hK _ (Mo.refl _))))
    · exact ovq_eq (.int .i64 (er)) rfl GD.grow hsm (fun f wf hG hd K hK => have Q1 := hG.other _ _ ne_k1_k3 Q1; go_run rfl (wo_load 3 (.tmp 23) (pt k1 9) (.int .i64 (er)) rfl (hd 0 rfl) (run_one Q1 3 9 rfl Try.underlying3 rfl) (hK _ (Mo.refl _))))
    · exact ovq_eq (pt k3 3) rfl GD.grow hsm (fun f wf hG hd K hK => go_run rfl (wo_un (fun v => Instr.fieldAt 33 v 3) (.tmp 5) (pt k3 0) (pt k3 3) (fun _ => rfl) rfl (by kernel_rfl) (hK _ (Mo.refl _))))
    · exact ovq_st1 3 (.tmp 25) (.const (.int .i64 (1))) k3 3 (.int .i64 (1)) rfl hst rfl rfl rfl rfl sz3 rfl rfl (fun f wf hd => (hd 2 rfl)) (fun f wf hd => rfl) (fun _ => rfl)
    · exact ovq_eq (pt k3 4) rfl GD.grow hsm (fun f wf hG hd K hK => go_run rfl (wo_un (fun v => Instr.fieldAt 33 v 4) (.tmp 5) (pt k3 0) (pt k3 4) (fun _ => rfl) rfl (by kernel_rfl) (hK _ (Mo.refl _))))
    · exact ovq_st1 3 (.tmp 26) (.tmp 24) k3 4 (.int .i64 (er)) rfl hst rfl rfl rfl rfl sz3 rfl rfl (fun f wf hd => (hd 4 rfl)) (fun f wf hd => (hd 1 rfl)) (fun _ => rfl)
  intro f w5 hG hR
  replace Q3 := hG.fin [(3, 1), (4, 1)] rfl (fun p hp => by
      simp only [List.mem_cons, List.not_mem_nil, or_false] at hp
      rcases hp with rfl | rfl
      · exact ⟨f 3, hR 3 rfl⟩
      · exact ⟨f 5, hR 5 rfl⟩
    ) rfl
  have e0 := hR 0 rfl
  have e1 := hR 1 rfl
  have e2 := hR 2 rfl
  have e4 := hR 4 rfl
  replace Q1 := hG.other _ _ ne_k1_k3 Q1
  replace Q2 := hG.other _ _ ne_k2_k3 Q2
  replace M := hG.mo _ N_k3 M
  clear hG hR hsm hst
  refine xn_blk ?_
  refine xn_then ?_
  refine w_seq ?_
  refine w_reg ?_
  refine wl_load 33 (.tmp 5) (pt k3 0) (.agg #[.int .i64 (1), .int .i64 0, .int .i64 0, .int .i64 (1), .int .i64 (er), .int .u64 0, .int .u64 0, .int .u64 0, .int .u64 0, .int .u64 0, .bool false, .bool false, .int .u64 0, .int .u64 0, .int .u64 0, .int .u64 0, .int .i64 0, .bool false, .int .u64 0, .int .u64 0, .int .u64 0, .int .u64 0, .int .i64 0]) rfl rfl (run_row Q3 33 0 23 [.int .i64 (1), .int .i64 0, .int .i64 0, .int .i64 (1), .int .i64 (er), .int .u64 0, .int .u64 0, .int .u64 0, .int .u64 0, .int .u64 0, .bool false, .bool false, .int .u64 0, .int .u64 0, .int .u64 0, .int .u64 0, .int .i64 0, .bool false, .int .u64 0, .int .u64 0, .int .u64 0, .int .u64 0, .int .i64 0] rfl Try.underlying33 rfl sz33) rfl ?_
  refine wl_st 33 (.tmp 4) (.tmp 66) k2 0 #[.int .i64 (1), .int .i64 0, .int .i64 0, .int .i64 (1), .int .i64 (er), .int .u64 0, .int .u64 0, .int .u64 0, .int .u64 0, .int .u64 0, .bool false, .bool false, .int .u64 0, .int .u64 0, .int .u64 0, .int .u64 0, .int .i64 0, .bool false, .int .u64 0, .int .u64 0, .int .u64 0, .int .u64 0, .int .i64 0] [.int .i64 0, .int .i64 0, .int .i64 0, .int .i64 0, .int .i64 0, .int .u64 0, .int .u64 0, .int .u64 0, .int .u64 0, .int .u64 0, .bool false, .bool false, .int .u64 0, .int .u64 0, .int .u64 0, .int .u64 0, .int .i64 0, .bool false, .int .u64 0, .int .u64 0, .int .u64 0, .int .u64 0, .int .i64 0] [.int .i64 (1), .int .i64 0, .int .i64 0, .int .i64 (1), .int .i64 (er), .int .u64 0, .int .u64 0, .int .u64 0, .int .u64 0, .int .u64 0, .bool false, .bool false, .int .u64 0, .int .u64 0, .int .u64 0, .int .u64 0, .int .i64 0, .bool false, .int .u64 0, .int .u64 0, .int .u64 0, .int .u64 0, .int .i64 0] Q2 rfl rfl rfl rfl rfl sz33 rfl rfl rfl ?_
  intro w6 hS Qn
  replace Q2 := Qn
  clear Qn
  replace Q1 := hS.other _ _ ne_k1_k2 Q1
  replace Q3 := hS.other _ _ ne_k2_k3.symm Q3
  replace M := hS.mo _ N_k2 M
  clear hS
  refine w_nil ?_
  refine xn_then ?_
  refine w_ret ?_
  exact w_ret1 _ (.agg #[.int .i64 (1), .int .i64 0, .int .i64 0, .int .i64 (1), .int .i64 (er), .int .u64 0, .int .u64 0, .int .u64 0, .int .u64 0, .int .u64 0, .bool false, .bool false, .int .u64 0, .int .u64 0, .int .u64 0, .int .u64 0, .int .i64 0, .bool false, .int .u64 0, .int .u64 0, .int .u64 0, .int .u64 0, .int .i64 0]) rfl ⟨k2, rfl, (run_row Q2 33 0 23 [.int .i64 (1), .int .i64 0, .int .i64 0, .int .i64 (1), .int .i64 (er), .int .u64 0, .int .u64 0, .int .u64 0, .int .u64 0, .int .u64 0, .bool false, .bool false, .int .u64 0, .int .u64 0, .int .u64 0, .int .u64 0, .int .i64 0, .bool false, .int .u64 0, .int .u64 0, .int .u64 0, .int .u64 0, .int .i64 0] rfl Try.underlying33 rfl sz33)⟩ ⟨rfl, M⟩
theorem rof_c (K : Int) (vb : Bool) (vn vs : Int) (fl : Bool) (tx : ByteArray) (er sc9 : Int) (q0 : decide (K = 0) = false) (q4 : decide (K = 4) = true) (qe : decide (1 ≤ er) = false) (q1 : decide (K = 1) = false) (q2 : decide (K = 2) = false) (q3 : decide (K = 3) = false) : Calls Try.prog 11 #[vl10 K vb vn vs fl tx er, .int .i64 sc9] w fun e w' => e = .returned (sm 1 (0) (0) (1) (2) (0) false false (0) (0) false (0) (0)) ∧ Mo w w' := by
  refine w_enter 67 Try.func11 Try.ntmps11 rfl rfl ?_
  have M : Mo w w := Mo.refl _
  refine w_seq ?_
  refine w_reg ?_
  refine wl_box 28 (.tmp 0) (.agg #[.int .i64 (K), .bool vb, .int .u64 (l0 (vn)), .int .u64 (l1 (vn)), .int .u64 (l2 (vn)), .int .u64 (l3 (vn)), .int .i64 (vs), .bool fl, .string tx, .int .i64 (er)]) (#[.int .i64 (K), .bool vb, .int .u64 (l0 (vn)), .int .u64 (l1 (vn)), .int .u64 (l2 (vn)), .int .u64 (l3 (vn)), .int .i64 (vs), .bool fl, .string tx, .int .i64 (er)]) rfl rfl (fun _ => by kernel_rfl) rfl ?_
  intro k1 w1 hk hz hq Q1
  have N_k1 : w.heap.size ≤ k1 := by have := M.size; omega
  replace M := M.trans hq
  clear hk hz hq
  refine wl_alloc 33 #[.int .i64 0, .int .i64 0, .int .i64 0, .int .i64 0, .int .i64 0, .int .u64 0, .int .u64 0, .int .u64 0, .int .u64 0, .int .u64 0, .bool false, .bool false, .int .u64 0, .int .u64 0, .int .u64 0, .int .u64 0, .int .i64 0, .bool false, .int .u64 0, .int .u64 0, .int .u64 0, .int .u64 0, .int .i64 0] rfl (fun _ => by kernel_rfl) rfl ?_
  intro k2 w2 hk hz hq Q2
  have ne_k1_k2 : k1 ≠ k2 := by have := Q1.lt; omega
  have N_k2 : w.heap.size ≤ k2 := by have := M.size; omega
  replace Q1 := Q1.mo hq
  replace M := M.trans hq
  clear hk hz hq
  refine w_nil ?_
  refine xn_then ?_
  refine w_seq ?_
  refine w_reg ?_
  refine wl_build 33 [(0, (.const (.int .i64 (1))))] [(0, .int .i64 (1))] (.agg #[.int .i64 (1), .int .i64 0, .int .i64 0, .int .i64 0, .int .i64 0, .int .u64 0, .int .u64 0, .int .u64 0, .int .u64 0, .int .u64 0, .bool false, .bool false, .int .u64 0, .int .u64 0, .int .u64 0, .int .u64 0, .int .i64 0, .bool false, .int .u64 0, .int .u64 0, .int .u64 0, .int .u64 0, .int .i64 0]) rfl rfl (by kernel_rfl) rfl ?_
  refine wl_alloc 33 #[.int .i64 0, .int .i64 0, .int .i64 0, .int .i64 0, .int .i64 0, .int .u64 0, .int .u64 0, .int .u64 0, .int .u64 0, .int .u64 0, .bool false, .bool false, .int .u64 0, .int .u64 0, .int .u64 0, .int .u64 0, .int .i64 0, .bool false, .int .u64 0, .int .u64 0, .int .u64 0, .int .u64 0, .int .i64 0] rfl (fun _ => by kernel_rfl) rfl ?_
  intro k3 w3 hk hz hq Q3
  have ne_k1_k3 : k1 ≠ k3 := by have := Q1.lt; omega
  have ne_k2_k3 : k2 ≠ k3 := by have := Q2.lt; omega
  have N_k3 : w.heap.size ≤ k3 := by have := M.size; omega
  replace Q1 := Q1.mo hq
  replace Q2 := Q2.mo hq
  replace M := M.trans hq
  clear hk hz hq
  refine wl_st 33 (.tmp 5) (.tmp 6) k3 0 #[.int .i64 (1), .int .i64 0, .int .i64 0, .int .i64 0, .int .i64 0, .int .u64 0, .int .u64 0, .int .u64 0, .int .u64 0, .int .u64 0, .bool false, .bool false, .int .u64 0, .int .u64 0, .int .u64 0, .int .u64 0, .int .i64 0, .bool false, .int .u64 0, .int .u64 0, .int .u64 0, .int .u64 0, .int .i64 0] [.int .i64 0, .int .i64 0, .int .i64 0, .int .i64 0, .int .i64 0, .int .u64 0, .int .u64 0, .int .u64 0, .int .u64 0, .int .u64 0, .bool false, .bool false, .int .u64 0, .int .u64 0, .int .u64 0, .int .u64 0, .int .i64 0, .bool false, .int .u64 0, .int .u64 0, .int .u64 0, .int .u64 0, .int .i64 0] [.int .i64 (1), .int .i64 0, .int .i64 0, .int .i64 0, .int .i64 0, .int .u64 0, .int .u64 0, .int .u64 0, .int .u64 0, .int .u64 0, .bool false, .bool false, .int .u64 0, .int .u64 0, .int .u64 0, .int .u64 0, .int .i64 0, .bool false, .int .u64 0, .int .u64 0, .int .u64 0, .int .u64 0, .int .i64 0] Q3 rfl rfl rfl rfl rfl sz33 rfl rfl rfl ?_
  intro w4 hS Qn
  replace Q3 := Qn
  clear Qn
  replace Q1 := hS.other _ _ ne_k1_k3 Q1
  replace Q2 := hS.other _ _ ne_k2_k3 Q2
  replace M := hS.mo _ N_k3 M
  clear hS
  refine w_nil ?_
  refine xn_then ?_
  refine w_seq ?_
  refine w_block ?_
  refine w_seq ?_
  refine w_reg ?_
  refine wl_un (fun v => Instr.fieldAt 28 v 0) (.tmp 2) (pt k1 0) (pt k1 0) (fun _ => rfl) rfl (by kernel_rfl) rfl ?_
  refine wl_load 3 (.tmp 10) (pt k1 0) (.int .i64 (K)) rfl rfl (run_one Q1 3 0 rfl Try.underlying3 rfl) rfl ?_
  refine wl_bin (fun x y => do eqGuard .eql 3 (.tmp 11) (.const (.int .i64 (0))) x y; binOp .eql 3 x y) (.tmp 11) (.const (.int .i64 (0))) (.int .i64 (K)) (.int .i64 (0)) (.bool false) (fun _ => rfl) rfl rfl (eqI q0 _ _ _) rfl ?_
  refine wl_mv (.tmp 12) (.bool false) (fun _ => rfl) rfl rfl ?_
  refine w_nil ?_
  refine xn_then ?_
  refine w_condF rfl ?_
  refine w_seq ?_
  refine w_reg ?_
  refine wl_un (fun v => Instr.fieldAt 28 v 0) (.tmp 2) (pt k1 0) (pt k1 0) (fun _ => rfl) rfl (by kernel_rfl) rfl ?_
  refine wl_load 3 (.tmp 15) (pt k1 0) (.int .i64 (K)) rfl rfl (run_one Q1 3 0 rfl Try.underlying3 rfl) rfl ?_
  refine wl_bin (fun x y => do eqGuard .eql 3 (.tmp 16) (.const (.int .i64 (4))) x y; binOp .eql 3 x y) (.tmp 16) (.const (.int .i64 (4))) (.int .i64 (K)) (.int .i64 (4)) (.bool true) (fun _ => rfl) rfl rfl (eqI q4 _ _ _) rfl ?_
  refine wl_mv (.tmp 17) (.bool true) (fun _ => rfl) rfl rfl ?_
  refine wl_un (fun v => Instr.fieldAt 28 v 4) (.tmp 2) (pt k1 0) (pt k1 9) (fun _ => rfl) rfl (by kernel_rfl) rfl ?_
  refine wl_load 3 (.tmp 19) (pt k1 9) (.int .i64 (er)) rfl rfl (run_one Q1 3 9 rfl Try.underlying3 rfl) rfl ?_
  refine wl_bin (fun x y => do eqGuard .geq 3 (.tmp 20) (.const (.int .i64 (1))) x y; binOp .geq 3 x y) (.tmp 20) (.const (.int .i64 (1))) (.int .i64 (er)) (.int .i64 (1)) (.bool false) (fun _ => rfl) rfl rfl (geI qe _ _ _) rfl ?_
  refine wl_pick (.tmp 18) (.tmp 21) (.const (.bool false)) true (.bool false) (fun _ => rfl) rfl rfl rfl ?_
  refine wl_mv (.tmp 22) (.bool false) (fun _ => rfl) rfl rfl ?_
  refine w_nil ?_
  refine xn_then ?_
  refine w_condF rfl ?_
  refine w_seq ?_
  refine w_reg ?_
  refine wl_un (fun v => Instr.fieldAt 28 v 0) (.tmp 2) (pt k1 0) (pt k1 0) (fun _ => rfl) rfl (by kernel_rfl) rfl ?_
  refine wl_load 3 (.tmp 28) (pt k1 0) (.int .i64 (K)) rfl rfl (run_one Q1 3 0 rfl Try.underlying3 rfl) rfl ?_
  refine wl_bin (fun x y => do eqGuard .eql 3 (.tmp 29) (.const (.int .i64 (1))) x y; binOp .eql 3 x y) (.tmp 29) (.const (.int .i64 (1))) (.int .i64 (K)) (.int .i64 (1)) (.bool false) (fun _ => rfl) rfl rfl (eqI q1 _ _ _) rfl ?_
  refine wl_mv (.tmp 30) (.bool false) (fun _ => rfl) rfl rfl ?_
  refine wl_skip rfl ?_
  refine wl_skip rfl ?_
  refine wl_skip rfl ?_
  refine wl_skip rfl ?_
  refine wl_pick (.tmp 31) (.tmp 35) (.const (.bool false)) false (.bool false) (fun _ => rfl) rfl rfl rfl ?_
  refine wl_mv (.tmp 36) (.bool false) (fun _ => rfl) rfl rfl ?_
  refine wl_skip rfl ?_
  refine wl_skip rfl ?_
  refine wl_skip rfl ?_
  refine wl_skip rfl ?_
  refine wl_skip rfl ?_
  refine wl_pick (.tmp 37) (.tmp 42) (.const (.bool false)) false (.bool false) (fun _ => rfl) rfl rfl rfl ?_
  refine wl_mv (.tmp 43) (.bool false) (fun _ => rfl) rfl rfl ?_
  refine w_nil ?_
  refine xn_then ?_
  refine w_condF rfl ?_
  refine w_seq ?_
  refine w_reg ?_
  refine wl_un (fun v => Instr.fieldAt 28 v 0) (.tmp 2) (pt k1 0) (pt k1 0) (fun _ => rfl) rfl (by kernel_rfl) rfl ?_
  refine wl_load 3 (.tmp 57) (pt k1 0) (.int .i64 (K)) rfl rfl (run_one Q1 3 0 rfl Try.underlying3 rfl) rfl ?_
  refine wl_bin (fun x y => do eqGuard .eql 3 (.tmp 58) (.const (.int .i64 (2))) x y; binOp .eql 3 x y) (.tmp 58) (.const (.int .i64 (2))) (.int .i64 (K)) (.int .i64 (2)) (.bool false) (fun _ => rfl) rfl rfl (eqI q2 _ _ _) rfl ?_
  refine wl_mv (.tmp 59) (.bool false) (fun _ => rfl) rfl rfl ?_
  refine wl_un (fun v => Instr.fieldAt 28 v 0) (.tmp 2) (pt k1 0) (pt k1 0) (fun _ => rfl) rfl (by kernel_rfl) rfl ?_
  refine wl_load 3 (.tmp 61) (pt k1 0) (.int .i64 (K)) rfl rfl (run_one Q1 3 0 rfl Try.underlying3 rfl) rfl ?_
  refine wl_bin (fun x y => do eqGuard .eql 3 (.tmp 62) (.const (.int .i64 (3))) x y; binOp .eql 3 x y) (.tmp 62) (.const (.int .i64 (3))) (.int .i64 (K)) (.int .i64 (3)) (.bool false) (fun _ => rfl) rfl rfl (eqI q3 _ _ _) rfl ?_
  refine wl_pick (.tmp 60) (.const (.bool true)) (.tmp 63) false (.bool false) (fun _ => rfl) rfl rfl rfl ?_
  refine wl_mv (.tmp 64) (.bool false) (fun _ => rfl) rfl rfl ?_
  refine w_nil ?_
  refine xn_then ?_
  refine w_condF rfl ?_
  refine w_reg ?_
  refine wl_un (fun v => Instr.fieldAt 33 v 3) (.tmp 5) (pt k3 0) (pt k3 3) (fun _ => rfl) rfl (by kernel_rfl) rfl ?_
  refine wl_st1 3 (.tmp 7) (.const (.int .i64 (1))) k3 3 (.int .i64 (1)) [.int .i64 (1), .int .i64 0, .int .i64 0, .int .i64 0, .int .i64 0, .int .u64 0, .int .u64 0, .int .u64 0, .int .u64 0, .int .u64 0, .bool false, .bool false, .int .u64 0, .int .u64 0, .int .u64 0, .int .u64 0, .int .i64 0, .bool false, .int .u64 0, .int .u64 0, .int .u64 0, .int .u64 0, .int .i64 0] [.int .i64 (1), .int .i64 0, .int .i64 0, .int .i64 (1), .int .i64 0, .int .u64 0, .int .u64 0, .int .u64 0, .int .u64 0, .int .u64 0, .bool false, .bool false, .int .u64 0, .int .u64 0, .int .u64 0, .int .u64 0, .int .i64 0, .bool false, .int .u64 0, .int .u64 0, .int .u64 0, .int .u64 0, .int .i64 0] Q3 rfl rfl rfl rfl rfl sz3 rfl rfl rfl rfl ?_
  intro w5 hS Qn
  replace Q3 := Qn
  clear Qn
  replace Q1 := hS.other _ _ ne_k1_k3 Q1
  replace Q2 := hS.other _ _ ne_k2_k3 Q2
  replace M := hS.mo _ N_k3 M
  clear hS
  refine wl_un (fun v => Instr.fieldAt 33 v 4) (.tmp 5) (pt k3 0) (pt k3 4) (fun _ => rfl) rfl (by kernel_rfl) rfl ?_
  refine wl_st1 3 (.tmp 8) (.const (.int .i64 (2))) k3 4 (.int .i64 (2)) [.int .i64 (1), .int .i64 0, .int .i64 0, .int .i64 (1), .int .i64 0, .int .u64 0, .int .u64 0, .int .u64 0, .int .u64 0, .int .u64 0, .bool false, .bool false, .int .u64 0, .int .u64 0, .int .u64 0, .int .u64 0, .int .i64 0, .bool false, .int .u64 0, .int .u64 0, .int .u64 0, .int .u64 0, .int .i64 0] [.int .i64 (1), .int .i64 0, .int .i64 0, .int .i64 (1), .int .i64 (2), .int .u64 0, .int .u64 0, .int .u64 0, .int .u64 0, .int .u64 0, .bool false, .bool false, .int .u64 0, .int .u64 0, .int .u64 0, .int .u64 0, .int .i64 0, .bool false, .int .u64 0, .int .u64 0, .int .u64 0, .int .u64 0, .int .i64 0] Q3 rfl rfl rfl rfl rfl sz3 rfl rfl rfl rfl ?_
  intro w6 hS Qn
  replace Q3 := Qn
  clear Qn
  replace Q1 := hS.other _ _ ne_k1_k3 Q1
  replace Q2 := hS.other _ _ ne_k2_k3 Q2
  replace M := hS.mo _ N_k3 M
  clear hS
  refine w_nil ?_
  refine xn_blk ?_
  refine xn_then ?_
  refine w_seq ?_
  refine w_reg ?_
  refine wl_load 33 (.tmp 5) (pt k3 0) (.agg #[.int .i64 (1), .int .i64 0, .int .i64 0, .int .i64 (1), .int .i64 (2), .int .u64 0, .int .u64 0, .int .u64 0, .int .u64 0, .int .u64 0, .bool false, .bool false, .int .u64 0, .int .u64 0, .int .u64 0, .int .u64 0, .int .i64 0, .bool false, .int .u64 0, .int .u64 0, .int .u64 0, .int .u64 0, .int .i64 0]) rfl rfl (run_row Q3 33 0 23 [.int .i64 (1), .int .i64 0, .int .i64 0, .int .i64 (1), .int .i64 (2), .int .u64 0, .int .u64 0, .int .u64 0, .int .u64 0, .int .u64 0, .bool false, .bool false, .int .u64 0, .int .u64 0, .int .u64 0, .int .u64 0, .int .i64 0, .bool false, .int .u64 0, .int .u64 0, .int .u64 0, .int .u64 0, .int .i64 0] rfl Try.underlying33 rfl sz33) rfl ?_
  refine wl_st 33 (.tmp 4) (.tmp 66) k2 0 #[.int .i64 (1), .int .i64 0, .int .i64 0, .int .i64 (1), .int .i64 (2), .int .u64 0, .int .u64 0, .int .u64 0, .int .u64 0, .int .u64 0, .bool false, .bool false, .int .u64 0, .int .u64 0, .int .u64 0, .int .u64 0, .int .i64 0, .bool false, .int .u64 0, .int .u64 0, .int .u64 0, .int .u64 0, .int .i64 0] [.int .i64 0, .int .i64 0, .int .i64 0, .int .i64 0, .int .i64 0, .int .u64 0, .int .u64 0, .int .u64 0, .int .u64 0, .int .u64 0, .bool false, .bool false, .int .u64 0, .int .u64 0, .int .u64 0, .int .u64 0, .int .i64 0, .bool false, .int .u64 0, .int .u64 0, .int .u64 0, .int .u64 0, .int .i64 0] [.int .i64 (1), .int .i64 0, .int .i64 0, .int .i64 (1), .int .i64 (2), .int .u64 0, .int .u64 0, .int .u64 0, .int .u64 0, .int .u64 0, .bool false, .bool false, .int .u64 0, .int .u64 0, .int .u64 0, .int .u64 0, .int .i64 0, .bool false, .int .u64 0, .int .u64 0, .int .u64 0, .int .u64 0, .int .i64 0] Q2 rfl rfl rfl rfl rfl sz33 rfl rfl rfl ?_
  intro w7 hS Qn
  replace Q2 := Qn
  clear Qn
  replace Q1 := hS.other _ _ ne_k1_k2 Q1
  replace Q3 := hS.other _ _ ne_k2_k3.symm Q3
  replace M := hS.mo _ N_k2 M
  clear hS
  refine w_nil ?_
  refine xn_then ?_
  refine w_ret ?_
  exact w_ret1 _ (.agg #[.int .i64 (1), .int .i64 0, .int .i64 0, .int .i64 (1), .int .i64 (2), .int .u64 0, .int .u64 0, .int .u64 0, .int .u64 0, .int .u64 0, .bool false, .bool false, .int .u64 0, .int .u64 0, .int .u64 0, .int .u64 0, .int .i64 0, .bool false, .int .u64 0, .int .u64 0, .int .u64 0, .int .u64 0, .int .i64 0]) rfl ⟨k2, rfl, (run_row Q2 33 0 23 [.int .i64 (1), .int .i64 0, .int .i64 0, .int .i64 (1), .int .i64 (2), .int .u64 0, .int .u64 0, .int .u64 0, .int .u64 0, .int .u64 0, .bool false, .bool false, .int .u64 0, .int .u64 0, .int .u64 0, .int .u64 0, .int .i64 0, .bool false, .int .u64 0, .int .u64 0, .int .u64 0, .int .u64 0, .int .i64 0] rfl Try.underlying33 rfl sz33)⟩ ⟨rfl, M⟩
theorem rof_d (K : Int) (vb : Bool) (vn vs : Int) (fl : Bool) (tx : ByteArray) (er sc9 : Int) (hn0 : 0 ≤ vn) (hn : vn < MM) (q0 : decide (K = 0) = false) (q4 : decide (K = 4) = false) (q1 : decide (K = 1) = true) (qs : decide (vs = sc9) = true) (qc : decide (ck vb vn vs = 0) = true) : Calls Try.prog 11 #[vl10 K vb vn vs fl tx er, .int .i64 sc9] w fun e w' => e = .returned (sm 1 (1) (0) (0) (0) (sv vb vn) true vb (vn) (vs) vb (vn) (vs)) ∧ Mo w w' := by
  refine w_enter 67 Try.func11 Try.ntmps11 rfl rfl ?_
  have M : Mo w w := Mo.refl _
  refine w_seq ?_
  refine w_reg ?_
  refine wl_box 28 (.tmp 0) (.agg #[.int .i64 (K), .bool vb, .int .u64 (l0 (vn)), .int .u64 (l1 (vn)), .int .u64 (l2 (vn)), .int .u64 (l3 (vn)), .int .i64 (vs), .bool fl, .string tx, .int .i64 (er)]) (#[.int .i64 (K), .bool vb, .int .u64 (l0 (vn)), .int .u64 (l1 (vn)), .int .u64 (l2 (vn)), .int .u64 (l3 (vn)), .int .i64 (vs), .bool fl, .string tx, .int .i64 (er)]) rfl rfl (fun _ => by kernel_rfl) rfl ?_
  intro k1 w1 hk hz hq Q1
  have N_k1 : w.heap.size ≤ k1 := by have := M.size; omega
  replace M := M.trans hq
  clear hk hz hq
  refine wl_alloc 33 #[.int .i64 0, .int .i64 0, .int .i64 0, .int .i64 0, .int .i64 0, .int .u64 0, .int .u64 0, .int .u64 0, .int .u64 0, .int .u64 0, .bool false, .bool false, .int .u64 0, .int .u64 0, .int .u64 0, .int .u64 0, .int .i64 0, .bool false, .int .u64 0, .int .u64 0, .int .u64 0, .int .u64 0, .int .i64 0] rfl (fun _ => by kernel_rfl) rfl ?_
  intro k2 w2 hk hz hq Q2
  have ne_k1_k2 : k1 ≠ k2 := by have := Q1.lt; omega
  have N_k2 : w.heap.size ≤ k2 := by have := M.size; omega
  replace Q1 := Q1.mo hq
  replace M := M.trans hq
  clear hk hz hq
  refine w_nil ?_
  refine xn_then ?_
  refine w_seq ?_
  refine w_reg ?_
  refine wl_build 33 [(0, (.const (.int .i64 (1))))] [(0, .int .i64 (1))] (.agg #[.int .i64 (1), .int .i64 0, .int .i64 0, .int .i64 0, .int .i64 0, .int .u64 0, .int .u64 0, .int .u64 0, .int .u64 0, .int .u64 0, .bool false, .bool false, .int .u64 0, .int .u64 0, .int .u64 0, .int .u64 0, .int .i64 0, .bool false, .int .u64 0, .int .u64 0, .int .u64 0, .int .u64 0, .int .i64 0]) rfl rfl (by kernel_rfl) rfl ?_
  refine wl_alloc 33 #[.int .i64 0, .int .i64 0, .int .i64 0, .int .i64 0, .int .i64 0, .int .u64 0, .int .u64 0, .int .u64 0, .int .u64 0, .int .u64 0, .bool false, .bool false, .int .u64 0, .int .u64 0, .int .u64 0, .int .u64 0, .int .i64 0, .bool false, .int .u64 0, .int .u64 0, .int .u64 0, .int .u64 0, .int .i64 0] rfl (fun _ => by kernel_rfl) rfl ?_
  intro k3 w3 hk hz hq Q3
  have ne_k1_k3 : k1 ≠ k3 := by have := Q1.lt; omega
  have ne_k2_k3 : k2 ≠ k3 := by have := Q2.lt; omega
  have N_k3 : w.heap.size ≤ k3 := by have := M.size; omega
  replace Q1 := Q1.mo hq
  replace Q2 := Q2.mo hq
  replace M := M.trans hq
  clear hk hz hq
  refine wl_st 33 (.tmp 5) (.tmp 6) k3 0 #[.int .i64 (1), .int .i64 0, .int .i64 0, .int .i64 0, .int .i64 0, .int .u64 0, .int .u64 0, .int .u64 0, .int .u64 0, .int .u64 0, .bool false, .bool false, .int .u64 0, .int .u64 0, .int .u64 0, .int .u64 0, .int .i64 0, .bool false, .int .u64 0, .int .u64 0, .int .u64 0, .int .u64 0, .int .i64 0] [.int .i64 0, .int .i64 0, .int .i64 0, .int .i64 0, .int .i64 0, .int .u64 0, .int .u64 0, .int .u64 0, .int .u64 0, .int .u64 0, .bool false, .bool false, .int .u64 0, .int .u64 0, .int .u64 0, .int .u64 0, .int .i64 0, .bool false, .int .u64 0, .int .u64 0, .int .u64 0, .int .u64 0, .int .i64 0] [.int .i64 (1), .int .i64 0, .int .i64 0, .int .i64 0, .int .i64 0, .int .u64 0, .int .u64 0, .int .u64 0, .int .u64 0, .int .u64 0, .bool false, .bool false, .int .u64 0, .int .u64 0, .int .u64 0, .int .u64 0, .int .i64 0, .bool false, .int .u64 0, .int .u64 0, .int .u64 0, .int .u64 0, .int .i64 0] Q3 rfl rfl rfl rfl rfl sz33 rfl rfl rfl ?_
  intro w4 hS Qn
  replace Q3 := Qn
  clear Qn
  replace Q1 := hS.other _ _ ne_k1_k3 Q1
  replace Q2 := hS.other _ _ ne_k2_k3 Q2
  replace M := hS.mo _ N_k3 M
  clear hS
  refine w_nil ?_
  refine xn_then ?_
  refine w_seq ?_
  refine w_block ?_
  refine w_seq ?_
  refine w_reg ?_
  refine wl_un (fun v => Instr.fieldAt 28 v 0) (.tmp 2) (pt k1 0) (pt k1 0) (fun _ => rfl) rfl (by kernel_rfl) rfl ?_
  refine wl_load 3 (.tmp 10) (pt k1 0) (.int .i64 (K)) rfl rfl (run_one Q1 3 0 rfl Try.underlying3 rfl) rfl ?_
  refine wl_bin (fun x y => do eqGuard .eql 3 (.tmp 11) (.const (.int .i64 (0))) x y; binOp .eql 3 x y) (.tmp 11) (.const (.int .i64 (0))) (.int .i64 (K)) (.int .i64 (0)) (.bool false) (fun _ => rfl) rfl rfl (eqI q0 _ _ _) rfl ?_
  refine wl_mv (.tmp 12) (.bool false) (fun _ => rfl) rfl rfl ?_
  refine w_nil ?_
  refine xn_then ?_
  refine w_condF rfl ?_
  refine w_seq ?_
  refine w_reg ?_
  refine wl_un (fun v => Instr.fieldAt 28 v 0) (.tmp 2) (pt k1 0) (pt k1 0) (fun _ => rfl) rfl (by kernel_rfl) rfl ?_
  refine wl_load 3 (.tmp 15) (pt k1 0) (.int .i64 (K)) rfl rfl (run_one Q1 3 0 rfl Try.underlying3 rfl) rfl ?_
  refine wl_bin (fun x y => do eqGuard .eql 3 (.tmp 16) (.const (.int .i64 (4))) x y; binOp .eql 3 x y) (.tmp 16) (.const (.int .i64 (4))) (.int .i64 (K)) (.int .i64 (4)) (.bool false) (fun _ => rfl) rfl rfl (eqI q4 _ _ _) rfl ?_
  refine wl_mv (.tmp 17) (.bool false) (fun _ => rfl) rfl rfl ?_
  refine wl_skip rfl ?_
  refine wl_skip rfl ?_
  refine wl_skip rfl ?_
  refine wl_pick (.tmp 18) (.tmp 21) (.const (.bool false)) false (.bool false) (fun _ => rfl) rfl rfl rfl ?_
  refine wl_mv (.tmp 22) (.bool false) (fun _ => rfl) rfl rfl ?_
  refine w_nil ?_
  refine xn_then ?_
  refine w_condF rfl ?_
  refine w_seq ?_
  refine w_reg ?_
  refine wl_un (fun v => Instr.fieldAt 28 v 0) (.tmp 2) (pt k1 0) (pt k1 0) (fun _ => rfl) rfl (by kernel_rfl) rfl ?_
  refine wl_load 3 (.tmp 28) (pt k1 0) (.int .i64 (K)) rfl rfl (run_one Q1 3 0 rfl Try.underlying3 rfl) rfl ?_
  refine wl_bin (fun x y => do eqGuard .eql 3 (.tmp 29) (.const (.int .i64 (1))) x y; binOp .eql 3 x y) (.tmp 29) (.const (.int .i64 (1))) (.int .i64 (K)) (.int .i64 (1)) (.bool true) (fun _ => rfl) rfl rfl (eqI q1 _ _ _) rfl ?_
  refine wl_mv (.tmp 30) (.bool true) (fun _ => rfl) rfl rfl ?_
  refine wl_un (fun v => Instr.fieldAt 28 v 1) (.tmp 2) (pt k1 0) (pt k1 1) (fun _ => rfl) rfl (by kernel_rfl) rfl ?_
  refine wl_load 26 (.tmp 32) (pt k1 1) (.agg #[.bool vb, .int .u64 (l0 (vn)), .int .u64 (l1 (vn)), .int .u64 (l2 (vn)), .int .u64 (l3 (vn)), .int .i64 (vs)]) rfl rfl (run_row Q1 26 1 6 [.bool vb, .int .u64 (l0 (vn)), .int .u64 (l1 (vn)), .int .u64 (l2 (vn)), .int .u64 (l3 (vn)), .int .i64 (vs)] rfl Try.underlying26 rfl sz26) rfl ?_
  refine wl_call 27 [(.tmp 33)] _ [.agg #[.bool vb, .int .u64 (l0 (vn)), .int .u64 (l1 (vn)), .int .u64 (l2 (vn)), .int .u64 (l3 (vn)), .int .i64 (vs)]] (.int .i64 (ck vb vn vs)) rfl rfl (fun _ _ => by kernel_rfl) (rcheck_n vb vn vs _ hn0 hn) rfl ?_
  intro w5 hq
  replace Q1 := Q1.mo hq
  replace Q2 := Q2.mo hq
  replace Q3 := Q3.mo hq
  replace M := M.trans hq
  clear hq
  refine wl_bin (fun x y => do eqGuard .eql 40 (.tmp 34) (.const (.int .i64 (0))) x y; binOp .eql 40 x y) (.tmp 34) (.const (.int .i64 (0))) (.int .i64 (ck vb vn vs)) (.int .i64 (0)) (.bool true) (fun _ => rfl) rfl rfl (eqE qc _ _ _) rfl ?_
  refine wl_pick (.tmp 31) (.tmp 35) (.const (.bool false)) true (.bool true) (fun _ => rfl) rfl rfl rfl ?_
  refine wl_mv (.tmp 36) (.bool true) (fun _ => rfl) rfl rfl ?_
  refine wl_un (fun v => Instr.fieldAt 28 v 1) (.tmp 2) (pt k1 0) (pt k1 1) (fun _ => rfl) rfl (by kernel_rfl) rfl ?_
  refine wl_un (fun v => Instr.fieldAt 26 v 2) (.tmp 38) (pt k1 1) (pt k1 6) (fun _ => rfl) rfl (by kernel_rfl) rfl ?_
  refine wl_load 3 (.tmp 39) (pt k1 6) (.int .i64 (vs)) rfl rfl (run_one Q1 3 6 rfl Try.underlying3 rfl) rfl ?_
  refine wl_mv (.tmp 1) (.int .i64 (sc9)) (fun _ => rfl) rfl rfl ?_
  refine wl_bin (fun x y => do eqGuard .eql 3 (.tmp 40) (.tmp 41) x y; binOp .eql 3 x y) (.tmp 40) (.tmp 41) (.int .i64 (vs)) (.int .i64 (sc9)) (.bool true) (fun _ => rfl) rfl rfl (eqI qs _ _ _) rfl ?_
  refine wl_pick (.tmp 37) (.tmp 42) (.const (.bool false)) true (.bool true) (fun _ => rfl) rfl rfl rfl ?_
  refine wl_mv (.tmp 43) (.bool true) (fun _ => rfl) rfl rfl ?_
  refine w_nil ?_
  refine xn_then ?_
  refine w_condT rfl ?_
  have hsm : Smos [vq (pt k1 1), vq (.agg #[.bool vb, .int .u64 (l0 (vn)), .int .u64 (l1 (vn)), .int .u64 (l2 (vn)), .int .u64 (l3 (vn)), .int .i64 (vs)]), vq (.agg #[.int .u64 (l0 (sv vb vn)), .int .u64 (l1 (sv vb vn)), .int .u64 (l2 (sv vb vn)), .int .u64 (l3 (sv vb vn)), .int .u64 (l4 (sv vb vn))]), vq (pt k1 1), vq (.agg #[.bool vb, .int .u64 (l0 (vn)), .int .u64 (l1 (vn)), .int .u64 (l2 (vn)), .int .u64 (l3 (vn)), .int .i64 (vs)]), vq (pt k1 1), vq (.agg #[.bool vb, .int .u64 (l0 (vn)), .int .u64 (l1 (vn)), .int .u64 (l2 (vn)), .int .u64 (l3 (vn)), .int .i64 (vs)]), vq (pt k3 1), pqf k3 [.int .i64 (1), .int .i64 (1), .int .i64 0, .int .i64 0, .int .i64 0, .int .u64 (l0 (sv vb vn)), .int .u64 (l1 (sv vb vn)), .int .u64 (l2 (sv vb vn)), .int .u64 (l3 (sv vb vn)), .int .u64 (l4 (sv vb vn)), .bool true, .bool vb, .int .u64 (l0 (vn)), .int .u64 (l1 (vn)), .int .u64 (l2 (vn)), .int .u64 (l3 (vn)), .int .i64 (vs), .bool vb, .int .u64 (l0 (vn)), .int .u64 (l1 (vn)), .int .u64 (l2 (vn)), .int .u64 (l3 (vn)), .int .i64 (vs)] 1 1, vq (pt k3 5), pqf k3 [.int .i64 (1), .int .i64 (1), .int .i64 0, .int .i64 0, .int .i64 0, .int .u64 (l0 (sv vb vn)), .int .u64 (l1 (sv vb vn)), .int .u64 (l2 (sv vb vn)), .int .u64 (l3 (sv vb vn)), .int .u64 (l4 (sv vb vn)), .bool true, .bool vb, .int .u64 (l0 (vn)), .int .u64 (l1 (vn)), .int .u64 (l2 (vn)), .int .u64 (l3 (vn)), .int .i64 (vs), .bool vb, .int .u64 (l0 (vn)), .int .u64 (l1 (vn)), .int .u64 (l2 (vn)), .int .u64 (l3 (vn)), .int .i64 (vs)] 5 5, vq (pt k3 10), pqf k3 [.int .i64 (1), .int .i64 (1), .int .i64 0, .int .i64 0, .int .i64 0, .int .u64 (l0 (sv vb vn)), .int .u64 (l1 (sv vb vn)), .int .u64 (l2 (sv vb vn)), .int .u64 (l3 (sv vb vn)), .int .u64 (l4 (sv vb vn)), .bool true, .bool vb, .int .u64 (l0 (vn)), .int .u64 (l1 (vn)), .int .u64 (l2 (vn)), .int .u64 (l3 (vn)), .int .i64 (vs), .bool vb, .int .u64 (l0 (vn)), .int .u64 (l1 (vn)), .int .u64 (l2 (vn)), .int .u64 (l3 (vn)), .int .i64 (vs)] 10 1, vq (pt k3 11), pqf k3 [.int .i64 (1), .int .i64 (1), .int .i64 0, .int .i64 0, .int .i64 0, .int .u64 (l0 (sv vb vn)), .int .u64 (l1 (sv vb vn)), .int .u64 (l2 (sv vb vn)), .int .u64 (l3 (sv vb vn)), .int .u64 (l4 (sv vb vn)), .bool true, .bool vb, .int .u64 (l0 (vn)), .int .u64 (l1 (vn)), .int .u64 (l2 (vn)), .int .u64 (l3 (vn)), .int .i64 (vs), .bool vb, .int .u64 (l0 (vn)), .int .u64 (l1 (vn)), .int .u64 (l2 (vn)), .int .u64 (l3 (vn)), .int .i64 (vs)] 11 6, vq (pt k3 17), pqf k3 [.int .i64 (1), .int .i64 (1), .int .i64 0, .int .i64 0, .int .i64 0, .int .u64 (l0 (sv vb vn)), .int .u64 (l1 (sv vb vn)), .int .u64 (l2 (sv vb vn)), .int .u64 (l3 (sv vb vn)), .int .u64 (l4 (sv vb vn)), .bool true, .bool vb, .int .u64 (l0 (vn)), .int .u64 (l1 (vn)), .int .u64 (l2 (vn)), .int .u64 (l3 (vn)), .int .i64 (vs), .bool vb, .int .u64 (l0 (vn)), .int .u64 (l1 (vn)), .int .u64 (l2 (vn)), .int .u64 (l3 (vn)), .int .i64 (vs)] 17 6] := smos_cons (smo_vq _) (smos_cons (smo_vq _) (smos_cons (smo_vq _) (smos_cons (smo_vq _) (smos_cons (smo_vq _) (smos_cons (smo_vq _) (smos_cons (smo_vq _) (smos_cons (smo_vq _) (smos_cons (smo_pqf _ _ _ _) (smos_cons (smo_vq _) (smos_cons (smo_pqf _ _ _ _) (smos_cons (smo_vq _) (smos_cons (smo_pqf _ _ _ _) (smos_cons (smo_vq _) (smos_cons (smo_pqf _ _ _ _) (smos_cons (smo_vq _) (smos_cons (smo_pqf _ _ _ _) (smos_nil)))))))))))))))))
  have hst : Spts k3 [.int .i64 (1), .int .i64 (1), .int .i64 0, .int .i64 0, .int .i64 0, .int .u64 (l0 (sv vb vn)), .int .u64 (l1 (sv vb vn)), .int .u64 (l2 (sv vb vn)), .int .u64 (l3 (sv vb vn)), .int .u64 (l4 (sv vb vn)), .bool true, .bool vb, .int .u64 (l0 (vn)), .int .u64 (l1 (vn)), .int .u64 (l2 (vn)), .int .u64 (l3 (vn)), .int .i64 (vs), .bool vb, .int .u64 (l0 (vn)), .int .u64 (l1 (vn)), .int .u64 (l2 (vn)), .int .u64 (l3 (vn)), .int .i64 (vs)] [vq (pt k1 1), vq (.agg #[.bool vb, .int .u64 (l0 (vn)), .int .u64 (l1 (vn)), .int .u64 (l2 (vn)), .int .u64 (l3 (vn)), .int .i64 (vs)]), vq (.agg #[.int .u64 (l0 (sv vb vn)), .int .u64 (l1 (sv vb vn)), .int .u64 (l2 (sv vb vn)), .int .u64 (l3 (sv vb vn)), .int .u64 (l4 (sv vb vn))]), vq (pt k1 1), vq (.agg #[.bool vb, .int .u64 (l0 (vn)), .int .u64 (l1 (vn)), .int .u64 (l2 (vn)), .int .u64 (l3 (vn)), .int .i64 (vs)]), vq (pt k1 1), vq (.agg #[.bool vb, .int .u64 (l0 (vn)), .int .u64 (l1 (vn)), .int .u64 (l2 (vn)), .int .u64 (l3 (vn)), .int .i64 (vs)]), vq (pt k3 1), pqf k3 [.int .i64 (1), .int .i64 (1), .int .i64 0, .int .i64 0, .int .i64 0, .int .u64 (l0 (sv vb vn)), .int .u64 (l1 (sv vb vn)), .int .u64 (l2 (sv vb vn)), .int .u64 (l3 (sv vb vn)), .int .u64 (l4 (sv vb vn)), .bool true, .bool vb, .int .u64 (l0 (vn)), .int .u64 (l1 (vn)), .int .u64 (l2 (vn)), .int .u64 (l3 (vn)), .int .i64 (vs), .bool vb, .int .u64 (l0 (vn)), .int .u64 (l1 (vn)), .int .u64 (l2 (vn)), .int .u64 (l3 (vn)), .int .i64 (vs)] 1 1, vq (pt k3 5), pqf k3 [.int .i64 (1), .int .i64 (1), .int .i64 0, .int .i64 0, .int .i64 0, .int .u64 (l0 (sv vb vn)), .int .u64 (l1 (sv vb vn)), .int .u64 (l2 (sv vb vn)), .int .u64 (l3 (sv vb vn)), .int .u64 (l4 (sv vb vn)), .bool true, .bool vb, .int .u64 (l0 (vn)), .int .u64 (l1 (vn)), .int .u64 (l2 (vn)), .int .u64 (l3 (vn)), .int .i64 (vs), .bool vb, .int .u64 (l0 (vn)), .int .u64 (l1 (vn)), .int .u64 (l2 (vn)), .int .u64 (l3 (vn)), .int .i64 (vs)] 5 5, vq (pt k3 10), pqf k3 [.int .i64 (1), .int .i64 (1), .int .i64 0, .int .i64 0, .int .i64 0, .int .u64 (l0 (sv vb vn)), .int .u64 (l1 (sv vb vn)), .int .u64 (l2 (sv vb vn)), .int .u64 (l3 (sv vb vn)), .int .u64 (l4 (sv vb vn)), .bool true, .bool vb, .int .u64 (l0 (vn)), .int .u64 (l1 (vn)), .int .u64 (l2 (vn)), .int .u64 (l3 (vn)), .int .i64 (vs), .bool vb, .int .u64 (l0 (vn)), .int .u64 (l1 (vn)), .int .u64 (l2 (vn)), .int .u64 (l3 (vn)), .int .i64 (vs)] 10 1, vq (pt k3 11), pqf k3 [.int .i64 (1), .int .i64 (1), .int .i64 0, .int .i64 0, .int .i64 0, .int .u64 (l0 (sv vb vn)), .int .u64 (l1 (sv vb vn)), .int .u64 (l2 (sv vb vn)), .int .u64 (l3 (sv vb vn)), .int .u64 (l4 (sv vb vn)), .bool true, .bool vb, .int .u64 (l0 (vn)), .int .u64 (l1 (vn)), .int .u64 (l2 (vn)), .int .u64 (l3 (vn)), .int .i64 (vs), .bool vb, .int .u64 (l0 (vn)), .int .u64 (l1 (vn)), .int .u64 (l2 (vn)), .int .u64 (l3 (vn)), .int .i64 (vs)] 11 6, vq (pt k3 17), pqf k3 [.int .i64 (1), .int .i64 (1), .int .i64 0, .int .i64 0, .int .i64 0, .int .u64 (l0 (sv vb vn)), .int .u64 (l1 (sv vb vn)), .int .u64 (l2 (sv vb vn)), .int .u64 (l3 (sv vb vn)), .int .u64 (l4 (sv vb vn)), .bool true, .bool vb, .int .u64 (l0 (vn)), .int .u64 (l1 (vn)), .int .u64 (l2 (vn)), .int .u64 (l3 (vn)), .int .i64 (vs), .bool vb, .int .u64 (l0 (vn)), .int .u64 (l1 (vn)), .int .u64 (l2 (vn)), .int .u64 (l3 (vn)), .int .i64 (vs)] 17 6] := spts_cons (spt_vq _) (spts_cons (spt_vq _) (spts_cons (spt_vq _) (spts_cons (spt_vq _) (spts_cons (spt_vq _) (spts_cons (spt_vq _) (spts_cons (spt_vq _) (spts_cons (spt_vq _) (spts_cons (spt_pqf _ _ rfl) (spts_cons (spt_vq _) (spts_cons (spt_pqf _ _ rfl) (spts_cons (spt_vq _) (spts_cons (spt_pqf _ _ rfl) (spts_cons (spt_vq _) (spts_cons (spt_pqf _ _ rfl) (spts_cons (spt_vq _) (spts_cons (spt_pqf _ _ rfl) (spts_nil)))))))))))))))))
  refine w_og (GD k3 [.int .i64 (1), .int .i64 0, .int .i64 0, .int .i64 0, .int .i64 0, .int .u64 0, .int .u64 0, .int .u64 0, .int .u64 0, .int .u64 0, .bool false, .bool false, .int .u64 0, .int .u64 0, .int .u64 0, .int .u64 0, .int .i64 0, .bool false, .int .u64 0, .int .u64 0, .int .u64 0, .int .u64 0, .int .i64 0] [.int .i64 (1), .int .i64 (1), .int .i64 0, .int .i64 0, .int .i64 0, .int .u64 (l0 (sv vb vn)), .int .u64 (l1 (sv vb vn)), .int .u64 (l2 (sv vb vn)), .int .u64 (l3 (sv vb vn)), .int .u64 (l4 (sv vb vn)), .bool true, .bool vb, .int .u64 (l0 (vn)), .int .u64 (l1 (vn)), .int .u64 (l2 (vn)), .int .u64 (l3 (vn)), .int .i64 (vs), .bool vb, .int .u64 (l0 (vn)), .int .u64 (l1 (vn)), .int .u64 (l2 (vn)), .int .u64 (l3 (vn)), .int .i64 (vs)] w5) [vq (pt k1 1), vq (.agg #[.bool vb, .int .u64 (l0 (vn)), .int .u64 (l1 (vn)), .int .u64 (l2 (vn)), .int .u64 (l3 (vn)), .int .i64 (vs)]), vq (.agg #[.int .u64 (l0 (sv vb vn)), .int .u64 (l1 (sv vb vn)), .int .u64 (l2 (sv vb vn)), .int .u64 (l3 (sv vb vn)), .int .u64 (l4 (sv vb vn))]), vq (pt k1 1), vq (.agg #[.bool vb, .int .u64 (l0 (vn)), .int .u64 (l1 (vn)), .int .u64 (l2 (vn)), .int .u64 (l3 (vn)), .int .i64 (vs)]), vq (pt k1 1), vq (.agg #[.bool vb, .int .u64 (l0 (vn)), .int .u64 (l1 (vn)), .int .u64 (l2 (vn)), .int .u64 (l3 (vn)), .int .i64 (vs)]), vq (pt k3 1), pqf k3 [.int .i64 (1), .int .i64 (1), .int .i64 0, .int .i64 0, .int .i64 0, .int .u64 (l0 (sv vb vn)), .int .u64 (l1 (sv vb vn)), .int .u64 (l2 (sv vb vn)), .int .u64 (l3 (sv vb vn)), .int .u64 (l4 (sv vb vn)), .bool true, .bool vb, .int .u64 (l0 (vn)), .int .u64 (l1 (vn)), .int .u64 (l2 (vn)), .int .u64 (l3 (vn)), .int .i64 (vs), .bool vb, .int .u64 (l0 (vn)), .int .u64 (l1 (vn)), .int .u64 (l2 (vn)), .int .u64 (l3 (vn)), .int .i64 (vs)] 1 1, vq (pt k3 5), pqf k3 [.int .i64 (1), .int .i64 (1), .int .i64 0, .int .i64 0, .int .i64 0, .int .u64 (l0 (sv vb vn)), .int .u64 (l1 (sv vb vn)), .int .u64 (l2 (sv vb vn)), .int .u64 (l3 (sv vb vn)), .int .u64 (l4 (sv vb vn)), .bool true, .bool vb, .int .u64 (l0 (vn)), .int .u64 (l1 (vn)), .int .u64 (l2 (vn)), .int .u64 (l3 (vn)), .int .i64 (vs), .bool vb, .int .u64 (l0 (vn)), .int .u64 (l1 (vn)), .int .u64 (l2 (vn)), .int .u64 (l3 (vn)), .int .i64 (vs)] 5 5, vq (pt k3 10), pqf k3 [.int .i64 (1), .int .i64 (1), .int .i64 0, .int .i64 0, .int .i64 0, .int .u64 (l0 (sv vb vn)), .int .u64 (l1 (sv vb vn)), .int .u64 (l2 (sv vb vn)), .int .u64 (l3 (sv vb vn)), .int .u64 (l4 (sv vb vn)), .bool true, .bool vb, .int .u64 (l0 (vn)), .int .u64 (l1 (vn)), .int .u64 (l2 (vn)), .int .u64 (l3 (vn)), .int .i64 (vs), .bool vb, .int .u64 (l0 (vn)), .int .u64 (l1 (vn)), .int .u64 (l2 (vn)), .int .u64 (l3 (vn)), .int .i64 (vs)] 10 1, vq (pt k3 11), pqf k3 [.int .i64 (1), .int .i64 (1), .int .i64 0, .int .i64 0, .int .i64 0, .int .u64 (l0 (sv vb vn)), .int .u64 (l1 (sv vb vn)), .int .u64 (l2 (sv vb vn)), .int .u64 (l3 (sv vb vn)), .int .u64 (l4 (sv vb vn)), .bool true, .bool vb, .int .u64 (l0 (vn)), .int .u64 (l1 (vn)), .int .u64 (l2 (vn)), .int .u64 (l3 (vn)), .int .i64 (vs), .bool vb, .int .u64 (l0 (vn)), .int .u64 (l1 (vn)), .int .u64 (l2 (vn)), .int .u64 (l3 (vn)), .int .i64 (vs)] 11 6, vq (pt k3 17), pqf k3 [.int .i64 (1), .int .i64 (1), .int .i64 0, .int .i64 0, .int .i64 0, .int .u64 (l0 (sv vb vn)), .int .u64 (l1 (sv vb vn)), .int .u64 (l2 (sv vb vn)), .int .u64 (l3 (sv vb vn)), .int .u64 (l4 (sv vb vn)), .bool true, .bool vb, .int .u64 (l0 (vn)), .int .u64 (l1 (vn)), .int .u64 (l2 (vn)), .int .u64 (l3 (vn)), .int .i64 (vs), .bool vb, .int .u64 (l0 (vn)), .int .u64 (l1 (vn)), .int .u64 (l2 (vn)), .int .u64 (l3 (vn)), .int .i64 (vs)] 17 6] (by kernel_rfl) (by kernel_rfl) (by kernel_rfl) (GD.start Q3 rfl) ?_ ?_
  · refine ea_cons ?_ (ea_cons ?_ (ea_cons ?_ (ea_cons ?_ (ea_cons ?_ (ea_cons ?_ (ea_cons ?_ (ea_cons ?_ (ea_cons ?_ (ea_cons ?_ (ea_cons ?_ (ea_cons ?_ (ea_cons ?_ (ea_cons ?_ (ea_cons ?_ (ea_cons ?_ (ea_cons ?_ (ea_nil)))))))))))))))))
    · exact ovq_eq (pt k1 1) rfl GD.grow hsm (fun f wf hG hd K hK => go_run rfl (wo_un (fun v => Instr.fieldAt 28 v 1) (.tmp 2) (pt k1 0) (pt k1 1) (fun _ => rfl) rfl (by kernel_rfl) (hK _ (Mo.refl _))))
    · exact ovq_eq (.agg #[.bool vb, .int .u64 (l0 (vn)), .int .u64 (l1 (vn)), .int .u64 (l2 (vn)), .int .u64 (l3 (vn)), .int .i64 (vs)]) rfl GD.grow hsm (fun f wf hG hd K hK => have Q1 := hG.other _ _ ne_k1_k3 Q1; go_run rfl (wo_load 26 (.tmp 44) (pt k1 1) (.agg #[.bool vb, .int .u64 (l0 (vn)), .int .u64 (l1 (vn)), .int .u64 (l2 (vn)), .int .u64 (l3 (vn)), .int .i64 (vs)]) rfl (hd 0 rfl) (run_row Q1 26 1 6 [.bool vb, .int .u64 (l0 (vn)), .int .u64 (l1 (vn)), .int .u64 (l2 (vn)), .int .u64 (l3 (vn)), .int .i64 (vs)] rfl Try.underlying26 rfl sz26) (hK _ (Mo.refl _))))
    · exact ovq_eq (.agg #[.int .u64 (l0 (sv vb vn)), .int .u64 (l1 (sv vb vn)), .int .u64 (l2 (sv vb vn)), .int .u64 (l3 (sv vb vn)), .int .u64 (l4 (sv vb vn))]) rfl GD.grow hsm (fun f wf hG hd K hK => go_run rfl (wo_call 22 [(.tmp 45)] _ [.agg #[.bool vb, .int .u64 (l0 (vn)), .int .u64 (l1 (vn)), .int .u64 (l2 (vn)), .int .u64 (l3 (vn)), .int .i64 (vs)]] (.agg #[.int .u64 (l0 (sv vb vn)), .int .u64 (l1 (sv vb vn)), .int .u64 (l2 (sv vb vn)), .int .u64 (l3 (sv vb vn)), .int .u64 (l4 (sv vb vn))]) rfl (li1 (hd 1 rfl)) (fun _ _ => by kernel_rfl) (rwiden_n vb vn vs hn0 hn) hK))
    · exact ovq_eq (pt k1 1) rfl GD.grow hsm (fun f wf hG hd K hK => go_run rfl (wo_un (fun v => Instr.fieldAt 28 v 1) (.tmp 2) (pt k1 0) (pt k1 1) (fun _ => rfl) rfl (by kernel_rfl) (hK _ (Mo.refl _))))
    · exact ovq_eq (.agg #[.bool vb, .int .u64 (l0 (vn)), .int .u64 (l1 (vn)), .int .u64 (l2 (vn)), .int .u64 (l3 (vn)), .int .i64 (vs)]) rfl GD.grow hsm (fun f wf hG hd K hK => have Q1 := hG.other _ _ ne_k1_k3 Q1; go_run rfl (wo_load 26 (.tmp 47) (pt k1 1) (.agg #[.bool vb, .int .u64 (l0 (vn)), .int .u64 (l1 (vn)), .int .u64 (l2 (vn)), .int .u64 (l3 (vn)), .int .i64 (vs)]) rfl (hd 3 rfl) (run_row Q1 26 1 6 [.bool vb, .int .u64 (l0 (vn)), .int .u64 (l1 (vn)), .int .u64 (l2 (vn)), .int .u64 (l3 (vn)), .int .i64 (vs)] rfl Try.underlying26 rfl sz26) (hK _ (Mo.refl _))))
    · exact ovq_eq (pt k1 1) rfl GD.grow hsm (fun f wf hG hd K hK => go_run rfl (wo_un (fun v => Instr.fieldAt 28 v 1) (.tmp 2) (pt k1 0) (pt k1 1) (fun _ => rfl) rfl (by kernel_rfl) (hK _ (Mo.refl _))))
    · exact ovq_eq (.agg #[.bool vb, .int .u64 (l0 (vn)), .int .u64 (l1 (vn)), .int .u64 (l2 (vn)), .int .u64 (l3 (vn)), .int .i64 (vs)]) rfl GD.grow hsm (fun f wf hG hd K hK => have Q1 := hG.other _ _ ne_k1_k3 Q1; go_run rfl (wo_load 26 (.tmp 49) (pt k1 1) (.agg #[.bool vb, .int .u64 (l0 (vn)), .int .u64 (l1 (vn)), .int .u64 (l2 (vn)), .int .u64 (l3 (vn)), .int .i64 (vs)]) rfl (hd 5 rfl) (run_row Q1 26 1 6 [.bool vb, .int .u64 (l0 (vn)), .int .u64 (l1 (vn)), .int .u64 (l2 (vn)), .int .u64 (l3 (vn)), .int .i64 (vs)] rfl Try.underlying26 rfl sz26) (hK _ (Mo.refl _))))
    · exact ovq_eq (pt k3 1) rfl GD.grow hsm (fun f wf hG hd K hK => go_run rfl (wo_un (fun v => Instr.fieldAt 33 v 1) (.tmp 5) (pt k3 0) (pt k3 1) (fun _ => rfl) rfl (by kernel_rfl) (hK _ (Mo.refl _))))
    · exact ovq_st1 3 (.tmp 51) (.const (.int .i64 (1))) k3 1 (.int .i64 (1)) rfl hst rfl rfl rfl rfl sz3 rfl rfl (fun f wf hd => (hd 7 rfl)) (fun f wf hd => rfl) (fun _ => rfl)
    · exact ovq_eq (pt k3 5) rfl GD.grow hsm (fun f wf hG hd K hK => go_run rfl (wo_un (fun v => Instr.fieldAt 33 v 5) (.tmp 5) (pt k3 0) (pt k3 5) (fun _ => rfl) rfl (by kernel_rfl) (hK _ (Mo.refl _))))
    · exact ovq_st 31 (.tmp 52) (.tmp 46) k3 5 #[.int .u64 (l0 (sv vb vn)), .int .u64 (l1 (sv vb vn)), .int .u64 (l2 (sv vb vn)), .int .u64 (l3 (sv vb vn)), .int .u64 (l4 (sv vb vn))] rfl hst rfl rfl rfl rfl sz31 rfl (fun f wf hd => (hd 9 rfl)) (fun f wf hd => (hd 2 rfl)) (fun _ => rfl)
    · exact ovq_eq (pt k3 10) rfl GD.grow hsm (fun f wf hG hd K hK => go_run rfl (wo_un (fun v => Instr.fieldAt 33 v 6) (.tmp 5) (pt k3 0) (pt k3 10) (fun _ => rfl) rfl (by kernel_rfl) (hK _ (Mo.refl _))))
    · exact ovq_st1 4 (.tmp 53) (.const (.bool true)) k3 10 (.bool true) rfl hst rfl rfl rfl rfl sz4 rfl rfl (fun f wf hd => (hd 11 rfl)) (fun f wf hd => rfl) (fun _ => rfl)
    · exact ovq_eq (pt k3 11) rfl GD.grow hsm (fun f wf hG hd K hK => go_run rfl (wo_un (fun v => Instr.fieldAt 33 v 7) (.tmp 5) (pt k3 0) (pt k3 11) (fun _ => rfl) rfl (by kernel_rfl) (hK _ (Mo.refl _))))
    · exact ovq_st 26 (.tmp 54) (.tmp 48) k3 11 #[.bool vb, .int .u64 (l0 (vn)), .int .u64 (l1 (vn)), .int .u64 (l2 (vn)), .int .u64 (l3 (vn)), .int .i64 (vs)] rfl hst rfl rfl rfl rfl sz26 rfl (fun f wf hd => (hd 13 rfl)) (fun f wf hd => (hd 4 rfl)) (fun _ => rfl)
    · exact ovq_eq (pt k3 17) rfl GD.grow hsm (fun f wf hG hd K hK => go_run rfl (wo_un (fun v => Instr.fieldAt 33 v 8) (.tmp 5) (pt k3 0) (pt k3 17) (fun _ => rfl) rfl (by kernel_rfl) (hK _ (Mo.refl _))))
    · exact ovq_st 26 (.tmp 55) (.tmp 50) k3 17 #[.bool vb, .int .u64 (l0 (vn)), .int .u64 (l1 (vn)), .int .u64 (l2 (vn)), .int .u64 (l3 (vn)), .int .i64 (vs)] rfl hst rfl rfl rfl rfl sz26 rfl (fun f wf hd => (hd 15 rfl)) (fun f wf hd => (hd 6 rfl)) (fun _ => rfl)
  intro f w6 hG hR
  replace Q3 := hG.fin [(1, 1), (5, 5), (10, 1), (11, 6), (17, 6)] rfl (fun p hp => by
      simp only [List.mem_cons, List.not_mem_nil, or_false] at hp
      rcases hp with rfl | rfl | rfl | rfl | rfl
      · exact ⟨f 8, hR 8 rfl⟩
      · exact ⟨f 10, hR 10 rfl⟩
      · exact ⟨f 12, hR 12 rfl⟩
      · exact ⟨f 14, hR 14 rfl⟩
      · exact ⟨f 16, hR 16 rfl⟩
    ) rfl
  have e0 := hR 0 rfl
  have e1 := hR 1 rfl
  have e2 := hR 2 rfl
  have e3 := hR 3 rfl
  have e4 := hR 4 rfl
  have e5 := hR 5 rfl
  have e6 := hR 6 rfl
  have e7 := hR 7 rfl
  have e9 := hR 9 rfl
  have e11 := hR 11 rfl
  have e13 := hR 13 rfl
  have e15 := hR 15 rfl
  replace Q1 := hG.other _ _ ne_k1_k3 Q1
  replace Q2 := hG.other _ _ ne_k2_k3 Q2
  replace M := hG.mo _ N_k3 M
  clear hG hR hsm hst
  refine xn_blk ?_
  refine xn_then ?_
  refine w_seq ?_
  refine w_reg ?_
  refine wl_load 33 (.tmp 5) (pt k3 0) (.agg #[.int .i64 (1), .int .i64 (1), .int .i64 0, .int .i64 0, .int .i64 0, .int .u64 (l0 (sv vb vn)), .int .u64 (l1 (sv vb vn)), .int .u64 (l2 (sv vb vn)), .int .u64 (l3 (sv vb vn)), .int .u64 (l4 (sv vb vn)), .bool true, .bool vb, .int .u64 (l0 (vn)), .int .u64 (l1 (vn)), .int .u64 (l2 (vn)), .int .u64 (l3 (vn)), .int .i64 (vs), .bool vb, .int .u64 (l0 (vn)), .int .u64 (l1 (vn)), .int .u64 (l2 (vn)), .int .u64 (l3 (vn)), .int .i64 (vs)]) rfl rfl (run_row Q3 33 0 23 [.int .i64 (1), .int .i64 (1), .int .i64 0, .int .i64 0, .int .i64 0, .int .u64 (l0 (sv vb vn)), .int .u64 (l1 (sv vb vn)), .int .u64 (l2 (sv vb vn)), .int .u64 (l3 (sv vb vn)), .int .u64 (l4 (sv vb vn)), .bool true, .bool vb, .int .u64 (l0 (vn)), .int .u64 (l1 (vn)), .int .u64 (l2 (vn)), .int .u64 (l3 (vn)), .int .i64 (vs), .bool vb, .int .u64 (l0 (vn)), .int .u64 (l1 (vn)), .int .u64 (l2 (vn)), .int .u64 (l3 (vn)), .int .i64 (vs)] rfl Try.underlying33 rfl sz33) rfl ?_
  refine wl_st 33 (.tmp 4) (.tmp 66) k2 0 #[.int .i64 (1), .int .i64 (1), .int .i64 0, .int .i64 0, .int .i64 0, .int .u64 (l0 (sv vb vn)), .int .u64 (l1 (sv vb vn)), .int .u64 (l2 (sv vb vn)), .int .u64 (l3 (sv vb vn)), .int .u64 (l4 (sv vb vn)), .bool true, .bool vb, .int .u64 (l0 (vn)), .int .u64 (l1 (vn)), .int .u64 (l2 (vn)), .int .u64 (l3 (vn)), .int .i64 (vs), .bool vb, .int .u64 (l0 (vn)), .int .u64 (l1 (vn)), .int .u64 (l2 (vn)), .int .u64 (l3 (vn)), .int .i64 (vs)] [.int .i64 0, .int .i64 0, .int .i64 0, .int .i64 0, .int .i64 0, .int .u64 0, .int .u64 0, .int .u64 0, .int .u64 0, .int .u64 0, .bool false, .bool false, .int .u64 0, .int .u64 0, .int .u64 0, .int .u64 0, .int .i64 0, .bool false, .int .u64 0, .int .u64 0, .int .u64 0, .int .u64 0, .int .i64 0] [.int .i64 (1), .int .i64 (1), .int .i64 0, .int .i64 0, .int .i64 0, .int .u64 (l0 (sv vb vn)), .int .u64 (l1 (sv vb vn)), .int .u64 (l2 (sv vb vn)), .int .u64 (l3 (sv vb vn)), .int .u64 (l4 (sv vb vn)), .bool true, .bool vb, .int .u64 (l0 (vn)), .int .u64 (l1 (vn)), .int .u64 (l2 (vn)), .int .u64 (l3 (vn)), .int .i64 (vs), .bool vb, .int .u64 (l0 (vn)), .int .u64 (l1 (vn)), .int .u64 (l2 (vn)), .int .u64 (l3 (vn)), .int .i64 (vs)] Q2 rfl rfl rfl rfl rfl sz33 rfl rfl rfl ?_
  intro w7 hS Qn
  replace Q2 := Qn
  clear Qn
  replace Q1 := hS.other _ _ ne_k1_k2 Q1
  replace Q3 := hS.other _ _ ne_k2_k3.symm Q3
  replace M := hS.mo _ N_k2 M
  clear hS
  refine w_nil ?_
  refine xn_then ?_
  refine w_ret ?_
  exact w_ret1 _ (.agg #[.int .i64 (1), .int .i64 (1), .int .i64 0, .int .i64 0, .int .i64 0, .int .u64 (l0 (sv vb vn)), .int .u64 (l1 (sv vb vn)), .int .u64 (l2 (sv vb vn)), .int .u64 (l3 (sv vb vn)), .int .u64 (l4 (sv vb vn)), .bool true, .bool vb, .int .u64 (l0 (vn)), .int .u64 (l1 (vn)), .int .u64 (l2 (vn)), .int .u64 (l3 (vn)), .int .i64 (vs), .bool vb, .int .u64 (l0 (vn)), .int .u64 (l1 (vn)), .int .u64 (l2 (vn)), .int .u64 (l3 (vn)), .int .i64 (vs)]) rfl ⟨k2, rfl, (run_row Q2 33 0 23 [.int .i64 (1), .int .i64 (1), .int .i64 0, .int .i64 0, .int .i64 0, .int .u64 (l0 (sv vb vn)), .int .u64 (l1 (sv vb vn)), .int .u64 (l2 (sv vb vn)), .int .u64 (l3 (sv vb vn)), .int .u64 (l4 (sv vb vn)), .bool true, .bool vb, .int .u64 (l0 (vn)), .int .u64 (l1 (vn)), .int .u64 (l2 (vn)), .int .u64 (l3 (vn)), .int .i64 (vs), .bool vb, .int .u64 (l0 (vn)), .int .u64 (l1 (vn)), .int .u64 (l2 (vn)), .int .u64 (l3 (vn)), .int .i64 (vs)] rfl Try.underlying33 rfl sz33)⟩ ⟨rfl, M⟩
theorem rof_e (K : Int) (vb : Bool) (vn vs : Int) (fl : Bool) (tx : ByteArray) (er sc9 : Int) (hn0 : 0 ≤ vn) (hn : vn < MM) (q0 : decide (K = 0) = false) (q4 : decide (K = 4) = false) (q1 : decide (K = 1) = true) (qs : decide (vs = sc9) = false) (qc : decide (ck vb vn vs = 0) = true) (q2 : decide (K = 2) = false) (q3 : decide (K = 3) = false) : Calls Try.prog 11 #[vl10 K vb vn vs fl tx er, .int .i64 sc9] w fun e w' => e = .returned (sm 1 (0) (0) (1) (2) (0) false false (0) (0) false (0) (0)) ∧ Mo w w' := by
  refine w_enter 67 Try.func11 Try.ntmps11 rfl rfl ?_
  have M : Mo w w := Mo.refl _
  refine w_seq ?_
  refine w_reg ?_
  refine wl_box 28 (.tmp 0) (.agg #[.int .i64 (K), .bool vb, .int .u64 (l0 (vn)), .int .u64 (l1 (vn)), .int .u64 (l2 (vn)), .int .u64 (l3 (vn)), .int .i64 (vs), .bool fl, .string tx, .int .i64 (er)]) (#[.int .i64 (K), .bool vb, .int .u64 (l0 (vn)), .int .u64 (l1 (vn)), .int .u64 (l2 (vn)), .int .u64 (l3 (vn)), .int .i64 (vs), .bool fl, .string tx, .int .i64 (er)]) rfl rfl (fun _ => by kernel_rfl) rfl ?_
  intro k1 w1 hk hz hq Q1
  have N_k1 : w.heap.size ≤ k1 := by have := M.size; omega
  replace M := M.trans hq
  clear hk hz hq
  refine wl_alloc 33 #[.int .i64 0, .int .i64 0, .int .i64 0, .int .i64 0, .int .i64 0, .int .u64 0, .int .u64 0, .int .u64 0, .int .u64 0, .int .u64 0, .bool false, .bool false, .int .u64 0, .int .u64 0, .int .u64 0, .int .u64 0, .int .i64 0, .bool false, .int .u64 0, .int .u64 0, .int .u64 0, .int .u64 0, .int .i64 0] rfl (fun _ => by kernel_rfl) rfl ?_
  intro k2 w2 hk hz hq Q2
  have ne_k1_k2 : k1 ≠ k2 := by have := Q1.lt; omega
  have N_k2 : w.heap.size ≤ k2 := by have := M.size; omega
  replace Q1 := Q1.mo hq
  replace M := M.trans hq
  clear hk hz hq
  refine w_nil ?_
  refine xn_then ?_
  refine w_seq ?_
  refine w_reg ?_
  refine wl_build 33 [(0, (.const (.int .i64 (1))))] [(0, .int .i64 (1))] (.agg #[.int .i64 (1), .int .i64 0, .int .i64 0, .int .i64 0, .int .i64 0, .int .u64 0, .int .u64 0, .int .u64 0, .int .u64 0, .int .u64 0, .bool false, .bool false, .int .u64 0, .int .u64 0, .int .u64 0, .int .u64 0, .int .i64 0, .bool false, .int .u64 0, .int .u64 0, .int .u64 0, .int .u64 0, .int .i64 0]) rfl rfl (by kernel_rfl) rfl ?_
  refine wl_alloc 33 #[.int .i64 0, .int .i64 0, .int .i64 0, .int .i64 0, .int .i64 0, .int .u64 0, .int .u64 0, .int .u64 0, .int .u64 0, .int .u64 0, .bool false, .bool false, .int .u64 0, .int .u64 0, .int .u64 0, .int .u64 0, .int .i64 0, .bool false, .int .u64 0, .int .u64 0, .int .u64 0, .int .u64 0, .int .i64 0] rfl (fun _ => by kernel_rfl) rfl ?_
  intro k3 w3 hk hz hq Q3
  have ne_k1_k3 : k1 ≠ k3 := by have := Q1.lt; omega
  have ne_k2_k3 : k2 ≠ k3 := by have := Q2.lt; omega
  have N_k3 : w.heap.size ≤ k3 := by have := M.size; omega
  replace Q1 := Q1.mo hq
  replace Q2 := Q2.mo hq
  replace M := M.trans hq
  clear hk hz hq
  refine wl_st 33 (.tmp 5) (.tmp 6) k3 0 #[.int .i64 (1), .int .i64 0, .int .i64 0, .int .i64 0, .int .i64 0, .int .u64 0, .int .u64 0, .int .u64 0, .int .u64 0, .int .u64 0, .bool false, .bool false, .int .u64 0, .int .u64 0, .int .u64 0, .int .u64 0, .int .i64 0, .bool false, .int .u64 0, .int .u64 0, .int .u64 0, .int .u64 0, .int .i64 0] [.int .i64 0, .int .i64 0, .int .i64 0, .int .i64 0, .int .i64 0, .int .u64 0, .int .u64 0, .int .u64 0, .int .u64 0, .int .u64 0, .bool false, .bool false, .int .u64 0, .int .u64 0, .int .u64 0, .int .u64 0, .int .i64 0, .bool false, .int .u64 0, .int .u64 0, .int .u64 0, .int .u64 0, .int .i64 0] [.int .i64 (1), .int .i64 0, .int .i64 0, .int .i64 0, .int .i64 0, .int .u64 0, .int .u64 0, .int .u64 0, .int .u64 0, .int .u64 0, .bool false, .bool false, .int .u64 0, .int .u64 0, .int .u64 0, .int .u64 0, .int .i64 0, .bool false, .int .u64 0, .int .u64 0, .int .u64 0, .int .u64 0, .int .i64 0] Q3 rfl rfl rfl rfl rfl sz33 rfl rfl rfl ?_
  intro w4 hS Qn
  replace Q3 := Qn
  clear Qn
  replace Q1 := hS.other _ _ ne_k1_k3 Q1
  replace Q2 := hS.other _ _ ne_k2_k3 Q2
  replace M := hS.mo _ N_k3 M
  clear hS
  refine w_nil ?_
  refine xn_then ?_
  refine w_seq ?_
  refine w_block ?_
  refine w_seq ?_
  refine w_reg ?_
  refine wl_un (fun v => Instr.fieldAt 28 v 0) (.tmp 2) (pt k1 0) (pt k1 0) (fun _ => rfl) rfl (by kernel_rfl) rfl ?_
  refine wl_load 3 (.tmp 10) (pt k1 0) (.int .i64 (K)) rfl rfl (run_one Q1 3 0 rfl Try.underlying3 rfl) rfl ?_
  refine wl_bin (fun x y => do eqGuard .eql 3 (.tmp 11) (.const (.int .i64 (0))) x y; binOp .eql 3 x y) (.tmp 11) (.const (.int .i64 (0))) (.int .i64 (K)) (.int .i64 (0)) (.bool false) (fun _ => rfl) rfl rfl (eqI q0 _ _ _) rfl ?_
  refine wl_mv (.tmp 12) (.bool false) (fun _ => rfl) rfl rfl ?_
  refine w_nil ?_
  refine xn_then ?_
  refine w_condF rfl ?_
  refine w_seq ?_
  refine w_reg ?_
  refine wl_un (fun v => Instr.fieldAt 28 v 0) (.tmp 2) (pt k1 0) (pt k1 0) (fun _ => rfl) rfl (by kernel_rfl) rfl ?_
  refine wl_load 3 (.tmp 15) (pt k1 0) (.int .i64 (K)) rfl rfl (run_one Q1 3 0 rfl Try.underlying3 rfl) rfl ?_
  refine wl_bin (fun x y => do eqGuard .eql 3 (.tmp 16) (.const (.int .i64 (4))) x y; binOp .eql 3 x y) (.tmp 16) (.const (.int .i64 (4))) (.int .i64 (K)) (.int .i64 (4)) (.bool false) (fun _ => rfl) rfl rfl (eqI q4 _ _ _) rfl ?_
  refine wl_mv (.tmp 17) (.bool false) (fun _ => rfl) rfl rfl ?_
  refine wl_skip rfl ?_
  refine wl_skip rfl ?_
  refine wl_skip rfl ?_
  refine wl_pick (.tmp 18) (.tmp 21) (.const (.bool false)) false (.bool false) (fun _ => rfl) rfl rfl rfl ?_
  refine wl_mv (.tmp 22) (.bool false) (fun _ => rfl) rfl rfl ?_
  refine w_nil ?_
  refine xn_then ?_
  refine w_condF rfl ?_
  refine w_seq ?_
  refine w_reg ?_
  refine wl_un (fun v => Instr.fieldAt 28 v 0) (.tmp 2) (pt k1 0) (pt k1 0) (fun _ => rfl) rfl (by kernel_rfl) rfl ?_
  refine wl_load 3 (.tmp 28) (pt k1 0) (.int .i64 (K)) rfl rfl (run_one Q1 3 0 rfl Try.underlying3 rfl) rfl ?_
  refine wl_bin (fun x y => do eqGuard .eql 3 (.tmp 29) (.const (.int .i64 (1))) x y; binOp .eql 3 x y) (.tmp 29) (.const (.int .i64 (1))) (.int .i64 (K)) (.int .i64 (1)) (.bool true) (fun _ => rfl) rfl rfl (eqI q1 _ _ _) rfl ?_
  refine wl_mv (.tmp 30) (.bool true) (fun _ => rfl) rfl rfl ?_
  refine wl_un (fun v => Instr.fieldAt 28 v 1) (.tmp 2) (pt k1 0) (pt k1 1) (fun _ => rfl) rfl (by kernel_rfl) rfl ?_
  refine wl_load 26 (.tmp 32) (pt k1 1) (.agg #[.bool vb, .int .u64 (l0 (vn)), .int .u64 (l1 (vn)), .int .u64 (l2 (vn)), .int .u64 (l3 (vn)), .int .i64 (vs)]) rfl rfl (run_row Q1 26 1 6 [.bool vb, .int .u64 (l0 (vn)), .int .u64 (l1 (vn)), .int .u64 (l2 (vn)), .int .u64 (l3 (vn)), .int .i64 (vs)] rfl Try.underlying26 rfl sz26) rfl ?_
  refine wl_call 27 [(.tmp 33)] _ [.agg #[.bool vb, .int .u64 (l0 (vn)), .int .u64 (l1 (vn)), .int .u64 (l2 (vn)), .int .u64 (l3 (vn)), .int .i64 (vs)]] (.int .i64 (ck vb vn vs)) rfl rfl (fun _ _ => by kernel_rfl) (rcheck_n vb vn vs _ hn0 hn) rfl ?_
  intro w5 hq
  replace Q1 := Q1.mo hq
  replace Q2 := Q2.mo hq
  replace Q3 := Q3.mo hq
  replace M := M.trans hq
  clear hq
  refine wl_bin (fun x y => do eqGuard .eql 40 (.tmp 34) (.const (.int .i64 (0))) x y; binOp .eql 40 x y) (.tmp 34) (.const (.int .i64 (0))) (.int .i64 (ck vb vn vs)) (.int .i64 (0)) (.bool true) (fun _ => rfl) rfl rfl (eqE qc _ _ _) rfl ?_
  refine wl_pick (.tmp 31) (.tmp 35) (.const (.bool false)) true (.bool true) (fun _ => rfl) rfl rfl rfl ?_
  refine wl_mv (.tmp 36) (.bool true) (fun _ => rfl) rfl rfl ?_
  refine wl_un (fun v => Instr.fieldAt 28 v 1) (.tmp 2) (pt k1 0) (pt k1 1) (fun _ => rfl) rfl (by kernel_rfl) rfl ?_
  refine wl_un (fun v => Instr.fieldAt 26 v 2) (.tmp 38) (pt k1 1) (pt k1 6) (fun _ => rfl) rfl (by kernel_rfl) rfl ?_
  refine wl_load 3 (.tmp 39) (pt k1 6) (.int .i64 (vs)) rfl rfl (run_one Q1 3 6 rfl Try.underlying3 rfl) rfl ?_
  refine wl_mv (.tmp 1) (.int .i64 (sc9)) (fun _ => rfl) rfl rfl ?_
  refine wl_bin (fun x y => do eqGuard .eql 3 (.tmp 40) (.tmp 41) x y; binOp .eql 3 x y) (.tmp 40) (.tmp 41) (.int .i64 (vs)) (.int .i64 (sc9)) (.bool false) (fun _ => rfl) rfl rfl (eqI qs _ _ _) rfl ?_
  refine wl_pick (.tmp 37) (.tmp 42) (.const (.bool false)) true (.bool false) (fun _ => rfl) rfl rfl rfl ?_
  refine wl_mv (.tmp 43) (.bool false) (fun _ => rfl) rfl rfl ?_
  refine w_nil ?_
  refine xn_then ?_
  refine w_condF rfl ?_
  refine w_seq ?_
  refine w_reg ?_
  refine wl_un (fun v => Instr.fieldAt 28 v 0) (.tmp 2) (pt k1 0) (pt k1 0) (fun _ => rfl) rfl (by kernel_rfl) rfl ?_
  refine wl_load 3 (.tmp 57) (pt k1 0) (.int .i64 (K)) rfl rfl (run_one Q1 3 0 rfl Try.underlying3 rfl) rfl ?_
  refine wl_bin (fun x y => do eqGuard .eql 3 (.tmp 58) (.const (.int .i64 (2))) x y; binOp .eql 3 x y) (.tmp 58) (.const (.int .i64 (2))) (.int .i64 (K)) (.int .i64 (2)) (.bool false) (fun _ => rfl) rfl rfl (eqI q2 _ _ _) rfl ?_
  refine wl_mv (.tmp 59) (.bool false) (fun _ => rfl) rfl rfl ?_
  refine wl_un (fun v => Instr.fieldAt 28 v 0) (.tmp 2) (pt k1 0) (pt k1 0) (fun _ => rfl) rfl (by kernel_rfl) rfl ?_
  refine wl_load 3 (.tmp 61) (pt k1 0) (.int .i64 (K)) rfl rfl (run_one Q1 3 0 rfl Try.underlying3 rfl) rfl ?_
  refine wl_bin (fun x y => do eqGuard .eql 3 (.tmp 62) (.const (.int .i64 (3))) x y; binOp .eql 3 x y) (.tmp 62) (.const (.int .i64 (3))) (.int .i64 (K)) (.int .i64 (3)) (.bool false) (fun _ => rfl) rfl rfl (eqI q3 _ _ _) rfl ?_
  refine wl_pick (.tmp 60) (.const (.bool true)) (.tmp 63) false (.bool false) (fun _ => rfl) rfl rfl rfl ?_
  refine wl_mv (.tmp 64) (.bool false) (fun _ => rfl) rfl rfl ?_
  refine w_nil ?_
  refine xn_then ?_
  refine w_condF rfl ?_
  refine w_reg ?_
  refine wl_un (fun v => Instr.fieldAt 33 v 3) (.tmp 5) (pt k3 0) (pt k3 3) (fun _ => rfl) rfl (by kernel_rfl) rfl ?_
  refine wl_st1 3 (.tmp 7) (.const (.int .i64 (1))) k3 3 (.int .i64 (1)) [.int .i64 (1), .int .i64 0, .int .i64 0, .int .i64 0, .int .i64 0, .int .u64 0, .int .u64 0, .int .u64 0, .int .u64 0, .int .u64 0, .bool false, .bool false, .int .u64 0, .int .u64 0, .int .u64 0, .int .u64 0, .int .i64 0, .bool false, .int .u64 0, .int .u64 0, .int .u64 0, .int .u64 0, .int .i64 0] [.int .i64 (1), .int .i64 0, .int .i64 0, .int .i64 (1), .int .i64 0, .int .u64 0, .int .u64 0, .int .u64 0, .int .u64 0, .int .u64 0, .bool false, .bool false, .int .u64 0, .int .u64 0, .int .u64 0, .int .u64 0, .int .i64 0, .bool false, .int .u64 0, .int .u64 0, .int .u64 0, .int .u64 0, .int .i64 0] Q3 rfl rfl rfl rfl rfl sz3 rfl rfl rfl rfl ?_
  intro w6 hS Qn
  replace Q3 := Qn
  clear Qn
  replace Q1 := hS.other _ _ ne_k1_k3 Q1
  replace Q2 := hS.other _ _ ne_k2_k3 Q2
  replace M := hS.mo _ N_k3 M
  clear hS
  refine wl_un (fun v => Instr.fieldAt 33 v 4) (.tmp 5) (pt k3 0) (pt k3 4) (fun _ => rfl) rfl (by kernel_rfl) rfl ?_
  refine wl_st1 3 (.tmp 8) (.const (.int .i64 (2))) k3 4 (.int .i64 (2)) [.int .i64 (1), .int .i64 0, .int .i64 0, .int .i64 (1), .int .i64 0, .int .u64 0, .int .u64 0, .int .u64 0, .int .u64 0, .int .u64 0, .bool false, .bool false, .int .u64 0, .int .u64 0, .int .u64 0, .int .u64 0, .int .i64 0, .bool false, .int .u64 0, .int .u64 0, .int .u64 0, .int .u64 0, .int .i64 0] [.int .i64 (1), .int .i64 0, .int .i64 0, .int .i64 (1), .int .i64 (2), .int .u64 0, .int .u64 0, .int .u64 0, .int .u64 0, .int .u64 0, .bool false, .bool false, .int .u64 0, .int .u64 0, .int .u64 0, .int .u64 0, .int .i64 0, .bool false, .int .u64 0, .int .u64 0, .int .u64 0, .int .u64 0, .int .i64 0] Q3 rfl rfl rfl rfl rfl sz3 rfl rfl rfl rfl ?_
  intro w7 hS Qn
  replace Q3 := Qn
  clear Qn
  replace Q1 := hS.other _ _ ne_k1_k3 Q1
  replace Q2 := hS.other _ _ ne_k2_k3 Q2
  replace M := hS.mo _ N_k3 M
  clear hS
  refine w_nil ?_
  refine xn_blk ?_
  refine xn_then ?_
  refine w_seq ?_
  refine w_reg ?_
  refine wl_load 33 (.tmp 5) (pt k3 0) (.agg #[.int .i64 (1), .int .i64 0, .int .i64 0, .int .i64 (1), .int .i64 (2), .int .u64 0, .int .u64 0, .int .u64 0, .int .u64 0, .int .u64 0, .bool false, .bool false, .int .u64 0, .int .u64 0, .int .u64 0, .int .u64 0, .int .i64 0, .bool false, .int .u64 0, .int .u64 0, .int .u64 0, .int .u64 0, .int .i64 0]) rfl rfl (run_row Q3 33 0 23 [.int .i64 (1), .int .i64 0, .int .i64 0, .int .i64 (1), .int .i64 (2), .int .u64 0, .int .u64 0, .int .u64 0, .int .u64 0, .int .u64 0, .bool false, .bool false, .int .u64 0, .int .u64 0, .int .u64 0, .int .u64 0, .int .i64 0, .bool false, .int .u64 0, .int .u64 0, .int .u64 0, .int .u64 0, .int .i64 0] rfl Try.underlying33 rfl sz33) rfl ?_
  refine wl_st 33 (.tmp 4) (.tmp 66) k2 0 #[.int .i64 (1), .int .i64 0, .int .i64 0, .int .i64 (1), .int .i64 (2), .int .u64 0, .int .u64 0, .int .u64 0, .int .u64 0, .int .u64 0, .bool false, .bool false, .int .u64 0, .int .u64 0, .int .u64 0, .int .u64 0, .int .i64 0, .bool false, .int .u64 0, .int .u64 0, .int .u64 0, .int .u64 0, .int .i64 0] [.int .i64 0, .int .i64 0, .int .i64 0, .int .i64 0, .int .i64 0, .int .u64 0, .int .u64 0, .int .u64 0, .int .u64 0, .int .u64 0, .bool false, .bool false, .int .u64 0, .int .u64 0, .int .u64 0, .int .u64 0, .int .i64 0, .bool false, .int .u64 0, .int .u64 0, .int .u64 0, .int .u64 0, .int .i64 0] [.int .i64 (1), .int .i64 0, .int .i64 0, .int .i64 (1), .int .i64 (2), .int .u64 0, .int .u64 0, .int .u64 0, .int .u64 0, .int .u64 0, .bool false, .bool false, .int .u64 0, .int .u64 0, .int .u64 0, .int .u64 0, .int .i64 0, .bool false, .int .u64 0, .int .u64 0, .int .u64 0, .int .u64 0, .int .i64 0] Q2 rfl rfl rfl rfl rfl sz33 rfl rfl rfl ?_
  intro w8 hS Qn
  replace Q2 := Qn
  clear Qn
  replace Q1 := hS.other _ _ ne_k1_k2 Q1
  replace Q3 := hS.other _ _ ne_k2_k3.symm Q3
  replace M := hS.mo _ N_k2 M
  clear hS
  refine w_nil ?_
  refine xn_then ?_
  refine w_ret ?_
  exact w_ret1 _ (.agg #[.int .i64 (1), .int .i64 0, .int .i64 0, .int .i64 (1), .int .i64 (2), .int .u64 0, .int .u64 0, .int .u64 0, .int .u64 0, .int .u64 0, .bool false, .bool false, .int .u64 0, .int .u64 0, .int .u64 0, .int .u64 0, .int .i64 0, .bool false, .int .u64 0, .int .u64 0, .int .u64 0, .int .u64 0, .int .i64 0]) rfl ⟨k2, rfl, (run_row Q2 33 0 23 [.int .i64 (1), .int .i64 0, .int .i64 0, .int .i64 (1), .int .i64 (2), .int .u64 0, .int .u64 0, .int .u64 0, .int .u64 0, .int .u64 0, .bool false, .bool false, .int .u64 0, .int .u64 0, .int .u64 0, .int .u64 0, .int .i64 0, .bool false, .int .u64 0, .int .u64 0, .int .u64 0, .int .u64 0, .int .i64 0] rfl Try.underlying33 rfl sz33)⟩ ⟨rfl, M⟩
theorem rof_f (K : Int) (vb : Bool) (vn vs : Int) (fl : Bool) (tx : ByteArray) (er sc9 : Int) (hn0 : 0 ≤ vn) (hn : vn < MM) (q0 : decide (K = 0) = false) (q4 : decide (K = 4) = false) (q1 : decide (K = 1) = true) (qc : decide (ck vb vn vs = 0) = false) (q2 : decide (K = 2) = false) (q3 : decide (K = 3) = false) : Calls Try.prog 11 #[vl10 K vb vn vs fl tx er, .int .i64 sc9] w fun e w' => e = .returned (sm 1 (0) (0) (1) (2) (0) false false (0) (0) false (0) (0)) ∧ Mo w w' := by
  refine w_enter 67 Try.func11 Try.ntmps11 rfl rfl ?_
  have M : Mo w w := Mo.refl _
  refine w_seq ?_
  refine w_reg ?_
  refine wl_box 28 (.tmp 0) (.agg #[.int .i64 (K), .bool vb, .int .u64 (l0 (vn)), .int .u64 (l1 (vn)), .int .u64 (l2 (vn)), .int .u64 (l3 (vn)), .int .i64 (vs), .bool fl, .string tx, .int .i64 (er)]) (#[.int .i64 (K), .bool vb, .int .u64 (l0 (vn)), .int .u64 (l1 (vn)), .int .u64 (l2 (vn)), .int .u64 (l3 (vn)), .int .i64 (vs), .bool fl, .string tx, .int .i64 (er)]) rfl rfl (fun _ => by kernel_rfl) rfl ?_
  intro k1 w1 hk hz hq Q1
  have N_k1 : w.heap.size ≤ k1 := by have := M.size; omega
  replace M := M.trans hq
  clear hk hz hq
  refine wl_alloc 33 #[.int .i64 0, .int .i64 0, .int .i64 0, .int .i64 0, .int .i64 0, .int .u64 0, .int .u64 0, .int .u64 0, .int .u64 0, .int .u64 0, .bool false, .bool false, .int .u64 0, .int .u64 0, .int .u64 0, .int .u64 0, .int .i64 0, .bool false, .int .u64 0, .int .u64 0, .int .u64 0, .int .u64 0, .int .i64 0] rfl (fun _ => by kernel_rfl) rfl ?_
  intro k2 w2 hk hz hq Q2
  have ne_k1_k2 : k1 ≠ k2 := by have := Q1.lt; omega
  have N_k2 : w.heap.size ≤ k2 := by have := M.size; omega
  replace Q1 := Q1.mo hq
  replace M := M.trans hq
  clear hk hz hq
  refine w_nil ?_
  refine xn_then ?_
  refine w_seq ?_
  refine w_reg ?_
  refine wl_build 33 [(0, (.const (.int .i64 (1))))] [(0, .int .i64 (1))] (.agg #[.int .i64 (1), .int .i64 0, .int .i64 0, .int .i64 0, .int .i64 0, .int .u64 0, .int .u64 0, .int .u64 0, .int .u64 0, .int .u64 0, .bool false, .bool false, .int .u64 0, .int .u64 0, .int .u64 0, .int .u64 0, .int .i64 0, .bool false, .int .u64 0, .int .u64 0, .int .u64 0, .int .u64 0, .int .i64 0]) rfl rfl (by kernel_rfl) rfl ?_
  refine wl_alloc 33 #[.int .i64 0, .int .i64 0, .int .i64 0, .int .i64 0, .int .i64 0, .int .u64 0, .int .u64 0, .int .u64 0, .int .u64 0, .int .u64 0, .bool false, .bool false, .int .u64 0, .int .u64 0, .int .u64 0, .int .u64 0, .int .i64 0, .bool false, .int .u64 0, .int .u64 0, .int .u64 0, .int .u64 0, .int .i64 0] rfl (fun _ => by kernel_rfl) rfl ?_
  intro k3 w3 hk hz hq Q3
  have ne_k1_k3 : k1 ≠ k3 := by have := Q1.lt; omega
  have ne_k2_k3 : k2 ≠ k3 := by have := Q2.lt; omega
  have N_k3 : w.heap.size ≤ k3 := by have := M.size; omega
  replace Q1 := Q1.mo hq
  replace Q2 := Q2.mo hq
  replace M := M.trans hq
  clear hk hz hq
  refine wl_st 33 (.tmp 5) (.tmp 6) k3 0 #[.int .i64 (1), .int .i64 0, .int .i64 0, .int .i64 0, .int .i64 0, .int .u64 0, .int .u64 0, .int .u64 0, .int .u64 0, .int .u64 0, .bool false, .bool false, .int .u64 0, .int .u64 0, .int .u64 0, .int .u64 0, .int .i64 0, .bool false, .int .u64 0, .int .u64 0, .int .u64 0, .int .u64 0, .int .i64 0] [.int .i64 0, .int .i64 0, .int .i64 0, .int .i64 0, .int .i64 0, .int .u64 0, .int .u64 0, .int .u64 0, .int .u64 0, .int .u64 0, .bool false, .bool false, .int .u64 0, .int .u64 0, .int .u64 0, .int .u64 0, .int .i64 0, .bool false, .int .u64 0, .int .u64 0, .int .u64 0, .int .u64 0, .int .i64 0] [.int .i64 (1), .int .i64 0, .int .i64 0, .int .i64 0, .int .i64 0, .int .u64 0, .int .u64 0, .int .u64 0, .int .u64 0, .int .u64 0, .bool false, .bool false, .int .u64 0, .int .u64 0, .int .u64 0, .int .u64 0, .int .i64 0, .bool false, .int .u64 0, .int .u64 0, .int .u64 0, .int .u64 0, .int .i64 0] Q3 rfl rfl rfl rfl rfl sz33 rfl rfl rfl ?_
  intro w4 hS Qn
  replace Q3 := Qn
  clear Qn
  replace Q1 := hS.other _ _ ne_k1_k3 Q1
  replace Q2 := hS.other _ _ ne_k2_k3 Q2
  replace M := hS.mo _ N_k3 M
  clear hS
  refine w_nil ?_
  refine xn_then ?_
  refine w_seq ?_
  refine w_block ?_
  refine w_seq ?_
  refine w_reg ?_
  refine wl_un (fun v => Instr.fieldAt 28 v 0) (.tmp 2) (pt k1 0) (pt k1 0) (fun _ => rfl) rfl (by kernel_rfl) rfl ?_
  refine wl_load 3 (.tmp 10) (pt k1 0) (.int .i64 (K)) rfl rfl (run_one Q1 3 0 rfl Try.underlying3 rfl) rfl ?_
  refine wl_bin (fun x y => do eqGuard .eql 3 (.tmp 11) (.const (.int .i64 (0))) x y; binOp .eql 3 x y) (.tmp 11) (.const (.int .i64 (0))) (.int .i64 (K)) (.int .i64 (0)) (.bool false) (fun _ => rfl) rfl rfl (eqI q0 _ _ _) rfl ?_
  refine wl_mv (.tmp 12) (.bool false) (fun _ => rfl) rfl rfl ?_
  refine w_nil ?_
  refine xn_then ?_
  refine w_condF rfl ?_
  refine w_seq ?_
  refine w_reg ?_
  refine wl_un (fun v => Instr.fieldAt 28 v 0) (.tmp 2) (pt k1 0) (pt k1 0) (fun _ => rfl) rfl (by kernel_rfl) rfl ?_
  refine wl_load 3 (.tmp 15) (pt k1 0) (.int .i64 (K)) rfl rfl (run_one Q1 3 0 rfl Try.underlying3 rfl) rfl ?_
  refine wl_bin (fun x y => do eqGuard .eql 3 (.tmp 16) (.const (.int .i64 (4))) x y; binOp .eql 3 x y) (.tmp 16) (.const (.int .i64 (4))) (.int .i64 (K)) (.int .i64 (4)) (.bool false) (fun _ => rfl) rfl rfl (eqI q4 _ _ _) rfl ?_
  refine wl_mv (.tmp 17) (.bool false) (fun _ => rfl) rfl rfl ?_
  refine wl_skip rfl ?_
  refine wl_skip rfl ?_
  refine wl_skip rfl ?_
  refine wl_pick (.tmp 18) (.tmp 21) (.const (.bool false)) false (.bool false) (fun _ => rfl) rfl rfl rfl ?_
  refine wl_mv (.tmp 22) (.bool false) (fun _ => rfl) rfl rfl ?_
  refine w_nil ?_
  refine xn_then ?_
  refine w_condF rfl ?_
  refine w_seq ?_
  refine w_reg ?_
  refine wl_un (fun v => Instr.fieldAt 28 v 0) (.tmp 2) (pt k1 0) (pt k1 0) (fun _ => rfl) rfl (by kernel_rfl) rfl ?_
  refine wl_load 3 (.tmp 28) (pt k1 0) (.int .i64 (K)) rfl rfl (run_one Q1 3 0 rfl Try.underlying3 rfl) rfl ?_
  refine wl_bin (fun x y => do eqGuard .eql 3 (.tmp 29) (.const (.int .i64 (1))) x y; binOp .eql 3 x y) (.tmp 29) (.const (.int .i64 (1))) (.int .i64 (K)) (.int .i64 (1)) (.bool true) (fun _ => rfl) rfl rfl (eqI q1 _ _ _) rfl ?_
  refine wl_mv (.tmp 30) (.bool true) (fun _ => rfl) rfl rfl ?_
  refine wl_un (fun v => Instr.fieldAt 28 v 1) (.tmp 2) (pt k1 0) (pt k1 1) (fun _ => rfl) rfl (by kernel_rfl) rfl ?_
  refine wl_load 26 (.tmp 32) (pt k1 1) (.agg #[.bool vb, .int .u64 (l0 (vn)), .int .u64 (l1 (vn)), .int .u64 (l2 (vn)), .int .u64 (l3 (vn)), .int .i64 (vs)]) rfl rfl (run_row Q1 26 1 6 [.bool vb, .int .u64 (l0 (vn)), .int .u64 (l1 (vn)), .int .u64 (l2 (vn)), .int .u64 (l3 (vn)), .int .i64 (vs)] rfl Try.underlying26 rfl sz26) rfl ?_
  refine wl_call 27 [(.tmp 33)] _ [.agg #[.bool vb, .int .u64 (l0 (vn)), .int .u64 (l1 (vn)), .int .u64 (l2 (vn)), .int .u64 (l3 (vn)), .int .i64 (vs)]] (.int .i64 (ck vb vn vs)) rfl rfl (fun _ _ => by kernel_rfl) (rcheck_n vb vn vs _ hn0 hn) rfl ?_
  intro w5 hq
  replace Q1 := Q1.mo hq
  replace Q2 := Q2.mo hq
  replace Q3 := Q3.mo hq
  replace M := M.trans hq
  clear hq
  refine wl_bin (fun x y => do eqGuard .eql 40 (.tmp 34) (.const (.int .i64 (0))) x y; binOp .eql 40 x y) (.tmp 34) (.const (.int .i64 (0))) (.int .i64 (ck vb vn vs)) (.int .i64 (0)) (.bool false) (fun _ => rfl) rfl rfl (eqE qc _ _ _) rfl ?_
  refine wl_pick (.tmp 31) (.tmp 35) (.const (.bool false)) true (.bool false) (fun _ => rfl) rfl rfl rfl ?_
  refine wl_mv (.tmp 36) (.bool false) (fun _ => rfl) rfl rfl ?_
  refine wl_skip rfl ?_
  refine wl_skip rfl ?_
  refine wl_skip rfl ?_
  refine wl_skip rfl ?_
  refine wl_skip rfl ?_
  refine wl_pick (.tmp 37) (.tmp 42) (.const (.bool false)) false (.bool false) (fun _ => rfl) rfl rfl rfl ?_
  refine wl_mv (.tmp 43) (.bool false) (fun _ => rfl) rfl rfl ?_
  refine w_nil ?_
  refine xn_then ?_
  refine w_condF rfl ?_
  refine w_seq ?_
  refine w_reg ?_
  refine wl_un (fun v => Instr.fieldAt 28 v 0) (.tmp 2) (pt k1 0) (pt k1 0) (fun _ => rfl) rfl (by kernel_rfl) rfl ?_
  refine wl_load 3 (.tmp 57) (pt k1 0) (.int .i64 (K)) rfl rfl (run_one Q1 3 0 rfl Try.underlying3 rfl) rfl ?_
  refine wl_bin (fun x y => do eqGuard .eql 3 (.tmp 58) (.const (.int .i64 (2))) x y; binOp .eql 3 x y) (.tmp 58) (.const (.int .i64 (2))) (.int .i64 (K)) (.int .i64 (2)) (.bool false) (fun _ => rfl) rfl rfl (eqI q2 _ _ _) rfl ?_
  refine wl_mv (.tmp 59) (.bool false) (fun _ => rfl) rfl rfl ?_
  refine wl_un (fun v => Instr.fieldAt 28 v 0) (.tmp 2) (pt k1 0) (pt k1 0) (fun _ => rfl) rfl (by kernel_rfl) rfl ?_
  refine wl_load 3 (.tmp 61) (pt k1 0) (.int .i64 (K)) rfl rfl (run_one Q1 3 0 rfl Try.underlying3 rfl) rfl ?_
  refine wl_bin (fun x y => do eqGuard .eql 3 (.tmp 62) (.const (.int .i64 (3))) x y; binOp .eql 3 x y) (.tmp 62) (.const (.int .i64 (3))) (.int .i64 (K)) (.int .i64 (3)) (.bool false) (fun _ => rfl) rfl rfl (eqI q3 _ _ _) rfl ?_
  refine wl_pick (.tmp 60) (.const (.bool true)) (.tmp 63) false (.bool false) (fun _ => rfl) rfl rfl rfl ?_
  refine wl_mv (.tmp 64) (.bool false) (fun _ => rfl) rfl rfl ?_
  refine w_nil ?_
  refine xn_then ?_
  refine w_condF rfl ?_
  refine w_reg ?_
  refine wl_un (fun v => Instr.fieldAt 33 v 3) (.tmp 5) (pt k3 0) (pt k3 3) (fun _ => rfl) rfl (by kernel_rfl) rfl ?_
  refine wl_st1 3 (.tmp 7) (.const (.int .i64 (1))) k3 3 (.int .i64 (1)) [.int .i64 (1), .int .i64 0, .int .i64 0, .int .i64 0, .int .i64 0, .int .u64 0, .int .u64 0, .int .u64 0, .int .u64 0, .int .u64 0, .bool false, .bool false, .int .u64 0, .int .u64 0, .int .u64 0, .int .u64 0, .int .i64 0, .bool false, .int .u64 0, .int .u64 0, .int .u64 0, .int .u64 0, .int .i64 0] [.int .i64 (1), .int .i64 0, .int .i64 0, .int .i64 (1), .int .i64 0, .int .u64 0, .int .u64 0, .int .u64 0, .int .u64 0, .int .u64 0, .bool false, .bool false, .int .u64 0, .int .u64 0, .int .u64 0, .int .u64 0, .int .i64 0, .bool false, .int .u64 0, .int .u64 0, .int .u64 0, .int .u64 0, .int .i64 0] Q3 rfl rfl rfl rfl rfl sz3 rfl rfl rfl rfl ?_
  intro w6 hS Qn
  replace Q3 := Qn
  clear Qn
  replace Q1 := hS.other _ _ ne_k1_k3 Q1
  replace Q2 := hS.other _ _ ne_k2_k3 Q2
  replace M := hS.mo _ N_k3 M
  clear hS
  refine wl_un (fun v => Instr.fieldAt 33 v 4) (.tmp 5) (pt k3 0) (pt k3 4) (fun _ => rfl) rfl (by kernel_rfl) rfl ?_
  refine wl_st1 3 (.tmp 8) (.const (.int .i64 (2))) k3 4 (.int .i64 (2)) [.int .i64 (1), .int .i64 0, .int .i64 0, .int .i64 (1), .int .i64 0, .int .u64 0, .int .u64 0, .int .u64 0, .int .u64 0, .int .u64 0, .bool false, .bool false, .int .u64 0, .int .u64 0, .int .u64 0, .int .u64 0, .int .i64 0, .bool false, .int .u64 0, .int .u64 0, .int .u64 0, .int .u64 0, .int .i64 0] [.int .i64 (1), .int .i64 0, .int .i64 0, .int .i64 (1), .int .i64 (2), .int .u64 0, .int .u64 0, .int .u64 0, .int .u64 0, .int .u64 0, .bool false, .bool false, .int .u64 0, .int .u64 0, .int .u64 0, .int .u64 0, .int .i64 0, .bool false, .int .u64 0, .int .u64 0, .int .u64 0, .int .u64 0, .int .i64 0] Q3 rfl rfl rfl rfl rfl sz3 rfl rfl rfl rfl ?_
  intro w7 hS Qn
  replace Q3 := Qn
  clear Qn
  replace Q1 := hS.other _ _ ne_k1_k3 Q1
  replace Q2 := hS.other _ _ ne_k2_k3 Q2
  replace M := hS.mo _ N_k3 M
  clear hS
  refine w_nil ?_
  refine xn_blk ?_
  refine xn_then ?_
  refine w_seq ?_
  refine w_reg ?_
  refine wl_load 33 (.tmp 5) (pt k3 0) (.agg #[.int .i64 (1), .int .i64 0, .int .i64 0, .int .i64 (1), .int .i64 (2), .int .u64 0, .int .u64 0, .int .u64 0, .int .u64 0, .int .u64 0, .bool false, .bool false, .int .u64 0, .int .u64 0, .int .u64 0, .int .u64 0, .int .i64 0, .bool false, .int .u64 0, .int .u64 0, .int .u64 0, .int .u64 0, .int .i64 0]) rfl rfl (run_row Q3 33 0 23 [.int .i64 (1), .int .i64 0, .int .i64 0, .int .i64 (1), .int .i64 (2), .int .u64 0, .int .u64 0, .int .u64 0, .int .u64 0, .int .u64 0, .bool false, .bool false, .int .u64 0, .int .u64 0, .int .u64 0, .int .u64 0, .int .i64 0, .bool false, .int .u64 0, .int .u64 0, .int .u64 0, .int .u64 0, .int .i64 0] rfl Try.underlying33 rfl sz33) rfl ?_
  refine wl_st 33 (.tmp 4) (.tmp 66) k2 0 #[.int .i64 (1), .int .i64 0, .int .i64 0, .int .i64 (1), .int .i64 (2), .int .u64 0, .int .u64 0, .int .u64 0, .int .u64 0, .int .u64 0, .bool false, .bool false, .int .u64 0, .int .u64 0, .int .u64 0, .int .u64 0, .int .i64 0, .bool false, .int .u64 0, .int .u64 0, .int .u64 0, .int .u64 0, .int .i64 0] [.int .i64 0, .int .i64 0, .int .i64 0, .int .i64 0, .int .i64 0, .int .u64 0, .int .u64 0, .int .u64 0, .int .u64 0, .int .u64 0, .bool false, .bool false, .int .u64 0, .int .u64 0, .int .u64 0, .int .u64 0, .int .i64 0, .bool false, .int .u64 0, .int .u64 0, .int .u64 0, .int .u64 0, .int .i64 0] [.int .i64 (1), .int .i64 0, .int .i64 0, .int .i64 (1), .int .i64 (2), .int .u64 0, .int .u64 0, .int .u64 0, .int .u64 0, .int .u64 0, .bool false, .bool false, .int .u64 0, .int .u64 0, .int .u64 0, .int .u64 0, .int .i64 0, .bool false, .int .u64 0, .int .u64 0, .int .u64 0, .int .u64 0, .int .i64 0] Q2 rfl rfl rfl rfl rfl sz33 rfl rfl rfl ?_
  intro w8 hS Qn
  replace Q2 := Qn
  clear Qn
  replace Q1 := hS.other _ _ ne_k1_k2 Q1
  replace Q3 := hS.other _ _ ne_k2_k3.symm Q3
  replace M := hS.mo _ N_k2 M
  clear hS
  refine w_nil ?_
  refine xn_then ?_
  refine w_ret ?_
  exact w_ret1 _ (.agg #[.int .i64 (1), .int .i64 0, .int .i64 0, .int .i64 (1), .int .i64 (2), .int .u64 0, .int .u64 0, .int .u64 0, .int .u64 0, .int .u64 0, .bool false, .bool false, .int .u64 0, .int .u64 0, .int .u64 0, .int .u64 0, .int .i64 0, .bool false, .int .u64 0, .int .u64 0, .int .u64 0, .int .u64 0, .int .i64 0]) rfl ⟨k2, rfl, (run_row Q2 33 0 23 [.int .i64 (1), .int .i64 0, .int .i64 0, .int .i64 (1), .int .i64 (2), .int .u64 0, .int .u64 0, .int .u64 0, .int .u64 0, .int .u64 0, .bool false, .bool false, .int .u64 0, .int .u64 0, .int .u64 0, .int .u64 0, .int .i64 0, .bool false, .int .u64 0, .int .u64 0, .int .u64 0, .int .u64 0, .int .i64 0] rfl Try.underlying33 rfl sz33)⟩ ⟨rfl, M⟩
theorem rof_h (K : Int) (vb : Bool) (vn vs : Int) (fl : Bool) (tx : ByteArray) (er sc9 : Int) (q0 : decide (K = 0) = false) (q4 : decide (K = 4) = false) (q1 : decide (K = 1) = false) (q2 : decide (K = 2) = true) : Calls Try.prog 11 #[vl10 K vb vn vs fl tx er, .int .i64 sc9] w fun e w' => e = .returned (sm 1 (1) (0) (0) (0) (0) false false (0) (0) false (0) (0)) ∧ Mo w w' := by
  refine w_enter 67 Try.func11 Try.ntmps11 rfl rfl ?_
  have M : Mo w w := Mo.refl _
  refine w_seq ?_
  refine w_reg ?_
  refine wl_box 28 (.tmp 0) (.agg #[.int .i64 (K), .bool vb, .int .u64 (l0 (vn)), .int .u64 (l1 (vn)), .int .u64 (l2 (vn)), .int .u64 (l3 (vn)), .int .i64 (vs), .bool fl, .string tx, .int .i64 (er)]) (#[.int .i64 (K), .bool vb, .int .u64 (l0 (vn)), .int .u64 (l1 (vn)), .int .u64 (l2 (vn)), .int .u64 (l3 (vn)), .int .i64 (vs), .bool fl, .string tx, .int .i64 (er)]) rfl rfl (fun _ => by kernel_rfl) rfl ?_
  intro k1 w1 hk hz hq Q1
  have N_k1 : w.heap.size ≤ k1 := by have := M.size; omega
  replace M := M.trans hq
  clear hk hz hq
  refine wl_alloc 33 #[.int .i64 0, .int .i64 0, .int .i64 0, .int .i64 0, .int .i64 0, .int .u64 0, .int .u64 0, .int .u64 0, .int .u64 0, .int .u64 0, .bool false, .bool false, .int .u64 0, .int .u64 0, .int .u64 0, .int .u64 0, .int .i64 0, .bool false, .int .u64 0, .int .u64 0, .int .u64 0, .int .u64 0, .int .i64 0] rfl (fun _ => by kernel_rfl) rfl ?_
  intro k2 w2 hk hz hq Q2
  have ne_k1_k2 : k1 ≠ k2 := by have := Q1.lt; omega
  have N_k2 : w.heap.size ≤ k2 := by have := M.size; omega
  replace Q1 := Q1.mo hq
  replace M := M.trans hq
  clear hk hz hq
  refine w_nil ?_
  refine xn_then ?_
  refine w_seq ?_
  refine w_reg ?_
  refine wl_build 33 [(0, (.const (.int .i64 (1))))] [(0, .int .i64 (1))] (.agg #[.int .i64 (1), .int .i64 0, .int .i64 0, .int .i64 0, .int .i64 0, .int .u64 0, .int .u64 0, .int .u64 0, .int .u64 0, .int .u64 0, .bool false, .bool false, .int .u64 0, .int .u64 0, .int .u64 0, .int .u64 0, .int .i64 0, .bool false, .int .u64 0, .int .u64 0, .int .u64 0, .int .u64 0, .int .i64 0]) rfl rfl (by kernel_rfl) rfl ?_
  refine wl_alloc 33 #[.int .i64 0, .int .i64 0, .int .i64 0, .int .i64 0, .int .i64 0, .int .u64 0, .int .u64 0, .int .u64 0, .int .u64 0, .int .u64 0, .bool false, .bool false, .int .u64 0, .int .u64 0, .int .u64 0, .int .u64 0, .int .i64 0, .bool false, .int .u64 0, .int .u64 0, .int .u64 0, .int .u64 0, .int .i64 0] rfl (fun _ => by kernel_rfl) rfl ?_
  intro k3 w3 hk hz hq Q3
  have ne_k1_k3 : k1 ≠ k3 := by have := Q1.lt; omega
  have ne_k2_k3 : k2 ≠ k3 := by have := Q2.lt; omega
  have N_k3 : w.heap.size ≤ k3 := by have := M.size; omega
  replace Q1 := Q1.mo hq
  replace Q2 := Q2.mo hq
  replace M := M.trans hq
  clear hk hz hq
  refine wl_st 33 (.tmp 5) (.tmp 6) k3 0 #[.int .i64 (1), .int .i64 0, .int .i64 0, .int .i64 0, .int .i64 0, .int .u64 0, .int .u64 0, .int .u64 0, .int .u64 0, .int .u64 0, .bool false, .bool false, .int .u64 0, .int .u64 0, .int .u64 0, .int .u64 0, .int .i64 0, .bool false, .int .u64 0, .int .u64 0, .int .u64 0, .int .u64 0, .int .i64 0] [.int .i64 0, .int .i64 0, .int .i64 0, .int .i64 0, .int .i64 0, .int .u64 0, .int .u64 0, .int .u64 0, .int .u64 0, .int .u64 0, .bool false, .bool false, .int .u64 0, .int .u64 0, .int .u64 0, .int .u64 0, .int .i64 0, .bool false, .int .u64 0, .int .u64 0, .int .u64 0, .int .u64 0, .int .i64 0] [.int .i64 (1), .int .i64 0, .int .i64 0, .int .i64 0, .int .i64 0, .int .u64 0, .int .u64 0, .int .u64 0, .int .u64 0, .int .u64 0, .bool false, .bool false, .int .u64 0, .int .u64 0, .int .u64 0, .int .u64 0, .int .i64 0, .bool false, .int .u64 0, .int .u64 0, .int .u64 0, .int .u64 0, .int .i64 0] Q3 rfl rfl rfl rfl rfl sz33 rfl rfl rfl ?_
  intro w4 hS Qn
  replace Q3 := Qn
  clear Qn
  replace Q1 := hS.other _ _ ne_k1_k3 Q1
  replace Q2 := hS.other _ _ ne_k2_k3 Q2
  replace M := hS.mo _ N_k3 M
  clear hS
  refine w_nil ?_
  refine xn_then ?_
  refine w_seq ?_
  refine w_block ?_
  refine w_seq ?_
  refine w_reg ?_
  refine wl_un (fun v => Instr.fieldAt 28 v 0) (.tmp 2) (pt k1 0) (pt k1 0) (fun _ => rfl) rfl (by kernel_rfl) rfl ?_
  refine wl_load 3 (.tmp 10) (pt k1 0) (.int .i64 (K)) rfl rfl (run_one Q1 3 0 rfl Try.underlying3 rfl) rfl ?_
  refine wl_bin (fun x y => do eqGuard .eql 3 (.tmp 11) (.const (.int .i64 (0))) x y; binOp .eql 3 x y) (.tmp 11) (.const (.int .i64 (0))) (.int .i64 (K)) (.int .i64 (0)) (.bool false) (fun _ => rfl) rfl rfl (eqI q0 _ _ _) rfl ?_
  refine wl_mv (.tmp 12) (.bool false) (fun _ => rfl) rfl rfl ?_
  refine w_nil ?_
  refine xn_then ?_
  refine w_condF rfl ?_
  refine w_seq ?_
  refine w_reg ?_
  refine wl_un (fun v => Instr.fieldAt 28 v 0) (.tmp 2) (pt k1 0) (pt k1 0) (fun _ => rfl) rfl (by kernel_rfl) rfl ?_
  refine wl_load 3 (.tmp 15) (pt k1 0) (.int .i64 (K)) rfl rfl (run_one Q1 3 0 rfl Try.underlying3 rfl) rfl ?_
  refine wl_bin (fun x y => do eqGuard .eql 3 (.tmp 16) (.const (.int .i64 (4))) x y; binOp .eql 3 x y) (.tmp 16) (.const (.int .i64 (4))) (.int .i64 (K)) (.int .i64 (4)) (.bool false) (fun _ => rfl) rfl rfl (eqI q4 _ _ _) rfl ?_
  refine wl_mv (.tmp 17) (.bool false) (fun _ => rfl) rfl rfl ?_
  refine wl_skip rfl ?_
  refine wl_skip rfl ?_
  refine wl_skip rfl ?_
  refine wl_pick (.tmp 18) (.tmp 21) (.const (.bool false)) false (.bool false) (fun _ => rfl) rfl rfl rfl ?_
  refine wl_mv (.tmp 22) (.bool false) (fun _ => rfl) rfl rfl ?_
  refine w_nil ?_
  refine xn_then ?_
  refine w_condF rfl ?_
  refine w_seq ?_
  refine w_reg ?_
  refine wl_un (fun v => Instr.fieldAt 28 v 0) (.tmp 2) (pt k1 0) (pt k1 0) (fun _ => rfl) rfl (by kernel_rfl) rfl ?_
  refine wl_load 3 (.tmp 28) (pt k1 0) (.int .i64 (K)) rfl rfl (run_one Q1 3 0 rfl Try.underlying3 rfl) rfl ?_
  refine wl_bin (fun x y => do eqGuard .eql 3 (.tmp 29) (.const (.int .i64 (1))) x y; binOp .eql 3 x y) (.tmp 29) (.const (.int .i64 (1))) (.int .i64 (K)) (.int .i64 (1)) (.bool false) (fun _ => rfl) rfl rfl (eqI q1 _ _ _) rfl ?_
  refine wl_mv (.tmp 30) (.bool false) (fun _ => rfl) rfl rfl ?_
  refine wl_skip rfl ?_
  refine wl_skip rfl ?_
  refine wl_skip rfl ?_
  refine wl_skip rfl ?_
  refine wl_pick (.tmp 31) (.tmp 35) (.const (.bool false)) false (.bool false) (fun _ => rfl) rfl rfl rfl ?_
  refine wl_mv (.tmp 36) (.bool false) (fun _ => rfl) rfl rfl ?_
  refine wl_skip rfl ?_
  refine wl_skip rfl ?_
  refine wl_skip rfl ?_
  refine wl_skip rfl ?_
  refine wl_skip rfl ?_
  refine wl_pick (.tmp 37) (.tmp 42) (.const (.bool false)) false (.bool false) (fun _ => rfl) rfl rfl rfl ?_
  refine wl_mv (.tmp 43) (.bool false) (fun _ => rfl) rfl rfl ?_
  refine w_nil ?_
  refine xn_then ?_
  refine w_condF rfl ?_
  refine w_seq ?_
  refine w_reg ?_
  refine wl_un (fun v => Instr.fieldAt 28 v 0) (.tmp 2) (pt k1 0) (pt k1 0) (fun _ => rfl) rfl (by kernel_rfl) rfl ?_
  refine wl_load 3 (.tmp 57) (pt k1 0) (.int .i64 (K)) rfl rfl (run_one Q1 3 0 rfl Try.underlying3 rfl) rfl ?_
  refine wl_bin (fun x y => do eqGuard .eql 3 (.tmp 58) (.const (.int .i64 (2))) x y; binOp .eql 3 x y) (.tmp 58) (.const (.int .i64 (2))) (.int .i64 (K)) (.int .i64 (2)) (.bool true) (fun _ => rfl) rfl rfl (eqI q2 _ _ _) rfl ?_
  refine wl_mv (.tmp 59) (.bool true) (fun _ => rfl) rfl rfl ?_
  refine wl_skip rfl ?_
  refine wl_skip rfl ?_
  refine wl_skip rfl ?_
  refine wl_pick (.tmp 60) (.const (.bool true)) (.tmp 63) true (.bool true) (fun _ => rfl) rfl rfl rfl ?_
  refine wl_mv (.tmp 64) (.bool true) (fun _ => rfl) rfl rfl ?_
  refine w_nil ?_
  refine xn_then ?_
  refine w_condT rfl ?_
  refine w_reg ?_
  refine wl_un (fun v => Instr.fieldAt 33 v 1) (.tmp 5) (pt k3 0) (pt k3 1) (fun _ => rfl) rfl (by kernel_rfl) rfl ?_
  refine wl_st1 3 (.tmp 65) (.const (.int .i64 (1))) k3 1 (.int .i64 (1)) [.int .i64 (1), .int .i64 0, .int .i64 0, .int .i64 0, .int .i64 0, .int .u64 0, .int .u64 0, .int .u64 0, .int .u64 0, .int .u64 0, .bool false, .bool false, .int .u64 0, .int .u64 0, .int .u64 0, .int .u64 0, .int .i64 0, .bool false, .int .u64 0, .int .u64 0, .int .u64 0, .int .u64 0, .int .i64 0] [.int .i64 (1), .int .i64 (1), .int .i64 0, .int .i64 0, .int .i64 0, .int .u64 0, .int .u64 0, .int .u64 0, .int .u64 0, .int .u64 0, .bool false, .bool false, .int .u64 0, .int .u64 0, .int .u64 0, .int .u64 0, .int .i64 0, .bool false, .int .u64 0, .int .u64 0, .int .u64 0, .int .u64 0, .int .i64 0] Q3 rfl rfl rfl rfl rfl sz3 rfl rfl rfl rfl ?_
  intro w5 hS Qn
  replace Q3 := Qn
  clear Qn
  replace Q1 := hS.other _ _ ne_k1_k3 Q1
  replace Q2 := hS.other _ _ ne_k2_k3 Q2
  replace M := hS.mo _ N_k3 M
  clear hS
  refine w_nil ?_
  refine xn_blk ?_
  refine xn_then ?_
  refine w_seq ?_
  refine w_reg ?_
  refine wl_load 33 (.tmp 5) (pt k3 0) (.agg #[.int .i64 (1), .int .i64 (1), .int .i64 0, .int .i64 0, .int .i64 0, .int .u64 0, .int .u64 0, .int .u64 0, .int .u64 0, .int .u64 0, .bool false, .bool false, .int .u64 0, .int .u64 0, .int .u64 0, .int .u64 0, .int .i64 0, .bool false, .int .u64 0, .int .u64 0, .int .u64 0, .int .u64 0, .int .i64 0]) rfl rfl (run_row Q3 33 0 23 [.int .i64 (1), .int .i64 (1), .int .i64 0, .int .i64 0, .int .i64 0, .int .u64 0, .int .u64 0, .int .u64 0, .int .u64 0, .int .u64 0, .bool false, .bool false, .int .u64 0, .int .u64 0, .int .u64 0, .int .u64 0, .int .i64 0, .bool false, .int .u64 0, .int .u64 0, .int .u64 0, .int .u64 0, .int .i64 0] rfl Try.underlying33 rfl sz33) rfl ?_
  refine wl_st 33 (.tmp 4) (.tmp 66) k2 0 #[.int .i64 (1), .int .i64 (1), .int .i64 0, .int .i64 0, .int .i64 0, .int .u64 0, .int .u64 0, .int .u64 0, .int .u64 0, .int .u64 0, .bool false, .bool false, .int .u64 0, .int .u64 0, .int .u64 0, .int .u64 0, .int .i64 0, .bool false, .int .u64 0, .int .u64 0, .int .u64 0, .int .u64 0, .int .i64 0] [.int .i64 0, .int .i64 0, .int .i64 0, .int .i64 0, .int .i64 0, .int .u64 0, .int .u64 0, .int .u64 0, .int .u64 0, .int .u64 0, .bool false, .bool false, .int .u64 0, .int .u64 0, .int .u64 0, .int .u64 0, .int .i64 0, .bool false, .int .u64 0, .int .u64 0, .int .u64 0, .int .u64 0, .int .i64 0] [.int .i64 (1), .int .i64 (1), .int .i64 0, .int .i64 0, .int .i64 0, .int .u64 0, .int .u64 0, .int .u64 0, .int .u64 0, .int .u64 0, .bool false, .bool false, .int .u64 0, .int .u64 0, .int .u64 0, .int .u64 0, .int .i64 0, .bool false, .int .u64 0, .int .u64 0, .int .u64 0, .int .u64 0, .int .i64 0] Q2 rfl rfl rfl rfl rfl sz33 rfl rfl rfl ?_
  intro w6 hS Qn
  replace Q2 := Qn
  clear Qn
  replace Q1 := hS.other _ _ ne_k1_k2 Q1
  replace Q3 := hS.other _ _ ne_k2_k3.symm Q3
  replace M := hS.mo _ N_k2 M
  clear hS
  refine w_nil ?_
  refine xn_then ?_
  refine w_ret ?_
  exact w_ret1 _ (.agg #[.int .i64 (1), .int .i64 (1), .int .i64 0, .int .i64 0, .int .i64 0, .int .u64 0, .int .u64 0, .int .u64 0, .int .u64 0, .int .u64 0, .bool false, .bool false, .int .u64 0, .int .u64 0, .int .u64 0, .int .u64 0, .int .i64 0, .bool false, .int .u64 0, .int .u64 0, .int .u64 0, .int .u64 0, .int .i64 0]) rfl ⟨k2, rfl, (run_row Q2 33 0 23 [.int .i64 (1), .int .i64 (1), .int .i64 0, .int .i64 0, .int .i64 0, .int .u64 0, .int .u64 0, .int .u64 0, .int .u64 0, .int .u64 0, .bool false, .bool false, .int .u64 0, .int .u64 0, .int .u64 0, .int .u64 0, .int .i64 0, .bool false, .int .u64 0, .int .u64 0, .int .u64 0, .int .u64 0, .int .i64 0] rfl Try.underlying33 rfl sz33)⟩ ⟨rfl, M⟩
theorem rof_i (K : Int) (vb : Bool) (vn vs : Int) (fl : Bool) (tx : ByteArray) (er sc9 : Int) (q0 : decide (K = 0) = false) (q4 : decide (K = 4) = false) (q1 : decide (K = 1) = false) (q2 : decide (K = 2) = false) (q3 : decide (K = 3) = true) : Calls Try.prog 11 #[vl10 K vb vn vs fl tx er, .int .i64 sc9] w fun e w' => e = .returned (sm 1 (1) (0) (0) (0) (0) false false (0) (0) false (0) (0)) ∧ Mo w w' := by
  refine w_enter 67 Try.func11 Try.ntmps11 rfl rfl ?_
  have M : Mo w w := Mo.refl _
  refine w_seq ?_
  refine w_reg ?_
  refine wl_box 28 (.tmp 0) (.agg #[.int .i64 (K), .bool vb, .int .u64 (l0 (vn)), .int .u64 (l1 (vn)), .int .u64 (l2 (vn)), .int .u64 (l3 (vn)), .int .i64 (vs), .bool fl, .string tx, .int .i64 (er)]) (#[.int .i64 (K), .bool vb, .int .u64 (l0 (vn)), .int .u64 (l1 (vn)), .int .u64 (l2 (vn)), .int .u64 (l3 (vn)), .int .i64 (vs), .bool fl, .string tx, .int .i64 (er)]) rfl rfl (fun _ => by kernel_rfl) rfl ?_
  intro k1 w1 hk hz hq Q1
  have N_k1 : w.heap.size ≤ k1 := by have := M.size; omega
  replace M := M.trans hq
  clear hk hz hq
  refine wl_alloc 33 #[.int .i64 0, .int .i64 0, .int .i64 0, .int .i64 0, .int .i64 0, .int .u64 0, .int .u64 0, .int .u64 0, .int .u64 0, .int .u64 0, .bool false, .bool false, .int .u64 0, .int .u64 0, .int .u64 0, .int .u64 0, .int .i64 0, .bool false, .int .u64 0, .int .u64 0, .int .u64 0, .int .u64 0, .int .i64 0] rfl (fun _ => by kernel_rfl) rfl ?_
  intro k2 w2 hk hz hq Q2
  have ne_k1_k2 : k1 ≠ k2 := by have := Q1.lt; omega
  have N_k2 : w.heap.size ≤ k2 := by have := M.size; omega
  replace Q1 := Q1.mo hq
  replace M := M.trans hq
  clear hk hz hq
  refine w_nil ?_
  refine xn_then ?_
  refine w_seq ?_
  refine w_reg ?_
  refine wl_build 33 [(0, (.const (.int .i64 (1))))] [(0, .int .i64 (1))] (.agg #[.int .i64 (1), .int .i64 0, .int .i64 0, .int .i64 0, .int .i64 0, .int .u64 0, .int .u64 0, .int .u64 0, .int .u64 0, .int .u64 0, .bool false, .bool false, .int .u64 0, .int .u64 0, .int .u64 0, .int .u64 0, .int .i64 0, .bool false, .int .u64 0, .int .u64 0, .int .u64 0, .int .u64 0, .int .i64 0]) rfl rfl (by kernel_rfl) rfl ?_
  refine wl_alloc 33 #[.int .i64 0, .int .i64 0, .int .i64 0, .int .i64 0, .int .i64 0, .int .u64 0, .int .u64 0, .int .u64 0, .int .u64 0, .int .u64 0, .bool false, .bool false, .int .u64 0, .int .u64 0, .int .u64 0, .int .u64 0, .int .i64 0, .bool false, .int .u64 0, .int .u64 0, .int .u64 0, .int .u64 0, .int .i64 0] rfl (fun _ => by kernel_rfl) rfl ?_
  intro k3 w3 hk hz hq Q3
  have ne_k1_k3 : k1 ≠ k3 := by have := Q1.lt; omega
  have ne_k2_k3 : k2 ≠ k3 := by have := Q2.lt; omega
  have N_k3 : w.heap.size ≤ k3 := by have := M.size; omega
  replace Q1 := Q1.mo hq
  replace Q2 := Q2.mo hq
  replace M := M.trans hq
  clear hk hz hq
  refine wl_st 33 (.tmp 5) (.tmp 6) k3 0 #[.int .i64 (1), .int .i64 0, .int .i64 0, .int .i64 0, .int .i64 0, .int .u64 0, .int .u64 0, .int .u64 0, .int .u64 0, .int .u64 0, .bool false, .bool false, .int .u64 0, .int .u64 0, .int .u64 0, .int .u64 0, .int .i64 0, .bool false, .int .u64 0, .int .u64 0, .int .u64 0, .int .u64 0, .int .i64 0] [.int .i64 0, .int .i64 0, .int .i64 0, .int .i64 0, .int .i64 0, .int .u64 0, .int .u64 0, .int .u64 0, .int .u64 0, .int .u64 0, .bool false, .bool false, .int .u64 0, .int .u64 0, .int .u64 0, .int .u64 0, .int .i64 0, .bool false, .int .u64 0, .int .u64 0, .int .u64 0, .int .u64 0, .int .i64 0] [.int .i64 (1), .int .i64 0, .int .i64 0, .int .i64 0, .int .i64 0, .int .u64 0, .int .u64 0, .int .u64 0, .int .u64 0, .int .u64 0, .bool false, .bool false, .int .u64 0, .int .u64 0, .int .u64 0, .int .u64 0, .int .i64 0, .bool false, .int .u64 0, .int .u64 0, .int .u64 0, .int .u64 0, .int .i64 0] Q3 rfl rfl rfl rfl rfl sz33 rfl rfl rfl ?_
  intro w4 hS Qn
  replace Q3 := Qn
  clear Qn
  replace Q1 := hS.other _ _ ne_k1_k3 Q1
  replace Q2 := hS.other _ _ ne_k2_k3 Q2
  replace M := hS.mo _ N_k3 M
  clear hS
  refine w_nil ?_
  refine xn_then ?_
  refine w_seq ?_
  refine w_block ?_
  refine w_seq ?_
  refine w_reg ?_
  refine wl_un (fun v => Instr.fieldAt 28 v 0) (.tmp 2) (pt k1 0) (pt k1 0) (fun _ => rfl) rfl (by kernel_rfl) rfl ?_
  refine wl_load 3 (.tmp 10) (pt k1 0) (.int .i64 (K)) rfl rfl (run_one Q1 3 0 rfl Try.underlying3 rfl) rfl ?_
  refine wl_bin (fun x y => do eqGuard .eql 3 (.tmp 11) (.const (.int .i64 (0))) x y; binOp .eql 3 x y) (.tmp 11) (.const (.int .i64 (0))) (.int .i64 (K)) (.int .i64 (0)) (.bool false) (fun _ => rfl) rfl rfl (eqI q0 _ _ _) rfl ?_
  refine wl_mv (.tmp 12) (.bool false) (fun _ => rfl) rfl rfl ?_
  refine w_nil ?_
  refine xn_then ?_
  refine w_condF rfl ?_
  refine w_seq ?_
  refine w_reg ?_
  refine wl_un (fun v => Instr.fieldAt 28 v 0) (.tmp 2) (pt k1 0) (pt k1 0) (fun _ => rfl) rfl (by kernel_rfl) rfl ?_
  refine wl_load 3 (.tmp 15) (pt k1 0) (.int .i64 (K)) rfl rfl (run_one Q1 3 0 rfl Try.underlying3 rfl) rfl ?_
  refine wl_bin (fun x y => do eqGuard .eql 3 (.tmp 16) (.const (.int .i64 (4))) x y; binOp .eql 3 x y) (.tmp 16) (.const (.int .i64 (4))) (.int .i64 (K)) (.int .i64 (4)) (.bool false) (fun _ => rfl) rfl rfl (eqI q4 _ _ _) rfl ?_
  refine wl_mv (.tmp 17) (.bool false) (fun _ => rfl) rfl rfl ?_
  refine wl_skip rfl ?_
  refine wl_skip rfl ?_
  refine wl_skip rfl ?_
  refine wl_pick (.tmp 18) (.tmp 21) (.const (.bool false)) false (.bool false) (fun _ => rfl) rfl rfl rfl ?_
  refine wl_mv (.tmp 22) (.bool false) (fun _ => rfl) rfl rfl ?_
  refine w_nil ?_
  refine xn_then ?_
  refine w_condF rfl ?_
  refine w_seq ?_
  refine w_reg ?_
  refine wl_un (fun v => Instr.fieldAt 28 v 0) (.tmp 2) (pt k1 0) (pt k1 0) (fun _ => rfl) rfl (by kernel_rfl) rfl ?_
  refine wl_load 3 (.tmp 28) (pt k1 0) (.int .i64 (K)) rfl rfl (run_one Q1 3 0 rfl Try.underlying3 rfl) rfl ?_
  refine wl_bin (fun x y => do eqGuard .eql 3 (.tmp 29) (.const (.int .i64 (1))) x y; binOp .eql 3 x y) (.tmp 29) (.const (.int .i64 (1))) (.int .i64 (K)) (.int .i64 (1)) (.bool false) (fun _ => rfl) rfl rfl (eqI q1 _ _ _) rfl ?_
  refine wl_mv (.tmp 30) (.bool false) (fun _ => rfl) rfl rfl ?_
  refine wl_skip rfl ?_
  refine wl_skip rfl ?_
  refine wl_skip rfl ?_
  refine wl_skip rfl ?_
  refine wl_pick (.tmp 31) (.tmp 35) (.const (.bool false)) false (.bool false) (fun _ => rfl) rfl rfl rfl ?_
  refine wl_mv (.tmp 36) (.bool false) (fun _ => rfl) rfl rfl ?_
  refine wl_skip rfl ?_
  refine wl_skip rfl ?_
  refine wl_skip rfl ?_
  refine wl_skip rfl ?_
  refine wl_skip rfl ?_
  refine wl_pick (.tmp 37) (.tmp 42) (.const (.bool false)) false (.bool false) (fun _ => rfl) rfl rfl rfl ?_
  refine wl_mv (.tmp 43) (.bool false) (fun _ => rfl) rfl rfl ?_
  refine w_nil ?_
  refine xn_then ?_
  refine w_condF rfl ?_
  refine w_seq ?_
  refine w_reg ?_
  refine wl_un (fun v => Instr.fieldAt 28 v 0) (.tmp 2) (pt k1 0) (pt k1 0) (fun _ => rfl) rfl (by kernel_rfl) rfl ?_
  refine wl_load 3 (.tmp 57) (pt k1 0) (.int .i64 (K)) rfl rfl (run_one Q1 3 0 rfl Try.underlying3 rfl) rfl ?_
  refine wl_bin (fun x y => do eqGuard .eql 3 (.tmp 58) (.const (.int .i64 (2))) x y; binOp .eql 3 x y) (.tmp 58) (.const (.int .i64 (2))) (.int .i64 (K)) (.int .i64 (2)) (.bool false) (fun _ => rfl) rfl rfl (eqI q2 _ _ _) rfl ?_
  refine wl_mv (.tmp 59) (.bool false) (fun _ => rfl) rfl rfl ?_
  refine wl_un (fun v => Instr.fieldAt 28 v 0) (.tmp 2) (pt k1 0) (pt k1 0) (fun _ => rfl) rfl (by kernel_rfl) rfl ?_
  refine wl_load 3 (.tmp 61) (pt k1 0) (.int .i64 (K)) rfl rfl (run_one Q1 3 0 rfl Try.underlying3 rfl) rfl ?_
  refine wl_bin (fun x y => do eqGuard .eql 3 (.tmp 62) (.const (.int .i64 (3))) x y; binOp .eql 3 x y) (.tmp 62) (.const (.int .i64 (3))) (.int .i64 (K)) (.int .i64 (3)) (.bool true) (fun _ => rfl) rfl rfl (eqI q3 _ _ _) rfl ?_
  refine wl_pick (.tmp 60) (.const (.bool true)) (.tmp 63) false (.bool true) (fun _ => rfl) rfl rfl rfl ?_
  refine wl_mv (.tmp 64) (.bool true) (fun _ => rfl) rfl rfl ?_
  refine w_nil ?_
  refine xn_then ?_
  refine w_condT rfl ?_
  refine w_reg ?_
  refine wl_un (fun v => Instr.fieldAt 33 v 1) (.tmp 5) (pt k3 0) (pt k3 1) (fun _ => rfl) rfl (by kernel_rfl) rfl ?_
  refine wl_st1 3 (.tmp 65) (.const (.int .i64 (1))) k3 1 (.int .i64 (1)) [.int .i64 (1), .int .i64 0, .int .i64 0, .int .i64 0, .int .i64 0, .int .u64 0, .int .u64 0, .int .u64 0, .int .u64 0, .int .u64 0, .bool false, .bool false, .int .u64 0, .int .u64 0, .int .u64 0, .int .u64 0, .int .i64 0, .bool false, .int .u64 0, .int .u64 0, .int .u64 0, .int .u64 0, .int .i64 0] [.int .i64 (1), .int .i64 (1), .int .i64 0, .int .i64 0, .int .i64 0, .int .u64 0, .int .u64 0, .int .u64 0, .int .u64 0, .int .u64 0, .bool false, .bool false, .int .u64 0, .int .u64 0, .int .u64 0, .int .u64 0, .int .i64 0, .bool false, .int .u64 0, .int .u64 0, .int .u64 0, .int .u64 0, .int .i64 0] Q3 rfl rfl rfl rfl rfl sz3 rfl rfl rfl rfl ?_
  intro w5 hS Qn
  replace Q3 := Qn
  clear Qn
  replace Q1 := hS.other _ _ ne_k1_k3 Q1
  replace Q2 := hS.other _ _ ne_k2_k3 Q2
  replace M := hS.mo _ N_k3 M
  clear hS
  refine w_nil ?_
  refine xn_blk ?_
  refine xn_then ?_
  refine w_seq ?_
  refine w_reg ?_
  refine wl_load 33 (.tmp 5) (pt k3 0) (.agg #[.int .i64 (1), .int .i64 (1), .int .i64 0, .int .i64 0, .int .i64 0, .int .u64 0, .int .u64 0, .int .u64 0, .int .u64 0, .int .u64 0, .bool false, .bool false, .int .u64 0, .int .u64 0, .int .u64 0, .int .u64 0, .int .i64 0, .bool false, .int .u64 0, .int .u64 0, .int .u64 0, .int .u64 0, .int .i64 0]) rfl rfl (run_row Q3 33 0 23 [.int .i64 (1), .int .i64 (1), .int .i64 0, .int .i64 0, .int .i64 0, .int .u64 0, .int .u64 0, .int .u64 0, .int .u64 0, .int .u64 0, .bool false, .bool false, .int .u64 0, .int .u64 0, .int .u64 0, .int .u64 0, .int .i64 0, .bool false, .int .u64 0, .int .u64 0, .int .u64 0, .int .u64 0, .int .i64 0] rfl Try.underlying33 rfl sz33) rfl ?_
  refine wl_st 33 (.tmp 4) (.tmp 66) k2 0 #[.int .i64 (1), .int .i64 (1), .int .i64 0, .int .i64 0, .int .i64 0, .int .u64 0, .int .u64 0, .int .u64 0, .int .u64 0, .int .u64 0, .bool false, .bool false, .int .u64 0, .int .u64 0, .int .u64 0, .int .u64 0, .int .i64 0, .bool false, .int .u64 0, .int .u64 0, .int .u64 0, .int .u64 0, .int .i64 0] [.int .i64 0, .int .i64 0, .int .i64 0, .int .i64 0, .int .i64 0, .int .u64 0, .int .u64 0, .int .u64 0, .int .u64 0, .int .u64 0, .bool false, .bool false, .int .u64 0, .int .u64 0, .int .u64 0, .int .u64 0, .int .i64 0, .bool false, .int .u64 0, .int .u64 0, .int .u64 0, .int .u64 0, .int .i64 0] [.int .i64 (1), .int .i64 (1), .int .i64 0, .int .i64 0, .int .i64 0, .int .u64 0, .int .u64 0, .int .u64 0, .int .u64 0, .int .u64 0, .bool false, .bool false, .int .u64 0, .int .u64 0, .int .u64 0, .int .u64 0, .int .i64 0, .bool false, .int .u64 0, .int .u64 0, .int .u64 0, .int .u64 0, .int .i64 0] Q2 rfl rfl rfl rfl rfl sz33 rfl rfl rfl ?_
  intro w6 hS Qn
  replace Q2 := Qn
  clear Qn
  replace Q1 := hS.other _ _ ne_k1_k2 Q1
  replace Q3 := hS.other _ _ ne_k2_k3.symm Q3
  replace M := hS.mo _ N_k2 M
  clear hS
  refine w_nil ?_
  refine xn_then ?_
  refine w_ret ?_
  exact w_ret1 _ (.agg #[.int .i64 (1), .int .i64 (1), .int .i64 0, .int .i64 0, .int .i64 0, .int .u64 0, .int .u64 0, .int .u64 0, .int .u64 0, .int .u64 0, .bool false, .bool false, .int .u64 0, .int .u64 0, .int .u64 0, .int .u64 0, .int .i64 0, .bool false, .int .u64 0, .int .u64 0, .int .u64 0, .int .u64 0, .int .i64 0]) rfl ⟨k2, rfl, (run_row Q2 33 0 23 [.int .i64 (1), .int .i64 (1), .int .i64 0, .int .i64 0, .int .i64 0, .int .u64 0, .int .u64 0, .int .u64 0, .int .u64 0, .int .u64 0, .bool false, .bool false, .int .u64 0, .int .u64 0, .int .u64 0, .int .u64 0, .int .i64 0, .bool false, .int .u64 0, .int .u64 0, .int .u64 0, .int .u64 0, .int .i64 0] rfl Try.underlying33 rfl sz33)⟩ ⟨rfl, M⟩
theorem rof_j (K : Int) (vb : Bool) (vn vs : Int) (fl : Bool) (tx : ByteArray) (er sc9 : Int) (q0 : decide (K = 0) = false) (q4 : decide (K = 4) = false) (q1 : decide (K = 1) = false) (q2 : decide (K = 2) = false) (q3 : decide (K = 3) = false) : Calls Try.prog 11 #[vl10 K vb vn vs fl tx er, .int .i64 sc9] w fun e w' => e = .returned (sm 1 (0) (0) (1) (2) (0) false false (0) (0) false (0) (0)) ∧ Mo w w' := by
  refine w_enter 67 Try.func11 Try.ntmps11 rfl rfl ?_
  have M : Mo w w := Mo.refl _
  refine w_seq ?_
  refine w_reg ?_
  refine wl_box 28 (.tmp 0) (.agg #[.int .i64 (K), .bool vb, .int .u64 (l0 (vn)), .int .u64 (l1 (vn)), .int .u64 (l2 (vn)), .int .u64 (l3 (vn)), .int .i64 (vs), .bool fl, .string tx, .int .i64 (er)]) (#[.int .i64 (K), .bool vb, .int .u64 (l0 (vn)), .int .u64 (l1 (vn)), .int .u64 (l2 (vn)), .int .u64 (l3 (vn)), .int .i64 (vs), .bool fl, .string tx, .int .i64 (er)]) rfl rfl (fun _ => by kernel_rfl) rfl ?_
  intro k1 w1 hk hz hq Q1
  have N_k1 : w.heap.size ≤ k1 := by have := M.size; omega
  replace M := M.trans hq
  clear hk hz hq
  refine wl_alloc 33 #[.int .i64 0, .int .i64 0, .int .i64 0, .int .i64 0, .int .i64 0, .int .u64 0, .int .u64 0, .int .u64 0, .int .u64 0, .int .u64 0, .bool false, .bool false, .int .u64 0, .int .u64 0, .int .u64 0, .int .u64 0, .int .i64 0, .bool false, .int .u64 0, .int .u64 0, .int .u64 0, .int .u64 0, .int .i64 0] rfl (fun _ => by kernel_rfl) rfl ?_
  intro k2 w2 hk hz hq Q2
  have ne_k1_k2 : k1 ≠ k2 := by have := Q1.lt; omega
  have N_k2 : w.heap.size ≤ k2 := by have := M.size; omega
  replace Q1 := Q1.mo hq
  replace M := M.trans hq
  clear hk hz hq
  refine w_nil ?_
  refine xn_then ?_
  refine w_seq ?_
  refine w_reg ?_
  refine wl_build 33 [(0, (.const (.int .i64 (1))))] [(0, .int .i64 (1))] (.agg #[.int .i64 (1), .int .i64 0, .int .i64 0, .int .i64 0, .int .i64 0, .int .u64 0, .int .u64 0, .int .u64 0, .int .u64 0, .int .u64 0, .bool false, .bool false, .int .u64 0, .int .u64 0, .int .u64 0, .int .u64 0, .int .i64 0, .bool false, .int .u64 0, .int .u64 0, .int .u64 0, .int .u64 0, .int .i64 0]) rfl rfl (by kernel_rfl) rfl ?_
  refine wl_alloc 33 #[.int .i64 0, .int .i64 0, .int .i64 0, .int .i64 0, .int .i64 0, .int .u64 0, .int .u64 0, .int .u64 0, .int .u64 0, .int .u64 0, .bool false, .bool false, .int .u64 0, .int .u64 0, .int .u64 0, .int .u64 0, .int .i64 0, .bool false, .int .u64 0, .int .u64 0, .int .u64 0, .int .u64 0, .int .i64 0] rfl (fun _ => by kernel_rfl) rfl ?_
  intro k3 w3 hk hz hq Q3
  have ne_k1_k3 : k1 ≠ k3 := by have := Q1.lt; omega
  have ne_k2_k3 : k2 ≠ k3 := by have := Q2.lt; omega
  have N_k3 : w.heap.size ≤ k3 := by have := M.size; omega
  replace Q1 := Q1.mo hq
  replace Q2 := Q2.mo hq
  replace M := M.trans hq
  clear hk hz hq
  refine wl_st 33 (.tmp 5) (.tmp 6) k3 0 #[.int .i64 (1), .int .i64 0, .int .i64 0, .int .i64 0, .int .i64 0, .int .u64 0, .int .u64 0, .int .u64 0, .int .u64 0, .int .u64 0, .bool false, .bool false, .int .u64 0, .int .u64 0, .int .u64 0, .int .u64 0, .int .i64 0, .bool false, .int .u64 0, .int .u64 0, .int .u64 0, .int .u64 0, .int .i64 0] [.int .i64 0, .int .i64 0, .int .i64 0, .int .i64 0, .int .i64 0, .int .u64 0, .int .u64 0, .int .u64 0, .int .u64 0, .int .u64 0, .bool false, .bool false, .int .u64 0, .int .u64 0, .int .u64 0, .int .u64 0, .int .i64 0, .bool false, .int .u64 0, .int .u64 0, .int .u64 0, .int .u64 0, .int .i64 0] [.int .i64 (1), .int .i64 0, .int .i64 0, .int .i64 0, .int .i64 0, .int .u64 0, .int .u64 0, .int .u64 0, .int .u64 0, .int .u64 0, .bool false, .bool false, .int .u64 0, .int .u64 0, .int .u64 0, .int .u64 0, .int .i64 0, .bool false, .int .u64 0, .int .u64 0, .int .u64 0, .int .u64 0, .int .i64 0] Q3 rfl rfl rfl rfl rfl sz33 rfl rfl rfl ?_
  intro w4 hS Qn
  replace Q3 := Qn
  clear Qn
  replace Q1 := hS.other _ _ ne_k1_k3 Q1
  replace Q2 := hS.other _ _ ne_k2_k3 Q2
  replace M := hS.mo _ N_k3 M
  clear hS
  refine w_nil ?_
  refine xn_then ?_
  refine w_seq ?_
  refine w_block ?_
  refine w_seq ?_
  refine w_reg ?_
  refine wl_un (fun v => Instr.fieldAt 28 v 0) (.tmp 2) (pt k1 0) (pt k1 0) (fun _ => rfl) rfl (by kernel_rfl) rfl ?_
  refine wl_load 3 (.tmp 10) (pt k1 0) (.int .i64 (K)) rfl rfl (run_one Q1 3 0 rfl Try.underlying3 rfl) rfl ?_
  refine wl_bin (fun x y => do eqGuard .eql 3 (.tmp 11) (.const (.int .i64 (0))) x y; binOp .eql 3 x y) (.tmp 11) (.const (.int .i64 (0))) (.int .i64 (K)) (.int .i64 (0)) (.bool false) (fun _ => rfl) rfl rfl (eqI q0 _ _ _) rfl ?_
  refine wl_mv (.tmp 12) (.bool false) (fun _ => rfl) rfl rfl ?_
  refine w_nil ?_
  refine xn_then ?_
  refine w_condF rfl ?_
  refine w_seq ?_
  refine w_reg ?_
  refine wl_un (fun v => Instr.fieldAt 28 v 0) (.tmp 2) (pt k1 0) (pt k1 0) (fun _ => rfl) rfl (by kernel_rfl) rfl ?_
  refine wl_load 3 (.tmp 15) (pt k1 0) (.int .i64 (K)) rfl rfl (run_one Q1 3 0 rfl Try.underlying3 rfl) rfl ?_
  refine wl_bin (fun x y => do eqGuard .eql 3 (.tmp 16) (.const (.int .i64 (4))) x y; binOp .eql 3 x y) (.tmp 16) (.const (.int .i64 (4))) (.int .i64 (K)) (.int .i64 (4)) (.bool false) (fun _ => rfl) rfl rfl (eqI q4 _ _ _) rfl ?_
  refine wl_mv (.tmp 17) (.bool false) (fun _ => rfl) rfl rfl ?_
  refine wl_skip rfl ?_
  refine wl_skip rfl ?_
  refine wl_skip rfl ?_
  refine wl_pick (.tmp 18) (.tmp 21) (.const (.bool false)) false (.bool false) (fun _ => rfl) rfl rfl rfl ?_
  refine wl_mv (.tmp 22) (.bool false) (fun _ => rfl) rfl rfl ?_
  refine w_nil ?_
  refine xn_then ?_
  refine w_condF rfl ?_
  refine w_seq ?_
  refine w_reg ?_
  refine wl_un (fun v => Instr.fieldAt 28 v 0) (.tmp 2) (pt k1 0) (pt k1 0) (fun _ => rfl) rfl (by kernel_rfl) rfl ?_
  refine wl_load 3 (.tmp 28) (pt k1 0) (.int .i64 (K)) rfl rfl (run_one Q1 3 0 rfl Try.underlying3 rfl) rfl ?_
  refine wl_bin (fun x y => do eqGuard .eql 3 (.tmp 29) (.const (.int .i64 (1))) x y; binOp .eql 3 x y) (.tmp 29) (.const (.int .i64 (1))) (.int .i64 (K)) (.int .i64 (1)) (.bool false) (fun _ => rfl) rfl rfl (eqI q1 _ _ _) rfl ?_
  refine wl_mv (.tmp 30) (.bool false) (fun _ => rfl) rfl rfl ?_
  refine wl_skip rfl ?_
  refine wl_skip rfl ?_
  refine wl_skip rfl ?_
  refine wl_skip rfl ?_
  refine wl_pick (.tmp 31) (.tmp 35) (.const (.bool false)) false (.bool false) (fun _ => rfl) rfl rfl rfl ?_
  refine wl_mv (.tmp 36) (.bool false) (fun _ => rfl) rfl rfl ?_
  refine wl_skip rfl ?_
  refine wl_skip rfl ?_
  refine wl_skip rfl ?_
  refine wl_skip rfl ?_
  refine wl_skip rfl ?_
  refine wl_pick (.tmp 37) (.tmp 42) (.const (.bool false)) false (.bool false) (fun _ => rfl) rfl rfl rfl ?_
  refine wl_mv (.tmp 43) (.bool false) (fun _ => rfl) rfl rfl ?_
  refine w_nil ?_
  refine xn_then ?_
  refine w_condF rfl ?_
  refine w_seq ?_
  refine w_reg ?_
  refine wl_un (fun v => Instr.fieldAt 28 v 0) (.tmp 2) (pt k1 0) (pt k1 0) (fun _ => rfl) rfl (by kernel_rfl) rfl ?_
  refine wl_load 3 (.tmp 57) (pt k1 0) (.int .i64 (K)) rfl rfl (run_one Q1 3 0 rfl Try.underlying3 rfl) rfl ?_
  refine wl_bin (fun x y => do eqGuard .eql 3 (.tmp 58) (.const (.int .i64 (2))) x y; binOp .eql 3 x y) (.tmp 58) (.const (.int .i64 (2))) (.int .i64 (K)) (.int .i64 (2)) (.bool false) (fun _ => rfl) rfl rfl (eqI q2 _ _ _) rfl ?_
  refine wl_mv (.tmp 59) (.bool false) (fun _ => rfl) rfl rfl ?_
  refine wl_un (fun v => Instr.fieldAt 28 v 0) (.tmp 2) (pt k1 0) (pt k1 0) (fun _ => rfl) rfl (by kernel_rfl) rfl ?_
  refine wl_load 3 (.tmp 61) (pt k1 0) (.int .i64 (K)) rfl rfl (run_one Q1 3 0 rfl Try.underlying3 rfl) rfl ?_
  refine wl_bin (fun x y => do eqGuard .eql 3 (.tmp 62) (.const (.int .i64 (3))) x y; binOp .eql 3 x y) (.tmp 62) (.const (.int .i64 (3))) (.int .i64 (K)) (.int .i64 (3)) (.bool false) (fun _ => rfl) rfl rfl (eqI q3 _ _ _) rfl ?_
  refine wl_pick (.tmp 60) (.const (.bool true)) (.tmp 63) false (.bool false) (fun _ => rfl) rfl rfl rfl ?_
  refine wl_mv (.tmp 64) (.bool false) (fun _ => rfl) rfl rfl ?_
  refine w_nil ?_
  refine xn_then ?_
  refine w_condF rfl ?_
  refine w_reg ?_
  refine wl_un (fun v => Instr.fieldAt 33 v 3) (.tmp 5) (pt k3 0) (pt k3 3) (fun _ => rfl) rfl (by kernel_rfl) rfl ?_
  refine wl_st1 3 (.tmp 7) (.const (.int .i64 (1))) k3 3 (.int .i64 (1)) [.int .i64 (1), .int .i64 0, .int .i64 0, .int .i64 0, .int .i64 0, .int .u64 0, .int .u64 0, .int .u64 0, .int .u64 0, .int .u64 0, .bool false, .bool false, .int .u64 0, .int .u64 0, .int .u64 0, .int .u64 0, .int .i64 0, .bool false, .int .u64 0, .int .u64 0, .int .u64 0, .int .u64 0, .int .i64 0] [.int .i64 (1), .int .i64 0, .int .i64 0, .int .i64 (1), .int .i64 0, .int .u64 0, .int .u64 0, .int .u64 0, .int .u64 0, .int .u64 0, .bool false, .bool false, .int .u64 0, .int .u64 0, .int .u64 0, .int .u64 0, .int .i64 0, .bool false, .int .u64 0, .int .u64 0, .int .u64 0, .int .u64 0, .int .i64 0] Q3 rfl rfl rfl rfl rfl sz3 rfl rfl rfl rfl ?_
  intro w5 hS Qn
  replace Q3 := Qn
  clear Qn
  replace Q1 := hS.other _ _ ne_k1_k3 Q1
  replace Q2 := hS.other _ _ ne_k2_k3 Q2
  replace M := hS.mo _ N_k3 M
  clear hS
  refine wl_un (fun v => Instr.fieldAt 33 v 4) (.tmp 5) (pt k3 0) (pt k3 4) (fun _ => rfl) rfl (by kernel_rfl) rfl ?_
  refine wl_st1 3 (.tmp 8) (.const (.int .i64 (2))) k3 4 (.int .i64 (2)) [.int .i64 (1), .int .i64 0, .int .i64 0, .int .i64 (1), .int .i64 0, .int .u64 0, .int .u64 0, .int .u64 0, .int .u64 0, .int .u64 0, .bool false, .bool false, .int .u64 0, .int .u64 0, .int .u64 0, .int .u64 0, .int .i64 0, .bool false, .int .u64 0, .int .u64 0, .int .u64 0, .int .u64 0, .int .i64 0] [.int .i64 (1), .int .i64 0, .int .i64 0, .int .i64 (1), .int .i64 (2), .int .u64 0, .int .u64 0, .int .u64 0, .int .u64 0, .int .u64 0, .bool false, .bool false, .int .u64 0, .int .u64 0, .int .u64 0, .int .u64 0, .int .i64 0, .bool false, .int .u64 0, .int .u64 0, .int .u64 0, .int .u64 0, .int .i64 0] Q3 rfl rfl rfl rfl rfl sz3 rfl rfl rfl rfl ?_
  intro w6 hS Qn
  replace Q3 := Qn
  clear Qn
  replace Q1 := hS.other _ _ ne_k1_k3 Q1
  replace Q2 := hS.other _ _ ne_k2_k3 Q2
  replace M := hS.mo _ N_k3 M
  clear hS
  refine w_nil ?_
  refine xn_blk ?_
  refine xn_then ?_
  refine w_seq ?_
  refine w_reg ?_
  refine wl_load 33 (.tmp 5) (pt k3 0) (.agg #[.int .i64 (1), .int .i64 0, .int .i64 0, .int .i64 (1), .int .i64 (2), .int .u64 0, .int .u64 0, .int .u64 0, .int .u64 0, .int .u64 0, .bool false, .bool false, .int .u64 0, .int .u64 0, .int .u64 0, .int .u64 0, .int .i64 0, .bool false, .int .u64 0, .int .u64 0, .int .u64 0, .int .u64 0, .int .i64 0]) rfl rfl (run_row Q3 33 0 23 [.int .i64 (1), .int .i64 0, .int .i64 0, .int .i64 (1), .int .i64 (2), .int .u64 0, .int .u64 0, .int .u64 0, .int .u64 0, .int .u64 0, .bool false, .bool false, .int .u64 0, .int .u64 0, .int .u64 0, .int .u64 0, .int .i64 0, .bool false, .int .u64 0, .int .u64 0, .int .u64 0, .int .u64 0, .int .i64 0] rfl Try.underlying33 rfl sz33) rfl ?_
  refine wl_st 33 (.tmp 4) (.tmp 66) k2 0 #[.int .i64 (1), .int .i64 0, .int .i64 0, .int .i64 (1), .int .i64 (2), .int .u64 0, .int .u64 0, .int .u64 0, .int .u64 0, .int .u64 0, .bool false, .bool false, .int .u64 0, .int .u64 0, .int .u64 0, .int .u64 0, .int .i64 0, .bool false, .int .u64 0, .int .u64 0, .int .u64 0, .int .u64 0, .int .i64 0] [.int .i64 0, .int .i64 0, .int .i64 0, .int .i64 0, .int .i64 0, .int .u64 0, .int .u64 0, .int .u64 0, .int .u64 0, .int .u64 0, .bool false, .bool false, .int .u64 0, .int .u64 0, .int .u64 0, .int .u64 0, .int .i64 0, .bool false, .int .u64 0, .int .u64 0, .int .u64 0, .int .u64 0, .int .i64 0] [.int .i64 (1), .int .i64 0, .int .i64 0, .int .i64 (1), .int .i64 (2), .int .u64 0, .int .u64 0, .int .u64 0, .int .u64 0, .int .u64 0, .bool false, .bool false, .int .u64 0, .int .u64 0, .int .u64 0, .int .u64 0, .int .i64 0, .bool false, .int .u64 0, .int .u64 0, .int .u64 0, .int .u64 0, .int .i64 0] Q2 rfl rfl rfl rfl rfl sz33 rfl rfl rfl ?_
  intro w7 hS Qn
  replace Q2 := Qn
  clear Qn
  replace Q1 := hS.other _ _ ne_k1_k2 Q1
  replace Q3 := hS.other _ _ ne_k2_k3.symm Q3
  replace M := hS.mo _ N_k2 M
  clear hS
  refine w_nil ?_
  refine xn_then ?_
  refine w_ret ?_
  exact w_ret1 _ (.agg #[.int .i64 (1), .int .i64 0, .int .i64 0, .int .i64 (1), .int .i64 (2), .int .u64 0, .int .u64 0, .int .u64 0, .int .u64 0, .int .u64 0, .bool false, .bool false, .int .u64 0, .int .u64 0, .int .u64 0, .int .u64 0, .int .i64 0, .bool false, .int .u64 0, .int .u64 0, .int .u64 0, .int .u64 0, .int .i64 0]) rfl ⟨k2, rfl, (run_row Q2 33 0 23 [.int .i64 (1), .int .i64 0, .int .i64 0, .int .i64 (1), .int .i64 (2), .int .u64 0, .int .u64 0, .int .u64 0, .int .u64 0, .int .u64 0, .bool false, .bool false, .int .u64 0, .int .u64 0, .int .u64 0, .int .u64 0, .int .i64 0, .bool false, .int .u64 0, .int .u64 0, .int .u64 0, .int .u64 0, .int .i64 0] rfl Try.underlying33 rfl sz33)⟩ ⟨rfl, M⟩
end
end Go.Proofs.Ythpekbohmfmffaa
/-
  SummaryOf: the law's walk.
-/
namespace Go.Proofs.Ythpekbohmfmffaa
open Go.RowKit
/-- Of's answer and the document's: one summary. -/
theorem ofs_n (x : V10) (hx : x.n.ok) (sc9 : Int) : ∃ S : Sm, (∀ w, Calls Try.prog 10 #[x.v, .int .i64 sc9] w fun e w' => e = .returned (smv S) ∧ Mo w w') ∧ ∀ w, Calls Try.prog 11 #[x.v, .int .i64 sc9] w fun e w' => e = .returned (smv S) ∧ Mo w w' := by
  obtain ⟨K, ⟨vb, vn, vs⟩, fl, tx, er⟩ := x
  obtain ⟨hn0, hn⟩ := hx
  simp only at hn0 hn
  by_cases c0 : K = 0
  · exact ⟨⟨1, 0, 1, 0, 0, 0, false, d0, d0⟩, fun w => of_a K vb vn vs fl tx er sc9 (decide_eq_true c0), fun w => rof_a K vb vn vs fl tx er sc9 (decide_eq_true c0)⟩
  by_cases c4 : K = 4
  · by_cases ce : 1 ≤ er
    · exact ⟨⟨1, 0, 0, 1, er, 0, false, d0, d0⟩, fun w => of_b K vb vn vs fl tx er sc9 (decide_eq_false c0) (decide_eq_true c4) (decide_eq_true ce), fun w => rof_b K vb vn vs fl tx er sc9 (decide_eq_false c0) (decide_eq_true c4) (decide_eq_true ce)⟩
    · exact ⟨⟨1, 0, 0, 1, 2, 0, false, d0, d0⟩, fun w => of_c K vb vn vs fl tx er sc9 (decide_eq_false c0) (decide_eq_true c4) (decide_eq_false ce) (decide_eq_false (by omega)) (decide_eq_false (by omega)) (decide_eq_false (by omega)), fun w => rof_c K vb vn vs fl tx er sc9 (decide_eq_false c0) (decide_eq_true c4) (decide_eq_false ce) (decide_eq_false (by omega)) (decide_eq_false (by omega)) (decide_eq_false (by omega))⟩
  by_cases c1 : K = 1
  · by_cases cs : vs = sc9
    · by_cases cc : ck vb vn vs = 0
      · exact ⟨⟨1, 1, 0, 0, 0, sv vb vn, true, ⟨vb, vn, vs⟩, ⟨vb, vn, vs⟩⟩, fun w => of_d K vb vn vs fl tx er sc9 hn0 hn (decide_eq_false c0) (decide_eq_false c4) (decide_eq_true c1) (decide_eq_true cs) (decide_eq_true cc), fun w => rof_d K vb vn vs fl tx er sc9 hn0 hn (decide_eq_false c0) (decide_eq_false c4) (decide_eq_true c1) (decide_eq_true cs) (decide_eq_true cc)⟩
      · exact ⟨⟨1, 0, 0, 1, 2, 0, false, d0, d0⟩, fun w => of_f K vb vn vs fl tx er sc9 hn0 hn (decide_eq_false c0) (decide_eq_false c4) (decide_eq_true c1) (decide_eq_true cs) (decide_eq_false cc) (decide_eq_false (by omega)) (decide_eq_false (by omega)), fun w => rof_f K vb vn vs fl tx er sc9 hn0 hn (decide_eq_false c0) (decide_eq_false c4) (decide_eq_true c1) (decide_eq_false cc) (decide_eq_false (by omega)) (decide_eq_false (by omega))⟩
    · refine ⟨⟨1, 0, 0, 1, 2, 0, false, d0, d0⟩, fun w => of_e K vb vn vs fl tx er sc9 (decide_eq_false c0) (decide_eq_false c4) (decide_eq_true c1) (decide_eq_false cs) (decide_eq_false (by omega)) (decide_eq_false (by omega)), fun w => ?_⟩
      by_cases cc : ck vb vn vs = 0
      · exact rof_e K vb vn vs fl tx er sc9 hn0 hn (decide_eq_false c0) (decide_eq_false c4) (decide_eq_true c1) (decide_eq_false cs) (decide_eq_true cc) (decide_eq_false (by omega)) (decide_eq_false (by omega))
      · exact rof_f K vb vn vs fl tx er sc9 hn0 hn (decide_eq_false c0) (decide_eq_false c4) (decide_eq_true c1) (decide_eq_false cc) (decide_eq_false (by omega)) (decide_eq_false (by omega))
  by_cases c2 : K = 2
  · exact ⟨⟨1, 1, 0, 0, 0, 0, false, d0, d0⟩, fun w => of_h K vb vn vs fl tx er sc9 (decide_eq_false c0) (decide_eq_false c4) (decide_eq_false c1) (decide_eq_true c2), fun w => rof_h K vb vn vs fl tx er sc9 (decide_eq_false c0) (decide_eq_false c4) (decide_eq_false c1) (decide_eq_true c2)⟩
  by_cases c3 : K = 3
  · exact ⟨⟨1, 1, 0, 0, 0, 0, false, d0, d0⟩, fun w => of_i K vb vn vs fl tx er sc9 (decide_eq_false c0) (decide_eq_false c4) (decide_eq_false c1) (decide_eq_false c2) (decide_eq_true c3), fun w => rof_i K vb vn vs fl tx er sc9 (decide_eq_false c0) (decide_eq_false c4) (decide_eq_false c1) (decide_eq_false c2) (decide_eq_true c3)⟩
  exact ⟨⟨1, 0, 0, 1, 2, 0, false, d0, d0⟩, fun w => of_j K vb vn vs fl tx er sc9 (decide_eq_false c0) (decide_eq_false c4) (decide_eq_false c1) (decide_eq_false c2) (decide_eq_false c3), fun w => rof_j K vb vn vs fl tx er sc9 (decide_eq_false c0) (decide_eq_false c4) (decide_eq_false c1) (decide_eq_false c2) (decide_eq_false c3)⟩
section
variable {w : World}
theorem ofs_law (x : V10) (hx : x.n.ok) (sc9 : Int) : Calls Try.prog 3 #[x.v, .int .i64 sc9] w fun e w' => e = .returned (.bool true) ∧ Mo w w' := by
  obtain ⟨S, hP, hD⟩ := ofs_n x hx sc9
  refine w_enter 15 Try.func3 Try.ntmps3 rfl rfl ?_
  have M : Mo w w := Mo.refl _
  refine w_seq ?_
  refine w_reg ?_
  refine wl_box 28 (.tmp 0) (.agg #[.int .i64 (x.K), .bool x.n.b, .int .u64 (l0 (x.n.n)), .int .u64 (l1 (x.n.n)), .int .u64 (l2 (x.n.n)), .int .u64 (l3 (x.n.n)), .int .i64 (x.n.s), .bool x.fl, .string x.tx, .int .i64 (x.er)]) (#[.int .i64 (x.K), .bool x.n.b, .int .u64 (l0 (x.n.n)), .int .u64 (l1 (x.n.n)), .int .u64 (l2 (x.n.n)), .int .u64 (l3 (x.n.n)), .int .i64 (x.n.s), .bool x.fl, .string x.tx, .int .i64 (x.er)]) rfl rfl (fun _ => by kernel_rfl) rfl ?_
  intro k1 w1 hk hz hq Q1
  have N_k1 : w.heap.size ≤ k1 := by have := M.size; omega
  replace M := M.trans hq
  clear hk hz hq
  refine wl_mv (.const (.bool false)) (.bool false) (fun _ => rfl) rfl rfl ?_
  refine w_nil ?_
  refine xn_then ?_
  refine w_seq ?_
  refine w_any 7 [.inl (.bool true), .inl (.bool true), .inl (.agg #[.int .i64 (x.K), .bool x.n.b, .int .u64 (l0 (x.n.n)), .int .u64 (l1 (x.n.n)), .int .u64 (l2 (x.n.n)), .int .u64 (l3 (x.n.n)), .int .i64 (x.n.s), .bool x.fl, .string x.tx, .int .i64 (x.er)]), .inl (.int .i64 (sc9)), .inl (.agg #[.int .i64 (S.r), .int .i64 (S.f), .int .i64 (S.k), .int .i64 (S.d), .int .i64 (S.e), .int .u64 (l0 (S.tt)), .int .u64 (l1 (S.tt)), .int .u64 (l2 (S.tt)), .int .u64 (l3 (S.tt)), .int .u64 (l4 (S.tt)), .bool S.so, .bool S.mn.b, .int .u64 (l0 (S.mn.n)), .int .u64 (l1 (S.mn.n)), .int .u64 (l2 (S.mn.n)), .int .u64 (l3 (S.mn.n)), .int .i64 (S.mn.s), .bool S.mx.b, .int .u64 (l0 (S.mx.n)), .int .u64 (l1 (S.mx.n)), .int .u64 (l2 (S.mx.n)), .int .u64 (l3 (S.mx.n)), .int .i64 (S.mx.s)]), .inl (.agg #[.int .i64 (x.K), .bool x.n.b, .int .u64 (l0 (x.n.n)), .int .u64 (l1 (x.n.n)), .int .u64 (l2 (x.n.n)), .int .u64 (l3 (x.n.n)), .int .i64 (x.n.s), .bool x.fl, .string x.tx, .int .i64 (x.er)]), .inl (.int .i64 (sc9))] [] (by kernel_rfl) (by kernel_rfl) (by kernel_rfl) (by kernel_rfl) rfl (by kernel_rfl) (by kernel_rfl) late_nil ?_ ?_ ?_
  · exact Ds.none rfl
  · refine ea_cons ?_ (ea_cons ?_ (ea_cons ?_ (ea_cons ?_ (ea_cons ?_ (ea_cons ?_ (ea_cons ?_ (ea_nil)))))))
    · exact og_eq (.bool true) rfl (fun f wf hq hd K hK => go_run rfl (wo_call 9 [] _ [] (.bool true) rfl rfl (fun _ _ => by kernel_rfl) (live_n) hK))
    · exact og_eq (.bool true) rfl (fun f wf hq hd K hK => go_run rfl (wo_mv (.tmp 5) (.bool true) (fun _ => rfl) (hd 0 rfl) (hK _ (Mo.refl _))))
    · exact og_eq (.agg #[.int .i64 (x.K), .bool x.n.b, .int .u64 (l0 (x.n.n)), .int .u64 (l1 (x.n.n)), .int .u64 (l2 (x.n.n)), .int .u64 (l3 (x.n.n)), .int .i64 (x.n.s), .bool x.fl, .string x.tx, .int .i64 (x.er)]) rfl (fun f wf hq hd K hK => have Q1 := Q1.mo hq; go_run (wnt_g rfl rfl rfl (hd 1 rfl) rfl) (wo_load 28 (.tmp 2) (pt k1 0) (.agg #[.int .i64 (x.K), .bool x.n.b, .int .u64 (l0 (x.n.n)), .int .u64 (l1 (x.n.n)), .int .u64 (l2 (x.n.n)), .int .u64 (l3 (x.n.n)), .int .i64 (x.n.s), .bool x.fl, .string x.tx, .int .i64 (x.er)]) rfl rfl (run_row Q1 28 0 10 [.int .i64 (x.K), .bool x.n.b, .int .u64 (l0 (x.n.n)), .int .u64 (l1 (x.n.n)), .int .u64 (l2 (x.n.n)), .int .u64 (l3 (x.n.n)), .int .i64 (x.n.s), .bool x.fl, .string x.tx, .int .i64 (x.er)] rfl Try.underlying28 rfl sz28) (hK _ (Mo.refl _))))
    · exact og_eq (.int .i64 (sc9)) rfl (fun f wf hq hd K hK => go_run (wnt_g rfl rfl rfl (hd 1 rfl) rfl) (wo_mv (.tmp 1) (.int .i64 (sc9)) (fun _ => rfl) rfl (hK _ (Mo.refl _))))
    · exact og_eq (.agg #[.int .i64 (S.r), .int .i64 (S.f), .int .i64 (S.k), .int .i64 (S.d), .int .i64 (S.e), .int .u64 (l0 (S.tt)), .int .u64 (l1 (S.tt)), .int .u64 (l2 (S.tt)), .int .u64 (l3 (S.tt)), .int .u64 (l4 (S.tt)), .bool S.so, .bool S.mn.b, .int .u64 (l0 (S.mn.n)), .int .u64 (l1 (S.mn.n)), .int .u64 (l2 (S.mn.n)), .int .u64 (l3 (S.mn.n)), .int .i64 (S.mn.s), .bool S.mx.b, .int .u64 (l0 (S.mx.n)), .int .u64 (l1 (S.mx.n)), .int .u64 (l2 (S.mx.n)), .int .u64 (l3 (S.mx.n)), .int .i64 (S.mx.s)]) rfl (fun f wf hq hd K hK => go_run (wnt_g rfl rfl rfl (hd 1 rfl) rfl) (wo_call 10 [(.tmp 7), (.tmp 8)] _ [.agg #[.int .i64 (x.K), .bool x.n.b, .int .u64 (l0 (x.n.n)), .int .u64 (l1 (x.n.n)), .int .u64 (l2 (x.n.n)), .int .u64 (l3 (x.n.n)), .int .i64 (x.n.s), .bool x.fl, .string x.tx, .int .i64 (x.er)], .int .i64 (sc9)] (.agg #[.int .i64 (S.r), .int .i64 (S.f), .int .i64 (S.k), .int .i64 (S.d), .int .i64 (S.e), .int .u64 (l0 (S.tt)), .int .u64 (l1 (S.tt)), .int .u64 (l2 (S.tt)), .int .u64 (l3 (S.tt)), .int .u64 (l4 (S.tt)), .bool S.so, .bool S.mn.b, .int .u64 (l0 (S.mn.n)), .int .u64 (l1 (S.mn.n)), .int .u64 (l2 (S.mn.n)), .int .u64 (l3 (S.mn.n)), .int .i64 (S.mn.s), .bool S.mx.b, .int .u64 (l0 (S.mx.n)), .int .u64 (l1 (S.mx.n)), .int .u64 (l2 (S.mx.n)), .int .u64 (l3 (S.mx.n)), .int .i64 (S.mx.s)]) rfl (li2 (hd 2 rfl) (hd 3 rfl)) (fun _ _ => by kernel_rfl) (hP _) hK))
    · exact og_eq (.agg #[.int .i64 (x.K), .bool x.n.b, .int .u64 (l0 (x.n.n)), .int .u64 (l1 (x.n.n)), .int .u64 (l2 (x.n.n)), .int .u64 (l3 (x.n.n)), .int .i64 (x.n.s), .bool x.fl, .string x.tx, .int .i64 (x.er)]) rfl (fun f wf hq hd K hK => have Q1 := Q1.mo hq; go_run (wnt_g rfl rfl rfl (hd 1 rfl) rfl) (wo_load 28 (.tmp 2) (pt k1 0) (.agg #[.int .i64 (x.K), .bool x.n.b, .int .u64 (l0 (x.n.n)), .int .u64 (l1 (x.n.n)), .int .u64 (l2 (x.n.n)), .int .u64 (l3 (x.n.n)), .int .i64 (x.n.s), .bool x.fl, .string x.tx, .int .i64 (x.er)]) rfl rfl (run_row Q1 28 0 10 [.int .i64 (x.K), .bool x.n.b, .int .u64 (l0 (x.n.n)), .int .u64 (l1 (x.n.n)), .int .u64 (l2 (x.n.n)), .int .u64 (l3 (x.n.n)), .int .i64 (x.n.s), .bool x.fl, .string x.tx, .int .i64 (x.er)] rfl Try.underlying28 rfl sz28) (hK _ (Mo.refl _))))
    · exact og_eq (.int .i64 (sc9)) rfl (fun f wf hq hd K hK => go_run (wnt_g rfl rfl rfl (hd 1 rfl) rfl) (wo_mv (.tmp 1) (.int .i64 (sc9)) (fun _ => rfl) rfl (hK _ (Mo.refl _))))
  intro kf2 w2 hq hR hne
  replace Q1 := Q1.mo hq
  replace M := M.trans hq
  clear hq hR hne
  refine wl_call 11 [(.tmp 10), (.tmp 11)] _ [.agg #[.int .i64 (x.K), .bool x.n.b, .int .u64 (l0 (x.n.n)), .int .u64 (l1 (x.n.n)), .int .u64 (l2 (x.n.n)), .int .u64 (l3 (x.n.n)), .int .i64 (x.n.s), .bool x.fl, .string x.tx, .int .i64 (x.er)], .int .i64 (sc9)] (.agg #[.int .i64 (S.r), .int .i64 (S.f), .int .i64 (S.k), .int .i64 (S.d), .int .i64 (S.e), .int .u64 (l0 (S.tt)), .int .u64 (l1 (S.tt)), .int .u64 (l2 (S.tt)), .int .u64 (l3 (S.tt)), .int .u64 (l4 (S.tt)), .bool S.so, .bool S.mn.b, .int .u64 (l0 (S.mn.n)), .int .u64 (l1 (S.mn.n)), .int .u64 (l2 (S.mn.n)), .int .u64 (l3 (S.mn.n)), .int .i64 (S.mn.s), .bool S.mx.b, .int .u64 (l0 (S.mx.n)), .int .u64 (l1 (S.mx.n)), .int .u64 (l2 (S.mx.n)), .int .u64 (l3 (S.mx.n)), .int .i64 (S.mx.s)]) rfl rfl (fun _ _ => by kernel_rfl) (hD _) rfl ?_
  intro w3 hq
  replace Q1 := Q1.mo hq
  replace M := M.trans hq
  clear hq
  refine wl_bin (fun x y => do eqGuard .eql 33 (.tmp 9) (.tmp 12) x y; binOp .eql 33 x y) (.tmp 9) (.tmp 12) (.agg #[.int .i64 (S.r), .int .i64 (S.f), .int .i64 (S.k), .int .i64 (S.d), .int .i64 (S.e), .int .u64 (l0 (S.tt)), .int .u64 (l1 (S.tt)), .int .u64 (l2 (S.tt)), .int .u64 (l3 (S.tt)), .int .u64 (l4 (S.tt)), .bool S.so, .bool S.mn.b, .int .u64 (l0 (S.mn.n)), .int .u64 (l1 (S.mn.n)), .int .u64 (l2 (S.mn.n)), .int .u64 (l3 (S.mn.n)), .int .i64 (S.mn.s), .bool S.mx.b, .int .u64 (l0 (S.mx.n)), .int .u64 (l1 (S.mx.n)), .int .u64 (l2 (S.mx.n)), .int .u64 (l3 (S.mx.n)), .int .i64 (S.mx.s)]) (.agg #[.int .i64 (S.r), .int .i64 (S.f), .int .i64 (S.k), .int .i64 (S.d), .int .i64 (S.e), .int .u64 (l0 (S.tt)), .int .u64 (l1 (S.tt)), .int .u64 (l2 (S.tt)), .int .u64 (l3 (S.tt)), .int .u64 (l4 (S.tt)), .bool S.so, .bool S.mn.b, .int .u64 (l0 (S.mn.n)), .int .u64 (l1 (S.mn.n)), .int .u64 (l2 (S.mn.n)), .int .u64 (l3 (S.mn.n)), .int .i64 (S.mn.s), .bool S.mx.b, .int .u64 (l0 (S.mx.n)), .int .u64 (l1 (S.mx.n)), .int .u64 (l2 (S.mx.n)), .int .u64 (l3 (S.mx.n)), .int .i64 (S.mx.s)]) (.bool true) (fun _ => rfl) rfl rfl (eqs_run S _ _ _) rfl ?_
  refine wl_pick (.tmp 6) (.tmp 13) (.const (.bool false)) true (.bool true) (fun _ => rfl) rfl rfl rfl ?_
  refine wl_mv (.tmp 14) (.bool true) (fun _ => rfl) rfl rfl ?_
  refine w_nil ?_
  refine xn_then ?_
  refine w_ret ?_
  exact w_ret1 _ (.bool true) rfl rfl ⟨rfl, M⟩
end
end Go.Proofs.Ythpekbohmfmffaa
namespace Go.Proofs.Ythpekbohmfmffaa
open Go.ChangeShapes Go.WideShapes Go.ChangeAt Go.RowKit Go.ChangeMaps
theorem tys3 : ∀ t ∈ ([28, 3] : List TypeId), Try.prog.readableRec t = true ∧ t < Try.prog.types.size := by
  intro t ht
  simp only [List.mem_cons, List.not_mem_nil, or_false] at ht
  rcases ht with rfl | rfl
  · exact ⟨by kernel_rfl, of_decide_eq_true (by kernel_rfl)⟩
  · exact ⟨by kernel_rfl, of_decide_eq_true (by kernel_rfl)⟩
set_option maxHeartbeats 1000000 in
set_option maxRecDepth 100000 in
theorem summaryOf_lifted (os : Os) (started : os.Started) (H : Type) (enc : TypeId × Value → H) :
    ReturnsInHanded {} Try.checked os 3 .any (Rows.summaryOfSpec.pre6 enc Try.prog Try.f3 Rows.summaryOfRow.domain false) (Rows.summaryOfSpec.post enc Try.prog Try.f3 false true false false) := by
  refine returnsInHanded_of_change (C := Try.checked) Try.own started (by kernel_rfl) Try.func3
    (ChangeSpec.witness6 (enc := enc) (C := Try.checked) false ⟨#[], #[.agg #[.int .i64 0, .bool false, .int .u64 0, .int .u64 0, .int .u64 0, .int .u64 0, .int .i64 0, .bool false, .string ⟨#[]⟩, .int .i64 0], .int .i64 0], []⟩ 8 (by kernel_rfl) (by kernel_rfl) (by kernel_rfl) (by kernel_rfl)) ?_
  intro W base args ds gs before hval0 hW _ _
  have hval : ∀ (j : Nat) t v, Try.f3.params[j]? = some t → args[j]? = some v → Value.okWide Try.prog W .any base t v := hval0
  have hW' := hW
  obtain ⟨p, q, hA0, hV, rfl, _, _⟩ := hW
  have hA : DataW.TrodAll enc Try.prog W 0 (fun _ => true) true Try.f3.params.toList args.toList ds p := hA0
  have hAk := hA
  rw [Try.params3] at hA hval
  obtain ⟨v0, v1, d0, d1, p0, p1, rfl, rfl, _, h0, h1⟩ := trodAll_two hA
  obtain ⟨rfl, rfl⟩ := trodVars_none hV
  obtain ⟨x0, ok0, _, rfl⟩ := open_value (hval 0 28 v0 rfl rfl) h0
  obtain ⟨z1, rfl, _, q1, _⟩ := open_i64 Try.underlying3 (hval 1 3 v1 rfl rfl) h1
  clear hA0 hval0
  refine (ofs_law (w := W) x0 ok0 z1).mono fun e W' ⟨he, hg⟩ => ?_
  subst he
  simp only [List.append_nil] at hW'
  have hlt : ∀ x ∈ p, x.block < W.heap.size := fun x hx => by simpa using hW'.lt x hx
  exact ⟨_, rfl, post_of_same (pa := p) (pv := []) hW' (fun _ _ _ => trodAll_mk1 (shut_bool Try.underlying4 _)) (fun sp hsp => trodAll_stays (by rw [Try.params3]; exact tys3) hAk (fun x hx => hg.1.same (hlt x hx)) hsp) (fun _ _ => rfl) (by simp)
    (hg.1.frame _) hg.2 (ok_one (by kernel_rfl) rfl (okWide_bool_mk Try.underlying4 _))⟩

theorem summaryOf_holds : Rows.SummaryOfSaid :=
  OpenClaim.holds_of_wide 3 Try.f3 rfl rfl rfl rfl rfl rfl rfl ⟨rfl, rfl, rfl, rfl, rfl⟩ rfl rfl rfl rfl rfl (by kernel_rfl) Try.func3 (by kernel_rfl)
    (of_decide_eq_true (by kernel_rfl)) (by unfold Func.isWrapper; rw [if_neg (of_decide_eq_false (by kernel_rfl))]; exact ⟨rfl, rfl⟩)
    (fun os started H enc _ => summaryOf_lifted os started H enc)
#print axioms summaryOf_holds
end Go.Proofs.Ythpekbohmfmffaa
