/-
  A part of the proof.
-/
import Derived.Test.YthpekbohmfmffaaNf
import Derived.Test.YthpekbohmfmffaaTen
import Derived.Test.YthpekbohmfmffaaDec3b
import Derived.Test.YthpekbohmfmffaaU1
/-
  Narrow, the program's and the document's.
-/
namespace Go.Proofs.Ythpekbohmfmffaa
open Go.RowKit
theorem sz26 : (Try.prog.info? 26).map (·.size) = some 6 := by kernel_rfl
section
variable {w : World}
theorem narrow_a (v s : Int) (q0 : decide (s < 0) = true) : Calls Try.prog 18 #[wv v, .int .i64 s] w fun e w' => e = .returned (.tuple #[.agg #[.bool false, .int .u64 0, .int .u64 0, .int .u64 0, .int .u64 0, .int .i64 0], .int .i64 1]) ∧ Mo w w' := by
  refine w_enter 41 Try.func18 Try.ntmps18 rfl rfl ?_
  have M : Mo w w := Mo.refl _
  refine w_seq ?_
  refine w_reg ?_
  refine wl_box 31 (.tmp 0) (.agg #[.int .u64 (l0 (v)), .int .u64 (l1 (v)), .int .u64 (l2 (v)), .int .u64 (l3 (v)), .int .u64 (l4 (v))]) (#[.int .u64 (l0 (v)), .int .u64 (l1 (v)), .int .u64 (l2 (v)), .int .u64 (l3 (v)), .int .u64 (l4 (v))]) rfl rfl (fun _ => by kernel_rfl) rfl ?_
  intro k1 w1 hk hz hq Q1
  have N_k1 : w.heap.size ≤ k1 := by have := M.size; omega
  replace M := M.trans hq
  clear hk hz hq
  refine wl_alloc 26 #[.bool false, .int .u64 0, .int .u64 0, .int .u64 0, .int .u64 0, .int .i64 0] rfl (fun _ => by kernel_rfl) rfl ?_
  intro k2 w2 hk hz hq Q2
  have ne_k1_k2 : k1 ≠ k2 := by have := Q1.lt; omega
  have N_k2 : w.heap.size ≤ k2 := by have := M.size; omega
  replace Q1 := Q1.mo hq
  replace M := M.trans hq
  clear hk hz hq
  refine wl_mv (.const (.int .i64 (0))) (.int .i64 (0)) (fun _ => rfl) rfl rfl ?_
  refine w_nil ?_
  refine xn_then ?_
  refine w_seq ?_
  refine w_seq ?_
  refine w_reg ?_
  refine wl_mv (.tmp 1) (.int .i64 (s)) (fun _ => rfl) rfl rfl ?_
  refine wl_bin (fun x y => do eqGuard .lss 3 (.tmp 9) (.const (.int .i64 (0))) x y; binOp .lss 3 x y) (.tmp 9) (.const (.int .i64 (0))) (.int .i64 (s)) (.int .i64 (0)) (.bool true) (fun _ => rfl) rfl rfl (ltI q0 _ _ _) rfl ?_
  refine wl_mv (.tmp 10) (.bool true) (fun _ => rfl) rfl rfl ?_
  refine wl_skip rfl ?_
  refine wl_skip rfl ?_
  refine wl_pick (.tmp 11) (.const (.bool true)) (.tmp 13) true (.bool true) (fun _ => rfl) rfl rfl rfl ?_
  refine w_nil ?_
  refine xn_then ?_
  refine w_condT rfl ?_
  refine w_seq ?_
  refine w_reg ?_
  refine wl_build 26 [] [] (.agg #[.bool false, .int .u64 0, .int .u64 0, .int .u64 0, .int .u64 0, .int .i64 0]) rfl rfl (by kernel_rfl) rfl ?_
  refine wl_st 26 (.tmp 4) (.tmp 15) k2 0 #[.bool false, .int .u64 0, .int .u64 0, .int .u64 0, .int .u64 0, .int .i64 0] [.bool false, .int .u64 0, .int .u64 0, .int .u64 0, .int .u64 0, .int .i64 0] [.bool false, .int .u64 0, .int .u64 0, .int .u64 0, .int .u64 0, .int .i64 0] Q2 rfl rfl rfl rfl rfl sz26 rfl rfl rfl ?_
  intro w3 hS Qn
  replace Q2 := Qn
  clear Qn
  replace Q1 := hS.other _ _ ne_k1_k2 Q1
  replace M := hS.mo _ N_k2 M
  clear hS
  refine wl_mv (.const (.int .i64 (1))) (.int .i64 (1)) (fun _ => rfl) rfl rfl ?_
  refine w_nil ?_
  refine xn_then ?_
  refine w_ret ?_
  refine xr_then ?_
  exact w_ret2 _ _ (.agg #[.bool false, .int .u64 0, .int .u64 0, .int .u64 0, .int .u64 0, .int .i64 0]) (.int .i64 (1)) rfl ⟨k2, rfl, (run_row Q2 26 0 6 [.bool false, .int .u64 0, .int .u64 0, .int .u64 0, .int .u64 0, .int .i64 0] rfl Try.underlying26 rfl sz26)⟩ rfl ⟨rfl, M⟩
theorem narrow_b (v s : Int) (q0 : decide (s < 0) = false) (q1 : decide (18 < s) = true) : Calls Try.prog 18 #[wv v, .int .i64 s] w fun e w' => e = .returned (.tuple #[.agg #[.bool false, .int .u64 0, .int .u64 0, .int .u64 0, .int .u64 0, .int .i64 0], .int .i64 1]) ∧ Mo w w' := by
  refine w_enter 41 Try.func18 Try.ntmps18 rfl rfl ?_
  have M : Mo w w := Mo.refl _
  refine w_seq ?_
  refine w_reg ?_
  refine wl_box 31 (.tmp 0) (.agg #[.int .u64 (l0 (v)), .int .u64 (l1 (v)), .int .u64 (l2 (v)), .int .u64 (l3 (v)), .int .u64 (l4 (v))]) (#[.int .u64 (l0 (v)), .int .u64 (l1 (v)), .int .u64 (l2 (v)), .int .u64 (l3 (v)), .int .u64 (l4 (v))]) rfl rfl (fun _ => by kernel_rfl) rfl ?_
  intro k1 w1 hk hz hq Q1
  have N_k1 : w.heap.size ≤ k1 := by have := M.size; omega
  replace M := M.trans hq
  clear hk hz hq
  refine wl_alloc 26 #[.bool false, .int .u64 0, .int .u64 0, .int .u64 0, .int .u64 0, .int .i64 0] rfl (fun _ => by kernel_rfl) rfl ?_
  intro k2 w2 hk hz hq Q2
  have ne_k1_k2 : k1 ≠ k2 := by have := Q1.lt; omega
  have N_k2 : w.heap.size ≤ k2 := by have := M.size; omega
  replace Q1 := Q1.mo hq
  replace M := M.trans hq
  clear hk hz hq
  refine wl_mv (.const (.int .i64 (0))) (.int .i64 (0)) (fun _ => rfl) rfl rfl ?_
  refine w_nil ?_
  refine xn_then ?_
  refine w_seq ?_
  refine w_seq ?_
  refine w_reg ?_
  refine wl_mv (.tmp 1) (.int .i64 (s)) (fun _ => rfl) rfl rfl ?_
  refine wl_bin (fun x y => do eqGuard .lss 3 (.tmp 9) (.const (.int .i64 (0))) x y; binOp .lss 3 x y) (.tmp 9) (.const (.int .i64 (0))) (.int .i64 (s)) (.int .i64 (0)) (.bool false) (fun _ => rfl) rfl rfl (ltI q0 _ _ _) rfl ?_
  refine wl_mv (.tmp 10) (.bool false) (fun _ => rfl) rfl rfl ?_
  refine wl_mv (.tmp 1) (.int .i64 (s)) (fun _ => rfl) rfl rfl ?_
  refine wl_bin (fun x y => do eqGuard .gtr 3 (.tmp 12) (.const (.int .i64 (18))) x y; binOp .gtr 3 x y) (.tmp 12) (.const (.int .i64 (18))) (.int .i64 (s)) (.int .i64 (18)) (.bool true) (fun _ => rfl) rfl rfl (gtI q1 _ _ _) rfl ?_
  refine wl_pick (.tmp 11) (.const (.bool true)) (.tmp 13) false (.bool true) (fun _ => rfl) rfl rfl rfl ?_
  refine w_nil ?_
  refine xn_then ?_
  refine w_condT rfl ?_
  refine w_seq ?_
  refine w_reg ?_
  refine wl_build 26 [] [] (.agg #[.bool false, .int .u64 0, .int .u64 0, .int .u64 0, .int .u64 0, .int .i64 0]) rfl rfl (by kernel_rfl) rfl ?_
  refine wl_st 26 (.tmp 4) (.tmp 15) k2 0 #[.bool false, .int .u64 0, .int .u64 0, .int .u64 0, .int .u64 0, .int .i64 0] [.bool false, .int .u64 0, .int .u64 0, .int .u64 0, .int .u64 0, .int .i64 0] [.bool false, .int .u64 0, .int .u64 0, .int .u64 0, .int .u64 0, .int .i64 0] Q2 rfl rfl rfl rfl rfl sz26 rfl rfl rfl ?_
  intro w3 hS Qn
  replace Q2 := Qn
  clear Qn
  replace Q1 := hS.other _ _ ne_k1_k2 Q1
  replace M := hS.mo _ N_k2 M
  clear hS
  refine wl_mv (.const (.int .i64 (1))) (.int .i64 (1)) (fun _ => rfl) rfl rfl ?_
  refine w_nil ?_
  refine xn_then ?_
  refine w_ret ?_
  refine xr_then ?_
  exact w_ret2 _ _ (.agg #[.bool false, .int .u64 0, .int .u64 0, .int .u64 0, .int .u64 0, .int .i64 0]) (.int .i64 (1)) rfl ⟨k2, rfl, (run_row Q2 26 0 6 [.bool false, .int .u64 0, .int .u64 0, .int .u64 0, .int .u64 0, .int .i64 0] rfl Try.underlying26 rfl sz26)⟩ rfl ⟨rfl, M⟩
theorem narrow_tt (v s : Int) (q0 : decide (s < 0) = false) (q1 : decide (18 < s) = false) (hneg : decide (9223372036854775808 ≤ l4 v) = true) (h4 : decide (l4 (-v) = 0) = true) : Calls Try.prog 18 #[wv v, .int .i64 s] w fun e w' => e = .returned (.tuple #[dc true (-v) s, .int .i64 0]) ∧ Mo w w' := by
  have hl4 := (l_bd v).2.2.2.2
  refine w_enter 41 Try.func18 Try.ntmps18 rfl rfl ?_
  have M : Mo w w := Mo.refl _
  refine w_seq ?_
  refine w_reg ?_
  refine wl_box 31 (.tmp 0) (.agg #[.int .u64 (l0 (v)), .int .u64 (l1 (v)), .int .u64 (l2 (v)), .int .u64 (l3 (v)), .int .u64 (l4 (v))]) (#[.int .u64 (l0 (v)), .int .u64 (l1 (v)), .int .u64 (l2 (v)), .int .u64 (l3 (v)), .int .u64 (l4 (v))]) rfl rfl (fun _ => by kernel_rfl) rfl ?_
  intro k1 w1 hk hz hq Q1
  have N_k1 : w.heap.size ≤ k1 := by have := M.size; omega
  replace M := M.trans hq
  clear hk hz hq
  refine wl_alloc 26 #[.bool false, .int .u64 0, .int .u64 0, .int .u64 0, .int .u64 0, .int .i64 0] rfl (fun _ => by kernel_rfl) rfl ?_
  intro k2 w2 hk hz hq Q2
  have ne_k1_k2 : k1 ≠ k2 := by have := Q1.lt; omega
  have N_k2 : w.heap.size ≤ k2 := by have := M.size; omega
  replace Q1 := Q1.mo hq
  replace M := M.trans hq
  clear hk hz hq
  refine wl_mv (.const (.int .i64 (0))) (.int .i64 (0)) (fun _ => rfl) rfl rfl ?_
  refine w_nil ?_
  refine xn_then ?_
  refine w_seq ?_
  refine w_seq ?_
  refine w_reg ?_
  refine wl_mv (.tmp 1) (.int .i64 (s)) (fun _ => rfl) rfl rfl ?_
  refine wl_bin (fun x y => do eqGuard .lss 3 (.tmp 9) (.const (.int .i64 (0))) x y; binOp .lss 3 x y) (.tmp 9) (.const (.int .i64 (0))) (.int .i64 (s)) (.int .i64 (0)) (.bool false) (fun _ => rfl) rfl rfl (ltI q0 _ _ _) rfl ?_
  refine wl_mv (.tmp 10) (.bool false) (fun _ => rfl) rfl rfl ?_
  refine wl_mv (.tmp 1) (.int .i64 (s)) (fun _ => rfl) rfl rfl ?_
  refine wl_bin (fun x y => do eqGuard .gtr 3 (.tmp 12) (.const (.int .i64 (18))) x y; binOp .gtr 3 x y) (.tmp 12) (.const (.int .i64 (18))) (.int .i64 (s)) (.int .i64 (18)) (.bool false) (fun _ => rfl) rfl rfl (gtI q1 _ _ _) rfl ?_
  refine wl_pick (.tmp 11) (.const (.bool true)) (.tmp 13) false (.bool false) (fun _ => rfl) rfl rfl rfl ?_
  refine w_nil ?_
  refine xn_then ?_
  refine w_condF rfl ?_
  refine w_skip ?_
  refine xn_then ?_
  refine w_seq ?_
  refine w_reg ?_
  refine wl_bin (fun x y => Instr.indexAt 31 x y) (.tmp 2) (.const (.int .i64 (4))) (pt k1 0) (.int .i64 (4)) (pt k1 4) (fun _ => rfl) rfl rfl (by kernel_rfl) rfl ?_
  refine wl_load 22 (.tmp 16) (pt k1 4) (.int .u64 (l4 (v))) rfl rfl (run_one Q1 22 4 rfl Try.underlying22 rfl) rfl ?_
  refine wl_bin (fun x y => do eqGuard .and 22 (.tmp 17) (.const (.int .u64 (9223372036854775808))) x y; binOp .and 22 x y) (.tmp 17) (.const (.int .u64 (9223372036854775808))) (.int .u64 (l4 (v))) (.int .u64 (9223372036854775808)) (.int .u64 (9223372036854775808)) (fun _ => rfl) rfl rfl (and63U hl4.1 hl4.2 hneg _ _ _) rfl ?_
  refine wl_bin (fun x y => do eqGuard .neq 22 (.tmp 18) (.const (.int .u64 (0))) x y; binOp .neq 22 x y) (.tmp 18) (.const (.int .u64 (0))) (.int .u64 (9223372036854775808)) (.int .u64 (0)) (.bool true) (fun _ => rfl) rfl rfl (by kernel_rfl) rfl ?_
  refine wl_mv (.tmp 19) (.bool true) (fun _ => rfl) rfl rfl ?_
  refine w_nil ?_
  refine xn_then ?_
  refine w_seq ?_
  refine w_seq ?_
  refine w_reg ?_
  refine wl_mv (.tmp 6) (.bool true) (fun _ => rfl) rfl rfl ?_
  refine w_nil ?_
  refine xn_then ?_
  refine w_condT rfl ?_
  refine w_reg ?_
  refine wl_load 31 (.tmp 2) (pt k1 0) (.agg #[.int .u64 (l0 (v)), .int .u64 (l1 (v)), .int .u64 (l2 (v)), .int .u64 (l3 (v)), .int .u64 (l4 (v))]) rfl rfl (run_row Q1 31 0 5 [.int .u64 (l0 (v)), .int .u64 (l1 (v)), .int .u64 (l2 (v)), .int .u64 (l3 (v)), .int .u64 (l4 (v))] rfl Try.underlying31 rfl sz31) rfl ?_
  refine wl_call 37 [(.tmp 21)] _ [.agg #[.int .u64 (l0 (v)), .int .u64 (l1 (v)), .int .u64 (l2 (v)), .int .u64 (l3 (v)), .int .u64 (l4 (v))]] (.agg #[.int .u64 (l0 (-v)), .int .u64 (l1 (-v)), .int .u64 (l2 (-v)), .int .u64 (l3 (-v)), .int .u64 (l4 (-v))]) rfl rfl (fun _ _ => by kernel_rfl) (minus_n v) rfl ?_
  intro w3 hq
  replace Q1 := Q1.mo hq
  replace Q2 := Q2.mo hq
  replace M := M.trans hq
  clear hq
  refine wl_st 31 (.tmp 2) (.tmp 22) k1 0 #[.int .u64 (l0 (-v)), .int .u64 (l1 (-v)), .int .u64 (l2 (-v)), .int .u64 (l3 (-v)), .int .u64 (l4 (-v))] [.int .u64 (l0 (v)), .int .u64 (l1 (v)), .int .u64 (l2 (v)), .int .u64 (l3 (v)), .int .u64 (l4 (v))] [.int .u64 (l0 (-v)), .int .u64 (l1 (-v)), .int .u64 (l2 (-v)), .int .u64 (l3 (-v)), .int .u64 (l4 (-v))] Q1 rfl rfl rfl rfl rfl sz31 rfl rfl rfl ?_
  intro w4 hS Qn
  replace Q1 := Qn
  clear Qn
  replace Q2 := hS.other _ _ ne_k1_k2.symm Q2
  replace M := hS.mo _ N_k1 M
  clear hS
  refine w_nil ?_
  refine xn_then ?_
  refine w_seq ?_
  refine w_seq ?_
  refine w_reg ?_
  refine wl_bin (fun x y => Instr.indexAt 31 x y) (.tmp 2) (.const (.int .i64 (4))) (pt k1 0) (.int .i64 (4)) (pt k1 4) (fun _ => rfl) rfl rfl (by kernel_rfl) rfl ?_
  refine wl_load 22 (.tmp 23) (pt k1 4) (.int .u64 (l4 (-v))) rfl rfl (run_one Q1 22 4 rfl Try.underlying22 rfl) rfl ?_
  refine wl_bin (fun x y => do eqGuard .neq 22 (.tmp 24) (.const (.int .u64 (0))) x y; binOp .neq 22 x y) (.tmp 24) (.const (.int .u64 (0))) (.int .u64 (l4 (-v))) (.int .u64 (0)) (.bool false) (fun _ => rfl) rfl rfl (neU h4 _ _ _) rfl ?_
  refine w_nil ?_
  refine xn_then ?_
  refine w_condF rfl ?_
  refine w_skip ?_
  refine xn_then ?_
  refine w_seq ?_
  refine w_reg ?_
  refine wl_mv (.tmp 6) (.bool true) (fun _ => rfl) rfl rfl ?_
  refine wl_mv (.tmp 1) (.int .i64 (s)) (fun _ => rfl) rfl rfl ?_
  refine wl_build 26 [(0, (.tmp 27)), (2, (.tmp 28))] [(0, .bool true), (2, .int .i64 (s))] (.agg #[.bool true, .int .u64 0, .int .u64 0, .int .u64 0, .int .u64 0, .int .i64 (s)]) rfl rfl (by kernel_rfl) rfl ?_
  refine wl_alloc 26 #[.bool false, .int .u64 0, .int .u64 0, .int .u64 0, .int .u64 0, .int .i64 0] rfl (fun _ => by kernel_rfl) rfl ?_
  intro k3 w5 hk hz hq Q3
  have ne_k1_k3 : k1 ≠ k3 := by have := Q1.lt; omega
  have ne_k2_k3 : k2 ≠ k3 := by have := Q2.lt; omega
  have N_k3 : w.heap.size ≤ k3 := by have := M.size; omega
  replace Q1 := Q1.mo hq
  replace Q2 := Q2.mo hq
  replace M := M.trans hq
  clear hk hz hq
  refine wl_st 26 (.tmp 7) (.tmp 29) k3 0 #[.bool true, .int .u64 0, .int .u64 0, .int .u64 0, .int .u64 0, .int .i64 (s)] [.bool false, .int .u64 0, .int .u64 0, .int .u64 0, .int .u64 0, .int .i64 0] [.bool true, .int .u64 0, .int .u64 0, .int .u64 0, .int .u64 0, .int .i64 (s)] Q3 rfl rfl rfl rfl rfl sz26 rfl rfl rfl ?_
  intro w6 hS Qn
  replace Q3 := Qn
  clear Qn
  replace Q1 := hS.other _ _ ne_k1_k3 Q1
  replace Q2 := hS.other _ _ ne_k2_k3 Q2
  replace M := hS.mo _ N_k3 M
  clear hS
  refine w_nil ?_
  refine xn_then ?_
  refine w_seq ?_
  refine w_seq ?_
  refine w_reg ?_
  refine wl_mv (.const (.int .i64 (0))) (.int .i64 (0)) (fun _ => rfl) rfl rfl ?_
  refine w_nil ?_
  refine xn_then ?_
  refine w_block ?_
  refine w_rounds 4 ?_
  refine w_seq ?_
  refine w_reg ?_
  refine wl_bin (fun x y => do eqGuard .lss 3 (.tmp 30) (.const (.int .i64 (4))) x y; binOp .lss 3 x y) (.tmp 30) (.const (.int .i64 (4))) (.int .i64 (0)) (.int .i64 (4)) (.bool true) (fun _ => rfl) rfl rfl (by kernel_rfl) rfl ?_
  refine w_nil ?_
  refine xn_then ?_
  refine w_seq ?_
  refine w_condT rfl ?_
  refine w_skip ?_
  refine xn_then ?_
  refine w_seq ?_
  refine w_block ?_
  refine w_seq ?_
  refine w_reg ?_
  refine wl_mv (.tmp 30) (.int .i64 (0)) (fun _ => rfl) rfl rfl ?_
  refine wl_mv (.tmp 32) (.int .i64 (0)) (fun _ => rfl) rfl rfl ?_
  refine w_nil ?_
  refine xn_then ?_
  refine w_reg ?_
  refine wl_mv (.tmp 8) (.int .i64 (0)) (fun _ => rfl) rfl rfl ?_
  refine wl_mv (.tmp 8) (.int .i64 (0)) (fun _ => rfl) rfl rfl ?_
  refine wl_bin (fun x y => Instr.indexAt 31 x y) (.tmp 2) (.tmp 34) (pt k1 0) (.int .i64 (0)) (pt k1 0) (fun _ => rfl) rfl rfl (by kernel_rfl) rfl ?_
  refine wl_load 22 (.tmp 35) (pt k1 0) (.int .u64 (l0 (-v))) rfl rfl (run_one Q1 22 0 rfl Try.underlying22 rfl) rfl ?_
  refine wl_un (fun v => Instr.fieldAt 26 v 1) (.tmp 7) (pt k3 0) (pt k3 1) (fun _ => rfl) rfl (by kernel_rfl) rfl ?_
  refine wl_bin (fun x y => Instr.indexAt 24 x y) (.tmp 37) (.tmp 33) (pt k3 1) (.int .i64 (0)) (pt k3 1) (fun _ => rfl) rfl rfl (by kernel_rfl) rfl ?_
  refine wl_st1 22 (.tmp 38) (.tmp 36) k3 1 (.int .u64 (l0 (-v))) [.bool true, .int .u64 0, .int .u64 0, .int .u64 0, .int .u64 0, .int .i64 (s)] [.bool true, .int .u64 (l0 (-v)), .int .u64 0, .int .u64 0, .int .u64 0, .int .i64 (s)] Q3 rfl rfl rfl rfl rfl sz22 rfl rfl rfl rfl ?_
  intro w7 hS Qn
  replace Q3 := Qn
  clear Qn
  replace Q1 := hS.other _ _ ne_k1_k3 Q1
  replace Q2 := hS.other _ _ ne_k2_k3 Q2
  replace M := hS.mo _ N_k3 M
  clear hS
  refine w_nil ?_
  refine xn_blk ?_
  refine xn_then ?_
  refine w_reg ?_
  refine wl_bin (fun x y => do eqGuard .add 3 (.tmp 30) (.const (.int .i64 (1))) x y; binOp .add 3 x y) (.tmp 30) (.const (.int .i64 (1))) (.int .i64 (0)) (.int .i64 (1)) (.int .i64 (1)) (fun _ => rfl) rfl rfl (by kernel_rfl) rfl ?_
  refine wl_mv (.tmp 39) (.int .i64 (1)) (fun _ => rfl) rfl rfl ?_
  refine w_nil ?_
  refine xn_rounds ?_
  refine w_seq ?_
  refine w_reg ?_
  refine wl_bin (fun x y => do eqGuard .lss 3 (.tmp 30) (.const (.int .i64 (4))) x y; binOp .lss 3 x y) (.tmp 30) (.const (.int .i64 (4))) (.int .i64 (1)) (.int .i64 (4)) (.bool true) (fun _ => rfl) rfl rfl (by kernel_rfl) rfl ?_
  refine w_nil ?_
  refine xn_then ?_
  refine w_seq ?_
  refine w_condT rfl ?_
  refine w_skip ?_
  refine xn_then ?_
  refine w_seq ?_
  refine w_block ?_
  refine w_seq ?_
  refine w_reg ?_
  refine wl_mv (.tmp 30) (.int .i64 (1)) (fun _ => rfl) rfl rfl ?_
  refine wl_mv (.tmp 32) (.int .i64 (1)) (fun _ => rfl) rfl rfl ?_
  refine w_nil ?_
  refine xn_then ?_
  refine w_reg ?_
  refine wl_mv (.tmp 8) (.int .i64 (1)) (fun _ => rfl) rfl rfl ?_
  refine wl_mv (.tmp 8) (.int .i64 (1)) (fun _ => rfl) rfl rfl ?_
  refine wl_bin (fun x y => Instr.indexAt 31 x y) (.tmp 2) (.tmp 34) (pt k1 0) (.int .i64 (1)) (pt k1 1) (fun _ => rfl) rfl rfl (by kernel_rfl) rfl ?_
  refine wl_load 22 (.tmp 35) (pt k1 1) (.int .u64 (l1 (-v))) rfl rfl (run_one Q1 22 1 rfl Try.underlying22 rfl) rfl ?_
  refine wl_un (fun v => Instr.fieldAt 26 v 1) (.tmp 7) (pt k3 0) (pt k3 1) (fun _ => rfl) rfl (by kernel_rfl) rfl ?_
  refine wl_bin (fun x y => Instr.indexAt 24 x y) (.tmp 37) (.tmp 33) (pt k3 1) (.int .i64 (1)) (pt k3 2) (fun _ => rfl) rfl rfl (by kernel_rfl) rfl ?_
  refine wl_st1 22 (.tmp 38) (.tmp 36) k3 2 (.int .u64 (l1 (-v))) [.bool true, .int .u64 (l0 (-v)), .int .u64 0, .int .u64 0, .int .u64 0, .int .i64 (s)] [.bool true, .int .u64 (l0 (-v)), .int .u64 (l1 (-v)), .int .u64 0, .int .u64 0, .int .i64 (s)] Q3 rfl rfl rfl rfl rfl sz22 rfl rfl rfl rfl ?_
  intro w8 hS Qn
  replace Q3 := Qn
  clear Qn
  replace Q1 := hS.other _ _ ne_k1_k3 Q1
  replace Q2 := hS.other _ _ ne_k2_k3 Q2
  replace M := hS.mo _ N_k3 M
  clear hS
  refine w_nil ?_
  refine xn_blk ?_
  refine xn_then ?_
  refine w_reg ?_
  refine wl_bin (fun x y => do eqGuard .add 3 (.tmp 30) (.const (.int .i64 (1))) x y; binOp .add 3 x y) (.tmp 30) (.const (.int .i64 (1))) (.int .i64 (1)) (.int .i64 (1)) (.int .i64 (2)) (fun _ => rfl) rfl rfl (by kernel_rfl) rfl ?_
  refine wl_mv (.tmp 39) (.int .i64 (2)) (fun _ => rfl) rfl rfl ?_
  refine w_nil ?_
  refine xn_rounds ?_
  refine w_seq ?_
  refine w_reg ?_
  refine wl_bin (fun x y => do eqGuard .lss 3 (.tmp 30) (.const (.int .i64 (4))) x y; binOp .lss 3 x y) (.tmp 30) (.const (.int .i64 (4))) (.int .i64 (2)) (.int .i64 (4)) (.bool true) (fun _ => rfl) rfl rfl (by kernel_rfl) rfl ?_
  refine w_nil ?_
  refine xn_then ?_
  refine w_seq ?_
  refine w_condT rfl ?_
  refine w_skip ?_
  refine xn_then ?_
  refine w_seq ?_
  refine w_block ?_
  refine w_seq ?_
  refine w_reg ?_
  refine wl_mv (.tmp 30) (.int .i64 (2)) (fun _ => rfl) rfl rfl ?_
  refine wl_mv (.tmp 32) (.int .i64 (2)) (fun _ => rfl) rfl rfl ?_
  refine w_nil ?_
  refine xn_then ?_
  refine w_reg ?_
  refine wl_mv (.tmp 8) (.int .i64 (2)) (fun _ => rfl) rfl rfl ?_
  refine wl_mv (.tmp 8) (.int .i64 (2)) (fun _ => rfl) rfl rfl ?_
  refine wl_bin (fun x y => Instr.indexAt 31 x y) (.tmp 2) (.tmp 34) (pt k1 0) (.int .i64 (2)) (pt k1 2) (fun _ => rfl) rfl rfl (by kernel_rfl) rfl ?_
  refine wl_load 22 (.tmp 35) (pt k1 2) (.int .u64 (l2 (-v))) rfl rfl (run_one Q1 22 2 rfl Try.underlying22 rfl) rfl ?_
  refine wl_un (fun v => Instr.fieldAt 26 v 1) (.tmp 7) (pt k3 0) (pt k3 1) (fun _ => rfl) rfl (by kernel_rfl) rfl ?_
  refine wl_bin (fun x y => Instr.indexAt 24 x y) (.tmp 37) (.tmp 33) (pt k3 1) (.int .i64 (2)) (pt k3 3) (fun _ => rfl) rfl rfl (by kernel_rfl) rfl ?_
  refine wl_st1 22 (.tmp 38) (.tmp 36) k3 3 (.int .u64 (l2 (-v))) [.bool true, .int .u64 (l0 (-v)), .int .u64 (l1 (-v)), .int .u64 0, .int .u64 0, .int .i64 (s)] [.bool true, .int .u64 (l0 (-v)), .int .u64 (l1 (-v)), .int .u64 (l2 (-v)), .int .u64 0, .int .i64 (s)] Q3 rfl rfl rfl rfl rfl sz22 rfl rfl rfl rfl ?_
  intro w9 hS Qn
  replace Q3 := Qn
  clear Qn
  replace Q1 := hS.other _ _ ne_k1_k3 Q1
  replace Q2 := hS.other _ _ ne_k2_k3 Q2
  replace M := hS.mo _ N_k3 M
  clear hS
  refine w_nil ?_
  refine xn_blk ?_
  refine xn_then ?_
  refine w_reg ?_
  refine wl_bin (fun x y => do eqGuard .add 3 (.tmp 30) (.const (.int .i64 (1))) x y; binOp .add 3 x y) (.tmp 30) (.const (.int .i64 (1))) (.int .i64 (2)) (.int .i64 (1)) (.int .i64 (3)) (fun _ => rfl) rfl rfl (by kernel_rfl) rfl ?_
  refine wl_mv (.tmp 39) (.int .i64 (3)) (fun _ => rfl) rfl rfl ?_
  refine w_nil ?_
  refine xn_rounds ?_
  refine w_seq ?_
  refine w_reg ?_
  refine wl_bin (fun x y => do eqGuard .lss 3 (.tmp 30) (.const (.int .i64 (4))) x y; binOp .lss 3 x y) (.tmp 30) (.const (.int .i64 (4))) (.int .i64 (3)) (.int .i64 (4)) (.bool true) (fun _ => rfl) rfl rfl (by kernel_rfl) rfl ?_
  refine w_nil ?_
  refine xn_then ?_
  refine w_seq ?_
  refine w_condT rfl ?_
  refine w_skip ?_
  refine xn_then ?_
  refine w_seq ?_
  refine w_block ?_
  refine w_seq ?_
  refine w_reg ?_
  refine wl_mv (.tmp 30) (.int .i64 (3)) (fun _ => rfl) rfl rfl ?_
  refine wl_mv (.tmp 32) (.int .i64 (3)) (fun _ => rfl) rfl rfl ?_
  refine w_nil ?_
  refine xn_then ?_
  refine w_reg ?_
  refine wl_mv (.tmp 8) (.int .i64 (3)) (fun _ => rfl) rfl rfl ?_
  refine wl_mv (.tmp 8) (.int .i64 (3)) (fun _ => rfl) rfl rfl ?_
  refine wl_bin (fun x y => Instr.indexAt 31 x y) (.tmp 2) (.tmp 34) (pt k1 0) (.int .i64 (3)) (pt k1 3) (fun _ => rfl) rfl rfl (by kernel_rfl) rfl ?_
  refine wl_load 22 (.tmp 35) (pt k1 3) (.int .u64 (l3 (-v))) rfl rfl (run_one Q1 22 3 rfl Try.underlying22 rfl) rfl ?_
  refine wl_un (fun v => Instr.fieldAt 26 v 1) (.tmp 7) (pt k3 0) (pt k3 1) (fun _ => rfl) rfl (by kernel_rfl) rfl ?_
  refine wl_bin (fun x y => Instr.indexAt 24 x y) (.tmp 37) (.tmp 33) (pt k3 1) (.int .i64 (3)) (pt k3 4) (fun _ => rfl) rfl rfl (by kernel_rfl) rfl ?_
  refine wl_st1 22 (.tmp 38) (.tmp 36) k3 4 (.int .u64 (l3 (-v))) [.bool true, .int .u64 (l0 (-v)), .int .u64 (l1 (-v)), .int .u64 (l2 (-v)), .int .u64 0, .int .i64 (s)] [.bool true, .int .u64 (l0 (-v)), .int .u64 (l1 (-v)), .int .u64 (l2 (-v)), .int .u64 (l3 (-v)), .int .i64 (s)] Q3 rfl rfl rfl rfl rfl sz22 rfl rfl rfl rfl ?_
  intro w10 hS Qn
  replace Q3 := Qn
  clear Qn
  replace Q1 := hS.other _ _ ne_k1_k3 Q1
  replace Q2 := hS.other _ _ ne_k2_k3 Q2
  replace M := hS.mo _ N_k3 M
  clear hS
  refine w_nil ?_
  refine xn_blk ?_
  refine xn_then ?_
  refine w_reg ?_
  refine wl_bin (fun x y => do eqGuard .add 3 (.tmp 30) (.const (.int .i64 (1))) x y; binOp .add 3 x y) (.tmp 30) (.const (.int .i64 (1))) (.int .i64 (3)) (.int .i64 (1)) (.int .i64 (4)) (fun _ => rfl) rfl rfl (by kernel_rfl) rfl ?_
  refine wl_mv (.tmp 39) (.int .i64 (4)) (fun _ => rfl) rfl rfl ?_
  refine w_nil ?_
  refine xn_rounds ?_
  refine w_seq ?_
  refine w_reg ?_
  refine wl_bin (fun x y => do eqGuard .lss 3 (.tmp 30) (.const (.int .i64 (4))) x y; binOp .lss 3 x y) (.tmp 30) (.const (.int .i64 (4))) (.int .i64 (4)) (.int .i64 (4)) (.bool false) (fun _ => rfl) rfl rfl (by kernel_rfl) rfl ?_
  refine w_nil ?_
  refine xn_then ?_
  refine w_seq ?_
  refine w_condF rfl ?_
  refine w_exit ?_
  refine xx_then ?_
  refine xx_then ?_
  refine xx_blk ?_
  refine xn_then ?_
  refine w_seq ?_
  refine w_reg ?_
  refine wl_load 26 (.tmp 7) (pt k3 0) (.agg #[.bool true, .int .u64 (l0 (-v)), .int .u64 (l1 (-v)), .int .u64 (l2 (-v)), .int .u64 (l3 (-v)), .int .i64 (s)]) rfl rfl (run_row Q3 26 0 6 [.bool true, .int .u64 (l0 (-v)), .int .u64 (l1 (-v)), .int .u64 (l2 (-v)), .int .u64 (l3 (-v)), .int .i64 (s)] rfl Try.underlying26 rfl sz26) rfl ?_
  refine wl_st 26 (.tmp 4) (.tmp 40) k2 0 #[.bool true, .int .u64 (l0 (-v)), .int .u64 (l1 (-v)), .int .u64 (l2 (-v)), .int .u64 (l3 (-v)), .int .i64 (s)] [.bool false, .int .u64 0, .int .u64 0, .int .u64 0, .int .u64 0, .int .i64 0] [.bool true, .int .u64 (l0 (-v)), .int .u64 (l1 (-v)), .int .u64 (l2 (-v)), .int .u64 (l3 (-v)), .int .i64 (s)] Q2 rfl rfl rfl rfl rfl sz26 rfl rfl rfl ?_
  intro w11 hS Qn
  replace Q2 := Qn
  clear Qn
  replace Q1 := hS.other _ _ ne_k1_k2 Q1
  replace Q3 := hS.other _ _ ne_k2_k3.symm Q3
  replace M := hS.mo _ N_k2 M
  clear hS
  refine wl_mv (.const (.int .i64 (0))) (.int .i64 (0)) (fun _ => rfl) rfl rfl ?_
  refine w_nil ?_
  refine xn_then ?_
  refine w_ret ?_
  exact w_ret2 _ _ (.agg #[.bool true, .int .u64 (l0 (-v)), .int .u64 (l1 (-v)), .int .u64 (l2 (-v)), .int .u64 (l3 (-v)), .int .i64 (s)]) (.int .i64 (0)) rfl ⟨k2, rfl, (run_row Q2 26 0 6 [.bool true, .int .u64 (l0 (-v)), .int .u64 (l1 (-v)), .int .u64 (l2 (-v)), .int .u64 (l3 (-v)), .int .i64 (s)] rfl Try.underlying26 rfl sz26)⟩ rfl ⟨rfl, M⟩
theorem narrow_tf (v s : Int) (q0 : decide (s < 0) = false) (q1 : decide (18 < s) = false) (hneg : decide (9223372036854775808 ≤ l4 v) = true) (h4 : decide (l4 (-v) = 0) = false) : Calls Try.prog 18 #[wv v, .int .i64 s] w fun e w' => e = .returned (.tuple #[.agg #[.bool false, .int .u64 0, .int .u64 0, .int .u64 0, .int .u64 0, .int .i64 0], .int .i64 7]) ∧ Mo w w' := by
  have hl4 := (l_bd v).2.2.2.2
  refine w_enter 41 Try.func18 Try.ntmps18 rfl rfl ?_
  have M : Mo w w := Mo.refl _
  refine w_seq ?_
  refine w_reg ?_
  refine wl_box 31 (.tmp 0) (.agg #[.int .u64 (l0 (v)), .int .u64 (l1 (v)), .int .u64 (l2 (v)), .int .u64 (l3 (v)), .int .u64 (l4 (v))]) (#[.int .u64 (l0 (v)), .int .u64 (l1 (v)), .int .u64 (l2 (v)), .int .u64 (l3 (v)), .int .u64 (l4 (v))]) rfl rfl (fun _ => by kernel_rfl) rfl ?_
  intro k1 w1 hk hz hq Q1
  have N_k1 : w.heap.size ≤ k1 := by have := M.size; omega
  replace M := M.trans hq
  clear hk hz hq
  refine wl_alloc 26 #[.bool false, .int .u64 0, .int .u64 0, .int .u64 0, .int .u64 0, .int .i64 0] rfl (fun _ => by kernel_rfl) rfl ?_
  intro k2 w2 hk hz hq Q2
  have ne_k1_k2 : k1 ≠ k2 := by have := Q1.lt; omega
  have N_k2 : w.heap.size ≤ k2 := by have := M.size; omega
  replace Q1 := Q1.mo hq
  replace M := M.trans hq
  clear hk hz hq
  refine wl_mv (.const (.int .i64 (0))) (.int .i64 (0)) (fun _ => rfl) rfl rfl ?_
  refine w_nil ?_
  refine xn_then ?_
  refine w_seq ?_
  refine w_seq ?_
  refine w_reg ?_
  refine wl_mv (.tmp 1) (.int .i64 (s)) (fun _ => rfl) rfl rfl ?_
  refine wl_bin (fun x y => do eqGuard .lss 3 (.tmp 9) (.const (.int .i64 (0))) x y; binOp .lss 3 x y) (.tmp 9) (.const (.int .i64 (0))) (.int .i64 (s)) (.int .i64 (0)) (.bool false) (fun _ => rfl) rfl rfl (ltI q0 _ _ _) rfl ?_
  refine wl_mv (.tmp 10) (.bool false) (fun _ => rfl) rfl rfl ?_
  refine wl_mv (.tmp 1) (.int .i64 (s)) (fun _ => rfl) rfl rfl ?_
  refine wl_bin (fun x y => do eqGuard .gtr 3 (.tmp 12) (.const (.int .i64 (18))) x y; binOp .gtr 3 x y) (.tmp 12) (.const (.int .i64 (18))) (.int .i64 (s)) (.int .i64 (18)) (.bool false) (fun _ => rfl) rfl rfl (gtI q1 _ _ _) rfl ?_
  refine wl_pick (.tmp 11) (.const (.bool true)) (.tmp 13) false (.bool false) (fun _ => rfl) rfl rfl rfl ?_
  refine w_nil ?_
  refine xn_then ?_
  refine w_condF rfl ?_
  refine w_skip ?_
  refine xn_then ?_
  refine w_seq ?_
  refine w_reg ?_
  refine wl_bin (fun x y => Instr.indexAt 31 x y) (.tmp 2) (.const (.int .i64 (4))) (pt k1 0) (.int .i64 (4)) (pt k1 4) (fun _ => rfl) rfl rfl (by kernel_rfl) rfl ?_
  refine wl_load 22 (.tmp 16) (pt k1 4) (.int .u64 (l4 (v))) rfl rfl (run_one Q1 22 4 rfl Try.underlying22 rfl) rfl ?_
  refine wl_bin (fun x y => do eqGuard .and 22 (.tmp 17) (.const (.int .u64 (9223372036854775808))) x y; binOp .and 22 x y) (.tmp 17) (.const (.int .u64 (9223372036854775808))) (.int .u64 (l4 (v))) (.int .u64 (9223372036854775808)) (.int .u64 (9223372036854775808)) (fun _ => rfl) rfl rfl (and63U hl4.1 hl4.2 hneg _ _ _) rfl ?_
  refine wl_bin (fun x y => do eqGuard .neq 22 (.tmp 18) (.const (.int .u64 (0))) x y; binOp .neq 22 x y) (.tmp 18) (.const (.int .u64 (0))) (.int .u64 (9223372036854775808)) (.int .u64 (0)) (.bool true) (fun _ => rfl) rfl rfl (by kernel_rfl) rfl ?_
  refine wl_mv (.tmp 19) (.bool true) (fun _ => rfl) rfl rfl ?_
  refine w_nil ?_
  refine xn_then ?_
  refine w_seq ?_
  refine w_seq ?_
  refine w_reg ?_
  refine wl_mv (.tmp 6) (.bool true) (fun _ => rfl) rfl rfl ?_
  refine w_nil ?_
  refine xn_then ?_
  refine w_condT rfl ?_
  refine w_reg ?_
  refine wl_load 31 (.tmp 2) (pt k1 0) (.agg #[.int .u64 (l0 (v)), .int .u64 (l1 (v)), .int .u64 (l2 (v)), .int .u64 (l3 (v)), .int .u64 (l4 (v))]) rfl rfl (run_row Q1 31 0 5 [.int .u64 (l0 (v)), .int .u64 (l1 (v)), .int .u64 (l2 (v)), .int .u64 (l3 (v)), .int .u64 (l4 (v))] rfl Try.underlying31 rfl sz31) rfl ?_
  refine wl_call 37 [(.tmp 21)] _ [.agg #[.int .u64 (l0 (v)), .int .u64 (l1 (v)), .int .u64 (l2 (v)), .int .u64 (l3 (v)), .int .u64 (l4 (v))]] (.agg #[.int .u64 (l0 (-v)), .int .u64 (l1 (-v)), .int .u64 (l2 (-v)), .int .u64 (l3 (-v)), .int .u64 (l4 (-v))]) rfl rfl (fun _ _ => by kernel_rfl) (minus_n v) rfl ?_
  intro w3 hq
  replace Q1 := Q1.mo hq
  replace Q2 := Q2.mo hq
  replace M := M.trans hq
  clear hq
  refine wl_st 31 (.tmp 2) (.tmp 22) k1 0 #[.int .u64 (l0 (-v)), .int .u64 (l1 (-v)), .int .u64 (l2 (-v)), .int .u64 (l3 (-v)), .int .u64 (l4 (-v))] [.int .u64 (l0 (v)), .int .u64 (l1 (v)), .int .u64 (l2 (v)), .int .u64 (l3 (v)), .int .u64 (l4 (v))] [.int .u64 (l0 (-v)), .int .u64 (l1 (-v)), .int .u64 (l2 (-v)), .int .u64 (l3 (-v)), .int .u64 (l4 (-v))] Q1 rfl rfl rfl rfl rfl sz31 rfl rfl rfl ?_
  intro w4 hS Qn
  replace Q1 := Qn
  clear Qn
  replace Q2 := hS.other _ _ ne_k1_k2.symm Q2
  replace M := hS.mo _ N_k1 M
  clear hS
  refine w_nil ?_
  refine xn_then ?_
  refine w_seq ?_
  refine w_seq ?_
  refine w_reg ?_
  refine wl_bin (fun x y => Instr.indexAt 31 x y) (.tmp 2) (.const (.int .i64 (4))) (pt k1 0) (.int .i64 (4)) (pt k1 4) (fun _ => rfl) rfl rfl (by kernel_rfl) rfl ?_
  refine wl_load 22 (.tmp 23) (pt k1 4) (.int .u64 (l4 (-v))) rfl rfl (run_one Q1 22 4 rfl Try.underlying22 rfl) rfl ?_
  refine wl_bin (fun x y => do eqGuard .neq 22 (.tmp 24) (.const (.int .u64 (0))) x y; binOp .neq 22 x y) (.tmp 24) (.const (.int .u64 (0))) (.int .u64 (l4 (-v))) (.int .u64 (0)) (.bool true) (fun _ => rfl) rfl rfl (neU h4 _ _ _) rfl ?_
  refine w_nil ?_
  refine xn_then ?_
  refine w_condT rfl ?_
  refine w_seq ?_
  refine w_reg ?_
  refine wl_build 26 [] [] (.agg #[.bool false, .int .u64 0, .int .u64 0, .int .u64 0, .int .u64 0, .int .i64 0]) rfl rfl (by kernel_rfl) rfl ?_
  refine wl_st 26 (.tmp 4) (.tmp 26) k2 0 #[.bool false, .int .u64 0, .int .u64 0, .int .u64 0, .int .u64 0, .int .i64 0] [.bool false, .int .u64 0, .int .u64 0, .int .u64 0, .int .u64 0, .int .i64 0] [.bool false, .int .u64 0, .int .u64 0, .int .u64 0, .int .u64 0, .int .i64 0] Q2 rfl rfl rfl rfl rfl sz26 rfl rfl rfl ?_
  intro w5 hS Qn
  replace Q2 := Qn
  clear Qn
  replace Q1 := hS.other _ _ ne_k1_k2 Q1
  replace M := hS.mo _ N_k2 M
  clear hS
  refine wl_mv (.const (.int .i64 (7))) (.int .i64 (7)) (fun _ => rfl) rfl rfl ?_
  refine w_nil ?_
  refine xn_then ?_
  refine w_ret ?_
  refine xr_then ?_
  exact w_ret2 _ _ (.agg #[.bool false, .int .u64 0, .int .u64 0, .int .u64 0, .int .u64 0, .int .i64 0]) (.int .i64 (7)) rfl ⟨k2, rfl, (run_row Q2 26 0 6 [.bool false, .int .u64 0, .int .u64 0, .int .u64 0, .int .u64 0, .int .i64 0] rfl Try.underlying26 rfl sz26)⟩ rfl ⟨rfl, M⟩
theorem narrow_ft (v s : Int) (q0 : decide (s < 0) = false) (q1 : decide (18 < s) = false) (hneg : decide (9223372036854775808 ≤ l4 v) = false) (h4 : decide (l4 (v) = 0) = true) : Calls Try.prog 18 #[wv v, .int .i64 s] w fun e w' => e = .returned (.tuple #[dc false (v) s, .int .i64 0]) ∧ Mo w w' := by
  have hl4 := (l_bd v).2.2.2.2
  refine w_enter 41 Try.func18 Try.ntmps18 rfl rfl ?_
  have M : Mo w w := Mo.refl _
  refine w_seq ?_
  refine w_reg ?_
  refine wl_box 31 (.tmp 0) (.agg #[.int .u64 (l0 (v)), .int .u64 (l1 (v)), .int .u64 (l2 (v)), .int .u64 (l3 (v)), .int .u64 (l4 (v))]) (#[.int .u64 (l0 (v)), .int .u64 (l1 (v)), .int .u64 (l2 (v)), .int .u64 (l3 (v)), .int .u64 (l4 (v))]) rfl rfl (fun _ => by kernel_rfl) rfl ?_
  intro k1 w1 hk hz hq Q1
  have N_k1 : w.heap.size ≤ k1 := by have := M.size; omega
  replace M := M.trans hq
  clear hk hz hq
  refine wl_alloc 26 #[.bool false, .int .u64 0, .int .u64 0, .int .u64 0, .int .u64 0, .int .i64 0] rfl (fun _ => by kernel_rfl) rfl ?_
  intro k2 w2 hk hz hq Q2
  have ne_k1_k2 : k1 ≠ k2 := by have := Q1.lt; omega
  have N_k2 : w.heap.size ≤ k2 := by have := M.size; omega
  replace Q1 := Q1.mo hq
  replace M := M.trans hq
  clear hk hz hq
  refine wl_mv (.const (.int .i64 (0))) (.int .i64 (0)) (fun _ => rfl) rfl rfl ?_
  refine w_nil ?_
  refine xn_then ?_
  refine w_seq ?_
  refine w_seq ?_
  refine w_reg ?_
  refine wl_mv (.tmp 1) (.int .i64 (s)) (fun _ => rfl) rfl rfl ?_
  refine wl_bin (fun x y => do eqGuard .lss 3 (.tmp 9) (.const (.int .i64 (0))) x y; binOp .lss 3 x y) (.tmp 9) (.const (.int .i64 (0))) (.int .i64 (s)) (.int .i64 (0)) (.bool false) (fun _ => rfl) rfl rfl (ltI q0 _ _ _) rfl ?_
  refine wl_mv (.tmp 10) (.bool false) (fun _ => rfl) rfl rfl ?_
  refine wl_mv (.tmp 1) (.int .i64 (s)) (fun _ => rfl) rfl rfl ?_
  refine wl_bin (fun x y => do eqGuard .gtr 3 (.tmp 12) (.const (.int .i64 (18))) x y; binOp .gtr 3 x y) (.tmp 12) (.const (.int .i64 (18))) (.int .i64 (s)) (.int .i64 (18)) (.bool false) (fun _ => rfl) rfl rfl (gtI q1 _ _ _) rfl ?_
  refine wl_pick (.tmp 11) (.const (.bool true)) (.tmp 13) false (.bool false) (fun _ => rfl) rfl rfl rfl ?_
  refine w_nil ?_
  refine xn_then ?_
  refine w_condF rfl ?_
  refine w_skip ?_
  refine xn_then ?_
  refine w_seq ?_
  refine w_reg ?_
  refine wl_bin (fun x y => Instr.indexAt 31 x y) (.tmp 2) (.const (.int .i64 (4))) (pt k1 0) (.int .i64 (4)) (pt k1 4) (fun _ => rfl) rfl rfl (by kernel_rfl) rfl ?_
  refine wl_load 22 (.tmp 16) (pt k1 4) (.int .u64 (l4 (v))) rfl rfl (run_one Q1 22 4 rfl Try.underlying22 rfl) rfl ?_
  refine wl_bin (fun x y => do eqGuard .and 22 (.tmp 17) (.const (.int .u64 (9223372036854775808))) x y; binOp .and 22 x y) (.tmp 17) (.const (.int .u64 (9223372036854775808))) (.int .u64 (l4 (v))) (.int .u64 (9223372036854775808)) (.int .u64 (0)) (fun _ => rfl) rfl rfl (and63U hl4.1 hl4.2 hneg _ _ _) rfl ?_
  refine wl_bin (fun x y => do eqGuard .neq 22 (.tmp 18) (.const (.int .u64 (0))) x y; binOp .neq 22 x y) (.tmp 18) (.const (.int .u64 (0))) (.int .u64 (0)) (.int .u64 (0)) (.bool false) (fun _ => rfl) rfl rfl (by kernel_rfl) rfl ?_
  refine wl_mv (.tmp 19) (.bool false) (fun _ => rfl) rfl rfl ?_
  refine w_nil ?_
  refine xn_then ?_
  refine w_seq ?_
  refine w_seq ?_
  refine w_reg ?_
  refine wl_mv (.tmp 6) (.bool false) (fun _ => rfl) rfl rfl ?_
  refine w_nil ?_
  refine xn_then ?_
  refine w_condF rfl ?_
  refine w_skip ?_
  refine xn_then ?_
  refine w_seq ?_
  refine w_seq ?_
  refine w_reg ?_
  refine wl_bin (fun x y => Instr.indexAt 31 x y) (.tmp 2) (.const (.int .i64 (4))) (pt k1 0) (.int .i64 (4)) (pt k1 4) (fun _ => rfl) rfl rfl (by kernel_rfl) rfl ?_
  refine wl_load 22 (.tmp 23) (pt k1 4) (.int .u64 (l4 (v))) rfl rfl (run_one Q1 22 4 rfl Try.underlying22 rfl) rfl ?_
  refine wl_bin (fun x y => do eqGuard .neq 22 (.tmp 24) (.const (.int .u64 (0))) x y; binOp .neq 22 x y) (.tmp 24) (.const (.int .u64 (0))) (.int .u64 (l4 (v))) (.int .u64 (0)) (.bool false) (fun _ => rfl) rfl rfl (neU h4 _ _ _) rfl ?_
  refine w_nil ?_
  refine xn_then ?_
  refine w_condF rfl ?_
  refine w_skip ?_
  refine xn_then ?_
  refine w_seq ?_
  refine w_reg ?_
  refine wl_mv (.tmp 6) (.bool false) (fun _ => rfl) rfl rfl ?_
  refine wl_mv (.tmp 1) (.int .i64 (s)) (fun _ => rfl) rfl rfl ?_
  refine wl_build 26 [(0, (.tmp 27)), (2, (.tmp 28))] [(0, .bool false), (2, .int .i64 (s))] (.agg #[.bool false, .int .u64 0, .int .u64 0, .int .u64 0, .int .u64 0, .int .i64 (s)]) rfl rfl (by kernel_rfl) rfl ?_
  refine wl_alloc 26 #[.bool false, .int .u64 0, .int .u64 0, .int .u64 0, .int .u64 0, .int .i64 0] rfl (fun _ => by kernel_rfl) rfl ?_
  intro k3 w3 hk hz hq Q3
  have ne_k1_k3 : k1 ≠ k3 := by have := Q1.lt; omega
  have ne_k2_k3 : k2 ≠ k3 := by have := Q2.lt; omega
  have N_k3 : w.heap.size ≤ k3 := by have := M.size; omega
  replace Q1 := Q1.mo hq
  replace Q2 := Q2.mo hq
  replace M := M.trans hq
  clear hk hz hq
  refine wl_st 26 (.tmp 7) (.tmp 29) k3 0 #[.bool false, .int .u64 0, .int .u64 0, .int .u64 0, .int .u64 0, .int .i64 (s)] [.bool false, .int .u64 0, .int .u64 0, .int .u64 0, .int .u64 0, .int .i64 0] [.bool false, .int .u64 0, .int .u64 0, .int .u64 0, .int .u64 0, .int .i64 (s)] Q3 rfl rfl rfl rfl rfl sz26 rfl rfl rfl ?_
  intro w4 hS Qn
  replace Q3 := Qn
  clear Qn
  replace Q1 := hS.other _ _ ne_k1_k3 Q1
  replace Q2 := hS.other _ _ ne_k2_k3 Q2
  replace M := hS.mo _ N_k3 M
  clear hS
  refine w_nil ?_
  refine xn_then ?_
  refine w_seq ?_
  refine w_seq ?_
  refine w_reg ?_
  refine wl_mv (.const (.int .i64 (0))) (.int .i64 (0)) (fun _ => rfl) rfl rfl ?_
  refine w_nil ?_
  refine xn_then ?_
  refine w_block ?_
  refine w_rounds 4 ?_
  refine w_seq ?_
  refine w_reg ?_
  refine wl_bin (fun x y => do eqGuard .lss 3 (.tmp 30) (.const (.int .i64 (4))) x y; binOp .lss 3 x y) (.tmp 30) (.const (.int .i64 (4))) (.int .i64 (0)) (.int .i64 (4)) (.bool true) (fun _ => rfl) rfl rfl (by kernel_rfl) rfl ?_
  refine w_nil ?_
  refine xn_then ?_
  refine w_seq ?_
  refine w_condT rfl ?_
  refine w_skip ?_
  refine xn_then ?_
  refine w_seq ?_
  refine w_block ?_
  refine w_seq ?_
  refine w_reg ?_
  refine wl_mv (.tmp 30) (.int .i64 (0)) (fun _ => rfl) rfl rfl ?_
  refine wl_mv (.tmp 32) (.int .i64 (0)) (fun _ => rfl) rfl rfl ?_
  refine w_nil ?_
  refine xn_then ?_
  refine w_reg ?_
  refine wl_mv (.tmp 8) (.int .i64 (0)) (fun _ => rfl) rfl rfl ?_
  refine wl_mv (.tmp 8) (.int .i64 (0)) (fun _ => rfl) rfl rfl ?_
  refine wl_bin (fun x y => Instr.indexAt 31 x y) (.tmp 2) (.tmp 34) (pt k1 0) (.int .i64 (0)) (pt k1 0) (fun _ => rfl) rfl rfl (by kernel_rfl) rfl ?_
  refine wl_load 22 (.tmp 35) (pt k1 0) (.int .u64 (l0 (v))) rfl rfl (run_one Q1 22 0 rfl Try.underlying22 rfl) rfl ?_
  refine wl_un (fun v => Instr.fieldAt 26 v 1) (.tmp 7) (pt k3 0) (pt k3 1) (fun _ => rfl) rfl (by kernel_rfl) rfl ?_
  refine wl_bin (fun x y => Instr.indexAt 24 x y) (.tmp 37) (.tmp 33) (pt k3 1) (.int .i64 (0)) (pt k3 1) (fun _ => rfl) rfl rfl (by kernel_rfl) rfl ?_
  refine wl_st1 22 (.tmp 38) (.tmp 36) k3 1 (.int .u64 (l0 (v))) [.bool false, .int .u64 0, .int .u64 0, .int .u64 0, .int .u64 0, .int .i64 (s)] [.bool false, .int .u64 (l0 (v)), .int .u64 0, .int .u64 0, .int .u64 0, .int .i64 (s)] Q3 rfl rfl rfl rfl rfl sz22 rfl rfl rfl rfl ?_
  intro w5 hS Qn
  replace Q3 := Qn
  clear Qn
  replace Q1 := hS.other _ _ ne_k1_k3 Q1
  replace Q2 := hS.other _ _ ne_k2_k3 Q2
  replace M := hS.mo _ N_k3 M
  clear hS
  refine w_nil ?_
  refine xn_blk ?_
  refine xn_then ?_
  refine w_reg ?_
  refine wl_bin (fun x y => do eqGuard .add 3 (.tmp 30) (.const (.int .i64 (1))) x y; binOp .add 3 x y) (.tmp 30) (.const (.int .i64 (1))) (.int .i64 (0)) (.int .i64 (1)) (.int .i64 (1)) (fun _ => rfl) rfl rfl (by kernel_rfl) rfl ?_
  refine wl_mv (.tmp 39) (.int .i64 (1)) (fun _ => rfl) rfl rfl ?_
  refine w_nil ?_
  refine xn_rounds ?_
  refine w_seq ?_
  refine w_reg ?_
  refine wl_bin (fun x y => do eqGuard .lss 3 (.tmp 30) (.const (.int .i64 (4))) x y; binOp .lss 3 x y) (.tmp 30) (.const (.int .i64 (4))) (.int .i64 (1)) (.int .i64 (4)) (.bool true) (fun _ => rfl) rfl rfl (by kernel_rfl) rfl ?_
  refine w_nil ?_
  refine xn_then ?_
  refine w_seq ?_
  refine w_condT rfl ?_
  refine w_skip ?_
  refine xn_then ?_
  refine w_seq ?_
  refine w_block ?_
  refine w_seq ?_
  refine w_reg ?_
  refine wl_mv (.tmp 30) (.int .i64 (1)) (fun _ => rfl) rfl rfl ?_
  refine wl_mv (.tmp 32) (.int .i64 (1)) (fun _ => rfl) rfl rfl ?_
  refine w_nil ?_
  refine xn_then ?_
  refine w_reg ?_
  refine wl_mv (.tmp 8) (.int .i64 (1)) (fun _ => rfl) rfl rfl ?_
  refine wl_mv (.tmp 8) (.int .i64 (1)) (fun _ => rfl) rfl rfl ?_
  refine wl_bin (fun x y => Instr.indexAt 31 x y) (.tmp 2) (.tmp 34) (pt k1 0) (.int .i64 (1)) (pt k1 1) (fun _ => rfl) rfl rfl (by kernel_rfl) rfl ?_
  refine wl_load 22 (.tmp 35) (pt k1 1) (.int .u64 (l1 (v))) rfl rfl (run_one Q1 22 1 rfl Try.underlying22 rfl) rfl ?_
  refine wl_un (fun v => Instr.fieldAt 26 v 1) (.tmp 7) (pt k3 0) (pt k3 1) (fun _ => rfl) rfl (by kernel_rfl) rfl ?_
  refine wl_bin (fun x y => Instr.indexAt 24 x y) (.tmp 37) (.tmp 33) (pt k3 1) (.int .i64 (1)) (pt k3 2) (fun _ => rfl) rfl rfl (by kernel_rfl) rfl ?_
  refine wl_st1 22 (.tmp 38) (.tmp 36) k3 2 (.int .u64 (l1 (v))) [.bool false, .int .u64 (l0 (v)), .int .u64 0, .int .u64 0, .int .u64 0, .int .i64 (s)] [.bool false, .int .u64 (l0 (v)), .int .u64 (l1 (v)), .int .u64 0, .int .u64 0, .int .i64 (s)] Q3 rfl rfl rfl rfl rfl sz22 rfl rfl rfl rfl ?_
  intro w6 hS Qn
  replace Q3 := Qn
  clear Qn
  replace Q1 := hS.other _ _ ne_k1_k3 Q1
  replace Q2 := hS.other _ _ ne_k2_k3 Q2
  replace M := hS.mo _ N_k3 M
  clear hS
  refine w_nil ?_
  refine xn_blk ?_
  refine xn_then ?_
  refine w_reg ?_
  refine wl_bin (fun x y => do eqGuard .add 3 (.tmp 30) (.const (.int .i64 (1))) x y; binOp .add 3 x y) (.tmp 30) (.const (.int .i64 (1))) (.int .i64 (1)) (.int .i64 (1)) (.int .i64 (2)) (fun _ => rfl) rfl rfl (by kernel_rfl) rfl ?_
  refine wl_mv (.tmp 39) (.int .i64 (2)) (fun _ => rfl) rfl rfl ?_
  refine w_nil ?_
  refine xn_rounds ?_
  refine w_seq ?_
  refine w_reg ?_
  refine wl_bin (fun x y => do eqGuard .lss 3 (.tmp 30) (.const (.int .i64 (4))) x y; binOp .lss 3 x y) (.tmp 30) (.const (.int .i64 (4))) (.int .i64 (2)) (.int .i64 (4)) (.bool true) (fun _ => rfl) rfl rfl (by kernel_rfl) rfl ?_
  refine w_nil ?_
  refine xn_then ?_
  refine w_seq ?_
  refine w_condT rfl ?_
  refine w_skip ?_
  refine xn_then ?_
  refine w_seq ?_
  refine w_block ?_
  refine w_seq ?_
  refine w_reg ?_
  refine wl_mv (.tmp 30) (.int .i64 (2)) (fun _ => rfl) rfl rfl ?_
  refine wl_mv (.tmp 32) (.int .i64 (2)) (fun _ => rfl) rfl rfl ?_
  refine w_nil ?_
  refine xn_then ?_
  refine w_reg ?_
  refine wl_mv (.tmp 8) (.int .i64 (2)) (fun _ => rfl) rfl rfl ?_
  refine wl_mv (.tmp 8) (.int .i64 (2)) (fun _ => rfl) rfl rfl ?_
  refine wl_bin (fun x y => Instr.indexAt 31 x y) (.tmp 2) (.tmp 34) (pt k1 0) (.int .i64 (2)) (pt k1 2) (fun _ => rfl) rfl rfl (by kernel_rfl) rfl ?_
  refine wl_load 22 (.tmp 35) (pt k1 2) (.int .u64 (l2 (v))) rfl rfl (run_one Q1 22 2 rfl Try.underlying22 rfl) rfl ?_
  refine wl_un (fun v => Instr.fieldAt 26 v 1) (.tmp 7) (pt k3 0) (pt k3 1) (fun _ => rfl) rfl (by kernel_rfl) rfl ?_
  refine wl_bin (fun x y => Instr.indexAt 24 x y) (.tmp 37) (.tmp 33) (pt k3 1) (.int .i64 (2)) (pt k3 3) (fun _ => rfl) rfl rfl (by kernel_rfl) rfl ?_
  refine wl_st1 22 (.tmp 38) (.tmp 36) k3 3 (.int .u64 (l2 (v))) [.bool false, .int .u64 (l0 (v)), .int .u64 (l1 (v)), .int .u64 0, .int .u64 0, .int .i64 (s)] [.bool false, .int .u64 (l0 (v)), .int .u64 (l1 (v)), .int .u64 (l2 (v)), .int .u64 0, .int .i64 (s)] Q3 rfl rfl rfl rfl rfl sz22 rfl rfl rfl rfl ?_
  intro w7 hS Qn
  replace Q3 := Qn
  clear Qn
  replace Q1 := hS.other _ _ ne_k1_k3 Q1
  replace Q2 := hS.other _ _ ne_k2_k3 Q2
  replace M := hS.mo _ N_k3 M
  clear hS
  refine w_nil ?_
  refine xn_blk ?_
  refine xn_then ?_
  refine w_reg ?_
  refine wl_bin (fun x y => do eqGuard .add 3 (.tmp 30) (.const (.int .i64 (1))) x y; binOp .add 3 x y) (.tmp 30) (.const (.int .i64 (1))) (.int .i64 (2)) (.int .i64 (1)) (.int .i64 (3)) (fun _ => rfl) rfl rfl (by kernel_rfl) rfl ?_
  refine wl_mv (.tmp 39) (.int .i64 (3)) (fun _ => rfl) rfl rfl ?_
  refine w_nil ?_
  refine xn_rounds ?_
  refine w_seq ?_
  refine w_reg ?_
  refine wl_bin (fun x y => do eqGuard .lss 3 (.tmp 30) (.const (.int .i64 (4))) x y; binOp .lss 3 x y) (.tmp 30) (.const (.int .i64 (4))) (.int .i64 (3)) (.int .i64 (4)) (.bool true) (fun _ => rfl) rfl rfl (by kernel_rfl) rfl ?_
  refine w_nil ?_
  refine xn_then ?_
  refine w_seq ?_
  refine w_condT rfl ?_
  refine w_skip ?_
  refine xn_then ?_
  refine w_seq ?_
  refine w_block ?_
  refine w_seq ?_
  refine w_reg ?_
  refine wl_mv (.tmp 30) (.int .i64 (3)) (fun _ => rfl) rfl rfl ?_
  refine wl_mv (.tmp 32) (.int .i64 (3)) (fun _ => rfl) rfl rfl ?_
  refine w_nil ?_
  refine xn_then ?_
  refine w_reg ?_
  refine wl_mv (.tmp 8) (.int .i64 (3)) (fun _ => rfl) rfl rfl ?_
  refine wl_mv (.tmp 8) (.int .i64 (3)) (fun _ => rfl) rfl rfl ?_
  refine wl_bin (fun x y => Instr.indexAt 31 x y) (.tmp 2) (.tmp 34) (pt k1 0) (.int .i64 (3)) (pt k1 3) (fun _ => rfl) rfl rfl (by kernel_rfl) rfl ?_
  refine wl_load 22 (.tmp 35) (pt k1 3) (.int .u64 (l3 (v))) rfl rfl (run_one Q1 22 3 rfl Try.underlying22 rfl) rfl ?_
  refine wl_un (fun v => Instr.fieldAt 26 v 1) (.tmp 7) (pt k3 0) (pt k3 1) (fun _ => rfl) rfl (by kernel_rfl) rfl ?_
  refine wl_bin (fun x y => Instr.indexAt 24 x y) (.tmp 37) (.tmp 33) (pt k3 1) (.int .i64 (3)) (pt k3 4) (fun _ => rfl) rfl rfl (by kernel_rfl) rfl ?_
  refine wl_st1 22 (.tmp 38) (.tmp 36) k3 4 (.int .u64 (l3 (v))) [.bool false, .int .u64 (l0 (v)), .int .u64 (l1 (v)), .int .u64 (l2 (v)), .int .u64 0, .int .i64 (s)] [.bool false, .int .u64 (l0 (v)), .int .u64 (l1 (v)), .int .u64 (l2 (v)), .int .u64 (l3 (v)), .int .i64 (s)] Q3 rfl rfl rfl rfl rfl sz22 rfl rfl rfl rfl ?_
  intro w8 hS Qn
  replace Q3 := Qn
  clear Qn
  replace Q1 := hS.other _ _ ne_k1_k3 Q1
  replace Q2 := hS.other _ _ ne_k2_k3 Q2
  replace M := hS.mo _ N_k3 M
  clear hS
  refine w_nil ?_
  refine xn_blk ?_
  refine xn_then ?_
  refine w_reg ?_
  refine wl_bin (fun x y => do eqGuard .add 3 (.tmp 30) (.const (.int .i64 (1))) x y; binOp .add 3 x y) (.tmp 30) (.const (.int .i64 (1))) (.int .i64 (3)) (.int .i64 (1)) (.int .i64 (4)) (fun _ => rfl) rfl rfl (by kernel_rfl) rfl ?_
  refine wl_mv (.tmp 39) (.int .i64 (4)) (fun _ => rfl) rfl rfl ?_
  refine w_nil ?_
  refine xn_rounds ?_
  refine w_seq ?_
  refine w_reg ?_
  refine wl_bin (fun x y => do eqGuard .lss 3 (.tmp 30) (.const (.int .i64 (4))) x y; binOp .lss 3 x y) (.tmp 30) (.const (.int .i64 (4))) (.int .i64 (4)) (.int .i64 (4)) (.bool false) (fun _ => rfl) rfl rfl (by kernel_rfl) rfl ?_
  refine w_nil ?_
  refine xn_then ?_
  refine w_seq ?_
  refine w_condF rfl ?_
  refine w_exit ?_
  refine xx_then ?_
  refine xx_then ?_
  refine xx_blk ?_
  refine xn_then ?_
  refine w_seq ?_
  refine w_reg ?_
  refine wl_load 26 (.tmp 7) (pt k3 0) (.agg #[.bool false, .int .u64 (l0 (v)), .int .u64 (l1 (v)), .int .u64 (l2 (v)), .int .u64 (l3 (v)), .int .i64 (s)]) rfl rfl (run_row Q3 26 0 6 [.bool false, .int .u64 (l0 (v)), .int .u64 (l1 (v)), .int .u64 (l2 (v)), .int .u64 (l3 (v)), .int .i64 (s)] rfl Try.underlying26 rfl sz26) rfl ?_
  refine wl_st 26 (.tmp 4) (.tmp 40) k2 0 #[.bool false, .int .u64 (l0 (v)), .int .u64 (l1 (v)), .int .u64 (l2 (v)), .int .u64 (l3 (v)), .int .i64 (s)] [.bool false, .int .u64 0, .int .u64 0, .int .u64 0, .int .u64 0, .int .i64 0] [.bool false, .int .u64 (l0 (v)), .int .u64 (l1 (v)), .int .u64 (l2 (v)), .int .u64 (l3 (v)), .int .i64 (s)] Q2 rfl rfl rfl rfl rfl sz26 rfl rfl rfl ?_
  intro w9 hS Qn
  replace Q2 := Qn
  clear Qn
  replace Q1 := hS.other _ _ ne_k1_k2 Q1
  replace Q3 := hS.other _ _ ne_k2_k3.symm Q3
  replace M := hS.mo _ N_k2 M
  clear hS
  refine wl_mv (.const (.int .i64 (0))) (.int .i64 (0)) (fun _ => rfl) rfl rfl ?_
  refine w_nil ?_
  refine xn_then ?_
  refine w_ret ?_
  exact w_ret2 _ _ (.agg #[.bool false, .int .u64 (l0 (v)), .int .u64 (l1 (v)), .int .u64 (l2 (v)), .int .u64 (l3 (v)), .int .i64 (s)]) (.int .i64 (0)) rfl ⟨k2, rfl, (run_row Q2 26 0 6 [.bool false, .int .u64 (l0 (v)), .int .u64 (l1 (v)), .int .u64 (l2 (v)), .int .u64 (l3 (v)), .int .i64 (s)] rfl Try.underlying26 rfl sz26)⟩ rfl ⟨rfl, M⟩
theorem narrow_ff (v s : Int) (q0 : decide (s < 0) = false) (q1 : decide (18 < s) = false) (hneg : decide (9223372036854775808 ≤ l4 v) = false) (h4 : decide (l4 (v) = 0) = false) : Calls Try.prog 18 #[wv v, .int .i64 s] w fun e w' => e = .returned (.tuple #[.agg #[.bool false, .int .u64 0, .int .u64 0, .int .u64 0, .int .u64 0, .int .i64 0], .int .i64 7]) ∧ Mo w w' := by
  have hl4 := (l_bd v).2.2.2.2
  refine w_enter 41 Try.func18 Try.ntmps18 rfl rfl ?_
  have M : Mo w w := Mo.refl _
  refine w_seq ?_
  refine w_reg ?_
  refine wl_box 31 (.tmp 0) (.agg #[.int .u64 (l0 (v)), .int .u64 (l1 (v)), .int .u64 (l2 (v)), .int .u64 (l3 (v)), .int .u64 (l4 (v))]) (#[.int .u64 (l0 (v)), .int .u64 (l1 (v)), .int .u64 (l2 (v)), .int .u64 (l3 (v)), .int .u64 (l4 (v))]) rfl rfl (fun _ => by kernel_rfl) rfl ?_
  intro k1 w1 hk hz hq Q1
  have N_k1 : w.heap.size ≤ k1 := by have := M.size; omega
  replace M := M.trans hq
  clear hk hz hq
  refine wl_alloc 26 #[.bool false, .int .u64 0, .int .u64 0, .int .u64 0, .int .u64 0, .int .i64 0] rfl (fun _ => by kernel_rfl) rfl ?_
  intro k2 w2 hk hz hq Q2
  have ne_k1_k2 : k1 ≠ k2 := by have := Q1.lt; omega
  have N_k2 : w.heap.size ≤ k2 := by have := M.size; omega
  replace Q1 := Q1.mo hq
  replace M := M.trans hq
  clear hk hz hq
  refine wl_mv (.const (.int .i64 (0))) (.int .i64 (0)) (fun _ => rfl) rfl rfl ?_
  refine w_nil ?_
  refine xn_then ?_
  refine w_seq ?_
  refine w_seq ?_
  refine w_reg ?_
  refine wl_mv (.tmp 1) (.int .i64 (s)) (fun _ => rfl) rfl rfl ?_
  refine wl_bin (fun x y => do eqGuard .lss 3 (.tmp 9) (.const (.int .i64 (0))) x y; binOp .lss 3 x y) (.tmp 9) (.const (.int .i64 (0))) (.int .i64 (s)) (.int .i64 (0)) (.bool false) (fun _ => rfl) rfl rfl (ltI q0 _ _ _) rfl ?_
  refine wl_mv (.tmp 10) (.bool false) (fun _ => rfl) rfl rfl ?_
  refine wl_mv (.tmp 1) (.int .i64 (s)) (fun _ => rfl) rfl rfl ?_
  refine wl_bin (fun x y => do eqGuard .gtr 3 (.tmp 12) (.const (.int .i64 (18))) x y; binOp .gtr 3 x y) (.tmp 12) (.const (.int .i64 (18))) (.int .i64 (s)) (.int .i64 (18)) (.bool false) (fun _ => rfl) rfl rfl (gtI q1 _ _ _) rfl ?_
  refine wl_pick (.tmp 11) (.const (.bool true)) (.tmp 13) false (.bool false) (fun _ => rfl) rfl rfl rfl ?_
  refine w_nil ?_
  refine xn_then ?_
  refine w_condF rfl ?_
  refine w_skip ?_
  refine xn_then ?_
  refine w_seq ?_
  refine w_reg ?_
  refine wl_bin (fun x y => Instr.indexAt 31 x y) (.tmp 2) (.const (.int .i64 (4))) (pt k1 0) (.int .i64 (4)) (pt k1 4) (fun _ => rfl) rfl rfl (by kernel_rfl) rfl ?_
  refine wl_load 22 (.tmp 16) (pt k1 4) (.int .u64 (l4 (v))) rfl rfl (run_one Q1 22 4 rfl Try.underlying22 rfl) rfl ?_
  refine wl_bin (fun x y => do eqGuard .and 22 (.tmp 17) (.const (.int .u64 (9223372036854775808))) x y; binOp .and 22 x y) (.tmp 17) (.const (.int .u64 (9223372036854775808))) (.int .u64 (l4 (v))) (.int .u64 (9223372036854775808)) (.int .u64 (0)) (fun _ => rfl) rfl rfl (and63U hl4.1 hl4.2 hneg _ _ _) rfl ?_
  refine wl_bin (fun x y => do eqGuard .neq 22 (.tmp 18) (.const (.int .u64 (0))) x y; binOp .neq 22 x y) (.tmp 18) (.const (.int .u64 (0))) (.int .u64 (0)) (.int .u64 (0)) (.bool false) (fun _ => rfl) rfl rfl (by kernel_rfl) rfl ?_
  refine wl_mv (.tmp 19) (.bool false) (fun _ => rfl) rfl rfl ?_
  refine w_nil ?_
  refine xn_then ?_
  refine w_seq ?_
  refine w_seq ?_
  refine w_reg ?_
  refine wl_mv (.tmp 6) (.bool false) (fun _ => rfl) rfl rfl ?_
  refine w_nil ?_
  refine xn_then ?_
  refine w_condF rfl ?_
  refine w_skip ?_
  refine xn_then ?_
  refine w_seq ?_
  refine w_seq ?_
  refine w_reg ?_
  refine wl_bin (fun x y => Instr.indexAt 31 x y) (.tmp 2) (.const (.int .i64 (4))) (pt k1 0) (.int .i64 (4)) (pt k1 4) (fun _ => rfl) rfl rfl (by kernel_rfl) rfl ?_
  refine wl_load 22 (.tmp 23) (pt k1 4) (.int .u64 (l4 (v))) rfl rfl (run_one Q1 22 4 rfl Try.underlying22 rfl) rfl ?_
  refine wl_bin (fun x y => do eqGuard .neq 22 (.tmp 24) (.const (.int .u64 (0))) x y; binOp .neq 22 x y) (.tmp 24) (.const (.int .u64 (0))) (.int .u64 (l4 (v))) (.int .u64 (0)) (.bool true) (fun _ => rfl) rfl rfl (neU h4 _ _ _) rfl ?_
  refine w_nil ?_
  refine xn_then ?_
  refine w_condT rfl ?_
  refine w_seq ?_
  refine w_reg ?_
  refine wl_build 26 [] [] (.agg #[.bool false, .int .u64 0, .int .u64 0, .int .u64 0, .int .u64 0, .int .i64 0]) rfl rfl (by kernel_rfl) rfl ?_
  refine wl_st 26 (.tmp 4) (.tmp 26) k2 0 #[.bool false, .int .u64 0, .int .u64 0, .int .u64 0, .int .u64 0, .int .i64 0] [.bool false, .int .u64 0, .int .u64 0, .int .u64 0, .int .u64 0, .int .i64 0] [.bool false, .int .u64 0, .int .u64 0, .int .u64 0, .int .u64 0, .int .i64 0] Q2 rfl rfl rfl rfl rfl sz26 rfl rfl rfl ?_
  intro w3 hS Qn
  replace Q2 := Qn
  clear Qn
  replace Q1 := hS.other _ _ ne_k1_k2 Q1
  replace M := hS.mo _ N_k2 M
  clear hS
  refine wl_mv (.const (.int .i64 (7))) (.int .i64 (7)) (fun _ => rfl) rfl rfl ?_
  refine w_nil ?_
  refine xn_then ?_
  refine w_ret ?_
  refine xr_then ?_
  exact w_ret2 _ _ (.agg #[.bool false, .int .u64 0, .int .u64 0, .int .u64 0, .int .u64 0, .int .i64 0]) (.int .i64 (7)) rfl ⟨k2, rfl, (run_row Q2 26 0 6 [.bool false, .int .u64 0, .int .u64 0, .int .u64 0, .int .u64 0, .int .i64 0] rfl Try.underlying26 rfl sz26)⟩ rfl ⟨rfl, M⟩
theorem rnarrow_a (v s : Int) (q0 : decide (s < 0) = true) : Calls Try.prog 15 #[wv v, .int .i64 s] w fun e w' => e = .returned (.tuple #[.agg #[.bool false, .int .u64 0, .int .u64 0, .int .u64 0, .int .u64 0, .int .i64 0], .int .i64 1]) ∧ Mo w w' := by
  refine w_enter 37 Try.func15 Try.ntmps15 rfl rfl ?_
  have M : Mo w w := Mo.refl _
  refine w_seq ?_
  refine w_reg ?_
  refine wl_box 31 (.tmp 0) (.agg #[.int .u64 (l0 (v)), .int .u64 (l1 (v)), .int .u64 (l2 (v)), .int .u64 (l3 (v)), .int .u64 (l4 (v))]) (#[.int .u64 (l0 (v)), .int .u64 (l1 (v)), .int .u64 (l2 (v)), .int .u64 (l3 (v)), .int .u64 (l4 (v))]) rfl rfl (fun _ => by kernel_rfl) rfl ?_
  intro k1 w1 hk hz hq Q1
  have N_k1 : w.heap.size ≤ k1 := by have := M.size; omega
  replace M := M.trans hq
  clear hk hz hq
  refine wl_alloc 26 #[.bool false, .int .u64 0, .int .u64 0, .int .u64 0, .int .u64 0, .int .i64 0] rfl (fun _ => by kernel_rfl) rfl ?_
  intro k2 w2 hk hz hq Q2
  have ne_k1_k2 : k1 ≠ k2 := by have := Q1.lt; omega
  have N_k2 : w.heap.size ≤ k2 := by have := M.size; omega
  replace Q1 := Q1.mo hq
  replace M := M.trans hq
  clear hk hz hq
  refine wl_mv (.const (.int .i64 (0))) (.int .i64 (0)) (fun _ => rfl) rfl rfl ?_
  refine w_nil ?_
  refine xn_then ?_
  refine w_seq ?_
  refine w_seq ?_
  refine w_reg ?_
  refine wl_mv (.tmp 1) (.int .i64 (s)) (fun _ => rfl) rfl rfl ?_
  refine wl_bin (fun x y => do eqGuard .lss 3 (.tmp 7) (.const (.int .i64 (0))) x y; binOp .lss 3 x y) (.tmp 7) (.const (.int .i64 (0))) (.int .i64 (s)) (.int .i64 (0)) (.bool true) (fun _ => rfl) rfl rfl (ltI q0 _ _ _) rfl ?_
  refine wl_mv (.tmp 8) (.bool true) (fun _ => rfl) rfl rfl ?_
  refine wl_skip rfl ?_
  refine wl_skip rfl ?_
  refine wl_pick (.tmp 9) (.const (.bool true)) (.tmp 11) true (.bool true) (fun _ => rfl) rfl rfl rfl ?_
  refine w_nil ?_
  refine xn_then ?_
  refine w_condT rfl ?_
  refine w_seq ?_
  refine w_reg ?_
  refine wl_build 26 [] [] (.agg #[.bool false, .int .u64 0, .int .u64 0, .int .u64 0, .int .u64 0, .int .i64 0]) rfl rfl (by kernel_rfl) rfl ?_
  refine wl_st 26 (.tmp 4) (.tmp 13) k2 0 #[.bool false, .int .u64 0, .int .u64 0, .int .u64 0, .int .u64 0, .int .i64 0] [.bool false, .int .u64 0, .int .u64 0, .int .u64 0, .int .u64 0, .int .i64 0] [.bool false, .int .u64 0, .int .u64 0, .int .u64 0, .int .u64 0, .int .i64 0] Q2 rfl rfl rfl rfl rfl sz26 rfl rfl rfl ?_
  intro w3 hS Qn
  replace Q2 := Qn
  clear Qn
  replace Q1 := hS.other _ _ ne_k1_k2 Q1
  replace M := hS.mo _ N_k2 M
  clear hS
  refine wl_mv (.const (.int .i64 (1))) (.int .i64 (1)) (fun _ => rfl) rfl rfl ?_
  refine w_nil ?_
  refine xn_then ?_
  refine w_ret ?_
  refine xr_then ?_
  exact w_ret2 _ _ (.agg #[.bool false, .int .u64 0, .int .u64 0, .int .u64 0, .int .u64 0, .int .i64 0]) (.int .i64 (1)) rfl ⟨k2, rfl, (run_row Q2 26 0 6 [.bool false, .int .u64 0, .int .u64 0, .int .u64 0, .int .u64 0, .int .i64 0] rfl Try.underlying26 rfl sz26)⟩ rfl ⟨rfl, M⟩
theorem rnarrow_b (v s : Int) (q0 : decide (s < 0) = false) (q1 : decide (18 < s) = true) : Calls Try.prog 15 #[wv v, .int .i64 s] w fun e w' => e = .returned (.tuple #[.agg #[.bool false, .int .u64 0, .int .u64 0, .int .u64 0, .int .u64 0, .int .i64 0], .int .i64 1]) ∧ Mo w w' := by
  refine w_enter 37 Try.func15 Try.ntmps15 rfl rfl ?_
  have M : Mo w w := Mo.refl _
  refine w_seq ?_
  refine w_reg ?_
  refine wl_box 31 (.tmp 0) (.agg #[.int .u64 (l0 (v)), .int .u64 (l1 (v)), .int .u64 (l2 (v)), .int .u64 (l3 (v)), .int .u64 (l4 (v))]) (#[.int .u64 (l0 (v)), .int .u64 (l1 (v)), .int .u64 (l2 (v)), .int .u64 (l3 (v)), .int .u64 (l4 (v))]) rfl rfl (fun _ => by kernel_rfl) rfl ?_
  intro k1 w1 hk hz hq Q1
  have N_k1 : w.heap.size ≤ k1 := by have := M.size; omega
  replace M := M.trans hq
  clear hk hz hq
  refine wl_alloc 26 #[.bool false, .int .u64 0, .int .u64 0, .int .u64 0, .int .u64 0, .int .i64 0] rfl (fun _ => by kernel_rfl) rfl ?_
  intro k2 w2 hk hz hq Q2
  have ne_k1_k2 : k1 ≠ k2 := by have := Q1.lt; omega
  have N_k2 : w.heap.size ≤ k2 := by have := M.size; omega
  replace Q1 := Q1.mo hq
  replace M := M.trans hq
  clear hk hz hq
  refine wl_mv (.const (.int .i64 (0))) (.int .i64 (0)) (fun _ => rfl) rfl rfl ?_
  refine w_nil ?_
  refine xn_then ?_
  refine w_seq ?_
  refine w_seq ?_
  refine w_reg ?_
  refine wl_mv (.tmp 1) (.int .i64 (s)) (fun _ => rfl) rfl rfl ?_
  refine wl_bin (fun x y => do eqGuard .lss 3 (.tmp 7) (.const (.int .i64 (0))) x y; binOp .lss 3 x y) (.tmp 7) (.const (.int .i64 (0))) (.int .i64 (s)) (.int .i64 (0)) (.bool false) (fun _ => rfl) rfl rfl (ltI q0 _ _ _) rfl ?_
  refine wl_mv (.tmp 8) (.bool false) (fun _ => rfl) rfl rfl ?_
  refine wl_mv (.tmp 1) (.int .i64 (s)) (fun _ => rfl) rfl rfl ?_
  refine wl_bin (fun x y => do eqGuard .gtr 3 (.tmp 10) (.const (.int .i64 (18))) x y; binOp .gtr 3 x y) (.tmp 10) (.const (.int .i64 (18))) (.int .i64 (s)) (.int .i64 (18)) (.bool true) (fun _ => rfl) rfl rfl (gtI q1 _ _ _) rfl ?_
  refine wl_pick (.tmp 9) (.const (.bool true)) (.tmp 11) false (.bool true) (fun _ => rfl) rfl rfl rfl ?_
  refine w_nil ?_
  refine xn_then ?_
  refine w_condT rfl ?_
  refine w_seq ?_
  refine w_reg ?_
  refine wl_build 26 [] [] (.agg #[.bool false, .int .u64 0, .int .u64 0, .int .u64 0, .int .u64 0, .int .i64 0]) rfl rfl (by kernel_rfl) rfl ?_
  refine wl_st 26 (.tmp 4) (.tmp 13) k2 0 #[.bool false, .int .u64 0, .int .u64 0, .int .u64 0, .int .u64 0, .int .i64 0] [.bool false, .int .u64 0, .int .u64 0, .int .u64 0, .int .u64 0, .int .i64 0] [.bool false, .int .u64 0, .int .u64 0, .int .u64 0, .int .u64 0, .int .i64 0] Q2 rfl rfl rfl rfl rfl sz26 rfl rfl rfl ?_
  intro w3 hS Qn
  replace Q2 := Qn
  clear Qn
  replace Q1 := hS.other _ _ ne_k1_k2 Q1
  replace M := hS.mo _ N_k2 M
  clear hS
  refine wl_mv (.const (.int .i64 (1))) (.int .i64 (1)) (fun _ => rfl) rfl rfl ?_
  refine w_nil ?_
  refine xn_then ?_
  refine w_ret ?_
  refine xr_then ?_
  exact w_ret2 _ _ (.agg #[.bool false, .int .u64 0, .int .u64 0, .int .u64 0, .int .u64 0, .int .i64 0]) (.int .i64 (1)) rfl ⟨k2, rfl, (run_row Q2 26 0 6 [.bool false, .int .u64 0, .int .u64 0, .int .u64 0, .int .u64 0, .int .i64 0] rfl Try.underlying26 rfl sz26)⟩ rfl ⟨rfl, M⟩
theorem rnarrow_tt (v s : Int) (q0 : decide (s < 0) = false) (q1 : decide (18 < s) = false) (hneg : decide (9223372036854775808 ≤ l4 v) = true) (h4 : decide (l4 (-v) = 0) = true) : Calls Try.prog 15 #[wv v, .int .i64 s] w fun e w' => e = .returned (.tuple #[dc true (-v) s, .int .i64 0]) ∧ Mo w w' := by
  have hl4 := (l_bd v).2.2.2.2
  refine w_enter 37 Try.func15 Try.ntmps15 rfl rfl ?_
  have M : Mo w w := Mo.refl _
  refine w_seq ?_
  refine w_reg ?_
  refine wl_box 31 (.tmp 0) (.agg #[.int .u64 (l0 (v)), .int .u64 (l1 (v)), .int .u64 (l2 (v)), .int .u64 (l3 (v)), .int .u64 (l4 (v))]) (#[.int .u64 (l0 (v)), .int .u64 (l1 (v)), .int .u64 (l2 (v)), .int .u64 (l3 (v)), .int .u64 (l4 (v))]) rfl rfl (fun _ => by kernel_rfl) rfl ?_
  intro k1 w1 hk hz hq Q1
  have N_k1 : w.heap.size ≤ k1 := by have := M.size; omega
  replace M := M.trans hq
  clear hk hz hq
  refine wl_alloc 26 #[.bool false, .int .u64 0, .int .u64 0, .int .u64 0, .int .u64 0, .int .i64 0] rfl (fun _ => by kernel_rfl) rfl ?_
  intro k2 w2 hk hz hq Q2
  have ne_k1_k2 : k1 ≠ k2 := by have := Q1.lt; omega
  have N_k2 : w.heap.size ≤ k2 := by have := M.size; omega
  replace Q1 := Q1.mo hq
  replace M := M.trans hq
  clear hk hz hq
  refine wl_mv (.const (.int .i64 (0))) (.int .i64 (0)) (fun _ => rfl) rfl rfl ?_
  refine w_nil ?_
  refine xn_then ?_
  refine w_seq ?_
  refine w_seq ?_
  refine w_reg ?_
  refine wl_mv (.tmp 1) (.int .i64 (s)) (fun _ => rfl) rfl rfl ?_
  refine wl_bin (fun x y => do eqGuard .lss 3 (.tmp 7) (.const (.int .i64 (0))) x y; binOp .lss 3 x y) (.tmp 7) (.const (.int .i64 (0))) (.int .i64 (s)) (.int .i64 (0)) (.bool false) (fun _ => rfl) rfl rfl (ltI q0 _ _ _) rfl ?_
  refine wl_mv (.tmp 8) (.bool false) (fun _ => rfl) rfl rfl ?_
  refine wl_mv (.tmp 1) (.int .i64 (s)) (fun _ => rfl) rfl rfl ?_
  refine wl_bin (fun x y => do eqGuard .gtr 3 (.tmp 10) (.const (.int .i64 (18))) x y; binOp .gtr 3 x y) (.tmp 10) (.const (.int .i64 (18))) (.int .i64 (s)) (.int .i64 (18)) (.bool false) (fun _ => rfl) rfl rfl (gtI q1 _ _ _) rfl ?_
  refine wl_pick (.tmp 9) (.const (.bool true)) (.tmp 11) false (.bool false) (fun _ => rfl) rfl rfl rfl ?_
  refine w_nil ?_
  refine xn_then ?_
  refine w_condF rfl ?_
  refine w_skip ?_
  refine xn_then ?_
  refine w_seq ?_
  refine w_reg ?_
  refine wl_bin (fun x y => Instr.indexAt 31 x y) (.tmp 2) (.const (.int .i64 (4))) (pt k1 0) (.int .i64 (4)) (pt k1 4) (fun _ => rfl) rfl rfl (by kernel_rfl) rfl ?_
  refine wl_load 22 (.tmp 14) (pt k1 4) (.int .u64 (l4 (v))) rfl rfl (run_one Q1 22 4 rfl Try.underlying22 rfl) rfl ?_
  refine wl_bin (fun x y => do eqGuard .shr 22 (.tmp 15) (.const (.int .u64 (63))) x y; binOp .shr 22 x y) (.tmp 15) (.const (.int .u64 (63))) (.int .u64 (l4 (v))) (.int .u64 (63)) (.int .u64 (1)) (fun _ => rfl) rfl rfl (shr63 hl4.1 hl4.2 hneg _ _ _) rfl ?_
  refine wl_bin (fun x y => do eqGuard .eql 22 (.tmp 16) (.const (.int .u64 (1))) x y; binOp .eql 22 x y) (.tmp 16) (.const (.int .u64 (1))) (.int .u64 (1)) (.int .u64 (1)) (.bool true) (fun _ => rfl) rfl rfl (by kernel_rfl) rfl ?_
  refine wl_mv (.tmp 17) (.bool true) (fun _ => rfl) rfl rfl ?_
  refine w_nil ?_
  refine xn_then ?_
  refine w_seq ?_
  refine w_seq ?_
  refine w_reg ?_
  refine wl_mv (.tmp 6) (.bool true) (fun _ => rfl) rfl rfl ?_
  refine w_nil ?_
  refine xn_then ?_
  refine w_condT rfl ?_
  refine w_reg ?_
  refine wl_load 31 (.tmp 2) (pt k1 0) (.agg #[.int .u64 (l0 (v)), .int .u64 (l1 (v)), .int .u64 (l2 (v)), .int .u64 (l3 (v)), .int .u64 (l4 (v))]) rfl rfl (run_row Q1 31 0 5 [.int .u64 (l0 (v)), .int .u64 (l1 (v)), .int .u64 (l2 (v)), .int .u64 (l3 (v)), .int .u64 (l4 (v))] rfl Try.underlying31 rfl sz31) rfl ?_
  refine wl_call 31 [(.tmp 19)] _ [.agg #[.int .u64 (l0 (v)), .int .u64 (l1 (v)), .int .u64 (l2 (v)), .int .u64 (l3 (v)), .int .u64 (l4 (v))]] (.agg #[.int .u64 (l0 (-v)), .int .u64 (l1 (-v)), .int .u64 (l2 (-v)), .int .u64 (l3 (-v)), .int .u64 (l4 (-v))]) rfl rfl (fun _ _ => by kernel_rfl) (rminus_n v) rfl ?_
  intro w3 hq
  replace Q1 := Q1.mo hq
  replace Q2 := Q2.mo hq
  replace M := M.trans hq
  clear hq
  refine wl_st 31 (.tmp 2) (.tmp 20) k1 0 #[.int .u64 (l0 (-v)), .int .u64 (l1 (-v)), .int .u64 (l2 (-v)), .int .u64 (l3 (-v)), .int .u64 (l4 (-v))] [.int .u64 (l0 (v)), .int .u64 (l1 (v)), .int .u64 (l2 (v)), .int .u64 (l3 (v)), .int .u64 (l4 (v))] [.int .u64 (l0 (-v)), .int .u64 (l1 (-v)), .int .u64 (l2 (-v)), .int .u64 (l3 (-v)), .int .u64 (l4 (-v))] Q1 rfl rfl rfl rfl rfl sz31 rfl rfl rfl ?_
  intro w4 hS Qn
  replace Q1 := Qn
  clear Qn
  replace Q2 := hS.other _ _ ne_k1_k2.symm Q2
  replace M := hS.mo _ N_k1 M
  clear hS
  refine w_nil ?_
  refine xn_then ?_
  refine w_seq ?_
  refine w_seq ?_
  refine w_reg ?_
  refine wl_bin (fun x y => Instr.indexAt 31 x y) (.tmp 2) (.const (.int .i64 (4))) (pt k1 0) (.int .i64 (4)) (pt k1 4) (fun _ => rfl) rfl rfl (by kernel_rfl) rfl ?_
  refine wl_load 22 (.tmp 21) (pt k1 4) (.int .u64 (l4 (-v))) rfl rfl (run_one Q1 22 4 rfl Try.underlying22 rfl) rfl ?_
  refine wl_bin (fun x y => do eqGuard .neq 22 (.tmp 22) (.const (.int .u64 (0))) x y; binOp .neq 22 x y) (.tmp 22) (.const (.int .u64 (0))) (.int .u64 (l4 (-v))) (.int .u64 (0)) (.bool false) (fun _ => rfl) rfl rfl (neU h4 _ _ _) rfl ?_
  refine w_nil ?_
  refine xn_then ?_
  refine w_condF rfl ?_
  refine w_skip ?_
  refine xn_then ?_
  refine w_seq ?_
  refine w_reg ?_
  refine wl_mv (.tmp 6) (.bool true) (fun _ => rfl) rfl rfl ?_
  refine wl_bin (fun x y => Instr.indexAt 31 x y) (.tmp 2) (.const (.int .i64 (0))) (pt k1 0) (.int .i64 (0)) (pt k1 0) (fun _ => rfl) rfl rfl (by kernel_rfl) rfl ?_
  refine wl_load 22 (.tmp 26) (pt k1 0) (.int .u64 (l0 (-v))) rfl rfl (run_one Q1 22 0 rfl Try.underlying22 rfl) rfl ?_
  refine wl_bin (fun x y => Instr.indexAt 31 x y) (.tmp 2) (.const (.int .i64 (1))) (pt k1 0) (.int .i64 (1)) (pt k1 1) (fun _ => rfl) rfl rfl (by kernel_rfl) rfl ?_
  refine wl_load 22 (.tmp 28) (pt k1 1) (.int .u64 (l1 (-v))) rfl rfl (run_one Q1 22 1 rfl Try.underlying22 rfl) rfl ?_
  refine wl_bin (fun x y => Instr.indexAt 31 x y) (.tmp 2) (.const (.int .i64 (2))) (pt k1 0) (.int .i64 (2)) (pt k1 2) (fun _ => rfl) rfl rfl (by kernel_rfl) rfl ?_
  refine wl_load 22 (.tmp 30) (pt k1 2) (.int .u64 (l2 (-v))) rfl rfl (run_one Q1 22 2 rfl Try.underlying22 rfl) rfl ?_
  refine wl_bin (fun x y => Instr.indexAt 31 x y) (.tmp 2) (.const (.int .i64 (3))) (pt k1 0) (.int .i64 (3)) (pt k1 3) (fun _ => rfl) rfl rfl (by kernel_rfl) rfl ?_
  refine wl_load 22 (.tmp 32) (pt k1 3) (.int .u64 (l3 (-v))) rfl rfl (run_one Q1 22 3 rfl Try.underlying22 rfl) rfl ?_
  refine wl_build 24 [(0, (.tmp 27)), (1, (.tmp 29)), (2, (.tmp 31)), (3, (.tmp 33))] [(0, .int .u64 (l0 (-v))), (1, .int .u64 (l1 (-v))), (2, .int .u64 (l2 (-v))), (3, .int .u64 (l3 (-v)))] (.agg #[.int .u64 (l0 (-v)), .int .u64 (l1 (-v)), .int .u64 (l2 (-v)), .int .u64 (l3 (-v))]) rfl rfl (by kernel_rfl) rfl ?_
  refine wl_mv (.tmp 1) (.int .i64 (s)) (fun _ => rfl) rfl rfl ?_
  refine wl_build 26 [(0, (.tmp 25)), (1, (.tmp 34)), (2, (.tmp 35))] [(0, .bool true), (1, .agg #[.int .u64 (l0 (-v)), .int .u64 (l1 (-v)), .int .u64 (l2 (-v)), .int .u64 (l3 (-v))]), (2, .int .i64 (s))] (.agg #[.bool true, .int .u64 (l0 (-v)), .int .u64 (l1 (-v)), .int .u64 (l2 (-v)), .int .u64 (l3 (-v)), .int .i64 (s)]) rfl rfl (by kernel_rfl) rfl ?_
  refine wl_st 26 (.tmp 4) (.tmp 36) k2 0 #[.bool true, .int .u64 (l0 (-v)), .int .u64 (l1 (-v)), .int .u64 (l2 (-v)), .int .u64 (l3 (-v)), .int .i64 (s)] [.bool false, .int .u64 0, .int .u64 0, .int .u64 0, .int .u64 0, .int .i64 0] [.bool true, .int .u64 (l0 (-v)), .int .u64 (l1 (-v)), .int .u64 (l2 (-v)), .int .u64 (l3 (-v)), .int .i64 (s)] Q2 rfl rfl rfl rfl rfl sz26 rfl rfl rfl ?_
  intro w5 hS Qn
  replace Q2 := Qn
  clear Qn
  replace Q1 := hS.other _ _ ne_k1_k2 Q1
  replace M := hS.mo _ N_k2 M
  clear hS
  refine wl_mv (.const (.int .i64 (0))) (.int .i64 (0)) (fun _ => rfl) rfl rfl ?_
  refine w_nil ?_
  refine xn_then ?_
  refine w_ret ?_
  exact w_ret2 _ _ (.agg #[.bool true, .int .u64 (l0 (-v)), .int .u64 (l1 (-v)), .int .u64 (l2 (-v)), .int .u64 (l3 (-v)), .int .i64 (s)]) (.int .i64 (0)) rfl ⟨k2, rfl, (run_row Q2 26 0 6 [.bool true, .int .u64 (l0 (-v)), .int .u64 (l1 (-v)), .int .u64 (l2 (-v)), .int .u64 (l3 (-v)), .int .i64 (s)] rfl Try.underlying26 rfl sz26)⟩ rfl ⟨rfl, M⟩
theorem rnarrow_tf (v s : Int) (q0 : decide (s < 0) = false) (q1 : decide (18 < s) = false) (hneg : decide (9223372036854775808 ≤ l4 v) = true) (h4 : decide (l4 (-v) = 0) = false) : Calls Try.prog 15 #[wv v, .int .i64 s] w fun e w' => e = .returned (.tuple #[.agg #[.bool false, .int .u64 0, .int .u64 0, .int .u64 0, .int .u64 0, .int .i64 0], .int .i64 7]) ∧ Mo w w' := by
  have hl4 := (l_bd v).2.2.2.2
  refine w_enter 37 Try.func15 Try.ntmps15 rfl rfl ?_
  have M : Mo w w := Mo.refl _
  refine w_seq ?_
  refine w_reg ?_
  refine wl_box 31 (.tmp 0) (.agg #[.int .u64 (l0 (v)), .int .u64 (l1 (v)), .int .u64 (l2 (v)), .int .u64 (l3 (v)), .int .u64 (l4 (v))]) (#[.int .u64 (l0 (v)), .int .u64 (l1 (v)), .int .u64 (l2 (v)), .int .u64 (l3 (v)), .int .u64 (l4 (v))]) rfl rfl (fun _ => by kernel_rfl) rfl ?_
  intro k1 w1 hk hz hq Q1
  have N_k1 : w.heap.size ≤ k1 := by have := M.size; omega
  replace M := M.trans hq
  clear hk hz hq
  refine wl_alloc 26 #[.bool false, .int .u64 0, .int .u64 0, .int .u64 0, .int .u64 0, .int .i64 0] rfl (fun _ => by kernel_rfl) rfl ?_
  intro k2 w2 hk hz hq Q2
  have ne_k1_k2 : k1 ≠ k2 := by have := Q1.lt; omega
  have N_k2 : w.heap.size ≤ k2 := by have := M.size; omega
  replace Q1 := Q1.mo hq
  replace M := M.trans hq
  clear hk hz hq
  refine wl_mv (.const (.int .i64 (0))) (.int .i64 (0)) (fun _ => rfl) rfl rfl ?_
  refine w_nil ?_
  refine xn_then ?_
  refine w_seq ?_
  refine w_seq ?_
  refine w_reg ?_
  refine wl_mv (.tmp 1) (.int .i64 (s)) (fun _ => rfl) rfl rfl ?_
  refine wl_bin (fun x y => do eqGuard .lss 3 (.tmp 7) (.const (.int .i64 (0))) x y; binOp .lss 3 x y) (.tmp 7) (.const (.int .i64 (0))) (.int .i64 (s)) (.int .i64 (0)) (.bool false) (fun _ => rfl) rfl rfl (ltI q0 _ _ _) rfl ?_
  refine wl_mv (.tmp 8) (.bool false) (fun _ => rfl) rfl rfl ?_
  refine wl_mv (.tmp 1) (.int .i64 (s)) (fun _ => rfl) rfl rfl ?_
  refine wl_bin (fun x y => do eqGuard .gtr 3 (.tmp 10) (.const (.int .i64 (18))) x y; binOp .gtr 3 x y) (.tmp 10) (.const (.int .i64 (18))) (.int .i64 (s)) (.int .i64 (18)) (.bool false) (fun _ => rfl) rfl rfl (gtI q1 _ _ _) rfl ?_
  refine wl_pick (.tmp 9) (.const (.bool true)) (.tmp 11) false (.bool false) (fun _ => rfl) rfl rfl rfl ?_
  refine w_nil ?_
  refine xn_then ?_
  refine w_condF rfl ?_
  refine w_skip ?_
  refine xn_then ?_
  refine w_seq ?_
  refine w_reg ?_
  refine wl_bin (fun x y => Instr.indexAt 31 x y) (.tmp 2) (.const (.int .i64 (4))) (pt k1 0) (.int .i64 (4)) (pt k1 4) (fun _ => rfl) rfl rfl (by kernel_rfl) rfl ?_
  refine wl_load 22 (.tmp 14) (pt k1 4) (.int .u64 (l4 (v))) rfl rfl (run_one Q1 22 4 rfl Try.underlying22 rfl) rfl ?_
  refine wl_bin (fun x y => do eqGuard .shr 22 (.tmp 15) (.const (.int .u64 (63))) x y; binOp .shr 22 x y) (.tmp 15) (.const (.int .u64 (63))) (.int .u64 (l4 (v))) (.int .u64 (63)) (.int .u64 (1)) (fun _ => rfl) rfl rfl (shr63 hl4.1 hl4.2 hneg _ _ _) rfl ?_
  refine wl_bin (fun x y => do eqGuard .eql 22 (.tmp 16) (.const (.int .u64 (1))) x y; binOp .eql 22 x y) (.tmp 16) (.const (.int .u64 (1))) (.int .u64 (1)) (.int .u64 (1)) (.bool true) (fun _ => rfl) rfl rfl (by kernel_rfl) rfl ?_
  refine wl_mv (.tmp 17) (.bool true) (fun _ => rfl) rfl rfl ?_
  refine w_nil ?_
  refine xn_then ?_
  refine w_seq ?_
  refine w_seq ?_
  refine w_reg ?_
  refine wl_mv (.tmp 6) (.bool true) (fun _ => rfl) rfl rfl ?_
  refine w_nil ?_
  refine xn_then ?_
  refine w_condT rfl ?_
  refine w_reg ?_
  refine wl_load 31 (.tmp 2) (pt k1 0) (.agg #[.int .u64 (l0 (v)), .int .u64 (l1 (v)), .int .u64 (l2 (v)), .int .u64 (l3 (v)), .int .u64 (l4 (v))]) rfl rfl (run_row Q1 31 0 5 [.int .u64 (l0 (v)), .int .u64 (l1 (v)), .int .u64 (l2 (v)), .int .u64 (l3 (v)), .int .u64 (l4 (v))] rfl Try.underlying31 rfl sz31) rfl ?_
  refine wl_call 31 [(.tmp 19)] _ [.agg #[.int .u64 (l0 (v)), .int .u64 (l1 (v)), .int .u64 (l2 (v)), .int .u64 (l3 (v)), .int .u64 (l4 (v))]] (.agg #[.int .u64 (l0 (-v)), .int .u64 (l1 (-v)), .int .u64 (l2 (-v)), .int .u64 (l3 (-v)), .int .u64 (l4 (-v))]) rfl rfl (fun _ _ => by kernel_rfl) (rminus_n v) rfl ?_
  intro w3 hq
  replace Q1 := Q1.mo hq
  replace Q2 := Q2.mo hq
  replace M := M.trans hq
  clear hq
  refine wl_st 31 (.tmp 2) (.tmp 20) k1 0 #[.int .u64 (l0 (-v)), .int .u64 (l1 (-v)), .int .u64 (l2 (-v)), .int .u64 (l3 (-v)), .int .u64 (l4 (-v))] [.int .u64 (l0 (v)), .int .u64 (l1 (v)), .int .u64 (l2 (v)), .int .u64 (l3 (v)), .int .u64 (l4 (v))] [.int .u64 (l0 (-v)), .int .u64 (l1 (-v)), .int .u64 (l2 (-v)), .int .u64 (l3 (-v)), .int .u64 (l4 (-v))] Q1 rfl rfl rfl rfl rfl sz31 rfl rfl rfl ?_
  intro w4 hS Qn
  replace Q1 := Qn
  clear Qn
  replace Q2 := hS.other _ _ ne_k1_k2.symm Q2
  replace M := hS.mo _ N_k1 M
  clear hS
  refine w_nil ?_
  refine xn_then ?_
  refine w_seq ?_
  refine w_seq ?_
  refine w_reg ?_
  refine wl_bin (fun x y => Instr.indexAt 31 x y) (.tmp 2) (.const (.int .i64 (4))) (pt k1 0) (.int .i64 (4)) (pt k1 4) (fun _ => rfl) rfl rfl (by kernel_rfl) rfl ?_
  refine wl_load 22 (.tmp 21) (pt k1 4) (.int .u64 (l4 (-v))) rfl rfl (run_one Q1 22 4 rfl Try.underlying22 rfl) rfl ?_
  refine wl_bin (fun x y => do eqGuard .neq 22 (.tmp 22) (.const (.int .u64 (0))) x y; binOp .neq 22 x y) (.tmp 22) (.const (.int .u64 (0))) (.int .u64 (l4 (-v))) (.int .u64 (0)) (.bool true) (fun _ => rfl) rfl rfl (neU h4 _ _ _) rfl ?_
  refine w_nil ?_
  refine xn_then ?_
  refine w_condT rfl ?_
  refine w_seq ?_
  refine w_reg ?_
  refine wl_build 26 [] [] (.agg #[.bool false, .int .u64 0, .int .u64 0, .int .u64 0, .int .u64 0, .int .i64 0]) rfl rfl (by kernel_rfl) rfl ?_
  refine wl_st 26 (.tmp 4) (.tmp 24) k2 0 #[.bool false, .int .u64 0, .int .u64 0, .int .u64 0, .int .u64 0, .int .i64 0] [.bool false, .int .u64 0, .int .u64 0, .int .u64 0, .int .u64 0, .int .i64 0] [.bool false, .int .u64 0, .int .u64 0, .int .u64 0, .int .u64 0, .int .i64 0] Q2 rfl rfl rfl rfl rfl sz26 rfl rfl rfl ?_
  intro w5 hS Qn
  replace Q2 := Qn
  clear Qn
  replace Q1 := hS.other _ _ ne_k1_k2 Q1
  replace M := hS.mo _ N_k2 M
  clear hS
  refine wl_mv (.const (.int .i64 (7))) (.int .i64 (7)) (fun _ => rfl) rfl rfl ?_
  refine w_nil ?_
  refine xn_then ?_
  refine w_ret ?_
  refine xr_then ?_
  exact w_ret2 _ _ (.agg #[.bool false, .int .u64 0, .int .u64 0, .int .u64 0, .int .u64 0, .int .i64 0]) (.int .i64 (7)) rfl ⟨k2, rfl, (run_row Q2 26 0 6 [.bool false, .int .u64 0, .int .u64 0, .int .u64 0, .int .u64 0, .int .i64 0] rfl Try.underlying26 rfl sz26)⟩ rfl ⟨rfl, M⟩
theorem rnarrow_ft (v s : Int) (q0 : decide (s < 0) = false) (q1 : decide (18 < s) = false) (hneg : decide (9223372036854775808 ≤ l4 v) = false) (h4 : decide (l4 (v) = 0) = true) : Calls Try.prog 15 #[wv v, .int .i64 s] w fun e w' => e = .returned (.tuple #[dc false (v) s, .int .i64 0]) ∧ Mo w w' := by
  have hl4 := (l_bd v).2.2.2.2
  refine w_enter 37 Try.func15 Try.ntmps15 rfl rfl ?_
  have M : Mo w w := Mo.refl _
  refine w_seq ?_
  refine w_reg ?_
  refine wl_box 31 (.tmp 0) (.agg #[.int .u64 (l0 (v)), .int .u64 (l1 (v)), .int .u64 (l2 (v)), .int .u64 (l3 (v)), .int .u64 (l4 (v))]) (#[.int .u64 (l0 (v)), .int .u64 (l1 (v)), .int .u64 (l2 (v)), .int .u64 (l3 (v)), .int .u64 (l4 (v))]) rfl rfl (fun _ => by kernel_rfl) rfl ?_
  intro k1 w1 hk hz hq Q1
  have N_k1 : w.heap.size ≤ k1 := by have := M.size; omega
  replace M := M.trans hq
  clear hk hz hq
  refine wl_alloc 26 #[.bool false, .int .u64 0, .int .u64 0, .int .u64 0, .int .u64 0, .int .i64 0] rfl (fun _ => by kernel_rfl) rfl ?_
  intro k2 w2 hk hz hq Q2
  have ne_k1_k2 : k1 ≠ k2 := by have := Q1.lt; omega
  have N_k2 : w.heap.size ≤ k2 := by have := M.size; omega
  replace Q1 := Q1.mo hq
  replace M := M.trans hq
  clear hk hz hq
  refine wl_mv (.const (.int .i64 (0))) (.int .i64 (0)) (fun _ => rfl) rfl rfl ?_
  refine w_nil ?_
  refine xn_then ?_
  refine w_seq ?_
  refine w_seq ?_
  refine w_reg ?_
  refine wl_mv (.tmp 1) (.int .i64 (s)) (fun _ => rfl) rfl rfl ?_
  refine wl_bin (fun x y => do eqGuard .lss 3 (.tmp 7) (.const (.int .i64 (0))) x y; binOp .lss 3 x y) (.tmp 7) (.const (.int .i64 (0))) (.int .i64 (s)) (.int .i64 (0)) (.bool false) (fun _ => rfl) rfl rfl (ltI q0 _ _ _) rfl ?_
  refine wl_mv (.tmp 8) (.bool false) (fun _ => rfl) rfl rfl ?_
  refine wl_mv (.tmp 1) (.int .i64 (s)) (fun _ => rfl) rfl rfl ?_
  refine wl_bin (fun x y => do eqGuard .gtr 3 (.tmp 10) (.const (.int .i64 (18))) x y; binOp .gtr 3 x y) (.tmp 10) (.const (.int .i64 (18))) (.int .i64 (s)) (.int .i64 (18)) (.bool false) (fun _ => rfl) rfl rfl (gtI q1 _ _ _) rfl ?_
  refine wl_pick (.tmp 9) (.const (.bool true)) (.tmp 11) false (.bool false) (fun _ => rfl) rfl rfl rfl ?_
  refine w_nil ?_
  refine xn_then ?_
  refine w_condF rfl ?_
  refine w_skip ?_
  refine xn_then ?_
  refine w_seq ?_
  refine w_reg ?_
  refine wl_bin (fun x y => Instr.indexAt 31 x y) (.tmp 2) (.const (.int .i64 (4))) (pt k1 0) (.int .i64 (4)) (pt k1 4) (fun _ => rfl) rfl rfl (by kernel_rfl) rfl ?_
  refine wl_load 22 (.tmp 14) (pt k1 4) (.int .u64 (l4 (v))) rfl rfl (run_one Q1 22 4 rfl Try.underlying22 rfl) rfl ?_
  refine wl_bin (fun x y => do eqGuard .shr 22 (.tmp 15) (.const (.int .u64 (63))) x y; binOp .shr 22 x y) (.tmp 15) (.const (.int .u64 (63))) (.int .u64 (l4 (v))) (.int .u64 (63)) (.int .u64 (0)) (fun _ => rfl) rfl rfl (shr63 hl4.1 hl4.2 hneg _ _ _) rfl ?_
  refine wl_bin (fun x y => do eqGuard .eql 22 (.tmp 16) (.const (.int .u64 (1))) x y; binOp .eql 22 x y) (.tmp 16) (.const (.int .u64 (1))) (.int .u64 (0)) (.int .u64 (1)) (.bool false) (fun _ => rfl) rfl rfl (by kernel_rfl) rfl ?_
  refine wl_mv (.tmp 17) (.bool false) (fun _ => rfl) rfl rfl ?_
  refine w_nil ?_
  refine xn_then ?_
  refine w_seq ?_
  refine w_seq ?_
  refine w_reg ?_
  refine wl_mv (.tmp 6) (.bool false) (fun _ => rfl) rfl rfl ?_
  refine w_nil ?_
  refine xn_then ?_
  refine w_condF rfl ?_
  refine w_skip ?_
  refine xn_then ?_
  refine w_seq ?_
  refine w_seq ?_
  refine w_reg ?_
  refine wl_bin (fun x y => Instr.indexAt 31 x y) (.tmp 2) (.const (.int .i64 (4))) (pt k1 0) (.int .i64 (4)) (pt k1 4) (fun _ => rfl) rfl rfl (by kernel_rfl) rfl ?_
  refine wl_load 22 (.tmp 21) (pt k1 4) (.int .u64 (l4 (v))) rfl rfl (run_one Q1 22 4 rfl Try.underlying22 rfl) rfl ?_
  refine wl_bin (fun x y => do eqGuard .neq 22 (.tmp 22) (.const (.int .u64 (0))) x y; binOp .neq 22 x y) (.tmp 22) (.const (.int .u64 (0))) (.int .u64 (l4 (v))) (.int .u64 (0)) (.bool false) (fun _ => rfl) rfl rfl (neU h4 _ _ _) rfl ?_
  refine w_nil ?_
  refine xn_then ?_
  refine w_condF rfl ?_
  refine w_skip ?_
  refine xn_then ?_
  refine w_seq ?_
  refine w_reg ?_
  refine wl_mv (.tmp 6) (.bool false) (fun _ => rfl) rfl rfl ?_
  refine wl_bin (fun x y => Instr.indexAt 31 x y) (.tmp 2) (.const (.int .i64 (0))) (pt k1 0) (.int .i64 (0)) (pt k1 0) (fun _ => rfl) rfl rfl (by kernel_rfl) rfl ?_
  refine wl_load 22 (.tmp 26) (pt k1 0) (.int .u64 (l0 (v))) rfl rfl (run_one Q1 22 0 rfl Try.underlying22 rfl) rfl ?_
  refine wl_bin (fun x y => Instr.indexAt 31 x y) (.tmp 2) (.const (.int .i64 (1))) (pt k1 0) (.int .i64 (1)) (pt k1 1) (fun _ => rfl) rfl rfl (by kernel_rfl) rfl ?_
  refine wl_load 22 (.tmp 28) (pt k1 1) (.int .u64 (l1 (v))) rfl rfl (run_one Q1 22 1 rfl Try.underlying22 rfl) rfl ?_
  refine wl_bin (fun x y => Instr.indexAt 31 x y) (.tmp 2) (.const (.int .i64 (2))) (pt k1 0) (.int .i64 (2)) (pt k1 2) (fun _ => rfl) rfl rfl (by kernel_rfl) rfl ?_
  refine wl_load 22 (.tmp 30) (pt k1 2) (.int .u64 (l2 (v))) rfl rfl (run_one Q1 22 2 rfl Try.underlying22 rfl) rfl ?_
  refine wl_bin (fun x y => Instr.indexAt 31 x y) (.tmp 2) (.const (.int .i64 (3))) (pt k1 0) (.int .i64 (3)) (pt k1 3) (fun _ => rfl) rfl rfl (by kernel_rfl) rfl ?_
  refine wl_load 22 (.tmp 32) (pt k1 3) (.int .u64 (l3 (v))) rfl rfl (run_one Q1 22 3 rfl Try.underlying22 rfl) rfl ?_
  refine wl_build 24 [(0, (.tmp 27)), (1, (.tmp 29)), (2, (.tmp 31)), (3, (.tmp 33))] [(0, .int .u64 (l0 (v))), (1, .int .u64 (l1 (v))), (2, .int .u64 (l2 (v))), (3, .int .u64 (l3 (v)))] (.agg #[.int .u64 (l0 (v)), .int .u64 (l1 (v)), .int .u64 (l2 (v)), .int .u64 (l3 (v))]) rfl rfl (by kernel_rfl) rfl ?_
  refine wl_mv (.tmp 1) (.int .i64 (s)) (fun _ => rfl) rfl rfl ?_
  refine wl_build 26 [(0, (.tmp 25)), (1, (.tmp 34)), (2, (.tmp 35))] [(0, .bool false), (1, .agg #[.int .u64 (l0 (v)), .int .u64 (l1 (v)), .int .u64 (l2 (v)), .int .u64 (l3 (v))]), (2, .int .i64 (s))] (.agg #[.bool false, .int .u64 (l0 (v)), .int .u64 (l1 (v)), .int .u64 (l2 (v)), .int .u64 (l3 (v)), .int .i64 (s)]) rfl rfl (by kernel_rfl) rfl ?_
  refine wl_st 26 (.tmp 4) (.tmp 36) k2 0 #[.bool false, .int .u64 (l0 (v)), .int .u64 (l1 (v)), .int .u64 (l2 (v)), .int .u64 (l3 (v)), .int .i64 (s)] [.bool false, .int .u64 0, .int .u64 0, .int .u64 0, .int .u64 0, .int .i64 0] [.bool false, .int .u64 (l0 (v)), .int .u64 (l1 (v)), .int .u64 (l2 (v)), .int .u64 (l3 (v)), .int .i64 (s)] Q2 rfl rfl rfl rfl rfl sz26 rfl rfl rfl ?_
  intro w3 hS Qn
  replace Q2 := Qn
  clear Qn
  replace Q1 := hS.other _ _ ne_k1_k2 Q1
  replace M := hS.mo _ N_k2 M
  clear hS
  refine wl_mv (.const (.int .i64 (0))) (.int .i64 (0)) (fun _ => rfl) rfl rfl ?_
  refine w_nil ?_
  refine xn_then ?_
  refine w_ret ?_
  exact w_ret2 _ _ (.agg #[.bool false, .int .u64 (l0 (v)), .int .u64 (l1 (v)), .int .u64 (l2 (v)), .int .u64 (l3 (v)), .int .i64 (s)]) (.int .i64 (0)) rfl ⟨k2, rfl, (run_row Q2 26 0 6 [.bool false, .int .u64 (l0 (v)), .int .u64 (l1 (v)), .int .u64 (l2 (v)), .int .u64 (l3 (v)), .int .i64 (s)] rfl Try.underlying26 rfl sz26)⟩ rfl ⟨rfl, M⟩
theorem rnarrow_ff (v s : Int) (q0 : decide (s < 0) = false) (q1 : decide (18 < s) = false) (hneg : decide (9223372036854775808 ≤ l4 v) = false) (h4 : decide (l4 (v) = 0) = false) : Calls Try.prog 15 #[wv v, .int .i64 s] w fun e w' => e = .returned (.tuple #[.agg #[.bool false, .int .u64 0, .int .u64 0, .int .u64 0, .int .u64 0, .int .i64 0], .int .i64 7]) ∧ Mo w w' := by
  have hl4 := (l_bd v).2.2.2.2
  refine w_enter 37 Try.func15 Try.ntmps15 rfl rfl ?_
  have M : Mo w w := Mo.refl _
  refine w_seq ?_
  refine w_reg ?_
  refine wl_box 31 (.tmp 0) (.agg #[.int .u64 (l0 (v)), .int .u64 (l1 (v)), .int .u64 (l2 (v)), .int .u64 (l3 (v)), .int .u64 (l4 (v))]) (#[.int .u64 (l0 (v)), .int .u64 (l1 (v)), .int .u64 (l2 (v)), .int .u64 (l3 (v)), .int .u64 (l4 (v))]) rfl rfl (fun _ => by kernel_rfl) rfl ?_
  intro k1 w1 hk hz hq Q1
  have N_k1 : w.heap.size ≤ k1 := by have := M.size; omega
  replace M := M.trans hq
  clear hk hz hq
  refine wl_alloc 26 #[.bool false, .int .u64 0, .int .u64 0, .int .u64 0, .int .u64 0, .int .i64 0] rfl (fun _ => by kernel_rfl) rfl ?_
  intro k2 w2 hk hz hq Q2
  have ne_k1_k2 : k1 ≠ k2 := by have := Q1.lt; omega
  have N_k2 : w.heap.size ≤ k2 := by have := M.size; omega
  replace Q1 := Q1.mo hq
  replace M := M.trans hq
  clear hk hz hq
  refine wl_mv (.const (.int .i64 (0))) (.int .i64 (0)) (fun _ => rfl) rfl rfl ?_
  refine w_nil ?_
  refine xn_then ?_
  refine w_seq ?_
  refine w_seq ?_
  refine w_reg ?_
  refine wl_mv (.tmp 1) (.int .i64 (s)) (fun _ => rfl) rfl rfl ?_
  refine wl_bin (fun x y => do eqGuard .lss 3 (.tmp 7) (.const (.int .i64 (0))) x y; binOp .lss 3 x y) (.tmp 7) (.const (.int .i64 (0))) (.int .i64 (s)) (.int .i64 (0)) (.bool false) (fun _ => rfl) rfl rfl (ltI q0 _ _ _) rfl ?_
  refine wl_mv (.tmp 8) (.bool false) (fun _ => rfl) rfl rfl ?_
  refine wl_mv (.tmp 1) (.int .i64 (s)) (fun _ => rfl) rfl rfl ?_
  refine wl_bin (fun x y => do eqGuard .gtr 3 (.tmp 10) (.const (.int .i64 (18))) x y; binOp .gtr 3 x y) (.tmp 10) (.const (.int .i64 (18))) (.int .i64 (s)) (.int .i64 (18)) (.bool false) (fun _ => rfl) rfl rfl (gtI q1 _ _ _) rfl ?_
  refine wl_pick (.tmp 9) (.const (.bool true)) (.tmp 11) false (.bool false) (fun _ => rfl) rfl rfl rfl ?_
  refine w_nil ?_
  refine xn_then ?_
  refine w_condF rfl ?_
  refine w_skip ?_
  refine xn_then ?_
  refine w_seq ?_
  refine w_reg ?_
  refine wl_bin (fun x y => Instr.indexAt 31 x y) (.tmp 2) (.const (.int .i64 (4))) (pt k1 0) (.int .i64 (4)) (pt k1 4) (fun _ => rfl) rfl rfl (by kernel_rfl) rfl ?_
  refine wl_load 22 (.tmp 14) (pt k1 4) (.int .u64 (l4 (v))) rfl rfl (run_one Q1 22 4 rfl Try.underlying22 rfl) rfl ?_
  refine wl_bin (fun x y => do eqGuard .shr 22 (.tmp 15) (.const (.int .u64 (63))) x y; binOp .shr 22 x y) (.tmp 15) (.const (.int .u64 (63))) (.int .u64 (l4 (v))) (.int .u64 (63)) (.int .u64 (0)) (fun _ => rfl) rfl rfl (shr63 hl4.1 hl4.2 hneg _ _ _) rfl ?_
  refine wl_bin (fun x y => do eqGuard .eql 22 (.tmp 16) (.const (.int .u64 (1))) x y; binOp .eql 22 x y) (.tmp 16) (.const (.int .u64 (1))) (.int .u64 (0)) (.int .u64 (1)) (.bool false) (fun _ => rfl) rfl rfl (by kernel_rfl) rfl ?_
  refine wl_mv (.tmp 17) (.bool false) (fun _ => rfl) rfl rfl ?_
  refine w_nil ?_
  refine xn_then ?_
  refine w_seq ?_
  refine w_seq ?_
  refine w_reg ?_
  refine wl_mv (.tmp 6) (.bool false) (fun _ => rfl) rfl rfl ?_
  refine w_nil ?_
  refine xn_then ?_
  refine w_condF rfl ?_
  refine w_skip ?_
  refine xn_then ?_
  refine w_seq ?_
  refine w_seq ?_
  refine w_reg ?_
  refine wl_bin (fun x y => Instr.indexAt 31 x y) (.tmp 2) (.const (.int .i64 (4))) (pt k1 0) (.int .i64 (4)) (pt k1 4) (fun _ => rfl) rfl rfl (by kernel_rfl) rfl ?_
  refine wl_load 22 (.tmp 21) (pt k1 4) (.int .u64 (l4 (v))) rfl rfl (run_one Q1 22 4 rfl Try.underlying22 rfl) rfl ?_
  refine wl_bin (fun x y => do eqGuard .neq 22 (.tmp 22) (.const (.int .u64 (0))) x y; binOp .neq 22 x y) (.tmp 22) (.const (.int .u64 (0))) (.int .u64 (l4 (v))) (.int .u64 (0)) (.bool true) (fun _ => rfl) rfl rfl (neU h4 _ _ _) rfl ?_
  refine w_nil ?_
  refine xn_then ?_
  refine w_condT rfl ?_
  refine w_seq ?_
  refine w_reg ?_
  refine wl_build 26 [] [] (.agg #[.bool false, .int .u64 0, .int .u64 0, .int .u64 0, .int .u64 0, .int .i64 0]) rfl rfl (by kernel_rfl) rfl ?_
  refine wl_st 26 (.tmp 4) (.tmp 24) k2 0 #[.bool false, .int .u64 0, .int .u64 0, .int .u64 0, .int .u64 0, .int .i64 0] [.bool false, .int .u64 0, .int .u64 0, .int .u64 0, .int .u64 0, .int .i64 0] [.bool false, .int .u64 0, .int .u64 0, .int .u64 0, .int .u64 0, .int .i64 0] Q2 rfl rfl rfl rfl rfl sz26 rfl rfl rfl ?_
  intro w3 hS Qn
  replace Q2 := Qn
  clear Qn
  replace Q1 := hS.other _ _ ne_k1_k2 Q1
  replace M := hS.mo _ N_k2 M
  clear hS
  refine wl_mv (.const (.int .i64 (7))) (.int .i64 (7)) (fun _ => rfl) rfl rfl ?_
  refine w_nil ?_
  refine xn_then ?_
  refine w_ret ?_
  refine xr_then ?_
  exact w_ret2 _ _ (.agg #[.bool false, .int .u64 0, .int .u64 0, .int .u64 0, .int .u64 0, .int .i64 0]) (.int .i64 (7)) rfl ⟨k2, rfl, (run_row Q2 26 0 6 [.bool false, .int .u64 0, .int .u64 0, .int .u64 0, .int .u64 0, .int .i64 0] rfl Try.underlying26 rfl sz26)⟩ rfl ⟨rfl, M⟩
/-- What Narrow answers. -/
def nrw (v s : Int) : Value := if s < 0 ∨ 18 < s then .tuple #[.agg #[.bool false, .int .u64 0, .int .u64 0, .int .u64 0, .int .u64 0, .int .i64 0], .int .i64 1] else if 9223372036854775808 ≤ l4 v then (if l4 (-v) = 0 then .tuple #[dc true (-v) s, .int .i64 0] else .tuple #[.agg #[.bool false, .int .u64 0, .int .u64 0, .int .u64 0, .int .u64 0, .int .i64 0], .int .i64 7]) else (if l4 v = 0 then .tuple #[dc false v s, .int .i64 0] else .tuple #[.agg #[.bool false, .int .u64 0, .int .u64 0, .int .u64 0, .int .u64 0, .int .i64 0], .int .i64 7])
theorem narrow_n (v s : Int) : Calls Try.prog 18 #[wv v, .int .i64 s] w fun e w' => e = .returned (nrw v s) ∧ Mo w w' := by
  unfold nrw
  by_cases c0 : s < 0
  · rw [if_pos (Or.inl c0)]; exact narrow_a v s (decide_eq_true c0)
  by_cases c1 : 18 < s
  · rw [if_pos (Or.inr c1)]; exact narrow_b v s (decide_eq_false c0) (decide_eq_true c1)
  rw [if_neg (by omega)]
  by_cases c2 : 9223372036854775808 ≤ l4 v
  · rw [if_pos c2]
    by_cases c3 : l4 (-v) = 0
    · rw [if_pos c3]; exact narrow_tt v s (decide_eq_false c0) (decide_eq_false c1) (decide_eq_true c2) (decide_eq_true c3)
    · rw [if_neg c3]; exact narrow_tf v s (decide_eq_false c0) (decide_eq_false c1) (decide_eq_true c2) (decide_eq_false c3)
  · rw [if_neg c2]
    by_cases c3 : l4 v = 0
    · rw [if_pos c3]; exact narrow_ft v s (decide_eq_false c0) (decide_eq_false c1) (decide_eq_false c2) (decide_eq_true c3)
    · rw [if_neg c3]; exact narrow_ff v s (decide_eq_false c0) (decide_eq_false c1) (decide_eq_false c2) (decide_eq_false c3)
theorem rnarrow_n (v s : Int) : Calls Try.prog 15 #[wv v, .int .i64 s] w fun e w' => e = .returned (nrw v s) ∧ Mo w w' := by
  unfold nrw
  by_cases c0 : s < 0
  · rw [if_pos (Or.inl c0)]; exact rnarrow_a v s (decide_eq_true c0)
  by_cases c1 : 18 < s
  · rw [if_pos (Or.inr c1)]; exact rnarrow_b v s (decide_eq_false c0) (decide_eq_true c1)
  rw [if_neg (by omega)]
  by_cases c2 : 9223372036854775808 ≤ l4 v
  · rw [if_pos c2]
    by_cases c3 : l4 (-v) = 0
    · rw [if_pos c3]; exact rnarrow_tt v s (decide_eq_false c0) (decide_eq_false c1) (decide_eq_true c2) (decide_eq_true c3)
    · rw [if_neg c3]; exact rnarrow_tf v s (decide_eq_false c0) (decide_eq_false c1) (decide_eq_true c2) (decide_eq_false c3)
  · rw [if_neg c2]
    by_cases c3 : l4 v = 0
    · rw [if_pos c3]; exact rnarrow_ft v s (decide_eq_false c0) (decide_eq_false c1) (decide_eq_false c2) (decide_eq_true c3)
    · rw [if_neg c3]; exact rnarrow_ff v s (decide_eq_false c0) (decide_eq_false c1) (decide_eq_false c2) (decide_eq_false c3)
end
end Go.Proofs.Ythpekbohmfmffaa
/-
  decimal.cmpHalf, checkRounding, isAway, OfInt, cmp.Compare: the walks.
-/
namespace Go.Proofs.Ythpekbohmfmffaa
open Go.RowKit
/-- Whether the policy takes the number farther from 0. -/
def aw (b : Bool) (q r d p : Int) : Bool := if r = 0 then false else if p = 1 then decide (d ≤ r + r) else if p = 2 then (decide (d < r + r) || (decide (r + r = d) && decide (q % 2 = 1))) else if p = 4 then true else if p = 5 then b else false
theorem cm_ge {a b : Int} : decide (cm a b ≥ 0) = decide (b ≤ a) := by
  unfold cm
  by_cases h : a < b
  · rw [if_pos h, decide_eq_false (by decide), decide_eq_false (by omega)]
  · rw [if_neg h, decide_eq_true (p := b ≤ a) (by omega)]
    split <;> decide
theorem cm_gt {a b : Int} : decide (cm a b > 0) = decide (b < a) := by
  unfold cm
  by_cases h : a < b
  · rw [if_pos h, decide_eq_false (by decide), decide_eq_false (by omega)]
  · rw [if_neg h]
    by_cases h2 : b < a
    · rw [if_pos h2, decide_eq_true (by decide), decide_eq_true h2]
    · rw [if_neg h2, decide_eq_false (by decide), decide_eq_false h2]
theorem cm_eq {a b : Int} : (cm a b == 0) = decide (a = b) := by
  unfold cm
  by_cases h : a < b
  · rw [if_pos h, decide_eq_false (by omega)]; rfl
  · rw [if_neg h]
    by_cases h2 : b < a
    · rw [if_pos h2, decide_eq_false (by omega)]; rfl
    · rw [if_neg h2, decide_eq_true (by omega)]; rfl
end Go.Proofs.Ythpekbohmfmffaa
/-
  decimal.shorten: the walk.
-/
namespace Go.Proofs.Ythpekbohmfmffaa
open Go.RowKit
theorem AtD.setD {w : World} {k j : Nat} {b : Bool} {n s : Int} (h : AtD w j b n s) (hk : j ≠ k) (o : Nat) (v : Value) : AtD (w.setCell ⟨k, o, none⟩ v) j b n s := by
  obtain ⟨⟨a0, a1, a2, a3, a4, a5⟩, f, z⟩ := h
  refine ⟨by simp [go_sem, *], fun o => by simp [World.frozen?_setCell, f o], by simpa [World.setCell] using z⟩
theorem wide_join (X : Int) : X / MM * MM + X % MM = X := by rw [Int.mul_comm]; exact Int.mul_ediv_add_emod X MM
end Go.Proofs.Ythpekbohmfmffaa
/-
  decimal.shorten by whole numbers.
-/
namespace Go.Proofs.Ythpekbohmfmffaa
open Go.RowKit
/-- A size with a sign. -/
def sv (b : Bool) (V : Int) : Int := if b then -V else V
theorem ab_sv {b : Bool} {V : Int} (h : 0 ≤ V) : ab (sv b V) = V := by unfold ab sv; cases b <;> simp <;> omega
theorem neg_sv {b : Bool} {V : Int} (h : 0 ≤ V) : decide (sv b V < 0) = (b && !decide (V = 0)) := by
  unfold sv
  cases b
  · simp; omega
  · rw [Bool.eq_iff_iff]; simp; omega
/-- A size rounded: what a number by ten to the k is, by the policy. -/
def ro (b : Bool) (X : Int) (k : Nat) (p : Int) : Int := X / 10 ^ k + if aw b (X / 10 ^ k) (X % 10 ^ k) (10 ^ k) p then 1 else 0
theorem ro_nn {b : Bool} {X : Int} {k : Nat} {p : Int} (h : 0 ≤ X) : 0 ≤ ro b X k p := by
  have := Int.ediv_nonneg h (show (0 : Int) ≤ 10 ^ k from Int.le_of_lt (Int.pow_pos (by decide)))
  unfold ro; split <;> omega
theorem dc_sv {b : Bool} {V s : Int} (h : 0 ≤ V) : dc (b && !decide (V = 0)) V s = dz (sv b V) s := by rw [dz, ab_sv h, neg_sv h]
theorem AtX.cells {w : World} {k : Nat} {X : Int} (h : AtX w k X) : w.cell? ⟨k, 0, none⟩ = some (.int .u64 (l0 (X / MM))) ∧ w.cell? ⟨k, 1, none⟩ = some (.int .u64 (l1 (X / MM))) ∧ w.cell? ⟨k, 2, none⟩ = some (.int .u64 (l2 (X / MM))) ∧ w.cell? ⟨k, 3, none⟩ = some (.int .u64 (l3 (X / MM))) ∧ w.cell? ⟨k, 4, none⟩ = some (.int .u64 (l0 X)) ∧ w.cell? ⟨k, 5, none⟩ = some (.int .u64 (l1 X)) ∧ w.cell? ⟨k, 6, none⟩ = some (.int .u64 (l2 X)) ∧ w.cell? ⟨k, 7, none⟩ = some (.int .u64 (l3 X)) := by
  have c := fun j v hv => h.1 j v hv
  simp only [Nat.zero_add] at c
  exact ⟨c 0 _ rfl, c 1 _ rfl, c 2 _ rfl, c 3 _ rfl, c 4 _ rfl, c 5 _ rfl, c 6 _ rfl, c 7 _ rfl⟩
end Go.Proofs.Ythpekbohmfmffaa
/-
  decimal.OfInt and cmp.Compare: the walks.
-/
namespace Go.Proofs.Ythpekbohmfmffaa
open Go.RowKit
theorem nan_n (a : Int) (w : World) : Calls Try.prog 57 #[.int .i64 a] w fun e w' => e = .returned (.bool false) ∧ Mo w w' := by
  go_enter Try.func57, Try.ntmps57
  go_wp2
  go_ret
  exact ⟨by simp, Mo.refl _⟩
set_option maxHeartbeats 4000000 in
theorem compare_n (a b : Int) (w : World) : Calls Try.prog 48 #[.int .i64 a, .int .i64 b] w fun e w' => e = .returned (.int .i64 (cm a b)) ∧ Mo w w' := by
  have hc : (a < b ∧ cm a b = -1) ∨ (¬ a < b ∧ b < a ∧ cm a b = 1) ∨ (¬ a < b ∧ ¬ b < a ∧ cm a b = 0) := by
    unfold cm
    by_cases h : a < b
    · exact Or.inl ⟨h, if_pos h⟩
    · by_cases h2 : b < a
      · exact Or.inr (Or.inl ⟨h, h2, by rw [if_neg h, if_pos h2]⟩)
      · exact Or.inr (Or.inr ⟨h, h2, by rw [if_neg h, if_neg h2]⟩)
  rcases hc with ⟨h1, h2⟩ | ⟨h1, h2, h3⟩ | ⟨h1, h2, h3⟩
  · have d1 : decide (a < b) = true := decide_eq_true h1
    rw [h2]
    clear h1 h2
    go_enter Try.func48, Try.ntmps48
    go_wp2_with fail
    refine (nan_n a _).mono ?_
    rintro e w1 ⟨rfl, hm1⟩
    have mz : Mo w w1 := Mo.trans (by repeat (first | with_reducible exact Mo.refl _ | with_reducible apply Mo.drew | with_reducible apply Mo.alloc)) hm1
    have M := mz
    clear hm1 mz
    go_wp2_with fail
    refine (nan_n b _).mono ?_
    rintro e w2 ⟨rfl, hm2⟩
    have mz : Mo w1 w2 := Mo.trans (by repeat (first | with_reducible exact Mo.refl _ | with_reducible apply Mo.drew | with_reducible apply Mo.alloc)) hm2
    have M := M.trans mz
    clear hm2 mz
    go_wp2
    go_ret
    exact ⟨rfl, M⟩
  · have d1 : decide (a < b) = false := decide_eq_false h1
    have d2 : decide (a > b) = true := decide_eq_true h2
    rw [h3]
    clear h1 h2 h3
    go_enter Try.func48, Try.ntmps48
    go_wp2_with fail
    refine (nan_n a _).mono ?_
    rintro e w1 ⟨rfl, hm1⟩
    have mz : Mo w w1 := Mo.trans (by repeat (first | with_reducible exact Mo.refl _ | with_reducible apply Mo.drew | with_reducible apply Mo.alloc)) hm1
    have M := mz
    clear hm1 mz
    go_wp2_with fail
    refine (nan_n b _).mono ?_
    rintro e w2 ⟨rfl, hm2⟩
    have mz : Mo w1 w2 := Mo.trans (by repeat (first | with_reducible exact Mo.refl _ | with_reducible apply Mo.drew | with_reducible apply Mo.alloc)) hm2
    have M := M.trans mz
    clear hm2 mz
    go_wp2
    go_ret
    exact ⟨rfl, M⟩
  · have d1 : decide (a < b) = false := decide_eq_false h1
    have d2 : decide (a > b) = false := decide_eq_false h2
    rw [h3]
    clear h1 h2 h3
    go_enter Try.func48, Try.ntmps48
    go_wp2_with fail
    refine (nan_n a _).mono ?_
    rintro e w1 ⟨rfl, hm1⟩
    have mz : Mo w w1 := Mo.trans (by repeat (first | with_reducible exact Mo.refl _ | with_reducible apply Mo.drew | with_reducible apply Mo.alloc)) hm1
    have M := mz
    clear hm1 mz
    go_wp2_with fail
    refine (nan_n b _).mono ?_
    rintro e w2 ⟨rfl, hm2⟩
    have mz : Mo w1 w2 := Mo.trans (by repeat (first | with_reducible exact Mo.refl _ | with_reducible apply Mo.drew | with_reducible apply Mo.alloc)) hm2
    have M := M.trans mz
    clear hm2 mz
    go_wp2
    go_ret
    exact ⟨rfl, M⟩
set_option maxHeartbeats 4000000 in
theorem ofInt_no (n s : Int) (w : World) (h : sc s = false) : Calls Try.prog 43 #[.int .i64 n, .int .i64 s] w fun e w' => e = .returned (er 21) ∧ Mo w w' := by
  go_enter Try.func43, Try.ntmps43
  go_wp2_with fail
  refine (isScale_n s _).mono ?_
  rintro e w1 ⟨rfl, hm1⟩
  have mz : Mo w w1 := Mo.trans (by repeat (first | with_reducible exact Mo.refl _ | with_reducible apply Mo.drew | with_reducible apply Mo.alloc)) hm1
  have M := mz
  have Qr : AtD w1 (w.heap.size) false 0 0 := AtD.mo ⟨by simp [go_sem, zl0, zl1, zl2, zl3], fun o => by simp [go_sem], by simp <;> omega⟩ hm1
  clear hm1 mz
  have Or := Qr
  obtain ⟨⟨cr0, cr1, cr2, cr3, cr4, cr5⟩, fr, sr⟩ := Or
  have fr := fun o => fr o
  have sxr : w.heap.size < w1.heap.size + 1 := by omega
  have syr : w.heap.size < w1.heap.size + 1 + 1 := by omega
  go_wp2
  refine bodyPost_ret (v := er 21) (by simp [results, Try.results43, go_sem, *]) rfl ?_
  refine ⟨rfl, ?_⟩
  repeat (first | with_reducible exact M | with_reducible exact Mo.refl _ | with_reducible apply Mo.drew | with_reducible apply Mo.drewN | with_reducible apply Mo.alloc | with_reducible refine Mo.setCell ?_ (by simp <;> omega) _)
set_option maxHeartbeats 4000000 in
theorem ofInt_pos (n s : Int) (w : World) (h : sc s = true) (hn0 : 0 ≤ n) (hn : n < 9223372036854775808) : Calls Try.prog 43 #[.int .i64 n, .int .i64 s] w fun e w' => e = .returned (.tuple #[dz n s, .int .i64 0]) ∧ Mo w w' := by
  have d1 : decide (n < 0) = false := decide_eq_false (by omega)
  have w1 : IntKind.u64.wrap n = n := by rw [IntKind.wrap_u64]; omega
  have e1 : ab n = n := by unfold ab; rw [if_neg (by omega)]
  rw [dz, e1, d1]
  clear e1
  have HN : Hid _ := hn0
  have HM : Hid _ := hn
  clear hn0 hn
  go_enter Try.func43, Try.ntmps43
  go_wp2_with fail
  refine (isScale_n s _).mono ?_
  rintro e w1 ⟨rfl, hm1⟩
  have mz : Mo w w1 := Mo.trans (by repeat (first | with_reducible exact Mo.refl _ | with_reducible apply Mo.drew | with_reducible apply Mo.alloc)) hm1
  have M := mz
  have Qr : AtD w1 (w.heap.size) false 0 0 := AtD.mo ⟨by simp [go_sem, zl0, zl1, zl2, zl3], fun o => by simp [go_sem], by simp <;> omega⟩ hm1
  clear hm1 mz
  have Or := Qr
  obtain ⟨⟨cr0, cr1, cr2, cr3, cr4, cr5⟩, fr, sr⟩ := Or
  have fr := fun o => fr o
  have sxr : w.heap.size < w1.heap.size + 1 := by omega
  have syr : w.heap.size < w1.heap.size + 1 + 1 := by omega
  go_wp2_with fail
  refine (from20_any n _ ⟨by have := HN.out; omega, by have := HM.out; omega⟩).mono ?_
  rintro e w2 ⟨rfl, hm2⟩
  have mz : Mo w1 w2 := Mo.trans (by repeat (first | with_reducible exact Mo.refl _ | with_reducible apply Mo.drew | with_reducible apply Mo.alloc)) hm2
  clear cr0 cr1 cr2 cr3 cr4 cr5 fr sr sxr syr
  have Qr := Qr.mo mz
  have M := M.trans mz
  clear hm2 mz
  have Or := Qr
  obtain ⟨⟨cr0, cr1, cr2, cr3, cr4, cr5⟩, fr, sr⟩ := Or
  have fr := fun o => fr o
  have sxr : w.heap.size < w2.heap.size + 1 := by omega
  have syr : w.heap.size < w2.heap.size + 1 + 1 := by omega
  go_wp2_with fail
  refine (signed_n false n s _ (by have := HN.out; omega) (by have := HM.out; have := HN.out; unfold MM; omega)).mono ?_
  rintro e w3 ⟨rfl, hm3⟩
  have mz : Mo w2 w3 := Mo.trans (by repeat (first | with_reducible exact Mo.refl _ | with_reducible apply Mo.drew | with_reducible apply Mo.alloc)) hm3
  clear cr0 cr1 cr2 cr3 cr4 cr5 fr sr sxr syr
  have Qr := Qr.mo mz
  have M := M.trans mz
  clear hm3 mz
  have Or := Qr
  obtain ⟨⟨cr0, cr1, cr2, cr3, cr4, cr5⟩, fr, sr⟩ := Or
  have fr := fun o => fr o
  have sxr : w.heap.size < w3.heap.size + 1 := by omega
  have syr : w.heap.size < w3.heap.size + 1 + 1 := by omega
  go_wp2
  refine bodyPost_ret (v := .tuple #[dc (false && !decide (n = 0)) n s, .int .i64 0]) (by simp [results, Try.results43, go_sem, *]) rfl ?_
  refine ⟨by simp, ?_⟩
  repeat (first | with_reducible exact M | with_reducible exact Mo.refl _ | with_reducible apply Mo.drew | with_reducible apply Mo.drewN | with_reducible apply Mo.alloc | with_reducible refine Mo.setCell ?_ (by simp <;> omega) _)
set_option maxHeartbeats 4000000 in
theorem ofInt_neg (n s : Int) (w : World) (h : sc s = true) (hn0 : n < 0) (hn : -9223372036854775808 ≤ n) : Calls Try.prog 43 #[.int .i64 n, .int .i64 s] w fun e w' => e = .returned (.tuple #[dz n s, .int .i64 0]) ∧ Mo w w' := by
  have d1 : decide (n < 0) = true := decide_eq_true hn0
  have w1 : IntKind.u64.wrap n = n + 18446744073709551616 := by rw [IntKind.wrap_u64]; omega
  have w2 : IntKind.u64.wrap (-(n + 18446744073709551616)) = -n := by rw [IntKind.wrap_u64]; omega
  have e1 : ab n = -n := by unfold ab; rw [if_pos hn0]
  rw [dz, e1, d1]
  clear e1
  have HN : Hid _ := hn0
  have HM : Hid _ := hn
  clear hn0 hn
  go_enter Try.func43, Try.ntmps43
  go_wp2_with fail
  refine (isScale_n s _).mono ?_
  rintro e w1 ⟨rfl, hm1⟩
  have mz : Mo w w1 := Mo.trans (by repeat (first | with_reducible exact Mo.refl _ | with_reducible apply Mo.drew | with_reducible apply Mo.alloc)) hm1
  have M := mz
  have Qr : AtD w1 (w.heap.size) false 0 0 := AtD.mo ⟨by simp [go_sem, zl0, zl1, zl2, zl3], fun o => by simp [go_sem], by simp <;> omega⟩ hm1
  clear hm1 mz
  have Or := Qr
  obtain ⟨⟨cr0, cr1, cr2, cr3, cr4, cr5⟩, fr, sr⟩ := Or
  have fr := fun o => fr o
  have sxr : w.heap.size < w1.heap.size + 1 := by omega
  have syr : w.heap.size < w1.heap.size + 1 + 1 := by omega
  go_wp2_with fail
  refine (from20_any (-n) _ ⟨by have := HN.out; omega, by have := HM.out; omega⟩).mono ?_
  rintro e w2 ⟨rfl, hm2⟩
  have mz : Mo w1 w2 := Mo.trans (by repeat (first | with_reducible exact Mo.refl _ | with_reducible apply Mo.drew | with_reducible apply Mo.alloc)) hm2
  clear cr0 cr1 cr2 cr3 cr4 cr5 fr sr sxr syr
  have Qr := Qr.mo mz
  have M := M.trans mz
  clear hm2 mz
  have Or := Qr
  obtain ⟨⟨cr0, cr1, cr2, cr3, cr4, cr5⟩, fr, sr⟩ := Or
  have fr := fun o => fr o
  have sxr : w.heap.size < w2.heap.size + 1 := by omega
  have syr : w.heap.size < w2.heap.size + 1 + 1 := by omega
  go_wp2_with fail
  refine (signed_n true (-n) s _ (by have := HN.out; omega) (by have := HM.out; have := HN.out; unfold MM; omega)).mono ?_
  rintro e w3 ⟨rfl, hm3⟩
  have mz : Mo w2 w3 := Mo.trans (by repeat (first | with_reducible exact Mo.refl _ | with_reducible apply Mo.drew | with_reducible apply Mo.alloc)) hm3
  clear cr0 cr1 cr2 cr3 cr4 cr5 fr sr sxr syr
  have Qr := Qr.mo mz
  have M := M.trans mz
  clear hm3 mz
  have Or := Qr
  obtain ⟨⟨cr0, cr1, cr2, cr3, cr4, cr5⟩, fr, sr⟩ := Or
  have fr := fun o => fr o
  have sxr : w.heap.size < w3.heap.size + 1 := by omega
  have syr : w.heap.size < w3.heap.size + 1 + 1 := by omega
  go_wp2
  refine bodyPost_ret (v := .tuple #[dc (true && !decide ((-n) = 0)) (-n) s, .int .i64 0]) (by simp [results, Try.results43, go_sem, *]) rfl ?_
  refine ⟨by rw [decide_eq_false (p := -n = 0) (by have := HN.out; omega)]; rfl, ?_⟩
  repeat (first | with_reducible exact M | with_reducible exact Mo.refl _ | with_reducible apply Mo.drew | with_reducible apply Mo.drewN | with_reducible apply Mo.alloc | with_reducible refine Mo.setCell ?_ (by simp <;> omega) _)
theorem ofInt_ok (n s : Int) (w : World) (h : sc s = true) (h0 : -9223372036854775808 ≤ n) (h1 : n < 9223372036854775808) : Calls Try.prog 43 #[.int .i64 n, .int .i64 s] w fun e w' => e = .returned (.tuple #[dz n s, .int .i64 0]) ∧ Mo w w' := by
  by_cases hn : n < 0
  · exact ofInt_neg n s w h hn h0
  · exact ofInt_pos n s w h (by omega) h1
end Go.Proofs.Ythpekbohmfmffaa
/-
  decimal.Cmp: the walk.
-/
namespace Go.Proofs.Ythpekbohmfmffaa
open Go.RowKit
theorem lifted_bd {n : Int} {i : Nat} (h0 : 0 ≤ n) (h : n < MM) (hi : i ≤ 77) : 0 ≤ n * 10 ^ i ∧ n * 10 ^ i < MM * MM := by
  obtain ⟨t0, t1⟩ := ten_bd i hi
  refine ⟨Int.mul_nonneg h0 (by omega), ?_⟩
  have a : n * 10 ^ i ≤ n * MM := Int.mul_le_mul_of_nonneg_left (by omega) h0
  have b : n * MM < MM * MM := Int.mul_lt_mul_of_pos_right h (by decide)
  omega
set_option maxHeartbeats 4000000 in
theorem dcmp_no (b c : Bool) (n m s t : Int) (w : World) (hn0 : 0 ≤ n) (hn : n < MM) (hm0 : 0 ≤ m) (hm : m < MM) (h : ¬ (ck b n s = 0 ∧ ck c m t = 0)) :
    Calls Try.prog 41 #[dc b n s, dc c m t] w fun e w' => e = .returned (.int .i64 0) ∧ Mo w w' := by
  go_enter Try.func41, Try.ntmps41
  go_wp2_with fail
  refine (both_no b n s c m t _ hn0 hn hm0 hm h).mono ?_
  rintro e w1 ⟨rfl, hm1⟩
  have mz : Mo w w1 := Mo.trans (by repeat (first | with_reducible exact Mo.refl _ | with_reducible apply Mo.drew | with_reducible apply Mo.alloc)) hm1
  have M := mz
  have Qa : AtD w1 (w.heap.size) b n s := AtD.mo ⟨by simp [go_sem], fun o => by simp [go_sem], by simp <;> omega⟩ hm1
  have Qb : AtD w1 (w.heap.size + 1) c m t := AtD.mo ⟨by simp [go_sem], fun o => by simp [go_sem], by simp <;> omega⟩ hm1
  clear hm1 mz
  have Oa := Qa
  obtain ⟨⟨ca0, ca1, ca2, ca3, ca4, ca5⟩, fa, sa⟩ := Oa
  have fa := fun o => fa o
  have sxa : w.heap.size < w1.heap.size + 1 := by omega
  have sya : w.heap.size < w1.heap.size + 1 + 1 := by omega
  have Ob := Qb
  obtain ⟨⟨cb0, cb1, cb2, cb3, cb4, cb5⟩, fb, sb⟩ := Ob
  have fb := fun o => fb o
  have sxb : w.heap.size + 1 < w1.heap.size + 1 := by omega
  have syb : w.heap.size + 1 < w1.heap.size + 1 + 1 := by omega
  go_wp2
  go_ret
  exact ⟨rfl, M⟩
set_option maxHeartbeats 4000000 in
theorem dcmp_ne (b c : Bool) (n m s t : Int) (w : World) (hn0 : 0 ≤ n) (hn : n < MM) (hm0 : 0 ≤ m) (hm : m < MM) (h1 : ck b n s = 0) (h2 : ck c m t = 0) (ho : cm (sg b n) (sg c m) ≠ 0) :
    Calls Try.prog 41 #[dc b n s, dc c m t] w fun e w' => e = .returned (.int .i64 (cm (sg b n) (sg c m))) ∧ Mo w w' := by
  have hO : (cm (sg b n) (sg c m) == 0) = false := by simp [ho]
  have hO2 : (cm (sg b n) (sg c m) != 0) = true := by simp [ho]
  clear ho
  go_enter Try.func41, Try.ntmps41
  go_wp2_with fail
  refine (both_ok b n s c m t _ hn0 hn hm0 hm h1 h2).mono ?_
  rintro e w1 ⟨rfl, hm1⟩
  have mz : Mo w w1 := Mo.trans (by repeat (first | with_reducible exact Mo.refl _ | with_reducible apply Mo.drew | with_reducible apply Mo.alloc)) hm1
  have M := mz
  have Qa : AtD w1 (w.heap.size) b n s := AtD.mo ⟨by simp [go_sem], fun o => by simp [go_sem], by simp <;> omega⟩ hm1
  have Qb : AtD w1 (w.heap.size + 1) c m t := AtD.mo ⟨by simp [go_sem], fun o => by simp [go_sem], by simp <;> omega⟩ hm1
  clear hm1 mz
  have Oa := Qa
  obtain ⟨⟨ca0, ca1, ca2, ca3, ca4, ca5⟩, fa, sa⟩ := Oa
  have fa := fun o => fa o
  have sxa : w.heap.size < w1.heap.size + 1 := by omega
  have sya : w.heap.size < w1.heap.size + 1 + 1 := by omega
  have Ob := Qb
  obtain ⟨⟨cb0, cb1, cb2, cb3, cb4, cb5⟩, fb, sb⟩ := Ob
  have fb := fun o => fb o
  have sxb : w.heap.size + 1 < w1.heap.size + 1 := by omega
  have syb : w.heap.size + 1 < w1.heap.size + 1 + 1 := by omega
  go_upto_region 3 with fail
  go_cut [5] from 12 to 16 (fun s5 wx => s5 = .int .i64 (cm (sg b n) (sg c m)) ∧ Mo w wx ∧ AtD wx w.heap.size b n s ∧ AtD wx (w.heap.size + 1) c m t)
  case first =>
    go_region_held3 (fun w' => w'.cell? ⟨w.heap.size, 0, none⟩ = some (.bool b) ∧ w'.cell? ⟨w.heap.size, 1, none⟩ = some (.int .u64 (l0 n)) ∧ w'.cell? ⟨w.heap.size, 2, none⟩ = some (.int .u64 (l1 n)) ∧ w'.cell? ⟨w.heap.size, 3, none⟩ = some (.int .u64 (l2 n)) ∧ w'.cell? ⟨w.heap.size, 4, none⟩ = some (.int .u64 (l3 n)) ∧ w'.cell? ⟨w.heap.size, 5, none⟩ = some (.int .i64 s) ∧ w'.cell? ⟨w.heap.size + 1, 0, none⟩ = some (.bool c) ∧ w'.cell? ⟨w.heap.size + 1, 1, none⟩ = some (.int .u64 (l0 m)) ∧ w'.cell? ⟨w.heap.size + 1, 2, none⟩ = some (.int .u64 (l1 m)) ∧ w'.cell? ⟨w.heap.size + 1, 3, none⟩ = some (.int .u64 (l2 m)) ∧ w'.cell? ⟨w.heap.size + 1, 4, none⟩ = some (.int .u64 (l3 m)) ∧ w'.cell? ⟨w.heap.size + 1, 5, none⟩ = some (.int .i64 t)) (simp [go_sem, *])
      (first | (go_at_call 48; refine (compare_n _ _ _).mono ?_; rintro e w5 ⟨rfl, hm5⟩; have m5 : Mo w4 w5 := Mo.trans (by repeat (first | with_reducible exact Mo.refl _ | with_reducible apply Mo.drew | with_reducible apply Mo.alloc)) hm5; have m6 := (m3.trans m4).trans m5; obtain ⟨⟨i0, i1, i2, i3, i4, i5⟩, _, is⟩ := Qa.mo m6; obtain ⟨⟨j0, j1, j2, j3, j4, j5⟩, _, js⟩ := Qb.mo m6) | (go_at_call 49; have m33 := m3; refine (sign_n c m t _ hm0 hm).mono ?_; rintro e w4 ⟨rfl, hm4⟩; have m4 : Mo w3 w4 := Mo.trans (by repeat (first | with_reducible exact Mo.refl _ | with_reducible apply Mo.drew | with_reducible apply Mo.alloc)) hm4; obtain ⟨⟨g0, g1, g2, g3, g4, g5⟩, _, gs⟩ := Qa.mo (m3.trans m4); obtain ⟨⟨k0, k1, k2, k3, k4, k5⟩, _, ks⟩ := Qb.mo (m3.trans m4)) | (go_at_call 49; refine (sign_n b n s _ hn0 hn).mono ?_; rintro e w3 ⟨rfl, hm3⟩; have m3 : Mo w1 w3 := Mo.trans (by repeat (first | with_reducible exact Mo.refl _ | with_reducible apply Mo.drew | with_reducible apply Mo.alloc)) hm3; obtain ⟨⟨e0, e1, e2, e3, e4, e5⟩, _, es⟩ := Qa.mo m3; obtain ⟨⟨f0, f1, f2, f3, f4, f5⟩, _, fs⟩ := Qb.mo m3))
    all_goals
      go_wp2
      go_meet
      case rel => exact ⟨rfl, M.trans m6, Qa.mo m6, Qb.mo m6⟩
  case rest =>
    clear ca0 ca1 ca2 ca3 ca4 ca5 fa sa sxa sya cb0 cb1 cb2 cb3 cb4 cb5 fb sb sxb syb Qa Qb M
    obtain ⟨rfl, M, Qa, Qb⟩ := hcut
    have Oa := Qa
    obtain ⟨⟨ca0, ca1, ca2, ca3, ca4, ca5⟩, fa, sa⟩ := Oa
    have fa := fun o => fa o
    have sxa : w.heap.size < wc.heap.size + 1 := by omega
    have sya : w.heap.size < wc.heap.size + 1 + 1 := by omega
    have Ob := Qb
    obtain ⟨⟨cb0, cb1, cb2, cb3, cb4, cb5⟩, fb, sb⟩ := Ob
    have fb := fun o => fb o
    have sxb : w.heap.size + 1 < wc.heap.size + 1 := by omega
    have syb : w.heap.size + 1 < wc.heap.size + 1 + 1 := by omega
    go_wp2
    go_ret
    exact ⟨rfl, M⟩
set_option maxHeartbeats 4000000 in
theorem dcmp_pos (b c : Bool) (n m s t : Int) (w : World) (hn0 : 0 ≤ n) (hn : n < MM) (hm0 : 0 ≤ m) (hm : m < MM) (h1 : ck b n s = 0) (h2 : ck c m t = 0) (S : Int) (i j : Nat) (hS : max s t = S) (hi : S - s = (i : Int)) (hj : S - t = (j : Int)) (hi7 : i ≤ 18) (hj7 : j ≤ 18) (hb : b = false) (ho : cm (sg b n) (sg c m) = 0) :
    Calls Try.prog 41 #[dc b n s, dc c m t] w fun e w' => e = .returned (.int .i64 (cm (n * 10 ^ i) (m * 10 ^ j))) ∧ Mo w w' := by
  subst hb
  subst hS
  have bX := lifted_bd hn0 hn (show i ≤ 77 by omega)
  have bY := lifted_bd hm0 hm (show j ≤ 77 by omega)
  have HI : Hid _ := hi
  have HJ : Hid _ := hj
  clear hi hj
  have hO : (cm (sg false n) (sg c m) == 0) = true := by simp [ho]
  have hO2 : (cm (sg false n) (sg c m) != 0) = false := by simp [ho]
  clear ho
  go_enter Try.func41, Try.ntmps41
  go_wp2_with fail
  refine (both_ok false n s c m t _ hn0 hn hm0 hm h1 h2).mono ?_
  rintro e w1 ⟨rfl, hm1⟩
  have mz : Mo w w1 := Mo.trans (by repeat (first | with_reducible exact Mo.refl _ | with_reducible apply Mo.drew | with_reducible apply Mo.alloc)) hm1
  have M := mz
  have Qa : AtD w1 (w.heap.size) false n s := AtD.mo ⟨by simp [go_sem], fun o => by simp [go_sem], by simp <;> omega⟩ hm1
  have Qb : AtD w1 (w.heap.size + 1) c m t := AtD.mo ⟨by simp [go_sem], fun o => by simp [go_sem], by simp <;> omega⟩ hm1
  clear hm1 mz
  have Oa := Qa
  obtain ⟨⟨ca0, ca1, ca2, ca3, ca4, ca5⟩, fa, sa⟩ := Oa
  have fa := fun o => fa o
  have sxa : w.heap.size < w1.heap.size + 1 := by omega
  have sya : w.heap.size < w1.heap.size + 1 + 1 := by omega
  have Ob := Qb
  obtain ⟨⟨cb0, cb1, cb2, cb3, cb4, cb5⟩, fb, sb⟩ := Ob
  have fb := fun o => fb o
  have sxb : w.heap.size + 1 < w1.heap.size + 1 := by omega
  have syb : w.heap.size + 1 < w1.heap.size + 1 + 1 := by omega
  go_upto_region 3 with fail
  go_cut [5] from 12 to 16 (fun s5 wx => s5 = .int .i64 (cm (sg false n) (sg c m)) ∧ Mo w wx ∧ AtD wx w.heap.size false n s ∧ AtD wx (w.heap.size + 1) c m t)
  case first =>
    go_region_held3 (fun w' => w'.cell? ⟨w.heap.size, 0, none⟩ = some (.bool false) ∧ w'.cell? ⟨w.heap.size, 1, none⟩ = some (.int .u64 (l0 n)) ∧ w'.cell? ⟨w.heap.size, 2, none⟩ = some (.int .u64 (l1 n)) ∧ w'.cell? ⟨w.heap.size, 3, none⟩ = some (.int .u64 (l2 n)) ∧ w'.cell? ⟨w.heap.size, 4, none⟩ = some (.int .u64 (l3 n)) ∧ w'.cell? ⟨w.heap.size, 5, none⟩ = some (.int .i64 s) ∧ w'.cell? ⟨w.heap.size + 1, 0, none⟩ = some (.bool c) ∧ w'.cell? ⟨w.heap.size + 1, 1, none⟩ = some (.int .u64 (l0 m)) ∧ w'.cell? ⟨w.heap.size + 1, 2, none⟩ = some (.int .u64 (l1 m)) ∧ w'.cell? ⟨w.heap.size + 1, 3, none⟩ = some (.int .u64 (l2 m)) ∧ w'.cell? ⟨w.heap.size + 1, 4, none⟩ = some (.int .u64 (l3 m)) ∧ w'.cell? ⟨w.heap.size + 1, 5, none⟩ = some (.int .i64 t)) (simp [go_sem, *])
      (first | (go_at_call 48; refine (compare_n _ _ _).mono ?_; rintro e w5 ⟨rfl, hm5⟩; have m5 : Mo w4 w5 := Mo.trans (by repeat (first | with_reducible exact Mo.refl _ | with_reducible apply Mo.drew | with_reducible apply Mo.alloc)) hm5; have m6 := (m3.trans m4).trans m5; obtain ⟨⟨i0, i1, i2, i3, i4, i5⟩, _, is⟩ := Qa.mo m6; obtain ⟨⟨j0, j1, j2, j3, j4, j5⟩, _, js⟩ := Qb.mo m6) | (go_at_call 49; have m33 := m3; refine (sign_n c m t _ hm0 hm).mono ?_; rintro e w4 ⟨rfl, hm4⟩; have m4 : Mo w3 w4 := Mo.trans (by repeat (first | with_reducible exact Mo.refl _ | with_reducible apply Mo.drew | with_reducible apply Mo.alloc)) hm4; obtain ⟨⟨g0, g1, g2, g3, g4, g5⟩, _, gs⟩ := Qa.mo (m3.trans m4); obtain ⟨⟨k0, k1, k2, k3, k4, k5⟩, _, ks⟩ := Qb.mo (m3.trans m4)) | (go_at_call 49; refine (sign_n false n s _ hn0 hn).mono ?_; rintro e w3 ⟨rfl, hm3⟩; have m3 : Mo w1 w3 := Mo.trans (by repeat (first | with_reducible exact Mo.refl _ | with_reducible apply Mo.drew | with_reducible apply Mo.alloc)) hm3; obtain ⟨⟨e0, e1, e2, e3, e4, e5⟩, _, es⟩ := Qa.mo m3; obtain ⟨⟨f0, f1, f2, f3, f4, f5⟩, _, fs⟩ := Qb.mo m3))
    all_goals
      go_wp2
      go_meet
      case rel => exact ⟨rfl, M.trans m6, Qa.mo m6, Qb.mo m6⟩
  case rest =>
    clear ca0 ca1 ca2 ca3 ca4 ca5 fa sa sxa sya cb0 cb1 cb2 cb3 cb4 cb5 fb sb sxb syb Qa Qb M
    obtain ⟨rfl, M, Qa, Qb⟩ := hcut
    have Oa := Qa
    obtain ⟨⟨ca0, ca1, ca2, ca3, ca4, ca5⟩, fa, sa⟩ := Oa
    have fa := fun o => fa o
    have sxa : w.heap.size < wc.heap.size + 1 := by omega
    have sya : w.heap.size < wc.heap.size + 1 + 1 := by omega
    have Ob := Qb
    obtain ⟨⟨cb0, cb1, cb2, cb3, cb4, cb5⟩, fb, sb⟩ := Ob
    have fb := fun o => fb o
    have sxb : w.heap.size + 1 < wc.heap.size + 1 := by omega
    have syb : w.heap.size + 1 < wc.heap.size + 1 + 1 := by omega
    go_upto_region 7 with fail
    go_cut [7] from 25 to 31 (fun s7 wx => s7 = .int .i64 (cm (n * 10 ^ i) (m * 10 ^ j)) ∧ Mo w wx ∧ AtD wx w.heap.size false n s)
    case first =>
      go_region_held3 (fun w' => w'.cell? ⟨w.heap.size, 0, none⟩ = some (.bool false) ∧ w'.cell? ⟨w.heap.size, 1, none⟩ = some (.int .u64 (l0 n)) ∧ w'.cell? ⟨w.heap.size, 2, none⟩ = some (.int .u64 (l1 n)) ∧ w'.cell? ⟨w.heap.size, 3, none⟩ = some (.int .u64 (l2 n)) ∧ w'.cell? ⟨w.heap.size, 4, none⟩ = some (.int .u64 (l3 n)) ∧ w'.cell? ⟨w.heap.size, 5, none⟩ = some (.int .i64 s) ∧ w'.cell? ⟨w.heap.size + 1, 0, none⟩ = some (.bool c) ∧ w'.cell? ⟨w.heap.size + 1, 1, none⟩ = some (.int .u64 (l0 m)) ∧ w'.cell? ⟨w.heap.size + 1, 2, none⟩ = some (.int .u64 (l1 m)) ∧ w'.cell? ⟨w.heap.size + 1, 3, none⟩ = some (.int .u64 (l2 m)) ∧ w'.cell? ⟨w.heap.size + 1, 4, none⟩ = some (.int .u64 (l3 m)) ∧ w'.cell? ⟨w.heap.size + 1, 5, none⟩ = some (.int .i64 t)) (simp [go_sem, *])
        (first | (go_at_call 50; refine (cmpDouble_x _ _ _ bX.1 bX.2 bY.1 bY.2).mono ?_; rintro e w9 ⟨rfl, hm9⟩; have m9 : Mo w8 w9 := Mo.trans (by repeat (first | with_reducible exact Mo.refl _ | with_reducible apply Mo.drew | with_reducible apply Mo.alloc)) hm9; have m10 := (m7.trans m8).trans m9; obtain ⟨⟨i0, i1, i2, i3, i4, i5⟩, _, is⟩ := Qa.mo m10; obtain ⟨⟨j0, j1, j2, j3, j4, j5⟩, _, js⟩ := Qb.mo m10) | (go_at_call 51; have m77 := m7; refine (lift_x _ _ _ _ j _ hm0 hm HJ.out (by omega)).mono ?_; rintro e w8 ⟨rfl, hm8⟩; have m8 : Mo w7 w8 := Mo.trans (by repeat (first | with_reducible exact Mo.refl _ | with_reducible apply Mo.drew | with_reducible apply Mo.alloc)) hm8; obtain ⟨⟨g0, g1, g2, g3, g4, g5⟩, _, gs⟩ := Qa.mo (m7.trans m8); obtain ⟨⟨k0, k1, k2, k3, k4, k5⟩, _, ks⟩ := Qb.mo (m7.trans m8)) | (go_at_call 51; refine (lift_x _ _ _ _ i _ hn0 hn HI.out (by omega)).mono ?_; rintro e w7 ⟨rfl, hm7⟩; have m7 : Mo wc w7 := Mo.trans (by repeat (first | with_reducible exact Mo.refl _ | with_reducible apply Mo.drew | with_reducible apply Mo.alloc)) hm7; obtain ⟨⟨e0, e1, e2, e3, e4, e5⟩, _, es⟩ := Qa.mo m7; obtain ⟨⟨f0, f1, f2, f3, f4, f5⟩, _, fs⟩ := Qb.mo m7))
      all_goals
        go_wp2
        go_meet
        case rel => exact ⟨rfl, M.trans m10, Qa.mo m10⟩
    case rest =>
      clear ca0 ca1 ca2 ca3 ca4 ca5 fa sa sxa sya cb0 cb1 cb2 cb3 cb4 cb5 fb sb sxb syb Qa Qb M
      obtain ⟨rfl, M, Qa⟩ := hcut
      have Oa := Qa
      obtain ⟨⟨ca0, ca1, ca2, ca3, ca4, ca5⟩, fa, sa⟩ := Oa
      have fa := fun o => fa o
      have sxa : w.heap.size < wc.heap.size + 1 := by omega
      have sya : w.heap.size < wc.heap.size + 1 + 1 := by omega
      go_wp2
      go_ret
      exact ⟨rfl, M⟩
set_option maxHeartbeats 4000000 in
theorem dcmp_neg (b c : Bool) (n m s t : Int) (w : World) (hn0 : 0 ≤ n) (hn : n < MM) (hm0 : 0 ≤ m) (hm : m < MM) (h1 : ck b n s = 0) (h2 : ck c m t = 0) (S : Int) (i j : Nat) (hS : max s t = S) (hi : S - s = (i : Int)) (hj : S - t = (j : Int)) (hi7 : i ≤ 18) (hj7 : j ≤ 18) (hb : b = true) (ho : cm (sg b n) (sg c m) = 0) :
    Calls Try.prog 41 #[dc b n s, dc c m t] w fun e w' => e = .returned (.int .i64 (-(cm (n * 10 ^ i) (m * 10 ^ j)))) ∧ Mo w w' := by
  subst hb
  subst hS
  have bX := lifted_bd hn0 hn (show i ≤ 77 by omega)
  have bY := lifted_bd hm0 hm (show j ≤ 77 by omega)
  have HI : Hid _ := hi
  have HJ : Hid _ := hj
  clear hi hj
  have wn : IntKind.i64.wrap (-(cm (n * 10 ^ i) (m * 10 ^ j))) = -(cm (n * 10 ^ i) (m * 10 ^ j)) := by unfold cm; split <;> (try split) <;> decide
  have hO : (cm (sg true n) (sg c m) == 0) = true := by simp [ho]
  have hO2 : (cm (sg true n) (sg c m) != 0) = false := by simp [ho]
  clear ho
  go_enter Try.func41, Try.ntmps41
  go_wp2_with fail
  refine (both_ok true n s c m t _ hn0 hn hm0 hm h1 h2).mono ?_
  rintro e w1 ⟨rfl, hm1⟩
  have mz : Mo w w1 := Mo.trans (by repeat (first | with_reducible exact Mo.refl _ | with_reducible apply Mo.drew | with_reducible apply Mo.alloc)) hm1
  have M := mz
  have Qa : AtD w1 (w.heap.size) true n s := AtD.mo ⟨by simp [go_sem], fun o => by simp [go_sem], by simp <;> omega⟩ hm1
  have Qb : AtD w1 (w.heap.size + 1) c m t := AtD.mo ⟨by simp [go_sem], fun o => by simp [go_sem], by simp <;> omega⟩ hm1
  clear hm1 mz
  have Oa := Qa
  obtain ⟨⟨ca0, ca1, ca2, ca3, ca4, ca5⟩, fa, sa⟩ := Oa
  have fa := fun o => fa o
  have sxa : w.heap.size < w1.heap.size + 1 := by omega
  have sya : w.heap.size < w1.heap.size + 1 + 1 := by omega
  have Ob := Qb
  obtain ⟨⟨cb0, cb1, cb2, cb3, cb4, cb5⟩, fb, sb⟩ := Ob
  have fb := fun o => fb o
  have sxb : w.heap.size + 1 < w1.heap.size + 1 := by omega
  have syb : w.heap.size + 1 < w1.heap.size + 1 + 1 := by omega
  go_upto_region 3 with fail
  go_cut [5] from 12 to 16 (fun s5 wx => s5 = .int .i64 (cm (sg true n) (sg c m)) ∧ Mo w wx ∧ AtD wx w.heap.size true n s ∧ AtD wx (w.heap.size + 1) c m t)
  case first =>
    go_region_held3 (fun w' => w'.cell? ⟨w.heap.size, 0, none⟩ = some (.bool true) ∧ w'.cell? ⟨w.heap.size, 1, none⟩ = some (.int .u64 (l0 n)) ∧ w'.cell? ⟨w.heap.size, 2, none⟩ = some (.int .u64 (l1 n)) ∧ w'.cell? ⟨w.heap.size, 3, none⟩ = some (.int .u64 (l2 n)) ∧ w'.cell? ⟨w.heap.size, 4, none⟩ = some (.int .u64 (l3 n)) ∧ w'.cell? ⟨w.heap.size, 5, none⟩ = some (.int .i64 s) ∧ w'.cell? ⟨w.heap.size + 1, 0, none⟩ = some (.bool c) ∧ w'.cell? ⟨w.heap.size + 1, 1, none⟩ = some (.int .u64 (l0 m)) ∧ w'.cell? ⟨w.heap.size + 1, 2, none⟩ = some (.int .u64 (l1 m)) ∧ w'.cell? ⟨w.heap.size + 1, 3, none⟩ = some (.int .u64 (l2 m)) ∧ w'.cell? ⟨w.heap.size + 1, 4, none⟩ = some (.int .u64 (l3 m)) ∧ w'.cell? ⟨w.heap.size + 1, 5, none⟩ = some (.int .i64 t)) (simp [go_sem, *])
      (first | (go_at_call 48; refine (compare_n _ _ _).mono ?_; rintro e w5 ⟨rfl, hm5⟩; have m5 : Mo w4 w5 := Mo.trans (by repeat (first | with_reducible exact Mo.refl _ | with_reducible apply Mo.drew | with_reducible apply Mo.alloc)) hm5; have m6 := (m3.trans m4).trans m5; obtain ⟨⟨i0, i1, i2, i3, i4, i5⟩, _, is⟩ := Qa.mo m6; obtain ⟨⟨j0, j1, j2, j3, j4, j5⟩, _, js⟩ := Qb.mo m6) | (go_at_call 49; have m33 := m3; refine (sign_n c m t _ hm0 hm).mono ?_; rintro e w4 ⟨rfl, hm4⟩; have m4 : Mo w3 w4 := Mo.trans (by repeat (first | with_reducible exact Mo.refl _ | with_reducible apply Mo.drew | with_reducible apply Mo.alloc)) hm4; obtain ⟨⟨g0, g1, g2, g3, g4, g5⟩, _, gs⟩ := Qa.mo (m3.trans m4); obtain ⟨⟨k0, k1, k2, k3, k4, k5⟩, _, ks⟩ := Qb.mo (m3.trans m4)) | (go_at_call 49; refine (sign_n true n s _ hn0 hn).mono ?_; rintro e w3 ⟨rfl, hm3⟩; have m3 : Mo w1 w3 := Mo.trans (by repeat (first | with_reducible exact Mo.refl _ | with_reducible apply Mo.drew | with_reducible apply Mo.alloc)) hm3; obtain ⟨⟨e0, e1, e2, e3, e4, e5⟩, _, es⟩ := Qa.mo m3; obtain ⟨⟨f0, f1, f2, f3, f4, f5⟩, _, fs⟩ := Qb.mo m3))
    all_goals
      go_wp2
      go_meet
      case rel => exact ⟨rfl, M.trans m6, Qa.mo m6, Qb.mo m6⟩
  case rest =>
    clear ca0 ca1 ca2 ca3 ca4 ca5 fa sa sxa sya cb0 cb1 cb2 cb3 cb4 cb5 fb sb sxb syb Qa Qb M
    obtain ⟨rfl, M, Qa, Qb⟩ := hcut
    have Oa := Qa
    obtain ⟨⟨ca0, ca1, ca2, ca3, ca4, ca5⟩, fa, sa⟩ := Oa
    have fa := fun o => fa o
    have sxa : w.heap.size < wc.heap.size + 1 := by omega
    have sya : w.heap.size < wc.heap.size + 1 + 1 := by omega
    have Ob := Qb
    obtain ⟨⟨cb0, cb1, cb2, cb3, cb4, cb5⟩, fb, sb⟩ := Ob
    have fb := fun o => fb o
    have sxb : w.heap.size + 1 < wc.heap.size + 1 := by omega
    have syb : w.heap.size + 1 < wc.heap.size + 1 + 1 := by omega
    go_upto_region 7 with fail
    go_cut [7] from 25 to 31 (fun s7 wx => s7 = .int .i64 (cm (n * 10 ^ i) (m * 10 ^ j)) ∧ Mo w wx ∧ AtD wx w.heap.size true n s)
    case first =>
      go_region_held3 (fun w' => w'.cell? ⟨w.heap.size, 0, none⟩ = some (.bool true) ∧ w'.cell? ⟨w.heap.size, 1, none⟩ = some (.int .u64 (l0 n)) ∧ w'.cell? ⟨w.heap.size, 2, none⟩ = some (.int .u64 (l1 n)) ∧ w'.cell? ⟨w.heap.size, 3, none⟩ = some (.int .u64 (l2 n)) ∧ w'.cell? ⟨w.heap.size, 4, none⟩ = some (.int .u64 (l3 n)) ∧ w'.cell? ⟨w.heap.size, 5, none⟩ = some (.int .i64 s) ∧ w'.cell? ⟨w.heap.size + 1, 0, none⟩ = some (.bool c) ∧ w'.cell? ⟨w.heap.size + 1, 1, none⟩ = some (.int .u64 (l0 m)) ∧ w'.cell? ⟨w.heap.size + 1, 2, none⟩ = some (.int .u64 (l1 m)) ∧ w'.cell? ⟨w.heap.size + 1, 3, none⟩ = some (.int .u64 (l2 m)) ∧ w'.cell? ⟨w.heap.size + 1, 4, none⟩ = some (.int .u64 (l3 m)) ∧ w'.cell? ⟨w.heap.size + 1, 5, none⟩ = some (.int .i64 t)) (simp [go_sem, *])
        (first | (go_at_call 50; refine (cmpDouble_x _ _ _ bX.1 bX.2 bY.1 bY.2).mono ?_; rintro e w9 ⟨rfl, hm9⟩; have m9 : Mo w8 w9 := Mo.trans (by repeat (first | with_reducible exact Mo.refl _ | with_reducible apply Mo.drew | with_reducible apply Mo.alloc)) hm9; have m10 := (m7.trans m8).trans m9; obtain ⟨⟨i0, i1, i2, i3, i4, i5⟩, _, is⟩ := Qa.mo m10; obtain ⟨⟨j0, j1, j2, j3, j4, j5⟩, _, js⟩ := Qb.mo m10) | (go_at_call 51; have m77 := m7; refine (lift_x _ _ _ _ j _ hm0 hm HJ.out (by omega)).mono ?_; rintro e w8 ⟨rfl, hm8⟩; have m8 : Mo w7 w8 := Mo.trans (by repeat (first | with_reducible exact Mo.refl _ | with_reducible apply Mo.drew | with_reducible apply Mo.alloc)) hm8; obtain ⟨⟨g0, g1, g2, g3, g4, g5⟩, _, gs⟩ := Qa.mo (m7.trans m8); obtain ⟨⟨k0, k1, k2, k3, k4, k5⟩, _, ks⟩ := Qb.mo (m7.trans m8)) | (go_at_call 51; refine (lift_x _ _ _ _ i _ hn0 hn HI.out (by omega)).mono ?_; rintro e w7 ⟨rfl, hm7⟩; have m7 : Mo wc w7 := Mo.trans (by repeat (first | with_reducible exact Mo.refl _ | with_reducible apply Mo.drew | with_reducible apply Mo.alloc)) hm7; obtain ⟨⟨e0, e1, e2, e3, e4, e5⟩, _, es⟩ := Qa.mo m7; obtain ⟨⟨f0, f1, f2, f3, f4, f5⟩, _, fs⟩ := Qb.mo m7))
      all_goals
        go_wp2
        go_meet
        case rel => exact ⟨rfl, M.trans m10, Qa.mo m10⟩
    case rest =>
      clear ca0 ca1 ca2 ca3 ca4 ca5 fa sa sxa sya cb0 cb1 cb2 cb3 cb4 cb5 fb sb sxb syb Qa Qb M
      obtain ⟨rfl, M, Qa⟩ := hcut
      have Oa := Qa
      obtain ⟨⟨ca0, ca1, ca2, ca3, ca4, ca5⟩, fa, sa⟩ := Oa
      have fa := fun o => fa o
      have sxa : w.heap.size < wc.heap.size + 1 := by omega
      have sya : w.heap.size < wc.heap.size + 1 + 1 := by omega
      go_wp2
      go_ret
      exact ⟨rfl, M⟩
end Go.Proofs.Ythpekbohmfmffaa
/-
  decimal.Add: the walk, step by step.
-/
namespace Go.Proofs.Ythpekbohmfmffaa
open Go.RowKit
theorem eqb_run {a b r : Bool} (h : (a == b) = r) (x y : Operand) (w : World) : (do eqGuard .eql 4 x y (.bool a) (.bool b); binOp .eql 4 (.bool a) (.bool b)).run Try.prog w = .ok (.bool r) w := by
  subst h; kernel_rfl
theorem lss_run {a b : Int} {r : Bool} (h : decide (a < b) = r) (x y : Operand) (w : World) : (do eqGuard .lss 3 x y (.int .i64 a) (.int .i64 b); binOp .lss 3 (.int .i64 a) (.int .i64 b)).run Try.prog w = .ok (.bool r) w := by
  subst h; kernel_rfl
end Go.Proofs.Ythpekbohmfmffaa
/-
  decimal.MulTo: the walk.
-/
namespace Go.Proofs.Ythpekbohmfmffaa
open Go.RowKit
theorem prod_bd {n m : Int} (hn0 : 0 ≤ n) (hn : n < MM) (hm0 : 0 ≤ m) (hm : m < MM) : 0 ≤ n * m ∧ n * m < MM * MM := by
  refine ⟨Int.mul_nonneg hn0 hm0, ?_⟩
  have a : n * m ≤ n * MM := Int.mul_le_mul_of_nonneg_left (by omega) hn0
  have b : n * MM < MM * MM := Int.mul_lt_mul_of_pos_right hn (by decide)
  omega
theorem T81.mk2 {w w' : World} (m : Mo (w.alloc (.cells #[.int .u64 0, .int .u64 0, .int .u64 0, .int .u64 0, .int .u64 0, .int .u64 0, .int .u64 0, .int .u64 0] 76)) w') : w'.there w.heap.size 0 8 ∧ w.heap.size < w'.heap.size :=
  ⟨m.there (there_new w) (by simp), by have := m.size; simp at this; omega⟩
theorem T81.mk1 {w w' : World} (m : Mo ((w.alloc (.cells #[.int .u64 0, .int .u64 0, .int .u64 0, .int .u64 0, .int .u64 0, .int .u64 0, .int .u64 0, .int .u64 0] 76)).drew) w') : w'.there w.heap.size 0 8 ∧ w.heap.size < w'.heap.size := T81.mk2 ((Mo.refl _).drew.trans m)
theorem cell_sc (w : World) (k j o : Nat) (l : List Value) (h : ¬ j = k) : (w.setCells k 0 l).cell? ⟨j, o, none⟩ = w.cell? ⟨j, o, none⟩ := World.cell?_setCells_out k l 0 w _ (fun hb _ => absurd hb h)
end Go.Proofs.Ythpekbohmfmffaa
/-
  decimal.Mul and Sub: the walks.
-/
namespace Go.Proofs.Ythpekbohmfmffaa
open Go.RowKit
end Go.Proofs.Ythpekbohmfmffaa
/-
  decimal.MulTo where nothing is cut off: the walk.
-/
namespace Go.Proofs.Ythpekbohmfmffaa
open Go.RowKit
end Go.Proofs.Ythpekbohmfmffaa
/-
  decimal.Rescale: the walk.
-/
namespace Go.Proofs.Ythpekbohmfmffaa
open Go.RowKit
end Go.Proofs.Ythpekbohmfmffaa
/-
  decimal's functions by whole numbers: what they answer at numbers that may be.
-/
namespace Go.Proofs.Ythpekbohmfmffaa
open Go.RowKit
/-- Ten to the k. -/
def pw (k : Int) : Int := 10 ^ k.toNat
theorem pw_pos (k : Int) : 0 < pw k := Int.pow_pos (by decide)
theorem pw_zero : pw 0 = 1 := rfl
theorem pw_nat (k : Nat) : pw (k : Int) = 10 ^ k := rfl
/-- The sum of two numbers, in the last digits of the greater scale. -/
def addV (u s v t : Int) : Int := u * pw (max s t - s) + v * pw (max s t - t)
theorem ab_c (v : Int) : (v < 0 ∧ ab v = -v) ∨ (0 ≤ v ∧ ab v = v) := by
  unfold ab; by_cases h : v < 0
  · exact Or.inl ⟨h, if_pos h⟩
  · exact Or.inr ⟨by omega, if_neg h⟩
theorem ab_mul {u x : Int} (hx : 0 < x) : ab u * x = ab (u * x) := by
  unfold ab
  by_cases h : u < 0
  · rw [if_pos h, if_pos (Int.mul_neg_of_neg_of_pos h hx), Int.neg_mul]
  · rw [if_neg h, if_neg (by have := Int.mul_nonneg (Int.not_lt.1 h) (Int.le_of_lt hx); omega)]
theorem neg_mul_iff {u x : Int} (hx : 0 < x) : decide (u * x < 0) = decide (u < 0) := by
  by_cases h : u < 0
  · rw [decide_eq_true h, decide_eq_true (Int.mul_neg_of_neg_of_pos h hx)]
  · have := Int.mul_nonneg (Int.not_lt.1 h) (Int.le_of_lt hx)
    rw [decide_eq_false h, decide_eq_false (by omega)]
theorem lifted_sm {n : Int} {i : Nat} (h0 : 0 ≤ n) (h : n < MM) (hi : i ≤ 18) : n * 10 ^ i < 1000000000000000000 * MM := by
  have h1 : (10 : Nat) ^ i ≤ 10 ^ 18 := Nat.pow_le_pow_right (by decide) hi
  have h3 : ((10 ^ i : Nat) : Int) = (10 : Int) ^ i := by rw [Int.natCast_pow]; rfl
  have h4 : (10 : Int) ^ i ≤ 1000000000000000000 := by rw [← h3]; omega
  have a : n * 10 ^ i ≤ n * 1000000000000000000 := Int.mul_le_mul_of_nonneg_left h4 h0
  unfold MM at *
  omega
theorem one6 (b : Bool) (n s : Int) : [Value.bool b, .int .u64 (l0 n), .int .u64 (l1 n), .int .u64 (l2 n), .int .u64 (l3 n), .int .i64 s].all (·.oneCell') = true := rfl
end Go.Proofs.Ythpekbohmfmffaa
/-
  decimal by whole numbers: what else its functions answer.
-/
namespace Go.Proofs.Ythpekbohmfmffaa
open Go.RowKit
theorem dz_neg (v t : Int) : dc (!decide (v < 0) && !decide (ab v = 0)) (ab v) t = dz (-v) t := by
  have c := ab_c v
  have d := ab_c (-v)
  have e1 : ab v = ab (-v) := by omega
  have e2 : (!decide (v < 0) && !decide (ab v = 0)) = decide (-v < 0) := by
    rw [Bool.eq_iff_iff]; simp; omega
  rw [e2, e1]
theorem ab_neg (v : Int) : ab (-v) = ab v := by have c := ab_c v; have d := ab_c (-v); omega
theorem fz_yes {V S : Int} (h : ab V < MM) : fz V S = .tuple #[dz V S, .int .i64 0] := by unfold fz; rw [if_pos h]
theorem fz_no {V S : Int} (h : ¬ ab V < MM) : fz V S = er 7 := by unfold fz; rw [if_neg h]
theorem cmp_z (u s v t : Int) (w : World) (hu : ab u < MM) (hv : ab v < MM) (hs : sc s = true) (ht : sc t = true) :
    Calls Try.prog 41 #[dz u s, dz v t] w fun e w' => e = .returned (.int .i64 (cm (u * pw (max s t - s)) (v * pw (max s t - t)))) ∧ Mo w w' := by
  obtain ⟨s0, s1⟩ := sc_iff.1 hs
  obtain ⟨t0, t1⟩ := sc_iff.1 ht
  obtain ⟨S, hS⟩ : ∃ S, max s t = S := ⟨_, rfl⟩
  obtain ⟨i, hi⟩ : ∃ i : Nat, S - s = (i : Int) := ⟨(S - s).toNat, by omega⟩
  obtain ⟨j, hj⟩ : ∃ j : Nat, S - t = (j : Int) := ⟨(S - t).toNat, by omega⟩
  rw [hS, hi, hj, pw_nat, pw_nat]
  have pi : (0 : Int) < 10 ^ i := Int.pow_pos (by decide)
  have pj : (0 : Int) < 10 ^ j := Int.pow_pos (by decide)
  have eX := ab_mul (u := u) pi
  have eY := ab_mul (u := v) pj
  have nX := neg_mul_iff (u := u) pi
  have nY := neg_mul_iff (u := v) pj
  have zX : u * 10 ^ i = 0 ↔ ab u = 0 := by
    have c := ab_c u
    constructor
    · intro h; rcases Int.mul_eq_zero.1 h with h | h <;> omega
    · intro h; rw [show u = 0 by omega]; simp
  have zY : v * 10 ^ j = 0 ↔ ab v = 0 := by
    have c := ab_c v
    constructor
    · intro h; rcases Int.mul_eq_zero.1 h with h | h <;> omega
    · intro h; rw [show v = 0 by omega]; simp
  have sX : sg (decide (u < 0)) (ab u) = if u * 10 ^ i = 0 then 0 else if u * 10 ^ i < 0 then -1 else 1 := by
    unfold sg; rw [← nX]; by_cases h : u * 10 ^ i = 0 <;> simp [h, zX.1] <;> simp [zX.symm, h]
  have sY : sg (decide (v < 0)) (ab v) = if v * 10 ^ j = 0 then 0 else if v * 10 ^ j < 0 then -1 else 1 := by
    unfold sg; rw [← nY]; by_cases h : v * 10 ^ j = 0 <;> simp [h, zY.1] <;> simp [zY.symm, h]
  generalize hA : u * 10 ^ i = A at *
  generalize hB : v * 10 ^ j = B at *
  have cA := ab_c A
  have cB := ab_c B
  by_cases ho : cm (sg (decide (u < 0)) (ab u)) (sg (decide (v < 0)) (ab v)) = 0
  · have hsg : sg (decide (u < 0)) (ab u) = sg (decide (v < 0)) (ab v) := by unfold cm at ho; split at ho <;> (try split at ho) <;> omega
    rw [sX, sY] at hsg
    have hneg : (A < 0 ↔ B < 0) := by split at hsg <;> split at hsg <;> (try split at hsg) <;> (try split at hsg) <;> omega
    by_cases hb : u < 0
    · have hA0 : A < 0 := by have := nX; simp [hb] at this; exact this
      have := dcmp_neg (decide (u < 0)) (decide (v < 0)) (ab u) (ab v) s t w (ab_nn u) hu (ab_nn v) hv (ck_dz hs) (ck_dz ht) S i j hS hi hj (by omega) (by omega) (decide_eq_true hb) ho
      rw [eX, eY] at this
      have e : -(cm (ab A) (ab B)) = cm A B := by unfold cm; split <;> (try split) <;> (try split) <;> (try split) <;> omega
      rw [e] at this
      exact this
    · have hA0 : ¬ A < 0 := by have := nX; simp [hb] at this; omega
      have := dcmp_pos (decide (u < 0)) (decide (v < 0)) (ab u) (ab v) s t w (ab_nn u) hu (ab_nn v) hv (ck_dz hs) (ck_dz ht) S i j hS hi hj (by omega) (by omega) (decide_eq_false hb) ho
      rw [eX, eY] at this
      have e : cm (ab A) (ab B) = cm A B := by rw [show ab A = A by omega, show ab B = B by omega]
      rw [e] at this
      exact this
  · have := dcmp_ne (decide (u < 0)) (decide (v < 0)) (ab u) (ab v) s t w (ab_nn u) hu (ab_nn v) hv (ck_dz hs) (ck_dz ht) ho
    have e : cm (sg (decide (u < 0)) (ab u)) (sg (decide (v < 0)) (ab v)) = cm A B := by
      rw [sX, sY] at ho ⊢
      unfold cm at *
      by_cases a0 : A = 0 <;> by_cases b0 : B = 0 <;> by_cases a1 : A < 0 <;> by_cases b1 : B < 0 <;> simp [a0, b0, a1, b1] at ho ⊢ <;> (try split) <;> (try split) <;> omega
    rw [e] at this
    exact this
/-- A number rounded to another scale. -/
def rsV (u s S p : Int) : Int := if S < s then sv (decide (u < 0)) (ro (decide (u < 0)) (ab u) (s - S).toNat p) else u * pw (S - s)
end Go.Proofs.Ythpekbohmfmffaa
/-
  exciselaw02.begun answers true.
-/
namespace Go.Proofs.Ythpekbohmfmffaa
open Go.RowKit
theorem bg1 (w : World) : Calls Try.prog 43 #[.int .i64 15, .int .i64 1] w fun e w' => e = .returned (.tuple #[dc false 15 1, .int .i64 0]) ∧ Mo w w' := ofInt_ok 15 1 w rfl (by decide) (by decide)
theorem bg2 (w : World) : Calls Try.prog 43 #[.int .i64 (-225), .int .i64 2] w fun e w' => e = .returned (.tuple #[dc true 225 2, .int .i64 0]) ∧ Mo w w' := ofInt_ok (-225) 2 w rfl (by decide) (by decide)
theorem guard_run {op : BinOp} {ty : TypeId} {a b : Array Value} {w : World} (x y : Operand) (hg : Try.prog.eqGuardType Try.prog.depth ty = false) : (eqGuard op ty x y (.agg a) (.agg b)).run Try.prog w = .ok () w := by
  unfold eqGuard
  cases op <;> simp [hg]
theorem eqa_run {ty : TypeId} {a b : Array Value} {r : Bool} {w : World} (hg : Try.prog.eqGuardType Try.prog.depth ty = false) (q : (Op.equalIn 10000 ty (.agg a) (.agg b)).run Try.prog w = .ok r w) (x y : Operand) :
    (do eqGuard .eql ty x y (.agg a) (.agg b); binOp .eql ty (.agg a) (.agg b)).run Try.prog w = .ok (.bool r) w := by
  have e : binOp .eql ty (.agg a) (.agg b) = (do pure (.bool (← Op.equalIn 10000 ty (.agg a) (.agg b)))) := rfl
  rw [Sem.run_bind, guard_run x y hg, e, Result.andThen_ok, Sem.run_bind, q]; rfl
theorem nea_run {ty : TypeId} {a b : Array Value} {r : Bool} {w : World} (hg : Try.prog.eqGuardType Try.prog.depth ty = false) (q : (Op.equalIn 10000 ty (.agg a) (.agg b)).run Try.prog w = .ok r w) (x y : Operand) :
    (do eqGuard .neq ty x y (.agg a) (.agg b); binOp .neq ty (.agg a) (.agg b)).run Try.prog w = .ok (.bool (!r)) w := by
  have e : binOp .neq ty (.agg a) (.agg b) = (do pure (.bool (!(← Op.equalIn 10000 ty (.agg a) (.agg b))))) := rfl
  rw [Sem.run_bind, guard_run x y hg, e, Result.andThen_ok, Sem.run_bind, q]; rfl
theorem gt40 : Try.prog.eqGuardType Try.prog.depth 26 = false := by kernel_rfl
theorem gt24 : Try.prog.eqGuardType Try.prog.depth 24 = false := by kernel_rfl
/-- == of two decimals. -/
theorem eqd_run {b c : Bool} {n0 n1 n2 n3 m0 m1 m2 m3 s t : Int} {r : Bool} (h : (b == c && (n0 == m0 && (n1 == m1 && (n2 == m2 && (n3 == m3 && s == t))))) = r) (x y : Operand) (w : World) :
    (do eqGuard .eql 26 x y (.agg #[.bool b, .int .u64 n0, .int .u64 n1, .int .u64 n2, .int .u64 n3, .int .i64 s]) (.agg #[.bool c, .int .u64 m0, .int .u64 m1, .int .u64 m2, .int .u64 m3, .int .i64 t]); binOp .eql 26 (.agg #[.bool b, .int .u64 n0, .int .u64 n1, .int .u64 n2, .int .u64 n3, .int .i64 s]) (.agg #[.bool c, .int .u64 m0, .int .u64 m1, .int .u64 m2, .int .u64 m3, .int .i64 t])).run Try.prog w = .ok (.bool r) w :=
  eqa_run gt40 (by rw [← h]; exact eq40 b c n0 n1 n2 n3 m0 m1 m2 m3 s t w) x y
theorem ned_run {b c : Bool} {n0 n1 n2 n3 m0 m1 m2 m3 s t : Int} {r : Bool} (h : (b == c && (n0 == m0 && (n1 == m1 && (n2 == m2 && (n3 == m3 && s == t))))) = r) (x y : Operand) (w : World) :
    (do eqGuard .neq 26 x y (.agg #[.bool b, .int .u64 n0, .int .u64 n1, .int .u64 n2, .int .u64 n3, .int .i64 s]) (.agg #[.bool c, .int .u64 m0, .int .u64 m1, .int .u64 m2, .int .u64 m3, .int .i64 t]); binOp .neq 26 (.agg #[.bool b, .int .u64 n0, .int .u64 n1, .int .u64 n2, .int .u64 n3, .int .i64 s]) (.agg #[.bool c, .int .u64 m0, .int .u64 m1, .int .u64 m2, .int .u64 m3, .int .i64 t])).run Try.prog w = .ok (.bool (!r)) w :=
  nea_run gt40 (by rw [← h]; exact eq40 b c n0 n1 n2 n3 m0 m1 m2 m3 s t w) x y
theorem eqn_run {n0 n1 n2 n3 m0 m1 m2 m3 : Int} {r : Bool} (h : (n0 == m0 && (n1 == m1 && (n2 == m2 && n3 == m3))) = r) (x y : Operand) (w : World) :
    (do eqGuard .eql 24 x y (.agg #[.int .u64 n0, .int .u64 n1, .int .u64 n2, .int .u64 n3]) (.agg #[.int .u64 m0, .int .u64 m1, .int .u64 m2, .int .u64 m3]); binOp .eql 24 (.agg #[.int .u64 n0, .int .u64 n1, .int .u64 n2, .int .u64 n3]) (.agg #[.int .u64 m0, .int .u64 m1, .int .u64 m2, .int .u64 m3])).run Try.prog w = .ok (.bool r) w :=
  eqa_run gt24 (by rw [← h]; exact eq4 n0 n1 n2 n3 m0 m1 m2 m3 w) x y
theorem nen_run {n0 n1 n2 n3 m0 m1 m2 m3 : Int} {r : Bool} (h : (n0 == m0 && (n1 == m1 && (n2 == m2 && n3 == m3))) = r) (x y : Operand) (w : World) :
    (do eqGuard .neq 24 x y (.agg #[.int .u64 n0, .int .u64 n1, .int .u64 n2, .int .u64 n3]) (.agg #[.int .u64 m0, .int .u64 m1, .int .u64 m2, .int .u64 m3]); binOp .neq 24 (.agg #[.int .u64 n0, .int .u64 n1, .int .u64 n2, .int .u64 n3]) (.agg #[.int .u64 m0, .int .u64 m1, .int .u64 m2, .int .u64 m3])).run Try.prog w = .ok (.bool (!r)) w :=
  nea_run gt24 (by rw [← h]; exact eq4 n0 n1 n2 n3 m0 m1 m2 m3 w) x y
theorem self6 (b : Bool) (n0 n1 n2 n3 s : Int) : (b == b && (n0 == n0 && (n1 == n1 && (n2 == n2 && (n3 == n3 && s == s))))) = true := by simp
end Go.Proofs.Ythpekbohmfmffaa
/-
  The document's Ten, whatever the number: the walk.
-/
namespace Go.Proofs.Ythpekbohmfmffaa
open Go.RowKit
set_option maxHeartbeats 1000000 in
theorem rten_no (n : Int) (w : World) (h : n < 0 ∨ 77 < n) :
    Calls Try.prog 61 #[.int .i64 n] w fun e w' => e = .returned (.tuple #[nv 0, .bool false]) ∧ Mo w w' := by
  have e : nv 0 = .agg #[.int .u64 0, .int .u64 0, .int .u64 0, .int .u64 0] := by simp [nv, l0, l1, l2, l3]
  rw [e]
  clear e
  by_cases hn : n < 0
  · clear h
    go_enter Try.func61, Try.ntmps61
    go_wp2
    refine bodyPost_ret (by simp [results, Try.results61, go_sem]; rfl) rfl ?_
    exact ⟨rfl, (Mo.refl _).alloc _ _⟩
  · have h7 : 77 < n := by omega
    clear h
    go_enter Try.func61, Try.ntmps61
    go_wp2
    refine bodyPost_ret (by simp [results, Try.results61, go_sem]; rfl) rfl ?_
    exact ⟨rfl, (Mo.refl _).alloc _ _⟩
theorem pow_lt (k : Nat) (h : k ≤ 77) : (0 : Int) < 10 ^ k ∧ (10 : Int) ^ k < MM := by
  refine ⟨Int.pow_pos (by decide), ?_⟩
  have h1 : (10 : Nat) ^ k ≤ 10 ^ 77 := Nat.pow_le_pow_right (by decide) h
  have h2 : (10 : Nat) ^ 77 < 115792089237316195423570985008687907853269984665640564039457584007913129639936 := by decide
  have h3 : ((10 ^ k : Nat) : Int) = (10 : Int) ^ k := by rw [Int.natCast_pow]; rfl
  rw [← h3]
  unfold MM
  omega
set_option maxHeartbeats 4000000 in
theorem rten_yes (n : Nat) (w : World) (h7 : n ≤ 77) :
    Calls Try.prog 61 #[.int .i64 n] w fun e w' => e = .returned (.tuple #[nv (10 ^ n), .bool true]) ∧ Mo w w' := by
  have hn : ¬ ((n : Int) < 0) := by omega
  have hn7 : ¬ (77 < (n : Int)) := by omega
  go_enter Try.func61, Try.ntmps61
  go_wp2_with fail
  refine (from34_any 1 _ ⟨by decide, by decide⟩).mono ?_
  rintro e w1 ⟨rfl, hm⟩
  have hz := hm.size
  simp only [World.size_alloc] at hz
  have hA : At4 w1 w.heap.size 0 0 0 0 := At4.mo (by simp [At4, go_sem]) hm (by simp)
  have hF : Fz w1 w.heap.size := Fz.mo (fun o => by simp [go_sem]) hm
  have hM : Mo w w1 := ((Mo.refl _).alloc _ _).trans hm
  have hS : TT w (w1.alloc (.cells #[.int .u64 (l0 1), .int .u64 (l1 1), .int .u64 (l2 1), .int .u64 (l3 1)] 24)) w1.heap.size 1 := by
    have z : w.heap.size < w1.heap.size := by omega
    exact ⟨hM.alloc _ _, z, by simp, hA.mo ((Mo.refl _).alloc _ _) z, hF.mo ((Mo.refl _).alloc _ _), by simp [At4, go_sem], fun o => by simp [go_sem]⟩
  have HS : Hid _ := hS
  clear hS hA hF
  go_wp2
  go_loopw [5] (fun i wr => ∃ k : Nat, k ≤ n ∧ i = .int .i64 k ∧ TT w wr w1.heap.size (10 ^ k)) (fun i _ => n - (intOf i).toNat)
  case atStart => exact ⟨0, Nat.zero_le _, rfl, HS.out⟩
  case round =>
    obtain ⟨k, hk, rfl, ht⟩ := hrel
    by_cases hlt : k < n
    · have pk := pow_lt k (by omega)
      have hstep : Hid (10 ^ k * 10 = (10 : Int) ^ (k + 1)) := (Int.pow_succ 10 k).symm
      obtain ⟨P, hP⟩ : ∃ P : Int, P = 10 ^ k := ⟨_, rfl⟩
      rw [← hP] at ht pk hstep
      have HP : Hid _ := hP
      clear hP
      have dk : decide ((k : Int) < (n : Int)) = true := decide_eq_true (by omega)
      go_upto_region 7 with fail
      have ht0 := ht
      obtain ⟨g1, g2, g3, ⟨c0, c1, c2, c3⟩, g5, ⟨b0, b1, b2, b3⟩, g7⟩ := ht0
      clear g5 g7
      go_region_with
        (first | (go_at_call 46; refine (from34_any 10 _ ⟨by decide, by decide⟩).mono ?_; rintro e w5 ⟨rfl, hm5⟩; have m5 : Mo wr w5 := Mo.trans (by repeat (first | with_reducible exact Mo.refl _ | with_reducible apply Mo.drew | with_reducible apply Mo.alloc)) hm5; obtain ⟨_, _, _, _, _, ⟨x0, x1, x2, x3⟩, _⟩ := ht.mo m5) | (go_at_call 62; refine (rmul_n P 10 _ (by omega) pk.2 (by decide) (by decide)).mono ?_; rintro e w6 ⟨rfl, hm6⟩; have m6 : Mo w5 w6 := Mo.trans (by repeat (first | with_reducible exact Mo.refl _ | with_reducible apply Mo.drew | with_reducible apply Mo.alloc)) hm6; have m7 := m5.trans m6; obtain ⟨_, _, zs, _, _, ⟨z0, z1, z2, z3⟩, zf⟩ := ht.mo m7; have zf := fun o => zf o))
      all_goals
        go_wp2
        go_roundw
        case rel =>
          refine ⟨k + 1, by omega, by go_num, ?_⟩
          rw [← hstep.out]
          exact (ht.mo m7).put
        case measure => simp [intOf]; omega
    · have hkn : k = n := by omega
      subst hkn
      obtain ⟨g1, g2, g3, ⟨c0, c1, c2, c3⟩, g5, ⟨b0, b1, b2, b3⟩, g7⟩ := ht
      have g5 := fun o => g5 o
      go_wp2
      refine bodyPost_ret (v := .tuple #[nv (10 ^ k), .bool true]) (by simp [results, Try.results61, go_sem, c0, c1, c2, c3]) rfl ?_
      refine ⟨rfl, ?_⟩
      exact (((g1.setCell (Nat.le_refl _) _).setCell (Nat.le_refl _) _).setCell (Nat.le_refl _) _).setCell (Nat.le_refl _) _
end Go.Proofs.Ythpekbohmfmffaa
/-
  The document's Check, both, cmp, shift: the walks.
-/
namespace Go.Proofs.Ythpekbohmfmffaa
open Go.RowKit
set_option maxHeartbeats 2000000 in
theorem rcheck_n (b : Bool) (n s : Int) (w : World) (hn0 : 0 ≤ n) (hn : n < MM) : Calls Try.prog 27 #[dc b n s] w fun e w' => e = .returned (.int .i64 (ck b n s)) ∧ Mo w w' := by
  have q4 := eq4
  have z4 := zb hn0 hn
  by_cases h1 : s < 0
  · have d1 : decide (s < 0) = true := decide_eq_true h1
    have e : Hid (ck b n s = 20) := by show _ = _; unfold ck sc; rw [decide_eq_false (p := 0 ≤ s) (by omega)]; rfl
    clear h1
    go_enter Try.func27, Try.ntmps27
    go_wp2
    go_ret
    exact ⟨by rw [e.out]; rfl, (Mo.refl _).alloc _ _⟩
  · by_cases h2 : s > 18
    · have d1 : decide (s < 0) = false := decide_eq_false h1
      have d2 : decide (s > 18) = true := decide_eq_true h2
      have e : Hid (ck b n s = 20) := by show _ = _; unfold ck sc; rw [decide_eq_false (p := s ≤ 18) (by omega)]; simp
      clear h1 h2
      go_enter Try.func27, Try.ntmps27
      go_wp2
      go_ret
      exact ⟨by rw [e.out]; rfl, (Mo.refl _).alloc _ _⟩
    · have d1 : decide (s < 0) = false := decide_eq_false h1
      have d2 : decide (s > 18) = false := decide_eq_false h2
      have e : Hid (sc s = true) := by show _ = _; unfold sc; rw [decide_eq_true (p := 0 ≤ s) (by omega), decide_eq_true (p := s ≤ 18) (by omega)]; rfl
      clear h1 h2
      cases hb : b <;> cases hz : decide (n = 0)
      all_goals
        rw [hz] at z4
        have HZ : Hid _ := hz
        clear hz
        go_enter Try.func27, Try.ntmps27
        go_wp2
        go_ret
        exact ⟨by rw [ck, e.out, HZ.out]; rfl, (Mo.refl _).alloc _ _⟩
theorem rcheck_ok (b : Bool) (n s : Int) (w : World) (hn0 : 0 ≤ n) (hn : n < MM) (h : ck b n s = 0) : Calls Try.prog 27 #[dc b n s] w fun e w' => e = .returned (.int .i64 0) ∧ Mo w w' := by
  have := rcheck_n b n s w hn0 hn
  rw [h] at this
  exact this
theorem rcheck_no (b : Bool) (n s : Int) (w : World) (hn0 : 0 ≤ n) (hn : n < MM) (h : ck b n s ≠ 0) : Calls Try.prog 27 #[dc b n s] w fun e w' => e = .returned (.int .i64 20) ∧ Mo w w' := by
  have := rcheck_n b n s w hn0 hn
  rw [ck_20 h] at this
  exact this
set_option maxHeartbeats 4000000 in
theorem rboth_ok (b : Bool) (n s : Int) (c : Bool) (m t : Int) (w : World) (hn0 : 0 ≤ n) (hn : n < MM) (hm0 : 0 ≤ m) (hm : m < MM) (h1 : ck b n s = 0) (h2 : ck c m t = 0) :
    Calls Try.prog 52 #[dc b n s, dc c m t] w fun e w' => e = .returned (.int .i64 0) ∧ Mo w w' := by
  go_enter Try.func52, Try.ntmps52
  go_wp2_with fail
  refine (rcheck_ok b n s _ hn0 hn h1).mono ?_
  rintro e w1 ⟨rfl, hm1⟩
  have mz : Mo w w1 := Mo.trans (by repeat (first | with_reducible exact Mo.refl _ | with_reducible apply Mo.drew | with_reducible apply Mo.alloc)) hm1
  have M := mz
  have Qa : AtD w1 (w.heap.size) b n s := AtD.mo ⟨by simp [go_sem], fun o => by simp [go_sem], by simp <;> omega⟩ hm1
  have Qb : AtD w1 (w.heap.size + 1) c m t := AtD.mo ⟨by simp [go_sem], fun o => by simp [go_sem], by simp <;> omega⟩ hm1
  clear hm1 mz
  have Oa := Qa
  obtain ⟨⟨ca0, ca1, ca2, ca3, ca4, ca5⟩, fa, sa⟩ := Oa
  have fa := fun o => fa o
  have sxa : w.heap.size < w1.heap.size + 1 := by omega
  have sya : w.heap.size < w1.heap.size + 1 + 1 := by omega
  have Ob := Qb
  obtain ⟨⟨cb0, cb1, cb2, cb3, cb4, cb5⟩, fb, sb⟩ := Ob
  have fb := fun o => fb o
  have sxb : w.heap.size + 1 < w1.heap.size + 1 := by omega
  have syb : w.heap.size + 1 < w1.heap.size + 1 + 1 := by omega
  go_wp2_with fail
  refine (rcheck_ok c m t _ hm0 hm h2).mono ?_
  rintro e w2 ⟨rfl, hm2⟩
  have mz : Mo w1 w2 := Mo.trans (by repeat (first | with_reducible exact Mo.refl _ | with_reducible apply Mo.drew | with_reducible apply Mo.alloc)) hm2
  clear ca0 ca1 ca2 ca3 ca4 ca5 fa sa sxa sya cb0 cb1 cb2 cb3 cb4 cb5 fb sb sxb syb
  have Qa := Qa.mo mz
  have Qb := Qb.mo mz
  have M := M.trans mz
  clear hm2 mz
  have Oa := Qa
  obtain ⟨⟨ca0, ca1, ca2, ca3, ca4, ca5⟩, fa, sa⟩ := Oa
  have fa := fun o => fa o
  have sxa : w.heap.size < w2.heap.size + 1 := by omega
  have sya : w.heap.size < w2.heap.size + 1 + 1 := by omega
  have Ob := Qb
  obtain ⟨⟨cb0, cb1, cb2, cb3, cb4, cb5⟩, fb, sb⟩ := Ob
  have fb := fun o => fb o
  have sxb : w.heap.size + 1 < w2.heap.size + 1 := by omega
  have syb : w.heap.size + 1 < w2.heap.size + 1 + 1 := by omega
  go_wp2
  go_ret
  exact ⟨rfl, M⟩
set_option maxHeartbeats 4000000 in
theorem rboth_no1 (b : Bool) (n s : Int) (c : Bool) (m t : Int) (w : World) (hn0 : 0 ≤ n) (hn : n < MM) (_hm0 : 0 ≤ m) (_hm : m < MM) (h1 : ck b n s ≠ 0)  :
    Calls Try.prog 52 #[dc b n s, dc c m t] w fun e w' => e = .returned (.int .i64 20) ∧ Mo w w' := by
  go_enter Try.func52, Try.ntmps52
  go_wp2_with fail
  refine (rcheck_no b n s _ hn0 hn h1).mono ?_
  rintro e w1 ⟨rfl, hm1⟩
  have mz : Mo w w1 := Mo.trans (by repeat (first | with_reducible exact Mo.refl _ | with_reducible apply Mo.drew | with_reducible apply Mo.alloc)) hm1
  have M := mz
  have Qa : AtD w1 (w.heap.size) b n s := AtD.mo ⟨by simp [go_sem], fun o => by simp [go_sem], by simp <;> omega⟩ hm1
  have Qb : AtD w1 (w.heap.size + 1) c m t := AtD.mo ⟨by simp [go_sem], fun o => by simp [go_sem], by simp <;> omega⟩ hm1
  clear hm1 mz
  have Oa := Qa
  obtain ⟨⟨ca0, ca1, ca2, ca3, ca4, ca5⟩, fa, sa⟩ := Oa
  have fa := fun o => fa o
  have sxa : w.heap.size < w1.heap.size + 1 := by omega
  have sya : w.heap.size < w1.heap.size + 1 + 1 := by omega
  have Ob := Qb
  obtain ⟨⟨cb0, cb1, cb2, cb3, cb4, cb5⟩, fb, sb⟩ := Ob
  have fb := fun o => fb o
  have sxb : w.heap.size + 1 < w1.heap.size + 1 := by omega
  have syb : w.heap.size + 1 < w1.heap.size + 1 + 1 := by omega
  go_wp2
  go_ret
  exact ⟨rfl, M⟩
set_option maxHeartbeats 4000000 in
theorem rboth_no2 (b : Bool) (n s : Int) (c : Bool) (m t : Int) (w : World) (hn0 : 0 ≤ n) (hn : n < MM) (hm0 : 0 ≤ m) (hm : m < MM) (h1 : ck b n s = 0) (h2 : ck c m t ≠ 0) :
    Calls Try.prog 52 #[dc b n s, dc c m t] w fun e w' => e = .returned (.int .i64 20) ∧ Mo w w' := by
  go_enter Try.func52, Try.ntmps52
  go_wp2_with fail
  refine (rcheck_ok b n s _ hn0 hn h1).mono ?_
  rintro e w1 ⟨rfl, hm1⟩
  have mz : Mo w w1 := Mo.trans (by repeat (first | with_reducible exact Mo.refl _ | with_reducible apply Mo.drew | with_reducible apply Mo.alloc)) hm1
  have M := mz
  have Qa : AtD w1 (w.heap.size) b n s := AtD.mo ⟨by simp [go_sem], fun o => by simp [go_sem], by simp <;> omega⟩ hm1
  have Qb : AtD w1 (w.heap.size + 1) c m t := AtD.mo ⟨by simp [go_sem], fun o => by simp [go_sem], by simp <;> omega⟩ hm1
  clear hm1 mz
  have Oa := Qa
  obtain ⟨⟨ca0, ca1, ca2, ca3, ca4, ca5⟩, fa, sa⟩ := Oa
  have fa := fun o => fa o
  have sxa : w.heap.size < w1.heap.size + 1 := by omega
  have sya : w.heap.size < w1.heap.size + 1 + 1 := by omega
  have Ob := Qb
  obtain ⟨⟨cb0, cb1, cb2, cb3, cb4, cb5⟩, fb, sb⟩ := Ob
  have fb := fun o => fb o
  have sxb : w.heap.size + 1 < w1.heap.size + 1 := by omega
  have syb : w.heap.size + 1 < w1.heap.size + 1 + 1 := by omega
  go_wp2_with fail
  refine (rcheck_no c m t _ hm0 hm h2).mono ?_
  rintro e w2 ⟨rfl, hm2⟩
  have mz : Mo w1 w2 := Mo.trans (by repeat (first | with_reducible exact Mo.refl _ | with_reducible apply Mo.drew | with_reducible apply Mo.alloc)) hm2
  clear ca0 ca1 ca2 ca3 ca4 ca5 fa sa sxa sya cb0 cb1 cb2 cb3 cb4 cb5 fb sb sxb syb
  have Qa := Qa.mo mz
  have Qb := Qb.mo mz
  have M := M.trans mz
  clear hm2 mz
  have Oa := Qa
  obtain ⟨⟨ca0, ca1, ca2, ca3, ca4, ca5⟩, fa, sa⟩ := Oa
  have fa := fun o => fa o
  have sxa : w.heap.size < w2.heap.size + 1 := by omega
  have sya : w.heap.size < w2.heap.size + 1 + 1 := by omega
  have Ob := Qb
  obtain ⟨⟨cb0, cb1, cb2, cb3, cb4, cb5⟩, fb, sb⟩ := Ob
  have fb := fun o => fb o
  have sxb : w.heap.size + 1 < w2.heap.size + 1 := by omega
  have syb : w.heap.size + 1 < w2.heap.size + 1 + 1 := by omega
  go_wp2
  go_ret
  exact ⟨rfl, M⟩
theorem rboth_no (b : Bool) (n s : Int) (c : Bool) (m t : Int) (w : World) (hn0 : 0 ≤ n) (hn : n < MM) (hm0 : 0 ≤ m) (hm : m < MM) (h : ¬ (ck b n s = 0 ∧ ck c m t = 0)) :
    Calls Try.prog 52 #[dc b n s, dc c m t] w fun e w' => e = .returned (.int .i64 20) ∧ Mo w w' := by
  by_cases h1 : ck b n s = 0
  · exact rboth_no2 b n s c m t w hn0 hn hm0 hm h1 (fun h2 => h ⟨h1, h2⟩)
  · exact rboth_no1 b n s c m t w hn0 hn hm0 hm h1
set_option maxHeartbeats 4000000 in
theorem shift_n (n : Int) (k : Nat) (w : World) (hn0 : 0 ≤ n) (hn : n < MM) (hk : k ≤ 77) :
    Calls Try.prog 53 #[nv n, .int .i64 (k : Int)] w fun e w' => e = .returned (dw (n * 10 ^ k)) ∧ Mo w w' := by
  have t := pow_lt k hk
  have hten : ∀ w, Calls Try.prog 61 #[.int .i64 (k : Int)] w fun e w' => e = .returned (.tuple #[nv (10 ^ k), .bool true]) ∧ Mo w w' := fun w => rten_yes k w hk
  generalize (10 : Int) ^ k = T at *
  go_enter Try.func53, Try.ntmps53
  go_wp2_with fail
  refine (hten _).mono ?_
  rintro e w1 ⟨rfl, hm1⟩
  have mz : Mo w w1 := Mo.trans (by repeat (first | with_reducible exact Mo.refl _ | with_reducible apply Mo.drew | with_reducible apply Mo.alloc)) hm1
  have M := mz
  have Qn : AtN w1 (w.heap.size) n := AtN.mo ⟨by simp [At4, go_sem], fun o => by simp [go_sem], by simp <;> omega⟩ hm1
  have Qr : AtW w1 (w.heap.size + 1) 0 := AtW.mo ⟨by simp [go_sem, zl0, zl1, zl2, zl3], fun o => by simp [go_sem], by simp <;> omega⟩ hm1
  clear hm1 mz
  have On := Qn
  obtain ⟨⟨cn0, cn1, cn2, cn3⟩, fn, sn⟩ := On
  have fn := fun o => fn o
  have sxn : w.heap.size < w1.heap.size + 1 := by omega
  have syn : w.heap.size < w1.heap.size + 1 + 1 := by omega
  have Or := Qr
  obtain ⟨⟨cr0, cr1, cr2, cr3, cr4, cr5, cr6, cr7⟩, fr, sr⟩ := Or
  have fr := fun o => fr o
  have sxr : w.heap.size + 1 < w1.heap.size + 1 := by omega
  have syr : w.heap.size + 1 < w1.heap.size + 1 + 1 := by omega
  go_wp2_with fail
  refine (rmul_n n T _ hn0 hn (by omega) t.2).mono ?_
  rintro e w2 ⟨rfl, hm2⟩
  have mz : Mo w1 w2 := Mo.trans (by repeat (first | with_reducible exact Mo.refl _ | with_reducible apply Mo.drew | with_reducible apply Mo.alloc)) hm2
  have zw1n := sn
  have zw1r := sr
  clear cn0 cn1 cn2 cn3 fn sn sxn syn cr0 cr1 cr2 cr3 cr4 cr5 cr6 cr7 fr sr sxr syr
  have Qn := Qn.mo mz
  have Qr := Qr.mo mz
  have M := M.trans mz
  clear hm2 mz
  have On := Qn
  obtain ⟨⟨cn0, cn1, cn2, cn3⟩, fn, sn⟩ := On
  have fn := fun o => fn o
  have sxn : w.heap.size < w2.heap.size + 1 := by omega
  have syn : w.heap.size < w2.heap.size + 1 + 1 := by omega
  have Or := Qr
  obtain ⟨⟨cr0, cr1, cr2, cr3, cr4, cr5, cr6, cr7⟩, fr, sr⟩ := Or
  have fr := fun o => fr o
  have sxr : w.heap.size + 1 < w2.heap.size + 1 := by omega
  have syr : w.heap.size + 1 < w2.heap.size + 1 + 1 := by omega
  have a : Mo w2 ((((w2).alloc (.cells #[.int .u64 (l0 (n * T / MM)), .int .u64 (l1 (n * T / MM)), .int .u64 (l2 (n * T / MM)), .int .u64 (l3 (n * T / MM))] 24))).alloc (.cells #[.int .u64 (l0 (n * T)), .int .u64 (l1 (n * T)), .int .u64 (l2 (n * T)), .int .u64 (l3 (n * T))] 24)) := by repeat (first | with_reducible exact Mo.refl _ | with_reducible apply Mo.alloc)
  have zW0n := sn
  have zW0r := sr
  clear cn0 cn1 cn2 cn3 fn sn sxn syn cr0 cr1 cr2 cr3 cr4 cr5 cr6 cr7 fr sr sxr syr
  have Qn := Qn.mo a
  have Qr := Qr.mo a
  have M := M.trans a
  have Qh : AtN ((((w2).alloc (.cells #[.int .u64 (l0 (n * T / MM)), .int .u64 (l1 (n * T / MM)), .int .u64 (l2 (n * T / MM)), .int .u64 (l3 (n * T / MM))] 24))).alloc (.cells #[.int .u64 (l0 (n * T)), .int .u64 (l1 (n * T)), .int .u64 (l2 (n * T)), .int .u64 (l3 (n * T))] 24)) (w2.heap.size) (n * T / MM) := ⟨by simp [At4, go_sem], fun o => by simp [go_sem], by simp <;> omega⟩
  have Ql : AtN ((((w2).alloc (.cells #[.int .u64 (l0 (n * T / MM)), .int .u64 (l1 (n * T / MM)), .int .u64 (l2 (n * T / MM)), .int .u64 (l3 (n * T / MM))] 24))).alloc (.cells #[.int .u64 (l0 (n * T)), .int .u64 (l1 (n * T)), .int .u64 (l2 (n * T)), .int .u64 (l3 (n * T))] 24)) (w2.heap.size + 1) (n * T) := ⟨by simp [At4, go_sem], fun o => by simp [go_sem], by simp <;> omega⟩
  clear a
  go_upto_region 3 with fail
  generalize ((((w2).alloc (.cells #[.int .u64 (l0 (n * T / MM)), .int .u64 (l1 (n * T / MM)), .int .u64 (l2 (n * T / MM)), .int .u64 (l3 (n * T / MM))] 24))).alloc (.cells #[.int .u64 (l0 (n * T)), .int .u64 (l1 (n * T)), .int .u64 (l2 (n * T)), .int .u64 (l3 (n * T))] 24)) = W0 at *
  have On := Qn
  obtain ⟨⟨cn0, cn1, cn2, cn3⟩, fn, sn⟩ := On
  have fn := fun o => fn o
  have sxn : w.heap.size < W0.heap.size + 1 := by omega
  have syn : w.heap.size < W0.heap.size + 1 + 1 := by omega
  have Or := Qr
  obtain ⟨⟨cr0, cr1, cr2, cr3, cr4, cr5, cr6, cr7⟩, fr, sr⟩ := Or
  have fr := fun o => fr o
  have sxr : w.heap.size + 1 < W0.heap.size + 1 := by omega
  have syr : w.heap.size + 1 < W0.heap.size + 1 + 1 := by omega
  have Oh := Qh
  obtain ⟨⟨ch0, ch1, ch2, ch3⟩, fh, sh⟩ := Oh
  have fh := fun o => fh o
  have sxh : w2.heap.size < W0.heap.size + 1 := by omega
  have syh : w2.heap.size < W0.heap.size + 1 + 1 := by omega
  have Ol := Ql
  obtain ⟨⟨cl0, cl1, cl2, cl3⟩, fl, sl⟩ := Ol
  have fl := fun o => fl o
  have sxl : w2.heap.size + 1 < W0.heap.size + 1 := by omega
  have syl : w2.heap.size + 1 < W0.heap.size + 1 + 1 := by omega
  go_wp2
  refine bodyPost_ret (v := dw (n * T)) (by simp [results, Try.results53, go_sem, *]) rfl ?_
  refine ⟨rfl, ?_⟩
  repeat (first | with_reducible exact M | with_reducible exact Mo.refl _ | with_reducible apply Mo.drew | with_reducible apply Mo.drewN | with_reducible apply Mo.alloc | with_reducible refine Mo.setCell ?_ (by simp <;> omega) _)
end Go.Proofs.Ythpekbohmfmffaa
/-
  Trim, the program's and the document's.
-/
namespace Go.Proofs.Ythpekbohmfmffaa
open Go.RowKit
abbrev dcl (b : Bool) (n s : Int) : List Value := [.bool b, .int .u64 (l0 n), .int .u64 (l1 n), .int .u64 (l2 n), .int .u64 (l3 n), .int .i64 s]
abbrev dcr (b : Bool) (n s : Int) : Array Value := #[.bool b, .int .u64 (l0 n), .int .u64 (l1 n), .int .u64 (l2 n), .int .u64 (l3 n), .int .i64 s]
abbrev nvli (n : Int) : List Value := [.int .u64 (l0 n), .int .u64 (l1 n), .int .u64 (l2 n), .int .u64 (l3 n)]
abbrev nvar (n : Int) : Array Value := #[.int .u64 (l0 n), .int .u64 (l1 n), .int .u64 (l2 n), .int .u64 (l3 n)]
abbrev z40l : List Value := [.bool false, .int .u64 0, .int .u64 0, .int .u64 0, .int .u64 0, .int .i64 0]
/-- A number with as few digits behind the point as it needs. -/
def trN : Nat → Int → Int × Nat
  | 0, n => (n, 0)
  | k + 1, n => if n % 10 = 0 then trN k (n / 10) else (n, k + 1)
theorem gtr0_run {a b : Int} (h : decide (a > b) = false) (x y : Operand) (w : World) : (do eqGuard .gtr 3 x y (.int .i64 a) (.int .i64 b); binOp .gtr 3 (.int .i64 a) (.int .i64 b)).run Try.prog w = .ok (.bool false) w := by
  rw [← h]; kernel_rfl
theorem gtr1_run {a b : Int} (h : decide (a > b) = true) (x y : Operand) (w : World) : (do eqGuard .gtr 3 x y (.int .i64 a) (.int .i64 b); binOp .gtr 3 (.int .i64 a) (.int .i64 b)).run Try.prog w = .ok (.bool true) w := by
  rw [← h]; kernel_rfl
theorem sub1_run {k : Nat} (hk : k ≤ 18) (x y : Operand) (w : World) : (do eqGuard .sub 3 x y (.int .i64 ((k + 1 : Nat) : Int)) (.int .i64 1); binOp .sub 3 (.int .i64 ((k + 1 : Nat) : Int)) (.int .i64 1)).run Try.prog w = .ok (.int .i64 (k : Int)) w := by
  have e : (do eqGuard .sub 3 x y (.int .i64 ((k + 1 : Nat) : Int)) (.int .i64 1); binOp .sub 3 (.int .i64 ((k + 1 : Nat) : Int)) (.int .i64 1)).run Try.prog w = .ok (.int .i64 (IntKind.i64.wrap (((k + 1 : Nat) : Int) - 1))) w := by kernel_rfl
  have h : IntKind.i64.wrap (((k + 1 : Nat) : Int) - 1) = (k : Int) := by rw [IntKind.wrap_i64]; omega
  rw [e, h]
theorem ten1_n (w : World) : Calls Try.prog 60 #[.int .i64 1] w fun e w' => e = .returned (nv 10) ∧ Mo w w' := dten_n 1 w (by decide)
theorem from69_n (w : World) : Calls Try.prog 46 #[.int .u64 10] w fun e w' => e = .returned (nv 10) ∧ Mo w w' := from34_any 10 w ⟨by decide, by decide⟩
/-- Two new blocks in slots that hold older ones, or nothing. -/
theorem Ds.two {sp : List Sp} {f : Nat → Value} {w : World} (i j : Nat) (h : ∀ q, spNew (spAt sp q) = true → q = i ∨ q = j) (h1 : ∀ k, f i = pt k 0 → k < w.heap.size) (h2 : ∀ k, f j = pt k 0 → k < w.heap.size) (h3 : ∀ k, f i = pt k 0 → f j ≠ pt k 0) : Ds sp f w := by
  refine ⟨fun q hq k hk => ?_, fun q r hq hr hne k hk hk2 => ?_⟩
  · rcases h q hq with rfl | rfl
    · exact h1 k hk
    · exact h2 k hk
  · rcases h q hq with rfl | rfl <;> rcases h r hr with rfl | rfl
    · exact hne rfl
    · exact h3 k hk hk2
    · exact h3 k hk2 hk
    · exact hne rfl
end Go.Proofs.Ythpekbohmfmffaa
/-
  The document's cmp of wide numbers, Sign, zero, may: the walks.
-/
namespace Go.Proofs.Ythpekbohmfmffaa
open Go.RowKit
theorem rcmp_m (A B : Int) (w : World) : Calls Try.prog 63 #[nv A, nv B] w fun e w' => e = .returned (.int .i64 (cm (A % MM) (B % MM))) ∧ Mo w w' := by
  have h := cmp16_any (l0 A) (l1 A) (l2 A) (l3 A) (l0 B) (l1 B) (l2 B) (l3 B) w (u4_lb A) (u4_lb B)
  rw [vl_nv, vl_nv] at h
  exact h
set_option maxHeartbeats 4000000 in
theorem rcmpw_n (X Y : Int) (w : World) (hX0 : 0 ≤ X) (hX : X < MM * MM) (hY0 : 0 ≤ Y) (hY : Y < MM * MM) :
    Calls Try.prog 54 #[dw X, dw Y] w fun e w' => e = .returned (.int .i64 (cm X Y)) ∧ Mo w w' := by
  have p : (0 : Int) < MM := by decide
  have a1 : X / MM % MM = X / MM := Int.emod_eq_of_lt (Int.ediv_nonneg hX0 (by omega)) (Int.ediv_lt_of_lt_mul p hX)
  have b1 : Y / MM % MM = Y / MM := Int.emod_eq_of_lt (Int.ediv_nonneg hY0 (by omega)) (Int.ediv_lt_of_lt_mul p hY)
  have A1 : Hid _ := a1
  have B1 : Hid _ := b1
  have e : Hid _ := cm_wide (X := X) (Y := Y)
  clear a1 b1 p
  go_enter Try.func54, Try.ntmps54
  go_wp2_with fail
  refine (rcmp_m (X / MM) (Y / MM) _).mono ?_
  rintro e w1 ⟨rfl, hm1⟩
  rw [A1.out, B1.out]
  have mz : Mo w w1 := Mo.trans (by repeat (first | with_reducible exact Mo.refl _ | with_reducible apply Mo.drew | with_reducible apply Mo.alloc)) hm1
  have M := mz
  have Qx : AtW w1 (w.heap.size) X := AtW.mo ⟨by simp [go_sem], fun o => by simp [go_sem], by simp <;> omega⟩ hm1
  have Qy : AtW w1 (w.heap.size + 1) Y := AtW.mo ⟨by simp [go_sem], fun o => by simp [go_sem], by simp <;> omega⟩ hm1
  clear hm1 mz
  have Ox := Qx
  obtain ⟨⟨cx0, cx1, cx2, cx3, cx4, cx5, cx6, cx7⟩, fx, sx⟩ := Ox
  have fx := fun o => fx o
  have sxx : w.heap.size < w1.heap.size + 1 := by omega
  have syx : w.heap.size < w1.heap.size + 1 + 1 := by omega
  have Oy := Qy
  obtain ⟨⟨cy0, cy1, cy2, cy3, cy4, cy5, cy6, cy7⟩, fy, sy⟩ := Oy
  have fy := fun o => fy o
  have sxy : w.heap.size + 1 < w1.heap.size + 1 := by omega
  have syy : w.heap.size + 1 < w1.heap.size + 1 + 1 := by omega
  by_cases hz : cm (X / MM) (Y / MM) = 0
  · have hb : (cm (X / MM) (Y / MM) == 0) = true := by rw [hz]; rfl
    have hb2 : (cm (X / MM) (Y / MM) != 0) = false := by simp [hz]
    have e2 := e.out
    rw [if_pos hz] at e2
    have E2 : Hid _ := e2
    clear e2 hz
    go_wp2_with fail
    refine (rcmp_m X Y _).mono ?_
    rintro e w2 ⟨rfl, hm2⟩
    have mz : Mo w1 w2 := Mo.trans (by repeat (first | with_reducible exact Mo.refl _ | with_reducible apply Mo.drew | with_reducible apply Mo.alloc)) hm2
    have zw1x := sx
    have zw1y := sy
    clear cx0 cx1 cx2 cx3 cx4 cx5 cx6 cx7 fx sx sxx syx cy0 cy1 cy2 cy3 cy4 cy5 cy6 cy7 fy sy sxy syy
    have Qx := Qx.mo mz
    have Qy := Qy.mo mz
    have M := M.trans mz
    clear hm2 mz
    have Ox := Qx
    obtain ⟨⟨cx0, cx1, cx2, cx3, cx4, cx5, cx6, cx7⟩, fx, sx⟩ := Ox
    have fx := fun o => fx o
    have sxx : w.heap.size < w2.heap.size + 1 := by omega
    have syx : w.heap.size < w2.heap.size + 1 + 1 := by omega
    have Oy := Qy
    obtain ⟨⟨cy0, cy1, cy2, cy3, cy4, cy5, cy6, cy7⟩, fy, sy⟩ := Oy
    have fy := fun o => fy o
    have sxy : w.heap.size + 1 < w2.heap.size + 1 := by omega
    have syy : w.heap.size + 1 < w2.heap.size + 1 + 1 := by omega
    go_wp2
    go_ret
    exact ⟨by rw [E2.out]; rfl, M⟩
  · have hb : (cm (X / MM) (Y / MM) == 0) = false := by simp [hz]
    have hb2 : (cm (X / MM) (Y / MM) != 0) = true := by simp [hz]
    have e2 := e.out
    rw [if_neg hz] at e2
    have E2 : Hid _ := e2
    clear e2 hz
    go_wp2
    go_ret
    exact ⟨by rw [E2.out]; rfl, M⟩
end Go.Proofs.Ythpekbohmfmffaa
/-
  The document's plus and minus of two wide numbers: the walks.
-/
namespace Go.Proofs.Ythpekbohmfmffaa
open Go.RowKit
end Go.Proofs.Ythpekbohmfmffaa
