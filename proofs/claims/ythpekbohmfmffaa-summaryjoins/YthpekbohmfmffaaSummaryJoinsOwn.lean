/-
  For every slice of summaries exciselaw05.SummaryJoins returns true, and its argument reads behind the call as it read before; no conditions.
-/
import Derived.WideKeyArgs
import Derived.Deep.Strs
import Derived.SizedLaws
import Derived.Deep.Slices
import Derived.Carry
import Derived.ChangeMaps5
import Derived.Test.YthpekbohmfmffaaU6
/-
  Value, the program's and the document's, in each case.
-/
namespace Go.Proofs.Ythpekbohmfmffaa
open Go.RowKit
theorem cvU {n m : Int} (h : IntKind.u64.wrap n = m) (w : World) : (convert 3 22 (.int .i64 n)).run Try.prog w = .ok (.int .u64 m) w := by
  subst h; kernel_rfl
theorem negU {x m : Int} (h : IntKind.u64.wrap (0 - x) = m) (w : World) : (Op.unary .neg (.int .u64 x)).run Try.prog w = .ok (.int .u64 m) w := by
  subst h; kernel_rfl
section
variable {w : World}
theorem bad_n (x : Int) : Calls Try.prog 36 #[.int .i64 x] w fun e w' => e = .returned (vl10 4 false 0 0 false ⟨#[]⟩ x) ∧ Mo w w' := by
  refine w_enter 5 Try.func36 Try.ntmps36 rfl rfl ?_
  have M : Mo w w := Mo.refl _
  refine w_seq ?_
  refine w_reg ?_
  refine wl_alloc 28 #[.int .i64 0, .bool false, .int .u64 0, .int .u64 0, .int .u64 0, .int .u64 0, .int .i64 0, .bool false, .string ⟨#[]⟩, .int .i64 0] rfl (fun _ => by kernel_rfl) rfl ?_
  intro k1 w1 hk hz hq Q1
  have N_k1 : w.heap.size ≤ k1 := by have := M.size; omega
  replace M := M.trans hq
  clear hk hz hq
  refine w_nil ?_
  refine xn_then ?_
  refine w_seq ?_
  refine w_reg ?_
  refine wl_mv (.tmp 0) (.int .i64 (x)) (fun _ => rfl) rfl rfl ?_
  refine wl_build 28 [(0, (.const (.int .i64 (4)))), (4, (.tmp 3))] [(0, .int .i64 (4)), (4, .int .i64 (x))] (.agg #[.int .i64 (4), .bool false, .int .u64 0, .int .u64 0, .int .u64 0, .int .u64 0, .int .i64 0, .bool false, .string ⟨#[]⟩, .int .i64 (x)]) rfl rfl (by kernel_rfl) rfl ?_
  refine wl_st 28 (.tmp 2) (.tmp 4) k1 0 #[.int .i64 (4), .bool false, .int .u64 0, .int .u64 0, .int .u64 0, .int .u64 0, .int .i64 0, .bool false, .string ⟨#[]⟩, .int .i64 (x)] [.int .i64 0, .bool false, .int .u64 0, .int .u64 0, .int .u64 0, .int .u64 0, .int .i64 0, .bool false, .string ⟨#[]⟩, .int .i64 0] [.int .i64 (4), .bool false, .int .u64 0, .int .u64 0, .int .u64 0, .int .u64 0, .int .i64 0, .bool false, .string ⟨#[]⟩, .int .i64 (x)] Q1 rfl rfl rfl rfl rfl sz28 rfl rfl rfl ?_
  intro w2 hS Qn
  replace Q1 := Qn
  clear Qn
  replace M := hS.mo _ N_k1 M
  clear hS
  refine w_nil ?_
  refine xn_then ?_
  refine w_ret ?_
  exact w_ret1 _ (.agg #[.int .i64 (4), .bool false, .int .u64 0, .int .u64 0, .int .u64 0, .int .u64 0, .int .i64 0, .bool false, .string ⟨#[]⟩, .int .i64 (x)]) rfl ⟨k1, rfl, (run_row Q1 28 0 10 [.int .i64 (4), .bool false, .int .u64 0, .int .u64 0, .int .u64 0, .int .u64 0, .int .i64 0, .bool false, .string ⟨#[]⟩, .int .i64 (x)] rfl Try.underlying28 rfl sz28)⟩ ⟨rfl, M⟩
theorem whole_p (n : Int) (h0 : -9223372036854775808 ≤ n) (h1 : n < 9223372036854775808) (q0 : decide (n < 0) = false) : Calls Try.prog 35 #[.int .i64 n] w fun e w' => e = .returned (vl10 1 false (n) 0 false ⟨#[]⟩ 0) ∧ Mo w w' := by
  have q1 := of_decide_eq_false q0
  have hcv : IntKind.u64.wrap n = n := by rw [IntKind.wrap_u64]; omega
  refine w_enter 18 Try.func35 Try.ntmps35 rfl rfl ?_
  have M : Mo w w := Mo.refl _
  refine w_seq ?_
  refine w_reg ?_
  refine wl_alloc 28 #[.int .i64 0, .bool false, .int .u64 0, .int .u64 0, .int .u64 0, .int .u64 0, .int .i64 0, .bool false, .string ⟨#[]⟩, .int .i64 0] rfl (fun _ => by kernel_rfl) rfl ?_
  intro k1 w1 hk hz hq Q1
  have N_k1 : w.heap.size ≤ k1 := by have := M.size; omega
  replace M := M.trans hq
  clear hk hz hq
  refine w_nil ?_
  refine xn_then ?_
  refine w_seq ?_
  refine w_reg ?_
  refine wl_mv (.tmp 0) (.int .i64 (n)) (fun _ => rfl) rfl rfl ?_
  refine wl_un (fun v => convert 3 22 v) (.tmp 4) (.int .i64 (n)) (.int .u64 (n)) (fun _ => rfl) rfl (cvU hcv _) rfl ?_
  refine wl_call 46 [(.tmp 5)] _ [.int .u64 (n)] (.agg #[.int .u64 (l0 (n)), .int .u64 (l1 (n)), .int .u64 (l2 (n)), .int .u64 (l3 (n))]) rfl rfl (fun _ _ => by kernel_rfl) (from34_any (n) _ ⟨by omega, by omega⟩) rfl ?_
  intro w2 hq
  replace Q1 := Q1.mo hq
  replace M := M.trans hq
  clear hq
  refine wl_build 26 [(1, (.tmp 6))] [(1, .agg #[.int .u64 (l0 (n)), .int .u64 (l1 (n)), .int .u64 (l2 (n)), .int .u64 (l3 (n))])] (.agg #[.bool false, .int .u64 (l0 (n)), .int .u64 (l1 (n)), .int .u64 (l2 (n)), .int .u64 (l3 (n)), .int .i64 0]) rfl rfl (by kernel_rfl) rfl ?_
  refine wl_alloc 26 #[.bool false, .int .u64 0, .int .u64 0, .int .u64 0, .int .u64 0, .int .i64 0] rfl (fun _ => by kernel_rfl) rfl ?_
  intro k2 w3 hk hz hq Q2
  have ne_k1_k2 : k1 ≠ k2 := by have := Q1.lt; omega
  have N_k2 : w.heap.size ≤ k2 := by have := M.size; omega
  replace Q1 := Q1.mo hq
  replace M := M.trans hq
  clear hk hz hq
  refine wl_st 26 (.tmp 3) (.tmp 7) k2 0 #[.bool false, .int .u64 (l0 (n)), .int .u64 (l1 (n)), .int .u64 (l2 (n)), .int .u64 (l3 (n)), .int .i64 0] [.bool false, .int .u64 0, .int .u64 0, .int .u64 0, .int .u64 0, .int .i64 0] [.bool false, .int .u64 (l0 (n)), .int .u64 (l1 (n)), .int .u64 (l2 (n)), .int .u64 (l3 (n)), .int .i64 0] Q2 rfl rfl rfl rfl rfl sz26 rfl rfl rfl ?_
  intro w4 hS Qn
  replace Q2 := Qn
  clear Qn
  replace Q1 := hS.other _ _ ne_k1_k2 Q1
  replace M := hS.mo _ N_k2 M
  clear hS
  refine w_nil ?_
  refine xn_then ?_
  refine w_seq ?_
  refine w_seq ?_
  refine w_reg ?_
  refine wl_mv (.tmp 0) (.int .i64 (n)) (fun _ => rfl) rfl rfl ?_
  refine wl_bin (fun x y => do eqGuard .lss 3 (.tmp 8) (.const (.int .i64 (0))) x y; binOp .lss 3 x y) (.tmp 8) (.const (.int .i64 (0))) (.int .i64 (n)) (.int .i64 (0)) (.bool false) (fun _ => rfl) rfl rfl (ltI q0 _ _ _) rfl ?_
  refine w_nil ?_
  refine xn_then ?_
  refine w_condF rfl ?_
  refine w_skip ?_
  refine xn_then ?_
  refine w_seq ?_
  refine w_reg ?_
  refine wl_load 26 (.tmp 3) (pt k2 0) (.agg #[.bool false, .int .u64 (l0 (n)), .int .u64 (l1 (n)), .int .u64 (l2 (n)), .int .u64 (l3 (n)), .int .i64 0]) rfl rfl (run_row Q2 26 0 6 [.bool false, .int .u64 (l0 (n)), .int .u64 (l1 (n)), .int .u64 (l2 (n)), .int .u64 (l3 (n)), .int .i64 0] rfl Try.underlying26 rfl sz26) rfl ?_
  refine wl_build 28 [(0, (.const (.int .i64 (1)))), (1, (.tmp 16))] [(0, .int .i64 (1)), (1, .agg #[.bool false, .int .u64 (l0 (n)), .int .u64 (l1 (n)), .int .u64 (l2 (n)), .int .u64 (l3 (n)), .int .i64 0])] (.agg #[.int .i64 (1), .bool false, .int .u64 (l0 (n)), .int .u64 (l1 (n)), .int .u64 (l2 (n)), .int .u64 (l3 (n)), .int .i64 0, .bool false, .string ⟨#[]⟩, .int .i64 0]) rfl rfl (by kernel_rfl) rfl ?_
  refine wl_st 28 (.tmp 2) (.tmp 17) k1 0 #[.int .i64 (1), .bool false, .int .u64 (l0 (n)), .int .u64 (l1 (n)), .int .u64 (l2 (n)), .int .u64 (l3 (n)), .int .i64 0, .bool false, .string ⟨#[]⟩, .int .i64 0] [.int .i64 0, .bool false, .int .u64 0, .int .u64 0, .int .u64 0, .int .u64 0, .int .i64 0, .bool false, .string ⟨#[]⟩, .int .i64 0] [.int .i64 (1), .bool false, .int .u64 (l0 (n)), .int .u64 (l1 (n)), .int .u64 (l2 (n)), .int .u64 (l3 (n)), .int .i64 0, .bool false, .string ⟨#[]⟩, .int .i64 0] Q1 rfl rfl rfl rfl rfl sz28 rfl rfl rfl ?_
  intro w5 hS Qn
  replace Q1 := Qn
  clear Qn
  replace Q2 := hS.other _ _ ne_k1_k2.symm Q2
  replace M := hS.mo _ N_k1 M
  clear hS
  refine w_nil ?_
  refine xn_then ?_
  refine w_ret ?_
  exact w_ret1 _ (.agg #[.int .i64 (1), .bool false, .int .u64 (l0 (n)), .int .u64 (l1 (n)), .int .u64 (l2 (n)), .int .u64 (l3 (n)), .int .i64 0, .bool false, .string ⟨#[]⟩, .int .i64 0]) rfl ⟨k1, rfl, (run_row Q1 28 0 10 [.int .i64 (1), .bool false, .int .u64 (l0 (n)), .int .u64 (l1 (n)), .int .u64 (l2 (n)), .int .u64 (l3 (n)), .int .i64 0, .bool false, .string ⟨#[]⟩, .int .i64 0] rfl Try.underlying28 rfl sz28)⟩ ⟨rfl, M⟩
theorem whole_n (n : Int) (h0 : -9223372036854775808 ≤ n) (h1 : n < 9223372036854775808) (q0 : decide (n < 0) = true) : Calls Try.prog 35 #[.int .i64 n] w fun e w' => e = .returned (vl10 1 true (-n) 0 false ⟨#[]⟩ 0) ∧ Mo w w' := by
  have q1 := of_decide_eq_true q0
  have hcv : IntKind.u64.wrap n = n + 18446744073709551616 := by rw [IntKind.wrap_u64]; omega
  have hng : IntKind.u64.wrap (0 - (n + 18446744073709551616)) = -n := by rw [IntKind.wrap_u64]; omega
  refine w_enter 18 Try.func35 Try.ntmps35 rfl rfl ?_
  have M : Mo w w := Mo.refl _
  refine w_seq ?_
  refine w_reg ?_
  refine wl_alloc 28 #[.int .i64 0, .bool false, .int .u64 0, .int .u64 0, .int .u64 0, .int .u64 0, .int .i64 0, .bool false, .string ⟨#[]⟩, .int .i64 0] rfl (fun _ => by kernel_rfl) rfl ?_
  intro k1 w1 hk hz hq Q1
  have N_k1 : w.heap.size ≤ k1 := by have := M.size; omega
  replace M := M.trans hq
  clear hk hz hq
  refine w_nil ?_
  refine xn_then ?_
  refine w_seq ?_
  refine w_reg ?_
  refine wl_mv (.tmp 0) (.int .i64 (n)) (fun _ => rfl) rfl rfl ?_
  refine wl_un (fun v => convert 3 22 v) (.tmp 4) (.int .i64 (n)) (.int .u64 (n + 18446744073709551616)) (fun _ => rfl) rfl (cvU hcv _) rfl ?_
  refine wl_call 46 [(.tmp 5)] _ [.int .u64 (n + 18446744073709551616)] (.agg #[.int .u64 (l0 (n + 18446744073709551616)), .int .u64 (l1 (n + 18446744073709551616)), .int .u64 (l2 (n + 18446744073709551616)), .int .u64 (l3 (n + 18446744073709551616))]) rfl rfl (fun _ _ => by kernel_rfl) (from34_any (n + 18446744073709551616) _ ⟨by omega, by omega⟩) rfl ?_
  intro w2 hq
  replace Q1 := Q1.mo hq
  replace M := M.trans hq
  clear hq
  refine wl_build 26 [(1, (.tmp 6))] [(1, .agg #[.int .u64 (l0 (n + 18446744073709551616)), .int .u64 (l1 (n + 18446744073709551616)), .int .u64 (l2 (n + 18446744073709551616)), .int .u64 (l3 (n + 18446744073709551616))])] (.agg #[.bool false, .int .u64 (l0 (n + 18446744073709551616)), .int .u64 (l1 (n + 18446744073709551616)), .int .u64 (l2 (n + 18446744073709551616)), .int .u64 (l3 (n + 18446744073709551616)), .int .i64 0]) rfl rfl (by kernel_rfl) rfl ?_
  refine wl_alloc 26 #[.bool false, .int .u64 0, .int .u64 0, .int .u64 0, .int .u64 0, .int .i64 0] rfl (fun _ => by kernel_rfl) rfl ?_
  intro k2 w3 hk hz hq Q2
  have ne_k1_k2 : k1 ≠ k2 := by have := Q1.lt; omega
  have N_k2 : w.heap.size ≤ k2 := by have := M.size; omega
  replace Q1 := Q1.mo hq
  replace M := M.trans hq
  clear hk hz hq
  refine wl_st 26 (.tmp 3) (.tmp 7) k2 0 #[.bool false, .int .u64 (l0 (n + 18446744073709551616)), .int .u64 (l1 (n + 18446744073709551616)), .int .u64 (l2 (n + 18446744073709551616)), .int .u64 (l3 (n + 18446744073709551616)), .int .i64 0] [.bool false, .int .u64 0, .int .u64 0, .int .u64 0, .int .u64 0, .int .i64 0] [.bool false, .int .u64 (l0 (n + 18446744073709551616)), .int .u64 (l1 (n + 18446744073709551616)), .int .u64 (l2 (n + 18446744073709551616)), .int .u64 (l3 (n + 18446744073709551616)), .int .i64 0] Q2 rfl rfl rfl rfl rfl sz26 rfl rfl rfl ?_
  intro w4 hS Qn
  replace Q2 := Qn
  clear Qn
  replace Q1 := hS.other _ _ ne_k1_k2 Q1
  replace M := hS.mo _ N_k2 M
  clear hS
  refine w_nil ?_
  refine xn_then ?_
  refine w_seq ?_
  refine w_seq ?_
  refine w_reg ?_
  refine wl_mv (.tmp 0) (.int .i64 (n)) (fun _ => rfl) rfl rfl ?_
  refine wl_bin (fun x y => do eqGuard .lss 3 (.tmp 8) (.const (.int .i64 (0))) x y; binOp .lss 3 x y) (.tmp 8) (.const (.int .i64 (0))) (.int .i64 (n)) (.int .i64 (0)) (.bool true) (fun _ => rfl) rfl rfl (ltI q0 _ _ _) rfl ?_
  refine w_nil ?_
  refine xn_then ?_
  refine w_condT rfl ?_
  refine w_reg ?_
  refine wl_mv (.tmp 0) (.int .i64 (n)) (fun _ => rfl) rfl rfl ?_
  refine wl_un (fun v => convert 3 22 v) (.tmp 10) (.int .i64 (n)) (.int .u64 (n + 18446744073709551616)) (fun _ => rfl) rfl (cvU hcv _) rfl ?_
  refine wl_un (fun v => Op.unary .neg v) (.tmp 11) (.int .u64 (n + 18446744073709551616)) (.int .u64 (-n)) (fun _ => rfl) rfl (negU hng _) rfl ?_
  refine wl_call 46 [(.tmp 12)] _ [.int .u64 (-n)] (.agg #[.int .u64 (l0 (-n)), .int .u64 (l1 (-n)), .int .u64 (l2 (-n)), .int .u64 (l3 (-n))]) rfl rfl (fun _ _ => by kernel_rfl) (from34_any (-n) _ ⟨by omega, by omega⟩) rfl ?_
  intro w5 hq
  replace Q1 := Q1.mo hq
  replace Q2 := Q2.mo hq
  replace M := M.trans hq
  clear hq
  refine wl_un (fun v => Instr.fieldAt 26 v 0) (.tmp 3) (pt k2 0) (pt k2 0) (fun _ => rfl) rfl (by kernel_rfl) rfl ?_
  refine wl_st1 4 (.tmp 14) (.const (.bool true)) k2 0 (.bool true) [.bool false, .int .u64 (l0 (n + 18446744073709551616)), .int .u64 (l1 (n + 18446744073709551616)), .int .u64 (l2 (n + 18446744073709551616)), .int .u64 (l3 (n + 18446744073709551616)), .int .i64 0] [.bool true, .int .u64 (l0 (n + 18446744073709551616)), .int .u64 (l1 (n + 18446744073709551616)), .int .u64 (l2 (n + 18446744073709551616)), .int .u64 (l3 (n + 18446744073709551616)), .int .i64 0] Q2 rfl rfl rfl rfl rfl sz4 rfl rfl rfl rfl ?_
  intro w6 hS Qn
  replace Q2 := Qn
  clear Qn
  replace Q1 := hS.other _ _ ne_k1_k2 Q1
  replace M := hS.mo _ N_k2 M
  clear hS
  refine wl_un (fun v => Instr.fieldAt 26 v 1) (.tmp 3) (pt k2 0) (pt k2 1) (fun _ => rfl) rfl (by kernel_rfl) rfl ?_
  refine wl_st 24 (.tmp 15) (.tmp 13) k2 1 #[.int .u64 (l0 (-n)), .int .u64 (l1 (-n)), .int .u64 (l2 (-n)), .int .u64 (l3 (-n))] [.bool true, .int .u64 (l0 (n + 18446744073709551616)), .int .u64 (l1 (n + 18446744073709551616)), .int .u64 (l2 (n + 18446744073709551616)), .int .u64 (l3 (n + 18446744073709551616)), .int .i64 0] [.bool true, .int .u64 (l0 (-n)), .int .u64 (l1 (-n)), .int .u64 (l2 (-n)), .int .u64 (l3 (-n)), .int .i64 0] Q2 rfl rfl rfl rfl rfl sz24 rfl rfl rfl ?_
  intro w7 hS Qn
  replace Q2 := Qn
  clear Qn
  replace Q1 := hS.other _ _ ne_k1_k2 Q1
  replace M := hS.mo _ N_k2 M
  clear hS
  refine w_nil ?_
  refine xn_then ?_
  refine w_seq ?_
  refine w_reg ?_
  refine wl_load 26 (.tmp 3) (pt k2 0) (.agg #[.bool true, .int .u64 (l0 (-n)), .int .u64 (l1 (-n)), .int .u64 (l2 (-n)), .int .u64 (l3 (-n)), .int .i64 0]) rfl rfl (run_row Q2 26 0 6 [.bool true, .int .u64 (l0 (-n)), .int .u64 (l1 (-n)), .int .u64 (l2 (-n)), .int .u64 (l3 (-n)), .int .i64 0] rfl Try.underlying26 rfl sz26) rfl ?_
  refine wl_build 28 [(0, (.const (.int .i64 (1)))), (1, (.tmp 16))] [(0, .int .i64 (1)), (1, .agg #[.bool true, .int .u64 (l0 (-n)), .int .u64 (l1 (-n)), .int .u64 (l2 (-n)), .int .u64 (l3 (-n)), .int .i64 0])] (.agg #[.int .i64 (1), .bool true, .int .u64 (l0 (-n)), .int .u64 (l1 (-n)), .int .u64 (l2 (-n)), .int .u64 (l3 (-n)), .int .i64 0, .bool false, .string ⟨#[]⟩, .int .i64 0]) rfl rfl (by kernel_rfl) rfl ?_
  refine wl_st 28 (.tmp 2) (.tmp 17) k1 0 #[.int .i64 (1), .bool true, .int .u64 (l0 (-n)), .int .u64 (l1 (-n)), .int .u64 (l2 (-n)), .int .u64 (l3 (-n)), .int .i64 0, .bool false, .string ⟨#[]⟩, .int .i64 0] [.int .i64 0, .bool false, .int .u64 0, .int .u64 0, .int .u64 0, .int .u64 0, .int .i64 0, .bool false, .string ⟨#[]⟩, .int .i64 0] [.int .i64 (1), .bool true, .int .u64 (l0 (-n)), .int .u64 (l1 (-n)), .int .u64 (l2 (-n)), .int .u64 (l3 (-n)), .int .i64 0, .bool false, .string ⟨#[]⟩, .int .i64 0] Q1 rfl rfl rfl rfl rfl sz28 rfl rfl rfl ?_
  intro w8 hS Qn
  replace Q1 := Qn
  clear Qn
  replace Q2 := hS.other _ _ ne_k1_k2.symm Q2
  replace M := hS.mo _ N_k1 M
  clear hS
  refine w_nil ?_
  refine xn_then ?_
  refine w_ret ?_
  exact w_ret1 _ (.agg #[.int .i64 (1), .bool true, .int .u64 (l0 (-n)), .int .u64 (l1 (-n)), .int .u64 (l2 (-n)), .int .u64 (l3 (-n)), .int .i64 0, .bool false, .string ⟨#[]⟩, .int .i64 0]) rfl ⟨k1, rfl, (run_row Q1 28 0 10 [.int .i64 (1), .bool true, .int .u64 (l0 (-n)), .int .u64 (l1 (-n)), .int .u64 (l2 (-n)), .int .u64 (l3 (-n)), .int .i64 0, .bool false, .string ⟨#[]⟩, .int .i64 0] rfl Try.underlying28 rfl sz28)⟩ ⟨rfl, M⟩
theorem whole_n9 (n : Int) (h0 : -9223372036854775808 ≤ n) (h1 : n < 9223372036854775808) : Calls Try.prog 35 #[.int .i64 n] w fun e w' => e = .returned (vl10 1 (decide (n < 0)) (ab n) 0 false ⟨#[]⟩ 0) ∧ Mo w w' := by
  by_cases c : n < 0
  · have e : ab n = -n := by unfold ab; first | omega | (rw [if_pos c])
    rw [e, decide_eq_true c]; exact whole_n n h0 h1 (decide_eq_true c)
  · have e : ab n = n := by unfold ab; first | omega | (rw [if_neg c])
    rw [e, decide_eq_false c]; exact whole_p n h0 h1 (decide_eq_false c)
theorem val_16 (S : Sm) (sc9 : Int) (hb : -9223372036854775808 ≤ S.r ∧ S.r < 9223372036854775808) : Calls Try.prog 16 #[.int .i64 16, smv S, .int .i64 sc9] w fun e w' => e = .returned (vl10 1 (decide (S.r < 0)) (ab S.r) 0 false ⟨#[]⟩ 0) ∧ Mo w w' := by
  refine w_enter 27 Try.func16 Try.ntmps16 rfl rfl ?_
  have M : Mo w w := Mo.refl _
  refine w_seq ?_
  refine w_reg ?_
  refine wl_box 33 (.tmp 1) (.agg #[.int .i64 (S.r), .int .i64 (S.f), .int .i64 (S.k), .int .i64 (S.d), .int .i64 (S.e), .int .u64 (l0 (S.tt)), .int .u64 (l1 (S.tt)), .int .u64 (l2 (S.tt)), .int .u64 (l3 (S.tt)), .int .u64 (l4 (S.tt)), .bool S.so, .bool S.mn.b, .int .u64 (l0 (S.mn.n)), .int .u64 (l1 (S.mn.n)), .int .u64 (l2 (S.mn.n)), .int .u64 (l3 (S.mn.n)), .int .i64 (S.mn.s), .bool S.mx.b, .int .u64 (l0 (S.mx.n)), .int .u64 (l1 (S.mx.n)), .int .u64 (l2 (S.mx.n)), .int .u64 (l3 (S.mx.n)), .int .i64 (S.mx.s)]) (#[.int .i64 (S.r), .int .i64 (S.f), .int .i64 (S.k), .int .i64 (S.d), .int .i64 (S.e), .int .u64 (l0 (S.tt)), .int .u64 (l1 (S.tt)), .int .u64 (l2 (S.tt)), .int .u64 (l3 (S.tt)), .int .u64 (l4 (S.tt)), .bool S.so, .bool S.mn.b, .int .u64 (l0 (S.mn.n)), .int .u64 (l1 (S.mn.n)), .int .u64 (l2 (S.mn.n)), .int .u64 (l3 (S.mn.n)), .int .i64 (S.mn.s), .bool S.mx.b, .int .u64 (l0 (S.mx.n)), .int .u64 (l1 (S.mx.n)), .int .u64 (l2 (S.mx.n)), .int .u64 (l3 (S.mx.n)), .int .i64 (S.mx.s)]) rfl rfl (fun _ => by kernel_rfl) rfl ?_
  intro k1 w1 hk hz hq Q1
  have N_k1 : w.heap.size ≤ k1 := by have := M.size; omega
  replace M := M.trans hq
  clear hk hz hq
  refine wl_alloc 28 #[.int .i64 0, .bool false, .int .u64 0, .int .u64 0, .int .u64 0, .int .u64 0, .int .i64 0, .bool false, .string ⟨#[]⟩, .int .i64 0] rfl (fun _ => by kernel_rfl) rfl ?_
  intro k2 w2 hk hz hq Q2
  have ne_k1_k2 : k1 ≠ k2 := by have := Q1.lt; omega
  have N_k2 : w.heap.size ≤ k2 := by have := M.size; omega
  replace Q1 := Q1.mo hq
  replace M := M.trans hq
  clear hk hz hq
  refine w_nil ?_
  refine xn_then ?_
  refine w_seq ?_
  refine w_seq ?_
  refine w_reg ?_
  refine wl_mv (.tmp 0) (.int .i64 (16)) (fun _ => rfl) rfl rfl ?_
  refine w_nil ?_
  refine xn_then ?_
  refine w_block ?_
  refine w_seq ?_
  refine w_reg ?_
  refine wl_bin (fun x y => do eqGuard .eql 3 (.tmp 7) (.const (.int .i64 (16))) x y; binOp .eql 3 x y) (.tmp 7) (.const (.int .i64 (16))) (.int .i64 (16)) (.int .i64 (16)) (.bool true) (fun _ => rfl) rfl rfl (by kernel_rfl) rfl ?_
  refine wl_mv (.tmp 9) (.bool true) (fun _ => rfl) rfl rfl ?_
  refine w_nil ?_
  refine xn_then ?_
  refine w_condT rfl ?_
  refine w_seq ?_
  refine w_reg ?_
  refine wl_un (fun v => Instr.fieldAt 33 v 0) (.tmp 4) (pt k1 0) (pt k1 0) (fun _ => rfl) rfl (by kernel_rfl) rfl ?_
  refine wl_load 3 (.tmp 10) (pt k1 0) (.int .i64 (S.r)) rfl rfl (run_one Q1 3 0 rfl Try.underlying3 rfl) rfl ?_
  refine wl_call 32 [(.tmp 11)] _ [.int .i64 (S.r)] (.agg #[.int .i64 (1), .bool (decide (S.r < 0)), .int .u64 (l0 (ab (S.r))), .int .u64 (l1 (ab (S.r))), .int .u64 (l2 (ab (S.r))), .int .u64 (l3 (ab (S.r))), .int .i64 (0), .bool false, .string ⟨#[]⟩, .int .i64 (0)]) rfl rfl (fun _ _ => by kernel_rfl) (count_n (S.r) hb.1 hb.2) rfl ?_
  intro w3 hq
  replace Q1 := Q1.mo hq
  replace Q2 := Q2.mo hq
  replace M := M.trans hq
  clear hq
  refine wl_st 28 (.tmp 6) (.tmp 12) k2 0 #[.int .i64 (1), .bool (decide (S.r < 0)), .int .u64 (l0 (ab (S.r))), .int .u64 (l1 (ab (S.r))), .int .u64 (l2 (ab (S.r))), .int .u64 (l3 (ab (S.r))), .int .i64 (0), .bool false, .string ⟨#[]⟩, .int .i64 (0)] [.int .i64 0, .bool false, .int .u64 0, .int .u64 0, .int .u64 0, .int .u64 0, .int .i64 0, .bool false, .string ⟨#[]⟩, .int .i64 0] [.int .i64 (1), .bool (decide (S.r < 0)), .int .u64 (l0 (ab (S.r))), .int .u64 (l1 (ab (S.r))), .int .u64 (l2 (ab (S.r))), .int .u64 (l3 (ab (S.r))), .int .i64 (0), .bool false, .string ⟨#[]⟩, .int .i64 (0)] Q2 rfl rfl rfl rfl rfl sz28 rfl rfl rfl ?_
  intro w4 hS Qn
  replace Q2 := Qn
  clear Qn
  replace Q1 := hS.other _ _ ne_k1_k2 Q1
  replace M := hS.mo _ N_k2 M
  clear hS
  refine w_nil ?_
  refine xn_then ?_
  refine w_ret ?_
  refine xr_blk ?_
  refine xr_then ?_
  exact w_ret1 _ (.agg #[.int .i64 (1), .bool (decide (S.r < 0)), .int .u64 (l0 (ab (S.r))), .int .u64 (l1 (ab (S.r))), .int .u64 (l2 (ab (S.r))), .int .u64 (l3 (ab (S.r))), .int .i64 (0), .bool false, .string ⟨#[]⟩, .int .i64 (0)]) rfl ⟨k2, rfl, (run_row Q2 28 0 10 [.int .i64 (1), .bool (decide (S.r < 0)), .int .u64 (l0 (ab (S.r))), .int .u64 (l1 (ab (S.r))), .int .u64 (l2 (ab (S.r))), .int .u64 (l3 (ab (S.r))), .int .i64 (0), .bool false, .string ⟨#[]⟩, .int .i64 (0)] rfl Try.underlying28 rfl sz28)⟩ ⟨rfl, M⟩
theorem val_13 (S : Sm) (sc9 : Int) (hb : -9223372036854775808 ≤ S.f ∧ S.f < 9223372036854775808) : Calls Try.prog 16 #[.int .i64 13, smv S, .int .i64 sc9] w fun e w' => e = .returned (vl10 1 (decide (S.f < 0)) (ab S.f) 0 false ⟨#[]⟩ 0) ∧ Mo w w' := by
  refine w_enter 27 Try.func16 Try.ntmps16 rfl rfl ?_
  have M : Mo w w := Mo.refl _
  refine w_seq ?_
  refine w_reg ?_
  refine wl_box 33 (.tmp 1) (.agg #[.int .i64 (S.r), .int .i64 (S.f), .int .i64 (S.k), .int .i64 (S.d), .int .i64 (S.e), .int .u64 (l0 (S.tt)), .int .u64 (l1 (S.tt)), .int .u64 (l2 (S.tt)), .int .u64 (l3 (S.tt)), .int .u64 (l4 (S.tt)), .bool S.so, .bool S.mn.b, .int .u64 (l0 (S.mn.n)), .int .u64 (l1 (S.mn.n)), .int .u64 (l2 (S.mn.n)), .int .u64 (l3 (S.mn.n)), .int .i64 (S.mn.s), .bool S.mx.b, .int .u64 (l0 (S.mx.n)), .int .u64 (l1 (S.mx.n)), .int .u64 (l2 (S.mx.n)), .int .u64 (l3 (S.mx.n)), .int .i64 (S.mx.s)]) (#[.int .i64 (S.r), .int .i64 (S.f), .int .i64 (S.k), .int .i64 (S.d), .int .i64 (S.e), .int .u64 (l0 (S.tt)), .int .u64 (l1 (S.tt)), .int .u64 (l2 (S.tt)), .int .u64 (l3 (S.tt)), .int .u64 (l4 (S.tt)), .bool S.so, .bool S.mn.b, .int .u64 (l0 (S.mn.n)), .int .u64 (l1 (S.mn.n)), .int .u64 (l2 (S.mn.n)), .int .u64 (l3 (S.mn.n)), .int .i64 (S.mn.s), .bool S.mx.b, .int .u64 (l0 (S.mx.n)), .int .u64 (l1 (S.mx.n)), .int .u64 (l2 (S.mx.n)), .int .u64 (l3 (S.mx.n)), .int .i64 (S.mx.s)]) rfl rfl (fun _ => by kernel_rfl) rfl ?_
  intro k1 w1 hk hz hq Q1
  have N_k1 : w.heap.size ≤ k1 := by have := M.size; omega
  replace M := M.trans hq
  clear hk hz hq
  refine wl_alloc 28 #[.int .i64 0, .bool false, .int .u64 0, .int .u64 0, .int .u64 0, .int .u64 0, .int .i64 0, .bool false, .string ⟨#[]⟩, .int .i64 0] rfl (fun _ => by kernel_rfl) rfl ?_
  intro k2 w2 hk hz hq Q2
  have ne_k1_k2 : k1 ≠ k2 := by have := Q1.lt; omega
  have N_k2 : w.heap.size ≤ k2 := by have := M.size; omega
  replace Q1 := Q1.mo hq
  replace M := M.trans hq
  clear hk hz hq
  refine w_nil ?_
  refine xn_then ?_
  refine w_seq ?_
  refine w_seq ?_
  refine w_reg ?_
  refine wl_mv (.tmp 0) (.int .i64 (13)) (fun _ => rfl) rfl rfl ?_
  refine w_nil ?_
  refine xn_then ?_
  refine w_block ?_
  refine w_seq ?_
  refine w_reg ?_
  refine wl_bin (fun x y => do eqGuard .eql 3 (.tmp 7) (.const (.int .i64 (16))) x y; binOp .eql 3 x y) (.tmp 7) (.const (.int .i64 (16))) (.int .i64 (13)) (.int .i64 (16)) (.bool false) (fun _ => rfl) rfl rfl (by kernel_rfl) rfl ?_
  refine wl_mv (.tmp 9) (.bool false) (fun _ => rfl) rfl rfl ?_
  refine w_nil ?_
  refine xn_then ?_
  refine w_condF rfl ?_
  refine w_seq ?_
  refine w_reg ?_
  refine wl_bin (fun x y => do eqGuard .eql 3 (.tmp 7) (.const (.int .i64 (13))) x y; binOp .eql 3 x y) (.tmp 7) (.const (.int .i64 (13))) (.int .i64 (13)) (.int .i64 (13)) (.bool true) (fun _ => rfl) rfl rfl (by kernel_rfl) rfl ?_
  refine wl_mv (.tmp 14) (.bool true) (fun _ => rfl) rfl rfl ?_
  refine w_nil ?_
  refine xn_then ?_
  refine w_condT rfl ?_
  refine w_seq ?_
  refine w_reg ?_
  refine wl_un (fun v => Instr.fieldAt 33 v 1) (.tmp 4) (pt k1 0) (pt k1 1) (fun _ => rfl) rfl (by kernel_rfl) rfl ?_
  refine wl_load 3 (.tmp 15) (pt k1 1) (.int .i64 (S.f)) rfl rfl (run_one Q1 3 1 rfl Try.underlying3 rfl) rfl ?_
  refine wl_call 32 [(.tmp 16)] _ [.int .i64 (S.f)] (.agg #[.int .i64 (1), .bool (decide (S.f < 0)), .int .u64 (l0 (ab (S.f))), .int .u64 (l1 (ab (S.f))), .int .u64 (l2 (ab (S.f))), .int .u64 (l3 (ab (S.f))), .int .i64 (0), .bool false, .string ⟨#[]⟩, .int .i64 (0)]) rfl rfl (fun _ _ => by kernel_rfl) (count_n (S.f) hb.1 hb.2) rfl ?_
  intro w3 hq
  replace Q1 := Q1.mo hq
  replace Q2 := Q2.mo hq
  replace M := M.trans hq
  clear hq
  refine wl_st 28 (.tmp 6) (.tmp 17) k2 0 #[.int .i64 (1), .bool (decide (S.f < 0)), .int .u64 (l0 (ab (S.f))), .int .u64 (l1 (ab (S.f))), .int .u64 (l2 (ab (S.f))), .int .u64 (l3 (ab (S.f))), .int .i64 (0), .bool false, .string ⟨#[]⟩, .int .i64 (0)] [.int .i64 0, .bool false, .int .u64 0, .int .u64 0, .int .u64 0, .int .u64 0, .int .i64 0, .bool false, .string ⟨#[]⟩, .int .i64 0] [.int .i64 (1), .bool (decide (S.f < 0)), .int .u64 (l0 (ab (S.f))), .int .u64 (l1 (ab (S.f))), .int .u64 (l2 (ab (S.f))), .int .u64 (l3 (ab (S.f))), .int .i64 (0), .bool false, .string ⟨#[]⟩, .int .i64 (0)] Q2 rfl rfl rfl rfl rfl sz28 rfl rfl rfl ?_
  intro w4 hS Qn
  replace Q2 := Qn
  clear Qn
  replace Q1 := hS.other _ _ ne_k1_k2 Q1
  replace M := hS.mo _ N_k2 M
  clear hS
  refine w_nil ?_
  refine xn_then ?_
  refine w_ret ?_
  refine xr_blk ?_
  refine xr_then ?_
  exact w_ret1 _ (.agg #[.int .i64 (1), .bool (decide (S.f < 0)), .int .u64 (l0 (ab (S.f))), .int .u64 (l1 (ab (S.f))), .int .u64 (l2 (ab (S.f))), .int .u64 (l3 (ab (S.f))), .int .i64 (0), .bool false, .string ⟨#[]⟩, .int .i64 (0)]) rfl ⟨k2, rfl, (run_row Q2 28 0 10 [.int .i64 (1), .bool (decide (S.f < 0)), .int .u64 (l0 (ab (S.f))), .int .u64 (l1 (ab (S.f))), .int .u64 (l2 (ab (S.f))), .int .u64 (l3 (ab (S.f))), .int .i64 (0), .bool false, .string ⟨#[]⟩, .int .i64 (0)] rfl Try.underlying28 rfl sz28)⟩ ⟨rfl, M⟩
theorem val_x (op : Int) (S : Sm) (sc9 : Int) (q16 : decide (op = 16) = false) (q13 : decide (op = 13) = false) (q12 : decide (op = 12) = false) (q14 : decide (op = 14) = false) (q15 : decide (op = 15) = false) : Calls Try.prog 16 #[.int .i64 op, smv S, .int .i64 sc9] w fun e w' => e = .returned (vl10 4 false 0 0 false ⟨#[]⟩ 2) ∧ Mo w w' := by
  refine w_enter 27 Try.func16 Try.ntmps16 rfl rfl ?_
  have M : Mo w w := Mo.refl _
  refine w_seq ?_
  refine w_reg ?_
  refine wl_box 33 (.tmp 1) (.agg #[.int .i64 (S.r), .int .i64 (S.f), .int .i64 (S.k), .int .i64 (S.d), .int .i64 (S.e), .int .u64 (l0 (S.tt)), .int .u64 (l1 (S.tt)), .int .u64 (l2 (S.tt)), .int .u64 (l3 (S.tt)), .int .u64 (l4 (S.tt)), .bool S.so, .bool S.mn.b, .int .u64 (l0 (S.mn.n)), .int .u64 (l1 (S.mn.n)), .int .u64 (l2 (S.mn.n)), .int .u64 (l3 (S.mn.n)), .int .i64 (S.mn.s), .bool S.mx.b, .int .u64 (l0 (S.mx.n)), .int .u64 (l1 (S.mx.n)), .int .u64 (l2 (S.mx.n)), .int .u64 (l3 (S.mx.n)), .int .i64 (S.mx.s)]) (#[.int .i64 (S.r), .int .i64 (S.f), .int .i64 (S.k), .int .i64 (S.d), .int .i64 (S.e), .int .u64 (l0 (S.tt)), .int .u64 (l1 (S.tt)), .int .u64 (l2 (S.tt)), .int .u64 (l3 (S.tt)), .int .u64 (l4 (S.tt)), .bool S.so, .bool S.mn.b, .int .u64 (l0 (S.mn.n)), .int .u64 (l1 (S.mn.n)), .int .u64 (l2 (S.mn.n)), .int .u64 (l3 (S.mn.n)), .int .i64 (S.mn.s), .bool S.mx.b, .int .u64 (l0 (S.mx.n)), .int .u64 (l1 (S.mx.n)), .int .u64 (l2 (S.mx.n)), .int .u64 (l3 (S.mx.n)), .int .i64 (S.mx.s)]) rfl rfl (fun _ => by kernel_rfl) rfl ?_
  intro k1 w1 hk hz hq Q1
  have N_k1 : w.heap.size ≤ k1 := by have := M.size; omega
  replace M := M.trans hq
  clear hk hz hq
  refine wl_alloc 28 #[.int .i64 0, .bool false, .int .u64 0, .int .u64 0, .int .u64 0, .int .u64 0, .int .i64 0, .bool false, .string ⟨#[]⟩, .int .i64 0] rfl (fun _ => by kernel_rfl) rfl ?_
  intro k2 w2 hk hz hq Q2
  have ne_k1_k2 : k1 ≠ k2 := by have := Q1.lt; omega
  have N_k2 : w.heap.size ≤ k2 := by have := M.size; omega
  replace Q1 := Q1.mo hq
  replace M := M.trans hq
  clear hk hz hq
  refine w_nil ?_
  refine xn_then ?_
  refine w_seq ?_
  refine w_seq ?_
  refine w_reg ?_
  refine wl_mv (.tmp 0) (.int .i64 (op)) (fun _ => rfl) rfl rfl ?_
  refine w_nil ?_
  refine xn_then ?_
  refine w_block ?_
  refine w_seq ?_
  refine w_reg ?_
  refine wl_bin (fun x y => do eqGuard .eql 3 (.tmp 7) (.const (.int .i64 (16))) x y; binOp .eql 3 x y) (.tmp 7) (.const (.int .i64 (16))) (.int .i64 (op)) (.int .i64 (16)) (.bool false) (fun _ => rfl) rfl rfl (eqI q16 _ _ _) rfl ?_
  refine wl_mv (.tmp 9) (.bool false) (fun _ => rfl) rfl rfl ?_
  refine w_nil ?_
  refine xn_then ?_
  refine w_condF rfl ?_
  refine w_seq ?_
  refine w_reg ?_
  refine wl_bin (fun x y => do eqGuard .eql 3 (.tmp 7) (.const (.int .i64 (13))) x y; binOp .eql 3 x y) (.tmp 7) (.const (.int .i64 (13))) (.int .i64 (op)) (.int .i64 (13)) (.bool false) (fun _ => rfl) rfl rfl (eqI q13 _ _ _) rfl ?_
  refine wl_mv (.tmp 14) (.bool false) (fun _ => rfl) rfl rfl ?_
  refine w_nil ?_
  refine xn_then ?_
  refine w_condF rfl ?_
  refine w_seq ?_
  refine w_seq ?_
  refine w_reg ?_
  refine wl_bin (fun x y => do eqGuard .eql 3 (.tmp 7) (.const (.int .i64 (12))) x y; binOp .eql 3 x y) (.tmp 7) (.const (.int .i64 (12))) (.int .i64 (op)) (.int .i64 (12)) (.bool false) (fun _ => rfl) rfl rfl (eqI q12 _ _ _) rfl ?_
  refine wl_mv (.tmp 19) (.bool false) (fun _ => rfl) rfl rfl ?_
  refine w_nil ?_
  refine xn_then ?_
  refine w_condF rfl ?_
  refine w_seq ?_
  refine w_reg ?_
  refine wl_bin (fun x y => do eqGuard .eql 3 (.tmp 7) (.const (.int .i64 (14))) x y; binOp .eql 3 x y) (.tmp 7) (.const (.int .i64 (14))) (.int .i64 (op)) (.int .i64 (14)) (.bool false) (fun _ => rfl) rfl rfl (eqI q14 _ _ _) rfl ?_
  refine wl_mv (.tmp 20) (.bool false) (fun _ => rfl) rfl rfl ?_
  refine w_nil ?_
  refine xn_then ?_
  refine w_condF rfl ?_
  refine w_reg ?_
  refine wl_bin (fun x y => do eqGuard .eql 3 (.tmp 7) (.const (.int .i64 (15))) x y; binOp .eql 3 x y) (.tmp 7) (.const (.int .i64 (15))) (.int .i64 (op)) (.int .i64 (15)) (.bool false) (fun _ => rfl) rfl rfl (eqI q15 _ _ _) rfl ?_
  refine wl_mv (.tmp 21) (.bool false) (fun _ => rfl) rfl rfl ?_
  refine w_nil ?_
  refine xn_then ?_
  refine w_condF rfl ?_
  refine w_skip ?_
  refine xn_blk ?_
  refine xn_then ?_
  refine w_seq ?_
  refine w_reg ?_
  refine wl_call 34 [(.const (.int .i64 (2)))] _ [.int .i64 (2)] (.agg #[.int .i64 (4), .bool false, .int .u64 (l0 (0)), .int .u64 (l1 (0)), .int .u64 (l2 (0)), .int .u64 (l3 (0)), .int .i64 (0), .bool false, .string ⟨#[]⟩, .int .i64 (2)]) rfl rfl (fun _ _ => by kernel_rfl) (failure_n (2)) rfl ?_
  intro w3 hq
  replace Q1 := Q1.mo hq
  replace Q2 := Q2.mo hq
  replace M := M.trans hq
  clear hq
  refine wl_st 28 (.tmp 6) (.tmp 26) k2 0 #[.int .i64 (4), .bool false, .int .u64 (l0 (0)), .int .u64 (l1 (0)), .int .u64 (l2 (0)), .int .u64 (l3 (0)), .int .i64 (0), .bool false, .string ⟨#[]⟩, .int .i64 (2)] [.int .i64 0, .bool false, .int .u64 0, .int .u64 0, .int .u64 0, .int .u64 0, .int .i64 0, .bool false, .string ⟨#[]⟩, .int .i64 0] [.int .i64 (4), .bool false, .int .u64 (l0 (0)), .int .u64 (l1 (0)), .int .u64 (l2 (0)), .int .u64 (l3 (0)), .int .i64 (0), .bool false, .string ⟨#[]⟩, .int .i64 (2)] Q2 rfl rfl rfl rfl rfl sz28 rfl rfl rfl ?_
  intro w4 hS Qn
  replace Q2 := Qn
  clear Qn
  replace Q1 := hS.other _ _ ne_k1_k2 Q1
  replace M := hS.mo _ N_k2 M
  clear hS
  refine w_nil ?_
  refine xn_then ?_
  refine w_ret ?_
  exact w_ret1 _ (.agg #[.int .i64 (4), .bool false, .int .u64 (l0 (0)), .int .u64 (l1 (0)), .int .u64 (l2 (0)), .int .u64 (l3 (0)), .int .i64 (0), .bool false, .string ⟨#[]⟩, .int .i64 (2)]) rfl ⟨k2, rfl, (run_row Q2 28 0 10 [.int .i64 (4), .bool false, .int .u64 (l0 (0)), .int .u64 (l1 (0)), .int .u64 (l2 (0)), .int .u64 (l3 (0)), .int .i64 (0), .bool false, .string ⟨#[]⟩, .int .i64 (2)] rfl Try.underlying28 rfl sz28)⟩ ⟨rfl, M⟩
theorem rval_16 (S : Sm) (sc9 : Int) (hb : -9223372036854775808 ≤ S.r ∧ S.r < 9223372036854775808) : Calls Try.prog 17 #[.int .i64 16, smv S, .int .i64 sc9] w fun e w' => e = .returned (vl10 1 (decide (S.r < 0)) (ab S.r) 0 false ⟨#[]⟩ 0) ∧ Mo w w' := by
  refine w_enter 69 Try.func17 Try.ntmps17 rfl rfl ?_
  have M : Mo w w := Mo.refl _
  refine w_seq ?_
  refine w_reg ?_
  refine wl_box 33 (.tmp 1) (.agg #[.int .i64 (S.r), .int .i64 (S.f), .int .i64 (S.k), .int .i64 (S.d), .int .i64 (S.e), .int .u64 (l0 (S.tt)), .int .u64 (l1 (S.tt)), .int .u64 (l2 (S.tt)), .int .u64 (l3 (S.tt)), .int .u64 (l4 (S.tt)), .bool S.so, .bool S.mn.b, .int .u64 (l0 (S.mn.n)), .int .u64 (l1 (S.mn.n)), .int .u64 (l2 (S.mn.n)), .int .u64 (l3 (S.mn.n)), .int .i64 (S.mn.s), .bool S.mx.b, .int .u64 (l0 (S.mx.n)), .int .u64 (l1 (S.mx.n)), .int .u64 (l2 (S.mx.n)), .int .u64 (l3 (S.mx.n)), .int .i64 (S.mx.s)]) (#[.int .i64 (S.r), .int .i64 (S.f), .int .i64 (S.k), .int .i64 (S.d), .int .i64 (S.e), .int .u64 (l0 (S.tt)), .int .u64 (l1 (S.tt)), .int .u64 (l2 (S.tt)), .int .u64 (l3 (S.tt)), .int .u64 (l4 (S.tt)), .bool S.so, .bool S.mn.b, .int .u64 (l0 (S.mn.n)), .int .u64 (l1 (S.mn.n)), .int .u64 (l2 (S.mn.n)), .int .u64 (l3 (S.mn.n)), .int .i64 (S.mn.s), .bool S.mx.b, .int .u64 (l0 (S.mx.n)), .int .u64 (l1 (S.mx.n)), .int .u64 (l2 (S.mx.n)), .int .u64 (l3 (S.mx.n)), .int .i64 (S.mx.s)]) rfl rfl (fun _ => by kernel_rfl) rfl ?_
  intro k1 w1 hk hz hq Q1
  have N_k1 : w.heap.size ≤ k1 := by have := M.size; omega
  replace M := M.trans hq
  clear hk hz hq
  refine wl_alloc 28 #[.int .i64 0, .bool false, .int .u64 0, .int .u64 0, .int .u64 0, .int .u64 0, .int .i64 0, .bool false, .string ⟨#[]⟩, .int .i64 0] rfl (fun _ => by kernel_rfl) rfl ?_
  intro k2 w2 hk hz hq Q2
  have ne_k1_k2 : k1 ≠ k2 := by have := Q1.lt; omega
  have N_k2 : w.heap.size ≤ k2 := by have := M.size; omega
  replace Q1 := Q1.mo hq
  replace M := M.trans hq
  clear hk hz hq
  refine w_nil ?_
  refine xn_then ?_
  refine w_seq ?_
  refine w_block ?_
  refine w_seq ?_
  refine w_reg ?_
  refine wl_mv (.tmp 0) (.int .i64 (16)) (fun _ => rfl) rfl rfl ?_
  refine wl_bin (fun x y => do eqGuard .eql 3 (.tmp 10) (.const (.int .i64 (16))) x y; binOp .eql 3 x y) (.tmp 10) (.const (.int .i64 (16))) (.int .i64 (16)) (.int .i64 (16)) (.bool true) (fun _ => rfl) rfl rfl (by kernel_rfl) rfl ?_
  refine wl_mv (.tmp 11) (.bool true) (fun _ => rfl) rfl rfl ?_
  refine w_nil ?_
  refine xn_then ?_
  refine w_condT rfl ?_
  refine w_seq ?_
  refine w_reg ?_
  refine wl_un (fun v => Instr.fieldAt 33 v 0) (.tmp 4) (pt k1 0) (pt k1 0) (fun _ => rfl) rfl (by kernel_rfl) rfl ?_
  refine wl_load 3 (.tmp 12) (pt k1 0) (.int .i64 (S.r)) rfl rfl (run_one Q1 3 0 rfl Try.underlying3 rfl) rfl ?_
  refine wl_call 35 [(.tmp 13)] _ [.int .i64 (S.r)] (.agg #[.int .i64 (1), .bool (decide (S.r < 0)), .int .u64 (l0 (ab (S.r))), .int .u64 (l1 (ab (S.r))), .int .u64 (l2 (ab (S.r))), .int .u64 (l3 (ab (S.r))), .int .i64 (0), .bool false, .string ⟨#[]⟩, .int .i64 (0)]) rfl rfl (fun _ _ => by kernel_rfl) (whole_n9 (S.r) hb.1 hb.2) rfl ?_
  intro w3 hq
  replace Q1 := Q1.mo hq
  replace Q2 := Q2.mo hq
  replace M := M.trans hq
  clear hq
  refine wl_st 28 (.tmp 6) (.tmp 14) k2 0 #[.int .i64 (1), .bool (decide (S.r < 0)), .int .u64 (l0 (ab (S.r))), .int .u64 (l1 (ab (S.r))), .int .u64 (l2 (ab (S.r))), .int .u64 (l3 (ab (S.r))), .int .i64 (0), .bool false, .string ⟨#[]⟩, .int .i64 (0)] [.int .i64 0, .bool false, .int .u64 0, .int .u64 0, .int .u64 0, .int .u64 0, .int .i64 0, .bool false, .string ⟨#[]⟩, .int .i64 0] [.int .i64 (1), .bool (decide (S.r < 0)), .int .u64 (l0 (ab (S.r))), .int .u64 (l1 (ab (S.r))), .int .u64 (l2 (ab (S.r))), .int .u64 (l3 (ab (S.r))), .int .i64 (0), .bool false, .string ⟨#[]⟩, .int .i64 (0)] Q2 rfl rfl rfl rfl rfl sz28 rfl rfl rfl ?_
  intro w4 hS Qn
  replace Q2 := Qn
  clear Qn
  replace Q1 := hS.other _ _ ne_k1_k2 Q1
  replace M := hS.mo _ N_k2 M
  clear hS
  refine w_nil ?_
  refine xn_then ?_
  refine w_ret ?_
  refine xr_blk ?_
  refine xr_then ?_
  exact w_ret1 _ (.agg #[.int .i64 (1), .bool (decide (S.r < 0)), .int .u64 (l0 (ab (S.r))), .int .u64 (l1 (ab (S.r))), .int .u64 (l2 (ab (S.r))), .int .u64 (l3 (ab (S.r))), .int .i64 (0), .bool false, .string ⟨#[]⟩, .int .i64 (0)]) rfl ⟨k2, rfl, (run_row Q2 28 0 10 [.int .i64 (1), .bool (decide (S.r < 0)), .int .u64 (l0 (ab (S.r))), .int .u64 (l1 (ab (S.r))), .int .u64 (l2 (ab (S.r))), .int .u64 (l3 (ab (S.r))), .int .i64 (0), .bool false, .string ⟨#[]⟩, .int .i64 (0)] rfl Try.underlying28 rfl sz28)⟩ ⟨rfl, M⟩
theorem rval_13 (S : Sm) (sc9 : Int) (hb : -9223372036854775808 ≤ S.f ∧ S.f < 9223372036854775808) : Calls Try.prog 17 #[.int .i64 13, smv S, .int .i64 sc9] w fun e w' => e = .returned (vl10 1 (decide (S.f < 0)) (ab S.f) 0 false ⟨#[]⟩ 0) ∧ Mo w w' := by
  refine w_enter 69 Try.func17 Try.ntmps17 rfl rfl ?_
  have M : Mo w w := Mo.refl _
  refine w_seq ?_
  refine w_reg ?_
  refine wl_box 33 (.tmp 1) (.agg #[.int .i64 (S.r), .int .i64 (S.f), .int .i64 (S.k), .int .i64 (S.d), .int .i64 (S.e), .int .u64 (l0 (S.tt)), .int .u64 (l1 (S.tt)), .int .u64 (l2 (S.tt)), .int .u64 (l3 (S.tt)), .int .u64 (l4 (S.tt)), .bool S.so, .bool S.mn.b, .int .u64 (l0 (S.mn.n)), .int .u64 (l1 (S.mn.n)), .int .u64 (l2 (S.mn.n)), .int .u64 (l3 (S.mn.n)), .int .i64 (S.mn.s), .bool S.mx.b, .int .u64 (l0 (S.mx.n)), .int .u64 (l1 (S.mx.n)), .int .u64 (l2 (S.mx.n)), .int .u64 (l3 (S.mx.n)), .int .i64 (S.mx.s)]) (#[.int .i64 (S.r), .int .i64 (S.f), .int .i64 (S.k), .int .i64 (S.d), .int .i64 (S.e), .int .u64 (l0 (S.tt)), .int .u64 (l1 (S.tt)), .int .u64 (l2 (S.tt)), .int .u64 (l3 (S.tt)), .int .u64 (l4 (S.tt)), .bool S.so, .bool S.mn.b, .int .u64 (l0 (S.mn.n)), .int .u64 (l1 (S.mn.n)), .int .u64 (l2 (S.mn.n)), .int .u64 (l3 (S.mn.n)), .int .i64 (S.mn.s), .bool S.mx.b, .int .u64 (l0 (S.mx.n)), .int .u64 (l1 (S.mx.n)), .int .u64 (l2 (S.mx.n)), .int .u64 (l3 (S.mx.n)), .int .i64 (S.mx.s)]) rfl rfl (fun _ => by kernel_rfl) rfl ?_
  intro k1 w1 hk hz hq Q1
  have N_k1 : w.heap.size ≤ k1 := by have := M.size; omega
  replace M := M.trans hq
  clear hk hz hq
  refine wl_alloc 28 #[.int .i64 0, .bool false, .int .u64 0, .int .u64 0, .int .u64 0, .int .u64 0, .int .i64 0, .bool false, .string ⟨#[]⟩, .int .i64 0] rfl (fun _ => by kernel_rfl) rfl ?_
  intro k2 w2 hk hz hq Q2
  have ne_k1_k2 : k1 ≠ k2 := by have := Q1.lt; omega
  have N_k2 : w.heap.size ≤ k2 := by have := M.size; omega
  replace Q1 := Q1.mo hq
  replace M := M.trans hq
  clear hk hz hq
  refine w_nil ?_
  refine xn_then ?_
  refine w_seq ?_
  refine w_block ?_
  refine w_seq ?_
  refine w_reg ?_
  refine wl_mv (.tmp 0) (.int .i64 (13)) (fun _ => rfl) rfl rfl ?_
  refine wl_bin (fun x y => do eqGuard .eql 3 (.tmp 10) (.const (.int .i64 (16))) x y; binOp .eql 3 x y) (.tmp 10) (.const (.int .i64 (16))) (.int .i64 (13)) (.int .i64 (16)) (.bool false) (fun _ => rfl) rfl rfl (by kernel_rfl) rfl ?_
  refine wl_mv (.tmp 11) (.bool false) (fun _ => rfl) rfl rfl ?_
  refine w_nil ?_
  refine xn_then ?_
  refine w_condF rfl ?_
  refine w_seq ?_
  refine w_reg ?_
  refine wl_mv (.tmp 0) (.int .i64 (13)) (fun _ => rfl) rfl rfl ?_
  refine wl_bin (fun x y => do eqGuard .eql 3 (.tmp 16) (.const (.int .i64 (13))) x y; binOp .eql 3 x y) (.tmp 16) (.const (.int .i64 (13))) (.int .i64 (13)) (.int .i64 (13)) (.bool true) (fun _ => rfl) rfl rfl (by kernel_rfl) rfl ?_
  refine wl_mv (.tmp 17) (.bool true) (fun _ => rfl) rfl rfl ?_
  refine w_nil ?_
  refine xn_then ?_
  refine w_condT rfl ?_
  refine w_seq ?_
  refine w_reg ?_
  refine wl_un (fun v => Instr.fieldAt 33 v 1) (.tmp 4) (pt k1 0) (pt k1 1) (fun _ => rfl) rfl (by kernel_rfl) rfl ?_
  refine wl_load 3 (.tmp 18) (pt k1 1) (.int .i64 (S.f)) rfl rfl (run_one Q1 3 1 rfl Try.underlying3 rfl) rfl ?_
  refine wl_call 35 [(.tmp 19)] _ [.int .i64 (S.f)] (.agg #[.int .i64 (1), .bool (decide (S.f < 0)), .int .u64 (l0 (ab (S.f))), .int .u64 (l1 (ab (S.f))), .int .u64 (l2 (ab (S.f))), .int .u64 (l3 (ab (S.f))), .int .i64 (0), .bool false, .string ⟨#[]⟩, .int .i64 (0)]) rfl rfl (fun _ _ => by kernel_rfl) (whole_n9 (S.f) hb.1 hb.2) rfl ?_
  intro w3 hq
  replace Q1 := Q1.mo hq
  replace Q2 := Q2.mo hq
  replace M := M.trans hq
  clear hq
  refine wl_st 28 (.tmp 6) (.tmp 20) k2 0 #[.int .i64 (1), .bool (decide (S.f < 0)), .int .u64 (l0 (ab (S.f))), .int .u64 (l1 (ab (S.f))), .int .u64 (l2 (ab (S.f))), .int .u64 (l3 (ab (S.f))), .int .i64 (0), .bool false, .string ⟨#[]⟩, .int .i64 (0)] [.int .i64 0, .bool false, .int .u64 0, .int .u64 0, .int .u64 0, .int .u64 0, .int .i64 0, .bool false, .string ⟨#[]⟩, .int .i64 0] [.int .i64 (1), .bool (decide (S.f < 0)), .int .u64 (l0 (ab (S.f))), .int .u64 (l1 (ab (S.f))), .int .u64 (l2 (ab (S.f))), .int .u64 (l3 (ab (S.f))), .int .i64 (0), .bool false, .string ⟨#[]⟩, .int .i64 (0)] Q2 rfl rfl rfl rfl rfl sz28 rfl rfl rfl ?_
  intro w4 hS Qn
  replace Q2 := Qn
  clear Qn
  replace Q1 := hS.other _ _ ne_k1_k2 Q1
  replace M := hS.mo _ N_k2 M
  clear hS
  refine w_nil ?_
  refine xn_then ?_
  refine w_ret ?_
  refine xr_blk ?_
  refine xr_then ?_
  exact w_ret1 _ (.agg #[.int .i64 (1), .bool (decide (S.f < 0)), .int .u64 (l0 (ab (S.f))), .int .u64 (l1 (ab (S.f))), .int .u64 (l2 (ab (S.f))), .int .u64 (l3 (ab (S.f))), .int .i64 (0), .bool false, .string ⟨#[]⟩, .int .i64 (0)]) rfl ⟨k2, rfl, (run_row Q2 28 0 10 [.int .i64 (1), .bool (decide (S.f < 0)), .int .u64 (l0 (ab (S.f))), .int .u64 (l1 (ab (S.f))), .int .u64 (l2 (ab (S.f))), .int .u64 (l3 (ab (S.f))), .int .i64 (0), .bool false, .string ⟨#[]⟩, .int .i64 (0)] rfl Try.underlying28 rfl sz28)⟩ ⟨rfl, M⟩
theorem rval_x (op : Int) (S : Sm) (sc9 : Int) (q16 : decide (op = 16) = false) (q13 : decide (op = 13) = false) (q12 : decide (op = 12) = false) (q14 : decide (op = 14) = false) (q15 : decide (op = 15) = false) : Calls Try.prog 17 #[.int .i64 op, smv S, .int .i64 sc9] w fun e w' => e = .returned (vl10 4 false 0 0 false ⟨#[]⟩ 2) ∧ Mo w w' := by
  refine w_enter 69 Try.func17 Try.ntmps17 rfl rfl ?_
  have M : Mo w w := Mo.refl _
  refine w_seq ?_
  refine w_reg ?_
  refine wl_box 33 (.tmp 1) (.agg #[.int .i64 (S.r), .int .i64 (S.f), .int .i64 (S.k), .int .i64 (S.d), .int .i64 (S.e), .int .u64 (l0 (S.tt)), .int .u64 (l1 (S.tt)), .int .u64 (l2 (S.tt)), .int .u64 (l3 (S.tt)), .int .u64 (l4 (S.tt)), .bool S.so, .bool S.mn.b, .int .u64 (l0 (S.mn.n)), .int .u64 (l1 (S.mn.n)), .int .u64 (l2 (S.mn.n)), .int .u64 (l3 (S.mn.n)), .int .i64 (S.mn.s), .bool S.mx.b, .int .u64 (l0 (S.mx.n)), .int .u64 (l1 (S.mx.n)), .int .u64 (l2 (S.mx.n)), .int .u64 (l3 (S.mx.n)), .int .i64 (S.mx.s)]) (#[.int .i64 (S.r), .int .i64 (S.f), .int .i64 (S.k), .int .i64 (S.d), .int .i64 (S.e), .int .u64 (l0 (S.tt)), .int .u64 (l1 (S.tt)), .int .u64 (l2 (S.tt)), .int .u64 (l3 (S.tt)), .int .u64 (l4 (S.tt)), .bool S.so, .bool S.mn.b, .int .u64 (l0 (S.mn.n)), .int .u64 (l1 (S.mn.n)), .int .u64 (l2 (S.mn.n)), .int .u64 (l3 (S.mn.n)), .int .i64 (S.mn.s), .bool S.mx.b, .int .u64 (l0 (S.mx.n)), .int .u64 (l1 (S.mx.n)), .int .u64 (l2 (S.mx.n)), .int .u64 (l3 (S.mx.n)), .int .i64 (S.mx.s)]) rfl rfl (fun _ => by kernel_rfl) rfl ?_
  intro k1 w1 hk hz hq Q1
  have N_k1 : w.heap.size ≤ k1 := by have := M.size; omega
  replace M := M.trans hq
  clear hk hz hq
  refine wl_alloc 28 #[.int .i64 0, .bool false, .int .u64 0, .int .u64 0, .int .u64 0, .int .u64 0, .int .i64 0, .bool false, .string ⟨#[]⟩, .int .i64 0] rfl (fun _ => by kernel_rfl) rfl ?_
  intro k2 w2 hk hz hq Q2
  have ne_k1_k2 : k1 ≠ k2 := by have := Q1.lt; omega
  have N_k2 : w.heap.size ≤ k2 := by have := M.size; omega
  replace Q1 := Q1.mo hq
  replace M := M.trans hq
  clear hk hz hq
  refine w_nil ?_
  refine xn_then ?_
  refine w_seq ?_
  refine w_block ?_
  refine w_seq ?_
  refine w_reg ?_
  refine wl_mv (.tmp 0) (.int .i64 (op)) (fun _ => rfl) rfl rfl ?_
  refine wl_bin (fun x y => do eqGuard .eql 3 (.tmp 10) (.const (.int .i64 (16))) x y; binOp .eql 3 x y) (.tmp 10) (.const (.int .i64 (16))) (.int .i64 (op)) (.int .i64 (16)) (.bool false) (fun _ => rfl) rfl rfl (eqI q16 _ _ _) rfl ?_
  refine wl_mv (.tmp 11) (.bool false) (fun _ => rfl) rfl rfl ?_
  refine w_nil ?_
  refine xn_then ?_
  refine w_condF rfl ?_
  refine w_seq ?_
  refine w_reg ?_
  refine wl_mv (.tmp 0) (.int .i64 (op)) (fun _ => rfl) rfl rfl ?_
  refine wl_bin (fun x y => do eqGuard .eql 3 (.tmp 16) (.const (.int .i64 (13))) x y; binOp .eql 3 x y) (.tmp 16) (.const (.int .i64 (13))) (.int .i64 (op)) (.int .i64 (13)) (.bool false) (fun _ => rfl) rfl rfl (eqI q13 _ _ _) rfl ?_
  refine wl_mv (.tmp 17) (.bool false) (fun _ => rfl) rfl rfl ?_
  refine w_nil ?_
  refine xn_then ?_
  refine w_condF rfl ?_
  refine w_seq ?_
  refine w_reg ?_
  refine wl_mv (.tmp 0) (.int .i64 (op)) (fun _ => rfl) rfl rfl ?_
  refine wl_bin (fun x y => do eqGuard .neq 3 (.tmp 22) (.const (.int .i64 (12))) x y; binOp .neq 3 x y) (.tmp 22) (.const (.int .i64 (12))) (.int .i64 (op)) (.int .i64 (12)) (.bool true) (fun _ => rfl) rfl rfl (neI q12 _ _ _) rfl ?_
  refine wl_mv (.tmp 23) (.bool true) (fun _ => rfl) rfl rfl ?_
  refine wl_mv (.tmp 0) (.int .i64 (op)) (fun _ => rfl) rfl rfl ?_
  refine wl_bin (fun x y => do eqGuard .neq 3 (.tmp 25) (.const (.int .i64 (14))) x y; binOp .neq 3 x y) (.tmp 25) (.const (.int .i64 (14))) (.int .i64 (op)) (.int .i64 (14)) (.bool true) (fun _ => rfl) rfl rfl (neI q14 _ _ _) rfl ?_
  refine wl_pick (.tmp 24) (.tmp 26) (.const (.bool false)) true (.bool true) (fun _ => rfl) rfl rfl rfl ?_
  refine wl_mv (.tmp 27) (.bool true) (fun _ => rfl) rfl rfl ?_
  refine wl_mv (.tmp 0) (.int .i64 (op)) (fun _ => rfl) rfl rfl ?_
  refine wl_bin (fun x y => do eqGuard .neq 3 (.tmp 29) (.const (.int .i64 (15))) x y; binOp .neq 3 x y) (.tmp 29) (.const (.int .i64 (15))) (.int .i64 (op)) (.int .i64 (15)) (.bool true) (fun _ => rfl) rfl rfl (neI q15 _ _ _) rfl ?_
  refine wl_pick (.tmp 28) (.tmp 30) (.const (.bool false)) true (.bool true) (fun _ => rfl) rfl rfl rfl ?_
  refine wl_mv (.tmp 31) (.bool true) (fun _ => rfl) rfl rfl ?_
  refine w_nil ?_
  refine xn_then ?_
  refine w_condT rfl ?_
  refine w_seq ?_
  refine w_reg ?_
  refine wl_call 36 [(.const (.int .i64 (2)))] _ [.int .i64 (2)] (.agg #[.int .i64 (4), .bool false, .int .u64 (l0 (0)), .int .u64 (l1 (0)), .int .u64 (l2 (0)), .int .u64 (l3 (0)), .int .i64 (0), .bool false, .string ⟨#[]⟩, .int .i64 (2)]) rfl rfl (fun _ _ => by kernel_rfl) (bad_n (2)) rfl ?_
  intro w3 hq
  replace Q1 := Q1.mo hq
  replace Q2 := Q2.mo hq
  replace M := M.trans hq
  clear hq
  refine wl_st 28 (.tmp 6) (.tmp 32) k2 0 #[.int .i64 (4), .bool false, .int .u64 (l0 (0)), .int .u64 (l1 (0)), .int .u64 (l2 (0)), .int .u64 (l3 (0)), .int .i64 (0), .bool false, .string ⟨#[]⟩, .int .i64 (2)] [.int .i64 0, .bool false, .int .u64 0, .int .u64 0, .int .u64 0, .int .u64 0, .int .i64 0, .bool false, .string ⟨#[]⟩, .int .i64 0] [.int .i64 (4), .bool false, .int .u64 (l0 (0)), .int .u64 (l1 (0)), .int .u64 (l2 (0)), .int .u64 (l3 (0)), .int .i64 (0), .bool false, .string ⟨#[]⟩, .int .i64 (2)] Q2 rfl rfl rfl rfl rfl sz28 rfl rfl rfl ?_
  intro w4 hS Qn
  replace Q2 := Qn
  clear Qn
  replace Q1 := hS.other _ _ ne_k1_k2 Q1
  replace M := hS.mo _ N_k2 M
  clear hS
  refine w_nil ?_
  refine xn_then ?_
  refine w_ret ?_
  refine xr_blk ?_
  refine xr_then ?_
  exact w_ret1 _ (.agg #[.int .i64 (4), .bool false, .int .u64 (l0 (0)), .int .u64 (l1 (0)), .int .u64 (l2 (0)), .int .u64 (l3 (0)), .int .i64 (0), .bool false, .string ⟨#[]⟩, .int .i64 (2)]) rfl ⟨k2, rfl, (run_row Q2 28 0 10 [.int .i64 (4), .bool false, .int .u64 (l0 (0)), .int .u64 (l1 (0)), .int .u64 (l2 (0)), .int .u64 (l3 (0)), .int .i64 (0), .bool false, .string ⟨#[]⟩, .int .i64 (2)] rfl Try.underlying28 rfl sz28)⟩ ⟨rfl, M⟩
theorem rval_12a (S : Sm) (sc9 : Int) (qe : decide (S.e = 0) = false) : Calls Try.prog 17 #[.int .i64 12, smv S, .int .i64 sc9] w fun e w' => e = .returned (vl10 4 false 0 0 false ⟨#[]⟩ S.e) ∧ Mo w w' := by
  refine w_enter 69 Try.func17 Try.ntmps17 rfl rfl ?_
  have M : Mo w w := Mo.refl _
  refine w_seq ?_
  refine w_reg ?_
  refine wl_box 33 (.tmp 1) (.agg #[.int .i64 (S.r), .int .i64 (S.f), .int .i64 (S.k), .int .i64 (S.d), .int .i64 (S.e), .int .u64 (l0 (S.tt)), .int .u64 (l1 (S.tt)), .int .u64 (l2 (S.tt)), .int .u64 (l3 (S.tt)), .int .u64 (l4 (S.tt)), .bool S.so, .bool S.mn.b, .int .u64 (l0 (S.mn.n)), .int .u64 (l1 (S.mn.n)), .int .u64 (l2 (S.mn.n)), .int .u64 (l3 (S.mn.n)), .int .i64 (S.mn.s), .bool S.mx.b, .int .u64 (l0 (S.mx.n)), .int .u64 (l1 (S.mx.n)), .int .u64 (l2 (S.mx.n)), .int .u64 (l3 (S.mx.n)), .int .i64 (S.mx.s)]) (#[.int .i64 (S.r), .int .i64 (S.f), .int .i64 (S.k), .int .i64 (S.d), .int .i64 (S.e), .int .u64 (l0 (S.tt)), .int .u64 (l1 (S.tt)), .int .u64 (l2 (S.tt)), .int .u64 (l3 (S.tt)), .int .u64 (l4 (S.tt)), .bool S.so, .bool S.mn.b, .int .u64 (l0 (S.mn.n)), .int .u64 (l1 (S.mn.n)), .int .u64 (l2 (S.mn.n)), .int .u64 (l3 (S.mn.n)), .int .i64 (S.mn.s), .bool S.mx.b, .int .u64 (l0 (S.mx.n)), .int .u64 (l1 (S.mx.n)), .int .u64 (l2 (S.mx.n)), .int .u64 (l3 (S.mx.n)), .int .i64 (S.mx.s)]) rfl rfl (fun _ => by kernel_rfl) rfl ?_
  intro k1 w1 hk hz hq Q1
  have N_k1 : w.heap.size ≤ k1 := by have := M.size; omega
  replace M := M.trans hq
  clear hk hz hq
  refine wl_alloc 28 #[.int .i64 0, .bool false, .int .u64 0, .int .u64 0, .int .u64 0, .int .u64 0, .int .i64 0, .bool false, .string ⟨#[]⟩, .int .i64 0] rfl (fun _ => by kernel_rfl) rfl ?_
  intro k2 w2 hk hz hq Q2
  have ne_k1_k2 : k1 ≠ k2 := by have := Q1.lt; omega
  have N_k2 : w.heap.size ≤ k2 := by have := M.size; omega
  replace Q1 := Q1.mo hq
  replace M := M.trans hq
  clear hk hz hq
  refine w_nil ?_
  refine xn_then ?_
  refine w_seq ?_
  refine w_block ?_
  refine w_seq ?_
  refine w_reg ?_
  refine wl_mv (.tmp 0) (.int .i64 (12)) (fun _ => rfl) rfl rfl ?_
  refine wl_bin (fun x y => do eqGuard .eql 3 (.tmp 10) (.const (.int .i64 (16))) x y; binOp .eql 3 x y) (.tmp 10) (.const (.int .i64 (16))) (.int .i64 (12)) (.int .i64 (16)) (.bool false) (fun _ => rfl) rfl rfl (by kernel_rfl) rfl ?_
  refine wl_mv (.tmp 11) (.bool false) (fun _ => rfl) rfl rfl ?_
  refine w_nil ?_
  refine xn_then ?_
  refine w_condF rfl ?_
  refine w_seq ?_
  refine w_reg ?_
  refine wl_mv (.tmp 0) (.int .i64 (12)) (fun _ => rfl) rfl rfl ?_
  refine wl_bin (fun x y => do eqGuard .eql 3 (.tmp 16) (.const (.int .i64 (13))) x y; binOp .eql 3 x y) (.tmp 16) (.const (.int .i64 (13))) (.int .i64 (12)) (.int .i64 (13)) (.bool false) (fun _ => rfl) rfl rfl (by kernel_rfl) rfl ?_
  refine wl_mv (.tmp 17) (.bool false) (fun _ => rfl) rfl rfl ?_
  refine w_nil ?_
  refine xn_then ?_
  refine w_condF rfl ?_
  refine w_seq ?_
  refine w_reg ?_
  refine wl_mv (.tmp 0) (.int .i64 (12)) (fun _ => rfl) rfl rfl ?_
  refine wl_bin (fun x y => do eqGuard .neq 3 (.tmp 22) (.const (.int .i64 (12))) x y; binOp .neq 3 x y) (.tmp 22) (.const (.int .i64 (12))) (.int .i64 (12)) (.int .i64 (12)) (.bool false) (fun _ => rfl) rfl rfl (by kernel_rfl) rfl ?_
  refine wl_mv (.tmp 23) (.bool false) (fun _ => rfl) rfl rfl ?_
  refine wl_skip rfl ?_
  refine wl_skip rfl ?_
  refine wl_pick (.tmp 24) (.tmp 26) (.const (.bool false)) false (.bool false) (fun _ => rfl) rfl rfl rfl ?_
  refine wl_mv (.tmp 27) (.bool false) (fun _ => rfl) rfl rfl ?_
  refine wl_skip rfl ?_
  refine wl_skip rfl ?_
  refine wl_pick (.tmp 28) (.tmp 30) (.const (.bool false)) false (.bool false) (fun _ => rfl) rfl rfl rfl ?_
  refine wl_mv (.tmp 31) (.bool false) (fun _ => rfl) rfl rfl ?_
  refine w_nil ?_
  refine xn_then ?_
  refine w_condF rfl ?_
  refine w_seq ?_
  refine w_reg ?_
  refine wl_un (fun v => Instr.fieldAt 33 v 4) (.tmp 4) (pt k1 0) (pt k1 4) (fun _ => rfl) rfl (by kernel_rfl) rfl ?_
  refine wl_load 3 (.tmp 34) (pt k1 4) (.int .i64 (S.e)) rfl rfl (run_one Q1 3 4 rfl Try.underlying3 rfl) rfl ?_
  refine wl_bin (fun x y => do eqGuard .neq 3 (.tmp 35) (.const (.int .i64 (0))) x y; binOp .neq 3 x y) (.tmp 35) (.const (.int .i64 (0))) (.int .i64 (S.e)) (.int .i64 (0)) (.bool true) (fun _ => rfl) rfl rfl (neI qe _ _ _) rfl ?_
  refine wl_mv (.tmp 36) (.bool true) (fun _ => rfl) rfl rfl ?_
  refine w_nil ?_
  refine xn_then ?_
  refine w_condT rfl ?_
  refine w_seq ?_
  refine w_reg ?_
  refine wl_un (fun v => Instr.fieldAt 33 v 4) (.tmp 4) (pt k1 0) (pt k1 4) (fun _ => rfl) rfl (by kernel_rfl) rfl ?_
  refine wl_load 3 (.tmp 37) (pt k1 4) (.int .i64 (S.e)) rfl rfl (run_one Q1 3 4 rfl Try.underlying3 rfl) rfl ?_
  refine wl_call 36 [(.tmp 38)] _ [.int .i64 (S.e)] (.agg #[.int .i64 (4), .bool false, .int .u64 (l0 (0)), .int .u64 (l1 (0)), .int .u64 (l2 (0)), .int .u64 (l3 (0)), .int .i64 (0), .bool false, .string ⟨#[]⟩, .int .i64 (S.e)]) rfl rfl (fun _ _ => by kernel_rfl) (bad_n (S.e)) rfl ?_
  intro w3 hq
  replace Q1 := Q1.mo hq
  replace Q2 := Q2.mo hq
  replace M := M.trans hq
  clear hq
  refine wl_st 28 (.tmp 6) (.tmp 39) k2 0 #[.int .i64 (4), .bool false, .int .u64 (l0 (0)), .int .u64 (l1 (0)), .int .u64 (l2 (0)), .int .u64 (l3 (0)), .int .i64 (0), .bool false, .string ⟨#[]⟩, .int .i64 (S.e)] [.int .i64 0, .bool false, .int .u64 0, .int .u64 0, .int .u64 0, .int .u64 0, .int .i64 0, .bool false, .string ⟨#[]⟩, .int .i64 0] [.int .i64 (4), .bool false, .int .u64 (l0 (0)), .int .u64 (l1 (0)), .int .u64 (l2 (0)), .int .u64 (l3 (0)), .int .i64 (0), .bool false, .string ⟨#[]⟩, .int .i64 (S.e)] Q2 rfl rfl rfl rfl rfl sz28 rfl rfl rfl ?_
  intro w4 hS Qn
  replace Q2 := Qn
  clear Qn
  replace Q1 := hS.other _ _ ne_k1_k2 Q1
  replace M := hS.mo _ N_k2 M
  clear hS
  refine w_nil ?_
  refine xn_then ?_
  refine w_ret ?_
  refine xr_blk ?_
  refine xr_then ?_
  exact w_ret1 _ (.agg #[.int .i64 (4), .bool false, .int .u64 (l0 (0)), .int .u64 (l1 (0)), .int .u64 (l2 (0)), .int .u64 (l3 (0)), .int .i64 (0), .bool false, .string ⟨#[]⟩, .int .i64 (S.e)]) rfl ⟨k2, rfl, (run_row Q2 28 0 10 [.int .i64 (4), .bool false, .int .u64 (l0 (0)), .int .u64 (l1 (0)), .int .u64 (l2 (0)), .int .u64 (l3 (0)), .int .i64 (0), .bool false, .string ⟨#[]⟩, .int .i64 (S.e)] rfl Try.underlying28 rfl sz28)⟩ ⟨rfl, M⟩
theorem rval_12b (S : Sm) (sc9 : Int) (nb : Bool) (nn ns ec : Int) (h15 : ∀ w, Calls Try.prog 15 #[wv S.tt, .int .i64 sc9] w fun e w' => e = .returned (.tuple #[dc nb nn ns, .int .i64 ec]) ∧ Mo w w') (qe : decide (S.e = 0) = true) (hec : decide (ec = 0) = false) : Calls Try.prog 17 #[.int .i64 12, smv S, .int .i64 sc9] w fun e w' => e = .returned (vl10 4 false 0 0 false ⟨#[]⟩ 1) ∧ Mo w w' := by
  refine w_enter 69 Try.func17 Try.ntmps17 rfl rfl ?_
  have M : Mo w w := Mo.refl _
  refine w_seq ?_
  refine w_reg ?_
  refine wl_box 33 (.tmp 1) (.agg #[.int .i64 (S.r), .int .i64 (S.f), .int .i64 (S.k), .int .i64 (S.d), .int .i64 (S.e), .int .u64 (l0 (S.tt)), .int .u64 (l1 (S.tt)), .int .u64 (l2 (S.tt)), .int .u64 (l3 (S.tt)), .int .u64 (l4 (S.tt)), .bool S.so, .bool S.mn.b, .int .u64 (l0 (S.mn.n)), .int .u64 (l1 (S.mn.n)), .int .u64 (l2 (S.mn.n)), .int .u64 (l3 (S.mn.n)), .int .i64 (S.mn.s), .bool S.mx.b, .int .u64 (l0 (S.mx.n)), .int .u64 (l1 (S.mx.n)), .int .u64 (l2 (S.mx.n)), .int .u64 (l3 (S.mx.n)), .int .i64 (S.mx.s)]) (#[.int .i64 (S.r), .int .i64 (S.f), .int .i64 (S.k), .int .i64 (S.d), .int .i64 (S.e), .int .u64 (l0 (S.tt)), .int .u64 (l1 (S.tt)), .int .u64 (l2 (S.tt)), .int .u64 (l3 (S.tt)), .int .u64 (l4 (S.tt)), .bool S.so, .bool S.mn.b, .int .u64 (l0 (S.mn.n)), .int .u64 (l1 (S.mn.n)), .int .u64 (l2 (S.mn.n)), .int .u64 (l3 (S.mn.n)), .int .i64 (S.mn.s), .bool S.mx.b, .int .u64 (l0 (S.mx.n)), .int .u64 (l1 (S.mx.n)), .int .u64 (l2 (S.mx.n)), .int .u64 (l3 (S.mx.n)), .int .i64 (S.mx.s)]) rfl rfl (fun _ => by kernel_rfl) rfl ?_
  intro k1 w1 hk hz hq Q1
  have N_k1 : w.heap.size ≤ k1 := by have := M.size; omega
  replace M := M.trans hq
  clear hk hz hq
  refine wl_alloc 28 #[.int .i64 0, .bool false, .int .u64 0, .int .u64 0, .int .u64 0, .int .u64 0, .int .i64 0, .bool false, .string ⟨#[]⟩, .int .i64 0] rfl (fun _ => by kernel_rfl) rfl ?_
  intro k2 w2 hk hz hq Q2
  have ne_k1_k2 : k1 ≠ k2 := by have := Q1.lt; omega
  have N_k2 : w.heap.size ≤ k2 := by have := M.size; omega
  replace Q1 := Q1.mo hq
  replace M := M.trans hq
  clear hk hz hq
  refine w_nil ?_
  refine xn_then ?_
  refine w_seq ?_
  refine w_block ?_
  refine w_seq ?_
  refine w_reg ?_
  refine wl_mv (.tmp 0) (.int .i64 (12)) (fun _ => rfl) rfl rfl ?_
  refine wl_bin (fun x y => do eqGuard .eql 3 (.tmp 10) (.const (.int .i64 (16))) x y; binOp .eql 3 x y) (.tmp 10) (.const (.int .i64 (16))) (.int .i64 (12)) (.int .i64 (16)) (.bool false) (fun _ => rfl) rfl rfl (by kernel_rfl) rfl ?_
  refine wl_mv (.tmp 11) (.bool false) (fun _ => rfl) rfl rfl ?_
  refine w_nil ?_
  refine xn_then ?_
  refine w_condF rfl ?_
  refine w_seq ?_
  refine w_reg ?_
  refine wl_mv (.tmp 0) (.int .i64 (12)) (fun _ => rfl) rfl rfl ?_
  refine wl_bin (fun x y => do eqGuard .eql 3 (.tmp 16) (.const (.int .i64 (13))) x y; binOp .eql 3 x y) (.tmp 16) (.const (.int .i64 (13))) (.int .i64 (12)) (.int .i64 (13)) (.bool false) (fun _ => rfl) rfl rfl (by kernel_rfl) rfl ?_
  refine wl_mv (.tmp 17) (.bool false) (fun _ => rfl) rfl rfl ?_
  refine w_nil ?_
  refine xn_then ?_
  refine w_condF rfl ?_
  refine w_seq ?_
  refine w_reg ?_
  refine wl_mv (.tmp 0) (.int .i64 (12)) (fun _ => rfl) rfl rfl ?_
  refine wl_bin (fun x y => do eqGuard .neq 3 (.tmp 22) (.const (.int .i64 (12))) x y; binOp .neq 3 x y) (.tmp 22) (.const (.int .i64 (12))) (.int .i64 (12)) (.int .i64 (12)) (.bool false) (fun _ => rfl) rfl rfl (by kernel_rfl) rfl ?_
  refine wl_mv (.tmp 23) (.bool false) (fun _ => rfl) rfl rfl ?_
  refine wl_skip rfl ?_
  refine wl_skip rfl ?_
  refine wl_pick (.tmp 24) (.tmp 26) (.const (.bool false)) false (.bool false) (fun _ => rfl) rfl rfl rfl ?_
  refine wl_mv (.tmp 27) (.bool false) (fun _ => rfl) rfl rfl ?_
  refine wl_skip rfl ?_
  refine wl_skip rfl ?_
  refine wl_pick (.tmp 28) (.tmp 30) (.const (.bool false)) false (.bool false) (fun _ => rfl) rfl rfl rfl ?_
  refine wl_mv (.tmp 31) (.bool false) (fun _ => rfl) rfl rfl ?_
  refine w_nil ?_
  refine xn_then ?_
  refine w_condF rfl ?_
  refine w_seq ?_
  refine w_reg ?_
  refine wl_un (fun v => Instr.fieldAt 33 v 4) (.tmp 4) (pt k1 0) (pt k1 4) (fun _ => rfl) rfl (by kernel_rfl) rfl ?_
  refine wl_load 3 (.tmp 34) (pt k1 4) (.int .i64 (S.e)) rfl rfl (run_one Q1 3 4 rfl Try.underlying3 rfl) rfl ?_
  refine wl_bin (fun x y => do eqGuard .neq 3 (.tmp 35) (.const (.int .i64 (0))) x y; binOp .neq 3 x y) (.tmp 35) (.const (.int .i64 (0))) (.int .i64 (S.e)) (.int .i64 (0)) (.bool false) (fun _ => rfl) rfl rfl (neI qe _ _ _) rfl ?_
  refine wl_mv (.tmp 36) (.bool false) (fun _ => rfl) rfl rfl ?_
  refine w_nil ?_
  refine xn_then ?_
  refine w_condF rfl ?_
  refine w_seq ?_
  refine w_reg ?_
  refine wl_mv (.tmp 0) (.int .i64 (12)) (fun _ => rfl) rfl rfl ?_
  refine wl_bin (fun x y => do eqGuard .eql 3 (.tmp 41) (.const (.int .i64 (12))) x y; binOp .eql 3 x y) (.tmp 41) (.const (.int .i64 (12))) (.int .i64 (12)) (.int .i64 (12)) (.bool true) (fun _ => rfl) rfl rfl (by kernel_rfl) rfl ?_
  refine wl_mv (.tmp 42) (.bool true) (fun _ => rfl) rfl rfl ?_
  refine w_nil ?_
  refine xn_then ?_
  refine w_condT rfl ?_
  refine w_seq ?_
  refine w_reg ?_
  refine wl_un (fun v => Instr.fieldAt 33 v 5) (.tmp 4) (pt k1 0) (pt k1 5) (fun _ => rfl) rfl (by kernel_rfl) rfl ?_
  refine wl_load 31 (.tmp 44) (pt k1 5) (.agg #[.int .u64 (l0 (S.tt)), .int .u64 (l1 (S.tt)), .int .u64 (l2 (S.tt)), .int .u64 (l3 (S.tt)), .int .u64 (l4 (S.tt))]) rfl rfl (run_row Q1 31 5 5 [.int .u64 (l0 (S.tt)), .int .u64 (l1 (S.tt)), .int .u64 (l2 (S.tt)), .int .u64 (l3 (S.tt)), .int .u64 (l4 (S.tt))] rfl Try.underlying31 rfl sz31) rfl ?_
  refine wl_mv (.tmp 2) (.int .i64 (sc9)) (fun _ => rfl) rfl rfl ?_
  refine wl_call 15 [(.tmp 45), (.tmp 46)] _ [.agg #[.int .u64 (l0 (S.tt)), .int .u64 (l1 (S.tt)), .int .u64 (l2 (S.tt)), .int .u64 (l3 (S.tt)), .int .u64 (l4 (S.tt))], .int .i64 (sc9)] (.tuple #[.agg #[.bool nb, .int .u64 (l0 (nn)), .int .u64 (l1 (nn)), .int .u64 (l2 (nn)), .int .u64 (l3 (nn)), .int .i64 (ns)], .int .i64 (ec)]) rfl rfl (fun _ _ => by kernel_rfl) (h15 _) rfl ?_
  intro w3 hq
  replace Q1 := Q1.mo hq
  replace Q2 := Q2.mo hq
  replace M := M.trans hq
  clear hq
  refine wl_mv (.tmp 47) (.tuple #[.agg #[.bool nb, .int .u64 (l0 (nn)), .int .u64 (l1 (nn)), .int .u64 (l2 (nn)), .int .u64 (l3 (nn)), .int .i64 (ns)], .int .i64 (ec)]) (fun _ => rfl) rfl rfl ?_
  refine wl_un (fun v => Instr.extract v 0) (.tmp 43) (.tuple #[.agg #[.bool nb, .int .u64 (l0 (nn)), .int .u64 (l1 (nn)), .int .u64 (l2 (nn)), .int .u64 (l3 (nn)), .int .i64 (ns)], .int .i64 (ec)]) (.agg #[.bool nb, .int .u64 (l0 (nn)), .int .u64 (l1 (nn)), .int .u64 (l2 (nn)), .int .u64 (l3 (nn)), .int .i64 (ns)]) (fun _ => rfl) rfl (by kernel_rfl) rfl ?_
  refine wl_un (fun v => Instr.extract v 1) (.tmp 43) (.tuple #[.agg #[.bool nb, .int .u64 (l0 (nn)), .int .u64 (l1 (nn)), .int .u64 (l2 (nn)), .int .u64 (l3 (nn)), .int .i64 (ns)], .int .i64 (ec)]) (.int .i64 (ec)) (fun _ => rfl) rfl (by kernel_rfl) rfl ?_
  refine wl_alloc 26 #[.bool false, .int .u64 0, .int .u64 0, .int .u64 0, .int .u64 0, .int .i64 0] rfl (fun _ => by kernel_rfl) rfl ?_
  intro k3 w4 hk hz hq Q3
  have ne_k1_k3 : k1 ≠ k3 := by have := Q1.lt; omega
  have ne_k2_k3 : k2 ≠ k3 := by have := Q2.lt; omega
  have N_k3 : w.heap.size ≤ k3 := by have := M.size; omega
  replace Q1 := Q1.mo hq
  replace Q2 := Q2.mo hq
  replace M := M.trans hq
  clear hk hz hq
  refine wl_st 26 (.tmp 7) (.tmp 48) k3 0 #[.bool nb, .int .u64 (l0 (nn)), .int .u64 (l1 (nn)), .int .u64 (l2 (nn)), .int .u64 (l3 (nn)), .int .i64 (ns)] [.bool false, .int .u64 0, .int .u64 0, .int .u64 0, .int .u64 0, .int .i64 0] [.bool nb, .int .u64 (l0 (nn)), .int .u64 (l1 (nn)), .int .u64 (l2 (nn)), .int .u64 (l3 (nn)), .int .i64 (ns)] Q3 rfl rfl rfl rfl rfl sz26 rfl rfl rfl ?_
  intro w5 hS Qn
  replace Q3 := Qn
  clear Qn
  replace Q1 := hS.other _ _ ne_k1_k3 Q1
  replace Q2 := hS.other _ _ ne_k2_k3 Q2
  replace M := hS.mo _ N_k3 M
  clear hS
  refine wl_mv (.tmp 49) (.int .i64 (ec)) (fun _ => rfl) rfl rfl ?_
  refine w_nil ?_
  refine xn_then ?_
  refine w_seq ?_
  refine w_seq ?_
  refine w_reg ?_
  refine wl_mv (.tmp 8) (.int .i64 (ec)) (fun _ => rfl) rfl rfl ?_
  refine wl_bin (fun x y => do eqGuard .neq 40 (.tmp 50) (.const (.int .i64 (0))) x y; binOp .neq 40 x y) (.tmp 50) (.const (.int .i64 (0))) (.int .i64 (ec)) (.int .i64 (0)) (.bool true) (fun _ => rfl) rfl rfl (neE hec _ _ _) rfl ?_
  refine w_nil ?_
  refine xn_then ?_
  refine w_condT rfl ?_
  refine w_seq ?_
  refine w_reg ?_
  refine wl_call 36 [(.const (.int .i64 (1)))] _ [.int .i64 (1)] (.agg #[.int .i64 (4), .bool false, .int .u64 (l0 (0)), .int .u64 (l1 (0)), .int .u64 (l2 (0)), .int .u64 (l3 (0)), .int .i64 (0), .bool false, .string ⟨#[]⟩, .int .i64 (1)]) rfl rfl (fun _ _ => by kernel_rfl) (bad_n (1)) rfl ?_
  intro w6 hq
  replace Q1 := Q1.mo hq
  replace Q2 := Q2.mo hq
  replace Q3 := Q3.mo hq
  replace M := M.trans hq
  clear hq
  refine wl_st 28 (.tmp 6) (.tmp 52) k2 0 #[.int .i64 (4), .bool false, .int .u64 (l0 (0)), .int .u64 (l1 (0)), .int .u64 (l2 (0)), .int .u64 (l3 (0)), .int .i64 (0), .bool false, .string ⟨#[]⟩, .int .i64 (1)] [.int .i64 0, .bool false, .int .u64 0, .int .u64 0, .int .u64 0, .int .u64 0, .int .i64 0, .bool false, .string ⟨#[]⟩, .int .i64 0] [.int .i64 (4), .bool false, .int .u64 (l0 (0)), .int .u64 (l1 (0)), .int .u64 (l2 (0)), .int .u64 (l3 (0)), .int .i64 (0), .bool false, .string ⟨#[]⟩, .int .i64 (1)] Q2 rfl rfl rfl rfl rfl sz28 rfl rfl rfl ?_
  intro w7 hS Qn
  replace Q2 := Qn
  clear Qn
  replace Q1 := hS.other _ _ ne_k1_k2 Q1
  replace Q3 := hS.other _ _ ne_k2_k3.symm Q3
  replace M := hS.mo _ N_k2 M
  clear hS
  refine w_nil ?_
  refine xn_then ?_
  refine w_ret ?_
  refine xr_then ?_
  refine xr_blk ?_
  refine xr_then ?_
  exact w_ret1 _ (.agg #[.int .i64 (4), .bool false, .int .u64 (l0 (0)), .int .u64 (l1 (0)), .int .u64 (l2 (0)), .int .u64 (l3 (0)), .int .i64 (0), .bool false, .string ⟨#[]⟩, .int .i64 (1)]) rfl ⟨k2, rfl, (run_row Q2 28 0 10 [.int .i64 (4), .bool false, .int .u64 (l0 (0)), .int .u64 (l1 (0)), .int .u64 (l2 (0)), .int .u64 (l3 (0)), .int .i64 (0), .bool false, .string ⟨#[]⟩, .int .i64 (1)] rfl Try.underlying28 rfl sz28)⟩ ⟨rfl, M⟩
theorem rval_12c (S : Sm) (sc9 : Int) (nb : Bool) (nn ns ec : Int) (h15 : ∀ w, Calls Try.prog 15 #[wv S.tt, .int .i64 sc9] w fun e w' => e = .returned (.tuple #[dc nb nn ns, .int .i64 ec]) ∧ Mo w w') (qe : decide (S.e = 0) = true) (hec : decide (ec = 0) = true) : Calls Try.prog 17 #[.int .i64 12, smv S, .int .i64 sc9] w fun e w' => e = .returned (vl10 1 nb nn ns false ⟨#[]⟩ 0) ∧ Mo w w' := by
  refine w_enter 69 Try.func17 Try.ntmps17 rfl rfl ?_
  have M : Mo w w := Mo.refl _
  refine w_seq ?_
  refine w_reg ?_
  refine wl_box 33 (.tmp 1) (.agg #[.int .i64 (S.r), .int .i64 (S.f), .int .i64 (S.k), .int .i64 (S.d), .int .i64 (S.e), .int .u64 (l0 (S.tt)), .int .u64 (l1 (S.tt)), .int .u64 (l2 (S.tt)), .int .u64 (l3 (S.tt)), .int .u64 (l4 (S.tt)), .bool S.so, .bool S.mn.b, .int .u64 (l0 (S.mn.n)), .int .u64 (l1 (S.mn.n)), .int .u64 (l2 (S.mn.n)), .int .u64 (l3 (S.mn.n)), .int .i64 (S.mn.s), .bool S.mx.b, .int .u64 (l0 (S.mx.n)), .int .u64 (l1 (S.mx.n)), .int .u64 (l2 (S.mx.n)), .int .u64 (l3 (S.mx.n)), .int .i64 (S.mx.s)]) (#[.int .i64 (S.r), .int .i64 (S.f), .int .i64 (S.k), .int .i64 (S.d), .int .i64 (S.e), .int .u64 (l0 (S.tt)), .int .u64 (l1 (S.tt)), .int .u64 (l2 (S.tt)), .int .u64 (l3 (S.tt)), .int .u64 (l4 (S.tt)), .bool S.so, .bool S.mn.b, .int .u64 (l0 (S.mn.n)), .int .u64 (l1 (S.mn.n)), .int .u64 (l2 (S.mn.n)), .int .u64 (l3 (S.mn.n)), .int .i64 (S.mn.s), .bool S.mx.b, .int .u64 (l0 (S.mx.n)), .int .u64 (l1 (S.mx.n)), .int .u64 (l2 (S.mx.n)), .int .u64 (l3 (S.mx.n)), .int .i64 (S.mx.s)]) rfl rfl (fun _ => by kernel_rfl) rfl ?_
  intro k1 w1 hk hz hq Q1
  have N_k1 : w.heap.size ≤ k1 := by have := M.size; omega
  replace M := M.trans hq
  clear hk hz hq
  refine wl_alloc 28 #[.int .i64 0, .bool false, .int .u64 0, .int .u64 0, .int .u64 0, .int .u64 0, .int .i64 0, .bool false, .string ⟨#[]⟩, .int .i64 0] rfl (fun _ => by kernel_rfl) rfl ?_
  intro k2 w2 hk hz hq Q2
  have ne_k1_k2 : k1 ≠ k2 := by have := Q1.lt; omega
  have N_k2 : w.heap.size ≤ k2 := by have := M.size; omega
  replace Q1 := Q1.mo hq
  replace M := M.trans hq
  clear hk hz hq
  refine w_nil ?_
  refine xn_then ?_
  refine w_seq ?_
  refine w_block ?_
  refine w_seq ?_
  refine w_reg ?_
  refine wl_mv (.tmp 0) (.int .i64 (12)) (fun _ => rfl) rfl rfl ?_
  refine wl_bin (fun x y => do eqGuard .eql 3 (.tmp 10) (.const (.int .i64 (16))) x y; binOp .eql 3 x y) (.tmp 10) (.const (.int .i64 (16))) (.int .i64 (12)) (.int .i64 (16)) (.bool false) (fun _ => rfl) rfl rfl (by kernel_rfl) rfl ?_
  refine wl_mv (.tmp 11) (.bool false) (fun _ => rfl) rfl rfl ?_
  refine w_nil ?_
  refine xn_then ?_
  refine w_condF rfl ?_
  refine w_seq ?_
  refine w_reg ?_
  refine wl_mv (.tmp 0) (.int .i64 (12)) (fun _ => rfl) rfl rfl ?_
  refine wl_bin (fun x y => do eqGuard .eql 3 (.tmp 16) (.const (.int .i64 (13))) x y; binOp .eql 3 x y) (.tmp 16) (.const (.int .i64 (13))) (.int .i64 (12)) (.int .i64 (13)) (.bool false) (fun _ => rfl) rfl rfl (by kernel_rfl) rfl ?_
  refine wl_mv (.tmp 17) (.bool false) (fun _ => rfl) rfl rfl ?_
  refine w_nil ?_
  refine xn_then ?_
  refine w_condF rfl ?_
  refine w_seq ?_
  refine w_reg ?_
  refine wl_mv (.tmp 0) (.int .i64 (12)) (fun _ => rfl) rfl rfl ?_
  refine wl_bin (fun x y => do eqGuard .neq 3 (.tmp 22) (.const (.int .i64 (12))) x y; binOp .neq 3 x y) (.tmp 22) (.const (.int .i64 (12))) (.int .i64 (12)) (.int .i64 (12)) (.bool false) (fun _ => rfl) rfl rfl (by kernel_rfl) rfl ?_
  refine wl_mv (.tmp 23) (.bool false) (fun _ => rfl) rfl rfl ?_
  refine wl_skip rfl ?_
  refine wl_skip rfl ?_
  refine wl_pick (.tmp 24) (.tmp 26) (.const (.bool false)) false (.bool false) (fun _ => rfl) rfl rfl rfl ?_
  refine wl_mv (.tmp 27) (.bool false) (fun _ => rfl) rfl rfl ?_
  refine wl_skip rfl ?_
  refine wl_skip rfl ?_
  refine wl_pick (.tmp 28) (.tmp 30) (.const (.bool false)) false (.bool false) (fun _ => rfl) rfl rfl rfl ?_
  refine wl_mv (.tmp 31) (.bool false) (fun _ => rfl) rfl rfl ?_
  refine w_nil ?_
  refine xn_then ?_
  refine w_condF rfl ?_
  refine w_seq ?_
  refine w_reg ?_
  refine wl_un (fun v => Instr.fieldAt 33 v 4) (.tmp 4) (pt k1 0) (pt k1 4) (fun _ => rfl) rfl (by kernel_rfl) rfl ?_
  refine wl_load 3 (.tmp 34) (pt k1 4) (.int .i64 (S.e)) rfl rfl (run_one Q1 3 4 rfl Try.underlying3 rfl) rfl ?_
  refine wl_bin (fun x y => do eqGuard .neq 3 (.tmp 35) (.const (.int .i64 (0))) x y; binOp .neq 3 x y) (.tmp 35) (.const (.int .i64 (0))) (.int .i64 (S.e)) (.int .i64 (0)) (.bool false) (fun _ => rfl) rfl rfl (neI qe _ _ _) rfl ?_
  refine wl_mv (.tmp 36) (.bool false) (fun _ => rfl) rfl rfl ?_
  refine w_nil ?_
  refine xn_then ?_
  refine w_condF rfl ?_
  refine w_seq ?_
  refine w_reg ?_
  refine wl_mv (.tmp 0) (.int .i64 (12)) (fun _ => rfl) rfl rfl ?_
  refine wl_bin (fun x y => do eqGuard .eql 3 (.tmp 41) (.const (.int .i64 (12))) x y; binOp .eql 3 x y) (.tmp 41) (.const (.int .i64 (12))) (.int .i64 (12)) (.int .i64 (12)) (.bool true) (fun _ => rfl) rfl rfl (by kernel_rfl) rfl ?_
  refine wl_mv (.tmp 42) (.bool true) (fun _ => rfl) rfl rfl ?_
  refine w_nil ?_
  refine xn_then ?_
  refine w_condT rfl ?_
  refine w_seq ?_
  refine w_reg ?_
  refine wl_un (fun v => Instr.fieldAt 33 v 5) (.tmp 4) (pt k1 0) (pt k1 5) (fun _ => rfl) rfl (by kernel_rfl) rfl ?_
  refine wl_load 31 (.tmp 44) (pt k1 5) (.agg #[.int .u64 (l0 (S.tt)), .int .u64 (l1 (S.tt)), .int .u64 (l2 (S.tt)), .int .u64 (l3 (S.tt)), .int .u64 (l4 (S.tt))]) rfl rfl (run_row Q1 31 5 5 [.int .u64 (l0 (S.tt)), .int .u64 (l1 (S.tt)), .int .u64 (l2 (S.tt)), .int .u64 (l3 (S.tt)), .int .u64 (l4 (S.tt))] rfl Try.underlying31 rfl sz31) rfl ?_
  refine wl_mv (.tmp 2) (.int .i64 (sc9)) (fun _ => rfl) rfl rfl ?_
  refine wl_call 15 [(.tmp 45), (.tmp 46)] _ [.agg #[.int .u64 (l0 (S.tt)), .int .u64 (l1 (S.tt)), .int .u64 (l2 (S.tt)), .int .u64 (l3 (S.tt)), .int .u64 (l4 (S.tt))], .int .i64 (sc9)] (.tuple #[.agg #[.bool nb, .int .u64 (l0 (nn)), .int .u64 (l1 (nn)), .int .u64 (l2 (nn)), .int .u64 (l3 (nn)), .int .i64 (ns)], .int .i64 (ec)]) rfl rfl (fun _ _ => by kernel_rfl) (h15 _) rfl ?_
  intro w3 hq
  replace Q1 := Q1.mo hq
  replace Q2 := Q2.mo hq
  replace M := M.trans hq
  clear hq
  refine wl_mv (.tmp 47) (.tuple #[.agg #[.bool nb, .int .u64 (l0 (nn)), .int .u64 (l1 (nn)), .int .u64 (l2 (nn)), .int .u64 (l3 (nn)), .int .i64 (ns)], .int .i64 (ec)]) (fun _ => rfl) rfl rfl ?_
  refine wl_un (fun v => Instr.extract v 0) (.tmp 43) (.tuple #[.agg #[.bool nb, .int .u64 (l0 (nn)), .int .u64 (l1 (nn)), .int .u64 (l2 (nn)), .int .u64 (l3 (nn)), .int .i64 (ns)], .int .i64 (ec)]) (.agg #[.bool nb, .int .u64 (l0 (nn)), .int .u64 (l1 (nn)), .int .u64 (l2 (nn)), .int .u64 (l3 (nn)), .int .i64 (ns)]) (fun _ => rfl) rfl (by kernel_rfl) rfl ?_
  refine wl_un (fun v => Instr.extract v 1) (.tmp 43) (.tuple #[.agg #[.bool nb, .int .u64 (l0 (nn)), .int .u64 (l1 (nn)), .int .u64 (l2 (nn)), .int .u64 (l3 (nn)), .int .i64 (ns)], .int .i64 (ec)]) (.int .i64 (ec)) (fun _ => rfl) rfl (by kernel_rfl) rfl ?_
  refine wl_alloc 26 #[.bool false, .int .u64 0, .int .u64 0, .int .u64 0, .int .u64 0, .int .i64 0] rfl (fun _ => by kernel_rfl) rfl ?_
  intro k3 w4 hk hz hq Q3
  have ne_k1_k3 : k1 ≠ k3 := by have := Q1.lt; omega
  have ne_k2_k3 : k2 ≠ k3 := by have := Q2.lt; omega
  have N_k3 : w.heap.size ≤ k3 := by have := M.size; omega
  replace Q1 := Q1.mo hq
  replace Q2 := Q2.mo hq
  replace M := M.trans hq
  clear hk hz hq
  refine wl_st 26 (.tmp 7) (.tmp 48) k3 0 #[.bool nb, .int .u64 (l0 (nn)), .int .u64 (l1 (nn)), .int .u64 (l2 (nn)), .int .u64 (l3 (nn)), .int .i64 (ns)] [.bool false, .int .u64 0, .int .u64 0, .int .u64 0, .int .u64 0, .int .i64 0] [.bool nb, .int .u64 (l0 (nn)), .int .u64 (l1 (nn)), .int .u64 (l2 (nn)), .int .u64 (l3 (nn)), .int .i64 (ns)] Q3 rfl rfl rfl rfl rfl sz26 rfl rfl rfl ?_
  intro w5 hS Qn
  replace Q3 := Qn
  clear Qn
  replace Q1 := hS.other _ _ ne_k1_k3 Q1
  replace Q2 := hS.other _ _ ne_k2_k3 Q2
  replace M := hS.mo _ N_k3 M
  clear hS
  refine wl_mv (.tmp 49) (.int .i64 (ec)) (fun _ => rfl) rfl rfl ?_
  refine w_nil ?_
  refine xn_then ?_
  refine w_seq ?_
  refine w_seq ?_
  refine w_reg ?_
  refine wl_mv (.tmp 8) (.int .i64 (ec)) (fun _ => rfl) rfl rfl ?_
  refine wl_bin (fun x y => do eqGuard .neq 40 (.tmp 50) (.const (.int .i64 (0))) x y; binOp .neq 40 x y) (.tmp 50) (.const (.int .i64 (0))) (.int .i64 (ec)) (.int .i64 (0)) (.bool false) (fun _ => rfl) rfl rfl (neE hec _ _ _) rfl ?_
  refine w_nil ?_
  refine xn_then ?_
  refine w_condF rfl ?_
  refine w_skip ?_
  refine xn_then ?_
  refine w_seq ?_
  refine w_reg ?_
  refine wl_load 26 (.tmp 7) (pt k3 0) (.agg #[.bool nb, .int .u64 (l0 (nn)), .int .u64 (l1 (nn)), .int .u64 (l2 (nn)), .int .u64 (l3 (nn)), .int .i64 (ns)]) rfl rfl (run_row Q3 26 0 6 [.bool nb, .int .u64 (l0 (nn)), .int .u64 (l1 (nn)), .int .u64 (l2 (nn)), .int .u64 (l3 (nn)), .int .i64 (ns)] rfl Try.underlying26 rfl sz26) rfl ?_
  refine wl_build 28 [(0, (.const (.int .i64 (1)))), (1, (.tmp 53))] [(0, .int .i64 (1)), (1, .agg #[.bool nb, .int .u64 (l0 (nn)), .int .u64 (l1 (nn)), .int .u64 (l2 (nn)), .int .u64 (l3 (nn)), .int .i64 (ns)])] (.agg #[.int .i64 (1), .bool nb, .int .u64 (l0 (nn)), .int .u64 (l1 (nn)), .int .u64 (l2 (nn)), .int .u64 (l3 (nn)), .int .i64 (ns), .bool false, .string ⟨#[]⟩, .int .i64 0]) rfl rfl (by kernel_rfl) rfl ?_
  refine wl_st 28 (.tmp 6) (.tmp 54) k2 0 #[.int .i64 (1), .bool nb, .int .u64 (l0 (nn)), .int .u64 (l1 (nn)), .int .u64 (l2 (nn)), .int .u64 (l3 (nn)), .int .i64 (ns), .bool false, .string ⟨#[]⟩, .int .i64 0] [.int .i64 0, .bool false, .int .u64 0, .int .u64 0, .int .u64 0, .int .u64 0, .int .i64 0, .bool false, .string ⟨#[]⟩, .int .i64 0] [.int .i64 (1), .bool nb, .int .u64 (l0 (nn)), .int .u64 (l1 (nn)), .int .u64 (l2 (nn)), .int .u64 (l3 (nn)), .int .i64 (ns), .bool false, .string ⟨#[]⟩, .int .i64 0] Q2 rfl rfl rfl rfl rfl sz28 rfl rfl rfl ?_
  intro w6 hS Qn
  replace Q2 := Qn
  clear Qn
  replace Q1 := hS.other _ _ ne_k1_k2 Q1
  replace Q3 := hS.other _ _ ne_k2_k3.symm Q3
  replace M := hS.mo _ N_k2 M
  clear hS
  refine w_nil ?_
  refine xn_then ?_
  refine w_ret ?_
  refine xr_blk ?_
  refine xr_then ?_
  exact w_ret1 _ (.agg #[.int .i64 (1), .bool nb, .int .u64 (l0 (nn)), .int .u64 (l1 (nn)), .int .u64 (l2 (nn)), .int .u64 (l3 (nn)), .int .i64 (ns), .bool false, .string ⟨#[]⟩, .int .i64 0]) rfl ⟨k2, rfl, (run_row Q2 28 0 10 [.int .i64 (1), .bool nb, .int .u64 (l0 (nn)), .int .u64 (l1 (nn)), .int .u64 (l2 (nn)), .int .u64 (l3 (nn)), .int .i64 (ns), .bool false, .string ⟨#[]⟩, .int .i64 0] rfl Try.underlying28 rfl sz28)⟩ ⟨rfl, M⟩
theorem rval_14a (S : Sm) (sc9 : Int) (qe : decide (S.e = 0) = false) : Calls Try.prog 17 #[.int .i64 14, smv S, .int .i64 sc9] w fun e w' => e = .returned (vl10 4 false 0 0 false ⟨#[]⟩ S.e) ∧ Mo w w' := by
  refine w_enter 69 Try.func17 Try.ntmps17 rfl rfl ?_
  have M : Mo w w := Mo.refl _
  refine w_seq ?_
  refine w_reg ?_
  refine wl_box 33 (.tmp 1) (.agg #[.int .i64 (S.r), .int .i64 (S.f), .int .i64 (S.k), .int .i64 (S.d), .int .i64 (S.e), .int .u64 (l0 (S.tt)), .int .u64 (l1 (S.tt)), .int .u64 (l2 (S.tt)), .int .u64 (l3 (S.tt)), .int .u64 (l4 (S.tt)), .bool S.so, .bool S.mn.b, .int .u64 (l0 (S.mn.n)), .int .u64 (l1 (S.mn.n)), .int .u64 (l2 (S.mn.n)), .int .u64 (l3 (S.mn.n)), .int .i64 (S.mn.s), .bool S.mx.b, .int .u64 (l0 (S.mx.n)), .int .u64 (l1 (S.mx.n)), .int .u64 (l2 (S.mx.n)), .int .u64 (l3 (S.mx.n)), .int .i64 (S.mx.s)]) (#[.int .i64 (S.r), .int .i64 (S.f), .int .i64 (S.k), .int .i64 (S.d), .int .i64 (S.e), .int .u64 (l0 (S.tt)), .int .u64 (l1 (S.tt)), .int .u64 (l2 (S.tt)), .int .u64 (l3 (S.tt)), .int .u64 (l4 (S.tt)), .bool S.so, .bool S.mn.b, .int .u64 (l0 (S.mn.n)), .int .u64 (l1 (S.mn.n)), .int .u64 (l2 (S.mn.n)), .int .u64 (l3 (S.mn.n)), .int .i64 (S.mn.s), .bool S.mx.b, .int .u64 (l0 (S.mx.n)), .int .u64 (l1 (S.mx.n)), .int .u64 (l2 (S.mx.n)), .int .u64 (l3 (S.mx.n)), .int .i64 (S.mx.s)]) rfl rfl (fun _ => by kernel_rfl) rfl ?_
  intro k1 w1 hk hz hq Q1
  have N_k1 : w.heap.size ≤ k1 := by have := M.size; omega
  replace M := M.trans hq
  clear hk hz hq
  refine wl_alloc 28 #[.int .i64 0, .bool false, .int .u64 0, .int .u64 0, .int .u64 0, .int .u64 0, .int .i64 0, .bool false, .string ⟨#[]⟩, .int .i64 0] rfl (fun _ => by kernel_rfl) rfl ?_
  intro k2 w2 hk hz hq Q2
  have ne_k1_k2 : k1 ≠ k2 := by have := Q1.lt; omega
  have N_k2 : w.heap.size ≤ k2 := by have := M.size; omega
  replace Q1 := Q1.mo hq
  replace M := M.trans hq
  clear hk hz hq
  refine w_nil ?_
  refine xn_then ?_
  refine w_seq ?_
  refine w_block ?_
  refine w_seq ?_
  refine w_reg ?_
  refine wl_mv (.tmp 0) (.int .i64 (14)) (fun _ => rfl) rfl rfl ?_
  refine wl_bin (fun x y => do eqGuard .eql 3 (.tmp 10) (.const (.int .i64 (16))) x y; binOp .eql 3 x y) (.tmp 10) (.const (.int .i64 (16))) (.int .i64 (14)) (.int .i64 (16)) (.bool false) (fun _ => rfl) rfl rfl (by kernel_rfl) rfl ?_
  refine wl_mv (.tmp 11) (.bool false) (fun _ => rfl) rfl rfl ?_
  refine w_nil ?_
  refine xn_then ?_
  refine w_condF rfl ?_
  refine w_seq ?_
  refine w_reg ?_
  refine wl_mv (.tmp 0) (.int .i64 (14)) (fun _ => rfl) rfl rfl ?_
  refine wl_bin (fun x y => do eqGuard .eql 3 (.tmp 16) (.const (.int .i64 (13))) x y; binOp .eql 3 x y) (.tmp 16) (.const (.int .i64 (13))) (.int .i64 (14)) (.int .i64 (13)) (.bool false) (fun _ => rfl) rfl rfl (by kernel_rfl) rfl ?_
  refine wl_mv (.tmp 17) (.bool false) (fun _ => rfl) rfl rfl ?_
  refine w_nil ?_
  refine xn_then ?_
  refine w_condF rfl ?_
  refine w_seq ?_
  refine w_reg ?_
  refine wl_mv (.tmp 0) (.int .i64 (14)) (fun _ => rfl) rfl rfl ?_
  refine wl_bin (fun x y => do eqGuard .neq 3 (.tmp 22) (.const (.int .i64 (12))) x y; binOp .neq 3 x y) (.tmp 22) (.const (.int .i64 (12))) (.int .i64 (14)) (.int .i64 (12)) (.bool true) (fun _ => rfl) rfl rfl (by kernel_rfl) rfl ?_
  refine wl_mv (.tmp 23) (.bool true) (fun _ => rfl) rfl rfl ?_
  refine wl_mv (.tmp 0) (.int .i64 (14)) (fun _ => rfl) rfl rfl ?_
  refine wl_bin (fun x y => do eqGuard .neq 3 (.tmp 25) (.const (.int .i64 (14))) x y; binOp .neq 3 x y) (.tmp 25) (.const (.int .i64 (14))) (.int .i64 (14)) (.int .i64 (14)) (.bool false) (fun _ => rfl) rfl rfl (by kernel_rfl) rfl ?_
  refine wl_pick (.tmp 24) (.tmp 26) (.const (.bool false)) true (.bool false) (fun _ => rfl) rfl rfl rfl ?_
  refine wl_mv (.tmp 27) (.bool false) (fun _ => rfl) rfl rfl ?_
  refine wl_skip rfl ?_
  refine wl_skip rfl ?_
  refine wl_pick (.tmp 28) (.tmp 30) (.const (.bool false)) false (.bool false) (fun _ => rfl) rfl rfl rfl ?_
  refine wl_mv (.tmp 31) (.bool false) (fun _ => rfl) rfl rfl ?_
  refine w_nil ?_
  refine xn_then ?_
  refine w_condF rfl ?_
  refine w_seq ?_
  refine w_reg ?_
  refine wl_un (fun v => Instr.fieldAt 33 v 4) (.tmp 4) (pt k1 0) (pt k1 4) (fun _ => rfl) rfl (by kernel_rfl) rfl ?_
  refine wl_load 3 (.tmp 34) (pt k1 4) (.int .i64 (S.e)) rfl rfl (run_one Q1 3 4 rfl Try.underlying3 rfl) rfl ?_
  refine wl_bin (fun x y => do eqGuard .neq 3 (.tmp 35) (.const (.int .i64 (0))) x y; binOp .neq 3 x y) (.tmp 35) (.const (.int .i64 (0))) (.int .i64 (S.e)) (.int .i64 (0)) (.bool true) (fun _ => rfl) rfl rfl (neI qe _ _ _) rfl ?_
  refine wl_mv (.tmp 36) (.bool true) (fun _ => rfl) rfl rfl ?_
  refine w_nil ?_
  refine xn_then ?_
  refine w_condT rfl ?_
  refine w_seq ?_
  refine w_reg ?_
  refine wl_un (fun v => Instr.fieldAt 33 v 4) (.tmp 4) (pt k1 0) (pt k1 4) (fun _ => rfl) rfl (by kernel_rfl) rfl ?_
  refine wl_load 3 (.tmp 37) (pt k1 4) (.int .i64 (S.e)) rfl rfl (run_one Q1 3 4 rfl Try.underlying3 rfl) rfl ?_
  refine wl_call 36 [(.tmp 38)] _ [.int .i64 (S.e)] (.agg #[.int .i64 (4), .bool false, .int .u64 (l0 (0)), .int .u64 (l1 (0)), .int .u64 (l2 (0)), .int .u64 (l3 (0)), .int .i64 (0), .bool false, .string ⟨#[]⟩, .int .i64 (S.e)]) rfl rfl (fun _ _ => by kernel_rfl) (bad_n (S.e)) rfl ?_
  intro w3 hq
  replace Q1 := Q1.mo hq
  replace Q2 := Q2.mo hq
  replace M := M.trans hq
  clear hq
  refine wl_st 28 (.tmp 6) (.tmp 39) k2 0 #[.int .i64 (4), .bool false, .int .u64 (l0 (0)), .int .u64 (l1 (0)), .int .u64 (l2 (0)), .int .u64 (l3 (0)), .int .i64 (0), .bool false, .string ⟨#[]⟩, .int .i64 (S.e)] [.int .i64 0, .bool false, .int .u64 0, .int .u64 0, .int .u64 0, .int .u64 0, .int .i64 0, .bool false, .string ⟨#[]⟩, .int .i64 0] [.int .i64 (4), .bool false, .int .u64 (l0 (0)), .int .u64 (l1 (0)), .int .u64 (l2 (0)), .int .u64 (l3 (0)), .int .i64 (0), .bool false, .string ⟨#[]⟩, .int .i64 (S.e)] Q2 rfl rfl rfl rfl rfl sz28 rfl rfl rfl ?_
  intro w4 hS Qn
  replace Q2 := Qn
  clear Qn
  replace Q1 := hS.other _ _ ne_k1_k2 Q1
  replace M := hS.mo _ N_k2 M
  clear hS
  refine w_nil ?_
  refine xn_then ?_
  refine w_ret ?_
  refine xr_blk ?_
  refine xr_then ?_
  exact w_ret1 _ (.agg #[.int .i64 (4), .bool false, .int .u64 (l0 (0)), .int .u64 (l1 (0)), .int .u64 (l2 (0)), .int .u64 (l3 (0)), .int .i64 (0), .bool false, .string ⟨#[]⟩, .int .i64 (S.e)]) rfl ⟨k2, rfl, (run_row Q2 28 0 10 [.int .i64 (4), .bool false, .int .u64 (l0 (0)), .int .u64 (l1 (0)), .int .u64 (l2 (0)), .int .u64 (l3 (0)), .int .i64 (0), .bool false, .string ⟨#[]⟩, .int .i64 (S.e)] rfl Try.underlying28 rfl sz28)⟩ ⟨rfl, M⟩
theorem rval_14d (S : Sm) (sc9 : Int) (hso : S.so = false) (qe : decide (S.e = 0) = true) : Calls Try.prog 17 #[.int .i64 14, smv S, .int .i64 sc9] w fun e w' => e = .returned (vl10 4 false 0 0 false ⟨#[]⟩ 4) ∧ Mo w w' := by
  unfold smv
  rw [hso]
  refine w_enter 69 Try.func17 Try.ntmps17 rfl rfl ?_
  have M : Mo w w := Mo.refl _
  refine w_seq ?_
  refine w_reg ?_
  refine wl_box 33 (.tmp 1) (.agg #[.int .i64 (S.r), .int .i64 (S.f), .int .i64 (S.k), .int .i64 (S.d), .int .i64 (S.e), .int .u64 (l0 (S.tt)), .int .u64 (l1 (S.tt)), .int .u64 (l2 (S.tt)), .int .u64 (l3 (S.tt)), .int .u64 (l4 (S.tt)), .bool false, .bool S.mn.b, .int .u64 (l0 (S.mn.n)), .int .u64 (l1 (S.mn.n)), .int .u64 (l2 (S.mn.n)), .int .u64 (l3 (S.mn.n)), .int .i64 (S.mn.s), .bool S.mx.b, .int .u64 (l0 (S.mx.n)), .int .u64 (l1 (S.mx.n)), .int .u64 (l2 (S.mx.n)), .int .u64 (l3 (S.mx.n)), .int .i64 (S.mx.s)]) (#[.int .i64 (S.r), .int .i64 (S.f), .int .i64 (S.k), .int .i64 (S.d), .int .i64 (S.e), .int .u64 (l0 (S.tt)), .int .u64 (l1 (S.tt)), .int .u64 (l2 (S.tt)), .int .u64 (l3 (S.tt)), .int .u64 (l4 (S.tt)), .bool false, .bool S.mn.b, .int .u64 (l0 (S.mn.n)), .int .u64 (l1 (S.mn.n)), .int .u64 (l2 (S.mn.n)), .int .u64 (l3 (S.mn.n)), .int .i64 (S.mn.s), .bool S.mx.b, .int .u64 (l0 (S.mx.n)), .int .u64 (l1 (S.mx.n)), .int .u64 (l2 (S.mx.n)), .int .u64 (l3 (S.mx.n)), .int .i64 (S.mx.s)]) rfl rfl (fun _ => by kernel_rfl) rfl ?_
  intro k1 w1 hk hz hq Q1
  have N_k1 : w.heap.size ≤ k1 := by have := M.size; omega
  replace M := M.trans hq
  clear hk hz hq
  refine wl_alloc 28 #[.int .i64 0, .bool false, .int .u64 0, .int .u64 0, .int .u64 0, .int .u64 0, .int .i64 0, .bool false, .string ⟨#[]⟩, .int .i64 0] rfl (fun _ => by kernel_rfl) rfl ?_
  intro k2 w2 hk hz hq Q2
  have ne_k1_k2 : k1 ≠ k2 := by have := Q1.lt; omega
  have N_k2 : w.heap.size ≤ k2 := by have := M.size; omega
  replace Q1 := Q1.mo hq
  replace M := M.trans hq
  clear hk hz hq
  refine w_nil ?_
  refine xn_then ?_
  refine w_seq ?_
  refine w_block ?_
  refine w_seq ?_
  refine w_reg ?_
  refine wl_mv (.tmp 0) (.int .i64 (14)) (fun _ => rfl) rfl rfl ?_
  refine wl_bin (fun x y => do eqGuard .eql 3 (.tmp 10) (.const (.int .i64 (16))) x y; binOp .eql 3 x y) (.tmp 10) (.const (.int .i64 (16))) (.int .i64 (14)) (.int .i64 (16)) (.bool false) (fun _ => rfl) rfl rfl (by kernel_rfl) rfl ?_
  refine wl_mv (.tmp 11) (.bool false) (fun _ => rfl) rfl rfl ?_
  refine w_nil ?_
  refine xn_then ?_
  refine w_condF rfl ?_
  refine w_seq ?_
  refine w_reg ?_
  refine wl_mv (.tmp 0) (.int .i64 (14)) (fun _ => rfl) rfl rfl ?_
  refine wl_bin (fun x y => do eqGuard .eql 3 (.tmp 16) (.const (.int .i64 (13))) x y; binOp .eql 3 x y) (.tmp 16) (.const (.int .i64 (13))) (.int .i64 (14)) (.int .i64 (13)) (.bool false) (fun _ => rfl) rfl rfl (by kernel_rfl) rfl ?_
  refine wl_mv (.tmp 17) (.bool false) (fun _ => rfl) rfl rfl ?_
  refine w_nil ?_
  refine xn_then ?_
  refine w_condF rfl ?_
  refine w_seq ?_
  refine w_reg ?_
  refine wl_mv (.tmp 0) (.int .i64 (14)) (fun _ => rfl) rfl rfl ?_
  refine wl_bin (fun x y => do eqGuard .neq 3 (.tmp 22) (.const (.int .i64 (12))) x y; binOp .neq 3 x y) (.tmp 22) (.const (.int .i64 (12))) (.int .i64 (14)) (.int .i64 (12)) (.bool true) (fun _ => rfl) rfl rfl (by kernel_rfl) rfl ?_
  refine wl_mv (.tmp 23) (.bool true) (fun _ => rfl) rfl rfl ?_
  refine wl_mv (.tmp 0) (.int .i64 (14)) (fun _ => rfl) rfl rfl ?_
  refine wl_bin (fun x y => do eqGuard .neq 3 (.tmp 25) (.const (.int .i64 (14))) x y; binOp .neq 3 x y) (.tmp 25) (.const (.int .i64 (14))) (.int .i64 (14)) (.int .i64 (14)) (.bool false) (fun _ => rfl) rfl rfl (by kernel_rfl) rfl ?_
  refine wl_pick (.tmp 24) (.tmp 26) (.const (.bool false)) true (.bool false) (fun _ => rfl) rfl rfl rfl ?_
  refine wl_mv (.tmp 27) (.bool false) (fun _ => rfl) rfl rfl ?_
  refine wl_skip rfl ?_
  refine wl_skip rfl ?_
  refine wl_pick (.tmp 28) (.tmp 30) (.const (.bool false)) false (.bool false) (fun _ => rfl) rfl rfl rfl ?_
  refine wl_mv (.tmp 31) (.bool false) (fun _ => rfl) rfl rfl ?_
  refine w_nil ?_
  refine xn_then ?_
  refine w_condF rfl ?_
  refine w_seq ?_
  refine w_reg ?_
  refine wl_un (fun v => Instr.fieldAt 33 v 4) (.tmp 4) (pt k1 0) (pt k1 4) (fun _ => rfl) rfl (by kernel_rfl) rfl ?_
  refine wl_load 3 (.tmp 34) (pt k1 4) (.int .i64 (S.e)) rfl rfl (run_one Q1 3 4 rfl Try.underlying3 rfl) rfl ?_
  refine wl_bin (fun x y => do eqGuard .neq 3 (.tmp 35) (.const (.int .i64 (0))) x y; binOp .neq 3 x y) (.tmp 35) (.const (.int .i64 (0))) (.int .i64 (S.e)) (.int .i64 (0)) (.bool false) (fun _ => rfl) rfl rfl (neI qe _ _ _) rfl ?_
  refine wl_mv (.tmp 36) (.bool false) (fun _ => rfl) rfl rfl ?_
  refine w_nil ?_
  refine xn_then ?_
  refine w_condF rfl ?_
  refine w_seq ?_
  refine w_reg ?_
  refine wl_mv (.tmp 0) (.int .i64 (14)) (fun _ => rfl) rfl rfl ?_
  refine wl_bin (fun x y => do eqGuard .eql 3 (.tmp 41) (.const (.int .i64 (12))) x y; binOp .eql 3 x y) (.tmp 41) (.const (.int .i64 (12))) (.int .i64 (14)) (.int .i64 (12)) (.bool false) (fun _ => rfl) rfl rfl (by kernel_rfl) rfl ?_
  refine wl_mv (.tmp 42) (.bool false) (fun _ => rfl) rfl rfl ?_
  refine w_nil ?_
  refine xn_then ?_
  refine w_condF rfl ?_
  refine w_seq ?_
  refine w_reg ?_
  refine wl_un (fun v => Instr.fieldAt 33 v 6) (.tmp 4) (pt k1 0) (pt k1 10) (fun _ => rfl) rfl (by kernel_rfl) rfl ?_
  refine wl_load 4 (.tmp 56) (pt k1 10) (.bool false) rfl rfl (run_one Q1 4 10 rfl Try.underlying4 rfl) rfl ?_
  refine wl_un (fun v => Op.unary .not v) (.tmp 57) (.bool false) (.bool true) (fun _ => rfl) rfl (by kernel_rfl) rfl ?_
  refine wl_mv (.tmp 58) (.bool true) (fun _ => rfl) rfl rfl ?_
  refine w_nil ?_
  refine xn_then ?_
  refine w_condT rfl ?_
  refine w_seq ?_
  refine w_reg ?_
  refine wl_call 36 [(.const (.int .i64 (4)))] _ [.int .i64 (4)] (.agg #[.int .i64 (4), .bool false, .int .u64 (l0 (0)), .int .u64 (l1 (0)), .int .u64 (l2 (0)), .int .u64 (l3 (0)), .int .i64 (0), .bool false, .string ⟨#[]⟩, .int .i64 (4)]) rfl rfl (fun _ _ => by kernel_rfl) (bad_n (4)) rfl ?_
  intro w3 hq
  replace Q1 := Q1.mo hq
  replace Q2 := Q2.mo hq
  replace M := M.trans hq
  clear hq
  refine wl_st 28 (.tmp 6) (.tmp 59) k2 0 #[.int .i64 (4), .bool false, .int .u64 (l0 (0)), .int .u64 (l1 (0)), .int .u64 (l2 (0)), .int .u64 (l3 (0)), .int .i64 (0), .bool false, .string ⟨#[]⟩, .int .i64 (4)] [.int .i64 0, .bool false, .int .u64 0, .int .u64 0, .int .u64 0, .int .u64 0, .int .i64 0, .bool false, .string ⟨#[]⟩, .int .i64 0] [.int .i64 (4), .bool false, .int .u64 (l0 (0)), .int .u64 (l1 (0)), .int .u64 (l2 (0)), .int .u64 (l3 (0)), .int .i64 (0), .bool false, .string ⟨#[]⟩, .int .i64 (4)] Q2 rfl rfl rfl rfl rfl sz28 rfl rfl rfl ?_
  intro w4 hS Qn
  replace Q2 := Qn
  clear Qn
  replace Q1 := hS.other _ _ ne_k1_k2 Q1
  replace M := hS.mo _ N_k2 M
  clear hS
  refine w_nil ?_
  refine xn_then ?_
  refine w_ret ?_
  refine xr_blk ?_
  refine xr_then ?_
  exact w_ret1 _ (.agg #[.int .i64 (4), .bool false, .int .u64 (l0 (0)), .int .u64 (l1 (0)), .int .u64 (l2 (0)), .int .u64 (l3 (0)), .int .i64 (0), .bool false, .string ⟨#[]⟩, .int .i64 (4)]) rfl ⟨k2, rfl, (run_row Q2 28 0 10 [.int .i64 (4), .bool false, .int .u64 (l0 (0)), .int .u64 (l1 (0)), .int .u64 (l2 (0)), .int .u64 (l3 (0)), .int .i64 (0), .bool false, .string ⟨#[]⟩, .int .i64 (4)] rfl Try.underlying28 rfl sz28)⟩ ⟨rfl, M⟩
theorem rval_14f (S : Sm) (sc9 : Int) (hso : S.so = true) (qe : decide (S.e = 0) = true) : Calls Try.prog 17 #[.int .i64 14, smv S, .int .i64 sc9] w fun e w' => e = .returned (vl10 1 S.mn.b S.mn.n S.mn.s false ⟨#[]⟩ 0) ∧ Mo w w' := by
  unfold smv
  rw [hso]
  refine w_enter 69 Try.func17 Try.ntmps17 rfl rfl ?_
  have M : Mo w w := Mo.refl _
  refine w_seq ?_
  refine w_reg ?_
  refine wl_box 33 (.tmp 1) (.agg #[.int .i64 (S.r), .int .i64 (S.f), .int .i64 (S.k), .int .i64 (S.d), .int .i64 (S.e), .int .u64 (l0 (S.tt)), .int .u64 (l1 (S.tt)), .int .u64 (l2 (S.tt)), .int .u64 (l3 (S.tt)), .int .u64 (l4 (S.tt)), .bool true, .bool S.mn.b, .int .u64 (l0 (S.mn.n)), .int .u64 (l1 (S.mn.n)), .int .u64 (l2 (S.mn.n)), .int .u64 (l3 (S.mn.n)), .int .i64 (S.mn.s), .bool S.mx.b, .int .u64 (l0 (S.mx.n)), .int .u64 (l1 (S.mx.n)), .int .u64 (l2 (S.mx.n)), .int .u64 (l3 (S.mx.n)), .int .i64 (S.mx.s)]) (#[.int .i64 (S.r), .int .i64 (S.f), .int .i64 (S.k), .int .i64 (S.d), .int .i64 (S.e), .int .u64 (l0 (S.tt)), .int .u64 (l1 (S.tt)), .int .u64 (l2 (S.tt)), .int .u64 (l3 (S.tt)), .int .u64 (l4 (S.tt)), .bool true, .bool S.mn.b, .int .u64 (l0 (S.mn.n)), .int .u64 (l1 (S.mn.n)), .int .u64 (l2 (S.mn.n)), .int .u64 (l3 (S.mn.n)), .int .i64 (S.mn.s), .bool S.mx.b, .int .u64 (l0 (S.mx.n)), .int .u64 (l1 (S.mx.n)), .int .u64 (l2 (S.mx.n)), .int .u64 (l3 (S.mx.n)), .int .i64 (S.mx.s)]) rfl rfl (fun _ => by kernel_rfl) rfl ?_
  intro k1 w1 hk hz hq Q1
  have N_k1 : w.heap.size ≤ k1 := by have := M.size; omega
  replace M := M.trans hq
  clear hk hz hq
  refine wl_alloc 28 #[.int .i64 0, .bool false, .int .u64 0, .int .u64 0, .int .u64 0, .int .u64 0, .int .i64 0, .bool false, .string ⟨#[]⟩, .int .i64 0] rfl (fun _ => by kernel_rfl) rfl ?_
  intro k2 w2 hk hz hq Q2
  have ne_k1_k2 : k1 ≠ k2 := by have := Q1.lt; omega
  have N_k2 : w.heap.size ≤ k2 := by have := M.size; omega
  replace Q1 := Q1.mo hq
  replace M := M.trans hq
  clear hk hz hq
  refine w_nil ?_
  refine xn_then ?_
  refine w_seq ?_
  refine w_block ?_
  refine w_seq ?_
  refine w_reg ?_
  refine wl_mv (.tmp 0) (.int .i64 (14)) (fun _ => rfl) rfl rfl ?_
  refine wl_bin (fun x y => do eqGuard .eql 3 (.tmp 10) (.const (.int .i64 (16))) x y; binOp .eql 3 x y) (.tmp 10) (.const (.int .i64 (16))) (.int .i64 (14)) (.int .i64 (16)) (.bool false) (fun _ => rfl) rfl rfl (by kernel_rfl) rfl ?_
  refine wl_mv (.tmp 11) (.bool false) (fun _ => rfl) rfl rfl ?_
  refine w_nil ?_
  refine xn_then ?_
  refine w_condF rfl ?_
  refine w_seq ?_
  refine w_reg ?_
  refine wl_mv (.tmp 0) (.int .i64 (14)) (fun _ => rfl) rfl rfl ?_
  refine wl_bin (fun x y => do eqGuard .eql 3 (.tmp 16) (.const (.int .i64 (13))) x y; binOp .eql 3 x y) (.tmp 16) (.const (.int .i64 (13))) (.int .i64 (14)) (.int .i64 (13)) (.bool false) (fun _ => rfl) rfl rfl (by kernel_rfl) rfl ?_
  refine wl_mv (.tmp 17) (.bool false) (fun _ => rfl) rfl rfl ?_
  refine w_nil ?_
  refine xn_then ?_
  refine w_condF rfl ?_
  refine w_seq ?_
  refine w_reg ?_
  refine wl_mv (.tmp 0) (.int .i64 (14)) (fun _ => rfl) rfl rfl ?_
  refine wl_bin (fun x y => do eqGuard .neq 3 (.tmp 22) (.const (.int .i64 (12))) x y; binOp .neq 3 x y) (.tmp 22) (.const (.int .i64 (12))) (.int .i64 (14)) (.int .i64 (12)) (.bool true) (fun _ => rfl) rfl rfl (by kernel_rfl) rfl ?_
  refine wl_mv (.tmp 23) (.bool true) (fun _ => rfl) rfl rfl ?_
  refine wl_mv (.tmp 0) (.int .i64 (14)) (fun _ => rfl) rfl rfl ?_
  refine wl_bin (fun x y => do eqGuard .neq 3 (.tmp 25) (.const (.int .i64 (14))) x y; binOp .neq 3 x y) (.tmp 25) (.const (.int .i64 (14))) (.int .i64 (14)) (.int .i64 (14)) (.bool false) (fun _ => rfl) rfl rfl (by kernel_rfl) rfl ?_
  refine wl_pick (.tmp 24) (.tmp 26) (.const (.bool false)) true (.bool false) (fun _ => rfl) rfl rfl rfl ?_
  refine wl_mv (.tmp 27) (.bool false) (fun _ => rfl) rfl rfl ?_
  refine wl_skip rfl ?_
  refine wl_skip rfl ?_
  refine wl_pick (.tmp 28) (.tmp 30) (.const (.bool false)) false (.bool false) (fun _ => rfl) rfl rfl rfl ?_
  refine wl_mv (.tmp 31) (.bool false) (fun _ => rfl) rfl rfl ?_
  refine w_nil ?_
  refine xn_then ?_
  refine w_condF rfl ?_
  refine w_seq ?_
  refine w_reg ?_
  refine wl_un (fun v => Instr.fieldAt 33 v 4) (.tmp 4) (pt k1 0) (pt k1 4) (fun _ => rfl) rfl (by kernel_rfl) rfl ?_
  refine wl_load 3 (.tmp 34) (pt k1 4) (.int .i64 (S.e)) rfl rfl (run_one Q1 3 4 rfl Try.underlying3 rfl) rfl ?_
  refine wl_bin (fun x y => do eqGuard .neq 3 (.tmp 35) (.const (.int .i64 (0))) x y; binOp .neq 3 x y) (.tmp 35) (.const (.int .i64 (0))) (.int .i64 (S.e)) (.int .i64 (0)) (.bool false) (fun _ => rfl) rfl rfl (neI qe _ _ _) rfl ?_
  refine wl_mv (.tmp 36) (.bool false) (fun _ => rfl) rfl rfl ?_
  refine w_nil ?_
  refine xn_then ?_
  refine w_condF rfl ?_
  refine w_seq ?_
  refine w_reg ?_
  refine wl_mv (.tmp 0) (.int .i64 (14)) (fun _ => rfl) rfl rfl ?_
  refine wl_bin (fun x y => do eqGuard .eql 3 (.tmp 41) (.const (.int .i64 (12))) x y; binOp .eql 3 x y) (.tmp 41) (.const (.int .i64 (12))) (.int .i64 (14)) (.int .i64 (12)) (.bool false) (fun _ => rfl) rfl rfl (by kernel_rfl) rfl ?_
  refine wl_mv (.tmp 42) (.bool false) (fun _ => rfl) rfl rfl ?_
  refine w_nil ?_
  refine xn_then ?_
  refine w_condF rfl ?_
  refine w_seq ?_
  refine w_reg ?_
  refine wl_un (fun v => Instr.fieldAt 33 v 6) (.tmp 4) (pt k1 0) (pt k1 10) (fun _ => rfl) rfl (by kernel_rfl) rfl ?_
  refine wl_load 4 (.tmp 56) (pt k1 10) (.bool true) rfl rfl (run_one Q1 4 10 rfl Try.underlying4 rfl) rfl ?_
  refine wl_un (fun v => Op.unary .not v) (.tmp 57) (.bool true) (.bool false) (fun _ => rfl) rfl (by kernel_rfl) rfl ?_
  refine wl_mv (.tmp 58) (.bool false) (fun _ => rfl) rfl rfl ?_
  refine w_nil ?_
  refine xn_then ?_
  refine w_condF rfl ?_
  refine w_seq ?_
  refine w_reg ?_
  refine wl_mv (.tmp 0) (.int .i64 (14)) (fun _ => rfl) rfl rfl ?_
  refine wl_bin (fun x y => do eqGuard .eql 3 (.tmp 61) (.const (.int .i64 (14))) x y; binOp .eql 3 x y) (.tmp 61) (.const (.int .i64 (14))) (.int .i64 (14)) (.int .i64 (14)) (.bool true) (fun _ => rfl) rfl rfl (by kernel_rfl) rfl ?_
  refine wl_mv (.tmp 62) (.bool true) (fun _ => rfl) rfl rfl ?_
  refine w_nil ?_
  refine xn_then ?_
  refine w_condT rfl ?_
  refine w_seq ?_
  refine w_reg ?_
  refine wl_un (fun v => Instr.fieldAt 33 v 7) (.tmp 4) (pt k1 0) (pt k1 11) (fun _ => rfl) rfl (by kernel_rfl) rfl ?_
  refine wl_load 26 (.tmp 63) (pt k1 11) (.agg #[.bool S.mn.b, .int .u64 (l0 (S.mn.n)), .int .u64 (l1 (S.mn.n)), .int .u64 (l2 (S.mn.n)), .int .u64 (l3 (S.mn.n)), .int .i64 (S.mn.s)]) rfl rfl (run_row Q1 26 11 6 [.bool S.mn.b, .int .u64 (l0 (S.mn.n)), .int .u64 (l1 (S.mn.n)), .int .u64 (l2 (S.mn.n)), .int .u64 (l3 (S.mn.n)), .int .i64 (S.mn.s)] rfl Try.underlying26 rfl sz26) rfl ?_
  refine wl_build 28 [(0, (.const (.int .i64 (1)))), (1, (.tmp 64))] [(0, .int .i64 (1)), (1, .agg #[.bool S.mn.b, .int .u64 (l0 (S.mn.n)), .int .u64 (l1 (S.mn.n)), .int .u64 (l2 (S.mn.n)), .int .u64 (l3 (S.mn.n)), .int .i64 (S.mn.s)])] (.agg #[.int .i64 (1), .bool S.mn.b, .int .u64 (l0 (S.mn.n)), .int .u64 (l1 (S.mn.n)), .int .u64 (l2 (S.mn.n)), .int .u64 (l3 (S.mn.n)), .int .i64 (S.mn.s), .bool false, .string ⟨#[]⟩, .int .i64 0]) rfl rfl (by kernel_rfl) rfl ?_
  refine wl_st 28 (.tmp 6) (.tmp 65) k2 0 #[.int .i64 (1), .bool S.mn.b, .int .u64 (l0 (S.mn.n)), .int .u64 (l1 (S.mn.n)), .int .u64 (l2 (S.mn.n)), .int .u64 (l3 (S.mn.n)), .int .i64 (S.mn.s), .bool false, .string ⟨#[]⟩, .int .i64 0] [.int .i64 0, .bool false, .int .u64 0, .int .u64 0, .int .u64 0, .int .u64 0, .int .i64 0, .bool false, .string ⟨#[]⟩, .int .i64 0] [.int .i64 (1), .bool S.mn.b, .int .u64 (l0 (S.mn.n)), .int .u64 (l1 (S.mn.n)), .int .u64 (l2 (S.mn.n)), .int .u64 (l3 (S.mn.n)), .int .i64 (S.mn.s), .bool false, .string ⟨#[]⟩, .int .i64 0] Q2 rfl rfl rfl rfl rfl sz28 rfl rfl rfl ?_
  intro w3 hS Qn
  replace Q2 := Qn
  clear Qn
  replace Q1 := hS.other _ _ ne_k1_k2 Q1
  replace M := hS.mo _ N_k2 M
  clear hS
  refine w_nil ?_
  refine xn_then ?_
  refine w_ret ?_
  refine xr_blk ?_
  refine xr_then ?_
  exact w_ret1 _ (.agg #[.int .i64 (1), .bool S.mn.b, .int .u64 (l0 (S.mn.n)), .int .u64 (l1 (S.mn.n)), .int .u64 (l2 (S.mn.n)), .int .u64 (l3 (S.mn.n)), .int .i64 (S.mn.s), .bool false, .string ⟨#[]⟩, .int .i64 0]) rfl ⟨k2, rfl, (run_row Q2 28 0 10 [.int .i64 (1), .bool S.mn.b, .int .u64 (l0 (S.mn.n)), .int .u64 (l1 (S.mn.n)), .int .u64 (l2 (S.mn.n)), .int .u64 (l3 (S.mn.n)), .int .i64 (S.mn.s), .bool false, .string ⟨#[]⟩, .int .i64 0] rfl Try.underlying28 rfl sz28)⟩ ⟨rfl, M⟩
theorem rval_15a (S : Sm) (sc9 : Int) (qe : decide (S.e = 0) = false) : Calls Try.prog 17 #[.int .i64 15, smv S, .int .i64 sc9] w fun e w' => e = .returned (vl10 4 false 0 0 false ⟨#[]⟩ S.e) ∧ Mo w w' := by
  refine w_enter 69 Try.func17 Try.ntmps17 rfl rfl ?_
  have M : Mo w w := Mo.refl _
  refine w_seq ?_
  refine w_reg ?_
  refine wl_box 33 (.tmp 1) (.agg #[.int .i64 (S.r), .int .i64 (S.f), .int .i64 (S.k), .int .i64 (S.d), .int .i64 (S.e), .int .u64 (l0 (S.tt)), .int .u64 (l1 (S.tt)), .int .u64 (l2 (S.tt)), .int .u64 (l3 (S.tt)), .int .u64 (l4 (S.tt)), .bool S.so, .bool S.mn.b, .int .u64 (l0 (S.mn.n)), .int .u64 (l1 (S.mn.n)), .int .u64 (l2 (S.mn.n)), .int .u64 (l3 (S.mn.n)), .int .i64 (S.mn.s), .bool S.mx.b, .int .u64 (l0 (S.mx.n)), .int .u64 (l1 (S.mx.n)), .int .u64 (l2 (S.mx.n)), .int .u64 (l3 (S.mx.n)), .int .i64 (S.mx.s)]) (#[.int .i64 (S.r), .int .i64 (S.f), .int .i64 (S.k), .int .i64 (S.d), .int .i64 (S.e), .int .u64 (l0 (S.tt)), .int .u64 (l1 (S.tt)), .int .u64 (l2 (S.tt)), .int .u64 (l3 (S.tt)), .int .u64 (l4 (S.tt)), .bool S.so, .bool S.mn.b, .int .u64 (l0 (S.mn.n)), .int .u64 (l1 (S.mn.n)), .int .u64 (l2 (S.mn.n)), .int .u64 (l3 (S.mn.n)), .int .i64 (S.mn.s), .bool S.mx.b, .int .u64 (l0 (S.mx.n)), .int .u64 (l1 (S.mx.n)), .int .u64 (l2 (S.mx.n)), .int .u64 (l3 (S.mx.n)), .int .i64 (S.mx.s)]) rfl rfl (fun _ => by kernel_rfl) rfl ?_
  intro k1 w1 hk hz hq Q1
  have N_k1 : w.heap.size ≤ k1 := by have := M.size; omega
  replace M := M.trans hq
  clear hk hz hq
  refine wl_alloc 28 #[.int .i64 0, .bool false, .int .u64 0, .int .u64 0, .int .u64 0, .int .u64 0, .int .i64 0, .bool false, .string ⟨#[]⟩, .int .i64 0] rfl (fun _ => by kernel_rfl) rfl ?_
  intro k2 w2 hk hz hq Q2
  have ne_k1_k2 : k1 ≠ k2 := by have := Q1.lt; omega
  have N_k2 : w.heap.size ≤ k2 := by have := M.size; omega
  replace Q1 := Q1.mo hq
  replace M := M.trans hq
  clear hk hz hq
  refine w_nil ?_
  refine xn_then ?_
  refine w_seq ?_
  refine w_block ?_
  refine w_seq ?_
  refine w_reg ?_
  refine wl_mv (.tmp 0) (.int .i64 (15)) (fun _ => rfl) rfl rfl ?_
  refine wl_bin (fun x y => do eqGuard .eql 3 (.tmp 10) (.const (.int .i64 (16))) x y; binOp .eql 3 x y) (.tmp 10) (.const (.int .i64 (16))) (.int .i64 (15)) (.int .i64 (16)) (.bool false) (fun _ => rfl) rfl rfl (by kernel_rfl) rfl ?_
  refine wl_mv (.tmp 11) (.bool false) (fun _ => rfl) rfl rfl ?_
  refine w_nil ?_
  refine xn_then ?_
  refine w_condF rfl ?_
  refine w_seq ?_
  refine w_reg ?_
  refine wl_mv (.tmp 0) (.int .i64 (15)) (fun _ => rfl) rfl rfl ?_
  refine wl_bin (fun x y => do eqGuard .eql 3 (.tmp 16) (.const (.int .i64 (13))) x y; binOp .eql 3 x y) (.tmp 16) (.const (.int .i64 (13))) (.int .i64 (15)) (.int .i64 (13)) (.bool false) (fun _ => rfl) rfl rfl (by kernel_rfl) rfl ?_
  refine wl_mv (.tmp 17) (.bool false) (fun _ => rfl) rfl rfl ?_
  refine w_nil ?_
  refine xn_then ?_
  refine w_condF rfl ?_
  refine w_seq ?_
  refine w_reg ?_
  refine wl_mv (.tmp 0) (.int .i64 (15)) (fun _ => rfl) rfl rfl ?_
  refine wl_bin (fun x y => do eqGuard .neq 3 (.tmp 22) (.const (.int .i64 (12))) x y; binOp .neq 3 x y) (.tmp 22) (.const (.int .i64 (12))) (.int .i64 (15)) (.int .i64 (12)) (.bool true) (fun _ => rfl) rfl rfl (by kernel_rfl) rfl ?_
  refine wl_mv (.tmp 23) (.bool true) (fun _ => rfl) rfl rfl ?_
  refine wl_mv (.tmp 0) (.int .i64 (15)) (fun _ => rfl) rfl rfl ?_
  refine wl_bin (fun x y => do eqGuard .neq 3 (.tmp 25) (.const (.int .i64 (14))) x y; binOp .neq 3 x y) (.tmp 25) (.const (.int .i64 (14))) (.int .i64 (15)) (.int .i64 (14)) (.bool true) (fun _ => rfl) rfl rfl (by kernel_rfl) rfl ?_
  refine wl_pick (.tmp 24) (.tmp 26) (.const (.bool false)) true (.bool true) (fun _ => rfl) rfl rfl rfl ?_
  refine wl_mv (.tmp 27) (.bool true) (fun _ => rfl) rfl rfl ?_
  refine wl_mv (.tmp 0) (.int .i64 (15)) (fun _ => rfl) rfl rfl ?_
  refine wl_bin (fun x y => do eqGuard .neq 3 (.tmp 29) (.const (.int .i64 (15))) x y; binOp .neq 3 x y) (.tmp 29) (.const (.int .i64 (15))) (.int .i64 (15)) (.int .i64 (15)) (.bool false) (fun _ => rfl) rfl rfl (by kernel_rfl) rfl ?_
  refine wl_pick (.tmp 28) (.tmp 30) (.const (.bool false)) true (.bool false) (fun _ => rfl) rfl rfl rfl ?_
  refine wl_mv (.tmp 31) (.bool false) (fun _ => rfl) rfl rfl ?_
  refine w_nil ?_
  refine xn_then ?_
  refine w_condF rfl ?_
  refine w_seq ?_
  refine w_reg ?_
  refine wl_un (fun v => Instr.fieldAt 33 v 4) (.tmp 4) (pt k1 0) (pt k1 4) (fun _ => rfl) rfl (by kernel_rfl) rfl ?_
  refine wl_load 3 (.tmp 34) (pt k1 4) (.int .i64 (S.e)) rfl rfl (run_one Q1 3 4 rfl Try.underlying3 rfl) rfl ?_
  refine wl_bin (fun x y => do eqGuard .neq 3 (.tmp 35) (.const (.int .i64 (0))) x y; binOp .neq 3 x y) (.tmp 35) (.const (.int .i64 (0))) (.int .i64 (S.e)) (.int .i64 (0)) (.bool true) (fun _ => rfl) rfl rfl (neI qe _ _ _) rfl ?_
  refine wl_mv (.tmp 36) (.bool true) (fun _ => rfl) rfl rfl ?_
  refine w_nil ?_
  refine xn_then ?_
  refine w_condT rfl ?_
  refine w_seq ?_
  refine w_reg ?_
  refine wl_un (fun v => Instr.fieldAt 33 v 4) (.tmp 4) (pt k1 0) (pt k1 4) (fun _ => rfl) rfl (by kernel_rfl) rfl ?_
  refine wl_load 3 (.tmp 37) (pt k1 4) (.int .i64 (S.e)) rfl rfl (run_one Q1 3 4 rfl Try.underlying3 rfl) rfl ?_
  refine wl_call 36 [(.tmp 38)] _ [.int .i64 (S.e)] (.agg #[.int .i64 (4), .bool false, .int .u64 (l0 (0)), .int .u64 (l1 (0)), .int .u64 (l2 (0)), .int .u64 (l3 (0)), .int .i64 (0), .bool false, .string ⟨#[]⟩, .int .i64 (S.e)]) rfl rfl (fun _ _ => by kernel_rfl) (bad_n (S.e)) rfl ?_
  intro w3 hq
  replace Q1 := Q1.mo hq
  replace Q2 := Q2.mo hq
  replace M := M.trans hq
  clear hq
  refine wl_st 28 (.tmp 6) (.tmp 39) k2 0 #[.int .i64 (4), .bool false, .int .u64 (l0 (0)), .int .u64 (l1 (0)), .int .u64 (l2 (0)), .int .u64 (l3 (0)), .int .i64 (0), .bool false, .string ⟨#[]⟩, .int .i64 (S.e)] [.int .i64 0, .bool false, .int .u64 0, .int .u64 0, .int .u64 0, .int .u64 0, .int .i64 0, .bool false, .string ⟨#[]⟩, .int .i64 0] [.int .i64 (4), .bool false, .int .u64 (l0 (0)), .int .u64 (l1 (0)), .int .u64 (l2 (0)), .int .u64 (l3 (0)), .int .i64 (0), .bool false, .string ⟨#[]⟩, .int .i64 (S.e)] Q2 rfl rfl rfl rfl rfl sz28 rfl rfl rfl ?_
  intro w4 hS Qn
  replace Q2 := Qn
  clear Qn
  replace Q1 := hS.other _ _ ne_k1_k2 Q1
  replace M := hS.mo _ N_k2 M
  clear hS
  refine w_nil ?_
  refine xn_then ?_
  refine w_ret ?_
  refine xr_blk ?_
  refine xr_then ?_
  exact w_ret1 _ (.agg #[.int .i64 (4), .bool false, .int .u64 (l0 (0)), .int .u64 (l1 (0)), .int .u64 (l2 (0)), .int .u64 (l3 (0)), .int .i64 (0), .bool false, .string ⟨#[]⟩, .int .i64 (S.e)]) rfl ⟨k2, rfl, (run_row Q2 28 0 10 [.int .i64 (4), .bool false, .int .u64 (l0 (0)), .int .u64 (l1 (0)), .int .u64 (l2 (0)), .int .u64 (l3 (0)), .int .i64 (0), .bool false, .string ⟨#[]⟩, .int .i64 (S.e)] rfl Try.underlying28 rfl sz28)⟩ ⟨rfl, M⟩
theorem rval_15d (S : Sm) (sc9 : Int) (hso : S.so = false) (qe : decide (S.e = 0) = true) : Calls Try.prog 17 #[.int .i64 15, smv S, .int .i64 sc9] w fun e w' => e = .returned (vl10 4 false 0 0 false ⟨#[]⟩ 4) ∧ Mo w w' := by
  unfold smv
  rw [hso]
  refine w_enter 69 Try.func17 Try.ntmps17 rfl rfl ?_
  have M : Mo w w := Mo.refl _
  refine w_seq ?_
  refine w_reg ?_
  refine wl_box 33 (.tmp 1) (.agg #[.int .i64 (S.r), .int .i64 (S.f), .int .i64 (S.k), .int .i64 (S.d), .int .i64 (S.e), .int .u64 (l0 (S.tt)), .int .u64 (l1 (S.tt)), .int .u64 (l2 (S.tt)), .int .u64 (l3 (S.tt)), .int .u64 (l4 (S.tt)), .bool false, .bool S.mn.b, .int .u64 (l0 (S.mn.n)), .int .u64 (l1 (S.mn.n)), .int .u64 (l2 (S.mn.n)), .int .u64 (l3 (S.mn.n)), .int .i64 (S.mn.s), .bool S.mx.b, .int .u64 (l0 (S.mx.n)), .int .u64 (l1 (S.mx.n)), .int .u64 (l2 (S.mx.n)), .int .u64 (l3 (S.mx.n)), .int .i64 (S.mx.s)]) (#[.int .i64 (S.r), .int .i64 (S.f), .int .i64 (S.k), .int .i64 (S.d), .int .i64 (S.e), .int .u64 (l0 (S.tt)), .int .u64 (l1 (S.tt)), .int .u64 (l2 (S.tt)), .int .u64 (l3 (S.tt)), .int .u64 (l4 (S.tt)), .bool false, .bool S.mn.b, .int .u64 (l0 (S.mn.n)), .int .u64 (l1 (S.mn.n)), .int .u64 (l2 (S.mn.n)), .int .u64 (l3 (S.mn.n)), .int .i64 (S.mn.s), .bool S.mx.b, .int .u64 (l0 (S.mx.n)), .int .u64 (l1 (S.mx.n)), .int .u64 (l2 (S.mx.n)), .int .u64 (l3 (S.mx.n)), .int .i64 (S.mx.s)]) rfl rfl (fun _ => by kernel_rfl) rfl ?_
  intro k1 w1 hk hz hq Q1
  have N_k1 : w.heap.size ≤ k1 := by have := M.size; omega
  replace M := M.trans hq
  clear hk hz hq
  refine wl_alloc 28 #[.int .i64 0, .bool false, .int .u64 0, .int .u64 0, .int .u64 0, .int .u64 0, .int .i64 0, .bool false, .string ⟨#[]⟩, .int .i64 0] rfl (fun _ => by kernel_rfl) rfl ?_
  intro k2 w2 hk hz hq Q2
  have ne_k1_k2 : k1 ≠ k2 := by have := Q1.lt; omega
  have N_k2 : w.heap.size ≤ k2 := by have := M.size; omega
  replace Q1 := Q1.mo hq
  replace M := M.trans hq
  clear hk hz hq
  refine w_nil ?_
  refine xn_then ?_
  refine w_seq ?_
  refine w_block ?_
  refine w_seq ?_
  refine w_reg ?_
  refine wl_mv (.tmp 0) (.int .i64 (15)) (fun _ => rfl) rfl rfl ?_
  refine wl_bin (fun x y => do eqGuard .eql 3 (.tmp 10) (.const (.int .i64 (16))) x y; binOp .eql 3 x y) (.tmp 10) (.const (.int .i64 (16))) (.int .i64 (15)) (.int .i64 (16)) (.bool false) (fun _ => rfl) rfl rfl (by kernel_rfl) rfl ?_
  refine wl_mv (.tmp 11) (.bool false) (fun _ => rfl) rfl rfl ?_
  refine w_nil ?_
  refine xn_then ?_
  refine w_condF rfl ?_
  refine w_seq ?_
  refine w_reg ?_
  refine wl_mv (.tmp 0) (.int .i64 (15)) (fun _ => rfl) rfl rfl ?_
  refine wl_bin (fun x y => do eqGuard .eql 3 (.tmp 16) (.const (.int .i64 (13))) x y; binOp .eql 3 x y) (.tmp 16) (.const (.int .i64 (13))) (.int .i64 (15)) (.int .i64 (13)) (.bool false) (fun _ => rfl) rfl rfl (by kernel_rfl) rfl ?_
  refine wl_mv (.tmp 17) (.bool false) (fun _ => rfl) rfl rfl ?_
  refine w_nil ?_
  refine xn_then ?_
  refine w_condF rfl ?_
  refine w_seq ?_
  refine w_reg ?_
  refine wl_mv (.tmp 0) (.int .i64 (15)) (fun _ => rfl) rfl rfl ?_
  refine wl_bin (fun x y => do eqGuard .neq 3 (.tmp 22) (.const (.int .i64 (12))) x y; binOp .neq 3 x y) (.tmp 22) (.const (.int .i64 (12))) (.int .i64 (15)) (.int .i64 (12)) (.bool true) (fun _ => rfl) rfl rfl (by kernel_rfl) rfl ?_
  refine wl_mv (.tmp 23) (.bool true) (fun _ => rfl) rfl rfl ?_
  refine wl_mv (.tmp 0) (.int .i64 (15)) (fun _ => rfl) rfl rfl ?_
  refine wl_bin (fun x y => do eqGuard .neq 3 (.tmp 25) (.const (.int .i64 (14))) x y; binOp .neq 3 x y) (.tmp 25) (.const (.int .i64 (14))) (.int .i64 (15)) (.int .i64 (14)) (.bool true) (fun _ => rfl) rfl rfl (by kernel_rfl) rfl ?_
  refine wl_pick (.tmp 24) (.tmp 26) (.const (.bool false)) true (.bool true) (fun _ => rfl) rfl rfl rfl ?_
  refine wl_mv (.tmp 27) (.bool true) (fun _ => rfl) rfl rfl ?_
  refine wl_mv (.tmp 0) (.int .i64 (15)) (fun _ => rfl) rfl rfl ?_
  refine wl_bin (fun x y => do eqGuard .neq 3 (.tmp 29) (.const (.int .i64 (15))) x y; binOp .neq 3 x y) (.tmp 29) (.const (.int .i64 (15))) (.int .i64 (15)) (.int .i64 (15)) (.bool false) (fun _ => rfl) rfl rfl (by kernel_rfl) rfl ?_
  refine wl_pick (.tmp 28) (.tmp 30) (.const (.bool false)) true (.bool false) (fun _ => rfl) rfl rfl rfl ?_
  refine wl_mv (.tmp 31) (.bool false) (fun _ => rfl) rfl rfl ?_
  refine w_nil ?_
  refine xn_then ?_
  refine w_condF rfl ?_
  refine w_seq ?_
  refine w_reg ?_
  refine wl_un (fun v => Instr.fieldAt 33 v 4) (.tmp 4) (pt k1 0) (pt k1 4) (fun _ => rfl) rfl (by kernel_rfl) rfl ?_
  refine wl_load 3 (.tmp 34) (pt k1 4) (.int .i64 (S.e)) rfl rfl (run_one Q1 3 4 rfl Try.underlying3 rfl) rfl ?_
  refine wl_bin (fun x y => do eqGuard .neq 3 (.tmp 35) (.const (.int .i64 (0))) x y; binOp .neq 3 x y) (.tmp 35) (.const (.int .i64 (0))) (.int .i64 (S.e)) (.int .i64 (0)) (.bool false) (fun _ => rfl) rfl rfl (neI qe _ _ _) rfl ?_
  refine wl_mv (.tmp 36) (.bool false) (fun _ => rfl) rfl rfl ?_
  refine w_nil ?_
  refine xn_then ?_
  refine w_condF rfl ?_
  refine w_seq ?_
  refine w_reg ?_
  refine wl_mv (.tmp 0) (.int .i64 (15)) (fun _ => rfl) rfl rfl ?_
  refine wl_bin (fun x y => do eqGuard .eql 3 (.tmp 41) (.const (.int .i64 (12))) x y; binOp .eql 3 x y) (.tmp 41) (.const (.int .i64 (12))) (.int .i64 (15)) (.int .i64 (12)) (.bool false) (fun _ => rfl) rfl rfl (by kernel_rfl) rfl ?_
  refine wl_mv (.tmp 42) (.bool false) (fun _ => rfl) rfl rfl ?_
  refine w_nil ?_
  refine xn_then ?_
  refine w_condF rfl ?_
  refine w_seq ?_
  refine w_reg ?_
  refine wl_un (fun v => Instr.fieldAt 33 v 6) (.tmp 4) (pt k1 0) (pt k1 10) (fun _ => rfl) rfl (by kernel_rfl) rfl ?_
  refine wl_load 4 (.tmp 56) (pt k1 10) (.bool false) rfl rfl (run_one Q1 4 10 rfl Try.underlying4 rfl) rfl ?_
  refine wl_un (fun v => Op.unary .not v) (.tmp 57) (.bool false) (.bool true) (fun _ => rfl) rfl (by kernel_rfl) rfl ?_
  refine wl_mv (.tmp 58) (.bool true) (fun _ => rfl) rfl rfl ?_
  refine w_nil ?_
  refine xn_then ?_
  refine w_condT rfl ?_
  refine w_seq ?_
  refine w_reg ?_
  refine wl_call 36 [(.const (.int .i64 (4)))] _ [.int .i64 (4)] (.agg #[.int .i64 (4), .bool false, .int .u64 (l0 (0)), .int .u64 (l1 (0)), .int .u64 (l2 (0)), .int .u64 (l3 (0)), .int .i64 (0), .bool false, .string ⟨#[]⟩, .int .i64 (4)]) rfl rfl (fun _ _ => by kernel_rfl) (bad_n (4)) rfl ?_
  intro w3 hq
  replace Q1 := Q1.mo hq
  replace Q2 := Q2.mo hq
  replace M := M.trans hq
  clear hq
  refine wl_st 28 (.tmp 6) (.tmp 59) k2 0 #[.int .i64 (4), .bool false, .int .u64 (l0 (0)), .int .u64 (l1 (0)), .int .u64 (l2 (0)), .int .u64 (l3 (0)), .int .i64 (0), .bool false, .string ⟨#[]⟩, .int .i64 (4)] [.int .i64 0, .bool false, .int .u64 0, .int .u64 0, .int .u64 0, .int .u64 0, .int .i64 0, .bool false, .string ⟨#[]⟩, .int .i64 0] [.int .i64 (4), .bool false, .int .u64 (l0 (0)), .int .u64 (l1 (0)), .int .u64 (l2 (0)), .int .u64 (l3 (0)), .int .i64 (0), .bool false, .string ⟨#[]⟩, .int .i64 (4)] Q2 rfl rfl rfl rfl rfl sz28 rfl rfl rfl ?_
  intro w4 hS Qn
  replace Q2 := Qn
  clear Qn
  replace Q1 := hS.other _ _ ne_k1_k2 Q1
  replace M := hS.mo _ N_k2 M
  clear hS
  refine w_nil ?_
  refine xn_then ?_
  refine w_ret ?_
  refine xr_blk ?_
  refine xr_then ?_
  exact w_ret1 _ (.agg #[.int .i64 (4), .bool false, .int .u64 (l0 (0)), .int .u64 (l1 (0)), .int .u64 (l2 (0)), .int .u64 (l3 (0)), .int .i64 (0), .bool false, .string ⟨#[]⟩, .int .i64 (4)]) rfl ⟨k2, rfl, (run_row Q2 28 0 10 [.int .i64 (4), .bool false, .int .u64 (l0 (0)), .int .u64 (l1 (0)), .int .u64 (l2 (0)), .int .u64 (l3 (0)), .int .i64 (0), .bool false, .string ⟨#[]⟩, .int .i64 (4)] rfl Try.underlying28 rfl sz28)⟩ ⟨rfl, M⟩
theorem rval_15f (S : Sm) (sc9 : Int) (hso : S.so = true) (qe : decide (S.e = 0) = true) : Calls Try.prog 17 #[.int .i64 15, smv S, .int .i64 sc9] w fun e w' => e = .returned (vl10 1 S.mx.b S.mx.n S.mx.s false ⟨#[]⟩ 0) ∧ Mo w w' := by
  unfold smv
  rw [hso]
  refine w_enter 69 Try.func17 Try.ntmps17 rfl rfl ?_
  have M : Mo w w := Mo.refl _
  refine w_seq ?_
  refine w_reg ?_
  refine wl_box 33 (.tmp 1) (.agg #[.int .i64 (S.r), .int .i64 (S.f), .int .i64 (S.k), .int .i64 (S.d), .int .i64 (S.e), .int .u64 (l0 (S.tt)), .int .u64 (l1 (S.tt)), .int .u64 (l2 (S.tt)), .int .u64 (l3 (S.tt)), .int .u64 (l4 (S.tt)), .bool true, .bool S.mn.b, .int .u64 (l0 (S.mn.n)), .int .u64 (l1 (S.mn.n)), .int .u64 (l2 (S.mn.n)), .int .u64 (l3 (S.mn.n)), .int .i64 (S.mn.s), .bool S.mx.b, .int .u64 (l0 (S.mx.n)), .int .u64 (l1 (S.mx.n)), .int .u64 (l2 (S.mx.n)), .int .u64 (l3 (S.mx.n)), .int .i64 (S.mx.s)]) (#[.int .i64 (S.r), .int .i64 (S.f), .int .i64 (S.k), .int .i64 (S.d), .int .i64 (S.e), .int .u64 (l0 (S.tt)), .int .u64 (l1 (S.tt)), .int .u64 (l2 (S.tt)), .int .u64 (l3 (S.tt)), .int .u64 (l4 (S.tt)), .bool true, .bool S.mn.b, .int .u64 (l0 (S.mn.n)), .int .u64 (l1 (S.mn.n)), .int .u64 (l2 (S.mn.n)), .int .u64 (l3 (S.mn.n)), .int .i64 (S.mn.s), .bool S.mx.b, .int .u64 (l0 (S.mx.n)), .int .u64 (l1 (S.mx.n)), .int .u64 (l2 (S.mx.n)), .int .u64 (l3 (S.mx.n)), .int .i64 (S.mx.s)]) rfl rfl (fun _ => by kernel_rfl) rfl ?_
  intro k1 w1 hk hz hq Q1
  have N_k1 : w.heap.size ≤ k1 := by have := M.size; omega
  replace M := M.trans hq
  clear hk hz hq
  refine wl_alloc 28 #[.int .i64 0, .bool false, .int .u64 0, .int .u64 0, .int .u64 0, .int .u64 0, .int .i64 0, .bool false, .string ⟨#[]⟩, .int .i64 0] rfl (fun _ => by kernel_rfl) rfl ?_
  intro k2 w2 hk hz hq Q2
  have ne_k1_k2 : k1 ≠ k2 := by have := Q1.lt; omega
  have N_k2 : w.heap.size ≤ k2 := by have := M.size; omega
  replace Q1 := Q1.mo hq
  replace M := M.trans hq
  clear hk hz hq
  refine w_nil ?_
  refine xn_then ?_
  refine w_seq ?_
  refine w_block ?_
  refine w_seq ?_
  refine w_reg ?_
  refine wl_mv (.tmp 0) (.int .i64 (15)) (fun _ => rfl) rfl rfl ?_
  refine wl_bin (fun x y => do eqGuard .eql 3 (.tmp 10) (.const (.int .i64 (16))) x y; binOp .eql 3 x y) (.tmp 10) (.const (.int .i64 (16))) (.int .i64 (15)) (.int .i64 (16)) (.bool false) (fun _ => rfl) rfl rfl (by kernel_rfl) rfl ?_
  refine wl_mv (.tmp 11) (.bool false) (fun _ => rfl) rfl rfl ?_
  refine w_nil ?_
  refine xn_then ?_
  refine w_condF rfl ?_
  refine w_seq ?_
  refine w_reg ?_
  refine wl_mv (.tmp 0) (.int .i64 (15)) (fun _ => rfl) rfl rfl ?_
  refine wl_bin (fun x y => do eqGuard .eql 3 (.tmp 16) (.const (.int .i64 (13))) x y; binOp .eql 3 x y) (.tmp 16) (.const (.int .i64 (13))) (.int .i64 (15)) (.int .i64 (13)) (.bool false) (fun _ => rfl) rfl rfl (by kernel_rfl) rfl ?_
  refine wl_mv (.tmp 17) (.bool false) (fun _ => rfl) rfl rfl ?_
  refine w_nil ?_
  refine xn_then ?_
  refine w_condF rfl ?_
  refine w_seq ?_
  refine w_reg ?_
  refine wl_mv (.tmp 0) (.int .i64 (15)) (fun _ => rfl) rfl rfl ?_
  refine wl_bin (fun x y => do eqGuard .neq 3 (.tmp 22) (.const (.int .i64 (12))) x y; binOp .neq 3 x y) (.tmp 22) (.const (.int .i64 (12))) (.int .i64 (15)) (.int .i64 (12)) (.bool true) (fun _ => rfl) rfl rfl (by kernel_rfl) rfl ?_
  refine wl_mv (.tmp 23) (.bool true) (fun _ => rfl) rfl rfl ?_
  refine wl_mv (.tmp 0) (.int .i64 (15)) (fun _ => rfl) rfl rfl ?_
  refine wl_bin (fun x y => do eqGuard .neq 3 (.tmp 25) (.const (.int .i64 (14))) x y; binOp .neq 3 x y) (.tmp 25) (.const (.int .i64 (14))) (.int .i64 (15)) (.int .i64 (14)) (.bool true) (fun _ => rfl) rfl rfl (by kernel_rfl) rfl ?_
  refine wl_pick (.tmp 24) (.tmp 26) (.const (.bool false)) true (.bool true) (fun _ => rfl) rfl rfl rfl ?_
  refine wl_mv (.tmp 27) (.bool true) (fun _ => rfl) rfl rfl ?_
  refine wl_mv (.tmp 0) (.int .i64 (15)) (fun _ => rfl) rfl rfl ?_
  refine wl_bin (fun x y => do eqGuard .neq 3 (.tmp 29) (.const (.int .i64 (15))) x y; binOp .neq 3 x y) (.tmp 29) (.const (.int .i64 (15))) (.int .i64 (15)) (.int .i64 (15)) (.bool false) (fun _ => rfl) rfl rfl (by kernel_rfl) rfl ?_
  refine wl_pick (.tmp 28) (.tmp 30) (.const (.bool false)) true (.bool false) (fun _ => rfl) rfl rfl rfl ?_
  refine wl_mv (.tmp 31) (.bool false) (fun _ => rfl) rfl rfl ?_
  refine w_nil ?_
  refine xn_then ?_
  refine w_condF rfl ?_
  refine w_seq ?_
  refine w_reg ?_
  refine wl_un (fun v => Instr.fieldAt 33 v 4) (.tmp 4) (pt k1 0) (pt k1 4) (fun _ => rfl) rfl (by kernel_rfl) rfl ?_
  refine wl_load 3 (.tmp 34) (pt k1 4) (.int .i64 (S.e)) rfl rfl (run_one Q1 3 4 rfl Try.underlying3 rfl) rfl ?_
  refine wl_bin (fun x y => do eqGuard .neq 3 (.tmp 35) (.const (.int .i64 (0))) x y; binOp .neq 3 x y) (.tmp 35) (.const (.int .i64 (0))) (.int .i64 (S.e)) (.int .i64 (0)) (.bool false) (fun _ => rfl) rfl rfl (neI qe _ _ _) rfl ?_
  refine wl_mv (.tmp 36) (.bool false) (fun _ => rfl) rfl rfl ?_
  refine w_nil ?_
  refine xn_then ?_
  refine w_condF rfl ?_
  refine w_seq ?_
  refine w_reg ?_
  refine wl_mv (.tmp 0) (.int .i64 (15)) (fun _ => rfl) rfl rfl ?_
  refine wl_bin (fun x y => do eqGuard .eql 3 (.tmp 41) (.const (.int .i64 (12))) x y; binOp .eql 3 x y) (.tmp 41) (.const (.int .i64 (12))) (.int .i64 (15)) (.int .i64 (12)) (.bool false) (fun _ => rfl) rfl rfl (by kernel_rfl) rfl ?_
  refine wl_mv (.tmp 42) (.bool false) (fun _ => rfl) rfl rfl ?_
  refine w_nil ?_
  refine xn_then ?_
  refine w_condF rfl ?_
  refine w_seq ?_
  refine w_reg ?_
  refine wl_un (fun v => Instr.fieldAt 33 v 6) (.tmp 4) (pt k1 0) (pt k1 10) (fun _ => rfl) rfl (by kernel_rfl) rfl ?_
  refine wl_load 4 (.tmp 56) (pt k1 10) (.bool true) rfl rfl (run_one Q1 4 10 rfl Try.underlying4 rfl) rfl ?_
  refine wl_un (fun v => Op.unary .not v) (.tmp 57) (.bool true) (.bool false) (fun _ => rfl) rfl (by kernel_rfl) rfl ?_
  refine wl_mv (.tmp 58) (.bool false) (fun _ => rfl) rfl rfl ?_
  refine w_nil ?_
  refine xn_then ?_
  refine w_condF rfl ?_
  refine w_seq ?_
  refine w_reg ?_
  refine wl_mv (.tmp 0) (.int .i64 (15)) (fun _ => rfl) rfl rfl ?_
  refine wl_bin (fun x y => do eqGuard .eql 3 (.tmp 61) (.const (.int .i64 (14))) x y; binOp .eql 3 x y) (.tmp 61) (.const (.int .i64 (14))) (.int .i64 (15)) (.int .i64 (14)) (.bool false) (fun _ => rfl) rfl rfl (by kernel_rfl) rfl ?_
  refine wl_mv (.tmp 62) (.bool false) (fun _ => rfl) rfl rfl ?_
  refine w_nil ?_
  refine xn_then ?_
  refine w_condF rfl ?_
  refine w_skip ?_
  refine xn_blk ?_
  refine xn_then ?_
  refine w_seq ?_
  refine w_reg ?_
  refine wl_un (fun v => Instr.fieldAt 33 v 8) (.tmp 4) (pt k1 0) (pt k1 17) (fun _ => rfl) rfl (by kernel_rfl) rfl ?_
  refine wl_load 26 (.tmp 66) (pt k1 17) (.agg #[.bool S.mx.b, .int .u64 (l0 (S.mx.n)), .int .u64 (l1 (S.mx.n)), .int .u64 (l2 (S.mx.n)), .int .u64 (l3 (S.mx.n)), .int .i64 (S.mx.s)]) rfl rfl (run_row Q1 26 17 6 [.bool S.mx.b, .int .u64 (l0 (S.mx.n)), .int .u64 (l1 (S.mx.n)), .int .u64 (l2 (S.mx.n)), .int .u64 (l3 (S.mx.n)), .int .i64 (S.mx.s)] rfl Try.underlying26 rfl sz26) rfl ?_
  refine wl_build 28 [(0, (.const (.int .i64 (1)))), (1, (.tmp 67))] [(0, .int .i64 (1)), (1, .agg #[.bool S.mx.b, .int .u64 (l0 (S.mx.n)), .int .u64 (l1 (S.mx.n)), .int .u64 (l2 (S.mx.n)), .int .u64 (l3 (S.mx.n)), .int .i64 (S.mx.s)])] (.agg #[.int .i64 (1), .bool S.mx.b, .int .u64 (l0 (S.mx.n)), .int .u64 (l1 (S.mx.n)), .int .u64 (l2 (S.mx.n)), .int .u64 (l3 (S.mx.n)), .int .i64 (S.mx.s), .bool false, .string ⟨#[]⟩, .int .i64 0]) rfl rfl (by kernel_rfl) rfl ?_
  refine wl_st 28 (.tmp 6) (.tmp 68) k2 0 #[.int .i64 (1), .bool S.mx.b, .int .u64 (l0 (S.mx.n)), .int .u64 (l1 (S.mx.n)), .int .u64 (l2 (S.mx.n)), .int .u64 (l3 (S.mx.n)), .int .i64 (S.mx.s), .bool false, .string ⟨#[]⟩, .int .i64 0] [.int .i64 0, .bool false, .int .u64 0, .int .u64 0, .int .u64 0, .int .u64 0, .int .i64 0, .bool false, .string ⟨#[]⟩, .int .i64 0] [.int .i64 (1), .bool S.mx.b, .int .u64 (l0 (S.mx.n)), .int .u64 (l1 (S.mx.n)), .int .u64 (l2 (S.mx.n)), .int .u64 (l3 (S.mx.n)), .int .i64 (S.mx.s), .bool false, .string ⟨#[]⟩, .int .i64 0] Q2 rfl rfl rfl rfl rfl sz28 rfl rfl rfl ?_
  intro w3 hS Qn
  replace Q2 := Qn
  clear Qn
  replace Q1 := hS.other _ _ ne_k1_k2 Q1
  replace M := hS.mo _ N_k2 M
  clear hS
  refine w_nil ?_
  refine xn_then ?_
  refine w_ret ?_
  exact w_ret1 _ (.agg #[.int .i64 (1), .bool S.mx.b, .int .u64 (l0 (S.mx.n)), .int .u64 (l1 (S.mx.n)), .int .u64 (l2 (S.mx.n)), .int .u64 (l3 (S.mx.n)), .int .i64 (S.mx.s), .bool false, .string ⟨#[]⟩, .int .i64 0]) rfl ⟨k2, rfl, (run_row Q2 28 0 10 [.int .i64 (1), .bool S.mx.b, .int .u64 (l0 (S.mx.n)), .int .u64 (l1 (S.mx.n)), .int .u64 (l2 (S.mx.n)), .int .u64 (l3 (S.mx.n)), .int .i64 (S.mx.s), .bool false, .string ⟨#[]⟩, .int .i64 0] rfl Try.underlying28 rfl sz28)⟩ ⟨rfl, M⟩
end
end Go.Proofs.Ythpekbohmfmffaa
/-
  SummaryValues: the law's walk.
-/
namespace Go.Proofs.Ythpekbohmfmffaa
open Go.RowKit
section
variable {w : World}
/-- The program's Value and the document's say the same. -/
theorem vals (op : Int) (S : Sm) (sc9 : Int) (hr : -9223372036854775808 ≤ S.r ∧ S.r < 9223372036854775808) (hf : -9223372036854775808 ≤ S.f ∧ S.f < 9223372036854775808) : ∃ (rK : Int) (rb : Bool) (rn rs : Int) (rf : Bool) (rt : ByteArray) (re : Int),
    (∀ w, Calls Try.prog 16 #[.int .i64 op, smv S, .int .i64 sc9] w fun e w' => e = .returned (vl10 rK rb rn rs rf rt re) ∧ Mo w w') ∧ (∀ w, Calls Try.prog 17 #[.int .i64 op, smv S, .int .i64 sc9] w fun e w' => e = .returned (vl10 rK rb rn rs rf rt re) ∧ Mo w w') := by
  obtain ⟨nb, nn, ns, ec, hn⟩ := nrw_form S.tt sc9
  have h18 : ∀ w, Calls Try.prog 18 #[wv S.tt, .int .i64 sc9] w fun e w' => e = .returned (.tuple #[dc nb nn ns, .int .i64 ec]) ∧ Mo w w' := fun w => by rw [← hn]; exact narrow_n S.tt sc9
  have h15 : ∀ w, Calls Try.prog 15 #[wv S.tt, .int .i64 sc9] w fun e w' => e = .returned (.tuple #[dc nb nn ns, .int .i64 ec]) ∧ Mo w w' := fun w => by rw [← hn]; exact rnarrow_n S.tt sc9
  by_cases c16 : op = 16
  · subst c16; exact ⟨_, _, _, _, _, _, _, fun w => val_16 S sc9 hr, fun w => rval_16 S sc9 hr⟩
  by_cases c13 : op = 13
  · subst c13; exact ⟨_, _, _, _, _, _, _, fun w => val_13 S sc9 hf, fun w => rval_13 S sc9 hf⟩
  by_cases c12 : op = 12
  · subst c12
    by_cases ce : S.e = 0
    · by_cases cc : ec = 0
      · exact ⟨_, _, _, _, _, _, _, fun w => val_12 S sc9 _ _ _ _ _ _ _ (fun w => onum_c 12 S sc9 nb nn ns ec h18 (decide_eq_true cc) (decide_eq_true ce) rfl), fun w => rval_12c S sc9 nb nn ns ec h15 (decide_eq_true ce) (decide_eq_true cc)⟩
      · exact ⟨_, _, _, _, _, _, _, fun w => val_12 S sc9 _ _ _ _ _ _ _ (fun w => onum_b 12 S sc9 nb nn ns ec h18 (decide_eq_false cc) (decide_eq_true ce) rfl), fun w => rval_12b S sc9 nb nn ns ec h15 (decide_eq_true ce) (decide_eq_false cc)⟩
    · exact ⟨_, _, _, _, _, _, _, fun w => val_12 S sc9 _ _ _ _ _ _ _ (fun w => onum_a 12 S sc9 (decide_eq_false ce)), fun w => rval_12a S sc9 (decide_eq_false ce)⟩
  by_cases c14 : op = 14
  · subst c14
    by_cases ce : S.e = 0
    · cases cs : S.so with
      | false => exact ⟨_, _, _, _, _, _, _, fun w => val_14 S sc9 _ _ _ _ _ _ _ (fun w => onum_d 14 S sc9 cs (decide_eq_true ce) rfl), fun w => rval_14d S sc9 cs (decide_eq_true ce)⟩
      | true => exact ⟨_, _, _, _, _, _, _, fun w => val_14 S sc9 _ _ _ _ _ _ _ (fun w => onum_f 14 S sc9 cs (decide_eq_true ce) rfl rfl), fun w => rval_14f S sc9 cs (decide_eq_true ce)⟩
    · exact ⟨_, _, _, _, _, _, _, fun w => val_14 S sc9 _ _ _ _ _ _ _ (fun w => onum_a 14 S sc9 (decide_eq_false ce)), fun w => rval_14a S sc9 (decide_eq_false ce)⟩
  by_cases c15 : op = 15
  · subst c15
    by_cases ce : S.e = 0
    · cases cs : S.so with
      | false => exact ⟨_, _, _, _, _, _, _, fun w => val_15 S sc9 _ _ _ _ _ _ _ (fun w => onum_d 15 S sc9 cs (decide_eq_true ce) rfl), fun w => rval_15d S sc9 cs (decide_eq_true ce)⟩
      | true => exact ⟨_, _, _, _, _, _, _, fun w => val_15 S sc9 _ _ _ _ _ _ _ (fun w => onum_g 15 S sc9 cs (decide_eq_true ce) rfl rfl), fun w => rval_15f S sc9 cs (decide_eq_true ce)⟩
    · exact ⟨_, _, _, _, _, _, _, fun w => val_15 S sc9 _ _ _ _ _ _ _ (fun w => onum_a 15 S sc9 (decide_eq_false ce)), fun w => rval_15a S sc9 (decide_eq_false ce)⟩
  exact ⟨_, _, _, _, _, _, _, fun w => val_x op S sc9 (decide_eq_false c16) (decide_eq_false c13) (decide_eq_false c12) (decide_eq_false c14) (decide_eq_false c15), fun w => rval_x op S sc9 (decide_eq_false c16) (decide_eq_false c13) (decide_eq_false c12) (decide_eq_false c14) (decide_eq_false c15)⟩
theorem values_n (op : Int) (S : Sm) (sc9 : Int) (hr : -9223372036854775808 ≤ S.r ∧ S.r < 9223372036854775808) (hf : -9223372036854775808 ≤ S.f ∧ S.f < 9223372036854775808) : Calls Try.prog 5 #[.int .i64 op, smv S, .int .i64 sc9] w fun e w' => e = .returned (.bool true) ∧ Mo w w' := by
  obtain ⟨nb, nn, ns, ec, hn⟩ := nrw_form S.tt sc9
  have h18 : ∀ w, Calls Try.prog 18 #[wv S.tt, .int .i64 sc9] w fun e w' => e = .returned (.tuple #[dc nb nn ns, .int .i64 ec]) ∧ Mo w w' := fun w => by rw [← hn]; exact narrow_n S.tt sc9
  have h15 : ∀ w, Calls Try.prog 15 #[wv S.tt, .int .i64 sc9] w fun e w' => e = .returned (.tuple #[dc nb nn ns, .int .i64 ec]) ∧ Mo w w' := fun w => by rw [← hn]; exact rnarrow_n S.tt sc9
  obtain ⟨rK, rb, rn, rs, rf, rt, re, hv1, hv2⟩ := vals op S sc9 hr hf
  refine w_enter 46 Try.func5 Try.ntmps5 rfl rfl ?_
  have M : Mo w w := Mo.refl _
  refine w_seq ?_
  refine w_reg ?_
  refine wl_box 33 (.tmp 1) (.agg #[.int .i64 (S.r), .int .i64 (S.f), .int .i64 (S.k), .int .i64 (S.d), .int .i64 (S.e), .int .u64 (l0 (S.tt)), .int .u64 (l1 (S.tt)), .int .u64 (l2 (S.tt)), .int .u64 (l3 (S.tt)), .int .u64 (l4 (S.tt)), .bool S.so, .bool S.mn.b, .int .u64 (l0 (S.mn.n)), .int .u64 (l1 (S.mn.n)), .int .u64 (l2 (S.mn.n)), .int .u64 (l3 (S.mn.n)), .int .i64 (S.mn.s), .bool S.mx.b, .int .u64 (l0 (S.mx.n)), .int .u64 (l1 (S.mx.n)), .int .u64 (l2 (S.mx.n)), .int .u64 (l3 (S.mx.n)), .int .i64 (S.mx.s)]) (#[.int .i64 (S.r), .int .i64 (S.f), .int .i64 (S.k), .int .i64 (S.d), .int .i64 (S.e), .int .u64 (l0 (S.tt)), .int .u64 (l1 (S.tt)), .int .u64 (l2 (S.tt)), .int .u64 (l3 (S.tt)), .int .u64 (l4 (S.tt)), .bool S.so, .bool S.mn.b, .int .u64 (l0 (S.mn.n)), .int .u64 (l1 (S.mn.n)), .int .u64 (l2 (S.mn.n)), .int .u64 (l3 (S.mn.n)), .int .i64 (S.mn.s), .bool S.mx.b, .int .u64 (l0 (S.mx.n)), .int .u64 (l1 (S.mx.n)), .int .u64 (l2 (S.mx.n)), .int .u64 (l3 (S.mx.n)), .int .i64 (S.mx.s)]) rfl rfl (fun _ => by kernel_rfl) rfl ?_
  intro k1 w1 hk hz hq Q1
  have N_k1 : w.heap.size ≤ k1 := by have := M.size; omega
  replace M := M.trans hq
  clear hk hz hq
  refine wl_mv (.const (.bool false)) (.bool false) (fun _ => rfl) rfl rfl ?_
  refine w_nil ?_
  refine xn_then ?_
  refine w_seq ?_
  refine w_reg ?_
  refine wl_load 33 (.tmp 4) (pt k1 0) (.agg #[.int .i64 (S.r), .int .i64 (S.f), .int .i64 (S.k), .int .i64 (S.d), .int .i64 (S.e), .int .u64 (l0 (S.tt)), .int .u64 (l1 (S.tt)), .int .u64 (l2 (S.tt)), .int .u64 (l3 (S.tt)), .int .u64 (l4 (S.tt)), .bool S.so, .bool S.mn.b, .int .u64 (l0 (S.mn.n)), .int .u64 (l1 (S.mn.n)), .int .u64 (l2 (S.mn.n)), .int .u64 (l3 (S.mn.n)), .int .i64 (S.mn.s), .bool S.mx.b, .int .u64 (l0 (S.mx.n)), .int .u64 (l1 (S.mx.n)), .int .u64 (l2 (S.mx.n)), .int .u64 (l3 (S.mx.n)), .int .i64 (S.mx.s)]) rfl rfl (run_row Q1 33 0 23 [.int .i64 (S.r), .int .i64 (S.f), .int .i64 (S.k), .int .i64 (S.d), .int .i64 (S.e), .int .u64 (l0 (S.tt)), .int .u64 (l1 (S.tt)), .int .u64 (l2 (S.tt)), .int .u64 (l3 (S.tt)), .int .u64 (l4 (S.tt)), .bool S.so, .bool S.mn.b, .int .u64 (l0 (S.mn.n)), .int .u64 (l1 (S.mn.n)), .int .u64 (l2 (S.mn.n)), .int .u64 (l3 (S.mn.n)), .int .i64 (S.mn.s), .bool S.mx.b, .int .u64 (l0 (S.mx.n)), .int .u64 (l1 (S.mx.n)), .int .u64 (l2 (S.mx.n)), .int .u64 (l3 (S.mx.n)), .int .i64 (S.mx.s)] rfl Try.underlying33 rfl sz33) rfl ?_
  refine wl_mv (.tmp 2) (.int .i64 (sc9)) (fun _ => rfl) rfl rfl ?_
  refine wl_call 14 [(.tmp 12), (.tmp 13)] _ [.agg #[.int .i64 (S.r), .int .i64 (S.f), .int .i64 (S.k), .int .i64 (S.d), .int .i64 (S.e), .int .u64 (l0 (S.tt)), .int .u64 (l1 (S.tt)), .int .u64 (l2 (S.tt)), .int .u64 (l3 (S.tt)), .int .u64 (l4 (S.tt)), .bool S.so, .bool S.mn.b, .int .u64 (l0 (S.mn.n)), .int .u64 (l1 (S.mn.n)), .int .u64 (l2 (S.mn.n)), .int .u64 (l3 (S.mn.n)), .int .i64 (S.mn.s), .bool S.mx.b, .int .u64 (l0 (S.mx.n)), .int .u64 (l1 (S.mx.n)), .int .u64 (l2 (S.mx.n)), .int .u64 (l3 (S.mx.n)), .int .i64 (S.mx.s)], .int .i64 (sc9)] (.tuple #[.agg #[.bool nb, .int .u64 (l0 (nn)), .int .u64 (l1 (nn)), .int .u64 (l2 (nn)), .int .u64 (l3 (nn)), .int .i64 (ns)], .int .i64 (ec)]) rfl rfl (fun _ _ => by kernel_rfl) (total_n S sc9 nb nn ns ec h18) rfl ?_
  intro w2 hq
  replace Q1 := Q1.mo hq
  replace M := M.trans hq
  clear hq
  refine wl_mv (.tmp 14) (.tuple #[.agg #[.bool nb, .int .u64 (l0 (nn)), .int .u64 (l1 (nn)), .int .u64 (l2 (nn)), .int .u64 (l3 (nn)), .int .i64 (ns)], .int .i64 (ec)]) (fun _ => rfl) rfl rfl ?_
  refine wl_un (fun v => Instr.extract v 0) (.tmp 11) (.tuple #[.agg #[.bool nb, .int .u64 (l0 (nn)), .int .u64 (l1 (nn)), .int .u64 (l2 (nn)), .int .u64 (l3 (nn)), .int .i64 (ns)], .int .i64 (ec)]) (.agg #[.bool nb, .int .u64 (l0 (nn)), .int .u64 (l1 (nn)), .int .u64 (l2 (nn)), .int .u64 (l3 (nn)), .int .i64 (ns)]) (fun _ => rfl) rfl (by kernel_rfl) rfl ?_
  refine wl_un (fun v => Instr.extract v 1) (.tmp 11) (.tuple #[.agg #[.bool nb, .int .u64 (l0 (nn)), .int .u64 (l1 (nn)), .int .u64 (l2 (nn)), .int .u64 (l3 (nn)), .int .i64 (ns)], .int .i64 (ec)]) (.int .i64 (ec)) (fun _ => rfl) rfl (by kernel_rfl) rfl ?_
  refine wl_alloc 26 #[.bool false, .int .u64 0, .int .u64 0, .int .u64 0, .int .u64 0, .int .i64 0] rfl (fun _ => by kernel_rfl) rfl ?_
  intro k2 w3 hk hz hq Q2
  have ne_k1_k2 : k1 ≠ k2 := by have := Q1.lt; omega
  have N_k2 : w.heap.size ≤ k2 := by have := M.size; omega
  replace Q1 := Q1.mo hq
  replace M := M.trans hq
  clear hk hz hq
  refine wl_st 26 (.tmp 7) (.tmp 15) k2 0 #[.bool nb, .int .u64 (l0 (nn)), .int .u64 (l1 (nn)), .int .u64 (l2 (nn)), .int .u64 (l3 (nn)), .int .i64 (ns)] [.bool false, .int .u64 0, .int .u64 0, .int .u64 0, .int .u64 0, .int .i64 0] [.bool nb, .int .u64 (l0 (nn)), .int .u64 (l1 (nn)), .int .u64 (l2 (nn)), .int .u64 (l3 (nn)), .int .i64 (ns)] Q2 rfl rfl rfl rfl rfl sz26 rfl rfl rfl ?_
  intro w4 hS Qn
  replace Q2 := Qn
  clear Qn
  replace Q1 := hS.other _ _ ne_k1_k2 Q1
  replace M := hS.mo _ N_k2 M
  clear hS
  refine wl_mv (.tmp 16) (.int .i64 (ec)) (fun _ => rfl) rfl rfl ?_
  refine w_nil ?_
  refine xn_then ?_
  refine w_seq ?_
  refine w_reg ?_
  refine wl_un (fun v => Instr.fieldAt 33 v 5) (.tmp 4) (pt k1 0) (pt k1 5) (fun _ => rfl) rfl (by kernel_rfl) rfl ?_
  refine wl_load 31 (.tmp 18) (pt k1 5) (.agg #[.int .u64 (l0 (S.tt)), .int .u64 (l1 (S.tt)), .int .u64 (l2 (S.tt)), .int .u64 (l3 (S.tt)), .int .u64 (l4 (S.tt))]) rfl rfl (run_row Q1 31 5 5 [.int .u64 (l0 (S.tt)), .int .u64 (l1 (S.tt)), .int .u64 (l2 (S.tt)), .int .u64 (l3 (S.tt)), .int .u64 (l4 (S.tt))] rfl Try.underlying31 rfl sz31) rfl ?_
  refine wl_mv (.tmp 2) (.int .i64 (sc9)) (fun _ => rfl) rfl rfl ?_
  refine wl_call 15 [(.tmp 19), (.tmp 20)] _ [.agg #[.int .u64 (l0 (S.tt)), .int .u64 (l1 (S.tt)), .int .u64 (l2 (S.tt)), .int .u64 (l3 (S.tt)), .int .u64 (l4 (S.tt))], .int .i64 (sc9)] (.tuple #[.agg #[.bool nb, .int .u64 (l0 (nn)), .int .u64 (l1 (nn)), .int .u64 (l2 (nn)), .int .u64 (l3 (nn)), .int .i64 (ns)], .int .i64 (ec)]) rfl rfl (fun _ _ => by kernel_rfl) (h15 _) rfl ?_
  intro w5 hq
  replace Q1 := Q1.mo hq
  replace Q2 := Q2.mo hq
  replace M := M.trans hq
  clear hq
  refine wl_mv (.tmp 21) (.tuple #[.agg #[.bool nb, .int .u64 (l0 (nn)), .int .u64 (l1 (nn)), .int .u64 (l2 (nn)), .int .u64 (l3 (nn)), .int .i64 (ns)], .int .i64 (ec)]) (fun _ => rfl) rfl rfl ?_
  refine wl_un (fun v => Instr.extract v 0) (.tmp 17) (.tuple #[.agg #[.bool nb, .int .u64 (l0 (nn)), .int .u64 (l1 (nn)), .int .u64 (l2 (nn)), .int .u64 (l3 (nn)), .int .i64 (ns)], .int .i64 (ec)]) (.agg #[.bool nb, .int .u64 (l0 (nn)), .int .u64 (l1 (nn)), .int .u64 (l2 (nn)), .int .u64 (l3 (nn)), .int .i64 (ns)]) (fun _ => rfl) rfl (by kernel_rfl) rfl ?_
  refine wl_un (fun v => Instr.extract v 1) (.tmp 17) (.tuple #[.agg #[.bool nb, .int .u64 (l0 (nn)), .int .u64 (l1 (nn)), .int .u64 (l2 (nn)), .int .u64 (l3 (nn)), .int .i64 (ns)], .int .i64 (ec)]) (.int .i64 (ec)) (fun _ => rfl) rfl (by kernel_rfl) rfl ?_
  refine wl_alloc 26 #[.bool false, .int .u64 0, .int .u64 0, .int .u64 0, .int .u64 0, .int .i64 0] rfl (fun _ => by kernel_rfl) rfl ?_
  intro k3 w6 hk hz hq Q3
  have ne_k1_k3 : k1 ≠ k3 := by have := Q1.lt; omega
  have ne_k2_k3 : k2 ≠ k3 := by have := Q2.lt; omega
  have N_k3 : w.heap.size ≤ k3 := by have := M.size; omega
  replace Q1 := Q1.mo hq
  replace Q2 := Q2.mo hq
  replace M := M.trans hq
  clear hk hz hq
  refine wl_st 26 (.tmp 9) (.tmp 22) k3 0 #[.bool nb, .int .u64 (l0 (nn)), .int .u64 (l1 (nn)), .int .u64 (l2 (nn)), .int .u64 (l3 (nn)), .int .i64 (ns)] [.bool false, .int .u64 0, .int .u64 0, .int .u64 0, .int .u64 0, .int .i64 0] [.bool nb, .int .u64 (l0 (nn)), .int .u64 (l1 (nn)), .int .u64 (l2 (nn)), .int .u64 (l3 (nn)), .int .i64 (ns)] Q3 rfl rfl rfl rfl rfl sz26 rfl rfl rfl ?_
  intro w7 hS Qn
  replace Q3 := Qn
  clear Qn
  replace Q1 := hS.other _ _ ne_k1_k3 Q1
  replace Q2 := hS.other _ _ ne_k2_k3 Q2
  replace M := hS.mo _ N_k3 M
  clear hS
  refine wl_mv (.tmp 23) (.int .i64 (ec)) (fun _ => rfl) rfl rfl ?_
  refine w_nil ?_
  refine xn_then ?_
  refine w_seq ?_
  refine w_any 20 [.inl (.bool true), .inl (.bool true), .inl (.int .i64 (op)), .inl (.agg #[.int .i64 (S.r), .int .i64 (S.f), .int .i64 (S.k), .int .i64 (S.d), .int .i64 (S.e), .int .u64 (l0 (S.tt)), .int .u64 (l1 (S.tt)), .int .u64 (l2 (S.tt)), .int .u64 (l3 (S.tt)), .int .u64 (l4 (S.tt)), .bool S.so, .bool S.mn.b, .int .u64 (l0 (S.mn.n)), .int .u64 (l1 (S.mn.n)), .int .u64 (l2 (S.mn.n)), .int .u64 (l3 (S.mn.n)), .int .i64 (S.mn.s), .bool S.mx.b, .int .u64 (l0 (S.mx.n)), .int .u64 (l1 (S.mx.n)), .int .u64 (l2 (S.mx.n)), .int .u64 (l3 (S.mx.n)), .int .i64 (S.mx.s)]), .inl (.int .i64 (sc9)), .inl (.agg #[.int .i64 (rK), .bool rb, .int .u64 (l0 (rn)), .int .u64 (l1 (rn)), .int .u64 (l2 (rn)), .int .u64 (l3 (rn)), .int .i64 (rs), .bool rf, .string rt, .int .i64 (re)]), .inl (.int .i64 (op)), .inl (.agg #[.int .i64 (S.r), .int .i64 (S.f), .int .i64 (S.k), .int .i64 (S.d), .int .i64 (S.e), .int .u64 (l0 (S.tt)), .int .u64 (l1 (S.tt)), .int .u64 (l2 (S.tt)), .int .u64 (l3 (S.tt)), .int .u64 (l4 (S.tt)), .bool S.so, .bool S.mn.b, .int .u64 (l0 (S.mn.n)), .int .u64 (l1 (S.mn.n)), .int .u64 (l2 (S.mn.n)), .int .u64 (l3 (S.mn.n)), .int .i64 (S.mn.s), .bool S.mx.b, .int .u64 (l0 (S.mx.n)), .int .u64 (l1 (S.mx.n)), .int .u64 (l2 (S.mx.n)), .int .u64 (l3 (S.mx.n)), .int .i64 (S.mx.s)]), .inl (.int .i64 (sc9)), .inl (.agg #[.int .i64 (rK), .bool rb, .int .u64 (l0 (rn)), .int .u64 (l1 (rn)), .int .u64 (l2 (rn)), .int .u64 (l3 (rn)), .int .i64 (rs), .bool rf, .string rt, .int .i64 (re)]), .inl (.bool true), .inl (.bool true), .inl (.bool true), .inl (.agg #[.bool nb, .int .u64 (l0 (nn)), .int .u64 (l1 (nn)), .int .u64 (l2 (nn)), .int .u64 (l3 (nn)), .int .i64 (ns)]), .inl (.agg #[.bool nb, .int .u64 (l0 (nn)), .int .u64 (l1 (nn)), .int .u64 (l2 (nn)), .int .u64 (l3 (nn)), .int .i64 (ns)]), .inl (.bool true), .inl (.bool true), .inl (.bool true), .inl (.int .i64 (ec)), .inl (.int .i64 (ec))] [] (by kernel_rfl) (by kernel_rfl) (by kernel_rfl) (by kernel_rfl) rfl (by kernel_rfl) (by kernel_rfl) late_nil ?_ ?_ ?_
  · exact Ds.none rfl
  · refine ea_cons ?_ (ea_cons ?_ (ea_cons ?_ (ea_cons ?_ (ea_cons ?_ (ea_cons ?_ (ea_cons ?_ (ea_cons ?_ (ea_cons ?_ (ea_cons ?_ (ea_cons ?_ (ea_cons ?_ (ea_cons ?_ (ea_cons ?_ (ea_cons ?_ (ea_cons ?_ (ea_cons ?_ (ea_cons ?_ (ea_cons ?_ (ea_cons ?_ (ea_nil))))))))))))))))))))
    · exact og_eq (.bool true) rfl (fun f wf hq hd K hK => go_run rfl (wo_call 9 [] _ [] (.bool true) rfl rfl (fun _ _ => by kernel_rfl) (live_n) hK))
    · exact og_eq (.bool true) rfl (fun f wf hq hd K hK => go_run rfl (wo_mv (.tmp 24) (.bool true) (fun _ => rfl) (hd 0 rfl) (hK _ (Mo.refl _))))
    · exact og_eq (.int .i64 (op)) rfl (fun f wf hq hd K hK => go_run (wnt_g rfl rfl rfl (hd 1 rfl) rfl) (wo_mv (.tmp 0) (.int .i64 (op)) (fun _ => rfl) rfl (hK _ (Mo.refl _))))
    · exact og_eq (.agg #[.int .i64 (S.r), .int .i64 (S.f), .int .i64 (S.k), .int .i64 (S.d), .int .i64 (S.e), .int .u64 (l0 (S.tt)), .int .u64 (l1 (S.tt)), .int .u64 (l2 (S.tt)), .int .u64 (l3 (S.tt)), .int .u64 (l4 (S.tt)), .bool S.so, .bool S.mn.b, .int .u64 (l0 (S.mn.n)), .int .u64 (l1 (S.mn.n)), .int .u64 (l2 (S.mn.n)), .int .u64 (l3 (S.mn.n)), .int .i64 (S.mn.s), .bool S.mx.b, .int .u64 (l0 (S.mx.n)), .int .u64 (l1 (S.mx.n)), .int .u64 (l2 (S.mx.n)), .int .u64 (l3 (S.mx.n)), .int .i64 (S.mx.s)]) rfl (fun f wf hq hd K hK => have Q1 := Q1.mo hq; go_run (wnt_g rfl rfl rfl (hd 1 rfl) rfl) (wo_load 33 (.tmp 4) (pt k1 0) (.agg #[.int .i64 (S.r), .int .i64 (S.f), .int .i64 (S.k), .int .i64 (S.d), .int .i64 (S.e), .int .u64 (l0 (S.tt)), .int .u64 (l1 (S.tt)), .int .u64 (l2 (S.tt)), .int .u64 (l3 (S.tt)), .int .u64 (l4 (S.tt)), .bool S.so, .bool S.mn.b, .int .u64 (l0 (S.mn.n)), .int .u64 (l1 (S.mn.n)), .int .u64 (l2 (S.mn.n)), .int .u64 (l3 (S.mn.n)), .int .i64 (S.mn.s), .bool S.mx.b, .int .u64 (l0 (S.mx.n)), .int .u64 (l1 (S.mx.n)), .int .u64 (l2 (S.mx.n)), .int .u64 (l3 (S.mx.n)), .int .i64 (S.mx.s)]) rfl rfl (run_row Q1 33 0 23 [.int .i64 (S.r), .int .i64 (S.f), .int .i64 (S.k), .int .i64 (S.d), .int .i64 (S.e), .int .u64 (l0 (S.tt)), .int .u64 (l1 (S.tt)), .int .u64 (l2 (S.tt)), .int .u64 (l3 (S.tt)), .int .u64 (l4 (S.tt)), .bool S.so, .bool S.mn.b, .int .u64 (l0 (S.mn.n)), .int .u64 (l1 (S.mn.n)), .int .u64 (l2 (S.mn.n)), .int .u64 (l3 (S.mn.n)), .int .i64 (S.mn.s), .bool S.mx.b, .int .u64 (l0 (S.mx.n)), .int .u64 (l1 (S.mx.n)), .int .u64 (l2 (S.mx.n)), .int .u64 (l3 (S.mx.n)), .int .i64 (S.mx.s)] rfl Try.underlying33 rfl sz33) (hK _ (Mo.refl _))))
    · exact og_eq (.int .i64 (sc9)) rfl (fun f wf hq hd K hK => go_run (wnt_g rfl rfl rfl (hd 1 rfl) rfl) (wo_mv (.tmp 2) (.int .i64 (sc9)) (fun _ => rfl) rfl (hK _ (Mo.refl _))))
    · exact og_eq (.agg #[.int .i64 (rK), .bool rb, .int .u64 (l0 (rn)), .int .u64 (l1 (rn)), .int .u64 (l2 (rn)), .int .u64 (l3 (rn)), .int .i64 (rs), .bool rf, .string rt, .int .i64 (re)]) rfl (fun f wf hq hd K hK => go_run (wnt_g rfl rfl rfl (hd 1 rfl) rfl) (wo_call 16 [(.tmp 26), (.tmp 27), (.tmp 28)] _ [.int .i64 (op), .agg #[.int .i64 (S.r), .int .i64 (S.f), .int .i64 (S.k), .int .i64 (S.d), .int .i64 (S.e), .int .u64 (l0 (S.tt)), .int .u64 (l1 (S.tt)), .int .u64 (l2 (S.tt)), .int .u64 (l3 (S.tt)), .int .u64 (l4 (S.tt)), .bool S.so, .bool S.mn.b, .int .u64 (l0 (S.mn.n)), .int .u64 (l1 (S.mn.n)), .int .u64 (l2 (S.mn.n)), .int .u64 (l3 (S.mn.n)), .int .i64 (S.mn.s), .bool S.mx.b, .int .u64 (l0 (S.mx.n)), .int .u64 (l1 (S.mx.n)), .int .u64 (l2 (S.mx.n)), .int .u64 (l3 (S.mx.n)), .int .i64 (S.mx.s)], .int .i64 (sc9)] (.agg #[.int .i64 (rK), .bool rb, .int .u64 (l0 (rn)), .int .u64 (l1 (rn)), .int .u64 (l2 (rn)), .int .u64 (l3 (rn)), .int .i64 (rs), .bool rf, .string rt, .int .i64 (re)]) rfl (li3 (hd 2 rfl) (hd 3 rfl) (hd 4 rfl)) (fun _ _ => by kernel_rfl) (hv1 _) hK))
    · exact og_eq (.int .i64 (op)) rfl (fun f wf hq hd K hK => go_run (wnt_g rfl rfl rfl (hd 1 rfl) rfl) (wo_mv (.tmp 0) (.int .i64 (op)) (fun _ => rfl) rfl (hK _ (Mo.refl _))))
    · exact og_eq (.agg #[.int .i64 (S.r), .int .i64 (S.f), .int .i64 (S.k), .int .i64 (S.d), .int .i64 (S.e), .int .u64 (l0 (S.tt)), .int .u64 (l1 (S.tt)), .int .u64 (l2 (S.tt)), .int .u64 (l3 (S.tt)), .int .u64 (l4 (S.tt)), .bool S.so, .bool S.mn.b, .int .u64 (l0 (S.mn.n)), .int .u64 (l1 (S.mn.n)), .int .u64 (l2 (S.mn.n)), .int .u64 (l3 (S.mn.n)), .int .i64 (S.mn.s), .bool S.mx.b, .int .u64 (l0 (S.mx.n)), .int .u64 (l1 (S.mx.n)), .int .u64 (l2 (S.mx.n)), .int .u64 (l3 (S.mx.n)), .int .i64 (S.mx.s)]) rfl (fun f wf hq hd K hK => have Q1 := Q1.mo hq; go_run (wnt_g rfl rfl rfl (hd 1 rfl) rfl) (wo_load 33 (.tmp 4) (pt k1 0) (.agg #[.int .i64 (S.r), .int .i64 (S.f), .int .i64 (S.k), .int .i64 (S.d), .int .i64 (S.e), .int .u64 (l0 (S.tt)), .int .u64 (l1 (S.tt)), .int .u64 (l2 (S.tt)), .int .u64 (l3 (S.tt)), .int .u64 (l4 (S.tt)), .bool S.so, .bool S.mn.b, .int .u64 (l0 (S.mn.n)), .int .u64 (l1 (S.mn.n)), .int .u64 (l2 (S.mn.n)), .int .u64 (l3 (S.mn.n)), .int .i64 (S.mn.s), .bool S.mx.b, .int .u64 (l0 (S.mx.n)), .int .u64 (l1 (S.mx.n)), .int .u64 (l2 (S.mx.n)), .int .u64 (l3 (S.mx.n)), .int .i64 (S.mx.s)]) rfl rfl (run_row Q1 33 0 23 [.int .i64 (S.r), .int .i64 (S.f), .int .i64 (S.k), .int .i64 (S.d), .int .i64 (S.e), .int .u64 (l0 (S.tt)), .int .u64 (l1 (S.tt)), .int .u64 (l2 (S.tt)), .int .u64 (l3 (S.tt)), .int .u64 (l4 (S.tt)), .bool S.so, .bool S.mn.b, .int .u64 (l0 (S.mn.n)), .int .u64 (l1 (S.mn.n)), .int .u64 (l2 (S.mn.n)), .int .u64 (l3 (S.mn.n)), .int .i64 (S.mn.s), .bool S.mx.b, .int .u64 (l0 (S.mx.n)), .int .u64 (l1 (S.mx.n)), .int .u64 (l2 (S.mx.n)), .int .u64 (l3 (S.mx.n)), .int .i64 (S.mx.s)] rfl Try.underlying33 rfl sz33) (hK _ (Mo.refl _))))
    · exact og_eq (.int .i64 (sc9)) rfl (fun f wf hq hd K hK => go_run (wnt_g rfl rfl rfl (hd 1 rfl) rfl) (wo_mv (.tmp 2) (.int .i64 (sc9)) (fun _ => rfl) rfl (hK _ (Mo.refl _))))
    · exact og_eq (.agg #[.int .i64 (rK), .bool rb, .int .u64 (l0 (rn)), .int .u64 (l1 (rn)), .int .u64 (l2 (rn)), .int .u64 (l3 (rn)), .int .i64 (rs), .bool rf, .string rt, .int .i64 (re)]) rfl (fun f wf hq hd K hK => go_run (wnt_g rfl rfl rfl (hd 1 rfl) rfl) (wo_call 17 [(.tmp 30), (.tmp 31), (.tmp 32)] _ [.int .i64 (op), .agg #[.int .i64 (S.r), .int .i64 (S.f), .int .i64 (S.k), .int .i64 (S.d), .int .i64 (S.e), .int .u64 (l0 (S.tt)), .int .u64 (l1 (S.tt)), .int .u64 (l2 (S.tt)), .int .u64 (l3 (S.tt)), .int .u64 (l4 (S.tt)), .bool S.so, .bool S.mn.b, .int .u64 (l0 (S.mn.n)), .int .u64 (l1 (S.mn.n)), .int .u64 (l2 (S.mn.n)), .int .u64 (l3 (S.mn.n)), .int .i64 (S.mn.s), .bool S.mx.b, .int .u64 (l0 (S.mx.n)), .int .u64 (l1 (S.mx.n)), .int .u64 (l2 (S.mx.n)), .int .u64 (l3 (S.mx.n)), .int .i64 (S.mx.s)], .int .i64 (sc9)] (.agg #[.int .i64 (rK), .bool rb, .int .u64 (l0 (rn)), .int .u64 (l1 (rn)), .int .u64 (l2 (rn)), .int .u64 (l3 (rn)), .int .i64 (rs), .bool rf, .string rt, .int .i64 (re)]) rfl (li3 (hd 6 rfl) (hd 7 rfl) (hd 8 rfl)) (fun _ _ => by kernel_rfl) (hv2 _) hK))
    · exact og_eq (.bool true) rfl (fun f wf hq hd K hK => go_run (wnt_g rfl rfl rfl (hd 1 rfl) rfl) (wo_bin (fun x y => do eqGuard .eql 28 (.tmp 29) (.tmp 33) x y; binOp .eql 28 x y) (.tmp 29) (.tmp 33) (.agg #[.int .i64 (rK), .bool rb, .int .u64 (l0 (rn)), .int .u64 (l1 (rn)), .int .u64 (l2 (rn)), .int .u64 (l3 (rn)), .int .i64 (rs), .bool rf, .string rt, .int .i64 (re)]) (.agg #[.int .i64 (rK), .bool rb, .int .u64 (l0 (rn)), .int .u64 (l1 (rn)), .int .u64 (l2 (rn)), .int .u64 (l3 (rn)), .int .i64 (rs), .bool rf, .string rt, .int .i64 (re)]) (.bool true) (fun _ => rfl) (hd 5 rfl) (hd 9 rfl) (eqv_run _ _ _ _ _ _ _ _ _ _ _ _ _) (hK _ (Mo.refl _))))
    · exact og_eq (.bool true) rfl (fun f wf hq hd K hK => go_run rfl (wo_pick (.tmp 25) (.tmp 34) (.const (.bool false)) true (.bool true) (fun _ => rfl) (hd 1 rfl) (hd 10 rfl) (hK _ (Mo.refl _))))
    · exact og_eq (.bool true) rfl (fun f wf hq hd K hK => go_run rfl (wo_mv (.tmp 35) (.bool true) (fun _ => rfl) (hd 11 rfl) (hK _ (Mo.refl _))))
    · exact og_eq (.agg #[.bool nb, .int .u64 (l0 (nn)), .int .u64 (l1 (nn)), .int .u64 (l2 (nn)), .int .u64 (l3 (nn)), .int .i64 (ns)]) rfl (fun f wf hq hd K hK => have Q2 := Q2.mo hq; go_run (wnt_g rfl rfl rfl (hd 12 rfl) rfl) (wo_load 26 (.tmp 7) (pt k2 0) (.agg #[.bool nb, .int .u64 (l0 (nn)), .int .u64 (l1 (nn)), .int .u64 (l2 (nn)), .int .u64 (l3 (nn)), .int .i64 (ns)]) rfl rfl (run_row Q2 26 0 6 [.bool nb, .int .u64 (l0 (nn)), .int .u64 (l1 (nn)), .int .u64 (l2 (nn)), .int .u64 (l3 (nn)), .int .i64 (ns)] rfl Try.underlying26 rfl sz26) (hK _ (Mo.refl _))))
    · exact og_eq (.agg #[.bool nb, .int .u64 (l0 (nn)), .int .u64 (l1 (nn)), .int .u64 (l2 (nn)), .int .u64 (l3 (nn)), .int .i64 (ns)]) rfl (fun f wf hq hd K hK => have Q3 := Q3.mo hq; go_run (wnt_g rfl rfl rfl (hd 12 rfl) rfl) (wo_load 26 (.tmp 9) (pt k3 0) (.agg #[.bool nb, .int .u64 (l0 (nn)), .int .u64 (l1 (nn)), .int .u64 (l2 (nn)), .int .u64 (l3 (nn)), .int .i64 (ns)]) rfl rfl (run_row Q3 26 0 6 [.bool nb, .int .u64 (l0 (nn)), .int .u64 (l1 (nn)), .int .u64 (l2 (nn)), .int .u64 (l3 (nn)), .int .i64 (ns)] rfl Try.underlying26 rfl sz26) (hK _ (Mo.refl _))))
    · exact og_eq (.bool true) rfl (fun f wf hq hd K hK => go_run (wnt_g rfl rfl rfl (hd 12 rfl) rfl) (wo_bin (fun x y => do eqGuard .eql 26 (.tmp 37) (.tmp 38) x y; binOp .eql 26 x y) (.tmp 37) (.tmp 38) (.agg #[.bool nb, .int .u64 (l0 (nn)), .int .u64 (l1 (nn)), .int .u64 (l2 (nn)), .int .u64 (l3 (nn)), .int .i64 (ns)]) (.agg #[.bool nb, .int .u64 (l0 (nn)), .int .u64 (l1 (nn)), .int .u64 (l2 (nn)), .int .u64 (l3 (nn)), .int .i64 (ns)]) (.bool true) (fun _ => rfl) (hd 13 rfl) (hd 14 rfl) (eqd_same _ _ _ _ _ _ _ _ _) (hK _ (Mo.refl _))))
    · exact og_eq (.bool true) rfl (fun f wf hq hd K hK => go_run rfl (wo_pick (.tmp 36) (.tmp 39) (.const (.bool false)) true (.bool true) (fun _ => rfl) (hd 12 rfl) (hd 15 rfl) (hK _ (Mo.refl _))))
    · exact og_eq (.bool true) rfl (fun f wf hq hd K hK => go_run rfl (wo_mv (.tmp 40) (.bool true) (fun _ => rfl) (hd 16 rfl) (hK _ (Mo.refl _))))
    · exact og_eq (.int .i64 (ec)) rfl (fun f wf hq hd K hK => go_run (wnt_g rfl rfl rfl (hd 17 rfl) rfl) (wo_mv (.tmp 8) (.int .i64 (ec)) (fun _ => rfl) rfl (hK _ (Mo.refl _))))
    · exact og_eq (.int .i64 (ec)) rfl (fun f wf hq hd K hK => go_run (wnt_g rfl rfl rfl (hd 17 rfl) rfl) (wo_mv (.tmp 10) (.int .i64 (ec)) (fun _ => rfl) rfl (hK _ (Mo.refl _))))
  intro kf8 w8 hq hR hne
  replace Q1 := Q1.mo hq
  replace Q2 := Q2.mo hq
  replace Q3 := Q3.mo hq
  replace M := M.trans hq
  clear hq hR hne
  refine wl_bin (fun x y => do eqGuard .eql 40 (.tmp 42) (.tmp 43) x y; binOp .eql 40 x y) (.tmp 42) (.tmp 43) (.int .i64 (ec)) (.int .i64 (ec)) (.bool true) (fun _ => rfl) rfl rfl (eqE (decide_eq_true rfl) _ _ _) rfl ?_
  refine wl_pick (.tmp 41) (.tmp 44) (.const (.bool false)) true (.bool true) (fun _ => rfl) rfl rfl rfl ?_
  refine wl_mv (.tmp 45) (.bool true) (fun _ => rfl) rfl rfl ?_
  refine w_nil ?_
  refine xn_then ?_
  refine w_ret ?_
  exact w_ret1 _ (.bool true) rfl rfl ⟨rfl, M⟩
end
end Go.Proofs.Ythpekbohmfmffaa
/-
  A summary that came in.
-/
namespace Go.Proofs.Ythpekbohmfmffaa
open Go.ChangeShapes Go.WideShapes Go.ChangeAt
open Go.RowKit
theorem Try.laidOut : laidOutB Try.prog = true := by kernel_rfl
theorem trodAll_stays {H : Type} {enc : TypeId × Value → H} {W W' : World} {sp' : Nat → Bool} : ∀ {ts : List TypeId} {vs : List Value} {ds : List (DataW H)} {ps : List MemPlace}, (∀ t ∈ ts, Try.prog.readableRec t = true ∧ t < Try.prog.types.size) → DataW.TrodAll enc Try.prog W 0 (fun _ => true) true ts vs ds ps → (∀ p ∈ ps, W.sameAt W' p) → (∀ p ∈ ps, sp' p.block = true) → DataW.TrodAll enc Try.prog W' 0 sp' true ts vs ds ps
  | [], [], [], _, _, h, _, _ => h
  | _ :: _, _ :: _, _ :: _, _, hT, ⟨p, q, h1, h2, e⟩, hm, hs => ⟨p, q, WideElems.Trod_stays Try.laidOut (hT _ (List.mem_cons.2 (Or.inl rfl))).1 (hT _ (List.mem_cons.2 (Or.inl rfl))).2 h1 (fun x hx => hm x (by rw [e]; exact List.mem_append_left _ hx)) (fun x hx => hs x (by rw [e]; exact List.mem_append_left _ hx)),
      trodAll_stays (fun t ht => hT t (List.mem_cons.2 (Or.inr ht))) h2 (fun x hx => hm x (by rw [e]; exact List.mem_append_right _ hx)) (fun x hx => hs x (by rw [e]; exact List.mem_append_right _ hx)), e⟩
section
variable {H : Type} {enc : TypeId × Value → H} {W : World} {sp : Nat → Bool} {fuel : Nat} {cs : List Value} {x : DataW H × List MemPlace}
theorem cut4 (h : DataW.trod enc Try.prog W 0 sp true fuel 24 cs = some x) : ∃ n : Int, (0 ≤ n ∧ n < MM) ∧ cs = [.int .u64 (l0 n), .int .u64 (l1 n), .int .u64 (l2 n), .int .u64 (l3 n)] := by
  obtain ⟨xs, m, rfl, _, hlen, hn, hi⟩ := DataW.trod_array Try.underlying24 h
  rw [Try.cl24] at hlen
  obtain ⟨c0, c1, c2, c3, rfl⟩ : ∃ c0 c1 c2 c3, cs = [c0, c1, c2, c3] := by
    match cs, hlen with
    | [a, b, c, d], _ => exact ⟨a, b, c, d, rfl⟩
  obtain ⟨y0, y1, y2, y3, rfl⟩ : ∃ y0 y1 y2 y3, xs = [y0, y1, y2, y3] := by
    match xs, hn with
    | [a, b, c, d], _ => exact ⟨a, b, c, d, rfl⟩
  have i0 := hi 0 (by decide)
  have i1 := hi 1 (by decide)
  have i2 := hi 2 (by decide)
  have i3 := hi 3 (by decide)
  simp only [Try.cl22] at i0 i1 i2 i3
  simp at i0 i1 i2 i3
  obtain ⟨x0, e0, _, w0⟩ := DataW.trod_int Try.underlying22 i0
  obtain ⟨x1, e1, _, w1⟩ := DataW.trod_int Try.underlying22 i1
  obtain ⟨x2, e2, _, w2⟩ := DataW.trod_int Try.underlying22 i2
  obtain ⟨x3, e3, _, w3⟩ := DataW.trod_int Try.underlying22 i3
  simp at e0 e1 e2 e3
  subst e0 e1 e2 e3
  have u : U4 x0 x1 x2 x3 := ⟨wf_u1 w0, wf_u1 w1, wf_u1 w2, wf_u1 w3⟩
  exact ⟨vl x0 x1 x2 x3, vl_bd u, by rw [l0_vl u, l1_vl u, l2_vl u, l3_vl u]⟩
theorem cut6 (h : DataW.trod enc Try.prog W 0 sp true fuel 26 cs = some x) : ∃ d : D3, d.ok ∧ (-9223372036854775808 ≤ d.s ∧ d.s < 9223372036854775808) ∧ cs = [.bool d.b, .int .u64 (l0 d.n), .int .u64 (l1 d.n), .int .u64 (l2 d.n), .int .u64 (l3 d.n), .int .i64 d.s] := by
  obtain ⟨y0, y1, y2, m, _, hl, h0, h1, h2⟩ := Go.Deep.trod_struct3 Try.underlying26 h
  rw [Try.cl40] at hl
  obtain ⟨c0, c1, c2, c3, c4, c5, rfl⟩ : ∃ c0 c1 c2 c3 c4 c5, cs = [c0, c1, c2, c3, c4, c5] := by
    match cs, hl with
    | [a, b, c, d, e, f], _ => exact ⟨a, b, c, d, e, f, rfl⟩
  simp [Try.cl4, Try.cl24, Try.cl3] at h0 h1 h2
  obtain ⟨b, e0, _⟩ := DataW.trod_bool Try.underlying4 h0
  obtain ⟨n, hn, e1⟩ := cut4 h1
  obtain ⟨s, e2, _, w2⟩ := DataW.trod_int Try.underlying3 h2
  simp at e0 e1 e2
  obtain ⟨e10, e11, e12, e13⟩ := e1
  subst e0 e10 e11 e12 e13 e2
  exact ⟨⟨b, n, s⟩, hn, wf_i1 w2, rfl⟩
theorem cut5 (h : DataW.trod enc Try.prog W 0 sp true fuel 31 cs = some x) : ∃ z : Int, cs = [.int .u64 (l0 z), .int .u64 (l1 z), .int .u64 (l2 z), .int .u64 (l3 z), .int .u64 (l4 z)] := by
  obtain ⟨xs, m, rfl, _, hlen, hn, hi⟩ := DataW.trod_array Try.underlying31 h
  rw [Try.cl31] at hlen
  obtain ⟨c0, c1, c2, c3, c4, rfl⟩ : ∃ c0 c1 c2 c3 c4, cs = [c0, c1, c2, c3, c4] := by
    match cs, hlen with
    | [a, b, c, d, e], _ => exact ⟨a, b, c, d, e, rfl⟩
  obtain ⟨y0, y1, y2, y3, y4, rfl⟩ : ∃ y0 y1 y2 y3 y4, xs = [y0, y1, y2, y3, y4] := by
    match xs, hn with
    | [a, b, c, d, e], _ => exact ⟨a, b, c, d, e, rfl⟩
  have i0 := hi 0 (by decide)
  have i1 := hi 1 (by decide)
  have i2 := hi 2 (by decide)
  have i3 := hi 3 (by decide)
  have i4 := hi 4 (by decide)
  simp only [Try.cl22] at i0 i1 i2 i3 i4
  simp at i0 i1 i2 i3 i4
  obtain ⟨x0, e0, _, w0⟩ := DataW.trod_int Try.underlying22 i0
  obtain ⟨x1, e1, _, w1⟩ := DataW.trod_int Try.underlying22 i1
  obtain ⟨x2, e2, _, w2⟩ := DataW.trod_int Try.underlying22 i2
  obtain ⟨x3, e3, _, w3⟩ := DataW.trod_int Try.underlying22 i3
  obtain ⟨x4, e4, _, w4⟩ := DataW.trod_int Try.underlying22 i4
  simp at e0 e1 e2 e3 e4
  subst e0 e1 e2 e3 e4
  have := wv_vl (wf_u1 w0) (wf_u1 w1) (wf_u1 w2) (wf_u1 w3) (wf_u1 w4)
  unfold wv at this
  simp at this
  obtain ⟨f0, f1, f2, f3, f4⟩ := this
  exact ⟨vl5 x0 x1 x2 x3 x4, by rw [f0, f1, f2, f3, f4]⟩
theorem Try.cl33 : Try.prog.cellsOf 33 = 23 := by kernel_rfl
def I9 (x : Int) : Prop := -9223372036854775808 ≤ x ∧ x < 9223372036854775808
set_option maxRecDepth 100000 in
theorem cut23 (h : DataW.trod enc Try.prog W 0 sp true fuel 33 cs = some x) : ∃ S : Sm, S.ok ∧ (I9 S.r ∧ I9 S.f ∧ I9 S.k ∧ I9 S.d ∧ I9 S.e) ∧ cs = sml S := by
  obtain ⟨xs, n, rfl, _, hl, hlen, hi⟩ := DataW.trod_struct Try.underlying33 h
  rw [Try.cl33] at hl
  obtain ⟨c0, c1, c2, c3, c4, c5, c6, c7, c8, c9, c10, c11, c12, c13, c14, c15, c16, c17, c18, c19, c20, c21, c22, rfl⟩ : ∃ c0 c1 c2 c3 c4 c5 c6 c7 c8 c9 c10 c11 c12 c13 c14 c15 c16 c17 c18 c19 c20 c21 c22, cs = [c0, c1, c2, c3, c4, c5, c6, c7, c8, c9, c10, c11, c12, c13, c14, c15, c16, c17, c18, c19, c20, c21, c22] := by
    match cs, hl with
    | [a0, a1, a2, a3, a4, a5, a6, a7, a8, a9, a10, a11, a12, a13, a14, a15, a16, a17, a18, a19, a20, a21, a22], _ => exact ⟨a0, a1, a2, a3, a4, a5, a6, a7, a8, a9, a10, a11, a12, a13, a14, a15, a16, a17, a18, a19, a20, a21, a22, rfl⟩
  obtain ⟨y0, y1, y2, y3, y4, y5, y6, y7, y8, rfl⟩ : ∃ y0 y1 y2 y3 y4 y5 y6 y7 y8, xs = [y0, y1, y2, y3, y4, y5, y6, y7, y8] := by
    match xs, hlen with
    | [a0, a1, a2, a3, a4, a5, a6, a7, a8], _ => exact ⟨a0, a1, a2, a3, a4, a5, a6, a7, a8, rfl⟩
  have i0 := hi 0 _ rfl
  have i1 := hi 1 _ rfl
  have i2 := hi 2 _ rfl
  have i3 := hi 3 _ rfl
  have i4 := hi 4 _ rfl
  have i5 := hi 5 _ rfl
  have i6 := hi 6 _ rfl
  have i7 := hi 7 _ rfl
  have i8 := hi 8 _ rfl
  simp [Try.cl3, Try.cl4, Try.cl31, Try.cl40] at i0 i1 i2 i3 i4 i5 i6 i7 i8
  obtain ⟨r, e0, _, w0⟩ := DataW.trod_int Try.underlying3 i0
  obtain ⟨f, e1, _, w1⟩ := DataW.trod_int Try.underlying3 i1
  obtain ⟨k, e2, _, w2⟩ := DataW.trod_int Try.underlying3 i2
  obtain ⟨d, e3, _, w3⟩ := DataW.trod_int Try.underlying3 i3
  obtain ⟨er, e4, _, w4⟩ := DataW.trod_int Try.underlying3 i4
  obtain ⟨tt, e5⟩ := cut5 i5
  obtain ⟨so, e6, _⟩ := DataW.trod_bool Try.underlying4 i6
  obtain ⟨mn, hm, _, e7⟩ := cut6 i7
  obtain ⟨mx, hx, _, e8⟩ := cut6 i8
  simp at e0 e1 e2 e3 e4 e5 e6 e7 e8
  obtain ⟨e50, e51, e52, e53, e54⟩ := e5
  obtain ⟨e70, e71, e72, e73, e74, e75⟩ := e7
  obtain ⟨e80, e81, e82, e83, e84, e85⟩ := e8
  subst e0 e1 e2 e3 e4 e50 e51 e52 e53 e54 e6 e70 e71 e72 e73 e74 e75 e80 e81 e82 e83 e84 e85
  exact ⟨⟨r, f, k, d, er, tt, so, mn, mx⟩, ⟨hm, hx⟩, ⟨wf_i1 w0, wf_i1 w1, wf_i1 w2, wf_i1 w3, wf_i1 w4⟩, rfl⟩
end
theorem open_sum {H : Type} {enc : TypeId × Value → H} {W : World} {base : Nat} {v : Value} {d : DataW H} {p : List MemPlace} (hv : Value.okWide Try.prog W .any base 33 v) (h : DataW.Trod enc Try.prog W 0 (fun _ => true) true 33 v d p) : ∃ S : Sm, S.ok ∧ (I9 S.r ∧ I9 S.f ∧ I9 S.k ∧ I9 S.d ∧ I9 S.e) ∧ v = smv S := by
  obtain ⟨cs, rfl, hsz, _⟩ : ∃ cs, v = .agg cs ∧ cs.size = Try.prog.cellsOf 33 ∧ Row.okWide Try.prog W .any base 33 cs := by
    simpa [Value.okWide, Try.underlying33] using hv
  obtain ⟨fuel, hf⟩ := h
  obtain ⟨S, h1, h2, h3⟩ := cut23 hf
  refine ⟨S, h1, h2, ?_⟩
  have : cs = (sml S).toArray := by rw [← h3]; simp [Value.cells]
  rw [this]; rfl
end Go.Proofs.Ythpekbohmfmffaa
/-
  Summaries that came in.
-/
namespace Go.Proofs.Ythpekbohmfmffaa
open Go.ChangeShapes Go.WideShapes Go.ChangeAt
open Go.RowKit
theorem Try.by33 : Try.prog.bytesOf 33 = 184 := by kernel_rfl
set_option maxRecDepth 100000 in
theorem open_sums {H : Type} {enc : TypeId × Value → H} {W : World} {base : Nat} {v : Value} {d : DataW H} {p : List MemPlace} (hv : Value.okWide Try.prog W .any base 36 v) (h : DataW.Trod enc Try.prog W 0 (fun _ => true) true 36 v d p) :
    ∃ (L : List Sm) (pa : Option Addr) (cap : Nat), v = .slice pa L.length cap ∧ (∀ T ∈ L, T.ok) ∧ SS W pa L ∧ (L = [] ∨ ∃ elems spare, d = .slice elems spare ∧ elems.length = L.length) := by
  obtain ⟨a0, len, cap, rfl⟩ := okWide_slice Try.underlying36 hv
  obtain ⟨fuel, hf⟩ := h
  rcases Go.Deep.open_slice Try.underlying36 hf with ⟨hcs, _⟩ | ⟨a, len', cap', m, n, D, Pl, hcs, _, hl, _, hm, hx, hel⟩
  · simp [Value.cells] at hcs
    obtain ⟨rfl, rfl, rfl⟩ := hcs
    exact ⟨[], none, 0, rfl, fun _ e => (by cases e), fun _ _ e => (by cases e), Or.inl rfl⟩
  · simp [Value.cells] at hcs
    obtain ⟨rfl, rfl, rfl⟩ := hcs
    simp only [Prod.mk.injEq] at hx
    simp at hm
    have key : ∀ i : Nat, ∃ S : Sm, i < len → S.ok ∧ ∃ b off, some a = some (⟨b, off, none⟩ : Addr) ∧ b < W.heap.size ∧ W.rangeAt b (off + i * 23) (sml S) := by
      intro i
      by_cases hi : i < len
      · obtain ⟨cs', hc, ht⟩ := hel i (by omega)
        obtain ⟨o, ho, _, rfl⟩ := cut23 ht
        refine ⟨o, fun _ => ⟨ho, ?_⟩⟩
        rw [Try.cl33] at hc
        have hb := World.cells?_block hc (by decide)
        obtain ⟨_, hlen, hcell⟩ := World.cells?_some hc
        obtain ⟨b, off, spot⟩ := a
        have hs : spot = none := by
          obtain ⟨cs0, hc0, ht0⟩ := hel 0 (by omega)
          obtain ⟨o0, _, _, rfl⟩ := cut23 ht0
          rw [Try.cl33] at hc0
          have h0 := (World.cells?_some hc0).2.2 0 (by decide)
          have := World.cell?_spot (show W.cell? (((⟨b, off, spot⟩ : Addr).add (0 * 23)).add 0) = some (.int .i64 o0.r) from h0)
          simpa [Addr.add] using this
        subst hs
        refine ⟨b, off, rfl, by simpa [Addr.add_mid] using hb, fun j v hv => ?_⟩
        have hj : j < 23 := by
          exact (List.getElem?_eq_some_iff.1 hv).1
        have := hcell j hj
        rw [Addr.add_mid, Addr.add_mid, hv] at this
        exact this
      · exact ⟨sm0, fun e => absurd e hi⟩
    obtain ⟨f, hf2⟩ := Classical.skolem.1 key
    refine ⟨(List.range len).map f, some a, cap, by simp, fun o ho => ?_, fun i o e => ?_, Or.inr ⟨_, _, hx.1, by simp⟩⟩
    · obtain ⟨i, hi, rfl⟩ := List.mem_map.1 ho
      exact (hf2 i (by simpa using hi)).1
    · have hi : i < len := by have := (List.getElem?_eq_some_iff.1 e).1; simpa using this
      rw [List.getElem?_map, List.getElem?_range hi] at e
      cases e
      exact (hf2 i hi).2
end Go.Proofs.Ythpekbohmfmffaa
namespace Go.Proofs.Ythpekbohmfmffaa
open Go.ChangeShapes Go.WideShapes Go.ChangeAt Go.RowKit Go.ChangeMaps
theorem tys4 : ∀ t ∈ ([36] : List TypeId), Try.prog.readableRec t = true ∧ t < Try.prog.types.size := by
  intro t ht
  simp only [List.mem_cons, List.not_mem_nil, or_false] at ht
  rcases ht with rfl
  · exact ⟨by kernel_rfl, of_decide_eq_true (by kernel_rfl)⟩
set_option maxHeartbeats 1000000 in
set_option maxRecDepth 100000 in
theorem summaryJoins_lifted (os : Os) (started : os.Started) (H : Type) (enc : TypeId × Value → H) :
    ReturnsInHanded {} Try.checked os 4 .any (Rows.summaryJoinsSpec.pre6 enc Try.prog Try.f4 Rows.summaryJoinsRow.domain false) (Rows.summaryJoinsSpec.post enc Try.prog Try.f4 false true false false) := by
  refine returnsInHanded_of_change_sized (C := Try.checked) Try.own started (by kernel_rfl) Try.func4
    (ChangeSpec.witness6 (enc := enc) (C := Try.checked) false ⟨#[], #[.slice none 0 0], []⟩ 4 (by kernel_rfl) (by kernel_rfl) (by kernel_rfl) (by kernel_rfl)) ?_
  intro W base args ds gs before hval0 hW _ hsz0 _
  have hval : ∀ (j : Nat) t v, Try.f4.params[j]? = some t → args[j]? = some v → Value.okWide Try.prog W .any base t v := hval0
  have hsz : (DataW.weightsEach Try.prog (Try.f4.params.toList ++ Rows.summaryJoinsSpec.plain.varTypes Try.prog) (ds ++ gs)).all (· ≤ reachBytes) = true := hsz0
  have hW' := hW
  obtain ⟨p, q, hA0, hV, rfl, _, _⟩ := hW
  have hA : DataW.TrodAll enc Try.prog W 0 (fun _ => true) true Try.f4.params.toList args.toList ds p := hA0
  have hAk := hA
  rw [Try.params4] at hA hval hsz
  obtain ⟨v0, d0, rfl, rfl, h0⟩ := trodAll_one hA
  obtain ⟨rfl, rfl⟩ := trodVars_none hV
  obtain ⟨L0, pa0, cap0, rfl, ok0, hS0, hlen0⟩ := open_sums (hval 0 36 v0 rfl rfl) h0
  have hn0 : L0.length ≤ 900000000000000000 := by
    rcases hlen0 with rfl | ⟨elems, spare, rfl, hl⟩
    · decide
    · have := sized_slice hsz (j := 0) (t := 36) (e := 33) rfl rfl Try.underlying36
      rw [Try.by33] at this
      simp only [reachBytes] at this
      omega
  clear hA0 hval0
  refine (joins_n (w := W) L0 pa0 cap0 ok0 hS0 hn0).mono fun e W' ⟨he, hg⟩ => ?_
  subst he
  simp only [List.append_nil] at hW'
  have hlt : ∀ x ∈ p, x.block < W.heap.size := fun x hx => by simpa using hW'.lt x hx
  exact ⟨_, rfl, post_of_same (pa := p) (pv := []) hW' (fun _ _ _ => trodAll_mk1 (shut_bool Try.underlying4 _)) (fun sp hsp => trodAll_stays (by rw [Try.params4]; exact tys4) hAk (fun x hx => hg.1.same (hlt x hx)) hsp) (fun _ _ => rfl) (by simp)
    (hg.1.frame _) hg.2 (ok_one (by kernel_rfl) rfl (okWide_bool_mk Try.underlying4 _))⟩

theorem summaryJoins_holds : Rows.SummaryJoinsSaid :=
  OpenClaim.holds_of_wide 4 Try.f4 rfl rfl rfl rfl rfl rfl rfl ⟨rfl, rfl, rfl, rfl, rfl⟩ rfl rfl rfl rfl rfl (by kernel_rfl) Try.func4 (by kernel_rfl)
    (of_decide_eq_true (by kernel_rfl)) (by unfold Func.isWrapper; rw [if_neg (of_decide_eq_false (by kernel_rfl))]; exact ⟨rfl, rfl⟩)
    (fun os started H enc _ => summaryJoins_lifted os started H enc)
#print axioms summaryJoins_holds
end Go.Proofs.Ythpekbohmfmffaa
