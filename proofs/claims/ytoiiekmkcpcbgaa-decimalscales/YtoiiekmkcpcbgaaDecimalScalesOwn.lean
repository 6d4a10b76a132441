/-
  For every decimal, every scale and every policy exciselaw02.DecimalScales returns true, and its arguments read behind the call as they read before; no conditions.
-/
import Derived.Carry
import Derived.Test.YtoiiekmkcpcbgaaR4
/-
  DecimalProducts, DecimalScales and DecimalChecks, where both sides answer the same.
-/
namespace Go.Proofs.Ytoiiekmkcpcbgaa
open Go.RowKit
theorem eql4s (v : Bool) (x y : Operand) (w : World) : (do eqGuard .eql 4 x y (.bool v) (.bool v); binOp .eql 4 (.bool v) (.bool v)).run Try.prog w = .ok (.bool true) w := eqb_run (by simp) x y w
theorem products_same (a_b : Bool) (a_0 a_1 a_2 a_3 a_s : Int) (b_b : Bool) (b_0 b_1 b_2 b_3 b_s : Int) (x_b : Bool) (x_0 x_1 x_2 x_3 x_s : Int) (y_b : Bool) (y_0 y_1 y_2 y_3 y_s : Int) (S p e0 e1 : Int) (w : World) (h0a : ∀ w, Calls Try.prog 39 #[rd a_b a_0 a_1 a_2 a_3 a_s, rd b_b b_0 b_1 b_2 b_3 b_s] w fun e' w' => e' = .returned (.tuple #[rd x_b x_0 x_1 x_2 x_3 x_s, .int .i64 e0]) ∧ Mo w w') (h0b : ∀ w, Calls Try.prog 40 #[rd a_b a_0 a_1 a_2 a_3 a_s, rd b_b b_0 b_1 b_2 b_3 b_s] w fun e' w' => e' = .returned (.tuple #[rd x_b x_0 x_1 x_2 x_3 x_s, .int .i64 e0]) ∧ Mo w w') (h1a : ∀ w, Calls Try.prog 41 #[rd a_b a_0 a_1 a_2 a_3 a_s, rd b_b b_0 b_1 b_2 b_3 b_s, .int .i64 S, .int .i64 p] w fun e' w' => e' = .returned (.tuple #[rd y_b y_0 y_1 y_2 y_3 y_s, .int .i64 e1]) ∧ Mo w w') (h1b : ∀ w, Calls Try.prog 42 #[rd a_b a_0 a_1 a_2 a_3 a_s, rd b_b b_0 b_1 b_2 b_3 b_s, .int .i64 S, .int .i64 p] w fun e' w' => e' = .returned (.tuple #[rd y_b y_0 y_1 y_2 y_3 y_s, .int .i64 e1]) ∧ Mo w w') :
    Calls Try.prog 8 #[rd a_b a_0 a_1 a_2 a_3 a_s, rd b_b b_0 b_1 b_2 b_3 b_s, .int .i64 S, .int .i64 p] w fun e' w' => e' = .returned (.bool true) ∧ Mo w w' := by
  refine w_enter 66 Try.func8 Try.ntmps8 rfl rfl ?_
  have M : Mo w w := Mo.refl _
  refine w_seq ?_
  refine w_reg ?_
  refine wl_box 40 (.tmp 0) (rd a_b a_0 a_1 a_2 a_3 a_s) ((rda a_b a_0 a_1 a_2 a_3 a_s)) rfl rfl (fun _ => by kernel_rfl) rfl ?_
  intro k1 w1 hk hz hq Q1
  have N_k1 : w.heap.size ≤ k1 := by have := M.size; omega
  replace M := M.trans hq
  clear hk hz hq
  refine wl_box 40 (.tmp 1) (rd b_b b_0 b_1 b_2 b_3 b_s) ((rda b_b b_0 b_1 b_2 b_3 b_s)) rfl rfl (fun _ => by kernel_rfl) rfl ?_
  intro k2 w2 hk hz hq Q2
  have ne_k1_k2 : k1 ≠ k2 := by have := Q1.lt; omega
  have N_k2 : w.heap.size ≤ k2 := by have := M.size; omega
  replace Q1 := Q1.mo hq
  replace M := M.trans hq
  clear hk hz hq
  refine wl_mv (.const (.bool false)) (.bool false) (fun _ => rfl) rfl rfl ?_
  refine w_nil ?_
  refine xn_then ?_
  refine w_seq ?_
  refine w_reg ?_
  refine wl_load 40 (.tmp 4) (pt k1 0) (rd a_b a_0 a_1 a_2 a_3 a_s) rfl rfl (run_row Q1 40 0 6 (rdl a_b a_0 a_1 a_2 a_3 a_s) rfl Try.underlying40 rfl sz40) rfl ?_
  refine wl_load 40 (.tmp 5) (pt k2 0) (rd b_b b_0 b_1 b_2 b_3 b_s) rfl rfl (run_row Q2 40 0 6 (rdl b_b b_0 b_1 b_2 b_3 b_s) rfl Try.underlying40 rfl sz40) rfl ?_
  refine wl_call 39 [(.tmp 18), (.tmp 19)] _ [rd a_b a_0 a_1 a_2 a_3 a_s, rd b_b b_0 b_1 b_2 b_3 b_s] (.tuple #[rd x_b x_0 x_1 x_2 x_3 x_s, .int .i64 e0]) rfl rfl (fun _ _ => by kernel_rfl) (h0a _) rfl ?_
  intro w3 hq
  replace Q1 := Q1.mo hq
  replace Q2 := Q2.mo hq
  replace M := M.trans hq
  clear hq
  refine wl_mv (.tmp 20) (.tuple #[rd x_b x_0 x_1 x_2 x_3 x_s, .int .i64 e0]) (fun _ => rfl) rfl rfl ?_
  refine wl_un (fun v => Instr.extract v 0) (.tmp 17) (.tuple #[rd x_b x_0 x_1 x_2 x_3 x_s, .int .i64 e0]) (rd x_b x_0 x_1 x_2 x_3 x_s) (fun _ => rfl) rfl (by kernel_rfl) rfl ?_
  refine wl_un (fun v => Instr.extract v 1) (.tmp 17) (.tuple #[rd x_b x_0 x_1 x_2 x_3 x_s, .int .i64 e0]) (.int .i64 e0) (fun _ => rfl) rfl (by kernel_rfl) rfl ?_
  refine wl_alloc 40 #[.bool false, .int .u64 0, .int .u64 0, .int .u64 0, .int .u64 0, .int .i64 0] rfl (fun _ => by kernel_rfl) rfl ?_
  intro k3 w4 hk hz hq Q3
  have ne_k1_k3 : k1 ≠ k3 := by have := Q1.lt; omega
  have ne_k2_k3 : k2 ≠ k3 := by have := Q2.lt; omega
  have N_k3 : w.heap.size ≤ k3 := by have := M.size; omega
  replace Q1 := Q1.mo hq
  replace Q2 := Q2.mo hq
  replace M := M.trans hq
  clear hk hz hq
  refine wl_st 40 (.tmp 9) (.tmp 21) k3 0 (rda x_b x_0 x_1 x_2 x_3 x_s) [.bool false, .int .u64 0, .int .u64 0, .int .u64 0, .int .u64 0, .int .i64 0] (rdl x_b x_0 x_1 x_2 x_3 x_s) Q3 rfl rfl rfl rfl rfl sz40 rfl rfl rfl ?_
  intro w5 hS Qn
  replace Q3 := Qn
  clear Qn
  replace Q1 := hS.other _ _ ne_k1_k3 Q1
  replace Q2 := hS.other _ _ ne_k2_k3 Q2
  replace M := hS.mo _ N_k3 M
  clear hS
  refine wl_mv (.tmp 22) (.int .i64 e0) (fun _ => rfl) rfl rfl ?_
  refine w_nil ?_
  refine xn_then ?_
  refine w_seq ?_
  refine w_reg ?_
  refine wl_load 40 (.tmp 4) (pt k1 0) (rd a_b a_0 a_1 a_2 a_3 a_s) rfl rfl (run_row Q1 40 0 6 (rdl a_b a_0 a_1 a_2 a_3 a_s) rfl Try.underlying40 rfl sz40) rfl ?_
  refine wl_load 40 (.tmp 5) (pt k2 0) (rd b_b b_0 b_1 b_2 b_3 b_s) rfl rfl (run_row Q2 40 0 6 (rdl b_b b_0 b_1 b_2 b_3 b_s) rfl Try.underlying40 rfl sz40) rfl ?_
  refine wl_call 40 [(.tmp 24), (.tmp 25)] _ [rd a_b a_0 a_1 a_2 a_3 a_s, rd b_b b_0 b_1 b_2 b_3 b_s] (.tuple #[rd x_b x_0 x_1 x_2 x_3 x_s, .int .i64 e0]) rfl rfl (fun _ _ => by kernel_rfl) (h0b _) rfl ?_
  intro w6 hq
  replace Q1 := Q1.mo hq
  replace Q2 := Q2.mo hq
  replace Q3 := Q3.mo hq
  replace M := M.trans hq
  clear hq
  refine wl_mv (.tmp 26) (.tuple #[rd x_b x_0 x_1 x_2 x_3 x_s, .int .i64 e0]) (fun _ => rfl) rfl rfl ?_
  refine wl_un (fun v => Instr.extract v 0) (.tmp 23) (.tuple #[rd x_b x_0 x_1 x_2 x_3 x_s, .int .i64 e0]) (rd x_b x_0 x_1 x_2 x_3 x_s) (fun _ => rfl) rfl (by kernel_rfl) rfl ?_
  refine wl_un (fun v => Instr.extract v 1) (.tmp 23) (.tuple #[rd x_b x_0 x_1 x_2 x_3 x_s, .int .i64 e0]) (.int .i64 e0) (fun _ => rfl) rfl (by kernel_rfl) rfl ?_
  refine wl_alloc 40 #[.bool false, .int .u64 0, .int .u64 0, .int .u64 0, .int .u64 0, .int .i64 0] rfl (fun _ => by kernel_rfl) rfl ?_
  intro k4 w7 hk hz hq Q4
  have ne_k1_k4 : k1 ≠ k4 := by have := Q1.lt; omega
  have ne_k2_k4 : k2 ≠ k4 := by have := Q2.lt; omega
  have ne_k3_k4 : k3 ≠ k4 := by have := Q3.lt; omega
  have N_k4 : w.heap.size ≤ k4 := by have := M.size; omega
  replace Q1 := Q1.mo hq
  replace Q2 := Q2.mo hq
  replace Q3 := Q3.mo hq
  replace M := M.trans hq
  clear hk hz hq
  refine wl_st 40 (.tmp 11) (.tmp 27) k4 0 (rda x_b x_0 x_1 x_2 x_3 x_s) [.bool false, .int .u64 0, .int .u64 0, .int .u64 0, .int .u64 0, .int .i64 0] (rdl x_b x_0 x_1 x_2 x_3 x_s) Q4 rfl rfl rfl rfl rfl sz40 rfl rfl rfl ?_
  intro w8 hS Qn
  replace Q4 := Qn
  clear Qn
  replace Q1 := hS.other _ _ ne_k1_k4 Q1
  replace Q2 := hS.other _ _ ne_k2_k4 Q2
  replace Q3 := hS.other _ _ ne_k3_k4 Q3
  replace M := hS.mo _ N_k4 M
  clear hS
  refine wl_mv (.tmp 28) (.int .i64 e0) (fun _ => rfl) rfl rfl ?_
  refine w_nil ?_
  refine xn_then ?_
  refine w_seq ?_
  refine w_reg ?_
  refine wl_load 40 (.tmp 4) (pt k1 0) (rd a_b a_0 a_1 a_2 a_3 a_s) rfl rfl (run_row Q1 40 0 6 (rdl a_b a_0 a_1 a_2 a_3 a_s) rfl Try.underlying40 rfl sz40) rfl ?_
  refine wl_load 40 (.tmp 5) (pt k2 0) (rd b_b b_0 b_1 b_2 b_3 b_s) rfl rfl (run_row Q2 40 0 6 (rdl b_b b_0 b_1 b_2 b_3 b_s) rfl Try.underlying40 rfl sz40) rfl ?_
  refine wl_mv (.tmp 2) (.int .i64 S) (fun _ => rfl) rfl rfl ?_
  refine wl_mv (.tmp 3) (.int .i64 p) (fun _ => rfl) rfl rfl ?_
  refine wl_call 41 [(.tmp 30), (.tmp 31), (.tmp 32), (.tmp 33)] _ [rd a_b a_0 a_1 a_2 a_3 a_s, rd b_b b_0 b_1 b_2 b_3 b_s, .int .i64 S, .int .i64 p] (.tuple #[rd y_b y_0 y_1 y_2 y_3 y_s, .int .i64 e1]) rfl rfl (fun _ _ => by kernel_rfl) (h1a _) rfl ?_
  intro w9 hq
  replace Q1 := Q1.mo hq
  replace Q2 := Q2.mo hq
  replace Q3 := Q3.mo hq
  replace Q4 := Q4.mo hq
  replace M := M.trans hq
  clear hq
  refine wl_mv (.tmp 34) (.tuple #[rd y_b y_0 y_1 y_2 y_3 y_s, .int .i64 e1]) (fun _ => rfl) rfl rfl ?_
  refine wl_un (fun v => Instr.extract v 0) (.tmp 29) (.tuple #[rd y_b y_0 y_1 y_2 y_3 y_s, .int .i64 e1]) (rd y_b y_0 y_1 y_2 y_3 y_s) (fun _ => rfl) rfl (by kernel_rfl) rfl ?_
  refine wl_un (fun v => Instr.extract v 1) (.tmp 29) (.tuple #[rd y_b y_0 y_1 y_2 y_3 y_s, .int .i64 e1]) (.int .i64 e1) (fun _ => rfl) rfl (by kernel_rfl) rfl ?_
  refine wl_alloc 40 #[.bool false, .int .u64 0, .int .u64 0, .int .u64 0, .int .u64 0, .int .i64 0] rfl (fun _ => by kernel_rfl) rfl ?_
  intro k5 w10 hk hz hq Q5
  have ne_k1_k5 : k1 ≠ k5 := by have := Q1.lt; omega
  have ne_k2_k5 : k2 ≠ k5 := by have := Q2.lt; omega
  have ne_k3_k5 : k3 ≠ k5 := by have := Q3.lt; omega
  have ne_k4_k5 : k4 ≠ k5 := by have := Q4.lt; omega
  have N_k5 : w.heap.size ≤ k5 := by have := M.size; omega
  replace Q1 := Q1.mo hq
  replace Q2 := Q2.mo hq
  replace Q3 := Q3.mo hq
  replace Q4 := Q4.mo hq
  replace M := M.trans hq
  clear hk hz hq
  refine wl_st 40 (.tmp 13) (.tmp 35) k5 0 (rda y_b y_0 y_1 y_2 y_3 y_s) [.bool false, .int .u64 0, .int .u64 0, .int .u64 0, .int .u64 0, .int .i64 0] (rdl y_b y_0 y_1 y_2 y_3 y_s) Q5 rfl rfl rfl rfl rfl sz40 rfl rfl rfl ?_
  intro w11 hS Qn
  replace Q5 := Qn
  clear Qn
  replace Q1 := hS.other _ _ ne_k1_k5 Q1
  replace Q2 := hS.other _ _ ne_k2_k5 Q2
  replace Q3 := hS.other _ _ ne_k3_k5 Q3
  replace Q4 := hS.other _ _ ne_k4_k5 Q4
  replace M := hS.mo _ N_k5 M
  clear hS
  refine wl_mv (.tmp 36) (.int .i64 e1) (fun _ => rfl) rfl rfl ?_
  refine w_nil ?_
  refine xn_then ?_
  refine w_seq ?_
  refine w_reg ?_
  refine wl_load 40 (.tmp 4) (pt k1 0) (rd a_b a_0 a_1 a_2 a_3 a_s) rfl rfl (run_row Q1 40 0 6 (rdl a_b a_0 a_1 a_2 a_3 a_s) rfl Try.underlying40 rfl sz40) rfl ?_
  refine wl_load 40 (.tmp 5) (pt k2 0) (rd b_b b_0 b_1 b_2 b_3 b_s) rfl rfl (run_row Q2 40 0 6 (rdl b_b b_0 b_1 b_2 b_3 b_s) rfl Try.underlying40 rfl sz40) rfl ?_
  refine wl_mv (.tmp 2) (.int .i64 S) (fun _ => rfl) rfl rfl ?_
  refine wl_mv (.tmp 3) (.int .i64 p) (fun _ => rfl) rfl rfl ?_
  refine wl_call 42 [(.tmp 38), (.tmp 39), (.tmp 40), (.tmp 41)] _ [rd a_b a_0 a_1 a_2 a_3 a_s, rd b_b b_0 b_1 b_2 b_3 b_s, .int .i64 S, .int .i64 p] (.tuple #[rd y_b y_0 y_1 y_2 y_3 y_s, .int .i64 e1]) rfl rfl (fun _ _ => by kernel_rfl) (h1b _) rfl ?_
  intro w12 hq
  replace Q1 := Q1.mo hq
  replace Q2 := Q2.mo hq
  replace Q3 := Q3.mo hq
  replace Q4 := Q4.mo hq
  replace Q5 := Q5.mo hq
  replace M := M.trans hq
  clear hq
  refine wl_mv (.tmp 42) (.tuple #[rd y_b y_0 y_1 y_2 y_3 y_s, .int .i64 e1]) (fun _ => rfl) rfl rfl ?_
  refine wl_un (fun v => Instr.extract v 0) (.tmp 37) (.tuple #[rd y_b y_0 y_1 y_2 y_3 y_s, .int .i64 e1]) (rd y_b y_0 y_1 y_2 y_3 y_s) (fun _ => rfl) rfl (by kernel_rfl) rfl ?_
  refine wl_un (fun v => Instr.extract v 1) (.tmp 37) (.tuple #[rd y_b y_0 y_1 y_2 y_3 y_s, .int .i64 e1]) (.int .i64 e1) (fun _ => rfl) rfl (by kernel_rfl) rfl ?_
  refine wl_alloc 40 #[.bool false, .int .u64 0, .int .u64 0, .int .u64 0, .int .u64 0, .int .i64 0] rfl (fun _ => by kernel_rfl) rfl ?_
  intro k6 w13 hk hz hq Q6
  have ne_k1_k6 : k1 ≠ k6 := by have := Q1.lt; omega
  have ne_k2_k6 : k2 ≠ k6 := by have := Q2.lt; omega
  have ne_k3_k6 : k3 ≠ k6 := by have := Q3.lt; omega
  have ne_k4_k6 : k4 ≠ k6 := by have := Q4.lt; omega
  have ne_k5_k6 : k5 ≠ k6 := by have := Q5.lt; omega
  have N_k6 : w.heap.size ≤ k6 := by have := M.size; omega
  replace Q1 := Q1.mo hq
  replace Q2 := Q2.mo hq
  replace Q3 := Q3.mo hq
  replace Q4 := Q4.mo hq
  replace Q5 := Q5.mo hq
  replace M := M.trans hq
  clear hk hz hq
  refine wl_st 40 (.tmp 15) (.tmp 43) k6 0 (rda y_b y_0 y_1 y_2 y_3 y_s) [.bool false, .int .u64 0, .int .u64 0, .int .u64 0, .int .u64 0, .int .i64 0] (rdl y_b y_0 y_1 y_2 y_3 y_s) Q6 rfl rfl rfl rfl rfl sz40 rfl rfl rfl ?_
  intro w14 hS Qn
  replace Q6 := Qn
  clear Qn
  replace Q1 := hS.other _ _ ne_k1_k6 Q1
  replace Q2 := hS.other _ _ ne_k2_k6 Q2
  replace Q3 := hS.other _ _ ne_k3_k6 Q3
  replace Q4 := hS.other _ _ ne_k4_k6 Q4
  replace Q5 := hS.other _ _ ne_k5_k6 Q5
  replace M := hS.mo _ N_k6 M
  clear hS
  refine wl_mv (.tmp 44) (.int .i64 e1) (fun _ => rfl) rfl rfl ?_
  refine w_nil ?_
  refine xn_then ?_
  refine w_seq ?_
  refine w_reg ?_
  refine wl_call 28 [] _ [] (.bool true) rfl rfl (fun _ _ => by kernel_rfl) (begun_n _) rfl ?_
  intro w15 hq
  replace Q1 := Q1.mo hq
  replace Q2 := Q2.mo hq
  replace Q3 := Q3.mo hq
  replace Q4 := Q4.mo hq
  replace Q5 := Q5.mo hq
  replace Q6 := Q6.mo hq
  replace M := M.trans hq
  clear hq
  refine wl_mv (.tmp 45) (.bool true) (fun _ => rfl) rfl rfl ?_
  refine wl_load 40 (.tmp 9) (pt k3 0) (rd x_b x_0 x_1 x_2 x_3 x_s) rfl rfl (run_row Q3 40 0 6 (rdl x_b x_0 x_1 x_2 x_3 x_s) rfl Try.underlying40 rfl sz40) rfl ?_
  refine wl_load 40 (.tmp 11) (pt k4 0) (rd x_b x_0 x_1 x_2 x_3 x_s) rfl rfl (run_row Q4 40 0 6 (rdl x_b x_0 x_1 x_2 x_3 x_s) rfl Try.underlying40 rfl sz40) rfl ?_
  refine wl_bin (fun x y => do eqGuard .eql 40 (.tmp 47) (.tmp 48) x y; binOp .eql 40 x y) (.tmp 47) (.tmp 48) (rd x_b x_0 x_1 x_2 x_3 x_s) (rd x_b x_0 x_1 x_2 x_3 x_s) (.bool true) (fun _ => rfl) rfl rfl (eqd_run (self6 _ _ _ _ _ _) _ _ _) rfl ?_
  refine wl_pick (.tmp 46) (.tmp 49) (.const (.bool false)) true (.bool true) (fun _ => rfl) rfl rfl rfl ?_
  refine wl_mv (.tmp 50) (.bool true) (fun _ => rfl) rfl rfl ?_
  refine wl_mv (.tmp 10) (.int .i64 e0) (fun _ => rfl) rfl rfl ?_
  refine wl_mv (.tmp 12) (.int .i64 e0) (fun _ => rfl) rfl rfl ?_
  refine wl_bin (fun x y => do eqGuard .eql 32 (.tmp 52) (.tmp 53) x y; binOp .eql 32 x y) (.tmp 52) (.tmp 53) (.int .i64 e0) (.int .i64 e0) (.bool true) (fun _ => rfl) rfl rfl (eql32_run (by simp) _ _ _) rfl ?_
  refine wl_pick (.tmp 51) (.tmp 54) (.const (.bool false)) true (.bool true) (fun _ => rfl) rfl rfl rfl ?_
  refine wl_mv (.tmp 55) (.bool true) (fun _ => rfl) rfl rfl ?_
  refine wl_load 40 (.tmp 13) (pt k5 0) (rd y_b y_0 y_1 y_2 y_3 y_s) rfl rfl (run_row Q5 40 0 6 (rdl y_b y_0 y_1 y_2 y_3 y_s) rfl Try.underlying40 rfl sz40) rfl ?_
  refine wl_load 40 (.tmp 15) (pt k6 0) (rd y_b y_0 y_1 y_2 y_3 y_s) rfl rfl (run_row Q6 40 0 6 (rdl y_b y_0 y_1 y_2 y_3 y_s) rfl Try.underlying40 rfl sz40) rfl ?_
  refine wl_bin (fun x y => do eqGuard .eql 40 (.tmp 57) (.tmp 58) x y; binOp .eql 40 x y) (.tmp 57) (.tmp 58) (rd y_b y_0 y_1 y_2 y_3 y_s) (rd y_b y_0 y_1 y_2 y_3 y_s) (.bool true) (fun _ => rfl) rfl rfl (eqd_run (self6 _ _ _ _ _ _) _ _ _) rfl ?_
  refine wl_pick (.tmp 56) (.tmp 59) (.const (.bool false)) true (.bool true) (fun _ => rfl) rfl rfl rfl ?_
  refine wl_mv (.tmp 60) (.bool true) (fun _ => rfl) rfl rfl ?_
  refine wl_mv (.tmp 14) (.int .i64 e1) (fun _ => rfl) rfl rfl ?_
  refine wl_mv (.tmp 16) (.int .i64 e1) (fun _ => rfl) rfl rfl ?_
  refine wl_bin (fun x y => do eqGuard .eql 32 (.tmp 62) (.tmp 63) x y; binOp .eql 32 x y) (.tmp 62) (.tmp 63) (.int .i64 e1) (.int .i64 e1) (.bool true) (fun _ => rfl) rfl rfl (eql32_run (by simp) _ _ _) rfl ?_
  refine wl_pick (.tmp 61) (.tmp 64) (.const (.bool false)) true (.bool true) (fun _ => rfl) rfl rfl rfl ?_
  refine wl_mv (.tmp 65) (.bool true) (fun _ => rfl) rfl rfl ?_
  refine w_nil ?_
  refine xn_then ?_
  refine w_ret ?_
  exact w_ret1 _ (.bool true) rfl rfl ⟨rfl, M⟩
theorem scales_same (a_b : Bool) (a_0 a_1 a_2 a_3 a_s : Int) (x_b : Bool) (x_0 x_1 x_2 x_3 x_s : Int) (y_b : Bool) (y_0 y_1 y_2 y_3 y_s : Int) (u_b : Bool) (u_0 u_1 u_2 u_3 u_s : Int) (v_b : Bool) (v_0 v_1 v_2 v_3 v_s : Int) (S p e0 e1 e2 e3 : Int) (w : World) (h0a : ∀ w, Calls Try.prog 43 #[rd a_b a_0 a_1 a_2 a_3 a_s, .int .i64 S, .int .i64 p] w fun e' w' => e' = .returned (.tuple #[rd x_b x_0 x_1 x_2 x_3 x_s, .int .i64 e0]) ∧ Mo w w') (h0b : ∀ w, Calls Try.prog 44 #[rd a_b a_0 a_1 a_2 a_3 a_s, .int .i64 S, .int .i64 p] w fun e' w' => e' = .returned (.tuple #[rd x_b x_0 x_1 x_2 x_3 x_s, .int .i64 e0]) ∧ Mo w w') (h1a : ∀ w, Calls Try.prog 45 #[rd a_b a_0 a_1 a_2 a_3 a_s] w fun e' w' => e' = .returned (.tuple #[rd y_b y_0 y_1 y_2 y_3 y_s, .int .i64 e1]) ∧ Mo w w') (h1b : ∀ w, Calls Try.prog 46 #[rd a_b a_0 a_1 a_2 a_3 a_s] w fun e' w' => e' = .returned (.tuple #[rd y_b y_0 y_1 y_2 y_3 y_s, .int .i64 e1]) ∧ Mo w w') (h2a : ∀ w, Calls Try.prog 47 #[rd a_b a_0 a_1 a_2 a_3 a_s] w fun e' w' => e' = .returned (.tuple #[rd u_b u_0 u_1 u_2 u_3 u_s, .int .i64 e2]) ∧ Mo w w') (h2b : ∀ w, Calls Try.prog 48 #[rd a_b a_0 a_1 a_2 a_3 a_s] w fun e' w' => e' = .returned (.tuple #[rd u_b u_0 u_1 u_2 u_3 u_s, .int .i64 e2]) ∧ Mo w w') (h3a : ∀ w, Calls Try.prog 49 #[rd a_b a_0 a_1 a_2 a_3 a_s] w fun e' w' => e' = .returned (.tuple #[rd v_b v_0 v_1 v_2 v_3 v_s, .int .i64 e3]) ∧ Mo w w') (h3b : ∀ w, Calls Try.prog 50 #[rd a_b a_0 a_1 a_2 a_3 a_s] w fun e' w' => e' = .returned (.tuple #[rd v_b v_0 v_1 v_2 v_3 v_s, .int .i64 e3]) ∧ Mo w w') :
    Calls Try.prog 9 #[rd a_b a_0 a_1 a_2 a_3 a_s, .int .i64 S, .int .i64 p] w fun e' w' => e' = .returned (.bool true) ∧ Mo w w' := by
  refine w_enter 108 Try.func9 Try.ntmps9 rfl rfl ?_
  have M : Mo w w := Mo.refl _
  refine w_seq ?_
  refine w_reg ?_
  refine wl_box 40 (.tmp 0) (rd a_b a_0 a_1 a_2 a_3 a_s) ((rda a_b a_0 a_1 a_2 a_3 a_s)) rfl rfl (fun _ => by kernel_rfl) rfl ?_
  intro k1 w1 hk hz hq Q1
  have N_k1 : w.heap.size ≤ k1 := by have := M.size; omega
  replace M := M.trans hq
  clear hk hz hq
  refine wl_mv (.const (.bool false)) (.bool false) (fun _ => rfl) rfl rfl ?_
  refine w_nil ?_
  refine xn_then ?_
  refine w_seq ?_
  refine w_reg ?_
  refine wl_load 40 (.tmp 3) (pt k1 0) (rd a_b a_0 a_1 a_2 a_3 a_s) rfl rfl (run_row Q1 40 0 6 (rdl a_b a_0 a_1 a_2 a_3 a_s) rfl Try.underlying40 rfl sz40) rfl ?_
  refine wl_mv (.tmp 1) (.int .i64 S) (fun _ => rfl) rfl rfl ?_
  refine wl_mv (.tmp 2) (.int .i64 p) (fun _ => rfl) rfl rfl ?_
  refine wl_call 43 [(.tmp 24), (.tmp 25), (.tmp 26)] _ [rd a_b a_0 a_1 a_2 a_3 a_s, .int .i64 S, .int .i64 p] (.tuple #[rd x_b x_0 x_1 x_2 x_3 x_s, .int .i64 e0]) rfl rfl (fun _ _ => by kernel_rfl) (h0a _) rfl ?_
  intro w2 hq
  replace Q1 := Q1.mo hq
  replace M := M.trans hq
  clear hq
  refine wl_mv (.tmp 27) (.tuple #[rd x_b x_0 x_1 x_2 x_3 x_s, .int .i64 e0]) (fun _ => rfl) rfl rfl ?_
  refine wl_un (fun v => Instr.extract v 0) (.tmp 23) (.tuple #[rd x_b x_0 x_1 x_2 x_3 x_s, .int .i64 e0]) (rd x_b x_0 x_1 x_2 x_3 x_s) (fun _ => rfl) rfl (by kernel_rfl) rfl ?_
  refine wl_un (fun v => Instr.extract v 1) (.tmp 23) (.tuple #[rd x_b x_0 x_1 x_2 x_3 x_s, .int .i64 e0]) (.int .i64 e0) (fun _ => rfl) rfl (by kernel_rfl) rfl ?_
  refine wl_alloc 40 #[.bool false, .int .u64 0, .int .u64 0, .int .u64 0, .int .u64 0, .int .i64 0] rfl (fun _ => by kernel_rfl) rfl ?_
  intro k2 w3 hk hz hq Q2
  have ne_k1_k2 : k1 ≠ k2 := by have := Q1.lt; omega
  have N_k2 : w.heap.size ≤ k2 := by have := M.size; omega
  replace Q1 := Q1.mo hq
  replace M := M.trans hq
  clear hk hz hq
  refine wl_st 40 (.tmp 7) (.tmp 28) k2 0 (rda x_b x_0 x_1 x_2 x_3 x_s) [.bool false, .int .u64 0, .int .u64 0, .int .u64 0, .int .u64 0, .int .i64 0] (rdl x_b x_0 x_1 x_2 x_3 x_s) Q2 rfl rfl rfl rfl rfl sz40 rfl rfl rfl ?_
  intro w4 hS Qn
  replace Q2 := Qn
  clear Qn
  replace Q1 := hS.other _ _ ne_k1_k2 Q1
  replace M := hS.mo _ N_k2 M
  clear hS
  refine wl_mv (.tmp 29) (.int .i64 e0) (fun _ => rfl) rfl rfl ?_
  refine w_nil ?_
  refine xn_then ?_
  refine w_seq ?_
  refine w_reg ?_
  refine wl_load 40 (.tmp 3) (pt k1 0) (rd a_b a_0 a_1 a_2 a_3 a_s) rfl rfl (run_row Q1 40 0 6 (rdl a_b a_0 a_1 a_2 a_3 a_s) rfl Try.underlying40 rfl sz40) rfl ?_
  refine wl_mv (.tmp 1) (.int .i64 S) (fun _ => rfl) rfl rfl ?_
  refine wl_mv (.tmp 2) (.int .i64 p) (fun _ => rfl) rfl rfl ?_
  refine wl_call 44 [(.tmp 31), (.tmp 32), (.tmp 33)] _ [rd a_b a_0 a_1 a_2 a_3 a_s, .int .i64 S, .int .i64 p] (.tuple #[rd x_b x_0 x_1 x_2 x_3 x_s, .int .i64 e0]) rfl rfl (fun _ _ => by kernel_rfl) (h0b _) rfl ?_
  intro w5 hq
  replace Q1 := Q1.mo hq
  replace Q2 := Q2.mo hq
  replace M := M.trans hq
  clear hq
  refine wl_mv (.tmp 34) (.tuple #[rd x_b x_0 x_1 x_2 x_3 x_s, .int .i64 e0]) (fun _ => rfl) rfl rfl ?_
  refine wl_un (fun v => Instr.extract v 0) (.tmp 30) (.tuple #[rd x_b x_0 x_1 x_2 x_3 x_s, .int .i64 e0]) (rd x_b x_0 x_1 x_2 x_3 x_s) (fun _ => rfl) rfl (by kernel_rfl) rfl ?_
  refine wl_un (fun v => Instr.extract v 1) (.tmp 30) (.tuple #[rd x_b x_0 x_1 x_2 x_3 x_s, .int .i64 e0]) (.int .i64 e0) (fun _ => rfl) rfl (by kernel_rfl) rfl ?_
  refine wl_alloc 40 #[.bool false, .int .u64 0, .int .u64 0, .int .u64 0, .int .u64 0, .int .i64 0] rfl (fun _ => by kernel_rfl) rfl ?_
  intro k3 w6 hk hz hq Q3
  have ne_k1_k3 : k1 ≠ k3 := by have := Q1.lt; omega
  have ne_k2_k3 : k2 ≠ k3 := by have := Q2.lt; omega
  have N_k3 : w.heap.size ≤ k3 := by have := M.size; omega
  replace Q1 := Q1.mo hq
  replace Q2 := Q2.mo hq
  replace M := M.trans hq
  clear hk hz hq
  refine wl_st 40 (.tmp 9) (.tmp 35) k3 0 (rda x_b x_0 x_1 x_2 x_3 x_s) [.bool false, .int .u64 0, .int .u64 0, .int .u64 0, .int .u64 0, .int .i64 0] (rdl x_b x_0 x_1 x_2 x_3 x_s) Q3 rfl rfl rfl rfl rfl sz40 rfl rfl rfl ?_
  intro w7 hS Qn
  replace Q3 := Qn
  clear Qn
  replace Q1 := hS.other _ _ ne_k1_k3 Q1
  replace Q2 := hS.other _ _ ne_k2_k3 Q2
  replace M := hS.mo _ N_k3 M
  clear hS
  refine wl_mv (.tmp 36) (.int .i64 e0) (fun _ => rfl) rfl rfl ?_
  refine w_nil ?_
  refine xn_then ?_
  refine w_seq ?_
  refine w_reg ?_
  refine wl_load 40 (.tmp 3) (pt k1 0) (rd a_b a_0 a_1 a_2 a_3 a_s) rfl rfl (run_row Q1 40 0 6 (rdl a_b a_0 a_1 a_2 a_3 a_s) rfl Try.underlying40 rfl sz40) rfl ?_
  refine wl_call 45 [(.tmp 38)] _ [rd a_b a_0 a_1 a_2 a_3 a_s] (.tuple #[rd y_b y_0 y_1 y_2 y_3 y_s, .int .i64 e1]) rfl rfl (fun _ _ => by kernel_rfl) (h1a _) rfl ?_
  intro w8 hq
  replace Q1 := Q1.mo hq
  replace Q2 := Q2.mo hq
  replace Q3 := Q3.mo hq
  replace M := M.trans hq
  clear hq
  refine wl_mv (.tmp 39) (.tuple #[rd y_b y_0 y_1 y_2 y_3 y_s, .int .i64 e1]) (fun _ => rfl) rfl rfl ?_
  refine wl_un (fun v => Instr.extract v 0) (.tmp 37) (.tuple #[rd y_b y_0 y_1 y_2 y_3 y_s, .int .i64 e1]) (rd y_b y_0 y_1 y_2 y_3 y_s) (fun _ => rfl) rfl (by kernel_rfl) rfl ?_
  refine wl_un (fun v => Instr.extract v 1) (.tmp 37) (.tuple #[rd y_b y_0 y_1 y_2 y_3 y_s, .int .i64 e1]) (.int .i64 e1) (fun _ => rfl) rfl (by kernel_rfl) rfl ?_
  refine wl_alloc 40 #[.bool false, .int .u64 0, .int .u64 0, .int .u64 0, .int .u64 0, .int .i64 0] rfl (fun _ => by kernel_rfl) rfl ?_
  intro k4 w9 hk hz hq Q4
  have ne_k1_k4 : k1 ≠ k4 := by have := Q1.lt; omega
  have ne_k2_k4 : k2 ≠ k4 := by have := Q2.lt; omega
  have ne_k3_k4 : k3 ≠ k4 := by have := Q3.lt; omega
  have N_k4 : w.heap.size ≤ k4 := by have := M.size; omega
  replace Q1 := Q1.mo hq
  replace Q2 := Q2.mo hq
  replace Q3 := Q3.mo hq
  replace M := M.trans hq
  clear hk hz hq
  refine wl_st 40 (.tmp 11) (.tmp 40) k4 0 (rda y_b y_0 y_1 y_2 y_3 y_s) [.bool false, .int .u64 0, .int .u64 0, .int .u64 0, .int .u64 0, .int .i64 0] (rdl y_b y_0 y_1 y_2 y_3 y_s) Q4 rfl rfl rfl rfl rfl sz40 rfl rfl rfl ?_
  intro w10 hS Qn
  replace Q4 := Qn
  clear Qn
  replace Q1 := hS.other _ _ ne_k1_k4 Q1
  replace Q2 := hS.other _ _ ne_k2_k4 Q2
  replace Q3 := hS.other _ _ ne_k3_k4 Q3
  replace M := hS.mo _ N_k4 M
  clear hS
  refine wl_mv (.tmp 41) (.int .i64 e1) (fun _ => rfl) rfl rfl ?_
  refine w_nil ?_
  refine xn_then ?_
  refine w_seq ?_
  refine w_reg ?_
  refine wl_load 40 (.tmp 3) (pt k1 0) (rd a_b a_0 a_1 a_2 a_3 a_s) rfl rfl (run_row Q1 40 0 6 (rdl a_b a_0 a_1 a_2 a_3 a_s) rfl Try.underlying40 rfl sz40) rfl ?_
  refine wl_call 46 [(.tmp 43)] _ [rd a_b a_0 a_1 a_2 a_3 a_s] (.tuple #[rd y_b y_0 y_1 y_2 y_3 y_s, .int .i64 e1]) rfl rfl (fun _ _ => by kernel_rfl) (h1b _) rfl ?_
  intro w11 hq
  replace Q1 := Q1.mo hq
  replace Q2 := Q2.mo hq
  replace Q3 := Q3.mo hq
  replace Q4 := Q4.mo hq
  replace M := M.trans hq
  clear hq
  refine wl_mv (.tmp 44) (.tuple #[rd y_b y_0 y_1 y_2 y_3 y_s, .int .i64 e1]) (fun _ => rfl) rfl rfl ?_
  refine wl_un (fun v => Instr.extract v 0) (.tmp 42) (.tuple #[rd y_b y_0 y_1 y_2 y_3 y_s, .int .i64 e1]) (rd y_b y_0 y_1 y_2 y_3 y_s) (fun _ => rfl) rfl (by kernel_rfl) rfl ?_
  refine wl_un (fun v => Instr.extract v 1) (.tmp 42) (.tuple #[rd y_b y_0 y_1 y_2 y_3 y_s, .int .i64 e1]) (.int .i64 e1) (fun _ => rfl) rfl (by kernel_rfl) rfl ?_
  refine wl_alloc 40 #[.bool false, .int .u64 0, .int .u64 0, .int .u64 0, .int .u64 0, .int .i64 0] rfl (fun _ => by kernel_rfl) rfl ?_
  intro k5 w12 hk hz hq Q5
  have ne_k1_k5 : k1 ≠ k5 := by have := Q1.lt; omega
  have ne_k2_k5 : k2 ≠ k5 := by have := Q2.lt; omega
  have ne_k3_k5 : k3 ≠ k5 := by have := Q3.lt; omega
  have ne_k4_k5 : k4 ≠ k5 := by have := Q4.lt; omega
  have N_k5 : w.heap.size ≤ k5 := by have := M.size; omega
  replace Q1 := Q1.mo hq
  replace Q2 := Q2.mo hq
  replace Q3 := Q3.mo hq
  replace Q4 := Q4.mo hq
  replace M := M.trans hq
  clear hk hz hq
  refine wl_st 40 (.tmp 13) (.tmp 45) k5 0 (rda y_b y_0 y_1 y_2 y_3 y_s) [.bool false, .int .u64 0, .int .u64 0, .int .u64 0, .int .u64 0, .int .i64 0] (rdl y_b y_0 y_1 y_2 y_3 y_s) Q5 rfl rfl rfl rfl rfl sz40 rfl rfl rfl ?_
  intro w13 hS Qn
  replace Q5 := Qn
  clear Qn
  replace Q1 := hS.other _ _ ne_k1_k5 Q1
  replace Q2 := hS.other _ _ ne_k2_k5 Q2
  replace Q3 := hS.other _ _ ne_k3_k5 Q3
  replace Q4 := hS.other _ _ ne_k4_k5 Q4
  replace M := hS.mo _ N_k5 M
  clear hS
  refine wl_mv (.tmp 46) (.int .i64 e1) (fun _ => rfl) rfl rfl ?_
  refine w_nil ?_
  refine xn_then ?_
  refine w_seq ?_
  refine w_reg ?_
  refine wl_load 40 (.tmp 3) (pt k1 0) (rd a_b a_0 a_1 a_2 a_3 a_s) rfl rfl (run_row Q1 40 0 6 (rdl a_b a_0 a_1 a_2 a_3 a_s) rfl Try.underlying40 rfl sz40) rfl ?_
  refine wl_call 47 [(.tmp 48)] _ [rd a_b a_0 a_1 a_2 a_3 a_s] (.tuple #[rd u_b u_0 u_1 u_2 u_3 u_s, .int .i64 e2]) rfl rfl (fun _ _ => by kernel_rfl) (h2a _) rfl ?_
  intro w14 hq
  replace Q1 := Q1.mo hq
  replace Q2 := Q2.mo hq
  replace Q3 := Q3.mo hq
  replace Q4 := Q4.mo hq
  replace Q5 := Q5.mo hq
  replace M := M.trans hq
  clear hq
  refine wl_mv (.tmp 49) (.tuple #[rd u_b u_0 u_1 u_2 u_3 u_s, .int .i64 e2]) (fun _ => rfl) rfl rfl ?_
  refine wl_un (fun v => Instr.extract v 0) (.tmp 47) (.tuple #[rd u_b u_0 u_1 u_2 u_3 u_s, .int .i64 e2]) (rd u_b u_0 u_1 u_2 u_3 u_s) (fun _ => rfl) rfl (by kernel_rfl) rfl ?_
  refine wl_un (fun v => Instr.extract v 1) (.tmp 47) (.tuple #[rd u_b u_0 u_1 u_2 u_3 u_s, .int .i64 e2]) (.int .i64 e2) (fun _ => rfl) rfl (by kernel_rfl) rfl ?_
  refine wl_alloc 40 #[.bool false, .int .u64 0, .int .u64 0, .int .u64 0, .int .u64 0, .int .i64 0] rfl (fun _ => by kernel_rfl) rfl ?_
  intro k6 w15 hk hz hq Q6
  have ne_k1_k6 : k1 ≠ k6 := by have := Q1.lt; omega
  have ne_k2_k6 : k2 ≠ k6 := by have := Q2.lt; omega
  have ne_k3_k6 : k3 ≠ k6 := by have := Q3.lt; omega
  have ne_k4_k6 : k4 ≠ k6 := by have := Q4.lt; omega
  have ne_k5_k6 : k5 ≠ k6 := by have := Q5.lt; omega
  have N_k6 : w.heap.size ≤ k6 := by have := M.size; omega
  replace Q1 := Q1.mo hq
  replace Q2 := Q2.mo hq
  replace Q3 := Q3.mo hq
  replace Q4 := Q4.mo hq
  replace Q5 := Q5.mo hq
  replace M := M.trans hq
  clear hk hz hq
  refine wl_st 40 (.tmp 15) (.tmp 50) k6 0 (rda u_b u_0 u_1 u_2 u_3 u_s) [.bool false, .int .u64 0, .int .u64 0, .int .u64 0, .int .u64 0, .int .i64 0] (rdl u_b u_0 u_1 u_2 u_3 u_s) Q6 rfl rfl rfl rfl rfl sz40 rfl rfl rfl ?_
  intro w16 hS Qn
  replace Q6 := Qn
  clear Qn
  replace Q1 := hS.other _ _ ne_k1_k6 Q1
  replace Q2 := hS.other _ _ ne_k2_k6 Q2
  replace Q3 := hS.other _ _ ne_k3_k6 Q3
  replace Q4 := hS.other _ _ ne_k4_k6 Q4
  replace Q5 := hS.other _ _ ne_k5_k6 Q5
  replace M := hS.mo _ N_k6 M
  clear hS
  refine wl_mv (.tmp 51) (.int .i64 e2) (fun _ => rfl) rfl rfl ?_
  refine w_nil ?_
  refine xn_then ?_
  refine w_seq ?_
  refine w_reg ?_
  refine wl_load 40 (.tmp 3) (pt k1 0) (rd a_b a_0 a_1 a_2 a_3 a_s) rfl rfl (run_row Q1 40 0 6 (rdl a_b a_0 a_1 a_2 a_3 a_s) rfl Try.underlying40 rfl sz40) rfl ?_
  refine wl_call 48 [(.tmp 53)] _ [rd a_b a_0 a_1 a_2 a_3 a_s] (.tuple #[rd u_b u_0 u_1 u_2 u_3 u_s, .int .i64 e2]) rfl rfl (fun _ _ => by kernel_rfl) (h2b _) rfl ?_
  intro w17 hq
  replace Q1 := Q1.mo hq
  replace Q2 := Q2.mo hq
  replace Q3 := Q3.mo hq
  replace Q4 := Q4.mo hq
  replace Q5 := Q5.mo hq
  replace Q6 := Q6.mo hq
  replace M := M.trans hq
  clear hq
  refine wl_mv (.tmp 54) (.tuple #[rd u_b u_0 u_1 u_2 u_3 u_s, .int .i64 e2]) (fun _ => rfl) rfl rfl ?_
  refine wl_un (fun v => Instr.extract v 0) (.tmp 52) (.tuple #[rd u_b u_0 u_1 u_2 u_3 u_s, .int .i64 e2]) (rd u_b u_0 u_1 u_2 u_3 u_s) (fun _ => rfl) rfl (by kernel_rfl) rfl ?_
  refine wl_un (fun v => Instr.extract v 1) (.tmp 52) (.tuple #[rd u_b u_0 u_1 u_2 u_3 u_s, .int .i64 e2]) (.int .i64 e2) (fun _ => rfl) rfl (by kernel_rfl) rfl ?_
  refine wl_alloc 40 #[.bool false, .int .u64 0, .int .u64 0, .int .u64 0, .int .u64 0, .int .i64 0] rfl (fun _ => by kernel_rfl) rfl ?_
  intro k7 w18 hk hz hq Q7
  have ne_k1_k7 : k1 ≠ k7 := by have := Q1.lt; omega
  have ne_k2_k7 : k2 ≠ k7 := by have := Q2.lt; omega
  have ne_k3_k7 : k3 ≠ k7 := by have := Q3.lt; omega
  have ne_k4_k7 : k4 ≠ k7 := by have := Q4.lt; omega
  have ne_k5_k7 : k5 ≠ k7 := by have := Q5.lt; omega
  have ne_k6_k7 : k6 ≠ k7 := by have := Q6.lt; omega
  have N_k7 : w.heap.size ≤ k7 := by have := M.size; omega
  replace Q1 := Q1.mo hq
  replace Q2 := Q2.mo hq
  replace Q3 := Q3.mo hq
  replace Q4 := Q4.mo hq
  replace Q5 := Q5.mo hq
  replace Q6 := Q6.mo hq
  replace M := M.trans hq
  clear hk hz hq
  refine wl_st 40 (.tmp 17) (.tmp 55) k7 0 (rda u_b u_0 u_1 u_2 u_3 u_s) [.bool false, .int .u64 0, .int .u64 0, .int .u64 0, .int .u64 0, .int .i64 0] (rdl u_b u_0 u_1 u_2 u_3 u_s) Q7 rfl rfl rfl rfl rfl sz40 rfl rfl rfl ?_
  intro w19 hS Qn
  replace Q7 := Qn
  clear Qn
  replace Q1 := hS.other _ _ ne_k1_k7 Q1
  replace Q2 := hS.other _ _ ne_k2_k7 Q2
  replace Q3 := hS.other _ _ ne_k3_k7 Q3
  replace Q4 := hS.other _ _ ne_k4_k7 Q4
  replace Q5 := hS.other _ _ ne_k5_k7 Q5
  replace Q6 := hS.other _ _ ne_k6_k7 Q6
  replace M := hS.mo _ N_k7 M
  clear hS
  refine wl_mv (.tmp 56) (.int .i64 e2) (fun _ => rfl) rfl rfl ?_
  refine w_nil ?_
  refine xn_then ?_
  refine w_seq ?_
  refine w_reg ?_
  refine wl_load 40 (.tmp 3) (pt k1 0) (rd a_b a_0 a_1 a_2 a_3 a_s) rfl rfl (run_row Q1 40 0 6 (rdl a_b a_0 a_1 a_2 a_3 a_s) rfl Try.underlying40 rfl sz40) rfl ?_
  refine wl_call 49 [(.tmp 58)] _ [rd a_b a_0 a_1 a_2 a_3 a_s] (.tuple #[rd v_b v_0 v_1 v_2 v_3 v_s, .int .i64 e3]) rfl rfl (fun _ _ => by kernel_rfl) (h3a _) rfl ?_
  intro w20 hq
  replace Q1 := Q1.mo hq
  replace Q2 := Q2.mo hq
  replace Q3 := Q3.mo hq
  replace Q4 := Q4.mo hq
  replace Q5 := Q5.mo hq
  replace Q6 := Q6.mo hq
  replace Q7 := Q7.mo hq
  replace M := M.trans hq
  clear hq
  refine wl_mv (.tmp 59) (.tuple #[rd v_b v_0 v_1 v_2 v_3 v_s, .int .i64 e3]) (fun _ => rfl) rfl rfl ?_
  refine wl_un (fun v => Instr.extract v 0) (.tmp 57) (.tuple #[rd v_b v_0 v_1 v_2 v_3 v_s, .int .i64 e3]) (rd v_b v_0 v_1 v_2 v_3 v_s) (fun _ => rfl) rfl (by kernel_rfl) rfl ?_
  refine wl_un (fun v => Instr.extract v 1) (.tmp 57) (.tuple #[rd v_b v_0 v_1 v_2 v_3 v_s, .int .i64 e3]) (.int .i64 e3) (fun _ => rfl) rfl (by kernel_rfl) rfl ?_
  refine wl_alloc 40 #[.bool false, .int .u64 0, .int .u64 0, .int .u64 0, .int .u64 0, .int .i64 0] rfl (fun _ => by kernel_rfl) rfl ?_
  intro k8 w21 hk hz hq Q8
  have ne_k1_k8 : k1 ≠ k8 := by have := Q1.lt; omega
  have ne_k2_k8 : k2 ≠ k8 := by have := Q2.lt; omega
  have ne_k3_k8 : k3 ≠ k8 := by have := Q3.lt; omega
  have ne_k4_k8 : k4 ≠ k8 := by have := Q4.lt; omega
  have ne_k5_k8 : k5 ≠ k8 := by have := Q5.lt; omega
  have ne_k6_k8 : k6 ≠ k8 := by have := Q6.lt; omega
  have ne_k7_k8 : k7 ≠ k8 := by have := Q7.lt; omega
  have N_k8 : w.heap.size ≤ k8 := by have := M.size; omega
  replace Q1 := Q1.mo hq
  replace Q2 := Q2.mo hq
  replace Q3 := Q3.mo hq
  replace Q4 := Q4.mo hq
  replace Q5 := Q5.mo hq
  replace Q6 := Q6.mo hq
  replace Q7 := Q7.mo hq
  replace M := M.trans hq
  clear hk hz hq
  refine wl_st 40 (.tmp 19) (.tmp 60) k8 0 (rda v_b v_0 v_1 v_2 v_3 v_s) [.bool false, .int .u64 0, .int .u64 0, .int .u64 0, .int .u64 0, .int .i64 0] (rdl v_b v_0 v_1 v_2 v_3 v_s) Q8 rfl rfl rfl rfl rfl sz40 rfl rfl rfl ?_
  intro w22 hS Qn
  replace Q8 := Qn
  clear Qn
  replace Q1 := hS.other _ _ ne_k1_k8 Q1
  replace Q2 := hS.other _ _ ne_k2_k8 Q2
  replace Q3 := hS.other _ _ ne_k3_k8 Q3
  replace Q4 := hS.other _ _ ne_k4_k8 Q4
  replace Q5 := hS.other _ _ ne_k5_k8 Q5
  replace Q6 := hS.other _ _ ne_k6_k8 Q6
  replace Q7 := hS.other _ _ ne_k7_k8 Q7
  replace M := hS.mo _ N_k8 M
  clear hS
  refine wl_mv (.tmp 61) (.int .i64 e3) (fun _ => rfl) rfl rfl ?_
  refine w_nil ?_
  refine xn_then ?_
  refine w_seq ?_
  refine w_reg ?_
  refine wl_load 40 (.tmp 3) (pt k1 0) (rd a_b a_0 a_1 a_2 a_3 a_s) rfl rfl (run_row Q1 40 0 6 (rdl a_b a_0 a_1 a_2 a_3 a_s) rfl Try.underlying40 rfl sz40) rfl ?_
  refine wl_call 50 [(.tmp 63)] _ [rd a_b a_0 a_1 a_2 a_3 a_s] (.tuple #[rd v_b v_0 v_1 v_2 v_3 v_s, .int .i64 e3]) rfl rfl (fun _ _ => by kernel_rfl) (h3b _) rfl ?_
  intro w23 hq
  replace Q1 := Q1.mo hq
  replace Q2 := Q2.mo hq
  replace Q3 := Q3.mo hq
  replace Q4 := Q4.mo hq
  replace Q5 := Q5.mo hq
  replace Q6 := Q6.mo hq
  replace Q7 := Q7.mo hq
  replace Q8 := Q8.mo hq
  replace M := M.trans hq
  clear hq
  refine wl_mv (.tmp 64) (.tuple #[rd v_b v_0 v_1 v_2 v_3 v_s, .int .i64 e3]) (fun _ => rfl) rfl rfl ?_
  refine wl_un (fun v => Instr.extract v 0) (.tmp 62) (.tuple #[rd v_b v_0 v_1 v_2 v_3 v_s, .int .i64 e3]) (rd v_b v_0 v_1 v_2 v_3 v_s) (fun _ => rfl) rfl (by kernel_rfl) rfl ?_
  refine wl_un (fun v => Instr.extract v 1) (.tmp 62) (.tuple #[rd v_b v_0 v_1 v_2 v_3 v_s, .int .i64 e3]) (.int .i64 e3) (fun _ => rfl) rfl (by kernel_rfl) rfl ?_
  refine wl_alloc 40 #[.bool false, .int .u64 0, .int .u64 0, .int .u64 0, .int .u64 0, .int .i64 0] rfl (fun _ => by kernel_rfl) rfl ?_
  intro k9 w24 hk hz hq Q9
  have ne_k1_k9 : k1 ≠ k9 := by have := Q1.lt; omega
  have ne_k2_k9 : k2 ≠ k9 := by have := Q2.lt; omega
  have ne_k3_k9 : k3 ≠ k9 := by have := Q3.lt; omega
  have ne_k4_k9 : k4 ≠ k9 := by have := Q4.lt; omega
  have ne_k5_k9 : k5 ≠ k9 := by have := Q5.lt; omega
  have ne_k6_k9 : k6 ≠ k9 := by have := Q6.lt; omega
  have ne_k7_k9 : k7 ≠ k9 := by have := Q7.lt; omega
  have ne_k8_k9 : k8 ≠ k9 := by have := Q8.lt; omega
  have N_k9 : w.heap.size ≤ k9 := by have := M.size; omega
  replace Q1 := Q1.mo hq
  replace Q2 := Q2.mo hq
  replace Q3 := Q3.mo hq
  replace Q4 := Q4.mo hq
  replace Q5 := Q5.mo hq
  replace Q6 := Q6.mo hq
  replace Q7 := Q7.mo hq
  replace Q8 := Q8.mo hq
  replace M := M.trans hq
  clear hk hz hq
  refine wl_st 40 (.tmp 21) (.tmp 65) k9 0 (rda v_b v_0 v_1 v_2 v_3 v_s) [.bool false, .int .u64 0, .int .u64 0, .int .u64 0, .int .u64 0, .int .i64 0] (rdl v_b v_0 v_1 v_2 v_3 v_s) Q9 rfl rfl rfl rfl rfl sz40 rfl rfl rfl ?_
  intro w25 hS Qn
  replace Q9 := Qn
  clear Qn
  replace Q1 := hS.other _ _ ne_k1_k9 Q1
  replace Q2 := hS.other _ _ ne_k2_k9 Q2
  replace Q3 := hS.other _ _ ne_k3_k9 Q3
  replace Q4 := hS.other _ _ ne_k4_k9 Q4
  replace Q5 := hS.other _ _ ne_k5_k9 Q5
  replace Q6 := hS.other _ _ ne_k6_k9 Q6
  replace Q7 := hS.other _ _ ne_k7_k9 Q7
  replace Q8 := hS.other _ _ ne_k8_k9 Q8
  replace M := hS.mo _ N_k9 M
  clear hS
  refine wl_mv (.tmp 66) (.int .i64 e3) (fun _ => rfl) rfl rfl ?_
  refine w_nil ?_
  refine xn_then ?_
  refine w_seq ?_
  refine w_reg ?_
  refine wl_call 28 [] _ [] (.bool true) rfl rfl (fun _ _ => by kernel_rfl) (begun_n _) rfl ?_
  intro w26 hq
  replace Q1 := Q1.mo hq
  replace Q2 := Q2.mo hq
  replace Q3 := Q3.mo hq
  replace Q4 := Q4.mo hq
  replace Q5 := Q5.mo hq
  replace Q6 := Q6.mo hq
  replace Q7 := Q7.mo hq
  replace Q8 := Q8.mo hq
  replace Q9 := Q9.mo hq
  replace M := M.trans hq
  clear hq
  refine wl_mv (.tmp 67) (.bool true) (fun _ => rfl) rfl rfl ?_
  refine wl_load 40 (.tmp 7) (pt k2 0) (rd x_b x_0 x_1 x_2 x_3 x_s) rfl rfl (run_row Q2 40 0 6 (rdl x_b x_0 x_1 x_2 x_3 x_s) rfl Try.underlying40 rfl sz40) rfl ?_
  refine wl_load 40 (.tmp 9) (pt k3 0) (rd x_b x_0 x_1 x_2 x_3 x_s) rfl rfl (run_row Q3 40 0 6 (rdl x_b x_0 x_1 x_2 x_3 x_s) rfl Try.underlying40 rfl sz40) rfl ?_
  refine wl_bin (fun x y => do eqGuard .eql 40 (.tmp 69) (.tmp 70) x y; binOp .eql 40 x y) (.tmp 69) (.tmp 70) (rd x_b x_0 x_1 x_2 x_3 x_s) (rd x_b x_0 x_1 x_2 x_3 x_s) (.bool true) (fun _ => rfl) rfl rfl (eqd_run (self6 _ _ _ _ _ _) _ _ _) rfl ?_
  refine wl_pick (.tmp 68) (.tmp 71) (.const (.bool false)) true (.bool true) (fun _ => rfl) rfl rfl rfl ?_
  refine wl_mv (.tmp 72) (.bool true) (fun _ => rfl) rfl rfl ?_
  refine wl_mv (.tmp 8) (.int .i64 e0) (fun _ => rfl) rfl rfl ?_
  refine wl_mv (.tmp 10) (.int .i64 e0) (fun _ => rfl) rfl rfl ?_
  refine wl_bin (fun x y => do eqGuard .eql 32 (.tmp 74) (.tmp 75) x y; binOp .eql 32 x y) (.tmp 74) (.tmp 75) (.int .i64 e0) (.int .i64 e0) (.bool true) (fun _ => rfl) rfl rfl (eql32_run (by simp) _ _ _) rfl ?_
  refine wl_pick (.tmp 73) (.tmp 76) (.const (.bool false)) true (.bool true) (fun _ => rfl) rfl rfl rfl ?_
  refine wl_mv (.tmp 77) (.bool true) (fun _ => rfl) rfl rfl ?_
  refine wl_load 40 (.tmp 11) (pt k4 0) (rd y_b y_0 y_1 y_2 y_3 y_s) rfl rfl (run_row Q4 40 0 6 (rdl y_b y_0 y_1 y_2 y_3 y_s) rfl Try.underlying40 rfl sz40) rfl ?_
  refine wl_load 40 (.tmp 13) (pt k5 0) (rd y_b y_0 y_1 y_2 y_3 y_s) rfl rfl (run_row Q5 40 0 6 (rdl y_b y_0 y_1 y_2 y_3 y_s) rfl Try.underlying40 rfl sz40) rfl ?_
  refine wl_bin (fun x y => do eqGuard .eql 40 (.tmp 79) (.tmp 80) x y; binOp .eql 40 x y) (.tmp 79) (.tmp 80) (rd y_b y_0 y_1 y_2 y_3 y_s) (rd y_b y_0 y_1 y_2 y_3 y_s) (.bool true) (fun _ => rfl) rfl rfl (eqd_run (self6 _ _ _ _ _ _) _ _ _) rfl ?_
  refine wl_pick (.tmp 78) (.tmp 81) (.const (.bool false)) true (.bool true) (fun _ => rfl) rfl rfl rfl ?_
  refine wl_mv (.tmp 82) (.bool true) (fun _ => rfl) rfl rfl ?_
  refine wl_mv (.tmp 12) (.int .i64 e1) (fun _ => rfl) rfl rfl ?_
  refine wl_mv (.tmp 14) (.int .i64 e1) (fun _ => rfl) rfl rfl ?_
  refine wl_bin (fun x y => do eqGuard .eql 32 (.tmp 84) (.tmp 85) x y; binOp .eql 32 x y) (.tmp 84) (.tmp 85) (.int .i64 e1) (.int .i64 e1) (.bool true) (fun _ => rfl) rfl rfl (eql32_run (by simp) _ _ _) rfl ?_
  refine wl_pick (.tmp 83) (.tmp 86) (.const (.bool false)) true (.bool true) (fun _ => rfl) rfl rfl rfl ?_
  refine wl_mv (.tmp 87) (.bool true) (fun _ => rfl) rfl rfl ?_
  refine wl_load 40 (.tmp 15) (pt k6 0) (rd u_b u_0 u_1 u_2 u_3 u_s) rfl rfl (run_row Q6 40 0 6 (rdl u_b u_0 u_1 u_2 u_3 u_s) rfl Try.underlying40 rfl sz40) rfl ?_
  refine wl_load 40 (.tmp 17) (pt k7 0) (rd u_b u_0 u_1 u_2 u_3 u_s) rfl rfl (run_row Q7 40 0 6 (rdl u_b u_0 u_1 u_2 u_3 u_s) rfl Try.underlying40 rfl sz40) rfl ?_
  refine wl_bin (fun x y => do eqGuard .eql 40 (.tmp 89) (.tmp 90) x y; binOp .eql 40 x y) (.tmp 89) (.tmp 90) (rd u_b u_0 u_1 u_2 u_3 u_s) (rd u_b u_0 u_1 u_2 u_3 u_s) (.bool true) (fun _ => rfl) rfl rfl (eqd_run (self6 _ _ _ _ _ _) _ _ _) rfl ?_
  refine wl_pick (.tmp 88) (.tmp 91) (.const (.bool false)) true (.bool true) (fun _ => rfl) rfl rfl rfl ?_
  refine wl_mv (.tmp 92) (.bool true) (fun _ => rfl) rfl rfl ?_
  refine wl_mv (.tmp 16) (.int .i64 e2) (fun _ => rfl) rfl rfl ?_
  refine wl_mv (.tmp 18) (.int .i64 e2) (fun _ => rfl) rfl rfl ?_
  refine wl_bin (fun x y => do eqGuard .eql 32 (.tmp 94) (.tmp 95) x y; binOp .eql 32 x y) (.tmp 94) (.tmp 95) (.int .i64 e2) (.int .i64 e2) (.bool true) (fun _ => rfl) rfl rfl (eql32_run (by simp) _ _ _) rfl ?_
  refine wl_pick (.tmp 93) (.tmp 96) (.const (.bool false)) true (.bool true) (fun _ => rfl) rfl rfl rfl ?_
  refine wl_mv (.tmp 97) (.bool true) (fun _ => rfl) rfl rfl ?_
  refine wl_load 40 (.tmp 19) (pt k8 0) (rd v_b v_0 v_1 v_2 v_3 v_s) rfl rfl (run_row Q8 40 0 6 (rdl v_b v_0 v_1 v_2 v_3 v_s) rfl Try.underlying40 rfl sz40) rfl ?_
  refine wl_load 40 (.tmp 21) (pt k9 0) (rd v_b v_0 v_1 v_2 v_3 v_s) rfl rfl (run_row Q9 40 0 6 (rdl v_b v_0 v_1 v_2 v_3 v_s) rfl Try.underlying40 rfl sz40) rfl ?_
  refine wl_bin (fun x y => do eqGuard .eql 40 (.tmp 99) (.tmp 100) x y; binOp .eql 40 x y) (.tmp 99) (.tmp 100) (rd v_b v_0 v_1 v_2 v_3 v_s) (rd v_b v_0 v_1 v_2 v_3 v_s) (.bool true) (fun _ => rfl) rfl rfl (eqd_run (self6 _ _ _ _ _ _) _ _ _) rfl ?_
  refine wl_pick (.tmp 98) (.tmp 101) (.const (.bool false)) true (.bool true) (fun _ => rfl) rfl rfl rfl ?_
  refine wl_mv (.tmp 102) (.bool true) (fun _ => rfl) rfl rfl ?_
  refine wl_mv (.tmp 20) (.int .i64 e3) (fun _ => rfl) rfl rfl ?_
  refine wl_mv (.tmp 22) (.int .i64 e3) (fun _ => rfl) rfl rfl ?_
  refine wl_bin (fun x y => do eqGuard .eql 32 (.tmp 104) (.tmp 105) x y; binOp .eql 32 x y) (.tmp 104) (.tmp 105) (.int .i64 e3) (.int .i64 e3) (.bool true) (fun _ => rfl) rfl rfl (eql32_run (by simp) _ _ _) rfl ?_
  refine wl_pick (.tmp 103) (.tmp 106) (.const (.bool false)) true (.bool true) (fun _ => rfl) rfl rfl rfl ?_
  refine wl_mv (.tmp 107) (.bool true) (fun _ => rfl) rfl rfl ?_
  refine w_nil ?_
  refine xn_then ?_
  refine w_ret ?_
  exact w_ret1 _ (.bool true) rfl rfl ⟨rfl, M⟩
theorem checks_same (a_b : Bool) (a_0 a_1 a_2 a_3 a_s : Int) (x_b : Bool) (x_0 x_1 x_2 x_3 x_s : Int) (n S e0 c s : Int) (o : Bool) (w : World) (h0a : ∀ w, Calls Try.prog 26 #[.int .i64 n, .int .i64 S] w fun e' w' => e' = .returned (.tuple #[rd x_b x_0 x_1 x_2 x_3 x_s, .int .i64 e0]) ∧ Mo w w') (h0b : ∀ w, Calls Try.prog 27 #[.int .i64 n, .int .i64 S] w fun e' w' => e' = .returned (.tuple #[rd x_b x_0 x_1 x_2 x_3 x_s, .int .i64 e0]) ∧ Mo w w') (h1a : ∀ w, Calls Try.prog 29 #[rd a_b a_0 a_1 a_2 a_3 a_s] w fun e' w' => e' = .returned (.int .i64 c) ∧ Mo w w') (h1b : ∀ w, Calls Try.prog 30 #[rd a_b a_0 a_1 a_2 a_3 a_s] w fun e' w' => e' = .returned (.int .i64 c) ∧ Mo w w') (h2a : ∀ w, Calls Try.prog 31 #[rd a_b a_0 a_1 a_2 a_3 a_s] w fun e' w' => e' = .returned (.int .i64 s) ∧ Mo w w') (h2b : ∀ w, Calls Try.prog 32 #[rd a_b a_0 a_1 a_2 a_3 a_s] w fun e' w' => e' = .returned (.int .i64 s) ∧ Mo w w') (h3a : ∀ w, Calls Try.prog 33 #[rd a_b a_0 a_1 a_2 a_3 a_s] w fun e' w' => e' = .returned (.bool o) ∧ Mo w w') (h3b : ∀ w, Calls Try.prog 34 #[rd a_b a_0 a_1 a_2 a_3 a_s] w fun e' w' => e' = .returned (.bool o) ∧ Mo w w') :
    Calls Try.prog 6 #[rd a_b a_0 a_1 a_2 a_3 a_s, .int .i64 n, .int .i64 S] w fun e' w' => e' = .returned (.bool true) ∧ Mo w w' := by
  refine w_enter 55 Try.func6 Try.ntmps6 rfl rfl ?_
  have M : Mo w w := Mo.refl _
  refine w_seq ?_
  refine w_reg ?_
  refine wl_box 40 (.tmp 0) (rd a_b a_0 a_1 a_2 a_3 a_s) ((rda a_b a_0 a_1 a_2 a_3 a_s)) rfl rfl (fun _ => by kernel_rfl) rfl ?_
  intro k1 w1 hk hz hq Q1
  have N_k1 : w.heap.size ≤ k1 := by have := M.size; omega
  replace M := M.trans hq
  clear hk hz hq
  refine wl_mv (.const (.bool false)) (.bool false) (fun _ => rfl) rfl rfl ?_
  refine w_nil ?_
  refine xn_then ?_
  refine w_seq ?_
  refine w_reg ?_
  refine wl_mv (.tmp 1) (.int .i64 n) (fun _ => rfl) rfl rfl ?_
  refine wl_mv (.tmp 2) (.int .i64 S) (fun _ => rfl) rfl rfl ?_
  refine wl_call 26 [(.tmp 12), (.tmp 13)] _ [.int .i64 n, .int .i64 S] (.tuple #[rd x_b x_0 x_1 x_2 x_3 x_s, .int .i64 e0]) rfl rfl (fun _ _ => by kernel_rfl) (h0a _) rfl ?_
  intro w2 hq
  replace Q1 := Q1.mo hq
  replace M := M.trans hq
  clear hq
  refine wl_mv (.tmp 14) (.tuple #[rd x_b x_0 x_1 x_2 x_3 x_s, .int .i64 e0]) (fun _ => rfl) rfl rfl ?_
  refine wl_un (fun v => Instr.extract v 0) (.tmp 11) (.tuple #[rd x_b x_0 x_1 x_2 x_3 x_s, .int .i64 e0]) (rd x_b x_0 x_1 x_2 x_3 x_s) (fun _ => rfl) rfl (by kernel_rfl) rfl ?_
  refine wl_un (fun v => Instr.extract v 1) (.tmp 11) (.tuple #[rd x_b x_0 x_1 x_2 x_3 x_s, .int .i64 e0]) (.int .i64 e0) (fun _ => rfl) rfl (by kernel_rfl) rfl ?_
  refine wl_alloc 40 #[.bool false, .int .u64 0, .int .u64 0, .int .u64 0, .int .u64 0, .int .i64 0] rfl (fun _ => by kernel_rfl) rfl ?_
  intro k2 w3 hk hz hq Q2
  have ne_k1_k2 : k1 ≠ k2 := by have := Q1.lt; omega
  have N_k2 : w.heap.size ≤ k2 := by have := M.size; omega
  replace Q1 := Q1.mo hq
  replace M := M.trans hq
  clear hk hz hq
  refine wl_st 40 (.tmp 7) (.tmp 15) k2 0 (rda x_b x_0 x_1 x_2 x_3 x_s) [.bool false, .int .u64 0, .int .u64 0, .int .u64 0, .int .u64 0, .int .i64 0] (rdl x_b x_0 x_1 x_2 x_3 x_s) Q2 rfl rfl rfl rfl rfl sz40 rfl rfl rfl ?_
  intro w4 hS Qn
  replace Q2 := Qn
  clear Qn
  replace Q1 := hS.other _ _ ne_k1_k2 Q1
  replace M := hS.mo _ N_k2 M
  clear hS
  refine wl_mv (.tmp 16) (.int .i64 e0) (fun _ => rfl) rfl rfl ?_
  refine w_nil ?_
  refine xn_then ?_
  refine w_seq ?_
  refine w_reg ?_
  refine wl_mv (.tmp 1) (.int .i64 n) (fun _ => rfl) rfl rfl ?_
  refine wl_mv (.tmp 2) (.int .i64 S) (fun _ => rfl) rfl rfl ?_
  refine wl_call 27 [(.tmp 18), (.tmp 19)] _ [.int .i64 n, .int .i64 S] (.tuple #[rd x_b x_0 x_1 x_2 x_3 x_s, .int .i64 e0]) rfl rfl (fun _ _ => by kernel_rfl) (h0b _) rfl ?_
  intro w5 hq
  replace Q1 := Q1.mo hq
  replace Q2 := Q2.mo hq
  replace M := M.trans hq
  clear hq
  refine wl_mv (.tmp 20) (.tuple #[rd x_b x_0 x_1 x_2 x_3 x_s, .int .i64 e0]) (fun _ => rfl) rfl rfl ?_
  refine wl_un (fun v => Instr.extract v 0) (.tmp 17) (.tuple #[rd x_b x_0 x_1 x_2 x_3 x_s, .int .i64 e0]) (rd x_b x_0 x_1 x_2 x_3 x_s) (fun _ => rfl) rfl (by kernel_rfl) rfl ?_
  refine wl_un (fun v => Instr.extract v 1) (.tmp 17) (.tuple #[rd x_b x_0 x_1 x_2 x_3 x_s, .int .i64 e0]) (.int .i64 e0) (fun _ => rfl) rfl (by kernel_rfl) rfl ?_
  refine wl_alloc 40 #[.bool false, .int .u64 0, .int .u64 0, .int .u64 0, .int .u64 0, .int .i64 0] rfl (fun _ => by kernel_rfl) rfl ?_
  intro k3 w6 hk hz hq Q3
  have ne_k1_k3 : k1 ≠ k3 := by have := Q1.lt; omega
  have ne_k2_k3 : k2 ≠ k3 := by have := Q2.lt; omega
  have N_k3 : w.heap.size ≤ k3 := by have := M.size; omega
  replace Q1 := Q1.mo hq
  replace Q2 := Q2.mo hq
  replace M := M.trans hq
  clear hk hz hq
  refine wl_st 40 (.tmp 9) (.tmp 21) k3 0 (rda x_b x_0 x_1 x_2 x_3 x_s) [.bool false, .int .u64 0, .int .u64 0, .int .u64 0, .int .u64 0, .int .i64 0] (rdl x_b x_0 x_1 x_2 x_3 x_s) Q3 rfl rfl rfl rfl rfl sz40 rfl rfl rfl ?_
  intro w7 hS Qn
  replace Q3 := Qn
  clear Qn
  replace Q1 := hS.other _ _ ne_k1_k3 Q1
  replace Q2 := hS.other _ _ ne_k2_k3 Q2
  replace M := hS.mo _ N_k3 M
  clear hS
  refine wl_mv (.tmp 22) (.int .i64 e0) (fun _ => rfl) rfl rfl ?_
  refine w_nil ?_
  refine xn_then ?_
  refine w_seq ?_
  refine w_any 30 [.inl (.bool true), .inl (.bool true), .inl (rd a_b a_0 a_1 a_2 a_3 a_s), .inl (.int .i64 c), .inl (rd a_b a_0 a_1 a_2 a_3 a_s), .inl (.int .i64 c), .inl (.bool true), .inl (.bool true), .inl (.bool true), .inl (rd a_b a_0 a_1 a_2 a_3 a_s), .inl (.int .i64 s), .inl (rd a_b a_0 a_1 a_2 a_3 a_s), .inl (.int .i64 s), .inl (.bool true), .inl (.bool true), .inl (.bool true), .inl (rd a_b a_0 a_1 a_2 a_3 a_s), .inl (.bool o), .inl (rd a_b a_0 a_1 a_2 a_3 a_s), .inl (.bool o), .inl (.bool true), .inl (.bool true), .inl (.bool true), .inl (rd x_b x_0 x_1 x_2 x_3 x_s), .inl (rd x_b x_0 x_1 x_2 x_3 x_s), .inl (.bool true), .inl (.bool true), .inl (.bool true), .inl (.int .i64 e0), .inl (.int .i64 e0)] [] (by kernel_rfl) (by kernel_rfl) (by kernel_rfl) (by kernel_rfl) rfl (by kernel_rfl) (by kernel_rfl) late_nil ?_ ?_ ?_
  · exact Ds.none rfl
  · refine ea_cons ?_ (ea_cons ?_ (ea_cons ?_ (ea_cons ?_ (ea_cons ?_ (ea_cons ?_ (ea_cons ?_ (ea_cons ?_ (ea_cons ?_ (ea_cons ?_ (ea_cons ?_ (ea_cons ?_ (ea_cons ?_ (ea_cons ?_ (ea_cons ?_ (ea_cons ?_ (ea_cons ?_ (ea_cons ?_ (ea_cons ?_ (ea_cons ?_ (ea_cons ?_ (ea_cons ?_ (ea_cons ?_ (ea_cons ?_ (ea_cons ?_ (ea_cons ?_ (ea_cons ?_ (ea_cons ?_ (ea_cons ?_ (ea_cons ?_ (ea_nil))))))))))))))))))))))))))))))
    · exact og_eq (.bool true) rfl (fun f wf hq hd K hK => go_run rfl (wo_call 28 [] _ [] (.bool true) rfl rfl (fun _ _ => by kernel_rfl) (begun_n _) hK))
    · exact og_eq (.bool true) rfl (fun f wf hq hd K hK => go_run rfl (wo_mv (.tmp 23) (.bool true) (fun _ => rfl) (hd 0 rfl) (hK _ (Mo.refl _))))
    · exact og_eq (rd a_b a_0 a_1 a_2 a_3 a_s) rfl (fun f wf hq hd K hK => have Q1 := Q1.mo hq; go_run (wnt_g rfl rfl rfl (hd 1 rfl) rfl) (wo_load 40 (.tmp 3) (pt k1 0) (rd a_b a_0 a_1 a_2 a_3 a_s) rfl rfl (run_row Q1 40 0 6 (rdl a_b a_0 a_1 a_2 a_3 a_s) rfl Try.underlying40 rfl sz40) (hK _ (Mo.refl _))))
    · exact og_eq (.int .i64 c) rfl (fun f wf hq hd K hK => go_run (wnt_g rfl rfl rfl (hd 1 rfl) rfl) (wo_call 29 [(.tmp 25)] _ [rd a_b a_0 a_1 a_2 a_3 a_s] (.int .i64 c) rfl (li1 (hd 2 rfl)) (fun _ _ => by kernel_rfl) (h1a _) hK))
    · exact og_eq (rd a_b a_0 a_1 a_2 a_3 a_s) rfl (fun f wf hq hd K hK => have Q1 := Q1.mo hq; go_run (wnt_g rfl rfl rfl (hd 1 rfl) rfl) (wo_load 40 (.tmp 3) (pt k1 0) (rd a_b a_0 a_1 a_2 a_3 a_s) rfl rfl (run_row Q1 40 0 6 (rdl a_b a_0 a_1 a_2 a_3 a_s) rfl Try.underlying40 rfl sz40) (hK _ (Mo.refl _))))
    · exact og_eq (.int .i64 c) rfl (fun f wf hq hd K hK => go_run (wnt_g rfl rfl rfl (hd 1 rfl) rfl) (wo_call 30 [(.tmp 27)] _ [rd a_b a_0 a_1 a_2 a_3 a_s] (.int .i64 c) rfl (li1 (hd 4 rfl)) (fun _ _ => by kernel_rfl) (h1b _) hK))
    · exact og_eq (.bool true) rfl (fun f wf hq hd K hK => go_run (wnt_g rfl rfl rfl (hd 1 rfl) rfl) (wo_bin (fun x y => do eqGuard .eql 32 (.tmp 26) (.tmp 28) x y; binOp .eql 32 x y) (.tmp 26) (.tmp 28) (.int .i64 c) (.int .i64 c) (.bool true) (fun _ => rfl) (hd 3 rfl) (hd 5 rfl) (eql32_run (by simp) _ _ _) (hK _ (Mo.refl _))))
    · exact og_eq (.bool true) rfl (fun f wf hq hd K hK => go_run rfl (wo_pick (.tmp 24) (.tmp 29) (.const (.bool false)) true (.bool true) (fun _ => rfl) (hd 1 rfl) (hd 6 rfl) (hK _ (Mo.refl _))))
    · exact og_eq (.bool true) rfl (fun f wf hq hd K hK => go_run rfl (wo_mv (.tmp 30) (.bool true) (fun _ => rfl) (hd 7 rfl) (hK _ (Mo.refl _))))
    · exact og_eq (rd a_b a_0 a_1 a_2 a_3 a_s) rfl (fun f wf hq hd K hK => have Q1 := Q1.mo hq; go_run (wnt_g rfl rfl rfl (hd 8 rfl) rfl) (wo_load 40 (.tmp 3) (pt k1 0) (rd a_b a_0 a_1 a_2 a_3 a_s) rfl rfl (run_row Q1 40 0 6 (rdl a_b a_0 a_1 a_2 a_3 a_s) rfl Try.underlying40 rfl sz40) (hK _ (Mo.refl _))))
    · exact og_eq (.int .i64 s) rfl (fun f wf hq hd K hK => go_run (wnt_g rfl rfl rfl (hd 8 rfl) rfl) (wo_call 31 [(.tmp 32)] _ [rd a_b a_0 a_1 a_2 a_3 a_s] (.int .i64 s) rfl (li1 (hd 9 rfl)) (fun _ _ => by kernel_rfl) (h2a _) hK))
    · exact og_eq (rd a_b a_0 a_1 a_2 a_3 a_s) rfl (fun f wf hq hd K hK => have Q1 := Q1.mo hq; go_run (wnt_g rfl rfl rfl (hd 8 rfl) rfl) (wo_load 40 (.tmp 3) (pt k1 0) (rd a_b a_0 a_1 a_2 a_3 a_s) rfl rfl (run_row Q1 40 0 6 (rdl a_b a_0 a_1 a_2 a_3 a_s) rfl Try.underlying40 rfl sz40) (hK _ (Mo.refl _))))
    · exact og_eq (.int .i64 s) rfl (fun f wf hq hd K hK => go_run (wnt_g rfl rfl rfl (hd 8 rfl) rfl) (wo_call 32 [(.tmp 34)] _ [rd a_b a_0 a_1 a_2 a_3 a_s] (.int .i64 s) rfl (li1 (hd 11 rfl)) (fun _ _ => by kernel_rfl) (h2b _) hK))
    · exact og_eq (.bool true) rfl (fun f wf hq hd K hK => go_run (wnt_g rfl rfl rfl (hd 8 rfl) rfl) (wo_bin (fun x y => do eqGuard .eql 3 (.tmp 33) (.tmp 35) x y; binOp .eql 3 x y) (.tmp 33) (.tmp 35) (.int .i64 s) (.int .i64 s) (.bool true) (fun _ => rfl) (hd 10 rfl) (hd 12 rfl) (eql3_run (by simp) _ _ _) (hK _ (Mo.refl _))))
    · exact og_eq (.bool true) rfl (fun f wf hq hd K hK => go_run rfl (wo_pick (.tmp 31) (.tmp 36) (.const (.bool false)) true (.bool true) (fun _ => rfl) (hd 8 rfl) (hd 13 rfl) (hK _ (Mo.refl _))))
    · exact og_eq (.bool true) rfl (fun f wf hq hd K hK => go_run rfl (wo_mv (.tmp 37) (.bool true) (fun _ => rfl) (hd 14 rfl) (hK _ (Mo.refl _))))
    · exact og_eq (rd a_b a_0 a_1 a_2 a_3 a_s) rfl (fun f wf hq hd K hK => have Q1 := Q1.mo hq; go_run (wnt_g rfl rfl rfl (hd 15 rfl) rfl) (wo_load 40 (.tmp 3) (pt k1 0) (rd a_b a_0 a_1 a_2 a_3 a_s) rfl rfl (run_row Q1 40 0 6 (rdl a_b a_0 a_1 a_2 a_3 a_s) rfl Try.underlying40 rfl sz40) (hK _ (Mo.refl _))))
    · exact og_eq (.bool o) rfl (fun f wf hq hd K hK => go_run (wnt_g rfl rfl rfl (hd 15 rfl) rfl) (wo_call 33 [(.tmp 39)] _ [rd a_b a_0 a_1 a_2 a_3 a_s] (.bool o) rfl (li1 (hd 16 rfl)) (fun _ _ => by kernel_rfl) (h3a _) hK))
    · exact og_eq (rd a_b a_0 a_1 a_2 a_3 a_s) rfl (fun f wf hq hd K hK => have Q1 := Q1.mo hq; go_run (wnt_g rfl rfl rfl (hd 15 rfl) rfl) (wo_load 40 (.tmp 3) (pt k1 0) (rd a_b a_0 a_1 a_2 a_3 a_s) rfl rfl (run_row Q1 40 0 6 (rdl a_b a_0 a_1 a_2 a_3 a_s) rfl Try.underlying40 rfl sz40) (hK _ (Mo.refl _))))
    · exact og_eq (.bool o) rfl (fun f wf hq hd K hK => go_run (wnt_g rfl rfl rfl (hd 15 rfl) rfl) (wo_call 34 [(.tmp 41)] _ [rd a_b a_0 a_1 a_2 a_3 a_s] (.bool o) rfl (li1 (hd 18 rfl)) (fun _ _ => by kernel_rfl) (h3b _) hK))
    · exact og_eq (.bool true) rfl (fun f wf hq hd K hK => go_run (wnt_g rfl rfl rfl (hd 15 rfl) rfl) (wo_bin (fun x y => do eqGuard .eql 4 (.tmp 40) (.tmp 42) x y; binOp .eql 4 x y) (.tmp 40) (.tmp 42) (.bool o) (.bool o) (.bool true) (fun _ => rfl) (hd 17 rfl) (hd 19 rfl) (eql4s _ _ _ _) (hK _ (Mo.refl _))))
    · exact og_eq (.bool true) rfl (fun f wf hq hd K hK => go_run rfl (wo_pick (.tmp 38) (.tmp 43) (.const (.bool false)) true (.bool true) (fun _ => rfl) (hd 15 rfl) (hd 20 rfl) (hK _ (Mo.refl _))))
    · exact og_eq (.bool true) rfl (fun f wf hq hd K hK => go_run rfl (wo_mv (.tmp 44) (.bool true) (fun _ => rfl) (hd 21 rfl) (hK _ (Mo.refl _))))
    · exact og_eq (rd x_b x_0 x_1 x_2 x_3 x_s) rfl (fun f wf hq hd K hK => have Q2 := Q2.mo hq; go_run (wnt_g rfl rfl rfl (hd 22 rfl) rfl) (wo_load 40 (.tmp 7) (pt k2 0) (rd x_b x_0 x_1 x_2 x_3 x_s) rfl rfl (run_row Q2 40 0 6 (rdl x_b x_0 x_1 x_2 x_3 x_s) rfl Try.underlying40 rfl sz40) (hK _ (Mo.refl _))))
    · exact og_eq (rd x_b x_0 x_1 x_2 x_3 x_s) rfl (fun f wf hq hd K hK => have Q3 := Q3.mo hq; go_run (wnt_g rfl rfl rfl (hd 22 rfl) rfl) (wo_load 40 (.tmp 9) (pt k3 0) (rd x_b x_0 x_1 x_2 x_3 x_s) rfl rfl (run_row Q3 40 0 6 (rdl x_b x_0 x_1 x_2 x_3 x_s) rfl Try.underlying40 rfl sz40) (hK _ (Mo.refl _))))
    · exact og_eq (.bool true) rfl (fun f wf hq hd K hK => go_run (wnt_g rfl rfl rfl (hd 22 rfl) rfl) (wo_bin (fun x y => do eqGuard .eql 40 (.tmp 46) (.tmp 47) x y; binOp .eql 40 x y) (.tmp 46) (.tmp 47) (rd x_b x_0 x_1 x_2 x_3 x_s) (rd x_b x_0 x_1 x_2 x_3 x_s) (.bool true) (fun _ => rfl) (hd 23 rfl) (hd 24 rfl) (eqd_run (self6 _ _ _ _ _ _) _ _ _) (hK _ (Mo.refl _))))
    · exact og_eq (.bool true) rfl (fun f wf hq hd K hK => go_run rfl (wo_pick (.tmp 45) (.tmp 48) (.const (.bool false)) true (.bool true) (fun _ => rfl) (hd 22 rfl) (hd 25 rfl) (hK _ (Mo.refl _))))
    · exact og_eq (.bool true) rfl (fun f wf hq hd K hK => go_run rfl (wo_mv (.tmp 49) (.bool true) (fun _ => rfl) (hd 26 rfl) (hK _ (Mo.refl _))))
    · exact og_eq (.int .i64 e0) rfl (fun f wf hq hd K hK => go_run (wnt_g rfl rfl rfl (hd 27 rfl) rfl) (wo_mv (.tmp 8) (.int .i64 e0) (fun _ => rfl) rfl (hK _ (Mo.refl _))))
    · exact og_eq (.int .i64 e0) rfl (fun f wf hq hd K hK => go_run (wnt_g rfl rfl rfl (hd 27 rfl) rfl) (wo_mv (.tmp 10) (.int .i64 e0) (fun _ => rfl) rfl (hK _ (Mo.refl _))))
  intro kf8 w8 hq hR hne
  replace Q1 := Q1.mo hq
  replace Q2 := Q2.mo hq
  replace Q3 := Q3.mo hq
  replace M := M.trans hq
  clear hq hR hne
  refine wl_bin (fun x y => do eqGuard .eql 32 (.tmp 51) (.tmp 52) x y; binOp .eql 32 x y) (.tmp 51) (.tmp 52) (.int .i64 e0) (.int .i64 e0) (.bool true) (fun _ => rfl) rfl rfl (eql32_run (by simp) _ _ _) rfl ?_
  refine wl_pick (.tmp 50) (.tmp 53) (.const (.bool false)) true (.bool true) (fun _ => rfl) rfl rfl rfl ?_
  refine wl_mv (.tmp 54) (.bool true) (fun _ => rfl) rfl rfl ?_
  refine w_nil ?_
  refine xn_then ?_
  refine w_ret ?_
  exact w_ret1 _ (.bool true) rfl rfl ⟨rfl, M⟩
theorem isD_fx (b : Bool) (V S : Int) : IsD (fx b V S) := by
  unfold fx; split
  · exact ⟨_, _, _, _, _, _, _, rfl⟩
  · exact isD_er 7
theorem ck_sc {b : Bool} {n s : Int} (h : ck b n s = 0) : 0 ≤ s ∧ s ≤ 18 := by
  unfold ck at h
  split at h
  · rename_i hh; simp at hh; exact sc_iff.1 hh.1
  · cases h
theorem products_n (b c : Bool) (n m s t S p : Int) (w : World) (hn0 : 0 ≤ n) (hn : n < MM) (hm0 : 0 ≤ m) (hm : m < MM) :
    Calls Try.prog 8 #[dc b n s, dc c m t, .int .i64 S, .int .i64 p] w fun e w' => e = .returned (.bool true) ∧ Mo w w' := by
  by_cases h : ck b n s = 0 ∧ ck c m t = 0
  · obtain ⟨h1, h2⟩ := h
    have hb1 := ck_sc h1
    have hb2 := ck_sc h2
    obtain ⟨X, hX, x1, x2⟩ : ∃ X, IsD X ∧ (∀ w, Calls Try.prog 39 #[dc b n s, dc c m t] w fun e w' => e = .returned X ∧ Mo w w') ∧ (∀ w, Calls Try.prog 40 #[dc b n s, dc c m t] w fun e w' => e = .returned X ∧ Mo w w') := by
      by_cases hg : s + t > 18
      · refine ⟨er 21, isD_er 21, fun w => dmul_sc b c n m s t w hn0 hn hm0 hm h1 h2 hb1 hb2 ?_, fun w => rmul_sc b c n m s t w hn0 hn hm0 hm h1 h2 hb1 hb2 (decide_eq_true hg)⟩
        cases hs : sc (s + t) with
        | false => rfl
        | true => rw [sc_iff] at hs; omega
      · exact ⟨_, isD_fx _ _ _, fun w => mul_x b c n m s t w hn0 hn hm0 hm h1 h2 hb1 hb2 hg, fun w => rmul_ok b c n m s t w hn0 hn hm0 hm h1 h2 hb1 hb2 hg⟩
    obtain ⟨Y, hY, y1, y2⟩ : ∃ Y, IsD Y ∧ (∀ w, Calls Try.prog 41 #[dc b n s, dc c m t, .int .i64 S, .int .i64 p] w fun e w' => e = .returned Y ∧ Mo w w') ∧ (∀ w, Calls Try.prog 42 #[dc b n s, dc c m t, .int .i64 S, .int .i64 p] w fun e w' => e = .returned Y ∧ Mo w w') := by
      cases hS : sc S with
      | false => exact ⟨er 21, isD_er 21, fun w => mulTo_e2 b c n m s t S p w hn0 hn hm0 hm h1 h2 hS, fun w => rmulTo_e2 b c n m s t S p w hn0 hn hm0 hm h1 h2 hS⟩
      | true =>
        by_cases hp : p < 1 ∨ 5 < p
        · exact ⟨er 22, isD_er 22, fun w => mulTo_e3 b c n m s t S p w hn0 hn hm0 hm h1 h2 hS hp, fun w => rmulTo_e3 b c n m s t S p w hn0 hn hm0 hm h1 h2 hS hp⟩
        · exact ⟨_, isD_fx _ _ _, fun w => mulTo_x b c n m s t S p w hn0 hn hm0 hm h1 h2 hb1 hb2 hS (by omega) (by omega), fun w => rmulTo_ok b c n m s t S p w hn0 hn hm0 hm h1 h2 hb1 hb2 hS (by omega) (by omega)⟩
    obtain ⟨b', p0, p1, p2, p3, p4, e, rfl⟩ := hX
    obtain ⟨c', q0, q1, q2, q3, q4, g, rfl⟩ := hY
    exact products_same _ _ _ _ _ _ _ _ _ _ _ _ _ _ _ _ _ _ _ _ _ _ _ _ S p e g w x1 x2 y1 y2
  · exact products_same _ _ _ _ _ _ _ _ _ _ _ _ _ _ _ _ _ _ _ _ _ _ _ _ S p 20 20 w (fun w => dmul_no b c n m s t w hn0 hn hm0 hm h) (fun w => rmul_no b c n m s t w hn0 hn hm0 hm h) (fun w => mulTo_e1 b c n m s t S p w hn0 hn hm0 hm h) (fun w => rmulTo_no b c n m s t S p w hn0 hn hm0 hm h)
theorem scales_n (b : Bool) (n s S p : Int) (w : World) (hn0 : 0 ≤ n) (hn : n < MM) :
    Calls Try.prog 9 #[dc b n s, .int .i64 S, .int .i64 p] w fun e w' => e = .returned (.bool true) ∧ Mo w w' := by
  by_cases h : ck b n s = 0
  · have hb := ck_sc h
    obtain ⟨X, hX, x1, x2⟩ : ∃ X, IsD X ∧ (∀ w, Calls Try.prog 43 #[dc b n s, .int .i64 S, .int .i64 p] w fun e w' => e = .returned X ∧ Mo w w') ∧ (∀ w, Calls Try.prog 44 #[dc b n s, .int .i64 S, .int .i64 p] w fun e w' => e = .returned X ∧ Mo w w') := by
      cases hS : sc S with
      | false => exact ⟨er 21, isD_er 21, fun w => rescale_e2 b n s S p w hn0 hn h hS, fun w => rresc_e2 b n s S p w hn0 hn h hS⟩
      | true =>
        by_cases hp : p < 1 ∨ 5 < p
        · exact ⟨er 22, isD_er 22, fun w => rescale_e3 b n s S p w hn0 hn h hS hp, fun w => rresc_e3 b n s S p w hn0 hn h hS hp⟩
        · exact ⟨_, isD_fx _ _ _, fun w => rescale_x b n s S p w hn0 hn h hb hS (by omega) (by omega), fun w => rresc_ok b n s S p w hn0 hn h hb hS (by omega) (by omega)⟩
    obtain ⟨b', p0, p1, p2, p3, p4, e, rfl⟩ := hX
    obtain ⟨k, rfl⟩ : ∃ k : Nat, s = (k : Int) := ⟨s.toNat, by omega⟩
    exact scales_same _ _ _ _ _ _ _ _ _ _ _ _ _ _ _ _ _ _ _ _ _ _ _ _ _ _ _ _ _ _ S p e 0 0 0 w x1 x2 (fun w => trim_ok b n k w hn0 hn (by omega) h) (fun w => rtrim_ok b n k w hn0 hn (by omega) h) (fun w => neg_ok b n (k : Int) w hn0 hn h) (fun w => rneg_ok b n (k : Int) w hn0 hn h) (fun w => abs_ok b n (k : Int) w hn0 hn h) (fun w => rabs_ok b n (k : Int) w hn0 hn h)
  · exact scales_same _ _ _ _ _ _ _ _ _ _ _ _ _ _ _ _ _ _ _ _ _ _ _ _ _ _ _ _ _ _ S p 20 20 20 20 w (fun w => rescale_e1 b n s S p w hn0 hn h) (fun w => rresc_no b n s S p w hn0 hn h) (fun w => trim_no b n s w hn0 hn h) (fun w => rtrim_no b n s w hn0 hn h) (fun w => neg_no b n s w hn0 hn h) (fun w => rneg_no b n s w hn0 hn h) (fun w => abs_no b n s w hn0 hn h) (fun w => rabs_no b n s w hn0 hn h)
theorem checks_n (b : Bool) (n s x S : Int) (w : World) (hn0 : 0 ≤ n) (hn : n < MM) (h0 : -9223372036854775808 ≤ x) (h1 : x < 9223372036854775808) :
    Calls Try.prog 6 #[dc b n s, .int .i64 x, .int .i64 S] w fun e w' => e = .returned (.bool true) ∧ Mo w w' := by
  obtain ⟨X, hX, x1, x2⟩ : ∃ X, IsD X ∧ (∀ w, Calls Try.prog 26 #[.int .i64 x, .int .i64 S] w fun e w' => e = .returned X ∧ Mo w w') ∧ (∀ w, Calls Try.prog 27 #[.int .i64 x, .int .i64 S] w fun e w' => e = .returned X ∧ Mo w w') := by
    cases hS : sc S with
    | false => exact ⟨er 21, isD_er 21, fun w => ofInt_no x S w hS, fun w => rofInt_no x S w hS⟩
    | true => exact ⟨_, isD_ok x S, fun w => ofInt_ok x S w hS h0 h1, fun w => rofInt_ok x S w hS h0 h1⟩
  obtain ⟨b', p0, p1, p2, p3, p4, e, rfl⟩ := hX
  obtain ⟨o, w1, w2⟩ : ∃ o : Bool, (∀ w, Calls Try.prog 33 #[dc b n s] w fun e w' => e = .returned (.bool o) ∧ Mo w w') ∧ (∀ w, Calls Try.prog 34 #[dc b n s] w fun e w' => e = .returned (.bool o) ∧ Mo w w') := by
    by_cases h : ck b n s = 0
    · have hb := ck_sc h
      obtain ⟨k, rfl⟩ : ∃ k : Nat, s = (k : Int) := ⟨s.toNat, by omega⟩
      exact ⟨_, fun w => whole_ok b n k (by omega) h w hn0 hn, fun w => rwhole_ok b n k (by omega) h w hn0 hn⟩
    · exact ⟨false, fun w => whole_no b n s h w hn0 hn, fun w => rwhole_no b n s h w hn0 hn⟩
  exact checks_same _ _ _ _ _ _ _ _ _ _ _ _ x S e _ _ o w x1 x2 (fun w => check_n b n s w hn0 hn) (fun w => rcheck_n b n s w hn0 hn) (fun w => sign_n b n s w hn0 hn) (fun w => rsign_n b n s w hn0 hn) w1 w2
end Go.Proofs.Ytoiiekmkcpcbgaa
namespace Go.Proofs.Ytoiiekmkcpcbgaa
open Go.ChangeShapes Go.WideShapes Go.ChangeAt Go.RowKit

set_option maxHeartbeats 1000000 in
set_option maxRecDepth 100000 in
theorem decimalScales_lifted (os : Os) (started : os.Started) (H : Type) (enc : TypeId × Value → H) :
    ReturnsInHanded {} Try.checked os 9 .any (Rows.decimalScalesSpec.pre6 enc Try.prog Try.f9 Rows.decimalScalesRow.domain false) (Rows.decimalScalesSpec.post enc Try.prog Try.f9 false true false false) := by
  refine returnsInHanded_of_change (C := Try.checked) Try.own started (by kernel_rfl) Try.func9
    (ChangeSpec.witness6 (enc := enc) (C := Try.checked) false ⟨#[], #[.agg #[.bool false, .int .u64 0, .int .u64 0, .int .u64 0, .int .u64 0, .int .i64 0], .int .i64 0, .int .i64 0], []⟩ 9 (by kernel_rfl) (by kernel_rfl) (by kernel_rfl) (by kernel_rfl)) ?_
  intro W base args ds gs before hval0 hW hcnd _
  have hval : ∀ (j : Nat) t v, Try.f9.params[j]? = some t → args[j]? = some v → Value.okWide Try.prog W .any base t v := hval0
  have hW' := hW
  obtain ⟨p, q, hA0, hV, rfl, hfz, hnd⟩ := hW
  have hA : DataW.TrodAll enc Try.prog W 0 (fun _ => true) true Try.f9.params.toList args.toList ds p := hA0
  rw [Try.params9] at hA hval
  obtain ⟨v0, v1, v2, d0, d1, d2, p0, p1, p2, rfl, rfl, rfl, h0, h1, h2⟩ := trodAll_three hA
  obtain ⟨rfl, rfl⟩ := trodVars_none hV
  obtain ⟨ab, a0, a1, a2, a3, az, rfl, rfl, ua, sa, ra⟩ := open_dec (hval 0 40 v0 rfl rfl) h0
  obtain ⟨bx, rfl, rfl, sb, rb⟩ := open_i64 Try.underlying3 (hval 1 3 v1 rfl rfl) h1
  obtain ⟨cx, rfl, rfl, sc, rc⟩ := open_i64 Try.underlying3 (hval 2 3 v2 rfl rfl) h2
  clear hA0 hval0
  simp only [List.append_nil] at hW'
  rw [← dc_vl ua] at *
  refine (scales_n ab (vl a0 a1 a2 a3) az bx cx W (vl_bd ua).1 (vl_bd ua).2).mono fun e W' ⟨he, hg⟩ => ?_
  subst he
  exact ⟨_, rfl, post_of_same (pa := []) (pv := []) hW' (fun _ _ _ => trodAll_mk1 (shut_bool Try.underlying4 _)) (fun sp _ => trodAll_mk3 (ra _ sp) (rb _ sp) (rc _ sp)) (fun _ _ => rfl) rfl
    (hg.1.frame _) hg.2 (ok_one (by kernel_rfl) rfl (okWide_bool_mk Try.underlying4 _))⟩

theorem decimalScales_holds : Rows.DecimalScalesSaid :=
  OpenClaim.holds_of_wide 9 Try.f9 rfl rfl rfl rfl rfl rfl rfl ⟨rfl, rfl, rfl, rfl, rfl⟩ rfl rfl rfl rfl rfl (by kernel_rfl) Try.func9 (by kernel_rfl)
    (of_decide_eq_true (by kernel_rfl)) (by unfold Func.isWrapper; rw [if_neg (of_decide_eq_false (by kernel_rfl))]; exact ⟨rfl, rfl⟩)
    (fun os started H enc _ => decimalScales_lifted os started H enc)
#print axioms decimalScales_holds
end Go.Proofs.Ytoiiekmkcpcbgaa
