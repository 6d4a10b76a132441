/-
  For every two decimals exciselaw02.DecimalSums returns true, and its arguments read behind the call as they read before; no conditions.
-/
import Derived.Carry
import Derived.Test.YtoiiekmkcpcbgaaR4
/-
  DecimalSums and DecimalCompares, where both sides answer the same.
-/
namespace Go.Proofs.Ytoiiekmkcpcbgaa
open Go.RowKit
theorem sums_same (a_b : Bool) (a_0 a_1 a_2 a_3 a_s : Int) (b_b : Bool) (b_0 b_1 b_2 b_3 b_s : Int) (x_b : Bool) (x_0 x_1 x_2 x_3 x_s : Int) (y_b : Bool) (y_0 y_1 y_2 y_3 y_s : Int) (e g : Int) (w : World) (h1 : ∀ w, Calls Try.prog 35 #[rd a_b a_0 a_1 a_2 a_3 a_s, rd b_b b_0 b_1 b_2 b_3 b_s] w fun e' w' => e' = .returned (.tuple #[rd x_b x_0 x_1 x_2 x_3 x_s, .int .i64 e]) ∧ Mo w w') (h2 : ∀ w, Calls Try.prog 36 #[rd a_b a_0 a_1 a_2 a_3 a_s, rd b_b b_0 b_1 b_2 b_3 b_s] w fun e' w' => e' = .returned (.tuple #[rd x_b x_0 x_1 x_2 x_3 x_s, .int .i64 e]) ∧ Mo w w') (h3 : ∀ w, Calls Try.prog 37 #[rd a_b a_0 a_1 a_2 a_3 a_s, rd b_b b_0 b_1 b_2 b_3 b_s] w fun e' w' => e' = .returned (.tuple #[rd y_b y_0 y_1 y_2 y_3 y_s, .int .i64 g]) ∧ Mo w w') (h4 : ∀ w, Calls Try.prog 38 #[rd a_b a_0 a_1 a_2 a_3 a_s, rd b_b b_0 b_1 b_2 b_3 b_s] w fun e' w' => e' = .returned (.tuple #[rd y_b y_0 y_1 y_2 y_3 y_s, .int .i64 g]) ∧ Mo w w') :
    Calls Try.prog 7 #[rd a_b a_0 a_1 a_2 a_3 a_s, rd b_b b_0 b_1 b_2 b_3 b_s] w fun e' w' => e' = .returned (.bool true) ∧ Mo w w' := by
  refine w_enter 58 Try.func7 Try.ntmps7 rfl rfl ?_
  have M : Mo w w := Mo.refl _
  refine w_seq ?_
  refine w_reg ?_
  refine wl_box 40 (.tmp 0) (rd a_b a_0 a_1 a_2 a_3 a_s) ((rda a_b a_0 a_1 a_2 a_3 a_s)) rfl rfl (fun _ => by kernel_rfl) rfl ?_
  intro k1 w1 hk hz hq Q1
  have N_k1 : w.heap.size ≤ k1 := by have := M.size; omega
  replace M := M.trans hq
  clear hk hz hq
  refine wl_box 40 (.tmp 1) (rd b_b b_0 b_1 b_2 b_3 b_s) ((rda b_b b_0 b_1 b_2 b_3 b_s)) rfl rfl (fun _ => by kernel_rfl) rfl ?_
  intro k2 w2 hk hz hq Q2
  have ne_k1_k2 : k1 ≠ k2 := by have := Q1.lt; omega
  have N_k2 : w.heap.size ≤ k2 := by have := M.size; omega
  replace Q1 := Q1.mo hq
  replace M := M.trans hq
  clear hk hz hq
  refine wl_mv (.const (.bool false)) (.bool false) (fun _ => rfl) rfl rfl ?_
  refine w_nil ?_
  refine xn_then ?_
  refine w_seq ?_
  refine w_reg ?_
  refine wl_load 40 (.tmp 2) (pt k1 0) (rd a_b a_0 a_1 a_2 a_3 a_s) rfl rfl (run_row Q1 40 0 6 (rdl a_b a_0 a_1 a_2 a_3 a_s) rfl Try.underlying40 rfl sz40) rfl ?_
  refine wl_load 40 (.tmp 3) (pt k2 0) (rd b_b b_0 b_1 b_2 b_3 b_s) rfl rfl (run_row Q2 40 0 6 (rdl b_b b_0 b_1 b_2 b_3 b_s) rfl Try.underlying40 rfl sz40) rfl ?_
  refine wl_call 35 [(.tmp 14), (.tmp 15)] _ [rd a_b a_0 a_1 a_2 a_3 a_s, rd b_b b_0 b_1 b_2 b_3 b_s] (.tuple #[rd x_b x_0 x_1 x_2 x_3 x_s, .int .i64 e]) rfl rfl (fun _ _ => by kernel_rfl) (h1 _) rfl ?_
  intro w3 hq
  replace Q1 := Q1.mo hq
  replace Q2 := Q2.mo hq
  replace M := M.trans hq
  clear hq
  refine wl_mv (.tmp 16) (.tuple #[rd x_b x_0 x_1 x_2 x_3 x_s, .int .i64 e]) (fun _ => rfl) rfl rfl ?_
  refine wl_un (fun v => Instr.extract v 0) (.tmp 13) (.tuple #[rd x_b x_0 x_1 x_2 x_3 x_s, .int .i64 e]) (rd x_b x_0 x_1 x_2 x_3 x_s) (fun _ => rfl) rfl (by kernel_rfl) rfl ?_
  refine wl_un (fun v => Instr.extract v 1) (.tmp 13) (.tuple #[rd x_b x_0 x_1 x_2 x_3 x_s, .int .i64 e]) (.int .i64 e) (fun _ => rfl) rfl (by kernel_rfl) rfl ?_
  refine wl_alloc 40 #[.bool false, .int .u64 0, .int .u64 0, .int .u64 0, .int .u64 0, .int .i64 0] rfl (fun _ => by kernel_rfl) rfl ?_
  intro k3 w4 hk hz hq Q3
  have ne_k1_k3 : k1 ≠ k3 := by have := Q1.lt; omega
  have ne_k2_k3 : k2 ≠ k3 := by have := Q2.lt; omega
  have N_k3 : w.heap.size ≤ k3 := by have := M.size; omega
  replace Q1 := Q1.mo hq
  replace Q2 := Q2.mo hq
  replace M := M.trans hq
  clear hk hz hq
  refine wl_st 40 (.tmp 5) (.tmp 17) k3 0 (rda x_b x_0 x_1 x_2 x_3 x_s) [.bool false, .int .u64 0, .int .u64 0, .int .u64 0, .int .u64 0, .int .i64 0] (rdl x_b x_0 x_1 x_2 x_3 x_s) Q3 rfl rfl rfl rfl rfl sz40 rfl rfl rfl ?_
  intro w5 hS Qn
  replace Q3 := Qn
  clear Qn
  replace Q1 := hS.other _ _ ne_k1_k3 Q1
  replace Q2 := hS.other _ _ ne_k2_k3 Q2
  replace M := hS.mo _ N_k3 M
  clear hS
  refine wl_mv (.tmp 18) (.int .i64 e) (fun _ => rfl) rfl rfl ?_
  refine w_nil ?_
  refine xn_then ?_
  refine w_seq ?_
  refine w_reg ?_
  refine wl_load 40 (.tmp 2) (pt k1 0) (rd a_b a_0 a_1 a_2 a_3 a_s) rfl rfl (run_row Q1 40 0 6 (rdl a_b a_0 a_1 a_2 a_3 a_s) rfl Try.underlying40 rfl sz40) rfl ?_
  refine wl_load 40 (.tmp 3) (pt k2 0) (rd b_b b_0 b_1 b_2 b_3 b_s) rfl rfl (run_row Q2 40 0 6 (rdl b_b b_0 b_1 b_2 b_3 b_s) rfl Try.underlying40 rfl sz40) rfl ?_
  refine wl_call 36 [(.tmp 20), (.tmp 21)] _ [rd a_b a_0 a_1 a_2 a_3 a_s, rd b_b b_0 b_1 b_2 b_3 b_s] (.tuple #[rd x_b x_0 x_1 x_2 x_3 x_s, .int .i64 e]) rfl rfl (fun _ _ => by kernel_rfl) (h2 _) rfl ?_
  intro w6 hq
  replace Q1 := Q1.mo hq
  replace Q2 := Q2.mo hq
  replace Q3 := Q3.mo hq
  replace M := M.trans hq
  clear hq
  refine wl_mv (.tmp 22) (.tuple #[rd x_b x_0 x_1 x_2 x_3 x_s, .int .i64 e]) (fun _ => rfl) rfl rfl ?_
  refine wl_un (fun v => Instr.extract v 0) (.tmp 19) (.tuple #[rd x_b x_0 x_1 x_2 x_3 x_s, .int .i64 e]) (rd x_b x_0 x_1 x_2 x_3 x_s) (fun _ => rfl) rfl (by kernel_rfl) rfl ?_
  refine wl_un (fun v => Instr.extract v 1) (.tmp 19) (.tuple #[rd x_b x_0 x_1 x_2 x_3 x_s, .int .i64 e]) (.int .i64 e) (fun _ => rfl) rfl (by kernel_rfl) rfl ?_
  refine wl_alloc 40 #[.bool false, .int .u64 0, .int .u64 0, .int .u64 0, .int .u64 0, .int .i64 0] rfl (fun _ => by kernel_rfl) rfl ?_
  intro k4 w7 hk hz hq Q4
  have ne_k1_k4 : k1 ≠ k4 := by have := Q1.lt; omega
  have ne_k2_k4 : k2 ≠ k4 := by have := Q2.lt; omega
  have ne_k3_k4 : k3 ≠ k4 := by have := Q3.lt; omega
  have N_k4 : w.heap.size ≤ k4 := by have := M.size; omega
  replace Q1 := Q1.mo hq
  replace Q2 := Q2.mo hq
  replace Q3 := Q3.mo hq
  replace M := M.trans hq
  clear hk hz hq
  refine wl_st 40 (.tmp 7) (.tmp 23) k4 0 (rda x_b x_0 x_1 x_2 x_3 x_s) [.bool false, .int .u64 0, .int .u64 0, .int .u64 0, .int .u64 0, .int .i64 0] (rdl x_b x_0 x_1 x_2 x_3 x_s) Q4 rfl rfl rfl rfl rfl sz40 rfl rfl rfl ?_
  intro w8 hS Qn
  replace Q4 := Qn
  clear Qn
  replace Q1 := hS.other _ _ ne_k1_k4 Q1
  replace Q2 := hS.other _ _ ne_k2_k4 Q2
  replace Q3 := hS.other _ _ ne_k3_k4 Q3
  replace M := hS.mo _ N_k4 M
  clear hS
  refine wl_mv (.tmp 24) (.int .i64 e) (fun _ => rfl) rfl rfl ?_
  refine w_nil ?_
  refine xn_then ?_
  refine w_seq ?_
  refine w_reg ?_
  refine wl_load 40 (.tmp 2) (pt k1 0) (rd a_b a_0 a_1 a_2 a_3 a_s) rfl rfl (run_row Q1 40 0 6 (rdl a_b a_0 a_1 a_2 a_3 a_s) rfl Try.underlying40 rfl sz40) rfl ?_
  refine wl_load 40 (.tmp 3) (pt k2 0) (rd b_b b_0 b_1 b_2 b_3 b_s) rfl rfl (run_row Q2 40 0 6 (rdl b_b b_0 b_1 b_2 b_3 b_s) rfl Try.underlying40 rfl sz40) rfl ?_
  refine wl_call 37 [(.tmp 26), (.tmp 27)] _ [rd a_b a_0 a_1 a_2 a_3 a_s, rd b_b b_0 b_1 b_2 b_3 b_s] (.tuple #[rd y_b y_0 y_1 y_2 y_3 y_s, .int .i64 g]) rfl rfl (fun _ _ => by kernel_rfl) (h3 _) rfl ?_
  intro w9 hq
  replace Q1 := Q1.mo hq
  replace Q2 := Q2.mo hq
  replace Q3 := Q3.mo hq
  replace Q4 := Q4.mo hq
  replace M := M.trans hq
  clear hq
  refine wl_mv (.tmp 28) (.tuple #[rd y_b y_0 y_1 y_2 y_3 y_s, .int .i64 g]) (fun _ => rfl) rfl rfl ?_
  refine wl_un (fun v => Instr.extract v 0) (.tmp 25) (.tuple #[rd y_b y_0 y_1 y_2 y_3 y_s, .int .i64 g]) (rd y_b y_0 y_1 y_2 y_3 y_s) (fun _ => rfl) rfl (by kernel_rfl) rfl ?_
  refine wl_un (fun v => Instr.extract v 1) (.tmp 25) (.tuple #[rd y_b y_0 y_1 y_2 y_3 y_s, .int .i64 g]) (.int .i64 g) (fun _ => rfl) rfl (by kernel_rfl) rfl ?_
  refine wl_alloc 40 #[.bool false, .int .u64 0, .int .u64 0, .int .u64 0, .int .u64 0, .int .i64 0] rfl (fun _ => by kernel_rfl) rfl ?_
  intro k5 w10 hk hz hq Q5
  have ne_k1_k5 : k1 ≠ k5 := by have := Q1.lt; omega
  have ne_k2_k5 : k2 ≠ k5 := by have := Q2.lt; omega
  have ne_k3_k5 : k3 ≠ k5 := by have := Q3.lt; omega
  have ne_k4_k5 : k4 ≠ k5 := by have := Q4.lt; omega
  have N_k5 : w.heap.size ≤ k5 := by have := M.size; omega
  replace Q1 := Q1.mo hq
  replace Q2 := Q2.mo hq
  replace Q3 := Q3.mo hq
  replace Q4 := Q4.mo hq
  replace M := M.trans hq
  clear hk hz hq
  refine wl_st 40 (.tmp 9) (.tmp 29) k5 0 (rda y_b y_0 y_1 y_2 y_3 y_s) [.bool false, .int .u64 0, .int .u64 0, .int .u64 0, .int .u64 0, .int .i64 0] (rdl y_b y_0 y_1 y_2 y_3 y_s) Q5 rfl rfl rfl rfl rfl sz40 rfl rfl rfl ?_
  intro w11 hS Qn
  replace Q5 := Qn
  clear Qn
  replace Q1 := hS.other _ _ ne_k1_k5 Q1
  replace Q2 := hS.other _ _ ne_k2_k5 Q2
  replace Q3 := hS.other _ _ ne_k3_k5 Q3
  replace Q4 := hS.other _ _ ne_k4_k5 Q4
  replace M := hS.mo _ N_k5 M
  clear hS
  refine wl_mv (.tmp 30) (.int .i64 g) (fun _ => rfl) rfl rfl ?_
  refine w_nil ?_
  refine xn_then ?_
  refine w_seq ?_
  refine w_reg ?_
  refine wl_load 40 (.tmp 2) (pt k1 0) (rd a_b a_0 a_1 a_2 a_3 a_s) rfl rfl (run_row Q1 40 0 6 (rdl a_b a_0 a_1 a_2 a_3 a_s) rfl Try.underlying40 rfl sz40) rfl ?_
  refine wl_load 40 (.tmp 3) (pt k2 0) (rd b_b b_0 b_1 b_2 b_3 b_s) rfl rfl (run_row Q2 40 0 6 (rdl b_b b_0 b_1 b_2 b_3 b_s) rfl Try.underlying40 rfl sz40) rfl ?_
  refine wl_call 38 [(.tmp 32), (.tmp 33)] _ [rd a_b a_0 a_1 a_2 a_3 a_s, rd b_b b_0 b_1 b_2 b_3 b_s] (.tuple #[rd y_b y_0 y_1 y_2 y_3 y_s, .int .i64 g]) rfl rfl (fun _ _ => by kernel_rfl) (h4 _) rfl ?_
  intro w12 hq
  replace Q1 := Q1.mo hq
  replace Q2 := Q2.mo hq
  replace Q3 := Q3.mo hq
  replace Q4 := Q4.mo hq
  replace Q5 := Q5.mo hq
  replace M := M.trans hq
  clear hq
  refine wl_mv (.tmp 34) (.tuple #[rd y_b y_0 y_1 y_2 y_3 y_s, .int .i64 g]) (fun _ => rfl) rfl rfl ?_
  refine wl_un (fun v => Instr.extract v 0) (.tmp 31) (.tuple #[rd y_b y_0 y_1 y_2 y_3 y_s, .int .i64 g]) (rd y_b y_0 y_1 y_2 y_3 y_s) (fun _ => rfl) rfl (by kernel_rfl) rfl ?_
  refine wl_un (fun v => Instr.extract v 1) (.tmp 31) (.tuple #[rd y_b y_0 y_1 y_2 y_3 y_s, .int .i64 g]) (.int .i64 g) (fun _ => rfl) rfl (by kernel_rfl) rfl ?_
  refine wl_alloc 40 #[.bool false, .int .u64 0, .int .u64 0, .int .u64 0, .int .u64 0, .int .i64 0] rfl (fun _ => by kernel_rfl) rfl ?_
  intro k6 w13 hk hz hq Q6
  have ne_k1_k6 : k1 ≠ k6 := by have := Q1.lt; omega
  have ne_k2_k6 : k2 ≠ k6 := by have := Q2.lt; omega
  have ne_k3_k6 : k3 ≠ k6 := by have := Q3.lt; omega
  have ne_k4_k6 : k4 ≠ k6 := by have := Q4.lt; omega
  have ne_k5_k6 : k5 ≠ k6 := by have := Q5.lt; omega
  have N_k6 : w.heap.size ≤ k6 := by have := M.size; omega
  replace Q1 := Q1.mo hq
  replace Q2 := Q2.mo hq
  replace Q3 := Q3.mo hq
  replace Q4 := Q4.mo hq
  replace Q5 := Q5.mo hq
  replace M := M.trans hq
  clear hk hz hq
  refine wl_st 40 (.tmp 11) (.tmp 35) k6 0 (rda y_b y_0 y_1 y_2 y_3 y_s) [.bool false, .int .u64 0, .int .u64 0, .int .u64 0, .int .u64 0, .int .i64 0] (rdl y_b y_0 y_1 y_2 y_3 y_s) Q6 rfl rfl rfl rfl rfl sz40 rfl rfl rfl ?_
  intro w14 hS Qn
  replace Q6 := Qn
  clear Qn
  replace Q1 := hS.other _ _ ne_k1_k6 Q1
  replace Q2 := hS.other _ _ ne_k2_k6 Q2
  replace Q3 := hS.other _ _ ne_k3_k6 Q3
  replace Q4 := hS.other _ _ ne_k4_k6 Q4
  replace Q5 := hS.other _ _ ne_k5_k6 Q5
  replace M := hS.mo _ N_k6 M
  clear hS
  refine wl_mv (.tmp 36) (.int .i64 g) (fun _ => rfl) rfl rfl ?_
  refine w_nil ?_
  refine xn_then ?_
  refine w_seq ?_
  refine w_reg ?_
  refine wl_call 28 [] _ [] (.bool true) rfl rfl (fun _ _ => by kernel_rfl) (begun_n _) rfl ?_
  intro w15 hq
  replace Q1 := Q1.mo hq
  replace Q2 := Q2.mo hq
  replace Q3 := Q3.mo hq
  replace Q4 := Q4.mo hq
  replace Q5 := Q5.mo hq
  replace Q6 := Q6.mo hq
  replace M := M.trans hq
  clear hq
  refine wl_mv (.tmp 37) (.bool true) (fun _ => rfl) rfl rfl ?_
  refine wl_load 40 (.tmp 5) (pt k3 0) (rd x_b x_0 x_1 x_2 x_3 x_s) rfl rfl (run_row Q3 40 0 6 (rdl x_b x_0 x_1 x_2 x_3 x_s) rfl Try.underlying40 rfl sz40) rfl ?_
  refine wl_load 40 (.tmp 7) (pt k4 0) (rd x_b x_0 x_1 x_2 x_3 x_s) rfl rfl (run_row Q4 40 0 6 (rdl x_b x_0 x_1 x_2 x_3 x_s) rfl Try.underlying40 rfl sz40) rfl ?_
  refine wl_bin (fun x y => do eqGuard .eql 40 (.tmp 39) (.tmp 40) x y; binOp .eql 40 x y) (.tmp 39) (.tmp 40) (rd x_b x_0 x_1 x_2 x_3 x_s) (rd x_b x_0 x_1 x_2 x_3 x_s) (.bool true) (fun _ => rfl) rfl rfl (eqd_run (self6 _ _ _ _ _ _) _ _ _) rfl ?_
  refine wl_pick (.tmp 38) (.tmp 41) (.const (.bool false)) true (.bool true) (fun _ => rfl) rfl rfl rfl ?_
  refine wl_mv (.tmp 42) (.bool true) (fun _ => rfl) rfl rfl ?_
  refine wl_mv (.tmp 6) (.int .i64 e) (fun _ => rfl) rfl rfl ?_
  refine wl_mv (.tmp 8) (.int .i64 e) (fun _ => rfl) rfl rfl ?_
  refine wl_bin (fun x y => do eqGuard .eql 32 (.tmp 44) (.tmp 45) x y; binOp .eql 32 x y) (.tmp 44) (.tmp 45) (.int .i64 e) (.int .i64 e) (.bool true) (fun _ => rfl) rfl rfl (eql32_run (by simp) _ _ _) rfl ?_
  refine wl_pick (.tmp 43) (.tmp 46) (.const (.bool false)) true (.bool true) (fun _ => rfl) rfl rfl rfl ?_
  refine wl_mv (.tmp 47) (.bool true) (fun _ => rfl) rfl rfl ?_
  refine wl_load 40 (.tmp 9) (pt k5 0) (rd y_b y_0 y_1 y_2 y_3 y_s) rfl rfl (run_row Q5 40 0 6 (rdl y_b y_0 y_1 y_2 y_3 y_s) rfl Try.underlying40 rfl sz40) rfl ?_
  refine wl_load 40 (.tmp 11) (pt k6 0) (rd y_b y_0 y_1 y_2 y_3 y_s) rfl rfl (run_row Q6 40 0 6 (rdl y_b y_0 y_1 y_2 y_3 y_s) rfl Try.underlying40 rfl sz40) rfl ?_
  refine wl_bin (fun x y => do eqGuard .eql 40 (.tmp 49) (.tmp 50) x y; binOp .eql 40 x y) (.tmp 49) (.tmp 50) (rd y_b y_0 y_1 y_2 y_3 y_s) (rd y_b y_0 y_1 y_2 y_3 y_s) (.bool true) (fun _ => rfl) rfl rfl (eqd_run (self6 _ _ _ _ _ _) _ _ _) rfl ?_
  refine wl_pick (.tmp 48) (.tmp 51) (.const (.bool false)) true (.bool true) (fun _ => rfl) rfl rfl rfl ?_
  refine wl_mv (.tmp 52) (.bool true) (fun _ => rfl) rfl rfl ?_
  refine wl_mv (.tmp 10) (.int .i64 g) (fun _ => rfl) rfl rfl ?_
  refine wl_mv (.tmp 12) (.int .i64 g) (fun _ => rfl) rfl rfl ?_
  refine wl_bin (fun x y => do eqGuard .eql 32 (.tmp 54) (.tmp 55) x y; binOp .eql 32 x y) (.tmp 54) (.tmp 55) (.int .i64 g) (.int .i64 g) (.bool true) (fun _ => rfl) rfl rfl (eql32_run (by simp) _ _ _) rfl ?_
  refine wl_pick (.tmp 53) (.tmp 56) (.const (.bool false)) true (.bool true) (fun _ => rfl) rfl rfl rfl ?_
  refine wl_mv (.tmp 57) (.bool true) (fun _ => rfl) rfl rfl ?_
  refine w_nil ?_
  refine xn_then ?_
  refine w_ret ?_
  exact w_ret1 _ (.bool true) rfl rfl ⟨rfl, M⟩
theorem compares_same (a_b : Bool) (a_0 a_1 a_2 a_3 a_s : Int) (b_b : Bool) (b_0 b_1 b_2 b_3 b_s : Int) (e : Int) (w : World) (h1 : ∀ w, Calls Try.prog 51 #[rd a_b a_0 a_1 a_2 a_3 a_s, rd b_b b_0 b_1 b_2 b_3 b_s] w fun e' w' => e' = .returned (.int .i64 e) ∧ Mo w w') (h2 : ∀ w, Calls Try.prog 52 #[rd a_b a_0 a_1 a_2 a_3 a_s, rd b_b b_0 b_1 b_2 b_3 b_s] w fun e' w' => e' = .returned (.int .i64 e) ∧ Mo w w') :
    Calls Try.prog 10 #[rd a_b a_0 a_1 a_2 a_3 a_s, rd b_b b_0 b_1 b_2 b_3 b_s] w fun e' w' => e' = .returned (.bool true) ∧ Mo w w' := by
  refine w_enter 15 Try.func10 Try.ntmps10 rfl rfl ?_
  have M : Mo w w := Mo.refl _
  refine w_seq ?_
  refine w_reg ?_
  refine wl_box 40 (.tmp 0) (rd a_b a_0 a_1 a_2 a_3 a_s) ((rda a_b a_0 a_1 a_2 a_3 a_s)) rfl rfl (fun _ => by kernel_rfl) rfl ?_
  intro k1 w1 hk hz hq Q1
  have N_k1 : w.heap.size ≤ k1 := by have := M.size; omega
  replace M := M.trans hq
  clear hk hz hq
  refine wl_box 40 (.tmp 1) (rd b_b b_0 b_1 b_2 b_3 b_s) ((rda b_b b_0 b_1 b_2 b_3 b_s)) rfl rfl (fun _ => by kernel_rfl) rfl ?_
  intro k2 w2 hk hz hq Q2
  have ne_k1_k2 : k1 ≠ k2 := by have := Q1.lt; omega
  have N_k2 : w.heap.size ≤ k2 := by have := M.size; omega
  replace Q1 := Q1.mo hq
  replace M := M.trans hq
  clear hk hz hq
  refine wl_mv (.const (.bool false)) (.bool false) (fun _ => rfl) rfl rfl ?_
  refine w_nil ?_
  refine xn_then ?_
  refine w_seq ?_
  refine w_any 7 [.inl (.bool true), .inl (.bool true), .inl (rd a_b a_0 a_1 a_2 a_3 a_s), .inl (rd b_b b_0 b_1 b_2 b_3 b_s), .inl (.int .i64 e), .inl (rd a_b a_0 a_1 a_2 a_3 a_s), .inl (rd b_b b_0 b_1 b_2 b_3 b_s)] [] (by kernel_rfl) (by kernel_rfl) (by kernel_rfl) (by kernel_rfl) rfl (by kernel_rfl) (by kernel_rfl) late_nil ?_ ?_ ?_
  · exact Ds.none rfl
  · refine ea_cons ?_ (ea_cons ?_ (ea_cons ?_ (ea_cons ?_ (ea_cons ?_ (ea_cons ?_ (ea_cons ?_ (ea_nil)))))))
    · exact og_eq (.bool true) rfl (fun f wf hq hd K hK => go_run rfl (wo_call 28 [] _ [] (.bool true) rfl rfl (fun _ _ => by kernel_rfl) (begun_n _) hK))
    · exact og_eq (.bool true) rfl (fun f wf hq hd K hK => go_run rfl (wo_mv (.tmp 5) (.bool true) (fun _ => rfl) (hd 0 rfl) (hK _ (Mo.refl _))))
    · exact og_eq (rd a_b a_0 a_1 a_2 a_3 a_s) rfl (fun f wf hq hd K hK => have Q1 := Q1.mo hq; go_run (wnt_g rfl rfl rfl (hd 1 rfl) rfl) (wo_load 40 (.tmp 2) (pt k1 0) (rd a_b a_0 a_1 a_2 a_3 a_s) rfl rfl (run_row Q1 40 0 6 (rdl a_b a_0 a_1 a_2 a_3 a_s) rfl Try.underlying40 rfl sz40) (hK _ (Mo.refl _))))
    · exact og_eq (rd b_b b_0 b_1 b_2 b_3 b_s) rfl (fun f wf hq hd K hK => have Q2 := Q2.mo hq; go_run (wnt_g rfl rfl rfl (hd 1 rfl) rfl) (wo_load 40 (.tmp 3) (pt k2 0) (rd b_b b_0 b_1 b_2 b_3 b_s) rfl rfl (run_row Q2 40 0 6 (rdl b_b b_0 b_1 b_2 b_3 b_s) rfl Try.underlying40 rfl sz40) (hK _ (Mo.refl _))))
    · exact og_eq (.int .i64 e) rfl (fun f wf hq hd K hK => go_run (wnt_g rfl rfl rfl (hd 1 rfl) rfl) (wo_call 51 [(.tmp 7), (.tmp 8)] _ [rd a_b a_0 a_1 a_2 a_3 a_s, rd b_b b_0 b_1 b_2 b_3 b_s] (.int .i64 e) rfl (li2 (hd 2 rfl) (hd 3 rfl)) (fun _ _ => by kernel_rfl) (h1 _) hK))
    · exact og_eq (rd a_b a_0 a_1 a_2 a_3 a_s) rfl (fun f wf hq hd K hK => have Q1 := Q1.mo hq; go_run (wnt_g rfl rfl rfl (hd 1 rfl) rfl) (wo_load 40 (.tmp 2) (pt k1 0) (rd a_b a_0 a_1 a_2 a_3 a_s) rfl rfl (run_row Q1 40 0 6 (rdl a_b a_0 a_1 a_2 a_3 a_s) rfl Try.underlying40 rfl sz40) (hK _ (Mo.refl _))))
    · exact og_eq (rd b_b b_0 b_1 b_2 b_3 b_s) rfl (fun f wf hq hd K hK => have Q2 := Q2.mo hq; go_run (wnt_g rfl rfl rfl (hd 1 rfl) rfl) (wo_load 40 (.tmp 3) (pt k2 0) (rd b_b b_0 b_1 b_2 b_3 b_s) rfl rfl (run_row Q2 40 0 6 (rdl b_b b_0 b_1 b_2 b_3 b_s) rfl Try.underlying40 rfl sz40) (hK _ (Mo.refl _))))
  intro kf3 w3 hq hR hne
  replace Q1 := Q1.mo hq
  replace Q2 := Q2.mo hq
  replace M := M.trans hq
  clear hq hR hne
  refine wl_call 52 [(.tmp 10), (.tmp 11)] _ [rd a_b a_0 a_1 a_2 a_3 a_s, rd b_b b_0 b_1 b_2 b_3 b_s] (.int .i64 e) rfl rfl (fun _ _ => by kernel_rfl) (h2 _) rfl ?_
  intro w4 hq
  replace Q1 := Q1.mo hq
  replace Q2 := Q2.mo hq
  replace M := M.trans hq
  clear hq
  refine wl_bin (fun x y => do eqGuard .eql 3 (.tmp 9) (.tmp 12) x y; binOp .eql 3 x y) (.tmp 9) (.tmp 12) (.int .i64 e) (.int .i64 e) (.bool true) (fun _ => rfl) rfl rfl (eql3_run (by simp) _ _ _) rfl ?_
  refine wl_pick (.tmp 6) (.tmp 13) (.const (.bool false)) true (.bool true) (fun _ => rfl) rfl rfl rfl ?_
  refine wl_mv (.tmp 14) (.bool true) (fun _ => rfl) rfl rfl ?_
  refine w_nil ?_
  refine xn_then ?_
  refine w_ret ?_
  exact w_ret1 _ (.bool true) rfl rfl ⟨rfl, M⟩
theorem sums_n (b c : Bool) (n m s t : Int) (w : World) (hn0 : 0 ≤ n) (hn : n < MM) (hm0 : 0 ≤ m) (hm : m < MM) :
    Calls Try.prog 7 #[dc b n s, dc c m t] w fun e w' => e = .returned (.bool true) ∧ Mo w w' := by
  by_cases h : ck b n s = 0 ∧ ck c m t = 0
  · obtain ⟨h1, h2⟩ := h
    obtain ⟨hs, u, rfl, rfl⟩ := dz_of hn0 h1
    obtain ⟨ht, v, rfl, rfl⟩ := dz_of hm0 h2
    have a1 := fun w => add_z u s v t w hn hm hs ht
    have a2 := fun w => radd_z u s v t w hn hm hs ht
    have s1 := fun w => sub_z u s v t w hn hm hs ht
    have s2 := fun w => rsub_z u s v t w hn hm hs ht
    obtain ⟨b', p0, p1, p2, p3, p4, e, hE⟩ := isD_fz (addV u s v t) (max s t)
    obtain ⟨c', q0, q1, q2, q3, q4, g, hG⟩ := isD_fz (addV u s (-v) t) (max s t)
    rw [hE] at a1 a2
    rw [hG] at s1 s2
    exact sums_same _ _ _ _ _ _ _ _ _ _ _ _ _ _ _ _ _ _ _ _ _ _ _ _ e g w a1 a2 s1 s2
  · exact sums_same _ _ _ _ _ _ _ _ _ _ _ _ _ _ _ _ _ _ _ _ _ _ _ _ 20 20 w (fun w => add_no b c n m s t w hn0 hn hm0 hm h) (fun w => radd_no b c n m s t w hn0 hn hm0 hm h) (fun w => sub_no b c n m s t w hn0 hn hm0 hm h) (fun w => rsub_no b c n m s t w hn0 hn hm0 hm h)
theorem compares_n (b c : Bool) (n m s t : Int) (w : World) (hn0 : 0 ≤ n) (hn : n < MM) (hm0 : 0 ≤ m) (hm : m < MM) :
    Calls Try.prog 10 #[dc b n s, dc c m t] w fun e w' => e = .returned (.bool true) ∧ Mo w w' := by
  by_cases h : ck b n s = 0 ∧ ck c m t = 0
  · obtain ⟨h1, h2⟩ := h
    obtain ⟨hs, u, rfl, rfl⟩ := dz_of hn0 h1
    obtain ⟨ht, v, rfl, rfl⟩ := dz_of hm0 h2
    exact compares_same _ _ _ _ _ _ _ _ _ _ _ _ _ w (fun w => cmp_z u s v t w hn hm hs ht) (fun w => rcmpd_z u s v t w hn hm hs ht)
  · exact compares_same _ _ _ _ _ _ _ _ _ _ _ _ 0 w (fun w => dcmp_no b c n m s t w hn0 hn hm0 hm h) (fun w => rcmpd_no b c n m s t w hn0 hn hm0 hm h)
end Go.Proofs.Ytoiiekmkcpcbgaa
namespace Go.Proofs.Ytoiiekmkcpcbgaa
open Go.ChangeShapes Go.WideShapes Go.ChangeAt Go.RowKit

set_option maxHeartbeats 1000000 in
set_option maxRecDepth 100000 in
theorem decimalSums_lifted (os : Os) (started : os.Started) (H : Type) (enc : TypeId × Value → H) :
    ReturnsInHanded {} Try.checked os 7 .any (Rows.decimalSumsSpec.pre6 enc Try.prog Try.f7 Rows.decimalSumsRow.domain false) (Rows.decimalSumsSpec.post enc Try.prog Try.f7 false true false false) := by
  refine returnsInHanded_of_change (C := Try.checked) Try.own started (by kernel_rfl) Try.func7
    (ChangeSpec.witness6 (enc := enc) (C := Try.checked) false ⟨#[], #[.agg #[.bool false, .int .u64 0, .int .u64 0, .int .u64 0, .int .u64 0, .int .i64 0], .agg #[.bool false, .int .u64 0, .int .u64 0, .int .u64 0, .int .u64 0, .int .i64 0]], []⟩ 7 (by kernel_rfl) (by kernel_rfl) (by kernel_rfl) (by kernel_rfl)) ?_
  intro W base args ds gs before hval0 hW hcnd _
  have hval : ∀ (j : Nat) t v, Try.f7.params[j]? = some t → args[j]? = some v → Value.okWide Try.prog W .any base t v := hval0
  have hW' := hW
  obtain ⟨p, q, hA0, hV, rfl, hfz, hnd⟩ := hW
  have hA : DataW.TrodAll enc Try.prog W 0 (fun _ => true) true Try.f7.params.toList args.toList ds p := hA0
  rw [Try.params7] at hA hval
  obtain ⟨v0, v1, d0, d1, p0, p1, rfl, rfl, rfl, h0, h1⟩ := trodAll_two hA
  obtain ⟨rfl, rfl⟩ := trodVars_none hV
  obtain ⟨ab, a0, a1, a2, a3, az, rfl, rfl, ua, sa, ra⟩ := open_dec (hval 0 40 v0 rfl rfl) h0
  obtain ⟨bb, b0, b1, b2, b3, bz, rfl, rfl, ub, sb, rb⟩ := open_dec (hval 1 40 v1 rfl rfl) h1
  clear hA0 hval0
  simp only [List.append_nil] at hW'
  rw [← dc_vl ua, ← dc_vl ub] at *
  refine (sums_n ab bb (vl a0 a1 a2 a3) (vl b0 b1 b2 b3) az bz  W (vl_bd ua).1 (vl_bd ua).2 (vl_bd ub).1 (vl_bd ub).2).mono fun e W' ⟨he, hg⟩ => ?_
  subst he
  exact ⟨_, rfl, post_of_same (pa := []) (pv := []) hW' (fun _ _ _ => trodAll_mk1 (shut_bool Try.underlying4 _)) (fun sp _ => trodAll_mk2 (ra _ sp) (rb _ sp)) (fun _ _ => rfl) rfl
    (hg.1.frame _) hg.2 (ok_one (by kernel_rfl) rfl (okWide_bool_mk Try.underlying4 _))⟩

theorem decimalSums_holds : Rows.DecimalSumsSaid :=
  OpenClaim.holds_of_wide 7 Try.f7 rfl rfl rfl rfl rfl rfl rfl ⟨rfl, rfl, rfl, rfl, rfl⟩ rfl rfl rfl rfl rfl (by kernel_rfl) Try.func7 (by kernel_rfl)
    (of_decide_eq_true (by kernel_rfl)) (by unfold Func.isWrapper; rw [if_neg (of_decide_eq_false (by kernel_rfl))]; exact ⟨rfl, rfl⟩)
    (fun os started H enc _ => decimalSums_lifted os started H enc)
#print axioms decimalSums_holds
end Go.Proofs.Ytoiiekmkcpcbgaa
