/-
  A part of the proof.
-/
import Derived.Test.YtoiiekmkcpcbgaaB5
/-
  DecimalUndoes and DecimalHalves, out of what the functions answer.
-/
namespace Go.Proofs.Ytoiiekmkcpcbgaa
open Go.RowKit
theorem eql32_run {a b : Int} {r : Bool} (h : (a == b) = r) (x y : Operand) (w : World) : (do eqGuard .eql 32 x y (.int .i64 a) (.int .i64 b); binOp .eql 32 (.int .i64 a) (.int .i64 b)).run Try.prog w = .ok (.bool r) w := by
  subst h; kernel_rfl
theorem neq32_run {a b : Int} {r : Bool} (h : (a == b) = (!r)) (x y : Operand) (w : World) : (do eqGuard .neq 32 x y (.int .i64 a) (.int .i64 b); binOp .neq 32 (.int .i64 a) (.int .i64 b)).run Try.prog w = .ok (.bool r) w := by
  have e : (do eqGuard .neq 32 x y (.int .i64 a) (.int .i64 b); binOp .neq 32 (.int .i64 a) (.int .i64 b)).run Try.prog w = .ok (.bool (!(a == b))) w := by kernel_rfl
  rw [e, h]; simp
theorem lss32_run {a b : Int} {r : Bool} (h : decide (a < b) = r) (x y : Operand) (w : World) : (do eqGuard .lss 32 x y (.int .i64 a) (.int .i64 b); binOp .lss 32 (.int .i64 a) (.int .i64 b)).run Try.prog w = .ok (.bool r) w := by
  subst h; kernel_rfl
theorem leq32_run {a b : Int} {r : Bool} (h : decide (a ≤ b) = r) (x y : Operand) (w : World) : (do eqGuard .leq 32 x y (.int .i64 a) (.int .i64 b); binOp .leq 32 (.int .i64 a) (.int .i64 b)).run Try.prog w = .ok (.bool r) w := by
  subst h; kernel_rfl
theorem gtr32_run {a b : Int} {r : Bool} (h : decide (a > b) = r) (x y : Operand) (w : World) : (do eqGuard .gtr 32 x y (.int .i64 a) (.int .i64 b); binOp .gtr 32 (.int .i64 a) (.int .i64 b)).run Try.prog w = .ok (.bool r) w := by
  subst h; kernel_rfl
theorem geq32_run {a b : Int} {r : Bool} (h : decide (a ≥ b) = r) (x y : Operand) (w : World) : (do eqGuard .geq 32 x y (.int .i64 a) (.int .i64 b); binOp .geq 32 (.int .i64 a) (.int .i64 b)).run Try.prog w = .ok (.bool r) w := by
  subst h; kernel_rfl
theorem eql3_run {a b : Int} {r : Bool} (h : (a == b) = r) (x y : Operand) (w : World) : (do eqGuard .eql 3 x y (.int .i64 a) (.int .i64 b); binOp .eql 3 (.int .i64 a) (.int .i64 b)).run Try.prog w = .ok (.bool r) w := by
  subst h; kernel_rfl
theorem neq3_run {a b : Int} {r : Bool} (h : (a == b) = (!r)) (x y : Operand) (w : World) : (do eqGuard .neq 3 x y (.int .i64 a) (.int .i64 b); binOp .neq 3 (.int .i64 a) (.int .i64 b)).run Try.prog w = .ok (.bool r) w := by
  have e : (do eqGuard .neq 3 x y (.int .i64 a) (.int .i64 b); binOp .neq 3 (.int .i64 a) (.int .i64 b)).run Try.prog w = .ok (.bool (!(a == b))) w := by kernel_rfl
  rw [e, h]; simp
theorem lss3_run {a b : Int} {r : Bool} (h : decide (a < b) = r) (x y : Operand) (w : World) : (do eqGuard .lss 3 x y (.int .i64 a) (.int .i64 b); binOp .lss 3 (.int .i64 a) (.int .i64 b)).run Try.prog w = .ok (.bool r) w := by
  subst h; kernel_rfl
theorem leq3_run {a b : Int} {r : Bool} (h : decide (a ≤ b) = r) (x y : Operand) (w : World) : (do eqGuard .leq 3 x y (.int .i64 a) (.int .i64 b); binOp .leq 3 (.int .i64 a) (.int .i64 b)).run Try.prog w = .ok (.bool r) w := by
  subst h; kernel_rfl
theorem gtr3_run {a b : Int} {r : Bool} (h : decide (a > b) = r) (x y : Operand) (w : World) : (do eqGuard .gtr 3 x y (.int .i64 a) (.int .i64 b); binOp .gtr 3 (.int .i64 a) (.int .i64 b)).run Try.prog w = .ok (.bool r) w := by
  subst h; kernel_rfl
theorem geq3_run {a b : Int} {r : Bool} (h : decide (a ≥ b) = r) (x y : Operand) (w : World) : (do eqGuard .geq 3 x y (.int .i64 a) (.int .i64 b); binOp .geq 3 (.int .i64 a) (.int .i64 b)).run Try.prog w = .ok (.bool r) w := by
  subst h; kernel_rfl
/-- A decimal by its cells. -/
abbrev rda (b : Bool) (n0 n1 n2 n3 s : Int) : Array Value := #[.bool b, .int .u64 n0, .int .u64 n1, .int .u64 n2, .int .u64 n3, .int .i64 s]
abbrev rdl (b : Bool) (n0 n1 n2 n3 s : Int) : List Value := [.bool b, .int .u64 n0, .int .u64 n1, .int .u64 n2, .int .u64 n3, .int .i64 s]
abbrev rd (b : Bool) (n0 n1 n2 n3 s : Int) : Value := .agg #[.bool b, .int .u64 n0, .int .u64 n1, .int .u64 n2, .int .u64 n3, .int .i64 s]
theorem undoes_err (a_b : Bool) (a_0 a_1 a_2 a_3 a_s : Int) (b_b : Bool) (b_0 b_1 b_2 b_3 b_s : Int) (x_b : Bool) (x_0 x_1 x_2 x_3 x_s : Int) (p_b : Bool) (p_0 p_1 p_2 p_3 p_s : Int) (e g : Int) (w : World) (h1 : ∀ w, Calls Try.prog 35 #[rd a_b a_0 a_1 a_2 a_3 a_s, rd b_b b_0 b_1 b_2 b_3 b_s] w fun e' w' => e' = .returned (.tuple #[rd x_b x_0 x_1 x_2 x_3 x_s, .int .i64 e]) ∧ Mo w w') (h2 : ∀ w, Calls Try.prog 35 #[rd b_b b_0 b_1 b_2 b_3 b_s, rd a_b a_0 a_1 a_2 a_3 a_s] w fun e' w' => e' = .returned (.tuple #[rd x_b x_0 x_1 x_2 x_3 x_s, .int .i64 e]) ∧ Mo w w') (h3 : ∀ w, Calls Try.prog 39 #[rd a_b a_0 a_1 a_2 a_3 a_s, rd b_b b_0 b_1 b_2 b_3 b_s] w fun e' w' => e' = .returned (.tuple #[rd p_b p_0 p_1 p_2 p_3 p_s, .int .i64 g]) ∧ Mo w w') (h4 : ∀ w, Calls Try.prog 39 #[rd b_b b_0 b_1 b_2 b_3 b_s, rd a_b a_0 a_1 a_2 a_3 a_s] w fun e' w' => e' = .returned (.tuple #[rd p_b p_0 p_1 p_2 p_3 p_s, .int .i64 g]) ∧ Mo w w') (he : (e == 0) = false) :
    Calls Try.prog 11 #[rd a_b a_0 a_1 a_2 a_3 a_s, rd b_b b_0 b_1 b_2 b_3 b_s] w fun e' w' => e' = .returned (.bool true) ∧ Mo w w' := by
  refine w_enter 74 Try.func11 Try.ntmps11 rfl rfl ?_
  have M : Mo w w := Mo.refl _
  refine w_seq ?_
  refine w_reg ?_
  refine wl_box 40 (.tmp 0) (rd a_b a_0 a_1 a_2 a_3 a_s) ((rda a_b a_0 a_1 a_2 a_3 a_s)) rfl rfl (fun _ => by kernel_rfl) rfl ?_
  intro k1 w1 hk hz hq Q1
  have N_k1 : w.heap.size ≤ k1 := by have := M.size; omega
  replace M := M.trans hq
  clear hk hz hq
  refine wl_box 40 (.tmp 1) (rd b_b b_0 b_1 b_2 b_3 b_s) ((rda b_b b_0 b_1 b_2 b_3 b_s)) rfl rfl (fun _ => by kernel_rfl) rfl ?_
  intro k2 w2 hk hz hq Q2
  have ne_k1_k2 : k1 ≠ k2 := by have := Q1.lt; omega
  have N_k2 : w.heap.size ≤ k2 := by have := M.size; omega
  replace Q1 := Q1.mo hq
  replace M := M.trans hq
  clear hk hz hq
  refine wl_mv (.const (.bool false)) (.bool false) (fun _ => rfl) rfl rfl ?_
  refine w_nil ?_
  refine xn_then ?_
  refine w_seq ?_
  refine w_reg ?_
  refine wl_load 40 (.tmp 2) (pt k1 0) (rd a_b a_0 a_1 a_2 a_3 a_s) rfl rfl (run_row Q1 40 0 6 (rdl a_b a_0 a_1 a_2 a_3 a_s) rfl Try.underlying40 rfl sz40) rfl ?_
  refine wl_load 40 (.tmp 3) (pt k2 0) (rd b_b b_0 b_1 b_2 b_3 b_s) rfl rfl (run_row Q2 40 0 6 (rdl b_b b_0 b_1 b_2 b_3 b_s) rfl Try.underlying40 rfl sz40) rfl ?_
  refine wl_call 35 [(.tmp 15), (.tmp 16)] _ [rd a_b a_0 a_1 a_2 a_3 a_s, rd b_b b_0 b_1 b_2 b_3 b_s] (.tuple #[rd x_b x_0 x_1 x_2 x_3 x_s, .int .i64 e]) rfl rfl (fun _ _ => by kernel_rfl) (h1 _) rfl ?_
  intro w3 hq
  replace Q1 := Q1.mo hq
  replace Q2 := Q2.mo hq
  replace M := M.trans hq
  clear hq
  refine wl_mv (.tmp 17) (.tuple #[rd x_b x_0 x_1 x_2 x_3 x_s, .int .i64 e]) (fun _ => rfl) rfl rfl ?_
  refine wl_un (fun v => Instr.extract v 0) (.tmp 14) (.tuple #[rd x_b x_0 x_1 x_2 x_3 x_s, .int .i64 e]) (rd x_b x_0 x_1 x_2 x_3 x_s) (fun _ => rfl) rfl (by kernel_rfl) rfl ?_
  refine wl_un (fun v => Instr.extract v 1) (.tmp 14) (.tuple #[rd x_b x_0 x_1 x_2 x_3 x_s, .int .i64 e]) (.int .i64 e) (fun _ => rfl) rfl (by kernel_rfl) rfl ?_
  refine wl_alloc 40 #[.bool false, .int .u64 0, .int .u64 0, .int .u64 0, .int .u64 0, .int .i64 0] rfl (fun _ => by kernel_rfl) rfl ?_
  intro k3 w4 hk hz hq Q3
  have ne_k1_k3 : k1 ≠ k3 := by have := Q1.lt; omega
  have ne_k2_k3 : k2 ≠ k3 := by have := Q2.lt; omega
  have N_k3 : w.heap.size ≤ k3 := by have := M.size; omega
  replace Q1 := Q1.mo hq
  replace Q2 := Q2.mo hq
  replace M := M.trans hq
  clear hk hz hq
  refine wl_st 40 (.tmp 5) (.tmp 18) k3 0 (rda x_b x_0 x_1 x_2 x_3 x_s) [.bool false, .int .u64 0, .int .u64 0, .int .u64 0, .int .u64 0, .int .i64 0] (rdl x_b x_0 x_1 x_2 x_3 x_s) Q3 rfl rfl rfl rfl rfl sz40 rfl rfl rfl ?_
  intro w5 hS Qn
  replace Q3 := Qn
  clear Qn
  replace Q1 := hS.other _ _ ne_k1_k3 Q1
  replace Q2 := hS.other _ _ ne_k2_k3 Q2
  replace M := hS.mo _ N_k3 M
  clear hS
  refine wl_mv (.tmp 19) (.int .i64 e) (fun _ => rfl) rfl rfl ?_
  refine w_nil ?_
  refine xn_then ?_
  refine w_seq ?_
  refine w_reg ?_
  refine wl_load 40 (.tmp 3) (pt k2 0) (rd b_b b_0 b_1 b_2 b_3 b_s) rfl rfl (run_row Q2 40 0 6 (rdl b_b b_0 b_1 b_2 b_3 b_s) rfl Try.underlying40 rfl sz40) rfl ?_
  refine wl_load 40 (.tmp 2) (pt k1 0) (rd a_b a_0 a_1 a_2 a_3 a_s) rfl rfl (run_row Q1 40 0 6 (rdl a_b a_0 a_1 a_2 a_3 a_s) rfl Try.underlying40 rfl sz40) rfl ?_
  refine wl_call 35 [(.tmp 21), (.tmp 22)] _ [rd b_b b_0 b_1 b_2 b_3 b_s, rd a_b a_0 a_1 a_2 a_3 a_s] (.tuple #[rd x_b x_0 x_1 x_2 x_3 x_s, .int .i64 e]) rfl rfl (fun _ _ => by kernel_rfl) (h2 _) rfl ?_
  intro w6 hq
  replace Q1 := Q1.mo hq
  replace Q2 := Q2.mo hq
  replace Q3 := Q3.mo hq
  replace M := M.trans hq
  clear hq
  refine wl_mv (.tmp 23) (.tuple #[rd x_b x_0 x_1 x_2 x_3 x_s, .int .i64 e]) (fun _ => rfl) rfl rfl ?_
  refine wl_un (fun v => Instr.extract v 0) (.tmp 20) (.tuple #[rd x_b x_0 x_1 x_2 x_3 x_s, .int .i64 e]) (rd x_b x_0 x_1 x_2 x_3 x_s) (fun _ => rfl) rfl (by kernel_rfl) rfl ?_
  refine wl_un (fun v => Instr.extract v 1) (.tmp 20) (.tuple #[rd x_b x_0 x_1 x_2 x_3 x_s, .int .i64 e]) (.int .i64 e) (fun _ => rfl) rfl (by kernel_rfl) rfl ?_
  refine wl_alloc 40 #[.bool false, .int .u64 0, .int .u64 0, .int .u64 0, .int .u64 0, .int .i64 0] rfl (fun _ => by kernel_rfl) rfl ?_
  intro k4 w7 hk hz hq Q4
  have ne_k1_k4 : k1 ≠ k4 := by have := Q1.lt; omega
  have ne_k2_k4 : k2 ≠ k4 := by have := Q2.lt; omega
  have ne_k3_k4 : k3 ≠ k4 := by have := Q3.lt; omega
  have N_k4 : w.heap.size ≤ k4 := by have := M.size; omega
  replace Q1 := Q1.mo hq
  replace Q2 := Q2.mo hq
  replace Q3 := Q3.mo hq
  replace M := M.trans hq
  clear hk hz hq
  refine wl_st 40 (.tmp 7) (.tmp 24) k4 0 (rda x_b x_0 x_1 x_2 x_3 x_s) [.bool false, .int .u64 0, .int .u64 0, .int .u64 0, .int .u64 0, .int .i64 0] (rdl x_b x_0 x_1 x_2 x_3 x_s) Q4 rfl rfl rfl rfl rfl sz40 rfl rfl rfl ?_
  intro w8 hS Qn
  replace Q4 := Qn
  clear Qn
  replace Q1 := hS.other _ _ ne_k1_k4 Q1
  replace Q2 := hS.other _ _ ne_k2_k4 Q2
  replace Q3 := hS.other _ _ ne_k3_k4 Q3
  replace M := hS.mo _ N_k4 M
  clear hS
  refine wl_mv (.tmp 25) (.int .i64 e) (fun _ => rfl) rfl rfl ?_
  refine w_nil ?_
  refine xn_then ?_
  refine w_seq ?_
  refine w_seq ?_
  refine w_reg ?_
  refine wl_call 28 [] _ [] (.bool true) rfl rfl (fun _ _ => by kernel_rfl) (begun_n _) rfl ?_
  intro w9 hq
  replace Q1 := Q1.mo hq
  replace Q2 := Q2.mo hq
  replace Q3 := Q3.mo hq
  replace Q4 := Q4.mo hq
  replace M := M.trans hq
  clear hq
  refine wl_un (fun v => Op.unary .not v) (.tmp 26) (.bool true) (.bool false) (fun _ => rfl) rfl (by kernel_rfl) rfl ?_
  refine wl_mv (.tmp 27) (.bool false) (fun _ => rfl) rfl rfl ?_
  refine wl_load 40 (.tmp 5) (pt k3 0) (rd x_b x_0 x_1 x_2 x_3 x_s) rfl rfl (run_row Q3 40 0 6 (rdl x_b x_0 x_1 x_2 x_3 x_s) rfl Try.underlying40 rfl sz40) rfl ?_
  refine wl_load 40 (.tmp 7) (pt k4 0) (rd x_b x_0 x_1 x_2 x_3 x_s) rfl rfl (run_row Q4 40 0 6 (rdl x_b x_0 x_1 x_2 x_3 x_s) rfl Try.underlying40 rfl sz40) rfl ?_
  refine wl_bin (fun x y => do eqGuard .neq 40 (.tmp 29) (.tmp 30) x y; binOp .neq 40 x y) (.tmp 29) (.tmp 30) (rd x_b x_0 x_1 x_2 x_3 x_s) (rd x_b x_0 x_1 x_2 x_3 x_s) (.bool false) (fun _ => rfl) rfl rfl (ned_run (self6 _ _ _ _ _ _) _ _ _) rfl ?_
  refine wl_pick (.tmp 28) (.const (.bool true)) (.tmp 31) false (.bool false) (fun _ => rfl) rfl rfl rfl ?_
  refine wl_mv (.tmp 32) (.bool false) (fun _ => rfl) rfl rfl ?_
  refine wl_mv (.tmp 6) (.int .i64 e) (fun _ => rfl) rfl rfl ?_
  refine wl_mv (.tmp 8) (.int .i64 e) (fun _ => rfl) rfl rfl ?_
  refine wl_bin (fun x y => do eqGuard .neq 32 (.tmp 34) (.tmp 35) x y; binOp .neq 32 x y) (.tmp 34) (.tmp 35) (.int .i64 e) (.int .i64 e) (.bool false) (fun _ => rfl) rfl rfl (neq32_run (by simp) _ _ _) rfl ?_
  refine wl_pick (.tmp 33) (.const (.bool true)) (.tmp 36) false (.bool false) (fun _ => rfl) rfl rfl rfl ?_
  refine w_nil ?_
  refine xn_then ?_
  refine w_condF rfl ?_
  refine w_skip ?_
  refine xn_then ?_
  refine w_seq ?_
  refine w_reg ?_
  refine wl_load 40 (.tmp 2) (pt k1 0) (rd a_b a_0 a_1 a_2 a_3 a_s) rfl rfl (run_row Q1 40 0 6 (rdl a_b a_0 a_1 a_2 a_3 a_s) rfl Try.underlying40 rfl sz40) rfl ?_
  refine wl_load 40 (.tmp 3) (pt k2 0) (rd b_b b_0 b_1 b_2 b_3 b_s) rfl rfl (run_row Q2 40 0 6 (rdl b_b b_0 b_1 b_2 b_3 b_s) rfl Try.underlying40 rfl sz40) rfl ?_
  refine wl_call 39 [(.tmp 39), (.tmp 40)] _ [rd a_b a_0 a_1 a_2 a_3 a_s, rd b_b b_0 b_1 b_2 b_3 b_s] (.tuple #[rd p_b p_0 p_1 p_2 p_3 p_s, .int .i64 g]) rfl rfl (fun _ _ => by kernel_rfl) (h3 _) rfl ?_
  intro w10 hq
  replace Q1 := Q1.mo hq
  replace Q2 := Q2.mo hq
  replace Q3 := Q3.mo hq
  replace Q4 := Q4.mo hq
  replace M := M.trans hq
  clear hq
  refine wl_mv (.tmp 41) (.tuple #[rd p_b p_0 p_1 p_2 p_3 p_s, .int .i64 g]) (fun _ => rfl) rfl rfl ?_
  refine wl_un (fun v => Instr.extract v 0) (.tmp 38) (.tuple #[rd p_b p_0 p_1 p_2 p_3 p_s, .int .i64 g]) (rd p_b p_0 p_1 p_2 p_3 p_s) (fun _ => rfl) rfl (by kernel_rfl) rfl ?_
  refine wl_un (fun v => Instr.extract v 1) (.tmp 38) (.tuple #[rd p_b p_0 p_1 p_2 p_3 p_s, .int .i64 g]) (.int .i64 g) (fun _ => rfl) rfl (by kernel_rfl) rfl ?_
  refine wl_alloc 40 #[.bool false, .int .u64 0, .int .u64 0, .int .u64 0, .int .u64 0, .int .i64 0] rfl (fun _ => by kernel_rfl) rfl ?_
  intro k5 w11 hk hz hq Q5
  have ne_k1_k5 : k1 ≠ k5 := by have := Q1.lt; omega
  have ne_k2_k5 : k2 ≠ k5 := by have := Q2.lt; omega
  have ne_k3_k5 : k3 ≠ k5 := by have := Q3.lt; omega
  have ne_k4_k5 : k4 ≠ k5 := by have := Q4.lt; omega
  have N_k5 : w.heap.size ≤ k5 := by have := M.size; omega
  replace Q1 := Q1.mo hq
  replace Q2 := Q2.mo hq
  replace Q3 := Q3.mo hq
  replace Q4 := Q4.mo hq
  replace M := M.trans hq
  clear hk hz hq
  refine wl_st 40 (.tmp 9) (.tmp 42) k5 0 (rda p_b p_0 p_1 p_2 p_3 p_s) [.bool false, .int .u64 0, .int .u64 0, .int .u64 0, .int .u64 0, .int .i64 0] (rdl p_b p_0 p_1 p_2 p_3 p_s) Q5 rfl rfl rfl rfl rfl sz40 rfl rfl rfl ?_
  intro w12 hS Qn
  replace Q5 := Qn
  clear Qn
  replace Q1 := hS.other _ _ ne_k1_k5 Q1
  replace Q2 := hS.other _ _ ne_k2_k5 Q2
  replace Q3 := hS.other _ _ ne_k3_k5 Q3
  replace Q4 := hS.other _ _ ne_k4_k5 Q4
  replace M := hS.mo _ N_k5 M
  clear hS
  refine wl_mv (.tmp 43) (.int .i64 g) (fun _ => rfl) rfl rfl ?_
  refine w_nil ?_
  refine xn_then ?_
  refine w_seq ?_
  refine w_reg ?_
  refine wl_load 40 (.tmp 3) (pt k2 0) (rd b_b b_0 b_1 b_2 b_3 b_s) rfl rfl (run_row Q2 40 0 6 (rdl b_b b_0 b_1 b_2 b_3 b_s) rfl Try.underlying40 rfl sz40) rfl ?_
  refine wl_load 40 (.tmp 2) (pt k1 0) (rd a_b a_0 a_1 a_2 a_3 a_s) rfl rfl (run_row Q1 40 0 6 (rdl a_b a_0 a_1 a_2 a_3 a_s) rfl Try.underlying40 rfl sz40) rfl ?_
  refine wl_call 39 [(.tmp 45), (.tmp 46)] _ [rd b_b b_0 b_1 b_2 b_3 b_s, rd a_b a_0 a_1 a_2 a_3 a_s] (.tuple #[rd p_b p_0 p_1 p_2 p_3 p_s, .int .i64 g]) rfl rfl (fun _ _ => by kernel_rfl) (h4 _) rfl ?_
  intro w13 hq
  replace Q1 := Q1.mo hq
  replace Q2 := Q2.mo hq
  replace Q3 := Q3.mo hq
  replace Q4 := Q4.mo hq
  replace Q5 := Q5.mo hq
  replace M := M.trans hq
  clear hq
  refine wl_mv (.tmp 47) (.tuple #[rd p_b p_0 p_1 p_2 p_3 p_s, .int .i64 g]) (fun _ => rfl) rfl rfl ?_
  refine wl_un (fun v => Instr.extract v 0) (.tmp 44) (.tuple #[rd p_b p_0 p_1 p_2 p_3 p_s, .int .i64 g]) (rd p_b p_0 p_1 p_2 p_3 p_s) (fun _ => rfl) rfl (by kernel_rfl) rfl ?_
  refine wl_un (fun v => Instr.extract v 1) (.tmp 44) (.tuple #[rd p_b p_0 p_1 p_2 p_3 p_s, .int .i64 g]) (.int .i64 g) (fun _ => rfl) rfl (by kernel_rfl) rfl ?_
  refine wl_alloc 40 #[.bool false, .int .u64 0, .int .u64 0, .int .u64 0, .int .u64 0, .int .i64 0] rfl (fun _ => by kernel_rfl) rfl ?_
  intro k6 w14 hk hz hq Q6
  have ne_k1_k6 : k1 ≠ k6 := by have := Q1.lt; omega
  have ne_k2_k6 : k2 ≠ k6 := by have := Q2.lt; omega
  have ne_k3_k6 : k3 ≠ k6 := by have := Q3.lt; omega
  have ne_k4_k6 : k4 ≠ k6 := by have := Q4.lt; omega
  have ne_k5_k6 : k5 ≠ k6 := by have := Q5.lt; omega
  have N_k6 : w.heap.size ≤ k6 := by have := M.size; omega
  replace Q1 := Q1.mo hq
  replace Q2 := Q2.mo hq
  replace Q3 := Q3.mo hq
  replace Q4 := Q4.mo hq
  replace Q5 := Q5.mo hq
  replace M := M.trans hq
  clear hk hz hq
  refine wl_st 40 (.tmp 11) (.tmp 48) k6 0 (rda p_b p_0 p_1 p_2 p_3 p_s) [.bool false, .int .u64 0, .int .u64 0, .int .u64 0, .int .u64 0, .int .i64 0] (rdl p_b p_0 p_1 p_2 p_3 p_s) Q6 rfl rfl rfl rfl rfl sz40 rfl rfl rfl ?_
  intro w15 hS Qn
  replace Q6 := Qn
  clear Qn
  replace Q1 := hS.other _ _ ne_k1_k6 Q1
  replace Q2 := hS.other _ _ ne_k2_k6 Q2
  replace Q3 := hS.other _ _ ne_k3_k6 Q3
  replace Q4 := hS.other _ _ ne_k4_k6 Q4
  replace Q5 := hS.other _ _ ne_k5_k6 Q5
  replace M := hS.mo _ N_k6 M
  clear hS
  refine wl_mv (.tmp 49) (.int .i64 g) (fun _ => rfl) rfl rfl ?_
  refine w_nil ?_
  refine xn_then ?_
  refine w_seq ?_
  refine w_seq ?_
  refine w_reg ?_
  refine wl_load 40 (.tmp 9) (pt k5 0) (rd p_b p_0 p_1 p_2 p_3 p_s) rfl rfl (run_row Q5 40 0 6 (rdl p_b p_0 p_1 p_2 p_3 p_s) rfl Try.underlying40 rfl sz40) rfl ?_
  refine wl_load 40 (.tmp 11) (pt k6 0) (rd p_b p_0 p_1 p_2 p_3 p_s) rfl rfl (run_row Q6 40 0 6 (rdl p_b p_0 p_1 p_2 p_3 p_s) rfl Try.underlying40 rfl sz40) rfl ?_
  refine wl_bin (fun x y => do eqGuard .neq 40 (.tmp 50) (.tmp 51) x y; binOp .neq 40 x y) (.tmp 50) (.tmp 51) (rd p_b p_0 p_1 p_2 p_3 p_s) (rd p_b p_0 p_1 p_2 p_3 p_s) (.bool false) (fun _ => rfl) rfl rfl (ned_run (self6 _ _ _ _ _ _) _ _ _) rfl ?_
  refine wl_mv (.tmp 52) (.bool false) (fun _ => rfl) rfl rfl ?_
  refine wl_mv (.tmp 10) (.int .i64 g) (fun _ => rfl) rfl rfl ?_
  refine wl_mv (.tmp 12) (.int .i64 g) (fun _ => rfl) rfl rfl ?_
  refine wl_bin (fun x y => do eqGuard .neq 32 (.tmp 54) (.tmp 55) x y; binOp .neq 32 x y) (.tmp 54) (.tmp 55) (.int .i64 g) (.int .i64 g) (.bool false) (fun _ => rfl) rfl rfl (neq32_run (by simp) _ _ _) rfl ?_
  refine wl_pick (.tmp 53) (.const (.bool true)) (.tmp 56) false (.bool false) (fun _ => rfl) rfl rfl rfl ?_
  refine w_nil ?_
  refine xn_then ?_
  refine w_condF rfl ?_
  refine w_skip ?_
  refine xn_then ?_
  refine w_seq ?_
  refine w_seq ?_
  refine w_reg ?_
  refine wl_mv (.tmp 6) (.int .i64 e) (fun _ => rfl) rfl rfl ?_
  refine wl_bin (fun x y => do eqGuard .neq 32 (.tmp 58) (.const (.int .i64 (0))) x y; binOp .neq 32 x y) (.tmp 58) (.const (.int .i64 (0))) (.int .i64 e) (.int .i64 (0)) (.bool true) (fun _ => rfl) rfl rfl (neq32_run he _ _ _) rfl ?_
  refine w_nil ?_
  refine xn_then ?_
  refine w_condT rfl ?_
  refine w_seq ?_
  refine w_reg ?_
  refine wl_mv (.const (.bool true)) (.bool true) (fun _ => rfl) rfl rfl ?_
  refine w_nil ?_
  refine xn_then ?_
  refine w_ret ?_
  refine xr_then ?_
  exact w_ret1 _ (.bool true) rfl rfl ⟨rfl, M⟩
theorem undoes_over (a_b : Bool) (a_0 a_1 a_2 a_3 a_s : Int) (b_b : Bool) (b_0 b_1 b_2 b_3 b_s : Int) (x_b : Bool) (x_0 x_1 x_2 x_3 x_s : Int) (p_b : Bool) (p_0 p_1 p_2 p_3 p_s : Int) (y_b : Bool) (y_0 y_1 y_2 y_3 y_s : Int) (g : Int) (w : World) (h1 : ∀ w, Calls Try.prog 35 #[rd a_b a_0 a_1 a_2 a_3 a_s, rd b_b b_0 b_1 b_2 b_3 b_s] w fun e' w' => e' = .returned (.tuple #[rd x_b x_0 x_1 x_2 x_3 x_s, .int .i64 (0)]) ∧ Mo w w') (h2 : ∀ w, Calls Try.prog 35 #[rd b_b b_0 b_1 b_2 b_3 b_s, rd a_b a_0 a_1 a_2 a_3 a_s] w fun e' w' => e' = .returned (.tuple #[rd x_b x_0 x_1 x_2 x_3 x_s, .int .i64 (0)]) ∧ Mo w w') (h3 : ∀ w, Calls Try.prog 39 #[rd a_b a_0 a_1 a_2 a_3 a_s, rd b_b b_0 b_1 b_2 b_3 b_s] w fun e' w' => e' = .returned (.tuple #[rd p_b p_0 p_1 p_2 p_3 p_s, .int .i64 g]) ∧ Mo w w') (h4 : ∀ w, Calls Try.prog 39 #[rd b_b b_0 b_1 b_2 b_3 b_s, rd a_b a_0 a_1 a_2 a_3 a_s] w fun e' w' => e' = .returned (.tuple #[rd p_b p_0 p_1 p_2 p_3 p_s, .int .i64 g]) ∧ Mo w w') (h5 : ∀ w, Calls Try.prog 37 #[rd x_b x_0 x_1 x_2 x_3 x_s, rd b_b b_0 b_1 b_2 b_3 b_s] w fun e' w' => e' = .returned (.tuple #[rd y_b y_0 y_1 y_2 y_3 y_s, .int .i64 (7)]) ∧ Mo w w') :
    Calls Try.prog 11 #[rd a_b a_0 a_1 a_2 a_3 a_s, rd b_b b_0 b_1 b_2 b_3 b_s] w fun e' w' => e' = .returned (.bool true) ∧ Mo w w' := by
  refine w_enter 74 Try.func11 Try.ntmps11 rfl rfl ?_
  have M : Mo w w := Mo.refl _
  refine w_seq ?_
  refine w_reg ?_
  refine wl_box 40 (.tmp 0) (rd a_b a_0 a_1 a_2 a_3 a_s) ((rda a_b a_0 a_1 a_2 a_3 a_s)) rfl rfl (fun _ => by kernel_rfl) rfl ?_
  intro k1 w1 hk hz hq Q1
  have N_k1 : w.heap.size ≤ k1 := by have := M.size; omega
  replace M := M.trans hq
  clear hk hz hq
  refine wl_box 40 (.tmp 1) (rd b_b b_0 b_1 b_2 b_3 b_s) ((rda b_b b_0 b_1 b_2 b_3 b_s)) rfl rfl (fun _ => by kernel_rfl) rfl ?_
  intro k2 w2 hk hz hq Q2
  have ne_k1_k2 : k1 ≠ k2 := by have := Q1.lt; omega
  have N_k2 : w.heap.size ≤ k2 := by have := M.size; omega
  replace Q1 := Q1.mo hq
  replace M := M.trans hq
  clear hk hz hq
  refine wl_mv (.const (.bool false)) (.bool false) (fun _ => rfl) rfl rfl ?_
  refine w_nil ?_
  refine xn_then ?_
  refine w_seq ?_
  refine w_reg ?_
  refine wl_load 40 (.tmp 2) (pt k1 0) (rd a_b a_0 a_1 a_2 a_3 a_s) rfl rfl (run_row Q1 40 0 6 (rdl a_b a_0 a_1 a_2 a_3 a_s) rfl Try.underlying40 rfl sz40) rfl ?_
  refine wl_load 40 (.tmp 3) (pt k2 0) (rd b_b b_0 b_1 b_2 b_3 b_s) rfl rfl (run_row Q2 40 0 6 (rdl b_b b_0 b_1 b_2 b_3 b_s) rfl Try.underlying40 rfl sz40) rfl ?_
  refine wl_call 35 [(.tmp 15), (.tmp 16)] _ [rd a_b a_0 a_1 a_2 a_3 a_s, rd b_b b_0 b_1 b_2 b_3 b_s] (.tuple #[rd x_b x_0 x_1 x_2 x_3 x_s, .int .i64 (0)]) rfl rfl (fun _ _ => by kernel_rfl) (h1 _) rfl ?_
  intro w3 hq
  replace Q1 := Q1.mo hq
  replace Q2 := Q2.mo hq
  replace M := M.trans hq
  clear hq
  refine wl_mv (.tmp 17) (.tuple #[rd x_b x_0 x_1 x_2 x_3 x_s, .int .i64 (0)]) (fun _ => rfl) rfl rfl ?_
  refine wl_un (fun v => Instr.extract v 0) (.tmp 14) (.tuple #[rd x_b x_0 x_1 x_2 x_3 x_s, .int .i64 (0)]) (rd x_b x_0 x_1 x_2 x_3 x_s) (fun _ => rfl) rfl (by kernel_rfl) rfl ?_
  refine wl_un (fun v => Instr.extract v 1) (.tmp 14) (.tuple #[rd x_b x_0 x_1 x_2 x_3 x_s, .int .i64 (0)]) (.int .i64 (0)) (fun _ => rfl) rfl (by kernel_rfl) rfl ?_
  refine wl_alloc 40 #[.bool false, .int .u64 0, .int .u64 0, .int .u64 0, .int .u64 0, .int .i64 0] rfl (fun _ => by kernel_rfl) rfl ?_
  intro k3 w4 hk hz hq Q3
  have ne_k1_k3 : k1 ≠ k3 := by have := Q1.lt; omega
  have ne_k2_k3 : k2 ≠ k3 := by have := Q2.lt; omega
  have N_k3 : w.heap.size ≤ k3 := by have := M.size; omega
  replace Q1 := Q1.mo hq
  replace Q2 := Q2.mo hq
  replace M := M.trans hq
  clear hk hz hq
  refine wl_st 40 (.tmp 5) (.tmp 18) k3 0 (rda x_b x_0 x_1 x_2 x_3 x_s) [.bool false, .int .u64 0, .int .u64 0, .int .u64 0, .int .u64 0, .int .i64 0] (rdl x_b x_0 x_1 x_2 x_3 x_s) Q3 rfl rfl rfl rfl rfl sz40 rfl rfl rfl ?_
  intro w5 hS Qn
  replace Q3 := Qn
  clear Qn
  replace Q1 := hS.other _ _ ne_k1_k3 Q1
  replace Q2 := hS.other _ _ ne_k2_k3 Q2
  replace M := hS.mo _ N_k3 M
  clear hS
  refine wl_mv (.tmp 19) (.int .i64 (0)) (fun _ => rfl) rfl rfl ?_
  refine w_nil ?_
  refine xn_then ?_
  refine w_seq ?_
  refine w_reg ?_
  refine wl_load 40 (.tmp 3) (pt k2 0) (rd b_b b_0 b_1 b_2 b_3 b_s) rfl rfl (run_row Q2 40 0 6 (rdl b_b b_0 b_1 b_2 b_3 b_s) rfl Try.underlying40 rfl sz40) rfl ?_
  refine wl_load 40 (.tmp 2) (pt k1 0) (rd a_b a_0 a_1 a_2 a_3 a_s) rfl rfl (run_row Q1 40 0 6 (rdl a_b a_0 a_1 a_2 a_3 a_s) rfl Try.underlying40 rfl sz40) rfl ?_
  refine wl_call 35 [(.tmp 21), (.tmp 22)] _ [rd b_b b_0 b_1 b_2 b_3 b_s, rd a_b a_0 a_1 a_2 a_3 a_s] (.tuple #[rd x_b x_0 x_1 x_2 x_3 x_s, .int .i64 (0)]) rfl rfl (fun _ _ => by kernel_rfl) (h2 _) rfl ?_
  intro w6 hq
  replace Q1 := Q1.mo hq
  replace Q2 := Q2.mo hq
  replace Q3 := Q3.mo hq
  replace M := M.trans hq
  clear hq
  refine wl_mv (.tmp 23) (.tuple #[rd x_b x_0 x_1 x_2 x_3 x_s, .int .i64 (0)]) (fun _ => rfl) rfl rfl ?_
  refine wl_un (fun v => Instr.extract v 0) (.tmp 20) (.tuple #[rd x_b x_0 x_1 x_2 x_3 x_s, .int .i64 (0)]) (rd x_b x_0 x_1 x_2 x_3 x_s) (fun _ => rfl) rfl (by kernel_rfl) rfl ?_
  refine wl_un (fun v => Instr.extract v 1) (.tmp 20) (.tuple #[rd x_b x_0 x_1 x_2 x_3 x_s, .int .i64 (0)]) (.int .i64 (0)) (fun _ => rfl) rfl (by kernel_rfl) rfl ?_
  refine wl_alloc 40 #[.bool false, .int .u64 0, .int .u64 0, .int .u64 0, .int .u64 0, .int .i64 0] rfl (fun _ => by kernel_rfl) rfl ?_
  intro k4 w7 hk hz hq Q4
  have ne_k1_k4 : k1 ≠ k4 := by have := Q1.lt; omega
  have ne_k2_k4 : k2 ≠ k4 := by have := Q2.lt; omega
  have ne_k3_k4 : k3 ≠ k4 := by have := Q3.lt; omega
  have N_k4 : w.heap.size ≤ k4 := by have := M.size; omega
  replace Q1 := Q1.mo hq
  replace Q2 := Q2.mo hq
  replace Q3 := Q3.mo hq
  replace M := M.trans hq
  clear hk hz hq
  refine wl_st 40 (.tmp 7) (.tmp 24) k4 0 (rda x_b x_0 x_1 x_2 x_3 x_s) [.bool false, .int .u64 0, .int .u64 0, .int .u64 0, .int .u64 0, .int .i64 0] (rdl x_b x_0 x_1 x_2 x_3 x_s) Q4 rfl rfl rfl rfl rfl sz40 rfl rfl rfl ?_
  intro w8 hS Qn
  replace Q4 := Qn
  clear Qn
  replace Q1 := hS.other _ _ ne_k1_k4 Q1
  replace Q2 := hS.other _ _ ne_k2_k4 Q2
  replace Q3 := hS.other _ _ ne_k3_k4 Q3
  replace M := hS.mo _ N_k4 M
  clear hS
  refine wl_mv (.tmp 25) (.int .i64 (0)) (fun _ => rfl) rfl rfl ?_
  refine w_nil ?_
  refine xn_then ?_
  refine w_seq ?_
  refine w_seq ?_
  refine w_reg ?_
  refine wl_call 28 [] _ [] (.bool true) rfl rfl (fun _ _ => by kernel_rfl) (begun_n _) rfl ?_
  intro w9 hq
  replace Q1 := Q1.mo hq
  replace Q2 := Q2.mo hq
  replace Q3 := Q3.mo hq
  replace Q4 := Q4.mo hq
  replace M := M.trans hq
  clear hq
  refine wl_un (fun v => Op.unary .not v) (.tmp 26) (.bool true) (.bool false) (fun _ => rfl) rfl (by kernel_rfl) rfl ?_
  refine wl_mv (.tmp 27) (.bool false) (fun _ => rfl) rfl rfl ?_
  refine wl_load 40 (.tmp 5) (pt k3 0) (rd x_b x_0 x_1 x_2 x_3 x_s) rfl rfl (run_row Q3 40 0 6 (rdl x_b x_0 x_1 x_2 x_3 x_s) rfl Try.underlying40 rfl sz40) rfl ?_
  refine wl_load 40 (.tmp 7) (pt k4 0) (rd x_b x_0 x_1 x_2 x_3 x_s) rfl rfl (run_row Q4 40 0 6 (rdl x_b x_0 x_1 x_2 x_3 x_s) rfl Try.underlying40 rfl sz40) rfl ?_
  refine wl_bin (fun x y => do eqGuard .neq 40 (.tmp 29) (.tmp 30) x y; binOp .neq 40 x y) (.tmp 29) (.tmp 30) (rd x_b x_0 x_1 x_2 x_3 x_s) (rd x_b x_0 x_1 x_2 x_3 x_s) (.bool false) (fun _ => rfl) rfl rfl (ned_run (self6 _ _ _ _ _ _) _ _ _) rfl ?_
  refine wl_pick (.tmp 28) (.const (.bool true)) (.tmp 31) false (.bool false) (fun _ => rfl) rfl rfl rfl ?_
  refine wl_mv (.tmp 32) (.bool false) (fun _ => rfl) rfl rfl ?_
  refine wl_mv (.tmp 6) (.int .i64 (0)) (fun _ => rfl) rfl rfl ?_
  refine wl_mv (.tmp 8) (.int .i64 (0)) (fun _ => rfl) rfl rfl ?_
  refine wl_bin (fun x y => do eqGuard .neq 32 (.tmp 34) (.tmp 35) x y; binOp .neq 32 x y) (.tmp 34) (.tmp 35) (.int .i64 (0)) (.int .i64 (0)) (.bool false) (fun _ => rfl) rfl rfl (by kernel_rfl) rfl ?_
  refine wl_pick (.tmp 33) (.const (.bool true)) (.tmp 36) false (.bool false) (fun _ => rfl) rfl rfl rfl ?_
  refine w_nil ?_
  refine xn_then ?_
  refine w_condF rfl ?_
  refine w_skip ?_
  refine xn_then ?_
  refine w_seq ?_
  refine w_reg ?_
  refine wl_load 40 (.tmp 2) (pt k1 0) (rd a_b a_0 a_1 a_2 a_3 a_s) rfl rfl (run_row Q1 40 0 6 (rdl a_b a_0 a_1 a_2 a_3 a_s) rfl Try.underlying40 rfl sz40) rfl ?_
  refine wl_load 40 (.tmp 3) (pt k2 0) (rd b_b b_0 b_1 b_2 b_3 b_s) rfl rfl (run_row Q2 40 0 6 (rdl b_b b_0 b_1 b_2 b_3 b_s) rfl Try.underlying40 rfl sz40) rfl ?_
  refine wl_call 39 [(.tmp 39), (.tmp 40)] _ [rd a_b a_0 a_1 a_2 a_3 a_s, rd b_b b_0 b_1 b_2 b_3 b_s] (.tuple #[rd p_b p_0 p_1 p_2 p_3 p_s, .int .i64 g]) rfl rfl (fun _ _ => by kernel_rfl) (h3 _) rfl ?_
  intro w10 hq
  replace Q1 := Q1.mo hq
  replace Q2 := Q2.mo hq
  replace Q3 := Q3.mo hq
  replace Q4 := Q4.mo hq
  replace M := M.trans hq
  clear hq
  refine wl_mv (.tmp 41) (.tuple #[rd p_b p_0 p_1 p_2 p_3 p_s, .int .i64 g]) (fun _ => rfl) rfl rfl ?_
  refine wl_un (fun v => Instr.extract v 0) (.tmp 38) (.tuple #[rd p_b p_0 p_1 p_2 p_3 p_s, .int .i64 g]) (rd p_b p_0 p_1 p_2 p_3 p_s) (fun _ => rfl) rfl (by kernel_rfl) rfl ?_
  refine wl_un (fun v => Instr.extract v 1) (.tmp 38) (.tuple #[rd p_b p_0 p_1 p_2 p_3 p_s, .int .i64 g]) (.int .i64 g) (fun _ => rfl) rfl (by kernel_rfl) rfl ?_
  refine wl_alloc 40 #[.bool false, .int .u64 0, .int .u64 0, .int .u64 0, .int .u64 0, .int .i64 0] rfl (fun _ => by kernel_rfl) rfl ?_
  intro k5 w11 hk hz hq Q5
  have ne_k1_k5 : k1 ≠ k5 := by have := Q1.lt; omega
  have ne_k2_k5 : k2 ≠ k5 := by have := Q2.lt; omega
  have ne_k3_k5 : k3 ≠ k5 := by have := Q3.lt; omega
  have ne_k4_k5 : k4 ≠ k5 := by have := Q4.lt; omega
  have N_k5 : w.heap.size ≤ k5 := by have := M.size; omega
  replace Q1 := Q1.mo hq
  replace Q2 := Q2.mo hq
  replace Q3 := Q3.mo hq
  replace Q4 := Q4.mo hq
  replace M := M.trans hq
  clear hk hz hq
  refine wl_st 40 (.tmp 9) (.tmp 42) k5 0 (rda p_b p_0 p_1 p_2 p_3 p_s) [.bool false, .int .u64 0, .int .u64 0, .int .u64 0, .int .u64 0, .int .i64 0] (rdl p_b p_0 p_1 p_2 p_3 p_s) Q5 rfl rfl rfl rfl rfl sz40 rfl rfl rfl ?_
  intro w12 hS Qn
  replace Q5 := Qn
  clear Qn
  replace Q1 := hS.other _ _ ne_k1_k5 Q1
  replace Q2 := hS.other _ _ ne_k2_k5 Q2
  replace Q3 := hS.other _ _ ne_k3_k5 Q3
  replace Q4 := hS.other _ _ ne_k4_k5 Q4
  replace M := hS.mo _ N_k5 M
  clear hS
  refine wl_mv (.tmp 43) (.int .i64 g) (fun _ => rfl) rfl rfl ?_
  refine w_nil ?_
  refine xn_then ?_
  refine w_seq ?_
  refine w_reg ?_
  refine wl_load 40 (.tmp 3) (pt k2 0) (rd b_b b_0 b_1 b_2 b_3 b_s) rfl rfl (run_row Q2 40 0 6 (rdl b_b b_0 b_1 b_2 b_3 b_s) rfl Try.underlying40 rfl sz40) rfl ?_
  refine wl_load 40 (.tmp 2) (pt k1 0) (rd a_b a_0 a_1 a_2 a_3 a_s) rfl rfl (run_row Q1 40 0 6 (rdl a_b a_0 a_1 a_2 a_3 a_s) rfl Try.underlying40 rfl sz40) rfl ?_
  refine wl_call 39 [(.tmp 45), (.tmp 46)] _ [rd b_b b_0 b_1 b_2 b_3 b_s, rd a_b a_0 a_1 a_2 a_3 a_s] (.tuple #[rd p_b p_0 p_1 p_2 p_3 p_s, .int .i64 g]) rfl rfl (fun _ _ => by kernel_rfl) (h4 _) rfl ?_
  intro w13 hq
  replace Q1 := Q1.mo hq
  replace Q2 := Q2.mo hq
  replace Q3 := Q3.mo hq
  replace Q4 := Q4.mo hq
  replace Q5 := Q5.mo hq
  replace M := M.trans hq
  clear hq
  refine wl_mv (.tmp 47) (.tuple #[rd p_b p_0 p_1 p_2 p_3 p_s, .int .i64 g]) (fun _ => rfl) rfl rfl ?_
  refine wl_un (fun v => Instr.extract v 0) (.tmp 44) (.tuple #[rd p_b p_0 p_1 p_2 p_3 p_s, .int .i64 g]) (rd p_b p_0 p_1 p_2 p_3 p_s) (fun _ => rfl) rfl (by kernel_rfl) rfl ?_
  refine wl_un (fun v => Instr.extract v 1) (.tmp 44) (.tuple #[rd p_b p_0 p_1 p_2 p_3 p_s, .int .i64 g]) (.int .i64 g) (fun _ => rfl) rfl (by kernel_rfl) rfl ?_
  refine wl_alloc 40 #[.bool false, .int .u64 0, .int .u64 0, .int .u64 0, .int .u64 0, .int .i64 0] rfl (fun _ => by kernel_rfl) rfl ?_
  intro k6 w14 hk hz hq Q6
  have ne_k1_k6 : k1 ≠ k6 := by have := Q1.lt; omega
  have ne_k2_k6 : k2 ≠ k6 := by have := Q2.lt; omega
  have ne_k3_k6 : k3 ≠ k6 := by have := Q3.lt; omega
  have ne_k4_k6 : k4 ≠ k6 := by have := Q4.lt; omega
  have ne_k5_k6 : k5 ≠ k6 := by have := Q5.lt; omega
  have N_k6 : w.heap.size ≤ k6 := by have := M.size; omega
  replace Q1 := Q1.mo hq
  replace Q2 := Q2.mo hq
  replace Q3 := Q3.mo hq
  replace Q4 := Q4.mo hq
  replace Q5 := Q5.mo hq
  replace M := M.trans hq
  clear hk hz hq
  refine wl_st 40 (.tmp 11) (.tmp 48) k6 0 (rda p_b p_0 p_1 p_2 p_3 p_s) [.bool false, .int .u64 0, .int .u64 0, .int .u64 0, .int .u64 0, .int .i64 0] (rdl p_b p_0 p_1 p_2 p_3 p_s) Q6 rfl rfl rfl rfl rfl sz40 rfl rfl rfl ?_
  intro w15 hS Qn
  replace Q6 := Qn
  clear Qn
  replace Q1 := hS.other _ _ ne_k1_k6 Q1
  replace Q2 := hS.other _ _ ne_k2_k6 Q2
  replace Q3 := hS.other _ _ ne_k3_k6 Q3
  replace Q4 := hS.other _ _ ne_k4_k6 Q4
  replace Q5 := hS.other _ _ ne_k5_k6 Q5
  replace M := hS.mo _ N_k6 M
  clear hS
  refine wl_mv (.tmp 49) (.int .i64 g) (fun _ => rfl) rfl rfl ?_
  refine w_nil ?_
  refine xn_then ?_
  refine w_seq ?_
  refine w_seq ?_
  refine w_reg ?_
  refine wl_load 40 (.tmp 9) (pt k5 0) (rd p_b p_0 p_1 p_2 p_3 p_s) rfl rfl (run_row Q5 40 0 6 (rdl p_b p_0 p_1 p_2 p_3 p_s) rfl Try.underlying40 rfl sz40) rfl ?_
  refine wl_load 40 (.tmp 11) (pt k6 0) (rd p_b p_0 p_1 p_2 p_3 p_s) rfl rfl (run_row Q6 40 0 6 (rdl p_b p_0 p_1 p_2 p_3 p_s) rfl Try.underlying40 rfl sz40) rfl ?_
  refine wl_bin (fun x y => do eqGuard .neq 40 (.tmp 50) (.tmp 51) x y; binOp .neq 40 x y) (.tmp 50) (.tmp 51) (rd p_b p_0 p_1 p_2 p_3 p_s) (rd p_b p_0 p_1 p_2 p_3 p_s) (.bool false) (fun _ => rfl) rfl rfl (ned_run (self6 _ _ _ _ _ _) _ _ _) rfl ?_
  refine wl_mv (.tmp 52) (.bool false) (fun _ => rfl) rfl rfl ?_
  refine wl_mv (.tmp 10) (.int .i64 g) (fun _ => rfl) rfl rfl ?_
  refine wl_mv (.tmp 12) (.int .i64 g) (fun _ => rfl) rfl rfl ?_
  refine wl_bin (fun x y => do eqGuard .neq 32 (.tmp 54) (.tmp 55) x y; binOp .neq 32 x y) (.tmp 54) (.tmp 55) (.int .i64 g) (.int .i64 g) (.bool false) (fun _ => rfl) rfl rfl (neq32_run (by simp) _ _ _) rfl ?_
  refine wl_pick (.tmp 53) (.const (.bool true)) (.tmp 56) false (.bool false) (fun _ => rfl) rfl rfl rfl ?_
  refine w_nil ?_
  refine xn_then ?_
  refine w_condF rfl ?_
  refine w_skip ?_
  refine xn_then ?_
  refine w_seq ?_
  refine w_seq ?_
  refine w_reg ?_
  refine wl_mv (.tmp 6) (.int .i64 (0)) (fun _ => rfl) rfl rfl ?_
  refine wl_bin (fun x y => do eqGuard .neq 32 (.tmp 58) (.const (.int .i64 (0))) x y; binOp .neq 32 x y) (.tmp 58) (.const (.int .i64 (0))) (.int .i64 (0)) (.int .i64 (0)) (.bool false) (fun _ => rfl) rfl rfl (by kernel_rfl) rfl ?_
  refine w_nil ?_
  refine xn_then ?_
  refine w_condF rfl ?_
  refine w_skip ?_
  refine xn_then ?_
  refine w_seq ?_
  refine w_reg ?_
  refine wl_load 40 (.tmp 5) (pt k3 0) (rd x_b x_0 x_1 x_2 x_3 x_s) rfl rfl (run_row Q3 40 0 6 (rdl x_b x_0 x_1 x_2 x_3 x_s) rfl Try.underlying40 rfl sz40) rfl ?_
  refine wl_load 40 (.tmp 3) (pt k2 0) (rd b_b b_0 b_1 b_2 b_3 b_s) rfl rfl (run_row Q2 40 0 6 (rdl b_b b_0 b_1 b_2 b_3 b_s) rfl Try.underlying40 rfl sz40) rfl ?_
  refine wl_call 37 [(.tmp 61), (.tmp 62)] _ [rd x_b x_0 x_1 x_2 x_3 x_s, rd b_b b_0 b_1 b_2 b_3 b_s] (.tuple #[rd y_b y_0 y_1 y_2 y_3 y_s, .int .i64 (7)]) rfl rfl (fun _ _ => by kernel_rfl) (h5 _) rfl ?_
  intro w16 hq
  replace Q1 := Q1.mo hq
  replace Q2 := Q2.mo hq
  replace Q3 := Q3.mo hq
  replace Q4 := Q4.mo hq
  replace Q5 := Q5.mo hq
  replace Q6 := Q6.mo hq
  replace M := M.trans hq
  clear hq
  refine wl_mv (.tmp 63) (.tuple #[rd y_b y_0 y_1 y_2 y_3 y_s, .int .i64 (7)]) (fun _ => rfl) rfl rfl ?_
  refine wl_un (fun v => Instr.extract v 0) (.tmp 60) (.tuple #[rd y_b y_0 y_1 y_2 y_3 y_s, .int .i64 (7)]) (rd y_b y_0 y_1 y_2 y_3 y_s) (fun _ => rfl) rfl (by kernel_rfl) rfl ?_
  refine wl_un (fun v => Instr.extract v 1) (.tmp 60) (.tuple #[rd y_b y_0 y_1 y_2 y_3 y_s, .int .i64 (7)]) (.int .i64 (7)) (fun _ => rfl) rfl (by kernel_rfl) rfl ?_
  refine wl_alloc 40 #[.bool false, .int .u64 0, .int .u64 0, .int .u64 0, .int .u64 0, .int .i64 0] rfl (fun _ => by kernel_rfl) rfl ?_
  intro k7 w17 hk hz hq Q7
  have ne_k1_k7 : k1 ≠ k7 := by have := Q1.lt; omega
  have ne_k2_k7 : k2 ≠ k7 := by have := Q2.lt; omega
  have ne_k3_k7 : k3 ≠ k7 := by have := Q3.lt; omega
  have ne_k4_k7 : k4 ≠ k7 := by have := Q4.lt; omega
  have ne_k5_k7 : k5 ≠ k7 := by have := Q5.lt; omega
  have ne_k6_k7 : k6 ≠ k7 := by have := Q6.lt; omega
  have N_k7 : w.heap.size ≤ k7 := by have := M.size; omega
  replace Q1 := Q1.mo hq
  replace Q2 := Q2.mo hq
  replace Q3 := Q3.mo hq
  replace Q4 := Q4.mo hq
  replace Q5 := Q5.mo hq
  replace Q6 := Q6.mo hq
  replace M := M.trans hq
  clear hk hz hq
  refine wl_st 40 (.tmp 13) (.tmp 64) k7 0 (rda y_b y_0 y_1 y_2 y_3 y_s) [.bool false, .int .u64 0, .int .u64 0, .int .u64 0, .int .u64 0, .int .i64 0] (rdl y_b y_0 y_1 y_2 y_3 y_s) Q7 rfl rfl rfl rfl rfl sz40 rfl rfl rfl ?_
  intro w18 hS Qn
  replace Q7 := Qn
  clear Qn
  replace Q1 := hS.other _ _ ne_k1_k7 Q1
  replace Q2 := hS.other _ _ ne_k2_k7 Q2
  replace Q3 := hS.other _ _ ne_k3_k7 Q3
  replace Q4 := hS.other _ _ ne_k4_k7 Q4
  replace Q5 := hS.other _ _ ne_k5_k7 Q5
  replace Q6 := hS.other _ _ ne_k6_k7 Q6
  replace M := hS.mo _ N_k7 M
  clear hS
  refine wl_mv (.tmp 65) (.int .i64 (7)) (fun _ => rfl) rfl rfl ?_
  refine w_nil ?_
  refine xn_then ?_
  refine w_seq ?_
  refine w_seq ?_
  refine w_reg ?_
  refine wl_mv (.tmp 10) (.int .i64 (7)) (fun _ => rfl) rfl rfl ?_
  refine wl_bin (fun x y => do eqGuard .neq 32 (.tmp 66) (.const (.int .i64 (0))) x y; binOp .neq 32 x y) (.tmp 66) (.const (.int .i64 (0))) (.int .i64 (7)) (.int .i64 (0)) (.bool true) (fun _ => rfl) rfl rfl (by kernel_rfl) rfl ?_
  refine w_nil ?_
  refine xn_then ?_
  refine w_condT rfl ?_
  refine w_seq ?_
  refine w_reg ?_
  refine wl_mv (.tmp 10) (.int .i64 (7)) (fun _ => rfl) rfl rfl ?_
  refine wl_bin (fun x y => do eqGuard .eql 32 (.tmp 68) (.const (.int .i64 (7))) x y; binOp .eql 32 x y) (.tmp 68) (.const (.int .i64 (7))) (.int .i64 (7)) (.int .i64 (7)) (.bool true) (fun _ => rfl) rfl rfl (by kernel_rfl) rfl ?_
  refine wl_mv (.tmp 69) (.bool true) (fun _ => rfl) rfl rfl ?_
  refine w_nil ?_
  refine xn_then ?_
  refine w_ret ?_
  refine xr_then ?_
  exact w_ret1 _ (.bool true) rfl rfl ⟨rfl, M⟩
theorem undoes_ok (a_b : Bool) (a_0 a_1 a_2 a_3 a_s : Int) (b_b : Bool) (b_0 b_1 b_2 b_3 b_s : Int) (x_b : Bool) (x_0 x_1 x_2 x_3 x_s : Int) (p_b : Bool) (p_0 p_1 p_2 p_3 p_s : Int) (y_b : Bool) (y_0 y_1 y_2 y_3 y_s : Int) (g : Int) (w : World) (h1 : ∀ w, Calls Try.prog 35 #[rd a_b a_0 a_1 a_2 a_3 a_s, rd b_b b_0 b_1 b_2 b_3 b_s] w fun e' w' => e' = .returned (.tuple #[rd x_b x_0 x_1 x_2 x_3 x_s, .int .i64 (0)]) ∧ Mo w w') (h2 : ∀ w, Calls Try.prog 35 #[rd b_b b_0 b_1 b_2 b_3 b_s, rd a_b a_0 a_1 a_2 a_3 a_s] w fun e' w' => e' = .returned (.tuple #[rd x_b x_0 x_1 x_2 x_3 x_s, .int .i64 (0)]) ∧ Mo w w') (h3 : ∀ w, Calls Try.prog 39 #[rd a_b a_0 a_1 a_2 a_3 a_s, rd b_b b_0 b_1 b_2 b_3 b_s] w fun e' w' => e' = .returned (.tuple #[rd p_b p_0 p_1 p_2 p_3 p_s, .int .i64 g]) ∧ Mo w w') (h4 : ∀ w, Calls Try.prog 39 #[rd b_b b_0 b_1 b_2 b_3 b_s, rd a_b a_0 a_1 a_2 a_3 a_s] w fun e' w' => e' = .returned (.tuple #[rd p_b p_0 p_1 p_2 p_3 p_s, .int .i64 g]) ∧ Mo w w') (h5 : ∀ w, Calls Try.prog 37 #[rd x_b x_0 x_1 x_2 x_3 x_s, rd b_b b_0 b_1 b_2 b_3 b_s] w fun e' w' => e' = .returned (.tuple #[rd y_b y_0 y_1 y_2 y_3 y_s, .int .i64 (0)]) ∧ Mo w w') (h6 : ∀ w, Calls Try.prog 51 #[rd y_b y_0 y_1 y_2 y_3 y_s, rd a_b a_0 a_1 a_2 a_3 a_s] w fun e' w' => e' = .returned (.int .i64 (0)) ∧ Mo w w') :
    Calls Try.prog 11 #[rd a_b a_0 a_1 a_2 a_3 a_s, rd b_b b_0 b_1 b_2 b_3 b_s] w fun e' w' => e' = .returned (.bool true) ∧ Mo w w' := by
  refine w_enter 74 Try.func11 Try.ntmps11 rfl rfl ?_
  have M : Mo w w := Mo.refl _
  refine w_seq ?_
  refine w_reg ?_
  refine wl_box 40 (.tmp 0) (rd a_b a_0 a_1 a_2 a_3 a_s) ((rda a_b a_0 a_1 a_2 a_3 a_s)) rfl rfl (fun _ => by kernel_rfl) rfl ?_
  intro k1 w1 hk hz hq Q1
  have N_k1 : w.heap.size ≤ k1 := by have := M.size; omega
  replace M := M.trans hq
  clear hk hz hq
  refine wl_box 40 (.tmp 1) (rd b_b b_0 b_1 b_2 b_3 b_s) ((rda b_b b_0 b_1 b_2 b_3 b_s)) rfl rfl (fun _ => by kernel_rfl) rfl ?_
  intro k2 w2 hk hz hq Q2
  have ne_k1_k2 : k1 ≠ k2 := by have := Q1.lt; omega
  have N_k2 : w.heap.size ≤ k2 := by have := M.size; omega
  replace Q1 := Q1.mo hq
  replace M := M.trans hq
  clear hk hz hq
  refine wl_mv (.const (.bool false)) (.bool false) (fun _ => rfl) rfl rfl ?_
  refine w_nil ?_
  refine xn_then ?_
  refine w_seq ?_
  refine w_reg ?_
  refine wl_load 40 (.tmp 2) (pt k1 0) (rd a_b a_0 a_1 a_2 a_3 a_s) rfl rfl (run_row Q1 40 0 6 (rdl a_b a_0 a_1 a_2 a_3 a_s) rfl Try.underlying40 rfl sz40) rfl ?_
  refine wl_load 40 (.tmp 3) (pt k2 0) (rd b_b b_0 b_1 b_2 b_3 b_s) rfl rfl (run_row Q2 40 0 6 (rdl b_b b_0 b_1 b_2 b_3 b_s) rfl Try.underlying40 rfl sz40) rfl ?_
  refine wl_call 35 [(.tmp 15), (.tmp 16)] _ [rd a_b a_0 a_1 a_2 a_3 a_s, rd b_b b_0 b_1 b_2 b_3 b_s] (.tuple #[rd x_b x_0 x_1 x_2 x_3 x_s, .int .i64 (0)]) rfl rfl (fun _ _ => by kernel_rfl) (h1 _) rfl ?_
  intro w3 hq
  replace Q1 := Q1.mo hq
  replace Q2 := Q2.mo hq
  replace M := M.trans hq
  clear hq
  refine wl_mv (.tmp 17) (.tuple #[rd x_b x_0 x_1 x_2 x_3 x_s, .int .i64 (0)]) (fun _ => rfl) rfl rfl ?_
  refine wl_un (fun v => Instr.extract v 0) (.tmp 14) (.tuple #[rd x_b x_0 x_1 x_2 x_3 x_s, .int .i64 (0)]) (rd x_b x_0 x_1 x_2 x_3 x_s) (fun _ => rfl) rfl (by kernel_rfl) rfl ?_
  refine wl_un (fun v => Instr.extract v 1) (.tmp 14) (.tuple #[rd x_b x_0 x_1 x_2 x_3 x_s, .int .i64 (0)]) (.int .i64 (0)) (fun _ => rfl) rfl (by kernel_rfl) rfl ?_
  refine wl_alloc 40 #[.bool false, .int .u64 0, .int .u64 0, .int .u64 0, .int .u64 0, .int .i64 0] rfl (fun _ => by kernel_rfl) rfl ?_
  intro k3 w4 hk hz hq Q3
  have ne_k1_k3 : k1 ≠ k3 := by have := Q1.lt; omega
  have ne_k2_k3 : k2 ≠ k3 := by have := Q2.lt; omega
  have N_k3 : w.heap.size ≤ k3 := by have := M.size; omega
  replace Q1 := Q1.mo hq
  replace Q2 := Q2.mo hq
  replace M := M.trans hq
  clear hk hz hq
  refine wl_st 40 (.tmp 5) (.tmp 18) k3 0 (rda x_b x_0 x_1 x_2 x_3 x_s) [.bool false, .int .u64 0, .int .u64 0, .int .u64 0, .int .u64 0, .int .i64 0] (rdl x_b x_0 x_1 x_2 x_3 x_s) Q3 rfl rfl rfl rfl rfl sz40 rfl rfl rfl ?_
  intro w5 hS Qn
  replace Q3 := Qn
  clear Qn
  replace Q1 := hS.other _ _ ne_k1_k3 Q1
  replace Q2 := hS.other _ _ ne_k2_k3 Q2
  replace M := hS.mo _ N_k3 M
  clear hS
  refine wl_mv (.tmp 19) (.int .i64 (0)) (fun _ => rfl) rfl rfl ?_
  refine w_nil ?_
  refine xn_then ?_
  refine w_seq ?_
  refine w_reg ?_
  refine wl_load 40 (.tmp 3) (pt k2 0) (rd b_b b_0 b_1 b_2 b_3 b_s) rfl rfl (run_row Q2 40 0 6 (rdl b_b b_0 b_1 b_2 b_3 b_s) rfl Try.underlying40 rfl sz40) rfl ?_
  refine wl_load 40 (.tmp 2) (pt k1 0) (rd a_b a_0 a_1 a_2 a_3 a_s) rfl rfl (run_row Q1 40 0 6 (rdl a_b a_0 a_1 a_2 a_3 a_s) rfl Try.underlying40 rfl sz40) rfl ?_
  refine wl_call 35 [(.tmp 21), (.tmp 22)] _ [rd b_b b_0 b_1 b_2 b_3 b_s, rd a_b a_0 a_1 a_2 a_3 a_s] (.tuple #[rd x_b x_0 x_1 x_2 x_3 x_s, .int .i64 (0)]) rfl rfl (fun _ _ => by kernel_rfl) (h2 _) rfl ?_
  intro w6 hq
  replace Q1 := Q1.mo hq
  replace Q2 := Q2.mo hq
  replace Q3 := Q3.mo hq
  replace M := M.trans hq
  clear hq
  refine wl_mv (.tmp 23) (.tuple #[rd x_b x_0 x_1 x_2 x_3 x_s, .int .i64 (0)]) (fun _ => rfl) rfl rfl ?_
  refine wl_un (fun v => Instr.extract v 0) (.tmp 20) (.tuple #[rd x_b x_0 x_1 x_2 x_3 x_s, .int .i64 (0)]) (rd x_b x_0 x_1 x_2 x_3 x_s) (fun _ => rfl) rfl (by kernel_rfl) rfl ?_
  refine wl_un (fun v => Instr.extract v 1) (.tmp 20) (.tuple #[rd x_b x_0 x_1 x_2 x_3 x_s, .int .i64 (0)]) (.int .i64 (0)) (fun _ => rfl) rfl (by kernel_rfl) rfl ?_
  refine wl_alloc 40 #[.bool false, .int .u64 0, .int .u64 0, .int .u64 0, .int .u64 0, .int .i64 0] rfl (fun _ => by kernel_rfl) rfl ?_
  intro k4 w7 hk hz hq Q4
  have ne_k1_k4 : k1 ≠ k4 := by have := Q1.lt; omega
  have ne_k2_k4 : k2 ≠ k4 := by have := Q2.lt; omega
  have ne_k3_k4 : k3 ≠ k4 := by have := Q3.lt; omega
  have N_k4 : w.heap.size ≤ k4 := by have := M.size; omega
  replace Q1 := Q1.mo hq
  replace Q2 := Q2.mo hq
  replace Q3 := Q3.mo hq
  replace M := M.trans hq
  clear hk hz hq
  refine wl_st 40 (.tmp 7) (.tmp 24) k4 0 (rda x_b x_0 x_1 x_2 x_3 x_s) [.bool false, .int .u64 0, .int .u64 0, .int .u64 0, .int .u64 0, .int .i64 0] (rdl x_b x_0 x_1 x_2 x_3 x_s) Q4 rfl rfl rfl rfl rfl sz40 rfl rfl rfl ?_
  intro w8 hS Qn
  replace Q4 := Qn
  clear Qn
  replace Q1 := hS.other _ _ ne_k1_k4 Q1
  replace Q2 := hS.other _ _ ne_k2_k4 Q2
  replace Q3 := hS.other _ _ ne_k3_k4 Q3
  replace M := hS.mo _ N_k4 M
  clear hS
  refine wl_mv (.tmp 25) (.int .i64 (0)) (fun _ => rfl) rfl rfl ?_
  refine w_nil ?_
  refine xn_then ?_
  refine w_seq ?_
  refine w_seq ?_
  refine w_reg ?_
  refine wl_call 28 [] _ [] (.bool true) rfl rfl (fun _ _ => by kernel_rfl) (begun_n _) rfl ?_
  intro w9 hq
  replace Q1 := Q1.mo hq
  replace Q2 := Q2.mo hq
  replace Q3 := Q3.mo hq
  replace Q4 := Q4.mo hq
  replace M := M.trans hq
  clear hq
  refine wl_un (fun v => Op.unary .not v) (.tmp 26) (.bool true) (.bool false) (fun _ => rfl) rfl (by kernel_rfl) rfl ?_
  refine wl_mv (.tmp 27) (.bool false) (fun _ => rfl) rfl rfl ?_
  refine wl_load 40 (.tmp 5) (pt k3 0) (rd x_b x_0 x_1 x_2 x_3 x_s) rfl rfl (run_row Q3 40 0 6 (rdl x_b x_0 x_1 x_2 x_3 x_s) rfl Try.underlying40 rfl sz40) rfl ?_
  refine wl_load 40 (.tmp 7) (pt k4 0) (rd x_b x_0 x_1 x_2 x_3 x_s) rfl rfl (run_row Q4 40 0 6 (rdl x_b x_0 x_1 x_2 x_3 x_s) rfl Try.underlying40 rfl sz40) rfl ?_
  refine wl_bin (fun x y => do eqGuard .neq 40 (.tmp 29) (.tmp 30) x y; binOp .neq 40 x y) (.tmp 29) (.tmp 30) (rd x_b x_0 x_1 x_2 x_3 x_s) (rd x_b x_0 x_1 x_2 x_3 x_s) (.bool false) (fun _ => rfl) rfl rfl (ned_run (self6 _ _ _ _ _ _) _ _ _) rfl ?_
  refine wl_pick (.tmp 28) (.const (.bool true)) (.tmp 31) false (.bool false) (fun _ => rfl) rfl rfl rfl ?_
  refine wl_mv (.tmp 32) (.bool false) (fun _ => rfl) rfl rfl ?_
  refine wl_mv (.tmp 6) (.int .i64 (0)) (fun _ => rfl) rfl rfl ?_
  refine wl_mv (.tmp 8) (.int .i64 (0)) (fun _ => rfl) rfl rfl ?_
  refine wl_bin (fun x y => do eqGuard .neq 32 (.tmp 34) (.tmp 35) x y; binOp .neq 32 x y) (.tmp 34) (.tmp 35) (.int .i64 (0)) (.int .i64 (0)) (.bool false) (fun _ => rfl) rfl rfl (by kernel_rfl) rfl ?_
  refine wl_pick (.tmp 33) (.const (.bool true)) (.tmp 36) false (.bool false) (fun _ => rfl) rfl rfl rfl ?_
  refine w_nil ?_
  refine xn_then ?_
  refine w_condF rfl ?_
  refine w_skip ?_
  refine xn_then ?_
  refine w_seq ?_
  refine w_reg ?_
  refine wl_load 40 (.tmp 2) (pt k1 0) (rd a_b a_0 a_1 a_2 a_3 a_s) rfl rfl (run_row Q1 40 0 6 (rdl a_b a_0 a_1 a_2 a_3 a_s) rfl Try.underlying40 rfl sz40) rfl ?_
  refine wl_load 40 (.tmp 3) (pt k2 0) (rd b_b b_0 b_1 b_2 b_3 b_s) rfl rfl (run_row Q2 40 0 6 (rdl b_b b_0 b_1 b_2 b_3 b_s) rfl Try.underlying40 rfl sz40) rfl ?_
  refine wl_call 39 [(.tmp 39), (.tmp 40)] _ [rd a_b a_0 a_1 a_2 a_3 a_s, rd b_b b_0 b_1 b_2 b_3 b_s] (.tuple #[rd p_b p_0 p_1 p_2 p_3 p_s, .int .i64 g]) rfl rfl (fun _ _ => by kernel_rfl) (h3 _) rfl ?_
  intro w10 hq
  replace Q1 := Q1.mo hq
  replace Q2 := Q2.mo hq
  replace Q3 := Q3.mo hq
  replace Q4 := Q4.mo hq
  replace M := M.trans hq
  clear hq
  refine wl_mv (.tmp 41) (.tuple #[rd p_b p_0 p_1 p_2 p_3 p_s, .int .i64 g]) (fun _ => rfl) rfl rfl ?_
  refine wl_un (fun v => Instr.extract v 0) (.tmp 38) (.tuple #[rd p_b p_0 p_1 p_2 p_3 p_s, .int .i64 g]) (rd p_b p_0 p_1 p_2 p_3 p_s) (fun _ => rfl) rfl (by kernel_rfl) rfl ?_
  refine wl_un (fun v => Instr.extract v 1) (.tmp 38) (.tuple #[rd p_b p_0 p_1 p_2 p_3 p_s, .int .i64 g]) (.int .i64 g) (fun _ => rfl) rfl (by kernel_rfl) rfl ?_
  refine wl_alloc 40 #[.bool false, .int .u64 0, .int .u64 0, .int .u64 0, .int .u64 0, .int .i64 0] rfl (fun _ => by kernel_rfl) rfl ?_
  intro k5 w11 hk hz hq Q5
  have ne_k1_k5 : k1 ≠ k5 := by have := Q1.lt; omega
  have ne_k2_k5 : k2 ≠ k5 := by have := Q2.lt; omega
  have ne_k3_k5 : k3 ≠ k5 := by have := Q3.lt; omega
  have ne_k4_k5 : k4 ≠ k5 := by have := Q4.lt; omega
  have N_k5 : w.heap.size ≤ k5 := by have := M.size; omega
  replace Q1 := Q1.mo hq
  replace Q2 := Q2.mo hq
  replace Q3 := Q3.mo hq
  replace Q4 := Q4.mo hq
  replace M := M.trans hq
  clear hk hz hq
  refine wl_st 40 (.tmp 9) (.tmp 42) k5 0 (rda p_b p_0 p_1 p_2 p_3 p_s) [.bool false, .int .u64 0, .int .u64 0, .int .u64 0, .int .u64 0, .int .i64 0] (rdl p_b p_0 p_1 p_2 p_3 p_s) Q5 rfl rfl rfl rfl rfl sz40 rfl rfl rfl ?_
  intro w12 hS Qn
  replace Q5 := Qn
  clear Qn
  replace Q1 := hS.other _ _ ne_k1_k5 Q1
  replace Q2 := hS.other _ _ ne_k2_k5 Q2
  replace Q3 := hS.other _ _ ne_k3_k5 Q3
  replace Q4 := hS.other _ _ ne_k4_k5 Q4
  replace M := hS.mo _ N_k5 M
  clear hS
  refine wl_mv (.tmp 43) (.int .i64 g) (fun _ => rfl) rfl rfl ?_
  refine w_nil ?_
  refine xn_then ?_
  refine w_seq ?_
  refine w_reg ?_
  refine wl_load 40 (.tmp 3) (pt k2 0) (rd b_b b_0 b_1 b_2 b_3 b_s) rfl rfl (run_row Q2 40 0 6 (rdl b_b b_0 b_1 b_2 b_3 b_s) rfl Try.underlying40 rfl sz40) rfl ?_
  refine wl_load 40 (.tmp 2) (pt k1 0) (rd a_b a_0 a_1 a_2 a_3 a_s) rfl rfl (run_row Q1 40 0 6 (rdl a_b a_0 a_1 a_2 a_3 a_s) rfl Try.underlying40 rfl sz40) rfl ?_
  refine wl_call 39 [(.tmp 45), (.tmp 46)] _ [rd b_b b_0 b_1 b_2 b_3 b_s, rd a_b a_0 a_1 a_2 a_3 a_s] (.tuple #[rd p_b p_0 p_1 p_2 p_3 p_s, .int .i64 g]) rfl rfl (fun _ _ => by kernel_rfl) (h4 _) rfl ?_
  intro w13 hq
  replace Q1 := Q1.mo hq
  replace Q2 := Q2.mo hq
  replace Q3 := Q3.mo hq
  replace Q4 := Q4.mo hq
  replace Q5 := Q5.mo hq
  replace M := M.trans hq
  clear hq
  refine wl_mv (.tmp 47) (.tuple #[rd p_b p_0 p_1 p_2 p_3 p_s, .int .i64 g]) (fun _ => rfl) rfl rfl ?_
  refine wl_un (fun v => Instr.extract v 0) (.tmp 44) (.tuple #[rd p_b p_0 p_1 p_2 p_3 p_s, .int .i64 g]) (rd p_b p_0 p_1 p_2 p_3 p_s) (fun _ => rfl) rfl (by kernel_rfl) rfl ?_
  refine wl_un (fun v => Instr.extract v 1) (.tmp 44) (.tuple #[rd p_b p_0 p_1 p_2 p_3 p_s, .int .i64 g]) (.int .i64 g) (fun _ => rfl) rfl (by kernel_rfl) rfl ?_
  refine wl_alloc 40 #[.bool false, .int .u64 0, .int .u64 0, .int .u64 0, .int .u64 0, .int .i64 0] rfl (fun _ => by kernel_rfl) rfl ?_
  intro k6 w14 hk hz hq Q6
  have ne_k1_k6 : k1 ≠ k6 := by have := Q1.lt; omega
  have ne_k2_k6 : k2 ≠ k6 := by have := Q2.lt; omega
  have ne_k3_k6 : k3 ≠ k6 := by have := Q3.lt; omega
  have ne_k4_k6 : k4 ≠ k6 := by have := Q4.lt; omega
  have ne_k5_k6 : k5 ≠ k6 := by have := Q5.lt; omega
  have N_k6 : w.heap.size ≤ k6 := by have := M.size; omega
  replace Q1 := Q1.mo hq
  replace Q2 := Q2.mo hq
  replace Q3 := Q3.mo hq
  replace Q4 := Q4.mo hq
  replace Q5 := Q5.mo hq
  replace M := M.trans hq
  clear hk hz hq
  refine wl_st 40 (.tmp 11) (.tmp 48) k6 0 (rda p_b p_0 p_1 p_2 p_3 p_s) [.bool false, .int .u64 0, .int .u64 0, .int .u64 0, .int .u64 0, .int .i64 0] (rdl p_b p_0 p_1 p_2 p_3 p_s) Q6 rfl rfl rfl rfl rfl sz40 rfl rfl rfl ?_
  intro w15 hS Qn
  replace Q6 := Qn
  clear Qn
  replace Q1 := hS.other _ _ ne_k1_k6 Q1
  replace Q2 := hS.other _ _ ne_k2_k6 Q2
  replace Q3 := hS.other _ _ ne_k3_k6 Q3
  replace Q4 := hS.other _ _ ne_k4_k6 Q4
  replace Q5 := hS.other _ _ ne_k5_k6 Q5
  replace M := hS.mo _ N_k6 M
  clear hS
  refine wl_mv (.tmp 49) (.int .i64 g) (fun _ => rfl) rfl rfl ?_
  refine w_nil ?_
  refine xn_then ?_
  refine w_seq ?_
  refine w_seq ?_
  refine w_reg ?_
  refine wl_load 40 (.tmp 9) (pt k5 0) (rd p_b p_0 p_1 p_2 p_3 p_s) rfl rfl (run_row Q5 40 0 6 (rdl p_b p_0 p_1 p_2 p_3 p_s) rfl Try.underlying40 rfl sz40) rfl ?_
  refine wl_load 40 (.tmp 11) (pt k6 0) (rd p_b p_0 p_1 p_2 p_3 p_s) rfl rfl (run_row Q6 40 0 6 (rdl p_b p_0 p_1 p_2 p_3 p_s) rfl Try.underlying40 rfl sz40) rfl ?_
  refine wl_bin (fun x y => do eqGuard .neq 40 (.tmp 50) (.tmp 51) x y; binOp .neq 40 x y) (.tmp 50) (.tmp 51) (rd p_b p_0 p_1 p_2 p_3 p_s) (rd p_b p_0 p_1 p_2 p_3 p_s) (.bool false) (fun _ => rfl) rfl rfl (ned_run (self6 _ _ _ _ _ _) _ _ _) rfl ?_
  refine wl_mv (.tmp 52) (.bool false) (fun _ => rfl) rfl rfl ?_
  refine wl_mv (.tmp 10) (.int .i64 g) (fun _ => rfl) rfl rfl ?_
  refine wl_mv (.tmp 12) (.int .i64 g) (fun _ => rfl) rfl rfl ?_
  refine wl_bin (fun x y => do eqGuard .neq 32 (.tmp 54) (.tmp 55) x y; binOp .neq 32 x y) (.tmp 54) (.tmp 55) (.int .i64 g) (.int .i64 g) (.bool false) (fun _ => rfl) rfl rfl (neq32_run (by simp) _ _ _) rfl ?_
  refine wl_pick (.tmp 53) (.const (.bool true)) (.tmp 56) false (.bool false) (fun _ => rfl) rfl rfl rfl ?_
  refine w_nil ?_
  refine xn_then ?_
  refine w_condF rfl ?_
  refine w_skip ?_
  refine xn_then ?_
  refine w_seq ?_
  refine w_seq ?_
  refine w_reg ?_
  refine wl_mv (.tmp 6) (.int .i64 (0)) (fun _ => rfl) rfl rfl ?_
  refine wl_bin (fun x y => do eqGuard .neq 32 (.tmp 58) (.const (.int .i64 (0))) x y; binOp .neq 32 x y) (.tmp 58) (.const (.int .i64 (0))) (.int .i64 (0)) (.int .i64 (0)) (.bool false) (fun _ => rfl) rfl rfl (by kernel_rfl) rfl ?_
  refine w_nil ?_
  refine xn_then ?_
  refine w_condF rfl ?_
  refine w_skip ?_
  refine xn_then ?_
  refine w_seq ?_
  refine w_reg ?_
  refine wl_load 40 (.tmp 5) (pt k3 0) (rd x_b x_0 x_1 x_2 x_3 x_s) rfl rfl (run_row Q3 40 0 6 (rdl x_b x_0 x_1 x_2 x_3 x_s) rfl Try.underlying40 rfl sz40) rfl ?_
  refine wl_load 40 (.tmp 3) (pt k2 0) (rd b_b b_0 b_1 b_2 b_3 b_s) rfl rfl (run_row Q2 40 0 6 (rdl b_b b_0 b_1 b_2 b_3 b_s) rfl Try.underlying40 rfl sz40) rfl ?_
  refine wl_call 37 [(.tmp 61), (.tmp 62)] _ [rd x_b x_0 x_1 x_2 x_3 x_s, rd b_b b_0 b_1 b_2 b_3 b_s] (.tuple #[rd y_b y_0 y_1 y_2 y_3 y_s, .int .i64 (0)]) rfl rfl (fun _ _ => by kernel_rfl) (h5 _) rfl ?_
  intro w16 hq
  replace Q1 := Q1.mo hq
  replace Q2 := Q2.mo hq
  replace Q3 := Q3.mo hq
  replace Q4 := Q4.mo hq
  replace Q5 := Q5.mo hq
  replace Q6 := Q6.mo hq
  replace M := M.trans hq
  clear hq
  refine wl_mv (.tmp 63) (.tuple #[rd y_b y_0 y_1 y_2 y_3 y_s, .int .i64 (0)]) (fun _ => rfl) rfl rfl ?_
  refine wl_un (fun v => Instr.extract v 0) (.tmp 60) (.tuple #[rd y_b y_0 y_1 y_2 y_3 y_s, .int .i64 (0)]) (rd y_b y_0 y_1 y_2 y_3 y_s) (fun _ => rfl) rfl (by kernel_rfl) rfl ?_
  refine wl_un (fun v => Instr.extract v 1) (.tmp 60) (.tuple #[rd y_b y_0 y_1 y_2 y_3 y_s, .int .i64 (0)]) (.int .i64 (0)) (fun _ => rfl) rfl (by kernel_rfl) rfl ?_
  refine wl_alloc 40 #[.bool false, .int .u64 0, .int .u64 0, .int .u64 0, .int .u64 0, .int .i64 0] rfl (fun _ => by kernel_rfl) rfl ?_
  intro k7 w17 hk hz hq Q7
  have ne_k1_k7 : k1 ≠ k7 := by have := Q1.lt; omega
  have ne_k2_k7 : k2 ≠ k7 := by have := Q2.lt; omega
  have ne_k3_k7 : k3 ≠ k7 := by have := Q3.lt; omega
  have ne_k4_k7 : k4 ≠ k7 := by have := Q4.lt; omega
  have ne_k5_k7 : k5 ≠ k7 := by have := Q5.lt; omega
  have ne_k6_k7 : k6 ≠ k7 := by have := Q6.lt; omega
  have N_k7 : w.heap.size ≤ k7 := by have := M.size; omega
  replace Q1 := Q1.mo hq
  replace Q2 := Q2.mo hq
  replace Q3 := Q3.mo hq
  replace Q4 := Q4.mo hq
  replace Q5 := Q5.mo hq
  replace Q6 := Q6.mo hq
  replace M := M.trans hq
  clear hk hz hq
  refine wl_st 40 (.tmp 13) (.tmp 64) k7 0 (rda y_b y_0 y_1 y_2 y_3 y_s) [.bool false, .int .u64 0, .int .u64 0, .int .u64 0, .int .u64 0, .int .i64 0] (rdl y_b y_0 y_1 y_2 y_3 y_s) Q7 rfl rfl rfl rfl rfl sz40 rfl rfl rfl ?_
  intro w18 hS Qn
  replace Q7 := Qn
  clear Qn
  replace Q1 := hS.other _ _ ne_k1_k7 Q1
  replace Q2 := hS.other _ _ ne_k2_k7 Q2
  replace Q3 := hS.other _ _ ne_k3_k7 Q3
  replace Q4 := hS.other _ _ ne_k4_k7 Q4
  replace Q5 := hS.other _ _ ne_k5_k7 Q5
  replace Q6 := hS.other _ _ ne_k6_k7 Q6
  replace M := hS.mo _ N_k7 M
  clear hS
  refine wl_mv (.tmp 65) (.int .i64 (0)) (fun _ => rfl) rfl rfl ?_
  refine w_nil ?_
  refine xn_then ?_
  refine w_seq ?_
  refine w_seq ?_
  refine w_reg ?_
  refine wl_mv (.tmp 10) (.int .i64 (0)) (fun _ => rfl) rfl rfl ?_
  refine wl_bin (fun x y => do eqGuard .neq 32 (.tmp 66) (.const (.int .i64 (0))) x y; binOp .neq 32 x y) (.tmp 66) (.const (.int .i64 (0))) (.int .i64 (0)) (.int .i64 (0)) (.bool false) (fun _ => rfl) rfl rfl (by kernel_rfl) rfl ?_
  refine w_nil ?_
  refine xn_then ?_
  refine w_condF rfl ?_
  refine w_skip ?_
  refine xn_then ?_
  refine w_seq ?_
  refine w_reg ?_
  refine wl_load 40 (.tmp 13) (pt k7 0) (rd y_b y_0 y_1 y_2 y_3 y_s) rfl rfl (run_row Q7 40 0 6 (rdl y_b y_0 y_1 y_2 y_3 y_s) rfl Try.underlying40 rfl sz40) rfl ?_
  refine wl_load 40 (.tmp 2) (pt k1 0) (rd a_b a_0 a_1 a_2 a_3 a_s) rfl rfl (run_row Q1 40 0 6 (rdl a_b a_0 a_1 a_2 a_3 a_s) rfl Try.underlying40 rfl sz40) rfl ?_
  refine wl_call 51 [(.tmp 70), (.tmp 71)] _ [rd y_b y_0 y_1 y_2 y_3 y_s, rd a_b a_0 a_1 a_2 a_3 a_s] (.int .i64 (0)) rfl rfl (fun _ _ => by kernel_rfl) (h6 _) rfl ?_
  intro w19 hq
  replace Q1 := Q1.mo hq
  replace Q2 := Q2.mo hq
  replace Q3 := Q3.mo hq
  replace Q4 := Q4.mo hq
  replace Q5 := Q5.mo hq
  replace Q6 := Q6.mo hq
  replace Q7 := Q7.mo hq
  replace M := M.trans hq
  clear hq
  refine wl_bin (fun x y => do eqGuard .eql 3 (.tmp 72) (.const (.int .i64 (0))) x y; binOp .eql 3 x y) (.tmp 72) (.const (.int .i64 (0))) (.int .i64 (0)) (.int .i64 (0)) (.bool true) (fun _ => rfl) rfl rfl (by kernel_rfl) rfl ?_
  refine wl_mv (.tmp 73) (.bool true) (fun _ => rfl) rfl rfl ?_
  refine w_nil ?_
  refine xn_then ?_
  refine w_ret ?_
  exact w_ret1 _ (.bool true) rfl rfl ⟨rfl, M⟩
theorem halves_e1 (a_b : Bool) (a_0 a_1 a_2 a_3 a_s : Int) (x_b : Bool) (x_0 x_1 x_2 x_3 x_s : Int) (y_b : Bool) (y_0 y_1 y_2 y_3 y_s : Int) (S e f : Int) (w : World) (h1 : ∀ w, Calls Try.prog 43 #[rd a_b a_0 a_1 a_2 a_3 a_s, .int .i64 S, .int .i64 (1)] w fun e' w' => e' = .returned (.tuple #[rd x_b x_0 x_1 x_2 x_3 x_s, .int .i64 e]) ∧ Mo w w') (h2 : ∀ w, Calls Try.prog 43 #[rd a_b a_0 a_1 a_2 a_3 a_s, .int .i64 S, .int .i64 (2)] w fun e' w' => e' = .returned (.tuple #[rd y_b y_0 y_1 y_2 y_3 y_s, .int .i64 f]) ∧ Mo w w') (he : (e == 0) = false) :
    Calls Try.prog 13 #[rd a_b a_0 a_1 a_2 a_3 a_s, .int .i64 S] w fun e' w' => e' = .returned (.bool true) ∧ Mo w w' := by
  refine w_enter 67 Try.func13 Try.ntmps13 rfl rfl ?_
  have M : Mo w w := Mo.refl _
  refine w_seq ?_
  refine w_reg ?_
  refine wl_box 40 (.tmp 0) (rd a_b a_0 a_1 a_2 a_3 a_s) ((rda a_b a_0 a_1 a_2 a_3 a_s)) rfl rfl (fun _ => by kernel_rfl) rfl ?_
  intro k1 w1 hk hz hq Q1
  have N_k1 : w.heap.size ≤ k1 := by have := M.size; omega
  replace M := M.trans hq
  clear hk hz hq
  refine wl_mv (.const (.bool false)) (.bool false) (fun _ => rfl) rfl rfl ?_
  refine w_nil ?_
  refine xn_then ?_
  refine w_seq ?_
  refine w_reg ?_
  refine wl_load 40 (.tmp 2) (pt k1 0) (rd a_b a_0 a_1 a_2 a_3 a_s) rfl rfl (run_row Q1 40 0 6 (rdl a_b a_0 a_1 a_2 a_3 a_s) rfl Try.underlying40 rfl sz40) rfl ?_
  refine wl_mv (.tmp 1) (.int .i64 S) (fun _ => rfl) rfl rfl ?_
  refine wl_call 43 [(.tmp 12), (.tmp 13), (.const (.int .i64 (1)))] _ [rd a_b a_0 a_1 a_2 a_3 a_s, .int .i64 S, .int .i64 (1)] (.tuple #[rd x_b x_0 x_1 x_2 x_3 x_s, .int .i64 e]) rfl rfl (fun _ _ => by kernel_rfl) (h1 _) rfl ?_
  intro w2 hq
  replace Q1 := Q1.mo hq
  replace M := M.trans hq
  clear hq
  refine wl_mv (.tmp 14) (.tuple #[rd x_b x_0 x_1 x_2 x_3 x_s, .int .i64 e]) (fun _ => rfl) rfl rfl ?_
  refine wl_un (fun v => Instr.extract v 0) (.tmp 11) (.tuple #[rd x_b x_0 x_1 x_2 x_3 x_s, .int .i64 e]) (rd x_b x_0 x_1 x_2 x_3 x_s) (fun _ => rfl) rfl (by kernel_rfl) rfl ?_
  refine wl_un (fun v => Instr.extract v 1) (.tmp 11) (.tuple #[rd x_b x_0 x_1 x_2 x_3 x_s, .int .i64 e]) (.int .i64 e) (fun _ => rfl) rfl (by kernel_rfl) rfl ?_
  refine wl_alloc 40 #[.bool false, .int .u64 0, .int .u64 0, .int .u64 0, .int .u64 0, .int .i64 0] rfl (fun _ => by kernel_rfl) rfl ?_
  intro k2 w3 hk hz hq Q2
  have ne_k1_k2 : k1 ≠ k2 := by have := Q1.lt; omega
  have N_k2 : w.heap.size ≤ k2 := by have := M.size; omega
  replace Q1 := Q1.mo hq
  replace M := M.trans hq
  clear hk hz hq
  refine wl_st 40 (.tmp 5) (.tmp 15) k2 0 (rda x_b x_0 x_1 x_2 x_3 x_s) [.bool false, .int .u64 0, .int .u64 0, .int .u64 0, .int .u64 0, .int .i64 0] (rdl x_b x_0 x_1 x_2 x_3 x_s) Q2 rfl rfl rfl rfl rfl sz40 rfl rfl rfl ?_
  intro w4 hS Qn
  replace Q2 := Qn
  clear Qn
  replace Q1 := hS.other _ _ ne_k1_k2 Q1
  replace M := hS.mo _ N_k2 M
  clear hS
  refine wl_mv (.tmp 16) (.int .i64 e) (fun _ => rfl) rfl rfl ?_
  refine w_nil ?_
  refine xn_then ?_
  refine w_seq ?_
  refine w_reg ?_
  refine wl_load 40 (.tmp 2) (pt k1 0) (rd a_b a_0 a_1 a_2 a_3 a_s) rfl rfl (run_row Q1 40 0 6 (rdl a_b a_0 a_1 a_2 a_3 a_s) rfl Try.underlying40 rfl sz40) rfl ?_
  refine wl_mv (.tmp 1) (.int .i64 S) (fun _ => rfl) rfl rfl ?_
  refine wl_call 43 [(.tmp 18), (.tmp 19), (.const (.int .i64 (2)))] _ [rd a_b a_0 a_1 a_2 a_3 a_s, .int .i64 S, .int .i64 (2)] (.tuple #[rd y_b y_0 y_1 y_2 y_3 y_s, .int .i64 f]) rfl rfl (fun _ _ => by kernel_rfl) (h2 _) rfl ?_
  intro w5 hq
  replace Q1 := Q1.mo hq
  replace Q2 := Q2.mo hq
  replace M := M.trans hq
  clear hq
  refine wl_mv (.tmp 20) (.tuple #[rd y_b y_0 y_1 y_2 y_3 y_s, .int .i64 f]) (fun _ => rfl) rfl rfl ?_
  refine wl_un (fun v => Instr.extract v 0) (.tmp 17) (.tuple #[rd y_b y_0 y_1 y_2 y_3 y_s, .int .i64 f]) (rd y_b y_0 y_1 y_2 y_3 y_s) (fun _ => rfl) rfl (by kernel_rfl) rfl ?_
  refine wl_un (fun v => Instr.extract v 1) (.tmp 17) (.tuple #[rd y_b y_0 y_1 y_2 y_3 y_s, .int .i64 f]) (.int .i64 f) (fun _ => rfl) rfl (by kernel_rfl) rfl ?_
  refine wl_alloc 40 #[.bool false, .int .u64 0, .int .u64 0, .int .u64 0, .int .u64 0, .int .i64 0] rfl (fun _ => by kernel_rfl) rfl ?_
  intro k3 w6 hk hz hq Q3
  have ne_k1_k3 : k1 ≠ k3 := by have := Q1.lt; omega
  have ne_k2_k3 : k2 ≠ k3 := by have := Q2.lt; omega
  have N_k3 : w.heap.size ≤ k3 := by have := M.size; omega
  replace Q1 := Q1.mo hq
  replace Q2 := Q2.mo hq
  replace M := M.trans hq
  clear hk hz hq
  refine wl_st 40 (.tmp 7) (.tmp 21) k3 0 (rda y_b y_0 y_1 y_2 y_3 y_s) [.bool false, .int .u64 0, .int .u64 0, .int .u64 0, .int .u64 0, .int .i64 0] (rdl y_b y_0 y_1 y_2 y_3 y_s) Q3 rfl rfl rfl rfl rfl sz40 rfl rfl rfl ?_
  intro w7 hS Qn
  replace Q3 := Qn
  clear Qn
  replace Q1 := hS.other _ _ ne_k1_k3 Q1
  replace Q2 := hS.other _ _ ne_k2_k3 Q2
  replace M := hS.mo _ N_k3 M
  clear hS
  refine wl_mv (.tmp 22) (.int .i64 f) (fun _ => rfl) rfl rfl ?_
  refine w_nil ?_
  refine xn_then ?_
  refine w_seq ?_
  refine w_seq ?_
  refine w_reg ?_
  refine wl_call 28 [] _ [] (.bool true) rfl rfl (fun _ _ => by kernel_rfl) (begun_n _) rfl ?_
  intro w8 hq
  replace Q1 := Q1.mo hq
  replace Q2 := Q2.mo hq
  replace Q3 := Q3.mo hq
  replace M := M.trans hq
  clear hq
  refine wl_un (fun v => Op.unary .not v) (.tmp 23) (.bool true) (.bool false) (fun _ => rfl) rfl (by kernel_rfl) rfl ?_
  refine wl_mv (.tmp 24) (.bool false) (fun _ => rfl) rfl rfl ?_
  refine wl_mv (.tmp 6) (.int .i64 e) (fun _ => rfl) rfl rfl ?_
  refine wl_bin (fun x y => do eqGuard .neq 32 (.tmp 26) (.const (.int .i64 (0))) x y; binOp .neq 32 x y) (.tmp 26) (.const (.int .i64 (0))) (.int .i64 e) (.int .i64 (0)) (.bool true) (fun _ => rfl) rfl rfl (neq32_run he _ _ _) rfl ?_
  refine wl_pick (.tmp 25) (.const (.bool true)) (.tmp 27) false (.bool true) (fun _ => rfl) rfl rfl rfl ?_
  refine wl_mv (.tmp 28) (.bool true) (fun _ => rfl) rfl rfl ?_
  refine wl_skip rfl ?_
  refine wl_skip rfl ?_
  refine wl_pick (.tmp 29) (.const (.bool true)) (.tmp 31) true (.bool true) (fun _ => rfl) rfl rfl rfl ?_
  refine w_nil ?_
  refine xn_then ?_
  refine w_condT rfl ?_
  refine w_seq ?_
  refine w_reg ?_
  refine wl_call 28 [] _ [] (.bool true) rfl rfl (fun _ _ => by kernel_rfl) (begun_n _) rfl ?_
  intro w9 hq
  replace Q1 := Q1.mo hq
  replace Q2 := Q2.mo hq
  replace Q3 := Q3.mo hq
  replace M := M.trans hq
  clear hq
  refine wl_mv (.tmp 33) (.bool true) (fun _ => rfl) rfl rfl ?_
  refine w_nil ?_
  refine xn_then ?_
  refine w_ret ?_
  refine xr_then ?_
  exact w_ret1 _ (.bool true) rfl rfl ⟨rfl, M⟩
theorem halves_e2 (a_b : Bool) (a_0 a_1 a_2 a_3 a_s : Int) (x_b : Bool) (x_0 x_1 x_2 x_3 x_s : Int) (y_b : Bool) (y_0 y_1 y_2 y_3 y_s : Int) (S f : Int) (w : World) (h1 : ∀ w, Calls Try.prog 43 #[rd a_b a_0 a_1 a_2 a_3 a_s, .int .i64 S, .int .i64 (1)] w fun e' w' => e' = .returned (.tuple #[rd x_b x_0 x_1 x_2 x_3 x_s, .int .i64 (0)]) ∧ Mo w w') (h2 : ∀ w, Calls Try.prog 43 #[rd a_b a_0 a_1 a_2 a_3 a_s, .int .i64 S, .int .i64 (2)] w fun e' w' => e' = .returned (.tuple #[rd y_b y_0 y_1 y_2 y_3 y_s, .int .i64 f]) ∧ Mo w w') (he : (f == 0) = false) :
    Calls Try.prog 13 #[rd a_b a_0 a_1 a_2 a_3 a_s, .int .i64 S] w fun e' w' => e' = .returned (.bool true) ∧ Mo w w' := by
  refine w_enter 67 Try.func13 Try.ntmps13 rfl rfl ?_
  have M : Mo w w := Mo.refl _
  refine w_seq ?_
  refine w_reg ?_
  refine wl_box 40 (.tmp 0) (rd a_b a_0 a_1 a_2 a_3 a_s) ((rda a_b a_0 a_1 a_2 a_3 a_s)) rfl rfl (fun _ => by kernel_rfl) rfl ?_
  intro k1 w1 hk hz hq Q1
  have N_k1 : w.heap.size ≤ k1 := by have := M.size; omega
  replace M := M.trans hq
  clear hk hz hq
  refine wl_mv (.const (.bool false)) (.bool false) (fun _ => rfl) rfl rfl ?_
  refine w_nil ?_
  refine xn_then ?_
  refine w_seq ?_
  refine w_reg ?_
  refine wl_load 40 (.tmp 2) (pt k1 0) (rd a_b a_0 a_1 a_2 a_3 a_s) rfl rfl (run_row Q1 40 0 6 (rdl a_b a_0 a_1 a_2 a_3 a_s) rfl Try.underlying40 rfl sz40) rfl ?_
  refine wl_mv (.tmp 1) (.int .i64 S) (fun _ => rfl) rfl rfl ?_
  refine wl_call 43 [(.tmp 12), (.tmp 13), (.const (.int .i64 (1)))] _ [rd a_b a_0 a_1 a_2 a_3 a_s, .int .i64 S, .int .i64 (1)] (.tuple #[rd x_b x_0 x_1 x_2 x_3 x_s, .int .i64 (0)]) rfl rfl (fun _ _ => by kernel_rfl) (h1 _) rfl ?_
  intro w2 hq
  replace Q1 := Q1.mo hq
  replace M := M.trans hq
  clear hq
  refine wl_mv (.tmp 14) (.tuple #[rd x_b x_0 x_1 x_2 x_3 x_s, .int .i64 (0)]) (fun _ => rfl) rfl rfl ?_
  refine wl_un (fun v => Instr.extract v 0) (.tmp 11) (.tuple #[rd x_b x_0 x_1 x_2 x_3 x_s, .int .i64 (0)]) (rd x_b x_0 x_1 x_2 x_3 x_s) (fun _ => rfl) rfl (by kernel_rfl) rfl ?_
  refine wl_un (fun v => Instr.extract v 1) (.tmp 11) (.tuple #[rd x_b x_0 x_1 x_2 x_3 x_s, .int .i64 (0)]) (.int .i64 (0)) (fun _ => rfl) rfl (by kernel_rfl) rfl ?_
  refine wl_alloc 40 #[.bool false, .int .u64 0, .int .u64 0, .int .u64 0, .int .u64 0, .int .i64 0] rfl (fun _ => by kernel_rfl) rfl ?_
  intro k2 w3 hk hz hq Q2
  have ne_k1_k2 : k1 ≠ k2 := by have := Q1.lt; omega
  have N_k2 : w.heap.size ≤ k2 := by have := M.size; omega
  replace Q1 := Q1.mo hq
  replace M := M.trans hq
  clear hk hz hq
  refine wl_st 40 (.tmp 5) (.tmp 15) k2 0 (rda x_b x_0 x_1 x_2 x_3 x_s) [.bool false, .int .u64 0, .int .u64 0, .int .u64 0, .int .u64 0, .int .i64 0] (rdl x_b x_0 x_1 x_2 x_3 x_s) Q2 rfl rfl rfl rfl rfl sz40 rfl rfl rfl ?_
  intro w4 hS Qn
  replace Q2 := Qn
  clear Qn
  replace Q1 := hS.other _ _ ne_k1_k2 Q1
  replace M := hS.mo _ N_k2 M
  clear hS
  refine wl_mv (.tmp 16) (.int .i64 (0)) (fun _ => rfl) rfl rfl ?_
  refine w_nil ?_
  refine xn_then ?_
  refine w_seq ?_
  refine w_reg ?_
  refine wl_load 40 (.tmp 2) (pt k1 0) (rd a_b a_0 a_1 a_2 a_3 a_s) rfl rfl (run_row Q1 40 0 6 (rdl a_b a_0 a_1 a_2 a_3 a_s) rfl Try.underlying40 rfl sz40) rfl ?_
  refine wl_mv (.tmp 1) (.int .i64 S) (fun _ => rfl) rfl rfl ?_
  refine wl_call 43 [(.tmp 18), (.tmp 19), (.const (.int .i64 (2)))] _ [rd a_b a_0 a_1 a_2 a_3 a_s, .int .i64 S, .int .i64 (2)] (.tuple #[rd y_b y_0 y_1 y_2 y_3 y_s, .int .i64 f]) rfl rfl (fun _ _ => by kernel_rfl) (h2 _) rfl ?_
  intro w5 hq
  replace Q1 := Q1.mo hq
  replace Q2 := Q2.mo hq
  replace M := M.trans hq
  clear hq
  refine wl_mv (.tmp 20) (.tuple #[rd y_b y_0 y_1 y_2 y_3 y_s, .int .i64 f]) (fun _ => rfl) rfl rfl ?_
  refine wl_un (fun v => Instr.extract v 0) (.tmp 17) (.tuple #[rd y_b y_0 y_1 y_2 y_3 y_s, .int .i64 f]) (rd y_b y_0 y_1 y_2 y_3 y_s) (fun _ => rfl) rfl (by kernel_rfl) rfl ?_
  refine wl_un (fun v => Instr.extract v 1) (.tmp 17) (.tuple #[rd y_b y_0 y_1 y_2 y_3 y_s, .int .i64 f]) (.int .i64 f) (fun _ => rfl) rfl (by kernel_rfl) rfl ?_
  refine wl_alloc 40 #[.bool false, .int .u64 0, .int .u64 0, .int .u64 0, .int .u64 0, .int .i64 0] rfl (fun _ => by kernel_rfl) rfl ?_
  intro k3 w6 hk hz hq Q3
  have ne_k1_k3 : k1 ≠ k3 := by have := Q1.lt; omega
  have ne_k2_k3 : k2 ≠ k3 := by have := Q2.lt; omega
  have N_k3 : w.heap.size ≤ k3 := by have := M.size; omega
  replace Q1 := Q1.mo hq
  replace Q2 := Q2.mo hq
  replace M := M.trans hq
  clear hk hz hq
  refine wl_st 40 (.tmp 7) (.tmp 21) k3 0 (rda y_b y_0 y_1 y_2 y_3 y_s) [.bool false, .int .u64 0, .int .u64 0, .int .u64 0, .int .u64 0, .int .i64 0] (rdl y_b y_0 y_1 y_2 y_3 y_s) Q3 rfl rfl rfl rfl rfl sz40 rfl rfl rfl ?_
  intro w7 hS Qn
  replace Q3 := Qn
  clear Qn
  replace Q1 := hS.other _ _ ne_k1_k3 Q1
  replace Q2 := hS.other _ _ ne_k2_k3 Q2
  replace M := hS.mo _ N_k3 M
  clear hS
  refine wl_mv (.tmp 22) (.int .i64 f) (fun _ => rfl) rfl rfl ?_
  refine w_nil ?_
  refine xn_then ?_
  refine w_seq ?_
  refine w_seq ?_
  refine w_reg ?_
  refine wl_call 28 [] _ [] (.bool true) rfl rfl (fun _ _ => by kernel_rfl) (begun_n _) rfl ?_
  intro w8 hq
  replace Q1 := Q1.mo hq
  replace Q2 := Q2.mo hq
  replace Q3 := Q3.mo hq
  replace M := M.trans hq
  clear hq
  refine wl_un (fun v => Op.unary .not v) (.tmp 23) (.bool true) (.bool false) (fun _ => rfl) rfl (by kernel_rfl) rfl ?_
  refine wl_mv (.tmp 24) (.bool false) (fun _ => rfl) rfl rfl ?_
  refine wl_mv (.tmp 6) (.int .i64 (0)) (fun _ => rfl) rfl rfl ?_
  refine wl_bin (fun x y => do eqGuard .neq 32 (.tmp 26) (.const (.int .i64 (0))) x y; binOp .neq 32 x y) (.tmp 26) (.const (.int .i64 (0))) (.int .i64 (0)) (.int .i64 (0)) (.bool false) (fun _ => rfl) rfl rfl (by kernel_rfl) rfl ?_
  refine wl_pick (.tmp 25) (.const (.bool true)) (.tmp 27) false (.bool false) (fun _ => rfl) rfl rfl rfl ?_
  refine wl_mv (.tmp 28) (.bool false) (fun _ => rfl) rfl rfl ?_
  refine wl_mv (.tmp 8) (.int .i64 f) (fun _ => rfl) rfl rfl ?_
  refine wl_bin (fun x y => do eqGuard .neq 32 (.tmp 30) (.const (.int .i64 (0))) x y; binOp .neq 32 x y) (.tmp 30) (.const (.int .i64 (0))) (.int .i64 f) (.int .i64 (0)) (.bool true) (fun _ => rfl) rfl rfl (neq32_run he _ _ _) rfl ?_
  refine wl_pick (.tmp 29) (.const (.bool true)) (.tmp 31) false (.bool true) (fun _ => rfl) rfl rfl rfl ?_
  refine w_nil ?_
  refine xn_then ?_
  refine w_condT rfl ?_
  refine w_seq ?_
  refine w_reg ?_
  refine wl_call 28 [] _ [] (.bool true) rfl rfl (fun _ _ => by kernel_rfl) (begun_n _) rfl ?_
  intro w9 hq
  replace Q1 := Q1.mo hq
  replace Q2 := Q2.mo hq
  replace Q3 := Q3.mo hq
  replace M := M.trans hq
  clear hq
  refine wl_mv (.tmp 33) (.bool true) (fun _ => rfl) rfl rfl ?_
  refine w_nil ?_
  refine xn_then ?_
  refine w_ret ?_
  refine xr_then ?_
  exact w_ret1 _ (.bool true) rfl rfl ⟨rfl, M⟩
theorem halves_same (a_b : Bool) (a_0 a_1 a_2 a_3 a_s : Int) (x_b : Bool) (x_0 x_1 x_2 x_3 x_s : Int) (S : Int) (w : World) (h1 : ∀ w, Calls Try.prog 43 #[rd a_b a_0 a_1 a_2 a_3 a_s, .int .i64 S, .int .i64 (1)] w fun e' w' => e' = .returned (.tuple #[rd x_b x_0 x_1 x_2 x_3 x_s, .int .i64 (0)]) ∧ Mo w w') (h2 : ∀ w, Calls Try.prog 43 #[rd a_b a_0 a_1 a_2 a_3 a_s, .int .i64 S, .int .i64 (2)] w fun e' w' => e' = .returned (.tuple #[rd x_b x_0 x_1 x_2 x_3 x_s, .int .i64 (0)]) ∧ Mo w w') :
    Calls Try.prog 13 #[rd a_b a_0 a_1 a_2 a_3 a_s, .int .i64 S] w fun e' w' => e' = .returned (.bool true) ∧ Mo w w' := by
  refine w_enter 67 Try.func13 Try.ntmps13 rfl rfl ?_
  have M : Mo w w := Mo.refl _
  refine w_seq ?_
  refine w_reg ?_
  refine wl_box 40 (.tmp 0) (rd a_b a_0 a_1 a_2 a_3 a_s) ((rda a_b a_0 a_1 a_2 a_3 a_s)) rfl rfl (fun _ => by kernel_rfl) rfl ?_
  intro k1 w1 hk hz hq Q1
  have N_k1 : w.heap.size ≤ k1 := by have := M.size; omega
  replace M := M.trans hq
  clear hk hz hq
  refine wl_mv (.const (.bool false)) (.bool false) (fun _ => rfl) rfl rfl ?_
  refine w_nil ?_
  refine xn_then ?_
  refine w_seq ?_
  refine w_reg ?_
  refine wl_load 40 (.tmp 2) (pt k1 0) (rd a_b a_0 a_1 a_2 a_3 a_s) rfl rfl (run_row Q1 40 0 6 (rdl a_b a_0 a_1 a_2 a_3 a_s) rfl Try.underlying40 rfl sz40) rfl ?_
  refine wl_mv (.tmp 1) (.int .i64 S) (fun _ => rfl) rfl rfl ?_
  refine wl_call 43 [(.tmp 12), (.tmp 13), (.const (.int .i64 (1)))] _ [rd a_b a_0 a_1 a_2 a_3 a_s, .int .i64 S, .int .i64 (1)] (.tuple #[rd x_b x_0 x_1 x_2 x_3 x_s, .int .i64 (0)]) rfl rfl (fun _ _ => by kernel_rfl) (h1 _) rfl ?_
  intro w2 hq
  replace Q1 := Q1.mo hq
  replace M := M.trans hq
  clear hq
  refine wl_mv (.tmp 14) (.tuple #[rd x_b x_0 x_1 x_2 x_3 x_s, .int .i64 (0)]) (fun _ => rfl) rfl rfl ?_
  refine wl_un (fun v => Instr.extract v 0) (.tmp 11) (.tuple #[rd x_b x_0 x_1 x_2 x_3 x_s, .int .i64 (0)]) (rd x_b x_0 x_1 x_2 x_3 x_s) (fun _ => rfl) rfl (by kernel_rfl) rfl ?_
  refine wl_un (fun v => Instr.extract v 1) (.tmp 11) (.tuple #[rd x_b x_0 x_1 x_2 x_3 x_s, .int .i64 (0)]) (.int .i64 (0)) (fun _ => rfl) rfl (by kernel_rfl) rfl ?_
  refine wl_alloc 40 #[.bool false, .int .u64 0, .int .u64 0, .int .u64 0, .int .u64 0, .int .i64 0] rfl (fun _ => by kernel_rfl) rfl ?_
  intro k2 w3 hk hz hq Q2
  have ne_k1_k2 : k1 ≠ k2 := by have := Q1.lt; omega
  have N_k2 : w.heap.size ≤ k2 := by have := M.size; omega
  replace Q1 := Q1.mo hq
  replace M := M.trans hq
  clear hk hz hq
  refine wl_st 40 (.tmp 5) (.tmp 15) k2 0 (rda x_b x_0 x_1 x_2 x_3 x_s) [.bool false, .int .u64 0, .int .u64 0, .int .u64 0, .int .u64 0, .int .i64 0] (rdl x_b x_0 x_1 x_2 x_3 x_s) Q2 rfl rfl rfl rfl rfl sz40 rfl rfl rfl ?_
  intro w4 hS Qn
  replace Q2 := Qn
  clear Qn
  replace Q1 := hS.other _ _ ne_k1_k2 Q1
  replace M := hS.mo _ N_k2 M
  clear hS
  refine wl_mv (.tmp 16) (.int .i64 (0)) (fun _ => rfl) rfl rfl ?_
  refine w_nil ?_
  refine xn_then ?_
  refine w_seq ?_
  refine w_reg ?_
  refine wl_load 40 (.tmp 2) (pt k1 0) (rd a_b a_0 a_1 a_2 a_3 a_s) rfl rfl (run_row Q1 40 0 6 (rdl a_b a_0 a_1 a_2 a_3 a_s) rfl Try.underlying40 rfl sz40) rfl ?_
  refine wl_mv (.tmp 1) (.int .i64 S) (fun _ => rfl) rfl rfl ?_
  refine wl_call 43 [(.tmp 18), (.tmp 19), (.const (.int .i64 (2)))] _ [rd a_b a_0 a_1 a_2 a_3 a_s, .int .i64 S, .int .i64 (2)] (.tuple #[rd x_b x_0 x_1 x_2 x_3 x_s, .int .i64 (0)]) rfl rfl (fun _ _ => by kernel_rfl) (h2 _) rfl ?_
  intro w5 hq
  replace Q1 := Q1.mo hq
  replace Q2 := Q2.mo hq
  replace M := M.trans hq
  clear hq
  refine wl_mv (.tmp 20) (.tuple #[rd x_b x_0 x_1 x_2 x_3 x_s, .int .i64 (0)]) (fun _ => rfl) rfl rfl ?_
  refine wl_un (fun v => Instr.extract v 0) (.tmp 17) (.tuple #[rd x_b x_0 x_1 x_2 x_3 x_s, .int .i64 (0)]) (rd x_b x_0 x_1 x_2 x_3 x_s) (fun _ => rfl) rfl (by kernel_rfl) rfl ?_
  refine wl_un (fun v => Instr.extract v 1) (.tmp 17) (.tuple #[rd x_b x_0 x_1 x_2 x_3 x_s, .int .i64 (0)]) (.int .i64 (0)) (fun _ => rfl) rfl (by kernel_rfl) rfl ?_
  refine wl_alloc 40 #[.bool false, .int .u64 0, .int .u64 0, .int .u64 0, .int .u64 0, .int .i64 0] rfl (fun _ => by kernel_rfl) rfl ?_
  intro k3 w6 hk hz hq Q3
  have ne_k1_k3 : k1 ≠ k3 := by have := Q1.lt; omega
  have ne_k2_k3 : k2 ≠ k3 := by have := Q2.lt; omega
  have N_k3 : w.heap.size ≤ k3 := by have := M.size; omega
  replace Q1 := Q1.mo hq
  replace Q2 := Q2.mo hq
  replace M := M.trans hq
  clear hk hz hq
  refine wl_st 40 (.tmp 7) (.tmp 21) k3 0 (rda x_b x_0 x_1 x_2 x_3 x_s) [.bool false, .int .u64 0, .int .u64 0, .int .u64 0, .int .u64 0, .int .i64 0] (rdl x_b x_0 x_1 x_2 x_3 x_s) Q3 rfl rfl rfl rfl rfl sz40 rfl rfl rfl ?_
  intro w7 hS Qn
  replace Q3 := Qn
  clear Qn
  replace Q1 := hS.other _ _ ne_k1_k3 Q1
  replace Q2 := hS.other _ _ ne_k2_k3 Q2
  replace M := hS.mo _ N_k3 M
  clear hS
  refine wl_mv (.tmp 22) (.int .i64 (0)) (fun _ => rfl) rfl rfl ?_
  refine w_nil ?_
  refine xn_then ?_
  refine w_seq ?_
  refine w_seq ?_
  refine w_reg ?_
  refine wl_call 28 [] _ [] (.bool true) rfl rfl (fun _ _ => by kernel_rfl) (begun_n _) rfl ?_
  intro w8 hq
  replace Q1 := Q1.mo hq
  replace Q2 := Q2.mo hq
  replace Q3 := Q3.mo hq
  replace M := M.trans hq
  clear hq
  refine wl_un (fun v => Op.unary .not v) (.tmp 23) (.bool true) (.bool false) (fun _ => rfl) rfl (by kernel_rfl) rfl ?_
  refine wl_mv (.tmp 24) (.bool false) (fun _ => rfl) rfl rfl ?_
  refine wl_mv (.tmp 6) (.int .i64 (0)) (fun _ => rfl) rfl rfl ?_
  refine wl_bin (fun x y => do eqGuard .neq 32 (.tmp 26) (.const (.int .i64 (0))) x y; binOp .neq 32 x y) (.tmp 26) (.const (.int .i64 (0))) (.int .i64 (0)) (.int .i64 (0)) (.bool false) (fun _ => rfl) rfl rfl (by kernel_rfl) rfl ?_
  refine wl_pick (.tmp 25) (.const (.bool true)) (.tmp 27) false (.bool false) (fun _ => rfl) rfl rfl rfl ?_
  refine wl_mv (.tmp 28) (.bool false) (fun _ => rfl) rfl rfl ?_
  refine wl_mv (.tmp 8) (.int .i64 (0)) (fun _ => rfl) rfl rfl ?_
  refine wl_bin (fun x y => do eqGuard .neq 32 (.tmp 30) (.const (.int .i64 (0))) x y; binOp .neq 32 x y) (.tmp 30) (.const (.int .i64 (0))) (.int .i64 (0)) (.int .i64 (0)) (.bool false) (fun _ => rfl) rfl rfl (by kernel_rfl) rfl ?_
  refine wl_pick (.tmp 29) (.const (.bool true)) (.tmp 31) false (.bool false) (fun _ => rfl) rfl rfl rfl ?_
  refine w_nil ?_
  refine xn_then ?_
  refine w_condF rfl ?_
  refine w_skip ?_
  refine xn_then ?_
  refine w_seq ?_
  refine w_seq ?_
  refine w_reg ?_
  refine wl_load 40 (.tmp 5) (pt k2 0) (rd x_b x_0 x_1 x_2 x_3 x_s) rfl rfl (run_row Q2 40 0 6 (rdl x_b x_0 x_1 x_2 x_3 x_s) rfl Try.underlying40 rfl sz40) rfl ?_
  refine wl_load 40 (.tmp 7) (pt k3 0) (rd x_b x_0 x_1 x_2 x_3 x_s) rfl rfl (run_row Q3 40 0 6 (rdl x_b x_0 x_1 x_2 x_3 x_s) rfl Try.underlying40 rfl sz40) rfl ?_
  refine wl_bin (fun x y => do eqGuard .eql 40 (.tmp 34) (.tmp 35) x y; binOp .eql 40 x y) (.tmp 34) (.tmp 35) (rd x_b x_0 x_1 x_2 x_3 x_s) (rd x_b x_0 x_1 x_2 x_3 x_s) (.bool true) (fun _ => rfl) rfl rfl (eqd_run (self6 _ _ _ _ _ _) _ _ _) rfl ?_
  refine w_nil ?_
  refine xn_then ?_
  refine w_condT rfl ?_
  refine w_seq ?_
  refine w_reg ?_
  refine wl_mv (.const (.bool true)) (.bool true) (fun _ => rfl) rfl rfl ?_
  refine w_nil ?_
  refine xn_then ?_
  refine w_ret ?_
  refine xr_then ?_
  exact w_ret1 _ (.bool true) rfl rfl ⟨rfl, M⟩
theorem halves_o1 (a_b : Bool) (a_0 a_1 a_2 a_3 a_s : Int) (x_b : Bool) (x_0 x_1 x_2 x_3 x_s : Int) (y_b : Bool) (y_0 y_1 y_2 y_3 y_s : Int) (d_b : Bool) (d_0 d_1 d_2 d_3 d_s : Int) (g_b : Bool) (g_0 g_1 g_2 g_3 g_s : Int) (S f : Int) (w : World) (h1 : ∀ w, Calls Try.prog 43 #[rd a_b a_0 a_1 a_2 a_3 a_s, .int .i64 S, .int .i64 (1)] w fun e' w' => e' = .returned (.tuple #[rd x_b x_0 x_1 x_2 x_3 x_s, .int .i64 (0)]) ∧ Mo w w') (h2 : ∀ w, Calls Try.prog 43 #[rd a_b a_0 a_1 a_2 a_3 a_s, .int .i64 S, .int .i64 (2)] w fun e' w' => e' = .returned (.tuple #[rd y_b y_0 y_1 y_2 y_3 y_s, .int .i64 (0)]) ∧ Mo w w') (hne : (x_b == y_b && (x_0 == y_0 && (x_1 == y_1 && (x_2 == y_2 && (x_3 == y_3 && x_s == y_s))))) = false) (h3 : ∀ w, Calls Try.prog 37 #[rd a_b a_0 a_1 a_2 a_3 a_s, rd y_b y_0 y_1 y_2 y_3 y_s] w fun e' w' => e' = .returned (.tuple #[rd d_b d_0 d_1 d_2 d_3 d_s, .int .i64 (7)]) ∧ Mo w w') (h4 : ∀ w, Calls Try.prog 37 #[rd x_b x_0 x_1 x_2 x_3 x_s, rd a_b a_0 a_1 a_2 a_3 a_s] w fun e' w' => e' = .returned (.tuple #[rd g_b g_0 g_1 g_2 g_3 g_s, .int .i64 f]) ∧ Mo w w') :
    Calls Try.prog 13 #[rd a_b a_0 a_1 a_2 a_3 a_s, .int .i64 S] w fun e' w' => e' = .returned (.bool true) ∧ Mo w w' := by
  refine w_enter 67 Try.func13 Try.ntmps13 rfl rfl ?_
  have M : Mo w w := Mo.refl _
  refine w_seq ?_
  refine w_reg ?_
  refine wl_box 40 (.tmp 0) (rd a_b a_0 a_1 a_2 a_3 a_s) ((rda a_b a_0 a_1 a_2 a_3 a_s)) rfl rfl (fun _ => by kernel_rfl) rfl ?_
  intro k1 w1 hk hz hq Q1
  have N_k1 : w.heap.size ≤ k1 := by have := M.size; omega
  replace M := M.trans hq
  clear hk hz hq
  refine wl_mv (.const (.bool false)) (.bool false) (fun _ => rfl) rfl rfl ?_
  refine w_nil ?_
  refine xn_then ?_
  refine w_seq ?_
  refine w_reg ?_
  refine wl_load 40 (.tmp 2) (pt k1 0) (rd a_b a_0 a_1 a_2 a_3 a_s) rfl rfl (run_row Q1 40 0 6 (rdl a_b a_0 a_1 a_2 a_3 a_s) rfl Try.underlying40 rfl sz40) rfl ?_
  refine wl_mv (.tmp 1) (.int .i64 S) (fun _ => rfl) rfl rfl ?_
  refine wl_call 43 [(.tmp 12), (.tmp 13), (.const (.int .i64 (1)))] _ [rd a_b a_0 a_1 a_2 a_3 a_s, .int .i64 S, .int .i64 (1)] (.tuple #[rd x_b x_0 x_1 x_2 x_3 x_s, .int .i64 (0)]) rfl rfl (fun _ _ => by kernel_rfl) (h1 _) rfl ?_
  intro w2 hq
  replace Q1 := Q1.mo hq
  replace M := M.trans hq
  clear hq
  refine wl_mv (.tmp 14) (.tuple #[rd x_b x_0 x_1 x_2 x_3 x_s, .int .i64 (0)]) (fun _ => rfl) rfl rfl ?_
  refine wl_un (fun v => Instr.extract v 0) (.tmp 11) (.tuple #[rd x_b x_0 x_1 x_2 x_3 x_s, .int .i64 (0)]) (rd x_b x_0 x_1 x_2 x_3 x_s) (fun _ => rfl) rfl (by kernel_rfl) rfl ?_
  refine wl_un (fun v => Instr.extract v 1) (.tmp 11) (.tuple #[rd x_b x_0 x_1 x_2 x_3 x_s, .int .i64 (0)]) (.int .i64 (0)) (fun _ => rfl) rfl (by kernel_rfl) rfl ?_
  refine wl_alloc 40 #[.bool false, .int .u64 0, .int .u64 0, .int .u64 0, .int .u64 0, .int .i64 0] rfl (fun _ => by kernel_rfl) rfl ?_
  intro k2 w3 hk hz hq Q2
  have ne_k1_k2 : k1 ≠ k2 := by have := Q1.lt; omega
  have N_k2 : w.heap.size ≤ k2 := by have := M.size; omega
  replace Q1 := Q1.mo hq
  replace M := M.trans hq
  clear hk hz hq
  refine wl_st 40 (.tmp 5) (.tmp 15) k2 0 (rda x_b x_0 x_1 x_2 x_3 x_s) [.bool false, .int .u64 0, .int .u64 0, .int .u64 0, .int .u64 0, .int .i64 0] (rdl x_b x_0 x_1 x_2 x_3 x_s) Q2 rfl rfl rfl rfl rfl sz40 rfl rfl rfl ?_
  intro w4 hS Qn
  replace Q2 := Qn
  clear Qn
  replace Q1 := hS.other _ _ ne_k1_k2 Q1
  replace M := hS.mo _ N_k2 M
  clear hS
  refine wl_mv (.tmp 16) (.int .i64 (0)) (fun _ => rfl) rfl rfl ?_
  refine w_nil ?_
  refine xn_then ?_
  refine w_seq ?_
  refine w_reg ?_
  refine wl_load 40 (.tmp 2) (pt k1 0) (rd a_b a_0 a_1 a_2 a_3 a_s) rfl rfl (run_row Q1 40 0 6 (rdl a_b a_0 a_1 a_2 a_3 a_s) rfl Try.underlying40 rfl sz40) rfl ?_
  refine wl_mv (.tmp 1) (.int .i64 S) (fun _ => rfl) rfl rfl ?_
  refine wl_call 43 [(.tmp 18), (.tmp 19), (.const (.int .i64 (2)))] _ [rd a_b a_0 a_1 a_2 a_3 a_s, .int .i64 S, .int .i64 (2)] (.tuple #[rd y_b y_0 y_1 y_2 y_3 y_s, .int .i64 (0)]) rfl rfl (fun _ _ => by kernel_rfl) (h2 _) rfl ?_
  intro w5 hq
  replace Q1 := Q1.mo hq
  replace Q2 := Q2.mo hq
  replace M := M.trans hq
  clear hq
  refine wl_mv (.tmp 20) (.tuple #[rd y_b y_0 y_1 y_2 y_3 y_s, .int .i64 (0)]) (fun _ => rfl) rfl rfl ?_
  refine wl_un (fun v => Instr.extract v 0) (.tmp 17) (.tuple #[rd y_b y_0 y_1 y_2 y_3 y_s, .int .i64 (0)]) (rd y_b y_0 y_1 y_2 y_3 y_s) (fun _ => rfl) rfl (by kernel_rfl) rfl ?_
  refine wl_un (fun v => Instr.extract v 1) (.tmp 17) (.tuple #[rd y_b y_0 y_1 y_2 y_3 y_s, .int .i64 (0)]) (.int .i64 (0)) (fun _ => rfl) rfl (by kernel_rfl) rfl ?_
  refine wl_alloc 40 #[.bool false, .int .u64 0, .int .u64 0, .int .u64 0, .int .u64 0, .int .i64 0] rfl (fun _ => by kernel_rfl) rfl ?_
  intro k3 w6 hk hz hq Q3
  have ne_k1_k3 : k1 ≠ k3 := by have := Q1.lt; omega
  have ne_k2_k3 : k2 ≠ k3 := by have := Q2.lt; omega
  have N_k3 : w.heap.size ≤ k3 := by have := M.size; omega
  replace Q1 := Q1.mo hq
  replace Q2 := Q2.mo hq
  replace M := M.trans hq
  clear hk hz hq
  refine wl_st 40 (.tmp 7) (.tmp 21) k3 0 (rda y_b y_0 y_1 y_2 y_3 y_s) [.bool false, .int .u64 0, .int .u64 0, .int .u64 0, .int .u64 0, .int .i64 0] (rdl y_b y_0 y_1 y_2 y_3 y_s) Q3 rfl rfl rfl rfl rfl sz40 rfl rfl rfl ?_
  intro w7 hS Qn
  replace Q3 := Qn
  clear Qn
  replace Q1 := hS.other _ _ ne_k1_k3 Q1
  replace Q2 := hS.other _ _ ne_k2_k3 Q2
  replace M := hS.mo _ N_k3 M
  clear hS
  refine wl_mv (.tmp 22) (.int .i64 (0)) (fun _ => rfl) rfl rfl ?_
  refine w_nil ?_
  refine xn_then ?_
  refine w_seq ?_
  refine w_seq ?_
  refine w_reg ?_
  refine wl_call 28 [] _ [] (.bool true) rfl rfl (fun _ _ => by kernel_rfl) (begun_n _) rfl ?_
  intro w8 hq
  replace Q1 := Q1.mo hq
  replace Q2 := Q2.mo hq
  replace Q3 := Q3.mo hq
  replace M := M.trans hq
  clear hq
  refine wl_un (fun v => Op.unary .not v) (.tmp 23) (.bool true) (.bool false) (fun _ => rfl) rfl (by kernel_rfl) rfl ?_
  refine wl_mv (.tmp 24) (.bool false) (fun _ => rfl) rfl rfl ?_
  refine wl_mv (.tmp 6) (.int .i64 (0)) (fun _ => rfl) rfl rfl ?_
  refine wl_bin (fun x y => do eqGuard .neq 32 (.tmp 26) (.const (.int .i64 (0))) x y; binOp .neq 32 x y) (.tmp 26) (.const (.int .i64 (0))) (.int .i64 (0)) (.int .i64 (0)) (.bool false) (fun _ => rfl) rfl rfl (by kernel_rfl) rfl ?_
  refine wl_pick (.tmp 25) (.const (.bool true)) (.tmp 27) false (.bool false) (fun _ => rfl) rfl rfl rfl ?_
  refine wl_mv (.tmp 28) (.bool false) (fun _ => rfl) rfl rfl ?_
  refine wl_mv (.tmp 8) (.int .i64 (0)) (fun _ => rfl) rfl rfl ?_
  refine wl_bin (fun x y => do eqGuard .neq 32 (.tmp 30) (.const (.int .i64 (0))) x y; binOp .neq 32 x y) (.tmp 30) (.const (.int .i64 (0))) (.int .i64 (0)) (.int .i64 (0)) (.bool false) (fun _ => rfl) rfl rfl (by kernel_rfl) rfl ?_
  refine wl_pick (.tmp 29) (.const (.bool true)) (.tmp 31) false (.bool false) (fun _ => rfl) rfl rfl rfl ?_
  refine w_nil ?_
  refine xn_then ?_
  refine w_condF rfl ?_
  refine w_skip ?_
  refine xn_then ?_
  refine w_seq ?_
  refine w_seq ?_
  refine w_reg ?_
  refine wl_load 40 (.tmp 5) (pt k2 0) (rd x_b x_0 x_1 x_2 x_3 x_s) rfl rfl (run_row Q2 40 0 6 (rdl x_b x_0 x_1 x_2 x_3 x_s) rfl Try.underlying40 rfl sz40) rfl ?_
  refine wl_load 40 (.tmp 7) (pt k3 0) (rd y_b y_0 y_1 y_2 y_3 y_s) rfl rfl (run_row Q3 40 0 6 (rdl y_b y_0 y_1 y_2 y_3 y_s) rfl Try.underlying40 rfl sz40) rfl ?_
  refine wl_bin (fun x y => do eqGuard .eql 40 (.tmp 34) (.tmp 35) x y; binOp .eql 40 x y) (.tmp 34) (.tmp 35) (rd x_b x_0 x_1 x_2 x_3 x_s) (rd y_b y_0 y_1 y_2 y_3 y_s) (.bool false) (fun _ => rfl) rfl rfl (eqd_run hne _ _ _) rfl ?_
  refine w_nil ?_
  refine xn_then ?_
  refine w_condF rfl ?_
  refine w_skip ?_
  refine xn_then ?_
  refine w_seq ?_
  refine w_reg ?_
  refine wl_load 40 (.tmp 2) (pt k1 0) (rd a_b a_0 a_1 a_2 a_3 a_s) rfl rfl (run_row Q1 40 0 6 (rdl a_b a_0 a_1 a_2 a_3 a_s) rfl Try.underlying40 rfl sz40) rfl ?_
  refine wl_load 40 (.tmp 7) (pt k3 0) (rd y_b y_0 y_1 y_2 y_3 y_s) rfl rfl (run_row Q3 40 0 6 (rdl y_b y_0 y_1 y_2 y_3 y_s) rfl Try.underlying40 rfl sz40) rfl ?_
  refine wl_call 37 [(.tmp 38), (.tmp 39)] _ [rd a_b a_0 a_1 a_2 a_3 a_s, rd y_b y_0 y_1 y_2 y_3 y_s] (.tuple #[rd d_b d_0 d_1 d_2 d_3 d_s, .int .i64 (7)]) rfl rfl (fun _ _ => by kernel_rfl) (h3 _) rfl ?_
  intro w9 hq
  replace Q1 := Q1.mo hq
  replace Q2 := Q2.mo hq
  replace Q3 := Q3.mo hq
  replace M := M.trans hq
  clear hq
  refine wl_mv (.tmp 40) (.tuple #[rd d_b d_0 d_1 d_2 d_3 d_s, .int .i64 (7)]) (fun _ => rfl) rfl rfl ?_
  refine wl_un (fun v => Instr.extract v 0) (.tmp 37) (.tuple #[rd d_b d_0 d_1 d_2 d_3 d_s, .int .i64 (7)]) (rd d_b d_0 d_1 d_2 d_3 d_s) (fun _ => rfl) rfl (by kernel_rfl) rfl ?_
  refine wl_un (fun v => Instr.extract v 1) (.tmp 37) (.tuple #[rd d_b d_0 d_1 d_2 d_3 d_s, .int .i64 (7)]) (.int .i64 (7)) (fun _ => rfl) rfl (by kernel_rfl) rfl ?_
  refine wl_alloc 40 #[.bool false, .int .u64 0, .int .u64 0, .int .u64 0, .int .u64 0, .int .i64 0] rfl (fun _ => by kernel_rfl) rfl ?_
  intro k4 w10 hk hz hq Q4
  have ne_k1_k4 : k1 ≠ k4 := by have := Q1.lt; omega
  have ne_k2_k4 : k2 ≠ k4 := by have := Q2.lt; omega
  have ne_k3_k4 : k3 ≠ k4 := by have := Q3.lt; omega
  have N_k4 : w.heap.size ≤ k4 := by have := M.size; omega
  replace Q1 := Q1.mo hq
  replace Q2 := Q2.mo hq
  replace Q3 := Q3.mo hq
  replace M := M.trans hq
  clear hk hz hq
  refine wl_st 40 (.tmp 9) (.tmp 41) k4 0 (rda d_b d_0 d_1 d_2 d_3 d_s) [.bool false, .int .u64 0, .int .u64 0, .int .u64 0, .int .u64 0, .int .i64 0] (rdl d_b d_0 d_1 d_2 d_3 d_s) Q4 rfl rfl rfl rfl rfl sz40 rfl rfl rfl ?_
  intro w11 hS Qn
  replace Q4 := Qn
  clear Qn
  replace Q1 := hS.other _ _ ne_k1_k4 Q1
  replace Q2 := hS.other _ _ ne_k2_k4 Q2
  replace Q3 := hS.other _ _ ne_k3_k4 Q3
  replace M := hS.mo _ N_k4 M
  clear hS
  refine wl_mv (.tmp 42) (.int .i64 (7)) (fun _ => rfl) rfl rfl ?_
  refine w_nil ?_
  refine xn_then ?_
  refine w_seq ?_
  refine w_reg ?_
  refine wl_load 40 (.tmp 5) (pt k2 0) (rd x_b x_0 x_1 x_2 x_3 x_s) rfl rfl (run_row Q2 40 0 6 (rdl x_b x_0 x_1 x_2 x_3 x_s) rfl Try.underlying40 rfl sz40) rfl ?_
  refine wl_load 40 (.tmp 2) (pt k1 0) (rd a_b a_0 a_1 a_2 a_3 a_s) rfl rfl (run_row Q1 40 0 6 (rdl a_b a_0 a_1 a_2 a_3 a_s) rfl Try.underlying40 rfl sz40) rfl ?_
  refine wl_call 37 [(.tmp 44), (.tmp 45)] _ [rd x_b x_0 x_1 x_2 x_3 x_s, rd a_b a_0 a_1 a_2 a_3 a_s] (.tuple #[rd g_b g_0 g_1 g_2 g_3 g_s, .int .i64 f]) rfl rfl (fun _ _ => by kernel_rfl) (h4 _) rfl ?_
  intro w12 hq
  replace Q1 := Q1.mo hq
  replace Q2 := Q2.mo hq
  replace Q3 := Q3.mo hq
  replace Q4 := Q4.mo hq
  replace M := M.trans hq
  clear hq
  refine wl_mv (.tmp 46) (.tuple #[rd g_b g_0 g_1 g_2 g_3 g_s, .int .i64 f]) (fun _ => rfl) rfl rfl ?_
  refine wl_un (fun v => Instr.extract v 0) (.tmp 43) (.tuple #[rd g_b g_0 g_1 g_2 g_3 g_s, .int .i64 f]) (rd g_b g_0 g_1 g_2 g_3 g_s) (fun _ => rfl) rfl (by kernel_rfl) rfl ?_
  refine wl_un (fun v => Instr.extract v 1) (.tmp 43) (.tuple #[rd g_b g_0 g_1 g_2 g_3 g_s, .int .i64 f]) (.int .i64 f) (fun _ => rfl) rfl (by kernel_rfl) rfl ?_
  refine wl_alloc 40 #[.bool false, .int .u64 0, .int .u64 0, .int .u64 0, .int .u64 0, .int .i64 0] rfl (fun _ => by kernel_rfl) rfl ?_
  intro k5 w13 hk hz hq Q5
  have ne_k1_k5 : k1 ≠ k5 := by have := Q1.lt; omega
  have ne_k2_k5 : k2 ≠ k5 := by have := Q2.lt; omega
  have ne_k3_k5 : k3 ≠ k5 := by have := Q3.lt; omega
  have ne_k4_k5 : k4 ≠ k5 := by have := Q4.lt; omega
  have N_k5 : w.heap.size ≤ k5 := by have := M.size; omega
  replace Q1 := Q1.mo hq
  replace Q2 := Q2.mo hq
  replace Q3 := Q3.mo hq
  replace Q4 := Q4.mo hq
  replace M := M.trans hq
  clear hk hz hq
  refine wl_st 40 (.tmp 10) (.tmp 47) k5 0 (rda g_b g_0 g_1 g_2 g_3 g_s) [.bool false, .int .u64 0, .int .u64 0, .int .u64 0, .int .u64 0, .int .i64 0] (rdl g_b g_0 g_1 g_2 g_3 g_s) Q5 rfl rfl rfl rfl rfl sz40 rfl rfl rfl ?_
  intro w14 hS Qn
  replace Q5 := Qn
  clear Qn
  replace Q1 := hS.other _ _ ne_k1_k5 Q1
  replace Q2 := hS.other _ _ ne_k2_k5 Q2
  replace Q3 := hS.other _ _ ne_k3_k5 Q3
  replace Q4 := hS.other _ _ ne_k4_k5 Q4
  replace M := hS.mo _ N_k5 M
  clear hS
  refine wl_mv (.tmp 48) (.int .i64 f) (fun _ => rfl) rfl rfl ?_
  refine w_nil ?_
  refine xn_then ?_
  refine w_seq ?_
  refine w_seq ?_
  refine w_reg ?_
  refine wl_mv (.tmp 6) (.int .i64 (7)) (fun _ => rfl) rfl rfl ?_
  refine wl_bin (fun x y => do eqGuard .eql 32 (.tmp 49) (.const (.int .i64 (7))) x y; binOp .eql 32 x y) (.tmp 49) (.const (.int .i64 (7))) (.int .i64 (7)) (.int .i64 (7)) (.bool true) (fun _ => rfl) rfl rfl (by kernel_rfl) rfl ?_
  refine wl_mv (.tmp 50) (.bool true) (fun _ => rfl) rfl rfl ?_
  refine wl_skip rfl ?_
  refine wl_skip rfl ?_
  refine wl_pick (.tmp 51) (.const (.bool true)) (.tmp 53) true (.bool true) (fun _ => rfl) rfl rfl rfl ?_
  refine w_nil ?_
  refine xn_then ?_
  refine w_condT rfl ?_
  refine w_seq ?_
  refine w_reg ?_
  refine wl_mv (.const (.bool true)) (.bool true) (fun _ => rfl) rfl rfl ?_
  refine w_nil ?_
  refine xn_then ?_
  refine w_ret ?_
  refine xr_then ?_
  exact w_ret1 _ (.bool true) rfl rfl ⟨rfl, M⟩
theorem halves_o2 (a_b : Bool) (a_0 a_1 a_2 a_3 a_s : Int) (x_b : Bool) (x_0 x_1 x_2 x_3 x_s : Int) (y_b : Bool) (y_0 y_1 y_2 y_3 y_s : Int) (d_b : Bool) (d_0 d_1 d_2 d_3 d_s : Int) (g_b : Bool) (g_0 g_1 g_2 g_3 g_s : Int) (S : Int) (w : World) (h1 : ∀ w, Calls Try.prog 43 #[rd a_b a_0 a_1 a_2 a_3 a_s, .int .i64 S, .int .i64 (1)] w fun e' w' => e' = .returned (.tuple #[rd x_b x_0 x_1 x_2 x_3 x_s, .int .i64 (0)]) ∧ Mo w w') (h2 : ∀ w, Calls Try.prog 43 #[rd a_b a_0 a_1 a_2 a_3 a_s, .int .i64 S, .int .i64 (2)] w fun e' w' => e' = .returned (.tuple #[rd y_b y_0 y_1 y_2 y_3 y_s, .int .i64 (0)]) ∧ Mo w w') (hne : (x_b == y_b && (x_0 == y_0 && (x_1 == y_1 && (x_2 == y_2 && (x_3 == y_3 && x_s == y_s))))) = false) (h3 : ∀ w, Calls Try.prog 37 #[rd a_b a_0 a_1 a_2 a_3 a_s, rd y_b y_0 y_1 y_2 y_3 y_s] w fun e' w' => e' = .returned (.tuple #[rd d_b d_0 d_1 d_2 d_3 d_s, .int .i64 (0)]) ∧ Mo w w') (h4 : ∀ w, Calls Try.prog 37 #[rd x_b x_0 x_1 x_2 x_3 x_s, rd a_b a_0 a_1 a_2 a_3 a_s] w fun e' w' => e' = .returned (.tuple #[rd g_b g_0 g_1 g_2 g_3 g_s, .int .i64 (7)]) ∧ Mo w w') :
    Calls Try.prog 13 #[rd a_b a_0 a_1 a_2 a_3 a_s, .int .i64 S] w fun e' w' => e' = .returned (.bool true) ∧ Mo w w' := by
  refine w_enter 67 Try.func13 Try.ntmps13 rfl rfl ?_
  have M : Mo w w := Mo.refl _
  refine w_seq ?_
  refine w_reg ?_
  refine wl_box 40 (.tmp 0) (rd a_b a_0 a_1 a_2 a_3 a_s) ((rda a_b a_0 a_1 a_2 a_3 a_s)) rfl rfl (fun _ => by kernel_rfl) rfl ?_
  intro k1 w1 hk hz hq Q1
  have N_k1 : w.heap.size ≤ k1 := by have := M.size; omega
  replace M := M.trans hq
  clear hk hz hq
  refine wl_mv (.const (.bool false)) (.bool false) (fun _ => rfl) rfl rfl ?_
  refine w_nil ?_
  refine xn_then ?_
  refine w_seq ?_
  refine w_reg ?_
  refine wl_load 40 (.tmp 2) (pt k1 0) (rd a_b a_0 a_1 a_2 a_3 a_s) rfl rfl (run_row Q1 40 0 6 (rdl a_b a_0 a_1 a_2 a_3 a_s) rfl Try.underlying40 rfl sz40) rfl ?_
  refine wl_mv (.tmp 1) (.int .i64 S) (fun _ => rfl) rfl rfl ?_
  refine wl_call 43 [(.tmp 12), (.tmp 13), (.const (.int .i64 (1)))] _ [rd a_b a_0 a_1 a_2 a_3 a_s, .int .i64 S, .int .i64 (1)] (.tuple #[rd x_b x_0 x_1 x_2 x_3 x_s, .int .i64 (0)]) rfl rfl (fun _ _ => by kernel_rfl) (h1 _) rfl ?_
  intro w2 hq
  replace Q1 := Q1.mo hq
  replace M := M.trans hq
  clear hq
  refine wl_mv (.tmp 14) (.tuple #[rd x_b x_0 x_1 x_2 x_3 x_s, .int .i64 (0)]) (fun _ => rfl) rfl rfl ?_
  refine wl_un (fun v => Instr.extract v 0) (.tmp 11) (.tuple #[rd x_b x_0 x_1 x_2 x_3 x_s, .int .i64 (0)]) (rd x_b x_0 x_1 x_2 x_3 x_s) (fun _ => rfl) rfl (by kernel_rfl) rfl ?_
  refine wl_un (fun v => Instr.extract v 1) (.tmp 11) (.tuple #[rd x_b x_0 x_1 x_2 x_3 x_s, .int .i64 (0)]) (.int .i64 (0)) (fun _ => rfl) rfl (by kernel_rfl) rfl ?_
  refine wl_alloc 40 #[.bool false, .int .u64 0, .int .u64 0, .int .u64 0, .int .u64 0, .int .i64 0] rfl (fun _ => by kernel_rfl) rfl ?_
  intro k2 w3 hk hz hq Q2
  have ne_k1_k2 : k1 ≠ k2 := by have := Q1.lt; omega
  have N_k2 : w.heap.size ≤ k2 := by have := M.size; omega
  replace Q1 := Q1.mo hq
  replace M := M.trans hq
  clear hk hz hq
  refine wl_st 40 (.tmp 5) (.tmp 15) k2 0 (rda x_b x_0 x_1 x_2 x_3 x_s) [.bool false, .int .u64 0, .int .u64 0, .int .u64 0, .int .u64 0, .int .i64 0] (rdl x_b x_0 x_1 x_2 x_3 x_s) Q2 rfl rfl rfl rfl rfl sz40 rfl rfl rfl ?_
  intro w4 hS Qn
  replace Q2 := Qn
  clear Qn
  replace Q1 := hS.other _ _ ne_k1_k2 Q1
  replace M := hS.mo _ N_k2 M
  clear hS
  refine wl_mv (.tmp 16) (.int .i64 (0)) (fun _ => rfl) rfl rfl ?_
  refine w_nil ?_
  refine xn_then ?_
  refine w_seq ?_
  refine w_reg ?_
  refine wl_load 40 (.tmp 2) (pt k1 0) (rd a_b a_0 a_1 a_2 a_3 a_s) rfl rfl (run_row Q1 40 0 6 (rdl a_b a_0 a_1 a_2 a_3 a_s) rfl Try.underlying40 rfl sz40) rfl ?_
  refine wl_mv (.tmp 1) (.int .i64 S) (fun _ => rfl) rfl rfl ?_
  refine wl_call 43 [(.tmp 18), (.tmp 19), (.const (.int .i64 (2)))] _ [rd a_b a_0 a_1 a_2 a_3 a_s, .int .i64 S, .int .i64 (2)] (.tuple #[rd y_b y_0 y_1 y_2 y_3 y_s, .int .i64 (0)]) rfl rfl (fun _ _ => by kernel_rfl) (h2 _) rfl ?_
  intro w5 hq
  replace Q1 := Q1.mo hq
  replace Q2 := Q2.mo hq
  replace M := M.trans hq
  clear hq
  refine wl_mv (.tmp 20) (.tuple #[rd y_b y_0 y_1 y_2 y_3 y_s, .int .i64 (0)]) (fun _ => rfl) rfl rfl ?_
  refine wl_un (fun v => Instr.extract v 0) (.tmp 17) (.tuple #[rd y_b y_0 y_1 y_2 y_3 y_s, .int .i64 (0)]) (rd y_b y_0 y_1 y_2 y_3 y_s) (fun _ => rfl) rfl (by kernel_rfl) rfl ?_
  refine wl_un (fun v => Instr.extract v 1) (.tmp 17) (.tuple #[rd y_b y_0 y_1 y_2 y_3 y_s, .int .i64 (0)]) (.int .i64 (0)) (fun _ => rfl) rfl (by kernel_rfl) rfl ?_
  refine wl_alloc 40 #[.bool false, .int .u64 0, .int .u64 0, .int .u64 0, .int .u64 0, .int .i64 0] rfl (fun _ => by kernel_rfl) rfl ?_
  intro k3 w6 hk hz hq Q3
  have ne_k1_k3 : k1 ≠ k3 := by have := Q1.lt; omega
  have ne_k2_k3 : k2 ≠ k3 := by have := Q2.lt; omega
  have N_k3 : w.heap.size ≤ k3 := by have := M.size; omega
  replace Q1 := Q1.mo hq
  replace Q2 := Q2.mo hq
  replace M := M.trans hq
  clear hk hz hq
  refine wl_st 40 (.tmp 7) (.tmp 21) k3 0 (rda y_b y_0 y_1 y_2 y_3 y_s) [.bool false, .int .u64 0, .int .u64 0, .int .u64 0, .int .u64 0, .int .i64 0] (rdl y_b y_0 y_1 y_2 y_3 y_s) Q3 rfl rfl rfl rfl rfl sz40 rfl rfl rfl ?_
  intro w7 hS Qn
  replace Q3 := Qn
  clear Qn
  replace Q1 := hS.other _ _ ne_k1_k3 Q1
  replace Q2 := hS.other _ _ ne_k2_k3 Q2
  replace M := hS.mo _ N_k3 M
  clear hS
  refine wl_mv (.tmp 22) (.int .i64 (0)) (fun _ => rfl) rfl rfl ?_
  refine w_nil ?_
  refine xn_then ?_
  refine w_seq ?_
  refine w_seq ?_
  refine w_reg ?_
  refine wl_call 28 [] _ [] (.bool true) rfl rfl (fun _ _ => by kernel_rfl) (begun_n _) rfl ?_
  intro w8 hq
  replace Q1 := Q1.mo hq
  replace Q2 := Q2.mo hq
  replace Q3 := Q3.mo hq
  replace M := M.trans hq
  clear hq
  refine wl_un (fun v => Op.unary .not v) (.tmp 23) (.bool true) (.bool false) (fun _ => rfl) rfl (by kernel_rfl) rfl ?_
  refine wl_mv (.tmp 24) (.bool false) (fun _ => rfl) rfl rfl ?_
  refine wl_mv (.tmp 6) (.int .i64 (0)) (fun _ => rfl) rfl rfl ?_
  refine wl_bin (fun x y => do eqGuard .neq 32 (.tmp 26) (.const (.int .i64 (0))) x y; binOp .neq 32 x y) (.tmp 26) (.const (.int .i64 (0))) (.int .i64 (0)) (.int .i64 (0)) (.bool false) (fun _ => rfl) rfl rfl (by kernel_rfl) rfl ?_
  refine wl_pick (.tmp 25) (.const (.bool true)) (.tmp 27) false (.bool false) (fun _ => rfl) rfl rfl rfl ?_
  refine wl_mv (.tmp 28) (.bool false) (fun _ => rfl) rfl rfl ?_
  refine wl_mv (.tmp 8) (.int .i64 (0)) (fun _ => rfl) rfl rfl ?_
  refine wl_bin (fun x y => do eqGuard .neq 32 (.tmp 30) (.const (.int .i64 (0))) x y; binOp .neq 32 x y) (.tmp 30) (.const (.int .i64 (0))) (.int .i64 (0)) (.int .i64 (0)) (.bool false) (fun _ => rfl) rfl rfl (by kernel_rfl) rfl ?_
  refine wl_pick (.tmp 29) (.const (.bool true)) (.tmp 31) false (.bool false) (fun _ => rfl) rfl rfl rfl ?_
  refine w_nil ?_
  refine xn_then ?_
  refine w_condF rfl ?_
  refine w_skip ?_
  refine xn_then ?_
  refine w_seq ?_
  refine w_seq ?_
  refine w_reg ?_
  refine wl_load 40 (.tmp 5) (pt k2 0) (rd x_b x_0 x_1 x_2 x_3 x_s) rfl rfl (run_row Q2 40 0 6 (rdl x_b x_0 x_1 x_2 x_3 x_s) rfl Try.underlying40 rfl sz40) rfl ?_
  refine wl_load 40 (.tmp 7) (pt k3 0) (rd y_b y_0 y_1 y_2 y_3 y_s) rfl rfl (run_row Q3 40 0 6 (rdl y_b y_0 y_1 y_2 y_3 y_s) rfl Try.underlying40 rfl sz40) rfl ?_
  refine wl_bin (fun x y => do eqGuard .eql 40 (.tmp 34) (.tmp 35) x y; binOp .eql 40 x y) (.tmp 34) (.tmp 35) (rd x_b x_0 x_1 x_2 x_3 x_s) (rd y_b y_0 y_1 y_2 y_3 y_s) (.bool false) (fun _ => rfl) rfl rfl (eqd_run hne _ _ _) rfl ?_
  refine w_nil ?_
  refine xn_then ?_
  refine w_condF rfl ?_
  refine w_skip ?_
  refine xn_then ?_
  refine w_seq ?_
  refine w_reg ?_
  refine wl_load 40 (.tmp 2) (pt k1 0) (rd a_b a_0 a_1 a_2 a_3 a_s) rfl rfl (run_row Q1 40 0 6 (rdl a_b a_0 a_1 a_2 a_3 a_s) rfl Try.underlying40 rfl sz40) rfl ?_
  refine wl_load 40 (.tmp 7) (pt k3 0) (rd y_b y_0 y_1 y_2 y_3 y_s) rfl rfl (run_row Q3 40 0 6 (rdl y_b y_0 y_1 y_2 y_3 y_s) rfl Try.underlying40 rfl sz40) rfl ?_
  refine wl_call 37 [(.tmp 38), (.tmp 39)] _ [rd a_b a_0 a_1 a_2 a_3 a_s, rd y_b y_0 y_1 y_2 y_3 y_s] (.tuple #[rd d_b d_0 d_1 d_2 d_3 d_s, .int .i64 (0)]) rfl rfl (fun _ _ => by kernel_rfl) (h3 _) rfl ?_
  intro w9 hq
  replace Q1 := Q1.mo hq
  replace Q2 := Q2.mo hq
  replace Q3 := Q3.mo hq
  replace M := M.trans hq
  clear hq
  refine wl_mv (.tmp 40) (.tuple #[rd d_b d_0 d_1 d_2 d_3 d_s, .int .i64 (0)]) (fun _ => rfl) rfl rfl ?_
  refine wl_un (fun v => Instr.extract v 0) (.tmp 37) (.tuple #[rd d_b d_0 d_1 d_2 d_3 d_s, .int .i64 (0)]) (rd d_b d_0 d_1 d_2 d_3 d_s) (fun _ => rfl) rfl (by kernel_rfl) rfl ?_
  refine wl_un (fun v => Instr.extract v 1) (.tmp 37) (.tuple #[rd d_b d_0 d_1 d_2 d_3 d_s, .int .i64 (0)]) (.int .i64 (0)) (fun _ => rfl) rfl (by kernel_rfl) rfl ?_
  refine wl_alloc 40 #[.bool false, .int .u64 0, .int .u64 0, .int .u64 0, .int .u64 0, .int .i64 0] rfl (fun _ => by kernel_rfl) rfl ?_
  intro k4 w10 hk hz hq Q4
  have ne_k1_k4 : k1 ≠ k4 := by have := Q1.lt; omega
  have ne_k2_k4 : k2 ≠ k4 := by have := Q2.lt; omega
  have ne_k3_k4 : k3 ≠ k4 := by have := Q3.lt; omega
  have N_k4 : w.heap.size ≤ k4 := by have := M.size; omega
  replace Q1 := Q1.mo hq
  replace Q2 := Q2.mo hq
  replace Q3 := Q3.mo hq
  replace M := M.trans hq
  clear hk hz hq
  refine wl_st 40 (.tmp 9) (.tmp 41) k4 0 (rda d_b d_0 d_1 d_2 d_3 d_s) [.bool false, .int .u64 0, .int .u64 0, .int .u64 0, .int .u64 0, .int .i64 0] (rdl d_b d_0 d_1 d_2 d_3 d_s) Q4 rfl rfl rfl rfl rfl sz40 rfl rfl rfl ?_
  intro w11 hS Qn
  replace Q4 := Qn
  clear Qn
  replace Q1 := hS.other _ _ ne_k1_k4 Q1
  replace Q2 := hS.other _ _ ne_k2_k4 Q2
  replace Q3 := hS.other _ _ ne_k3_k4 Q3
  replace M := hS.mo _ N_k4 M
  clear hS
  refine wl_mv (.tmp 42) (.int .i64 (0)) (fun _ => rfl) rfl rfl ?_
  refine w_nil ?_
  refine xn_then ?_
  refine w_seq ?_
  refine w_reg ?_
  refine wl_load 40 (.tmp 5) (pt k2 0) (rd x_b x_0 x_1 x_2 x_3 x_s) rfl rfl (run_row Q2 40 0 6 (rdl x_b x_0 x_1 x_2 x_3 x_s) rfl Try.underlying40 rfl sz40) rfl ?_
  refine wl_load 40 (.tmp 2) (pt k1 0) (rd a_b a_0 a_1 a_2 a_3 a_s) rfl rfl (run_row Q1 40 0 6 (rdl a_b a_0 a_1 a_2 a_3 a_s) rfl Try.underlying40 rfl sz40) rfl ?_
  refine wl_call 37 [(.tmp 44), (.tmp 45)] _ [rd x_b x_0 x_1 x_2 x_3 x_s, rd a_b a_0 a_1 a_2 a_3 a_s] (.tuple #[rd g_b g_0 g_1 g_2 g_3 g_s, .int .i64 (7)]) rfl rfl (fun _ _ => by kernel_rfl) (h4 _) rfl ?_
  intro w12 hq
  replace Q1 := Q1.mo hq
  replace Q2 := Q2.mo hq
  replace Q3 := Q3.mo hq
  replace Q4 := Q4.mo hq
  replace M := M.trans hq
  clear hq
  refine wl_mv (.tmp 46) (.tuple #[rd g_b g_0 g_1 g_2 g_3 g_s, .int .i64 (7)]) (fun _ => rfl) rfl rfl ?_
  refine wl_un (fun v => Instr.extract v 0) (.tmp 43) (.tuple #[rd g_b g_0 g_1 g_2 g_3 g_s, .int .i64 (7)]) (rd g_b g_0 g_1 g_2 g_3 g_s) (fun _ => rfl) rfl (by kernel_rfl) rfl ?_
  refine wl_un (fun v => Instr.extract v 1) (.tmp 43) (.tuple #[rd g_b g_0 g_1 g_2 g_3 g_s, .int .i64 (7)]) (.int .i64 (7)) (fun _ => rfl) rfl (by kernel_rfl) rfl ?_
  refine wl_alloc 40 #[.bool false, .int .u64 0, .int .u64 0, .int .u64 0, .int .u64 0, .int .i64 0] rfl (fun _ => by kernel_rfl) rfl ?_
  intro k5 w13 hk hz hq Q5
  have ne_k1_k5 : k1 ≠ k5 := by have := Q1.lt; omega
  have ne_k2_k5 : k2 ≠ k5 := by have := Q2.lt; omega
  have ne_k3_k5 : k3 ≠ k5 := by have := Q3.lt; omega
  have ne_k4_k5 : k4 ≠ k5 := by have := Q4.lt; omega
  have N_k5 : w.heap.size ≤ k5 := by have := M.size; omega
  replace Q1 := Q1.mo hq
  replace Q2 := Q2.mo hq
  replace Q3 := Q3.mo hq
  replace Q4 := Q4.mo hq
  replace M := M.trans hq
  clear hk hz hq
  refine wl_st 40 (.tmp 10) (.tmp 47) k5 0 (rda g_b g_0 g_1 g_2 g_3 g_s) [.bool false, .int .u64 0, .int .u64 0, .int .u64 0, .int .u64 0, .int .i64 0] (rdl g_b g_0 g_1 g_2 g_3 g_s) Q5 rfl rfl rfl rfl rfl sz40 rfl rfl rfl ?_
  intro w14 hS Qn
  replace Q5 := Qn
  clear Qn
  replace Q1 := hS.other _ _ ne_k1_k5 Q1
  replace Q2 := hS.other _ _ ne_k2_k5 Q2
  replace Q3 := hS.other _ _ ne_k3_k5 Q3
  replace Q4 := hS.other _ _ ne_k4_k5 Q4
  replace M := hS.mo _ N_k5 M
  clear hS
  refine wl_mv (.tmp 48) (.int .i64 (7)) (fun _ => rfl) rfl rfl ?_
  refine w_nil ?_
  refine xn_then ?_
  refine w_seq ?_
  refine w_seq ?_
  refine w_reg ?_
  refine wl_mv (.tmp 6) (.int .i64 (0)) (fun _ => rfl) rfl rfl ?_
  refine wl_bin (fun x y => do eqGuard .eql 32 (.tmp 49) (.const (.int .i64 (7))) x y; binOp .eql 32 x y) (.tmp 49) (.const (.int .i64 (7))) (.int .i64 (0)) (.int .i64 (7)) (.bool false) (fun _ => rfl) rfl rfl (by kernel_rfl) rfl ?_
  refine wl_mv (.tmp 50) (.bool false) (fun _ => rfl) rfl rfl ?_
  refine wl_mv (.tmp 8) (.int .i64 (7)) (fun _ => rfl) rfl rfl ?_
  refine wl_bin (fun x y => do eqGuard .eql 32 (.tmp 52) (.const (.int .i64 (7))) x y; binOp .eql 32 x y) (.tmp 52) (.const (.int .i64 (7))) (.int .i64 (7)) (.int .i64 (7)) (.bool true) (fun _ => rfl) rfl rfl (by kernel_rfl) rfl ?_
  refine wl_pick (.tmp 51) (.const (.bool true)) (.tmp 53) false (.bool true) (fun _ => rfl) rfl rfl rfl ?_
  refine w_nil ?_
  refine xn_then ?_
  refine w_condT rfl ?_
  refine w_seq ?_
  refine w_reg ?_
  refine wl_mv (.const (.bool true)) (.bool true) (fun _ => rfl) rfl rfl ?_
  refine w_nil ?_
  refine xn_then ?_
  refine w_ret ?_
  refine xr_then ?_
  exact w_ret1 _ (.bool true) rfl rfl ⟨rfl, M⟩
theorem halves_ok (a_b : Bool) (a_0 a_1 a_2 a_3 a_s : Int) (x_b : Bool) (x_0 x_1 x_2 x_3 x_s : Int) (y_b : Bool) (y_0 y_1 y_2 y_3 y_s : Int) (d_b : Bool) (d_0 d_1 d_2 d_3 d_s : Int) (g_b : Bool) (g_0 g_1 g_2 g_3 g_s : Int) (S : Int) (w : World) (h1 : ∀ w, Calls Try.prog 43 #[rd a_b a_0 a_1 a_2 a_3 a_s, .int .i64 S, .int .i64 (1)] w fun e' w' => e' = .returned (.tuple #[rd x_b x_0 x_1 x_2 x_3 x_s, .int .i64 (0)]) ∧ Mo w w') (h2 : ∀ w, Calls Try.prog 43 #[rd a_b a_0 a_1 a_2 a_3 a_s, .int .i64 S, .int .i64 (2)] w fun e' w' => e' = .returned (.tuple #[rd y_b y_0 y_1 y_2 y_3 y_s, .int .i64 (0)]) ∧ Mo w w') (hne : (x_b == y_b && (x_0 == y_0 && (x_1 == y_1 && (x_2 == y_2 && (x_3 == y_3 && x_s == y_s))))) = false) (h3 : ∀ w, Calls Try.prog 37 #[rd a_b a_0 a_1 a_2 a_3 a_s, rd y_b y_0 y_1 y_2 y_3 y_s] w fun e' w' => e' = .returned (.tuple #[rd d_b d_0 d_1 d_2 d_3 d_s, .int .i64 (0)]) ∧ Mo w w') (h4 : ∀ w, Calls Try.prog 37 #[rd x_b x_0 x_1 x_2 x_3 x_s, rd a_b a_0 a_1 a_2 a_3 a_s] w fun e' w' => e' = .returned (.tuple #[rd g_b g_0 g_1 g_2 g_3 g_s, .int .i64 (0)]) ∧ Mo w w') (h5 : ∀ w, Calls Try.prog 51 #[rd d_b d_0 d_1 d_2 d_3 d_s, rd g_b g_0 g_1 g_2 g_3 g_s] w fun e' w' => e' = .returned (.int .i64 (0)) ∧ Mo w w') :
    Calls Try.prog 13 #[rd a_b a_0 a_1 a_2 a_3 a_s, .int .i64 S] w fun e' w' => e' = .returned (.bool true) ∧ Mo w w' := by
  refine w_enter 67 Try.func13 Try.ntmps13 rfl rfl ?_
  have M : Mo w w := Mo.refl _
  refine w_seq ?_
  refine w_reg ?_
  refine wl_box 40 (.tmp 0) (rd a_b a_0 a_1 a_2 a_3 a_s) ((rda a_b a_0 a_1 a_2 a_3 a_s)) rfl rfl (fun _ => by kernel_rfl) rfl ?_
  intro k1 w1 hk hz hq Q1
  have N_k1 : w.heap.size ≤ k1 := by have := M.size; omega
  replace M := M.trans hq
  clear hk hz hq
  refine wl_mv (.const (.bool false)) (.bool false) (fun _ => rfl) rfl rfl ?_
  refine w_nil ?_
  refine xn_then ?_
  refine w_seq ?_
  refine w_reg ?_
  refine wl_load 40 (.tmp 2) (pt k1 0) (rd a_b a_0 a_1 a_2 a_3 a_s) rfl rfl (run_row Q1 40 0 6 (rdl a_b a_0 a_1 a_2 a_3 a_s) rfl Try.underlying40 rfl sz40) rfl ?_
  refine wl_mv (.tmp 1) (.int .i64 S) (fun _ => rfl) rfl rfl ?_
  refine wl_call 43 [(.tmp 12), (.tmp 13), (.const (.int .i64 (1)))] _ [rd a_b a_0 a_1 a_2 a_3 a_s, .int .i64 S, .int .i64 (1)] (.tuple #[rd x_b x_0 x_1 x_2 x_3 x_s, .int .i64 (0)]) rfl rfl (fun _ _ => by kernel_rfl) (h1 _) rfl ?_
  intro w2 hq
  replace Q1 := Q1.mo hq
  replace M := M.trans hq
  clear hq
  refine wl_mv (.tmp 14) (.tuple #[rd x_b x_0 x_1 x_2 x_3 x_s, .int .i64 (0)]) (fun _ => rfl) rfl rfl ?_
  refine wl_un (fun v => Instr.extract v 0) (.tmp 11) (.tuple #[rd x_b x_0 x_1 x_2 x_3 x_s, .int .i64 (0)]) (rd x_b x_0 x_1 x_2 x_3 x_s) (fun _ => rfl) rfl (by kernel_rfl) rfl ?_
  refine wl_un (fun v => Instr.extract v 1) (.tmp 11) (.tuple #[rd x_b x_0 x_1 x_2 x_3 x_s, .int .i64 (0)]) (.int .i64 (0)) (fun _ => rfl) rfl (by kernel_rfl) rfl ?_
  refine wl_alloc 40 #[.bool false, .int .u64 0, .int .u64 0, .int .u64 0, .int .u64 0, .int .i64 0] rfl (fun _ => by kernel_rfl) rfl ?_
  intro k2 w3 hk hz hq Q2
  have ne_k1_k2 : k1 ≠ k2 := by have := Q1.lt; omega
  have N_k2 : w.heap.size ≤ k2 := by have := M.size; omega
  replace Q1 := Q1.mo hq
  replace M := M.trans hq
  clear hk hz hq
  refine wl_st 40 (.tmp 5) (.tmp 15) k2 0 (rda x_b x_0 x_1 x_2 x_3 x_s) [.bool false, .int .u64 0, .int .u64 0, .int .u64 0, .int .u64 0, .int .i64 0] (rdl x_b x_0 x_1 x_2 x_3 x_s) Q2 rfl rfl rfl rfl rfl sz40 rfl rfl rfl ?_
  intro w4 hS Qn
  replace Q2 := Qn
  clear Qn
  replace Q1 := hS.other _ _ ne_k1_k2 Q1
  replace M := hS.mo _ N_k2 M
  clear hS
  refine wl_mv (.tmp 16) (.int .i64 (0)) (fun _ => rfl) rfl rfl ?_
  refine w_nil ?_
  refine xn_then ?_
  refine w_seq ?_
  refine w_reg ?_
  refine wl_load 40 (.tmp 2) (pt k1 0) (rd a_b a_0 a_1 a_2 a_3 a_s) rfl rfl (run_row Q1 40 0 6 (rdl a_b a_0 a_1 a_2 a_3 a_s) rfl Try.underlying40 rfl sz40) rfl ?_
  refine wl_mv (.tmp 1) (.int .i64 S) (fun _ => rfl) rfl rfl ?_
  refine wl_call 43 [(.tmp 18), (.tmp 19), (.const (.int .i64 (2)))] _ [rd a_b a_0 a_1 a_2 a_3 a_s, .int .i64 S, .int .i64 (2)] (.tuple #[rd y_b y_0 y_1 y_2 y_3 y_s, .int .i64 (0)]) rfl rfl (fun _ _ => by kernel_rfl) (h2 _) rfl ?_
  intro w5 hq
  replace Q1 := Q1.mo hq
  replace Q2 := Q2.mo hq
  replace M := M.trans hq
  clear hq
  refine wl_mv (.tmp 20) (.tuple #[rd y_b y_0 y_1 y_2 y_3 y_s, .int .i64 (0)]) (fun _ => rfl) rfl rfl ?_
  refine wl_un (fun v => Instr.extract v 0) (.tmp 17) (.tuple #[rd y_b y_0 y_1 y_2 y_3 y_s, .int .i64 (0)]) (rd y_b y_0 y_1 y_2 y_3 y_s) (fun _ => rfl) rfl (by kernel_rfl) rfl ?_
  refine wl_un (fun v => Instr.extract v 1) (.tmp 17) (.tuple #[rd y_b y_0 y_1 y_2 y_3 y_s, .int .i64 (0)]) (.int .i64 (0)) (fun _ => rfl) rfl (by kernel_rfl) rfl ?_
  refine wl_alloc 40 #[.bool false, .int .u64 0, .int .u64 0, .int .u64 0, .int .u64 0, .int .i64 0] rfl (fun _ => by kernel_rfl) rfl ?_
  intro k3 w6 hk hz hq Q3
  have ne_k1_k3 : k1 ≠ k3 := by have := Q1.lt; omega
  have ne_k2_k3 : k2 ≠ k3 := by have := Q2.lt; omega
  have N_k3 : w.heap.size ≤ k3 := by have := M.size; omega
  replace Q1 := Q1.mo hq
  replace Q2 := Q2.mo hq
  replace M := M.trans hq
  clear hk hz hq
  refine wl_st 40 (.tmp 7) (.tmp 21) k3 0 (rda y_b y_0 y_1 y_2 y_3 y_s) [.bool false, .int .u64 0, .int .u64 0, .int .u64 0, .int .u64 0, .int .i64 0] (rdl y_b y_0 y_1 y_2 y_3 y_s) Q3 rfl rfl rfl rfl rfl sz40 rfl rfl rfl ?_
  intro w7 hS Qn
  replace Q3 := Qn
  clear Qn
  replace Q1 := hS.other _ _ ne_k1_k3 Q1
  replace Q2 := hS.other _ _ ne_k2_k3 Q2
  replace M := hS.mo _ N_k3 M
  clear hS
  refine wl_mv (.tmp 22) (.int .i64 (0)) (fun _ => rfl) rfl rfl ?_
  refine w_nil ?_
  refine xn_then ?_
  refine w_seq ?_
  refine w_seq ?_
  refine w_reg ?_
  refine wl_call 28 [] _ [] (.bool true) rfl rfl (fun _ _ => by kernel_rfl) (begun_n _) rfl ?_
  intro w8 hq
  replace Q1 := Q1.mo hq
  replace Q2 := Q2.mo hq
  replace Q3 := Q3.mo hq
  replace M := M.trans hq
  clear hq
  refine wl_un (fun v => Op.unary .not v) (.tmp 23) (.bool true) (.bool false) (fun _ => rfl) rfl (by kernel_rfl) rfl ?_
  refine wl_mv (.tmp 24) (.bool false) (fun _ => rfl) rfl rfl ?_
  refine wl_mv (.tmp 6) (.int .i64 (0)) (fun _ => rfl) rfl rfl ?_
  refine wl_bin (fun x y => do eqGuard .neq 32 (.tmp 26) (.const (.int .i64 (0))) x y; binOp .neq 32 x y) (.tmp 26) (.const (.int .i64 (0))) (.int .i64 (0)) (.int .i64 (0)) (.bool false) (fun _ => rfl) rfl rfl (by kernel_rfl) rfl ?_
  refine wl_pick (.tmp 25) (.const (.bool true)) (.tmp 27) false (.bool false) (fun _ => rfl) rfl rfl rfl ?_
  refine wl_mv (.tmp 28) (.bool false) (fun _ => rfl) rfl rfl ?_
  refine wl_mv (.tmp 8) (.int .i64 (0)) (fun _ => rfl) rfl rfl ?_
  refine wl_bin (fun x y => do eqGuard .neq 32 (.tmp 30) (.const (.int .i64 (0))) x y; binOp .neq 32 x y) (.tmp 30) (.const (.int .i64 (0))) (.int .i64 (0)) (.int .i64 (0)) (.bool false) (fun _ => rfl) rfl rfl (by kernel_rfl) rfl ?_
  refine wl_pick (.tmp 29) (.const (.bool true)) (.tmp 31) false (.bool false) (fun _ => rfl) rfl rfl rfl ?_
  refine w_nil ?_
  refine xn_then ?_
  refine w_condF rfl ?_
  refine w_skip ?_
  refine xn_then ?_
  refine w_seq ?_
  refine w_seq ?_
  refine w_reg ?_
  refine wl_load 40 (.tmp 5) (pt k2 0) (rd x_b x_0 x_1 x_2 x_3 x_s) rfl rfl (run_row Q2 40 0 6 (rdl x_b x_0 x_1 x_2 x_3 x_s) rfl Try.underlying40 rfl sz40) rfl ?_
  refine wl_load 40 (.tmp 7) (pt k3 0) (rd y_b y_0 y_1 y_2 y_3 y_s) rfl rfl (run_row Q3 40 0 6 (rdl y_b y_0 y_1 y_2 y_3 y_s) rfl Try.underlying40 rfl sz40) rfl ?_
  refine wl_bin (fun x y => do eqGuard .eql 40 (.tmp 34) (.tmp 35) x y; binOp .eql 40 x y) (.tmp 34) (.tmp 35) (rd x_b x_0 x_1 x_2 x_3 x_s) (rd y_b y_0 y_1 y_2 y_3 y_s) (.bool false) (fun _ => rfl) rfl rfl (eqd_run hne _ _ _) rfl ?_
  refine w_nil ?_
  refine xn_then ?_
  refine w_condF rfl ?_
  refine w_skip ?_
  refine xn_then ?_
  refine w_seq ?_
  refine w_reg ?_
  refine wl_load 40 (.tmp 2) (pt k1 0) (rd a_b a_0 a_1 a_2 a_3 a_s) rfl rfl (run_row Q1 40 0 6 (rdl a_b a_0 a_1 a_2 a_3 a_s) rfl Try.underlying40 rfl sz40) rfl ?_
  refine wl_load 40 (.tmp 7) (pt k3 0) (rd y_b y_0 y_1 y_2 y_3 y_s) rfl rfl (run_row Q3 40 0 6 (rdl y_b y_0 y_1 y_2 y_3 y_s) rfl Try.underlying40 rfl sz40) rfl ?_
  refine wl_call 37 [(.tmp 38), (.tmp 39)] _ [rd a_b a_0 a_1 a_2 a_3 a_s, rd y_b y_0 y_1 y_2 y_3 y_s] (.tuple #[rd d_b d_0 d_1 d_2 d_3 d_s, .int .i64 (0)]) rfl rfl (fun _ _ => by kernel_rfl) (h3 _) rfl ?_
  intro w9 hq
  replace Q1 := Q1.mo hq
  replace Q2 := Q2.mo hq
  replace Q3 := Q3.mo hq
  replace M := M.trans hq
  clear hq
  refine wl_mv (.tmp 40) (.tuple #[rd d_b d_0 d_1 d_2 d_3 d_s, .int .i64 (0)]) (fun _ => rfl) rfl rfl ?_
  refine wl_un (fun v => Instr.extract v 0) (.tmp 37) (.tuple #[rd d_b d_0 d_1 d_2 d_3 d_s, .int .i64 (0)]) (rd d_b d_0 d_1 d_2 d_3 d_s) (fun _ => rfl) rfl (by kernel_rfl) rfl ?_
  refine wl_un (fun v => Instr.extract v 1) (.tmp 37) (.tuple #[rd d_b d_0 d_1 d_2 d_3 d_s, .int .i64 (0)]) (.int .i64 (0)) (fun _ => rfl) rfl (by kernel_rfl) rfl ?_
  refine wl_alloc 40 #[.bool false, .int .u64 0, .int .u64 0, .int .u64 0, .int .u64 0, .int .i64 0] rfl (fun _ => by kernel_rfl) rfl ?_
  intro k4 w10 hk hz hq Q4
  have ne_k1_k4 : k1 ≠ k4 := by have := Q1.lt; omega
  have ne_k2_k4 : k2 ≠ k4 := by have := Q2.lt; omega
  have ne_k3_k4 : k3 ≠ k4 := by have := Q3.lt; omega
  have N_k4 : w.heap.size ≤ k4 := by have := M.size; omega
  replace Q1 := Q1.mo hq
  replace Q2 := Q2.mo hq
  replace Q3 := Q3.mo hq
  replace M := M.trans hq
  clear hk hz hq
  refine wl_st 40 (.tmp 9) (.tmp 41) k4 0 (rda d_b d_0 d_1 d_2 d_3 d_s) [.bool false, .int .u64 0, .int .u64 0, .int .u64 0, .int .u64 0, .int .i64 0] (rdl d_b d_0 d_1 d_2 d_3 d_s) Q4 rfl rfl rfl rfl rfl sz40 rfl rfl rfl ?_
  intro w11 hS Qn
  replace Q4 := Qn
  clear Qn
  replace Q1 := hS.other _ _ ne_k1_k4 Q1
  replace Q2 := hS.other _ _ ne_k2_k4 Q2
  replace Q3 := hS.other _ _ ne_k3_k4 Q3
  replace M := hS.mo _ N_k4 M
  clear hS
  refine wl_mv (.tmp 42) (.int .i64 (0)) (fun _ => rfl) rfl rfl ?_
  refine w_nil ?_
  refine xn_then ?_
  refine w_seq ?_
  refine w_reg ?_
  refine wl_load 40 (.tmp 5) (pt k2 0) (rd x_b x_0 x_1 x_2 x_3 x_s) rfl rfl (run_row Q2 40 0 6 (rdl x_b x_0 x_1 x_2 x_3 x_s) rfl Try.underlying40 rfl sz40) rfl ?_
  refine wl_load 40 (.tmp 2) (pt k1 0) (rd a_b a_0 a_1 a_2 a_3 a_s) rfl rfl (run_row Q1 40 0 6 (rdl a_b a_0 a_1 a_2 a_3 a_s) rfl Try.underlying40 rfl sz40) rfl ?_
  refine wl_call 37 [(.tmp 44), (.tmp 45)] _ [rd x_b x_0 x_1 x_2 x_3 x_s, rd a_b a_0 a_1 a_2 a_3 a_s] (.tuple #[rd g_b g_0 g_1 g_2 g_3 g_s, .int .i64 (0)]) rfl rfl (fun _ _ => by kernel_rfl) (h4 _) rfl ?_
  intro w12 hq
  replace Q1 := Q1.mo hq
  replace Q2 := Q2.mo hq
  replace Q3 := Q3.mo hq
  replace Q4 := Q4.mo hq
  replace M := M.trans hq
  clear hq
  refine wl_mv (.tmp 46) (.tuple #[rd g_b g_0 g_1 g_2 g_3 g_s, .int .i64 (0)]) (fun _ => rfl) rfl rfl ?_
  refine wl_un (fun v => Instr.extract v 0) (.tmp 43) (.tuple #[rd g_b g_0 g_1 g_2 g_3 g_s, .int .i64 (0)]) (rd g_b g_0 g_1 g_2 g_3 g_s) (fun _ => rfl) rfl (by kernel_rfl) rfl ?_
  refine wl_un (fun v => Instr.extract v 1) (.tmp 43) (.tuple #[rd g_b g_0 g_1 g_2 g_3 g_s, .int .i64 (0)]) (.int .i64 (0)) (fun _ => rfl) rfl (by kernel_rfl) rfl ?_
  refine wl_alloc 40 #[.bool false, .int .u64 0, .int .u64 0, .int .u64 0, .int .u64 0, .int .i64 0] rfl (fun _ => by kernel_rfl) rfl ?_
  intro k5 w13 hk hz hq Q5
  have ne_k1_k5 : k1 ≠ k5 := by have := Q1.lt; omega
  have ne_k2_k5 : k2 ≠ k5 := by have := Q2.lt; omega
  have ne_k3_k5 : k3 ≠ k5 := by have := Q3.lt; omega
  have ne_k4_k5 : k4 ≠ k5 := by have := Q4.lt; omega
  have N_k5 : w.heap.size ≤ k5 := by have := M.size; omega
  replace Q1 := Q1.mo hq
  replace Q2 := Q2.mo hq
  replace Q3 := Q3.mo hq
  replace Q4 := Q4.mo hq
  replace M := M.trans hq
  clear hk hz hq
  refine wl_st 40 (.tmp 10) (.tmp 47) k5 0 (rda g_b g_0 g_1 g_2 g_3 g_s) [.bool false, .int .u64 0, .int .u64 0, .int .u64 0, .int .u64 0, .int .i64 0] (rdl g_b g_0 g_1 g_2 g_3 g_s) Q5 rfl rfl rfl rfl rfl sz40 rfl rfl rfl ?_
  intro w14 hS Qn
  replace Q5 := Qn
  clear Qn
  replace Q1 := hS.other _ _ ne_k1_k5 Q1
  replace Q2 := hS.other _ _ ne_k2_k5 Q2
  replace Q3 := hS.other _ _ ne_k3_k5 Q3
  replace Q4 := hS.other _ _ ne_k4_k5 Q4
  replace M := hS.mo _ N_k5 M
  clear hS
  refine wl_mv (.tmp 48) (.int .i64 (0)) (fun _ => rfl) rfl rfl ?_
  refine w_nil ?_
  refine xn_then ?_
  refine w_seq ?_
  refine w_seq ?_
  refine w_reg ?_
  refine wl_mv (.tmp 6) (.int .i64 (0)) (fun _ => rfl) rfl rfl ?_
  refine wl_bin (fun x y => do eqGuard .eql 32 (.tmp 49) (.const (.int .i64 (7))) x y; binOp .eql 32 x y) (.tmp 49) (.const (.int .i64 (7))) (.int .i64 (0)) (.int .i64 (7)) (.bool false) (fun _ => rfl) rfl rfl (by kernel_rfl) rfl ?_
  refine wl_mv (.tmp 50) (.bool false) (fun _ => rfl) rfl rfl ?_
  refine wl_mv (.tmp 8) (.int .i64 (0)) (fun _ => rfl) rfl rfl ?_
  refine wl_bin (fun x y => do eqGuard .eql 32 (.tmp 52) (.const (.int .i64 (7))) x y; binOp .eql 32 x y) (.tmp 52) (.const (.int .i64 (7))) (.int .i64 (0)) (.int .i64 (7)) (.bool false) (fun _ => rfl) rfl rfl (by kernel_rfl) rfl ?_
  refine wl_pick (.tmp 51) (.const (.bool true)) (.tmp 53) false (.bool false) (fun _ => rfl) rfl rfl rfl ?_
  refine w_nil ?_
  refine xn_then ?_
  refine w_condF rfl ?_
  refine w_skip ?_
  refine xn_then ?_
  refine w_seq ?_
  refine w_reg ?_
  refine wl_mv (.tmp 6) (.int .i64 (0)) (fun _ => rfl) rfl rfl ?_
  refine wl_bin (fun x y => do eqGuard .eql 32 (.tmp 55) (.const (.int .i64 (0))) x y; binOp .eql 32 x y) (.tmp 55) (.const (.int .i64 (0))) (.int .i64 (0)) (.int .i64 (0)) (.bool true) (fun _ => rfl) rfl rfl (by kernel_rfl) rfl ?_
  refine wl_mv (.tmp 56) (.bool true) (fun _ => rfl) rfl rfl ?_
  refine wl_mv (.tmp 8) (.int .i64 (0)) (fun _ => rfl) rfl rfl ?_
  refine wl_bin (fun x y => do eqGuard .eql 32 (.tmp 58) (.const (.int .i64 (0))) x y; binOp .eql 32 x y) (.tmp 58) (.const (.int .i64 (0))) (.int .i64 (0)) (.int .i64 (0)) (.bool true) (fun _ => rfl) rfl rfl (by kernel_rfl) rfl ?_
  refine wl_pick (.tmp 57) (.tmp 59) (.const (.bool false)) true (.bool true) (fun _ => rfl) rfl rfl rfl ?_
  refine wl_mv (.tmp 60) (.bool true) (fun _ => rfl) rfl rfl ?_
  refine wl_load 40 (.tmp 9) (pt k4 0) (rd d_b d_0 d_1 d_2 d_3 d_s) rfl rfl (run_row Q4 40 0 6 (rdl d_b d_0 d_1 d_2 d_3 d_s) rfl Try.underlying40 rfl sz40) rfl ?_
  refine wl_load 40 (.tmp 10) (pt k5 0) (rd g_b g_0 g_1 g_2 g_3 g_s) rfl rfl (run_row Q5 40 0 6 (rdl g_b g_0 g_1 g_2 g_3 g_s) rfl Try.underlying40 rfl sz40) rfl ?_
  refine wl_call 51 [(.tmp 62), (.tmp 63)] _ [rd d_b d_0 d_1 d_2 d_3 d_s, rd g_b g_0 g_1 g_2 g_3 g_s] (.int .i64 (0)) rfl rfl (fun _ _ => by kernel_rfl) (h5 _) rfl ?_
  intro w15 hq
  replace Q1 := Q1.mo hq
  replace Q2 := Q2.mo hq
  replace Q3 := Q3.mo hq
  replace Q4 := Q4.mo hq
  replace Q5 := Q5.mo hq
  replace M := M.trans hq
  clear hq
  refine wl_bin (fun x y => do eqGuard .eql 3 (.tmp 64) (.const (.int .i64 (0))) x y; binOp .eql 3 x y) (.tmp 64) (.const (.int .i64 (0))) (.int .i64 (0)) (.int .i64 (0)) (.bool true) (fun _ => rfl) rfl rfl (by kernel_rfl) rfl ?_
  refine wl_pick (.tmp 61) (.tmp 65) (.const (.bool false)) true (.bool true) (fun _ => rfl) rfl rfl rfl ?_
  refine wl_mv (.tmp 66) (.bool true) (fun _ => rfl) rfl rfl ?_
  refine w_nil ?_
  refine xn_then ?_
  refine w_ret ?_
  exact w_ret1 _ (.bool true) rfl rfl ⟨rfl, M⟩
end Go.Proofs.Ytoiiekmkcpcbgaa
/-
  exciselaw02.DecimalUndoes and DecimalHalves answer true for every number.
-/
namespace Go.Proofs.Ytoiiekmkcpcbgaa
open Go.RowKit
/-- A decimal and an error. -/
def IsD (v : Value) : Prop := ∃ (b : Bool) (n0 n1 n2 n3 s e : Int), v = .tuple #[rd b n0 n1 n2 n3 s, .int .i64 e]
theorem isD_er (c : Int) : IsD (er c) := ⟨_, _, _, _, _, _, _, rfl⟩
theorem isD_ok (v s : Int) : IsD (.tuple #[dz v s, .int .i64 0]) := ⟨_, _, _, _, _, _, _, rfl⟩
theorem isD_fz (v s : Int) : IsD (fz v s) := by
  unfold fz; split
  · exact isD_ok v s
  · exact isD_er 7
theorem cm_self (x : Int) : cm x x = 0 := by unfold cm; simp
theorem addV_comm (u s v t : Int) : addV v t u s = addV u s v t := by unfold addV; rw [Int.max_comm t s, Int.add_comm]
theorem sc_max {s t : Int} (hs : sc s = true) (ht : sc t = true) : sc (max s t) = true := by
  rw [sc_iff] at *; omega
theorem undoes_n (b c : Bool) (n m s t : Int) (w : World) (hn0 : 0 ≤ n) (hn : n < MM) (hm0 : 0 ≤ m) (hm : m < MM) :
    Calls Try.prog 11 #[dc b n s, dc c m t] w fun e w' => e = .returned (.bool true) ∧ Mo w w' := by
  by_cases h : ck b n s = 0 ∧ ck c m t = 0
  · obtain ⟨h1, h2⟩ := h
    obtain ⟨hs, u, rfl, rfl⟩ := dz_of hn0 h1
    obtain ⟨ht, v, rfl, rfl⟩ := dz_of hm0 h2
    have a1 := fun w => add_z u s v t w hn hm hs ht
    have a2 := fun w => add_z v t u s w hm hn ht hs
    rw [addV_comm, Int.max_comm t s] at a2
    have m1 := fun w => mul_z u s v t w hn hm hs ht
    have m2 := fun w => mul_z v t u s w hm hn ht hs
    rw [Int.mul_comm v u, Int.add_comm t s] at m2
    have hM : IsD (if sc (s + t) then fz (u * v) (s + t) else er 21) := by split; exact isD_fz _ _; exact isD_er 21
    obtain ⟨b', p0, p1, p2, p3, p4, g, hM⟩ := hM
    rw [hM] at m1 m2
    by_cases hr : ab (addV u s v t) < MM
    · rw [fz_yes hr] at a1 a2
      have hS := sc_max hs ht
      have s1 := fun w => sub_z (addV u s v t) (max s t) v t w hr hm hS ht
      have e1 : max (max s t) t = max s t := by omega
      have e2 : addV (addV u s v t) (max s t) (-v) t = u * pw (max s t - s) := by
        unfold addV
        rw [e1, Int.sub_self, pw_zero, Int.mul_one, Int.neg_mul]; omega
      rw [e1, e2] at s1
      by_cases hr2 : ab (u * pw (max s t - s)) < MM
      · rw [fz_yes hr2] at s1
        have k1 := fun w => cmp_z (u * pw (max s t - s)) (max s t) u s w hr2 hn hS hs
        have e3 : max (max s t) s = max s t := by omega
        rw [e3, Int.sub_self, pw_zero, Int.mul_one, cm_self] at k1
        exact undoes_ok _ _ _ _ _ _ _ _ _ _ _ _ _ _ _ _ _ _ _ _ _ _ _ _ _ _ _ _ _ _ g w a1 a2 m1 m2 s1 k1
      · rw [fz_no hr2] at s1
        exact undoes_over _ _ _ _ _ _ _ _ _ _ _ _ _ _ _ _ _ _ _ _ _ _ _ _ _ _ _ _ _ _ g w a1 a2 m1 m2 s1
    · rw [fz_no hr] at a1 a2
      exact undoes_err _ _ _ _ _ _ _ _ _ _ _ _ _ _ _ _ _ _ _ _ _ _ _ _ 7 g w a1 a2 m1 m2 rfl
  · have h' : ¬ (ck c m t = 0 ∧ ck b n s = 0) := fun hh => h ⟨hh.2, hh.1⟩
    exact undoes_err _ _ _ _ _ _ _ _ _ _ _ _ _ _ _ _ _ _ _ _ _ _ _ _ 20 20 w (fun w => add_no b c n m s t w hn0 hn hm0 hm h) (fun w => add_no c b m n t s w hm0 hm hn0 hn h') (fun w => dmul_no b c n m s t w hn0 hn hm0 hm h) (fun w => dmul_no c b m n t s w hm0 hm hn0 hn h') rfl
end Go.Proofs.Ytoiiekmkcpcbgaa
