/-
  A part of the proof.
-/
import Derived.Test.YtoiiekmkcpcbgaaR3
/-
  The document's decimals: products, scales, whole ones.
-/
namespace Go.Proofs.Ytoiiekmkcpcbgaa
open Go.RowKit
theorem rmul_no (b c : Bool) (n m s t : Int) (w : World) (hn0 : 0 ≤ n) (hn : n < MM) (hm0 : 0 ≤ m) (hm : m < MM) (h : ¬ (ck b n s = 0 ∧ ck c m t = 0)) :
    Calls Try.prog 40 #[dc b (n) (s), dc c (m) (t)] w fun e w' => e = .returned (er 20) ∧ Mo w w' := by
  refine w_enter 47 Try.func40 Try.ntmps40 rfl rfl ?_
  have M : Mo w w := Mo.refl _
  refine w_seq ?_
  refine w_reg ?_
  refine wl_box 40 (.tmp 0) (dc b (n) (s)) ((dcr b (n) (s))) rfl rfl (fun _ => by kernel_rfl) rfl ?_
  intro k1 w1 hk hz hq Q1
  have N_k1 : w.heap.size ≤ k1 := by have := M.size; omega
  replace M := M.trans hq
  clear hk hz hq
  refine wl_box 40 (.tmp 1) (dc c (m) (t)) ((dcr c (m) (t))) rfl rfl (fun _ => by kernel_rfl) rfl ?_
  intro k2 w2 hk hz hq Q2
  have ne_k1_k2 : k1 ≠ k2 := by have := Q1.lt; omega
  have N_k2 : w.heap.size ≤ k2 := by have := M.size; omega
  replace Q1 := Q1.mo hq
  replace M := M.trans hq
  clear hk hz hq
  refine wl_alloc 40 #[.bool false, .int .u64 0, .int .u64 0, .int .u64 0, .int .u64 0, .int .i64 0] rfl (fun _ => by kernel_rfl) rfl ?_
  intro k3 w3 hk hz hq Q3
  have ne_k1_k3 : k1 ≠ k3 := by have := Q1.lt; omega
  have ne_k2_k3 : k2 ≠ k3 := by have := Q2.lt; omega
  have N_k3 : w.heap.size ≤ k3 := by have := M.size; omega
  replace Q1 := Q1.mo hq
  replace Q2 := Q2.mo hq
  replace M := M.trans hq
  clear hk hz hq
  refine wl_mv (.const (.int .i64 (0))) (.int .i64 (0)) (fun _ => rfl) rfl rfl ?_
  refine w_nil ?_
  refine xn_then ?_
  refine w_seq ?_
  refine w_seq ?_
  refine w_reg ?_
  refine wl_load 40 (.tmp 2) (pt k1 0) (dc b (n) (s)) rfl rfl (run_row Q1 40 0 6 (dcl b (n) (s)) rfl Try.underlying40 rfl sz40) rfl ?_
  refine wl_load 40 (.tmp 3) (pt k2 0) (dc c (m) (t)) rfl rfl (run_row Q2 40 0 6 (dcl c (m) (t)) rfl Try.underlying40 rfl sz40) rfl ?_
  refine wl_call 81 [(.tmp 9), (.tmp 10)] _ [dc b (n) (s), dc c (m) (t)] (.int .i64 (20)) rfl rfl (fun _ _ => by kernel_rfl) (rboth_no b n s c m t _ hn0 hn hm0 hm h) rfl ?_
  intro w4 hq
  replace Q1 := Q1.mo hq
  replace Q2 := Q2.mo hq
  replace Q3 := Q3.mo hq
  replace M := M.trans hq
  clear hq
  refine wl_mv (.tmp 11) (.int .i64 (20)) (fun _ => rfl) rfl rfl ?_
  refine w_nil ?_
  refine xn_then ?_
  refine w_seq ?_
  refine w_reg ?_
  refine wl_mv (.tmp 6) (.int .i64 (20)) (fun _ => rfl) rfl rfl ?_
  refine wl_bin (fun x y => do eqGuard .neq 32 (.tmp 12) (.const (.int .i64 (0))) x y; binOp .neq 32 x y) (.tmp 12) (.const (.int .i64 (0))) (.int .i64 (20)) (.int .i64 (0)) (.bool true) (fun _ => rfl) rfl rfl (by kernel_rfl) rfl ?_
  refine w_nil ?_
  refine xn_then ?_
  refine w_condT rfl ?_
  refine w_seq ?_
  refine w_reg ?_
  refine wl_build 40 [] [] (.agg #[.bool false, .int .u64 0, .int .u64 0, .int .u64 0, .int .u64 0, .int .i64 0]) rfl rfl (by kernel_rfl) rfl ?_
  refine wl_mv (.tmp 6) (.int .i64 (20)) (fun _ => rfl) rfl rfl ?_
  refine wl_st 40 (.tmp 4) (.tmp 14) k3 0 #[.bool false, .int .u64 0, .int .u64 0, .int .u64 0, .int .u64 0, .int .i64 0] [.bool false, .int .u64 0, .int .u64 0, .int .u64 0, .int .u64 0, .int .i64 0] [.bool false, .int .u64 0, .int .u64 0, .int .u64 0, .int .u64 0, .int .i64 0] Q3 rfl rfl rfl rfl rfl sz40 rfl rfl rfl ?_
  intro w5 hS Qn
  replace Q3 := Qn
  clear Qn
  replace Q1 := hS.other _ _ ne_k1_k3 Q1
  replace Q2 := hS.other _ _ ne_k2_k3 Q2
  replace M := hS.mo _ N_k3 M
  clear hS
  refine wl_mv (.tmp 15) (.int .i64 (20)) (fun _ => rfl) rfl rfl ?_
  refine w_nil ?_
  refine xn_then ?_
  refine w_ret ?_
  refine xr_then ?_
  exact w_ret2 _ _ (.agg #[.bool false, .int .u64 0, .int .u64 0, .int .u64 0, .int .u64 0, .int .i64 0]) (.int .i64 (20)) rfl ⟨k3, rfl, (run_row Q3 40 0 6 [.bool false, .int .u64 0, .int .u64 0, .int .u64 0, .int .u64 0, .int .i64 0] rfl Try.underlying40 rfl sz40)⟩ rfl ⟨rfl, M⟩
theorem rmulTo_no (b c : Bool) (n m s t S p : Int) (w : World) (hn0 : 0 ≤ n) (hn : n < MM) (hm0 : 0 ≤ m) (hm : m < MM) (h : ¬ (ck b n s = 0 ∧ ck c m t = 0)) :
    Calls Try.prog 42 #[dc b (n) (s), dc c (m) (t), .int .i64 S, .int .i64 p] w fun e w' => e = .returned (er 20) ∧ Mo w w' := by
  refine w_enter 54 Try.func42 Try.ntmps42 rfl rfl ?_
  have M : Mo w w := Mo.refl _
  refine w_seq ?_
  refine w_reg ?_
  refine wl_box 40 (.tmp 0) (dc b (n) (s)) ((dcr b (n) (s))) rfl rfl (fun _ => by kernel_rfl) rfl ?_
  intro k1 w1 hk hz hq Q1
  have N_k1 : w.heap.size ≤ k1 := by have := M.size; omega
  replace M := M.trans hq
  clear hk hz hq
  refine wl_box 40 (.tmp 1) (dc c (m) (t)) ((dcr c (m) (t))) rfl rfl (fun _ => by kernel_rfl) rfl ?_
  intro k2 w2 hk hz hq Q2
  have ne_k1_k2 : k1 ≠ k2 := by have := Q1.lt; omega
  have N_k2 : w.heap.size ≤ k2 := by have := M.size; omega
  replace Q1 := Q1.mo hq
  replace M := M.trans hq
  clear hk hz hq
  refine wl_alloc 40 #[.bool false, .int .u64 0, .int .u64 0, .int .u64 0, .int .u64 0, .int .i64 0] rfl (fun _ => by kernel_rfl) rfl ?_
  intro k3 w3 hk hz hq Q3
  have ne_k1_k3 : k1 ≠ k3 := by have := Q1.lt; omega
  have ne_k2_k3 : k2 ≠ k3 := by have := Q2.lt; omega
  have N_k3 : w.heap.size ≤ k3 := by have := M.size; omega
  replace Q1 := Q1.mo hq
  replace Q2 := Q2.mo hq
  replace M := M.trans hq
  clear hk hz hq
  refine wl_mv (.const (.int .i64 (0))) (.int .i64 (0)) (fun _ => rfl) rfl rfl ?_
  refine w_nil ?_
  refine xn_then ?_
  refine w_seq ?_
  refine w_seq ?_
  refine w_reg ?_
  refine wl_load 40 (.tmp 4) (pt k1 0) (dc b (n) (s)) rfl rfl (run_row Q1 40 0 6 (dcl b (n) (s)) rfl Try.underlying40 rfl sz40) rfl ?_
  refine wl_load 40 (.tmp 5) (pt k2 0) (dc c (m) (t)) rfl rfl (run_row Q2 40 0 6 (dcl c (m) (t)) rfl Try.underlying40 rfl sz40) rfl ?_
  refine wl_call 81 [(.tmp 14), (.tmp 15)] _ [dc b (n) (s), dc c (m) (t)] (.int .i64 (20)) rfl rfl (fun _ _ => by kernel_rfl) (rboth_no b n s c m t _ hn0 hn hm0 hm h) rfl ?_
  intro w4 hq
  replace Q1 := Q1.mo hq
  replace Q2 := Q2.mo hq
  replace Q3 := Q3.mo hq
  replace M := M.trans hq
  clear hq
  refine wl_mv (.tmp 16) (.int .i64 (20)) (fun _ => rfl) rfl rfl ?_
  refine w_nil ?_
  refine xn_then ?_
  refine w_seq ?_
  refine w_reg ?_
  refine wl_mv (.tmp 10) (.int .i64 (20)) (fun _ => rfl) rfl rfl ?_
  refine wl_bin (fun x y => do eqGuard .neq 32 (.tmp 17) (.const (.int .i64 (0))) x y; binOp .neq 32 x y) (.tmp 17) (.const (.int .i64 (0))) (.int .i64 (20)) (.int .i64 (0)) (.bool true) (fun _ => rfl) rfl rfl (by kernel_rfl) rfl ?_
  refine w_nil ?_
  refine xn_then ?_
  refine w_condT rfl ?_
  refine w_seq ?_
  refine w_reg ?_
  refine wl_build 40 [] [] (.agg #[.bool false, .int .u64 0, .int .u64 0, .int .u64 0, .int .u64 0, .int .i64 0]) rfl rfl (by kernel_rfl) rfl ?_
  refine wl_mv (.tmp 10) (.int .i64 (20)) (fun _ => rfl) rfl rfl ?_
  refine wl_st 40 (.tmp 8) (.tmp 19) k3 0 #[.bool false, .int .u64 0, .int .u64 0, .int .u64 0, .int .u64 0, .int .i64 0] [.bool false, .int .u64 0, .int .u64 0, .int .u64 0, .int .u64 0, .int .i64 0] [.bool false, .int .u64 0, .int .u64 0, .int .u64 0, .int .u64 0, .int .i64 0] Q3 rfl rfl rfl rfl rfl sz40 rfl rfl rfl ?_
  intro w5 hS Qn
  replace Q3 := Qn
  clear Qn
  replace Q1 := hS.other _ _ ne_k1_k3 Q1
  replace Q2 := hS.other _ _ ne_k2_k3 Q2
  replace M := hS.mo _ N_k3 M
  clear hS
  refine wl_mv (.tmp 20) (.int .i64 (20)) (fun _ => rfl) rfl rfl ?_
  refine w_nil ?_
  refine xn_then ?_
  refine w_ret ?_
  refine xr_then ?_
  exact w_ret2 _ _ (.agg #[.bool false, .int .u64 0, .int .u64 0, .int .u64 0, .int .u64 0, .int .i64 0]) (.int .i64 (20)) rfl ⟨k3, rfl, (run_row Q3 40 0 6 [.bool false, .int .u64 0, .int .u64 0, .int .u64 0, .int .u64 0, .int .i64 0] rfl Try.underlying40 rfl sz40)⟩ rfl ⟨rfl, M⟩
theorem rresc_no (b : Bool) (n s S p : Int) (w : World) (hn0 : 0 ≤ n) (hn : n < MM) (h : ck b n s ≠ 0) :
    Calls Try.prog 44 #[dc b (n) (s), .int .i64 S, .int .i64 p] w fun e w' => e = .returned (er 20) ∧ Mo w w' := by
  refine w_enter 35 Try.func44 Try.ntmps44 rfl rfl ?_
  have M : Mo w w := Mo.refl _
  refine w_seq ?_
  refine w_reg ?_
  refine wl_box 40 (.tmp 0) (dc b (n) (s)) ((dcr b (n) (s))) rfl rfl (fun _ => by kernel_rfl) rfl ?_
  intro k1 w1 hk hz hq Q1
  have N_k1 : w.heap.size ≤ k1 := by have := M.size; omega
  replace M := M.trans hq
  clear hk hz hq
  refine wl_alloc 40 #[.bool false, .int .u64 0, .int .u64 0, .int .u64 0, .int .u64 0, .int .i64 0] rfl (fun _ => by kernel_rfl) rfl ?_
  intro k2 w2 hk hz hq Q2
  have ne_k1_k2 : k1 ≠ k2 := by have := Q1.lt; omega
  have N_k2 : w.heap.size ≤ k2 := by have := M.size; omega
  replace Q1 := Q1.mo hq
  replace M := M.trans hq
  clear hk hz hq
  refine wl_mv (.const (.int .i64 (0))) (.int .i64 (0)) (fun _ => rfl) rfl rfl ?_
  refine w_nil ?_
  refine xn_then ?_
  refine w_seq ?_
  refine w_seq ?_
  refine w_reg ?_
  refine wl_load 40 (.tmp 3) (pt k1 0) (dc b (n) (s)) rfl rfl (run_row Q1 40 0 6 (dcl b (n) (s)) rfl Try.underlying40 rfl sz40) rfl ?_
  refine wl_call 30 [(.tmp 10)] _ [dc b (n) (s)] (.int .i64 (20)) rfl rfl (fun _ _ => by kernel_rfl) (rcheck_no b n s _ hn0 hn h) rfl ?_
  intro w3 hq
  replace Q1 := Q1.mo hq
  replace Q2 := Q2.mo hq
  replace M := M.trans hq
  clear hq
  refine wl_mv (.tmp 11) (.int .i64 (20)) (fun _ => rfl) rfl rfl ?_
  refine w_nil ?_
  refine xn_then ?_
  refine w_seq ?_
  refine w_reg ?_
  refine wl_mv (.tmp 8) (.int .i64 (20)) (fun _ => rfl) rfl rfl ?_
  refine wl_bin (fun x y => do eqGuard .neq 32 (.tmp 12) (.const (.int .i64 (0))) x y; binOp .neq 32 x y) (.tmp 12) (.const (.int .i64 (0))) (.int .i64 (20)) (.int .i64 (0)) (.bool true) (fun _ => rfl) rfl rfl (by kernel_rfl) rfl ?_
  refine w_nil ?_
  refine xn_then ?_
  refine w_condT rfl ?_
  refine w_seq ?_
  refine w_reg ?_
  refine wl_build 40 [] [] (.agg #[.bool false, .int .u64 0, .int .u64 0, .int .u64 0, .int .u64 0, .int .i64 0]) rfl rfl (by kernel_rfl) rfl ?_
  refine wl_mv (.tmp 8) (.int .i64 (20)) (fun _ => rfl) rfl rfl ?_
  refine wl_st 40 (.tmp 6) (.tmp 14) k2 0 #[.bool false, .int .u64 0, .int .u64 0, .int .u64 0, .int .u64 0, .int .i64 0] [.bool false, .int .u64 0, .int .u64 0, .int .u64 0, .int .u64 0, .int .i64 0] [.bool false, .int .u64 0, .int .u64 0, .int .u64 0, .int .u64 0, .int .i64 0] Q2 rfl rfl rfl rfl rfl sz40 rfl rfl rfl ?_
  intro w4 hS Qn
  replace Q2 := Qn
  clear Qn
  replace Q1 := hS.other _ _ ne_k1_k2 Q1
  replace M := hS.mo _ N_k2 M
  clear hS
  refine wl_mv (.tmp 15) (.int .i64 (20)) (fun _ => rfl) rfl rfl ?_
  refine w_nil ?_
  refine xn_then ?_
  refine w_ret ?_
  refine xr_then ?_
  exact w_ret2 _ _ (.agg #[.bool false, .int .u64 0, .int .u64 0, .int .u64 0, .int .u64 0, .int .i64 0]) (.int .i64 (20)) rfl ⟨k2, rfl, (run_row Q2 40 0 6 [.bool false, .int .u64 0, .int .u64 0, .int .u64 0, .int .u64 0, .int .i64 0] rfl Try.underlying40 rfl sz40)⟩ rfl ⟨rfl, M⟩
theorem rmul_sc (b c : Bool) (n m s t : Int) (w : World) (hn0 : 0 ≤ n) (hn : n < MM) (hm0 : 0 ≤ m) (hm : m < MM) (h1 : ck b n s = 0) (h2 : ck c m t = 0) (hb1 : 0 ≤ s ∧ s ≤ 18) (hb2 : 0 ≤ t ∧ t ≤ 18) (hg : decide (s + t > 18) = true) :
    Calls Try.prog 40 #[dc b n s, dc c m t] w fun e' w' => e' = .returned (er 21) ∧ Mo w w' := by
  refine w_enter 47 Try.func40 Try.ntmps40 rfl rfl ?_
  have M : Mo w w := Mo.refl _
  refine w_seq ?_
  refine w_reg ?_
  refine wl_box 40 (.tmp 0) (dc b (n) (s)) ((dcr b (n) (s))) rfl rfl (fun _ => by kernel_rfl) rfl ?_
  intro k1 w1 hk hz hq Q1
  have N_k1 : w.heap.size ≤ k1 := by have := M.size; omega
  replace M := M.trans hq
  clear hk hz hq
  refine wl_box 40 (.tmp 1) (dc c (m) (t)) ((dcr c (m) (t))) rfl rfl (fun _ => by kernel_rfl) rfl ?_
  intro k2 w2 hk hz hq Q2
  have ne_k1_k2 : k1 ≠ k2 := by have := Q1.lt; omega
  have N_k2 : w.heap.size ≤ k2 := by have := M.size; omega
  replace Q1 := Q1.mo hq
  replace M := M.trans hq
  clear hk hz hq
  refine wl_alloc 40 #[.bool false, .int .u64 0, .int .u64 0, .int .u64 0, .int .u64 0, .int .i64 0] rfl (fun _ => by kernel_rfl) rfl ?_
  intro k3 w3 hk hz hq Q3
  have ne_k1_k3 : k1 ≠ k3 := by have := Q1.lt; omega
  have ne_k2_k3 : k2 ≠ k3 := by have := Q2.lt; omega
  have N_k3 : w.heap.size ≤ k3 := by have := M.size; omega
  replace Q1 := Q1.mo hq
  replace Q2 := Q2.mo hq
  replace M := M.trans hq
  clear hk hz hq
  refine wl_mv (.const (.int .i64 (0))) (.int .i64 (0)) (fun _ => rfl) rfl rfl ?_
  refine w_nil ?_
  refine xn_then ?_
  refine w_seq ?_
  refine w_seq ?_
  refine w_reg ?_
  refine wl_load 40 (.tmp 2) (pt k1 0) (dc b (n) (s)) rfl rfl (run_row Q1 40 0 6 (dcl b (n) (s)) rfl Try.underlying40 rfl sz40) rfl ?_
  refine wl_load 40 (.tmp 3) (pt k2 0) (dc c (m) (t)) rfl rfl (run_row Q2 40 0 6 (dcl c (m) (t)) rfl Try.underlying40 rfl sz40) rfl ?_
  refine wl_call 81 [(.tmp 9), (.tmp 10)] _ [dc b (n) (s), dc c (m) (t)] (.int .i64 (0)) rfl rfl (fun _ _ => by kernel_rfl) (rboth_ok b n s c m t _ hn0 hn hm0 hm h1 h2) rfl ?_
  intro w4 hq
  replace Q1 := Q1.mo hq
  replace Q2 := Q2.mo hq
  replace Q3 := Q3.mo hq
  replace M := M.trans hq
  clear hq
  refine wl_mv (.tmp 11) (.int .i64 (0)) (fun _ => rfl) rfl rfl ?_
  refine w_nil ?_
  refine xn_then ?_
  refine w_seq ?_
  refine w_reg ?_
  refine wl_mv (.tmp 6) (.int .i64 (0)) (fun _ => rfl) rfl rfl ?_
  refine wl_bin (fun x y => do eqGuard .neq 32 (.tmp 12) (.const (.int .i64 (0))) x y; binOp .neq 32 x y) (.tmp 12) (.const (.int .i64 (0))) (.int .i64 (0)) (.int .i64 (0)) (.bool false) (fun _ => rfl) rfl rfl (by kernel_rfl) rfl ?_
  refine w_nil ?_
  refine xn_then ?_
  refine w_condF rfl ?_
  refine w_skip ?_
  refine xn_then ?_
  refine w_seq ?_
  refine w_seq ?_
  refine w_reg ?_
  refine wl_un (fun v => Instr.fieldAt 40 v 2) (.tmp 2) (pt k1 0) (pt k1 5) (fun _ => rfl) rfl (by kernel_rfl) rfl ?_
  refine wl_load 3 (.tmp 16) (pt k1 5) (.int .i64 (s)) rfl rfl (run_one Q1 3 5 rfl Try.underlying3 rfl) rfl ?_
  refine wl_un (fun v => Instr.fieldAt 40 v 2) (.tmp 3) (pt k2 0) (pt k2 5) (fun _ => rfl) rfl (by kernel_rfl) rfl ?_
  refine wl_load 3 (.tmp 18) (pt k2 5) (.int .i64 (t)) rfl rfl (run_one Q2 3 5 rfl Try.underlying3 rfl) rfl ?_
  refine wl_bin (fun x y => do eqGuard .add 3 (.tmp 17) (.tmp 19) x y; binOp .add 3 x y) (.tmp 17) (.tmp 19) (.int .i64 (s)) (.int .i64 (t)) (.int .i64 (s + t)) (fun _ => rfl) rfl rfl (add3_run rfl (by omega) (by omega) _ _ _) rfl ?_
  refine wl_bin (fun x y => do eqGuard .gtr 3 (.tmp 20) (.const (.int .i64 (18))) x y; binOp .gtr 3 x y) (.tmp 20) (.const (.int .i64 (18))) (.int .i64 (s + t)) (.int .i64 (18)) (.bool true) (fun _ => rfl) rfl rfl (gti3_run hg _ _ _) rfl ?_
  refine w_nil ?_
  refine xn_then ?_
  refine w_condT rfl ?_
  refine w_seq ?_
  refine w_reg ?_
  refine wl_build 40 [] [] (.agg #[.bool false, .int .u64 0, .int .u64 0, .int .u64 0, .int .u64 0, .int .i64 0]) rfl rfl (by kernel_rfl) rfl ?_
  refine wl_st 40 (.tmp 4) (.tmp 22) k3 0 #[.bool false, .int .u64 0, .int .u64 0, .int .u64 0, .int .u64 0, .int .i64 0] [.bool false, .int .u64 0, .int .u64 0, .int .u64 0, .int .u64 0, .int .i64 0] [.bool false, .int .u64 0, .int .u64 0, .int .u64 0, .int .u64 0, .int .i64 0] Q3 rfl rfl rfl rfl rfl sz40 rfl rfl rfl ?_
  intro w5 hS Qn
  replace Q3 := Qn
  clear Qn
  replace Q1 := hS.other _ _ ne_k1_k3 Q1
  replace Q2 := hS.other _ _ ne_k2_k3 Q2
  replace M := hS.mo _ N_k3 M
  clear hS
  refine wl_mv (.const (.int .i64 (21))) (.int .i64 (21)) (fun _ => rfl) rfl rfl ?_
  refine w_nil ?_
  refine xn_then ?_
  refine w_ret ?_
  refine xr_then ?_
  exact w_ret2 _ _ (.agg #[.bool false, .int .u64 0, .int .u64 0, .int .u64 0, .int .u64 0, .int .i64 0]) (.int .i64 (21)) rfl ⟨k3, rfl, (run_row Q3 40 0 6 [.bool false, .int .u64 0, .int .u64 0, .int .u64 0, .int .u64 0, .int .i64 0] rfl Try.underlying40 rfl sz40)⟩ rfl ⟨rfl, M⟩
theorem rmul_w (b c : Bool) (n m s t : Int) (d0 d1 d2 d3 d4 d5 : Value) (e : Int) (w : World) (hn0 : 0 ≤ n) (hn : n < MM) (hm0 : 0 ≤ m) (hm : m < MM) (h1 : ck b n s = 0) (h2 : ck c m t = 0) (hb1 : 0 ≤ s ∧ s ≤ 18) (hb2 : 0 ≤ t ∧ t ≤ 18) (hg : decide (s + t > 18) = false) (hd : [d0, d1, d2, d3, d4, d5].all (·.oneCell') = true) (hat : ∀ w, Calls Try.prog 83 #[.bool (b != c), dw (n * m), .int .i64 (s + t)] w fun e' w' => e' = .returned (.tuple #[.agg #[d0, d1, d2, d3, d4, d5], .int .i64 e]) ∧ Mo w w') :
    Calls Try.prog 40 #[dc b n s, dc c m t] w fun e' w' => e' = .returned (.tuple #[.agg #[d0, d1, d2, d3, d4, d5], .int .i64 e]) ∧ Mo w w' := by
  refine w_enter 47 Try.func40 Try.ntmps40 rfl rfl ?_
  have M : Mo w w := Mo.refl _
  refine w_seq ?_
  refine w_reg ?_
  refine wl_box 40 (.tmp 0) (dc b (n) (s)) ((dcr b (n) (s))) rfl rfl (fun _ => by kernel_rfl) rfl ?_
  intro k1 w1 hk hz hq Q1
  have N_k1 : w.heap.size ≤ k1 := by have := M.size; omega
  replace M := M.trans hq
  clear hk hz hq
  refine wl_box 40 (.tmp 1) (dc c (m) (t)) ((dcr c (m) (t))) rfl rfl (fun _ => by kernel_rfl) rfl ?_
  intro k2 w2 hk hz hq Q2
  have ne_k1_k2 : k1 ≠ k2 := by have := Q1.lt; omega
  have N_k2 : w.heap.size ≤ k2 := by have := M.size; omega
  replace Q1 := Q1.mo hq
  replace M := M.trans hq
  clear hk hz hq
  refine wl_alloc 40 #[.bool false, .int .u64 0, .int .u64 0, .int .u64 0, .int .u64 0, .int .i64 0] rfl (fun _ => by kernel_rfl) rfl ?_
  intro k3 w3 hk hz hq Q3
  have ne_k1_k3 : k1 ≠ k3 := by have := Q1.lt; omega
  have ne_k2_k3 : k2 ≠ k3 := by have := Q2.lt; omega
  have N_k3 : w.heap.size ≤ k3 := by have := M.size; omega
  replace Q1 := Q1.mo hq
  replace Q2 := Q2.mo hq
  replace M := M.trans hq
  clear hk hz hq
  refine wl_mv (.const (.int .i64 (0))) (.int .i64 (0)) (fun _ => rfl) rfl rfl ?_
  refine w_nil ?_
  refine xn_then ?_
  refine w_seq ?_
  refine w_seq ?_
  refine w_reg ?_
  refine wl_load 40 (.tmp 2) (pt k1 0) (dc b (n) (s)) rfl rfl (run_row Q1 40 0 6 (dcl b (n) (s)) rfl Try.underlying40 rfl sz40) rfl ?_
  refine wl_load 40 (.tmp 3) (pt k2 0) (dc c (m) (t)) rfl rfl (run_row Q2 40 0 6 (dcl c (m) (t)) rfl Try.underlying40 rfl sz40) rfl ?_
  refine wl_call 81 [(.tmp 9), (.tmp 10)] _ [dc b (n) (s), dc c (m) (t)] (.int .i64 (0)) rfl rfl (fun _ _ => by kernel_rfl) (rboth_ok b n s c m t _ hn0 hn hm0 hm h1 h2) rfl ?_
  intro w4 hq
  replace Q1 := Q1.mo hq
  replace Q2 := Q2.mo hq
  replace Q3 := Q3.mo hq
  replace M := M.trans hq
  clear hq
  refine wl_mv (.tmp 11) (.int .i64 (0)) (fun _ => rfl) rfl rfl ?_
  refine w_nil ?_
  refine xn_then ?_
  refine w_seq ?_
  refine w_reg ?_
  refine wl_mv (.tmp 6) (.int .i64 (0)) (fun _ => rfl) rfl rfl ?_
  refine wl_bin (fun x y => do eqGuard .neq 32 (.tmp 12) (.const (.int .i64 (0))) x y; binOp .neq 32 x y) (.tmp 12) (.const (.int .i64 (0))) (.int .i64 (0)) (.int .i64 (0)) (.bool false) (fun _ => rfl) rfl rfl (by kernel_rfl) rfl ?_
  refine w_nil ?_
  refine xn_then ?_
  refine w_condF rfl ?_
  refine w_skip ?_
  refine xn_then ?_
  refine w_seq ?_
  refine w_seq ?_
  refine w_reg ?_
  refine wl_un (fun v => Instr.fieldAt 40 v 2) (.tmp 2) (pt k1 0) (pt k1 5) (fun _ => rfl) rfl (by kernel_rfl) rfl ?_
  refine wl_load 3 (.tmp 16) (pt k1 5) (.int .i64 (s)) rfl rfl (run_one Q1 3 5 rfl Try.underlying3 rfl) rfl ?_
  refine wl_un (fun v => Instr.fieldAt 40 v 2) (.tmp 3) (pt k2 0) (pt k2 5) (fun _ => rfl) rfl (by kernel_rfl) rfl ?_
  refine wl_load 3 (.tmp 18) (pt k2 5) (.int .i64 (t)) rfl rfl (run_one Q2 3 5 rfl Try.underlying3 rfl) rfl ?_
  refine wl_bin (fun x y => do eqGuard .add 3 (.tmp 17) (.tmp 19) x y; binOp .add 3 x y) (.tmp 17) (.tmp 19) (.int .i64 (s)) (.int .i64 (t)) (.int .i64 (s + t)) (fun _ => rfl) rfl rfl (add3_run rfl (by omega) (by omega) _ _ _) rfl ?_
  refine wl_bin (fun x y => do eqGuard .gtr 3 (.tmp 20) (.const (.int .i64 (18))) x y; binOp .gtr 3 x y) (.tmp 20) (.const (.int .i64 (18))) (.int .i64 (s + t)) (.int .i64 (18)) (.bool false) (fun _ => rfl) rfl rfl (gti3_run hg _ _ _) rfl ?_
  refine w_nil ?_
  refine xn_then ?_
  refine w_condF rfl ?_
  refine w_skip ?_
  refine xn_then ?_
  refine w_seq ?_
  refine w_reg ?_
  refine wl_un (fun v => Instr.fieldAt 40 v 1) (.tmp 2) (pt k1 0) (pt k1 1) (fun _ => rfl) rfl (by kernel_rfl) rfl ?_
  refine wl_load 24 (.tmp 24) (pt k1 1) (.agg #[.int .u64 (l0 (n)), .int .u64 (l1 (n)), .int .u64 (l2 (n)), .int .u64 (l3 (n))]) rfl rfl (run_row Q1 24 1 4 [.int .u64 (l0 (n)), .int .u64 (l1 (n)), .int .u64 (l2 (n)), .int .u64 (l3 (n))] rfl Try.underlying24 rfl sz24) rfl ?_
  refine wl_un (fun v => Instr.fieldAt 40 v 1) (.tmp 3) (pt k2 0) (pt k2 1) (fun _ => rfl) rfl (by kernel_rfl) rfl ?_
  refine wl_load 24 (.tmp 26) (pt k2 1) (.agg #[.int .u64 (l0 (m)), .int .u64 (l1 (m)), .int .u64 (l2 (m)), .int .u64 (l3 (m))]) rfl rfl (run_row Q2 24 1 4 [.int .u64 (l0 (m)), .int .u64 (l1 (m)), .int .u64 (l2 (m)), .int .u64 (l3 (m))] rfl Try.underlying24 rfl sz24) rfl ?_
  refine wl_call 16 [(.tmp 25), (.tmp 27)] _ [.agg #[.int .u64 (l0 (n)), .int .u64 (l1 (n)), .int .u64 (l2 (n)), .int .u64 (l3 (n))], .agg #[.int .u64 (l0 (m)), .int .u64 (l1 (m)), .int .u64 (l2 (m)), .int .u64 (l3 (m))]] (.tuple #[nv (n * m / MM), nv (n * m)]) rfl rfl (fun _ _ => by kernel_rfl) (rmul_n n m _ hn0 hn hm0 hm) rfl ?_
  intro w5 hq
  replace Q1 := Q1.mo hq
  replace Q2 := Q2.mo hq
  replace Q3 := Q3.mo hq
  replace M := M.trans hq
  clear hq
  refine wl_mv (.tmp 28) (.tuple #[nv (n * m / MM), nv (n * m)]) (fun _ => rfl) rfl rfl ?_
  refine wl_un (fun v => Instr.extract v 0) (.tmp 23) (.tuple #[nv (n * m / MM), nv (n * m)]) (nv (n * m / MM)) (fun _ => rfl) rfl (by kernel_rfl) rfl ?_
  refine wl_un (fun v => Instr.extract v 1) (.tmp 23) (.tuple #[nv (n * m / MM), nv (n * m)]) (nv (n * m)) (fun _ => rfl) rfl (by kernel_rfl) rfl ?_
  refine wl_alloc 24 #[.int .u64 0, .int .u64 0, .int .u64 0, .int .u64 0] rfl (fun _ => by kernel_rfl) rfl ?_
  intro k4 w6 hk hz hq Q4
  have ne_k1_k4 : k1 ≠ k4 := by have := Q1.lt; omega
  have ne_k2_k4 : k2 ≠ k4 := by have := Q2.lt; omega
  have ne_k3_k4 : k3 ≠ k4 := by have := Q3.lt; omega
  have N_k4 : w.heap.size ≤ k4 := by have := M.size; omega
  replace Q1 := Q1.mo hq
  replace Q2 := Q2.mo hq
  replace Q3 := Q3.mo hq
  replace M := M.trans hq
  clear hk hz hq
  refine wl_alloc 24 #[.int .u64 0, .int .u64 0, .int .u64 0, .int .u64 0] rfl (fun _ => by kernel_rfl) rfl ?_
  intro k5 w7 hk hz hq Q5
  have ne_k1_k5 : k1 ≠ k5 := by have := Q1.lt; omega
  have ne_k2_k5 : k2 ≠ k5 := by have := Q2.lt; omega
  have ne_k3_k5 : k3 ≠ k5 := by have := Q3.lt; omega
  have ne_k4_k5 : k4 ≠ k5 := by have := Q4.lt; omega
  have N_k5 : w.heap.size ≤ k5 := by have := M.size; omega
  replace Q1 := Q1.mo hq
  replace Q2 := Q2.mo hq
  replace Q3 := Q3.mo hq
  replace Q4 := Q4.mo hq
  replace M := M.trans hq
  clear hk hz hq
  refine wl_st 24 (.tmp 7) (.tmp 29) k4 0 (nvar (n * m / MM)) [.int .u64 0, .int .u64 0, .int .u64 0, .int .u64 0] (nvli (n * m / MM)) Q4 rfl rfl rfl rfl rfl sz24 rfl rfl rfl ?_
  intro w8 hS Qn
  replace Q4 := Qn
  clear Qn
  replace Q1 := hS.other _ _ ne_k1_k4 Q1
  replace Q2 := hS.other _ _ ne_k2_k4 Q2
  replace Q3 := hS.other _ _ ne_k3_k4 Q3
  replace Q5 := hS.other _ _ ne_k4_k5.symm Q5
  replace M := hS.mo _ N_k4 M
  clear hS
  refine wl_st 24 (.tmp 8) (.tmp 30) k5 0 (nvar (n * m)) [.int .u64 0, .int .u64 0, .int .u64 0, .int .u64 0] (nvli (n * m)) Q5 rfl rfl rfl rfl rfl sz24 rfl rfl rfl ?_
  intro w9 hS Qn
  replace Q5 := Qn
  clear Qn
  replace Q1 := hS.other _ _ ne_k1_k5 Q1
  replace Q2 := hS.other _ _ ne_k2_k5 Q2
  replace Q3 := hS.other _ _ ne_k3_k5 Q3
  replace Q4 := hS.other _ _ ne_k4_k5 Q4
  replace M := hS.mo _ N_k5 M
  clear hS
  refine w_nil ?_
  refine xn_then ?_
  refine w_seq ?_
  refine w_reg ?_
  refine wl_un (fun v => Instr.fieldAt 40 v 0) (.tmp 2) (pt k1 0) (pt k1 0) (fun _ => rfl) rfl (by kernel_rfl) rfl ?_
  refine wl_load 4 (.tmp 31) (pt k1 0) (.bool b) rfl rfl (run_one Q1 4 0 rfl Try.underlying4 rfl) rfl ?_
  refine wl_un (fun v => Instr.fieldAt 40 v 0) (.tmp 3) (pt k2 0) (pt k2 0) (fun _ => rfl) rfl (by kernel_rfl) rfl ?_
  refine wl_load 4 (.tmp 33) (pt k2 0) (.bool c) rfl rfl (run_one Q2 4 0 rfl Try.underlying4 rfl) rfl ?_
  refine wl_bin (fun x y => do eqGuard .neq 4 (.tmp 32) (.tmp 34) x y; binOp .neq 4 x y) (.tmp 32) (.tmp 34) (.bool b) (.bool c) (.bool (b != c)) (fun _ => rfl) rfl rfl (neb_run rfl _ _ _) rfl ?_
  refine wl_load 24 (.tmp 7) (pt k4 0) (nv (n * m / MM)) rfl rfl (run_row Q4 24 0 4 (nvli (n * m / MM)) rfl Try.underlying24 rfl sz24) rfl ?_
  refine wl_load 24 (.tmp 8) (pt k5 0) (nv (n * m)) rfl rfl (run_row Q5 24 0 4 (nvli (n * m)) rfl Try.underlying24 rfl sz24) rfl ?_
  refine wl_build 87 [(0, (.tmp 36)), (1, (.tmp 37))] [(0, nv (n * m / MM)), (1, nv (n * m))] (.agg #[.int .u64 (l0 (n * m / MM)), .int .u64 (l1 (n * m / MM)), .int .u64 (l2 (n * m / MM)), .int .u64 (l3 (n * m / MM)), .int .u64 (l0 (n * m)), .int .u64 (l1 (n * m)), .int .u64 (l2 (n * m)), .int .u64 (l3 (n * m))]) rfl rfl (by kernel_rfl) rfl ?_
  refine wl_un (fun v => Instr.fieldAt 40 v 2) (.tmp 2) (pt k1 0) (pt k1 5) (fun _ => rfl) rfl (by kernel_rfl) rfl ?_
  refine wl_load 3 (.tmp 39) (pt k1 5) (.int .i64 (s)) rfl rfl (run_one Q1 3 5 rfl Try.underlying3 rfl) rfl ?_
  refine wl_un (fun v => Instr.fieldAt 40 v 2) (.tmp 3) (pt k2 0) (pt k2 5) (fun _ => rfl) rfl (by kernel_rfl) rfl ?_
  refine wl_load 3 (.tmp 41) (pt k2 5) (.int .i64 (t)) rfl rfl (run_one Q2 3 5 rfl Try.underlying3 rfl) rfl ?_
  refine wl_bin (fun x y => do eqGuard .add 3 (.tmp 40) (.tmp 42) x y; binOp .add 3 x y) (.tmp 40) (.tmp 42) (.int .i64 (s)) (.int .i64 (t)) (.int .i64 (s + t)) (fun _ => rfl) rfl rfl (add3_run rfl (by omega) (by omega) _ _ _) rfl ?_
  refine wl_call 83 [(.tmp 35), (.tmp 38), (.tmp 43)] _ [.bool (b != c), .agg #[.int .u64 (l0 (n * m / MM)), .int .u64 (l1 (n * m / MM)), .int .u64 (l2 (n * m / MM)), .int .u64 (l3 (n * m / MM)), .int .u64 (l0 (n * m)), .int .u64 (l1 (n * m)), .int .u64 (l2 (n * m)), .int .u64 (l3 (n * m))], .int .i64 (s + t)] (.tuple #[.agg #[d0, d1, d2, d3, d4, d5], .int .i64 e]) rfl rfl (fun _ _ => by kernel_rfl) (hat _) rfl ?_
  intro w10 hq
  replace Q1 := Q1.mo hq
  replace Q2 := Q2.mo hq
  replace Q3 := Q3.mo hq
  replace Q4 := Q4.mo hq
  replace Q5 := Q5.mo hq
  replace M := M.trans hq
  clear hq
  refine wl_un (fun v => Instr.extract v 0) (.tmp 44) (.tuple #[.agg #[d0, d1, d2, d3, d4, d5], .int .i64 e]) (.agg #[d0, d1, d2, d3, d4, d5]) (fun _ => rfl) rfl (by kernel_rfl) rfl ?_
  refine wl_un (fun v => Instr.extract v 1) (.tmp 44) (.tuple #[.agg #[d0, d1, d2, d3, d4, d5], .int .i64 e]) (.int .i64 e) (fun _ => rfl) rfl (by kernel_rfl) rfl ?_
  refine wl_st 40 (.tmp 4) (.tmp 45) k3 0 #[d0, d1, d2, d3, d4, d5] [.bool false, .int .u64 0, .int .u64 0, .int .u64 0, .int .u64 0, .int .i64 0] [d0, d1, d2, d3, d4, d5] Q3 rfl rfl rfl rfl rfl sz40 hd rfl rfl ?_
  intro w11 hS Qn
  replace Q3 := Qn
  clear Qn
  replace Q1 := hS.other _ _ ne_k1_k3 Q1
  replace Q2 := hS.other _ _ ne_k2_k3 Q2
  replace Q4 := hS.other _ _ ne_k3_k4.symm Q4
  replace Q5 := hS.other _ _ ne_k3_k5.symm Q5
  replace M := hS.mo _ N_k3 M
  clear hS
  refine wl_mv (.tmp 46) (.int .i64 e) (fun _ => rfl) rfl rfl ?_
  refine w_nil ?_
  refine xn_then ?_
  refine w_ret ?_
  exact w_ret2 _ _ (.agg #[d0, d1, d2, d3, d4, d5]) (.int .i64 e) rfl ⟨k3, rfl, (run_row Q3 40 0 6 [d0, d1, d2, d3, d4, d5] rfl Try.underlying40 rfl sz40)⟩ rfl ⟨rfl, M⟩
theorem rmulTo_e2 (b c : Bool) (n m s t S p : Int) (w : World) (hn0 : 0 ≤ n) (hn : n < MM) (hm0 : 0 ≤ m) (hm : m < MM) (h1 : ck b n s = 0) (h2 : ck c m t = 0) (hS : sc S = false) :
    Calls Try.prog 42 #[dc b n s, dc c m t, .int .i64 S, .int .i64 p] w fun e' w' => e' = .returned (er 21) ∧ Mo w w' := by
  refine w_enter 54 Try.func42 Try.ntmps42 rfl rfl ?_
  have M : Mo w w := Mo.refl _
  refine w_seq ?_
  refine w_reg ?_
  refine wl_box 40 (.tmp 0) (dc b (n) (s)) ((dcr b (n) (s))) rfl rfl (fun _ => by kernel_rfl) rfl ?_
  intro k1 w1 hk hz hq Q1
  have N_k1 : w.heap.size ≤ k1 := by have := M.size; omega
  replace M := M.trans hq
  clear hk hz hq
  refine wl_box 40 (.tmp 1) (dc c (m) (t)) ((dcr c (m) (t))) rfl rfl (fun _ => by kernel_rfl) rfl ?_
  intro k2 w2 hk hz hq Q2
  have ne_k1_k2 : k1 ≠ k2 := by have := Q1.lt; omega
  have N_k2 : w.heap.size ≤ k2 := by have := M.size; omega
  replace Q1 := Q1.mo hq
  replace M := M.trans hq
  clear hk hz hq
  refine wl_alloc 40 #[.bool false, .int .u64 0, .int .u64 0, .int .u64 0, .int .u64 0, .int .i64 0] rfl (fun _ => by kernel_rfl) rfl ?_
  intro k3 w3 hk hz hq Q3
  have ne_k1_k3 : k1 ≠ k3 := by have := Q1.lt; omega
  have ne_k2_k3 : k2 ≠ k3 := by have := Q2.lt; omega
  have N_k3 : w.heap.size ≤ k3 := by have := M.size; omega
  replace Q1 := Q1.mo hq
  replace Q2 := Q2.mo hq
  replace M := M.trans hq
  clear hk hz hq
  refine wl_mv (.const (.int .i64 (0))) (.int .i64 (0)) (fun _ => rfl) rfl rfl ?_
  refine w_nil ?_
  refine xn_then ?_
  refine w_seq ?_
  refine w_seq ?_
  refine w_reg ?_
  refine wl_load 40 (.tmp 4) (pt k1 0) (dc b (n) (s)) rfl rfl (run_row Q1 40 0 6 (dcl b (n) (s)) rfl Try.underlying40 rfl sz40) rfl ?_
  refine wl_load 40 (.tmp 5) (pt k2 0) (dc c (m) (t)) rfl rfl (run_row Q2 40 0 6 (dcl c (m) (t)) rfl Try.underlying40 rfl sz40) rfl ?_
  refine wl_call 81 [(.tmp 14), (.tmp 15)] _ [dc b (n) (s), dc c (m) (t)] (.int .i64 (0)) rfl rfl (fun _ _ => by kernel_rfl) (rboth_ok b n s c m t _ hn0 hn hm0 hm h1 h2) rfl ?_
  intro w4 hq
  replace Q1 := Q1.mo hq
  replace Q2 := Q2.mo hq
  replace Q3 := Q3.mo hq
  replace M := M.trans hq
  clear hq
  refine wl_mv (.tmp 16) (.int .i64 (0)) (fun _ => rfl) rfl rfl ?_
  refine w_nil ?_
  refine xn_then ?_
  refine w_seq ?_
  refine w_reg ?_
  refine wl_mv (.tmp 10) (.int .i64 (0)) (fun _ => rfl) rfl rfl ?_
  refine wl_bin (fun x y => do eqGuard .neq 32 (.tmp 17) (.const (.int .i64 (0))) x y; binOp .neq 32 x y) (.tmp 17) (.const (.int .i64 (0))) (.int .i64 (0)) (.int .i64 (0)) (.bool false) (fun _ => rfl) rfl rfl (by kernel_rfl) rfl ?_
  refine w_nil ?_
  refine xn_then ?_
  refine w_condF rfl ?_
  refine w_skip ?_
  refine xn_then ?_
  refine w_seq ?_
  refine w_seq ?_
  refine w_reg ?_
  refine wl_mv (.tmp 2) (.int .i64 S) (fun _ => rfl) rfl rfl ?_
  refine wl_mv (.tmp 3) (.int .i64 p) (fun _ => rfl) rfl rfl ?_
  refine wl_call 90 [(.tmp 21), (.tmp 22)] _ [.int .i64 S, .int .i64 p] (.int .i64 (21)) rfl rfl (fun _ _ => by kernel_rfl) (may_sc S p _ hS) rfl ?_
  intro w5 hq
  replace Q1 := Q1.mo hq
  replace Q2 := Q2.mo hq
  replace Q3 := Q3.mo hq
  replace M := M.trans hq
  clear hq
  refine wl_mv (.tmp 23) (.int .i64 (21)) (fun _ => rfl) rfl rfl ?_
  refine w_nil ?_
  refine xn_then ?_
  refine w_seq ?_
  refine w_reg ?_
  refine wl_mv (.tmp 11) (.int .i64 (21)) (fun _ => rfl) rfl rfl ?_
  refine wl_bin (fun x y => do eqGuard .neq 32 (.tmp 24) (.const (.int .i64 (0))) x y; binOp .neq 32 x y) (.tmp 24) (.const (.int .i64 (0))) (.int .i64 (21)) (.int .i64 (0)) (.bool true) (fun _ => rfl) rfl rfl (by kernel_rfl) rfl ?_
  refine w_nil ?_
  refine xn_then ?_
  refine w_condT rfl ?_
  refine w_seq ?_
  refine w_reg ?_
  refine wl_build 40 [] [] (.agg #[.bool false, .int .u64 0, .int .u64 0, .int .u64 0, .int .u64 0, .int .i64 0]) rfl rfl (by kernel_rfl) rfl ?_
  refine wl_mv (.tmp 11) (.int .i64 (21)) (fun _ => rfl) rfl rfl ?_
  refine wl_st 40 (.tmp 8) (.tmp 26) k3 0 #[.bool false, .int .u64 0, .int .u64 0, .int .u64 0, .int .u64 0, .int .i64 0] [.bool false, .int .u64 0, .int .u64 0, .int .u64 0, .int .u64 0, .int .i64 0] [.bool false, .int .u64 0, .int .u64 0, .int .u64 0, .int .u64 0, .int .i64 0] Q3 rfl rfl rfl rfl rfl sz40 rfl rfl rfl ?_
  intro w6 hS Qn
  replace Q3 := Qn
  clear Qn
  replace Q1 := hS.other _ _ ne_k1_k3 Q1
  replace Q2 := hS.other _ _ ne_k2_k3 Q2
  replace M := hS.mo _ N_k3 M
  clear hS
  refine wl_mv (.tmp 27) (.int .i64 (21)) (fun _ => rfl) rfl rfl ?_
  refine w_nil ?_
  refine xn_then ?_
  refine w_ret ?_
  refine xr_then ?_
  exact w_ret2 _ _ (.agg #[.bool false, .int .u64 0, .int .u64 0, .int .u64 0, .int .u64 0, .int .i64 0]) (.int .i64 (21)) rfl ⟨k3, rfl, (run_row Q3 40 0 6 [.bool false, .int .u64 0, .int .u64 0, .int .u64 0, .int .u64 0, .int .i64 0] rfl Try.underlying40 rfl sz40)⟩ rfl ⟨rfl, M⟩
theorem rmulTo_e3 (b c : Bool) (n m s t S p : Int) (w : World) (hn0 : 0 ≤ n) (hn : n < MM) (hm0 : 0 ≤ m) (hm : m < MM) (h1 : ck b n s = 0) (h2 : ck c m t = 0) (hS : sc S = true) (hp : p < 1 ∨ 5 < p) :
    Calls Try.prog 42 #[dc b n s, dc c m t, .int .i64 S, .int .i64 p] w fun e' w' => e' = .returned (er 22) ∧ Mo w w' := by
  refine w_enter 54 Try.func42 Try.ntmps42 rfl rfl ?_
  have M : Mo w w := Mo.refl _
  refine w_seq ?_
  refine w_reg ?_
  refine wl_box 40 (.tmp 0) (dc b (n) (s)) ((dcr b (n) (s))) rfl rfl (fun _ => by kernel_rfl) rfl ?_
  intro k1 w1 hk hz hq Q1
  have N_k1 : w.heap.size ≤ k1 := by have := M.size; omega
  replace M := M.trans hq
  clear hk hz hq
  refine wl_box 40 (.tmp 1) (dc c (m) (t)) ((dcr c (m) (t))) rfl rfl (fun _ => by kernel_rfl) rfl ?_
  intro k2 w2 hk hz hq Q2
  have ne_k1_k2 : k1 ≠ k2 := by have := Q1.lt; omega
  have N_k2 : w.heap.size ≤ k2 := by have := M.size; omega
  replace Q1 := Q1.mo hq
  replace M := M.trans hq
  clear hk hz hq
  refine wl_alloc 40 #[.bool false, .int .u64 0, .int .u64 0, .int .u64 0, .int .u64 0, .int .i64 0] rfl (fun _ => by kernel_rfl) rfl ?_
  intro k3 w3 hk hz hq Q3
  have ne_k1_k3 : k1 ≠ k3 := by have := Q1.lt; omega
  have ne_k2_k3 : k2 ≠ k3 := by have := Q2.lt; omega
  have N_k3 : w.heap.size ≤ k3 := by have := M.size; omega
  replace Q1 := Q1.mo hq
  replace Q2 := Q2.mo hq
  replace M := M.trans hq
  clear hk hz hq
  refine wl_mv (.const (.int .i64 (0))) (.int .i64 (0)) (fun _ => rfl) rfl rfl ?_
  refine w_nil ?_
  refine xn_then ?_
  refine w_seq ?_
  refine w_seq ?_
  refine w_reg ?_
  refine wl_load 40 (.tmp 4) (pt k1 0) (dc b (n) (s)) rfl rfl (run_row Q1 40 0 6 (dcl b (n) (s)) rfl Try.underlying40 rfl sz40) rfl ?_
  refine wl_load 40 (.tmp 5) (pt k2 0) (dc c (m) (t)) rfl rfl (run_row Q2 40 0 6 (dcl c (m) (t)) rfl Try.underlying40 rfl sz40) rfl ?_
  refine wl_call 81 [(.tmp 14), (.tmp 15)] _ [dc b (n) (s), dc c (m) (t)] (.int .i64 (0)) rfl rfl (fun _ _ => by kernel_rfl) (rboth_ok b n s c m t _ hn0 hn hm0 hm h1 h2) rfl ?_
  intro w4 hq
  replace Q1 := Q1.mo hq
  replace Q2 := Q2.mo hq
  replace Q3 := Q3.mo hq
  replace M := M.trans hq
  clear hq
  refine wl_mv (.tmp 16) (.int .i64 (0)) (fun _ => rfl) rfl rfl ?_
  refine w_nil ?_
  refine xn_then ?_
  refine w_seq ?_
  refine w_reg ?_
  refine wl_mv (.tmp 10) (.int .i64 (0)) (fun _ => rfl) rfl rfl ?_
  refine wl_bin (fun x y => do eqGuard .neq 32 (.tmp 17) (.const (.int .i64 (0))) x y; binOp .neq 32 x y) (.tmp 17) (.const (.int .i64 (0))) (.int .i64 (0)) (.int .i64 (0)) (.bool false) (fun _ => rfl) rfl rfl (by kernel_rfl) rfl ?_
  refine w_nil ?_
  refine xn_then ?_
  refine w_condF rfl ?_
  refine w_skip ?_
  refine xn_then ?_
  refine w_seq ?_
  refine w_seq ?_
  refine w_reg ?_
  refine wl_mv (.tmp 2) (.int .i64 S) (fun _ => rfl) rfl rfl ?_
  refine wl_mv (.tmp 3) (.int .i64 p) (fun _ => rfl) rfl rfl ?_
  refine wl_call 90 [(.tmp 21), (.tmp 22)] _ [.int .i64 S, .int .i64 p] (.int .i64 (22)) rfl rfl (fun _ _ => by kernel_rfl) (may_pol S p _ hS hp) rfl ?_
  intro w5 hq
  replace Q1 := Q1.mo hq
  replace Q2 := Q2.mo hq
  replace Q3 := Q3.mo hq
  replace M := M.trans hq
  clear hq
  refine wl_mv (.tmp 23) (.int .i64 (22)) (fun _ => rfl) rfl rfl ?_
  refine w_nil ?_
  refine xn_then ?_
  refine w_seq ?_
  refine w_reg ?_
  refine wl_mv (.tmp 11) (.int .i64 (22)) (fun _ => rfl) rfl rfl ?_
  refine wl_bin (fun x y => do eqGuard .neq 32 (.tmp 24) (.const (.int .i64 (0))) x y; binOp .neq 32 x y) (.tmp 24) (.const (.int .i64 (0))) (.int .i64 (22)) (.int .i64 (0)) (.bool true) (fun _ => rfl) rfl rfl (by kernel_rfl) rfl ?_
  refine w_nil ?_
  refine xn_then ?_
  refine w_condT rfl ?_
  refine w_seq ?_
  refine w_reg ?_
  refine wl_build 40 [] [] (.agg #[.bool false, .int .u64 0, .int .u64 0, .int .u64 0, .int .u64 0, .int .i64 0]) rfl rfl (by kernel_rfl) rfl ?_
  refine wl_mv (.tmp 11) (.int .i64 (22)) (fun _ => rfl) rfl rfl ?_
  refine wl_st 40 (.tmp 8) (.tmp 26) k3 0 #[.bool false, .int .u64 0, .int .u64 0, .int .u64 0, .int .u64 0, .int .i64 0] [.bool false, .int .u64 0, .int .u64 0, .int .u64 0, .int .u64 0, .int .i64 0] [.bool false, .int .u64 0, .int .u64 0, .int .u64 0, .int .u64 0, .int .i64 0] Q3 rfl rfl rfl rfl rfl sz40 rfl rfl rfl ?_
  intro w6 hS Qn
  replace Q3 := Qn
  clear Qn
  replace Q1 := hS.other _ _ ne_k1_k3 Q1
  replace Q2 := hS.other _ _ ne_k2_k3 Q2
  replace M := hS.mo _ N_k3 M
  clear hS
  refine wl_mv (.tmp 27) (.int .i64 (22)) (fun _ => rfl) rfl rfl ?_
  refine w_nil ?_
  refine xn_then ?_
  refine w_ret ?_
  refine xr_then ?_
  exact w_ret2 _ _ (.agg #[.bool false, .int .u64 0, .int .u64 0, .int .u64 0, .int .u64 0, .int .i64 0]) (.int .i64 (22)) rfl ⟨k3, rfl, (run_row Q3 40 0 6 [.bool false, .int .u64 0, .int .u64 0, .int .u64 0, .int .u64 0, .int .i64 0] rfl Try.underlying40 rfl sz40)⟩ rfl ⟨rfl, M⟩
theorem rmulTo_w (b c : Bool) (n m s t S p : Int) (d0 d1 d2 d3 d4 d5 : Value) (e : Int) (w : World) (hn0 : 0 ≤ n) (hn : n < MM) (hm0 : 0 ≤ m) (hm : m < MM) (h1 : ck b n s = 0) (h2 : ck c m t = 0) (hS : sc S = true) (hp1 : 1 ≤ p) (hp5 : p ≤ 5) (hb1 : 0 ≤ s ∧ s ≤ 18) (hb2 : 0 ≤ t ∧ t ≤ 18) (hd : [d0, d1, d2, d3, d4, d5].all (·.oneCell') = true) (hrd : ∀ w, Calls Try.prog 91 #[.bool (b != c), dw (n * m), .int .i64 (s + t), .int .i64 S, .int .i64 p] w fun e' w' => e' = .returned (.tuple #[.agg #[d0, d1, d2, d3, d4, d5], .int .i64 e]) ∧ Mo w w') :
    Calls Try.prog 42 #[dc b n s, dc c m t, .int .i64 S, .int .i64 p] w fun e' w' => e' = .returned (.tuple #[.agg #[d0, d1, d2, d3, d4, d5], .int .i64 e]) ∧ Mo w w' := by
  refine w_enter 54 Try.func42 Try.ntmps42 rfl rfl ?_
  have M : Mo w w := Mo.refl _
  refine w_seq ?_
  refine w_reg ?_
  refine wl_box 40 (.tmp 0) (dc b (n) (s)) ((dcr b (n) (s))) rfl rfl (fun _ => by kernel_rfl) rfl ?_
  intro k1 w1 hk hz hq Q1
  have N_k1 : w.heap.size ≤ k1 := by have := M.size; omega
  replace M := M.trans hq
  clear hk hz hq
  refine wl_box 40 (.tmp 1) (dc c (m) (t)) ((dcr c (m) (t))) rfl rfl (fun _ => by kernel_rfl) rfl ?_
  intro k2 w2 hk hz hq Q2
  have ne_k1_k2 : k1 ≠ k2 := by have := Q1.lt; omega
  have N_k2 : w.heap.size ≤ k2 := by have := M.size; omega
  replace Q1 := Q1.mo hq
  replace M := M.trans hq
  clear hk hz hq
  refine wl_alloc 40 #[.bool false, .int .u64 0, .int .u64 0, .int .u64 0, .int .u64 0, .int .i64 0] rfl (fun _ => by kernel_rfl) rfl ?_
  intro k3 w3 hk hz hq Q3
  have ne_k1_k3 : k1 ≠ k3 := by have := Q1.lt; omega
  have ne_k2_k3 : k2 ≠ k3 := by have := Q2.lt; omega
  have N_k3 : w.heap.size ≤ k3 := by have := M.size; omega
  replace Q1 := Q1.mo hq
  replace Q2 := Q2.mo hq
  replace M := M.trans hq
  clear hk hz hq
  refine wl_mv (.const (.int .i64 (0))) (.int .i64 (0)) (fun _ => rfl) rfl rfl ?_
  refine w_nil ?_
  refine xn_then ?_
  refine w_seq ?_
  refine w_seq ?_
  refine w_reg ?_
  refine wl_load 40 (.tmp 4) (pt k1 0) (dc b (n) (s)) rfl rfl (run_row Q1 40 0 6 (dcl b (n) (s)) rfl Try.underlying40 rfl sz40) rfl ?_
  refine wl_load 40 (.tmp 5) (pt k2 0) (dc c (m) (t)) rfl rfl (run_row Q2 40 0 6 (dcl c (m) (t)) rfl Try.underlying40 rfl sz40) rfl ?_
  refine wl_call 81 [(.tmp 14), (.tmp 15)] _ [dc b (n) (s), dc c (m) (t)] (.int .i64 (0)) rfl rfl (fun _ _ => by kernel_rfl) (rboth_ok b n s c m t _ hn0 hn hm0 hm h1 h2) rfl ?_
  intro w4 hq
  replace Q1 := Q1.mo hq
  replace Q2 := Q2.mo hq
  replace Q3 := Q3.mo hq
  replace M := M.trans hq
  clear hq
  refine wl_mv (.tmp 16) (.int .i64 (0)) (fun _ => rfl) rfl rfl ?_
  refine w_nil ?_
  refine xn_then ?_
  refine w_seq ?_
  refine w_reg ?_
  refine wl_mv (.tmp 10) (.int .i64 (0)) (fun _ => rfl) rfl rfl ?_
  refine wl_bin (fun x y => do eqGuard .neq 32 (.tmp 17) (.const (.int .i64 (0))) x y; binOp .neq 32 x y) (.tmp 17) (.const (.int .i64 (0))) (.int .i64 (0)) (.int .i64 (0)) (.bool false) (fun _ => rfl) rfl rfl (by kernel_rfl) rfl ?_
  refine w_nil ?_
  refine xn_then ?_
  refine w_condF rfl ?_
  refine w_skip ?_
  refine xn_then ?_
  refine w_seq ?_
  refine w_seq ?_
  refine w_reg ?_
  refine wl_mv (.tmp 2) (.int .i64 S) (fun _ => rfl) rfl rfl ?_
  refine wl_mv (.tmp 3) (.int .i64 p) (fun _ => rfl) rfl rfl ?_
  refine wl_call 90 [(.tmp 21), (.tmp 22)] _ [.int .i64 S, .int .i64 p] (.int .i64 (0)) rfl rfl (fun _ _ => by kernel_rfl) (may_ok S p _ hS hp1 hp5) rfl ?_
  intro w5 hq
  replace Q1 := Q1.mo hq
  replace Q2 := Q2.mo hq
  replace Q3 := Q3.mo hq
  replace M := M.trans hq
  clear hq
  refine wl_mv (.tmp 23) (.int .i64 (0)) (fun _ => rfl) rfl rfl ?_
  refine w_nil ?_
  refine xn_then ?_
  refine w_seq ?_
  refine w_reg ?_
  refine wl_mv (.tmp 11) (.int .i64 (0)) (fun _ => rfl) rfl rfl ?_
  refine wl_bin (fun x y => do eqGuard .neq 32 (.tmp 24) (.const (.int .i64 (0))) x y; binOp .neq 32 x y) (.tmp 24) (.const (.int .i64 (0))) (.int .i64 (0)) (.int .i64 (0)) (.bool false) (fun _ => rfl) rfl rfl (by kernel_rfl) rfl ?_
  refine w_nil ?_
  refine xn_then ?_
  refine w_condF rfl ?_
  refine w_skip ?_
  refine xn_then ?_
  refine w_seq ?_
  refine w_reg ?_
  refine wl_un (fun v => Instr.fieldAt 40 v 1) (.tmp 4) (pt k1 0) (pt k1 1) (fun _ => rfl) rfl (by kernel_rfl) rfl ?_
  refine wl_load 24 (.tmp 29) (pt k1 1) (.agg #[.int .u64 (l0 (n)), .int .u64 (l1 (n)), .int .u64 (l2 (n)), .int .u64 (l3 (n))]) rfl rfl (run_row Q1 24 1 4 [.int .u64 (l0 (n)), .int .u64 (l1 (n)), .int .u64 (l2 (n)), .int .u64 (l3 (n))] rfl Try.underlying24 rfl sz24) rfl ?_
  refine wl_un (fun v => Instr.fieldAt 40 v 1) (.tmp 5) (pt k2 0) (pt k2 1) (fun _ => rfl) rfl (by kernel_rfl) rfl ?_
  refine wl_load 24 (.tmp 31) (pt k2 1) (.agg #[.int .u64 (l0 (m)), .int .u64 (l1 (m)), .int .u64 (l2 (m)), .int .u64 (l3 (m))]) rfl rfl (run_row Q2 24 1 4 [.int .u64 (l0 (m)), .int .u64 (l1 (m)), .int .u64 (l2 (m)), .int .u64 (l3 (m))] rfl Try.underlying24 rfl sz24) rfl ?_
  refine wl_call 16 [(.tmp 30), (.tmp 32)] _ [.agg #[.int .u64 (l0 (n)), .int .u64 (l1 (n)), .int .u64 (l2 (n)), .int .u64 (l3 (n))], .agg #[.int .u64 (l0 (m)), .int .u64 (l1 (m)), .int .u64 (l2 (m)), .int .u64 (l3 (m))]] (.tuple #[nv (n * m / MM), nv (n * m)]) rfl rfl (fun _ _ => by kernel_rfl) (rmul_n n m _ hn0 hn hm0 hm) rfl ?_
  intro w6 hq
  replace Q1 := Q1.mo hq
  replace Q2 := Q2.mo hq
  replace Q3 := Q3.mo hq
  replace M := M.trans hq
  clear hq
  refine wl_mv (.tmp 33) (.tuple #[nv (n * m / MM), nv (n * m)]) (fun _ => rfl) rfl rfl ?_
  refine wl_un (fun v => Instr.extract v 0) (.tmp 28) (.tuple #[nv (n * m / MM), nv (n * m)]) (nv (n * m / MM)) (fun _ => rfl) rfl (by kernel_rfl) rfl ?_
  refine wl_un (fun v => Instr.extract v 1) (.tmp 28) (.tuple #[nv (n * m / MM), nv (n * m)]) (nv (n * m)) (fun _ => rfl) rfl (by kernel_rfl) rfl ?_
  refine wl_alloc 24 #[.int .u64 0, .int .u64 0, .int .u64 0, .int .u64 0] rfl (fun _ => by kernel_rfl) rfl ?_
  intro k4 w7 hk hz hq Q4
  have ne_k1_k4 : k1 ≠ k4 := by have := Q1.lt; omega
  have ne_k2_k4 : k2 ≠ k4 := by have := Q2.lt; omega
  have ne_k3_k4 : k3 ≠ k4 := by have := Q3.lt; omega
  have N_k4 : w.heap.size ≤ k4 := by have := M.size; omega
  replace Q1 := Q1.mo hq
  replace Q2 := Q2.mo hq
  replace Q3 := Q3.mo hq
  replace M := M.trans hq
  clear hk hz hq
  refine wl_alloc 24 #[.int .u64 0, .int .u64 0, .int .u64 0, .int .u64 0] rfl (fun _ => by kernel_rfl) rfl ?_
  intro k5 w8 hk hz hq Q5
  have ne_k1_k5 : k1 ≠ k5 := by have := Q1.lt; omega
  have ne_k2_k5 : k2 ≠ k5 := by have := Q2.lt; omega
  have ne_k3_k5 : k3 ≠ k5 := by have := Q3.lt; omega
  have ne_k4_k5 : k4 ≠ k5 := by have := Q4.lt; omega
  have N_k5 : w.heap.size ≤ k5 := by have := M.size; omega
  replace Q1 := Q1.mo hq
  replace Q2 := Q2.mo hq
  replace Q3 := Q3.mo hq
  replace Q4 := Q4.mo hq
  replace M := M.trans hq
  clear hk hz hq
  refine wl_st 24 (.tmp 12) (.tmp 34) k4 0 (nvar (n * m / MM)) [.int .u64 0, .int .u64 0, .int .u64 0, .int .u64 0] (nvli (n * m / MM)) Q4 rfl rfl rfl rfl rfl sz24 rfl rfl rfl ?_
  intro w9 hS Qn
  replace Q4 := Qn
  clear Qn
  replace Q1 := hS.other _ _ ne_k1_k4 Q1
  replace Q2 := hS.other _ _ ne_k2_k4 Q2
  replace Q3 := hS.other _ _ ne_k3_k4 Q3
  replace Q5 := hS.other _ _ ne_k4_k5.symm Q5
  replace M := hS.mo _ N_k4 M
  clear hS
  refine wl_st 24 (.tmp 13) (.tmp 35) k5 0 (nvar (n * m)) [.int .u64 0, .int .u64 0, .int .u64 0, .int .u64 0] (nvli (n * m)) Q5 rfl rfl rfl rfl rfl sz24 rfl rfl rfl ?_
  intro w10 hS Qn
  replace Q5 := Qn
  clear Qn
  replace Q1 := hS.other _ _ ne_k1_k5 Q1
  replace Q2 := hS.other _ _ ne_k2_k5 Q2
  replace Q3 := hS.other _ _ ne_k3_k5 Q3
  replace Q4 := hS.other _ _ ne_k4_k5 Q4
  replace M := hS.mo _ N_k5 M
  clear hS
  refine w_nil ?_
  refine xn_then ?_
  refine w_seq ?_
  refine w_reg ?_
  refine wl_un (fun v => Instr.fieldAt 40 v 0) (.tmp 4) (pt k1 0) (pt k1 0) (fun _ => rfl) rfl (by kernel_rfl) rfl ?_
  refine wl_load 4 (.tmp 36) (pt k1 0) (.bool b) rfl rfl (run_one Q1 4 0 rfl Try.underlying4 rfl) rfl ?_
  refine wl_un (fun v => Instr.fieldAt 40 v 0) (.tmp 5) (pt k2 0) (pt k2 0) (fun _ => rfl) rfl (by kernel_rfl) rfl ?_
  refine wl_load 4 (.tmp 38) (pt k2 0) (.bool c) rfl rfl (run_one Q2 4 0 rfl Try.underlying4 rfl) rfl ?_
  refine wl_bin (fun x y => do eqGuard .neq 4 (.tmp 37) (.tmp 39) x y; binOp .neq 4 x y) (.tmp 37) (.tmp 39) (.bool b) (.bool c) (.bool (b != c)) (fun _ => rfl) rfl rfl (neb_run rfl _ _ _) rfl ?_
  refine wl_load 24 (.tmp 12) (pt k4 0) (nv (n * m / MM)) rfl rfl (run_row Q4 24 0 4 (nvli (n * m / MM)) rfl Try.underlying24 rfl sz24) rfl ?_
  refine wl_load 24 (.tmp 13) (pt k5 0) (nv (n * m)) rfl rfl (run_row Q5 24 0 4 (nvli (n * m)) rfl Try.underlying24 rfl sz24) rfl ?_
  refine wl_build 87 [(0, (.tmp 41)), (1, (.tmp 42))] [(0, nv (n * m / MM)), (1, nv (n * m))] (.agg #[.int .u64 (l0 (n * m / MM)), .int .u64 (l1 (n * m / MM)), .int .u64 (l2 (n * m / MM)), .int .u64 (l3 (n * m / MM)), .int .u64 (l0 (n * m)), .int .u64 (l1 (n * m)), .int .u64 (l2 (n * m)), .int .u64 (l3 (n * m))]) rfl rfl (by kernel_rfl) rfl ?_
  refine wl_un (fun v => Instr.fieldAt 40 v 2) (.tmp 4) (pt k1 0) (pt k1 5) (fun _ => rfl) rfl (by kernel_rfl) rfl ?_
  refine wl_load 3 (.tmp 44) (pt k1 5) (.int .i64 (s)) rfl rfl (run_one Q1 3 5 rfl Try.underlying3 rfl) rfl ?_
  refine wl_un (fun v => Instr.fieldAt 40 v 2) (.tmp 5) (pt k2 0) (pt k2 5) (fun _ => rfl) rfl (by kernel_rfl) rfl ?_
  refine wl_load 3 (.tmp 46) (pt k2 5) (.int .i64 (t)) rfl rfl (run_one Q2 3 5 rfl Try.underlying3 rfl) rfl ?_
  refine wl_bin (fun x y => do eqGuard .add 3 (.tmp 45) (.tmp 47) x y; binOp .add 3 x y) (.tmp 45) (.tmp 47) (.int .i64 (s)) (.int .i64 (t)) (.int .i64 (s + t)) (fun _ => rfl) rfl rfl (add3_run rfl (by omega) (by omega) _ _ _) rfl ?_
  refine wl_mv (.tmp 2) (.int .i64 S) (fun _ => rfl) rfl rfl ?_
  refine wl_mv (.tmp 3) (.int .i64 p) (fun _ => rfl) rfl rfl ?_
  refine wl_call 91 [(.tmp 40), (.tmp 43), (.tmp 48), (.tmp 49), (.tmp 50)] _ [.bool (b != c), .agg #[.int .u64 (l0 (n * m / MM)), .int .u64 (l1 (n * m / MM)), .int .u64 (l2 (n * m / MM)), .int .u64 (l3 (n * m / MM)), .int .u64 (l0 (n * m)), .int .u64 (l1 (n * m)), .int .u64 (l2 (n * m)), .int .u64 (l3 (n * m))], .int .i64 (s + t), .int .i64 S, .int .i64 p] (.tuple #[.agg #[d0, d1, d2, d3, d4, d5], .int .i64 e]) rfl rfl (fun _ _ => by kernel_rfl) (hrd _) rfl ?_
  intro w11 hq
  replace Q1 := Q1.mo hq
  replace Q2 := Q2.mo hq
  replace Q3 := Q3.mo hq
  replace Q4 := Q4.mo hq
  replace Q5 := Q5.mo hq
  replace M := M.trans hq
  clear hq
  refine wl_un (fun v => Instr.extract v 0) (.tmp 51) (.tuple #[.agg #[d0, d1, d2, d3, d4, d5], .int .i64 e]) (.agg #[d0, d1, d2, d3, d4, d5]) (fun _ => rfl) rfl (by kernel_rfl) rfl ?_
  refine wl_un (fun v => Instr.extract v 1) (.tmp 51) (.tuple #[.agg #[d0, d1, d2, d3, d4, d5], .int .i64 e]) (.int .i64 e) (fun _ => rfl) rfl (by kernel_rfl) rfl ?_
  refine wl_st 40 (.tmp 8) (.tmp 52) k3 0 #[d0, d1, d2, d3, d4, d5] [.bool false, .int .u64 0, .int .u64 0, .int .u64 0, .int .u64 0, .int .i64 0] [d0, d1, d2, d3, d4, d5] Q3 rfl rfl rfl rfl rfl sz40 hd rfl rfl ?_
  intro w12 hS Qn
  replace Q3 := Qn
  clear Qn
  replace Q1 := hS.other _ _ ne_k1_k3 Q1
  replace Q2 := hS.other _ _ ne_k2_k3 Q2
  replace Q4 := hS.other _ _ ne_k3_k4.symm Q4
  replace Q5 := hS.other _ _ ne_k3_k5.symm Q5
  replace M := hS.mo _ N_k3 M
  clear hS
  refine wl_mv (.tmp 53) (.int .i64 e) (fun _ => rfl) rfl rfl ?_
  refine w_nil ?_
  refine xn_then ?_
  refine w_ret ?_
  exact w_ret2 _ _ (.agg #[d0, d1, d2, d3, d4, d5]) (.int .i64 e) rfl ⟨k3, rfl, (run_row Q3 40 0 6 [d0, d1, d2, d3, d4, d5] rfl Try.underlying40 rfl sz40)⟩ rfl ⟨rfl, M⟩
theorem rresc_e2 (b : Bool) (n s S p : Int) (w : World) (hn0 : 0 ≤ n) (hn : n < MM) (h : ck b n s = 0) (hS : sc S = false) :
    Calls Try.prog 44 #[dc b n s, .int .i64 S, .int .i64 p] w fun e' w' => e' = .returned (er 21) ∧ Mo w w' := by
  refine w_enter 35 Try.func44 Try.ntmps44 rfl rfl ?_
  have M : Mo w w := Mo.refl _
  refine w_seq ?_
  refine w_reg ?_
  refine wl_box 40 (.tmp 0) (dc b (n) (s)) ((dcr b (n) (s))) rfl rfl (fun _ => by kernel_rfl) rfl ?_
  intro k1 w1 hk hz hq Q1
  have N_k1 : w.heap.size ≤ k1 := by have := M.size; omega
  replace M := M.trans hq
  clear hk hz hq
  refine wl_alloc 40 #[.bool false, .int .u64 0, .int .u64 0, .int .u64 0, .int .u64 0, .int .i64 0] rfl (fun _ => by kernel_rfl) rfl ?_
  intro k2 w2 hk hz hq Q2
  have ne_k1_k2 : k1 ≠ k2 := by have := Q1.lt; omega
  have N_k2 : w.heap.size ≤ k2 := by have := M.size; omega
  replace Q1 := Q1.mo hq
  replace M := M.trans hq
  clear hk hz hq
  refine wl_mv (.const (.int .i64 (0))) (.int .i64 (0)) (fun _ => rfl) rfl rfl ?_
  refine w_nil ?_
  refine xn_then ?_
  refine w_seq ?_
  refine w_seq ?_
  refine w_reg ?_
  refine wl_load 40 (.tmp 3) (pt k1 0) (dc b (n) (s)) rfl rfl (run_row Q1 40 0 6 (dcl b (n) (s)) rfl Try.underlying40 rfl sz40) rfl ?_
  refine wl_call 30 [(.tmp 10)] _ [dc b (n) (s)] (.int .i64 (0)) rfl rfl (fun _ _ => by kernel_rfl) (rcheck_ok b n s _ hn0 hn h) rfl ?_
  intro w3 hq
  replace Q1 := Q1.mo hq
  replace Q2 := Q2.mo hq
  replace M := M.trans hq
  clear hq
  refine wl_mv (.tmp 11) (.int .i64 (0)) (fun _ => rfl) rfl rfl ?_
  refine w_nil ?_
  refine xn_then ?_
  refine w_seq ?_
  refine w_reg ?_
  refine wl_mv (.tmp 8) (.int .i64 (0)) (fun _ => rfl) rfl rfl ?_
  refine wl_bin (fun x y => do eqGuard .neq 32 (.tmp 12) (.const (.int .i64 (0))) x y; binOp .neq 32 x y) (.tmp 12) (.const (.int .i64 (0))) (.int .i64 (0)) (.int .i64 (0)) (.bool false) (fun _ => rfl) rfl rfl (by kernel_rfl) rfl ?_
  refine w_nil ?_
  refine xn_then ?_
  refine w_condF rfl ?_
  refine w_skip ?_
  refine xn_then ?_
  refine w_seq ?_
  refine w_seq ?_
  refine w_reg ?_
  refine wl_mv (.tmp 1) (.int .i64 S) (fun _ => rfl) rfl rfl ?_
  refine wl_mv (.tmp 2) (.int .i64 p) (fun _ => rfl) rfl rfl ?_
  refine wl_call 90 [(.tmp 16), (.tmp 17)] _ [.int .i64 S, .int .i64 p] (.int .i64 (21)) rfl rfl (fun _ _ => by kernel_rfl) (may_sc S p _ hS) rfl ?_
  intro w4 hq
  replace Q1 := Q1.mo hq
  replace Q2 := Q2.mo hq
  replace M := M.trans hq
  clear hq
  refine wl_mv (.tmp 18) (.int .i64 (21)) (fun _ => rfl) rfl rfl ?_
  refine w_nil ?_
  refine xn_then ?_
  refine w_seq ?_
  refine w_reg ?_
  refine wl_mv (.tmp 9) (.int .i64 (21)) (fun _ => rfl) rfl rfl ?_
  refine wl_bin (fun x y => do eqGuard .neq 32 (.tmp 19) (.const (.int .i64 (0))) x y; binOp .neq 32 x y) (.tmp 19) (.const (.int .i64 (0))) (.int .i64 (21)) (.int .i64 (0)) (.bool true) (fun _ => rfl) rfl rfl (by kernel_rfl) rfl ?_
  refine w_nil ?_
  refine xn_then ?_
  refine w_condT rfl ?_
  refine w_seq ?_
  refine w_reg ?_
  refine wl_build 40 [] [] (.agg #[.bool false, .int .u64 0, .int .u64 0, .int .u64 0, .int .u64 0, .int .i64 0]) rfl rfl (by kernel_rfl) rfl ?_
  refine wl_mv (.tmp 9) (.int .i64 (21)) (fun _ => rfl) rfl rfl ?_
  refine wl_st 40 (.tmp 6) (.tmp 21) k2 0 #[.bool false, .int .u64 0, .int .u64 0, .int .u64 0, .int .u64 0, .int .i64 0] [.bool false, .int .u64 0, .int .u64 0, .int .u64 0, .int .u64 0, .int .i64 0] [.bool false, .int .u64 0, .int .u64 0, .int .u64 0, .int .u64 0, .int .i64 0] Q2 rfl rfl rfl rfl rfl sz40 rfl rfl rfl ?_
  intro w5 hS Qn
  replace Q2 := Qn
  clear Qn
  replace Q1 := hS.other _ _ ne_k1_k2 Q1
  replace M := hS.mo _ N_k2 M
  clear hS
  refine wl_mv (.tmp 22) (.int .i64 (21)) (fun _ => rfl) rfl rfl ?_
  refine w_nil ?_
  refine xn_then ?_
  refine w_ret ?_
  refine xr_then ?_
  exact w_ret2 _ _ (.agg #[.bool false, .int .u64 0, .int .u64 0, .int .u64 0, .int .u64 0, .int .i64 0]) (.int .i64 (21)) rfl ⟨k2, rfl, (run_row Q2 40 0 6 [.bool false, .int .u64 0, .int .u64 0, .int .u64 0, .int .u64 0, .int .i64 0] rfl Try.underlying40 rfl sz40)⟩ rfl ⟨rfl, M⟩
theorem rresc_e3 (b : Bool) (n s S p : Int) (w : World) (hn0 : 0 ≤ n) (hn : n < MM) (h : ck b n s = 0) (hS : sc S = true) (hp : p < 1 ∨ 5 < p) :
    Calls Try.prog 44 #[dc b n s, .int .i64 S, .int .i64 p] w fun e' w' => e' = .returned (er 22) ∧ Mo w w' := by
  refine w_enter 35 Try.func44 Try.ntmps44 rfl rfl ?_
  have M : Mo w w := Mo.refl _
  refine w_seq ?_
  refine w_reg ?_
  refine wl_box 40 (.tmp 0) (dc b (n) (s)) ((dcr b (n) (s))) rfl rfl (fun _ => by kernel_rfl) rfl ?_
  intro k1 w1 hk hz hq Q1
  have N_k1 : w.heap.size ≤ k1 := by have := M.size; omega
  replace M := M.trans hq
  clear hk hz hq
  refine wl_alloc 40 #[.bool false, .int .u64 0, .int .u64 0, .int .u64 0, .int .u64 0, .int .i64 0] rfl (fun _ => by kernel_rfl) rfl ?_
  intro k2 w2 hk hz hq Q2
  have ne_k1_k2 : k1 ≠ k2 := by have := Q1.lt; omega
  have N_k2 : w.heap.size ≤ k2 := by have := M.size; omega
  replace Q1 := Q1.mo hq
  replace M := M.trans hq
  clear hk hz hq
  refine wl_mv (.const (.int .i64 (0))) (.int .i64 (0)) (fun _ => rfl) rfl rfl ?_
  refine w_nil ?_
  refine xn_then ?_
  refine w_seq ?_
  refine w_seq ?_
  refine w_reg ?_
  refine wl_load 40 (.tmp 3) (pt k1 0) (dc b (n) (s)) rfl rfl (run_row Q1 40 0 6 (dcl b (n) (s)) rfl Try.underlying40 rfl sz40) rfl ?_
  refine wl_call 30 [(.tmp 10)] _ [dc b (n) (s)] (.int .i64 (0)) rfl rfl (fun _ _ => by kernel_rfl) (rcheck_ok b n s _ hn0 hn h) rfl ?_
  intro w3 hq
  replace Q1 := Q1.mo hq
  replace Q2 := Q2.mo hq
  replace M := M.trans hq
  clear hq
  refine wl_mv (.tmp 11) (.int .i64 (0)) (fun _ => rfl) rfl rfl ?_
  refine w_nil ?_
  refine xn_then ?_
  refine w_seq ?_
  refine w_reg ?_
  refine wl_mv (.tmp 8) (.int .i64 (0)) (fun _ => rfl) rfl rfl ?_
  refine wl_bin (fun x y => do eqGuard .neq 32 (.tmp 12) (.const (.int .i64 (0))) x y; binOp .neq 32 x y) (.tmp 12) (.const (.int .i64 (0))) (.int .i64 (0)) (.int .i64 (0)) (.bool false) (fun _ => rfl) rfl rfl (by kernel_rfl) rfl ?_
  refine w_nil ?_
  refine xn_then ?_
  refine w_condF rfl ?_
  refine w_skip ?_
  refine xn_then ?_
  refine w_seq ?_
  refine w_seq ?_
  refine w_reg ?_
  refine wl_mv (.tmp 1) (.int .i64 S) (fun _ => rfl) rfl rfl ?_
  refine wl_mv (.tmp 2) (.int .i64 p) (fun _ => rfl) rfl rfl ?_
  refine wl_call 90 [(.tmp 16), (.tmp 17)] _ [.int .i64 S, .int .i64 p] (.int .i64 (22)) rfl rfl (fun _ _ => by kernel_rfl) (may_pol S p _ hS hp) rfl ?_
  intro w4 hq
  replace Q1 := Q1.mo hq
  replace Q2 := Q2.mo hq
  replace M := M.trans hq
  clear hq
  refine wl_mv (.tmp 18) (.int .i64 (22)) (fun _ => rfl) rfl rfl ?_
  refine w_nil ?_
  refine xn_then ?_
  refine w_seq ?_
  refine w_reg ?_
  refine wl_mv (.tmp 9) (.int .i64 (22)) (fun _ => rfl) rfl rfl ?_
  refine wl_bin (fun x y => do eqGuard .neq 32 (.tmp 19) (.const (.int .i64 (0))) x y; binOp .neq 32 x y) (.tmp 19) (.const (.int .i64 (0))) (.int .i64 (22)) (.int .i64 (0)) (.bool true) (fun _ => rfl) rfl rfl (by kernel_rfl) rfl ?_
  refine w_nil ?_
  refine xn_then ?_
  refine w_condT rfl ?_
  refine w_seq ?_
  refine w_reg ?_
  refine wl_build 40 [] [] (.agg #[.bool false, .int .u64 0, .int .u64 0, .int .u64 0, .int .u64 0, .int .i64 0]) rfl rfl (by kernel_rfl) rfl ?_
  refine wl_mv (.tmp 9) (.int .i64 (22)) (fun _ => rfl) rfl rfl ?_
  refine wl_st 40 (.tmp 6) (.tmp 21) k2 0 #[.bool false, .int .u64 0, .int .u64 0, .int .u64 0, .int .u64 0, .int .i64 0] [.bool false, .int .u64 0, .int .u64 0, .int .u64 0, .int .u64 0, .int .i64 0] [.bool false, .int .u64 0, .int .u64 0, .int .u64 0, .int .u64 0, .int .i64 0] Q2 rfl rfl rfl rfl rfl sz40 rfl rfl rfl ?_
  intro w5 hS Qn
  replace Q2 := Qn
  clear Qn
  replace Q1 := hS.other _ _ ne_k1_k2 Q1
  replace M := hS.mo _ N_k2 M
  clear hS
  refine wl_mv (.tmp 22) (.int .i64 (22)) (fun _ => rfl) rfl rfl ?_
  refine w_nil ?_
  refine xn_then ?_
  refine w_ret ?_
  refine xr_then ?_
  exact w_ret2 _ _ (.agg #[.bool false, .int .u64 0, .int .u64 0, .int .u64 0, .int .u64 0, .int .i64 0]) (.int .i64 (22)) rfl ⟨k2, rfl, (run_row Q2 40 0 6 [.bool false, .int .u64 0, .int .u64 0, .int .u64 0, .int .u64 0, .int .i64 0] rfl Try.underlying40 rfl sz40)⟩ rfl ⟨rfl, M⟩
theorem rresc_w (b : Bool) (n s S p : Int) (d0 d1 d2 d3 d4 d5 : Value) (e : Int) (w : World) (hn0 : 0 ≤ n) (hn : n < MM) (h : ck b n s = 0) (hS : sc S = true) (hp1 : 1 ≤ p) (hp5 : p ≤ 5) (hd : [d0, d1, d2, d3, d4, d5].all (·.oneCell') = true) (hrd : ∀ w, Calls Try.prog 91 #[.bool b, .agg #[.int .u64 0, .int .u64 0, .int .u64 0, .int .u64 0, .int .u64 (l0 n), .int .u64 (l1 n), .int .u64 (l2 n), .int .u64 (l3 n)], .int .i64 s, .int .i64 S, .int .i64 p] w fun e' w' => e' = .returned (.tuple #[.agg #[d0, d1, d2, d3, d4, d5], .int .i64 e]) ∧ Mo w w') :
    Calls Try.prog 44 #[dc b n s, .int .i64 S, .int .i64 p] w fun e' w' => e' = .returned (.tuple #[.agg #[d0, d1, d2, d3, d4, d5], .int .i64 e]) ∧ Mo w w' := by
  refine w_enter 35 Try.func44 Try.ntmps44 rfl rfl ?_
  have M : Mo w w := Mo.refl _
  refine w_seq ?_
  refine w_reg ?_
  refine wl_box 40 (.tmp 0) (dc b (n) (s)) ((dcr b (n) (s))) rfl rfl (fun _ => by kernel_rfl) rfl ?_
  intro k1 w1 hk hz hq Q1
  have N_k1 : w.heap.size ≤ k1 := by have := M.size; omega
  replace M := M.trans hq
  clear hk hz hq
  refine wl_alloc 40 #[.bool false, .int .u64 0, .int .u64 0, .int .u64 0, .int .u64 0, .int .i64 0] rfl (fun _ => by kernel_rfl) rfl ?_
  intro k2 w2 hk hz hq Q2
  have ne_k1_k2 : k1 ≠ k2 := by have := Q1.lt; omega
  have N_k2 : w.heap.size ≤ k2 := by have := M.size; omega
  replace Q1 := Q1.mo hq
  replace M := M.trans hq
  clear hk hz hq
  refine wl_mv (.const (.int .i64 (0))) (.int .i64 (0)) (fun _ => rfl) rfl rfl ?_
  refine w_nil ?_
  refine xn_then ?_
  refine w_seq ?_
  refine w_seq ?_
  refine w_reg ?_
  refine wl_load 40 (.tmp 3) (pt k1 0) (dc b (n) (s)) rfl rfl (run_row Q1 40 0 6 (dcl b (n) (s)) rfl Try.underlying40 rfl sz40) rfl ?_
  refine wl_call 30 [(.tmp 10)] _ [dc b (n) (s)] (.int .i64 (0)) rfl rfl (fun _ _ => by kernel_rfl) (rcheck_ok b n s _ hn0 hn h) rfl ?_
  intro w3 hq
  replace Q1 := Q1.mo hq
  replace Q2 := Q2.mo hq
  replace M := M.trans hq
  clear hq
  refine wl_mv (.tmp 11) (.int .i64 (0)) (fun _ => rfl) rfl rfl ?_
  refine w_nil ?_
  refine xn_then ?_
  refine w_seq ?_
  refine w_reg ?_
  refine wl_mv (.tmp 8) (.int .i64 (0)) (fun _ => rfl) rfl rfl ?_
  refine wl_bin (fun x y => do eqGuard .neq 32 (.tmp 12) (.const (.int .i64 (0))) x y; binOp .neq 32 x y) (.tmp 12) (.const (.int .i64 (0))) (.int .i64 (0)) (.int .i64 (0)) (.bool false) (fun _ => rfl) rfl rfl (by kernel_rfl) rfl ?_
  refine w_nil ?_
  refine xn_then ?_
  refine w_condF rfl ?_
  refine w_skip ?_
  refine xn_then ?_
  refine w_seq ?_
  refine w_seq ?_
  refine w_reg ?_
  refine wl_mv (.tmp 1) (.int .i64 S) (fun _ => rfl) rfl rfl ?_
  refine wl_mv (.tmp 2) (.int .i64 p) (fun _ => rfl) rfl rfl ?_
  refine wl_call 90 [(.tmp 16), (.tmp 17)] _ [.int .i64 S, .int .i64 p] (.int .i64 (0)) rfl rfl (fun _ _ => by kernel_rfl) (may_ok S p _ hS hp1 hp5) rfl ?_
  intro w4 hq
  replace Q1 := Q1.mo hq
  replace Q2 := Q2.mo hq
  replace M := M.trans hq
  clear hq
  refine wl_mv (.tmp 18) (.int .i64 (0)) (fun _ => rfl) rfl rfl ?_
  refine w_nil ?_
  refine xn_then ?_
  refine w_seq ?_
  refine w_reg ?_
  refine wl_mv (.tmp 9) (.int .i64 (0)) (fun _ => rfl) rfl rfl ?_
  refine wl_bin (fun x y => do eqGuard .neq 32 (.tmp 19) (.const (.int .i64 (0))) x y; binOp .neq 32 x y) (.tmp 19) (.const (.int .i64 (0))) (.int .i64 (0)) (.int .i64 (0)) (.bool false) (fun _ => rfl) rfl rfl (by kernel_rfl) rfl ?_
  refine w_nil ?_
  refine xn_then ?_
  refine w_condF rfl ?_
  refine w_skip ?_
  refine xn_then ?_
  refine w_seq ?_
  refine w_reg ?_
  refine wl_un (fun v => Instr.fieldAt 40 v 0) (.tmp 3) (pt k1 0) (pt k1 0) (fun _ => rfl) rfl (by kernel_rfl) rfl ?_
  refine wl_load 4 (.tmp 23) (pt k1 0) (.bool b) rfl rfl (run_one Q1 4 0 rfl Try.underlying4 rfl) rfl ?_
  refine wl_un (fun v => Instr.fieldAt 40 v 1) (.tmp 3) (pt k1 0) (pt k1 1) (fun _ => rfl) rfl (by kernel_rfl) rfl ?_
  refine wl_load 24 (.tmp 25) (pt k1 1) (.agg #[.int .u64 (l0 (n)), .int .u64 (l1 (n)), .int .u64 (l2 (n)), .int .u64 (l3 (n))]) rfl rfl (run_row Q1 24 1 4 [.int .u64 (l0 (n)), .int .u64 (l1 (n)), .int .u64 (l2 (n)), .int .u64 (l3 (n))] rfl Try.underlying24 rfl sz24) rfl ?_
  refine wl_build 87 [(1, (.tmp 26))] [(1, .agg #[.int .u64 (l0 (n)), .int .u64 (l1 (n)), .int .u64 (l2 (n)), .int .u64 (l3 (n))])] (.agg #[.int .u64 0, .int .u64 0, .int .u64 0, .int .u64 0, .int .u64 (l0 (n)), .int .u64 (l1 (n)), .int .u64 (l2 (n)), .int .u64 (l3 (n))]) rfl rfl (by kernel_rfl) rfl ?_
  refine wl_un (fun v => Instr.fieldAt 40 v 2) (.tmp 3) (pt k1 0) (pt k1 5) (fun _ => rfl) rfl (by kernel_rfl) rfl ?_
  refine wl_load 3 (.tmp 28) (pt k1 5) (.int .i64 (s)) rfl rfl (run_one Q1 3 5 rfl Try.underlying3 rfl) rfl ?_
  refine wl_mv (.tmp 1) (.int .i64 S) (fun _ => rfl) rfl rfl ?_
  refine wl_mv (.tmp 2) (.int .i64 p) (fun _ => rfl) rfl rfl ?_
  refine wl_call 91 [(.tmp 24), (.tmp 27), (.tmp 29), (.tmp 30), (.tmp 31)] _ [.bool b, .agg #[.int .u64 0, .int .u64 0, .int .u64 0, .int .u64 0, .int .u64 (l0 (n)), .int .u64 (l1 (n)), .int .u64 (l2 (n)), .int .u64 (l3 (n))], .int .i64 (s), .int .i64 S, .int .i64 p] (.tuple #[.agg #[d0, d1, d2, d3, d4, d5], .int .i64 e]) rfl rfl (fun _ _ => by kernel_rfl) (hrd _) rfl ?_
  intro w5 hq
  replace Q1 := Q1.mo hq
  replace Q2 := Q2.mo hq
  replace M := M.trans hq
  clear hq
  refine wl_un (fun v => Instr.extract v 0) (.tmp 32) (.tuple #[.agg #[d0, d1, d2, d3, d4, d5], .int .i64 e]) (.agg #[d0, d1, d2, d3, d4, d5]) (fun _ => rfl) rfl (by kernel_rfl) rfl ?_
  refine wl_un (fun v => Instr.extract v 1) (.tmp 32) (.tuple #[.agg #[d0, d1, d2, d3, d4, d5], .int .i64 e]) (.int .i64 e) (fun _ => rfl) rfl (by kernel_rfl) rfl ?_
  refine wl_st 40 (.tmp 6) (.tmp 33) k2 0 #[d0, d1, d2, d3, d4, d5] [.bool false, .int .u64 0, .int .u64 0, .int .u64 0, .int .u64 0, .int .i64 0] [d0, d1, d2, d3, d4, d5] Q2 rfl rfl rfl rfl rfl sz40 hd rfl rfl ?_
  intro w6 hS Qn
  replace Q2 := Qn
  clear Qn
  replace Q1 := hS.other _ _ ne_k1_k2 Q1
  replace M := hS.mo _ N_k2 M
  clear hS
  refine wl_mv (.tmp 34) (.int .i64 e) (fun _ => rfl) rfl rfl ?_
  refine w_nil ?_
  refine xn_then ?_
  refine w_ret ?_
  exact w_ret2 _ _ (.agg #[d0, d1, d2, d3, d4, d5]) (.int .i64 e) rfl ⟨k2, rfl, (run_row Q2 40 0 6 [d0, d1, d2, d3, d4, d5] rfl Try.underlying40 rfl sz40)⟩ rfl ⟨rfl, M⟩
theorem rmul_ok (b c : Bool) (n m s t : Int) (w : World) (hn0 : 0 ≤ n) (hn : n < MM) (hm0 : 0 ≤ m) (hm : m < MM) (h1 : ck b n s = 0) (h2 : ck c m t = 0) (hb1 : 0 ≤ s ∧ s ≤ 18) (hb2 : 0 ≤ t ∧ t ≤ 18) (hg : ¬ s + t > 18) :
    Calls Try.prog 40 #[dc b n s, dc c m t] w fun e' w' => e' = .returned (fx (b != c) (n * m) (s + t)) ∧ Mo w w' := by
  have bX := prod_bd hn0 hn hm0 hm
  obtain ⟨d0, d1, d2, d3, d4, d5, e, he, hd⟩ := fx_form (b != c) (n * m) (s + t)
  have ha := fun w => rat_x (b != c) (n * m) (s + t) w bX.1 bX.2
  rw [he] at ha ⊢
  exact rmul_w b c n m s t d0 d1 d2 d3 d4 d5 e w hn0 hn hm0 hm h1 h2 hb1 hb2 (decide_eq_false hg) hd ha
theorem rmulTo_ok (b c : Bool) (n m s t S p : Int) (w : World) (hn0 : 0 ≤ n) (hn : n < MM) (hm0 : 0 ≤ m) (hm : m < MM) (h1 : ck b n s = 0) (h2 : ck c m t = 0) (hb1 : 0 ≤ s ∧ s ≤ 18) (hb2 : 0 ≤ t ∧ t ≤ 18) (hS : sc S = true) (hp1 : 1 ≤ p) (hp5 : p ≤ 5) :
    Calls Try.prog 42 #[dc b n s, dc c m t, .int .i64 S, .int .i64 p] w fun e' w' => e' = .returned (fx (b != c) (rdV (b != c) (n * m) (s + t) S p) S) ∧ Mo w w' := by
  have bX := prod_bd hn0 hn hm0 hm
  obtain ⟨d0, d1, d2, d3, d4, d5, e, he, hd⟩ := fx_form (b != c) (rdV (b != c) (n * m) (s + t) S p) S
  have ha := fun w => round_n (b != c) (n * m) (s + t) S p w bX.1 bX.2 hS (by omega) (by omega) hp1 hp5
  rw [he] at ha ⊢
  exact rmulTo_w b c n m s t S p d0 d1 d2 d3 d4 d5 e w hn0 hn hm0 hm h1 h2 hS hp1 hp5 hb1 hb2 hd ha
theorem rresc_ok (b : Bool) (n s S p : Int) (w : World) (hn0 : 0 ≤ n) (hn : n < MM) (h : ck b n s = 0) (hb : 0 ≤ s ∧ s ≤ 18) (hS : sc S = true) (hp1 : 1 ≤ p) (hp5 : p ≤ 5) :
    Calls Try.prog 44 #[dc b n s, .int .i64 S, .int .i64 p] w fun e' w' => e' = .returned (fx b (rdV b n s S p) S) ∧ Mo w w' := by
  have h2 : n < MM * MM := by unfold MM at *; omega
  obtain ⟨d0, d1, d2, d3, d4, d5, e, he, hd⟩ := fx_form b (rdV b n s S p) S
  have ha := fun w => round_n b n s S p w hn0 h2 hS (by omega) (by omega) hp1 hp5
  have el : dw n = .agg #[.int .u64 0, .int .u64 0, .int .u64 0, .int .u64 0, .int .u64 (l0 n), .int .u64 (l1 n), .int .u64 (l2 n), .int .u64 (l3 n)] := by
    unfold dw; rw [Int.ediv_eq_zero_of_lt hn0 hn]; rfl
  rw [he, el] at ha
  rw [he]
  exact rresc_w b n s S p d0 d1 d2 d3 d4 d5 e w hn0 hn h hS hp1 hp5 hd ha
/-- The program's product, rounded. -/
theorem fx_yes {b : Bool} {V S : Int} (h0 : 0 ≤ V) (h : V < MM) : fx b V S = .tuple #[dz (sv b V) S, .int .i64 0] := by unfold fx; rw [if_pos h, dc_sv h0]
theorem fx_no {b : Bool} {V S : Int} (h : ¬ V < MM) : fx b V S = er 7 := by unfold fx; rw [if_neg h]
theorem mulTo_x (b c : Bool) (n m s t S p : Int) (w : World) (hn0 : 0 ≤ n) (hn : n < MM) (hm0 : 0 ≤ m) (hm : m < MM) (h1 : ck b n s = 0) (h2 : ck c m t = 0) (hb1 : 0 ≤ s ∧ s ≤ 18) (hb2 : 0 ≤ t ∧ t ≤ 18) (hS : sc S = true) (hp1 : 1 ≤ p) (hp5 : p ≤ 5) :
    Calls Try.prog 41 #[dc b n s, dc c m t, .int .i64 S, .int .i64 p] w fun e' w' => e' = .returned (fx (b != c) (rdV (b != c) (n * m) (s + t) S p) S) ∧ Mo w w' := by
  obtain ⟨S0, S1⟩ := sc_iff.1 hS
  have bX := prod_bd hn0 hn hm0 hm
  unfold rdV
  by_cases hle : s + t ≤ S
  · rw [if_pos hle]
    obtain ⟨g, hg⟩ : ∃ g : Nat, S - (s + t) = (g : Int) := ⟨(S - (s + t)).toNat, by omega⟩
    rw [hg, pw_nat]
    have pg : (1 : Int) ≤ 10 ^ g := by have : (0 : Int) < 10 ^ g := Int.pow_pos (by decide); omega
    have hge : n * m * 1 ≤ n * m * 10 ^ g := Int.mul_le_mul_of_nonneg_left pg bX.1
    by_cases hx : n * m < MM
    · by_cases hr : n * m * 10 ^ g < MM
      · rw [fx_yes (by omega) hr]
        exact mulTo_up_room b c n m s t S p w hn0 hn hm0 hm h1 h2 hS hp1 hp5 g (by omega) (by omega) hb1 hb2 hx hr
      · rw [fx_no hr]
        exact mulTo_up_full b c n m s t S p w hn0 hn hm0 hm h1 h2 hS hp1 hp5 g (by omega) (by omega) hb1 hb2 hx (by omega)
    · rw [fx_no (by omega)]
      exact mulTo_over b c n m s t S p w hn0 hn hm0 hm h1 h2 hS hp1 hp5 g (by omega) (by omega) hb1 hb2 (by omega)
  · rw [if_neg hle]
    obtain ⟨f, hf⟩ : ∃ f : Nat, s + t - S = (f : Int) := ⟨(s + t - S).toNat, by omega⟩
    rw [hf, Int.toNat_natCast]
    by_cases hr : ro (b != c) (n * m) f p < MM
    · rw [fx_yes (ro_nn bX.1) hr]
      exact mulTo_dn_room b c n m s t S p w hn0 hn hm0 hm h1 h2 hS hp1 hp5 f hf (by omega) (by omega) hb1 hb2 hr
    · rw [fx_no hr]
      exact mulTo_dn_full b c n m s t S p w hn0 hn hm0 hm h1 h2 hS hp1 hp5 f hf (by omega) (by omega) hb1 hb2 (by omega)
theorem rescale_x (b : Bool) (n s S p : Int) (w : World) (hn0 : 0 ≤ n) (hn : n < MM) (h : ck b n s = 0) (hb : 0 ≤ s ∧ s ≤ 18) (hS : sc S = true) (hp1 : 1 ≤ p) (hp5 : p ≤ 5) :
    Calls Try.prog 43 #[dc b n s, .int .i64 S, .int .i64 p] w fun e' w' => e' = .returned (fx b (rdV b n s S p) S) ∧ Mo w w' := by
  have ha := fun w => mulTo_x b false n 1 s 0 S p w hn0 hn (by decide) (by decide) h (by decide) hb (by decide) hS hp1 hp5
  have e : (b != false) = b := by simp
  rw [e, Int.mul_one, Int.add_zero] at ha
  have h0 : 0 ≤ rdV b n s S p := by
    unfold rdV; split
    · exact Int.mul_nonneg hn0 (Int.le_of_lt (pw_pos _))
    · exact ro_nn hn0
  by_cases hr : rdV b n s S p < MM
  · rw [fx_yes h0 hr] at ha ⊢
    exact rescale_ok b n s S p _ w ha
  · rw [fx_no hr] at ha ⊢
    exact rescale_er b n s S p 7 w ha
theorem mul_x (b c : Bool) (n m s t : Int) (w : World) (hn0 : 0 ≤ n) (hn : n < MM) (hm0 : 0 ≤ m) (hm : m < MM) (h1 : ck b n s = 0) (h2 : ck c m t = 0) (hb1 : 0 ≤ s ∧ s ≤ 18) (hb2 : 0 ≤ t ∧ t ≤ 18) (hg : ¬ s + t > 18) :
    Calls Try.prog 39 #[dc b n s, dc c m t] w fun e' w' => e' = .returned (fx (b != c) (n * m) (s + t)) ∧ Mo w w' := by
  have bX := prod_bd hn0 hn hm0 hm
  have hs : sc (s + t) = true := by rw [sc_iff]; omega
  by_cases hr : n * m < MM
  · rw [fx_yes bX.1 hr]
    exact dmul_room b c n m s t w hn0 hn hm0 hm h1 h2 hb1 hb2 hs hr
  · rw [fx_no hr]
    exact dmul_full b c n m s t w hn0 hn hm0 hm h1 h2 hb1 hb2 hs (by omega)
theorem divk_n (n : Int) (k : Nat) (w : World) (h0 : 0 ≤ n) (h : n < MM) (hk : k ≤ 77) : Calls Try.prog 18 #[.agg #[.int .u64 0, .int .u64 0, .int .u64 0, .int .u64 0], nv n, nv (10 ^ k)] w fun e w' => e = .returned (.tuple #[nv (n / 10 ^ k), nv (n % 10 ^ k), .bool true]) ∧ Mo w w' := by
  have tb := ten_bd k hk
  have := div_n 0 n (10 ^ k) w (by decide) (by decide) h0 h (by omega) tb.2
  have e1 : dq 0 n (10 ^ k) = n / 10 ^ k := by unfold dq; rw [if_neg (by omega)]; simp
  have e2 : dr 0 n (10 ^ k) = n % 10 ^ k := by unfold dr; rw [if_neg (by omega)]; simp
  have e3 : dok 0 (10 ^ k) = true := decide_eq_true tb.1
  rw [e1, e2, e3] at this
  exact this
theorem modk_z {n : Int} {k : Nat} (hk : k ≤ 77) : (l0 (n % 10 ^ k) == 0 && (l1 (n % 10 ^ k) == 0 && (l2 (n % 10 ^ k) == 0 && l3 (n % 10 ^ k) == 0))) = decide (n % 10 ^ k = 0) := by
  have tb := ten_bd k hk
  have h1 := Int.emod_nonneg n (b := (10 : Int) ^ k) (by omega)
  have h2 := Int.emod_lt_of_pos n tb.1
  exact zb h1 (by omega)
theorem whole_no (b : Bool) (n s : Int) (h : ck b n s ≠ 0) (w : World) (hn0 : 0 ≤ n) (hn : n < MM) :
    Calls Try.prog 33 #[dc b (n) (s)] w fun e' w' => e' = .returned (.bool (false)) ∧ Mo w w' := by
  refine w_enter 23 Try.func33 Try.ntmps33 rfl rfl ?_
  have M : Mo w w := Mo.refl _
  refine w_seq ?_
  refine w_reg ?_
  refine wl_box 40 (.tmp 0) (dc b (n) (s)) ((dcr b (n) (s))) rfl rfl (fun _ => by kernel_rfl) rfl ?_
  intro k1 w1 hk hz hq Q1
  have N_k1 : w.heap.size ≤ k1 := by have := M.size; omega
  replace M := M.trans hq
  clear hk hz hq
  refine wl_mv (.const (.bool false)) (.bool false) (fun _ => rfl) rfl rfl ?_
  refine w_nil ?_
  refine xn_then ?_
  refine w_seq ?_
  refine w_seq ?_
  refine w_reg ?_
  refine wl_load 40 (.tmp 1) (pt k1 0) (dc b (n) (s)) rfl rfl (run_row Q1 40 0 6 (dcl b (n) (s)) rfl Try.underlying40 rfl sz40) rfl ?_
  refine wl_call 29 [(.tmp 6)] _ [dc b (n) (s)] (.int .i64 (20)) rfl rfl (fun _ _ => by kernel_rfl) (check_no b n s _ hn0 hn h) rfl ?_
  intro w2 hq
  replace Q1 := Q1.mo hq
  replace M := M.trans hq
  clear hq
  refine wl_bin (fun x y => do eqGuard .neq 32 (.tmp 7) (.const (.int .i64 (0))) x y; binOp .neq 32 x y) (.tmp 7) (.const (.int .i64 (0))) (.int .i64 (20)) (.int .i64 (0)) (.bool true) (fun _ => rfl) rfl rfl (by kernel_rfl) rfl ?_
  refine w_nil ?_
  refine xn_then ?_
  refine w_condT rfl ?_
  refine w_seq ?_
  refine w_reg ?_
  refine wl_mv (.const (.bool false)) (.bool false) (fun _ => rfl) rfl rfl ?_
  refine w_nil ?_
  refine xn_then ?_
  refine w_ret ?_
  refine xr_then ?_
  exact w_ret1 _ (.bool false) rfl rfl ⟨rfl, M⟩
theorem whole_ok (b : Bool) (n : Int) (k : Nat) (hk : k ≤ 18) (h : ck b n (k : Int) = 0) (w : World) (hn0 : 0 ≤ n) (hn : n < MM) :
    Calls Try.prog 33 #[dc b (n) ((k : Int))] w fun e' w' => e' = .returned (.bool (decide (n % 10 ^ k = 0))) ∧ Mo w w' := by
  refine w_enter 23 Try.func33 Try.ntmps33 rfl rfl ?_
  have M : Mo w w := Mo.refl _
  refine w_seq ?_
  refine w_reg ?_
  refine wl_box 40 (.tmp 0) (dc b (n) (k)) ((dcr b (n) (k))) rfl rfl (fun _ => by kernel_rfl) rfl ?_
  intro k1 w1 hk hz hq Q1
  have N_k1 : w.heap.size ≤ k1 := by have := M.size; omega
  replace M := M.trans hq
  clear hk hz hq
  refine wl_mv (.const (.bool false)) (.bool false) (fun _ => rfl) rfl rfl ?_
  refine w_nil ?_
  refine xn_then ?_
  refine w_seq ?_
  refine w_seq ?_
  refine w_reg ?_
  refine wl_load 40 (.tmp 1) (pt k1 0) (dc b (n) (k)) rfl rfl (run_row Q1 40 0 6 (dcl b (n) (k)) rfl Try.underlying40 rfl sz40) rfl ?_
  refine wl_call 29 [(.tmp 6)] _ [dc b (n) (k)] (.int .i64 (0)) rfl rfl (fun _ _ => by kernel_rfl) (check_ok b n (k : Int) _ hn0 hn h) rfl ?_
  intro w2 hq
  replace Q1 := Q1.mo hq
  replace M := M.trans hq
  clear hq
  refine wl_bin (fun x y => do eqGuard .neq 32 (.tmp 7) (.const (.int .i64 (0))) x y; binOp .neq 32 x y) (.tmp 7) (.const (.int .i64 (0))) (.int .i64 (0)) (.int .i64 (0)) (.bool false) (fun _ => rfl) rfl rfl (by kernel_rfl) rfl ?_
  refine w_nil ?_
  refine xn_then ?_
  refine w_condF rfl ?_
  refine w_skip ?_
  refine xn_then ?_
  refine w_seq ?_
  refine w_any 13 [.inl (.agg #[.int .u64 0, .int .u64 0, .int .u64 0, .int .u64 0]), .inl (pt k1 1), .inl (.agg #[.int .u64 (l0 (n)), .int .u64 (l1 (n)), .int .u64 (l2 (n)), .int .u64 (l3 (n))]), .inl (pt k1 5), .inl (.int .i64 (k)), .inl (nv (10 ^ k)), .inl (.tuple #[nv (n / 10 ^ k), nv (n % 10 ^ k), .bool true]), .inl (.tuple #[nv (n / 10 ^ k), nv (n % 10 ^ k), .bool true]), .inl (nv (n / 10 ^ k)), .inl (nv (n % 10 ^ k)), .inl (.bool true), .inr [.int .u64 0, .int .u64 0, .int .u64 0, .int .u64 0], .inr [.int .u64 0, .int .u64 0, .int .u64 0, .int .u64 0]] [9, 10] (by kernel_rfl) (by kernel_rfl) (by kernel_rfl) (by kernel_rfl) rfl (by kernel_rfl) (by kernel_rfl) (late_cons ⟨_, _, rfl, rfl, fun _ _ _ _ h => h, fun f hd => ⟨rfl, la_un (fun v => Instr.extract v 1) (.tmp 9) (.tuple #[nv (n / 10 ^ k), nv (n % 10 ^ k), .bool true]) (nv (n % 10 ^ k)) (fun _ => rfl) (hd 7 rfl _ rfl) (fun w => by kernel_rfl)⟩⟩ (late_cons ⟨_, _, rfl, rfl, fun _ _ _ _ h => h, fun f hd => ⟨rfl, la_un (fun v => Instr.extract v 2) (.tmp 9) (.tuple #[nv (n / 10 ^ k), nv (n % 10 ^ k), .bool true]) (.bool true) (fun _ => rfl) (hd 7 rfl _ rfl) (fun w => by kernel_rfl)⟩⟩ late_nil)) ?_ ?_ ?_
  · exact Ds.start (by kernel_rfl)
  · refine ea_cons ?_ (ea_cons ?_ (ea_cons ?_ (ea_cons ?_ (ea_cons ?_ (ea_cons ?_ (ea_cons ?_ (ea_cons ?_ (ea_cons ?_ (ea_cons ?_ (ea_cons ?_ (ea_cons ?_ (ea_cons ?_ (ea_nil)))))))))))))
    · exact og_eq (.agg #[.int .u64 0, .int .u64 0, .int .u64 0, .int .u64 0]) rfl (fun f wf hq hd K hK => go_run rfl (wo_build 24 [] [] (.agg #[.int .u64 0, .int .u64 0, .int .u64 0, .int .u64 0]) rfl rfl (by kernel_rfl) (hK _ (Mo.refl _))))
    · exact og_eq (pt k1 1) rfl (fun f wf hq hd K hK => go_run rfl (wo_un (fun v => Instr.fieldAt 40 v 1) (.tmp 1) (pt k1 0) (pt k1 1) (fun _ => rfl) rfl (by kernel_rfl) (hK _ (Mo.refl _))))
    · exact og_eq (.agg #[.int .u64 (l0 (n)), .int .u64 (l1 (n)), .int .u64 (l2 (n)), .int .u64 (l3 (n))]) rfl (fun f wf hq hd K hK => have Q1 := Q1.mo hq; go_run rfl (wo_load 24 (.tmp 11) (pt k1 1) (.agg #[.int .u64 (l0 (n)), .int .u64 (l1 (n)), .int .u64 (l2 (n)), .int .u64 (l3 (n))]) rfl (hd 1 rfl) (run_row Q1 24 1 4 [.int .u64 (l0 (n)), .int .u64 (l1 (n)), .int .u64 (l2 (n)), .int .u64 (l3 (n))] rfl Try.underlying24 rfl sz24) (hK _ (Mo.refl _))))
    · exact og_eq (pt k1 5) rfl (fun f wf hq hd K hK => go_run rfl (wo_un (fun v => Instr.fieldAt 40 v 2) (.tmp 1) (pt k1 0) (pt k1 5) (fun _ => rfl) rfl (by kernel_rfl) (hK _ (Mo.refl _))))
    · exact og_eq (.int .i64 (k)) rfl (fun f wf hq hd K hK => have Q1 := Q1.mo hq; go_run rfl (wo_load 3 (.tmp 13) (pt k1 5) (.int .i64 (k)) rfl (hd 3 rfl) (run_one Q1 3 5 rfl Try.underlying3 rfl) (hK _ (Mo.refl _))))
    · exact og_eq (nv (10 ^ k)) rfl (fun f wf hq hd K hK => go_run rfl (wo_call 74 [(.tmp 14)] _ [.int .i64 (k)] (nv (10 ^ k)) rfl (li1 (hd 4 rfl)) (fun _ _ => by kernel_rfl) (dten_n k _ (by omega)) hK))
    · exact og_eq (.tuple #[nv (n / 10 ^ k), nv (n % 10 ^ k), .bool true]) rfl (fun f wf hq hd K hK => go_run rfl (wo_call 18 [(.tmp 10), (.tmp 12), (.tmp 15)] _ [.agg #[.int .u64 0, .int .u64 0, .int .u64 0, .int .u64 0], .agg #[.int .u64 (l0 (n)), .int .u64 (l1 (n)), .int .u64 (l2 (n)), .int .u64 (l3 (n))], nv (10 ^ k)] (.tuple #[nv (n / 10 ^ k), nv (n % 10 ^ k), .bool true]) rfl (li3 (hd 0 rfl) (hd 2 rfl) (hd 5 rfl)) (fun _ _ => by kernel_rfl) (divk_n n k _ hn0 hn (by omega)) hK))
    · exact og_eq (.tuple #[nv (n / 10 ^ k), nv (n % 10 ^ k), .bool true]) rfl (fun f wf hq hd K hK => go_run rfl (wo_mv (.tmp 16) (.tuple #[nv (n / 10 ^ k), nv (n % 10 ^ k), .bool true]) (fun _ => rfl) (hd 6 rfl) (hK _ (Mo.refl _))))
    · exact og_eq (nv (n / 10 ^ k)) rfl (fun f wf hq hd K hK => go_run rfl (wo_un (fun v => Instr.extract v 0) (.tmp 9) (.tuple #[nv (n / 10 ^ k), nv (n % 10 ^ k), .bool true]) (nv (n / 10 ^ k)) (fun _ => rfl) (hd 7 rfl) (by kernel_rfl) (hK _ (Mo.refl _))))
    · exact og_eq (nv (n % 10 ^ k)) rfl (fun f wf hq hd K hK => go_run rfl (wo_un (fun v => Instr.extract v 1) (.tmp 9) (.tuple #[nv (n / 10 ^ k), nv (n % 10 ^ k), .bool true]) (nv (n % 10 ^ k)) (fun _ => rfl) (hd 7 rfl) (by kernel_rfl) (hK _ (Mo.refl _))))
    · exact og_eq (.bool true) rfl (fun f wf hq hd K hK => go_run rfl (wo_un (fun v => Instr.extract v 2) (.tmp 9) (.tuple #[nv (n / 10 ^ k), nv (n % 10 ^ k), .bool true]) (.bool true) (fun _ => rfl) (hd 7 rfl) (by kernel_rfl) (hK _ (Mo.refl _))))
    · exact og_new [.int .u64 0, .int .u64 0, .int .u64 0, .int .u64 0] rfl (fun f wf hq hd K hK => go_run rfl (wo_alloc 24 #[.int .u64 0, .int .u64 0, .int .u64 0, .int .u64 0] rfl (fun _ => by kernel_rfl) hK))
    · exact og_new [.int .u64 0, .int .u64 0, .int .u64 0, .int .u64 0] rfl (fun f wf hq hd K hK => go_run rfl (wo_alloc 24 #[.int .u64 0, .int .u64 0, .int .u64 0, .int .u64 0] rfl (fun _ => by kernel_rfl) hK))
  intro kf3 w3 hq hR hne
  obtain ⟨N_k2, Q2⟩ := hR 11 _ rfl rfl
  obtain ⟨N_k3, Q3⟩ := hR 12 _ rfl rfl
  have ne_k1_k2 : k1 ≠ (kf3 11) := by have := Q1.lt; omega
  have ne_k2_k3 := hne 11 12 rfl rfl rfl rfl (by decide)
  replace N_k2 := Nat.le_trans M.size N_k2
  have ne_k1_k3 : k1 ≠ (kf3 12) := by have := Q1.lt; omega
  replace N_k3 := Nat.le_trans M.size N_k3
  replace Q1 := Q1.mo hq
  replace M := M.trans hq
  clear hq hR hne
  refine wl_st 24 (.tmp 3) (.tmp 17) (kf3 11) 0 (nvar (n / 10 ^ k)) [.int .u64 0, .int .u64 0, .int .u64 0, .int .u64 0] (nvli (n / 10 ^ k)) Q2 rfl rfl rfl rfl rfl sz24 rfl rfl rfl ?_
  intro w4 hS Qn
  replace Q2 := Qn
  clear Qn
  replace Q1 := hS.other _ _ ne_k1_k2 Q1
  replace Q3 := hS.other _ _ ne_k2_k3.symm Q3
  replace M := hS.mo _ N_k2 M
  clear hS
  refine wl_st 24 (.tmp 4) (.tmp 18) (kf3 12) 0 (nvar (n % 10 ^ k)) [.int .u64 0, .int .u64 0, .int .u64 0, .int .u64 0] (nvli (n % 10 ^ k)) Q3 rfl rfl rfl rfl rfl sz24 rfl rfl rfl ?_
  intro w5 hS Qn
  replace Q3 := Qn
  clear Qn
  replace Q1 := hS.other _ _ ne_k1_k3 Q1
  replace Q2 := hS.other _ _ ne_k2_k3 Q2
  replace M := hS.mo _ N_k3 M
  clear hS
  refine wl_mv (.tmp 19) (.bool true) (fun _ => rfl) rfl rfl ?_
  refine w_nil ?_
  refine xn_then ?_
  refine w_seq ?_
  refine w_reg ?_
  refine wl_load 24 (.tmp 4) (pt (kf3 12) 0) (nv (n % 10 ^ k)) rfl rfl (run_row Q3 24 0 4 (nvli (n % 10 ^ k)) rfl Try.underlying24 rfl sz24) rfl ?_
  refine wl_build 24 [] [] (.agg #[.int .u64 0, .int .u64 0, .int .u64 0, .int .u64 0]) rfl rfl (by kernel_rfl) rfl ?_
  refine wl_bin (fun x y => do eqGuard .eql 24 (.tmp 20) (.tmp 21) x y; binOp .eql 24 x y) (.tmp 20) (.tmp 21) (nv (n % 10 ^ k)) (.agg #[.int .u64 0, .int .u64 0, .int .u64 0, .int .u64 0]) (.bool (decide (n % 10 ^ k = 0))) (fun _ => rfl) rfl rfl (eqn_run (modk_z (by omega)) _ _ _) rfl ?_
  refine wl_mv (.tmp 22) (.bool (decide (n % 10 ^ k = 0))) (fun _ => rfl) rfl rfl ?_
  refine w_nil ?_
  refine xn_then ?_
  refine w_ret ?_
  exact w_ret1 _ (.bool (decide (n % 10 ^ k = 0))) rfl rfl ⟨rfl, M⟩
theorem rwhole_no (b : Bool) (n : Int) (s : Int) (h : ck b n s ≠ 0) (w : World) (hn0 : 0 ≤ n) (hn : n < MM) :
    Calls Try.prog 34 #[dc b (n) (s)] w fun e' w' => e' = .returned (.bool (false)) ∧ Mo w w' := by
  refine w_enter 17 Try.func34 Try.ntmps34 rfl rfl ?_
  have M : Mo w w := Mo.refl _
  refine w_seq ?_
  refine w_reg ?_
  refine wl_box 40 (.tmp 0) (dc b (n) (s)) ((dcr b (n) (s))) rfl rfl (fun _ => by kernel_rfl) rfl ?_
  intro k1 w1 hk hz hq Q1
  have N_k1 : w.heap.size ≤ k1 := by have := M.size; omega
  replace M := M.trans hq
  clear hk hz hq
  refine wl_mv (.const (.bool false)) (.bool false) (fun _ => rfl) rfl rfl ?_
  refine w_nil ?_
  refine xn_then ?_
  refine w_seq ?_
  refine w_reg ?_
  refine wl_load 40 (.tmp 1) (pt k1 0) (dc b (n) (s)) rfl rfl (run_row Q1 40 0 6 (dcl b (n) (s)) rfl Try.underlying40 rfl sz40) rfl ?_
  refine wl_call 46 [(.tmp 6)] _ [dc b (n) (s)] (.tuple #[.agg #[.bool false, .int .u64 0, .int .u64 0, .int .u64 0, .int .u64 0, .int .i64 0], .int .i64 (20)]) rfl rfl (fun _ _ => by kernel_rfl) (rtrim_no b n s _ hn0 hn h) rfl ?_
  intro w2 hq
  replace Q1 := Q1.mo hq
  replace M := M.trans hq
  clear hq
  refine wl_mv (.tmp 7) (.tuple #[.agg #[.bool false, .int .u64 0, .int .u64 0, .int .u64 0, .int .u64 0, .int .i64 0], .int .i64 (20)]) (fun _ => rfl) rfl rfl ?_
  refine wl_un (fun v => Instr.extract v 0) (.tmp 5) (.tuple #[.agg #[.bool false, .int .u64 0, .int .u64 0, .int .u64 0, .int .u64 0, .int .i64 0], .int .i64 (20)]) (.agg #[.bool false, .int .u64 0, .int .u64 0, .int .u64 0, .int .u64 0, .int .i64 0]) (fun _ => rfl) rfl (by kernel_rfl) rfl ?_
  refine wl_un (fun v => Instr.extract v 1) (.tmp 5) (.tuple #[.agg #[.bool false, .int .u64 0, .int .u64 0, .int .u64 0, .int .u64 0, .int .i64 0], .int .i64 (20)]) (.int .i64 (20)) (fun _ => rfl) rfl (by kernel_rfl) rfl ?_
  refine wl_alloc 40 #[.bool false, .int .u64 0, .int .u64 0, .int .u64 0, .int .u64 0, .int .i64 0] rfl (fun _ => by kernel_rfl) rfl ?_
  intro k2 w3 hk hz hq Q2
  have ne_k1_k2 : k1 ≠ k2 := by have := Q1.lt; omega
  have N_k2 : w.heap.size ≤ k2 := by have := M.size; omega
  replace Q1 := Q1.mo hq
  replace M := M.trans hq
  clear hk hz hq
  refine wl_st 40 (.tmp 3) (.tmp 8) k2 0 #[.bool false, .int .u64 0, .int .u64 0, .int .u64 0, .int .u64 0, .int .i64 0] [.bool false, .int .u64 0, .int .u64 0, .int .u64 0, .int .u64 0, .int .i64 0] [.bool false, .int .u64 0, .int .u64 0, .int .u64 0, .int .u64 0, .int .i64 0] Q2 rfl rfl rfl rfl rfl sz40 rfl rfl rfl ?_
  intro w4 hS Qn
  replace Q2 := Qn
  clear Qn
  replace Q1 := hS.other _ _ ne_k1_k2 Q1
  replace M := hS.mo _ N_k2 M
  clear hS
  refine wl_mv (.tmp 9) (.int .i64 (20)) (fun _ => rfl) rfl rfl ?_
  refine w_nil ?_
  refine xn_then ?_
  refine w_seq ?_
  refine w_reg ?_
  refine wl_mv (.tmp 4) (.int .i64 (20)) (fun _ => rfl) rfl rfl ?_
  refine wl_bin (fun x y => do eqGuard .eql 32 (.tmp 10) (.const (.int .i64 (0))) x y; binOp .eql 32 x y) (.tmp 10) (.const (.int .i64 (0))) (.int .i64 (20)) (.int .i64 (0)) (.bool false) (fun _ => rfl) rfl rfl (by kernel_rfl) rfl ?_
  refine wl_mv (.tmp 11) (.bool false) (fun _ => rfl) rfl rfl ?_
  refine wl_skip rfl ?_
  refine wl_skip rfl ?_
  refine wl_skip rfl ?_
  refine wl_pick (.tmp 12) (.tmp 15) (.const (.bool false)) false (.bool false) (fun _ => rfl) rfl rfl rfl ?_
  refine wl_mv (.tmp 16) (.bool false) (fun _ => rfl) rfl rfl ?_
  refine w_nil ?_
  refine xn_then ?_
  refine w_ret ?_
  exact w_ret1 _ (.bool false) rfl rfl ⟨rfl, M⟩
theorem rwhole_w (b : Bool) (n : Int) (k : Nat) (hk : k ≤ 18) (h : ck b n (k : Int) = 0) (w : World) (hn0 : 0 ≤ n) (hn : n < MM) :
    Calls Try.prog 34 #[dc b (n) ((k : Int))] w fun e' w' => e' = .returned (.bool ((((trN k n).2 : Nat) : Int) == 0)) ∧ Mo w w' := by
  refine w_enter 17 Try.func34 Try.ntmps34 rfl rfl ?_
  have M : Mo w w := Mo.refl _
  refine w_seq ?_
  refine w_reg ?_
  refine wl_box 40 (.tmp 0) (dc b (n) ((k : Int))) ((dcr b (n) ((k : Int)))) rfl rfl (fun _ => by kernel_rfl) rfl ?_
  intro k1 w1 hk hz hq Q1
  have N_k1 : w.heap.size ≤ k1 := by have := M.size; omega
  replace M := M.trans hq
  clear hk hz hq
  refine wl_mv (.const (.bool false)) (.bool false) (fun _ => rfl) rfl rfl ?_
  refine w_nil ?_
  refine xn_then ?_
  refine w_seq ?_
  refine w_reg ?_
  refine wl_load 40 (.tmp 1) (pt k1 0) (dc b (n) ((k : Int))) rfl rfl (run_row Q1 40 0 6 (dcl b (n) ((k : Int))) rfl Try.underlying40 rfl sz40) rfl ?_
  refine wl_call 46 [(.tmp 6)] _ [dc b (n) ((k : Int))] (.tuple #[dc b ((trN k n).1) (((trN k n).2 : Nat)), .int .i64 (0)]) rfl rfl (fun _ _ => by kernel_rfl) (rtrim_ok b n k _ hn0 hn hk h) rfl ?_
  intro w2 hq
  replace Q1 := Q1.mo hq
  replace M := M.trans hq
  clear hq
  refine wl_mv (.tmp 7) (.tuple #[dc b ((trN k n).1) (((trN k n).2 : Nat)), .int .i64 (0)]) (fun _ => rfl) rfl rfl ?_
  refine wl_un (fun v => Instr.extract v 0) (.tmp 5) (.tuple #[dc b ((trN k n).1) (((trN k n).2 : Nat)), .int .i64 (0)]) (dc b ((trN k n).1) (((trN k n).2 : Nat))) (fun _ => rfl) rfl (by kernel_rfl) rfl ?_
  refine wl_un (fun v => Instr.extract v 1) (.tmp 5) (.tuple #[dc b ((trN k n).1) (((trN k n).2 : Nat)), .int .i64 (0)]) (.int .i64 (0)) (fun _ => rfl) rfl (by kernel_rfl) rfl ?_
  refine wl_alloc 40 #[.bool false, .int .u64 0, .int .u64 0, .int .u64 0, .int .u64 0, .int .i64 0] rfl (fun _ => by kernel_rfl) rfl ?_
  intro k2 w3 hk hz hq Q2
  have ne_k1_k2 : k1 ≠ k2 := by have := Q1.lt; omega
  have N_k2 : w.heap.size ≤ k2 := by have := M.size; omega
  replace Q1 := Q1.mo hq
  replace M := M.trans hq
  clear hk hz hq
  refine wl_st 40 (.tmp 3) (.tmp 8) k2 0 (dcr b ((trN k n).1) (((trN k n).2 : Nat))) [.bool false, .int .u64 0, .int .u64 0, .int .u64 0, .int .u64 0, .int .i64 0] (dcl b ((trN k n).1) (((trN k n).2 : Nat))) Q2 rfl rfl rfl rfl rfl sz40 rfl rfl rfl ?_
  intro w4 hS Qn
  replace Q2 := Qn
  clear Qn
  replace Q1 := hS.other _ _ ne_k1_k2 Q1
  replace M := hS.mo _ N_k2 M
  clear hS
  refine wl_mv (.tmp 9) (.int .i64 (0)) (fun _ => rfl) rfl rfl ?_
  refine w_nil ?_
  refine xn_then ?_
  refine w_seq ?_
  refine w_reg ?_
  refine wl_mv (.tmp 4) (.int .i64 (0)) (fun _ => rfl) rfl rfl ?_
  refine wl_bin (fun x y => do eqGuard .eql 32 (.tmp 10) (.const (.int .i64 (0))) x y; binOp .eql 32 x y) (.tmp 10) (.const (.int .i64 (0))) (.int .i64 (0)) (.int .i64 (0)) (.bool true) (fun _ => rfl) rfl rfl (by kernel_rfl) rfl ?_
  refine wl_mv (.tmp 11) (.bool true) (fun _ => rfl) rfl rfl ?_
  refine wl_un (fun v => Instr.fieldAt 40 v 2) (.tmp 3) (pt k2 0) (pt k2 5) (fun _ => rfl) rfl (by kernel_rfl) rfl ?_
  refine wl_load 3 (.tmp 13) (pt k2 5) (.int .i64 (((trN k n).2 : Nat))) rfl rfl (run_one Q2 3 5 rfl Try.underlying3 rfl) rfl ?_
  refine wl_bin (fun x y => do eqGuard .eql 3 (.tmp 14) (.const (.int .i64 (0))) x y; binOp .eql 3 x y) (.tmp 14) (.const (.int .i64 (0))) (.int .i64 (((trN k n).2 : Nat))) (.int .i64 (0)) (.bool ((((trN k n).2 : Nat) : Int) == 0)) (fun _ => rfl) rfl rfl (eqi3_run rfl _ _ _) rfl ?_
  refine wl_pick (.tmp 12) (.tmp 15) (.const (.bool false)) true (.bool ((((trN k n).2 : Nat) : Int) == 0)) (fun _ => rfl) rfl rfl rfl ?_
  refine wl_mv (.tmp 16) (.bool ((((trN k n).2 : Nat) : Int) == 0)) (fun _ => rfl) rfl rfl ?_
  refine w_nil ?_
  refine xn_then ?_
  refine w_ret ?_
  exact w_ret1 _ (.bool ((((trN k n).2 : Nat) : Int) == 0)) rfl rfl ⟨rfl, M⟩
theorem trN_whole : ∀ (k : Nat) (n : Int), ((((trN k n).2 : Nat) : Int) == 0) = decide (n % 10 ^ k = 0)
  | 0, n => by simp [trN]
  | k + 1, n => by
    unfold trN
    by_cases hr : n % 10 = 0
    · rw [if_pos hr, trN_whole k (n / 10)]
      have p : (0 : Int) < 10 ^ k := Int.pow_pos (by decide)
      rw [decide_eq_decide, Int.pow_succ]
      have e : n = 10 * (n / 10) := by omega
      generalize n / 10 = q at *
      subst e
      rw [Int.mul_comm (10 ^ k) 10, Int.mul_emod_mul_of_pos _ _ (by decide)]
      omega
    · rw [if_neg hr]
      have : ¬ n % 10 ^ (k + 1) = 0 := by
        intro h
        apply hr
        rw [Int.pow_succ] at h
        have := Int.emod_emod_of_dvd n (show (10 : Int) ∣ 10 ^ k * 10 from ⟨10 ^ k, Int.mul_comm _ _⟩)
        rw [h] at this
        omega
      rw [decide_eq_false this]
      simp
      omega
theorem rwhole_ok (b : Bool) (n : Int) (k : Nat) (hk : k ≤ 18) (h : ck b n (k : Int) = 0) (w : World) (hn0 : 0 ≤ n) (hn : n < MM) :
    Calls Try.prog 34 #[dc b n (k : Int)] w fun e' w' => e' = .returned (.bool (decide (n % 10 ^ k = 0))) ∧ Mo w w' := by
  have := rwhole_w b n k hk h w hn0 hn
  rw [trN_whole] at this
  exact this
theorem conv_run {a c : Int} (h : IntKind.u64.wrap a = c) (w : World) : (convert 2 22 (.int .i64 a)).run Try.prog w = .ok (.int .u64 c) w := by
  subst h; kernel_rfl
theorem lss2_run {a b : Int} {r : Bool} (h : decide (a < b) = r) (x y : Operand) (w : World) : (do eqGuard .lss 2 x y (.int .i64 a) (.int .i64 b); binOp .lss 2 (.int .i64 a) (.int .i64 b)).run Try.prog w = .ok (.bool r) w := by
  subst h; kernel_rfl
theorem subu_run {a b c : Int} (h : IntKind.u64.wrap (a - b) = c) (x y : Operand) (w : World) : (do eqGuard .sub 22 x y (.int .u64 a) (.int .u64 b); binOp .sub 22 (.int .u64 a) (.int .u64 b)).run Try.prog w = .ok (.int .u64 c) w := by
  subst h; kernel_rfl
theorem rofInt_lt (n s : Int) (hl : decide (s < 0) = true) (w : World) :
    Calls Try.prog 27 #[.int .i64 n, .int .i64 s] w fun e' w' => e' = .returned (er 21) ∧ Mo w w' := by
  refine w_enter 26 Try.func27 Try.ntmps27 rfl rfl ?_
  have M : Mo w w := Mo.refl _
  refine w_seq ?_
  refine w_reg ?_
  refine wl_alloc 40 #[.bool false, .int .u64 0, .int .u64 0, .int .u64 0, .int .u64 0, .int .i64 0] rfl (fun _ => by kernel_rfl) rfl ?_
  intro k1 w1 hk hz hq Q1
  have N_k1 : w.heap.size ≤ k1 := by have := M.size; omega
  replace M := M.trans hq
  clear hk hz hq
  refine wl_mv (.const (.int .i64 (0))) (.int .i64 (0)) (fun _ => rfl) rfl rfl ?_
  refine w_nil ?_
  refine xn_then ?_
  refine w_seq ?_
  refine w_seq ?_
  refine w_reg ?_
  refine wl_mv (.tmp 1) (.int .i64 (s)) (fun _ => rfl) rfl rfl ?_
  refine wl_bin (fun x y => do eqGuard .lss 3 (.tmp 7) (.const (.int .i64 (0))) x y; binOp .lss 3 x y) (.tmp 7) (.const (.int .i64 (0))) (.int .i64 (s)) (.int .i64 (0)) (.bool true) (fun _ => rfl) rfl rfl (lss_run hl _ _ _) rfl ?_
  refine wl_mv (.tmp 8) (.bool true) (fun _ => rfl) rfl rfl ?_
  refine wl_skip rfl ?_
  refine wl_skip rfl ?_
  refine wl_pick (.tmp 9) (.const (.bool true)) (.tmp 11) true (.bool true) (fun _ => rfl) rfl rfl rfl ?_
  refine w_nil ?_
  refine xn_then ?_
  refine w_condT rfl ?_
  refine w_seq ?_
  refine w_reg ?_
  refine wl_build 40 [] [] (.agg #[.bool false, .int .u64 0, .int .u64 0, .int .u64 0, .int .u64 0, .int .i64 0]) rfl rfl (by kernel_rfl) rfl ?_
  refine wl_st 40 (.tmp 4) (.tmp 13) k1 0 #[.bool false, .int .u64 0, .int .u64 0, .int .u64 0, .int .u64 0, .int .i64 0] [.bool false, .int .u64 0, .int .u64 0, .int .u64 0, .int .u64 0, .int .i64 0] [.bool false, .int .u64 0, .int .u64 0, .int .u64 0, .int .u64 0, .int .i64 0] Q1 rfl rfl rfl rfl rfl sz40 rfl rfl rfl ?_
  intro w2 hS Qn
  replace Q1 := Qn
  clear Qn
  replace M := hS.mo _ N_k1 M
  clear hS
  refine wl_mv (.const (.int .i64 (21))) (.int .i64 (21)) (fun _ => rfl) rfl rfl ?_
  refine w_nil ?_
  refine xn_then ?_
  refine w_ret ?_
  refine xr_then ?_
  exact w_ret2 _ _ (.agg #[.bool false, .int .u64 0, .int .u64 0, .int .u64 0, .int .u64 0, .int .i64 0]) (.int .i64 (21)) rfl ⟨k1, rfl, (run_row Q1 40 0 6 [.bool false, .int .u64 0, .int .u64 0, .int .u64 0, .int .u64 0, .int .i64 0] rfl Try.underlying40 rfl sz40)⟩ rfl ⟨rfl, M⟩
theorem rofInt_gt (n s : Int) (hl : decide (s < 0) = false) (hg : decide (s > 18) = true) (w : World) :
    Calls Try.prog 27 #[.int .i64 n, .int .i64 s] w fun e' w' => e' = .returned (er 21) ∧ Mo w w' := by
  refine w_enter 26 Try.func27 Try.ntmps27 rfl rfl ?_
  have M : Mo w w := Mo.refl _
  refine w_seq ?_
  refine w_reg ?_
  refine wl_alloc 40 #[.bool false, .int .u64 0, .int .u64 0, .int .u64 0, .int .u64 0, .int .i64 0] rfl (fun _ => by kernel_rfl) rfl ?_
  intro k1 w1 hk hz hq Q1
  have N_k1 : w.heap.size ≤ k1 := by have := M.size; omega
  replace M := M.trans hq
  clear hk hz hq
  refine wl_mv (.const (.int .i64 (0))) (.int .i64 (0)) (fun _ => rfl) rfl rfl ?_
  refine w_nil ?_
  refine xn_then ?_
  refine w_seq ?_
  refine w_seq ?_
  refine w_reg ?_
  refine wl_mv (.tmp 1) (.int .i64 (s)) (fun _ => rfl) rfl rfl ?_
  refine wl_bin (fun x y => do eqGuard .lss 3 (.tmp 7) (.const (.int .i64 (0))) x y; binOp .lss 3 x y) (.tmp 7) (.const (.int .i64 (0))) (.int .i64 (s)) (.int .i64 (0)) (.bool false) (fun _ => rfl) rfl rfl (lss_run hl _ _ _) rfl ?_
  refine wl_mv (.tmp 8) (.bool false) (fun _ => rfl) rfl rfl ?_
  refine wl_mv (.tmp 1) (.int .i64 (s)) (fun _ => rfl) rfl rfl ?_
  refine wl_bin (fun x y => do eqGuard .gtr 3 (.tmp 10) (.const (.int .i64 (18))) x y; binOp .gtr 3 x y) (.tmp 10) (.const (.int .i64 (18))) (.int .i64 (s)) (.int .i64 (18)) (.bool true) (fun _ => rfl) rfl rfl (gti3_run hg _ _ _) rfl ?_
  refine wl_pick (.tmp 9) (.const (.bool true)) (.tmp 11) false (.bool true) (fun _ => rfl) rfl rfl rfl ?_
  refine w_nil ?_
  refine xn_then ?_
  refine w_condT rfl ?_
  refine w_seq ?_
  refine w_reg ?_
  refine wl_build 40 [] [] (.agg #[.bool false, .int .u64 0, .int .u64 0, .int .u64 0, .int .u64 0, .int .i64 0]) rfl rfl (by kernel_rfl) rfl ?_
  refine wl_st 40 (.tmp 4) (.tmp 13) k1 0 #[.bool false, .int .u64 0, .int .u64 0, .int .u64 0, .int .u64 0, .int .i64 0] [.bool false, .int .u64 0, .int .u64 0, .int .u64 0, .int .u64 0, .int .i64 0] [.bool false, .int .u64 0, .int .u64 0, .int .u64 0, .int .u64 0, .int .i64 0] Q1 rfl rfl rfl rfl rfl sz40 rfl rfl rfl ?_
  intro w2 hS Qn
  replace Q1 := Qn
  clear Qn
  replace M := hS.mo _ N_k1 M
  clear hS
  refine wl_mv (.const (.int .i64 (21))) (.int .i64 (21)) (fun _ => rfl) rfl rfl ?_
  refine w_nil ?_
  refine xn_then ?_
  refine w_ret ?_
  refine xr_then ?_
  exact w_ret2 _ _ (.agg #[.bool false, .int .u64 0, .int .u64 0, .int .u64 0, .int .u64 0, .int .i64 0]) (.int .i64 (21)) rfl ⟨k1, rfl, (run_row Q1 40 0 6 [.bool false, .int .u64 0, .int .u64 0, .int .u64 0, .int .u64 0, .int .i64 0] rfl Try.underlying40 rfl sz40)⟩ rfl ⟨rfl, M⟩
theorem rofInt_pos (n s : Int) (hl : decide (s < 0) = false) (hg : decide (s > 18) = false) (hneg : decide (n < 0) = false) (hc : IntKind.u64.wrap n = ab n) (hU : U1 (ab n)) (w : World) :
    Calls Try.prog 27 #[.int .i64 n, .int .i64 s] w fun e' w' => e' = .returned (.tuple #[dc false (ab n) s, .int .i64 0]) ∧ Mo w w' := by
  refine w_enter 26 Try.func27 Try.ntmps27 rfl rfl ?_
  have M : Mo w w := Mo.refl _
  refine w_seq ?_
  refine w_reg ?_
  refine wl_alloc 40 #[.bool false, .int .u64 0, .int .u64 0, .int .u64 0, .int .u64 0, .int .i64 0] rfl (fun _ => by kernel_rfl) rfl ?_
  intro k1 w1 hk hz hq Q1
  have N_k1 : w.heap.size ≤ k1 := by have := M.size; omega
  replace M := M.trans hq
  clear hk hz hq
  refine wl_mv (.const (.int .i64 (0))) (.int .i64 (0)) (fun _ => rfl) rfl rfl ?_
  refine w_nil ?_
  refine xn_then ?_
  refine w_seq ?_
  refine w_seq ?_
  refine w_reg ?_
  refine wl_mv (.tmp 1) (.int .i64 (s)) (fun _ => rfl) rfl rfl ?_
  refine wl_bin (fun x y => do eqGuard .lss 3 (.tmp 7) (.const (.int .i64 (0))) x y; binOp .lss 3 x y) (.tmp 7) (.const (.int .i64 (0))) (.int .i64 (s)) (.int .i64 (0)) (.bool false) (fun _ => rfl) rfl rfl (lss_run hl _ _ _) rfl ?_
  refine wl_mv (.tmp 8) (.bool false) (fun _ => rfl) rfl rfl ?_
  refine wl_mv (.tmp 1) (.int .i64 (s)) (fun _ => rfl) rfl rfl ?_
  refine wl_bin (fun x y => do eqGuard .gtr 3 (.tmp 10) (.const (.int .i64 (18))) x y; binOp .gtr 3 x y) (.tmp 10) (.const (.int .i64 (18))) (.int .i64 (s)) (.int .i64 (18)) (.bool false) (fun _ => rfl) rfl rfl (gti3_run hg _ _ _) rfl ?_
  refine wl_pick (.tmp 9) (.const (.bool true)) (.tmp 11) false (.bool false) (fun _ => rfl) rfl rfl rfl ?_
  refine w_nil ?_
  refine xn_then ?_
  refine w_condF rfl ?_
  refine w_skip ?_
  refine xn_then ?_
  refine w_seq ?_
  refine w_reg ?_
  refine wl_mv (.tmp 0) (.int .i64 (n)) (fun _ => rfl) rfl rfl ?_
  refine wl_un (fun v => convert 2 22 v) (.tmp 14) (.int .i64 (n)) (.int .u64 (ab n)) (fun _ => rfl) rfl (conv_run hc _) rfl ?_
  refine wl_mv (.tmp 15) (.int .u64 (ab n)) (fun _ => rfl) rfl rfl ?_
  refine w_nil ?_
  refine xn_then ?_
  refine w_seq ?_
  refine w_seq ?_
  refine w_reg ?_
  refine wl_mv (.tmp 0) (.int .i64 (n)) (fun _ => rfl) rfl rfl ?_
  refine wl_bin (fun x y => do eqGuard .lss 2 (.tmp 16) (.const (.int .i64 (0))) x y; binOp .lss 2 x y) (.tmp 16) (.const (.int .i64 (0))) (.int .i64 (n)) (.int .i64 (0)) (.bool false) (fun _ => rfl) rfl rfl (lss2_run hneg _ _ _) rfl ?_
  refine w_nil ?_
  refine xn_then ?_
  refine w_condF rfl ?_
  refine w_skip ?_
  refine xn_then ?_
  refine w_seq ?_
  refine w_reg ?_
  refine wl_mv (.tmp 0) (.int .i64 (n)) (fun _ => rfl) rfl rfl ?_
  refine wl_bin (fun x y => do eqGuard .lss 2 (.tmp 20) (.const (.int .i64 (0))) x y; binOp .lss 2 x y) (.tmp 20) (.const (.int .i64 (0))) (.int .i64 (n)) (.int .i64 (0)) (.bool false) (fun _ => rfl) rfl rfl (lss2_run hneg _ _ _) rfl ?_
  refine wl_mv (.tmp 6) (.int .u64 (ab n)) (fun _ => rfl) rfl rfl ?_
  refine wl_call 69 [(.tmp 22)] _ [.int .u64 (ab n)] (nv (ab n)) rfl rfl (fun _ _ => by kernel_rfl) (from34_any (ab n) _ hU) rfl ?_
  intro w2 hq
  replace Q1 := Q1.mo hq
  replace M := M.trans hq
  clear hq
  refine wl_mv (.tmp 1) (.int .i64 (s)) (fun _ => rfl) rfl rfl ?_
  refine wl_build 40 [(0, (.tmp 21)), (1, (.tmp 23)), (2, (.tmp 24))] [(0, .bool false), (1, nv (ab n)), (2, .int .i64 (s))] (.agg #[.bool false, .int .u64 (l0 (ab n)), .int .u64 (l1 (ab n)), .int .u64 (l2 (ab n)), .int .u64 (l3 (ab n)), .int .i64 (s)]) rfl rfl (by kernel_rfl) rfl ?_
  refine wl_st 40 (.tmp 4) (.tmp 25) k1 0 #[.bool false, .int .u64 (l0 (ab n)), .int .u64 (l1 (ab n)), .int .u64 (l2 (ab n)), .int .u64 (l3 (ab n)), .int .i64 (s)] [.bool false, .int .u64 0, .int .u64 0, .int .u64 0, .int .u64 0, .int .i64 0] [.bool false, .int .u64 (l0 (ab n)), .int .u64 (l1 (ab n)), .int .u64 (l2 (ab n)), .int .u64 (l3 (ab n)), .int .i64 (s)] Q1 rfl rfl rfl rfl rfl sz40 rfl rfl rfl ?_
  intro w3 hS Qn
  replace Q1 := Qn
  clear Qn
  replace M := hS.mo _ N_k1 M
  clear hS
  refine wl_mv (.const (.int .i64 (0))) (.int .i64 (0)) (fun _ => rfl) rfl rfl ?_
  refine w_nil ?_
  refine xn_then ?_
  refine w_ret ?_
  exact w_ret2 _ _ (.agg #[.bool false, .int .u64 (l0 (ab n)), .int .u64 (l1 (ab n)), .int .u64 (l2 (ab n)), .int .u64 (l3 (ab n)), .int .i64 (s)]) (.int .i64 (0)) rfl ⟨k1, rfl, (run_row Q1 40 0 6 [.bool false, .int .u64 (l0 (ab n)), .int .u64 (l1 (ab n)), .int .u64 (l2 (ab n)), .int .u64 (l3 (ab n)), .int .i64 (s)] rfl Try.underlying40 rfl sz40)⟩ rfl ⟨rfl, M⟩
theorem rofInt_neg (n s : Int) (c : Int) (hl : decide (s < 0) = false) (hg : decide (s > 18) = false) (hneg : decide (n < 0) = true) (hc : IntKind.u64.wrap n = c) (hs2 : IntKind.u64.wrap (0 - c) = ab n) (hU : U1 (ab n)) (w : World) :
    Calls Try.prog 27 #[.int .i64 n, .int .i64 s] w fun e' w' => e' = .returned (.tuple #[dc true (ab n) s, .int .i64 0]) ∧ Mo w w' := by
  refine w_enter 26 Try.func27 Try.ntmps27 rfl rfl ?_
  have M : Mo w w := Mo.refl _
  refine w_seq ?_
  refine w_reg ?_
  refine wl_alloc 40 #[.bool false, .int .u64 0, .int .u64 0, .int .u64 0, .int .u64 0, .int .i64 0] rfl (fun _ => by kernel_rfl) rfl ?_
  intro k1 w1 hk hz hq Q1
  have N_k1 : w.heap.size ≤ k1 := by have := M.size; omega
  replace M := M.trans hq
  clear hk hz hq
  refine wl_mv (.const (.int .i64 (0))) (.int .i64 (0)) (fun _ => rfl) rfl rfl ?_
  refine w_nil ?_
  refine xn_then ?_
  refine w_seq ?_
  refine w_seq ?_
  refine w_reg ?_
  refine wl_mv (.tmp 1) (.int .i64 (s)) (fun _ => rfl) rfl rfl ?_
  refine wl_bin (fun x y => do eqGuard .lss 3 (.tmp 7) (.const (.int .i64 (0))) x y; binOp .lss 3 x y) (.tmp 7) (.const (.int .i64 (0))) (.int .i64 (s)) (.int .i64 (0)) (.bool false) (fun _ => rfl) rfl rfl (lss_run hl _ _ _) rfl ?_
  refine wl_mv (.tmp 8) (.bool false) (fun _ => rfl) rfl rfl ?_
  refine wl_mv (.tmp 1) (.int .i64 (s)) (fun _ => rfl) rfl rfl ?_
  refine wl_bin (fun x y => do eqGuard .gtr 3 (.tmp 10) (.const (.int .i64 (18))) x y; binOp .gtr 3 x y) (.tmp 10) (.const (.int .i64 (18))) (.int .i64 (s)) (.int .i64 (18)) (.bool false) (fun _ => rfl) rfl rfl (gti3_run hg _ _ _) rfl ?_
  refine wl_pick (.tmp 9) (.const (.bool true)) (.tmp 11) false (.bool false) (fun _ => rfl) rfl rfl rfl ?_
  refine w_nil ?_
  refine xn_then ?_
  refine w_condF rfl ?_
  refine w_skip ?_
  refine xn_then ?_
  refine w_seq ?_
  refine w_reg ?_
  refine wl_mv (.tmp 0) (.int .i64 (n)) (fun _ => rfl) rfl rfl ?_
  refine wl_un (fun v => convert 2 22 v) (.tmp 14) (.int .i64 (n)) (.int .u64 (c)) (fun _ => rfl) rfl (conv_run hc _) rfl ?_
  refine wl_mv (.tmp 15) (.int .u64 (c)) (fun _ => rfl) rfl rfl ?_
  refine w_nil ?_
  refine xn_then ?_
  refine w_seq ?_
  refine w_seq ?_
  refine w_reg ?_
  refine wl_mv (.tmp 0) (.int .i64 (n)) (fun _ => rfl) rfl rfl ?_
  refine wl_bin (fun x y => do eqGuard .lss 2 (.tmp 16) (.const (.int .i64 (0))) x y; binOp .lss 2 x y) (.tmp 16) (.const (.int .i64 (0))) (.int .i64 (n)) (.int .i64 (0)) (.bool true) (fun _ => rfl) rfl rfl (lss2_run hneg _ _ _) rfl ?_
  refine w_nil ?_
  refine xn_then ?_
  refine w_condT rfl ?_
  refine w_reg ?_
  refine wl_mv (.tmp 6) (.int .u64 (c)) (fun _ => rfl) rfl rfl ?_
  refine wl_bin (fun x y => do eqGuard .sub 22 (.const (.int .u64 (0))) (.tmp 18) x y; binOp .sub 22 x y) (.const (.int .u64 (0))) (.tmp 18) (.int .u64 (0)) (.int .u64 (c)) (.int .u64 (ab n)) (fun _ => rfl) rfl rfl (subu_run hs2 _ _ _) rfl ?_
  refine wl_mv (.tmp 19) (.int .u64 (ab n)) (fun _ => rfl) rfl rfl ?_
  refine w_nil ?_
  refine xn_then ?_
  refine w_seq ?_
  refine w_reg ?_
  refine wl_mv (.tmp 0) (.int .i64 (n)) (fun _ => rfl) rfl rfl ?_
  refine wl_bin (fun x y => do eqGuard .lss 2 (.tmp 20) (.const (.int .i64 (0))) x y; binOp .lss 2 x y) (.tmp 20) (.const (.int .i64 (0))) (.int .i64 (n)) (.int .i64 (0)) (.bool true) (fun _ => rfl) rfl rfl (lss2_run hneg _ _ _) rfl ?_
  refine wl_mv (.tmp 6) (.int .u64 (ab n)) (fun _ => rfl) rfl rfl ?_
  refine wl_call 69 [(.tmp 22)] _ [.int .u64 (ab n)] (nv (ab n)) rfl rfl (fun _ _ => by kernel_rfl) (from34_any (ab n) _ hU) rfl ?_
  intro w2 hq
  replace Q1 := Q1.mo hq
  replace M := M.trans hq
  clear hq
  refine wl_mv (.tmp 1) (.int .i64 (s)) (fun _ => rfl) rfl rfl ?_
  refine wl_build 40 [(0, (.tmp 21)), (1, (.tmp 23)), (2, (.tmp 24))] [(0, .bool true), (1, nv (ab n)), (2, .int .i64 (s))] (.agg #[.bool true, .int .u64 (l0 (ab n)), .int .u64 (l1 (ab n)), .int .u64 (l2 (ab n)), .int .u64 (l3 (ab n)), .int .i64 (s)]) rfl rfl (by kernel_rfl) rfl ?_
  refine wl_st 40 (.tmp 4) (.tmp 25) k1 0 #[.bool true, .int .u64 (l0 (ab n)), .int .u64 (l1 (ab n)), .int .u64 (l2 (ab n)), .int .u64 (l3 (ab n)), .int .i64 (s)] [.bool false, .int .u64 0, .int .u64 0, .int .u64 0, .int .u64 0, .int .i64 0] [.bool true, .int .u64 (l0 (ab n)), .int .u64 (l1 (ab n)), .int .u64 (l2 (ab n)), .int .u64 (l3 (ab n)), .int .i64 (s)] Q1 rfl rfl rfl rfl rfl sz40 rfl rfl rfl ?_
  intro w3 hS Qn
  replace Q1 := Qn
  clear Qn
  replace M := hS.mo _ N_k1 M
  clear hS
  refine wl_mv (.const (.int .i64 (0))) (.int .i64 (0)) (fun _ => rfl) rfl rfl ?_
  refine w_nil ?_
  refine xn_then ?_
  refine w_ret ?_
  exact w_ret2 _ _ (.agg #[.bool true, .int .u64 (l0 (ab n)), .int .u64 (l1 (ab n)), .int .u64 (l2 (ab n)), .int .u64 (l3 (ab n)), .int .i64 (s)]) (.int .i64 (0)) rfl ⟨k1, rfl, (run_row Q1 40 0 6 [.bool true, .int .u64 (l0 (ab n)), .int .u64 (l1 (ab n)), .int .u64 (l2 (ab n)), .int .u64 (l3 (ab n)), .int .i64 (s)] rfl Try.underlying40 rfl sz40)⟩ rfl ⟨rfl, M⟩
theorem rofInt_no (n s : Int) (w : World) (h : sc s = false) : Calls Try.prog 27 #[.int .i64 n, .int .i64 s] w fun e w' => e = .returned (er 21) ∧ Mo w w' := by
  by_cases hl : s < 0
  · exact rofInt_lt n s (decide_eq_true hl) w
  · refine rofInt_gt n s (decide_eq_false hl) (decide_eq_true ?_) w
    have : ¬ sc s = true := by rw [h]; decide
    rw [sc_iff] at this
    omega
theorem rofInt_ok (n s : Int) (w : World) (h : sc s = true) (h0 : -9223372036854775808 ≤ n) (h1 : n < 9223372036854775808) : Calls Try.prog 27 #[.int .i64 n, .int .i64 s] w fun e w' => e = .returned (.tuple #[dz n s, .int .i64 0]) ∧ Mo w w' := by
  obtain ⟨s0, s1⟩ := sc_iff.1 h
  have c := ab_c n
  have hU : U1 (ab n) := by unfold U1; omega
  unfold dz
  by_cases hn : n < 0
  · rw [decide_eq_true hn]
    exact rofInt_neg n s (n + 18446744073709551616) (decide_eq_false (by omega)) (decide_eq_false (by omega)) (decide_eq_true hn) (by rw [IntKind.wrap_u64]; omega) (by rw [IntKind.wrap_u64]; omega) hU w
  · rw [decide_eq_false hn]
    exact rofInt_pos n s (decide_eq_false (by omega)) (decide_eq_false (by omega)) (decide_eq_false hn) (by rw [IntKind.wrap_u64]; omega) hU w
end Go.Proofs.Ytoiiekmkcpcbgaa
