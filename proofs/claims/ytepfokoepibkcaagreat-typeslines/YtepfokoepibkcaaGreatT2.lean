/-
  Decimals, constants, what fits: both sides.
-/
import Derived.Test.YtepfokoepibkcaaGreatT1
namespace Go.Proofs.YtepfokoepibkcaaGreat
open Go.RowKit D
theorem dchk_t (n0 n1 n2 n3 s : Int) (w : World) : Calls Tryz.prog 22 #[.agg #[.bool true, .int .u64 n0, .int .u64 n1, .int .u64 n2, .int .u64 n3, .int .i64 s]] w fun e w' => e = .returned (.int .i64 (dcc true n0 n1 n2 n3 s)) ∧ Mo w w' := by
  refine w_enter 17 Tryz.func22 Tryz.ntmps22 rfl rfl ?_
  have M : Mo w w := Mo.refl _
  refine w_seq ?_
  refine w_reg ?_
  refine wl_box 47 (.tmp 0) (.agg #[.bool true, .int .u64 n0, .int .u64 n1, .int .u64 n2, .int .u64 n3, .int .i64 s]) (#[.bool true, .int .u64 n0, .int .u64 n1, .int .u64 n2, .int .u64 n3, .int .i64 s]) rfl rfl (fun _ => by kernel_rfl) rfl ?_
  intro k1 u1 hk hz hq Q1
  have N_k1 : w.heap.size ≤ k1 := by have := M.size; omega
  replace M := M.trans hq
  clear hk hz hq
  refine wl_mv (.const (.int .i64 (0))) (.int .i64 (0)) (fun _ => rfl) rfl rfl ?_
  refine w_nil ?_
  refine xn_then ?_
  refine w_seq ?_
  refine w_seq ?_
  refine w_reg ?_
  refine wl_un (fun v => Instr.fieldAt 47 v 2) (.tmp 1) (pt k1 0) (pt k1 5) (fun _ => rfl) rfl (by kernel_rfl) rfl ?_
  refine wl_load 3 (.tmp 3) (pt k1 5) (.int .i64 (s)) rfl rfl (run_one Q1 3 5 rfl Tryz.underlying3 rfl) rfl ?_
  cases hf0 : isc s with
  | true =>
    refine wl_call 40 [(.tmp 4)] _ [.int .i64 (s)] (.bool true) rfl rfl (fun _ _ => by kernel_rfl) (cB hf0 (disc_n s _)) rfl ?_
    intro u2 hq
    replace Q1 := Q1.mo hq
    replace M := M.trans hq
    clear hq
    refine wl_un (fun v => Op.unary .not v) (.tmp 5) (.bool true) (.bool false) (fun _ => rfl) rfl (by kernel_rfl) rfl ?_
    refine wl_mv (.tmp 6) (.bool false) (fun _ => rfl) rfl rfl ?_
    refine wl_un (fun v => Instr.fieldAt 47 v 0) (.tmp 1) (pt k1 0) (pt k1 0) (fun _ => rfl) rfl (by kernel_rfl) rfl ?_
    refine wl_load 4 (.tmp 8) (pt k1 0) (.bool true) rfl rfl (run_one Q1 4 0 rfl Tryz.underlying4 rfl) rfl ?_
    refine wl_mv (.tmp 9) (.bool true) (fun _ => rfl) rfl rfl ?_
    refine wl_un (fun v => Instr.fieldAt 47 v 1) (.tmp 1) (pt k1 0) (pt k1 1) (fun _ => rfl) rfl (by kernel_rfl) rfl ?_
    refine wl_load 45 (.tmp 11) (pt k1 1) (.agg #[.int .u64 n0, .int .u64 n1, .int .u64 n2, .int .u64 n3]) rfl rfl (run_row Q1 45 1 4 [.int .u64 n0, .int .u64 n1, .int .u64 n2, .int .u64 n3] rfl Tryz.underlying45 rfl sz45) rfl ?_
    refine wl_build 45 [] [] (.agg #[.int .u64 0, .int .u64 0, .int .u64 0, .int .u64 0]) rfl rfl (by kernel_rfl) rfl ?_
    cases hf1 : s4 n0 n1 n2 n3 0 0 0 0 with
    | true =>
      refine wl_bin (fun x y => do eqGuard .eql 45 (.tmp 12) (.tmp 13) x y; binOp .eql 45 x y) (.tmp 12) (.tmp 13) (.agg #[.int .u64 n0, .int .u64 n1, .int .u64 n2, .int .u64 n3]) (.agg #[.int .u64 0, .int .u64 0, .int .u64 0, .int .u64 0]) (.bool true) (fun _ => rfl) rfl rfl (eqn_run hf1 _ _ _) rfl ?_
      refine wl_pick (.tmp 10) (.tmp 14) (.const (.bool false)) true (.bool true) (fun _ => rfl) rfl rfl rfl ?_
      refine wl_pick (.tmp 7) (.const (.bool true)) (.tmp 15) false (.bool true) (fun _ => rfl) rfl rfl rfl ?_
      refine w_nil ?_
      refine xn_then ?_
      refine w_condT rfl ?_
      refine w_seq ?_
      refine w_reg ?_
      refine wl_mv (.const (.int .i64 (20))) (.int .i64 (20)) (fun _ => rfl) rfl rfl ?_
      refine w_nil ?_
      refine xn_then ?_
      refine w_ret ?_
      refine xr_then ?_
      exact w_ret1 _ (.int .i64 (20)) rfl rfl ⟨by simp [dcc, hf0, hf1], M⟩
    | false =>
      refine wl_bin (fun x y => do eqGuard .eql 45 (.tmp 12) (.tmp 13) x y; binOp .eql 45 x y) (.tmp 12) (.tmp 13) (.agg #[.int .u64 n0, .int .u64 n1, .int .u64 n2, .int .u64 n3]) (.agg #[.int .u64 0, .int .u64 0, .int .u64 0, .int .u64 0]) (.bool false) (fun _ => rfl) rfl rfl (eqn_run hf1 _ _ _) rfl ?_
      refine wl_pick (.tmp 10) (.tmp 14) (.const (.bool false)) true (.bool false) (fun _ => rfl) rfl rfl rfl ?_
      refine wl_pick (.tmp 7) (.const (.bool true)) (.tmp 15) false (.bool false) (fun _ => rfl) rfl rfl rfl ?_
      refine w_nil ?_
      refine xn_then ?_
      refine w_condF rfl ?_
      refine w_skip ?_
      refine xn_then ?_
      refine w_seq ?_
      refine w_reg ?_
      refine wl_mv (.const (.int .i64 (0))) (.int .i64 (0)) (fun _ => rfl) rfl rfl ?_
      refine w_nil ?_
      refine xn_then ?_
      refine w_ret ?_
      exact w_ret1 _ (.int .i64 (0)) rfl rfl ⟨by simp [dcc, hf0, hf1], M⟩
  | false =>
    refine wl_call 40 [(.tmp 4)] _ [.int .i64 (s)] (.bool false) rfl rfl (fun _ _ => by kernel_rfl) (cB hf0 (disc_n s _)) rfl ?_
    intro u2 hq
    replace Q1 := Q1.mo hq
    replace M := M.trans hq
    clear hq
    refine wl_un (fun v => Op.unary .not v) (.tmp 5) (.bool false) (.bool true) (fun _ => rfl) rfl (by kernel_rfl) rfl ?_
    refine wl_mv (.tmp 6) (.bool true) (fun _ => rfl) rfl rfl ?_
    refine wl_skip rfl ?_
    refine wl_skip rfl ?_
    refine wl_skip rfl ?_
    refine wl_skip rfl ?_
    refine wl_skip rfl ?_
    refine wl_skip rfl ?_
    refine wl_skip rfl ?_
    refine wl_skip rfl ?_
    refine wl_pick (.tmp 7) (.const (.bool true)) (.tmp 15) true (.bool true) (fun _ => rfl) rfl rfl rfl ?_
    refine w_nil ?_
    refine xn_then ?_
    refine w_condT rfl ?_
    refine w_seq ?_
    refine w_reg ?_
    refine wl_mv (.const (.int .i64 (20))) (.int .i64 (20)) (fun _ => rfl) rfl rfl ?_
    refine w_nil ?_
    refine xn_then ?_
    refine w_ret ?_
    refine xr_then ?_
    exact w_ret1 _ (.int .i64 (20)) rfl rfl ⟨by simp [dcc, hf0], M⟩
theorem dchk_f (n0 n1 n2 n3 s : Int) (w : World) : Calls Tryz.prog 22 #[.agg #[.bool false, .int .u64 n0, .int .u64 n1, .int .u64 n2, .int .u64 n3, .int .i64 s]] w fun e w' => e = .returned (.int .i64 (dcc false n0 n1 n2 n3 s)) ∧ Mo w w' := by
  refine w_enter 17 Tryz.func22 Tryz.ntmps22 rfl rfl ?_
  have M : Mo w w := Mo.refl _
  refine w_seq ?_
  refine w_reg ?_
  refine wl_box 47 (.tmp 0) (.agg #[.bool false, .int .u64 n0, .int .u64 n1, .int .u64 n2, .int .u64 n3, .int .i64 s]) (#[.bool false, .int .u64 n0, .int .u64 n1, .int .u64 n2, .int .u64 n3, .int .i64 s]) rfl rfl (fun _ => by kernel_rfl) rfl ?_
  intro k1 u1 hk hz hq Q1
  have N_k1 : w.heap.size ≤ k1 := by have := M.size; omega
  replace M := M.trans hq
  clear hk hz hq
  refine wl_mv (.const (.int .i64 (0))) (.int .i64 (0)) (fun _ => rfl) rfl rfl ?_
  refine w_nil ?_
  refine xn_then ?_
  refine w_seq ?_
  refine w_seq ?_
  refine w_reg ?_
  refine wl_un (fun v => Instr.fieldAt 47 v 2) (.tmp 1) (pt k1 0) (pt k1 5) (fun _ => rfl) rfl (by kernel_rfl) rfl ?_
  refine wl_load 3 (.tmp 3) (pt k1 5) (.int .i64 (s)) rfl rfl (run_one Q1 3 5 rfl Tryz.underlying3 rfl) rfl ?_
  cases hf0 : isc s with
  | true =>
    refine wl_call 40 [(.tmp 4)] _ [.int .i64 (s)] (.bool true) rfl rfl (fun _ _ => by kernel_rfl) (cB hf0 (disc_n s _)) rfl ?_
    intro u2 hq
    replace Q1 := Q1.mo hq
    replace M := M.trans hq
    clear hq
    refine wl_un (fun v => Op.unary .not v) (.tmp 5) (.bool true) (.bool false) (fun _ => rfl) rfl (by kernel_rfl) rfl ?_
    refine wl_mv (.tmp 6) (.bool false) (fun _ => rfl) rfl rfl ?_
    refine wl_un (fun v => Instr.fieldAt 47 v 0) (.tmp 1) (pt k1 0) (pt k1 0) (fun _ => rfl) rfl (by kernel_rfl) rfl ?_
    refine wl_load 4 (.tmp 8) (pt k1 0) (.bool false) rfl rfl (run_one Q1 4 0 rfl Tryz.underlying4 rfl) rfl ?_
    refine wl_mv (.tmp 9) (.bool false) (fun _ => rfl) rfl rfl ?_
    refine wl_skip rfl ?_
    refine wl_skip rfl ?_
    refine wl_skip rfl ?_
    refine wl_skip rfl ?_
    refine wl_pick (.tmp 10) (.tmp 14) (.const (.bool false)) false (.bool false) (fun _ => rfl) rfl rfl rfl ?_
    refine wl_pick (.tmp 7) (.const (.bool true)) (.tmp 15) false (.bool false) (fun _ => rfl) rfl rfl rfl ?_
    refine w_nil ?_
    refine xn_then ?_
    refine w_condF rfl ?_
    refine w_skip ?_
    refine xn_then ?_
    refine w_seq ?_
    refine w_reg ?_
    refine wl_mv (.const (.int .i64 (0))) (.int .i64 (0)) (fun _ => rfl) rfl rfl ?_
    refine w_nil ?_
    refine xn_then ?_
    refine w_ret ?_
    exact w_ret1 _ (.int .i64 (0)) rfl rfl ⟨by simp [dcc, hf0], M⟩
  | false =>
    refine wl_call 40 [(.tmp 4)] _ [.int .i64 (s)] (.bool false) rfl rfl (fun _ _ => by kernel_rfl) (cB hf0 (disc_n s _)) rfl ?_
    intro u2 hq
    replace Q1 := Q1.mo hq
    replace M := M.trans hq
    clear hq
    refine wl_un (fun v => Op.unary .not v) (.tmp 5) (.bool false) (.bool true) (fun _ => rfl) rfl (by kernel_rfl) rfl ?_
    refine wl_mv (.tmp 6) (.bool true) (fun _ => rfl) rfl rfl ?_
    refine wl_skip rfl ?_
    refine wl_skip rfl ?_
    refine wl_skip rfl ?_
    refine wl_skip rfl ?_
    refine wl_skip rfl ?_
    refine wl_skip rfl ?_
    refine wl_skip rfl ?_
    refine wl_skip rfl ?_
    refine wl_pick (.tmp 7) (.const (.bool true)) (.tmp 15) true (.bool true) (fun _ => rfl) rfl rfl rfl ?_
    refine w_nil ?_
    refine xn_then ?_
    refine w_condT rfl ?_
    refine w_seq ?_
    refine w_reg ?_
    refine wl_mv (.const (.int .i64 (20))) (.int .i64 (20)) (fun _ => rfl) rfl rfl ?_
    refine w_nil ?_
    refine xn_then ?_
    refine w_ret ?_
    refine xr_then ?_
    exact w_ret1 _ (.int .i64 (20)) rfl rfl ⟨by simp [dcc, hf0], M⟩
theorem dchk_n (b : Bool) (n0 n1 n2 n3 s : Int) (w : World) : Calls Tryz.prog 22 #[.agg #[.bool b, .int .u64 n0, .int .u64 n1, .int .u64 n2, .int .u64 n3, .int .i64 s]] w fun e w' => e = .returned (.int .i64 (dcc b n0 n1 n2 n3 s)) ∧ Mo w w' := by
  cases b
  · exact dchk_f n0 n1 n2 n3 s w
  · exact dchk_t n0 n1 n2 n3 s w
theorem cst_n (k : Int) (b : Bool) (n0 n1 n2 n3 s : Int) (f : Bool) (t : ByteArray) (e : Int) (w : World) : Calls Tryz.prog 102 #[.agg #[.int .i64 k, .bool b, .int .u64 n0, .int .u64 n1, .int .u64 n2, .int .u64 n3, .int .i64 s, .bool f, .string t, .int .i64 e]] w fun e9 w' => e9 = .returned (.int .i64 (ctc k b n0 n1 n2 n3 s f t e)) ∧ Mo w w' := by
  refine w_enter 38 Tryz.func102 Tryz.ntmps102 rfl rfl ?_
  have M : Mo w w := Mo.refl _
  refine w_seq ?_
  refine w_reg ?_
  refine wl_box 49 (.tmp 0) (.agg #[.int .i64 k, .bool b, .int .u64 n0, .int .u64 n1, .int .u64 n2, .int .u64 n3, .int .i64 s, .bool f, .string t, .int .i64 e]) (#[.int .i64 k, .bool b, .int .u64 n0, .int .u64 n1, .int .u64 n2, .int .u64 n3, .int .i64 s, .bool f, .string t, .int .i64 e]) rfl rfl (fun _ => by kernel_rfl) rfl ?_
  intro k1 u1 hk hz hq Q1
  have N_k1 : w.heap.size ≤ k1 := by have := M.size; omega
  replace M := M.trans hq
  clear hk hz hq
  refine wl_mv (.const (.int .i64 (0))) (.int .i64 (0)) (fun _ => rfl) rfl rfl ?_
  refine w_nil ?_
  refine xn_then ?_
  refine w_seq ?_
  refine w_reg ?_
  refine wl_un (fun v => Instr.fieldAt 49 v 0) (.tmp 1) (pt k1 0) (pt k1 0) (fun _ => rfl) rfl (by kernel_rfl) rfl ?_
  refine wl_load 3 (.tmp 5) (pt k1 0) (.int .i64 (k)) rfl rfl (run_one Q1 3 0 rfl Tryz.underlying3 rfl) rfl ?_
  refine wl_build 49 [(0, (.tmp 6))] [(0, .int .i64 (k))] (.agg #[.int .i64 (k), .bool false, .int .u64 0, .int .u64 0, .int .u64 0, .int .u64 0, .int .i64 0, .bool false, .string ⟨#[]⟩, .int .i64 0]) rfl rfl (by kernel_rfl) rfl ?_
  refine wl_alloc 49 #[.int .i64 0, .bool false, .int .u64 0, .int .u64 0, .int .u64 0, .int .u64 0, .int .i64 0, .bool false, .string ⟨#[]⟩, .int .i64 0] rfl (fun _ => by kernel_rfl) rfl ?_
  intro k2 u2 hk hz hq Q2
  have ne_k1_k2 : k1 ≠ k2 := by have := Q1.lt; omega
  have N_k2 : w.heap.size ≤ k2 := by have := M.size; omega
  replace Q1 := Q1.mo hq
  replace M := M.trans hq
  clear hk hz hq
  refine wl_st 49 (.tmp 3) (.tmp 7) k2 0 #[.int .i64 (k), .bool false, .int .u64 0, .int .u64 0, .int .u64 0, .int .u64 0, .int .i64 0, .bool false, .string ⟨#[]⟩, .int .i64 0] [.int .i64 0, .bool false, .int .u64 0, .int .u64 0, .int .u64 0, .int .u64 0, .int .i64 0, .bool false, .string ⟨#[]⟩, .int .i64 0] [.int .i64 (k), .bool false, .int .u64 0, .int .u64 0, .int .u64 0, .int .u64 0, .int .i64 0, .bool false, .string ⟨#[]⟩, .int .i64 0] Q2 rfl rfl rfl rfl rfl sz49 rfl rfl rfl ?_
  intro u3 hS Qn
  replace Q2 := Qn
  clear Qn
  replace Q1 := hS.other _ _ ne_k1_k2 Q1
  replace M := hS.mo _ N_k2 M
  clear hS
  refine w_nil ?_
  refine xn_then ?_
  refine w_seq ?_
  refine w_seq ?_
  refine w_reg ?_
  refine wl_un (fun v => Instr.fieldAt 49 v 0) (.tmp 1) (pt k1 0) (pt k1 0) (fun _ => rfl) rfl (by kernel_rfl) rfl ?_
  refine wl_load 3 (.tmp 8) (pt k1 0) (.int .i64 (k)) rfl rfl (run_one Q1 3 0 rfl Tryz.underlying3 rfl) rfl ?_
  refine w_nil ?_
  refine xn_then ?_
  refine w_block ?_
  refine w_seq ?_
  refine w_reg ?_
  cases hf0 : decide (k = 1) with
  | true =>
    have hf0p := of_decide_eq_true hf0
    refine wl_bin (fun x y => do eqGuard .eql 3 (.tmp 9) (.const (.int .i64 (1))) x y; binOp .eql 3 x y) (.tmp 9) (.const (.int .i64 (1))) (.int .i64 (k)) (.int .i64 (1)) (.bool true) (fun _ => rfl) rfl rfl (eq3 hf0 _ _ _) rfl ?_
    refine wl_mv (.tmp 11) (.bool true) (fun _ => rfl) rfl rfl ?_
    refine w_nil ?_
    refine xn_then ?_
    refine w_condT rfl ?_
    refine w_seq ?_
    refine w_seq ?_
    refine w_reg ?_
    refine wl_un (fun v => Instr.fieldAt 49 v 1) (.tmp 1) (pt k1 0) (pt k1 1) (fun _ => rfl) rfl (by kernel_rfl) rfl ?_
    refine wl_load 47 (.tmp 12) (pt k1 1) (.agg #[.bool b, .int .u64 n0, .int .u64 n1, .int .u64 n2, .int .u64 n3, .int .i64 s]) rfl rfl (run_row Q1 47 1 6 [.bool b, .int .u64 n0, .int .u64 n1, .int .u64 n2, .int .u64 n3, .int .i64 s] rfl Tryz.underlying47 rfl sz47) rfl ?_
    refine wl_call 22 [(.tmp 13)] _ [.agg #[.bool b, .int .u64 n0, .int .u64 n1, .int .u64 n2, .int .u64 n3, .int .i64 s]] (.int .i64 (dcc b n0 n1 n2 n3 s)) rfl rfl (fun _ _ => by kernel_rfl) (dchk_n b n0 n1 n2 n3 s _) rfl ?_
    intro u4 hq
    replace Q1 := Q1.mo hq
    replace Q2 := Q2.mo hq
    replace M := M.trans hq
    clear hq
    refine wl_mv (.tmp 14) (.int .i64 (dcc b n0 n1 n2 n3 s)) (fun _ => rfl) rfl rfl ?_
    refine w_nil ?_
    refine xn_then ?_
    refine w_seq ?_
    refine w_reg ?_
    refine wl_mv (.tmp 4) (.int .i64 (dcc b n0 n1 n2 n3 s)) (fun _ => rfl) rfl rfl ?_
    cases hf1 : decide (dcc b n0 n1 n2 n3 s = 0) with
    | true =>
      have hf1p := of_decide_eq_true hf1
      refine wl_bin (fun x y => do eqGuard .neq 32 (.tmp 15) (.const (.int .i64 (0))) x y; binOp .neq 32 x y) (.tmp 15) (.const (.int .i64 (0))) (.int .i64 (dcc b n0 n1 n2 n3 s)) (.int .i64 (0)) (.bool false) (fun _ => rfl) rfl rfl (ne34 hf1 _ _ _) rfl ?_
      refine w_nil ?_
      refine xn_then ?_
      refine w_condF rfl ?_
      refine w_skip ?_
      refine xn_then ?_
      refine w_reg ?_
      refine wl_un (fun v => Instr.fieldAt 49 v 1) (.tmp 1) (pt k1 0) (pt k1 1) (fun _ => rfl) rfl (by kernel_rfl) rfl ?_
      refine wl_load 47 (.tmp 18) (pt k1 1) (.agg #[.bool b, .int .u64 n0, .int .u64 n1, .int .u64 n2, .int .u64 n3, .int .i64 s]) rfl rfl (run_row Q1 47 1 6 [.bool b, .int .u64 n0, .int .u64 n1, .int .u64 n2, .int .u64 n3, .int .i64 s] rfl Tryz.underlying47 rfl sz47) rfl ?_
      refine wl_un (fun v => Instr.fieldAt 49 v 1) (.tmp 3) (pt k2 0) (pt k2 1) (fun _ => rfl) rfl (by kernel_rfl) rfl ?_
      refine wl_st 47 (.tmp 20) (.tmp 19) k2 1 #[.bool b, .int .u64 n0, .int .u64 n1, .int .u64 n2, .int .u64 n3, .int .i64 s] [.int .i64 (k), .bool false, .int .u64 0, .int .u64 0, .int .u64 0, .int .u64 0, .int .i64 0, .bool false, .string ⟨#[]⟩, .int .i64 0] [.int .i64 (k), .bool b, .int .u64 n0, .int .u64 n1, .int .u64 n2, .int .u64 n3, .int .i64 s, .bool false, .string ⟨#[]⟩, .int .i64 0] Q2 rfl rfl rfl rfl rfl sz47 rfl rfl rfl ?_
      intro u5 hS Qn
      replace Q2 := Qn
      clear Qn
      replace Q1 := hS.other _ _ ne_k1_k2 Q1
      replace M := hS.mo _ N_k2 M
      clear hS
      refine w_nil ?_
      refine xn_blk ?_
      refine xn_then ?_
      refine w_seq ?_
      refine w_seq ?_
      refine w_reg ?_
      refine wl_load 49 (.tmp 1) (pt k1 0) (.agg #[.int .i64 k, .bool b, .int .u64 n0, .int .u64 n1, .int .u64 n2, .int .u64 n3, .int .i64 s, .bool f, .string t, .int .i64 e]) rfl rfl (run_row Q1 49 0 10 [.int .i64 k, .bool b, .int .u64 n0, .int .u64 n1, .int .u64 n2, .int .u64 n3, .int .i64 s, .bool f, .string t, .int .i64 e] rfl Tryz.underlying49 rfl sz49) rfl ?_
      refine wl_load 49 (.tmp 3) (pt k2 0) (.agg #[.int .i64 (k), .bool b, .int .u64 n0, .int .u64 n1, .int .u64 n2, .int .u64 n3, .int .i64 s, .bool false, .string ⟨#[]⟩, .int .i64 0]) rfl rfl (run_row Q2 49 0 10 [.int .i64 (k), .bool b, .int .u64 n0, .int .u64 n1, .int .u64 n2, .int .u64 n3, .int .i64 s, .bool false, .string ⟨#[]⟩, .int .i64 0] rfl Tryz.underlying49 rfl sz49) rfl ?_
      cases hf2 : sv k b n0 n1 n2 n3 s f t e k b n0 n1 n2 n3 s false (⟨#[]⟩) 0 with
      | true =>
        refine wl_bin (fun x y => do eqGuard .neq 49 (.tmp 35) (.tmp 36) x y; binOp .neq 49 x y) (.tmp 35) (.tmp 36) (.agg #[.int .i64 k, .bool b, .int .u64 n0, .int .u64 n1, .int .u64 n2, .int .u64 n3, .int .i64 s, .bool f, .string t, .int .i64 e]) (.agg #[.int .i64 (k), .bool b, .int .u64 n0, .int .u64 n1, .int .u64 n2, .int .u64 n3, .int .i64 s, .bool false, .string ⟨#[]⟩, .int .i64 0]) (.bool false) (fun _ => rfl) rfl rfl (neV hf2 _ _ _) rfl ?_
        refine w_nil ?_
        refine xn_then ?_
        refine w_condF rfl ?_
        refine w_skip ?_
        refine xn_then ?_
        refine w_seq ?_
        refine w_reg ?_
        refine wl_mv (.const (.int .i64 (0))) (.int .i64 (0)) (fun _ => rfl) rfl rfl ?_
        refine w_nil ?_
        refine xn_then ?_
        refine w_ret ?_
        exact w_ret1 _ (.int .i64 (0)) rfl rfl ⟨by unfold ctc; simp_all, M⟩
      | false =>
        refine wl_bin (fun x y => do eqGuard .neq 49 (.tmp 35) (.tmp 36) x y; binOp .neq 49 x y) (.tmp 35) (.tmp 36) (.agg #[.int .i64 k, .bool b, .int .u64 n0, .int .u64 n1, .int .u64 n2, .int .u64 n3, .int .i64 s, .bool f, .string t, .int .i64 e]) (.agg #[.int .i64 (k), .bool b, .int .u64 n0, .int .u64 n1, .int .u64 n2, .int .u64 n3, .int .i64 s, .bool false, .string ⟨#[]⟩, .int .i64 0]) (.bool true) (fun _ => rfl) rfl rfl (neV hf2 _ _ _) rfl ?_
        refine w_nil ?_
        refine xn_then ?_
        refine w_condT rfl ?_
        refine w_seq ?_
        refine w_reg ?_
        refine wl_mv (.const (.int .i64 (100))) (.int .i64 (100)) (fun _ => rfl) rfl rfl ?_
        refine w_nil ?_
        refine xn_then ?_
        refine w_ret ?_
        refine xr_then ?_
        exact w_ret1 _ (.int .i64 (100)) rfl rfl ⟨by unfold ctc; simp_all, M⟩
    | false =>
      have hf1p := of_decide_eq_false hf1
      refine wl_bin (fun x y => do eqGuard .neq 32 (.tmp 15) (.const (.int .i64 (0))) x y; binOp .neq 32 x y) (.tmp 15) (.const (.int .i64 (0))) (.int .i64 (dcc b n0 n1 n2 n3 s)) (.int .i64 (0)) (.bool true) (fun _ => rfl) rfl rfl (ne34 hf1 _ _ _) rfl ?_
      refine w_nil ?_
      refine xn_then ?_
      refine w_condT rfl ?_
      refine w_seq ?_
      refine w_reg ?_
      refine wl_mv (.tmp 4) (.int .i64 (dcc b n0 n1 n2 n3 s)) (fun _ => rfl) rfl rfl ?_
      refine wl_mv (.tmp 17) (.int .i64 (dcc b n0 n1 n2 n3 s)) (fun _ => rfl) rfl rfl ?_
      refine w_nil ?_
      refine xn_then ?_
      refine w_ret ?_
      refine xr_then ?_
      refine xr_blk ?_
      refine xr_then ?_
      exact w_ret1 _ (.int .i64 (dcc b n0 n1 n2 n3 s)) rfl rfl ⟨by unfold ctc; simp_all, M⟩
  | false =>
    have hf0p := of_decide_eq_false hf0
    refine wl_bin (fun x y => do eqGuard .eql 3 (.tmp 9) (.const (.int .i64 (1))) x y; binOp .eql 3 x y) (.tmp 9) (.const (.int .i64 (1))) (.int .i64 (k)) (.int .i64 (1)) (.bool false) (fun _ => rfl) rfl rfl (eq3 hf0 _ _ _) rfl ?_
    refine wl_mv (.tmp 11) (.bool false) (fun _ => rfl) rfl rfl ?_
    refine w_nil ?_
    refine xn_then ?_
    refine w_condF rfl ?_
    refine w_seq ?_
    refine w_reg ?_
    cases hf1 : decide (k = 2) with
    | true =>
      have hf1p := of_decide_eq_true hf1
      refine wl_bin (fun x y => do eqGuard .eql 3 (.tmp 9) (.const (.int .i64 (2))) x y; binOp .eql 3 x y) (.tmp 9) (.const (.int .i64 (2))) (.int .i64 (k)) (.int .i64 (2)) (.bool true) (fun _ => rfl) rfl rfl (eq3 hf1 _ _ _) rfl ?_
      refine wl_mv (.tmp 22) (.bool true) (fun _ => rfl) rfl rfl ?_
      refine w_nil ?_
      refine xn_then ?_
      refine w_condT rfl ?_
      refine w_reg ?_
      refine wl_un (fun v => Instr.fieldAt 49 v 2) (.tmp 1) (pt k1 0) (pt k1 7) (fun _ => rfl) rfl (by kernel_rfl) rfl ?_
      refine wl_load 4 (.tmp 23) (pt k1 7) (.bool f) rfl rfl (run_one Q1 4 7 rfl Tryz.underlying4 rfl) rfl ?_
      refine wl_un (fun v => Instr.fieldAt 49 v 2) (.tmp 3) (pt k2 0) (pt k2 7) (fun _ => rfl) rfl (by kernel_rfl) rfl ?_
      refine wl_st1 4 (.tmp 25) (.tmp 24) k2 7 (.bool f) [.int .i64 (k), .bool false, .int .u64 0, .int .u64 0, .int .u64 0, .int .u64 0, .int .i64 0, .bool false, .string ⟨#[]⟩, .int .i64 0] [.int .i64 (k), .bool false, .int .u64 0, .int .u64 0, .int .u64 0, .int .u64 0, .int .i64 0, .bool f, .string ⟨#[]⟩, .int .i64 0] Q2 rfl rfl rfl rfl rfl sz4 rfl rfl rfl rfl ?_
      intro u4 hS Qn
      replace Q2 := Qn
      clear Qn
      replace Q1 := hS.other _ _ ne_k1_k2 Q1
      replace M := hS.mo _ N_k2 M
      clear hS
      refine w_nil ?_
      refine xn_blk ?_
      refine xn_then ?_
      refine w_seq ?_
      refine w_seq ?_
      refine w_reg ?_
      refine wl_load 49 (.tmp 1) (pt k1 0) (.agg #[.int .i64 k, .bool b, .int .u64 n0, .int .u64 n1, .int .u64 n2, .int .u64 n3, .int .i64 s, .bool f, .string t, .int .i64 e]) rfl rfl (run_row Q1 49 0 10 [.int .i64 k, .bool b, .int .u64 n0, .int .u64 n1, .int .u64 n2, .int .u64 n3, .int .i64 s, .bool f, .string t, .int .i64 e] rfl Tryz.underlying49 rfl sz49) rfl ?_
      refine wl_load 49 (.tmp 3) (pt k2 0) (.agg #[.int .i64 (k), .bool false, .int .u64 0, .int .u64 0, .int .u64 0, .int .u64 0, .int .i64 0, .bool f, .string ⟨#[]⟩, .int .i64 0]) rfl rfl (run_row Q2 49 0 10 [.int .i64 (k), .bool false, .int .u64 0, .int .u64 0, .int .u64 0, .int .u64 0, .int .i64 0, .bool f, .string ⟨#[]⟩, .int .i64 0] rfl Tryz.underlying49 rfl sz49) rfl ?_
      cases hf2 : sv k b n0 n1 n2 n3 s f t e k false 0 0 0 0 0 f (⟨#[]⟩) 0 with
      | true =>
        refine wl_bin (fun x y => do eqGuard .neq 49 (.tmp 35) (.tmp 36) x y; binOp .neq 49 x y) (.tmp 35) (.tmp 36) (.agg #[.int .i64 k, .bool b, .int .u64 n0, .int .u64 n1, .int .u64 n2, .int .u64 n3, .int .i64 s, .bool f, .string t, .int .i64 e]) (.agg #[.int .i64 (k), .bool false, .int .u64 0, .int .u64 0, .int .u64 0, .int .u64 0, .int .i64 0, .bool f, .string ⟨#[]⟩, .int .i64 0]) (.bool false) (fun _ => rfl) rfl rfl (neV hf2 _ _ _) rfl ?_
        refine w_nil ?_
        refine xn_then ?_
        refine w_condF rfl ?_
        refine w_skip ?_
        refine xn_then ?_
        refine w_seq ?_
        refine w_reg ?_
        refine wl_mv (.const (.int .i64 (0))) (.int .i64 (0)) (fun _ => rfl) rfl rfl ?_
        refine w_nil ?_
        refine xn_then ?_
        refine w_ret ?_
        exact w_ret1 _ (.int .i64 (0)) rfl rfl ⟨by unfold ctc; simp_all, M⟩
      | false =>
        refine wl_bin (fun x y => do eqGuard .neq 49 (.tmp 35) (.tmp 36) x y; binOp .neq 49 x y) (.tmp 35) (.tmp 36) (.agg #[.int .i64 k, .bool b, .int .u64 n0, .int .u64 n1, .int .u64 n2, .int .u64 n3, .int .i64 s, .bool f, .string t, .int .i64 e]) (.agg #[.int .i64 (k), .bool false, .int .u64 0, .int .u64 0, .int .u64 0, .int .u64 0, .int .i64 0, .bool f, .string ⟨#[]⟩, .int .i64 0]) (.bool true) (fun _ => rfl) rfl rfl (neV hf2 _ _ _) rfl ?_
        refine w_nil ?_
        refine xn_then ?_
        refine w_condT rfl ?_
        refine w_seq ?_
        refine w_reg ?_
        refine wl_mv (.const (.int .i64 (100))) (.int .i64 (100)) (fun _ => rfl) rfl rfl ?_
        refine w_nil ?_
        refine xn_then ?_
        refine w_ret ?_
        refine xr_then ?_
        exact w_ret1 _ (.int .i64 (100)) rfl rfl ⟨by unfold ctc; simp_all, M⟩
    | false =>
      have hf1p := of_decide_eq_false hf1
      refine wl_bin (fun x y => do eqGuard .eql 3 (.tmp 9) (.const (.int .i64 (2))) x y; binOp .eql 3 x y) (.tmp 9) (.const (.int .i64 (2))) (.int .i64 (k)) (.int .i64 (2)) (.bool false) (fun _ => rfl) rfl rfl (eq3 hf1 _ _ _) rfl ?_
      refine wl_mv (.tmp 22) (.bool false) (fun _ => rfl) rfl rfl ?_
      refine w_nil ?_
      refine xn_then ?_
      refine w_condF rfl ?_
      refine w_seq ?_
      refine w_reg ?_
      cases hf2 : decide (k = 3) with
      | true =>
        have hf2p := of_decide_eq_true hf2
        refine wl_bin (fun x y => do eqGuard .eql 3 (.tmp 9) (.const (.int .i64 (3))) x y; binOp .eql 3 x y) (.tmp 9) (.const (.int .i64 (3))) (.int .i64 (k)) (.int .i64 (3)) (.bool true) (fun _ => rfl) rfl rfl (eq3 hf2 _ _ _) rfl ?_
        refine wl_mv (.tmp 27) (.bool true) (fun _ => rfl) rfl rfl ?_
        refine w_nil ?_
        refine xn_then ?_
        refine w_condT rfl ?_
        refine w_seq ?_
        refine w_seq ?_
        refine w_reg ?_
        refine wl_un (fun v => Instr.fieldAt 49 v 3) (.tmp 1) (pt k1 0) (pt k1 8) (fun _ => rfl) rfl (by kernel_rfl) rfl ?_
        refine wl_load 9 (.tmp 28) (pt k1 8) (.string t) rfl rfl (run_one Q1 9 8 rfl Tryz.underlying9 rfl) rfl ?_
        refine wl_val (.int .i64 ((t.size : Nat) : Int)) (len_s _ _ _ (by exact rfl) _ _ _ _ _ _) rfl ?_
        cases hf3 : decide (64 < t.size) with
        | true =>
          have hf3p := of_decide_eq_true hf3
          refine wl_bin (fun x y => do eqGuard .gtr 3 (.tmp 30) (.const (.int .i64 (64))) x y; binOp .gtr 3 x y) (.tmp 30) (.const (.int .i64 (64))) (.int .i64 ((t.size : Nat) : Int)) (.int .i64 (64)) (.bool true) (fun _ => rfl) rfl rfl (gtN hf3 _ _ _) rfl ?_
          refine w_nil ?_
          refine xn_then ?_
          refine w_condT rfl ?_
          refine w_seq ?_
          refine w_reg ?_
          refine wl_mv (.const (.int .i64 (100))) (.int .i64 (100)) (fun _ => rfl) rfl rfl ?_
          refine w_nil ?_
          refine xn_then ?_
          refine w_ret ?_
          refine xr_then ?_
          refine xr_blk ?_
          refine xr_then ?_
          exact w_ret1 _ (.int .i64 (100)) rfl rfl ⟨by unfold ctc; simp_all, M⟩
        | false =>
          have hf3p := of_decide_eq_false hf3
          refine wl_bin (fun x y => do eqGuard .gtr 3 (.tmp 30) (.const (.int .i64 (64))) x y; binOp .gtr 3 x y) (.tmp 30) (.const (.int .i64 (64))) (.int .i64 ((t.size : Nat) : Int)) (.int .i64 (64)) (.bool false) (fun _ => rfl) rfl rfl (gtN hf3 _ _ _) rfl ?_
          refine w_nil ?_
          refine xn_then ?_
          refine w_condF rfl ?_
          refine w_skip ?_
          refine xn_then ?_
          refine w_reg ?_
          refine wl_un (fun v => Instr.fieldAt 49 v 3) (.tmp 1) (pt k1 0) (pt k1 8) (fun _ => rfl) rfl (by kernel_rfl) rfl ?_
          refine wl_load 9 (.tmp 32) (pt k1 8) (.string t) rfl rfl (run_one Q1 9 8 rfl Tryz.underlying9 rfl) rfl ?_
          refine wl_un (fun v => Instr.fieldAt 49 v 3) (.tmp 3) (pt k2 0) (pt k2 8) (fun _ => rfl) rfl (by kernel_rfl) rfl ?_
          refine wl_st1 9 (.tmp 34) (.tmp 33) k2 8 (.string t) [.int .i64 (k), .bool false, .int .u64 0, .int .u64 0, .int .u64 0, .int .u64 0, .int .i64 0, .bool false, .string ⟨#[]⟩, .int .i64 0] [.int .i64 (k), .bool false, .int .u64 0, .int .u64 0, .int .u64 0, .int .u64 0, .int .i64 0, .bool false, .string t, .int .i64 0] Q2 rfl rfl rfl rfl rfl sz9 rfl rfl rfl rfl ?_
          intro u4 hS Qn
          replace Q2 := Qn
          clear Qn
          replace Q1 := hS.other _ _ ne_k1_k2 Q1
          replace M := hS.mo _ N_k2 M
          clear hS
          refine w_nil ?_
          refine xn_blk ?_
          refine xn_then ?_
          refine w_seq ?_
          refine w_seq ?_
          refine w_reg ?_
          refine wl_load 49 (.tmp 1) (pt k1 0) (.agg #[.int .i64 k, .bool b, .int .u64 n0, .int .u64 n1, .int .u64 n2, .int .u64 n3, .int .i64 s, .bool f, .string t, .int .i64 e]) rfl rfl (run_row Q1 49 0 10 [.int .i64 k, .bool b, .int .u64 n0, .int .u64 n1, .int .u64 n2, .int .u64 n3, .int .i64 s, .bool f, .string t, .int .i64 e] rfl Tryz.underlying49 rfl sz49) rfl ?_
          refine wl_load 49 (.tmp 3) (pt k2 0) (.agg #[.int .i64 (k), .bool false, .int .u64 0, .int .u64 0, .int .u64 0, .int .u64 0, .int .i64 0, .bool false, .string t, .int .i64 0]) rfl rfl (run_row Q2 49 0 10 [.int .i64 (k), .bool false, .int .u64 0, .int .u64 0, .int .u64 0, .int .u64 0, .int .i64 0, .bool false, .string t, .int .i64 0] rfl Tryz.underlying49 rfl sz49) rfl ?_
          cases hf4 : sv k b n0 n1 n2 n3 s f t e k false 0 0 0 0 0 false t 0 with
          | true =>
            refine wl_bin (fun x y => do eqGuard .neq 49 (.tmp 35) (.tmp 36) x y; binOp .neq 49 x y) (.tmp 35) (.tmp 36) (.agg #[.int .i64 k, .bool b, .int .u64 n0, .int .u64 n1, .int .u64 n2, .int .u64 n3, .int .i64 s, .bool f, .string t, .int .i64 e]) (.agg #[.int .i64 (k), .bool false, .int .u64 0, .int .u64 0, .int .u64 0, .int .u64 0, .int .i64 0, .bool false, .string t, .int .i64 0]) (.bool false) (fun _ => rfl) rfl rfl (neV hf4 _ _ _) rfl ?_
            refine w_nil ?_
            refine xn_then ?_
            refine w_condF rfl ?_
            refine w_skip ?_
            refine xn_then ?_
            refine w_seq ?_
            refine w_reg ?_
            refine wl_mv (.const (.int .i64 (0))) (.int .i64 (0)) (fun _ => rfl) rfl rfl ?_
            refine w_nil ?_
            refine xn_then ?_
            refine w_ret ?_
            exact w_ret1 _ (.int .i64 (0)) rfl rfl ⟨by unfold ctc; simp_all, M⟩
          | false =>
            refine wl_bin (fun x y => do eqGuard .neq 49 (.tmp 35) (.tmp 36) x y; binOp .neq 49 x y) (.tmp 35) (.tmp 36) (.agg #[.int .i64 k, .bool b, .int .u64 n0, .int .u64 n1, .int .u64 n2, .int .u64 n3, .int .i64 s, .bool f, .string t, .int .i64 e]) (.agg #[.int .i64 (k), .bool false, .int .u64 0, .int .u64 0, .int .u64 0, .int .u64 0, .int .i64 0, .bool false, .string t, .int .i64 0]) (.bool true) (fun _ => rfl) rfl rfl (neV hf4 _ _ _) rfl ?_
            refine w_nil ?_
            refine xn_then ?_
            refine w_condT rfl ?_
            refine w_seq ?_
            refine w_reg ?_
            refine wl_mv (.const (.int .i64 (100))) (.int .i64 (100)) (fun _ => rfl) rfl rfl ?_
            refine w_nil ?_
            refine xn_then ?_
            refine w_ret ?_
            refine xr_then ?_
            exact w_ret1 _ (.int .i64 (100)) rfl rfl ⟨by unfold ctc; simp_all, M⟩
      | false =>
        have hf2p := of_decide_eq_false hf2
        refine wl_bin (fun x y => do eqGuard .eql 3 (.tmp 9) (.const (.int .i64 (3))) x y; binOp .eql 3 x y) (.tmp 9) (.const (.int .i64 (3))) (.int .i64 (k)) (.int .i64 (3)) (.bool false) (fun _ => rfl) rfl rfl (eq3 hf2 _ _ _) rfl ?_
        refine wl_mv (.tmp 27) (.bool false) (fun _ => rfl) rfl rfl ?_
        refine w_nil ?_
        refine xn_then ?_
        refine w_condF rfl ?_
        refine w_seq ?_
        refine w_reg ?_
        refine wl_mv (.const (.int .i64 (100))) (.int .i64 (100)) (fun _ => rfl) rfl rfl ?_
        refine w_nil ?_
        refine xn_then ?_
        refine w_ret ?_
        refine xr_blk ?_
        refine xr_then ?_
        exact w_ret1 _ (.int .i64 (100)) rfl rfl ⟨by unfold ctc; simp_all, M⟩
end Go.Proofs.YtepfokoepibkcaaGreat

