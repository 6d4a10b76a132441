/-
  What fits; the law of types and values.
-/
import Derived.Test.YtepfokoepibkcaaT2
import Derived.Test.YtepfokoepibkcaaEq
namespace Go.Proofs.Ytepfokoepibkcaa
open Go.RowKit D
theorem fit_n (k : Int) (b : Bool) (n0 n1 n2 n3 s : Int) (f : Bool) (t : ByteArray) (e : Int) (tk ts : Int) (w : World) : Calls Try.prog 12 #[.agg #[.int .i64 k, .bool b, .int .u64 n0, .int .u64 n1, .int .u64 n2, .int .u64 n3, .int .i64 s, .bool f, .string t, .int .i64 e], .agg #[.int .i64 tk, .int .i64 ts]] w fun e9 w' => e9 = .returned (.bool (fts k b n0 n1 n2 n3 s f t e tk ts)) ∧ Mo w w' := by
  refine w_enter 31 Try.func12 Try.ntmps12 rfl rfl ?_
  have M : Mo w w := Mo.refl _
  refine w_seq ?_
  refine w_reg ?_
  refine wl_box 28 (.tmp 0) (.agg #[.int .i64 k, .bool b, .int .u64 n0, .int .u64 n1, .int .u64 n2, .int .u64 n3, .int .i64 s, .bool f, .string t, .int .i64 e]) (#[.int .i64 k, .bool b, .int .u64 n0, .int .u64 n1, .int .u64 n2, .int .u64 n3, .int .i64 s, .bool f, .string t, .int .i64 e]) rfl rfl (fun _ => by kernel_rfl) rfl ?_
  intro k1 u1 hk hz hq Q1
  have N_k1 : w.heap.size ≤ k1 := by have := M.size; omega
  replace M := M.trans hq
  clear hk hz hq
  refine wl_box 30 (.tmp 1) (.agg #[.int .i64 tk, .int .i64 ts]) (#[.int .i64 tk, .int .i64 ts]) rfl rfl (fun _ => by kernel_rfl) rfl ?_
  intro k2 u2 hk hz hq Q2
  have ne_k1_k2 : k1 ≠ k2 := by have := Q1.lt; omega
  have N_k2 : w.heap.size ≤ k2 := by have := M.size; omega
  replace Q1 := Q1.mo hq
  replace M := M.trans hq
  clear hk hz hq
  refine wl_mv (.const (.bool false)) (.bool false) (fun _ => rfl) rfl rfl ?_
  refine w_nil ?_
  refine xn_then ?_
  refine w_seq ?_
  refine w_seq ?_
  refine w_reg ?_
  refine wl_load 28 (.tmp 2) (pt k1 0) (.agg #[.int .i64 k, .bool b, .int .u64 n0, .int .u64 n1, .int .u64 n2, .int .u64 n3, .int .i64 s, .bool f, .string t, .int .i64 e]) rfl rfl (run_row Q1 28 0 10 [.int .i64 k, .bool b, .int .u64 n0, .int .u64 n1, .int .u64 n2, .int .u64 n3, .int .i64 s, .bool f, .string t, .int .i64 e] rfl Try.underlying28 rfl sz28) rfl ?_
  refine wl_build 28 [(0, (.const (.int .i64 (0))))] [(0, .int .i64 (0))] (.agg #[.int .i64 (0), .bool false, .int .u64 0, .int .u64 0, .int .u64 0, .int .u64 0, .int .i64 0, .bool false, .string ⟨#[]⟩, .int .i64 0]) rfl rfl (by kernel_rfl) rfl ?_
  cases hf0 : sv k b n0 n1 n2 n3 s f t e 0 false 0 0 0 0 0 false (⟨#[]⟩) 0 with
  | true =>
    refine wl_bin (fun x y => do eqGuard .eql 28 (.tmp 5) (.tmp 6) x y; binOp .eql 28 x y) (.tmp 5) (.tmp 6) (.agg #[.int .i64 k, .bool b, .int .u64 n0, .int .u64 n1, .int .u64 n2, .int .u64 n3, .int .i64 s, .bool f, .string t, .int .i64 e]) (.agg #[.int .i64 (0), .bool false, .int .u64 0, .int .u64 0, .int .u64 0, .int .u64 0, .int .i64 0, .bool false, .string ⟨#[]⟩, .int .i64 0]) (.bool true) (fun _ => rfl) rfl rfl (eqV hf0 _ _ _) rfl ?_
    refine w_nil ?_
    refine xn_then ?_
    refine w_condT rfl ?_
    refine w_seq ?_
    refine w_reg ?_
    refine wl_mv (.const (.bool true)) (.bool true) (fun _ => rfl) rfl rfl ?_
    refine w_nil ?_
    refine xn_then ?_
    refine w_ret ?_
    refine xr_then ?_
    exact w_ret1 _ (.bool true) rfl rfl ⟨by simp [fts, hf0], M⟩
  | false =>
    refine wl_bin (fun x y => do eqGuard .eql 28 (.tmp 5) (.tmp 6) x y; binOp .eql 28 x y) (.tmp 5) (.tmp 6) (.agg #[.int .i64 k, .bool b, .int .u64 n0, .int .u64 n1, .int .u64 n2, .int .u64 n3, .int .i64 s, .bool f, .string t, .int .i64 e]) (.agg #[.int .i64 (0), .bool false, .int .u64 0, .int .u64 0, .int .u64 0, .int .u64 0, .int .i64 0, .bool false, .string ⟨#[]⟩, .int .i64 0]) (.bool false) (fun _ => rfl) rfl rfl (eqV hf0 _ _ _) rfl ?_
    refine w_nil ?_
    refine xn_then ?_
    refine w_condF rfl ?_
    refine w_skip ?_
    refine xn_then ?_
    refine w_seq ?_
    refine w_reg ?_
    refine wl_load 28 (.tmp 2) (pt k1 0) (.agg #[.int .i64 k, .bool b, .int .u64 n0, .int .u64 n1, .int .u64 n2, .int .u64 n3, .int .i64 s, .bool f, .string t, .int .i64 e]) rfl rfl (run_row Q1 28 0 10 [.int .i64 k, .bool b, .int .u64 n0, .int .u64 n1, .int .u64 n2, .int .u64 n3, .int .i64 s, .bool f, .string t, .int .i64 e] rfl Try.underlying28 rfl sz28) rfl ?_
    refine wl_call 10 [(.tmp 8)] _ [.agg #[.int .i64 k, .bool b, .int .u64 n0, .int .u64 n1, .int .u64 n2, .int .u64 n3, .int .i64 s, .bool f, .string t, .int .i64 e]] (.int .i64 (ctc k b n0 n1 n2 n3 s f t e)) rfl rfl (fun _ _ => by kernel_rfl) (cst_n k b n0 n1 n2 n3 s f t e _) rfl ?_
    intro u3 hq
    replace Q1 := Q1.mo hq
    replace Q2 := Q2.mo hq
    replace M := M.trans hq
    clear hq
    cases hf1 : decide (ctc k b n0 n1 n2 n3 s f t e = 0) with
    | true =>
      have hf1p := of_decide_eq_true hf1
      refine wl_bin (fun x y => do eqGuard .eql 32 (.tmp 9) (.const (.int .i64 (0))) x y; binOp .eql 32 x y) (.tmp 9) (.const (.int .i64 (0))) (.int .i64 (ctc k b n0 n1 n2 n3 s f t e)) (.int .i64 (0)) (.bool true) (fun _ => rfl) rfl rfl (eq34 hf1 _ _ _) rfl ?_
      refine wl_mv (.tmp 10) (.bool true) (fun _ => rfl) rfl rfl ?_
      refine wl_un (fun v => Instr.fieldAt 28 v 0) (.tmp 2) (pt k1 0) (pt k1 0) (fun _ => rfl) rfl (by kernel_rfl) rfl ?_
      refine wl_load 3 (.tmp 12) (pt k1 0) (.int .i64 (k)) rfl rfl (run_one Q1 3 0 rfl Try.underlying3 rfl) rfl ?_
      refine wl_un (fun v => Instr.fieldAt 30 v 0) (.tmp 3) (pt k2 0) (pt k2 0) (fun _ => rfl) rfl (by kernel_rfl) rfl ?_
      refine wl_load 3 (.tmp 14) (pt k2 0) (.int .i64 (tk)) rfl rfl (run_one Q2 3 0 rfl Try.underlying3 rfl) rfl ?_
      cases hf2 : decide (k = tk) with
      | true =>
        have hf2p := of_decide_eq_true hf2
        refine wl_bin (fun x y => do eqGuard .eql 3 (.tmp 13) (.tmp 15) x y; binOp .eql 3 x y) (.tmp 13) (.tmp 15) (.int .i64 (k)) (.int .i64 (tk)) (.bool true) (fun _ => rfl) rfl rfl (eq3 hf2 _ _ _) rfl ?_
        refine wl_pick (.tmp 11) (.tmp 16) (.const (.bool false)) true (.bool true) (fun _ => rfl) rfl rfl rfl ?_
        refine wl_mv (.tmp 17) (.bool true) (fun _ => rfl) rfl rfl ?_
        refine wl_un (fun v => Instr.fieldAt 28 v 0) (.tmp 2) (pt k1 0) (pt k1 0) (fun _ => rfl) rfl (by kernel_rfl) rfl ?_
        refine wl_load 3 (.tmp 19) (pt k1 0) (.int .i64 (k)) rfl rfl (run_one Q1 3 0 rfl Try.underlying3 rfl) rfl ?_
        cases hf3 : decide (k = 1) with
        | true =>
          have hf3p := of_decide_eq_true hf3
          refine wl_bin (fun x y => do eqGuard .neq 3 (.tmp 20) (.const (.int .i64 (1))) x y; binOp .neq 3 x y) (.tmp 20) (.const (.int .i64 (1))) (.int .i64 (k)) (.int .i64 (1)) (.bool false) (fun _ => rfl) rfl rfl (ne3 hf3 _ _ _) rfl ?_
          refine wl_mv (.tmp 21) (.bool false) (fun _ => rfl) rfl rfl ?_
          refine wl_un (fun v => Instr.fieldAt 28 v 1) (.tmp 2) (pt k1 0) (pt k1 1) (fun _ => rfl) rfl (by kernel_rfl) rfl ?_
          refine wl_un (fun v => Instr.fieldAt 26 v 2) (.tmp 23) (pt k1 1) (pt k1 6) (fun _ => rfl) rfl (by kernel_rfl) rfl ?_
          refine wl_load 3 (.tmp 24) (pt k1 6) (.int .i64 (s)) rfl rfl (run_one Q1 3 6 rfl Try.underlying3 rfl) rfl ?_
          refine wl_un (fun v => Instr.fieldAt 30 v 1) (.tmp 3) (pt k2 0) (pt k2 1) (fun _ => rfl) rfl (by kernel_rfl) rfl ?_
          refine wl_load 3 (.tmp 26) (pt k2 1) (.int .i64 (ts)) rfl rfl (run_one Q2 3 1 rfl Try.underlying3 rfl) rfl ?_
          cases hf4 : decide (s = ts) with
          | true =>
            have hf4p := of_decide_eq_true hf4
            refine wl_bin (fun x y => do eqGuard .eql 3 (.tmp 25) (.tmp 27) x y; binOp .eql 3 x y) (.tmp 25) (.tmp 27) (.int .i64 (s)) (.int .i64 (ts)) (.bool true) (fun _ => rfl) rfl rfl (eq3 hf4 _ _ _) rfl ?_
            refine wl_pick (.tmp 22) (.const (.bool true)) (.tmp 28) false (.bool true) (fun _ => rfl) rfl rfl rfl ?_
            refine wl_pick (.tmp 18) (.tmp 29) (.const (.bool false)) true (.bool true) (fun _ => rfl) rfl rfl rfl ?_
            refine wl_mv (.tmp 30) (.bool true) (fun _ => rfl) rfl rfl ?_
            refine w_nil ?_
            refine xn_then ?_
            refine w_ret ?_
            exact w_ret1 _ (.bool true) rfl rfl ⟨by simp [fts, hf0, hf1, hf2, hf3, hf4], M⟩
          | false =>
            have hf4p := of_decide_eq_false hf4
            refine wl_bin (fun x y => do eqGuard .eql 3 (.tmp 25) (.tmp 27) x y; binOp .eql 3 x y) (.tmp 25) (.tmp 27) (.int .i64 (s)) (.int .i64 (ts)) (.bool false) (fun _ => rfl) rfl rfl (eq3 hf4 _ _ _) rfl ?_
            refine wl_pick (.tmp 22) (.const (.bool true)) (.tmp 28) false (.bool false) (fun _ => rfl) rfl rfl rfl ?_
            refine wl_pick (.tmp 18) (.tmp 29) (.const (.bool false)) true (.bool false) (fun _ => rfl) rfl rfl rfl ?_
            refine wl_mv (.tmp 30) (.bool false) (fun _ => rfl) rfl rfl ?_
            refine w_nil ?_
            refine xn_then ?_
            refine w_ret ?_
            exact w_ret1 _ (.bool false) rfl rfl ⟨by simp [fts, hf0, hf1, hf2, hf3, hf4], M⟩
        | false =>
          have hf3p := of_decide_eq_false hf3
          refine wl_bin (fun x y => do eqGuard .neq 3 (.tmp 20) (.const (.int .i64 (1))) x y; binOp .neq 3 x y) (.tmp 20) (.const (.int .i64 (1))) (.int .i64 (k)) (.int .i64 (1)) (.bool true) (fun _ => rfl) rfl rfl (ne3 hf3 _ _ _) rfl ?_
          refine wl_mv (.tmp 21) (.bool true) (fun _ => rfl) rfl rfl ?_
          refine wl_skip rfl ?_
          refine wl_skip rfl ?_
          refine wl_skip rfl ?_
          refine wl_skip rfl ?_
          refine wl_skip rfl ?_
          refine wl_skip rfl ?_
          refine wl_pick (.tmp 22) (.const (.bool true)) (.tmp 28) true (.bool true) (fun _ => rfl) rfl rfl rfl ?_
          refine wl_pick (.tmp 18) (.tmp 29) (.const (.bool false)) true (.bool true) (fun _ => rfl) rfl rfl rfl ?_
          refine wl_mv (.tmp 30) (.bool true) (fun _ => rfl) rfl rfl ?_
          refine w_nil ?_
          refine xn_then ?_
          refine w_ret ?_
          exact w_ret1 _ (.bool true) rfl rfl ⟨by simp [fts, hf0, hf1, hf2, hf3], M⟩
      | false =>
        have hf2p := of_decide_eq_false hf2
        refine wl_bin (fun x y => do eqGuard .eql 3 (.tmp 13) (.tmp 15) x y; binOp .eql 3 x y) (.tmp 13) (.tmp 15) (.int .i64 (k)) (.int .i64 (tk)) (.bool false) (fun _ => rfl) rfl rfl (eq3 hf2 _ _ _) rfl ?_
        refine wl_pick (.tmp 11) (.tmp 16) (.const (.bool false)) true (.bool false) (fun _ => rfl) rfl rfl rfl ?_
        refine wl_mv (.tmp 17) (.bool false) (fun _ => rfl) rfl rfl ?_
        refine wl_skip rfl ?_
        refine wl_skip rfl ?_
        refine wl_skip rfl ?_
        refine wl_skip rfl ?_
        refine wl_skip rfl ?_
        refine wl_skip rfl ?_
        refine wl_skip rfl ?_
        refine wl_skip rfl ?_
        refine wl_skip rfl ?_
        refine wl_skip rfl ?_
        refine wl_skip rfl ?_
        refine wl_pick (.tmp 18) (.tmp 29) (.const (.bool false)) false (.bool false) (fun _ => rfl) rfl rfl rfl ?_
        refine wl_mv (.tmp 30) (.bool false) (fun _ => rfl) rfl rfl ?_
        refine w_nil ?_
        refine xn_then ?_
        refine w_ret ?_
        exact w_ret1 _ (.bool false) rfl rfl ⟨by simp [fts, hf0, hf1, hf2], M⟩
    | false =>
      have hf1p := of_decide_eq_false hf1
      refine wl_bin (fun x y => do eqGuard .eql 32 (.tmp 9) (.const (.int .i64 (0))) x y; binOp .eql 32 x y) (.tmp 9) (.const (.int .i64 (0))) (.int .i64 (ctc k b n0 n1 n2 n3 s f t e)) (.int .i64 (0)) (.bool false) (fun _ => rfl) rfl rfl (eq34 hf1 _ _ _) rfl ?_
      refine wl_mv (.tmp 10) (.bool false) (fun _ => rfl) rfl rfl ?_
      refine wl_skip rfl ?_
      refine wl_skip rfl ?_
      refine wl_skip rfl ?_
      refine wl_skip rfl ?_
      refine wl_skip rfl ?_
      refine wl_pick (.tmp 11) (.tmp 16) (.const (.bool false)) false (.bool false) (fun _ => rfl) rfl rfl rfl ?_
      refine wl_mv (.tmp 17) (.bool false) (fun _ => rfl) rfl rfl ?_
      refine wl_skip rfl ?_
      refine wl_skip rfl ?_
      refine wl_skip rfl ?_
      refine wl_skip rfl ?_
      refine wl_skip rfl ?_
      refine wl_skip rfl ?_
      refine wl_skip rfl ?_
      refine wl_skip rfl ?_
      refine wl_skip rfl ?_
      refine wl_skip rfl ?_
      refine wl_skip rfl ?_
      refine wl_pick (.tmp 18) (.tmp 29) (.const (.bool false)) false (.bool false) (fun _ => rfl) rfl rfl rfl ?_
      refine wl_mv (.tmp 30) (.bool false) (fun _ => rfl) rfl rfl ?_
      refine w_nil ?_
      refine xn_then ?_
      refine w_ret ?_
      exact w_ret1 _ (.bool false) rfl rfl ⟨by simp [fts, hf0, hf1], M⟩
theorem rfit_n (k : Int) (b : Bool) (n0 n1 n2 n3 s : Int) (f : Bool) (t : ByteArray) (e : Int) (tk ts : Int) (w : World) : Calls Try.prog 13 #[.agg #[.int .i64 k, .bool b, .int .u64 n0, .int .u64 n1, .int .u64 n2, .int .u64 n3, .int .i64 s, .bool f, .string t, .int .i64 e], .agg #[.int .i64 tk, .int .i64 ts]] w fun e9 w' => e9 = .returned (.bool (fts k b n0 n1 n2 n3 s f t e tk ts)) ∧ Mo w w' := by
  refine w_enter 31 Try.func13 Try.ntmps13 rfl rfl ?_
  have M : Mo w w := Mo.refl _
  refine w_seq ?_
  refine w_reg ?_
  refine wl_box 28 (.tmp 0) (.agg #[.int .i64 k, .bool b, .int .u64 n0, .int .u64 n1, .int .u64 n2, .int .u64 n3, .int .i64 s, .bool f, .string t, .int .i64 e]) (#[.int .i64 k, .bool b, .int .u64 n0, .int .u64 n1, .int .u64 n2, .int .u64 n3, .int .i64 s, .bool f, .string t, .int .i64 e]) rfl rfl (fun _ => by kernel_rfl) rfl ?_
  intro k1 u1 hk hz hq Q1
  have N_k1 : w.heap.size ≤ k1 := by have := M.size; omega
  replace M := M.trans hq
  clear hk hz hq
  refine wl_box 30 (.tmp 1) (.agg #[.int .i64 tk, .int .i64 ts]) (#[.int .i64 tk, .int .i64 ts]) rfl rfl (fun _ => by kernel_rfl) rfl ?_
  intro k2 u2 hk hz hq Q2
  have ne_k1_k2 : k1 ≠ k2 := by have := Q1.lt; omega
  have N_k2 : w.heap.size ≤ k2 := by have := M.size; omega
  replace Q1 := Q1.mo hq
  replace M := M.trans hq
  clear hk hz hq
  refine wl_mv (.const (.bool false)) (.bool false) (fun _ => rfl) rfl rfl ?_
  refine w_nil ?_
  refine xn_then ?_
  refine w_seq ?_
  refine w_seq ?_
  refine w_reg ?_
  refine wl_load 28 (.tmp 2) (pt k1 0) (.agg #[.int .i64 k, .bool b, .int .u64 n0, .int .u64 n1, .int .u64 n2, .int .u64 n3, .int .i64 s, .bool f, .string t, .int .i64 e]) rfl rfl (run_row Q1 28 0 10 [.int .i64 k, .bool b, .int .u64 n0, .int .u64 n1, .int .u64 n2, .int .u64 n3, .int .i64 s, .bool f, .string t, .int .i64 e] rfl Try.underlying28 rfl sz28) rfl ?_
  refine wl_build 28 [] [] (.agg #[.int .i64 0, .bool false, .int .u64 0, .int .u64 0, .int .u64 0, .int .u64 0, .int .i64 0, .bool false, .string ⟨#[]⟩, .int .i64 0]) rfl rfl (by kernel_rfl) rfl ?_
  cases hf0 : sv k b n0 n1 n2 n3 s f t e 0 false 0 0 0 0 0 false (⟨#[]⟩) 0 with
  | true =>
    refine wl_bin (fun x y => do eqGuard .eql 28 (.tmp 5) (.tmp 6) x y; binOp .eql 28 x y) (.tmp 5) (.tmp 6) (.agg #[.int .i64 k, .bool b, .int .u64 n0, .int .u64 n1, .int .u64 n2, .int .u64 n3, .int .i64 s, .bool f, .string t, .int .i64 e]) (.agg #[.int .i64 0, .bool false, .int .u64 0, .int .u64 0, .int .u64 0, .int .u64 0, .int .i64 0, .bool false, .string ⟨#[]⟩, .int .i64 0]) (.bool true) (fun _ => rfl) rfl rfl (eqV hf0 _ _ _) rfl ?_
    refine w_nil ?_
    refine xn_then ?_
    refine w_condT rfl ?_
    refine w_seq ?_
    refine w_reg ?_
    refine wl_mv (.const (.bool true)) (.bool true) (fun _ => rfl) rfl rfl ?_
    refine w_nil ?_
    refine xn_then ?_
    refine w_ret ?_
    refine xr_then ?_
    exact w_ret1 _ (.bool true) rfl rfl ⟨by simp [fts, hf0], M⟩
  | false =>
    refine wl_bin (fun x y => do eqGuard .eql 28 (.tmp 5) (.tmp 6) x y; binOp .eql 28 x y) (.tmp 5) (.tmp 6) (.agg #[.int .i64 k, .bool b, .int .u64 n0, .int .u64 n1, .int .u64 n2, .int .u64 n3, .int .i64 s, .bool f, .string t, .int .i64 e]) (.agg #[.int .i64 0, .bool false, .int .u64 0, .int .u64 0, .int .u64 0, .int .u64 0, .int .i64 0, .bool false, .string ⟨#[]⟩, .int .i64 0]) (.bool false) (fun _ => rfl) rfl rfl (eqV hf0 _ _ _) rfl ?_
    refine w_nil ?_
    refine xn_then ?_
    refine w_condF rfl ?_
    refine w_skip ?_
    refine xn_then ?_
    refine w_seq ?_
    refine w_reg ?_
    refine wl_load 28 (.tmp 2) (pt k1 0) (.agg #[.int .i64 k, .bool b, .int .u64 n0, .int .u64 n1, .int .u64 n2, .int .u64 n3, .int .i64 s, .bool f, .string t, .int .i64 e]) rfl rfl (run_row Q1 28 0 10 [.int .i64 k, .bool b, .int .u64 n0, .int .u64 n1, .int .u64 n2, .int .u64 n3, .int .i64 s, .bool f, .string t, .int .i64 e] rfl Try.underlying28 rfl sz28) rfl ?_
    refine wl_call 11 [(.tmp 8)] _ [.agg #[.int .i64 k, .bool b, .int .u64 n0, .int .u64 n1, .int .u64 n2, .int .u64 n3, .int .i64 s, .bool f, .string t, .int .i64 e]] (.int .i64 (ctc k b n0 n1 n2 n3 s f t e)) rfl rfl (fun _ _ => by kernel_rfl) (rcst_n k b n0 n1 n2 n3 s f t e _) rfl ?_
    intro u3 hq
    replace Q1 := Q1.mo hq
    replace Q2 := Q2.mo hq
    replace M := M.trans hq
    clear hq
    cases hf1 : decide (ctc k b n0 n1 n2 n3 s f t e = 0) with
    | true =>
      have hf1p := of_decide_eq_true hf1
      refine wl_bin (fun x y => do eqGuard .eql 32 (.tmp 9) (.const (.int .i64 (0))) x y; binOp .eql 32 x y) (.tmp 9) (.const (.int .i64 (0))) (.int .i64 (ctc k b n0 n1 n2 n3 s f t e)) (.int .i64 (0)) (.bool true) (fun _ => rfl) rfl rfl (eq34 hf1 _ _ _) rfl ?_
      refine wl_mv (.tmp 10) (.bool true) (fun _ => rfl) rfl rfl ?_
      refine wl_un (fun v => Instr.fieldAt 28 v 0) (.tmp 2) (pt k1 0) (pt k1 0) (fun _ => rfl) rfl (by kernel_rfl) rfl ?_
      refine wl_load 3 (.tmp 12) (pt k1 0) (.int .i64 (k)) rfl rfl (run_one Q1 3 0 rfl Try.underlying3 rfl) rfl ?_
      refine wl_un (fun v => Instr.fieldAt 30 v 0) (.tmp 3) (pt k2 0) (pt k2 0) (fun _ => rfl) rfl (by kernel_rfl) rfl ?_
      refine wl_load 3 (.tmp 14) (pt k2 0) (.int .i64 (tk)) rfl rfl (run_one Q2 3 0 rfl Try.underlying3 rfl) rfl ?_
      cases hf2 : decide (k = tk) with
      | true =>
        have hf2p := of_decide_eq_true hf2
        refine wl_bin (fun x y => do eqGuard .eql 3 (.tmp 13) (.tmp 15) x y; binOp .eql 3 x y) (.tmp 13) (.tmp 15) (.int .i64 (k)) (.int .i64 (tk)) (.bool true) (fun _ => rfl) rfl rfl (eq3 hf2 _ _ _) rfl ?_
        refine wl_pick (.tmp 11) (.tmp 16) (.const (.bool false)) true (.bool true) (fun _ => rfl) rfl rfl rfl ?_
        refine wl_mv (.tmp 17) (.bool true) (fun _ => rfl) rfl rfl ?_
        refine wl_un (fun v => Instr.fieldAt 28 v 0) (.tmp 2) (pt k1 0) (pt k1 0) (fun _ => rfl) rfl (by kernel_rfl) rfl ?_
        refine wl_load 3 (.tmp 19) (pt k1 0) (.int .i64 (k)) rfl rfl (run_one Q1 3 0 rfl Try.underlying3 rfl) rfl ?_
        cases hf3 : decide (k = 1) with
        | true =>
          have hf3p := of_decide_eq_true hf3
          refine wl_bin (fun x y => do eqGuard .neq 3 (.tmp 20) (.const (.int .i64 (1))) x y; binOp .neq 3 x y) (.tmp 20) (.const (.int .i64 (1))) (.int .i64 (k)) (.int .i64 (1)) (.bool false) (fun _ => rfl) rfl rfl (ne3 hf3 _ _ _) rfl ?_
          refine wl_mv (.tmp 21) (.bool false) (fun _ => rfl) rfl rfl ?_
          refine wl_un (fun v => Instr.fieldAt 28 v 1) (.tmp 2) (pt k1 0) (pt k1 1) (fun _ => rfl) rfl (by kernel_rfl) rfl ?_
          refine wl_un (fun v => Instr.fieldAt 26 v 2) (.tmp 23) (pt k1 1) (pt k1 6) (fun _ => rfl) rfl (by kernel_rfl) rfl ?_
          refine wl_load 3 (.tmp 24) (pt k1 6) (.int .i64 (s)) rfl rfl (run_one Q1 3 6 rfl Try.underlying3 rfl) rfl ?_
          refine wl_un (fun v => Instr.fieldAt 30 v 1) (.tmp 3) (pt k2 0) (pt k2 1) (fun _ => rfl) rfl (by kernel_rfl) rfl ?_
          refine wl_load 3 (.tmp 26) (pt k2 1) (.int .i64 (ts)) rfl rfl (run_one Q2 3 1 rfl Try.underlying3 rfl) rfl ?_
          cases hf4 : decide (s = ts) with
          | true =>
            have hf4p := of_decide_eq_true hf4
            refine wl_bin (fun x y => do eqGuard .eql 3 (.tmp 25) (.tmp 27) x y; binOp .eql 3 x y) (.tmp 25) (.tmp 27) (.int .i64 (s)) (.int .i64 (ts)) (.bool true) (fun _ => rfl) rfl rfl (eq3 hf4 _ _ _) rfl ?_
            refine wl_pick (.tmp 22) (.const (.bool true)) (.tmp 28) false (.bool true) (fun _ => rfl) rfl rfl rfl ?_
            refine wl_pick (.tmp 18) (.tmp 29) (.const (.bool false)) true (.bool true) (fun _ => rfl) rfl rfl rfl ?_
            refine wl_mv (.tmp 30) (.bool true) (fun _ => rfl) rfl rfl ?_
            refine w_nil ?_
            refine xn_then ?_
            refine w_ret ?_
            exact w_ret1 _ (.bool true) rfl rfl ⟨by simp [fts, hf0, hf1, hf2, hf3, hf4], M⟩
          | false =>
            have hf4p := of_decide_eq_false hf4
            refine wl_bin (fun x y => do eqGuard .eql 3 (.tmp 25) (.tmp 27) x y; binOp .eql 3 x y) (.tmp 25) (.tmp 27) (.int .i64 (s)) (.int .i64 (ts)) (.bool false) (fun _ => rfl) rfl rfl (eq3 hf4 _ _ _) rfl ?_
            refine wl_pick (.tmp 22) (.const (.bool true)) (.tmp 28) false (.bool false) (fun _ => rfl) rfl rfl rfl ?_
            refine wl_pick (.tmp 18) (.tmp 29) (.const (.bool false)) true (.bool false) (fun _ => rfl) rfl rfl rfl ?_
            refine wl_mv (.tmp 30) (.bool false) (fun _ => rfl) rfl rfl ?_
            refine w_nil ?_
            refine xn_then ?_
            refine w_ret ?_
            exact w_ret1 _ (.bool false) rfl rfl ⟨by simp [fts, hf0, hf1, hf2, hf3, hf4], M⟩
        | false =>
          have hf3p := of_decide_eq_false hf3
          refine wl_bin (fun x y => do eqGuard .neq 3 (.tmp 20) (.const (.int .i64 (1))) x y; binOp .neq 3 x y) (.tmp 20) (.const (.int .i64 (1))) (.int .i64 (k)) (.int .i64 (1)) (.bool true) (fun _ => rfl) rfl rfl (ne3 hf3 _ _ _) rfl ?_
          refine wl_mv (.tmp 21) (.bool true) (fun _ => rfl) rfl rfl ?_
          refine wl_skip rfl ?_
          refine wl_skip rfl ?_
          refine wl_skip rfl ?_
          refine wl_skip rfl ?_
          refine wl_skip rfl ?_
          refine wl_skip rfl ?_
          refine wl_pick (.tmp 22) (.const (.bool true)) (.tmp 28) true (.bool true) (fun _ => rfl) rfl rfl rfl ?_
          refine wl_pick (.tmp 18) (.tmp 29) (.const (.bool false)) true (.bool true) (fun _ => rfl) rfl rfl rfl ?_
          refine wl_mv (.tmp 30) (.bool true) (fun _ => rfl) rfl rfl ?_
          refine w_nil ?_
          refine xn_then ?_
          refine w_ret ?_
          exact w_ret1 _ (.bool true) rfl rfl ⟨by simp [fts, hf0, hf1, hf2, hf3], M⟩
      | false =>
        have hf2p := of_decide_eq_false hf2
        refine wl_bin (fun x y => do eqGuard .eql 3 (.tmp 13) (.tmp 15) x y; binOp .eql 3 x y) (.tmp 13) (.tmp 15) (.int .i64 (k)) (.int .i64 (tk)) (.bool false) (fun _ => rfl) rfl rfl (eq3 hf2 _ _ _) rfl ?_
        refine wl_pick (.tmp 11) (.tmp 16) (.const (.bool false)) true (.bool false) (fun _ => rfl) rfl rfl rfl ?_
        refine wl_mv (.tmp 17) (.bool false) (fun _ => rfl) rfl rfl ?_
        refine wl_skip rfl ?_
        refine wl_skip rfl ?_
        refine wl_skip rfl ?_
        refine wl_skip rfl ?_
        refine wl_skip rfl ?_
        refine wl_skip rfl ?_
        refine wl_skip rfl ?_
        refine wl_skip rfl ?_
        refine wl_skip rfl ?_
        refine wl_skip rfl ?_
        refine wl_skip rfl ?_
        refine wl_pick (.tmp 18) (.tmp 29) (.const (.bool false)) false (.bool false) (fun _ => rfl) rfl rfl rfl ?_
        refine wl_mv (.tmp 30) (.bool false) (fun _ => rfl) rfl rfl ?_
        refine w_nil ?_
        refine xn_then ?_
        refine w_ret ?_
        exact w_ret1 _ (.bool false) rfl rfl ⟨by simp [fts, hf0, hf1, hf2], M⟩
    | false =>
      have hf1p := of_decide_eq_false hf1
      refine wl_bin (fun x y => do eqGuard .eql 32 (.tmp 9) (.const (.int .i64 (0))) x y; binOp .eql 32 x y) (.tmp 9) (.const (.int .i64 (0))) (.int .i64 (ctc k b n0 n1 n2 n3 s f t e)) (.int .i64 (0)) (.bool false) (fun _ => rfl) rfl rfl (eq34 hf1 _ _ _) rfl ?_
      refine wl_mv (.tmp 10) (.bool false) (fun _ => rfl) rfl rfl ?_
      refine wl_skip rfl ?_
      refine wl_skip rfl ?_
      refine wl_skip rfl ?_
      refine wl_skip rfl ?_
      refine wl_skip rfl ?_
      refine wl_pick (.tmp 11) (.tmp 16) (.const (.bool false)) false (.bool false) (fun _ => rfl) rfl rfl rfl ?_
      refine wl_mv (.tmp 17) (.bool false) (fun _ => rfl) rfl rfl ?_
      refine wl_skip rfl ?_
      refine wl_skip rfl ?_
      refine wl_skip rfl ?_
      refine wl_skip rfl ?_
      refine wl_skip rfl ?_
      refine wl_skip rfl ?_
      refine wl_skip rfl ?_
      refine wl_skip rfl ?_
      refine wl_skip rfl ?_
      refine wl_skip rfl ?_
      refine wl_skip rfl ?_
      refine wl_pick (.tmp 18) (.tmp 29) (.const (.bool false)) false (.bool false) (fun _ => rfl) rfl rfl rfl ?_
      refine wl_mv (.tmp 30) (.bool false) (fun _ => rfl) rfl rfl ?_
      refine w_nil ?_
      refine xn_then ?_
      refine w_ret ?_
      exact w_ret1 _ (.bool false) rfl rfl ⟨by simp [fts, hf0, hf1], M⟩
theorem begun_n (w : World) : Calls Try.prog 7 #[] w fun e w' => e = .returned (.bool true) ∧ Mo w w' :=
  (E.e_begun w).mono fun _ _ h => ⟨h.1, ⟨h.2.2.1, h.2.2.2.1, h.2.2.2.2.1, h.2.1, h.2.2.2.2.2.1⟩, h.2.2.2.2.2.2⟩
theorem eqee (a : Int) (x y : Operand) (w : World) : (do eqGuard .eql 32 x y (.int .i64 a) (.int .i64 a); binOp .eql 32 (.int .i64 a) (.int .i64 a)).run Try.prog w = .ok (.bool true) w := eq34 (decide_eq_true rfl) x y w
theorem eqbb (a : Bool) (x y : Operand) (w : World) : (do eqGuard .eql 4 x y (.bool a) (.bool a); binOp .eql 4 (.bool a) (.bool a)).run Try.prog w = .ok (.bool true) w := eq4b (beq_self_eq_true a) x y w
theorem values_n (k : Int) (b : Bool) (n0 n1 n2 n3 s : Int) (fl : Bool) (t : ByteArray) (er : Int) (tk ts : Int) (w : World) : Calls Try.prog 3 #[.agg #[.int .i64 k, .bool b, .int .u64 n0, .int .u64 n1, .int .u64 n2, .int .u64 n3, .int .i64 s, .bool fl, .string t, .int .i64 er], .agg #[.int .i64 tk, .int .i64 ts]] w fun e9 w' => e9 = .returned (.bool true) ∧ Mo w w' := by
  refine w_enter 29 Try.func3 Try.ntmps3 rfl rfl ?_
  have M : Mo w w := Mo.refl _
  refine w_seq ?_
  refine w_reg ?_
  refine wl_box 28 (.tmp 0) (.agg #[.int .i64 k, .bool b, .int .u64 n0, .int .u64 n1, .int .u64 n2, .int .u64 n3, .int .i64 s, .bool fl, .string t, .int .i64 er]) (#[.int .i64 k, .bool b, .int .u64 n0, .int .u64 n1, .int .u64 n2, .int .u64 n3, .int .i64 s, .bool fl, .string t, .int .i64 er]) rfl rfl (fun _ => by kernel_rfl) rfl ?_
  intro k1 u1 hk hz hq Q1
  have N_k1 : w.heap.size ≤ k1 := by have := M.size; omega
  replace M := M.trans hq
  clear hk hz hq
  refine wl_box 30 (.tmp 1) (.agg #[.int .i64 tk, .int .i64 ts]) (#[.int .i64 tk, .int .i64 ts]) rfl rfl (fun _ => by kernel_rfl) rfl ?_
  intro k2 u2 hk hz hq Q2
  have ne_k1_k2 : k1 ≠ k2 := by have := Q1.lt; omega
  have N_k2 : w.heap.size ≤ k2 := by have := M.size; omega
  replace Q1 := Q1.mo hq
  replace M := M.trans hq
  clear hk hz hq
  refine wl_mv (.const (.bool false)) (.bool false) (fun _ => rfl) rfl rfl ?_
  refine w_nil ?_
  refine xn_then ?_
  refine w_seq ?_
  refine w_any 21 [.inl (.bool true), .inl (.bool true), .inl (.agg #[.int .i64 tk, .int .i64 ts]), .inl (.int .i64 (tyc tk ts)), .inl (.agg #[.int .i64 tk, .int .i64 ts]), .inl (.int .i64 (tyc tk ts)), .inl (.bool true), .inl (.bool true), .inl (.bool true), .inl (.agg #[.int .i64 k, .bool b, .int .u64 n0, .int .u64 n1, .int .u64 n2, .int .u64 n3, .int .i64 s, .bool fl, .string t, .int .i64 er]), .inl (.int .i64 (ctc k b n0 n1 n2 n3 s fl t er)), .inl (.agg #[.int .i64 k, .bool b, .int .u64 n0, .int .u64 n1, .int .u64 n2, .int .u64 n3, .int .i64 s, .bool fl, .string t, .int .i64 er]), .inl (.int .i64 (ctc k b n0 n1 n2 n3 s fl t er)), .inl (.bool true), .inl (.bool true), .inl (.bool true), .inl (.agg #[.int .i64 k, .bool b, .int .u64 n0, .int .u64 n1, .int .u64 n2, .int .u64 n3, .int .i64 s, .bool fl, .string t, .int .i64 er]), .inl (.agg #[.int .i64 tk, .int .i64 ts]), .inl (.bool (fts k b n0 n1 n2 n3 s fl t er tk ts)), .inl (.agg #[.int .i64 k, .bool b, .int .u64 n0, .int .u64 n1, .int .u64 n2, .int .u64 n3, .int .i64 s, .bool fl, .string t, .int .i64 er]), .inl (.agg #[.int .i64 tk, .int .i64 ts])] [] (by kernel_rfl) (by kernel_rfl) (by kernel_rfl) (by kernel_rfl) rfl (by kernel_rfl) (by kernel_rfl) late_nil ?_ ?_ ?_
  · exact Ds.none rfl
  · refine ea_cons ?_ (ea_cons ?_ (ea_cons ?_ (ea_cons ?_ (ea_cons ?_ (ea_cons ?_ (ea_cons ?_ (ea_cons ?_ (ea_cons ?_ (ea_cons ?_ (ea_cons ?_ (ea_cons ?_ (ea_cons ?_ (ea_cons ?_ (ea_cons ?_ (ea_cons ?_ (ea_cons ?_ (ea_cons ?_ (ea_cons ?_ (ea_cons ?_ (ea_cons ?_ (ea_nil)))))))))))))))))))))
    · exact og_eq (.bool true) rfl (fun f wf hq hd K hK => go_run rfl (wo_call 7 [] _ [] (.bool true) rfl rfl (fun _ _ => by kernel_rfl) (begun_n _) hK))
    · exact og_eq (.bool true) rfl (fun f wf hq hd K hK => go_run rfl (wo_mv (.tmp 5) (.bool true) (fun _ => rfl) (hd 0 rfl) (hK _ (Mo.refl _))))
    · exact og_eq (.agg #[.int .i64 tk, .int .i64 ts]) rfl (fun f wf hq hd K hK => have Q2 := Q2.mo hq; go_run (wnt_g rfl rfl rfl (hd 1 rfl) rfl) (wo_load 30 (.tmp 3) (pt k2 0) (.agg #[.int .i64 tk, .int .i64 ts]) rfl rfl (run_row Q2 30 0 2 [.int .i64 tk, .int .i64 ts] rfl Try.underlying30 rfl sz30) (hK _ (Mo.refl _))))
    · exact og_eq (.int .i64 (tyc tk ts)) rfl (fun f wf hq hd K hK => go_run (wnt_g rfl rfl rfl (hd 1 rfl) rfl) (wo_call 8 [(.tmp 7)] _ [.agg #[.int .i64 tk, .int .i64 ts]] (.int .i64 (tyc tk ts)) rfl (li1 (hd 2 rfl)) (fun _ _ => by kernel_rfl) (typ_n tk ts _) hK))
    · exact og_eq (.agg #[.int .i64 tk, .int .i64 ts]) rfl (fun f wf hq hd K hK => have Q2 := Q2.mo hq; go_run (wnt_g rfl rfl rfl (hd 1 rfl) rfl) (wo_load 30 (.tmp 3) (pt k2 0) (.agg #[.int .i64 tk, .int .i64 ts]) rfl rfl (run_row Q2 30 0 2 [.int .i64 tk, .int .i64 ts] rfl Try.underlying30 rfl sz30) (hK _ (Mo.refl _))))
    · exact og_eq (.int .i64 (tyc tk ts)) rfl (fun f wf hq hd K hK => go_run (wnt_g rfl rfl rfl (hd 1 rfl) rfl) (wo_call 9 [(.tmp 9)] _ [.agg #[.int .i64 tk, .int .i64 ts]] (.int .i64 (tyc tk ts)) rfl (li1 (hd 4 rfl)) (fun _ _ => by kernel_rfl) (rtyp_n tk ts _) hK))
    · exact og_eq (.bool true) rfl (fun f wf hq hd K hK => go_run (wnt_g rfl rfl rfl (hd 1 rfl) rfl) (wo_bin (fun x y => do eqGuard .eql 32 (.tmp 8) (.tmp 10) x y; binOp .eql 32 x y) (.tmp 8) (.tmp 10) (.int .i64 (tyc tk ts)) (.int .i64 (tyc tk ts)) (.bool true) (fun _ => rfl) (hd 3 rfl) (hd 5 rfl) (eqee _ _ _ _) (hK _ (Mo.refl _))))
    · exact og_eq (.bool true) rfl (fun f wf hq hd K hK => go_run rfl (wo_pick (.tmp 6) (.tmp 11) (.const (.bool false)) true (.bool true) (fun _ => rfl) (hd 1 rfl) (hd 6 rfl) (hK _ (Mo.refl _))))
    · exact og_eq (.bool true) rfl (fun f wf hq hd K hK => go_run rfl (wo_mv (.tmp 12) (.bool true) (fun _ => rfl) (hd 7 rfl) (hK _ (Mo.refl _))))
    · exact og_eq (.agg #[.int .i64 k, .bool b, .int .u64 n0, .int .u64 n1, .int .u64 n2, .int .u64 n3, .int .i64 s, .bool fl, .string t, .int .i64 er]) rfl (fun f wf hq hd K hK => have Q1 := Q1.mo hq; go_run (wnt_g rfl rfl rfl (hd 8 rfl) rfl) (wo_load 28 (.tmp 2) (pt k1 0) (.agg #[.int .i64 k, .bool b, .int .u64 n0, .int .u64 n1, .int .u64 n2, .int .u64 n3, .int .i64 s, .bool fl, .string t, .int .i64 er]) rfl rfl (run_row Q1 28 0 10 [.int .i64 k, .bool b, .int .u64 n0, .int .u64 n1, .int .u64 n2, .int .u64 n3, .int .i64 s, .bool fl, .string t, .int .i64 er] rfl Try.underlying28 rfl sz28) (hK _ (Mo.refl _))))
    · exact og_eq (.int .i64 (ctc k b n0 n1 n2 n3 s fl t er)) rfl (fun f wf hq hd K hK => go_run (wnt_g rfl rfl rfl (hd 8 rfl) rfl) (wo_call 10 [(.tmp 14)] _ [.agg #[.int .i64 k, .bool b, .int .u64 n0, .int .u64 n1, .int .u64 n2, .int .u64 n3, .int .i64 s, .bool fl, .string t, .int .i64 er]] (.int .i64 (ctc k b n0 n1 n2 n3 s fl t er)) rfl (li1 (hd 9 rfl)) (fun _ _ => by kernel_rfl) (cst_n k b n0 n1 n2 n3 s fl t er _) hK))
    · exact og_eq (.agg #[.int .i64 k, .bool b, .int .u64 n0, .int .u64 n1, .int .u64 n2, .int .u64 n3, .int .i64 s, .bool fl, .string t, .int .i64 er]) rfl (fun f wf hq hd K hK => have Q1 := Q1.mo hq; go_run (wnt_g rfl rfl rfl (hd 8 rfl) rfl) (wo_load 28 (.tmp 2) (pt k1 0) (.agg #[.int .i64 k, .bool b, .int .u64 n0, .int .u64 n1, .int .u64 n2, .int .u64 n3, .int .i64 s, .bool fl, .string t, .int .i64 er]) rfl rfl (run_row Q1 28 0 10 [.int .i64 k, .bool b, .int .u64 n0, .int .u64 n1, .int .u64 n2, .int .u64 n3, .int .i64 s, .bool fl, .string t, .int .i64 er] rfl Try.underlying28 rfl sz28) (hK _ (Mo.refl _))))
    · exact og_eq (.int .i64 (ctc k b n0 n1 n2 n3 s fl t er)) rfl (fun f wf hq hd K hK => go_run (wnt_g rfl rfl rfl (hd 8 rfl) rfl) (wo_call 11 [(.tmp 16)] _ [.agg #[.int .i64 k, .bool b, .int .u64 n0, .int .u64 n1, .int .u64 n2, .int .u64 n3, .int .i64 s, .bool fl, .string t, .int .i64 er]] (.int .i64 (ctc k b n0 n1 n2 n3 s fl t er)) rfl (li1 (hd 11 rfl)) (fun _ _ => by kernel_rfl) (rcst_n k b n0 n1 n2 n3 s fl t er _) hK))
    · exact og_eq (.bool true) rfl (fun f wf hq hd K hK => go_run (wnt_g rfl rfl rfl (hd 8 rfl) rfl) (wo_bin (fun x y => do eqGuard .eql 32 (.tmp 15) (.tmp 17) x y; binOp .eql 32 x y) (.tmp 15) (.tmp 17) (.int .i64 (ctc k b n0 n1 n2 n3 s fl t er)) (.int .i64 (ctc k b n0 n1 n2 n3 s fl t er)) (.bool true) (fun _ => rfl) (hd 10 rfl) (hd 12 rfl) (eqee _ _ _ _) (hK _ (Mo.refl _))))
    · exact og_eq (.bool true) rfl (fun f wf hq hd K hK => go_run rfl (wo_pick (.tmp 13) (.tmp 18) (.const (.bool false)) true (.bool true) (fun _ => rfl) (hd 8 rfl) (hd 13 rfl) (hK _ (Mo.refl _))))
    · exact og_eq (.bool true) rfl (fun f wf hq hd K hK => go_run rfl (wo_mv (.tmp 19) (.bool true) (fun _ => rfl) (hd 14 rfl) (hK _ (Mo.refl _))))
    · exact og_eq (.agg #[.int .i64 k, .bool b, .int .u64 n0, .int .u64 n1, .int .u64 n2, .int .u64 n3, .int .i64 s, .bool fl, .string t, .int .i64 er]) rfl (fun f wf hq hd K hK => have Q1 := Q1.mo hq; go_run (wnt_g rfl rfl rfl (hd 15 rfl) rfl) (wo_load 28 (.tmp 2) (pt k1 0) (.agg #[.int .i64 k, .bool b, .int .u64 n0, .int .u64 n1, .int .u64 n2, .int .u64 n3, .int .i64 s, .bool fl, .string t, .int .i64 er]) rfl rfl (run_row Q1 28 0 10 [.int .i64 k, .bool b, .int .u64 n0, .int .u64 n1, .int .u64 n2, .int .u64 n3, .int .i64 s, .bool fl, .string t, .int .i64 er] rfl Try.underlying28 rfl sz28) (hK _ (Mo.refl _))))
    · exact og_eq (.agg #[.int .i64 tk, .int .i64 ts]) rfl (fun f wf hq hd K hK => have Q2 := Q2.mo hq; go_run (wnt_g rfl rfl rfl (hd 15 rfl) rfl) (wo_load 30 (.tmp 3) (pt k2 0) (.agg #[.int .i64 tk, .int .i64 ts]) rfl rfl (run_row Q2 30 0 2 [.int .i64 tk, .int .i64 ts] rfl Try.underlying30 rfl sz30) (hK _ (Mo.refl _))))
    · exact og_eq (.bool (fts k b n0 n1 n2 n3 s fl t er tk ts)) rfl (fun f wf hq hd K hK => go_run (wnt_g rfl rfl rfl (hd 15 rfl) rfl) (wo_call 12 [(.tmp 21), (.tmp 22)] _ [.agg #[.int .i64 k, .bool b, .int .u64 n0, .int .u64 n1, .int .u64 n2, .int .u64 n3, .int .i64 s, .bool fl, .string t, .int .i64 er], .agg #[.int .i64 tk, .int .i64 ts]] (.bool (fts k b n0 n1 n2 n3 s fl t er tk ts)) rfl (li2 (hd 16 rfl) (hd 17 rfl)) (fun _ _ => by kernel_rfl) (fit_n k b n0 n1 n2 n3 s fl t er tk ts _) hK))
    · exact og_eq (.agg #[.int .i64 k, .bool b, .int .u64 n0, .int .u64 n1, .int .u64 n2, .int .u64 n3, .int .i64 s, .bool fl, .string t, .int .i64 er]) rfl (fun f wf hq hd K hK => have Q1 := Q1.mo hq; go_run (wnt_g rfl rfl rfl (hd 15 rfl) rfl) (wo_load 28 (.tmp 2) (pt k1 0) (.agg #[.int .i64 k, .bool b, .int .u64 n0, .int .u64 n1, .int .u64 n2, .int .u64 n3, .int .i64 s, .bool fl, .string t, .int .i64 er]) rfl rfl (run_row Q1 28 0 10 [.int .i64 k, .bool b, .int .u64 n0, .int .u64 n1, .int .u64 n2, .int .u64 n3, .int .i64 s, .bool fl, .string t, .int .i64 er] rfl Try.underlying28 rfl sz28) (hK _ (Mo.refl _))))
    · exact og_eq (.agg #[.int .i64 tk, .int .i64 ts]) rfl (fun f wf hq hd K hK => have Q2 := Q2.mo hq; go_run (wnt_g rfl rfl rfl (hd 15 rfl) rfl) (wo_load 30 (.tmp 3) (pt k2 0) (.agg #[.int .i64 tk, .int .i64 ts]) rfl rfl (run_row Q2 30 0 2 [.int .i64 tk, .int .i64 ts] rfl Try.underlying30 rfl sz30) (hK _ (Mo.refl _))))
  intro kf3 u3 hq hR hne
  replace Q1 := Q1.mo hq
  replace Q2 := Q2.mo hq
  replace M := M.trans hq
  clear hq hR hne
  refine wl_call 13 [(.tmp 24), (.tmp 25)] _ [.agg #[.int .i64 k, .bool b, .int .u64 n0, .int .u64 n1, .int .u64 n2, .int .u64 n3, .int .i64 s, .bool fl, .string t, .int .i64 er], .agg #[.int .i64 tk, .int .i64 ts]] (.bool (fts k b n0 n1 n2 n3 s fl t er tk ts)) rfl rfl (fun _ _ => by kernel_rfl) (rfit_n k b n0 n1 n2 n3 s fl t er tk ts _) rfl ?_
  intro u4 hq
  replace Q1 := Q1.mo hq
  replace Q2 := Q2.mo hq
  replace M := M.trans hq
  clear hq
  refine wl_bin (fun x y => do eqGuard .eql 4 (.tmp 23) (.tmp 26) x y; binOp .eql 4 x y) (.tmp 23) (.tmp 26) (.bool (fts k b n0 n1 n2 n3 s fl t er tk ts)) (.bool (fts k b n0 n1 n2 n3 s fl t er tk ts)) (.bool true) (fun _ => rfl) rfl rfl (eqbb _ _ _ _) rfl ?_
  refine wl_pick (.tmp 20) (.tmp 27) (.const (.bool false)) true (.bool true) (fun _ => rfl) rfl rfl rfl ?_
  refine wl_mv (.tmp 28) (.bool true) (fun _ => rfl) rfl rfl ?_
  refine w_nil ?_
  refine xn_then ?_
  refine w_ret ?_
  exact w_ret1 _ (.bool true) rfl rfl ⟨rfl, M⟩
end Go.Proofs.Ytepfokoepibkcaa
