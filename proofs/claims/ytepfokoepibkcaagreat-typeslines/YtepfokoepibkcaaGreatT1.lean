/-
  Scales, types, decimals, constants, what fits: both sides.
-/
import Derived.Test.YtepfokoepibkcaaGreatTq
import Derived.Test.YtepfokoepibkcaaGreatDat
namespace Go.Proofs.YtepfokoepibkcaaGreat
open Go.RowKit D
/-- A scale. -/
def isc (s : Int) : Bool := decide (0 ≤ s) && decide (s ≤ 18)
/-- What is said of a type. -/
def tyc (k s : Int) : Int := if (decide (k = 1) && isc s) || (decide (s = 0) && (decide (k = 2) || decide (k = 3))) then 0 else 100
/-- What is said of a decimal. -/
def dcc (b : Bool) (n0 n1 n2 n3 s : Int) : Int := if isc s && !(b && s4 n0 n1 n2 n3 0 0 0 0) then 0 else 20
/-- What is said of a constant. -/
def ctc (k : Int) (b : Bool) (n0 n1 n2 n3 s : Int) (f : Bool) (t : ByteArray) (e : Int) : Int :=
  if k = 1 then (if dcc b n0 n1 n2 n3 s = 0 then (if sv k b n0 n1 n2 n3 s f t e 1 b n0 n1 n2 n3 s false ⟨#[]⟩ 0 then 0 else 100) else dcc b n0 n1 n2 n3 s)
  else if k = 2 then (if sv k b n0 n1 n2 n3 s f t e 2 false 0 0 0 0 0 f ⟨#[]⟩ 0 then 0 else 100)
  else if k = 3 then (if sv k b n0 n1 n2 n3 s f t e 3 false 0 0 0 0 0 false t 0 && decide (t.size ≤ 64) then 0 else 100)
  else 100
theorem isc_n (s : Int) (w : World) : Calls Tryz.prog 48 #[.int .i64 s] w fun e w' => e = .returned (.bool (isc s)) ∧ Mo w w' := by
  refine w_enter 9 Tryz.func48 Tryz.ntmps48 rfl rfl ?_
  have M : Mo w w := Mo.refl _
  refine w_seq ?_
  refine w_reg ?_
  refine wl_mv (.const (.bool false)) (.bool false) (fun _ => rfl) rfl rfl ?_
  refine w_nil ?_
  refine xn_then ?_
  refine w_seq ?_
  refine w_reg ?_
  refine wl_mv (.tmp 0) (.int .i64 (s)) (fun _ => rfl) rfl rfl ?_
  cases hf0 : decide (0 ≤ s) with
  | true =>
    have hf0p := of_decide_eq_true hf0
    refine wl_bin (fun x y => do eqGuard .geq 3 (.tmp 3) (.const (.int .i64 (0))) x y; binOp .geq 3 x y) (.tmp 3) (.const (.int .i64 (0))) (.int .i64 (s)) (.int .i64 (0)) (.bool true) (fun _ => rfl) rfl rfl (ge3 hf0 _ _ _) rfl ?_
    refine wl_mv (.tmp 4) (.bool true) (fun _ => rfl) rfl rfl ?_
    refine wl_mv (.tmp 0) (.int .i64 (s)) (fun _ => rfl) rfl rfl ?_
    cases hf1 : decide (s ≤ 18) with
    | true =>
      have hf1p := of_decide_eq_true hf1
      refine wl_bin (fun x y => do eqGuard .leq 3 (.tmp 6) (.const (.int .i64 (18))) x y; binOp .leq 3 x y) (.tmp 6) (.const (.int .i64 (18))) (.int .i64 (s)) (.int .i64 (18)) (.bool true) (fun _ => rfl) rfl rfl (le3 hf1 _ _ _) rfl ?_
      refine wl_pick (.tmp 5) (.tmp 7) (.const (.bool false)) true (.bool true) (fun _ => rfl) rfl rfl rfl ?_
      refine wl_mv (.tmp 8) (.bool true) (fun _ => rfl) rfl rfl ?_
      refine w_nil ?_
      refine xn_then ?_
      refine w_ret ?_
      exact w_ret1 _ (.bool true) rfl rfl ⟨by simp [isc, hf0, hf1], M⟩
    | false =>
      have hf1p := of_decide_eq_false hf1
      refine wl_bin (fun x y => do eqGuard .leq 3 (.tmp 6) (.const (.int .i64 (18))) x y; binOp .leq 3 x y) (.tmp 6) (.const (.int .i64 (18))) (.int .i64 (s)) (.int .i64 (18)) (.bool false) (fun _ => rfl) rfl rfl (le3 hf1 _ _ _) rfl ?_
      refine wl_pick (.tmp 5) (.tmp 7) (.const (.bool false)) true (.bool false) (fun _ => rfl) rfl rfl rfl ?_
      refine wl_mv (.tmp 8) (.bool false) (fun _ => rfl) rfl rfl ?_
      refine w_nil ?_
      refine xn_then ?_
      refine w_ret ?_
      exact w_ret1 _ (.bool false) rfl rfl ⟨by simp [isc, hf0, hf1], M⟩
  | false =>
    have hf0p := of_decide_eq_false hf0
    refine wl_bin (fun x y => do eqGuard .geq 3 (.tmp 3) (.const (.int .i64 (0))) x y; binOp .geq 3 x y) (.tmp 3) (.const (.int .i64 (0))) (.int .i64 (s)) (.int .i64 (0)) (.bool false) (fun _ => rfl) rfl rfl (ge3 hf0 _ _ _) rfl ?_
    refine wl_mv (.tmp 4) (.bool false) (fun _ => rfl) rfl rfl ?_
    refine wl_skip rfl ?_
    refine wl_skip rfl ?_
    refine wl_pick (.tmp 5) (.tmp 7) (.const (.bool false)) false (.bool false) (fun _ => rfl) rfl rfl rfl ?_
    refine wl_mv (.tmp 8) (.bool false) (fun _ => rfl) rfl rfl ?_
    refine w_nil ?_
    refine xn_then ?_
    refine w_ret ?_
    exact w_ret1 _ (.bool false) rfl rfl ⟨by simp [isc, hf0], M⟩
theorem disc_n (s : Int) (w : World) : Calls Tryz.prog 40 #[.int .i64 s] w fun e w' => e = .returned (.bool (isc s)) ∧ Mo w w' := by
  refine w_enter 9 Tryz.func40 Tryz.ntmps40 rfl rfl ?_
  have M : Mo w w := Mo.refl _
  refine w_seq ?_
  refine w_reg ?_
  refine wl_mv (.const (.bool false)) (.bool false) (fun _ => rfl) rfl rfl ?_
  refine w_nil ?_
  refine xn_then ?_
  refine w_seq ?_
  refine w_reg ?_
  refine wl_mv (.tmp 0) (.int .i64 (s)) (fun _ => rfl) rfl rfl ?_
  cases hf0 : decide (0 ≤ s) with
  | true =>
    have hf0p := of_decide_eq_true hf0
    refine wl_bin (fun x y => do eqGuard .geq 3 (.tmp 3) (.const (.int .i64 (0))) x y; binOp .geq 3 x y) (.tmp 3) (.const (.int .i64 (0))) (.int .i64 (s)) (.int .i64 (0)) (.bool true) (fun _ => rfl) rfl rfl (ge3 hf0 _ _ _) rfl ?_
    refine wl_mv (.tmp 4) (.bool true) (fun _ => rfl) rfl rfl ?_
    refine wl_mv (.tmp 0) (.int .i64 (s)) (fun _ => rfl) rfl rfl ?_
    cases hf1 : decide (s ≤ 18) with
    | true =>
      have hf1p := of_decide_eq_true hf1
      refine wl_bin (fun x y => do eqGuard .leq 3 (.tmp 6) (.const (.int .i64 (18))) x y; binOp .leq 3 x y) (.tmp 6) (.const (.int .i64 (18))) (.int .i64 (s)) (.int .i64 (18)) (.bool true) (fun _ => rfl) rfl rfl (le3 hf1 _ _ _) rfl ?_
      refine wl_pick (.tmp 5) (.tmp 7) (.const (.bool false)) true (.bool true) (fun _ => rfl) rfl rfl rfl ?_
      refine wl_mv (.tmp 8) (.bool true) (fun _ => rfl) rfl rfl ?_
      refine w_nil ?_
      refine xn_then ?_
      refine w_ret ?_
      exact w_ret1 _ (.bool true) rfl rfl ⟨by simp [isc, hf0, hf1], M⟩
    | false =>
      have hf1p := of_decide_eq_false hf1
      refine wl_bin (fun x y => do eqGuard .leq 3 (.tmp 6) (.const (.int .i64 (18))) x y; binOp .leq 3 x y) (.tmp 6) (.const (.int .i64 (18))) (.int .i64 (s)) (.int .i64 (18)) (.bool false) (fun _ => rfl) rfl rfl (le3 hf1 _ _ _) rfl ?_
      refine wl_pick (.tmp 5) (.tmp 7) (.const (.bool false)) true (.bool false) (fun _ => rfl) rfl rfl rfl ?_
      refine wl_mv (.tmp 8) (.bool false) (fun _ => rfl) rfl rfl ?_
      refine w_nil ?_
      refine xn_then ?_
      refine w_ret ?_
      exact w_ret1 _ (.bool false) rfl rfl ⟨by simp [isc, hf0, hf1], M⟩
  | false =>
    have hf0p := of_decide_eq_false hf0
    refine wl_bin (fun x y => do eqGuard .geq 3 (.tmp 3) (.const (.int .i64 (0))) x y; binOp .geq 3 x y) (.tmp 3) (.const (.int .i64 (0))) (.int .i64 (s)) (.int .i64 (0)) (.bool false) (fun _ => rfl) rfl rfl (ge3 hf0 _ _ _) rfl ?_
    refine wl_mv (.tmp 4) (.bool false) (fun _ => rfl) rfl rfl ?_
    refine wl_skip rfl ?_
    refine wl_skip rfl ?_
    refine wl_pick (.tmp 5) (.tmp 7) (.const (.bool false)) false (.bool false) (fun _ => rfl) rfl rfl rfl ?_
    refine wl_mv (.tmp 8) (.bool false) (fun _ => rfl) rfl rfl ?_
    refine w_nil ?_
    refine xn_then ?_
    refine w_ret ?_
    exact w_ret1 _ (.bool false) rfl rfl ⟨by simp [isc, hf0], M⟩
theorem typ_n (k s : Int) (w : World) : Calls Tryz.prog 26 #[.agg #[.int .i64 k, .int .i64 s]] w fun e w' => e = .returned (.int .i64 (tyc k s)) ∧ Mo w w' := by
  refine w_enter 16 Tryz.func26 Tryz.ntmps26 rfl rfl ?_
  have M : Mo w w := Mo.refl _
  refine w_seq ?_
  refine w_reg ?_
  refine wl_box 42 (.tmp 0) (.agg #[.int .i64 k, .int .i64 s]) (#[.int .i64 k, .int .i64 s]) rfl rfl (fun _ => by kernel_rfl) rfl ?_
  intro k1 u1 hk hz hq Q1
  have N_k1 : w.heap.size ≤ k1 := by have := M.size; omega
  replace M := M.trans hq
  clear hk hz hq
  refine wl_mv (.const (.int .i64 (0))) (.int .i64 (0)) (fun _ => rfl) rfl rfl ?_
  refine w_nil ?_
  refine xn_then ?_
  refine w_seq ?_
  refine w_seq ?_
  refine w_reg ?_
  refine wl_un (fun v => Instr.fieldAt 42 v 0) (.tmp 1) (pt k1 0) (pt k1 0) (fun _ => rfl) rfl (by kernel_rfl) rfl ?_
  refine wl_load 3 (.tmp 3) (pt k1 0) (.int .i64 (k)) rfl rfl (run_one Q1 3 0 rfl Tryz.underlying3 rfl) rfl ?_
  refine w_nil ?_
  refine xn_then ?_
  refine w_block ?_
  refine w_seq ?_
  refine w_reg ?_
  cases hf0 : decide (k = 1) with
  | true =>
    have hf0p := of_decide_eq_true hf0
    refine wl_bin (fun x y => do eqGuard .eql 3 (.tmp 4) (.const (.int .i64 (1))) x y; binOp .eql 3 x y) (.tmp 4) (.const (.int .i64 (1))) (.int .i64 (k)) (.int .i64 (1)) (.bool true) (fun _ => rfl) rfl rfl (eq3 hf0 _ _ _) rfl ?_
    refine wl_mv (.tmp 6) (.bool true) (fun _ => rfl) rfl rfl ?_
    refine w_nil ?_
    refine xn_then ?_
    refine w_condT rfl ?_
    refine w_seq ?_
    refine w_reg ?_
    refine wl_un (fun v => Instr.fieldAt 42 v 1) (.tmp 1) (pt k1 0) (pt k1 1) (fun _ => rfl) rfl (by kernel_rfl) rfl ?_
    refine wl_load 3 (.tmp 7) (pt k1 1) (.int .i64 (s)) rfl rfl (run_one Q1 3 1 rfl Tryz.underlying3 rfl) rfl ?_
    cases hf1 : isc s with
    | true =>
      refine wl_call 48 [(.tmp 8)] _ [.int .i64 (s)] (.bool true) rfl rfl (fun _ _ => by kernel_rfl) (cB hf1 (isc_n s _)) rfl ?_
      intro u2 hq
      replace Q1 := Q1.mo hq
      replace M := M.trans hq
      clear hq
      refine w_nil ?_
      refine xn_then ?_
      refine w_condT rfl ?_
      refine w_seq ?_
      refine w_reg ?_
      refine wl_mv (.const (.int .i64 (0))) (.int .i64 (0)) (fun _ => rfl) rfl rfl ?_
      refine w_nil ?_
      refine xn_then ?_
      refine w_ret ?_
      refine xr_blk ?_
      refine xr_then ?_
      exact w_ret1 _ (.int .i64 (0)) rfl rfl ⟨by simp [tyc, isc, hf0] <;> simp_all [isc], M⟩
    | false =>
      refine wl_call 48 [(.tmp 8)] _ [.int .i64 (s)] (.bool false) rfl rfl (fun _ _ => by kernel_rfl) (cB hf1 (isc_n s _)) rfl ?_
      intro u2 hq
      replace Q1 := Q1.mo hq
      replace M := M.trans hq
      clear hq
      refine w_nil ?_
      refine xn_then ?_
      refine w_condF rfl ?_
      refine w_skip ?_
      refine xn_blk ?_
      refine xn_then ?_
      refine w_seq ?_
      refine w_reg ?_
      refine wl_mv (.const (.int .i64 (100))) (.int .i64 (100)) (fun _ => rfl) rfl rfl ?_
      refine w_nil ?_
      refine xn_then ?_
      refine w_ret ?_
      exact w_ret1 _ (.int .i64 (100)) rfl rfl ⟨by simp [tyc, isc, hf0] <;> simp_all [isc], M⟩
  | false =>
    have hf0p := of_decide_eq_false hf0
    refine wl_bin (fun x y => do eqGuard .eql 3 (.tmp 4) (.const (.int .i64 (1))) x y; binOp .eql 3 x y) (.tmp 4) (.const (.int .i64 (1))) (.int .i64 (k)) (.int .i64 (1)) (.bool false) (fun _ => rfl) rfl rfl (eq3 hf0 _ _ _) rfl ?_
    refine wl_mv (.tmp 6) (.bool false) (fun _ => rfl) rfl rfl ?_
    refine w_nil ?_
    refine xn_then ?_
    refine w_condF rfl ?_
    refine w_seq ?_
    refine w_seq ?_
    refine w_reg ?_
    cases hf1 : decide (k = 2) with
    | true =>
      have hf1p := of_decide_eq_true hf1
      refine wl_bin (fun x y => do eqGuard .eql 3 (.tmp 4) (.const (.int .i64 (2))) x y; binOp .eql 3 x y) (.tmp 4) (.const (.int .i64 (2))) (.int .i64 (k)) (.int .i64 (2)) (.bool true) (fun _ => rfl) rfl rfl (eq3 hf1 _ _ _) rfl ?_
      refine wl_mv (.tmp 11) (.bool true) (fun _ => rfl) rfl rfl ?_
      refine w_nil ?_
      refine xn_then ?_
      refine w_condT rfl ?_
      refine w_skip ?_
      refine xn_then ?_
      refine w_condT rfl ?_
      refine w_seq ?_
      refine w_reg ?_
      refine wl_un (fun v => Instr.fieldAt 42 v 1) (.tmp 1) (pt k1 0) (pt k1 1) (fun _ => rfl) rfl (by kernel_rfl) rfl ?_
      refine wl_load 3 (.tmp 13) (pt k1 1) (.int .i64 (s)) rfl rfl (run_one Q1 3 1 rfl Tryz.underlying3 rfl) rfl ?_
      cases hf2 : decide (s = 0) with
      | true =>
        have hf2p := of_decide_eq_true hf2
        refine wl_bin (fun x y => do eqGuard .eql 3 (.tmp 14) (.const (.int .i64 (0))) x y; binOp .eql 3 x y) (.tmp 14) (.const (.int .i64 (0))) (.int .i64 (s)) (.int .i64 (0)) (.bool true) (fun _ => rfl) rfl rfl (eq3 hf2 _ _ _) rfl ?_
        refine w_nil ?_
        refine xn_then ?_
        refine w_condT rfl ?_
        refine w_seq ?_
        refine w_reg ?_
        refine wl_mv (.const (.int .i64 (0))) (.int .i64 (0)) (fun _ => rfl) rfl rfl ?_
        refine w_nil ?_
        refine xn_then ?_
        refine w_ret ?_
        refine xr_blk ?_
        refine xr_then ?_
        exact w_ret1 _ (.int .i64 (0)) rfl rfl ⟨by simp [tyc, isc, hf0, hf1, hf2] <;> simp_all [isc], M⟩
      | false =>
        have hf2p := of_decide_eq_false hf2
        refine wl_bin (fun x y => do eqGuard .eql 3 (.tmp 14) (.const (.int .i64 (0))) x y; binOp .eql 3 x y) (.tmp 14) (.const (.int .i64 (0))) (.int .i64 (s)) (.int .i64 (0)) (.bool false) (fun _ => rfl) rfl rfl (eq3 hf2 _ _ _) rfl ?_
        refine w_nil ?_
        refine xn_then ?_
        refine w_condF rfl ?_
        refine w_skip ?_
        refine xn_blk ?_
        refine xn_then ?_
        refine w_seq ?_
        refine w_reg ?_
        refine wl_mv (.const (.int .i64 (100))) (.int .i64 (100)) (fun _ => rfl) rfl rfl ?_
        refine w_nil ?_
        refine xn_then ?_
        refine w_ret ?_
        exact w_ret1 _ (.int .i64 (100)) rfl rfl ⟨by simp [tyc, isc, hf0, hf1, hf2] <;> simp_all [isc], M⟩
    | false =>
      have hf1p := of_decide_eq_false hf1
      refine wl_bin (fun x y => do eqGuard .eql 3 (.tmp 4) (.const (.int .i64 (2))) x y; binOp .eql 3 x y) (.tmp 4) (.const (.int .i64 (2))) (.int .i64 (k)) (.int .i64 (2)) (.bool false) (fun _ => rfl) rfl rfl (eq3 hf1 _ _ _) rfl ?_
      refine wl_mv (.tmp 11) (.bool false) (fun _ => rfl) rfl rfl ?_
      refine w_nil ?_
      refine xn_then ?_
      refine w_condF rfl ?_
      refine w_reg ?_
      cases hf2 : decide (k = 3) with
      | true =>
        have hf2p := of_decide_eq_true hf2
        refine wl_bin (fun x y => do eqGuard .eql 3 (.tmp 4) (.const (.int .i64 (3))) x y; binOp .eql 3 x y) (.tmp 4) (.const (.int .i64 (3))) (.int .i64 (k)) (.int .i64 (3)) (.bool true) (fun _ => rfl) rfl rfl (eq3 hf2 _ _ _) rfl ?_
        refine wl_mv (.tmp 12) (.bool true) (fun _ => rfl) rfl rfl ?_
        refine w_nil ?_
        refine xn_then ?_
        refine w_condT rfl ?_
        refine w_seq ?_
        refine w_reg ?_
        refine wl_un (fun v => Instr.fieldAt 42 v 1) (.tmp 1) (pt k1 0) (pt k1 1) (fun _ => rfl) rfl (by kernel_rfl) rfl ?_
        refine wl_load 3 (.tmp 13) (pt k1 1) (.int .i64 (s)) rfl rfl (run_one Q1 3 1 rfl Tryz.underlying3 rfl) rfl ?_
        cases hf3 : decide (s = 0) with
        | true =>
          have hf3p := of_decide_eq_true hf3
          refine wl_bin (fun x y => do eqGuard .eql 3 (.tmp 14) (.const (.int .i64 (0))) x y; binOp .eql 3 x y) (.tmp 14) (.const (.int .i64 (0))) (.int .i64 (s)) (.int .i64 (0)) (.bool true) (fun _ => rfl) rfl rfl (eq3 hf3 _ _ _) rfl ?_
          refine w_nil ?_
          refine xn_then ?_
          refine w_condT rfl ?_
          refine w_seq ?_
          refine w_reg ?_
          refine wl_mv (.const (.int .i64 (0))) (.int .i64 (0)) (fun _ => rfl) rfl rfl ?_
          refine w_nil ?_
          refine xn_then ?_
          refine w_ret ?_
          refine xr_blk ?_
          refine xr_then ?_
          exact w_ret1 _ (.int .i64 (0)) rfl rfl ⟨by simp [tyc, isc, hf0, hf1, hf2, hf3] <;> simp_all [isc], M⟩
        | false =>
          have hf3p := of_decide_eq_false hf3
          refine wl_bin (fun x y => do eqGuard .eql 3 (.tmp 14) (.const (.int .i64 (0))) x y; binOp .eql 3 x y) (.tmp 14) (.const (.int .i64 (0))) (.int .i64 (s)) (.int .i64 (0)) (.bool false) (fun _ => rfl) rfl rfl (eq3 hf3 _ _ _) rfl ?_
          refine w_nil ?_
          refine xn_then ?_
          refine w_condF rfl ?_
          refine w_skip ?_
          refine xn_blk ?_
          refine xn_then ?_
          refine w_seq ?_
          refine w_reg ?_
          refine wl_mv (.const (.int .i64 (100))) (.int .i64 (100)) (fun _ => rfl) rfl rfl ?_
          refine w_nil ?_
          refine xn_then ?_
          refine w_ret ?_
          exact w_ret1 _ (.int .i64 (100)) rfl rfl ⟨by simp [tyc, isc, hf0, hf1, hf2, hf3] <;> simp_all [isc], M⟩
      | false =>
        have hf2p := of_decide_eq_false hf2
        refine wl_bin (fun x y => do eqGuard .eql 3 (.tmp 4) (.const (.int .i64 (3))) x y; binOp .eql 3 x y) (.tmp 4) (.const (.int .i64 (3))) (.int .i64 (k)) (.int .i64 (3)) (.bool false) (fun _ => rfl) rfl rfl (eq3 hf2 _ _ _) rfl ?_
        refine wl_mv (.tmp 12) (.bool false) (fun _ => rfl) rfl rfl ?_
        refine w_nil ?_
        refine xn_then ?_
        refine w_condF rfl ?_
        refine w_skip ?_
        refine xn_blk ?_
        refine xn_then ?_
        refine w_seq ?_
        refine w_reg ?_
        refine wl_mv (.const (.int .i64 (100))) (.int .i64 (100)) (fun _ => rfl) rfl rfl ?_
        refine w_nil ?_
        refine xn_then ?_
        refine w_ret ?_
        exact w_ret1 _ (.int .i64 (100)) rfl rfl ⟨by simp [tyc, isc, hf0, hf1, hf2] <;> simp_all [isc], M⟩
end Go.Proofs.YtepfokoepibkcaaGreat

