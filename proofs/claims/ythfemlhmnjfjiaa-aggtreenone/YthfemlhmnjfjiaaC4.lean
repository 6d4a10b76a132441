/-
  A part of the proof.
-/
import Derived.Test.YthfemlhmnjfjiaaC3
/-
  lesserError, stretch.
-/
namespace Go.Proofs.Ythfemlhmnjfjiaa
open Go.RowKit
def les (a b : Int) : Int := if a = 0 then b else if b = 0 then a else min a b
/-- Least and greatest, with those of one more. -/
def str (S T : Sm) : Sm := if T.so then (if S.so then ⟨S.r, S.f, S.k, S.d, S.e, S.tt, true, if cmpv T.mn S.mn < 0 then T.mn else S.mn, if 0 < cmpv T.mx S.mx then T.mx else S.mx⟩ else ⟨S.r, S.f, S.k, S.d, S.e, S.tt, true, T.mn, T.mx⟩) else S
def Sm.ok (S : Sm) : Prop := S.mn.ok ∧ S.mx.ok
section
variable {w : World}
theorem les_a (a b : Int) (q0 : decide (a = 0) = true) : Calls Try.prog 62 #[.int .i64 a, .int .i64 b] w fun e w' => e = .returned (.int .i64 (b)) ∧ Mo w w' := by
  refine w_enter 14 Try.func62 Try.ntmps62 rfl rfl ?_
  have M : Mo w w := Mo.refl _
  refine w_seq ?_
  refine w_reg ?_
  refine wl_mv (.const (.int .i64 (0))) (.int .i64 (0)) (fun _ => rfl) rfl rfl ?_
  refine w_nil ?_
  refine xn_then ?_
  refine w_seq ?_
  refine w_seq ?_
  refine w_reg ?_
  refine wl_mv (.tmp 0) (.int .i64 (a)) (fun _ => rfl) rfl rfl ?_
  refine wl_bin (fun x y => do eqGuard .eql 3 (.tmp 5) (.const (.int .i64 (0))) x y; binOp .eql 3 x y) (.tmp 5) (.const (.int .i64 (0))) (.int .i64 (a)) (.int .i64 (0)) (.bool true) (fun _ => rfl) rfl rfl (eqI q0 _ _ _) rfl ?_
  refine w_nil ?_
  refine xn_then ?_
  refine w_condT rfl ?_
  refine w_seq ?_
  refine w_reg ?_
  refine wl_mv (.tmp 1) (.int .i64 (b)) (fun _ => rfl) rfl rfl ?_
  refine wl_mv (.tmp 7) (.int .i64 (b)) (fun _ => rfl) rfl rfl ?_
  refine w_nil ?_
  refine xn_then ?_
  refine w_ret ?_
  refine xr_then ?_
  exact w_ret1 _ (.int .i64 (b)) rfl rfl ⟨rfl, M⟩
theorem les_b (a b : Int) (q0 : decide (a = 0) = false) (q1 : decide (b = 0) = true) : Calls Try.prog 62 #[.int .i64 a, .int .i64 b] w fun e w' => e = .returned (.int .i64 (a)) ∧ Mo w w' := by
  refine w_enter 14 Try.func62 Try.ntmps62 rfl rfl ?_
  have M : Mo w w := Mo.refl _
  refine w_seq ?_
  refine w_reg ?_
  refine wl_mv (.const (.int .i64 (0))) (.int .i64 (0)) (fun _ => rfl) rfl rfl ?_
  refine w_nil ?_
  refine xn_then ?_
  refine w_seq ?_
  refine w_seq ?_
  refine w_reg ?_
  refine wl_mv (.tmp 0) (.int .i64 (a)) (fun _ => rfl) rfl rfl ?_
  refine wl_bin (fun x y => do eqGuard .eql 3 (.tmp 5) (.const (.int .i64 (0))) x y; binOp .eql 3 x y) (.tmp 5) (.const (.int .i64 (0))) (.int .i64 (a)) (.int .i64 (0)) (.bool false) (fun _ => rfl) rfl rfl (eqI q0 _ _ _) rfl ?_
  refine w_nil ?_
  refine xn_then ?_
  refine w_condF rfl ?_
  refine w_skip ?_
  refine xn_then ?_
  refine w_seq ?_
  refine w_seq ?_
  refine w_reg ?_
  refine wl_mv (.tmp 1) (.int .i64 (b)) (fun _ => rfl) rfl rfl ?_
  refine wl_bin (fun x y => do eqGuard .eql 3 (.tmp 8) (.const (.int .i64 (0))) x y; binOp .eql 3 x y) (.tmp 8) (.const (.int .i64 (0))) (.int .i64 (b)) (.int .i64 (0)) (.bool true) (fun _ => rfl) rfl rfl (eqI q1 _ _ _) rfl ?_
  refine w_nil ?_
  refine xn_then ?_
  refine w_condT rfl ?_
  refine w_seq ?_
  refine w_reg ?_
  refine wl_mv (.tmp 0) (.int .i64 (a)) (fun _ => rfl) rfl rfl ?_
  refine wl_mv (.tmp 10) (.int .i64 (a)) (fun _ => rfl) rfl rfl ?_
  refine w_nil ?_
  refine xn_then ?_
  refine w_ret ?_
  refine xr_then ?_
  exact w_ret1 _ (.int .i64 (a)) rfl rfl ⟨rfl, M⟩
theorem les_c (a b : Int) (q0 : decide (a = 0) = false) (q1 : decide (b = 0) = false) : Calls Try.prog 62 #[.int .i64 a, .int .i64 b] w fun e w' => e = .returned (.int .i64 (min a b)) ∧ Mo w w' := by
  refine w_enter 14 Try.func62 Try.ntmps62 rfl rfl ?_
  have M : Mo w w := Mo.refl _
  refine w_seq ?_
  refine w_reg ?_
  refine wl_mv (.const (.int .i64 (0))) (.int .i64 (0)) (fun _ => rfl) rfl rfl ?_
  refine w_nil ?_
  refine xn_then ?_
  refine w_seq ?_
  refine w_seq ?_
  refine w_reg ?_
  refine wl_mv (.tmp 0) (.int .i64 (a)) (fun _ => rfl) rfl rfl ?_
  refine wl_bin (fun x y => do eqGuard .eql 3 (.tmp 5) (.const (.int .i64 (0))) x y; binOp .eql 3 x y) (.tmp 5) (.const (.int .i64 (0))) (.int .i64 (a)) (.int .i64 (0)) (.bool false) (fun _ => rfl) rfl rfl (eqI q0 _ _ _) rfl ?_
  refine w_nil ?_
  refine xn_then ?_
  refine w_condF rfl ?_
  refine w_skip ?_
  refine xn_then ?_
  refine w_seq ?_
  refine w_seq ?_
  refine w_reg ?_
  refine wl_mv (.tmp 1) (.int .i64 (b)) (fun _ => rfl) rfl rfl ?_
  refine wl_bin (fun x y => do eqGuard .eql 3 (.tmp 8) (.const (.int .i64 (0))) x y; binOp .eql 3 x y) (.tmp 8) (.const (.int .i64 (0))) (.int .i64 (b)) (.int .i64 (0)) (.bool false) (fun _ => rfl) rfl rfl (eqI q1 _ _ _) rfl ?_
  refine w_nil ?_
  refine xn_then ?_
  refine w_condF rfl ?_
  refine w_skip ?_
  refine xn_then ?_
  refine w_seq ?_
  refine w_reg ?_
  refine wl_mv (.tmp 0) (.int .i64 (a)) (fun _ => rfl) rfl rfl ?_
  refine wl_mv (.tmp 1) (.int .i64 (b)) (fun _ => rfl) rfl rfl ?_
  refine wl_val (.int .i64 (min a b)) (minI _ _ _ _ _ (by exact rfl) (by exact rfl) _ _ _ _ _ _) rfl ?_
  refine wl_mv (.tmp 13) (.int .i64 (min a b)) (fun _ => rfl) rfl rfl ?_
  refine w_nil ?_
  refine xn_then ?_
  refine w_ret ?_
  exact w_ret1 _ (.int .i64 (min a b)) rfl rfl ⟨rfl, M⟩
theorem les_n (a b : Int) : Calls Try.prog 62 #[.int .i64 a, .int .i64 b] w fun e w' => e = .returned (.int .i64 (les a b)) ∧ Mo w w' := by
  unfold les
  by_cases c0 : a = 0
  · rw [if_pos c0]; exact les_a a b (decide_eq_true c0)
  rw [if_neg c0]
  by_cases c1 : b = 0
  · rw [if_pos c1]; exact les_b a b (decide_eq_false c0) (decide_eq_true c1)
  rw [if_neg c1]; exact les_c a b (decide_eq_false c0) (decide_eq_false c1)
theorem str_a (r f k d er tt : Int) (mb : Bool) (mn ms : Int) (xb : Bool) (xn xs : Int) (r2 f2 k2 d2 e2 tt2 : Int) (mb2 : Bool) (mn2 ms2 : Int) (xb2 : Bool) (xn2 xs2 : Int) : Calls Try.prog 64 #[sm r (f) (k) (d) (er) (tt) false mb (mn) (ms) xb (xn) (xs), sm r2 (f2) (k2) (d2) (e2) (tt2) false mb2 (mn2) (ms2) xb2 (xn2) (xs2)] w fun e w' => e = .returned (sm r (f) (k) (d) (er) (tt) false mb (mn) (ms) xb (xn) (xs)) ∧ Mo w w' := by
  refine w_enter 39 Try.func64 Try.ntmps64 rfl rfl ?_
  have M : Mo w w := Mo.refl _
  refine w_seq ?_
  refine w_reg ?_
  refine wl_box 42 (.tmp 0) (.agg #[.int .i64 (r), .int .i64 (f), .int .i64 (k), .int .i64 (d), .int .i64 (er), .int .u64 (l0 (tt)), .int .u64 (l1 (tt)), .int .u64 (l2 (tt)), .int .u64 (l3 (tt)), .int .u64 (l4 (tt)), .bool false, .bool mb, .int .u64 (l0 (mn)), .int .u64 (l1 (mn)), .int .u64 (l2 (mn)), .int .u64 (l3 (mn)), .int .i64 (ms), .bool xb, .int .u64 (l0 (xn)), .int .u64 (l1 (xn)), .int .u64 (l2 (xn)), .int .u64 (l3 (xn)), .int .i64 (xs)]) (#[.int .i64 (r), .int .i64 (f), .int .i64 (k), .int .i64 (d), .int .i64 (er), .int .u64 (l0 (tt)), .int .u64 (l1 (tt)), .int .u64 (l2 (tt)), .int .u64 (l3 (tt)), .int .u64 (l4 (tt)), .bool false, .bool mb, .int .u64 (l0 (mn)), .int .u64 (l1 (mn)), .int .u64 (l2 (mn)), .int .u64 (l3 (mn)), .int .i64 (ms), .bool xb, .int .u64 (l0 (xn)), .int .u64 (l1 (xn)), .int .u64 (l2 (xn)), .int .u64 (l3 (xn)), .int .i64 (xs)]) rfl rfl (fun _ => by kernel_rfl) rfl ?_
  intro k1 w1 hk hz hq Q1
  have N_k1 : w.heap.size ≤ k1 := by have := M.size; omega
  replace M := M.trans hq
  clear hk hz hq
  refine wl_box 42 (.tmp 1) (.agg #[.int .i64 (r2), .int .i64 (f2), .int .i64 (k2), .int .i64 (d2), .int .i64 (e2), .int .u64 (l0 (tt2)), .int .u64 (l1 (tt2)), .int .u64 (l2 (tt2)), .int .u64 (l3 (tt2)), .int .u64 (l4 (tt2)), .bool false, .bool mb2, .int .u64 (l0 (mn2)), .int .u64 (l1 (mn2)), .int .u64 (l2 (mn2)), .int .u64 (l3 (mn2)), .int .i64 (ms2), .bool xb2, .int .u64 (l0 (xn2)), .int .u64 (l1 (xn2)), .int .u64 (l2 (xn2)), .int .u64 (l3 (xn2)), .int .i64 (xs2)]) (#[.int .i64 (r2), .int .i64 (f2), .int .i64 (k2), .int .i64 (d2), .int .i64 (e2), .int .u64 (l0 (tt2)), .int .u64 (l1 (tt2)), .int .u64 (l2 (tt2)), .int .u64 (l3 (tt2)), .int .u64 (l4 (tt2)), .bool false, .bool mb2, .int .u64 (l0 (mn2)), .int .u64 (l1 (mn2)), .int .u64 (l2 (mn2)), .int .u64 (l3 (mn2)), .int .i64 (ms2), .bool xb2, .int .u64 (l0 (xn2)), .int .u64 (l1 (xn2)), .int .u64 (l2 (xn2)), .int .u64 (l3 (xn2)), .int .i64 (xs2)]) rfl rfl (fun _ => by kernel_rfl) rfl ?_
  intro k2 w2 hk hz hq Q2
  have ne_k1_k2 : k1 ≠ k2 := by have := Q1.lt; omega
  have N_k2 : w.heap.size ≤ k2 := by have := M.size; omega
  replace Q1 := Q1.mo hq
  replace M := M.trans hq
  clear hk hz hq
  refine wl_alloc 42 #[.int .i64 0, .int .i64 0, .int .i64 0, .int .i64 0, .int .i64 0, .int .u64 0, .int .u64 0, .int .u64 0, .int .u64 0, .int .u64 0, .bool false, .bool false, .int .u64 0, .int .u64 0, .int .u64 0, .int .u64 0, .int .i64 0, .bool false, .int .u64 0, .int .u64 0, .int .u64 0, .int .u64 0, .int .i64 0] rfl (fun _ => by kernel_rfl) rfl ?_
  intro k3 w3 hk hz hq Q3
  have ne_k1_k3 : k1 ≠ k3 := by have := Q1.lt; omega
  have ne_k2_k3 : k2 ≠ k3 := by have := Q2.lt; omega
  have N_k3 : w.heap.size ≤ k3 := by have := M.size; omega
  replace Q1 := Q1.mo hq
  replace Q2 := Q2.mo hq
  replace M := M.trans hq
  clear hk hz hq
  refine w_nil ?_
  refine xn_then ?_
  refine w_seq ?_
  refine w_seq ?_
  refine w_reg ?_
  refine wl_un (fun v => Instr.fieldAt 42 v 6) (.tmp 3) (pt k2 0) (pt k2 10) (fun _ => rfl) rfl (by kernel_rfl) rfl ?_
  refine wl_load 4 (.tmp 5) (pt k2 10) (.bool false) rfl rfl (run_one Q2 4 10 rfl Try.underlying4 rfl) rfl ?_
  refine wl_un (fun v => Op.unary .not v) (.tmp 6) (.bool false) (.bool true) (fun _ => rfl) rfl (by kernel_rfl) rfl ?_
  refine w_nil ?_
  refine xn_then ?_
  refine w_condT rfl ?_
  refine w_seq ?_
  refine w_reg ?_
  refine wl_load 42 (.tmp 2) (pt k1 0) (.agg #[.int .i64 (r), .int .i64 (f), .int .i64 (k), .int .i64 (d), .int .i64 (er), .int .u64 (l0 (tt)), .int .u64 (l1 (tt)), .int .u64 (l2 (tt)), .int .u64 (l3 (tt)), .int .u64 (l4 (tt)), .bool false, .bool mb, .int .u64 (l0 (mn)), .int .u64 (l1 (mn)), .int .u64 (l2 (mn)), .int .u64 (l3 (mn)), .int .i64 (ms), .bool xb, .int .u64 (l0 (xn)), .int .u64 (l1 (xn)), .int .u64 (l2 (xn)), .int .u64 (l3 (xn)), .int .i64 (xs)]) rfl rfl (run_row Q1 42 0 23 [.int .i64 (r), .int .i64 (f), .int .i64 (k), .int .i64 (d), .int .i64 (er), .int .u64 (l0 (tt)), .int .u64 (l1 (tt)), .int .u64 (l2 (tt)), .int .u64 (l3 (tt)), .int .u64 (l4 (tt)), .bool false, .bool mb, .int .u64 (l0 (mn)), .int .u64 (l1 (mn)), .int .u64 (l2 (mn)), .int .u64 (l3 (mn)), .int .i64 (ms), .bool xb, .int .u64 (l0 (xn)), .int .u64 (l1 (xn)), .int .u64 (l2 (xn)), .int .u64 (l3 (xn)), .int .i64 (xs)] rfl Try.underlying42 rfl sz33) rfl ?_
  refine wl_st 42 (.tmp 4) (.tmp 8) k3 0 #[.int .i64 (r), .int .i64 (f), .int .i64 (k), .int .i64 (d), .int .i64 (er), .int .u64 (l0 (tt)), .int .u64 (l1 (tt)), .int .u64 (l2 (tt)), .int .u64 (l3 (tt)), .int .u64 (l4 (tt)), .bool false, .bool mb, .int .u64 (l0 (mn)), .int .u64 (l1 (mn)), .int .u64 (l2 (mn)), .int .u64 (l3 (mn)), .int .i64 (ms), .bool xb, .int .u64 (l0 (xn)), .int .u64 (l1 (xn)), .int .u64 (l2 (xn)), .int .u64 (l3 (xn)), .int .i64 (xs)] [.int .i64 0, .int .i64 0, .int .i64 0, .int .i64 0, .int .i64 0, .int .u64 0, .int .u64 0, .int .u64 0, .int .u64 0, .int .u64 0, .bool false, .bool false, .int .u64 0, .int .u64 0, .int .u64 0, .int .u64 0, .int .i64 0, .bool false, .int .u64 0, .int .u64 0, .int .u64 0, .int .u64 0, .int .i64 0] [.int .i64 (r), .int .i64 (f), .int .i64 (k), .int .i64 (d), .int .i64 (er), .int .u64 (l0 (tt)), .int .u64 (l1 (tt)), .int .u64 (l2 (tt)), .int .u64 (l3 (tt)), .int .u64 (l4 (tt)), .bool false, .bool mb, .int .u64 (l0 (mn)), .int .u64 (l1 (mn)), .int .u64 (l2 (mn)), .int .u64 (l3 (mn)), .int .i64 (ms), .bool xb, .int .u64 (l0 (xn)), .int .u64 (l1 (xn)), .int .u64 (l2 (xn)), .int .u64 (l3 (xn)), .int .i64 (xs)] Q3 rfl rfl rfl rfl rfl sz33 rfl rfl rfl ?_
  intro w4 hS Qn
  replace Q3 := Qn
  clear Qn
  replace Q1 := hS.other _ _ ne_k1_k3 Q1
  replace Q2 := hS.other _ _ ne_k2_k3 Q2
  replace M := hS.mo _ N_k3 M
  clear hS
  refine w_nil ?_
  refine xn_then ?_
  refine w_ret ?_
  refine xr_then ?_
  exact w_ret1 _ (.agg #[.int .i64 (r), .int .i64 (f), .int .i64 (k), .int .i64 (d), .int .i64 (er), .int .u64 (l0 (tt)), .int .u64 (l1 (tt)), .int .u64 (l2 (tt)), .int .u64 (l3 (tt)), .int .u64 (l4 (tt)), .bool false, .bool mb, .int .u64 (l0 (mn)), .int .u64 (l1 (mn)), .int .u64 (l2 (mn)), .int .u64 (l3 (mn)), .int .i64 (ms), .bool xb, .int .u64 (l0 (xn)), .int .u64 (l1 (xn)), .int .u64 (l2 (xn)), .int .u64 (l3 (xn)), .int .i64 (xs)]) rfl ⟨k3, rfl, (run_row Q3 42 0 23 [.int .i64 (r), .int .i64 (f), .int .i64 (k), .int .i64 (d), .int .i64 (er), .int .u64 (l0 (tt)), .int .u64 (l1 (tt)), .int .u64 (l2 (tt)), .int .u64 (l3 (tt)), .int .u64 (l4 (tt)), .bool false, .bool mb, .int .u64 (l0 (mn)), .int .u64 (l1 (mn)), .int .u64 (l2 (mn)), .int .u64 (l3 (mn)), .int .i64 (ms), .bool xb, .int .u64 (l0 (xn)), .int .u64 (l1 (xn)), .int .u64 (l2 (xn)), .int .u64 (l3 (xn)), .int .i64 (xs)] rfl Try.underlying42 rfl sz33)⟩ ⟨rfl, M⟩
theorem str_b (r f k d er tt : Int) (mb : Bool) (mn ms : Int) (xb : Bool) (xn xs : Int) (r2 f2 k2 d2 e2 tt2 : Int) (mb2 : Bool) (mn2 ms2 : Int) (xb2 : Bool) (xn2 xs2 : Int) : Calls Try.prog 64 #[sm r (f) (k) (d) (er) (tt) true mb (mn) (ms) xb (xn) (xs), sm r2 (f2) (k2) (d2) (e2) (tt2) false mb2 (mn2) (ms2) xb2 (xn2) (xs2)] w fun e w' => e = .returned (sm r (f) (k) (d) (er) (tt) true mb (mn) (ms) xb (xn) (xs)) ∧ Mo w w' := by
  refine w_enter 39 Try.func64 Try.ntmps64 rfl rfl ?_
  have M : Mo w w := Mo.refl _
  refine w_seq ?_
  refine w_reg ?_
  refine wl_box 42 (.tmp 0) (.agg #[.int .i64 (r), .int .i64 (f), .int .i64 (k), .int .i64 (d), .int .i64 (er), .int .u64 (l0 (tt)), .int .u64 (l1 (tt)), .int .u64 (l2 (tt)), .int .u64 (l3 (tt)), .int .u64 (l4 (tt)), .bool true, .bool mb, .int .u64 (l0 (mn)), .int .u64 (l1 (mn)), .int .u64 (l2 (mn)), .int .u64 (l3 (mn)), .int .i64 (ms), .bool xb, .int .u64 (l0 (xn)), .int .u64 (l1 (xn)), .int .u64 (l2 (xn)), .int .u64 (l3 (xn)), .int .i64 (xs)]) (#[.int .i64 (r), .int .i64 (f), .int .i64 (k), .int .i64 (d), .int .i64 (er), .int .u64 (l0 (tt)), .int .u64 (l1 (tt)), .int .u64 (l2 (tt)), .int .u64 (l3 (tt)), .int .u64 (l4 (tt)), .bool true, .bool mb, .int .u64 (l0 (mn)), .int .u64 (l1 (mn)), .int .u64 (l2 (mn)), .int .u64 (l3 (mn)), .int .i64 (ms), .bool xb, .int .u64 (l0 (xn)), .int .u64 (l1 (xn)), .int .u64 (l2 (xn)), .int .u64 (l3 (xn)), .int .i64 (xs)]) rfl rfl (fun _ => by kernel_rfl) rfl ?_
  intro k1 w1 hk hz hq Q1
  have N_k1 : w.heap.size ≤ k1 := by have := M.size; omega
  replace M := M.trans hq
  clear hk hz hq
  refine wl_box 42 (.tmp 1) (.agg #[.int .i64 (r2), .int .i64 (f2), .int .i64 (k2), .int .i64 (d2), .int .i64 (e2), .int .u64 (l0 (tt2)), .int .u64 (l1 (tt2)), .int .u64 (l2 (tt2)), .int .u64 (l3 (tt2)), .int .u64 (l4 (tt2)), .bool false, .bool mb2, .int .u64 (l0 (mn2)), .int .u64 (l1 (mn2)), .int .u64 (l2 (mn2)), .int .u64 (l3 (mn2)), .int .i64 (ms2), .bool xb2, .int .u64 (l0 (xn2)), .int .u64 (l1 (xn2)), .int .u64 (l2 (xn2)), .int .u64 (l3 (xn2)), .int .i64 (xs2)]) (#[.int .i64 (r2), .int .i64 (f2), .int .i64 (k2), .int .i64 (d2), .int .i64 (e2), .int .u64 (l0 (tt2)), .int .u64 (l1 (tt2)), .int .u64 (l2 (tt2)), .int .u64 (l3 (tt2)), .int .u64 (l4 (tt2)), .bool false, .bool mb2, .int .u64 (l0 (mn2)), .int .u64 (l1 (mn2)), .int .u64 (l2 (mn2)), .int .u64 (l3 (mn2)), .int .i64 (ms2), .bool xb2, .int .u64 (l0 (xn2)), .int .u64 (l1 (xn2)), .int .u64 (l2 (xn2)), .int .u64 (l3 (xn2)), .int .i64 (xs2)]) rfl rfl (fun _ => by kernel_rfl) rfl ?_
  intro k2 w2 hk hz hq Q2
  have ne_k1_k2 : k1 ≠ k2 := by have := Q1.lt; omega
  have N_k2 : w.heap.size ≤ k2 := by have := M.size; omega
  replace Q1 := Q1.mo hq
  replace M := M.trans hq
  clear hk hz hq
  refine wl_alloc 42 #[.int .i64 0, .int .i64 0, .int .i64 0, .int .i64 0, .int .i64 0, .int .u64 0, .int .u64 0, .int .u64 0, .int .u64 0, .int .u64 0, .bool false, .bool false, .int .u64 0, .int .u64 0, .int .u64 0, .int .u64 0, .int .i64 0, .bool false, .int .u64 0, .int .u64 0, .int .u64 0, .int .u64 0, .int .i64 0] rfl (fun _ => by kernel_rfl) rfl ?_
  intro k3 w3 hk hz hq Q3
  have ne_k1_k3 : k1 ≠ k3 := by have := Q1.lt; omega
  have ne_k2_k3 : k2 ≠ k3 := by have := Q2.lt; omega
  have N_k3 : w.heap.size ≤ k3 := by have := M.size; omega
  replace Q1 := Q1.mo hq
  replace Q2 := Q2.mo hq
  replace M := M.trans hq
  clear hk hz hq
  refine w_nil ?_
  refine xn_then ?_
  refine w_seq ?_
  refine w_seq ?_
  refine w_reg ?_
  refine wl_un (fun v => Instr.fieldAt 42 v 6) (.tmp 3) (pt k2 0) (pt k2 10) (fun _ => rfl) rfl (by kernel_rfl) rfl ?_
  refine wl_load 4 (.tmp 5) (pt k2 10) (.bool false) rfl rfl (run_one Q2 4 10 rfl Try.underlying4 rfl) rfl ?_
  refine wl_un (fun v => Op.unary .not v) (.tmp 6) (.bool false) (.bool true) (fun _ => rfl) rfl (by kernel_rfl) rfl ?_
  refine w_nil ?_
  refine xn_then ?_
  refine w_condT rfl ?_
  refine w_seq ?_
  refine w_reg ?_
  refine wl_load 42 (.tmp 2) (pt k1 0) (.agg #[.int .i64 (r), .int .i64 (f), .int .i64 (k), .int .i64 (d), .int .i64 (er), .int .u64 (l0 (tt)), .int .u64 (l1 (tt)), .int .u64 (l2 (tt)), .int .u64 (l3 (tt)), .int .u64 (l4 (tt)), .bool true, .bool mb, .int .u64 (l0 (mn)), .int .u64 (l1 (mn)), .int .u64 (l2 (mn)), .int .u64 (l3 (mn)), .int .i64 (ms), .bool xb, .int .u64 (l0 (xn)), .int .u64 (l1 (xn)), .int .u64 (l2 (xn)), .int .u64 (l3 (xn)), .int .i64 (xs)]) rfl rfl (run_row Q1 42 0 23 [.int .i64 (r), .int .i64 (f), .int .i64 (k), .int .i64 (d), .int .i64 (er), .int .u64 (l0 (tt)), .int .u64 (l1 (tt)), .int .u64 (l2 (tt)), .int .u64 (l3 (tt)), .int .u64 (l4 (tt)), .bool true, .bool mb, .int .u64 (l0 (mn)), .int .u64 (l1 (mn)), .int .u64 (l2 (mn)), .int .u64 (l3 (mn)), .int .i64 (ms), .bool xb, .int .u64 (l0 (xn)), .int .u64 (l1 (xn)), .int .u64 (l2 (xn)), .int .u64 (l3 (xn)), .int .i64 (xs)] rfl Try.underlying42 rfl sz33) rfl ?_
  refine wl_st 42 (.tmp 4) (.tmp 8) k3 0 #[.int .i64 (r), .int .i64 (f), .int .i64 (k), .int .i64 (d), .int .i64 (er), .int .u64 (l0 (tt)), .int .u64 (l1 (tt)), .int .u64 (l2 (tt)), .int .u64 (l3 (tt)), .int .u64 (l4 (tt)), .bool true, .bool mb, .int .u64 (l0 (mn)), .int .u64 (l1 (mn)), .int .u64 (l2 (mn)), .int .u64 (l3 (mn)), .int .i64 (ms), .bool xb, .int .u64 (l0 (xn)), .int .u64 (l1 (xn)), .int .u64 (l2 (xn)), .int .u64 (l3 (xn)), .int .i64 (xs)] [.int .i64 0, .int .i64 0, .int .i64 0, .int .i64 0, .int .i64 0, .int .u64 0, .int .u64 0, .int .u64 0, .int .u64 0, .int .u64 0, .bool false, .bool false, .int .u64 0, .int .u64 0, .int .u64 0, .int .u64 0, .int .i64 0, .bool false, .int .u64 0, .int .u64 0, .int .u64 0, .int .u64 0, .int .i64 0] [.int .i64 (r), .int .i64 (f), .int .i64 (k), .int .i64 (d), .int .i64 (er), .int .u64 (l0 (tt)), .int .u64 (l1 (tt)), .int .u64 (l2 (tt)), .int .u64 (l3 (tt)), .int .u64 (l4 (tt)), .bool true, .bool mb, .int .u64 (l0 (mn)), .int .u64 (l1 (mn)), .int .u64 (l2 (mn)), .int .u64 (l3 (mn)), .int .i64 (ms), .bool xb, .int .u64 (l0 (xn)), .int .u64 (l1 (xn)), .int .u64 (l2 (xn)), .int .u64 (l3 (xn)), .int .i64 (xs)] Q3 rfl rfl rfl rfl rfl sz33 rfl rfl rfl ?_
  intro w4 hS Qn
  replace Q3 := Qn
  clear Qn
  replace Q1 := hS.other _ _ ne_k1_k3 Q1
  replace Q2 := hS.other _ _ ne_k2_k3 Q2
  replace M := hS.mo _ N_k3 M
  clear hS
  refine w_nil ?_
  refine xn_then ?_
  refine w_ret ?_
  refine xr_then ?_
  exact w_ret1 _ (.agg #[.int .i64 (r), .int .i64 (f), .int .i64 (k), .int .i64 (d), .int .i64 (er), .int .u64 (l0 (tt)), .int .u64 (l1 (tt)), .int .u64 (l2 (tt)), .int .u64 (l3 (tt)), .int .u64 (l4 (tt)), .bool true, .bool mb, .int .u64 (l0 (mn)), .int .u64 (l1 (mn)), .int .u64 (l2 (mn)), .int .u64 (l3 (mn)), .int .i64 (ms), .bool xb, .int .u64 (l0 (xn)), .int .u64 (l1 (xn)), .int .u64 (l2 (xn)), .int .u64 (l3 (xn)), .int .i64 (xs)]) rfl ⟨k3, rfl, (run_row Q3 42 0 23 [.int .i64 (r), .int .i64 (f), .int .i64 (k), .int .i64 (d), .int .i64 (er), .int .u64 (l0 (tt)), .int .u64 (l1 (tt)), .int .u64 (l2 (tt)), .int .u64 (l3 (tt)), .int .u64 (l4 (tt)), .bool true, .bool mb, .int .u64 (l0 (mn)), .int .u64 (l1 (mn)), .int .u64 (l2 (mn)), .int .u64 (l3 (mn)), .int .i64 (ms), .bool xb, .int .u64 (l0 (xn)), .int .u64 (l1 (xn)), .int .u64 (l2 (xn)), .int .u64 (l3 (xn)), .int .i64 (xs)] rfl Try.underlying42 rfl sz33)⟩ ⟨rfl, M⟩
theorem str_c (r f k d er tt : Int) (mb : Bool) (mn ms : Int) (xb : Bool) (xn xs : Int) (r2 f2 k2 d2 e2 tt2 : Int) (mb2 : Bool) (mn2 ms2 : Int) (xb2 : Bool) (xn2 xs2 : Int) : Calls Try.prog 64 #[sm r (f) (k) (d) (er) (tt) false mb (mn) (ms) xb (xn) (xs), sm r2 (f2) (k2) (d2) (e2) (tt2) true mb2 (mn2) (ms2) xb2 (xn2) (xs2)] w fun e w' => e = .returned (sm r (f) (k) (d) (er) (tt) true mb2 (mn2) (ms2) xb2 (xn2) (xs2)) ∧ Mo w w' := by
  refine w_enter 39 Try.func64 Try.ntmps64 rfl rfl ?_
  have M : Mo w w := Mo.refl _
  refine w_seq ?_
  refine w_reg ?_
  refine wl_box 42 (.tmp 0) (.agg #[.int .i64 (r), .int .i64 (f), .int .i64 (k), .int .i64 (d), .int .i64 (er), .int .u64 (l0 (tt)), .int .u64 (l1 (tt)), .int .u64 (l2 (tt)), .int .u64 (l3 (tt)), .int .u64 (l4 (tt)), .bool false, .bool mb, .int .u64 (l0 (mn)), .int .u64 (l1 (mn)), .int .u64 (l2 (mn)), .int .u64 (l3 (mn)), .int .i64 (ms), .bool xb, .int .u64 (l0 (xn)), .int .u64 (l1 (xn)), .int .u64 (l2 (xn)), .int .u64 (l3 (xn)), .int .i64 (xs)]) (#[.int .i64 (r), .int .i64 (f), .int .i64 (k), .int .i64 (d), .int .i64 (er), .int .u64 (l0 (tt)), .int .u64 (l1 (tt)), .int .u64 (l2 (tt)), .int .u64 (l3 (tt)), .int .u64 (l4 (tt)), .bool false, .bool mb, .int .u64 (l0 (mn)), .int .u64 (l1 (mn)), .int .u64 (l2 (mn)), .int .u64 (l3 (mn)), .int .i64 (ms), .bool xb, .int .u64 (l0 (xn)), .int .u64 (l1 (xn)), .int .u64 (l2 (xn)), .int .u64 (l3 (xn)), .int .i64 (xs)]) rfl rfl (fun _ => by kernel_rfl) rfl ?_
  intro k1 w1 hk hz hq Q1
  have N_k1 : w.heap.size ≤ k1 := by have := M.size; omega
  replace M := M.trans hq
  clear hk hz hq
  refine wl_box 42 (.tmp 1) (.agg #[.int .i64 (r2), .int .i64 (f2), .int .i64 (k2), .int .i64 (d2), .int .i64 (e2), .int .u64 (l0 (tt2)), .int .u64 (l1 (tt2)), .int .u64 (l2 (tt2)), .int .u64 (l3 (tt2)), .int .u64 (l4 (tt2)), .bool true, .bool mb2, .int .u64 (l0 (mn2)), .int .u64 (l1 (mn2)), .int .u64 (l2 (mn2)), .int .u64 (l3 (mn2)), .int .i64 (ms2), .bool xb2, .int .u64 (l0 (xn2)), .int .u64 (l1 (xn2)), .int .u64 (l2 (xn2)), .int .u64 (l3 (xn2)), .int .i64 (xs2)]) (#[.int .i64 (r2), .int .i64 (f2), .int .i64 (k2), .int .i64 (d2), .int .i64 (e2), .int .u64 (l0 (tt2)), .int .u64 (l1 (tt2)), .int .u64 (l2 (tt2)), .int .u64 (l3 (tt2)), .int .u64 (l4 (tt2)), .bool true, .bool mb2, .int .u64 (l0 (mn2)), .int .u64 (l1 (mn2)), .int .u64 (l2 (mn2)), .int .u64 (l3 (mn2)), .int .i64 (ms2), .bool xb2, .int .u64 (l0 (xn2)), .int .u64 (l1 (xn2)), .int .u64 (l2 (xn2)), .int .u64 (l3 (xn2)), .int .i64 (xs2)]) rfl rfl (fun _ => by kernel_rfl) rfl ?_
  intro k2 w2 hk hz hq Q2
  have ne_k1_k2 : k1 ≠ k2 := by have := Q1.lt; omega
  have N_k2 : w.heap.size ≤ k2 := by have := M.size; omega
  replace Q1 := Q1.mo hq
  replace M := M.trans hq
  clear hk hz hq
  refine wl_alloc 42 #[.int .i64 0, .int .i64 0, .int .i64 0, .int .i64 0, .int .i64 0, .int .u64 0, .int .u64 0, .int .u64 0, .int .u64 0, .int .u64 0, .bool false, .bool false, .int .u64 0, .int .u64 0, .int .u64 0, .int .u64 0, .int .i64 0, .bool false, .int .u64 0, .int .u64 0, .int .u64 0, .int .u64 0, .int .i64 0] rfl (fun _ => by kernel_rfl) rfl ?_
  intro k3 w3 hk hz hq Q3
  have ne_k1_k3 : k1 ≠ k3 := by have := Q1.lt; omega
  have ne_k2_k3 : k2 ≠ k3 := by have := Q2.lt; omega
  have N_k3 : w.heap.size ≤ k3 := by have := M.size; omega
  replace Q1 := Q1.mo hq
  replace Q2 := Q2.mo hq
  replace M := M.trans hq
  clear hk hz hq
  refine w_nil ?_
  refine xn_then ?_
  refine w_seq ?_
  refine w_seq ?_
  refine w_reg ?_
  refine wl_un (fun v => Instr.fieldAt 42 v 6) (.tmp 3) (pt k2 0) (pt k2 10) (fun _ => rfl) rfl (by kernel_rfl) rfl ?_
  refine wl_load 4 (.tmp 5) (pt k2 10) (.bool true) rfl rfl (run_one Q2 4 10 rfl Try.underlying4 rfl) rfl ?_
  refine wl_un (fun v => Op.unary .not v) (.tmp 6) (.bool true) (.bool false) (fun _ => rfl) rfl (by kernel_rfl) rfl ?_
  refine w_nil ?_
  refine xn_then ?_
  refine w_condF rfl ?_
  refine w_skip ?_
  refine xn_then ?_
  refine w_seq ?_
  refine w_seq ?_
  refine w_reg ?_
  refine wl_un (fun v => Instr.fieldAt 42 v 6) (.tmp 2) (pt k1 0) (pt k1 10) (fun _ => rfl) rfl (by kernel_rfl) rfl ?_
  refine wl_load 4 (.tmp 9) (pt k1 10) (.bool false) rfl rfl (run_one Q1 4 10 rfl Try.underlying4 rfl) rfl ?_
  refine wl_un (fun v => Op.unary .not v) (.tmp 10) (.bool false) (.bool true) (fun _ => rfl) rfl (by kernel_rfl) rfl ?_
  refine wl_mv (.tmp 11) (.bool true) (fun _ => rfl) rfl rfl ?_
  refine wl_skip rfl ?_
  refine wl_skip rfl ?_
  refine wl_skip rfl ?_
  refine wl_skip rfl ?_
  refine wl_skip rfl ?_
  refine wl_skip rfl ?_
  refine wl_pick (.tmp 12) (.const (.bool true)) (.tmp 18) true (.bool true) (fun _ => rfl) rfl rfl rfl ?_
  refine w_nil ?_
  refine xn_then ?_
  refine w_condT rfl ?_
  refine w_reg ?_
  refine wl_un (fun v => Instr.fieldAt 42 v 7) (.tmp 3) (pt k2 0) (pt k2 11) (fun _ => rfl) rfl (by kernel_rfl) rfl ?_
  refine wl_load 40 (.tmp 20) (pt k2 11) (.agg #[.bool mb2, .int .u64 (l0 (mn2)), .int .u64 (l1 (mn2)), .int .u64 (l2 (mn2)), .int .u64 (l3 (mn2)), .int .i64 (ms2)]) rfl rfl (run_row Q2 40 11 6 [.bool mb2, .int .u64 (l0 (mn2)), .int .u64 (l1 (mn2)), .int .u64 (l2 (mn2)), .int .u64 (l3 (mn2)), .int .i64 (ms2)] rfl Try.underlying40 rfl sz26) rfl ?_
  refine wl_un (fun v => Instr.fieldAt 42 v 7) (.tmp 2) (pt k1 0) (pt k1 11) (fun _ => rfl) rfl (by kernel_rfl) rfl ?_
  refine wl_st 40 (.tmp 22) (.tmp 21) k1 11 #[.bool mb2, .int .u64 (l0 (mn2)), .int .u64 (l1 (mn2)), .int .u64 (l2 (mn2)), .int .u64 (l3 (mn2)), .int .i64 (ms2)] [.int .i64 (r), .int .i64 (f), .int .i64 (k), .int .i64 (d), .int .i64 (er), .int .u64 (l0 (tt)), .int .u64 (l1 (tt)), .int .u64 (l2 (tt)), .int .u64 (l3 (tt)), .int .u64 (l4 (tt)), .bool false, .bool mb, .int .u64 (l0 (mn)), .int .u64 (l1 (mn)), .int .u64 (l2 (mn)), .int .u64 (l3 (mn)), .int .i64 (ms), .bool xb, .int .u64 (l0 (xn)), .int .u64 (l1 (xn)), .int .u64 (l2 (xn)), .int .u64 (l3 (xn)), .int .i64 (xs)] [.int .i64 (r), .int .i64 (f), .int .i64 (k), .int .i64 (d), .int .i64 (er), .int .u64 (l0 (tt)), .int .u64 (l1 (tt)), .int .u64 (l2 (tt)), .int .u64 (l3 (tt)), .int .u64 (l4 (tt)), .bool false, .bool mb2, .int .u64 (l0 (mn2)), .int .u64 (l1 (mn2)), .int .u64 (l2 (mn2)), .int .u64 (l3 (mn2)), .int .i64 (ms2), .bool xb, .int .u64 (l0 (xn)), .int .u64 (l1 (xn)), .int .u64 (l2 (xn)), .int .u64 (l3 (xn)), .int .i64 (xs)] Q1 rfl rfl rfl rfl rfl sz26 rfl rfl rfl ?_
  intro w4 hS Qn
  replace Q1 := Qn
  clear Qn
  replace Q2 := hS.other _ _ ne_k1_k2.symm Q2
  replace Q3 := hS.other _ _ ne_k1_k3.symm Q3
  replace M := hS.mo _ N_k1 M
  clear hS
  refine w_nil ?_
  refine xn_then ?_
  refine w_seq ?_
  refine w_seq ?_
  refine w_reg ?_
  refine wl_un (fun v => Instr.fieldAt 42 v 6) (.tmp 2) (pt k1 0) (pt k1 10) (fun _ => rfl) rfl (by kernel_rfl) rfl ?_
  refine wl_load 4 (.tmp 23) (pt k1 10) (.bool false) rfl rfl (run_one Q1 4 10 rfl Try.underlying4 rfl) rfl ?_
  refine wl_un (fun v => Op.unary .not v) (.tmp 24) (.bool false) (.bool true) (fun _ => rfl) rfl (by kernel_rfl) rfl ?_
  refine wl_mv (.tmp 25) (.bool true) (fun _ => rfl) rfl rfl ?_
  refine wl_skip rfl ?_
  refine wl_skip rfl ?_
  refine wl_skip rfl ?_
  refine wl_skip rfl ?_
  refine wl_skip rfl ?_
  refine wl_skip rfl ?_
  refine wl_pick (.tmp 26) (.const (.bool true)) (.tmp 32) true (.bool true) (fun _ => rfl) rfl rfl rfl ?_
  refine w_nil ?_
  refine xn_then ?_
  refine w_condT rfl ?_
  refine w_reg ?_
  refine wl_un (fun v => Instr.fieldAt 42 v 8) (.tmp 3) (pt k2 0) (pt k2 17) (fun _ => rfl) rfl (by kernel_rfl) rfl ?_
  refine wl_load 40 (.tmp 34) (pt k2 17) (.agg #[.bool xb2, .int .u64 (l0 (xn2)), .int .u64 (l1 (xn2)), .int .u64 (l2 (xn2)), .int .u64 (l3 (xn2)), .int .i64 (xs2)]) rfl rfl (run_row Q2 40 17 6 [.bool xb2, .int .u64 (l0 (xn2)), .int .u64 (l1 (xn2)), .int .u64 (l2 (xn2)), .int .u64 (l3 (xn2)), .int .i64 (xs2)] rfl Try.underlying40 rfl sz26) rfl ?_
  refine wl_un (fun v => Instr.fieldAt 42 v 8) (.tmp 2) (pt k1 0) (pt k1 17) (fun _ => rfl) rfl (by kernel_rfl) rfl ?_
  refine wl_st 40 (.tmp 36) (.tmp 35) k1 17 #[.bool xb2, .int .u64 (l0 (xn2)), .int .u64 (l1 (xn2)), .int .u64 (l2 (xn2)), .int .u64 (l3 (xn2)), .int .i64 (xs2)] [.int .i64 (r), .int .i64 (f), .int .i64 (k), .int .i64 (d), .int .i64 (er), .int .u64 (l0 (tt)), .int .u64 (l1 (tt)), .int .u64 (l2 (tt)), .int .u64 (l3 (tt)), .int .u64 (l4 (tt)), .bool false, .bool mb2, .int .u64 (l0 (mn2)), .int .u64 (l1 (mn2)), .int .u64 (l2 (mn2)), .int .u64 (l3 (mn2)), .int .i64 (ms2), .bool xb, .int .u64 (l0 (xn)), .int .u64 (l1 (xn)), .int .u64 (l2 (xn)), .int .u64 (l3 (xn)), .int .i64 (xs)] [.int .i64 (r), .int .i64 (f), .int .i64 (k), .int .i64 (d), .int .i64 (er), .int .u64 (l0 (tt)), .int .u64 (l1 (tt)), .int .u64 (l2 (tt)), .int .u64 (l3 (tt)), .int .u64 (l4 (tt)), .bool false, .bool mb2, .int .u64 (l0 (mn2)), .int .u64 (l1 (mn2)), .int .u64 (l2 (mn2)), .int .u64 (l3 (mn2)), .int .i64 (ms2), .bool xb2, .int .u64 (l0 (xn2)), .int .u64 (l1 (xn2)), .int .u64 (l2 (xn2)), .int .u64 (l3 (xn2)), .int .i64 (xs2)] Q1 rfl rfl rfl rfl rfl sz26 rfl rfl rfl ?_
  intro w5 hS Qn
  replace Q1 := Qn
  clear Qn
  replace Q2 := hS.other _ _ ne_k1_k2.symm Q2
  replace Q3 := hS.other _ _ ne_k1_k3.symm Q3
  replace M := hS.mo _ N_k1 M
  clear hS
  refine w_nil ?_
  refine xn_then ?_
  refine w_seq ?_
  refine w_reg ?_
  refine wl_un (fun v => Instr.fieldAt 42 v 6) (.tmp 2) (pt k1 0) (pt k1 10) (fun _ => rfl) rfl (by kernel_rfl) rfl ?_
  refine wl_st1 4 (.tmp 37) (.const (.bool true)) k1 10 (.bool true) [.int .i64 (r), .int .i64 (f), .int .i64 (k), .int .i64 (d), .int .i64 (er), .int .u64 (l0 (tt)), .int .u64 (l1 (tt)), .int .u64 (l2 (tt)), .int .u64 (l3 (tt)), .int .u64 (l4 (tt)), .bool false, .bool mb2, .int .u64 (l0 (mn2)), .int .u64 (l1 (mn2)), .int .u64 (l2 (mn2)), .int .u64 (l3 (mn2)), .int .i64 (ms2), .bool xb2, .int .u64 (l0 (xn2)), .int .u64 (l1 (xn2)), .int .u64 (l2 (xn2)), .int .u64 (l3 (xn2)), .int .i64 (xs2)] [.int .i64 (r), .int .i64 (f), .int .i64 (k), .int .i64 (d), .int .i64 (er), .int .u64 (l0 (tt)), .int .u64 (l1 (tt)), .int .u64 (l2 (tt)), .int .u64 (l3 (tt)), .int .u64 (l4 (tt)), .bool true, .bool mb2, .int .u64 (l0 (mn2)), .int .u64 (l1 (mn2)), .int .u64 (l2 (mn2)), .int .u64 (l3 (mn2)), .int .i64 (ms2), .bool xb2, .int .u64 (l0 (xn2)), .int .u64 (l1 (xn2)), .int .u64 (l2 (xn2)), .int .u64 (l3 (xn2)), .int .i64 (xs2)] Q1 rfl rfl rfl rfl rfl sz4 rfl rfl rfl rfl ?_
  intro w6 hS Qn
  replace Q1 := Qn
  clear Qn
  replace Q2 := hS.other _ _ ne_k1_k2.symm Q2
  replace Q3 := hS.other _ _ ne_k1_k3.symm Q3
  replace M := hS.mo _ N_k1 M
  clear hS
  refine w_nil ?_
  refine xn_then ?_
  refine w_seq ?_
  refine w_reg ?_
  refine wl_load 42 (.tmp 2) (pt k1 0) (.agg #[.int .i64 (r), .int .i64 (f), .int .i64 (k), .int .i64 (d), .int .i64 (er), .int .u64 (l0 (tt)), .int .u64 (l1 (tt)), .int .u64 (l2 (tt)), .int .u64 (l3 (tt)), .int .u64 (l4 (tt)), .bool true, .bool mb2, .int .u64 (l0 (mn2)), .int .u64 (l1 (mn2)), .int .u64 (l2 (mn2)), .int .u64 (l3 (mn2)), .int .i64 (ms2), .bool xb2, .int .u64 (l0 (xn2)), .int .u64 (l1 (xn2)), .int .u64 (l2 (xn2)), .int .u64 (l3 (xn2)), .int .i64 (xs2)]) rfl rfl (run_row Q1 42 0 23 [.int .i64 (r), .int .i64 (f), .int .i64 (k), .int .i64 (d), .int .i64 (er), .int .u64 (l0 (tt)), .int .u64 (l1 (tt)), .int .u64 (l2 (tt)), .int .u64 (l3 (tt)), .int .u64 (l4 (tt)), .bool true, .bool mb2, .int .u64 (l0 (mn2)), .int .u64 (l1 (mn2)), .int .u64 (l2 (mn2)), .int .u64 (l3 (mn2)), .int .i64 (ms2), .bool xb2, .int .u64 (l0 (xn2)), .int .u64 (l1 (xn2)), .int .u64 (l2 (xn2)), .int .u64 (l3 (xn2)), .int .i64 (xs2)] rfl Try.underlying42 rfl sz33) rfl ?_
  refine wl_st 42 (.tmp 4) (.tmp 38) k3 0 #[.int .i64 (r), .int .i64 (f), .int .i64 (k), .int .i64 (d), .int .i64 (er), .int .u64 (l0 (tt)), .int .u64 (l1 (tt)), .int .u64 (l2 (tt)), .int .u64 (l3 (tt)), .int .u64 (l4 (tt)), .bool true, .bool mb2, .int .u64 (l0 (mn2)), .int .u64 (l1 (mn2)), .int .u64 (l2 (mn2)), .int .u64 (l3 (mn2)), .int .i64 (ms2), .bool xb2, .int .u64 (l0 (xn2)), .int .u64 (l1 (xn2)), .int .u64 (l2 (xn2)), .int .u64 (l3 (xn2)), .int .i64 (xs2)] [.int .i64 0, .int .i64 0, .int .i64 0, .int .i64 0, .int .i64 0, .int .u64 0, .int .u64 0, .int .u64 0, .int .u64 0, .int .u64 0, .bool false, .bool false, .int .u64 0, .int .u64 0, .int .u64 0, .int .u64 0, .int .i64 0, .bool false, .int .u64 0, .int .u64 0, .int .u64 0, .int .u64 0, .int .i64 0] [.int .i64 (r), .int .i64 (f), .int .i64 (k), .int .i64 (d), .int .i64 (er), .int .u64 (l0 (tt)), .int .u64 (l1 (tt)), .int .u64 (l2 (tt)), .int .u64 (l3 (tt)), .int .u64 (l4 (tt)), .bool true, .bool mb2, .int .u64 (l0 (mn2)), .int .u64 (l1 (mn2)), .int .u64 (l2 (mn2)), .int .u64 (l3 (mn2)), .int .i64 (ms2), .bool xb2, .int .u64 (l0 (xn2)), .int .u64 (l1 (xn2)), .int .u64 (l2 (xn2)), .int .u64 (l3 (xn2)), .int .i64 (xs2)] Q3 rfl rfl rfl rfl rfl sz33 rfl rfl rfl ?_
  intro w7 hS Qn
  replace Q3 := Qn
  clear Qn
  replace Q1 := hS.other _ _ ne_k1_k3 Q1
  replace Q2 := hS.other _ _ ne_k2_k3 Q2
  replace M := hS.mo _ N_k3 M
  clear hS
  refine w_nil ?_
  refine xn_then ?_
  refine w_ret ?_
  exact w_ret1 _ (.agg #[.int .i64 (r), .int .i64 (f), .int .i64 (k), .int .i64 (d), .int .i64 (er), .int .u64 (l0 (tt)), .int .u64 (l1 (tt)), .int .u64 (l2 (tt)), .int .u64 (l3 (tt)), .int .u64 (l4 (tt)), .bool true, .bool mb2, .int .u64 (l0 (mn2)), .int .u64 (l1 (mn2)), .int .u64 (l2 (mn2)), .int .u64 (l3 (mn2)), .int .i64 (ms2), .bool xb2, .int .u64 (l0 (xn2)), .int .u64 (l1 (xn2)), .int .u64 (l2 (xn2)), .int .u64 (l3 (xn2)), .int .i64 (xs2)]) rfl ⟨k3, rfl, (run_row Q3 42 0 23 [.int .i64 (r), .int .i64 (f), .int .i64 (k), .int .i64 (d), .int .i64 (er), .int .u64 (l0 (tt)), .int .u64 (l1 (tt)), .int .u64 (l2 (tt)), .int .u64 (l3 (tt)), .int .u64 (l4 (tt)), .bool true, .bool mb2, .int .u64 (l0 (mn2)), .int .u64 (l1 (mn2)), .int .u64 (l2 (mn2)), .int .u64 (l3 (mn2)), .int .i64 (ms2), .bool xb2, .int .u64 (l0 (xn2)), .int .u64 (l1 (xn2)), .int .u64 (l2 (xn2)), .int .u64 (l3 (xn2)), .int .i64 (xs2)] rfl Try.underlying42 rfl sz33)⟩ ⟨rfl, M⟩
theorem str_dtt (r f k d er tt : Int) (mb : Bool) (mn ms : Int) (xb : Bool) (xn xs : Int) (r2 f2 k2 d2 e2 tt2 : Int) (mb2 : Bool) (mn2 ms2 : Int) (xb2 : Bool) (xn2 xs2 : Int) (hm : D3.ok ⟨mb, mn, ms⟩) (hx : D3.ok ⟨xb, xn, xs⟩) (hm2 : D3.ok ⟨mb2, mn2, ms2⟩) (hx2 : D3.ok ⟨xb2, xn2, xs2⟩) (q1 : decide (cmpv ⟨mb2, mn2, ms2⟩ ⟨mb, mn, ms⟩ < 0) = true) (q2 : decide (0 < cmpv ⟨xb2, xn2, xs2⟩ ⟨xb, xn, xs⟩) = true) : Calls Try.prog 64 #[sm r (f) (k) (d) (er) (tt) true mb (mn) (ms) xb (xn) (xs), sm r2 (f2) (k2) (d2) (e2) (tt2) true mb2 (mn2) (ms2) xb2 (xn2) (xs2)] w fun e w' => e = .returned (sm r (f) (k) (d) (er) (tt) true mb2 (mn2) (ms2) xb2 (xn2) (xs2)) ∧ Mo w w' := by
  refine w_enter 39 Try.func64 Try.ntmps64 rfl rfl ?_
  have M : Mo w w := Mo.refl _
  refine w_seq ?_
  refine w_reg ?_
  refine wl_box 42 (.tmp 0) (.agg #[.int .i64 (r), .int .i64 (f), .int .i64 (k), .int .i64 (d), .int .i64 (er), .int .u64 (l0 (tt)), .int .u64 (l1 (tt)), .int .u64 (l2 (tt)), .int .u64 (l3 (tt)), .int .u64 (l4 (tt)), .bool true, .bool mb, .int .u64 (l0 (mn)), .int .u64 (l1 (mn)), .int .u64 (l2 (mn)), .int .u64 (l3 (mn)), .int .i64 (ms), .bool xb, .int .u64 (l0 (xn)), .int .u64 (l1 (xn)), .int .u64 (l2 (xn)), .int .u64 (l3 (xn)), .int .i64 (xs)]) (#[.int .i64 (r), .int .i64 (f), .int .i64 (k), .int .i64 (d), .int .i64 (er), .int .u64 (l0 (tt)), .int .u64 (l1 (tt)), .int .u64 (l2 (tt)), .int .u64 (l3 (tt)), .int .u64 (l4 (tt)), .bool true, .bool mb, .int .u64 (l0 (mn)), .int .u64 (l1 (mn)), .int .u64 (l2 (mn)), .int .u64 (l3 (mn)), .int .i64 (ms), .bool xb, .int .u64 (l0 (xn)), .int .u64 (l1 (xn)), .int .u64 (l2 (xn)), .int .u64 (l3 (xn)), .int .i64 (xs)]) rfl rfl (fun _ => by kernel_rfl) rfl ?_
  intro k1 w1 hk hz hq Q1
  have N_k1 : w.heap.size ≤ k1 := by have := M.size; omega
  replace M := M.trans hq
  clear hk hz hq
  refine wl_box 42 (.tmp 1) (.agg #[.int .i64 (r2), .int .i64 (f2), .int .i64 (k2), .int .i64 (d2), .int .i64 (e2), .int .u64 (l0 (tt2)), .int .u64 (l1 (tt2)), .int .u64 (l2 (tt2)), .int .u64 (l3 (tt2)), .int .u64 (l4 (tt2)), .bool true, .bool mb2, .int .u64 (l0 (mn2)), .int .u64 (l1 (mn2)), .int .u64 (l2 (mn2)), .int .u64 (l3 (mn2)), .int .i64 (ms2), .bool xb2, .int .u64 (l0 (xn2)), .int .u64 (l1 (xn2)), .int .u64 (l2 (xn2)), .int .u64 (l3 (xn2)), .int .i64 (xs2)]) (#[.int .i64 (r2), .int .i64 (f2), .int .i64 (k2), .int .i64 (d2), .int .i64 (e2), .int .u64 (l0 (tt2)), .int .u64 (l1 (tt2)), .int .u64 (l2 (tt2)), .int .u64 (l3 (tt2)), .int .u64 (l4 (tt2)), .bool true, .bool mb2, .int .u64 (l0 (mn2)), .int .u64 (l1 (mn2)), .int .u64 (l2 (mn2)), .int .u64 (l3 (mn2)), .int .i64 (ms2), .bool xb2, .int .u64 (l0 (xn2)), .int .u64 (l1 (xn2)), .int .u64 (l2 (xn2)), .int .u64 (l3 (xn2)), .int .i64 (xs2)]) rfl rfl (fun _ => by kernel_rfl) rfl ?_
  intro k2 w2 hk hz hq Q2
  have ne_k1_k2 : k1 ≠ k2 := by have := Q1.lt; omega
  have N_k2 : w.heap.size ≤ k2 := by have := M.size; omega
  replace Q1 := Q1.mo hq
  replace M := M.trans hq
  clear hk hz hq
  refine wl_alloc 42 #[.int .i64 0, .int .i64 0, .int .i64 0, .int .i64 0, .int .i64 0, .int .u64 0, .int .u64 0, .int .u64 0, .int .u64 0, .int .u64 0, .bool false, .bool false, .int .u64 0, .int .u64 0, .int .u64 0, .int .u64 0, .int .i64 0, .bool false, .int .u64 0, .int .u64 0, .int .u64 0, .int .u64 0, .int .i64 0] rfl (fun _ => by kernel_rfl) rfl ?_
  intro k3 w3 hk hz hq Q3
  have ne_k1_k3 : k1 ≠ k3 := by have := Q1.lt; omega
  have ne_k2_k3 : k2 ≠ k3 := by have := Q2.lt; omega
  have N_k3 : w.heap.size ≤ k3 := by have := M.size; omega
  replace Q1 := Q1.mo hq
  replace Q2 := Q2.mo hq
  replace M := M.trans hq
  clear hk hz hq
  refine w_nil ?_
  refine xn_then ?_
  refine w_seq ?_
  refine w_seq ?_
  refine w_reg ?_
  refine wl_un (fun v => Instr.fieldAt 42 v 6) (.tmp 3) (pt k2 0) (pt k2 10) (fun _ => rfl) rfl (by kernel_rfl) rfl ?_
  refine wl_load 4 (.tmp 5) (pt k2 10) (.bool true) rfl rfl (run_one Q2 4 10 rfl Try.underlying4 rfl) rfl ?_
  refine wl_un (fun v => Op.unary .not v) (.tmp 6) (.bool true) (.bool false) (fun _ => rfl) rfl (by kernel_rfl) rfl ?_
  refine w_nil ?_
  refine xn_then ?_
  refine w_condF rfl ?_
  refine w_skip ?_
  refine xn_then ?_
  refine w_seq ?_
  refine w_seq ?_
  refine w_reg ?_
  refine wl_un (fun v => Instr.fieldAt 42 v 6) (.tmp 2) (pt k1 0) (pt k1 10) (fun _ => rfl) rfl (by kernel_rfl) rfl ?_
  refine wl_load 4 (.tmp 9) (pt k1 10) (.bool true) rfl rfl (run_one Q1 4 10 rfl Try.underlying4 rfl) rfl ?_
  refine wl_un (fun v => Op.unary .not v) (.tmp 10) (.bool true) (.bool false) (fun _ => rfl) rfl (by kernel_rfl) rfl ?_
  refine wl_mv (.tmp 11) (.bool false) (fun _ => rfl) rfl rfl ?_
  refine wl_un (fun v => Instr.fieldAt 42 v 7) (.tmp 3) (pt k2 0) (pt k2 11) (fun _ => rfl) rfl (by kernel_rfl) rfl ?_
  refine wl_load 40 (.tmp 13) (pt k2 11) (.agg #[.bool mb2, .int .u64 (l0 (mn2)), .int .u64 (l1 (mn2)), .int .u64 (l2 (mn2)), .int .u64 (l3 (mn2)), .int .i64 (ms2)]) rfl rfl (run_row Q2 40 11 6 [.bool mb2, .int .u64 (l0 (mn2)), .int .u64 (l1 (mn2)), .int .u64 (l2 (mn2)), .int .u64 (l3 (mn2)), .int .i64 (ms2)] rfl Try.underlying40 rfl sz26) rfl ?_
  refine wl_un (fun v => Instr.fieldAt 42 v 7) (.tmp 2) (pt k1 0) (pt k1 11) (fun _ => rfl) rfl (by kernel_rfl) rfl ?_
  refine wl_load 40 (.tmp 15) (pt k1 11) (.agg #[.bool mb, .int .u64 (l0 (mn)), .int .u64 (l1 (mn)), .int .u64 (l2 (mn)), .int .u64 (l3 (mn)), .int .i64 (ms)]) rfl rfl (run_row Q1 40 11 6 [.bool mb, .int .u64 (l0 (mn)), .int .u64 (l1 (mn)), .int .u64 (l2 (mn)), .int .u64 (l3 (mn)), .int .i64 (ms)] rfl Try.underlying40 rfl sz26) rfl ?_
  refine wl_call 75 [(.tmp 14), (.tmp 16)] _ [.agg #[.bool mb2, .int .u64 (l0 (mn2)), .int .u64 (l1 (mn2)), .int .u64 (l2 (mn2)), .int .u64 (l3 (mn2)), .int .i64 (ms2)], .agg #[.bool mb, .int .u64 (l0 (mn)), .int .u64 (l1 (mn)), .int .u64 (l2 (mn)), .int .u64 (l3 (mn)), .int .i64 (ms)]] (.int .i64 (cmpv ⟨mb2, mn2, ms2⟩ ⟨mb, mn, ms⟩)) rfl rfl (fun _ _ => by kernel_rfl) (cmp_d ⟨mb2, mn2, ms2⟩ ⟨mb, mn, ms⟩ hm2 hm _) rfl ?_
  intro w4 hq
  replace Q1 := Q1.mo hq
  replace Q2 := Q2.mo hq
  replace Q3 := Q3.mo hq
  replace M := M.trans hq
  clear hq
  refine wl_bin (fun x y => do eqGuard .lss 3 (.tmp 17) (.const (.int .i64 (0))) x y; binOp .lss 3 x y) (.tmp 17) (.const (.int .i64 (0))) (.int .i64 (cmpv ⟨mb2, mn2, ms2⟩ ⟨mb, mn, ms⟩)) (.int .i64 (0)) (.bool true) (fun _ => rfl) rfl rfl (ltI q1 _ _ _) rfl ?_
  refine wl_pick (.tmp 12) (.const (.bool true)) (.tmp 18) false (.bool true) (fun _ => rfl) rfl rfl rfl ?_
  refine w_nil ?_
  refine xn_then ?_
  refine w_condT rfl ?_
  refine w_reg ?_
  refine wl_un (fun v => Instr.fieldAt 42 v 7) (.tmp 3) (pt k2 0) (pt k2 11) (fun _ => rfl) rfl (by kernel_rfl) rfl ?_
  refine wl_load 40 (.tmp 20) (pt k2 11) (.agg #[.bool mb2, .int .u64 (l0 (mn2)), .int .u64 (l1 (mn2)), .int .u64 (l2 (mn2)), .int .u64 (l3 (mn2)), .int .i64 (ms2)]) rfl rfl (run_row Q2 40 11 6 [.bool mb2, .int .u64 (l0 (mn2)), .int .u64 (l1 (mn2)), .int .u64 (l2 (mn2)), .int .u64 (l3 (mn2)), .int .i64 (ms2)] rfl Try.underlying40 rfl sz26) rfl ?_
  refine wl_un (fun v => Instr.fieldAt 42 v 7) (.tmp 2) (pt k1 0) (pt k1 11) (fun _ => rfl) rfl (by kernel_rfl) rfl ?_
  refine wl_st 40 (.tmp 22) (.tmp 21) k1 11 #[.bool mb2, .int .u64 (l0 (mn2)), .int .u64 (l1 (mn2)), .int .u64 (l2 (mn2)), .int .u64 (l3 (mn2)), .int .i64 (ms2)] [.int .i64 (r), .int .i64 (f), .int .i64 (k), .int .i64 (d), .int .i64 (er), .int .u64 (l0 (tt)), .int .u64 (l1 (tt)), .int .u64 (l2 (tt)), .int .u64 (l3 (tt)), .int .u64 (l4 (tt)), .bool true, .bool mb, .int .u64 (l0 (mn)), .int .u64 (l1 (mn)), .int .u64 (l2 (mn)), .int .u64 (l3 (mn)), .int .i64 (ms), .bool xb, .int .u64 (l0 (xn)), .int .u64 (l1 (xn)), .int .u64 (l2 (xn)), .int .u64 (l3 (xn)), .int .i64 (xs)] [.int .i64 (r), .int .i64 (f), .int .i64 (k), .int .i64 (d), .int .i64 (er), .int .u64 (l0 (tt)), .int .u64 (l1 (tt)), .int .u64 (l2 (tt)), .int .u64 (l3 (tt)), .int .u64 (l4 (tt)), .bool true, .bool mb2, .int .u64 (l0 (mn2)), .int .u64 (l1 (mn2)), .int .u64 (l2 (mn2)), .int .u64 (l3 (mn2)), .int .i64 (ms2), .bool xb, .int .u64 (l0 (xn)), .int .u64 (l1 (xn)), .int .u64 (l2 (xn)), .int .u64 (l3 (xn)), .int .i64 (xs)] Q1 rfl rfl rfl rfl rfl sz26 rfl rfl rfl ?_
  intro w5 hS Qn
  replace Q1 := Qn
  clear Qn
  replace Q2 := hS.other _ _ ne_k1_k2.symm Q2
  replace Q3 := hS.other _ _ ne_k1_k3.symm Q3
  replace M := hS.mo _ N_k1 M
  clear hS
  refine w_nil ?_
  refine xn_then ?_
  refine w_seq ?_
  refine w_seq ?_
  refine w_reg ?_
  refine wl_un (fun v => Instr.fieldAt 42 v 6) (.tmp 2) (pt k1 0) (pt k1 10) (fun _ => rfl) rfl (by kernel_rfl) rfl ?_
  refine wl_load 4 (.tmp 23) (pt k1 10) (.bool true) rfl rfl (run_one Q1 4 10 rfl Try.underlying4 rfl) rfl ?_
  refine wl_un (fun v => Op.unary .not v) (.tmp 24) (.bool true) (.bool false) (fun _ => rfl) rfl (by kernel_rfl) rfl ?_
  refine wl_mv (.tmp 25) (.bool false) (fun _ => rfl) rfl rfl ?_
  refine wl_un (fun v => Instr.fieldAt 42 v 8) (.tmp 3) (pt k2 0) (pt k2 17) (fun _ => rfl) rfl (by kernel_rfl) rfl ?_
  refine wl_load 40 (.tmp 27) (pt k2 17) (.agg #[.bool xb2, .int .u64 (l0 (xn2)), .int .u64 (l1 (xn2)), .int .u64 (l2 (xn2)), .int .u64 (l3 (xn2)), .int .i64 (xs2)]) rfl rfl (run_row Q2 40 17 6 [.bool xb2, .int .u64 (l0 (xn2)), .int .u64 (l1 (xn2)), .int .u64 (l2 (xn2)), .int .u64 (l3 (xn2)), .int .i64 (xs2)] rfl Try.underlying40 rfl sz26) rfl ?_
  refine wl_un (fun v => Instr.fieldAt 42 v 8) (.tmp 2) (pt k1 0) (pt k1 17) (fun _ => rfl) rfl (by kernel_rfl) rfl ?_
  refine wl_load 40 (.tmp 29) (pt k1 17) (.agg #[.bool xb, .int .u64 (l0 (xn)), .int .u64 (l1 (xn)), .int .u64 (l2 (xn)), .int .u64 (l3 (xn)), .int .i64 (xs)]) rfl rfl (run_row Q1 40 17 6 [.bool xb, .int .u64 (l0 (xn)), .int .u64 (l1 (xn)), .int .u64 (l2 (xn)), .int .u64 (l3 (xn)), .int .i64 (xs)] rfl Try.underlying40 rfl sz26) rfl ?_
  refine wl_call 75 [(.tmp 28), (.tmp 30)] _ [.agg #[.bool xb2, .int .u64 (l0 (xn2)), .int .u64 (l1 (xn2)), .int .u64 (l2 (xn2)), .int .u64 (l3 (xn2)), .int .i64 (xs2)], .agg #[.bool xb, .int .u64 (l0 (xn)), .int .u64 (l1 (xn)), .int .u64 (l2 (xn)), .int .u64 (l3 (xn)), .int .i64 (xs)]] (.int .i64 (cmpv ⟨xb2, xn2, xs2⟩ ⟨xb, xn, xs⟩)) rfl rfl (fun _ _ => by kernel_rfl) (cmp_d ⟨xb2, xn2, xs2⟩ ⟨xb, xn, xs⟩ hx2 hx _) rfl ?_
  intro w6 hq
  replace Q1 := Q1.mo hq
  replace Q2 := Q2.mo hq
  replace Q3 := Q3.mo hq
  replace M := M.trans hq
  clear hq
  refine wl_bin (fun x y => do eqGuard .gtr 3 (.tmp 31) (.const (.int .i64 (0))) x y; binOp .gtr 3 x y) (.tmp 31) (.const (.int .i64 (0))) (.int .i64 (cmpv ⟨xb2, xn2, xs2⟩ ⟨xb, xn, xs⟩)) (.int .i64 (0)) (.bool true) (fun _ => rfl) rfl rfl (gtI q2 _ _ _) rfl ?_
  refine wl_pick (.tmp 26) (.const (.bool true)) (.tmp 32) false (.bool true) (fun _ => rfl) rfl rfl rfl ?_
  refine w_nil ?_
  refine xn_then ?_
  refine w_condT rfl ?_
  refine w_reg ?_
  refine wl_un (fun v => Instr.fieldAt 42 v 8) (.tmp 3) (pt k2 0) (pt k2 17) (fun _ => rfl) rfl (by kernel_rfl) rfl ?_
  refine wl_load 40 (.tmp 34) (pt k2 17) (.agg #[.bool xb2, .int .u64 (l0 (xn2)), .int .u64 (l1 (xn2)), .int .u64 (l2 (xn2)), .int .u64 (l3 (xn2)), .int .i64 (xs2)]) rfl rfl (run_row Q2 40 17 6 [.bool xb2, .int .u64 (l0 (xn2)), .int .u64 (l1 (xn2)), .int .u64 (l2 (xn2)), .int .u64 (l3 (xn2)), .int .i64 (xs2)] rfl Try.underlying40 rfl sz26) rfl ?_
  refine wl_un (fun v => Instr.fieldAt 42 v 8) (.tmp 2) (pt k1 0) (pt k1 17) (fun _ => rfl) rfl (by kernel_rfl) rfl ?_
  refine wl_st 40 (.tmp 36) (.tmp 35) k1 17 #[.bool xb2, .int .u64 (l0 (xn2)), .int .u64 (l1 (xn2)), .int .u64 (l2 (xn2)), .int .u64 (l3 (xn2)), .int .i64 (xs2)] [.int .i64 (r), .int .i64 (f), .int .i64 (k), .int .i64 (d), .int .i64 (er), .int .u64 (l0 (tt)), .int .u64 (l1 (tt)), .int .u64 (l2 (tt)), .int .u64 (l3 (tt)), .int .u64 (l4 (tt)), .bool true, .bool mb2, .int .u64 (l0 (mn2)), .int .u64 (l1 (mn2)), .int .u64 (l2 (mn2)), .int .u64 (l3 (mn2)), .int .i64 (ms2), .bool xb, .int .u64 (l0 (xn)), .int .u64 (l1 (xn)), .int .u64 (l2 (xn)), .int .u64 (l3 (xn)), .int .i64 (xs)] [.int .i64 (r), .int .i64 (f), .int .i64 (k), .int .i64 (d), .int .i64 (er), .int .u64 (l0 (tt)), .int .u64 (l1 (tt)), .int .u64 (l2 (tt)), .int .u64 (l3 (tt)), .int .u64 (l4 (tt)), .bool true, .bool mb2, .int .u64 (l0 (mn2)), .int .u64 (l1 (mn2)), .int .u64 (l2 (mn2)), .int .u64 (l3 (mn2)), .int .i64 (ms2), .bool xb2, .int .u64 (l0 (xn2)), .int .u64 (l1 (xn2)), .int .u64 (l2 (xn2)), .int .u64 (l3 (xn2)), .int .i64 (xs2)] Q1 rfl rfl rfl rfl rfl sz26 rfl rfl rfl ?_
  intro w7 hS Qn
  replace Q1 := Qn
  clear Qn
  replace Q2 := hS.other _ _ ne_k1_k2.symm Q2
  replace Q3 := hS.other _ _ ne_k1_k3.symm Q3
  replace M := hS.mo _ N_k1 M
  clear hS
  refine w_nil ?_
  refine xn_then ?_
  refine w_seq ?_
  refine w_reg ?_
  refine wl_un (fun v => Instr.fieldAt 42 v 6) (.tmp 2) (pt k1 0) (pt k1 10) (fun _ => rfl) rfl (by kernel_rfl) rfl ?_
  refine wl_st1 4 (.tmp 37) (.const (.bool true)) k1 10 (.bool true) [.int .i64 (r), .int .i64 (f), .int .i64 (k), .int .i64 (d), .int .i64 (er), .int .u64 (l0 (tt)), .int .u64 (l1 (tt)), .int .u64 (l2 (tt)), .int .u64 (l3 (tt)), .int .u64 (l4 (tt)), .bool true, .bool mb2, .int .u64 (l0 (mn2)), .int .u64 (l1 (mn2)), .int .u64 (l2 (mn2)), .int .u64 (l3 (mn2)), .int .i64 (ms2), .bool xb2, .int .u64 (l0 (xn2)), .int .u64 (l1 (xn2)), .int .u64 (l2 (xn2)), .int .u64 (l3 (xn2)), .int .i64 (xs2)] [.int .i64 (r), .int .i64 (f), .int .i64 (k), .int .i64 (d), .int .i64 (er), .int .u64 (l0 (tt)), .int .u64 (l1 (tt)), .int .u64 (l2 (tt)), .int .u64 (l3 (tt)), .int .u64 (l4 (tt)), .bool true, .bool mb2, .int .u64 (l0 (mn2)), .int .u64 (l1 (mn2)), .int .u64 (l2 (mn2)), .int .u64 (l3 (mn2)), .int .i64 (ms2), .bool xb2, .int .u64 (l0 (xn2)), .int .u64 (l1 (xn2)), .int .u64 (l2 (xn2)), .int .u64 (l3 (xn2)), .int .i64 (xs2)] Q1 rfl rfl rfl rfl rfl sz4 rfl rfl rfl rfl ?_
  intro w8 hS Qn
  replace Q1 := Qn
  clear Qn
  replace Q2 := hS.other _ _ ne_k1_k2.symm Q2
  replace Q3 := hS.other _ _ ne_k1_k3.symm Q3
  replace M := hS.mo _ N_k1 M
  clear hS
  refine w_nil ?_
  refine xn_then ?_
  refine w_seq ?_
  refine w_reg ?_
  refine wl_load 42 (.tmp 2) (pt k1 0) (.agg #[.int .i64 (r), .int .i64 (f), .int .i64 (k), .int .i64 (d), .int .i64 (er), .int .u64 (l0 (tt)), .int .u64 (l1 (tt)), .int .u64 (l2 (tt)), .int .u64 (l3 (tt)), .int .u64 (l4 (tt)), .bool true, .bool mb2, .int .u64 (l0 (mn2)), .int .u64 (l1 (mn2)), .int .u64 (l2 (mn2)), .int .u64 (l3 (mn2)), .int .i64 (ms2), .bool xb2, .int .u64 (l0 (xn2)), .int .u64 (l1 (xn2)), .int .u64 (l2 (xn2)), .int .u64 (l3 (xn2)), .int .i64 (xs2)]) rfl rfl (run_row Q1 42 0 23 [.int .i64 (r), .int .i64 (f), .int .i64 (k), .int .i64 (d), .int .i64 (er), .int .u64 (l0 (tt)), .int .u64 (l1 (tt)), .int .u64 (l2 (tt)), .int .u64 (l3 (tt)), .int .u64 (l4 (tt)), .bool true, .bool mb2, .int .u64 (l0 (mn2)), .int .u64 (l1 (mn2)), .int .u64 (l2 (mn2)), .int .u64 (l3 (mn2)), .int .i64 (ms2), .bool xb2, .int .u64 (l0 (xn2)), .int .u64 (l1 (xn2)), .int .u64 (l2 (xn2)), .int .u64 (l3 (xn2)), .int .i64 (xs2)] rfl Try.underlying42 rfl sz33) rfl ?_
  refine wl_st 42 (.tmp 4) (.tmp 38) k3 0 #[.int .i64 (r), .int .i64 (f), .int .i64 (k), .int .i64 (d), .int .i64 (er), .int .u64 (l0 (tt)), .int .u64 (l1 (tt)), .int .u64 (l2 (tt)), .int .u64 (l3 (tt)), .int .u64 (l4 (tt)), .bool true, .bool mb2, .int .u64 (l0 (mn2)), .int .u64 (l1 (mn2)), .int .u64 (l2 (mn2)), .int .u64 (l3 (mn2)), .int .i64 (ms2), .bool xb2, .int .u64 (l0 (xn2)), .int .u64 (l1 (xn2)), .int .u64 (l2 (xn2)), .int .u64 (l3 (xn2)), .int .i64 (xs2)] [.int .i64 0, .int .i64 0, .int .i64 0, .int .i64 0, .int .i64 0, .int .u64 0, .int .u64 0, .int .u64 0, .int .u64 0, .int .u64 0, .bool false, .bool false, .int .u64 0, .int .u64 0, .int .u64 0, .int .u64 0, .int .i64 0, .bool false, .int .u64 0, .int .u64 0, .int .u64 0, .int .u64 0, .int .i64 0] [.int .i64 (r), .int .i64 (f), .int .i64 (k), .int .i64 (d), .int .i64 (er), .int .u64 (l0 (tt)), .int .u64 (l1 (tt)), .int .u64 (l2 (tt)), .int .u64 (l3 (tt)), .int .u64 (l4 (tt)), .bool true, .bool mb2, .int .u64 (l0 (mn2)), .int .u64 (l1 (mn2)), .int .u64 (l2 (mn2)), .int .u64 (l3 (mn2)), .int .i64 (ms2), .bool xb2, .int .u64 (l0 (xn2)), .int .u64 (l1 (xn2)), .int .u64 (l2 (xn2)), .int .u64 (l3 (xn2)), .int .i64 (xs2)] Q3 rfl rfl rfl rfl rfl sz33 rfl rfl rfl ?_
  intro w9 hS Qn
  replace Q3 := Qn
  clear Qn
  replace Q1 := hS.other _ _ ne_k1_k3 Q1
  replace Q2 := hS.other _ _ ne_k2_k3 Q2
  replace M := hS.mo _ N_k3 M
  clear hS
  refine w_nil ?_
  refine xn_then ?_
  refine w_ret ?_
  exact w_ret1 _ (.agg #[.int .i64 (r), .int .i64 (f), .int .i64 (k), .int .i64 (d), .int .i64 (er), .int .u64 (l0 (tt)), .int .u64 (l1 (tt)), .int .u64 (l2 (tt)), .int .u64 (l3 (tt)), .int .u64 (l4 (tt)), .bool true, .bool mb2, .int .u64 (l0 (mn2)), .int .u64 (l1 (mn2)), .int .u64 (l2 (mn2)), .int .u64 (l3 (mn2)), .int .i64 (ms2), .bool xb2, .int .u64 (l0 (xn2)), .int .u64 (l1 (xn2)), .int .u64 (l2 (xn2)), .int .u64 (l3 (xn2)), .int .i64 (xs2)]) rfl ⟨k3, rfl, (run_row Q3 42 0 23 [.int .i64 (r), .int .i64 (f), .int .i64 (k), .int .i64 (d), .int .i64 (er), .int .u64 (l0 (tt)), .int .u64 (l1 (tt)), .int .u64 (l2 (tt)), .int .u64 (l3 (tt)), .int .u64 (l4 (tt)), .bool true, .bool mb2, .int .u64 (l0 (mn2)), .int .u64 (l1 (mn2)), .int .u64 (l2 (mn2)), .int .u64 (l3 (mn2)), .int .i64 (ms2), .bool xb2, .int .u64 (l0 (xn2)), .int .u64 (l1 (xn2)), .int .u64 (l2 (xn2)), .int .u64 (l3 (xn2)), .int .i64 (xs2)] rfl Try.underlying42 rfl sz33)⟩ ⟨rfl, M⟩
theorem str_dtf (r f k d er tt : Int) (mb : Bool) (mn ms : Int) (xb : Bool) (xn xs : Int) (r2 f2 k2 d2 e2 tt2 : Int) (mb2 : Bool) (mn2 ms2 : Int) (xb2 : Bool) (xn2 xs2 : Int) (hm : D3.ok ⟨mb, mn, ms⟩) (hx : D3.ok ⟨xb, xn, xs⟩) (hm2 : D3.ok ⟨mb2, mn2, ms2⟩) (hx2 : D3.ok ⟨xb2, xn2, xs2⟩) (q1 : decide (cmpv ⟨mb2, mn2, ms2⟩ ⟨mb, mn, ms⟩ < 0) = true) (q2 : decide (0 < cmpv ⟨xb2, xn2, xs2⟩ ⟨xb, xn, xs⟩) = false) : Calls Try.prog 64 #[sm r (f) (k) (d) (er) (tt) true mb (mn) (ms) xb (xn) (xs), sm r2 (f2) (k2) (d2) (e2) (tt2) true mb2 (mn2) (ms2) xb2 (xn2) (xs2)] w fun e w' => e = .returned (sm r (f) (k) (d) (er) (tt) true mb2 (mn2) (ms2) xb (xn) (xs)) ∧ Mo w w' := by
  refine w_enter 39 Try.func64 Try.ntmps64 rfl rfl ?_
  have M : Mo w w := Mo.refl _
  refine w_seq ?_
  refine w_reg ?_
  refine wl_box 42 (.tmp 0) (.agg #[.int .i64 (r), .int .i64 (f), .int .i64 (k), .int .i64 (d), .int .i64 (er), .int .u64 (l0 (tt)), .int .u64 (l1 (tt)), .int .u64 (l2 (tt)), .int .u64 (l3 (tt)), .int .u64 (l4 (tt)), .bool true, .bool mb, .int .u64 (l0 (mn)), .int .u64 (l1 (mn)), .int .u64 (l2 (mn)), .int .u64 (l3 (mn)), .int .i64 (ms), .bool xb, .int .u64 (l0 (xn)), .int .u64 (l1 (xn)), .int .u64 (l2 (xn)), .int .u64 (l3 (xn)), .int .i64 (xs)]) (#[.int .i64 (r), .int .i64 (f), .int .i64 (k), .int .i64 (d), .int .i64 (er), .int .u64 (l0 (tt)), .int .u64 (l1 (tt)), .int .u64 (l2 (tt)), .int .u64 (l3 (tt)), .int .u64 (l4 (tt)), .bool true, .bool mb, .int .u64 (l0 (mn)), .int .u64 (l1 (mn)), .int .u64 (l2 (mn)), .int .u64 (l3 (mn)), .int .i64 (ms), .bool xb, .int .u64 (l0 (xn)), .int .u64 (l1 (xn)), .int .u64 (l2 (xn)), .int .u64 (l3 (xn)), .int .i64 (xs)]) rfl rfl (fun _ => by kernel_rfl) rfl ?_
  intro k1 w1 hk hz hq Q1
  have N_k1 : w.heap.size ≤ k1 := by have := M.size; omega
  replace M := M.trans hq
  clear hk hz hq
  refine wl_box 42 (.tmp 1) (.agg #[.int .i64 (r2), .int .i64 (f2), .int .i64 (k2), .int .i64 (d2), .int .i64 (e2), .int .u64 (l0 (tt2)), .int .u64 (l1 (tt2)), .int .u64 (l2 (tt2)), .int .u64 (l3 (tt2)), .int .u64 (l4 (tt2)), .bool true, .bool mb2, .int .u64 (l0 (mn2)), .int .u64 (l1 (mn2)), .int .u64 (l2 (mn2)), .int .u64 (l3 (mn2)), .int .i64 (ms2), .bool xb2, .int .u64 (l0 (xn2)), .int .u64 (l1 (xn2)), .int .u64 (l2 (xn2)), .int .u64 (l3 (xn2)), .int .i64 (xs2)]) (#[.int .i64 (r2), .int .i64 (f2), .int .i64 (k2), .int .i64 (d2), .int .i64 (e2), .int .u64 (l0 (tt2)), .int .u64 (l1 (tt2)), .int .u64 (l2 (tt2)), .int .u64 (l3 (tt2)), .int .u64 (l4 (tt2)), .bool true, .bool mb2, .int .u64 (l0 (mn2)), .int .u64 (l1 (mn2)), .int .u64 (l2 (mn2)), .int .u64 (l3 (mn2)), .int .i64 (ms2), .bool xb2, .int .u64 (l0 (xn2)), .int .u64 (l1 (xn2)), .int .u64 (l2 (xn2)), .int .u64 (l3 (xn2)), .int .i64 (xs2)]) rfl rfl (fun _ => by kernel_rfl) rfl ?_
  intro k2 w2 hk hz hq Q2
  have ne_k1_k2 : k1 ≠ k2 := by have := Q1.lt; omega
  have N_k2 : w.heap.size ≤ k2 := by have := M.size; omega
  replace Q1 := Q1.mo hq
  replace M := M.trans hq
  clear hk hz hq
  refine wl_alloc 42 #[.int .i64 0, .int .i64 0, .int .i64 0, .int .i64 0, .int .i64 0, .int .u64 0, .int .u64 0, .int .u64 0, .int .u64 0, .int .u64 0, .bool false, .bool false, .int .u64 0, .int .u64 0, .int .u64 0, .int .u64 0, .int .i64 0, .bool false, .int .u64 0, .int .u64 0, .int .u64 0, .int .u64 0, .int .i64 0] rfl (fun _ => by kernel_rfl) rfl ?_
  intro k3 w3 hk hz hq Q3
  have ne_k1_k3 : k1 ≠ k3 := by have := Q1.lt; omega
  have ne_k2_k3 : k2 ≠ k3 := by have := Q2.lt; omega
  have N_k3 : w.heap.size ≤ k3 := by have := M.size; omega
  replace Q1 := Q1.mo hq
  replace Q2 := Q2.mo hq
  replace M := M.trans hq
  clear hk hz hq
  refine w_nil ?_
  refine xn_then ?_
  refine w_seq ?_
  refine w_seq ?_
  refine w_reg ?_
  refine wl_un (fun v => Instr.fieldAt 42 v 6) (.tmp 3) (pt k2 0) (pt k2 10) (fun _ => rfl) rfl (by kernel_rfl) rfl ?_
  refine wl_load 4 (.tmp 5) (pt k2 10) (.bool true) rfl rfl (run_one Q2 4 10 rfl Try.underlying4 rfl) rfl ?_
  refine wl_un (fun v => Op.unary .not v) (.tmp 6) (.bool true) (.bool false) (fun _ => rfl) rfl (by kernel_rfl) rfl ?_
  refine w_nil ?_
  refine xn_then ?_
  refine w_condF rfl ?_
  refine w_skip ?_
  refine xn_then ?_
  refine w_seq ?_
  refine w_seq ?_
  refine w_reg ?_
  refine wl_un (fun v => Instr.fieldAt 42 v 6) (.tmp 2) (pt k1 0) (pt k1 10) (fun _ => rfl) rfl (by kernel_rfl) rfl ?_
  refine wl_load 4 (.tmp 9) (pt k1 10) (.bool true) rfl rfl (run_one Q1 4 10 rfl Try.underlying4 rfl) rfl ?_
  refine wl_un (fun v => Op.unary .not v) (.tmp 10) (.bool true) (.bool false) (fun _ => rfl) rfl (by kernel_rfl) rfl ?_
  refine wl_mv (.tmp 11) (.bool false) (fun _ => rfl) rfl rfl ?_
  refine wl_un (fun v => Instr.fieldAt 42 v 7) (.tmp 3) (pt k2 0) (pt k2 11) (fun _ => rfl) rfl (by kernel_rfl) rfl ?_
  refine wl_load 40 (.tmp 13) (pt k2 11) (.agg #[.bool mb2, .int .u64 (l0 (mn2)), .int .u64 (l1 (mn2)), .int .u64 (l2 (mn2)), .int .u64 (l3 (mn2)), .int .i64 (ms2)]) rfl rfl (run_row Q2 40 11 6 [.bool mb2, .int .u64 (l0 (mn2)), .int .u64 (l1 (mn2)), .int .u64 (l2 (mn2)), .int .u64 (l3 (mn2)), .int .i64 (ms2)] rfl Try.underlying40 rfl sz26) rfl ?_
  refine wl_un (fun v => Instr.fieldAt 42 v 7) (.tmp 2) (pt k1 0) (pt k1 11) (fun _ => rfl) rfl (by kernel_rfl) rfl ?_
  refine wl_load 40 (.tmp 15) (pt k1 11) (.agg #[.bool mb, .int .u64 (l0 (mn)), .int .u64 (l1 (mn)), .int .u64 (l2 (mn)), .int .u64 (l3 (mn)), .int .i64 (ms)]) rfl rfl (run_row Q1 40 11 6 [.bool mb, .int .u64 (l0 (mn)), .int .u64 (l1 (mn)), .int .u64 (l2 (mn)), .int .u64 (l3 (mn)), .int .i64 (ms)] rfl Try.underlying40 rfl sz26) rfl ?_
  refine wl_call 75 [(.tmp 14), (.tmp 16)] _ [.agg #[.bool mb2, .int .u64 (l0 (mn2)), .int .u64 (l1 (mn2)), .int .u64 (l2 (mn2)), .int .u64 (l3 (mn2)), .int .i64 (ms2)], .agg #[.bool mb, .int .u64 (l0 (mn)), .int .u64 (l1 (mn)), .int .u64 (l2 (mn)), .int .u64 (l3 (mn)), .int .i64 (ms)]] (.int .i64 (cmpv ⟨mb2, mn2, ms2⟩ ⟨mb, mn, ms⟩)) rfl rfl (fun _ _ => by kernel_rfl) (cmp_d ⟨mb2, mn2, ms2⟩ ⟨mb, mn, ms⟩ hm2 hm _) rfl ?_
  intro w4 hq
  replace Q1 := Q1.mo hq
  replace Q2 := Q2.mo hq
  replace Q3 := Q3.mo hq
  replace M := M.trans hq
  clear hq
  refine wl_bin (fun x y => do eqGuard .lss 3 (.tmp 17) (.const (.int .i64 (0))) x y; binOp .lss 3 x y) (.tmp 17) (.const (.int .i64 (0))) (.int .i64 (cmpv ⟨mb2, mn2, ms2⟩ ⟨mb, mn, ms⟩)) (.int .i64 (0)) (.bool true) (fun _ => rfl) rfl rfl (ltI q1 _ _ _) rfl ?_
  refine wl_pick (.tmp 12) (.const (.bool true)) (.tmp 18) false (.bool true) (fun _ => rfl) rfl rfl rfl ?_
  refine w_nil ?_
  refine xn_then ?_
  refine w_condT rfl ?_
  refine w_reg ?_
  refine wl_un (fun v => Instr.fieldAt 42 v 7) (.tmp 3) (pt k2 0) (pt k2 11) (fun _ => rfl) rfl (by kernel_rfl) rfl ?_
  refine wl_load 40 (.tmp 20) (pt k2 11) (.agg #[.bool mb2, .int .u64 (l0 (mn2)), .int .u64 (l1 (mn2)), .int .u64 (l2 (mn2)), .int .u64 (l3 (mn2)), .int .i64 (ms2)]) rfl rfl (run_row Q2 40 11 6 [.bool mb2, .int .u64 (l0 (mn2)), .int .u64 (l1 (mn2)), .int .u64 (l2 (mn2)), .int .u64 (l3 (mn2)), .int .i64 (ms2)] rfl Try.underlying40 rfl sz26) rfl ?_
  refine wl_un (fun v => Instr.fieldAt 42 v 7) (.tmp 2) (pt k1 0) (pt k1 11) (fun _ => rfl) rfl (by kernel_rfl) rfl ?_
  refine wl_st 40 (.tmp 22) (.tmp 21) k1 11 #[.bool mb2, .int .u64 (l0 (mn2)), .int .u64 (l1 (mn2)), .int .u64 (l2 (mn2)), .int .u64 (l3 (mn2)), .int .i64 (ms2)] [.int .i64 (r), .int .i64 (f), .int .i64 (k), .int .i64 (d), .int .i64 (er), .int .u64 (l0 (tt)), .int .u64 (l1 (tt)), .int .u64 (l2 (tt)), .int .u64 (l3 (tt)), .int .u64 (l4 (tt)), .bool true, .bool mb, .int .u64 (l0 (mn)), .int .u64 (l1 (mn)), .int .u64 (l2 (mn)), .int .u64 (l3 (mn)), .int .i64 (ms), .bool xb, .int .u64 (l0 (xn)), .int .u64 (l1 (xn)), .int .u64 (l2 (xn)), .int .u64 (l3 (xn)), .int .i64 (xs)] [.int .i64 (r), .int .i64 (f), .int .i64 (k), .int .i64 (d), .int .i64 (er), .int .u64 (l0 (tt)), .int .u64 (l1 (tt)), .int .u64 (l2 (tt)), .int .u64 (l3 (tt)), .int .u64 (l4 (tt)), .bool true, .bool mb2, .int .u64 (l0 (mn2)), .int .u64 (l1 (mn2)), .int .u64 (l2 (mn2)), .int .u64 (l3 (mn2)), .int .i64 (ms2), .bool xb, .int .u64 (l0 (xn)), .int .u64 (l1 (xn)), .int .u64 (l2 (xn)), .int .u64 (l3 (xn)), .int .i64 (xs)] Q1 rfl rfl rfl rfl rfl sz26 rfl rfl rfl ?_
  intro w5 hS Qn
  replace Q1 := Qn
  clear Qn
  replace Q2 := hS.other _ _ ne_k1_k2.symm Q2
  replace Q3 := hS.other _ _ ne_k1_k3.symm Q3
  replace M := hS.mo _ N_k1 M
  clear hS
  refine w_nil ?_
  refine xn_then ?_
  refine w_seq ?_
  refine w_seq ?_
  refine w_reg ?_
  refine wl_un (fun v => Instr.fieldAt 42 v 6) (.tmp 2) (pt k1 0) (pt k1 10) (fun _ => rfl) rfl (by kernel_rfl) rfl ?_
  refine wl_load 4 (.tmp 23) (pt k1 10) (.bool true) rfl rfl (run_one Q1 4 10 rfl Try.underlying4 rfl) rfl ?_
  refine wl_un (fun v => Op.unary .not v) (.tmp 24) (.bool true) (.bool false) (fun _ => rfl) rfl (by kernel_rfl) rfl ?_
  refine wl_mv (.tmp 25) (.bool false) (fun _ => rfl) rfl rfl ?_
  refine wl_un (fun v => Instr.fieldAt 42 v 8) (.tmp 3) (pt k2 0) (pt k2 17) (fun _ => rfl) rfl (by kernel_rfl) rfl ?_
  refine wl_load 40 (.tmp 27) (pt k2 17) (.agg #[.bool xb2, .int .u64 (l0 (xn2)), .int .u64 (l1 (xn2)), .int .u64 (l2 (xn2)), .int .u64 (l3 (xn2)), .int .i64 (xs2)]) rfl rfl (run_row Q2 40 17 6 [.bool xb2, .int .u64 (l0 (xn2)), .int .u64 (l1 (xn2)), .int .u64 (l2 (xn2)), .int .u64 (l3 (xn2)), .int .i64 (xs2)] rfl Try.underlying40 rfl sz26) rfl ?_
  refine wl_un (fun v => Instr.fieldAt 42 v 8) (.tmp 2) (pt k1 0) (pt k1 17) (fun _ => rfl) rfl (by kernel_rfl) rfl ?_
  refine wl_load 40 (.tmp 29) (pt k1 17) (.agg #[.bool xb, .int .u64 (l0 (xn)), .int .u64 (l1 (xn)), .int .u64 (l2 (xn)), .int .u64 (l3 (xn)), .int .i64 (xs)]) rfl rfl (run_row Q1 40 17 6 [.bool xb, .int .u64 (l0 (xn)), .int .u64 (l1 (xn)), .int .u64 (l2 (xn)), .int .u64 (l3 (xn)), .int .i64 (xs)] rfl Try.underlying40 rfl sz26) rfl ?_
  refine wl_call 75 [(.tmp 28), (.tmp 30)] _ [.agg #[.bool xb2, .int .u64 (l0 (xn2)), .int .u64 (l1 (xn2)), .int .u64 (l2 (xn2)), .int .u64 (l3 (xn2)), .int .i64 (xs2)], .agg #[.bool xb, .int .u64 (l0 (xn)), .int .u64 (l1 (xn)), .int .u64 (l2 (xn)), .int .u64 (l3 (xn)), .int .i64 (xs)]] (.int .i64 (cmpv ⟨xb2, xn2, xs2⟩ ⟨xb, xn, xs⟩)) rfl rfl (fun _ _ => by kernel_rfl) (cmp_d ⟨xb2, xn2, xs2⟩ ⟨xb, xn, xs⟩ hx2 hx _) rfl ?_
  intro w6 hq
  replace Q1 := Q1.mo hq
  replace Q2 := Q2.mo hq
  replace Q3 := Q3.mo hq
  replace M := M.trans hq
  clear hq
  refine wl_bin (fun x y => do eqGuard .gtr 3 (.tmp 31) (.const (.int .i64 (0))) x y; binOp .gtr 3 x y) (.tmp 31) (.const (.int .i64 (0))) (.int .i64 (cmpv ⟨xb2, xn2, xs2⟩ ⟨xb, xn, xs⟩)) (.int .i64 (0)) (.bool false) (fun _ => rfl) rfl rfl (gtI q2 _ _ _) rfl ?_
  refine wl_pick (.tmp 26) (.const (.bool true)) (.tmp 32) false (.bool false) (fun _ => rfl) rfl rfl rfl ?_
  refine w_nil ?_
  refine xn_then ?_
  refine w_condF rfl ?_
  refine w_skip ?_
  refine xn_then ?_
  refine w_seq ?_
  refine w_reg ?_
  refine wl_un (fun v => Instr.fieldAt 42 v 6) (.tmp 2) (pt k1 0) (pt k1 10) (fun _ => rfl) rfl (by kernel_rfl) rfl ?_
  refine wl_st1 4 (.tmp 37) (.const (.bool true)) k1 10 (.bool true) [.int .i64 (r), .int .i64 (f), .int .i64 (k), .int .i64 (d), .int .i64 (er), .int .u64 (l0 (tt)), .int .u64 (l1 (tt)), .int .u64 (l2 (tt)), .int .u64 (l3 (tt)), .int .u64 (l4 (tt)), .bool true, .bool mb2, .int .u64 (l0 (mn2)), .int .u64 (l1 (mn2)), .int .u64 (l2 (mn2)), .int .u64 (l3 (mn2)), .int .i64 (ms2), .bool xb, .int .u64 (l0 (xn)), .int .u64 (l1 (xn)), .int .u64 (l2 (xn)), .int .u64 (l3 (xn)), .int .i64 (xs)] [.int .i64 (r), .int .i64 (f), .int .i64 (k), .int .i64 (d), .int .i64 (er), .int .u64 (l0 (tt)), .int .u64 (l1 (tt)), .int .u64 (l2 (tt)), .int .u64 (l3 (tt)), .int .u64 (l4 (tt)), .bool true, .bool mb2, .int .u64 (l0 (mn2)), .int .u64 (l1 (mn2)), .int .u64 (l2 (mn2)), .int .u64 (l3 (mn2)), .int .i64 (ms2), .bool xb, .int .u64 (l0 (xn)), .int .u64 (l1 (xn)), .int .u64 (l2 (xn)), .int .u64 (l3 (xn)), .int .i64 (xs)] Q1 rfl rfl rfl rfl rfl sz4 rfl rfl rfl rfl ?_
  intro w7 hS Qn
  replace Q1 := Qn
  clear Qn
  replace Q2 := hS.other _ _ ne_k1_k2.symm Q2
  replace Q3 := hS.other _ _ ne_k1_k3.symm Q3
  replace M := hS.mo _ N_k1 M
  clear hS
  refine w_nil ?_
  refine xn_then ?_
  refine w_seq ?_
  refine w_reg ?_
  refine wl_load 42 (.tmp 2) (pt k1 0) (.agg #[.int .i64 (r), .int .i64 (f), .int .i64 (k), .int .i64 (d), .int .i64 (er), .int .u64 (l0 (tt)), .int .u64 (l1 (tt)), .int .u64 (l2 (tt)), .int .u64 (l3 (tt)), .int .u64 (l4 (tt)), .bool true, .bool mb2, .int .u64 (l0 (mn2)), .int .u64 (l1 (mn2)), .int .u64 (l2 (mn2)), .int .u64 (l3 (mn2)), .int .i64 (ms2), .bool xb, .int .u64 (l0 (xn)), .int .u64 (l1 (xn)), .int .u64 (l2 (xn)), .int .u64 (l3 (xn)), .int .i64 (xs)]) rfl rfl (run_row Q1 42 0 23 [.int .i64 (r), .int .i64 (f), .int .i64 (k), .int .i64 (d), .int .i64 (er), .int .u64 (l0 (tt)), .int .u64 (l1 (tt)), .int .u64 (l2 (tt)), .int .u64 (l3 (tt)), .int .u64 (l4 (tt)), .bool true, .bool mb2, .int .u64 (l0 (mn2)), .int .u64 (l1 (mn2)), .int .u64 (l2 (mn2)), .int .u64 (l3 (mn2)), .int .i64 (ms2), .bool xb, .int .u64 (l0 (xn)), .int .u64 (l1 (xn)), .int .u64 (l2 (xn)), .int .u64 (l3 (xn)), .int .i64 (xs)] rfl Try.underlying42 rfl sz33) rfl ?_
  refine wl_st 42 (.tmp 4) (.tmp 38) k3 0 #[.int .i64 (r), .int .i64 (f), .int .i64 (k), .int .i64 (d), .int .i64 (er), .int .u64 (l0 (tt)), .int .u64 (l1 (tt)), .int .u64 (l2 (tt)), .int .u64 (l3 (tt)), .int .u64 (l4 (tt)), .bool true, .bool mb2, .int .u64 (l0 (mn2)), .int .u64 (l1 (mn2)), .int .u64 (l2 (mn2)), .int .u64 (l3 (mn2)), .int .i64 (ms2), .bool xb, .int .u64 (l0 (xn)), .int .u64 (l1 (xn)), .int .u64 (l2 (xn)), .int .u64 (l3 (xn)), .int .i64 (xs)] [.int .i64 0, .int .i64 0, .int .i64 0, .int .i64 0, .int .i64 0, .int .u64 0, .int .u64 0, .int .u64 0, .int .u64 0, .int .u64 0, .bool false, .bool false, .int .u64 0, .int .u64 0, .int .u64 0, .int .u64 0, .int .i64 0, .bool false, .int .u64 0, .int .u64 0, .int .u64 0, .int .u64 0, .int .i64 0] [.int .i64 (r), .int .i64 (f), .int .i64 (k), .int .i64 (d), .int .i64 (er), .int .u64 (l0 (tt)), .int .u64 (l1 (tt)), .int .u64 (l2 (tt)), .int .u64 (l3 (tt)), .int .u64 (l4 (tt)), .bool true, .bool mb2, .int .u64 (l0 (mn2)), .int .u64 (l1 (mn2)), .int .u64 (l2 (mn2)), .int .u64 (l3 (mn2)), .int .i64 (ms2), .bool xb, .int .u64 (l0 (xn)), .int .u64 (l1 (xn)), .int .u64 (l2 (xn)), .int .u64 (l3 (xn)), .int .i64 (xs)] Q3 rfl rfl rfl rfl rfl sz33 rfl rfl rfl ?_
  intro w8 hS Qn
  replace Q3 := Qn
  clear Qn
  replace Q1 := hS.other _ _ ne_k1_k3 Q1
  replace Q2 := hS.other _ _ ne_k2_k3 Q2
  replace M := hS.mo _ N_k3 M
  clear hS
  refine w_nil ?_
  refine xn_then ?_
  refine w_ret ?_
  exact w_ret1 _ (.agg #[.int .i64 (r), .int .i64 (f), .int .i64 (k), .int .i64 (d), .int .i64 (er), .int .u64 (l0 (tt)), .int .u64 (l1 (tt)), .int .u64 (l2 (tt)), .int .u64 (l3 (tt)), .int .u64 (l4 (tt)), .bool true, .bool mb2, .int .u64 (l0 (mn2)), .int .u64 (l1 (mn2)), .int .u64 (l2 (mn2)), .int .u64 (l3 (mn2)), .int .i64 (ms2), .bool xb, .int .u64 (l0 (xn)), .int .u64 (l1 (xn)), .int .u64 (l2 (xn)), .int .u64 (l3 (xn)), .int .i64 (xs)]) rfl ⟨k3, rfl, (run_row Q3 42 0 23 [.int .i64 (r), .int .i64 (f), .int .i64 (k), .int .i64 (d), .int .i64 (er), .int .u64 (l0 (tt)), .int .u64 (l1 (tt)), .int .u64 (l2 (tt)), .int .u64 (l3 (tt)), .int .u64 (l4 (tt)), .bool true, .bool mb2, .int .u64 (l0 (mn2)), .int .u64 (l1 (mn2)), .int .u64 (l2 (mn2)), .int .u64 (l3 (mn2)), .int .i64 (ms2), .bool xb, .int .u64 (l0 (xn)), .int .u64 (l1 (xn)), .int .u64 (l2 (xn)), .int .u64 (l3 (xn)), .int .i64 (xs)] rfl Try.underlying42 rfl sz33)⟩ ⟨rfl, M⟩
theorem str_dft (r f k d er tt : Int) (mb : Bool) (mn ms : Int) (xb : Bool) (xn xs : Int) (r2 f2 k2 d2 e2 tt2 : Int) (mb2 : Bool) (mn2 ms2 : Int) (xb2 : Bool) (xn2 xs2 : Int) (hm : D3.ok ⟨mb, mn, ms⟩) (hx : D3.ok ⟨xb, xn, xs⟩) (hm2 : D3.ok ⟨mb2, mn2, ms2⟩) (hx2 : D3.ok ⟨xb2, xn2, xs2⟩) (q1 : decide (cmpv ⟨mb2, mn2, ms2⟩ ⟨mb, mn, ms⟩ < 0) = false) (q2 : decide (0 < cmpv ⟨xb2, xn2, xs2⟩ ⟨xb, xn, xs⟩) = true) : Calls Try.prog 64 #[sm r (f) (k) (d) (er) (tt) true mb (mn) (ms) xb (xn) (xs), sm r2 (f2) (k2) (d2) (e2) (tt2) true mb2 (mn2) (ms2) xb2 (xn2) (xs2)] w fun e w' => e = .returned (sm r (f) (k) (d) (er) (tt) true mb (mn) (ms) xb2 (xn2) (xs2)) ∧ Mo w w' := by
  refine w_enter 39 Try.func64 Try.ntmps64 rfl rfl ?_
  have M : Mo w w := Mo.refl _
  refine w_seq ?_
  refine w_reg ?_
  refine wl_box 42 (.tmp 0) (.agg #[.int .i64 (r), .int .i64 (f), .int .i64 (k), .int .i64 (d), .int .i64 (er), .int .u64 (l0 (tt)), .int .u64 (l1 (tt)), .int .u64 (l2 (tt)), .int .u64 (l3 (tt)), .int .u64 (l4 (tt)), .bool true, .bool mb, .int .u64 (l0 (mn)), .int .u64 (l1 (mn)), .int .u64 (l2 (mn)), .int .u64 (l3 (mn)), .int .i64 (ms), .bool xb, .int .u64 (l0 (xn)), .int .u64 (l1 (xn)), .int .u64 (l2 (xn)), .int .u64 (l3 (xn)), .int .i64 (xs)]) (#[.int .i64 (r), .int .i64 (f), .int .i64 (k), .int .i64 (d), .int .i64 (er), .int .u64 (l0 (tt)), .int .u64 (l1 (tt)), .int .u64 (l2 (tt)), .int .u64 (l3 (tt)), .int .u64 (l4 (tt)), .bool true, .bool mb, .int .u64 (l0 (mn)), .int .u64 (l1 (mn)), .int .u64 (l2 (mn)), .int .u64 (l3 (mn)), .int .i64 (ms), .bool xb, .int .u64 (l0 (xn)), .int .u64 (l1 (xn)), .int .u64 (l2 (xn)), .int .u64 (l3 (xn)), .int .i64 (xs)]) rfl rfl (fun _ => by kernel_rfl) rfl ?_
  intro k1 w1 hk hz hq Q1
  have N_k1 : w.heap.size ≤ k1 := by have := M.size; omega
  replace M := M.trans hq
  clear hk hz hq
  refine wl_box 42 (.tmp 1) (.agg #[.int .i64 (r2), .int .i64 (f2), .int .i64 (k2), .int .i64 (d2), .int .i64 (e2), .int .u64 (l0 (tt2)), .int .u64 (l1 (tt2)), .int .u64 (l2 (tt2)), .int .u64 (l3 (tt2)), .int .u64 (l4 (tt2)), .bool true, .bool mb2, .int .u64 (l0 (mn2)), .int .u64 (l1 (mn2)), .int .u64 (l2 (mn2)), .int .u64 (l3 (mn2)), .int .i64 (ms2), .bool xb2, .int .u64 (l0 (xn2)), .int .u64 (l1 (xn2)), .int .u64 (l2 (xn2)), .int .u64 (l3 (xn2)), .int .i64 (xs2)]) (#[.int .i64 (r2), .int .i64 (f2), .int .i64 (k2), .int .i64 (d2), .int .i64 (e2), .int .u64 (l0 (tt2)), .int .u64 (l1 (tt2)), .int .u64 (l2 (tt2)), .int .u64 (l3 (tt2)), .int .u64 (l4 (tt2)), .bool true, .bool mb2, .int .u64 (l0 (mn2)), .int .u64 (l1 (mn2)), .int .u64 (l2 (mn2)), .int .u64 (l3 (mn2)), .int .i64 (ms2), .bool xb2, .int .u64 (l0 (xn2)), .int .u64 (l1 (xn2)), .int .u64 (l2 (xn2)), .int .u64 (l3 (xn2)), .int .i64 (xs2)]) rfl rfl (fun _ => by kernel_rfl) rfl ?_
  intro k2 w2 hk hz hq Q2
  have ne_k1_k2 : k1 ≠ k2 := by have := Q1.lt; omega
  have N_k2 : w.heap.size ≤ k2 := by have := M.size; omega
  replace Q1 := Q1.mo hq
  replace M := M.trans hq
  clear hk hz hq
  refine wl_alloc 42 #[.int .i64 0, .int .i64 0, .int .i64 0, .int .i64 0, .int .i64 0, .int .u64 0, .int .u64 0, .int .u64 0, .int .u64 0, .int .u64 0, .bool false, .bool false, .int .u64 0, .int .u64 0, .int .u64 0, .int .u64 0, .int .i64 0, .bool false, .int .u64 0, .int .u64 0, .int .u64 0, .int .u64 0, .int .i64 0] rfl (fun _ => by kernel_rfl) rfl ?_
  intro k3 w3 hk hz hq Q3
  have ne_k1_k3 : k1 ≠ k3 := by have := Q1.lt; omega
  have ne_k2_k3 : k2 ≠ k3 := by have := Q2.lt; omega
  have N_k3 : w.heap.size ≤ k3 := by have := M.size; omega
  replace Q1 := Q1.mo hq
  replace Q2 := Q2.mo hq
  replace M := M.trans hq
  clear hk hz hq
  refine w_nil ?_
  refine xn_then ?_
  refine w_seq ?_
  refine w_seq ?_
  refine w_reg ?_
  refine wl_un (fun v => Instr.fieldAt 42 v 6) (.tmp 3) (pt k2 0) (pt k2 10) (fun _ => rfl) rfl (by kernel_rfl) rfl ?_
  refine wl_load 4 (.tmp 5) (pt k2 10) (.bool true) rfl rfl (run_one Q2 4 10 rfl Try.underlying4 rfl) rfl ?_
  refine wl_un (fun v => Op.unary .not v) (.tmp 6) (.bool true) (.bool false) (fun _ => rfl) rfl (by kernel_rfl) rfl ?_
  refine w_nil ?_
  refine xn_then ?_
  refine w_condF rfl ?_
  refine w_skip ?_
  refine xn_then ?_
  refine w_seq ?_
  refine w_seq ?_
  refine w_reg ?_
  refine wl_un (fun v => Instr.fieldAt 42 v 6) (.tmp 2) (pt k1 0) (pt k1 10) (fun _ => rfl) rfl (by kernel_rfl) rfl ?_
  refine wl_load 4 (.tmp 9) (pt k1 10) (.bool true) rfl rfl (run_one Q1 4 10 rfl Try.underlying4 rfl) rfl ?_
  refine wl_un (fun v => Op.unary .not v) (.tmp 10) (.bool true) (.bool false) (fun _ => rfl) rfl (by kernel_rfl) rfl ?_
  refine wl_mv (.tmp 11) (.bool false) (fun _ => rfl) rfl rfl ?_
  refine wl_un (fun v => Instr.fieldAt 42 v 7) (.tmp 3) (pt k2 0) (pt k2 11) (fun _ => rfl) rfl (by kernel_rfl) rfl ?_
  refine wl_load 40 (.tmp 13) (pt k2 11) (.agg #[.bool mb2, .int .u64 (l0 (mn2)), .int .u64 (l1 (mn2)), .int .u64 (l2 (mn2)), .int .u64 (l3 (mn2)), .int .i64 (ms2)]) rfl rfl (run_row Q2 40 11 6 [.bool mb2, .int .u64 (l0 (mn2)), .int .u64 (l1 (mn2)), .int .u64 (l2 (mn2)), .int .u64 (l3 (mn2)), .int .i64 (ms2)] rfl Try.underlying40 rfl sz26) rfl ?_
  refine wl_un (fun v => Instr.fieldAt 42 v 7) (.tmp 2) (pt k1 0) (pt k1 11) (fun _ => rfl) rfl (by kernel_rfl) rfl ?_
  refine wl_load 40 (.tmp 15) (pt k1 11) (.agg #[.bool mb, .int .u64 (l0 (mn)), .int .u64 (l1 (mn)), .int .u64 (l2 (mn)), .int .u64 (l3 (mn)), .int .i64 (ms)]) rfl rfl (run_row Q1 40 11 6 [.bool mb, .int .u64 (l0 (mn)), .int .u64 (l1 (mn)), .int .u64 (l2 (mn)), .int .u64 (l3 (mn)), .int .i64 (ms)] rfl Try.underlying40 rfl sz26) rfl ?_
  refine wl_call 75 [(.tmp 14), (.tmp 16)] _ [.agg #[.bool mb2, .int .u64 (l0 (mn2)), .int .u64 (l1 (mn2)), .int .u64 (l2 (mn2)), .int .u64 (l3 (mn2)), .int .i64 (ms2)], .agg #[.bool mb, .int .u64 (l0 (mn)), .int .u64 (l1 (mn)), .int .u64 (l2 (mn)), .int .u64 (l3 (mn)), .int .i64 (ms)]] (.int .i64 (cmpv ⟨mb2, mn2, ms2⟩ ⟨mb, mn, ms⟩)) rfl rfl (fun _ _ => by kernel_rfl) (cmp_d ⟨mb2, mn2, ms2⟩ ⟨mb, mn, ms⟩ hm2 hm _) rfl ?_
  intro w4 hq
  replace Q1 := Q1.mo hq
  replace Q2 := Q2.mo hq
  replace Q3 := Q3.mo hq
  replace M := M.trans hq
  clear hq
  refine wl_bin (fun x y => do eqGuard .lss 3 (.tmp 17) (.const (.int .i64 (0))) x y; binOp .lss 3 x y) (.tmp 17) (.const (.int .i64 (0))) (.int .i64 (cmpv ⟨mb2, mn2, ms2⟩ ⟨mb, mn, ms⟩)) (.int .i64 (0)) (.bool false) (fun _ => rfl) rfl rfl (ltI q1 _ _ _) rfl ?_
  refine wl_pick (.tmp 12) (.const (.bool true)) (.tmp 18) false (.bool false) (fun _ => rfl) rfl rfl rfl ?_
  refine w_nil ?_
  refine xn_then ?_
  refine w_condF rfl ?_
  refine w_skip ?_
  refine xn_then ?_
  refine w_seq ?_
  refine w_seq ?_
  refine w_reg ?_
  refine wl_un (fun v => Instr.fieldAt 42 v 6) (.tmp 2) (pt k1 0) (pt k1 10) (fun _ => rfl) rfl (by kernel_rfl) rfl ?_
  refine wl_load 4 (.tmp 23) (pt k1 10) (.bool true) rfl rfl (run_one Q1 4 10 rfl Try.underlying4 rfl) rfl ?_
  refine wl_un (fun v => Op.unary .not v) (.tmp 24) (.bool true) (.bool false) (fun _ => rfl) rfl (by kernel_rfl) rfl ?_
  refine wl_mv (.tmp 25) (.bool false) (fun _ => rfl) rfl rfl ?_
  refine wl_un (fun v => Instr.fieldAt 42 v 8) (.tmp 3) (pt k2 0) (pt k2 17) (fun _ => rfl) rfl (by kernel_rfl) rfl ?_
  refine wl_load 40 (.tmp 27) (pt k2 17) (.agg #[.bool xb2, .int .u64 (l0 (xn2)), .int .u64 (l1 (xn2)), .int .u64 (l2 (xn2)), .int .u64 (l3 (xn2)), .int .i64 (xs2)]) rfl rfl (run_row Q2 40 17 6 [.bool xb2, .int .u64 (l0 (xn2)), .int .u64 (l1 (xn2)), .int .u64 (l2 (xn2)), .int .u64 (l3 (xn2)), .int .i64 (xs2)] rfl Try.underlying40 rfl sz26) rfl ?_
  refine wl_un (fun v => Instr.fieldAt 42 v 8) (.tmp 2) (pt k1 0) (pt k1 17) (fun _ => rfl) rfl (by kernel_rfl) rfl ?_
  refine wl_load 40 (.tmp 29) (pt k1 17) (.agg #[.bool xb, .int .u64 (l0 (xn)), .int .u64 (l1 (xn)), .int .u64 (l2 (xn)), .int .u64 (l3 (xn)), .int .i64 (xs)]) rfl rfl (run_row Q1 40 17 6 [.bool xb, .int .u64 (l0 (xn)), .int .u64 (l1 (xn)), .int .u64 (l2 (xn)), .int .u64 (l3 (xn)), .int .i64 (xs)] rfl Try.underlying40 rfl sz26) rfl ?_
  refine wl_call 75 [(.tmp 28), (.tmp 30)] _ [.agg #[.bool xb2, .int .u64 (l0 (xn2)), .int .u64 (l1 (xn2)), .int .u64 (l2 (xn2)), .int .u64 (l3 (xn2)), .int .i64 (xs2)], .agg #[.bool xb, .int .u64 (l0 (xn)), .int .u64 (l1 (xn)), .int .u64 (l2 (xn)), .int .u64 (l3 (xn)), .int .i64 (xs)]] (.int .i64 (cmpv ⟨xb2, xn2, xs2⟩ ⟨xb, xn, xs⟩)) rfl rfl (fun _ _ => by kernel_rfl) (cmp_d ⟨xb2, xn2, xs2⟩ ⟨xb, xn, xs⟩ hx2 hx _) rfl ?_
  intro w5 hq
  replace Q1 := Q1.mo hq
  replace Q2 := Q2.mo hq
  replace Q3 := Q3.mo hq
  replace M := M.trans hq
  clear hq
  refine wl_bin (fun x y => do eqGuard .gtr 3 (.tmp 31) (.const (.int .i64 (0))) x y; binOp .gtr 3 x y) (.tmp 31) (.const (.int .i64 (0))) (.int .i64 (cmpv ⟨xb2, xn2, xs2⟩ ⟨xb, xn, xs⟩)) (.int .i64 (0)) (.bool true) (fun _ => rfl) rfl rfl (gtI q2 _ _ _) rfl ?_
  refine wl_pick (.tmp 26) (.const (.bool true)) (.tmp 32) false (.bool true) (fun _ => rfl) rfl rfl rfl ?_
  refine w_nil ?_
  refine xn_then ?_
  refine w_condT rfl ?_
  refine w_reg ?_
  refine wl_un (fun v => Instr.fieldAt 42 v 8) (.tmp 3) (pt k2 0) (pt k2 17) (fun _ => rfl) rfl (by kernel_rfl) rfl ?_
  refine wl_load 40 (.tmp 34) (pt k2 17) (.agg #[.bool xb2, .int .u64 (l0 (xn2)), .int .u64 (l1 (xn2)), .int .u64 (l2 (xn2)), .int .u64 (l3 (xn2)), .int .i64 (xs2)]) rfl rfl (run_row Q2 40 17 6 [.bool xb2, .int .u64 (l0 (xn2)), .int .u64 (l1 (xn2)), .int .u64 (l2 (xn2)), .int .u64 (l3 (xn2)), .int .i64 (xs2)] rfl Try.underlying40 rfl sz26) rfl ?_
  refine wl_un (fun v => Instr.fieldAt 42 v 8) (.tmp 2) (pt k1 0) (pt k1 17) (fun _ => rfl) rfl (by kernel_rfl) rfl ?_
  refine wl_st 40 (.tmp 36) (.tmp 35) k1 17 #[.bool xb2, .int .u64 (l0 (xn2)), .int .u64 (l1 (xn2)), .int .u64 (l2 (xn2)), .int .u64 (l3 (xn2)), .int .i64 (xs2)] [.int .i64 (r), .int .i64 (f), .int .i64 (k), .int .i64 (d), .int .i64 (er), .int .u64 (l0 (tt)), .int .u64 (l1 (tt)), .int .u64 (l2 (tt)), .int .u64 (l3 (tt)), .int .u64 (l4 (tt)), .bool true, .bool mb, .int .u64 (l0 (mn)), .int .u64 (l1 (mn)), .int .u64 (l2 (mn)), .int .u64 (l3 (mn)), .int .i64 (ms), .bool xb, .int .u64 (l0 (xn)), .int .u64 (l1 (xn)), .int .u64 (l2 (xn)), .int .u64 (l3 (xn)), .int .i64 (xs)] [.int .i64 (r), .int .i64 (f), .int .i64 (k), .int .i64 (d), .int .i64 (er), .int .u64 (l0 (tt)), .int .u64 (l1 (tt)), .int .u64 (l2 (tt)), .int .u64 (l3 (tt)), .int .u64 (l4 (tt)), .bool true, .bool mb, .int .u64 (l0 (mn)), .int .u64 (l1 (mn)), .int .u64 (l2 (mn)), .int .u64 (l3 (mn)), .int .i64 (ms), .bool xb2, .int .u64 (l0 (xn2)), .int .u64 (l1 (xn2)), .int .u64 (l2 (xn2)), .int .u64 (l3 (xn2)), .int .i64 (xs2)] Q1 rfl rfl rfl rfl rfl sz26 rfl rfl rfl ?_
  intro w6 hS Qn
  replace Q1 := Qn
  clear Qn
  replace Q2 := hS.other _ _ ne_k1_k2.symm Q2
  replace Q3 := hS.other _ _ ne_k1_k3.symm Q3
  replace M := hS.mo _ N_k1 M
  clear hS
  refine w_nil ?_
  refine xn_then ?_
  refine w_seq ?_
  refine w_reg ?_
  refine wl_un (fun v => Instr.fieldAt 42 v 6) (.tmp 2) (pt k1 0) (pt k1 10) (fun _ => rfl) rfl (by kernel_rfl) rfl ?_
  refine wl_st1 4 (.tmp 37) (.const (.bool true)) k1 10 (.bool true) [.int .i64 (r), .int .i64 (f), .int .i64 (k), .int .i64 (d), .int .i64 (er), .int .u64 (l0 (tt)), .int .u64 (l1 (tt)), .int .u64 (l2 (tt)), .int .u64 (l3 (tt)), .int .u64 (l4 (tt)), .bool true, .bool mb, .int .u64 (l0 (mn)), .int .u64 (l1 (mn)), .int .u64 (l2 (mn)), .int .u64 (l3 (mn)), .int .i64 (ms), .bool xb2, .int .u64 (l0 (xn2)), .int .u64 (l1 (xn2)), .int .u64 (l2 (xn2)), .int .u64 (l3 (xn2)), .int .i64 (xs2)] [.int .i64 (r), .int .i64 (f), .int .i64 (k), .int .i64 (d), .int .i64 (er), .int .u64 (l0 (tt)), .int .u64 (l1 (tt)), .int .u64 (l2 (tt)), .int .u64 (l3 (tt)), .int .u64 (l4 (tt)), .bool true, .bool mb, .int .u64 (l0 (mn)), .int .u64 (l1 (mn)), .int .u64 (l2 (mn)), .int .u64 (l3 (mn)), .int .i64 (ms), .bool xb2, .int .u64 (l0 (xn2)), .int .u64 (l1 (xn2)), .int .u64 (l2 (xn2)), .int .u64 (l3 (xn2)), .int .i64 (xs2)] Q1 rfl rfl rfl rfl rfl sz4 rfl rfl rfl rfl ?_
  intro w7 hS Qn
  replace Q1 := Qn
  clear Qn
  replace Q2 := hS.other _ _ ne_k1_k2.symm Q2
  replace Q3 := hS.other _ _ ne_k1_k3.symm Q3
  replace M := hS.mo _ N_k1 M
  clear hS
  refine w_nil ?_
  refine xn_then ?_
  refine w_seq ?_
  refine w_reg ?_
  refine wl_load 42 (.tmp 2) (pt k1 0) (.agg #[.int .i64 (r), .int .i64 (f), .int .i64 (k), .int .i64 (d), .int .i64 (er), .int .u64 (l0 (tt)), .int .u64 (l1 (tt)), .int .u64 (l2 (tt)), .int .u64 (l3 (tt)), .int .u64 (l4 (tt)), .bool true, .bool mb, .int .u64 (l0 (mn)), .int .u64 (l1 (mn)), .int .u64 (l2 (mn)), .int .u64 (l3 (mn)), .int .i64 (ms), .bool xb2, .int .u64 (l0 (xn2)), .int .u64 (l1 (xn2)), .int .u64 (l2 (xn2)), .int .u64 (l3 (xn2)), .int .i64 (xs2)]) rfl rfl (run_row Q1 42 0 23 [.int .i64 (r), .int .i64 (f), .int .i64 (k), .int .i64 (d), .int .i64 (er), .int .u64 (l0 (tt)), .int .u64 (l1 (tt)), .int .u64 (l2 (tt)), .int .u64 (l3 (tt)), .int .u64 (l4 (tt)), .bool true, .bool mb, .int .u64 (l0 (mn)), .int .u64 (l1 (mn)), .int .u64 (l2 (mn)), .int .u64 (l3 (mn)), .int .i64 (ms), .bool xb2, .int .u64 (l0 (xn2)), .int .u64 (l1 (xn2)), .int .u64 (l2 (xn2)), .int .u64 (l3 (xn2)), .int .i64 (xs2)] rfl Try.underlying42 rfl sz33) rfl ?_
  refine wl_st 42 (.tmp 4) (.tmp 38) k3 0 #[.int .i64 (r), .int .i64 (f), .int .i64 (k), .int .i64 (d), .int .i64 (er), .int .u64 (l0 (tt)), .int .u64 (l1 (tt)), .int .u64 (l2 (tt)), .int .u64 (l3 (tt)), .int .u64 (l4 (tt)), .bool true, .bool mb, .int .u64 (l0 (mn)), .int .u64 (l1 (mn)), .int .u64 (l2 (mn)), .int .u64 (l3 (mn)), .int .i64 (ms), .bool xb2, .int .u64 (l0 (xn2)), .int .u64 (l1 (xn2)), .int .u64 (l2 (xn2)), .int .u64 (l3 (xn2)), .int .i64 (xs2)] [.int .i64 0, .int .i64 0, .int .i64 0, .int .i64 0, .int .i64 0, .int .u64 0, .int .u64 0, .int .u64 0, .int .u64 0, .int .u64 0, .bool false, .bool false, .int .u64 0, .int .u64 0, .int .u64 0, .int .u64 0, .int .i64 0, .bool false, .int .u64 0, .int .u64 0, .int .u64 0, .int .u64 0, .int .i64 0] [.int .i64 (r), .int .i64 (f), .int .i64 (k), .int .i64 (d), .int .i64 (er), .int .u64 (l0 (tt)), .int .u64 (l1 (tt)), .int .u64 (l2 (tt)), .int .u64 (l3 (tt)), .int .u64 (l4 (tt)), .bool true, .bool mb, .int .u64 (l0 (mn)), .int .u64 (l1 (mn)), .int .u64 (l2 (mn)), .int .u64 (l3 (mn)), .int .i64 (ms), .bool xb2, .int .u64 (l0 (xn2)), .int .u64 (l1 (xn2)), .int .u64 (l2 (xn2)), .int .u64 (l3 (xn2)), .int .i64 (xs2)] Q3 rfl rfl rfl rfl rfl sz33 rfl rfl rfl ?_
  intro w8 hS Qn
  replace Q3 := Qn
  clear Qn
  replace Q1 := hS.other _ _ ne_k1_k3 Q1
  replace Q2 := hS.other _ _ ne_k2_k3 Q2
  replace M := hS.mo _ N_k3 M
  clear hS
  refine w_nil ?_
  refine xn_then ?_
  refine w_ret ?_
  exact w_ret1 _ (.agg #[.int .i64 (r), .int .i64 (f), .int .i64 (k), .int .i64 (d), .int .i64 (er), .int .u64 (l0 (tt)), .int .u64 (l1 (tt)), .int .u64 (l2 (tt)), .int .u64 (l3 (tt)), .int .u64 (l4 (tt)), .bool true, .bool mb, .int .u64 (l0 (mn)), .int .u64 (l1 (mn)), .int .u64 (l2 (mn)), .int .u64 (l3 (mn)), .int .i64 (ms), .bool xb2, .int .u64 (l0 (xn2)), .int .u64 (l1 (xn2)), .int .u64 (l2 (xn2)), .int .u64 (l3 (xn2)), .int .i64 (xs2)]) rfl ⟨k3, rfl, (run_row Q3 42 0 23 [.int .i64 (r), .int .i64 (f), .int .i64 (k), .int .i64 (d), .int .i64 (er), .int .u64 (l0 (tt)), .int .u64 (l1 (tt)), .int .u64 (l2 (tt)), .int .u64 (l3 (tt)), .int .u64 (l4 (tt)), .bool true, .bool mb, .int .u64 (l0 (mn)), .int .u64 (l1 (mn)), .int .u64 (l2 (mn)), .int .u64 (l3 (mn)), .int .i64 (ms), .bool xb2, .int .u64 (l0 (xn2)), .int .u64 (l1 (xn2)), .int .u64 (l2 (xn2)), .int .u64 (l3 (xn2)), .int .i64 (xs2)] rfl Try.underlying42 rfl sz33)⟩ ⟨rfl, M⟩
theorem str_dff (r f k d er tt : Int) (mb : Bool) (mn ms : Int) (xb : Bool) (xn xs : Int) (r2 f2 k2 d2 e2 tt2 : Int) (mb2 : Bool) (mn2 ms2 : Int) (xb2 : Bool) (xn2 xs2 : Int) (hm : D3.ok ⟨mb, mn, ms⟩) (hx : D3.ok ⟨xb, xn, xs⟩) (hm2 : D3.ok ⟨mb2, mn2, ms2⟩) (hx2 : D3.ok ⟨xb2, xn2, xs2⟩) (q1 : decide (cmpv ⟨mb2, mn2, ms2⟩ ⟨mb, mn, ms⟩ < 0) = false) (q2 : decide (0 < cmpv ⟨xb2, xn2, xs2⟩ ⟨xb, xn, xs⟩) = false) : Calls Try.prog 64 #[sm r (f) (k) (d) (er) (tt) true mb (mn) (ms) xb (xn) (xs), sm r2 (f2) (k2) (d2) (e2) (tt2) true mb2 (mn2) (ms2) xb2 (xn2) (xs2)] w fun e w' => e = .returned (sm r (f) (k) (d) (er) (tt) true mb (mn) (ms) xb (xn) (xs)) ∧ Mo w w' := by
  refine w_enter 39 Try.func64 Try.ntmps64 rfl rfl ?_
  have M : Mo w w := Mo.refl _
  refine w_seq ?_
  refine w_reg ?_
  refine wl_box 42 (.tmp 0) (.agg #[.int .i64 (r), .int .i64 (f), .int .i64 (k), .int .i64 (d), .int .i64 (er), .int .u64 (l0 (tt)), .int .u64 (l1 (tt)), .int .u64 (l2 (tt)), .int .u64 (l3 (tt)), .int .u64 (l4 (tt)), .bool true, .bool mb, .int .u64 (l0 (mn)), .int .u64 (l1 (mn)), .int .u64 (l2 (mn)), .int .u64 (l3 (mn)), .int .i64 (ms), .bool xb, .int .u64 (l0 (xn)), .int .u64 (l1 (xn)), .int .u64 (l2 (xn)), .int .u64 (l3 (xn)), .int .i64 (xs)]) (#[.int .i64 (r), .int .i64 (f), .int .i64 (k), .int .i64 (d), .int .i64 (er), .int .u64 (l0 (tt)), .int .u64 (l1 (tt)), .int .u64 (l2 (tt)), .int .u64 (l3 (tt)), .int .u64 (l4 (tt)), .bool true, .bool mb, .int .u64 (l0 (mn)), .int .u64 (l1 (mn)), .int .u64 (l2 (mn)), .int .u64 (l3 (mn)), .int .i64 (ms), .bool xb, .int .u64 (l0 (xn)), .int .u64 (l1 (xn)), .int .u64 (l2 (xn)), .int .u64 (l3 (xn)), .int .i64 (xs)]) rfl rfl (fun _ => by kernel_rfl) rfl ?_
  intro k1 w1 hk hz hq Q1
  have N_k1 : w.heap.size ≤ k1 := by have := M.size; omega
  replace M := M.trans hq
  clear hk hz hq
  refine wl_box 42 (.tmp 1) (.agg #[.int .i64 (r2), .int .i64 (f2), .int .i64 (k2), .int .i64 (d2), .int .i64 (e2), .int .u64 (l0 (tt2)), .int .u64 (l1 (tt2)), .int .u64 (l2 (tt2)), .int .u64 (l3 (tt2)), .int .u64 (l4 (tt2)), .bool true, .bool mb2, .int .u64 (l0 (mn2)), .int .u64 (l1 (mn2)), .int .u64 (l2 (mn2)), .int .u64 (l3 (mn2)), .int .i64 (ms2), .bool xb2, .int .u64 (l0 (xn2)), .int .u64 (l1 (xn2)), .int .u64 (l2 (xn2)), .int .u64 (l3 (xn2)), .int .i64 (xs2)]) (#[.int .i64 (r2), .int .i64 (f2), .int .i64 (k2), .int .i64 (d2), .int .i64 (e2), .int .u64 (l0 (tt2)), .int .u64 (l1 (tt2)), .int .u64 (l2 (tt2)), .int .u64 (l3 (tt2)), .int .u64 (l4 (tt2)), .bool true, .bool mb2, .int .u64 (l0 (mn2)), .int .u64 (l1 (mn2)), .int .u64 (l2 (mn2)), .int .u64 (l3 (mn2)), .int .i64 (ms2), .bool xb2, .int .u64 (l0 (xn2)), .int .u64 (l1 (xn2)), .int .u64 (l2 (xn2)), .int .u64 (l3 (xn2)), .int .i64 (xs2)]) rfl rfl (fun _ => by kernel_rfl) rfl ?_
  intro k2 w2 hk hz hq Q2
  have ne_k1_k2 : k1 ≠ k2 := by have := Q1.lt; omega
  have N_k2 : w.heap.size ≤ k2 := by have := M.size; omega
  replace Q1 := Q1.mo hq
  replace M := M.trans hq
  clear hk hz hq
  refine wl_alloc 42 #[.int .i64 0, .int .i64 0, .int .i64 0, .int .i64 0, .int .i64 0, .int .u64 0, .int .u64 0, .int .u64 0, .int .u64 0, .int .u64 0, .bool false, .bool false, .int .u64 0, .int .u64 0, .int .u64 0, .int .u64 0, .int .i64 0, .bool false, .int .u64 0, .int .u64 0, .int .u64 0, .int .u64 0, .int .i64 0] rfl (fun _ => by kernel_rfl) rfl ?_
  intro k3 w3 hk hz hq Q3
  have ne_k1_k3 : k1 ≠ k3 := by have := Q1.lt; omega
  have ne_k2_k3 : k2 ≠ k3 := by have := Q2.lt; omega
  have N_k3 : w.heap.size ≤ k3 := by have := M.size; omega
  replace Q1 := Q1.mo hq
  replace Q2 := Q2.mo hq
  replace M := M.trans hq
  clear hk hz hq
  refine w_nil ?_
  refine xn_then ?_
  refine w_seq ?_
  refine w_seq ?_
  refine w_reg ?_
  refine wl_un (fun v => Instr.fieldAt 42 v 6) (.tmp 3) (pt k2 0) (pt k2 10) (fun _ => rfl) rfl (by kernel_rfl) rfl ?_
  refine wl_load 4 (.tmp 5) (pt k2 10) (.bool true) rfl rfl (run_one Q2 4 10 rfl Try.underlying4 rfl) rfl ?_
  refine wl_un (fun v => Op.unary .not v) (.tmp 6) (.bool true) (.bool false) (fun _ => rfl) rfl (by kernel_rfl) rfl ?_
  refine w_nil ?_
  refine xn_then ?_
  refine w_condF rfl ?_
  refine w_skip ?_
  refine xn_then ?_
  refine w_seq ?_
  refine w_seq ?_
  refine w_reg ?_
  refine wl_un (fun v => Instr.fieldAt 42 v 6) (.tmp 2) (pt k1 0) (pt k1 10) (fun _ => rfl) rfl (by kernel_rfl) rfl ?_
  refine wl_load 4 (.tmp 9) (pt k1 10) (.bool true) rfl rfl (run_one Q1 4 10 rfl Try.underlying4 rfl) rfl ?_
  refine wl_un (fun v => Op.unary .not v) (.tmp 10) (.bool true) (.bool false) (fun _ => rfl) rfl (by kernel_rfl) rfl ?_
  refine wl_mv (.tmp 11) (.bool false) (fun _ => rfl) rfl rfl ?_
  refine wl_un (fun v => Instr.fieldAt 42 v 7) (.tmp 3) (pt k2 0) (pt k2 11) (fun _ => rfl) rfl (by kernel_rfl) rfl ?_
  refine wl_load 40 (.tmp 13) (pt k2 11) (.agg #[.bool mb2, .int .u64 (l0 (mn2)), .int .u64 (l1 (mn2)), .int .u64 (l2 (mn2)), .int .u64 (l3 (mn2)), .int .i64 (ms2)]) rfl rfl (run_row Q2 40 11 6 [.bool mb2, .int .u64 (l0 (mn2)), .int .u64 (l1 (mn2)), .int .u64 (l2 (mn2)), .int .u64 (l3 (mn2)), .int .i64 (ms2)] rfl Try.underlying40 rfl sz26) rfl ?_
  refine wl_un (fun v => Instr.fieldAt 42 v 7) (.tmp 2) (pt k1 0) (pt k1 11) (fun _ => rfl) rfl (by kernel_rfl) rfl ?_
  refine wl_load 40 (.tmp 15) (pt k1 11) (.agg #[.bool mb, .int .u64 (l0 (mn)), .int .u64 (l1 (mn)), .int .u64 (l2 (mn)), .int .u64 (l3 (mn)), .int .i64 (ms)]) rfl rfl (run_row Q1 40 11 6 [.bool mb, .int .u64 (l0 (mn)), .int .u64 (l1 (mn)), .int .u64 (l2 (mn)), .int .u64 (l3 (mn)), .int .i64 (ms)] rfl Try.underlying40 rfl sz26) rfl ?_
  refine wl_call 75 [(.tmp 14), (.tmp 16)] _ [.agg #[.bool mb2, .int .u64 (l0 (mn2)), .int .u64 (l1 (mn2)), .int .u64 (l2 (mn2)), .int .u64 (l3 (mn2)), .int .i64 (ms2)], .agg #[.bool mb, .int .u64 (l0 (mn)), .int .u64 (l1 (mn)), .int .u64 (l2 (mn)), .int .u64 (l3 (mn)), .int .i64 (ms)]] (.int .i64 (cmpv ⟨mb2, mn2, ms2⟩ ⟨mb, mn, ms⟩)) rfl rfl (fun _ _ => by kernel_rfl) (cmp_d ⟨mb2, mn2, ms2⟩ ⟨mb, mn, ms⟩ hm2 hm _) rfl ?_
  intro w4 hq
  replace Q1 := Q1.mo hq
  replace Q2 := Q2.mo hq
  replace Q3 := Q3.mo hq
  replace M := M.trans hq
  clear hq
  refine wl_bin (fun x y => do eqGuard .lss 3 (.tmp 17) (.const (.int .i64 (0))) x y; binOp .lss 3 x y) (.tmp 17) (.const (.int .i64 (0))) (.int .i64 (cmpv ⟨mb2, mn2, ms2⟩ ⟨mb, mn, ms⟩)) (.int .i64 (0)) (.bool false) (fun _ => rfl) rfl rfl (ltI q1 _ _ _) rfl ?_
  refine wl_pick (.tmp 12) (.const (.bool true)) (.tmp 18) false (.bool false) (fun _ => rfl) rfl rfl rfl ?_
  refine w_nil ?_
  refine xn_then ?_
  refine w_condF rfl ?_
  refine w_skip ?_
  refine xn_then ?_
  refine w_seq ?_
  refine w_seq ?_
  refine w_reg ?_
  refine wl_un (fun v => Instr.fieldAt 42 v 6) (.tmp 2) (pt k1 0) (pt k1 10) (fun _ => rfl) rfl (by kernel_rfl) rfl ?_
  refine wl_load 4 (.tmp 23) (pt k1 10) (.bool true) rfl rfl (run_one Q1 4 10 rfl Try.underlying4 rfl) rfl ?_
  refine wl_un (fun v => Op.unary .not v) (.tmp 24) (.bool true) (.bool false) (fun _ => rfl) rfl (by kernel_rfl) rfl ?_
  refine wl_mv (.tmp 25) (.bool false) (fun _ => rfl) rfl rfl ?_
  refine wl_un (fun v => Instr.fieldAt 42 v 8) (.tmp 3) (pt k2 0) (pt k2 17) (fun _ => rfl) rfl (by kernel_rfl) rfl ?_
  refine wl_load 40 (.tmp 27) (pt k2 17) (.agg #[.bool xb2, .int .u64 (l0 (xn2)), .int .u64 (l1 (xn2)), .int .u64 (l2 (xn2)), .int .u64 (l3 (xn2)), .int .i64 (xs2)]) rfl rfl (run_row Q2 40 17 6 [.bool xb2, .int .u64 (l0 (xn2)), .int .u64 (l1 (xn2)), .int .u64 (l2 (xn2)), .int .u64 (l3 (xn2)), .int .i64 (xs2)] rfl Try.underlying40 rfl sz26) rfl ?_
  refine wl_un (fun v => Instr.fieldAt 42 v 8) (.tmp 2) (pt k1 0) (pt k1 17) (fun _ => rfl) rfl (by kernel_rfl) rfl ?_
  refine wl_load 40 (.tmp 29) (pt k1 17) (.agg #[.bool xb, .int .u64 (l0 (xn)), .int .u64 (l1 (xn)), .int .u64 (l2 (xn)), .int .u64 (l3 (xn)), .int .i64 (xs)]) rfl rfl (run_row Q1 40 17 6 [.bool xb, .int .u64 (l0 (xn)), .int .u64 (l1 (xn)), .int .u64 (l2 (xn)), .int .u64 (l3 (xn)), .int .i64 (xs)] rfl Try.underlying40 rfl sz26) rfl ?_
  refine wl_call 75 [(.tmp 28), (.tmp 30)] _ [.agg #[.bool xb2, .int .u64 (l0 (xn2)), .int .u64 (l1 (xn2)), .int .u64 (l2 (xn2)), .int .u64 (l3 (xn2)), .int .i64 (xs2)], .agg #[.bool xb, .int .u64 (l0 (xn)), .int .u64 (l1 (xn)), .int .u64 (l2 (xn)), .int .u64 (l3 (xn)), .int .i64 (xs)]] (.int .i64 (cmpv ⟨xb2, xn2, xs2⟩ ⟨xb, xn, xs⟩)) rfl rfl (fun _ _ => by kernel_rfl) (cmp_d ⟨xb2, xn2, xs2⟩ ⟨xb, xn, xs⟩ hx2 hx _) rfl ?_
  intro w5 hq
  replace Q1 := Q1.mo hq
  replace Q2 := Q2.mo hq
  replace Q3 := Q3.mo hq
  replace M := M.trans hq
  clear hq
  refine wl_bin (fun x y => do eqGuard .gtr 3 (.tmp 31) (.const (.int .i64 (0))) x y; binOp .gtr 3 x y) (.tmp 31) (.const (.int .i64 (0))) (.int .i64 (cmpv ⟨xb2, xn2, xs2⟩ ⟨xb, xn, xs⟩)) (.int .i64 (0)) (.bool false) (fun _ => rfl) rfl rfl (gtI q2 _ _ _) rfl ?_
  refine wl_pick (.tmp 26) (.const (.bool true)) (.tmp 32) false (.bool false) (fun _ => rfl) rfl rfl rfl ?_
  refine w_nil ?_
  refine xn_then ?_
  refine w_condF rfl ?_
  refine w_skip ?_
  refine xn_then ?_
  refine w_seq ?_
  refine w_reg ?_
  refine wl_un (fun v => Instr.fieldAt 42 v 6) (.tmp 2) (pt k1 0) (pt k1 10) (fun _ => rfl) rfl (by kernel_rfl) rfl ?_
  refine wl_st1 4 (.tmp 37) (.const (.bool true)) k1 10 (.bool true) [.int .i64 (r), .int .i64 (f), .int .i64 (k), .int .i64 (d), .int .i64 (er), .int .u64 (l0 (tt)), .int .u64 (l1 (tt)), .int .u64 (l2 (tt)), .int .u64 (l3 (tt)), .int .u64 (l4 (tt)), .bool true, .bool mb, .int .u64 (l0 (mn)), .int .u64 (l1 (mn)), .int .u64 (l2 (mn)), .int .u64 (l3 (mn)), .int .i64 (ms), .bool xb, .int .u64 (l0 (xn)), .int .u64 (l1 (xn)), .int .u64 (l2 (xn)), .int .u64 (l3 (xn)), .int .i64 (xs)] [.int .i64 (r), .int .i64 (f), .int .i64 (k), .int .i64 (d), .int .i64 (er), .int .u64 (l0 (tt)), .int .u64 (l1 (tt)), .int .u64 (l2 (tt)), .int .u64 (l3 (tt)), .int .u64 (l4 (tt)), .bool true, .bool mb, .int .u64 (l0 (mn)), .int .u64 (l1 (mn)), .int .u64 (l2 (mn)), .int .u64 (l3 (mn)), .int .i64 (ms), .bool xb, .int .u64 (l0 (xn)), .int .u64 (l1 (xn)), .int .u64 (l2 (xn)), .int .u64 (l3 (xn)), .int .i64 (xs)] Q1 rfl rfl rfl rfl rfl sz4 rfl rfl rfl rfl ?_
  intro w6 hS Qn
  replace Q1 := Qn
  clear Qn
  replace Q2 := hS.other _ _ ne_k1_k2.symm Q2
  replace Q3 := hS.other _ _ ne_k1_k3.symm Q3
  replace M := hS.mo _ N_k1 M
  clear hS
  refine w_nil ?_
  refine xn_then ?_
  refine w_seq ?_
  refine w_reg ?_
  refine wl_load 42 (.tmp 2) (pt k1 0) (.agg #[.int .i64 (r), .int .i64 (f), .int .i64 (k), .int .i64 (d), .int .i64 (er), .int .u64 (l0 (tt)), .int .u64 (l1 (tt)), .int .u64 (l2 (tt)), .int .u64 (l3 (tt)), .int .u64 (l4 (tt)), .bool true, .bool mb, .int .u64 (l0 (mn)), .int .u64 (l1 (mn)), .int .u64 (l2 (mn)), .int .u64 (l3 (mn)), .int .i64 (ms), .bool xb, .int .u64 (l0 (xn)), .int .u64 (l1 (xn)), .int .u64 (l2 (xn)), .int .u64 (l3 (xn)), .int .i64 (xs)]) rfl rfl (run_row Q1 42 0 23 [.int .i64 (r), .int .i64 (f), .int .i64 (k), .int .i64 (d), .int .i64 (er), .int .u64 (l0 (tt)), .int .u64 (l1 (tt)), .int .u64 (l2 (tt)), .int .u64 (l3 (tt)), .int .u64 (l4 (tt)), .bool true, .bool mb, .int .u64 (l0 (mn)), .int .u64 (l1 (mn)), .int .u64 (l2 (mn)), .int .u64 (l3 (mn)), .int .i64 (ms), .bool xb, .int .u64 (l0 (xn)), .int .u64 (l1 (xn)), .int .u64 (l2 (xn)), .int .u64 (l3 (xn)), .int .i64 (xs)] rfl Try.underlying42 rfl sz33) rfl ?_
  refine wl_st 42 (.tmp 4) (.tmp 38) k3 0 #[.int .i64 (r), .int .i64 (f), .int .i64 (k), .int .i64 (d), .int .i64 (er), .int .u64 (l0 (tt)), .int .u64 (l1 (tt)), .int .u64 (l2 (tt)), .int .u64 (l3 (tt)), .int .u64 (l4 (tt)), .bool true, .bool mb, .int .u64 (l0 (mn)), .int .u64 (l1 (mn)), .int .u64 (l2 (mn)), .int .u64 (l3 (mn)), .int .i64 (ms), .bool xb, .int .u64 (l0 (xn)), .int .u64 (l1 (xn)), .int .u64 (l2 (xn)), .int .u64 (l3 (xn)), .int .i64 (xs)] [.int .i64 0, .int .i64 0, .int .i64 0, .int .i64 0, .int .i64 0, .int .u64 0, .int .u64 0, .int .u64 0, .int .u64 0, .int .u64 0, .bool false, .bool false, .int .u64 0, .int .u64 0, .int .u64 0, .int .u64 0, .int .i64 0, .bool false, .int .u64 0, .int .u64 0, .int .u64 0, .int .u64 0, .int .i64 0] [.int .i64 (r), .int .i64 (f), .int .i64 (k), .int .i64 (d), .int .i64 (er), .int .u64 (l0 (tt)), .int .u64 (l1 (tt)), .int .u64 (l2 (tt)), .int .u64 (l3 (tt)), .int .u64 (l4 (tt)), .bool true, .bool mb, .int .u64 (l0 (mn)), .int .u64 (l1 (mn)), .int .u64 (l2 (mn)), .int .u64 (l3 (mn)), .int .i64 (ms), .bool xb, .int .u64 (l0 (xn)), .int .u64 (l1 (xn)), .int .u64 (l2 (xn)), .int .u64 (l3 (xn)), .int .i64 (xs)] Q3 rfl rfl rfl rfl rfl sz33 rfl rfl rfl ?_
  intro w7 hS Qn
  replace Q3 := Qn
  clear Qn
  replace Q1 := hS.other _ _ ne_k1_k3 Q1
  replace Q2 := hS.other _ _ ne_k2_k3 Q2
  replace M := hS.mo _ N_k3 M
  clear hS
  refine w_nil ?_
  refine xn_then ?_
  refine w_ret ?_
  exact w_ret1 _ (.agg #[.int .i64 (r), .int .i64 (f), .int .i64 (k), .int .i64 (d), .int .i64 (er), .int .u64 (l0 (tt)), .int .u64 (l1 (tt)), .int .u64 (l2 (tt)), .int .u64 (l3 (tt)), .int .u64 (l4 (tt)), .bool true, .bool mb, .int .u64 (l0 (mn)), .int .u64 (l1 (mn)), .int .u64 (l2 (mn)), .int .u64 (l3 (mn)), .int .i64 (ms), .bool xb, .int .u64 (l0 (xn)), .int .u64 (l1 (xn)), .int .u64 (l2 (xn)), .int .u64 (l3 (xn)), .int .i64 (xs)]) rfl ⟨k3, rfl, (run_row Q3 42 0 23 [.int .i64 (r), .int .i64 (f), .int .i64 (k), .int .i64 (d), .int .i64 (er), .int .u64 (l0 (tt)), .int .u64 (l1 (tt)), .int .u64 (l2 (tt)), .int .u64 (l3 (tt)), .int .u64 (l4 (tt)), .bool true, .bool mb, .int .u64 (l0 (mn)), .int .u64 (l1 (mn)), .int .u64 (l2 (mn)), .int .u64 (l3 (mn)), .int .i64 (ms), .bool xb, .int .u64 (l0 (xn)), .int .u64 (l1 (xn)), .int .u64 (l2 (xn)), .int .u64 (l3 (xn)), .int .i64 (xs)] rfl Try.underlying42 rfl sz33)⟩ ⟨rfl, M⟩
theorem str_n (S T : Sm) (hS : S.ok) (hT : T.ok) : Calls Try.prog 64 #[smv S, smv T] w fun e w' => e = .returned (smv (str S T)) ∧ Mo w w' := by
  obtain ⟨r, f, k, d, er, tt, so, ⟨mb, mn, ms⟩, ⟨xb, xn, xs⟩⟩ := S
  obtain ⟨r2, f2, k2, d2, e2, tt2, so2, ⟨mb2, mn2, ms2⟩, ⟨xb2, xn2, xs2⟩⟩ := T
  obtain ⟨hm, hx⟩ := hS
  obtain ⟨hm2, hx2⟩ := hT
  unfold str
  cases so2 with
  | false =>
    cases so with
    | false => exact str_a r f k d er tt mb mn ms xb xn xs r2 f2 k2 d2 e2 tt2 mb2 mn2 ms2 xb2 xn2 xs2
    | true => exact str_b r f k d er tt mb mn ms xb xn xs r2 f2 k2 d2 e2 tt2 mb2 mn2 ms2 xb2 xn2 xs2
  | true =>
    cases so with
    | false => exact str_c r f k d er tt mb mn ms xb xn xs r2 f2 k2 d2 e2 tt2 mb2 mn2 ms2 xb2 xn2 xs2
    | true =>
      simp only [if_true]
      by_cases c1 : cmpv ⟨mb2, mn2, ms2⟩ ⟨mb, mn, ms⟩ < 0
      · by_cases c2 : 0 < cmpv ⟨xb2, xn2, xs2⟩ ⟨xb, xn, xs⟩
        · simp only [if_pos c1, if_pos c2]; exact str_dtt r f k d er tt mb mn ms xb xn xs r2 f2 k2 d2 e2 tt2 mb2 mn2 ms2 xb2 xn2 xs2 hm hx hm2 hx2 (decide_eq_true c1) (decide_eq_true c2)
        · simp only [if_pos c1, if_neg c2]; exact str_dtf r f k d er tt mb mn ms xb xn xs r2 f2 k2 d2 e2 tt2 mb2 mn2 ms2 xb2 xn2 xs2 hm hx hm2 hx2 (decide_eq_true c1) (decide_eq_false c2)
      · by_cases c2 : 0 < cmpv ⟨xb2, xn2, xs2⟩ ⟨xb, xn, xs⟩
        · simp only [if_neg c1, if_pos c2]; exact str_dft r f k d er tt mb mn ms xb xn xs r2 f2 k2 d2 e2 tt2 mb2 mn2 ms2 xb2 xn2 xs2 hm hx hm2 hx2 (decide_eq_false c1) (decide_eq_true c2)
        · simp only [if_neg c1, if_neg c2]; exact str_dff r f k d er tt mb mn ms xb xn xs r2 f2 k2 d2 e2 tt2 mb2 mn2 ms2 xb2 xn2 xs2 hm hx hm2 hx2 (decide_eq_false c1) (decide_eq_false c2)
end
end Go.Proofs.Ythfemlhmnjfjiaa

/-
  Join.
-/
namespace Go.Proofs.Ythfemlhmnjfjiaa
open Go.RowKit
def sml (S : Sm) : List Value := [.int .i64 S.r, .int .i64 S.f, .int .i64 S.k, .int .i64 S.d, .int .i64 S.e, .int .u64 (l0 S.tt), .int .u64 (l1 S.tt), .int .u64 (l2 S.tt), .int .u64 (l3 S.tt), .int .u64 (l4 S.tt), .bool S.so, .bool S.mn.b, .int .u64 (l0 S.mn.n), .int .u64 (l1 S.mn.n), .int .u64 (l2 S.mn.n), .int .u64 (l3 S.mn.n), .int .i64 S.mn.s, .bool S.mx.b, .int .u64 (l0 S.mx.n), .int .u64 (l1 S.mx.n), .int .u64 (l2 S.mx.n), .int .u64 (l3 S.mx.n), .int .i64 S.mx.s]
/-- Summaries lie there, one behind the other. -/
def SS (w : World) (p : Option Addr) (L : List Sm) : Prop := ∀ i S, L[i]? = some S → ∃ b off, p = some ⟨b, off, none⟩ ∧ b < w.heap.size ∧ w.rangeAt b (off + i * 23) (sml S)
theorem SS.mo {w w' : World} {p : Option Addr} {L : List Sm} (h : SS w p L) (m : Mo w w') : SS w' p L := fun i o e => by
  obtain ⟨b, off, h1, h2, h3⟩ := h i o e
  exact ⟨b, off, h1, Nat.lt_of_lt_of_le h2 m.size, fun j v hv => (m.cell b _ h2).trans (h3 j v hv)⟩
theorem SS.load {w : World} {b off i : Nat} {S : Sm} (h : w.rangeAt b (off + i * 23) (sml S)) : (Instr.loadAt 42 (pt b (off + i * 23))).run Try.prog w = .ok (smv S) w :=
  run_loadAt_mid w b (off + i * 23) 42 (sml S) _ h Try.underlying42 rfl sz33
theorem ix36 (b off i n c : Nat) (h : i < n) (w : World) : (Instr.indexAt 47 (.slice (some ⟨b, off, none⟩) n c) (.int .i64 (i : Int))).run Try.prog w = .ok (pt b (off + i * 23)) w := by
  have e : (Instr.indexAt 47 (.slice (some ⟨b, off, none⟩) n c) (.int .i64 (i : Int))).run Try.prog w = .ok (.pointer (some ((⟨b, off, none⟩ : Addr).add (i * 23)))) w := by simp [go_sem, h]
  rw [e, Addr.add_mid]
theorem len36 (ρ : Operand → Value) (x : Operand) (p : Option Addr) (m c : Nat) (hx : ρ x = .slice p m c) (dst : Option Tmp) (type : TypeId) (pos : String) (after : Array Edge) (guard : Option (Nat × Bool)) (w : World) : (execOp ρ { dst, op := .call { callee := .builtin .len, args := #[x], argTypes := #[47] }, type, pos, after, guard }).run Try.prog w = .ok (.value (.int .i64 (m : Int))) w := by
  simp [go_sem, hx]
/-- Two summaries as one. -/
def jn (S T : Sm) : Sm := str ⟨w64 (S.r + T.r), w64 (S.f + T.f), w64 (S.k + T.k), w64 (S.d + T.d), les S.e T.e, S.tt + T.tt, S.so, S.mn, S.mx⟩ T
theorem str_ok {S T : Sm} (hS : S.ok) (hT : T.ok) : (str S T).ok := by
  unfold str
  split
  · split
    · refine ⟨?_, ?_⟩
      · show D3.ok (if _ then _ else _); split; exact hT.1; exact hS.1
      · show D3.ok (if _ then _ else _); split; exact hT.2; exact hS.2
    · exact ⟨hT.1, hT.2⟩
  · exact hS
theorem jn_ok {S T : Sm} (hS : S.ok) (hT : T.ok) : (jn S T).ok := str_ok (S := ⟨_, _, _, _, _, _, _, S.mn, S.mx⟩) ⟨hS.1, hS.2⟩ hT
theorem sm0_ok : sm0.ok := ⟨⟨Int.le_refl _, by unfold sm0 d0 MM; decide⟩, ⟨Int.le_refl _, by unfold sm0 d0 MM; decide⟩⟩
theorem fold_ok : ∀ (L : List Sm) {S : Sm}, S.ok → (∀ T ∈ L, T.ok) → (L.foldl jn S).ok
  | [], _, h, _ => h
  | T :: L, _, h, hL => fold_ok L (jn_ok h (hL T (by simp))) (fun U hU => hL U (by simp [hU]))
theorem fold_take {L : List Sm} {i : Nat} {T : Sm} (h : L[i]? = some T) (S : Sm) : (L.take (i + 1)).foldl jn S = jn ((L.take i).foldl jn S) T := by
  obtain ⟨hi, e⟩ := List.getElem?_eq_some_iff.1 h
  rw [List.take_add_one, h, Option.toList_some, List.foldl_append]; rfl
section
variable {w : World}
theorem join_n (L : List Sm) (p : Option Addr) (cap : Nat) (hL : ∀ T ∈ L, T.ok) (hSS : SS w p L) (hn : L.length ≤ 900000000000000000) : Calls Try.prog 49 #[.slice p L.length cap] w fun e w' => e = .returned (smv (L.foldl jn sm0)) ∧ Mo w w' := by
  refine w_enter 53 Try.func49 Try.ntmps49 rfl rfl ?_
  have M : Mo w w := Mo.refl _
  refine w_seq ?_
  refine w_reg ?_
  refine wl_alloc 42 #[.int .i64 0, .int .i64 0, .int .i64 0, .int .i64 0, .int .i64 0, .int .u64 0, .int .u64 0, .int .u64 0, .int .u64 0, .int .u64 0, .bool false, .bool false, .int .u64 0, .int .u64 0, .int .u64 0, .int .u64 0, .int .i64 0, .bool false, .int .u64 0, .int .u64 0, .int .u64 0, .int .u64 0, .int .i64 0] rfl (fun _ => by kernel_rfl) rfl ?_
  intro k1 w1 hk hz hq Q1
  have N_k1 : w.heap.size ≤ k1 := by have := M.size; omega
  replace M := M.trans hq
  clear hk hz hq
  refine w_nil ?_
  refine xn_then ?_
  refine w_seq ?_
  refine w_reg ?_
  refine wl_alloc 42 #[.int .i64 0, .int .i64 0, .int .i64 0, .int .i64 0, .int .i64 0, .int .u64 0, .int .u64 0, .int .u64 0, .int .u64 0, .int .u64 0, .bool false, .bool false, .int .u64 0, .int .u64 0, .int .u64 0, .int .u64 0, .int .i64 0, .bool false, .int .u64 0, .int .u64 0, .int .u64 0, .int .u64 0, .int .i64 0] rfl (fun _ => by kernel_rfl) rfl ?_
  intro k2 w2 hk hz hq Q2
  have ne_k1_k2 : k1 ≠ k2 := by have := Q1.lt; omega
  have N_k2 : w.heap.size ≤ k2 := by have := M.size; omega
  replace Q1 := Q1.mo hq
  replace M := M.trans hq
  clear hk hz hq
  refine w_nil ?_
  refine xn_then ?_
  refine w_seq ?_
  refine w_seq ?_
  refine w_reg ?_
  refine wl_mv (.tmp 0) (.slice p L.length cap) (fun _ => rfl) rfl rfl ?_
  refine wl_val (.int .i64 ((L.length : Int))) (len36 _ _ _ _ _ (by exact rfl) _ _ _ _ _ _) rfl ?_
  refine wl_mv (.const (.int .i64 (0))) (.int .i64 (0)) (fun _ => rfl) rfl rfl ?_
  refine w_nil ?_
  refine xn_then ?_
  refine w_block ?_
  refine w_loop (fun m l wc => ∃ (i : Nat), m + i = L.length ∧ look l 2 = pt k1 0 ∧ look l 3 = pt k2 0 ∧ look l 6 = .slice p L.length cap ∧ look l 7 = .int .i64 (L.length : Int) ∧ look l 8 = .int .i64 (i : Int) ∧ At wc k1 (sml sm0) ∧ At wc k2 (sml ((L.take i).foldl jn sm0)) ∧ Mo w wc) L.length ⟨0, by omega, rfl, rfl, rfl, rfl, rfl, Q1, Q2, M⟩ ?_
  clear M Q1 Q2
  rintro m l wc ⟨i, hm, e2, e3, e6, e7, e8, Q1, Q2, M⟩
  have hS : ((L.take i).foldl jn sm0).ok := fold_ok _ sm0_ok (fun U hU => hL U (List.mem_of_mem_take hU))
  obtain ⟨S, eS⟩ : ∃ X, (L.take i).foldl jn sm0 = X := ⟨_, rfl⟩
  rw [eS] at Q2 hS
  refine w_seq ?_
  cases hf0 : decide (i < L.length) with
  | true =>
    have hf0p := of_decide_eq_true hf0
    refine w_reg ?_
    refine wl_bin (fun x y => do eqGuard .lss 3 (.tmp 8) (.tmp 7) x y; binOp .lss 3 x y) (.tmp 8) (.tmp 7) (.int .i64 ((i : Nat) : Int)) (.int .i64 ((L.length : Int))) (.bool true) (fun _ => rfl) e8 e7 (ltN hf0 _ _ _) rfl ?_
    refine w_nil ?_
    refine xn_then ?_
    refine w_seq ?_
    refine w_condT rfl ?_
    refine w_skip ?_
    refine xn_then ?_
    refine w_seq ?_
    refine w_block ?_
    refine w_seq ?_
    refine w_reg ?_
    obtain ⟨T, hTi⟩ : ∃ T, L[i]? = some T := ⟨L[i]'(by omega), List.getElem?_eq_getElem _⟩
    have hT := hL T (List.mem_of_getElem? hTi)
    obtain ⟨b, off, hpb, hbl, hrg⟩ := (hSS.mo M) _ T hTi
    refine wl_bin (fun x y => Instr.indexAt 47 x y) (.tmp 6) (.tmp 8) (.slice p L.length cap) (.int .i64 ((i : Nat) : Int)) (pt b (off + i * 23)) (fun _ => rfl) e6 e8 (by rw [hpb]; exact ix36 b off i _ _ (by omega) _) rfl ?_
    refine wl_load 42 (.tmp 10) (pt b (off + i * 23)) (.agg #[.int .i64 (T.r), .int .i64 (T.f), .int .i64 (T.k), .int .i64 (T.d), .int .i64 (T.e), .int .u64 (l0 (T.tt)), .int .u64 (l1 (T.tt)), .int .u64 (l2 (T.tt)), .int .u64 (l3 (T.tt)), .int .u64 (l4 (T.tt)), .bool T.so, .bool T.mn.b, .int .u64 (l0 (T.mn.n)), .int .u64 (l1 (T.mn.n)), .int .u64 (l2 (T.mn.n)), .int .u64 (l3 (T.mn.n)), .int .i64 (T.mn.s), .bool T.mx.b, .int .u64 (l0 (T.mx.n)), .int .u64 (l1 (T.mx.n)), .int .u64 (l2 (T.mx.n)), .int .u64 (l3 (T.mx.n)), .int .i64 (T.mx.s)]) rfl rfl (SS.load hrg) rfl ?_
    refine wl_alloc 42 #[.int .i64 0, .int .i64 0, .int .i64 0, .int .i64 0, .int .i64 0, .int .u64 0, .int .u64 0, .int .u64 0, .int .u64 0, .int .u64 0, .bool false, .bool false, .int .u64 0, .int .u64 0, .int .u64 0, .int .u64 0, .int .i64 0, .bool false, .int .u64 0, .int .u64 0, .int .u64 0, .int .u64 0, .int .i64 0] rfl (fun _ => by kernel_rfl) rfl ?_
    intro k6 w11 hk hz hq Q6
    have ne_k1_k6 : k1 ≠ k6 := by have := Q1.lt; omega
    have ne_k2_k6 : k2 ≠ k6 := by have := Q2.lt; omega
    have N_k6 : w.heap.size ≤ k6 := by have := M.size; omega
    replace Q1 := Q1.mo hq
    replace Q2 := Q2.mo hq
    replace M := M.trans hq
    clear hk hz hq
    refine wl_st 42 (.tmp 5) (.tmp 11) k6 0 #[.int .i64 (T.r), .int .i64 (T.f), .int .i64 (T.k), .int .i64 (T.d), .int .i64 (T.e), .int .u64 (l0 (T.tt)), .int .u64 (l1 (T.tt)), .int .u64 (l2 (T.tt)), .int .u64 (l3 (T.tt)), .int .u64 (l4 (T.tt)), .bool T.so, .bool T.mn.b, .int .u64 (l0 (T.mn.n)), .int .u64 (l1 (T.mn.n)), .int .u64 (l2 (T.mn.n)), .int .u64 (l3 (T.mn.n)), .int .i64 (T.mn.s), .bool T.mx.b, .int .u64 (l0 (T.mx.n)), .int .u64 (l1 (T.mx.n)), .int .u64 (l2 (T.mx.n)), .int .u64 (l3 (T.mx.n)), .int .i64 (T.mx.s)] [.int .i64 0, .int .i64 0, .int .i64 0, .int .i64 0, .int .i64 0, .int .u64 0, .int .u64 0, .int .u64 0, .int .u64 0, .int .u64 0, .bool false, .bool false, .int .u64 0, .int .u64 0, .int .u64 0, .int .u64 0, .int .i64 0, .bool false, .int .u64 0, .int .u64 0, .int .u64 0, .int .u64 0, .int .i64 0] [.int .i64 (T.r), .int .i64 (T.f), .int .i64 (T.k), .int .i64 (T.d), .int .i64 (T.e), .int .u64 (l0 (T.tt)), .int .u64 (l1 (T.tt)), .int .u64 (l2 (T.tt)), .int .u64 (l3 (T.tt)), .int .u64 (l4 (T.tt)), .bool T.so, .bool T.mn.b, .int .u64 (l0 (T.mn.n)), .int .u64 (l1 (T.mn.n)), .int .u64 (l2 (T.mn.n)), .int .u64 (l3 (T.mn.n)), .int .i64 (T.mn.s), .bool T.mx.b, .int .u64 (l0 (T.mx.n)), .int .u64 (l1 (T.mx.n)), .int .u64 (l2 (T.mx.n)), .int .u64 (l3 (T.mx.n)), .int .i64 (T.mx.s)] Q6 rfl rfl rfl rfl rfl sz33 rfl rfl rfl ?_
    intro w12 hS Qn
    replace Q6 := Qn
    clear Qn
    replace Q1 := hS.other _ _ ne_k1_k6 Q1
    replace Q2 := hS.other _ _ ne_k2_k6 Q2
    replace M := hS.mo _ N_k6 M
    clear hS
    refine w_nil ?_
    refine xn_then ?_
    refine w_seq ?_
    refine w_reg ?_
    refine wl_un (fun v => Instr.fieldAt 42 v 0) (.tmp 3) (pt k2 0) (pt k2 0) (fun _ => rfl) e3 (by kernel_rfl) rfl ?_
    refine wl_load 3 (.tmp 12) (pt k2 0) (.int .i64 (S.r)) rfl rfl (run_one Q2 3 0 rfl Try.underlying3 rfl) rfl ?_
    refine wl_un (fun v => Instr.fieldAt 42 v 0) (.tmp 5) (pt k6 0) (pt k6 0) (fun _ => rfl) rfl (by kernel_rfl) rfl ?_
    refine wl_load 3 (.tmp 14) (pt k6 0) (.int .i64 (T.r)) rfl rfl (run_one Q6 3 0 rfl Try.underlying3 rfl) rfl ?_
    refine wl_bin (fun x y => do eqGuard .add 3 (.tmp 13) (.tmp 15) x y; binOp .add 3 x y) (.tmp 13) (.tmp 15) (.int .i64 (S.r)) (.int .i64 (T.r)) (.int .i64 (w64 (S.r + T.r))) (fun _ => rfl) rfl rfl (addW _ _ _ _ _) rfl ?_
    refine wl_un (fun v => Instr.fieldAt 42 v 0) (.tmp 3) (pt k2 0) (pt k2 0) (fun _ => rfl) e3 (by kernel_rfl) rfl ?_
    refine wl_st1 3 (.tmp 17) (.tmp 16) k2 0 (.int .i64 (w64 (S.r + T.r))) [.int .i64 (S.r), .int .i64 (S.f), .int .i64 (S.k), .int .i64 (S.d), .int .i64 (S.e), .int .u64 (l0 (S.tt)), .int .u64 (l1 (S.tt)), .int .u64 (l2 (S.tt)), .int .u64 (l3 (S.tt)), .int .u64 (l4 (S.tt)), .bool S.so, .bool S.mn.b, .int .u64 (l0 (S.mn.n)), .int .u64 (l1 (S.mn.n)), .int .u64 (l2 (S.mn.n)), .int .u64 (l3 (S.mn.n)), .int .i64 (S.mn.s), .bool S.mx.b, .int .u64 (l0 (S.mx.n)), .int .u64 (l1 (S.mx.n)), .int .u64 (l2 (S.mx.n)), .int .u64 (l3 (S.mx.n)), .int .i64 (S.mx.s)] [.int .i64 (w64 (S.r + T.r)), .int .i64 (S.f), .int .i64 (S.k), .int .i64 (S.d), .int .i64 (S.e), .int .u64 (l0 (S.tt)), .int .u64 (l1 (S.tt)), .int .u64 (l2 (S.tt)), .int .u64 (l3 (S.tt)), .int .u64 (l4 (S.tt)), .bool S.so, .bool S.mn.b, .int .u64 (l0 (S.mn.n)), .int .u64 (l1 (S.mn.n)), .int .u64 (l2 (S.mn.n)), .int .u64 (l3 (S.mn.n)), .int .i64 (S.mn.s), .bool S.mx.b, .int .u64 (l0 (S.mx.n)), .int .u64 (l1 (S.mx.n)), .int .u64 (l2 (S.mx.n)), .int .u64 (l3 (S.mx.n)), .int .i64 (S.mx.s)] Q2 rfl rfl rfl rfl rfl sz3 rfl rfl rfl rfl ?_
    intro w13 hS Qn
    replace Q2 := Qn
    clear Qn
    replace Q1 := hS.other _ _ ne_k1_k2 Q1
    replace Q6 := hS.other _ _ ne_k2_k6.symm Q6
    replace M := hS.mo _ N_k2 M
    clear hS
    refine w_nil ?_
    refine xn_then ?_
    refine w_seq ?_
    refine w_reg ?_
    refine wl_un (fun v => Instr.fieldAt 42 v 1) (.tmp 3) (pt k2 0) (pt k2 1) (fun _ => rfl) e3 (by kernel_rfl) rfl ?_
    refine wl_load 3 (.tmp 18) (pt k2 1) (.int .i64 (S.f)) rfl rfl (run_one Q2 3 1 rfl Try.underlying3 rfl) rfl ?_
    refine wl_un (fun v => Instr.fieldAt 42 v 1) (.tmp 5) (pt k6 0) (pt k6 1) (fun _ => rfl) rfl (by kernel_rfl) rfl ?_
    refine wl_load 3 (.tmp 20) (pt k6 1) (.int .i64 (T.f)) rfl rfl (run_one Q6 3 1 rfl Try.underlying3 rfl) rfl ?_
    refine wl_bin (fun x y => do eqGuard .add 3 (.tmp 19) (.tmp 21) x y; binOp .add 3 x y) (.tmp 19) (.tmp 21) (.int .i64 (S.f)) (.int .i64 (T.f)) (.int .i64 (w64 (S.f + T.f))) (fun _ => rfl) rfl rfl (addW _ _ _ _ _) rfl ?_
    refine wl_un (fun v => Instr.fieldAt 42 v 1) (.tmp 3) (pt k2 0) (pt k2 1) (fun _ => rfl) e3 (by kernel_rfl) rfl ?_
    refine wl_st1 3 (.tmp 23) (.tmp 22) k2 1 (.int .i64 (w64 (S.f + T.f))) [.int .i64 (w64 (S.r + T.r)), .int .i64 (S.f), .int .i64 (S.k), .int .i64 (S.d), .int .i64 (S.e), .int .u64 (l0 (S.tt)), .int .u64 (l1 (S.tt)), .int .u64 (l2 (S.tt)), .int .u64 (l3 (S.tt)), .int .u64 (l4 (S.tt)), .bool S.so, .bool S.mn.b, .int .u64 (l0 (S.mn.n)), .int .u64 (l1 (S.mn.n)), .int .u64 (l2 (S.mn.n)), .int .u64 (l3 (S.mn.n)), .int .i64 (S.mn.s), .bool S.mx.b, .int .u64 (l0 (S.mx.n)), .int .u64 (l1 (S.mx.n)), .int .u64 (l2 (S.mx.n)), .int .u64 (l3 (S.mx.n)), .int .i64 (S.mx.s)] [.int .i64 (w64 (S.r + T.r)), .int .i64 (w64 (S.f + T.f)), .int .i64 (S.k), .int .i64 (S.d), .int .i64 (S.e), .int .u64 (l0 (S.tt)), .int .u64 (l1 (S.tt)), .int .u64 (l2 (S.tt)), .int .u64 (l3 (S.tt)), .int .u64 (l4 (S.tt)), .bool S.so, .bool S.mn.b, .int .u64 (l0 (S.mn.n)), .int .u64 (l1 (S.mn.n)), .int .u64 (l2 (S.mn.n)), .int .u64 (l3 (S.mn.n)), .int .i64 (S.mn.s), .bool S.mx.b, .int .u64 (l0 (S.mx.n)), .int .u64 (l1 (S.mx.n)), .int .u64 (l2 (S.mx.n)), .int .u64 (l3 (S.mx.n)), .int .i64 (S.mx.s)] Q2 rfl rfl rfl rfl rfl sz3 rfl rfl rfl rfl ?_
    intro w14 hS Qn
    replace Q2 := Qn
    clear Qn
    replace Q1 := hS.other _ _ ne_k1_k2 Q1
    replace Q6 := hS.other _ _ ne_k2_k6.symm Q6
    replace M := hS.mo _ N_k2 M
    clear hS
    refine w_nil ?_
    refine xn_then ?_
    refine w_seq ?_
    refine w_reg ?_
    refine wl_un (fun v => Instr.fieldAt 42 v 2) (.tmp 3) (pt k2 0) (pt k2 2) (fun _ => rfl) e3 (by kernel_rfl) rfl ?_
    refine wl_load 3 (.tmp 24) (pt k2 2) (.int .i64 (S.k)) rfl rfl (run_one Q2 3 2 rfl Try.underlying3 rfl) rfl ?_
    refine wl_un (fun v => Instr.fieldAt 42 v 2) (.tmp 5) (pt k6 0) (pt k6 2) (fun _ => rfl) rfl (by kernel_rfl) rfl ?_
    refine wl_load 3 (.tmp 26) (pt k6 2) (.int .i64 (T.k)) rfl rfl (run_one Q6 3 2 rfl Try.underlying3 rfl) rfl ?_
    refine wl_bin (fun x y => do eqGuard .add 3 (.tmp 25) (.tmp 27) x y; binOp .add 3 x y) (.tmp 25) (.tmp 27) (.int .i64 (S.k)) (.int .i64 (T.k)) (.int .i64 (w64 (S.k + T.k))) (fun _ => rfl) rfl rfl (addW _ _ _ _ _) rfl ?_
    refine wl_un (fun v => Instr.fieldAt 42 v 2) (.tmp 3) (pt k2 0) (pt k2 2) (fun _ => rfl) e3 (by kernel_rfl) rfl ?_
    refine wl_st1 3 (.tmp 29) (.tmp 28) k2 2 (.int .i64 (w64 (S.k + T.k))) [.int .i64 (w64 (S.r + T.r)), .int .i64 (w64 (S.f + T.f)), .int .i64 (S.k), .int .i64 (S.d), .int .i64 (S.e), .int .u64 (l0 (S.tt)), .int .u64 (l1 (S.tt)), .int .u64 (l2 (S.tt)), .int .u64 (l3 (S.tt)), .int .u64 (l4 (S.tt)), .bool S.so, .bool S.mn.b, .int .u64 (l0 (S.mn.n)), .int .u64 (l1 (S.mn.n)), .int .u64 (l2 (S.mn.n)), .int .u64 (l3 (S.mn.n)), .int .i64 (S.mn.s), .bool S.mx.b, .int .u64 (l0 (S.mx.n)), .int .u64 (l1 (S.mx.n)), .int .u64 (l2 (S.mx.n)), .int .u64 (l3 (S.mx.n)), .int .i64 (S.mx.s)] [.int .i64 (w64 (S.r + T.r)), .int .i64 (w64 (S.f + T.f)), .int .i64 (w64 (S.k + T.k)), .int .i64 (S.d), .int .i64 (S.e), .int .u64 (l0 (S.tt)), .int .u64 (l1 (S.tt)), .int .u64 (l2 (S.tt)), .int .u64 (l3 (S.tt)), .int .u64 (l4 (S.tt)), .bool S.so, .bool S.mn.b, .int .u64 (l0 (S.mn.n)), .int .u64 (l1 (S.mn.n)), .int .u64 (l2 (S.mn.n)), .int .u64 (l3 (S.mn.n)), .int .i64 (S.mn.s), .bool S.mx.b, .int .u64 (l0 (S.mx.n)), .int .u64 (l1 (S.mx.n)), .int .u64 (l2 (S.mx.n)), .int .u64 (l3 (S.mx.n)), .int .i64 (S.mx.s)] Q2 rfl rfl rfl rfl rfl sz3 rfl rfl rfl rfl ?_
    intro w15 hS Qn
    replace Q2 := Qn
    clear Qn
    replace Q1 := hS.other _ _ ne_k1_k2 Q1
    replace Q6 := hS.other _ _ ne_k2_k6.symm Q6
    replace M := hS.mo _ N_k2 M
    clear hS
    refine w_nil ?_
    refine xn_then ?_
    refine w_seq ?_
    refine w_reg ?_
    refine wl_un (fun v => Instr.fieldAt 42 v 3) (.tmp 3) (pt k2 0) (pt k2 3) (fun _ => rfl) e3 (by kernel_rfl) rfl ?_
    refine wl_load 3 (.tmp 30) (pt k2 3) (.int .i64 (S.d)) rfl rfl (run_one Q2 3 3 rfl Try.underlying3 rfl) rfl ?_
    refine wl_un (fun v => Instr.fieldAt 42 v 3) (.tmp 5) (pt k6 0) (pt k6 3) (fun _ => rfl) rfl (by kernel_rfl) rfl ?_
    refine wl_load 3 (.tmp 32) (pt k6 3) (.int .i64 (T.d)) rfl rfl (run_one Q6 3 3 rfl Try.underlying3 rfl) rfl ?_
    refine wl_bin (fun x y => do eqGuard .add 3 (.tmp 31) (.tmp 33) x y; binOp .add 3 x y) (.tmp 31) (.tmp 33) (.int .i64 (S.d)) (.int .i64 (T.d)) (.int .i64 (w64 (S.d + T.d))) (fun _ => rfl) rfl rfl (addW _ _ _ _ _) rfl ?_
    refine wl_un (fun v => Instr.fieldAt 42 v 3) (.tmp 3) (pt k2 0) (pt k2 3) (fun _ => rfl) e3 (by kernel_rfl) rfl ?_
    refine wl_st1 3 (.tmp 35) (.tmp 34) k2 3 (.int .i64 (w64 (S.d + T.d))) [.int .i64 (w64 (S.r + T.r)), .int .i64 (w64 (S.f + T.f)), .int .i64 (w64 (S.k + T.k)), .int .i64 (S.d), .int .i64 (S.e), .int .u64 (l0 (S.tt)), .int .u64 (l1 (S.tt)), .int .u64 (l2 (S.tt)), .int .u64 (l3 (S.tt)), .int .u64 (l4 (S.tt)), .bool S.so, .bool S.mn.b, .int .u64 (l0 (S.mn.n)), .int .u64 (l1 (S.mn.n)), .int .u64 (l2 (S.mn.n)), .int .u64 (l3 (S.mn.n)), .int .i64 (S.mn.s), .bool S.mx.b, .int .u64 (l0 (S.mx.n)), .int .u64 (l1 (S.mx.n)), .int .u64 (l2 (S.mx.n)), .int .u64 (l3 (S.mx.n)), .int .i64 (S.mx.s)] [.int .i64 (w64 (S.r + T.r)), .int .i64 (w64 (S.f + T.f)), .int .i64 (w64 (S.k + T.k)), .int .i64 (w64 (S.d + T.d)), .int .i64 (S.e), .int .u64 (l0 (S.tt)), .int .u64 (l1 (S.tt)), .int .u64 (l2 (S.tt)), .int .u64 (l3 (S.tt)), .int .u64 (l4 (S.tt)), .bool S.so, .bool S.mn.b, .int .u64 (l0 (S.mn.n)), .int .u64 (l1 (S.mn.n)), .int .u64 (l2 (S.mn.n)), .int .u64 (l3 (S.mn.n)), .int .i64 (S.mn.s), .bool S.mx.b, .int .u64 (l0 (S.mx.n)), .int .u64 (l1 (S.mx.n)), .int .u64 (l2 (S.mx.n)), .int .u64 (l3 (S.mx.n)), .int .i64 (S.mx.s)] Q2 rfl rfl rfl rfl rfl sz3 rfl rfl rfl rfl ?_
    intro w16 hS Qn
    replace Q2 := Qn
    clear Qn
    replace Q1 := hS.other _ _ ne_k1_k2 Q1
    replace Q6 := hS.other _ _ ne_k2_k6.symm Q6
    replace M := hS.mo _ N_k2 M
    clear hS
    refine w_nil ?_
    refine xn_then ?_
    refine w_seq ?_
    refine w_reg ?_
    refine wl_un (fun v => Instr.fieldAt 42 v 4) (.tmp 3) (pt k2 0) (pt k2 4) (fun _ => rfl) e3 (by kernel_rfl) rfl ?_
    refine wl_load 3 (.tmp 36) (pt k2 4) (.int .i64 (S.e)) rfl rfl (run_one Q2 3 4 rfl Try.underlying3 rfl) rfl ?_
    refine wl_un (fun v => Instr.fieldAt 42 v 4) (.tmp 5) (pt k6 0) (pt k6 4) (fun _ => rfl) rfl (by kernel_rfl) rfl ?_
    refine wl_load 3 (.tmp 38) (pt k6 4) (.int .i64 (T.e)) rfl rfl (run_one Q6 3 4 rfl Try.underlying3 rfl) rfl ?_
    refine wl_call 62 [(.tmp 37), (.tmp 39)] _ [.int .i64 (S.e), .int .i64 (T.e)] (.int .i64 (les S.e T.e)) rfl rfl (fun _ _ => by kernel_rfl) (les_n S.e T.e) rfl ?_
    intro w17 hq
    replace Q1 := Q1.mo hq
    replace Q2 := Q2.mo hq
    replace Q6 := Q6.mo hq
    replace M := M.trans hq
    clear hq
    refine wl_un (fun v => Instr.fieldAt 42 v 4) (.tmp 3) (pt k2 0) (pt k2 4) (fun _ => rfl) e3 (by kernel_rfl) rfl ?_
    refine wl_st1 3 (.tmp 41) (.tmp 40) k2 4 (.int .i64 (les S.e T.e)) [.int .i64 (w64 (S.r + T.r)), .int .i64 (w64 (S.f + T.f)), .int .i64 (w64 (S.k + T.k)), .int .i64 (w64 (S.d + T.d)), .int .i64 (S.e), .int .u64 (l0 (S.tt)), .int .u64 (l1 (S.tt)), .int .u64 (l2 (S.tt)), .int .u64 (l3 (S.tt)), .int .u64 (l4 (S.tt)), .bool S.so, .bool S.mn.b, .int .u64 (l0 (S.mn.n)), .int .u64 (l1 (S.mn.n)), .int .u64 (l2 (S.mn.n)), .int .u64 (l3 (S.mn.n)), .int .i64 (S.mn.s), .bool S.mx.b, .int .u64 (l0 (S.mx.n)), .int .u64 (l1 (S.mx.n)), .int .u64 (l2 (S.mx.n)), .int .u64 (l3 (S.mx.n)), .int .i64 (S.mx.s)] [.int .i64 (w64 (S.r + T.r)), .int .i64 (w64 (S.f + T.f)), .int .i64 (w64 (S.k + T.k)), .int .i64 (w64 (S.d + T.d)), .int .i64 (les S.e T.e), .int .u64 (l0 (S.tt)), .int .u64 (l1 (S.tt)), .int .u64 (l2 (S.tt)), .int .u64 (l3 (S.tt)), .int .u64 (l4 (S.tt)), .bool S.so, .bool S.mn.b, .int .u64 (l0 (S.mn.n)), .int .u64 (l1 (S.mn.n)), .int .u64 (l2 (S.mn.n)), .int .u64 (l3 (S.mn.n)), .int .i64 (S.mn.s), .bool S.mx.b, .int .u64 (l0 (S.mx.n)), .int .u64 (l1 (S.mx.n)), .int .u64 (l2 (S.mx.n)), .int .u64 (l3 (S.mx.n)), .int .i64 (S.mx.s)] Q2 rfl rfl rfl rfl rfl sz3 rfl rfl rfl rfl ?_
    intro w18 hS Qn
    replace Q2 := Qn
    clear Qn
    replace Q1 := hS.other _ _ ne_k1_k2 Q1
    replace Q6 := hS.other _ _ ne_k2_k6.symm Q6
    replace M := hS.mo _ N_k2 M
    clear hS
    refine w_nil ?_
    refine xn_then ?_
    refine w_seq ?_
    refine w_reg ?_
    refine wl_un (fun v => Instr.fieldAt 42 v 5) (.tmp 3) (pt k2 0) (pt k2 5) (fun _ => rfl) e3 (by kernel_rfl) rfl ?_
    refine wl_load 36 (.tmp 42) (pt k2 5) (.agg #[.int .u64 (l0 (S.tt)), .int .u64 (l1 (S.tt)), .int .u64 (l2 (S.tt)), .int .u64 (l3 (S.tt)), .int .u64 (l4 (S.tt))]) rfl rfl (run_row Q2 36 5 5 [.int .u64 (l0 (S.tt)), .int .u64 (l1 (S.tt)), .int .u64 (l2 (S.tt)), .int .u64 (l3 (S.tt)), .int .u64 (l4 (S.tt))] rfl Try.underlying36 rfl sz31) rfl ?_
    refine wl_un (fun v => Instr.fieldAt 42 v 5) (.tmp 5) (pt k6 0) (pt k6 5) (fun _ => rfl) rfl (by kernel_rfl) rfl ?_
    refine wl_load 36 (.tmp 44) (pt k6 5) (.agg #[.int .u64 (l0 (T.tt)), .int .u64 (l1 (T.tt)), .int .u64 (l2 (T.tt)), .int .u64 (l3 (T.tt)), .int .u64 (l4 (T.tt))]) rfl rfl (run_row Q6 36 5 5 [.int .u64 (l0 (T.tt)), .int .u64 (l1 (T.tt)), .int .u64 (l2 (T.tt)), .int .u64 (l3 (T.tt)), .int .u64 (l4 (T.tt))] rfl Try.underlying36 rfl sz31) rfl ?_
    refine wl_call 63 [(.tmp 43), (.tmp 45)] _ [.agg #[.int .u64 (l0 (S.tt)), .int .u64 (l1 (S.tt)), .int .u64 (l2 (S.tt)), .int .u64 (l3 (S.tt)), .int .u64 (l4 (S.tt))], .agg #[.int .u64 (l0 (T.tt)), .int .u64 (l1 (T.tt)), .int .u64 (l2 (T.tt)), .int .u64 (l3 (T.tt)), .int .u64 (l4 (T.tt))]] (.agg #[.int .u64 (l0 (S.tt + T.tt)), .int .u64 (l1 (S.tt + T.tt)), .int .u64 (l2 (S.tt + T.tt)), .int .u64 (l3 (S.tt + T.tt)), .int .u64 (l4 (S.tt + T.tt))]) rfl rfl (fun _ _ => by kernel_rfl) (addw_n S.tt T.tt) rfl ?_
    intro w19 hq
    replace Q1 := Q1.mo hq
    replace Q2 := Q2.mo hq
    replace Q6 := Q6.mo hq
    replace M := M.trans hq
    clear hq
    refine wl_un (fun v => Instr.fieldAt 42 v 5) (.tmp 3) (pt k2 0) (pt k2 5) (fun _ => rfl) e3 (by kernel_rfl) rfl ?_
    refine wl_st 36 (.tmp 47) (.tmp 46) k2 5 #[.int .u64 (l0 (S.tt + T.tt)), .int .u64 (l1 (S.tt + T.tt)), .int .u64 (l2 (S.tt + T.tt)), .int .u64 (l3 (S.tt + T.tt)), .int .u64 (l4 (S.tt + T.tt))] [.int .i64 (w64 (S.r + T.r)), .int .i64 (w64 (S.f + T.f)), .int .i64 (w64 (S.k + T.k)), .int .i64 (w64 (S.d + T.d)), .int .i64 (les S.e T.e), .int .u64 (l0 (S.tt)), .int .u64 (l1 (S.tt)), .int .u64 (l2 (S.tt)), .int .u64 (l3 (S.tt)), .int .u64 (l4 (S.tt)), .bool S.so, .bool S.mn.b, .int .u64 (l0 (S.mn.n)), .int .u64 (l1 (S.mn.n)), .int .u64 (l2 (S.mn.n)), .int .u64 (l3 (S.mn.n)), .int .i64 (S.mn.s), .bool S.mx.b, .int .u64 (l0 (S.mx.n)), .int .u64 (l1 (S.mx.n)), .int .u64 (l2 (S.mx.n)), .int .u64 (l3 (S.mx.n)), .int .i64 (S.mx.s)] [.int .i64 (w64 (S.r + T.r)), .int .i64 (w64 (S.f + T.f)), .int .i64 (w64 (S.k + T.k)), .int .i64 (w64 (S.d + T.d)), .int .i64 (les S.e T.e), .int .u64 (l0 (S.tt + T.tt)), .int .u64 (l1 (S.tt + T.tt)), .int .u64 (l2 (S.tt + T.tt)), .int .u64 (l3 (S.tt + T.tt)), .int .u64 (l4 (S.tt + T.tt)), .bool S.so, .bool S.mn.b, .int .u64 (l0 (S.mn.n)), .int .u64 (l1 (S.mn.n)), .int .u64 (l2 (S.mn.n)), .int .u64 (l3 (S.mn.n)), .int .i64 (S.mn.s), .bool S.mx.b, .int .u64 (l0 (S.mx.n)), .int .u64 (l1 (S.mx.n)), .int .u64 (l2 (S.mx.n)), .int .u64 (l3 (S.mx.n)), .int .i64 (S.mx.s)] Q2 rfl rfl rfl rfl rfl sz31 rfl rfl rfl ?_
    intro w20 hS Qn
    replace Q2 := Qn
    clear Qn
    replace Q1 := hS.other _ _ ne_k1_k2 Q1
    replace Q6 := hS.other _ _ ne_k2_k6.symm Q6
    replace M := hS.mo _ N_k2 M
    clear hS
    refine w_nil ?_
    refine xn_then ?_
    refine w_reg ?_
    refine wl_load 42 (.tmp 3) (pt k2 0) (.agg #[.int .i64 (w64 (S.r + T.r)), .int .i64 (w64 (S.f + T.f)), .int .i64 (w64 (S.k + T.k)), .int .i64 (w64 (S.d + T.d)), .int .i64 (les S.e T.e), .int .u64 (l0 (S.tt + T.tt)), .int .u64 (l1 (S.tt + T.tt)), .int .u64 (l2 (S.tt + T.tt)), .int .u64 (l3 (S.tt + T.tt)), .int .u64 (l4 (S.tt + T.tt)), .bool S.so, .bool S.mn.b, .int .u64 (l0 (S.mn.n)), .int .u64 (l1 (S.mn.n)), .int .u64 (l2 (S.mn.n)), .int .u64 (l3 (S.mn.n)), .int .i64 (S.mn.s), .bool S.mx.b, .int .u64 (l0 (S.mx.n)), .int .u64 (l1 (S.mx.n)), .int .u64 (l2 (S.mx.n)), .int .u64 (l3 (S.mx.n)), .int .i64 (S.mx.s)]) rfl e3 (run_row Q2 42 0 23 [.int .i64 (w64 (S.r + T.r)), .int .i64 (w64 (S.f + T.f)), .int .i64 (w64 (S.k + T.k)), .int .i64 (w64 (S.d + T.d)), .int .i64 (les S.e T.e), .int .u64 (l0 (S.tt + T.tt)), .int .u64 (l1 (S.tt + T.tt)), .int .u64 (l2 (S.tt + T.tt)), .int .u64 (l3 (S.tt + T.tt)), .int .u64 (l4 (S.tt + T.tt)), .bool S.so, .bool S.mn.b, .int .u64 (l0 (S.mn.n)), .int .u64 (l1 (S.mn.n)), .int .u64 (l2 (S.mn.n)), .int .u64 (l3 (S.mn.n)), .int .i64 (S.mn.s), .bool S.mx.b, .int .u64 (l0 (S.mx.n)), .int .u64 (l1 (S.mx.n)), .int .u64 (l2 (S.mx.n)), .int .u64 (l3 (S.mx.n)), .int .i64 (S.mx.s)] rfl Try.underlying42 rfl sz33) rfl ?_
    refine wl_load 42 (.tmp 5) (pt k6 0) (.agg #[.int .i64 (T.r), .int .i64 (T.f), .int .i64 (T.k), .int .i64 (T.d), .int .i64 (T.e), .int .u64 (l0 (T.tt)), .int .u64 (l1 (T.tt)), .int .u64 (l2 (T.tt)), .int .u64 (l3 (T.tt)), .int .u64 (l4 (T.tt)), .bool T.so, .bool T.mn.b, .int .u64 (l0 (T.mn.n)), .int .u64 (l1 (T.mn.n)), .int .u64 (l2 (T.mn.n)), .int .u64 (l3 (T.mn.n)), .int .i64 (T.mn.s), .bool T.mx.b, .int .u64 (l0 (T.mx.n)), .int .u64 (l1 (T.mx.n)), .int .u64 (l2 (T.mx.n)), .int .u64 (l3 (T.mx.n)), .int .i64 (T.mx.s)]) rfl rfl (run_row Q6 42 0 23 [.int .i64 (T.r), .int .i64 (T.f), .int .i64 (T.k), .int .i64 (T.d), .int .i64 (T.e), .int .u64 (l0 (T.tt)), .int .u64 (l1 (T.tt)), .int .u64 (l2 (T.tt)), .int .u64 (l3 (T.tt)), .int .u64 (l4 (T.tt)), .bool T.so, .bool T.mn.b, .int .u64 (l0 (T.mn.n)), .int .u64 (l1 (T.mn.n)), .int .u64 (l2 (T.mn.n)), .int .u64 (l3 (T.mn.n)), .int .i64 (T.mn.s), .bool T.mx.b, .int .u64 (l0 (T.mx.n)), .int .u64 (l1 (T.mx.n)), .int .u64 (l2 (T.mx.n)), .int .u64 (l3 (T.mx.n)), .int .i64 (T.mx.s)] rfl Try.underlying42 rfl sz33) rfl ?_
    refine wl_call 64 [(.tmp 48), (.tmp 49)] _ [.agg #[.int .i64 (w64 (S.r + T.r)), .int .i64 (w64 (S.f + T.f)), .int .i64 (w64 (S.k + T.k)), .int .i64 (w64 (S.d + T.d)), .int .i64 (les S.e T.e), .int .u64 (l0 (S.tt + T.tt)), .int .u64 (l1 (S.tt + T.tt)), .int .u64 (l2 (S.tt + T.tt)), .int .u64 (l3 (S.tt + T.tt)), .int .u64 (l4 (S.tt + T.tt)), .bool S.so, .bool S.mn.b, .int .u64 (l0 (S.mn.n)), .int .u64 (l1 (S.mn.n)), .int .u64 (l2 (S.mn.n)), .int .u64 (l3 (S.mn.n)), .int .i64 (S.mn.s), .bool S.mx.b, .int .u64 (l0 (S.mx.n)), .int .u64 (l1 (S.mx.n)), .int .u64 (l2 (S.mx.n)), .int .u64 (l3 (S.mx.n)), .int .i64 (S.mx.s)], .agg #[.int .i64 (T.r), .int .i64 (T.f), .int .i64 (T.k), .int .i64 (T.d), .int .i64 (T.e), .int .u64 (l0 (T.tt)), .int .u64 (l1 (T.tt)), .int .u64 (l2 (T.tt)), .int .u64 (l3 (T.tt)), .int .u64 (l4 (T.tt)), .bool T.so, .bool T.mn.b, .int .u64 (l0 (T.mn.n)), .int .u64 (l1 (T.mn.n)), .int .u64 (l2 (T.mn.n)), .int .u64 (l3 (T.mn.n)), .int .i64 (T.mn.s), .bool T.mx.b, .int .u64 (l0 (T.mx.n)), .int .u64 (l1 (T.mx.n)), .int .u64 (l2 (T.mx.n)), .int .u64 (l3 (T.mx.n)), .int .i64 (T.mx.s)]] (.agg #[.int .i64 ((jn S T).r), .int .i64 ((jn S T).f), .int .i64 ((jn S T).k), .int .i64 ((jn S T).d), .int .i64 ((jn S T).e), .int .u64 (l0 ((jn S T).tt)), .int .u64 (l1 ((jn S T).tt)), .int .u64 (l2 ((jn S T).tt)), .int .u64 (l3 ((jn S T).tt)), .int .u64 (l4 ((jn S T).tt)), .bool (jn S T).so, .bool (jn S T).mn.b, .int .u64 (l0 ((jn S T).mn.n)), .int .u64 (l1 ((jn S T).mn.n)), .int .u64 (l2 ((jn S T).mn.n)), .int .u64 (l3 ((jn S T).mn.n)), .int .i64 ((jn S T).mn.s), .bool (jn S T).mx.b, .int .u64 (l0 ((jn S T).mx.n)), .int .u64 (l1 ((jn S T).mx.n)), .int .u64 (l2 ((jn S T).mx.n)), .int .u64 (l3 ((jn S T).mx.n)), .int .i64 ((jn S T).mx.s)]) rfl rfl (fun _ _ => by kernel_rfl) (str_n ⟨w64 (S.r + T.r), w64 (S.f + T.f), w64 (S.k + T.k), w64 (S.d + T.d), les S.e T.e, S.tt + T.tt, S.so, S.mn, S.mx⟩ T ⟨hS.1, hS.2⟩ hT) rfl ?_
    intro w21 hq
    replace Q1 := Q1.mo hq
    replace Q2 := Q2.mo hq
    replace Q6 := Q6.mo hq
    replace M := M.trans hq
    clear hq
    refine wl_st 42 (.tmp 3) (.tmp 50) k2 0 #[.int .i64 ((jn S T).r), .int .i64 ((jn S T).f), .int .i64 ((jn S T).k), .int .i64 ((jn S T).d), .int .i64 ((jn S T).e), .int .u64 (l0 ((jn S T).tt)), .int .u64 (l1 ((jn S T).tt)), .int .u64 (l2 ((jn S T).tt)), .int .u64 (l3 ((jn S T).tt)), .int .u64 (l4 ((jn S T).tt)), .bool (jn S T).so, .bool (jn S T).mn.b, .int .u64 (l0 ((jn S T).mn.n)), .int .u64 (l1 ((jn S T).mn.n)), .int .u64 (l2 ((jn S T).mn.n)), .int .u64 (l3 ((jn S T).mn.n)), .int .i64 ((jn S T).mn.s), .bool (jn S T).mx.b, .int .u64 (l0 ((jn S T).mx.n)), .int .u64 (l1 ((jn S T).mx.n)), .int .u64 (l2 ((jn S T).mx.n)), .int .u64 (l3 ((jn S T).mx.n)), .int .i64 ((jn S T).mx.s)] [.int .i64 (w64 (S.r + T.r)), .int .i64 (w64 (S.f + T.f)), .int .i64 (w64 (S.k + T.k)), .int .i64 (w64 (S.d + T.d)), .int .i64 (les S.e T.e), .int .u64 (l0 (S.tt + T.tt)), .int .u64 (l1 (S.tt + T.tt)), .int .u64 (l2 (S.tt + T.tt)), .int .u64 (l3 (S.tt + T.tt)), .int .u64 (l4 (S.tt + T.tt)), .bool S.so, .bool S.mn.b, .int .u64 (l0 (S.mn.n)), .int .u64 (l1 (S.mn.n)), .int .u64 (l2 (S.mn.n)), .int .u64 (l3 (S.mn.n)), .int .i64 (S.mn.s), .bool S.mx.b, .int .u64 (l0 (S.mx.n)), .int .u64 (l1 (S.mx.n)), .int .u64 (l2 (S.mx.n)), .int .u64 (l3 (S.mx.n)), .int .i64 (S.mx.s)] [.int .i64 ((jn S T).r), .int .i64 ((jn S T).f), .int .i64 ((jn S T).k), .int .i64 ((jn S T).d), .int .i64 ((jn S T).e), .int .u64 (l0 ((jn S T).tt)), .int .u64 (l1 ((jn S T).tt)), .int .u64 (l2 ((jn S T).tt)), .int .u64 (l3 ((jn S T).tt)), .int .u64 (l4 ((jn S T).tt)), .bool (jn S T).so, .bool (jn S T).mn.b, .int .u64 (l0 ((jn S T).mn.n)), .int .u64 (l1 ((jn S T).mn.n)), .int .u64 (l2 ((jn S T).mn.n)), .int .u64 (l3 ((jn S T).mn.n)), .int .i64 ((jn S T).mn.s), .bool (jn S T).mx.b, .int .u64 (l0 ((jn S T).mx.n)), .int .u64 (l1 ((jn S T).mx.n)), .int .u64 (l2 ((jn S T).mx.n)), .int .u64 (l3 ((jn S T).mx.n)), .int .i64 ((jn S T).mx.s)] Q2 rfl rfl e3 rfl rfl sz33 rfl rfl rfl ?_
    intro w22 hS Qn
    replace Q2 := Qn
    clear Qn
    replace Q1 := hS.other _ _ ne_k1_k2 Q1
    replace Q6 := hS.other _ _ ne_k2_k6.symm Q6
    replace M := hS.mo _ N_k2 M
    clear hS
    refine w_nil ?_
    refine xn_blk ?_
    refine xn_then ?_
    refine w_reg ?_
    refine wl_bin (fun x y => do eqGuard .add 3 (.tmp 8) (.const (.int .i64 (1))) x y; binOp .add 3 x y) (.tmp 8) (.const (.int .i64 (1))) (.int .i64 ((i : Nat) : Int)) (.int .i64 (1)) (.int .i64 ((i + 1 : Nat) : Int)) (fun _ => rfl) e8 rfl (add1N (by omega) _ _ _) rfl ?_
    refine wl_mv (.tmp 51) (.int .i64 ((i + 1 : Nat) : Int)) (fun _ => rfl) rfl rfl ?_
    refine w_nil ?_
    exact xn_loop (m - 1) (by omega) ⟨i + 1, by omega, e2, e3, e6, e7, rfl, Q1, by rw [fold_take hTi, eS]; exact Q2, M⟩
  | false =>
    have hf0p := of_decide_eq_false hf0
    refine w_reg ?_
    refine wl_bin (fun x y => do eqGuard .lss 3 (.tmp 8) (.tmp 7) x y; binOp .lss 3 x y) (.tmp 8) (.tmp 7) (.int .i64 ((i : Nat) : Int)) (.int .i64 ((L.length : Int))) (.bool false) (fun _ => rfl) e8 e7 (ltN hf0 _ _ _) rfl ?_
    refine w_nil ?_
    refine xn_then ?_
    refine w_seq ?_
    refine w_condF rfl ?_
    refine w_exit ?_
    refine xx_then ?_
    refine xx_then ?_
    have hi3 : i = L.length := by omega
    rw [hi3, List.take_length] at eS
    refine xx_blk ?_
    refine xn_then ?_
    refine w_seq ?_
    refine w_reg ?_
    refine wl_load 42 (.tmp 3) (pt k2 0) (.agg #[.int .i64 (S.r), .int .i64 (S.f), .int .i64 (S.k), .int .i64 (S.d), .int .i64 (S.e), .int .u64 (l0 (S.tt)), .int .u64 (l1 (S.tt)), .int .u64 (l2 (S.tt)), .int .u64 (l3 (S.tt)), .int .u64 (l4 (S.tt)), .bool S.so, .bool S.mn.b, .int .u64 (l0 (S.mn.n)), .int .u64 (l1 (S.mn.n)), .int .u64 (l2 (S.mn.n)), .int .u64 (l3 (S.mn.n)), .int .i64 (S.mn.s), .bool S.mx.b, .int .u64 (l0 (S.mx.n)), .int .u64 (l1 (S.mx.n)), .int .u64 (l2 (S.mx.n)), .int .u64 (l3 (S.mx.n)), .int .i64 (S.mx.s)]) rfl e3 (run_row Q2 42 0 23 [.int .i64 (S.r), .int .i64 (S.f), .int .i64 (S.k), .int .i64 (S.d), .int .i64 (S.e), .int .u64 (l0 (S.tt)), .int .u64 (l1 (S.tt)), .int .u64 (l2 (S.tt)), .int .u64 (l3 (S.tt)), .int .u64 (l4 (S.tt)), .bool S.so, .bool S.mn.b, .int .u64 (l0 (S.mn.n)), .int .u64 (l1 (S.mn.n)), .int .u64 (l2 (S.mn.n)), .int .u64 (l3 (S.mn.n)), .int .i64 (S.mn.s), .bool S.mx.b, .int .u64 (l0 (S.mx.n)), .int .u64 (l1 (S.mx.n)), .int .u64 (l2 (S.mx.n)), .int .u64 (l3 (S.mx.n)), .int .i64 (S.mx.s)] rfl Try.underlying42 rfl sz33) rfl ?_
    refine wl_st 42 (.tmp 2) (.tmp 52) k1 0 #[.int .i64 (S.r), .int .i64 (S.f), .int .i64 (S.k), .int .i64 (S.d), .int .i64 (S.e), .int .u64 (l0 (S.tt)), .int .u64 (l1 (S.tt)), .int .u64 (l2 (S.tt)), .int .u64 (l3 (S.tt)), .int .u64 (l4 (S.tt)), .bool S.so, .bool S.mn.b, .int .u64 (l0 (S.mn.n)), .int .u64 (l1 (S.mn.n)), .int .u64 (l2 (S.mn.n)), .int .u64 (l3 (S.mn.n)), .int .i64 (S.mn.s), .bool S.mx.b, .int .u64 (l0 (S.mx.n)), .int .u64 (l1 (S.mx.n)), .int .u64 (l2 (S.mx.n)), .int .u64 (l3 (S.mx.n)), .int .i64 (S.mx.s)] [.int .i64 (sm0.r), .int .i64 (sm0.f), .int .i64 (sm0.k), .int .i64 (sm0.d), .int .i64 (sm0.e), .int .u64 (l0 (sm0.tt)), .int .u64 (l1 (sm0.tt)), .int .u64 (l2 (sm0.tt)), .int .u64 (l3 (sm0.tt)), .int .u64 (l4 (sm0.tt)), .bool sm0.so, .bool sm0.mn.b, .int .u64 (l0 (sm0.mn.n)), .int .u64 (l1 (sm0.mn.n)), .int .u64 (l2 (sm0.mn.n)), .int .u64 (l3 (sm0.mn.n)), .int .i64 (sm0.mn.s), .bool sm0.mx.b, .int .u64 (l0 (sm0.mx.n)), .int .u64 (l1 (sm0.mx.n)), .int .u64 (l2 (sm0.mx.n)), .int .u64 (l3 (sm0.mx.n)), .int .i64 (sm0.mx.s)] [.int .i64 (S.r), .int .i64 (S.f), .int .i64 (S.k), .int .i64 (S.d), .int .i64 (S.e), .int .u64 (l0 (S.tt)), .int .u64 (l1 (S.tt)), .int .u64 (l2 (S.tt)), .int .u64 (l3 (S.tt)), .int .u64 (l4 (S.tt)), .bool S.so, .bool S.mn.b, .int .u64 (l0 (S.mn.n)), .int .u64 (l1 (S.mn.n)), .int .u64 (l2 (S.mn.n)), .int .u64 (l3 (S.mn.n)), .int .i64 (S.mn.s), .bool S.mx.b, .int .u64 (l0 (S.mx.n)), .int .u64 (l1 (S.mx.n)), .int .u64 (l2 (S.mx.n)), .int .u64 (l3 (S.mx.n)), .int .i64 (S.mx.s)] Q1 rfl rfl e2 rfl rfl sz33 rfl rfl rfl ?_
    intro w11 hS Qn
    replace Q1 := Qn
    clear Qn
    replace Q2 := hS.other _ _ ne_k1_k2.symm Q2
    replace M := hS.mo _ N_k1 M
    clear hS
    refine w_nil ?_
    refine xn_then ?_
    refine w_ret ?_
    exact w_ret1 _ (.agg #[.int .i64 (S.r), .int .i64 (S.f), .int .i64 (S.k), .int .i64 (S.d), .int .i64 (S.e), .int .u64 (l0 (S.tt)), .int .u64 (l1 (S.tt)), .int .u64 (l2 (S.tt)), .int .u64 (l3 (S.tt)), .int .u64 (l4 (S.tt)), .bool S.so, .bool S.mn.b, .int .u64 (l0 (S.mn.n)), .int .u64 (l1 (S.mn.n)), .int .u64 (l2 (S.mn.n)), .int .u64 (l3 (S.mn.n)), .int .i64 (S.mn.s), .bool S.mx.b, .int .u64 (l0 (S.mx.n)), .int .u64 (l1 (S.mx.n)), .int .u64 (l2 (S.mx.n)), .int .u64 (l3 (S.mx.n)), .int .i64 (S.mx.s)]) rfl ⟨k1, e2, (run_row Q1 42 0 23 [.int .i64 (S.r), .int .i64 (S.f), .int .i64 (S.k), .int .i64 (S.d), .int .i64 (S.e), .int .u64 (l0 (S.tt)), .int .u64 (l1 (S.tt)), .int .u64 (l2 (S.tt)), .int .u64 (l3 (S.tt)), .int .u64 (l4 (S.tt)), .bool S.so, .bool S.mn.b, .int .u64 (l0 (S.mn.n)), .int .u64 (l1 (S.mn.n)), .int .u64 (l2 (S.mn.n)), .int .u64 (l3 (S.mn.n)), .int .i64 (S.mn.s), .bool S.mx.b, .int .u64 (l0 (S.mx.n)), .int .u64 (l1 (S.mx.n)), .int .u64 (l2 (S.mx.n)), .int .u64 (l3 (S.mx.n)), .int .i64 (S.mx.s)] rfl Try.underlying42 rfl sz33)⟩ ⟨by rw [eS], M⟩
end
end Go.Proofs.Ythfemlhmnjfjiaa

