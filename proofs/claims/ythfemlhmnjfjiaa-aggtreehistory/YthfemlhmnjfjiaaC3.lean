/-
  A part of the proof.
-/
import Derived.Test.YthfemlhmnjfjiaaC2
/-
 Of, the program's and the document's, in each case.
-/
namespace Go.Proofs.Ythfemlhmnjfjiaa
open Go.RowKit
theorem lp6 {i1 i2 i3 i4 i5 i6 : Nat} {a1 a2 a3 a4 a5 a6 b1 b2 b3 b4 b5 b6 : Value} (h1 : a1 = b1) (h2 : a2 = b2) (h3 : a3 = b3) (h4 : a4 = b4) (h5 : a5 = b5) (h6 : a6 = b6) : [(i1, a1), (i2, a2), (i3, a3), (i4, a4), (i5, a5), (i6, a6)] = [(i1, b1), (i2, b2), (i3, b3), (i4, b4), (i5, b5), (i6, b6)] := by rw [h1, h2, h3, h4, h5, h6]
section
variable {w : World}
theorem ofError_n (x : Int) : Calls Try.prog 76 #[.int .i64 x] w fun e w' => e = .returned (sm 1 (0) (0) (1) (x) (0) false false (0) (0) false (0) (0)) ∧ Mo w w' := by
 refine w_enter 5 Try.func76 Try.ntmps76 rfl rfl ?_
 have M : Mo w w := Mo.refl _
 refine w_seq (w_reg ?_)
 refine wl_alloc 42 #[.int .i64 0, .int .i64 0, .int .i64 0, .int .i64 0, .int .i64 0, .int .u64 0, .int .u64 0, .int .u64 0, .int .u64 0, .int .u64 0, .bool false, .bool false, .int .u64 0, .int .u64 0, .int .u64 0, .int .u64 0, .int .i64 0, .bool false, .int .u64 0, .int .u64 0, .int .u64 0, .int .u64 0, .int .i64 0] rfl (fun _ => by kernel_rfl) rfl ?_
 intro k1 w1 hk hz hq Q1
 have N_k1 : w.heap.size ≤ k1 := by have := M.size; omega
 replace M := M.trans hq
 clear hk hz hq
 refine w_nil (xn_then (w_seq (w_reg ?_)))
 refine wl_m (.tmp 0) (.int .i64 (x)) ?_
 refine wl_build 42 [(0, (.const (.int .i64 (1)))), (3, (.const (.int .i64 (1)))), (4, (.tmp 3))] [(0, .int .i64 (1)), (3, .int .i64 (1)), (4, .int .i64 (x))] (.agg #[.int .i64 (1), .int .i64 0, .int .i64 0, .int .i64 (1), .int .i64 (x), .int .u64 0, .int .u64 0, .int .u64 0, .int .u64 0, .int .u64 0, .bool false, .bool false, .int .u64 0, .int .u64 0, .int .u64 0, .int .u64 0, .int .i64 0, .bool false, .int .u64 0, .int .u64 0, .int .u64 0, .int .u64 0, .int .i64 0]) rfl rfl (by kernel_rfl) rfl ?_
 refine wl_st 42 (.tmp 2) (.tmp 4) k1 0 #[.int .i64 (1), .int .i64 0, .int .i64 0, .int .i64 (1), .int .i64 (x), .int .u64 0, .int .u64 0, .int .u64 0, .int .u64 0, .int .u64 0, .bool false, .bool false, .int .u64 0, .int .u64 0, .int .u64 0, .int .u64 0, .int .i64 0, .bool false, .int .u64 0, .int .u64 0, .int .u64 0, .int .u64 0, .int .i64 0] _ [.int .i64 (1), .int .i64 0, .int .i64 0, .int .i64 (1), .int .i64 (x), .int .u64 0, .int .u64 0, .int .u64 0, .int .u64 0, .int .u64 0, .bool false, .bool false, .int .u64 0, .int .u64 0, .int .u64 0, .int .u64 0, .int .i64 0, .bool false, .int .u64 0, .int .u64 0, .int .u64 0, .int .u64 0, .int .i64 0] Q1 rfl rfl rfl rfl rfl sz33 rfl rfl rfl ?_
 intro w2 hS Qn
 replace Q1 := Qn
 clear Qn
 replace M := hS.mo _ N_k1 M
 clear hS
 refine w_nil (xn_then (w_ret ?_))
 exact w_ret1 _ (.agg #[.int .i64 (1), .int .i64 0, .int .i64 0, .int .i64 (1), .int .i64 (x), .int .u64 0, .int .u64 0, .int .u64 0, .int .u64 0, .int .u64 0, .bool false, .bool false, .int .u64 0, .int .u64 0, .int .u64 0, .int .u64 0, .int .i64 0, .bool false, .int .u64 0, .int .u64 0, .int .u64 0, .int .u64 0, .int .i64 0]) rfl ⟨k1, rfl, (run_row Q1 42 0 23 _ rfl Try.underlying42 rfl sz33)⟩ ⟨rfl, M⟩
theorem of_a (K : Int) (vb : Bool) (vn vs : Int) (fl : Bool) (tx : ByteArray) (er sc9 : Int) (q0 : decide (K = 0) = true) : Calls Try.prog 65 #[vl10 K vb vn vs fl tx er, .int .i64 sc9] w fun e w' => e = .returned (sm 1 (0) (1) (0) (0) (0) false false (0) (0) false (0) (0)) ∧ Mo w w' := by
 refine w_enter 56 Try.func65 Try.ntmps65 rfl rfl ?_
 have M : Mo w w := Mo.refl _
 refine w_seq (w_reg ?_)
 refine wl_box 55 (.tmp 0) _ (#[.int .i64 (K), .bool vb, .int .u64 (l0 (vn)), .int .u64 (l1 (vn)), .int .u64 (l2 (vn)), .int .u64 (l3 (vn)), .int .i64 (vs), .bool fl, .string tx, .int .i64 (er)]) rfl rfl (fun _ => by kernel_rfl) rfl ?_
 intro k1 w1 hk hz hq Q1
 have N_k1 : w.heap.size ≤ k1 := by have := M.size; omega
 replace M := M.trans hq
 clear hk hz hq
 refine wl_alloc 42 #[.int .i64 0, .int .i64 0, .int .i64 0, .int .i64 0, .int .i64 0, .int .u64 0, .int .u64 0, .int .u64 0, .int .u64 0, .int .u64 0, .bool false, .bool false, .int .u64 0, .int .u64 0, .int .u64 0, .int .u64 0, .int .i64 0, .bool false, .int .u64 0, .int .u64 0, .int .u64 0, .int .u64 0, .int .i64 0] rfl (fun _ => by kernel_rfl) rfl ?_
 intro k2 w2 hk hz hq Q2
 have ne_k1_k2 : k1 ≠ k2 := by have := Q1.lt; omega
 have N_k2 : w.heap.size ≤ k2 := by have := M.size; omega
 replace Q1 := Q1.mo hq
 replace M := M.trans hq
 clear hk hz hq
 refine w_nil (xn_then (w_seq (w_block (w_seq (w_reg ?_)))))
 refine wl_f 55 0 (.tmp 2) (pt k1 0) (pt k1 0) ?_
 refine wl_l 3 (.tmp 6) (pt k1 0) (.int .i64 (K)) (run_one Q1 3 0 rfl Try.underlying3 rfl) ?_
 refine wl_b .eql 3 (.tmp 7) (.const (.int .i64 (0))) (.int .i64 (K)) (.int .i64 (0)) (.bool true) (eqI q0 _ _ _) ?_
 refine wl_m (.tmp 8) (.bool true) ?_
 refine w_nil (xn_then (w_condT rfl (w_seq (w_reg ?_))))
 refine wl_build 42 [(0, (.const (.int .i64 (1)))), (2, (.const (.int .i64 (1))))] [(0, .int .i64 (1)), (2, .int .i64 (1))] (.agg #[.int .i64 (1), .int .i64 0, .int .i64 (1), .int .i64 0, .int .i64 0, .int .u64 0, .int .u64 0, .int .u64 0, .int .u64 0, .int .u64 0, .bool false, .bool false, .int .u64 0, .int .u64 0, .int .u64 0, .int .u64 0, .int .i64 0, .bool false, .int .u64 0, .int .u64 0, .int .u64 0, .int .u64 0, .int .i64 0]) rfl rfl (by kernel_rfl) rfl ?_
 refine wl_st 42 (.tmp 4) (.tmp 9) k2 0 #[.int .i64 (1), .int .i64 0, .int .i64 (1), .int .i64 0, .int .i64 0, .int .u64 0, .int .u64 0, .int .u64 0, .int .u64 0, .int .u64 0, .bool false, .bool false, .int .u64 0, .int .u64 0, .int .u64 0, .int .u64 0, .int .i64 0, .bool false, .int .u64 0, .int .u64 0, .int .u64 0, .int .u64 0, .int .i64 0] _ [.int .i64 (1), .int .i64 0, .int .i64 (1), .int .i64 0, .int .i64 0, .int .u64 0, .int .u64 0, .int .u64 0, .int .u64 0, .int .u64 0, .bool false, .bool false, .int .u64 0, .int .u64 0, .int .u64 0, .int .u64 0, .int .i64 0, .bool false, .int .u64 0, .int .u64 0, .int .u64 0, .int .u64 0, .int .i64 0] Q2 rfl rfl rfl rfl rfl sz33 rfl rfl rfl ?_
 intro w3 hS Qn
 replace Q2 := Qn
 clear Qn
 replace Q1 := hS.other _ _ ne_k1_k2 Q1
 replace M := hS.mo _ N_k2 M
 clear hS
 refine w_nil (xn_then (w_ret (xr_blk (xr_then ?_))))
 exact w_ret1 _ (.agg #[.int .i64 (1), .int .i64 0, .int .i64 (1), .int .i64 0, .int .i64 0, .int .u64 0, .int .u64 0, .int .u64 0, .int .u64 0, .int .u64 0, .bool false, .bool false, .int .u64 0, .int .u64 0, .int .u64 0, .int .u64 0, .int .i64 0, .bool false, .int .u64 0, .int .u64 0, .int .u64 0, .int .u64 0, .int .i64 0]) rfl ⟨k2, rfl, (run_row Q2 42 0 23 _ rfl Try.underlying42 rfl sz33)⟩ ⟨rfl, M⟩
theorem of_b (K : Int) (vb : Bool) (vn vs : Int) (fl : Bool) (tx : ByteArray) (er sc9 : Int) (q0 : decide (K = 0) = false) (q4 : decide (K = 4) = true) (qe : decide (1 ≤ er) = true) : Calls Try.prog 65 #[vl10 K vb vn vs fl tx er, .int .i64 sc9] w fun e w' => e = .returned (sm 1 (0) (0) (1) (er) (0) false false (0) (0) false (0) (0)) ∧ Mo w w' := by
 refine w_enter 56 Try.func65 Try.ntmps65 rfl rfl ?_
 have M : Mo w w := Mo.refl _
 refine w_seq (w_reg ?_)
 refine wl_box 55 (.tmp 0) _ (#[.int .i64 (K), .bool vb, .int .u64 (l0 (vn)), .int .u64 (l1 (vn)), .int .u64 (l2 (vn)), .int .u64 (l3 (vn)), .int .i64 (vs), .bool fl, .string tx, .int .i64 (er)]) rfl rfl (fun _ => by kernel_rfl) rfl ?_
 intro k1 w1 hk hz hq Q1
 have N_k1 : w.heap.size ≤ k1 := by have := M.size; omega
 replace M := M.trans hq
 clear hk hz hq
 refine wl_alloc 42 #[.int .i64 0, .int .i64 0, .int .i64 0, .int .i64 0, .int .i64 0, .int .u64 0, .int .u64 0, .int .u64 0, .int .u64 0, .int .u64 0, .bool false, .bool false, .int .u64 0, .int .u64 0, .int .u64 0, .int .u64 0, .int .i64 0, .bool false, .int .u64 0, .int .u64 0, .int .u64 0, .int .u64 0, .int .i64 0] rfl (fun _ => by kernel_rfl) rfl ?_
 intro k2 w2 hk hz hq Q2
 have ne_k1_k2 : k1 ≠ k2 := by have := Q1.lt; omega
 have N_k2 : w.heap.size ≤ k2 := by have := M.size; omega
 replace Q1 := Q1.mo hq
 replace M := M.trans hq
 clear hk hz hq
 refine w_nil (xn_then (w_seq (w_block (w_seq (w_reg ?_)))))
 refine wl_f 55 0 (.tmp 2) (pt k1 0) (pt k1 0) ?_
 refine wl_l 3 (.tmp 6) (pt k1 0) (.int .i64 (K)) (run_one Q1 3 0 rfl Try.underlying3 rfl) ?_
 refine wl_b .eql 3 (.tmp 7) (.const (.int .i64 (0))) (.int .i64 (K)) (.int .i64 (0)) (.bool false) (eqI q0 _ _ _) ?_
 refine wl_m (.tmp 8) (.bool false) ?_
 refine w_nil (xn_then (w_condF rfl (w_seq (w_reg ?_))))
 refine wl_f 55 0 (.tmp 2) (pt k1 0) (pt k1 0) ?_
 refine wl_l 3 (.tmp 11) (pt k1 0) (.int .i64 (K)) (run_one Q1 3 0 rfl Try.underlying3 rfl) ?_
 refine wl_b .eql 3 (.tmp 12) (.const (.int .i64 (4))) (.int .i64 (K)) (.int .i64 (4)) (.bool true) (eqI q4 _ _ _) ?_
 refine wl_m (.tmp 13) (.bool true) ?_
 refine wl_f 55 4 (.tmp 2) (pt k1 0) (pt k1 9) ?_
 refine wl_l 3 (.tmp 15) (pt k1 9) (.int .i64 (er)) (run_one Q1 3 9 rfl Try.underlying3 rfl) ?_
 refine wl_b .geq 3 (.tmp 16) (.const (.int .i64 (1))) (.int .i64 (er)) (.int .i64 (1)) (.bool true) (geI qe _ _ _) ?_
 refine wl_pick (.tmp 14) (.tmp 17) (.const (.bool false)) true (.bool true) (fun _ => rfl) rfl rfl rfl ?_
 refine wl_m (.tmp 18) (.bool true) ?_
 refine w_nil (xn_then (w_condT rfl (w_seq (w_reg ?_))))
 refine wl_f 55 4 (.tmp 2) (pt k1 0) (pt k1 9) ?_
 refine wl_l 3 (.tmp 19) (pt k1 9) (.int .i64 (er)) (run_one Q1 3 9 rfl Try.underlying3 rfl) ?_
 refine wl_call 76 [(.tmp 20)] _ [.int .i64 (er)] (.agg #[.int .i64 (1), .int .i64 (0), .int .i64 (0), .int .i64 (1), .int .i64 (er), .int .u64 (l0 (0)), .int .u64 (l1 (0)), .int .u64 (l2 (0)), .int .u64 (l3 (0)), .int .u64 (l4 (0)), .bool false, .bool false, .int .u64 (l0 (0)), .int .u64 (l1 (0)), .int .u64 (l2 (0)), .int .u64 (l3 (0)), .int .i64 (0), .bool false, .int .u64 (l0 (0)), .int .u64 (l1 (0)), .int .u64 (l2 (0)), .int .u64 (l3 (0)), .int .i64 (0)]) rfl rfl (fun _ _ => by kernel_rfl) (ofError_n (er)) rfl ?_
 intro w3 hq
 replace Q1 := Q1.mo hq
 replace Q2 := Q2.mo hq
 replace M := M.trans hq
 clear hq
 refine wl_st 42 (.tmp 4) (.tmp 21) k2 0 #[.int .i64 (1), .int .i64 (0), .int .i64 (0), .int .i64 (1), .int .i64 (er), .int .u64 (l0 (0)), .int .u64 (l1 (0)), .int .u64 (l2 (0)), .int .u64 (l3 (0)), .int .u64 (l4 (0)), .bool false, .bool false, .int .u64 (l0 (0)), .int .u64 (l1 (0)), .int .u64 (l2 (0)), .int .u64 (l3 (0)), .int .i64 (0), .bool false, .int .u64 (l0 (0)), .int .u64 (l1 (0)), .int .u64 (l2 (0)), .int .u64 (l3 (0)), .int .i64 (0)] _ [.int .i64 (1), .int .i64 (0), .int .i64 (0), .int .i64 (1), .int .i64 (er), .int .u64 (l0 (0)), .int .u64 (l1 (0)), .int .u64 (l2 (0)), .int .u64 (l3 (0)), .int .u64 (l4 (0)), .bool false, .bool false, .int .u64 (l0 (0)), .int .u64 (l1 (0)), .int .u64 (l2 (0)), .int .u64 (l3 (0)), .int .i64 (0), .bool false, .int .u64 (l0 (0)), .int .u64 (l1 (0)), .int .u64 (l2 (0)), .int .u64 (l3 (0)), .int .i64 (0)] Q2 rfl rfl rfl rfl rfl sz33 rfl rfl rfl ?_
 intro w4 hS Qn
 replace Q2 := Qn
 clear Qn
 replace Q1 := hS.other _ _ ne_k1_k2 Q1
 replace M := hS.mo _ N_k2 M
 clear hS
 refine w_nil (xn_then (w_ret (xr_blk (xr_then ?_))))
 exact w_ret1 _ (.agg #[.int .i64 (1), .int .i64 (0), .int .i64 (0), .int .i64 (1), .int .i64 (er), .int .u64 (l0 (0)), .int .u64 (l1 (0)), .int .u64 (l2 (0)), .int .u64 (l3 (0)), .int .u64 (l4 (0)), .bool false, .bool false, .int .u64 (l0 (0)), .int .u64 (l1 (0)), .int .u64 (l2 (0)), .int .u64 (l3 (0)), .int .i64 (0), .bool false, .int .u64 (l0 (0)), .int .u64 (l1 (0)), .int .u64 (l2 (0)), .int .u64 (l3 (0)), .int .i64 (0)]) rfl ⟨k2, rfl, (run_row Q2 42 0 23 _ rfl Try.underlying42 rfl sz33)⟩ ⟨rfl, M⟩
theorem of_c (K : Int) (vb : Bool) (vn vs : Int) (fl : Bool) (tx : ByteArray) (er sc9 : Int) (q0 : decide (K = 0) = false) (q4 : decide (K = 4) = true) (qe : decide (1 ≤ er) = false) (q1 : decide (K = 1) = false) (q2 : decide (K = 2) = false) (q3 : decide (K = 3) = false) : Calls Try.prog 65 #[vl10 K vb vn vs fl tx er, .int .i64 sc9] w fun e w' => e = .returned (sm 1 (0) (0) (1) (2) (0) false false (0) (0) false (0) (0)) ∧ Mo w w' := by
 refine w_enter 56 Try.func65 Try.ntmps65 rfl rfl ?_
 have M : Mo w w := Mo.refl _
 refine w_seq (w_reg ?_)
 refine wl_box 55 (.tmp 0) _ (#[.int .i64 (K), .bool vb, .int .u64 (l0 (vn)), .int .u64 (l1 (vn)), .int .u64 (l2 (vn)), .int .u64 (l3 (vn)), .int .i64 (vs), .bool fl, .string tx, .int .i64 (er)]) rfl rfl (fun _ => by kernel_rfl) rfl ?_
 intro k1 w1 hk hz hq Q1
 have N_k1 : w.heap.size ≤ k1 := by have := M.size; omega
 replace M := M.trans hq
 clear hk hz hq
 refine wl_alloc 42 #[.int .i64 0, .int .i64 0, .int .i64 0, .int .i64 0, .int .i64 0, .int .u64 0, .int .u64 0, .int .u64 0, .int .u64 0, .int .u64 0, .bool false, .bool false, .int .u64 0, .int .u64 0, .int .u64 0, .int .u64 0, .int .i64 0, .bool false, .int .u64 0, .int .u64 0, .int .u64 0, .int .u64 0, .int .i64 0] rfl (fun _ => by kernel_rfl) rfl ?_
 intro k2 w2 hk hz hq Q2
 have ne_k1_k2 : k1 ≠ k2 := by have := Q1.lt; omega
 have N_k2 : w.heap.size ≤ k2 := by have := M.size; omega
 replace Q1 := Q1.mo hq
 replace M := M.trans hq
 clear hk hz hq
 refine w_nil (xn_then (w_seq (w_block (w_seq (w_reg ?_)))))
 refine wl_f 55 0 (.tmp 2) (pt k1 0) (pt k1 0) ?_
 refine wl_l 3 (.tmp 6) (pt k1 0) (.int .i64 (K)) (run_one Q1 3 0 rfl Try.underlying3 rfl) ?_
 refine wl_b .eql 3 (.tmp 7) (.const (.int .i64 (0))) (.int .i64 (K)) (.int .i64 (0)) (.bool false) (eqI q0 _ _ _) ?_
 refine wl_m (.tmp 8) (.bool false) ?_
 refine w_nil (xn_then (w_condF rfl (w_seq (w_reg ?_))))
 refine wl_f 55 0 (.tmp 2) (pt k1 0) (pt k1 0) ?_
 refine wl_l 3 (.tmp 11) (pt k1 0) (.int .i64 (K)) (run_one Q1 3 0 rfl Try.underlying3 rfl) ?_
 refine wl_b .eql 3 (.tmp 12) (.const (.int .i64 (4))) (.int .i64 (K)) (.int .i64 (4)) (.bool true) (eqI q4 _ _ _) ?_
 refine wl_m (.tmp 13) (.bool true) ?_
 refine wl_f 55 4 (.tmp 2) (pt k1 0) (pt k1 9) ?_
 refine wl_l 3 (.tmp 15) (pt k1 9) (.int .i64 (er)) (run_one Q1 3 9 rfl Try.underlying3 rfl) ?_
 refine wl_b .geq 3 (.tmp 16) (.const (.int .i64 (1))) (.int .i64 (er)) (.int .i64 (1)) (.bool false) (geI qe _ _ _) ?_
 refine wl_pick (.tmp 14) (.tmp 17) (.const (.bool false)) true (.bool false) (fun _ => rfl) rfl rfl rfl ?_
 refine wl_m (.tmp 18) (.bool false) ?_
 refine w_nil (xn_then (w_condF rfl (w_seq (w_reg ?_))))
 refine wl_f 55 0 (.tmp 2) (pt k1 0) (pt k1 0) ?_
 refine wl_l 3 (.tmp 23) (pt k1 0) (.int .i64 (K)) (run_one Q1 3 0 rfl Try.underlying3 rfl) ?_
 refine wl_b .eql 3 (.tmp 24) (.const (.int .i64 (1))) (.int .i64 (K)) (.int .i64 (1)) (.bool false) (eqI q1 _ _ _) ?_
 refine wl_m (.tmp 25) (.bool false) ?_
 refine wl_skip rfl (wl_skip rfl (wl_skip rfl (wl_skip rfl (wl_skip rfl ?_))))
 refine wl_pick (.tmp 26) (.tmp 31) (.const (.bool false)) false (.bool false) (fun _ => rfl) rfl rfl rfl ?_
 refine wl_m (.tmp 32) (.bool false) ?_
 refine wl_skip rfl (wl_skip rfl (wl_skip rfl (wl_skip rfl ?_)))
 refine wl_pick (.tmp 33) (.tmp 37) (.const (.bool false)) false (.bool false) (fun _ => rfl) rfl rfl rfl ?_
 refine wl_m (.tmp 38) (.bool false) ?_
 refine w_nil (xn_then (w_condF rfl (w_seq (w_seq (w_reg ?_)))))
 refine wl_f 55 0 (.tmp 2) (pt k1 0) (pt k1 0) ?_
 refine wl_l 3 (.tmp 48) (pt k1 0) (.int .i64 (K)) (run_one Q1 3 0 rfl Try.underlying3 rfl) ?_
 refine wl_b .eql 3 (.tmp 49) (.const (.int .i64 (2))) (.int .i64 (K)) (.int .i64 (2)) (.bool false) (eqI q2 _ _ _) ?_
 refine wl_m (.tmp 50) (.bool false) ?_
 refine w_nil (xn_then (w_condF rfl (w_reg ?_)))
 refine wl_f 55 0 (.tmp 2) (pt k1 0) (pt k1 0) ?_
 refine wl_l 3 (.tmp 51) (pt k1 0) (.int .i64 (K)) (run_one Q1 3 0 rfl Try.underlying3 rfl) ?_
 refine wl_b .eql 3 (.tmp 52) (.const (.int .i64 (3))) (.int .i64 (K)) (.int .i64 (3)) (.bool false) (eqI q3 _ _ _) ?_
 refine wl_m (.tmp 53) (.bool false) ?_
 refine w_nil (xn_then (w_condF rfl (w_skip (xn_blk (xn_then (w_seq (w_reg ?_)))))))
 refine wl_call 76 [(.const (.int .i64 (2)))] _ [.int .i64 (2)] (.agg #[.int .i64 (1), .int .i64 (0), .int .i64 (0), .int .i64 (1), .int .i64 (2), .int .u64 (l0 (0)), .int .u64 (l1 (0)), .int .u64 (l2 (0)), .int .u64 (l3 (0)), .int .u64 (l4 (0)), .bool false, .bool false, .int .u64 (l0 (0)), .int .u64 (l1 (0)), .int .u64 (l2 (0)), .int .u64 (l3 (0)), .int .i64 (0), .bool false, .int .u64 (l0 (0)), .int .u64 (l1 (0)), .int .u64 (l2 (0)), .int .u64 (l3 (0)), .int .i64 (0)]) rfl rfl (fun _ _ => by kernel_rfl) (ofError_n (2)) rfl ?_
 intro w3 hq
 replace Q1 := Q1.mo hq
 replace Q2 := Q2.mo hq
 replace M := M.trans hq
 clear hq
 refine wl_st 42 (.tmp 4) (.tmp 55) k2 0 #[.int .i64 (1), .int .i64 (0), .int .i64 (0), .int .i64 (1), .int .i64 (2), .int .u64 (l0 (0)), .int .u64 (l1 (0)), .int .u64 (l2 (0)), .int .u64 (l3 (0)), .int .u64 (l4 (0)), .bool false, .bool false, .int .u64 (l0 (0)), .int .u64 (l1 (0)), .int .u64 (l2 (0)), .int .u64 (l3 (0)), .int .i64 (0), .bool false, .int .u64 (l0 (0)), .int .u64 (l1 (0)), .int .u64 (l2 (0)), .int .u64 (l3 (0)), .int .i64 (0)] _ [.int .i64 (1), .int .i64 (0), .int .i64 (0), .int .i64 (1), .int .i64 (2), .int .u64 (l0 (0)), .int .u64 (l1 (0)), .int .u64 (l2 (0)), .int .u64 (l3 (0)), .int .u64 (l4 (0)), .bool false, .bool false, .int .u64 (l0 (0)), .int .u64 (l1 (0)), .int .u64 (l2 (0)), .int .u64 (l3 (0)), .int .i64 (0), .bool false, .int .u64 (l0 (0)), .int .u64 (l1 (0)), .int .u64 (l2 (0)), .int .u64 (l3 (0)), .int .i64 (0)] Q2 rfl rfl rfl rfl rfl sz33 rfl rfl rfl ?_
 intro w4 hS Qn
 replace Q2 := Qn
 clear Qn
 replace Q1 := hS.other _ _ ne_k1_k2 Q1
 replace M := hS.mo _ N_k2 M
 clear hS
 refine w_nil (xn_then (w_ret ?_))
 exact w_ret1 _ (.agg #[.int .i64 (1), .int .i64 (0), .int .i64 (0), .int .i64 (1), .int .i64 (2), .int .u64 (l0 (0)), .int .u64 (l1 (0)), .int .u64 (l2 (0)), .int .u64 (l3 (0)), .int .u64 (l4 (0)), .bool false, .bool false, .int .u64 (l0 (0)), .int .u64 (l1 (0)), .int .u64 (l2 (0)), .int .u64 (l3 (0)), .int .i64 (0), .bool false, .int .u64 (l0 (0)), .int .u64 (l1 (0)), .int .u64 (l2 (0)), .int .u64 (l3 (0)), .int .i64 (0)]) rfl ⟨k2, rfl, (run_row Q2 42 0 23 _ rfl Try.underlying42 rfl sz33)⟩ ⟨rfl, M⟩
theorem of_d (K : Int) (vb : Bool) (vn vs : Int) (fl : Bool) (tx : ByteArray) (er sc9 : Int) (hn0 : 0 ≤ vn) (hn : vn < MM) (q0 : decide (K = 0) = false) (q4 : decide (K = 4) = false) (q1 : decide (K = 1) = true) (qs : decide (vs = sc9) = true) (qc : decide (ck vb vn vs = 0) = true) : Calls Try.prog 65 #[vl10 K vb vn vs fl tx er, .int .i64 sc9] w fun e w' => e = .returned (sm 1 (1) (0) (0) (0) (sv vb vn) true vb (vn) (vs) vb (vn) (vs)) ∧ Mo w w' := by
 refine w_enter 56 Try.func65 Try.ntmps65 rfl rfl ?_
 have M : Mo w w := Mo.refl _
 refine w_seq (w_reg ?_)
 refine wl_box 55 (.tmp 0) _ (#[.int .i64 (K), .bool vb, .int .u64 (l0 (vn)), .int .u64 (l1 (vn)), .int .u64 (l2 (vn)), .int .u64 (l3 (vn)), .int .i64 (vs), .bool fl, .string tx, .int .i64 (er)]) rfl rfl (fun _ => by kernel_rfl) rfl ?_
 intro k1 w1 hk hz hq Q1
 have N_k1 : w.heap.size ≤ k1 := by have := M.size; omega
 replace M := M.trans hq
 clear hk hz hq
 refine wl_alloc 42 #[.int .i64 0, .int .i64 0, .int .i64 0, .int .i64 0, .int .i64 0, .int .u64 0, .int .u64 0, .int .u64 0, .int .u64 0, .int .u64 0, .bool false, .bool false, .int .u64 0, .int .u64 0, .int .u64 0, .int .u64 0, .int .i64 0, .bool false, .int .u64 0, .int .u64 0, .int .u64 0, .int .u64 0, .int .i64 0] rfl (fun _ => by kernel_rfl) rfl ?_
 intro k2 w2 hk hz hq Q2
 have ne_k1_k2 : k1 ≠ k2 := by have := Q1.lt; omega
 have N_k2 : w.heap.size ≤ k2 := by have := M.size; omega
 replace Q1 := Q1.mo hq
 replace M := M.trans hq
 clear hk hz hq
 refine w_nil (xn_then (w_seq (w_block (w_seq (w_reg ?_)))))
 refine wl_f 55 0 (.tmp 2) (pt k1 0) (pt k1 0) ?_
 refine wl_l 3 (.tmp 6) (pt k1 0) (.int .i64 (K)) (run_one Q1 3 0 rfl Try.underlying3 rfl) ?_
 refine wl_b .eql 3 (.tmp 7) (.const (.int .i64 (0))) (.int .i64 (K)) (.int .i64 (0)) (.bool false) (eqI q0 _ _ _) ?_
 refine wl_m (.tmp 8) (.bool false) ?_
 refine w_nil (xn_then (w_condF rfl (w_seq (w_reg ?_))))
 refine wl_f 55 0 (.tmp 2) (pt k1 0) (pt k1 0) ?_
 refine wl_l 3 (.tmp 11) (pt k1 0) (.int .i64 (K)) (run_one Q1 3 0 rfl Try.underlying3 rfl) ?_
 refine wl_b .eql 3 (.tmp 12) (.const (.int .i64 (4))) (.int .i64 (K)) (.int .i64 (4)) (.bool false) (eqI q4 _ _ _) ?_
 refine wl_m (.tmp 13) (.bool false) ?_
 refine wl_skip rfl (wl_skip rfl (wl_skip rfl ?_))
 refine wl_pick (.tmp 14) (.tmp 17) (.const (.bool false)) false (.bool false) (fun _ => rfl) rfl rfl rfl ?_
 refine wl_m (.tmp 18) (.bool false) ?_
 refine w_nil (xn_then (w_condF rfl (w_seq (w_reg ?_))))
 refine wl_f 55 0 (.tmp 2) (pt k1 0) (pt k1 0) ?_
 refine wl_l 3 (.tmp 23) (pt k1 0) (.int .i64 (K)) (run_one Q1 3 0 rfl Try.underlying3 rfl) ?_
 refine wl_b .eql 3 (.tmp 24) (.const (.int .i64 (1))) (.int .i64 (K)) (.int .i64 (1)) (.bool true) (eqI q1 _ _ _) ?_
 refine wl_m (.tmp 25) (.bool true) ?_
 refine wl_f 55 1 (.tmp 2) (pt k1 0) (pt k1 1) ?_
 refine wl_f 40 2 (.tmp 27) (pt k1 1) (pt k1 6) ?_
 refine wl_l 3 (.tmp 28) (pt k1 6) (.int .i64 (vs)) (run_one Q1 3 6 rfl Try.underlying3 rfl) ?_
 refine wl_m (.tmp 1) (.int .i64 (sc9)) ?_
 refine wl_b .eql 3 (.tmp 29) (.tmp 30) (.int .i64 (vs)) (.int .i64 (sc9)) (.bool true) (eqI qs _ _ _) ?_
 refine wl_pick (.tmp 26) (.tmp 31) (.const (.bool false)) true (.bool true) (fun _ => rfl) rfl rfl rfl ?_
 refine wl_m (.tmp 32) (.bool true) ?_
 refine wl_f 55 1 (.tmp 2) (pt k1 0) (pt k1 1) ?_
 refine wl_l 40 (.tmp 34) (pt k1 1) (.agg #[.bool vb, .int .u64 (l0 (vn)), .int .u64 (l1 (vn)), .int .u64 (l2 (vn)), .int .u64 (l3 (vn)), .int .i64 (vs)]) (run_row Q1 40 1 6 _ rfl Try.underlying40 rfl sz26) ?_
 refine wl_call 77 [(.tmp 35)] _ [.agg #[.bool vb, .int .u64 (l0 (vn)), .int .u64 (l1 (vn)), .int .u64 (l2 (vn)), .int .u64 (l3 (vn)), .int .i64 (vs)]] (.int .i64 (ck vb vn vs)) rfl rfl (fun _ _ => by kernel_rfl) (check_n vb vn vs _ hn0 hn) rfl ?_
 intro w3 hq
 replace Q1 := Q1.mo hq
 replace Q2 := Q2.mo hq
 replace M := M.trans hq
 clear hq
 refine wl_b .eql 25 (.tmp 36) (.const (.int .i64 (0))) (.int .i64 (ck vb vn vs)) (.int .i64 (0)) (.bool true) (eqE qc _ _ _) ?_
 refine wl_pick (.tmp 33) (.tmp 37) (.const (.bool false)) true (.bool true) (fun _ => rfl) rfl rfl rfl ?_
 refine wl_m (.tmp 38) (.bool true) ?_
 refine w_nil (xn_then (w_condT rfl (w_seq ?_)))
 refine w_any 8 [.inl (pt k1 1), .inl (.agg #[.bool vb, .int .u64 (l0 (vn)), .int .u64 (l1 (vn)), .int .u64 (l2 (vn)), .int .u64 (l3 (vn)), .int .i64 (vs)]), .inl (.agg #[.int .u64 (l0 (sv vb vn)), .int .u64 (l1 (sv vb vn)), .int .u64 (l2 (sv vb vn)), .int .u64 (l3 (sv vb vn)), .int .u64 (l4 (sv vb vn))]), .inl (pt k1 1), .inl (.agg #[.bool vb, .int .u64 (l0 (vn)), .int .u64 (l1 (vn)), .int .u64 (l2 (vn)), .int .u64 (l3 (vn)), .int .i64 (vs)]), .inl (pt k1 1), .inl (.agg #[.bool vb, .int .u64 (l0 (vn)), .int .u64 (l1 (vn)), .int .u64 (l2 (vn)), .int .u64 (l3 (vn)), .int .i64 (vs)]), .inl (.agg #[.int .i64 (1), .int .i64 (1), .int .i64 0, .int .i64 0, .int .i64 0, .int .u64 (l0 (sv vb vn)), .int .u64 (l1 (sv vb vn)), .int .u64 (l2 (sv vb vn)), .int .u64 (l3 (sv vb vn)), .int .u64 (l4 (sv vb vn)), .bool true, .bool vb, .int .u64 (l0 (vn)), .int .u64 (l1 (vn)), .int .u64 (l2 (vn)), .int .u64 (l3 (vn)), .int .i64 (vs), .bool vb, .int .u64 (l0 (vn)), .int .u64 (l1 (vn)), .int .u64 (l2 (vn)), .int .u64 (l3 (vn)), .int .i64 (vs)])] [] (by kernel_rfl) (by kernel_rfl) (by kernel_rfl) (by kernel_rfl) rfl (by kernel_rfl) (by kernel_rfl) late_nil ?_ ?_ ?_
 ·exact Ds.none rfl
 ·refine ea_cons ?_ (ea_cons ?_ (ea_cons ?_ (ea_cons ?_ (ea_cons ?_ (ea_cons ?_ (ea_cons ?_ (ea_cons ?_ (ea_nil))))))))
  ·exact og_eq _ rfl (fun f wf hq hd K hK => go_run rfl (wo_un (fun v => Instr.fieldAt 55 v 1) (.tmp 2) (pt k1 0) (pt k1 1) (fun _ => rfl) rfl (by kernel_rfl) (hK _ (Mo.refl _))))
  ·exact og_eq _ rfl (fun f wf hq hd K hK => have Q1 := Q1.mo hq; go_run rfl (wo_load 40 (.tmp 39) (pt k1 1) (.agg #[.bool vb, .int .u64 (l0 (vn)), .int .u64 (l1 (vn)), .int .u64 (l2 (vn)), .int .u64 (l3 (vn)), .int .i64 (vs)]) rfl (hd 0 rfl) (run_row Q1 40 1 6 _ rfl Try.underlying40 rfl sz26) (hK _ (Mo.refl _))))
  ·exact og_eq _ rfl (fun f wf hq hd K hK => go_run rfl (wo_call 78 [(.tmp 40)] _ [.agg #[.bool vb, .int .u64 (l0 (vn)), .int .u64 (l1 (vn)), .int .u64 (l2 (vn)), .int .u64 (l3 (vn)), .int .i64 (vs)]] (.agg #[.int .u64 (l0 (sv vb vn)), .int .u64 (l1 (sv vb vn)), .int .u64 (l2 (sv vb vn)), .int .u64 (l3 (sv vb vn)), .int .u64 (l4 (sv vb vn))]) rfl (li1 (hd 1 rfl)) (fun _ _ => by kernel_rfl) (widen_n vb vn vs hn0 hn) hK))
  ·exact og_eq _ rfl (fun f wf hq hd K hK => go_run rfl (wo_un (fun v => Instr.fieldAt 55 v 1) (.tmp 2) (pt k1 0) (pt k1 1) (fun _ => rfl) rfl (by kernel_rfl) (hK _ (Mo.refl _))))
  ·exact og_eq _ rfl (fun f wf hq hd K hK => have Q1 := Q1.mo hq; go_run rfl (wo_load 40 (.tmp 42) (pt k1 1) (.agg #[.bool vb, .int .u64 (l0 (vn)), .int .u64 (l1 (vn)), .int .u64 (l2 (vn)), .int .u64 (l3 (vn)), .int .i64 (vs)]) rfl (hd 3 rfl) (run_row Q1 40 1 6 _ rfl Try.underlying40 rfl sz26) (hK _ (Mo.refl _))))
  ·exact og_eq _ rfl (fun f wf hq hd K hK => go_run rfl (wo_un (fun v => Instr.fieldAt 55 v 1) (.tmp 2) (pt k1 0) (pt k1 1) (fun _ => rfl) rfl (by kernel_rfl) (hK _ (Mo.refl _))))
  ·exact og_eq _ rfl (fun f wf hq hd K hK => have Q1 := Q1.mo hq; go_run rfl (wo_load 40 (.tmp 44) (pt k1 1) (.agg #[.bool vb, .int .u64 (l0 (vn)), .int .u64 (l1 (vn)), .int .u64 (l2 (vn)), .int .u64 (l3 (vn)), .int .i64 (vs)]) rfl (hd 5 rfl) (run_row Q1 40 1 6 _ rfl Try.underlying40 rfl sz26) (hK _ (Mo.refl _))))
  ·exact og_eq _ rfl (fun f wf hq hd K hK => go_run rfl (wo_build 42 [(0, (.const (.int .i64 (1)))), (1, (.const (.int .i64 (1)))), (5, (.tmp 41)), (6, (.const (.bool true))), (7, (.tmp 43)), (8, (.tmp 45))] [(0, .int .i64 (1)), (1, .int .i64 (1)), (5, .agg #[.int .u64 (l0 (sv vb vn)), .int .u64 (l1 (sv vb vn)), .int .u64 (l2 (sv vb vn)), .int .u64 (l3 (sv vb vn)), .int .u64 (l4 (sv vb vn))]), (6, .bool true), (7, .agg #[.bool vb, .int .u64 (l0 (vn)), .int .u64 (l1 (vn)), .int .u64 (l2 (vn)), .int .u64 (l3 (vn)), .int .i64 (vs)]), (8, .agg #[.bool vb, .int .u64 (l0 (vn)), .int .u64 (l1 (vn)), .int .u64 (l2 (vn)), .int .u64 (l3 (vn)), .int .i64 (vs)])] (.agg #[.int .i64 (1), .int .i64 (1), .int .i64 0, .int .i64 0, .int .i64 0, .int .u64 (l0 (sv vb vn)), .int .u64 (l1 (sv vb vn)), .int .u64 (l2 (sv vb vn)), .int .u64 (l3 (sv vb vn)), .int .u64 (l4 (sv vb vn)), .bool true, .bool vb, .int .u64 (l0 (vn)), .int .u64 (l1 (vn)), .int .u64 (l2 (vn)), .int .u64 (l3 (vn)), .int .i64 (vs), .bool vb, .int .u64 (l0 (vn)), .int .u64 (l1 (vn)), .int .u64 (l2 (vn)), .int .u64 (l3 (vn)), .int .i64 (vs)]) rfl (lp6 rfl rfl (hd 2 rfl) rfl (hd 4 rfl) (hd 6 rfl)) (by kernel_rfl) (hK _ (Mo.refl _))))
 intro kf4 w4 hq hR hne
 replace Q1 := Q1.mo hq
 replace Q2 := Q2.mo hq
 replace M := M.trans hq
 clear hq hR hne
 refine wl_st 42 (.tmp 4) (.tmp 46) k2 0 #[.int .i64 (1), .int .i64 (1), .int .i64 0, .int .i64 0, .int .i64 0, .int .u64 (l0 (sv vb vn)), .int .u64 (l1 (sv vb vn)), .int .u64 (l2 (sv vb vn)), .int .u64 (l3 (sv vb vn)), .int .u64 (l4 (sv vb vn)), .bool true, .bool vb, .int .u64 (l0 (vn)), .int .u64 (l1 (vn)), .int .u64 (l2 (vn)), .int .u64 (l3 (vn)), .int .i64 (vs), .bool vb, .int .u64 (l0 (vn)), .int .u64 (l1 (vn)), .int .u64 (l2 (vn)), .int .u64 (l3 (vn)), .int .i64 (vs)] _ [.int .i64 (1), .int .i64 (1), .int .i64 0, .int .i64 0, .int .i64 0, .int .u64 (l0 (sv vb vn)), .int .u64 (l1 (sv vb vn)), .int .u64 (l2 (sv vb vn)), .int .u64 (l3 (sv vb vn)), .int .u64 (l4 (sv vb vn)), .bool true, .bool vb, .int .u64 (l0 (vn)), .int .u64 (l1 (vn)), .int .u64 (l2 (vn)), .int .u64 (l3 (vn)), .int .i64 (vs), .bool vb, .int .u64 (l0 (vn)), .int .u64 (l1 (vn)), .int .u64 (l2 (vn)), .int .u64 (l3 (vn)), .int .i64 (vs)] Q2 rfl rfl rfl rfl rfl sz33 rfl rfl rfl ?_
 intro w5 hS Qn
 replace Q2 := Qn
 clear Qn
 replace Q1 := hS.other _ _ ne_k1_k2 Q1
 replace M := hS.mo _ N_k2 M
 clear hS
 refine w_nil (xn_then (w_ret (xr_blk (xr_then ?_))))
 exact w_ret1 _ (.agg #[.int .i64 (1), .int .i64 (1), .int .i64 0, .int .i64 0, .int .i64 0, .int .u64 (l0 (sv vb vn)), .int .u64 (l1 (sv vb vn)), .int .u64 (l2 (sv vb vn)), .int .u64 (l3 (sv vb vn)), .int .u64 (l4 (sv vb vn)), .bool true, .bool vb, .int .u64 (l0 (vn)), .int .u64 (l1 (vn)), .int .u64 (l2 (vn)), .int .u64 (l3 (vn)), .int .i64 (vs), .bool vb, .int .u64 (l0 (vn)), .int .u64 (l1 (vn)), .int .u64 (l2 (vn)), .int .u64 (l3 (vn)), .int .i64 (vs)]) rfl ⟨k2, rfl, (run_row Q2 42 0 23 _ rfl Try.underlying42 rfl sz33)⟩ ⟨rfl, M⟩
theorem of_e (K : Int) (vb : Bool) (vn vs : Int) (fl : Bool) (tx : ByteArray) (er sc9 : Int) (q0 : decide (K = 0) = false) (q4 : decide (K = 4) = false) (q1 : decide (K = 1) = true) (qs : decide (vs = sc9) = false) (q2 : decide (K = 2) = false) (q3 : decide (K = 3) = false) : Calls Try.prog 65 #[vl10 K vb vn vs fl tx er, .int .i64 sc9] w fun e w' => e = .returned (sm 1 (0) (0) (1) (2) (0) false false (0) (0) false (0) (0)) ∧ Mo w w' := by
 refine w_enter 56 Try.func65 Try.ntmps65 rfl rfl ?_
 have M : Mo w w := Mo.refl _
 refine w_seq (w_reg ?_)
 refine wl_box 55 (.tmp 0) _ (#[.int .i64 (K), .bool vb, .int .u64 (l0 (vn)), .int .u64 (l1 (vn)), .int .u64 (l2 (vn)), .int .u64 (l3 (vn)), .int .i64 (vs), .bool fl, .string tx, .int .i64 (er)]) rfl rfl (fun _ => by kernel_rfl) rfl ?_
 intro k1 w1 hk hz hq Q1
 have N_k1 : w.heap.size ≤ k1 := by have := M.size; omega
 replace M := M.trans hq
 clear hk hz hq
 refine wl_alloc 42 #[.int .i64 0, .int .i64 0, .int .i64 0, .int .i64 0, .int .i64 0, .int .u64 0, .int .u64 0, .int .u64 0, .int .u64 0, .int .u64 0, .bool false, .bool false, .int .u64 0, .int .u64 0, .int .u64 0, .int .u64 0, .int .i64 0, .bool false, .int .u64 0, .int .u64 0, .int .u64 0, .int .u64 0, .int .i64 0] rfl (fun _ => by kernel_rfl) rfl ?_
 intro k2 w2 hk hz hq Q2
 have ne_k1_k2 : k1 ≠ k2 := by have := Q1.lt; omega
 have N_k2 : w.heap.size ≤ k2 := by have := M.size; omega
 replace Q1 := Q1.mo hq
 replace M := M.trans hq
 clear hk hz hq
 refine w_nil (xn_then (w_seq (w_block (w_seq (w_reg ?_)))))
 refine wl_f 55 0 (.tmp 2) (pt k1 0) (pt k1 0) ?_
 refine wl_l 3 (.tmp 6) (pt k1 0) (.int .i64 (K)) (run_one Q1 3 0 rfl Try.underlying3 rfl) ?_
 refine wl_b .eql 3 (.tmp 7) (.const (.int .i64 (0))) (.int .i64 (K)) (.int .i64 (0)) (.bool false) (eqI q0 _ _ _) ?_
 refine wl_m (.tmp 8) (.bool false) ?_
 refine w_nil (xn_then (w_condF rfl (w_seq (w_reg ?_))))
 refine wl_f 55 0 (.tmp 2) (pt k1 0) (pt k1 0) ?_
 refine wl_l 3 (.tmp 11) (pt k1 0) (.int .i64 (K)) (run_one Q1 3 0 rfl Try.underlying3 rfl) ?_
 refine wl_b .eql 3 (.tmp 12) (.const (.int .i64 (4))) (.int .i64 (K)) (.int .i64 (4)) (.bool false) (eqI q4 _ _ _) ?_
 refine wl_m (.tmp 13) (.bool false) ?_
 refine wl_skip rfl (wl_skip rfl (wl_skip rfl ?_))
 refine wl_pick (.tmp 14) (.tmp 17) (.const (.bool false)) false (.bool false) (fun _ => rfl) rfl rfl rfl ?_
 refine wl_m (.tmp 18) (.bool false) ?_
 refine w_nil (xn_then (w_condF rfl (w_seq (w_reg ?_))))
 refine wl_f 55 0 (.tmp 2) (pt k1 0) (pt k1 0) ?_
 refine wl_l 3 (.tmp 23) (pt k1 0) (.int .i64 (K)) (run_one Q1 3 0 rfl Try.underlying3 rfl) ?_
 refine wl_b .eql 3 (.tmp 24) (.const (.int .i64 (1))) (.int .i64 (K)) (.int .i64 (1)) (.bool true) (eqI q1 _ _ _) ?_
 refine wl_m (.tmp 25) (.bool true) ?_
 refine wl_f 55 1 (.tmp 2) (pt k1 0) (pt k1 1) ?_
 refine wl_f 40 2 (.tmp 27) (pt k1 1) (pt k1 6) ?_
 refine wl_l 3 (.tmp 28) (pt k1 6) (.int .i64 (vs)) (run_one Q1 3 6 rfl Try.underlying3 rfl) ?_
 refine wl_m (.tmp 1) (.int .i64 (sc9)) ?_
 refine wl_b .eql 3 (.tmp 29) (.tmp 30) (.int .i64 (vs)) (.int .i64 (sc9)) (.bool false) (eqI qs _ _ _) ?_
 refine wl_pick (.tmp 26) (.tmp 31) (.const (.bool false)) true (.bool false) (fun _ => rfl) rfl rfl rfl ?_
 refine wl_m (.tmp 32) (.bool false) ?_
 refine wl_skip rfl (wl_skip rfl (wl_skip rfl (wl_skip rfl ?_)))
 refine wl_pick (.tmp 33) (.tmp 37) (.const (.bool false)) false (.bool false) (fun _ => rfl) rfl rfl rfl ?_
 refine wl_m (.tmp 38) (.bool false) ?_
 refine w_nil (xn_then (w_condF rfl (w_seq (w_seq (w_reg ?_)))))
 refine wl_f 55 0 (.tmp 2) (pt k1 0) (pt k1 0) ?_
 refine wl_l 3 (.tmp 48) (pt k1 0) (.int .i64 (K)) (run_one Q1 3 0 rfl Try.underlying3 rfl) ?_
 refine wl_b .eql 3 (.tmp 49) (.const (.int .i64 (2))) (.int .i64 (K)) (.int .i64 (2)) (.bool false) (eqI q2 _ _ _) ?_
 refine wl_m (.tmp 50) (.bool false) ?_
 refine w_nil (xn_then (w_condF rfl (w_reg ?_)))
 refine wl_f 55 0 (.tmp 2) (pt k1 0) (pt k1 0) ?_
 refine wl_l 3 (.tmp 51) (pt k1 0) (.int .i64 (K)) (run_one Q1 3 0 rfl Try.underlying3 rfl) ?_
 refine wl_b .eql 3 (.tmp 52) (.const (.int .i64 (3))) (.int .i64 (K)) (.int .i64 (3)) (.bool false) (eqI q3 _ _ _) ?_
 refine wl_m (.tmp 53) (.bool false) ?_
 refine w_nil (xn_then (w_condF rfl (w_skip (xn_blk (xn_then (w_seq (w_reg ?_)))))))
 refine wl_call 76 [(.const (.int .i64 (2)))] _ [.int .i64 (2)] (.agg #[.int .i64 (1), .int .i64 (0), .int .i64 (0), .int .i64 (1), .int .i64 (2), .int .u64 (l0 (0)), .int .u64 (l1 (0)), .int .u64 (l2 (0)), .int .u64 (l3 (0)), .int .u64 (l4 (0)), .bool false, .bool false, .int .u64 (l0 (0)), .int .u64 (l1 (0)), .int .u64 (l2 (0)), .int .u64 (l3 (0)), .int .i64 (0), .bool false, .int .u64 (l0 (0)), .int .u64 (l1 (0)), .int .u64 (l2 (0)), .int .u64 (l3 (0)), .int .i64 (0)]) rfl rfl (fun _ _ => by kernel_rfl) (ofError_n (2)) rfl ?_
 intro w3 hq
 replace Q1 := Q1.mo hq
 replace Q2 := Q2.mo hq
 replace M := M.trans hq
 clear hq
 refine wl_st 42 (.tmp 4) (.tmp 55) k2 0 #[.int .i64 (1), .int .i64 (0), .int .i64 (0), .int .i64 (1), .int .i64 (2), .int .u64 (l0 (0)), .int .u64 (l1 (0)), .int .u64 (l2 (0)), .int .u64 (l3 (0)), .int .u64 (l4 (0)), .bool false, .bool false, .int .u64 (l0 (0)), .int .u64 (l1 (0)), .int .u64 (l2 (0)), .int .u64 (l3 (0)), .int .i64 (0), .bool false, .int .u64 (l0 (0)), .int .u64 (l1 (0)), .int .u64 (l2 (0)), .int .u64 (l3 (0)), .int .i64 (0)] _ [.int .i64 (1), .int .i64 (0), .int .i64 (0), .int .i64 (1), .int .i64 (2), .int .u64 (l0 (0)), .int .u64 (l1 (0)), .int .u64 (l2 (0)), .int .u64 (l3 (0)), .int .u64 (l4 (0)), .bool false, .bool false, .int .u64 (l0 (0)), .int .u64 (l1 (0)), .int .u64 (l2 (0)), .int .u64 (l3 (0)), .int .i64 (0), .bool false, .int .u64 (l0 (0)), .int .u64 (l1 (0)), .int .u64 (l2 (0)), .int .u64 (l3 (0)), .int .i64 (0)] Q2 rfl rfl rfl rfl rfl sz33 rfl rfl rfl ?_
 intro w4 hS Qn
 replace Q2 := Qn
 clear Qn
 replace Q1 := hS.other _ _ ne_k1_k2 Q1
 replace M := hS.mo _ N_k2 M
 clear hS
 refine w_nil (xn_then (w_ret ?_))
 exact w_ret1 _ (.agg #[.int .i64 (1), .int .i64 (0), .int .i64 (0), .int .i64 (1), .int .i64 (2), .int .u64 (l0 (0)), .int .u64 (l1 (0)), .int .u64 (l2 (0)), .int .u64 (l3 (0)), .int .u64 (l4 (0)), .bool false, .bool false, .int .u64 (l0 (0)), .int .u64 (l1 (0)), .int .u64 (l2 (0)), .int .u64 (l3 (0)), .int .i64 (0), .bool false, .int .u64 (l0 (0)), .int .u64 (l1 (0)), .int .u64 (l2 (0)), .int .u64 (l3 (0)), .int .i64 (0)]) rfl ⟨k2, rfl, (run_row Q2 42 0 23 _ rfl Try.underlying42 rfl sz33)⟩ ⟨rfl, M⟩
theorem of_f (K : Int) (vb : Bool) (vn vs : Int) (fl : Bool) (tx : ByteArray) (er sc9 : Int) (hn0 : 0 ≤ vn) (hn : vn < MM) (q0 : decide (K = 0) = false) (q4 : decide (K = 4) = false) (q1 : decide (K = 1) = true) (qs : decide (vs = sc9) = true) (qc : decide (ck vb vn vs = 0) = false) (q2 : decide (K = 2) = false) (q3 : decide (K = 3) = false) : Calls Try.prog 65 #[vl10 K vb vn vs fl tx er, .int .i64 sc9] w fun e w' => e = .returned (sm 1 (0) (0) (1) (2) (0) false false (0) (0) false (0) (0)) ∧ Mo w w' := by
 refine w_enter 56 Try.func65 Try.ntmps65 rfl rfl ?_
 have M : Mo w w := Mo.refl _
 refine w_seq (w_reg ?_)
 refine wl_box 55 (.tmp 0) _ (#[.int .i64 (K), .bool vb, .int .u64 (l0 (vn)), .int .u64 (l1 (vn)), .int .u64 (l2 (vn)), .int .u64 (l3 (vn)), .int .i64 (vs), .bool fl, .string tx, .int .i64 (er)]) rfl rfl (fun _ => by kernel_rfl) rfl ?_
 intro k1 w1 hk hz hq Q1
 have N_k1 : w.heap.size ≤ k1 := by have := M.size; omega
 replace M := M.trans hq
 clear hk hz hq
 refine wl_alloc 42 #[.int .i64 0, .int .i64 0, .int .i64 0, .int .i64 0, .int .i64 0, .int .u64 0, .int .u64 0, .int .u64 0, .int .u64 0, .int .u64 0, .bool false, .bool false, .int .u64 0, .int .u64 0, .int .u64 0, .int .u64 0, .int .i64 0, .bool false, .int .u64 0, .int .u64 0, .int .u64 0, .int .u64 0, .int .i64 0] rfl (fun _ => by kernel_rfl) rfl ?_
 intro k2 w2 hk hz hq Q2
 have ne_k1_k2 : k1 ≠ k2 := by have := Q1.lt; omega
 have N_k2 : w.heap.size ≤ k2 := by have := M.size; omega
 replace Q1 := Q1.mo hq
 replace M := M.trans hq
 clear hk hz hq
 refine w_nil (xn_then (w_seq (w_block (w_seq (w_reg ?_)))))
 refine wl_f 55 0 (.tmp 2) (pt k1 0) (pt k1 0) ?_
 refine wl_l 3 (.tmp 6) (pt k1 0) (.int .i64 (K)) (run_one Q1 3 0 rfl Try.underlying3 rfl) ?_
 refine wl_b .eql 3 (.tmp 7) (.const (.int .i64 (0))) (.int .i64 (K)) (.int .i64 (0)) (.bool false) (eqI q0 _ _ _) ?_
 refine wl_m (.tmp 8) (.bool false) ?_
 refine w_nil (xn_then (w_condF rfl (w_seq (w_reg ?_))))
 refine wl_f 55 0 (.tmp 2) (pt k1 0) (pt k1 0) ?_
 refine wl_l 3 (.tmp 11) (pt k1 0) (.int .i64 (K)) (run_one Q1 3 0 rfl Try.underlying3 rfl) ?_
 refine wl_b .eql 3 (.tmp 12) (.const (.int .i64 (4))) (.int .i64 (K)) (.int .i64 (4)) (.bool false) (eqI q4 _ _ _) ?_
 refine wl_m (.tmp 13) (.bool false) ?_
 refine wl_skip rfl (wl_skip rfl (wl_skip rfl ?_))
 refine wl_pick (.tmp 14) (.tmp 17) (.const (.bool false)) false (.bool false) (fun _ => rfl) rfl rfl rfl ?_
 refine wl_m (.tmp 18) (.bool false) ?_
 refine w_nil (xn_then (w_condF rfl (w_seq (w_reg ?_))))
 refine wl_f 55 0 (.tmp 2) (pt k1 0) (pt k1 0) ?_
 refine wl_l 3 (.tmp 23) (pt k1 0) (.int .i64 (K)) (run_one Q1 3 0 rfl Try.underlying3 rfl) ?_
 refine wl_b .eql 3 (.tmp 24) (.const (.int .i64 (1))) (.int .i64 (K)) (.int .i64 (1)) (.bool true) (eqI q1 _ _ _) ?_
 refine wl_m (.tmp 25) (.bool true) ?_
 refine wl_f 55 1 (.tmp 2) (pt k1 0) (pt k1 1) ?_
 refine wl_f 40 2 (.tmp 27) (pt k1 1) (pt k1 6) ?_
 refine wl_l 3 (.tmp 28) (pt k1 6) (.int .i64 (vs)) (run_one Q1 3 6 rfl Try.underlying3 rfl) ?_
 refine wl_m (.tmp 1) (.int .i64 (sc9)) ?_
 refine wl_b .eql 3 (.tmp 29) (.tmp 30) (.int .i64 (vs)) (.int .i64 (sc9)) (.bool true) (eqI qs _ _ _) ?_
 refine wl_pick (.tmp 26) (.tmp 31) (.const (.bool false)) true (.bool true) (fun _ => rfl) rfl rfl rfl ?_
 refine wl_m (.tmp 32) (.bool true) ?_
 refine wl_f 55 1 (.tmp 2) (pt k1 0) (pt k1 1) ?_
 refine wl_l 40 (.tmp 34) (pt k1 1) (.agg #[.bool vb, .int .u64 (l0 (vn)), .int .u64 (l1 (vn)), .int .u64 (l2 (vn)), .int .u64 (l3 (vn)), .int .i64 (vs)]) (run_row Q1 40 1 6 _ rfl Try.underlying40 rfl sz26) ?_
 refine wl_call 77 [(.tmp 35)] _ [.agg #[.bool vb, .int .u64 (l0 (vn)), .int .u64 (l1 (vn)), .int .u64 (l2 (vn)), .int .u64 (l3 (vn)), .int .i64 (vs)]] (.int .i64 (ck vb vn vs)) rfl rfl (fun _ _ => by kernel_rfl) (check_n vb vn vs _ hn0 hn) rfl ?_
 intro w3 hq
 replace Q1 := Q1.mo hq
 replace Q2 := Q2.mo hq
 replace M := M.trans hq
 clear hq
 refine wl_b .eql 25 (.tmp 36) (.const (.int .i64 (0))) (.int .i64 (ck vb vn vs)) (.int .i64 (0)) (.bool false) (eqE qc _ _ _) ?_
 refine wl_pick (.tmp 33) (.tmp 37) (.const (.bool false)) true (.bool false) (fun _ => rfl) rfl rfl rfl ?_
 refine wl_m (.tmp 38) (.bool false) ?_
 refine w_nil (xn_then (w_condF rfl (w_seq (w_seq (w_reg ?_)))))
 refine wl_f 55 0 (.tmp 2) (pt k1 0) (pt k1 0) ?_
 refine wl_l 3 (.tmp 48) (pt k1 0) (.int .i64 (K)) (run_one Q1 3 0 rfl Try.underlying3 rfl) ?_
 refine wl_b .eql 3 (.tmp 49) (.const (.int .i64 (2))) (.int .i64 (K)) (.int .i64 (2)) (.bool false) (eqI q2 _ _ _) ?_
 refine wl_m (.tmp 50) (.bool false) ?_
 refine w_nil (xn_then (w_condF rfl (w_reg ?_)))
 refine wl_f 55 0 (.tmp 2) (pt k1 0) (pt k1 0) ?_
 refine wl_l 3 (.tmp 51) (pt k1 0) (.int .i64 (K)) (run_one Q1 3 0 rfl Try.underlying3 rfl) ?_
 refine wl_b .eql 3 (.tmp 52) (.const (.int .i64 (3))) (.int .i64 (K)) (.int .i64 (3)) (.bool false) (eqI q3 _ _ _) ?_
 refine wl_m (.tmp 53) (.bool false) ?_
 refine w_nil (xn_then (w_condF rfl (w_skip (xn_blk (xn_then (w_seq (w_reg ?_)))))))
 refine wl_call 76 [(.const (.int .i64 (2)))] _ [.int .i64 (2)] (.agg #[.int .i64 (1), .int .i64 (0), .int .i64 (0), .int .i64 (1), .int .i64 (2), .int .u64 (l0 (0)), .int .u64 (l1 (0)), .int .u64 (l2 (0)), .int .u64 (l3 (0)), .int .u64 (l4 (0)), .bool false, .bool false, .int .u64 (l0 (0)), .int .u64 (l1 (0)), .int .u64 (l2 (0)), .int .u64 (l3 (0)), .int .i64 (0), .bool false, .int .u64 (l0 (0)), .int .u64 (l1 (0)), .int .u64 (l2 (0)), .int .u64 (l3 (0)), .int .i64 (0)]) rfl rfl (fun _ _ => by kernel_rfl) (ofError_n (2)) rfl ?_
 intro w4 hq
 replace Q1 := Q1.mo hq
 replace Q2 := Q2.mo hq
 replace M := M.trans hq
 clear hq
 refine wl_st 42 (.tmp 4) (.tmp 55) k2 0 #[.int .i64 (1), .int .i64 (0), .int .i64 (0), .int .i64 (1), .int .i64 (2), .int .u64 (l0 (0)), .int .u64 (l1 (0)), .int .u64 (l2 (0)), .int .u64 (l3 (0)), .int .u64 (l4 (0)), .bool false, .bool false, .int .u64 (l0 (0)), .int .u64 (l1 (0)), .int .u64 (l2 (0)), .int .u64 (l3 (0)), .int .i64 (0), .bool false, .int .u64 (l0 (0)), .int .u64 (l1 (0)), .int .u64 (l2 (0)), .int .u64 (l3 (0)), .int .i64 (0)] _ [.int .i64 (1), .int .i64 (0), .int .i64 (0), .int .i64 (1), .int .i64 (2), .int .u64 (l0 (0)), .int .u64 (l1 (0)), .int .u64 (l2 (0)), .int .u64 (l3 (0)), .int .u64 (l4 (0)), .bool false, .bool false, .int .u64 (l0 (0)), .int .u64 (l1 (0)), .int .u64 (l2 (0)), .int .u64 (l3 (0)), .int .i64 (0), .bool false, .int .u64 (l0 (0)), .int .u64 (l1 (0)), .int .u64 (l2 (0)), .int .u64 (l3 (0)), .int .i64 (0)] Q2 rfl rfl rfl rfl rfl sz33 rfl rfl rfl ?_
 intro w5 hS Qn
 replace Q2 := Qn
 clear Qn
 replace Q1 := hS.other _ _ ne_k1_k2 Q1
 replace M := hS.mo _ N_k2 M
 clear hS
 refine w_nil (xn_then (w_ret ?_))
 exact w_ret1 _ (.agg #[.int .i64 (1), .int .i64 (0), .int .i64 (0), .int .i64 (1), .int .i64 (2), .int .u64 (l0 (0)), .int .u64 (l1 (0)), .int .u64 (l2 (0)), .int .u64 (l3 (0)), .int .u64 (l4 (0)), .bool false, .bool false, .int .u64 (l0 (0)), .int .u64 (l1 (0)), .int .u64 (l2 (0)), .int .u64 (l3 (0)), .int .i64 (0), .bool false, .int .u64 (l0 (0)), .int .u64 (l1 (0)), .int .u64 (l2 (0)), .int .u64 (l3 (0)), .int .i64 (0)]) rfl ⟨k2, rfl, (run_row Q2 42 0 23 _ rfl Try.underlying42 rfl sz33)⟩ ⟨rfl, M⟩
theorem of_h (K : Int) (vb : Bool) (vn vs : Int) (fl : Bool) (tx : ByteArray) (er sc9 : Int) (q0 : decide (K = 0) = false) (q4 : decide (K = 4) = false) (q1 : decide (K = 1) = false) (q2 : decide (K = 2) = true) : Calls Try.prog 65 #[vl10 K vb vn vs fl tx er, .int .i64 sc9] w fun e w' => e = .returned (sm 1 (1) (0) (0) (0) (0) false false (0) (0) false (0) (0)) ∧ Mo w w' := by
 refine w_enter 56 Try.func65 Try.ntmps65 rfl rfl ?_
 have M : Mo w w := Mo.refl _
 refine w_seq (w_reg ?_)
 refine wl_box 55 (.tmp 0) _ (#[.int .i64 (K), .bool vb, .int .u64 (l0 (vn)), .int .u64 (l1 (vn)), .int .u64 (l2 (vn)), .int .u64 (l3 (vn)), .int .i64 (vs), .bool fl, .string tx, .int .i64 (er)]) rfl rfl (fun _ => by kernel_rfl) rfl ?_
 intro k1 w1 hk hz hq Q1
 have N_k1 : w.heap.size ≤ k1 := by have := M.size; omega
 replace M := M.trans hq
 clear hk hz hq
 refine wl_alloc 42 #[.int .i64 0, .int .i64 0, .int .i64 0, .int .i64 0, .int .i64 0, .int .u64 0, .int .u64 0, .int .u64 0, .int .u64 0, .int .u64 0, .bool false, .bool false, .int .u64 0, .int .u64 0, .int .u64 0, .int .u64 0, .int .i64 0, .bool false, .int .u64 0, .int .u64 0, .int .u64 0, .int .u64 0, .int .i64 0] rfl (fun _ => by kernel_rfl) rfl ?_
 intro k2 w2 hk hz hq Q2
 have ne_k1_k2 : k1 ≠ k2 := by have := Q1.lt; omega
 have N_k2 : w.heap.size ≤ k2 := by have := M.size; omega
 replace Q1 := Q1.mo hq
 replace M := M.trans hq
 clear hk hz hq
 refine w_nil (xn_then (w_seq (w_block (w_seq (w_reg ?_)))))
 refine wl_f 55 0 (.tmp 2) (pt k1 0) (pt k1 0) ?_
 refine wl_l 3 (.tmp 6) (pt k1 0) (.int .i64 (K)) (run_one Q1 3 0 rfl Try.underlying3 rfl) ?_
 refine wl_b .eql 3 (.tmp 7) (.const (.int .i64 (0))) (.int .i64 (K)) (.int .i64 (0)) (.bool false) (eqI q0 _ _ _) ?_
 refine wl_m (.tmp 8) (.bool false) ?_
 refine w_nil (xn_then (w_condF rfl (w_seq (w_reg ?_))))
 refine wl_f 55 0 (.tmp 2) (pt k1 0) (pt k1 0) ?_
 refine wl_l 3 (.tmp 11) (pt k1 0) (.int .i64 (K)) (run_one Q1 3 0 rfl Try.underlying3 rfl) ?_
 refine wl_b .eql 3 (.tmp 12) (.const (.int .i64 (4))) (.int .i64 (K)) (.int .i64 (4)) (.bool false) (eqI q4 _ _ _) ?_
 refine wl_m (.tmp 13) (.bool false) ?_
 refine wl_skip rfl (wl_skip rfl (wl_skip rfl ?_))
 refine wl_pick (.tmp 14) (.tmp 17) (.const (.bool false)) false (.bool false) (fun _ => rfl) rfl rfl rfl ?_
 refine wl_m (.tmp 18) (.bool false) ?_
 refine w_nil (xn_then (w_condF rfl (w_seq (w_reg ?_))))
 refine wl_f 55 0 (.tmp 2) (pt k1 0) (pt k1 0) ?_
 refine wl_l 3 (.tmp 23) (pt k1 0) (.int .i64 (K)) (run_one Q1 3 0 rfl Try.underlying3 rfl) ?_
 refine wl_b .eql 3 (.tmp 24) (.const (.int .i64 (1))) (.int .i64 (K)) (.int .i64 (1)) (.bool false) (eqI q1 _ _ _) ?_
 refine wl_m (.tmp 25) (.bool false) ?_
 refine wl_skip rfl (wl_skip rfl (wl_skip rfl (wl_skip rfl (wl_skip rfl ?_))))
 refine wl_pick (.tmp 26) (.tmp 31) (.const (.bool false)) false (.bool false) (fun _ => rfl) rfl rfl rfl ?_
 refine wl_m (.tmp 32) (.bool false) ?_
 refine wl_skip rfl (wl_skip rfl (wl_skip rfl (wl_skip rfl ?_)))
 refine wl_pick (.tmp 33) (.tmp 37) (.const (.bool false)) false (.bool false) (fun _ => rfl) rfl rfl rfl ?_
 refine wl_m (.tmp 38) (.bool false) ?_
 refine w_nil (xn_then (w_condF rfl (w_seq (w_seq (w_reg ?_)))))
 refine wl_f 55 0 (.tmp 2) (pt k1 0) (pt k1 0) ?_
 refine wl_l 3 (.tmp 48) (pt k1 0) (.int .i64 (K)) (run_one Q1 3 0 rfl Try.underlying3 rfl) ?_
 refine wl_b .eql 3 (.tmp 49) (.const (.int .i64 (2))) (.int .i64 (K)) (.int .i64 (2)) (.bool true) (eqI q2 _ _ _) ?_
 refine wl_m (.tmp 50) (.bool true) ?_
 refine w_nil (xn_then (w_condT rfl (w_skip (xn_then (w_condT rfl (w_seq (w_reg ?_)))))))
 refine wl_build 42 [(0, (.const (.int .i64 (1)))), (1, (.const (.int .i64 (1))))] [(0, .int .i64 (1)), (1, .int .i64 (1))] (.agg #[.int .i64 (1), .int .i64 (1), .int .i64 0, .int .i64 0, .int .i64 0, .int .u64 0, .int .u64 0, .int .u64 0, .int .u64 0, .int .u64 0, .bool false, .bool false, .int .u64 0, .int .u64 0, .int .u64 0, .int .u64 0, .int .i64 0, .bool false, .int .u64 0, .int .u64 0, .int .u64 0, .int .u64 0, .int .i64 0]) rfl rfl (by kernel_rfl) rfl ?_
 refine wl_st 42 (.tmp 4) (.tmp 54) k2 0 #[.int .i64 (1), .int .i64 (1), .int .i64 0, .int .i64 0, .int .i64 0, .int .u64 0, .int .u64 0, .int .u64 0, .int .u64 0, .int .u64 0, .bool false, .bool false, .int .u64 0, .int .u64 0, .int .u64 0, .int .u64 0, .int .i64 0, .bool false, .int .u64 0, .int .u64 0, .int .u64 0, .int .u64 0, .int .i64 0] _ [.int .i64 (1), .int .i64 (1), .int .i64 0, .int .i64 0, .int .i64 0, .int .u64 0, .int .u64 0, .int .u64 0, .int .u64 0, .int .u64 0, .bool false, .bool false, .int .u64 0, .int .u64 0, .int .u64 0, .int .u64 0, .int .i64 0, .bool false, .int .u64 0, .int .u64 0, .int .u64 0, .int .u64 0, .int .i64 0] Q2 rfl rfl rfl rfl rfl sz33 rfl rfl rfl ?_
 intro w3 hS Qn
 replace Q2 := Qn
 clear Qn
 replace Q1 := hS.other _ _ ne_k1_k2 Q1
 replace M := hS.mo _ N_k2 M
 clear hS
 refine w_nil (xn_then (w_ret (xr_blk (xr_then ?_))))
 exact w_ret1 _ (.agg #[.int .i64 (1), .int .i64 (1), .int .i64 0, .int .i64 0, .int .i64 0, .int .u64 0, .int .u64 0, .int .u64 0, .int .u64 0, .int .u64 0, .bool false, .bool false, .int .u64 0, .int .u64 0, .int .u64 0, .int .u64 0, .int .i64 0, .bool false, .int .u64 0, .int .u64 0, .int .u64 0, .int .u64 0, .int .i64 0]) rfl ⟨k2, rfl, (run_row Q2 42 0 23 _ rfl Try.underlying42 rfl sz33)⟩ ⟨rfl, M⟩
theorem of_i (K : Int) (vb : Bool) (vn vs : Int) (fl : Bool) (tx : ByteArray) (er sc9 : Int) (q0 : decide (K = 0) = false) (q4 : decide (K = 4) = false) (q1 : decide (K = 1) = false) (q2 : decide (K = 2) = false) (q3 : decide (K = 3) = true) : Calls Try.prog 65 #[vl10 K vb vn vs fl tx er, .int .i64 sc9] w fun e w' => e = .returned (sm 1 (1) (0) (0) (0) (0) false false (0) (0) false (0) (0)) ∧ Mo w w' := by
 refine w_enter 56 Try.func65 Try.ntmps65 rfl rfl ?_
 have M : Mo w w := Mo.refl _
 refine w_seq (w_reg ?_)
 refine wl_box 55 (.tmp 0) _ (#[.int .i64 (K), .bool vb, .int .u64 (l0 (vn)), .int .u64 (l1 (vn)), .int .u64 (l2 (vn)), .int .u64 (l3 (vn)), .int .i64 (vs), .bool fl, .string tx, .int .i64 (er)]) rfl rfl (fun _ => by kernel_rfl) rfl ?_
 intro k1 w1 hk hz hq Q1
 have N_k1 : w.heap.size ≤ k1 := by have := M.size; omega
 replace M := M.trans hq
 clear hk hz hq
 refine wl_alloc 42 #[.int .i64 0, .int .i64 0, .int .i64 0, .int .i64 0, .int .i64 0, .int .u64 0, .int .u64 0, .int .u64 0, .int .u64 0, .int .u64 0, .bool false, .bool false, .int .u64 0, .int .u64 0, .int .u64 0, .int .u64 0, .int .i64 0, .bool false, .int .u64 0, .int .u64 0, .int .u64 0, .int .u64 0, .int .i64 0] rfl (fun _ => by kernel_rfl) rfl ?_
 intro k2 w2 hk hz hq Q2
 have ne_k1_k2 : k1 ≠ k2 := by have := Q1.lt; omega
 have N_k2 : w.heap.size ≤ k2 := by have := M.size; omega
 replace Q1 := Q1.mo hq
 replace M := M.trans hq
 clear hk hz hq
 refine w_nil (xn_then (w_seq (w_block (w_seq (w_reg ?_)))))
 refine wl_f 55 0 (.tmp 2) (pt k1 0) (pt k1 0) ?_
 refine wl_l 3 (.tmp 6) (pt k1 0) (.int .i64 (K)) (run_one Q1 3 0 rfl Try.underlying3 rfl) ?_
 refine wl_b .eql 3 (.tmp 7) (.const (.int .i64 (0))) (.int .i64 (K)) (.int .i64 (0)) (.bool false) (eqI q0 _ _ _) ?_
 refine wl_m (.tmp 8) (.bool false) ?_
 refine w_nil (xn_then (w_condF rfl (w_seq (w_reg ?_))))
 refine wl_f 55 0 (.tmp 2) (pt k1 0) (pt k1 0) ?_
 refine wl_l 3 (.tmp 11) (pt k1 0) (.int .i64 (K)) (run_one Q1 3 0 rfl Try.underlying3 rfl) ?_
 refine wl_b .eql 3 (.tmp 12) (.const (.int .i64 (4))) (.int .i64 (K)) (.int .i64 (4)) (.bool false) (eqI q4 _ _ _) ?_
 refine wl_m (.tmp 13) (.bool false) ?_
 refine wl_skip rfl (wl_skip rfl (wl_skip rfl ?_))
 refine wl_pick (.tmp 14) (.tmp 17) (.const (.bool false)) false (.bool false) (fun _ => rfl) rfl rfl rfl ?_
 refine wl_m (.tmp 18) (.bool false) ?_
 refine w_nil (xn_then (w_condF rfl (w_seq (w_reg ?_))))
 refine wl_f 55 0 (.tmp 2) (pt k1 0) (pt k1 0) ?_
 refine wl_l 3 (.tmp 23) (pt k1 0) (.int .i64 (K)) (run_one Q1 3 0 rfl Try.underlying3 rfl) ?_
 refine wl_b .eql 3 (.tmp 24) (.const (.int .i64 (1))) (.int .i64 (K)) (.int .i64 (1)) (.bool false) (eqI q1 _ _ _) ?_
 refine wl_m (.tmp 25) (.bool false) ?_
 refine wl_skip rfl (wl_skip rfl (wl_skip rfl (wl_skip rfl (wl_skip rfl ?_))))
 refine wl_pick (.tmp 26) (.tmp 31) (.const (.bool false)) false (.bool false) (fun _ => rfl) rfl rfl rfl ?_
 refine wl_m (.tmp 32) (.bool false) ?_
 refine wl_skip rfl (wl_skip rfl (wl_skip rfl (wl_skip rfl ?_)))
 refine wl_pick (.tmp 33) (.tmp 37) (.const (.bool false)) false (.bool false) (fun _ => rfl) rfl rfl rfl ?_
 refine wl_m (.tmp 38) (.bool false) ?_
 refine w_nil (xn_then (w_condF rfl (w_seq (w_seq (w_reg ?_)))))
 refine wl_f 55 0 (.tmp 2) (pt k1 0) (pt k1 0) ?_
 refine wl_l 3 (.tmp 48) (pt k1 0) (.int .i64 (K)) (run_one Q1 3 0 rfl Try.underlying3 rfl) ?_
 refine wl_b .eql 3 (.tmp 49) (.const (.int .i64 (2))) (.int .i64 (K)) (.int .i64 (2)) (.bool false) (eqI q2 _ _ _) ?_
 refine wl_m (.tmp 50) (.bool false) ?_
 refine w_nil (xn_then (w_condF rfl (w_reg ?_)))
 refine wl_f 55 0 (.tmp 2) (pt k1 0) (pt k1 0) ?_
 refine wl_l 3 (.tmp 51) (pt k1 0) (.int .i64 (K)) (run_one Q1 3 0 rfl Try.underlying3 rfl) ?_
 refine wl_b .eql 3 (.tmp 52) (.const (.int .i64 (3))) (.int .i64 (K)) (.int .i64 (3)) (.bool true) (eqI q3 _ _ _) ?_
 refine wl_m (.tmp 53) (.bool true) ?_
 refine w_nil (xn_then (w_condT rfl (w_seq (w_reg ?_))))
 refine wl_build 42 [(0, (.const (.int .i64 (1)))), (1, (.const (.int .i64 (1))))] [(0, .int .i64 (1)), (1, .int .i64 (1))] (.agg #[.int .i64 (1), .int .i64 (1), .int .i64 0, .int .i64 0, .int .i64 0, .int .u64 0, .int .u64 0, .int .u64 0, .int .u64 0, .int .u64 0, .bool false, .bool false, .int .u64 0, .int .u64 0, .int .u64 0, .int .u64 0, .int .i64 0, .bool false, .int .u64 0, .int .u64 0, .int .u64 0, .int .u64 0, .int .i64 0]) rfl rfl (by kernel_rfl) rfl ?_
 refine wl_st 42 (.tmp 4) (.tmp 54) k2 0 #[.int .i64 (1), .int .i64 (1), .int .i64 0, .int .i64 0, .int .i64 0, .int .u64 0, .int .u64 0, .int .u64 0, .int .u64 0, .int .u64 0, .bool false, .bool false, .int .u64 0, .int .u64 0, .int .u64 0, .int .u64 0, .int .i64 0, .bool false, .int .u64 0, .int .u64 0, .int .u64 0, .int .u64 0, .int .i64 0] _ [.int .i64 (1), .int .i64 (1), .int .i64 0, .int .i64 0, .int .i64 0, .int .u64 0, .int .u64 0, .int .u64 0, .int .u64 0, .int .u64 0, .bool false, .bool false, .int .u64 0, .int .u64 0, .int .u64 0, .int .u64 0, .int .i64 0, .bool false, .int .u64 0, .int .u64 0, .int .u64 0, .int .u64 0, .int .i64 0] Q2 rfl rfl rfl rfl rfl sz33 rfl rfl rfl ?_
 intro w3 hS Qn
 replace Q2 := Qn
 clear Qn
 replace Q1 := hS.other _ _ ne_k1_k2 Q1
 replace M := hS.mo _ N_k2 M
 clear hS
 refine w_nil (xn_then (w_ret (xr_blk (xr_then ?_))))
 exact w_ret1 _ (.agg #[.int .i64 (1), .int .i64 (1), .int .i64 0, .int .i64 0, .int .i64 0, .int .u64 0, .int .u64 0, .int .u64 0, .int .u64 0, .int .u64 0, .bool false, .bool false, .int .u64 0, .int .u64 0, .int .u64 0, .int .u64 0, .int .i64 0, .bool false, .int .u64 0, .int .u64 0, .int .u64 0, .int .u64 0, .int .i64 0]) rfl ⟨k2, rfl, (run_row Q2 42 0 23 _ rfl Try.underlying42 rfl sz33)⟩ ⟨rfl, M⟩
theorem of_j (K : Int) (vb : Bool) (vn vs : Int) (fl : Bool) (tx : ByteArray) (er sc9 : Int) (q0 : decide (K = 0) = false) (q4 : decide (K = 4) = false) (q1 : decide (K = 1) = false) (q2 : decide (K = 2) = false) (q3 : decide (K = 3) = false) : Calls Try.prog 65 #[vl10 K vb vn vs fl tx er, .int .i64 sc9] w fun e w' => e = .returned (sm 1 (0) (0) (1) (2) (0) false false (0) (0) false (0) (0)) ∧ Mo w w' := by
 refine w_enter 56 Try.func65 Try.ntmps65 rfl rfl ?_
 have M : Mo w w := Mo.refl _
 refine w_seq (w_reg ?_)
 refine wl_box 55 (.tmp 0) _ (#[.int .i64 (K), .bool vb, .int .u64 (l0 (vn)), .int .u64 (l1 (vn)), .int .u64 (l2 (vn)), .int .u64 (l3 (vn)), .int .i64 (vs), .bool fl, .string tx, .int .i64 (er)]) rfl rfl (fun _ => by kernel_rfl) rfl ?_
 intro k1 w1 hk hz hq Q1
 have N_k1 : w.heap.size ≤ k1 := by have := M.size; omega
 replace M := M.trans hq
 clear hk hz hq
 refine wl_alloc 42 #[.int .i64 0, .int .i64 0, .int .i64 0, .int .i64 0, .int .i64 0, .int .u64 0, .int .u64 0, .int .u64 0, .int .u64 0, .int .u64 0, .bool false, .bool false, .int .u64 0, .int .u64 0, .int .u64 0, .int .u64 0, .int .i64 0, .bool false, .int .u64 0, .int .u64 0, .int .u64 0, .int .u64 0, .int .i64 0] rfl (fun _ => by kernel_rfl) rfl ?_
 intro k2 w2 hk hz hq Q2
 have ne_k1_k2 : k1 ≠ k2 := by have := Q1.lt; omega
 have N_k2 : w.heap.size ≤ k2 := by have := M.size; omega
 replace Q1 := Q1.mo hq
 replace M := M.trans hq
 clear hk hz hq
 refine w_nil (xn_then (w_seq (w_block (w_seq (w_reg ?_)))))
 refine wl_f 55 0 (.tmp 2) (pt k1 0) (pt k1 0) ?_
 refine wl_l 3 (.tmp 6) (pt k1 0) (.int .i64 (K)) (run_one Q1 3 0 rfl Try.underlying3 rfl) ?_
 refine wl_b .eql 3 (.tmp 7) (.const (.int .i64 (0))) (.int .i64 (K)) (.int .i64 (0)) (.bool false) (eqI q0 _ _ _) ?_
 refine wl_m (.tmp 8) (.bool false) ?_
 refine w_nil (xn_then (w_condF rfl (w_seq (w_reg ?_))))
 refine wl_f 55 0 (.tmp 2) (pt k1 0) (pt k1 0) ?_
 refine wl_l 3 (.tmp 11) (pt k1 0) (.int .i64 (K)) (run_one Q1 3 0 rfl Try.underlying3 rfl) ?_
 refine wl_b .eql 3 (.tmp 12) (.const (.int .i64 (4))) (.int .i64 (K)) (.int .i64 (4)) (.bool false) (eqI q4 _ _ _) ?_
 refine wl_m (.tmp 13) (.bool false) ?_
 refine wl_skip rfl (wl_skip rfl (wl_skip rfl ?_))
 refine wl_pick (.tmp 14) (.tmp 17) (.const (.bool false)) false (.bool false) (fun _ => rfl) rfl rfl rfl ?_
 refine wl_m (.tmp 18) (.bool false) ?_
 refine w_nil (xn_then (w_condF rfl (w_seq (w_reg ?_))))
 refine wl_f 55 0 (.tmp 2) (pt k1 0) (pt k1 0) ?_
 refine wl_l 3 (.tmp 23) (pt k1 0) (.int .i64 (K)) (run_one Q1 3 0 rfl Try.underlying3 rfl) ?_
 refine wl_b .eql 3 (.tmp 24) (.const (.int .i64 (1))) (.int .i64 (K)) (.int .i64 (1)) (.bool false) (eqI q1 _ _ _) ?_
 refine wl_m (.tmp 25) (.bool false) ?_
 refine wl_skip rfl (wl_skip rfl (wl_skip rfl (wl_skip rfl (wl_skip rfl ?_))))
 refine wl_pick (.tmp 26) (.tmp 31) (.const (.bool false)) false (.bool false) (fun _ => rfl) rfl rfl rfl ?_
 refine wl_m (.tmp 32) (.bool false) ?_
 refine wl_skip rfl (wl_skip rfl (wl_skip rfl (wl_skip rfl ?_)))
 refine wl_pick (.tmp 33) (.tmp 37) (.const (.bool false)) false (.bool false) (fun _ => rfl) rfl rfl rfl ?_
 refine wl_m (.tmp 38) (.bool false) ?_
 refine w_nil (xn_then (w_condF rfl (w_seq (w_seq (w_reg ?_)))))
 refine wl_f 55 0 (.tmp 2) (pt k1 0) (pt k1 0) ?_
 refine wl_l 3 (.tmp 48) (pt k1 0) (.int .i64 (K)) (run_one Q1 3 0 rfl Try.underlying3 rfl) ?_
 refine wl_b .eql 3 (.tmp 49) (.const (.int .i64 (2))) (.int .i64 (K)) (.int .i64 (2)) (.bool false) (eqI q2 _ _ _) ?_
 refine wl_m (.tmp 50) (.bool false) ?_
 refine w_nil (xn_then (w_condF rfl (w_reg ?_)))
 refine wl_f 55 0 (.tmp 2) (pt k1 0) (pt k1 0) ?_
 refine wl_l 3 (.tmp 51) (pt k1 0) (.int .i64 (K)) (run_one Q1 3 0 rfl Try.underlying3 rfl) ?_
 refine wl_b .eql 3 (.tmp 52) (.const (.int .i64 (3))) (.int .i64 (K)) (.int .i64 (3)) (.bool false) (eqI q3 _ _ _) ?_
 refine wl_m (.tmp 53) (.bool false) ?_
 refine w_nil (xn_then (w_condF rfl (w_skip (xn_blk (xn_then (w_seq (w_reg ?_)))))))
 refine wl_call 76 [(.const (.int .i64 (2)))] _ [.int .i64 (2)] (.agg #[.int .i64 (1), .int .i64 (0), .int .i64 (0), .int .i64 (1), .int .i64 (2), .int .u64 (l0 (0)), .int .u64 (l1 (0)), .int .u64 (l2 (0)), .int .u64 (l3 (0)), .int .u64 (l4 (0)), .bool false, .bool false, .int .u64 (l0 (0)), .int .u64 (l1 (0)), .int .u64 (l2 (0)), .int .u64 (l3 (0)), .int .i64 (0), .bool false, .int .u64 (l0 (0)), .int .u64 (l1 (0)), .int .u64 (l2 (0)), .int .u64 (l3 (0)), .int .i64 (0)]) rfl rfl (fun _ _ => by kernel_rfl) (ofError_n (2)) rfl ?_
 intro w3 hq
 replace Q1 := Q1.mo hq
 replace Q2 := Q2.mo hq
 replace M := M.trans hq
 clear hq
 refine wl_st 42 (.tmp 4) (.tmp 55) k2 0 #[.int .i64 (1), .int .i64 (0), .int .i64 (0), .int .i64 (1), .int .i64 (2), .int .u64 (l0 (0)), .int .u64 (l1 (0)), .int .u64 (l2 (0)), .int .u64 (l3 (0)), .int .u64 (l4 (0)), .bool false, .bool false, .int .u64 (l0 (0)), .int .u64 (l1 (0)), .int .u64 (l2 (0)), .int .u64 (l3 (0)), .int .i64 (0), .bool false, .int .u64 (l0 (0)), .int .u64 (l1 (0)), .int .u64 (l2 (0)), .int .u64 (l3 (0)), .int .i64 (0)] _ [.int .i64 (1), .int .i64 (0), .int .i64 (0), .int .i64 (1), .int .i64 (2), .int .u64 (l0 (0)), .int .u64 (l1 (0)), .int .u64 (l2 (0)), .int .u64 (l3 (0)), .int .u64 (l4 (0)), .bool false, .bool false, .int .u64 (l0 (0)), .int .u64 (l1 (0)), .int .u64 (l2 (0)), .int .u64 (l3 (0)), .int .i64 (0), .bool false, .int .u64 (l0 (0)), .int .u64 (l1 (0)), .int .u64 (l2 (0)), .int .u64 (l3 (0)), .int .i64 (0)] Q2 rfl rfl rfl rfl rfl sz33 rfl rfl rfl ?_
 intro w4 hS Qn
 replace Q2 := Qn
 clear Qn
 replace Q1 := hS.other _ _ ne_k1_k2 Q1
 replace M := hS.mo _ N_k2 M
 clear hS
 refine w_nil (xn_then (w_ret ?_))
 exact w_ret1 _ (.agg #[.int .i64 (1), .int .i64 (0), .int .i64 (0), .int .i64 (1), .int .i64 (2), .int .u64 (l0 (0)), .int .u64 (l1 (0)), .int .u64 (l2 (0)), .int .u64 (l3 (0)), .int .u64 (l4 (0)), .bool false, .bool false, .int .u64 (l0 (0)), .int .u64 (l1 (0)), .int .u64 (l2 (0)), .int .u64 (l3 (0)), .int .i64 (0), .bool false, .int .u64 (l0 (0)), .int .u64 (l1 (0)), .int .u64 (l2 (0)), .int .u64 (l3 (0)), .int .i64 (0)]) rfl ⟨k2, rfl, (run_row Q2 42 0 23 _ rfl Try.underlying42 rfl sz33)⟩ ⟨rfl, M⟩
end
end Go.Proofs.Ythfemlhmnjfjiaa

/-
 lesserError, stretch.
-/
namespace Go.Proofs.Ythfemlhmnjfjiaa
open Go.RowKit
def les (a b : Int) : Int := if a = 0 then b else if b = 0 then a else min a b
def str (S T : Sm) : Sm := if T.so then (if S.so then ⟨S.r, S.f, S.k, S.d, S.e, S.tt, true, if cmpv T.mn S.mn < 0 then T.mn else S.mn, if 0 < cmpv T.mx S.mx then T.mx else S.mx⟩ else ⟨S.r, S.f, S.k, S.d, S.e, S.tt, true, T.mn, T.mx⟩) else S
def Sm.ok (S : Sm) : Prop := S.mn.ok ∧ S.mx.ok
section
variable {w : World}
theorem les_a (a b : Int) (q0 : decide (a = 0) = true) : Calls Try.prog 62 #[.int .i64 a, .int .i64 b] w fun e w' => e = .returned (.int .i64 (b)) ∧ Mo w w' := by
 refine w_enter 14 Try.func62 Try.ntmps62 rfl rfl ?_
 have M : Mo w w := Mo.refl _
 refine w_seq (w_reg ?_)
 refine wl_m (.const (.int .i64 (0))) (.int .i64 (0)) ?_
 refine w_nil (xn_then (w_seq (w_seq (w_reg ?_))))
 refine wl_m (.tmp 0) (.int .i64 (a)) ?_
 refine wl_b .eql 3 (.tmp 5) (.const (.int .i64 (0))) (.int .i64 (a)) (.int .i64 (0)) (.bool true) (eqI q0 _ _ _) ?_
 refine w_nil (xn_then (w_condT rfl (w_seq (w_reg ?_))))
 refine wl_m (.tmp 1) (.int .i64 (b)) ?_
 refine wl_m (.tmp 7) (.int .i64 (b)) ?_
 refine w_nil (xn_then (w_ret (xr_then ?_)))
 exact w_ret1 _ _ rfl rfl ⟨rfl, M⟩
theorem les_b (a b : Int) (q0 : decide (a = 0) = false) (q1 : decide (b = 0) = true) : Calls Try.prog 62 #[.int .i64 a, .int .i64 b] w fun e w' => e = .returned (.int .i64 (a)) ∧ Mo w w' := by
 refine w_enter 14 Try.func62 Try.ntmps62 rfl rfl ?_
 have M : Mo w w := Mo.refl _
 refine w_seq (w_reg ?_)
 refine wl_m (.const (.int .i64 (0))) (.int .i64 (0)) ?_
 refine w_nil (xn_then (w_seq (w_seq (w_reg ?_))))
 refine wl_m (.tmp 0) (.int .i64 (a)) ?_
 refine wl_b .eql 3 (.tmp 5) (.const (.int .i64 (0))) (.int .i64 (a)) (.int .i64 (0)) (.bool false) (eqI q0 _ _ _) ?_
 refine w_nil (xn_then (w_condF rfl (w_skip (xn_then (w_seq (w_seq (w_reg ?_)))))))
 refine wl_m (.tmp 1) (.int .i64 (b)) ?_
 refine wl_b .eql 3 (.tmp 8) (.const (.int .i64 (0))) (.int .i64 (b)) (.int .i64 (0)) (.bool true) (eqI q1 _ _ _) ?_
 refine w_nil (xn_then (w_condT rfl (w_seq (w_reg ?_))))
 refine wl_m (.tmp 0) (.int .i64 (a)) ?_
 refine wl_m (.tmp 10) (.int .i64 (a)) ?_
 refine w_nil (xn_then (w_ret (xr_then ?_)))
 exact w_ret1 _ _ rfl rfl ⟨rfl, M⟩
theorem les_c (a b : Int) (q0 : decide (a = 0) = false) (q1 : decide (b = 0) = false) : Calls Try.prog 62 #[.int .i64 a, .int .i64 b] w fun e w' => e = .returned (.int .i64 (min a b)) ∧ Mo w w' := by
 refine w_enter 14 Try.func62 Try.ntmps62 rfl rfl ?_
 have M : Mo w w := Mo.refl _
 refine w_seq (w_reg ?_)
 refine wl_m (.const (.int .i64 (0))) (.int .i64 (0)) ?_
 refine w_nil (xn_then (w_seq (w_seq (w_reg ?_))))
 refine wl_m (.tmp 0) (.int .i64 (a)) ?_
 refine wl_b .eql 3 (.tmp 5) (.const (.int .i64 (0))) (.int .i64 (a)) (.int .i64 (0)) (.bool false) (eqI q0 _ _ _) ?_
 refine w_nil (xn_then (w_condF rfl (w_skip (xn_then (w_seq (w_seq (w_reg ?_)))))))
 refine wl_m (.tmp 1) (.int .i64 (b)) ?_
 refine wl_b .eql 3 (.tmp 8) (.const (.int .i64 (0))) (.int .i64 (b)) (.int .i64 (0)) (.bool false) (eqI q1 _ _ _) ?_
 refine w_nil (xn_then (w_condF rfl (w_skip (xn_then (w_seq (w_reg ?_))))))
 refine wl_m (.tmp 0) (.int .i64 (a)) ?_
 refine wl_m (.tmp 1) (.int .i64 (b)) ?_
 refine wl_val (.int .i64 (min a b)) (minI _ _ _ _ _ (by exact rfl) (by exact rfl) _ _ _ _ _ _) rfl ?_
 refine wl_m (.tmp 13) (.int .i64 (min a b)) ?_
 refine w_nil (xn_then (w_ret ?_))
 exact w_ret1 _ _ rfl rfl ⟨rfl, M⟩
theorem les_n (a b : Int) : Calls Try.prog 62 #[.int .i64 a, .int .i64 b] w fun e w' => e = .returned (.int .i64 (les a b)) ∧ Mo w w' := by
 unfold les
 by_cases c0 : a = 0
 ·rw [if_pos c0]; exact les_a a b (decide_eq_true c0)
 rw [if_neg c0]
 by_cases c1 : b = 0
 ·rw [if_pos c1]; exact les_b a b (decide_eq_false c0) (decide_eq_true c1)
 rw [if_neg c1]; exact les_c a b (decide_eq_false c0) (decide_eq_false c1)
theorem str_a (r f k d er tt : Int) (mb : Bool) (mn ms : Int) (xb : Bool) (xn xs : Int) (r2 f2 k2 d2 e2 tt2 : Int) (mb2 : Bool) (mn2 ms2 : Int) (xb2 : Bool) (xn2 xs2 : Int) : Calls Try.prog 64 #[sm r (f) (k) (d) (er) (tt) false mb (mn) (ms) xb (xn) (xs), sm r2 (f2) (k2) (d2) (e2) (tt2) false mb2 (mn2) (ms2) xb2 (xn2) (xs2)] w fun e w' => e = .returned (sm r (f) (k) (d) (er) (tt) false mb (mn) (ms) xb (xn) (xs)) ∧ Mo w w' := by
 refine w_enter 39 Try.func64 Try.ntmps64 rfl rfl ?_
 have M : Mo w w := Mo.refl _
 refine w_seq (w_reg ?_)
 refine wl_box 42 (.tmp 0) _ (#[.int .i64 (r), .int .i64 (f), .int .i64 (k), .int .i64 (d), .int .i64 (er), .int .u64 (l0 (tt)), .int .u64 (l1 (tt)), .int .u64 (l2 (tt)), .int .u64 (l3 (tt)), .int .u64 (l4 (tt)), .bool false, .bool mb, .int .u64 (l0 (mn)), .int .u64 (l1 (mn)), .int .u64 (l2 (mn)), .int .u64 (l3 (mn)), .int .i64 (ms), .bool xb, .int .u64 (l0 (xn)), .int .u64 (l1 (xn)), .int .u64 (l2 (xn)), .int .u64 (l3 (xn)), .int .i64 (xs)]) rfl rfl (fun _ => by kernel_rfl) rfl ?_
 intro k1 w1 hk hz hq Q1
 have N_k1 : w.heap.size ≤ k1 := by have := M.size; omega
 replace M := M.trans hq
 clear hk hz hq
 refine wl_box 42 (.tmp 1) _ (#[.int .i64 (r2), .int .i64 (f2), .int .i64 (k2), .int .i64 (d2), .int .i64 (e2), .int .u64 (l0 (tt2)), .int .u64 (l1 (tt2)), .int .u64 (l2 (tt2)), .int .u64 (l3 (tt2)), .int .u64 (l4 (tt2)), .bool false, .bool mb2, .int .u64 (l0 (mn2)), .int .u64 (l1 (mn2)), .int .u64 (l2 (mn2)), .int .u64 (l3 (mn2)), .int .i64 (ms2), .bool xb2, .int .u64 (l0 (xn2)), .int .u64 (l1 (xn2)), .int .u64 (l2 (xn2)), .int .u64 (l3 (xn2)), .int .i64 (xs2)]) rfl rfl (fun _ => by kernel_rfl) rfl ?_
 intro k2 w2 hk hz hq Q2
 have ne_k1_k2 : k1 ≠ k2 := by have := Q1.lt; omega
 have N_k2 : w.heap.size ≤ k2 := by have := M.size; omega
 replace Q1 := Q1.mo hq
 replace M := M.trans hq
 clear hk hz hq
 refine wl_alloc 42 #[.int .i64 0, .int .i64 0, .int .i64 0, .int .i64 0, .int .i64 0, .int .u64 0, .int .u64 0, .int .u64 0, .int .u64 0, .int .u64 0, .bool false, .bool false, .int .u64 0, .int .u64 0, .int .u64 0, .int .u64 0, .int .i64 0, .bool false, .int .u64 0, .int .u64 0, .int .u64 0, .int .u64 0, .int .i64 0] rfl (fun _ => by kernel_rfl) rfl ?_
 intro k3 w3 hk hz hq Q3
 have ne_k1_k3 : k1 ≠ k3 := by have := Q1.lt; omega
 have ne_k2_k3 : k2 ≠ k3 := by have := Q2.lt; omega
 have N_k3 : w.heap.size ≤ k3 := by have := M.size; omega
 replace Q1 := Q1.mo hq
 replace Q2 := Q2.mo hq
 replace M := M.trans hq
 clear hk hz hq
 refine w_nil (xn_then (w_seq (w_seq (w_reg ?_))))
 refine wl_f 42 6 (.tmp 3) (pt k2 0) (pt k2 10) ?_
 refine wl_l 4 (.tmp 5) (pt k2 10) (.bool false) (run_one Q2 4 10 rfl Try.underlying4 rfl) ?_
 refine wl_un (fun v => Op.unary .not v) (.tmp 6) (.bool false) (.bool true) (fun _ => rfl) rfl (by kernel_rfl) rfl ?_
 refine w_nil (xn_then (w_condT rfl (w_seq (w_reg ?_))))
 refine wl_l 42 (.tmp 2) (pt k1 0) (.agg #[.int .i64 (r), .int .i64 (f), .int .i64 (k), .int .i64 (d), .int .i64 (er), .int .u64 (l0 (tt)), .int .u64 (l1 (tt)), .int .u64 (l2 (tt)), .int .u64 (l3 (tt)), .int .u64 (l4 (tt)), .bool false, .bool mb, .int .u64 (l0 (mn)), .int .u64 (l1 (mn)), .int .u64 (l2 (mn)), .int .u64 (l3 (mn)), .int .i64 (ms), .bool xb, .int .u64 (l0 (xn)), .int .u64 (l1 (xn)), .int .u64 (l2 (xn)), .int .u64 (l3 (xn)), .int .i64 (xs)]) (run_row Q1 42 0 23 _ rfl Try.underlying42 rfl sz33) ?_
 refine wl_st 42 (.tmp 4) (.tmp 8) k3 0 #[.int .i64 (r), .int .i64 (f), .int .i64 (k), .int .i64 (d), .int .i64 (er), .int .u64 (l0 (tt)), .int .u64 (l1 (tt)), .int .u64 (l2 (tt)), .int .u64 (l3 (tt)), .int .u64 (l4 (tt)), .bool false, .bool mb, .int .u64 (l0 (mn)), .int .u64 (l1 (mn)), .int .u64 (l2 (mn)), .int .u64 (l3 (mn)), .int .i64 (ms), .bool xb, .int .u64 (l0 (xn)), .int .u64 (l1 (xn)), .int .u64 (l2 (xn)), .int .u64 (l3 (xn)), .int .i64 (xs)] _ [.int .i64 (r), .int .i64 (f), .int .i64 (k), .int .i64 (d), .int .i64 (er), .int .u64 (l0 (tt)), .int .u64 (l1 (tt)), .int .u64 (l2 (tt)), .int .u64 (l3 (tt)), .int .u64 (l4 (tt)), .bool false, .bool mb, .int .u64 (l0 (mn)), .int .u64 (l1 (mn)), .int .u64 (l2 (mn)), .int .u64 (l3 (mn)), .int .i64 (ms), .bool xb, .int .u64 (l0 (xn)), .int .u64 (l1 (xn)), .int .u64 (l2 (xn)), .int .u64 (l3 (xn)), .int .i64 (xs)] Q3 rfl rfl rfl rfl rfl sz33 rfl rfl rfl ?_
 intro w4 hS Qn
 replace Q3 := Qn
 clear Qn
 replace Q1 := hS.other _ _ ne_k1_k3 Q1
 replace Q2 := hS.other _ _ ne_k2_k3 Q2
 replace M := hS.mo _ N_k3 M
 clear hS
 refine w_nil (xn_then (w_ret (xr_then ?_)))
 exact w_ret1 _ (.agg #[.int .i64 (r), .int .i64 (f), .int .i64 (k), .int .i64 (d), .int .i64 (er), .int .u64 (l0 (tt)), .int .u64 (l1 (tt)), .int .u64 (l2 (tt)), .int .u64 (l3 (tt)), .int .u64 (l4 (tt)), .bool false, .bool mb, .int .u64 (l0 (mn)), .int .u64 (l1 (mn)), .int .u64 (l2 (mn)), .int .u64 (l3 (mn)), .int .i64 (ms), .bool xb, .int .u64 (l0 (xn)), .int .u64 (l1 (xn)), .int .u64 (l2 (xn)), .int .u64 (l3 (xn)), .int .i64 (xs)]) rfl ⟨k3, rfl, (run_row Q3 42 0 23 _ rfl Try.underlying42 rfl sz33)⟩ ⟨rfl, M⟩
theorem str_b (r f k d er tt : Int) (mb : Bool) (mn ms : Int) (xb : Bool) (xn xs : Int) (r2 f2 k2 d2 e2 tt2 : Int) (mb2 : Bool) (mn2 ms2 : Int) (xb2 : Bool) (xn2 xs2 : Int) : Calls Try.prog 64 #[sm r (f) (k) (d) (er) (tt) true mb (mn) (ms) xb (xn) (xs), sm r2 (f2) (k2) (d2) (e2) (tt2) false mb2 (mn2) (ms2) xb2 (xn2) (xs2)] w fun e w' => e = .returned (sm r (f) (k) (d) (er) (tt) true mb (mn) (ms) xb (xn) (xs)) ∧ Mo w w' := by
 refine w_enter 39 Try.func64 Try.ntmps64 rfl rfl ?_
 have M : Mo w w := Mo.refl _
 refine w_seq (w_reg ?_)
 refine wl_box 42 (.tmp 0) _ (#[.int .i64 (r), .int .i64 (f), .int .i64 (k), .int .i64 (d), .int .i64 (er), .int .u64 (l0 (tt)), .int .u64 (l1 (tt)), .int .u64 (l2 (tt)), .int .u64 (l3 (tt)), .int .u64 (l4 (tt)), .bool true, .bool mb, .int .u64 (l0 (mn)), .int .u64 (l1 (mn)), .int .u64 (l2 (mn)), .int .u64 (l3 (mn)), .int .i64 (ms), .bool xb, .int .u64 (l0 (xn)), .int .u64 (l1 (xn)), .int .u64 (l2 (xn)), .int .u64 (l3 (xn)), .int .i64 (xs)]) rfl rfl (fun _ => by kernel_rfl) rfl ?_
 intro k1 w1 hk hz hq Q1
 have N_k1 : w.heap.size ≤ k1 := by have := M.size; omega
 replace M := M.trans hq
 clear hk hz hq
 refine wl_box 42 (.tmp 1) _ (#[.int .i64 (r2), .int .i64 (f2), .int .i64 (k2), .int .i64 (d2), .int .i64 (e2), .int .u64 (l0 (tt2)), .int .u64 (l1 (tt2)), .int .u64 (l2 (tt2)), .int .u64 (l3 (tt2)), .int .u64 (l4 (tt2)), .bool false, .bool mb2, .int .u64 (l0 (mn2)), .int .u64 (l1 (mn2)), .int .u64 (l2 (mn2)), .int .u64 (l3 (mn2)), .int .i64 (ms2), .bool xb2, .int .u64 (l0 (xn2)), .int .u64 (l1 (xn2)), .int .u64 (l2 (xn2)), .int .u64 (l3 (xn2)), .int .i64 (xs2)]) rfl rfl (fun _ => by kernel_rfl) rfl ?_
 intro k2 w2 hk hz hq Q2
 have ne_k1_k2 : k1 ≠ k2 := by have := Q1.lt; omega
 have N_k2 : w.heap.size ≤ k2 := by have := M.size; omega
 replace Q1 := Q1.mo hq
 replace M := M.trans hq
 clear hk hz hq
 refine wl_alloc 42 #[.int .i64 0, .int .i64 0, .int .i64 0, .int .i64 0, .int .i64 0, .int .u64 0, .int .u64 0, .int .u64 0, .int .u64 0, .int .u64 0, .bool false, .bool false, .int .u64 0, .int .u64 0, .int .u64 0, .int .u64 0, .int .i64 0, .bool false, .int .u64 0, .int .u64 0, .int .u64 0, .int .u64 0, .int .i64 0] rfl (fun _ => by kernel_rfl) rfl ?_
 intro k3 w3 hk hz hq Q3
 have ne_k1_k3 : k1 ≠ k3 := by have := Q1.lt; omega
 have ne_k2_k3 : k2 ≠ k3 := by have := Q2.lt; omega
 have N_k3 : w.heap.size ≤ k3 := by have := M.size; omega
 replace Q1 := Q1.mo hq
 replace Q2 := Q2.mo hq
 replace M := M.trans hq
 clear hk hz hq
 refine w_nil (xn_then (w_seq (w_seq (w_reg ?_))))
 refine wl_f 42 6 (.tmp 3) (pt k2 0) (pt k2 10) ?_
 refine wl_l 4 (.tmp 5) (pt k2 10) (.bool false) (run_one Q2 4 10 rfl Try.underlying4 rfl) ?_
 refine wl_un (fun v => Op.unary .not v) (.tmp 6) (.bool false) (.bool true) (fun _ => rfl) rfl (by kernel_rfl) rfl ?_
 refine w_nil (xn_then (w_condT rfl (w_seq (w_reg ?_))))
 refine wl_l 42 (.tmp 2) (pt k1 0) (.agg #[.int .i64 (r), .int .i64 (f), .int .i64 (k), .int .i64 (d), .int .i64 (er), .int .u64 (l0 (tt)), .int .u64 (l1 (tt)), .int .u64 (l2 (tt)), .int .u64 (l3 (tt)), .int .u64 (l4 (tt)), .bool true, .bool mb, .int .u64 (l0 (mn)), .int .u64 (l1 (mn)), .int .u64 (l2 (mn)), .int .u64 (l3 (mn)), .int .i64 (ms), .bool xb, .int .u64 (l0 (xn)), .int .u64 (l1 (xn)), .int .u64 (l2 (xn)), .int .u64 (l3 (xn)), .int .i64 (xs)]) (run_row Q1 42 0 23 _ rfl Try.underlying42 rfl sz33) ?_
 refine wl_st 42 (.tmp 4) (.tmp 8) k3 0 #[.int .i64 (r), .int .i64 (f), .int .i64 (k), .int .i64 (d), .int .i64 (er), .int .u64 (l0 (tt)), .int .u64 (l1 (tt)), .int .u64 (l2 (tt)), .int .u64 (l3 (tt)), .int .u64 (l4 (tt)), .bool true, .bool mb, .int .u64 (l0 (mn)), .int .u64 (l1 (mn)), .int .u64 (l2 (mn)), .int .u64 (l3 (mn)), .int .i64 (ms), .bool xb, .int .u64 (l0 (xn)), .int .u64 (l1 (xn)), .int .u64 (l2 (xn)), .int .u64 (l3 (xn)), .int .i64 (xs)] _ [.int .i64 (r), .int .i64 (f), .int .i64 (k), .int .i64 (d), .int .i64 (er), .int .u64 (l0 (tt)), .int .u64 (l1 (tt)), .int .u64 (l2 (tt)), .int .u64 (l3 (tt)), .int .u64 (l4 (tt)), .bool true, .bool mb, .int .u64 (l0 (mn)), .int .u64 (l1 (mn)), .int .u64 (l2 (mn)), .int .u64 (l3 (mn)), .int .i64 (ms), .bool xb, .int .u64 (l0 (xn)), .int .u64 (l1 (xn)), .int .u64 (l2 (xn)), .int .u64 (l3 (xn)), .int .i64 (xs)] Q3 rfl rfl rfl rfl rfl sz33 rfl rfl rfl ?_
 intro w4 hS Qn
 replace Q3 := Qn
 clear Qn
 replace Q1 := hS.other _ _ ne_k1_k3 Q1
 replace Q2 := hS.other _ _ ne_k2_k3 Q2
 replace M := hS.mo _ N_k3 M
 clear hS
 refine w_nil (xn_then (w_ret (xr_then ?_)))
 exact w_ret1 _ (.agg #[.int .i64 (r), .int .i64 (f), .int .i64 (k), .int .i64 (d), .int .i64 (er), .int .u64 (l0 (tt)), .int .u64 (l1 (tt)), .int .u64 (l2 (tt)), .int .u64 (l3 (tt)), .int .u64 (l4 (tt)), .bool true, .bool mb, .int .u64 (l0 (mn)), .int .u64 (l1 (mn)), .int .u64 (l2 (mn)), .int .u64 (l3 (mn)), .int .i64 (ms), .bool xb, .int .u64 (l0 (xn)), .int .u64 (l1 (xn)), .int .u64 (l2 (xn)), .int .u64 (l3 (xn)), .int .i64 (xs)]) rfl ⟨k3, rfl, (run_row Q3 42 0 23 _ rfl Try.underlying42 rfl sz33)⟩ ⟨rfl, M⟩
theorem str_c (r f k d er tt : Int) (mb : Bool) (mn ms : Int) (xb : Bool) (xn xs : Int) (r2 f2 k2 d2 e2 tt2 : Int) (mb2 : Bool) (mn2 ms2 : Int) (xb2 : Bool) (xn2 xs2 : Int) : Calls Try.prog 64 #[sm r (f) (k) (d) (er) (tt) false mb (mn) (ms) xb (xn) (xs), sm r2 (f2) (k2) (d2) (e2) (tt2) true mb2 (mn2) (ms2) xb2 (xn2) (xs2)] w fun e w' => e = .returned (sm r (f) (k) (d) (er) (tt) true mb2 (mn2) (ms2) xb2 (xn2) (xs2)) ∧ Mo w w' := by
 refine w_enter 39 Try.func64 Try.ntmps64 rfl rfl ?_
 have M : Mo w w := Mo.refl _
 refine w_seq (w_reg ?_)
 refine wl_box 42 (.tmp 0) _ (#[.int .i64 (r), .int .i64 (f), .int .i64 (k), .int .i64 (d), .int .i64 (er), .int .u64 (l0 (tt)), .int .u64 (l1 (tt)), .int .u64 (l2 (tt)), .int .u64 (l3 (tt)), .int .u64 (l4 (tt)), .bool false, .bool mb, .int .u64 (l0 (mn)), .int .u64 (l1 (mn)), .int .u64 (l2 (mn)), .int .u64 (l3 (mn)), .int .i64 (ms), .bool xb, .int .u64 (l0 (xn)), .int .u64 (l1 (xn)), .int .u64 (l2 (xn)), .int .u64 (l3 (xn)), .int .i64 (xs)]) rfl rfl (fun _ => by kernel_rfl) rfl ?_
 intro k1 w1 hk hz hq Q1
 have N_k1 : w.heap.size ≤ k1 := by have := M.size; omega
 replace M := M.trans hq
 clear hk hz hq
 refine wl_box 42 (.tmp 1) _ (#[.int .i64 (r2), .int .i64 (f2), .int .i64 (k2), .int .i64 (d2), .int .i64 (e2), .int .u64 (l0 (tt2)), .int .u64 (l1 (tt2)), .int .u64 (l2 (tt2)), .int .u64 (l3 (tt2)), .int .u64 (l4 (tt2)), .bool true, .bool mb2, .int .u64 (l0 (mn2)), .int .u64 (l1 (mn2)), .int .u64 (l2 (mn2)), .int .u64 (l3 (mn2)), .int .i64 (ms2), .bool xb2, .int .u64 (l0 (xn2)), .int .u64 (l1 (xn2)), .int .u64 (l2 (xn2)), .int .u64 (l3 (xn2)), .int .i64 (xs2)]) rfl rfl (fun _ => by kernel_rfl) rfl ?_
 intro k2 w2 hk hz hq Q2
 have ne_k1_k2 : k1 ≠ k2 := by have := Q1.lt; omega
 have N_k2 : w.heap.size ≤ k2 := by have := M.size; omega
 replace Q1 := Q1.mo hq
 replace M := M.trans hq
 clear hk hz hq
 refine wl_alloc 42 #[.int .i64 0, .int .i64 0, .int .i64 0, .int .i64 0, .int .i64 0, .int .u64 0, .int .u64 0, .int .u64 0, .int .u64 0, .int .u64 0, .bool false, .bool false, .int .u64 0, .int .u64 0, .int .u64 0, .int .u64 0, .int .i64 0, .bool false, .int .u64 0, .int .u64 0, .int .u64 0, .int .u64 0, .int .i64 0] rfl (fun _ => by kernel_rfl) rfl ?_
 intro k3 w3 hk hz hq Q3
 have ne_k1_k3 : k1 ≠ k3 := by have := Q1.lt; omega
 have ne_k2_k3 : k2 ≠ k3 := by have := Q2.lt; omega
 have N_k3 : w.heap.size ≤ k3 := by have := M.size; omega
 replace Q1 := Q1.mo hq
 replace Q2 := Q2.mo hq
 replace M := M.trans hq
 clear hk hz hq
 refine w_nil (xn_then (w_seq (w_seq (w_reg ?_))))
 refine wl_f 42 6 (.tmp 3) (pt k2 0) (pt k2 10) ?_
 refine wl_l 4 (.tmp 5) (pt k2 10) (.bool true) (run_one Q2 4 10 rfl Try.underlying4 rfl) ?_
 refine wl_un (fun v => Op.unary .not v) (.tmp 6) (.bool true) (.bool false) (fun _ => rfl) rfl (by kernel_rfl) rfl ?_
 refine w_nil (xn_then (w_condF rfl (w_skip (xn_then (w_seq (w_seq (w_reg ?_)))))))
 refine wl_f 42 6 (.tmp 2) (pt k1 0) (pt k1 10) ?_
 refine wl_l 4 (.tmp 9) (pt k1 10) (.bool false) (run_one Q1 4 10 rfl Try.underlying4 rfl) ?_
 refine wl_un (fun v => Op.unary .not v) (.tmp 10) (.bool false) (.bool true) (fun _ => rfl) rfl (by kernel_rfl) rfl ?_
 refine wl_m (.tmp 11) (.bool true) ?_
 refine wl_skip rfl (wl_skip rfl (wl_skip rfl (wl_skip rfl (wl_skip rfl (wl_skip rfl ?_)))))
 refine wl_pick (.tmp 12) (.const (.bool true)) (.tmp 18) true (.bool true) (fun _ => rfl) rfl rfl rfl ?_
 refine w_nil (xn_then (w_condT rfl (w_reg ?_)))
 refine wl_f 42 7 (.tmp 3) (pt k2 0) (pt k2 11) ?_
 refine wl_l 40 (.tmp 20) (pt k2 11) (.agg #[.bool mb2, .int .u64 (l0 (mn2)), .int .u64 (l1 (mn2)), .int .u64 (l2 (mn2)), .int .u64 (l3 (mn2)), .int .i64 (ms2)]) (run_row Q2 40 11 6 _ rfl Try.underlying40 rfl sz26) ?_
 refine wl_f 42 7 (.tmp 2) (pt k1 0) (pt k1 11) ?_
 refine wl_st 40 (.tmp 22) (.tmp 21) k1 11 #[.bool mb2, .int .u64 (l0 (mn2)), .int .u64 (l1 (mn2)), .int .u64 (l2 (mn2)), .int .u64 (l3 (mn2)), .int .i64 (ms2)] _ [.int .i64 (r), .int .i64 (f), .int .i64 (k), .int .i64 (d), .int .i64 (er), .int .u64 (l0 (tt)), .int .u64 (l1 (tt)), .int .u64 (l2 (tt)), .int .u64 (l3 (tt)), .int .u64 (l4 (tt)), .bool false, .bool mb2, .int .u64 (l0 (mn2)), .int .u64 (l1 (mn2)), .int .u64 (l2 (mn2)), .int .u64 (l3 (mn2)), .int .i64 (ms2), .bool xb, .int .u64 (l0 (xn)), .int .u64 (l1 (xn)), .int .u64 (l2 (xn)), .int .u64 (l3 (xn)), .int .i64 (xs)] Q1 rfl rfl rfl rfl rfl sz26 rfl rfl rfl ?_
 intro w4 hS Qn
 replace Q1 := Qn
 clear Qn
 replace Q2 := hS.other _ _ ne_k1_k2.symm Q2
 replace Q3 := hS.other _ _ ne_k1_k3.symm Q3
 replace M := hS.mo _ N_k1 M
 clear hS
 refine w_nil (xn_then (w_seq (w_seq (w_reg ?_))))
 refine wl_f 42 6 (.tmp 2) (pt k1 0) (pt k1 10) ?_
 refine wl_l 4 (.tmp 23) (pt k1 10) (.bool false) (run_one Q1 4 10 rfl Try.underlying4 rfl) ?_
 refine wl_un (fun v => Op.unary .not v) (.tmp 24) (.bool false) (.bool true) (fun _ => rfl) rfl (by kernel_rfl) rfl ?_
 refine wl_m (.tmp 25) (.bool true) ?_
 refine wl_skip rfl (wl_skip rfl (wl_skip rfl (wl_skip rfl (wl_skip rfl (wl_skip rfl ?_)))))
 refine wl_pick (.tmp 26) (.const (.bool true)) (.tmp 32) true (.bool true) (fun _ => rfl) rfl rfl rfl ?_
 refine w_nil (xn_then (w_condT rfl (w_reg ?_)))
 refine wl_f 42 8 (.tmp 3) (pt k2 0) (pt k2 17) ?_
 refine wl_l 40 (.tmp 34) (pt k2 17) (.agg #[.bool xb2, .int .u64 (l0 (xn2)), .int .u64 (l1 (xn2)), .int .u64 (l2 (xn2)), .int .u64 (l3 (xn2)), .int .i64 (xs2)]) (run_row Q2 40 17 6 _ rfl Try.underlying40 rfl sz26) ?_
 refine wl_f 42 8 (.tmp 2) (pt k1 0) (pt k1 17) ?_
 refine wl_st 40 (.tmp 36) (.tmp 35) k1 17 #[.bool xb2, .int .u64 (l0 (xn2)), .int .u64 (l1 (xn2)), .int .u64 (l2 (xn2)), .int .u64 (l3 (xn2)), .int .i64 (xs2)] _ [.int .i64 (r), .int .i64 (f), .int .i64 (k), .int .i64 (d), .int .i64 (er), .int .u64 (l0 (tt)), .int .u64 (l1 (tt)), .int .u64 (l2 (tt)), .int .u64 (l3 (tt)), .int .u64 (l4 (tt)), .bool false, .bool mb2, .int .u64 (l0 (mn2)), .int .u64 (l1 (mn2)), .int .u64 (l2 (mn2)), .int .u64 (l3 (mn2)), .int .i64 (ms2), .bool xb2, .int .u64 (l0 (xn2)), .int .u64 (l1 (xn2)), .int .u64 (l2 (xn2)), .int .u64 (l3 (xn2)), .int .i64 (xs2)] Q1 rfl rfl rfl rfl rfl sz26 rfl rfl rfl ?_
 intro w5 hS Qn
 replace Q1 := Qn
 clear Qn
 replace Q2 := hS.other _ _ ne_k1_k2.symm Q2
 replace Q3 := hS.other _ _ ne_k1_k3.symm Q3
 replace M := hS.mo _ N_k1 M
 clear hS
 refine w_nil (xn_then (w_seq (w_reg ?_)))
 refine wl_f 42 6 (.tmp 2) (pt k1 0) (pt k1 10) ?_
 refine wl_st1 4 (.tmp 37) (.const (.bool true)) k1 10 (.bool true) _ [.int .i64 (r), .int .i64 (f), .int .i64 (k), .int .i64 (d), .int .i64 (er), .int .u64 (l0 (tt)), .int .u64 (l1 (tt)), .int .u64 (l2 (tt)), .int .u64 (l3 (tt)), .int .u64 (l4 (tt)), .bool true, .bool mb2, .int .u64 (l0 (mn2)), .int .u64 (l1 (mn2)), .int .u64 (l2 (mn2)), .int .u64 (l3 (mn2)), .int .i64 (ms2), .bool xb2, .int .u64 (l0 (xn2)), .int .u64 (l1 (xn2)), .int .u64 (l2 (xn2)), .int .u64 (l3 (xn2)), .int .i64 (xs2)] Q1 rfl rfl rfl rfl rfl sz4 rfl rfl rfl rfl ?_
 intro w6 hS Qn
 replace Q1 := Qn
 clear Qn
 replace Q2 := hS.other _ _ ne_k1_k2.symm Q2
 replace Q3 := hS.other _ _ ne_k1_k3.symm Q3
 replace M := hS.mo _ N_k1 M
 clear hS
 refine w_nil (xn_then (w_seq (w_reg ?_)))
 refine wl_l 42 (.tmp 2) (pt k1 0) (.agg #[.int .i64 (r), .int .i64 (f), .int .i64 (k), .int .i64 (d), .int .i64 (er), .int .u64 (l0 (tt)), .int .u64 (l1 (tt)), .int .u64 (l2 (tt)), .int .u64 (l3 (tt)), .int .u64 (l4 (tt)), .bool true, .bool mb2, .int .u64 (l0 (mn2)), .int .u64 (l1 (mn2)), .int .u64 (l2 (mn2)), .int .u64 (l3 (mn2)), .int .i64 (ms2), .bool xb2, .int .u64 (l0 (xn2)), .int .u64 (l1 (xn2)), .int .u64 (l2 (xn2)), .int .u64 (l3 (xn2)), .int .i64 (xs2)]) (run_row Q1 42 0 23 _ rfl Try.underlying42 rfl sz33) ?_
 refine wl_st 42 (.tmp 4) (.tmp 38) k3 0 #[.int .i64 (r), .int .i64 (f), .int .i64 (k), .int .i64 (d), .int .i64 (er), .int .u64 (l0 (tt)), .int .u64 (l1 (tt)), .int .u64 (l2 (tt)), .int .u64 (l3 (tt)), .int .u64 (l4 (tt)), .bool true, .bool mb2, .int .u64 (l0 (mn2)), .int .u64 (l1 (mn2)), .int .u64 (l2 (mn2)), .int .u64 (l3 (mn2)), .int .i64 (ms2), .bool xb2, .int .u64 (l0 (xn2)), .int .u64 (l1 (xn2)), .int .u64 (l2 (xn2)), .int .u64 (l3 (xn2)), .int .i64 (xs2)] _ [.int .i64 (r), .int .i64 (f), .int .i64 (k), .int .i64 (d), .int .i64 (er), .int .u64 (l0 (tt)), .int .u64 (l1 (tt)), .int .u64 (l2 (tt)), .int .u64 (l3 (tt)), .int .u64 (l4 (tt)), .bool true, .bool mb2, .int .u64 (l0 (mn2)), .int .u64 (l1 (mn2)), .int .u64 (l2 (mn2)), .int .u64 (l3 (mn2)), .int .i64 (ms2), .bool xb2, .int .u64 (l0 (xn2)), .int .u64 (l1 (xn2)), .int .u64 (l2 (xn2)), .int .u64 (l3 (xn2)), .int .i64 (xs2)] Q3 rfl rfl rfl rfl rfl sz33 rfl rfl rfl ?_
 intro w7 hS Qn
 replace Q3 := Qn
 clear Qn
 replace Q1 := hS.other _ _ ne_k1_k3 Q1
 replace Q2 := hS.other _ _ ne_k2_k3 Q2
 replace M := hS.mo _ N_k3 M
 clear hS
 refine w_nil (xn_then (w_ret ?_))
 exact w_ret1 _ (.agg #[.int .i64 (r), .int .i64 (f), .int .i64 (k), .int .i64 (d), .int .i64 (er), .int .u64 (l0 (tt)), .int .u64 (l1 (tt)), .int .u64 (l2 (tt)), .int .u64 (l3 (tt)), .int .u64 (l4 (tt)), .bool true, .bool mb2, .int .u64 (l0 (mn2)), .int .u64 (l1 (mn2)), .int .u64 (l2 (mn2)), .int .u64 (l3 (mn2)), .int .i64 (ms2), .bool xb2, .int .u64 (l0 (xn2)), .int .u64 (l1 (xn2)), .int .u64 (l2 (xn2)), .int .u64 (l3 (xn2)), .int .i64 (xs2)]) rfl ⟨k3, rfl, (run_row Q3 42 0 23 _ rfl Try.underlying42 rfl sz33)⟩ ⟨rfl, M⟩
theorem str_dtt (r f k d er tt : Int) (mb : Bool) (mn ms : Int) (xb : Bool) (xn xs : Int) (r2 f2 k2 d2 e2 tt2 : Int) (mb2 : Bool) (mn2 ms2 : Int) (xb2 : Bool) (xn2 xs2 : Int) (hm : D3.ok ⟨mb, mn, ms⟩) (hx : D3.ok ⟨xb, xn, xs⟩) (hm2 : D3.ok ⟨mb2, mn2, ms2⟩) (hx2 : D3.ok ⟨xb2, xn2, xs2⟩) (q1 : decide (cmpv ⟨mb2, mn2, ms2⟩ ⟨mb, mn, ms⟩ < 0) = true) (q2 : decide (0 < cmpv ⟨xb2, xn2, xs2⟩ ⟨xb, xn, xs⟩) = true) : Calls Try.prog 64 #[sm r (f) (k) (d) (er) (tt) true mb (mn) (ms) xb (xn) (xs), sm r2 (f2) (k2) (d2) (e2) (tt2) true mb2 (mn2) (ms2) xb2 (xn2) (xs2)] w fun e w' => e = .returned (sm r (f) (k) (d) (er) (tt) true mb2 (mn2) (ms2) xb2 (xn2) (xs2)) ∧ Mo w w' := by
 refine w_enter 39 Try.func64 Try.ntmps64 rfl rfl ?_
 have M : Mo w w := Mo.refl _
 refine w_seq (w_reg ?_)
 refine wl_box 42 (.tmp 0) _ (#[.int .i64 (r), .int .i64 (f), .int .i64 (k), .int .i64 (d), .int .i64 (er), .int .u64 (l0 (tt)), .int .u64 (l1 (tt)), .int .u64 (l2 (tt)), .int .u64 (l3 (tt)), .int .u64 (l4 (tt)), .bool true, .bool mb, .int .u64 (l0 (mn)), .int .u64 (l1 (mn)), .int .u64 (l2 (mn)), .int .u64 (l3 (mn)), .int .i64 (ms), .bool xb, .int .u64 (l0 (xn)), .int .u64 (l1 (xn)), .int .u64 (l2 (xn)), .int .u64 (l3 (xn)), .int .i64 (xs)]) rfl rfl (fun _ => by kernel_rfl) rfl ?_
 intro k1 w1 hk hz hq Q1
 have N_k1 : w.heap.size ≤ k1 := by have := M.size; omega
 replace M := M.trans hq
 clear hk hz hq
 refine wl_box 42 (.tmp 1) _ (#[.int .i64 (r2), .int .i64 (f2), .int .i64 (k2), .int .i64 (d2), .int .i64 (e2), .int .u64 (l0 (tt2)), .int .u64 (l1 (tt2)), .int .u64 (l2 (tt2)), .int .u64 (l3 (tt2)), .int .u64 (l4 (tt2)), .bool true, .bool mb2, .int .u64 (l0 (mn2)), .int .u64 (l1 (mn2)), .int .u64 (l2 (mn2)), .int .u64 (l3 (mn2)), .int .i64 (ms2), .bool xb2, .int .u64 (l0 (xn2)), .int .u64 (l1 (xn2)), .int .u64 (l2 (xn2)), .int .u64 (l3 (xn2)), .int .i64 (xs2)]) rfl rfl (fun _ => by kernel_rfl) rfl ?_
 intro k2 w2 hk hz hq Q2
 have ne_k1_k2 : k1 ≠ k2 := by have := Q1.lt; omega
 have N_k2 : w.heap.size ≤ k2 := by have := M.size; omega
 replace Q1 := Q1.mo hq
 replace M := M.trans hq
 clear hk hz hq
 refine wl_alloc 42 #[.int .i64 0, .int .i64 0, .int .i64 0, .int .i64 0, .int .i64 0, .int .u64 0, .int .u64 0, .int .u64 0, .int .u64 0, .int .u64 0, .bool false, .bool false, .int .u64 0, .int .u64 0, .int .u64 0, .int .u64 0, .int .i64 0, .bool false, .int .u64 0, .int .u64 0, .int .u64 0, .int .u64 0, .int .i64 0] rfl (fun _ => by kernel_rfl) rfl ?_
 intro k3 w3 hk hz hq Q3
 have ne_k1_k3 : k1 ≠ k3 := by have := Q1.lt; omega
 have ne_k2_k3 : k2 ≠ k3 := by have := Q2.lt; omega
 have N_k3 : w.heap.size ≤ k3 := by have := M.size; omega
 replace Q1 := Q1.mo hq
 replace Q2 := Q2.mo hq
 replace M := M.trans hq
 clear hk hz hq
 refine w_nil (xn_then (w_seq (w_seq (w_reg ?_))))
 refine wl_f 42 6 (.tmp 3) (pt k2 0) (pt k2 10) ?_
 refine wl_l 4 (.tmp 5) (pt k2 10) (.bool true) (run_one Q2 4 10 rfl Try.underlying4 rfl) ?_
 refine wl_un (fun v => Op.unary .not v) (.tmp 6) (.bool true) (.bool false) (fun _ => rfl) rfl (by kernel_rfl) rfl ?_
 refine w_nil (xn_then (w_condF rfl (w_skip (xn_then (w_seq (w_seq (w_reg ?_)))))))
 refine wl_f 42 6 (.tmp 2) (pt k1 0) (pt k1 10) ?_
 refine wl_l 4 (.tmp 9) (pt k1 10) (.bool true) (run_one Q1 4 10 rfl Try.underlying4 rfl) ?_
 refine wl_un (fun v => Op.unary .not v) (.tmp 10) (.bool true) (.bool false) (fun _ => rfl) rfl (by kernel_rfl) rfl ?_
 refine wl_m (.tmp 11) (.bool false) ?_
 refine wl_f 42 7 (.tmp 3) (pt k2 0) (pt k2 11) ?_
 refine wl_l 40 (.tmp 13) (pt k2 11) (.agg #[.bool mb2, .int .u64 (l0 (mn2)), .int .u64 (l1 (mn2)), .int .u64 (l2 (mn2)), .int .u64 (l3 (mn2)), .int .i64 (ms2)]) (run_row Q2 40 11 6 _ rfl Try.underlying40 rfl sz26) ?_
 refine wl_f 42 7 (.tmp 2) (pt k1 0) (pt k1 11) ?_
 refine wl_l 40 (.tmp 15) (pt k1 11) (.agg #[.bool mb, .int .u64 (l0 (mn)), .int .u64 (l1 (mn)), .int .u64 (l2 (mn)), .int .u64 (l3 (mn)), .int .i64 (ms)]) (run_row Q1 40 11 6 _ rfl Try.underlying40 rfl sz26) ?_
 refine wl_call 75 [(.tmp 14), (.tmp 16)] _ [.agg #[.bool mb2, .int .u64 (l0 (mn2)), .int .u64 (l1 (mn2)), .int .u64 (l2 (mn2)), .int .u64 (l3 (mn2)), .int .i64 (ms2)], .agg #[.bool mb, .int .u64 (l0 (mn)), .int .u64 (l1 (mn)), .int .u64 (l2 (mn)), .int .u64 (l3 (mn)), .int .i64 (ms)]] (.int .i64 (cmpv ⟨mb2, mn2, ms2⟩ ⟨mb, mn, ms⟩)) rfl rfl (fun _ _ => by kernel_rfl) (cmp_d ⟨mb2, mn2, ms2⟩ ⟨mb, mn, ms⟩ hm2 hm _) rfl ?_
 intro w4 hq
 replace Q1 := Q1.mo hq
 replace Q2 := Q2.mo hq
 replace Q3 := Q3.mo hq
 replace M := M.trans hq
 clear hq
 refine wl_b .lss 3 (.tmp 17) (.const (.int .i64 (0))) (.int .i64 (cmpv ⟨mb2, mn2, ms2⟩ ⟨mb, mn, ms⟩)) (.int .i64 (0)) (.bool true) (ltI q1 _ _ _) ?_
 refine wl_pick (.tmp 12) (.const (.bool true)) (.tmp 18) false (.bool true) (fun _ => rfl) rfl rfl rfl ?_
 refine w_nil (xn_then (w_condT rfl (w_reg ?_)))
 refine wl_f 42 7 (.tmp 3) (pt k2 0) (pt k2 11) ?_
 refine wl_l 40 (.tmp 20) (pt k2 11) (.agg #[.bool mb2, .int .u64 (l0 (mn2)), .int .u64 (l1 (mn2)), .int .u64 (l2 (mn2)), .int .u64 (l3 (mn2)), .int .i64 (ms2)]) (run_row Q2 40 11 6 _ rfl Try.underlying40 rfl sz26) ?_
 refine wl_f 42 7 (.tmp 2) (pt k1 0) (pt k1 11) ?_
 refine wl_st 40 (.tmp 22) (.tmp 21) k1 11 #[.bool mb2, .int .u64 (l0 (mn2)), .int .u64 (l1 (mn2)), .int .u64 (l2 (mn2)), .int .u64 (l3 (mn2)), .int .i64 (ms2)] _ [.int .i64 (r), .int .i64 (f), .int .i64 (k), .int .i64 (d), .int .i64 (er), .int .u64 (l0 (tt)), .int .u64 (l1 (tt)), .int .u64 (l2 (tt)), .int .u64 (l3 (tt)), .int .u64 (l4 (tt)), .bool true, .bool mb2, .int .u64 (l0 (mn2)), .int .u64 (l1 (mn2)), .int .u64 (l2 (mn2)), .int .u64 (l3 (mn2)), .int .i64 (ms2), .bool xb, .int .u64 (l0 (xn)), .int .u64 (l1 (xn)), .int .u64 (l2 (xn)), .int .u64 (l3 (xn)), .int .i64 (xs)] Q1 rfl rfl rfl rfl rfl sz26 rfl rfl rfl ?_
 intro w5 hS Qn
 replace Q1 := Qn
 clear Qn
 replace Q2 := hS.other _ _ ne_k1_k2.symm Q2
 replace Q3 := hS.other _ _ ne_k1_k3.symm Q3
 replace M := hS.mo _ N_k1 M
 clear hS
 refine w_nil (xn_then (w_seq (w_seq (w_reg ?_))))
 refine wl_f 42 6 (.tmp 2) (pt k1 0) (pt k1 10) ?_
 refine wl_l 4 (.tmp 23) (pt k1 10) (.bool true) (run_one Q1 4 10 rfl Try.underlying4 rfl) ?_
 refine wl_un (fun v => Op.unary .not v) (.tmp 24) (.bool true) (.bool false) (fun _ => rfl) rfl (by kernel_rfl) rfl ?_
 refine wl_m (.tmp 25) (.bool false) ?_
 refine wl_f 42 8 (.tmp 3) (pt k2 0) (pt k2 17) ?_
 refine wl_l 40 (.tmp 27) (pt k2 17) (.agg #[.bool xb2, .int .u64 (l0 (xn2)), .int .u64 (l1 (xn2)), .int .u64 (l2 (xn2)), .int .u64 (l3 (xn2)), .int .i64 (xs2)]) (run_row Q2 40 17 6 _ rfl Try.underlying40 rfl sz26) ?_
 refine wl_f 42 8 (.tmp 2) (pt k1 0) (pt k1 17) ?_
 refine wl_l 40 (.tmp 29) (pt k1 17) (.agg #[.bool xb, .int .u64 (l0 (xn)), .int .u64 (l1 (xn)), .int .u64 (l2 (xn)), .int .u64 (l3 (xn)), .int .i64 (xs)]) (run_row Q1 40 17 6 _ rfl Try.underlying40 rfl sz26) ?_
 refine wl_call 75 [(.tmp 28), (.tmp 30)] _ [.agg #[.bool xb2, .int .u64 (l0 (xn2)), .int .u64 (l1 (xn2)), .int .u64 (l2 (xn2)), .int .u64 (l3 (xn2)), .int .i64 (xs2)], .agg #[.bool xb, .int .u64 (l0 (xn)), .int .u64 (l1 (xn)), .int .u64 (l2 (xn)), .int .u64 (l3 (xn)), .int .i64 (xs)]] (.int .i64 (cmpv ⟨xb2, xn2, xs2⟩ ⟨xb, xn, xs⟩)) rfl rfl (fun _ _ => by kernel_rfl) (cmp_d ⟨xb2, xn2, xs2⟩ ⟨xb, xn, xs⟩ hx2 hx _) rfl ?_
 intro w6 hq
 replace Q1 := Q1.mo hq
 replace Q2 := Q2.mo hq
 replace Q3 := Q3.mo hq
 replace M := M.trans hq
 clear hq
 refine wl_b .gtr 3 (.tmp 31) (.const (.int .i64 (0))) (.int .i64 (cmpv ⟨xb2, xn2, xs2⟩ ⟨xb, xn, xs⟩)) (.int .i64 (0)) (.bool true) (gtI q2 _ _ _) ?_
 refine wl_pick (.tmp 26) (.const (.bool true)) (.tmp 32) false (.bool true) (fun _ => rfl) rfl rfl rfl ?_
 refine w_nil (xn_then (w_condT rfl (w_reg ?_)))
 refine wl_f 42 8 (.tmp 3) (pt k2 0) (pt k2 17) ?_
 refine wl_l 40 (.tmp 34) (pt k2 17) (.agg #[.bool xb2, .int .u64 (l0 (xn2)), .int .u64 (l1 (xn2)), .int .u64 (l2 (xn2)), .int .u64 (l3 (xn2)), .int .i64 (xs2)]) (run_row Q2 40 17 6 _ rfl Try.underlying40 rfl sz26) ?_
 refine wl_f 42 8 (.tmp 2) (pt k1 0) (pt k1 17) ?_
 refine wl_st 40 (.tmp 36) (.tmp 35) k1 17 #[.bool xb2, .int .u64 (l0 (xn2)), .int .u64 (l1 (xn2)), .int .u64 (l2 (xn2)), .int .u64 (l3 (xn2)), .int .i64 (xs2)] _ [.int .i64 (r), .int .i64 (f), .int .i64 (k), .int .i64 (d), .int .i64 (er), .int .u64 (l0 (tt)), .int .u64 (l1 (tt)), .int .u64 (l2 (tt)), .int .u64 (l3 (tt)), .int .u64 (l4 (tt)), .bool true, .bool mb2, .int .u64 (l0 (mn2)), .int .u64 (l1 (mn2)), .int .u64 (l2 (mn2)), .int .u64 (l3 (mn2)), .int .i64 (ms2), .bool xb2, .int .u64 (l0 (xn2)), .int .u64 (l1 (xn2)), .int .u64 (l2 (xn2)), .int .u64 (l3 (xn2)), .int .i64 (xs2)] Q1 rfl rfl rfl rfl rfl sz26 rfl rfl rfl ?_
 intro w7 hS Qn
 replace Q1 := Qn
 clear Qn
 replace Q2 := hS.other _ _ ne_k1_k2.symm Q2
 replace Q3 := hS.other _ _ ne_k1_k3.symm Q3
 replace M := hS.mo _ N_k1 M
 clear hS
 refine w_nil (xn_then (w_seq (w_reg ?_)))
 refine wl_f 42 6 (.tmp 2) (pt k1 0) (pt k1 10) ?_
 refine wl_st1 4 (.tmp 37) (.const (.bool true)) k1 10 (.bool true) _ [.int .i64 (r), .int .i64 (f), .int .i64 (k), .int .i64 (d), .int .i64 (er), .int .u64 (l0 (tt)), .int .u64 (l1 (tt)), .int .u64 (l2 (tt)), .int .u64 (l3 (tt)), .int .u64 (l4 (tt)), .bool true, .bool mb2, .int .u64 (l0 (mn2)), .int .u64 (l1 (mn2)), .int .u64 (l2 (mn2)), .int .u64 (l3 (mn2)), .int .i64 (ms2), .bool xb2, .int .u64 (l0 (xn2)), .int .u64 (l1 (xn2)), .int .u64 (l2 (xn2)), .int .u64 (l3 (xn2)), .int .i64 (xs2)] Q1 rfl rfl rfl rfl rfl sz4 rfl rfl rfl rfl ?_
 intro w8 hS Qn
 replace Q1 := Qn
 clear Qn
 replace Q2 := hS.other _ _ ne_k1_k2.symm Q2
 replace Q3 := hS.other _ _ ne_k1_k3.symm Q3
 replace M := hS.mo _ N_k1 M
 clear hS
 refine w_nil (xn_then (w_seq (w_reg ?_)))
 refine wl_l 42 (.tmp 2) (pt k1 0) (.agg #[.int .i64 (r), .int .i64 (f), .int .i64 (k), .int .i64 (d), .int .i64 (er), .int .u64 (l0 (tt)), .int .u64 (l1 (tt)), .int .u64 (l2 (tt)), .int .u64 (l3 (tt)), .int .u64 (l4 (tt)), .bool true, .bool mb2, .int .u64 (l0 (mn2)), .int .u64 (l1 (mn2)), .int .u64 (l2 (mn2)), .int .u64 (l3 (mn2)), .int .i64 (ms2), .bool xb2, .int .u64 (l0 (xn2)), .int .u64 (l1 (xn2)), .int .u64 (l2 (xn2)), .int .u64 (l3 (xn2)), .int .i64 (xs2)]) (run_row Q1 42 0 23 _ rfl Try.underlying42 rfl sz33) ?_
 refine wl_st 42 (.tmp 4) (.tmp 38) k3 0 #[.int .i64 (r), .int .i64 (f), .int .i64 (k), .int .i64 (d), .int .i64 (er), .int .u64 (l0 (tt)), .int .u64 (l1 (tt)), .int .u64 (l2 (tt)), .int .u64 (l3 (tt)), .int .u64 (l4 (tt)), .bool true, .bool mb2, .int .u64 (l0 (mn2)), .int .u64 (l1 (mn2)), .int .u64 (l2 (mn2)), .int .u64 (l3 (mn2)), .int .i64 (ms2), .bool xb2, .int .u64 (l0 (xn2)), .int .u64 (l1 (xn2)), .int .u64 (l2 (xn2)), .int .u64 (l3 (xn2)), .int .i64 (xs2)] _ [.int .i64 (r), .int .i64 (f), .int .i64 (k), .int .i64 (d), .int .i64 (er), .int .u64 (l0 (tt)), .int .u64 (l1 (tt)), .int .u64 (l2 (tt)), .int .u64 (l3 (tt)), .int .u64 (l4 (tt)), .bool true, .bool mb2, .int .u64 (l0 (mn2)), .int .u64 (l1 (mn2)), .int .u64 (l2 (mn2)), .int .u64 (l3 (mn2)), .int .i64 (ms2), .bool xb2, .int .u64 (l0 (xn2)), .int .u64 (l1 (xn2)), .int .u64 (l2 (xn2)), .int .u64 (l3 (xn2)), .int .i64 (xs2)] Q3 rfl rfl rfl rfl rfl sz33 rfl rfl rfl ?_
 intro w9 hS Qn
 replace Q3 := Qn
 clear Qn
 replace Q1 := hS.other _ _ ne_k1_k3 Q1
 replace Q2 := hS.other _ _ ne_k2_k3 Q2
 replace M := hS.mo _ N_k3 M
 clear hS
 refine w_nil (xn_then (w_ret ?_))
 exact w_ret1 _ (.agg #[.int .i64 (r), .int .i64 (f), .int .i64 (k), .int .i64 (d), .int .i64 (er), .int .u64 (l0 (tt)), .int .u64 (l1 (tt)), .int .u64 (l2 (tt)), .int .u64 (l3 (tt)), .int .u64 (l4 (tt)), .bool true, .bool mb2, .int .u64 (l0 (mn2)), .int .u64 (l1 (mn2)), .int .u64 (l2 (mn2)), .int .u64 (l3 (mn2)), .int .i64 (ms2), .bool xb2, .int .u64 (l0 (xn2)), .int .u64 (l1 (xn2)), .int .u64 (l2 (xn2)), .int .u64 (l3 (xn2)), .int .i64 (xs2)]) rfl ⟨k3, rfl, (run_row Q3 42 0 23 _ rfl Try.underlying42 rfl sz33)⟩ ⟨rfl, M⟩
theorem str_dtf (r f k d er tt : Int) (mb : Bool) (mn ms : Int) (xb : Bool) (xn xs : Int) (r2 f2 k2 d2 e2 tt2 : Int) (mb2 : Bool) (mn2 ms2 : Int) (xb2 : Bool) (xn2 xs2 : Int) (hm : D3.ok ⟨mb, mn, ms⟩) (hx : D3.ok ⟨xb, xn, xs⟩) (hm2 : D3.ok ⟨mb2, mn2, ms2⟩) (hx2 : D3.ok ⟨xb2, xn2, xs2⟩) (q1 : decide (cmpv ⟨mb2, mn2, ms2⟩ ⟨mb, mn, ms⟩ < 0) = true) (q2 : decide (0 < cmpv ⟨xb2, xn2, xs2⟩ ⟨xb, xn, xs⟩) = false) : Calls Try.prog 64 #[sm r (f) (k) (d) (er) (tt) true mb (mn) (ms) xb (xn) (xs), sm r2 (f2) (k2) (d2) (e2) (tt2) true mb2 (mn2) (ms2) xb2 (xn2) (xs2)] w fun e w' => e = .returned (sm r (f) (k) (d) (er) (tt) true mb2 (mn2) (ms2) xb (xn) (xs)) ∧ Mo w w' := by
 refine w_enter 39 Try.func64 Try.ntmps64 rfl rfl ?_
 have M : Mo w w := Mo.refl _
 refine w_seq (w_reg ?_)
 refine wl_box 42 (.tmp 0) _ (#[.int .i64 (r), .int .i64 (f), .int .i64 (k), .int .i64 (d), .int .i64 (er), .int .u64 (l0 (tt)), .int .u64 (l1 (tt)), .int .u64 (l2 (tt)), .int .u64 (l3 (tt)), .int .u64 (l4 (tt)), .bool true, .bool mb, .int .u64 (l0 (mn)), .int .u64 (l1 (mn)), .int .u64 (l2 (mn)), .int .u64 (l3 (mn)), .int .i64 (ms), .bool xb, .int .u64 (l0 (xn)), .int .u64 (l1 (xn)), .int .u64 (l2 (xn)), .int .u64 (l3 (xn)), .int .i64 (xs)]) rfl rfl (fun _ => by kernel_rfl) rfl ?_
 intro k1 w1 hk hz hq Q1
 have N_k1 : w.heap.size ≤ k1 := by have := M.size; omega
 replace M := M.trans hq
 clear hk hz hq
 refine wl_box 42 (.tmp 1) _ (#[.int .i64 (r2), .int .i64 (f2), .int .i64 (k2), .int .i64 (d2), .int .i64 (e2), .int .u64 (l0 (tt2)), .int .u64 (l1 (tt2)), .int .u64 (l2 (tt2)), .int .u64 (l3 (tt2)), .int .u64 (l4 (tt2)), .bool true, .bool mb2, .int .u64 (l0 (mn2)), .int .u64 (l1 (mn2)), .int .u64 (l2 (mn2)), .int .u64 (l3 (mn2)), .int .i64 (ms2), .bool xb2, .int .u64 (l0 (xn2)), .int .u64 (l1 (xn2)), .int .u64 (l2 (xn2)), .int .u64 (l3 (xn2)), .int .i64 (xs2)]) rfl rfl (fun _ => by kernel_rfl) rfl ?_
 intro k2 w2 hk hz hq Q2
 have ne_k1_k2 : k1 ≠ k2 := by have := Q1.lt; omega
 have N_k2 : w.heap.size ≤ k2 := by have := M.size; omega
 replace Q1 := Q1.mo hq
 replace M := M.trans hq
 clear hk hz hq
 refine wl_alloc 42 #[.int .i64 0, .int .i64 0, .int .i64 0, .int .i64 0, .int .i64 0, .int .u64 0, .int .u64 0, .int .u64 0, .int .u64 0, .int .u64 0, .bool false, .bool false, .int .u64 0, .int .u64 0, .int .u64 0, .int .u64 0, .int .i64 0, .bool false, .int .u64 0, .int .u64 0, .int .u64 0, .int .u64 0, .int .i64 0] rfl (fun _ => by kernel_rfl) rfl ?_
 intro k3 w3 hk hz hq Q3
 have ne_k1_k3 : k1 ≠ k3 := by have := Q1.lt; omega
 have ne_k2_k3 : k2 ≠ k3 := by have := Q2.lt; omega
 have N_k3 : w.heap.size ≤ k3 := by have := M.size; omega
 replace Q1 := Q1.mo hq
 replace Q2 := Q2.mo hq
 replace M := M.trans hq
 clear hk hz hq
 refine w_nil (xn_then (w_seq (w_seq (w_reg ?_))))
 refine wl_f 42 6 (.tmp 3) (pt k2 0) (pt k2 10) ?_
 refine wl_l 4 (.tmp 5) (pt k2 10) (.bool true) (run_one Q2 4 10 rfl Try.underlying4 rfl) ?_
 refine wl_un (fun v => Op.unary .not v) (.tmp 6) (.bool true) (.bool false) (fun _ => rfl) rfl (by kernel_rfl) rfl ?_
 refine w_nil (xn_then (w_condF rfl (w_skip (xn_then (w_seq (w_seq (w_reg ?_)))))))
 refine wl_f 42 6 (.tmp 2) (pt k1 0) (pt k1 10) ?_
 refine wl_l 4 (.tmp 9) (pt k1 10) (.bool true) (run_one Q1 4 10 rfl Try.underlying4 rfl) ?_
 refine wl_un (fun v => Op.unary .not v) (.tmp 10) (.bool true) (.bool false) (fun _ => rfl) rfl (by kernel_rfl) rfl ?_
 refine wl_m (.tmp 11) (.bool false) ?_
 refine wl_f 42 7 (.tmp 3) (pt k2 0) (pt k2 11) ?_
 refine wl_l 40 (.tmp 13) (pt k2 11) (.agg #[.bool mb2, .int .u64 (l0 (mn2)), .int .u64 (l1 (mn2)), .int .u64 (l2 (mn2)), .int .u64 (l3 (mn2)), .int .i64 (ms2)]) (run_row Q2 40 11 6 _ rfl Try.underlying40 rfl sz26) ?_
 refine wl_f 42 7 (.tmp 2) (pt k1 0) (pt k1 11) ?_
 refine wl_l 40 (.tmp 15) (pt k1 11) (.agg #[.bool mb, .int .u64 (l0 (mn)), .int .u64 (l1 (mn)), .int .u64 (l2 (mn)), .int .u64 (l3 (mn)), .int .i64 (ms)]) (run_row Q1 40 11 6 _ rfl Try.underlying40 rfl sz26) ?_
 refine wl_call 75 [(.tmp 14), (.tmp 16)] _ [.agg #[.bool mb2, .int .u64 (l0 (mn2)), .int .u64 (l1 (mn2)), .int .u64 (l2 (mn2)), .int .u64 (l3 (mn2)), .int .i64 (ms2)], .agg #[.bool mb, .int .u64 (l0 (mn)), .int .u64 (l1 (mn)), .int .u64 (l2 (mn)), .int .u64 (l3 (mn)), .int .i64 (ms)]] (.int .i64 (cmpv ⟨mb2, mn2, ms2⟩ ⟨mb, mn, ms⟩)) rfl rfl (fun _ _ => by kernel_rfl) (cmp_d ⟨mb2, mn2, ms2⟩ ⟨mb, mn, ms⟩ hm2 hm _) rfl ?_
 intro w4 hq
 replace Q1 := Q1.mo hq
 replace Q2 := Q2.mo hq
 replace Q3 := Q3.mo hq
 replace M := M.trans hq
 clear hq
 refine wl_b .lss 3 (.tmp 17) (.const (.int .i64 (0))) (.int .i64 (cmpv ⟨mb2, mn2, ms2⟩ ⟨mb, mn, ms⟩)) (.int .i64 (0)) (.bool true) (ltI q1 _ _ _) ?_
 refine wl_pick (.tmp 12) (.const (.bool true)) (.tmp 18) false (.bool true) (fun _ => rfl) rfl rfl rfl ?_
 refine w_nil (xn_then (w_condT rfl (w_reg ?_)))
 refine wl_f 42 7 (.tmp 3) (pt k2 0) (pt k2 11) ?_
 refine wl_l 40 (.tmp 20) (pt k2 11) (.agg #[.bool mb2, .int .u64 (l0 (mn2)), .int .u64 (l1 (mn2)), .int .u64 (l2 (mn2)), .int .u64 (l3 (mn2)), .int .i64 (ms2)]) (run_row Q2 40 11 6 _ rfl Try.underlying40 rfl sz26) ?_
 refine wl_f 42 7 (.tmp 2) (pt k1 0) (pt k1 11) ?_
 refine wl_st 40 (.tmp 22) (.tmp 21) k1 11 #[.bool mb2, .int .u64 (l0 (mn2)), .int .u64 (l1 (mn2)), .int .u64 (l2 (mn2)), .int .u64 (l3 (mn2)), .int .i64 (ms2)] _ [.int .i64 (r), .int .i64 (f), .int .i64 (k), .int .i64 (d), .int .i64 (er), .int .u64 (l0 (tt)), .int .u64 (l1 (tt)), .int .u64 (l2 (tt)), .int .u64 (l3 (tt)), .int .u64 (l4 (tt)), .bool true, .bool mb2, .int .u64 (l0 (mn2)), .int .u64 (l1 (mn2)), .int .u64 (l2 (mn2)), .int .u64 (l3 (mn2)), .int .i64 (ms2), .bool xb, .int .u64 (l0 (xn)), .int .u64 (l1 (xn)), .int .u64 (l2 (xn)), .int .u64 (l3 (xn)), .int .i64 (xs)] Q1 rfl rfl rfl rfl rfl sz26 rfl rfl rfl ?_
 intro w5 hS Qn
 replace Q1 := Qn
 clear Qn
 replace Q2 := hS.other _ _ ne_k1_k2.symm Q2
 replace Q3 := hS.other _ _ ne_k1_k3.symm Q3
 replace M := hS.mo _ N_k1 M
 clear hS
 refine w_nil (xn_then (w_seq (w_seq (w_reg ?_))))
 refine wl_f 42 6 (.tmp 2) (pt k1 0) (pt k1 10) ?_
 refine wl_l 4 (.tmp 23) (pt k1 10) (.bool true) (run_one Q1 4 10 rfl Try.underlying4 rfl) ?_
 refine wl_un (fun v => Op.unary .not v) (.tmp 24) (.bool true) (.bool false) (fun _ => rfl) rfl (by kernel_rfl) rfl ?_
 refine wl_m (.tmp 25) (.bool false) ?_
 refine wl_f 42 8 (.tmp 3) (pt k2 0) (pt k2 17) ?_
 refine wl_l 40 (.tmp 27) (pt k2 17) (.agg #[.bool xb2, .int .u64 (l0 (xn2)), .int .u64 (l1 (xn2)), .int .u64 (l2 (xn2)), .int .u64 (l3 (xn2)), .int .i64 (xs2)]) (run_row Q2 40 17 6 _ rfl Try.underlying40 rfl sz26) ?_
 refine wl_f 42 8 (.tmp 2) (pt k1 0) (pt k1 17) ?_
 refine wl_l 40 (.tmp 29) (pt k1 17) (.agg #[.bool xb, .int .u64 (l0 (xn)), .int .u64 (l1 (xn)), .int .u64 (l2 (xn)), .int .u64 (l3 (xn)), .int .i64 (xs)]) (run_row Q1 40 17 6 _ rfl Try.underlying40 rfl sz26) ?_
 refine wl_call 75 [(.tmp 28), (.tmp 30)] _ [.agg #[.bool xb2, .int .u64 (l0 (xn2)), .int .u64 (l1 (xn2)), .int .u64 (l2 (xn2)), .int .u64 (l3 (xn2)), .int .i64 (xs2)], .agg #[.bool xb, .int .u64 (l0 (xn)), .int .u64 (l1 (xn)), .int .u64 (l2 (xn)), .int .u64 (l3 (xn)), .int .i64 (xs)]] (.int .i64 (cmpv ⟨xb2, xn2, xs2⟩ ⟨xb, xn, xs⟩)) rfl rfl (fun _ _ => by kernel_rfl) (cmp_d ⟨xb2, xn2, xs2⟩ ⟨xb, xn, xs⟩ hx2 hx _) rfl ?_
 intro w6 hq
 replace Q1 := Q1.mo hq
 replace Q2 := Q2.mo hq
 replace Q3 := Q3.mo hq
 replace M := M.trans hq
 clear hq
 refine wl_b .gtr 3 (.tmp 31) (.const (.int .i64 (0))) (.int .i64 (cmpv ⟨xb2, xn2, xs2⟩ ⟨xb, xn, xs⟩)) (.int .i64 (0)) (.bool false) (gtI q2 _ _ _) ?_
 refine wl_pick (.tmp 26) (.const (.bool true)) (.tmp 32) false (.bool false) (fun _ => rfl) rfl rfl rfl ?_
 refine w_nil (xn_then (w_condF rfl (w_skip (xn_then (w_seq (w_reg ?_))))))
 refine wl_f 42 6 (.tmp 2) (pt k1 0) (pt k1 10) ?_
 refine wl_st1 4 (.tmp 37) (.const (.bool true)) k1 10 (.bool true) _ [.int .i64 (r), .int .i64 (f), .int .i64 (k), .int .i64 (d), .int .i64 (er), .int .u64 (l0 (tt)), .int .u64 (l1 (tt)), .int .u64 (l2 (tt)), .int .u64 (l3 (tt)), .int .u64 (l4 (tt)), .bool true, .bool mb2, .int .u64 (l0 (mn2)), .int .u64 (l1 (mn2)), .int .u64 (l2 (mn2)), .int .u64 (l3 (mn2)), .int .i64 (ms2), .bool xb, .int .u64 (l0 (xn)), .int .u64 (l1 (xn)), .int .u64 (l2 (xn)), .int .u64 (l3 (xn)), .int .i64 (xs)] Q1 rfl rfl rfl rfl rfl sz4 rfl rfl rfl rfl ?_
 intro w7 hS Qn
 replace Q1 := Qn
 clear Qn
 replace Q2 := hS.other _ _ ne_k1_k2.symm Q2
 replace Q3 := hS.other _ _ ne_k1_k3.symm Q3
 replace M := hS.mo _ N_k1 M
 clear hS
 refine w_nil (xn_then (w_seq (w_reg ?_)))
 refine wl_l 42 (.tmp 2) (pt k1 0) (.agg #[.int .i64 (r), .int .i64 (f), .int .i64 (k), .int .i64 (d), .int .i64 (er), .int .u64 (l0 (tt)), .int .u64 (l1 (tt)), .int .u64 (l2 (tt)), .int .u64 (l3 (tt)), .int .u64 (l4 (tt)), .bool true, .bool mb2, .int .u64 (l0 (mn2)), .int .u64 (l1 (mn2)), .int .u64 (l2 (mn2)), .int .u64 (l3 (mn2)), .int .i64 (ms2), .bool xb, .int .u64 (l0 (xn)), .int .u64 (l1 (xn)), .int .u64 (l2 (xn)), .int .u64 (l3 (xn)), .int .i64 (xs)]) (run_row Q1 42 0 23 _ rfl Try.underlying42 rfl sz33) ?_
 refine wl_st 42 (.tmp 4) (.tmp 38) k3 0 #[.int .i64 (r), .int .i64 (f), .int .i64 (k), .int .i64 (d), .int .i64 (er), .int .u64 (l0 (tt)), .int .u64 (l1 (tt)), .int .u64 (l2 (tt)), .int .u64 (l3 (tt)), .int .u64 (l4 (tt)), .bool true, .bool mb2, .int .u64 (l0 (mn2)), .int .u64 (l1 (mn2)), .int .u64 (l2 (mn2)), .int .u64 (l3 (mn2)), .int .i64 (ms2), .bool xb, .int .u64 (l0 (xn)), .int .u64 (l1 (xn)), .int .u64 (l2 (xn)), .int .u64 (l3 (xn)), .int .i64 (xs)] _ [.int .i64 (r), .int .i64 (f), .int .i64 (k), .int .i64 (d), .int .i64 (er), .int .u64 (l0 (tt)), .int .u64 (l1 (tt)), .int .u64 (l2 (tt)), .int .u64 (l3 (tt)), .int .u64 (l4 (tt)), .bool true, .bool mb2, .int .u64 (l0 (mn2)), .int .u64 (l1 (mn2)), .int .u64 (l2 (mn2)), .int .u64 (l3 (mn2)), .int .i64 (ms2), .bool xb, .int .u64 (l0 (xn)), .int .u64 (l1 (xn)), .int .u64 (l2 (xn)), .int .u64 (l3 (xn)), .int .i64 (xs)] Q3 rfl rfl rfl rfl rfl sz33 rfl rfl rfl ?_
 intro w8 hS Qn
 replace Q3 := Qn
 clear Qn
 replace Q1 := hS.other _ _ ne_k1_k3 Q1
 replace Q2 := hS.other _ _ ne_k2_k3 Q2
 replace M := hS.mo _ N_k3 M
 clear hS
 refine w_nil (xn_then (w_ret ?_))
 exact w_ret1 _ (.agg #[.int .i64 (r), .int .i64 (f), .int .i64 (k), .int .i64 (d), .int .i64 (er), .int .u64 (l0 (tt)), .int .u64 (l1 (tt)), .int .u64 (l2 (tt)), .int .u64 (l3 (tt)), .int .u64 (l4 (tt)), .bool true, .bool mb2, .int .u64 (l0 (mn2)), .int .u64 (l1 (mn2)), .int .u64 (l2 (mn2)), .int .u64 (l3 (mn2)), .int .i64 (ms2), .bool xb, .int .u64 (l0 (xn)), .int .u64 (l1 (xn)), .int .u64 (l2 (xn)), .int .u64 (l3 (xn)), .int .i64 (xs)]) rfl ⟨k3, rfl, (run_row Q3 42 0 23 _ rfl Try.underlying42 rfl sz33)⟩ ⟨rfl, M⟩
theorem str_dft (r f k d er tt : Int) (mb : Bool) (mn ms : Int) (xb : Bool) (xn xs : Int) (r2 f2 k2 d2 e2 tt2 : Int) (mb2 : Bool) (mn2 ms2 : Int) (xb2 : Bool) (xn2 xs2 : Int) (hm : D3.ok ⟨mb, mn, ms⟩) (hx : D3.ok ⟨xb, xn, xs⟩) (hm2 : D3.ok ⟨mb2, mn2, ms2⟩) (hx2 : D3.ok ⟨xb2, xn2, xs2⟩) (q1 : decide (cmpv ⟨mb2, mn2, ms2⟩ ⟨mb, mn, ms⟩ < 0) = false) (q2 : decide (0 < cmpv ⟨xb2, xn2, xs2⟩ ⟨xb, xn, xs⟩) = true) : Calls Try.prog 64 #[sm r (f) (k) (d) (er) (tt) true mb (mn) (ms) xb (xn) (xs), sm r2 (f2) (k2) (d2) (e2) (tt2) true mb2 (mn2) (ms2) xb2 (xn2) (xs2)] w fun e w' => e = .returned (sm r (f) (k) (d) (er) (tt) true mb (mn) (ms) xb2 (xn2) (xs2)) ∧ Mo w w' := by
 refine w_enter 39 Try.func64 Try.ntmps64 rfl rfl ?_
 have M : Mo w w := Mo.refl _
 refine w_seq (w_reg ?_)
 refine wl_box 42 (.tmp 0) _ (#[.int .i64 (r), .int .i64 (f), .int .i64 (k), .int .i64 (d), .int .i64 (er), .int .u64 (l0 (tt)), .int .u64 (l1 (tt)), .int .u64 (l2 (tt)), .int .u64 (l3 (tt)), .int .u64 (l4 (tt)), .bool true, .bool mb, .int .u64 (l0 (mn)), .int .u64 (l1 (mn)), .int .u64 (l2 (mn)), .int .u64 (l3 (mn)), .int .i64 (ms), .bool xb, .int .u64 (l0 (xn)), .int .u64 (l1 (xn)), .int .u64 (l2 (xn)), .int .u64 (l3 (xn)), .int .i64 (xs)]) rfl rfl (fun _ => by kernel_rfl) rfl ?_
 intro k1 w1 hk hz hq Q1
 have N_k1 : w.heap.size ≤ k1 := by have := M.size; omega
 replace M := M.trans hq
 clear hk hz hq
 refine wl_box 42 (.tmp 1) _ (#[.int .i64 (r2), .int .i64 (f2), .int .i64 (k2), .int .i64 (d2), .int .i64 (e2), .int .u64 (l0 (tt2)), .int .u64 (l1 (tt2)), .int .u64 (l2 (tt2)), .int .u64 (l3 (tt2)), .int .u64 (l4 (tt2)), .bool true, .bool mb2, .int .u64 (l0 (mn2)), .int .u64 (l1 (mn2)), .int .u64 (l2 (mn2)), .int .u64 (l3 (mn2)), .int .i64 (ms2), .bool xb2, .int .u64 (l0 (xn2)), .int .u64 (l1 (xn2)), .int .u64 (l2 (xn2)), .int .u64 (l3 (xn2)), .int .i64 (xs2)]) rfl rfl (fun _ => by kernel_rfl) rfl ?_
 intro k2 w2 hk hz hq Q2
 have ne_k1_k2 : k1 ≠ k2 := by have := Q1.lt; omega
 have N_k2 : w.heap.size ≤ k2 := by have := M.size; omega
 replace Q1 := Q1.mo hq
 replace M := M.trans hq
 clear hk hz hq
 refine wl_alloc 42 #[.int .i64 0, .int .i64 0, .int .i64 0, .int .i64 0, .int .i64 0, .int .u64 0, .int .u64 0, .int .u64 0, .int .u64 0, .int .u64 0, .bool false, .bool false, .int .u64 0, .int .u64 0, .int .u64 0, .int .u64 0, .int .i64 0, .bool false, .int .u64 0, .int .u64 0, .int .u64 0, .int .u64 0, .int .i64 0] rfl (fun _ => by kernel_rfl) rfl ?_
 intro k3 w3 hk hz hq Q3
 have ne_k1_k3 : k1 ≠ k3 := by have := Q1.lt; omega
 have ne_k2_k3 : k2 ≠ k3 := by have := Q2.lt; omega
 have N_k3 : w.heap.size ≤ k3 := by have := M.size; omega
 replace Q1 := Q1.mo hq
 replace Q2 := Q2.mo hq
 replace M := M.trans hq
 clear hk hz hq
 refine w_nil (xn_then (w_seq (w_seq (w_reg ?_))))
 refine wl_f 42 6 (.tmp 3) (pt k2 0) (pt k2 10) ?_
 refine wl_l 4 (.tmp 5) (pt k2 10) (.bool true) (run_one Q2 4 10 rfl Try.underlying4 rfl) ?_
 refine wl_un (fun v => Op.unary .not v) (.tmp 6) (.bool true) (.bool false) (fun _ => rfl) rfl (by kernel_rfl) rfl ?_
 refine w_nil (xn_then (w_condF rfl (w_skip (xn_then (w_seq (w_seq (w_reg ?_)))))))
 refine wl_f 42 6 (.tmp 2) (pt k1 0) (pt k1 10) ?_
 refine wl_l 4 (.tmp 9) (pt k1 10) (.bool true) (run_one Q1 4 10 rfl Try.underlying4 rfl) ?_
 refine wl_un (fun v => Op.unary .not v) (.tmp 10) (.bool true) (.bool false) (fun _ => rfl) rfl (by kernel_rfl) rfl ?_
 refine wl_m (.tmp 11) (.bool false) ?_
 refine wl_f 42 7 (.tmp 3) (pt k2 0) (pt k2 11) ?_
 refine wl_l 40 (.tmp 13) (pt k2 11) (.agg #[.bool mb2, .int .u64 (l0 (mn2)), .int .u64 (l1 (mn2)), .int .u64 (l2 (mn2)), .int .u64 (l3 (mn2)), .int .i64 (ms2)]) (run_row Q2 40 11 6 _ rfl Try.underlying40 rfl sz26) ?_
 refine wl_f 42 7 (.tmp 2) (pt k1 0) (pt k1 11) ?_
 refine wl_l 40 (.tmp 15) (pt k1 11) (.agg #[.bool mb, .int .u64 (l0 (mn)), .int .u64 (l1 (mn)), .int .u64 (l2 (mn)), .int .u64 (l3 (mn)), .int .i64 (ms)]) (run_row Q1 40 11 6 _ rfl Try.underlying40 rfl sz26) ?_
 refine wl_call 75 [(.tmp 14), (.tmp 16)] _ [.agg #[.bool mb2, .int .u64 (l0 (mn2)), .int .u64 (l1 (mn2)), .int .u64 (l2 (mn2)), .int .u64 (l3 (mn2)), .int .i64 (ms2)], .agg #[.bool mb, .int .u64 (l0 (mn)), .int .u64 (l1 (mn)), .int .u64 (l2 (mn)), .int .u64 (l3 (mn)), .int .i64 (ms)]] (.int .i64 (cmpv ⟨mb2, mn2, ms2⟩ ⟨mb, mn, ms⟩)) rfl rfl (fun _ _ => by kernel_rfl) (cmp_d ⟨mb2, mn2, ms2⟩ ⟨mb, mn, ms⟩ hm2 hm _) rfl ?_
 intro w4 hq
 replace Q1 := Q1.mo hq
 replace Q2 := Q2.mo hq
 replace Q3 := Q3.mo hq
 replace M := M.trans hq
 clear hq
 refine wl_b .lss 3 (.tmp 17) (.const (.int .i64 (0))) (.int .i64 (cmpv ⟨mb2, mn2, ms2⟩ ⟨mb, mn, ms⟩)) (.int .i64 (0)) (.bool false) (ltI q1 _ _ _) ?_
 refine wl_pick (.tmp 12) (.const (.bool true)) (.tmp 18) false (.bool false) (fun _ => rfl) rfl rfl rfl ?_
 refine w_nil (xn_then (w_condF rfl (w_skip (xn_then (w_seq (w_seq (w_reg ?_)))))))
 refine wl_f 42 6 (.tmp 2) (pt k1 0) (pt k1 10) ?_
 refine wl_l 4 (.tmp 23) (pt k1 10) (.bool true) (run_one Q1 4 10 rfl Try.underlying4 rfl) ?_
 refine wl_un (fun v => Op.unary .not v) (.tmp 24) (.bool true) (.bool false) (fun _ => rfl) rfl (by kernel_rfl) rfl ?_
 refine wl_m (.tmp 25) (.bool false) ?_
 refine wl_f 42 8 (.tmp 3) (pt k2 0) (pt k2 17) ?_
 refine wl_l 40 (.tmp 27) (pt k2 17) (.agg #[.bool xb2, .int .u64 (l0 (xn2)), .int .u64 (l1 (xn2)), .int .u64 (l2 (xn2)), .int .u64 (l3 (xn2)), .int .i64 (xs2)]) (run_row Q2 40 17 6 _ rfl Try.underlying40 rfl sz26) ?_
 refine wl_f 42 8 (.tmp 2) (pt k1 0) (pt k1 17) ?_
 refine wl_l 40 (.tmp 29) (pt k1 17) (.agg #[.bool xb, .int .u64 (l0 (xn)), .int .u64 (l1 (xn)), .int .u64 (l2 (xn)), .int .u64 (l3 (xn)), .int .i64 (xs)]) (run_row Q1 40 17 6 _ rfl Try.underlying40 rfl sz26) ?_
 refine wl_call 75 [(.tmp 28), (.tmp 30)] _ [.agg #[.bool xb2, .int .u64 (l0 (xn2)), .int .u64 (l1 (xn2)), .int .u64 (l2 (xn2)), .int .u64 (l3 (xn2)), .int .i64 (xs2)], .agg #[.bool xb, .int .u64 (l0 (xn)), .int .u64 (l1 (xn)), .int .u64 (l2 (xn)), .int .u64 (l3 (xn)), .int .i64 (xs)]] (.int .i64 (cmpv ⟨xb2, xn2, xs2⟩ ⟨xb, xn, xs⟩)) rfl rfl (fun _ _ => by kernel_rfl) (cmp_d ⟨xb2, xn2, xs2⟩ ⟨xb, xn, xs⟩ hx2 hx _) rfl ?_
 intro w5 hq
 replace Q1 := Q1.mo hq
 replace Q2 := Q2.mo hq
 replace Q3 := Q3.mo hq
 replace M := M.trans hq
 clear hq
 refine wl_b .gtr 3 (.tmp 31) (.const (.int .i64 (0))) (.int .i64 (cmpv ⟨xb2, xn2, xs2⟩ ⟨xb, xn, xs⟩)) (.int .i64 (0)) (.bool true) (gtI q2 _ _ _) ?_
 refine wl_pick (.tmp 26) (.const (.bool true)) (.tmp 32) false (.bool true) (fun _ => rfl) rfl rfl rfl ?_
 refine w_nil (xn_then (w_condT rfl (w_reg ?_)))
 refine wl_f 42 8 (.tmp 3) (pt k2 0) (pt k2 17) ?_
 refine wl_l 40 (.tmp 34) (pt k2 17) (.agg #[.bool xb2, .int .u64 (l0 (xn2)), .int .u64 (l1 (xn2)), .int .u64 (l2 (xn2)), .int .u64 (l3 (xn2)), .int .i64 (xs2)]) (run_row Q2 40 17 6 _ rfl Try.underlying40 rfl sz26) ?_
 refine wl_f 42 8 (.tmp 2) (pt k1 0) (pt k1 17) ?_
 refine wl_st 40 (.tmp 36) (.tmp 35) k1 17 #[.bool xb2, .int .u64 (l0 (xn2)), .int .u64 (l1 (xn2)), .int .u64 (l2 (xn2)), .int .u64 (l3 (xn2)), .int .i64 (xs2)] _ [.int .i64 (r), .int .i64 (f), .int .i64 (k), .int .i64 (d), .int .i64 (er), .int .u64 (l0 (tt)), .int .u64 (l1 (tt)), .int .u64 (l2 (tt)), .int .u64 (l3 (tt)), .int .u64 (l4 (tt)), .bool true, .bool mb, .int .u64 (l0 (mn)), .int .u64 (l1 (mn)), .int .u64 (l2 (mn)), .int .u64 (l3 (mn)), .int .i64 (ms), .bool xb2, .int .u64 (l0 (xn2)), .int .u64 (l1 (xn2)), .int .u64 (l2 (xn2)), .int .u64 (l3 (xn2)), .int .i64 (xs2)] Q1 rfl rfl rfl rfl rfl sz26 rfl rfl rfl ?_
 intro w6 hS Qn
 replace Q1 := Qn
 clear Qn
 replace Q2 := hS.other _ _ ne_k1_k2.symm Q2
 replace Q3 := hS.other _ _ ne_k1_k3.symm Q3
 replace M := hS.mo _ N_k1 M
 clear hS
 refine w_nil (xn_then (w_seq (w_reg ?_)))
 refine wl_f 42 6 (.tmp 2) (pt k1 0) (pt k1 10) ?_
 refine wl_st1 4 (.tmp 37) (.const (.bool true)) k1 10 (.bool true) _ [.int .i64 (r), .int .i64 (f), .int .i64 (k), .int .i64 (d), .int .i64 (er), .int .u64 (l0 (tt)), .int .u64 (l1 (tt)), .int .u64 (l2 (tt)), .int .u64 (l3 (tt)), .int .u64 (l4 (tt)), .bool true, .bool mb, .int .u64 (l0 (mn)), .int .u64 (l1 (mn)), .int .u64 (l2 (mn)), .int .u64 (l3 (mn)), .int .i64 (ms), .bool xb2, .int .u64 (l0 (xn2)), .int .u64 (l1 (xn2)), .int .u64 (l2 (xn2)), .int .u64 (l3 (xn2)), .int .i64 (xs2)] Q1 rfl rfl rfl rfl rfl sz4 rfl rfl rfl rfl ?_
 intro w7 hS Qn
 replace Q1 := Qn
 clear Qn
 replace Q2 := hS.other _ _ ne_k1_k2.symm Q2
 replace Q3 := hS.other _ _ ne_k1_k3.symm Q3
 replace M := hS.mo _ N_k1 M
 clear hS
 refine w_nil (xn_then (w_seq (w_reg ?_)))
 refine wl_l 42 (.tmp 2) (pt k1 0) (.agg #[.int .i64 (r), .int .i64 (f), .int .i64 (k), .int .i64 (d), .int .i64 (er), .int .u64 (l0 (tt)), .int .u64 (l1 (tt)), .int .u64 (l2 (tt)), .int .u64 (l3 (tt)), .int .u64 (l4 (tt)), .bool true, .bool mb, .int .u64 (l0 (mn)), .int .u64 (l1 (mn)), .int .u64 (l2 (mn)), .int .u64 (l3 (mn)), .int .i64 (ms), .bool xb2, .int .u64 (l0 (xn2)), .int .u64 (l1 (xn2)), .int .u64 (l2 (xn2)), .int .u64 (l3 (xn2)), .int .i64 (xs2)]) (run_row Q1 42 0 23 _ rfl Try.underlying42 rfl sz33) ?_
 refine wl_st 42 (.tmp 4) (.tmp 38) k3 0 #[.int .i64 (r), .int .i64 (f), .int .i64 (k), .int .i64 (d), .int .i64 (er), .int .u64 (l0 (tt)), .int .u64 (l1 (tt)), .int .u64 (l2 (tt)), .int .u64 (l3 (tt)), .int .u64 (l4 (tt)), .bool true, .bool mb, .int .u64 (l0 (mn)), .int .u64 (l1 (mn)), .int .u64 (l2 (mn)), .int .u64 (l3 (mn)), .int .i64 (ms), .bool xb2, .int .u64 (l0 (xn2)), .int .u64 (l1 (xn2)), .int .u64 (l2 (xn2)), .int .u64 (l3 (xn2)), .int .i64 (xs2)] _ [.int .i64 (r), .int .i64 (f), .int .i64 (k), .int .i64 (d), .int .i64 (er), .int .u64 (l0 (tt)), .int .u64 (l1 (tt)), .int .u64 (l2 (tt)), .int .u64 (l3 (tt)), .int .u64 (l4 (tt)), .bool true, .bool mb, .int .u64 (l0 (mn)), .int .u64 (l1 (mn)), .int .u64 (l2 (mn)), .int .u64 (l3 (mn)), .int .i64 (ms), .bool xb2, .int .u64 (l0 (xn2)), .int .u64 (l1 (xn2)), .int .u64 (l2 (xn2)), .int .u64 (l3 (xn2)), .int .i64 (xs2)] Q3 rfl rfl rfl rfl rfl sz33 rfl rfl rfl ?_
 intro w8 hS Qn
 replace Q3 := Qn
 clear Qn
 replace Q1 := hS.other _ _ ne_k1_k3 Q1
 replace Q2 := hS.other _ _ ne_k2_k3 Q2
 replace M := hS.mo _ N_k3 M
 clear hS
 refine w_nil (xn_then (w_ret ?_))
 exact w_ret1 _ (.agg #[.int .i64 (r), .int .i64 (f), .int .i64 (k), .int .i64 (d), .int .i64 (er), .int .u64 (l0 (tt)), .int .u64 (l1 (tt)), .int .u64 (l2 (tt)), .int .u64 (l3 (tt)), .int .u64 (l4 (tt)), .bool true, .bool mb, .int .u64 (l0 (mn)), .int .u64 (l1 (mn)), .int .u64 (l2 (mn)), .int .u64 (l3 (mn)), .int .i64 (ms), .bool xb2, .int .u64 (l0 (xn2)), .int .u64 (l1 (xn2)), .int .u64 (l2 (xn2)), .int .u64 (l3 (xn2)), .int .i64 (xs2)]) rfl ⟨k3, rfl, (run_row Q3 42 0 23 _ rfl Try.underlying42 rfl sz33)⟩ ⟨rfl, M⟩
theorem str_dff (r f k d er tt : Int) (mb : Bool) (mn ms : Int) (xb : Bool) (xn xs : Int) (r2 f2 k2 d2 e2 tt2 : Int) (mb2 : Bool) (mn2 ms2 : Int) (xb2 : Bool) (xn2 xs2 : Int) (hm : D3.ok ⟨mb, mn, ms⟩) (hx : D3.ok ⟨xb, xn, xs⟩) (hm2 : D3.ok ⟨mb2, mn2, ms2⟩) (hx2 : D3.ok ⟨xb2, xn2, xs2⟩) (q1 : decide (cmpv ⟨mb2, mn2, ms2⟩ ⟨mb, mn, ms⟩ < 0) = false) (q2 : decide (0 < cmpv ⟨xb2, xn2, xs2⟩ ⟨xb, xn, xs⟩) = false) : Calls Try.prog 64 #[sm r (f) (k) (d) (er) (tt) true mb (mn) (ms) xb (xn) (xs), sm r2 (f2) (k2) (d2) (e2) (tt2) true mb2 (mn2) (ms2) xb2 (xn2) (xs2)] w fun e w' => e = .returned (sm r (f) (k) (d) (er) (tt) true mb (mn) (ms) xb (xn) (xs)) ∧ Mo w w' := by
 refine w_enter 39 Try.func64 Try.ntmps64 rfl rfl ?_
 have M : Mo w w := Mo.refl _
 refine w_seq (w_reg ?_)
 refine wl_box 42 (.tmp 0) _ (#[.int .i64 (r), .int .i64 (f), .int .i64 (k), .int .i64 (d), .int .i64 (er), .int .u64 (l0 (tt)), .int .u64 (l1 (tt)), .int .u64 (l2 (tt)), .int .u64 (l3 (tt)), .int .u64 (l4 (tt)), .bool true, .bool mb, .int .u64 (l0 (mn)), .int .u64 (l1 (mn)), .int .u64 (l2 (mn)), .int .u64 (l3 (mn)), .int .i64 (ms), .bool xb, .int .u64 (l0 (xn)), .int .u64 (l1 (xn)), .int .u64 (l2 (xn)), .int .u64 (l3 (xn)), .int .i64 (xs)]) rfl rfl (fun _ => by kernel_rfl) rfl ?_
 intro k1 w1 hk hz hq Q1
 have N_k1 : w.heap.size ≤ k1 := by have := M.size; omega
 replace M := M.trans hq
 clear hk hz hq
 refine wl_box 42 (.tmp 1) _ (#[.int .i64 (r2), .int .i64 (f2), .int .i64 (k2), .int .i64 (d2), .int .i64 (e2), .int .u64 (l0 (tt2)), .int .u64 (l1 (tt2)), .int .u64 (l2 (tt2)), .int .u64 (l3 (tt2)), .int .u64 (l4 (tt2)), .bool true, .bool mb2, .int .u64 (l0 (mn2)), .int .u64 (l1 (mn2)), .int .u64 (l2 (mn2)), .int .u64 (l3 (mn2)), .int .i64 (ms2), .bool xb2, .int .u64 (l0 (xn2)), .int .u64 (l1 (xn2)), .int .u64 (l2 (xn2)), .int .u64 (l3 (xn2)), .int .i64 (xs2)]) rfl rfl (fun _ => by kernel_rfl) rfl ?_
 intro k2 w2 hk hz hq Q2
 have ne_k1_k2 : k1 ≠ k2 := by have := Q1.lt; omega
 have N_k2 : w.heap.size ≤ k2 := by have := M.size; omega
 replace Q1 := Q1.mo hq
 replace M := M.trans hq
 clear hk hz hq
 refine wl_alloc 42 #[.int .i64 0, .int .i64 0, .int .i64 0, .int .i64 0, .int .i64 0, .int .u64 0, .int .u64 0, .int .u64 0, .int .u64 0, .int .u64 0, .bool false, .bool false, .int .u64 0, .int .u64 0, .int .u64 0, .int .u64 0, .int .i64 0, .bool false, .int .u64 0, .int .u64 0, .int .u64 0, .int .u64 0, .int .i64 0] rfl (fun _ => by kernel_rfl) rfl ?_
 intro k3 w3 hk hz hq Q3
 have ne_k1_k3 : k1 ≠ k3 := by have := Q1.lt; omega
 have ne_k2_k3 : k2 ≠ k3 := by have := Q2.lt; omega
 have N_k3 : w.heap.size ≤ k3 := by have := M.size; omega
 replace Q1 := Q1.mo hq
 replace Q2 := Q2.mo hq
 replace M := M.trans hq
 clear hk hz hq
 refine w_nil (xn_then (w_seq (w_seq (w_reg ?_))))
 refine wl_f 42 6 (.tmp 3) (pt k2 0) (pt k2 10) ?_
 refine wl_l 4 (.tmp 5) (pt k2 10) (.bool true) (run_one Q2 4 10 rfl Try.underlying4 rfl) ?_
 refine wl_un (fun v => Op.unary .not v) (.tmp 6) (.bool true) (.bool false) (fun _ => rfl) rfl (by kernel_rfl) rfl ?_
 refine w_nil (xn_then (w_condF rfl (w_skip (xn_then (w_seq (w_seq (w_reg ?_)))))))
 refine wl_f 42 6 (.tmp 2) (pt k1 0) (pt k1 10) ?_
 refine wl_l 4 (.tmp 9) (pt k1 10) (.bool true) (run_one Q1 4 10 rfl Try.underlying4 rfl) ?_
 refine wl_un (fun v => Op.unary .not v) (.tmp 10) (.bool true) (.bool false) (fun _ => rfl) rfl (by kernel_rfl) rfl ?_
 refine wl_m (.tmp 11) (.bool false) ?_
 refine wl_f 42 7 (.tmp 3) (pt k2 0) (pt k2 11) ?_
 refine wl_l 40 (.tmp 13) (pt k2 11) (.agg #[.bool mb2, .int .u64 (l0 (mn2)), .int .u64 (l1 (mn2)), .int .u64 (l2 (mn2)), .int .u64 (l3 (mn2)), .int .i64 (ms2)]) (run_row Q2 40 11 6 _ rfl Try.underlying40 rfl sz26) ?_
 refine wl_f 42 7 (.tmp 2) (pt k1 0) (pt k1 11) ?_
 refine wl_l 40 (.tmp 15) (pt k1 11) (.agg #[.bool mb, .int .u64 (l0 (mn)), .int .u64 (l1 (mn)), .int .u64 (l2 (mn)), .int .u64 (l3 (mn)), .int .i64 (ms)]) (run_row Q1 40 11 6 _ rfl Try.underlying40 rfl sz26) ?_
 refine wl_call 75 [(.tmp 14), (.tmp 16)] _ [.agg #[.bool mb2, .int .u64 (l0 (mn2)), .int .u64 (l1 (mn2)), .int .u64 (l2 (mn2)), .int .u64 (l3 (mn2)), .int .i64 (ms2)], .agg #[.bool mb, .int .u64 (l0 (mn)), .int .u64 (l1 (mn)), .int .u64 (l2 (mn)), .int .u64 (l3 (mn)), .int .i64 (ms)]] (.int .i64 (cmpv ⟨mb2, mn2, ms2⟩ ⟨mb, mn, ms⟩)) rfl rfl (fun _ _ => by kernel_rfl) (cmp_d ⟨mb2, mn2, ms2⟩ ⟨mb, mn, ms⟩ hm2 hm _) rfl ?_
 intro w4 hq
 replace Q1 := Q1.mo hq
 replace Q2 := Q2.mo hq
 replace Q3 := Q3.mo hq
 replace M := M.trans hq
 clear hq
 refine wl_b .lss 3 (.tmp 17) (.const (.int .i64 (0))) (.int .i64 (cmpv ⟨mb2, mn2, ms2⟩ ⟨mb, mn, ms⟩)) (.int .i64 (0)) (.bool false) (ltI q1 _ _ _) ?_
 refine wl_pick (.tmp 12) (.const (.bool true)) (.tmp 18) false (.bool false) (fun _ => rfl) rfl rfl rfl ?_
 refine w_nil (xn_then (w_condF rfl (w_skip (xn_then (w_seq (w_seq (w_reg ?_)))))))
 refine wl_f 42 6 (.tmp 2) (pt k1 0) (pt k1 10) ?_
 refine wl_l 4 (.tmp 23) (pt k1 10) (.bool true) (run_one Q1 4 10 rfl Try.underlying4 rfl) ?_
 refine wl_un (fun v => Op.unary .not v) (.tmp 24) (.bool true) (.bool false) (fun _ => rfl) rfl (by kernel_rfl) rfl ?_
 refine wl_m (.tmp 25) (.bool false) ?_
 refine wl_f 42 8 (.tmp 3) (pt k2 0) (pt k2 17) ?_
 refine wl_l 40 (.tmp 27) (pt k2 17) (.agg #[.bool xb2, .int .u64 (l0 (xn2)), .int .u64 (l1 (xn2)), .int .u64 (l2 (xn2)), .int .u64 (l3 (xn2)), .int .i64 (xs2)]) (run_row Q2 40 17 6 _ rfl Try.underlying40 rfl sz26) ?_
 refine wl_f 42 8 (.tmp 2) (pt k1 0) (pt k1 17) ?_
 refine wl_l 40 (.tmp 29) (pt k1 17) (.agg #[.bool xb, .int .u64 (l0 (xn)), .int .u64 (l1 (xn)), .int .u64 (l2 (xn)), .int .u64 (l3 (xn)), .int .i64 (xs)]) (run_row Q1 40 17 6 _ rfl Try.underlying40 rfl sz26) ?_
 refine wl_call 75 [(.tmp 28), (.tmp 30)] _ [.agg #[.bool xb2, .int .u64 (l0 (xn2)), .int .u64 (l1 (xn2)), .int .u64 (l2 (xn2)), .int .u64 (l3 (xn2)), .int .i64 (xs2)], .agg #[.bool xb, .int .u64 (l0 (xn)), .int .u64 (l1 (xn)), .int .u64 (l2 (xn)), .int .u64 (l3 (xn)), .int .i64 (xs)]] (.int .i64 (cmpv ⟨xb2, xn2, xs2⟩ ⟨xb, xn, xs⟩)) rfl rfl (fun _ _ => by kernel_rfl) (cmp_d ⟨xb2, xn2, xs2⟩ ⟨xb, xn, xs⟩ hx2 hx _) rfl ?_
 intro w5 hq
 replace Q1 := Q1.mo hq
 replace Q2 := Q2.mo hq
 replace Q3 := Q3.mo hq
 replace M := M.trans hq
 clear hq
 refine wl_b .gtr 3 (.tmp 31) (.const (.int .i64 (0))) (.int .i64 (cmpv ⟨xb2, xn2, xs2⟩ ⟨xb, xn, xs⟩)) (.int .i64 (0)) (.bool false) (gtI q2 _ _ _) ?_
 refine wl_pick (.tmp 26) (.const (.bool true)) (.tmp 32) false (.bool false) (fun _ => rfl) rfl rfl rfl ?_
 refine w_nil (xn_then (w_condF rfl (w_skip (xn_then (w_seq (w_reg ?_))))))
 refine wl_f 42 6 (.tmp 2) (pt k1 0) (pt k1 10) ?_
 refine wl_st1 4 (.tmp 37) (.const (.bool true)) k1 10 (.bool true) _ [.int .i64 (r), .int .i64 (f), .int .i64 (k), .int .i64 (d), .int .i64 (er), .int .u64 (l0 (tt)), .int .u64 (l1 (tt)), .int .u64 (l2 (tt)), .int .u64 (l3 (tt)), .int .u64 (l4 (tt)), .bool true, .bool mb, .int .u64 (l0 (mn)), .int .u64 (l1 (mn)), .int .u64 (l2 (mn)), .int .u64 (l3 (mn)), .int .i64 (ms), .bool xb, .int .u64 (l0 (xn)), .int .u64 (l1 (xn)), .int .u64 (l2 (xn)), .int .u64 (l3 (xn)), .int .i64 (xs)] Q1 rfl rfl rfl rfl rfl sz4 rfl rfl rfl rfl ?_
 intro w6 hS Qn
 replace Q1 := Qn
 clear Qn
 replace Q2 := hS.other _ _ ne_k1_k2.symm Q2
 replace Q3 := hS.other _ _ ne_k1_k3.symm Q3
 replace M := hS.mo _ N_k1 M
 clear hS
 refine w_nil (xn_then (w_seq (w_reg ?_)))
 refine wl_l 42 (.tmp 2) (pt k1 0) (.agg #[.int .i64 (r), .int .i64 (f), .int .i64 (k), .int .i64 (d), .int .i64 (er), .int .u64 (l0 (tt)), .int .u64 (l1 (tt)), .int .u64 (l2 (tt)), .int .u64 (l3 (tt)), .int .u64 (l4 (tt)), .bool true, .bool mb, .int .u64 (l0 (mn)), .int .u64 (l1 (mn)), .int .u64 (l2 (mn)), .int .u64 (l3 (mn)), .int .i64 (ms), .bool xb, .int .u64 (l0 (xn)), .int .u64 (l1 (xn)), .int .u64 (l2 (xn)), .int .u64 (l3 (xn)), .int .i64 (xs)]) (run_row Q1 42 0 23 _ rfl Try.underlying42 rfl sz33) ?_
 refine wl_st 42 (.tmp 4) (.tmp 38) k3 0 #[.int .i64 (r), .int .i64 (f), .int .i64 (k), .int .i64 (d), .int .i64 (er), .int .u64 (l0 (tt)), .int .u64 (l1 (tt)), .int .u64 (l2 (tt)), .int .u64 (l3 (tt)), .int .u64 (l4 (tt)), .bool true, .bool mb, .int .u64 (l0 (mn)), .int .u64 (l1 (mn)), .int .u64 (l2 (mn)), .int .u64 (l3 (mn)), .int .i64 (ms), .bool xb, .int .u64 (l0 (xn)), .int .u64 (l1 (xn)), .int .u64 (l2 (xn)), .int .u64 (l3 (xn)), .int .i64 (xs)] _ [.int .i64 (r), .int .i64 (f), .int .i64 (k), .int .i64 (d), .int .i64 (er), .int .u64 (l0 (tt)), .int .u64 (l1 (tt)), .int .u64 (l2 (tt)), .int .u64 (l3 (tt)), .int .u64 (l4 (tt)), .bool true, .bool mb, .int .u64 (l0 (mn)), .int .u64 (l1 (mn)), .int .u64 (l2 (mn)), .int .u64 (l3 (mn)), .int .i64 (ms), .bool xb, .int .u64 (l0 (xn)), .int .u64 (l1 (xn)), .int .u64 (l2 (xn)), .int .u64 (l3 (xn)), .int .i64 (xs)] Q3 rfl rfl rfl rfl rfl sz33 rfl rfl rfl ?_
 intro w7 hS Qn
 replace Q3 := Qn
 clear Qn
 replace Q1 := hS.other _ _ ne_k1_k3 Q1
 replace Q2 := hS.other _ _ ne_k2_k3 Q2
 replace M := hS.mo _ N_k3 M
 clear hS
 refine w_nil (xn_then (w_ret ?_))
 exact w_ret1 _ (.agg #[.int .i64 (r), .int .i64 (f), .int .i64 (k), .int .i64 (d), .int .i64 (er), .int .u64 (l0 (tt)), .int .u64 (l1 (tt)), .int .u64 (l2 (tt)), .int .u64 (l3 (tt)), .int .u64 (l4 (tt)), .bool true, .bool mb, .int .u64 (l0 (mn)), .int .u64 (l1 (mn)), .int .u64 (l2 (mn)), .int .u64 (l3 (mn)), .int .i64 (ms), .bool xb, .int .u64 (l0 (xn)), .int .u64 (l1 (xn)), .int .u64 (l2 (xn)), .int .u64 (l3 (xn)), .int .i64 (xs)]) rfl ⟨k3, rfl, (run_row Q3 42 0 23 _ rfl Try.underlying42 rfl sz33)⟩ ⟨rfl, M⟩
theorem str_n (S T : Sm) (hS : S.ok) (hT : T.ok) : Calls Try.prog 64 #[smv S, smv T] w fun e w' => e = .returned (smv (str S T)) ∧ Mo w w' := by
 obtain ⟨r, f, k, d, er, tt, so, ⟨mb, mn, ms⟩, ⟨xb, xn, xs⟩⟩ := S
 obtain ⟨r2, f2, k2, d2, e2, tt2, so2, ⟨mb2, mn2, ms2⟩, ⟨xb2, xn2, xs2⟩⟩ := T
 obtain ⟨hm, hx⟩ := hS
 obtain ⟨hm2, hx2⟩ := hT
 unfold str
 cases so2 with
 | false =>
  cases so with
  | false => exact str_a r f k d er tt mb mn ms xb xn xs r2 f2 k2 d2 e2 tt2 mb2 mn2 ms2 xb2 xn2 xs2
  | true => exact str_b r f k d er tt mb mn ms xb xn xs r2 f2 k2 d2 e2 tt2 mb2 mn2 ms2 xb2 xn2 xs2
 | true =>
  cases so with
  | false => exact str_c r f k d er tt mb mn ms xb xn xs r2 f2 k2 d2 e2 tt2 mb2 mn2 ms2 xb2 xn2 xs2
  | true =>
   simp only [if_true]
   by_cases c1 : cmpv ⟨mb2, mn2, ms2⟩ ⟨mb, mn, ms⟩ < 0
   ·by_cases c2 : 0 < cmpv ⟨xb2, xn2, xs2⟩ ⟨xb, xn, xs⟩
    ·simp only [if_pos c1, if_pos c2]; exact str_dtt r f k d er tt mb mn ms xb xn xs r2 f2 k2 d2 e2 tt2 mb2 mn2 ms2 xb2 xn2 xs2 hm hx hm2 hx2 (decide_eq_true c1) (decide_eq_true c2)
    ·simp only [if_pos c1, if_neg c2]; exact str_dtf r f k d er tt mb mn ms xb xn xs r2 f2 k2 d2 e2 tt2 mb2 mn2 ms2 xb2 xn2 xs2 hm hx hm2 hx2 (decide_eq_true c1) (decide_eq_false c2)
   ·by_cases c2 : 0 < cmpv ⟨xb2, xn2, xs2⟩ ⟨xb, xn, xs⟩
    ·simp only [if_neg c1, if_pos c2]; exact str_dft r f k d er tt mb mn ms xb xn xs r2 f2 k2 d2 e2 tt2 mb2 mn2 ms2 xb2 xn2 xs2 hm hx hm2 hx2 (decide_eq_false c1) (decide_eq_true c2)
    ·simp only [if_neg c1, if_neg c2]; exact str_dff r f k d er tt mb mn ms xb xn xs r2 f2 k2 d2 e2 tt2 mb2 mn2 ms2 xb2 xn2 xs2 hm hx hm2 hx2 (decide_eq_false c1) (decide_eq_false c2)
end
end Go.Proofs.Ythfemlhmnjfjiaa

