/-
  For every three decimals exciselaw02.DecimalOrder returns true, and its arguments read behind the call as they read before; no conditions.
-/
import Derived.Carry
import Derived.Test.YtoiiekmkcpcbgaaDecimalOrder1
/-
  DecimalOrder, out of what the functions answer.
-/
namespace Go.Proofs.Ytoiiekmkcpcbgaa
open Go.RowKit
theorem order_b_e1 (a_b : Bool) (a_0 a_1 a_2 a_3 a_s : Int) (b_b : Bool) (b_0 b_1 b_2 b_3 b_s : Int) (c_b : Bool) (c_0 c_1 c_2 c_3 c_s : Int) (na_b : Bool) (na_0 na_1 na_2 na_3 na_s : Int) (nb_b : Bool) (nb_0 nb_1 nb_2 nb_3 nb_s : Int) (t_b : Bool) (t_0 t_1 t_2 t_3 t_s : Int) (p_b : Bool) (p_0 p_1 p_2 p_3 p_s : Int) (q_b : Bool) (q_0 q_1 q_2 q_3 q_s : Int) (x y z : Int) (e f : Int) (w : World) (h1 : ∀ w, Calls Try.prog 51 #[rd a_b a_0 a_1 a_2 a_3 a_s, rd b_b b_0 b_1 b_2 b_3 b_s] w fun e' w' => e' = .returned (.int .i64 x) ∧ Mo w w') (h2 : ∀ w, Calls Try.prog 51 #[rd b_b b_0 b_1 b_2 b_3 b_s, rd c_b c_0 c_1 c_2 c_3 c_s] w fun e' w' => e' = .returned (.int .i64 y) ∧ Mo w w') (h3 : ∀ w, Calls Try.prog 51 #[rd a_b a_0 a_1 a_2 a_3 a_s, rd c_b c_0 c_1 c_2 c_3 c_s] w fun e' w' => e' = .returned (.int .i64 z) ∧ Mo w w') (g1 : ∀ w, Calls Try.prog 29 #[rd a_b a_0 a_1 a_2 a_3 a_s] w fun e' w' => e' = .returned (.int .i64 (0)) ∧ Mo w w') (g2 : ∀ w, Calls Try.prog 29 #[rd b_b b_0 b_1 b_2 b_3 b_s] w fun e' w' => e' = .returned (.int .i64 (0)) ∧ Mo w w') (g3 : ∀ w, Calls Try.prog 29 #[rd c_b c_0 c_1 c_2 c_3 c_s] w fun e' w' => e' = .returned (.int .i64 (0)) ∧ Mo w w') (hx : decide (x ≤ 0) = true) (hy : decide (y ≤ 0) = false) (n1 : ∀ w, Calls Try.prog 47 #[rd a_b a_0 a_1 a_2 a_3 a_s] w fun e' w' => e' = .returned (.tuple #[rd na_b na_0 na_1 na_2 na_3 na_s, .int .i64 (0)]) ∧ Mo w w') (n2 : ∀ w, Calls Try.prog 47 #[rd b_b b_0 b_1 b_2 b_3 b_s] w fun e' w' => e' = .returned (.tuple #[rd nb_b nb_0 nb_1 nb_2 nb_3 nb_s, .int .i64 (0)]) ∧ Mo w w') (n3 : ∀ w, Calls Try.prog 51 #[rd nb_b nb_0 nb_1 nb_2 nb_3 nb_s, rd na_b na_0 na_1 na_2 na_3 na_s] w fun e' w' => e' = .returned (.int .i64 x) ∧ Mo w w') (t1 : ∀ w, Calls Try.prog 45 #[rd a_b a_0 a_1 a_2 a_3 a_s] w fun e' w' => e' = .returned (.tuple #[rd t_b t_0 t_1 t_2 t_3 t_s, .int .i64 (0)]) ∧ Mo w w') (t2 : ∀ w, Calls Try.prog 51 #[rd a_b a_0 a_1 a_2 a_3 a_s, rd t_b t_0 t_1 t_2 t_3 t_s] w fun e' w' => e' = .returned (.int .i64 (0)) ∧ Mo w w') (ht : decide (t_s > a_s) = false) (a1 : ∀ w, Calls Try.prog 35 #[rd a_b a_0 a_1 a_2 a_3 a_s, rd c_b c_0 c_1 c_2 c_3 c_s] w fun e' w' => e' = .returned (.tuple #[rd p_b p_0 p_1 p_2 p_3 p_s, .int .i64 e]) ∧ Mo w w') (a2 : ∀ w, Calls Try.prog 35 #[rd b_b b_0 b_1 b_2 b_3 b_s, rd c_b c_0 c_1 c_2 c_3 c_s] w fun e' w' => e' = .returned (.tuple #[rd q_b q_0 q_1 q_2 q_3 q_s, .int .i64 f]) ∧ Mo w w') (he : (e == 0) = false) :
    Calls Try.prog 14 #[rd a_b a_0 a_1 a_2 a_3 a_s, rd b_b b_0 b_1 b_2 b_3 b_s, rd c_b c_0 c_1 c_2 c_3 c_s] w fun e' w' => e' = .returned (.bool true) ∧ Mo w w' := by
  refine w_enter 120 Try.func14 Try.ntmps14 rfl rfl ?_
  have M : Mo w w := Mo.refl _
  refine w_seq ?_
  refine w_reg ?_
  refine wl_box 40 (.tmp 0) (rd a_b a_0 a_1 a_2 a_3 a_s) ((rda a_b a_0 a_1 a_2 a_3 a_s)) rfl rfl (fun _ => by kernel_rfl) rfl ?_
  intro k1 w1 hk hz hq Q1
  have N_k1 : w.heap.size ≤ k1 := by have := M.size; omega
  replace M := M.trans hq
  clear hk hz hq
  refine wl_box 40 (.tmp 1) (rd b_b b_0 b_1 b_2 b_3 b_s) ((rda b_b b_0 b_1 b_2 b_3 b_s)) rfl rfl (fun _ => by kernel_rfl) rfl ?_
  intro k2 w2 hk hz hq Q2
  have ne_k1_k2 : k1 ≠ k2 := by have := Q1.lt; omega
  have N_k2 : w.heap.size ≤ k2 := by have := M.size; omega
  replace Q1 := Q1.mo hq
  replace M := M.trans hq
  clear hk hz hq
  refine wl_box 40 (.tmp 2) (rd c_b c_0 c_1 c_2 c_3 c_s) ((rda c_b c_0 c_1 c_2 c_3 c_s)) rfl rfl (fun _ => by kernel_rfl) rfl ?_
  intro k3 w3 hk hz hq Q3
  have ne_k1_k3 : k1 ≠ k3 := by have := Q1.lt; omega
  have ne_k2_k3 : k2 ≠ k3 := by have := Q2.lt; omega
  have N_k3 : w.heap.size ≤ k3 := by have := M.size; omega
  replace Q1 := Q1.mo hq
  replace Q2 := Q2.mo hq
  replace M := M.trans hq
  clear hk hz hq
  refine wl_mv (.const (.bool false)) (.bool false) (fun _ => rfl) rfl rfl ?_
  refine w_nil ?_
  refine xn_then ?_
  refine w_seq ?_
  refine w_any 8 [.inl (rd a_b a_0 a_1 a_2 a_3 a_s), .inl (rd b_b b_0 b_1 b_2 b_3 b_s), .inl (.int .i64 x), .inl (rd b_b b_0 b_1 b_2 b_3 b_s), .inl (rd c_b c_0 c_1 c_2 c_3 c_s), .inl (.int .i64 y), .inl (rd a_b a_0 a_1 a_2 a_3 a_s), .inl (rd c_b c_0 c_1 c_2 c_3 c_s)] [] (by kernel_rfl) (by kernel_rfl) (by kernel_rfl) (by kernel_rfl) rfl (by kernel_rfl) (by kernel_rfl) late_nil ?_ ?_ ?_
  · exact Ds.none rfl
  · refine ea_cons ?_ (ea_cons ?_ (ea_cons ?_ (ea_cons ?_ (ea_cons ?_ (ea_cons ?_ (ea_cons ?_ (ea_cons ?_ (ea_nil))))))))
    · exact og_eq (rd a_b a_0 a_1 a_2 a_3 a_s) rfl (fun f wf hq hd K hK => have Q1 := Q1.mo hq; go_run rfl (wo_load 40 (.tmp 3) (pt k1 0) (rd a_b a_0 a_1 a_2 a_3 a_s) rfl rfl (run_row Q1 40 0 6 (rdl a_b a_0 a_1 a_2 a_3 a_s) rfl Try.underlying40 rfl sz40) (hK _ (Mo.refl _))))
    · exact og_eq (rd b_b b_0 b_1 b_2 b_3 b_s) rfl (fun f wf hq hd K hK => have Q2 := Q2.mo hq; go_run rfl (wo_load 40 (.tmp 4) (pt k2 0) (rd b_b b_0 b_1 b_2 b_3 b_s) rfl rfl (run_row Q2 40 0 6 (rdl b_b b_0 b_1 b_2 b_3 b_s) rfl Try.underlying40 rfl sz40) (hK _ (Mo.refl _))))
    · exact og_eq (.int .i64 x) rfl (fun f wf hq hd K hK => go_run rfl (wo_call 51 [(.tmp 17), (.tmp 18)] _ [rd a_b a_0 a_1 a_2 a_3 a_s, rd b_b b_0 b_1 b_2 b_3 b_s] (.int .i64 x) rfl (li2 (hd 0 rfl) (hd 1 rfl)) (fun _ _ => by kernel_rfl) (h1 _) hK))
    · exact og_eq (rd b_b b_0 b_1 b_2 b_3 b_s) rfl (fun f wf hq hd K hK => have Q2 := Q2.mo hq; go_run rfl (wo_load 40 (.tmp 4) (pt k2 0) (rd b_b b_0 b_1 b_2 b_3 b_s) rfl rfl (run_row Q2 40 0 6 (rdl b_b b_0 b_1 b_2 b_3 b_s) rfl Try.underlying40 rfl sz40) (hK _ (Mo.refl _))))
    · exact og_eq (rd c_b c_0 c_1 c_2 c_3 c_s) rfl (fun f wf hq hd K hK => have Q3 := Q3.mo hq; go_run rfl (wo_load 40 (.tmp 5) (pt k3 0) (rd c_b c_0 c_1 c_2 c_3 c_s) rfl rfl (run_row Q3 40 0 6 (rdl c_b c_0 c_1 c_2 c_3 c_s) rfl Try.underlying40 rfl sz40) (hK _ (Mo.refl _))))
    · exact og_eq (.int .i64 y) rfl (fun f wf hq hd K hK => go_run rfl (wo_call 51 [(.tmp 20), (.tmp 21)] _ [rd b_b b_0 b_1 b_2 b_3 b_s, rd c_b c_0 c_1 c_2 c_3 c_s] (.int .i64 y) rfl (li2 (hd 3 rfl) (hd 4 rfl)) (fun _ _ => by kernel_rfl) (h2 _) hK))
    · exact og_eq (rd a_b a_0 a_1 a_2 a_3 a_s) rfl (fun f wf hq hd K hK => have Q1 := Q1.mo hq; go_run rfl (wo_load 40 (.tmp 3) (pt k1 0) (rd a_b a_0 a_1 a_2 a_3 a_s) rfl rfl (run_row Q1 40 0 6 (rdl a_b a_0 a_1 a_2 a_3 a_s) rfl Try.underlying40 rfl sz40) (hK _ (Mo.refl _))))
    · exact og_eq (rd c_b c_0 c_1 c_2 c_3 c_s) rfl (fun f wf hq hd K hK => have Q3 := Q3.mo hq; go_run rfl (wo_load 40 (.tmp 5) (pt k3 0) (rd c_b c_0 c_1 c_2 c_3 c_s) rfl rfl (run_row Q3 40 0 6 (rdl c_b c_0 c_1 c_2 c_3 c_s) rfl Try.underlying40 rfl sz40) (hK _ (Mo.refl _))))
  intro kf4 w4 hq hR hne
  replace Q1 := Q1.mo hq
  replace Q2 := Q2.mo hq
  replace Q3 := Q3.mo hq
  replace M := M.trans hq
  clear hq hR hne
  refine wl_call 51 [(.tmp 23), (.tmp 24)] _ [rd a_b a_0 a_1 a_2 a_3 a_s, rd c_b c_0 c_1 c_2 c_3 c_s] (.int .i64 z) rfl rfl (fun _ _ => by kernel_rfl) (h3 _) rfl ?_
  intro w5 hq
  replace Q1 := Q1.mo hq
  replace Q2 := Q2.mo hq
  replace Q3 := Q3.mo hq
  replace M := M.trans hq
  clear hq
  refine wl_mv (.tmp 19) (.int .i64 x) (fun _ => rfl) rfl rfl ?_
  refine wl_mv (.tmp 22) (.int .i64 y) (fun _ => rfl) rfl rfl ?_
  refine wl_mv (.tmp 25) (.int .i64 z) (fun _ => rfl) rfl rfl ?_
  refine w_nil ?_
  refine xn_then ?_
  refine w_seq ?_
  refine w_seq ?_
  refine w_reg ?_
  refine wl_call 28 [] _ [] (.bool true) rfl rfl (fun _ _ => by kernel_rfl) (begun_n _) rfl ?_
  intro w6 hq
  replace Q1 := Q1.mo hq
  replace Q2 := Q2.mo hq
  replace Q3 := Q3.mo hq
  replace M := M.trans hq
  clear hq
  refine wl_un (fun v => Op.unary .not v) (.tmp 26) (.bool true) (.bool false) (fun _ => rfl) rfl (by kernel_rfl) rfl ?_
  refine wl_mv (.tmp 27) (.bool false) (fun _ => rfl) rfl rfl ?_
  refine wl_load 40 (.tmp 3) (pt k1 0) (rd a_b a_0 a_1 a_2 a_3 a_s) rfl rfl (run_row Q1 40 0 6 (rdl a_b a_0 a_1 a_2 a_3 a_s) rfl Try.underlying40 rfl sz40) rfl ?_
  refine wl_call 29 [(.tmp 29)] _ [rd a_b a_0 a_1 a_2 a_3 a_s] (.int .i64 (0)) rfl rfl (fun _ _ => by kernel_rfl) (g1 _) rfl ?_
  intro w7 hq
  replace Q1 := Q1.mo hq
  replace Q2 := Q2.mo hq
  replace Q3 := Q3.mo hq
  replace M := M.trans hq
  clear hq
  refine wl_bin (fun x y => do eqGuard .neq 32 (.tmp 30) (.const (.int .i64 (0))) x y; binOp .neq 32 x y) (.tmp 30) (.const (.int .i64 (0))) (.int .i64 (0)) (.int .i64 (0)) (.bool false) (fun _ => rfl) rfl rfl (by kernel_rfl) rfl ?_
  refine wl_pick (.tmp 28) (.const (.bool true)) (.tmp 31) false (.bool false) (fun _ => rfl) rfl rfl rfl ?_
  refine wl_mv (.tmp 32) (.bool false) (fun _ => rfl) rfl rfl ?_
  refine wl_load 40 (.tmp 4) (pt k2 0) (rd b_b b_0 b_1 b_2 b_3 b_s) rfl rfl (run_row Q2 40 0 6 (rdl b_b b_0 b_1 b_2 b_3 b_s) rfl Try.underlying40 rfl sz40) rfl ?_
  refine wl_call 29 [(.tmp 34)] _ [rd b_b b_0 b_1 b_2 b_3 b_s] (.int .i64 (0)) rfl rfl (fun _ _ => by kernel_rfl) (g2 _) rfl ?_
  intro w8 hq
  replace Q1 := Q1.mo hq
  replace Q2 := Q2.mo hq
  replace Q3 := Q3.mo hq
  replace M := M.trans hq
  clear hq
  refine wl_bin (fun x y => do eqGuard .neq 32 (.tmp 35) (.const (.int .i64 (0))) x y; binOp .neq 32 x y) (.tmp 35) (.const (.int .i64 (0))) (.int .i64 (0)) (.int .i64 (0)) (.bool false) (fun _ => rfl) rfl rfl (by kernel_rfl) rfl ?_
  refine wl_pick (.tmp 33) (.const (.bool true)) (.tmp 36) false (.bool false) (fun _ => rfl) rfl rfl rfl ?_
  refine wl_mv (.tmp 37) (.bool false) (fun _ => rfl) rfl rfl ?_
  refine wl_load 40 (.tmp 5) (pt k3 0) (rd c_b c_0 c_1 c_2 c_3 c_s) rfl rfl (run_row Q3 40 0 6 (rdl c_b c_0 c_1 c_2 c_3 c_s) rfl Try.underlying40 rfl sz40) rfl ?_
  refine wl_call 29 [(.tmp 39)] _ [rd c_b c_0 c_1 c_2 c_3 c_s] (.int .i64 (0)) rfl rfl (fun _ _ => by kernel_rfl) (g3 _) rfl ?_
  intro w9 hq
  replace Q1 := Q1.mo hq
  replace Q2 := Q2.mo hq
  replace Q3 := Q3.mo hq
  replace M := M.trans hq
  clear hq
  refine wl_bin (fun x y => do eqGuard .neq 32 (.tmp 40) (.const (.int .i64 (0))) x y; binOp .neq 32 x y) (.tmp 40) (.const (.int .i64 (0))) (.int .i64 (0)) (.int .i64 (0)) (.bool false) (fun _ => rfl) rfl rfl (by kernel_rfl) rfl ?_
  refine wl_pick (.tmp 38) (.const (.bool true)) (.tmp 41) false (.bool false) (fun _ => rfl) rfl rfl rfl ?_
  refine w_nil ?_
  refine xn_then ?_
  refine w_condF rfl ?_
  refine w_skip ?_
  refine xn_then ?_
  refine w_seq ?_
  refine w_seq ?_
  refine w_reg ?_
  refine wl_mv (.tmp 7) (.int .i64 x) (fun _ => rfl) rfl rfl ?_
  refine wl_bin (fun x y => do eqGuard .leq 3 (.tmp 44) (.const (.int .i64 (0))) x y; binOp .leq 3 x y) (.tmp 44) (.const (.int .i64 (0))) (.int .i64 x) (.int .i64 (0)) (.bool true) (fun _ => rfl) rfl rfl (leq3_run hx _ _ _) rfl ?_
  refine wl_mv (.tmp 45) (.bool true) (fun _ => rfl) rfl rfl ?_
  refine wl_mv (.tmp 8) (.int .i64 y) (fun _ => rfl) rfl rfl ?_
  refine wl_bin (fun x y => do eqGuard .leq 3 (.tmp 47) (.const (.int .i64 (0))) x y; binOp .leq 3 x y) (.tmp 47) (.const (.int .i64 (0))) (.int .i64 y) (.int .i64 (0)) (.bool false) (fun _ => rfl) rfl rfl (leq3_run hy _ _ _) rfl ?_
  refine wl_pick (.tmp 46) (.tmp 48) (.const (.bool false)) true (.bool false) (fun _ => rfl) rfl rfl rfl ?_
  refine wl_mv (.tmp 49) (.bool false) (fun _ => rfl) rfl rfl ?_
  refine wl_skip rfl ?_
  refine wl_skip rfl ?_
  refine wl_pick (.tmp 50) (.tmp 52) (.const (.bool false)) false (.bool false) (fun _ => rfl) rfl rfl rfl ?_
  refine w_nil ?_
  refine xn_then ?_
  refine w_condF rfl ?_
  refine w_skip ?_
  refine xn_then ?_
  refine w_seq ?_
  refine w_reg ?_
  refine wl_load 40 (.tmp 3) (pt k1 0) (rd a_b a_0 a_1 a_2 a_3 a_s) rfl rfl (run_row Q1 40 0 6 (rdl a_b a_0 a_1 a_2 a_3 a_s) rfl Try.underlying40 rfl sz40) rfl ?_
  refine wl_call 47 [(.tmp 55)] _ [rd a_b a_0 a_1 a_2 a_3 a_s] (.tuple #[rd na_b na_0 na_1 na_2 na_3 na_s, .int .i64 (0)]) rfl rfl (fun _ _ => by kernel_rfl) (n1 _) rfl ?_
  intro w10 hq
  replace Q1 := Q1.mo hq
  replace Q2 := Q2.mo hq
  replace Q3 := Q3.mo hq
  replace M := M.trans hq
  clear hq
  refine wl_mv (.tmp 56) (.tuple #[rd na_b na_0 na_1 na_2 na_3 na_s, .int .i64 (0)]) (fun _ => rfl) rfl rfl ?_
  refine wl_un (fun v => Instr.extract v 0) (.tmp 54) (.tuple #[rd na_b na_0 na_1 na_2 na_3 na_s, .int .i64 (0)]) (rd na_b na_0 na_1 na_2 na_3 na_s) (fun _ => rfl) rfl (by kernel_rfl) rfl ?_
  refine wl_un (fun v => Instr.extract v 1) (.tmp 54) (.tuple #[rd na_b na_0 na_1 na_2 na_3 na_s, .int .i64 (0)]) (.int .i64 (0)) (fun _ => rfl) rfl (by kernel_rfl) rfl ?_
  refine wl_alloc 40 #[.bool false, .int .u64 0, .int .u64 0, .int .u64 0, .int .u64 0, .int .i64 0] rfl (fun _ => by kernel_rfl) rfl ?_
  intro k4 w11 hk hz hq Q4
  have ne_k1_k4 : k1 ≠ k4 := by have := Q1.lt; omega
  have ne_k2_k4 : k2 ≠ k4 := by have := Q2.lt; omega
  have ne_k3_k4 : k3 ≠ k4 := by have := Q3.lt; omega
  have N_k4 : w.heap.size ≤ k4 := by have := M.size; omega
  replace Q1 := Q1.mo hq
  replace Q2 := Q2.mo hq
  replace Q3 := Q3.mo hq
  replace M := M.trans hq
  clear hk hz hq
  refine wl_st 40 (.tmp 10) (.tmp 57) k4 0 (rda na_b na_0 na_1 na_2 na_3 na_s) [.bool false, .int .u64 0, .int .u64 0, .int .u64 0, .int .u64 0, .int .i64 0] (rdl na_b na_0 na_1 na_2 na_3 na_s) Q4 rfl rfl rfl rfl rfl sz40 rfl rfl rfl ?_
  intro w12 hS Qn
  replace Q4 := Qn
  clear Qn
  replace Q1 := hS.other _ _ ne_k1_k4 Q1
  replace Q2 := hS.other _ _ ne_k2_k4 Q2
  replace Q3 := hS.other _ _ ne_k3_k4 Q3
  replace M := hS.mo _ N_k4 M
  clear hS
  refine wl_mv (.tmp 58) (.int .i64 (0)) (fun _ => rfl) rfl rfl ?_
  refine w_nil ?_
  refine xn_then ?_
  refine w_seq ?_
  refine w_reg ?_
  refine wl_load 40 (.tmp 4) (pt k2 0) (rd b_b b_0 b_1 b_2 b_3 b_s) rfl rfl (run_row Q2 40 0 6 (rdl b_b b_0 b_1 b_2 b_3 b_s) rfl Try.underlying40 rfl sz40) rfl ?_
  refine wl_call 47 [(.tmp 60)] _ [rd b_b b_0 b_1 b_2 b_3 b_s] (.tuple #[rd nb_b nb_0 nb_1 nb_2 nb_3 nb_s, .int .i64 (0)]) rfl rfl (fun _ _ => by kernel_rfl) (n2 _) rfl ?_
  intro w13 hq
  replace Q1 := Q1.mo hq
  replace Q2 := Q2.mo hq
  replace Q3 := Q3.mo hq
  replace Q4 := Q4.mo hq
  replace M := M.trans hq
  clear hq
  refine wl_mv (.tmp 61) (.tuple #[rd nb_b nb_0 nb_1 nb_2 nb_3 nb_s, .int .i64 (0)]) (fun _ => rfl) rfl rfl ?_
  refine wl_un (fun v => Instr.extract v 0) (.tmp 59) (.tuple #[rd nb_b nb_0 nb_1 nb_2 nb_3 nb_s, .int .i64 (0)]) (rd nb_b nb_0 nb_1 nb_2 nb_3 nb_s) (fun _ => rfl) rfl (by kernel_rfl) rfl ?_
  refine wl_un (fun v => Instr.extract v 1) (.tmp 59) (.tuple #[rd nb_b nb_0 nb_1 nb_2 nb_3 nb_s, .int .i64 (0)]) (.int .i64 (0)) (fun _ => rfl) rfl (by kernel_rfl) rfl ?_
  refine wl_alloc 40 #[.bool false, .int .u64 0, .int .u64 0, .int .u64 0, .int .u64 0, .int .i64 0] rfl (fun _ => by kernel_rfl) rfl ?_
  intro k5 w14 hk hz hq Q5
  have ne_k1_k5 : k1 ≠ k5 := by have := Q1.lt; omega
  have ne_k2_k5 : k2 ≠ k5 := by have := Q2.lt; omega
  have ne_k3_k5 : k3 ≠ k5 := by have := Q3.lt; omega
  have ne_k4_k5 : k4 ≠ k5 := by have := Q4.lt; omega
  have N_k5 : w.heap.size ≤ k5 := by have := M.size; omega
  replace Q1 := Q1.mo hq
  replace Q2 := Q2.mo hq
  replace Q3 := Q3.mo hq
  replace Q4 := Q4.mo hq
  replace M := M.trans hq
  clear hk hz hq
  refine wl_st 40 (.tmp 12) (.tmp 62) k5 0 (rda nb_b nb_0 nb_1 nb_2 nb_3 nb_s) [.bool false, .int .u64 0, .int .u64 0, .int .u64 0, .int .u64 0, .int .i64 0] (rdl nb_b nb_0 nb_1 nb_2 nb_3 nb_s) Q5 rfl rfl rfl rfl rfl sz40 rfl rfl rfl ?_
  intro w15 hS Qn
  replace Q5 := Qn
  clear Qn
  replace Q1 := hS.other _ _ ne_k1_k5 Q1
  replace Q2 := hS.other _ _ ne_k2_k5 Q2
  replace Q3 := hS.other _ _ ne_k3_k5 Q3
  replace Q4 := hS.other _ _ ne_k4_k5 Q4
  replace M := hS.mo _ N_k5 M
  clear hS
  refine wl_mv (.tmp 63) (.int .i64 (0)) (fun _ => rfl) rfl rfl ?_
  refine w_nil ?_
  refine xn_then ?_
  refine w_seq ?_
  refine w_seq ?_
  refine w_reg ?_
  refine wl_mv (.tmp 11) (.int .i64 (0)) (fun _ => rfl) rfl rfl ?_
  refine wl_bin (fun x y => do eqGuard .neq 32 (.tmp 64) (.const (.int .i64 (0))) x y; binOp .neq 32 x y) (.tmp 64) (.const (.int .i64 (0))) (.int .i64 (0)) (.int .i64 (0)) (.bool false) (fun _ => rfl) rfl rfl (by kernel_rfl) rfl ?_
  refine wl_mv (.tmp 65) (.bool false) (fun _ => rfl) rfl rfl ?_
  refine wl_mv (.tmp 13) (.int .i64 (0)) (fun _ => rfl) rfl rfl ?_
  refine wl_bin (fun x y => do eqGuard .neq 32 (.tmp 67) (.const (.int .i64 (0))) x y; binOp .neq 32 x y) (.tmp 67) (.const (.int .i64 (0))) (.int .i64 (0)) (.int .i64 (0)) (.bool false) (fun _ => rfl) rfl rfl (by kernel_rfl) rfl ?_
  refine wl_pick (.tmp 66) (.const (.bool true)) (.tmp 68) false (.bool false) (fun _ => rfl) rfl rfl rfl ?_
  refine wl_mv (.tmp 69) (.bool false) (fun _ => rfl) rfl rfl ?_
  refine wl_load 40 (.tmp 12) (pt k5 0) (rd nb_b nb_0 nb_1 nb_2 nb_3 nb_s) rfl rfl (run_row Q5 40 0 6 (rdl nb_b nb_0 nb_1 nb_2 nb_3 nb_s) rfl Try.underlying40 rfl sz40) rfl ?_
  refine wl_load 40 (.tmp 10) (pt k4 0) (rd na_b na_0 na_1 na_2 na_3 na_s) rfl rfl (run_row Q4 40 0 6 (rdl na_b na_0 na_1 na_2 na_3 na_s) rfl Try.underlying40 rfl sz40) rfl ?_
  refine wl_call 51 [(.tmp 71), (.tmp 72)] _ [rd nb_b nb_0 nb_1 nb_2 nb_3 nb_s, rd na_b na_0 na_1 na_2 na_3 na_s] (.int .i64 x) rfl rfl (fun _ _ => by kernel_rfl) (n3 _) rfl ?_
  intro w16 hq
  replace Q1 := Q1.mo hq
  replace Q2 := Q2.mo hq
  replace Q3 := Q3.mo hq
  replace Q4 := Q4.mo hq
  replace Q5 := Q5.mo hq
  replace M := M.trans hq
  clear hq
  refine wl_mv (.tmp 7) (.int .i64 x) (fun _ => rfl) rfl rfl ?_
  refine wl_bin (fun x y => do eqGuard .neq 3 (.tmp 73) (.tmp 74) x y; binOp .neq 3 x y) (.tmp 73) (.tmp 74) (.int .i64 x) (.int .i64 x) (.bool false) (fun _ => rfl) rfl rfl (neq3_run (by simp) _ _ _) rfl ?_
  refine wl_pick (.tmp 70) (.const (.bool true)) (.tmp 75) false (.bool false) (fun _ => rfl) rfl rfl rfl ?_
  refine w_nil ?_
  refine xn_then ?_
  refine w_condF rfl ?_
  refine w_skip ?_
  refine xn_then ?_
  refine w_seq ?_
  refine w_reg ?_
  refine wl_load 40 (.tmp 3) (pt k1 0) (rd a_b a_0 a_1 a_2 a_3 a_s) rfl rfl (run_row Q1 40 0 6 (rdl a_b a_0 a_1 a_2 a_3 a_s) rfl Try.underlying40 rfl sz40) rfl ?_
  refine wl_call 45 [(.tmp 78)] _ [rd a_b a_0 a_1 a_2 a_3 a_s] (.tuple #[rd t_b t_0 t_1 t_2 t_3 t_s, .int .i64 (0)]) rfl rfl (fun _ _ => by kernel_rfl) (t1 _) rfl ?_
  intro w17 hq
  replace Q1 := Q1.mo hq
  replace Q2 := Q2.mo hq
  replace Q3 := Q3.mo hq
  replace Q4 := Q4.mo hq
  replace Q5 := Q5.mo hq
  replace M := M.trans hq
  clear hq
  refine wl_mv (.tmp 79) (.tuple #[rd t_b t_0 t_1 t_2 t_3 t_s, .int .i64 (0)]) (fun _ => rfl) rfl rfl ?_
  refine wl_un (fun v => Instr.extract v 0) (.tmp 77) (.tuple #[rd t_b t_0 t_1 t_2 t_3 t_s, .int .i64 (0)]) (rd t_b t_0 t_1 t_2 t_3 t_s) (fun _ => rfl) rfl (by kernel_rfl) rfl ?_
  refine wl_un (fun v => Instr.extract v 1) (.tmp 77) (.tuple #[rd t_b t_0 t_1 t_2 t_3 t_s, .int .i64 (0)]) (.int .i64 (0)) (fun _ => rfl) rfl (by kernel_rfl) rfl ?_
  refine wl_alloc 40 #[.bool false, .int .u64 0, .int .u64 0, .int .u64 0, .int .u64 0, .int .i64 0] rfl (fun _ => by kernel_rfl) rfl ?_
  intro k6 w18 hk hz hq Q6
  have ne_k1_k6 : k1 ≠ k6 := by have := Q1.lt; omega
  have ne_k2_k6 : k2 ≠ k6 := by have := Q2.lt; omega
  have ne_k3_k6 : k3 ≠ k6 := by have := Q3.lt; omega
  have ne_k4_k6 : k4 ≠ k6 := by have := Q4.lt; omega
  have ne_k5_k6 : k5 ≠ k6 := by have := Q5.lt; omega
  have N_k6 : w.heap.size ≤ k6 := by have := M.size; omega
  replace Q1 := Q1.mo hq
  replace Q2 := Q2.mo hq
  replace Q3 := Q3.mo hq
  replace Q4 := Q4.mo hq
  replace Q5 := Q5.mo hq
  replace M := M.trans hq
  clear hk hz hq
  refine wl_st 40 (.tmp 14) (.tmp 80) k6 0 (rda t_b t_0 t_1 t_2 t_3 t_s) [.bool false, .int .u64 0, .int .u64 0, .int .u64 0, .int .u64 0, .int .i64 0] (rdl t_b t_0 t_1 t_2 t_3 t_s) Q6 rfl rfl rfl rfl rfl sz40 rfl rfl rfl ?_
  intro w19 hS Qn
  replace Q6 := Qn
  clear Qn
  replace Q1 := hS.other _ _ ne_k1_k6 Q1
  replace Q2 := hS.other _ _ ne_k2_k6 Q2
  replace Q3 := hS.other _ _ ne_k3_k6 Q3
  replace Q4 := hS.other _ _ ne_k4_k6 Q4
  replace Q5 := hS.other _ _ ne_k5_k6 Q5
  replace M := hS.mo _ N_k6 M
  clear hS
  refine wl_mv (.tmp 81) (.int .i64 (0)) (fun _ => rfl) rfl rfl ?_
  refine w_nil ?_
  refine xn_then ?_
  refine w_seq ?_
  refine w_seq ?_
  refine w_reg ?_
  refine wl_mv (.tmp 11) (.int .i64 (0)) (fun _ => rfl) rfl rfl ?_
  refine wl_bin (fun x y => do eqGuard .neq 32 (.tmp 82) (.const (.int .i64 (0))) x y; binOp .neq 32 x y) (.tmp 82) (.const (.int .i64 (0))) (.int .i64 (0)) (.int .i64 (0)) (.bool false) (fun _ => rfl) rfl rfl (by kernel_rfl) rfl ?_
  refine wl_mv (.tmp 83) (.bool false) (fun _ => rfl) rfl rfl ?_
  refine wl_load 40 (.tmp 3) (pt k1 0) (rd a_b a_0 a_1 a_2 a_3 a_s) rfl rfl (run_row Q1 40 0 6 (rdl a_b a_0 a_1 a_2 a_3 a_s) rfl Try.underlying40 rfl sz40) rfl ?_
  refine wl_load 40 (.tmp 14) (pt k6 0) (rd t_b t_0 t_1 t_2 t_3 t_s) rfl rfl (run_row Q6 40 0 6 (rdl t_b t_0 t_1 t_2 t_3 t_s) rfl Try.underlying40 rfl sz40) rfl ?_
  refine wl_call 51 [(.tmp 85), (.tmp 86)] _ [rd a_b a_0 a_1 a_2 a_3 a_s, rd t_b t_0 t_1 t_2 t_3 t_s] (.int .i64 (0)) rfl rfl (fun _ _ => by kernel_rfl) (t2 _) rfl ?_
  intro w20 hq
  replace Q1 := Q1.mo hq
  replace Q2 := Q2.mo hq
  replace Q3 := Q3.mo hq
  replace Q4 := Q4.mo hq
  replace Q5 := Q5.mo hq
  replace Q6 := Q6.mo hq
  replace M := M.trans hq
  clear hq
  refine wl_bin (fun x y => do eqGuard .neq 3 (.tmp 87) (.const (.int .i64 (0))) x y; binOp .neq 3 x y) (.tmp 87) (.const (.int .i64 (0))) (.int .i64 (0)) (.int .i64 (0)) (.bool false) (fun _ => rfl) rfl rfl (by kernel_rfl) rfl ?_
  refine wl_pick (.tmp 84) (.const (.bool true)) (.tmp 88) false (.bool false) (fun _ => rfl) rfl rfl rfl ?_
  refine wl_mv (.tmp 89) (.bool false) (fun _ => rfl) rfl rfl ?_
  refine wl_un (fun v => Instr.fieldAt 40 v 2) (.tmp 14) (pt k6 0) (pt k6 5) (fun _ => rfl) rfl (by kernel_rfl) rfl ?_
  refine wl_load 3 (.tmp 91) (pt k6 5) (.int .i64 t_s) rfl rfl (run_one Q6 3 5 rfl Try.underlying3 rfl) rfl ?_
  refine wl_un (fun v => Instr.fieldAt 40 v 2) (.tmp 3) (pt k1 0) (pt k1 5) (fun _ => rfl) rfl (by kernel_rfl) rfl ?_
  refine wl_load 3 (.tmp 93) (pt k1 5) (.int .i64 a_s) rfl rfl (run_one Q1 3 5 rfl Try.underlying3 rfl) rfl ?_
  refine wl_bin (fun x y => do eqGuard .gtr 3 (.tmp 92) (.tmp 94) x y; binOp .gtr 3 x y) (.tmp 92) (.tmp 94) (.int .i64 t_s) (.int .i64 a_s) (.bool false) (fun _ => rfl) rfl rfl (gtr3_run ht _ _ _) rfl ?_
  refine wl_pick (.tmp 90) (.const (.bool true)) (.tmp 95) false (.bool false) (fun _ => rfl) rfl rfl rfl ?_
  refine w_nil ?_
  refine xn_then ?_
  refine w_condF rfl ?_
  refine w_skip ?_
  refine xn_then ?_
  refine w_seq ?_
  refine w_reg ?_
  refine wl_load 40 (.tmp 3) (pt k1 0) (rd a_b a_0 a_1 a_2 a_3 a_s) rfl rfl (run_row Q1 40 0 6 (rdl a_b a_0 a_1 a_2 a_3 a_s) rfl Try.underlying40 rfl sz40) rfl ?_
  refine wl_load 40 (.tmp 5) (pt k3 0) (rd c_b c_0 c_1 c_2 c_3 c_s) rfl rfl (run_row Q3 40 0 6 (rdl c_b c_0 c_1 c_2 c_3 c_s) rfl Try.underlying40 rfl sz40) rfl ?_
  refine wl_call 35 [(.tmp 98), (.tmp 99)] _ [rd a_b a_0 a_1 a_2 a_3 a_s, rd c_b c_0 c_1 c_2 c_3 c_s] (.tuple #[rd p_b p_0 p_1 p_2 p_3 p_s, .int .i64 e]) rfl rfl (fun _ _ => by kernel_rfl) (a1 _) rfl ?_
  intro w21 hq
  replace Q1 := Q1.mo hq
  replace Q2 := Q2.mo hq
  replace Q3 := Q3.mo hq
  replace Q4 := Q4.mo hq
  replace Q5 := Q5.mo hq
  replace Q6 := Q6.mo hq
  replace M := M.trans hq
  clear hq
  refine wl_mv (.tmp 100) (.tuple #[rd p_b p_0 p_1 p_2 p_3 p_s, .int .i64 e]) (fun _ => rfl) rfl rfl ?_
  refine wl_un (fun v => Instr.extract v 0) (.tmp 97) (.tuple #[rd p_b p_0 p_1 p_2 p_3 p_s, .int .i64 e]) (rd p_b p_0 p_1 p_2 p_3 p_s) (fun _ => rfl) rfl (by kernel_rfl) rfl ?_
  refine wl_un (fun v => Instr.extract v 1) (.tmp 97) (.tuple #[rd p_b p_0 p_1 p_2 p_3 p_s, .int .i64 e]) (.int .i64 e) (fun _ => rfl) rfl (by kernel_rfl) rfl ?_
  refine wl_alloc 40 #[.bool false, .int .u64 0, .int .u64 0, .int .u64 0, .int .u64 0, .int .i64 0] rfl (fun _ => by kernel_rfl) rfl ?_
  intro k7 w22 hk hz hq Q7
  have ne_k1_k7 : k1 ≠ k7 := by have := Q1.lt; omega
  have ne_k2_k7 : k2 ≠ k7 := by have := Q2.lt; omega
  have ne_k3_k7 : k3 ≠ k7 := by have := Q3.lt; omega
  have ne_k4_k7 : k4 ≠ k7 := by have := Q4.lt; omega
  have ne_k5_k7 : k5 ≠ k7 := by have := Q5.lt; omega
  have ne_k6_k7 : k6 ≠ k7 := by have := Q6.lt; omega
  have N_k7 : w.heap.size ≤ k7 := by have := M.size; omega
  replace Q1 := Q1.mo hq
  replace Q2 := Q2.mo hq
  replace Q3 := Q3.mo hq
  replace Q4 := Q4.mo hq
  replace Q5 := Q5.mo hq
  replace Q6 := Q6.mo hq
  replace M := M.trans hq
  clear hk hz hq
  refine wl_st 40 (.tmp 15) (.tmp 101) k7 0 (rda p_b p_0 p_1 p_2 p_3 p_s) [.bool false, .int .u64 0, .int .u64 0, .int .u64 0, .int .u64 0, .int .i64 0] (rdl p_b p_0 p_1 p_2 p_3 p_s) Q7 rfl rfl rfl rfl rfl sz40 rfl rfl rfl ?_
  intro w23 hS Qn
  replace Q7 := Qn
  clear Qn
  replace Q1 := hS.other _ _ ne_k1_k7 Q1
  replace Q2 := hS.other _ _ ne_k2_k7 Q2
  replace Q3 := hS.other _ _ ne_k3_k7 Q3
  replace Q4 := hS.other _ _ ne_k4_k7 Q4
  replace Q5 := hS.other _ _ ne_k5_k7 Q5
  replace Q6 := hS.other _ _ ne_k6_k7 Q6
  replace M := hS.mo _ N_k7 M
  clear hS
  refine wl_mv (.tmp 102) (.int .i64 e) (fun _ => rfl) rfl rfl ?_
  refine w_nil ?_
  refine xn_then ?_
  refine w_seq ?_
  refine w_reg ?_
  refine wl_load 40 (.tmp 4) (pt k2 0) (rd b_b b_0 b_1 b_2 b_3 b_s) rfl rfl (run_row Q2 40 0 6 (rdl b_b b_0 b_1 b_2 b_3 b_s) rfl Try.underlying40 rfl sz40) rfl ?_
  refine wl_load 40 (.tmp 5) (pt k3 0) (rd c_b c_0 c_1 c_2 c_3 c_s) rfl rfl (run_row Q3 40 0 6 (rdl c_b c_0 c_1 c_2 c_3 c_s) rfl Try.underlying40 rfl sz40) rfl ?_
  refine wl_call 35 [(.tmp 104), (.tmp 105)] _ [rd b_b b_0 b_1 b_2 b_3 b_s, rd c_b c_0 c_1 c_2 c_3 c_s] (.tuple #[rd q_b q_0 q_1 q_2 q_3 q_s, .int .i64 f]) rfl rfl (fun _ _ => by kernel_rfl) (a2 _) rfl ?_
  intro w24 hq
  replace Q1 := Q1.mo hq
  replace Q2 := Q2.mo hq
  replace Q3 := Q3.mo hq
  replace Q4 := Q4.mo hq
  replace Q5 := Q5.mo hq
  replace Q6 := Q6.mo hq
  replace Q7 := Q7.mo hq
  replace M := M.trans hq
  clear hq
  refine wl_mv (.tmp 106) (.tuple #[rd q_b q_0 q_1 q_2 q_3 q_s, .int .i64 f]) (fun _ => rfl) rfl rfl ?_
  refine wl_un (fun v => Instr.extract v 0) (.tmp 103) (.tuple #[rd q_b q_0 q_1 q_2 q_3 q_s, .int .i64 f]) (rd q_b q_0 q_1 q_2 q_3 q_s) (fun _ => rfl) rfl (by kernel_rfl) rfl ?_
  refine wl_un (fun v => Instr.extract v 1) (.tmp 103) (.tuple #[rd q_b q_0 q_1 q_2 q_3 q_s, .int .i64 f]) (.int .i64 f) (fun _ => rfl) rfl (by kernel_rfl) rfl ?_
  refine wl_alloc 40 #[.bool false, .int .u64 0, .int .u64 0, .int .u64 0, .int .u64 0, .int .i64 0] rfl (fun _ => by kernel_rfl) rfl ?_
  intro k8 w25 hk hz hq Q8
  have ne_k1_k8 : k1 ≠ k8 := by have := Q1.lt; omega
  have ne_k2_k8 : k2 ≠ k8 := by have := Q2.lt; omega
  have ne_k3_k8 : k3 ≠ k8 := by have := Q3.lt; omega
  have ne_k4_k8 : k4 ≠ k8 := by have := Q4.lt; omega
  have ne_k5_k8 : k5 ≠ k8 := by have := Q5.lt; omega
  have ne_k6_k8 : k6 ≠ k8 := by have := Q6.lt; omega
  have ne_k7_k8 : k7 ≠ k8 := by have := Q7.lt; omega
  have N_k8 : w.heap.size ≤ k8 := by have := M.size; omega
  replace Q1 := Q1.mo hq
  replace Q2 := Q2.mo hq
  replace Q3 := Q3.mo hq
  replace Q4 := Q4.mo hq
  replace Q5 := Q5.mo hq
  replace Q6 := Q6.mo hq
  replace Q7 := Q7.mo hq
  replace M := M.trans hq
  clear hk hz hq
  refine wl_st 40 (.tmp 16) (.tmp 107) k8 0 (rda q_b q_0 q_1 q_2 q_3 q_s) [.bool false, .int .u64 0, .int .u64 0, .int .u64 0, .int .u64 0, .int .i64 0] (rdl q_b q_0 q_1 q_2 q_3 q_s) Q8 rfl rfl rfl rfl rfl sz40 rfl rfl rfl ?_
  intro w26 hS Qn
  replace Q8 := Qn
  clear Qn
  replace Q1 := hS.other _ _ ne_k1_k8 Q1
  replace Q2 := hS.other _ _ ne_k2_k8 Q2
  replace Q3 := hS.other _ _ ne_k3_k8 Q3
  replace Q4 := hS.other _ _ ne_k4_k8 Q4
  replace Q5 := hS.other _ _ ne_k5_k8 Q5
  replace Q6 := hS.other _ _ ne_k6_k8 Q6
  replace Q7 := hS.other _ _ ne_k7_k8 Q7
  replace M := hS.mo _ N_k8 M
  clear hS
  refine wl_mv (.tmp 108) (.int .i64 f) (fun _ => rfl) rfl rfl ?_
  refine w_nil ?_
  refine xn_then ?_
  refine w_seq ?_
  refine w_seq ?_
  refine w_reg ?_
  refine wl_mv (.tmp 11) (.int .i64 e) (fun _ => rfl) rfl rfl ?_
  refine wl_bin (fun x y => do eqGuard .neq 32 (.tmp 109) (.const (.int .i64 (0))) x y; binOp .neq 32 x y) (.tmp 109) (.const (.int .i64 (0))) (.int .i64 e) (.int .i64 (0)) (.bool true) (fun _ => rfl) rfl rfl (neq32_run he _ _ _) rfl ?_
  refine wl_mv (.tmp 110) (.bool true) (fun _ => rfl) rfl rfl ?_
  refine wl_skip rfl ?_
  refine wl_skip rfl ?_
  refine wl_pick (.tmp 111) (.const (.bool true)) (.tmp 113) true (.bool true) (fun _ => rfl) rfl rfl rfl ?_
  refine w_nil ?_
  refine xn_then ?_
  refine w_condT rfl ?_
  refine w_seq ?_
  refine w_reg ?_
  refine wl_mv (.const (.bool true)) (.bool true) (fun _ => rfl) rfl rfl ?_
  refine w_nil ?_
  refine xn_then ?_
  refine w_ret ?_
  refine xr_then ?_
  exact w_ret1 _ (.bool true) rfl rfl ⟨rfl, M⟩
theorem order_b_e2 (a_b : Bool) (a_0 a_1 a_2 a_3 a_s : Int) (b_b : Bool) (b_0 b_1 b_2 b_3 b_s : Int) (c_b : Bool) (c_0 c_1 c_2 c_3 c_s : Int) (na_b : Bool) (na_0 na_1 na_2 na_3 na_s : Int) (nb_b : Bool) (nb_0 nb_1 nb_2 nb_3 nb_s : Int) (t_b : Bool) (t_0 t_1 t_2 t_3 t_s : Int) (p_b : Bool) (p_0 p_1 p_2 p_3 p_s : Int) (q_b : Bool) (q_0 q_1 q_2 q_3 q_s : Int) (x y z : Int) (e : Int) (w : World) (h1 : ∀ w, Calls Try.prog 51 #[rd a_b a_0 a_1 a_2 a_3 a_s, rd b_b b_0 b_1 b_2 b_3 b_s] w fun e' w' => e' = .returned (.int .i64 x) ∧ Mo w w') (h2 : ∀ w, Calls Try.prog 51 #[rd b_b b_0 b_1 b_2 b_3 b_s, rd c_b c_0 c_1 c_2 c_3 c_s] w fun e' w' => e' = .returned (.int .i64 y) ∧ Mo w w') (h3 : ∀ w, Calls Try.prog 51 #[rd a_b a_0 a_1 a_2 a_3 a_s, rd c_b c_0 c_1 c_2 c_3 c_s] w fun e' w' => e' = .returned (.int .i64 z) ∧ Mo w w') (g1 : ∀ w, Calls Try.prog 29 #[rd a_b a_0 a_1 a_2 a_3 a_s] w fun e' w' => e' = .returned (.int .i64 (0)) ∧ Mo w w') (g2 : ∀ w, Calls Try.prog 29 #[rd b_b b_0 b_1 b_2 b_3 b_s] w fun e' w' => e' = .returned (.int .i64 (0)) ∧ Mo w w') (g3 : ∀ w, Calls Try.prog 29 #[rd c_b c_0 c_1 c_2 c_3 c_s] w fun e' w' => e' = .returned (.int .i64 (0)) ∧ Mo w w') (hx : decide (x ≤ 0) = true) (hy : decide (y ≤ 0) = false) (n1 : ∀ w, Calls Try.prog 47 #[rd a_b a_0 a_1 a_2 a_3 a_s] w fun e' w' => e' = .returned (.tuple #[rd na_b na_0 na_1 na_2 na_3 na_s, .int .i64 (0)]) ∧ Mo w w') (n2 : ∀ w, Calls Try.prog 47 #[rd b_b b_0 b_1 b_2 b_3 b_s] w fun e' w' => e' = .returned (.tuple #[rd nb_b nb_0 nb_1 nb_2 nb_3 nb_s, .int .i64 (0)]) ∧ Mo w w') (n3 : ∀ w, Calls Try.prog 51 #[rd nb_b nb_0 nb_1 nb_2 nb_3 nb_s, rd na_b na_0 na_1 na_2 na_3 na_s] w fun e' w' => e' = .returned (.int .i64 x) ∧ Mo w w') (t1 : ∀ w, Calls Try.prog 45 #[rd a_b a_0 a_1 a_2 a_3 a_s] w fun e' w' => e' = .returned (.tuple #[rd t_b t_0 t_1 t_2 t_3 t_s, .int .i64 (0)]) ∧ Mo w w') (t2 : ∀ w, Calls Try.prog 51 #[rd a_b a_0 a_1 a_2 a_3 a_s, rd t_b t_0 t_1 t_2 t_3 t_s] w fun e' w' => e' = .returned (.int .i64 (0)) ∧ Mo w w') (ht : decide (t_s > a_s) = false) (a1 : ∀ w, Calls Try.prog 35 #[rd a_b a_0 a_1 a_2 a_3 a_s, rd c_b c_0 c_1 c_2 c_3 c_s] w fun e' w' => e' = .returned (.tuple #[rd p_b p_0 p_1 p_2 p_3 p_s, .int .i64 (0)]) ∧ Mo w w') (a2 : ∀ w, Calls Try.prog 35 #[rd b_b b_0 b_1 b_2 b_3 b_s, rd c_b c_0 c_1 c_2 c_3 c_s] w fun e' w' => e' = .returned (.tuple #[rd q_b q_0 q_1 q_2 q_3 q_s, .int .i64 e]) ∧ Mo w w') (he : (e == 0) = false) :
    Calls Try.prog 14 #[rd a_b a_0 a_1 a_2 a_3 a_s, rd b_b b_0 b_1 b_2 b_3 b_s, rd c_b c_0 c_1 c_2 c_3 c_s] w fun e' w' => e' = .returned (.bool true) ∧ Mo w w' := by
  refine w_enter 120 Try.func14 Try.ntmps14 rfl rfl ?_
  have M : Mo w w := Mo.refl _
  refine w_seq ?_
  refine w_reg ?_
  refine wl_box 40 (.tmp 0) (rd a_b a_0 a_1 a_2 a_3 a_s) ((rda a_b a_0 a_1 a_2 a_3 a_s)) rfl rfl (fun _ => by kernel_rfl) rfl ?_
  intro k1 w1 hk hz hq Q1
  have N_k1 : w.heap.size ≤ k1 := by have := M.size; omega
  replace M := M.trans hq
  clear hk hz hq
  refine wl_box 40 (.tmp 1) (rd b_b b_0 b_1 b_2 b_3 b_s) ((rda b_b b_0 b_1 b_2 b_3 b_s)) rfl rfl (fun _ => by kernel_rfl) rfl ?_
  intro k2 w2 hk hz hq Q2
  have ne_k1_k2 : k1 ≠ k2 := by have := Q1.lt; omega
  have N_k2 : w.heap.size ≤ k2 := by have := M.size; omega
  replace Q1 := Q1.mo hq
  replace M := M.trans hq
  clear hk hz hq
  refine wl_box 40 (.tmp 2) (rd c_b c_0 c_1 c_2 c_3 c_s) ((rda c_b c_0 c_1 c_2 c_3 c_s)) rfl rfl (fun _ => by kernel_rfl) rfl ?_
  intro k3 w3 hk hz hq Q3
  have ne_k1_k3 : k1 ≠ k3 := by have := Q1.lt; omega
  have ne_k2_k3 : k2 ≠ k3 := by have := Q2.lt; omega
  have N_k3 : w.heap.size ≤ k3 := by have := M.size; omega
  replace Q1 := Q1.mo hq
  replace Q2 := Q2.mo hq
  replace M := M.trans hq
  clear hk hz hq
  refine wl_mv (.const (.bool false)) (.bool false) (fun _ => rfl) rfl rfl ?_
  refine w_nil ?_
  refine xn_then ?_
  refine w_seq ?_
  refine w_any 8 [.inl (rd a_b a_0 a_1 a_2 a_3 a_s), .inl (rd b_b b_0 b_1 b_2 b_3 b_s), .inl (.int .i64 x), .inl (rd b_b b_0 b_1 b_2 b_3 b_s), .inl (rd c_b c_0 c_1 c_2 c_3 c_s), .inl (.int .i64 y), .inl (rd a_b a_0 a_1 a_2 a_3 a_s), .inl (rd c_b c_0 c_1 c_2 c_3 c_s)] [] (by kernel_rfl) (by kernel_rfl) (by kernel_rfl) (by kernel_rfl) rfl (by kernel_rfl) (by kernel_rfl) late_nil ?_ ?_ ?_
  · exact Ds.none rfl
  · refine ea_cons ?_ (ea_cons ?_ (ea_cons ?_ (ea_cons ?_ (ea_cons ?_ (ea_cons ?_ (ea_cons ?_ (ea_cons ?_ (ea_nil))))))))
    · exact og_eq (rd a_b a_0 a_1 a_2 a_3 a_s) rfl (fun f wf hq hd K hK => have Q1 := Q1.mo hq; go_run rfl (wo_load 40 (.tmp 3) (pt k1 0) (rd a_b a_0 a_1 a_2 a_3 a_s) rfl rfl (run_row Q1 40 0 6 (rdl a_b a_0 a_1 a_2 a_3 a_s) rfl Try.underlying40 rfl sz40) (hK _ (Mo.refl _))))
    · exact og_eq (rd b_b b_0 b_1 b_2 b_3 b_s) rfl (fun f wf hq hd K hK => have Q2 := Q2.mo hq; go_run rfl (wo_load 40 (.tmp 4) (pt k2 0) (rd b_b b_0 b_1 b_2 b_3 b_s) rfl rfl (run_row Q2 40 0 6 (rdl b_b b_0 b_1 b_2 b_3 b_s) rfl Try.underlying40 rfl sz40) (hK _ (Mo.refl _))))
    · exact og_eq (.int .i64 x) rfl (fun f wf hq hd K hK => go_run rfl (wo_call 51 [(.tmp 17), (.tmp 18)] _ [rd a_b a_0 a_1 a_2 a_3 a_s, rd b_b b_0 b_1 b_2 b_3 b_s] (.int .i64 x) rfl (li2 (hd 0 rfl) (hd 1 rfl)) (fun _ _ => by kernel_rfl) (h1 _) hK))
    · exact og_eq (rd b_b b_0 b_1 b_2 b_3 b_s) rfl (fun f wf hq hd K hK => have Q2 := Q2.mo hq; go_run rfl (wo_load 40 (.tmp 4) (pt k2 0) (rd b_b b_0 b_1 b_2 b_3 b_s) rfl rfl (run_row Q2 40 0 6 (rdl b_b b_0 b_1 b_2 b_3 b_s) rfl Try.underlying40 rfl sz40) (hK _ (Mo.refl _))))
    · exact og_eq (rd c_b c_0 c_1 c_2 c_3 c_s) rfl (fun f wf hq hd K hK => have Q3 := Q3.mo hq; go_run rfl (wo_load 40 (.tmp 5) (pt k3 0) (rd c_b c_0 c_1 c_2 c_3 c_s) rfl rfl (run_row Q3 40 0 6 (rdl c_b c_0 c_1 c_2 c_3 c_s) rfl Try.underlying40 rfl sz40) (hK _ (Mo.refl _))))
    · exact og_eq (.int .i64 y) rfl (fun f wf hq hd K hK => go_run rfl (wo_call 51 [(.tmp 20), (.tmp 21)] _ [rd b_b b_0 b_1 b_2 b_3 b_s, rd c_b c_0 c_1 c_2 c_3 c_s] (.int .i64 y) rfl (li2 (hd 3 rfl) (hd 4 rfl)) (fun _ _ => by kernel_rfl) (h2 _) hK))
    · exact og_eq (rd a_b a_0 a_1 a_2 a_3 a_s) rfl (fun f wf hq hd K hK => have Q1 := Q1.mo hq; go_run rfl (wo_load 40 (.tmp 3) (pt k1 0) (rd a_b a_0 a_1 a_2 a_3 a_s) rfl rfl (run_row Q1 40 0 6 (rdl a_b a_0 a_1 a_2 a_3 a_s) rfl Try.underlying40 rfl sz40) (hK _ (Mo.refl _))))
    · exact og_eq (rd c_b c_0 c_1 c_2 c_3 c_s) rfl (fun f wf hq hd K hK => have Q3 := Q3.mo hq; go_run rfl (wo_load 40 (.tmp 5) (pt k3 0) (rd c_b c_0 c_1 c_2 c_3 c_s) rfl rfl (run_row Q3 40 0 6 (rdl c_b c_0 c_1 c_2 c_3 c_s) rfl Try.underlying40 rfl sz40) (hK _ (Mo.refl _))))
  intro kf4 w4 hq hR hne
  replace Q1 := Q1.mo hq
  replace Q2 := Q2.mo hq
  replace Q3 := Q3.mo hq
  replace M := M.trans hq
  clear hq hR hne
  refine wl_call 51 [(.tmp 23), (.tmp 24)] _ [rd a_b a_0 a_1 a_2 a_3 a_s, rd c_b c_0 c_1 c_2 c_3 c_s] (.int .i64 z) rfl rfl (fun _ _ => by kernel_rfl) (h3 _) rfl ?_
  intro w5 hq
  replace Q1 := Q1.mo hq
  replace Q2 := Q2.mo hq
  replace Q3 := Q3.mo hq
  replace M := M.trans hq
  clear hq
  refine wl_mv (.tmp 19) (.int .i64 x) (fun _ => rfl) rfl rfl ?_
  refine wl_mv (.tmp 22) (.int .i64 y) (fun _ => rfl) rfl rfl ?_
  refine wl_mv (.tmp 25) (.int .i64 z) (fun _ => rfl) rfl rfl ?_
  refine w_nil ?_
  refine xn_then ?_
  refine w_seq ?_
  refine w_seq ?_
  refine w_reg ?_
  refine wl_call 28 [] _ [] (.bool true) rfl rfl (fun _ _ => by kernel_rfl) (begun_n _) rfl ?_
  intro w6 hq
  replace Q1 := Q1.mo hq
  replace Q2 := Q2.mo hq
  replace Q3 := Q3.mo hq
  replace M := M.trans hq
  clear hq
  refine wl_un (fun v => Op.unary .not v) (.tmp 26) (.bool true) (.bool false) (fun _ => rfl) rfl (by kernel_rfl) rfl ?_
  refine wl_mv (.tmp 27) (.bool false) (fun _ => rfl) rfl rfl ?_
  refine wl_load 40 (.tmp 3) (pt k1 0) (rd a_b a_0 a_1 a_2 a_3 a_s) rfl rfl (run_row Q1 40 0 6 (rdl a_b a_0 a_1 a_2 a_3 a_s) rfl Try.underlying40 rfl sz40) rfl ?_
  refine wl_call 29 [(.tmp 29)] _ [rd a_b a_0 a_1 a_2 a_3 a_s] (.int .i64 (0)) rfl rfl (fun _ _ => by kernel_rfl) (g1 _) rfl ?_
  intro w7 hq
  replace Q1 := Q1.mo hq
  replace Q2 := Q2.mo hq
  replace Q3 := Q3.mo hq
  replace M := M.trans hq
  clear hq
  refine wl_bin (fun x y => do eqGuard .neq 32 (.tmp 30) (.const (.int .i64 (0))) x y; binOp .neq 32 x y) (.tmp 30) (.const (.int .i64 (0))) (.int .i64 (0)) (.int .i64 (0)) (.bool false) (fun _ => rfl) rfl rfl (by kernel_rfl) rfl ?_
  refine wl_pick (.tmp 28) (.const (.bool true)) (.tmp 31) false (.bool false) (fun _ => rfl) rfl rfl rfl ?_
  refine wl_mv (.tmp 32) (.bool false) (fun _ => rfl) rfl rfl ?_
  refine wl_load 40 (.tmp 4) (pt k2 0) (rd b_b b_0 b_1 b_2 b_3 b_s) rfl rfl (run_row Q2 40 0 6 (rdl b_b b_0 b_1 b_2 b_3 b_s) rfl Try.underlying40 rfl sz40) rfl ?_
  refine wl_call 29 [(.tmp 34)] _ [rd b_b b_0 b_1 b_2 b_3 b_s] (.int .i64 (0)) rfl rfl (fun _ _ => by kernel_rfl) (g2 _) rfl ?_
  intro w8 hq
  replace Q1 := Q1.mo hq
  replace Q2 := Q2.mo hq
  replace Q3 := Q3.mo hq
  replace M := M.trans hq
  clear hq
  refine wl_bin (fun x y => do eqGuard .neq 32 (.tmp 35) (.const (.int .i64 (0))) x y; binOp .neq 32 x y) (.tmp 35) (.const (.int .i64 (0))) (.int .i64 (0)) (.int .i64 (0)) (.bool false) (fun _ => rfl) rfl rfl (by kernel_rfl) rfl ?_
  refine wl_pick (.tmp 33) (.const (.bool true)) (.tmp 36) false (.bool false) (fun _ => rfl) rfl rfl rfl ?_
  refine wl_mv (.tmp 37) (.bool false) (fun _ => rfl) rfl rfl ?_
  refine wl_load 40 (.tmp 5) (pt k3 0) (rd c_b c_0 c_1 c_2 c_3 c_s) rfl rfl (run_row Q3 40 0 6 (rdl c_b c_0 c_1 c_2 c_3 c_s) rfl Try.underlying40 rfl sz40) rfl ?_
  refine wl_call 29 [(.tmp 39)] _ [rd c_b c_0 c_1 c_2 c_3 c_s] (.int .i64 (0)) rfl rfl (fun _ _ => by kernel_rfl) (g3 _) rfl ?_
  intro w9 hq
  replace Q1 := Q1.mo hq
  replace Q2 := Q2.mo hq
  replace Q3 := Q3.mo hq
  replace M := M.trans hq
  clear hq
  refine wl_bin (fun x y => do eqGuard .neq 32 (.tmp 40) (.const (.int .i64 (0))) x y; binOp .neq 32 x y) (.tmp 40) (.const (.int .i64 (0))) (.int .i64 (0)) (.int .i64 (0)) (.bool false) (fun _ => rfl) rfl rfl (by kernel_rfl) rfl ?_
  refine wl_pick (.tmp 38) (.const (.bool true)) (.tmp 41) false (.bool false) (fun _ => rfl) rfl rfl rfl ?_
  refine w_nil ?_
  refine xn_then ?_
  refine w_condF rfl ?_
  refine w_skip ?_
  refine xn_then ?_
  refine w_seq ?_
  refine w_seq ?_
  refine w_reg ?_
  refine wl_mv (.tmp 7) (.int .i64 x) (fun _ => rfl) rfl rfl ?_
  refine wl_bin (fun x y => do eqGuard .leq 3 (.tmp 44) (.const (.int .i64 (0))) x y; binOp .leq 3 x y) (.tmp 44) (.const (.int .i64 (0))) (.int .i64 x) (.int .i64 (0)) (.bool true) (fun _ => rfl) rfl rfl (leq3_run hx _ _ _) rfl ?_
  refine wl_mv (.tmp 45) (.bool true) (fun _ => rfl) rfl rfl ?_
  refine wl_mv (.tmp 8) (.int .i64 y) (fun _ => rfl) rfl rfl ?_
  refine wl_bin (fun x y => do eqGuard .leq 3 (.tmp 47) (.const (.int .i64 (0))) x y; binOp .leq 3 x y) (.tmp 47) (.const (.int .i64 (0))) (.int .i64 y) (.int .i64 (0)) (.bool false) (fun _ => rfl) rfl rfl (leq3_run hy _ _ _) rfl ?_
  refine wl_pick (.tmp 46) (.tmp 48) (.const (.bool false)) true (.bool false) (fun _ => rfl) rfl rfl rfl ?_
  refine wl_mv (.tmp 49) (.bool false) (fun _ => rfl) rfl rfl ?_
  refine wl_skip rfl ?_
  refine wl_skip rfl ?_
  refine wl_pick (.tmp 50) (.tmp 52) (.const (.bool false)) false (.bool false) (fun _ => rfl) rfl rfl rfl ?_
  refine w_nil ?_
  refine xn_then ?_
  refine w_condF rfl ?_
  refine w_skip ?_
  refine xn_then ?_
  refine w_seq ?_
  refine w_reg ?_
  refine wl_load 40 (.tmp 3) (pt k1 0) (rd a_b a_0 a_1 a_2 a_3 a_s) rfl rfl (run_row Q1 40 0 6 (rdl a_b a_0 a_1 a_2 a_3 a_s) rfl Try.underlying40 rfl sz40) rfl ?_
  refine wl_call 47 [(.tmp 55)] _ [rd a_b a_0 a_1 a_2 a_3 a_s] (.tuple #[rd na_b na_0 na_1 na_2 na_3 na_s, .int .i64 (0)]) rfl rfl (fun _ _ => by kernel_rfl) (n1 _) rfl ?_
  intro w10 hq
  replace Q1 := Q1.mo hq
  replace Q2 := Q2.mo hq
  replace Q3 := Q3.mo hq
  replace M := M.trans hq
  clear hq
  refine wl_mv (.tmp 56) (.tuple #[rd na_b na_0 na_1 na_2 na_3 na_s, .int .i64 (0)]) (fun _ => rfl) rfl rfl ?_
  refine wl_un (fun v => Instr.extract v 0) (.tmp 54) (.tuple #[rd na_b na_0 na_1 na_2 na_3 na_s, .int .i64 (0)]) (rd na_b na_0 na_1 na_2 na_3 na_s) (fun _ => rfl) rfl (by kernel_rfl) rfl ?_
  refine wl_un (fun v => Instr.extract v 1) (.tmp 54) (.tuple #[rd na_b na_0 na_1 na_2 na_3 na_s, .int .i64 (0)]) (.int .i64 (0)) (fun _ => rfl) rfl (by kernel_rfl) rfl ?_
  refine wl_alloc 40 #[.bool false, .int .u64 0, .int .u64 0, .int .u64 0, .int .u64 0, .int .i64 0] rfl (fun _ => by kernel_rfl) rfl ?_
  intro k4 w11 hk hz hq Q4
  have ne_k1_k4 : k1 ≠ k4 := by have := Q1.lt; omega
  have ne_k2_k4 : k2 ≠ k4 := by have := Q2.lt; omega
  have ne_k3_k4 : k3 ≠ k4 := by have := Q3.lt; omega
  have N_k4 : w.heap.size ≤ k4 := by have := M.size; omega
  replace Q1 := Q1.mo hq
  replace Q2 := Q2.mo hq
  replace Q3 := Q3.mo hq
  replace M := M.trans hq
  clear hk hz hq
  refine wl_st 40 (.tmp 10) (.tmp 57) k4 0 (rda na_b na_0 na_1 na_2 na_3 na_s) [.bool false, .int .u64 0, .int .u64 0, .int .u64 0, .int .u64 0, .int .i64 0] (rdl na_b na_0 na_1 na_2 na_3 na_s) Q4 rfl rfl rfl rfl rfl sz40 rfl rfl rfl ?_
  intro w12 hS Qn
  replace Q4 := Qn
  clear Qn
  replace Q1 := hS.other _ _ ne_k1_k4 Q1
  replace Q2 := hS.other _ _ ne_k2_k4 Q2
  replace Q3 := hS.other _ _ ne_k3_k4 Q3
  replace M := hS.mo _ N_k4 M
  clear hS
  refine wl_mv (.tmp 58) (.int .i64 (0)) (fun _ => rfl) rfl rfl ?_
  refine w_nil ?_
  refine xn_then ?_
  refine w_seq ?_
  refine w_reg ?_
  refine wl_load 40 (.tmp 4) (pt k2 0) (rd b_b b_0 b_1 b_2 b_3 b_s) rfl rfl (run_row Q2 40 0 6 (rdl b_b b_0 b_1 b_2 b_3 b_s) rfl Try.underlying40 rfl sz40) rfl ?_
  refine wl_call 47 [(.tmp 60)] _ [rd b_b b_0 b_1 b_2 b_3 b_s] (.tuple #[rd nb_b nb_0 nb_1 nb_2 nb_3 nb_s, .int .i64 (0)]) rfl rfl (fun _ _ => by kernel_rfl) (n2 _) rfl ?_
  intro w13 hq
  replace Q1 := Q1.mo hq
  replace Q2 := Q2.mo hq
  replace Q3 := Q3.mo hq
  replace Q4 := Q4.mo hq
  replace M := M.trans hq
  clear hq
  refine wl_mv (.tmp 61) (.tuple #[rd nb_b nb_0 nb_1 nb_2 nb_3 nb_s, .int .i64 (0)]) (fun _ => rfl) rfl rfl ?_
  refine wl_un (fun v => Instr.extract v 0) (.tmp 59) (.tuple #[rd nb_b nb_0 nb_1 nb_2 nb_3 nb_s, .int .i64 (0)]) (rd nb_b nb_0 nb_1 nb_2 nb_3 nb_s) (fun _ => rfl) rfl (by kernel_rfl) rfl ?_
  refine wl_un (fun v => Instr.extract v 1) (.tmp 59) (.tuple #[rd nb_b nb_0 nb_1 nb_2 nb_3 nb_s, .int .i64 (0)]) (.int .i64 (0)) (fun _ => rfl) rfl (by kernel_rfl) rfl ?_
  refine wl_alloc 40 #[.bool false, .int .u64 0, .int .u64 0, .int .u64 0, .int .u64 0, .int .i64 0] rfl (fun _ => by kernel_rfl) rfl ?_
  intro k5 w14 hk hz hq Q5
  have ne_k1_k5 : k1 ≠ k5 := by have := Q1.lt; omega
  have ne_k2_k5 : k2 ≠ k5 := by have := Q2.lt; omega
  have ne_k3_k5 : k3 ≠ k5 := by have := Q3.lt; omega
  have ne_k4_k5 : k4 ≠ k5 := by have := Q4.lt; omega
  have N_k5 : w.heap.size ≤ k5 := by have := M.size; omega
  replace Q1 := Q1.mo hq
  replace Q2 := Q2.mo hq
  replace Q3 := Q3.mo hq
  replace Q4 := Q4.mo hq
  replace M := M.trans hq
  clear hk hz hq
  refine wl_st 40 (.tmp 12) (.tmp 62) k5 0 (rda nb_b nb_0 nb_1 nb_2 nb_3 nb_s) [.bool false, .int .u64 0, .int .u64 0, .int .u64 0, .int .u64 0, .int .i64 0] (rdl nb_b nb_0 nb_1 nb_2 nb_3 nb_s) Q5 rfl rfl rfl rfl rfl sz40 rfl rfl rfl ?_
  intro w15 hS Qn
  replace Q5 := Qn
  clear Qn
  replace Q1 := hS.other _ _ ne_k1_k5 Q1
  replace Q2 := hS.other _ _ ne_k2_k5 Q2
  replace Q3 := hS.other _ _ ne_k3_k5 Q3
  replace Q4 := hS.other _ _ ne_k4_k5 Q4
  replace M := hS.mo _ N_k5 M
  clear hS
  refine wl_mv (.tmp 63) (.int .i64 (0)) (fun _ => rfl) rfl rfl ?_
  refine w_nil ?_
  refine xn_then ?_
  refine w_seq ?_
  refine w_seq ?_
  refine w_reg ?_
  refine wl_mv (.tmp 11) (.int .i64 (0)) (fun _ => rfl) rfl rfl ?_
  refine wl_bin (fun x y => do eqGuard .neq 32 (.tmp 64) (.const (.int .i64 (0))) x y; binOp .neq 32 x y) (.tmp 64) (.const (.int .i64 (0))) (.int .i64 (0)) (.int .i64 (0)) (.bool false) (fun _ => rfl) rfl rfl (by kernel_rfl) rfl ?_
  refine wl_mv (.tmp 65) (.bool false) (fun _ => rfl) rfl rfl ?_
  refine wl_mv (.tmp 13) (.int .i64 (0)) (fun _ => rfl) rfl rfl ?_
  refine wl_bin (fun x y => do eqGuard .neq 32 (.tmp 67) (.const (.int .i64 (0))) x y; binOp .neq 32 x y) (.tmp 67) (.const (.int .i64 (0))) (.int .i64 (0)) (.int .i64 (0)) (.bool false) (fun _ => rfl) rfl rfl (by kernel_rfl) rfl ?_
  refine wl_pick (.tmp 66) (.const (.bool true)) (.tmp 68) false (.bool false) (fun _ => rfl) rfl rfl rfl ?_
  refine wl_mv (.tmp 69) (.bool false) (fun _ => rfl) rfl rfl ?_
  refine wl_load 40 (.tmp 12) (pt k5 0) (rd nb_b nb_0 nb_1 nb_2 nb_3 nb_s) rfl rfl (run_row Q5 40 0 6 (rdl nb_b nb_0 nb_1 nb_2 nb_3 nb_s) rfl Try.underlying40 rfl sz40) rfl ?_
  refine wl_load 40 (.tmp 10) (pt k4 0) (rd na_b na_0 na_1 na_2 na_3 na_s) rfl rfl (run_row Q4 40 0 6 (rdl na_b na_0 na_1 na_2 na_3 na_s) rfl Try.underlying40 rfl sz40) rfl ?_
  refine wl_call 51 [(.tmp 71), (.tmp 72)] _ [rd nb_b nb_0 nb_1 nb_2 nb_3 nb_s, rd na_b na_0 na_1 na_2 na_3 na_s] (.int .i64 x) rfl rfl (fun _ _ => by kernel_rfl) (n3 _) rfl ?_
  intro w16 hq
  replace Q1 := Q1.mo hq
  replace Q2 := Q2.mo hq
  replace Q3 := Q3.mo hq
  replace Q4 := Q4.mo hq
  replace Q5 := Q5.mo hq
  replace M := M.trans hq
  clear hq
  refine wl_mv (.tmp 7) (.int .i64 x) (fun _ => rfl) rfl rfl ?_
  refine wl_bin (fun x y => do eqGuard .neq 3 (.tmp 73) (.tmp 74) x y; binOp .neq 3 x y) (.tmp 73) (.tmp 74) (.int .i64 x) (.int .i64 x) (.bool false) (fun _ => rfl) rfl rfl (neq3_run (by simp) _ _ _) rfl ?_
  refine wl_pick (.tmp 70) (.const (.bool true)) (.tmp 75) false (.bool false) (fun _ => rfl) rfl rfl rfl ?_
  refine w_nil ?_
  refine xn_then ?_
  refine w_condF rfl ?_
  refine w_skip ?_
  refine xn_then ?_
  refine w_seq ?_
  refine w_reg ?_
  refine wl_load 40 (.tmp 3) (pt k1 0) (rd a_b a_0 a_1 a_2 a_3 a_s) rfl rfl (run_row Q1 40 0 6 (rdl a_b a_0 a_1 a_2 a_3 a_s) rfl Try.underlying40 rfl sz40) rfl ?_
  refine wl_call 45 [(.tmp 78)] _ [rd a_b a_0 a_1 a_2 a_3 a_s] (.tuple #[rd t_b t_0 t_1 t_2 t_3 t_s, .int .i64 (0)]) rfl rfl (fun _ _ => by kernel_rfl) (t1 _) rfl ?_
  intro w17 hq
  replace Q1 := Q1.mo hq
  replace Q2 := Q2.mo hq
  replace Q3 := Q3.mo hq
  replace Q4 := Q4.mo hq
  replace Q5 := Q5.mo hq
  replace M := M.trans hq
  clear hq
  refine wl_mv (.tmp 79) (.tuple #[rd t_b t_0 t_1 t_2 t_3 t_s, .int .i64 (0)]) (fun _ => rfl) rfl rfl ?_
  refine wl_un (fun v => Instr.extract v 0) (.tmp 77) (.tuple #[rd t_b t_0 t_1 t_2 t_3 t_s, .int .i64 (0)]) (rd t_b t_0 t_1 t_2 t_3 t_s) (fun _ => rfl) rfl (by kernel_rfl) rfl ?_
  refine wl_un (fun v => Instr.extract v 1) (.tmp 77) (.tuple #[rd t_b t_0 t_1 t_2 t_3 t_s, .int .i64 (0)]) (.int .i64 (0)) (fun _ => rfl) rfl (by kernel_rfl) rfl ?_
  refine wl_alloc 40 #[.bool false, .int .u64 0, .int .u64 0, .int .u64 0, .int .u64 0, .int .i64 0] rfl (fun _ => by kernel_rfl) rfl ?_
  intro k6 w18 hk hz hq Q6
  have ne_k1_k6 : k1 ≠ k6 := by have := Q1.lt; omega
  have ne_k2_k6 : k2 ≠ k6 := by have := Q2.lt; omega
  have ne_k3_k6 : k3 ≠ k6 := by have := Q3.lt; omega
  have ne_k4_k6 : k4 ≠ k6 := by have := Q4.lt; omega
  have ne_k5_k6 : k5 ≠ k6 := by have := Q5.lt; omega
  have N_k6 : w.heap.size ≤ k6 := by have := M.size; omega
  replace Q1 := Q1.mo hq
  replace Q2 := Q2.mo hq
  replace Q3 := Q3.mo hq
  replace Q4 := Q4.mo hq
  replace Q5 := Q5.mo hq
  replace M := M.trans hq
  clear hk hz hq
  refine wl_st 40 (.tmp 14) (.tmp 80) k6 0 (rda t_b t_0 t_1 t_2 t_3 t_s) [.bool false, .int .u64 0, .int .u64 0, .int .u64 0, .int .u64 0, .int .i64 0] (rdl t_b t_0 t_1 t_2 t_3 t_s) Q6 rfl rfl rfl rfl rfl sz40 rfl rfl rfl ?_
  intro w19 hS Qn
  replace Q6 := Qn
  clear Qn
  replace Q1 := hS.other _ _ ne_k1_k6 Q1
  replace Q2 := hS.other _ _ ne_k2_k6 Q2
  replace Q3 := hS.other _ _ ne_k3_k6 Q3
  replace Q4 := hS.other _ _ ne_k4_k6 Q4
  replace Q5 := hS.other _ _ ne_k5_k6 Q5
  replace M := hS.mo _ N_k6 M
  clear hS
  refine wl_mv (.tmp 81) (.int .i64 (0)) (fun _ => rfl) rfl rfl ?_
  refine w_nil ?_
  refine xn_then ?_
  refine w_seq ?_
  refine w_seq ?_
  refine w_reg ?_
  refine wl_mv (.tmp 11) (.int .i64 (0)) (fun _ => rfl) rfl rfl ?_
  refine wl_bin (fun x y => do eqGuard .neq 32 (.tmp 82) (.const (.int .i64 (0))) x y; binOp .neq 32 x y) (.tmp 82) (.const (.int .i64 (0))) (.int .i64 (0)) (.int .i64 (0)) (.bool false) (fun _ => rfl) rfl rfl (by kernel_rfl) rfl ?_
  refine wl_mv (.tmp 83) (.bool false) (fun _ => rfl) rfl rfl ?_
  refine wl_load 40 (.tmp 3) (pt k1 0) (rd a_b a_0 a_1 a_2 a_3 a_s) rfl rfl (run_row Q1 40 0 6 (rdl a_b a_0 a_1 a_2 a_3 a_s) rfl Try.underlying40 rfl sz40) rfl ?_
  refine wl_load 40 (.tmp 14) (pt k6 0) (rd t_b t_0 t_1 t_2 t_3 t_s) rfl rfl (run_row Q6 40 0 6 (rdl t_b t_0 t_1 t_2 t_3 t_s) rfl Try.underlying40 rfl sz40) rfl ?_
  refine wl_call 51 [(.tmp 85), (.tmp 86)] _ [rd a_b a_0 a_1 a_2 a_3 a_s, rd t_b t_0 t_1 t_2 t_3 t_s] (.int .i64 (0)) rfl rfl (fun _ _ => by kernel_rfl) (t2 _) rfl ?_
  intro w20 hq
  replace Q1 := Q1.mo hq
  replace Q2 := Q2.mo hq
  replace Q3 := Q3.mo hq
  replace Q4 := Q4.mo hq
  replace Q5 := Q5.mo hq
  replace Q6 := Q6.mo hq
  replace M := M.trans hq
  clear hq
  refine wl_bin (fun x y => do eqGuard .neq 3 (.tmp 87) (.const (.int .i64 (0))) x y; binOp .neq 3 x y) (.tmp 87) (.const (.int .i64 (0))) (.int .i64 (0)) (.int .i64 (0)) (.bool false) (fun _ => rfl) rfl rfl (by kernel_rfl) rfl ?_
  refine wl_pick (.tmp 84) (.const (.bool true)) (.tmp 88) false (.bool false) (fun _ => rfl) rfl rfl rfl ?_
  refine wl_mv (.tmp 89) (.bool false) (fun _ => rfl) rfl rfl ?_
  refine wl_un (fun v => Instr.fieldAt 40 v 2) (.tmp 14) (pt k6 0) (pt k6 5) (fun _ => rfl) rfl (by kernel_rfl) rfl ?_
  refine wl_load 3 (.tmp 91) (pt k6 5) (.int .i64 t_s) rfl rfl (run_one Q6 3 5 rfl Try.underlying3 rfl) rfl ?_
  refine wl_un (fun v => Instr.fieldAt 40 v 2) (.tmp 3) (pt k1 0) (pt k1 5) (fun _ => rfl) rfl (by kernel_rfl) rfl ?_
  refine wl_load 3 (.tmp 93) (pt k1 5) (.int .i64 a_s) rfl rfl (run_one Q1 3 5 rfl Try.underlying3 rfl) rfl ?_
  refine wl_bin (fun x y => do eqGuard .gtr 3 (.tmp 92) (.tmp 94) x y; binOp .gtr 3 x y) (.tmp 92) (.tmp 94) (.int .i64 t_s) (.int .i64 a_s) (.bool false) (fun _ => rfl) rfl rfl (gtr3_run ht _ _ _) rfl ?_
  refine wl_pick (.tmp 90) (.const (.bool true)) (.tmp 95) false (.bool false) (fun _ => rfl) rfl rfl rfl ?_
  refine w_nil ?_
  refine xn_then ?_
  refine w_condF rfl ?_
  refine w_skip ?_
  refine xn_then ?_
  refine w_seq ?_
  refine w_reg ?_
  refine wl_load 40 (.tmp 3) (pt k1 0) (rd a_b a_0 a_1 a_2 a_3 a_s) rfl rfl (run_row Q1 40 0 6 (rdl a_b a_0 a_1 a_2 a_3 a_s) rfl Try.underlying40 rfl sz40) rfl ?_
  refine wl_load 40 (.tmp 5) (pt k3 0) (rd c_b c_0 c_1 c_2 c_3 c_s) rfl rfl (run_row Q3 40 0 6 (rdl c_b c_0 c_1 c_2 c_3 c_s) rfl Try.underlying40 rfl sz40) rfl ?_
  refine wl_call 35 [(.tmp 98), (.tmp 99)] _ [rd a_b a_0 a_1 a_2 a_3 a_s, rd c_b c_0 c_1 c_2 c_3 c_s] (.tuple #[rd p_b p_0 p_1 p_2 p_3 p_s, .int .i64 (0)]) rfl rfl (fun _ _ => by kernel_rfl) (a1 _) rfl ?_
  intro w21 hq
  replace Q1 := Q1.mo hq
  replace Q2 := Q2.mo hq
  replace Q3 := Q3.mo hq
  replace Q4 := Q4.mo hq
  replace Q5 := Q5.mo hq
  replace Q6 := Q6.mo hq
  replace M := M.trans hq
  clear hq
  refine wl_mv (.tmp 100) (.tuple #[rd p_b p_0 p_1 p_2 p_3 p_s, .int .i64 (0)]) (fun _ => rfl) rfl rfl ?_
  refine wl_un (fun v => Instr.extract v 0) (.tmp 97) (.tuple #[rd p_b p_0 p_1 p_2 p_3 p_s, .int .i64 (0)]) (rd p_b p_0 p_1 p_2 p_3 p_s) (fun _ => rfl) rfl (by kernel_rfl) rfl ?_
  refine wl_un (fun v => Instr.extract v 1) (.tmp 97) (.tuple #[rd p_b p_0 p_1 p_2 p_3 p_s, .int .i64 (0)]) (.int .i64 (0)) (fun _ => rfl) rfl (by kernel_rfl) rfl ?_
  refine wl_alloc 40 #[.bool false, .int .u64 0, .int .u64 0, .int .u64 0, .int .u64 0, .int .i64 0] rfl (fun _ => by kernel_rfl) rfl ?_
  intro k7 w22 hk hz hq Q7
  have ne_k1_k7 : k1 ≠ k7 := by have := Q1.lt; omega
  have ne_k2_k7 : k2 ≠ k7 := by have := Q2.lt; omega
  have ne_k3_k7 : k3 ≠ k7 := by have := Q3.lt; omega
  have ne_k4_k7 : k4 ≠ k7 := by have := Q4.lt; omega
  have ne_k5_k7 : k5 ≠ k7 := by have := Q5.lt; omega
  have ne_k6_k7 : k6 ≠ k7 := by have := Q6.lt; omega
  have N_k7 : w.heap.size ≤ k7 := by have := M.size; omega
  replace Q1 := Q1.mo hq
  replace Q2 := Q2.mo hq
  replace Q3 := Q3.mo hq
  replace Q4 := Q4.mo hq
  replace Q5 := Q5.mo hq
  replace Q6 := Q6.mo hq
  replace M := M.trans hq
  clear hk hz hq
  refine wl_st 40 (.tmp 15) (.tmp 101) k7 0 (rda p_b p_0 p_1 p_2 p_3 p_s) [.bool false, .int .u64 0, .int .u64 0, .int .u64 0, .int .u64 0, .int .i64 0] (rdl p_b p_0 p_1 p_2 p_3 p_s) Q7 rfl rfl rfl rfl rfl sz40 rfl rfl rfl ?_
  intro w23 hS Qn
  replace Q7 := Qn
  clear Qn
  replace Q1 := hS.other _ _ ne_k1_k7 Q1
  replace Q2 := hS.other _ _ ne_k2_k7 Q2
  replace Q3 := hS.other _ _ ne_k3_k7 Q3
  replace Q4 := hS.other _ _ ne_k4_k7 Q4
  replace Q5 := hS.other _ _ ne_k5_k7 Q5
  replace Q6 := hS.other _ _ ne_k6_k7 Q6
  replace M := hS.mo _ N_k7 M
  clear hS
  refine wl_mv (.tmp 102) (.int .i64 (0)) (fun _ => rfl) rfl rfl ?_
  refine w_nil ?_
  refine xn_then ?_
  refine w_seq ?_
  refine w_reg ?_
  refine wl_load 40 (.tmp 4) (pt k2 0) (rd b_b b_0 b_1 b_2 b_3 b_s) rfl rfl (run_row Q2 40 0 6 (rdl b_b b_0 b_1 b_2 b_3 b_s) rfl Try.underlying40 rfl sz40) rfl ?_
  refine wl_load 40 (.tmp 5) (pt k3 0) (rd c_b c_0 c_1 c_2 c_3 c_s) rfl rfl (run_row Q3 40 0 6 (rdl c_b c_0 c_1 c_2 c_3 c_s) rfl Try.underlying40 rfl sz40) rfl ?_
  refine wl_call 35 [(.tmp 104), (.tmp 105)] _ [rd b_b b_0 b_1 b_2 b_3 b_s, rd c_b c_0 c_1 c_2 c_3 c_s] (.tuple #[rd q_b q_0 q_1 q_2 q_3 q_s, .int .i64 e]) rfl rfl (fun _ _ => by kernel_rfl) (a2 _) rfl ?_
  intro w24 hq
  replace Q1 := Q1.mo hq
  replace Q2 := Q2.mo hq
  replace Q3 := Q3.mo hq
  replace Q4 := Q4.mo hq
  replace Q5 := Q5.mo hq
  replace Q6 := Q6.mo hq
  replace Q7 := Q7.mo hq
  replace M := M.trans hq
  clear hq
  refine wl_mv (.tmp 106) (.tuple #[rd q_b q_0 q_1 q_2 q_3 q_s, .int .i64 e]) (fun _ => rfl) rfl rfl ?_
  refine wl_un (fun v => Instr.extract v 0) (.tmp 103) (.tuple #[rd q_b q_0 q_1 q_2 q_3 q_s, .int .i64 e]) (rd q_b q_0 q_1 q_2 q_3 q_s) (fun _ => rfl) rfl (by kernel_rfl) rfl ?_
  refine wl_un (fun v => Instr.extract v 1) (.tmp 103) (.tuple #[rd q_b q_0 q_1 q_2 q_3 q_s, .int .i64 e]) (.int .i64 e) (fun _ => rfl) rfl (by kernel_rfl) rfl ?_
  refine wl_alloc 40 #[.bool false, .int .u64 0, .int .u64 0, .int .u64 0, .int .u64 0, .int .i64 0] rfl (fun _ => by kernel_rfl) rfl ?_
  intro k8 w25 hk hz hq Q8
  have ne_k1_k8 : k1 ≠ k8 := by have := Q1.lt; omega
  have ne_k2_k8 : k2 ≠ k8 := by have := Q2.lt; omega
  have ne_k3_k8 : k3 ≠ k8 := by have := Q3.lt; omega
  have ne_k4_k8 : k4 ≠ k8 := by have := Q4.lt; omega
  have ne_k5_k8 : k5 ≠ k8 := by have := Q5.lt; omega
  have ne_k6_k8 : k6 ≠ k8 := by have := Q6.lt; omega
  have ne_k7_k8 : k7 ≠ k8 := by have := Q7.lt; omega
  have N_k8 : w.heap.size ≤ k8 := by have := M.size; omega
  replace Q1 := Q1.mo hq
  replace Q2 := Q2.mo hq
  replace Q3 := Q3.mo hq
  replace Q4 := Q4.mo hq
  replace Q5 := Q5.mo hq
  replace Q6 := Q6.mo hq
  replace Q7 := Q7.mo hq
  replace M := M.trans hq
  clear hk hz hq
  refine wl_st 40 (.tmp 16) (.tmp 107) k8 0 (rda q_b q_0 q_1 q_2 q_3 q_s) [.bool false, .int .u64 0, .int .u64 0, .int .u64 0, .int .u64 0, .int .i64 0] (rdl q_b q_0 q_1 q_2 q_3 q_s) Q8 rfl rfl rfl rfl rfl sz40 rfl rfl rfl ?_
  intro w26 hS Qn
  replace Q8 := Qn
  clear Qn
  replace Q1 := hS.other _ _ ne_k1_k8 Q1
  replace Q2 := hS.other _ _ ne_k2_k8 Q2
  replace Q3 := hS.other _ _ ne_k3_k8 Q3
  replace Q4 := hS.other _ _ ne_k4_k8 Q4
  replace Q5 := hS.other _ _ ne_k5_k8 Q5
  replace Q6 := hS.other _ _ ne_k6_k8 Q6
  replace Q7 := hS.other _ _ ne_k7_k8 Q7
  replace M := hS.mo _ N_k8 M
  clear hS
  refine wl_mv (.tmp 108) (.int .i64 e) (fun _ => rfl) rfl rfl ?_
  refine w_nil ?_
  refine xn_then ?_
  refine w_seq ?_
  refine w_seq ?_
  refine w_reg ?_
  refine wl_mv (.tmp 11) (.int .i64 (0)) (fun _ => rfl) rfl rfl ?_
  refine wl_bin (fun x y => do eqGuard .neq 32 (.tmp 109) (.const (.int .i64 (0))) x y; binOp .neq 32 x y) (.tmp 109) (.const (.int .i64 (0))) (.int .i64 (0)) (.int .i64 (0)) (.bool false) (fun _ => rfl) rfl rfl (by kernel_rfl) rfl ?_
  refine wl_mv (.tmp 110) (.bool false) (fun _ => rfl) rfl rfl ?_
  refine wl_mv (.tmp 13) (.int .i64 e) (fun _ => rfl) rfl rfl ?_
  refine wl_bin (fun x y => do eqGuard .neq 32 (.tmp 112) (.const (.int .i64 (0))) x y; binOp .neq 32 x y) (.tmp 112) (.const (.int .i64 (0))) (.int .i64 e) (.int .i64 (0)) (.bool true) (fun _ => rfl) rfl rfl (neq32_run he _ _ _) rfl ?_
  refine wl_pick (.tmp 111) (.const (.bool true)) (.tmp 113) false (.bool true) (fun _ => rfl) rfl rfl rfl ?_
  refine w_nil ?_
  refine xn_then ?_
  refine w_condT rfl ?_
  refine w_seq ?_
  refine w_reg ?_
  refine wl_mv (.const (.bool true)) (.bool true) (fun _ => rfl) rfl rfl ?_
  refine w_nil ?_
  refine xn_then ?_
  refine w_ret ?_
  refine xr_then ?_
  exact w_ret1 _ (.bool true) rfl rfl ⟨rfl, M⟩
theorem order_b_ok (a_b : Bool) (a_0 a_1 a_2 a_3 a_s : Int) (b_b : Bool) (b_0 b_1 b_2 b_3 b_s : Int) (c_b : Bool) (c_0 c_1 c_2 c_3 c_s : Int) (na_b : Bool) (na_0 na_1 na_2 na_3 na_s : Int) (nb_b : Bool) (nb_0 nb_1 nb_2 nb_3 nb_s : Int) (t_b : Bool) (t_0 t_1 t_2 t_3 t_s : Int) (p_b : Bool) (p_0 p_1 p_2 p_3 p_s : Int) (q_b : Bool) (q_0 q_1 q_2 q_3 q_s : Int) (x y z : Int) (w : World) (h1 : ∀ w, Calls Try.prog 51 #[rd a_b a_0 a_1 a_2 a_3 a_s, rd b_b b_0 b_1 b_2 b_3 b_s] w fun e' w' => e' = .returned (.int .i64 x) ∧ Mo w w') (h2 : ∀ w, Calls Try.prog 51 #[rd b_b b_0 b_1 b_2 b_3 b_s, rd c_b c_0 c_1 c_2 c_3 c_s] w fun e' w' => e' = .returned (.int .i64 y) ∧ Mo w w') (h3 : ∀ w, Calls Try.prog 51 #[rd a_b a_0 a_1 a_2 a_3 a_s, rd c_b c_0 c_1 c_2 c_3 c_s] w fun e' w' => e' = .returned (.int .i64 z) ∧ Mo w w') (g1 : ∀ w, Calls Try.prog 29 #[rd a_b a_0 a_1 a_2 a_3 a_s] w fun e' w' => e' = .returned (.int .i64 (0)) ∧ Mo w w') (g2 : ∀ w, Calls Try.prog 29 #[rd b_b b_0 b_1 b_2 b_3 b_s] w fun e' w' => e' = .returned (.int .i64 (0)) ∧ Mo w w') (g3 : ∀ w, Calls Try.prog 29 #[rd c_b c_0 c_1 c_2 c_3 c_s] w fun e' w' => e' = .returned (.int .i64 (0)) ∧ Mo w w') (hx : decide (x ≤ 0) = true) (hy : decide (y ≤ 0) = false) (n1 : ∀ w, Calls Try.prog 47 #[rd a_b a_0 a_1 a_2 a_3 a_s] w fun e' w' => e' = .returned (.tuple #[rd na_b na_0 na_1 na_2 na_3 na_s, .int .i64 (0)]) ∧ Mo w w') (n2 : ∀ w, Calls Try.prog 47 #[rd b_b b_0 b_1 b_2 b_3 b_s] w fun e' w' => e' = .returned (.tuple #[rd nb_b nb_0 nb_1 nb_2 nb_3 nb_s, .int .i64 (0)]) ∧ Mo w w') (n3 : ∀ w, Calls Try.prog 51 #[rd nb_b nb_0 nb_1 nb_2 nb_3 nb_s, rd na_b na_0 na_1 na_2 na_3 na_s] w fun e' w' => e' = .returned (.int .i64 x) ∧ Mo w w') (t1 : ∀ w, Calls Try.prog 45 #[rd a_b a_0 a_1 a_2 a_3 a_s] w fun e' w' => e' = .returned (.tuple #[rd t_b t_0 t_1 t_2 t_3 t_s, .int .i64 (0)]) ∧ Mo w w') (t2 : ∀ w, Calls Try.prog 51 #[rd a_b a_0 a_1 a_2 a_3 a_s, rd t_b t_0 t_1 t_2 t_3 t_s] w fun e' w' => e' = .returned (.int .i64 (0)) ∧ Mo w w') (ht : decide (t_s > a_s) = false) (a1 : ∀ w, Calls Try.prog 35 #[rd a_b a_0 a_1 a_2 a_3 a_s, rd c_b c_0 c_1 c_2 c_3 c_s] w fun e' w' => e' = .returned (.tuple #[rd p_b p_0 p_1 p_2 p_3 p_s, .int .i64 (0)]) ∧ Mo w w') (a2 : ∀ w, Calls Try.prog 35 #[rd b_b b_0 b_1 b_2 b_3 b_s, rd c_b c_0 c_1 c_2 c_3 c_s] w fun e' w' => e' = .returned (.tuple #[rd q_b q_0 q_1 q_2 q_3 q_s, .int .i64 (0)]) ∧ Mo w w') (a3 : ∀ w, Calls Try.prog 51 #[rd p_b p_0 p_1 p_2 p_3 p_s, rd q_b q_0 q_1 q_2 q_3 q_s] w fun e' w' => e' = .returned (.int .i64 x) ∧ Mo w w') :
    Calls Try.prog 14 #[rd a_b a_0 a_1 a_2 a_3 a_s, rd b_b b_0 b_1 b_2 b_3 b_s, rd c_b c_0 c_1 c_2 c_3 c_s] w fun e' w' => e' = .returned (.bool true) ∧ Mo w w' := by
  refine w_enter 120 Try.func14 Try.ntmps14 rfl rfl ?_
  have M : Mo w w := Mo.refl _
  refine w_seq ?_
  refine w_reg ?_
  refine wl_box 40 (.tmp 0) (rd a_b a_0 a_1 a_2 a_3 a_s) ((rda a_b a_0 a_1 a_2 a_3 a_s)) rfl rfl (fun _ => by kernel_rfl) rfl ?_
  intro k1 w1 hk hz hq Q1
  have N_k1 : w.heap.size ≤ k1 := by have := M.size; omega
  replace M := M.trans hq
  clear hk hz hq
  refine wl_box 40 (.tmp 1) (rd b_b b_0 b_1 b_2 b_3 b_s) ((rda b_b b_0 b_1 b_2 b_3 b_s)) rfl rfl (fun _ => by kernel_rfl) rfl ?_
  intro k2 w2 hk hz hq Q2
  have ne_k1_k2 : k1 ≠ k2 := by have := Q1.lt; omega
  have N_k2 : w.heap.size ≤ k2 := by have := M.size; omega
  replace Q1 := Q1.mo hq
  replace M := M.trans hq
  clear hk hz hq
  refine wl_box 40 (.tmp 2) (rd c_b c_0 c_1 c_2 c_3 c_s) ((rda c_b c_0 c_1 c_2 c_3 c_s)) rfl rfl (fun _ => by kernel_rfl) rfl ?_
  intro k3 w3 hk hz hq Q3
  have ne_k1_k3 : k1 ≠ k3 := by have := Q1.lt; omega
  have ne_k2_k3 : k2 ≠ k3 := by have := Q2.lt; omega
  have N_k3 : w.heap.size ≤ k3 := by have := M.size; omega
  replace Q1 := Q1.mo hq
  replace Q2 := Q2.mo hq
  replace M := M.trans hq
  clear hk hz hq
  refine wl_mv (.const (.bool false)) (.bool false) (fun _ => rfl) rfl rfl ?_
  refine w_nil ?_
  refine xn_then ?_
  refine w_seq ?_
  refine w_any 8 [.inl (rd a_b a_0 a_1 a_2 a_3 a_s), .inl (rd b_b b_0 b_1 b_2 b_3 b_s), .inl (.int .i64 x), .inl (rd b_b b_0 b_1 b_2 b_3 b_s), .inl (rd c_b c_0 c_1 c_2 c_3 c_s), .inl (.int .i64 y), .inl (rd a_b a_0 a_1 a_2 a_3 a_s), .inl (rd c_b c_0 c_1 c_2 c_3 c_s)] [] (by kernel_rfl) (by kernel_rfl) (by kernel_rfl) (by kernel_rfl) rfl (by kernel_rfl) (by kernel_rfl) late_nil ?_ ?_ ?_
  · exact Ds.none rfl
  · refine ea_cons ?_ (ea_cons ?_ (ea_cons ?_ (ea_cons ?_ (ea_cons ?_ (ea_cons ?_ (ea_cons ?_ (ea_cons ?_ (ea_nil))))))))
    · exact og_eq (rd a_b a_0 a_1 a_2 a_3 a_s) rfl (fun f wf hq hd K hK => have Q1 := Q1.mo hq; go_run rfl (wo_load 40 (.tmp 3) (pt k1 0) (rd a_b a_0 a_1 a_2 a_3 a_s) rfl rfl (run_row Q1 40 0 6 (rdl a_b a_0 a_1 a_2 a_3 a_s) rfl Try.underlying40 rfl sz40) (hK _ (Mo.refl _))))
    · exact og_eq (rd b_b b_0 b_1 b_2 b_3 b_s) rfl (fun f wf hq hd K hK => have Q2 := Q2.mo hq; go_run rfl (wo_load 40 (.tmp 4) (pt k2 0) (rd b_b b_0 b_1 b_2 b_3 b_s) rfl rfl (run_row Q2 40 0 6 (rdl b_b b_0 b_1 b_2 b_3 b_s) rfl Try.underlying40 rfl sz40) (hK _ (Mo.refl _))))
    · exact og_eq (.int .i64 x) rfl (fun f wf hq hd K hK => go_run rfl (wo_call 51 [(.tmp 17), (.tmp 18)] _ [rd a_b a_0 a_1 a_2 a_3 a_s, rd b_b b_0 b_1 b_2 b_3 b_s] (.int .i64 x) rfl (li2 (hd 0 rfl) (hd 1 rfl)) (fun _ _ => by kernel_rfl) (h1 _) hK))
    · exact og_eq (rd b_b b_0 b_1 b_2 b_3 b_s) rfl (fun f wf hq hd K hK => have Q2 := Q2.mo hq; go_run rfl (wo_load 40 (.tmp 4) (pt k2 0) (rd b_b b_0 b_1 b_2 b_3 b_s) rfl rfl (run_row Q2 40 0 6 (rdl b_b b_0 b_1 b_2 b_3 b_s) rfl Try.underlying40 rfl sz40) (hK _ (Mo.refl _))))
    · exact og_eq (rd c_b c_0 c_1 c_2 c_3 c_s) rfl (fun f wf hq hd K hK => have Q3 := Q3.mo hq; go_run rfl (wo_load 40 (.tmp 5) (pt k3 0) (rd c_b c_0 c_1 c_2 c_3 c_s) rfl rfl (run_row Q3 40 0 6 (rdl c_b c_0 c_1 c_2 c_3 c_s) rfl Try.underlying40 rfl sz40) (hK _ (Mo.refl _))))
    · exact og_eq (.int .i64 y) rfl (fun f wf hq hd K hK => go_run rfl (wo_call 51 [(.tmp 20), (.tmp 21)] _ [rd b_b b_0 b_1 b_2 b_3 b_s, rd c_b c_0 c_1 c_2 c_3 c_s] (.int .i64 y) rfl (li2 (hd 3 rfl) (hd 4 rfl)) (fun _ _ => by kernel_rfl) (h2 _) hK))
    · exact og_eq (rd a_b a_0 a_1 a_2 a_3 a_s) rfl (fun f wf hq hd K hK => have Q1 := Q1.mo hq; go_run rfl (wo_load 40 (.tmp 3) (pt k1 0) (rd a_b a_0 a_1 a_2 a_3 a_s) rfl rfl (run_row Q1 40 0 6 (rdl a_b a_0 a_1 a_2 a_3 a_s) rfl Try.underlying40 rfl sz40) (hK _ (Mo.refl _))))
    · exact og_eq (rd c_b c_0 c_1 c_2 c_3 c_s) rfl (fun f wf hq hd K hK => have Q3 := Q3.mo hq; go_run rfl (wo_load 40 (.tmp 5) (pt k3 0) (rd c_b c_0 c_1 c_2 c_3 c_s) rfl rfl (run_row Q3 40 0 6 (rdl c_b c_0 c_1 c_2 c_3 c_s) rfl Try.underlying40 rfl sz40) (hK _ (Mo.refl _))))
  intro kf4 w4 hq hR hne
  replace Q1 := Q1.mo hq
  replace Q2 := Q2.mo hq
  replace Q3 := Q3.mo hq
  replace M := M.trans hq
  clear hq hR hne
  refine wl_call 51 [(.tmp 23), (.tmp 24)] _ [rd a_b a_0 a_1 a_2 a_3 a_s, rd c_b c_0 c_1 c_2 c_3 c_s] (.int .i64 z) rfl rfl (fun _ _ => by kernel_rfl) (h3 _) rfl ?_
  intro w5 hq
  replace Q1 := Q1.mo hq
  replace Q2 := Q2.mo hq
  replace Q3 := Q3.mo hq
  replace M := M.trans hq
  clear hq
  refine wl_mv (.tmp 19) (.int .i64 x) (fun _ => rfl) rfl rfl ?_
  refine wl_mv (.tmp 22) (.int .i64 y) (fun _ => rfl) rfl rfl ?_
  refine wl_mv (.tmp 25) (.int .i64 z) (fun _ => rfl) rfl rfl ?_
  refine w_nil ?_
  refine xn_then ?_
  refine w_seq ?_
  refine w_seq ?_
  refine w_reg ?_
  refine wl_call 28 [] _ [] (.bool true) rfl rfl (fun _ _ => by kernel_rfl) (begun_n _) rfl ?_
  intro w6 hq
  replace Q1 := Q1.mo hq
  replace Q2 := Q2.mo hq
  replace Q3 := Q3.mo hq
  replace M := M.trans hq
  clear hq
  refine wl_un (fun v => Op.unary .not v) (.tmp 26) (.bool true) (.bool false) (fun _ => rfl) rfl (by kernel_rfl) rfl ?_
  refine wl_mv (.tmp 27) (.bool false) (fun _ => rfl) rfl rfl ?_
  refine wl_load 40 (.tmp 3) (pt k1 0) (rd a_b a_0 a_1 a_2 a_3 a_s) rfl rfl (run_row Q1 40 0 6 (rdl a_b a_0 a_1 a_2 a_3 a_s) rfl Try.underlying40 rfl sz40) rfl ?_
  refine wl_call 29 [(.tmp 29)] _ [rd a_b a_0 a_1 a_2 a_3 a_s] (.int .i64 (0)) rfl rfl (fun _ _ => by kernel_rfl) (g1 _) rfl ?_
  intro w7 hq
  replace Q1 := Q1.mo hq
  replace Q2 := Q2.mo hq
  replace Q3 := Q3.mo hq
  replace M := M.trans hq
  clear hq
  refine wl_bin (fun x y => do eqGuard .neq 32 (.tmp 30) (.const (.int .i64 (0))) x y; binOp .neq 32 x y) (.tmp 30) (.const (.int .i64 (0))) (.int .i64 (0)) (.int .i64 (0)) (.bool false) (fun _ => rfl) rfl rfl (by kernel_rfl) rfl ?_
  refine wl_pick (.tmp 28) (.const (.bool true)) (.tmp 31) false (.bool false) (fun _ => rfl) rfl rfl rfl ?_
  refine wl_mv (.tmp 32) (.bool false) (fun _ => rfl) rfl rfl ?_
  refine wl_load 40 (.tmp 4) (pt k2 0) (rd b_b b_0 b_1 b_2 b_3 b_s) rfl rfl (run_row Q2 40 0 6 (rdl b_b b_0 b_1 b_2 b_3 b_s) rfl Try.underlying40 rfl sz40) rfl ?_
  refine wl_call 29 [(.tmp 34)] _ [rd b_b b_0 b_1 b_2 b_3 b_s] (.int .i64 (0)) rfl rfl (fun _ _ => by kernel_rfl) (g2 _) rfl ?_
  intro w8 hq
  replace Q1 := Q1.mo hq
  replace Q2 := Q2.mo hq
  replace Q3 := Q3.mo hq
  replace M := M.trans hq
  clear hq
  refine wl_bin (fun x y => do eqGuard .neq 32 (.tmp 35) (.const (.int .i64 (0))) x y; binOp .neq 32 x y) (.tmp 35) (.const (.int .i64 (0))) (.int .i64 (0)) (.int .i64 (0)) (.bool false) (fun _ => rfl) rfl rfl (by kernel_rfl) rfl ?_
  refine wl_pick (.tmp 33) (.const (.bool true)) (.tmp 36) false (.bool false) (fun _ => rfl) rfl rfl rfl ?_
  refine wl_mv (.tmp 37) (.bool false) (fun _ => rfl) rfl rfl ?_
  refine wl_load 40 (.tmp 5) (pt k3 0) (rd c_b c_0 c_1 c_2 c_3 c_s) rfl rfl (run_row Q3 40 0 6 (rdl c_b c_0 c_1 c_2 c_3 c_s) rfl Try.underlying40 rfl sz40) rfl ?_
  refine wl_call 29 [(.tmp 39)] _ [rd c_b c_0 c_1 c_2 c_3 c_s] (.int .i64 (0)) rfl rfl (fun _ _ => by kernel_rfl) (g3 _) rfl ?_
  intro w9 hq
  replace Q1 := Q1.mo hq
  replace Q2 := Q2.mo hq
  replace Q3 := Q3.mo hq
  replace M := M.trans hq
  clear hq
  refine wl_bin (fun x y => do eqGuard .neq 32 (.tmp 40) (.const (.int .i64 (0))) x y; binOp .neq 32 x y) (.tmp 40) (.const (.int .i64 (0))) (.int .i64 (0)) (.int .i64 (0)) (.bool false) (fun _ => rfl) rfl rfl (by kernel_rfl) rfl ?_
  refine wl_pick (.tmp 38) (.const (.bool true)) (.tmp 41) false (.bool false) (fun _ => rfl) rfl rfl rfl ?_
  refine w_nil ?_
  refine xn_then ?_
  refine w_condF rfl ?_
  refine w_skip ?_
  refine xn_then ?_
  refine w_seq ?_
  refine w_seq ?_
  refine w_reg ?_
  refine wl_mv (.tmp 7) (.int .i64 x) (fun _ => rfl) rfl rfl ?_
  refine wl_bin (fun x y => do eqGuard .leq 3 (.tmp 44) (.const (.int .i64 (0))) x y; binOp .leq 3 x y) (.tmp 44) (.const (.int .i64 (0))) (.int .i64 x) (.int .i64 (0)) (.bool true) (fun _ => rfl) rfl rfl (leq3_run hx _ _ _) rfl ?_
  refine wl_mv (.tmp 45) (.bool true) (fun _ => rfl) rfl rfl ?_
  refine wl_mv (.tmp 8) (.int .i64 y) (fun _ => rfl) rfl rfl ?_
  refine wl_bin (fun x y => do eqGuard .leq 3 (.tmp 47) (.const (.int .i64 (0))) x y; binOp .leq 3 x y) (.tmp 47) (.const (.int .i64 (0))) (.int .i64 y) (.int .i64 (0)) (.bool false) (fun _ => rfl) rfl rfl (leq3_run hy _ _ _) rfl ?_
  refine wl_pick (.tmp 46) (.tmp 48) (.const (.bool false)) true (.bool false) (fun _ => rfl) rfl rfl rfl ?_
  refine wl_mv (.tmp 49) (.bool false) (fun _ => rfl) rfl rfl ?_
  refine wl_skip rfl ?_
  refine wl_skip rfl ?_
  refine wl_pick (.tmp 50) (.tmp 52) (.const (.bool false)) false (.bool false) (fun _ => rfl) rfl rfl rfl ?_
  refine w_nil ?_
  refine xn_then ?_
  refine w_condF rfl ?_
  refine w_skip ?_
  refine xn_then ?_
  refine w_seq ?_
  refine w_reg ?_
  refine wl_load 40 (.tmp 3) (pt k1 0) (rd a_b a_0 a_1 a_2 a_3 a_s) rfl rfl (run_row Q1 40 0 6 (rdl a_b a_0 a_1 a_2 a_3 a_s) rfl Try.underlying40 rfl sz40) rfl ?_
  refine wl_call 47 [(.tmp 55)] _ [rd a_b a_0 a_1 a_2 a_3 a_s] (.tuple #[rd na_b na_0 na_1 na_2 na_3 na_s, .int .i64 (0)]) rfl rfl (fun _ _ => by kernel_rfl) (n1 _) rfl ?_
  intro w10 hq
  replace Q1 := Q1.mo hq
  replace Q2 := Q2.mo hq
  replace Q3 := Q3.mo hq
  replace M := M.trans hq
  clear hq
  refine wl_mv (.tmp 56) (.tuple #[rd na_b na_0 na_1 na_2 na_3 na_s, .int .i64 (0)]) (fun _ => rfl) rfl rfl ?_
  refine wl_un (fun v => Instr.extract v 0) (.tmp 54) (.tuple #[rd na_b na_0 na_1 na_2 na_3 na_s, .int .i64 (0)]) (rd na_b na_0 na_1 na_2 na_3 na_s) (fun _ => rfl) rfl (by kernel_rfl) rfl ?_
  refine wl_un (fun v => Instr.extract v 1) (.tmp 54) (.tuple #[rd na_b na_0 na_1 na_2 na_3 na_s, .int .i64 (0)]) (.int .i64 (0)) (fun _ => rfl) rfl (by kernel_rfl) rfl ?_
  refine wl_alloc 40 #[.bool false, .int .u64 0, .int .u64 0, .int .u64 0, .int .u64 0, .int .i64 0] rfl (fun _ => by kernel_rfl) rfl ?_
  intro k4 w11 hk hz hq Q4
  have ne_k1_k4 : k1 ≠ k4 := by have := Q1.lt; omega
  have ne_k2_k4 : k2 ≠ k4 := by have := Q2.lt; omega
  have ne_k3_k4 : k3 ≠ k4 := by have := Q3.lt; omega
  have N_k4 : w.heap.size ≤ k4 := by have := M.size; omega
  replace Q1 := Q1.mo hq
  replace Q2 := Q2.mo hq
  replace Q3 := Q3.mo hq
  replace M := M.trans hq
  clear hk hz hq
  refine wl_st 40 (.tmp 10) (.tmp 57) k4 0 (rda na_b na_0 na_1 na_2 na_3 na_s) [.bool false, .int .u64 0, .int .u64 0, .int .u64 0, .int .u64 0, .int .i64 0] (rdl na_b na_0 na_1 na_2 na_3 na_s) Q4 rfl rfl rfl rfl rfl sz40 rfl rfl rfl ?_
  intro w12 hS Qn
  replace Q4 := Qn
  clear Qn
  replace Q1 := hS.other _ _ ne_k1_k4 Q1
  replace Q2 := hS.other _ _ ne_k2_k4 Q2
  replace Q3 := hS.other _ _ ne_k3_k4 Q3
  replace M := hS.mo _ N_k4 M
  clear hS
  refine wl_mv (.tmp 58) (.int .i64 (0)) (fun _ => rfl) rfl rfl ?_
  refine w_nil ?_
  refine xn_then ?_
  refine w_seq ?_
  refine w_reg ?_
  refine wl_load 40 (.tmp 4) (pt k2 0) (rd b_b b_0 b_1 b_2 b_3 b_s) rfl rfl (run_row Q2 40 0 6 (rdl b_b b_0 b_1 b_2 b_3 b_s) rfl Try.underlying40 rfl sz40) rfl ?_
  refine wl_call 47 [(.tmp 60)] _ [rd b_b b_0 b_1 b_2 b_3 b_s] (.tuple #[rd nb_b nb_0 nb_1 nb_2 nb_3 nb_s, .int .i64 (0)]) rfl rfl (fun _ _ => by kernel_rfl) (n2 _) rfl ?_
  intro w13 hq
  replace Q1 := Q1.mo hq
  replace Q2 := Q2.mo hq
  replace Q3 := Q3.mo hq
  replace Q4 := Q4.mo hq
  replace M := M.trans hq
  clear hq
  refine wl_mv (.tmp 61) (.tuple #[rd nb_b nb_0 nb_1 nb_2 nb_3 nb_s, .int .i64 (0)]) (fun _ => rfl) rfl rfl ?_
  refine wl_un (fun v => Instr.extract v 0) (.tmp 59) (.tuple #[rd nb_b nb_0 nb_1 nb_2 nb_3 nb_s, .int .i64 (0)]) (rd nb_b nb_0 nb_1 nb_2 nb_3 nb_s) (fun _ => rfl) rfl (by kernel_rfl) rfl ?_
  refine wl_un (fun v => Instr.extract v 1) (.tmp 59) (.tuple #[rd nb_b nb_0 nb_1 nb_2 nb_3 nb_s, .int .i64 (0)]) (.int .i64 (0)) (fun _ => rfl) rfl (by kernel_rfl) rfl ?_
  refine wl_alloc 40 #[.bool false, .int .u64 0, .int .u64 0, .int .u64 0, .int .u64 0, .int .i64 0] rfl (fun _ => by kernel_rfl) rfl ?_
  intro k5 w14 hk hz hq Q5
  have ne_k1_k5 : k1 ≠ k5 := by have := Q1.lt; omega
  have ne_k2_k5 : k2 ≠ k5 := by have := Q2.lt; omega
  have ne_k3_k5 : k3 ≠ k5 := by have := Q3.lt; omega
  have ne_k4_k5 : k4 ≠ k5 := by have := Q4.lt; omega
  have N_k5 : w.heap.size ≤ k5 := by have := M.size; omega
  replace Q1 := Q1.mo hq
  replace Q2 := Q2.mo hq
  replace Q3 := Q3.mo hq
  replace Q4 := Q4.mo hq
  replace M := M.trans hq
  clear hk hz hq
  refine wl_st 40 (.tmp 12) (.tmp 62) k5 0 (rda nb_b nb_0 nb_1 nb_2 nb_3 nb_s) [.bool false, .int .u64 0, .int .u64 0, .int .u64 0, .int .u64 0, .int .i64 0] (rdl nb_b nb_0 nb_1 nb_2 nb_3 nb_s) Q5 rfl rfl rfl rfl rfl sz40 rfl rfl rfl ?_
  intro w15 hS Qn
  replace Q5 := Qn
  clear Qn
  replace Q1 := hS.other _ _ ne_k1_k5 Q1
  replace Q2 := hS.other _ _ ne_k2_k5 Q2
  replace Q3 := hS.other _ _ ne_k3_k5 Q3
  replace Q4 := hS.other _ _ ne_k4_k5 Q4
  replace M := hS.mo _ N_k5 M
  clear hS
  refine wl_mv (.tmp 63) (.int .i64 (0)) (fun _ => rfl) rfl rfl ?_
  refine w_nil ?_
  refine xn_then ?_
  refine w_seq ?_
  refine w_seq ?_
  refine w_reg ?_
  refine wl_mv (.tmp 11) (.int .i64 (0)) (fun _ => rfl) rfl rfl ?_
  refine wl_bin (fun x y => do eqGuard .neq 32 (.tmp 64) (.const (.int .i64 (0))) x y; binOp .neq 32 x y) (.tmp 64) (.const (.int .i64 (0))) (.int .i64 (0)) (.int .i64 (0)) (.bool false) (fun _ => rfl) rfl rfl (by kernel_rfl) rfl ?_
  refine wl_mv (.tmp 65) (.bool false) (fun _ => rfl) rfl rfl ?_
  refine wl_mv (.tmp 13) (.int .i64 (0)) (fun _ => rfl) rfl rfl ?_
  refine wl_bin (fun x y => do eqGuard .neq 32 (.tmp 67) (.const (.int .i64 (0))) x y; binOp .neq 32 x y) (.tmp 67) (.const (.int .i64 (0))) (.int .i64 (0)) (.int .i64 (0)) (.bool false) (fun _ => rfl) rfl rfl (by kernel_rfl) rfl ?_
  refine wl_pick (.tmp 66) (.const (.bool true)) (.tmp 68) false (.bool false) (fun _ => rfl) rfl rfl rfl ?_
  refine wl_mv (.tmp 69) (.bool false) (fun _ => rfl) rfl rfl ?_
  refine wl_load 40 (.tmp 12) (pt k5 0) (rd nb_b nb_0 nb_1 nb_2 nb_3 nb_s) rfl rfl (run_row Q5 40 0 6 (rdl nb_b nb_0 nb_1 nb_2 nb_3 nb_s) rfl Try.underlying40 rfl sz40) rfl ?_
  refine wl_load 40 (.tmp 10) (pt k4 0) (rd na_b na_0 na_1 na_2 na_3 na_s) rfl rfl (run_row Q4 40 0 6 (rdl na_b na_0 na_1 na_2 na_3 na_s) rfl Try.underlying40 rfl sz40) rfl ?_
  refine wl_call 51 [(.tmp 71), (.tmp 72)] _ [rd nb_b nb_0 nb_1 nb_2 nb_3 nb_s, rd na_b na_0 na_1 na_2 na_3 na_s] (.int .i64 x) rfl rfl (fun _ _ => by kernel_rfl) (n3 _) rfl ?_
  intro w16 hq
  replace Q1 := Q1.mo hq
  replace Q2 := Q2.mo hq
  replace Q3 := Q3.mo hq
  replace Q4 := Q4.mo hq
  replace Q5 := Q5.mo hq
  replace M := M.trans hq
  clear hq
  refine wl_mv (.tmp 7) (.int .i64 x) (fun _ => rfl) rfl rfl ?_
  refine wl_bin (fun x y => do eqGuard .neq 3 (.tmp 73) (.tmp 74) x y; binOp .neq 3 x y) (.tmp 73) (.tmp 74) (.int .i64 x) (.int .i64 x) (.bool false) (fun _ => rfl) rfl rfl (neq3_run (by simp) _ _ _) rfl ?_
  refine wl_pick (.tmp 70) (.const (.bool true)) (.tmp 75) false (.bool false) (fun _ => rfl) rfl rfl rfl ?_
  refine w_nil ?_
  refine xn_then ?_
  refine w_condF rfl ?_
  refine w_skip ?_
  refine xn_then ?_
  refine w_seq ?_
  refine w_reg ?_
  refine wl_load 40 (.tmp 3) (pt k1 0) (rd a_b a_0 a_1 a_2 a_3 a_s) rfl rfl (run_row Q1 40 0 6 (rdl a_b a_0 a_1 a_2 a_3 a_s) rfl Try.underlying40 rfl sz40) rfl ?_
  refine wl_call 45 [(.tmp 78)] _ [rd a_b a_0 a_1 a_2 a_3 a_s] (.tuple #[rd t_b t_0 t_1 t_2 t_3 t_s, .int .i64 (0)]) rfl rfl (fun _ _ => by kernel_rfl) (t1 _) rfl ?_
  intro w17 hq
  replace Q1 := Q1.mo hq
  replace Q2 := Q2.mo hq
  replace Q3 := Q3.mo hq
  replace Q4 := Q4.mo hq
  replace Q5 := Q5.mo hq
  replace M := M.trans hq
  clear hq
  refine wl_mv (.tmp 79) (.tuple #[rd t_b t_0 t_1 t_2 t_3 t_s, .int .i64 (0)]) (fun _ => rfl) rfl rfl ?_
  refine wl_un (fun v => Instr.extract v 0) (.tmp 77) (.tuple #[rd t_b t_0 t_1 t_2 t_3 t_s, .int .i64 (0)]) (rd t_b t_0 t_1 t_2 t_3 t_s) (fun _ => rfl) rfl (by kernel_rfl) rfl ?_
  refine wl_un (fun v => Instr.extract v 1) (.tmp 77) (.tuple #[rd t_b t_0 t_1 t_2 t_3 t_s, .int .i64 (0)]) (.int .i64 (0)) (fun _ => rfl) rfl (by kernel_rfl) rfl ?_
  refine wl_alloc 40 #[.bool false, .int .u64 0, .int .u64 0, .int .u64 0, .int .u64 0, .int .i64 0] rfl (fun _ => by kernel_rfl) rfl ?_
  intro k6 w18 hk hz hq Q6
  have ne_k1_k6 : k1 ≠ k6 := by have := Q1.lt; omega
  have ne_k2_k6 : k2 ≠ k6 := by have := Q2.lt; omega
  have ne_k3_k6 : k3 ≠ k6 := by have := Q3.lt; omega
  have ne_k4_k6 : k4 ≠ k6 := by have := Q4.lt; omega
  have ne_k5_k6 : k5 ≠ k6 := by have := Q5.lt; omega
  have N_k6 : w.heap.size ≤ k6 := by have := M.size; omega
  replace Q1 := Q1.mo hq
  replace Q2 := Q2.mo hq
  replace Q3 := Q3.mo hq
  replace Q4 := Q4.mo hq
  replace Q5 := Q5.mo hq
  replace M := M.trans hq
  clear hk hz hq
  refine wl_st 40 (.tmp 14) (.tmp 80) k6 0 (rda t_b t_0 t_1 t_2 t_3 t_s) [.bool false, .int .u64 0, .int .u64 0, .int .u64 0, .int .u64 0, .int .i64 0] (rdl t_b t_0 t_1 t_2 t_3 t_s) Q6 rfl rfl rfl rfl rfl sz40 rfl rfl rfl ?_
  intro w19 hS Qn
  replace Q6 := Qn
  clear Qn
  replace Q1 := hS.other _ _ ne_k1_k6 Q1
  replace Q2 := hS.other _ _ ne_k2_k6 Q2
  replace Q3 := hS.other _ _ ne_k3_k6 Q3
  replace Q4 := hS.other _ _ ne_k4_k6 Q4
  replace Q5 := hS.other _ _ ne_k5_k6 Q5
  replace M := hS.mo _ N_k6 M
  clear hS
  refine wl_mv (.tmp 81) (.int .i64 (0)) (fun _ => rfl) rfl rfl ?_
  refine w_nil ?_
  refine xn_then ?_
  refine w_seq ?_
  refine w_seq ?_
  refine w_reg ?_
  refine wl_mv (.tmp 11) (.int .i64 (0)) (fun _ => rfl) rfl rfl ?_
  refine wl_bin (fun x y => do eqGuard .neq 32 (.tmp 82) (.const (.int .i64 (0))) x y; binOp .neq 32 x y) (.tmp 82) (.const (.int .i64 (0))) (.int .i64 (0)) (.int .i64 (0)) (.bool false) (fun _ => rfl) rfl rfl (by kernel_rfl) rfl ?_
  refine wl_mv (.tmp 83) (.bool false) (fun _ => rfl) rfl rfl ?_
  refine wl_load 40 (.tmp 3) (pt k1 0) (rd a_b a_0 a_1 a_2 a_3 a_s) rfl rfl (run_row Q1 40 0 6 (rdl a_b a_0 a_1 a_2 a_3 a_s) rfl Try.underlying40 rfl sz40) rfl ?_
  refine wl_load 40 (.tmp 14) (pt k6 0) (rd t_b t_0 t_1 t_2 t_3 t_s) rfl rfl (run_row Q6 40 0 6 (rdl t_b t_0 t_1 t_2 t_3 t_s) rfl Try.underlying40 rfl sz40) rfl ?_
  refine wl_call 51 [(.tmp 85), (.tmp 86)] _ [rd a_b a_0 a_1 a_2 a_3 a_s, rd t_b t_0 t_1 t_2 t_3 t_s] (.int .i64 (0)) rfl rfl (fun _ _ => by kernel_rfl) (t2 _) rfl ?_
  intro w20 hq
  replace Q1 := Q1.mo hq
  replace Q2 := Q2.mo hq
  replace Q3 := Q3.mo hq
  replace Q4 := Q4.mo hq
  replace Q5 := Q5.mo hq
  replace Q6 := Q6.mo hq
  replace M := M.trans hq
  clear hq
  refine wl_bin (fun x y => do eqGuard .neq 3 (.tmp 87) (.const (.int .i64 (0))) x y; binOp .neq 3 x y) (.tmp 87) (.const (.int .i64 (0))) (.int .i64 (0)) (.int .i64 (0)) (.bool false) (fun _ => rfl) rfl rfl (by kernel_rfl) rfl ?_
  refine wl_pick (.tmp 84) (.const (.bool true)) (.tmp 88) false (.bool false) (fun _ => rfl) rfl rfl rfl ?_
  refine wl_mv (.tmp 89) (.bool false) (fun _ => rfl) rfl rfl ?_
  refine wl_un (fun v => Instr.fieldAt 40 v 2) (.tmp 14) (pt k6 0) (pt k6 5) (fun _ => rfl) rfl (by kernel_rfl) rfl ?_
  refine wl_load 3 (.tmp 91) (pt k6 5) (.int .i64 t_s) rfl rfl (run_one Q6 3 5 rfl Try.underlying3 rfl) rfl ?_
  refine wl_un (fun v => Instr.fieldAt 40 v 2) (.tmp 3) (pt k1 0) (pt k1 5) (fun _ => rfl) rfl (by kernel_rfl) rfl ?_
  refine wl_load 3 (.tmp 93) (pt k1 5) (.int .i64 a_s) rfl rfl (run_one Q1 3 5 rfl Try.underlying3 rfl) rfl ?_
  refine wl_bin (fun x y => do eqGuard .gtr 3 (.tmp 92) (.tmp 94) x y; binOp .gtr 3 x y) (.tmp 92) (.tmp 94) (.int .i64 t_s) (.int .i64 a_s) (.bool false) (fun _ => rfl) rfl rfl (gtr3_run ht _ _ _) rfl ?_
  refine wl_pick (.tmp 90) (.const (.bool true)) (.tmp 95) false (.bool false) (fun _ => rfl) rfl rfl rfl ?_
  refine w_nil ?_
  refine xn_then ?_
  refine w_condF rfl ?_
  refine w_skip ?_
  refine xn_then ?_
  refine w_seq ?_
  refine w_reg ?_
  refine wl_load 40 (.tmp 3) (pt k1 0) (rd a_b a_0 a_1 a_2 a_3 a_s) rfl rfl (run_row Q1 40 0 6 (rdl a_b a_0 a_1 a_2 a_3 a_s) rfl Try.underlying40 rfl sz40) rfl ?_
  refine wl_load 40 (.tmp 5) (pt k3 0) (rd c_b c_0 c_1 c_2 c_3 c_s) rfl rfl (run_row Q3 40 0 6 (rdl c_b c_0 c_1 c_2 c_3 c_s) rfl Try.underlying40 rfl sz40) rfl ?_
  refine wl_call 35 [(.tmp 98), (.tmp 99)] _ [rd a_b a_0 a_1 a_2 a_3 a_s, rd c_b c_0 c_1 c_2 c_3 c_s] (.tuple #[rd p_b p_0 p_1 p_2 p_3 p_s, .int .i64 (0)]) rfl rfl (fun _ _ => by kernel_rfl) (a1 _) rfl ?_
  intro w21 hq
  replace Q1 := Q1.mo hq
  replace Q2 := Q2.mo hq
  replace Q3 := Q3.mo hq
  replace Q4 := Q4.mo hq
  replace Q5 := Q5.mo hq
  replace Q6 := Q6.mo hq
  replace M := M.trans hq
  clear hq
  refine wl_mv (.tmp 100) (.tuple #[rd p_b p_0 p_1 p_2 p_3 p_s, .int .i64 (0)]) (fun _ => rfl) rfl rfl ?_
  refine wl_un (fun v => Instr.extract v 0) (.tmp 97) (.tuple #[rd p_b p_0 p_1 p_2 p_3 p_s, .int .i64 (0)]) (rd p_b p_0 p_1 p_2 p_3 p_s) (fun _ => rfl) rfl (by kernel_rfl) rfl ?_
  refine wl_un (fun v => Instr.extract v 1) (.tmp 97) (.tuple #[rd p_b p_0 p_1 p_2 p_3 p_s, .int .i64 (0)]) (.int .i64 (0)) (fun _ => rfl) rfl (by kernel_rfl) rfl ?_
  refine wl_alloc 40 #[.bool false, .int .u64 0, .int .u64 0, .int .u64 0, .int .u64 0, .int .i64 0] rfl (fun _ => by kernel_rfl) rfl ?_
  intro k7 w22 hk hz hq Q7
  have ne_k1_k7 : k1 ≠ k7 := by have := Q1.lt; omega
  have ne_k2_k7 : k2 ≠ k7 := by have := Q2.lt; omega
  have ne_k3_k7 : k3 ≠ k7 := by have := Q3.lt; omega
  have ne_k4_k7 : k4 ≠ k7 := by have := Q4.lt; omega
  have ne_k5_k7 : k5 ≠ k7 := by have := Q5.lt; omega
  have ne_k6_k7 : k6 ≠ k7 := by have := Q6.lt; omega
  have N_k7 : w.heap.size ≤ k7 := by have := M.size; omega
  replace Q1 := Q1.mo hq
  replace Q2 := Q2.mo hq
  replace Q3 := Q3.mo hq
  replace Q4 := Q4.mo hq
  replace Q5 := Q5.mo hq
  replace Q6 := Q6.mo hq
  replace M := M.trans hq
  clear hk hz hq
  refine wl_st 40 (.tmp 15) (.tmp 101) k7 0 (rda p_b p_0 p_1 p_2 p_3 p_s) [.bool false, .int .u64 0, .int .u64 0, .int .u64 0, .int .u64 0, .int .i64 0] (rdl p_b p_0 p_1 p_2 p_3 p_s) Q7 rfl rfl rfl rfl rfl sz40 rfl rfl rfl ?_
  intro w23 hS Qn
  replace Q7 := Qn
  clear Qn
  replace Q1 := hS.other _ _ ne_k1_k7 Q1
  replace Q2 := hS.other _ _ ne_k2_k7 Q2
  replace Q3 := hS.other _ _ ne_k3_k7 Q3
  replace Q4 := hS.other _ _ ne_k4_k7 Q4
  replace Q5 := hS.other _ _ ne_k5_k7 Q5
  replace Q6 := hS.other _ _ ne_k6_k7 Q6
  replace M := hS.mo _ N_k7 M
  clear hS
  refine wl_mv (.tmp 102) (.int .i64 (0)) (fun _ => rfl) rfl rfl ?_
  refine w_nil ?_
  refine xn_then ?_
  refine w_seq ?_
  refine w_reg ?_
  refine wl_load 40 (.tmp 4) (pt k2 0) (rd b_b b_0 b_1 b_2 b_3 b_s) rfl rfl (run_row Q2 40 0 6 (rdl b_b b_0 b_1 b_2 b_3 b_s) rfl Try.underlying40 rfl sz40) rfl ?_
  refine wl_load 40 (.tmp 5) (pt k3 0) (rd c_b c_0 c_1 c_2 c_3 c_s) rfl rfl (run_row Q3 40 0 6 (rdl c_b c_0 c_1 c_2 c_3 c_s) rfl Try.underlying40 rfl sz40) rfl ?_
  refine wl_call 35 [(.tmp 104), (.tmp 105)] _ [rd b_b b_0 b_1 b_2 b_3 b_s, rd c_b c_0 c_1 c_2 c_3 c_s] (.tuple #[rd q_b q_0 q_1 q_2 q_3 q_s, .int .i64 (0)]) rfl rfl (fun _ _ => by kernel_rfl) (a2 _) rfl ?_
  intro w24 hq
  replace Q1 := Q1.mo hq
  replace Q2 := Q2.mo hq
  replace Q3 := Q3.mo hq
  replace Q4 := Q4.mo hq
  replace Q5 := Q5.mo hq
  replace Q6 := Q6.mo hq
  replace Q7 := Q7.mo hq
  replace M := M.trans hq
  clear hq
  refine wl_mv (.tmp 106) (.tuple #[rd q_b q_0 q_1 q_2 q_3 q_s, .int .i64 (0)]) (fun _ => rfl) rfl rfl ?_
  refine wl_un (fun v => Instr.extract v 0) (.tmp 103) (.tuple #[rd q_b q_0 q_1 q_2 q_3 q_s, .int .i64 (0)]) (rd q_b q_0 q_1 q_2 q_3 q_s) (fun _ => rfl) rfl (by kernel_rfl) rfl ?_
  refine wl_un (fun v => Instr.extract v 1) (.tmp 103) (.tuple #[rd q_b q_0 q_1 q_2 q_3 q_s, .int .i64 (0)]) (.int .i64 (0)) (fun _ => rfl) rfl (by kernel_rfl) rfl ?_
  refine wl_alloc 40 #[.bool false, .int .u64 0, .int .u64 0, .int .u64 0, .int .u64 0, .int .i64 0] rfl (fun _ => by kernel_rfl) rfl ?_
  intro k8 w25 hk hz hq Q8
  have ne_k1_k8 : k1 ≠ k8 := by have := Q1.lt; omega
  have ne_k2_k8 : k2 ≠ k8 := by have := Q2.lt; omega
  have ne_k3_k8 : k3 ≠ k8 := by have := Q3.lt; omega
  have ne_k4_k8 : k4 ≠ k8 := by have := Q4.lt; omega
  have ne_k5_k8 : k5 ≠ k8 := by have := Q5.lt; omega
  have ne_k6_k8 : k6 ≠ k8 := by have := Q6.lt; omega
  have ne_k7_k8 : k7 ≠ k8 := by have := Q7.lt; omega
  have N_k8 : w.heap.size ≤ k8 := by have := M.size; omega
  replace Q1 := Q1.mo hq
  replace Q2 := Q2.mo hq
  replace Q3 := Q3.mo hq
  replace Q4 := Q4.mo hq
  replace Q5 := Q5.mo hq
  replace Q6 := Q6.mo hq
  replace Q7 := Q7.mo hq
  replace M := M.trans hq
  clear hk hz hq
  refine wl_st 40 (.tmp 16) (.tmp 107) k8 0 (rda q_b q_0 q_1 q_2 q_3 q_s) [.bool false, .int .u64 0, .int .u64 0, .int .u64 0, .int .u64 0, .int .i64 0] (rdl q_b q_0 q_1 q_2 q_3 q_s) Q8 rfl rfl rfl rfl rfl sz40 rfl rfl rfl ?_
  intro w26 hS Qn
  replace Q8 := Qn
  clear Qn
  replace Q1 := hS.other _ _ ne_k1_k8 Q1
  replace Q2 := hS.other _ _ ne_k2_k8 Q2
  replace Q3 := hS.other _ _ ne_k3_k8 Q3
  replace Q4 := hS.other _ _ ne_k4_k8 Q4
  replace Q5 := hS.other _ _ ne_k5_k8 Q5
  replace Q6 := hS.other _ _ ne_k6_k8 Q6
  replace Q7 := hS.other _ _ ne_k7_k8 Q7
  replace M := hS.mo _ N_k8 M
  clear hS
  refine wl_mv (.tmp 108) (.int .i64 (0)) (fun _ => rfl) rfl rfl ?_
  refine w_nil ?_
  refine xn_then ?_
  refine w_seq ?_
  refine w_seq ?_
  refine w_reg ?_
  refine wl_mv (.tmp 11) (.int .i64 (0)) (fun _ => rfl) rfl rfl ?_
  refine wl_bin (fun x y => do eqGuard .neq 32 (.tmp 109) (.const (.int .i64 (0))) x y; binOp .neq 32 x y) (.tmp 109) (.const (.int .i64 (0))) (.int .i64 (0)) (.int .i64 (0)) (.bool false) (fun _ => rfl) rfl rfl (by kernel_rfl) rfl ?_
  refine wl_mv (.tmp 110) (.bool false) (fun _ => rfl) rfl rfl ?_
  refine wl_mv (.tmp 13) (.int .i64 (0)) (fun _ => rfl) rfl rfl ?_
  refine wl_bin (fun x y => do eqGuard .neq 32 (.tmp 112) (.const (.int .i64 (0))) x y; binOp .neq 32 x y) (.tmp 112) (.const (.int .i64 (0))) (.int .i64 (0)) (.int .i64 (0)) (.bool false) (fun _ => rfl) rfl rfl (by kernel_rfl) rfl ?_
  refine wl_pick (.tmp 111) (.const (.bool true)) (.tmp 113) false (.bool false) (fun _ => rfl) rfl rfl rfl ?_
  refine w_nil ?_
  refine xn_then ?_
  refine w_condF rfl ?_
  refine w_skip ?_
  refine xn_then ?_
  refine w_seq ?_
  refine w_reg ?_
  refine wl_load 40 (.tmp 15) (pt k7 0) (rd p_b p_0 p_1 p_2 p_3 p_s) rfl rfl (run_row Q7 40 0 6 (rdl p_b p_0 p_1 p_2 p_3 p_s) rfl Try.underlying40 rfl sz40) rfl ?_
  refine wl_load 40 (.tmp 16) (pt k8 0) (rd q_b q_0 q_1 q_2 q_3 q_s) rfl rfl (run_row Q8 40 0 6 (rdl q_b q_0 q_1 q_2 q_3 q_s) rfl Try.underlying40 rfl sz40) rfl ?_
  refine wl_call 51 [(.tmp 115), (.tmp 116)] _ [rd p_b p_0 p_1 p_2 p_3 p_s, rd q_b q_0 q_1 q_2 q_3 q_s] (.int .i64 x) rfl rfl (fun _ _ => by kernel_rfl) (a3 _) rfl ?_
  intro w27 hq
  replace Q1 := Q1.mo hq
  replace Q2 := Q2.mo hq
  replace Q3 := Q3.mo hq
  replace Q4 := Q4.mo hq
  replace Q5 := Q5.mo hq
  replace Q6 := Q6.mo hq
  replace Q7 := Q7.mo hq
  replace Q8 := Q8.mo hq
  replace M := M.trans hq
  clear hq
  refine wl_mv (.tmp 7) (.int .i64 x) (fun _ => rfl) rfl rfl ?_
  refine wl_bin (fun x y => do eqGuard .eql 3 (.tmp 117) (.tmp 118) x y; binOp .eql 3 x y) (.tmp 117) (.tmp 118) (.int .i64 x) (.int .i64 x) (.bool true) (fun _ => rfl) rfl rfl (eql3_run (by simp) _ _ _) rfl ?_
  refine wl_mv (.tmp 119) (.bool true) (fun _ => rfl) rfl rfl ?_
  refine w_nil ?_
  refine xn_then ?_
  refine w_ret ?_
  exact w_ret1 _ (.bool true) rfl rfl ⟨rfl, M⟩
end Go.Proofs.Ytoiiekmkcpcbgaa
/-
  DecimalOrder, out of what the functions answer.
-/
namespace Go.Proofs.Ytoiiekmkcpcbgaa
open Go.RowKit
theorem order_c_e1 (a_b : Bool) (a_0 a_1 a_2 a_3 a_s : Int) (b_b : Bool) (b_0 b_1 b_2 b_3 b_s : Int) (c_b : Bool) (c_0 c_1 c_2 c_3 c_s : Int) (na_b : Bool) (na_0 na_1 na_2 na_3 na_s : Int) (nb_b : Bool) (nb_0 nb_1 nb_2 nb_3 nb_s : Int) (t_b : Bool) (t_0 t_1 t_2 t_3 t_s : Int) (p_b : Bool) (p_0 p_1 p_2 p_3 p_s : Int) (q_b : Bool) (q_0 q_1 q_2 q_3 q_s : Int) (x y z : Int) (e f : Int) (w : World) (h1 : ∀ w, Calls Try.prog 51 #[rd a_b a_0 a_1 a_2 a_3 a_s, rd b_b b_0 b_1 b_2 b_3 b_s] w fun e' w' => e' = .returned (.int .i64 x) ∧ Mo w w') (h2 : ∀ w, Calls Try.prog 51 #[rd b_b b_0 b_1 b_2 b_3 b_s, rd c_b c_0 c_1 c_2 c_3 c_s] w fun e' w' => e' = .returned (.int .i64 y) ∧ Mo w w') (h3 : ∀ w, Calls Try.prog 51 #[rd a_b a_0 a_1 a_2 a_3 a_s, rd c_b c_0 c_1 c_2 c_3 c_s] w fun e' w' => e' = .returned (.int .i64 z) ∧ Mo w w') (g1 : ∀ w, Calls Try.prog 29 #[rd a_b a_0 a_1 a_2 a_3 a_s] w fun e' w' => e' = .returned (.int .i64 (0)) ∧ Mo w w') (g2 : ∀ w, Calls Try.prog 29 #[rd b_b b_0 b_1 b_2 b_3 b_s] w fun e' w' => e' = .returned (.int .i64 (0)) ∧ Mo w w') (g3 : ∀ w, Calls Try.prog 29 #[rd c_b c_0 c_1 c_2 c_3 c_s] w fun e' w' => e' = .returned (.int .i64 (0)) ∧ Mo w w') (hx : decide (x ≤ 0) = true) (hy : decide (y ≤ 0) = true) (hz : decide (z > 0) = false) (n1 : ∀ w, Calls Try.prog 47 #[rd a_b a_0 a_1 a_2 a_3 a_s] w fun e' w' => e' = .returned (.tuple #[rd na_b na_0 na_1 na_2 na_3 na_s, .int .i64 (0)]) ∧ Mo w w') (n2 : ∀ w, Calls Try.prog 47 #[rd b_b b_0 b_1 b_2 b_3 b_s] w fun e' w' => e' = .returned (.tuple #[rd nb_b nb_0 nb_1 nb_2 nb_3 nb_s, .int .i64 (0)]) ∧ Mo w w') (n3 : ∀ w, Calls Try.prog 51 #[rd nb_b nb_0 nb_1 nb_2 nb_3 nb_s, rd na_b na_0 na_1 na_2 na_3 na_s] w fun e' w' => e' = .returned (.int .i64 x) ∧ Mo w w') (t1 : ∀ w, Calls Try.prog 45 #[rd a_b a_0 a_1 a_2 a_3 a_s] w fun e' w' => e' = .returned (.tuple #[rd t_b t_0 t_1 t_2 t_3 t_s, .int .i64 (0)]) ∧ Mo w w') (t2 : ∀ w, Calls Try.prog 51 #[rd a_b a_0 a_1 a_2 a_3 a_s, rd t_b t_0 t_1 t_2 t_3 t_s] w fun e' w' => e' = .returned (.int .i64 (0)) ∧ Mo w w') (ht : decide (t_s > a_s) = false) (a1 : ∀ w, Calls Try.prog 35 #[rd a_b a_0 a_1 a_2 a_3 a_s, rd c_b c_0 c_1 c_2 c_3 c_s] w fun e' w' => e' = .returned (.tuple #[rd p_b p_0 p_1 p_2 p_3 p_s, .int .i64 e]) ∧ Mo w w') (a2 : ∀ w, Calls Try.prog 35 #[rd b_b b_0 b_1 b_2 b_3 b_s, rd c_b c_0 c_1 c_2 c_3 c_s] w fun e' w' => e' = .returned (.tuple #[rd q_b q_0 q_1 q_2 q_3 q_s, .int .i64 f]) ∧ Mo w w') (he : (e == 0) = false) :
    Calls Try.prog 14 #[rd a_b a_0 a_1 a_2 a_3 a_s, rd b_b b_0 b_1 b_2 b_3 b_s, rd c_b c_0 c_1 c_2 c_3 c_s] w fun e' w' => e' = .returned (.bool true) ∧ Mo w w' := by
  refine w_enter 120 Try.func14 Try.ntmps14 rfl rfl ?_
  have M : Mo w w := Mo.refl _
  refine w_seq ?_
  refine w_reg ?_
  refine wl_box 40 (.tmp 0) (rd a_b a_0 a_1 a_2 a_3 a_s) ((rda a_b a_0 a_1 a_2 a_3 a_s)) rfl rfl (fun _ => by kernel_rfl) rfl ?_
  intro k1 w1 hk hz hq Q1
  have N_k1 : w.heap.size ≤ k1 := by have := M.size; omega
  replace M := M.trans hq
  clear hk hz hq
  refine wl_box 40 (.tmp 1) (rd b_b b_0 b_1 b_2 b_3 b_s) ((rda b_b b_0 b_1 b_2 b_3 b_s)) rfl rfl (fun _ => by kernel_rfl) rfl ?_
  intro k2 w2 hk hz hq Q2
  have ne_k1_k2 : k1 ≠ k2 := by have := Q1.lt; omega
  have N_k2 : w.heap.size ≤ k2 := by have := M.size; omega
  replace Q1 := Q1.mo hq
  replace M := M.trans hq
  clear hk hz hq
  refine wl_box 40 (.tmp 2) (rd c_b c_0 c_1 c_2 c_3 c_s) ((rda c_b c_0 c_1 c_2 c_3 c_s)) rfl rfl (fun _ => by kernel_rfl) rfl ?_
  intro k3 w3 hk hz hq Q3
  have ne_k1_k3 : k1 ≠ k3 := by have := Q1.lt; omega
  have ne_k2_k3 : k2 ≠ k3 := by have := Q2.lt; omega
  have N_k3 : w.heap.size ≤ k3 := by have := M.size; omega
  replace Q1 := Q1.mo hq
  replace Q2 := Q2.mo hq
  replace M := M.trans hq
  clear hk hz hq
  refine wl_mv (.const (.bool false)) (.bool false) (fun _ => rfl) rfl rfl ?_
  refine w_nil ?_
  refine xn_then ?_
  refine w_seq ?_
  refine w_any 8 [.inl (rd a_b a_0 a_1 a_2 a_3 a_s), .inl (rd b_b b_0 b_1 b_2 b_3 b_s), .inl (.int .i64 x), .inl (rd b_b b_0 b_1 b_2 b_3 b_s), .inl (rd c_b c_0 c_1 c_2 c_3 c_s), .inl (.int .i64 y), .inl (rd a_b a_0 a_1 a_2 a_3 a_s), .inl (rd c_b c_0 c_1 c_2 c_3 c_s)] [] (by kernel_rfl) (by kernel_rfl) (by kernel_rfl) (by kernel_rfl) rfl (by kernel_rfl) (by kernel_rfl) late_nil ?_ ?_ ?_
  · exact Ds.none rfl
  · refine ea_cons ?_ (ea_cons ?_ (ea_cons ?_ (ea_cons ?_ (ea_cons ?_ (ea_cons ?_ (ea_cons ?_ (ea_cons ?_ (ea_nil))))))))
    · exact og_eq (rd a_b a_0 a_1 a_2 a_3 a_s) rfl (fun f wf hq hd K hK => have Q1 := Q1.mo hq; go_run rfl (wo_load 40 (.tmp 3) (pt k1 0) (rd a_b a_0 a_1 a_2 a_3 a_s) rfl rfl (run_row Q1 40 0 6 (rdl a_b a_0 a_1 a_2 a_3 a_s) rfl Try.underlying40 rfl sz40) (hK _ (Mo.refl _))))
    · exact og_eq (rd b_b b_0 b_1 b_2 b_3 b_s) rfl (fun f wf hq hd K hK => have Q2 := Q2.mo hq; go_run rfl (wo_load 40 (.tmp 4) (pt k2 0) (rd b_b b_0 b_1 b_2 b_3 b_s) rfl rfl (run_row Q2 40 0 6 (rdl b_b b_0 b_1 b_2 b_3 b_s) rfl Try.underlying40 rfl sz40) (hK _ (Mo.refl _))))
    · exact og_eq (.int .i64 x) rfl (fun f wf hq hd K hK => go_run rfl (wo_call 51 [(.tmp 17), (.tmp 18)] _ [rd a_b a_0 a_1 a_2 a_3 a_s, rd b_b b_0 b_1 b_2 b_3 b_s] (.int .i64 x) rfl (li2 (hd 0 rfl) (hd 1 rfl)) (fun _ _ => by kernel_rfl) (h1 _) hK))
    · exact og_eq (rd b_b b_0 b_1 b_2 b_3 b_s) rfl (fun f wf hq hd K hK => have Q2 := Q2.mo hq; go_run rfl (wo_load 40 (.tmp 4) (pt k2 0) (rd b_b b_0 b_1 b_2 b_3 b_s) rfl rfl (run_row Q2 40 0 6 (rdl b_b b_0 b_1 b_2 b_3 b_s) rfl Try.underlying40 rfl sz40) (hK _ (Mo.refl _))))
    · exact og_eq (rd c_b c_0 c_1 c_2 c_3 c_s) rfl (fun f wf hq hd K hK => have Q3 := Q3.mo hq; go_run rfl (wo_load 40 (.tmp 5) (pt k3 0) (rd c_b c_0 c_1 c_2 c_3 c_s) rfl rfl (run_row Q3 40 0 6 (rdl c_b c_0 c_1 c_2 c_3 c_s) rfl Try.underlying40 rfl sz40) (hK _ (Mo.refl _))))
    · exact og_eq (.int .i64 y) rfl (fun f wf hq hd K hK => go_run rfl (wo_call 51 [(.tmp 20), (.tmp 21)] _ [rd b_b b_0 b_1 b_2 b_3 b_s, rd c_b c_0 c_1 c_2 c_3 c_s] (.int .i64 y) rfl (li2 (hd 3 rfl) (hd 4 rfl)) (fun _ _ => by kernel_rfl) (h2 _) hK))
    · exact og_eq (rd a_b a_0 a_1 a_2 a_3 a_s) rfl (fun f wf hq hd K hK => have Q1 := Q1.mo hq; go_run rfl (wo_load 40 (.tmp 3) (pt k1 0) (rd a_b a_0 a_1 a_2 a_3 a_s) rfl rfl (run_row Q1 40 0 6 (rdl a_b a_0 a_1 a_2 a_3 a_s) rfl Try.underlying40 rfl sz40) (hK _ (Mo.refl _))))
    · exact og_eq (rd c_b c_0 c_1 c_2 c_3 c_s) rfl (fun f wf hq hd K hK => have Q3 := Q3.mo hq; go_run rfl (wo_load 40 (.tmp 5) (pt k3 0) (rd c_b c_0 c_1 c_2 c_3 c_s) rfl rfl (run_row Q3 40 0 6 (rdl c_b c_0 c_1 c_2 c_3 c_s) rfl Try.underlying40 rfl sz40) (hK _ (Mo.refl _))))
  intro kf4 w4 hq hR hne
  replace Q1 := Q1.mo hq
  replace Q2 := Q2.mo hq
  replace Q3 := Q3.mo hq
  replace M := M.trans hq
  clear hq hR hne
  refine wl_call 51 [(.tmp 23), (.tmp 24)] _ [rd a_b a_0 a_1 a_2 a_3 a_s, rd c_b c_0 c_1 c_2 c_3 c_s] (.int .i64 z) rfl rfl (fun _ _ => by kernel_rfl) (h3 _) rfl ?_
  intro w5 hq
  replace Q1 := Q1.mo hq
  replace Q2 := Q2.mo hq
  replace Q3 := Q3.mo hq
  replace M := M.trans hq
  clear hq
  refine wl_mv (.tmp 19) (.int .i64 x) (fun _ => rfl) rfl rfl ?_
  refine wl_mv (.tmp 22) (.int .i64 y) (fun _ => rfl) rfl rfl ?_
  refine wl_mv (.tmp 25) (.int .i64 z) (fun _ => rfl) rfl rfl ?_
  refine w_nil ?_
  refine xn_then ?_
  refine w_seq ?_
  refine w_seq ?_
  refine w_reg ?_
  refine wl_call 28 [] _ [] (.bool true) rfl rfl (fun _ _ => by kernel_rfl) (begun_n _) rfl ?_
  intro w6 hq
  replace Q1 := Q1.mo hq
  replace Q2 := Q2.mo hq
  replace Q3 := Q3.mo hq
  replace M := M.trans hq
  clear hq
  refine wl_un (fun v => Op.unary .not v) (.tmp 26) (.bool true) (.bool false) (fun _ => rfl) rfl (by kernel_rfl) rfl ?_
  refine wl_mv (.tmp 27) (.bool false) (fun _ => rfl) rfl rfl ?_
  refine wl_load 40 (.tmp 3) (pt k1 0) (rd a_b a_0 a_1 a_2 a_3 a_s) rfl rfl (run_row Q1 40 0 6 (rdl a_b a_0 a_1 a_2 a_3 a_s) rfl Try.underlying40 rfl sz40) rfl ?_
  refine wl_call 29 [(.tmp 29)] _ [rd a_b a_0 a_1 a_2 a_3 a_s] (.int .i64 (0)) rfl rfl (fun _ _ => by kernel_rfl) (g1 _) rfl ?_
  intro w7 hq
  replace Q1 := Q1.mo hq
  replace Q2 := Q2.mo hq
  replace Q3 := Q3.mo hq
  replace M := M.trans hq
  clear hq
  refine wl_bin (fun x y => do eqGuard .neq 32 (.tmp 30) (.const (.int .i64 (0))) x y; binOp .neq 32 x y) (.tmp 30) (.const (.int .i64 (0))) (.int .i64 (0)) (.int .i64 (0)) (.bool false) (fun _ => rfl) rfl rfl (by kernel_rfl) rfl ?_
  refine wl_pick (.tmp 28) (.const (.bool true)) (.tmp 31) false (.bool false) (fun _ => rfl) rfl rfl rfl ?_
  refine wl_mv (.tmp 32) (.bool false) (fun _ => rfl) rfl rfl ?_
  refine wl_load 40 (.tmp 4) (pt k2 0) (rd b_b b_0 b_1 b_2 b_3 b_s) rfl rfl (run_row Q2 40 0 6 (rdl b_b b_0 b_1 b_2 b_3 b_s) rfl Try.underlying40 rfl sz40) rfl ?_
  refine wl_call 29 [(.tmp 34)] _ [rd b_b b_0 b_1 b_2 b_3 b_s] (.int .i64 (0)) rfl rfl (fun _ _ => by kernel_rfl) (g2 _) rfl ?_
  intro w8 hq
  replace Q1 := Q1.mo hq
  replace Q2 := Q2.mo hq
  replace Q3 := Q3.mo hq
  replace M := M.trans hq
  clear hq
  refine wl_bin (fun x y => do eqGuard .neq 32 (.tmp 35) (.const (.int .i64 (0))) x y; binOp .neq 32 x y) (.tmp 35) (.const (.int .i64 (0))) (.int .i64 (0)) (.int .i64 (0)) (.bool false) (fun _ => rfl) rfl rfl (by kernel_rfl) rfl ?_
  refine wl_pick (.tmp 33) (.const (.bool true)) (.tmp 36) false (.bool false) (fun _ => rfl) rfl rfl rfl ?_
  refine wl_mv (.tmp 37) (.bool false) (fun _ => rfl) rfl rfl ?_
  refine wl_load 40 (.tmp 5) (pt k3 0) (rd c_b c_0 c_1 c_2 c_3 c_s) rfl rfl (run_row Q3 40 0 6 (rdl c_b c_0 c_1 c_2 c_3 c_s) rfl Try.underlying40 rfl sz40) rfl ?_
  refine wl_call 29 [(.tmp 39)] _ [rd c_b c_0 c_1 c_2 c_3 c_s] (.int .i64 (0)) rfl rfl (fun _ _ => by kernel_rfl) (g3 _) rfl ?_
  intro w9 hq
  replace Q1 := Q1.mo hq
  replace Q2 := Q2.mo hq
  replace Q3 := Q3.mo hq
  replace M := M.trans hq
  clear hq
  refine wl_bin (fun x y => do eqGuard .neq 32 (.tmp 40) (.const (.int .i64 (0))) x y; binOp .neq 32 x y) (.tmp 40) (.const (.int .i64 (0))) (.int .i64 (0)) (.int .i64 (0)) (.bool false) (fun _ => rfl) rfl rfl (by kernel_rfl) rfl ?_
  refine wl_pick (.tmp 38) (.const (.bool true)) (.tmp 41) false (.bool false) (fun _ => rfl) rfl rfl rfl ?_
  refine w_nil ?_
  refine xn_then ?_
  refine w_condF rfl ?_
  refine w_skip ?_
  refine xn_then ?_
  refine w_seq ?_
  refine w_seq ?_
  refine w_reg ?_
  refine wl_mv (.tmp 7) (.int .i64 x) (fun _ => rfl) rfl rfl ?_
  refine wl_bin (fun x y => do eqGuard .leq 3 (.tmp 44) (.const (.int .i64 (0))) x y; binOp .leq 3 x y) (.tmp 44) (.const (.int .i64 (0))) (.int .i64 x) (.int .i64 (0)) (.bool true) (fun _ => rfl) rfl rfl (leq3_run hx _ _ _) rfl ?_
  refine wl_mv (.tmp 45) (.bool true) (fun _ => rfl) rfl rfl ?_
  refine wl_mv (.tmp 8) (.int .i64 y) (fun _ => rfl) rfl rfl ?_
  refine wl_bin (fun x y => do eqGuard .leq 3 (.tmp 47) (.const (.int .i64 (0))) x y; binOp .leq 3 x y) (.tmp 47) (.const (.int .i64 (0))) (.int .i64 y) (.int .i64 (0)) (.bool true) (fun _ => rfl) rfl rfl (leq3_run hy _ _ _) rfl ?_
  refine wl_pick (.tmp 46) (.tmp 48) (.const (.bool false)) true (.bool true) (fun _ => rfl) rfl rfl rfl ?_
  refine wl_mv (.tmp 49) (.bool true) (fun _ => rfl) rfl rfl ?_
  refine wl_mv (.tmp 9) (.int .i64 z) (fun _ => rfl) rfl rfl ?_
  refine wl_bin (fun x y => do eqGuard .gtr 3 (.tmp 51) (.const (.int .i64 (0))) x y; binOp .gtr 3 x y) (.tmp 51) (.const (.int .i64 (0))) (.int .i64 z) (.int .i64 (0)) (.bool false) (fun _ => rfl) rfl rfl (gtr3_run hz _ _ _) rfl ?_
  refine wl_pick (.tmp 50) (.tmp 52) (.const (.bool false)) true (.bool false) (fun _ => rfl) rfl rfl rfl ?_
  refine w_nil ?_
  refine xn_then ?_
  refine w_condF rfl ?_
  refine w_skip ?_
  refine xn_then ?_
  refine w_seq ?_
  refine w_reg ?_
  refine wl_load 40 (.tmp 3) (pt k1 0) (rd a_b a_0 a_1 a_2 a_3 a_s) rfl rfl (run_row Q1 40 0 6 (rdl a_b a_0 a_1 a_2 a_3 a_s) rfl Try.underlying40 rfl sz40) rfl ?_
  refine wl_call 47 [(.tmp 55)] _ [rd a_b a_0 a_1 a_2 a_3 a_s] (.tuple #[rd na_b na_0 na_1 na_2 na_3 na_s, .int .i64 (0)]) rfl rfl (fun _ _ => by kernel_rfl) (n1 _) rfl ?_
  intro w10 hq
  replace Q1 := Q1.mo hq
  replace Q2 := Q2.mo hq
  replace Q3 := Q3.mo hq
  replace M := M.trans hq
  clear hq
  refine wl_mv (.tmp 56) (.tuple #[rd na_b na_0 na_1 na_2 na_3 na_s, .int .i64 (0)]) (fun _ => rfl) rfl rfl ?_
  refine wl_un (fun v => Instr.extract v 0) (.tmp 54) (.tuple #[rd na_b na_0 na_1 na_2 na_3 na_s, .int .i64 (0)]) (rd na_b na_0 na_1 na_2 na_3 na_s) (fun _ => rfl) rfl (by kernel_rfl) rfl ?_
  refine wl_un (fun v => Instr.extract v 1) (.tmp 54) (.tuple #[rd na_b na_0 na_1 na_2 na_3 na_s, .int .i64 (0)]) (.int .i64 (0)) (fun _ => rfl) rfl (by kernel_rfl) rfl ?_
  refine wl_alloc 40 #[.bool false, .int .u64 0, .int .u64 0, .int .u64 0, .int .u64 0, .int .i64 0] rfl (fun _ => by kernel_rfl) rfl ?_
  intro k4 w11 hk hz hq Q4
  have ne_k1_k4 : k1 ≠ k4 := by have := Q1.lt; omega
  have ne_k2_k4 : k2 ≠ k4 := by have := Q2.lt; omega
  have ne_k3_k4 : k3 ≠ k4 := by have := Q3.lt; omega
  have N_k4 : w.heap.size ≤ k4 := by have := M.size; omega
  replace Q1 := Q1.mo hq
  replace Q2 := Q2.mo hq
  replace Q3 := Q3.mo hq
  replace M := M.trans hq
  clear hk hz hq
  refine wl_st 40 (.tmp 10) (.tmp 57) k4 0 (rda na_b na_0 na_1 na_2 na_3 na_s) [.bool false, .int .u64 0, .int .u64 0, .int .u64 0, .int .u64 0, .int .i64 0] (rdl na_b na_0 na_1 na_2 na_3 na_s) Q4 rfl rfl rfl rfl rfl sz40 rfl rfl rfl ?_
  intro w12 hS Qn
  replace Q4 := Qn
  clear Qn
  replace Q1 := hS.other _ _ ne_k1_k4 Q1
  replace Q2 := hS.other _ _ ne_k2_k4 Q2
  replace Q3 := hS.other _ _ ne_k3_k4 Q3
  replace M := hS.mo _ N_k4 M
  clear hS
  refine wl_mv (.tmp 58) (.int .i64 (0)) (fun _ => rfl) rfl rfl ?_
  refine w_nil ?_
  refine xn_then ?_
  refine w_seq ?_
  refine w_reg ?_
  refine wl_load 40 (.tmp 4) (pt k2 0) (rd b_b b_0 b_1 b_2 b_3 b_s) rfl rfl (run_row Q2 40 0 6 (rdl b_b b_0 b_1 b_2 b_3 b_s) rfl Try.underlying40 rfl sz40) rfl ?_
  refine wl_call 47 [(.tmp 60)] _ [rd b_b b_0 b_1 b_2 b_3 b_s] (.tuple #[rd nb_b nb_0 nb_1 nb_2 nb_3 nb_s, .int .i64 (0)]) rfl rfl (fun _ _ => by kernel_rfl) (n2 _) rfl ?_
  intro w13 hq
  replace Q1 := Q1.mo hq
  replace Q2 := Q2.mo hq
  replace Q3 := Q3.mo hq
  replace Q4 := Q4.mo hq
  replace M := M.trans hq
  clear hq
  refine wl_mv (.tmp 61) (.tuple #[rd nb_b nb_0 nb_1 nb_2 nb_3 nb_s, .int .i64 (0)]) (fun _ => rfl) rfl rfl ?_
  refine wl_un (fun v => Instr.extract v 0) (.tmp 59) (.tuple #[rd nb_b nb_0 nb_1 nb_2 nb_3 nb_s, .int .i64 (0)]) (rd nb_b nb_0 nb_1 nb_2 nb_3 nb_s) (fun _ => rfl) rfl (by kernel_rfl) rfl ?_
  refine wl_un (fun v => Instr.extract v 1) (.tmp 59) (.tuple #[rd nb_b nb_0 nb_1 nb_2 nb_3 nb_s, .int .i64 (0)]) (.int .i64 (0)) (fun _ => rfl) rfl (by kernel_rfl) rfl ?_
  refine wl_alloc 40 #[.bool false, .int .u64 0, .int .u64 0, .int .u64 0, .int .u64 0, .int .i64 0] rfl (fun _ => by kernel_rfl) rfl ?_
  intro k5 w14 hk hz hq Q5
  have ne_k1_k5 : k1 ≠ k5 := by have := Q1.lt; omega
  have ne_k2_k5 : k2 ≠ k5 := by have := Q2.lt; omega
  have ne_k3_k5 : k3 ≠ k5 := by have := Q3.lt; omega
  have ne_k4_k5 : k4 ≠ k5 := by have := Q4.lt; omega
  have N_k5 : w.heap.size ≤ k5 := by have := M.size; omega
  replace Q1 := Q1.mo hq
  replace Q2 := Q2.mo hq
  replace Q3 := Q3.mo hq
  replace Q4 := Q4.mo hq
  replace M := M.trans hq
  clear hk hz hq
  refine wl_st 40 (.tmp 12) (.tmp 62) k5 0 (rda nb_b nb_0 nb_1 nb_2 nb_3 nb_s) [.bool false, .int .u64 0, .int .u64 0, .int .u64 0, .int .u64 0, .int .i64 0] (rdl nb_b nb_0 nb_1 nb_2 nb_3 nb_s) Q5 rfl rfl rfl rfl rfl sz40 rfl rfl rfl ?_
  intro w15 hS Qn
  replace Q5 := Qn
  clear Qn
  replace Q1 := hS.other _ _ ne_k1_k5 Q1
  replace Q2 := hS.other _ _ ne_k2_k5 Q2
  replace Q3 := hS.other _ _ ne_k3_k5 Q3
  replace Q4 := hS.other _ _ ne_k4_k5 Q4
  replace M := hS.mo _ N_k5 M
  clear hS
  refine wl_mv (.tmp 63) (.int .i64 (0)) (fun _ => rfl) rfl rfl ?_
  refine w_nil ?_
  refine xn_then ?_
  refine w_seq ?_
  refine w_seq ?_
  refine w_reg ?_
  refine wl_mv (.tmp 11) (.int .i64 (0)) (fun _ => rfl) rfl rfl ?_
  refine wl_bin (fun x y => do eqGuard .neq 32 (.tmp 64) (.const (.int .i64 (0))) x y; binOp .neq 32 x y) (.tmp 64) (.const (.int .i64 (0))) (.int .i64 (0)) (.int .i64 (0)) (.bool false) (fun _ => rfl) rfl rfl (by kernel_rfl) rfl ?_
  refine wl_mv (.tmp 65) (.bool false) (fun _ => rfl) rfl rfl ?_
  refine wl_mv (.tmp 13) (.int .i64 (0)) (fun _ => rfl) rfl rfl ?_
  refine wl_bin (fun x y => do eqGuard .neq 32 (.tmp 67) (.const (.int .i64 (0))) x y; binOp .neq 32 x y) (.tmp 67) (.const (.int .i64 (0))) (.int .i64 (0)) (.int .i64 (0)) (.bool false) (fun _ => rfl) rfl rfl (by kernel_rfl) rfl ?_
  refine wl_pick (.tmp 66) (.const (.bool true)) (.tmp 68) false (.bool false) (fun _ => rfl) rfl rfl rfl ?_
  refine wl_mv (.tmp 69) (.bool false) (fun _ => rfl) rfl rfl ?_
  refine wl_load 40 (.tmp 12) (pt k5 0) (rd nb_b nb_0 nb_1 nb_2 nb_3 nb_s) rfl rfl (run_row Q5 40 0 6 (rdl nb_b nb_0 nb_1 nb_2 nb_3 nb_s) rfl Try.underlying40 rfl sz40) rfl ?_
  refine wl_load 40 (.tmp 10) (pt k4 0) (rd na_b na_0 na_1 na_2 na_3 na_s) rfl rfl (run_row Q4 40 0 6 (rdl na_b na_0 na_1 na_2 na_3 na_s) rfl Try.underlying40 rfl sz40) rfl ?_
  refine wl_call 51 [(.tmp 71), (.tmp 72)] _ [rd nb_b nb_0 nb_1 nb_2 nb_3 nb_s, rd na_b na_0 na_1 na_2 na_3 na_s] (.int .i64 x) rfl rfl (fun _ _ => by kernel_rfl) (n3 _) rfl ?_
  intro w16 hq
  replace Q1 := Q1.mo hq
  replace Q2 := Q2.mo hq
  replace Q3 := Q3.mo hq
  replace Q4 := Q4.mo hq
  replace Q5 := Q5.mo hq
  replace M := M.trans hq
  clear hq
  refine wl_mv (.tmp 7) (.int .i64 x) (fun _ => rfl) rfl rfl ?_
  refine wl_bin (fun x y => do eqGuard .neq 3 (.tmp 73) (.tmp 74) x y; binOp .neq 3 x y) (.tmp 73) (.tmp 74) (.int .i64 x) (.int .i64 x) (.bool false) (fun _ => rfl) rfl rfl (neq3_run (by simp) _ _ _) rfl ?_
  refine wl_pick (.tmp 70) (.const (.bool true)) (.tmp 75) false (.bool false) (fun _ => rfl) rfl rfl rfl ?_
  refine w_nil ?_
  refine xn_then ?_
  refine w_condF rfl ?_
  refine w_skip ?_
  refine xn_then ?_
  refine w_seq ?_
  refine w_reg ?_
  refine wl_load 40 (.tmp 3) (pt k1 0) (rd a_b a_0 a_1 a_2 a_3 a_s) rfl rfl (run_row Q1 40 0 6 (rdl a_b a_0 a_1 a_2 a_3 a_s) rfl Try.underlying40 rfl sz40) rfl ?_
  refine wl_call 45 [(.tmp 78)] _ [rd a_b a_0 a_1 a_2 a_3 a_s] (.tuple #[rd t_b t_0 t_1 t_2 t_3 t_s, .int .i64 (0)]) rfl rfl (fun _ _ => by kernel_rfl) (t1 _) rfl ?_
  intro w17 hq
  replace Q1 := Q1.mo hq
  replace Q2 := Q2.mo hq
  replace Q3 := Q3.mo hq
  replace Q4 := Q4.mo hq
  replace Q5 := Q5.mo hq
  replace M := M.trans hq
  clear hq
  refine wl_mv (.tmp 79) (.tuple #[rd t_b t_0 t_1 t_2 t_3 t_s, .int .i64 (0)]) (fun _ => rfl) rfl rfl ?_
  refine wl_un (fun v => Instr.extract v 0) (.tmp 77) (.tuple #[rd t_b t_0 t_1 t_2 t_3 t_s, .int .i64 (0)]) (rd t_b t_0 t_1 t_2 t_3 t_s) (fun _ => rfl) rfl (by kernel_rfl) rfl ?_
  refine wl_un (fun v => Instr.extract v 1) (.tmp 77) (.tuple #[rd t_b t_0 t_1 t_2 t_3 t_s, .int .i64 (0)]) (.int .i64 (0)) (fun _ => rfl) rfl (by kernel_rfl) rfl ?_
  refine wl_alloc 40 #[.bool false, .int .u64 0, .int .u64 0, .int .u64 0, .int .u64 0, .int .i64 0] rfl (fun _ => by kernel_rfl) rfl ?_
  intro k6 w18 hk hz hq Q6
  have ne_k1_k6 : k1 ≠ k6 := by have := Q1.lt; omega
  have ne_k2_k6 : k2 ≠ k6 := by have := Q2.lt; omega
  have ne_k3_k6 : k3 ≠ k6 := by have := Q3.lt; omega
  have ne_k4_k6 : k4 ≠ k6 := by have := Q4.lt; omega
  have ne_k5_k6 : k5 ≠ k6 := by have := Q5.lt; omega
  have N_k6 : w.heap.size ≤ k6 := by have := M.size; omega
  replace Q1 := Q1.mo hq
  replace Q2 := Q2.mo hq
  replace Q3 := Q3.mo hq
  replace Q4 := Q4.mo hq
  replace Q5 := Q5.mo hq
  replace M := M.trans hq
  clear hk hz hq
  refine wl_st 40 (.tmp 14) (.tmp 80) k6 0 (rda t_b t_0 t_1 t_2 t_3 t_s) [.bool false, .int .u64 0, .int .u64 0, .int .u64 0, .int .u64 0, .int .i64 0] (rdl t_b t_0 t_1 t_2 t_3 t_s) Q6 rfl rfl rfl rfl rfl sz40 rfl rfl rfl ?_
  intro w19 hS Qn
  replace Q6 := Qn
  clear Qn
  replace Q1 := hS.other _ _ ne_k1_k6 Q1
  replace Q2 := hS.other _ _ ne_k2_k6 Q2
  replace Q3 := hS.other _ _ ne_k3_k6 Q3
  replace Q4 := hS.other _ _ ne_k4_k6 Q4
  replace Q5 := hS.other _ _ ne_k5_k6 Q5
  replace M := hS.mo _ N_k6 M
  clear hS
  refine wl_mv (.tmp 81) (.int .i64 (0)) (fun _ => rfl) rfl rfl ?_
  refine w_nil ?_
  refine xn_then ?_
  refine w_seq ?_
  refine w_seq ?_
  refine w_reg ?_
  refine wl_mv (.tmp 11) (.int .i64 (0)) (fun _ => rfl) rfl rfl ?_
  refine wl_bin (fun x y => do eqGuard .neq 32 (.tmp 82) (.const (.int .i64 (0))) x y; binOp .neq 32 x y) (.tmp 82) (.const (.int .i64 (0))) (.int .i64 (0)) (.int .i64 (0)) (.bool false) (fun _ => rfl) rfl rfl (by kernel_rfl) rfl ?_
  refine wl_mv (.tmp 83) (.bool false) (fun _ => rfl) rfl rfl ?_
  refine wl_load 40 (.tmp 3) (pt k1 0) (rd a_b a_0 a_1 a_2 a_3 a_s) rfl rfl (run_row Q1 40 0 6 (rdl a_b a_0 a_1 a_2 a_3 a_s) rfl Try.underlying40 rfl sz40) rfl ?_
  refine wl_load 40 (.tmp 14) (pt k6 0) (rd t_b t_0 t_1 t_2 t_3 t_s) rfl rfl (run_row Q6 40 0 6 (rdl t_b t_0 t_1 t_2 t_3 t_s) rfl Try.underlying40 rfl sz40) rfl ?_
  refine wl_call 51 [(.tmp 85), (.tmp 86)] _ [rd a_b a_0 a_1 a_2 a_3 a_s, rd t_b t_0 t_1 t_2 t_3 t_s] (.int .i64 (0)) rfl rfl (fun _ _ => by kernel_rfl) (t2 _) rfl ?_
  intro w20 hq
  replace Q1 := Q1.mo hq
  replace Q2 := Q2.mo hq
  replace Q3 := Q3.mo hq
  replace Q4 := Q4.mo hq
  replace Q5 := Q5.mo hq
  replace Q6 := Q6.mo hq
  replace M := M.trans hq
  clear hq
  refine wl_bin (fun x y => do eqGuard .neq 3 (.tmp 87) (.const (.int .i64 (0))) x y; binOp .neq 3 x y) (.tmp 87) (.const (.int .i64 (0))) (.int .i64 (0)) (.int .i64 (0)) (.bool false) (fun _ => rfl) rfl rfl (by kernel_rfl) rfl ?_
  refine wl_pick (.tmp 84) (.const (.bool true)) (.tmp 88) false (.bool false) (fun _ => rfl) rfl rfl rfl ?_
  refine wl_mv (.tmp 89) (.bool false) (fun _ => rfl) rfl rfl ?_
  refine wl_un (fun v => Instr.fieldAt 40 v 2) (.tmp 14) (pt k6 0) (pt k6 5) (fun _ => rfl) rfl (by kernel_rfl) rfl ?_
  refine wl_load 3 (.tmp 91) (pt k6 5) (.int .i64 t_s) rfl rfl (run_one Q6 3 5 rfl Try.underlying3 rfl) rfl ?_
  refine wl_un (fun v => Instr.fieldAt 40 v 2) (.tmp 3) (pt k1 0) (pt k1 5) (fun _ => rfl) rfl (by kernel_rfl) rfl ?_
  refine wl_load 3 (.tmp 93) (pt k1 5) (.int .i64 a_s) rfl rfl (run_one Q1 3 5 rfl Try.underlying3 rfl) rfl ?_
  refine wl_bin (fun x y => do eqGuard .gtr 3 (.tmp 92) (.tmp 94) x y; binOp .gtr 3 x y) (.tmp 92) (.tmp 94) (.int .i64 t_s) (.int .i64 a_s) (.bool false) (fun _ => rfl) rfl rfl (gtr3_run ht _ _ _) rfl ?_
  refine wl_pick (.tmp 90) (.const (.bool true)) (.tmp 95) false (.bool false) (fun _ => rfl) rfl rfl rfl ?_
  refine w_nil ?_
  refine xn_then ?_
  refine w_condF rfl ?_
  refine w_skip ?_
  refine xn_then ?_
  refine w_seq ?_
  refine w_reg ?_
  refine wl_load 40 (.tmp 3) (pt k1 0) (rd a_b a_0 a_1 a_2 a_3 a_s) rfl rfl (run_row Q1 40 0 6 (rdl a_b a_0 a_1 a_2 a_3 a_s) rfl Try.underlying40 rfl sz40) rfl ?_
  refine wl_load 40 (.tmp 5) (pt k3 0) (rd c_b c_0 c_1 c_2 c_3 c_s) rfl rfl (run_row Q3 40 0 6 (rdl c_b c_0 c_1 c_2 c_3 c_s) rfl Try.underlying40 rfl sz40) rfl ?_
  refine wl_call 35 [(.tmp 98), (.tmp 99)] _ [rd a_b a_0 a_1 a_2 a_3 a_s, rd c_b c_0 c_1 c_2 c_3 c_s] (.tuple #[rd p_b p_0 p_1 p_2 p_3 p_s, .int .i64 e]) rfl rfl (fun _ _ => by kernel_rfl) (a1 _) rfl ?_
  intro w21 hq
  replace Q1 := Q1.mo hq
  replace Q2 := Q2.mo hq
  replace Q3 := Q3.mo hq
  replace Q4 := Q4.mo hq
  replace Q5 := Q5.mo hq
  replace Q6 := Q6.mo hq
  replace M := M.trans hq
  clear hq
  refine wl_mv (.tmp 100) (.tuple #[rd p_b p_0 p_1 p_2 p_3 p_s, .int .i64 e]) (fun _ => rfl) rfl rfl ?_
  refine wl_un (fun v => Instr.extract v 0) (.tmp 97) (.tuple #[rd p_b p_0 p_1 p_2 p_3 p_s, .int .i64 e]) (rd p_b p_0 p_1 p_2 p_3 p_s) (fun _ => rfl) rfl (by kernel_rfl) rfl ?_
  refine wl_un (fun v => Instr.extract v 1) (.tmp 97) (.tuple #[rd p_b p_0 p_1 p_2 p_3 p_s, .int .i64 e]) (.int .i64 e) (fun _ => rfl) rfl (by kernel_rfl) rfl ?_
  refine wl_alloc 40 #[.bool false, .int .u64 0, .int .u64 0, .int .u64 0, .int .u64 0, .int .i64 0] rfl (fun _ => by kernel_rfl) rfl ?_
  intro k7 w22 hk hz hq Q7
  have ne_k1_k7 : k1 ≠ k7 := by have := Q1.lt; omega
  have ne_k2_k7 : k2 ≠ k7 := by have := Q2.lt; omega
  have ne_k3_k7 : k3 ≠ k7 := by have := Q3.lt; omega
  have ne_k4_k7 : k4 ≠ k7 := by have := Q4.lt; omega
  have ne_k5_k7 : k5 ≠ k7 := by have := Q5.lt; omega
  have ne_k6_k7 : k6 ≠ k7 := by have := Q6.lt; omega
  have N_k7 : w.heap.size ≤ k7 := by have := M.size; omega
  replace Q1 := Q1.mo hq
  replace Q2 := Q2.mo hq
  replace Q3 := Q3.mo hq
  replace Q4 := Q4.mo hq
  replace Q5 := Q5.mo hq
  replace Q6 := Q6.mo hq
  replace M := M.trans hq
  clear hk hz hq
  refine wl_st 40 (.tmp 15) (.tmp 101) k7 0 (rda p_b p_0 p_1 p_2 p_3 p_s) [.bool false, .int .u64 0, .int .u64 0, .int .u64 0, .int .u64 0, .int .i64 0] (rdl p_b p_0 p_1 p_2 p_3 p_s) Q7 rfl rfl rfl rfl rfl sz40 rfl rfl rfl ?_
  intro w23 hS Qn
  replace Q7 := Qn
  clear Qn
  replace Q1 := hS.other _ _ ne_k1_k7 Q1
  replace Q2 := hS.other _ _ ne_k2_k7 Q2
  replace Q3 := hS.other _ _ ne_k3_k7 Q3
  replace Q4 := hS.other _ _ ne_k4_k7 Q4
  replace Q5 := hS.other _ _ ne_k5_k7 Q5
  replace Q6 := hS.other _ _ ne_k6_k7 Q6
  replace M := hS.mo _ N_k7 M
  clear hS
  refine wl_mv (.tmp 102) (.int .i64 e) (fun _ => rfl) rfl rfl ?_
  refine w_nil ?_
  refine xn_then ?_
  refine w_seq ?_
  refine w_reg ?_
  refine wl_load 40 (.tmp 4) (pt k2 0) (rd b_b b_0 b_1 b_2 b_3 b_s) rfl rfl (run_row Q2 40 0 6 (rdl b_b b_0 b_1 b_2 b_3 b_s) rfl Try.underlying40 rfl sz40) rfl ?_
  refine wl_load 40 (.tmp 5) (pt k3 0) (rd c_b c_0 c_1 c_2 c_3 c_s) rfl rfl (run_row Q3 40 0 6 (rdl c_b c_0 c_1 c_2 c_3 c_s) rfl Try.underlying40 rfl sz40) rfl ?_
  refine wl_call 35 [(.tmp 104), (.tmp 105)] _ [rd b_b b_0 b_1 b_2 b_3 b_s, rd c_b c_0 c_1 c_2 c_3 c_s] (.tuple #[rd q_b q_0 q_1 q_2 q_3 q_s, .int .i64 f]) rfl rfl (fun _ _ => by kernel_rfl) (a2 _) rfl ?_
  intro w24 hq
  replace Q1 := Q1.mo hq
  replace Q2 := Q2.mo hq
  replace Q3 := Q3.mo hq
  replace Q4 := Q4.mo hq
  replace Q5 := Q5.mo hq
  replace Q6 := Q6.mo hq
  replace Q7 := Q7.mo hq
  replace M := M.trans hq
  clear hq
  refine wl_mv (.tmp 106) (.tuple #[rd q_b q_0 q_1 q_2 q_3 q_s, .int .i64 f]) (fun _ => rfl) rfl rfl ?_
  refine wl_un (fun v => Instr.extract v 0) (.tmp 103) (.tuple #[rd q_b q_0 q_1 q_2 q_3 q_s, .int .i64 f]) (rd q_b q_0 q_1 q_2 q_3 q_s) (fun _ => rfl) rfl (by kernel_rfl) rfl ?_
  refine wl_un (fun v => Instr.extract v 1) (.tmp 103) (.tuple #[rd q_b q_0 q_1 q_2 q_3 q_s, .int .i64 f]) (.int .i64 f) (fun _ => rfl) rfl (by kernel_rfl) rfl ?_
  refine wl_alloc 40 #[.bool false, .int .u64 0, .int .u64 0, .int .u64 0, .int .u64 0, .int .i64 0] rfl (fun _ => by kernel_rfl) rfl ?_
  intro k8 w25 hk hz hq Q8
  have ne_k1_k8 : k1 ≠ k8 := by have := Q1.lt; omega
  have ne_k2_k8 : k2 ≠ k8 := by have := Q2.lt; omega
  have ne_k3_k8 : k3 ≠ k8 := by have := Q3.lt; omega
  have ne_k4_k8 : k4 ≠ k8 := by have := Q4.lt; omega
  have ne_k5_k8 : k5 ≠ k8 := by have := Q5.lt; omega
  have ne_k6_k8 : k6 ≠ k8 := by have := Q6.lt; omega
  have ne_k7_k8 : k7 ≠ k8 := by have := Q7.lt; omega
  have N_k8 : w.heap.size ≤ k8 := by have := M.size; omega
  replace Q1 := Q1.mo hq
  replace Q2 := Q2.mo hq
  replace Q3 := Q3.mo hq
  replace Q4 := Q4.mo hq
  replace Q5 := Q5.mo hq
  replace Q6 := Q6.mo hq
  replace Q7 := Q7.mo hq
  replace M := M.trans hq
  clear hk hz hq
  refine wl_st 40 (.tmp 16) (.tmp 107) k8 0 (rda q_b q_0 q_1 q_2 q_3 q_s) [.bool false, .int .u64 0, .int .u64 0, .int .u64 0, .int .u64 0, .int .i64 0] (rdl q_b q_0 q_1 q_2 q_3 q_s) Q8 rfl rfl rfl rfl rfl sz40 rfl rfl rfl ?_
  intro w26 hS Qn
  replace Q8 := Qn
  clear Qn
  replace Q1 := hS.other _ _ ne_k1_k8 Q1
  replace Q2 := hS.other _ _ ne_k2_k8 Q2
  replace Q3 := hS.other _ _ ne_k3_k8 Q3
  replace Q4 := hS.other _ _ ne_k4_k8 Q4
  replace Q5 := hS.other _ _ ne_k5_k8 Q5
  replace Q6 := hS.other _ _ ne_k6_k8 Q6
  replace Q7 := hS.other _ _ ne_k7_k8 Q7
  replace M := hS.mo _ N_k8 M
  clear hS
  refine wl_mv (.tmp 108) (.int .i64 f) (fun _ => rfl) rfl rfl ?_
  refine w_nil ?_
  refine xn_then ?_
  refine w_seq ?_
  refine w_seq ?_
  refine w_reg ?_
  refine wl_mv (.tmp 11) (.int .i64 e) (fun _ => rfl) rfl rfl ?_
  refine wl_bin (fun x y => do eqGuard .neq 32 (.tmp 109) (.const (.int .i64 (0))) x y; binOp .neq 32 x y) (.tmp 109) (.const (.int .i64 (0))) (.int .i64 e) (.int .i64 (0)) (.bool true) (fun _ => rfl) rfl rfl (neq32_run he _ _ _) rfl ?_
  refine wl_mv (.tmp 110) (.bool true) (fun _ => rfl) rfl rfl ?_
  refine wl_skip rfl ?_
  refine wl_skip rfl ?_
  refine wl_pick (.tmp 111) (.const (.bool true)) (.tmp 113) true (.bool true) (fun _ => rfl) rfl rfl rfl ?_
  refine w_nil ?_
  refine xn_then ?_
  refine w_condT rfl ?_
  refine w_seq ?_
  refine w_reg ?_
  refine wl_mv (.const (.bool true)) (.bool true) (fun _ => rfl) rfl rfl ?_
  refine w_nil ?_
  refine xn_then ?_
  refine w_ret ?_
  refine xr_then ?_
  exact w_ret1 _ (.bool true) rfl rfl ⟨rfl, M⟩
theorem order_c_e2 (a_b : Bool) (a_0 a_1 a_2 a_3 a_s : Int) (b_b : Bool) (b_0 b_1 b_2 b_3 b_s : Int) (c_b : Bool) (c_0 c_1 c_2 c_3 c_s : Int) (na_b : Bool) (na_0 na_1 na_2 na_3 na_s : Int) (nb_b : Bool) (nb_0 nb_1 nb_2 nb_3 nb_s : Int) (t_b : Bool) (t_0 t_1 t_2 t_3 t_s : Int) (p_b : Bool) (p_0 p_1 p_2 p_3 p_s : Int) (q_b : Bool) (q_0 q_1 q_2 q_3 q_s : Int) (x y z : Int) (e : Int) (w : World) (h1 : ∀ w, Calls Try.prog 51 #[rd a_b a_0 a_1 a_2 a_3 a_s, rd b_b b_0 b_1 b_2 b_3 b_s] w fun e' w' => e' = .returned (.int .i64 x) ∧ Mo w w') (h2 : ∀ w, Calls Try.prog 51 #[rd b_b b_0 b_1 b_2 b_3 b_s, rd c_b c_0 c_1 c_2 c_3 c_s] w fun e' w' => e' = .returned (.int .i64 y) ∧ Mo w w') (h3 : ∀ w, Calls Try.prog 51 #[rd a_b a_0 a_1 a_2 a_3 a_s, rd c_b c_0 c_1 c_2 c_3 c_s] w fun e' w' => e' = .returned (.int .i64 z) ∧ Mo w w') (g1 : ∀ w, Calls Try.prog 29 #[rd a_b a_0 a_1 a_2 a_3 a_s] w fun e' w' => e' = .returned (.int .i64 (0)) ∧ Mo w w') (g2 : ∀ w, Calls Try.prog 29 #[rd b_b b_0 b_1 b_2 b_3 b_s] w fun e' w' => e' = .returned (.int .i64 (0)) ∧ Mo w w') (g3 : ∀ w, Calls Try.prog 29 #[rd c_b c_0 c_1 c_2 c_3 c_s] w fun e' w' => e' = .returned (.int .i64 (0)) ∧ Mo w w') (hx : decide (x ≤ 0) = true) (hy : decide (y ≤ 0) = true) (hz : decide (z > 0) = false) (n1 : ∀ w, Calls Try.prog 47 #[rd a_b a_0 a_1 a_2 a_3 a_s] w fun e' w' => e' = .returned (.tuple #[rd na_b na_0 na_1 na_2 na_3 na_s, .int .i64 (0)]) ∧ Mo w w') (n2 : ∀ w, Calls Try.prog 47 #[rd b_b b_0 b_1 b_2 b_3 b_s] w fun e' w' => e' = .returned (.tuple #[rd nb_b nb_0 nb_1 nb_2 nb_3 nb_s, .int .i64 (0)]) ∧ Mo w w') (n3 : ∀ w, Calls Try.prog 51 #[rd nb_b nb_0 nb_1 nb_2 nb_3 nb_s, rd na_b na_0 na_1 na_2 na_3 na_s] w fun e' w' => e' = .returned (.int .i64 x) ∧ Mo w w') (t1 : ∀ w, Calls Try.prog 45 #[rd a_b a_0 a_1 a_2 a_3 a_s] w fun e' w' => e' = .returned (.tuple #[rd t_b t_0 t_1 t_2 t_3 t_s, .int .i64 (0)]) ∧ Mo w w') (t2 : ∀ w, Calls Try.prog 51 #[rd a_b a_0 a_1 a_2 a_3 a_s, rd t_b t_0 t_1 t_2 t_3 t_s] w fun e' w' => e' = .returned (.int .i64 (0)) ∧ Mo w w') (ht : decide (t_s > a_s) = false) (a1 : ∀ w, Calls Try.prog 35 #[rd a_b a_0 a_1 a_2 a_3 a_s, rd c_b c_0 c_1 c_2 c_3 c_s] w fun e' w' => e' = .returned (.tuple #[rd p_b p_0 p_1 p_2 p_3 p_s, .int .i64 (0)]) ∧ Mo w w') (a2 : ∀ w, Calls Try.prog 35 #[rd b_b b_0 b_1 b_2 b_3 b_s, rd c_b c_0 c_1 c_2 c_3 c_s] w fun e' w' => e' = .returned (.tuple #[rd q_b q_0 q_1 q_2 q_3 q_s, .int .i64 e]) ∧ Mo w w') (he : (e == 0) = false) :
    Calls Try.prog 14 #[rd a_b a_0 a_1 a_2 a_3 a_s, rd b_b b_0 b_1 b_2 b_3 b_s, rd c_b c_0 c_1 c_2 c_3 c_s] w fun e' w' => e' = .returned (.bool true) ∧ Mo w w' := by
  refine w_enter 120 Try.func14 Try.ntmps14 rfl rfl ?_
  have M : Mo w w := Mo.refl _
  refine w_seq ?_
  refine w_reg ?_
  refine wl_box 40 (.tmp 0) (rd a_b a_0 a_1 a_2 a_3 a_s) ((rda a_b a_0 a_1 a_2 a_3 a_s)) rfl rfl (fun _ => by kernel_rfl) rfl ?_
  intro k1 w1 hk hz hq Q1
  have N_k1 : w.heap.size ≤ k1 := by have := M.size; omega
  replace M := M.trans hq
  clear hk hz hq
  refine wl_box 40 (.tmp 1) (rd b_b b_0 b_1 b_2 b_3 b_s) ((rda b_b b_0 b_1 b_2 b_3 b_s)) rfl rfl (fun _ => by kernel_rfl) rfl ?_
  intro k2 w2 hk hz hq Q2
  have ne_k1_k2 : k1 ≠ k2 := by have := Q1.lt; omega
  have N_k2 : w.heap.size ≤ k2 := by have := M.size; omega
  replace Q1 := Q1.mo hq
  replace M := M.trans hq
  clear hk hz hq
  refine wl_box 40 (.tmp 2) (rd c_b c_0 c_1 c_2 c_3 c_s) ((rda c_b c_0 c_1 c_2 c_3 c_s)) rfl rfl (fun _ => by kernel_rfl) rfl ?_
  intro k3 w3 hk hz hq Q3
  have ne_k1_k3 : k1 ≠ k3 := by have := Q1.lt; omega
  have ne_k2_k3 : k2 ≠ k3 := by have := Q2.lt; omega
  have N_k3 : w.heap.size ≤ k3 := by have := M.size; omega
  replace Q1 := Q1.mo hq
  replace Q2 := Q2.mo hq
  replace M := M.trans hq
  clear hk hz hq
  refine wl_mv (.const (.bool false)) (.bool false) (fun _ => rfl) rfl rfl ?_
  refine w_nil ?_
  refine xn_then ?_
  refine w_seq ?_
  refine w_any 8 [.inl (rd a_b a_0 a_1 a_2 a_3 a_s), .inl (rd b_b b_0 b_1 b_2 b_3 b_s), .inl (.int .i64 x), .inl (rd b_b b_0 b_1 b_2 b_3 b_s), .inl (rd c_b c_0 c_1 c_2 c_3 c_s), .inl (.int .i64 y), .inl (rd a_b a_0 a_1 a_2 a_3 a_s), .inl (rd c_b c_0 c_1 c_2 c_3 c_s)] [] (by kernel_rfl) (by kernel_rfl) (by kernel_rfl) (by kernel_rfl) rfl (by kernel_rfl) (by kernel_rfl) late_nil ?_ ?_ ?_
  · exact Ds.none rfl
  · refine ea_cons ?_ (ea_cons ?_ (ea_cons ?_ (ea_cons ?_ (ea_cons ?_ (ea_cons ?_ (ea_cons ?_ (ea_cons ?_ (ea_nil))))))))
    · exact og_eq (rd a_b a_0 a_1 a_2 a_3 a_s) rfl (fun f wf hq hd K hK => have Q1 := Q1.mo hq; go_run rfl (wo_load 40 (.tmp 3) (pt k1 0) (rd a_b a_0 a_1 a_2 a_3 a_s) rfl rfl (run_row Q1 40 0 6 (rdl a_b a_0 a_1 a_2 a_3 a_s) rfl Try.underlying40 rfl sz40) (hK _ (Mo.refl _))))
    · exact og_eq (rd b_b b_0 b_1 b_2 b_3 b_s) rfl (fun f wf hq hd K hK => have Q2 := Q2.mo hq; go_run rfl (wo_load 40 (.tmp 4) (pt k2 0) (rd b_b b_0 b_1 b_2 b_3 b_s) rfl rfl (run_row Q2 40 0 6 (rdl b_b b_0 b_1 b_2 b_3 b_s) rfl Try.underlying40 rfl sz40) (hK _ (Mo.refl _))))
    · exact og_eq (.int .i64 x) rfl (fun f wf hq hd K hK => go_run rfl (wo_call 51 [(.tmp 17), (.tmp 18)] _ [rd a_b a_0 a_1 a_2 a_3 a_s, rd b_b b_0 b_1 b_2 b_3 b_s] (.int .i64 x) rfl (li2 (hd 0 rfl) (hd 1 rfl)) (fun _ _ => by kernel_rfl) (h1 _) hK))
    · exact og_eq (rd b_b b_0 b_1 b_2 b_3 b_s) rfl (fun f wf hq hd K hK => have Q2 := Q2.mo hq; go_run rfl (wo_load 40 (.tmp 4) (pt k2 0) (rd b_b b_0 b_1 b_2 b_3 b_s) rfl rfl (run_row Q2 40 0 6 (rdl b_b b_0 b_1 b_2 b_3 b_s) rfl Try.underlying40 rfl sz40) (hK _ (Mo.refl _))))
    · exact og_eq (rd c_b c_0 c_1 c_2 c_3 c_s) rfl (fun f wf hq hd K hK => have Q3 := Q3.mo hq; go_run rfl (wo_load 40 (.tmp 5) (pt k3 0) (rd c_b c_0 c_1 c_2 c_3 c_s) rfl rfl (run_row Q3 40 0 6 (rdl c_b c_0 c_1 c_2 c_3 c_s) rfl Try.underlying40 rfl sz40) (hK _ (Mo.refl _))))
    · exact og_eq (.int .i64 y) rfl (fun f wf hq hd K hK => go_run rfl (wo_call 51 [(.tmp 20), (.tmp 21)] _ [rd b_b b_0 b_1 b_2 b_3 b_s, rd c_b c_0 c_1 c_2 c_3 c_s] (.int .i64 y) rfl (li2 (hd 3 rfl) (hd 4 rfl)) (fun _ _ => by kernel_rfl) (h2 _) hK))
    · exact og_eq (rd a_b a_0 a_1 a_2 a_3 a_s) rfl (fun f wf hq hd K hK => have Q1 := Q1.mo hq; go_run rfl (wo_load 40 (.tmp 3) (pt k1 0) (rd a_b a_0 a_1 a_2 a_3 a_s) rfl rfl (run_row Q1 40 0 6 (rdl a_b a_0 a_1 a_2 a_3 a_s) rfl Try.underlying40 rfl sz40) (hK _ (Mo.refl _))))
    · exact og_eq (rd c_b c_0 c_1 c_2 c_3 c_s) rfl (fun f wf hq hd K hK => have Q3 := Q3.mo hq; go_run rfl (wo_load 40 (.tmp 5) (pt k3 0) (rd c_b c_0 c_1 c_2 c_3 c_s) rfl rfl (run_row Q3 40 0 6 (rdl c_b c_0 c_1 c_2 c_3 c_s) rfl Try.underlying40 rfl sz40) (hK _ (Mo.refl _))))
  intro kf4 w4 hq hR hne
  replace Q1 := Q1.mo hq
  replace Q2 := Q2.mo hq
  replace Q3 := Q3.mo hq
  replace M := M.trans hq
  clear hq hR hne
  refine wl_call 51 [(.tmp 23), (.tmp 24)] _ [rd a_b a_0 a_1 a_2 a_3 a_s, rd c_b c_0 c_1 c_2 c_3 c_s] (.int .i64 z) rfl rfl (fun _ _ => by kernel_rfl) (h3 _) rfl ?_
  intro w5 hq
  replace Q1 := Q1.mo hq
  replace Q2 := Q2.mo hq
  replace Q3 := Q3.mo hq
  replace M := M.trans hq
  clear hq
  refine wl_mv (.tmp 19) (.int .i64 x) (fun _ => rfl) rfl rfl ?_
  refine wl_mv (.tmp 22) (.int .i64 y) (fun _ => rfl) rfl rfl ?_
  refine wl_mv (.tmp 25) (.int .i64 z) (fun _ => rfl) rfl rfl ?_
  refine w_nil ?_
  refine xn_then ?_
  refine w_seq ?_
  refine w_seq ?_
  refine w_reg ?_
  refine wl_call 28 [] _ [] (.bool true) rfl rfl (fun _ _ => by kernel_rfl) (begun_n _) rfl ?_
  intro w6 hq
  replace Q1 := Q1.mo hq
  replace Q2 := Q2.mo hq
  replace Q3 := Q3.mo hq
  replace M := M.trans hq
  clear hq
  refine wl_un (fun v => Op.unary .not v) (.tmp 26) (.bool true) (.bool false) (fun _ => rfl) rfl (by kernel_rfl) rfl ?_
  refine wl_mv (.tmp 27) (.bool false) (fun _ => rfl) rfl rfl ?_
  refine wl_load 40 (.tmp 3) (pt k1 0) (rd a_b a_0 a_1 a_2 a_3 a_s) rfl rfl (run_row Q1 40 0 6 (rdl a_b a_0 a_1 a_2 a_3 a_s) rfl Try.underlying40 rfl sz40) rfl ?_
  refine wl_call 29 [(.tmp 29)] _ [rd a_b a_0 a_1 a_2 a_3 a_s] (.int .i64 (0)) rfl rfl (fun _ _ => by kernel_rfl) (g1 _) rfl ?_
  intro w7 hq
  replace Q1 := Q1.mo hq
  replace Q2 := Q2.mo hq
  replace Q3 := Q3.mo hq
  replace M := M.trans hq
  clear hq
  refine wl_bin (fun x y => do eqGuard .neq 32 (.tmp 30) (.const (.int .i64 (0))) x y; binOp .neq 32 x y) (.tmp 30) (.const (.int .i64 (0))) (.int .i64 (0)) (.int .i64 (0)) (.bool false) (fun _ => rfl) rfl rfl (by kernel_rfl) rfl ?_
  refine wl_pick (.tmp 28) (.const (.bool true)) (.tmp 31) false (.bool false) (fun _ => rfl) rfl rfl rfl ?_
  refine wl_mv (.tmp 32) (.bool false) (fun _ => rfl) rfl rfl ?_
  refine wl_load 40 (.tmp 4) (pt k2 0) (rd b_b b_0 b_1 b_2 b_3 b_s) rfl rfl (run_row Q2 40 0 6 (rdl b_b b_0 b_1 b_2 b_3 b_s) rfl Try.underlying40 rfl sz40) rfl ?_
  refine wl_call 29 [(.tmp 34)] _ [rd b_b b_0 b_1 b_2 b_3 b_s] (.int .i64 (0)) rfl rfl (fun _ _ => by kernel_rfl) (g2 _) rfl ?_
  intro w8 hq
  replace Q1 := Q1.mo hq
  replace Q2 := Q2.mo hq
  replace Q3 := Q3.mo hq
  replace M := M.trans hq
  clear hq
  refine wl_bin (fun x y => do eqGuard .neq 32 (.tmp 35) (.const (.int .i64 (0))) x y; binOp .neq 32 x y) (.tmp 35) (.const (.int .i64 (0))) (.int .i64 (0)) (.int .i64 (0)) (.bool false) (fun _ => rfl) rfl rfl (by kernel_rfl) rfl ?_
  refine wl_pick (.tmp 33) (.const (.bool true)) (.tmp 36) false (.bool false) (fun _ => rfl) rfl rfl rfl ?_
  refine wl_mv (.tmp 37) (.bool false) (fun _ => rfl) rfl rfl ?_
  refine wl_load 40 (.tmp 5) (pt k3 0) (rd c_b c_0 c_1 c_2 c_3 c_s) rfl rfl (run_row Q3 40 0 6 (rdl c_b c_0 c_1 c_2 c_3 c_s) rfl Try.underlying40 rfl sz40) rfl ?_
  refine wl_call 29 [(.tmp 39)] _ [rd c_b c_0 c_1 c_2 c_3 c_s] (.int .i64 (0)) rfl rfl (fun _ _ => by kernel_rfl) (g3 _) rfl ?_
  intro w9 hq
  replace Q1 := Q1.mo hq
  replace Q2 := Q2.mo hq
  replace Q3 := Q3.mo hq
  replace M := M.trans hq
  clear hq
  refine wl_bin (fun x y => do eqGuard .neq 32 (.tmp 40) (.const (.int .i64 (0))) x y; binOp .neq 32 x y) (.tmp 40) (.const (.int .i64 (0))) (.int .i64 (0)) (.int .i64 (0)) (.bool false) (fun _ => rfl) rfl rfl (by kernel_rfl) rfl ?_
  refine wl_pick (.tmp 38) (.const (.bool true)) (.tmp 41) false (.bool false) (fun _ => rfl) rfl rfl rfl ?_
  refine w_nil ?_
  refine xn_then ?_
  refine w_condF rfl ?_
  refine w_skip ?_
  refine xn_then ?_
  refine w_seq ?_
  refine w_seq ?_
  refine w_reg ?_
  refine wl_mv (.tmp 7) (.int .i64 x) (fun _ => rfl) rfl rfl ?_
  refine wl_bin (fun x y => do eqGuard .leq 3 (.tmp 44) (.const (.int .i64 (0))) x y; binOp .leq 3 x y) (.tmp 44) (.const (.int .i64 (0))) (.int .i64 x) (.int .i64 (0)) (.bool true) (fun _ => rfl) rfl rfl (leq3_run hx _ _ _) rfl ?_
  refine wl_mv (.tmp 45) (.bool true) (fun _ => rfl) rfl rfl ?_
  refine wl_mv (.tmp 8) (.int .i64 y) (fun _ => rfl) rfl rfl ?_
  refine wl_bin (fun x y => do eqGuard .leq 3 (.tmp 47) (.const (.int .i64 (0))) x y; binOp .leq 3 x y) (.tmp 47) (.const (.int .i64 (0))) (.int .i64 y) (.int .i64 (0)) (.bool true) (fun _ => rfl) rfl rfl (leq3_run hy _ _ _) rfl ?_
  refine wl_pick (.tmp 46) (.tmp 48) (.const (.bool false)) true (.bool true) (fun _ => rfl) rfl rfl rfl ?_
  refine wl_mv (.tmp 49) (.bool true) (fun _ => rfl) rfl rfl ?_
  refine wl_mv (.tmp 9) (.int .i64 z) (fun _ => rfl) rfl rfl ?_
  refine wl_bin (fun x y => do eqGuard .gtr 3 (.tmp 51) (.const (.int .i64 (0))) x y; binOp .gtr 3 x y) (.tmp 51) (.const (.int .i64 (0))) (.int .i64 z) (.int .i64 (0)) (.bool false) (fun _ => rfl) rfl rfl (gtr3_run hz _ _ _) rfl ?_
  refine wl_pick (.tmp 50) (.tmp 52) (.const (.bool false)) true (.bool false) (fun _ => rfl) rfl rfl rfl ?_
  refine w_nil ?_
  refine xn_then ?_
  refine w_condF rfl ?_
  refine w_skip ?_
  refine xn_then ?_
  refine w_seq ?_
  refine w_reg ?_
  refine wl_load 40 (.tmp 3) (pt k1 0) (rd a_b a_0 a_1 a_2 a_3 a_s) rfl rfl (run_row Q1 40 0 6 (rdl a_b a_0 a_1 a_2 a_3 a_s) rfl Try.underlying40 rfl sz40) rfl ?_
  refine wl_call 47 [(.tmp 55)] _ [rd a_b a_0 a_1 a_2 a_3 a_s] (.tuple #[rd na_b na_0 na_1 na_2 na_3 na_s, .int .i64 (0)]) rfl rfl (fun _ _ => by kernel_rfl) (n1 _) rfl ?_
  intro w10 hq
  replace Q1 := Q1.mo hq
  replace Q2 := Q2.mo hq
  replace Q3 := Q3.mo hq
  replace M := M.trans hq
  clear hq
  refine wl_mv (.tmp 56) (.tuple #[rd na_b na_0 na_1 na_2 na_3 na_s, .int .i64 (0)]) (fun _ => rfl) rfl rfl ?_
  refine wl_un (fun v => Instr.extract v 0) (.tmp 54) (.tuple #[rd na_b na_0 na_1 na_2 na_3 na_s, .int .i64 (0)]) (rd na_b na_0 na_1 na_2 na_3 na_s) (fun _ => rfl) rfl (by kernel_rfl) rfl ?_
  refine wl_un (fun v => Instr.extract v 1) (.tmp 54) (.tuple #[rd na_b na_0 na_1 na_2 na_3 na_s, .int .i64 (0)]) (.int .i64 (0)) (fun _ => rfl) rfl (by kernel_rfl) rfl ?_
  refine wl_alloc 40 #[.bool false, .int .u64 0, .int .u64 0, .int .u64 0, .int .u64 0, .int .i64 0] rfl (fun _ => by kernel_rfl) rfl ?_
  intro k4 w11 hk hz hq Q4
  have ne_k1_k4 : k1 ≠ k4 := by have := Q1.lt; omega
  have ne_k2_k4 : k2 ≠ k4 := by have := Q2.lt; omega
  have ne_k3_k4 : k3 ≠ k4 := by have := Q3.lt; omega
  have N_k4 : w.heap.size ≤ k4 := by have := M.size; omega
  replace Q1 := Q1.mo hq
  replace Q2 := Q2.mo hq
  replace Q3 := Q3.mo hq
  replace M := M.trans hq
  clear hk hz hq
  refine wl_st 40 (.tmp 10) (.tmp 57) k4 0 (rda na_b na_0 na_1 na_2 na_3 na_s) [.bool false, .int .u64 0, .int .u64 0, .int .u64 0, .int .u64 0, .int .i64 0] (rdl na_b na_0 na_1 na_2 na_3 na_s) Q4 rfl rfl rfl rfl rfl sz40 rfl rfl rfl ?_
  intro w12 hS Qn
  replace Q4 := Qn
  clear Qn
  replace Q1 := hS.other _ _ ne_k1_k4 Q1
  replace Q2 := hS.other _ _ ne_k2_k4 Q2
  replace Q3 := hS.other _ _ ne_k3_k4 Q3
  replace M := hS.mo _ N_k4 M
  clear hS
  refine wl_mv (.tmp 58) (.int .i64 (0)) (fun _ => rfl) rfl rfl ?_
  refine w_nil ?_
  refine xn_then ?_
  refine w_seq ?_
  refine w_reg ?_
  refine wl_load 40 (.tmp 4) (pt k2 0) (rd b_b b_0 b_1 b_2 b_3 b_s) rfl rfl (run_row Q2 40 0 6 (rdl b_b b_0 b_1 b_2 b_3 b_s) rfl Try.underlying40 rfl sz40) rfl ?_
  refine wl_call 47 [(.tmp 60)] _ [rd b_b b_0 b_1 b_2 b_3 b_s] (.tuple #[rd nb_b nb_0 nb_1 nb_2 nb_3 nb_s, .int .i64 (0)]) rfl rfl (fun _ _ => by kernel_rfl) (n2 _) rfl ?_
  intro w13 hq
  replace Q1 := Q1.mo hq
  replace Q2 := Q2.mo hq
  replace Q3 := Q3.mo hq
  replace Q4 := Q4.mo hq
  replace M := M.trans hq
  clear hq
  refine wl_mv (.tmp 61) (.tuple #[rd nb_b nb_0 nb_1 nb_2 nb_3 nb_s, .int .i64 (0)]) (fun _ => rfl) rfl rfl ?_
  refine wl_un (fun v => Instr.extract v 0) (.tmp 59) (.tuple #[rd nb_b nb_0 nb_1 nb_2 nb_3 nb_s, .int .i64 (0)]) (rd nb_b nb_0 nb_1 nb_2 nb_3 nb_s) (fun _ => rfl) rfl (by kernel_rfl) rfl ?_
  refine wl_un (fun v => Instr.extract v 1) (.tmp 59) (.tuple #[rd nb_b nb_0 nb_1 nb_2 nb_3 nb_s, .int .i64 (0)]) (.int .i64 (0)) (fun _ => rfl) rfl (by kernel_rfl) rfl ?_
  refine wl_alloc 40 #[.bool false, .int .u64 0, .int .u64 0, .int .u64 0, .int .u64 0, .int .i64 0] rfl (fun _ => by kernel_rfl) rfl ?_
  intro k5 w14 hk hz hq Q5
  have ne_k1_k5 : k1 ≠ k5 := by have := Q1.lt; omega
  have ne_k2_k5 : k2 ≠ k5 := by have := Q2.lt; omega
  have ne_k3_k5 : k3 ≠ k5 := by have := Q3.lt; omega
  have ne_k4_k5 : k4 ≠ k5 := by have := Q4.lt; omega
  have N_k5 : w.heap.size ≤ k5 := by have := M.size; omega
  replace Q1 := Q1.mo hq
  replace Q2 := Q2.mo hq
  replace Q3 := Q3.mo hq
  replace Q4 := Q4.mo hq
  replace M := M.trans hq
  clear hk hz hq
  refine wl_st 40 (.tmp 12) (.tmp 62) k5 0 (rda nb_b nb_0 nb_1 nb_2 nb_3 nb_s) [.bool false, .int .u64 0, .int .u64 0, .int .u64 0, .int .u64 0, .int .i64 0] (rdl nb_b nb_0 nb_1 nb_2 nb_3 nb_s) Q5 rfl rfl rfl rfl rfl sz40 rfl rfl rfl ?_
  intro w15 hS Qn
  replace Q5 := Qn
  clear Qn
  replace Q1 := hS.other _ _ ne_k1_k5 Q1
  replace Q2 := hS.other _ _ ne_k2_k5 Q2
  replace Q3 := hS.other _ _ ne_k3_k5 Q3
  replace Q4 := hS.other _ _ ne_k4_k5 Q4
  replace M := hS.mo _ N_k5 M
  clear hS
  refine wl_mv (.tmp 63) (.int .i64 (0)) (fun _ => rfl) rfl rfl ?_
  refine w_nil ?_
  refine xn_then ?_
  refine w_seq ?_
  refine w_seq ?_
  refine w_reg ?_
  refine wl_mv (.tmp 11) (.int .i64 (0)) (fun _ => rfl) rfl rfl ?_
  refine wl_bin (fun x y => do eqGuard .neq 32 (.tmp 64) (.const (.int .i64 (0))) x y; binOp .neq 32 x y) (.tmp 64) (.const (.int .i64 (0))) (.int .i64 (0)) (.int .i64 (0)) (.bool false) (fun _ => rfl) rfl rfl (by kernel_rfl) rfl ?_
  refine wl_mv (.tmp 65) (.bool false) (fun _ => rfl) rfl rfl ?_
  refine wl_mv (.tmp 13) (.int .i64 (0)) (fun _ => rfl) rfl rfl ?_
  refine wl_bin (fun x y => do eqGuard .neq 32 (.tmp 67) (.const (.int .i64 (0))) x y; binOp .neq 32 x y) (.tmp 67) (.const (.int .i64 (0))) (.int .i64 (0)) (.int .i64 (0)) (.bool false) (fun _ => rfl) rfl rfl (by kernel_rfl) rfl ?_
  refine wl_pick (.tmp 66) (.const (.bool true)) (.tmp 68) false (.bool false) (fun _ => rfl) rfl rfl rfl ?_
  refine wl_mv (.tmp 69) (.bool false) (fun _ => rfl) rfl rfl ?_
  refine wl_load 40 (.tmp 12) (pt k5 0) (rd nb_b nb_0 nb_1 nb_2 nb_3 nb_s) rfl rfl (run_row Q5 40 0 6 (rdl nb_b nb_0 nb_1 nb_2 nb_3 nb_s) rfl Try.underlying40 rfl sz40) rfl ?_
  refine wl_load 40 (.tmp 10) (pt k4 0) (rd na_b na_0 na_1 na_2 na_3 na_s) rfl rfl (run_row Q4 40 0 6 (rdl na_b na_0 na_1 na_2 na_3 na_s) rfl Try.underlying40 rfl sz40) rfl ?_
  refine wl_call 51 [(.tmp 71), (.tmp 72)] _ [rd nb_b nb_0 nb_1 nb_2 nb_3 nb_s, rd na_b na_0 na_1 na_2 na_3 na_s] (.int .i64 x) rfl rfl (fun _ _ => by kernel_rfl) (n3 _) rfl ?_
  intro w16 hq
  replace Q1 := Q1.mo hq
  replace Q2 := Q2.mo hq
  replace Q3 := Q3.mo hq
  replace Q4 := Q4.mo hq
  replace Q5 := Q5.mo hq
  replace M := M.trans hq
  clear hq
  refine wl_mv (.tmp 7) (.int .i64 x) (fun _ => rfl) rfl rfl ?_
  refine wl_bin (fun x y => do eqGuard .neq 3 (.tmp 73) (.tmp 74) x y; binOp .neq 3 x y) (.tmp 73) (.tmp 74) (.int .i64 x) (.int .i64 x) (.bool false) (fun _ => rfl) rfl rfl (neq3_run (by simp) _ _ _) rfl ?_
  refine wl_pick (.tmp 70) (.const (.bool true)) (.tmp 75) false (.bool false) (fun _ => rfl) rfl rfl rfl ?_
  refine w_nil ?_
  refine xn_then ?_
  refine w_condF rfl ?_
  refine w_skip ?_
  refine xn_then ?_
  refine w_seq ?_
  refine w_reg ?_
  refine wl_load 40 (.tmp 3) (pt k1 0) (rd a_b a_0 a_1 a_2 a_3 a_s) rfl rfl (run_row Q1 40 0 6 (rdl a_b a_0 a_1 a_2 a_3 a_s) rfl Try.underlying40 rfl sz40) rfl ?_
  refine wl_call 45 [(.tmp 78)] _ [rd a_b a_0 a_1 a_2 a_3 a_s] (.tuple #[rd t_b t_0 t_1 t_2 t_3 t_s, .int .i64 (0)]) rfl rfl (fun _ _ => by kernel_rfl) (t1 _) rfl ?_
  intro w17 hq
  replace Q1 := Q1.mo hq
  replace Q2 := Q2.mo hq
  replace Q3 := Q3.mo hq
  replace Q4 := Q4.mo hq
  replace Q5 := Q5.mo hq
  replace M := M.trans hq
  clear hq
  refine wl_mv (.tmp 79) (.tuple #[rd t_b t_0 t_1 t_2 t_3 t_s, .int .i64 (0)]) (fun _ => rfl) rfl rfl ?_
  refine wl_un (fun v => Instr.extract v 0) (.tmp 77) (.tuple #[rd t_b t_0 t_1 t_2 t_3 t_s, .int .i64 (0)]) (rd t_b t_0 t_1 t_2 t_3 t_s) (fun _ => rfl) rfl (by kernel_rfl) rfl ?_
  refine wl_un (fun v => Instr.extract v 1) (.tmp 77) (.tuple #[rd t_b t_0 t_1 t_2 t_3 t_s, .int .i64 (0)]) (.int .i64 (0)) (fun _ => rfl) rfl (by kernel_rfl) rfl ?_
  refine wl_alloc 40 #[.bool false, .int .u64 0, .int .u64 0, .int .u64 0, .int .u64 0, .int .i64 0] rfl (fun _ => by kernel_rfl) rfl ?_
  intro k6 w18 hk hz hq Q6
  have ne_k1_k6 : k1 ≠ k6 := by have := Q1.lt; omega
  have ne_k2_k6 : k2 ≠ k6 := by have := Q2.lt; omega
  have ne_k3_k6 : k3 ≠ k6 := by have := Q3.lt; omega
  have ne_k4_k6 : k4 ≠ k6 := by have := Q4.lt; omega
  have ne_k5_k6 : k5 ≠ k6 := by have := Q5.lt; omega
  have N_k6 : w.heap.size ≤ k6 := by have := M.size; omega
  replace Q1 := Q1.mo hq
  replace Q2 := Q2.mo hq
  replace Q3 := Q3.mo hq
  replace Q4 := Q4.mo hq
  replace Q5 := Q5.mo hq
  replace M := M.trans hq
  clear hk hz hq
  refine wl_st 40 (.tmp 14) (.tmp 80) k6 0 (rda t_b t_0 t_1 t_2 t_3 t_s) [.bool false, .int .u64 0, .int .u64 0, .int .u64 0, .int .u64 0, .int .i64 0] (rdl t_b t_0 t_1 t_2 t_3 t_s) Q6 rfl rfl rfl rfl rfl sz40 rfl rfl rfl ?_
  intro w19 hS Qn
  replace Q6 := Qn
  clear Qn
  replace Q1 := hS.other _ _ ne_k1_k6 Q1
  replace Q2 := hS.other _ _ ne_k2_k6 Q2
  replace Q3 := hS.other _ _ ne_k3_k6 Q3
  replace Q4 := hS.other _ _ ne_k4_k6 Q4
  replace Q5 := hS.other _ _ ne_k5_k6 Q5
  replace M := hS.mo _ N_k6 M
  clear hS
  refine wl_mv (.tmp 81) (.int .i64 (0)) (fun _ => rfl) rfl rfl ?_
  refine w_nil ?_
  refine xn_then ?_
  refine w_seq ?_
  refine w_seq ?_
  refine w_reg ?_
  refine wl_mv (.tmp 11) (.int .i64 (0)) (fun _ => rfl) rfl rfl ?_
  refine wl_bin (fun x y => do eqGuard .neq 32 (.tmp 82) (.const (.int .i64 (0))) x y; binOp .neq 32 x y) (.tmp 82) (.const (.int .i64 (0))) (.int .i64 (0)) (.int .i64 (0)) (.bool false) (fun _ => rfl) rfl rfl (by kernel_rfl) rfl ?_
  refine wl_mv (.tmp 83) (.bool false) (fun _ => rfl) rfl rfl ?_
  refine wl_load 40 (.tmp 3) (pt k1 0) (rd a_b a_0 a_1 a_2 a_3 a_s) rfl rfl (run_row Q1 40 0 6 (rdl a_b a_0 a_1 a_2 a_3 a_s) rfl Try.underlying40 rfl sz40) rfl ?_
  refine wl_load 40 (.tmp 14) (pt k6 0) (rd t_b t_0 t_1 t_2 t_3 t_s) rfl rfl (run_row Q6 40 0 6 (rdl t_b t_0 t_1 t_2 t_3 t_s) rfl Try.underlying40 rfl sz40) rfl ?_
  refine wl_call 51 [(.tmp 85), (.tmp 86)] _ [rd a_b a_0 a_1 a_2 a_3 a_s, rd t_b t_0 t_1 t_2 t_3 t_s] (.int .i64 (0)) rfl rfl (fun _ _ => by kernel_rfl) (t2 _) rfl ?_
  intro w20 hq
  replace Q1 := Q1.mo hq
  replace Q2 := Q2.mo hq
  replace Q3 := Q3.mo hq
  replace Q4 := Q4.mo hq
  replace Q5 := Q5.mo hq
  replace Q6 := Q6.mo hq
  replace M := M.trans hq
  clear hq
  refine wl_bin (fun x y => do eqGuard .neq 3 (.tmp 87) (.const (.int .i64 (0))) x y; binOp .neq 3 x y) (.tmp 87) (.const (.int .i64 (0))) (.int .i64 (0)) (.int .i64 (0)) (.bool false) (fun _ => rfl) rfl rfl (by kernel_rfl) rfl ?_
  refine wl_pick (.tmp 84) (.const (.bool true)) (.tmp 88) false (.bool false) (fun _ => rfl) rfl rfl rfl ?_
  refine wl_mv (.tmp 89) (.bool false) (fun _ => rfl) rfl rfl ?_
  refine wl_un (fun v => Instr.fieldAt 40 v 2) (.tmp 14) (pt k6 0) (pt k6 5) (fun _ => rfl) rfl (by kernel_rfl) rfl ?_
  refine wl_load 3 (.tmp 91) (pt k6 5) (.int .i64 t_s) rfl rfl (run_one Q6 3 5 rfl Try.underlying3 rfl) rfl ?_
  refine wl_un (fun v => Instr.fieldAt 40 v 2) (.tmp 3) (pt k1 0) (pt k1 5) (fun _ => rfl) rfl (by kernel_rfl) rfl ?_
  refine wl_load 3 (.tmp 93) (pt k1 5) (.int .i64 a_s) rfl rfl (run_one Q1 3 5 rfl Try.underlying3 rfl) rfl ?_
  refine wl_bin (fun x y => do eqGuard .gtr 3 (.tmp 92) (.tmp 94) x y; binOp .gtr 3 x y) (.tmp 92) (.tmp 94) (.int .i64 t_s) (.int .i64 a_s) (.bool false) (fun _ => rfl) rfl rfl (gtr3_run ht _ _ _) rfl ?_
  refine wl_pick (.tmp 90) (.const (.bool true)) (.tmp 95) false (.bool false) (fun _ => rfl) rfl rfl rfl ?_
  refine w_nil ?_
  refine xn_then ?_
  refine w_condF rfl ?_
  refine w_skip ?_
  refine xn_then ?_
  refine w_seq ?_
  refine w_reg ?_
  refine wl_load 40 (.tmp 3) (pt k1 0) (rd a_b a_0 a_1 a_2 a_3 a_s) rfl rfl (run_row Q1 40 0 6 (rdl a_b a_0 a_1 a_2 a_3 a_s) rfl Try.underlying40 rfl sz40) rfl ?_
  refine wl_load 40 (.tmp 5) (pt k3 0) (rd c_b c_0 c_1 c_2 c_3 c_s) rfl rfl (run_row Q3 40 0 6 (rdl c_b c_0 c_1 c_2 c_3 c_s) rfl Try.underlying40 rfl sz40) rfl ?_
  refine wl_call 35 [(.tmp 98), (.tmp 99)] _ [rd a_b a_0 a_1 a_2 a_3 a_s, rd c_b c_0 c_1 c_2 c_3 c_s] (.tuple #[rd p_b p_0 p_1 p_2 p_3 p_s, .int .i64 (0)]) rfl rfl (fun _ _ => by kernel_rfl) (a1 _) rfl ?_
  intro w21 hq
  replace Q1 := Q1.mo hq
  replace Q2 := Q2.mo hq
  replace Q3 := Q3.mo hq
  replace Q4 := Q4.mo hq
  replace Q5 := Q5.mo hq
  replace Q6 := Q6.mo hq
  replace M := M.trans hq
  clear hq
  refine wl_mv (.tmp 100) (.tuple #[rd p_b p_0 p_1 p_2 p_3 p_s, .int .i64 (0)]) (fun _ => rfl) rfl rfl ?_
  refine wl_un (fun v => Instr.extract v 0) (.tmp 97) (.tuple #[rd p_b p_0 p_1 p_2 p_3 p_s, .int .i64 (0)]) (rd p_b p_0 p_1 p_2 p_3 p_s) (fun _ => rfl) rfl (by kernel_rfl) rfl ?_
  refine wl_un (fun v => Instr.extract v 1) (.tmp 97) (.tuple #[rd p_b p_0 p_1 p_2 p_3 p_s, .int .i64 (0)]) (.int .i64 (0)) (fun _ => rfl) rfl (by kernel_rfl) rfl ?_
  refine wl_alloc 40 #[.bool false, .int .u64 0, .int .u64 0, .int .u64 0, .int .u64 0, .int .i64 0] rfl (fun _ => by kernel_rfl) rfl ?_
  intro k7 w22 hk hz hq Q7
  have ne_k1_k7 : k1 ≠ k7 := by have := Q1.lt; omega
  have ne_k2_k7 : k2 ≠ k7 := by have := Q2.lt; omega
  have ne_k3_k7 : k3 ≠ k7 := by have := Q3.lt; omega
  have ne_k4_k7 : k4 ≠ k7 := by have := Q4.lt; omega
  have ne_k5_k7 : k5 ≠ k7 := by have := Q5.lt; omega
  have ne_k6_k7 : k6 ≠ k7 := by have := Q6.lt; omega
  have N_k7 : w.heap.size ≤ k7 := by have := M.size; omega
  replace Q1 := Q1.mo hq
  replace Q2 := Q2.mo hq
  replace Q3 := Q3.mo hq
  replace Q4 := Q4.mo hq
  replace Q5 := Q5.mo hq
  replace Q6 := Q6.mo hq
  replace M := M.trans hq
  clear hk hz hq
  refine wl_st 40 (.tmp 15) (.tmp 101) k7 0 (rda p_b p_0 p_1 p_2 p_3 p_s) [.bool false, .int .u64 0, .int .u64 0, .int .u64 0, .int .u64 0, .int .i64 0] (rdl p_b p_0 p_1 p_2 p_3 p_s) Q7 rfl rfl rfl rfl rfl sz40 rfl rfl rfl ?_
  intro w23 hS Qn
  replace Q7 := Qn
  clear Qn
  replace Q1 := hS.other _ _ ne_k1_k7 Q1
  replace Q2 := hS.other _ _ ne_k2_k7 Q2
  replace Q3 := hS.other _ _ ne_k3_k7 Q3
  replace Q4 := hS.other _ _ ne_k4_k7 Q4
  replace Q5 := hS.other _ _ ne_k5_k7 Q5
  replace Q6 := hS.other _ _ ne_k6_k7 Q6
  replace M := hS.mo _ N_k7 M
  clear hS
  refine wl_mv (.tmp 102) (.int .i64 (0)) (fun _ => rfl) rfl rfl ?_
  refine w_nil ?_
  refine xn_then ?_
  refine w_seq ?_
  refine w_reg ?_
  refine wl_load 40 (.tmp 4) (pt k2 0) (rd b_b b_0 b_1 b_2 b_3 b_s) rfl rfl (run_row Q2 40 0 6 (rdl b_b b_0 b_1 b_2 b_3 b_s) rfl Try.underlying40 rfl sz40) rfl ?_
  refine wl_load 40 (.tmp 5) (pt k3 0) (rd c_b c_0 c_1 c_2 c_3 c_s) rfl rfl (run_row Q3 40 0 6 (rdl c_b c_0 c_1 c_2 c_3 c_s) rfl Try.underlying40 rfl sz40) rfl ?_
  refine wl_call 35 [(.tmp 104), (.tmp 105)] _ [rd b_b b_0 b_1 b_2 b_3 b_s, rd c_b c_0 c_1 c_2 c_3 c_s] (.tuple #[rd q_b q_0 q_1 q_2 q_3 q_s, .int .i64 e]) rfl rfl (fun _ _ => by kernel_rfl) (a2 _) rfl ?_
  intro w24 hq
  replace Q1 := Q1.mo hq
  replace Q2 := Q2.mo hq
  replace Q3 := Q3.mo hq
  replace Q4 := Q4.mo hq
  replace Q5 := Q5.mo hq
  replace Q6 := Q6.mo hq
  replace Q7 := Q7.mo hq
  replace M := M.trans hq
  clear hq
  refine wl_mv (.tmp 106) (.tuple #[rd q_b q_0 q_1 q_2 q_3 q_s, .int .i64 e]) (fun _ => rfl) rfl rfl ?_
  refine wl_un (fun v => Instr.extract v 0) (.tmp 103) (.tuple #[rd q_b q_0 q_1 q_2 q_3 q_s, .int .i64 e]) (rd q_b q_0 q_1 q_2 q_3 q_s) (fun _ => rfl) rfl (by kernel_rfl) rfl ?_
  refine wl_un (fun v => Instr.extract v 1) (.tmp 103) (.tuple #[rd q_b q_0 q_1 q_2 q_3 q_s, .int .i64 e]) (.int .i64 e) (fun _ => rfl) rfl (by kernel_rfl) rfl ?_
  refine wl_alloc 40 #[.bool false, .int .u64 0, .int .u64 0, .int .u64 0, .int .u64 0, .int .i64 0] rfl (fun _ => by kernel_rfl) rfl ?_
  intro k8 w25 hk hz hq Q8
  have ne_k1_k8 : k1 ≠ k8 := by have := Q1.lt; omega
  have ne_k2_k8 : k2 ≠ k8 := by have := Q2.lt; omega
  have ne_k3_k8 : k3 ≠ k8 := by have := Q3.lt; omega
  have ne_k4_k8 : k4 ≠ k8 := by have := Q4.lt; omega
  have ne_k5_k8 : k5 ≠ k8 := by have := Q5.lt; omega
  have ne_k6_k8 : k6 ≠ k8 := by have := Q6.lt; omega
  have ne_k7_k8 : k7 ≠ k8 := by have := Q7.lt; omega
  have N_k8 : w.heap.size ≤ k8 := by have := M.size; omega
  replace Q1 := Q1.mo hq
  replace Q2 := Q2.mo hq
  replace Q3 := Q3.mo hq
  replace Q4 := Q4.mo hq
  replace Q5 := Q5.mo hq
  replace Q6 := Q6.mo hq
  replace Q7 := Q7.mo hq
  replace M := M.trans hq
  clear hk hz hq
  refine wl_st 40 (.tmp 16) (.tmp 107) k8 0 (rda q_b q_0 q_1 q_2 q_3 q_s) [.bool false, .int .u64 0, .int .u64 0, .int .u64 0, .int .u64 0, .int .i64 0] (rdl q_b q_0 q_1 q_2 q_3 q_s) Q8 rfl rfl rfl rfl rfl sz40 rfl rfl rfl ?_
  intro w26 hS Qn
  replace Q8 := Qn
  clear Qn
  replace Q1 := hS.other _ _ ne_k1_k8 Q1
  replace Q2 := hS.other _ _ ne_k2_k8 Q2
  replace Q3 := hS.other _ _ ne_k3_k8 Q3
  replace Q4 := hS.other _ _ ne_k4_k8 Q4
  replace Q5 := hS.other _ _ ne_k5_k8 Q5
  replace Q6 := hS.other _ _ ne_k6_k8 Q6
  replace Q7 := hS.other _ _ ne_k7_k8 Q7
  replace M := hS.mo _ N_k8 M
  clear hS
  refine wl_mv (.tmp 108) (.int .i64 e) (fun _ => rfl) rfl rfl ?_
  refine w_nil ?_
  refine xn_then ?_
  refine w_seq ?_
  refine w_seq ?_
  refine w_reg ?_
  refine wl_mv (.tmp 11) (.int .i64 (0)) (fun _ => rfl) rfl rfl ?_
  refine wl_bin (fun x y => do eqGuard .neq 32 (.tmp 109) (.const (.int .i64 (0))) x y; binOp .neq 32 x y) (.tmp 109) (.const (.int .i64 (0))) (.int .i64 (0)) (.int .i64 (0)) (.bool false) (fun _ => rfl) rfl rfl (by kernel_rfl) rfl ?_
  refine wl_mv (.tmp 110) (.bool false) (fun _ => rfl) rfl rfl ?_
  refine wl_mv (.tmp 13) (.int .i64 e) (fun _ => rfl) rfl rfl ?_
  refine wl_bin (fun x y => do eqGuard .neq 32 (.tmp 112) (.const (.int .i64 (0))) x y; binOp .neq 32 x y) (.tmp 112) (.const (.int .i64 (0))) (.int .i64 e) (.int .i64 (0)) (.bool true) (fun _ => rfl) rfl rfl (neq32_run he _ _ _) rfl ?_
  refine wl_pick (.tmp 111) (.const (.bool true)) (.tmp 113) false (.bool true) (fun _ => rfl) rfl rfl rfl ?_
  refine w_nil ?_
  refine xn_then ?_
  refine w_condT rfl ?_
  refine w_seq ?_
  refine w_reg ?_
  refine wl_mv (.const (.bool true)) (.bool true) (fun _ => rfl) rfl rfl ?_
  refine w_nil ?_
  refine xn_then ?_
  refine w_ret ?_
  refine xr_then ?_
  exact w_ret1 _ (.bool true) rfl rfl ⟨rfl, M⟩
theorem order_c_ok (a_b : Bool) (a_0 a_1 a_2 a_3 a_s : Int) (b_b : Bool) (b_0 b_1 b_2 b_3 b_s : Int) (c_b : Bool) (c_0 c_1 c_2 c_3 c_s : Int) (na_b : Bool) (na_0 na_1 na_2 na_3 na_s : Int) (nb_b : Bool) (nb_0 nb_1 nb_2 nb_3 nb_s : Int) (t_b : Bool) (t_0 t_1 t_2 t_3 t_s : Int) (p_b : Bool) (p_0 p_1 p_2 p_3 p_s : Int) (q_b : Bool) (q_0 q_1 q_2 q_3 q_s : Int) (x y z : Int) (w : World) (h1 : ∀ w, Calls Try.prog 51 #[rd a_b a_0 a_1 a_2 a_3 a_s, rd b_b b_0 b_1 b_2 b_3 b_s] w fun e' w' => e' = .returned (.int .i64 x) ∧ Mo w w') (h2 : ∀ w, Calls Try.prog 51 #[rd b_b b_0 b_1 b_2 b_3 b_s, rd c_b c_0 c_1 c_2 c_3 c_s] w fun e' w' => e' = .returned (.int .i64 y) ∧ Mo w w') (h3 : ∀ w, Calls Try.prog 51 #[rd a_b a_0 a_1 a_2 a_3 a_s, rd c_b c_0 c_1 c_2 c_3 c_s] w fun e' w' => e' = .returned (.int .i64 z) ∧ Mo w w') (g1 : ∀ w, Calls Try.prog 29 #[rd a_b a_0 a_1 a_2 a_3 a_s] w fun e' w' => e' = .returned (.int .i64 (0)) ∧ Mo w w') (g2 : ∀ w, Calls Try.prog 29 #[rd b_b b_0 b_1 b_2 b_3 b_s] w fun e' w' => e' = .returned (.int .i64 (0)) ∧ Mo w w') (g3 : ∀ w, Calls Try.prog 29 #[rd c_b c_0 c_1 c_2 c_3 c_s] w fun e' w' => e' = .returned (.int .i64 (0)) ∧ Mo w w') (hx : decide (x ≤ 0) = true) (hy : decide (y ≤ 0) = true) (hz : decide (z > 0) = false) (n1 : ∀ w, Calls Try.prog 47 #[rd a_b a_0 a_1 a_2 a_3 a_s] w fun e' w' => e' = .returned (.tuple #[rd na_b na_0 na_1 na_2 na_3 na_s, .int .i64 (0)]) ∧ Mo w w') (n2 : ∀ w, Calls Try.prog 47 #[rd b_b b_0 b_1 b_2 b_3 b_s] w fun e' w' => e' = .returned (.tuple #[rd nb_b nb_0 nb_1 nb_2 nb_3 nb_s, .int .i64 (0)]) ∧ Mo w w') (n3 : ∀ w, Calls Try.prog 51 #[rd nb_b nb_0 nb_1 nb_2 nb_3 nb_s, rd na_b na_0 na_1 na_2 na_3 na_s] w fun e' w' => e' = .returned (.int .i64 x) ∧ Mo w w') (t1 : ∀ w, Calls Try.prog 45 #[rd a_b a_0 a_1 a_2 a_3 a_s] w fun e' w' => e' = .returned (.tuple #[rd t_b t_0 t_1 t_2 t_3 t_s, .int .i64 (0)]) ∧ Mo w w') (t2 : ∀ w, Calls Try.prog 51 #[rd a_b a_0 a_1 a_2 a_3 a_s, rd t_b t_0 t_1 t_2 t_3 t_s] w fun e' w' => e' = .returned (.int .i64 (0)) ∧ Mo w w') (ht : decide (t_s > a_s) = false) (a1 : ∀ w, Calls Try.prog 35 #[rd a_b a_0 a_1 a_2 a_3 a_s, rd c_b c_0 c_1 c_2 c_3 c_s] w fun e' w' => e' = .returned (.tuple #[rd p_b p_0 p_1 p_2 p_3 p_s, .int .i64 (0)]) ∧ Mo w w') (a2 : ∀ w, Calls Try.prog 35 #[rd b_b b_0 b_1 b_2 b_3 b_s, rd c_b c_0 c_1 c_2 c_3 c_s] w fun e' w' => e' = .returned (.tuple #[rd q_b q_0 q_1 q_2 q_3 q_s, .int .i64 (0)]) ∧ Mo w w') (a3 : ∀ w, Calls Try.prog 51 #[rd p_b p_0 p_1 p_2 p_3 p_s, rd q_b q_0 q_1 q_2 q_3 q_s] w fun e' w' => e' = .returned (.int .i64 x) ∧ Mo w w') :
    Calls Try.prog 14 #[rd a_b a_0 a_1 a_2 a_3 a_s, rd b_b b_0 b_1 b_2 b_3 b_s, rd c_b c_0 c_1 c_2 c_3 c_s] w fun e' w' => e' = .returned (.bool true) ∧ Mo w w' := by
  refine w_enter 120 Try.func14 Try.ntmps14 rfl rfl ?_
  have M : Mo w w := Mo.refl _
  refine w_seq ?_
  refine w_reg ?_
  refine wl_box 40 (.tmp 0) (rd a_b a_0 a_1 a_2 a_3 a_s) ((rda a_b a_0 a_1 a_2 a_3 a_s)) rfl rfl (fun _ => by kernel_rfl) rfl ?_
  intro k1 w1 hk hz hq Q1
  have N_k1 : w.heap.size ≤ k1 := by have := M.size; omega
  replace M := M.trans hq
  clear hk hz hq
  refine wl_box 40 (.tmp 1) (rd b_b b_0 b_1 b_2 b_3 b_s) ((rda b_b b_0 b_1 b_2 b_3 b_s)) rfl rfl (fun _ => by kernel_rfl) rfl ?_
  intro k2 w2 hk hz hq Q2
  have ne_k1_k2 : k1 ≠ k2 := by have := Q1.lt; omega
  have N_k2 : w.heap.size ≤ k2 := by have := M.size; omega
  replace Q1 := Q1.mo hq
  replace M := M.trans hq
  clear hk hz hq
  refine wl_box 40 (.tmp 2) (rd c_b c_0 c_1 c_2 c_3 c_s) ((rda c_b c_0 c_1 c_2 c_3 c_s)) rfl rfl (fun _ => by kernel_rfl) rfl ?_
  intro k3 w3 hk hz hq Q3
  have ne_k1_k3 : k1 ≠ k3 := by have := Q1.lt; omega
  have ne_k2_k3 : k2 ≠ k3 := by have := Q2.lt; omega
  have N_k3 : w.heap.size ≤ k3 := by have := M.size; omega
  replace Q1 := Q1.mo hq
  replace Q2 := Q2.mo hq
  replace M := M.trans hq
  clear hk hz hq
  refine wl_mv (.const (.bool false)) (.bool false) (fun _ => rfl) rfl rfl ?_
  refine w_nil ?_
  refine xn_then ?_
  refine w_seq ?_
  refine w_any 8 [.inl (rd a_b a_0 a_1 a_2 a_3 a_s), .inl (rd b_b b_0 b_1 b_2 b_3 b_s), .inl (.int .i64 x), .inl (rd b_b b_0 b_1 b_2 b_3 b_s), .inl (rd c_b c_0 c_1 c_2 c_3 c_s), .inl (.int .i64 y), .inl (rd a_b a_0 a_1 a_2 a_3 a_s), .inl (rd c_b c_0 c_1 c_2 c_3 c_s)] [] (by kernel_rfl) (by kernel_rfl) (by kernel_rfl) (by kernel_rfl) rfl (by kernel_rfl) (by kernel_rfl) late_nil ?_ ?_ ?_
  · exact Ds.none rfl
  · refine ea_cons ?_ (ea_cons ?_ (ea_cons ?_ (ea_cons ?_ (ea_cons ?_ (ea_cons ?_ (ea_cons ?_ (ea_cons ?_ (ea_nil))))))))
    · exact og_eq (rd a_b a_0 a_1 a_2 a_3 a_s) rfl (fun f wf hq hd K hK => have Q1 := Q1.mo hq; go_run rfl (wo_load 40 (.tmp 3) (pt k1 0) (rd a_b a_0 a_1 a_2 a_3 a_s) rfl rfl (run_row Q1 40 0 6 (rdl a_b a_0 a_1 a_2 a_3 a_s) rfl Try.underlying40 rfl sz40) (hK _ (Mo.refl _))))
    · exact og_eq (rd b_b b_0 b_1 b_2 b_3 b_s) rfl (fun f wf hq hd K hK => have Q2 := Q2.mo hq; go_run rfl (wo_load 40 (.tmp 4) (pt k2 0) (rd b_b b_0 b_1 b_2 b_3 b_s) rfl rfl (run_row Q2 40 0 6 (rdl b_b b_0 b_1 b_2 b_3 b_s) rfl Try.underlying40 rfl sz40) (hK _ (Mo.refl _))))
    · exact og_eq (.int .i64 x) rfl (fun f wf hq hd K hK => go_run rfl (wo_call 51 [(.tmp 17), (.tmp 18)] _ [rd a_b a_0 a_1 a_2 a_3 a_s, rd b_b b_0 b_1 b_2 b_3 b_s] (.int .i64 x) rfl (li2 (hd 0 rfl) (hd 1 rfl)) (fun _ _ => by kernel_rfl) (h1 _) hK))
    · exact og_eq (rd b_b b_0 b_1 b_2 b_3 b_s) rfl (fun f wf hq hd K hK => have Q2 := Q2.mo hq; go_run rfl (wo_load 40 (.tmp 4) (pt k2 0) (rd b_b b_0 b_1 b_2 b_3 b_s) rfl rfl (run_row Q2 40 0 6 (rdl b_b b_0 b_1 b_2 b_3 b_s) rfl Try.underlying40 rfl sz40) (hK _ (Mo.refl _))))
    · exact og_eq (rd c_b c_0 c_1 c_2 c_3 c_s) rfl (fun f wf hq hd K hK => have Q3 := Q3.mo hq; go_run rfl (wo_load 40 (.tmp 5) (pt k3 0) (rd c_b c_0 c_1 c_2 c_3 c_s) rfl rfl (run_row Q3 40 0 6 (rdl c_b c_0 c_1 c_2 c_3 c_s) rfl Try.underlying40 rfl sz40) (hK _ (Mo.refl _))))
    · exact og_eq (.int .i64 y) rfl (fun f wf hq hd K hK => go_run rfl (wo_call 51 [(.tmp 20), (.tmp 21)] _ [rd b_b b_0 b_1 b_2 b_3 b_s, rd c_b c_0 c_1 c_2 c_3 c_s] (.int .i64 y) rfl (li2 (hd 3 rfl) (hd 4 rfl)) (fun _ _ => by kernel_rfl) (h2 _) hK))
    · exact og_eq (rd a_b a_0 a_1 a_2 a_3 a_s) rfl (fun f wf hq hd K hK => have Q1 := Q1.mo hq; go_run rfl (wo_load 40 (.tmp 3) (pt k1 0) (rd a_b a_0 a_1 a_2 a_3 a_s) rfl rfl (run_row Q1 40 0 6 (rdl a_b a_0 a_1 a_2 a_3 a_s) rfl Try.underlying40 rfl sz40) (hK _ (Mo.refl _))))
    · exact og_eq (rd c_b c_0 c_1 c_2 c_3 c_s) rfl (fun f wf hq hd K hK => have Q3 := Q3.mo hq; go_run rfl (wo_load 40 (.tmp 5) (pt k3 0) (rd c_b c_0 c_1 c_2 c_3 c_s) rfl rfl (run_row Q3 40 0 6 (rdl c_b c_0 c_1 c_2 c_3 c_s) rfl Try.underlying40 rfl sz40) (hK _ (Mo.refl _))))
  intro kf4 w4 hq hR hne
  replace Q1 := Q1.mo hq
  replace Q2 := Q2.mo hq
  replace Q3 := Q3.mo hq
  replace M := M.trans hq
  clear hq hR hne
  refine wl_call 51 [(.tmp 23), (.tmp 24)] _ [rd a_b a_0 a_1 a_2 a_3 a_s, rd c_b c_0 c_1 c_2 c_3 c_s] (.int .i64 z) rfl rfl (fun _ _ => by kernel_rfl) (h3 _) rfl ?_
  intro w5 hq
  replace Q1 := Q1.mo hq
  replace Q2 := Q2.mo hq
  replace Q3 := Q3.mo hq
  replace M := M.trans hq
  clear hq
  refine wl_mv (.tmp 19) (.int .i64 x) (fun _ => rfl) rfl rfl ?_
  refine wl_mv (.tmp 22) (.int .i64 y) (fun _ => rfl) rfl rfl ?_
  refine wl_mv (.tmp 25) (.int .i64 z) (fun _ => rfl) rfl rfl ?_
  refine w_nil ?_
  refine xn_then ?_
  refine w_seq ?_
  refine w_seq ?_
  refine w_reg ?_
  refine wl_call 28 [] _ [] (.bool true) rfl rfl (fun _ _ => by kernel_rfl) (begun_n _) rfl ?_
  intro w6 hq
  replace Q1 := Q1.mo hq
  replace Q2 := Q2.mo hq
  replace Q3 := Q3.mo hq
  replace M := M.trans hq
  clear hq
  refine wl_un (fun v => Op.unary .not v) (.tmp 26) (.bool true) (.bool false) (fun _ => rfl) rfl (by kernel_rfl) rfl ?_
  refine wl_mv (.tmp 27) (.bool false) (fun _ => rfl) rfl rfl ?_
  refine wl_load 40 (.tmp 3) (pt k1 0) (rd a_b a_0 a_1 a_2 a_3 a_s) rfl rfl (run_row Q1 40 0 6 (rdl a_b a_0 a_1 a_2 a_3 a_s) rfl Try.underlying40 rfl sz40) rfl ?_
  refine wl_call 29 [(.tmp 29)] _ [rd a_b a_0 a_1 a_2 a_3 a_s] (.int .i64 (0)) rfl rfl (fun _ _ => by kernel_rfl) (g1 _) rfl ?_
  intro w7 hq
  replace Q1 := Q1.mo hq
  replace Q2 := Q2.mo hq
  replace Q3 := Q3.mo hq
  replace M := M.trans hq
  clear hq
  refine wl_bin (fun x y => do eqGuard .neq 32 (.tmp 30) (.const (.int .i64 (0))) x y; binOp .neq 32 x y) (.tmp 30) (.const (.int .i64 (0))) (.int .i64 (0)) (.int .i64 (0)) (.bool false) (fun _ => rfl) rfl rfl (by kernel_rfl) rfl ?_
  refine wl_pick (.tmp 28) (.const (.bool true)) (.tmp 31) false (.bool false) (fun _ => rfl) rfl rfl rfl ?_
  refine wl_mv (.tmp 32) (.bool false) (fun _ => rfl) rfl rfl ?_
  refine wl_load 40 (.tmp 4) (pt k2 0) (rd b_b b_0 b_1 b_2 b_3 b_s) rfl rfl (run_row Q2 40 0 6 (rdl b_b b_0 b_1 b_2 b_3 b_s) rfl Try.underlying40 rfl sz40) rfl ?_
  refine wl_call 29 [(.tmp 34)] _ [rd b_b b_0 b_1 b_2 b_3 b_s] (.int .i64 (0)) rfl rfl (fun _ _ => by kernel_rfl) (g2 _) rfl ?_
  intro w8 hq
  replace Q1 := Q1.mo hq
  replace Q2 := Q2.mo hq
  replace Q3 := Q3.mo hq
  replace M := M.trans hq
  clear hq
  refine wl_bin (fun x y => do eqGuard .neq 32 (.tmp 35) (.const (.int .i64 (0))) x y; binOp .neq 32 x y) (.tmp 35) (.const (.int .i64 (0))) (.int .i64 (0)) (.int .i64 (0)) (.bool false) (fun _ => rfl) rfl rfl (by kernel_rfl) rfl ?_
  refine wl_pick (.tmp 33) (.const (.bool true)) (.tmp 36) false (.bool false) (fun _ => rfl) rfl rfl rfl ?_
  refine wl_mv (.tmp 37) (.bool false) (fun _ => rfl) rfl rfl ?_
  refine wl_load 40 (.tmp 5) (pt k3 0) (rd c_b c_0 c_1 c_2 c_3 c_s) rfl rfl (run_row Q3 40 0 6 (rdl c_b c_0 c_1 c_2 c_3 c_s) rfl Try.underlying40 rfl sz40) rfl ?_
  refine wl_call 29 [(.tmp 39)] _ [rd c_b c_0 c_1 c_2 c_3 c_s] (.int .i64 (0)) rfl rfl (fun _ _ => by kernel_rfl) (g3 _) rfl ?_
  intro w9 hq
  replace Q1 := Q1.mo hq
  replace Q2 := Q2.mo hq
  replace Q3 := Q3.mo hq
  replace M := M.trans hq
  clear hq
  refine wl_bin (fun x y => do eqGuard .neq 32 (.tmp 40) (.const (.int .i64 (0))) x y; binOp .neq 32 x y) (.tmp 40) (.const (.int .i64 (0))) (.int .i64 (0)) (.int .i64 (0)) (.bool false) (fun _ => rfl) rfl rfl (by kernel_rfl) rfl ?_
  refine wl_pick (.tmp 38) (.const (.bool true)) (.tmp 41) false (.bool false) (fun _ => rfl) rfl rfl rfl ?_
  refine w_nil ?_
  refine xn_then ?_
  refine w_condF rfl ?_
  refine w_skip ?_
  refine xn_then ?_
  refine w_seq ?_
  refine w_seq ?_
  refine w_reg ?_
  refine wl_mv (.tmp 7) (.int .i64 x) (fun _ => rfl) rfl rfl ?_
  refine wl_bin (fun x y => do eqGuard .leq 3 (.tmp 44) (.const (.int .i64 (0))) x y; binOp .leq 3 x y) (.tmp 44) (.const (.int .i64 (0))) (.int .i64 x) (.int .i64 (0)) (.bool true) (fun _ => rfl) rfl rfl (leq3_run hx _ _ _) rfl ?_
  refine wl_mv (.tmp 45) (.bool true) (fun _ => rfl) rfl rfl ?_
  refine wl_mv (.tmp 8) (.int .i64 y) (fun _ => rfl) rfl rfl ?_
  refine wl_bin (fun x y => do eqGuard .leq 3 (.tmp 47) (.const (.int .i64 (0))) x y; binOp .leq 3 x y) (.tmp 47) (.const (.int .i64 (0))) (.int .i64 y) (.int .i64 (0)) (.bool true) (fun _ => rfl) rfl rfl (leq3_run hy _ _ _) rfl ?_
  refine wl_pick (.tmp 46) (.tmp 48) (.const (.bool false)) true (.bool true) (fun _ => rfl) rfl rfl rfl ?_
  refine wl_mv (.tmp 49) (.bool true) (fun _ => rfl) rfl rfl ?_
  refine wl_mv (.tmp 9) (.int .i64 z) (fun _ => rfl) rfl rfl ?_
  refine wl_bin (fun x y => do eqGuard .gtr 3 (.tmp 51) (.const (.int .i64 (0))) x y; binOp .gtr 3 x y) (.tmp 51) (.const (.int .i64 (0))) (.int .i64 z) (.int .i64 (0)) (.bool false) (fun _ => rfl) rfl rfl (gtr3_run hz _ _ _) rfl ?_
  refine wl_pick (.tmp 50) (.tmp 52) (.const (.bool false)) true (.bool false) (fun _ => rfl) rfl rfl rfl ?_
  refine w_nil ?_
  refine xn_then ?_
  refine w_condF rfl ?_
  refine w_skip ?_
  refine xn_then ?_
  refine w_seq ?_
  refine w_reg ?_
  refine wl_load 40 (.tmp 3) (pt k1 0) (rd a_b a_0 a_1 a_2 a_3 a_s) rfl rfl (run_row Q1 40 0 6 (rdl a_b a_0 a_1 a_2 a_3 a_s) rfl Try.underlying40 rfl sz40) rfl ?_
  refine wl_call 47 [(.tmp 55)] _ [rd a_b a_0 a_1 a_2 a_3 a_s] (.tuple #[rd na_b na_0 na_1 na_2 na_3 na_s, .int .i64 (0)]) rfl rfl (fun _ _ => by kernel_rfl) (n1 _) rfl ?_
  intro w10 hq
  replace Q1 := Q1.mo hq
  replace Q2 := Q2.mo hq
  replace Q3 := Q3.mo hq
  replace M := M.trans hq
  clear hq
  refine wl_mv (.tmp 56) (.tuple #[rd na_b na_0 na_1 na_2 na_3 na_s, .int .i64 (0)]) (fun _ => rfl) rfl rfl ?_
  refine wl_un (fun v => Instr.extract v 0) (.tmp 54) (.tuple #[rd na_b na_0 na_1 na_2 na_3 na_s, .int .i64 (0)]) (rd na_b na_0 na_1 na_2 na_3 na_s) (fun _ => rfl) rfl (by kernel_rfl) rfl ?_
  refine wl_un (fun v => Instr.extract v 1) (.tmp 54) (.tuple #[rd na_b na_0 na_1 na_2 na_3 na_s, .int .i64 (0)]) (.int .i64 (0)) (fun _ => rfl) rfl (by kernel_rfl) rfl ?_
  refine wl_alloc 40 #[.bool false, .int .u64 0, .int .u64 0, .int .u64 0, .int .u64 0, .int .i64 0] rfl (fun _ => by kernel_rfl) rfl ?_
  intro k4 w11 hk hz hq Q4
  have ne_k1_k4 : k1 ≠ k4 := by have := Q1.lt; omega
  have ne_k2_k4 : k2 ≠ k4 := by have := Q2.lt; omega
  have ne_k3_k4 : k3 ≠ k4 := by have := Q3.lt; omega
  have N_k4 : w.heap.size ≤ k4 := by have := M.size; omega
  replace Q1 := Q1.mo hq
  replace Q2 := Q2.mo hq
  replace Q3 := Q3.mo hq
  replace M := M.trans hq
  clear hk hz hq
  refine wl_st 40 (.tmp 10) (.tmp 57) k4 0 (rda na_b na_0 na_1 na_2 na_3 na_s) [.bool false, .int .u64 0, .int .u64 0, .int .u64 0, .int .u64 0, .int .i64 0] (rdl na_b na_0 na_1 na_2 na_3 na_s) Q4 rfl rfl rfl rfl rfl sz40 rfl rfl rfl ?_
  intro w12 hS Qn
  replace Q4 := Qn
  clear Qn
  replace Q1 := hS.other _ _ ne_k1_k4 Q1
  replace Q2 := hS.other _ _ ne_k2_k4 Q2
  replace Q3 := hS.other _ _ ne_k3_k4 Q3
  replace M := hS.mo _ N_k4 M
  clear hS
  refine wl_mv (.tmp 58) (.int .i64 (0)) (fun _ => rfl) rfl rfl ?_
  refine w_nil ?_
  refine xn_then ?_
  refine w_seq ?_
  refine w_reg ?_
  refine wl_load 40 (.tmp 4) (pt k2 0) (rd b_b b_0 b_1 b_2 b_3 b_s) rfl rfl (run_row Q2 40 0 6 (rdl b_b b_0 b_1 b_2 b_3 b_s) rfl Try.underlying40 rfl sz40) rfl ?_
  refine wl_call 47 [(.tmp 60)] _ [rd b_b b_0 b_1 b_2 b_3 b_s] (.tuple #[rd nb_b nb_0 nb_1 nb_2 nb_3 nb_s, .int .i64 (0)]) rfl rfl (fun _ _ => by kernel_rfl) (n2 _) rfl ?_
  intro w13 hq
  replace Q1 := Q1.mo hq
  replace Q2 := Q2.mo hq
  replace Q3 := Q3.mo hq
  replace Q4 := Q4.mo hq
  replace M := M.trans hq
  clear hq
  refine wl_mv (.tmp 61) (.tuple #[rd nb_b nb_0 nb_1 nb_2 nb_3 nb_s, .int .i64 (0)]) (fun _ => rfl) rfl rfl ?_
  refine wl_un (fun v => Instr.extract v 0) (.tmp 59) (.tuple #[rd nb_b nb_0 nb_1 nb_2 nb_3 nb_s, .int .i64 (0)]) (rd nb_b nb_0 nb_1 nb_2 nb_3 nb_s) (fun _ => rfl) rfl (by kernel_rfl) rfl ?_
  refine wl_un (fun v => Instr.extract v 1) (.tmp 59) (.tuple #[rd nb_b nb_0 nb_1 nb_2 nb_3 nb_s, .int .i64 (0)]) (.int .i64 (0)) (fun _ => rfl) rfl (by kernel_rfl) rfl ?_
  refine wl_alloc 40 #[.bool false, .int .u64 0, .int .u64 0, .int .u64 0, .int .u64 0, .int .i64 0] rfl (fun _ => by kernel_rfl) rfl ?_
  intro k5 w14 hk hz hq Q5
  have ne_k1_k5 : k1 ≠ k5 := by have := Q1.lt; omega
  have ne_k2_k5 : k2 ≠ k5 := by have := Q2.lt; omega
  have ne_k3_k5 : k3 ≠ k5 := by have := Q3.lt; omega
  have ne_k4_k5 : k4 ≠ k5 := by have := Q4.lt; omega
  have N_k5 : w.heap.size ≤ k5 := by have := M.size; omega
  replace Q1 := Q1.mo hq
  replace Q2 := Q2.mo hq
  replace Q3 := Q3.mo hq
  replace Q4 := Q4.mo hq
  replace M := M.trans hq
  clear hk hz hq
  refine wl_st 40 (.tmp 12) (.tmp 62) k5 0 (rda nb_b nb_0 nb_1 nb_2 nb_3 nb_s) [.bool false, .int .u64 0, .int .u64 0, .int .u64 0, .int .u64 0, .int .i64 0] (rdl nb_b nb_0 nb_1 nb_2 nb_3 nb_s) Q5 rfl rfl rfl rfl rfl sz40 rfl rfl rfl ?_
  intro w15 hS Qn
  replace Q5 := Qn
  clear Qn
  replace Q1 := hS.other _ _ ne_k1_k5 Q1
  replace Q2 := hS.other _ _ ne_k2_k5 Q2
  replace Q3 := hS.other _ _ ne_k3_k5 Q3
  replace Q4 := hS.other _ _ ne_k4_k5 Q4
  replace M := hS.mo _ N_k5 M
  clear hS
  refine wl_mv (.tmp 63) (.int .i64 (0)) (fun _ => rfl) rfl rfl ?_
  refine w_nil ?_
  refine xn_then ?_
  refine w_seq ?_
  refine w_seq ?_
  refine w_reg ?_
  refine wl_mv (.tmp 11) (.int .i64 (0)) (fun _ => rfl) rfl rfl ?_
  refine wl_bin (fun x y => do eqGuard .neq 32 (.tmp 64) (.const (.int .i64 (0))) x y; binOp .neq 32 x y) (.tmp 64) (.const (.int .i64 (0))) (.int .i64 (0)) (.int .i64 (0)) (.bool false) (fun _ => rfl) rfl rfl (by kernel_rfl) rfl ?_
  refine wl_mv (.tmp 65) (.bool false) (fun _ => rfl) rfl rfl ?_
  refine wl_mv (.tmp 13) (.int .i64 (0)) (fun _ => rfl) rfl rfl ?_
  refine wl_bin (fun x y => do eqGuard .neq 32 (.tmp 67) (.const (.int .i64 (0))) x y; binOp .neq 32 x y) (.tmp 67) (.const (.int .i64 (0))) (.int .i64 (0)) (.int .i64 (0)) (.bool false) (fun _ => rfl) rfl rfl (by kernel_rfl) rfl ?_
  refine wl_pick (.tmp 66) (.const (.bool true)) (.tmp 68) false (.bool false) (fun _ => rfl) rfl rfl rfl ?_
  refine wl_mv (.tmp 69) (.bool false) (fun _ => rfl) rfl rfl ?_
  refine wl_load 40 (.tmp 12) (pt k5 0) (rd nb_b nb_0 nb_1 nb_2 nb_3 nb_s) rfl rfl (run_row Q5 40 0 6 (rdl nb_b nb_0 nb_1 nb_2 nb_3 nb_s) rfl Try.underlying40 rfl sz40) rfl ?_
  refine wl_load 40 (.tmp 10) (pt k4 0) (rd na_b na_0 na_1 na_2 na_3 na_s) rfl rfl (run_row Q4 40 0 6 (rdl na_b na_0 na_1 na_2 na_3 na_s) rfl Try.underlying40 rfl sz40) rfl ?_
  refine wl_call 51 [(.tmp 71), (.tmp 72)] _ [rd nb_b nb_0 nb_1 nb_2 nb_3 nb_s, rd na_b na_0 na_1 na_2 na_3 na_s] (.int .i64 x) rfl rfl (fun _ _ => by kernel_rfl) (n3 _) rfl ?_
  intro w16 hq
  replace Q1 := Q1.mo hq
  replace Q2 := Q2.mo hq
  replace Q3 := Q3.mo hq
  replace Q4 := Q4.mo hq
  replace Q5 := Q5.mo hq
  replace M := M.trans hq
  clear hq
  refine wl_mv (.tmp 7) (.int .i64 x) (fun _ => rfl) rfl rfl ?_
  refine wl_bin (fun x y => do eqGuard .neq 3 (.tmp 73) (.tmp 74) x y; binOp .neq 3 x y) (.tmp 73) (.tmp 74) (.int .i64 x) (.int .i64 x) (.bool false) (fun _ => rfl) rfl rfl (neq3_run (by simp) _ _ _) rfl ?_
  refine wl_pick (.tmp 70) (.const (.bool true)) (.tmp 75) false (.bool false) (fun _ => rfl) rfl rfl rfl ?_
  refine w_nil ?_
  refine xn_then ?_
  refine w_condF rfl ?_
  refine w_skip ?_
  refine xn_then ?_
  refine w_seq ?_
  refine w_reg ?_
  refine wl_load 40 (.tmp 3) (pt k1 0) (rd a_b a_0 a_1 a_2 a_3 a_s) rfl rfl (run_row Q1 40 0 6 (rdl a_b a_0 a_1 a_2 a_3 a_s) rfl Try.underlying40 rfl sz40) rfl ?_
  refine wl_call 45 [(.tmp 78)] _ [rd a_b a_0 a_1 a_2 a_3 a_s] (.tuple #[rd t_b t_0 t_1 t_2 t_3 t_s, .int .i64 (0)]) rfl rfl (fun _ _ => by kernel_rfl) (t1 _) rfl ?_
  intro w17 hq
  replace Q1 := Q1.mo hq
  replace Q2 := Q2.mo hq
  replace Q3 := Q3.mo hq
  replace Q4 := Q4.mo hq
  replace Q5 := Q5.mo hq
  replace M := M.trans hq
  clear hq
  refine wl_mv (.tmp 79) (.tuple #[rd t_b t_0 t_1 t_2 t_3 t_s, .int .i64 (0)]) (fun _ => rfl) rfl rfl ?_
  refine wl_un (fun v => Instr.extract v 0) (.tmp 77) (.tuple #[rd t_b t_0 t_1 t_2 t_3 t_s, .int .i64 (0)]) (rd t_b t_0 t_1 t_2 t_3 t_s) (fun _ => rfl) rfl (by kernel_rfl) rfl ?_
  refine wl_un (fun v => Instr.extract v 1) (.tmp 77) (.tuple #[rd t_b t_0 t_1 t_2 t_3 t_s, .int .i64 (0)]) (.int .i64 (0)) (fun _ => rfl) rfl (by kernel_rfl) rfl ?_
  refine wl_alloc 40 #[.bool false, .int .u64 0, .int .u64 0, .int .u64 0, .int .u64 0, .int .i64 0] rfl (fun _ => by kernel_rfl) rfl ?_
  intro k6 w18 hk hz hq Q6
  have ne_k1_k6 : k1 ≠ k6 := by have := Q1.lt; omega
  have ne_k2_k6 : k2 ≠ k6 := by have := Q2.lt; omega
  have ne_k3_k6 : k3 ≠ k6 := by have := Q3.lt; omega
  have ne_k4_k6 : k4 ≠ k6 := by have := Q4.lt; omega
  have ne_k5_k6 : k5 ≠ k6 := by have := Q5.lt; omega
  have N_k6 : w.heap.size ≤ k6 := by have := M.size; omega
  replace Q1 := Q1.mo hq
  replace Q2 := Q2.mo hq
  replace Q3 := Q3.mo hq
  replace Q4 := Q4.mo hq
  replace Q5 := Q5.mo hq
  replace M := M.trans hq
  clear hk hz hq
  refine wl_st 40 (.tmp 14) (.tmp 80) k6 0 (rda t_b t_0 t_1 t_2 t_3 t_s) [.bool false, .int .u64 0, .int .u64 0, .int .u64 0, .int .u64 0, .int .i64 0] (rdl t_b t_0 t_1 t_2 t_3 t_s) Q6 rfl rfl rfl rfl rfl sz40 rfl rfl rfl ?_
  intro w19 hS Qn
  replace Q6 := Qn
  clear Qn
  replace Q1 := hS.other _ _ ne_k1_k6 Q1
  replace Q2 := hS.other _ _ ne_k2_k6 Q2
  replace Q3 := hS.other _ _ ne_k3_k6 Q3
  replace Q4 := hS.other _ _ ne_k4_k6 Q4
  replace Q5 := hS.other _ _ ne_k5_k6 Q5
  replace M := hS.mo _ N_k6 M
  clear hS
  refine wl_mv (.tmp 81) (.int .i64 (0)) (fun _ => rfl) rfl rfl ?_
  refine w_nil ?_
  refine xn_then ?_
  refine w_seq ?_
  refine w_seq ?_
  refine w_reg ?_
  refine wl_mv (.tmp 11) (.int .i64 (0)) (fun _ => rfl) rfl rfl ?_
  refine wl_bin (fun x y => do eqGuard .neq 32 (.tmp 82) (.const (.int .i64 (0))) x y; binOp .neq 32 x y) (.tmp 82) (.const (.int .i64 (0))) (.int .i64 (0)) (.int .i64 (0)) (.bool false) (fun _ => rfl) rfl rfl (by kernel_rfl) rfl ?_
  refine wl_mv (.tmp 83) (.bool false) (fun _ => rfl) rfl rfl ?_
  refine wl_load 40 (.tmp 3) (pt k1 0) (rd a_b a_0 a_1 a_2 a_3 a_s) rfl rfl (run_row Q1 40 0 6 (rdl a_b a_0 a_1 a_2 a_3 a_s) rfl Try.underlying40 rfl sz40) rfl ?_
  refine wl_load 40 (.tmp 14) (pt k6 0) (rd t_b t_0 t_1 t_2 t_3 t_s) rfl rfl (run_row Q6 40 0 6 (rdl t_b t_0 t_1 t_2 t_3 t_s) rfl Try.underlying40 rfl sz40) rfl ?_
  refine wl_call 51 [(.tmp 85), (.tmp 86)] _ [rd a_b a_0 a_1 a_2 a_3 a_s, rd t_b t_0 t_1 t_2 t_3 t_s] (.int .i64 (0)) rfl rfl (fun _ _ => by kernel_rfl) (t2 _) rfl ?_
  intro w20 hq
  replace Q1 := Q1.mo hq
  replace Q2 := Q2.mo hq
  replace Q3 := Q3.mo hq
  replace Q4 := Q4.mo hq
  replace Q5 := Q5.mo hq
  replace Q6 := Q6.mo hq
  replace M := M.trans hq
  clear hq
  refine wl_bin (fun x y => do eqGuard .neq 3 (.tmp 87) (.const (.int .i64 (0))) x y; binOp .neq 3 x y) (.tmp 87) (.const (.int .i64 (0))) (.int .i64 (0)) (.int .i64 (0)) (.bool false) (fun _ => rfl) rfl rfl (by kernel_rfl) rfl ?_
  refine wl_pick (.tmp 84) (.const (.bool true)) (.tmp 88) false (.bool false) (fun _ => rfl) rfl rfl rfl ?_
  refine wl_mv (.tmp 89) (.bool false) (fun _ => rfl) rfl rfl ?_
  refine wl_un (fun v => Instr.fieldAt 40 v 2) (.tmp 14) (pt k6 0) (pt k6 5) (fun _ => rfl) rfl (by kernel_rfl) rfl ?_
  refine wl_load 3 (.tmp 91) (pt k6 5) (.int .i64 t_s) rfl rfl (run_one Q6 3 5 rfl Try.underlying3 rfl) rfl ?_
  refine wl_un (fun v => Instr.fieldAt 40 v 2) (.tmp 3) (pt k1 0) (pt k1 5) (fun _ => rfl) rfl (by kernel_rfl) rfl ?_
  refine wl_load 3 (.tmp 93) (pt k1 5) (.int .i64 a_s) rfl rfl (run_one Q1 3 5 rfl Try.underlying3 rfl) rfl ?_
  refine wl_bin (fun x y => do eqGuard .gtr 3 (.tmp 92) (.tmp 94) x y; binOp .gtr 3 x y) (.tmp 92) (.tmp 94) (.int .i64 t_s) (.int .i64 a_s) (.bool false) (fun _ => rfl) rfl rfl (gtr3_run ht _ _ _) rfl ?_
  refine wl_pick (.tmp 90) (.const (.bool true)) (.tmp 95) false (.bool false) (fun _ => rfl) rfl rfl rfl ?_
  refine w_nil ?_
  refine xn_then ?_
  refine w_condF rfl ?_
  refine w_skip ?_
  refine xn_then ?_
  refine w_seq ?_
  refine w_reg ?_
  refine wl_load 40 (.tmp 3) (pt k1 0) (rd a_b a_0 a_1 a_2 a_3 a_s) rfl rfl (run_row Q1 40 0 6 (rdl a_b a_0 a_1 a_2 a_3 a_s) rfl Try.underlying40 rfl sz40) rfl ?_
  refine wl_load 40 (.tmp 5) (pt k3 0) (rd c_b c_0 c_1 c_2 c_3 c_s) rfl rfl (run_row Q3 40 0 6 (rdl c_b c_0 c_1 c_2 c_3 c_s) rfl Try.underlying40 rfl sz40) rfl ?_
  refine wl_call 35 [(.tmp 98), (.tmp 99)] _ [rd a_b a_0 a_1 a_2 a_3 a_s, rd c_b c_0 c_1 c_2 c_3 c_s] (.tuple #[rd p_b p_0 p_1 p_2 p_3 p_s, .int .i64 (0)]) rfl rfl (fun _ _ => by kernel_rfl) (a1 _) rfl ?_
  intro w21 hq
  replace Q1 := Q1.mo hq
  replace Q2 := Q2.mo hq
  replace Q3 := Q3.mo hq
  replace Q4 := Q4.mo hq
  replace Q5 := Q5.mo hq
  replace Q6 := Q6.mo hq
  replace M := M.trans hq
  clear hq
  refine wl_mv (.tmp 100) (.tuple #[rd p_b p_0 p_1 p_2 p_3 p_s, .int .i64 (0)]) (fun _ => rfl) rfl rfl ?_
  refine wl_un (fun v => Instr.extract v 0) (.tmp 97) (.tuple #[rd p_b p_0 p_1 p_2 p_3 p_s, .int .i64 (0)]) (rd p_b p_0 p_1 p_2 p_3 p_s) (fun _ => rfl) rfl (by kernel_rfl) rfl ?_
  refine wl_un (fun v => Instr.extract v 1) (.tmp 97) (.tuple #[rd p_b p_0 p_1 p_2 p_3 p_s, .int .i64 (0)]) (.int .i64 (0)) (fun _ => rfl) rfl (by kernel_rfl) rfl ?_
  refine wl_alloc 40 #[.bool false, .int .u64 0, .int .u64 0, .int .u64 0, .int .u64 0, .int .i64 0] rfl (fun _ => by kernel_rfl) rfl ?_
  intro k7 w22 hk hz hq Q7
  have ne_k1_k7 : k1 ≠ k7 := by have := Q1.lt; omega
  have ne_k2_k7 : k2 ≠ k7 := by have := Q2.lt; omega
  have ne_k3_k7 : k3 ≠ k7 := by have := Q3.lt; omega
  have ne_k4_k7 : k4 ≠ k7 := by have := Q4.lt; omega
  have ne_k5_k7 : k5 ≠ k7 := by have := Q5.lt; omega
  have ne_k6_k7 : k6 ≠ k7 := by have := Q6.lt; omega
  have N_k7 : w.heap.size ≤ k7 := by have := M.size; omega
  replace Q1 := Q1.mo hq
  replace Q2 := Q2.mo hq
  replace Q3 := Q3.mo hq
  replace Q4 := Q4.mo hq
  replace Q5 := Q5.mo hq
  replace Q6 := Q6.mo hq
  replace M := M.trans hq
  clear hk hz hq
  refine wl_st 40 (.tmp 15) (.tmp 101) k7 0 (rda p_b p_0 p_1 p_2 p_3 p_s) [.bool false, .int .u64 0, .int .u64 0, .int .u64 0, .int .u64 0, .int .i64 0] (rdl p_b p_0 p_1 p_2 p_3 p_s) Q7 rfl rfl rfl rfl rfl sz40 rfl rfl rfl ?_
  intro w23 hS Qn
  replace Q7 := Qn
  clear Qn
  replace Q1 := hS.other _ _ ne_k1_k7 Q1
  replace Q2 := hS.other _ _ ne_k2_k7 Q2
  replace Q3 := hS.other _ _ ne_k3_k7 Q3
  replace Q4 := hS.other _ _ ne_k4_k7 Q4
  replace Q5 := hS.other _ _ ne_k5_k7 Q5
  replace Q6 := hS.other _ _ ne_k6_k7 Q6
  replace M := hS.mo _ N_k7 M
  clear hS
  refine wl_mv (.tmp 102) (.int .i64 (0)) (fun _ => rfl) rfl rfl ?_
  refine w_nil ?_
  refine xn_then ?_
  refine w_seq ?_
  refine w_reg ?_
  refine wl_load 40 (.tmp 4) (pt k2 0) (rd b_b b_0 b_1 b_2 b_3 b_s) rfl rfl (run_row Q2 40 0 6 (rdl b_b b_0 b_1 b_2 b_3 b_s) rfl Try.underlying40 rfl sz40) rfl ?_
  refine wl_load 40 (.tmp 5) (pt k3 0) (rd c_b c_0 c_1 c_2 c_3 c_s) rfl rfl (run_row Q3 40 0 6 (rdl c_b c_0 c_1 c_2 c_3 c_s) rfl Try.underlying40 rfl sz40) rfl ?_
  refine wl_call 35 [(.tmp 104), (.tmp 105)] _ [rd b_b b_0 b_1 b_2 b_3 b_s, rd c_b c_0 c_1 c_2 c_3 c_s] (.tuple #[rd q_b q_0 q_1 q_2 q_3 q_s, .int .i64 (0)]) rfl rfl (fun _ _ => by kernel_rfl) (a2 _) rfl ?_
  intro w24 hq
  replace Q1 := Q1.mo hq
  replace Q2 := Q2.mo hq
  replace Q3 := Q3.mo hq
  replace Q4 := Q4.mo hq
  replace Q5 := Q5.mo hq
  replace Q6 := Q6.mo hq
  replace Q7 := Q7.mo hq
  replace M := M.trans hq
  clear hq
  refine wl_mv (.tmp 106) (.tuple #[rd q_b q_0 q_1 q_2 q_3 q_s, .int .i64 (0)]) (fun _ => rfl) rfl rfl ?_
  refine wl_un (fun v => Instr.extract v 0) (.tmp 103) (.tuple #[rd q_b q_0 q_1 q_2 q_3 q_s, .int .i64 (0)]) (rd q_b q_0 q_1 q_2 q_3 q_s) (fun _ => rfl) rfl (by kernel_rfl) rfl ?_
  refine wl_un (fun v => Instr.extract v 1) (.tmp 103) (.tuple #[rd q_b q_0 q_1 q_2 q_3 q_s, .int .i64 (0)]) (.int .i64 (0)) (fun _ => rfl) rfl (by kernel_rfl) rfl ?_
  refine wl_alloc 40 #[.bool false, .int .u64 0, .int .u64 0, .int .u64 0, .int .u64 0, .int .i64 0] rfl (fun _ => by kernel_rfl) rfl ?_
  intro k8 w25 hk hz hq Q8
  have ne_k1_k8 : k1 ≠ k8 := by have := Q1.lt; omega
  have ne_k2_k8 : k2 ≠ k8 := by have := Q2.lt; omega
  have ne_k3_k8 : k3 ≠ k8 := by have := Q3.lt; omega
  have ne_k4_k8 : k4 ≠ k8 := by have := Q4.lt; omega
  have ne_k5_k8 : k5 ≠ k8 := by have := Q5.lt; omega
  have ne_k6_k8 : k6 ≠ k8 := by have := Q6.lt; omega
  have ne_k7_k8 : k7 ≠ k8 := by have := Q7.lt; omega
  have N_k8 : w.heap.size ≤ k8 := by have := M.size; omega
  replace Q1 := Q1.mo hq
  replace Q2 := Q2.mo hq
  replace Q3 := Q3.mo hq
  replace Q4 := Q4.mo hq
  replace Q5 := Q5.mo hq
  replace Q6 := Q6.mo hq
  replace Q7 := Q7.mo hq
  replace M := M.trans hq
  clear hk hz hq
  refine wl_st 40 (.tmp 16) (.tmp 107) k8 0 (rda q_b q_0 q_1 q_2 q_3 q_s) [.bool false, .int .u64 0, .int .u64 0, .int .u64 0, .int .u64 0, .int .i64 0] (rdl q_b q_0 q_1 q_2 q_3 q_s) Q8 rfl rfl rfl rfl rfl sz40 rfl rfl rfl ?_
  intro w26 hS Qn
  replace Q8 := Qn
  clear Qn
  replace Q1 := hS.other _ _ ne_k1_k8 Q1
  replace Q2 := hS.other _ _ ne_k2_k8 Q2
  replace Q3 := hS.other _ _ ne_k3_k8 Q3
  replace Q4 := hS.other _ _ ne_k4_k8 Q4
  replace Q5 := hS.other _ _ ne_k5_k8 Q5
  replace Q6 := hS.other _ _ ne_k6_k8 Q6
  replace Q7 := hS.other _ _ ne_k7_k8 Q7
  replace M := hS.mo _ N_k8 M
  clear hS
  refine wl_mv (.tmp 108) (.int .i64 (0)) (fun _ => rfl) rfl rfl ?_
  refine w_nil ?_
  refine xn_then ?_
  refine w_seq ?_
  refine w_seq ?_
  refine w_reg ?_
  refine wl_mv (.tmp 11) (.int .i64 (0)) (fun _ => rfl) rfl rfl ?_
  refine wl_bin (fun x y => do eqGuard .neq 32 (.tmp 109) (.const (.int .i64 (0))) x y; binOp .neq 32 x y) (.tmp 109) (.const (.int .i64 (0))) (.int .i64 (0)) (.int .i64 (0)) (.bool false) (fun _ => rfl) rfl rfl (by kernel_rfl) rfl ?_
  refine wl_mv (.tmp 110) (.bool false) (fun _ => rfl) rfl rfl ?_
  refine wl_mv (.tmp 13) (.int .i64 (0)) (fun _ => rfl) rfl rfl ?_
  refine wl_bin (fun x y => do eqGuard .neq 32 (.tmp 112) (.const (.int .i64 (0))) x y; binOp .neq 32 x y) (.tmp 112) (.const (.int .i64 (0))) (.int .i64 (0)) (.int .i64 (0)) (.bool false) (fun _ => rfl) rfl rfl (by kernel_rfl) rfl ?_
  refine wl_pick (.tmp 111) (.const (.bool true)) (.tmp 113) false (.bool false) (fun _ => rfl) rfl rfl rfl ?_
  refine w_nil ?_
  refine xn_then ?_
  refine w_condF rfl ?_
  refine w_skip ?_
  refine xn_then ?_
  refine w_seq ?_
  refine w_reg ?_
  refine wl_load 40 (.tmp 15) (pt k7 0) (rd p_b p_0 p_1 p_2 p_3 p_s) rfl rfl (run_row Q7 40 0 6 (rdl p_b p_0 p_1 p_2 p_3 p_s) rfl Try.underlying40 rfl sz40) rfl ?_
  refine wl_load 40 (.tmp 16) (pt k8 0) (rd q_b q_0 q_1 q_2 q_3 q_s) rfl rfl (run_row Q8 40 0 6 (rdl q_b q_0 q_1 q_2 q_3 q_s) rfl Try.underlying40 rfl sz40) rfl ?_
  refine wl_call 51 [(.tmp 115), (.tmp 116)] _ [rd p_b p_0 p_1 p_2 p_3 p_s, rd q_b q_0 q_1 q_2 q_3 q_s] (.int .i64 x) rfl rfl (fun _ _ => by kernel_rfl) (a3 _) rfl ?_
  intro w27 hq
  replace Q1 := Q1.mo hq
  replace Q2 := Q2.mo hq
  replace Q3 := Q3.mo hq
  replace Q4 := Q4.mo hq
  replace Q5 := Q5.mo hq
  replace Q6 := Q6.mo hq
  replace Q7 := Q7.mo hq
  replace Q8 := Q8.mo hq
  replace M := M.trans hq
  clear hq
  refine wl_mv (.tmp 7) (.int .i64 x) (fun _ => rfl) rfl rfl ?_
  refine wl_bin (fun x y => do eqGuard .eql 3 (.tmp 117) (.tmp 118) x y; binOp .eql 3 x y) (.tmp 117) (.tmp 118) (.int .i64 x) (.int .i64 x) (.bool true) (fun _ => rfl) rfl rfl (eql3_run (by simp) _ _ _) rfl ?_
  refine wl_mv (.tmp 119) (.bool true) (fun _ => rfl) rfl rfl ?_
  refine w_nil ?_
  refine xn_then ?_
  refine w_ret ?_
  exact w_ret1 _ (.bool true) rfl rfl ⟨rfl, M⟩
end Go.Proofs.Ytoiiekmkcpcbgaa
/-
  exciselaw02.DecimalOrder answers true for every three numbers.
-/
namespace Go.Proofs.Ytoiiekmkcpcbgaa
open Go.RowKit
/-- A number in the last digits of the greatest scale. -/
def val (u s : Int) : Int := u * pw (18 - s)
theorem pw_add {a b : Int} (ha : 0 ≤ a) (hb : 0 ≤ b) : pw a * pw b = pw (a + b) := by
  unfold pw
  rw [show (a + b).toNat = a.toNat + b.toNat by omega, Int.pow_add]
theorem cm_mul {a b p : Int} (hp : 0 < p) : cm (a * p) (b * p) = cm a b := by
  unfold cm
  by_cases h1 : a < b
  · rw [if_pos h1, if_pos (Int.mul_lt_mul_of_pos_right h1 hp)]
  · rw [if_neg h1, if_neg (fun h => h1 (Int.lt_of_mul_lt_mul_right h (Int.le_of_lt hp)))]
    by_cases h2 : b < a
    · rw [if_pos h2, if_pos (Int.mul_lt_mul_of_pos_right h2 hp)]
    · rw [if_neg h2, if_neg (fun h => h2 (Int.lt_of_mul_lt_mul_right h (Int.le_of_lt hp)))]
theorem val_at {u s M : Int} (h : s ≤ M) (hM : M ≤ 18) : u * pw (M - s) * pw (18 - M) = val u s := by
  unfold val
  rw [Int.mul_assoc, pw_add (by omega) (by omega)]
  congr 2; omega
theorem cmp_v (u s v t : Int) (w : World) (hu : ab u < MM) (hv : ab v < MM) (hs : sc s = true) (ht : sc t = true) :
    Calls Try.prog 51 #[dz u s, dz v t] w fun e w' => e = .returned (.int .i64 (cm (val u s) (val v t))) ∧ Mo w w' := by
  have := cmp_z u s v t w hu hv hs ht
  obtain ⟨s0, s1⟩ := sc_iff.1 hs
  obtain ⟨t0, t1⟩ := sc_iff.1 ht
  rw [← cm_mul (pw_pos (18 - max s t)), val_at (by omega) (by omega), val_at (by omega) (by omega)] at this
  exact this
theorem val_add {u s v t : Int} (hs : sc s = true) (ht : sc t = true) : val (addV u s v t) (max s t) = val u s + val v t := by
  obtain ⟨s0, s1⟩ := sc_iff.1 hs
  obtain ⟨t0, t1⟩ := sc_iff.1 ht
  rw [← val_at (u := u) (s := s) (M := max s t) (by omega) (by omega), ← val_at (u := v) (s := t) (M := max s t) (by omega) (by omega)]
  unfold val addV
  rw [Int.add_mul]
theorem val_neg (u s : Int) : val (-u) s = -(val u s) := by unfold val; rw [Int.neg_mul]
theorem trN_spec : ∀ (k : Nat) (n : Int), 0 ≤ n → (trN k n).2 ≤ k ∧ 0 ≤ (trN k n).1 ∧ (trN k n).1 ≤ n ∧ (trN k n).1 * 10 ^ (k - (trN k n).2) = n ∧ (n ≠ 0 → (trN k n).1 ≠ 0) ∧ (n = 0 → (trN k n).1 = 0)
  | 0, n, h => by simp [trN]; exact h
  | k + 1, n, h => by
    unfold trN
    by_cases hr : n % 10 = 0
    · rw [if_pos hr]
      obtain ⟨a, b, c, d, e, f⟩ := trN_spec k (n / 10) (by omega)
      refine ⟨by omega, b, by omega, ?_, fun hn => e (by omega), fun hn => f (by omega)⟩
      rw [show k + 1 - (trN k (n / 10)).2 = (k - (trN k (n / 10)).2) + 1 by omega, Int.pow_succ, ← Int.mul_assoc, d]
      omega
    · rw [if_neg hr]
      refine ⟨Nat.le_refl _, h, Int.le_refl _, by simp, fun hn => hn, fun hn => hn⟩
theorem order_n (b c d : Bool) (n m p s t q : Int) (w : World) (hn0 : 0 ≤ n) (hn : n < MM) (hm0 : 0 ≤ m) (hm : m < MM) (hp0 : 0 ≤ p) (hp : p < MM) :
    Calls Try.prog 14 #[dc b n s, dc c m t, dc d p q] w fun e w' => e = .returned (.bool true) ∧ Mo w w' := by
  have cmpAny : ∀ (b c : Bool) (n m s t : Int), 0 ≤ n → n < MM → 0 ≤ m → m < MM → ∃ x : Int, ∀ w, Calls Try.prog 51 #[dc b n s, dc c m t] w fun e w' => e = .returned (.int .i64 x) ∧ Mo w w' := by
    intro b c n m s t hn0 hn hm0 hm
    by_cases h : ck b n s = 0 ∧ ck c m t = 0
    · obtain ⟨h1, h2⟩ := h
      obtain ⟨hs, u, rfl, rfl⟩ := dz_of hn0 h1
      obtain ⟨ht, v, rfl, rfl⟩ := dz_of hm0 h2
      exact ⟨_, fun w => cmp_z u s v t w hn hm hs ht⟩
    · exact ⟨0, fun w => dcmp_no b c n m s t w hn0 hn hm0 hm h⟩
  by_cases h1 : ck b n s = 0
  · by_cases h2 : ck c m t = 0
    · by_cases h3 : ck d p q = 0
      · have k1 := fun w => check_ok b n s w hn0 hn h1
        have k2 := fun w => check_ok c m t w hm0 hm h2
        have k3 := fun w => check_ok d p q w hp0 hp h3
        obtain ⟨hs, u, rfl, rfl⟩ := dz_of hn0 h1
        obtain ⟨ht, v, rfl, rfl⟩ := dz_of hm0 h2
        obtain ⟨hq, x, rfl, rfl⟩ := dz_of hp0 h3
        obtain ⟨s0, s1⟩ := sc_iff.1 hs
        have c1 := fun w => cmp_v u s v t w hn hm hs ht
        have c2 := fun w => cmp_v v t x q w hm hp ht hq
        have c3 := fun w => cmp_v u s x q w hn hp hs hq
        have n1 := fun w => neg_z u s w hn hs
        have n2 := fun w => neg_z v t w hm ht
        have n3 := fun w => cmp_v (-v) t (-u) s w (by rw [ab_neg]; exact hm) (by rw [ab_neg]; exact hn) ht hs
        have en : cm (val (-v) t) (val (-u) s) = cm (val u s) (val v t) := by
          rw [val_neg, val_neg]; unfold cm; split <;> split <;> (try split) <;> (try split) <;> omega
        rw [en] at n3
        -- the least scale
        obtain ⟨k, rfl⟩ : ∃ k : Nat, s = (k : Int) := ⟨s.toNat, by omega⟩
        obtain ⟨ta, tb, tc, td, te, tf⟩ := trN_spec k (ab u) (ab_nn u)
        have t1 := fun w => trim_ok (decide (u < 0)) (ab u) k w (ab_nn u) hn (by omega) h1
        obtain ⟨T, hT1, hT2⟩ : ∃ T : Int, ab T = (trN k (ab u)).1 ∧ decide (T < 0) = decide (u < 0) := by
          have cu := ab_c u
          rcases cu with ⟨a, b⟩ | ⟨a, b⟩
          · refine ⟨-(trN k (ab u)).1, ?_, ?_⟩
            · rw [ab_neg]; have := ab_c (trN k (ab u)).1; omega
            · rw [decide_eq_true a, decide_eq_true]; have := te (by omega); omega
          · refine ⟨(trN k (ab u)).1, ?_, ?_⟩
            · have := ab_c (trN k (ab u)).1; omega
            · rw [decide_eq_false (by omega), decide_eq_false (by omega)]
        have hTs : sc (((trN k (ab u)).2 : Nat) : Int) = true := by rw [sc_iff]; omega
        have hTb : ab T < MM := by rw [hT1]; omega
        have vT : val T (((trN k (ab u)).2 : Nat) : Int) = val u (k : Int) := by
          rw [← val_at (u := T) (s := (((trN k (ab u)).2 : Nat) : Int)) (M := (k : Int)) (by omega) (by omega)]
          unfold val
          congr 1
          have e1 : pw ((k : Int) - (((trN k (ab u)).2 : Nat) : Int)) = 10 ^ (k - (trN k (ab u)).2) := by unfold pw; congr 1; omega
          rw [e1]
          have e2 := ab_mul (u := T) (x := 10 ^ (k - (trN k (ab u)).2)) (Int.pow_pos (by decide))
          rw [hT1, td] at e2
          have e3 := neg_mul_iff (u := T) (x := 10 ^ (k - (trN k (ab u)).2)) (Int.pow_pos (by decide))
          rw [hT2] at e3
          generalize T * 10 ^ (k - (trN k (ab u)).2) = Z at *
          have cz := ab_c Z
          have cu := ab_c u
          have : (Z < 0) ↔ (u < 0) := by simpa using e3
          omega
        have t2 := fun w => cmp_v u (k : Int) T (((trN k (ab u)).2 : Nat) : Int) w hn hTb hs hTs
        have eT : dz T (((trN k (ab u)).2 : Nat) : Int) = dc (decide (u < 0)) (trN k (ab u)).1 (((trN k (ab u)).2 : Nat) : Int) := by unfold dz; rw [hT1, hT2]
        rw [vT, cm_self, eT] at t2
        have ht' : decide ((((trN k (ab u)).2 : Nat) : Int) > (k : Int)) = false := decide_eq_false (by omega)
        have a1 := fun w => add_z u (k : Int) x q w hn hp hs hq
        have a2 := fun w => add_z v t x q w hm hp ht hq
        have a3 : ab (addV u (k : Int) x q) < MM → ab (addV v t x q) < MM → ∀ w, Calls Try.prog 51 #[dz (addV u (k : Int) x q) (max (k : Int) q), dz (addV v t x q) (max t q)] w fun e w' => e = .returned (.int .i64 (cm (val u (k : Int)) (val v t))) ∧ Mo w w' := fun r1 r2 w => by
          have := cmp_v (addV u (k : Int) x q) (max (k : Int) q) (addV v t x q) (max t q) w r1 r2 (sc_max hs hq) (sc_max ht hq)
          rw [val_add hs hq, val_add ht hq] at this
          have e : cm (val u (k : Int) + val x q) (val v t + val x q) = cm (val u (k : Int)) (val v t) := by unfold cm; split <;> split <;> (try split) <;> (try split) <;> omega
          rw [e] at this
          exact this
        have tri : decide (cm (val u (k : Int)) (val v t) ≤ 0) = true → decide (cm (val v t) (val x q) ≤ 0) = true → decide (cm (val u (k : Int)) (val x q) > 0) = false := fun a b => by
          simp only [decide_eq_true_eq, decide_eq_false_iff_not] at *
          unfold cm at *
          split at a <;> split at b <;> (try split at a) <;> (try split at b) <;> split <;> (try split) <;> omega
        by_cases r1 : ab (addV u (k : Int) x q) < MM
        · rw [fz_yes r1] at a1
          by_cases r2 : ab (addV v t x q) < MM
          · rw [fz_yes r2] at a2
            have a3 := a3 r1 r2
            cases hx : decide (cm (val u (k : Int)) (val v t) ≤ 0) with
            | false => exact order_a_ok _ _ _ _ _ _ _ _ _ _ _ _ _ _ _ _ _ _ _ _ _ _ _ _ _ _ _ _ _ _ _ _ _ _ _ _ _ _ _ _ _ _ _ _ _ _ _ _ _ _ _ w c1 c2 c3 k1 k2 k3 hx n1 n2 n3 t1 t2 ht' a1 a2 a3
            | true =>
              cases hy : decide (cm (val v t) (val x q) ≤ 0) with
              | false => exact order_b_ok _ _ _ _ _ _ _ _ _ _ _ _ _ _ _ _ _ _ _ _ _ _ _ _ _ _ _ _ _ _ _ _ _ _ _ _ _ _ _ _ _ _ _ _ _ _ _ _ _ _ _ w c1 c2 c3 k1 k2 k3 hx hy n1 n2 n3 t1 t2 ht' a1 a2 a3
              | true => exact order_c_ok _ _ _ _ _ _ _ _ _ _ _ _ _ _ _ _ _ _ _ _ _ _ _ _ _ _ _ _ _ _ _ _ _ _ _ _ _ _ _ _ _ _ _ _ _ _ _ _ _ _ _ w c1 c2 c3 k1 k2 k3 hx hy (tri hx hy) n1 n2 n3 t1 t2 ht' a1 a2 a3
          · rw [fz_no r2] at a2
            cases hx : decide (cm (val u (k : Int)) (val v t) ≤ 0) with
            | false => exact order_a_e2 _ _ _ _ _ _ _ _ _ _ _ _ _ _ _ _ _ _ _ _ _ _ _ _ _ _ _ _ _ _ _ _ _ _ _ _ _ _ _ _ _ _ _ _ _ _ _ _ _ _ _ 7 w c1 c2 c3 k1 k2 k3 hx n1 n2 n3 t1 t2 ht' a1 a2 rfl
            | true =>
              cases hy : decide (cm (val v t) (val x q) ≤ 0) with
              | false => exact order_b_e2 _ _ _ _ _ _ _ _ _ _ _ _ _ _ _ _ _ _ _ _ _ _ _ _ _ _ _ _ _ _ _ _ _ _ _ _ _ _ _ _ _ _ _ _ _ _ _ _ _ _ _ 7 w c1 c2 c3 k1 k2 k3 hx hy n1 n2 n3 t1 t2 ht' a1 a2 rfl
              | true => exact order_c_e2 _ _ _ _ _ _ _ _ _ _ _ _ _ _ _ _ _ _ _ _ _ _ _ _ _ _ _ _ _ _ _ _ _ _ _ _ _ _ _ _ _ _ _ _ _ _ _ _ _ _ _ 7 w c1 c2 c3 k1 k2 k3 hx hy (tri hx hy) n1 n2 n3 t1 t2 ht' a1 a2 rfl
        · rw [fz_no r1] at a1
          obtain ⟨b', p0, p1, p2, p3, p4, g, hM⟩ := isD_fz (addV v t x q) (max t q)
          rw [hM] at a2
          cases hx : decide (cm (val u (k : Int)) (val v t) ≤ 0) with
          | false => exact order_a_e1 _ _ _ _ _ _ _ _ _ _ _ _ _ _ _ _ _ _ _ _ _ _ _ _ _ _ _ _ _ _ _ _ _ _ _ _ _ _ _ _ _ _ _ _ _ _ _ _ _ _ _ 7 g w c1 c2 c3 k1 k2 k3 hx n1 n2 n3 t1 t2 ht' a1 a2 rfl
          | true =>
            cases hy : decide (cm (val v t) (val x q) ≤ 0) with
            | false => exact order_b_e1 _ _ _ _ _ _ _ _ _ _ _ _ _ _ _ _ _ _ _ _ _ _ _ _ _ _ _ _ _ _ _ _ _ _ _ _ _ _ _ _ _ _ _ _ _ _ _ _ _ _ _ 7 g w c1 c2 c3 k1 k2 k3 hx hy n1 n2 n3 t1 t2 ht' a1 a2 rfl
            | true => exact order_c_e1 _ _ _ _ _ _ _ _ _ _ _ _ _ _ _ _ _ _ _ _ _ _ _ _ _ _ _ _ _ _ _ _ _ _ _ _ _ _ _ _ _ _ _ _ _ _ _ _ _ _ _ 7 g w c1 c2 c3 k1 k2 k3 hx hy (tri hx hy) n1 n2 n3 t1 t2 ht' a1 a2 rfl
      · obtain ⟨x, c1⟩ := cmpAny b c n m s t hn0 hn hm0 hm
        obtain ⟨y, c2⟩ := cmpAny c d m p t q hm0 hm hp0 hp
        obtain ⟨z, c3⟩ := cmpAny b d n p s q hn0 hn hp0 hp
        exact order_n3 _ _ _ _ _ _ _ _ _ _ _ _ _ _ _ _ _ _ x y z 20 w c1 c2 c3 (fun w => check_ok b n s w hn0 hn h1) (fun w => check_ok c m t w hm0 hm h2) (fun w => check_no d p q w hp0 hp h3) rfl
    · obtain ⟨x, c1⟩ := cmpAny b c n m s t hn0 hn hm0 hm
      obtain ⟨y, c2⟩ := cmpAny c d m p t q hm0 hm hp0 hp
      obtain ⟨z, c3⟩ := cmpAny b d n p s q hn0 hn hp0 hp
      exact order_n2 _ _ _ _ _ _ _ _ _ _ _ _ _ _ _ _ _ _ x y z 20 w c1 c2 c3 (fun w => check_ok b n s w hn0 hn h1) (fun w => check_no c m t w hm0 hm h2) rfl
  · obtain ⟨x, c1⟩ := cmpAny b c n m s t hn0 hn hm0 hm
    obtain ⟨y, c2⟩ := cmpAny c d m p t q hm0 hm hp0 hp
    obtain ⟨z, c3⟩ := cmpAny b d n p s q hn0 hn hp0 hp
    exact order_n1 _ _ _ _ _ _ _ _ _ _ _ _ _ _ _ _ _ _ x y z 20 w c1 c2 c3 (fun w => check_no b n s w hn0 hn h1) rfl
end Go.Proofs.Ytoiiekmkcpcbgaa
namespace Go.Proofs.Ytoiiekmkcpcbgaa
open Go.ChangeShapes Go.WideShapes Go.ChangeAt Go.RowKit

set_option maxHeartbeats 1000000 in
set_option maxRecDepth 100000 in
theorem decimalOrder_lifted (os : Os) (started : os.Started) (H : Type) (enc : TypeId × Value → H) :
    ReturnsInHanded {} Try.checked os 14 .any (Rows.decimalOrderSpec.pre6 enc Try.prog Try.f14 Rows.decimalOrderRow.domain false) (Rows.decimalOrderSpec.post enc Try.prog Try.f14 false true false false) := by
  refine returnsInHanded_of_change (C := Try.checked) Try.own started (by kernel_rfl) Try.func14
    (ChangeSpec.witness6 (enc := enc) (C := Try.checked) false ⟨#[], #[.agg #[.bool false, .int .u64 0, .int .u64 0, .int .u64 0, .int .u64 0, .int .i64 0], .agg #[.bool false, .int .u64 0, .int .u64 0, .int .u64 0, .int .u64 0, .int .i64 0], .agg #[.bool false, .int .u64 0, .int .u64 0, .int .u64 0, .int .u64 0, .int .i64 0]], []⟩ 14 (by kernel_rfl) (by kernel_rfl) (by kernel_rfl) (by kernel_rfl)) ?_
  intro W base args ds gs before hval0 hW hcnd _
  have hval : ∀ (j : Nat) t v, Try.f14.params[j]? = some t → args[j]? = some v → Value.okWide Try.prog W .any base t v := hval0
  have hW' := hW
  obtain ⟨p, q, hA0, hV, rfl, hfz, hnd⟩ := hW
  have hA : DataW.TrodAll enc Try.prog W 0 (fun _ => true) true Try.f14.params.toList args.toList ds p := hA0
  rw [Try.params14] at hA hval
  obtain ⟨v0, v1, v2, d0, d1, d2, p0, p1, p2, rfl, rfl, rfl, h0, h1, h2⟩ := trodAll_three hA
  obtain ⟨rfl, rfl⟩ := trodVars_none hV
  obtain ⟨ab, a0, a1, a2, a3, az, rfl, rfl, ua, sa, ra⟩ := open_dec (hval 0 40 v0 rfl rfl) h0
  obtain ⟨bb, b0, b1, b2, b3, bz, rfl, rfl, ub, sb, rb⟩ := open_dec (hval 1 40 v1 rfl rfl) h1
  obtain ⟨cb, c0, c1, c2, c3, cz, rfl, rfl, uc, sc, rc⟩ := open_dec (hval 2 40 v2 rfl rfl) h2
  clear hA0 hval0
  simp only [List.append_nil] at hW'
  rw [← dc_vl ua, ← dc_vl ub, ← dc_vl uc] at *
  refine (order_n ab bb cb (vl a0 a1 a2 a3) (vl b0 b1 b2 b3) (vl c0 c1 c2 c3) az bz cz  W (vl_bd ua).1 (vl_bd ua).2 (vl_bd ub).1 (vl_bd ub).2 (vl_bd uc).1 (vl_bd uc).2).mono fun e W' ⟨he, hg⟩ => ?_
  subst he
  exact ⟨_, rfl, post_of_same (pa := []) (pv := []) hW' (fun _ _ _ => trodAll_mk1 (shut_bool Try.underlying4 _)) (fun sp _ => trodAll_mk3 (ra _ sp) (rb _ sp) (rc _ sp)) (fun _ _ => rfl) rfl
    (hg.1.frame _) hg.2 (ok_one (by kernel_rfl) rfl (okWide_bool_mk Try.underlying4 _))⟩

theorem decimalOrder_holds : Rows.DecimalOrderSaid :=
  OpenClaim.holds_of_wide 14 Try.f14 rfl rfl rfl rfl rfl rfl rfl ⟨rfl, rfl, rfl, rfl, rfl⟩ rfl rfl rfl rfl rfl (by kernel_rfl) Try.func14 (by kernel_rfl)
    (of_decide_eq_true (by kernel_rfl)) (by unfold Func.isWrapper; rw [if_neg (of_decide_eq_false (by kernel_rfl))]; exact ⟨rfl, rfl⟩)
    (fun os started H enc _ => decimalOrder_lifted os started H enc)
#print axioms decimalOrder_holds
end Go.Proofs.Ytoiiekmkcpcbgaa
