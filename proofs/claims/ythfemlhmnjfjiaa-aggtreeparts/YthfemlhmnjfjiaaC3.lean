/-
  A part of the proof.
-/
import Derived.Test.YthfemlhmnjfjiaaC2
import Derived.Test.YthfemlhmnjfjiaaC1
/-
  minus, and the document's bit and AddWide.
-/
namespace Go.Proofs.Ythfemlhmnjfjiaa
open Go.RowKit
section
variable {w : World}
theorem minus_n (a : Int) : Calls Try.prog 89 #[wv a] w fun e w' => e = .returned (wv (-a)) ∧ Mo w w' := by
  have hl := l_bd a
  have hn := not_l a
  refine w_enter 17 Try.func89 Try.ntmps89 rfl rfl ?_
  have M : Mo w w := Mo.refl _
  refine w_seq (w_reg ?_)
  refine wl_box 36 (.tmp 0) (.agg #[.int .u64 (l0 (a)), .int .u64 (l1 (a)), .int .u64 (l2 (a)), .int .u64 (l3 (a)), .int .u64 (l4 (a))]) (#[.int .u64 (l0 (a)), .int .u64 (l1 (a)), .int .u64 (l2 (a)), .int .u64 (l3 (a)), .int .u64 (l4 (a))]) rfl rfl (fun _ => by kernel_rfl) rfl ?_
  intro k1 w1 hk hz hq Q1
  have N_k1 : w.heap.size ≤ k1 := by have := M.size; omega
  replace M := M.trans hq
  clear hk hz hq
  refine wl_alloc 36 #[.int .u64 0, .int .u64 0, .int .u64 0, .int .u64 0, .int .u64 0] rfl (fun _ => by kernel_rfl) rfl ?_
  intro k2 w2 hk hz hq Q2
  have ne_k1_k2 : k1 ≠ k2 := by have := Q1.lt; omega
  have N_k2 : w.heap.size ≤ k2 := by have := M.size; omega
  replace Q1 := Q1.mo hq
  replace M := M.trans hq
  clear hk hz hq
  refine w_nil (xn_then (w_seq (w_seq (w_reg ?_))))
  refine wl_m (.const (.int .i64 (0))) (.int .i64 (0)) ?_
  refine w_nil (xn_then (w_block ?_))
  refine w_rounds 5 ?_
  refine w_seq (w_reg ?_)
  refine wl_b .lss 3 (.tmp 4) (.const (.int .i64 (5))) (.int .i64 (0)) (.int .i64 (5)) (.bool true) (by kernel_rfl) ?_
  refine w_nil (xn_then (w_seq (w_condT rfl (w_skip (xn_then (w_seq (w_block (w_seq (w_reg ?_)))))))))
  refine wl_m (.tmp 4) (.int .i64 (0)) ?_
  refine wl_m (.tmp 6) (.int .i64 (0)) ?_
  refine w_nil (xn_then (w_reg ?_))
  refine wl_m (.tmp 3) (.int .i64 (0)) ?_
  refine wl_m (.tmp 3) (.int .i64 (0)) ?_
  refine wl_bin (fun x y => Instr.indexAt 36 x y) (.tmp 1) (.tmp 8) (pt k1 0) (.int .i64 (0)) (pt k1 0) (fun _ => rfl) rfl rfl (by kernel_rfl) rfl ?_
  refine wl_l 34 (.tmp 9) (pt k1 0) (.int .u64 (l0 (a))) (run_one Q1 34 0 rfl Try.underlying34 rfl) ?_
  refine wl_un (fun v => Op.unary .xor v) (.tmp 10) (.int .u64 (l0 (a))) (.int .u64 (l0 (-1 - a))) (fun _ => rfl) rfl (notU hl.1 hn.1 _) rfl ?_
  refine wl_bin (fun x y => Instr.indexAt 36 x y) (.tmp 1) (.tmp 7) (pt k1 0) (.int .i64 (0)) (pt k1 0) (fun _ => rfl) rfl rfl (by kernel_rfl) rfl ?_
  refine wl_st1 34 (.tmp 12) (.tmp 11) k1 0 (.int .u64 (l0 (-1 - a))) [.int .u64 (l0 (a)), .int .u64 (l1 (a)), .int .u64 (l2 (a)), .int .u64 (l3 (a)), .int .u64 (l4 (a))] [.int .u64 (l0 (-1 - a)), .int .u64 (l1 (a)), .int .u64 (l2 (a)), .int .u64 (l3 (a)), .int .u64 (l4 (a))] Q1 rfl rfl rfl rfl rfl sz22 rfl rfl rfl rfl ?_
  intro w3 hS Qn
  replace Q1 := Qn
  clear Qn
  replace Q2 := hS.other _ _ ne_k1_k2.symm Q2
  replace M := hS.mo _ N_k1 M
  clear hS
  refine w_nil (xn_blk (xn_then (w_reg ?_)))
  refine wl_b .add 3 (.tmp 4) (.const (.int .i64 (1))) (.int .i64 (0)) (.int .i64 (1)) (.int .i64 (1)) (by kernel_rfl) ?_
  refine wl_m (.tmp 13) (.int .i64 (1)) ?_
  refine w_nil ?_
  refine xn_rounds ?_
  refine w_seq (w_reg ?_)
  refine wl_b .lss 3 (.tmp 4) (.const (.int .i64 (5))) (.int .i64 (1)) (.int .i64 (5)) (.bool true) (by kernel_rfl) ?_
  refine w_nil (xn_then (w_seq (w_condT rfl (w_skip (xn_then (w_seq (w_block (w_seq (w_reg ?_)))))))))
  refine wl_m (.tmp 4) (.int .i64 (1)) ?_
  refine wl_m (.tmp 6) (.int .i64 (1)) ?_
  refine w_nil (xn_then (w_reg ?_))
  refine wl_m (.tmp 3) (.int .i64 (1)) ?_
  refine wl_m (.tmp 3) (.int .i64 (1)) ?_
  refine wl_bin (fun x y => Instr.indexAt 36 x y) (.tmp 1) (.tmp 8) (pt k1 0) (.int .i64 (1)) (pt k1 1) (fun _ => rfl) rfl rfl (by kernel_rfl) rfl ?_
  refine wl_l 34 (.tmp 9) (pt k1 1) (.int .u64 (l1 (a))) (run_one Q1 34 1 rfl Try.underlying34 rfl) ?_
  refine wl_un (fun v => Op.unary .xor v) (.tmp 10) (.int .u64 (l1 (a))) (.int .u64 (l1 (-1 - a))) (fun _ => rfl) rfl (notU hl.2.1 hn.2.1 _) rfl ?_
  refine wl_bin (fun x y => Instr.indexAt 36 x y) (.tmp 1) (.tmp 7) (pt k1 0) (.int .i64 (1)) (pt k1 1) (fun _ => rfl) rfl rfl (by kernel_rfl) rfl ?_
  refine wl_st1 34 (.tmp 12) (.tmp 11) k1 1 (.int .u64 (l1 (-1 - a))) [.int .u64 (l0 (-1 - a)), .int .u64 (l1 (a)), .int .u64 (l2 (a)), .int .u64 (l3 (a)), .int .u64 (l4 (a))] [.int .u64 (l0 (-1 - a)), .int .u64 (l1 (-1 - a)), .int .u64 (l2 (a)), .int .u64 (l3 (a)), .int .u64 (l4 (a))] Q1 rfl rfl rfl rfl rfl sz22 rfl rfl rfl rfl ?_
  intro w4 hS Qn
  replace Q1 := Qn
  clear Qn
  replace Q2 := hS.other _ _ ne_k1_k2.symm Q2
  replace M := hS.mo _ N_k1 M
  clear hS
  refine w_nil (xn_blk (xn_then (w_reg ?_)))
  refine wl_b .add 3 (.tmp 4) (.const (.int .i64 (1))) (.int .i64 (1)) (.int .i64 (1)) (.int .i64 (2)) (by kernel_rfl) ?_
  refine wl_m (.tmp 13) (.int .i64 (2)) ?_
  refine w_nil ?_
  refine xn_rounds ?_
  refine w_seq (w_reg ?_)
  refine wl_b .lss 3 (.tmp 4) (.const (.int .i64 (5))) (.int .i64 (2)) (.int .i64 (5)) (.bool true) (by kernel_rfl) ?_
  refine w_nil (xn_then (w_seq (w_condT rfl (w_skip (xn_then (w_seq (w_block (w_seq (w_reg ?_)))))))))
  refine wl_m (.tmp 4) (.int .i64 (2)) ?_
  refine wl_m (.tmp 6) (.int .i64 (2)) ?_
  refine w_nil (xn_then (w_reg ?_))
  refine wl_m (.tmp 3) (.int .i64 (2)) ?_
  refine wl_m (.tmp 3) (.int .i64 (2)) ?_
  refine wl_bin (fun x y => Instr.indexAt 36 x y) (.tmp 1) (.tmp 8) (pt k1 0) (.int .i64 (2)) (pt k1 2) (fun _ => rfl) rfl rfl (by kernel_rfl) rfl ?_
  refine wl_l 34 (.tmp 9) (pt k1 2) (.int .u64 (l2 (a))) (run_one Q1 34 2 rfl Try.underlying34 rfl) ?_
  refine wl_un (fun v => Op.unary .xor v) (.tmp 10) (.int .u64 (l2 (a))) (.int .u64 (l2 (-1 - a))) (fun _ => rfl) rfl (notU hl.2.2.1 hn.2.2.1 _) rfl ?_
  refine wl_bin (fun x y => Instr.indexAt 36 x y) (.tmp 1) (.tmp 7) (pt k1 0) (.int .i64 (2)) (pt k1 2) (fun _ => rfl) rfl rfl (by kernel_rfl) rfl ?_
  refine wl_st1 34 (.tmp 12) (.tmp 11) k1 2 (.int .u64 (l2 (-1 - a))) [.int .u64 (l0 (-1 - a)), .int .u64 (l1 (-1 - a)), .int .u64 (l2 (a)), .int .u64 (l3 (a)), .int .u64 (l4 (a))] [.int .u64 (l0 (-1 - a)), .int .u64 (l1 (-1 - a)), .int .u64 (l2 (-1 - a)), .int .u64 (l3 (a)), .int .u64 (l4 (a))] Q1 rfl rfl rfl rfl rfl sz22 rfl rfl rfl rfl ?_
  intro w5 hS Qn
  replace Q1 := Qn
  clear Qn
  replace Q2 := hS.other _ _ ne_k1_k2.symm Q2
  replace M := hS.mo _ N_k1 M
  clear hS
  refine w_nil (xn_blk (xn_then (w_reg ?_)))
  refine wl_b .add 3 (.tmp 4) (.const (.int .i64 (1))) (.int .i64 (2)) (.int .i64 (1)) (.int .i64 (3)) (by kernel_rfl) ?_
  refine wl_m (.tmp 13) (.int .i64 (3)) ?_
  refine w_nil ?_
  refine xn_rounds ?_
  refine w_seq (w_reg ?_)
  refine wl_b .lss 3 (.tmp 4) (.const (.int .i64 (5))) (.int .i64 (3)) (.int .i64 (5)) (.bool true) (by kernel_rfl) ?_
  refine w_nil (xn_then (w_seq (w_condT rfl (w_skip (xn_then (w_seq (w_block (w_seq (w_reg ?_)))))))))
  refine wl_m (.tmp 4) (.int .i64 (3)) ?_
  refine wl_m (.tmp 6) (.int .i64 (3)) ?_
  refine w_nil (xn_then (w_reg ?_))
  refine wl_m (.tmp 3) (.int .i64 (3)) ?_
  refine wl_m (.tmp 3) (.int .i64 (3)) ?_
  refine wl_bin (fun x y => Instr.indexAt 36 x y) (.tmp 1) (.tmp 8) (pt k1 0) (.int .i64 (3)) (pt k1 3) (fun _ => rfl) rfl rfl (by kernel_rfl) rfl ?_
  refine wl_l 34 (.tmp 9) (pt k1 3) (.int .u64 (l3 (a))) (run_one Q1 34 3 rfl Try.underlying34 rfl) ?_
  refine wl_un (fun v => Op.unary .xor v) (.tmp 10) (.int .u64 (l3 (a))) (.int .u64 (l3 (-1 - a))) (fun _ => rfl) rfl (notU hl.2.2.2.1 hn.2.2.2.1 _) rfl ?_
  refine wl_bin (fun x y => Instr.indexAt 36 x y) (.tmp 1) (.tmp 7) (pt k1 0) (.int .i64 (3)) (pt k1 3) (fun _ => rfl) rfl rfl (by kernel_rfl) rfl ?_
  refine wl_st1 34 (.tmp 12) (.tmp 11) k1 3 (.int .u64 (l3 (-1 - a))) [.int .u64 (l0 (-1 - a)), .int .u64 (l1 (-1 - a)), .int .u64 (l2 (-1 - a)), .int .u64 (l3 (a)), .int .u64 (l4 (a))] [.int .u64 (l0 (-1 - a)), .int .u64 (l1 (-1 - a)), .int .u64 (l2 (-1 - a)), .int .u64 (l3 (-1 - a)), .int .u64 (l4 (a))] Q1 rfl rfl rfl rfl rfl sz22 rfl rfl rfl rfl ?_
  intro w6 hS Qn
  replace Q1 := Qn
  clear Qn
  replace Q2 := hS.other _ _ ne_k1_k2.symm Q2
  replace M := hS.mo _ N_k1 M
  clear hS
  refine w_nil (xn_blk (xn_then (w_reg ?_)))
  refine wl_b .add 3 (.tmp 4) (.const (.int .i64 (1))) (.int .i64 (3)) (.int .i64 (1)) (.int .i64 (4)) (by kernel_rfl) ?_
  refine wl_m (.tmp 13) (.int .i64 (4)) ?_
  refine w_nil ?_
  refine xn_rounds ?_
  refine w_seq (w_reg ?_)
  refine wl_b .lss 3 (.tmp 4) (.const (.int .i64 (5))) (.int .i64 (4)) (.int .i64 (5)) (.bool true) (by kernel_rfl) ?_
  refine w_nil (xn_then (w_seq (w_condT rfl (w_skip (xn_then (w_seq (w_block (w_seq (w_reg ?_)))))))))
  refine wl_m (.tmp 4) (.int .i64 (4)) ?_
  refine wl_m (.tmp 6) (.int .i64 (4)) ?_
  refine w_nil (xn_then (w_reg ?_))
  refine wl_m (.tmp 3) (.int .i64 (4)) ?_
  refine wl_m (.tmp 3) (.int .i64 (4)) ?_
  refine wl_bin (fun x y => Instr.indexAt 36 x y) (.tmp 1) (.tmp 8) (pt k1 0) (.int .i64 (4)) (pt k1 4) (fun _ => rfl) rfl rfl (by kernel_rfl) rfl ?_
  refine wl_l 34 (.tmp 9) (pt k1 4) (.int .u64 (l4 (a))) (run_one Q1 34 4 rfl Try.underlying34 rfl) ?_
  refine wl_un (fun v => Op.unary .xor v) (.tmp 10) (.int .u64 (l4 (a))) (.int .u64 (l4 (-1 - a))) (fun _ => rfl) rfl (notU hl.2.2.2.2 hn.2.2.2.2 _) rfl ?_
  refine wl_bin (fun x y => Instr.indexAt 36 x y) (.tmp 1) (.tmp 7) (pt k1 0) (.int .i64 (4)) (pt k1 4) (fun _ => rfl) rfl rfl (by kernel_rfl) rfl ?_
  refine wl_st1 34 (.tmp 12) (.tmp 11) k1 4 (.int .u64 (l4 (-1 - a))) [.int .u64 (l0 (-1 - a)), .int .u64 (l1 (-1 - a)), .int .u64 (l2 (-1 - a)), .int .u64 (l3 (-1 - a)), .int .u64 (l4 (a))] [.int .u64 (l0 (-1 - a)), .int .u64 (l1 (-1 - a)), .int .u64 (l2 (-1 - a)), .int .u64 (l3 (-1 - a)), .int .u64 (l4 (-1 - a))] Q1 rfl rfl rfl rfl rfl sz22 rfl rfl rfl rfl ?_
  intro w7 hS Qn
  replace Q1 := Qn
  clear Qn
  replace Q2 := hS.other _ _ ne_k1_k2.symm Q2
  replace M := hS.mo _ N_k1 M
  clear hS
  refine w_nil (xn_blk (xn_then (w_reg ?_)))
  refine wl_b .add 3 (.tmp 4) (.const (.int .i64 (1))) (.int .i64 (4)) (.int .i64 (1)) (.int .i64 (5)) (by kernel_rfl) ?_
  refine wl_m (.tmp 13) (.int .i64 (5)) ?_
  refine w_nil ?_
  refine xn_rounds ?_
  refine w_seq (w_reg ?_)
  refine wl_b .lss 3 (.tmp 4) (.const (.int .i64 (5))) (.int .i64 (5)) (.int .i64 (5)) (.bool false) (by kernel_rfl) ?_
  refine w_nil (xn_then (w_seq (w_condF rfl (w_exit (xx_then (xx_then (xx_blk (xn_then (w_seq (w_reg ?_))))))))))
  refine wl_l 36 (.tmp 1) (pt k1 0) (.agg #[.int .u64 (l0 (-1 - a)), .int .u64 (l1 (-1 - a)), .int .u64 (l2 (-1 - a)), .int .u64 (l3 (-1 - a)), .int .u64 (l4 (-1 - a))]) (run_row Q1 36 0 5 [.int .u64 (l0 (-1 - a)), .int .u64 (l1 (-1 - a)), .int .u64 (l2 (-1 - a)), .int .u64 (l3 (-1 - a)), .int .u64 (l4 (-1 - a))] rfl Try.underlying36 rfl sz31) ?_
  refine wl_build 36 [(0, (.const (.int .u64 (1))))] [(0, .int .u64 (1))] (.agg #[.int .u64 (1), .int .u64 0, .int .u64 0, .int .u64 0, .int .u64 0]) rfl rfl (by kernel_rfl) rfl ?_
  refine wl_call 63 [(.tmp 14), (.tmp 15)] _ [.agg #[.int .u64 (l0 (-1 - a)), .int .u64 (l1 (-1 - a)), .int .u64 (l2 (-1 - a)), .int .u64 (l3 (-1 - a)), .int .u64 (l4 (-1 - a))], .agg #[.int .u64 (1), .int .u64 0, .int .u64 0, .int .u64 0, .int .u64 0]] (.agg #[.int .u64 (l0 (-1 - a + 1)), .int .u64 (l1 (-1 - a + 1)), .int .u64 (l2 (-1 - a + 1)), .int .u64 (l3 (-1 - a + 1)), .int .u64 (l4 (-1 - a + 1))]) rfl rfl (fun _ _ => by kernel_rfl) (addw_n (-1 - a) 1) rfl ?_
  intro w8 hq
  replace Q1 := Q1.mo hq
  replace Q2 := Q2.mo hq
  replace M := M.trans hq
  clear hq
  refine wl_st 36 (.tmp 2) (.tmp 16) k2 0 #[.int .u64 (l0 (-1 - a + 1)), .int .u64 (l1 (-1 - a + 1)), .int .u64 (l2 (-1 - a + 1)), .int .u64 (l3 (-1 - a + 1)), .int .u64 (l4 (-1 - a + 1))] [.int .u64 0, .int .u64 0, .int .u64 0, .int .u64 0, .int .u64 0] [.int .u64 (l0 (-1 - a + 1)), .int .u64 (l1 (-1 - a + 1)), .int .u64 (l2 (-1 - a + 1)), .int .u64 (l3 (-1 - a + 1)), .int .u64 (l4 (-1 - a + 1))] Q2 rfl rfl rfl rfl rfl sz31 rfl rfl rfl ?_
  intro w9 hS Qn
  replace Q2 := Qn
  clear Qn
  replace Q1 := hS.other _ _ ne_k1_k2 Q1
  replace M := hS.mo _ N_k2 M
  clear hS
  refine w_nil (xn_then (w_ret ?_))
  exact w_ret1 _ (.agg #[.int .u64 (l0 (-1 - a + 1)), .int .u64 (l1 (-1 - a + 1)), .int .u64 (l2 (-1 - a + 1)), .int .u64 (l3 (-1 - a + 1)), .int .u64 (l4 (-1 - a + 1))]) rfl ⟨k2, rfl, (run_row Q2 36 0 5 [.int .u64 (l0 (-1 - a + 1)), .int .u64 (l1 (-1 - a + 1)), .int .u64 (l2 (-1 - a + 1)), .int .u64 (l3 (-1 - a + 1)), .int .u64 (l4 (-1 - a + 1))] rfl Try.underlying36 rfl sz31)⟩ ⟨by rw [← show -1 - a + 1 = -a by omega]; rfl, M⟩
theorem bit_n (v : Int) (i : Nat) (hi : i < 320) : Calls Try.prog 66 #[wv v, .int .i64 (i : Int)] w fun e w' => e = .returned (.int .u64 (v / 2 ^ i % 2)) ∧ Mo w w' := by
  have hq5 : i / 64 < 5 := by omega
  refine w_enter 13 Try.func66 Try.ntmps66 rfl rfl ?_
  have M : Mo w w := Mo.refl _
  refine w_seq (w_reg ?_)
  refine wl_box 36 (.tmp 0) (wv (v)) ((wla (v))) rfl rfl (fun _ => by kernel_rfl) rfl ?_
  intro k1 w1 hk hz hq Q1
  have N_k1 : w.heap.size ≤ k1 := by have := M.size; omega
  replace M := M.trans hq
  clear hk hz hq
  refine wl_m (.const (.int .u64 (0))) (.int .u64 (0)) ?_
  refine w_nil (xn_then (w_seq (w_reg ?_)))
  refine wl_m (.tmp 1) (.int .i64 ((i : Nat) : Int)) ?_
  refine wl_b .quo 3 (.tmp 5) (.const (.int .i64 (64))) (.int .i64 ((i : Nat) : Int)) (.int .i64 (64)) (.int .i64 ((i / 64 : Nat) : Int)) (quoN (by omega) _ _ _) ?_
  refine wl_bin (fun x y => Instr.indexAt 36 x y) (.tmp 2) (.tmp 6) (pt k1 0) (.int .i64 ((i / 64 : Nat) : Int)) (pt k1 (i / 64)) (fun _ => rfl) rfl rfl (ia31 _ _ hq5 _) rfl ?_
  refine wl_l 34 (.tmp 7) (pt k1 (i / 64)) (.int .u64 (lim (i / 64) (v))) (run_one Q1 34 (i / 64) (wll_at (v) hq5) Try.underlying34 rfl) ?_
  refine wl_m (.tmp 1) (.int .i64 ((i : Nat) : Int)) ?_
  refine wl_b .rem 3 (.tmp 9) (.const (.int .i64 (64))) (.int .i64 ((i : Nat) : Int)) (.int .i64 (64)) (.int .i64 ((i % 64 : Nat) : Int)) (remN _ _ _) ?_
  refine wl_b .shr 34 (.tmp 8) (.tmp 10) (.int .u64 (lim (i / 64) (v))) (.int .i64 ((i % 64 : Nat) : Int)) (.int .u64 (lim (i / 64) (v) / 2 ^ (i % 64))) (shrU (Nat.mod_lt _ (by decide)) _ _ _) ?_
  refine wl_b .and 34 (.tmp 11) (.const (.int .u64 (1))) (.int .u64 (lim (i / 64) (v) / 2 ^ (i % 64))) (.int .u64 (1)) (.int .u64 (lim (i / 64) (v) / 2 ^ (i % 64) % 2)) (and1U (sh_bd (lim_u _ _) _) _ _ _) ?_
  refine wl_m (.tmp 12) (.int .u64 (lim (i / 64) (v) / 2 ^ (i % 64) % 2)) ?_
  refine w_nil (xn_then (w_ret ?_))
  exact w_ret1 _ (.int .u64 (lim (i / 64) (v) / 2 ^ (i % 64) % 2)) rfl rfl ⟨by rw [bit_lim v (i / 64) (i % 64) (Nat.mod_lt _ (by decide)), show 64 * (i / 64) + i % 64 = i by omega], M⟩
theorem wv320 (S : Int) : wv (S % 2 ^ 320) = wv S := by
  have h := fun j hj => lim_all S j hj
  obtain ⟨e0, e1, e2, e3, e4⟩ := lim_is (S % 2 ^ 320)
  obtain ⟨f0, f1, f2, f3, f4⟩ := lim_is S
  unfold wv
  rw [← e0, ← e1, ← e2, ← e3, ← e4, h 0 (by decide), h 1 (by decide), h 2 (by decide), h 3 (by decide), h 4 (by decide), f0, f1, f2, f3, f4]
theorem raddw_n (a b : Int) : Calls Try.prog 51 #[wv a, wv b] w fun e w' => e = .returned (wv (a + b)) ∧ Mo w w' := by
  refine w_enter 36 Try.func51 Try.ntmps51 rfl rfl ?_
  have M : Mo w w := Mo.refl _
  refine w_seq (w_reg ?_)
  refine wl_box 36 (.tmp 0) (wv (a)) ((wla (a))) rfl rfl (fun _ => by kernel_rfl) rfl ?_
  intro k1 w1 hk hz hq Q1
  have N_k1 : w.heap.size ≤ k1 := by have := M.size; omega
  replace M := M.trans hq
  clear hk hz hq
  refine wl_box 36 (.tmp 1) (wv (b)) ((wla (b))) rfl rfl (fun _ => by kernel_rfl) rfl ?_
  intro k2 w2 hk hz hq Q2
  have ne_k1_k2 : k1 ≠ k2 := by have := Q1.lt; omega
  have N_k2 : w.heap.size ≤ k2 := by have := M.size; omega
  replace Q1 := Q1.mo hq
  replace M := M.trans hq
  clear hk hz hq
  refine wl_alloc 36 #[.int .u64 0, .int .u64 0, .int .u64 0, .int .u64 0, .int .u64 0] rfl (fun _ => by kernel_rfl) rfl ?_
  intro k3 w3 hk hz hq Q3
  have ne_k1_k3 : k1 ≠ k3 := by have := Q1.lt; omega
  have ne_k2_k3 : k2 ≠ k3 := by have := Q2.lt; omega
  have N_k3 : w.heap.size ≤ k3 := by have := M.size; omega
  replace Q1 := Q1.mo hq
  replace Q2 := Q2.mo hq
  replace M := M.trans hq
  clear hk hz hq
  refine w_nil (xn_then (w_seq (w_reg ?_)))
  refine wl_alloc 36 #[.int .u64 0, .int .u64 0, .int .u64 0, .int .u64 0, .int .u64 0] rfl (fun _ => by kernel_rfl) rfl ?_
  intro k4 w4 hk hz hq Q4
  have ne_k1_k4 : k1 ≠ k4 := by have := Q1.lt; omega
  have ne_k2_k4 : k2 ≠ k4 := by have := Q2.lt; omega
  have ne_k3_k4 : k3 ≠ k4 := by have := Q3.lt; omega
  have N_k4 : w.heap.size ≤ k4 := by have := M.size; omega
  replace Q1 := Q1.mo hq
  replace Q2 := Q2.mo hq
  replace Q3 := Q3.mo hq
  replace M := M.trans hq
  clear hk hz hq
  refine w_nil (xn_then (w_seq (w_reg ?_)))
  refine wl_m (.const (.int .u64 (0))) (.int .u64 (0)) ?_
  refine w_nil (xn_then (w_seq (w_seq (w_reg ?_))))
  refine wl_m (.const (.int .i64 (0))) (.int .i64 (0)) ?_
  refine w_nil (xn_then (w_block ?_))
  refine w_loop (fun m l wc => ∃ i : Nat, m + i = 320 ∧ look l 2 = pt k1 0 ∧ look l 3 = pt k2 0 ∧ look l 4 = pt k3 0 ∧ look l 5 = pt k4 0 ∧ look l 6 = .int .u64 ((a % 2 ^ i + b % 2 ^ i) / 2 ^ i) ∧ look l 7 = .int .i64 (i : Int) ∧ At wc k1 (wll a) ∧ At wc k2 (wll b) ∧ At wc k3 (wll 0) ∧ At wc k4 (wll ((a + b) % 2 ^ i)) ∧ Mo w wc) 320 ⟨0, rfl, rfl, rfl, rfl, rfl, by rw [show (a % 2 ^ 0 + b % 2 ^ 0) / 2 ^ 0 = 0 by omega]; rfl, rfl, Q1, Q2, Q3, by rw [show (a + b) % 2 ^ 0 = 0 by omega]; exact Q4, M⟩ ?_
  clear M Q1 Q2 Q3 Q4
  rintro m l wc ⟨i, hm, e2, e3, e4, e5, e6, e7, Q1, Q2, Q3, Q4, M⟩
  have hcb := wcarry_bd a b i
  obtain ⟨hst1, hst2⟩ := bit_step a b i
  have hlt := lim_lt (a + b) (i / 64) (i % 64) (Nat.mod_lt _ (by decide))
  rw [show 64 * (i / 64) + i % 64 = i by omega] at hlt
  have hp2 := pow_le (r := i % 64 + 1) (by have := Nat.mod_lt i (show 0 < 64 by decide); omega)
  have hpp := two_pos (i % 64)
  rw [Int.pow_succ] at hp2
  have hb2 : (a / 2 ^ i % 2 + b / 2 ^ i % 2 + (a % 2 ^ i + b % 2 ^ i) / 2 ^ i) % 2 = 0 ∨ (a / 2 ^ i % 2 + b / 2 ^ i % 2 + (a % 2 ^ i + b % 2 ^ i) / 2 ^ i) % 2 = 1 := by omega
  have hs0 : 0 ≤ (a / 2 ^ i % 2 + b / 2 ^ i % 2 + (a % 2 ^ i + b % 2 ^ i) / 2 ^ i) % 2 := by omega
  have hs1 : 0 ≤ (a / 2 ^ i % 2 + b / 2 ^ i % 2 + (a % 2 ^ i + b % 2 ^ i) / 2 ^ i) % 2 * 2 ^ (i % 64) := Int.mul_nonneg hs0 (Int.le_of_lt hpp)
  have hs4 : (a / 2 ^ i % 2 + b / 2 ^ i % 2 + (a % 2 ^ i + b % 2 ^ i) / 2 ^ i) % 2 * 2 ^ (i % 64) ≤ 2 ^ (i % 64) := by rcases hb2 with h | h <;> rw [h] <;> omega
  have hs2 : (a / 2 ^ i % 2 + b / 2 ^ i % 2 + (a % 2 ^ i + b % 2 ^ i) / 2 ^ i) % 2 * 2 ^ (i % 64) < 18446744073709551616 := by omega
  have hs3 : (a / 2 ^ i % 2 + b / 2 ^ i % 2 + (a % 2 ^ i + b % 2 ^ i) / 2 ^ i) % 2 * 2 ^ (i % 64) + lim (i / 64) ((a + b) % 2 ^ i) < 18446744073709551616 := by omega
  refine w_seq (w_seq ?_)
  cases hf0 : decide (i < 320) with
  | true =>
    have hf0p := of_decide_eq_true hf0
    have hi : i < 320 := hf0p
    have hq5 : i / 64 < 5 := by omega
    have hls := lim_step (a + b) (i / 64) (i % 64) (Nat.mod_lt _ (by decide))
    simp only [show 64 * (i / 64) + i % 64 = i by omega] at hls
    have hz : lim (i / 64) ((a + b) % 2 ^ (i + 1)) = lim (i / 64) ((a + b) % 2 ^ i) + (a / 2 ^ i % 2 + b / 2 ^ i % 2 + (a % 2 ^ i + b % 2 ^ i) / 2 ^ i) % 2 * 2 ^ (i % 64) := by rw [hls, if_pos rfl, hst1]
    have ho : ∀ j, j ≠ i / 64 → lim j ((a + b) % 2 ^ (i + 1)) = lim j ((a + b) % 2 ^ i) := fun j hj => by rw [hls, if_neg hj]
    refine w_reg ?_
    refine wl_mv (.tmp 7) (.int .i64 ((i : Nat) : Int)) (fun _ => rfl) e7 rfl ?_
    refine wl_b .lss 3 (.tmp 9) (.const (.int .i64 (320))) (.int .i64 ((i : Nat) : Int)) (.int .i64 (320)) (.bool true) (ltN hf0 _ _ _) ?_
    refine w_nil (xn_then (w_condT rfl (w_skip (xn_then (w_seq (w_block (w_seq ?_)))))))
    refine w_any 8 [.inl (wv (a)), .inl (.int .i64 ((i : Nat) : Int)), .inl (.int .u64 (a / 2 ^ i % 2)), .inl (wv (b)), .inl (.int .i64 ((i : Nat) : Int)), .inl (.int .u64 (b / 2 ^ i % 2)), .inl (.int .u64 (a / 2 ^ i % 2 + b / 2 ^ i % 2)), .inl (.int .u64 ((a % 2 ^ i + b % 2 ^ i) / 2 ^ i))] [] (by kernel_rfl) (by kernel_rfl) (by kernel_rfl) (by kernel_rfl) rfl (by kernel_rfl) (by kernel_rfl) late_nil ?_ ?_ ?_
    · exact Ds.none rfl
    · refine ea_cons ?_ (ea_cons ?_ (ea_cons ?_ (ea_cons ?_ (ea_cons ?_ (ea_cons ?_ (ea_cons ?_ (ea_cons ?_ (ea_nil))))))))
      · exact og_eq (wv (a)) rfl (fun f wf hq hd K hK => have Q1 := Q1.mo hq; go_run rfl (wo_load 36 (.tmp 2) (pt k1 0) (wv (a)) rfl e2 (run_row Q1 36 0 5 (wll (a)) rfl Try.underlying36 rfl sz31) (hK _ (Mo.refl _))))
      · exact og_eq (.int .i64 ((i : Nat) : Int)) rfl (fun f wf hq hd K hK => go_run rfl (wo_mv (.tmp 7) (.int .i64 ((i : Nat) : Int)) (fun _ => rfl) e7 (hK _ (Mo.refl _))))
      · exact og_eq (.int .u64 (a / 2 ^ i % 2)) rfl (fun f wf hq hd K hK => go_run rfl (wo_call 66 [(.tmp 13), (.tmp 14)] _ [wv (a), .int .i64 ((i : Nat) : Int)] (.int .u64 (a / 2 ^ i % 2)) rfl (li2 (hd 0 rfl) (hd 1 rfl)) (fun _ _ => by kernel_rfl) (bit_n a i hi) hK))
      · exact og_eq (wv (b)) rfl (fun f wf hq hd K hK => have Q2 := Q2.mo hq; go_run rfl (wo_load 36 (.tmp 3) (pt k2 0) (wv (b)) rfl e3 (run_row Q2 36 0 5 (wll (b)) rfl Try.underlying36 rfl sz31) (hK _ (Mo.refl _))))
      · exact og_eq (.int .i64 ((i : Nat) : Int)) rfl (fun f wf hq hd K hK => go_run rfl (wo_mv (.tmp 7) (.int .i64 ((i : Nat) : Int)) (fun _ => rfl) e7 (hK _ (Mo.refl _))))
      · exact og_eq (.int .u64 (b / 2 ^ i % 2)) rfl (fun f wf hq hd K hK => go_run rfl (wo_call 66 [(.tmp 16), (.tmp 17)] _ [wv (b), .int .i64 ((i : Nat) : Int)] (.int .u64 (b / 2 ^ i % 2)) rfl (li2 (hd 3 rfl) (hd 4 rfl)) (fun _ _ => by kernel_rfl) (bit_n b i hi) hK))
      · exact og_eq (.int .u64 (a / 2 ^ i % 2 + b / 2 ^ i % 2)) rfl (fun f wf hq hd K hK => go_run rfl (wo_bin (fun x y => do eqGuard .add 34 (.tmp 15) (.tmp 18) x y; binOp .add 34 x y) (.tmp 15) (.tmp 18) (.int .u64 (a / 2 ^ i % 2)) (.int .u64 (b / 2 ^ i % 2)) (.int .u64 (a / 2 ^ i % 2 + b / 2 ^ i % 2)) (fun _ => rfl) (hd 2 rfl) (hd 5 rfl) (addU (by omega) (by omega) _ _ _) (hK _ (Mo.refl _))))
      · exact og_eq (.int .u64 ((a % 2 ^ i + b % 2 ^ i) / 2 ^ i)) rfl (fun f wf hq hd K hK => go_run rfl (wo_mv (.tmp 6) (.int .u64 ((a % 2 ^ i + b % 2 ^ i) / 2 ^ i)) (fun _ => rfl) e6 (hK _ (Mo.refl _))))
    intro kf11 w11 hq hR hne
    replace Q1 := Q1.mo hq
    replace Q2 := Q2.mo hq
    replace Q3 := Q3.mo hq
    replace Q4 := Q4.mo hq
    replace M := M.trans hq
    clear hq hR hne
    refine wl_b .add 34 (.tmp 19) (.tmp 20) (.int .u64 (a / 2 ^ i % 2 + b / 2 ^ i % 2)) (.int .u64 ((a % 2 ^ i + b % 2 ^ i) / 2 ^ i)) (.int .u64 (a / 2 ^ i % 2 + b / 2 ^ i % 2 + (a % 2 ^ i + b % 2 ^ i) / 2 ^ i)) (addU (by omega) (by omega) _ _ _) ?_
    refine wl_m (.tmp 21) (.int .u64 (a / 2 ^ i % 2 + b / 2 ^ i % 2 + (a % 2 ^ i + b % 2 ^ i) / 2 ^ i)) ?_
    refine w_nil (xn_then (w_seq ?_))
    refine w_any 11 [.inl (.int .i64 ((i : Nat) : Int)), .inl (.int .i64 ((i / 64 : Nat) : Int)), .inl (pt k4 (i / 64)), .inl (.int .u64 (lim (i / 64) ((a + b) % 2 ^ i))), .inl (.int .u64 (a / 2 ^ i % 2 + b / 2 ^ i % 2 + (a % 2 ^ i + b % 2 ^ i) / 2 ^ i)), .inl (.int .u64 ((a / 2 ^ i % 2 + b / 2 ^ i % 2 + (a % 2 ^ i + b % 2 ^ i) / 2 ^ i) % 2)), .inl (.int .i64 ((i : Nat) : Int)), .inl (.int .i64 ((i % 64 : Nat) : Int)), .inl (.int .u64 ((a / 2 ^ i % 2 + b / 2 ^ i % 2 + (a % 2 ^ i + b % 2 ^ i) / 2 ^ i) % 2 * 2 ^ (i % 64))), .inl (.int .u64 (lim (i / 64) ((a + b) % 2 ^ i) + (a / 2 ^ i % 2 + b / 2 ^ i % 2 + (a % 2 ^ i + b % 2 ^ i) / 2 ^ i) % 2 * 2 ^ (i % 64))), .inl (pt k4 (i / 64))] [] (by kernel_rfl) (by kernel_rfl) (by kernel_rfl) (by kernel_rfl) rfl (by kernel_rfl) (by kernel_rfl) late_nil ?_ ?_ ?_
    · exact Ds.none rfl
    · refine ea_cons ?_ (ea_cons ?_ (ea_cons ?_ (ea_cons ?_ (ea_cons ?_ (ea_cons ?_ (ea_cons ?_ (ea_cons ?_ (ea_cons ?_ (ea_cons ?_ (ea_cons ?_ (ea_nil)))))))))))
      · exact og_eq (.int .i64 ((i : Nat) : Int)) rfl (fun f wf hq hd K hK => go_run rfl (wo_mv (.tmp 7) (.int .i64 ((i : Nat) : Int)) (fun _ => rfl) e7 (hK _ (Mo.refl _))))
      · exact og_eq (.int .i64 ((i / 64 : Nat) : Int)) rfl (fun f wf hq hd K hK => go_run rfl (wo_bin (fun x y => do eqGuard .quo 3 (.tmp 22) (.const (.int .i64 (64))) x y; binOp .quo 3 x y) (.tmp 22) (.const (.int .i64 (64))) (.int .i64 ((i : Nat) : Int)) (.int .i64 (64)) (.int .i64 ((i / 64 : Nat) : Int)) (fun _ => rfl) (hd 0 rfl) rfl (quoN (by omega) _ _ _) (hK _ (Mo.refl _))))
      · exact og_eq (pt k4 (i / 64)) rfl (fun f wf hq hd K hK => go_run rfl (wo_bin (fun x y => Instr.indexAt 36 x y) (.tmp 5) (.tmp 23) (pt k4 0) (.int .i64 ((i / 64 : Nat) : Int)) (pt k4 (i / 64)) (fun _ => rfl) e5 (hd 1 rfl) (ia31 _ _ hq5 _) (hK _ (Mo.refl _))))
      · exact og_eq (.int .u64 (lim (i / 64) ((a + b) % 2 ^ i))) rfl (fun f wf hq hd K hK => have Q4 := Q4.mo hq; go_run rfl (wo_load 34 (.tmp 24) (pt k4 (i / 64)) (.int .u64 (lim (i / 64) ((a + b) % 2 ^ i))) rfl (hd 2 rfl) (run_one Q4 34 (i / 64) (wll_at ((a + b) % 2 ^ i) hq5) Try.underlying34 rfl) (hK _ (Mo.refl _))))
      · exact og_eq (.int .u64 (a / 2 ^ i % 2 + b / 2 ^ i % 2 + (a % 2 ^ i + b % 2 ^ i) / 2 ^ i)) rfl (fun f wf hq hd K hK => go_run rfl (wo_mv (.tmp 8) (.int .u64 (a / 2 ^ i % 2 + b / 2 ^ i % 2 + (a % 2 ^ i + b % 2 ^ i) / 2 ^ i)) (fun _ => rfl) rfl (hK _ (Mo.refl _))))
      · exact og_eq (.int .u64 ((a / 2 ^ i % 2 + b / 2 ^ i % 2 + (a % 2 ^ i + b % 2 ^ i) / 2 ^ i) % 2)) rfl (fun f wf hq hd K hK => go_run rfl (wo_bin (fun x y => do eqGuard .rem 34 (.tmp 26) (.const (.int .u64 (2))) x y; binOp .rem 34 x y) (.tmp 26) (.const (.int .u64 (2))) (.int .u64 (a / 2 ^ i % 2 + b / 2 ^ i % 2 + (a % 2 ^ i + b % 2 ^ i) / 2 ^ i)) (.int .u64 (2)) (.int .u64 ((a / 2 ^ i % 2 + b / 2 ^ i % 2 + (a % 2 ^ i + b % 2 ^ i) / 2 ^ i) % 2)) (fun _ => rfl) (hd 4 rfl) rfl (rem2U (by omega) _ _ _) (hK _ (Mo.refl _))))
      · exact og_eq (.int .i64 ((i : Nat) : Int)) rfl (fun f wf hq hd K hK => go_run rfl (wo_mv (.tmp 7) (.int .i64 ((i : Nat) : Int)) (fun _ => rfl) e7 (hK _ (Mo.refl _))))
      · exact og_eq (.int .i64 ((i % 64 : Nat) : Int)) rfl (fun f wf hq hd K hK => go_run rfl (wo_bin (fun x y => do eqGuard .rem 3 (.tmp 28) (.const (.int .i64 (64))) x y; binOp .rem 3 x y) (.tmp 28) (.const (.int .i64 (64))) (.int .i64 ((i : Nat) : Int)) (.int .i64 (64)) (.int .i64 ((i % 64 : Nat) : Int)) (fun _ => rfl) (hd 6 rfl) rfl (remN _ _ _) (hK _ (Mo.refl _))))
      · exact og_eq (.int .u64 ((a / 2 ^ i % 2 + b / 2 ^ i % 2 + (a % 2 ^ i + b % 2 ^ i) / 2 ^ i) % 2 * 2 ^ (i % 64))) rfl (fun f wf hq hd K hK => go_run rfl (wo_bin (fun x y => do eqGuard .shl 34 (.tmp 27) (.tmp 29) x y; binOp .shl 34 x y) (.tmp 27) (.tmp 29) (.int .u64 ((a / 2 ^ i % 2 + b / 2 ^ i % 2 + (a % 2 ^ i + b % 2 ^ i) / 2 ^ i) % 2)) (.int .i64 ((i % 64 : Nat) : Int)) (.int .u64 ((a / 2 ^ i % 2 + b / 2 ^ i % 2 + (a % 2 ^ i + b % 2 ^ i) / 2 ^ i) % 2 * 2 ^ (i % 64))) (fun _ => rfl) (hd 5 rfl) (hd 7 rfl) (shlU (Nat.mod_lt _ (by decide)) hs1 hs2 _ _ _) (hK _ (Mo.refl _))))
      · exact og_eq (.int .u64 (lim (i / 64) ((a + b) % 2 ^ i) + (a / 2 ^ i % 2 + b / 2 ^ i % 2 + (a % 2 ^ i + b % 2 ^ i) / 2 ^ i) % 2 * 2 ^ (i % 64))) rfl (fun f wf hq hd K hK => go_run rfl (wo_bin (fun x y => do eqGuard .or 34 (.tmp 25) (.tmp 30) x y; binOp .or 34 x y) (.tmp 25) (.tmp 30) (.int .u64 (lim (i / 64) ((a + b) % 2 ^ i))) (.int .u64 ((a / 2 ^ i % 2 + b / 2 ^ i % 2 + (a % 2 ^ i + b % 2 ^ i) / 2 ^ i) % 2 * 2 ^ (i % 64))) (.int .u64 (lim (i / 64) ((a + b) % 2 ^ i) + (a / 2 ^ i % 2 + b / 2 ^ i % 2 + (a % 2 ^ i + b % 2 ^ i) / 2 ^ i) % 2 * 2 ^ (i % 64))) (fun _ => rfl) (hd 3 rfl) (hd 8 rfl) (orU hlt.1 hlt.2 hs0 hs3 _ _ _) (hK _ (Mo.refl _))))
      · exact og_eq (pt k4 (i / 64)) rfl (fun f wf hq hd K hK => go_run rfl (wo_bin (fun x y => Instr.indexAt 36 x y) (.tmp 5) (.tmp 23) (pt k4 0) (.int .i64 ((i / 64 : Nat) : Int)) (pt k4 (i / 64)) (fun _ => rfl) e5 (hd 1 rfl) (ia31 _ _ hq5 _) (hK _ (Mo.refl _))))
    intro kf12 w12 hq hR hne
    replace Q1 := Q1.mo hq
    replace Q2 := Q2.mo hq
    replace Q3 := Q3.mo hq
    replace Q4 := Q4.mo hq
    replace M := M.trans hq
    clear hq hR hne
    refine wl_st1 34 (.tmp 32) (.tmp 31) k4 (i / 64) (.int .u64 (lim (i / 64) ((a + b) % 2 ^ i) + (a / 2 ^ i % 2 + b / 2 ^ i % 2 + (a % 2 ^ i + b % 2 ^ i) / 2 ^ i) % 2 * 2 ^ (i % 64))) (wll ((a + b) % 2 ^ i)) (wll ((a + b) % 2 ^ (i + 1))) Q4 rfl rfl rfl rfl (by rw [Nat.blt_eq]; exact hq5) sz22 rfl rfl (wll_set hq5 hz ho) rfl ?_
    intro w13 hS Qn
    replace Q4 := Qn
    clear Qn
    replace Q1 := hS.other _ _ ne_k1_k4 Q1
    replace Q2 := hS.other _ _ ne_k2_k4 Q2
    replace Q3 := hS.other _ _ ne_k3_k4 Q3
    replace M := hS.mo _ N_k4 M
    clear hS
    refine w_nil (xn_then (w_reg ?_))
    refine wl_m (.tmp 8) (.int .u64 (a / 2 ^ i % 2 + b / 2 ^ i % 2 + (a % 2 ^ i + b % 2 ^ i) / 2 ^ i)) ?_
    refine wl_b .quo 34 (.tmp 33) (.const (.int .u64 (2))) (.int .u64 (a / 2 ^ i % 2 + b / 2 ^ i % 2 + (a % 2 ^ i + b % 2 ^ i) / 2 ^ i)) (.int .u64 (2)) (.int .u64 ((a / 2 ^ i % 2 + b / 2 ^ i % 2 + (a % 2 ^ i + b % 2 ^ i) / 2 ^ i) / 2)) (quo2U (by omega) (by omega) _ _ _) ?_
    refine wl_m (.tmp 34) (.int .u64 ((a / 2 ^ i % 2 + b / 2 ^ i % 2 + (a % 2 ^ i + b % 2 ^ i) / 2 ^ i) / 2)) ?_
    refine w_nil (xn_blk (xn_then (w_reg ?_)))
    refine wl_mv (.tmp 7) (.int .i64 ((i : Nat) : Int)) (fun _ => rfl) e7 rfl ?_
    refine wl_b .add 3 (.tmp 11) (.const (.int .i64 (1))) (.int .i64 ((i : Nat) : Int)) (.int .i64 (1)) (.int .i64 ((i + 1 : Nat) : Int)) (add1N (by omega) _ _ _) ?_
    refine wl_m (.tmp 12) (.int .i64 ((i + 1 : Nat) : Int)) ?_
    refine w_nil ?_
    exact xn_loop (m - 1) (by omega) ⟨i + 1, by omega, e2, e3, e4, e5, by rw [← hst2]; rfl, rfl, Q1, Q2, Q3, Q4, M⟩
  | false =>
    have hf0p := of_decide_eq_false hf0
    refine w_reg ?_
    refine wl_mv (.tmp 7) (.int .i64 ((i : Nat) : Int)) (fun _ => rfl) e7 rfl ?_
    refine wl_b .lss 3 (.tmp 9) (.const (.int .i64 (320))) (.int .i64 ((i : Nat) : Int)) (.int .i64 (320)) (.bool false) (ltN hf0 _ _ _) ?_
    refine w_nil (xn_then (w_condF rfl (w_exit (xx_then (xx_then ?_)))))
    have hi3 : i = 320 := by omega
    subst hi3
    refine xx_blk (xn_then (w_seq (w_reg ?_)))
    refine wl_load 36 (.tmp 5) (pt k4 0) (wv ((a + b) % 2 ^ 320)) rfl e5 (run_row Q4 36 0 5 (wll ((a + b) % 2 ^ 320)) rfl Try.underlying36 rfl sz31) rfl ?_
    refine wl_st 36 (.tmp 4) (.tmp 35) k3 0 (wla ((a + b) % 2 ^ 320)) (wll (0)) (wll ((a + b) % 2 ^ 320)) Q3 rfl rfl e4 rfl rfl sz31 rfl rfl rfl ?_
    intro w11 hS Qn
    replace Q3 := Qn
    clear Qn
    replace Q1 := hS.other _ _ ne_k1_k3 Q1
    replace Q2 := hS.other _ _ ne_k2_k3 Q2
    replace Q4 := hS.other _ _ ne_k3_k4.symm Q4
    replace M := hS.mo _ N_k3 M
    clear hS
    refine w_nil (xn_then (w_ret ?_))
    exact w_ret1 _ (wv ((a + b) % 2 ^ 320)) rfl ⟨k3, e4, (run_row Q3 36 0 5 (wll ((a + b) % 2 ^ 320)) rfl Try.underlying36 rfl sz31)⟩ ⟨by rw [wv320], M⟩
end
end Go.Proofs.Ythfemlhmnjfjiaa

/-
  Signs of wide numbers.
-/
namespace Go.Proofs.Ythfemlhmnjfjiaa
open Go.RowKit
theorem l4_small {n : Int} (h0 : 0 ≤ n) (h : n < MM) : l4 n = 0 := by unfold l4; unfold MM at h; omega
theorem ltI {a b : Int} {r : Bool} (h : decide (a < b) = r) (x y : Operand) (w : World) : (do eqGuard .lss 3 x y (.int .i64 a) (.int .i64 b); binOp .lss 3 (.int .i64 a) (.int .i64 b)).run Try.prog w = .ok (.bool r) w := by
  subst h; kernel_rfl
theorem gtI {a b : Int} {r : Bool} (h : decide (b < a) = r) (x y : Operand) (w : World) : (do eqGuard .gtr 3 x y (.int .i64 a) (.int .i64 b); binOp .gtr 3 (.int .i64 a) (.int .i64 b)).run Try.prog w = .ok (.bool r) w := by
  subst h; kernel_rfl
end Go.Proofs.Ythfemlhmnjfjiaa

/-
  Widen and Narrow, the program's and the document's.
-/
namespace Go.Proofs.Ythfemlhmnjfjiaa
open Go.RowKit
section
variable {w : World}
theorem widen_t (n s : Int) (hn0 : 0 ≤ n) (hn : n < MM) : Calls Try.prog 78 #[dc true n s] w fun e w' => e = .returned (wv (-n)) ∧ Mo w w' := by
  have h4 := l4_small hn0 hn
  have hv : (Value.agg #[.int .u64 (l0 n), .int .u64 (l1 n), .int .u64 (l2 n), .int .u64 (l3 n), .int .u64 0]) = wv n := by unfold wv; rw [h4]
  have hm : ∀ w, Calls Try.prog 89 #[.agg #[.int .u64 (l0 n), .int .u64 (l1 n), .int .u64 (l2 n), .int .u64 (l3 n), .int .u64 0]] w fun e w' => e = .returned (wv (-n)) ∧ Mo w w' := fun w => by rw [hv]; exact minus_n n
  refine w_enter 20 Try.func78 Try.ntmps78 rfl rfl ?_
  have M : Mo w w := Mo.refl _
  refine w_seq (w_reg ?_)
  refine wl_box 40 (.tmp 0) (.agg #[.bool true, .int .u64 (l0 (n)), .int .u64 (l1 (n)), .int .u64 (l2 (n)), .int .u64 (l3 (n)), .int .i64 (s)]) (#[.bool true, .int .u64 (l0 (n)), .int .u64 (l1 (n)), .int .u64 (l2 (n)), .int .u64 (l3 (n)), .int .i64 (s)]) rfl rfl (fun _ => by kernel_rfl) rfl ?_
  intro k1 w1 hk hz hq Q1
  have N_k1 : w.heap.size ≤ k1 := by have := M.size; omega
  replace M := M.trans hq
  clear hk hz hq
  refine wl_alloc 36 #[.int .u64 0, .int .u64 0, .int .u64 0, .int .u64 0, .int .u64 0] rfl (fun _ => by kernel_rfl) rfl ?_
  intro k2 w2 hk hz hq Q2
  have ne_k1_k2 : k1 ≠ k2 := by have := Q1.lt; omega
  have N_k2 : w.heap.size ≤ k2 := by have := M.size; omega
  replace Q1 := Q1.mo hq
  replace M := M.trans hq
  clear hk hz hq
  refine w_nil (xn_then (w_seq (w_reg ?_)))
  refine wl_alloc 36 #[.int .u64 0, .int .u64 0, .int .u64 0, .int .u64 0, .int .u64 0] rfl (fun _ => by kernel_rfl) rfl ?_
  intro k3 w3 hk hz hq Q3
  have ne_k1_k3 : k1 ≠ k3 := by have := Q1.lt; omega
  have ne_k2_k3 : k2 ≠ k3 := by have := Q2.lt; omega
  have N_k3 : w.heap.size ≤ k3 := by have := M.size; omega
  replace Q1 := Q1.mo hq
  replace Q2 := Q2.mo hq
  replace M := M.trans hq
  clear hk hz hq
  refine w_nil (xn_then (w_seq (w_seq (w_reg ?_))))
  refine wl_m (.const (.int .i64 (0))) (.int .i64 (0)) ?_
  refine w_nil (xn_then (w_block ?_))
  refine w_rounds 4 ?_
  refine w_seq (w_reg ?_)
  refine wl_b .lss 3 (.tmp 5) (.const (.int .i64 (4))) (.int .i64 (0)) (.int .i64 (4)) (.bool true) (by kernel_rfl) ?_
  refine w_nil (xn_then (w_seq (w_condT rfl (w_skip (xn_then (w_seq (w_block (w_seq (w_reg ?_)))))))))
  refine wl_m (.tmp 5) (.int .i64 (0)) ?_
  refine wl_m (.tmp 7) (.int .i64 (0)) ?_
  refine w_nil (xn_then (w_reg ?_))
  refine wl_m (.tmp 4) (.int .i64 (0)) ?_
  refine wl_m (.tmp 4) (.int .i64 (0)) ?_
  refine wl_f 40 1 (.tmp 1) (pt k1 0) (pt k1 1) ?_
  refine wl_bin (fun x y => Instr.indexAt 38 x y) (.tmp 10) (.tmp 9) (pt k1 1) (.int .i64 (0)) (pt k1 1) (fun _ => rfl) rfl rfl (by kernel_rfl) rfl ?_
  refine wl_l 34 (.tmp 11) (pt k1 1) (.int .u64 (l0 (n))) (run_one Q1 34 1 rfl Try.underlying34 rfl) ?_
  refine wl_bin (fun x y => Instr.indexAt 36 x y) (.tmp 3) (.tmp 8) (pt k3 0) (.int .i64 (0)) (pt k3 0) (fun _ => rfl) rfl rfl (by kernel_rfl) rfl ?_
  refine wl_st1 34 (.tmp 13) (.tmp 12) k3 0 (.int .u64 (l0 (n))) [.int .u64 0, .int .u64 0, .int .u64 0, .int .u64 0, .int .u64 0] [.int .u64 (l0 (n)), .int .u64 0, .int .u64 0, .int .u64 0, .int .u64 0] Q3 rfl rfl rfl rfl rfl sz22 rfl rfl rfl rfl ?_
  intro w4 hS Qn
  replace Q3 := Qn
  clear Qn
  replace Q1 := hS.other _ _ ne_k1_k3 Q1
  replace Q2 := hS.other _ _ ne_k2_k3 Q2
  replace M := hS.mo _ N_k3 M
  clear hS
  refine w_nil (xn_blk (xn_then (w_reg ?_)))
  refine wl_b .add 3 (.tmp 5) (.const (.int .i64 (1))) (.int .i64 (0)) (.int .i64 (1)) (.int .i64 (1)) (by kernel_rfl) ?_
  refine wl_m (.tmp 14) (.int .i64 (1)) ?_
  refine w_nil ?_
  refine xn_rounds ?_
  refine w_seq (w_reg ?_)
  refine wl_b .lss 3 (.tmp 5) (.const (.int .i64 (4))) (.int .i64 (1)) (.int .i64 (4)) (.bool true) (by kernel_rfl) ?_
  refine w_nil (xn_then (w_seq (w_condT rfl (w_skip (xn_then (w_seq (w_block (w_seq (w_reg ?_)))))))))
  refine wl_m (.tmp 5) (.int .i64 (1)) ?_
  refine wl_m (.tmp 7) (.int .i64 (1)) ?_
  refine w_nil (xn_then (w_reg ?_))
  refine wl_m (.tmp 4) (.int .i64 (1)) ?_
  refine wl_m (.tmp 4) (.int .i64 (1)) ?_
  refine wl_f 40 1 (.tmp 1) (pt k1 0) (pt k1 1) ?_
  refine wl_bin (fun x y => Instr.indexAt 38 x y) (.tmp 10) (.tmp 9) (pt k1 1) (.int .i64 (1)) (pt k1 2) (fun _ => rfl) rfl rfl (by kernel_rfl) rfl ?_
  refine wl_l 34 (.tmp 11) (pt k1 2) (.int .u64 (l1 (n))) (run_one Q1 34 2 rfl Try.underlying34 rfl) ?_
  refine wl_bin (fun x y => Instr.indexAt 36 x y) (.tmp 3) (.tmp 8) (pt k3 0) (.int .i64 (1)) (pt k3 1) (fun _ => rfl) rfl rfl (by kernel_rfl) rfl ?_
  refine wl_st1 34 (.tmp 13) (.tmp 12) k3 1 (.int .u64 (l1 (n))) [.int .u64 (l0 (n)), .int .u64 0, .int .u64 0, .int .u64 0, .int .u64 0] [.int .u64 (l0 (n)), .int .u64 (l1 (n)), .int .u64 0, .int .u64 0, .int .u64 0] Q3 rfl rfl rfl rfl rfl sz22 rfl rfl rfl rfl ?_
  intro w5 hS Qn
  replace Q3 := Qn
  clear Qn
  replace Q1 := hS.other _ _ ne_k1_k3 Q1
  replace Q2 := hS.other _ _ ne_k2_k3 Q2
  replace M := hS.mo _ N_k3 M
  clear hS
  refine w_nil (xn_blk (xn_then (w_reg ?_)))
  refine wl_b .add 3 (.tmp 5) (.const (.int .i64 (1))) (.int .i64 (1)) (.int .i64 (1)) (.int .i64 (2)) (by kernel_rfl) ?_
  refine wl_m (.tmp 14) (.int .i64 (2)) ?_
  refine w_nil ?_
  refine xn_rounds ?_
  refine w_seq (w_reg ?_)
  refine wl_b .lss 3 (.tmp 5) (.const (.int .i64 (4))) (.int .i64 (2)) (.int .i64 (4)) (.bool true) (by kernel_rfl) ?_
  refine w_nil (xn_then (w_seq (w_condT rfl (w_skip (xn_then (w_seq (w_block (w_seq (w_reg ?_)))))))))
  refine wl_m (.tmp 5) (.int .i64 (2)) ?_
  refine wl_m (.tmp 7) (.int .i64 (2)) ?_
  refine w_nil (xn_then (w_reg ?_))
  refine wl_m (.tmp 4) (.int .i64 (2)) ?_
  refine wl_m (.tmp 4) (.int .i64 (2)) ?_
  refine wl_f 40 1 (.tmp 1) (pt k1 0) (pt k1 1) ?_
  refine wl_bin (fun x y => Instr.indexAt 38 x y) (.tmp 10) (.tmp 9) (pt k1 1) (.int .i64 (2)) (pt k1 3) (fun _ => rfl) rfl rfl (by kernel_rfl) rfl ?_
  refine wl_l 34 (.tmp 11) (pt k1 3) (.int .u64 (l2 (n))) (run_one Q1 34 3 rfl Try.underlying34 rfl) ?_
  refine wl_bin (fun x y => Instr.indexAt 36 x y) (.tmp 3) (.tmp 8) (pt k3 0) (.int .i64 (2)) (pt k3 2) (fun _ => rfl) rfl rfl (by kernel_rfl) rfl ?_
  refine wl_st1 34 (.tmp 13) (.tmp 12) k3 2 (.int .u64 (l2 (n))) [.int .u64 (l0 (n)), .int .u64 (l1 (n)), .int .u64 0, .int .u64 0, .int .u64 0] [.int .u64 (l0 (n)), .int .u64 (l1 (n)), .int .u64 (l2 (n)), .int .u64 0, .int .u64 0] Q3 rfl rfl rfl rfl rfl sz22 rfl rfl rfl rfl ?_
  intro w6 hS Qn
  replace Q3 := Qn
  clear Qn
  replace Q1 := hS.other _ _ ne_k1_k3 Q1
  replace Q2 := hS.other _ _ ne_k2_k3 Q2
  replace M := hS.mo _ N_k3 M
  clear hS
  refine w_nil (xn_blk (xn_then (w_reg ?_)))
  refine wl_b .add 3 (.tmp 5) (.const (.int .i64 (1))) (.int .i64 (2)) (.int .i64 (1)) (.int .i64 (3)) (by kernel_rfl) ?_
  refine wl_m (.tmp 14) (.int .i64 (3)) ?_
  refine w_nil ?_
  refine xn_rounds ?_
  refine w_seq (w_reg ?_)
  refine wl_b .lss 3 (.tmp 5) (.const (.int .i64 (4))) (.int .i64 (3)) (.int .i64 (4)) (.bool true) (by kernel_rfl) ?_
  refine w_nil (xn_then (w_seq (w_condT rfl (w_skip (xn_then (w_seq (w_block (w_seq (w_reg ?_)))))))))
  refine wl_m (.tmp 5) (.int .i64 (3)) ?_
  refine wl_m (.tmp 7) (.int .i64 (3)) ?_
  refine w_nil (xn_then (w_reg ?_))
  refine wl_m (.tmp 4) (.int .i64 (3)) ?_
  refine wl_m (.tmp 4) (.int .i64 (3)) ?_
  refine wl_f 40 1 (.tmp 1) (pt k1 0) (pt k1 1) ?_
  refine wl_bin (fun x y => Instr.indexAt 38 x y) (.tmp 10) (.tmp 9) (pt k1 1) (.int .i64 (3)) (pt k1 4) (fun _ => rfl) rfl rfl (by kernel_rfl) rfl ?_
  refine wl_l 34 (.tmp 11) (pt k1 4) (.int .u64 (l3 (n))) (run_one Q1 34 4 rfl Try.underlying34 rfl) ?_
  refine wl_bin (fun x y => Instr.indexAt 36 x y) (.tmp 3) (.tmp 8) (pt k3 0) (.int .i64 (3)) (pt k3 3) (fun _ => rfl) rfl rfl (by kernel_rfl) rfl ?_
  refine wl_st1 34 (.tmp 13) (.tmp 12) k3 3 (.int .u64 (l3 (n))) [.int .u64 (l0 (n)), .int .u64 (l1 (n)), .int .u64 (l2 (n)), .int .u64 0, .int .u64 0] [.int .u64 (l0 (n)), .int .u64 (l1 (n)), .int .u64 (l2 (n)), .int .u64 (l3 (n)), .int .u64 0] Q3 rfl rfl rfl rfl rfl sz22 rfl rfl rfl rfl ?_
  intro w7 hS Qn
  replace Q3 := Qn
  clear Qn
  replace Q1 := hS.other _ _ ne_k1_k3 Q1
  replace Q2 := hS.other _ _ ne_k2_k3 Q2
  replace M := hS.mo _ N_k3 M
  clear hS
  refine w_nil (xn_blk (xn_then (w_reg ?_)))
  refine wl_b .add 3 (.tmp 5) (.const (.int .i64 (1))) (.int .i64 (3)) (.int .i64 (1)) (.int .i64 (4)) (by kernel_rfl) ?_
  refine wl_m (.tmp 14) (.int .i64 (4)) ?_
  refine w_nil ?_
  refine xn_rounds ?_
  refine w_seq (w_reg ?_)
  refine wl_b .lss 3 (.tmp 5) (.const (.int .i64 (4))) (.int .i64 (4)) (.int .i64 (4)) (.bool false) (by kernel_rfl) ?_
  refine w_nil (xn_then (w_seq (w_condF rfl (w_exit (xx_then (xx_then (xx_blk (xn_then (w_seq (w_seq (w_reg ?_)))))))))))
  refine wl_f 40 0 (.tmp 1) (pt k1 0) (pt k1 0) ?_
  refine wl_l 4 (.tmp 15) (pt k1 0) (.bool true) (run_one Q1 4 0 rfl Try.underlying4 rfl) ?_
  refine w_nil (xn_then (w_condT rfl (w_seq (w_reg ?_))))
  refine wl_l 36 (.tmp 3) (pt k3 0) (.agg #[.int .u64 (l0 (n)), .int .u64 (l1 (n)), .int .u64 (l2 (n)), .int .u64 (l3 (n)), .int .u64 0]) (run_row Q3 36 0 5 [.int .u64 (l0 (n)), .int .u64 (l1 (n)), .int .u64 (l2 (n)), .int .u64 (l3 (n)), .int .u64 0] rfl Try.underlying36 rfl sz31) ?_
  refine wl_call 89 [(.tmp 17)] _ [.agg #[.int .u64 (l0 (n)), .int .u64 (l1 (n)), .int .u64 (l2 (n)), .int .u64 (l3 (n)), .int .u64 0]] (.agg #[.int .u64 (l0 (-n)), .int .u64 (l1 (-n)), .int .u64 (l2 (-n)), .int .u64 (l3 (-n)), .int .u64 (l4 (-n))]) rfl rfl (fun _ _ => by kernel_rfl) (hm _) rfl ?_
  intro w8 hq
  replace Q1 := Q1.mo hq
  replace Q2 := Q2.mo hq
  replace Q3 := Q3.mo hq
  replace M := M.trans hq
  clear hq
  refine wl_st 36 (.tmp 2) (.tmp 18) k2 0 #[.int .u64 (l0 (-n)), .int .u64 (l1 (-n)), .int .u64 (l2 (-n)), .int .u64 (l3 (-n)), .int .u64 (l4 (-n))] [.int .u64 0, .int .u64 0, .int .u64 0, .int .u64 0, .int .u64 0] [.int .u64 (l0 (-n)), .int .u64 (l1 (-n)), .int .u64 (l2 (-n)), .int .u64 (l3 (-n)), .int .u64 (l4 (-n))] Q2 rfl rfl rfl rfl rfl sz31 rfl rfl rfl ?_
  intro w9 hS Qn
  replace Q2 := Qn
  clear Qn
  replace Q1 := hS.other _ _ ne_k1_k2 Q1
  replace Q3 := hS.other _ _ ne_k2_k3.symm Q3
  replace M := hS.mo _ N_k2 M
  clear hS
  refine w_nil (xn_then (w_ret (xr_then ?_)))
  exact w_ret1 _ (.agg #[.int .u64 (l0 (-n)), .int .u64 (l1 (-n)), .int .u64 (l2 (-n)), .int .u64 (l3 (-n)), .int .u64 (l4 (-n))]) rfl ⟨k2, rfl, (run_row Q2 36 0 5 [.int .u64 (l0 (-n)), .int .u64 (l1 (-n)), .int .u64 (l2 (-n)), .int .u64 (l3 (-n)), .int .u64 (l4 (-n))] rfl Try.underlying36 rfl sz31)⟩ ⟨rfl, M⟩
theorem widen_f (n s : Int) (hn0 : 0 ≤ n) (hn : n < MM) : Calls Try.prog 78 #[dc false n s] w fun e w' => e = .returned (wv (n)) ∧ Mo w w' := by
  have h4 := l4_small hn0 hn
  have hv : (Value.agg #[.int .u64 (l0 n), .int .u64 (l1 n), .int .u64 (l2 n), .int .u64 (l3 n), .int .u64 0]) = wv n := by unfold wv; rw [h4]
  refine w_enter 20 Try.func78 Try.ntmps78 rfl rfl ?_
  have M : Mo w w := Mo.refl _
  refine w_seq (w_reg ?_)
  refine wl_box 40 (.tmp 0) (.agg #[.bool false, .int .u64 (l0 (n)), .int .u64 (l1 (n)), .int .u64 (l2 (n)), .int .u64 (l3 (n)), .int .i64 (s)]) (#[.bool false, .int .u64 (l0 (n)), .int .u64 (l1 (n)), .int .u64 (l2 (n)), .int .u64 (l3 (n)), .int .i64 (s)]) rfl rfl (fun _ => by kernel_rfl) rfl ?_
  intro k1 w1 hk hz hq Q1
  have N_k1 : w.heap.size ≤ k1 := by have := M.size; omega
  replace M := M.trans hq
  clear hk hz hq
  refine wl_alloc 36 #[.int .u64 0, .int .u64 0, .int .u64 0, .int .u64 0, .int .u64 0] rfl (fun _ => by kernel_rfl) rfl ?_
  intro k2 w2 hk hz hq Q2
  have ne_k1_k2 : k1 ≠ k2 := by have := Q1.lt; omega
  have N_k2 : w.heap.size ≤ k2 := by have := M.size; omega
  replace Q1 := Q1.mo hq
  replace M := M.trans hq
  clear hk hz hq
  refine w_nil (xn_then (w_seq (w_reg ?_)))
  refine wl_alloc 36 #[.int .u64 0, .int .u64 0, .int .u64 0, .int .u64 0, .int .u64 0] rfl (fun _ => by kernel_rfl) rfl ?_
  intro k3 w3 hk hz hq Q3
  have ne_k1_k3 : k1 ≠ k3 := by have := Q1.lt; omega
  have ne_k2_k3 : k2 ≠ k3 := by have := Q2.lt; omega
  have N_k3 : w.heap.size ≤ k3 := by have := M.size; omega
  replace Q1 := Q1.mo hq
  replace Q2 := Q2.mo hq
  replace M := M.trans hq
  clear hk hz hq
  refine w_nil (xn_then (w_seq (w_seq (w_reg ?_))))
  refine wl_m (.const (.int .i64 (0))) (.int .i64 (0)) ?_
  refine w_nil (xn_then (w_block ?_))
  refine w_rounds 4 ?_
  refine w_seq (w_reg ?_)
  refine wl_b .lss 3 (.tmp 5) (.const (.int .i64 (4))) (.int .i64 (0)) (.int .i64 (4)) (.bool true) (by kernel_rfl) ?_
  refine w_nil (xn_then (w_seq (w_condT rfl (w_skip (xn_then (w_seq (w_block (w_seq (w_reg ?_)))))))))
  refine wl_m (.tmp 5) (.int .i64 (0)) ?_
  refine wl_m (.tmp 7) (.int .i64 (0)) ?_
  refine w_nil (xn_then (w_reg ?_))
  refine wl_m (.tmp 4) (.int .i64 (0)) ?_
  refine wl_m (.tmp 4) (.int .i64 (0)) ?_
  refine wl_f 40 1 (.tmp 1) (pt k1 0) (pt k1 1) ?_
  refine wl_bin (fun x y => Instr.indexAt 38 x y) (.tmp 10) (.tmp 9) (pt k1 1) (.int .i64 (0)) (pt k1 1) (fun _ => rfl) rfl rfl (by kernel_rfl) rfl ?_
  refine wl_l 34 (.tmp 11) (pt k1 1) (.int .u64 (l0 (n))) (run_one Q1 34 1 rfl Try.underlying34 rfl) ?_
  refine wl_bin (fun x y => Instr.indexAt 36 x y) (.tmp 3) (.tmp 8) (pt k3 0) (.int .i64 (0)) (pt k3 0) (fun _ => rfl) rfl rfl (by kernel_rfl) rfl ?_
  refine wl_st1 34 (.tmp 13) (.tmp 12) k3 0 (.int .u64 (l0 (n))) [.int .u64 0, .int .u64 0, .int .u64 0, .int .u64 0, .int .u64 0] [.int .u64 (l0 (n)), .int .u64 0, .int .u64 0, .int .u64 0, .int .u64 0] Q3 rfl rfl rfl rfl rfl sz22 rfl rfl rfl rfl ?_
  intro w4 hS Qn
  replace Q3 := Qn
  clear Qn
  replace Q1 := hS.other _ _ ne_k1_k3 Q1
  replace Q2 := hS.other _ _ ne_k2_k3 Q2
  replace M := hS.mo _ N_k3 M
  clear hS
  refine w_nil (xn_blk (xn_then (w_reg ?_)))
  refine wl_b .add 3 (.tmp 5) (.const (.int .i64 (1))) (.int .i64 (0)) (.int .i64 (1)) (.int .i64 (1)) (by kernel_rfl) ?_
  refine wl_m (.tmp 14) (.int .i64 (1)) ?_
  refine w_nil ?_
  refine xn_rounds ?_
  refine w_seq (w_reg ?_)
  refine wl_b .lss 3 (.tmp 5) (.const (.int .i64 (4))) (.int .i64 (1)) (.int .i64 (4)) (.bool true) (by kernel_rfl) ?_
  refine w_nil (xn_then (w_seq (w_condT rfl (w_skip (xn_then (w_seq (w_block (w_seq (w_reg ?_)))))))))
  refine wl_m (.tmp 5) (.int .i64 (1)) ?_
  refine wl_m (.tmp 7) (.int .i64 (1)) ?_
  refine w_nil (xn_then (w_reg ?_))
  refine wl_m (.tmp 4) (.int .i64 (1)) ?_
  refine wl_m (.tmp 4) (.int .i64 (1)) ?_
  refine wl_f 40 1 (.tmp 1) (pt k1 0) (pt k1 1) ?_
  refine wl_bin (fun x y => Instr.indexAt 38 x y) (.tmp 10) (.tmp 9) (pt k1 1) (.int .i64 (1)) (pt k1 2) (fun _ => rfl) rfl rfl (by kernel_rfl) rfl ?_
  refine wl_l 34 (.tmp 11) (pt k1 2) (.int .u64 (l1 (n))) (run_one Q1 34 2 rfl Try.underlying34 rfl) ?_
  refine wl_bin (fun x y => Instr.indexAt 36 x y) (.tmp 3) (.tmp 8) (pt k3 0) (.int .i64 (1)) (pt k3 1) (fun _ => rfl) rfl rfl (by kernel_rfl) rfl ?_
  refine wl_st1 34 (.tmp 13) (.tmp 12) k3 1 (.int .u64 (l1 (n))) [.int .u64 (l0 (n)), .int .u64 0, .int .u64 0, .int .u64 0, .int .u64 0] [.int .u64 (l0 (n)), .int .u64 (l1 (n)), .int .u64 0, .int .u64 0, .int .u64 0] Q3 rfl rfl rfl rfl rfl sz22 rfl rfl rfl rfl ?_
  intro w5 hS Qn
  replace Q3 := Qn
  clear Qn
  replace Q1 := hS.other _ _ ne_k1_k3 Q1
  replace Q2 := hS.other _ _ ne_k2_k3 Q2
  replace M := hS.mo _ N_k3 M
  clear hS
  refine w_nil (xn_blk (xn_then (w_reg ?_)))
  refine wl_b .add 3 (.tmp 5) (.const (.int .i64 (1))) (.int .i64 (1)) (.int .i64 (1)) (.int .i64 (2)) (by kernel_rfl) ?_
  refine wl_m (.tmp 14) (.int .i64 (2)) ?_
  refine w_nil ?_
  refine xn_rounds ?_
  refine w_seq (w_reg ?_)
  refine wl_b .lss 3 (.tmp 5) (.const (.int .i64 (4))) (.int .i64 (2)) (.int .i64 (4)) (.bool true) (by kernel_rfl) ?_
  refine w_nil (xn_then (w_seq (w_condT rfl (w_skip (xn_then (w_seq (w_block (w_seq (w_reg ?_)))))))))
  refine wl_m (.tmp 5) (.int .i64 (2)) ?_
  refine wl_m (.tmp 7) (.int .i64 (2)) ?_
  refine w_nil (xn_then (w_reg ?_))
  refine wl_m (.tmp 4) (.int .i64 (2)) ?_
  refine wl_m (.tmp 4) (.int .i64 (2)) ?_
  refine wl_f 40 1 (.tmp 1) (pt k1 0) (pt k1 1) ?_
  refine wl_bin (fun x y => Instr.indexAt 38 x y) (.tmp 10) (.tmp 9) (pt k1 1) (.int .i64 (2)) (pt k1 3) (fun _ => rfl) rfl rfl (by kernel_rfl) rfl ?_
  refine wl_l 34 (.tmp 11) (pt k1 3) (.int .u64 (l2 (n))) (run_one Q1 34 3 rfl Try.underlying34 rfl) ?_
  refine wl_bin (fun x y => Instr.indexAt 36 x y) (.tmp 3) (.tmp 8) (pt k3 0) (.int .i64 (2)) (pt k3 2) (fun _ => rfl) rfl rfl (by kernel_rfl) rfl ?_
  refine wl_st1 34 (.tmp 13) (.tmp 12) k3 2 (.int .u64 (l2 (n))) [.int .u64 (l0 (n)), .int .u64 (l1 (n)), .int .u64 0, .int .u64 0, .int .u64 0] [.int .u64 (l0 (n)), .int .u64 (l1 (n)), .int .u64 (l2 (n)), .int .u64 0, .int .u64 0] Q3 rfl rfl rfl rfl rfl sz22 rfl rfl rfl rfl ?_
  intro w6 hS Qn
  replace Q3 := Qn
  clear Qn
  replace Q1 := hS.other _ _ ne_k1_k3 Q1
  replace Q2 := hS.other _ _ ne_k2_k3 Q2
  replace M := hS.mo _ N_k3 M
  clear hS
  refine w_nil (xn_blk (xn_then (w_reg ?_)))
  refine wl_b .add 3 (.tmp 5) (.const (.int .i64 (1))) (.int .i64 (2)) (.int .i64 (1)) (.int .i64 (3)) (by kernel_rfl) ?_
  refine wl_m (.tmp 14) (.int .i64 (3)) ?_
  refine w_nil ?_
  refine xn_rounds ?_
  refine w_seq (w_reg ?_)
  refine wl_b .lss 3 (.tmp 5) (.const (.int .i64 (4))) (.int .i64 (3)) (.int .i64 (4)) (.bool true) (by kernel_rfl) ?_
  refine w_nil (xn_then (w_seq (w_condT rfl (w_skip (xn_then (w_seq (w_block (w_seq (w_reg ?_)))))))))
  refine wl_m (.tmp 5) (.int .i64 (3)) ?_
  refine wl_m (.tmp 7) (.int .i64 (3)) ?_
  refine w_nil (xn_then (w_reg ?_))
  refine wl_m (.tmp 4) (.int .i64 (3)) ?_
  refine wl_m (.tmp 4) (.int .i64 (3)) ?_
  refine wl_f 40 1 (.tmp 1) (pt k1 0) (pt k1 1) ?_
  refine wl_bin (fun x y => Instr.indexAt 38 x y) (.tmp 10) (.tmp 9) (pt k1 1) (.int .i64 (3)) (pt k1 4) (fun _ => rfl) rfl rfl (by kernel_rfl) rfl ?_
  refine wl_l 34 (.tmp 11) (pt k1 4) (.int .u64 (l3 (n))) (run_one Q1 34 4 rfl Try.underlying34 rfl) ?_
  refine wl_bin (fun x y => Instr.indexAt 36 x y) (.tmp 3) (.tmp 8) (pt k3 0) (.int .i64 (3)) (pt k3 3) (fun _ => rfl) rfl rfl (by kernel_rfl) rfl ?_
  refine wl_st1 34 (.tmp 13) (.tmp 12) k3 3 (.int .u64 (l3 (n))) [.int .u64 (l0 (n)), .int .u64 (l1 (n)), .int .u64 (l2 (n)), .int .u64 0, .int .u64 0] [.int .u64 (l0 (n)), .int .u64 (l1 (n)), .int .u64 (l2 (n)), .int .u64 (l3 (n)), .int .u64 0] Q3 rfl rfl rfl rfl rfl sz22 rfl rfl rfl rfl ?_
  intro w7 hS Qn
  replace Q3 := Qn
  clear Qn
  replace Q1 := hS.other _ _ ne_k1_k3 Q1
  replace Q2 := hS.other _ _ ne_k2_k3 Q2
  replace M := hS.mo _ N_k3 M
  clear hS
  refine w_nil (xn_blk (xn_then (w_reg ?_)))
  refine wl_b .add 3 (.tmp 5) (.const (.int .i64 (1))) (.int .i64 (3)) (.int .i64 (1)) (.int .i64 (4)) (by kernel_rfl) ?_
  refine wl_m (.tmp 14) (.int .i64 (4)) ?_
  refine w_nil ?_
  refine xn_rounds ?_
  refine w_seq (w_reg ?_)
  refine wl_b .lss 3 (.tmp 5) (.const (.int .i64 (4))) (.int .i64 (4)) (.int .i64 (4)) (.bool false) (by kernel_rfl) ?_
  refine w_nil (xn_then (w_seq (w_condF rfl (w_exit (xx_then (xx_then (xx_blk (xn_then (w_seq (w_seq (w_reg ?_)))))))))))
  refine wl_f 40 0 (.tmp 1) (pt k1 0) (pt k1 0) ?_
  refine wl_l 4 (.tmp 15) (pt k1 0) (.bool false) (run_one Q1 4 0 rfl Try.underlying4 rfl) ?_
  refine w_nil (xn_then (w_condF rfl (w_skip (xn_then (w_seq (w_reg ?_))))))
  refine wl_l 36 (.tmp 3) (pt k3 0) (.agg #[.int .u64 (l0 (n)), .int .u64 (l1 (n)), .int .u64 (l2 (n)), .int .u64 (l3 (n)), .int .u64 0]) (run_row Q3 36 0 5 [.int .u64 (l0 (n)), .int .u64 (l1 (n)), .int .u64 (l2 (n)), .int .u64 (l3 (n)), .int .u64 0] rfl Try.underlying36 rfl sz31) ?_
  refine wl_st 36 (.tmp 2) (.tmp 19) k2 0 #[.int .u64 (l0 (n)), .int .u64 (l1 (n)), .int .u64 (l2 (n)), .int .u64 (l3 (n)), .int .u64 0] [.int .u64 0, .int .u64 0, .int .u64 0, .int .u64 0, .int .u64 0] [.int .u64 (l0 (n)), .int .u64 (l1 (n)), .int .u64 (l2 (n)), .int .u64 (l3 (n)), .int .u64 0] Q2 rfl rfl rfl rfl rfl sz31 rfl rfl rfl ?_
  intro w8 hS Qn
  replace Q2 := Qn
  clear Qn
  replace Q1 := hS.other _ _ ne_k1_k2 Q1
  replace Q3 := hS.other _ _ ne_k2_k3.symm Q3
  replace M := hS.mo _ N_k2 M
  clear hS
  refine w_nil (xn_then (w_ret ?_))
  exact w_ret1 _ (.agg #[.int .u64 (l0 (n)), .int .u64 (l1 (n)), .int .u64 (l2 (n)), .int .u64 (l3 (n)), .int .u64 0]) rfl ⟨k2, rfl, (run_row Q2 36 0 5 [.int .u64 (l0 (n)), .int .u64 (l1 (n)), .int .u64 (l2 (n)), .int .u64 (l3 (n)), .int .u64 0] rfl Try.underlying36 rfl sz31)⟩ ⟨by rw [← hv], M⟩
end
end Go.Proofs.Ythfemlhmnjfjiaa

/-
  Narrow, the program's and the document's.
-/
namespace Go.Proofs.Ythfemlhmnjfjiaa
open Go.RowKit
theorem sz26 : (Try.prog.info? 40).map (·.size) = some 6 := by kernel_rfl
end Go.Proofs.Ythfemlhmnjfjiaa

/-
  decimal.shorten by whole numbers.
-/
namespace Go.Proofs.Ythfemlhmnjfjiaa
open Go.RowKit
/-- A size with a sign. -/
def sv (b : Bool) (V : Int) : Int := if b then -V else V
theorem ab_sv {b : Bool} {V : Int} (h : 0 ≤ V) : ab (sv b V) = V := by unfold ab sv; cases b <;> simp <;> omega
theorem neg_sv {b : Bool} {V : Int} (h : 0 ≤ V) : decide (sv b V < 0) = (b && !decide (V = 0)) := by
  unfold sv
  cases b
  · simp; omega
  · rw [Bool.eq_iff_iff]; simp; omega
end Go.Proofs.Ythfemlhmnjfjiaa

/-
  decimal.OfInt and cmp.Compare: the walks.
-/
namespace Go.Proofs.Ythfemlhmnjfjiaa
open Go.RowKit
theorem nan_n (a : Int) (w : World) : Calls Try.prog 91 #[.int .i64 a] w fun e w' => e = .returned (.bool false) ∧ Mo w w' := by
  go_enter Try.func91, Try.ntmps91
  go_wp2
  go_ret
  exact ⟨by simp, Mo.refl _⟩
set_option maxHeartbeats 4000000 in
theorem compare_n (a b : Int) (w : World) : Calls Try.prog 84 #[.int .i64 a, .int .i64 b] w fun e w' => e = .returned (.int .i64 (cm a b)) ∧ Mo w w' := by
  have hc : (a < b ∧ cm a b = -1) ∨ (¬ a < b ∧ b < a ∧ cm a b = 1) ∨ (¬ a < b ∧ ¬ b < a ∧ cm a b = 0) := by
    unfold cm
    by_cases h : a < b
    · exact Or.inl ⟨h, if_pos h⟩
    · by_cases h2 : b < a
      · exact Or.inr (Or.inl ⟨h, h2, by rw [if_neg h, if_pos h2]⟩)
      · exact Or.inr (Or.inr ⟨h, h2, by rw [if_neg h, if_neg h2]⟩)
  rcases hc with ⟨h1, h2⟩ | ⟨h1, h2, h3⟩ | ⟨h1, h2, h3⟩
  · have d1 : decide (a < b) = true := decide_eq_true h1
    rw [h2]
    clear h1 h2
    go_enter Try.func84, Try.ntmps84
    go_wp2_with fail
    refine (nan_n a _).mono ?_
    rintro e w1 ⟨rfl, hm1⟩
    have mz : Mo w w1 := Mo.trans (by repeat (first | with_reducible exact Mo.refl _ | with_reducible apply Mo.drew | with_reducible apply Mo.alloc)) hm1
    have M := mz
    clear hm1 mz
    go_wp2_with fail
    refine (nan_n b _).mono ?_
    rintro e w2 ⟨rfl, hm2⟩
    have mz : Mo w1 w2 := Mo.trans (by repeat (first | with_reducible exact Mo.refl _ | with_reducible apply Mo.drew | with_reducible apply Mo.alloc)) hm2
    have M := M.trans mz
    clear hm2 mz
    go_wp2
    go_ret
    exact ⟨rfl, M⟩
  · have d1 : decide (a < b) = false := decide_eq_false h1
    have d2 : decide (a > b) = true := decide_eq_true h2
    rw [h3]
    clear h1 h2 h3
    go_enter Try.func84, Try.ntmps84
    go_wp2_with fail
    refine (nan_n a _).mono ?_
    rintro e w1 ⟨rfl, hm1⟩
    have mz : Mo w w1 := Mo.trans (by repeat (first | with_reducible exact Mo.refl _ | with_reducible apply Mo.drew | with_reducible apply Mo.alloc)) hm1
    have M := mz
    clear hm1 mz
    go_wp2_with fail
    refine (nan_n b _).mono ?_
    rintro e w2 ⟨rfl, hm2⟩
    have mz : Mo w1 w2 := Mo.trans (by repeat (first | with_reducible exact Mo.refl _ | with_reducible apply Mo.drew | with_reducible apply Mo.alloc)) hm2
    have M := M.trans mz
    clear hm2 mz
    go_wp2
    go_ret
    exact ⟨rfl, M⟩
  · have d1 : decide (a < b) = false := decide_eq_false h1
    have d2 : decide (a > b) = false := decide_eq_false h2
    rw [h3]
    clear h1 h2 h3
    go_enter Try.func84, Try.ntmps84
    go_wp2_with fail
    refine (nan_n a _).mono ?_
    rintro e w1 ⟨rfl, hm1⟩
    have mz : Mo w w1 := Mo.trans (by repeat (first | with_reducible exact Mo.refl _ | with_reducible apply Mo.drew | with_reducible apply Mo.alloc)) hm1
    have M := mz
    clear hm1 mz
    go_wp2_with fail
    refine (nan_n b _).mono ?_
    rintro e w2 ⟨rfl, hm2⟩
    have mz : Mo w1 w2 := Mo.trans (by repeat (first | with_reducible exact Mo.refl _ | with_reducible apply Mo.drew | with_reducible apply Mo.alloc)) hm2
    have M := M.trans mz
    clear hm2 mz
    go_wp2
    go_ret
    exact ⟨rfl, M⟩
end Go.Proofs.Ythfemlhmnjfjiaa

/-
  decimal.Cmp: the walk.
-/
namespace Go.Proofs.Ythfemlhmnjfjiaa
open Go.RowKit
theorem lifted_bd {n : Int} {i : Nat} (h0 : 0 ≤ n) (h : n < MM) (hi : i ≤ 77) : 0 ≤ n * 10 ^ i ∧ n * 10 ^ i < MM * MM := by
  obtain ⟨t0, t1⟩ := ten_bd i hi
  refine ⟨Int.mul_nonneg h0 (by omega), ?_⟩
  have a : n * 10 ^ i ≤ n * MM := Int.mul_le_mul_of_nonneg_left (by omega) h0
  have b : n * MM < MM * MM := Int.mul_lt_mul_of_pos_right h (by decide)
  omega
set_option maxHeartbeats 4000000 in
theorem dcmp_no (b c : Bool) (n m s t : Int) (w : World) (hn0 : 0 ≤ n) (hn : n < MM) (hm0 : 0 ≤ m) (hm : m < MM) (h : ¬ (ck b n s = 0 ∧ ck c m t = 0)) :
    Calls Try.prog 75 #[dc b n s, dc c m t] w fun e w' => e = .returned (.int .i64 0) ∧ Mo w w' := by
  go_enter Try.func75, Try.ntmps75
  go_wp2_with fail
  refine (both_no b n s c m t _ hn0 hn hm0 hm h).mono ?_
  rintro e w1 ⟨rfl, hm1⟩
  have mz : Mo w w1 := Mo.trans (by repeat (first | with_reducible exact Mo.refl _ | with_reducible apply Mo.drew | with_reducible apply Mo.alloc)) hm1
  have M := mz
  have Qa : AtD w1 (w.heap.size) b n s := AtD.mo ⟨by simp [go_sem], fun o => by simp [go_sem], by simp <;> omega⟩ hm1
  have Qb : AtD w1 (w.heap.size + 1) c m t := AtD.mo ⟨by simp [go_sem], fun o => by simp [go_sem], by simp <;> omega⟩ hm1
  clear hm1 mz
  have Oa := Qa
  obtain ⟨⟨ca0, ca1, ca2, ca3, ca4, ca5⟩, fa, sa⟩ := Oa
  have fa := fun o => fa o
  have sxa : w.heap.size < w1.heap.size + 1 := by omega
  have sya : w.heap.size < w1.heap.size + 1 + 1 := by omega
  have Ob := Qb
  obtain ⟨⟨cb0, cb1, cb2, cb3, cb4, cb5⟩, fb, sb⟩ := Ob
  have fb := fun o => fb o
  have sxb : w.heap.size + 1 < w1.heap.size + 1 := by omega
  have syb : w.heap.size + 1 < w1.heap.size + 1 + 1 := by omega
  go_wp2
  go_ret
  exact ⟨rfl, M⟩
set_option maxHeartbeats 4000000 in
theorem dcmp_ne (b c : Bool) (n m s t : Int) (w : World) (hn0 : 0 ≤ n) (hn : n < MM) (hm0 : 0 ≤ m) (hm : m < MM) (h1 : ck b n s = 0) (h2 : ck c m t = 0) (ho : cm (sg b n) (sg c m) ≠ 0) :
    Calls Try.prog 75 #[dc b n s, dc c m t] w fun e w' => e = .returned (.int .i64 (cm (sg b n) (sg c m))) ∧ Mo w w' := by
  have hO : (cm (sg b n) (sg c m) == 0) = false := by simp [ho]
  have hO2 : (cm (sg b n) (sg c m) != 0) = true := by simp [ho]
  clear ho
  go_enter Try.func75, Try.ntmps75
  go_wp2_with fail
  refine (both_ok b n s c m t _ hn0 hn hm0 hm h1 h2).mono ?_
  rintro e w1 ⟨rfl, hm1⟩
  have mz : Mo w w1 := Mo.trans (by repeat (first | with_reducible exact Mo.refl _ | with_reducible apply Mo.drew | with_reducible apply Mo.alloc)) hm1
  have M := mz
  have Qa : AtD w1 (w.heap.size) b n s := AtD.mo ⟨by simp [go_sem], fun o => by simp [go_sem], by simp <;> omega⟩ hm1
  have Qb : AtD w1 (w.heap.size + 1) c m t := AtD.mo ⟨by simp [go_sem], fun o => by simp [go_sem], by simp <;> omega⟩ hm1
  clear hm1 mz
  have Oa := Qa
  obtain ⟨⟨ca0, ca1, ca2, ca3, ca4, ca5⟩, fa, sa⟩ := Oa
  have fa := fun o => fa o
  have sxa : w.heap.size < w1.heap.size + 1 := by omega
  have sya : w.heap.size < w1.heap.size + 1 + 1 := by omega
  have Ob := Qb
  obtain ⟨⟨cb0, cb1, cb2, cb3, cb4, cb5⟩, fb, sb⟩ := Ob
  have fb := fun o => fb o
  have sxb : w.heap.size + 1 < w1.heap.size + 1 := by omega
  have syb : w.heap.size + 1 < w1.heap.size + 1 + 1 := by omega
  go_upto_region 3 with fail
  go_cut [5] from 12 to 16 (fun s5 wx => s5 = .int .i64 (cm (sg b n) (sg c m)) ∧ Mo w wx ∧ AtD wx w.heap.size b n s ∧ AtD wx (w.heap.size + 1) c m t)
  case first =>
    go_region_held3 (fun w' => w'.cell? ⟨w.heap.size, 0, none⟩ = some (.bool b) ∧ w'.cell? ⟨w.heap.size, 1, none⟩ = some (.int .u64 (l0 n)) ∧ w'.cell? ⟨w.heap.size, 2, none⟩ = some (.int .u64 (l1 n)) ∧ w'.cell? ⟨w.heap.size, 3, none⟩ = some (.int .u64 (l2 n)) ∧ w'.cell? ⟨w.heap.size, 4, none⟩ = some (.int .u64 (l3 n)) ∧ w'.cell? ⟨w.heap.size, 5, none⟩ = some (.int .i64 s) ∧ w'.cell? ⟨w.heap.size + 1, 0, none⟩ = some (.bool c) ∧ w'.cell? ⟨w.heap.size + 1, 1, none⟩ = some (.int .u64 (l0 m)) ∧ w'.cell? ⟨w.heap.size + 1, 2, none⟩ = some (.int .u64 (l1 m)) ∧ w'.cell? ⟨w.heap.size + 1, 3, none⟩ = some (.int .u64 (l2 m)) ∧ w'.cell? ⟨w.heap.size + 1, 4, none⟩ = some (.int .u64 (l3 m)) ∧ w'.cell? ⟨w.heap.size + 1, 5, none⟩ = some (.int .i64 t)) (simp [go_sem, *])
      (first | (go_at_call 84; refine (compare_n _ _ _).mono ?_; rintro e w5 ⟨rfl, hm5⟩; have m5 : Mo w4 w5 := Mo.trans (by repeat (first | with_reducible exact Mo.refl _ | with_reducible apply Mo.drew | with_reducible apply Mo.alloc)) hm5; have m6 := (m3.trans m4).trans m5; obtain ⟨⟨i0, i1, i2, i3, i4, i5⟩, _, is⟩ := Qa.mo m6; obtain ⟨⟨j0, j1, j2, j3, j4, j5⟩, _, js⟩ := Qb.mo m6) | (go_at_call 85; have m33 := m3; refine (sign_n c m t _ hm0 hm).mono ?_; rintro e w4 ⟨rfl, hm4⟩; have m4 : Mo w3 w4 := Mo.trans (by repeat (first | with_reducible exact Mo.refl _ | with_reducible apply Mo.drew | with_reducible apply Mo.alloc)) hm4; obtain ⟨⟨g0, g1, g2, g3, g4, g5⟩, _, gs⟩ := Qa.mo (m3.trans m4); obtain ⟨⟨k0, k1, k2, k3, k4, k5⟩, _, ks⟩ := Qb.mo (m3.trans m4)) | (go_at_call 85; refine (sign_n b n s _ hn0 hn).mono ?_; rintro e w3 ⟨rfl, hm3⟩; have m3 : Mo w1 w3 := Mo.trans (by repeat (first | with_reducible exact Mo.refl _ | with_reducible apply Mo.drew | with_reducible apply Mo.alloc)) hm3; obtain ⟨⟨e0, e1, e2, e3, e4, e5⟩, _, es⟩ := Qa.mo m3; obtain ⟨⟨f0, f1, f2, f3, f4, f5⟩, _, fs⟩ := Qb.mo m3))
    all_goals
      go_wp2
      go_meet
      case rel => exact ⟨rfl, M.trans m6, Qa.mo m6, Qb.mo m6⟩
  case rest =>
    clear ca0 ca1 ca2 ca3 ca4 ca5 fa sa sxa sya cb0 cb1 cb2 cb3 cb4 cb5 fb sb sxb syb Qa Qb M
    obtain ⟨rfl, M, Qa, Qb⟩ := hcut
    have Oa := Qa
    obtain ⟨⟨ca0, ca1, ca2, ca3, ca4, ca5⟩, fa, sa⟩ := Oa
    have fa := fun o => fa o
    have sxa : w.heap.size < wc.heap.size + 1 := by omega
    have sya : w.heap.size < wc.heap.size + 1 + 1 := by omega
    have Ob := Qb
    obtain ⟨⟨cb0, cb1, cb2, cb3, cb4, cb5⟩, fb, sb⟩ := Ob
    have fb := fun o => fb o
    have sxb : w.heap.size + 1 < wc.heap.size + 1 := by omega
    have syb : w.heap.size + 1 < wc.heap.size + 1 + 1 := by omega
    go_wp2
    go_ret
    exact ⟨rfl, M⟩
set_option maxHeartbeats 4000000 in
theorem dcmp_pos (b c : Bool) (n m s t : Int) (w : World) (hn0 : 0 ≤ n) (hn : n < MM) (hm0 : 0 ≤ m) (hm : m < MM) (h1 : ck b n s = 0) (h2 : ck c m t = 0) (S : Int) (i j : Nat) (hS : max s t = S) (hi : S - s = (i : Int)) (hj : S - t = (j : Int)) (hi7 : i ≤ 18) (hj7 : j ≤ 18) (hb : b = false) (ho : cm (sg b n) (sg c m) = 0) :
    Calls Try.prog 75 #[dc b n s, dc c m t] w fun e w' => e = .returned (.int .i64 (cm (n * 10 ^ i) (m * 10 ^ j))) ∧ Mo w w' := by
  subst hb
  subst hS
  have bX := lifted_bd hn0 hn (show i ≤ 77 by omega)
  have bY := lifted_bd hm0 hm (show j ≤ 77 by omega)
  have HI : Hid _ := hi
  have HJ : Hid _ := hj
  clear hi hj
  have hO : (cm (sg false n) (sg c m) == 0) = true := by simp [ho]
  have hO2 : (cm (sg false n) (sg c m) != 0) = false := by simp [ho]
  clear ho
  go_enter Try.func75, Try.ntmps75
  go_wp2_with fail
  refine (both_ok false n s c m t _ hn0 hn hm0 hm h1 h2).mono ?_
  rintro e w1 ⟨rfl, hm1⟩
  have mz : Mo w w1 := Mo.trans (by repeat (first | with_reducible exact Mo.refl _ | with_reducible apply Mo.drew | with_reducible apply Mo.alloc)) hm1
  have M := mz
  have Qa : AtD w1 (w.heap.size) false n s := AtD.mo ⟨by simp [go_sem], fun o => by simp [go_sem], by simp <;> omega⟩ hm1
  have Qb : AtD w1 (w.heap.size + 1) c m t := AtD.mo ⟨by simp [go_sem], fun o => by simp [go_sem], by simp <;> omega⟩ hm1
  clear hm1 mz
  have Oa := Qa
  obtain ⟨⟨ca0, ca1, ca2, ca3, ca4, ca5⟩, fa, sa⟩ := Oa
  have fa := fun o => fa o
  have sxa : w.heap.size < w1.heap.size + 1 := by omega
  have sya : w.heap.size < w1.heap.size + 1 + 1 := by omega
  have Ob := Qb
  obtain ⟨⟨cb0, cb1, cb2, cb3, cb4, cb5⟩, fb, sb⟩ := Ob
  have fb := fun o => fb o
  have sxb : w.heap.size + 1 < w1.heap.size + 1 := by omega
  have syb : w.heap.size + 1 < w1.heap.size + 1 + 1 := by omega
  go_upto_region 3 with fail
  go_cut [5] from 12 to 16 (fun s5 wx => s5 = .int .i64 (cm (sg false n) (sg c m)) ∧ Mo w wx ∧ AtD wx w.heap.size false n s ∧ AtD wx (w.heap.size + 1) c m t)
  case first =>
    go_region_held3 (fun w' => w'.cell? ⟨w.heap.size, 0, none⟩ = some (.bool false) ∧ w'.cell? ⟨w.heap.size, 1, none⟩ = some (.int .u64 (l0 n)) ∧ w'.cell? ⟨w.heap.size, 2, none⟩ = some (.int .u64 (l1 n)) ∧ w'.cell? ⟨w.heap.size, 3, none⟩ = some (.int .u64 (l2 n)) ∧ w'.cell? ⟨w.heap.size, 4, none⟩ = some (.int .u64 (l3 n)) ∧ w'.cell? ⟨w.heap.size, 5, none⟩ = some (.int .i64 s) ∧ w'.cell? ⟨w.heap.size + 1, 0, none⟩ = some (.bool c) ∧ w'.cell? ⟨w.heap.size + 1, 1, none⟩ = some (.int .u64 (l0 m)) ∧ w'.cell? ⟨w.heap.size + 1, 2, none⟩ = some (.int .u64 (l1 m)) ∧ w'.cell? ⟨w.heap.size + 1, 3, none⟩ = some (.int .u64 (l2 m)) ∧ w'.cell? ⟨w.heap.size + 1, 4, none⟩ = some (.int .u64 (l3 m)) ∧ w'.cell? ⟨w.heap.size + 1, 5, none⟩ = some (.int .i64 t)) (simp [go_sem, *])
      (first | (go_at_call 84; refine (compare_n _ _ _).mono ?_; rintro e w5 ⟨rfl, hm5⟩; have m5 : Mo w4 w5 := Mo.trans (by repeat (first | with_reducible exact Mo.refl _ | with_reducible apply Mo.drew | with_reducible apply Mo.alloc)) hm5; have m6 := (m3.trans m4).trans m5; obtain ⟨⟨i0, i1, i2, i3, i4, i5⟩, _, is⟩ := Qa.mo m6; obtain ⟨⟨j0, j1, j2, j3, j4, j5⟩, _, js⟩ := Qb.mo m6) | (go_at_call 85; have m33 := m3; refine (sign_n c m t _ hm0 hm).mono ?_; rintro e w4 ⟨rfl, hm4⟩; have m4 : Mo w3 w4 := Mo.trans (by repeat (first | with_reducible exact Mo.refl _ | with_reducible apply Mo.drew | with_reducible apply Mo.alloc)) hm4; obtain ⟨⟨g0, g1, g2, g3, g4, g5⟩, _, gs⟩ := Qa.mo (m3.trans m4); obtain ⟨⟨k0, k1, k2, k3, k4, k5⟩, _, ks⟩ := Qb.mo (m3.trans m4)) | (go_at_call 85; refine (sign_n false n s _ hn0 hn).mono ?_; rintro e w3 ⟨rfl, hm3⟩; have m3 : Mo w1 w3 := Mo.trans (by repeat (first | with_reducible exact Mo.refl _ | with_reducible apply Mo.drew | with_reducible apply Mo.alloc)) hm3; obtain ⟨⟨e0, e1, e2, e3, e4, e5⟩, _, es⟩ := Qa.mo m3; obtain ⟨⟨f0, f1, f2, f3, f4, f5⟩, _, fs⟩ := Qb.mo m3))
    all_goals
      go_wp2
      go_meet
      case rel => exact ⟨rfl, M.trans m6, Qa.mo m6, Qb.mo m6⟩
  case rest =>
    clear ca0 ca1 ca2 ca3 ca4 ca5 fa sa sxa sya cb0 cb1 cb2 cb3 cb4 cb5 fb sb sxb syb Qa Qb M
    obtain ⟨rfl, M, Qa, Qb⟩ := hcut
    have Oa := Qa
    obtain ⟨⟨ca0, ca1, ca2, ca3, ca4, ca5⟩, fa, sa⟩ := Oa
    have fa := fun o => fa o
    have sxa : w.heap.size < wc.heap.size + 1 := by omega
    have sya : w.heap.size < wc.heap.size + 1 + 1 := by omega
    have Ob := Qb
    obtain ⟨⟨cb0, cb1, cb2, cb3, cb4, cb5⟩, fb, sb⟩ := Ob
    have fb := fun o => fb o
    have sxb : w.heap.size + 1 < wc.heap.size + 1 := by omega
    have syb : w.heap.size + 1 < wc.heap.size + 1 + 1 := by omega
    go_upto_region 7 with fail
    go_cut [7] from 25 to 31 (fun s7 wx => s7 = .int .i64 (cm (n * 10 ^ i) (m * 10 ^ j)) ∧ Mo w wx ∧ AtD wx w.heap.size false n s)
    case first =>
      go_region_held3 (fun w' => w'.cell? ⟨w.heap.size, 0, none⟩ = some (.bool false) ∧ w'.cell? ⟨w.heap.size, 1, none⟩ = some (.int .u64 (l0 n)) ∧ w'.cell? ⟨w.heap.size, 2, none⟩ = some (.int .u64 (l1 n)) ∧ w'.cell? ⟨w.heap.size, 3, none⟩ = some (.int .u64 (l2 n)) ∧ w'.cell? ⟨w.heap.size, 4, none⟩ = some (.int .u64 (l3 n)) ∧ w'.cell? ⟨w.heap.size, 5, none⟩ = some (.int .i64 s) ∧ w'.cell? ⟨w.heap.size + 1, 0, none⟩ = some (.bool c) ∧ w'.cell? ⟨w.heap.size + 1, 1, none⟩ = some (.int .u64 (l0 m)) ∧ w'.cell? ⟨w.heap.size + 1, 2, none⟩ = some (.int .u64 (l1 m)) ∧ w'.cell? ⟨w.heap.size + 1, 3, none⟩ = some (.int .u64 (l2 m)) ∧ w'.cell? ⟨w.heap.size + 1, 4, none⟩ = some (.int .u64 (l3 m)) ∧ w'.cell? ⟨w.heap.size + 1, 5, none⟩ = some (.int .i64 t)) (simp [go_sem, *])
        (first | (go_at_call 86; refine (cmpDouble_x _ _ _ bX.1 bX.2 bY.1 bY.2).mono ?_; rintro e w9 ⟨rfl, hm9⟩; have m9 : Mo w8 w9 := Mo.trans (by repeat (first | with_reducible exact Mo.refl _ | with_reducible apply Mo.drew | with_reducible apply Mo.alloc)) hm9; have m10 := (m7.trans m8).trans m9; obtain ⟨⟨i0, i1, i2, i3, i4, i5⟩, _, is⟩ := Qa.mo m10; obtain ⟨⟨j0, j1, j2, j3, j4, j5⟩, _, js⟩ := Qb.mo m10) | (go_at_call 87; have m77 := m7; refine (lift_x _ _ _ _ j _ hm0 hm HJ.out (by omega)).mono ?_; rintro e w8 ⟨rfl, hm8⟩; have m8 : Mo w7 w8 := Mo.trans (by repeat (first | with_reducible exact Mo.refl _ | with_reducible apply Mo.drew | with_reducible apply Mo.alloc)) hm8; obtain ⟨⟨g0, g1, g2, g3, g4, g5⟩, _, gs⟩ := Qa.mo (m7.trans m8); obtain ⟨⟨k0, k1, k2, k3, k4, k5⟩, _, ks⟩ := Qb.mo (m7.trans m8)) | (go_at_call 87; refine (lift_x _ _ _ _ i _ hn0 hn HI.out (by omega)).mono ?_; rintro e w7 ⟨rfl, hm7⟩; have m7 : Mo wc w7 := Mo.trans (by repeat (first | with_reducible exact Mo.refl _ | with_reducible apply Mo.drew | with_reducible apply Mo.alloc)) hm7; obtain ⟨⟨e0, e1, e2, e3, e4, e5⟩, _, es⟩ := Qa.mo m7; obtain ⟨⟨f0, f1, f2, f3, f4, f5⟩, _, fs⟩ := Qb.mo m7))
      all_goals
        go_wp2
        go_meet
        case rel => exact ⟨rfl, M.trans m10, Qa.mo m10⟩
    case rest =>
      clear ca0 ca1 ca2 ca3 ca4 ca5 fa sa sxa sya cb0 cb1 cb2 cb3 cb4 cb5 fb sb sxb syb Qa Qb M
      obtain ⟨rfl, M, Qa⟩ := hcut
      have Oa := Qa
      obtain ⟨⟨ca0, ca1, ca2, ca3, ca4, ca5⟩, fa, sa⟩ := Oa
      have fa := fun o => fa o
      have sxa : w.heap.size < wc.heap.size + 1 := by omega
      have sya : w.heap.size < wc.heap.size + 1 + 1 := by omega
      go_wp2
      go_ret
      exact ⟨rfl, M⟩
set_option maxHeartbeats 4000000 in
theorem dcmp_neg (b c : Bool) (n m s t : Int) (w : World) (hn0 : 0 ≤ n) (hn : n < MM) (hm0 : 0 ≤ m) (hm : m < MM) (h1 : ck b n s = 0) (h2 : ck c m t = 0) (S : Int) (i j : Nat) (hS : max s t = S) (hi : S - s = (i : Int)) (hj : S - t = (j : Int)) (hi7 : i ≤ 18) (hj7 : j ≤ 18) (hb : b = true) (ho : cm (sg b n) (sg c m) = 0) :
    Calls Try.prog 75 #[dc b n s, dc c m t] w fun e w' => e = .returned (.int .i64 (-(cm (n * 10 ^ i) (m * 10 ^ j)))) ∧ Mo w w' := by
  subst hb
  subst hS
  have bX := lifted_bd hn0 hn (show i ≤ 77 by omega)
  have bY := lifted_bd hm0 hm (show j ≤ 77 by omega)
  have HI : Hid _ := hi
  have HJ : Hid _ := hj
  clear hi hj
  have wn : IntKind.i64.wrap (-(cm (n * 10 ^ i) (m * 10 ^ j))) = -(cm (n * 10 ^ i) (m * 10 ^ j)) := by unfold cm; split <;> (try split) <;> decide
  have hO : (cm (sg true n) (sg c m) == 0) = true := by simp [ho]
  have hO2 : (cm (sg true n) (sg c m) != 0) = false := by simp [ho]
  clear ho
  go_enter Try.func75, Try.ntmps75
  go_wp2_with fail
  refine (both_ok true n s c m t _ hn0 hn hm0 hm h1 h2).mono ?_
  rintro e w1 ⟨rfl, hm1⟩
  have mz : Mo w w1 := Mo.trans (by repeat (first | with_reducible exact Mo.refl _ | with_reducible apply Mo.drew | with_reducible apply Mo.alloc)) hm1
  have M := mz
  have Qa : AtD w1 (w.heap.size) true n s := AtD.mo ⟨by simp [go_sem], fun o => by simp [go_sem], by simp <;> omega⟩ hm1
  have Qb : AtD w1 (w.heap.size + 1) c m t := AtD.mo ⟨by simp [go_sem], fun o => by simp [go_sem], by simp <;> omega⟩ hm1
  clear hm1 mz
  have Oa := Qa
  obtain ⟨⟨ca0, ca1, ca2, ca3, ca4, ca5⟩, fa, sa⟩ := Oa
  have fa := fun o => fa o
  have sxa : w.heap.size < w1.heap.size + 1 := by omega
  have sya : w.heap.size < w1.heap.size + 1 + 1 := by omega
  have Ob := Qb
  obtain ⟨⟨cb0, cb1, cb2, cb3, cb4, cb5⟩, fb, sb⟩ := Ob
  have fb := fun o => fb o
  have sxb : w.heap.size + 1 < w1.heap.size + 1 := by omega
  have syb : w.heap.size + 1 < w1.heap.size + 1 + 1 := by omega
  go_upto_region 3 with fail
  go_cut [5] from 12 to 16 (fun s5 wx => s5 = .int .i64 (cm (sg true n) (sg c m)) ∧ Mo w wx ∧ AtD wx w.heap.size true n s ∧ AtD wx (w.heap.size + 1) c m t)
  case first =>
    go_region_held3 (fun w' => w'.cell? ⟨w.heap.size, 0, none⟩ = some (.bool true) ∧ w'.cell? ⟨w.heap.size, 1, none⟩ = some (.int .u64 (l0 n)) ∧ w'.cell? ⟨w.heap.size, 2, none⟩ = some (.int .u64 (l1 n)) ∧ w'.cell? ⟨w.heap.size, 3, none⟩ = some (.int .u64 (l2 n)) ∧ w'.cell? ⟨w.heap.size, 4, none⟩ = some (.int .u64 (l3 n)) ∧ w'.cell? ⟨w.heap.size, 5, none⟩ = some (.int .i64 s) ∧ w'.cell? ⟨w.heap.size + 1, 0, none⟩ = some (.bool c) ∧ w'.cell? ⟨w.heap.size + 1, 1, none⟩ = some (.int .u64 (l0 m)) ∧ w'.cell? ⟨w.heap.size + 1, 2, none⟩ = some (.int .u64 (l1 m)) ∧ w'.cell? ⟨w.heap.size + 1, 3, none⟩ = some (.int .u64 (l2 m)) ∧ w'.cell? ⟨w.heap.size + 1, 4, none⟩ = some (.int .u64 (l3 m)) ∧ w'.cell? ⟨w.heap.size + 1, 5, none⟩ = some (.int .i64 t)) (simp [go_sem, *])
      (first | (go_at_call 84; refine (compare_n _ _ _).mono ?_; rintro e w5 ⟨rfl, hm5⟩; have m5 : Mo w4 w5 := Mo.trans (by repeat (first | with_reducible exact Mo.refl _ | with_reducible apply Mo.drew | with_reducible apply Mo.alloc)) hm5; have m6 := (m3.trans m4).trans m5; obtain ⟨⟨i0, i1, i2, i3, i4, i5⟩, _, is⟩ := Qa.mo m6; obtain ⟨⟨j0, j1, j2, j3, j4, j5⟩, _, js⟩ := Qb.mo m6) | (go_at_call 85; have m33 := m3; refine (sign_n c m t _ hm0 hm).mono ?_; rintro e w4 ⟨rfl, hm4⟩; have m4 : Mo w3 w4 := Mo.trans (by repeat (first | with_reducible exact Mo.refl _ | with_reducible apply Mo.drew | with_reducible apply Mo.alloc)) hm4; obtain ⟨⟨g0, g1, g2, g3, g4, g5⟩, _, gs⟩ := Qa.mo (m3.trans m4); obtain ⟨⟨k0, k1, k2, k3, k4, k5⟩, _, ks⟩ := Qb.mo (m3.trans m4)) | (go_at_call 85; refine (sign_n true n s _ hn0 hn).mono ?_; rintro e w3 ⟨rfl, hm3⟩; have m3 : Mo w1 w3 := Mo.trans (by repeat (first | with_reducible exact Mo.refl _ | with_reducible apply Mo.drew | with_reducible apply Mo.alloc)) hm3; obtain ⟨⟨e0, e1, e2, e3, e4, e5⟩, _, es⟩ := Qa.mo m3; obtain ⟨⟨f0, f1, f2, f3, f4, f5⟩, _, fs⟩ := Qb.mo m3))
    all_goals
      go_wp2
      go_meet
      case rel => exact ⟨rfl, M.trans m6, Qa.mo m6, Qb.mo m6⟩
  case rest =>
    clear ca0 ca1 ca2 ca3 ca4 ca5 fa sa sxa sya cb0 cb1 cb2 cb3 cb4 cb5 fb sb sxb syb Qa Qb M
    obtain ⟨rfl, M, Qa, Qb⟩ := hcut
    have Oa := Qa
    obtain ⟨⟨ca0, ca1, ca2, ca3, ca4, ca5⟩, fa, sa⟩ := Oa
    have fa := fun o => fa o
    have sxa : w.heap.size < wc.heap.size + 1 := by omega
    have sya : w.heap.size < wc.heap.size + 1 + 1 := by omega
    have Ob := Qb
    obtain ⟨⟨cb0, cb1, cb2, cb3, cb4, cb5⟩, fb, sb⟩ := Ob
    have fb := fun o => fb o
    have sxb : w.heap.size + 1 < wc.heap.size + 1 := by omega
    have syb : w.heap.size + 1 < wc.heap.size + 1 + 1 := by omega
    go_upto_region 7 with fail
    go_cut [7] from 25 to 31 (fun s7 wx => s7 = .int .i64 (cm (n * 10 ^ i) (m * 10 ^ j)) ∧ Mo w wx ∧ AtD wx w.heap.size true n s)
    case first =>
      go_region_held3 (fun w' => w'.cell? ⟨w.heap.size, 0, none⟩ = some (.bool true) ∧ w'.cell? ⟨w.heap.size, 1, none⟩ = some (.int .u64 (l0 n)) ∧ w'.cell? ⟨w.heap.size, 2, none⟩ = some (.int .u64 (l1 n)) ∧ w'.cell? ⟨w.heap.size, 3, none⟩ = some (.int .u64 (l2 n)) ∧ w'.cell? ⟨w.heap.size, 4, none⟩ = some (.int .u64 (l3 n)) ∧ w'.cell? ⟨w.heap.size, 5, none⟩ = some (.int .i64 s) ∧ w'.cell? ⟨w.heap.size + 1, 0, none⟩ = some (.bool c) ∧ w'.cell? ⟨w.heap.size + 1, 1, none⟩ = some (.int .u64 (l0 m)) ∧ w'.cell? ⟨w.heap.size + 1, 2, none⟩ = some (.int .u64 (l1 m)) ∧ w'.cell? ⟨w.heap.size + 1, 3, none⟩ = some (.int .u64 (l2 m)) ∧ w'.cell? ⟨w.heap.size + 1, 4, none⟩ = some (.int .u64 (l3 m)) ∧ w'.cell? ⟨w.heap.size + 1, 5, none⟩ = some (.int .i64 t)) (simp [go_sem, *])
        (first | (go_at_call 86; refine (cmpDouble_x _ _ _ bX.1 bX.2 bY.1 bY.2).mono ?_; rintro e w9 ⟨rfl, hm9⟩; have m9 : Mo w8 w9 := Mo.trans (by repeat (first | with_reducible exact Mo.refl _ | with_reducible apply Mo.drew | with_reducible apply Mo.alloc)) hm9; have m10 := (m7.trans m8).trans m9; obtain ⟨⟨i0, i1, i2, i3, i4, i5⟩, _, is⟩ := Qa.mo m10; obtain ⟨⟨j0, j1, j2, j3, j4, j5⟩, _, js⟩ := Qb.mo m10) | (go_at_call 87; have m77 := m7; refine (lift_x _ _ _ _ j _ hm0 hm HJ.out (by omega)).mono ?_; rintro e w8 ⟨rfl, hm8⟩; have m8 : Mo w7 w8 := Mo.trans (by repeat (first | with_reducible exact Mo.refl _ | with_reducible apply Mo.drew | with_reducible apply Mo.alloc)) hm8; obtain ⟨⟨g0, g1, g2, g3, g4, g5⟩, _, gs⟩ := Qa.mo (m7.trans m8); obtain ⟨⟨k0, k1, k2, k3, k4, k5⟩, _, ks⟩ := Qb.mo (m7.trans m8)) | (go_at_call 87; refine (lift_x _ _ _ _ i _ hn0 hn HI.out (by omega)).mono ?_; rintro e w7 ⟨rfl, hm7⟩; have m7 : Mo wc w7 := Mo.trans (by repeat (first | with_reducible exact Mo.refl _ | with_reducible apply Mo.drew | with_reducible apply Mo.alloc)) hm7; obtain ⟨⟨e0, e1, e2, e3, e4, e5⟩, _, es⟩ := Qa.mo m7; obtain ⟨⟨f0, f1, f2, f3, f4, f5⟩, _, fs⟩ := Qb.mo m7))
      all_goals
        go_wp2
        go_meet
        case rel => exact ⟨rfl, M.trans m10, Qa.mo m10⟩
    case rest =>
      clear ca0 ca1 ca2 ca3 ca4 ca5 fa sa sxa sya cb0 cb1 cb2 cb3 cb4 cb5 fb sb sxb syb Qa Qb M
      obtain ⟨rfl, M, Qa⟩ := hcut
      have Oa := Qa
      obtain ⟨⟨ca0, ca1, ca2, ca3, ca4, ca5⟩, fa, sa⟩ := Oa
      have fa := fun o => fa o
      have sxa : w.heap.size < wc.heap.size + 1 := by omega
      have sya : w.heap.size < wc.heap.size + 1 + 1 := by omega
      go_wp2
      go_ret
      exact ⟨rfl, M⟩
end Go.Proofs.Ythfemlhmnjfjiaa

/-
  decimal's functions by whole numbers: what they answer at numbers that may be.
-/
namespace Go.Proofs.Ythfemlhmnjfjiaa
open Go.RowKit
/-- Ten to the k. -/
def pw (k : Int) : Int := 10 ^ k.toNat
theorem pw_nat (k : Nat) : pw (k : Int) = 10 ^ k := rfl
theorem ab_c (v : Int) : (v < 0 ∧ ab v = -v) ∨ (0 ≤ v ∧ ab v = v) := by
  unfold ab; by_cases h : v < 0
  · exact Or.inl ⟨h, if_pos h⟩
  · exact Or.inr ⟨by omega, if_neg h⟩
theorem ab_mul {u x : Int} (hx : 0 < x) : ab u * x = ab (u * x) := by
  unfold ab
  by_cases h : u < 0
  · rw [if_pos h, if_pos (Int.mul_neg_of_neg_of_pos h hx), Int.neg_mul]
  · rw [if_neg h, if_neg (by have := Int.mul_nonneg (Int.not_lt.1 h) (Int.le_of_lt hx); omega)]
theorem neg_mul_iff {u x : Int} (hx : 0 < x) : decide (u * x < 0) = decide (u < 0) := by
  by_cases h : u < 0
  · rw [decide_eq_true h, decide_eq_true (Int.mul_neg_of_neg_of_pos h hx)]
  · have := Int.mul_nonneg (Int.not_lt.1 h) (Int.le_of_lt hx)
    rw [decide_eq_false h, decide_eq_false (by omega)]
end Go.Proofs.Ythfemlhmnjfjiaa

/-
  decimal by whole numbers: what else its functions answer.
-/
namespace Go.Proofs.Ythfemlhmnjfjiaa
open Go.RowKit
theorem cmp_z (u s v t : Int) (w : World) (hu : ab u < MM) (hv : ab v < MM) (hs : sc s = true) (ht : sc t = true) :
    Calls Try.prog 75 #[dz u s, dz v t] w fun e w' => e = .returned (.int .i64 (cm (u * pw (max s t - s)) (v * pw (max s t - t)))) ∧ Mo w w' := by
  obtain ⟨s0, s1⟩ := sc_iff.1 hs
  obtain ⟨t0, t1⟩ := sc_iff.1 ht
  obtain ⟨S, hS⟩ : ∃ S, max s t = S := ⟨_, rfl⟩
  obtain ⟨i, hi⟩ : ∃ i : Nat, S - s = (i : Int) := ⟨(S - s).toNat, by omega⟩
  obtain ⟨j, hj⟩ : ∃ j : Nat, S - t = (j : Int) := ⟨(S - t).toNat, by omega⟩
  rw [hS, hi, hj, pw_nat, pw_nat]
  have pi : (0 : Int) < 10 ^ i := Int.pow_pos (by decide)
  have pj : (0 : Int) < 10 ^ j := Int.pow_pos (by decide)
  have eX := ab_mul (u := u) pi
  have eY := ab_mul (u := v) pj
  have nX := neg_mul_iff (u := u) pi
  have nY := neg_mul_iff (u := v) pj
  have zX : u * 10 ^ i = 0 ↔ ab u = 0 := by
    have c := ab_c u
    constructor
    · intro h; rcases Int.mul_eq_zero.1 h with h | h <;> omega
    · intro h; rw [show u = 0 by omega]; simp
  have zY : v * 10 ^ j = 0 ↔ ab v = 0 := by
    have c := ab_c v
    constructor
    · intro h; rcases Int.mul_eq_zero.1 h with h | h <;> omega
    · intro h; rw [show v = 0 by omega]; simp
  have sX : sg (decide (u < 0)) (ab u) = if u * 10 ^ i = 0 then 0 else if u * 10 ^ i < 0 then -1 else 1 := by
    unfold sg; rw [← nX]; by_cases h : u * 10 ^ i = 0 <;> simp [h, zX.1] <;> simp [zX.symm, h]
  have sY : sg (decide (v < 0)) (ab v) = if v * 10 ^ j = 0 then 0 else if v * 10 ^ j < 0 then -1 else 1 := by
    unfold sg; rw [← nY]; by_cases h : v * 10 ^ j = 0 <;> simp [h, zY.1] <;> simp [zY.symm, h]
  generalize hA : u * 10 ^ i = A at *
  generalize hB : v * 10 ^ j = B at *
  have cA := ab_c A
  have cB := ab_c B
  by_cases ho : cm (sg (decide (u < 0)) (ab u)) (sg (decide (v < 0)) (ab v)) = 0
  · have hsg : sg (decide (u < 0)) (ab u) = sg (decide (v < 0)) (ab v) := by unfold cm at ho; split at ho <;> (try split at ho) <;> omega
    rw [sX, sY] at hsg
    have hneg : (A < 0 ↔ B < 0) := by split at hsg <;> split at hsg <;> (try split at hsg) <;> (try split at hsg) <;> omega
    by_cases hb : u < 0
    · have hA0 : A < 0 := by have := nX; simp [hb] at this; exact this
      have := dcmp_neg (decide (u < 0)) (decide (v < 0)) (ab u) (ab v) s t w (ab_nn u) hu (ab_nn v) hv (ck_dz hs) (ck_dz ht) S i j hS hi hj (by omega) (by omega) (decide_eq_true hb) ho
      rw [eX, eY] at this
      have e : -(cm (ab A) (ab B)) = cm A B := by unfold cm; split <;> (try split) <;> (try split) <;> (try split) <;> omega
      rw [e] at this
      exact this
    · have hA0 : ¬ A < 0 := by have := nX; simp [hb] at this; omega
      have := dcmp_pos (decide (u < 0)) (decide (v < 0)) (ab u) (ab v) s t w (ab_nn u) hu (ab_nn v) hv (ck_dz hs) (ck_dz ht) S i j hS hi hj (by omega) (by omega) (decide_eq_false hb) ho
      rw [eX, eY] at this
      have e : cm (ab A) (ab B) = cm A B := by rw [show ab A = A by omega, show ab B = B by omega]
      rw [e] at this
      exact this
  · have := dcmp_ne (decide (u < 0)) (decide (v < 0)) (ab u) (ab v) s t w (ab_nn u) hu (ab_nn v) hv (ck_dz hs) (ck_dz ht) ho
    have e : cm (sg (decide (u < 0)) (ab u)) (sg (decide (v < 0)) (ab v)) = cm A B := by
      rw [sX, sY] at ho ⊢
      unfold cm at *
      by_cases a0 : A = 0 <;> by_cases b0 : B = 0 <;> by_cases a1 : A < 0 <;> by_cases b1 : B < 0 <;> simp [a0, b0, a1, b1] at ho ⊢ <;> (try split) <;> (try split) <;> omega
    rw [e] at this
    exact this
end Go.Proofs.Ythfemlhmnjfjiaa

/-
  exciselaw02.begun answers true.
-/
namespace Go.Proofs.Ythfemlhmnjfjiaa
open Go.RowKit
theorem guard_run {op : BinOp} {ty : TypeId} {a b : Array Value} {w : World} (x y : Operand) (hg : Try.prog.eqGuardType Try.prog.depth ty = false) : (eqGuard op ty x y (.agg a) (.agg b)).run Try.prog w = .ok () w := by
  unfold eqGuard
  cases op <;> simp [hg]
end Go.Proofs.Ythfemlhmnjfjiaa

/-
  The document's Ten, whatever the number: the walk.
-/
namespace Go.Proofs.Ythfemlhmnjfjiaa
open Go.RowKit
theorem pow_lt (k : Nat) (h : k ≤ 77) : (0 : Int) < 10 ^ k ∧ (10 : Int) ^ k < MM := by
  refine ⟨Int.pow_pos (by decide), ?_⟩
  have h1 : (10 : Nat) ^ k ≤ 10 ^ 77 := Nat.pow_le_pow_right (by decide) h
  have h2 : (10 : Nat) ^ 77 < 115792089237316195423570985008687907853269984665640564039457584007913129639936 := by decide
  have h3 : ((10 ^ k : Nat) : Int) = (10 : Int) ^ k := by rw [Int.natCast_pow]; rfl
  rw [← h3]
  unfold MM
  omega
set_option maxHeartbeats 4000000 in
theorem rten_yes (n : Nat) (w : World) (h7 : n ≤ 77) :
    Calls Try.prog 80 #[.int .i64 n] w fun e w' => e = .returned (.tuple #[nv (10 ^ n), .bool true]) ∧ Mo w w' := by
  have hn : ¬ ((n : Int) < 0) := by omega
  have hn7 : ¬ (77 < (n : Int)) := by omega
  go_enter Try.func80, Try.ntmps80
  go_wp2_with fail
  refine (from34_any 1 _ ⟨by decide, by decide⟩).mono ?_
  rintro e w1 ⟨rfl, hm⟩
  have hz := hm.size
  simp only [World.size_alloc] at hz
  have hA : At4 w1 w.heap.size 0 0 0 0 := At4.mo (by simp [At4, go_sem]) hm (by simp)
  have hF : Fz w1 w.heap.size := Fz.mo (fun o => by simp [go_sem]) hm
  have hM : Mo w w1 := ((Mo.refl _).alloc _ _).trans hm
  have hS : TT w (w1.alloc (.cells #[.int .u64 (l0 1), .int .u64 (l1 1), .int .u64 (l2 1), .int .u64 (l3 1)] 38)) w1.heap.size 1 := by
    have z : w.heap.size < w1.heap.size := by omega
    exact ⟨hM.alloc _ _, z, by simp, hA.mo ((Mo.refl _).alloc _ _) z, hF.mo ((Mo.refl _).alloc _ _), by simp [At4, go_sem], fun o => by simp [go_sem]⟩
  have HS : Hid _ := hS
  clear hS hA hF
  go_wp2
  go_loopw [5] (fun i wr => ∃ k : Nat, k ≤ n ∧ i = .int .i64 k ∧ TT w wr w1.heap.size (10 ^ k)) (fun i _ => n - (intOf i).toNat)
  case atStart => exact ⟨0, Nat.zero_le _, rfl, HS.out⟩
  case round =>
    obtain ⟨k, hk, rfl, ht⟩ := hrel
    by_cases hlt : k < n
    · have pk := pow_lt k (by omega)
      have hstep : Hid (10 ^ k * 10 = (10 : Int) ^ (k + 1)) := (Int.pow_succ 10 k).symm
      obtain ⟨P, hP⟩ : ∃ P : Int, P = 10 ^ k := ⟨_, rfl⟩
      rw [← hP] at ht pk hstep
      have HP : Hid _ := hP
      clear hP
      have dk : decide ((k : Int) < (n : Int)) = true := decide_eq_true (by omega)
      go_upto_region 7 with fail
      have ht0 := ht
      obtain ⟨g1, g2, g3, ⟨c0, c1, c2, c3⟩, g5, ⟨b0, b1, b2, b3⟩, g7⟩ := ht0
      clear g5 g7
      go_region_with
        (first | (go_at_call 58; refine (from34_any 10 _ ⟨by decide, by decide⟩).mono ?_; rintro e w5 ⟨rfl, hm5⟩; have m5 : Mo wr w5 := Mo.trans (by repeat (first | with_reducible exact Mo.refl _ | with_reducible apply Mo.drew | with_reducible apply Mo.alloc)) hm5; obtain ⟨_, _, _, _, _, ⟨x0, x1, x2, x3⟩, _⟩ := ht.mo m5) | (go_at_call 81; refine (rmul_n P 10 _ (by omega) pk.2 (by decide) (by decide)).mono ?_; rintro e w6 ⟨rfl, hm6⟩; have m6 : Mo w5 w6 := Mo.trans (by repeat (first | with_reducible exact Mo.refl _ | with_reducible apply Mo.drew | with_reducible apply Mo.alloc)) hm6; have m7 := m5.trans m6; obtain ⟨_, _, zs, _, _, ⟨z0, z1, z2, z3⟩, zf⟩ := ht.mo m7; have zf := fun o => zf o))
      all_goals
        go_wp2
        go_roundw
        case rel =>
          refine ⟨k + 1, by omega, by go_num, ?_⟩
          rw [← hstep.out]
          exact (ht.mo m7).put
        case measure => simp [intOf]; omega
    · have hkn : k = n := by omega
      subst hkn
      obtain ⟨g1, g2, g3, ⟨c0, c1, c2, c3⟩, g5, ⟨b0, b1, b2, b3⟩, g7⟩ := ht
      have g5 := fun o => g5 o
      go_wp2
      refine bodyPost_ret (v := .tuple #[nv (10 ^ k), .bool true]) (by simp [results, Try.results80, go_sem, c0, c1, c2, c3]) rfl ?_
      refine ⟨rfl, ?_⟩
      exact (((g1.setCell (Nat.le_refl _) _).setCell (Nat.le_refl _) _).setCell (Nat.le_refl _) _).setCell (Nat.le_refl _) _
end Go.Proofs.Ythfemlhmnjfjiaa

/-
  The document's Check, both, cmp, shift: the walks.
-/
namespace Go.Proofs.Ythfemlhmnjfjiaa
open Go.RowKit
set_option maxHeartbeats 2000000 in
theorem rcheck_n (b : Bool) (n s : Int) (w : World) (hn0 : 0 ≤ n) (hn : n < MM) : Calls Try.prog 79 #[dc b n s] w fun e w' => e = .returned (.int .i64 (ck b n s)) ∧ Mo w w' := by
  have q4 := eq4
  have z4 := zb hn0 hn
  by_cases h1 : s < 0
  · have d1 : decide (s < 0) = true := decide_eq_true h1
    have e : Hid (ck b n s = 20) := by show _ = _; unfold ck sc; rw [decide_eq_false (p := 0 ≤ s) (by omega)]; rfl
    clear h1
    go_enter Try.func79, Try.ntmps79
    go_wp2
    go_ret
    exact ⟨by rw [e.out]; rfl, (Mo.refl _).alloc _ _⟩
  · by_cases h2 : s > 18
    · have d1 : decide (s < 0) = false := decide_eq_false h1
      have d2 : decide (s > 18) = true := decide_eq_true h2
      have e : Hid (ck b n s = 20) := by show _ = _; unfold ck sc; rw [decide_eq_false (p := s ≤ 18) (by omega)]; simp
      clear h1 h2
      go_enter Try.func79, Try.ntmps79
      go_wp2
      go_ret
      exact ⟨by rw [e.out]; rfl, (Mo.refl _).alloc _ _⟩
    · have d1 : decide (s < 0) = false := decide_eq_false h1
      have d2 : decide (s > 18) = false := decide_eq_false h2
      have e : Hid (sc s = true) := by show _ = _; unfold sc; rw [decide_eq_true (p := 0 ≤ s) (by omega), decide_eq_true (p := s ≤ 18) (by omega)]; rfl
      clear h1 h2
      cases hb : b <;> cases hz : decide (n = 0)
      all_goals
        rw [hz] at z4
        have HZ : Hid _ := hz
        clear hz
        go_enter Try.func79, Try.ntmps79
        go_wp2
        go_ret
        exact ⟨by rw [ck, e.out, HZ.out]; rfl, (Mo.refl _).alloc _ _⟩
theorem rcheck_ok (b : Bool) (n s : Int) (w : World) (hn0 : 0 ≤ n) (hn : n < MM) (h : ck b n s = 0) : Calls Try.prog 79 #[dc b n s] w fun e w' => e = .returned (.int .i64 0) ∧ Mo w w' := by
  have := rcheck_n b n s w hn0 hn
  rw [h] at this
  exact this
theorem rcheck_no (b : Bool) (n s : Int) (w : World) (hn0 : 0 ≤ n) (hn : n < MM) (h : ck b n s ≠ 0) : Calls Try.prog 79 #[dc b n s] w fun e w' => e = .returned (.int .i64 20) ∧ Mo w w' := by
  have := rcheck_n b n s w hn0 hn
  rw [ck_20 h] at this
  exact this
set_option maxHeartbeats 4000000 in
theorem rboth_ok (b : Bool) (n s : Int) (c : Bool) (m t : Int) (w : World) (hn0 : 0 ≤ n) (hn : n < MM) (hm0 : 0 ≤ m) (hm : m < MM) (h1 : ck b n s = 0) (h2 : ck c m t = 0) :
    Calls Try.prog 67 #[dc b n s, dc c m t] w fun e w' => e = .returned (.int .i64 0) ∧ Mo w w' := by
  go_enter Try.func67, Try.ntmps67
  go_wp2_with fail
  refine (rcheck_ok b n s _ hn0 hn h1).mono ?_
  rintro e w1 ⟨rfl, hm1⟩
  have mz : Mo w w1 := Mo.trans (by repeat (first | with_reducible exact Mo.refl _ | with_reducible apply Mo.drew | with_reducible apply Mo.alloc)) hm1
  have M := mz
  have Qa : AtD w1 (w.heap.size) b n s := AtD.mo ⟨by simp [go_sem], fun o => by simp [go_sem], by simp <;> omega⟩ hm1
  have Qb : AtD w1 (w.heap.size + 1) c m t := AtD.mo ⟨by simp [go_sem], fun o => by simp [go_sem], by simp <;> omega⟩ hm1
  clear hm1 mz
  have Oa := Qa
  obtain ⟨⟨ca0, ca1, ca2, ca3, ca4, ca5⟩, fa, sa⟩ := Oa
  have fa := fun o => fa o
  have sxa : w.heap.size < w1.heap.size + 1 := by omega
  have sya : w.heap.size < w1.heap.size + 1 + 1 := by omega
  have Ob := Qb
  obtain ⟨⟨cb0, cb1, cb2, cb3, cb4, cb5⟩, fb, sb⟩ := Ob
  have fb := fun o => fb o
  have sxb : w.heap.size + 1 < w1.heap.size + 1 := by omega
  have syb : w.heap.size + 1 < w1.heap.size + 1 + 1 := by omega
  go_wp2_with fail
  refine (rcheck_ok c m t _ hm0 hm h2).mono ?_
  rintro e w2 ⟨rfl, hm2⟩
  have mz : Mo w1 w2 := Mo.trans (by repeat (first | with_reducible exact Mo.refl _ | with_reducible apply Mo.drew | with_reducible apply Mo.alloc)) hm2
  clear ca0 ca1 ca2 ca3 ca4 ca5 fa sa sxa sya cb0 cb1 cb2 cb3 cb4 cb5 fb sb sxb syb
  have Qa := Qa.mo mz
  have Qb := Qb.mo mz
  have M := M.trans mz
  clear hm2 mz
  have Oa := Qa
  obtain ⟨⟨ca0, ca1, ca2, ca3, ca4, ca5⟩, fa, sa⟩ := Oa
  have fa := fun o => fa o
  have sxa : w.heap.size < w2.heap.size + 1 := by omega
  have sya : w.heap.size < w2.heap.size + 1 + 1 := by omega
  have Ob := Qb
  obtain ⟨⟨cb0, cb1, cb2, cb3, cb4, cb5⟩, fb, sb⟩ := Ob
  have fb := fun o => fb o
  have sxb : w.heap.size + 1 < w2.heap.size + 1 := by omega
  have syb : w.heap.size + 1 < w2.heap.size + 1 + 1 := by omega
  go_wp2
  go_ret
  exact ⟨rfl, M⟩
set_option maxHeartbeats 4000000 in
theorem rboth_no1 (b : Bool) (n s : Int) (c : Bool) (m t : Int) (w : World) (hn0 : 0 ≤ n) (hn : n < MM) (_hm0 : 0 ≤ m) (_hm : m < MM) (h1 : ck b n s ≠ 0)  :
    Calls Try.prog 67 #[dc b n s, dc c m t] w fun e w' => e = .returned (.int .i64 20) ∧ Mo w w' := by
  go_enter Try.func67, Try.ntmps67
  go_wp2_with fail
  refine (rcheck_no b n s _ hn0 hn h1).mono ?_
  rintro e w1 ⟨rfl, hm1⟩
  have mz : Mo w w1 := Mo.trans (by repeat (first | with_reducible exact Mo.refl _ | with_reducible apply Mo.drew | with_reducible apply Mo.alloc)) hm1
  have M := mz
  have Qa : AtD w1 (w.heap.size) b n s := AtD.mo ⟨by simp [go_sem], fun o => by simp [go_sem], by simp <;> omega⟩ hm1
  have Qb : AtD w1 (w.heap.size + 1) c m t := AtD.mo ⟨by simp [go_sem], fun o => by simp [go_sem], by simp <;> omega⟩ hm1
  clear hm1 mz
  have Oa := Qa
  obtain ⟨⟨ca0, ca1, ca2, ca3, ca4, ca5⟩, fa, sa⟩ := Oa
  have fa := fun o => fa o
  have sxa : w.heap.size < w1.heap.size + 1 := by omega
  have sya : w.heap.size < w1.heap.size + 1 + 1 := by omega
  have Ob := Qb
  obtain ⟨⟨cb0, cb1, cb2, cb3, cb4, cb5⟩, fb, sb⟩ := Ob
  have fb := fun o => fb o
  have sxb : w.heap.size + 1 < w1.heap.size + 1 := by omega
  have syb : w.heap.size + 1 < w1.heap.size + 1 + 1 := by omega
  go_wp2
  go_ret
  exact ⟨rfl, M⟩
set_option maxHeartbeats 4000000 in
theorem rboth_no2 (b : Bool) (n s : Int) (c : Bool) (m t : Int) (w : World) (hn0 : 0 ≤ n) (hn : n < MM) (hm0 : 0 ≤ m) (hm : m < MM) (h1 : ck b n s = 0) (h2 : ck c m t ≠ 0) :
    Calls Try.prog 67 #[dc b n s, dc c m t] w fun e w' => e = .returned (.int .i64 20) ∧ Mo w w' := by
  go_enter Try.func67, Try.ntmps67
  go_wp2_with fail
  refine (rcheck_ok b n s _ hn0 hn h1).mono ?_
  rintro e w1 ⟨rfl, hm1⟩
  have mz : Mo w w1 := Mo.trans (by repeat (first | with_reducible exact Mo.refl _ | with_reducible apply Mo.drew | with_reducible apply Mo.alloc)) hm1
  have M := mz
  have Qa : AtD w1 (w.heap.size) b n s := AtD.mo ⟨by simp [go_sem], fun o => by simp [go_sem], by simp <;> omega⟩ hm1
  have Qb : AtD w1 (w.heap.size + 1) c m t := AtD.mo ⟨by simp [go_sem], fun o => by simp [go_sem], by simp <;> omega⟩ hm1
  clear hm1 mz
  have Oa := Qa
  obtain ⟨⟨ca0, ca1, ca2, ca3, ca4, ca5⟩, fa, sa⟩ := Oa
  have fa := fun o => fa o
  have sxa : w.heap.size < w1.heap.size + 1 := by omega
  have sya : w.heap.size < w1.heap.size + 1 + 1 := by omega
  have Ob := Qb
  obtain ⟨⟨cb0, cb1, cb2, cb3, cb4, cb5⟩, fb, sb⟩ := Ob
  have fb := fun o => fb o
  have sxb : w.heap.size + 1 < w1.heap.size + 1 := by omega
  have syb : w.heap.size + 1 < w1.heap.size + 1 + 1 := by omega
  go_wp2_with fail
  refine (rcheck_no c m t _ hm0 hm h2).mono ?_
  rintro e w2 ⟨rfl, hm2⟩
  have mz : Mo w1 w2 := Mo.trans (by repeat (first | with_reducible exact Mo.refl _ | with_reducible apply Mo.drew | with_reducible apply Mo.alloc)) hm2
  clear ca0 ca1 ca2 ca3 ca4 ca5 fa sa sxa sya cb0 cb1 cb2 cb3 cb4 cb5 fb sb sxb syb
  have Qa := Qa.mo mz
  have Qb := Qb.mo mz
  have M := M.trans mz
  clear hm2 mz
  have Oa := Qa
  obtain ⟨⟨ca0, ca1, ca2, ca3, ca4, ca5⟩, fa, sa⟩ := Oa
  have fa := fun o => fa o
  have sxa : w.heap.size < w2.heap.size + 1 := by omega
  have sya : w.heap.size < w2.heap.size + 1 + 1 := by omega
  have Ob := Qb
  obtain ⟨⟨cb0, cb1, cb2, cb3, cb4, cb5⟩, fb, sb⟩ := Ob
  have fb := fun o => fb o
  have sxb : w.heap.size + 1 < w2.heap.size + 1 := by omega
  have syb : w.heap.size + 1 < w2.heap.size + 1 + 1 := by omega
  go_wp2
  go_ret
  exact ⟨rfl, M⟩
theorem rboth_no (b : Bool) (n s : Int) (c : Bool) (m t : Int) (w : World) (hn0 : 0 ≤ n) (hn : n < MM) (hm0 : 0 ≤ m) (hm : m < MM) (h : ¬ (ck b n s = 0 ∧ ck c m t = 0)) :
    Calls Try.prog 67 #[dc b n s, dc c m t] w fun e w' => e = .returned (.int .i64 20) ∧ Mo w w' := by
  by_cases h1 : ck b n s = 0
  · exact rboth_no2 b n s c m t w hn0 hn hm0 hm h1 (fun h2 => h ⟨h1, h2⟩)
  · exact rboth_no1 b n s c m t w hn0 hn hm0 hm h1
set_option maxHeartbeats 4000000 in
theorem shift_n (n : Int) (k : Nat) (w : World) (hn0 : 0 ≤ n) (hn : n < MM) (hk : k ≤ 77) :
    Calls Try.prog 68 #[nv n, .int .i64 (k : Int)] w fun e w' => e = .returned (dw (n * 10 ^ k)) ∧ Mo w w' := by
  have t := pow_lt k hk
  have hten : ∀ w, Calls Try.prog 80 #[.int .i64 (k : Int)] w fun e w' => e = .returned (.tuple #[nv (10 ^ k), .bool true]) ∧ Mo w w' := fun w => rten_yes k w hk
  generalize (10 : Int) ^ k = T at *
  go_enter Try.func68, Try.ntmps68
  go_wp2_with fail
  refine (hten _).mono ?_
  rintro e w1 ⟨rfl, hm1⟩
  have mz : Mo w w1 := Mo.trans (by repeat (first | with_reducible exact Mo.refl _ | with_reducible apply Mo.drew | with_reducible apply Mo.alloc)) hm1
  have M := mz
  have Qn : AtN w1 (w.heap.size) n := AtN.mo ⟨by simp [At4, go_sem], fun o => by simp [go_sem], by simp <;> omega⟩ hm1
  have Qr : AtW w1 (w.heap.size + 1) 0 := AtW.mo ⟨by simp [go_sem, zl0, zl1, zl2, zl3], fun o => by simp [go_sem], by simp <;> omega⟩ hm1
  clear hm1 mz
  have On := Qn
  obtain ⟨⟨cn0, cn1, cn2, cn3⟩, fn, sn⟩ := On
  have fn := fun o => fn o
  have sxn : w.heap.size < w1.heap.size + 1 := by omega
  have syn : w.heap.size < w1.heap.size + 1 + 1 := by omega
  have Or := Qr
  obtain ⟨⟨cr0, cr1, cr2, cr3, cr4, cr5, cr6, cr7⟩, fr, sr⟩ := Or
  have fr := fun o => fr o
  have sxr : w.heap.size + 1 < w1.heap.size + 1 := by omega
  have syr : w.heap.size + 1 < w1.heap.size + 1 + 1 := by omega
  go_wp2_with fail
  refine (rmul_n n T _ hn0 hn (by omega) t.2).mono ?_
  rintro e w2 ⟨rfl, hm2⟩
  have mz : Mo w1 w2 := Mo.trans (by repeat (first | with_reducible exact Mo.refl _ | with_reducible apply Mo.drew | with_reducible apply Mo.alloc)) hm2
  have zw1n := sn
  have zw1r := sr
  clear cn0 cn1 cn2 cn3 fn sn sxn syn cr0 cr1 cr2 cr3 cr4 cr5 cr6 cr7 fr sr sxr syr
  have Qn := Qn.mo mz
  have Qr := Qr.mo mz
  have M := M.trans mz
  clear hm2 mz
  have On := Qn
  obtain ⟨⟨cn0, cn1, cn2, cn3⟩, fn, sn⟩ := On
  have fn := fun o => fn o
  have sxn : w.heap.size < w2.heap.size + 1 := by omega
  have syn : w.heap.size < w2.heap.size + 1 + 1 := by omega
  have Or := Qr
  obtain ⟨⟨cr0, cr1, cr2, cr3, cr4, cr5, cr6, cr7⟩, fr, sr⟩ := Or
  have fr := fun o => fr o
  have sxr : w.heap.size + 1 < w2.heap.size + 1 := by omega
  have syr : w.heap.size + 1 < w2.heap.size + 1 + 1 := by omega
  have a : Mo w2 ((((w2).alloc (.cells #[.int .u64 (l0 (n * T / MM)), .int .u64 (l1 (n * T / MM)), .int .u64 (l2 (n * T / MM)), .int .u64 (l3 (n * T / MM))] 38))).alloc (.cells #[.int .u64 (l0 (n * T)), .int .u64 (l1 (n * T)), .int .u64 (l2 (n * T)), .int .u64 (l3 (n * T))] 38)) := by repeat (first | with_reducible exact Mo.refl _ | with_reducible apply Mo.alloc)
  have zW0n := sn
  have zW0r := sr
  clear cn0 cn1 cn2 cn3 fn sn sxn syn cr0 cr1 cr2 cr3 cr4 cr5 cr6 cr7 fr sr sxr syr
  have Qn := Qn.mo a
  have Qr := Qr.mo a
  have M := M.trans a
  have Qh : AtN ((((w2).alloc (.cells #[.int .u64 (l0 (n * T / MM)), .int .u64 (l1 (n * T / MM)), .int .u64 (l2 (n * T / MM)), .int .u64 (l3 (n * T / MM))] 38))).alloc (.cells #[.int .u64 (l0 (n * T)), .int .u64 (l1 (n * T)), .int .u64 (l2 (n * T)), .int .u64 (l3 (n * T))] 38)) (w2.heap.size) (n * T / MM) := ⟨by simp [At4, go_sem], fun o => by simp [go_sem], by simp <;> omega⟩
  have Ql : AtN ((((w2).alloc (.cells #[.int .u64 (l0 (n * T / MM)), .int .u64 (l1 (n * T / MM)), .int .u64 (l2 (n * T / MM)), .int .u64 (l3 (n * T / MM))] 38))).alloc (.cells #[.int .u64 (l0 (n * T)), .int .u64 (l1 (n * T)), .int .u64 (l2 (n * T)), .int .u64 (l3 (n * T))] 38)) (w2.heap.size + 1) (n * T) := ⟨by simp [At4, go_sem], fun o => by simp [go_sem], by simp <;> omega⟩
  clear a
  go_upto_region 3 with fail
  generalize ((((w2).alloc (.cells #[.int .u64 (l0 (n * T / MM)), .int .u64 (l1 (n * T / MM)), .int .u64 (l2 (n * T / MM)), .int .u64 (l3 (n * T / MM))] 38))).alloc (.cells #[.int .u64 (l0 (n * T)), .int .u64 (l1 (n * T)), .int .u64 (l2 (n * T)), .int .u64 (l3 (n * T))] 38)) = W0 at *
  have On := Qn
  obtain ⟨⟨cn0, cn1, cn2, cn3⟩, fn, sn⟩ := On
  have fn := fun o => fn o
  have sxn : w.heap.size < W0.heap.size + 1 := by omega
  have syn : w.heap.size < W0.heap.size + 1 + 1 := by omega
  have Or := Qr
  obtain ⟨⟨cr0, cr1, cr2, cr3, cr4, cr5, cr6, cr7⟩, fr, sr⟩ := Or
  have fr := fun o => fr o
  have sxr : w.heap.size + 1 < W0.heap.size + 1 := by omega
  have syr : w.heap.size + 1 < W0.heap.size + 1 + 1 := by omega
  have Oh := Qh
  obtain ⟨⟨ch0, ch1, ch2, ch3⟩, fh, sh⟩ := Oh
  have fh := fun o => fh o
  have sxh : w2.heap.size < W0.heap.size + 1 := by omega
  have syh : w2.heap.size < W0.heap.size + 1 + 1 := by omega
  have Ol := Ql
  obtain ⟨⟨cl0, cl1, cl2, cl3⟩, fl, sl⟩ := Ol
  have fl := fun o => fl o
  have sxl : w2.heap.size + 1 < W0.heap.size + 1 := by omega
  have syl : w2.heap.size + 1 < W0.heap.size + 1 + 1 := by omega
  go_wp2
  refine bodyPost_ret (v := dw (n * T)) (by simp [results, Try.results68, go_sem, *]) rfl ?_
  refine ⟨rfl, ?_⟩
  repeat (first | with_reducible exact M | with_reducible exact Mo.refl _ | with_reducible apply Mo.drew | with_reducible apply Mo.drewN | with_reducible apply Mo.alloc | with_reducible refine Mo.setCell ?_ (by simp <;> omega) _)
end Go.Proofs.Ythfemlhmnjfjiaa

/-
  Trim, the program's and the document's.
-/
namespace Go.Proofs.Ythfemlhmnjfjiaa
open Go.RowKit
abbrev dcl (b : Bool) (n s : Int) : List Value := [.bool b, .int .u64 (l0 n), .int .u64 (l1 n), .int .u64 (l2 n), .int .u64 (l3 n), .int .i64 s]
abbrev dcr (b : Bool) (n s : Int) : Array Value := #[.bool b, .int .u64 (l0 n), .int .u64 (l1 n), .int .u64 (l2 n), .int .u64 (l3 n), .int .i64 s]
/-- Two new blocks in slots that hold older ones, or nothing. -/
theorem Ds.two {sp : List Sp} {f : Nat → Value} {w : World} (i j : Nat) (h : ∀ q, spNew (spAt sp q) = true → q = i ∨ q = j) (h1 : ∀ k, f i = pt k 0 → k < w.heap.size) (h2 : ∀ k, f j = pt k 0 → k < w.heap.size) (h3 : ∀ k, f i = pt k 0 → f j ≠ pt k 0) : Ds sp f w := by
  refine ⟨fun q hq k hk => ?_, fun q r hq hr hne k hk hk2 => ?_⟩
  · rcases h q hq with rfl | rfl
    · exact h1 k hk
    · exact h2 k hk
  · rcases h q hq with rfl | rfl <;> rcases h r hr with rfl | rfl
    · exact hne rfl
    · exact h3 k hk hk2
    · exact h3 k hk2 hk
    · exact hne rfl
end Go.Proofs.Ythfemlhmnjfjiaa

/-
  The document's cmp of wide numbers, Sign, zero, may: the walks.
-/
namespace Go.Proofs.Ythfemlhmnjfjiaa
open Go.RowKit
theorem rcmp_m (A B : Int) (w : World) : Calls Try.prog 82 #[nv A, nv B] w fun e w' => e = .returned (.int .i64 (cm (A % MM) (B % MM))) ∧ Mo w w' := by
  have h := cmp16_any (l0 A) (l1 A) (l2 A) (l3 A) (l0 B) (l1 B) (l2 B) (l3 B) w (u4_lb A) (u4_lb B)
  rw [vl_nv, vl_nv] at h
  exact h
set_option maxHeartbeats 4000000 in
theorem rcmpw_n (X Y : Int) (w : World) (hX0 : 0 ≤ X) (hX : X < MM * MM) (hY0 : 0 ≤ Y) (hY : Y < MM * MM) :
    Calls Try.prog 69 #[dw X, dw Y] w fun e w' => e = .returned (.int .i64 (cm X Y)) ∧ Mo w w' := by
  have p : (0 : Int) < MM := by decide
  have a1 : X / MM % MM = X / MM := Int.emod_eq_of_lt (Int.ediv_nonneg hX0 (by omega)) (Int.ediv_lt_of_lt_mul p hX)
  have b1 : Y / MM % MM = Y / MM := Int.emod_eq_of_lt (Int.ediv_nonneg hY0 (by omega)) (Int.ediv_lt_of_lt_mul p hY)
  have A1 : Hid _ := a1
  have B1 : Hid _ := b1
  have e : Hid _ := cm_wide (X := X) (Y := Y)
  clear a1 b1 p
  go_enter Try.func69, Try.ntmps69
  go_wp2_with fail
  refine (rcmp_m (X / MM) (Y / MM) _).mono ?_
  rintro e w1 ⟨rfl, hm1⟩
  rw [A1.out, B1.out]
  have mz : Mo w w1 := Mo.trans (by repeat (first | with_reducible exact Mo.refl _ | with_reducible apply Mo.drew | with_reducible apply Mo.alloc)) hm1
  have M := mz
  have Qx : AtW w1 (w.heap.size) X := AtW.mo ⟨by simp [go_sem], fun o => by simp [go_sem], by simp <;> omega⟩ hm1
  have Qy : AtW w1 (w.heap.size + 1) Y := AtW.mo ⟨by simp [go_sem], fun o => by simp [go_sem], by simp <;> omega⟩ hm1
  clear hm1 mz
  have Ox := Qx
  obtain ⟨⟨cx0, cx1, cx2, cx3, cx4, cx5, cx6, cx7⟩, fx, sx⟩ := Ox
  have fx := fun o => fx o
  have sxx : w.heap.size < w1.heap.size + 1 := by omega
  have syx : w.heap.size < w1.heap.size + 1 + 1 := by omega
  have Oy := Qy
  obtain ⟨⟨cy0, cy1, cy2, cy3, cy4, cy5, cy6, cy7⟩, fy, sy⟩ := Oy
  have fy := fun o => fy o
  have sxy : w.heap.size + 1 < w1.heap.size + 1 := by omega
  have syy : w.heap.size + 1 < w1.heap.size + 1 + 1 := by omega
  by_cases hz : cm (X / MM) (Y / MM) = 0
  · have hb : (cm (X / MM) (Y / MM) == 0) = true := by rw [hz]; rfl
    have hb2 : (cm (X / MM) (Y / MM) != 0) = false := by simp [hz]
    have e2 := e.out
    rw [if_pos hz] at e2
    have E2 : Hid _ := e2
    clear e2 hz
    go_wp2_with fail
    refine (rcmp_m X Y _).mono ?_
    rintro e w2 ⟨rfl, hm2⟩
    have mz : Mo w1 w2 := Mo.trans (by repeat (first | with_reducible exact Mo.refl _ | with_reducible apply Mo.drew | with_reducible apply Mo.alloc)) hm2
    have zw1x := sx
    have zw1y := sy
    clear cx0 cx1 cx2 cx3 cx4 cx5 cx6 cx7 fx sx sxx syx cy0 cy1 cy2 cy3 cy4 cy5 cy6 cy7 fy sy sxy syy
    have Qx := Qx.mo mz
    have Qy := Qy.mo mz
    have M := M.trans mz
    clear hm2 mz
    have Ox := Qx
    obtain ⟨⟨cx0, cx1, cx2, cx3, cx4, cx5, cx6, cx7⟩, fx, sx⟩ := Ox
    have fx := fun o => fx o
    have sxx : w.heap.size < w2.heap.size + 1 := by omega
    have syx : w.heap.size < w2.heap.size + 1 + 1 := by omega
    have Oy := Qy
    obtain ⟨⟨cy0, cy1, cy2, cy3, cy4, cy5, cy6, cy7⟩, fy, sy⟩ := Oy
    have fy := fun o => fy o
    have sxy : w.heap.size + 1 < w2.heap.size + 1 := by omega
    have syy : w.heap.size + 1 < w2.heap.size + 1 + 1 := by omega
    go_wp2
    go_ret
    exact ⟨by rw [E2.out]; rfl, M⟩
  · have hb : (cm (X / MM) (Y / MM) == 0) = false := by simp [hz]
    have hb2 : (cm (X / MM) (Y / MM) != 0) = true := by simp [hz]
    have e2 := e.out
    rw [if_neg hz] at e2
    have E2 : Hid _ := e2
    clear e2 hz
    go_wp2
    go_ret
    exact ⟨by rw [E2.out]; rfl, M⟩
end Go.Proofs.Ythfemlhmnjfjiaa

/-
  The document's decimals: at, Neg, Abs, Add, Sub, Cmp.
-/
namespace Go.Proofs.Ythfemlhmnjfjiaa
open Go.RowKit
abbrev dwl (X : Int) : List Value := [.int .u64 (l0 (X / MM)), .int .u64 (l1 (X / MM)), .int .u64 (l2 (X / MM)), .int .u64 (l3 (X / MM)), .int .u64 (l0 X), .int .u64 (l1 X), .int .u64 (l2 X), .int .u64 (l3 X)]
abbrev dwr (X : Int) : Array Value := #[.int .u64 (l0 (X / MM)), .int .u64 (l1 (X / MM)), .int .u64 (l2 (X / MM)), .int .u64 (l3 (X / MM)), .int .u64 (l0 X), .int .u64 (l1 X), .int .u64 (l2 X), .int .u64 (l3 X)]
theorem sub3_run {a b c : Int} (h : a - b = c) (h0 : 0 ≤ c) (h1 : c ≤ 100) (x y : Operand) (w : World) : (do eqGuard .sub 3 x y (.int .i64 a) (.int .i64 b); binOp .sub 3 (.int .i64 a) (.int .i64 b)).run Try.prog w = .ok (.int .i64 c) w := by
  have e : (do eqGuard .sub 3 x y (.int .i64 a) (.int .i64 b); binOp .sub 3 (.int .i64 a) (.int .i64 b)).run Try.prog w = .ok (.int .i64 (IntKind.i64.wrap (a - b))) w := by kernel_rfl
  have hw : IntKind.i64.wrap (a - b) = c := by rw [IntKind.wrap_i64]; omega
  rw [e, hw]
theorem rcmpd_no (b c : Bool) (n m s t : Int) (w : World) (hn0 : 0 ≤ n) (hn : n < MM) (hm0 : 0 ≤ m) (hm : m < MM) (h : ¬ (ck b n s = 0 ∧ ck c m t = 0)) :
    Calls Try.prog 52 #[dc b (n) (s), dc c (m) (t)] w fun e w' => e = .returned (.int .i64 0) ∧ Mo w w' := by
  refine w_enter 56 Try.func52 Try.ntmps52 rfl rfl ?_
  have M : Mo w w := Mo.refl _
  refine w_seq (w_reg ?_)
  refine wl_box 40 (.tmp 0) (dc b (n) (s)) ((dcr b (n) (s))) rfl rfl (fun _ => by kernel_rfl) rfl ?_
  intro k1 w1 hk hz hq Q1
  have N_k1 : w.heap.size ≤ k1 := by have := M.size; omega
  replace M := M.trans hq
  clear hk hz hq
  refine wl_box 40 (.tmp 1) (dc c (m) (t)) ((dcr c (m) (t))) rfl rfl (fun _ => by kernel_rfl) rfl ?_
  intro k2 w2 hk hz hq Q2
  have ne_k1_k2 : k1 ≠ k2 := by have := Q1.lt; omega
  have N_k2 : w.heap.size ≤ k2 := by have := M.size; omega
  replace Q1 := Q1.mo hq
  replace M := M.trans hq
  clear hk hz hq
  refine wl_m (.const (.int .i64 (0))) (.int .i64 (0)) ?_
  refine w_nil (xn_then (w_seq (w_seq (w_reg ?_))))
  refine wl_l 40 (.tmp 2) (pt k1 0) (dc b (n) (s)) (run_row Q1 40 0 6 (dcl b (n) (s)) rfl Try.underlying40 rfl sz40) ?_
  refine wl_l 40 (.tmp 3) (pt k2 0) (dc c (m) (t)) (run_row Q2 40 0 6 (dcl c (m) (t)) rfl Try.underlying40 rfl sz40) ?_
  refine wl_call 67 [(.tmp 8), (.tmp 9)] _ [dc b (n) (s), dc c (m) (t)] (.int .i64 (20)) rfl rfl (fun _ _ => by kernel_rfl) (rboth_no b n s c m t _ hn0 hn hm0 hm h) rfl ?_
  intro w3 hq
  replace Q1 := Q1.mo hq
  replace Q2 := Q2.mo hq
  replace M := M.trans hq
  clear hq
  refine wl_b .neq 25 (.tmp 10) (.const (.int .i64 (0))) (.int .i64 (20)) (.int .i64 (0)) (.bool true) (by kernel_rfl) ?_
  refine w_nil (xn_then (w_condT rfl (w_seq (w_reg ?_))))
  refine wl_m (.const (.int .i64 (0))) (.int .i64 (0)) ?_
  refine w_nil (xn_then (w_ret (xr_then ?_)))
  exact w_ret1 _ (.int .i64 (0)) rfl rfl ⟨rfl, M⟩
theorem rcmpd_tf (n m s t S : Int) (i j : Nat) (w : World) (hn0 : 0 ≤ n) (hn : n < MM) (hm0 : 0 ≤ m) (hm : m < MM) (h1 : ck true n s = 0) (h2 : ck false m t = 0) (hS : max s t = S) (hi : S - s = (i : Int)) (hj : S - t = (j : Int)) (hi7 : i ≤ 18) (hj7 : j ≤ 18) :
    Calls Try.prog 52 #[dc true n s, dc false m t] w fun e' w' => e' = .returned (.int .i64 (-1)) ∧ Mo w w' := by
  refine w_enter 56 Try.func52 Try.ntmps52 rfl rfl ?_
  have M : Mo w w := Mo.refl _
  refine w_seq (w_reg ?_)
  refine wl_box 40 (.tmp 0) (dc true (n) (s)) ((dcr true (n) (s))) rfl rfl (fun _ => by kernel_rfl) rfl ?_
  intro k1 w1 hk hz hq Q1
  have N_k1 : w.heap.size ≤ k1 := by have := M.size; omega
  replace M := M.trans hq
  clear hk hz hq
  refine wl_box 40 (.tmp 1) (dc false (m) (t)) ((dcr false (m) (t))) rfl rfl (fun _ => by kernel_rfl) rfl ?_
  intro k2 w2 hk hz hq Q2
  have ne_k1_k2 : k1 ≠ k2 := by have := Q1.lt; omega
  have N_k2 : w.heap.size ≤ k2 := by have := M.size; omega
  replace Q1 := Q1.mo hq
  replace M := M.trans hq
  clear hk hz hq
  refine wl_m (.const (.int .i64 (0))) (.int .i64 (0)) ?_
  refine w_nil (xn_then (w_seq (w_seq (w_reg ?_))))
  refine wl_l 40 (.tmp 2) (pt k1 0) (dc true (n) (s)) (run_row Q1 40 0 6 (dcl true (n) (s)) rfl Try.underlying40 rfl sz40) ?_
  refine wl_l 40 (.tmp 3) (pt k2 0) (dc false (m) (t)) (run_row Q2 40 0 6 (dcl false (m) (t)) rfl Try.underlying40 rfl sz40) ?_
  refine wl_call 67 [(.tmp 8), (.tmp 9)] _ [dc true (n) (s), dc false (m) (t)] (.int .i64 (0)) rfl rfl (fun _ _ => by kernel_rfl) (rboth_ok true n s false m t _ hn0 hn hm0 hm h1 h2) rfl ?_
  intro w3 hq
  replace Q1 := Q1.mo hq
  replace Q2 := Q2.mo hq
  replace M := M.trans hq
  clear hq
  refine wl_b .neq 25 (.tmp 10) (.const (.int .i64 (0))) (.int .i64 (0)) (.int .i64 (0)) (.bool false) (by kernel_rfl) ?_
  refine w_nil (xn_then (w_condF rfl (w_skip (xn_then (w_seq (w_reg ?_))))))
  refine wl_f 40 2 (.tmp 2) (pt k1 0) (pt k1 5) ?_
  refine wl_l 3 (.tmp 12) (pt k1 5) (.int .i64 (s)) (run_one Q1 3 5 rfl Try.underlying3 rfl) ?_
  refine wl_f 40 2 (.tmp 3) (pt k2 0) (pt k2 5) ?_
  refine wl_l 3 (.tmp 14) (pt k2 5) (.int .i64 (t)) (run_one Q2 3 5 rfl Try.underlying3 rfl) ?_
  refine wl_val (.int .i64 (S)) (by rw [← hS]; exact max_run _ _ _ _ _ rfl rfl _ _ _ _ _ _) rfl ?_
  refine wl_m (.tmp 16) (.int .i64 (S)) ?_
  refine w_nil (xn_then (w_seq (w_reg ?_)))
  refine wl_f 40 1 (.tmp 2) (pt k1 0) (pt k1 1) ?_
  refine wl_l 38 (.tmp 17) (pt k1 1) (.agg #[.int .u64 (l0 (n)), .int .u64 (l1 (n)), .int .u64 (l2 (n)), .int .u64 (l3 (n))]) (run_row Q1 38 1 4 [.int .u64 (l0 (n)), .int .u64 (l1 (n)), .int .u64 (l2 (n)), .int .u64 (l3 (n))] rfl Try.underlying38 rfl sz24) ?_
  refine wl_m (.tmp 5) (.int .i64 (S)) ?_
  refine wl_f 40 2 (.tmp 2) (pt k1 0) (pt k1 5) ?_
  refine wl_l 3 (.tmp 20) (pt k1 5) (.int .i64 (s)) (run_one Q1 3 5 rfl Try.underlying3 rfl) ?_
  refine wl_b .sub 3 (.tmp 19) (.tmp 21) (.int .i64 (S)) (.int .i64 (s)) (.int .i64 ((i : Int))) (sub3_run hi (by omega) (by omega) _ _ _) ?_
  refine wl_call 68 [(.tmp 18), (.tmp 22)] _ [.agg #[.int .u64 (l0 (n)), .int .u64 (l1 (n)), .int .u64 (l2 (n)), .int .u64 (l3 (n))], .int .i64 ((i : Int))] (dw (n * 10 ^ i)) rfl rfl (fun _ _ => by kernel_rfl) (shift_n n i _ hn0 hn (by omega)) rfl ?_
  intro w4 hq
  replace Q1 := Q1.mo hq
  replace Q2 := Q2.mo hq
  replace M := M.trans hq
  clear hq
  refine wl_alloc 118 #[.int .u64 0, .int .u64 0, .int .u64 0, .int .u64 0, .int .u64 0, .int .u64 0, .int .u64 0, .int .u64 0] rfl (fun _ => by kernel_rfl) rfl ?_
  intro k3 w5 hk hz hq Q3
  have ne_k1_k3 : k1 ≠ k3 := by have := Q1.lt; omega
  have ne_k2_k3 : k2 ≠ k3 := by have := Q2.lt; omega
  have N_k3 : w.heap.size ≤ k3 := by have := M.size; omega
  replace Q1 := Q1.mo hq
  replace Q2 := Q2.mo hq
  replace M := M.trans hq
  clear hk hz hq
  refine wl_st 118 (.tmp 6) (.tmp 23) k3 0 (dwr (n * 10 ^ i)) [.int .u64 0, .int .u64 0, .int .u64 0, .int .u64 0, .int .u64 0, .int .u64 0, .int .u64 0, .int .u64 0] (dwl (n * 10 ^ i)) Q3 rfl rfl rfl rfl rfl sz87 rfl rfl rfl ?_
  intro w6 hS Qn
  replace Q3 := Qn
  clear Qn
  replace Q1 := hS.other _ _ ne_k1_k3 Q1
  replace Q2 := hS.other _ _ ne_k2_k3 Q2
  replace M := hS.mo _ N_k3 M
  clear hS
  refine w_nil (xn_then (w_seq (w_reg ?_)))
  refine wl_f 40 1 (.tmp 3) (pt k2 0) (pt k2 1) ?_
  refine wl_l 38 (.tmp 24) (pt k2 1) (.agg #[.int .u64 (l0 (m)), .int .u64 (l1 (m)), .int .u64 (l2 (m)), .int .u64 (l3 (m))]) (run_row Q2 38 1 4 [.int .u64 (l0 (m)), .int .u64 (l1 (m)), .int .u64 (l2 (m)), .int .u64 (l3 (m))] rfl Try.underlying38 rfl sz24) ?_
  refine wl_m (.tmp 5) (.int .i64 (S)) ?_
  refine wl_f 40 2 (.tmp 3) (pt k2 0) (pt k2 5) ?_
  refine wl_l 3 (.tmp 27) (pt k2 5) (.int .i64 (t)) (run_one Q2 3 5 rfl Try.underlying3 rfl) ?_
  refine wl_b .sub 3 (.tmp 26) (.tmp 28) (.int .i64 (S)) (.int .i64 (t)) (.int .i64 ((j : Int))) (sub3_run hj (by omega) (by omega) _ _ _) ?_
  refine wl_call 68 [(.tmp 25), (.tmp 29)] _ [.agg #[.int .u64 (l0 (m)), .int .u64 (l1 (m)), .int .u64 (l2 (m)), .int .u64 (l3 (m))], .int .i64 ((j : Int))] (dw (m * 10 ^ j)) rfl rfl (fun _ _ => by kernel_rfl) (shift_n m j _ hm0 hm (by omega)) rfl ?_
  intro w7 hq
  replace Q1 := Q1.mo hq
  replace Q2 := Q2.mo hq
  replace Q3 := Q3.mo hq
  replace M := M.trans hq
  clear hq
  refine wl_alloc 118 #[.int .u64 0, .int .u64 0, .int .u64 0, .int .u64 0, .int .u64 0, .int .u64 0, .int .u64 0, .int .u64 0] rfl (fun _ => by kernel_rfl) rfl ?_
  intro k4 w8 hk hz hq Q4
  have ne_k1_k4 : k1 ≠ k4 := by have := Q1.lt; omega
  have ne_k2_k4 : k2 ≠ k4 := by have := Q2.lt; omega
  have ne_k3_k4 : k3 ≠ k4 := by have := Q3.lt; omega
  have N_k4 : w.heap.size ≤ k4 := by have := M.size; omega
  replace Q1 := Q1.mo hq
  replace Q2 := Q2.mo hq
  replace Q3 := Q3.mo hq
  replace M := M.trans hq
  clear hk hz hq
  refine wl_st 118 (.tmp 7) (.tmp 30) k4 0 (dwr (m * 10 ^ j)) [.int .u64 0, .int .u64 0, .int .u64 0, .int .u64 0, .int .u64 0, .int .u64 0, .int .u64 0, .int .u64 0] (dwl (m * 10 ^ j)) Q4 rfl rfl rfl rfl rfl sz87 rfl rfl rfl ?_
  intro w9 hS Qn
  replace Q4 := Qn
  clear Qn
  replace Q1 := hS.other _ _ ne_k1_k4 Q1
  replace Q2 := hS.other _ _ ne_k2_k4 Q2
  replace Q3 := hS.other _ _ ne_k3_k4 Q3
  replace M := hS.mo _ N_k4 M
  clear hS
  refine w_nil (xn_then (w_seq (w_block (w_seq (w_reg ?_)))))
  refine wl_f 40 0 (.tmp 2) (pt k1 0) (pt k1 0) ?_
  refine wl_l 4 (.tmp 32) (pt k1 0) (.bool true) (run_one Q1 4 0 rfl Try.underlying4 rfl) ?_
  refine wl_m (.tmp 33) (.bool true) ?_
  refine wl_f 40 0 (.tmp 3) (pt k2 0) (pt k2 0) ?_
  refine wl_l 4 (.tmp 35) (pt k2 0) (.bool false) (run_one Q2 4 0 rfl Try.underlying4 rfl) ?_
  refine wl_un (fun v => Op.unary .not v) (.tmp 36) (.bool false) (.bool true) (fun _ => rfl) rfl (by kernel_rfl) rfl ?_
  refine wl_pick (.tmp 34) (.tmp 37) (.const (.bool false)) true (.bool true) (fun _ => rfl) rfl rfl rfl ?_
  refine wl_m (.tmp 38) (.bool true) ?_
  refine w_nil (xn_then (w_condT rfl (w_seq (w_reg ?_))))
  refine wl_m (.const (.int .i64 (-1))) (.int .i64 (-1)) ?_
  refine w_nil (xn_then (w_ret (xr_blk (xr_then ?_))))
  exact w_ret1 _ (.int .i64 (-1)) rfl rfl ⟨rfl, M⟩
theorem rcmpd_ft (n m s t S : Int) (i j : Nat) (w : World) (hn0 : 0 ≤ n) (hn : n < MM) (hm0 : 0 ≤ m) (hm : m < MM) (h1 : ck false n s = 0) (h2 : ck true m t = 0) (hS : max s t = S) (hi : S - s = (i : Int)) (hj : S - t = (j : Int)) (hi7 : i ≤ 18) (hj7 : j ≤ 18) :
    Calls Try.prog 52 #[dc false n s, dc true m t] w fun e' w' => e' = .returned (.int .i64 (1)) ∧ Mo w w' := by
  refine w_enter 56 Try.func52 Try.ntmps52 rfl rfl ?_
  have M : Mo w w := Mo.refl _
  refine w_seq (w_reg ?_)
  refine wl_box 40 (.tmp 0) (dc false (n) (s)) ((dcr false (n) (s))) rfl rfl (fun _ => by kernel_rfl) rfl ?_
  intro k1 w1 hk hz hq Q1
  have N_k1 : w.heap.size ≤ k1 := by have := M.size; omega
  replace M := M.trans hq
  clear hk hz hq
  refine wl_box 40 (.tmp 1) (dc true (m) (t)) ((dcr true (m) (t))) rfl rfl (fun _ => by kernel_rfl) rfl ?_
  intro k2 w2 hk hz hq Q2
  have ne_k1_k2 : k1 ≠ k2 := by have := Q1.lt; omega
  have N_k2 : w.heap.size ≤ k2 := by have := M.size; omega
  replace Q1 := Q1.mo hq
  replace M := M.trans hq
  clear hk hz hq
  refine wl_m (.const (.int .i64 (0))) (.int .i64 (0)) ?_
  refine w_nil (xn_then (w_seq (w_seq (w_reg ?_))))
  refine wl_l 40 (.tmp 2) (pt k1 0) (dc false (n) (s)) (run_row Q1 40 0 6 (dcl false (n) (s)) rfl Try.underlying40 rfl sz40) ?_
  refine wl_l 40 (.tmp 3) (pt k2 0) (dc true (m) (t)) (run_row Q2 40 0 6 (dcl true (m) (t)) rfl Try.underlying40 rfl sz40) ?_
  refine wl_call 67 [(.tmp 8), (.tmp 9)] _ [dc false (n) (s), dc true (m) (t)] (.int .i64 (0)) rfl rfl (fun _ _ => by kernel_rfl) (rboth_ok false n s true m t _ hn0 hn hm0 hm h1 h2) rfl ?_
  intro w3 hq
  replace Q1 := Q1.mo hq
  replace Q2 := Q2.mo hq
  replace M := M.trans hq
  clear hq
  refine wl_b .neq 25 (.tmp 10) (.const (.int .i64 (0))) (.int .i64 (0)) (.int .i64 (0)) (.bool false) (by kernel_rfl) ?_
  refine w_nil (xn_then (w_condF rfl (w_skip (xn_then (w_seq (w_reg ?_))))))
  refine wl_f 40 2 (.tmp 2) (pt k1 0) (pt k1 5) ?_
  refine wl_l 3 (.tmp 12) (pt k1 5) (.int .i64 (s)) (run_one Q1 3 5 rfl Try.underlying3 rfl) ?_
  refine wl_f 40 2 (.tmp 3) (pt k2 0) (pt k2 5) ?_
  refine wl_l 3 (.tmp 14) (pt k2 5) (.int .i64 (t)) (run_one Q2 3 5 rfl Try.underlying3 rfl) ?_
  refine wl_val (.int .i64 (S)) (by rw [← hS]; exact max_run _ _ _ _ _ rfl rfl _ _ _ _ _ _) rfl ?_
  refine wl_m (.tmp 16) (.int .i64 (S)) ?_
  refine w_nil (xn_then (w_seq (w_reg ?_)))
  refine wl_f 40 1 (.tmp 2) (pt k1 0) (pt k1 1) ?_
  refine wl_l 38 (.tmp 17) (pt k1 1) (.agg #[.int .u64 (l0 (n)), .int .u64 (l1 (n)), .int .u64 (l2 (n)), .int .u64 (l3 (n))]) (run_row Q1 38 1 4 [.int .u64 (l0 (n)), .int .u64 (l1 (n)), .int .u64 (l2 (n)), .int .u64 (l3 (n))] rfl Try.underlying38 rfl sz24) ?_
  refine wl_m (.tmp 5) (.int .i64 (S)) ?_
  refine wl_f 40 2 (.tmp 2) (pt k1 0) (pt k1 5) ?_
  refine wl_l 3 (.tmp 20) (pt k1 5) (.int .i64 (s)) (run_one Q1 3 5 rfl Try.underlying3 rfl) ?_
  refine wl_b .sub 3 (.tmp 19) (.tmp 21) (.int .i64 (S)) (.int .i64 (s)) (.int .i64 ((i : Int))) (sub3_run hi (by omega) (by omega) _ _ _) ?_
  refine wl_call 68 [(.tmp 18), (.tmp 22)] _ [.agg #[.int .u64 (l0 (n)), .int .u64 (l1 (n)), .int .u64 (l2 (n)), .int .u64 (l3 (n))], .int .i64 ((i : Int))] (dw (n * 10 ^ i)) rfl rfl (fun _ _ => by kernel_rfl) (shift_n n i _ hn0 hn (by omega)) rfl ?_
  intro w4 hq
  replace Q1 := Q1.mo hq
  replace Q2 := Q2.mo hq
  replace M := M.trans hq
  clear hq
  refine wl_alloc 118 #[.int .u64 0, .int .u64 0, .int .u64 0, .int .u64 0, .int .u64 0, .int .u64 0, .int .u64 0, .int .u64 0] rfl (fun _ => by kernel_rfl) rfl ?_
  intro k3 w5 hk hz hq Q3
  have ne_k1_k3 : k1 ≠ k3 := by have := Q1.lt; omega
  have ne_k2_k3 : k2 ≠ k3 := by have := Q2.lt; omega
  have N_k3 : w.heap.size ≤ k3 := by have := M.size; omega
  replace Q1 := Q1.mo hq
  replace Q2 := Q2.mo hq
  replace M := M.trans hq
  clear hk hz hq
  refine wl_st 118 (.tmp 6) (.tmp 23) k3 0 (dwr (n * 10 ^ i)) [.int .u64 0, .int .u64 0, .int .u64 0, .int .u64 0, .int .u64 0, .int .u64 0, .int .u64 0, .int .u64 0] (dwl (n * 10 ^ i)) Q3 rfl rfl rfl rfl rfl sz87 rfl rfl rfl ?_
  intro w6 hS Qn
  replace Q3 := Qn
  clear Qn
  replace Q1 := hS.other _ _ ne_k1_k3 Q1
  replace Q2 := hS.other _ _ ne_k2_k3 Q2
  replace M := hS.mo _ N_k3 M
  clear hS
  refine w_nil (xn_then (w_seq (w_reg ?_)))
  refine wl_f 40 1 (.tmp 3) (pt k2 0) (pt k2 1) ?_
  refine wl_l 38 (.tmp 24) (pt k2 1) (.agg #[.int .u64 (l0 (m)), .int .u64 (l1 (m)), .int .u64 (l2 (m)), .int .u64 (l3 (m))]) (run_row Q2 38 1 4 [.int .u64 (l0 (m)), .int .u64 (l1 (m)), .int .u64 (l2 (m)), .int .u64 (l3 (m))] rfl Try.underlying38 rfl sz24) ?_
  refine wl_m (.tmp 5) (.int .i64 (S)) ?_
  refine wl_f 40 2 (.tmp 3) (pt k2 0) (pt k2 5) ?_
  refine wl_l 3 (.tmp 27) (pt k2 5) (.int .i64 (t)) (run_one Q2 3 5 rfl Try.underlying3 rfl) ?_
  refine wl_b .sub 3 (.tmp 26) (.tmp 28) (.int .i64 (S)) (.int .i64 (t)) (.int .i64 ((j : Int))) (sub3_run hj (by omega) (by omega) _ _ _) ?_
  refine wl_call 68 [(.tmp 25), (.tmp 29)] _ [.agg #[.int .u64 (l0 (m)), .int .u64 (l1 (m)), .int .u64 (l2 (m)), .int .u64 (l3 (m))], .int .i64 ((j : Int))] (dw (m * 10 ^ j)) rfl rfl (fun _ _ => by kernel_rfl) (shift_n m j _ hm0 hm (by omega)) rfl ?_
  intro w7 hq
  replace Q1 := Q1.mo hq
  replace Q2 := Q2.mo hq
  replace Q3 := Q3.mo hq
  replace M := M.trans hq
  clear hq
  refine wl_alloc 118 #[.int .u64 0, .int .u64 0, .int .u64 0, .int .u64 0, .int .u64 0, .int .u64 0, .int .u64 0, .int .u64 0] rfl (fun _ => by kernel_rfl) rfl ?_
  intro k4 w8 hk hz hq Q4
  have ne_k1_k4 : k1 ≠ k4 := by have := Q1.lt; omega
  have ne_k2_k4 : k2 ≠ k4 := by have := Q2.lt; omega
  have ne_k3_k4 : k3 ≠ k4 := by have := Q3.lt; omega
  have N_k4 : w.heap.size ≤ k4 := by have := M.size; omega
  replace Q1 := Q1.mo hq
  replace Q2 := Q2.mo hq
  replace Q3 := Q3.mo hq
  replace M := M.trans hq
  clear hk hz hq
  refine wl_st 118 (.tmp 7) (.tmp 30) k4 0 (dwr (m * 10 ^ j)) [.int .u64 0, .int .u64 0, .int .u64 0, .int .u64 0, .int .u64 0, .int .u64 0, .int .u64 0, .int .u64 0] (dwl (m * 10 ^ j)) Q4 rfl rfl rfl rfl rfl sz87 rfl rfl rfl ?_
  intro w9 hS Qn
  replace Q4 := Qn
  clear Qn
  replace Q1 := hS.other _ _ ne_k1_k4 Q1
  replace Q2 := hS.other _ _ ne_k2_k4 Q2
  replace Q3 := hS.other _ _ ne_k3_k4 Q3
  replace M := hS.mo _ N_k4 M
  clear hS
  refine w_nil (xn_then (w_seq (w_block (w_seq (w_reg ?_)))))
  refine wl_f 40 0 (.tmp 2) (pt k1 0) (pt k1 0) ?_
  refine wl_l 4 (.tmp 32) (pt k1 0) (.bool false) (run_one Q1 4 0 rfl Try.underlying4 rfl) ?_
  refine wl_m (.tmp 33) (.bool false) ?_
  refine wl_skip rfl (wl_skip rfl (wl_skip rfl ?_))
  refine wl_pick (.tmp 34) (.tmp 37) (.const (.bool false)) false (.bool false) (fun _ => rfl) rfl rfl rfl ?_
  refine wl_m (.tmp 38) (.bool false) ?_
  refine w_nil (xn_then (w_condF rfl (w_seq (w_reg ?_))))
  refine wl_f 40 0 (.tmp 2) (pt k1 0) (pt k1 0) ?_
  refine wl_l 4 (.tmp 40) (pt k1 0) (.bool false) (run_one Q1 4 0 rfl Try.underlying4 rfl) ?_
  refine wl_un (fun v => Op.unary .not v) (.tmp 41) (.bool false) (.bool true) (fun _ => rfl) rfl (by kernel_rfl) rfl ?_
  refine wl_m (.tmp 42) (.bool true) ?_
  refine wl_f 40 0 (.tmp 3) (pt k2 0) (pt k2 0) ?_
  refine wl_l 4 (.tmp 44) (pt k2 0) (.bool true) (run_one Q2 4 0 rfl Try.underlying4 rfl) ?_
  refine wl_pick (.tmp 43) (.tmp 45) (.const (.bool false)) true (.bool true) (fun _ => rfl) rfl rfl rfl ?_
  refine wl_m (.tmp 46) (.bool true) ?_
  refine w_nil (xn_then (w_condT rfl (w_seq (w_reg ?_))))
  refine wl_m (.const (.int .i64 (1))) (.int .i64 (1)) ?_
  refine w_nil (xn_then (w_ret (xr_blk (xr_then ?_))))
  exact w_ret1 _ (.int .i64 (1)) rfl rfl ⟨rfl, M⟩
theorem rcmpd_tt (n m s t S : Int) (i j : Nat) (w : World) (hn0 : 0 ≤ n) (hn : n < MM) (hm0 : 0 ≤ m) (hm : m < MM) (h1 : ck true n s = 0) (h2 : ck true m t = 0) (hS : max s t = S) (hi : S - s = (i : Int)) (hj : S - t = (j : Int)) (hi7 : i ≤ 18) (hj7 : j ≤ 18) :
    Calls Try.prog 52 #[dc true n s, dc true m t] w fun e' w' => e' = .returned (.int .i64 (cm (m * 10 ^ j) (n * 10 ^ i))) ∧ Mo w w' := by
  have bX := lifted_bd hn0 hn (i := i) (by omega)
  have bY := lifted_bd hm0 hm (i := j) (by omega)
  refine w_enter 56 Try.func52 Try.ntmps52 rfl rfl ?_
  have M : Mo w w := Mo.refl _
  refine w_seq (w_reg ?_)
  refine wl_box 40 (.tmp 0) (dc true (n) (s)) ((dcr true (n) (s))) rfl rfl (fun _ => by kernel_rfl) rfl ?_
  intro k1 w1 hk hz hq Q1
  have N_k1 : w.heap.size ≤ k1 := by have := M.size; omega
  replace M := M.trans hq
  clear hk hz hq
  refine wl_box 40 (.tmp 1) (dc true (m) (t)) ((dcr true (m) (t))) rfl rfl (fun _ => by kernel_rfl) rfl ?_
  intro k2 w2 hk hz hq Q2
  have ne_k1_k2 : k1 ≠ k2 := by have := Q1.lt; omega
  have N_k2 : w.heap.size ≤ k2 := by have := M.size; omega
  replace Q1 := Q1.mo hq
  replace M := M.trans hq
  clear hk hz hq
  refine wl_m (.const (.int .i64 (0))) (.int .i64 (0)) ?_
  refine w_nil (xn_then (w_seq (w_seq (w_reg ?_))))
  refine wl_l 40 (.tmp 2) (pt k1 0) (dc true (n) (s)) (run_row Q1 40 0 6 (dcl true (n) (s)) rfl Try.underlying40 rfl sz40) ?_
  refine wl_l 40 (.tmp 3) (pt k2 0) (dc true (m) (t)) (run_row Q2 40 0 6 (dcl true (m) (t)) rfl Try.underlying40 rfl sz40) ?_
  refine wl_call 67 [(.tmp 8), (.tmp 9)] _ [dc true (n) (s), dc true (m) (t)] (.int .i64 (0)) rfl rfl (fun _ _ => by kernel_rfl) (rboth_ok true n s true m t _ hn0 hn hm0 hm h1 h2) rfl ?_
  intro w3 hq
  replace Q1 := Q1.mo hq
  replace Q2 := Q2.mo hq
  replace M := M.trans hq
  clear hq
  refine wl_b .neq 25 (.tmp 10) (.const (.int .i64 (0))) (.int .i64 (0)) (.int .i64 (0)) (.bool false) (by kernel_rfl) ?_
  refine w_nil (xn_then (w_condF rfl (w_skip (xn_then (w_seq (w_reg ?_))))))
  refine wl_f 40 2 (.tmp 2) (pt k1 0) (pt k1 5) ?_
  refine wl_l 3 (.tmp 12) (pt k1 5) (.int .i64 (s)) (run_one Q1 3 5 rfl Try.underlying3 rfl) ?_
  refine wl_f 40 2 (.tmp 3) (pt k2 0) (pt k2 5) ?_
  refine wl_l 3 (.tmp 14) (pt k2 5) (.int .i64 (t)) (run_one Q2 3 5 rfl Try.underlying3 rfl) ?_
  refine wl_val (.int .i64 (S)) (by rw [← hS]; exact max_run _ _ _ _ _ rfl rfl _ _ _ _ _ _) rfl ?_
  refine wl_m (.tmp 16) (.int .i64 (S)) ?_
  refine w_nil (xn_then (w_seq (w_reg ?_)))
  refine wl_f 40 1 (.tmp 2) (pt k1 0) (pt k1 1) ?_
  refine wl_l 38 (.tmp 17) (pt k1 1) (.agg #[.int .u64 (l0 (n)), .int .u64 (l1 (n)), .int .u64 (l2 (n)), .int .u64 (l3 (n))]) (run_row Q1 38 1 4 [.int .u64 (l0 (n)), .int .u64 (l1 (n)), .int .u64 (l2 (n)), .int .u64 (l3 (n))] rfl Try.underlying38 rfl sz24) ?_
  refine wl_m (.tmp 5) (.int .i64 (S)) ?_
  refine wl_f 40 2 (.tmp 2) (pt k1 0) (pt k1 5) ?_
  refine wl_l 3 (.tmp 20) (pt k1 5) (.int .i64 (s)) (run_one Q1 3 5 rfl Try.underlying3 rfl) ?_
  refine wl_b .sub 3 (.tmp 19) (.tmp 21) (.int .i64 (S)) (.int .i64 (s)) (.int .i64 ((i : Int))) (sub3_run hi (by omega) (by omega) _ _ _) ?_
  refine wl_call 68 [(.tmp 18), (.tmp 22)] _ [.agg #[.int .u64 (l0 (n)), .int .u64 (l1 (n)), .int .u64 (l2 (n)), .int .u64 (l3 (n))], .int .i64 ((i : Int))] (dw (n * 10 ^ i)) rfl rfl (fun _ _ => by kernel_rfl) (shift_n n i _ hn0 hn (by omega)) rfl ?_
  intro w4 hq
  replace Q1 := Q1.mo hq
  replace Q2 := Q2.mo hq
  replace M := M.trans hq
  clear hq
  refine wl_alloc 118 #[.int .u64 0, .int .u64 0, .int .u64 0, .int .u64 0, .int .u64 0, .int .u64 0, .int .u64 0, .int .u64 0] rfl (fun _ => by kernel_rfl) rfl ?_
  intro k3 w5 hk hz hq Q3
  have ne_k1_k3 : k1 ≠ k3 := by have := Q1.lt; omega
  have ne_k2_k3 : k2 ≠ k3 := by have := Q2.lt; omega
  have N_k3 : w.heap.size ≤ k3 := by have := M.size; omega
  replace Q1 := Q1.mo hq
  replace Q2 := Q2.mo hq
  replace M := M.trans hq
  clear hk hz hq
  refine wl_st 118 (.tmp 6) (.tmp 23) k3 0 (dwr (n * 10 ^ i)) [.int .u64 0, .int .u64 0, .int .u64 0, .int .u64 0, .int .u64 0, .int .u64 0, .int .u64 0, .int .u64 0] (dwl (n * 10 ^ i)) Q3 rfl rfl rfl rfl rfl sz87 rfl rfl rfl ?_
  intro w6 hS Qn
  replace Q3 := Qn
  clear Qn
  replace Q1 := hS.other _ _ ne_k1_k3 Q1
  replace Q2 := hS.other _ _ ne_k2_k3 Q2
  replace M := hS.mo _ N_k3 M
  clear hS
  refine w_nil (xn_then (w_seq (w_reg ?_)))
  refine wl_f 40 1 (.tmp 3) (pt k2 0) (pt k2 1) ?_
  refine wl_l 38 (.tmp 24) (pt k2 1) (.agg #[.int .u64 (l0 (m)), .int .u64 (l1 (m)), .int .u64 (l2 (m)), .int .u64 (l3 (m))]) (run_row Q2 38 1 4 [.int .u64 (l0 (m)), .int .u64 (l1 (m)), .int .u64 (l2 (m)), .int .u64 (l3 (m))] rfl Try.underlying38 rfl sz24) ?_
  refine wl_m (.tmp 5) (.int .i64 (S)) ?_
  refine wl_f 40 2 (.tmp 3) (pt k2 0) (pt k2 5) ?_
  refine wl_l 3 (.tmp 27) (pt k2 5) (.int .i64 (t)) (run_one Q2 3 5 rfl Try.underlying3 rfl) ?_
  refine wl_b .sub 3 (.tmp 26) (.tmp 28) (.int .i64 (S)) (.int .i64 (t)) (.int .i64 ((j : Int))) (sub3_run hj (by omega) (by omega) _ _ _) ?_
  refine wl_call 68 [(.tmp 25), (.tmp 29)] _ [.agg #[.int .u64 (l0 (m)), .int .u64 (l1 (m)), .int .u64 (l2 (m)), .int .u64 (l3 (m))], .int .i64 ((j : Int))] (dw (m * 10 ^ j)) rfl rfl (fun _ _ => by kernel_rfl) (shift_n m j _ hm0 hm (by omega)) rfl ?_
  intro w7 hq
  replace Q1 := Q1.mo hq
  replace Q2 := Q2.mo hq
  replace Q3 := Q3.mo hq
  replace M := M.trans hq
  clear hq
  refine wl_alloc 118 #[.int .u64 0, .int .u64 0, .int .u64 0, .int .u64 0, .int .u64 0, .int .u64 0, .int .u64 0, .int .u64 0] rfl (fun _ => by kernel_rfl) rfl ?_
  intro k4 w8 hk hz hq Q4
  have ne_k1_k4 : k1 ≠ k4 := by have := Q1.lt; omega
  have ne_k2_k4 : k2 ≠ k4 := by have := Q2.lt; omega
  have ne_k3_k4 : k3 ≠ k4 := by have := Q3.lt; omega
  have N_k4 : w.heap.size ≤ k4 := by have := M.size; omega
  replace Q1 := Q1.mo hq
  replace Q2 := Q2.mo hq
  replace Q3 := Q3.mo hq
  replace M := M.trans hq
  clear hk hz hq
  refine wl_st 118 (.tmp 7) (.tmp 30) k4 0 (dwr (m * 10 ^ j)) [.int .u64 0, .int .u64 0, .int .u64 0, .int .u64 0, .int .u64 0, .int .u64 0, .int .u64 0, .int .u64 0] (dwl (m * 10 ^ j)) Q4 rfl rfl rfl rfl rfl sz87 rfl rfl rfl ?_
  intro w9 hS Qn
  replace Q4 := Qn
  clear Qn
  replace Q1 := hS.other _ _ ne_k1_k4 Q1
  replace Q2 := hS.other _ _ ne_k2_k4 Q2
  replace Q3 := hS.other _ _ ne_k3_k4 Q3
  replace M := hS.mo _ N_k4 M
  clear hS
  refine w_nil (xn_then (w_seq (w_block (w_seq (w_reg ?_)))))
  refine wl_f 40 0 (.tmp 2) (pt k1 0) (pt k1 0) ?_
  refine wl_l 4 (.tmp 32) (pt k1 0) (.bool true) (run_one Q1 4 0 rfl Try.underlying4 rfl) ?_
  refine wl_m (.tmp 33) (.bool true) ?_
  refine wl_f 40 0 (.tmp 3) (pt k2 0) (pt k2 0) ?_
  refine wl_l 4 (.tmp 35) (pt k2 0) (.bool true) (run_one Q2 4 0 rfl Try.underlying4 rfl) ?_
  refine wl_un (fun v => Op.unary .not v) (.tmp 36) (.bool true) (.bool false) (fun _ => rfl) rfl (by kernel_rfl) rfl ?_
  refine wl_pick (.tmp 34) (.tmp 37) (.const (.bool false)) true (.bool false) (fun _ => rfl) rfl rfl rfl ?_
  refine wl_m (.tmp 38) (.bool false) ?_
  refine w_nil (xn_then (w_condF rfl (w_seq (w_reg ?_))))
  refine wl_f 40 0 (.tmp 2) (pt k1 0) (pt k1 0) ?_
  refine wl_l 4 (.tmp 40) (pt k1 0) (.bool true) (run_one Q1 4 0 rfl Try.underlying4 rfl) ?_
  refine wl_un (fun v => Op.unary .not v) (.tmp 41) (.bool true) (.bool false) (fun _ => rfl) rfl (by kernel_rfl) rfl ?_
  refine wl_m (.tmp 42) (.bool false) ?_
  refine wl_skip rfl (wl_skip rfl ?_)
  refine wl_pick (.tmp 43) (.tmp 45) (.const (.bool false)) false (.bool false) (fun _ => rfl) rfl rfl rfl ?_
  refine wl_m (.tmp 46) (.bool false) ?_
  refine w_nil (xn_then (w_condF rfl (w_seq (w_reg ?_))))
  refine wl_f 40 0 (.tmp 2) (pt k1 0) (pt k1 0) ?_
  refine wl_l 4 (.tmp 48) (pt k1 0) (.bool true) (run_one Q1 4 0 rfl Try.underlying4 rfl) ?_
  refine wl_m (.tmp 49) (.bool true) ?_
  refine w_nil (xn_then (w_condT rfl (w_seq (w_reg ?_))))
  refine wl_l 118 (.tmp 7) (pt k4 0) (dw (m * 10 ^ j)) (run_row Q4 118 0 8 (dwl (m * 10 ^ j)) rfl Try.underlying118 rfl sz87) ?_
  refine wl_l 118 (.tmp 6) (pt k3 0) (dw (n * 10 ^ i)) (run_row Q3 118 0 8 (dwl (n * 10 ^ i)) rfl Try.underlying118 rfl sz87) ?_
  refine wl_call 69 [(.tmp 50), (.tmp 51)] _ [dw (m * 10 ^ j), dw (n * 10 ^ i)] (.int .i64 (cm (m * 10 ^ j) (n * 10 ^ i))) rfl rfl (fun _ _ => by kernel_rfl) (rcmpw_n (m * 10 ^ j) (n * 10 ^ i) _ bY.1 bY.2 bX.1 bX.2) rfl ?_
  intro w10 hq
  replace Q1 := Q1.mo hq
  replace Q2 := Q2.mo hq
  replace Q3 := Q3.mo hq
  replace Q4 := Q4.mo hq
  replace M := M.trans hq
  clear hq
  refine wl_m (.tmp 52) (.int .i64 (cm (m * 10 ^ j) (n * 10 ^ i))) ?_
  refine w_nil (xn_then (w_ret (xr_blk (xr_then ?_))))
  exact w_ret1 _ (.int .i64 (cm (m * 10 ^ j) (n * 10 ^ i))) rfl rfl ⟨rfl, M⟩
theorem rcmpd_ff (n m s t S : Int) (i j : Nat) (w : World) (hn0 : 0 ≤ n) (hn : n < MM) (hm0 : 0 ≤ m) (hm : m < MM) (h1 : ck false n s = 0) (h2 : ck false m t = 0) (hS : max s t = S) (hi : S - s = (i : Int)) (hj : S - t = (j : Int)) (hi7 : i ≤ 18) (hj7 : j ≤ 18) :
    Calls Try.prog 52 #[dc false n s, dc false m t] w fun e' w' => e' = .returned (.int .i64 (cm (n * 10 ^ i) (m * 10 ^ j))) ∧ Mo w w' := by
  have bX := lifted_bd hn0 hn (i := i) (by omega)
  have bY := lifted_bd hm0 hm (i := j) (by omega)
  refine w_enter 56 Try.func52 Try.ntmps52 rfl rfl ?_
  have M : Mo w w := Mo.refl _
  refine w_seq (w_reg ?_)
  refine wl_box 40 (.tmp 0) (dc false (n) (s)) ((dcr false (n) (s))) rfl rfl (fun _ => by kernel_rfl) rfl ?_
  intro k1 w1 hk hz hq Q1
  have N_k1 : w.heap.size ≤ k1 := by have := M.size; omega
  replace M := M.trans hq
  clear hk hz hq
  refine wl_box 40 (.tmp 1) (dc false (m) (t)) ((dcr false (m) (t))) rfl rfl (fun _ => by kernel_rfl) rfl ?_
  intro k2 w2 hk hz hq Q2
  have ne_k1_k2 : k1 ≠ k2 := by have := Q1.lt; omega
  have N_k2 : w.heap.size ≤ k2 := by have := M.size; omega
  replace Q1 := Q1.mo hq
  replace M := M.trans hq
  clear hk hz hq
  refine wl_m (.const (.int .i64 (0))) (.int .i64 (0)) ?_
  refine w_nil (xn_then (w_seq (w_seq (w_reg ?_))))
  refine wl_l 40 (.tmp 2) (pt k1 0) (dc false (n) (s)) (run_row Q1 40 0 6 (dcl false (n) (s)) rfl Try.underlying40 rfl sz40) ?_
  refine wl_l 40 (.tmp 3) (pt k2 0) (dc false (m) (t)) (run_row Q2 40 0 6 (dcl false (m) (t)) rfl Try.underlying40 rfl sz40) ?_
  refine wl_call 67 [(.tmp 8), (.tmp 9)] _ [dc false (n) (s), dc false (m) (t)] (.int .i64 (0)) rfl rfl (fun _ _ => by kernel_rfl) (rboth_ok false n s false m t _ hn0 hn hm0 hm h1 h2) rfl ?_
  intro w3 hq
  replace Q1 := Q1.mo hq
  replace Q2 := Q2.mo hq
  replace M := M.trans hq
  clear hq
  refine wl_b .neq 25 (.tmp 10) (.const (.int .i64 (0))) (.int .i64 (0)) (.int .i64 (0)) (.bool false) (by kernel_rfl) ?_
  refine w_nil (xn_then (w_condF rfl (w_skip (xn_then (w_seq (w_reg ?_))))))
  refine wl_f 40 2 (.tmp 2) (pt k1 0) (pt k1 5) ?_
  refine wl_l 3 (.tmp 12) (pt k1 5) (.int .i64 (s)) (run_one Q1 3 5 rfl Try.underlying3 rfl) ?_
  refine wl_f 40 2 (.tmp 3) (pt k2 0) (pt k2 5) ?_
  refine wl_l 3 (.tmp 14) (pt k2 5) (.int .i64 (t)) (run_one Q2 3 5 rfl Try.underlying3 rfl) ?_
  refine wl_val (.int .i64 (S)) (by rw [← hS]; exact max_run _ _ _ _ _ rfl rfl _ _ _ _ _ _) rfl ?_
  refine wl_m (.tmp 16) (.int .i64 (S)) ?_
  refine w_nil (xn_then (w_seq (w_reg ?_)))
  refine wl_f 40 1 (.tmp 2) (pt k1 0) (pt k1 1) ?_
  refine wl_l 38 (.tmp 17) (pt k1 1) (.agg #[.int .u64 (l0 (n)), .int .u64 (l1 (n)), .int .u64 (l2 (n)), .int .u64 (l3 (n))]) (run_row Q1 38 1 4 [.int .u64 (l0 (n)), .int .u64 (l1 (n)), .int .u64 (l2 (n)), .int .u64 (l3 (n))] rfl Try.underlying38 rfl sz24) ?_
  refine wl_m (.tmp 5) (.int .i64 (S)) ?_
  refine wl_f 40 2 (.tmp 2) (pt k1 0) (pt k1 5) ?_
  refine wl_l 3 (.tmp 20) (pt k1 5) (.int .i64 (s)) (run_one Q1 3 5 rfl Try.underlying3 rfl) ?_
  refine wl_b .sub 3 (.tmp 19) (.tmp 21) (.int .i64 (S)) (.int .i64 (s)) (.int .i64 ((i : Int))) (sub3_run hi (by omega) (by omega) _ _ _) ?_
  refine wl_call 68 [(.tmp 18), (.tmp 22)] _ [.agg #[.int .u64 (l0 (n)), .int .u64 (l1 (n)), .int .u64 (l2 (n)), .int .u64 (l3 (n))], .int .i64 ((i : Int))] (dw (n * 10 ^ i)) rfl rfl (fun _ _ => by kernel_rfl) (shift_n n i _ hn0 hn (by omega)) rfl ?_
  intro w4 hq
  replace Q1 := Q1.mo hq
  replace Q2 := Q2.mo hq
  replace M := M.trans hq
  clear hq
  refine wl_alloc 118 #[.int .u64 0, .int .u64 0, .int .u64 0, .int .u64 0, .int .u64 0, .int .u64 0, .int .u64 0, .int .u64 0] rfl (fun _ => by kernel_rfl) rfl ?_
  intro k3 w5 hk hz hq Q3
  have ne_k1_k3 : k1 ≠ k3 := by have := Q1.lt; omega
  have ne_k2_k3 : k2 ≠ k3 := by have := Q2.lt; omega
  have N_k3 : w.heap.size ≤ k3 := by have := M.size; omega
  replace Q1 := Q1.mo hq
  replace Q2 := Q2.mo hq
  replace M := M.trans hq
  clear hk hz hq
  refine wl_st 118 (.tmp 6) (.tmp 23) k3 0 (dwr (n * 10 ^ i)) [.int .u64 0, .int .u64 0, .int .u64 0, .int .u64 0, .int .u64 0, .int .u64 0, .int .u64 0, .int .u64 0] (dwl (n * 10 ^ i)) Q3 rfl rfl rfl rfl rfl sz87 rfl rfl rfl ?_
  intro w6 hS Qn
  replace Q3 := Qn
  clear Qn
  replace Q1 := hS.other _ _ ne_k1_k3 Q1
  replace Q2 := hS.other _ _ ne_k2_k3 Q2
  replace M := hS.mo _ N_k3 M
  clear hS
  refine w_nil (xn_then (w_seq (w_reg ?_)))
  refine wl_f 40 1 (.tmp 3) (pt k2 0) (pt k2 1) ?_
  refine wl_l 38 (.tmp 24) (pt k2 1) (.agg #[.int .u64 (l0 (m)), .int .u64 (l1 (m)), .int .u64 (l2 (m)), .int .u64 (l3 (m))]) (run_row Q2 38 1 4 [.int .u64 (l0 (m)), .int .u64 (l1 (m)), .int .u64 (l2 (m)), .int .u64 (l3 (m))] rfl Try.underlying38 rfl sz24) ?_
  refine wl_m (.tmp 5) (.int .i64 (S)) ?_
  refine wl_f 40 2 (.tmp 3) (pt k2 0) (pt k2 5) ?_
  refine wl_l 3 (.tmp 27) (pt k2 5) (.int .i64 (t)) (run_one Q2 3 5 rfl Try.underlying3 rfl) ?_
  refine wl_b .sub 3 (.tmp 26) (.tmp 28) (.int .i64 (S)) (.int .i64 (t)) (.int .i64 ((j : Int))) (sub3_run hj (by omega) (by omega) _ _ _) ?_
  refine wl_call 68 [(.tmp 25), (.tmp 29)] _ [.agg #[.int .u64 (l0 (m)), .int .u64 (l1 (m)), .int .u64 (l2 (m)), .int .u64 (l3 (m))], .int .i64 ((j : Int))] (dw (m * 10 ^ j)) rfl rfl (fun _ _ => by kernel_rfl) (shift_n m j _ hm0 hm (by omega)) rfl ?_
  intro w7 hq
  replace Q1 := Q1.mo hq
  replace Q2 := Q2.mo hq
  replace Q3 := Q3.mo hq
  replace M := M.trans hq
  clear hq
  refine wl_alloc 118 #[.int .u64 0, .int .u64 0, .int .u64 0, .int .u64 0, .int .u64 0, .int .u64 0, .int .u64 0, .int .u64 0] rfl (fun _ => by kernel_rfl) rfl ?_
  intro k4 w8 hk hz hq Q4
  have ne_k1_k4 : k1 ≠ k4 := by have := Q1.lt; omega
  have ne_k2_k4 : k2 ≠ k4 := by have := Q2.lt; omega
  have ne_k3_k4 : k3 ≠ k4 := by have := Q3.lt; omega
  have N_k4 : w.heap.size ≤ k4 := by have := M.size; omega
  replace Q1 := Q1.mo hq
  replace Q2 := Q2.mo hq
  replace Q3 := Q3.mo hq
  replace M := M.trans hq
  clear hk hz hq
  refine wl_st 118 (.tmp 7) (.tmp 30) k4 0 (dwr (m * 10 ^ j)) [.int .u64 0, .int .u64 0, .int .u64 0, .int .u64 0, .int .u64 0, .int .u64 0, .int .u64 0, .int .u64 0] (dwl (m * 10 ^ j)) Q4 rfl rfl rfl rfl rfl sz87 rfl rfl rfl ?_
  intro w9 hS Qn
  replace Q4 := Qn
  clear Qn
  replace Q1 := hS.other _ _ ne_k1_k4 Q1
  replace Q2 := hS.other _ _ ne_k2_k4 Q2
  replace Q3 := hS.other _ _ ne_k3_k4 Q3
  replace M := hS.mo _ N_k4 M
  clear hS
  refine w_nil (xn_then (w_seq (w_block (w_seq (w_reg ?_)))))
  refine wl_f 40 0 (.tmp 2) (pt k1 0) (pt k1 0) ?_
  refine wl_l 4 (.tmp 32) (pt k1 0) (.bool false) (run_one Q1 4 0 rfl Try.underlying4 rfl) ?_
  refine wl_m (.tmp 33) (.bool false) ?_
  refine wl_skip rfl (wl_skip rfl (wl_skip rfl ?_))
  refine wl_pick (.tmp 34) (.tmp 37) (.const (.bool false)) false (.bool false) (fun _ => rfl) rfl rfl rfl ?_
  refine wl_m (.tmp 38) (.bool false) ?_
  refine w_nil (xn_then (w_condF rfl (w_seq (w_reg ?_))))
  refine wl_f 40 0 (.tmp 2) (pt k1 0) (pt k1 0) ?_
  refine wl_l 4 (.tmp 40) (pt k1 0) (.bool false) (run_one Q1 4 0 rfl Try.underlying4 rfl) ?_
  refine wl_un (fun v => Op.unary .not v) (.tmp 41) (.bool false) (.bool true) (fun _ => rfl) rfl (by kernel_rfl) rfl ?_
  refine wl_m (.tmp 42) (.bool true) ?_
  refine wl_f 40 0 (.tmp 3) (pt k2 0) (pt k2 0) ?_
  refine wl_l 4 (.tmp 44) (pt k2 0) (.bool false) (run_one Q2 4 0 rfl Try.underlying4 rfl) ?_
  refine wl_pick (.tmp 43) (.tmp 45) (.const (.bool false)) true (.bool false) (fun _ => rfl) rfl rfl rfl ?_
  refine wl_m (.tmp 46) (.bool false) ?_
  refine w_nil (xn_then (w_condF rfl (w_seq (w_reg ?_))))
  refine wl_f 40 0 (.tmp 2) (pt k1 0) (pt k1 0) ?_
  refine wl_l 4 (.tmp 48) (pt k1 0) (.bool false) (run_one Q1 4 0 rfl Try.underlying4 rfl) ?_
  refine wl_m (.tmp 49) (.bool false) ?_
  refine w_nil (xn_then (w_condF rfl (w_skip (xn_blk (xn_then (w_seq (w_reg ?_)))))))
  refine wl_l 118 (.tmp 6) (pt k3 0) (dw (n * 10 ^ i)) (run_row Q3 118 0 8 (dwl (n * 10 ^ i)) rfl Try.underlying118 rfl sz87) ?_
  refine wl_l 118 (.tmp 7) (pt k4 0) (dw (m * 10 ^ j)) (run_row Q4 118 0 8 (dwl (m * 10 ^ j)) rfl Try.underlying118 rfl sz87) ?_
  refine wl_call 69 [(.tmp 53), (.tmp 54)] _ [dw (n * 10 ^ i), dw (m * 10 ^ j)] (.int .i64 (cm (n * 10 ^ i) (m * 10 ^ j))) rfl rfl (fun _ _ => by kernel_rfl) (rcmpw_n (n * 10 ^ i) (m * 10 ^ j) _ bX.1 bX.2 bY.1 bY.2) rfl ?_
  intro w10 hq
  replace Q1 := Q1.mo hq
  replace Q2 := Q2.mo hq
  replace Q3 := Q3.mo hq
  replace Q4 := Q4.mo hq
  replace M := M.trans hq
  clear hq
  refine wl_m (.tmp 55) (.int .i64 (cm (n * 10 ^ i) (m * 10 ^ j))) ?_
  refine w_nil (xn_then (w_ret ?_))
  exact w_ret1 _ (.int .i64 (cm (n * 10 ^ i) (m * 10 ^ j))) rfl rfl ⟨rfl, M⟩
theorem rcmpd_z (u s v t : Int) (w : World) (hu : ab u < MM) (hv : ab v < MM) (hs : sc s = true) (ht : sc t = true) :
    Calls Try.prog 52 #[dz u s, dz v t] w fun e w' => e = .returned (.int .i64 (cm (u * pw (max s t - s)) (v * pw (max s t - t)))) ∧ Mo w w' := by
  obtain ⟨s0, s1⟩ := sc_iff.1 hs
  obtain ⟨t0, t1⟩ := sc_iff.1 ht
  obtain ⟨S, hS⟩ : ∃ S, max s t = S := ⟨_, rfl⟩
  obtain ⟨i, hi⟩ : ∃ i : Nat, S - s = (i : Int) := ⟨(S - s).toNat, by omega⟩
  obtain ⟨j, hj⟩ : ∃ j : Nat, S - t = (j : Int) := ⟨(S - t).toNat, by omega⟩
  rw [hS, hi, hj, pw_nat, pw_nat]
  have pi : (0 : Int) < 10 ^ i := Int.pow_pos (by decide)
  have pj : (0 : Int) < 10 ^ j := Int.pow_pos (by decide)
  have eX := ab_mul (u := u) pi
  have eY := ab_mul (u := v) pj
  have nX := neg_mul_iff (u := u) pi
  have nY := neg_mul_iff (u := v) pj
  have cX := ck_dz (v := u) hs
  have cY := ck_dz (v := v) ht
  generalize hA : u * 10 ^ i = A at *
  generalize hB : v * 10 ^ j = B at *
  have cA := ab_c A
  have cB := ab_c B
  unfold dz
  rw [← nX] at cX ⊢
  rw [← nY] at cY ⊢
  by_cases a : A < 0 <;> by_cases b : B < 0
  · rw [decide_eq_true a] at cX ⊢
    rw [decide_eq_true b] at cY ⊢
    have := rcmpd_tt (ab u) (ab v) s t S i j w (ab_nn u) hu (ab_nn v) hv cX cY hS hi hj (by omega) (by omega)
    rw [eX, eY, show cm (ab B) (ab A) = cm A B by unfold cm; split <;> split <;> (try split) <;> (try split) <;> omega] at this
    exact this
  · rw [decide_eq_true a] at cX ⊢
    rw [decide_eq_false b] at cY ⊢
    have e : cm A B = -1 := by unfold cm; rw [if_pos (by omega)]
    rw [e]
    exact rcmpd_tf (ab u) (ab v) s t S i j w (ab_nn u) hu (ab_nn v) hv cX cY hS hi hj (by omega) (by omega)
  · rw [decide_eq_false a] at cX ⊢
    rw [decide_eq_true b] at cY ⊢
    have e : cm A B = 1 := by unfold cm; rw [if_neg (by omega), if_pos (by omega)]
    rw [e]
    exact rcmpd_ft (ab u) (ab v) s t S i j w (ab_nn u) hu (ab_nn v) hv cX cY hS hi hj (by omega) (by omega)
  · rw [decide_eq_false a] at cX ⊢
    rw [decide_eq_false b] at cY ⊢
    have := rcmpd_ff (ab u) (ab v) s t S i j w (ab_nn u) hu (ab_nn v) hv cX cY hS hi hj (by omega) (by omega)
    rw [eX, eY, show ab A = A by omega, show ab B = B by omega] at this
    exact this
end Go.Proofs.Ythfemlhmnjfjiaa

/-
  Summaries and values as they lie there.
-/
namespace Go.Proofs.Ythfemlhmnjfjiaa
open Go.RowKit
/-- A decimal as it lies there; a summary. -/
structure D3 where
  b : Bool
  n : Int
  s : Int
def D3.ok (d : D3) : Prop := 0 ≤ d.n ∧ d.n < MM
structure Sm where
  r : Int
  f : Int
  k : Int
  d : Int
  e : Int
  tt : Int
  so : Bool
  mn : D3
  mx : D3
abbrev sm (r f k d e tt : Int) (so : Bool) (mb : Bool) (mn ms : Int) (xb : Bool) (xn xs : Int) : Value := .agg #[.int .i64 r, .int .i64 f, .int .i64 k, .int .i64 d, .int .i64 e, .int .u64 (l0 tt), .int .u64 (l1 tt), .int .u64 (l2 tt), .int .u64 (l3 tt), .int .u64 (l4 tt), .bool so, .bool mb, .int .u64 (l0 mn), .int .u64 (l1 mn), .int .u64 (l2 mn), .int .u64 (l3 mn), .int .i64 ms, .bool xb, .int .u64 (l0 xn), .int .u64 (l1 xn), .int .u64 (l2 xn), .int .u64 (l3 xn), .int .i64 xs]
abbrev smv (S : Sm) : Value := sm S.r S.f S.k S.d S.e S.tt S.so S.mn.b S.mn.n S.mn.s S.mx.b S.mx.n S.mx.s
def d0 : D3 := ⟨false, 0, 0⟩
def sm0 : Sm := ⟨0, 0, 0, 0, 0, 0, false, d0, d0⟩
/-- A value as it lies there. -/
abbrev vl10 (K : Int) (b : Bool) (n s : Int) (fl : Bool) (tx : ByteArray) (er : Int) : Value := .agg #[.int .i64 K, .bool b, .int .u64 (l0 n), .int .u64 (l1 n), .int .u64 (l2 n), .int .u64 (l3 n), .int .i64 s, .bool fl, .string tx, .int .i64 er]
theorem eqI {a b : Int} {r : Bool} (h : decide (a = b) = r) (x y : Operand) (w : World) : (do eqGuard .eql 3 x y (.int .i64 a) (.int .i64 b); binOp .eql 3 (.int .i64 a) (.int .i64 b)).run Try.prog w = .ok (.bool r) w := by
  have e : (do eqGuard .eql 3 x y (.int .i64 a) (.int .i64 b); binOp .eql 3 (.int .i64 a) (.int .i64 b)).run Try.prog w = .ok (.bool (a == b)) w := by kernel_rfl
  rw [e, ← h]; rfl
theorem neI {a b : Int} {r : Bool} (h : decide (a = b) = r) (x y : Operand) (w : World) : (do eqGuard .neq 3 x y (.int .i64 a) (.int .i64 b); binOp .neq 3 (.int .i64 a) (.int .i64 b)).run Try.prog w = .ok (.bool !r) w := by
  have e : (do eqGuard .neq 3 x y (.int .i64 a) (.int .i64 b); binOp .neq 3 (.int .i64 a) (.int .i64 b)).run Try.prog w = .ok (.bool (a != b)) w := by kernel_rfl
  rw [e, ← h]; rfl
theorem eqE {a b : Int} {r : Bool} (h : decide (a = b) = r) (x y : Operand) (w : World) : (do eqGuard .eql 25 x y (.int .i64 a) (.int .i64 b); binOp .eql 25 (.int .i64 a) (.int .i64 b)).run Try.prog w = .ok (.bool r) w := by
  have e : (do eqGuard .eql 25 x y (.int .i64 a) (.int .i64 b); binOp .eql 25 (.int .i64 a) (.int .i64 b)).run Try.prog w = .ok (.bool (a == b)) w := by kernel_rfl
  rw [e, ← h]; rfl
theorem geI {a b : Int} {r : Bool} (h : decide (b ≤ a) = r) (x y : Operand) (w : World) : (do eqGuard .geq 3 x y (.int .i64 a) (.int .i64 b); binOp .geq 3 (.int .i64 a) (.int .i64 b)).run Try.prog w = .ok (.bool r) w := by
  subst h; kernel_rfl
def w64 (x : Int) : Int := IntKind.i64.wrap x
theorem addW (a b : Int) (x y : Operand) (w : World) : (do eqGuard .add 3 x y (.int .i64 a) (.int .i64 b); binOp .add 3 (.int .i64 a) (.int .i64 b)).run Try.prog w = .ok (.int .i64 (w64 (a + b))) w := by unfold w64; kernel_rfl
theorem minI (a b : Int) (ρ : Operand → Value) (x y : Operand) (hx : ρ x = .int .i64 a) (hy : ρ y = .int .i64 b) (dst : Option Tmp) (type : TypeId) (pos : String) (after : Array Edge) (guard : Option (Nat × Bool)) (w : World) : (execOp ρ { dst, op := .call { callee := .builtin .min, args := #[x, y], argTypes := #[3, 3] }, type, pos, after, guard }).run Try.prog w = .ok (.value (.int .i64 (min a b))) w := by
  simp [go_sem, hx, hy]
section
variable {w : World}
theorem widen_n (b : Bool) (n s : Int) (hn0 : 0 ≤ n) (hn : n < MM) : Calls Try.prog 78 #[dc b n s] w fun e w' => e = .returned (wv (sv b n)) ∧ Mo w w' := by
  cases b with
  | true => exact widen_t n s hn0 hn
  | false => exact widen_f n s hn0 hn
end
/-- What Cmp answers, of decimals that may be and of others. -/
def cmpv (a b : D3) : Int := if ck a.b a.n a.s = 0 ∧ ck b.b b.n b.s = 0 then cm (sv a.b a.n * pw (max a.s b.s - a.s)) (sv b.b b.n * pw (max a.s b.s - b.s)) else 0
theorem dz_sv {b : Bool} {n s : Int} (hn : 0 ≤ n) (h : ck b n s = 0) : sc s = true ∧ dz (sv b n) s = dc b n s ∧ ab (sv b n) = n := by
  obtain ⟨h1, v, h2, h3⟩ := dz_of hn h
  have e := ab_sv (b := b) hn
  have e2 := neg_sv (b := b) hn
  refine ⟨h1, ?_, e⟩
  have hz : (b && !decide (n = 0)) = b := by
    unfold ck at h
    rw [h1] at h
    cases b with
    | false => rfl
    | true =>
      by_cases c : n = 0
      · rw [decide_eq_true c] at h; simp at h
      · rw [decide_eq_false c]; rfl
  unfold dz
  rw [e, e2, hz]
theorem cmp_d (a b : D3) (ha : a.ok) (hb : b.ok) (w : World) : Calls Try.prog 75 #[dc a.b a.n a.s, dc b.b b.n b.s] w fun e w' => e = .returned (.int .i64 (cmpv a b)) ∧ Mo w w' := by
  unfold cmpv
  by_cases h : ck a.b a.n a.s = 0 ∧ ck b.b b.n b.s = 0
  · rw [if_pos h]
    obtain ⟨h1, h2, h3⟩ := dz_sv ha.1 h.1
    obtain ⟨g1, g2, g3⟩ := dz_sv hb.1 h.2
    rw [← h2, ← g2]
    exact cmp_z _ _ _ _ w (by rw [h3]; exact ha.2) (by rw [g3]; exact hb.2) h1 g1
  · rw [if_neg h]; exact dcmp_no _ _ _ _ _ _ w ha.1 ha.2 hb.1 hb.2 h
theorem rcmp_d (a b : D3) (ha : a.ok) (hb : b.ok) (w : World) : Calls Try.prog 52 #[dc a.b a.n a.s, dc b.b b.n b.s] w fun e w' => e = .returned (.int .i64 (cmpv a b)) ∧ Mo w w' := by
  unfold cmpv
  by_cases h : ck a.b a.n a.s = 0 ∧ ck b.b b.n b.s = 0
  · rw [if_pos h]
    obtain ⟨h1, h2, h3⟩ := dz_sv ha.1 h.1
    obtain ⟨g1, g2, g3⟩ := dz_sv hb.1 h.2
    rw [← h2, ← g2]
    exact rcmpd_z _ _ _ _ w (by rw [h3]; exact ha.2) (by rw [g3]; exact hb.2) h1 g1
  · rw [if_neg h]; exact rcmpd_no _ _ _ _ _ _ w ha.1 ha.2 hb.1 hb.2 h
end Go.Proofs.Ythfemlhmnjfjiaa

