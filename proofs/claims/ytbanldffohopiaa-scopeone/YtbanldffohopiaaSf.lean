/-
  live.
-/
import Derived.Test.YtbanldffohopiaaSe
namespace Go.Proofs.Ytbanldffohopiaa
open Go.RowKit D
theorem live_n (w : World) : Calls Try.prog 9 #[] w fun e w' => e = .returned (.bool true) ∧ Mo w w' := by
  refine w_enter 52 Try.func9 Try.ntmps9 rfl rfl ?_
  have M : Mo w w := Mo.refl _
  refine w_seq ?_
  refine w_reg ?_
  refine wl_mv (.const (.bool false)) (.bool false) (fun _ => rfl) rfl rfl ?_
  refine w_nil ?_
  refine xn_then ?_
  refine w_seq ?_
  refine w_reg ?_
  refine wl_build 66 [(0, (.const (.string ⟨#[120]⟩))), (1, (.const (.int .i64 (1))))] [(0, .string ⟨#[120]⟩), (1, .int .i64 (1))] (.agg #[.string ⟨#[120]⟩, .int .i64 (1), .int .i64 0, .int .i64 0, .bool false, .int .i64 0, .int .i64 0, .int .i64 0, .string ⟨#[]⟩, .string ⟨#[]⟩, .int .i64 0, .bool false, .int .u64 0, .int .u64 0, .int .u64 0, .int .u64 0, .int .i64 0, .bool false, .string ⟨#[]⟩, .int .i64 0, .int .i64 0, .int .i64 0, .slice none 0 0]) rfl rfl (by kernel_rfl) rfl ?_
  refine wl_bs 22 1 [(0, (.tmp 6))] [(0, .agg #[.string ⟨#[120]⟩, .int .i64 (1), .int .i64 0, .int .i64 0, .bool false, .int .i64 0, .int .i64 0, .int .i64 0, .string ⟨#[]⟩, .string ⟨#[]⟩, .int .i64 0, .bool false, .int .u64 0, .int .u64 0, .int .u64 0, .int .u64 0, .int .i64 0, .bool false, .string ⟨#[]⟩, .int .i64 0, .int .i64 0, .int .i64 0, .slice none 0 0])] #[.string ⟨#[120]⟩, .int .i64 (1), .int .i64 0, .int .i64 0, .bool false, .int .i64 0, .int .i64 0, .int .i64 0, .string ⟨#[]⟩, .string ⟨#[]⟩, .int .i64 0, .bool false, .int .u64 0, .int .u64 0, .int .u64 0, .int .u64 0, .int .i64 0, .bool false, .string ⟨#[]⟩, .int .i64 0, .int .i64 0, .int .i64 0, .slice none 0 0] 66 rfl rfl (fun _ => by kernel_rfl) rfl ?_
  intro k1 w1 hk hz hq Q1
  have N_k1 : w.heap.size ≤ k1 := by have := M.size; omega
  replace M := M.trans hq
  clear hk hz hq
  refine wl_build 66 [(0, (.const (.string ⟨#[120]⟩))), (1, (.const (.int .i64 (1))))] [(0, .string ⟨#[120]⟩), (1, .int .i64 (1))] (.agg #[.string ⟨#[120]⟩, .int .i64 (1), .int .i64 0, .int .i64 0, .bool false, .int .i64 0, .int .i64 0, .int .i64 0, .string ⟨#[]⟩, .string ⟨#[]⟩, .int .i64 0, .bool false, .int .u64 0, .int .u64 0, .int .u64 0, .int .u64 0, .int .i64 0, .bool false, .string ⟨#[]⟩, .int .i64 0, .int .i64 0, .int .i64 0, .slice none 0 0]) rfl rfl (by kernel_rfl) rfl ?_
  refine wl_bs 22 1 [(0, (.tmp 8))] [(0, .agg #[.string ⟨#[120]⟩, .int .i64 (1), .int .i64 0, .int .i64 0, .bool false, .int .i64 0, .int .i64 0, .int .i64 0, .string ⟨#[]⟩, .string ⟨#[]⟩, .int .i64 0, .bool false, .int .u64 0, .int .u64 0, .int .u64 0, .int .u64 0, .int .i64 0, .bool false, .string ⟨#[]⟩, .int .i64 0, .int .i64 0, .int .i64 0, .slice none 0 0])] #[.string ⟨#[120]⟩, .int .i64 (1), .int .i64 0, .int .i64 0, .bool false, .int .i64 0, .int .i64 0, .int .i64 0, .string ⟨#[]⟩, .string ⟨#[]⟩, .int .i64 0, .bool false, .int .u64 0, .int .u64 0, .int .u64 0, .int .u64 0, .int .i64 0, .bool false, .string ⟨#[]⟩, .int .i64 0, .int .i64 0, .int .i64 0, .slice none 0 0] 66 rfl rfl (fun _ => by kernel_rfl) rfl ?_
  intro k2 w2 hk hz hq Q2
  have ne_k1_k2 : k1 ≠ k2 := by have := Q1.lt; omega
  have N_k2 : w.heap.size ≤ k2 := by have := M.size; omega
  replace Q1 := Q1.mo hq
  replace M := M.trans hq
  clear hk hz hq
  refine wl_build 25 [(0, (.const (.string ⟨#[115]⟩))), (1, (.const (.int .i64 (3)))), (2, (.tmp 9))] [(0, .string ⟨#[115]⟩), (1, .int .i64 (3)), (2, .slice (some ⟨k2, 0, none⟩) 1 1)] (.agg #[.string ⟨#[115]⟩, .int .i64 (3), .slice (some ⟨k2, 0, none⟩) 1 1, .slice none 0 0]) rfl rfl (by kernel_rfl) rfl ?_
  refine wl_bs 23 1 [(0, (.tmp 10))] [(0, .agg #[.string ⟨#[115]⟩, .int .i64 (3), .slice (some ⟨k2, 0, none⟩) 1 1, .slice none 0 0])] #[.string ⟨#[115]⟩, .int .i64 (3), .slice (some ⟨k2, 0, none⟩) 1 1, .slice none 0 0] 25 rfl rfl (fun _ => by kernel_rfl) rfl ?_
  intro k3 w3 hk hz hq Q3
  have ne_k1_k3 : k1 ≠ k3 := by have := Q1.lt; omega
  have ne_k2_k3 : k2 ≠ k3 := by have := Q2.lt; omega
  have N_k3 : w.heap.size ≤ k3 := by have := M.size; omega
  replace Q1 := Q1.mo hq
  replace Q2 := Q2.mo hq
  replace M := M.trans hq
  clear hk hz hq
  refine wl_build 25 [(2, (.tmp 7)), (3, (.tmp 11))] [(2, .slice (some ⟨k1, 0, none⟩) 1 1), (3, .slice (some ⟨k3, 0, none⟩) 1 1)] (.agg #[.string ⟨#[]⟩, .int .i64 0, .slice (some ⟨k1, 0, none⟩) 1 1, .slice (some ⟨k3, 0, none⟩) 1 1]) rfl rfl (by kernel_rfl) rfl ?_
  refine wl_build 29 [(0, (.const (.string ⟨#[114]⟩))), (1, (.tmp 12))] [(0, .string ⟨#[114]⟩), (1, .agg #[.string ⟨#[]⟩, .int .i64 0, .slice (some ⟨k1, 0, none⟩) 1 1, .slice (some ⟨k3, 0, none⟩) 1 1])] (.agg #[.string ⟨#[114]⟩, .string ⟨#[]⟩, .int .i64 0, .slice (some ⟨k1, 0, none⟩) 1 1, .slice (some ⟨k3, 0, none⟩) 1 1, .slice none 0 0, .slice none 0 0]) rfl rfl (by kernel_rfl) rfl ?_
  refine wl_alloc 29 #[.string ⟨#[]⟩, .string ⟨#[]⟩, .int .i64 0, .slice none 0 0, .slice none 0 0, .slice none 0 0, .slice none 0 0] rfl (fun _ => by kernel_rfl) rfl ?_
  intro k4 w4 hk hz hq Q4
  have ne_k1_k4 : k1 ≠ k4 := by have := Q1.lt; omega
  have ne_k2_k4 : k2 ≠ k4 := by have := Q2.lt; omega
  have ne_k3_k4 : k3 ≠ k4 := by have := Q3.lt; omega
  have N_k4 : w.heap.size ≤ k4 := by have := M.size; omega
  replace Q1 := Q1.mo hq
  replace Q2 := Q2.mo hq
  replace Q3 := Q3.mo hq
  replace M := M.trans hq
  clear hk hz hq
  refine wl_st 29 (.tmp 1) (.tmp 13) k4 0 #[.string ⟨#[114]⟩, .string ⟨#[]⟩, .int .i64 0, .slice (some ⟨k1, 0, none⟩) 1 1, .slice (some ⟨k3, 0, none⟩) 1 1, .slice none 0 0, .slice none 0 0] [.string ⟨#[]⟩, .string ⟨#[]⟩, .int .i64 0, .slice none 0 0, .slice none 0 0, .slice none 0 0, .slice none 0 0] [.string ⟨#[114]⟩, .string ⟨#[]⟩, .int .i64 0, .slice (some ⟨k1, 0, none⟩) 1 1, .slice (some ⟨k3, 0, none⟩) 1 1, .slice none 0 0, .slice none 0 0] Q4 rfl rfl rfl rfl rfl sz29 rfl rfl rfl ?_
  intro w5 hS Qn
  replace Q4 := Qn
  clear Qn
  replace Q1 := hS.other _ _ ne_k1_k4 Q1
  replace Q2 := hS.other _ _ ne_k2_k4 Q2
  replace Q3 := hS.other _ _ ne_k3_k4 Q3
  replace M := hS.mo _ N_k4 M
  clear hS
  refine w_nil ?_
  refine xn_then ?_
  refine w_seq ?_
  refine w_reg ?_
  refine wl_load 29 (.tmp 1) (pt k4 0) (.agg #[.string ⟨#[114]⟩, .string ⟨#[]⟩, .int .i64 0, .slice (some ⟨k1, 0, none⟩) 1 1, .slice (some ⟨k3, 0, none⟩) 1 1, .slice none 0 0, .slice none 0 0]) rfl rfl (run_row Q4 29 0 7 [.string ⟨#[114]⟩, .string ⟨#[]⟩, .int .i64 0, .slice (some ⟨k1, 0, none⟩) 1 1, .slice (some ⟨k3, 0, none⟩) 1 1, .slice none 0 0, .slice none 0 0] rfl Try.underlying29 rfl sz29) rfl ?_
  refine wl_call 10 [(.tmp 15)] _ [.agg #[.string ⟨#[114]⟩, .string ⟨#[]⟩, .int .i64 0, .slice (some ⟨k1, 0, none⟩) 1 1, .slice (some ⟨k3, 0, none⟩) 1 1, .slice none 0 0, .slice none 0 0]] (.tuple #[.agg #[.int .i64 3, .int .i64 1, .int .i64 0, .int .i64 0, .int .i64 0], .int .i64 (5)]) rfl rfl (fun _ _ => by kernel_rfl) (by have h := check_n (lDf k1 k2 k3 ⟨#[120]⟩) (l_lies (by exact Q1) (by exact Q2) (by exact Q3)); rw [chk_x] at h; exact h) rfl ?_
  intro w6 hq
  replace Q1 := Q1.mo hq
  replace Q2 := Q2.mo hq
  replace Q3 := Q3.mo hq
  replace Q4 := Q4.mo hq
  replace M := M.trans hq
  clear hq
  refine wl_mv (.tmp 16) (.tuple #[.agg #[.int .i64 3, .int .i64 1, .int .i64 0, .int .i64 0, .int .i64 0], .int .i64 (5)]) (fun _ => rfl) rfl rfl ?_
  refine wl_un (fun v => Instr.extract v 0) (.tmp 14) (.tuple #[.agg #[.int .i64 3, .int .i64 1, .int .i64 0, .int .i64 0, .int .i64 0], .int .i64 (5)]) (.agg #[.int .i64 3, .int .i64 1, .int .i64 0, .int .i64 0, .int .i64 0]) (fun _ => rfl) rfl (by kernel_rfl) rfl ?_
  refine wl_un (fun v => Instr.extract v 1) (.tmp 14) (.tuple #[.agg #[.int .i64 3, .int .i64 1, .int .i64 0, .int .i64 0, .int .i64 0], .int .i64 (5)]) (.int .i64 (5)) (fun _ => rfl) rfl (by kernel_rfl) rfl ?_
  refine wl_alloc 33 #[.int .i64 0, .int .i64 0, .int .i64 0, .int .i64 0, .int .i64 0] rfl (fun _ => by kernel_rfl) rfl ?_
  intro k5 w7 hk hz hq Q5
  have ne_k1_k5 : k1 ≠ k5 := by have := Q1.lt; omega
  have ne_k2_k5 : k2 ≠ k5 := by have := Q2.lt; omega
  have ne_k3_k5 : k3 ≠ k5 := by have := Q3.lt; omega
  have ne_k4_k5 : k4 ≠ k5 := by have := Q4.lt; omega
  have N_k5 : w.heap.size ≤ k5 := by have := M.size; omega
  replace Q1 := Q1.mo hq
  replace Q2 := Q2.mo hq
  replace Q3 := Q3.mo hq
  replace Q4 := Q4.mo hq
  replace M := M.trans hq
  clear hk hz hq
  refine wl_st 33 (.tmp 2) (.tmp 17) k5 0 #[.int .i64 3, .int .i64 1, .int .i64 0, .int .i64 0, .int .i64 0] [.int .i64 0, .int .i64 0, .int .i64 0, .int .i64 0, .int .i64 0] [.int .i64 3, .int .i64 1, .int .i64 0, .int .i64 0, .int .i64 0] Q5 rfl rfl rfl rfl rfl sz33 rfl rfl rfl ?_
  intro w8 hS Qn
  replace Q5 := Qn
  clear Qn
  replace Q1 := hS.other _ _ ne_k1_k5 Q1
  replace Q2 := hS.other _ _ ne_k2_k5 Q2
  replace Q3 := hS.other _ _ ne_k3_k5 Q3
  replace Q4 := hS.other _ _ ne_k4_k5 Q4
  replace M := hS.mo _ N_k5 M
  clear hS
  refine wl_mv (.tmp 18) (.int .i64 (5)) (fun _ => rfl) rfl rfl ?_
  refine w_nil ?_
  refine xn_then ?_
  refine w_seq ?_
  refine w_reg ?_
  refine wl_un (fun v => Instr.fieldAt 29 v 1) (.tmp 1) (pt k4 0) (pt k4 1) (fun _ => rfl) rfl (by kernel_rfl) rfl ?_
  refine wl_un (fun v => Instr.fieldAt 25 v 3) (.tmp 19) (pt k4 1) (pt k4 4) (fun _ => rfl) rfl (by kernel_rfl) rfl ?_
  refine wl_load 23 (.tmp 20) (pt k4 4) (.slice (some ⟨k3, 0, none⟩) 1 1) rfl rfl (run_one Q4 23 4 rfl Try.underlying23 rfl) rfl ?_
  refine wl_bin (fun x y => Instr.indexAt 23 x y) (.tmp 21) (.const (.int .i64 (0))) (.slice (some ⟨k3, 0, none⟩) 1 1) (.int .i64 (0)) (pt k3 0) (fun _ => rfl) rfl rfl (ix23 (i := 0) rfl (by decide) _) rfl ?_
  refine wl_un (fun v => Instr.fieldAt 25 v 2) (.tmp 22) (pt k3 0) (pt k3 2) (fun _ => rfl) rfl (by kernel_rfl) rfl ?_
  refine wl_load 22 (.tmp 23) (pt k3 2) (.slice (some ⟨k2, 0, none⟩) 1 1) rfl rfl (run_one Q3 22 2 rfl Try.underlying22 rfl) rfl ?_
  refine wl_bin (fun x y => Instr.indexAt 22 x y) (.tmp 24) (.const (.int .i64 (0))) (.slice (some ⟨k2, 0, none⟩) 1 1) (.int .i64 (0)) (pt k2 0) (fun _ => rfl) rfl rfl (ix22 (i := 0) rfl (by decide) _) rfl ?_
  refine wl_un (fun v => Instr.fieldAt 66 v 0) (.tmp 25) (pt k2 0) (pt k2 0) (fun _ => rfl) rfl (by kernel_rfl) rfl ?_
  refine wl_st1 9 (.tmp 26) (.const (.string ⟨#[121]⟩)) k2 0 (.string ⟨#[121]⟩) [.string ⟨#[120]⟩, .int .i64 (1), .int .i64 0, .int .i64 0, .bool false, .int .i64 0, .int .i64 0, .int .i64 0, .string ⟨#[]⟩, .string ⟨#[]⟩, .int .i64 0, .bool false, .int .u64 0, .int .u64 0, .int .u64 0, .int .u64 0, .int .i64 0, .bool false, .string ⟨#[]⟩, .int .i64 0, .int .i64 0, .int .i64 0, .slice none 0 0] [.string ⟨#[121]⟩, .int .i64 (1), .int .i64 0, .int .i64 0, .bool false, .int .i64 0, .int .i64 0, .int .i64 0, .string ⟨#[]⟩, .string ⟨#[]⟩, .int .i64 0, .bool false, .int .u64 0, .int .u64 0, .int .u64 0, .int .u64 0, .int .i64 0, .bool false, .string ⟨#[]⟩, .int .i64 0, .int .i64 0, .int .i64 0, .slice none 0 0] Q2 rfl rfl rfl rfl rfl sz9 rfl rfl rfl rfl ?_
  intro w9 hS Qn
  replace Q2 := Qn
  clear Qn
  replace Q1 := hS.other _ _ ne_k1_k2 Q1
  replace Q3 := hS.other _ _ ne_k2_k3.symm Q3
  replace Q4 := hS.other _ _ ne_k2_k4.symm Q4
  replace Q5 := hS.other _ _ ne_k2_k5.symm Q5
  replace M := hS.mo _ N_k2 M
  clear hS
  refine w_nil ?_
  refine xn_then ?_
  refine w_seq ?_
  refine w_reg ?_
  refine wl_load 29 (.tmp 1) (pt k4 0) (.agg #[.string ⟨#[114]⟩, .string ⟨#[]⟩, .int .i64 0, .slice (some ⟨k1, 0, none⟩) 1 1, .slice (some ⟨k3, 0, none⟩) 1 1, .slice none 0 0, .slice none 0 0]) rfl rfl (run_row Q4 29 0 7 [.string ⟨#[114]⟩, .string ⟨#[]⟩, .int .i64 0, .slice (some ⟨k1, 0, none⟩) 1 1, .slice (some ⟨k3, 0, none⟩) 1 1, .slice none 0 0, .slice none 0 0] rfl Try.underlying29 rfl sz29) rfl ?_
  refine wl_call 10 [(.tmp 28)] _ [.agg #[.string ⟨#[114]⟩, .string ⟨#[]⟩, .int .i64 0, .slice (some ⟨k1, 0, none⟩) 1 1, .slice (some ⟨k3, 0, none⟩) 1 1, .slice none 0 0, .slice none 0 0]] (.tuple #[.agg #[.int .i64 0, .int .i64 0, .int .i64 0, .int .i64 0, .int .i64 0], .int .i64 (0)]) rfl rfl (fun _ _ => by kernel_rfl) (by have h := check_n (lDf k1 k2 k3 ⟨#[121]⟩) (l_lies (by exact Q1) (by exact Q2) (by exact Q3)); rw [chk_y] at h; exact h) rfl ?_
  intro w10 hq
  replace Q1 := Q1.mo hq
  replace Q2 := Q2.mo hq
  replace Q3 := Q3.mo hq
  replace Q4 := Q4.mo hq
  replace Q5 := Q5.mo hq
  replace M := M.trans hq
  clear hq
  refine wl_mv (.tmp 29) (.tuple #[.agg #[.int .i64 0, .int .i64 0, .int .i64 0, .int .i64 0, .int .i64 0], .int .i64 (0)]) (fun _ => rfl) rfl rfl ?_
  refine wl_un (fun v => Instr.extract v 0) (.tmp 27) (.tuple #[.agg #[.int .i64 0, .int .i64 0, .int .i64 0, .int .i64 0, .int .i64 0], .int .i64 (0)]) (.agg #[.int .i64 0, .int .i64 0, .int .i64 0, .int .i64 0, .int .i64 0]) (fun _ => rfl) rfl (by kernel_rfl) rfl ?_
  refine wl_un (fun v => Instr.extract v 1) (.tmp 27) (.tuple #[.agg #[.int .i64 0, .int .i64 0, .int .i64 0, .int .i64 0, .int .i64 0], .int .i64 (0)]) (.int .i64 (0)) (fun _ => rfl) rfl (by kernel_rfl) rfl ?_
  refine wl_alloc 33 #[.int .i64 0, .int .i64 0, .int .i64 0, .int .i64 0, .int .i64 0] rfl (fun _ => by kernel_rfl) rfl ?_
  intro k6 w11 hk hz hq Q6
  have ne_k1_k6 : k1 ≠ k6 := by have := Q1.lt; omega
  have ne_k2_k6 : k2 ≠ k6 := by have := Q2.lt; omega
  have ne_k3_k6 : k3 ≠ k6 := by have := Q3.lt; omega
  have ne_k4_k6 : k4 ≠ k6 := by have := Q4.lt; omega
  have ne_k5_k6 : k5 ≠ k6 := by have := Q5.lt; omega
  have N_k6 : w.heap.size ≤ k6 := by have := M.size; omega
  replace Q1 := Q1.mo hq
  replace Q2 := Q2.mo hq
  replace Q3 := Q3.mo hq
  replace Q4 := Q4.mo hq
  replace Q5 := Q5.mo hq
  replace M := M.trans hq
  clear hk hz hq
  refine wl_st 33 (.tmp 4) (.tmp 30) k6 0 #[.int .i64 0, .int .i64 0, .int .i64 0, .int .i64 0, .int .i64 0] [.int .i64 0, .int .i64 0, .int .i64 0, .int .i64 0, .int .i64 0] [.int .i64 0, .int .i64 0, .int .i64 0, .int .i64 0, .int .i64 0] Q6 rfl rfl rfl rfl rfl sz33 rfl rfl rfl ?_
  intro w12 hS Qn
  replace Q6 := Qn
  clear Qn
  replace Q1 := hS.other _ _ ne_k1_k6 Q1
  replace Q2 := hS.other _ _ ne_k2_k6 Q2
  replace Q3 := hS.other _ _ ne_k3_k6 Q3
  replace Q4 := hS.other _ _ ne_k4_k6 Q4
  replace Q5 := hS.other _ _ ne_k5_k6 Q5
  replace M := hS.mo _ N_k6 M
  clear hS
  refine wl_mv (.tmp 31) (.int .i64 (0)) (fun _ => rfl) rfl rfl ?_
  refine w_nil ?_
  refine xn_then ?_
  refine w_seq ?_
  refine w_reg ?_
  refine wl_mv (.tmp 3) (.int .i64 (5)) (fun _ => rfl) rfl rfl ?_
  refine wl_bin (fun x y => do eqGuard .eql 34 (.tmp 32) (.const (.int .i64 (5))) x y; binOp .eql 34 x y) (.tmp 32) (.const (.int .i64 (5))) (.int .i64 (5)) (.int .i64 (5)) (.bool true) (fun _ => rfl) rfl rfl (eq34 (r := true) rfl _ _ _) rfl ?_
  refine wl_mv (.tmp 33) (.bool true) (fun _ => rfl) rfl rfl ?_
  refine wl_load 33 (.tmp 2) (pt k5 0) (.agg #[.int .i64 3, .int .i64 1, .int .i64 0, .int .i64 0, .int .i64 0]) rfl rfl (run_row Q5 33 0 5 [.int .i64 3, .int .i64 1, .int .i64 0, .int .i64 0, .int .i64 0] rfl Try.underlying33 rfl sz33) rfl ?_
  refine wl_build 33 [(0, (.const (.int .i64 (3)))), (1, (.const (.int .i64 (1))))] [(0, .int .i64 (3)), (1, .int .i64 (1))] (.agg #[.int .i64 (3), .int .i64 (1), .int .i64 0, .int .i64 0, .int .i64 0]) rfl rfl (by kernel_rfl) rfl ?_
  refine wl_bin (fun x y => do eqGuard .eql 33 (.tmp 35) (.tmp 36) x y; binOp .eql 33 x y) (.tmp 35) (.tmp 36) (.agg #[.int .i64 3, .int .i64 1, .int .i64 0, .int .i64 0, .int .i64 0]) (.agg #[.int .i64 (3), .int .i64 (1), .int .i64 0, .int .i64 0, .int .i64 0]) (.bool true) (fun _ => rfl) rfl rfl (by kernel_rfl) rfl ?_
  refine wl_pick (.tmp 34) (.tmp 37) (.const (.bool false)) true (.bool true) (fun _ => rfl) rfl rfl rfl ?_
  refine wl_mv (.tmp 38) (.bool true) (fun _ => rfl) rfl rfl ?_
  refine wl_mv (.tmp 5) (.int .i64 (0)) (fun _ => rfl) rfl rfl ?_
  refine wl_bin (fun x y => do eqGuard .eql 34 (.tmp 40) (.const (.int .i64 (0))) x y; binOp .eql 34 x y) (.tmp 40) (.const (.int .i64 (0))) (.int .i64 (0)) (.int .i64 (0)) (.bool true) (fun _ => rfl) rfl rfl (eq34 (r := true) rfl _ _ _) rfl ?_
  refine wl_pick (.tmp 39) (.tmp 41) (.const (.bool false)) true (.bool true) (fun _ => rfl) rfl rfl rfl ?_
  refine wl_mv (.tmp 42) (.bool true) (fun _ => rfl) rfl rfl ?_
  refine wl_load 29 (.tmp 1) (pt k4 0) (.agg #[.string ⟨#[114]⟩, .string ⟨#[]⟩, .int .i64 0, .slice (some ⟨k1, 0, none⟩) 1 1, .slice (some ⟨k3, 0, none⟩) 1 1, .slice none 0 0, .slice none 0 0]) rfl rfl (run_row Q4 29 0 7 [.string ⟨#[114]⟩, .string ⟨#[]⟩, .int .i64 0, .slice (some ⟨k1, 0, none⟩) 1 1, .slice (some ⟨k3, 0, none⟩) 1 1, .slice none 0 0, .slice none 0 0] rfl Try.underlying29 rfl sz29) rfl ?_
  refine wl_callx 23 [(.tmp 44)] _ [.agg #[.string ⟨#[114]⟩, .string ⟨#[]⟩, .int .i64 0, .slice (some ⟨k1, 0, none⟩) 1 1, .slice (some ⟨k3, 0, none⟩) 1 1, .slice none 0 0, .slice none 0 0]] rfl rfl (fun _ _ => by kernel_rfl) (pflat_n (lDf k1 k2 k3 ⟨#[121]⟩) (l_lies (by exact Q1) (by exact Q2) (by exact Q3)) (fun x hx => by rw [fla_l] at hx; rcases List.mem_cons.1 hx with rfl | hx; exact ⟨(show 1 ≤ 600000000000 by decide), fun y hy => by rw [List.mem_singleton.1 hy]; exact ab_z⟩; rw [List.mem_singleton.1 hx]; exact ⟨(show 1 ≤ 600000000000 by decide), fun y hy => by rw [List.mem_singleton.1 hy]; exact ab_z⟩)) rfl ?_
  rintro e9 w13 ⟨pa, cap, R, rfl, hRk, _, _, hq⟩
  refine ⟨_, rfl, ?_⟩
  replace Q1 := Q1.mo hq
  replace Q2 := Q2.mo hq
  replace Q3 := Q3.mo hq
  replace Q4 := Q4.mo hq
  replace Q5 := Q5.mo hq
  replace Q6 := Q6.mo hq
  replace M := M.trans hq
  have hR2 : R.length = 2 := by have := congrArg List.length hRk; rw [fla_l] at this; simpa using this
  have hR2d : decide (((R.length : Nat) : Int) = 2) = true := decide_eq_true (by omega)
  refine wl_val (.int .i64 ((R.length : Nat) : Int)) (len37 _ _ _ _ _ (by exact rfl) _ _ _ _ _ _) rfl ?_
  refine wl_bin (fun x y => do eqGuard .eql 3 (.tmp 46) (.const (.int .i64 (2))) x y; binOp .eql 3 x y) (.tmp 46) (.const (.int .i64 (2))) (.int .i64 ((R.length : Nat) : Int)) (.int .i64 (2)) (.bool true) (fun _ => rfl) rfl rfl (eq3 hR2d _ _ _) rfl ?_
  refine wl_pick (.tmp 43) (.tmp 47) (.const (.bool false)) true (.bool true) (fun _ => rfl) rfl rfl rfl ?_
  refine wl_mv (.tmp 48) (.bool true) (fun _ => rfl) rfl rfl ?_
  refine wl_call 21 [(.const (.string ⟨#[115, 117, 109]⟩))] _ [.string (⟨#[115, 117, 109]⟩)] (.bool true) rfl rfl (fun _ _ => by kernel_rfl) (cB (by decide) (reserved_n ⟨#[115, 117, 109]⟩ _)) rfl ?_
  intro w14 hq
  replace Q1 := Q1.mo hq
  replace Q2 := Q2.mo hq
  replace Q3 := Q3.mo hq
  replace Q4 := Q4.mo hq
  replace Q5 := Q5.mo hq
  replace Q6 := Q6.mo hq
  replace M := M.trans hq
  clear hq
  refine wl_pick (.tmp 49) (.tmp 50) (.const (.bool false)) true (.bool true) (fun _ => rfl) rfl rfl rfl ?_
  refine wl_mv (.tmp 51) (.bool true) (fun _ => rfl) rfl rfl ?_
  refine w_nil ?_
  refine xn_then ?_
  refine w_ret ?_
  exact w_ret1 _ (.bool true) rfl rfl ⟨rfl, M⟩
end Go.Proofs.Ytbanldffohopiaa
