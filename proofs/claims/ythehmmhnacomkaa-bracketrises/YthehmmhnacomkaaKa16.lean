/-
  A part of the proof.
-/
import Derived.Test.YthehmmhnacomkaaKa15
import Derived.Test.YthehmmhnacomkaaKa14
import Derived.Test.YthehmmhnacomkaaKa11
import Derived.Test.YthehmmhnacomkaaKa10
import Derived.Test.YthehmmhnacomkaaKa3
import Derived.Test.YthehmmhnacomkaaKa2
import Derived.Test.YthehmmhnacomkaaKa1
import Derived.RegionTactic
import Derived.Test.YthehmmhnacomkaaProg
import Derived.WalkKit
import Derived.WalkSpells
import Derived.Handy
import Derived.BigQuiet
import Derived.Deep.RegionHeld3
import Derived.Deep.MidRow
import Derived.BigCall
import Derived.Test.YthehmmhnacomkaaKa9
import Derived.Test.YthehmmhnacomkaaKa8
import Derived.Test.YthehmmhnacomkaaKa5
import Derived.Test.YthehmmhnacomkaaKa4
import Derived.Shelf.Small.Bits
import Derived.Shelf.Strconv.Itoa0
import Derived.Shelf.Bits.Mul64
import Derived.Deep.CutBlock
import Derived.Deep.CutRange
import Derived.Test.YthehmmhnacomkaaKa7
import Derived.Test.YthehmmhnacomkaaKa6
import Derived.ChangeKeysEq
import Derived.ScopeJumps
import Derived.WalkMore
import Derived.Laws.StructEq
import Derived.Test.YthehmmhnacomkaaKa13
import Derived.Test.YthehmmhnacomkaaKa12
namespace Go.Proofs.Ythehmmhnacomkaa
open Go.RowKit
abbrev dwl (X : Int) : List Value := [.int .u64 (l0 (X / MM)), .int .u64 (l1 (X / MM)), .int .u64 (l2 (X / MM)), .int .u64 (l3 (X / MM)), .int .u64 (l0 X), .int .u64 (l1 X), .int .u64 (l2 X), .int .u64 (l3 X)]
abbrev dwr (X : Int) : Array Value := #[.int .u64 (l0 (X / MM)), .int .u64 (l1 (X / MM)), .int .u64 (l2 (X / MM)), .int .u64 (l3 (X / MM)), .int .u64 (l0 X), .int .u64 (l1 X), .int .u64 (l2 X), .int .u64 (l3 X)]
theorem sub3_run {a b c : Int} (h : a - b = c) (h0 : 0 ≤ c) (h1 : c ≤ 100) (x y : Operand) (w : World) : (do eqGuard .sub 3 x y (.int .i64 a) (.int .i64 b); binOp .sub 3 (.int .i64 a) (.int .i64 b)).run Try.prog w = .ok (.int .i64 c) w := by
 have e : (do eqGuard .sub 3 x y (.int .i64 a) (.int .i64 b); binOp .sub 3 (.int .i64 a) (.int .i64 b)).run Try.prog w = .ok (.int .i64 (IntKind.i64.wrap (a - b))) w := by kernel_rfl
 have hw : IntKind.i64.wrap (a - b) = c := by rw [IntKind.wrap_i64]; omega
 rw [e, hw]
theorem rcmpd_tf (n m s t S : Int) (i j : Nat) (w : World) (hn0 : 0 ≤ n) (hn : n < MM) (hm0 : 0 ≤ m) (hm : m < MM) (h1 : ck true n s = 0) (h2 : ck false m t = 0) (hS : max s t = S) (hi : S - s = (i : Int)) (hj : S - t = (j : Int)) (hi7 : i ≤ 18) (hj7 : j ≤ 18) :
  Calls Try.prog 24 #[dc true n s, dc false m t] w fun e' w' => e' = .returned (.int .i64 (-1)) ∧ Mo w w' := by
 refine w_enter 56 Try.func24 Try.ntmps24 rfl rfl ?_
 have M : Mo w w := Mo.refl _
 refine w_seq (w_reg ?_)
 refine wl_box 33 (.tmp 0) (dc true (n) (s)) ((dcr true (n) (s))) rfl rfl (fun _ => by kernel_rfl) rfl ?_
 intro k1 w1 hk hz hq Q1
 have N_k1 : w.heap.size ≤ k1 := by have := M.size; omega
 replace M := M.trans hq
 clear hk hz hq
 refine wl_box 33 (.tmp 1) (dc false (m) (t)) ((dcr false (m) (t))) rfl rfl (fun _ => by kernel_rfl) rfl ?_
 intro k2 w2 hk hz hq Q2
 have ne_k1_k2 : k1 ≠ k2 := by have := Q1.lt; omega
 have N_k2 : w.heap.size ≤ k2 := by have := M.size; omega
 replace Q1 := Q1.mo hq
 replace M := M.trans hq
 clear hk hz hq
 refine wl_m (.const (.int .i64 (0))) (.int .i64 (0)) ?_
 refine w_nil (xn_then (w_seq (w_seq (w_reg ?_))))
 refine wl_l 33 (.tmp 2) (pt k1 0) (dc true (n) (s)) (run_row Q1 33 0 6 (dcl true (n) (s)) rfl Try.underlying33 rfl sz40) ?_
 refine wl_l 33 (.tmp 3) (pt k2 0) (dc false (m) (t)) (run_row Q2 33 0 6 (dcl false (m) (t)) rfl Try.underlying33 rfl sz40) ?_
 refine wl_call 40 [(.tmp 8), (.tmp 9)] _ [dc true (n) (s), dc false (m) (t)] (.int .i64 (0)) rfl rfl (fun _ _ => by kernel_rfl) (rboth_ok true n s false m t _ hn0 hn hm0 hm h1 h2) rfl ?_
 intro w3 hq
 replace Q1 := Q1.mo hq
 replace Q2 := Q2.mo hq
 replace M := M.trans hq
 clear hq
 refine wl_b .neq 26 (.tmp 10) (.const (.int .i64 (0))) (.int .i64 (0)) (.int .i64 (0)) (.bool false) (by kernel_rfl) ?_
 refine w_nil (xn_then (w_condF rfl (w_skip (xn_then (w_seq (w_reg ?_))))))
 refine wl_f 33 2 (.tmp 2) (pt k1 0) (pt k1 5) ?_
 refine wl_l 3 (.tmp 12) (pt k1 5) (.int .i64 (s)) (run_one Q1 3 5 rfl Try.underlying3 rfl) ?_
 refine wl_f 33 2 (.tmp 3) (pt k2 0) (pt k2 5) ?_
 refine wl_l 3 (.tmp 14) (pt k2 5) (.int .i64 (t)) (run_one Q2 3 5 rfl Try.underlying3 rfl) ?_
 refine wl_val (.int .i64 (S)) (by rw [← hS]; exact max_run _ _ _ _ _ rfl rfl _ _ _ _ _ _) rfl ?_
 refine wl_m (.tmp 16) (.int .i64 (S)) ?_
 refine w_nil (xn_then (w_seq (w_reg ?_)))
 refine wl_f 33 1 (.tmp 2) (pt k1 0) (pt k1 1) ?_
 refine wl_l 31 (.tmp 17) (pt k1 1) (.agg #[.int .u64 (l0 (n)), .int .u64 (l1 (n)), .int .u64 (l2 (n)), .int .u64 (l3 (n))]) (run_row Q1 31 1 4 _ rfl Try.underlying31 rfl sz24) ?_
 refine wl_m (.tmp 5) (.int .i64 (S)) ?_
 refine wl_f 33 2 (.tmp 2) (pt k1 0) (pt k1 5) ?_
 refine wl_l 3 (.tmp 20) (pt k1 5) (.int .i64 (s)) (run_one Q1 3 5 rfl Try.underlying3 rfl) ?_
 refine wl_b .sub 3 (.tmp 19) (.tmp 21) (.int .i64 (S)) (.int .i64 (s)) (.int .i64 ((i : Int))) (sub3_run hi (by omega) (by omega) _ _ _) ?_
 refine wl_call 41 [(.tmp 18), (.tmp 22)] _ [.agg #[.int .u64 (l0 (n)), .int .u64 (l1 (n)), .int .u64 (l2 (n)), .int .u64 (l3 (n))], .int .i64 ((i : Int))] (dw (n * 10 ^ i)) rfl rfl (fun _ _ => by kernel_rfl) (shift_n n i _ hn0 hn (by omega)) rfl ?_
 intro w4 hq
 replace Q1 := Q1.mo hq
 replace Q2 := Q2.mo hq
 replace M := M.trans hq
 clear hq
 refine wl_alloc 65 #[.int .u64 0, .int .u64 0, .int .u64 0, .int .u64 0, .int .u64 0, .int .u64 0, .int .u64 0, .int .u64 0] rfl (fun _ => by kernel_rfl) rfl ?_
 intro k3 w5 hk hz hq Q3
 have ne_k1_k3 : k1 ≠ k3 := by have := Q1.lt; omega
 have ne_k2_k3 : k2 ≠ k3 := by have := Q2.lt; omega
 have N_k3 : w.heap.size ≤ k3 := by have := M.size; omega
 replace Q1 := Q1.mo hq
 replace Q2 := Q2.mo hq
 replace M := M.trans hq
 clear hk hz hq
 refine wl_st 65 (.tmp 6) (.tmp 23) k3 0 (dwr (n * 10 ^ i)) _ (dwl (n * 10 ^ i)) Q3 rfl rfl rfl rfl rfl sz87 rfl rfl rfl ?_
 intro w6 hS Qn
 replace Q3 := Qn
 clear Qn
 replace Q1 := hS.other _ _ ne_k1_k3 Q1
 replace Q2 := hS.other _ _ ne_k2_k3 Q2
 replace M := hS.mo _ N_k3 M
 clear hS
 refine w_nil (xn_then (w_seq (w_reg ?_)))
 refine wl_f 33 1 (.tmp 3) (pt k2 0) (pt k2 1) ?_
 refine wl_l 31 (.tmp 24) (pt k2 1) (.agg #[.int .u64 (l0 (m)), .int .u64 (l1 (m)), .int .u64 (l2 (m)), .int .u64 (l3 (m))]) (run_row Q2 31 1 4 _ rfl Try.underlying31 rfl sz24) ?_
 refine wl_m (.tmp 5) (.int .i64 (S)) ?_
 refine wl_f 33 2 (.tmp 3) (pt k2 0) (pt k2 5) ?_
 refine wl_l 3 (.tmp 27) (pt k2 5) (.int .i64 (t)) (run_one Q2 3 5 rfl Try.underlying3 rfl) ?_
 refine wl_b .sub 3 (.tmp 26) (.tmp 28) (.int .i64 (S)) (.int .i64 (t)) (.int .i64 ((j : Int))) (sub3_run hj (by omega) (by omega) _ _ _) ?_
 refine wl_call 41 [(.tmp 25), (.tmp 29)] _ [.agg #[.int .u64 (l0 (m)), .int .u64 (l1 (m)), .int .u64 (l2 (m)), .int .u64 (l3 (m))], .int .i64 ((j : Int))] (dw (m * 10 ^ j)) rfl rfl (fun _ _ => by kernel_rfl) (shift_n m j _ hm0 hm (by omega)) rfl ?_
 intro w7 hq
 replace Q1 := Q1.mo hq
 replace Q2 := Q2.mo hq
 replace Q3 := Q3.mo hq
 replace M := M.trans hq
 clear hq
 refine wl_alloc 65 #[.int .u64 0, .int .u64 0, .int .u64 0, .int .u64 0, .int .u64 0, .int .u64 0, .int .u64 0, .int .u64 0] rfl (fun _ => by kernel_rfl) rfl ?_
 intro k4 w8 hk hz hq Q4
 have ne_k1_k4 : k1 ≠ k4 := by have := Q1.lt; omega
 have ne_k2_k4 : k2 ≠ k4 := by have := Q2.lt; omega
 have ne_k3_k4 : k3 ≠ k4 := by have := Q3.lt; omega
 have N_k4 : w.heap.size ≤ k4 := by have := M.size; omega
 replace Q1 := Q1.mo hq
 replace Q2 := Q2.mo hq
 replace Q3 := Q3.mo hq
 replace M := M.trans hq
 clear hk hz hq
 refine wl_st 65 (.tmp 7) (.tmp 30) k4 0 (dwr (m * 10 ^ j)) _ (dwl (m * 10 ^ j)) Q4 rfl rfl rfl rfl rfl sz87 rfl rfl rfl ?_
 intro w9 hS Qn
 replace Q4 := Qn
 clear Qn
 replace Q1 := hS.other _ _ ne_k1_k4 Q1
 replace Q2 := hS.other _ _ ne_k2_k4 Q2
 replace Q3 := hS.other _ _ ne_k3_k4 Q3
 replace M := hS.mo _ N_k4 M
 clear hS
 refine w_nil (xn_then (w_seq (w_block (w_seq (w_reg ?_)))))
 refine wl_f 33 0 (.tmp 2) (pt k1 0) (pt k1 0) ?_
 refine wl_l 4 (.tmp 32) (pt k1 0) (.bool true) (run_one Q1 4 0 rfl Try.underlying4 rfl) ?_
 refine wl_m (.tmp 33) (.bool true) ?_
 refine wl_f 33 0 (.tmp 3) (pt k2 0) (pt k2 0) ?_
 refine wl_l 4 (.tmp 35) (pt k2 0) (.bool false) (run_one Q2 4 0 rfl Try.underlying4 rfl) ?_
 refine wl_un (fun v => Op.unary .not v) (.tmp 36) (.bool false) (.bool true) (fun _ => rfl) rfl (by kernel_rfl) rfl ?_
 refine wl_pick (.tmp 34) (.tmp 37) (.const (.bool false)) true (.bool true) (fun _ => rfl) rfl rfl rfl ?_
 refine wl_m (.tmp 38) (.bool true) ?_
 refine w_nil (xn_then (w_condT rfl (w_seq (w_reg ?_))))
 refine wl_m (.const (.int .i64 (-1))) (.int .i64 (-1)) ?_
 refine w_nil (xn_then (w_ret (xr_blk (xr_then ?_))))
 exact w_ret1 _ _ rfl rfl ⟨rfl, M⟩
theorem rcmpd_ft (n m s t S : Int) (i j : Nat) (w : World) (hn0 : 0 ≤ n) (hn : n < MM) (hm0 : 0 ≤ m) (hm : m < MM) (h1 : ck false n s = 0) (h2 : ck true m t = 0) (hS : max s t = S) (hi : S - s = (i : Int)) (hj : S - t = (j : Int)) (hi7 : i ≤ 18) (hj7 : j ≤ 18) :
  Calls Try.prog 24 #[dc false n s, dc true m t] w fun e' w' => e' = .returned (.int .i64 (1)) ∧ Mo w w' := by
 refine w_enter 56 Try.func24 Try.ntmps24 rfl rfl ?_
 have M : Mo w w := Mo.refl _
 refine w_seq (w_reg ?_)
 refine wl_box 33 (.tmp 0) (dc false (n) (s)) ((dcr false (n) (s))) rfl rfl (fun _ => by kernel_rfl) rfl ?_
 intro k1 w1 hk hz hq Q1
 have N_k1 : w.heap.size ≤ k1 := by have := M.size; omega
 replace M := M.trans hq
 clear hk hz hq
 refine wl_box 33 (.tmp 1) (dc true (m) (t)) ((dcr true (m) (t))) rfl rfl (fun _ => by kernel_rfl) rfl ?_
 intro k2 w2 hk hz hq Q2
 have ne_k1_k2 : k1 ≠ k2 := by have := Q1.lt; omega
 have N_k2 : w.heap.size ≤ k2 := by have := M.size; omega
 replace Q1 := Q1.mo hq
 replace M := M.trans hq
 clear hk hz hq
 refine wl_m (.const (.int .i64 (0))) (.int .i64 (0)) ?_
 refine w_nil (xn_then (w_seq (w_seq (w_reg ?_))))
 refine wl_l 33 (.tmp 2) (pt k1 0) (dc false (n) (s)) (run_row Q1 33 0 6 (dcl false (n) (s)) rfl Try.underlying33 rfl sz40) ?_
 refine wl_l 33 (.tmp 3) (pt k2 0) (dc true (m) (t)) (run_row Q2 33 0 6 (dcl true (m) (t)) rfl Try.underlying33 rfl sz40) ?_
 refine wl_call 40 [(.tmp 8), (.tmp 9)] _ [dc false (n) (s), dc true (m) (t)] (.int .i64 (0)) rfl rfl (fun _ _ => by kernel_rfl) (rboth_ok false n s true m t _ hn0 hn hm0 hm h1 h2) rfl ?_
 intro w3 hq
 replace Q1 := Q1.mo hq
 replace Q2 := Q2.mo hq
 replace M := M.trans hq
 clear hq
 refine wl_b .neq 26 (.tmp 10) (.const (.int .i64 (0))) (.int .i64 (0)) (.int .i64 (0)) (.bool false) (by kernel_rfl) ?_
 refine w_nil (xn_then (w_condF rfl (w_skip (xn_then (w_seq (w_reg ?_))))))
 refine wl_f 33 2 (.tmp 2) (pt k1 0) (pt k1 5) ?_
 refine wl_l 3 (.tmp 12) (pt k1 5) (.int .i64 (s)) (run_one Q1 3 5 rfl Try.underlying3 rfl) ?_
 refine wl_f 33 2 (.tmp 3) (pt k2 0) (pt k2 5) ?_
 refine wl_l 3 (.tmp 14) (pt k2 5) (.int .i64 (t)) (run_one Q2 3 5 rfl Try.underlying3 rfl) ?_
 refine wl_val (.int .i64 (S)) (by rw [← hS]; exact max_run _ _ _ _ _ rfl rfl _ _ _ _ _ _) rfl ?_
 refine wl_m (.tmp 16) (.int .i64 (S)) ?_
 refine w_nil (xn_then (w_seq (w_reg ?_)))
 refine wl_f 33 1 (.tmp 2) (pt k1 0) (pt k1 1) ?_
 refine wl_l 31 (.tmp 17) (pt k1 1) (.agg #[.int .u64 (l0 (n)), .int .u64 (l1 (n)), .int .u64 (l2 (n)), .int .u64 (l3 (n))]) (run_row Q1 31 1 4 _ rfl Try.underlying31 rfl sz24) ?_
 refine wl_m (.tmp 5) (.int .i64 (S)) ?_
 refine wl_f 33 2 (.tmp 2) (pt k1 0) (pt k1 5) ?_
 refine wl_l 3 (.tmp 20) (pt k1 5) (.int .i64 (s)) (run_one Q1 3 5 rfl Try.underlying3 rfl) ?_
 refine wl_b .sub 3 (.tmp 19) (.tmp 21) (.int .i64 (S)) (.int .i64 (s)) (.int .i64 ((i : Int))) (sub3_run hi (by omega) (by omega) _ _ _) ?_
 refine wl_call 41 [(.tmp 18), (.tmp 22)] _ [.agg #[.int .u64 (l0 (n)), .int .u64 (l1 (n)), .int .u64 (l2 (n)), .int .u64 (l3 (n))], .int .i64 ((i : Int))] (dw (n * 10 ^ i)) rfl rfl (fun _ _ => by kernel_rfl) (shift_n n i _ hn0 hn (by omega)) rfl ?_
 intro w4 hq
 replace Q1 := Q1.mo hq
 replace Q2 := Q2.mo hq
 replace M := M.trans hq
 clear hq
 refine wl_alloc 65 #[.int .u64 0, .int .u64 0, .int .u64 0, .int .u64 0, .int .u64 0, .int .u64 0, .int .u64 0, .int .u64 0] rfl (fun _ => by kernel_rfl) rfl ?_
 intro k3 w5 hk hz hq Q3
 have ne_k1_k3 : k1 ≠ k3 := by have := Q1.lt; omega
 have ne_k2_k3 : k2 ≠ k3 := by have := Q2.lt; omega
 have N_k3 : w.heap.size ≤ k3 := by have := M.size; omega
 replace Q1 := Q1.mo hq
 replace Q2 := Q2.mo hq
 replace M := M.trans hq
 clear hk hz hq
 refine wl_st 65 (.tmp 6) (.tmp 23) k3 0 (dwr (n * 10 ^ i)) _ (dwl (n * 10 ^ i)) Q3 rfl rfl rfl rfl rfl sz87 rfl rfl rfl ?_
 intro w6 hS Qn
 replace Q3 := Qn
 clear Qn
 replace Q1 := hS.other _ _ ne_k1_k3 Q1
 replace Q2 := hS.other _ _ ne_k2_k3 Q2
 replace M := hS.mo _ N_k3 M
 clear hS
 refine w_nil (xn_then (w_seq (w_reg ?_)))
 refine wl_f 33 1 (.tmp 3) (pt k2 0) (pt k2 1) ?_
 refine wl_l 31 (.tmp 24) (pt k2 1) (.agg #[.int .u64 (l0 (m)), .int .u64 (l1 (m)), .int .u64 (l2 (m)), .int .u64 (l3 (m))]) (run_row Q2 31 1 4 _ rfl Try.underlying31 rfl sz24) ?_
 refine wl_m (.tmp 5) (.int .i64 (S)) ?_
 refine wl_f 33 2 (.tmp 3) (pt k2 0) (pt k2 5) ?_
 refine wl_l 3 (.tmp 27) (pt k2 5) (.int .i64 (t)) (run_one Q2 3 5 rfl Try.underlying3 rfl) ?_
 refine wl_b .sub 3 (.tmp 26) (.tmp 28) (.int .i64 (S)) (.int .i64 (t)) (.int .i64 ((j : Int))) (sub3_run hj (by omega) (by omega) _ _ _) ?_
 refine wl_call 41 [(.tmp 25), (.tmp 29)] _ [.agg #[.int .u64 (l0 (m)), .int .u64 (l1 (m)), .int .u64 (l2 (m)), .int .u64 (l3 (m))], .int .i64 ((j : Int))] (dw (m * 10 ^ j)) rfl rfl (fun _ _ => by kernel_rfl) (shift_n m j _ hm0 hm (by omega)) rfl ?_
 intro w7 hq
 replace Q1 := Q1.mo hq
 replace Q2 := Q2.mo hq
 replace Q3 := Q3.mo hq
 replace M := M.trans hq
 clear hq
 refine wl_alloc 65 #[.int .u64 0, .int .u64 0, .int .u64 0, .int .u64 0, .int .u64 0, .int .u64 0, .int .u64 0, .int .u64 0] rfl (fun _ => by kernel_rfl) rfl ?_
 intro k4 w8 hk hz hq Q4
 have ne_k1_k4 : k1 ≠ k4 := by have := Q1.lt; omega
 have ne_k2_k4 : k2 ≠ k4 := by have := Q2.lt; omega
 have ne_k3_k4 : k3 ≠ k4 := by have := Q3.lt; omega
 have N_k4 : w.heap.size ≤ k4 := by have := M.size; omega
 replace Q1 := Q1.mo hq
 replace Q2 := Q2.mo hq
 replace Q3 := Q3.mo hq
 replace M := M.trans hq
 clear hk hz hq
 refine wl_st 65 (.tmp 7) (.tmp 30) k4 0 (dwr (m * 10 ^ j)) _ (dwl (m * 10 ^ j)) Q4 rfl rfl rfl rfl rfl sz87 rfl rfl rfl ?_
 intro w9 hS Qn
 replace Q4 := Qn
 clear Qn
 replace Q1 := hS.other _ _ ne_k1_k4 Q1
 replace Q2 := hS.other _ _ ne_k2_k4 Q2
 replace Q3 := hS.other _ _ ne_k3_k4 Q3
 replace M := hS.mo _ N_k4 M
 clear hS
 refine w_nil (xn_then (w_seq (w_block (w_seq (w_reg ?_)))))
 refine wl_f 33 0 (.tmp 2) (pt k1 0) (pt k1 0) ?_
 refine wl_l 4 (.tmp 32) (pt k1 0) (.bool false) (run_one Q1 4 0 rfl Try.underlying4 rfl) ?_
 refine wl_m (.tmp 33) (.bool false) ?_
 refine wl_skip rfl (wl_skip rfl (wl_skip rfl ?_))
 refine wl_pick (.tmp 34) (.tmp 37) (.const (.bool false)) false (.bool false) (fun _ => rfl) rfl rfl rfl ?_
 refine wl_m (.tmp 38) (.bool false) ?_
 refine w_nil (xn_then (w_condF rfl (w_seq (w_reg ?_))))
 refine wl_f 33 0 (.tmp 2) (pt k1 0) (pt k1 0) ?_
 refine wl_l 4 (.tmp 40) (pt k1 0) (.bool false) (run_one Q1 4 0 rfl Try.underlying4 rfl) ?_
 refine wl_un (fun v => Op.unary .not v) (.tmp 41) (.bool false) (.bool true) (fun _ => rfl) rfl (by kernel_rfl) rfl ?_
 refine wl_m (.tmp 42) (.bool true) ?_
 refine wl_f 33 0 (.tmp 3) (pt k2 0) (pt k2 0) ?_
 refine wl_l 4 (.tmp 44) (pt k2 0) (.bool true) (run_one Q2 4 0 rfl Try.underlying4 rfl) ?_
 refine wl_pick (.tmp 43) (.tmp 45) (.const (.bool false)) true (.bool true) (fun _ => rfl) rfl rfl rfl ?_
 refine wl_m (.tmp 46) (.bool true) ?_
 refine w_nil (xn_then (w_condT rfl (w_seq (w_reg ?_))))
 refine wl_m (.const (.int .i64 (1))) (.int .i64 (1)) ?_
 refine w_nil (xn_then (w_ret (xr_blk (xr_then ?_))))
 exact w_ret1 _ _ rfl rfl ⟨rfl, M⟩
theorem rcmpd_tt (n m s t S : Int) (i j : Nat) (w : World) (hn0 : 0 ≤ n) (hn : n < MM) (hm0 : 0 ≤ m) (hm : m < MM) (h1 : ck true n s = 0) (h2 : ck true m t = 0) (hS : max s t = S) (hi : S - s = (i : Int)) (hj : S - t = (j : Int)) (hi7 : i ≤ 18) (hj7 : j ≤ 18) :
  Calls Try.prog 24 #[dc true n s, dc true m t] w fun e' w' => e' = .returned (.int .i64 (cm (m * 10 ^ j) (n * 10 ^ i))) ∧ Mo w w' := by
 have bX := lifted_bd hn0 hn (i := i) (by omega)
 have bY := lifted_bd hm0 hm (i := j) (by omega)
 refine w_enter 56 Try.func24 Try.ntmps24 rfl rfl ?_
 have M : Mo w w := Mo.refl _
 refine w_seq (w_reg ?_)
 refine wl_box 33 (.tmp 0) (dc true (n) (s)) ((dcr true (n) (s))) rfl rfl (fun _ => by kernel_rfl) rfl ?_
 intro k1 w1 hk hz hq Q1
 have N_k1 : w.heap.size ≤ k1 := by have := M.size; omega
 replace M := M.trans hq
 clear hk hz hq
 refine wl_box 33 (.tmp 1) (dc true (m) (t)) ((dcr true (m) (t))) rfl rfl (fun _ => by kernel_rfl) rfl ?_
 intro k2 w2 hk hz hq Q2
 have ne_k1_k2 : k1 ≠ k2 := by have := Q1.lt; omega
 have N_k2 : w.heap.size ≤ k2 := by have := M.size; omega
 replace Q1 := Q1.mo hq
 replace M := M.trans hq
 clear hk hz hq
 refine wl_m (.const (.int .i64 (0))) (.int .i64 (0)) ?_
 refine w_nil (xn_then (w_seq (w_seq (w_reg ?_))))
 refine wl_l 33 (.tmp 2) (pt k1 0) (dc true (n) (s)) (run_row Q1 33 0 6 (dcl true (n) (s)) rfl Try.underlying33 rfl sz40) ?_
 refine wl_l 33 (.tmp 3) (pt k2 0) (dc true (m) (t)) (run_row Q2 33 0 6 (dcl true (m) (t)) rfl Try.underlying33 rfl sz40) ?_
 refine wl_call 40 [(.tmp 8), (.tmp 9)] _ [dc true (n) (s), dc true (m) (t)] (.int .i64 (0)) rfl rfl (fun _ _ => by kernel_rfl) (rboth_ok true n s true m t _ hn0 hn hm0 hm h1 h2) rfl ?_
 intro w3 hq
 replace Q1 := Q1.mo hq
 replace Q2 := Q2.mo hq
 replace M := M.trans hq
 clear hq
 refine wl_b .neq 26 (.tmp 10) (.const (.int .i64 (0))) (.int .i64 (0)) (.int .i64 (0)) (.bool false) (by kernel_rfl) ?_
 refine w_nil (xn_then (w_condF rfl (w_skip (xn_then (w_seq (w_reg ?_))))))
 refine wl_f 33 2 (.tmp 2) (pt k1 0) (pt k1 5) ?_
 refine wl_l 3 (.tmp 12) (pt k1 5) (.int .i64 (s)) (run_one Q1 3 5 rfl Try.underlying3 rfl) ?_
 refine wl_f 33 2 (.tmp 3) (pt k2 0) (pt k2 5) ?_
 refine wl_l 3 (.tmp 14) (pt k2 5) (.int .i64 (t)) (run_one Q2 3 5 rfl Try.underlying3 rfl) ?_
 refine wl_val (.int .i64 (S)) (by rw [← hS]; exact max_run _ _ _ _ _ rfl rfl _ _ _ _ _ _) rfl ?_
 refine wl_m (.tmp 16) (.int .i64 (S)) ?_
 refine w_nil (xn_then (w_seq (w_reg ?_)))
 refine wl_f 33 1 (.tmp 2) (pt k1 0) (pt k1 1) ?_
 refine wl_l 31 (.tmp 17) (pt k1 1) (.agg #[.int .u64 (l0 (n)), .int .u64 (l1 (n)), .int .u64 (l2 (n)), .int .u64 (l3 (n))]) (run_row Q1 31 1 4 _ rfl Try.underlying31 rfl sz24) ?_
 refine wl_m (.tmp 5) (.int .i64 (S)) ?_
 refine wl_f 33 2 (.tmp 2) (pt k1 0) (pt k1 5) ?_
 refine wl_l 3 (.tmp 20) (pt k1 5) (.int .i64 (s)) (run_one Q1 3 5 rfl Try.underlying3 rfl) ?_
 refine wl_b .sub 3 (.tmp 19) (.tmp 21) (.int .i64 (S)) (.int .i64 (s)) (.int .i64 ((i : Int))) (sub3_run hi (by omega) (by omega) _ _ _) ?_
 refine wl_call 41 [(.tmp 18), (.tmp 22)] _ [.agg #[.int .u64 (l0 (n)), .int .u64 (l1 (n)), .int .u64 (l2 (n)), .int .u64 (l3 (n))], .int .i64 ((i : Int))] (dw (n * 10 ^ i)) rfl rfl (fun _ _ => by kernel_rfl) (shift_n n i _ hn0 hn (by omega)) rfl ?_
 intro w4 hq
 replace Q1 := Q1.mo hq
 replace Q2 := Q2.mo hq
 replace M := M.trans hq
 clear hq
 refine wl_alloc 65 #[.int .u64 0, .int .u64 0, .int .u64 0, .int .u64 0, .int .u64 0, .int .u64 0, .int .u64 0, .int .u64 0] rfl (fun _ => by kernel_rfl) rfl ?_
 intro k3 w5 hk hz hq Q3
 have ne_k1_k3 : k1 ≠ k3 := by have := Q1.lt; omega
 have ne_k2_k3 : k2 ≠ k3 := by have := Q2.lt; omega
 have N_k3 : w.heap.size ≤ k3 := by have := M.size; omega
 replace Q1 := Q1.mo hq
 replace Q2 := Q2.mo hq
 replace M := M.trans hq
 clear hk hz hq
 refine wl_st 65 (.tmp 6) (.tmp 23) k3 0 (dwr (n * 10 ^ i)) _ (dwl (n * 10 ^ i)) Q3 rfl rfl rfl rfl rfl sz87 rfl rfl rfl ?_
 intro w6 hS Qn
 replace Q3 := Qn
 clear Qn
 replace Q1 := hS.other _ _ ne_k1_k3 Q1
 replace Q2 := hS.other _ _ ne_k2_k3 Q2
 replace M := hS.mo _ N_k3 M
 clear hS
 refine w_nil (xn_then (w_seq (w_reg ?_)))
 refine wl_f 33 1 (.tmp 3) (pt k2 0) (pt k2 1) ?_
 refine wl_l 31 (.tmp 24) (pt k2 1) (.agg #[.int .u64 (l0 (m)), .int .u64 (l1 (m)), .int .u64 (l2 (m)), .int .u64 (l3 (m))]) (run_row Q2 31 1 4 _ rfl Try.underlying31 rfl sz24) ?_
 refine wl_m (.tmp 5) (.int .i64 (S)) ?_
 refine wl_f 33 2 (.tmp 3) (pt k2 0) (pt k2 5) ?_
 refine wl_l 3 (.tmp 27) (pt k2 5) (.int .i64 (t)) (run_one Q2 3 5 rfl Try.underlying3 rfl) ?_
 refine wl_b .sub 3 (.tmp 26) (.tmp 28) (.int .i64 (S)) (.int .i64 (t)) (.int .i64 ((j : Int))) (sub3_run hj (by omega) (by omega) _ _ _) ?_
 refine wl_call 41 [(.tmp 25), (.tmp 29)] _ [.agg #[.int .u64 (l0 (m)), .int .u64 (l1 (m)), .int .u64 (l2 (m)), .int .u64 (l3 (m))], .int .i64 ((j : Int))] (dw (m * 10 ^ j)) rfl rfl (fun _ _ => by kernel_rfl) (shift_n m j _ hm0 hm (by omega)) rfl ?_
 intro w7 hq
 replace Q1 := Q1.mo hq
 replace Q2 := Q2.mo hq
 replace Q3 := Q3.mo hq
 replace M := M.trans hq
 clear hq
 refine wl_alloc 65 #[.int .u64 0, .int .u64 0, .int .u64 0, .int .u64 0, .int .u64 0, .int .u64 0, .int .u64 0, .int .u64 0] rfl (fun _ => by kernel_rfl) rfl ?_
 intro k4 w8 hk hz hq Q4
 have ne_k1_k4 : k1 ≠ k4 := by have := Q1.lt; omega
 have ne_k2_k4 : k2 ≠ k4 := by have := Q2.lt; omega
 have ne_k3_k4 : k3 ≠ k4 := by have := Q3.lt; omega
 have N_k4 : w.heap.size ≤ k4 := by have := M.size; omega
 replace Q1 := Q1.mo hq
 replace Q2 := Q2.mo hq
 replace Q3 := Q3.mo hq
 replace M := M.trans hq
 clear hk hz hq
 refine wl_st 65 (.tmp 7) (.tmp 30) k4 0 (dwr (m * 10 ^ j)) _ (dwl (m * 10 ^ j)) Q4 rfl rfl rfl rfl rfl sz87 rfl rfl rfl ?_
 intro w9 hS Qn
 replace Q4 := Qn
 clear Qn
 replace Q1 := hS.other _ _ ne_k1_k4 Q1
 replace Q2 := hS.other _ _ ne_k2_k4 Q2
 replace Q3 := hS.other _ _ ne_k3_k4 Q3
 replace M := hS.mo _ N_k4 M
 clear hS
 refine w_nil (xn_then (w_seq (w_block (w_seq (w_reg ?_)))))
 refine wl_f 33 0 (.tmp 2) (pt k1 0) (pt k1 0) ?_
 refine wl_l 4 (.tmp 32) (pt k1 0) (.bool true) (run_one Q1 4 0 rfl Try.underlying4 rfl) ?_
 refine wl_m (.tmp 33) (.bool true) ?_
 refine wl_f 33 0 (.tmp 3) (pt k2 0) (pt k2 0) ?_
 refine wl_l 4 (.tmp 35) (pt k2 0) (.bool true) (run_one Q2 4 0 rfl Try.underlying4 rfl) ?_
 refine wl_un (fun v => Op.unary .not v) (.tmp 36) (.bool true) (.bool false) (fun _ => rfl) rfl (by kernel_rfl) rfl ?_
 refine wl_pick (.tmp 34) (.tmp 37) (.const (.bool false)) true (.bool false) (fun _ => rfl) rfl rfl rfl ?_
 refine wl_m (.tmp 38) (.bool false) ?_
 refine w_nil (xn_then (w_condF rfl (w_seq (w_reg ?_))))
 refine wl_f 33 0 (.tmp 2) (pt k1 0) (pt k1 0) ?_
 refine wl_l 4 (.tmp 40) (pt k1 0) (.bool true) (run_one Q1 4 0 rfl Try.underlying4 rfl) ?_
 refine wl_un (fun v => Op.unary .not v) (.tmp 41) (.bool true) (.bool false) (fun _ => rfl) rfl (by kernel_rfl) rfl ?_
 refine wl_m (.tmp 42) (.bool false) ?_
 refine wl_skip rfl (wl_skip rfl ?_)
 refine wl_pick (.tmp 43) (.tmp 45) (.const (.bool false)) false (.bool false) (fun _ => rfl) rfl rfl rfl ?_
 refine wl_m (.tmp 46) (.bool false) ?_
 refine w_nil (xn_then (w_condF rfl (w_seq (w_reg ?_))))
 refine wl_f 33 0 (.tmp 2) (pt k1 0) (pt k1 0) ?_
 refine wl_l 4 (.tmp 48) (pt k1 0) (.bool true) (run_one Q1 4 0 rfl Try.underlying4 rfl) ?_
 refine wl_m (.tmp 49) (.bool true) ?_
 refine w_nil (xn_then (w_condT rfl (w_seq (w_reg ?_))))
 refine wl_l 65 (.tmp 7) (pt k4 0) (dw (m * 10 ^ j)) (run_row Q4 65 0 8 (dwl (m * 10 ^ j)) rfl Try.underlying65 rfl sz87) ?_
 refine wl_l 65 (.tmp 6) (pt k3 0) (dw (n * 10 ^ i)) (run_row Q3 65 0 8 (dwl (n * 10 ^ i)) rfl Try.underlying65 rfl sz87) ?_
 refine wl_call 42 [(.tmp 50), (.tmp 51)] _ [dw (m * 10 ^ j), dw (n * 10 ^ i)] (.int .i64 (cm (m * 10 ^ j) (n * 10 ^ i))) rfl rfl (fun _ _ => by kernel_rfl) (rcmpw_n (m * 10 ^ j) (n * 10 ^ i) _ bY.1 bY.2 bX.1 bX.2) rfl ?_
 intro w10 hq
 replace Q1 := Q1.mo hq
 replace Q2 := Q2.mo hq
 replace Q3 := Q3.mo hq
 replace Q4 := Q4.mo hq
 replace M := M.trans hq
 clear hq
 refine wl_m (.tmp 52) (.int .i64 (cm (m * 10 ^ j) (n * 10 ^ i))) ?_
 refine w_nil (xn_then (w_ret (xr_blk (xr_then ?_))))
 exact w_ret1 _ _ rfl rfl ⟨rfl, M⟩
theorem rcmpd_ff (n m s t S : Int) (i j : Nat) (w : World) (hn0 : 0 ≤ n) (hn : n < MM) (hm0 : 0 ≤ m) (hm : m < MM) (h1 : ck false n s = 0) (h2 : ck false m t = 0) (hS : max s t = S) (hi : S - s = (i : Int)) (hj : S - t = (j : Int)) (hi7 : i ≤ 18) (hj7 : j ≤ 18) :
  Calls Try.prog 24 #[dc false n s, dc false m t] w fun e' w' => e' = .returned (.int .i64 (cm (n * 10 ^ i) (m * 10 ^ j))) ∧ Mo w w' := by
 have bX := lifted_bd hn0 hn (i := i) (by omega)
 have bY := lifted_bd hm0 hm (i := j) (by omega)
 refine w_enter 56 Try.func24 Try.ntmps24 rfl rfl ?_
 have M : Mo w w := Mo.refl _
 refine w_seq (w_reg ?_)
 refine wl_box 33 (.tmp 0) (dc false (n) (s)) ((dcr false (n) (s))) rfl rfl (fun _ => by kernel_rfl) rfl ?_
 intro k1 w1 hk hz hq Q1
 have N_k1 : w.heap.size ≤ k1 := by have := M.size; omega
 replace M := M.trans hq
 clear hk hz hq
 refine wl_box 33 (.tmp 1) (dc false (m) (t)) ((dcr false (m) (t))) rfl rfl (fun _ => by kernel_rfl) rfl ?_
 intro k2 w2 hk hz hq Q2
 have ne_k1_k2 : k1 ≠ k2 := by have := Q1.lt; omega
 have N_k2 : w.heap.size ≤ k2 := by have := M.size; omega
 replace Q1 := Q1.mo hq
 replace M := M.trans hq
 clear hk hz hq
 refine wl_m (.const (.int .i64 (0))) (.int .i64 (0)) ?_
 refine w_nil (xn_then (w_seq (w_seq (w_reg ?_))))
 refine wl_l 33 (.tmp 2) (pt k1 0) (dc false (n) (s)) (run_row Q1 33 0 6 (dcl false (n) (s)) rfl Try.underlying33 rfl sz40) ?_
 refine wl_l 33 (.tmp 3) (pt k2 0) (dc false (m) (t)) (run_row Q2 33 0 6 (dcl false (m) (t)) rfl Try.underlying33 rfl sz40) ?_
 refine wl_call 40 [(.tmp 8), (.tmp 9)] _ [dc false (n) (s), dc false (m) (t)] (.int .i64 (0)) rfl rfl (fun _ _ => by kernel_rfl) (rboth_ok false n s false m t _ hn0 hn hm0 hm h1 h2) rfl ?_
 intro w3 hq
 replace Q1 := Q1.mo hq
 replace Q2 := Q2.mo hq
 replace M := M.trans hq
 clear hq
 refine wl_b .neq 26 (.tmp 10) (.const (.int .i64 (0))) (.int .i64 (0)) (.int .i64 (0)) (.bool false) (by kernel_rfl) ?_
 refine w_nil (xn_then (w_condF rfl (w_skip (xn_then (w_seq (w_reg ?_))))))
 refine wl_f 33 2 (.tmp 2) (pt k1 0) (pt k1 5) ?_
 refine wl_l 3 (.tmp 12) (pt k1 5) (.int .i64 (s)) (run_one Q1 3 5 rfl Try.underlying3 rfl) ?_
 refine wl_f 33 2 (.tmp 3) (pt k2 0) (pt k2 5) ?_
 refine wl_l 3 (.tmp 14) (pt k2 5) (.int .i64 (t)) (run_one Q2 3 5 rfl Try.underlying3 rfl) ?_
 refine wl_val (.int .i64 (S)) (by rw [← hS]; exact max_run _ _ _ _ _ rfl rfl _ _ _ _ _ _) rfl ?_
 refine wl_m (.tmp 16) (.int .i64 (S)) ?_
 refine w_nil (xn_then (w_seq (w_reg ?_)))
 refine wl_f 33 1 (.tmp 2) (pt k1 0) (pt k1 1) ?_
 refine wl_l 31 (.tmp 17) (pt k1 1) (.agg #[.int .u64 (l0 (n)), .int .u64 (l1 (n)), .int .u64 (l2 (n)), .int .u64 (l3 (n))]) (run_row Q1 31 1 4 _ rfl Try.underlying31 rfl sz24) ?_
 refine wl_m (.tmp 5) (.int .i64 (S)) ?_
 refine wl_f 33 2 (.tmp 2) (pt k1 0) (pt k1 5) ?_
 refine wl_l 3 (.tmp 20) (pt k1 5) (.int .i64 (s)) (run_one Q1 3 5 rfl Try.underlying3 rfl) ?_
 refine wl_b .sub 3 (.tmp 19) (.tmp 21) (.int .i64 (S)) (.int .i64 (s)) (.int .i64 ((i : Int))) (sub3_run hi (by omega) (by omega) _ _ _) ?_
 refine wl_call 41 [(.tmp 18), (.tmp 22)] _ [.agg #[.int .u64 (l0 (n)), .int .u64 (l1 (n)), .int .u64 (l2 (n)), .int .u64 (l3 (n))], .int .i64 ((i : Int))] (dw (n * 10 ^ i)) rfl rfl (fun _ _ => by kernel_rfl) (shift_n n i _ hn0 hn (by omega)) rfl ?_
 intro w4 hq
 replace Q1 := Q1.mo hq
 replace Q2 := Q2.mo hq
 replace M := M.trans hq
 clear hq
 refine wl_alloc 65 #[.int .u64 0, .int .u64 0, .int .u64 0, .int .u64 0, .int .u64 0, .int .u64 0, .int .u64 0, .int .u64 0] rfl (fun _ => by kernel_rfl) rfl ?_
 intro k3 w5 hk hz hq Q3
 have ne_k1_k3 : k1 ≠ k3 := by have := Q1.lt; omega
 have ne_k2_k3 : k2 ≠ k3 := by have := Q2.lt; omega
 have N_k3 : w.heap.size ≤ k3 := by have := M.size; omega
 replace Q1 := Q1.mo hq
 replace Q2 := Q2.mo hq
 replace M := M.trans hq
 clear hk hz hq
 refine wl_st 65 (.tmp 6) (.tmp 23) k3 0 (dwr (n * 10 ^ i)) _ (dwl (n * 10 ^ i)) Q3 rfl rfl rfl rfl rfl sz87 rfl rfl rfl ?_
 intro w6 hS Qn
 replace Q3 := Qn
 clear Qn
 replace Q1 := hS.other _ _ ne_k1_k3 Q1
 replace Q2 := hS.other _ _ ne_k2_k3 Q2
 replace M := hS.mo _ N_k3 M
 clear hS
 refine w_nil (xn_then (w_seq (w_reg ?_)))
 refine wl_f 33 1 (.tmp 3) (pt k2 0) (pt k2 1) ?_
 refine wl_l 31 (.tmp 24) (pt k2 1) (.agg #[.int .u64 (l0 (m)), .int .u64 (l1 (m)), .int .u64 (l2 (m)), .int .u64 (l3 (m))]) (run_row Q2 31 1 4 _ rfl Try.underlying31 rfl sz24) ?_
 refine wl_m (.tmp 5) (.int .i64 (S)) ?_
 refine wl_f 33 2 (.tmp 3) (pt k2 0) (pt k2 5) ?_
 refine wl_l 3 (.tmp 27) (pt k2 5) (.int .i64 (t)) (run_one Q2 3 5 rfl Try.underlying3 rfl) ?_
 refine wl_b .sub 3 (.tmp 26) (.tmp 28) (.int .i64 (S)) (.int .i64 (t)) (.int .i64 ((j : Int))) (sub3_run hj (by omega) (by omega) _ _ _) ?_
 refine wl_call 41 [(.tmp 25), (.tmp 29)] _ [.agg #[.int .u64 (l0 (m)), .int .u64 (l1 (m)), .int .u64 (l2 (m)), .int .u64 (l3 (m))], .int .i64 ((j : Int))] (dw (m * 10 ^ j)) rfl rfl (fun _ _ => by kernel_rfl) (shift_n m j _ hm0 hm (by omega)) rfl ?_
 intro w7 hq
 replace Q1 := Q1.mo hq
 replace Q2 := Q2.mo hq
 replace Q3 := Q3.mo hq
 replace M := M.trans hq
 clear hq
 refine wl_alloc 65 #[.int .u64 0, .int .u64 0, .int .u64 0, .int .u64 0, .int .u64 0, .int .u64 0, .int .u64 0, .int .u64 0] rfl (fun _ => by kernel_rfl) rfl ?_
 intro k4 w8 hk hz hq Q4
 have ne_k1_k4 : k1 ≠ k4 := by have := Q1.lt; omega
 have ne_k2_k4 : k2 ≠ k4 := by have := Q2.lt; omega
 have ne_k3_k4 : k3 ≠ k4 := by have := Q3.lt; omega
 have N_k4 : w.heap.size ≤ k4 := by have := M.size; omega
 replace Q1 := Q1.mo hq
 replace Q2 := Q2.mo hq
 replace Q3 := Q3.mo hq
 replace M := M.trans hq
 clear hk hz hq
 refine wl_st 65 (.tmp 7) (.tmp 30) k4 0 (dwr (m * 10 ^ j)) _ (dwl (m * 10 ^ j)) Q4 rfl rfl rfl rfl rfl sz87 rfl rfl rfl ?_
 intro w9 hS Qn
 replace Q4 := Qn
 clear Qn
 replace Q1 := hS.other _ _ ne_k1_k4 Q1
 replace Q2 := hS.other _ _ ne_k2_k4 Q2
 replace Q3 := hS.other _ _ ne_k3_k4 Q3
 replace M := hS.mo _ N_k4 M
 clear hS
 refine w_nil (xn_then (w_seq (w_block (w_seq (w_reg ?_)))))
 refine wl_f 33 0 (.tmp 2) (pt k1 0) (pt k1 0) ?_
 refine wl_l 4 (.tmp 32) (pt k1 0) (.bool false) (run_one Q1 4 0 rfl Try.underlying4 rfl) ?_
 refine wl_m (.tmp 33) (.bool false) ?_
 refine wl_skip rfl (wl_skip rfl (wl_skip rfl ?_))
 refine wl_pick (.tmp 34) (.tmp 37) (.const (.bool false)) false (.bool false) (fun _ => rfl) rfl rfl rfl ?_
 refine wl_m (.tmp 38) (.bool false) ?_
 refine w_nil (xn_then (w_condF rfl (w_seq (w_reg ?_))))
 refine wl_f 33 0 (.tmp 2) (pt k1 0) (pt k1 0) ?_
 refine wl_l 4 (.tmp 40) (pt k1 0) (.bool false) (run_one Q1 4 0 rfl Try.underlying4 rfl) ?_
 refine wl_un (fun v => Op.unary .not v) (.tmp 41) (.bool false) (.bool true) (fun _ => rfl) rfl (by kernel_rfl) rfl ?_
 refine wl_m (.tmp 42) (.bool true) ?_
 refine wl_f 33 0 (.tmp 3) (pt k2 0) (pt k2 0) ?_
 refine wl_l 4 (.tmp 44) (pt k2 0) (.bool false) (run_one Q2 4 0 rfl Try.underlying4 rfl) ?_
 refine wl_pick (.tmp 43) (.tmp 45) (.const (.bool false)) true (.bool false) (fun _ => rfl) rfl rfl rfl ?_
 refine wl_m (.tmp 46) (.bool false) ?_
 refine w_nil (xn_then (w_condF rfl (w_seq (w_reg ?_))))
 refine wl_f 33 0 (.tmp 2) (pt k1 0) (pt k1 0) ?_
 refine wl_l 4 (.tmp 48) (pt k1 0) (.bool false) (run_one Q1 4 0 rfl Try.underlying4 rfl) ?_
 refine wl_m (.tmp 49) (.bool false) ?_
 refine w_nil (xn_then (w_condF rfl (w_skip (xn_blk (xn_then (w_seq (w_reg ?_)))))))
 refine wl_l 65 (.tmp 6) (pt k3 0) (dw (n * 10 ^ i)) (run_row Q3 65 0 8 (dwl (n * 10 ^ i)) rfl Try.underlying65 rfl sz87) ?_
 refine wl_l 65 (.tmp 7) (pt k4 0) (dw (m * 10 ^ j)) (run_row Q4 65 0 8 (dwl (m * 10 ^ j)) rfl Try.underlying65 rfl sz87) ?_
 refine wl_call 42 [(.tmp 53), (.tmp 54)] _ [dw (n * 10 ^ i), dw (m * 10 ^ j)] (.int .i64 (cm (n * 10 ^ i) (m * 10 ^ j))) rfl rfl (fun _ _ => by kernel_rfl) (rcmpw_n (n * 10 ^ i) (m * 10 ^ j) _ bX.1 bX.2 bY.1 bY.2) rfl ?_
 intro w10 hq
 replace Q1 := Q1.mo hq
 replace Q2 := Q2.mo hq
 replace Q3 := Q3.mo hq
 replace Q4 := Q4.mo hq
 replace M := M.trans hq
 clear hq
 refine wl_m (.tmp 55) (.int .i64 (cm (n * 10 ^ i) (m * 10 ^ j))) ?_
 refine w_nil (xn_then (w_ret ?_))
 exact w_ret1 _ _ rfl rfl ⟨rfl, M⟩
theorem rcmpd_z (u s v t : Int) (w : World) (hu : ab u < MM) (hv : ab v < MM) (hs : sc s = true) (ht : sc t = true) :
  Calls Try.prog 24 #[dz u s, dz v t] w fun e w' => e = .returned (.int .i64 (cm (u * pw (max s t - s)) (v * pw (max s t - t)))) ∧ Mo w w' := by
 obtain ⟨s0, s1⟩ := sc_iff.1 hs
 obtain ⟨t0, t1⟩ := sc_iff.1 ht
 obtain ⟨S, hS⟩ : ∃ S, max s t = S := ⟨_, rfl⟩
 obtain ⟨i, hi⟩ : ∃ i : Nat, S - s = (i : Int) := ⟨(S - s).toNat, by omega⟩
 obtain ⟨j, hj⟩ : ∃ j : Nat, S - t = (j : Int) := ⟨(S - t).toNat, by omega⟩
 rw [hS, hi, hj, pw_nat, pw_nat]
 have pi : (0 : Int) < 10 ^ i := Int.pow_pos (by decide)
 have pj : (0 : Int) < 10 ^ j := Int.pow_pos (by decide)
 have eX := ab_mul (u := u) pi
 have eY := ab_mul (u := v) pj
 have nX := neg_mul_iff (u := u) pi
 have nY := neg_mul_iff (u := v) pj
 have cX := ck_dz (v := u) hs
 have cY := ck_dz (v := v) ht
 generalize hA : u * 10 ^ i = A at *
 generalize hB : v * 10 ^ j = B at *
 have cA := ab_c A
 have cB := ab_c B
 unfold dz
 rw [← nX] at cX ⊢
 rw [← nY] at cY ⊢
 by_cases a : A < 0 <;> by_cases b : B < 0
 ·rw [decide_eq_true a] at cX ⊢
  rw [decide_eq_true b] at cY ⊢
  have := rcmpd_tt (ab u) (ab v) s t S i j w (ab_nn u) hu (ab_nn v) hv cX cY hS hi hj (by omega) (by omega)
  rw [eX, eY, show cm (ab B) (ab A) = cm A B by unfold cm; split <;> split <;> (try split) <;> (try split) <;> omega] at this
  exact this
 ·rw [decide_eq_true a] at cX ⊢
  rw [decide_eq_false b] at cY ⊢
  have e : cm A B = -1 := by unfold cm; rw [if_pos (by omega)]
  rw [e]
  exact rcmpd_tf (ab u) (ab v) s t S i j w (ab_nn u) hu (ab_nn v) hv cX cY hS hi hj (by omega) (by omega)
 ·rw [decide_eq_false a] at cX ⊢
  rw [decide_eq_true b] at cY ⊢
  have e : cm A B = 1 := by unfold cm; rw [if_neg (by omega), if_pos (by omega)]
  rw [e]
  exact rcmpd_ft (ab u) (ab v) s t S i j w (ab_nn u) hu (ab_nn v) hv cX cY hS hi hj (by omega) (by omega)
 ·rw [decide_eq_false a] at cX ⊢
  rw [decide_eq_false b] at cY ⊢
  have := rcmpd_ff (ab u) (ab v) s t S i j w (ab_nn u) hu (ab_nn v) hv cX cY hS hi hj (by omega) (by omega)
  rw [eX, eY, show ab A = A by omega, show ab B = B by omega] at this
  exact this
end Go.Proofs.Ythehmmhnacomkaa

namespace Go.Proofs.Ythehmmhnacomkaa
open Go.RowKit
theorem gti3_run {a b : Int} {r : Bool} (h : decide (a > b) = r) (x y : Operand) (w : World) : (do eqGuard .gtr 3 x y (.int .i64 a) (.int .i64 b); binOp .gtr 3 (.int .i64 a) (.int .i64 b)).run Try.prog w = .ok (.bool r) w := by
 subst h; kernel_rfl
def fx (b : Bool) (V S : Int) : Value := if V < MM then .tuple #[dc (b && !decide (V = 0)) V S, .int .i64 0] else er 7
def rdV (b : Bool) (X f S p : Int) : Int := if f ≤ S then X * pw (S - f) else ro b X (f - S).toNat p
end Go.Proofs.Ythehmmhnacomkaa

namespace Go.Proofs.Ythehmmhnacomkaa
open Go.RowKit
theorem fx_yes {b : Bool} {V S : Int} (h0 : 0 ≤ V) (h : V < MM) : fx b V S = .tuple #[dz (sv b V) S, .int .i64 0] := by unfold fx; rw [if_pos h, dc_sv h0]
theorem fx_no {b : Bool} {V S : Int} (h : ¬ V < MM) : fx b V S = er 7 := by unfold fx; rw [if_neg h]
theorem mulTo_x (b c : Bool) (n m s t S p : Int) (w : World) (hn0 : 0 ≤ n) (hn : n < MM) (hm0 : 0 ≤ m) (hm : m < MM) (h1 : ck b n s = 0) (h2 : ck c m t = 0) (hb1 : 0 ≤ s ∧ s ≤ 18) (hb2 : 0 ≤ t ∧ t ≤ 18) (hS : sc S = true) (hp1 : 1 ≤ p) (hp5 : p ≤ 5) :
  Calls Try.prog 51 #[dc b n s, dc c m t, .int .i64 S, .int .i64 p] w fun e' w' => e' = .returned (fx (b != c) (rdV (b != c) (n * m) (s + t) S p) S) ∧ Mo w w' := by
 obtain ⟨S0, S1⟩ := sc_iff.1 hS
 have bX := prod_bd hn0 hn hm0 hm
 unfold rdV
 by_cases hle : s + t ≤ S
 ·rw [if_pos hle]
  obtain ⟨g, hg⟩ : ∃ g : Nat, S - (s + t) = (g : Int) := ⟨(S - (s + t)).toNat, by omega⟩
  rw [hg, pw_nat]
  have pg : (1 : Int) ≤ 10 ^ g := by have : (0 : Int) < 10 ^ g := Int.pow_pos (by decide); omega
  have hge : n * m * 1 ≤ n * m * 10 ^ g := Int.mul_le_mul_of_nonneg_left pg bX.1
  by_cases hx : n * m < MM
  ·by_cases hr : n * m * 10 ^ g < MM
   ·rw [fx_yes (by omega) hr]
    exact mulTo_up_room b c n m s t S p w hn0 hn hm0 hm h1 h2 hS hp1 hp5 g (by omega) (by omega) hb1 hb2 hx hr
   ·rw [fx_no hr]
    exact mulTo_up_full b c n m s t S p w hn0 hn hm0 hm h1 h2 hS hp1 hp5 g (by omega) (by omega) hb1 hb2 hx (by omega)
  ·rw [fx_no (by omega)]
   exact mulTo_over b c n m s t S p w hn0 hn hm0 hm h1 h2 hS hp1 hp5 g (by omega) (by omega) hb1 hb2 (by omega)
 ·rw [if_neg hle]
  obtain ⟨f, hf⟩ : ∃ f : Nat, s + t - S = (f : Int) := ⟨(s + t - S).toNat, by omega⟩
  rw [hf, Int.toNat_natCast]
  by_cases hr : ro (b != c) (n * m) f p < MM
  ·rw [fx_yes (ro_nn bX.1) hr]
   exact mulTo_dn_room b c n m s t S p w hn0 hn hm0 hm h1 h2 hS hp1 hp5 f hf (by omega) (by omega) hb1 hb2 hr
  ·rw [fx_no hr]
   exact mulTo_dn_full b c n m s t S p w hn0 hn hm0 hm h1 h2 hS hp1 hp5 f hf (by omega) (by omega) hb1 hb2 (by omega)
theorem conv_run {a c : Int} (h : IntKind.u64.wrap a = c) (w : World) : (convert 2 29 (.int .i64 a)).run Try.prog w = .ok (.int .u64 c) w := by
 subst h; kernel_rfl
theorem lss2_run {a b : Int} {r : Bool} (h : decide (a < b) = r) (x y : Operand) (w : World) : (do eqGuard .lss 2 x y (.int .i64 a) (.int .i64 b); binOp .lss 2 (.int .i64 a) (.int .i64 b)).run Try.prog w = .ok (.bool r) w := by
 subst h; kernel_rfl
theorem subu_run {a b c : Int} (h : IntKind.u64.wrap (a - b) = c) (x y : Operand) (w : World) : (do eqGuard .sub 29 x y (.int .u64 a) (.int .u64 b); binOp .sub 29 (.int .u64 a) (.int .u64 b)).run Try.prog w = .ok (.int .u64 c) w := by
 subst h; kernel_rfl
theorem rofInt_pos (n s : Int) (hl : decide (s < 0) = false) (hg : decide (s > 18) = false) (hneg : decide (n < 0) = false) (hc : IntKind.u64.wrap n = ab n) (hU : U1 (ab n)) (w : World) :
  Calls Try.prog 43 #[.int .i64 n, .int .i64 s] w fun e' w' => e' = .returned (.tuple #[dc false (ab n) s, .int .i64 0]) ∧ Mo w w' := by
 refine w_enter 26 Try.func43 Try.ntmps43 rfl rfl ?_
 have M : Mo w w := Mo.refl _
 refine w_seq (w_reg ?_)
 refine wl_alloc 33 #[.bool false, .int .u64 0, .int .u64 0, .int .u64 0, .int .u64 0, .int .i64 0] rfl (fun _ => by kernel_rfl) rfl ?_
 intro k1 w1 hk hz hq Q1
 have N_k1 : w.heap.size ≤ k1 := by have := M.size; omega
 replace M := M.trans hq
 clear hk hz hq
 refine wl_m (.const (.int .i64 (0))) (.int .i64 (0)) ?_
 refine w_nil (xn_then (w_seq (w_seq (w_reg ?_))))
 refine wl_m (.tmp 1) (.int .i64 (s)) ?_
 refine wl_b .lss 3 (.tmp 7) (.const (.int .i64 (0))) (.int .i64 (s)) (.int .i64 (0)) (.bool false) (lss_run hl _ _ _) ?_
 refine wl_m (.tmp 8) (.bool false) ?_
 refine wl_m (.tmp 1) (.int .i64 (s)) ?_
 refine wl_b .gtr 3 (.tmp 10) (.const (.int .i64 (18))) (.int .i64 (s)) (.int .i64 (18)) (.bool false) (gti3_run hg _ _ _) ?_
 refine wl_pick (.tmp 9) (.const (.bool true)) (.tmp 11) false (.bool false) (fun _ => rfl) rfl rfl rfl ?_
 refine w_nil (xn_then (w_condF rfl (w_skip (xn_then (w_seq (w_reg ?_))))))
 refine wl_m (.tmp 0) (.int .i64 (n)) ?_
 refine wl_un (fun v => convert 2 29 v) (.tmp 14) (.int .i64 (n)) (.int .u64 (ab n)) (fun _ => rfl) rfl (conv_run hc _) rfl ?_
 refine wl_m (.tmp 15) (.int .u64 (ab n)) ?_
 refine w_nil (xn_then (w_seq (w_seq (w_reg ?_))))
 refine wl_m (.tmp 0) (.int .i64 (n)) ?_
 refine wl_b .lss 2 (.tmp 16) (.const (.int .i64 (0))) (.int .i64 (n)) (.int .i64 (0)) (.bool false) (lss2_run hneg _ _ _) ?_
 refine w_nil (xn_then (w_condF rfl (w_skip (xn_then (w_seq (w_reg ?_))))))
 refine wl_m (.tmp 0) (.int .i64 (n)) ?_
 refine wl_b .lss 2 (.tmp 20) (.const (.int .i64 (0))) (.int .i64 (n)) (.int .i64 (0)) (.bool false) (lss2_run hneg _ _ _) ?_
 refine wl_m (.tmp 6) (.int .u64 (ab n)) ?_
 refine wl_call 64 [(.tmp 22)] _ [.int .u64 (ab n)] (nv (ab n)) rfl rfl (fun _ _ => by kernel_rfl) (from34_any (ab n) _ hU) rfl ?_
 intro w2 hq
 replace Q1 := Q1.mo hq
 replace M := M.trans hq
 clear hq
 refine wl_m (.tmp 1) (.int .i64 (s)) ?_
 refine wl_build 33 [(0, (.tmp 21)), (1, (.tmp 23)), (2, (.tmp 24))] [(0, .bool false), (1, nv (ab n)), (2, .int .i64 (s))] (.agg #[.bool false, .int .u64 (l0 (ab n)), .int .u64 (l1 (ab n)), .int .u64 (l2 (ab n)), .int .u64 (l3 (ab n)), .int .i64 (s)]) rfl rfl (by kernel_rfl) rfl ?_
 refine wl_st 33 (.tmp 4) (.tmp 25) k1 0 #[.bool false, .int .u64 (l0 (ab n)), .int .u64 (l1 (ab n)), .int .u64 (l2 (ab n)), .int .u64 (l3 (ab n)), .int .i64 (s)] _ [.bool false, .int .u64 (l0 (ab n)), .int .u64 (l1 (ab n)), .int .u64 (l2 (ab n)), .int .u64 (l3 (ab n)), .int .i64 (s)] Q1 rfl rfl rfl rfl rfl sz40 rfl rfl rfl ?_
 intro w3 hS Qn
 replace Q1 := Qn
 clear Qn
 replace M := hS.mo _ N_k1 M
 clear hS
 refine wl_m (.const (.int .i64 (0))) (.int .i64 (0)) ?_
 refine w_nil (xn_then (w_ret ?_))
 exact w_ret2 _ _ (.agg #[.bool false, .int .u64 (l0 (ab n)), .int .u64 (l1 (ab n)), .int .u64 (l2 (ab n)), .int .u64 (l3 (ab n)), .int .i64 (s)]) (.int .i64 (0)) rfl ⟨k1, rfl, (run_row Q1 33 0 6 _ rfl Try.underlying33 rfl sz40)⟩ rfl ⟨rfl, M⟩
theorem rofInt_neg (n s : Int) (c : Int) (hl : decide (s < 0) = false) (hg : decide (s > 18) = false) (hneg : decide (n < 0) = true) (hc : IntKind.u64.wrap n = c) (hs2 : IntKind.u64.wrap (0 - c) = ab n) (hU : U1 (ab n)) (w : World) :
  Calls Try.prog 43 #[.int .i64 n, .int .i64 s] w fun e' w' => e' = .returned (.tuple #[dc true (ab n) s, .int .i64 0]) ∧ Mo w w' := by
 refine w_enter 26 Try.func43 Try.ntmps43 rfl rfl ?_
 have M : Mo w w := Mo.refl _
 refine w_seq (w_reg ?_)
 refine wl_alloc 33 #[.bool false, .int .u64 0, .int .u64 0, .int .u64 0, .int .u64 0, .int .i64 0] rfl (fun _ => by kernel_rfl) rfl ?_
 intro k1 w1 hk hz hq Q1
 have N_k1 : w.heap.size ≤ k1 := by have := M.size; omega
 replace M := M.trans hq
 clear hk hz hq
 refine wl_m (.const (.int .i64 (0))) (.int .i64 (0)) ?_
 refine w_nil (xn_then (w_seq (w_seq (w_reg ?_))))
 refine wl_m (.tmp 1) (.int .i64 (s)) ?_
 refine wl_b .lss 3 (.tmp 7) (.const (.int .i64 (0))) (.int .i64 (s)) (.int .i64 (0)) (.bool false) (lss_run hl _ _ _) ?_
 refine wl_m (.tmp 8) (.bool false) ?_
 refine wl_m (.tmp 1) (.int .i64 (s)) ?_
 refine wl_b .gtr 3 (.tmp 10) (.const (.int .i64 (18))) (.int .i64 (s)) (.int .i64 (18)) (.bool false) (gti3_run hg _ _ _) ?_
 refine wl_pick (.tmp 9) (.const (.bool true)) (.tmp 11) false (.bool false) (fun _ => rfl) rfl rfl rfl ?_
 refine w_nil (xn_then (w_condF rfl (w_skip (xn_then (w_seq (w_reg ?_))))))
 refine wl_m (.tmp 0) (.int .i64 (n)) ?_
 refine wl_un (fun v => convert 2 29 v) (.tmp 14) (.int .i64 (n)) (.int .u64 (c)) (fun _ => rfl) rfl (conv_run hc _) rfl ?_
 refine wl_m (.tmp 15) (.int .u64 (c)) ?_
 refine w_nil (xn_then (w_seq (w_seq (w_reg ?_))))
 refine wl_m (.tmp 0) (.int .i64 (n)) ?_
 refine wl_b .lss 2 (.tmp 16) (.const (.int .i64 (0))) (.int .i64 (n)) (.int .i64 (0)) (.bool true) (lss2_run hneg _ _ _) ?_
 refine w_nil (xn_then (w_condT rfl (w_reg ?_)))
 refine wl_m (.tmp 6) (.int .u64 (c)) ?_
 refine wl_b .sub 29 (.const (.int .u64 (0))) (.tmp 18) (.int .u64 (0)) (.int .u64 (c)) (.int .u64 (ab n)) (subu_run hs2 _ _ _) ?_
 refine wl_m (.tmp 19) (.int .u64 (ab n)) ?_
 refine w_nil (xn_then (w_seq (w_reg ?_)))
 refine wl_m (.tmp 0) (.int .i64 (n)) ?_
 refine wl_b .lss 2 (.tmp 20) (.const (.int .i64 (0))) (.int .i64 (n)) (.int .i64 (0)) (.bool true) (lss2_run hneg _ _ _) ?_
 refine wl_m (.tmp 6) (.int .u64 (ab n)) ?_
 refine wl_call 64 [(.tmp 22)] _ [.int .u64 (ab n)] (nv (ab n)) rfl rfl (fun _ _ => by kernel_rfl) (from34_any (ab n) _ hU) rfl ?_
 intro w2 hq
 replace Q1 := Q1.mo hq
 replace M := M.trans hq
 clear hq
 refine wl_m (.tmp 1) (.int .i64 (s)) ?_
 refine wl_build 33 [(0, (.tmp 21)), (1, (.tmp 23)), (2, (.tmp 24))] [(0, .bool true), (1, nv (ab n)), (2, .int .i64 (s))] (.agg #[.bool true, .int .u64 (l0 (ab n)), .int .u64 (l1 (ab n)), .int .u64 (l2 (ab n)), .int .u64 (l3 (ab n)), .int .i64 (s)]) rfl rfl (by kernel_rfl) rfl ?_
 refine wl_st 33 (.tmp 4) (.tmp 25) k1 0 #[.bool true, .int .u64 (l0 (ab n)), .int .u64 (l1 (ab n)), .int .u64 (l2 (ab n)), .int .u64 (l3 (ab n)), .int .i64 (s)] _ [.bool true, .int .u64 (l0 (ab n)), .int .u64 (l1 (ab n)), .int .u64 (l2 (ab n)), .int .u64 (l3 (ab n)), .int .i64 (s)] Q1 rfl rfl rfl rfl rfl sz40 rfl rfl rfl ?_
 intro w3 hS Qn
 replace Q1 := Qn
 clear Qn
 replace M := hS.mo _ N_k1 M
 clear hS
 refine wl_m (.const (.int .i64 (0))) (.int .i64 (0)) ?_
 refine w_nil (xn_then (w_ret ?_))
 exact w_ret2 _ _ (.agg #[.bool true, .int .u64 (l0 (ab n)), .int .u64 (l1 (ab n)), .int .u64 (l2 (ab n)), .int .u64 (l3 (ab n)), .int .i64 (s)]) (.int .i64 (0)) rfl ⟨k1, rfl, (run_row Q1 33 0 6 _ rfl Try.underlying33 rfl sz40)⟩ rfl ⟨rfl, M⟩
theorem rofInt_ok (n s : Int) (w : World) (h : sc s = true) (h0 : -9223372036854775808 ≤ n) (h1 : n < 9223372036854775808) : Calls Try.prog 43 #[.int .i64 n, .int .i64 s] w fun e w' => e = .returned (.tuple #[dz n s, .int .i64 0]) ∧ Mo w w' := by
 obtain ⟨s0, s1⟩ := sc_iff.1 h
 have c := ab_c n
 have hU : U1 (ab n) := by unfold U1; omega
 unfold dz
 by_cases hn : n < 0
 ·rw [decide_eq_true hn]
  exact rofInt_neg n s (n + 18446744073709551616) (decide_eq_false (by omega)) (decide_eq_false (by omega)) (decide_eq_true hn) (by rw [IntKind.wrap_u64]; omega) (by rw [IntKind.wrap_u64]; omega) hU w
 ·rw [decide_eq_false hn]
  exact rofInt_pos n s (decide_eq_false (by omega)) (decide_eq_false (by omega)) (decide_eq_false hn) (by rw [IntKind.wrap_u64]; omega) hU w
end Go.Proofs.Ythehmmhnacomkaa

