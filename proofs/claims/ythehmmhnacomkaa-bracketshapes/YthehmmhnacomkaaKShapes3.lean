/-
  A part of the proof.
-/
import Derived.Test.YthehmmhnacomkaaKa16
import Derived.Test.YthehmmhnacomkaaKShapes2
import Derived.Test.YthehmmhnacomkaaKa15
import Derived.Test.YthehmmhnacomkaaKShapes1
import Derived.Test.YthehmmhnacomkaaKa14
import Derived.Test.YthehmmhnacomkaaKa11
import Derived.Test.YthehmmhnacomkaaKa10
import Derived.Test.YthehmmhnacomkaaKa3
import Derived.Test.YthehmmhnacomkaaKa2
import Derived.Test.YthehmmhnacomkaaKa1
import Derived.RegionTactic
import Derived.Test.YthehmmhnacomkaaProg
import Derived.WalkKit
import Derived.WalkSpells
import Derived.Handy
import Derived.BigQuiet
import Derived.Deep.RegionHeld3
import Derived.Deep.MidRow
import Derived.BigCall
import Derived.Test.YthehmmhnacomkaaKa9
import Derived.Test.YthehmmhnacomkaaKa8
import Derived.Test.YthehmmhnacomkaaKa5
import Derived.Test.YthehmmhnacomkaaKa4
import Derived.Shelf.Small.Bits
import Derived.Shelf.Strconv.Itoa0
import Derived.Shelf.Bits.Mul64
import Derived.Deep.CutBlock
import Derived.Deep.CutRange
import Derived.Test.YthehmmhnacomkaaKa7
import Derived.Test.YthehmmhnacomkaaKa6
import Derived.ChangeKeysEq
import Derived.ScopeJumps
import Derived.WalkMore
import Derived.Laws.StructEq
import Derived.Test.YthehmmhnacomkaaKa13
import Derived.Test.YthehmmhnacomkaaKa12
import Derived.Test.YthehmmhnacomkaaKa17
import Derived.Lib.CutLaws
import Derived.Maps.OwnSet
import Derived.WalkArith
import Derived.StringKeys
import Derived.ProofKit
import Derived.OpenShut
import Derived.ChangeArms
import Derived.Deep.Slices
import Derived.ReadAgain
import Derived.WideKeyArgs
import Derived.Maps.AppendAt
namespace Go.Proofs.Ythehmmhnacomkaa
open Go.RowKit
theorem eqi3_run {a b : Int} {r : Bool} (h : (a == b) = r) (x y : Operand) (w : World) : (do eqGuard .eql 3 x y (.int .i64 a) (.int .i64 b); binOp .eql 3 (.int .i64 a) (.int .i64 b)).run Try.prog w = .ok (.bool r) w := by
 subst h; kernel_rfl
theorem lei3_run {a b : Int} {r : Bool} (h : decide (a ≤ b) = r) (x y : Operand) (w : World) : (do eqGuard .leq 3 x y (.int .i64 a) (.int .i64 b); binOp .leq 3 (.int .i64 a) (.int .i64 b)).run Try.prog w = .ok (.bool r) w := by
 subst h; kernel_rfl
theorem rem22_run {a c : Int} (h : a.tmod 2 = c) (x y : Operand) (w : World) : (do eqGuard .rem 29 x y (.int .u64 a) (.int .u64 2); binOp .rem 29 (.int .u64 a) (.int .u64 2)).run Try.prog w = .ok (.int .u64 c) w := by
 subst h; kernel_rfl
theorem eq22_run {a b : Int} {r : Bool} (h : (a == b) = r) (x y : Operand) (w : World) : (do eqGuard .eql 29 x y (.int .u64 a) (.int .u64 b); binOp .eql 29 (.int .u64 a) (.int .u64 b)).run Try.prog w = .ok (.bool r) w := by
 subst h; kernel_rfl
theorem rdbl_n (r : Int) (w : World) (h0 : 0 ≤ r) (h : r + r < MM) : Calls Try.prog 93 #[nv r, nv r] w fun e w' => e = .returned (.tuple #[nv (r + r), .bool false]) ∧ Mo w w' := by
 have := radd_n r r w h0 (by omega) h0 (by omega)
 have e : ov (r + r) = false := decide_eq_false (by omega)
 rw [e] at this
 exact this
theorem up_1 (b : Bool) (q r d : Int) (w : World) (hr0 : 0 ≤ r) (hrr : r + r < MM) (hd0 : 0 ≤ d) (hd : d < MM) :
  Calls Try.prog 91 #[.int .i64 1, .bool b, nv q, nv r, nv d] w fun e w' => e = .returned (.bool (decide (cm (r + r) d ≥ 0))) ∧ Mo w w' := by
 refine w_enter 48 Try.func91 Try.ntmps91 rfl rfl ?_
 have M : Mo w w := Mo.refl _
 refine w_seq (w_reg ?_)
 refine wl_box 31 (.tmp 2) (nv (q)) ((nvar (q))) rfl rfl (fun _ => by kernel_rfl) rfl ?_
 intro k1 w1 hk hz hq Q1
 have N_k1 : w.heap.size ≤ k1 := by have := M.size; omega
 replace M := M.trans hq
 clear hk hz hq
 refine wl_box 31 (.tmp 3) (nv (r)) ((nvar (r))) rfl rfl (fun _ => by kernel_rfl) rfl ?_
 intro k2 w2 hk hz hq Q2
 have ne_k1_k2 : k1 ≠ k2 := by have := Q1.lt; omega
 have N_k2 : w.heap.size ≤ k2 := by have := M.size; omega
 replace Q1 := Q1.mo hq
 replace M := M.trans hq
 clear hk hz hq
 refine wl_box 31 (.tmp 4) (nv (d)) ((nvar (d))) rfl rfl (fun _ => by kernel_rfl) rfl ?_
 intro k3 w3 hk hz hq Q3
 have ne_k1_k3 : k1 ≠ k3 := by have := Q1.lt; omega
 have ne_k2_k3 : k2 ≠ k3 := by have := Q2.lt; omega
 have N_k3 : w.heap.size ≤ k3 := by have := M.size; omega
 replace Q1 := Q1.mo hq
 replace Q2 := Q2.mo hq
 replace M := M.trans hq
 clear hk hz hq
 refine wl_m (.const (.bool false)) (.bool false) ?_
 refine w_nil (xn_then (w_seq (w_reg ?_)))
 refine wl_l 31 (.tmp 8) (pt k2 0) (nv (r)) (run_row Q2 31 0 4 (nvli (r)) rfl Try.underlying31 rfl sz24) ?_
 refine wl_l 31 (.tmp 8) (pt k2 0) (nv (r)) (run_row Q2 31 0 4 (nvli (r)) rfl Try.underlying31 rfl sz24) ?_
 refine wl_call 93 [(.tmp 15), (.tmp 16)] _ [nv (r), nv (r)] (.tuple #[nv (r + r), .bool false]) rfl rfl (fun _ _ => by kernel_rfl) (rdbl_n r _ hr0 hrr) rfl ?_
 intro w4 hq
 replace Q1 := Q1.mo hq
 replace Q2 := Q2.mo hq
 replace Q3 := Q3.mo hq
 replace M := M.trans hq
 clear hq
 refine wl_m (.tmp 17) (.tuple #[nv (r + r), .bool false]) ?_
 refine wl_un (fun v => Instr.extract v 0) (.tmp 14) (.tuple #[nv (r + r), .bool false]) (nv (r + r)) (fun _ => rfl) rfl (by kernel_rfl) rfl ?_
 refine wl_un (fun v => Instr.extract v 1) (.tmp 14) (.tuple #[nv (r + r), .bool false]) (.bool false) (fun _ => rfl) rfl (by kernel_rfl) rfl ?_
 refine wl_alloc 31 #[.int .u64 0, .int .u64 0, .int .u64 0, .int .u64 0] rfl (fun _ => by kernel_rfl) rfl ?_
 intro k4 w5 hk hz hq Q4
 have ne_k1_k4 : k1 ≠ k4 := by have := Q1.lt; omega
 have ne_k2_k4 : k2 ≠ k4 := by have := Q2.lt; omega
 have ne_k3_k4 : k3 ≠ k4 := by have := Q3.lt; omega
 have N_k4 : w.heap.size ≤ k4 := by have := M.size; omega
 replace Q1 := Q1.mo hq
 replace Q2 := Q2.mo hq
 replace Q3 := Q3.mo hq
 replace M := M.trans hq
 clear hk hz hq
 refine wl_st 31 (.tmp 11) (.tmp 18) k4 0 (nvar (r + r)) _ (nvli (r + r)) Q4 rfl rfl rfl rfl rfl sz24 rfl rfl rfl ?_
 intro w6 hS Qn
 replace Q4 := Qn
 clear Qn
 replace Q1 := hS.other _ _ ne_k1_k4 Q1
 replace Q2 := hS.other _ _ ne_k2_k4 Q2
 replace Q3 := hS.other _ _ ne_k3_k4 Q3
 replace M := hS.mo _ N_k4 M
 clear hS
 refine wl_m (.tmp 19) (.bool false) ?_
 refine w_nil (xn_then (w_seq (w_reg ?_)))
 refine wl_l 31 (.tmp 11) (pt k4 0) (nv (r + r)) (run_row Q4 31 0 4 (nvli (r + r)) rfl Try.underlying31 rfl sz24) ?_
 refine wl_l 31 (.tmp 9) (pt k3 0) (nv (d)) (run_row Q3 31 0 4 (nvli (d)) rfl Try.underlying31 rfl sz24) ?_
 refine wl_call 63 [(.tmp 20), (.tmp 21)] _ [nv (r + r), nv (d)] (.int .i64 (cm (r + r) d)) rfl rfl (fun _ _ => by kernel_rfl) (rcmp_n (r + r) d _ (by omega) hrr hd0 hd) rfl ?_
 intro w7 hq
 replace Q1 := Q1.mo hq
 replace Q2 := Q2.mo hq
 replace Q3 := Q3.mo hq
 replace Q4 := Q4.mo hq
 replace M := M.trans hq
 clear hq
 refine wl_m (.tmp 22) (.int .i64 (cm (r + r) d)) ?_
 refine w_nil (xn_then (w_seq (w_seq (w_reg ?_))))
 refine wl_m (.tmp 12) (.bool false) ?_
 refine w_nil (xn_then (w_condF rfl (w_skip (xn_then (w_seq (w_seq (w_reg ?_)))))))
 refine wl_m (.tmp 0) (.int .i64 (1)) ?_
 refine w_nil (xn_then (w_block (w_seq (w_reg ?_))))
 refine wl_b .eql 3 (.tmp 24) (.const (.int .i64 (1))) (.int .i64 (1)) (.int .i64 (1)) (.bool true) (by kernel_rfl) ?_
 refine wl_m (.tmp 26) (.bool true) ?_
 refine w_nil (xn_then (w_condT rfl (w_seq (w_reg ?_))))
 refine wl_m (.tmp 13) (.int .i64 (cm (r + r) d)) ?_
 refine wl_b .geq 3 (.tmp 27) (.const (.int .i64 (0))) (.int .i64 (cm (r + r) d)) (.int .i64 (0)) (.bool (decide (cm (r + r) d ≥ 0))) (geqi_run rfl _ _ _) ?_
 refine wl_m (.tmp 28) (.bool (decide (cm (r + r) d ≥ 0))) ?_
 refine w_nil (xn_then (w_ret (xr_blk (xr_then ?_))))
 exact w_ret1 _ _ rfl rfl ⟨rfl, M⟩
theorem up_2gt (b : Bool) (q r d : Int) (w : World) (hr0 : 0 ≤ r) (hrr : r + r < MM) (hd0 : 0 ≤ d) (hd : d < MM) (hg : decide (cm (r + r) d > 0) = true) :
  Calls Try.prog 91 #[.int .i64 2, .bool b, nv q, nv r, nv d] w fun e w' => e = .returned (.bool (true)) ∧ Mo w w' := by
 refine w_enter 48 Try.func91 Try.ntmps91 rfl rfl ?_
 have M : Mo w w := Mo.refl _
 refine w_seq (w_reg ?_)
 refine wl_box 31 (.tmp 2) (nv (q)) ((nvar (q))) rfl rfl (fun _ => by kernel_rfl) rfl ?_
 intro k1 w1 hk hz hq Q1
 have N_k1 : w.heap.size ≤ k1 := by have := M.size; omega
 replace M := M.trans hq
 clear hk hz hq
 refine wl_box 31 (.tmp 3) (nv (r)) ((nvar (r))) rfl rfl (fun _ => by kernel_rfl) rfl ?_
 intro k2 w2 hk hz hq Q2
 have ne_k1_k2 : k1 ≠ k2 := by have := Q1.lt; omega
 have N_k2 : w.heap.size ≤ k2 := by have := M.size; omega
 replace Q1 := Q1.mo hq
 replace M := M.trans hq
 clear hk hz hq
 refine wl_box 31 (.tmp 4) (nv (d)) ((nvar (d))) rfl rfl (fun _ => by kernel_rfl) rfl ?_
 intro k3 w3 hk hz hq Q3
 have ne_k1_k3 : k1 ≠ k3 := by have := Q1.lt; omega
 have ne_k2_k3 : k2 ≠ k3 := by have := Q2.lt; omega
 have N_k3 : w.heap.size ≤ k3 := by have := M.size; omega
 replace Q1 := Q1.mo hq
 replace Q2 := Q2.mo hq
 replace M := M.trans hq
 clear hk hz hq
 refine wl_m (.const (.bool false)) (.bool false) ?_
 refine w_nil (xn_then (w_seq (w_reg ?_)))
 refine wl_l 31 (.tmp 8) (pt k2 0) (nv (r)) (run_row Q2 31 0 4 (nvli (r)) rfl Try.underlying31 rfl sz24) ?_
 refine wl_l 31 (.tmp 8) (pt k2 0) (nv (r)) (run_row Q2 31 0 4 (nvli (r)) rfl Try.underlying31 rfl sz24) ?_
 refine wl_call 93 [(.tmp 15), (.tmp 16)] _ [nv (r), nv (r)] (.tuple #[nv (r + r), .bool false]) rfl rfl (fun _ _ => by kernel_rfl) (rdbl_n r _ hr0 hrr) rfl ?_
 intro w4 hq
 replace Q1 := Q1.mo hq
 replace Q2 := Q2.mo hq
 replace Q3 := Q3.mo hq
 replace M := M.trans hq
 clear hq
 refine wl_m (.tmp 17) (.tuple #[nv (r + r), .bool false]) ?_
 refine wl_un (fun v => Instr.extract v 0) (.tmp 14) (.tuple #[nv (r + r), .bool false]) (nv (r + r)) (fun _ => rfl) rfl (by kernel_rfl) rfl ?_
 refine wl_un (fun v => Instr.extract v 1) (.tmp 14) (.tuple #[nv (r + r), .bool false]) (.bool false) (fun _ => rfl) rfl (by kernel_rfl) rfl ?_
 refine wl_alloc 31 #[.int .u64 0, .int .u64 0, .int .u64 0, .int .u64 0] rfl (fun _ => by kernel_rfl) rfl ?_
 intro k4 w5 hk hz hq Q4
 have ne_k1_k4 : k1 ≠ k4 := by have := Q1.lt; omega
 have ne_k2_k4 : k2 ≠ k4 := by have := Q2.lt; omega
 have ne_k3_k4 : k3 ≠ k4 := by have := Q3.lt; omega
 have N_k4 : w.heap.size ≤ k4 := by have := M.size; omega
 replace Q1 := Q1.mo hq
 replace Q2 := Q2.mo hq
 replace Q3 := Q3.mo hq
 replace M := M.trans hq
 clear hk hz hq
 refine wl_st 31 (.tmp 11) (.tmp 18) k4 0 (nvar (r + r)) _ (nvli (r + r)) Q4 rfl rfl rfl rfl rfl sz24 rfl rfl rfl ?_
 intro w6 hS Qn
 replace Q4 := Qn
 clear Qn
 replace Q1 := hS.other _ _ ne_k1_k4 Q1
 replace Q2 := hS.other _ _ ne_k2_k4 Q2
 replace Q3 := hS.other _ _ ne_k3_k4 Q3
 replace M := hS.mo _ N_k4 M
 clear hS
 refine wl_m (.tmp 19) (.bool false) ?_
 refine w_nil (xn_then (w_seq (w_reg ?_)))
 refine wl_l 31 (.tmp 11) (pt k4 0) (nv (r + r)) (run_row Q4 31 0 4 (nvli (r + r)) rfl Try.underlying31 rfl sz24) ?_
 refine wl_l 31 (.tmp 9) (pt k3 0) (nv (d)) (run_row Q3 31 0 4 (nvli (d)) rfl Try.underlying31 rfl sz24) ?_
 refine wl_call 63 [(.tmp 20), (.tmp 21)] _ [nv (r + r), nv (d)] (.int .i64 (cm (r + r) d)) rfl rfl (fun _ _ => by kernel_rfl) (rcmp_n (r + r) d _ (by omega) hrr hd0 hd) rfl ?_
 intro w7 hq
 replace Q1 := Q1.mo hq
 replace Q2 := Q2.mo hq
 replace Q3 := Q3.mo hq
 replace Q4 := Q4.mo hq
 replace M := M.trans hq
 clear hq
 refine wl_m (.tmp 22) (.int .i64 (cm (r + r) d)) ?_
 refine w_nil (xn_then (w_seq (w_seq (w_reg ?_))))
 refine wl_m (.tmp 12) (.bool false) ?_
 refine w_nil (xn_then (w_condF rfl (w_skip (xn_then (w_seq (w_seq (w_reg ?_)))))))
 refine wl_m (.tmp 0) (.int .i64 (2)) ?_
 refine w_nil (xn_then (w_block (w_seq (w_reg ?_))))
 refine wl_b .eql 3 (.tmp 24) (.const (.int .i64 (1))) (.int .i64 (2)) (.int .i64 (1)) (.bool false) (by kernel_rfl) ?_
 refine wl_m (.tmp 26) (.bool false) ?_
 refine w_nil (xn_then (w_condF rfl (w_seq (w_reg ?_))))
 refine wl_b .eql 3 (.tmp 24) (.const (.int .i64 (2))) (.int .i64 (2)) (.int .i64 (2)) (.bool true) (by kernel_rfl) ?_
 refine wl_m (.tmp 30) (.bool true) ?_
 refine w_nil (xn_then (w_condT rfl (w_seq (w_reg ?_))))
 refine wl_m (.tmp 13) (.int .i64 (cm (r + r) d)) ?_
 refine wl_b .gtr 3 (.tmp 31) (.const (.int .i64 (0))) (.int .i64 (cm (r + r) d)) (.int .i64 (0)) (.bool true) (gti3_run hg _ _ _) ?_
 refine wl_m (.tmp 32) (.bool true) ?_
 refine wl_skip rfl (wl_skip rfl (wl_skip rfl (wl_skip rfl (wl_skip rfl (wl_skip rfl (wl_skip rfl (wl_skip rfl ?_)))))))
 refine wl_pick (.tmp 33) (.const (.bool true)) (.tmp 41) true (.bool true) (fun _ => rfl) rfl rfl rfl ?_
 refine wl_m (.tmp 42) (.bool true) ?_
 refine w_nil (xn_then (w_ret (xr_blk (xr_then ?_))))
 exact w_ret1 _ _ rfl rfl ⟨rfl, M⟩
theorem up_2eq (b : Bool) (q r d : Int) (c : Int) (o : Bool) (w : World) (hr0 : 0 ≤ r) (hrr : r + r < MM) (hd0 : 0 ≤ d) (hd : d < MM) (hg : decide (cm (r + r) d > 0) = false) (he : (cm (r + r) d == 0) = true) (hc : (l0 q).tmod 2 = c) (ho : (c == 1) = o) :
  Calls Try.prog 91 #[.int .i64 2, .bool b, nv q, nv r, nv d] w fun e w' => e = .returned (.bool (o)) ∧ Mo w w' := by
 refine w_enter 48 Try.func91 Try.ntmps91 rfl rfl ?_
 have M : Mo w w := Mo.refl _
 refine w_seq (w_reg ?_)
 refine wl_box 31 (.tmp 2) (nv (q)) ((nvar (q))) rfl rfl (fun _ => by kernel_rfl) rfl ?_
 intro k1 w1 hk hz hq Q1
 have N_k1 : w.heap.size ≤ k1 := by have := M.size; omega
 replace M := M.trans hq
 clear hk hz hq
 refine wl_box 31 (.tmp 3) (nv (r)) ((nvar (r))) rfl rfl (fun _ => by kernel_rfl) rfl ?_
 intro k2 w2 hk hz hq Q2
 have ne_k1_k2 : k1 ≠ k2 := by have := Q1.lt; omega
 have N_k2 : w.heap.size ≤ k2 := by have := M.size; omega
 replace Q1 := Q1.mo hq
 replace M := M.trans hq
 clear hk hz hq
 refine wl_box 31 (.tmp 4) (nv (d)) ((nvar (d))) rfl rfl (fun _ => by kernel_rfl) rfl ?_
 intro k3 w3 hk hz hq Q3
 have ne_k1_k3 : k1 ≠ k3 := by have := Q1.lt; omega
 have ne_k2_k3 : k2 ≠ k3 := by have := Q2.lt; omega
 have N_k3 : w.heap.size ≤ k3 := by have := M.size; omega
 replace Q1 := Q1.mo hq
 replace Q2 := Q2.mo hq
 replace M := M.trans hq
 clear hk hz hq
 refine wl_m (.const (.bool false)) (.bool false) ?_
 refine w_nil (xn_then (w_seq (w_reg ?_)))
 refine wl_l 31 (.tmp 8) (pt k2 0) (nv (r)) (run_row Q2 31 0 4 (nvli (r)) rfl Try.underlying31 rfl sz24) ?_
 refine wl_l 31 (.tmp 8) (pt k2 0) (nv (r)) (run_row Q2 31 0 4 (nvli (r)) rfl Try.underlying31 rfl sz24) ?_
 refine wl_call 93 [(.tmp 15), (.tmp 16)] _ [nv (r), nv (r)] (.tuple #[nv (r + r), .bool false]) rfl rfl (fun _ _ => by kernel_rfl) (rdbl_n r _ hr0 hrr) rfl ?_
 intro w4 hq
 replace Q1 := Q1.mo hq
 replace Q2 := Q2.mo hq
 replace Q3 := Q3.mo hq
 replace M := M.trans hq
 clear hq
 refine wl_m (.tmp 17) (.tuple #[nv (r + r), .bool false]) ?_
 refine wl_un (fun v => Instr.extract v 0) (.tmp 14) (.tuple #[nv (r + r), .bool false]) (nv (r + r)) (fun _ => rfl) rfl (by kernel_rfl) rfl ?_
 refine wl_un (fun v => Instr.extract v 1) (.tmp 14) (.tuple #[nv (r + r), .bool false]) (.bool false) (fun _ => rfl) rfl (by kernel_rfl) rfl ?_
 refine wl_alloc 31 #[.int .u64 0, .int .u64 0, .int .u64 0, .int .u64 0] rfl (fun _ => by kernel_rfl) rfl ?_
 intro k4 w5 hk hz hq Q4
 have ne_k1_k4 : k1 ≠ k4 := by have := Q1.lt; omega
 have ne_k2_k4 : k2 ≠ k4 := by have := Q2.lt; omega
 have ne_k3_k4 : k3 ≠ k4 := by have := Q3.lt; omega
 have N_k4 : w.heap.size ≤ k4 := by have := M.size; omega
 replace Q1 := Q1.mo hq
 replace Q2 := Q2.mo hq
 replace Q3 := Q3.mo hq
 replace M := M.trans hq
 clear hk hz hq
 refine wl_st 31 (.tmp 11) (.tmp 18) k4 0 (nvar (r + r)) _ (nvli (r + r)) Q4 rfl rfl rfl rfl rfl sz24 rfl rfl rfl ?_
 intro w6 hS Qn
 replace Q4 := Qn
 clear Qn
 replace Q1 := hS.other _ _ ne_k1_k4 Q1
 replace Q2 := hS.other _ _ ne_k2_k4 Q2
 replace Q3 := hS.other _ _ ne_k3_k4 Q3
 replace M := hS.mo _ N_k4 M
 clear hS
 refine wl_m (.tmp 19) (.bool false) ?_
 refine w_nil (xn_then (w_seq (w_reg ?_)))
 refine wl_l 31 (.tmp 11) (pt k4 0) (nv (r + r)) (run_row Q4 31 0 4 (nvli (r + r)) rfl Try.underlying31 rfl sz24) ?_
 refine wl_l 31 (.tmp 9) (pt k3 0) (nv (d)) (run_row Q3 31 0 4 (nvli (d)) rfl Try.underlying31 rfl sz24) ?_
 refine wl_call 63 [(.tmp 20), (.tmp 21)] _ [nv (r + r), nv (d)] (.int .i64 (cm (r + r) d)) rfl rfl (fun _ _ => by kernel_rfl) (rcmp_n (r + r) d _ (by omega) hrr hd0 hd) rfl ?_
 intro w7 hq
 replace Q1 := Q1.mo hq
 replace Q2 := Q2.mo hq
 replace Q3 := Q3.mo hq
 replace Q4 := Q4.mo hq
 replace M := M.trans hq
 clear hq
 refine wl_m (.tmp 22) (.int .i64 (cm (r + r) d)) ?_
 refine w_nil (xn_then (w_seq (w_seq (w_reg ?_))))
 refine wl_m (.tmp 12) (.bool false) ?_
 refine w_nil (xn_then (w_condF rfl (w_skip (xn_then (w_seq (w_seq (w_reg ?_)))))))
 refine wl_m (.tmp 0) (.int .i64 (2)) ?_
 refine w_nil (xn_then (w_block (w_seq (w_reg ?_))))
 refine wl_b .eql 3 (.tmp 24) (.const (.int .i64 (1))) (.int .i64 (2)) (.int .i64 (1)) (.bool false) (by kernel_rfl) ?_
 refine wl_m (.tmp 26) (.bool false) ?_
 refine w_nil (xn_then (w_condF rfl (w_seq (w_reg ?_))))
 refine wl_b .eql 3 (.tmp 24) (.const (.int .i64 (2))) (.int .i64 (2)) (.int .i64 (2)) (.bool true) (by kernel_rfl) ?_
 refine wl_m (.tmp 30) (.bool true) ?_
 refine w_nil (xn_then (w_condT rfl (w_seq (w_reg ?_))))
 refine wl_m (.tmp 13) (.int .i64 (cm (r + r) d)) ?_
 refine wl_b .gtr 3 (.tmp 31) (.const (.int .i64 (0))) (.int .i64 (cm (r + r) d)) (.int .i64 (0)) (.bool false) (gti3_run hg _ _ _) ?_
 refine wl_m (.tmp 32) (.bool false) ?_
 refine wl_m (.tmp 13) (.int .i64 (cm (r + r) d)) ?_
 refine wl_b .eql 3 (.tmp 34) (.const (.int .i64 (0))) (.int .i64 (cm (r + r) d)) (.int .i64 (0)) (.bool true) (eqi3_run he _ _ _) ?_
 refine wl_m (.tmp 35) (.bool true) ?_
 refine wl_bin (fun x y => Instr.indexAt 31 x y) (.tmp 7) (.const (.int .i64 (0))) (pt k1 0) (.int .i64 (0)) (pt k1 0) (fun _ => rfl) rfl rfl (by kernel_rfl) rfl ?_
 refine wl_l 29 (.tmp 37) (pt k1 0) (.int .u64 (l0 (q))) (run_one Q1 29 0 rfl Try.underlying29 rfl) ?_
 refine wl_b .rem 29 (.tmp 38) (.const (.int .u64 (2))) (.int .u64 (l0 (q))) (.int .u64 (2)) (.int .u64 (c)) (rem22_run hc _ _ _) ?_
 refine wl_b .eql 29 (.tmp 39) (.const (.int .u64 (1))) (.int .u64 (c)) (.int .u64 (1)) (.bool (o)) (eq22_run ho _ _ _) ?_
 refine wl_pick (.tmp 36) (.tmp 40) (.const (.bool false)) true (.bool (o)) (fun _ => rfl) rfl rfl rfl ?_
 refine wl_pick (.tmp 33) (.const (.bool true)) (.tmp 41) false (.bool (o)) (fun _ => rfl) rfl rfl rfl ?_
 refine wl_m (.tmp 42) (.bool (o)) ?_
 refine w_nil (xn_then (w_ret (xr_blk (xr_then ?_))))
 exact w_ret1 _ _ rfl rfl ⟨rfl, M⟩
theorem up_2lt (b : Bool) (q r d : Int) (w : World) (hr0 : 0 ≤ r) (hrr : r + r < MM) (hd0 : 0 ≤ d) (hd : d < MM) (hg : decide (cm (r + r) d > 0) = false) (he : (cm (r + r) d == 0) = false) :
  Calls Try.prog 91 #[.int .i64 2, .bool b, nv q, nv r, nv d] w fun e w' => e = .returned (.bool (false)) ∧ Mo w w' := by
 refine w_enter 48 Try.func91 Try.ntmps91 rfl rfl ?_
 have M : Mo w w := Mo.refl _
 refine w_seq (w_reg ?_)
 refine wl_box 31 (.tmp 2) (nv (q)) ((nvar (q))) rfl rfl (fun _ => by kernel_rfl) rfl ?_
 intro k1 w1 hk hz hq Q1
 have N_k1 : w.heap.size ≤ k1 := by have := M.size; omega
 replace M := M.trans hq
 clear hk hz hq
 refine wl_box 31 (.tmp 3) (nv (r)) ((nvar (r))) rfl rfl (fun _ => by kernel_rfl) rfl ?_
 intro k2 w2 hk hz hq Q2
 have ne_k1_k2 : k1 ≠ k2 := by have := Q1.lt; omega
 have N_k2 : w.heap.size ≤ k2 := by have := M.size; omega
 replace Q1 := Q1.mo hq
 replace M := M.trans hq
 clear hk hz hq
 refine wl_box 31 (.tmp 4) (nv (d)) ((nvar (d))) rfl rfl (fun _ => by kernel_rfl) rfl ?_
 intro k3 w3 hk hz hq Q3
 have ne_k1_k3 : k1 ≠ k3 := by have := Q1.lt; omega
 have ne_k2_k3 : k2 ≠ k3 := by have := Q2.lt; omega
 have N_k3 : w.heap.size ≤ k3 := by have := M.size; omega
 replace Q1 := Q1.mo hq
 replace Q2 := Q2.mo hq
 replace M := M.trans hq
 clear hk hz hq
 refine wl_m (.const (.bool false)) (.bool false) ?_
 refine w_nil (xn_then (w_seq (w_reg ?_)))
 refine wl_l 31 (.tmp 8) (pt k2 0) (nv (r)) (run_row Q2 31 0 4 (nvli (r)) rfl Try.underlying31 rfl sz24) ?_
 refine wl_l 31 (.tmp 8) (pt k2 0) (nv (r)) (run_row Q2 31 0 4 (nvli (r)) rfl Try.underlying31 rfl sz24) ?_
 refine wl_call 93 [(.tmp 15), (.tmp 16)] _ [nv (r), nv (r)] (.tuple #[nv (r + r), .bool false]) rfl rfl (fun _ _ => by kernel_rfl) (rdbl_n r _ hr0 hrr) rfl ?_
 intro w4 hq
 replace Q1 := Q1.mo hq
 replace Q2 := Q2.mo hq
 replace Q3 := Q3.mo hq
 replace M := M.trans hq
 clear hq
 refine wl_m (.tmp 17) (.tuple #[nv (r + r), .bool false]) ?_
 refine wl_un (fun v => Instr.extract v 0) (.tmp 14) (.tuple #[nv (r + r), .bool false]) (nv (r + r)) (fun _ => rfl) rfl (by kernel_rfl) rfl ?_
 refine wl_un (fun v => Instr.extract v 1) (.tmp 14) (.tuple #[nv (r + r), .bool false]) (.bool false) (fun _ => rfl) rfl (by kernel_rfl) rfl ?_
 refine wl_alloc 31 #[.int .u64 0, .int .u64 0, .int .u64 0, .int .u64 0] rfl (fun _ => by kernel_rfl) rfl ?_
 intro k4 w5 hk hz hq Q4
 have ne_k1_k4 : k1 ≠ k4 := by have := Q1.lt; omega
 have ne_k2_k4 : k2 ≠ k4 := by have := Q2.lt; omega
 have ne_k3_k4 : k3 ≠ k4 := by have := Q3.lt; omega
 have N_k4 : w.heap.size ≤ k4 := by have := M.size; omega
 replace Q1 := Q1.mo hq
 replace Q2 := Q2.mo hq
 replace Q3 := Q3.mo hq
 replace M := M.trans hq
 clear hk hz hq
 refine wl_st 31 (.tmp 11) (.tmp 18) k4 0 (nvar (r + r)) _ (nvli (r + r)) Q4 rfl rfl rfl rfl rfl sz24 rfl rfl rfl ?_
 intro w6 hS Qn
 replace Q4 := Qn
 clear Qn
 replace Q1 := hS.other _ _ ne_k1_k4 Q1
 replace Q2 := hS.other _ _ ne_k2_k4 Q2
 replace Q3 := hS.other _ _ ne_k3_k4 Q3
 replace M := hS.mo _ N_k4 M
 clear hS
 refine wl_m (.tmp 19) (.bool false) ?_
 refine w_nil (xn_then (w_seq (w_reg ?_)))
 refine wl_l 31 (.tmp 11) (pt k4 0) (nv (r + r)) (run_row Q4 31 0 4 (nvli (r + r)) rfl Try.underlying31 rfl sz24) ?_
 refine wl_l 31 (.tmp 9) (pt k3 0) (nv (d)) (run_row Q3 31 0 4 (nvli (d)) rfl Try.underlying31 rfl sz24) ?_
 refine wl_call 63 [(.tmp 20), (.tmp 21)] _ [nv (r + r), nv (d)] (.int .i64 (cm (r + r) d)) rfl rfl (fun _ _ => by kernel_rfl) (rcmp_n (r + r) d _ (by omega) hrr hd0 hd) rfl ?_
 intro w7 hq
 replace Q1 := Q1.mo hq
 replace Q2 := Q2.mo hq
 replace Q3 := Q3.mo hq
 replace Q4 := Q4.mo hq
 replace M := M.trans hq
 clear hq
 refine wl_m (.tmp 22) (.int .i64 (cm (r + r) d)) ?_
 refine w_nil (xn_then (w_seq (w_seq (w_reg ?_))))
 refine wl_m (.tmp 12) (.bool false) ?_
 refine w_nil (xn_then (w_condF rfl (w_skip (xn_then (w_seq (w_seq (w_reg ?_)))))))
 refine wl_m (.tmp 0) (.int .i64 (2)) ?_
 refine w_nil (xn_then (w_block (w_seq (w_reg ?_))))
 refine wl_b .eql 3 (.tmp 24) (.const (.int .i64 (1))) (.int .i64 (2)) (.int .i64 (1)) (.bool false) (by kernel_rfl) ?_
 refine wl_m (.tmp 26) (.bool false) ?_
 refine w_nil (xn_then (w_condF rfl (w_seq (w_reg ?_))))
 refine wl_b .eql 3 (.tmp 24) (.const (.int .i64 (2))) (.int .i64 (2)) (.int .i64 (2)) (.bool true) (by kernel_rfl) ?_
 refine wl_m (.tmp 30) (.bool true) ?_
 refine w_nil (xn_then (w_condT rfl (w_seq (w_reg ?_))))
 refine wl_m (.tmp 13) (.int .i64 (cm (r + r) d)) ?_
 refine wl_b .gtr 3 (.tmp 31) (.const (.int .i64 (0))) (.int .i64 (cm (r + r) d)) (.int .i64 (0)) (.bool false) (gti3_run hg _ _ _) ?_
 refine wl_m (.tmp 32) (.bool false) ?_
 refine wl_m (.tmp 13) (.int .i64 (cm (r + r) d)) ?_
 refine wl_b .eql 3 (.tmp 34) (.const (.int .i64 (0))) (.int .i64 (cm (r + r) d)) (.int .i64 (0)) (.bool false) (eqi3_run he _ _ _) ?_
 refine wl_m (.tmp 35) (.bool false) ?_
 refine wl_skip rfl (wl_skip rfl (wl_skip rfl (wl_skip rfl ?_)))
 refine wl_pick (.tmp 36) (.tmp 40) (.const (.bool false)) false (.bool false) (fun _ => rfl) rfl rfl rfl ?_
 refine wl_pick (.tmp 33) (.const (.bool true)) (.tmp 41) false (.bool false) (fun _ => rfl) rfl rfl rfl ?_
 refine wl_m (.tmp 42) (.bool false) ?_
 refine w_nil (xn_then (w_ret (xr_blk (xr_then ?_))))
 exact w_ret1 _ _ rfl rfl ⟨rfl, M⟩
theorem up_3 (b : Bool) (q r d : Int) (w : World) (hr0 : 0 ≤ r) (hrr : r + r < MM) (hd0 : 0 ≤ d) (hd : d < MM) :
  Calls Try.prog 91 #[.int .i64 3, .bool b, nv q, nv r, nv d] w fun e w' => e = .returned (.bool (false)) ∧ Mo w w' := by
 refine w_enter 48 Try.func91 Try.ntmps91 rfl rfl ?_
 have M : Mo w w := Mo.refl _
 refine w_seq (w_reg ?_)
 refine wl_box 31 (.tmp 2) (nv (q)) ((nvar (q))) rfl rfl (fun _ => by kernel_rfl) rfl ?_
 intro k1 w1 hk hz hq Q1
 have N_k1 : w.heap.size ≤ k1 := by have := M.size; omega
 replace M := M.trans hq
 clear hk hz hq
 refine wl_box 31 (.tmp 3) (nv (r)) ((nvar (r))) rfl rfl (fun _ => by kernel_rfl) rfl ?_
 intro k2 w2 hk hz hq Q2
 have ne_k1_k2 : k1 ≠ k2 := by have := Q1.lt; omega
 have N_k2 : w.heap.size ≤ k2 := by have := M.size; omega
 replace Q1 := Q1.mo hq
 replace M := M.trans hq
 clear hk hz hq
 refine wl_box 31 (.tmp 4) (nv (d)) ((nvar (d))) rfl rfl (fun _ => by kernel_rfl) rfl ?_
 intro k3 w3 hk hz hq Q3
 have ne_k1_k3 : k1 ≠ k3 := by have := Q1.lt; omega
 have ne_k2_k3 : k2 ≠ k3 := by have := Q2.lt; omega
 have N_k3 : w.heap.size ≤ k3 := by have := M.size; omega
 replace Q1 := Q1.mo hq
 replace Q2 := Q2.mo hq
 replace M := M.trans hq
 clear hk hz hq
 refine wl_m (.const (.bool false)) (.bool false) ?_
 refine w_nil (xn_then (w_seq (w_reg ?_)))
 refine wl_l 31 (.tmp 8) (pt k2 0) (nv (r)) (run_row Q2 31 0 4 (nvli (r)) rfl Try.underlying31 rfl sz24) ?_
 refine wl_l 31 (.tmp 8) (pt k2 0) (nv (r)) (run_row Q2 31 0 4 (nvli (r)) rfl Try.underlying31 rfl sz24) ?_
 refine wl_call 93 [(.tmp 15), (.tmp 16)] _ [nv (r), nv (r)] (.tuple #[nv (r + r), .bool false]) rfl rfl (fun _ _ => by kernel_rfl) (rdbl_n r _ hr0 hrr) rfl ?_
 intro w4 hq
 replace Q1 := Q1.mo hq
 replace Q2 := Q2.mo hq
 replace Q3 := Q3.mo hq
 replace M := M.trans hq
 clear hq
 refine wl_m (.tmp 17) (.tuple #[nv (r + r), .bool false]) ?_
 refine wl_un (fun v => Instr.extract v 0) (.tmp 14) (.tuple #[nv (r + r), .bool false]) (nv (r + r)) (fun _ => rfl) rfl (by kernel_rfl) rfl ?_
 refine wl_un (fun v => Instr.extract v 1) (.tmp 14) (.tuple #[nv (r + r), .bool false]) (.bool false) (fun _ => rfl) rfl (by kernel_rfl) rfl ?_
 refine wl_alloc 31 #[.int .u64 0, .int .u64 0, .int .u64 0, .int .u64 0] rfl (fun _ => by kernel_rfl) rfl ?_
 intro k4 w5 hk hz hq Q4
 have ne_k1_k4 : k1 ≠ k4 := by have := Q1.lt; omega
 have ne_k2_k4 : k2 ≠ k4 := by have := Q2.lt; omega
 have ne_k3_k4 : k3 ≠ k4 := by have := Q3.lt; omega
 have N_k4 : w.heap.size ≤ k4 := by have := M.size; omega
 replace Q1 := Q1.mo hq
 replace Q2 := Q2.mo hq
 replace Q3 := Q3.mo hq
 replace M := M.trans hq
 clear hk hz hq
 refine wl_st 31 (.tmp 11) (.tmp 18) k4 0 (nvar (r + r)) _ (nvli (r + r)) Q4 rfl rfl rfl rfl rfl sz24 rfl rfl rfl ?_
 intro w6 hS Qn
 replace Q4 := Qn
 clear Qn
 replace Q1 := hS.other _ _ ne_k1_k4 Q1
 replace Q2 := hS.other _ _ ne_k2_k4 Q2
 replace Q3 := hS.other _ _ ne_k3_k4 Q3
 replace M := hS.mo _ N_k4 M
 clear hS
 refine wl_m (.tmp 19) (.bool false) ?_
 refine w_nil (xn_then (w_seq (w_reg ?_)))
 refine wl_l 31 (.tmp 11) (pt k4 0) (nv (r + r)) (run_row Q4 31 0 4 (nvli (r + r)) rfl Try.underlying31 rfl sz24) ?_
 refine wl_l 31 (.tmp 9) (pt k3 0) (nv (d)) (run_row Q3 31 0 4 (nvli (d)) rfl Try.underlying31 rfl sz24) ?_
 refine wl_call 63 [(.tmp 20), (.tmp 21)] _ [nv (r + r), nv (d)] (.int .i64 (cm (r + r) d)) rfl rfl (fun _ _ => by kernel_rfl) (rcmp_n (r + r) d _ (by omega) hrr hd0 hd) rfl ?_
 intro w7 hq
 replace Q1 := Q1.mo hq
 replace Q2 := Q2.mo hq
 replace Q3 := Q3.mo hq
 replace Q4 := Q4.mo hq
 replace M := M.trans hq
 clear hq
 refine wl_m (.tmp 22) (.int .i64 (cm (r + r) d)) ?_
 refine w_nil (xn_then (w_seq (w_seq (w_reg ?_))))
 refine wl_m (.tmp 12) (.bool false) ?_
 refine w_nil (xn_then (w_condF rfl (w_skip (xn_then (w_seq (w_seq (w_reg ?_)))))))
 refine wl_m (.tmp 0) (.int .i64 (3)) ?_
 refine w_nil (xn_then (w_block (w_seq (w_reg ?_))))
 refine wl_b .eql 3 (.tmp 24) (.const (.int .i64 (1))) (.int .i64 (3)) (.int .i64 (1)) (.bool false) (by kernel_rfl) ?_
 refine wl_m (.tmp 26) (.bool false) ?_
 refine w_nil (xn_then (w_condF rfl (w_seq (w_reg ?_))))
 refine wl_b .eql 3 (.tmp 24) (.const (.int .i64 (2))) (.int .i64 (3)) (.int .i64 (2)) (.bool false) (by kernel_rfl) ?_
 refine wl_m (.tmp 30) (.bool false) ?_
 refine w_nil (xn_then (w_condF rfl (w_seq (w_reg ?_))))
 refine wl_b .eql 3 (.tmp 24) (.const (.int .i64 (4))) (.int .i64 (3)) (.int .i64 (4)) (.bool false) (by kernel_rfl) ?_
 refine wl_m (.tmp 44) (.bool false) ?_
 refine w_nil (xn_then (w_condF rfl (w_seq (w_reg ?_))))
 refine wl_b .eql 3 (.tmp 24) (.const (.int .i64 (5))) (.int .i64 (3)) (.int .i64 (5)) (.bool false) (by kernel_rfl) ?_
 refine wl_m (.tmp 46) (.bool false) ?_
 refine w_nil (xn_then (w_condF rfl (w_skip (xn_blk (xn_then (w_seq (w_reg ?_)))))))
 refine wl_m (.const (.bool false)) (.bool false) ?_
 refine w_nil (xn_then (w_ret ?_))
 exact w_ret1 _ _ rfl rfl ⟨rfl, M⟩
theorem up_4 (b : Bool) (q r d : Int) (w : World) (hr0 : 0 ≤ r) (hrr : r + r < MM) (hd0 : 0 ≤ d) (hd : d < MM) :
  Calls Try.prog 91 #[.int .i64 4, .bool b, nv q, nv r, nv d] w fun e w' => e = .returned (.bool (true)) ∧ Mo w w' := by
 refine w_enter 48 Try.func91 Try.ntmps91 rfl rfl ?_
 have M : Mo w w := Mo.refl _
 refine w_seq (w_reg ?_)
 refine wl_box 31 (.tmp 2) (nv (q)) ((nvar (q))) rfl rfl (fun _ => by kernel_rfl) rfl ?_
 intro k1 w1 hk hz hq Q1
 have N_k1 : w.heap.size ≤ k1 := by have := M.size; omega
 replace M := M.trans hq
 clear hk hz hq
 refine wl_box 31 (.tmp 3) (nv (r)) ((nvar (r))) rfl rfl (fun _ => by kernel_rfl) rfl ?_
 intro k2 w2 hk hz hq Q2
 have ne_k1_k2 : k1 ≠ k2 := by have := Q1.lt; omega
 have N_k2 : w.heap.size ≤ k2 := by have := M.size; omega
 replace Q1 := Q1.mo hq
 replace M := M.trans hq
 clear hk hz hq
 refine wl_box 31 (.tmp 4) (nv (d)) ((nvar (d))) rfl rfl (fun _ => by kernel_rfl) rfl ?_
 intro k3 w3 hk hz hq Q3
 have ne_k1_k3 : k1 ≠ k3 := by have := Q1.lt; omega
 have ne_k2_k3 : k2 ≠ k3 := by have := Q2.lt; omega
 have N_k3 : w.heap.size ≤ k3 := by have := M.size; omega
 replace Q1 := Q1.mo hq
 replace Q2 := Q2.mo hq
 replace M := M.trans hq
 clear hk hz hq
 refine wl_m (.const (.bool false)) (.bool false) ?_
 refine w_nil (xn_then (w_seq (w_reg ?_)))
 refine wl_l 31 (.tmp 8) (pt k2 0) (nv (r)) (run_row Q2 31 0 4 (nvli (r)) rfl Try.underlying31 rfl sz24) ?_
 refine wl_l 31 (.tmp 8) (pt k2 0) (nv (r)) (run_row Q2 31 0 4 (nvli (r)) rfl Try.underlying31 rfl sz24) ?_
 refine wl_call 93 [(.tmp 15), (.tmp 16)] _ [nv (r), nv (r)] (.tuple #[nv (r + r), .bool false]) rfl rfl (fun _ _ => by kernel_rfl) (rdbl_n r _ hr0 hrr) rfl ?_
 intro w4 hq
 replace Q1 := Q1.mo hq
 replace Q2 := Q2.mo hq
 replace Q3 := Q3.mo hq
 replace M := M.trans hq
 clear hq
 refine wl_m (.tmp 17) (.tuple #[nv (r + r), .bool false]) ?_
 refine wl_un (fun v => Instr.extract v 0) (.tmp 14) (.tuple #[nv (r + r), .bool false]) (nv (r + r)) (fun _ => rfl) rfl (by kernel_rfl) rfl ?_
 refine wl_un (fun v => Instr.extract v 1) (.tmp 14) (.tuple #[nv (r + r), .bool false]) (.bool false) (fun _ => rfl) rfl (by kernel_rfl) rfl ?_
 refine wl_alloc 31 #[.int .u64 0, .int .u64 0, .int .u64 0, .int .u64 0] rfl (fun _ => by kernel_rfl) rfl ?_
 intro k4 w5 hk hz hq Q4
 have ne_k1_k4 : k1 ≠ k4 := by have := Q1.lt; omega
 have ne_k2_k4 : k2 ≠ k4 := by have := Q2.lt; omega
 have ne_k3_k4 : k3 ≠ k4 := by have := Q3.lt; omega
 have N_k4 : w.heap.size ≤ k4 := by have := M.size; omega
 replace Q1 := Q1.mo hq
 replace Q2 := Q2.mo hq
 replace Q3 := Q3.mo hq
 replace M := M.trans hq
 clear hk hz hq
 refine wl_st 31 (.tmp 11) (.tmp 18) k4 0 (nvar (r + r)) _ (nvli (r + r)) Q4 rfl rfl rfl rfl rfl sz24 rfl rfl rfl ?_
 intro w6 hS Qn
 replace Q4 := Qn
 clear Qn
 replace Q1 := hS.other _ _ ne_k1_k4 Q1
 replace Q2 := hS.other _ _ ne_k2_k4 Q2
 replace Q3 := hS.other _ _ ne_k3_k4 Q3
 replace M := hS.mo _ N_k4 M
 clear hS
 refine wl_m (.tmp 19) (.bool false) ?_
 refine w_nil (xn_then (w_seq (w_reg ?_)))
 refine wl_l 31 (.tmp 11) (pt k4 0) (nv (r + r)) (run_row Q4 31 0 4 (nvli (r + r)) rfl Try.underlying31 rfl sz24) ?_
 refine wl_l 31 (.tmp 9) (pt k3 0) (nv (d)) (run_row Q3 31 0 4 (nvli (d)) rfl Try.underlying31 rfl sz24) ?_
 refine wl_call 63 [(.tmp 20), (.tmp 21)] _ [nv (r + r), nv (d)] (.int .i64 (cm (r + r) d)) rfl rfl (fun _ _ => by kernel_rfl) (rcmp_n (r + r) d _ (by omega) hrr hd0 hd) rfl ?_
 intro w7 hq
 replace Q1 := Q1.mo hq
 replace Q2 := Q2.mo hq
 replace Q3 := Q3.mo hq
 replace Q4 := Q4.mo hq
 replace M := M.trans hq
 clear hq
 refine wl_m (.tmp 22) (.int .i64 (cm (r + r) d)) ?_
 refine w_nil (xn_then (w_seq (w_seq (w_reg ?_))))
 refine wl_m (.tmp 12) (.bool false) ?_
 refine w_nil (xn_then (w_condF rfl (w_skip (xn_then (w_seq (w_seq (w_reg ?_)))))))
 refine wl_m (.tmp 0) (.int .i64 (4)) ?_
 refine w_nil (xn_then (w_block (w_seq (w_reg ?_))))
 refine wl_b .eql 3 (.tmp 24) (.const (.int .i64 (1))) (.int .i64 (4)) (.int .i64 (1)) (.bool false) (by kernel_rfl) ?_
 refine wl_m (.tmp 26) (.bool false) ?_
 refine w_nil (xn_then (w_condF rfl (w_seq (w_reg ?_))))
 refine wl_b .eql 3 (.tmp 24) (.const (.int .i64 (2))) (.int .i64 (4)) (.int .i64 (2)) (.bool false) (by kernel_rfl) ?_
 refine wl_m (.tmp 30) (.bool false) ?_
 refine w_nil (xn_then (w_condF rfl (w_seq (w_reg ?_))))
 refine wl_b .eql 3 (.tmp 24) (.const (.int .i64 (4))) (.int .i64 (4)) (.int .i64 (4)) (.bool true) (by kernel_rfl) ?_
 refine wl_m (.tmp 44) (.bool true) ?_
 refine w_nil (xn_then (w_condT rfl (w_seq (w_reg ?_))))
 refine wl_m (.const (.bool true)) (.bool true) ?_
 refine w_nil (xn_then (w_ret (xr_blk (xr_then ?_))))
 exact w_ret1 _ _ rfl rfl ⟨rfl, M⟩
theorem up_5 (b : Bool) (q r d : Int) (w : World) (hr0 : 0 ≤ r) (hrr : r + r < MM) (hd0 : 0 ≤ d) (hd : d < MM) :
  Calls Try.prog 91 #[.int .i64 5, .bool b, nv q, nv r, nv d] w fun e w' => e = .returned (.bool (b)) ∧ Mo w w' := by
 refine w_enter 48 Try.func91 Try.ntmps91 rfl rfl ?_
 have M : Mo w w := Mo.refl _
 refine w_seq (w_reg ?_)
 refine wl_box 31 (.tmp 2) (nv (q)) ((nvar (q))) rfl rfl (fun _ => by kernel_rfl) rfl ?_
 intro k1 w1 hk hz hq Q1
 have N_k1 : w.heap.size ≤ k1 := by have := M.size; omega
 replace M := M.trans hq
 clear hk hz hq
 refine wl_box 31 (.tmp 3) (nv (r)) ((nvar (r))) rfl rfl (fun _ => by kernel_rfl) rfl ?_
 intro k2 w2 hk hz hq Q2
 have ne_k1_k2 : k1 ≠ k2 := by have := Q1.lt; omega
 have N_k2 : w.heap.size ≤ k2 := by have := M.size; omega
 replace Q1 := Q1.mo hq
 replace M := M.trans hq
 clear hk hz hq
 refine wl_box 31 (.tmp 4) (nv (d)) ((nvar (d))) rfl rfl (fun _ => by kernel_rfl) rfl ?_
 intro k3 w3 hk hz hq Q3
 have ne_k1_k3 : k1 ≠ k3 := by have := Q1.lt; omega
 have ne_k2_k3 : k2 ≠ k3 := by have := Q2.lt; omega
 have N_k3 : w.heap.size ≤ k3 := by have := M.size; omega
 replace Q1 := Q1.mo hq
 replace Q2 := Q2.mo hq
 replace M := M.trans hq
 clear hk hz hq
 refine wl_m (.const (.bool false)) (.bool false) ?_
 refine w_nil (xn_then (w_seq (w_reg ?_)))
 refine wl_l 31 (.tmp 8) (pt k2 0) (nv (r)) (run_row Q2 31 0 4 (nvli (r)) rfl Try.underlying31 rfl sz24) ?_
 refine wl_l 31 (.tmp 8) (pt k2 0) (nv (r)) (run_row Q2 31 0 4 (nvli (r)) rfl Try.underlying31 rfl sz24) ?_
 refine wl_call 93 [(.tmp 15), (.tmp 16)] _ [nv (r), nv (r)] (.tuple #[nv (r + r), .bool false]) rfl rfl (fun _ _ => by kernel_rfl) (rdbl_n r _ hr0 hrr) rfl ?_
 intro w4 hq
 replace Q1 := Q1.mo hq
 replace Q2 := Q2.mo hq
 replace Q3 := Q3.mo hq
 replace M := M.trans hq
 clear hq
 refine wl_m (.tmp 17) (.tuple #[nv (r + r), .bool false]) ?_
 refine wl_un (fun v => Instr.extract v 0) (.tmp 14) (.tuple #[nv (r + r), .bool false]) (nv (r + r)) (fun _ => rfl) rfl (by kernel_rfl) rfl ?_
 refine wl_un (fun v => Instr.extract v 1) (.tmp 14) (.tuple #[nv (r + r), .bool false]) (.bool false) (fun _ => rfl) rfl (by kernel_rfl) rfl ?_
 refine wl_alloc 31 #[.int .u64 0, .int .u64 0, .int .u64 0, .int .u64 0] rfl (fun _ => by kernel_rfl) rfl ?_
 intro k4 w5 hk hz hq Q4
 have ne_k1_k4 : k1 ≠ k4 := by have := Q1.lt; omega
 have ne_k2_k4 : k2 ≠ k4 := by have := Q2.lt; omega
 have ne_k3_k4 : k3 ≠ k4 := by have := Q3.lt; omega
 have N_k4 : w.heap.size ≤ k4 := by have := M.size; omega
 replace Q1 := Q1.mo hq
 replace Q2 := Q2.mo hq
 replace Q3 := Q3.mo hq
 replace M := M.trans hq
 clear hk hz hq
 refine wl_st 31 (.tmp 11) (.tmp 18) k4 0 (nvar (r + r)) _ (nvli (r + r)) Q4 rfl rfl rfl rfl rfl sz24 rfl rfl rfl ?_
 intro w6 hS Qn
 replace Q4 := Qn
 clear Qn
 replace Q1 := hS.other _ _ ne_k1_k4 Q1
 replace Q2 := hS.other _ _ ne_k2_k4 Q2
 replace Q3 := hS.other _ _ ne_k3_k4 Q3
 replace M := hS.mo _ N_k4 M
 clear hS
 refine wl_m (.tmp 19) (.bool false) ?_
 refine w_nil (xn_then (w_seq (w_reg ?_)))
 refine wl_l 31 (.tmp 11) (pt k4 0) (nv (r + r)) (run_row Q4 31 0 4 (nvli (r + r)) rfl Try.underlying31 rfl sz24) ?_
 refine wl_l 31 (.tmp 9) (pt k3 0) (nv (d)) (run_row Q3 31 0 4 (nvli (d)) rfl Try.underlying31 rfl sz24) ?_
 refine wl_call 63 [(.tmp 20), (.tmp 21)] _ [nv (r + r), nv (d)] (.int .i64 (cm (r + r) d)) rfl rfl (fun _ _ => by kernel_rfl) (rcmp_n (r + r) d _ (by omega) hrr hd0 hd) rfl ?_
 intro w7 hq
 replace Q1 := Q1.mo hq
 replace Q2 := Q2.mo hq
 replace Q3 := Q3.mo hq
 replace Q4 := Q4.mo hq
 replace M := M.trans hq
 clear hq
 refine wl_m (.tmp 22) (.int .i64 (cm (r + r) d)) ?_
 refine w_nil (xn_then (w_seq (w_seq (w_reg ?_))))
 refine wl_m (.tmp 12) (.bool false) ?_
 refine w_nil (xn_then (w_condF rfl (w_skip (xn_then (w_seq (w_seq (w_reg ?_)))))))
 refine wl_m (.tmp 0) (.int .i64 (5)) ?_
 refine w_nil (xn_then (w_block (w_seq (w_reg ?_))))
 refine wl_b .eql 3 (.tmp 24) (.const (.int .i64 (1))) (.int .i64 (5)) (.int .i64 (1)) (.bool false) (by kernel_rfl) ?_
 refine wl_m (.tmp 26) (.bool false) ?_
 refine w_nil (xn_then (w_condF rfl (w_seq (w_reg ?_))))
 refine wl_b .eql 3 (.tmp 24) (.const (.int .i64 (2))) (.int .i64 (5)) (.int .i64 (2)) (.bool false) (by kernel_rfl) ?_
 refine wl_m (.tmp 30) (.bool false) ?_
 refine w_nil (xn_then (w_condF rfl (w_seq (w_reg ?_))))
 refine wl_b .eql 3 (.tmp 24) (.const (.int .i64 (4))) (.int .i64 (5)) (.int .i64 (4)) (.bool false) (by kernel_rfl) ?_
 refine wl_m (.tmp 44) (.bool false) ?_
 refine w_nil (xn_then (w_condF rfl (w_seq (w_reg ?_))))
 refine wl_b .eql 3 (.tmp 24) (.const (.int .i64 (5))) (.int .i64 (5)) (.int .i64 (5)) (.bool true) (by kernel_rfl) ?_
 refine wl_m (.tmp 46) (.bool true) ?_
 refine w_nil (xn_then (w_condT rfl (w_seq (w_reg ?_))))
 refine wl_m (.tmp 1) (.bool b) ?_
 refine wl_m (.tmp 47) (.bool b) ?_
 refine w_nil (xn_then (w_ret (xr_blk (xr_then ?_))))
 exact w_ret1 _ _ rfl rfl ⟨rfl, M⟩
theorem up_n (p : Int) (b : Bool) (q r d : Int) (w : World) (hr0 : 0 ≤ r) (hrr : r + r < MM) (hd0 : 0 ≤ d) (hd : d < MM) (hp1 : 1 ≤ p) (hp5 : p ≤ 5) (hr : r ≠ 0) :
  Calls Try.prog 91 #[.int .i64 p, .bool b, nv q, nv r, nv d] w fun e w' => e = .returned (.bool (aw b q r d p)) ∧ Mo w w' := by
 have hp : p = 1 ∨ p = 2 ∨ p = 3 ∨ p = 4 ∨ p = 5 := by omega
 rcases hp with rfl | rfl | rfl | rfl | rfl
 ·have := up_1 b q r d w hr0 hrr hd0 hd
  have e : aw b q r d 1 = decide (cm (r + r) d ≥ 0) := by unfold aw; rw [cm_ge]; simp [hr]
  rw [e]; exact this
 ·by_cases h1 : d < r + r
  ·have g : decide (cm (r + r) d > 0) = true := by rw [cm_gt]; exact decide_eq_true h1
   have := up_2gt b q r d w hr0 hrr hd0 hd g
   have e : aw b q r d 2 = true := by unfold aw; simp [hr, h1]
   rw [e]; exact this
  ·have g : decide (cm (r + r) d > 0) = false := by rw [cm_gt]; exact decide_eq_false h1
   by_cases h2 : r + r = d
   ·have he : (cm (r + r) d == 0) = true := by rw [h2]; unfold cm; simp
    have hl : (l0 q).tmod 2 = q % 2 := by
     have : 0 ≤ l0 q := (u4_lb q).1.1
     rw [Int.tmod_eq_emod_of_nonneg this]; unfold l0; omega
    have := up_2eq b q r d (q % 2) (decide (q % 2 = 1)) w hr0 hrr hd0 hd g he hl (by rw [Bool.eq_iff_iff]; simp)
    have e : aw b q r d 2 = decide (q % 2 = 1) := by unfold aw; simp [hr, h2]
    rw [e]; exact this
   ·have he : (cm (r + r) d == 0) = false := by
     unfold cm; rw [if_pos (by omega)]; rfl
    have := up_2lt b q r d w hr0 hrr hd0 hd g he
    have e : aw b q r d 2 = false := by unfold aw; simp [hr, h1, h2]
    rw [e]; exact this
 ·have := up_3 b q r d w hr0 hrr hd0 hd
  have e : aw b q r d 3 = false := by unfold aw; simp
  rw [e]; exact this
 ·have := up_4 b q r d w hr0 hrr hd0 hd
  have e : aw b q r d 4 = true := by unfold aw; simp [hr]
  rw [e]; exact this
 ·have := up_5 b q r d w hr0 hrr hd0 hd
  have e : aw b q r d 5 = b := by unfold aw; simp [hr]
  rw [e]; exact this
theorem fx_form (b : Bool) (V S : Int) : ∃ d0 d1 d2 d3 d4 d5 e, fx b V S = .tuple #[.agg #[d0, d1, d2, d3, d4, d5], .int .i64 e] ∧ [d0, d1, d2, d3, d4, d5].all (·.oneCell') = true := by
 unfold fx; split
 ·exact ⟨_, _, _, _, _, _, _, rfl, rfl⟩
 ·exact ⟨_, _, _, _, _, _, _, rfl, rfl⟩
theorem rat_x (b : Bool) (V S : Int) (w : World) (h0 : 0 ≤ V) (h : V < MM * MM) : Calls Try.prog 78 #[.bool b, dw V, .int .i64 S] w fun e w' => e = .returned (fx b V S) ∧ Mo w w' := by
 unfold fx
 by_cases hr : V < MM
 ·rw [if_pos hr]; exact rat_yes b V S w h0 hr
 ·rw [if_neg hr]; exact rat_no b V S w (by omega) h
theorem rdivw (X D : Int) (w : World) (h0 : 0 ≤ X) (hX : X < MM * MM) (hD0 : 0 < D) (hD : D < MM) (h : X / MM < D) : Calls Try.prog 90 #[nv (X / MM), nv X, nv D] w fun e w' => e = .returned (.tuple #[nv (X / D), nv (X % D), .bool true]) ∧ Mo w w' := by
 have p : (0 : Int) < MM := by decide
 have := rdiv_n (X / MM) (X % MM) D w (Int.ediv_nonneg h0 (by omega)) (Int.ediv_lt_of_lt_mul p hX) (Int.emod_nonneg _ (by omega)) (Int.emod_lt_of_pos _ p) (by omega) hD
 have e0 : X / MM * MM + X % MM = X := by rw [Int.mul_comm]; exact Int.mul_ediv_add_emod X MM
 have e1 : dq (X / MM) (X % MM) D = X / D := by unfold dq; rw [if_neg (by omega), e0]
 have e2 : dr (X / MM) (X % MM) D = X % D := by unfold dr; rw [if_neg (by omega), e0]
 have e3 : dok (X / MM) D = true := decide_eq_true h
 rw [e1, e2, e3, nv_mod] at this
 exact this
theorem rdivw_no (X D : Int) (w : World) (h0 : 0 ≤ X) (hX : X < MM * MM) (hD0 : 0 < D) (hD : D < MM) (h : D ≤ X / MM) : Calls Try.prog 90 #[nv (X / MM), nv X, nv D] w fun e w' => e = .returned (.tuple #[nv 0, nv 0, .bool false]) ∧ Mo w w' := by
 have p : (0 : Int) < MM := by decide
 have := rdiv_n (X / MM) (X % MM) D w (Int.ediv_nonneg h0 (by omega)) (Int.ediv_lt_of_lt_mul p hX) (Int.emod_nonneg _ (by omega)) (Int.emod_lt_of_pos _ p) (by omega) hD
 have e1 : dq (X / MM) (X % MM) D = 0 := by unfold dq; rw [if_pos h]
 have e2 : dr (X / MM) (X % MM) D = 0 := by unfold dr; rw [if_pos h]
 have e3 : dok (X / MM) D = false := decide_eq_false (by omega)
 rw [e1, e2, e3, nv_mod] at this
 exact this
theorem one_n (w : World) : Calls Try.prog 64 #[.int .u64 1] w fun e w' => e = .returned (nv 1) ∧ Mo w w' := from34_any 1 w ⟨by decide, by decide⟩
theorem plus1 (q : Int) (w : World) (h0 : 0 ≤ q) (h : q < MM) : Calls Try.prog 79 #[.agg #[.int .u64 0, .int .u64 0, .int .u64 0, .int .u64 0, .int .u64 (l0 q), .int .u64 (l1 q), .int .u64 (l2 q), .int .u64 (l3 q)], .agg #[.int .u64 0, .int .u64 0, .int .u64 0, .int .u64 0, .int .u64 (l0 1), .int .u64 (l1 1), .int .u64 (l2 1), .int .u64 (l3 1)]] w fun e w' => e = .returned (dw (q + 1)) ∧ Mo w w' := by
 have hM : (1 : Int) < MM := by decide
 have h2 : q < MM * MM := by unfold MM at *; omega
 have := plus_n q 1 w h0 h2 (by decide) (by decide)
 have e : dw q = .agg #[.int .u64 0, .int .u64 0, .int .u64 0, .int .u64 0, .int .u64 (l0 q), .int .u64 (l1 q), .int .u64 (l2 q), .int .u64 (l3 q)] := by
  unfold dw; rw [Int.ediv_eq_zero_of_lt h0 h]; rfl
 rw [e] at this
 exact this
theorem atlow (b : Bool) (q S : Int) (w : World) (h0 : 0 ≤ q) (h : q < MM) : Calls Try.prog 78 #[.bool b, .agg #[.int .u64 0, .int .u64 0, .int .u64 0, .int .u64 0, .int .u64 (l0 q), .int .u64 (l1 q), .int .u64 (l2 q), .int .u64 (l3 q)], .int .i64 S] w fun e w' => e = .returned (fx b q S) ∧ Mo w w' := by
 have h2 : q < MM * MM := by unfold MM at *; omega
 have := rat_x b q S w h0 h2
 have e : dw q = .agg #[.int .u64 0, .int .u64 0, .int .u64 0, .int .u64 0, .int .u64 (l0 q), .int .u64 (l1 q), .int .u64 (l2 q), .int .u64 (l3 q)] := by
  unfold dw; rw [Int.ediv_eq_zero_of_lt h0 h]; rfl
 rw [e] at this
 exact this
theorem rnd_over (b : Bool) (X f S p : Int) (w : World) (hXM : MM ≤ X) (hX2 : X < MM * MM) (hle : decide (f ≤ S) = true) :
  Calls Try.prog 77 #[.bool b, dw X, .int .i64 f, .int .i64 S, .int .i64 p] w fun e' w' => e' = .returned (er 7) ∧ Mo w w' := by
 refine w_enter 80 Try.func77 Try.ntmps77 rfl rfl ?_
 have M : Mo w w := Mo.refl _
 refine w_seq (w_reg ?_)
 refine wl_box 65 (.tmp 1) (dw (X)) ((dwr (X))) rfl rfl (fun _ => by kernel_rfl) rfl ?_
 intro k1 w1 hk hz hq Q1
 have N_k1 : w.heap.size ≤ k1 := by have := M.size; omega
 replace M := M.trans hq
 clear hk hz hq
 refine wl_alloc 33 #[.bool false, .int .u64 0, .int .u64 0, .int .u64 0, .int .u64 0, .int .i64 0] rfl (fun _ => by kernel_rfl) rfl ?_
 intro k2 w2 hk hz hq Q2
 have ne_k1_k2 : k1 ≠ k2 := by have := Q1.lt; omega
 have N_k2 : w.heap.size ≤ k2 := by have := M.size; omega
 replace Q1 := Q1.mo hq
 replace M := M.trans hq
 clear hk hz hq
 refine wl_m (.const (.int .i64 (0))) (.int .i64 (0)) ?_
 refine w_nil (xn_then (w_seq (w_seq (w_reg ?_))))
 refine wl_m (.tmp 2) (.int .i64 f) ?_
 refine wl_m (.tmp 3) (.int .i64 S) ?_
 refine wl_b .leq 3 (.tmp 18) (.tmp 19) (.int .i64 f) (.int .i64 S) (.bool true) (lei3_run hle _ _ _) ?_
 refine w_nil (xn_then (w_condT rfl (w_seq (w_seq (w_reg ?_)))))
 refine wl_f 65 0 (.tmp 6) (pt k1 0) (pt k1 0) ?_
 refine wl_l 31 (.tmp 21) (pt k1 0) (.agg #[.int .u64 (l0 (X / MM)), .int .u64 (l1 (X / MM)), .int .u64 (l2 (X / MM)), .int .u64 (l3 (X / MM))]) (run_row Q1 31 0 4 _ rfl Try.underlying31 rfl sz24) ?_
 refine wl_build 31 [] [] (.agg #[.int .u64 0, .int .u64 0, .int .u64 0, .int .u64 0]) rfl rfl (by kernel_rfl) rfl ?_
 refine wl_b .neq 31 (.tmp 22) (.tmp 23) (.agg #[.int .u64 (l0 (X / MM)), .int .u64 (l1 (X / MM)), .int .u64 (l2 (X / MM)), .int .u64 (l3 (X / MM))]) (.agg #[.int .u64 0, .int .u64 0, .int .u64 0, .int .u64 0]) (.bool true) (nen_run (r := false) (hi1 hXM hX2) _ _ _) ?_
 refine w_nil (xn_then (w_condT rfl (w_seq (w_reg ?_))))
 refine wl_build 33 [] [] (.agg #[.bool false, .int .u64 0, .int .u64 0, .int .u64 0, .int .u64 0, .int .i64 0]) rfl rfl (by kernel_rfl) rfl ?_
 refine wl_st 33 (.tmp 10) (.tmp 25) k2 0 #[.bool false, .int .u64 0, .int .u64 0, .int .u64 0, .int .u64 0, .int .i64 0] _ [.bool false, .int .u64 0, .int .u64 0, .int .u64 0, .int .u64 0, .int .i64 0] Q2 rfl rfl rfl rfl rfl sz40 rfl rfl rfl ?_
 intro w3 hS Qn
 replace Q2 := Qn
 clear Qn
 replace Q1 := hS.other _ _ ne_k1_k2 Q1
 replace M := hS.mo _ N_k2 M
 clear hS
 refine wl_m (.const (.int .i64 (7))) (.int .i64 (7)) ?_
 refine w_nil (xn_then (w_ret (xr_then (xr_then ?_))))
 exact w_ret2 _ _ (.agg #[.bool false, .int .u64 0, .int .u64 0, .int .u64 0, .int .u64 0, .int .i64 0]) (.int .i64 (7)) rfl ⟨k2, rfl, (run_row Q2 33 0 6 _ rfl Try.underlying33 rfl sz40)⟩ rfl ⟨rfl, M⟩
theorem rnd_room (b : Bool) (X f S p : Int) (k : Nat) (d0 d1 d2 d3 d4 d5 : Value) (e : Int) (w : World) (hX0 : 0 ≤ X) (hX : X < MM) (hle : decide (f ≤ S) = true) (hk : S - f = (k : Int)) (hk18 : k ≤ 18) (hd : [d0, d1, d2, d3, d4, d5].all (·.oneCell') = true) (hat : ∀ w, Calls Try.prog 78 #[.bool b, dw (X * 10 ^ k), .int .i64 S] w fun e' w' => e' = .returned (.tuple #[.agg #[d0, d1, d2, d3, d4, d5], .int .i64 e]) ∧ Mo w w') :
  Calls Try.prog 77 #[.bool b, dw X, .int .i64 f, .int .i64 S, .int .i64 p] w fun e' w' => e' = .returned (.tuple #[.agg #[d0, d1, d2, d3, d4, d5], .int .i64 e]) ∧ Mo w w' := by
 refine w_enter 80 Try.func77 Try.ntmps77 rfl rfl ?_
 have M : Mo w w := Mo.refl _
 refine w_seq (w_reg ?_)
 refine wl_box 65 (.tmp 1) (dw (X)) ((dwr (X))) rfl rfl (fun _ => by kernel_rfl) rfl ?_
 intro k1 w1 hk hz hq Q1
 have N_k1 : w.heap.size ≤ k1 := by have := M.size; omega
 replace M := M.trans hq
 clear hk hz hq
 refine wl_alloc 33 #[.bool false, .int .u64 0, .int .u64 0, .int .u64 0, .int .u64 0, .int .i64 0] rfl (fun _ => by kernel_rfl) rfl ?_
 intro k2 w2 hk hz hq Q2
 have ne_k1_k2 : k1 ≠ k2 := by have := Q1.lt; omega
 have N_k2 : w.heap.size ≤ k2 := by have := M.size; omega
 replace Q1 := Q1.mo hq
 replace M := M.trans hq
 clear hk hz hq
 refine wl_m (.const (.int .i64 (0))) (.int .i64 (0)) ?_
 refine w_nil (xn_then (w_seq (w_seq (w_reg ?_))))
 refine wl_m (.tmp 2) (.int .i64 f) ?_
 refine wl_m (.tmp 3) (.int .i64 S) ?_
 refine wl_b .leq 3 (.tmp 18) (.tmp 19) (.int .i64 f) (.int .i64 S) (.bool true) (lei3_run hle _ _ _) ?_
 refine w_nil (xn_then (w_condT rfl (w_seq (w_seq (w_reg ?_)))))
 refine wl_f 65 0 (.tmp 6) (pt k1 0) (pt k1 0) ?_
 refine wl_l 31 (.tmp 21) (pt k1 0) (.agg #[.int .u64 (l0 (X / MM)), .int .u64 (l1 (X / MM)), .int .u64 (l2 (X / MM)), .int .u64 (l3 (X / MM))]) (run_row Q1 31 0 4 _ rfl Try.underlying31 rfl sz24) ?_
 refine wl_build 31 [] [] (.agg #[.int .u64 0, .int .u64 0, .int .u64 0, .int .u64 0]) rfl rfl (by kernel_rfl) rfl ?_
 refine wl_b .neq 31 (.tmp 22) (.tmp 23) (.agg #[.int .u64 (l0 (X / MM)), .int .u64 (l1 (X / MM)), .int .u64 (l2 (X / MM)), .int .u64 (l3 (X / MM))]) (.agg #[.int .u64 0, .int .u64 0, .int .u64 0, .int .u64 0]) (.bool false) (nen_run (r := true) (hi0 hX0 hX) _ _ _) ?_
 refine w_nil (xn_then (w_condF rfl (w_skip (xn_then (w_seq (w_reg ?_))))))
 refine wl_m (.tmp 0) (.bool b) ?_
 refine wl_f 65 1 (.tmp 6) (pt k1 0) (pt k1 4) ?_
 refine wl_l 31 (.tmp 27) (pt k1 4) (.agg #[.int .u64 (l0 (X)), .int .u64 (l1 (X)), .int .u64 (l2 (X)), .int .u64 (l3 (X))]) (run_row Q1 31 4 4 _ rfl Try.underlying31 rfl sz24) ?_
 refine wl_m (.tmp 3) (.int .i64 S) ?_
 refine wl_m (.tmp 2) (.int .i64 f) ?_
 refine wl_b .sub 3 (.tmp 29) (.tmp 30) (.int .i64 S) (.int .i64 f) (.int .i64 ((k : Int))) (sub3_run hk (by omega) (by omega) _ _ _) ?_
 refine wl_call 41 [(.tmp 28), (.tmp 31)] _ [.agg #[.int .u64 (l0 (X)), .int .u64 (l1 (X)), .int .u64 (l2 (X)), .int .u64 (l3 (X))], .int .i64 ((k : Int))] (dw (X * 10 ^ k)) rfl rfl (fun _ _ => by kernel_rfl) (shift_n X k _ hX0 hX (by omega)) rfl ?_
 intro w3 hq
 replace Q1 := Q1.mo hq
 replace Q2 := Q2.mo hq
 replace M := M.trans hq
 clear hq
 refine wl_m (.tmp 3) (.int .i64 S) ?_
 refine wl_call 78 [(.tmp 26), (.tmp 32), (.tmp 33)] _ [.bool b, dw (X * 10 ^ k), .int .i64 S] (.tuple #[.agg #[d0, d1, d2, d3, d4, d5], .int .i64 e]) rfl rfl (fun _ _ => by kernel_rfl) (hat _) rfl ?_
 intro w4 hq
 replace Q1 := Q1.mo hq
 replace Q2 := Q2.mo hq
 replace M := M.trans hq
 clear hq
 refine wl_un (fun v => Instr.extract v 0) (.tmp 34) (.tuple #[.agg #[d0, d1, d2, d3, d4, d5], .int .i64 e]) (.agg #[d0, d1, d2, d3, d4, d5]) (fun _ => rfl) rfl (by kernel_rfl) rfl ?_
 refine wl_un (fun v => Instr.extract v 1) (.tmp 34) (.tuple #[.agg #[d0, d1, d2, d3, d4, d5], .int .i64 e]) (.int .i64 e) (fun _ => rfl) rfl (by kernel_rfl) rfl ?_
 refine wl_st 33 (.tmp 10) (.tmp 35) k2 0 #[d0, d1, d2, d3, d4, d5] _ [d0, d1, d2, d3, d4, d5] Q2 rfl rfl rfl rfl rfl sz40 hd rfl rfl ?_
 intro w5 hS Qn
 replace Q2 := Qn
 clear Qn
 replace Q1 := hS.other _ _ ne_k1_k2 Q1
 replace M := hS.mo _ N_k2 M
 clear hS
 refine wl_m (.tmp 36) (.int .i64 e) ?_
 refine w_nil (xn_then (w_ret (xr_then ?_)))
 exact w_ret2 _ _ (.agg #[d0, d1, d2, d3, d4, d5]) (.int .i64 e) rfl ⟨k2, rfl, (run_row Q2 33 0 6 _ rfl Try.underlying33 rfl sz40)⟩ rfl ⟨rfl, M⟩
theorem rnd_no (b : Bool) (X f S p : Int) (k : Nat) (w : World) (hX0 : 0 ≤ X) (hX2 : X < MM * MM) (hle : decide (f ≤ S) = false) (hk : f - S = (k : Int)) (hk36 : k ≤ 36) (t0 : (0 : Int) < 10 ^ k) (t1 : (10 : Int) ^ k < MM) (hov : 10 ^ k ≤ X / MM) :
  Calls Try.prog 77 #[.bool b, dw X, .int .i64 f, .int .i64 S, .int .i64 p] w fun e' w' => e' = .returned (er 7) ∧ Mo w w' := by
 refine w_enter 80 Try.func77 Try.ntmps77 rfl rfl ?_
 have M : Mo w w := Mo.refl _
 refine w_seq (w_reg ?_)
 refine wl_box 65 (.tmp 1) (dw (X)) ((dwr (X))) rfl rfl (fun _ => by kernel_rfl) rfl ?_
 intro k1 w1 hk hz hq Q1
 have N_k1 : w.heap.size ≤ k1 := by have := M.size; omega
 replace M := M.trans hq
 clear hk hz hq
 refine wl_alloc 33 #[.bool false, .int .u64 0, .int .u64 0, .int .u64 0, .int .u64 0, .int .i64 0] rfl (fun _ => by kernel_rfl) rfl ?_
 intro k2 w2 hk hz hq Q2
 have ne_k1_k2 : k1 ≠ k2 := by have := Q1.lt; omega
 have N_k2 : w.heap.size ≤ k2 := by have := M.size; omega
 replace Q1 := Q1.mo hq
 replace M := M.trans hq
 clear hk hz hq
 refine wl_m (.const (.int .i64 (0))) (.int .i64 (0)) ?_
 refine w_nil (xn_then (w_seq (w_seq (w_reg ?_))))
 refine wl_m (.tmp 2) (.int .i64 f) ?_
 refine wl_m (.tmp 3) (.int .i64 S) ?_
 refine wl_b .leq 3 (.tmp 18) (.tmp 19) (.int .i64 f) (.int .i64 S) (.bool false) (lei3_run hle _ _ _) ?_
 refine w_nil (xn_then (w_condF rfl (w_skip (xn_then (w_seq (w_reg ?_))))))
 refine wl_m (.tmp 2) (.int .i64 f) ?_
 refine wl_m (.tmp 3) (.int .i64 S) ?_
 refine wl_b .sub 3 (.tmp 38) (.tmp 39) (.int .i64 f) (.int .i64 S) (.int .i64 ((k : Int))) (sub3_run hk (by omega) (by omega) _ _ _) ?_
 refine wl_call 61 [(.tmp 40)] _ [.int .i64 ((k : Int))] (.tuple #[nv (10 ^ k), .bool true]) rfl rfl (fun _ _ => by kernel_rfl) (rten_yes k _ (by omega)) rfl ?_
 intro w3 hq
 replace Q1 := Q1.mo hq
 replace Q2 := Q2.mo hq
 replace M := M.trans hq
 clear hq
 refine wl_m (.tmp 41) (.tuple #[nv (10 ^ k), .bool true]) ?_
 refine wl_un (fun v => Instr.extract v 0) (.tmp 37) (.tuple #[nv (10 ^ k), .bool true]) (nv (10 ^ k)) (fun _ => rfl) rfl (by kernel_rfl) rfl ?_
 refine wl_un (fun v => Instr.extract v 1) (.tmp 37) (.tuple #[nv (10 ^ k), .bool true]) (.bool true) (fun _ => rfl) rfl (by kernel_rfl) rfl ?_
 refine wl_alloc 31 #[.int .u64 0, .int .u64 0, .int .u64 0, .int .u64 0] rfl (fun _ => by kernel_rfl) rfl ?_
 intro k3 w4 hk hz hq Q3
 have ne_k1_k3 : k1 ≠ k3 := by have := Q1.lt; omega
 have ne_k2_k3 : k2 ≠ k3 := by have := Q2.lt; omega
 have N_k3 : w.heap.size ≤ k3 := by have := M.size; omega
 replace Q1 := Q1.mo hq
 replace Q2 := Q2.mo hq
 replace M := M.trans hq
 clear hk hz hq
 refine wl_st 31 (.tmp 12) (.tmp 42) k3 0 (nvar (10 ^ k)) _ (nvli (10 ^ k)) Q3 rfl rfl rfl rfl rfl sz24 rfl rfl rfl ?_
 intro w5 hS Qn
 replace Q3 := Qn
 clear Qn
 replace Q1 := hS.other _ _ ne_k1_k3 Q1
 replace Q2 := hS.other _ _ ne_k2_k3 Q2
 replace M := hS.mo _ N_k3 M
 clear hS
 refine wl_m (.tmp 43) (.bool true) ?_
 refine w_nil (xn_then (w_seq (w_reg ?_)))
 refine wl_f 65 0 (.tmp 6) (pt k1 0) (pt k1 0) ?_
 refine wl_l 31 (.tmp 45) (pt k1 0) (.agg #[.int .u64 (l0 (X / MM)), .int .u64 (l1 (X / MM)), .int .u64 (l2 (X / MM)), .int .u64 (l3 (X / MM))]) (run_row Q1 31 0 4 _ rfl Try.underlying31 rfl sz24) ?_
 refine wl_f 65 1 (.tmp 6) (pt k1 0) (pt k1 4) ?_
 refine wl_l 31 (.tmp 47) (pt k1 4) (.agg #[.int .u64 (l0 (X)), .int .u64 (l1 (X)), .int .u64 (l2 (X)), .int .u64 (l3 (X))]) (run_row Q1 31 4 4 _ rfl Try.underlying31 rfl sz24) ?_
 refine wl_l 31 (.tmp 12) (pt k3 0) (nv (10 ^ k)) (run_row Q3 31 0 4 (nvli (10 ^ k)) rfl Try.underlying31 rfl sz24) ?_
 refine wl_call 90 [(.tmp 46), (.tmp 48), (.tmp 49)] _ [.agg #[.int .u64 (l0 (X / MM)), .int .u64 (l1 (X / MM)), .int .u64 (l2 (X / MM)), .int .u64 (l3 (X / MM))], .agg #[.int .u64 (l0 (X)), .int .u64 (l1 (X)), .int .u64 (l2 (X)), .int .u64 (l3 (X))], nv (10 ^ k)] (.tuple #[nv (0), nv (0), .bool false]) rfl rfl (fun _ _ => by kernel_rfl) (rdivw_no X (10 ^ k) _ hX0 hX2 t0 t1 hov) rfl ?_
 intro w6 hq
 replace Q1 := Q1.mo hq
 replace Q2 := Q2.mo hq
 replace Q3 := Q3.mo hq
 replace M := M.trans hq
 clear hq
 refine wl_m (.tmp 50) (.tuple #[nv (0), nv (0), .bool false]) ?_
 refine wl_un (fun v => Instr.extract v 0) (.tmp 44) (.tuple #[nv (0), nv (0), .bool false]) (nv (0)) (fun _ => rfl) rfl (by kernel_rfl) rfl ?_
 refine wl_un (fun v => Instr.extract v 1) (.tmp 44) (.tuple #[nv (0), nv (0), .bool false]) (nv (0)) (fun _ => rfl) rfl (by kernel_rfl) rfl ?_
 refine wl_un (fun v => Instr.extract v 2) (.tmp 44) (.tuple #[nv (0), nv (0), .bool false]) (.bool false) (fun _ => rfl) rfl (by kernel_rfl) rfl ?_
 refine wl_alloc 31 #[.int .u64 0, .int .u64 0, .int .u64 0, .int .u64 0] rfl (fun _ => by kernel_rfl) rfl ?_
 intro k4 w7 hk hz hq Q4
 have ne_k1_k4 : k1 ≠ k4 := by have := Q1.lt; omega
 have ne_k2_k4 : k2 ≠ k4 := by have := Q2.lt; omega
 have ne_k3_k4 : k3 ≠ k4 := by have := Q3.lt; omega
 have N_k4 : w.heap.size ≤ k4 := by have := M.size; omega
 replace Q1 := Q1.mo hq
 replace Q2 := Q2.mo hq
 replace Q3 := Q3.mo hq
 replace M := M.trans hq
 clear hk hz hq
 refine wl_alloc 31 #[.int .u64 0, .int .u64 0, .int .u64 0, .int .u64 0] rfl (fun _ => by kernel_rfl) rfl ?_
 intro k5 w8 hk hz hq Q5
 have ne_k1_k5 : k1 ≠ k5 := by have := Q1.lt; omega
 have ne_k2_k5 : k2 ≠ k5 := by have := Q2.lt; omega
 have ne_k3_k5 : k3 ≠ k5 := by have := Q3.lt; omega
 have ne_k4_k5 : k4 ≠ k5 := by have := Q4.lt; omega
 have N_k5 : w.heap.size ≤ k5 := by have := M.size; omega
 replace Q1 := Q1.mo hq
 replace Q2 := Q2.mo hq
 replace Q3 := Q3.mo hq
 replace Q4 := Q4.mo hq
 replace M := M.trans hq
 clear hk hz hq
 refine wl_st 31 (.tmp 14) (.tmp 51) k4 0 (nvar (0)) _ (nvli (0)) Q4 rfl rfl rfl rfl rfl sz24 rfl rfl rfl ?_
 intro w9 hS Qn
 replace Q4 := Qn
 clear Qn
 replace Q1 := hS.other _ _ ne_k1_k4 Q1
 replace Q2 := hS.other _ _ ne_k2_k4 Q2
 replace Q3 := hS.other _ _ ne_k3_k4 Q3
 replace Q5 := hS.other _ _ ne_k4_k5.symm Q5
 replace M := hS.mo _ N_k4 M
 clear hS
 refine wl_st 31 (.tmp 15) (.tmp 52) k5 0 (nvar (0)) _ (nvli (0)) Q5 rfl rfl rfl rfl rfl sz24 rfl rfl rfl ?_
 intro w10 hS Qn
 replace Q5 := Qn
 clear Qn
 replace Q1 := hS.other _ _ ne_k1_k5 Q1
 replace Q2 := hS.other _ _ ne_k2_k5 Q2
 replace Q3 := hS.other _ _ ne_k3_k5 Q3
 replace Q4 := hS.other _ _ ne_k4_k5 Q4
 replace M := hS.mo _ N_k5 M
 clear hS
 refine wl_m (.tmp 53) (.bool false) ?_
 refine w_nil (xn_then (w_seq (w_seq (w_reg ?_))))
 refine wl_m (.tmp 16) (.bool false) ?_
 refine wl_un (fun v => Op.unary .not v) (.tmp 54) (.bool false) (.bool true) (fun _ => rfl) rfl (by kernel_rfl) rfl ?_
 refine w_nil (xn_then (w_condT rfl (w_seq (w_reg ?_))))
 refine wl_build 33 [] [] (.agg #[.bool false, .int .u64 0, .int .u64 0, .int .u64 0, .int .u64 0, .int .i64 0]) rfl rfl (by kernel_rfl) rfl ?_
 refine wl_st 33 (.tmp 10) (.tmp 56) k2 0 #[.bool false, .int .u64 0, .int .u64 0, .int .u64 0, .int .u64 0, .int .i64 0] _ [.bool false, .int .u64 0, .int .u64 0, .int .u64 0, .int .u64 0, .int .i64 0] Q2 rfl rfl rfl rfl rfl sz40 rfl rfl rfl ?_
 intro w11 hS Qn
 replace Q2 := Qn
 clear Qn
 replace Q1 := hS.other _ _ ne_k1_k2 Q1
 replace Q3 := hS.other _ _ ne_k2_k3.symm Q3
 replace Q4 := hS.other _ _ ne_k2_k4.symm Q4
 replace Q5 := hS.other _ _ ne_k2_k5.symm Q5
 replace M := hS.mo _ N_k2 M
 clear hS
 refine wl_m (.const (.int .i64 (7))) (.int .i64 (7)) ?_
 refine w_nil (xn_then (w_ret (xr_then ?_)))
 exact w_ret2 _ _ (.agg #[.bool false, .int .u64 0, .int .u64 0, .int .u64 0, .int .u64 0, .int .i64 0]) (.int .i64 (7)) rfl ⟨k2, rfl, (run_row Q2 33 0 6 _ rfl Try.underlying33 rfl sz40)⟩ rfl ⟨rfl, M⟩
theorem rnd_z (b : Bool) (X f S p : Int) (k : Nat) (d0 d1 d2 d3 d4 d5 : Value) (e : Int) (w : World) (hX0 : 0 ≤ X) (hX2 : X < MM * MM) (hle : decide (f ≤ S) = false) (hk : f - S = (k : Int)) (hk36 : k ≤ 36) (t0 : (0 : Int) < 10 ^ k) (t1 : (10 : Int) ^ k < MM) (hov : X / MM < 10 ^ k) (hz : (l0 (X % 10 ^ k) == 0 && (l1 (X % 10 ^ k) == 0 && (l2 (X % 10 ^ k) == 0 && l3 (X % 10 ^ k) == 0))) = true) (hd : [d0, d1, d2, d3, d4, d5].all (·.oneCell') = true) (hat : ∀ w, Calls Try.prog 78 #[.bool b, .agg #[.int .u64 0, .int .u64 0, .int .u64 0, .int .u64 0, .int .u64 (l0 (X / 10 ^ k)), .int .u64 (l1 (X / 10 ^ k)), .int .u64 (l2 (X / 10 ^ k)), .int .u64 (l3 (X / 10 ^ k))], .int .i64 S] w fun e' w' => e' = .returned (.tuple #[.agg #[d0, d1, d2, d3, d4, d5], .int .i64 e]) ∧ Mo w w') :
  Calls Try.prog 77 #[.bool b, dw X, .int .i64 f, .int .i64 S, .int .i64 p] w fun e' w' => e' = .returned (.tuple #[.agg #[d0, d1, d2, d3, d4, d5], .int .i64 e]) ∧ Mo w w' := by
 refine w_enter 80 Try.func77 Try.ntmps77 rfl rfl ?_
 have M : Mo w w := Mo.refl _
 refine w_seq (w_reg ?_)
 refine wl_box 65 (.tmp 1) (dw (X)) ((dwr (X))) rfl rfl (fun _ => by kernel_rfl) rfl ?_
 intro k1 w1 hk hz hq Q1
 have N_k1 : w.heap.size ≤ k1 := by have := M.size; omega
 replace M := M.trans hq
 clear hk hz hq
 refine wl_alloc 33 #[.bool false, .int .u64 0, .int .u64 0, .int .u64 0, .int .u64 0, .int .i64 0] rfl (fun _ => by kernel_rfl) rfl ?_
 intro k2 w2 hk hz hq Q2
 have ne_k1_k2 : k1 ≠ k2 := by have := Q1.lt; omega
 have N_k2 : w.heap.size ≤ k2 := by have := M.size; omega
 replace Q1 := Q1.mo hq
 replace M := M.trans hq
 clear hk hz hq
 refine wl_m (.const (.int .i64 (0))) (.int .i64 (0)) ?_
 refine w_nil (xn_then (w_seq (w_seq (w_reg ?_))))
 refine wl_m (.tmp 2) (.int .i64 f) ?_
 refine wl_m (.tmp 3) (.int .i64 S) ?_
 refine wl_b .leq 3 (.tmp 18) (.tmp 19) (.int .i64 f) (.int .i64 S) (.bool false) (lei3_run hle _ _ _) ?_
 refine w_nil (xn_then (w_condF rfl (w_skip (xn_then (w_seq (w_reg ?_))))))
 refine wl_m (.tmp 2) (.int .i64 f) ?_
 refine wl_m (.tmp 3) (.int .i64 S) ?_
 refine wl_b .sub 3 (.tmp 38) (.tmp 39) (.int .i64 f) (.int .i64 S) (.int .i64 ((k : Int))) (sub3_run hk (by omega) (by omega) _ _ _) ?_
 refine wl_call 61 [(.tmp 40)] _ [.int .i64 ((k : Int))] (.tuple #[nv (10 ^ k), .bool true]) rfl rfl (fun _ _ => by kernel_rfl) (rten_yes k _ (by omega)) rfl ?_
 intro w3 hq
 replace Q1 := Q1.mo hq
 replace Q2 := Q2.mo hq
 replace M := M.trans hq
 clear hq
 refine wl_m (.tmp 41) (.tuple #[nv (10 ^ k), .bool true]) ?_
 refine wl_un (fun v => Instr.extract v 0) (.tmp 37) (.tuple #[nv (10 ^ k), .bool true]) (nv (10 ^ k)) (fun _ => rfl) rfl (by kernel_rfl) rfl ?_
 refine wl_un (fun v => Instr.extract v 1) (.tmp 37) (.tuple #[nv (10 ^ k), .bool true]) (.bool true) (fun _ => rfl) rfl (by kernel_rfl) rfl ?_
 refine wl_alloc 31 #[.int .u64 0, .int .u64 0, .int .u64 0, .int .u64 0] rfl (fun _ => by kernel_rfl) rfl ?_
 intro k3 w4 hk hz hq Q3
 have ne_k1_k3 : k1 ≠ k3 := by have := Q1.lt; omega
 have ne_k2_k3 : k2 ≠ k3 := by have := Q2.lt; omega
 have N_k3 : w.heap.size ≤ k3 := by have := M.size; omega
 replace Q1 := Q1.mo hq
 replace Q2 := Q2.mo hq
 replace M := M.trans hq
 clear hk hz hq
 refine wl_st 31 (.tmp 12) (.tmp 42) k3 0 (nvar (10 ^ k)) _ (nvli (10 ^ k)) Q3 rfl rfl rfl rfl rfl sz24 rfl rfl rfl ?_
 intro w5 hS Qn
 replace Q3 := Qn
 clear Qn
 replace Q1 := hS.other _ _ ne_k1_k3 Q1
 replace Q2 := hS.other _ _ ne_k2_k3 Q2
 replace M := hS.mo _ N_k3 M
 clear hS
 refine wl_m (.tmp 43) (.bool true) ?_
 refine w_nil (xn_then (w_seq (w_reg ?_)))
 refine wl_f 65 0 (.tmp 6) (pt k1 0) (pt k1 0) ?_
 refine wl_l 31 (.tmp 45) (pt k1 0) (.agg #[.int .u64 (l0 (X / MM)), .int .u64 (l1 (X / MM)), .int .u64 (l2 (X / MM)), .int .u64 (l3 (X / MM))]) (run_row Q1 31 0 4 _ rfl Try.underlying31 rfl sz24) ?_
 refine wl_f 65 1 (.tmp 6) (pt k1 0) (pt k1 4) ?_
 refine wl_l 31 (.tmp 47) (pt k1 4) (.agg #[.int .u64 (l0 (X)), .int .u64 (l1 (X)), .int .u64 (l2 (X)), .int .u64 (l3 (X))]) (run_row Q1 31 4 4 _ rfl Try.underlying31 rfl sz24) ?_
 refine wl_l 31 (.tmp 12) (pt k3 0) (nv (10 ^ k)) (run_row Q3 31 0 4 (nvli (10 ^ k)) rfl Try.underlying31 rfl sz24) ?_
 refine wl_call 90 [(.tmp 46), (.tmp 48), (.tmp 49)] _ [.agg #[.int .u64 (l0 (X / MM)), .int .u64 (l1 (X / MM)), .int .u64 (l2 (X / MM)), .int .u64 (l3 (X / MM))], .agg #[.int .u64 (l0 (X)), .int .u64 (l1 (X)), .int .u64 (l2 (X)), .int .u64 (l3 (X))], nv (10 ^ k)] (.tuple #[nv (X / 10 ^ k), nv (X % 10 ^ k), .bool true]) rfl rfl (fun _ _ => by kernel_rfl) (rdivw X (10 ^ k) _ hX0 hX2 t0 t1 hov) rfl ?_
 intro w6 hq
 replace Q1 := Q1.mo hq
 replace Q2 := Q2.mo hq
 replace Q3 := Q3.mo hq
 replace M := M.trans hq
 clear hq
 refine wl_m (.tmp 50) (.tuple #[nv (X / 10 ^ k), nv (X % 10 ^ k), .bool true]) ?_
 refine wl_un (fun v => Instr.extract v 0) (.tmp 44) (.tuple #[nv (X / 10 ^ k), nv (X % 10 ^ k), .bool true]) (nv (X / 10 ^ k)) (fun _ => rfl) rfl (by kernel_rfl) rfl ?_
 refine wl_un (fun v => Instr.extract v 1) (.tmp 44) (.tuple #[nv (X / 10 ^ k), nv (X % 10 ^ k), .bool true]) (nv (X % 10 ^ k)) (fun _ => rfl) rfl (by kernel_rfl) rfl ?_
 refine wl_un (fun v => Instr.extract v 2) (.tmp 44) (.tuple #[nv (X / 10 ^ k), nv (X % 10 ^ k), .bool true]) (.bool true) (fun _ => rfl) rfl (by kernel_rfl) rfl ?_
 refine wl_alloc 31 #[.int .u64 0, .int .u64 0, .int .u64 0, .int .u64 0] rfl (fun _ => by kernel_rfl) rfl ?_
 intro k4 w7 hk hz hq Q4
 have ne_k1_k4 : k1 ≠ k4 := by have := Q1.lt; omega
 have ne_k2_k4 : k2 ≠ k4 := by have := Q2.lt; omega
 have ne_k3_k4 : k3 ≠ k4 := by have := Q3.lt; omega
 have N_k4 : w.heap.size ≤ k4 := by have := M.size; omega
 replace Q1 := Q1.mo hq
 replace Q2 := Q2.mo hq
 replace Q3 := Q3.mo hq
 replace M := M.trans hq
 clear hk hz hq
 refine wl_alloc 31 #[.int .u64 0, .int .u64 0, .int .u64 0, .int .u64 0] rfl (fun _ => by kernel_rfl) rfl ?_
 intro k5 w8 hk hz hq Q5
 have ne_k1_k5 : k1 ≠ k5 := by have := Q1.lt; omega
 have ne_k2_k5 : k2 ≠ k5 := by have := Q2.lt; omega
 have ne_k3_k5 : k3 ≠ k5 := by have := Q3.lt; omega
 have ne_k4_k5 : k4 ≠ k5 := by have := Q4.lt; omega
 have N_k5 : w.heap.size ≤ k5 := by have := M.size; omega
 replace Q1 := Q1.mo hq
 replace Q2 := Q2.mo hq
 replace Q3 := Q3.mo hq
 replace Q4 := Q4.mo hq
 replace M := M.trans hq
 clear hk hz hq
 refine wl_st 31 (.tmp 14) (.tmp 51) k4 0 (nvar (X / 10 ^ k)) _ (nvli (X / 10 ^ k)) Q4 rfl rfl rfl rfl rfl sz24 rfl rfl rfl ?_
 intro w9 hS Qn
 replace Q4 := Qn
 clear Qn
 replace Q1 := hS.other _ _ ne_k1_k4 Q1
 replace Q2 := hS.other _ _ ne_k2_k4 Q2
 replace Q3 := hS.other _ _ ne_k3_k4 Q3
 replace Q5 := hS.other _ _ ne_k4_k5.symm Q5
 replace M := hS.mo _ N_k4 M
 clear hS
 refine wl_st 31 (.tmp 15) (.tmp 52) k5 0 (nvar (X % 10 ^ k)) _ (nvli (X % 10 ^ k)) Q5 rfl rfl rfl rfl rfl sz24 rfl rfl rfl ?_
 intro w10 hS Qn
 replace Q5 := Qn
 clear Qn
 replace Q1 := hS.other _ _ ne_k1_k5 Q1
 replace Q2 := hS.other _ _ ne_k2_k5 Q2
 replace Q3 := hS.other _ _ ne_k3_k5 Q3
 replace Q4 := hS.other _ _ ne_k4_k5 Q4
 replace M := hS.mo _ N_k5 M
 clear hS
 refine wl_m (.tmp 53) (.bool true) ?_
 refine w_nil (xn_then (w_seq (w_seq (w_reg ?_))))
 refine wl_m (.tmp 16) (.bool true) ?_
 refine wl_un (fun v => Op.unary .not v) (.tmp 54) (.bool true) (.bool false) (fun _ => rfl) rfl (by kernel_rfl) rfl ?_
 refine w_nil (xn_then (w_condF rfl (w_skip (xn_then (w_seq (w_reg ?_))))))
 refine wl_l 31 (.tmp 14) (pt k4 0) (nv (X / 10 ^ k)) (run_row Q4 31 0 4 (nvli (X / 10 ^ k)) rfl Try.underlying31 rfl sz24) ?_
 refine wl_build 65 [(1, (.tmp 57))] [(1, nv (X / 10 ^ k))] (.agg #[.int .u64 0, .int .u64 0, .int .u64 0, .int .u64 0, .int .u64 (l0 (X / 10 ^ k)), .int .u64 (l1 (X / 10 ^ k)), .int .u64 (l2 (X / 10 ^ k)), .int .u64 (l3 (X / 10 ^ k))]) rfl rfl (by kernel_rfl) rfl ?_
 refine wl_alloc 65 #[.int .u64 0, .int .u64 0, .int .u64 0, .int .u64 0, .int .u64 0, .int .u64 0, .int .u64 0, .int .u64 0] rfl (fun _ => by kernel_rfl) rfl ?_
 intro k6 w11 hk hz hq Q6
 have ne_k1_k6 : k1 ≠ k6 := by have := Q1.lt; omega
 have ne_k2_k6 : k2 ≠ k6 := by have := Q2.lt; omega
 have ne_k3_k6 : k3 ≠ k6 := by have := Q3.lt; omega
 have ne_k4_k6 : k4 ≠ k6 := by have := Q4.lt; omega
 have ne_k5_k6 : k5 ≠ k6 := by have := Q5.lt; omega
 have N_k6 : w.heap.size ≤ k6 := by have := M.size; omega
 replace Q1 := Q1.mo hq
 replace Q2 := Q2.mo hq
 replace Q3 := Q3.mo hq
 replace Q4 := Q4.mo hq
 replace Q5 := Q5.mo hq
 replace M := M.trans hq
 clear hk hz hq
 refine wl_st 65 (.tmp 17) (.tmp 58) k6 0 #[.int .u64 0, .int .u64 0, .int .u64 0, .int .u64 0, .int .u64 (l0 (X / 10 ^ k)), .int .u64 (l1 (X / 10 ^ k)), .int .u64 (l2 (X / 10 ^ k)), .int .u64 (l3 (X / 10 ^ k))] _ [.int .u64 0, .int .u64 0, .int .u64 0, .int .u64 0, .int .u64 (l0 (X / 10 ^ k)), .int .u64 (l1 (X / 10 ^ k)), .int .u64 (l2 (X / 10 ^ k)), .int .u64 (l3 (X / 10 ^ k))] Q6 rfl rfl rfl rfl rfl sz87 rfl rfl rfl ?_
 intro w12 hS Qn
 replace Q6 := Qn
 clear Qn
 replace Q1 := hS.other _ _ ne_k1_k6 Q1
 replace Q2 := hS.other _ _ ne_k2_k6 Q2
 replace Q3 := hS.other _ _ ne_k3_k6 Q3
 replace Q4 := hS.other _ _ ne_k4_k6 Q4
 replace Q5 := hS.other _ _ ne_k5_k6 Q5
 replace M := hS.mo _ N_k6 M
 clear hS
 refine w_nil (xn_then (w_seq (w_seq (w_reg ?_))))
 refine wl_l 31 (.tmp 15) (pt k5 0) (nv (X % 10 ^ k)) (run_row Q5 31 0 4 (nvli (X % 10 ^ k)) rfl Try.underlying31 rfl sz24) ?_
 refine wl_build 31 [] [] (.agg #[.int .u64 0, .int .u64 0, .int .u64 0, .int .u64 0]) rfl rfl (by kernel_rfl) rfl ?_
 refine wl_b .neq 31 (.tmp 59) (.tmp 60) (nv (X % 10 ^ k)) (.agg #[.int .u64 0, .int .u64 0, .int .u64 0, .int .u64 0]) (.bool false) (nen_run (r := true) hz _ _ _) ?_
 refine wl_m (.tmp 61) (.bool false) ?_
 refine wl_skip rfl (wl_skip rfl (wl_skip rfl (wl_skip rfl (wl_skip rfl (wl_skip rfl ?_)))))
 refine wl_pick (.tmp 62) (.tmp 68) (.const (.bool false)) false (.bool false) (fun _ => rfl) rfl rfl rfl ?_
 refine w_nil (xn_then (w_condF rfl (w_skip (xn_then (w_seq (w_reg ?_))))))
 refine wl_m (.tmp 0) (.bool b) ?_
 refine wl_l 65 (.tmp 17) (pt k6 0) (.agg #[.int .u64 0, .int .u64 0, .int .u64 0, .int .u64 0, .int .u64 (l0 (X / 10 ^ k)), .int .u64 (l1 (X / 10 ^ k)), .int .u64 (l2 (X / 10 ^ k)), .int .u64 (l3 (X / 10 ^ k))]) (run_row Q6 65 0 8 _ rfl Try.underlying65 rfl sz87) ?_
 refine wl_m (.tmp 3) (.int .i64 S) ?_
 refine wl_call 78 [(.tmp 74), (.tmp 75), (.tmp 76)] _ [.bool b, .agg #[.int .u64 0, .int .u64 0, .int .u64 0, .int .u64 0, .int .u64 (l0 (X / 10 ^ k)), .int .u64 (l1 (X / 10 ^ k)), .int .u64 (l2 (X / 10 ^ k)), .int .u64 (l3 (X / 10 ^ k))], .int .i64 S] (.tuple #[.agg #[d0, d1, d2, d3, d4, d5], .int .i64 e]) rfl rfl (fun _ _ => by kernel_rfl) (hat _) rfl ?_
 intro w13 hq
 replace Q1 := Q1.mo hq
 replace Q2 := Q2.mo hq
 replace Q3 := Q3.mo hq
 replace Q4 := Q4.mo hq
 replace Q5 := Q5.mo hq
 replace Q6 := Q6.mo hq
 replace M := M.trans hq
 clear hq
 refine wl_un (fun v => Instr.extract v 0) (.tmp 77) (.tuple #[.agg #[d0, d1, d2, d3, d4, d5], .int .i64 e]) (.agg #[d0, d1, d2, d3, d4, d5]) (fun _ => rfl) rfl (by kernel_rfl) rfl ?_
 refine wl_un (fun v => Instr.extract v 1) (.tmp 77) (.tuple #[.agg #[d0, d1, d2, d3, d4, d5], .int .i64 e]) (.int .i64 e) (fun _ => rfl) rfl (by kernel_rfl) rfl ?_
 refine wl_st 33 (.tmp 10) (.tmp 78) k2 0 #[d0, d1, d2, d3, d4, d5] _ [d0, d1, d2, d3, d4, d5] Q2 rfl rfl rfl rfl rfl sz40 hd rfl rfl ?_
 intro w14 hS Qn
 replace Q2 := Qn
 clear Qn
 replace Q1 := hS.other _ _ ne_k1_k2 Q1
 replace Q3 := hS.other _ _ ne_k2_k3.symm Q3
 replace Q4 := hS.other _ _ ne_k2_k4.symm Q4
 replace Q5 := hS.other _ _ ne_k2_k5.symm Q5
 replace Q6 := hS.other _ _ ne_k2_k6.symm Q6
 replace M := hS.mo _ N_k2 M
 clear hS
 refine wl_m (.tmp 79) (.int .i64 e) ?_
 refine w_nil (xn_then (w_ret ?_))
 exact w_ret2 _ _ (.agg #[d0, d1, d2, d3, d4, d5]) (.int .i64 e) rfl ⟨k2, rfl, (run_row Q2 33 0 6 _ rfl Try.underlying33 rfl sz40)⟩ rfl ⟨rfl, M⟩
theorem rnd_dn (b : Bool) (X f S p : Int) (k : Nat) (d0 d1 d2 d3 d4 d5 : Value) (e : Int) (w : World) (hX0 : 0 ≤ X) (hX2 : X < MM * MM) (hle : decide (f ≤ S) = false) (hk : f - S = (k : Int)) (hk36 : k ≤ 36) (t0 : (0 : Int) < 10 ^ k) (t1 : (10 : Int) ^ k < MM) (hov : X / MM < 10 ^ k) (hz : (l0 (X % 10 ^ k) == 0 && (l1 (X % 10 ^ k) == 0 && (l2 (X % 10 ^ k) == 0 && l3 (X % 10 ^ k) == 0))) = false) (hup : ∀ w, Calls Try.prog 91 #[.int .i64 p, .bool b, nv (X / 10 ^ k), nv (X % 10 ^ k), nv (10 ^ k)] w fun e' w' => e' = .returned (.bool false) ∧ Mo w w') (hd : [d0, d1, d2, d3, d4, d5].all (·.oneCell') = true) (hat : ∀ w, Calls Try.prog 78 #[.bool b, .agg #[.int .u64 0, .int .u64 0, .int .u64 0, .int .u64 0, .int .u64 (l0 (X / 10 ^ k)), .int .u64 (l1 (X / 10 ^ k)), .int .u64 (l2 (X / 10 ^ k)), .int .u64 (l3 (X / 10 ^ k))], .int .i64 S] w fun e' w' => e' = .returned (.tuple #[.agg #[d0, d1, d2, d3, d4, d5], .int .i64 e]) ∧ Mo w w') :
  Calls Try.prog 77 #[.bool b, dw X, .int .i64 f, .int .i64 S, .int .i64 p] w fun e' w' => e' = .returned (.tuple #[.agg #[d0, d1, d2, d3, d4, d5], .int .i64 e]) ∧ Mo w w' := by
 refine w_enter 80 Try.func77 Try.ntmps77 rfl rfl ?_
 have M : Mo w w := Mo.refl _
 refine w_seq (w_reg ?_)
 refine wl_box 65 (.tmp 1) (dw (X)) ((dwr (X))) rfl rfl (fun _ => by kernel_rfl) rfl ?_
 intro k1 w1 hk hz hq Q1
 have N_k1 : w.heap.size ≤ k1 := by have := M.size; omega
 replace M := M.trans hq
 clear hk hz hq
 refine wl_alloc 33 #[.bool false, .int .u64 0, .int .u64 0, .int .u64 0, .int .u64 0, .int .i64 0] rfl (fun _ => by kernel_rfl) rfl ?_
 intro k2 w2 hk hz hq Q2
 have ne_k1_k2 : k1 ≠ k2 := by have := Q1.lt; omega
 have N_k2 : w.heap.size ≤ k2 := by have := M.size; omega
 replace Q1 := Q1.mo hq
 replace M := M.trans hq
 clear hk hz hq
 refine wl_m (.const (.int .i64 (0))) (.int .i64 (0)) ?_
 refine w_nil (xn_then (w_seq (w_seq (w_reg ?_))))
 refine wl_m (.tmp 2) (.int .i64 f) ?_
 refine wl_m (.tmp 3) (.int .i64 S) ?_
 refine wl_b .leq 3 (.tmp 18) (.tmp 19) (.int .i64 f) (.int .i64 S) (.bool false) (lei3_run hle _ _ _) ?_
 refine w_nil (xn_then (w_condF rfl (w_skip (xn_then (w_seq (w_reg ?_))))))
 refine wl_m (.tmp 2) (.int .i64 f) ?_
 refine wl_m (.tmp 3) (.int .i64 S) ?_
 refine wl_b .sub 3 (.tmp 38) (.tmp 39) (.int .i64 f) (.int .i64 S) (.int .i64 ((k : Int))) (sub3_run hk (by omega) (by omega) _ _ _) ?_
 refine wl_call 61 [(.tmp 40)] _ [.int .i64 ((k : Int))] (.tuple #[nv (10 ^ k), .bool true]) rfl rfl (fun _ _ => by kernel_rfl) (rten_yes k _ (by omega)) rfl ?_
 intro w3 hq
 replace Q1 := Q1.mo hq
 replace Q2 := Q2.mo hq
 replace M := M.trans hq
 clear hq
 refine wl_m (.tmp 41) (.tuple #[nv (10 ^ k), .bool true]) ?_
 refine wl_un (fun v => Instr.extract v 0) (.tmp 37) (.tuple #[nv (10 ^ k), .bool true]) (nv (10 ^ k)) (fun _ => rfl) rfl (by kernel_rfl) rfl ?_
 refine wl_un (fun v => Instr.extract v 1) (.tmp 37) (.tuple #[nv (10 ^ k), .bool true]) (.bool true) (fun _ => rfl) rfl (by kernel_rfl) rfl ?_
 refine wl_alloc 31 #[.int .u64 0, .int .u64 0, .int .u64 0, .int .u64 0] rfl (fun _ => by kernel_rfl) rfl ?_
 intro k3 w4 hk hz hq Q3
 have ne_k1_k3 : k1 ≠ k3 := by have := Q1.lt; omega
 have ne_k2_k3 : k2 ≠ k3 := by have := Q2.lt; omega
 have N_k3 : w.heap.size ≤ k3 := by have := M.size; omega
 replace Q1 := Q1.mo hq
 replace Q2 := Q2.mo hq
 replace M := M.trans hq
 clear hk hz hq
 refine wl_st 31 (.tmp 12) (.tmp 42) k3 0 (nvar (10 ^ k)) _ (nvli (10 ^ k)) Q3 rfl rfl rfl rfl rfl sz24 rfl rfl rfl ?_
 intro w5 hS Qn
 replace Q3 := Qn
 clear Qn
 replace Q1 := hS.other _ _ ne_k1_k3 Q1
 replace Q2 := hS.other _ _ ne_k2_k3 Q2
 replace M := hS.mo _ N_k3 M
 clear hS
 refine wl_m (.tmp 43) (.bool true) ?_
 refine w_nil (xn_then (w_seq (w_reg ?_)))
 refine wl_f 65 0 (.tmp 6) (pt k1 0) (pt k1 0) ?_
 refine wl_l 31 (.tmp 45) (pt k1 0) (.agg #[.int .u64 (l0 (X / MM)), .int .u64 (l1 (X / MM)), .int .u64 (l2 (X / MM)), .int .u64 (l3 (X / MM))]) (run_row Q1 31 0 4 _ rfl Try.underlying31 rfl sz24) ?_
 refine wl_f 65 1 (.tmp 6) (pt k1 0) (pt k1 4) ?_
 refine wl_l 31 (.tmp 47) (pt k1 4) (.agg #[.int .u64 (l0 (X)), .int .u64 (l1 (X)), .int .u64 (l2 (X)), .int .u64 (l3 (X))]) (run_row Q1 31 4 4 _ rfl Try.underlying31 rfl sz24) ?_
 refine wl_l 31 (.tmp 12) (pt k3 0) (nv (10 ^ k)) (run_row Q3 31 0 4 (nvli (10 ^ k)) rfl Try.underlying31 rfl sz24) ?_
 refine wl_call 90 [(.tmp 46), (.tmp 48), (.tmp 49)] _ [.agg #[.int .u64 (l0 (X / MM)), .int .u64 (l1 (X / MM)), .int .u64 (l2 (X / MM)), .int .u64 (l3 (X / MM))], .agg #[.int .u64 (l0 (X)), .int .u64 (l1 (X)), .int .u64 (l2 (X)), .int .u64 (l3 (X))], nv (10 ^ k)] (.tuple #[nv (X / 10 ^ k), nv (X % 10 ^ k), .bool true]) rfl rfl (fun _ _ => by kernel_rfl) (rdivw X (10 ^ k) _ hX0 hX2 t0 t1 hov) rfl ?_
 intro w6 hq
 replace Q1 := Q1.mo hq
 replace Q2 := Q2.mo hq
 replace Q3 := Q3.mo hq
 replace M := M.trans hq
 clear hq
 refine wl_m (.tmp 50) (.tuple #[nv (X / 10 ^ k), nv (X % 10 ^ k), .bool true]) ?_
 refine wl_un (fun v => Instr.extract v 0) (.tmp 44) (.tuple #[nv (X / 10 ^ k), nv (X % 10 ^ k), .bool true]) (nv (X / 10 ^ k)) (fun _ => rfl) rfl (by kernel_rfl) rfl ?_
 refine wl_un (fun v => Instr.extract v 1) (.tmp 44) (.tuple #[nv (X / 10 ^ k), nv (X % 10 ^ k), .bool true]) (nv (X % 10 ^ k)) (fun _ => rfl) rfl (by kernel_rfl) rfl ?_
 refine wl_un (fun v => Instr.extract v 2) (.tmp 44) (.tuple #[nv (X / 10 ^ k), nv (X % 10 ^ k), .bool true]) (.bool true) (fun _ => rfl) rfl (by kernel_rfl) rfl ?_
 refine wl_alloc 31 #[.int .u64 0, .int .u64 0, .int .u64 0, .int .u64 0] rfl (fun _ => by kernel_rfl) rfl ?_
 intro k4 w7 hk hz hq Q4
 have ne_k1_k4 : k1 ≠ k4 := by have := Q1.lt; omega
 have ne_k2_k4 : k2 ≠ k4 := by have := Q2.lt; omega
 have ne_k3_k4 : k3 ≠ k4 := by have := Q3.lt; omega
 have N_k4 : w.heap.size ≤ k4 := by have := M.size; omega
 replace Q1 := Q1.mo hq
 replace Q2 := Q2.mo hq
 replace Q3 := Q3.mo hq
 replace M := M.trans hq
 clear hk hz hq
 refine wl_alloc 31 #[.int .u64 0, .int .u64 0, .int .u64 0, .int .u64 0] rfl (fun _ => by kernel_rfl) rfl ?_
 intro k5 w8 hk hz hq Q5
 have ne_k1_k5 : k1 ≠ k5 := by have := Q1.lt; omega
 have ne_k2_k5 : k2 ≠ k5 := by have := Q2.lt; omega
 have ne_k3_k5 : k3 ≠ k5 := by have := Q3.lt; omega
 have ne_k4_k5 : k4 ≠ k5 := by have := Q4.lt; omega
 have N_k5 : w.heap.size ≤ k5 := by have := M.size; omega
 replace Q1 := Q1.mo hq
 replace Q2 := Q2.mo hq
 replace Q3 := Q3.mo hq
 replace Q4 := Q4.mo hq
 replace M := M.trans hq
 clear hk hz hq
 refine wl_st 31 (.tmp 14) (.tmp 51) k4 0 (nvar (X / 10 ^ k)) _ (nvli (X / 10 ^ k)) Q4 rfl rfl rfl rfl rfl sz24 rfl rfl rfl ?_
 intro w9 hS Qn
 replace Q4 := Qn
 clear Qn
 replace Q1 := hS.other _ _ ne_k1_k4 Q1
 replace Q2 := hS.other _ _ ne_k2_k4 Q2
 replace Q3 := hS.other _ _ ne_k3_k4 Q3
 replace Q5 := hS.other _ _ ne_k4_k5.symm Q5
 replace M := hS.mo _ N_k4 M
 clear hS
 refine wl_st 31 (.tmp 15) (.tmp 52) k5 0 (nvar (X % 10 ^ k)) _ (nvli (X % 10 ^ k)) Q5 rfl rfl rfl rfl rfl sz24 rfl rfl rfl ?_
 intro w10 hS Qn
 replace Q5 := Qn
 clear Qn
 replace Q1 := hS.other _ _ ne_k1_k5 Q1
 replace Q2 := hS.other _ _ ne_k2_k5 Q2
 replace Q3 := hS.other _ _ ne_k3_k5 Q3
 replace Q4 := hS.other _ _ ne_k4_k5 Q4
 replace M := hS.mo _ N_k5 M
 clear hS
 refine wl_m (.tmp 53) (.bool true) ?_
 refine w_nil (xn_then (w_seq (w_seq (w_reg ?_))))
 refine wl_m (.tmp 16) (.bool true) ?_
 refine wl_un (fun v => Op.unary .not v) (.tmp 54) (.bool true) (.bool false) (fun _ => rfl) rfl (by kernel_rfl) rfl ?_
 refine w_nil (xn_then (w_condF rfl (w_skip (xn_then (w_seq (w_reg ?_))))))
 refine wl_l 31 (.tmp 14) (pt k4 0) (nv (X / 10 ^ k)) (run_row Q4 31 0 4 (nvli (X / 10 ^ k)) rfl Try.underlying31 rfl sz24) ?_
 refine wl_build 65 [(1, (.tmp 57))] [(1, nv (X / 10 ^ k))] (.agg #[.int .u64 0, .int .u64 0, .int .u64 0, .int .u64 0, .int .u64 (l0 (X / 10 ^ k)), .int .u64 (l1 (X / 10 ^ k)), .int .u64 (l2 (X / 10 ^ k)), .int .u64 (l3 (X / 10 ^ k))]) rfl rfl (by kernel_rfl) rfl ?_
 refine wl_alloc 65 #[.int .u64 0, .int .u64 0, .int .u64 0, .int .u64 0, .int .u64 0, .int .u64 0, .int .u64 0, .int .u64 0] rfl (fun _ => by kernel_rfl) rfl ?_
 intro k6 w11 hk hz hq Q6
 have ne_k1_k6 : k1 ≠ k6 := by have := Q1.lt; omega
 have ne_k2_k6 : k2 ≠ k6 := by have := Q2.lt; omega
 have ne_k3_k6 : k3 ≠ k6 := by have := Q3.lt; omega
 have ne_k4_k6 : k4 ≠ k6 := by have := Q4.lt; omega
 have ne_k5_k6 : k5 ≠ k6 := by have := Q5.lt; omega
 have N_k6 : w.heap.size ≤ k6 := by have := M.size; omega
 replace Q1 := Q1.mo hq
 replace Q2 := Q2.mo hq
 replace Q3 := Q3.mo hq
 replace Q4 := Q4.mo hq
 replace Q5 := Q5.mo hq
 replace M := M.trans hq
 clear hk hz hq
 refine wl_st 65 (.tmp 17) (.tmp 58) k6 0 #[.int .u64 0, .int .u64 0, .int .u64 0, .int .u64 0, .int .u64 (l0 (X / 10 ^ k)), .int .u64 (l1 (X / 10 ^ k)), .int .u64 (l2 (X / 10 ^ k)), .int .u64 (l3 (X / 10 ^ k))] _ [.int .u64 0, .int .u64 0, .int .u64 0, .int .u64 0, .int .u64 (l0 (X / 10 ^ k)), .int .u64 (l1 (X / 10 ^ k)), .int .u64 (l2 (X / 10 ^ k)), .int .u64 (l3 (X / 10 ^ k))] Q6 rfl rfl rfl rfl rfl sz87 rfl rfl rfl ?_
 intro w12 hS Qn
 replace Q6 := Qn
 clear Qn
 replace Q1 := hS.other _ _ ne_k1_k6 Q1
 replace Q2 := hS.other _ _ ne_k2_k6 Q2
 replace Q3 := hS.other _ _ ne_k3_k6 Q3
 replace Q4 := hS.other _ _ ne_k4_k6 Q4
 replace Q5 := hS.other _ _ ne_k5_k6 Q5
 replace M := hS.mo _ N_k6 M
 clear hS
 refine w_nil (xn_then (w_seq (w_seq (w_reg ?_))))
 refine wl_l 31 (.tmp 15) (pt k5 0) (nv (X % 10 ^ k)) (run_row Q5 31 0 4 (nvli (X % 10 ^ k)) rfl Try.underlying31 rfl sz24) ?_
 refine wl_build 31 [] [] (.agg #[.int .u64 0, .int .u64 0, .int .u64 0, .int .u64 0]) rfl rfl (by kernel_rfl) rfl ?_
 refine wl_b .neq 31 (.tmp 59) (.tmp 60) (nv (X % 10 ^ k)) (.agg #[.int .u64 0, .int .u64 0, .int .u64 0, .int .u64 0]) (.bool true) (nen_run (r := false) hz _ _ _) ?_
 refine wl_m (.tmp 61) (.bool true) ?_
 refine wl_m (.tmp 4) (.int .i64 p) ?_
 refine wl_m (.tmp 0) (.bool b) ?_
 refine wl_l 31 (.tmp 14) (pt k4 0) (nv (X / 10 ^ k)) (run_row Q4 31 0 4 (nvli (X / 10 ^ k)) rfl Try.underlying31 rfl sz24) ?_
 refine wl_l 31 (.tmp 15) (pt k5 0) (nv (X % 10 ^ k)) (run_row Q5 31 0 4 (nvli (X % 10 ^ k)) rfl Try.underlying31 rfl sz24) ?_
 refine wl_l 31 (.tmp 12) (pt k3 0) (nv (10 ^ k)) (run_row Q3 31 0 4 (nvli (10 ^ k)) rfl Try.underlying31 rfl sz24) ?_
 refine wl_call 91 [(.tmp 63), (.tmp 64), (.tmp 65), (.tmp 66), (.tmp 67)] _ [.int .i64 p, .bool b, nv (X / 10 ^ k), nv (X % 10 ^ k), nv (10 ^ k)] (.bool false) rfl rfl (fun _ _ => by kernel_rfl) (hup _) rfl ?_
 intro w13 hq
 replace Q1 := Q1.mo hq
 replace Q2 := Q2.mo hq
 replace Q3 := Q3.mo hq
 replace Q4 := Q4.mo hq
 replace Q5 := Q5.mo hq
 replace Q6 := Q6.mo hq
 replace M := M.trans hq
 clear hq
 refine wl_pick (.tmp 62) (.tmp 68) (.const (.bool false)) true (.bool false) (fun _ => rfl) rfl rfl rfl ?_
 refine w_nil (xn_then (w_condF rfl (w_skip (xn_then (w_seq (w_reg ?_))))))
 refine wl_m (.tmp 0) (.bool b) ?_
 refine wl_l 65 (.tmp 17) (pt k6 0) (.agg #[.int .u64 0, .int .u64 0, .int .u64 0, .int .u64 0, .int .u64 (l0 (X / 10 ^ k)), .int .u64 (l1 (X / 10 ^ k)), .int .u64 (l2 (X / 10 ^ k)), .int .u64 (l3 (X / 10 ^ k))]) (run_row Q6 65 0 8 _ rfl Try.underlying65 rfl sz87) ?_
 refine wl_m (.tmp 3) (.int .i64 S) ?_
 refine wl_call 78 [(.tmp 74), (.tmp 75), (.tmp 76)] _ [.bool b, .agg #[.int .u64 0, .int .u64 0, .int .u64 0, .int .u64 0, .int .u64 (l0 (X / 10 ^ k)), .int .u64 (l1 (X / 10 ^ k)), .int .u64 (l2 (X / 10 ^ k)), .int .u64 (l3 (X / 10 ^ k))], .int .i64 S] (.tuple #[.agg #[d0, d1, d2, d3, d4, d5], .int .i64 e]) rfl rfl (fun _ _ => by kernel_rfl) (hat _) rfl ?_
 intro w14 hq
 replace Q1 := Q1.mo hq
 replace Q2 := Q2.mo hq
 replace Q3 := Q3.mo hq
 replace Q4 := Q4.mo hq
 replace Q5 := Q5.mo hq
 replace Q6 := Q6.mo hq
 replace M := M.trans hq
 clear hq
 refine wl_un (fun v => Instr.extract v 0) (.tmp 77) (.tuple #[.agg #[d0, d1, d2, d3, d4, d5], .int .i64 e]) (.agg #[d0, d1, d2, d3, d4, d5]) (fun _ => rfl) rfl (by kernel_rfl) rfl ?_
 refine wl_un (fun v => Instr.extract v 1) (.tmp 77) (.tuple #[.agg #[d0, d1, d2, d3, d4, d5], .int .i64 e]) (.int .i64 e) (fun _ => rfl) rfl (by kernel_rfl) rfl ?_
 refine wl_st 33 (.tmp 10) (.tmp 78) k2 0 #[d0, d1, d2, d3, d4, d5] _ [d0, d1, d2, d3, d4, d5] Q2 rfl rfl rfl rfl rfl sz40 hd rfl rfl ?_
 intro w15 hS Qn
 replace Q2 := Qn
 clear Qn
 replace Q1 := hS.other _ _ ne_k1_k2 Q1
 replace Q3 := hS.other _ _ ne_k2_k3.symm Q3
 replace Q4 := hS.other _ _ ne_k2_k4.symm Q4
 replace Q5 := hS.other _ _ ne_k2_k5.symm Q5
 replace Q6 := hS.other _ _ ne_k2_k6.symm Q6
 replace M := hS.mo _ N_k2 M
 clear hS
 refine wl_m (.tmp 79) (.int .i64 e) ?_
 refine w_nil (xn_then (w_ret ?_))
 exact w_ret2 _ _ (.agg #[d0, d1, d2, d3, d4, d5]) (.int .i64 e) rfl ⟨k2, rfl, (run_row Q2 33 0 6 _ rfl Try.underlying33 rfl sz40)⟩ rfl ⟨rfl, M⟩
theorem rnd_up (b : Bool) (X f S p : Int) (k : Nat) (d0 d1 d2 d3 d4 d5 : Value) (e : Int) (w : World) (hX0 : 0 ≤ X) (hX2 : X < MM * MM) (hle : decide (f ≤ S) = false) (hk : f - S = (k : Int)) (hk36 : k ≤ 36) (t0 : (0 : Int) < 10 ^ k) (t1 : (10 : Int) ^ k < MM) (hov : X / MM < 10 ^ k) (hz : (l0 (X % 10 ^ k) == 0 && (l1 (X % 10 ^ k) == 0 && (l2 (X % 10 ^ k) == 0 && l3 (X % 10 ^ k) == 0))) = false) (hup : ∀ w, Calls Try.prog 91 #[.int .i64 p, .bool b, nv (X / 10 ^ k), nv (X % 10 ^ k), nv (10 ^ k)] w fun e' w' => e' = .returned (.bool true) ∧ Mo w w') (hq0 : 0 ≤ X / 10 ^ k) (hqM : X / 10 ^ k < MM) (hd : [d0, d1, d2, d3, d4, d5].all (·.oneCell') = true) (hat : ∀ w, Calls Try.prog 78 #[.bool b, dw (X / 10 ^ k + 1), .int .i64 S] w fun e' w' => e' = .returned (.tuple #[.agg #[d0, d1, d2, d3, d4, d5], .int .i64 e]) ∧ Mo w w') :
  Calls Try.prog 77 #[.bool b, dw X, .int .i64 f, .int .i64 S, .int .i64 p] w fun e' w' => e' = .returned (.tuple #[.agg #[d0, d1, d2, d3, d4, d5], .int .i64 e]) ∧ Mo w w' := by
 refine w_enter 80 Try.func77 Try.ntmps77 rfl rfl ?_
 have M : Mo w w := Mo.refl _
 refine w_seq (w_reg ?_)
 refine wl_box 65 (.tmp 1) (dw (X)) ((dwr (X))) rfl rfl (fun _ => by kernel_rfl) rfl ?_
 intro k1 w1 hk hz hq Q1
 have N_k1 : w.heap.size ≤ k1 := by have := M.size; omega
 replace M := M.trans hq
 clear hk hz hq
 refine wl_alloc 33 #[.bool false, .int .u64 0, .int .u64 0, .int .u64 0, .int .u64 0, .int .i64 0] rfl (fun _ => by kernel_rfl) rfl ?_
 intro k2 w2 hk hz hq Q2
 have ne_k1_k2 : k1 ≠ k2 := by have := Q1.lt; omega
 have N_k2 : w.heap.size ≤ k2 := by have := M.size; omega
 replace Q1 := Q1.mo hq
 replace M := M.trans hq
 clear hk hz hq
 refine wl_m (.const (.int .i64 (0))) (.int .i64 (0)) ?_
 refine w_nil (xn_then (w_seq (w_seq (w_reg ?_))))
 refine wl_m (.tmp 2) (.int .i64 f) ?_
 refine wl_m (.tmp 3) (.int .i64 S) ?_
 refine wl_b .leq 3 (.tmp 18) (.tmp 19) (.int .i64 f) (.int .i64 S) (.bool false) (lei3_run hle _ _ _) ?_
 refine w_nil (xn_then (w_condF rfl (w_skip (xn_then (w_seq (w_reg ?_))))))
 refine wl_m (.tmp 2) (.int .i64 f) ?_
 refine wl_m (.tmp 3) (.int .i64 S) ?_
 refine wl_b .sub 3 (.tmp 38) (.tmp 39) (.int .i64 f) (.int .i64 S) (.int .i64 ((k : Int))) (sub3_run hk (by omega) (by omega) _ _ _) ?_
 refine wl_call 61 [(.tmp 40)] _ [.int .i64 ((k : Int))] (.tuple #[nv (10 ^ k), .bool true]) rfl rfl (fun _ _ => by kernel_rfl) (rten_yes k _ (by omega)) rfl ?_
 intro w3 hq
 replace Q1 := Q1.mo hq
 replace Q2 := Q2.mo hq
 replace M := M.trans hq
 clear hq
 refine wl_m (.tmp 41) (.tuple #[nv (10 ^ k), .bool true]) ?_
 refine wl_un (fun v => Instr.extract v 0) (.tmp 37) (.tuple #[nv (10 ^ k), .bool true]) (nv (10 ^ k)) (fun _ => rfl) rfl (by kernel_rfl) rfl ?_
 refine wl_un (fun v => Instr.extract v 1) (.tmp 37) (.tuple #[nv (10 ^ k), .bool true]) (.bool true) (fun _ => rfl) rfl (by kernel_rfl) rfl ?_
 refine wl_alloc 31 #[.int .u64 0, .int .u64 0, .int .u64 0, .int .u64 0] rfl (fun _ => by kernel_rfl) rfl ?_
 intro k3 w4 hk hz hq Q3
 have ne_k1_k3 : k1 ≠ k3 := by have := Q1.lt; omega
 have ne_k2_k3 : k2 ≠ k3 := by have := Q2.lt; omega
 have N_k3 : w.heap.size ≤ k3 := by have := M.size; omega
 replace Q1 := Q1.mo hq
 replace Q2 := Q2.mo hq
 replace M := M.trans hq
 clear hk hz hq
 refine wl_st 31 (.tmp 12) (.tmp 42) k3 0 (nvar (10 ^ k)) _ (nvli (10 ^ k)) Q3 rfl rfl rfl rfl rfl sz24 rfl rfl rfl ?_
 intro w5 hS Qn
 replace Q3 := Qn
 clear Qn
 replace Q1 := hS.other _ _ ne_k1_k3 Q1
 replace Q2 := hS.other _ _ ne_k2_k3 Q2
 replace M := hS.mo _ N_k3 M
 clear hS
 refine wl_m (.tmp 43) (.bool true) ?_
 refine w_nil (xn_then (w_seq (w_reg ?_)))
 refine wl_f 65 0 (.tmp 6) (pt k1 0) (pt k1 0) ?_
 refine wl_l 31 (.tmp 45) (pt k1 0) (.agg #[.int .u64 (l0 (X / MM)), .int .u64 (l1 (X / MM)), .int .u64 (l2 (X / MM)), .int .u64 (l3 (X / MM))]) (run_row Q1 31 0 4 _ rfl Try.underlying31 rfl sz24) ?_
 refine wl_f 65 1 (.tmp 6) (pt k1 0) (pt k1 4) ?_
 refine wl_l 31 (.tmp 47) (pt k1 4) (.agg #[.int .u64 (l0 (X)), .int .u64 (l1 (X)), .int .u64 (l2 (X)), .int .u64 (l3 (X))]) (run_row Q1 31 4 4 _ rfl Try.underlying31 rfl sz24) ?_
 refine wl_l 31 (.tmp 12) (pt k3 0) (nv (10 ^ k)) (run_row Q3 31 0 4 (nvli (10 ^ k)) rfl Try.underlying31 rfl sz24) ?_
 refine wl_call 90 [(.tmp 46), (.tmp 48), (.tmp 49)] _ [.agg #[.int .u64 (l0 (X / MM)), .int .u64 (l1 (X / MM)), .int .u64 (l2 (X / MM)), .int .u64 (l3 (X / MM))], .agg #[.int .u64 (l0 (X)), .int .u64 (l1 (X)), .int .u64 (l2 (X)), .int .u64 (l3 (X))], nv (10 ^ k)] (.tuple #[nv (X / 10 ^ k), nv (X % 10 ^ k), .bool true]) rfl rfl (fun _ _ => by kernel_rfl) (rdivw X (10 ^ k) _ hX0 hX2 t0 t1 hov) rfl ?_
 intro w6 hq
 replace Q1 := Q1.mo hq
 replace Q2 := Q2.mo hq
 replace Q3 := Q3.mo hq
 replace M := M.trans hq
 clear hq
 refine wl_m (.tmp 50) (.tuple #[nv (X / 10 ^ k), nv (X % 10 ^ k), .bool true]) ?_
 refine wl_un (fun v => Instr.extract v 0) (.tmp 44) (.tuple #[nv (X / 10 ^ k), nv (X % 10 ^ k), .bool true]) (nv (X / 10 ^ k)) (fun _ => rfl) rfl (by kernel_rfl) rfl ?_
 refine wl_un (fun v => Instr.extract v 1) (.tmp 44) (.tuple #[nv (X / 10 ^ k), nv (X % 10 ^ k), .bool true]) (nv (X % 10 ^ k)) (fun _ => rfl) rfl (by kernel_rfl) rfl ?_
 refine wl_un (fun v => Instr.extract v 2) (.tmp 44) (.tuple #[nv (X / 10 ^ k), nv (X % 10 ^ k), .bool true]) (.bool true) (fun _ => rfl) rfl (by kernel_rfl) rfl ?_
 refine wl_alloc 31 #[.int .u64 0, .int .u64 0, .int .u64 0, .int .u64 0] rfl (fun _ => by kernel_rfl) rfl ?_
 intro k4 w7 hk hz hq Q4
 have ne_k1_k4 : k1 ≠ k4 := by have := Q1.lt; omega
 have ne_k2_k4 : k2 ≠ k4 := by have := Q2.lt; omega
 have ne_k3_k4 : k3 ≠ k4 := by have := Q3.lt; omega
 have N_k4 : w.heap.size ≤ k4 := by have := M.size; omega
 replace Q1 := Q1.mo hq
 replace Q2 := Q2.mo hq
 replace Q3 := Q3.mo hq
 replace M := M.trans hq
 clear hk hz hq
 refine wl_alloc 31 #[.int .u64 0, .int .u64 0, .int .u64 0, .int .u64 0] rfl (fun _ => by kernel_rfl) rfl ?_
 intro k5 w8 hk hz hq Q5
 have ne_k1_k5 : k1 ≠ k5 := by have := Q1.lt; omega
 have ne_k2_k5 : k2 ≠ k5 := by have := Q2.lt; omega
 have ne_k3_k5 : k3 ≠ k5 := by have := Q3.lt; omega
 have ne_k4_k5 : k4 ≠ k5 := by have := Q4.lt; omega
 have N_k5 : w.heap.size ≤ k5 := by have := M.size; omega
 replace Q1 := Q1.mo hq
 replace Q2 := Q2.mo hq
 replace Q3 := Q3.mo hq
 replace Q4 := Q4.mo hq
 replace M := M.trans hq
 clear hk hz hq
 refine wl_st 31 (.tmp 14) (.tmp 51) k4 0 (nvar (X / 10 ^ k)) _ (nvli (X / 10 ^ k)) Q4 rfl rfl rfl rfl rfl sz24 rfl rfl rfl ?_
 intro w9 hS Qn
 replace Q4 := Qn
 clear Qn
 replace Q1 := hS.other _ _ ne_k1_k4 Q1
 replace Q2 := hS.other _ _ ne_k2_k4 Q2
 replace Q3 := hS.other _ _ ne_k3_k4 Q3
 replace Q5 := hS.other _ _ ne_k4_k5.symm Q5
 replace M := hS.mo _ N_k4 M
 clear hS
 refine wl_st 31 (.tmp 15) (.tmp 52) k5 0 (nvar (X % 10 ^ k)) _ (nvli (X % 10 ^ k)) Q5 rfl rfl rfl rfl rfl sz24 rfl rfl rfl ?_
 intro w10 hS Qn
 replace Q5 := Qn
 clear Qn
 replace Q1 := hS.other _ _ ne_k1_k5 Q1
 replace Q2 := hS.other _ _ ne_k2_k5 Q2
 replace Q3 := hS.other _ _ ne_k3_k5 Q3
 replace Q4 := hS.other _ _ ne_k4_k5 Q4
 replace M := hS.mo _ N_k5 M
 clear hS
 refine wl_m (.tmp 53) (.bool true) ?_
 refine w_nil (xn_then (w_seq (w_seq (w_reg ?_))))
 refine wl_m (.tmp 16) (.bool true) ?_
 refine wl_un (fun v => Op.unary .not v) (.tmp 54) (.bool true) (.bool false) (fun _ => rfl) rfl (by kernel_rfl) rfl ?_
 refine w_nil (xn_then (w_condF rfl (w_skip (xn_then (w_seq (w_reg ?_))))))
 refine wl_l 31 (.tmp 14) (pt k4 0) (nv (X / 10 ^ k)) (run_row Q4 31 0 4 (nvli (X / 10 ^ k)) rfl Try.underlying31 rfl sz24) ?_
 refine wl_build 65 [(1, (.tmp 57))] [(1, nv (X / 10 ^ k))] (.agg #[.int .u64 0, .int .u64 0, .int .u64 0, .int .u64 0, .int .u64 (l0 (X / 10 ^ k)), .int .u64 (l1 (X / 10 ^ k)), .int .u64 (l2 (X / 10 ^ k)), .int .u64 (l3 (X / 10 ^ k))]) rfl rfl (by kernel_rfl) rfl ?_
 refine wl_alloc 65 #[.int .u64 0, .int .u64 0, .int .u64 0, .int .u64 0, .int .u64 0, .int .u64 0, .int .u64 0, .int .u64 0] rfl (fun _ => by kernel_rfl) rfl ?_
 intro k6 w11 hk hz hq Q6
 have ne_k1_k6 : k1 ≠ k6 := by have := Q1.lt; omega
 have ne_k2_k6 : k2 ≠ k6 := by have := Q2.lt; omega
 have ne_k3_k6 : k3 ≠ k6 := by have := Q3.lt; omega
 have ne_k4_k6 : k4 ≠ k6 := by have := Q4.lt; omega
 have ne_k5_k6 : k5 ≠ k6 := by have := Q5.lt; omega
 have N_k6 : w.heap.size ≤ k6 := by have := M.size; omega
 replace Q1 := Q1.mo hq
 replace Q2 := Q2.mo hq
 replace Q3 := Q3.mo hq
 replace Q4 := Q4.mo hq
 replace Q5 := Q5.mo hq
 replace M := M.trans hq
 clear hk hz hq
 refine wl_st 65 (.tmp 17) (.tmp 58) k6 0 #[.int .u64 0, .int .u64 0, .int .u64 0, .int .u64 0, .int .u64 (l0 (X / 10 ^ k)), .int .u64 (l1 (X / 10 ^ k)), .int .u64 (l2 (X / 10 ^ k)), .int .u64 (l3 (X / 10 ^ k))] _ [.int .u64 0, .int .u64 0, .int .u64 0, .int .u64 0, .int .u64 (l0 (X / 10 ^ k)), .int .u64 (l1 (X / 10 ^ k)), .int .u64 (l2 (X / 10 ^ k)), .int .u64 (l3 (X / 10 ^ k))] Q6 rfl rfl rfl rfl rfl sz87 rfl rfl rfl ?_
 intro w12 hS Qn
 replace Q6 := Qn
 clear Qn
 replace Q1 := hS.other _ _ ne_k1_k6 Q1
 replace Q2 := hS.other _ _ ne_k2_k6 Q2
 replace Q3 := hS.other _ _ ne_k3_k6 Q3
 replace Q4 := hS.other _ _ ne_k4_k6 Q4
 replace Q5 := hS.other _ _ ne_k5_k6 Q5
 replace M := hS.mo _ N_k6 M
 clear hS
 refine w_nil (xn_then (w_seq (w_seq (w_reg ?_))))
 refine wl_l 31 (.tmp 15) (pt k5 0) (nv (X % 10 ^ k)) (run_row Q5 31 0 4 (nvli (X % 10 ^ k)) rfl Try.underlying31 rfl sz24) ?_
 refine wl_build 31 [] [] (.agg #[.int .u64 0, .int .u64 0, .int .u64 0, .int .u64 0]) rfl rfl (by kernel_rfl) rfl ?_
 refine wl_b .neq 31 (.tmp 59) (.tmp 60) (nv (X % 10 ^ k)) (.agg #[.int .u64 0, .int .u64 0, .int .u64 0, .int .u64 0]) (.bool true) (nen_run (r := false) hz _ _ _) ?_
 refine wl_m (.tmp 61) (.bool true) ?_
 refine wl_m (.tmp 4) (.int .i64 p) ?_
 refine wl_m (.tmp 0) (.bool b) ?_
 refine wl_l 31 (.tmp 14) (pt k4 0) (nv (X / 10 ^ k)) (run_row Q4 31 0 4 (nvli (X / 10 ^ k)) rfl Try.underlying31 rfl sz24) ?_
 refine wl_l 31 (.tmp 15) (pt k5 0) (nv (X % 10 ^ k)) (run_row Q5 31 0 4 (nvli (X % 10 ^ k)) rfl Try.underlying31 rfl sz24) ?_
 refine wl_l 31 (.tmp 12) (pt k3 0) (nv (10 ^ k)) (run_row Q3 31 0 4 (nvli (10 ^ k)) rfl Try.underlying31 rfl sz24) ?_
 refine wl_call 91 [(.tmp 63), (.tmp 64), (.tmp 65), (.tmp 66), (.tmp 67)] _ [.int .i64 p, .bool b, nv (X / 10 ^ k), nv (X % 10 ^ k), nv (10 ^ k)] (.bool true) rfl rfl (fun _ _ => by kernel_rfl) (hup _) rfl ?_
 intro w13 hq
 replace Q1 := Q1.mo hq
 replace Q2 := Q2.mo hq
 replace Q3 := Q3.mo hq
 replace Q4 := Q4.mo hq
 replace Q5 := Q5.mo hq
 replace Q6 := Q6.mo hq
 replace M := M.trans hq
 clear hq
 refine wl_pick (.tmp 62) (.tmp 68) (.const (.bool false)) true (.bool true) (fun _ => rfl) rfl rfl rfl ?_
 refine w_nil (xn_then (w_condT rfl ?_))
 refine w_any 4 [.inl (.agg #[.int .u64 0, .int .u64 0, .int .u64 0, .int .u64 0, .int .u64 (l0 (X / 10 ^ k)), .int .u64 (l1 (X / 10 ^ k)), .int .u64 (l2 (X / 10 ^ k)), .int .u64 (l3 (X / 10 ^ k))]), .inl (nv (1)), .inl (.agg #[.int .u64 0, .int .u64 0, .int .u64 0, .int .u64 0, .int .u64 (l0 (1)), .int .u64 (l1 (1)), .int .u64 (l2 (1)), .int .u64 (l3 (1))]), .inl (dw (X / 10 ^ k + 1))] [] (by kernel_rfl) (by kernel_rfl) (by kernel_rfl) (by kernel_rfl) rfl (by kernel_rfl) (by kernel_rfl) late_nil ?_ ?_ ?_
 ·exact Ds.none rfl
 ·refine ea_cons ?_ (ea_cons ?_ (ea_cons ?_ (ea_cons ?_ (ea_nil))))
  ·exact og_eq _ rfl (fun f wf hq hd K hK => have Q6 := Q6.mo hq; go_run rfl (wo_load 65 (.tmp 17) (pt k6 0) (.agg #[.int .u64 0, .int .u64 0, .int .u64 0, .int .u64 0, .int .u64 (l0 (X / 10 ^ k)), .int .u64 (l1 (X / 10 ^ k)), .int .u64 (l2 (X / 10 ^ k)), .int .u64 (l3 (X / 10 ^ k))]) rfl rfl (run_row Q6 65 0 8 _ rfl Try.underlying65 rfl sz87) (hK _ (Mo.refl _))))
  ·exact og_eq _ rfl (fun f wf hq hd K hK => go_run rfl (wo_call 64 [(.const (.int .u64 (1)))] _ [.int .u64 (1)] (nv (1)) rfl rfl (fun _ _ => by kernel_rfl) (one_n _) hK))
  ·exact og_eq _ rfl (fun f wf hq hd K hK => go_run rfl (wo_build 65 [(1, (.tmp 71))] [(1, nv (1))] (.agg #[.int .u64 0, .int .u64 0, .int .u64 0, .int .u64 0, .int .u64 (l0 (1)), .int .u64 (l1 (1)), .int .u64 (l2 (1)), .int .u64 (l3 (1))]) rfl (lp1 (hd 1 rfl)) (by kernel_rfl) (hK _ (Mo.refl _))))
  ·exact og_eq _ rfl (fun f wf hq hd K hK => go_run rfl (wo_call 79 [(.tmp 70), (.tmp 72)] _ [.agg #[.int .u64 0, .int .u64 0, .int .u64 0, .int .u64 0, .int .u64 (l0 (X / 10 ^ k)), .int .u64 (l1 (X / 10 ^ k)), .int .u64 (l2 (X / 10 ^ k)), .int .u64 (l3 (X / 10 ^ k))], .agg #[.int .u64 0, .int .u64 0, .int .u64 0, .int .u64 0, .int .u64 (l0 (1)), .int .u64 (l1 (1)), .int .u64 (l2 (1)), .int .u64 (l3 (1))]] (dw (X / 10 ^ k + 1)) rfl (li2 (hd 0 rfl) (hd 2 rfl)) (fun _ _ => by kernel_rfl) (plus1 (X / 10 ^ k) _ hq0 hqM) hK))
 intro kf14 w14 hq hR hne
 replace Q1 := Q1.mo hq
 replace Q2 := Q2.mo hq
 replace Q3 := Q3.mo hq
 replace Q4 := Q4.mo hq
 replace Q5 := Q5.mo hq
 replace Q6 := Q6.mo hq
 replace M := M.trans hq
 clear hq hR hne
 refine wl_st 65 (.tmp 17) (.tmp 73) k6 0 (dwr (X / 10 ^ k + 1)) _ (dwl (X / 10 ^ k + 1)) Q6 rfl rfl rfl rfl rfl sz87 rfl rfl rfl ?_
 intro w15 hS Qn
 replace Q6 := Qn
 clear Qn
 replace Q1 := hS.other _ _ ne_k1_k6 Q1
 replace Q2 := hS.other _ _ ne_k2_k6 Q2
 replace Q3 := hS.other _ _ ne_k3_k6 Q3
 replace Q4 := hS.other _ _ ne_k4_k6 Q4
 replace Q5 := hS.other _ _ ne_k5_k6 Q5
 replace M := hS.mo _ N_k6 M
 clear hS
 refine w_nil (xn_then (w_seq (w_reg ?_)))
 refine wl_m (.tmp 0) (.bool b) ?_
 refine wl_l 65 (.tmp 17) (pt k6 0) (dw (X / 10 ^ k + 1)) (run_row Q6 65 0 8 (dwl (X / 10 ^ k + 1)) rfl Try.underlying65 rfl sz87) ?_
 refine wl_m (.tmp 3) (.int .i64 S) ?_
 refine wl_call 78 [(.tmp 74), (.tmp 75), (.tmp 76)] _ [.bool b, dw (X / 10 ^ k + 1), .int .i64 S] (.tuple #[.agg #[d0, d1, d2, d3, d4, d5], .int .i64 e]) rfl rfl (fun _ _ => by kernel_rfl) (hat _) rfl ?_
 intro w16 hq
 replace Q1 := Q1.mo hq
 replace Q2 := Q2.mo hq
 replace Q3 := Q3.mo hq
 replace Q4 := Q4.mo hq
 replace Q5 := Q5.mo hq
 replace Q6 := Q6.mo hq
 replace M := M.trans hq
 clear hq
 refine wl_un (fun v => Instr.extract v 0) (.tmp 77) (.tuple #[.agg #[d0, d1, d2, d3, d4, d5], .int .i64 e]) (.agg #[d0, d1, d2, d3, d4, d5]) (fun _ => rfl) rfl (by kernel_rfl) rfl ?_
 refine wl_un (fun v => Instr.extract v 1) (.tmp 77) (.tuple #[.agg #[d0, d1, d2, d3, d4, d5], .int .i64 e]) (.int .i64 e) (fun _ => rfl) rfl (by kernel_rfl) rfl ?_
 refine wl_st 33 (.tmp 10) (.tmp 78) k2 0 #[d0, d1, d2, d3, d4, d5] _ [d0, d1, d2, d3, d4, d5] Q2 rfl rfl rfl rfl rfl sz40 hd rfl rfl ?_
 intro w17 hS Qn
 replace Q2 := Qn
 clear Qn
 replace Q1 := hS.other _ _ ne_k1_k2 Q1
 replace Q3 := hS.other _ _ ne_k2_k3.symm Q3
 replace Q4 := hS.other _ _ ne_k2_k4.symm Q4
 replace Q5 := hS.other _ _ ne_k2_k5.symm Q5
 replace Q6 := hS.other _ _ ne_k2_k6.symm Q6
 replace M := hS.mo _ N_k2 M
 clear hS
 refine wl_m (.tmp 79) (.int .i64 e) ?_
 refine w_nil (xn_then (w_ret ?_))
 exact w_ret2 _ _ (.agg #[d0, d1, d2, d3, d4, d5]) (.int .i64 e) rfl ⟨k2, rfl, (run_row Q2 33 0 6 _ rfl Try.underlying33 rfl sz40)⟩ rfl ⟨rfl, M⟩
theorem round_n (b : Bool) (X f S p : Int) (w : World) (hX0 : 0 ≤ X) (hX2 : X < MM * MM) (hS : sc S = true) (hf0 : 0 ≤ f) (hf : f ≤ 36) (hp1 : 1 ≤ p) (hp5 : p ≤ 5) :
  Calls Try.prog 77 #[.bool b, dw X, .int .i64 f, .int .i64 S, .int .i64 p] w fun e' w' => e' = .returned (fx b (rdV b X f S p) S) ∧ Mo w w' := by
 obtain ⟨S0, S1⟩ := sc_iff.1 hS
 have pM : (0 : Int) < MM := by decide
 unfold rdV
 by_cases hle : f ≤ S
 ·rw [if_pos hle]
  obtain ⟨k, hk⟩ : ∃ k : Nat, S - f = (k : Int) := ⟨(S - f).toNat, by omega⟩
  rw [hk, pw_nat]
  have pk : (1 : Int) ≤ 10 ^ k := by have : (0 : Int) < 10 ^ k := Int.pow_pos (by decide); omega
  by_cases hX : X < MM
  ·have bX := lifted_bd hX0 hX (i := k) (by omega)
   obtain ⟨d0, d1, d2, d3, d4, d5, e, he, hd⟩ := fx_form b (X * 10 ^ k) S
   have ha := fun w => rat_x b (X * 10 ^ k) S w bX.1 bX.2
   rw [he] at ha ⊢
   exact rnd_room b X f S p k d0 d1 d2 d3 d4 d5 e w hX0 hX (decide_eq_true hle) hk (by omega) hd ha
  ·have : ¬ X * 10 ^ k < MM := by
    have : X * 1 ≤ X * 10 ^ k := Int.mul_le_mul_of_nonneg_left pk hX0
    omega
   unfold fx; rw [if_neg this]
   exact rnd_over b X f S p w (by omega) hX2 (decide_eq_true hle)
 ·rw [if_neg hle]
  obtain ⟨k, hk⟩ : ∃ k : Nat, f - S = (k : Int) := ⟨(f - S).toNat, by omega⟩
  rw [hk, Int.toNat_natCast]
  have tb := ten_bd k (by omega)
  have t36 : (10 : Int) ^ k ≤ 1000000000000000000000000000000000000 := by
   have h1 : (10 : Nat) ^ k ≤ 10 ^ 36 := Nat.pow_le_pow_right (by decide) (by omega)
   have h3 : ((10 ^ k : Nat) : Int) = (10 : Int) ^ k := by rw [Int.natCast_pow]; rfl
   rw [← h3]; omega
  by_cases hov : X / MM < 10 ^ k
  ·have hq0 : 0 ≤ X / 10 ^ k := Int.ediv_nonneg hX0 (by omega)
   have hqM : X / 10 ^ k < MM := by
    apply Int.ediv_lt_of_lt_mul tb.1
    have h1 := Int.mul_ediv_add_emod X MM
    have h2 := Int.emod_lt_of_pos X pM
    have h3 : MM * (X / MM + 1) ≤ MM * 10 ^ k := Int.mul_le_mul_of_nonneg_left (by omega) (by omega)
    rw [Int.mul_add, Int.mul_one] at h3
    omega
   have hr0 : 0 ≤ X % 10 ^ k := Int.emod_nonneg _ (by omega)
   have hr1 : X % 10 ^ k < 10 ^ k := Int.emod_lt_of_pos _ tb.1
   have hrr : X % 10 ^ k + X % 10 ^ k < MM := by unfold MM; omega
   have hzb := zb hr0 (show X % 10 ^ k < MM by omega)
   have hle' : decide (f ≤ S) = false := decide_eq_false hle
   by_cases hz : X % 10 ^ k = 0
   ·have er : ro b X k p = X / 10 ^ k := by unfold ro aw; simp [hz]
    rw [er]
    obtain ⟨d0, d1, d2, d3, d4, d5, e, he, hd⟩ := fx_form b (X / 10 ^ k) S
    have ha := fun w => atlow b (X / 10 ^ k) S w hq0 hqM
    rw [he] at ha ⊢
    exact rnd_z b X f S p k d0 d1 d2 d3 d4 d5 e w hX0 hX2 hle' hk (by omega) tb.1 tb.2 hov (by rw [hzb]; exact decide_eq_true hz) hd ha
   ·have hu := fun w => up_n p b (X / 10 ^ k) (X % 10 ^ k) (10 ^ k) w hr0 hrr (by omega) tb.2 hp1 hp5 hz
    have hzf : (l0 (X % 10 ^ k) == 0 && (l1 (X % 10 ^ k) == 0 && (l2 (X % 10 ^ k) == 0 && l3 (X % 10 ^ k) == 0))) = false := by rw [hzb]; exact decide_eq_false hz
    cases hw : aw b (X / 10 ^ k) (X % 10 ^ k) (10 ^ k) p with
    | false =>
     rw [hw] at hu
     have er : ro b X k p = X / 10 ^ k := by unfold ro; rw [hw]; simp
     rw [er]
     obtain ⟨d0, d1, d2, d3, d4, d5, e, he, hd⟩ := fx_form b (X / 10 ^ k) S
     have ha := fun w => atlow b (X / 10 ^ k) S w hq0 hqM
     rw [he] at ha ⊢
     exact rnd_dn b X f S p k d0 d1 d2 d3 d4 d5 e w hX0 hX2 hle' hk (by omega) tb.1 tb.2 hov hzf hu hd ha
    | true =>
     rw [hw] at hu
     have er : ro b X k p = X / 10 ^ k + 1 := by unfold ro; rw [hw]; simp
     rw [er]
     obtain ⟨d0, d1, d2, d3, d4, d5, e, he, hd⟩ := fx_form b (X / 10 ^ k + 1) S
     have ha := fun w => rat_x b (X / 10 ^ k + 1) S w (by omega) (by unfold MM at *; omega)
     rw [he] at ha ⊢
     exact rnd_up b X f S p k d0 d1 d2 d3 d4 d5 e w hX0 hX2 hle' hk (by omega) tb.1 tb.2 hov hzf hu hq0 hqM hd ha
  ·have hbig : MM ≤ X / 10 ^ k := by
    apply Int.le_ediv_of_mul_le tb.1
    have h1 := Int.mul_ediv_add_emod X MM
    have h2 := Int.emod_nonneg X (b := MM) (by omega)
    have h3 : MM * 10 ^ k ≤ MM * (X / MM) := Int.mul_le_mul_of_nonneg_left (by omega) (by omega)
    omega
   have : ¬ ro b X k p < MM := by unfold ro; split <;> omega
   unfold fx; rw [if_neg this]
   exact rnd_no b X f S p k w hX0 hX2 (decide_eq_false hle) hk (by omega) tb.1 tb.2 (by omega)
end Go.Proofs.Ythehmmhnacomkaa

namespace Go.Proofs.Ythehmmhnacomkaa
open Go.RowKit
theorem rmulTo_w (b c : Bool) (n m s t S p : Int) (d0 d1 d2 d3 d4 d5 : Value) (e : Int) (w : World) (hn0 : 0 ≤ n) (hn : n < MM) (hm0 : 0 ≤ m) (hm : m < MM) (h1 : ck b n s = 0) (h2 : ck c m t = 0) (hS : sc S = true) (hp1 : 1 ≤ p) (hp5 : p ≤ 5) (hb1 : 0 ≤ s ∧ s ≤ 18) (hb2 : 0 ≤ t ∧ t ≤ 18) (hd : [d0, d1, d2, d3, d4, d5].all (·.oneCell') = true) (hrd : ∀ w, Calls Try.prog 77 #[.bool (b != c), dw (n * m), .int .i64 (s + t), .int .i64 S, .int .i64 p] w fun e' w' => e' = .returned (.tuple #[.agg #[d0, d1, d2, d3, d4, d5], .int .i64 e]) ∧ Mo w w') :
  Calls Try.prog 54 #[dc b n s, dc c m t, .int .i64 S, .int .i64 p] w fun e' w' => e' = .returned (.tuple #[.agg #[d0, d1, d2, d3, d4, d5], .int .i64 e]) ∧ Mo w w' := by
 refine w_enter 54 Try.func54 Try.ntmps54 rfl rfl ?_
 have M : Mo w w := Mo.refl _
 refine w_seq (w_reg ?_)
 refine wl_box 33 (.tmp 0) (dc b (n) (s)) ((dcr b (n) (s))) rfl rfl (fun _ => by kernel_rfl) rfl ?_
 intro k1 w1 hk hz hq Q1
 have N_k1 : w.heap.size ≤ k1 := by have := M.size; omega
 replace M := M.trans hq
 clear hk hz hq
 refine wl_box 33 (.tmp 1) (dc c (m) (t)) ((dcr c (m) (t))) rfl rfl (fun _ => by kernel_rfl) rfl ?_
 intro k2 w2 hk hz hq Q2
 have ne_k1_k2 : k1 ≠ k2 := by have := Q1.lt; omega
 have N_k2 : w.heap.size ≤ k2 := by have := M.size; omega
 replace Q1 := Q1.mo hq
 replace M := M.trans hq
 clear hk hz hq
 refine wl_alloc 33 #[.bool false, .int .u64 0, .int .u64 0, .int .u64 0, .int .u64 0, .int .i64 0] rfl (fun _ => by kernel_rfl) rfl ?_
 intro k3 w3 hk hz hq Q3
 have ne_k1_k3 : k1 ≠ k3 := by have := Q1.lt; omega
 have ne_k2_k3 : k2 ≠ k3 := by have := Q2.lt; omega
 have N_k3 : w.heap.size ≤ k3 := by have := M.size; omega
 replace Q1 := Q1.mo hq
 replace Q2 := Q2.mo hq
 replace M := M.trans hq
 clear hk hz hq
 refine wl_m (.const (.int .i64 (0))) (.int .i64 (0)) ?_
 refine w_nil (xn_then (w_seq (w_seq (w_reg ?_))))
 refine wl_l 33 (.tmp 4) (pt k1 0) (dc b (n) (s)) (run_row Q1 33 0 6 (dcl b (n) (s)) rfl Try.underlying33 rfl sz40) ?_
 refine wl_l 33 (.tmp 5) (pt k2 0) (dc c (m) (t)) (run_row Q2 33 0 6 (dcl c (m) (t)) rfl Try.underlying33 rfl sz40) ?_
 refine wl_call 40 [(.tmp 14), (.tmp 15)] _ [dc b (n) (s), dc c (m) (t)] (.int .i64 (0)) rfl rfl (fun _ _ => by kernel_rfl) (rboth_ok b n s c m t _ hn0 hn hm0 hm h1 h2) rfl ?_
 intro w4 hq
 replace Q1 := Q1.mo hq
 replace Q2 := Q2.mo hq
 replace Q3 := Q3.mo hq
 replace M := M.trans hq
 clear hq
 refine wl_m (.tmp 16) (.int .i64 (0)) ?_
 refine w_nil (xn_then (w_seq (w_reg ?_)))
 refine wl_m (.tmp 10) (.int .i64 (0)) ?_
 refine wl_b .neq 26 (.tmp 17) (.const (.int .i64 (0))) (.int .i64 (0)) (.int .i64 (0)) (.bool false) (by kernel_rfl) ?_
 refine w_nil (xn_then (w_condF rfl (w_skip (xn_then (w_seq (w_seq (w_reg ?_)))))))
 refine wl_m (.tmp 2) (.int .i64 S) ?_
 refine wl_m (.tmp 3) (.int .i64 p) ?_
 refine wl_call 76 [(.tmp 21), (.tmp 22)] _ [.int .i64 S, .int .i64 p] (.int .i64 (0)) rfl rfl (fun _ _ => by kernel_rfl) (may_ok S p _ hS hp1 hp5) rfl ?_
 intro w5 hq
 replace Q1 := Q1.mo hq
 replace Q2 := Q2.mo hq
 replace Q3 := Q3.mo hq
 replace M := M.trans hq
 clear hq
 refine wl_m (.tmp 23) (.int .i64 (0)) ?_
 refine w_nil (xn_then (w_seq (w_reg ?_)))
 refine wl_m (.tmp 11) (.int .i64 (0)) ?_
 refine wl_b .neq 26 (.tmp 24) (.const (.int .i64 (0))) (.int .i64 (0)) (.int .i64 (0)) (.bool false) (by kernel_rfl) ?_
 refine w_nil (xn_then (w_condF rfl (w_skip (xn_then (w_seq (w_reg ?_))))))
 refine wl_f 33 1 (.tmp 4) (pt k1 0) (pt k1 1) ?_
 refine wl_l 31 (.tmp 29) (pt k1 1) (.agg #[.int .u64 (l0 (n)), .int .u64 (l1 (n)), .int .u64 (l2 (n)), .int .u64 (l3 (n))]) (run_row Q1 31 1 4 _ rfl Try.underlying31 rfl sz24) ?_
 refine wl_f 33 1 (.tmp 5) (pt k2 0) (pt k2 1) ?_
 refine wl_l 31 (.tmp 31) (pt k2 1) (.agg #[.int .u64 (l0 (m)), .int .u64 (l1 (m)), .int .u64 (l2 (m)), .int .u64 (l3 (m))]) (run_row Q2 31 1 4 _ rfl Try.underlying31 rfl sz24) ?_
 refine wl_call 62 [(.tmp 30), (.tmp 32)] _ [.agg #[.int .u64 (l0 (n)), .int .u64 (l1 (n)), .int .u64 (l2 (n)), .int .u64 (l3 (n))], .agg #[.int .u64 (l0 (m)), .int .u64 (l1 (m)), .int .u64 (l2 (m)), .int .u64 (l3 (m))]] (.tuple #[nv (n * m / MM), nv (n * m)]) rfl rfl (fun _ _ => by kernel_rfl) (rmul_n n m _ hn0 hn hm0 hm) rfl ?_
 intro w6 hq
 replace Q1 := Q1.mo hq
 replace Q2 := Q2.mo hq
 replace Q3 := Q3.mo hq
 replace M := M.trans hq
 clear hq
 refine wl_m (.tmp 33) (.tuple #[nv (n * m / MM), nv (n * m)]) ?_
 refine wl_un (fun v => Instr.extract v 0) (.tmp 28) (.tuple #[nv (n * m / MM), nv (n * m)]) (nv (n * m / MM)) (fun _ => rfl) rfl (by kernel_rfl) rfl ?_
 refine wl_un (fun v => Instr.extract v 1) (.tmp 28) (.tuple #[nv (n * m / MM), nv (n * m)]) (nv (n * m)) (fun _ => rfl) rfl (by kernel_rfl) rfl ?_
 refine wl_alloc 31 #[.int .u64 0, .int .u64 0, .int .u64 0, .int .u64 0] rfl (fun _ => by kernel_rfl) rfl ?_
 intro k4 w7 hk hz hq Q4
 have ne_k1_k4 : k1 ≠ k4 := by have := Q1.lt; omega
 have ne_k2_k4 : k2 ≠ k4 := by have := Q2.lt; omega
 have ne_k3_k4 : k3 ≠ k4 := by have := Q3.lt; omega
 have N_k4 : w.heap.size ≤ k4 := by have := M.size; omega
 replace Q1 := Q1.mo hq
 replace Q2 := Q2.mo hq
 replace Q3 := Q3.mo hq
 replace M := M.trans hq
 clear hk hz hq
 refine wl_alloc 31 #[.int .u64 0, .int .u64 0, .int .u64 0, .int .u64 0] rfl (fun _ => by kernel_rfl) rfl ?_
 intro k5 w8 hk hz hq Q5
 have ne_k1_k5 : k1 ≠ k5 := by have := Q1.lt; omega
 have ne_k2_k5 : k2 ≠ k5 := by have := Q2.lt; omega
 have ne_k3_k5 : k3 ≠ k5 := by have := Q3.lt; omega
 have ne_k4_k5 : k4 ≠ k5 := by have := Q4.lt; omega
 have N_k5 : w.heap.size ≤ k5 := by have := M.size; omega
 replace Q1 := Q1.mo hq
 replace Q2 := Q2.mo hq
 replace Q3 := Q3.mo hq
 replace Q4 := Q4.mo hq
 replace M := M.trans hq
 clear hk hz hq
 refine wl_st 31 (.tmp 12) (.tmp 34) k4 0 (nvar (n * m / MM)) _ (nvli (n * m / MM)) Q4 rfl rfl rfl rfl rfl sz24 rfl rfl rfl ?_
 intro w9 hS Qn
 replace Q4 := Qn
 clear Qn
 replace Q1 := hS.other _ _ ne_k1_k4 Q1
 replace Q2 := hS.other _ _ ne_k2_k4 Q2
 replace Q3 := hS.other _ _ ne_k3_k4 Q3
 replace Q5 := hS.other _ _ ne_k4_k5.symm Q5
 replace M := hS.mo _ N_k4 M
 clear hS
 refine wl_st 31 (.tmp 13) (.tmp 35) k5 0 (nvar (n * m)) _ (nvli (n * m)) Q5 rfl rfl rfl rfl rfl sz24 rfl rfl rfl ?_
 intro w10 hS Qn
 replace Q5 := Qn
 clear Qn
 replace Q1 := hS.other _ _ ne_k1_k5 Q1
 replace Q2 := hS.other _ _ ne_k2_k5 Q2
 replace Q3 := hS.other _ _ ne_k3_k5 Q3
 replace Q4 := hS.other _ _ ne_k4_k5 Q4
 replace M := hS.mo _ N_k5 M
 clear hS
 refine w_nil (xn_then (w_seq (w_reg ?_)))
 refine wl_f 33 0 (.tmp 4) (pt k1 0) (pt k1 0) ?_
 refine wl_l 4 (.tmp 36) (pt k1 0) (.bool b) (run_one Q1 4 0 rfl Try.underlying4 rfl) ?_
 refine wl_f 33 0 (.tmp 5) (pt k2 0) (pt k2 0) ?_
 refine wl_l 4 (.tmp 38) (pt k2 0) (.bool c) (run_one Q2 4 0 rfl Try.underlying4 rfl) ?_
 refine wl_b .neq 4 (.tmp 37) (.tmp 39) (.bool b) (.bool c) (.bool (b != c)) (neb_run rfl _ _ _) ?_
 refine wl_l 31 (.tmp 12) (pt k4 0) (nv (n * m / MM)) (run_row Q4 31 0 4 (nvli (n * m / MM)) rfl Try.underlying31 rfl sz24) ?_
 refine wl_l 31 (.tmp 13) (pt k5 0) (nv (n * m)) (run_row Q5 31 0 4 (nvli (n * m)) rfl Try.underlying31 rfl sz24) ?_
 refine wl_build 65 [(0, (.tmp 41)), (1, (.tmp 42))] [(0, nv (n * m / MM)), (1, nv (n * m))] (.agg #[.int .u64 (l0 (n * m / MM)), .int .u64 (l1 (n * m / MM)), .int .u64 (l2 (n * m / MM)), .int .u64 (l3 (n * m / MM)), .int .u64 (l0 (n * m)), .int .u64 (l1 (n * m)), .int .u64 (l2 (n * m)), .int .u64 (l3 (n * m))]) rfl rfl (by kernel_rfl) rfl ?_
 refine wl_f 33 2 (.tmp 4) (pt k1 0) (pt k1 5) ?_
 refine wl_l 3 (.tmp 44) (pt k1 5) (.int .i64 (s)) (run_one Q1 3 5 rfl Try.underlying3 rfl) ?_
 refine wl_f 33 2 (.tmp 5) (pt k2 0) (pt k2 5) ?_
 refine wl_l 3 (.tmp 46) (pt k2 5) (.int .i64 (t)) (run_one Q2 3 5 rfl Try.underlying3 rfl) ?_
 refine wl_b .add 3 (.tmp 45) (.tmp 47) (.int .i64 (s)) (.int .i64 (t)) (.int .i64 (s + t)) (add3_run rfl (by omega) (by omega) _ _ _) ?_
 refine wl_m (.tmp 2) (.int .i64 S) ?_
 refine wl_m (.tmp 3) (.int .i64 p) ?_
 refine wl_call 77 [(.tmp 40), (.tmp 43), (.tmp 48), (.tmp 49), (.tmp 50)] _ [.bool (b != c), .agg #[.int .u64 (l0 (n * m / MM)), .int .u64 (l1 (n * m / MM)), .int .u64 (l2 (n * m / MM)), .int .u64 (l3 (n * m / MM)), .int .u64 (l0 (n * m)), .int .u64 (l1 (n * m)), .int .u64 (l2 (n * m)), .int .u64 (l3 (n * m))], .int .i64 (s + t), .int .i64 S, .int .i64 p] (.tuple #[.agg #[d0, d1, d2, d3, d4, d5], .int .i64 e]) rfl rfl (fun _ _ => by kernel_rfl) (hrd _) rfl ?_
 intro w11 hq
 replace Q1 := Q1.mo hq
 replace Q2 := Q2.mo hq
 replace Q3 := Q3.mo hq
 replace Q4 := Q4.mo hq
 replace Q5 := Q5.mo hq
 replace M := M.trans hq
 clear hq
 refine wl_un (fun v => Instr.extract v 0) (.tmp 51) (.tuple #[.agg #[d0, d1, d2, d3, d4, d5], .int .i64 e]) (.agg #[d0, d1, d2, d3, d4, d5]) (fun _ => rfl) rfl (by kernel_rfl) rfl ?_
 refine wl_un (fun v => Instr.extract v 1) (.tmp 51) (.tuple #[.agg #[d0, d1, d2, d3, d4, d5], .int .i64 e]) (.int .i64 e) (fun _ => rfl) rfl (by kernel_rfl) rfl ?_
 refine wl_st 33 (.tmp 8) (.tmp 52) k3 0 #[d0, d1, d2, d3, d4, d5] _ [d0, d1, d2, d3, d4, d5] Q3 rfl rfl rfl rfl rfl sz40 hd rfl rfl ?_
 intro w12 hS Qn
 replace Q3 := Qn
 clear Qn
 replace Q1 := hS.other _ _ ne_k1_k3 Q1
 replace Q2 := hS.other _ _ ne_k2_k3 Q2
 replace Q4 := hS.other _ _ ne_k3_k4.symm Q4
 replace Q5 := hS.other _ _ ne_k3_k5.symm Q5
 replace M := hS.mo _ N_k3 M
 clear hS
 refine wl_m (.tmp 53) (.int .i64 e) ?_
 refine w_nil (xn_then (w_ret ?_))
 exact w_ret2 _ _ (.agg #[d0, d1, d2, d3, d4, d5]) (.int .i64 e) rfl ⟨k3, rfl, (run_row Q3 33 0 6 _ rfl Try.underlying33 rfl sz40)⟩ rfl ⟨rfl, M⟩
theorem rmulTo_ok (b c : Bool) (n m s t S p : Int) (w : World) (hn0 : 0 ≤ n) (hn : n < MM) (hm0 : 0 ≤ m) (hm : m < MM) (h1 : ck b n s = 0) (h2 : ck c m t = 0) (hb1 : 0 ≤ s ∧ s ≤ 18) (hb2 : 0 ≤ t ∧ t ≤ 18) (hS : sc S = true) (hp1 : 1 ≤ p) (hp5 : p ≤ 5) :
  Calls Try.prog 54 #[dc b n s, dc c m t, .int .i64 S, .int .i64 p] w fun e' w' => e' = .returned (fx (b != c) (rdV (b != c) (n * m) (s + t) S p) S) ∧ Mo w w' := by
 have bX := prod_bd hn0 hn hm0 hm
 obtain ⟨d0, d1, d2, d3, d4, d5, e, he, hd⟩ := fx_form (b != c) (rdV (b != c) (n * m) (s + t) S p) S
 have ha := fun w => round_n (b != c) (n * m) (s + t) S p w bX.1 bX.2 hS (by omega) (by omega) hp1 hp5
 rw [he] at ha ⊢
 exact rmulTo_w b c n m s t S p d0 d1 d2 d3 d4 d5 e w hn0 hn hm0 hm h1 h2 hS hp1 hp5 hb1 hb2 hd ha
end Go.Proofs.Ythehmmhnacomkaa

namespace Go.Proofs.Ythehmmhnacomkaa
open Go.RowKit Go.ChangeMaps
structure Mk (D : Nat → Prop) (w w' : World) : Prop where
 os : w'.os = w.os
 tape : w'.tape = w.tape
 output : w'.output = w.output
 size : w.heap.size ≤ w'.heap.size
 block : ∀ k, k < w.heap.size → ¬ D k → w'.heap[k]? = w.heap[k]?
 fz : ∀ a, w'.frozen? a = w.frozen? a
theorem Mk.refl (D : Nat → Prop) (w : World) : Mk D w w := ⟨rfl, rfl, rfl, Nat.le_refl _, fun _ _ _ => rfl, fun _ => rfl⟩
theorem Mk.of (D : Nat → Prop) {w w' : World} (h : Mo w w') : Mk D w w' := ⟨h.1.os, h.1.tape, h.1.output, h.1.size, fun k hk _ => h.1.block k hk, h.2⟩
theorem Mk.tr {D E : Nat → Prop} {a b c : World} (h : Mk D a b) (k : Mk E b c) (hE : ∀ j, j < a.heap.size → E j → D j) : Mk D a c :=
 ⟨k.os.trans h.os, k.tape.trans h.tape, k.output.trans h.output, Nat.le_trans h.size k.size, fun j hj hd => (k.block j (Nat.lt_of_lt_of_le hj h.size) (fun e => hd (hE j hj e))).trans (h.block j hj hd), fun x => (k.fz x).trans (h.fz x)⟩
theorem Mk.trans {D : Nat → Prop} {a b c : World} (h : Mk D a b) (k : Mo b c) : Mk D a c := h.tr (Mk.of D k) (fun _ _ e => e)
theorem Mk.same {D : Nat → Prop} {a b c : World} (h : Mk D a b) (k : Mk D b c) : Mk D a c := h.tr k (fun _ _ e => e)
theorem Mk.mono {D E : Nat → Prop} {a b : World} (h : Mk D a b) (hE : ∀ j, D j → E j) : Mk E a b := ⟨h.os, h.tape, h.output, h.size, fun k hk hd => h.block k hk (fun e => hd (hE k e)), h.fz⟩
theorem Mk.at {D : Nat → Prop} {w w' : World} (h : Mk D w w') {k : Nat} {vs : List Value} (hA : At w k vs) (hk : ¬ D k) : At w' k vs :=
 ⟨fun j v hv => (World.cell?_of_block (a := ⟨k, 0 + j, none⟩) (h.block k hA.2.2 hk)).trans (hA.1 j v hv), fun o => (h.fz _).trans (hA.2.1 o), Nat.lt_of_lt_of_le hA.2.2 h.size⟩
theorem Mk.mo {D : Nat → Prop} {a b c : World} (h : Mk D b c) (m : Mo a b) (hD : ∀ k, D k → a.heap.size ≤ k) : Mo a c :=
 ⟨⟨h.os.trans m.1.os, h.tape.trans m.1.tape, h.output.trans m.1.output, Nat.le_trans m.1.size h.size, fun k hk => (h.block k (Nat.lt_of_lt_of_le hk m.1.size) (fun e => by have := hD k e; omega)).trans (m.1.block k hk)⟩, fun x => (h.fz x).trans (m.2 x)⟩
theorem gt3 {a b : Int} {r : Bool} (h : decide (b < a) = r) (x y : Operand) (w : World) : (do eqGuard .gtr 3 x y (.int .i64 a) (.int .i64 b); binOp .gtr 3 (.int .i64 a) (.int .i64 b)).run Try.prog w = .ok (.bool r) w := by
 subst h; kernel_rfl
theorem ge3 {a b : Int} {r : Bool} (h : decide (b ≤ a) = r) (x y : Operand) (w : World) : (do eqGuard .geq 3 x y (.int .i64 a) (.int .i64 b); binOp .geq 3 (.int .i64 a) (.int .i64 b)).run Try.prog w = .ok (.bool r) w := by
 subst h; kernel_rfl
section
variable {P : Program} {o : Oper} {n : Nat} {l : List (Nat × Value)} {w : World} {ops : Array Oper} {rest : List Oper} {Q : Exit → Act → World → Prop} {K : Act → World → Prop} {c : Code}
theorem wl_callx (g : FuncId) (xs : List Operand) (ats : Array TypeId) (args : List Value) {F : Ending → World → Prop} (ho : o.op = .call { callee := .value (.func g), args := xs.toArray, argTypes := ats }) (hx : xs.map (evl n l) = args)
  (h : ∀ args w, (callFunc g args).run P w = .ok (.enter g args) w)
  (hc : Calls P g args.toArray w F) (hg : wnt n l ops o = true) (hk : ∀ v w', F v w' → ∃ u, v = .returned u ∧ WL P ops Q rest n (ext l o.dst u) w') : WL P ops Q (o :: rest) n l w := by
 have e : (execOp (evl n l) o).run P w = .ok (.enter g args.toArray) w := by
  obtain ⟨dst, op, ty, pos, after, guard⟩ := o
  simp only at ho
  subst ho hx
  have e2 := execOp_call_go (fr n l) dst g xs.toArray ats ty pos after guard
  rw [fr_eval] at e2
  rw [e2, h]
  simp
 refine ⟨l_step hg ?_⟩
 unfold Oper.wp; rw [fr_eval, e, Oper.upon_enter]
 refine hc.mono ?_
 intro e w' hF
 obtain ⟨u, rfl, hW⟩ := hk e w' hF
 show wpList _ _ _ _ _ _
 rw [fr_put]
 exact hW.out
end
/-! Maps from names to whole numbers, and from names to flags. -/
variable {w w' : World} {b : Nat} {al : List (ByteArray × Int)}
end Go.Proofs.Ythehmmhnacomkaa

namespace Go.Proofs.Ythehmmhnacomkaa
open Go.RowKit
theorem eq4b {a b r : Bool} (h : (a == b) = r) (x y : Operand) (w : World) : (do eqGuard .eql 4 x y (.bool a) (.bool b); binOp .eql 4 (.bool a) (.bool b)).run Try.prog w = .ok (.bool r) w := by subst h; kernel_rfl
end Go.Proofs.Ythehmmhnacomkaa

namespace Go.Proofs.Ythehmmhnacomkaa
open Go.ChangeShapes Go.WideShapes Go.ChangeAt Go.RowKit
theorem Mk.kp {D : Nat → Prop} {w w' : World} (m : Mk D w w') (hD : ∀ k, D k → ∀ o, w.cell? ⟨k, o, none⟩ = none) : Kp w w' := ⟨m.size, fun k o _ e => (World.cell?_of_block (a := ⟨k, o, none⟩) (m.block k (cell_lt e) (fun d => by rw [hD k d o] at e; cases e))).trans e⟩
namespace D
section runs
variable {P : Program} {w : World} {b o : Nat} {cs : List Value}
theorem run_oneR (h : w.rangeAt b o cs) (ty : TypeId) (j : Nat) {v : Value} (hv : cs[j]? = some v) {d : TypeDesc} (hu : P.underlying ty = some d) (hd : d.isRow = false) :
  (Instr.loadAt ty (pt b (o + j))).run P w = .ok v w := by
 have hagg : (isAgg ty).run P w = .ok false w := by
  unfold isAgg
  rw [Sem.run_bind, run_underlying hu w]
  cases d <;> simp_all
 have hc := h j v hv
 simp [Instr.loadAt, Instr.sureAddr, loadVar, Sem.run_bind, hagg, hc]
end runs
end D
end Go.Proofs.Ythehmmhnacomkaa

namespace Go.Proofs.Ythehmmhnacomkaa
open Go.RowKit D
theorem appG {st et sz bys : Nat} {zv : Value} (hst : Try.prog.underlying st = some (.slice et)) (hin : ∃ i, Try.prog.info? et = some i ∧ i.zero = some zv ∧ i.size = sz ∧ i.bytes = bys) (hzs : zv.cells.size = sz) (hsz : 0 < sz)
  (w : World) (ty : TypeId) (N : Nat) (v : Value) (n : Nat) (xs : List Value) (hown : w.ownsRow N et sz v n xs) (k m c : Nat) (news : List Value) (hl : news.length = m * sz) (hA : At w k news) (h1 : ∀ u ∈ news, u.oneCell' = true) (hm : 0 < m) (h63 : n + m ≤ maxLen) (hb : (n + m) * bys ≤ 140737488355328) (hN : N ≤ w.heap.size) :
  ∃ v' w', (Builtin.append_ #[st, st] ty #[v, .slice (some ⟨k, 0, none⟩) m c]).run Try.prog w = .ok v' w' ∧ w'.ownsRow N et sz v' (n + m) (xs ++ news) ∧ Mk (fun j => v.ownBlock = some j) w w' ∧ (v'.ownBlock = v.ownBlock ∨ v'.ownBlock = some w.heap.size) := by
 obtain ⟨i, hi, hz, hs, hby⟩ := hin
 have hm63 : (m : Int) ≤ 9223372036854775807 := by unfold maxLen at h63; omega
 have hbm : m * bys ≤ 140737488355328 := Nat.le_trans (Nat.mul_le_mul_right _ (by omega)) hb
 have hnews : ∀ j u, news[j]? = some u → w.cell? ((⟨k, 0, none⟩ : Addr).add j) = some u := fun j u hu => by
  rw [Addr.add_mid]; have := hA.1 j u hu; simpa using this
 obtain ⟨v', w', hr, h2, h3, _, h5⟩ := run_append_own_at (P := Try.prog) w N st ty et i _ sz bys hst hi hz hs hby hzs hsz v n xs hown ⟨k, 0, none⟩ m c news hl hnews h1 h63 hb hN
 refine ⟨v', w', hr, h2, ⟨h3.os, h3.tape, h3.output, h3.size, fun j hj hne => h3.block j hj (fun e => hne e.symm), ?_⟩, h5⟩
 rcases hown.2 with ⟨rfl, rfl⟩ | ⟨g, cap, cur, rfl, hbg, hg, hnc, hcm, hcs, htake⟩
 ·have hr2 := run_append_nil (P := Try.prog) w st ty et i _ hst hi hz ⟨k, 0, none⟩ m c news (by rw [hs]; exact hl) hnews hm hm63 (by rw [hby]; omega)
  rw [hr2] at hr
  cases hr
  exact ((Mo.refl w).drew.alloc _ _).2
 ·by_cases hroom : n + m ≤ cap
  ·have hr2 := run_append_room (P := Try.prog) w st ty et i hst hi g n cap cur hg ⟨k, 0, none⟩ m c news (by rw [hs]; exact hl) hnews h1 hroom (by rw [hs, hcs]; exact Nat.mul_le_mul_right _ hroom |> fun h => by first | omega | exact h | (rw [hl]; rw [Nat.add_mul] at h; omega))
   rw [hr2] at hr
   cases hr
   intro a
   by_cases e : a.block = g
   ·have h9 := setRow_heap w g cur (cur.toList.take (n * i.size) ++ news ++ cur.toList.drop (n * i.size + news.length)).toArray et (0, 0) hg
    simp only [World.frozen?, e, h9, hg]
   ·exact World.frozen?_of_block (setRow_other w g a.block _ e)
  ·have hr2 := run_append_grow (P := Try.prog) w st ty et i _ hst hi hz ⟨g, 0, none⟩ n cap xs (by rw [hs]; exact hown.1) (hown.cells (g := g) rfl) ⟨k, 0, none⟩ m c news (by rw [hs]; exact hl) hnews (by omega) (by unfold maxLen at h63; omega) (by rw [hby]; exact growslice_fits (by omega) hb)
   rw [hr2] at hr
   cases hr
   exact ((Mo.refl w).drew.alloc _ _).2
theorem own_form {w : World} {N e sz : Nat} {v : Value} {n : Nat} {xs : List Value} (h : w.ownsRow N e sz v n xs) : ∃ pa cap, v = .slice pa n cap ∧ ∀ a, pa = some a → ∃ g, a = ⟨g, 0, none⟩ := by
 rcases h.2 with ⟨rfl, rfl⟩ | ⟨g, cap, cur, rfl, _⟩
 ·exact ⟨none, 0, rfl, fun _ e => by cases e⟩
 ·exact ⟨_, _, rfl, fun a e => ⟨g, (Option.some.inj e).symm⟩⟩
theorem own_sl {w : World} {N e sz : Nat} {α : Type} {cells : α → List Value} (hl : ∀ x, (cells x).length = sz) {pa : Option Addr} {cap : Nat} {L : List α} (hz : L.length ≤ maxLen) (h : w.ownsRow N e sz (.slice pa L.length cap) L.length (L.flatMap cells)) : SL w sz cells pa L := by
 rcases h.2 with ⟨e, h0⟩ | ⟨g, c2, cur, e, hg, hb, hnc, hcm, hcs, htk⟩
 ·refine ⟨hz, fun i o hi => ?_⟩
  have := lt_of_get hi
  omega
 ·cases e
  refine SL.of_range hl hz (Array.getElem?_eq_some_iff.1 hb).1 (fun j v hv => ?_)
  rw [← htk, List.getElem?_take] at hv
  split at hv
  ·rw [Nat.zero_add]
   simp only [World.cell?, hb]
   simpa using hv
  ·cases hv
theorem own_mo {w w' : World} {N e sz : Nat} {v : Value} {n : Nat} {xs : List Value} (h : w.ownsRow N e sz v n xs) (m : Mo w w') : w'.ownsRow N e sz v n xs :=
 h.kept (row := none) ⟨m.1.os, m.1.tape, m.1.output, m.1.size, fun k hk _ => m.1.block k hk⟩ (by cases e : v.ownBlock <;> simp)
theorem own_lt {w : World} {N e sz : Nat} {v : Value} {n : Nat} {xs : List Value} (h : w.ownsRow N e sz v n xs) {k : Nat} (hk : v.ownBlock = some k) : k < w.heap.size ∧ N ≤ k := by
 rcases h.2 with ⟨rfl, rfl⟩ | ⟨g, cap, cur, rfl, hg, hb, _⟩
 ·cases hk
 ·cases hk; exact ⟨(Array.getElem?_eq_some_iff.1 hb).1, hg⟩
section
variable {o : Oper} {n : Nat} {l : List (Nat × Value)} {w : World} {ops : Array Oper} {rest : List Oper} {Q : Exit → Act → World → Prop}
theorem wl_app {st et sz bys : Nat} {zv : Value} (hst : Try.prog.underlying st = some (.slice et)) (hin : ∃ i, Try.prog.info? et = some i ∧ i.zero = some zv ∧ i.size = sz ∧ i.bytes = bys) (hzs : zv.cells.size = sz) (hsz : 0 < sz) (s x : Operand) (N : Nat) (v : Value) (q : Nat) (xs : List Value) (k m c : Nat) (news : List Value) (ho : o.op = .call { callee := .builtin .append, args := #[s, x], argTypes := #[st, st] }) (hs : evl n l s = v) (hx : evl n l x = .slice (some ⟨k, 0, none⟩) m c)
  (hown : w.ownsRow N et sz v q xs) (hl : news.length = m * sz) (hA : At w k news) (h1 : ∀ u ∈ news, u.oneCell' = true) (hm : 0 < m) (h63 : q + m ≤ maxLen) (hb : (q + m) * bys ≤ 140737488355328) (hN : N ≤ w.heap.size) (hg : wnt n l ops o = true)
  (hk : ∀ v' w', w'.ownsRow N et sz v' (q + m) (xs ++ news) → Mk (fun j => v.ownBlock = some j) w w' → (v'.ownBlock = v.ownBlock ∨ v'.ownBlock = some w.heap.size) → WL Try.prog ops Q rest n (ext l o.dst v') w') : WL Try.prog ops Q (o :: rest) n l w := by
 obtain ⟨v', w', hr, h2, h3, h4⟩ := appG hst hin hzs hsz w o.type N v q xs hown k m c news hl hA h1 hm h63 hb hN
 refine ⟨l_step hg (o_val v' (w' := w') ?_ (hk v' w' h2 h3 h4).out)⟩
 unfold execOp
 simp only [ho, resolve, invoke, builtin, Sem.run_bind, Sem.run_pure, Result.andThen_ok, List.map_toArray, List.map_cons, List.map_nil, hs, hx, hr]
end
end Go.Proofs.Ythehmmhnacomkaa

namespace Go.Proofs.Ythehmmhnacomkaa
open Go.RowKit D
theorem ix56 {pa : Option Addr} {b off i n c : Nat} (hp : pa = some ⟨b, off, none⟩) (h : i < n) (w : World) : (Instr.indexAt 56 (.slice pa n c) (.int .i64 (i : Int))).run Try.prog w = .ok (pt b (off + i * 1)) w := by
 subst hp
 have e : (Instr.indexAt 56 (.slice (some ⟨b, off, none⟩) n c) (.int .i64 (i : Int))).run Try.prog w = .ok (.pointer (some ((⟨b, off, none⟩ : Addr).add (i * 1)))) w := by simp [go_sem, h]
 rw [e, Addr.add_mid]
theorem len56 (ρ : Operand → Value) (x : Operand) (p : Option Addr) (m c : Nat) (hx : ρ x = .slice p m c) (dst : Option Tmp) (type : TypeId) (pos : String) (after : Array Edge) (guard : Option (Nat × Bool)) (w : World) : (execOp ρ { dst, op := .call { callee := .builtin .len, args := #[x], argTypes := #[56] }, type, pos, after, guard }).run Try.prog w = .ok (.value (.int .i64 (m : Int))) w := by
 simp [go_sem, hx]
theorem psgn_n {x : Dn} (hx : x.ok) (w : World) : Calls Try.prog 46 #[x.v] w fun e9 w' => e9 = .returned (.int .i64 (sg x.b x.n)) ∧ Mo w w' := sign_n x.b x.n x.s w hx.1 hx.2
theorem qadd_n {x y : Dn} (hx : x.fit) (hy : y.fit) (w : World) : Calls Try.prog 55 #[x.v, y.v] w fun e9 w' => e9 = .returned (addD x y).v ∧ Mo w w' := by
 have q := radd_z x.z x.s y.z y.s w (abz hx) (abz hy) (ck_s hx.2) (ck_s hy.2)
 rw [dzq hx, dzq hy] at q
 rw [fz_v] at q
 exact q
theorem qsub_n {x y : Dn} (hx : x.fit) (hy : y.fit) (w : World) : Calls Try.prog 53 #[x.v, y.v] w fun e9 w' => e9 = .returned (subD x y).v ∧ Mo w w' := by
 have q := rsub_z x.z x.s y.z y.s w (abz hx) (abz hy) (ck_s hx.2) (ck_s hy.2)
 rw [dzq hx, dzq hy] at q
 rw [fz_v] at q
 exact q
theorem qmul_n {x y : Dn} (hx : x.fit) (hy : y.fit) (w : World) : Calls Try.prog 54 #[x.v, y.v, .int .i64 (min (x.s + y.s) 18), .int .i64 2] w fun e9 w' => e9 = .returned (mulD x y).v ∧ Mo w w' := by
 obtain ⟨a0, a1⟩ := hx.s
 obtain ⟨b0, b1⟩ := hy.s
 have q := rmulTo_ok x.b y.b x.n y.n x.s y.s (min (x.s + y.s) 18) 2 w hx.1.1 hx.1.2 hy.1.1 hy.1.2 hx.2 hy.2 ⟨a0, a1⟩ ⟨b0, b1⟩ (sc_iff.2 ⟨by omega, by omega⟩) (by decide) (by decide)
 rw [fx_v] at q
 exact q
theorem qsgn_n {x : Dn} (hx : x.ok) (w : World) : Calls Try.prog 60 #[x.v] w fun e9 w' => e9 = .returned (.int .i64 (sg x.b x.n)) ∧ Mo w w' := rsign_n x.b x.n x.s w hx.1 hx.2
theorem good_add {x y : Dn} (hx : x.fit) (hy : y.fit) : (addD x y).good := good_fz (sc_max (ck_s hx.2) (ck_s hy.2))
theorem addD_comm (x y : Dn) : addD x y = addD y x := by
 unfold addD addV
 rw [show max x.s y.s = max y.s x.s by omega, Int.add_comm]
theorem good_says {s : Stp} {x : Dn} (hs : s.fit) (hx : x.fit) : (saysD s x).good := by
 unfold saysD
 split
 next e1 =>
  have g1 := (good_sub hx hs.1).fit e1
  split
  next e2 => exact good_add ((good_mul g1 hs.2.2).fit e2) hs.2.1
  next => exact good_er
 next => exact good_er
end Go.Proofs.Ythehmmhnacomkaa
namespace Go.Proofs.Ythehmmhnacomkaa
open Go.RowKit D
theorem cmp_or (x y : Dn) : cmpD x y = -1 ∨ cmpD x y = 0 ∨ cmpD x y = 1 := by
 unfold cmpD cm
 split; · exact .inl rfl
 split; · exact .inr (.inr rfl)
 exact .inr (.inl rfl)
end Go.Proofs.Ythehmmhnacomkaa
