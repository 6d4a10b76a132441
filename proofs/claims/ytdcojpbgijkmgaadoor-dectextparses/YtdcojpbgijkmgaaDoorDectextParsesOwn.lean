/-
  For every text and every int exciselaw03.DectextParses returns true, and its arguments read behind the call as they read before; the two tables of unicode/utf8 lie as the program's text lays them.
-/
import Derived.Test.YtdcojpbgijkmgaaDoorRmul
import Derived.Test.YtdcojpbgijkmgaaDoorRows
import Derived.Test.YtdcojpbgijkmgaaDoorNum
import Derived.ProofKit
import Derived.OpenShut
import Derived.Lib.SmallJoins
import Derived.ChangeSame
import Derived.Test.YtdcojpbgijkmgaaDoorDec0
import Derived.Carry
import Derived.ChangeMaps5
import Derived.ChangeVars
import Derived.JoinedOf
import Derived.RowKitTokens
import Derived.LaidLaws
import Derived.LaidHandle
import Derived.Stop.Joined
import Derived.Lib.LaidIn
import Derived.Test.YtdcojpbgijkmgaaDoorCards
import Derived.Test.YtdcojpbgijkmgaaDoorTie
import Derived.SevenTiedAt
import Derived.SizedLaws
import Derived.Test.YtdcojpbgijkmgaaDoorU4
/-
  exciseref03.ParseAt, by cases.
-/
namespace Go.Proofs.YtdcojpbgijkmgaaDoor
open Go.RowKit
theorem sub3z {k j : Nat} (h : k + j ≤ 18) (x y : Operand) (w : World) : (do eqGuard .sub 3 x y (.int .i64 ((k + j : Nat) : Int)) (.int .i64 (k : Int)); binOp .sub 3 (.int .i64 ((k + j : Nat) : Int)) (.int .i64 (k : Int))).run Tryd.prog w = .ok (.int .i64 (j : Int)) w :=
  sub3_run rfl (by omega) _ _ _
theorem rpat_lo (s : ByteArray) (w : World) (z : Int) (h0 : decide (z < 0) = true) : Calls Tryd.prog 16 #[.string s, .int .i64 (z)] w fun e w' => e = .returned (er 1) ∧ Mo w w' := by
  refine w_enter 57 Tryd.func16 Tryd.ntmps16 rfl rfl ?_
  have M : Mo w w := Mo.refl _
  refine w_seq ?_
  refine w_reg ?_
  refine wl_alloc 26 #[.bool false, .int .u64 0, .int .u64 0, .int .u64 0, .int .u64 0, .int .i64 0] rfl (fun _ => by kernel_rfl) rfl ?_
  intro k1 w1 hk hz hq Q1
  have N_k1 : w.heap.size ≤ k1 := by have := M.size; omega
  replace M := M.trans hq
  clear hk hz hq
  refine wl_mv (.const (.int .i64 (0))) (.int .i64 (0)) (fun _ => rfl) rfl rfl ?_
  refine w_nil ?_
  refine xn_then ?_
  refine w_seq ?_
  refine w_seq ?_
  refine w_reg ?_
  refine wl_mv (.tmp 1) (.int .i64 (z)) (fun _ => rfl) rfl rfl ?_
  refine wl_bin (fun x y => do eqGuard .lss 3 (.tmp 12) (.const (.int .i64 (0))) x y; binOp .lss 3 x y) (.tmp 12) (.const (.int .i64 (0))) (.int .i64 (z)) (.int .i64 (0)) (.bool true) (fun _ => rfl) rfl rfl (lt3_run h0 _ _ _) rfl ?_
  refine wl_mv (.tmp 13) (.bool true) (fun _ => rfl) rfl rfl ?_
  refine wl_skip rfl ?_
  refine wl_skip rfl ?_
  refine wl_pick (.tmp 14) (.const (.bool true)) (.tmp 16) true (.bool true) (fun _ => rfl) rfl rfl rfl ?_
  refine w_nil ?_
  refine xn_then ?_
  refine w_condT rfl ?_
  refine w_seq ?_
  refine w_reg ?_
  refine wl_build 26 [] [] (.agg #[.bool false, .int .u64 0, .int .u64 0, .int .u64 0, .int .u64 0, .int .i64 0]) rfl rfl (by kernel_rfl) rfl ?_
  refine wl_st 26 (.tmp 4) (.tmp 18) k1 0 #[.bool false, .int .u64 0, .int .u64 0, .int .u64 0, .int .u64 0, .int .i64 0] [.bool false, .int .u64 0, .int .u64 0, .int .u64 0, .int .u64 0, .int .i64 0] [.bool false, .int .u64 0, .int .u64 0, .int .u64 0, .int .u64 0, .int .i64 0] Q1 rfl rfl rfl rfl rfl sz26 rfl rfl rfl ?_
  intro w2 hS Qn
  replace Q1 := Qn
  clear Qn
  replace M := hS.mo _ N_k1 M
  clear hS
  refine wl_mv (.const (.int .i64 (1))) (.int .i64 (1)) (fun _ => rfl) rfl rfl ?_
  refine w_nil ?_
  refine xn_then ?_
  refine w_ret ?_
  refine xr_then ?_
  exact w_ret2 _ _ (.agg #[.bool false, .int .u64 0, .int .u64 0, .int .u64 0, .int .u64 0, .int .i64 0]) (.int .i64 (1)) rfl ⟨k1, rfl, (run_row Q1 26 0 6 [.bool false, .int .u64 0, .int .u64 0, .int .u64 0, .int .u64 0, .int .i64 0] rfl Tryd.underlying26 rfl sz26)⟩ rfl ⟨rfl, M⟩
theorem rpat_hi (s : ByteArray) (w : World) (z : Int) (h0 : decide (z < 0) = false) (h1 : decide (z > 18) = true) : Calls Tryd.prog 16 #[.string s, .int .i64 (z)] w fun e w' => e = .returned (er 1) ∧ Mo w w' := by
  refine w_enter 57 Tryd.func16 Tryd.ntmps16 rfl rfl ?_
  have M : Mo w w := Mo.refl _
  refine w_seq ?_
  refine w_reg ?_
  refine wl_alloc 26 #[.bool false, .int .u64 0, .int .u64 0, .int .u64 0, .int .u64 0, .int .i64 0] rfl (fun _ => by kernel_rfl) rfl ?_
  intro k1 w1 hk hz hq Q1
  have N_k1 : w.heap.size ≤ k1 := by have := M.size; omega
  replace M := M.trans hq
  clear hk hz hq
  refine wl_mv (.const (.int .i64 (0))) (.int .i64 (0)) (fun _ => rfl) rfl rfl ?_
  refine w_nil ?_
  refine xn_then ?_
  refine w_seq ?_
  refine w_seq ?_
  refine w_reg ?_
  refine wl_mv (.tmp 1) (.int .i64 (z)) (fun _ => rfl) rfl rfl ?_
  refine wl_bin (fun x y => do eqGuard .lss 3 (.tmp 12) (.const (.int .i64 (0))) x y; binOp .lss 3 x y) (.tmp 12) (.const (.int .i64 (0))) (.int .i64 (z)) (.int .i64 (0)) (.bool false) (fun _ => rfl) rfl rfl (lt3_run h0 _ _ _) rfl ?_
  refine wl_mv (.tmp 13) (.bool false) (fun _ => rfl) rfl rfl ?_
  refine wl_mv (.tmp 1) (.int .i64 (z)) (fun _ => rfl) rfl rfl ?_
  refine wl_bin (fun x y => do eqGuard .gtr 3 (.tmp 15) (.const (.int .i64 (18))) x y; binOp .gtr 3 x y) (.tmp 15) (.const (.int .i64 (18))) (.int .i64 (z)) (.int .i64 (18)) (.bool true) (fun _ => rfl) rfl rfl (gt3_run h1 _ _ _) rfl ?_
  refine wl_pick (.tmp 14) (.const (.bool true)) (.tmp 16) false (.bool true) (fun _ => rfl) rfl rfl rfl ?_
  refine w_nil ?_
  refine xn_then ?_
  refine w_condT rfl ?_
  refine w_seq ?_
  refine w_reg ?_
  refine wl_build 26 [] [] (.agg #[.bool false, .int .u64 0, .int .u64 0, .int .u64 0, .int .u64 0, .int .i64 0]) rfl rfl (by kernel_rfl) rfl ?_
  refine wl_st 26 (.tmp 4) (.tmp 18) k1 0 #[.bool false, .int .u64 0, .int .u64 0, .int .u64 0, .int .u64 0, .int .i64 0] [.bool false, .int .u64 0, .int .u64 0, .int .u64 0, .int .u64 0, .int .i64 0] [.bool false, .int .u64 0, .int .u64 0, .int .u64 0, .int .u64 0, .int .i64 0] Q1 rfl rfl rfl rfl rfl sz26 rfl rfl rfl ?_
  intro w2 hS Qn
  replace Q1 := Qn
  clear Qn
  replace M := hS.mo _ N_k1 M
  clear hS
  refine wl_mv (.const (.int .i64 (1))) (.int .i64 (1)) (fun _ => rfl) rfl rfl ?_
  refine w_nil ?_
  refine xn_then ?_
  refine w_ret ?_
  refine xr_then ?_
  exact w_ret2 _ _ (.agg #[.bool false, .int .u64 0, .int .u64 0, .int .u64 0, .int .u64 0, .int .i64 0]) (.int .i64 (1)) rfl ⟨k1, rfl, (run_row Q1 26 0 6 [.bool false, .int .u64 0, .int .u64 0, .int .u64 0, .int .u64 0, .int .i64 0] rfl Tryd.underlying26 rfl sz26)⟩ rfl ⟨rfl, M⟩
theorem rpat_e (s : ByteArray) (w : World) (z : Int) (h0 : decide (z < 0) = false) (h1 : decide (z > 18) = false) (b : Bool) (N E : Int) (k : Nat) (hp : ∀ w, Calls Tryd.prog 14 #[.string s] w fun e w' => e = .returned (.tuple #[dc b N (k : Int), .int .i64 E]) ∧ Mo w w') (hE : (E == 0) = false) : Calls Tryd.prog 16 #[.string s, .int .i64 (z)] w fun e w' => e = .returned (er E) ∧ Mo w w' := by
  refine w_enter 57 Tryd.func16 Tryd.ntmps16 rfl rfl ?_
  have M : Mo w w := Mo.refl _
  refine w_seq ?_
  refine w_reg ?_
  refine wl_alloc 26 #[.bool false, .int .u64 0, .int .u64 0, .int .u64 0, .int .u64 0, .int .i64 0] rfl (fun _ => by kernel_rfl) rfl ?_
  intro k1 w1 hk hz hq Q1
  have N_k1 : w.heap.size ≤ k1 := by have := M.size; omega
  replace M := M.trans hq
  clear hk hz hq
  refine wl_mv (.const (.int .i64 (0))) (.int .i64 (0)) (fun _ => rfl) rfl rfl ?_
  refine w_nil ?_
  refine xn_then ?_
  refine w_seq ?_
  refine w_seq ?_
  refine w_reg ?_
  refine wl_mv (.tmp 1) (.int .i64 (z)) (fun _ => rfl) rfl rfl ?_
  refine wl_bin (fun x y => do eqGuard .lss 3 (.tmp 12) (.const (.int .i64 (0))) x y; binOp .lss 3 x y) (.tmp 12) (.const (.int .i64 (0))) (.int .i64 (z)) (.int .i64 (0)) (.bool false) (fun _ => rfl) rfl rfl (lt3_run h0 _ _ _) rfl ?_
  refine wl_mv (.tmp 13) (.bool false) (fun _ => rfl) rfl rfl ?_
  refine wl_mv (.tmp 1) (.int .i64 (z)) (fun _ => rfl) rfl rfl ?_
  refine wl_bin (fun x y => do eqGuard .gtr 3 (.tmp 15) (.const (.int .i64 (18))) x y; binOp .gtr 3 x y) (.tmp 15) (.const (.int .i64 (18))) (.int .i64 (z)) (.int .i64 (18)) (.bool false) (fun _ => rfl) rfl rfl (gt3_run h1 _ _ _) rfl ?_
  refine wl_pick (.tmp 14) (.const (.bool true)) (.tmp 16) false (.bool false) (fun _ => rfl) rfl rfl rfl ?_
  refine w_nil ?_
  refine xn_then ?_
  refine w_condF rfl ?_
  refine w_skip ?_
  refine xn_then ?_
  refine w_seq ?_
  refine w_reg ?_
  refine wl_mv (.tmp 0) (.string s) (fun _ => rfl) rfl rfl ?_
  refine wl_call 14 [(.tmp 20)] _ [.string s] (.tuple #[.agg #[.bool b, .int .u64 (l0 N), .int .u64 (l1 N), .int .u64 (l2 N), .int .u64 (l3 N), .int .i64 (k : Int)], .int .i64 (E)]) rfl rfl (fun _ _ => by kernel_rfl) (hp _) rfl ?_
  intro w2 hq
  replace Q1 := Q1.mo hq
  replace M := M.trans hq
  clear hq
  refine wl_mv (.tmp 21) (.tuple #[.agg #[.bool b, .int .u64 (l0 N), .int .u64 (l1 N), .int .u64 (l2 N), .int .u64 (l3 N), .int .i64 (k : Int)], .int .i64 (E)]) (fun _ => rfl) rfl rfl ?_
  refine wl_un (fun v => Instr.extract v 0) (.tmp 19) (.tuple #[.agg #[.bool b, .int .u64 (l0 N), .int .u64 (l1 N), .int .u64 (l2 N), .int .u64 (l3 N), .int .i64 (k : Int)], .int .i64 (E)]) (.agg #[.bool b, .int .u64 (l0 N), .int .u64 (l1 N), .int .u64 (l2 N), .int .u64 (l3 N), .int .i64 (k : Int)]) (fun _ => rfl) rfl (by kernel_rfl) rfl ?_
  refine wl_un (fun v => Instr.extract v 1) (.tmp 19) (.tuple #[.agg #[.bool b, .int .u64 (l0 N), .int .u64 (l1 N), .int .u64 (l2 N), .int .u64 (l3 N), .int .i64 (k : Int)], .int .i64 (E)]) (.int .i64 (E)) (fun _ => rfl) rfl (by kernel_rfl) rfl ?_
  refine wl_alloc 26 #[.bool false, .int .u64 0, .int .u64 0, .int .u64 0, .int .u64 0, .int .i64 0] rfl (fun _ => by kernel_rfl) rfl ?_
  intro k2 w3 hk hz hq Q2
  have ne_k1_k2 : k1 ≠ k2 := by have := Q1.lt; omega
  have N_k2 : w.heap.size ≤ k2 := by have := M.size; omega
  replace Q1 := Q1.mo hq
  replace M := M.trans hq
  clear hk hz hq
  refine wl_st 26 (.tmp 6) (.tmp 22) k2 0 #[.bool b, .int .u64 (l0 N), .int .u64 (l1 N), .int .u64 (l2 N), .int .u64 (l3 N), .int .i64 (k : Int)] [.bool false, .int .u64 0, .int .u64 0, .int .u64 0, .int .u64 0, .int .i64 0] [.bool b, .int .u64 (l0 N), .int .u64 (l1 N), .int .u64 (l2 N), .int .u64 (l3 N), .int .i64 (k : Int)] Q2 rfl rfl rfl rfl rfl sz26 rfl rfl rfl ?_
  intro w4 hS Qn
  replace Q2 := Qn
  clear Qn
  replace Q1 := hS.other _ _ ne_k1_k2 Q1
  replace M := hS.mo _ N_k2 M
  clear hS
  refine wl_mv (.tmp 23) (.int .i64 (E)) (fun _ => rfl) rfl rfl ?_
  refine w_nil ?_
  refine xn_then ?_
  refine w_seq ?_
  refine w_seq ?_
  refine w_reg ?_
  refine wl_mv (.tmp 7) (.int .i64 (E)) (fun _ => rfl) rfl rfl ?_
  refine wl_bin (fun x y => do eqGuard .neq 30 (.tmp 24) (.const (.int .i64 (0))) x y; binOp .neq 30 x y) (.tmp 24) (.const (.int .i64 (0))) (.int .i64 (E)) (.int .i64 (0)) (.bool true) (fun _ => rfl) rfl rfl (ne30 hE _ _ _) rfl ?_
  refine w_nil ?_
  refine xn_then ?_
  refine w_condT rfl ?_
  refine w_seq ?_
  refine w_reg ?_
  refine wl_build 26 [] [] (.agg #[.bool false, .int .u64 0, .int .u64 0, .int .u64 0, .int .u64 0, .int .i64 0]) rfl rfl (by kernel_rfl) rfl ?_
  refine wl_mv (.tmp 7) (.int .i64 (E)) (fun _ => rfl) rfl rfl ?_
  refine wl_st 26 (.tmp 4) (.tmp 26) k1 0 #[.bool false, .int .u64 0, .int .u64 0, .int .u64 0, .int .u64 0, .int .i64 0] [.bool false, .int .u64 0, .int .u64 0, .int .u64 0, .int .u64 0, .int .i64 0] [.bool false, .int .u64 0, .int .u64 0, .int .u64 0, .int .u64 0, .int .i64 0] Q1 rfl rfl rfl rfl rfl sz26 rfl rfl rfl ?_
  intro w5 hS Qn
  replace Q1 := Qn
  clear Qn
  replace Q2 := hS.other _ _ ne_k1_k2.symm Q2
  replace M := hS.mo _ N_k1 M
  clear hS
  refine wl_mv (.tmp 27) (.int .i64 (E)) (fun _ => rfl) rfl rfl ?_
  refine w_nil ?_
  refine xn_then ?_
  refine w_ret ?_
  refine xr_then ?_
  exact w_ret2 _ _ (.agg #[.bool false, .int .u64 0, .int .u64 0, .int .u64 0, .int .u64 0, .int .i64 0]) (.int .i64 (E)) rfl ⟨k1, rfl, (run_row Q1 26 0 6 [.bool false, .int .u64 0, .int .u64 0, .int .u64 0, .int .u64 0, .int .i64 0] rfl Tryd.underlying26 rfl sz26)⟩ rfl ⟨rfl, M⟩
theorem rpat_p (s : ByteArray) (w : World) (z : Int) (h0 : decide (z < 0) = false) (h1 : decide (z > 18) = false) (b : Bool) (N E : Int) (k : Nat) (hp : ∀ w, Calls Tryd.prog 14 #[.string s] w fun e w' => e = .returned (.tuple #[dc b N (k : Int), .int .i64 E]) ∧ Mo w w') (hE : (E == 0) = true) (hg : decide ((k : Int) > z) = true) : Calls Tryd.prog 16 #[.string s, .int .i64 (z)] w fun e w' => e = .returned (er 31) ∧ Mo w w' := by
  refine w_enter 57 Tryd.func16 Tryd.ntmps16 rfl rfl ?_
  have M : Mo w w := Mo.refl _
  refine w_seq ?_
  refine w_reg ?_
  refine wl_alloc 26 #[.bool false, .int .u64 0, .int .u64 0, .int .u64 0, .int .u64 0, .int .i64 0] rfl (fun _ => by kernel_rfl) rfl ?_
  intro k1 w1 hk hz hq Q1
  have N_k1 : w.heap.size ≤ k1 := by have := M.size; omega
  replace M := M.trans hq
  clear hk hz hq
  refine wl_mv (.const (.int .i64 (0))) (.int .i64 (0)) (fun _ => rfl) rfl rfl ?_
  refine w_nil ?_
  refine xn_then ?_
  refine w_seq ?_
  refine w_seq ?_
  refine w_reg ?_
  refine wl_mv (.tmp 1) (.int .i64 (z)) (fun _ => rfl) rfl rfl ?_
  refine wl_bin (fun x y => do eqGuard .lss 3 (.tmp 12) (.const (.int .i64 (0))) x y; binOp .lss 3 x y) (.tmp 12) (.const (.int .i64 (0))) (.int .i64 (z)) (.int .i64 (0)) (.bool false) (fun _ => rfl) rfl rfl (lt3_run h0 _ _ _) rfl ?_
  refine wl_mv (.tmp 13) (.bool false) (fun _ => rfl) rfl rfl ?_
  refine wl_mv (.tmp 1) (.int .i64 (z)) (fun _ => rfl) rfl rfl ?_
  refine wl_bin (fun x y => do eqGuard .gtr 3 (.tmp 15) (.const (.int .i64 (18))) x y; binOp .gtr 3 x y) (.tmp 15) (.const (.int .i64 (18))) (.int .i64 (z)) (.int .i64 (18)) (.bool false) (fun _ => rfl) rfl rfl (gt3_run h1 _ _ _) rfl ?_
  refine wl_pick (.tmp 14) (.const (.bool true)) (.tmp 16) false (.bool false) (fun _ => rfl) rfl rfl rfl ?_
  refine w_nil ?_
  refine xn_then ?_
  refine w_condF rfl ?_
  refine w_skip ?_
  refine xn_then ?_
  refine w_seq ?_
  refine w_reg ?_
  refine wl_mv (.tmp 0) (.string s) (fun _ => rfl) rfl rfl ?_
  refine wl_call 14 [(.tmp 20)] _ [.string s] (.tuple #[.agg #[.bool b, .int .u64 (l0 N), .int .u64 (l1 N), .int .u64 (l2 N), .int .u64 (l3 N), .int .i64 (k : Int)], .int .i64 (E)]) rfl rfl (fun _ _ => by kernel_rfl) (hp _) rfl ?_
  intro w2 hq
  replace Q1 := Q1.mo hq
  replace M := M.trans hq
  clear hq
  refine wl_mv (.tmp 21) (.tuple #[.agg #[.bool b, .int .u64 (l0 N), .int .u64 (l1 N), .int .u64 (l2 N), .int .u64 (l3 N), .int .i64 (k : Int)], .int .i64 (E)]) (fun _ => rfl) rfl rfl ?_
  refine wl_un (fun v => Instr.extract v 0) (.tmp 19) (.tuple #[.agg #[.bool b, .int .u64 (l0 N), .int .u64 (l1 N), .int .u64 (l2 N), .int .u64 (l3 N), .int .i64 (k : Int)], .int .i64 (E)]) (.agg #[.bool b, .int .u64 (l0 N), .int .u64 (l1 N), .int .u64 (l2 N), .int .u64 (l3 N), .int .i64 (k : Int)]) (fun _ => rfl) rfl (by kernel_rfl) rfl ?_
  refine wl_un (fun v => Instr.extract v 1) (.tmp 19) (.tuple #[.agg #[.bool b, .int .u64 (l0 N), .int .u64 (l1 N), .int .u64 (l2 N), .int .u64 (l3 N), .int .i64 (k : Int)], .int .i64 (E)]) (.int .i64 (E)) (fun _ => rfl) rfl (by kernel_rfl) rfl ?_
  refine wl_alloc 26 #[.bool false, .int .u64 0, .int .u64 0, .int .u64 0, .int .u64 0, .int .i64 0] rfl (fun _ => by kernel_rfl) rfl ?_
  intro k2 w3 hk hz hq Q2
  have ne_k1_k2 : k1 ≠ k2 := by have := Q1.lt; omega
  have N_k2 : w.heap.size ≤ k2 := by have := M.size; omega
  replace Q1 := Q1.mo hq
  replace M := M.trans hq
  clear hk hz hq
  refine wl_st 26 (.tmp 6) (.tmp 22) k2 0 #[.bool b, .int .u64 (l0 N), .int .u64 (l1 N), .int .u64 (l2 N), .int .u64 (l3 N), .int .i64 (k : Int)] [.bool false, .int .u64 0, .int .u64 0, .int .u64 0, .int .u64 0, .int .i64 0] [.bool b, .int .u64 (l0 N), .int .u64 (l1 N), .int .u64 (l2 N), .int .u64 (l3 N), .int .i64 (k : Int)] Q2 rfl rfl rfl rfl rfl sz26 rfl rfl rfl ?_
  intro w4 hS Qn
  replace Q2 := Qn
  clear Qn
  replace Q1 := hS.other _ _ ne_k1_k2 Q1
  replace M := hS.mo _ N_k2 M
  clear hS
  refine wl_mv (.tmp 23) (.int .i64 (E)) (fun _ => rfl) rfl rfl ?_
  refine w_nil ?_
  refine xn_then ?_
  refine w_seq ?_
  refine w_seq ?_
  refine w_reg ?_
  refine wl_mv (.tmp 7) (.int .i64 (E)) (fun _ => rfl) rfl rfl ?_
  refine wl_bin (fun x y => do eqGuard .neq 30 (.tmp 24) (.const (.int .i64 (0))) x y; binOp .neq 30 x y) (.tmp 24) (.const (.int .i64 (0))) (.int .i64 (E)) (.int .i64 (0)) (.bool false) (fun _ => rfl) rfl rfl (ne30 hE _ _ _) rfl ?_
  refine w_nil ?_
  refine xn_then ?_
  refine w_condF rfl ?_
  refine w_skip ?_
  refine xn_then ?_
  refine w_seq ?_
  refine w_seq ?_
  refine w_reg ?_
  refine wl_un (fun v => Instr.fieldAt 26 v 2) (.tmp 6) (pt k2 0) (pt k2 5) (fun _ => rfl) rfl (by kernel_rfl) rfl ?_
  refine wl_load 3 (.tmp 28) (pt k2 5) (.int .i64 (k : Int)) rfl rfl (run_one Q2 3 5 rfl Tryd.underlying3 rfl) rfl ?_
  refine wl_mv (.tmp 1) (.int .i64 (z)) (fun _ => rfl) rfl rfl ?_
  refine wl_bin (fun x y => do eqGuard .gtr 3 (.tmp 29) (.tmp 30) x y; binOp .gtr 3 x y) (.tmp 29) (.tmp 30) (.int .i64 (k : Int)) (.int .i64 (z)) (.bool true) (fun _ => rfl) rfl rfl (gt3_run hg _ _ _) rfl ?_
  refine w_nil ?_
  refine xn_then ?_
  refine w_condT rfl ?_
  refine w_seq ?_
  refine w_reg ?_
  refine wl_build 26 [] [] (.agg #[.bool false, .int .u64 0, .int .u64 0, .int .u64 0, .int .u64 0, .int .i64 0]) rfl rfl (by kernel_rfl) rfl ?_
  refine wl_st 26 (.tmp 4) (.tmp 32) k1 0 #[.bool false, .int .u64 0, .int .u64 0, .int .u64 0, .int .u64 0, .int .i64 0] [.bool false, .int .u64 0, .int .u64 0, .int .u64 0, .int .u64 0, .int .i64 0] [.bool false, .int .u64 0, .int .u64 0, .int .u64 0, .int .u64 0, .int .i64 0] Q1 rfl rfl rfl rfl rfl sz26 rfl rfl rfl ?_
  intro w5 hS Qn
  replace Q1 := Qn
  clear Qn
  replace Q2 := hS.other _ _ ne_k1_k2.symm Q2
  replace M := hS.mo _ N_k1 M
  clear hS
  refine wl_mv (.const (.int .i64 (31))) (.int .i64 (31)) (fun _ => rfl) rfl rfl ?_
  refine w_nil ?_
  refine xn_then ?_
  refine w_ret ?_
  refine xr_then ?_
  exact w_ret2 _ _ (.agg #[.bool false, .int .u64 0, .int .u64 0, .int .u64 0, .int .u64 0, .int .i64 0]) (.int .i64 (31)) rfl ⟨k1, rfl, (run_row Q1 26 0 6 [.bool false, .int .u64 0, .int .u64 0, .int .u64 0, .int .u64 0, .int .i64 0] rfl Tryd.underlying26 rfl sz26)⟩ rfl ⟨rfl, M⟩
theorem rpat_o (s : ByteArray) (w : World) (b : Bool) (N E : Int) (k j : Nat) (hp : ∀ w, Calls Tryd.prog 14 #[.string s] w fun e w' => e = .returned (.tuple #[dc b N (k : Int), .int .i64 E]) ∧ Mo w w') (hE : (E == 0) = true) (hkj : k + j ≤ 18) (hN0 : 0 ≤ N) (hNM : N < MM) (hi : (l0 (N * 10 ^ j / MM) == 0 && (l1 (N * 10 ^ j / MM) == 0 && (l2 (N * 10 ^ j / MM) == 0 && l3 (N * 10 ^ j / MM) == 0))) = false) : Calls Tryd.prog 16 #[.string s, .int .i64 (((k + j : Nat) : Int))] w fun e w' => e = .returned (er 7) ∧ Mo w w' := by
  have h0 : decide (((k + j : Nat) : Int) < 0) = false := decide_eq_false (by omega)
  have h1 : decide (((k + j : Nat) : Int) > 18) = false := decide_eq_false (by omega)
  have hg : decide ((k : Int) > ((k + j : Nat) : Int)) = false := decide_eq_false (by omega)
  have hT0 : (0 : Int) ≤ 10 ^ j := Int.le_of_lt (pow_lt j (by omega)).1
  have hTM : (10 : Int) ^ j < MM := (pow_lt j (by omega)).2
  refine w_enter 57 Tryd.func16 Tryd.ntmps16 rfl rfl ?_
  have M : Mo w w := Mo.refl _
  refine w_seq ?_
  refine w_reg ?_
  refine wl_alloc 26 #[.bool false, .int .u64 0, .int .u64 0, .int .u64 0, .int .u64 0, .int .i64 0] rfl (fun _ => by kernel_rfl) rfl ?_
  intro k1 w1 hk hz hq Q1
  have N_k1 : w.heap.size ≤ k1 := by have := M.size; omega
  replace M := M.trans hq
  clear hk hz hq
  refine wl_mv (.const (.int .i64 (0))) (.int .i64 (0)) (fun _ => rfl) rfl rfl ?_
  refine w_nil ?_
  refine xn_then ?_
  refine w_seq ?_
  refine w_seq ?_
  refine w_reg ?_
  refine wl_mv (.tmp 1) (.int .i64 (((k + j : Nat) : Int))) (fun _ => rfl) rfl rfl ?_
  refine wl_bin (fun x y => do eqGuard .lss 3 (.tmp 12) (.const (.int .i64 (0))) x y; binOp .lss 3 x y) (.tmp 12) (.const (.int .i64 (0))) (.int .i64 (((k + j : Nat) : Int))) (.int .i64 (0)) (.bool false) (fun _ => rfl) rfl rfl (lt3_run h0 _ _ _) rfl ?_
  refine wl_mv (.tmp 13) (.bool false) (fun _ => rfl) rfl rfl ?_
  refine wl_mv (.tmp 1) (.int .i64 (((k + j : Nat) : Int))) (fun _ => rfl) rfl rfl ?_
  refine wl_bin (fun x y => do eqGuard .gtr 3 (.tmp 15) (.const (.int .i64 (18))) x y; binOp .gtr 3 x y) (.tmp 15) (.const (.int .i64 (18))) (.int .i64 (((k + j : Nat) : Int))) (.int .i64 (18)) (.bool false) (fun _ => rfl) rfl rfl (gt3_run h1 _ _ _) rfl ?_
  refine wl_pick (.tmp 14) (.const (.bool true)) (.tmp 16) false (.bool false) (fun _ => rfl) rfl rfl rfl ?_
  refine w_nil ?_
  refine xn_then ?_
  refine w_condF rfl ?_
  refine w_skip ?_
  refine xn_then ?_
  refine w_seq ?_
  refine w_reg ?_
  refine wl_mv (.tmp 0) (.string s) (fun _ => rfl) rfl rfl ?_
  refine wl_call 14 [(.tmp 20)] _ [.string s] (.tuple #[.agg #[.bool b, .int .u64 (l0 N), .int .u64 (l1 N), .int .u64 (l2 N), .int .u64 (l3 N), .int .i64 (k : Int)], .int .i64 (E)]) rfl rfl (fun _ _ => by kernel_rfl) (hp _) rfl ?_
  intro w2 hq
  replace Q1 := Q1.mo hq
  replace M := M.trans hq
  clear hq
  refine wl_mv (.tmp 21) (.tuple #[.agg #[.bool b, .int .u64 (l0 N), .int .u64 (l1 N), .int .u64 (l2 N), .int .u64 (l3 N), .int .i64 (k : Int)], .int .i64 (E)]) (fun _ => rfl) rfl rfl ?_
  refine wl_un (fun v => Instr.extract v 0) (.tmp 19) (.tuple #[.agg #[.bool b, .int .u64 (l0 N), .int .u64 (l1 N), .int .u64 (l2 N), .int .u64 (l3 N), .int .i64 (k : Int)], .int .i64 (E)]) (.agg #[.bool b, .int .u64 (l0 N), .int .u64 (l1 N), .int .u64 (l2 N), .int .u64 (l3 N), .int .i64 (k : Int)]) (fun _ => rfl) rfl (by kernel_rfl) rfl ?_
  refine wl_un (fun v => Instr.extract v 1) (.tmp 19) (.tuple #[.agg #[.bool b, .int .u64 (l0 N), .int .u64 (l1 N), .int .u64 (l2 N), .int .u64 (l3 N), .int .i64 (k : Int)], .int .i64 (E)]) (.int .i64 (E)) (fun _ => rfl) rfl (by kernel_rfl) rfl ?_
  refine wl_alloc 26 #[.bool false, .int .u64 0, .int .u64 0, .int .u64 0, .int .u64 0, .int .i64 0] rfl (fun _ => by kernel_rfl) rfl ?_
  intro k2 w3 hk hz hq Q2
  have ne_k1_k2 : k1 ≠ k2 := by have := Q1.lt; omega
  have N_k2 : w.heap.size ≤ k2 := by have := M.size; omega
  replace Q1 := Q1.mo hq
  replace M := M.trans hq
  clear hk hz hq
  refine wl_st 26 (.tmp 6) (.tmp 22) k2 0 #[.bool b, .int .u64 (l0 N), .int .u64 (l1 N), .int .u64 (l2 N), .int .u64 (l3 N), .int .i64 (k : Int)] [.bool false, .int .u64 0, .int .u64 0, .int .u64 0, .int .u64 0, .int .i64 0] [.bool b, .int .u64 (l0 N), .int .u64 (l1 N), .int .u64 (l2 N), .int .u64 (l3 N), .int .i64 (k : Int)] Q2 rfl rfl rfl rfl rfl sz26 rfl rfl rfl ?_
  intro w4 hS Qn
  replace Q2 := Qn
  clear Qn
  replace Q1 := hS.other _ _ ne_k1_k2 Q1
  replace M := hS.mo _ N_k2 M
  clear hS
  refine wl_mv (.tmp 23) (.int .i64 (E)) (fun _ => rfl) rfl rfl ?_
  refine w_nil ?_
  refine xn_then ?_
  refine w_seq ?_
  refine w_seq ?_
  refine w_reg ?_
  refine wl_mv (.tmp 7) (.int .i64 (E)) (fun _ => rfl) rfl rfl ?_
  refine wl_bin (fun x y => do eqGuard .neq 30 (.tmp 24) (.const (.int .i64 (0))) x y; binOp .neq 30 x y) (.tmp 24) (.const (.int .i64 (0))) (.int .i64 (E)) (.int .i64 (0)) (.bool false) (fun _ => rfl) rfl rfl (ne30 hE _ _ _) rfl ?_
  refine w_nil ?_
  refine xn_then ?_
  refine w_condF rfl ?_
  refine w_skip ?_
  refine xn_then ?_
  refine w_seq ?_
  refine w_seq ?_
  refine w_reg ?_
  refine wl_un (fun v => Instr.fieldAt 26 v 2) (.tmp 6) (pt k2 0) (pt k2 5) (fun _ => rfl) rfl (by kernel_rfl) rfl ?_
  refine wl_load 3 (.tmp 28) (pt k2 5) (.int .i64 (k : Int)) rfl rfl (run_one Q2 3 5 rfl Tryd.underlying3 rfl) rfl ?_
  refine wl_mv (.tmp 1) (.int .i64 (((k + j : Nat) : Int))) (fun _ => rfl) rfl rfl ?_
  refine wl_bin (fun x y => do eqGuard .gtr 3 (.tmp 29) (.tmp 30) x y; binOp .gtr 3 x y) (.tmp 29) (.tmp 30) (.int .i64 (k : Int)) (.int .i64 (((k + j : Nat) : Int))) (.bool false) (fun _ => rfl) rfl rfl (gt3_run hg _ _ _) rfl ?_
  refine w_nil ?_
  refine xn_then ?_
  refine w_condF rfl ?_
  refine w_skip ?_
  refine xn_then ?_
  refine w_seq ?_
  refine w_reg ?_
  refine wl_mv (.tmp 1) (.int .i64 (((k + j : Nat) : Int))) (fun _ => rfl) rfl rfl ?_
  refine wl_un (fun v => Instr.fieldAt 26 v 2) (.tmp 6) (pt k2 0) (pt k2 5) (fun _ => rfl) rfl (by kernel_rfl) rfl ?_
  refine wl_load 3 (.tmp 35) (pt k2 5) (.int .i64 (k : Int)) rfl rfl (run_one Q2 3 5 rfl Tryd.underlying3 rfl) rfl ?_
  refine wl_bin (fun x y => do eqGuard .sub 3 (.tmp 34) (.tmp 36) x y; binOp .sub 3 x y) (.tmp 34) (.tmp 36) (.int .i64 (((k + j : Nat) : Int))) (.int .i64 (k : Int)) (.int .i64 ((j : Int))) (fun _ => rfl) rfl rfl (sub3z hkj _ _ _) rfl ?_
  refine wl_call 35 [(.tmp 37)] _ [.int .i64 ((j : Int))] (.tuple #[.agg #[.int .u64 (l0 (10 ^ j)), .int .u64 (l1 (10 ^ j)), .int .u64 (l2 (10 ^ j)), .int .u64 (l3 (10 ^ j))], .bool true]) rfl rfl (fun _ _ => by kernel_rfl) (rten_yes j _ (by omega)) rfl ?_
  intro w5 hq
  replace Q1 := Q1.mo hq
  replace Q2 := Q2.mo hq
  replace M := M.trans hq
  clear hq
  refine wl_mv (.tmp 38) (.tuple #[.agg #[.int .u64 (l0 (10 ^ j)), .int .u64 (l1 (10 ^ j)), .int .u64 (l2 (10 ^ j)), .int .u64 (l3 (10 ^ j))], .bool true]) (fun _ => rfl) rfl rfl ?_
  refine wl_un (fun v => Instr.extract v 0) (.tmp 33) (.tuple #[.agg #[.int .u64 (l0 (10 ^ j)), .int .u64 (l1 (10 ^ j)), .int .u64 (l2 (10 ^ j)), .int .u64 (l3 (10 ^ j))], .bool true]) (.agg #[.int .u64 (l0 (10 ^ j)), .int .u64 (l1 (10 ^ j)), .int .u64 (l2 (10 ^ j)), .int .u64 (l3 (10 ^ j))]) (fun _ => rfl) rfl (by kernel_rfl) rfl ?_
  refine wl_un (fun v => Instr.extract v 1) (.tmp 33) (.tuple #[.agg #[.int .u64 (l0 (10 ^ j)), .int .u64 (l1 (10 ^ j)), .int .u64 (l2 (10 ^ j)), .int .u64 (l3 (10 ^ j))], .bool true]) (.bool true) (fun _ => rfl) rfl (by kernel_rfl) rfl ?_
  refine wl_alloc 24 #[.int .u64 0, .int .u64 0, .int .u64 0, .int .u64 0] rfl (fun _ => by kernel_rfl) rfl ?_
  intro k3 w6 hk hz hq Q3
  have ne_k1_k3 : k1 ≠ k3 := by have := Q1.lt; omega
  have ne_k2_k3 : k2 ≠ k3 := by have := Q2.lt; omega
  have N_k3 : w.heap.size ≤ k3 := by have := M.size; omega
  replace Q1 := Q1.mo hq
  replace Q2 := Q2.mo hq
  replace M := M.trans hq
  clear hk hz hq
  refine wl_st 24 (.tmp 8) (.tmp 39) k3 0 #[.int .u64 (l0 (10 ^ j)), .int .u64 (l1 (10 ^ j)), .int .u64 (l2 (10 ^ j)), .int .u64 (l3 (10 ^ j))] [.int .u64 0, .int .u64 0, .int .u64 0, .int .u64 0] [.int .u64 (l0 (10 ^ j)), .int .u64 (l1 (10 ^ j)), .int .u64 (l2 (10 ^ j)), .int .u64 (l3 (10 ^ j))] Q3 rfl rfl rfl rfl rfl sz24 rfl rfl rfl ?_
  intro w7 hS Qn
  replace Q3 := Qn
  clear Qn
  replace Q1 := hS.other _ _ ne_k1_k3 Q1
  replace Q2 := hS.other _ _ ne_k2_k3 Q2
  replace M := hS.mo _ N_k3 M
  clear hS
  refine wl_mv (.tmp 40) (.bool true) (fun _ => rfl) rfl rfl ?_
  refine w_nil ?_
  refine xn_then ?_
  refine w_seq ?_
  refine w_reg ?_
  refine wl_un (fun v => Instr.fieldAt 26 v 1) (.tmp 6) (pt k2 0) (pt k2 1) (fun _ => rfl) rfl (by kernel_rfl) rfl ?_
  refine wl_load 24 (.tmp 42) (pt k2 1) (.agg #[.int .u64 (l0 N), .int .u64 (l1 N), .int .u64 (l2 N), .int .u64 (l3 N)]) rfl rfl (run_row Q2 24 1 4 [.int .u64 (l0 N), .int .u64 (l1 N), .int .u64 (l2 N), .int .u64 (l3 N)] rfl Tryd.underlying24 rfl sz24) rfl ?_
  refine wl_load 24 (.tmp 8) (pt k3 0) (.agg #[.int .u64 (l0 (10 ^ j)), .int .u64 (l1 (10 ^ j)), .int .u64 (l2 (10 ^ j)), .int .u64 (l3 (10 ^ j))]) rfl rfl (run_row Q3 24 0 4 [.int .u64 (l0 (10 ^ j)), .int .u64 (l1 (10 ^ j)), .int .u64 (l2 (10 ^ j)), .int .u64 (l3 (10 ^ j))] rfl Tryd.underlying24 rfl sz24) rfl ?_
  refine wl_call 36 [(.tmp 43), (.tmp 44)] _ [.agg #[.int .u64 (l0 N), .int .u64 (l1 N), .int .u64 (l2 N), .int .u64 (l3 N)], .agg #[.int .u64 (l0 (10 ^ j)), .int .u64 (l1 (10 ^ j)), .int .u64 (l2 (10 ^ j)), .int .u64 (l3 (10 ^ j))]] (.tuple #[.agg #[.int .u64 (l0 (N * 10 ^ j / MM)), .int .u64 (l1 (N * 10 ^ j / MM)), .int .u64 (l2 (N * 10 ^ j / MM)), .int .u64 (l3 (N * 10 ^ j / MM))], .agg #[.int .u64 (l0 (N * 10 ^ j)), .int .u64 (l1 (N * 10 ^ j)), .int .u64 (l2 (N * 10 ^ j)), .int .u64 (l3 (N * 10 ^ j))]]) rfl rfl (fun _ _ => by kernel_rfl) (rmul_n N (10 ^ j) _ hN0 hNM hT0 hTM) rfl ?_
  intro w8 hq
  replace Q1 := Q1.mo hq
  replace Q2 := Q2.mo hq
  replace Q3 := Q3.mo hq
  replace M := M.trans hq
  clear hq
  refine wl_mv (.tmp 45) (.tuple #[.agg #[.int .u64 (l0 (N * 10 ^ j / MM)), .int .u64 (l1 (N * 10 ^ j / MM)), .int .u64 (l2 (N * 10 ^ j / MM)), .int .u64 (l3 (N * 10 ^ j / MM))], .agg #[.int .u64 (l0 (N * 10 ^ j)), .int .u64 (l1 (N * 10 ^ j)), .int .u64 (l2 (N * 10 ^ j)), .int .u64 (l3 (N * 10 ^ j))]]) (fun _ => rfl) rfl rfl ?_
  refine wl_un (fun v => Instr.extract v 0) (.tmp 41) (.tuple #[.agg #[.int .u64 (l0 (N * 10 ^ j / MM)), .int .u64 (l1 (N * 10 ^ j / MM)), .int .u64 (l2 (N * 10 ^ j / MM)), .int .u64 (l3 (N * 10 ^ j / MM))], .agg #[.int .u64 (l0 (N * 10 ^ j)), .int .u64 (l1 (N * 10 ^ j)), .int .u64 (l2 (N * 10 ^ j)), .int .u64 (l3 (N * 10 ^ j))]]) (.agg #[.int .u64 (l0 (N * 10 ^ j / MM)), .int .u64 (l1 (N * 10 ^ j / MM)), .int .u64 (l2 (N * 10 ^ j / MM)), .int .u64 (l3 (N * 10 ^ j / MM))]) (fun _ => rfl) rfl (by kernel_rfl) rfl ?_
  refine wl_un (fun v => Instr.extract v 1) (.tmp 41) (.tuple #[.agg #[.int .u64 (l0 (N * 10 ^ j / MM)), .int .u64 (l1 (N * 10 ^ j / MM)), .int .u64 (l2 (N * 10 ^ j / MM)), .int .u64 (l3 (N * 10 ^ j / MM))], .agg #[.int .u64 (l0 (N * 10 ^ j)), .int .u64 (l1 (N * 10 ^ j)), .int .u64 (l2 (N * 10 ^ j)), .int .u64 (l3 (N * 10 ^ j))]]) (.agg #[.int .u64 (l0 (N * 10 ^ j)), .int .u64 (l1 (N * 10 ^ j)), .int .u64 (l2 (N * 10 ^ j)), .int .u64 (l3 (N * 10 ^ j))]) (fun _ => rfl) rfl (by kernel_rfl) rfl ?_
  refine wl_alloc 24 #[.int .u64 0, .int .u64 0, .int .u64 0, .int .u64 0] rfl (fun _ => by kernel_rfl) rfl ?_
  intro k4 w9 hk hz hq Q4
  have ne_k1_k4 : k1 ≠ k4 := by have := Q1.lt; omega
  have ne_k2_k4 : k2 ≠ k4 := by have := Q2.lt; omega
  have ne_k3_k4 : k3 ≠ k4 := by have := Q3.lt; omega
  have N_k4 : w.heap.size ≤ k4 := by have := M.size; omega
  replace Q1 := Q1.mo hq
  replace Q2 := Q2.mo hq
  replace Q3 := Q3.mo hq
  replace M := M.trans hq
  clear hk hz hq
  refine wl_alloc 24 #[.int .u64 0, .int .u64 0, .int .u64 0, .int .u64 0] rfl (fun _ => by kernel_rfl) rfl ?_
  intro k5 w10 hk hz hq Q5
  have ne_k1_k5 : k1 ≠ k5 := by have := Q1.lt; omega
  have ne_k2_k5 : k2 ≠ k5 := by have := Q2.lt; omega
  have ne_k3_k5 : k3 ≠ k5 := by have := Q3.lt; omega
  have ne_k4_k5 : k4 ≠ k5 := by have := Q4.lt; omega
  have N_k5 : w.heap.size ≤ k5 := by have := M.size; omega
  replace Q1 := Q1.mo hq
  replace Q2 := Q2.mo hq
  replace Q3 := Q3.mo hq
  replace Q4 := Q4.mo hq
  replace M := M.trans hq
  clear hk hz hq
  refine wl_st 24 (.tmp 10) (.tmp 46) k4 0 #[.int .u64 (l0 (N * 10 ^ j / MM)), .int .u64 (l1 (N * 10 ^ j / MM)), .int .u64 (l2 (N * 10 ^ j / MM)), .int .u64 (l3 (N * 10 ^ j / MM))] [.int .u64 0, .int .u64 0, .int .u64 0, .int .u64 0] [.int .u64 (l0 (N * 10 ^ j / MM)), .int .u64 (l1 (N * 10 ^ j / MM)), .int .u64 (l2 (N * 10 ^ j / MM)), .int .u64 (l3 (N * 10 ^ j / MM))] Q4 rfl rfl rfl rfl rfl sz24 rfl rfl rfl ?_
  intro w11 hS Qn
  replace Q4 := Qn
  clear Qn
  replace Q1 := hS.other _ _ ne_k1_k4 Q1
  replace Q2 := hS.other _ _ ne_k2_k4 Q2
  replace Q3 := hS.other _ _ ne_k3_k4 Q3
  replace Q5 := hS.other _ _ ne_k4_k5.symm Q5
  replace M := hS.mo _ N_k4 M
  clear hS
  refine wl_st 24 (.tmp 11) (.tmp 47) k5 0 #[.int .u64 (l0 (N * 10 ^ j)), .int .u64 (l1 (N * 10 ^ j)), .int .u64 (l2 (N * 10 ^ j)), .int .u64 (l3 (N * 10 ^ j))] [.int .u64 0, .int .u64 0, .int .u64 0, .int .u64 0] [.int .u64 (l0 (N * 10 ^ j)), .int .u64 (l1 (N * 10 ^ j)), .int .u64 (l2 (N * 10 ^ j)), .int .u64 (l3 (N * 10 ^ j))] Q5 rfl rfl rfl rfl rfl sz24 rfl rfl rfl ?_
  intro w12 hS Qn
  replace Q5 := Qn
  clear Qn
  replace Q1 := hS.other _ _ ne_k1_k5 Q1
  replace Q2 := hS.other _ _ ne_k2_k5 Q2
  replace Q3 := hS.other _ _ ne_k3_k5 Q3
  replace Q4 := hS.other _ _ ne_k4_k5 Q4
  replace M := hS.mo _ N_k5 M
  clear hS
  refine w_nil ?_
  refine xn_then ?_
  refine w_seq ?_
  refine w_seq ?_
  refine w_reg ?_
  refine wl_load 24 (.tmp 10) (pt k4 0) (.agg #[.int .u64 (l0 (N * 10 ^ j / MM)), .int .u64 (l1 (N * 10 ^ j / MM)), .int .u64 (l2 (N * 10 ^ j / MM)), .int .u64 (l3 (N * 10 ^ j / MM))]) rfl rfl (run_row Q4 24 0 4 [.int .u64 (l0 (N * 10 ^ j / MM)), .int .u64 (l1 (N * 10 ^ j / MM)), .int .u64 (l2 (N * 10 ^ j / MM)), .int .u64 (l3 (N * 10 ^ j / MM))] rfl Tryd.underlying24 rfl sz24) rfl ?_
  refine wl_build 24 [] [] (.agg #[.int .u64 0, .int .u64 0, .int .u64 0, .int .u64 0]) rfl rfl (by kernel_rfl) rfl ?_
  refine wl_bin (fun x y => do eqGuard .neq 24 (.tmp 48) (.tmp 49) x y; binOp .neq 24 x y) (.tmp 48) (.tmp 49) (.agg #[.int .u64 (l0 (N * 10 ^ j / MM)), .int .u64 (l1 (N * 10 ^ j / MM)), .int .u64 (l2 (N * 10 ^ j / MM)), .int .u64 (l3 (N * 10 ^ j / MM))]) (.agg #[.int .u64 0, .int .u64 0, .int .u64 0, .int .u64 0]) (.bool true) (fun _ => rfl) rfl rfl (nen_run (r := false) hi _ _ _) rfl ?_
  refine w_nil ?_
  refine xn_then ?_
  refine w_condT rfl ?_
  refine w_seq ?_
  refine w_reg ?_
  refine wl_build 26 [] [] (.agg #[.bool false, .int .u64 0, .int .u64 0, .int .u64 0, .int .u64 0, .int .i64 0]) rfl rfl (by kernel_rfl) rfl ?_
  refine wl_st 26 (.tmp 4) (.tmp 51) k1 0 #[.bool false, .int .u64 0, .int .u64 0, .int .u64 0, .int .u64 0, .int .i64 0] [.bool false, .int .u64 0, .int .u64 0, .int .u64 0, .int .u64 0, .int .i64 0] [.bool false, .int .u64 0, .int .u64 0, .int .u64 0, .int .u64 0, .int .i64 0] Q1 rfl rfl rfl rfl rfl sz26 rfl rfl rfl ?_
  intro w13 hS Qn
  replace Q1 := Qn
  clear Qn
  replace Q2 := hS.other _ _ ne_k1_k2.symm Q2
  replace Q3 := hS.other _ _ ne_k1_k3.symm Q3
  replace Q4 := hS.other _ _ ne_k1_k4.symm Q4
  replace Q5 := hS.other _ _ ne_k1_k5.symm Q5
  replace M := hS.mo _ N_k1 M
  clear hS
  refine wl_mv (.const (.int .i64 (7))) (.int .i64 (7)) (fun _ => rfl) rfl rfl ?_
  refine w_nil ?_
  refine xn_then ?_
  refine w_ret ?_
  refine xr_then ?_
  exact w_ret2 _ _ (.agg #[.bool false, .int .u64 0, .int .u64 0, .int .u64 0, .int .u64 0, .int .i64 0]) (.int .i64 (7)) rfl ⟨k1, rfl, (run_row Q1 26 0 6 [.bool false, .int .u64 0, .int .u64 0, .int .u64 0, .int .u64 0, .int .i64 0] rfl Tryd.underlying26 rfl sz26)⟩ rfl ⟨rfl, M⟩
theorem rpat_r (s : ByteArray) (w : World) (b : Bool) (N E : Int) (k j : Nat) (hp : ∀ w, Calls Tryd.prog 14 #[.string s] w fun e w' => e = .returned (.tuple #[dc b N (k : Int), .int .i64 E]) ∧ Mo w w') (hE : (E == 0) = true) (hkj : k + j ≤ 18) (hN0 : 0 ≤ N) (hNM : N < MM) (hi : (l0 (N * 10 ^ j / MM) == 0 && (l1 (N * 10 ^ j / MM) == 0 && (l2 (N * 10 ^ j / MM) == 0 && l3 (N * 10 ^ j / MM) == 0))) = true) : Calls Tryd.prog 16 #[.string s, .int .i64 (((k + j : Nat) : Int))] w fun e w' => e = .returned (.tuple #[dc b (N * 10 ^ j) ((k + j : Nat) : Int), .int .i64 0]) ∧ Mo w w' := by
  have h0 : decide (((k + j : Nat) : Int) < 0) = false := decide_eq_false (by omega)
  have h1 : decide (((k + j : Nat) : Int) > 18) = false := decide_eq_false (by omega)
  have hg : decide ((k : Int) > ((k + j : Nat) : Int)) = false := decide_eq_false (by omega)
  have hT0 : (0 : Int) ≤ 10 ^ j := Int.le_of_lt (pow_lt j (by omega)).1
  have hTM : (10 : Int) ^ j < MM := (pow_lt j (by omega)).2
  refine w_enter 57 Tryd.func16 Tryd.ntmps16 rfl rfl ?_
  have M : Mo w w := Mo.refl _
  refine w_seq ?_
  refine w_reg ?_
  refine wl_alloc 26 #[.bool false, .int .u64 0, .int .u64 0, .int .u64 0, .int .u64 0, .int .i64 0] rfl (fun _ => by kernel_rfl) rfl ?_
  intro k1 w1 hk hz hq Q1
  have N_k1 : w.heap.size ≤ k1 := by have := M.size; omega
  replace M := M.trans hq
  clear hk hz hq
  refine wl_mv (.const (.int .i64 (0))) (.int .i64 (0)) (fun _ => rfl) rfl rfl ?_
  refine w_nil ?_
  refine xn_then ?_
  refine w_seq ?_
  refine w_seq ?_
  refine w_reg ?_
  refine wl_mv (.tmp 1) (.int .i64 (((k + j : Nat) : Int))) (fun _ => rfl) rfl rfl ?_
  refine wl_bin (fun x y => do eqGuard .lss 3 (.tmp 12) (.const (.int .i64 (0))) x y; binOp .lss 3 x y) (.tmp 12) (.const (.int .i64 (0))) (.int .i64 (((k + j : Nat) : Int))) (.int .i64 (0)) (.bool false) (fun _ => rfl) rfl rfl (lt3_run h0 _ _ _) rfl ?_
  refine wl_mv (.tmp 13) (.bool false) (fun _ => rfl) rfl rfl ?_
  refine wl_mv (.tmp 1) (.int .i64 (((k + j : Nat) : Int))) (fun _ => rfl) rfl rfl ?_
  refine wl_bin (fun x y => do eqGuard .gtr 3 (.tmp 15) (.const (.int .i64 (18))) x y; binOp .gtr 3 x y) (.tmp 15) (.const (.int .i64 (18))) (.int .i64 (((k + j : Nat) : Int))) (.int .i64 (18)) (.bool false) (fun _ => rfl) rfl rfl (gt3_run h1 _ _ _) rfl ?_
  refine wl_pick (.tmp 14) (.const (.bool true)) (.tmp 16) false (.bool false) (fun _ => rfl) rfl rfl rfl ?_
  refine w_nil ?_
  refine xn_then ?_
  refine w_condF rfl ?_
  refine w_skip ?_
  refine xn_then ?_
  refine w_seq ?_
  refine w_reg ?_
  refine wl_mv (.tmp 0) (.string s) (fun _ => rfl) rfl rfl ?_
  refine wl_call 14 [(.tmp 20)] _ [.string s] (.tuple #[.agg #[.bool b, .int .u64 (l0 N), .int .u64 (l1 N), .int .u64 (l2 N), .int .u64 (l3 N), .int .i64 (k : Int)], .int .i64 (E)]) rfl rfl (fun _ _ => by kernel_rfl) (hp _) rfl ?_
  intro w2 hq
  replace Q1 := Q1.mo hq
  replace M := M.trans hq
  clear hq
  refine wl_mv (.tmp 21) (.tuple #[.agg #[.bool b, .int .u64 (l0 N), .int .u64 (l1 N), .int .u64 (l2 N), .int .u64 (l3 N), .int .i64 (k : Int)], .int .i64 (E)]) (fun _ => rfl) rfl rfl ?_
  refine wl_un (fun v => Instr.extract v 0) (.tmp 19) (.tuple #[.agg #[.bool b, .int .u64 (l0 N), .int .u64 (l1 N), .int .u64 (l2 N), .int .u64 (l3 N), .int .i64 (k : Int)], .int .i64 (E)]) (.agg #[.bool b, .int .u64 (l0 N), .int .u64 (l1 N), .int .u64 (l2 N), .int .u64 (l3 N), .int .i64 (k : Int)]) (fun _ => rfl) rfl (by kernel_rfl) rfl ?_
  refine wl_un (fun v => Instr.extract v 1) (.tmp 19) (.tuple #[.agg #[.bool b, .int .u64 (l0 N), .int .u64 (l1 N), .int .u64 (l2 N), .int .u64 (l3 N), .int .i64 (k : Int)], .int .i64 (E)]) (.int .i64 (E)) (fun _ => rfl) rfl (by kernel_rfl) rfl ?_
  refine wl_alloc 26 #[.bool false, .int .u64 0, .int .u64 0, .int .u64 0, .int .u64 0, .int .i64 0] rfl (fun _ => by kernel_rfl) rfl ?_
  intro k2 w3 hk hz hq Q2
  have ne_k1_k2 : k1 ≠ k2 := by have := Q1.lt; omega
  have N_k2 : w.heap.size ≤ k2 := by have := M.size; omega
  replace Q1 := Q1.mo hq
  replace M := M.trans hq
  clear hk hz hq
  refine wl_st 26 (.tmp 6) (.tmp 22) k2 0 #[.bool b, .int .u64 (l0 N), .int .u64 (l1 N), .int .u64 (l2 N), .int .u64 (l3 N), .int .i64 (k : Int)] [.bool false, .int .u64 0, .int .u64 0, .int .u64 0, .int .u64 0, .int .i64 0] [.bool b, .int .u64 (l0 N), .int .u64 (l1 N), .int .u64 (l2 N), .int .u64 (l3 N), .int .i64 (k : Int)] Q2 rfl rfl rfl rfl rfl sz26 rfl rfl rfl ?_
  intro w4 hS Qn
  replace Q2 := Qn
  clear Qn
  replace Q1 := hS.other _ _ ne_k1_k2 Q1
  replace M := hS.mo _ N_k2 M
  clear hS
  refine wl_mv (.tmp 23) (.int .i64 (E)) (fun _ => rfl) rfl rfl ?_
  refine w_nil ?_
  refine xn_then ?_
  refine w_seq ?_
  refine w_seq ?_
  refine w_reg ?_
  refine wl_mv (.tmp 7) (.int .i64 (E)) (fun _ => rfl) rfl rfl ?_
  refine wl_bin (fun x y => do eqGuard .neq 30 (.tmp 24) (.const (.int .i64 (0))) x y; binOp .neq 30 x y) (.tmp 24) (.const (.int .i64 (0))) (.int .i64 (E)) (.int .i64 (0)) (.bool false) (fun _ => rfl) rfl rfl (ne30 hE _ _ _) rfl ?_
  refine w_nil ?_
  refine xn_then ?_
  refine w_condF rfl ?_
  refine w_skip ?_
  refine xn_then ?_
  refine w_seq ?_
  refine w_seq ?_
  refine w_reg ?_
  refine wl_un (fun v => Instr.fieldAt 26 v 2) (.tmp 6) (pt k2 0) (pt k2 5) (fun _ => rfl) rfl (by kernel_rfl) rfl ?_
  refine wl_load 3 (.tmp 28) (pt k2 5) (.int .i64 (k : Int)) rfl rfl (run_one Q2 3 5 rfl Tryd.underlying3 rfl) rfl ?_
  refine wl_mv (.tmp 1) (.int .i64 (((k + j : Nat) : Int))) (fun _ => rfl) rfl rfl ?_
  refine wl_bin (fun x y => do eqGuard .gtr 3 (.tmp 29) (.tmp 30) x y; binOp .gtr 3 x y) (.tmp 29) (.tmp 30) (.int .i64 (k : Int)) (.int .i64 (((k + j : Nat) : Int))) (.bool false) (fun _ => rfl) rfl rfl (gt3_run hg _ _ _) rfl ?_
  refine w_nil ?_
  refine xn_then ?_
  refine w_condF rfl ?_
  refine w_skip ?_
  refine xn_then ?_
  refine w_seq ?_
  refine w_reg ?_
  refine wl_mv (.tmp 1) (.int .i64 (((k + j : Nat) : Int))) (fun _ => rfl) rfl rfl ?_
  refine wl_un (fun v => Instr.fieldAt 26 v 2) (.tmp 6) (pt k2 0) (pt k2 5) (fun _ => rfl) rfl (by kernel_rfl) rfl ?_
  refine wl_load 3 (.tmp 35) (pt k2 5) (.int .i64 (k : Int)) rfl rfl (run_one Q2 3 5 rfl Tryd.underlying3 rfl) rfl ?_
  refine wl_bin (fun x y => do eqGuard .sub 3 (.tmp 34) (.tmp 36) x y; binOp .sub 3 x y) (.tmp 34) (.tmp 36) (.int .i64 (((k + j : Nat) : Int))) (.int .i64 (k : Int)) (.int .i64 ((j : Int))) (fun _ => rfl) rfl rfl (sub3z hkj _ _ _) rfl ?_
  refine wl_call 35 [(.tmp 37)] _ [.int .i64 ((j : Int))] (.tuple #[.agg #[.int .u64 (l0 (10 ^ j)), .int .u64 (l1 (10 ^ j)), .int .u64 (l2 (10 ^ j)), .int .u64 (l3 (10 ^ j))], .bool true]) rfl rfl (fun _ _ => by kernel_rfl) (rten_yes j _ (by omega)) rfl ?_
  intro w5 hq
  replace Q1 := Q1.mo hq
  replace Q2 := Q2.mo hq
  replace M := M.trans hq
  clear hq
  refine wl_mv (.tmp 38) (.tuple #[.agg #[.int .u64 (l0 (10 ^ j)), .int .u64 (l1 (10 ^ j)), .int .u64 (l2 (10 ^ j)), .int .u64 (l3 (10 ^ j))], .bool true]) (fun _ => rfl) rfl rfl ?_
  refine wl_un (fun v => Instr.extract v 0) (.tmp 33) (.tuple #[.agg #[.int .u64 (l0 (10 ^ j)), .int .u64 (l1 (10 ^ j)), .int .u64 (l2 (10 ^ j)), .int .u64 (l3 (10 ^ j))], .bool true]) (.agg #[.int .u64 (l0 (10 ^ j)), .int .u64 (l1 (10 ^ j)), .int .u64 (l2 (10 ^ j)), .int .u64 (l3 (10 ^ j))]) (fun _ => rfl) rfl (by kernel_rfl) rfl ?_
  refine wl_un (fun v => Instr.extract v 1) (.tmp 33) (.tuple #[.agg #[.int .u64 (l0 (10 ^ j)), .int .u64 (l1 (10 ^ j)), .int .u64 (l2 (10 ^ j)), .int .u64 (l3 (10 ^ j))], .bool true]) (.bool true) (fun _ => rfl) rfl (by kernel_rfl) rfl ?_
  refine wl_alloc 24 #[.int .u64 0, .int .u64 0, .int .u64 0, .int .u64 0] rfl (fun _ => by kernel_rfl) rfl ?_
  intro k3 w6 hk hz hq Q3
  have ne_k1_k3 : k1 ≠ k3 := by have := Q1.lt; omega
  have ne_k2_k3 : k2 ≠ k3 := by have := Q2.lt; omega
  have N_k3 : w.heap.size ≤ k3 := by have := M.size; omega
  replace Q1 := Q1.mo hq
  replace Q2 := Q2.mo hq
  replace M := M.trans hq
  clear hk hz hq
  refine wl_st 24 (.tmp 8) (.tmp 39) k3 0 #[.int .u64 (l0 (10 ^ j)), .int .u64 (l1 (10 ^ j)), .int .u64 (l2 (10 ^ j)), .int .u64 (l3 (10 ^ j))] [.int .u64 0, .int .u64 0, .int .u64 0, .int .u64 0] [.int .u64 (l0 (10 ^ j)), .int .u64 (l1 (10 ^ j)), .int .u64 (l2 (10 ^ j)), .int .u64 (l3 (10 ^ j))] Q3 rfl rfl rfl rfl rfl sz24 rfl rfl rfl ?_
  intro w7 hS Qn
  replace Q3 := Qn
  clear Qn
  replace Q1 := hS.other _ _ ne_k1_k3 Q1
  replace Q2 := hS.other _ _ ne_k2_k3 Q2
  replace M := hS.mo _ N_k3 M
  clear hS
  refine wl_mv (.tmp 40) (.bool true) (fun _ => rfl) rfl rfl ?_
  refine w_nil ?_
  refine xn_then ?_
  refine w_seq ?_
  refine w_reg ?_
  refine wl_un (fun v => Instr.fieldAt 26 v 1) (.tmp 6) (pt k2 0) (pt k2 1) (fun _ => rfl) rfl (by kernel_rfl) rfl ?_
  refine wl_load 24 (.tmp 42) (pt k2 1) (.agg #[.int .u64 (l0 N), .int .u64 (l1 N), .int .u64 (l2 N), .int .u64 (l3 N)]) rfl rfl (run_row Q2 24 1 4 [.int .u64 (l0 N), .int .u64 (l1 N), .int .u64 (l2 N), .int .u64 (l3 N)] rfl Tryd.underlying24 rfl sz24) rfl ?_
  refine wl_load 24 (.tmp 8) (pt k3 0) (.agg #[.int .u64 (l0 (10 ^ j)), .int .u64 (l1 (10 ^ j)), .int .u64 (l2 (10 ^ j)), .int .u64 (l3 (10 ^ j))]) rfl rfl (run_row Q3 24 0 4 [.int .u64 (l0 (10 ^ j)), .int .u64 (l1 (10 ^ j)), .int .u64 (l2 (10 ^ j)), .int .u64 (l3 (10 ^ j))] rfl Tryd.underlying24 rfl sz24) rfl ?_
  refine wl_call 36 [(.tmp 43), (.tmp 44)] _ [.agg #[.int .u64 (l0 N), .int .u64 (l1 N), .int .u64 (l2 N), .int .u64 (l3 N)], .agg #[.int .u64 (l0 (10 ^ j)), .int .u64 (l1 (10 ^ j)), .int .u64 (l2 (10 ^ j)), .int .u64 (l3 (10 ^ j))]] (.tuple #[.agg #[.int .u64 (l0 (N * 10 ^ j / MM)), .int .u64 (l1 (N * 10 ^ j / MM)), .int .u64 (l2 (N * 10 ^ j / MM)), .int .u64 (l3 (N * 10 ^ j / MM))], .agg #[.int .u64 (l0 (N * 10 ^ j)), .int .u64 (l1 (N * 10 ^ j)), .int .u64 (l2 (N * 10 ^ j)), .int .u64 (l3 (N * 10 ^ j))]]) rfl rfl (fun _ _ => by kernel_rfl) (rmul_n N (10 ^ j) _ hN0 hNM hT0 hTM) rfl ?_
  intro w8 hq
  replace Q1 := Q1.mo hq
  replace Q2 := Q2.mo hq
  replace Q3 := Q3.mo hq
  replace M := M.trans hq
  clear hq
  refine wl_mv (.tmp 45) (.tuple #[.agg #[.int .u64 (l0 (N * 10 ^ j / MM)), .int .u64 (l1 (N * 10 ^ j / MM)), .int .u64 (l2 (N * 10 ^ j / MM)), .int .u64 (l3 (N * 10 ^ j / MM))], .agg #[.int .u64 (l0 (N * 10 ^ j)), .int .u64 (l1 (N * 10 ^ j)), .int .u64 (l2 (N * 10 ^ j)), .int .u64 (l3 (N * 10 ^ j))]]) (fun _ => rfl) rfl rfl ?_
  refine wl_un (fun v => Instr.extract v 0) (.tmp 41) (.tuple #[.agg #[.int .u64 (l0 (N * 10 ^ j / MM)), .int .u64 (l1 (N * 10 ^ j / MM)), .int .u64 (l2 (N * 10 ^ j / MM)), .int .u64 (l3 (N * 10 ^ j / MM))], .agg #[.int .u64 (l0 (N * 10 ^ j)), .int .u64 (l1 (N * 10 ^ j)), .int .u64 (l2 (N * 10 ^ j)), .int .u64 (l3 (N * 10 ^ j))]]) (.agg #[.int .u64 (l0 (N * 10 ^ j / MM)), .int .u64 (l1 (N * 10 ^ j / MM)), .int .u64 (l2 (N * 10 ^ j / MM)), .int .u64 (l3 (N * 10 ^ j / MM))]) (fun _ => rfl) rfl (by kernel_rfl) rfl ?_
  refine wl_un (fun v => Instr.extract v 1) (.tmp 41) (.tuple #[.agg #[.int .u64 (l0 (N * 10 ^ j / MM)), .int .u64 (l1 (N * 10 ^ j / MM)), .int .u64 (l2 (N * 10 ^ j / MM)), .int .u64 (l3 (N * 10 ^ j / MM))], .agg #[.int .u64 (l0 (N * 10 ^ j)), .int .u64 (l1 (N * 10 ^ j)), .int .u64 (l2 (N * 10 ^ j)), .int .u64 (l3 (N * 10 ^ j))]]) (.agg #[.int .u64 (l0 (N * 10 ^ j)), .int .u64 (l1 (N * 10 ^ j)), .int .u64 (l2 (N * 10 ^ j)), .int .u64 (l3 (N * 10 ^ j))]) (fun _ => rfl) rfl (by kernel_rfl) rfl ?_
  refine wl_alloc 24 #[.int .u64 0, .int .u64 0, .int .u64 0, .int .u64 0] rfl (fun _ => by kernel_rfl) rfl ?_
  intro k4 w9 hk hz hq Q4
  have ne_k1_k4 : k1 ≠ k4 := by have := Q1.lt; omega
  have ne_k2_k4 : k2 ≠ k4 := by have := Q2.lt; omega
  have ne_k3_k4 : k3 ≠ k4 := by have := Q3.lt; omega
  have N_k4 : w.heap.size ≤ k4 := by have := M.size; omega
  replace Q1 := Q1.mo hq
  replace Q2 := Q2.mo hq
  replace Q3 := Q3.mo hq
  replace M := M.trans hq
  clear hk hz hq
  refine wl_alloc 24 #[.int .u64 0, .int .u64 0, .int .u64 0, .int .u64 0] rfl (fun _ => by kernel_rfl) rfl ?_
  intro k5 w10 hk hz hq Q5
  have ne_k1_k5 : k1 ≠ k5 := by have := Q1.lt; omega
  have ne_k2_k5 : k2 ≠ k5 := by have := Q2.lt; omega
  have ne_k3_k5 : k3 ≠ k5 := by have := Q3.lt; omega
  have ne_k4_k5 : k4 ≠ k5 := by have := Q4.lt; omega
  have N_k5 : w.heap.size ≤ k5 := by have := M.size; omega
  replace Q1 := Q1.mo hq
  replace Q2 := Q2.mo hq
  replace Q3 := Q3.mo hq
  replace Q4 := Q4.mo hq
  replace M := M.trans hq
  clear hk hz hq
  refine wl_st 24 (.tmp 10) (.tmp 46) k4 0 #[.int .u64 (l0 (N * 10 ^ j / MM)), .int .u64 (l1 (N * 10 ^ j / MM)), .int .u64 (l2 (N * 10 ^ j / MM)), .int .u64 (l3 (N * 10 ^ j / MM))] [.int .u64 0, .int .u64 0, .int .u64 0, .int .u64 0] [.int .u64 (l0 (N * 10 ^ j / MM)), .int .u64 (l1 (N * 10 ^ j / MM)), .int .u64 (l2 (N * 10 ^ j / MM)), .int .u64 (l3 (N * 10 ^ j / MM))] Q4 rfl rfl rfl rfl rfl sz24 rfl rfl rfl ?_
  intro w11 hS Qn
  replace Q4 := Qn
  clear Qn
  replace Q1 := hS.other _ _ ne_k1_k4 Q1
  replace Q2 := hS.other _ _ ne_k2_k4 Q2
  replace Q3 := hS.other _ _ ne_k3_k4 Q3
  replace Q5 := hS.other _ _ ne_k4_k5.symm Q5
  replace M := hS.mo _ N_k4 M
  clear hS
  refine wl_st 24 (.tmp 11) (.tmp 47) k5 0 #[.int .u64 (l0 (N * 10 ^ j)), .int .u64 (l1 (N * 10 ^ j)), .int .u64 (l2 (N * 10 ^ j)), .int .u64 (l3 (N * 10 ^ j))] [.int .u64 0, .int .u64 0, .int .u64 0, .int .u64 0] [.int .u64 (l0 (N * 10 ^ j)), .int .u64 (l1 (N * 10 ^ j)), .int .u64 (l2 (N * 10 ^ j)), .int .u64 (l3 (N * 10 ^ j))] Q5 rfl rfl rfl rfl rfl sz24 rfl rfl rfl ?_
  intro w12 hS Qn
  replace Q5 := Qn
  clear Qn
  replace Q1 := hS.other _ _ ne_k1_k5 Q1
  replace Q2 := hS.other _ _ ne_k2_k5 Q2
  replace Q3 := hS.other _ _ ne_k3_k5 Q3
  replace Q4 := hS.other _ _ ne_k4_k5 Q4
  replace M := hS.mo _ N_k5 M
  clear hS
  refine w_nil ?_
  refine xn_then ?_
  refine w_seq ?_
  refine w_seq ?_
  refine w_reg ?_
  refine wl_load 24 (.tmp 10) (pt k4 0) (.agg #[.int .u64 (l0 (N * 10 ^ j / MM)), .int .u64 (l1 (N * 10 ^ j / MM)), .int .u64 (l2 (N * 10 ^ j / MM)), .int .u64 (l3 (N * 10 ^ j / MM))]) rfl rfl (run_row Q4 24 0 4 [.int .u64 (l0 (N * 10 ^ j / MM)), .int .u64 (l1 (N * 10 ^ j / MM)), .int .u64 (l2 (N * 10 ^ j / MM)), .int .u64 (l3 (N * 10 ^ j / MM))] rfl Tryd.underlying24 rfl sz24) rfl ?_
  refine wl_build 24 [] [] (.agg #[.int .u64 0, .int .u64 0, .int .u64 0, .int .u64 0]) rfl rfl (by kernel_rfl) rfl ?_
  refine wl_bin (fun x y => do eqGuard .neq 24 (.tmp 48) (.tmp 49) x y; binOp .neq 24 x y) (.tmp 48) (.tmp 49) (.agg #[.int .u64 (l0 (N * 10 ^ j / MM)), .int .u64 (l1 (N * 10 ^ j / MM)), .int .u64 (l2 (N * 10 ^ j / MM)), .int .u64 (l3 (N * 10 ^ j / MM))]) (.agg #[.int .u64 0, .int .u64 0, .int .u64 0, .int .u64 0]) (.bool false) (fun _ => rfl) rfl rfl (nen_run (r := true) hi _ _ _) rfl ?_
  refine w_nil ?_
  refine xn_then ?_
  refine w_condF rfl ?_
  refine w_skip ?_
  refine xn_then ?_
  refine w_seq ?_
  refine w_reg ?_
  refine wl_load 24 (.tmp 11) (pt k5 0) (.agg #[.int .u64 (l0 (N * 10 ^ j)), .int .u64 (l1 (N * 10 ^ j)), .int .u64 (l2 (N * 10 ^ j)), .int .u64 (l3 (N * 10 ^ j))]) rfl rfl (run_row Q5 24 0 4 [.int .u64 (l0 (N * 10 ^ j)), .int .u64 (l1 (N * 10 ^ j)), .int .u64 (l2 (N * 10 ^ j)), .int .u64 (l3 (N * 10 ^ j))] rfl Tryd.underlying24 rfl sz24) rfl ?_
  refine wl_mv (.tmp 1) (.int .i64 (((k + j : Nat) : Int))) (fun _ => rfl) rfl rfl ?_
  refine wl_un (fun v => Instr.fieldAt 26 v 1) (.tmp 6) (pt k2 0) (pt k2 1) (fun _ => rfl) rfl (by kernel_rfl) rfl ?_
  refine wl_st 24 (.tmp 54) (.tmp 52) k2 1 #[.int .u64 (l0 (N * 10 ^ j)), .int .u64 (l1 (N * 10 ^ j)), .int .u64 (l2 (N * 10 ^ j)), .int .u64 (l3 (N * 10 ^ j))] [.bool b, .int .u64 (l0 N), .int .u64 (l1 N), .int .u64 (l2 N), .int .u64 (l3 N), .int .i64 (k : Int)] [.bool b, .int .u64 (l0 (N * 10 ^ j)), .int .u64 (l1 (N * 10 ^ j)), .int .u64 (l2 (N * 10 ^ j)), .int .u64 (l3 (N * 10 ^ j)), .int .i64 (k : Int)] Q2 rfl rfl rfl rfl rfl sz24 rfl rfl rfl ?_
  intro w13 hS Qn
  replace Q2 := Qn
  clear Qn
  replace Q1 := hS.other _ _ ne_k1_k2 Q1
  replace Q3 := hS.other _ _ ne_k2_k3.symm Q3
  replace Q4 := hS.other _ _ ne_k2_k4.symm Q4
  replace Q5 := hS.other _ _ ne_k2_k5.symm Q5
  replace M := hS.mo _ N_k2 M
  clear hS
  refine wl_un (fun v => Instr.fieldAt 26 v 2) (.tmp 6) (pt k2 0) (pt k2 5) (fun _ => rfl) rfl (by kernel_rfl) rfl ?_
  refine wl_st1 3 (.tmp 55) (.tmp 53) k2 5 (.int .i64 (((k + j : Nat) : Int))) [.bool b, .int .u64 (l0 (N * 10 ^ j)), .int .u64 (l1 (N * 10 ^ j)), .int .u64 (l2 (N * 10 ^ j)), .int .u64 (l3 (N * 10 ^ j)), .int .i64 (k : Int)] [.bool b, .int .u64 (l0 (N * 10 ^ j)), .int .u64 (l1 (N * 10 ^ j)), .int .u64 (l2 (N * 10 ^ j)), .int .u64 (l3 (N * 10 ^ j)), .int .i64 (((k + j : Nat) : Int))] Q2 rfl rfl rfl rfl rfl sz3 rfl rfl rfl rfl ?_
  intro w14 hS Qn
  replace Q2 := Qn
  clear Qn
  replace Q1 := hS.other _ _ ne_k1_k2 Q1
  replace Q3 := hS.other _ _ ne_k2_k3.symm Q3
  replace Q4 := hS.other _ _ ne_k2_k4.symm Q4
  replace Q5 := hS.other _ _ ne_k2_k5.symm Q5
  replace M := hS.mo _ N_k2 M
  clear hS
  refine w_nil ?_
  refine xn_then ?_
  refine w_seq ?_
  refine w_reg ?_
  refine wl_load 26 (.tmp 6) (pt k2 0) (.agg #[.bool b, .int .u64 (l0 (N * 10 ^ j)), .int .u64 (l1 (N * 10 ^ j)), .int .u64 (l2 (N * 10 ^ j)), .int .u64 (l3 (N * 10 ^ j)), .int .i64 (((k + j : Nat) : Int))]) rfl rfl (run_row Q2 26 0 6 [.bool b, .int .u64 (l0 (N * 10 ^ j)), .int .u64 (l1 (N * 10 ^ j)), .int .u64 (l2 (N * 10 ^ j)), .int .u64 (l3 (N * 10 ^ j)), .int .i64 (((k + j : Nat) : Int))] rfl Tryd.underlying26 rfl sz26) rfl ?_
  refine wl_st 26 (.tmp 4) (.tmp 56) k1 0 #[.bool b, .int .u64 (l0 (N * 10 ^ j)), .int .u64 (l1 (N * 10 ^ j)), .int .u64 (l2 (N * 10 ^ j)), .int .u64 (l3 (N * 10 ^ j)), .int .i64 (((k + j : Nat) : Int))] [.bool false, .int .u64 0, .int .u64 0, .int .u64 0, .int .u64 0, .int .i64 0] [.bool b, .int .u64 (l0 (N * 10 ^ j)), .int .u64 (l1 (N * 10 ^ j)), .int .u64 (l2 (N * 10 ^ j)), .int .u64 (l3 (N * 10 ^ j)), .int .i64 (((k + j : Nat) : Int))] Q1 rfl rfl rfl rfl rfl sz26 rfl rfl rfl ?_
  intro w15 hS Qn
  replace Q1 := Qn
  clear Qn
  replace Q2 := hS.other _ _ ne_k1_k2.symm Q2
  replace Q3 := hS.other _ _ ne_k1_k3.symm Q3
  replace Q4 := hS.other _ _ ne_k1_k4.symm Q4
  replace Q5 := hS.other _ _ ne_k1_k5.symm Q5
  replace M := hS.mo _ N_k1 M
  clear hS
  refine wl_mv (.const (.int .i64 (0))) (.int .i64 (0)) (fun _ => rfl) rfl rfl ?_
  refine w_nil ?_
  refine xn_then ?_
  refine w_ret ?_
  exact w_ret2 _ _ (.agg #[.bool b, .int .u64 (l0 (N * 10 ^ j)), .int .u64 (l1 (N * 10 ^ j)), .int .u64 (l2 (N * 10 ^ j)), .int .u64 (l3 (N * 10 ^ j)), .int .i64 (((k + j : Nat) : Int))]) (.int .i64 (0)) rfl ⟨k1, rfl, (run_row Q1 26 0 6 [.bool b, .int .u64 (l0 (N * 10 ^ j)), .int .u64 (l1 (N * 10 ^ j)), .int .u64 (l2 (N * 10 ^ j)), .int .u64 (l3 (N * 10 ^ j)), .int .i64 (((k + j : Nat) : Int))] rfl Tryd.underlying26 rfl sz26)⟩ rfl ⟨rfl, M⟩
end Go.Proofs.YtdcojpbgijkmgaaDoor
/-
  ParseAt: the program's and the document's say the same.
-/
namespace Go.Proofs.YtdcojpbgijkmgaaDoor
open Go.RowKit
theorem div0 {P : Int} (e : P / MM = 0) : P < MM := by unfold MM at *; omega
theorem zbn {v : Int} (h0 : 0 ≤ v) (hM : v < MM) : (l0 v == 0 && (l1 v == 0 && (l2 v == 0 && l3 v == 0))) = decide (v = 0) := by
  have := limbs_eq h0 hM (m := 0) (by decide) (by decide)
  exact this
theorem dz_dc {b : Bool} {N : Int} {v k : Int} (h1 : ab v = N) (h2 : decide (v < 0) = b) : dz v k = dc b N k := by unfold dz; rw [h1, h2]
/-- Both ParseAts say the same. -/
theorem parseAt_both (s : ByteArray) (z : Int) (hsz : s.size ≤ 140737488355328) : ∃ (b : Bool) (N S E : Int),
    (∀ w, Calls Tryd.prog 15 #[.string s, .int .i64 z] w fun e w' => e = .returned (.tuple #[dc b N S, .int .i64 E]) ∧ Mo w w') ∧ (∀ w, Calls Tryd.prog 16 #[.string s, .int .i64 z] w fun e w' => e = .returned (.tuple #[dc b N S, .int .i64 E]) ∧ Mo w w') := by
  obtain ⟨b, N, E, k, hN0, hNM, hk, hck, _, h3, h4⟩ := parse_both s hsz
  cases h0 : decide (z < 0) with
  | true => exact ⟨false, 0, 0, 1, fun w => parseAt_lo s z w h0, fun w => rpat_lo s w z h0⟩
  | false =>
    cases h1 : decide (z > 18) with
    | true => exact ⟨false, 0, 0, 1, fun w => parseAt_hi s z w h0 h1, fun w => rpat_hi s w z h0 h1⟩
    | false =>
      cases hE : (E == 0) with
      | false => exact ⟨false, 0, 0, E, fun w => parseAt_e s z w h0 h1 b N (k : Int) E h3 hE, fun w => rpat_e s w z h0 h1 b N E k h4 hE⟩
      | true =>
        cases hg : decide ((k : Int) > z) with
        | true => exact ⟨false, 0, 0, 31, fun w => parseAt_p s z w h0 h1 b N (k : Int) E h3 hE hg, fun w => rpat_p s w z h0 h1 b N E k h4 hE hg⟩
        | false =>
          have q0 := of_decide_eq_false h0
          have q1 := of_decide_eq_false h1
          have qg := of_decide_eq_false hg
          obtain ⟨j, rfl⟩ : ∃ j : Nat, z = ((k + j : Nat) : Int) := ⟨(z - k).toNat, by omega⟩
          have hkj : k + j ≤ 18 := by omega
          have hck' := hck (eq_of_beq hE)
          obtain ⟨hsc, v, hv1, hv2⟩ := dz_of hN0 hck'
          have hT := pow_lt j (by omega)
          have hr := fun w => rescale_z v (k : Int) ((k + j : Nat) : Int) 3 w (by rw [hv1]; exact hNM) hsc (sc_iff.2 ⟨by omega, by omega⟩) (by decide) (by decide)
          have hrs : rsV v (k : Int) ((k + j : Nat) : Int) 3 = v * 10 ^ j := by
            unfold rsV
            rw [if_neg (by omega)]
            congr 1
            rw [show ((k + j : Nat) : Int) - (k : Int) = (j : Int) by omega]
            rfl
          have hab : ab (v * 10 ^ j) = N * 10 ^ j := by
            rw [← hv1, ab_mul hT.1]
          have hdec : decide (v * 10 ^ j < 0) = b := by
            rw [← hv2]
            apply decide_eq_decide.2
            constructor
            · intro h
              by_cases hv0 : v < 0
              · exact hv0
              · have := Int.mul_nonneg (show 0 ≤ v by omega) (Int.le_of_lt hT.1); omega
            · intro h
              exact Int.mul_neg_of_neg_of_pos h hT.1
          simp only [hrs, dz_dc hv1 hv2] at hr
          have hP0 : 0 ≤ N * 10 ^ j := Int.mul_nonneg hN0 (Int.le_of_lt hT.1)
          have hPM : N * 10 ^ j < MM * MM := Int.lt_of_lt_of_le (Int.mul_lt_mul_of_pos_right hNM hT.1) (Int.mul_le_mul_of_nonneg_left (Int.le_of_lt hT.2) (by decide))
          have hH0 : 0 ≤ N * 10 ^ j / MM := Int.ediv_nonneg hP0 (by decide)
          have hHM : N * 10 ^ j / MM < MM := Int.ediv_lt_of_lt_mul (by decide) hPM
          have hz := zbn hH0 hHM
          by_cases hM : N * 10 ^ j < MM
          · have hi : N * 10 ^ j / MM = 0 := Int.ediv_eq_zero_of_lt hP0 hM
            rw [decide_eq_true hi] at hz
            have hf : fz (v * 10 ^ j) ((k + j : Nat) : Int) = .tuple #[dc b (N * 10 ^ j) ((k + j : Nat) : Int), .int .i64 0] := by
              rw [fz_yes (by rw [hab]; exact hM), dz_dc hab hdec]
            simp only [hf] at hr
            exact ⟨b, N * 10 ^ j, ((k + j : Nat) : Int), 0, fun w => parseAt_r s _ w h0 h1 b N (k : Int) E h3 hE hg b (N * 10 ^ j) _ 0 hr, fun w => rpat_r s w b N E k j h4 hE hkj hN0 hNM hz⟩
          · have hi : ¬ N * 10 ^ j / MM = 0 := fun e => hM (div0 e)
            rw [decide_eq_false hi] at hz
            have hf : fz (v * 10 ^ j) ((k + j : Nat) : Int) = er 7 := fz_no (by rw [hab]; exact hM)
            simp only [hf] at hr
            exact ⟨false, 0, 0, 7, fun w => parseAt_r s _ w h0 h1 b N (k : Int) E h3 hE hg false 0 0 7 hr, fun w => rpat_o s w b N E k j h4 hE hkj hN0 hNM hz⟩
end Go.Proofs.YtdcojpbgijkmgaaDoor
/-
  exciselaw03.DectextParses, whatever the text and the scale.
-/
namespace Go.Proofs.YtdcojpbgijkmgaaDoor.V
open Go.RowKit Go.Lib
theorem dparses_w (s : ByteArray) (z : Int) (w : World) (b c : Bool) (N E N2 S2 E2 : Int) (k : Nat) (h13 : ∀ w, Calls Tryd.prog 13 #[.string s] w fun e w' => e = .returned (.tuple #[dc b N (k : Int), .int .i64 E]) ∧ Mo w w') (h14 : ∀ w, Calls Tryd.prog 14 #[.string s] w fun e w' => e = .returned (.tuple #[dc b N (k : Int), .int .i64 E]) ∧ Mo w w') (h15 : ∀ w, Calls Tryd.prog 15 #[.string s, .int .i64 z] w fun e w' => e = .returned (.tuple #[dc c N2 S2, .int .i64 E2]) ∧ Mo w w') (h16 : ∀ w, Calls Tryd.prog 16 #[.string s, .int .i64 z] w fun e w' => e = .returned (.tuple #[dc c N2 S2, .int .i64 E2]) ∧ Mo w w') : Calls Tryd.prog 4 #[.string s, .int .i64 z] w fun e w' => e = .returned (.bool true) ∧ Mw w w' := by
  refine w_enter 56 Tryd.func4 Tryd.ntmps4 rfl rfl ?_
  have M : Mw w w := Mw.refl _
  refine w_seq ?_
  refine w_reg ?_
  refine wl_mv (.const (.bool false)) (.bool false) (fun _ => rfl) rfl rfl ?_
  refine w_nil ?_
  refine xn_then ?_
  refine w_seq ?_
  refine w_reg ?_
  refine wl_mv (.tmp 0) (.string s) (fun _ => rfl) rfl rfl ?_
  refine wl_call 13 [(.tmp 14)] _ [.string s] (.tuple #[.agg #[.bool b, .int .u64 (l0 N), .int .u64 (l1 N), .int .u64 (l2 N), .int .u64 (l3 N), .int .i64 ((k : Int))], .int .i64 (E)]) rfl rfl (fun _ _ => by kernel_rfl) (wk (h13 _)) rfl ?_
  intro w1 hq
  replace M := M.trans hq
  clear hq
  refine wl_mv (.tmp 15) (.tuple #[.agg #[.bool b, .int .u64 (l0 N), .int .u64 (l1 N), .int .u64 (l2 N), .int .u64 (l3 N), .int .i64 ((k : Int))], .int .i64 (E)]) (fun _ => rfl) rfl rfl ?_
  refine wl_un (fun v => Instr.extract v 0) (.tmp 13) (.tuple #[.agg #[.bool b, .int .u64 (l0 N), .int .u64 (l1 N), .int .u64 (l2 N), .int .u64 (l3 N), .int .i64 ((k : Int))], .int .i64 (E)]) (.agg #[.bool b, .int .u64 (l0 N), .int .u64 (l1 N), .int .u64 (l2 N), .int .u64 (l3 N), .int .i64 ((k : Int))]) (fun _ => rfl) rfl (by kernel_rfl) rfl ?_
  refine wl_un (fun v => Instr.extract v 1) (.tmp 13) (.tuple #[.agg #[.bool b, .int .u64 (l0 N), .int .u64 (l1 N), .int .u64 (l2 N), .int .u64 (l3 N), .int .i64 ((k : Int))], .int .i64 (E)]) (.int .i64 (E)) (fun _ => rfl) rfl (by kernel_rfl) rfl ?_
  refine wl_alloc 26 #[.bool false, .int .u64 0, .int .u64 0, .int .u64 0, .int .u64 0, .int .i64 0] rfl (fun _ => by kernel_rfl) rfl ?_
  intro k1 w2 hk hz hq Q1
  have N_k1 : w.heap.size ≤ k1 := by have := M.size; omega
  replace M := M.trans hq
  clear hk hz hq
  refine wl_st 26 (.tmp 5) (.tmp 16) k1 0 #[.bool b, .int .u64 (l0 N), .int .u64 (l1 N), .int .u64 (l2 N), .int .u64 (l3 N), .int .i64 ((k : Int))] [.bool false, .int .u64 0, .int .u64 0, .int .u64 0, .int .u64 0, .int .i64 0] [.bool b, .int .u64 (l0 N), .int .u64 (l1 N), .int .u64 (l2 N), .int .u64 (l3 N), .int .i64 ((k : Int))] Q1 rfl rfl rfl rfl rfl sz26 rfl rfl rfl ?_
  intro w3 hS Qn
  replace Q1 := Qn
  clear Qn
  replace M := hS.mo _ N_k1 M
  clear hS
  refine wl_mv (.tmp 17) (.int .i64 (E)) (fun _ => rfl) rfl rfl ?_
  refine w_nil ?_
  refine xn_then ?_
  refine w_seq ?_
  refine w_reg ?_
  refine wl_mv (.tmp 0) (.string s) (fun _ => rfl) rfl rfl ?_
  refine wl_call 14 [(.tmp 19)] _ [.string s] (.tuple #[.agg #[.bool b, .int .u64 (l0 N), .int .u64 (l1 N), .int .u64 (l2 N), .int .u64 (l3 N), .int .i64 ((k : Int))], .int .i64 (E)]) rfl rfl (fun _ _ => by kernel_rfl) (wk (h14 _)) rfl ?_
  intro w4 hq
  replace Q1 := Q1.mo hq
  replace M := M.trans hq
  clear hq
  refine wl_mv (.tmp 20) (.tuple #[.agg #[.bool b, .int .u64 (l0 N), .int .u64 (l1 N), .int .u64 (l2 N), .int .u64 (l3 N), .int .i64 ((k : Int))], .int .i64 (E)]) (fun _ => rfl) rfl rfl ?_
  refine wl_un (fun v => Instr.extract v 0) (.tmp 18) (.tuple #[.agg #[.bool b, .int .u64 (l0 N), .int .u64 (l1 N), .int .u64 (l2 N), .int .u64 (l3 N), .int .i64 ((k : Int))], .int .i64 (E)]) (.agg #[.bool b, .int .u64 (l0 N), .int .u64 (l1 N), .int .u64 (l2 N), .int .u64 (l3 N), .int .i64 ((k : Int))]) (fun _ => rfl) rfl (by kernel_rfl) rfl ?_
  refine wl_un (fun v => Instr.extract v 1) (.tmp 18) (.tuple #[.agg #[.bool b, .int .u64 (l0 N), .int .u64 (l1 N), .int .u64 (l2 N), .int .u64 (l3 N), .int .i64 ((k : Int))], .int .i64 (E)]) (.int .i64 (E)) (fun _ => rfl) rfl (by kernel_rfl) rfl ?_
  refine wl_alloc 26 #[.bool false, .int .u64 0, .int .u64 0, .int .u64 0, .int .u64 0, .int .i64 0] rfl (fun _ => by kernel_rfl) rfl ?_
  intro k2 w5 hk hz hq Q2
  have ne_k1_k2 : k1 ≠ k2 := by have := Q1.lt; omega
  have N_k2 : w.heap.size ≤ k2 := by have := M.size; omega
  replace Q1 := Q1.mo hq
  replace M := M.trans hq
  clear hk hz hq
  refine wl_st 26 (.tmp 7) (.tmp 21) k2 0 #[.bool b, .int .u64 (l0 N), .int .u64 (l1 N), .int .u64 (l2 N), .int .u64 (l3 N), .int .i64 ((k : Int))] [.bool false, .int .u64 0, .int .u64 0, .int .u64 0, .int .u64 0, .int .i64 0] [.bool b, .int .u64 (l0 N), .int .u64 (l1 N), .int .u64 (l2 N), .int .u64 (l3 N), .int .i64 ((k : Int))] Q2 rfl rfl rfl rfl rfl sz26 rfl rfl rfl ?_
  intro w6 hS Qn
  replace Q2 := Qn
  clear Qn
  replace Q1 := hS.other _ _ ne_k1_k2 Q1
  replace M := hS.mo _ N_k2 M
  clear hS
  refine wl_mv (.tmp 22) (.int .i64 (E)) (fun _ => rfl) rfl rfl ?_
  refine w_nil ?_
  refine xn_then ?_
  refine w_seq ?_
  refine w_reg ?_
  refine wl_mv (.tmp 0) (.string s) (fun _ => rfl) rfl rfl ?_
  refine wl_mv (.tmp 1) (.int .i64 z) (fun _ => rfl) rfl rfl ?_
  refine wl_call 15 [(.tmp 24), (.tmp 25)] _ [.string s, .int .i64 z] (.tuple #[.agg #[.bool c, .int .u64 (l0 N2), .int .u64 (l1 N2), .int .u64 (l2 N2), .int .u64 (l3 N2), .int .i64 (S2)], .int .i64 (E2)]) rfl rfl (fun _ _ => by kernel_rfl) (wk (h15 _)) rfl ?_
  intro w7 hq
  replace Q1 := Q1.mo hq
  replace Q2 := Q2.mo hq
  replace M := M.trans hq
  clear hq
  refine wl_mv (.tmp 26) (.tuple #[.agg #[.bool c, .int .u64 (l0 N2), .int .u64 (l1 N2), .int .u64 (l2 N2), .int .u64 (l3 N2), .int .i64 (S2)], .int .i64 (E2)]) (fun _ => rfl) rfl rfl ?_
  refine wl_un (fun v => Instr.extract v 0) (.tmp 23) (.tuple #[.agg #[.bool c, .int .u64 (l0 N2), .int .u64 (l1 N2), .int .u64 (l2 N2), .int .u64 (l3 N2), .int .i64 (S2)], .int .i64 (E2)]) (.agg #[.bool c, .int .u64 (l0 N2), .int .u64 (l1 N2), .int .u64 (l2 N2), .int .u64 (l3 N2), .int .i64 (S2)]) (fun _ => rfl) rfl (by kernel_rfl) rfl ?_
  refine wl_un (fun v => Instr.extract v 1) (.tmp 23) (.tuple #[.agg #[.bool c, .int .u64 (l0 N2), .int .u64 (l1 N2), .int .u64 (l2 N2), .int .u64 (l3 N2), .int .i64 (S2)], .int .i64 (E2)]) (.int .i64 (E2)) (fun _ => rfl) rfl (by kernel_rfl) rfl ?_
  refine wl_alloc 26 #[.bool false, .int .u64 0, .int .u64 0, .int .u64 0, .int .u64 0, .int .i64 0] rfl (fun _ => by kernel_rfl) rfl ?_
  intro k3 w8 hk hz hq Q3
  have ne_k1_k3 : k1 ≠ k3 := by have := Q1.lt; omega
  have ne_k2_k3 : k2 ≠ k3 := by have := Q2.lt; omega
  have N_k3 : w.heap.size ≤ k3 := by have := M.size; omega
  replace Q1 := Q1.mo hq
  replace Q2 := Q2.mo hq
  replace M := M.trans hq
  clear hk hz hq
  refine wl_st 26 (.tmp 9) (.tmp 27) k3 0 #[.bool c, .int .u64 (l0 N2), .int .u64 (l1 N2), .int .u64 (l2 N2), .int .u64 (l3 N2), .int .i64 (S2)] [.bool false, .int .u64 0, .int .u64 0, .int .u64 0, .int .u64 0, .int .i64 0] [.bool c, .int .u64 (l0 N2), .int .u64 (l1 N2), .int .u64 (l2 N2), .int .u64 (l3 N2), .int .i64 (S2)] Q3 rfl rfl rfl rfl rfl sz26 rfl rfl rfl ?_
  intro w9 hS Qn
  replace Q3 := Qn
  clear Qn
  replace Q1 := hS.other _ _ ne_k1_k3 Q1
  replace Q2 := hS.other _ _ ne_k2_k3 Q2
  replace M := hS.mo _ N_k3 M
  clear hS
  refine wl_mv (.tmp 28) (.int .i64 (E2)) (fun _ => rfl) rfl rfl ?_
  refine w_nil ?_
  refine xn_then ?_
  refine w_seq ?_
  refine w_reg ?_
  refine wl_mv (.tmp 0) (.string s) (fun _ => rfl) rfl rfl ?_
  refine wl_mv (.tmp 1) (.int .i64 z) (fun _ => rfl) rfl rfl ?_
  refine wl_call 16 [(.tmp 30), (.tmp 31)] _ [.string s, .int .i64 z] (.tuple #[.agg #[.bool c, .int .u64 (l0 N2), .int .u64 (l1 N2), .int .u64 (l2 N2), .int .u64 (l3 N2), .int .i64 (S2)], .int .i64 (E2)]) rfl rfl (fun _ _ => by kernel_rfl) (wk (h16 _)) rfl ?_
  intro w10 hq
  replace Q1 := Q1.mo hq
  replace Q2 := Q2.mo hq
  replace Q3 := Q3.mo hq
  replace M := M.trans hq
  clear hq
  refine wl_mv (.tmp 32) (.tuple #[.agg #[.bool c, .int .u64 (l0 N2), .int .u64 (l1 N2), .int .u64 (l2 N2), .int .u64 (l3 N2), .int .i64 (S2)], .int .i64 (E2)]) (fun _ => rfl) rfl rfl ?_
  refine wl_un (fun v => Instr.extract v 0) (.tmp 29) (.tuple #[.agg #[.bool c, .int .u64 (l0 N2), .int .u64 (l1 N2), .int .u64 (l2 N2), .int .u64 (l3 N2), .int .i64 (S2)], .int .i64 (E2)]) (.agg #[.bool c, .int .u64 (l0 N2), .int .u64 (l1 N2), .int .u64 (l2 N2), .int .u64 (l3 N2), .int .i64 (S2)]) (fun _ => rfl) rfl (by kernel_rfl) rfl ?_
  refine wl_un (fun v => Instr.extract v 1) (.tmp 29) (.tuple #[.agg #[.bool c, .int .u64 (l0 N2), .int .u64 (l1 N2), .int .u64 (l2 N2), .int .u64 (l3 N2), .int .i64 (S2)], .int .i64 (E2)]) (.int .i64 (E2)) (fun _ => rfl) rfl (by kernel_rfl) rfl ?_
  refine wl_alloc 26 #[.bool false, .int .u64 0, .int .u64 0, .int .u64 0, .int .u64 0, .int .i64 0] rfl (fun _ => by kernel_rfl) rfl ?_
  intro k4 w11 hk hz hq Q4
  have ne_k1_k4 : k1 ≠ k4 := by have := Q1.lt; omega
  have ne_k2_k4 : k2 ≠ k4 := by have := Q2.lt; omega
  have ne_k3_k4 : k3 ≠ k4 := by have := Q3.lt; omega
  have N_k4 : w.heap.size ≤ k4 := by have := M.size; omega
  replace Q1 := Q1.mo hq
  replace Q2 := Q2.mo hq
  replace Q3 := Q3.mo hq
  replace M := M.trans hq
  clear hk hz hq
  refine wl_st 26 (.tmp 11) (.tmp 33) k4 0 #[.bool c, .int .u64 (l0 N2), .int .u64 (l1 N2), .int .u64 (l2 N2), .int .u64 (l3 N2), .int .i64 (S2)] [.bool false, .int .u64 0, .int .u64 0, .int .u64 0, .int .u64 0, .int .i64 0] [.bool c, .int .u64 (l0 N2), .int .u64 (l1 N2), .int .u64 (l2 N2), .int .u64 (l3 N2), .int .i64 (S2)] Q4 rfl rfl rfl rfl rfl sz26 rfl rfl rfl ?_
  intro w12 hS Qn
  replace Q4 := Qn
  clear Qn
  replace Q1 := hS.other _ _ ne_k1_k4 Q1
  replace Q2 := hS.other _ _ ne_k2_k4 Q2
  replace Q3 := hS.other _ _ ne_k3_k4 Q3
  replace M := hS.mo _ N_k4 M
  clear hS
  refine wl_mv (.tmp 34) (.int .i64 (E2)) (fun _ => rfl) rfl rfl ?_
  refine w_nil ?_
  refine xn_then ?_
  refine w_seq ?_
  refine w_reg ?_
  refine wl_call 8 [] _ [] (.bool true) rfl rfl (fun _ _ => by kernel_rfl) (live_n _) rfl ?_
  intro w13 hq
  replace Q1 := Q1.mo hq
  replace Q2 := Q2.mo hq
  replace Q3 := Q3.mo hq
  replace Q4 := Q4.mo hq
  replace M := M.trans hq
  clear hq
  refine wl_mv (.tmp 35) (.bool true) (fun _ => rfl) rfl rfl ?_
  refine wl_load 26 (.tmp 5) (pt k1 0) (.agg #[.bool b, .int .u64 (l0 N), .int .u64 (l1 N), .int .u64 (l2 N), .int .u64 (l3 N), .int .i64 ((k : Int))]) rfl rfl (run_row Q1 26 0 6 [.bool b, .int .u64 (l0 N), .int .u64 (l1 N), .int .u64 (l2 N), .int .u64 (l3 N), .int .i64 ((k : Int))] rfl Tryd.underlying26 rfl sz26) rfl ?_
  refine wl_load 26 (.tmp 7) (pt k2 0) (.agg #[.bool b, .int .u64 (l0 N), .int .u64 (l1 N), .int .u64 (l2 N), .int .u64 (l3 N), .int .i64 ((k : Int))]) rfl rfl (run_row Q2 26 0 6 [.bool b, .int .u64 (l0 N), .int .u64 (l1 N), .int .u64 (l2 N), .int .u64 (l3 N), .int .i64 ((k : Int))] rfl Tryd.underlying26 rfl sz26) rfl ?_
  refine wl_bin (fun x y => do eqGuard .eql 26 (.tmp 37) (.tmp 38) x y; binOp .eql 26 x y) (.tmp 37) (.tmp 38) (.agg #[.bool b, .int .u64 (l0 N), .int .u64 (l1 N), .int .u64 (l2 N), .int .u64 (l3 N), .int .i64 ((k : Int))]) (.agg #[.bool b, .int .u64 (l0 N), .int .u64 (l1 N), .int .u64 (l2 N), .int .u64 (l3 N), .int .i64 ((k : Int))]) (.bool true) (fun _ => rfl) rfl rfl (eqd_run (self6 _ _ _ _ _ _) _ _ _) rfl ?_
  refine wl_pick (.tmp 36) (.tmp 39) (.const (.bool false)) true (.bool true) (fun _ => rfl) rfl rfl rfl ?_
  refine wl_mv (.tmp 40) (.bool true) (fun _ => rfl) rfl rfl ?_
  refine wl_mv (.tmp 6) (.int .i64 (E)) (fun _ => rfl) rfl rfl ?_
  refine wl_mv (.tmp 8) (.int .i64 (E)) (fun _ => rfl) rfl rfl ?_
  refine wl_bin (fun x y => do eqGuard .eql 30 (.tmp 42) (.tmp 43) x y; binOp .eql 30 x y) (.tmp 42) (.tmp 43) (.int .i64 (E)) (.int .i64 (E)) (.bool true) (fun _ => rfl) rfl rfl (eqE_run (beq_self_eq_true _) _ _ _) rfl ?_
  refine wl_pick (.tmp 41) (.tmp 44) (.const (.bool false)) true (.bool true) (fun _ => rfl) rfl rfl rfl ?_
  refine wl_mv (.tmp 45) (.bool true) (fun _ => rfl) rfl rfl ?_
  refine wl_load 26 (.tmp 9) (pt k3 0) (.agg #[.bool c, .int .u64 (l0 N2), .int .u64 (l1 N2), .int .u64 (l2 N2), .int .u64 (l3 N2), .int .i64 (S2)]) rfl rfl (run_row Q3 26 0 6 [.bool c, .int .u64 (l0 N2), .int .u64 (l1 N2), .int .u64 (l2 N2), .int .u64 (l3 N2), .int .i64 (S2)] rfl Tryd.underlying26 rfl sz26) rfl ?_
  refine wl_load 26 (.tmp 11) (pt k4 0) (.agg #[.bool c, .int .u64 (l0 N2), .int .u64 (l1 N2), .int .u64 (l2 N2), .int .u64 (l3 N2), .int .i64 (S2)]) rfl rfl (run_row Q4 26 0 6 [.bool c, .int .u64 (l0 N2), .int .u64 (l1 N2), .int .u64 (l2 N2), .int .u64 (l3 N2), .int .i64 (S2)] rfl Tryd.underlying26 rfl sz26) rfl ?_
  refine wl_bin (fun x y => do eqGuard .eql 26 (.tmp 47) (.tmp 48) x y; binOp .eql 26 x y) (.tmp 47) (.tmp 48) (.agg #[.bool c, .int .u64 (l0 N2), .int .u64 (l1 N2), .int .u64 (l2 N2), .int .u64 (l3 N2), .int .i64 (S2)]) (.agg #[.bool c, .int .u64 (l0 N2), .int .u64 (l1 N2), .int .u64 (l2 N2), .int .u64 (l3 N2), .int .i64 (S2)]) (.bool true) (fun _ => rfl) rfl rfl (eqd_run (self6 _ _ _ _ _ _) _ _ _) rfl ?_
  refine wl_pick (.tmp 46) (.tmp 49) (.const (.bool false)) true (.bool true) (fun _ => rfl) rfl rfl rfl ?_
  refine wl_mv (.tmp 50) (.bool true) (fun _ => rfl) rfl rfl ?_
  refine wl_mv (.tmp 10) (.int .i64 (E2)) (fun _ => rfl) rfl rfl ?_
  refine wl_mv (.tmp 12) (.int .i64 (E2)) (fun _ => rfl) rfl rfl ?_
  refine wl_bin (fun x y => do eqGuard .eql 30 (.tmp 52) (.tmp 53) x y; binOp .eql 30 x y) (.tmp 52) (.tmp 53) (.int .i64 (E2)) (.int .i64 (E2)) (.bool true) (fun _ => rfl) rfl rfl (eqE_run (beq_self_eq_true _) _ _ _) rfl ?_
  refine wl_pick (.tmp 51) (.tmp 54) (.const (.bool false)) true (.bool true) (fun _ => rfl) rfl rfl rfl ?_
  refine wl_mv (.tmp 55) (.bool true) (fun _ => rfl) rfl rfl ?_
  refine w_nil ?_
  refine xn_then ?_
  refine w_ret ?_
  exact w_ret1 _ (.bool true) rfl rfl ⟨rfl, M⟩
theorem dparses_n (s : ByteArray) (z : Int) (w : World) (hsz : s.size ≤ 140737488355328) : Calls Tryd.prog 4 #[.string s, .int .i64 z] w fun e w' => e = .returned (.bool true) ∧ Mw w w' := by
  obtain ⟨b, N, E, k, _, _, _, _, _, h3, h4⟩ := parse_both s hsz
  obtain ⟨c, N2, S2, E2, h5, h6⟩ := parseAt_both s z hsz
  exact dparses_w s z w b c N E N2 S2 E2 k h3 h4 h5 h6
end Go.Proofs.YtdcojpbgijkmgaaDoor.V
/-
  An array of four limbs that came in: how it is opened and shut.
-/
namespace Go.Proofs.YtdcojpbgijkmgaaDoor
open Go.ChangeShapes Go.WideShapes Go.ChangeAt Go.RowKit
theorem Tryd.own : ownKnob Tryd.prog.godebug = none := by kernel_rfl
theorem Tryd.cl22 : Tryd.prog.cellsOf 22 = 1 := by kernel_rfl
theorem Tryd.cl24 : Tryd.prog.cellsOf 24 = 4 := by kernel_rfl
theorem wf_u1 {x : Int} (h : (Lit.int .u64 x).wf = true) : U1 x := by
  simp [Lit.wf, IntKind.min, IntKind.max, IntKind.signed, IntKind.bits] at h
  exact ⟨by omega, by omega⟩
set_option maxRecDepth 100000 in
theorem open_nat {H : Type} {enc : TypeId × Value → H} {W : World} {base : Nat} {v : Value} {d : DataW H} {p : List MemPlace} (hv : Value.okWide Tryd.prog W .any base 24 v) (h : DataW.Trod enc Tryd.prog W 0 (fun _ => true) true 24 v d p) :
    ∃ x0 x1 x2 x3 : Int, v = .agg #[.int .u64 x0, .int .u64 x1, .int .u64 x2, .int .u64 x3] ∧ d = .agg [.lit (.int .u64 x0), .lit (.int .u64 x1), .lit (.int .u64 x2), .lit (.int .u64 x3)] ∧ p = [] ∧ U4 x0 x1 x2 x3 ∧
      ∀ (W' : World) (sp : Nat → Bool), DataW.Trod enc Tryd.prog W' 0 sp true 24 v d [] := by
  obtain ⟨cs, rfl, hsz, _⟩ : ∃ cs, v = .agg cs ∧ cs.size = Tryd.prog.cellsOf 24 ∧ Row.okWide Tryd.prog W .any base 24 cs := by
    simpa [Value.okWide, Tryd.underlying24] using hv
  rw [Tryd.cl24] at hsz
  obtain ⟨c0, c1, c2, c3, rfl⟩ := Go.Joins.array4 hsz
  obtain ⟨fuel, hf⟩ := h
  obtain ⟨xs, m, rfl, hx, _, hn, hi⟩ := DataW.trod_array Tryd.underlying24 hf
  have i0 := hi 0 (by decide)
  have i1 := hi 1 (by decide)
  have i2 := hi 2 (by decide)
  have i3 := hi 3 (by decide)
  simp only [Tryd.cl22, Value.cells] at i0 i1 i2 i3
  obtain ⟨y0, y1, y2, y3, rfl⟩ : ∃ y0 y1 y2 y3, xs = [y0, y1, y2, y3] := by
    match xs, hn with
    | [a, b, c, d], _ => exact ⟨a, b, c, d, rfl⟩
  simp at i0 i1 i2 i3
  obtain ⟨x0, e0, rfl, w0⟩ := DataW.trod_int Tryd.underlying22 i0
  obtain ⟨x1, e1, rfl, w1⟩ := DataW.trod_int Tryd.underlying22 i1
  obtain ⟨x2, e2, rfl, w2⟩ := DataW.trod_int Tryd.underlying22 i2
  obtain ⟨x3, e3, rfl, w3⟩ := DataW.trod_int Tryd.underlying22 i3
  simp at e0 e1 e2 e3
  subst e0 e1 e2 e3
  simp at hx
  obtain ⟨rfl, rfl⟩ := hx
  refine ⟨x0, x1, x2, x3, rfl, rfl, rfl, ⟨wf_u1 w0, wf_u1 w1, wf_u1 w2, wf_u1 w3⟩, fun W' sp => ⟨2, ?_⟩⟩
  simp [DataW.trod, Value.cells, Tryd.underlying24, Tryd.underlying22, Tryd.cl24, Tryd.cl22, w0, w1, w2, w3, show List.range 4 = [0, 1, 2, 3] from rfl]
end Go.Proofs.YtdcojpbgijkmgaaDoor
/-
  A decimal that came in: how it is opened and shut.
-/
namespace Go.Proofs.YtdcojpbgijkmgaaDoor
open Go.ChangeShapes Go.WideShapes Go.ChangeAt Go.RowKit
theorem Tryd.cl40 : Tryd.prog.cellsOf 26 = 6 := by kernel_rfl
theorem Tryd.cl4 : Tryd.prog.cellsOf 4 = 1 := by kernel_rfl
theorem Tryd.cl3 : Tryd.prog.cellsOf 3 = 1 := by kernel_rfl
theorem wf_i1 {x : Int} (h : (Lit.int .i64 x).wf = true) : -9223372036854775808 ≤ x ∧ x < 9223372036854775808 := by
  simp [Lit.wf, IntKind.min, IntKind.max, IntKind.signed, IntKind.bits] at h
  exact ⟨by omega, by omega⟩
set_option maxRecDepth 100000 in
theorem open_dec {H : Type} {enc : TypeId × Value → H} {W : World} {base : Nat} {v : Value} {d : DataW H} {p : List MemPlace} (hv : Value.okWide Tryd.prog W .any base 26 v) (h : DataW.Trod enc Tryd.prog W 0 (fun _ => true) true 26 v d p) :
    ∃ (b : Bool) (x0 x1 x2 x3 s : Int), v = .agg #[.bool b, .int .u64 x0, .int .u64 x1, .int .u64 x2, .int .u64 x3, .int .i64 s] ∧ p = [] ∧ U4 x0 x1 x2 x3 ∧ (-9223372036854775808 ≤ s ∧ s < 9223372036854775808) ∧
      ∀ (W' : World) (sp : Nat → Bool), DataW.Trod enc Tryd.prog W' 0 sp true 26 v d [] := by
  obtain ⟨cs, rfl, hsz, _⟩ : ∃ cs, v = .agg cs ∧ cs.size = Tryd.prog.cellsOf 26 ∧ Row.okWide Tryd.prog W .any base 26 cs := by
    simpa [Value.okWide, Tryd.underlying26] using hv
  rw [Tryd.cl40] at hsz
  obtain ⟨c0, c1, c2, c3, c4, c5, rfl⟩ : ∃ c0 c1 c2 c3 c4 c5, cs = #[c0, c1, c2, c3, c4, c5] := by
    obtain ⟨l⟩ := cs
    match l, hsz with
    | [a, b, c, d, e, f], _ => exact ⟨a, b, c, d, e, f, rfl⟩
  obtain ⟨fuel, hf⟩ := h
  obtain ⟨xs, n, rfl, hx, _, hlen, hi⟩ := DataW.trod_struct Tryd.underlying26 hf
  obtain ⟨y0, y1, y2, rfl⟩ : ∃ y0 y1 y2, xs = [y0, y1, y2] := by
    match xs, hlen with
    | [a, b, c], _ => exact ⟨a, b, c, rfl⟩
  have i0 := hi 0 _ rfl
  have i1 := hi 1 _ rfl
  have i2 := hi 2 _ rfl
  simp [Tryd.cl4, Tryd.cl24, Tryd.cl3, Value.cells] at i0 i1 i2
  obtain ⟨b, e0, rfl⟩ := DataW.trod_bool Tryd.underlying4 i0
  obtain ⟨s, e5, rfl, w5⟩ := DataW.trod_int Tryd.underlying3 i2
  obtain ⟨zs, m, rfl, hz, _, hn, hj⟩ := DataW.trod_array Tryd.underlying24 i1
  have j0 := hj 0 (by decide)
  have j1 := hj 1 (by decide)
  have j2 := hj 2 (by decide)
  have j3 := hj 3 (by decide)
  simp only [Tryd.cl22] at j0 j1 j2 j3
  obtain ⟨z0, z1, z2, z3, rfl⟩ : ∃ z0 z1 z2 z3, zs = [z0, z1, z2, z3] := by
    match zs, hn with
    | [a, b, c, d], _ => exact ⟨a, b, c, d, rfl⟩
  simp at j0 j1 j2 j3
  obtain ⟨x0, e1, rfl, w0⟩ := DataW.trod_int Tryd.underlying22 j0
  obtain ⟨x1, e2, rfl, w1⟩ := DataW.trod_int Tryd.underlying22 j1
  obtain ⟨x2, e3, rfl, w2⟩ := DataW.trod_int Tryd.underlying22 j2
  obtain ⟨x3, e4, rfl, w3⟩ := DataW.trod_int Tryd.underlying22 j3
  simp at e0 e1 e2 e3 e4 e5
  subst e0 e1 e2 e3 e4 e5
  subst hz
  simp at hx
  obtain ⟨rfl, rfl⟩ := hx
  refine ⟨b, x0, x1, x2, x3, s, rfl, rfl, ⟨wf_u1 w0, wf_u1 w1, wf_u1 w2, wf_u1 w3⟩, wf_i1 w5, fun W' sp => ⟨3, ?_⟩⟩
  simp [DataW.trod, Value.cells, Tryd.underlying26, Tryd.underlying24, Tryd.underlying22, Tryd.underlying4, Tryd.underlying3, Tryd.cl40, Tryd.cl24, Tryd.cl22, Tryd.cl4, Tryd.cl3, w0, w1, w2, w3, w5, show List.range 4 = [0, 1, 2, 3] from rfl]
end Go.Proofs.YtdcojpbgijkmgaaDoor
/-
  A whole number and a decimal that came in.
-/
namespace Go.Proofs.YtdcojpbgijkmgaaDoor
open Go.ChangeShapes Go.WideShapes Go.ChangeAt Go.RowKit
set_option maxRecDepth 100000 in
theorem open_i64 {H : Type} {enc : TypeId × Value → H} {W : World} {base : Nat} {T : TypeId} {v : Value} {d : DataW H} {p : List MemPlace} (hu : Tryd.prog.underlying T = some (.int .i64)) (hv : Value.okWide Tryd.prog W .any base T v) (h : DataW.Trod enc Tryd.prog W 0 (fun _ => true) true T v d p) :
    ∃ x : Int, v = .int .i64 x ∧ p = [] ∧ (-9223372036854775808 ≤ x ∧ x < 9223372036854775808) ∧
      ∀ (W' : World) (sp : Nat → Bool), DataW.Trod enc Tryd.prog W' 0 sp true T v d [] := by
  obtain ⟨n, rfl, rfl, rfl, hw⟩ := open_int hu hv h
  exact ⟨n, rfl, rfl, wf_i1 hw, fun W' sp => shut_int hu hw⟩
theorem dc_vl {b : Bool} {s x0 x1 x2 x3 : Int} (h : U4 x0 x1 x2 x3) : dc b (vl x0 x1 x2 x3) s = .agg #[.bool b, .int .u64 x0, .int .u64 x1, .int .u64 x2, .int .u64 x3, .int .i64 s] := by
  have := nv_vl h
  simp at this
  obtain ⟨a, b, c, d⟩ := this
  unfold dc
  rw [a, b, c, d]
end Go.Proofs.YtdcojpbgijkmgaaDoor
/-
  A world in which the library's two tables lie; the end of a row over a law that leaves what was there as it was.
-/
namespace Go.Proofs.YtdcojpbgijkmgaaDoor
open Go.ChangeShapes Go.WideShapes Go.ChangeAt Go.RowKit Go.ChangeMaps
def firstCells : Array Value := #[.int .u8 240, .int .u8 240, .int .u8 240, .int .u8 240, .int .u8 240, .int .u8 240, .int .u8 240, .int .u8 240, .int .u8 240, .int .u8 240, .int .u8 240, .int .u8 240, .int .u8 240, .int .u8 240, .int .u8 240, .int .u8 240, .int .u8 240, .int .u8 240, .int .u8 240, .int .u8 240, .int .u8 240, .int .u8 240, .int .u8 240, .int .u8 240, .int .u8 240, .int .u8 240, .int .u8 240, .int .u8 240, .int .u8 240, .int .u8 240, .int .u8 240, .int .u8 240, .int .u8 240, .int .u8 240, .int .u8 240, .int .u8 240, .int .u8 240, .int .u8 240, .int .u8 240, .int .u8 240, .int .u8 240, .int .u8 240, .int .u8 240, .int .u8 240, .int .u8 240, .int .u8 240, .int .u8 240, .int .u8 240, .int .u8 240, .int .u8 240, .int .u8 240, .int .u8 240, .int .u8 240, .int .u8 240, .int .u8 240, .int .u8 240, .int .u8 240, .int .u8 240, .int .u8 240, .int .u8 240, .int .u8 240, .int .u8 240, .int .u8 240, .int .u8 240, .int .u8 240, .int .u8 240, .int .u8 240, .int .u8 240, .int .u8 240, .int .u8 240, .int .u8 240, .int .u8 240, .int .u8 240, .int .u8 240, .int .u8 240, .int .u8 240, .int .u8 240, .int .u8 240, .int .u8 240, .int .u8 240, .int .u8 240, .int .u8 240, .int .u8 240, .int .u8 240, .int .u8 240, .int .u8 240, .int .u8 240, .int .u8 240, .int .u8 240, .int .u8 240, .int .u8 240, .int .u8 240, .int .u8 240, .int .u8 240, .int .u8 240, .int .u8 240, .int .u8 240, .int .u8 240, .int .u8 240, .int .u8 240, .int .u8 240, .int .u8 240, .int .u8 240, .int .u8 240, .int .u8 240, .int .u8 240, .int .u8 240, .int .u8 240, .int .u8 240, .int .u8 240, .int .u8 240, .int .u8 240, .int .u8 240, .int .u8 240, .int .u8 240, .int .u8 240, .int .u8 240, .int .u8 240, .int .u8 240, .int .u8 240, .int .u8 240, .int .u8 240, .int .u8 240, .int .u8 240, .int .u8 240, .int .u8 240, .int .u8 240, .int .u8 240, .int .u8 241, .int .u8 241, .int .u8 241, .int .u8 241, .int .u8 241, .int .u8 241, .int .u8 241, .int .u8 241, .int .u8 241, .int .u8 241, .int .u8 241, .int .u8 241, .int .u8 241, .int .u8 241, .int .u8 241, .int .u8 241, .int .u8 241, .int .u8 241, .int .u8 241, .int .u8 241, .int .u8 241, .int .u8 241, .int .u8 241, .int .u8 241, .int .u8 241, .int .u8 241, .int .u8 241, .int .u8 241, .int .u8 241, .int .u8 241, .int .u8 241, .int .u8 241, .int .u8 241, .int .u8 241, .int .u8 241, .int .u8 241, .int .u8 241, .int .u8 241, .int .u8 241, .int .u8 241, .int .u8 241, .int .u8 241, .int .u8 241, .int .u8 241, .int .u8 241, .int .u8 241, .int .u8 241, .int .u8 241, .int .u8 241, .int .u8 241, .int .u8 241, .int .u8 241, .int .u8 241, .int .u8 241, .int .u8 241, .int .u8 241, .int .u8 241, .int .u8 241, .int .u8 241, .int .u8 241, .int .u8 241, .int .u8 241, .int .u8 241, .int .u8 241, .int .u8 241, .int .u8 241, .int .u8 2, .int .u8 2, .int .u8 2, .int .u8 2, .int .u8 2, .int .u8 2, .int .u8 2, .int .u8 2, .int .u8 2, .int .u8 2, .int .u8 2, .int .u8 2, .int .u8 2, .int .u8 2, .int .u8 2, .int .u8 2, .int .u8 2, .int .u8 2, .int .u8 2, .int .u8 2, .int .u8 2, .int .u8 2, .int .u8 2, .int .u8 2, .int .u8 2, .int .u8 2, .int .u8 2, .int .u8 2, .int .u8 2, .int .u8 2, .int .u8 19, .int .u8 3, .int .u8 3, .int .u8 3, .int .u8 3, .int .u8 3, .int .u8 3, .int .u8 3, .int .u8 3, .int .u8 3, .int .u8 3, .int .u8 3, .int .u8 3, .int .u8 35, .int .u8 3, .int .u8 3, .int .u8 52, .int .u8 4, .int .u8 4, .int .u8 4, .int .u8 68, .int .u8 241, .int .u8 241, .int .u8 241, .int .u8 241, .int .u8 241, .int .u8 241, .int .u8 241, .int .u8 241, .int .u8 241, .int .u8 241, .int .u8 241]
def acceptCells : Array Value := #[.int .u8 128, .int .u8 191, .int .u8 160, .int .u8 191, .int .u8 128, .int .u8 159, .int .u8 144, .int .u8 191, .int .u8 128, .int .u8 143, .int .u8 0, .int .u8 0, .int .u8 0, .int .u8 0, .int .u8 0, .int .u8 0, .int .u8 0, .int .u8 0, .int .u8 0, .int .u8 0, .int .u8 0, .int .u8 0, .int .u8 0, .int .u8 0, .int .u8 0, .int .u8 0, .int .u8 0, .int .u8 0, .int .u8 0, .int .u8 0, .int .u8 0, .int .u8 0]
def layW (w0 : World) : World :=
  { w0 with heap := (w0.heap.modify 3 fun
      | .cells _ t frozen => .cells firstCells t frozen
      | o => o).modify 4 fun
      | .cells _ t frozen => .cells acceptCells t frozen
      | o => o }
set_option maxRecDepth 100000 in
theorem laidWorld_met (os : Os) (args : Array Value) : laidMetH Tryd.prog Rows.dectextTextsRow.laid ((layW (World.holding Tryd.prog os ⟨#[], #[], []⟩)).forCall (fun _ _ => 0) ⟨#[], args, []⟩).memory := by
  show laidMet Tryd.prog [("unicode/utf8.acceptRanges", Rows.laid_unicode_utf8_acceptRanges), ("unicode/utf8.first", Rows.laid_unicode_utf8_first)] _
  exact (LaidIn.of_run [3, 4] 8 (by kernel_rfl) (by kernel_rfl) (by kernel_rfl) (by kernel_rfl)).met
/-- The end of a row: no argument has memory of its own, nothing that was there has turned. -/
theorem post_mw {H : Type} {enc : TypeId × Value → H} {P : Program} {f : Func} {s : ChangeSpec} {apart fresh handsOn : Bool} {W W' : World} {args : Array Value} {v : Value} {ds gs : List (DataW H)}
    (hW : DataW.Whole enc P f.params.toList s.vars apart W args.toList ds gs [])
    (hres : ∀ (b : Nat) (sp : Nat → Bool) (hd : Bool), DataW.TrodAll enc P W' b sp hd f.resultTypes.toList (v.resultList f.resultTypes.size) (s.fn H (ds ++ gs)).results [])
    (hargs : ∀ sp : Nat → Bool, DataW.TrodAll enc P W' 0 sp true f.params.toList args.toList (s.fn H (ds ++ gs)).args [])
    (hvars : ∀ sp : Nat → Bool, DataW.TrodVars enc P W' sp s.vars (s.fn H (ds ++ gs)).vars []) (hk : V.Mw W W') :
    s.post enc P f apart fresh handsOn false W args v W' :=
  ⟨ds, gs, [], [], [], [], hW, hres _ _ _, hargs _, hvars _, Below.frame hk _, fun h => by cases h⟩
end Go.Proofs.YtdcojpbgijkmgaaDoor
namespace Go.Proofs.YtdcojpbgijkmgaaDoor
open Go.ChangeShapes Go.WideShapes Go.ChangeAt Go.RowKit Go.ChangeMaps
set_option maxHeartbeats 1000000 in
set_option maxRecDepth 100000 in
theorem dectextParses_lifted (os : Os) (started : os.Started) (H : Type) (enc : TypeId × Value → H) :
    ReturnsInHanded {} Tryd.checked os 4 .any (fun w args => (Rows.dectextParsesSpec.pre enc Tryd.prog Tryd.f4 [] false w args ∧ laidMetH Tryd.prog Rows.dectextParsesRow.laid w) ∧ sizedMet enc Tryd.prog Tryd.f4 (OpenSpec.ofChange Rows.dectextParsesSpec) false w args)
      (Rows.dectextParsesSpec.post enc Tryd.prog Tryd.f4 false true false false) := by
  refine returnsInHanded_of_change_and (C := Tryd.checked) (X := fun w _ => laidMetH Tryd.prog Rows.dectextParsesRow.laid w) (fun _ _ _ hh h => h.of_heap hh) Tryd.own started (by kernel_rfl) Tryd.func4
    (ChangeSpec.witness_at (enc := enc) (C := Tryd.checked) (os := os) (X := fun w _ => laidMetH Tryd.prog Rows.dectextParsesRow.laid w) false (layW (World.holding Tryd.prog os ⟨#[], #[], []⟩)) #[.string ⟨#[]⟩, .int .i64 0] 8 rfl (by kernel_rfl) (by kernel_rfl) (by kernel_rfl) (by kernel_rfl) (by kernel_rfl) (laidWorld_met os _)) ?_
  intro W base args ds gs before hval0 hW _ hsz0 hL _
  have hval : ∀ (j : Nat) t v, Tryd.f4.params[j]? = some t → args[j]? = some v → Value.okWide Tryd.prog W .any base t v := hval0
  have hW' := hW
  obtain ⟨p, q, hA0, hV, rfl, hfz, hnd⟩ := hW
  have hA : DataW.TrodAll enc Tryd.prog W 0 (fun _ => true) true Tryd.f4.params.toList args.toList ds p := hA0
  rw [Tryd.params4] at hA hval
  obtain ⟨v0, v1, d0, d1, p0, p1, rfl, rfl, rfl, h0, h1⟩ := trodAll_two hA
  obtain ⟨rfl, rfl⟩ := trodVars_none hV
  obtain ⟨s0, rfl, rfl, rfl, sb0⟩ := open_string Tryd.underlying9 (hval 0 9 v0 rfl rfl) h0
  have r0 : ∀ (W' : World) (sp : Nat → Bool), DataW.Trod enc Tryd.prog W' 0 sp true 9 (.string s0) (.lit (.string s0.data.toList)) [] := fun _ _ => shut_string Tryd.underlying9 sb0
  have z0 : s0.size ≤ 140737488355328 := by
    have h := sized_string hsz0 (j := 0) (t := 9) (by kernel_rfl) rfl
    rw [by8_len] at h
    unfold reachBytes at h
    omega
  obtain ⟨x1, rfl, rfl, sx1, r1⟩ := open_i64 Tryd.underlying3 (hval 1 3 v1 rfl rfl) h1
  clear hA0 hval0
  simp only [List.append_nil] at hW'
  refine (V.dparses_n s0 x1 W z0).mono fun e W' ⟨he, hg⟩ => ?_
  subst he
  exact ⟨_, rfl, post_mw hW' (fun _ _ _ => trodAll_mk1 (shut_bool Tryd.underlying4 _)) (fun sp => trodAll_mk2 (r0 _ sp) (r1 _ sp)) (fun _ => rfl) hg⟩
set_option maxRecDepth 100000 in
theorem dectextParses_row : Rows.DectextParsesSaid :=
  OpenClaim.holds_of_wide 4 Tryd.f4 rfl rfl rfl rfl rfl rfl rfl ⟨rfl, rfl, rfl, rfl, rfl⟩ rfl rfl rfl rfl rfl (by kernel_rfl) Tryd.func4 (by kernel_rfl)
    (of_decide_eq_true (by kernel_rfl)) (by unfold Func.isWrapper; rw [if_neg (of_decide_eq_false (by kernel_rfl))]; exact ⟨rfl, rfl⟩)
    (fun os started H enc _ => dectextParses_lifted os started H enc)
set_option maxRecDepth 100000 in
theorem dectextParses_holds : Rows.DectextParsesCardSaid :=
  Claim7.holds_tied_plain_at .later [] [.data, .pinned] true (true, "ad9bf9484b846ad32c643a4ddb69c760fddb7cd4ef7f69a1332e2087753a176c") false
    dectextParses_row (fun _ h => by cases h) (by kernel_rfl) (fun _ h => by cases h) dectextParses_row_tie rfl ⟨rfl, rfl⟩ (by kernel_rfl) rfl
    (fun f fn hf hfn => by
      obtain rfl : f = 4 := Option.some.inj ((show Tryd.prog.funcNamed "excise/exciselaw03.DectextParses" = some 4 by kernel_rfl).symm.trans hf) |>.symm
      obtain rfl : fn = Tryd.f4 := (Option.some.inj (Tryd.func4.symm.trans hfn)).symm
      exact ⟨by kernel_rfl, fun j t ht => by
        rw [Tryd.params4] at ht
        have h3 : t = 9 ∨ t = 3 := by
          rcases j with _ | _ | j
          · left; simpa using ht.symm
          · right; simpa using ht.symm
          · simp at ht
        rcases h3 with rfl | rfl
        · exact (show Tryd.prog.wantsStandIn 9 = false by kernel_rfl)
        · exact (show Tryd.prog.wantsStandIn 3 = false by kernel_rfl)⟩)
    (by kernel_rfl)
#print axioms dectextParses_holds
end Go.Proofs.YtdcojpbgijkmgaaDoor
