/-
  A part of the proof.
-/
import Derived.Test.YtogomodbcjpfiaaGreatDoorKa19
import Derived.Test.YtogomodbcjpfiaaGreatDoorKa18
import Derived.Test.YtogomodbcjpfiaaGreatDoorKa17
import Derived.Test.YtogomodbcjpfiaaGreatDoorKb6
import Derived.Test.YtogomodbcjpfiaaGreatDoorKa16
import Derived.Test.YtogomodbcjpfiaaGreatDoorKa15
import Derived.Test.YtogomodbcjpfiaaGreatDoorKa14
import Derived.Test.YtogomodbcjpfiaaGreatDoorKa1
import Derived.Shelf.Strings.Builder1
import Derived.Shelf.Strings.Builder2
import Derived.Shelf.Small.Bits
import Derived.Shelf.Small.Wraps
import Derived.Shelf.Strings.BuilderF
import Derived.Shelf.Strings.BuilderK
import Derived.Shelf.Strings.Prefix
import Derived.Shelf.Bits.Mul64
import Derived.Shelf.Strings.Repeat
import Derived.Test.YtogomodbcjpfiaaGreatDoorProg
import Derived.Shelf.Strconv.Itoa0
import Derived.Test.YtogomodbcjpfiaaGreatDoorKb5
import Derived.Test.YtogomodbcjpfiaaGreatDoorKb4
import Derived.Test.YtogomodbcjpfiaaGreatDoorKb3
import Derived.Test.YtogomodbcjpfiaaGreatDoorKa11
import Derived.Test.YtogomodbcjpfiaaGreatDoorKa9
import Derived.Test.YtogomodbcjpfiaaGreatDoorKa4
import Derived.Test.YtogomodbcjpfiaaGreatDoorKb1
import Derived.Test.YtogomodbcjpfiaaGreatDoorKa3
import Derived.Test.YtogomodbcjpfiaaGreatDoorKa2
import Derived.RegionTactic
import Derived.WalkKit
import Derived.WalkSpells
import Derived.Handy
import Derived.BigQuiet
import Derived.Deep.RegionHeld3
import Derived.Deep.MidRow
import Derived.BigCall
import Derived.Test.YtogomodbcjpfiaaGreatDoorKa8
import Derived.Test.YtogomodbcjpfiaaGreatDoorKb2
import Derived.Test.YtogomodbcjpfiaaGreatDoorKa5
import Derived.Deep.CutBlock
import Derived.Deep.CutRange
import Derived.Test.YtogomodbcjpfiaaGreatDoorKa7
import Derived.Test.YtogomodbcjpfiaaGreatDoorKa6
import Derived.ChangeKeysEq
import Derived.ScopeJumps
import Derived.WalkMore
import Derived.Laws.StructEq
import Derived.Test.YtogomodbcjpfiaaGreatDoorKa10
import Derived.Test.YtogomodbcjpfiaaGreatDoorKa13
import Derived.Test.YtogomodbcjpfiaaGreatDoorKa12
import Derived.Lib.CutLaws
import Derived.Lib.IndexBytes
import Derived.Maps.OwnSet
import Derived.WalkArith
import Derived.StringKeys
namespace Go.Proofs.YtogomodbcjpfiaaGreatDoor
open Go.RowKit
theorem rchk_n (x : VL) (w : World) (hx : x.ok) : Calls Tryz.prog 14 #[x.v] w fun e9 w' => e9 = .returned (.int .i64 (ckI x)) ∧ Mo w w' := by
 refine w_enter 63 Tryz.func14 Tryz.ntmps14 rfl rfl ?_
 have M : Mo w w := Mo.refl _
 refine w_seq (w_reg ?_)
 refine wl_box 28 (.tmp 0) _ (((x.cells).toArray)) rfl rfl (fun _ => by kernel_rfl) rfl ?_
 intro k1 u1 hk hz hq Q1
 have N_k1 : w.heap.size ≤ k1 := by have := M.size; omega
 replace M := M.trans hq
 clear hk hz hq
 refine wl_m (.const (.int .i64 (0))) (.int .i64 (0)) ?_
 refine w_nil (xn_then (w_seq (w_reg ?_)))
 refine wl_m (.const (.bool false)) (.bool false) ?_
 refine w_nil (xn_then (w_seq (w_seq (w_reg ?_))))
 refine wl_f 28 0 (.tmp 1) (pt k1 0) (pt k1 0) ?_
 refine wl_l 3 (.tmp 4) (pt k1 0) (.int .i64 (x.k)) (run_one Q1 3 0 rfl Tryz.underlying3 rfl) ?_
 refine w_nil (xn_then (w_block (w_seq (w_reg ?_))))
 cases hf0 : decide (x.k = 0) with
 | true =>
  have hf0p := of_decide_eq_true hf0
  refine wl_b .eql 3 (.tmp 5) (.const (.int .i64 (0))) (.int .i64 (x.k)) (.int .i64 (0)) (.bool true) (eq3 hf0 _ _ _) ?_
  refine wl_m (.tmp 7) (.bool true) ?_
  refine w_nil (xn_then (w_condT rfl (w_reg ?_)))
  refine wl_l 28 (.tmp 1) (pt k1 0) (.agg (x.cells).toArray) (run_row Q1 28 0 10 (x.cells) rfl Tryz.underlying28 rfl sz28) ?_
  refine wl_build 28 [] [] (.agg #[.int .i64 0, .bool false, .int .u64 0, .int .u64 0, .int .u64 0, .int .u64 0, .int .i64 0, .bool false, .string ⟨#[]⟩, .int .i64 0]) rfl rfl (by kernel_rfl) rfl ?_
  cases hf1 : svv x vBl with
  | true =>
   refine wl_b .eql 28 (.tmp 8) (.tmp 9) (.agg (x.cells).toArray) (.agg #[.int .i64 0, .bool false, .int .u64 0, .int .u64 0, .int .u64 0, .int .u64 0, .int .i64 0, .bool false, .string ⟨#[]⟩, .int .i64 0]) (.bool true) (eqW hf1 _ _ _) ?_
   refine wl_m (.tmp 10) (.bool true) ?_
   refine w_nil (xn_blk (xn_then (w_seq (w_seq (w_reg ?_)))))
   refine wl_m (.tmp 3) (.bool true) ?_
   refine wl_un (fun v => Op.unary .not v) (.tmp 61) (.bool true) (.bool false) (fun _ => rfl) rfl (by kernel_rfl) rfl ?_
   refine w_nil (xn_then (w_condF rfl (w_skip (xn_then (w_seq (w_reg ?_))))))
   refine wl_m (.const (.int .i64 (0))) (.int .i64 (0)) ?_
   refine w_nil (xn_then (w_ret ?_))
   exact w_ret1 _ (.int .i64 (0)) rfl rfl ⟨by simp [ckI, ckv, bareV, inB, hf0p, hf1] <;> omega, M⟩
  | false =>
   refine wl_b .eql 28 (.tmp 8) (.tmp 9) (.agg (x.cells).toArray) (.agg #[.int .i64 0, .bool false, .int .u64 0, .int .u64 0, .int .u64 0, .int .u64 0, .int .i64 0, .bool false, .string ⟨#[]⟩, .int .i64 0]) (.bool false) (eqW hf1 _ _ _) ?_
   refine wl_m (.tmp 10) (.bool false) ?_
   refine w_nil (xn_blk (xn_then (w_seq (w_seq (w_reg ?_)))))
   refine wl_m (.tmp 3) (.bool false) ?_
   refine wl_un (fun v => Op.unary .not v) (.tmp 61) (.bool false) (.bool true) (fun _ => rfl) rfl (by kernel_rfl) rfl ?_
   refine w_nil (xn_then (w_condT rfl (w_seq (w_reg ?_))))
   refine wl_m (.const (.int .i64 (1))) (.int .i64 (1)) ?_
   refine w_nil (xn_then (w_ret (xr_then ?_)))
   exact w_ret1 _ (.int .i64 (1)) rfl rfl ⟨by simp [ckI, ckv, bareV, inB, hf0p, hf1] <;> omega, M⟩
 | false =>
  have hf0p := of_decide_eq_false hf0
  refine wl_b .eql 3 (.tmp 5) (.const (.int .i64 (0))) (.int .i64 (x.k)) (.int .i64 (0)) (.bool false) (eq3 hf0 _ _ _) ?_
  refine wl_m (.tmp 7) (.bool false) ?_
  refine w_nil (xn_then (w_condF rfl (w_seq (w_reg ?_))))
  cases hf1 : decide (x.k = 1) with
  | true =>
   have hf1p := of_decide_eq_true hf1
   refine wl_b .eql 3 (.tmp 5) (.const (.int .i64 (1))) (.int .i64 (x.k)) (.int .i64 (1)) (.bool true) (eq3 hf1 _ _ _) ?_
   refine wl_m (.tmp 12) (.bool true) ?_
   refine w_nil (xn_then (w_condT rfl (w_reg ?_)))
   refine wl_l 28 (.tmp 1) (pt k1 0) (.agg (x.cells).toArray) (run_row Q1 28 0 10 (x.cells) rfl Tryz.underlying28 rfl sz28) ?_
   refine wl_f 28 1 (.tmp 1) (pt k1 0) (pt k1 1) ?_
   refine wl_l 26 (.tmp 14) (pt k1 1) (.agg #[.bool x.b, .int .u64 (l0 x.n), .int .u64 (l1 x.n), .int .u64 (l2 x.n), .int .u64 (l3 x.n), .int .i64 x.s]) (run_row Q1 26 1 6 _ rfl Tryz.underlying26 rfl sz26) ?_
   refine wl_build 28 [(0, (.const (.int .i64 (1)))), (1, (.tmp 15))] [(0, .int .i64 (1)), (1, .agg #[.bool x.b, .int .u64 (l0 x.n), .int .u64 (l1 x.n), .int .u64 (l2 x.n), .int .u64 (l3 x.n), .int .i64 x.s])] (.agg #[.int .i64 (1), .bool x.b, .int .u64 (l0 x.n), .int .u64 (l1 x.n), .int .u64 (l2 x.n), .int .u64 (l3 x.n), .int .i64 x.s, .bool false, .string ⟨#[]⟩, .int .i64 0]) rfl rfl (by kernel_rfl) rfl ?_
   cases hf2 : svv x (vNu x.b x.n x.s) with
   | true =>
    refine wl_b .eql 28 (.tmp 13) (.tmp 16) (.agg (x.cells).toArray) (.agg #[.int .i64 (1), .bool x.b, .int .u64 (l0 x.n), .int .u64 (l1 x.n), .int .u64 (l2 x.n), .int .u64 (l3 x.n), .int .i64 x.s, .bool false, .string ⟨#[]⟩, .int .i64 0]) (.bool true) (eqW hf2 _ _ _) ?_
    refine wl_m (.tmp 17) (.bool true) ?_
    refine wl_f 28 1 (.tmp 1) (pt k1 0) (pt k1 1) ?_
    refine wl_l 26 (.tmp 19) (pt k1 1) (.agg #[.bool x.b, .int .u64 (l0 x.n), .int .u64 (l1 x.n), .int .u64 (l2 x.n), .int .u64 (l3 x.n), .int .i64 x.s]) (run_row Q1 26 1 6 _ rfl Tryz.underlying26 rfl sz26) ?_
    refine wl_call 42 [(.tmp 20)] _ [.agg #[.bool x.b, .int .u64 (l0 x.n), .int .u64 (l1 x.n), .int .u64 (l2 x.n), .int .u64 (l3 x.n), .int .i64 x.s]] (.int .i64 (ck x.b x.n x.s)) rfl rfl (fun _ _ => by kernel_rfl) (rcheck_n x.b x.n x.s _ hx.1 hx.2) rfl ?_
    intro u2 hq
    replace Q1 := Q1.mo hq
    replace M := M.trans hq
    clear hq
    cases hf3 : decide (ck x.b x.n x.s = 0) with
    | true =>
     have hf3p := of_decide_eq_true hf3
     refine wl_b .eql 32 (.tmp 21) (.const (.int .i64 (0))) (.int .i64 (ck x.b x.n x.s)) (.int .i64 (0)) (.bool true) (eq34 hf3 _ _ _) ?_
     refine wl_pick (.tmp 18) (.tmp 22) (.const (.bool false)) true (.bool true) (fun _ => rfl) rfl rfl rfl ?_
     refine wl_m (.tmp 23) (.bool true) ?_
     refine w_nil (xn_blk (xn_then (w_seq (w_seq (w_reg ?_)))))
     refine wl_m (.tmp 3) (.bool true) ?_
     refine wl_un (fun v => Op.unary .not v) (.tmp 61) (.bool true) (.bool false) (fun _ => rfl) rfl (by kernel_rfl) rfl ?_
     refine w_nil (xn_then (w_condF rfl (w_skip (xn_then (w_seq (w_reg ?_))))))
     refine wl_m (.const (.int .i64 (0))) (.int .i64 (0)) ?_
     refine w_nil (xn_then (w_ret ?_))
     exact w_ret1 _ (.int .i64 (0)) rfl rfl ⟨by simp [ckI, ckv, bareV, inB, hf1p, hf2, hf3p] <;> omega, M⟩
    | false =>
     have hf3p := of_decide_eq_false hf3
     refine wl_b .eql 32 (.tmp 21) (.const (.int .i64 (0))) (.int .i64 (ck x.b x.n x.s)) (.int .i64 (0)) (.bool false) (eq34 hf3 _ _ _) ?_
     refine wl_pick (.tmp 18) (.tmp 22) (.const (.bool false)) true (.bool false) (fun _ => rfl) rfl rfl rfl ?_
     refine wl_m (.tmp 23) (.bool false) ?_
     refine w_nil (xn_blk (xn_then (w_seq (w_seq (w_reg ?_)))))
     refine wl_m (.tmp 3) (.bool false) ?_
     refine wl_un (fun v => Op.unary .not v) (.tmp 61) (.bool false) (.bool true) (fun _ => rfl) rfl (by kernel_rfl) rfl ?_
     refine w_nil (xn_then (w_condT rfl (w_seq (w_reg ?_))))
     refine wl_m (.const (.int .i64 (1))) (.int .i64 (1)) ?_
     refine w_nil (xn_then (w_ret (xr_then ?_)))
     exact w_ret1 _ (.int .i64 (1)) rfl rfl ⟨by simp [ckI, ckv, bareV, inB, hf1p, hf2, hf3p] <;> omega, M⟩
   | false =>
    refine wl_b .eql 28 (.tmp 13) (.tmp 16) (.agg (x.cells).toArray) (.agg #[.int .i64 (1), .bool x.b, .int .u64 (l0 x.n), .int .u64 (l1 x.n), .int .u64 (l2 x.n), .int .u64 (l3 x.n), .int .i64 x.s, .bool false, .string ⟨#[]⟩, .int .i64 0]) (.bool false) (eqW hf2 _ _ _) ?_
    refine wl_m (.tmp 17) (.bool false) ?_
    refine wl_skip rfl (wl_skip rfl (wl_skip rfl (wl_skip rfl ?_)))
    refine wl_pick (.tmp 18) (.tmp 22) (.const (.bool false)) false (.bool false) (fun _ => rfl) rfl rfl rfl ?_
    refine wl_m (.tmp 23) (.bool false) ?_
    refine w_nil (xn_blk (xn_then (w_seq (w_seq (w_reg ?_)))))
    refine wl_m (.tmp 3) (.bool false) ?_
    refine wl_un (fun v => Op.unary .not v) (.tmp 61) (.bool false) (.bool true) (fun _ => rfl) rfl (by kernel_rfl) rfl ?_
    refine w_nil (xn_then (w_condT rfl (w_seq (w_reg ?_))))
    refine wl_m (.const (.int .i64 (1))) (.int .i64 (1)) ?_
    refine w_nil (xn_then (w_ret (xr_then ?_)))
    exact w_ret1 _ (.int .i64 (1)) rfl rfl ⟨by simp [ckI, ckv, bareV, inB, hf1p, hf2] <;> omega, M⟩
  | false =>
   have hf1p := of_decide_eq_false hf1
   refine wl_b .eql 3 (.tmp 5) (.const (.int .i64 (1))) (.int .i64 (x.k)) (.int .i64 (1)) (.bool false) (eq3 hf1 _ _ _) ?_
   refine wl_m (.tmp 12) (.bool false) ?_
   refine w_nil (xn_then (w_condF rfl (w_seq (w_reg ?_))))
   cases hf2 : decide (x.k = 2) with
   | true =>
    have hf2p := of_decide_eq_true hf2
    refine wl_b .eql 3 (.tmp 5) (.const (.int .i64 (2))) (.int .i64 (x.k)) (.int .i64 (2)) (.bool true) (eq3 hf2 _ _ _) ?_
    refine wl_m (.tmp 25) (.bool true) ?_
    refine w_nil (xn_then (w_condT rfl (w_reg ?_)))
    refine wl_l 28 (.tmp 1) (pt k1 0) (.agg (x.cells).toArray) (run_row Q1 28 0 10 (x.cells) rfl Tryz.underlying28 rfl sz28) ?_
    refine wl_f 28 2 (.tmp 1) (pt k1 0) (pt k1 7) ?_
    refine wl_l 4 (.tmp 27) (pt k1 7) (.bool x.f) (run_one Q1 4 7 rfl Tryz.underlying4 rfl) ?_
    refine wl_build 28 [(0, (.const (.int .i64 (2)))), (2, (.tmp 28))] [(0, .int .i64 (2)), (2, .bool x.f)] (.agg #[.int .i64 (2), .bool false, .int .u64 0, .int .u64 0, .int .u64 0, .int .u64 0, .int .i64 0, .bool x.f, .string ⟨#[]⟩, .int .i64 0]) rfl rfl (by kernel_rfl) rfl ?_
    cases hf3 : svv x (vFl x.f) with
    | true =>
     refine wl_b .eql 28 (.tmp 26) (.tmp 29) (.agg (x.cells).toArray) (.agg #[.int .i64 (2), .bool false, .int .u64 0, .int .u64 0, .int .u64 0, .int .u64 0, .int .i64 0, .bool x.f, .string ⟨#[]⟩, .int .i64 0]) (.bool true) (eqW hf3 _ _ _) ?_
     refine wl_m (.tmp 30) (.bool true) ?_
     refine w_nil (xn_blk (xn_then (w_seq (w_seq (w_reg ?_)))))
     refine wl_m (.tmp 3) (.bool true) ?_
     refine wl_un (fun v => Op.unary .not v) (.tmp 61) (.bool true) (.bool false) (fun _ => rfl) rfl (by kernel_rfl) rfl ?_
     refine w_nil (xn_then (w_condF rfl (w_skip (xn_then (w_seq (w_reg ?_))))))
     refine wl_m (.const (.int .i64 (0))) (.int .i64 (0)) ?_
     refine w_nil (xn_then (w_ret ?_))
     exact w_ret1 _ (.int .i64 (0)) rfl rfl ⟨by simp [ckI, ckv, bareV, inB, hf2p, hf3] <;> omega, M⟩
    | false =>
     refine wl_b .eql 28 (.tmp 26) (.tmp 29) (.agg (x.cells).toArray) (.agg #[.int .i64 (2), .bool false, .int .u64 0, .int .u64 0, .int .u64 0, .int .u64 0, .int .i64 0, .bool x.f, .string ⟨#[]⟩, .int .i64 0]) (.bool false) (eqW hf3 _ _ _) ?_
     refine wl_m (.tmp 30) (.bool false) ?_
     refine w_nil (xn_blk (xn_then (w_seq (w_seq (w_reg ?_)))))
     refine wl_m (.tmp 3) (.bool false) ?_
     refine wl_un (fun v => Op.unary .not v) (.tmp 61) (.bool false) (.bool true) (fun _ => rfl) rfl (by kernel_rfl) rfl ?_
     refine w_nil (xn_then (w_condT rfl (w_seq (w_reg ?_))))
     refine wl_m (.const (.int .i64 (1))) (.int .i64 (1)) ?_
     refine w_nil (xn_then (w_ret (xr_then ?_)))
     exact w_ret1 _ (.int .i64 (1)) rfl rfl ⟨by simp [ckI, ckv, bareV, inB, hf2p, hf3] <;> omega, M⟩
   | false =>
    have hf2p := of_decide_eq_false hf2
    refine wl_b .eql 3 (.tmp 5) (.const (.int .i64 (2))) (.int .i64 (x.k)) (.int .i64 (2)) (.bool false) (eq3 hf2 _ _ _) ?_
    refine wl_m (.tmp 25) (.bool false) ?_
    refine w_nil (xn_then (w_condF rfl (w_seq (w_reg ?_))))
    cases hf3 : decide (x.k = 3) with
    | true =>
     have hf3p := of_decide_eq_true hf3
     refine wl_b .eql 3 (.tmp 5) (.const (.int .i64 (3))) (.int .i64 (x.k)) (.int .i64 (3)) (.bool true) (eq3 hf3 _ _ _) ?_
     refine wl_m (.tmp 32) (.bool true) ?_
     refine w_nil (xn_then (w_condT rfl (w_reg ?_)))
     refine wl_l 28 (.tmp 1) (pt k1 0) (.agg (x.cells).toArray) (run_row Q1 28 0 10 (x.cells) rfl Tryz.underlying28 rfl sz28) ?_
     refine wl_f 28 3 (.tmp 1) (pt k1 0) (pt k1 8) ?_
     refine wl_l 9 (.tmp 34) (pt k1 8) (.string x.t) (run_one Q1 9 8 rfl Tryz.underlying9 rfl) ?_
     refine wl_build 28 [(0, (.const (.int .i64 (3)))), (3, (.tmp 35))] [(0, .int .i64 (3)), (3, .string x.t)] (.agg #[.int .i64 (3), .bool false, .int .u64 0, .int .u64 0, .int .u64 0, .int .u64 0, .int .i64 0, .bool false, .string x.t, .int .i64 0]) rfl rfl (by kernel_rfl) rfl ?_
     cases hf4 : svv x (vTx x.t) with
     | true =>
      refine wl_b .eql 28 (.tmp 33) (.tmp 36) (.agg (x.cells).toArray) (.agg #[.int .i64 (3), .bool false, .int .u64 0, .int .u64 0, .int .u64 0, .int .u64 0, .int .i64 0, .bool false, .string x.t, .int .i64 0]) (.bool true) (eqW hf4 _ _ _) ?_
      refine wl_m (.tmp 37) (.bool true) ?_
      refine wl_f 28 3 (.tmp 1) (pt k1 0) (pt k1 8) ?_
      refine wl_l 9 (.tmp 39) (pt k1 8) (.string x.t) (run_one Q1 9 8 rfl Tryz.underlying9 rfl) ?_
      refine wl_val (.int .i64 ((x.t.size : Nat) : Int)) (len_s _ _ _ (by exact rfl) _ _ _ _ _ _) rfl ?_
      cases hf5 : decide (((x.t.size : Nat) : Int) ≤ 64) with
      | true =>
       have hf5p := of_decide_eq_true hf5
       refine wl_b .leq 3 (.tmp 41) (.const (.int .i64 (64))) (.int .i64 ((x.t.size : Nat) : Int)) (.int .i64 (64)) (.bool true) (le3 hf5 _ _ _) ?_
       refine wl_pick (.tmp 38) (.tmp 42) (.const (.bool false)) true (.bool true) (fun _ => rfl) rfl rfl rfl ?_
       refine wl_m (.tmp 43) (.bool true) ?_
       refine w_nil (xn_blk (xn_then (w_seq (w_seq (w_reg ?_)))))
       refine wl_m (.tmp 3) (.bool true) ?_
       refine wl_un (fun v => Op.unary .not v) (.tmp 61) (.bool true) (.bool false) (fun _ => rfl) rfl (by kernel_rfl) rfl ?_
       refine w_nil (xn_then (w_condF rfl (w_skip (xn_then (w_seq (w_reg ?_))))))
       refine wl_m (.const (.int .i64 (0))) (.int .i64 (0)) ?_
       refine w_nil (xn_then (w_ret ?_))
       exact w_ret1 _ (.int .i64 (0)) rfl rfl ⟨by simp [ckI, ckv, bareV, inB, hf3p, hf4] <;> omega, M⟩
      | false =>
       have hf5p := of_decide_eq_false hf5
       refine wl_b .leq 3 (.tmp 41) (.const (.int .i64 (64))) (.int .i64 ((x.t.size : Nat) : Int)) (.int .i64 (64)) (.bool false) (le3 hf5 _ _ _) ?_
       refine wl_pick (.tmp 38) (.tmp 42) (.const (.bool false)) true (.bool false) (fun _ => rfl) rfl rfl rfl ?_
       refine wl_m (.tmp 43) (.bool false) ?_
       refine w_nil (xn_blk (xn_then (w_seq (w_seq (w_reg ?_)))))
       refine wl_m (.tmp 3) (.bool false) ?_
       refine wl_un (fun v => Op.unary .not v) (.tmp 61) (.bool false) (.bool true) (fun _ => rfl) rfl (by kernel_rfl) rfl ?_
       refine w_nil (xn_then (w_condT rfl (w_seq (w_reg ?_))))
       refine wl_m (.const (.int .i64 (1))) (.int .i64 (1)) ?_
       refine w_nil (xn_then (w_ret (xr_then ?_)))
       exact w_ret1 _ (.int .i64 (1)) rfl rfl ⟨by simp [ckI, ckv, bareV, inB, hf3p, hf4] <;> omega, M⟩
     | false =>
      refine wl_b .eql 28 (.tmp 33) (.tmp 36) (.agg (x.cells).toArray) (.agg #[.int .i64 (3), .bool false, .int .u64 0, .int .u64 0, .int .u64 0, .int .u64 0, .int .i64 0, .bool false, .string x.t, .int .i64 0]) (.bool false) (eqW hf4 _ _ _) ?_
      refine wl_m (.tmp 37) (.bool false) ?_
      refine wl_skip rfl (wl_skip rfl (wl_skip rfl (wl_skip rfl ?_)))
      refine wl_pick (.tmp 38) (.tmp 42) (.const (.bool false)) false (.bool false) (fun _ => rfl) rfl rfl rfl ?_
      refine wl_m (.tmp 43) (.bool false) ?_
      refine w_nil (xn_blk (xn_then (w_seq (w_seq (w_reg ?_)))))
      refine wl_m (.tmp 3) (.bool false) ?_
      refine wl_un (fun v => Op.unary .not v) (.tmp 61) (.bool false) (.bool true) (fun _ => rfl) rfl (by kernel_rfl) rfl ?_
      refine w_nil (xn_then (w_condT rfl (w_seq (w_reg ?_))))
      refine wl_m (.const (.int .i64 (1))) (.int .i64 (1)) ?_
      refine w_nil (xn_then (w_ret (xr_then ?_)))
      exact w_ret1 _ (.int .i64 (1)) rfl rfl ⟨by simp [ckI, ckv, bareV, inB, hf3p, hf4] <;> omega, M⟩
    | false =>
     have hf3p := of_decide_eq_false hf3
     refine wl_b .eql 3 (.tmp 5) (.const (.int .i64 (3))) (.int .i64 (x.k)) (.int .i64 (3)) (.bool false) (eq3 hf3 _ _ _) ?_
     refine wl_m (.tmp 32) (.bool false) ?_
     refine w_nil (xn_then (w_condF rfl (w_seq (w_reg ?_))))
     cases hf4 : decide (x.k = 4) with
     | true =>
      have hf4p := of_decide_eq_true hf4
      refine wl_b .eql 3 (.tmp 5) (.const (.int .i64 (4))) (.int .i64 (x.k)) (.int .i64 (4)) (.bool true) (eq3 hf4 _ _ _) ?_
      refine wl_m (.tmp 45) (.bool true) ?_
      refine w_nil (xn_then (w_condT rfl (w_reg ?_)))
      refine wl_l 28 (.tmp 1) (pt k1 0) (.agg (x.cells).toArray) (run_row Q1 28 0 10 (x.cells) rfl Tryz.underlying28 rfl sz28) ?_
      refine wl_f 28 4 (.tmp 1) (pt k1 0) (pt k1 9) ?_
      refine wl_l 3 (.tmp 47) (pt k1 9) (.int .i64 (x.e)) (run_one Q1 3 9 rfl Tryz.underlying3 rfl) ?_
      refine wl_build 28 [(0, (.const (.int .i64 (4)))), (4, (.tmp 48))] [(0, .int .i64 (4)), (4, .int .i64 (x.e))] (.agg #[.int .i64 (4), .bool false, .int .u64 0, .int .u64 0, .int .u64 0, .int .u64 0, .int .i64 0, .bool false, .string ⟨#[]⟩, .int .i64 (x.e)]) rfl rfl (by kernel_rfl) rfl ?_
      cases hf5 : svv x (vEr x.e) with
      | true =>
       refine wl_b .eql 28 (.tmp 46) (.tmp 49) (.agg (x.cells).toArray) (.agg #[.int .i64 (4), .bool false, .int .u64 0, .int .u64 0, .int .u64 0, .int .u64 0, .int .i64 0, .bool false, .string ⟨#[]⟩, .int .i64 (x.e)]) (.bool true) (eqW hf5 _ _ _) ?_
       refine wl_m (.tmp 50) (.bool true) ?_
       refine wl_f 28 4 (.tmp 1) (pt k1 0) (pt k1 9) ?_
       refine wl_l 3 (.tmp 52) (pt k1 9) (.int .i64 (x.e)) (run_one Q1 3 9 rfl Tryz.underlying3 rfl) ?_
       cases hf6 : decide (1 ≤ x.e) with
       | true =>
        have hf6p := of_decide_eq_true hf6
        refine wl_b .geq 3 (.tmp 53) (.const (.int .i64 (1))) (.int .i64 (x.e)) (.int .i64 (1)) (.bool true) (ge3 hf6 _ _ _) ?_
        refine wl_pick (.tmp 51) (.tmp 54) (.const (.bool false)) true (.bool true) (fun _ => rfl) rfl rfl rfl ?_
        refine wl_m (.tmp 55) (.bool true) ?_
        refine wl_f 28 4 (.tmp 1) (pt k1 0) (pt k1 9) ?_
        refine wl_l 3 (.tmp 57) (pt k1 9) (.int .i64 (x.e)) (run_one Q1 3 9 rfl Tryz.underlying3 rfl) ?_
        cases hf7 : decide (x.e ≤ 5) with
        | true =>
         have hf7p := of_decide_eq_true hf7
         refine wl_b .leq 3 (.tmp 58) (.const (.int .i64 (5))) (.int .i64 (x.e)) (.int .i64 (5)) (.bool true) (le3 hf7 _ _ _) ?_
         refine wl_pick (.tmp 56) (.tmp 59) (.const (.bool false)) true (.bool true) (fun _ => rfl) rfl rfl rfl ?_
         refine wl_m (.tmp 60) (.bool true) ?_
         refine w_nil (xn_blk (xn_then (w_seq (w_seq (w_reg ?_)))))
         refine wl_m (.tmp 3) (.bool true) ?_
         refine wl_un (fun v => Op.unary .not v) (.tmp 61) (.bool true) (.bool false) (fun _ => rfl) rfl (by kernel_rfl) rfl ?_
         refine w_nil (xn_then (w_condF rfl (w_skip (xn_then (w_seq (w_reg ?_))))))
         refine wl_m (.const (.int .i64 (0))) (.int .i64 (0)) ?_
         refine w_nil (xn_then (w_ret ?_))
         exact w_ret1 _ (.int .i64 (0)) rfl rfl ⟨by simp [ckI, ckv, bareV, inB, isE, hf4p, hf5, hf6p, hf7p] <;> omega, M⟩
        | false =>
         have hf7p := of_decide_eq_false hf7
         refine wl_b .leq 3 (.tmp 58) (.const (.int .i64 (5))) (.int .i64 (x.e)) (.int .i64 (5)) (.bool false) (le3 hf7 _ _ _) ?_
         refine wl_pick (.tmp 56) (.tmp 59) (.const (.bool false)) true (.bool false) (fun _ => rfl) rfl rfl rfl ?_
         refine wl_m (.tmp 60) (.bool false) ?_
         refine w_nil (xn_blk (xn_then (w_seq (w_seq (w_reg ?_)))))
         refine wl_m (.tmp 3) (.bool false) ?_
         refine wl_un (fun v => Op.unary .not v) (.tmp 61) (.bool false) (.bool true) (fun _ => rfl) rfl (by kernel_rfl) rfl ?_
         refine w_nil (xn_then (w_condT rfl (w_seq (w_reg ?_))))
         refine wl_m (.const (.int .i64 (1))) (.int .i64 (1)) ?_
         refine w_nil (xn_then (w_ret (xr_then ?_)))
         exact w_ret1 _ (.int .i64 (1)) rfl rfl ⟨by simp [ckI, ckv, bareV, inB, isE, hf4p, hf5, hf6p, hf7p] <;> omega, M⟩
       | false =>
        have hf6p := of_decide_eq_false hf6
        refine wl_b .geq 3 (.tmp 53) (.const (.int .i64 (1))) (.int .i64 (x.e)) (.int .i64 (1)) (.bool false) (ge3 hf6 _ _ _) ?_
        refine wl_pick (.tmp 51) (.tmp 54) (.const (.bool false)) true (.bool false) (fun _ => rfl) rfl rfl rfl ?_
        refine wl_m (.tmp 55) (.bool false) ?_
        refine wl_skip rfl (wl_skip rfl (wl_skip rfl ?_))
        refine wl_pick (.tmp 56) (.tmp 59) (.const (.bool false)) false (.bool false) (fun _ => rfl) rfl rfl rfl ?_
        refine wl_m (.tmp 60) (.bool false) ?_
        refine w_nil (xn_blk (xn_then (w_seq (w_seq (w_reg ?_)))))
        refine wl_m (.tmp 3) (.bool false) ?_
        refine wl_un (fun v => Op.unary .not v) (.tmp 61) (.bool false) (.bool true) (fun _ => rfl) rfl (by kernel_rfl) rfl ?_
        refine w_nil (xn_then (w_condT rfl (w_seq (w_reg ?_))))
        refine wl_m (.const (.int .i64 (1))) (.int .i64 (1)) ?_
        refine w_nil (xn_then (w_ret (xr_then ?_)))
        exact w_ret1 _ (.int .i64 (1)) rfl rfl ⟨by simp [ckI, ckv, bareV, inB, isE, hf4p, hf5, hf6p] <;> omega, M⟩
      | false =>
       refine wl_b .eql 28 (.tmp 46) (.tmp 49) (.agg (x.cells).toArray) (.agg #[.int .i64 (4), .bool false, .int .u64 0, .int .u64 0, .int .u64 0, .int .u64 0, .int .i64 0, .bool false, .string ⟨#[]⟩, .int .i64 (x.e)]) (.bool false) (eqW hf5 _ _ _) ?_
       refine wl_m (.tmp 50) (.bool false) ?_
       refine wl_skip rfl (wl_skip rfl (wl_skip rfl ?_))
       refine wl_pick (.tmp 51) (.tmp 54) (.const (.bool false)) false (.bool false) (fun _ => rfl) rfl rfl rfl ?_
       refine wl_m (.tmp 55) (.bool false) ?_
       refine wl_skip rfl (wl_skip rfl (wl_skip rfl ?_))
       refine wl_pick (.tmp 56) (.tmp 59) (.const (.bool false)) false (.bool false) (fun _ => rfl) rfl rfl rfl ?_
       refine wl_m (.tmp 60) (.bool false) ?_
       refine w_nil (xn_blk (xn_then (w_seq (w_seq (w_reg ?_)))))
       refine wl_m (.tmp 3) (.bool false) ?_
       refine wl_un (fun v => Op.unary .not v) (.tmp 61) (.bool false) (.bool true) (fun _ => rfl) rfl (by kernel_rfl) rfl ?_
       refine w_nil (xn_then (w_condT rfl (w_seq (w_reg ?_))))
       refine wl_m (.const (.int .i64 (1))) (.int .i64 (1)) ?_
       refine w_nil (xn_then (w_ret (xr_then ?_)))
       exact w_ret1 _ (.int .i64 (1)) rfl rfl ⟨by simp [ckI, ckv, bareV, inB, isE, hf4p, hf5] <;> omega, M⟩
     | false =>
      have hf4p := of_decide_eq_false hf4
      refine wl_b .eql 3 (.tmp 5) (.const (.int .i64 (4))) (.int .i64 (x.k)) (.int .i64 (4)) (.bool false) (eq3 hf4 _ _ _) ?_
      refine wl_m (.tmp 45) (.bool false) ?_
      refine w_nil (xn_then (w_condF rfl (w_skip (xn_blk (xn_then (w_seq (w_seq (w_reg ?_))))))))
      refine wl_m (.tmp 3) (.bool false) ?_
      refine wl_un (fun v => Op.unary .not v) (.tmp 61) (.bool false) (.bool true) (fun _ => rfl) rfl (by kernel_rfl) rfl ?_
      refine w_nil (xn_then (w_condT rfl (w_seq (w_reg ?_))))
      refine wl_m (.const (.int .i64 (1))) (.int .i64 (1)) ?_
      refine w_nil (xn_then (w_ret (xr_then ?_)))
      exact w_ret1 _ (.int .i64 (1)) rfl rfl ⟨by simp [ckI, ckv, bareV, inB, svv_bl, hf0p, hf1p, hf2p, hf3p, hf4p] <;> omega, M⟩
theorem rcheck_t {x : VL} (hc : ckv x = true) (hx : x.ok) (w : World) : Calls Tryz.prog 14 #[x.v] w fun e9 w' => e9 = .returned (.int .i64 0) ∧ Mo w w' := by
 have q := rchk_n x w hx
 unfold ckI at q
 rw [hc] at q
 exact q
theorem rcheck_f {x : VL} (hc : ckv x = false) (hx : x.ok) (w : World) : Calls Tryz.prog 14 #[x.v] w fun e9 w' => e9 = .returned (.int .i64 1) ∧ Mo w w' := by
 have q := rchk_n x w hx
 unfold ckI at q
 rw [hc] at q
 exact q
theorem rbad_n (e : Int) (w : World) : Calls Tryz.prog 16 #[.int .i64 e] w fun e9 w' => e9 = .returned (vBad e).v ∧ Mo w w' := by
 refine w_enter 11 Tryz.func16 Tryz.ntmps16 rfl rfl ?_
 have M : Mo w w := Mo.refl _
 refine w_seq (w_reg ?_)
 refine wl_alloc 28 #[.int .i64 0, .bool false, .int .u64 0, .int .u64 0, .int .u64 0, .int .u64 0, .int .i64 0, .bool false, .string ⟨#[]⟩, .int .i64 0] rfl (fun _ => by kernel_rfl) rfl ?_
 intro k1 u1 hk hz hq Q1
 have N_k1 : w.heap.size ≤ k1 := by have := M.size; omega
 replace M := M.trans hq
 clear hk hz hq
 refine w_nil (xn_then (w_seq (w_seq (w_reg ?_))))
 refine wl_m (.tmp 0) (.int .i64 (e)) ?_
 cases hf0 : decide (e < 1) with
 | true =>
  have hf0p := of_decide_eq_true hf0
  refine wl_b .lss 3 (.tmp 3) (.const (.int .i64 (1))) (.int .i64 (e)) (.int .i64 (1)) (.bool true) (lt3 hf0 _ _ _) ?_
  refine wl_m (.tmp 4) (.bool true) ?_
  refine wl_skip rfl (wl_skip rfl ?_)
  refine wl_pick (.tmp 5) (.const (.bool true)) (.tmp 7) true (.bool true) (fun _ => rfl) rfl rfl rfl ?_
  refine w_nil (xn_then (w_condT rfl (w_reg ?_)))
  refine wl_m (.const (.int .i64 (2))) (.int .i64 (2)) ?_
  refine w_nil (xn_then (w_seq (w_reg ?_)))
  refine wl_m (.tmp 0) (.int .i64 (2)) ?_
  refine wl_build 28 [(0, (.const (.int .i64 (4)))), (4, (.tmp 9))] [(0, .int .i64 (4)), (4, .int .i64 (2))] (.agg #[.int .i64 (4), .bool false, .int .u64 0, .int .u64 0, .int .u64 0, .int .u64 0, .int .i64 0, .bool false, .string ⟨#[]⟩, .int .i64 (2)]) rfl rfl (by kernel_rfl) rfl ?_
  refine wl_st 28 (.tmp 2) (.tmp 10) k1 0 #[.int .i64 (4), .bool false, .int .u64 0, .int .u64 0, .int .u64 0, .int .u64 0, .int .i64 0, .bool false, .string ⟨#[]⟩, .int .i64 (2)] _ [.int .i64 (4), .bool false, .int .u64 0, .int .u64 0, .int .u64 0, .int .u64 0, .int .i64 0, .bool false, .string ⟨#[]⟩, .int .i64 (2)] Q1 rfl rfl rfl rfl rfl sz28 rfl rfl rfl ?_
  intro u2 hS Qn
  replace Q1 := Qn
  clear Qn
  replace M := hS.mo _ N_k1 M
  clear hS
  refine w_nil (xn_then (w_ret ?_))
  exact w_ret1 _ (.agg #[.int .i64 (4), .bool false, .int .u64 0, .int .u64 0, .int .u64 0, .int .u64 0, .int .i64 0, .bool false, .string ⟨#[]⟩, .int .i64 (2)]) rfl ⟨k1, rfl, (run_row Q1 28 0 10 _ rfl Tryz.underlying28 rfl sz28)⟩ ⟨vrt (x := (vEr 2)) rfl (by have q : isE e = false := (by simp [isE] <;> omega); simp [vBad, q]), M⟩
 | false =>
  have hf0p := of_decide_eq_false hf0
  refine wl_b .lss 3 (.tmp 3) (.const (.int .i64 (1))) (.int .i64 (e)) (.int .i64 (1)) (.bool false) (lt3 hf0 _ _ _) ?_
  refine wl_m (.tmp 4) (.bool false) ?_
  refine wl_m (.tmp 0) (.int .i64 (e)) ?_
  cases hf1 : decide (5 < e) with
  | true =>
   have hf1p := of_decide_eq_true hf1
   refine wl_b .gtr 3 (.tmp 6) (.const (.int .i64 (5))) (.int .i64 (e)) (.int .i64 (5)) (.bool true) (gt3 hf1 _ _ _) ?_
   refine wl_pick (.tmp 5) (.const (.bool true)) (.tmp 7) false (.bool true) (fun _ => rfl) rfl rfl rfl ?_
   refine w_nil (xn_then (w_condT rfl (w_reg ?_)))
   refine wl_m (.const (.int .i64 (2))) (.int .i64 (2)) ?_
   refine w_nil (xn_then (w_seq (w_reg ?_)))
   refine wl_m (.tmp 0) (.int .i64 (2)) ?_
   refine wl_build 28 [(0, (.const (.int .i64 (4)))), (4, (.tmp 9))] [(0, .int .i64 (4)), (4, .int .i64 (2))] (.agg #[.int .i64 (4), .bool false, .int .u64 0, .int .u64 0, .int .u64 0, .int .u64 0, .int .i64 0, .bool false, .string ⟨#[]⟩, .int .i64 (2)]) rfl rfl (by kernel_rfl) rfl ?_
   refine wl_st 28 (.tmp 2) (.tmp 10) k1 0 #[.int .i64 (4), .bool false, .int .u64 0, .int .u64 0, .int .u64 0, .int .u64 0, .int .i64 0, .bool false, .string ⟨#[]⟩, .int .i64 (2)] _ [.int .i64 (4), .bool false, .int .u64 0, .int .u64 0, .int .u64 0, .int .u64 0, .int .i64 0, .bool false, .string ⟨#[]⟩, .int .i64 (2)] Q1 rfl rfl rfl rfl rfl sz28 rfl rfl rfl ?_
   intro u2 hS Qn
   replace Q1 := Qn
   clear Qn
   replace M := hS.mo _ N_k1 M
   clear hS
   refine w_nil (xn_then (w_ret ?_))
   exact w_ret1 _ (.agg #[.int .i64 (4), .bool false, .int .u64 0, .int .u64 0, .int .u64 0, .int .u64 0, .int .i64 0, .bool false, .string ⟨#[]⟩, .int .i64 (2)]) rfl ⟨k1, rfl, (run_row Q1 28 0 10 _ rfl Tryz.underlying28 rfl sz28)⟩ ⟨vrt (x := (vEr 2)) rfl (by have q : isE e = false := (by simp [isE] <;> omega); simp [vBad, q]), M⟩
  | false =>
   have hf1p := of_decide_eq_false hf1
   refine wl_b .gtr 3 (.tmp 6) (.const (.int .i64 (5))) (.int .i64 (e)) (.int .i64 (5)) (.bool false) (gt3 hf1 _ _ _) ?_
   refine wl_pick (.tmp 5) (.const (.bool true)) (.tmp 7) false (.bool false) (fun _ => rfl) rfl rfl rfl ?_
   refine w_nil (xn_then (w_condF rfl (w_skip (xn_then (w_seq (w_reg ?_))))))
   refine wl_m (.tmp 0) (.int .i64 (e)) ?_
   refine wl_build 28 [(0, (.const (.int .i64 (4)))), (4, (.tmp 9))] [(0, .int .i64 (4)), (4, .int .i64 (e))] (.agg #[.int .i64 (4), .bool false, .int .u64 0, .int .u64 0, .int .u64 0, .int .u64 0, .int .i64 0, .bool false, .string ⟨#[]⟩, .int .i64 (e)]) rfl rfl (by kernel_rfl) rfl ?_
   refine wl_st 28 (.tmp 2) (.tmp 10) k1 0 #[.int .i64 (4), .bool false, .int .u64 0, .int .u64 0, .int .u64 0, .int .u64 0, .int .i64 0, .bool false, .string ⟨#[]⟩, .int .i64 (e)] _ [.int .i64 (4), .bool false, .int .u64 0, .int .u64 0, .int .u64 0, .int .u64 0, .int .i64 0, .bool false, .string ⟨#[]⟩, .int .i64 (e)] Q1 rfl rfl rfl rfl rfl sz28 rfl rfl rfl ?_
   intro u2 hS Qn
   replace Q1 := Qn
   clear Qn
   replace M := hS.mo _ N_k1 M
   clear hS
   refine w_nil (xn_then (w_ret ?_))
   exact w_ret1 _ (.agg #[.int .i64 (4), .bool false, .int .u64 0, .int .u64 0, .int .u64 0, .int .u64 0, .int .i64 0, .bool false, .string ⟨#[]⟩, .int .i64 (e)]) rfl ⟨k1, rfl, (run_row Q1 28 0 10 _ rfl Tryz.underlying28 rfl sz28)⟩ ⟨vrt (x := (vEr e)) rfl (by have q : isE e = true := (by simp [isE] <;> omega); simp [vBad, q]), M⟩
theorem rnum_n (b : Bool) (n s : Int) (w : World) : Calls Tryz.prog 70 #[dc b n s] w fun e9 w' => e9 = .returned (vNu b n s).v ∧ Mo w w' := by
 refine w_enter 5 Tryz.func70 Tryz.ntmps70 rfl rfl ?_
 have M : Mo w w := Mo.refl _
 refine w_seq (w_reg ?_)
 refine wl_box 26 (.tmp 0) _ (#[.bool b, .int .u64 (l0 n), .int .u64 (l1 n), .int .u64 (l2 n), .int .u64 (l3 n), .int .i64 s]) rfl rfl (fun _ => by kernel_rfl) rfl ?_
 intro k1 u1 hk hz hq Q1
 have N_k1 : w.heap.size ≤ k1 := by have := M.size; omega
 replace M := M.trans hq
 clear hk hz hq
 refine wl_alloc 28 #[.int .i64 0, .bool false, .int .u64 0, .int .u64 0, .int .u64 0, .int .u64 0, .int .i64 0, .bool false, .string ⟨#[]⟩, .int .i64 0] rfl (fun _ => by kernel_rfl) rfl ?_
 intro k2 u2 hk hz hq Q2
 have ne_k1_k2 : k1 ≠ k2 := by have := Q1.lt; omega
 have N_k2 : w.heap.size ≤ k2 := by have := M.size; omega
 replace Q1 := Q1.mo hq
 replace M := M.trans hq
 clear hk hz hq
 refine w_nil (xn_then (w_seq (w_reg ?_)))
 refine wl_l 26 (.tmp 1) (pt k1 0) (.agg #[.bool b, .int .u64 (l0 n), .int .u64 (l1 n), .int .u64 (l2 n), .int .u64 (l3 n), .int .i64 s]) (run_row Q1 26 0 6 _ rfl Tryz.underlying26 rfl sz26) ?_
 refine wl_build 28 [(0, (.const (.int .i64 (1)))), (1, (.tmp 3))] [(0, .int .i64 (1)), (1, .agg #[.bool b, .int .u64 (l0 n), .int .u64 (l1 n), .int .u64 (l2 n), .int .u64 (l3 n), .int .i64 s])] (.agg #[.int .i64 (1), .bool b, .int .u64 (l0 n), .int .u64 (l1 n), .int .u64 (l2 n), .int .u64 (l3 n), .int .i64 s, .bool false, .string ⟨#[]⟩, .int .i64 0]) rfl rfl (by kernel_rfl) rfl ?_
 refine wl_st 28 (.tmp 2) (.tmp 4) k2 0 #[.int .i64 (1), .bool b, .int .u64 (l0 n), .int .u64 (l1 n), .int .u64 (l2 n), .int .u64 (l3 n), .int .i64 s, .bool false, .string ⟨#[]⟩, .int .i64 0] _ [.int .i64 (1), .bool b, .int .u64 (l0 n), .int .u64 (l1 n), .int .u64 (l2 n), .int .u64 (l3 n), .int .i64 s, .bool false, .string ⟨#[]⟩, .int .i64 0] Q2 rfl rfl rfl rfl rfl sz28 rfl rfl rfl ?_
 intro u3 hS Qn
 replace Q2 := Qn
 clear Qn
 replace Q1 := hS.other _ _ ne_k1_k2 Q1
 replace M := hS.mo _ N_k2 M
 clear hS
 refine w_nil (xn_then (w_ret ?_))
 exact w_ret1 _ (.agg #[.int .i64 (1), .bool b, .int .u64 (l0 n), .int .u64 (l1 n), .int .u64 (l2 n), .int .u64 (l3 n), .int .i64 s, .bool false, .string ⟨#[]⟩, .int .i64 0]) rfl ⟨k2, rfl, (run_row Q2 28 0 10 _ rfl Tryz.underlying28 rfl sz28)⟩ ⟨rfl, M⟩
theorem may_n (x : VL) (w : World) (hx : x.ok) : Calls Tryz.prog 50 #[x.v] w fun e9 w' => e9 = .returned (mayV x).v ∧ Mo w w' := by
 refine w_enter 8 Tryz.func50 Tryz.ntmps50 rfl rfl ?_
 have M : Mo w w := Mo.refl _
 refine w_seq (w_reg ?_)
 refine wl_box 28 (.tmp 0) _ (((x.cells).toArray)) rfl rfl (fun _ => by kernel_rfl) rfl ?_
 intro k1 u1 hk hz hq Q1
 have N_k1 : w.heap.size ≤ k1 := by have := M.size; omega
 replace M := M.trans hq
 clear hk hz hq
 refine wl_alloc 28 #[.int .i64 0, .bool false, .int .u64 0, .int .u64 0, .int .u64 0, .int .u64 0, .int .i64 0, .bool false, .string ⟨#[]⟩, .int .i64 0] rfl (fun _ => by kernel_rfl) rfl ?_
 intro k2 u2 hk hz hq Q2
 have ne_k1_k2 : k1 ≠ k2 := by have := Q1.lt; omega
 have N_k2 : w.heap.size ≤ k2 := by have := M.size; omega
 replace Q1 := Q1.mo hq
 replace M := M.trans hq
 clear hk hz hq
 refine w_nil (xn_then (w_seq (w_seq (w_reg ?_))))
 refine wl_l 28 (.tmp 1) (pt k1 0) (.agg (x.cells).toArray) (run_row Q1 28 0 10 (x.cells) rfl Tryz.underlying28 rfl sz28) ?_
 cases hf0 : ckv x with
 | true =>
  refine wl_call 14 [(.tmp 3)] _ [.agg (x.cells).toArray] (.int .i64 (0)) rfl rfl (fun _ _ => by kernel_rfl) (rcheck_t hf0 hx _) rfl ?_
  intro u3 hq
  replace Q1 := Q1.mo hq
  replace Q2 := Q2.mo hq
  replace M := M.trans hq
  clear hq
  refine wl_b .neq 32 (.tmp 4) (.const (.int .i64 (0))) (.int .i64 (0)) (.int .i64 (0)) (.bool false) (ne34 (r := true) rfl _ _ _) ?_
  refine w_nil (xn_then (w_condF rfl (w_skip (xn_then (w_seq (w_reg ?_))))))
  refine wl_l 28 (.tmp 1) (pt k1 0) (.agg (x.cells).toArray) (run_row Q1 28 0 10 (x.cells) rfl Tryz.underlying28 rfl sz28) ?_
  refine wl_st 28 (.tmp 2) (.tmp 7) k2 0 ((x.cells).toArray) _ (x.cells) Q2 rfl rfl rfl rfl rfl sz28 rfl rfl rfl ?_
  intro u4 hS Qn
  replace Q2 := Qn
  clear Qn
  replace Q1 := hS.other _ _ ne_k1_k2 Q1
  replace M := hS.mo _ N_k2 M
  clear hS
  refine w_nil (xn_then (w_ret ?_))
  exact w_ret1 _ (.agg (x.cells).toArray) rfl ⟨k2, rfl, (run_row Q2 28 0 10 (x.cells) rfl Tryz.underlying28 rfl sz28)⟩ ⟨vrt (x := x) rfl (by simp [mayV, hf0]), M⟩
 | false =>
  refine wl_call 14 [(.tmp 3)] _ [.agg (x.cells).toArray] (.int .i64 (1)) rfl rfl (fun _ _ => by kernel_rfl) (rcheck_f hf0 hx _) rfl ?_
  intro u3 hq
  replace Q1 := Q1.mo hq
  replace Q2 := Q2.mo hq
  replace M := M.trans hq
  clear hq
  refine wl_b .neq 32 (.tmp 4) (.const (.int .i64 (0))) (.int .i64 (1)) (.int .i64 (0)) (.bool true) (ne34 (r := false) rfl _ _ _) ?_
  refine w_nil (xn_then (w_condT rfl (w_seq (w_reg ?_))))
  refine wl_call 16 [(.const (.int .i64 (2)))] _ [.int .i64 (2)] (.agg ((vBad (2)).cells).toArray) rfl rfl (fun _ _ => by kernel_rfl) (rbad_n (2) _) rfl ?_
  intro u4 hq
  replace Q1 := Q1.mo hq
  replace Q2 := Q2.mo hq
  replace M := M.trans hq
  clear hq
  refine wl_st 28 (.tmp 2) (.tmp 6) k2 0 (((vBad (2)).cells).toArray) _ ((vBad (2)).cells) Q2 rfl rfl rfl rfl rfl sz28 rfl rfl rfl ?_
  intro u5 hS Qn
  replace Q2 := Qn
  clear Qn
  replace Q1 := hS.other _ _ ne_k1_k2 Q1
  replace M := hS.mo _ N_k2 M
  clear hS
  refine w_nil (xn_then (w_ret (xr_then ?_)))
  exact w_ret1 _ (.agg ((vBad (2)).cells).toArray) rfl ⟨k2, rfl, (run_row Q2 28 0 10 ((vBad (2)).cells) rfl Tryz.underlying28 rfl sz28)⟩ ⟨vrt (x := (vBad (2))) rfl (by simp [mayV, hf0]), M⟩
def askedV (x : VL) : VL := if (mayV x).k = 0 then vBad 3 else mayV x
theorem asked_e {x : VL} (hx : x.ok) : askedV x = if ask x = 0 then x else vEr (ask x) := by
 unfold askedV mayV ask
 cases hc : ckv x with
 | false => rfl
 | true =>
  by_cases h4 : x.k = 4
  ·obtain ⟨g1, g2⟩ := ckv_err hx hc h4
   have g3 : x.e ≠ 0 := fun h => by rw [h] at g2; exact absurd g2 (by decide)
   simp only [h4, if_pos, if_neg g3]
   exact g1
  ·by_cases h0 : x.k = 0
   ·simp [h0]; rfl
   ·simp [h0, h4]
theorem asked_n (x : VL) (w : World) (hx : x.ok) : Calls Tryz.prog 35 #[x.v] w fun e9 w' => e9 = .returned (askedV x).v ∧ Mo w w' := by
 refine w_enter 10 Tryz.func35 Tryz.ntmps35 rfl rfl ?_
 have M : Mo w w := Mo.refl _
 refine w_seq (w_reg ?_)
 refine wl_box 28 (.tmp 0) _ (((x.cells).toArray)) rfl rfl (fun _ => by kernel_rfl) rfl ?_
 intro k1 u1 hk hz hq Q1
 have N_k1 : w.heap.size ≤ k1 := by have := M.size; omega
 replace M := M.trans hq
 clear hk hz hq
 refine wl_alloc 28 #[.int .i64 0, .bool false, .int .u64 0, .int .u64 0, .int .u64 0, .int .u64 0, .int .i64 0, .bool false, .string ⟨#[]⟩, .int .i64 0] rfl (fun _ => by kernel_rfl) rfl ?_
 intro k2 u2 hk hz hq Q2
 have ne_k1_k2 : k1 ≠ k2 := by have := Q1.lt; omega
 have N_k2 : w.heap.size ≤ k2 := by have := M.size; omega
 replace Q1 := Q1.mo hq
 replace M := M.trans hq
 clear hk hz hq
 refine w_nil (xn_then (w_seq (w_reg ?_)))
 refine wl_l 28 (.tmp 1) (pt k1 0) (.agg (x.cells).toArray) (run_row Q1 28 0 10 (x.cells) rfl Tryz.underlying28 rfl sz28) ?_
 refine wl_call 50 [(.tmp 3)] _ [.agg (x.cells).toArray] (.agg ((mayV x).cells).toArray) rfl rfl (fun _ _ => by kernel_rfl) (may_n x _ hx) rfl ?_
 intro u3 hq
 replace Q1 := Q1.mo hq
 replace Q2 := Q2.mo hq
 replace M := M.trans hq
 clear hq
 refine wl_st 28 (.tmp 1) (.tmp 4) k1 0 (((mayV x).cells).toArray) (x.cells) ((mayV x).cells) Q1 rfl rfl rfl rfl rfl sz28 rfl rfl rfl ?_
 intro u4 hS Qn
 replace Q1 := Qn
 clear Qn
 replace Q2 := hS.other _ _ ne_k1_k2.symm Q2
 replace M := hS.mo _ N_k1 M
 clear hS
 refine w_nil (xn_then (w_seq (w_seq (w_reg ?_))))
 refine wl_f 28 0 (.tmp 1) (pt k1 0) (pt k1 0) ?_
 refine wl_l 3 (.tmp 5) (pt k1 0) (.int .i64 ((mayV x).k)) (run_one Q1 3 0 rfl Tryz.underlying3 rfl) ?_
 cases hf0 : decide ((mayV x).k = 0) with
 | true =>
  have hf0p := of_decide_eq_true hf0
  refine wl_b .eql 3 (.tmp 6) (.const (.int .i64 (0))) (.int .i64 ((mayV x).k)) (.int .i64 (0)) (.bool true) (eq3 hf0 _ _ _) ?_
  refine w_nil (xn_then (w_condT rfl (w_seq (w_reg ?_))))
  refine wl_call 16 [(.const (.int .i64 (3)))] _ [.int .i64 (3)] (.agg ((vBad (3)).cells).toArray) rfl rfl (fun _ _ => by kernel_rfl) (rbad_n (3) _) rfl ?_
  intro u5 hq
  replace Q1 := Q1.mo hq
  replace Q2 := Q2.mo hq
  replace M := M.trans hq
  clear hq
  refine wl_st 28 (.tmp 2) (.tmp 8) k2 0 (((vBad (3)).cells).toArray) _ ((vBad (3)).cells) Q2 rfl rfl rfl rfl rfl sz28 rfl rfl rfl ?_
  intro u6 hS Qn
  replace Q2 := Qn
  clear Qn
  replace Q1 := hS.other _ _ ne_k1_k2 Q1
  replace M := hS.mo _ N_k2 M
  clear hS
  refine w_nil (xn_then (w_ret (xr_then ?_)))
  exact w_ret1 _ (.agg ((vBad (3)).cells).toArray) rfl ⟨k2, rfl, (run_row Q2 28 0 10 ((vBad (3)).cells) rfl Tryz.underlying28 rfl sz28)⟩ ⟨vrt (x := (vBad (3))) rfl (by simp [askedV, hf0p]), M⟩
 | false =>
  have hf0p := of_decide_eq_false hf0
  refine wl_b .eql 3 (.tmp 6) (.const (.int .i64 (0))) (.int .i64 ((mayV x).k)) (.int .i64 (0)) (.bool false) (eq3 hf0 _ _ _) ?_
  refine w_nil (xn_then (w_condF rfl (w_skip (xn_then (w_seq (w_reg ?_))))))
  refine wl_l 28 (.tmp 1) (pt k1 0) (.agg ((mayV x).cells).toArray) (run_row Q1 28 0 10 ((mayV x).cells) rfl Tryz.underlying28 rfl sz28) ?_
  refine wl_st 28 (.tmp 2) (.tmp 9) k2 0 (((mayV x).cells).toArray) _ ((mayV x).cells) Q2 rfl rfl rfl rfl rfl sz28 rfl rfl rfl ?_
  intro u5 hS Qn
  replace Q2 := Qn
  clear Qn
  replace Q1 := hS.other _ _ ne_k1_k2 Q1
  replace M := hS.mo _ N_k2 M
  clear hS
  refine w_nil (xn_then (w_ret ?_))
  exact w_ret1 _ (.agg ((mayV x).cells).toArray) rfl ⟨k2, rfl, (run_row Q2 28 0 10 ((mayV x).cells) rfl Tryz.underlying28 rfl sz28)⟩ ⟨vrt (x := (mayV x)) rfl (by simp [askedV, hf0p]), M⟩
theorem asked_0 {x : VL} (h : ask x = 0) (hx : x.ok) (w : World) : Calls Tryz.prog 35 #[x.v] w fun e9 w' => e9 = .returned x.v ∧ Mo w w' := by
 have q := asked_n x w hx
 rw [asked_e hx, if_pos h] at q
 exact q
theorem asked_1 {x : VL} (h : ¬ ask x = 0) (hx : x.ok) (w : World) : Calls Tryz.prog 35 #[x.v] w fun e9 w' => e9 = .returned (vEr (ask x)).v ∧ Mo w w' := by
 have q := asked_n x w hx
 rw [asked_e hx, if_neg h] at q
 exact q
theorem told_n (r : DR) (w : World) : Calls Tryz.prog 48 #[dc r.b r.n r.s, .int .i64 r.e] w fun e9 w' => e9 = .returned (numV r).v ∧ Mo w w' := by
 refine w_enter 13 Tryz.func48 Tryz.ntmps48 rfl rfl ?_
 have M : Mo w w := Mo.refl _
 refine w_seq (w_reg ?_)
 refine wl_box 26 (.tmp 0) _ (#[.bool r.b, .int .u64 (l0 r.n), .int .u64 (l1 r.n), .int .u64 (l2 r.n), .int .u64 (l3 r.n), .int .i64 r.s]) rfl rfl (fun _ => by kernel_rfl) rfl ?_
 intro k1 u1 hk hz hq Q1
 have N_k1 : w.heap.size ≤ k1 := by have := M.size; omega
 replace M := M.trans hq
 clear hk hz hq
 refine wl_alloc 28 #[.int .i64 0, .bool false, .int .u64 0, .int .u64 0, .int .u64 0, .int .u64 0, .int .i64 0, .bool false, .string ⟨#[]⟩, .int .i64 0] rfl (fun _ => by kernel_rfl) rfl ?_
 intro k2 u2 hk hz hq Q2
 have ne_k1_k2 : k1 ≠ k2 := by have := Q1.lt; omega
 have N_k2 : w.heap.size ≤ k2 := by have := M.size; omega
 replace Q1 := Q1.mo hq
 replace M := M.trans hq
 clear hk hz hq
 refine w_nil (xn_then (w_seq (w_seq (w_reg ?_))))
 refine wl_m (.tmp 1) (.int .i64 (r.e)) ?_
 cases hf0 : decide (r.e = 7) with
 | true =>
  have hf0p := of_decide_eq_true hf0
  refine wl_b .eql 32 (.tmp 5) (.const (.int .i64 (7))) (.int .i64 (r.e)) (.int .i64 (7)) (.bool true) (eq34 hf0 _ _ _) ?_
  refine w_nil (xn_then (w_condT rfl (w_seq (w_reg ?_))))
  refine wl_call 16 [(.const (.int .i64 (1)))] _ [.int .i64 (1)] (.agg ((vBad (1)).cells).toArray) rfl rfl (fun _ _ => by kernel_rfl) (rbad_n (1) _) rfl ?_
  intro u3 hq
  replace Q1 := Q1.mo hq
  replace Q2 := Q2.mo hq
  replace M := M.trans hq
  clear hq
  refine wl_st 28 (.tmp 4) (.tmp 7) k2 0 (((vBad (1)).cells).toArray) _ ((vBad (1)).cells) Q2 rfl rfl rfl rfl rfl sz28 rfl rfl rfl ?_
  intro u4 hS Qn
  replace Q2 := Qn
  clear Qn
  replace Q1 := hS.other _ _ ne_k1_k2 Q1
  replace M := hS.mo _ N_k2 M
  clear hS
  refine w_nil (xn_then (w_ret (xr_then ?_)))
  exact w_ret1 _ (.agg ((vBad (1)).cells).toArray) rfl ⟨k2, rfl, (run_row Q2 28 0 10 ((vBad (1)).cells) rfl Tryz.underlying28 rfl sz28)⟩ ⟨vrt (x := (vBad (1))) rfl (by simp [numV, hf0p]), M⟩
 | false =>
  have hf0p := of_decide_eq_false hf0
  refine wl_b .eql 32 (.tmp 5) (.const (.int .i64 (7))) (.int .i64 (r.e)) (.int .i64 (7)) (.bool false) (eq34 hf0 _ _ _) ?_
  refine w_nil (xn_then (w_condF rfl (w_skip (xn_then (w_seq (w_seq (w_reg ?_)))))))
  refine wl_m (.tmp 1) (.int .i64 (r.e)) ?_
  cases hf1 : decide (r.e = 0) with
  | true =>
   have hf1p := of_decide_eq_true hf1
   refine wl_b .neq 32 (.tmp 8) (.const (.int .i64 (0))) (.int .i64 (r.e)) (.int .i64 (0)) (.bool false) (ne34 hf1 _ _ _) ?_
   refine w_nil (xn_then (w_condF rfl (w_skip (xn_then (w_seq (w_reg ?_))))))
   refine wl_l 26 (.tmp 2) (pt k1 0) (.agg #[.bool r.b, .int .u64 (l0 r.n), .int .u64 (l1 r.n), .int .u64 (l2 r.n), .int .u64 (l3 r.n), .int .i64 r.s]) (run_row Q1 26 0 6 _ rfl Tryz.underlying26 rfl sz26) ?_
   refine wl_call 70 [(.tmp 11)] _ [.agg #[.bool r.b, .int .u64 (l0 r.n), .int .u64 (l1 r.n), .int .u64 (l2 r.n), .int .u64 (l3 r.n), .int .i64 r.s]] (.agg ((vNu r.b r.n r.s).cells).toArray) rfl rfl (fun _ _ => by kernel_rfl) (rnum_n r.b r.n r.s _) rfl ?_
   intro u3 hq
   replace Q1 := Q1.mo hq
   replace Q2 := Q2.mo hq
   replace M := M.trans hq
   clear hq
   refine wl_st 28 (.tmp 4) (.tmp 12) k2 0 (((vNu r.b r.n r.s).cells).toArray) _ ((vNu r.b r.n r.s).cells) Q2 rfl rfl rfl rfl rfl sz28 rfl rfl rfl ?_
   intro u4 hS Qn
   replace Q2 := Qn
   clear Qn
   replace Q1 := hS.other _ _ ne_k1_k2 Q1
   replace M := hS.mo _ N_k2 M
   clear hS
   refine w_nil (xn_then (w_ret ?_))
   exact w_ret1 _ (.agg ((vNu r.b r.n r.s).cells).toArray) rfl ⟨k2, rfl, (run_row Q2 28 0 10 ((vNu r.b r.n r.s).cells) rfl Tryz.underlying28 rfl sz28)⟩ ⟨vrt (x := (vNu r.b r.n r.s)) rfl (by simp [numV, hf1p]), M⟩
  | false =>
   have hf1p := of_decide_eq_false hf1
   refine wl_b .neq 32 (.tmp 8) (.const (.int .i64 (0))) (.int .i64 (r.e)) (.int .i64 (0)) (.bool true) (ne34 hf1 _ _ _) ?_
   refine w_nil (xn_then (w_condT rfl (w_seq (w_reg ?_))))
   refine wl_call 16 [(.const (.int .i64 (2)))] _ [.int .i64 (2)] (.agg ((vBad (2)).cells).toArray) rfl rfl (fun _ _ => by kernel_rfl) (rbad_n (2) _) rfl ?_
   intro u3 hq
   replace Q1 := Q1.mo hq
   replace Q2 := Q2.mo hq
   replace M := M.trans hq
   clear hq
   refine wl_st 28 (.tmp 4) (.tmp 10) k2 0 (((vBad (2)).cells).toArray) _ ((vBad (2)).cells) Q2 rfl rfl rfl rfl rfl sz28 rfl rfl rfl ?_
   intro u4 hS Qn
   replace Q2 := Qn
   clear Qn
   replace Q1 := hS.other _ _ ne_k1_k2 Q1
   replace M := hS.mo _ N_k2 M
   clear hS
   refine w_nil (xn_then (w_ret (xr_then ?_)))
   exact w_ret1 _ (.agg ((vBad (2)).cells).toArray) rfl ⟨k2, rfl, (run_row Q2 28 0 10 ((vBad (2)).cells) rfl Tryz.underlying28 rfl sz28)⟩ ⟨vrt (x := (vBad (2))) rfl (by simp [numV, hf0p, hf1p]), M⟩
end Go.Proofs.YtogomodbcjpfiaaGreatDoor
