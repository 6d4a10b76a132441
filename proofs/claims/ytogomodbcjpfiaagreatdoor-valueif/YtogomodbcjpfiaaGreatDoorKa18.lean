/-
  A part of the proof.
-/
import Derived.Test.YtogomodbcjpfiaaGreatDoorKa17
import Derived.Test.YtogomodbcjpfiaaGreatDoorKa16
import Derived.Test.YtogomodbcjpfiaaGreatDoorKa15
import Derived.Test.YtogomodbcjpfiaaGreatDoorKa14
import Derived.Test.YtogomodbcjpfiaaGreatDoorKa1
import Derived.Shelf.Strings.Builder1
import Derived.Shelf.Strings.Builder2
import Derived.Shelf.Small.Bits
import Derived.Shelf.Small.Wraps
import Derived.Shelf.Strings.BuilderF
import Derived.Shelf.Strings.BuilderK
import Derived.Shelf.Strings.Prefix
import Derived.Shelf.Bits.Mul64
import Derived.Shelf.Strings.Repeat
import Derived.Test.YtogomodbcjpfiaaGreatDoorProg
import Derived.Shelf.Strconv.Itoa0
import Derived.Test.YtogomodbcjpfiaaGreatDoorKa11
import Derived.Test.YtogomodbcjpfiaaGreatDoorKa9
import Derived.Test.YtogomodbcjpfiaaGreatDoorKa4
import Derived.Test.YtogomodbcjpfiaaGreatDoorKa3
import Derived.Test.YtogomodbcjpfiaaGreatDoorKa2
import Derived.RegionTactic
import Derived.WalkKit
import Derived.WalkSpells
import Derived.Handy
import Derived.BigQuiet
import Derived.Deep.RegionHeld3
import Derived.Deep.MidRow
import Derived.BigCall
import Derived.Test.YtogomodbcjpfiaaGreatDoorKa8
import Derived.Test.YtogomodbcjpfiaaGreatDoorKa5
import Derived.Deep.CutBlock
import Derived.Deep.CutRange
import Derived.Test.YtogomodbcjpfiaaGreatDoorKa7
import Derived.Test.YtogomodbcjpfiaaGreatDoorKa6
import Derived.ChangeKeysEq
import Derived.ScopeJumps
import Derived.WalkMore
import Derived.Laws.StructEq
import Derived.Test.YtogomodbcjpfiaaGreatDoorKa10
import Derived.Test.YtogomodbcjpfiaaGreatDoorKa13
import Derived.Test.YtogomodbcjpfiaaGreatDoorKa12
import Derived.Lib.CutLaws
import Derived.Lib.IndexBytes
import Derived.Maps.OwnSet
import Derived.WalkArith
import Derived.StringKeys
namespace Go.Proofs.YtogomodbcjpfiaaGreatDoor
open Go.RowKit
theorem isError_n (e : Int) (w : World) : Calls Tryz.prog 43 #[.int .i64 e] w fun e9 w' => e9 = .returned (.bool (isE e)) ∧ Mo w w' := by
 refine w_enter 9 Tryz.func43 Tryz.ntmps43 rfl rfl ?_
 have M : Mo w w := Mo.refl _
 refine w_seq (w_reg ?_)
 refine wl_m (.const (.bool false)) (.bool false) ?_
 refine w_nil (xn_then (w_seq (w_reg ?_)))
 refine wl_m (.tmp 0) (.int .i64 (e)) ?_
 cases hf0 : decide (1 ≤ e) with
 | true =>
  have hf0p := of_decide_eq_true hf0
  refine wl_b .geq 3 (.tmp 3) (.const (.int .i64 (1))) (.int .i64 (e)) (.int .i64 (1)) (.bool true) (ge3 hf0 _ _ _) ?_
  refine wl_m (.tmp 4) (.bool true) ?_
  refine wl_m (.tmp 0) (.int .i64 (e)) ?_
  cases hf1 : decide (e ≤ 5) with
  | true =>
   have hf1p := of_decide_eq_true hf1
   refine wl_b .leq 3 (.tmp 6) (.const (.int .i64 (5))) (.int .i64 (e)) (.int .i64 (5)) (.bool true) (le3 hf1 _ _ _) ?_
   refine wl_pick (.tmp 5) (.tmp 7) (.const (.bool false)) true (.bool true) (fun _ => rfl) rfl rfl rfl ?_
   refine wl_m (.tmp 8) (.bool true) ?_
   refine w_nil (xn_then (w_ret ?_))
   exact w_ret1 _ (.bool true) rfl rfl ⟨by simp [isE, hf0p, hf1p], M⟩
  | false =>
   have hf1p := of_decide_eq_false hf1
   refine wl_b .leq 3 (.tmp 6) (.const (.int .i64 (5))) (.int .i64 (e)) (.int .i64 (5)) (.bool false) (le3 hf1 _ _ _) ?_
   refine wl_pick (.tmp 5) (.tmp 7) (.const (.bool false)) true (.bool false) (fun _ => rfl) rfl rfl rfl ?_
   refine wl_m (.tmp 8) (.bool false) ?_
   refine w_nil (xn_then (w_ret ?_))
   exact w_ret1 _ (.bool false) rfl rfl ⟨by simp [isE, hf0p, hf1p], M⟩
 | false =>
  have hf0p := of_decide_eq_false hf0
  refine wl_b .geq 3 (.tmp 3) (.const (.int .i64 (1))) (.int .i64 (e)) (.int .i64 (1)) (.bool false) (ge3 hf0 _ _ _) ?_
  refine wl_m (.tmp 4) (.bool false) ?_
  refine wl_skip rfl (wl_skip rfl ?_)
  refine wl_pick (.tmp 5) (.tmp 7) (.const (.bool false)) false (.bool false) (fun _ => rfl) rfl rfl rfl ?_
  refine wl_m (.tmp 8) (.bool false) ?_
  refine w_nil (xn_then (w_ret ?_))
  exact w_ret1 _ (.bool false) rfl rfl ⟨by simp [isE, hf0p], M⟩
theorem flag_n (f : Bool) (w : World) : Calls Tryz.prog 33 #[.bool f] w fun e9 w' => e9 = .returned (vFl f).v ∧ Mo w w' := by
 refine w_enter 5 Tryz.func33 Tryz.ntmps33 rfl rfl ?_
 have M : Mo w w := Mo.refl _
 refine w_seq (w_reg ?_)
 refine wl_alloc 28 #[.int .i64 0, .bool false, .int .u64 0, .int .u64 0, .int .u64 0, .int .u64 0, .int .i64 0, .bool false, .string ⟨#[]⟩, .int .i64 0] rfl (fun _ => by kernel_rfl) rfl ?_
 intro k1 u1 hk hz hq Q1
 have N_k1 : w.heap.size ≤ k1 := by have := M.size; omega
 replace M := M.trans hq
 clear hk hz hq
 refine w_nil (xn_then (w_seq (w_reg ?_)))
 refine wl_m (.tmp 0) (.bool f) ?_
 refine wl_build 28 [(0, (.const (.int .i64 (2)))), (2, (.tmp 3))] [(0, .int .i64 (2)), (2, .bool f)] (.agg #[.int .i64 (2), .bool false, .int .u64 0, .int .u64 0, .int .u64 0, .int .u64 0, .int .i64 0, .bool f, .string ⟨#[]⟩, .int .i64 0]) rfl rfl (by kernel_rfl) rfl ?_
 refine wl_st 28 (.tmp 2) (.tmp 4) k1 0 #[.int .i64 (2), .bool false, .int .u64 0, .int .u64 0, .int .u64 0, .int .u64 0, .int .i64 0, .bool f, .string ⟨#[]⟩, .int .i64 0] _ [.int .i64 (2), .bool false, .int .u64 0, .int .u64 0, .int .u64 0, .int .u64 0, .int .i64 0, .bool f, .string ⟨#[]⟩, .int .i64 0] Q1 rfl rfl rfl rfl rfl sz28 rfl rfl rfl ?_
 intro u2 hS Qn
 replace Q1 := Qn
 clear Qn
 replace M := hS.mo _ N_k1 M
 clear hS
 refine w_nil (xn_then (w_ret ?_))
 exact w_ret1 _ (.agg #[.int .i64 (2), .bool false, .int .u64 0, .int .u64 0, .int .u64 0, .int .u64 0, .int .i64 0, .bool f, .string ⟨#[]⟩, .int .i64 0]) rfl ⟨k1, rfl, (run_row Q1 28 0 10 _ rfl Tryz.underlying28 rfl sz28)⟩ ⟨rfl, M⟩
theorem bare_n (x : VL) (w : World) : Calls Tryz.prog 40 #[x.v] w fun e9 w' => e9 = .returned (bareV x).v ∧ Mo w w' := by
 refine w_enter 26 Tryz.func40 Tryz.ntmps40 rfl rfl ?_
 have M : Mo w w := Mo.refl _
 refine w_seq (w_reg ?_)
 refine wl_box 28 (.tmp 0) _ (((x.cells).toArray)) rfl rfl (fun _ => by kernel_rfl) rfl ?_
 intro k1 u1 hk hz hq Q1
 have N_k1 : w.heap.size ≤ k1 := by have := M.size; omega
 replace M := M.trans hq
 clear hk hz hq
 refine wl_alloc 28 #[.int .i64 0, .bool false, .int .u64 0, .int .u64 0, .int .u64 0, .int .u64 0, .int .i64 0, .bool false, .string ⟨#[]⟩, .int .i64 0] rfl (fun _ => by kernel_rfl) rfl ?_
 intro k2 u2 hk hz hq Q2
 have ne_k1_k2 : k1 ≠ k2 := by have := Q1.lt; omega
 have N_k2 : w.heap.size ≤ k2 := by have := M.size; omega
 replace Q1 := Q1.mo hq
 replace M := M.trans hq
 clear hk hz hq
 refine w_nil (xn_then (w_seq (w_seq (w_reg ?_))))
 refine wl_f 28 0 (.tmp 1) (pt k1 0) (pt k1 0) ?_
 refine wl_l 3 (.tmp 3) (pt k1 0) (.int .i64 (x.k)) (run_one Q1 3 0 rfl Tryz.underlying3 rfl) ?_
 refine w_nil (xn_then (w_block (w_seq (w_reg ?_))))
 cases hf0 : decide (x.k = 1) with
 | true =>
  have hf0p := of_decide_eq_true hf0
  refine wl_b .eql 3 (.tmp 4) (.const (.int .i64 (1))) (.int .i64 (x.k)) (.int .i64 (1)) (.bool true) (eq3 hf0 _ _ _) ?_
  refine wl_m (.tmp 6) (.bool true) ?_
  refine w_nil (xn_then (w_condT rfl (w_seq (w_reg ?_))))
  refine wl_f 28 1 (.tmp 1) (pt k1 0) (pt k1 1) ?_
  refine wl_l 26 (.tmp 7) (pt k1 1) (.agg #[.bool x.b, .int .u64 (l0 x.n), .int .u64 (l1 x.n), .int .u64 (l2 x.n), .int .u64 (l3 x.n), .int .i64 x.s]) (run_row Q1 26 1 6 _ rfl Tryz.underlying26 rfl sz26) ?_
  refine wl_build 28 [(0, (.const (.int .i64 (1)))), (1, (.tmp 8))] [(0, .int .i64 (1)), (1, .agg #[.bool x.b, .int .u64 (l0 x.n), .int .u64 (l1 x.n), .int .u64 (l2 x.n), .int .u64 (l3 x.n), .int .i64 x.s])] (.agg #[.int .i64 (1), .bool x.b, .int .u64 (l0 x.n), .int .u64 (l1 x.n), .int .u64 (l2 x.n), .int .u64 (l3 x.n), .int .i64 x.s, .bool false, .string ⟨#[]⟩, .int .i64 0]) rfl rfl (by kernel_rfl) rfl ?_
  refine wl_st 28 (.tmp 2) (.tmp 9) k2 0 #[.int .i64 (1), .bool x.b, .int .u64 (l0 x.n), .int .u64 (l1 x.n), .int .u64 (l2 x.n), .int .u64 (l3 x.n), .int .i64 x.s, .bool false, .string ⟨#[]⟩, .int .i64 0] _ [.int .i64 (1), .bool x.b, .int .u64 (l0 x.n), .int .u64 (l1 x.n), .int .u64 (l2 x.n), .int .u64 (l3 x.n), .int .i64 x.s, .bool false, .string ⟨#[]⟩, .int .i64 0] Q2 rfl rfl rfl rfl rfl sz28 rfl rfl rfl ?_
  intro u3 hS Qn
  replace Q2 := Qn
  clear Qn
  replace Q1 := hS.other _ _ ne_k1_k2 Q1
  replace M := hS.mo _ N_k2 M
  clear hS
  refine w_nil (xn_then (w_ret (xr_blk (xr_then ?_))))
  exact w_ret1 _ (.agg #[.int .i64 (1), .bool x.b, .int .u64 (l0 x.n), .int .u64 (l1 x.n), .int .u64 (l2 x.n), .int .u64 (l3 x.n), .int .i64 x.s, .bool false, .string ⟨#[]⟩, .int .i64 0]) rfl ⟨k2, rfl, (run_row Q2 28 0 10 _ rfl Tryz.underlying28 rfl sz28)⟩ ⟨vrt (x := (vNu x.b x.n x.s)) rfl (by simp [bareV, hf0p]), M⟩
 | false =>
  have hf0p := of_decide_eq_false hf0
  refine wl_b .eql 3 (.tmp 4) (.const (.int .i64 (1))) (.int .i64 (x.k)) (.int .i64 (1)) (.bool false) (eq3 hf0 _ _ _) ?_
  refine wl_m (.tmp 6) (.bool false) ?_
  refine w_nil (xn_then (w_condF rfl (w_seq (w_reg ?_))))
  cases hf1 : decide (x.k = 2) with
  | true =>
   have hf1p := of_decide_eq_true hf1
   refine wl_b .eql 3 (.tmp 4) (.const (.int .i64 (2))) (.int .i64 (x.k)) (.int .i64 (2)) (.bool true) (eq3 hf1 _ _ _) ?_
   refine wl_m (.tmp 11) (.bool true) ?_
   refine w_nil (xn_then (w_condT rfl (w_seq (w_reg ?_))))
   refine wl_f 28 2 (.tmp 1) (pt k1 0) (pt k1 7) ?_
   refine wl_l 4 (.tmp 12) (pt k1 7) (.bool x.f) (run_one Q1 4 7 rfl Tryz.underlying4 rfl) ?_
   refine wl_call 33 [(.tmp 13)] _ [.bool x.f] (.agg ((vFl x.f).cells).toArray) rfl rfl (fun _ _ => by kernel_rfl) (flag_n x.f _) rfl ?_
   intro u3 hq
   replace Q1 := Q1.mo hq
   replace Q2 := Q2.mo hq
   replace M := M.trans hq
   clear hq
   refine wl_st 28 (.tmp 2) (.tmp 14) k2 0 (((vFl x.f).cells).toArray) _ ((vFl x.f).cells) Q2 rfl rfl rfl rfl rfl sz28 rfl rfl rfl ?_
   intro u4 hS Qn
   replace Q2 := Qn
   clear Qn
   replace Q1 := hS.other _ _ ne_k1_k2 Q1
   replace M := hS.mo _ N_k2 M
   clear hS
   refine w_nil (xn_then (w_ret (xr_blk (xr_then ?_))))
   exact w_ret1 _ (.agg ((vFl x.f).cells).toArray) rfl ⟨k2, rfl, (run_row Q2 28 0 10 ((vFl x.f).cells) rfl Tryz.underlying28 rfl sz28)⟩ ⟨vrt (x := (vFl x.f)) rfl (by simp [bareV, hf1p]), M⟩
  | false =>
   have hf1p := of_decide_eq_false hf1
   refine wl_b .eql 3 (.tmp 4) (.const (.int .i64 (2))) (.int .i64 (x.k)) (.int .i64 (2)) (.bool false) (eq3 hf1 _ _ _) ?_
   refine wl_m (.tmp 11) (.bool false) ?_
   refine w_nil (xn_then (w_condF rfl (w_seq (w_reg ?_))))
   cases hf2 : decide (x.k = 3) with
   | true =>
    have hf2p := of_decide_eq_true hf2
    refine wl_b .eql 3 (.tmp 4) (.const (.int .i64 (3))) (.int .i64 (x.k)) (.int .i64 (3)) (.bool true) (eq3 hf2 _ _ _) ?_
    refine wl_m (.tmp 16) (.bool true) ?_
    refine w_nil (xn_then (w_condT rfl (w_seq (w_reg ?_))))
    refine wl_f 28 3 (.tmp 1) (pt k1 0) (pt k1 8) ?_
    refine wl_l 9 (.tmp 17) (pt k1 8) (.string x.t) (run_one Q1 9 8 rfl Tryz.underlying9 rfl) ?_
    refine wl_build 28 [(0, (.const (.int .i64 (3)))), (3, (.tmp 18))] [(0, .int .i64 (3)), (3, .string x.t)] (.agg #[.int .i64 (3), .bool false, .int .u64 0, .int .u64 0, .int .u64 0, .int .u64 0, .int .i64 0, .bool false, .string x.t, .int .i64 0]) rfl rfl (by kernel_rfl) rfl ?_
    refine wl_st 28 (.tmp 2) (.tmp 19) k2 0 #[.int .i64 (3), .bool false, .int .u64 0, .int .u64 0, .int .u64 0, .int .u64 0, .int .i64 0, .bool false, .string x.t, .int .i64 0] _ [.int .i64 (3), .bool false, .int .u64 0, .int .u64 0, .int .u64 0, .int .u64 0, .int .i64 0, .bool false, .string x.t, .int .i64 0] Q2 rfl rfl rfl rfl rfl sz28 rfl rfl rfl ?_
    intro u3 hS Qn
    replace Q2 := Qn
    clear Qn
    replace Q1 := hS.other _ _ ne_k1_k2 Q1
    replace M := hS.mo _ N_k2 M
    clear hS
    refine w_nil (xn_then (w_ret (xr_blk (xr_then ?_))))
    exact w_ret1 _ (.agg #[.int .i64 (3), .bool false, .int .u64 0, .int .u64 0, .int .u64 0, .int .u64 0, .int .i64 0, .bool false, .string x.t, .int .i64 0]) rfl ⟨k2, rfl, (run_row Q2 28 0 10 _ rfl Tryz.underlying28 rfl sz28)⟩ ⟨vrt (x := (vTx x.t)) rfl (by simp [bareV, hf2p]), M⟩
   | false =>
    have hf2p := of_decide_eq_false hf2
    refine wl_b .eql 3 (.tmp 4) (.const (.int .i64 (3))) (.int .i64 (x.k)) (.int .i64 (3)) (.bool false) (eq3 hf2 _ _ _) ?_
    refine wl_m (.tmp 16) (.bool false) ?_
    refine w_nil (xn_then (w_condF rfl (w_seq (w_reg ?_))))
    cases hf3 : decide (x.k = 4) with
    | true =>
     have hf3p := of_decide_eq_true hf3
     refine wl_b .eql 3 (.tmp 4) (.const (.int .i64 (4))) (.int .i64 (x.k)) (.int .i64 (4)) (.bool true) (eq3 hf3 _ _ _) ?_
     refine wl_m (.tmp 21) (.bool true) ?_
     refine w_nil (xn_then (w_condT rfl (w_seq (w_reg ?_))))
     refine wl_f 28 4 (.tmp 1) (pt k1 0) (pt k1 9) ?_
     refine wl_l 3 (.tmp 22) (pt k1 9) (.int .i64 (x.e)) (run_one Q1 3 9 rfl Tryz.underlying3 rfl) ?_
     refine wl_build 28 [(0, (.const (.int .i64 (4)))), (4, (.tmp 23))] [(0, .int .i64 (4)), (4, .int .i64 (x.e))] (.agg #[.int .i64 (4), .bool false, .int .u64 0, .int .u64 0, .int .u64 0, .int .u64 0, .int .i64 0, .bool false, .string ⟨#[]⟩, .int .i64 (x.e)]) rfl rfl (by kernel_rfl) rfl ?_
     refine wl_st 28 (.tmp 2) (.tmp 24) k2 0 #[.int .i64 (4), .bool false, .int .u64 0, .int .u64 0, .int .u64 0, .int .u64 0, .int .i64 0, .bool false, .string ⟨#[]⟩, .int .i64 (x.e)] _ [.int .i64 (4), .bool false, .int .u64 0, .int .u64 0, .int .u64 0, .int .u64 0, .int .i64 0, .bool false, .string ⟨#[]⟩, .int .i64 (x.e)] Q2 rfl rfl rfl rfl rfl sz28 rfl rfl rfl ?_
     intro u3 hS Qn
     replace Q2 := Qn
     clear Qn
     replace Q1 := hS.other _ _ ne_k1_k2 Q1
     replace M := hS.mo _ N_k2 M
     clear hS
     refine w_nil (xn_then (w_ret (xr_blk (xr_then ?_))))
     exact w_ret1 _ (.agg #[.int .i64 (4), .bool false, .int .u64 0, .int .u64 0, .int .u64 0, .int .u64 0, .int .i64 0, .bool false, .string ⟨#[]⟩, .int .i64 (x.e)]) rfl ⟨k2, rfl, (run_row Q2 28 0 10 _ rfl Tryz.underlying28 rfl sz28)⟩ ⟨vrt (x := (vEr x.e)) rfl (by simp [bareV, hf3p]), M⟩
    | false =>
     have hf3p := of_decide_eq_false hf3
     refine wl_b .eql 3 (.tmp 4) (.const (.int .i64 (4))) (.int .i64 (x.k)) (.int .i64 (4)) (.bool false) (eq3 hf3 _ _ _) ?_
     refine wl_m (.tmp 21) (.bool false) ?_
     refine w_nil (xn_then (w_condF rfl (w_skip (xn_blk (xn_then (w_seq (w_reg ?_)))))))
     refine wl_build 28 [(0, (.const (.int .i64 (0))))] [(0, .int .i64 (0))] (.agg #[.int .i64 (0), .bool false, .int .u64 0, .int .u64 0, .int .u64 0, .int .u64 0, .int .i64 0, .bool false, .string ⟨#[]⟩, .int .i64 0]) rfl rfl (by kernel_rfl) rfl ?_
     refine wl_st 28 (.tmp 2) (.tmp 25) k2 0 #[.int .i64 (0), .bool false, .int .u64 0, .int .u64 0, .int .u64 0, .int .u64 0, .int .i64 0, .bool false, .string ⟨#[]⟩, .int .i64 0] _ [.int .i64 (0), .bool false, .int .u64 0, .int .u64 0, .int .u64 0, .int .u64 0, .int .i64 0, .bool false, .string ⟨#[]⟩, .int .i64 0] Q2 rfl rfl rfl rfl rfl sz28 rfl rfl rfl ?_
     intro u3 hS Qn
     replace Q2 := Qn
     clear Qn
     replace Q1 := hS.other _ _ ne_k1_k2 Q1
     replace M := hS.mo _ N_k2 M
     clear hS
     refine w_nil (xn_then (w_ret ?_))
     exact w_ret1 _ (.agg #[.int .i64 (0), .bool false, .int .u64 0, .int .u64 0, .int .u64 0, .int .u64 0, .int .i64 0, .bool false, .string ⟨#[]⟩, .int .i64 0]) rfl ⟨k2, rfl, (run_row Q2 28 0 10 _ rfl Tryz.underlying28 rfl sz28)⟩ ⟨vrt (x := vBl) rfl (by simp [bareV, hf0p, hf1p, hf2p, hf3p]), M⟩
theorem inb_n (x : VL) (w : World) (hx : x.ok) : Calls Tryz.prog 41 #[x.v] w fun e9 w' => e9 = .returned (.bool (inB x)) ∧ Mo w w' := by
 refine w_enter 22 Tryz.func41 Tryz.ntmps41 rfl rfl ?_
 have M : Mo w w := Mo.refl _
 refine w_seq (w_reg ?_)
 refine wl_box 28 (.tmp 0) _ (((x.cells).toArray)) rfl rfl (fun _ => by kernel_rfl) rfl ?_
 intro k1 u1 hk hz hq Q1
 have N_k1 : w.heap.size ≤ k1 := by have := M.size; omega
 replace M := M.trans hq
 clear hk hz hq
 refine wl_m (.const (.bool false)) (.bool false) ?_
 refine w_nil (xn_then (w_seq (w_seq (w_reg ?_))))
 refine wl_f 28 0 (.tmp 1) (pt k1 0) (pt k1 0) ?_
 refine wl_l 3 (.tmp 3) (pt k1 0) (.int .i64 (x.k)) (run_one Q1 3 0 rfl Tryz.underlying3 rfl) ?_
 refine w_nil (xn_then (w_block (w_seq (w_reg ?_))))
 cases hf0 : decide (x.k = 1) with
 | true =>
  have hf0p := of_decide_eq_true hf0
  refine wl_b .eql 3 (.tmp 4) (.const (.int .i64 (1))) (.int .i64 (x.k)) (.int .i64 (1)) (.bool true) (eq3 hf0 _ _ _) ?_
  refine wl_m (.tmp 6) (.bool true) ?_
  refine w_nil (xn_then (w_condT rfl (w_seq (w_reg ?_))))
  refine wl_f 28 1 (.tmp 1) (pt k1 0) (pt k1 1) ?_
  refine wl_l 26 (.tmp 7) (pt k1 1) (.agg #[.bool x.b, .int .u64 (l0 x.n), .int .u64 (l1 x.n), .int .u64 (l2 x.n), .int .u64 (l3 x.n), .int .i64 x.s]) (run_row Q1 26 1 6 _ rfl Tryz.underlying26 rfl sz26) ?_
  refine wl_call 68 [(.tmp 8)] _ [.agg #[.bool x.b, .int .u64 (l0 x.n), .int .u64 (l1 x.n), .int .u64 (l2 x.n), .int .u64 (l3 x.n), .int .i64 x.s]] (.int .i64 (ck x.b x.n x.s)) rfl rfl (fun _ _ => by kernel_rfl) (check_n x.b x.n x.s _ hx.1 hx.2) rfl ?_
  intro u2 hq
  replace Q1 := Q1.mo hq
  replace M := M.trans hq
  clear hq
  cases hf1 : decide (ck x.b x.n x.s = 0) with
  | true =>
   have hf1p := of_decide_eq_true hf1
   refine wl_b .eql 32 (.tmp 9) (.const (.int .i64 (0))) (.int .i64 (ck x.b x.n x.s)) (.int .i64 (0)) (.bool true) (eq34 hf1 _ _ _) ?_
   refine wl_m (.tmp 10) (.bool true) ?_
   refine w_nil (xn_then (w_ret (xr_blk (xr_then ?_))))
   exact w_ret1 _ (.bool true) rfl rfl ⟨by simp [inB, hf0p, hf1p] <;> omega, M⟩
  | false =>
   have hf1p := of_decide_eq_false hf1
   refine wl_b .eql 32 (.tmp 9) (.const (.int .i64 (0))) (.int .i64 (ck x.b x.n x.s)) (.int .i64 (0)) (.bool false) (eq34 hf1 _ _ _) ?_
   refine wl_m (.tmp 10) (.bool false) ?_
   refine w_nil (xn_then (w_ret (xr_blk (xr_then ?_))))
   exact w_ret1 _ (.bool false) rfl rfl ⟨by simp [inB, hf0p, hf1p] <;> omega, M⟩
 | false =>
  have hf0p := of_decide_eq_false hf0
  refine wl_b .eql 3 (.tmp 4) (.const (.int .i64 (1))) (.int .i64 (x.k)) (.int .i64 (1)) (.bool false) (eq3 hf0 _ _ _) ?_
  refine wl_m (.tmp 6) (.bool false) ?_
  refine w_nil (xn_then (w_condF rfl (w_seq (w_reg ?_))))
  cases hf1 : decide (x.k = 3) with
  | true =>
   have hf1p := of_decide_eq_true hf1
   refine wl_b .eql 3 (.tmp 4) (.const (.int .i64 (3))) (.int .i64 (x.k)) (.int .i64 (3)) (.bool true) (eq3 hf1 _ _ _) ?_
   refine wl_m (.tmp 12) (.bool true) ?_
   refine w_nil (xn_then (w_condT rfl (w_seq (w_reg ?_))))
   refine wl_f 28 3 (.tmp 1) (pt k1 0) (pt k1 8) ?_
   refine wl_l 9 (.tmp 13) (pt k1 8) (.string x.t) (run_one Q1 9 8 rfl Tryz.underlying9 rfl) ?_
   refine wl_val (.int .i64 ((x.t.size : Nat) : Int)) (len_s _ _ _ (by exact rfl) _ _ _ _ _ _) rfl ?_
   cases hf2 : decide (((x.t.size : Nat) : Int) ≤ 64) with
   | true =>
    have hf2p := of_decide_eq_true hf2
    refine wl_b .leq 3 (.tmp 15) (.const (.int .i64 (64))) (.int .i64 ((x.t.size : Nat) : Int)) (.int .i64 (64)) (.bool true) (le3 hf2 _ _ _) ?_
    refine wl_m (.tmp 16) (.bool true) ?_
    refine w_nil (xn_then (w_ret (xr_blk (xr_then ?_))))
    exact w_ret1 _ (.bool true) rfl rfl ⟨by simp [inB, hf1p] <;> omega, M⟩
   | false =>
    have hf2p := of_decide_eq_false hf2
    refine wl_b .leq 3 (.tmp 15) (.const (.int .i64 (64))) (.int .i64 ((x.t.size : Nat) : Int)) (.int .i64 (64)) (.bool false) (le3 hf2 _ _ _) ?_
    refine wl_m (.tmp 16) (.bool false) ?_
    refine w_nil (xn_then (w_ret (xr_blk (xr_then ?_))))
    exact w_ret1 _ (.bool false) rfl rfl ⟨by simp [inB, hf1p] <;> omega, M⟩
  | false =>
   have hf1p := of_decide_eq_false hf1
   refine wl_b .eql 3 (.tmp 4) (.const (.int .i64 (3))) (.int .i64 (x.k)) (.int .i64 (3)) (.bool false) (eq3 hf1 _ _ _) ?_
   refine wl_m (.tmp 12) (.bool false) ?_
   refine w_nil (xn_then (w_condF rfl (w_seq (w_reg ?_))))
   cases hf2 : decide (x.k = 4) with
   | true =>
    have hf2p := of_decide_eq_true hf2
    refine wl_b .eql 3 (.tmp 4) (.const (.int .i64 (4))) (.int .i64 (x.k)) (.int .i64 (4)) (.bool true) (eq3 hf2 _ _ _) ?_
    refine wl_m (.tmp 18) (.bool true) ?_
    refine w_nil (xn_then (w_condT rfl (w_seq (w_reg ?_))))
    refine wl_f 28 4 (.tmp 1) (pt k1 0) (pt k1 9) ?_
    refine wl_l 3 (.tmp 19) (pt k1 9) (.int .i64 (x.e)) (run_one Q1 3 9 rfl Tryz.underlying3 rfl) ?_
    cases hf3 : isE (x.e) with
    | true =>
     refine wl_call 43 [(.tmp 20)] _ [.int .i64 (x.e)] (.bool true) rfl rfl (fun _ _ => by kernel_rfl) (cB hf3 (isError_n (x.e) _)) rfl ?_
     intro u2 hq
     replace Q1 := Q1.mo hq
     replace M := M.trans hq
     clear hq
     refine wl_m (.tmp 21) (.bool true) ?_
     refine w_nil (xn_then (w_ret (xr_blk (xr_then ?_))))
     exact w_ret1 _ (.bool true) rfl rfl ⟨by simp [inB, hf2p, hf3] <;> omega, M⟩
    | false =>
     refine wl_call 43 [(.tmp 20)] _ [.int .i64 (x.e)] (.bool false) rfl rfl (fun _ _ => by kernel_rfl) (cB hf3 (isError_n (x.e) _)) rfl ?_
     intro u2 hq
     replace Q1 := Q1.mo hq
     replace M := M.trans hq
     clear hq
     refine wl_m (.tmp 21) (.bool false) ?_
     refine w_nil (xn_then (w_ret (xr_blk (xr_then ?_))))
     exact w_ret1 _ (.bool false) rfl rfl ⟨by simp [inB, hf2p, hf3] <;> omega, M⟩
   | false =>
    have hf2p := of_decide_eq_false hf2
    refine wl_b .eql 3 (.tmp 4) (.const (.int .i64 (4))) (.int .i64 (x.k)) (.int .i64 (4)) (.bool false) (eq3 hf2 _ _ _) ?_
    refine wl_m (.tmp 18) (.bool false) ?_
    refine w_nil (xn_then (w_condF rfl (w_skip (xn_blk (xn_then (w_seq (w_reg ?_)))))))
    refine wl_m (.const (.bool true)) (.bool true) ?_
    refine w_nil (xn_then (w_ret ?_))
    exact w_ret1 _ (.bool true) rfl rfl ⟨by simp [inB, hf0p, hf1p, hf2p] <;> omega, M⟩
theorem chk_n (x : VL) (w : World) (hx : x.ok) : Calls Tryz.prog 13 #[x.v] w fun e9 w' => e9 = .returned (.int .i64 (ckI x)) ∧ Mo w w' := by
 refine w_enter 12 Tryz.func13 Tryz.ntmps13 rfl rfl ?_
 have M : Mo w w := Mo.refl _
 refine w_seq (w_reg ?_)
 refine wl_box 28 (.tmp 0) _ (((x.cells).toArray)) rfl rfl (fun _ => by kernel_rfl) rfl ?_
 intro k1 u1 hk hz hq Q1
 have N_k1 : w.heap.size ≤ k1 := by have := M.size; omega
 replace M := M.trans hq
 clear hk hz hq
 refine wl_m (.const (.int .i64 (0))) (.int .i64 (0)) ?_
 refine w_nil (xn_then (w_seq (w_seq ?_)))
 cases hf0 : svv x (bareV x) with
 | true =>
  cases hf1 : inB x with
  | true =>
   refine w_any 3 [.inl (.agg (x.cells).toArray), .inl (.agg (x.cells).toArray), .inl (.agg ((bareV x).cells).toArray)] [] (by kernel_rfl) (by kernel_rfl) (by kernel_rfl) (by kernel_rfl) rfl (by kernel_rfl) (by kernel_rfl) late_nil ?_ ?_ ?_
   ·exact Ds.none rfl
   ·refine ea_cons ?_ (ea_cons ?_ (ea_cons ?_ (ea_nil)))
    ·exact og_eq _ rfl (fun f wf hq hd K hK => have Q1 := Q1.mo hq; go_run rfl (wo_load 28 (.tmp 1) (pt k1 0) (.agg (x.cells).toArray) rfl rfl (run_row Q1 28 0 10 (x.cells) rfl Tryz.underlying28 rfl sz28) (hK _ (Mo.refl _))))
    ·exact og_eq _ rfl (fun f wf hq hd K hK => have Q1 := Q1.mo hq; go_run rfl (wo_load 28 (.tmp 1) (pt k1 0) (.agg (x.cells).toArray) rfl rfl (run_row Q1 28 0 10 (x.cells) rfl Tryz.underlying28 rfl sz28) (hK _ (Mo.refl _))))
    ·exact og_eq _ rfl (fun f wf hq hd K hK => go_run rfl (wo_call 40 [(.tmp 4)] _ [.agg (x.cells).toArray] (.agg ((bareV x).cells).toArray) rfl (li1 (hd 1 rfl)) (fun _ _ => by kernel_rfl) (bare_n x _) hK))
   intro kf2 u2 hq hR hne
   replace Q1 := Q1.mo hq
   replace M := M.trans hq
   clear hq hR hne
   refine wl_b .neq 28 (.tmp 3) (.tmp 5) (.agg (x.cells).toArray) (.agg ((bareV x).cells).toArray) (.bool false) (neW hf0 _ _ _) ?_
   refine wl_m (.tmp 6) (.bool false) ?_
   refine wl_l 28 (.tmp 1) (pt k1 0) (.agg (x.cells).toArray) (run_row Q1 28 0 10 (x.cells) rfl Tryz.underlying28 rfl sz28) ?_
   refine wl_call 41 [(.tmp 8)] _ [.agg (x.cells).toArray] (.bool true) rfl rfl (fun _ _ => by kernel_rfl) (cB hf1 (inb_n x _ hx)) rfl ?_
   intro u3 hq
   replace Q1 := Q1.mo hq
   replace M := M.trans hq
   clear hq
   refine wl_un (fun v => Op.unary .not v) (.tmp 9) (.bool true) (.bool false) (fun _ => rfl) rfl (by kernel_rfl) rfl ?_
   refine wl_pick (.tmp 7) (.const (.bool true)) (.tmp 10) false (.bool false) (fun _ => rfl) rfl rfl rfl ?_
   refine w_nil (xn_then (w_condF rfl (w_skip (xn_then (w_seq (w_reg ?_))))))
   refine wl_m (.const (.int .i64 (0))) (.int .i64 (0)) ?_
   refine w_nil (xn_then (w_ret ?_))
   exact w_ret1 _ (.int .i64 (0)) rfl rfl ⟨by simp [ckI, ckv, hf0, hf1], M⟩
  | false =>
   refine w_any 3 [.inl (.agg (x.cells).toArray), .inl (.agg (x.cells).toArray), .inl (.agg ((bareV x).cells).toArray)] [] (by kernel_rfl) (by kernel_rfl) (by kernel_rfl) (by kernel_rfl) rfl (by kernel_rfl) (by kernel_rfl) late_nil ?_ ?_ ?_
   ·exact Ds.none rfl
   ·refine ea_cons ?_ (ea_cons ?_ (ea_cons ?_ (ea_nil)))
    ·exact og_eq _ rfl (fun f wf hq hd K hK => have Q1 := Q1.mo hq; go_run rfl (wo_load 28 (.tmp 1) (pt k1 0) (.agg (x.cells).toArray) rfl rfl (run_row Q1 28 0 10 (x.cells) rfl Tryz.underlying28 rfl sz28) (hK _ (Mo.refl _))))
    ·exact og_eq _ rfl (fun f wf hq hd K hK => have Q1 := Q1.mo hq; go_run rfl (wo_load 28 (.tmp 1) (pt k1 0) (.agg (x.cells).toArray) rfl rfl (run_row Q1 28 0 10 (x.cells) rfl Tryz.underlying28 rfl sz28) (hK _ (Mo.refl _))))
    ·exact og_eq _ rfl (fun f wf hq hd K hK => go_run rfl (wo_call 40 [(.tmp 4)] _ [.agg (x.cells).toArray] (.agg ((bareV x).cells).toArray) rfl (li1 (hd 1 rfl)) (fun _ _ => by kernel_rfl) (bare_n x _) hK))
   intro kf2 u2 hq hR hne
   replace Q1 := Q1.mo hq
   replace M := M.trans hq
   clear hq hR hne
   refine wl_b .neq 28 (.tmp 3) (.tmp 5) (.agg (x.cells).toArray) (.agg ((bareV x).cells).toArray) (.bool false) (neW hf0 _ _ _) ?_
   refine wl_m (.tmp 6) (.bool false) ?_
   refine wl_l 28 (.tmp 1) (pt k1 0) (.agg (x.cells).toArray) (run_row Q1 28 0 10 (x.cells) rfl Tryz.underlying28 rfl sz28) ?_
   refine wl_call 41 [(.tmp 8)] _ [.agg (x.cells).toArray] (.bool false) rfl rfl (fun _ _ => by kernel_rfl) (cB hf1 (inb_n x _ hx)) rfl ?_
   intro u3 hq
   replace Q1 := Q1.mo hq
   replace M := M.trans hq
   clear hq
   refine wl_un (fun v => Op.unary .not v) (.tmp 9) (.bool false) (.bool true) (fun _ => rfl) rfl (by kernel_rfl) rfl ?_
   refine wl_pick (.tmp 7) (.const (.bool true)) (.tmp 10) false (.bool true) (fun _ => rfl) rfl rfl rfl ?_
   refine w_nil (xn_then (w_condT rfl (w_seq (w_reg ?_))))
   refine wl_m (.const (.int .i64 (1))) (.int .i64 (1)) ?_
   refine w_nil (xn_then (w_ret (xr_then ?_)))
   exact w_ret1 _ (.int .i64 (1)) rfl rfl ⟨by simp [ckI, ckv, hf0, hf1], M⟩
 | false =>
  refine w_any 3 [.inl (.agg (x.cells).toArray), .inl (.agg (x.cells).toArray), .inl (.agg ((bareV x).cells).toArray)] [] (by kernel_rfl) (by kernel_rfl) (by kernel_rfl) (by kernel_rfl) rfl (by kernel_rfl) (by kernel_rfl) late_nil ?_ ?_ ?_
  ·exact Ds.none rfl
  ·refine ea_cons ?_ (ea_cons ?_ (ea_cons ?_ (ea_nil)))
   ·exact og_eq _ rfl (fun f wf hq hd K hK => have Q1 := Q1.mo hq; go_run rfl (wo_load 28 (.tmp 1) (pt k1 0) (.agg (x.cells).toArray) rfl rfl (run_row Q1 28 0 10 (x.cells) rfl Tryz.underlying28 rfl sz28) (hK _ (Mo.refl _))))
   ·exact og_eq _ rfl (fun f wf hq hd K hK => have Q1 := Q1.mo hq; go_run rfl (wo_load 28 (.tmp 1) (pt k1 0) (.agg (x.cells).toArray) rfl rfl (run_row Q1 28 0 10 (x.cells) rfl Tryz.underlying28 rfl sz28) (hK _ (Mo.refl _))))
   ·exact og_eq _ rfl (fun f wf hq hd K hK => go_run rfl (wo_call 40 [(.tmp 4)] _ [.agg (x.cells).toArray] (.agg ((bareV x).cells).toArray) rfl (li1 (hd 1 rfl)) (fun _ _ => by kernel_rfl) (bare_n x _) hK))
  intro kf2 u2 hq hR hne
  replace Q1 := Q1.mo hq
  replace M := M.trans hq
  clear hq hR hne
  refine wl_b .neq 28 (.tmp 3) (.tmp 5) (.agg (x.cells).toArray) (.agg ((bareV x).cells).toArray) (.bool true) (neW hf0 _ _ _) ?_
  refine wl_m (.tmp 6) (.bool true) ?_
  refine wl_skip rfl (wl_skip rfl (wl_skip rfl ?_))
  refine wl_pick (.tmp 7) (.const (.bool true)) (.tmp 10) true (.bool true) (fun _ => rfl) rfl rfl rfl ?_
  refine w_nil (xn_then (w_condT rfl (w_seq (w_reg ?_))))
  refine wl_m (.const (.int .i64 (1))) (.int .i64 (1)) ?_
  refine w_nil (xn_then (w_ret (xr_then ?_)))
  exact w_ret1 _ (.int .i64 (1)) rfl rfl ⟨by simp [ckI, ckv, hf0], M⟩
theorem check_t {x : VL} (hc : ckv x = true) (hx : x.ok) (w : World) : Calls Tryz.prog 13 #[x.v] w fun e9 w' => e9 = .returned (.int .i64 0) ∧ Mo w w' := by
 have q := chk_n x w hx
 unfold ckI at q
 rw [hc] at q
 exact q
theorem check_f {x : VL} (hc : ckv x = false) (hx : x.ok) (w : World) : Calls Tryz.prog 13 #[x.v] w fun e9 w' => e9 = .returned (.int .i64 1) ∧ Mo w w' := by
 have q := chk_n x w hx
 unfold ckI at q
 rw [hc] at q
 exact q
theorem bad_n (e : Int) (w : World) : Calls Tryz.prog 15 #[.int .i64 e] w fun e9 w' => e9 = .returned (vBad e).v ∧ Mo w w' := by
 refine w_enter 8 Tryz.func15 Tryz.ntmps15 rfl rfl ?_
 have M : Mo w w := Mo.refl _
 refine w_seq (w_reg ?_)
 refine wl_alloc 28 #[.int .i64 0, .bool false, .int .u64 0, .int .u64 0, .int .u64 0, .int .u64 0, .int .i64 0, .bool false, .string ⟨#[]⟩, .int .i64 0] rfl (fun _ => by kernel_rfl) rfl ?_
 intro k1 u1 hk hz hq Q1
 have N_k1 : w.heap.size ≤ k1 := by have := M.size; omega
 replace M := M.trans hq
 clear hk hz hq
 refine w_nil (xn_then (w_seq (w_seq (w_reg ?_))))
 refine wl_m (.tmp 0) (.int .i64 (e)) ?_
 cases hf0 : isE (e) with
 | true =>
  refine wl_call 43 [(.tmp 3)] _ [.int .i64 (e)] (.bool true) rfl rfl (fun _ _ => by kernel_rfl) (cB hf0 (isError_n (e) _)) rfl ?_
  intro u2 hq
  replace Q1 := Q1.mo hq
  replace M := M.trans hq
  clear hq
  refine wl_un (fun v => Op.unary .not v) (.tmp 4) (.bool true) (.bool false) (fun _ => rfl) rfl (by kernel_rfl) rfl ?_
  refine w_nil (xn_then (w_condF rfl (w_skip (xn_then (w_seq (w_reg ?_))))))
  refine wl_m (.tmp 0) (.int .i64 (e)) ?_
  refine wl_build 28 [(0, (.const (.int .i64 (4)))), (4, (.tmp 6))] [(0, .int .i64 (4)), (4, .int .i64 (e))] (.agg #[.int .i64 (4), .bool false, .int .u64 0, .int .u64 0, .int .u64 0, .int .u64 0, .int .i64 0, .bool false, .string ⟨#[]⟩, .int .i64 (e)]) rfl rfl (by kernel_rfl) rfl ?_
  refine wl_st 28 (.tmp 2) (.tmp 7) k1 0 #[.int .i64 (4), .bool false, .int .u64 0, .int .u64 0, .int .u64 0, .int .u64 0, .int .i64 0, .bool false, .string ⟨#[]⟩, .int .i64 (e)] _ [.int .i64 (4), .bool false, .int .u64 0, .int .u64 0, .int .u64 0, .int .u64 0, .int .i64 0, .bool false, .string ⟨#[]⟩, .int .i64 (e)] Q1 rfl rfl rfl rfl rfl sz28 rfl rfl rfl ?_
  intro u3 hS Qn
  replace Q1 := Qn
  clear Qn
  replace M := hS.mo _ N_k1 M
  clear hS
  refine w_nil (xn_then (w_ret ?_))
  exact w_ret1 _ (.agg #[.int .i64 (4), .bool false, .int .u64 0, .int .u64 0, .int .u64 0, .int .u64 0, .int .i64 0, .bool false, .string ⟨#[]⟩, .int .i64 (e)]) rfl ⟨k1, rfl, (run_row Q1 28 0 10 _ rfl Tryz.underlying28 rfl sz28)⟩ ⟨vrt (x := (vEr e)) rfl (by simp [vBad, hf0]), M⟩
 | false =>
  refine wl_call 43 [(.tmp 3)] _ [.int .i64 (e)] (.bool false) rfl rfl (fun _ _ => by kernel_rfl) (cB hf0 (isError_n (e) _)) rfl ?_
  intro u2 hq
  replace Q1 := Q1.mo hq
  replace M := M.trans hq
  clear hq
  refine wl_un (fun v => Op.unary .not v) (.tmp 4) (.bool false) (.bool true) (fun _ => rfl) rfl (by kernel_rfl) rfl ?_
  refine w_nil (xn_then (w_condT rfl (w_reg ?_)))
  refine wl_m (.const (.int .i64 (2))) (.int .i64 (2)) ?_
  refine w_nil (xn_then (w_seq (w_reg ?_)))
  refine wl_m (.tmp 0) (.int .i64 (2)) ?_
  refine wl_build 28 [(0, (.const (.int .i64 (4)))), (4, (.tmp 6))] [(0, .int .i64 (4)), (4, .int .i64 (2))] (.agg #[.int .i64 (4), .bool false, .int .u64 0, .int .u64 0, .int .u64 0, .int .u64 0, .int .i64 0, .bool false, .string ⟨#[]⟩, .int .i64 (2)]) rfl rfl (by kernel_rfl) rfl ?_
  refine wl_st 28 (.tmp 2) (.tmp 7) k1 0 #[.int .i64 (4), .bool false, .int .u64 0, .int .u64 0, .int .u64 0, .int .u64 0, .int .i64 0, .bool false, .string ⟨#[]⟩, .int .i64 (2)] _ [.int .i64 (4), .bool false, .int .u64 0, .int .u64 0, .int .u64 0, .int .u64 0, .int .i64 0, .bool false, .string ⟨#[]⟩, .int .i64 (2)] Q1 rfl rfl rfl rfl rfl sz28 rfl rfl rfl ?_
  intro u3 hS Qn
  replace Q1 := Qn
  clear Qn
  replace M := hS.mo _ N_k1 M
  clear hS
  refine w_nil (xn_then (w_ret ?_))
  exact w_ret1 _ (.agg #[.int .i64 (4), .bool false, .int .u64 0, .int .u64 0, .int .u64 0, .int .u64 0, .int .i64 0, .bool false, .string ⟨#[]⟩, .int .i64 (2)]) rfl ⟨k1, rfl, (run_row Q1 28 0 10 _ rfl Tryz.underlying28 rfl sz28)⟩ ⟨vrt (x := (vEr 2)) rfl (by simp [vBad, hf0]), M⟩
theorem number_n (r : DR) (w : World) : Calls Tryz.prog 45 #[dc r.b r.n r.s, .int .i64 r.e] w fun e9 w' => e9 = .returned (numV r).v ∧ Mo w w' := by
 refine w_enter 14 Tryz.func45 Tryz.ntmps45 rfl rfl ?_
 have M : Mo w w := Mo.refl _
 refine w_seq (w_reg ?_)
 refine wl_box 26 (.tmp 0) _ (#[.bool r.b, .int .u64 (l0 r.n), .int .u64 (l1 r.n), .int .u64 (l2 r.n), .int .u64 (l3 r.n), .int .i64 r.s]) rfl rfl (fun _ => by kernel_rfl) rfl ?_
 intro k1 u1 hk hz hq Q1
 have N_k1 : w.heap.size ≤ k1 := by have := M.size; omega
 replace M := M.trans hq
 clear hk hz hq
 refine wl_alloc 28 #[.int .i64 0, .bool false, .int .u64 0, .int .u64 0, .int .u64 0, .int .u64 0, .int .i64 0, .bool false, .string ⟨#[]⟩, .int .i64 0] rfl (fun _ => by kernel_rfl) rfl ?_
 intro k2 u2 hk hz hq Q2
 have ne_k1_k2 : k1 ≠ k2 := by have := Q1.lt; omega
 have N_k2 : w.heap.size ≤ k2 := by have := M.size; omega
 replace Q1 := Q1.mo hq
 replace M := M.trans hq
 clear hk hz hq
 refine w_nil (xn_then (w_seq (w_seq (w_reg ?_))))
 refine wl_m (.tmp 1) (.int .i64 (r.e)) ?_
 refine w_nil (xn_then (w_block (w_seq (w_reg ?_))))
 cases hf0 : decide (r.e = 0) with
 | true =>
  have hf0p := of_decide_eq_true hf0
  refine wl_b .eql 32 (.tmp 5) (.const (.int .i64 (0))) (.int .i64 (r.e)) (.int .i64 (0)) (.bool true) (eq34 hf0 _ _ _) ?_
  refine wl_m (.tmp 7) (.bool true) ?_
  refine w_nil (xn_then (w_condT rfl (w_seq (w_reg ?_))))
  refine wl_l 26 (.tmp 2) (pt k1 0) (.agg #[.bool r.b, .int .u64 (l0 r.n), .int .u64 (l1 r.n), .int .u64 (l2 r.n), .int .u64 (l3 r.n), .int .i64 r.s]) (run_row Q1 26 0 6 _ rfl Tryz.underlying26 rfl sz26) ?_
  refine wl_build 28 [(0, (.const (.int .i64 (1)))), (1, (.tmp 8))] [(0, .int .i64 (1)), (1, .agg #[.bool r.b, .int .u64 (l0 r.n), .int .u64 (l1 r.n), .int .u64 (l2 r.n), .int .u64 (l3 r.n), .int .i64 r.s])] (.agg #[.int .i64 (1), .bool r.b, .int .u64 (l0 r.n), .int .u64 (l1 r.n), .int .u64 (l2 r.n), .int .u64 (l3 r.n), .int .i64 r.s, .bool false, .string ⟨#[]⟩, .int .i64 0]) rfl rfl (by kernel_rfl) rfl ?_
  refine wl_st 28 (.tmp 4) (.tmp 9) k2 0 #[.int .i64 (1), .bool r.b, .int .u64 (l0 r.n), .int .u64 (l1 r.n), .int .u64 (l2 r.n), .int .u64 (l3 r.n), .int .i64 r.s, .bool false, .string ⟨#[]⟩, .int .i64 0] _ [.int .i64 (1), .bool r.b, .int .u64 (l0 r.n), .int .u64 (l1 r.n), .int .u64 (l2 r.n), .int .u64 (l3 r.n), .int .i64 r.s, .bool false, .string ⟨#[]⟩, .int .i64 0] Q2 rfl rfl rfl rfl rfl sz28 rfl rfl rfl ?_
  intro u3 hS Qn
  replace Q2 := Qn
  clear Qn
  replace Q1 := hS.other _ _ ne_k1_k2 Q1
  replace M := hS.mo _ N_k2 M
  clear hS
  refine w_nil (xn_then (w_ret (xr_blk (xr_then ?_))))
  exact w_ret1 _ (.agg #[.int .i64 (1), .bool r.b, .int .u64 (l0 r.n), .int .u64 (l1 r.n), .int .u64 (l2 r.n), .int .u64 (l3 r.n), .int .i64 r.s, .bool false, .string ⟨#[]⟩, .int .i64 0]) rfl ⟨k2, rfl, (run_row Q2 28 0 10 _ rfl Tryz.underlying28 rfl sz28)⟩ ⟨vrt (x := (vNu r.b r.n r.s)) rfl (by simp [numV, hf0p]), M⟩
 | false =>
  have hf0p := of_decide_eq_false hf0
  refine wl_b .eql 32 (.tmp 5) (.const (.int .i64 (0))) (.int .i64 (r.e)) (.int .i64 (0)) (.bool false) (eq34 hf0 _ _ _) ?_
  refine wl_m (.tmp 7) (.bool false) ?_
  refine w_nil (xn_then (w_condF rfl (w_seq (w_reg ?_))))
  cases hf1 : decide (r.e = 7) with
  | true =>
   have hf1p := of_decide_eq_true hf1
   refine wl_b .eql 32 (.tmp 5) (.const (.int .i64 (7))) (.int .i64 (r.e)) (.int .i64 (7)) (.bool true) (eq34 hf1 _ _ _) ?_
   refine wl_m (.tmp 11) (.bool true) ?_
   refine w_nil (xn_then (w_condT rfl (w_seq (w_reg ?_))))
   refine wl_call 15 [(.const (.int .i64 (1)))] _ [.int .i64 (1)] (.agg ((vBad (1)).cells).toArray) rfl rfl (fun _ _ => by kernel_rfl) (bad_n (1) _) rfl ?_
   intro u3 hq
   replace Q1 := Q1.mo hq
   replace Q2 := Q2.mo hq
   replace M := M.trans hq
   clear hq
   refine wl_st 28 (.tmp 4) (.tmp 12) k2 0 (((vBad (1)).cells).toArray) _ ((vBad (1)).cells) Q2 rfl rfl rfl rfl rfl sz28 rfl rfl rfl ?_
   intro u4 hS Qn
   replace Q2 := Qn
   clear Qn
   replace Q1 := hS.other _ _ ne_k1_k2 Q1
   replace M := hS.mo _ N_k2 M
   clear hS
   refine w_nil (xn_then (w_ret (xr_blk (xr_then ?_))))
   exact w_ret1 _ (.agg ((vBad (1)).cells).toArray) rfl ⟨k2, rfl, (run_row Q2 28 0 10 ((vBad (1)).cells) rfl Tryz.underlying28 rfl sz28)⟩ ⟨vrt (x := (vBad (1))) rfl (by simp [numV, hf1p]), M⟩
  | false =>
   have hf1p := of_decide_eq_false hf1
   refine wl_b .eql 32 (.tmp 5) (.const (.int .i64 (7))) (.int .i64 (r.e)) (.int .i64 (7)) (.bool false) (eq34 hf1 _ _ _) ?_
   refine wl_m (.tmp 11) (.bool false) ?_
   refine w_nil (xn_then (w_condF rfl (w_skip (xn_blk (xn_then (w_seq (w_reg ?_)))))))
   refine wl_call 15 [(.const (.int .i64 (2)))] _ [.int .i64 (2)] (.agg ((vBad (2)).cells).toArray) rfl rfl (fun _ _ => by kernel_rfl) (bad_n (2) _) rfl ?_
   intro u3 hq
   replace Q1 := Q1.mo hq
   replace Q2 := Q2.mo hq
   replace M := M.trans hq
   clear hq
   refine wl_st 28 (.tmp 4) (.tmp 13) k2 0 (((vBad (2)).cells).toArray) _ ((vBad (2)).cells) Q2 rfl rfl rfl rfl rfl sz28 rfl rfl rfl ?_
   intro u4 hS Qn
   replace Q2 := Qn
   clear Qn
   replace Q1 := hS.other _ _ ne_k1_k2 Q1
   replace M := hS.mo _ N_k2 M
   clear hS
   refine w_nil (xn_then (w_ret ?_))
   exact w_ret1 _ (.agg ((vBad (2)).cells).toArray) rfl ⟨k2, rfl, (run_row Q2 28 0 10 ((vBad (2)).cells) rfl Tryz.underlying28 rfl sz28)⟩ ⟨vrt (x := (vBad (2))) rfl (by simp [numV, hf0p, hf1p]), M⟩
theorem ord_n (op o : Int) (w : World) : Calls Tryz.prog 62 #[.int .i64 op, .int .i64 o] w fun e9 w' => e9 = .returned (ordV op o).v ∧ Mo w w' := by
 refine w_enter 37 Tryz.func62 Tryz.ntmps62 rfl rfl ?_
 have M : Mo w w := Mo.refl _
 refine w_seq (w_reg ?_)
 refine wl_alloc 28 #[.int .i64 0, .bool false, .int .u64 0, .int .u64 0, .int .u64 0, .int .u64 0, .int .i64 0, .bool false, .string ⟨#[]⟩, .int .i64 0] rfl (fun _ => by kernel_rfl) rfl ?_
 intro k1 u1 hk hz hq Q1
 have N_k1 : w.heap.size ≤ k1 := by have := M.size; omega
 replace M := M.trans hq
 clear hk hz hq
 refine w_nil (xn_then (w_seq (w_seq (w_reg ?_))))
 refine wl_m (.tmp 0) (.int .i64 (op)) ?_
 refine w_nil (xn_then (w_block (w_seq (w_reg ?_))))
 cases hf0 : decide (op = 4) with
 | true =>
  have hf0p := of_decide_eq_true hf0
  refine wl_b .eql 3 (.tmp 5) (.const (.int .i64 (4))) (.int .i64 (op)) (.int .i64 (4)) (.bool true) (eq3 hf0 _ _ _) ?_
  refine wl_m (.tmp 7) (.bool true) ?_
  refine w_nil (xn_then (w_condT rfl (w_seq (w_reg ?_))))
  refine wl_m (.tmp 1) (.int .i64 (o)) ?_
  cases hf1 : decide (o = 0) with
  | true =>
   have hf1p := of_decide_eq_true hf1
   refine wl_b .eql 3 (.tmp 8) (.const (.int .i64 (0))) (.int .i64 (o)) (.int .i64 (0)) (.bool true) (eq3 hf1 _ _ _) ?_
   refine wl_call 33 [(.tmp 9)] _ [.bool true] (.agg ((vFl true).cells).toArray) rfl rfl (fun _ _ => by kernel_rfl) (flag_n true _) rfl ?_
   intro u2 hq
   replace Q1 := Q1.mo hq
   replace M := M.trans hq
   clear hq
   refine wl_st 28 (.tmp 4) (.tmp 10) k1 0 (((vFl true).cells).toArray) _ ((vFl true).cells) Q1 rfl rfl rfl rfl rfl sz28 rfl rfl rfl ?_
   intro u3 hS Qn
   replace Q1 := Qn
   clear Qn
   replace M := hS.mo _ N_k1 M
   clear hS
   refine w_nil (xn_then (w_ret (xr_blk (xr_then ?_))))
   exact w_ret1 _ (.agg ((vFl true).cells).toArray) rfl ⟨k1, rfl, (run_row Q1 28 0 10 ((vFl true).cells) rfl Tryz.underlying28 rfl sz28)⟩ ⟨vrt (x := (vFl true)) rfl (by simp [ordV, hf0p, hf1p]), M⟩
  | false =>
   have hf1p := of_decide_eq_false hf1
   refine wl_b .eql 3 (.tmp 8) (.const (.int .i64 (0))) (.int .i64 (o)) (.int .i64 (0)) (.bool false) (eq3 hf1 _ _ _) ?_
   refine wl_call 33 [(.tmp 9)] _ [.bool false] (.agg ((vFl false).cells).toArray) rfl rfl (fun _ _ => by kernel_rfl) (flag_n false _) rfl ?_
   intro u2 hq
   replace Q1 := Q1.mo hq
   replace M := M.trans hq
   clear hq
   refine wl_st 28 (.tmp 4) (.tmp 10) k1 0 (((vFl false).cells).toArray) _ ((vFl false).cells) Q1 rfl rfl rfl rfl rfl sz28 rfl rfl rfl ?_
   intro u3 hS Qn
   replace Q1 := Qn
   clear Qn
   replace M := hS.mo _ N_k1 M
   clear hS
   refine w_nil (xn_then (w_ret (xr_blk (xr_then ?_))))
   exact w_ret1 _ (.agg ((vFl false).cells).toArray) rfl ⟨k1, rfl, (run_row Q1 28 0 10 ((vFl false).cells) rfl Tryz.underlying28 rfl sz28)⟩ ⟨vrt (x := (vFl false)) rfl (by simp [ordV, hf0p, hf1p]), M⟩
 | false =>
  have hf0p := of_decide_eq_false hf0
  refine wl_b .eql 3 (.tmp 5) (.const (.int .i64 (4))) (.int .i64 (op)) (.int .i64 (4)) (.bool false) (eq3 hf0 _ _ _) ?_
  refine wl_m (.tmp 7) (.bool false) ?_
  refine w_nil (xn_then (w_condF rfl (w_seq (w_reg ?_))))
  cases hf1 : decide (op = 5) with
  | true =>
   have hf1p := of_decide_eq_true hf1
   refine wl_b .eql 3 (.tmp 5) (.const (.int .i64 (5))) (.int .i64 (op)) (.int .i64 (5)) (.bool true) (eq3 hf1 _ _ _) ?_
   refine wl_m (.tmp 12) (.bool true) ?_
   refine w_nil (xn_then (w_condT rfl (w_seq (w_reg ?_))))
   refine wl_m (.tmp 1) (.int .i64 (o)) ?_
   cases hf2 : decide (o = 0) with
   | true =>
    have hf2p := of_decide_eq_true hf2
    refine wl_b .neq 3 (.tmp 13) (.const (.int .i64 (0))) (.int .i64 (o)) (.int .i64 (0)) (.bool false) (ne3 hf2 _ _ _) ?_
    refine wl_call 33 [(.tmp 14)] _ [.bool false] (.agg ((vFl false).cells).toArray) rfl rfl (fun _ _ => by kernel_rfl) (flag_n false _) rfl ?_
    intro u2 hq
    replace Q1 := Q1.mo hq
    replace M := M.trans hq
    clear hq
    refine wl_st 28 (.tmp 4) (.tmp 15) k1 0 (((vFl false).cells).toArray) _ ((vFl false).cells) Q1 rfl rfl rfl rfl rfl sz28 rfl rfl rfl ?_
    intro u3 hS Qn
    replace Q1 := Qn
    clear Qn
    replace M := hS.mo _ N_k1 M
    clear hS
    refine w_nil (xn_then (w_ret (xr_blk (xr_then ?_))))
    exact w_ret1 _ (.agg ((vFl false).cells).toArray) rfl ⟨k1, rfl, (run_row Q1 28 0 10 ((vFl false).cells) rfl Tryz.underlying28 rfl sz28)⟩ ⟨vrt (x := (vFl false)) rfl (by simp [ordV, hf1p, hf2p]), M⟩
   | false =>
    have hf2p := of_decide_eq_false hf2
    refine wl_b .neq 3 (.tmp 13) (.const (.int .i64 (0))) (.int .i64 (o)) (.int .i64 (0)) (.bool true) (ne3 hf2 _ _ _) ?_
    refine wl_call 33 [(.tmp 14)] _ [.bool true] (.agg ((vFl true).cells).toArray) rfl rfl (fun _ _ => by kernel_rfl) (flag_n true _) rfl ?_
    intro u2 hq
    replace Q1 := Q1.mo hq
    replace M := M.trans hq
    clear hq
    refine wl_st 28 (.tmp 4) (.tmp 15) k1 0 (((vFl true).cells).toArray) _ ((vFl true).cells) Q1 rfl rfl rfl rfl rfl sz28 rfl rfl rfl ?_
    intro u3 hS Qn
    replace Q1 := Qn
    clear Qn
    replace M := hS.mo _ N_k1 M
    clear hS
    refine w_nil (xn_then (w_ret (xr_blk (xr_then ?_))))
    exact w_ret1 _ (.agg ((vFl true).cells).toArray) rfl ⟨k1, rfl, (run_row Q1 28 0 10 ((vFl true).cells) rfl Tryz.underlying28 rfl sz28)⟩ ⟨vrt (x := (vFl true)) rfl (by simp [ordV, hf1p, hf2p]), M⟩
  | false =>
   have hf1p := of_decide_eq_false hf1
   refine wl_b .eql 3 (.tmp 5) (.const (.int .i64 (5))) (.int .i64 (op)) (.int .i64 (5)) (.bool false) (eq3 hf1 _ _ _) ?_
   refine wl_m (.tmp 12) (.bool false) ?_
   refine w_nil (xn_then (w_condF rfl (w_seq (w_reg ?_))))
   cases hf2 : decide (op = 6) with
   | true =>
    have hf2p := of_decide_eq_true hf2
    refine wl_b .eql 3 (.tmp 5) (.const (.int .i64 (6))) (.int .i64 (op)) (.int .i64 (6)) (.bool true) (eq3 hf2 _ _ _) ?_
    refine wl_m (.tmp 17) (.bool true) ?_
    refine w_nil (xn_then (w_condT rfl (w_seq (w_reg ?_))))
    refine wl_m (.tmp 1) (.int .i64 (o)) ?_
    cases hf3 : decide (o < 0) with
    | true =>
     have hf3p := of_decide_eq_true hf3
     refine wl_b .lss 3 (.tmp 18) (.const (.int .i64 (0))) (.int .i64 (o)) (.int .i64 (0)) (.bool true) (lt3 hf3 _ _ _) ?_
     refine wl_call 33 [(.tmp 19)] _ [.bool true] (.agg ((vFl true).cells).toArray) rfl rfl (fun _ _ => by kernel_rfl) (flag_n true _) rfl ?_
     intro u2 hq
     replace Q1 := Q1.mo hq
     replace M := M.trans hq
     clear hq
     refine wl_st 28 (.tmp 4) (.tmp 20) k1 0 (((vFl true).cells).toArray) _ ((vFl true).cells) Q1 rfl rfl rfl rfl rfl sz28 rfl rfl rfl ?_
     intro u3 hS Qn
     replace Q1 := Qn
     clear Qn
     replace M := hS.mo _ N_k1 M
     clear hS
     refine w_nil (xn_then (w_ret (xr_blk (xr_then ?_))))
     exact w_ret1 _ (.agg ((vFl true).cells).toArray) rfl ⟨k1, rfl, (run_row Q1 28 0 10 ((vFl true).cells) rfl Tryz.underlying28 rfl sz28)⟩ ⟨vrt (x := (vFl true)) rfl (by simp [ordV, hf2p, hf3p]), M⟩
    | false =>
     have hf3p := of_decide_eq_false hf3
     refine wl_b .lss 3 (.tmp 18) (.const (.int .i64 (0))) (.int .i64 (o)) (.int .i64 (0)) (.bool false) (lt3 hf3 _ _ _) ?_
     refine wl_call 33 [(.tmp 19)] _ [.bool false] (.agg ((vFl false).cells).toArray) rfl rfl (fun _ _ => by kernel_rfl) (flag_n false _) rfl ?_
     intro u2 hq
     replace Q1 := Q1.mo hq
     replace M := M.trans hq
     clear hq
     refine wl_st 28 (.tmp 4) (.tmp 20) k1 0 (((vFl false).cells).toArray) _ ((vFl false).cells) Q1 rfl rfl rfl rfl rfl sz28 rfl rfl rfl ?_
     intro u3 hS Qn
     replace Q1 := Qn
     clear Qn
     replace M := hS.mo _ N_k1 M
     clear hS
     refine w_nil (xn_then (w_ret (xr_blk (xr_then ?_))))
     exact w_ret1 _ (.agg ((vFl false).cells).toArray) rfl ⟨k1, rfl, (run_row Q1 28 0 10 ((vFl false).cells) rfl Tryz.underlying28 rfl sz28)⟩ ⟨vrt (x := (vFl false)) rfl (by simp [ordV, hf2p, hf3p]), M⟩
   | false =>
    have hf2p := of_decide_eq_false hf2
    refine wl_b .eql 3 (.tmp 5) (.const (.int .i64 (6))) (.int .i64 (op)) (.int .i64 (6)) (.bool false) (eq3 hf2 _ _ _) ?_
    refine wl_m (.tmp 17) (.bool false) ?_
    refine w_nil (xn_then (w_condF rfl (w_seq (w_reg ?_))))
    cases hf3 : decide (op = 7) with
    | true =>
     have hf3p := of_decide_eq_true hf3
     refine wl_b .eql 3 (.tmp 5) (.const (.int .i64 (7))) (.int .i64 (op)) (.int .i64 (7)) (.bool true) (eq3 hf3 _ _ _) ?_
     refine wl_m (.tmp 22) (.bool true) ?_
     refine w_nil (xn_then (w_condT rfl (w_seq (w_reg ?_))))
     refine wl_m (.tmp 1) (.int .i64 (o)) ?_
     cases hf4 : decide (o ≤ 0) with
     | true =>
      have hf4p := of_decide_eq_true hf4
      refine wl_b .leq 3 (.tmp 23) (.const (.int .i64 (0))) (.int .i64 (o)) (.int .i64 (0)) (.bool true) (le3 hf4 _ _ _) ?_
      refine wl_call 33 [(.tmp 24)] _ [.bool true] (.agg ((vFl true).cells).toArray) rfl rfl (fun _ _ => by kernel_rfl) (flag_n true _) rfl ?_
      intro u2 hq
      replace Q1 := Q1.mo hq
      replace M := M.trans hq
      clear hq
      refine wl_st 28 (.tmp 4) (.tmp 25) k1 0 (((vFl true).cells).toArray) _ ((vFl true).cells) Q1 rfl rfl rfl rfl rfl sz28 rfl rfl rfl ?_
      intro u3 hS Qn
      replace Q1 := Qn
      clear Qn
      replace M := hS.mo _ N_k1 M
      clear hS
      refine w_nil (xn_then (w_ret (xr_blk (xr_then ?_))))
      exact w_ret1 _ (.agg ((vFl true).cells).toArray) rfl ⟨k1, rfl, (run_row Q1 28 0 10 ((vFl true).cells) rfl Tryz.underlying28 rfl sz28)⟩ ⟨vrt (x := (vFl true)) rfl (by simp [ordV, hf3p, hf4p]), M⟩
     | false =>
      have hf4p := of_decide_eq_false hf4
      refine wl_b .leq 3 (.tmp 23) (.const (.int .i64 (0))) (.int .i64 (o)) (.int .i64 (0)) (.bool false) (le3 hf4 _ _ _) ?_
      refine wl_call 33 [(.tmp 24)] _ [.bool false] (.agg ((vFl false).cells).toArray) rfl rfl (fun _ _ => by kernel_rfl) (flag_n false _) rfl ?_
      intro u2 hq
      replace Q1 := Q1.mo hq
      replace M := M.trans hq
      clear hq
      refine wl_st 28 (.tmp 4) (.tmp 25) k1 0 (((vFl false).cells).toArray) _ ((vFl false).cells) Q1 rfl rfl rfl rfl rfl sz28 rfl rfl rfl ?_
      intro u3 hS Qn
      replace Q1 := Qn
      clear Qn
      replace M := hS.mo _ N_k1 M
      clear hS
      refine w_nil (xn_then (w_ret (xr_blk (xr_then ?_))))
      exact w_ret1 _ (.agg ((vFl false).cells).toArray) rfl ⟨k1, rfl, (run_row Q1 28 0 10 ((vFl false).cells) rfl Tryz.underlying28 rfl sz28)⟩ ⟨vrt (x := (vFl false)) rfl (by simp [ordV, hf3p, hf4p]), M⟩
    | false =>
     have hf3p := of_decide_eq_false hf3
     refine wl_b .eql 3 (.tmp 5) (.const (.int .i64 (7))) (.int .i64 (op)) (.int .i64 (7)) (.bool false) (eq3 hf3 _ _ _) ?_
     refine wl_m (.tmp 22) (.bool false) ?_
     refine w_nil (xn_then (w_condF rfl (w_seq (w_reg ?_))))
     cases hf4 : decide (op = 8) with
     | true =>
      have hf4p := of_decide_eq_true hf4
      refine wl_b .eql 3 (.tmp 5) (.const (.int .i64 (8))) (.int .i64 (op)) (.int .i64 (8)) (.bool true) (eq3 hf4 _ _ _) ?_
      refine wl_m (.tmp 27) (.bool true) ?_
      refine w_nil (xn_then (w_condT rfl (w_seq (w_reg ?_))))
      refine wl_m (.tmp 1) (.int .i64 (o)) ?_
      cases hf5 : decide (0 < o) with
      | true =>
       have hf5p := of_decide_eq_true hf5
       refine wl_b .gtr 3 (.tmp 28) (.const (.int .i64 (0))) (.int .i64 (o)) (.int .i64 (0)) (.bool true) (gt3 hf5 _ _ _) ?_
       refine wl_call 33 [(.tmp 29)] _ [.bool true] (.agg ((vFl true).cells).toArray) rfl rfl (fun _ _ => by kernel_rfl) (flag_n true _) rfl ?_
       intro u2 hq
       replace Q1 := Q1.mo hq
       replace M := M.trans hq
       clear hq
       refine wl_st 28 (.tmp 4) (.tmp 30) k1 0 (((vFl true).cells).toArray) _ ((vFl true).cells) Q1 rfl rfl rfl rfl rfl sz28 rfl rfl rfl ?_
       intro u3 hS Qn
       replace Q1 := Qn
       clear Qn
       replace M := hS.mo _ N_k1 M
       clear hS
       refine w_nil (xn_then (w_ret (xr_blk (xr_then ?_))))
       exact w_ret1 _ (.agg ((vFl true).cells).toArray) rfl ⟨k1, rfl, (run_row Q1 28 0 10 ((vFl true).cells) rfl Tryz.underlying28 rfl sz28)⟩ ⟨vrt (x := (vFl true)) rfl (by simp [ordV, hf4p, hf5p]), M⟩
      | false =>
       have hf5p := of_decide_eq_false hf5
       refine wl_b .gtr 3 (.tmp 28) (.const (.int .i64 (0))) (.int .i64 (o)) (.int .i64 (0)) (.bool false) (gt3 hf5 _ _ _) ?_
       refine wl_call 33 [(.tmp 29)] _ [.bool false] (.agg ((vFl false).cells).toArray) rfl rfl (fun _ _ => by kernel_rfl) (flag_n false _) rfl ?_
       intro u2 hq
       replace Q1 := Q1.mo hq
       replace M := M.trans hq
       clear hq
       refine wl_st 28 (.tmp 4) (.tmp 30) k1 0 (((vFl false).cells).toArray) _ ((vFl false).cells) Q1 rfl rfl rfl rfl rfl sz28 rfl rfl rfl ?_
       intro u3 hS Qn
       replace Q1 := Qn
       clear Qn
       replace M := hS.mo _ N_k1 M
       clear hS
       refine w_nil (xn_then (w_ret (xr_blk (xr_then ?_))))
       exact w_ret1 _ (.agg ((vFl false).cells).toArray) rfl ⟨k1, rfl, (run_row Q1 28 0 10 ((vFl false).cells) rfl Tryz.underlying28 rfl sz28)⟩ ⟨vrt (x := (vFl false)) rfl (by simp [ordV, hf4p, hf5p]), M⟩
     | false =>
      have hf4p := of_decide_eq_false hf4
      refine wl_b .eql 3 (.tmp 5) (.const (.int .i64 (8))) (.int .i64 (op)) (.int .i64 (8)) (.bool false) (eq3 hf4 _ _ _) ?_
      refine wl_m (.tmp 27) (.bool false) ?_
      refine w_nil (xn_then (w_condF rfl (w_seq (w_reg ?_))))
      cases hf5 : decide (op = 9) with
      | true =>
       have hf5p := of_decide_eq_true hf5
       refine wl_b .eql 3 (.tmp 5) (.const (.int .i64 (9))) (.int .i64 (op)) (.int .i64 (9)) (.bool true) (eq3 hf5 _ _ _) ?_
       refine wl_m (.tmp 32) (.bool true) ?_
       refine w_nil (xn_then (w_condT rfl (w_seq (w_reg ?_))))
       refine wl_m (.tmp 1) (.int .i64 (o)) ?_
       cases hf6 : decide (0 ≤ o) with
       | true =>
        have hf6p := of_decide_eq_true hf6
        refine wl_b .geq 3 (.tmp 33) (.const (.int .i64 (0))) (.int .i64 (o)) (.int .i64 (0)) (.bool true) (ge3 hf6 _ _ _) ?_
        refine wl_call 33 [(.tmp 34)] _ [.bool true] (.agg ((vFl true).cells).toArray) rfl rfl (fun _ _ => by kernel_rfl) (flag_n true _) rfl ?_
        intro u2 hq
        replace Q1 := Q1.mo hq
        replace M := M.trans hq
        clear hq
        refine wl_st 28 (.tmp 4) (.tmp 35) k1 0 (((vFl true).cells).toArray) _ ((vFl true).cells) Q1 rfl rfl rfl rfl rfl sz28 rfl rfl rfl ?_
        intro u3 hS Qn
        replace Q1 := Qn
        clear Qn
        replace M := hS.mo _ N_k1 M
        clear hS
        refine w_nil (xn_then (w_ret (xr_blk (xr_then ?_))))
        exact w_ret1 _ (.agg ((vFl true).cells).toArray) rfl ⟨k1, rfl, (run_row Q1 28 0 10 ((vFl true).cells) rfl Tryz.underlying28 rfl sz28)⟩ ⟨vrt (x := (vFl true)) rfl (by simp [ordV, hf5p, hf6p]), M⟩
       | false =>
        have hf6p := of_decide_eq_false hf6
        refine wl_b .geq 3 (.tmp 33) (.const (.int .i64 (0))) (.int .i64 (o)) (.int .i64 (0)) (.bool false) (ge3 hf6 _ _ _) ?_
        refine wl_call 33 [(.tmp 34)] _ [.bool false] (.agg ((vFl false).cells).toArray) rfl rfl (fun _ _ => by kernel_rfl) (flag_n false _) rfl ?_
        intro u2 hq
        replace Q1 := Q1.mo hq
        replace M := M.trans hq
        clear hq
        refine wl_st 28 (.tmp 4) (.tmp 35) k1 0 (((vFl false).cells).toArray) _ ((vFl false).cells) Q1 rfl rfl rfl rfl rfl sz28 rfl rfl rfl ?_
        intro u3 hS Qn
        replace Q1 := Qn
        clear Qn
        replace M := hS.mo _ N_k1 M
        clear hS
        refine w_nil (xn_then (w_ret (xr_blk (xr_then ?_))))
        exact w_ret1 _ (.agg ((vFl false).cells).toArray) rfl ⟨k1, rfl, (run_row Q1 28 0 10 ((vFl false).cells) rfl Tryz.underlying28 rfl sz28)⟩ ⟨vrt (x := (vFl false)) rfl (by simp [ordV, hf5p, hf6p]), M⟩
      | false =>
       have hf5p := of_decide_eq_false hf5
       refine wl_b .eql 3 (.tmp 5) (.const (.int .i64 (9))) (.int .i64 (op)) (.int .i64 (9)) (.bool false) (eq3 hf5 _ _ _) ?_
       refine wl_m (.tmp 32) (.bool false) ?_
       refine w_nil (xn_then (w_condF rfl (w_skip (xn_blk (xn_then (w_seq (w_reg ?_)))))))
       refine wl_call 15 [(.const (.int .i64 (2)))] _ [.int .i64 (2)] (.agg ((vBad (2)).cells).toArray) rfl rfl (fun _ _ => by kernel_rfl) (bad_n (2) _) rfl ?_
       intro u2 hq
       replace Q1 := Q1.mo hq
       replace M := M.trans hq
       clear hq
       refine wl_st 28 (.tmp 4) (.tmp 36) k1 0 (((vBad (2)).cells).toArray) _ ((vBad (2)).cells) Q1 rfl rfl rfl rfl rfl sz28 rfl rfl rfl ?_
       intro u3 hS Qn
       replace Q1 := Qn
       clear Qn
       replace M := hS.mo _ N_k1 M
       clear hS
       refine w_nil (xn_then (w_ret ?_))
       exact w_ret1 _ (.agg ((vBad (2)).cells).toArray) rfl ⟨k1, rfl, (run_row Q1 28 0 10 ((vBad (2)).cells) rfl Tryz.underlying28 rfl sz28)⟩ ⟨vrt (x := (vBad (2))) rfl (by simp [ordV, hf0p, hf1p, hf2p, hf3p, hf4p, hf5p]), M⟩
theorem flags_n (op : Int) (f g : Bool) (w : World) : Calls Tryz.prog 34 #[.int .i64 op, .bool f, .bool g] w fun e9 w' => e9 = .returned (opF op f g).v ∧ Mo w w' := by
 refine w_enter 23 Tryz.func34 Tryz.ntmps34 rfl rfl ?_
 have M : Mo w w := Mo.refl _
 refine w_seq (w_reg ?_)
 refine wl_alloc 28 #[.int .i64 0, .bool false, .int .u64 0, .int .u64 0, .int .u64 0, .int .u64 0, .int .i64 0, .bool false, .string ⟨#[]⟩, .int .i64 0] rfl (fun _ => by kernel_rfl) rfl ?_
 intro k1 u1 hk hz hq Q1
 have N_k1 : w.heap.size ≤ k1 := by have := M.size; omega
 replace M := M.trans hq
 clear hk hz hq
 refine w_nil (xn_then (w_seq (w_seq (w_reg ?_))))
 refine wl_m (.tmp 0) (.int .i64 (op)) ?_
 refine w_nil (xn_then (w_block (w_seq (w_reg ?_))))
 cases hf0 : decide (op = 10) with
 | true =>
  have hf0p := of_decide_eq_true hf0
  refine wl_b .eql 3 (.tmp 7) (.const (.int .i64 (10))) (.int .i64 (op)) (.int .i64 (10)) (.bool true) (eq3 hf0 _ _ _) ?_
  refine wl_m (.tmp 9) (.bool true) ?_
  refine w_nil (xn_then (w_condT rfl (w_seq (w_reg ?_))))
  refine wl_m (.tmp 1) (.bool f) ?_
  refine wl_m (.tmp 10) (.bool f) ?_
  cases f with
  | true =>
   refine wl_m (.tmp 2) (.bool g) ?_
   refine wl_pick (.tmp 11) (.tmp 12) (.const (.bool false)) true (.bool g) (fun _ => rfl) rfl rfl rfl ?_
   refine wl_call 33 [(.tmp 13)] _ [.bool g] (.agg ((vFl g).cells).toArray) rfl rfl (fun _ _ => by kernel_rfl) (flag_n g _) rfl ?_
   intro u2 hq
   replace Q1 := Q1.mo hq
   replace M := M.trans hq
   clear hq
   refine wl_st 28 (.tmp 6) (.tmp 14) k1 0 (((vFl g).cells).toArray) _ ((vFl g).cells) Q1 rfl rfl rfl rfl rfl sz28 rfl rfl rfl ?_
   intro u3 hS Qn
   replace Q1 := Qn
   clear Qn
   replace M := hS.mo _ N_k1 M
   clear hS
   refine w_nil (xn_then (w_ret (xr_blk (xr_then ?_))))
   exact w_ret1 _ (.agg ((vFl g).cells).toArray) rfl ⟨k1, rfl, (run_row Q1 28 0 10 ((vFl g).cells) rfl Tryz.underlying28 rfl sz28)⟩ ⟨vrt (x := (vFl g)) rfl (by simp [opF, hf0p]), M⟩
  | false =>
   refine wl_skip rfl ?_
   refine wl_pick (.tmp 11) (.tmp 12) (.const (.bool false)) false (.bool false) (fun _ => rfl) rfl rfl rfl ?_
   refine wl_call 33 [(.tmp 13)] _ [.bool false] (.agg ((vFl false).cells).toArray) rfl rfl (fun _ _ => by kernel_rfl) (flag_n false _) rfl ?_
   intro u2 hq
   replace Q1 := Q1.mo hq
   replace M := M.trans hq
   clear hq
   refine wl_st 28 (.tmp 6) (.tmp 14) k1 0 (((vFl false).cells).toArray) _ ((vFl false).cells) Q1 rfl rfl rfl rfl rfl sz28 rfl rfl rfl ?_
   intro u3 hS Qn
   replace Q1 := Qn
   clear Qn
   replace M := hS.mo _ N_k1 M
   clear hS
   refine w_nil (xn_then (w_ret (xr_blk (xr_then ?_))))
   exact w_ret1 _ (.agg ((vFl false).cells).toArray) rfl ⟨k1, rfl, (run_row Q1 28 0 10 ((vFl false).cells) rfl Tryz.underlying28 rfl sz28)⟩ ⟨vrt (x := (vFl false)) rfl (by simp [opF, hf0p]), M⟩
 | false =>
  have hf0p := of_decide_eq_false hf0
  refine wl_b .eql 3 (.tmp 7) (.const (.int .i64 (10))) (.int .i64 (op)) (.int .i64 (10)) (.bool false) (eq3 hf0 _ _ _) ?_
  refine wl_m (.tmp 9) (.bool false) ?_
  refine w_nil (xn_then (w_condF rfl (w_seq (w_reg ?_))))
  cases hf1 : decide (op = 11) with
  | true =>
   have hf1p := of_decide_eq_true hf1
   refine wl_b .eql 3 (.tmp 7) (.const (.int .i64 (11))) (.int .i64 (op)) (.int .i64 (11)) (.bool true) (eq3 hf1 _ _ _) ?_
   refine wl_m (.tmp 16) (.bool true) ?_
   refine w_nil (xn_then (w_condT rfl (w_seq (w_reg ?_))))
   refine wl_m (.tmp 1) (.bool f) ?_
   refine wl_m (.tmp 17) (.bool f) ?_
   cases f with
   | true =>
    refine wl_skip rfl ?_
    refine wl_pick (.tmp 18) (.const (.bool true)) (.tmp 19) true (.bool true) (fun _ => rfl) rfl rfl rfl ?_
    refine wl_call 33 [(.tmp 20)] _ [.bool true] (.agg ((vFl true).cells).toArray) rfl rfl (fun _ _ => by kernel_rfl) (flag_n true _) rfl ?_
    intro u2 hq
    replace Q1 := Q1.mo hq
    replace M := M.trans hq
    clear hq
    refine wl_st 28 (.tmp 6) (.tmp 21) k1 0 (((vFl true).cells).toArray) _ ((vFl true).cells) Q1 rfl rfl rfl rfl rfl sz28 rfl rfl rfl ?_
    intro u3 hS Qn
    replace Q1 := Qn
    clear Qn
    replace M := hS.mo _ N_k1 M
    clear hS
    refine w_nil (xn_then (w_ret (xr_blk (xr_then ?_))))
    exact w_ret1 _ (.agg ((vFl true).cells).toArray) rfl ⟨k1, rfl, (run_row Q1 28 0 10 ((vFl true).cells) rfl Tryz.underlying28 rfl sz28)⟩ ⟨vrt (x := (vFl true)) rfl (by simp [opF, hf1p]), M⟩
   | false =>
    refine wl_m (.tmp 2) (.bool g) ?_
    refine wl_pick (.tmp 18) (.const (.bool true)) (.tmp 19) false (.bool g) (fun _ => rfl) rfl rfl rfl ?_
    refine wl_call 33 [(.tmp 20)] _ [.bool g] (.agg ((vFl g).cells).toArray) rfl rfl (fun _ _ => by kernel_rfl) (flag_n g _) rfl ?_
    intro u2 hq
    replace Q1 := Q1.mo hq
    replace M := M.trans hq
    clear hq
    refine wl_st 28 (.tmp 6) (.tmp 21) k1 0 (((vFl g).cells).toArray) _ ((vFl g).cells) Q1 rfl rfl rfl rfl rfl sz28 rfl rfl rfl ?_
    intro u3 hS Qn
    replace Q1 := Qn
    clear Qn
    replace M := hS.mo _ N_k1 M
    clear hS
    refine w_nil (xn_then (w_ret (xr_blk (xr_then ?_))))
    exact w_ret1 _ (.agg ((vFl g).cells).toArray) rfl ⟨k1, rfl, (run_row Q1 28 0 10 ((vFl g).cells) rfl Tryz.underlying28 rfl sz28)⟩ ⟨vrt (x := (vFl g)) rfl (by simp [opF, hf1p]), M⟩
  | false =>
   have hf1p := of_decide_eq_false hf1
   refine wl_b .eql 3 (.tmp 7) (.const (.int .i64 (11))) (.int .i64 (op)) (.int .i64 (11)) (.bool false) (eq3 hf1 _ _ _) ?_
   refine wl_m (.tmp 16) (.bool false) ?_
   refine w_nil (xn_then (w_condF rfl (w_skip (xn_blk (xn_then (w_seq (w_reg ?_)))))))
   refine wl_call 15 [(.const (.int .i64 (2)))] _ [.int .i64 (2)] (.agg ((vBad (2)).cells).toArray) rfl rfl (fun _ _ => by kernel_rfl) (bad_n (2) _) rfl ?_
   intro u2 hq
   replace Q1 := Q1.mo hq
   replace M := M.trans hq
   clear hq
   refine wl_st 28 (.tmp 6) (.tmp 22) k1 0 (((vBad (2)).cells).toArray) _ ((vBad (2)).cells) Q1 rfl rfl rfl rfl rfl sz28 rfl rfl rfl ?_
   intro u3 hS Qn
   replace Q1 := Qn
   clear Qn
   replace M := hS.mo _ N_k1 M
   clear hS
   refine w_nil (xn_then (w_ret ?_))
   exact w_ret1 _ (.agg ((vBad (2)).cells).toArray) rfl ⟨k1, rfl, (run_row Q1 28 0 10 ((vBad (2)).cells) rfl Tryz.underlying28 rfl sz28)⟩ ⟨vrt (x := (vBad (2))) rfl (by simp [opF, hf0p, hf1p]), M⟩
theorem ask2_e {x y : VL} (hx : x.ok) (c : ckv x = true) (k : x.k = 4) : ask2 x y = x.e := by
 have h : ask x = x.e := by unfold ask; rw [if_pos c, if_pos k]
 have g := (ckv_err hx c k).2
 unfold ask2
 rw [h]
 split
 next q => rw [q] at g; exact absurd g (by decide)
 next => rfl
theorem fault2_n (x y : VL) (kk : Nat) (w : World) (hA : At w kk (x.cells ++ y.cells)) (hx : x.ok) (hy : y.ok) : Calls Tryz.prog 31 #[.slice (some ⟨kk, 0, none⟩) 2 2] w fun e9 w' => e9 = .returned (.int .i64 (ask2 x y)) ∧ Mo w w' := by
 refine w_enter 26 Tryz.func31 Tryz.ntmps31 rfl rfl ?_
 have M : Mo w w := Mo.refl _
 refine w_seq (w_reg ?_)
 refine wl_m (.const (.int .i64 (0))) (.int .i64 (0)) ?_
 refine w_nil (xn_then (w_seq (w_seq (w_reg ?_))))
 refine wl_m (.tmp 0) (.slice (some ⟨kk, 0, none⟩) 2 2) ?_
 refine wl_val (.int .i64 (2)) (len45 _ _ _ 2 _ (by exact rfl) _ _ _ _ _ _) rfl ?_
 refine wl_m (.const (.int .i64 (0))) (.int .i64 (0)) ?_
 refine w_nil (xn_then (w_block ?_))
 refine w_rounds 3 ?_
 refine w_seq (w_reg ?_)
 refine wl_b .lss 3 (.tmp 7) (.tmp 6) (.int .i64 (0)) (.int .i64 (2)) (.bool true) (lt3 (r := true) rfl _ _ _) ?_
 refine w_nil (xn_then (w_seq (w_condT rfl (w_skip (xn_then (w_seq (w_block (w_seq (w_reg ?_)))))))))
 refine wl_bin (fun x y => Instr.indexAt 45 x y) (.tmp 5) (.tmp 7) (.slice (some ⟨kk, 0, none⟩) 2 2) (.int .i64 (0)) (pt kk 0) (fun _ => rfl) rfl rfl (ix45 (i := 0) rfl (by decide) _) rfl ?_
 refine wl_l 28 (.tmp 9) (pt kk 0) (.agg (x.cells).toArray) (run_row hA 28 0 10 (x.cells) rfl Tryz.underlying28 rfl sz28) ?_
 refine wl_alloc 28 #[.int .i64 0, .bool false, .int .u64 0, .int .u64 0, .int .u64 0, .int .u64 0, .int .i64 0, .bool false, .string ⟨#[]⟩, .int .i64 0] rfl (fun _ => by kernel_rfl) rfl ?_
 intro k1 u1 hk hz hq Q1
 have ne_kk_k1 : kk ≠ k1 := by have := hA.lt; omega
 have N_k1 : w.heap.size ≤ k1 := by have := M.size; omega
 replace hA := hA.mo hq
 replace M := M.trans hq
 clear hk hz hq
 refine wl_st 28 (.tmp 4) (.tmp 10) k1 0 ((x.cells).toArray) _ (x.cells) Q1 rfl rfl rfl rfl rfl sz28 rfl rfl rfl ?_
 intro u2 hS Qn
 replace Q1 := Qn
 clear Qn
 replace hA := hS.other _ _ ne_kk_k1 hA
 replace M := hS.mo _ N_k1 M
 clear hS
 refine w_nil (xn_then (w_block (w_seq (w_reg ?_))))
 refine wl_l 28 (.tmp 4) (pt k1 0) (.agg (x.cells).toArray) (run_row Q1 28 0 10 (x.cells) rfl Tryz.underlying28 rfl sz28) ?_
 cases hf0 : ckv x with
 | true =>
  refine wl_call 13 [(.tmp 12)] _ [.agg (x.cells).toArray] (.int .i64 (0)) rfl rfl (fun _ _ => by kernel_rfl) (check_t hf0 hx _) rfl ?_
  intro u3 hq
  replace hA := hA.mo hq
  replace Q1 := Q1.mo hq
  replace M := M.trans hq
  clear hq
  refine wl_b .neq 32 (.tmp 13) (.const (.int .i64 (0))) (.int .i64 (0)) (.int .i64 (0)) (.bool false) (ne34 (r := true) rfl _ _ _) ?_
  refine wl_m (.tmp 14) (.bool false) ?_
  refine w_nil (xn_then (w_condF rfl (w_seq (w_reg ?_))))
  refine wl_f 28 0 (.tmp 4) (pt k1 0) (pt k1 0) ?_
  refine wl_l 3 (.tmp 16) (pt k1 0) (.int .i64 (x.k)) (run_one Q1 3 0 rfl Tryz.underlying3 rfl) ?_
  cases hf1 : decide (x.k = 4) with
  | true =>
   have hf1p := of_decide_eq_true hf1
   refine wl_b .eql 3 (.tmp 17) (.const (.int .i64 (4))) (.int .i64 (x.k)) (.int .i64 (4)) (.bool true) (eq3 hf1 _ _ _) ?_
   refine wl_m (.tmp 18) (.bool true) ?_
   refine w_nil (xn_then (w_condT rfl (w_seq (w_reg ?_))))
   refine wl_f 28 4 (.tmp 4) (pt k1 0) (pt k1 9) ?_
   refine wl_l 3 (.tmp 19) (pt k1 9) (.int .i64 (x.e)) (run_one Q1 3 9 rfl Tryz.underlying3 rfl) ?_
   refine wl_m (.tmp 20) (.int .i64 (x.e)) ?_
   refine w_nil (xn_then (w_ret (xr_blk (xr_blk (xr_then (xr_then (xr_blk (xr_then ?_))))))))
   exact w_ret1 _ (.int .i64 (x.e)) rfl rfl ⟨by first | (simp [ask2, ask, hf0, hf1p]; done) | (rw [ask2_e hx (by assumption) (by assumption)]), M⟩
  | false =>
   have hf1p := of_decide_eq_false hf1
   refine wl_b .eql 3 (.tmp 17) (.const (.int .i64 (4))) (.int .i64 (x.k)) (.int .i64 (4)) (.bool false) (eq3 hf1 _ _ _) ?_
   refine wl_m (.tmp 18) (.bool false) ?_
   refine w_nil (xn_then (w_condF rfl (w_seq (w_reg ?_))))
   refine wl_f 28 0 (.tmp 4) (pt k1 0) (pt k1 0) ?_
   refine wl_l 3 (.tmp 22) (pt k1 0) (.int .i64 (x.k)) (run_one Q1 3 0 rfl Tryz.underlying3 rfl) ?_
   cases hf2 : decide (x.k = 0) with
   | true =>
    have hf2p := of_decide_eq_true hf2
    refine wl_b .eql 3 (.tmp 23) (.const (.int .i64 (0))) (.int .i64 (x.k)) (.int .i64 (0)) (.bool true) (eq3 hf2 _ _ _) ?_
    refine wl_m (.tmp 24) (.bool true) ?_
    refine w_nil (xn_then (w_condT rfl (w_seq (w_reg ?_))))
    refine wl_m (.const (.int .i64 (3))) (.int .i64 (3)) ?_
    refine w_nil (xn_then (w_ret (xr_blk (xr_blk (xr_then (xr_then (xr_blk (xr_then ?_))))))))
    exact w_ret1 _ (.int .i64 (3)) rfl rfl ⟨by first | (simp [ask2, ask, hf0, hf2p]; done) | (rw [ask2_e hx (by assumption) (by assumption)]), M⟩
   | false =>
    have hf2p := of_decide_eq_false hf2
    refine wl_b .eql 3 (.tmp 23) (.const (.int .i64 (0))) (.int .i64 (x.k)) (.int .i64 (0)) (.bool false) (eq3 hf2 _ _ _) ?_
    refine wl_m (.tmp 24) (.bool false) ?_
    refine w_nil (xn_then (w_condF rfl (w_skip (xn_blk (xn_blk (xn_then (w_reg ?_)))))))
    refine wl_b .add 3 (.tmp 7) (.const (.int .i64 (1))) (.int .i64 (0)) (.int .i64 (1)) (.int .i64 (1)) (by kernel_rfl) ?_
    refine wl_m (.tmp 25) (.int .i64 (1)) ?_
    refine w_nil ?_
    refine xn_rounds ?_
    refine w_seq (w_reg ?_)
    refine wl_b .lss 3 (.tmp 7) (.tmp 6) (.int .i64 (1)) (.int .i64 (2)) (.bool true) (lt3 (r := true) rfl _ _ _) ?_
    refine w_nil (xn_then (w_seq (w_condT rfl (w_skip (xn_then (w_seq (w_block (w_seq (w_reg ?_)))))))))
    refine wl_bin (fun x y => Instr.indexAt 45 x y) (.tmp 5) (.tmp 7) (.slice (some ⟨kk, 0, none⟩) 2 2) (.int .i64 (1)) (pt kk 10) (fun _ => rfl) rfl rfl (ix45 (i := 1) rfl (by decide) _) rfl ?_
    refine wl_l 28 (.tmp 9) (pt kk 10) (.agg (y.cells).toArray) (run_row hA 28 10 10 (y.cells) rfl Tryz.underlying28 rfl sz28) ?_
    refine wl_alloc 28 #[.int .i64 0, .bool false, .int .u64 0, .int .u64 0, .int .u64 0, .int .u64 0, .int .i64 0, .bool false, .string ⟨#[]⟩, .int .i64 0] rfl (fun _ => by kernel_rfl) rfl ?_
    intro k2 u4 hk hz hq Q2
    have ne_kk_k2 : kk ≠ k2 := by have := hA.lt; omega
    have ne_k1_k2 : k1 ≠ k2 := by have := Q1.lt; omega
    have N_k2 : w.heap.size ≤ k2 := by have := M.size; omega
    replace hA := hA.mo hq
    replace Q1 := Q1.mo hq
    replace M := M.trans hq
    clear hk hz hq
    refine wl_st 28 (.tmp 4) (.tmp 10) k2 0 ((y.cells).toArray) _ (y.cells) Q2 rfl rfl rfl rfl rfl sz28 rfl rfl rfl ?_
    intro u5 hS Qn
    replace Q2 := Qn
    clear Qn
    replace hA := hS.other _ _ ne_kk_k2 hA
    replace Q1 := hS.other _ _ ne_k1_k2 Q1
    replace M := hS.mo _ N_k2 M
    clear hS
    refine w_nil (xn_then (w_block (w_seq (w_reg ?_))))
    refine wl_l 28 (.tmp 4) (pt k2 0) (.agg (y.cells).toArray) (run_row Q2 28 0 10 (y.cells) rfl Tryz.underlying28 rfl sz28) ?_
    cases hf3 : ckv y with
    | true =>
     refine wl_call 13 [(.tmp 12)] _ [.agg (y.cells).toArray] (.int .i64 (0)) rfl rfl (fun _ _ => by kernel_rfl) (check_t hf3 hy _) rfl ?_
     intro u6 hq
     replace hA := hA.mo hq
     replace Q1 := Q1.mo hq
     replace Q2 := Q2.mo hq
     replace M := M.trans hq
     clear hq
     refine wl_b .neq 32 (.tmp 13) (.const (.int .i64 (0))) (.int .i64 (0)) (.int .i64 (0)) (.bool false) (ne34 (r := true) rfl _ _ _) ?_
     refine wl_m (.tmp 14) (.bool false) ?_
     refine w_nil (xn_then (w_condF rfl (w_seq (w_reg ?_))))
     refine wl_f 28 0 (.tmp 4) (pt k2 0) (pt k2 0) ?_
     refine wl_l 3 (.tmp 16) (pt k2 0) (.int .i64 (y.k)) (run_one Q2 3 0 rfl Tryz.underlying3 rfl) ?_
     cases hf4 : decide (y.k = 4) with
     | true =>
      have hf4p := of_decide_eq_true hf4
      refine wl_b .eql 3 (.tmp 17) (.const (.int .i64 (4))) (.int .i64 (y.k)) (.int .i64 (4)) (.bool true) (eq3 hf4 _ _ _) ?_
      refine wl_m (.tmp 18) (.bool true) ?_
      refine w_nil (xn_then (w_condT rfl (w_seq (w_reg ?_))))
      refine wl_f 28 4 (.tmp 4) (pt k2 0) (pt k2 9) ?_
      refine wl_l 3 (.tmp 19) (pt k2 9) (.int .i64 (y.e)) (run_one Q2 3 9 rfl Tryz.underlying3 rfl) ?_
      refine wl_m (.tmp 20) (.int .i64 (y.e)) ?_
      refine w_nil (xn_then (w_ret (xr_blk (xr_blk (xr_then (xr_then (xr_blk (xr_then ?_))))))))
      exact w_ret1 _ (.int .i64 (y.e)) rfl rfl ⟨by first | (simp [ask2, ask, hf0, hf1p, hf2p, hf3, hf4p]; done) | (rw [ask2_e hx (by assumption) (by assumption)]), M⟩
     | false =>
      have hf4p := of_decide_eq_false hf4
      refine wl_b .eql 3 (.tmp 17) (.const (.int .i64 (4))) (.int .i64 (y.k)) (.int .i64 (4)) (.bool false) (eq3 hf4 _ _ _) ?_
      refine wl_m (.tmp 18) (.bool false) ?_
      refine w_nil (xn_then (w_condF rfl (w_seq (w_reg ?_))))
      refine wl_f 28 0 (.tmp 4) (pt k2 0) (pt k2 0) ?_
      refine wl_l 3 (.tmp 22) (pt k2 0) (.int .i64 (y.k)) (run_one Q2 3 0 rfl Tryz.underlying3 rfl) ?_
      cases hf5 : decide (y.k = 0) with
      | true =>
       have hf5p := of_decide_eq_true hf5
       refine wl_b .eql 3 (.tmp 23) (.const (.int .i64 (0))) (.int .i64 (y.k)) (.int .i64 (0)) (.bool true) (eq3 hf5 _ _ _) ?_
       refine wl_m (.tmp 24) (.bool true) ?_
       refine w_nil (xn_then (w_condT rfl (w_seq (w_reg ?_))))
       refine wl_m (.const (.int .i64 (3))) (.int .i64 (3)) ?_
       refine w_nil (xn_then (w_ret (xr_blk (xr_blk (xr_then (xr_then (xr_blk (xr_then ?_))))))))
       exact w_ret1 _ (.int .i64 (3)) rfl rfl ⟨by first | (simp [ask2, ask, hf0, hf1p, hf2p, hf3, hf5p]; done) | (rw [ask2_e hx (by assumption) (by assumption)]), M⟩
      | false =>
       have hf5p := of_decide_eq_false hf5
       refine wl_b .eql 3 (.tmp 23) (.const (.int .i64 (0))) (.int .i64 (y.k)) (.int .i64 (0)) (.bool false) (eq3 hf5 _ _ _) ?_
       refine wl_m (.tmp 24) (.bool false) ?_
       refine w_nil (xn_then (w_condF rfl (w_skip (xn_blk (xn_blk (xn_then (w_reg ?_)))))))
       refine wl_b .add 3 (.tmp 7) (.const (.int .i64 (1))) (.int .i64 (1)) (.int .i64 (1)) (.int .i64 (2)) (by kernel_rfl) ?_
       refine wl_m (.tmp 25) (.int .i64 (2)) ?_
       refine w_nil ?_
       refine xn_rounds ?_
       refine w_seq (w_reg ?_)
       refine wl_b .lss 3 (.tmp 7) (.tmp 6) (.int .i64 (2)) (.int .i64 (2)) (.bool false) (lt3 (r := false) rfl _ _ _) ?_
       refine w_nil (xn_then (w_seq (w_condF rfl (w_exit (xx_then (xx_then (xx_blk (xn_then (w_seq (w_reg ?_))))))))))
       refine wl_m (.const (.int .i64 (0))) (.int .i64 (0)) ?_
       refine w_nil (xn_then (w_ret ?_))
       exact w_ret1 _ (.int .i64 (0)) rfl rfl ⟨by first | (simp [ask2, ask, hf0, hf1p, hf2p, hf3, hf4p, hf5p]; done) | (rw [ask2_e hx (by assumption) (by assumption)]), M⟩
    | false =>
     refine wl_call 13 [(.tmp 12)] _ [.agg (y.cells).toArray] (.int .i64 (1)) rfl rfl (fun _ _ => by kernel_rfl) (check_f hf3 hy _) rfl ?_
     intro u6 hq
     replace hA := hA.mo hq
     replace Q1 := Q1.mo hq
     replace Q2 := Q2.mo hq
     replace M := M.trans hq
     clear hq
     refine wl_b .neq 32 (.tmp 13) (.const (.int .i64 (0))) (.int .i64 (1)) (.int .i64 (0)) (.bool true) (ne34 (r := false) rfl _ _ _) ?_
     refine wl_m (.tmp 14) (.bool true) ?_
     refine w_nil (xn_then (w_condT rfl (w_seq (w_reg ?_))))
     refine wl_m (.const (.int .i64 (2))) (.int .i64 (2)) ?_
     refine w_nil (xn_then (w_ret (xr_blk (xr_blk (xr_then (xr_then (xr_blk (xr_then ?_))))))))
     exact w_ret1 _ (.int .i64 (2)) rfl rfl ⟨by first | (simp [ask2, ask, hf0, hf1p, hf2p, hf3]; done) | (rw [ask2_e hx (by assumption) (by assumption)]), M⟩
 | false =>
  refine wl_call 13 [(.tmp 12)] _ [.agg (x.cells).toArray] (.int .i64 (1)) rfl rfl (fun _ _ => by kernel_rfl) (check_f hf0 hx _) rfl ?_
  intro u3 hq
  replace hA := hA.mo hq
  replace Q1 := Q1.mo hq
  replace M := M.trans hq
  clear hq
  refine wl_b .neq 32 (.tmp 13) (.const (.int .i64 (0))) (.int .i64 (1)) (.int .i64 (0)) (.bool true) (ne34 (r := false) rfl _ _ _) ?_
  refine wl_m (.tmp 14) (.bool true) ?_
  refine w_nil (xn_then (w_condT rfl (w_seq (w_reg ?_))))
  refine wl_m (.const (.int .i64 (2))) (.int .i64 (2)) ?_
  refine w_nil (xn_then (w_ret (xr_blk (xr_blk (xr_then (xr_then (xr_blk (xr_then ?_))))))))
  exact w_ret1 _ (.int .i64 (2)) rfl rfl ⟨by first | (simp [ask2, ask, hf0]; done) | (rw [ask2_e hx (by assumption) (by assumption)]), M⟩
end Go.Proofs.YtogomodbcjpfiaaGreatDoor
