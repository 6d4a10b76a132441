/-
  A part of the proof.
-/
import Derived.Test.YtogomodbcjpfiaaGreatDoorKb7
import Derived.Test.YtogomodbcjpfiaaGreatDoorKOps1
import Derived.Test.YtogomodbcjpfiaaGreatDoorKa19
import Derived.Test.YtogomodbcjpfiaaGreatDoorKa18
import Derived.Test.YtogomodbcjpfiaaGreatDoorKa17
import Derived.Test.YtogomodbcjpfiaaGreatDoorKb6
import Derived.Test.YtogomodbcjpfiaaGreatDoorKa16
import Derived.Test.YtogomodbcjpfiaaGreatDoorKa15
import Derived.Test.YtogomodbcjpfiaaGreatDoorKa14
import Derived.Test.YtogomodbcjpfiaaGreatDoorKa1
import Derived.Shelf.Strings.Builder1
import Derived.Shelf.Strings.Builder2
import Derived.Shelf.Small.Bits
import Derived.Shelf.Small.Wraps
import Derived.Shelf.Strings.BuilderF
import Derived.Shelf.Strings.BuilderK
import Derived.Shelf.Strings.Prefix
import Derived.Shelf.Bits.Mul64
import Derived.Shelf.Strings.Repeat
import Derived.Test.YtogomodbcjpfiaaGreatDoorProg
import Derived.Shelf.Strconv.Itoa0
import Derived.Test.YtogomodbcjpfiaaGreatDoorKb5
import Derived.Test.YtogomodbcjpfiaaGreatDoorKb4
import Derived.Test.YtogomodbcjpfiaaGreatDoorKb3
import Derived.Test.YtogomodbcjpfiaaGreatDoorKa11
import Derived.Test.YtogomodbcjpfiaaGreatDoorKa9
import Derived.Test.YtogomodbcjpfiaaGreatDoorKa4
import Derived.Test.YtogomodbcjpfiaaGreatDoorKb1
import Derived.Test.YtogomodbcjpfiaaGreatDoorKa3
import Derived.Test.YtogomodbcjpfiaaGreatDoorKa2
import Derived.RegionTactic
import Derived.WalkKit
import Derived.WalkSpells
import Derived.Handy
import Derived.BigQuiet
import Derived.Deep.RegionHeld3
import Derived.Deep.MidRow
import Derived.BigCall
import Derived.Test.YtogomodbcjpfiaaGreatDoorKa8
import Derived.Test.YtogomodbcjpfiaaGreatDoorKb2
import Derived.Test.YtogomodbcjpfiaaGreatDoorKa5
import Derived.Deep.CutBlock
import Derived.Deep.CutRange
import Derived.Test.YtogomodbcjpfiaaGreatDoorKa7
import Derived.Test.YtogomodbcjpfiaaGreatDoorKa6
import Derived.ChangeKeysEq
import Derived.ScopeJumps
import Derived.WalkMore
import Derived.Laws.StructEq
import Derived.Test.YtogomodbcjpfiaaGreatDoorKa10
import Derived.Test.YtogomodbcjpfiaaGreatDoorKa13
import Derived.Test.YtogomodbcjpfiaaGreatDoorKa12
import Derived.Lib.CutLaws
import Derived.Lib.IndexBytes
import Derived.Maps.OwnSet
import Derived.WalkArith
import Derived.StringKeys
import Derived.Test.YtogomodbcjpfiaaGreatDoorKa21
import Derived.Test.YtogomodbcjpfiaaGreatDoorKa20
import Derived.Maps.AppendAt
import Derived.Deep.AppendLies
import Derived.Laws.BytesString
namespace Go.Proofs.YtogomodbcjpfiaaGreatDoor
open Go.RowKit
def recV (op : Int) (b : Bool) (n s : Int) (c : Bool) (m t : Int) : VL := if op = 1 then numV (addR b n s c m t) else if op = 2 then numV (subR b n s c m t) else numV (mulR b n s c m t)
def samB (x y : VL) : Bool := if x.k = 1 then decide (cmpR x.b x.n x.s y.b y.n y.s = 0) else svv x y
def orB (op o : Int) : Bool := if op = 6 then decide (o < 0) else if op = 7 then decide (o ≤ 0) else if op = 8 then decide (0 < o) else decide (0 ≤ o)
def ropV (op : Int) (x y : VL) : VL :=
 if ask x = 0 then (if ask y = 0 then
  (if ((decide (op = 1) || decide (op = 2) || decide (op = 3)) && (decide (x.k = 1) && decide (y.k = 1))) = true then recV op x.b x.n x.s y.b y.n y.s
  else if ((decide (op = 4) || decide (op = 5)) && decide (x.k = y.k)) = true then vFl (samB x y == decide (op = 4))
  else if ((decide (6 ≤ op) && decide (op ≤ 9)) && (decide (x.k = 1) && decide (y.k = 1))) = true then vFl (orB op (cmpR x.b x.n x.s y.b y.n y.s))
  else if (decide (op = 10) && (decide (x.k = 2) && decide (y.k = 2))) = true then vFl (x.f && y.f)
  else if (decide (op = 11) && (decide (x.k = 2) && decide (y.k = 2))) = true then vFl (x.f || y.f) else vBad 2)
  else vEr (ask y)) else vEr (ask x)
theorem ask_k {v : VL} (h : v.ok) (a : ask v = 0) : v.k = 1 ∨ v.k = 2 ∨ v.k = 3 := by
 obtain ⟨c, h4, h0⟩ := ask_0 h a
 have := ckv_k h c
 omega
theorem ropV_eq (op : Int) {x y : VL} (hx : x.ok) (hy : y.ok) : ropV op x y = opV op x y := by
  by_cases ax : ask x = 0
  · by_cases ay : ask y = 0
    · have a2 : ask2 x y = 0 := by unfold ask2; rw [if_pos ax]; exact ay
      unfold ropV opV
      rw [if_pos ax, if_pos ay, if_pos a2]
      have hop : op = 1 ∨ op = 2 ∨ op = 3 ∨ op = 4 ∨ op = 5 ∨ op = 6 ∨ op = 7 ∨ op = 8 ∨ op = 9 ∨ op = 10 ∨ op = 11 ∨ (op < 1 ∨ 11 < op) := by omega
      rcases ask_k hx ax with kx | kx | kx <;> rcases ask_k hy ay with ky | ky | ky <;>
        rcases hop with h | h | h | h | h | h | h | h | h | h | h | h <;> first
        | (subst h; simp [kx, ky, recV, samB, orB, opN, opF, ordV])
        | (have e1 : op ≠ 1 ∧ op ≠ 2 ∧ op ≠ 3 ∧ op ≠ 4 ∧ op ≠ 5 ∧ op ≠ 6 ∧ op ≠ 7 ∧ op ≠ 8 ∧ op ≠ 9 ∧ op ≠ 10 ∧ op ≠ 11 := (by omega)
           have e2 : ¬ (6 ≤ op ∧ op ≤ 9) := (by omega)
           simp [kx, ky, e1, e2, opN, opF, ordV])
    · have a2 : ask2 x y = ask y := by unfold ask2; rw [if_pos ax]
      unfold ropV opV
      rw [if_pos ax, if_neg ay, a2, if_neg ay, bad_of (ask_isE hy ay)]
  · have a2 : ask2 x y = ask x := by unfold ask2; rw [if_neg ax]
    unfold ropV opV
    rw [if_neg ax, a2, if_neg ax, bad_of (ask_isE hx ax)]
theorem reckon_n (op : Int) (b : Bool) (n s : Int) (c : Bool) (m t : Int) (w : World) (hn0 : 0 ≤ n) (hn : n < MM) (hm0 : 0 ≤ m) (hm : m < MM) (h1 : ck b n s = 0) (h2 : ck c m t = 0) : Calls Tryz.prog 36 #[.int .i64 op, dc b n s, dc c m t] w fun e9 w' => e9 = .returned (recV op b n s c m t).v ∧ Mo w w' := by
 refine w_enter 36 Tryz.func36 Tryz.ntmps36 rfl rfl ?_
 have M : Mo w w := Mo.refl _
 refine w_seq (w_reg ?_)
 refine wl_box 26 (.tmp 1) _ (#[.bool b, .int .u64 (l0 n), .int .u64 (l1 n), .int .u64 (l2 n), .int .u64 (l3 n), .int .i64 s]) rfl rfl (fun _ => by kernel_rfl) rfl ?_
 intro k1 u1 hk hz hq Q1
 have N_k1 : w.heap.size ≤ k1 := by have := M.size; omega
 replace M := M.trans hq
 clear hk hz hq
 refine wl_box 26 (.tmp 2) _ (#[.bool c, .int .u64 (l0 m), .int .u64 (l1 m), .int .u64 (l2 m), .int .u64 (l3 m), .int .i64 t]) rfl rfl (fun _ => by kernel_rfl) rfl ?_
 intro k2 u2 hk hz hq Q2
 have ne_k1_k2 : k1 ≠ k2 := by have := Q1.lt; omega
 have N_k2 : w.heap.size ≤ k2 := by have := M.size; omega
 replace Q1 := Q1.mo hq
 replace M := M.trans hq
 clear hk hz hq
 refine wl_alloc 28 #[.int .i64 0, .bool false, .int .u64 0, .int .u64 0, .int .u64 0, .int .u64 0, .int .i64 0, .bool false, .string ⟨#[]⟩, .int .i64 0] rfl (fun _ => by kernel_rfl) rfl ?_
 intro k3 u3 hk hz hq Q3
 have ne_k1_k3 : k1 ≠ k3 := by have := Q1.lt; omega
 have ne_k2_k3 : k2 ≠ k3 := by have := Q2.lt; omega
 have N_k3 : w.heap.size ≤ k3 := by have := M.size; omega
 replace Q1 := Q1.mo hq
 replace Q2 := Q2.mo hq
 replace M := M.trans hq
 clear hk hz hq
 refine w_nil (xn_then (w_seq (w_seq (w_reg ?_))))
 refine wl_m (.tmp 0) (.int .i64 (op)) ?_
 refine w_nil (xn_then (w_block (w_seq (w_reg ?_))))
 cases hf0 : decide (op = 1) with
 | true =>
  have hf0p := of_decide_eq_true hf0
  refine wl_b .eql 3 (.tmp 7) (.const (.int .i64 (1))) (.int .i64 (op)) (.int .i64 (1)) (.bool true) (eq3 hf0 _ _ _) ?_
  refine wl_m (.tmp 9) (.bool true) ?_
  refine w_nil (xn_then (w_condT rfl (w_seq (w_reg ?_))))
  refine wl_l 26 (.tmp 4) (pt k1 0) (.agg #[.bool b, .int .u64 (l0 n), .int .u64 (l1 n), .int .u64 (l2 n), .int .u64 (l3 n), .int .i64 s]) (run_row Q1 26 0 6 _ rfl Tryz.underlying26 rfl sz26) ?_
  refine wl_l 26 (.tmp 5) (pt k2 0) (.agg #[.bool c, .int .u64 (l0 m), .int .u64 (l1 m), .int .u64 (l2 m), .int .u64 (l3 m), .int .i64 t]) (run_row Q2 26 0 6 _ rfl Tryz.underlying26 rfl sz26) ?_
  refine wl_call 64 [(.tmp 10), (.tmp 11)] _ [.agg #[.bool b, .int .u64 (l0 n), .int .u64 (l1 n), .int .u64 (l2 n), .int .u64 (l3 n), .int .i64 s], .agg #[.bool c, .int .u64 (l0 m), .int .u64 (l1 m), .int .u64 (l2 m), .int .u64 (l3 m), .int .i64 t]] (.tuple #[.agg #[.bool (addR b n s c m t).b, .int .u64 (l0 (addR b n s c m t).n), .int .u64 (l1 (addR b n s c m t).n), .int .u64 (l2 (addR b n s c m t).n), .int .u64 (l3 (addR b n s c m t).n), .int .i64 (addR b n s c m t).s], .int .i64 ((addR b n s c m t).e)]) rfl rfl (fun _ _ => by kernel_rfl) (qadd_n b n s c m t _ hn0 hn hm0 hm h1 h2) rfl ?_
  intro u4 hq
  replace Q1 := Q1.mo hq
  replace Q2 := Q2.mo hq
  replace Q3 := Q3.mo hq
  replace M := M.trans hq
  clear hq
  refine wl_un (fun v => Instr.extract v 0) (.tmp 12) (.tuple #[.agg #[.bool (addR b n s c m t).b, .int .u64 (l0 (addR b n s c m t).n), .int .u64 (l1 (addR b n s c m t).n), .int .u64 (l2 (addR b n s c m t).n), .int .u64 (l3 (addR b n s c m t).n), .int .i64 (addR b n s c m t).s], .int .i64 ((addR b n s c m t).e)]) (.agg #[.bool (addR b n s c m t).b, .int .u64 (l0 (addR b n s c m t).n), .int .u64 (l1 (addR b n s c m t).n), .int .u64 (l2 (addR b n s c m t).n), .int .u64 (l3 (addR b n s c m t).n), .int .i64 (addR b n s c m t).s]) (fun _ => rfl) rfl (by kernel_rfl) rfl ?_
  refine wl_un (fun v => Instr.extract v 1) (.tmp 12) (.tuple #[.agg #[.bool (addR b n s c m t).b, .int .u64 (l0 (addR b n s c m t).n), .int .u64 (l1 (addR b n s c m t).n), .int .u64 (l2 (addR b n s c m t).n), .int .u64 (l3 (addR b n s c m t).n), .int .i64 (addR b n s c m t).s], .int .i64 ((addR b n s c m t).e)]) (.int .i64 ((addR b n s c m t).e)) (fun _ => rfl) rfl (by kernel_rfl) rfl ?_
  refine wl_call 48 [(.tmp 13), (.tmp 14)] _ [.agg #[.bool (addR b n s c m t).b, .int .u64 (l0 (addR b n s c m t).n), .int .u64 (l1 (addR b n s c m t).n), .int .u64 (l2 (addR b n s c m t).n), .int .u64 (l3 (addR b n s c m t).n), .int .i64 (addR b n s c m t).s], .int .i64 ((addR b n s c m t).e)] (.agg ((numV (addR b n s c m t)).cells).toArray) rfl rfl (fun _ _ => by kernel_rfl) (told_n (addR b n s c m t) _) rfl ?_
  intro u5 hq
  replace Q1 := Q1.mo hq
  replace Q2 := Q2.mo hq
  replace Q3 := Q3.mo hq
  replace M := M.trans hq
  clear hq
  refine wl_st 28 (.tmp 6) (.tmp 15) k3 0 (((numV (addR b n s c m t)).cells).toArray) _ ((numV (addR b n s c m t)).cells) Q3 rfl rfl rfl rfl rfl sz28 rfl rfl rfl ?_
  intro u6 hS Qn
  replace Q3 := Qn
  clear Qn
  replace Q1 := hS.other _ _ ne_k1_k3 Q1
  replace Q2 := hS.other _ _ ne_k2_k3 Q2
  replace M := hS.mo _ N_k3 M
  clear hS
  refine w_nil (xn_then (w_ret (xr_blk (xr_then ?_))))
  exact w_ret1 _ (.agg ((numV (addR b n s c m t)).cells).toArray) rfl ⟨k3, rfl, (run_row Q3 28 0 10 ((numV (addR b n s c m t)).cells) rfl Tryz.underlying28 rfl sz28)⟩ ⟨vrt (x := (numV (addR b n s c m t))) rfl (by simp [recV, hf0p]), M⟩
 | false =>
  have hf0p := of_decide_eq_false hf0
  refine wl_b .eql 3 (.tmp 7) (.const (.int .i64 (1))) (.int .i64 (op)) (.int .i64 (1)) (.bool false) (eq3 hf0 _ _ _) ?_
  refine wl_m (.tmp 9) (.bool false) ?_
  refine w_nil (xn_then (w_condF rfl (w_seq (w_reg ?_))))
  cases hf1 : decide (op = 2) with
  | true =>
   have hf1p := of_decide_eq_true hf1
   refine wl_b .eql 3 (.tmp 7) (.const (.int .i64 (2))) (.int .i64 (op)) (.int .i64 (2)) (.bool true) (eq3 hf1 _ _ _) ?_
   refine wl_m (.tmp 17) (.bool true) ?_
   refine w_nil (xn_then (w_condT rfl (w_seq (w_reg ?_))))
   refine wl_l 26 (.tmp 4) (pt k1 0) (.agg #[.bool b, .int .u64 (l0 n), .int .u64 (l1 n), .int .u64 (l2 n), .int .u64 (l3 n), .int .i64 s]) (run_row Q1 26 0 6 _ rfl Tryz.underlying26 rfl sz26) ?_
   refine wl_l 26 (.tmp 5) (pt k2 0) (.agg #[.bool c, .int .u64 (l0 m), .int .u64 (l1 m), .int .u64 (l2 m), .int .u64 (l3 m), .int .i64 t]) (run_row Q2 26 0 6 _ rfl Tryz.underlying26 rfl sz26) ?_
   refine wl_call 65 [(.tmp 18), (.tmp 19)] _ [.agg #[.bool b, .int .u64 (l0 n), .int .u64 (l1 n), .int .u64 (l2 n), .int .u64 (l3 n), .int .i64 s], .agg #[.bool c, .int .u64 (l0 m), .int .u64 (l1 m), .int .u64 (l2 m), .int .u64 (l3 m), .int .i64 t]] (.tuple #[.agg #[.bool (subR b n s c m t).b, .int .u64 (l0 (subR b n s c m t).n), .int .u64 (l1 (subR b n s c m t).n), .int .u64 (l2 (subR b n s c m t).n), .int .u64 (l3 (subR b n s c m t).n), .int .i64 (subR b n s c m t).s], .int .i64 ((subR b n s c m t).e)]) rfl rfl (fun _ _ => by kernel_rfl) (qsub_n b n s c m t _ hn0 hn hm0 hm h1 h2) rfl ?_
   intro u4 hq
   replace Q1 := Q1.mo hq
   replace Q2 := Q2.mo hq
   replace Q3 := Q3.mo hq
   replace M := M.trans hq
   clear hq
   refine wl_un (fun v => Instr.extract v 0) (.tmp 20) (.tuple #[.agg #[.bool (subR b n s c m t).b, .int .u64 (l0 (subR b n s c m t).n), .int .u64 (l1 (subR b n s c m t).n), .int .u64 (l2 (subR b n s c m t).n), .int .u64 (l3 (subR b n s c m t).n), .int .i64 (subR b n s c m t).s], .int .i64 ((subR b n s c m t).e)]) (.agg #[.bool (subR b n s c m t).b, .int .u64 (l0 (subR b n s c m t).n), .int .u64 (l1 (subR b n s c m t).n), .int .u64 (l2 (subR b n s c m t).n), .int .u64 (l3 (subR b n s c m t).n), .int .i64 (subR b n s c m t).s]) (fun _ => rfl) rfl (by kernel_rfl) rfl ?_
   refine wl_un (fun v => Instr.extract v 1) (.tmp 20) (.tuple #[.agg #[.bool (subR b n s c m t).b, .int .u64 (l0 (subR b n s c m t).n), .int .u64 (l1 (subR b n s c m t).n), .int .u64 (l2 (subR b n s c m t).n), .int .u64 (l3 (subR b n s c m t).n), .int .i64 (subR b n s c m t).s], .int .i64 ((subR b n s c m t).e)]) (.int .i64 ((subR b n s c m t).e)) (fun _ => rfl) rfl (by kernel_rfl) rfl ?_
   refine wl_call 48 [(.tmp 21), (.tmp 22)] _ [.agg #[.bool (subR b n s c m t).b, .int .u64 (l0 (subR b n s c m t).n), .int .u64 (l1 (subR b n s c m t).n), .int .u64 (l2 (subR b n s c m t).n), .int .u64 (l3 (subR b n s c m t).n), .int .i64 (subR b n s c m t).s], .int .i64 ((subR b n s c m t).e)] (.agg ((numV (subR b n s c m t)).cells).toArray) rfl rfl (fun _ _ => by kernel_rfl) (told_n (subR b n s c m t) _) rfl ?_
   intro u5 hq
   replace Q1 := Q1.mo hq
   replace Q2 := Q2.mo hq
   replace Q3 := Q3.mo hq
   replace M := M.trans hq
   clear hq
   refine wl_st 28 (.tmp 6) (.tmp 23) k3 0 (((numV (subR b n s c m t)).cells).toArray) _ ((numV (subR b n s c m t)).cells) Q3 rfl rfl rfl rfl rfl sz28 rfl rfl rfl ?_
   intro u6 hS Qn
   replace Q3 := Qn
   clear Qn
   replace Q1 := hS.other _ _ ne_k1_k3 Q1
   replace Q2 := hS.other _ _ ne_k2_k3 Q2
   replace M := hS.mo _ N_k3 M
   clear hS
   refine w_nil (xn_then (w_ret (xr_blk (xr_then ?_))))
   exact w_ret1 _ (.agg ((numV (subR b n s c m t)).cells).toArray) rfl ⟨k3, rfl, (run_row Q3 28 0 10 ((numV (subR b n s c m t)).cells) rfl Tryz.underlying28 rfl sz28)⟩ ⟨vrt (x := (numV (subR b n s c m t))) rfl (by simp [recV, hf1p]), M⟩
  | false =>
   have hf1p := of_decide_eq_false hf1
   refine wl_b .eql 3 (.tmp 7) (.const (.int .i64 (2))) (.int .i64 (op)) (.int .i64 (2)) (.bool false) (eq3 hf1 _ _ _) ?_
   refine wl_m (.tmp 17) (.bool false) ?_
   refine w_nil (xn_then (w_condF rfl (w_skip (xn_blk (xn_then (w_seq (w_reg ?_)))))))
   refine wl_l 26 (.tmp 4) (pt k1 0) (.agg #[.bool b, .int .u64 (l0 n), .int .u64 (l1 n), .int .u64 (l2 n), .int .u64 (l3 n), .int .i64 s]) (run_row Q1 26 0 6 _ rfl Tryz.underlying26 rfl sz26) ?_
   refine wl_l 26 (.tmp 5) (pt k2 0) (.agg #[.bool c, .int .u64 (l0 m), .int .u64 (l1 m), .int .u64 (l2 m), .int .u64 (l3 m), .int .i64 t]) (run_row Q2 26 0 6 _ rfl Tryz.underlying26 rfl sz26) ?_
   refine wl_f 26 2 (.tmp 4) (pt k1 0) (pt k1 5) ?_
   refine wl_l 3 (.tmp 26) (pt k1 5) (.int .i64 (s)) (run_one Q1 3 5 rfl Tryz.underlying3 rfl) ?_
   refine wl_f 26 2 (.tmp 5) (pt k2 0) (pt k2 5) ?_
   refine wl_l 3 (.tmp 28) (pt k2 5) (.int .i64 (t)) (run_one Q2 3 5 rfl Tryz.underlying3 rfl) ?_
   refine wl_b .add 3 (.tmp 27) (.tmp 29) (.int .i64 (s)) (.int .i64 (t)) (.int .i64 (s + t)) (addst rfl (by have := sc_iff.1 (ck_s h1); have := sc_iff.1 (ck_s h2); omega) (by have := sc_iff.1 (ck_s h1); have := sc_iff.1 (ck_s h2); omega) _ _ _) ?_
   refine wl_val (.int .i64 (min (s + t) 18)) (min_b _ _ _ (by exact rfl) rfl _ _ _ _ _ _ _) rfl ?_
   refine wl_call 66 [(.tmp 24), (.tmp 25), (.tmp 31), (.const (.int .i64 (2)))] _ [.agg #[.bool b, .int .u64 (l0 n), .int .u64 (l1 n), .int .u64 (l2 n), .int .u64 (l3 n), .int .i64 s], .agg #[.bool c, .int .u64 (l0 m), .int .u64 (l1 m), .int .u64 (l2 m), .int .u64 (l3 m), .int .i64 t], .int .i64 (min (s + t) 18), .int .i64 (2)] (.tuple #[.agg #[.bool (mulR b n s c m t).b, .int .u64 (l0 (mulR b n s c m t).n), .int .u64 (l1 (mulR b n s c m t).n), .int .u64 (l2 (mulR b n s c m t).n), .int .u64 (l3 (mulR b n s c m t).n), .int .i64 (mulR b n s c m t).s], .int .i64 ((mulR b n s c m t).e)]) rfl rfl (fun _ _ => by kernel_rfl) (qmul_n b n s c m t _ hn0 hn hm0 hm h1 h2) rfl ?_
   intro u4 hq
   replace Q1 := Q1.mo hq
   replace Q2 := Q2.mo hq
   replace Q3 := Q3.mo hq
   replace M := M.trans hq
   clear hq
   refine wl_un (fun v => Instr.extract v 0) (.tmp 32) (.tuple #[.agg #[.bool (mulR b n s c m t).b, .int .u64 (l0 (mulR b n s c m t).n), .int .u64 (l1 (mulR b n s c m t).n), .int .u64 (l2 (mulR b n s c m t).n), .int .u64 (l3 (mulR b n s c m t).n), .int .i64 (mulR b n s c m t).s], .int .i64 ((mulR b n s c m t).e)]) (.agg #[.bool (mulR b n s c m t).b, .int .u64 (l0 (mulR b n s c m t).n), .int .u64 (l1 (mulR b n s c m t).n), .int .u64 (l2 (mulR b n s c m t).n), .int .u64 (l3 (mulR b n s c m t).n), .int .i64 (mulR b n s c m t).s]) (fun _ => rfl) rfl (by kernel_rfl) rfl ?_
   refine wl_un (fun v => Instr.extract v 1) (.tmp 32) (.tuple #[.agg #[.bool (mulR b n s c m t).b, .int .u64 (l0 (mulR b n s c m t).n), .int .u64 (l1 (mulR b n s c m t).n), .int .u64 (l2 (mulR b n s c m t).n), .int .u64 (l3 (mulR b n s c m t).n), .int .i64 (mulR b n s c m t).s], .int .i64 ((mulR b n s c m t).e)]) (.int .i64 ((mulR b n s c m t).e)) (fun _ => rfl) rfl (by kernel_rfl) rfl ?_
   refine wl_call 48 [(.tmp 33), (.tmp 34)] _ [.agg #[.bool (mulR b n s c m t).b, .int .u64 (l0 (mulR b n s c m t).n), .int .u64 (l1 (mulR b n s c m t).n), .int .u64 (l2 (mulR b n s c m t).n), .int .u64 (l3 (mulR b n s c m t).n), .int .i64 (mulR b n s c m t).s], .int .i64 ((mulR b n s c m t).e)] (.agg ((numV (mulR b n s c m t)).cells).toArray) rfl rfl (fun _ _ => by kernel_rfl) (told_n (mulR b n s c m t) _) rfl ?_
   intro u5 hq
   replace Q1 := Q1.mo hq
   replace Q2 := Q2.mo hq
   replace Q3 := Q3.mo hq
   replace M := M.trans hq
   clear hq
   refine wl_st 28 (.tmp 6) (.tmp 35) k3 0 (((numV (mulR b n s c m t)).cells).toArray) _ ((numV (mulR b n s c m t)).cells) Q3 rfl rfl rfl rfl rfl sz28 rfl rfl rfl ?_
   intro u6 hS Qn
   replace Q3 := Qn
   clear Qn
   replace Q1 := hS.other _ _ ne_k1_k3 Q1
   replace Q2 := hS.other _ _ ne_k2_k3 Q2
   replace M := hS.mo _ N_k3 M
   clear hS
   refine w_nil (xn_then (w_ret ?_))
   exact w_ret1 _ (.agg ((numV (mulR b n s c m t)).cells).toArray) rfl ⟨k3, rfl, (run_row Q3 28 0 10 ((numV (mulR b n s c m t)).cells) rfl Tryz.underlying28 rfl sz28)⟩ ⟨vrt (x := (numV (mulR b n s c m t))) rfl (by simp [recV, hf0p, hf1p]), M⟩
theorem order_n (op : Int) (b : Bool) (n s : Int) (c : Bool) (m t : Int) (w : World) (hn0 : 0 ≤ n) (hn : n < MM) (hm0 : 0 ≤ m) (hm : m < MM) (h1 : ck b n s = 0) (h2 : ck c m t = 0) : Calls Tryz.prog 39 #[.int .i64 op, dc b n s, dc c m t] w fun e9 w' => e9 = .returned (.bool (orB op (cmpR b n s c m t))) ∧ Mo w w' := by
 refine w_enter 26 Tryz.func39 Tryz.ntmps39 rfl rfl ?_
 have M : Mo w w := Mo.refl _
 refine w_seq (w_reg ?_)
 refine wl_box 26 (.tmp 1) _ (#[.bool b, .int .u64 (l0 n), .int .u64 (l1 n), .int .u64 (l2 n), .int .u64 (l3 n), .int .i64 s]) rfl rfl (fun _ => by kernel_rfl) rfl ?_
 intro k1 u1 hk hz hq Q1
 have N_k1 : w.heap.size ≤ k1 := by have := M.size; omega
 replace M := M.trans hq
 clear hk hz hq
 refine wl_box 26 (.tmp 2) _ (#[.bool c, .int .u64 (l0 m), .int .u64 (l1 m), .int .u64 (l2 m), .int .u64 (l3 m), .int .i64 t]) rfl rfl (fun _ => by kernel_rfl) rfl ?_
 intro k2 u2 hk hz hq Q2
 have ne_k1_k2 : k1 ≠ k2 := by have := Q1.lt; omega
 have N_k2 : w.heap.size ≤ k2 := by have := M.size; omega
 replace Q1 := Q1.mo hq
 replace M := M.trans hq
 clear hk hz hq
 refine wl_m (.const (.bool false)) (.bool false) ?_
 refine w_nil (xn_then (w_seq (w_reg ?_)))
 refine wl_l 26 (.tmp 4) (pt k1 0) (.agg #[.bool b, .int .u64 (l0 n), .int .u64 (l1 n), .int .u64 (l2 n), .int .u64 (l3 n), .int .i64 s]) (run_row Q1 26 0 6 _ rfl Tryz.underlying26 rfl sz26) ?_
 refine wl_l 26 (.tmp 5) (pt k2 0) (.agg #[.bool c, .int .u64 (l0 m), .int .u64 (l1 m), .int .u64 (l2 m), .int .u64 (l3 m), .int .i64 t]) (run_row Q2 26 0 6 _ rfl Tryz.underlying26 rfl sz26) ?_
 refine wl_call 67 [(.tmp 8), (.tmp 9)] _ [.agg #[.bool b, .int .u64 (l0 n), .int .u64 (l1 n), .int .u64 (l2 n), .int .u64 (l3 n), .int .i64 s], .agg #[.bool c, .int .u64 (l0 m), .int .u64 (l1 m), .int .u64 (l2 m), .int .u64 (l3 m), .int .i64 t]] (.int .i64 (cmpR b n s c m t)) rfl rfl (fun _ _ => by kernel_rfl) (qcmp_n b n s c m t _ hn0 hn hm0 hm h1 h2) rfl ?_
 intro u3 hq
 replace Q1 := Q1.mo hq
 replace Q2 := Q2.mo hq
 replace M := M.trans hq
 clear hq
 refine wl_m (.tmp 10) (.int .i64 (cmpR b n s c m t)) ?_
 refine w_nil (xn_then (w_seq (w_seq (w_reg ?_))))
 refine wl_m (.tmp 0) (.int .i64 (op)) ?_
 refine w_nil (xn_then (w_block (w_seq (w_reg ?_))))
 cases hf0 : decide (op = 6) with
 | true =>
  have hf0p := of_decide_eq_true hf0
  refine wl_b .eql 3 (.tmp 11) (.const (.int .i64 (6))) (.int .i64 (op)) (.int .i64 (6)) (.bool true) (eq3 hf0 _ _ _) ?_
  refine wl_m (.tmp 13) (.bool true) ?_
  refine w_nil (xn_then (w_condT rfl (w_seq (w_reg ?_))))
  refine wl_m (.tmp 7) (.int .i64 (cmpR b n s c m t)) ?_
  cases hf1 : decide (cmpR b n s c m t < 0) with
  | true =>
   have hf1p := of_decide_eq_true hf1
   refine wl_b .lss 3 (.tmp 14) (.const (.int .i64 (0))) (.int .i64 (cmpR b n s c m t)) (.int .i64 (0)) (.bool true) (lt3 hf1 _ _ _) ?_
   refine wl_m (.tmp 15) (.bool true) ?_
   refine w_nil (xn_then (w_ret (xr_blk (xr_then ?_))))
   exact w_ret1 _ (.bool true) rfl rfl ⟨by simp [orB, hf0p, hf1p], M⟩
  | false =>
   have hf1p := of_decide_eq_false hf1
   refine wl_b .lss 3 (.tmp 14) (.const (.int .i64 (0))) (.int .i64 (cmpR b n s c m t)) (.int .i64 (0)) (.bool false) (lt3 hf1 _ _ _) ?_
   refine wl_m (.tmp 15) (.bool false) ?_
   refine w_nil (xn_then (w_ret (xr_blk (xr_then ?_))))
   exact w_ret1 _ (.bool false) rfl rfl ⟨by simp [orB, hf0p, hf1p], M⟩
 | false =>
  have hf0p := of_decide_eq_false hf0
  refine wl_b .eql 3 (.tmp 11) (.const (.int .i64 (6))) (.int .i64 (op)) (.int .i64 (6)) (.bool false) (eq3 hf0 _ _ _) ?_
  refine wl_m (.tmp 13) (.bool false) ?_
  refine w_nil (xn_then (w_condF rfl (w_seq (w_reg ?_))))
  cases hf1 : decide (op = 7) with
  | true =>
   have hf1p := of_decide_eq_true hf1
   refine wl_b .eql 3 (.tmp 11) (.const (.int .i64 (7))) (.int .i64 (op)) (.int .i64 (7)) (.bool true) (eq3 hf1 _ _ _) ?_
   refine wl_m (.tmp 17) (.bool true) ?_
   refine w_nil (xn_then (w_condT rfl (w_seq (w_reg ?_))))
   refine wl_m (.tmp 7) (.int .i64 (cmpR b n s c m t)) ?_
   cases hf2 : decide (cmpR b n s c m t ≤ 0) with
   | true =>
    have hf2p := of_decide_eq_true hf2
    refine wl_b .leq 3 (.tmp 18) (.const (.int .i64 (0))) (.int .i64 (cmpR b n s c m t)) (.int .i64 (0)) (.bool true) (le3 hf2 _ _ _) ?_
    refine wl_m (.tmp 19) (.bool true) ?_
    refine w_nil (xn_then (w_ret (xr_blk (xr_then ?_))))
    exact w_ret1 _ (.bool true) rfl rfl ⟨by simp [orB, hf1p, hf2p], M⟩
   | false =>
    have hf2p := of_decide_eq_false hf2
    refine wl_b .leq 3 (.tmp 18) (.const (.int .i64 (0))) (.int .i64 (cmpR b n s c m t)) (.int .i64 (0)) (.bool false) (le3 hf2 _ _ _) ?_
    refine wl_m (.tmp 19) (.bool false) ?_
    refine w_nil (xn_then (w_ret (xr_blk (xr_then ?_))))
    exact w_ret1 _ (.bool false) rfl rfl ⟨by simp [orB, hf1p, hf2p], M⟩
  | false =>
   have hf1p := of_decide_eq_false hf1
   refine wl_b .eql 3 (.tmp 11) (.const (.int .i64 (7))) (.int .i64 (op)) (.int .i64 (7)) (.bool false) (eq3 hf1 _ _ _) ?_
   refine wl_m (.tmp 17) (.bool false) ?_
   refine w_nil (xn_then (w_condF rfl (w_seq (w_reg ?_))))
   cases hf2 : decide (op = 8) with
   | true =>
    have hf2p := of_decide_eq_true hf2
    refine wl_b .eql 3 (.tmp 11) (.const (.int .i64 (8))) (.int .i64 (op)) (.int .i64 (8)) (.bool true) (eq3 hf2 _ _ _) ?_
    refine wl_m (.tmp 21) (.bool true) ?_
    refine w_nil (xn_then (w_condT rfl (w_seq (w_reg ?_))))
    refine wl_m (.tmp 7) (.int .i64 (cmpR b n s c m t)) ?_
    cases hf3 : decide (0 < cmpR b n s c m t) with
    | true =>
     have hf3p := of_decide_eq_true hf3
     refine wl_b .gtr 3 (.tmp 22) (.const (.int .i64 (0))) (.int .i64 (cmpR b n s c m t)) (.int .i64 (0)) (.bool true) (gt3 hf3 _ _ _) ?_
     refine wl_m (.tmp 23) (.bool true) ?_
     refine w_nil (xn_then (w_ret (xr_blk (xr_then ?_))))
     exact w_ret1 _ (.bool true) rfl rfl ⟨by simp [orB, hf2p, hf3p], M⟩
    | false =>
     have hf3p := of_decide_eq_false hf3
     refine wl_b .gtr 3 (.tmp 22) (.const (.int .i64 (0))) (.int .i64 (cmpR b n s c m t)) (.int .i64 (0)) (.bool false) (gt3 hf3 _ _ _) ?_
     refine wl_m (.tmp 23) (.bool false) ?_
     refine w_nil (xn_then (w_ret (xr_blk (xr_then ?_))))
     exact w_ret1 _ (.bool false) rfl rfl ⟨by simp [orB, hf2p, hf3p], M⟩
   | false =>
    have hf2p := of_decide_eq_false hf2
    refine wl_b .eql 3 (.tmp 11) (.const (.int .i64 (8))) (.int .i64 (op)) (.int .i64 (8)) (.bool false) (eq3 hf2 _ _ _) ?_
    refine wl_m (.tmp 21) (.bool false) ?_
    refine w_nil (xn_then (w_condF rfl (w_skip (xn_blk (xn_then (w_seq (w_reg ?_)))))))
    refine wl_m (.tmp 7) (.int .i64 (cmpR b n s c m t)) ?_
    cases hf3 : decide (0 ≤ cmpR b n s c m t) with
    | true =>
     have hf3p := of_decide_eq_true hf3
     refine wl_b .geq 3 (.tmp 24) (.const (.int .i64 (0))) (.int .i64 (cmpR b n s c m t)) (.int .i64 (0)) (.bool true) (ge3 hf3 _ _ _) ?_
     refine wl_m (.tmp 25) (.bool true) ?_
     refine w_nil (xn_then (w_ret ?_))
     exact w_ret1 _ (.bool true) rfl rfl ⟨by simp [orB, hf0p, hf1p, hf2p, hf3p], M⟩
    | false =>
     have hf3p := of_decide_eq_false hf3
     refine wl_b .geq 3 (.tmp 24) (.const (.int .i64 (0))) (.int .i64 (cmpR b n s c m t)) (.int .i64 (0)) (.bool false) (ge3 hf3 _ _ _) ?_
     refine wl_m (.tmp 25) (.bool false) ?_
     refine w_nil (xn_then (w_ret ?_))
     exact w_ret1 _ (.bool false) rfl rfl ⟨by simp [orB, hf0p, hf1p, hf2p, hf3p], M⟩
theorem same_n (x y : VL) (w : World) (hx : x.ok) (hy : y.ok) (cx : ckv x = true) (cy : ckv y = true) (hk : x.k = y.k) : Calls Tryz.prog 38 #[x.v, y.v] w fun e9 w' => e9 = .returned (.bool (samB x y)) ∧ Mo w w' := by
 refine w_enter 17 Tryz.func38 Tryz.ntmps38 rfl rfl ?_
 have M : Mo w w := Mo.refl _
 refine w_seq (w_reg ?_)
 refine wl_box 28 (.tmp 0) _ (((x.cells).toArray)) rfl rfl (fun _ => by kernel_rfl) rfl ?_
 intro k1 u1 hk hz hq Q1
 have N_k1 : w.heap.size ≤ k1 := by have := M.size; omega
 replace M := M.trans hq
 clear hk hz hq
 refine wl_box 28 (.tmp 1) _ (((y.cells).toArray)) rfl rfl (fun _ => by kernel_rfl) rfl ?_
 intro k2 u2 hk hz hq Q2
 have ne_k1_k2 : k1 ≠ k2 := by have := Q1.lt; omega
 have N_k2 : w.heap.size ≤ k2 := by have := M.size; omega
 replace Q1 := Q1.mo hq
 replace M := M.trans hq
 clear hk hz hq
 refine wl_m (.const (.bool false)) (.bool false) ?_
 refine w_nil (xn_then (w_seq (w_seq (w_reg ?_))))
 refine wl_f 28 0 (.tmp 2) (pt k1 0) (pt k1 0) ?_
 refine wl_l 3 (.tmp 5) (pt k1 0) (.int .i64 (x.k)) (run_one Q1 3 0 rfl Tryz.underlying3 rfl) ?_
 cases hf0 : decide (x.k = 1) with
 | true =>
  have hf0p := of_decide_eq_true hf0
  refine wl_b .eql 3 (.tmp 6) (.const (.int .i64 (1))) (.int .i64 (x.k)) (.int .i64 (1)) (.bool true) (eq3 hf0 _ _ _) ?_
  refine w_nil (xn_then (w_condT rfl (w_seq (w_reg ?_))))
  refine wl_f 28 1 (.tmp 2) (pt k1 0) (pt k1 1) ?_
  refine wl_l 26 (.tmp 8) (pt k1 1) (.agg #[.bool x.b, .int .u64 (l0 x.n), .int .u64 (l1 x.n), .int .u64 (l2 x.n), .int .u64 (l3 x.n), .int .i64 x.s]) (run_row Q1 26 1 6 _ rfl Tryz.underlying26 rfl sz26) ?_
  refine wl_f 28 1 (.tmp 3) (pt k2 0) (pt k2 1) ?_
  refine wl_l 26 (.tmp 10) (pt k2 1) (.agg #[.bool y.b, .int .u64 (l0 y.n), .int .u64 (l1 y.n), .int .u64 (l2 y.n), .int .u64 (l3 y.n), .int .i64 y.s]) (run_row Q2 26 1 6 _ rfl Tryz.underlying26 rfl sz26) ?_
  refine wl_call 67 [(.tmp 9), (.tmp 11)] _ [.agg #[.bool x.b, .int .u64 (l0 x.n), .int .u64 (l1 x.n), .int .u64 (l2 x.n), .int .u64 (l3 x.n), .int .i64 x.s], .agg #[.bool y.b, .int .u64 (l0 y.n), .int .u64 (l1 y.n), .int .u64 (l2 y.n), .int .u64 (l3 y.n), .int .i64 y.s]] (.int .i64 (cmpR x.b x.n x.s y.b y.n y.s)) rfl rfl (fun _ _ => by kernel_rfl) (qcmp_n x.b x.n x.s y.b y.n y.s _ hx.1 hx.2 hy.1 hy.2 (ckv_num hx cx (by assumption)).2 (ckv_num hy cy (hk ▸ (by assumption))).2) rfl ?_
  intro u3 hq
  replace Q1 := Q1.mo hq
  replace Q2 := Q2.mo hq
  replace M := M.trans hq
  clear hq
  cases hf1 : decide (cmpR x.b x.n x.s y.b y.n y.s = 0) with
  | true =>
   have hf1p := of_decide_eq_true hf1
   refine wl_b .eql 3 (.tmp 12) (.const (.int .i64 (0))) (.int .i64 (cmpR x.b x.n x.s y.b y.n y.s)) (.int .i64 (0)) (.bool true) (eq3 hf1 _ _ _) ?_
   refine wl_m (.tmp 13) (.bool true) ?_
   refine w_nil (xn_then (w_ret (xr_then ?_)))
   exact w_ret1 _ (.bool true) rfl rfl ⟨by simp [samB, hf0p, hf1p], M⟩
  | false =>
   have hf1p := of_decide_eq_false hf1
   refine wl_b .eql 3 (.tmp 12) (.const (.int .i64 (0))) (.int .i64 (cmpR x.b x.n x.s y.b y.n y.s)) (.int .i64 (0)) (.bool false) (eq3 hf1 _ _ _) ?_
   refine wl_m (.tmp 13) (.bool false) ?_
   refine w_nil (xn_then (w_ret (xr_then ?_)))
   exact w_ret1 _ (.bool false) rfl rfl ⟨by simp [samB, hf0p, hf1p], M⟩
 | false =>
  have hf0p := of_decide_eq_false hf0
  refine wl_b .eql 3 (.tmp 6) (.const (.int .i64 (1))) (.int .i64 (x.k)) (.int .i64 (1)) (.bool false) (eq3 hf0 _ _ _) ?_
  refine w_nil (xn_then (w_condF rfl (w_skip (xn_then (w_seq (w_reg ?_))))))
  refine wl_l 28 (.tmp 2) (pt k1 0) (.agg (x.cells).toArray) (run_row Q1 28 0 10 (x.cells) rfl Tryz.underlying28 rfl sz28) ?_
  refine wl_l 28 (.tmp 3) (pt k2 0) (.agg (y.cells).toArray) (run_row Q2 28 0 10 (y.cells) rfl Tryz.underlying28 rfl sz28) ?_
  cases hf1 : svv x y with
  | true =>
   refine wl_b .eql 28 (.tmp 14) (.tmp 15) (.agg (x.cells).toArray) (.agg (y.cells).toArray) (.bool true) (eqW hf1 _ _ _) ?_
   refine wl_m (.tmp 16) (.bool true) ?_
   refine w_nil (xn_then (w_ret ?_))
   exact w_ret1 _ (.bool true) rfl rfl ⟨by simp [samB, hf0p, hf1], M⟩
  | false =>
   refine wl_b .eql 28 (.tmp 14) (.tmp 15) (.agg (x.cells).toArray) (.agg (y.cells).toArray) (.bool false) (eqW hf1 _ _ _) ?_
   refine wl_m (.tmp 16) (.bool false) ?_
   refine w_nil (xn_then (w_ret ?_))
   exact w_ret1 _ (.bool false) rfl rfl ⟨by simp [samB, hf0p, hf1], M⟩
theorem rop_n (op : Int) (x y : VL) (w : World) (hx : x.ok) (hy : y.ok) : Calls Tryz.prog 12 #[.int .i64 op, x.v, y.v] w fun e9 w' => e9 = .returned (opV op x y).v ∧ Mo w w' := by
 refine w_enter 122 Tryz.func12 Tryz.ntmps12 rfl rfl ?_
 have M : Mo w w := Mo.refl _
 refine w_seq (w_reg ?_)
 refine wl_box 28 (.tmp 1) _ (((x.cells).toArray)) rfl rfl (fun _ => by kernel_rfl) rfl ?_
 intro k1 u1 hk hz hq Q1
 have N_k1 : w.heap.size ≤ k1 := by have := M.size; omega
 replace M := M.trans hq
 clear hk hz hq
 refine wl_box 28 (.tmp 2) _ (((y.cells).toArray)) rfl rfl (fun _ => by kernel_rfl) rfl ?_
 intro k2 u2 hk hz hq Q2
 have ne_k1_k2 : k1 ≠ k2 := by have := Q1.lt; omega
 have N_k2 : w.heap.size ≤ k2 := by have := M.size; omega
 replace Q1 := Q1.mo hq
 replace M := M.trans hq
 clear hk hz hq
 refine wl_alloc 28 #[.int .i64 0, .bool false, .int .u64 0, .int .u64 0, .int .u64 0, .int .u64 0, .int .i64 0, .bool false, .string ⟨#[]⟩, .int .i64 0] rfl (fun _ => by kernel_rfl) rfl ?_
 intro k3 u3 hk hz hq Q3
 have ne_k1_k3 : k1 ≠ k3 := by have := Q1.lt; omega
 have ne_k2_k3 : k2 ≠ k3 := by have := Q2.lt; omega
 have N_k3 : w.heap.size ≤ k3 := by have := M.size; omega
 replace Q1 := Q1.mo hq
 replace Q2 := Q2.mo hq
 replace M := M.trans hq
 clear hk hz hq
 refine w_nil (xn_then (w_seq ?_))
 cases hf0 : decide (ask x = 0) with
 | true =>
  have hf0p := of_decide_eq_true hf0
  cases hf1 : decide (ask y = 0) with
  | true =>
   have hf1p := of_decide_eq_true hf1
   refine w_any 4 [.inl (.agg (x.cells).toArray), .inl (.agg (x.cells).toArray), .inl (.agg (y.cells).toArray), .inl (.agg (y.cells).toArray)] [] (by kernel_rfl) (by kernel_rfl) (by kernel_rfl) (by kernel_rfl) rfl (by kernel_rfl) (by kernel_rfl) late_nil ?_ ?_ ?_
   ·exact Ds.none rfl
   ·refine ea_cons ?_ (ea_cons ?_ (ea_cons ?_ (ea_cons ?_ (ea_nil))))
    ·exact og_eq _ rfl (fun f wf hq hd K hK => have Q1 := Q1.mo hq; go_run rfl (wo_load 28 (.tmp 4) (pt k1 0) (.agg (x.cells).toArray) rfl rfl (run_row Q1 28 0 10 (x.cells) rfl Tryz.underlying28 rfl sz28) (hK _ (Mo.refl _))))
    ·exact og_eq _ rfl (fun f wf hq hd K hK => go_run rfl (wo_call 35 [(.tmp 9)] _ [.agg (x.cells).toArray] (.agg (x.cells).toArray) rfl (li1 (hd 0 rfl)) (fun _ _ => by kernel_rfl) (asked_0 hf0p hx _) hK))
    ·exact og_eq _ rfl (fun f wf hq hd K hK => have Q2 := Q2.mo hq; go_run rfl (wo_load 28 (.tmp 5) (pt k2 0) (.agg (y.cells).toArray) rfl rfl (run_row Q2 28 0 10 (y.cells) rfl Tryz.underlying28 rfl sz28) (hK _ (Mo.refl _))))
    ·exact og_eq _ rfl (fun f wf hq hd K hK => go_run rfl (wo_call 35 [(.tmp 11)] _ [.agg (y.cells).toArray] (.agg (y.cells).toArray) rfl (li1 (hd 2 rfl)) (fun _ _ => by kernel_rfl) (asked_0 hf1p hy _) hK))
   intro kf4 u4 hq hR hne
   replace Q1 := Q1.mo hq
   replace Q2 := Q2.mo hq
   replace Q3 := Q3.mo hq
   replace M := M.trans hq
   clear hq hR hne
   refine wl_st 28 (.tmp 4) (.tmp 10) k1 0 ((x.cells).toArray) (x.cells) (x.cells) Q1 rfl rfl rfl rfl rfl sz28 rfl rfl rfl ?_
   intro u5 hS Qn
   replace Q1 := Qn
   clear Qn
   replace Q2 := hS.other _ _ ne_k1_k2.symm Q2
   replace Q3 := hS.other _ _ ne_k1_k3.symm Q3
   replace M := hS.mo _ N_k1 M
   clear hS
   refine wl_st 28 (.tmp 5) (.tmp 12) k2 0 ((y.cells).toArray) (y.cells) (y.cells) Q2 rfl rfl rfl rfl rfl sz28 rfl rfl rfl ?_
   intro u6 hS Qn
   replace Q2 := Qn
   clear Qn
   replace Q1 := hS.other _ _ ne_k1_k2 Q1
   replace Q3 := hS.other _ _ ne_k2_k3.symm Q3
   replace M := hS.mo _ N_k2 M
   clear hS
   refine w_nil (xn_then (w_seq (w_seq (w_reg ?_))))
   refine wl_f 28 0 (.tmp 4) (pt k1 0) (pt k1 0) ?_
   refine wl_l 3 (.tmp 13) (pt k1 0) (.int .i64 (x.k)) (run_one Q1 3 0 rfl Tryz.underlying3 rfl) ?_
   refine wl_b .eql 3 (.tmp 14) (.const (.int .i64 (4))) (.int .i64 (x.k)) (.int .i64 (4)) (.bool false) (eq3 (decide_eq_false (ask_0 hx hf0p).2.1) _ _ _) ?_
   refine w_nil (xn_then (w_condF rfl (w_skip (xn_then (w_seq (w_seq (w_reg ?_)))))))
   refine wl_f 28 0 (.tmp 5) (pt k2 0) (pt k2 0) ?_
   refine wl_l 3 (.tmp 17) (pt k2 0) (.int .i64 (y.k)) (run_one Q2 3 0 rfl Tryz.underlying3 rfl) ?_
   refine wl_b .eql 3 (.tmp 18) (.const (.int .i64 (4))) (.int .i64 (y.k)) (.int .i64 (4)) (.bool false) (eq3 (decide_eq_false (ask_0 hy hf1p).2.1) _ _ _) ?_
   refine w_nil (xn_then (w_condF rfl (w_skip (xn_then ?_))))
   refine w_cut (fun l w1 => look l 0 = .int .i64 (op) ∧ look l 4 = pt k1 0 ∧ look l 5 = pt k2 0 ∧ look l 6 = pt k3 0 ∧ look l 7 = .bool (decide (x.k = 1) && decide (y.k = 1)) ∧ At w1 k1 (x.cells) ∧ At w1 k2 (y.cells) ∧ At w1 k3 [.int .i64 0, .bool false, .int .u64 0, .int .u64 0, .int .u64 0, .int .u64 0, .int .i64 0, .bool false, .string ⟨#[]⟩, .int .i64 0] ∧ Mo w w1) ?_ ?_
   ·skip
    clear Q1 Q2 Q3 M
    rintro lc1 wc1 ⟨c1_0, c1_4, c1_5, c1_6, c1_7, Q1, Q2, Q3, M⟩
    refine w_cut (fun l w1 => look l 0 = .int .i64 (op) ∧ look l 4 = pt k1 0 ∧ look l 5 = pt k2 0 ∧ look l 6 = pt k3 0 ∧ look l 7 = .bool (decide (x.k = 1) && decide (y.k = 1)) ∧ look l 8 = .bool (decide (x.k = 2) && decide (y.k = 2)) ∧ At w1 k1 (x.cells) ∧ At w1 k2 (y.cells) ∧ At w1 k3 [.int .i64 0, .bool false, .int .u64 0, .int .u64 0, .int .u64 0, .int .u64 0, .int .i64 0, .bool false, .string ⟨#[]⟩, .int .i64 0] ∧ Mo w w1) ?_ ?_
    ·skip
     clear Q1 Q2 Q3 M
     rintro lc2 wc2 ⟨c2_0, c2_4, c2_5, c2_6, c2_7, c2_8, Q1, Q2, Q3, M⟩
     refine w_seq (w_block ?_)
     refine w_cut (fun l w1 => look l 0 = .int .i64 (op) ∧ look l 4 = pt k1 0 ∧ look l 5 = pt k2 0 ∧ look l 6 = pt k3 0 ∧ look l 7 = .bool (decide (x.k = 1) && decide (y.k = 1)) ∧ look l 8 = .bool (decide (x.k = 2) && decide (y.k = 2)) ∧ look l 37 = .bool ((decide (op = 1) || decide (op = 2) || decide (op = 3)) && (decide (x.k = 1) && decide (y.k = 1))) ∧ At w1 k1 (x.cells) ∧ At w1 k2 (y.cells) ∧ At w1 k3 [.int .i64 0, .bool false, .int .u64 0, .int .u64 0, .int .u64 0, .int .u64 0, .int .i64 0, .bool false, .string ⟨#[]⟩, .int .i64 0] ∧ Mo w w1) ?_ ?_
     ·skip
      clear Q1 Q2 Q3 M
      rintro lc3 wc3 ⟨c3_0, c3_4, c3_5, c3_6, c3_7, c3_8, c3_37, Q1, Q2, Q3, M⟩
      cases hf2 : (decide (op = 1) || decide (op = 2) || decide (op = 3)) && (decide (x.k = 1) && decide (y.k = 1)) with
      | true =>
       refine w_condT (c3_37.trans (congrArg Value.bool hf2)) ?_
       refine w_seq (w_reg ?_)
       refine wl_mv (.tmp 0) (.int .i64 (op)) (fun _ => rfl) c3_0 rfl ?_
       refine wl_un (fun v => Instr.fieldAt 28 v 1) (.tmp 4) (pt k1 0) (pt k1 1) (fun _ => rfl) c3_4 (by kernel_rfl) rfl ?_
       refine wl_l 26 (.tmp 52) (pt k1 1) (.agg #[.bool x.b, .int .u64 (l0 x.n), .int .u64 (l1 x.n), .int .u64 (l2 x.n), .int .u64 (l3 x.n), .int .i64 x.s]) (run_row Q1 26 1 6 _ rfl Tryz.underlying26 rfl sz26) ?_
       refine wl_un (fun v => Instr.fieldAt 28 v 1) (.tmp 5) (pt k2 0) (pt k2 1) (fun _ => rfl) c3_5 (by kernel_rfl) rfl ?_
       refine wl_l 26 (.tmp 54) (pt k2 1) (.agg #[.bool y.b, .int .u64 (l0 y.n), .int .u64 (l1 y.n), .int .u64 (l2 y.n), .int .u64 (l3 y.n), .int .i64 y.s]) (run_row Q2 26 1 6 _ rfl Tryz.underlying26 rfl sz26) ?_
       refine wl_call 36 [(.tmp 51), (.tmp 53), (.tmp 55)] _ [.int .i64 (op), .agg #[.bool x.b, .int .u64 (l0 x.n), .int .u64 (l1 x.n), .int .u64 (l2 x.n), .int .u64 (l3 x.n), .int .i64 x.s], .agg #[.bool y.b, .int .u64 (l0 y.n), .int .u64 (l1 y.n), .int .u64 (l2 y.n), .int .u64 (l3 y.n), .int .i64 y.s]] (.agg ((recV op x.b x.n x.s y.b y.n y.s).cells).toArray) rfl rfl (fun _ _ => by kernel_rfl) (reckon_n op x.b x.n x.s y.b y.n y.s _ hx.1 hx.2 hy.1 hy.2 (ckv_num hx (ask_0 hx (by assumption)).1 (by simp_all)).2 (ckv_num hy (ask_0 hy (by assumption)).1 (by simp_all)).2) rfl ?_
       intro u7 hq
       replace Q1 := Q1.mo hq
       replace Q2 := Q2.mo hq
       replace Q3 := Q3.mo hq
       replace M := M.trans hq
       clear hq
       refine wl_st 28 (.tmp 6) (.tmp 56) k3 0 (((recV op x.b x.n x.s y.b y.n y.s).cells).toArray) _ ((recV op x.b x.n x.s y.b y.n y.s).cells) Q3 rfl rfl c3_6 rfl rfl sz28 rfl rfl rfl ?_
       intro u8 hS Qn
       replace Q3 := Qn
       clear Qn
       replace Q1 := hS.other _ _ ne_k1_k3 Q1
       replace Q2 := hS.other _ _ ne_k2_k3 Q2
       replace M := hS.mo _ N_k3 M
       clear hS
       refine w_nil (xn_then (w_ret (xr_blk (xr_then ?_))))
       exact w_ret1 _ (.agg ((recV op x.b x.n x.s y.b y.n y.s).cells).toArray) rfl ⟨k3, c3_6, (run_row Q3 28 0 10 ((recV op x.b x.n x.s y.b y.n y.s).cells) rfl Tryz.underlying28 rfl sz28)⟩ ⟨vrt (x := (recV op x.b x.n x.s y.b y.n y.s)) rfl (by rw [← ropV_eq op hx hy]; simp [ropV, if_pos hf0p, if_pos hf1p, hf2] <;> simp [ropV]), M⟩
      | false =>
       refine w_condF (c3_37.trans (congrArg Value.bool hf2)) ?_
       refine w_cut (fun l w1 => look l 0 = .int .i64 (op) ∧ look l 4 = pt k1 0 ∧ look l 5 = pt k2 0 ∧ look l 6 = pt k3 0 ∧ look l 7 = .bool (decide (x.k = 1) && decide (y.k = 1)) ∧ look l 8 = .bool (decide (x.k = 2) && decide (y.k = 2)) ∧ look l 57 = .bool ((decide (op = 4) || decide (op = 5)) && decide (x.k = y.k)) ∧ At w1 k1 (x.cells) ∧ At w1 k2 (y.cells) ∧ At w1 k3 [.int .i64 0, .bool false, .int .u64 0, .int .u64 0, .int .u64 0, .int .u64 0, .int .i64 0, .bool false, .string ⟨#[]⟩, .int .i64 0] ∧ Mo w w1) ?_ ?_
       ·skip
        clear Q1 Q2 Q3 M
        rintro lc4 wc4 ⟨c4_0, c4_4, c4_5, c4_6, c4_7, c4_8, c4_57, Q1, Q2, Q3, M⟩
        cases hf3 : (decide (op = 4) || decide (op = 5)) && decide (x.k = y.k) with
        | true =>
         refine w_condT (c4_57.trans (congrArg Value.bool hf3)) ?_
         refine w_seq (w_reg ?_)
         refine wl_load 28 (.tmp 4) (pt k1 0) (.agg (x.cells).toArray) rfl c4_4 (run_row Q1 28 0 10 (x.cells) rfl Tryz.underlying28 rfl sz28) rfl ?_
         refine wl_load 28 (.tmp 5) (pt k2 0) (.agg (y.cells).toArray) rfl c4_5 (run_row Q2 28 0 10 (y.cells) rfl Tryz.underlying28 rfl sz28) rfl ?_
         refine wl_call 38 [(.tmp 71), (.tmp 72)] _ [.agg (x.cells).toArray, .agg (y.cells).toArray] (.bool (samB x y)) rfl rfl (fun _ _ => by kernel_rfl) (same_n x y _ hx hy (ask_0 hx (by assumption)).1 (ask_0 hy (by assumption)).1 (by simp_all)) rfl ?_
         intro u7 hq
         replace Q1 := Q1.mo hq
         replace Q2 := Q2.mo hq
         replace Q3 := Q3.mo hq
         replace M := M.trans hq
         clear hq
         refine wl_mv (.tmp 0) (.int .i64 (op)) (fun _ => rfl) c4_0 rfl ?_
         cases hf4 : decide (op = 4) with
         | true =>
          have hf4p := of_decide_eq_true hf4
          refine wl_b .eql 3 (.tmp 74) (.const (.int .i64 (4))) (.int .i64 (op)) (.int .i64 (4)) (.bool true) (eq3 hf4 _ _ _) ?_
          refine wl_b .eql 4 (.tmp 73) (.tmp 75) (.bool (samB x y)) (.bool true) (.bool ((samB x y) == true)) (eq4b rfl _ _ _) ?_
          refine wl_call 37 [(.tmp 76)] _ [.bool ((samB x y) == true)] (.agg ((vFl ((samB x y) == true)).cells).toArray) rfl rfl (fun _ _ => by kernel_rfl) (rflag_n ((samB x y) == true) _) rfl ?_
          intro u8 hq
          replace Q1 := Q1.mo hq
          replace Q2 := Q2.mo hq
          replace Q3 := Q3.mo hq
          replace M := M.trans hq
          clear hq
          refine wl_st 28 (.tmp 6) (.tmp 77) k3 0 (((vFl ((samB x y) == true)).cells).toArray) _ ((vFl ((samB x y) == true)).cells) Q3 rfl rfl c4_6 rfl rfl sz28 rfl rfl rfl ?_
          intro u9 hS Qn
          replace Q3 := Qn
          clear Qn
          replace Q1 := hS.other _ _ ne_k1_k3 Q1
          replace Q2 := hS.other _ _ ne_k2_k3 Q2
          replace M := hS.mo _ N_k3 M
          clear hS
          refine w_nil (xn_then (w_ret (xr_blk (xr_then ?_))))
          exact w_ret1 _ (.agg ((vFl ((samB x y) == true)).cells).toArray) rfl ⟨k3, c4_6, (run_row Q3 28 0 10 ((vFl ((samB x y) == true)).cells) rfl Tryz.underlying28 rfl sz28)⟩ ⟨vrt (x := (vFl ((samB x y) == true))) rfl (by rw [← ropV_eq op hx hy]; simp [ropV, if_pos hf0p, if_pos hf1p, hf2, hf3] <;> simp [hf4]), M⟩
         | false =>
          have hf4p := of_decide_eq_false hf4
          refine wl_b .eql 3 (.tmp 74) (.const (.int .i64 (4))) (.int .i64 (op)) (.int .i64 (4)) (.bool false) (eq3 hf4 _ _ _) ?_
          refine wl_b .eql 4 (.tmp 73) (.tmp 75) (.bool (samB x y)) (.bool false) (.bool ((samB x y) == false)) (eq4b rfl _ _ _) ?_
          refine wl_call 37 [(.tmp 76)] _ [.bool ((samB x y) == false)] (.agg ((vFl ((samB x y) == false)).cells).toArray) rfl rfl (fun _ _ => by kernel_rfl) (rflag_n ((samB x y) == false) _) rfl ?_
          intro u8 hq
          replace Q1 := Q1.mo hq
          replace Q2 := Q2.mo hq
          replace Q3 := Q3.mo hq
          replace M := M.trans hq
          clear hq
          refine wl_st 28 (.tmp 6) (.tmp 77) k3 0 (((vFl ((samB x y) == false)).cells).toArray) _ ((vFl ((samB x y) == false)).cells) Q3 rfl rfl c4_6 rfl rfl sz28 rfl rfl rfl ?_
          intro u9 hS Qn
          replace Q3 := Qn
          clear Qn
          replace Q1 := hS.other _ _ ne_k1_k3 Q1
          replace Q2 := hS.other _ _ ne_k2_k3 Q2
          replace M := hS.mo _ N_k3 M
          clear hS
          refine w_nil (xn_then (w_ret (xr_blk (xr_then ?_))))
          exact w_ret1 _ (.agg ((vFl ((samB x y) == false)).cells).toArray) rfl ⟨k3, c4_6, (run_row Q3 28 0 10 ((vFl ((samB x y) == false)).cells) rfl Tryz.underlying28 rfl sz28)⟩ ⟨vrt (x := (vFl ((samB x y) == false))) rfl (by rw [← ropV_eq op hx hy]; simp [ropV, if_pos hf0p, if_pos hf1p, hf2, hf3] <;> simp [hf4]), M⟩
        | false =>
         refine w_condF (c4_57.trans (congrArg Value.bool hf3)) ?_
         refine w_cut (fun l w1 => look l 0 = .int .i64 (op) ∧ look l 4 = pt k1 0 ∧ look l 5 = pt k2 0 ∧ look l 6 = pt k3 0 ∧ look l 7 = .bool (decide (x.k = 1) && decide (y.k = 1)) ∧ look l 8 = .bool (decide (x.k = 2) && decide (y.k = 2)) ∧ look l 78 = .bool ((decide (6 ≤ op) && decide (op ≤ 9)) && (decide (x.k = 1) && decide (y.k = 1))) ∧ At w1 k1 (x.cells) ∧ At w1 k2 (y.cells) ∧ At w1 k3 [.int .i64 0, .bool false, .int .u64 0, .int .u64 0, .int .u64 0, .int .u64 0, .int .i64 0, .bool false, .string ⟨#[]⟩, .int .i64 0] ∧ Mo w w1) ?_ ?_
         ·skip
          clear Q1 Q2 Q3 M
          rintro lc5 wc5 ⟨c5_0, c5_4, c5_5, c5_6, c5_7, c5_8, c5_78, Q1, Q2, Q3, M⟩
          cases hf4 : (decide (6 ≤ op) && decide (op ≤ 9)) && (decide (x.k = 1) && decide (y.k = 1)) with
          | true =>
           refine w_condT (c5_78.trans (congrArg Value.bool hf4)) ?_
           refine w_seq (w_reg ?_)
           refine wl_mv (.tmp 0) (.int .i64 (op)) (fun _ => rfl) c5_0 rfl ?_
           refine wl_un (fun v => Instr.fieldAt 28 v 1) (.tmp 4) (pt k1 0) (pt k1 1) (fun _ => rfl) c5_4 (by kernel_rfl) rfl ?_
           refine wl_l 26 (.tmp 89) (pt k1 1) (.agg #[.bool x.b, .int .u64 (l0 x.n), .int .u64 (l1 x.n), .int .u64 (l2 x.n), .int .u64 (l3 x.n), .int .i64 x.s]) (run_row Q1 26 1 6 _ rfl Tryz.underlying26 rfl sz26) ?_
           refine wl_un (fun v => Instr.fieldAt 28 v 1) (.tmp 5) (pt k2 0) (pt k2 1) (fun _ => rfl) c5_5 (by kernel_rfl) rfl ?_
           refine wl_l 26 (.tmp 91) (pt k2 1) (.agg #[.bool y.b, .int .u64 (l0 y.n), .int .u64 (l1 y.n), .int .u64 (l2 y.n), .int .u64 (l3 y.n), .int .i64 y.s]) (run_row Q2 26 1 6 _ rfl Tryz.underlying26 rfl sz26) ?_
           refine wl_call 39 [(.tmp 88), (.tmp 90), (.tmp 92)] _ [.int .i64 (op), .agg #[.bool x.b, .int .u64 (l0 x.n), .int .u64 (l1 x.n), .int .u64 (l2 x.n), .int .u64 (l3 x.n), .int .i64 x.s], .agg #[.bool y.b, .int .u64 (l0 y.n), .int .u64 (l1 y.n), .int .u64 (l2 y.n), .int .u64 (l3 y.n), .int .i64 y.s]] (.bool (orB op (cmpR x.b x.n x.s y.b y.n y.s))) rfl rfl (fun _ _ => by kernel_rfl) (order_n op x.b x.n x.s y.b y.n y.s _ hx.1 hx.2 hy.1 hy.2 (ckv_num hx (ask_0 hx (by assumption)).1 (by simp_all)).2 (ckv_num hy (ask_0 hy (by assumption)).1 (by simp_all)).2) rfl ?_
           intro u7 hq
           replace Q1 := Q1.mo hq
           replace Q2 := Q2.mo hq
           replace Q3 := Q3.mo hq
           replace M := M.trans hq
           clear hq
           refine wl_call 37 [(.tmp 93)] _ [.bool (orB op (cmpR x.b x.n x.s y.b y.n y.s))] (.agg ((vFl (orB op (cmpR x.b x.n x.s y.b y.n y.s))).cells).toArray) rfl rfl (fun _ _ => by kernel_rfl) (rflag_n (orB op (cmpR x.b x.n x.s y.b y.n y.s)) _) rfl ?_
           intro u8 hq
           replace Q1 := Q1.mo hq
           replace Q2 := Q2.mo hq
           replace Q3 := Q3.mo hq
           replace M := M.trans hq
           clear hq
           refine wl_st 28 (.tmp 6) (.tmp 94) k3 0 (((vFl (orB op (cmpR x.b x.n x.s y.b y.n y.s))).cells).toArray) _ ((vFl (orB op (cmpR x.b x.n x.s y.b y.n y.s))).cells) Q3 rfl rfl c5_6 rfl rfl sz28 rfl rfl rfl ?_
           intro u9 hS Qn
           replace Q3 := Qn
           clear Qn
           replace Q1 := hS.other _ _ ne_k1_k3 Q1
           replace Q2 := hS.other _ _ ne_k2_k3 Q2
           replace M := hS.mo _ N_k3 M
           clear hS
           refine w_nil (xn_then (w_ret (xr_blk (xr_then ?_))))
           exact w_ret1 _ (.agg ((vFl (orB op (cmpR x.b x.n x.s y.b y.n y.s))).cells).toArray) rfl ⟨k3, c5_6, (run_row Q3 28 0 10 ((vFl (orB op (cmpR x.b x.n x.s y.b y.n y.s))).cells) rfl Tryz.underlying28 rfl sz28)⟩ ⟨vrt (x := (vFl (orB op (cmpR x.b x.n x.s y.b y.n y.s)))) rfl (by rw [← ropV_eq op hx hy]; simp [ropV, if_pos hf0p, if_pos hf1p, hf2, hf3, hf4] <;> simp [ropV]), M⟩
          | false =>
           refine w_condF (c5_78.trans (congrArg Value.bool hf4)) ?_
           refine w_cut (fun l w1 => look l 0 = .int .i64 (op) ∧ look l 4 = pt k1 0 ∧ look l 5 = pt k2 0 ∧ look l 6 = pt k3 0 ∧ look l 7 = .bool (decide (x.k = 1) && decide (y.k = 1)) ∧ look l 8 = .bool (decide (x.k = 2) && decide (y.k = 2)) ∧ look l 95 = .bool (decide (op = 10) && (decide (x.k = 2) && decide (y.k = 2))) ∧ At w1 k1 (x.cells) ∧ At w1 k2 (y.cells) ∧ At w1 k3 [.int .i64 0, .bool false, .int .u64 0, .int .u64 0, .int .u64 0, .int .u64 0, .int .i64 0, .bool false, .string ⟨#[]⟩, .int .i64 0] ∧ Mo w w1) ?_ ?_
           ·skip
            clear Q1 Q2 Q3 M
            rintro lc6 wc6 ⟨c6_0, c6_4, c6_5, c6_6, c6_7, c6_8, c6_95, Q1, Q2, Q3, M⟩
            cases hf5 : decide (op = 10) && (decide (x.k = 2) && decide (y.k = 2)) with
            | true =>
             refine w_condT (c6_95.trans (congrArg Value.bool hf5)) ?_
             refine w_seq (w_reg ?_)
             refine wl_un (fun v => Instr.fieldAt 28 v 2) (.tmp 4) (pt k1 0) (pt k1 7) (fun _ => rfl) c6_4 (by kernel_rfl) rfl ?_
             cases hf6 : x.f with
             | true =>
              refine wl_l 4 (.tmp 101) (pt k1 7) (.bool true) (ldb hf6 (run_one Q1 4 7 rfl Tryz.underlying4 rfl)) ?_
              refine wl_m (.tmp 102) (.bool true) ?_
              refine wl_un (fun v => Instr.fieldAt 28 v 2) (.tmp 5) (pt k2 0) (pt k2 7) (fun _ => rfl) c6_5 (by kernel_rfl) rfl ?_
              cases hf7 : y.f with
              | true =>
               refine wl_l 4 (.tmp 104) (pt k2 7) (.bool true) (ldb hf7 (run_one Q2 4 7 rfl Tryz.underlying4 rfl)) ?_
               refine wl_pick (.tmp 103) (.tmp 105) (.const (.bool false)) true (.bool true) (fun _ => rfl) rfl rfl rfl ?_
               refine wl_call 37 [(.tmp 106)] _ [.bool true] (.agg ((vFl true).cells).toArray) rfl rfl (fun _ _ => by kernel_rfl) (rflag_n true _) rfl ?_
               intro u7 hq
               replace Q1 := Q1.mo hq
               replace Q2 := Q2.mo hq
               replace Q3 := Q3.mo hq
               replace M := M.trans hq
               clear hq
               refine wl_st 28 (.tmp 6) (.tmp 107) k3 0 (((vFl true).cells).toArray) _ ((vFl true).cells) Q3 rfl rfl c6_6 rfl rfl sz28 rfl rfl rfl ?_
               intro u8 hS Qn
               replace Q3 := Qn
               clear Qn
               replace Q1 := hS.other _ _ ne_k1_k3 Q1
               replace Q2 := hS.other _ _ ne_k2_k3 Q2
               replace M := hS.mo _ N_k3 M
               clear hS
               refine w_nil (xn_then (w_ret (xr_blk (xr_then ?_))))
               exact w_ret1 _ (.agg ((vFl true).cells).toArray) rfl ⟨k3, c6_6, (run_row Q3 28 0 10 ((vFl true).cells) rfl Tryz.underlying28 rfl sz28)⟩ ⟨vrt (x := (vFl true)) rfl (by rw [← ropV_eq op hx hy]; simp [ropV, if_pos hf0p, if_pos hf1p, hf2, hf3, hf4, hf5, hf6, hf7] <;> simp [ropV]), M⟩
              | false =>
               refine wl_l 4 (.tmp 104) (pt k2 7) (.bool false) (ldb hf7 (run_one Q2 4 7 rfl Tryz.underlying4 rfl)) ?_
               refine wl_pick (.tmp 103) (.tmp 105) (.const (.bool false)) true (.bool false) (fun _ => rfl) rfl rfl rfl ?_
               refine wl_call 37 [(.tmp 106)] _ [.bool false] (.agg ((vFl false).cells).toArray) rfl rfl (fun _ _ => by kernel_rfl) (rflag_n false _) rfl ?_
               intro u7 hq
               replace Q1 := Q1.mo hq
               replace Q2 := Q2.mo hq
               replace Q3 := Q3.mo hq
               replace M := M.trans hq
               clear hq
               refine wl_st 28 (.tmp 6) (.tmp 107) k3 0 (((vFl false).cells).toArray) _ ((vFl false).cells) Q3 rfl rfl c6_6 rfl rfl sz28 rfl rfl rfl ?_
               intro u8 hS Qn
               replace Q3 := Qn
               clear Qn
               replace Q1 := hS.other _ _ ne_k1_k3 Q1
               replace Q2 := hS.other _ _ ne_k2_k3 Q2
               replace M := hS.mo _ N_k3 M
               clear hS
               refine w_nil (xn_then (w_ret (xr_blk (xr_then ?_))))
               exact w_ret1 _ (.agg ((vFl false).cells).toArray) rfl ⟨k3, c6_6, (run_row Q3 28 0 10 ((vFl false).cells) rfl Tryz.underlying28 rfl sz28)⟩ ⟨vrt (x := (vFl false)) rfl (by rw [← ropV_eq op hx hy]; simp [ropV, if_pos hf0p, if_pos hf1p, hf2, hf3, hf4, hf5, hf6, hf7] <;> simp [ropV]), M⟩
             | false =>
              refine wl_l 4 (.tmp 101) (pt k1 7) (.bool false) (ldb hf6 (run_one Q1 4 7 rfl Tryz.underlying4 rfl)) ?_
              refine wl_m (.tmp 102) (.bool false) ?_
              refine wl_skip rfl (wl_skip rfl ?_)
              refine wl_pick (.tmp 103) (.tmp 105) (.const (.bool false)) false (.bool false) (fun _ => rfl) rfl rfl rfl ?_
              refine wl_call 37 [(.tmp 106)] _ [.bool false] (.agg ((vFl false).cells).toArray) rfl rfl (fun _ _ => by kernel_rfl) (rflag_n false _) rfl ?_
              intro u7 hq
              replace Q1 := Q1.mo hq
              replace Q2 := Q2.mo hq
              replace Q3 := Q3.mo hq
              replace M := M.trans hq
              clear hq
              refine wl_st 28 (.tmp 6) (.tmp 107) k3 0 (((vFl false).cells).toArray) _ ((vFl false).cells) Q3 rfl rfl c6_6 rfl rfl sz28 rfl rfl rfl ?_
              intro u8 hS Qn
              replace Q3 := Qn
              clear Qn
              replace Q1 := hS.other _ _ ne_k1_k3 Q1
              replace Q2 := hS.other _ _ ne_k2_k3 Q2
              replace M := hS.mo _ N_k3 M
              clear hS
              refine w_nil (xn_then (w_ret (xr_blk (xr_then ?_))))
              exact w_ret1 _ (.agg ((vFl false).cells).toArray) rfl ⟨k3, c6_6, (run_row Q3 28 0 10 ((vFl false).cells) rfl Tryz.underlying28 rfl sz28)⟩ ⟨vrt (x := (vFl false)) rfl (by rw [← ropV_eq op hx hy]; simp [ropV, if_pos hf0p, if_pos hf1p, hf2, hf3, hf4, hf5, hf6] <;> simp [ropV]), M⟩
            | false =>
             refine w_condF (c6_95.trans (congrArg Value.bool hf5)) ?_
             refine w_cut (fun l w1 => look l 0 = .int .i64 (op) ∧ look l 4 = pt k1 0 ∧ look l 5 = pt k2 0 ∧ look l 6 = pt k3 0 ∧ look l 7 = .bool (decide (x.k = 1) && decide (y.k = 1)) ∧ look l 8 = .bool (decide (x.k = 2) && decide (y.k = 2)) ∧ look l 108 = .bool (decide (op = 11) && (decide (x.k = 2) && decide (y.k = 2))) ∧ At w1 k1 (x.cells) ∧ At w1 k2 (y.cells) ∧ At w1 k3 [.int .i64 0, .bool false, .int .u64 0, .int .u64 0, .int .u64 0, .int .u64 0, .int .i64 0, .bool false, .string ⟨#[]⟩, .int .i64 0] ∧ Mo w w1) ?_ ?_
             ·skip
              clear Q1 Q2 Q3 M
              rintro lc7 wc7 ⟨c7_0, c7_4, c7_5, c7_6, c7_7, c7_8, c7_108, Q1, Q2, Q3, M⟩
              cases hf6 : decide (op = 11) && (decide (x.k = 2) && decide (y.k = 2)) with
              | true =>
               refine w_condT (c7_108.trans (congrArg Value.bool hf6)) ?_
               refine w_seq (w_reg ?_)
               refine wl_un (fun v => Instr.fieldAt 28 v 2) (.tmp 4) (pt k1 0) (pt k1 7) (fun _ => rfl) c7_4 (by kernel_rfl) rfl ?_
               cases hf7 : x.f with
               | true =>
                refine wl_l 4 (.tmp 114) (pt k1 7) (.bool true) (ldb hf7 (run_one Q1 4 7 rfl Tryz.underlying4 rfl)) ?_
                refine wl_m (.tmp 115) (.bool true) ?_
                refine wl_skip rfl (wl_skip rfl ?_)
                refine wl_pick (.tmp 116) (.const (.bool true)) (.tmp 118) true (.bool true) (fun _ => rfl) rfl rfl rfl ?_
                refine wl_call 37 [(.tmp 119)] _ [.bool true] (.agg ((vFl true).cells).toArray) rfl rfl (fun _ _ => by kernel_rfl) (rflag_n true _) rfl ?_
                intro u7 hq
                replace Q1 := Q1.mo hq
                replace Q2 := Q2.mo hq
                replace Q3 := Q3.mo hq
                replace M := M.trans hq
                clear hq
                refine wl_st 28 (.tmp 6) (.tmp 120) k3 0 (((vFl true).cells).toArray) _ ((vFl true).cells) Q3 rfl rfl c7_6 rfl rfl sz28 rfl rfl rfl ?_
                intro u8 hS Qn
                replace Q3 := Qn
                clear Qn
                replace Q1 := hS.other _ _ ne_k1_k3 Q1
                replace Q2 := hS.other _ _ ne_k2_k3 Q2
                replace M := hS.mo _ N_k3 M
                clear hS
                refine w_nil (xn_then (w_ret (xr_blk (xr_then ?_))))
                exact w_ret1 _ (.agg ((vFl true).cells).toArray) rfl ⟨k3, c7_6, (run_row Q3 28 0 10 ((vFl true).cells) rfl Tryz.underlying28 rfl sz28)⟩ ⟨vrt (x := (vFl true)) rfl (by rw [← ropV_eq op hx hy]; simp [ropV, if_pos hf0p, if_pos hf1p, hf2, hf3, hf4, hf5, hf6, hf7] <;> simp [ropV]), M⟩
               | false =>
                refine wl_l 4 (.tmp 114) (pt k1 7) (.bool false) (ldb hf7 (run_one Q1 4 7 rfl Tryz.underlying4 rfl)) ?_
                refine wl_m (.tmp 115) (.bool false) ?_
                refine wl_un (fun v => Instr.fieldAt 28 v 2) (.tmp 5) (pt k2 0) (pt k2 7) (fun _ => rfl) c7_5 (by kernel_rfl) rfl ?_
                cases hf8 : y.f with
                | true =>
                 refine wl_l 4 (.tmp 117) (pt k2 7) (.bool true) (ldb hf8 (run_one Q2 4 7 rfl Tryz.underlying4 rfl)) ?_
                 refine wl_pick (.tmp 116) (.const (.bool true)) (.tmp 118) false (.bool true) (fun _ => rfl) rfl rfl rfl ?_
                 refine wl_call 37 [(.tmp 119)] _ [.bool true] (.agg ((vFl true).cells).toArray) rfl rfl (fun _ _ => by kernel_rfl) (rflag_n true _) rfl ?_
                 intro u7 hq
                 replace Q1 := Q1.mo hq
                 replace Q2 := Q2.mo hq
                 replace Q3 := Q3.mo hq
                 replace M := M.trans hq
                 clear hq
                 refine wl_st 28 (.tmp 6) (.tmp 120) k3 0 (((vFl true).cells).toArray) _ ((vFl true).cells) Q3 rfl rfl c7_6 rfl rfl sz28 rfl rfl rfl ?_
                 intro u8 hS Qn
                 replace Q3 := Qn
                 clear Qn
                 replace Q1 := hS.other _ _ ne_k1_k3 Q1
                 replace Q2 := hS.other _ _ ne_k2_k3 Q2
                 replace M := hS.mo _ N_k3 M
                 clear hS
                 refine w_nil (xn_then (w_ret (xr_blk (xr_then ?_))))
                 exact w_ret1 _ (.agg ((vFl true).cells).toArray) rfl ⟨k3, c7_6, (run_row Q3 28 0 10 ((vFl true).cells) rfl Tryz.underlying28 rfl sz28)⟩ ⟨vrt (x := (vFl true)) rfl (by rw [← ropV_eq op hx hy]; simp [ropV, if_pos hf0p, if_pos hf1p, hf2, hf3, hf4, hf5, hf6, hf7, hf8] <;> simp [ropV]), M⟩
                | false =>
                 refine wl_l 4 (.tmp 117) (pt k2 7) (.bool false) (ldb hf8 (run_one Q2 4 7 rfl Tryz.underlying4 rfl)) ?_
                 refine wl_pick (.tmp 116) (.const (.bool true)) (.tmp 118) false (.bool false) (fun _ => rfl) rfl rfl rfl ?_
                 refine wl_call 37 [(.tmp 119)] _ [.bool false] (.agg ((vFl false).cells).toArray) rfl rfl (fun _ _ => by kernel_rfl) (rflag_n false _) rfl ?_
                 intro u7 hq
                 replace Q1 := Q1.mo hq
                 replace Q2 := Q2.mo hq
                 replace Q3 := Q3.mo hq
                 replace M := M.trans hq
                 clear hq
                 refine wl_st 28 (.tmp 6) (.tmp 120) k3 0 (((vFl false).cells).toArray) _ ((vFl false).cells) Q3 rfl rfl c7_6 rfl rfl sz28 rfl rfl rfl ?_
                 intro u8 hS Qn
                 replace Q3 := Qn
                 clear Qn
                 replace Q1 := hS.other _ _ ne_k1_k3 Q1
                 replace Q2 := hS.other _ _ ne_k2_k3 Q2
                 replace M := hS.mo _ N_k3 M
                 clear hS
                 refine w_nil (xn_then (w_ret (xr_blk (xr_then ?_))))
                 exact w_ret1 _ (.agg ((vFl false).cells).toArray) rfl ⟨k3, c7_6, (run_row Q3 28 0 10 ((vFl false).cells) rfl Tryz.underlying28 rfl sz28)⟩ ⟨vrt (x := (vFl false)) rfl (by rw [← ropV_eq op hx hy]; simp [ropV, if_pos hf0p, if_pos hf1p, hf2, hf3, hf4, hf5, hf6, hf7, hf8] <;> simp [ropV]), M⟩
              | false =>
               refine w_condF (c7_108.trans (congrArg Value.bool hf6)) ?_
               refine w_skip (xn_blk (xn_then (w_seq (w_reg ?_))))
               refine wl_call 16 [(.const (.int .i64 (2)))] _ [.int .i64 (2)] (.agg ((vBad (2)).cells).toArray) rfl rfl (fun _ _ => by kernel_rfl) (rbad_n (2) _) rfl ?_
               intro u7 hq
               replace Q1 := Q1.mo hq
               replace Q2 := Q2.mo hq
               replace Q3 := Q3.mo hq
               replace M := M.trans hq
               clear hq
               refine wl_st 28 (.tmp 6) (.tmp 121) k3 0 (((vBad (2)).cells).toArray) _ ((vBad (2)).cells) Q3 rfl rfl c7_6 rfl rfl sz28 rfl rfl rfl ?_
               intro u8 hS Qn
               replace Q3 := Qn
               clear Qn
               replace Q1 := hS.other _ _ ne_k1_k3 Q1
               replace Q2 := hS.other _ _ ne_k2_k3 Q2
               replace M := hS.mo _ N_k3 M
               clear hS
               refine w_nil (xn_then (w_ret ?_))
               exact w_ret1 _ (.agg ((vBad (2)).cells).toArray) rfl ⟨k3, c7_6, (run_row Q3 28 0 10 ((vBad (2)).cells) rfl Tryz.underlying28 rfl sz28)⟩ ⟨vrt (x := (vBad (2))) rfl (by rw [← ropV_eq op hx hy]; simp [ropV, if_pos hf0p, if_pos hf1p, hf2, hf3, hf4, hf5, hf6] <;> simp [ropV]), M⟩
             ·skip
              refine w_reg ?_
              refine wl_mv (.tmp 0) (.int .i64 (op)) (fun _ => rfl) c6_0 rfl ?_
              cases hf6 : decide (op = 11) with
              | true =>
               have hf6p := of_decide_eq_true hf6
               refine wl_b .eql 3 (.tmp 109) (.const (.int .i64 (11))) (.int .i64 (op)) (.int .i64 (11)) (.bool true) (eq3 hf6 _ _ _) ?_
               refine wl_m (.tmp 110) (.bool true) ?_
               refine wl_mv (.tmp 8) (.bool (decide (x.k = 2) && decide (y.k = 2))) (fun _ => rfl) c6_8 rfl ?_
               refine wl_pick (.tmp 111) (.tmp 112) (.const (.bool false)) true (.bool (decide (x.k = 2) && decide (y.k = 2))) (fun _ => rfl) rfl rfl rfl ?_
               refine wl_m (.tmp 113) (.bool (decide (x.k = 2) && decide (y.k = 2))) ?_
               refine w_nil ?_
               exact xn_cut ⟨c6_0, c6_4, c6_5, c6_6, c6_7, c6_8, (congrArg Value.bool (by simp)), Q1, Q2, Q3, M⟩
              | false =>
               have hf6p := of_decide_eq_false hf6
               refine wl_b .eql 3 (.tmp 109) (.const (.int .i64 (11))) (.int .i64 (op)) (.int .i64 (11)) (.bool false) (eq3 hf6 _ _ _) ?_
               refine wl_m (.tmp 110) (.bool false) ?_
               refine wl_skip rfl ?_
               refine wl_pick (.tmp 111) (.tmp 112) (.const (.bool false)) false (.bool false) (fun _ => rfl) rfl rfl rfl ?_
               refine wl_m (.tmp 113) (.bool false) ?_
               refine w_nil ?_
               exact xn_cut ⟨c6_0, c6_4, c6_5, c6_6, c6_7, c6_8, (congrArg Value.bool (by simp)), Q1, Q2, Q3, M⟩
           ·skip
            refine w_reg ?_
            refine wl_mv (.tmp 0) (.int .i64 (op)) (fun _ => rfl) c5_0 rfl ?_
            cases hf5 : decide (op = 10) with
            | true =>
             have hf5p := of_decide_eq_true hf5
             refine wl_b .eql 3 (.tmp 96) (.const (.int .i64 (10))) (.int .i64 (op)) (.int .i64 (10)) (.bool true) (eq3 hf5 _ _ _) ?_
             refine wl_m (.tmp 97) (.bool true) ?_
             refine wl_mv (.tmp 8) (.bool (decide (x.k = 2) && decide (y.k = 2))) (fun _ => rfl) c5_8 rfl ?_
             refine wl_pick (.tmp 98) (.tmp 99) (.const (.bool false)) true (.bool (decide (x.k = 2) && decide (y.k = 2))) (fun _ => rfl) rfl rfl rfl ?_
             refine wl_m (.tmp 100) (.bool (decide (x.k = 2) && decide (y.k = 2))) ?_
             refine w_nil ?_
             exact xn_cut ⟨c5_0, c5_4, c5_5, c5_6, c5_7, c5_8, (congrArg Value.bool (by simp)), Q1, Q2, Q3, M⟩
            | false =>
             have hf5p := of_decide_eq_false hf5
             refine wl_b .eql 3 (.tmp 96) (.const (.int .i64 (10))) (.int .i64 (op)) (.int .i64 (10)) (.bool false) (eq3 hf5 _ _ _) ?_
             refine wl_m (.tmp 97) (.bool false) ?_
             refine wl_skip rfl ?_
             refine wl_pick (.tmp 98) (.tmp 99) (.const (.bool false)) false (.bool false) (fun _ => rfl) rfl rfl rfl ?_
             refine wl_m (.tmp 100) (.bool false) ?_
             refine w_nil ?_
             exact xn_cut ⟨c5_0, c5_4, c5_5, c5_6, c5_7, c5_8, (congrArg Value.bool (by simp)), Q1, Q2, Q3, M⟩
         ·skip
          refine w_reg ?_
          refine wl_mv (.tmp 0) (.int .i64 (op)) (fun _ => rfl) c4_0 rfl ?_
          cases hf4 : decide (6 ≤ op) with
          | true =>
           have hf4p := of_decide_eq_true hf4
           refine wl_b .geq 3 (.tmp 79) (.const (.int .i64 (6))) (.int .i64 (op)) (.int .i64 (6)) (.bool true) (ge3 hf4 _ _ _) ?_
           refine wl_m (.tmp 80) (.bool true) ?_
           refine wl_mv (.tmp 0) (.int .i64 (op)) (fun _ => rfl) c4_0 rfl ?_
           cases hf5 : decide (op ≤ 9) with
           | true =>
            have hf5p := of_decide_eq_true hf5
            refine wl_b .leq 3 (.tmp 82) (.const (.int .i64 (9))) (.int .i64 (op)) (.int .i64 (9)) (.bool true) (le3 hf5 _ _ _) ?_
            refine wl_pick (.tmp 81) (.tmp 83) (.const (.bool false)) true (.bool true) (fun _ => rfl) rfl rfl rfl ?_
            refine wl_m (.tmp 84) (.bool true) ?_
            refine wl_mv (.tmp 7) (.bool (decide (x.k = 1) && decide (y.k = 1))) (fun _ => rfl) c4_7 rfl ?_
            refine wl_pick (.tmp 85) (.tmp 86) (.const (.bool false)) true (.bool (decide (x.k = 1) && decide (y.k = 1))) (fun _ => rfl) rfl rfl rfl ?_
            refine wl_m (.tmp 87) (.bool (decide (x.k = 1) && decide (y.k = 1))) ?_
            refine w_nil ?_
            exact xn_cut ⟨c4_0, c4_4, c4_5, c4_6, c4_7, c4_8, (congrArg Value.bool (by simp)), Q1, Q2, Q3, M⟩
           | false =>
            have hf5p := of_decide_eq_false hf5
            refine wl_b .leq 3 (.tmp 82) (.const (.int .i64 (9))) (.int .i64 (op)) (.int .i64 (9)) (.bool false) (le3 hf5 _ _ _) ?_
            refine wl_pick (.tmp 81) (.tmp 83) (.const (.bool false)) true (.bool false) (fun _ => rfl) rfl rfl rfl ?_
            refine wl_m (.tmp 84) (.bool false) ?_
            refine wl_skip rfl ?_
            refine wl_pick (.tmp 85) (.tmp 86) (.const (.bool false)) false (.bool false) (fun _ => rfl) rfl rfl rfl ?_
            refine wl_m (.tmp 87) (.bool false) ?_
            refine w_nil ?_
            exact xn_cut ⟨c4_0, c4_4, c4_5, c4_6, c4_7, c4_8, (congrArg Value.bool (by simp)), Q1, Q2, Q3, M⟩
          | false =>
           have hf4p := of_decide_eq_false hf4
           refine wl_b .geq 3 (.tmp 79) (.const (.int .i64 (6))) (.int .i64 (op)) (.int .i64 (6)) (.bool false) (ge3 hf4 _ _ _) ?_
           refine wl_m (.tmp 80) (.bool false) ?_
           refine wl_skip rfl (wl_skip rfl ?_)
           refine wl_pick (.tmp 81) (.tmp 83) (.const (.bool false)) false (.bool false) (fun _ => rfl) rfl rfl rfl ?_
           refine wl_m (.tmp 84) (.bool false) ?_
           refine wl_skip rfl ?_
           refine wl_pick (.tmp 85) (.tmp 86) (.const (.bool false)) false (.bool false) (fun _ => rfl) rfl rfl rfl ?_
           refine wl_m (.tmp 87) (.bool false) ?_
           refine w_nil ?_
           exact xn_cut ⟨c4_0, c4_4, c4_5, c4_6, c4_7, c4_8, (congrArg Value.bool (by simp)), Q1, Q2, Q3, M⟩
       ·skip
        refine w_reg ?_
        refine wl_mv (.tmp 0) (.int .i64 (op)) (fun _ => rfl) c3_0 rfl ?_
        cases hf3 : decide (op = 4) with
        | true =>
         have hf3p := of_decide_eq_true hf3
         refine wl_b .eql 3 (.tmp 58) (.const (.int .i64 (4))) (.int .i64 (op)) (.int .i64 (4)) (.bool true) (eq3 hf3 _ _ _) ?_
         refine wl_m (.tmp 59) (.bool true) ?_
         refine wl_skip rfl (wl_skip rfl ?_)
         refine wl_pick (.tmp 60) (.const (.bool true)) (.tmp 62) true (.bool true) (fun _ => rfl) rfl rfl rfl ?_
         refine wl_m (.tmp 63) (.bool true) ?_
         refine wl_un (fun v => Instr.fieldAt 28 v 0) (.tmp 4) (pt k1 0) (pt k1 0) (fun _ => rfl) c3_4 (by kernel_rfl) rfl ?_
         refine wl_l 3 (.tmp 65) (pt k1 0) (.int .i64 (x.k)) (run_one Q1 3 0 rfl Tryz.underlying3 rfl) ?_
         refine wl_un (fun v => Instr.fieldAt 28 v 0) (.tmp 5) (pt k2 0) (pt k2 0) (fun _ => rfl) c3_5 (by kernel_rfl) rfl ?_
         refine wl_l 3 (.tmp 67) (pt k2 0) (.int .i64 (y.k)) (run_one Q2 3 0 rfl Tryz.underlying3 rfl) ?_
         cases hf4 : decide (x.k = y.k) with
         | true =>
          have hf4p := of_decide_eq_true hf4
          refine wl_b .eql 3 (.tmp 66) (.tmp 68) (.int .i64 (x.k)) (.int .i64 (y.k)) (.bool true) (eq3 hf4 _ _ _) ?_
          refine wl_pick (.tmp 64) (.tmp 69) (.const (.bool false)) true (.bool true) (fun _ => rfl) rfl rfl rfl ?_
          refine wl_m (.tmp 70) (.bool true) ?_
          refine w_nil ?_
          exact xn_cut ⟨c3_0, c3_4, c3_5, c3_6, c3_7, c3_8, (congrArg Value.bool (by simp [hf3p])), Q1, Q2, Q3, M⟩
         | false =>
          have hf4p := of_decide_eq_false hf4
          refine wl_b .eql 3 (.tmp 66) (.tmp 68) (.int .i64 (x.k)) (.int .i64 (y.k)) (.bool false) (eq3 hf4 _ _ _) ?_
          refine wl_pick (.tmp 64) (.tmp 69) (.const (.bool false)) true (.bool false) (fun _ => rfl) rfl rfl rfl ?_
          refine wl_m (.tmp 70) (.bool false) ?_
          refine w_nil ?_
          exact xn_cut ⟨c3_0, c3_4, c3_5, c3_6, c3_7, c3_8, (congrArg Value.bool (by simp [hf3p])), Q1, Q2, Q3, M⟩
        | false =>
         have hf3p := of_decide_eq_false hf3
         refine wl_b .eql 3 (.tmp 58) (.const (.int .i64 (4))) (.int .i64 (op)) (.int .i64 (4)) (.bool false) (eq3 hf3 _ _ _) ?_
         refine wl_m (.tmp 59) (.bool false) ?_
         refine wl_mv (.tmp 0) (.int .i64 (op)) (fun _ => rfl) c3_0 rfl ?_
         cases hf4 : decide (op = 5) with
         | true =>
          have hf4p := of_decide_eq_true hf4
          refine wl_b .eql 3 (.tmp 61) (.const (.int .i64 (5))) (.int .i64 (op)) (.int .i64 (5)) (.bool true) (eq3 hf4 _ _ _) ?_
          refine wl_pick (.tmp 60) (.const (.bool true)) (.tmp 62) false (.bool true) (fun _ => rfl) rfl rfl rfl ?_
          refine wl_m (.tmp 63) (.bool true) ?_
          refine wl_un (fun v => Instr.fieldAt 28 v 0) (.tmp 4) (pt k1 0) (pt k1 0) (fun _ => rfl) c3_4 (by kernel_rfl) rfl ?_
          refine wl_l 3 (.tmp 65) (pt k1 0) (.int .i64 (x.k)) (run_one Q1 3 0 rfl Tryz.underlying3 rfl) ?_
          refine wl_un (fun v => Instr.fieldAt 28 v 0) (.tmp 5) (pt k2 0) (pt k2 0) (fun _ => rfl) c3_5 (by kernel_rfl) rfl ?_
          refine wl_l 3 (.tmp 67) (pt k2 0) (.int .i64 (y.k)) (run_one Q2 3 0 rfl Tryz.underlying3 rfl) ?_
          cases hf5 : decide (x.k = y.k) with
          | true =>
           have hf5p := of_decide_eq_true hf5
           refine wl_b .eql 3 (.tmp 66) (.tmp 68) (.int .i64 (x.k)) (.int .i64 (y.k)) (.bool true) (eq3 hf5 _ _ _) ?_
           refine wl_pick (.tmp 64) (.tmp 69) (.const (.bool false)) true (.bool true) (fun _ => rfl) rfl rfl rfl ?_
           refine wl_m (.tmp 70) (.bool true) ?_
           refine w_nil ?_
           exact xn_cut ⟨c3_0, c3_4, c3_5, c3_6, c3_7, c3_8, (congrArg Value.bool (by simp)), Q1, Q2, Q3, M⟩
          | false =>
           have hf5p := of_decide_eq_false hf5
           refine wl_b .eql 3 (.tmp 66) (.tmp 68) (.int .i64 (x.k)) (.int .i64 (y.k)) (.bool false) (eq3 hf5 _ _ _) ?_
           refine wl_pick (.tmp 64) (.tmp 69) (.const (.bool false)) true (.bool false) (fun _ => rfl) rfl rfl rfl ?_
           refine wl_m (.tmp 70) (.bool false) ?_
           refine w_nil ?_
           exact xn_cut ⟨c3_0, c3_4, c3_5, c3_6, c3_7, c3_8, (congrArg Value.bool (by simp)), Q1, Q2, Q3, M⟩
         | false =>
          have hf4p := of_decide_eq_false hf4
          refine wl_b .eql 3 (.tmp 61) (.const (.int .i64 (5))) (.int .i64 (op)) (.int .i64 (5)) (.bool false) (eq3 hf4 _ _ _) ?_
          refine wl_pick (.tmp 60) (.const (.bool true)) (.tmp 62) false (.bool false) (fun _ => rfl) rfl rfl rfl ?_
          refine wl_m (.tmp 63) (.bool false) ?_
          refine wl_skip rfl (wl_skip rfl (wl_skip rfl (wl_skip rfl (wl_skip rfl ?_))))
          refine wl_pick (.tmp 64) (.tmp 69) (.const (.bool false)) false (.bool false) (fun _ => rfl) rfl rfl rfl ?_
          refine wl_m (.tmp 70) (.bool false) ?_
          refine w_nil ?_
          exact xn_cut ⟨c3_0, c3_4, c3_5, c3_6, c3_7, c3_8, (congrArg Value.bool (by simp)), Q1, Q2, Q3, M⟩
     ·skip
      refine w_reg ?_
      refine wl_mv (.tmp 0) (.int .i64 (op)) (fun _ => rfl) c2_0 rfl ?_
      cases hf2 : decide (op = 1) with
      | true =>
       have hf2p := of_decide_eq_true hf2
       refine wl_b .eql 3 (.tmp 38) (.const (.int .i64 (1))) (.int .i64 (op)) (.int .i64 (1)) (.bool true) (eq3 hf2 _ _ _) ?_
       refine wl_m (.tmp 39) (.bool true) ?_
       refine wl_skip rfl (wl_skip rfl ?_)
       refine wl_pick (.tmp 40) (.const (.bool true)) (.tmp 42) true (.bool true) (fun _ => rfl) rfl rfl rfl ?_
       refine wl_m (.tmp 43) (.bool true) ?_
       refine wl_skip rfl (wl_skip rfl ?_)
       refine wl_pick (.tmp 44) (.const (.bool true)) (.tmp 46) true (.bool true) (fun _ => rfl) rfl rfl rfl ?_
       refine wl_m (.tmp 47) (.bool true) ?_
       refine wl_mv (.tmp 7) (.bool (decide (x.k = 1) && decide (y.k = 1))) (fun _ => rfl) c2_7 rfl ?_
       refine wl_pick (.tmp 48) (.tmp 49) (.const (.bool false)) true (.bool (decide (x.k = 1) && decide (y.k = 1))) (fun _ => rfl) rfl rfl rfl ?_
       refine wl_m (.tmp 50) (.bool (decide (x.k = 1) && decide (y.k = 1))) ?_
       refine w_nil ?_
       exact xn_cut ⟨c2_0, c2_4, c2_5, c2_6, c2_7, c2_8, (congrArg Value.bool (by simp [hf2p])), Q1, Q2, Q3, M⟩
      | false =>
       have hf2p := of_decide_eq_false hf2
       refine wl_b .eql 3 (.tmp 38) (.const (.int .i64 (1))) (.int .i64 (op)) (.int .i64 (1)) (.bool false) (eq3 hf2 _ _ _) ?_
       refine wl_m (.tmp 39) (.bool false) ?_
       refine wl_mv (.tmp 0) (.int .i64 (op)) (fun _ => rfl) c2_0 rfl ?_
       cases hf3 : decide (op = 2) with
       | true =>
        have hf3p := of_decide_eq_true hf3
        refine wl_b .eql 3 (.tmp 41) (.const (.int .i64 (2))) (.int .i64 (op)) (.int .i64 (2)) (.bool true) (eq3 hf3 _ _ _) ?_
        refine wl_pick (.tmp 40) (.const (.bool true)) (.tmp 42) false (.bool true) (fun _ => rfl) rfl rfl rfl ?_
        refine wl_m (.tmp 43) (.bool true) ?_
        refine wl_skip rfl (wl_skip rfl ?_)
        refine wl_pick (.tmp 44) (.const (.bool true)) (.tmp 46) true (.bool true) (fun _ => rfl) rfl rfl rfl ?_
        refine wl_m (.tmp 47) (.bool true) ?_
        refine wl_mv (.tmp 7) (.bool (decide (x.k = 1) && decide (y.k = 1))) (fun _ => rfl) c2_7 rfl ?_
        refine wl_pick (.tmp 48) (.tmp 49) (.const (.bool false)) true (.bool (decide (x.k = 1) && decide (y.k = 1))) (fun _ => rfl) rfl rfl rfl ?_
        refine wl_m (.tmp 50) (.bool (decide (x.k = 1) && decide (y.k = 1))) ?_
        refine w_nil ?_
        exact xn_cut ⟨c2_0, c2_4, c2_5, c2_6, c2_7, c2_8, (congrArg Value.bool (by simp [hf3p])), Q1, Q2, Q3, M⟩
       | false =>
        have hf3p := of_decide_eq_false hf3
        refine wl_b .eql 3 (.tmp 41) (.const (.int .i64 (2))) (.int .i64 (op)) (.int .i64 (2)) (.bool false) (eq3 hf3 _ _ _) ?_
        refine wl_pick (.tmp 40) (.const (.bool true)) (.tmp 42) false (.bool false) (fun _ => rfl) rfl rfl rfl ?_
        refine wl_m (.tmp 43) (.bool false) ?_
        refine wl_mv (.tmp 0) (.int .i64 (op)) (fun _ => rfl) c2_0 rfl ?_
        cases hf4 : decide (op = 3) with
        | true =>
         have hf4p := of_decide_eq_true hf4
         refine wl_b .eql 3 (.tmp 45) (.const (.int .i64 (3))) (.int .i64 (op)) (.int .i64 (3)) (.bool true) (eq3 hf4 _ _ _) ?_
         refine wl_pick (.tmp 44) (.const (.bool true)) (.tmp 46) false (.bool true) (fun _ => rfl) rfl rfl rfl ?_
         refine wl_m (.tmp 47) (.bool true) ?_
         refine wl_mv (.tmp 7) (.bool (decide (x.k = 1) && decide (y.k = 1))) (fun _ => rfl) c2_7 rfl ?_
         refine wl_pick (.tmp 48) (.tmp 49) (.const (.bool false)) true (.bool (decide (x.k = 1) && decide (y.k = 1))) (fun _ => rfl) rfl rfl rfl ?_
         refine wl_m (.tmp 50) (.bool (decide (x.k = 1) && decide (y.k = 1))) ?_
         refine w_nil ?_
         exact xn_cut ⟨c2_0, c2_4, c2_5, c2_6, c2_7, c2_8, (congrArg Value.bool (by simp)), Q1, Q2, Q3, M⟩
        | false =>
         have hf4p := of_decide_eq_false hf4
         refine wl_b .eql 3 (.tmp 45) (.const (.int .i64 (3))) (.int .i64 (op)) (.int .i64 (3)) (.bool false) (eq3 hf4 _ _ _) ?_
         refine wl_pick (.tmp 44) (.const (.bool true)) (.tmp 46) false (.bool false) (fun _ => rfl) rfl rfl rfl ?_
         refine wl_m (.tmp 47) (.bool false) ?_
         refine wl_skip rfl ?_
         refine wl_pick (.tmp 48) (.tmp 49) (.const (.bool false)) false (.bool false) (fun _ => rfl) rfl rfl rfl ?_
         refine wl_m (.tmp 50) (.bool false) ?_
         refine w_nil ?_
         exact xn_cut ⟨c2_0, c2_4, c2_5, c2_6, c2_7, c2_8, (congrArg Value.bool (by simp)), Q1, Q2, Q3, M⟩
    ·skip
     refine w_reg ?_
     refine wl_un (fun v => Instr.fieldAt 28 v 0) (.tmp 4) (pt k1 0) (pt k1 0) (fun _ => rfl) c1_4 (by kernel_rfl) rfl ?_
     refine wl_l 3 (.tmp 29) (pt k1 0) (.int .i64 (x.k)) (run_one Q1 3 0 rfl Tryz.underlying3 rfl) ?_
     cases hf2 : decide (x.k = 2) with
     | true =>
      have hf2p := of_decide_eq_true hf2
      refine wl_b .eql 3 (.tmp 30) (.const (.int .i64 (2))) (.int .i64 (x.k)) (.int .i64 (2)) (.bool true) (eq3 hf2 _ _ _) ?_
      refine wl_m (.tmp 31) (.bool true) ?_
      refine wl_un (fun v => Instr.fieldAt 28 v 0) (.tmp 5) (pt k2 0) (pt k2 0) (fun _ => rfl) c1_5 (by kernel_rfl) rfl ?_
      refine wl_l 3 (.tmp 33) (pt k2 0) (.int .i64 (y.k)) (run_one Q2 3 0 rfl Tryz.underlying3 rfl) ?_
      cases hf3 : decide (y.k = 2) with
      | true =>
       have hf3p := of_decide_eq_true hf3
       refine wl_b .eql 3 (.tmp 34) (.const (.int .i64 (2))) (.int .i64 (y.k)) (.int .i64 (2)) (.bool true) (eq3 hf3 _ _ _) ?_
       refine wl_pick (.tmp 32) (.tmp 35) (.const (.bool false)) true (.bool true) (fun _ => rfl) rfl rfl rfl ?_
       refine wl_m (.tmp 36) (.bool true) ?_
       refine w_nil ?_
       exact xn_cut ⟨c1_0, c1_4, c1_5, c1_6, c1_7, (congrArg Value.bool (by simp)), Q1, Q2, Q3, M⟩
      | false =>
       have hf3p := of_decide_eq_false hf3
       refine wl_b .eql 3 (.tmp 34) (.const (.int .i64 (2))) (.int .i64 (y.k)) (.int .i64 (2)) (.bool false) (eq3 hf3 _ _ _) ?_
       refine wl_pick (.tmp 32) (.tmp 35) (.const (.bool false)) true (.bool false) (fun _ => rfl) rfl rfl rfl ?_
       refine wl_m (.tmp 36) (.bool false) ?_
       refine w_nil ?_
       exact xn_cut ⟨c1_0, c1_4, c1_5, c1_6, c1_7, (congrArg Value.bool (by simp)), Q1, Q2, Q3, M⟩
     | false =>
      have hf2p := of_decide_eq_false hf2
      refine wl_b .eql 3 (.tmp 30) (.const (.int .i64 (2))) (.int .i64 (x.k)) (.int .i64 (2)) (.bool false) (eq3 hf2 _ _ _) ?_
      refine wl_m (.tmp 31) (.bool false) ?_
      refine wl_skip rfl (wl_skip rfl (wl_skip rfl ?_))
      refine wl_pick (.tmp 32) (.tmp 35) (.const (.bool false)) false (.bool false) (fun _ => rfl) rfl rfl rfl ?_
      refine wl_m (.tmp 36) (.bool false) ?_
      refine w_nil ?_
      exact xn_cut ⟨c1_0, c1_4, c1_5, c1_6, c1_7, (congrArg Value.bool (by simp)), Q1, Q2, Q3, M⟩
   ·skip
    refine w_reg ?_
    refine wl_f 28 0 (.tmp 4) (pt k1 0) (pt k1 0) ?_
    refine wl_l 3 (.tmp 21) (pt k1 0) (.int .i64 (x.k)) (run_one Q1 3 0 rfl Tryz.underlying3 rfl) ?_
    cases hf2 : decide (x.k = 1) with
    | true =>
     have hf2p := of_decide_eq_true hf2
     refine wl_b .eql 3 (.tmp 22) (.const (.int .i64 (1))) (.int .i64 (x.k)) (.int .i64 (1)) (.bool true) (eq3 hf2 _ _ _) ?_
     refine wl_m (.tmp 23) (.bool true) ?_
     refine wl_f 28 0 (.tmp 5) (pt k2 0) (pt k2 0) ?_
     refine wl_l 3 (.tmp 25) (pt k2 0) (.int .i64 (y.k)) (run_one Q2 3 0 rfl Tryz.underlying3 rfl) ?_
     cases hf3 : decide (y.k = 1) with
     | true =>
      have hf3p := of_decide_eq_true hf3
      refine wl_b .eql 3 (.tmp 26) (.const (.int .i64 (1))) (.int .i64 (y.k)) (.int .i64 (1)) (.bool true) (eq3 hf3 _ _ _) ?_
      refine wl_pick (.tmp 24) (.tmp 27) (.const (.bool false)) true (.bool true) (fun _ => rfl) rfl rfl rfl ?_
      refine wl_m (.tmp 28) (.bool true) ?_
      refine w_nil ?_
      exact xn_cut ⟨rfl, rfl, rfl, rfl, (congrArg Value.bool (by simp)), Q1, Q2, Q3, M⟩
     | false =>
      have hf3p := of_decide_eq_false hf3
      refine wl_b .eql 3 (.tmp 26) (.const (.int .i64 (1))) (.int .i64 (y.k)) (.int .i64 (1)) (.bool false) (eq3 hf3 _ _ _) ?_
      refine wl_pick (.tmp 24) (.tmp 27) (.const (.bool false)) true (.bool false) (fun _ => rfl) rfl rfl rfl ?_
      refine wl_m (.tmp 28) (.bool false) ?_
      refine w_nil ?_
      exact xn_cut ⟨rfl, rfl, rfl, rfl, (congrArg Value.bool (by simp)), Q1, Q2, Q3, M⟩
    | false =>
     have hf2p := of_decide_eq_false hf2
     refine wl_b .eql 3 (.tmp 22) (.const (.int .i64 (1))) (.int .i64 (x.k)) (.int .i64 (1)) (.bool false) (eq3 hf2 _ _ _) ?_
     refine wl_m (.tmp 23) (.bool false) ?_
     refine wl_skip rfl (wl_skip rfl (wl_skip rfl ?_))
     refine wl_pick (.tmp 24) (.tmp 27) (.const (.bool false)) false (.bool false) (fun _ => rfl) rfl rfl rfl ?_
     refine wl_m (.tmp 28) (.bool false) ?_
     refine w_nil ?_
     exact xn_cut ⟨rfl, rfl, rfl, rfl, (congrArg Value.bool (by simp)), Q1, Q2, Q3, M⟩
  | false =>
   have hf1p := of_decide_eq_false hf1
   refine w_any 4 [.inl (.agg (x.cells).toArray), .inl (.agg (x.cells).toArray), .inl (.agg (y.cells).toArray), .inl (.agg ((vEr (ask y)).cells).toArray)] [] (by kernel_rfl) (by kernel_rfl) (by kernel_rfl) (by kernel_rfl) rfl (by kernel_rfl) (by kernel_rfl) late_nil ?_ ?_ ?_
   ·exact Ds.none rfl
   ·refine ea_cons ?_ (ea_cons ?_ (ea_cons ?_ (ea_cons ?_ (ea_nil))))
    ·exact og_eq _ rfl (fun f wf hq hd K hK => have Q1 := Q1.mo hq; go_run rfl (wo_load 28 (.tmp 4) (pt k1 0) (.agg (x.cells).toArray) rfl rfl (run_row Q1 28 0 10 (x.cells) rfl Tryz.underlying28 rfl sz28) (hK _ (Mo.refl _))))
    ·exact og_eq _ rfl (fun f wf hq hd K hK => go_run rfl (wo_call 35 [(.tmp 9)] _ [.agg (x.cells).toArray] (.agg (x.cells).toArray) rfl (li1 (hd 0 rfl)) (fun _ _ => by kernel_rfl) (asked_0 hf0p hx _) hK))
    ·exact og_eq _ rfl (fun f wf hq hd K hK => have Q2 := Q2.mo hq; go_run rfl (wo_load 28 (.tmp 5) (pt k2 0) (.agg (y.cells).toArray) rfl rfl (run_row Q2 28 0 10 (y.cells) rfl Tryz.underlying28 rfl sz28) (hK _ (Mo.refl _))))
    ·exact og_eq _ rfl (fun f wf hq hd K hK => go_run rfl (wo_call 35 [(.tmp 11)] _ [.agg (y.cells).toArray] (.agg ((vEr (ask y)).cells).toArray) rfl (li1 (hd 2 rfl)) (fun _ _ => by kernel_rfl) (asked_1 hf1p hy _) hK))
   intro kf4 u4 hq hR hne
   replace Q1 := Q1.mo hq
   replace Q2 := Q2.mo hq
   replace Q3 := Q3.mo hq
   replace M := M.trans hq
   clear hq hR hne
   refine wl_st 28 (.tmp 4) (.tmp 10) k1 0 ((x.cells).toArray) (x.cells) (x.cells) Q1 rfl rfl rfl rfl rfl sz28 rfl rfl rfl ?_
   intro u5 hS Qn
   replace Q1 := Qn
   clear Qn
   replace Q2 := hS.other _ _ ne_k1_k2.symm Q2
   replace Q3 := hS.other _ _ ne_k1_k3.symm Q3
   replace M := hS.mo _ N_k1 M
   clear hS
   refine wl_st 28 (.tmp 5) (.tmp 12) k2 0 (((vEr (ask y)).cells).toArray) (y.cells) ((vEr (ask y)).cells) Q2 rfl rfl rfl rfl rfl sz28 rfl rfl rfl ?_
   intro u6 hS Qn
   replace Q2 := Qn
   clear Qn
   replace Q1 := hS.other _ _ ne_k1_k2 Q1
   replace Q3 := hS.other _ _ ne_k2_k3.symm Q3
   replace M := hS.mo _ N_k2 M
   clear hS
   refine w_nil (xn_then (w_seq (w_seq (w_reg ?_))))
   refine wl_f 28 0 (.tmp 4) (pt k1 0) (pt k1 0) ?_
   refine wl_l 3 (.tmp 13) (pt k1 0) (.int .i64 (x.k)) (run_one Q1 3 0 rfl Tryz.underlying3 rfl) ?_
   refine wl_b .eql 3 (.tmp 14) (.const (.int .i64 (4))) (.int .i64 (x.k)) (.int .i64 (4)) (.bool false) (eq3 (decide_eq_false (ask_0 hx hf0p).2.1) _ _ _) ?_
   refine w_nil (xn_then (w_condF rfl (w_skip (xn_then (w_seq (w_seq (w_reg ?_)))))))
   refine wl_f 28 0 (.tmp 5) (pt k2 0) (pt k2 0) ?_
   refine wl_l 3 (.tmp 17) (pt k2 0) (.int .i64 ((vEr (ask y)).k)) (run_one Q2 3 0 rfl Tryz.underlying3 rfl) ?_
   refine wl_b .eql 3 (.tmp 18) (.const (.int .i64 (4))) (.int .i64 ((vEr (ask y)).k)) (.int .i64 (4)) (.bool true) (eq3 rfl _ _ _) ?_
   refine w_nil (xn_then (w_condT rfl (w_seq (w_reg ?_))))
   refine wl_l 28 (.tmp 5) (pt k2 0) (.agg ((vEr (ask y)).cells).toArray) (run_row Q2 28 0 10 ((vEr (ask y)).cells) rfl Tryz.underlying28 rfl sz28) ?_
   refine wl_st 28 (.tmp 6) (.tmp 20) k3 0 (((vEr (ask y)).cells).toArray) _ ((vEr (ask y)).cells) Q3 rfl rfl rfl rfl rfl sz28 rfl rfl rfl ?_
   intro u7 hS Qn
   replace Q3 := Qn
   clear Qn
   replace Q1 := hS.other _ _ ne_k1_k3 Q1
   replace Q2 := hS.other _ _ ne_k2_k3 Q2
   replace M := hS.mo _ N_k3 M
   clear hS
   refine w_nil (xn_then (w_ret (xr_then ?_)))
   exact w_ret1 _ (.agg ((vEr (ask y)).cells).toArray) rfl ⟨k3, rfl, (run_row Q3 28 0 10 ((vEr (ask y)).cells) rfl Tryz.underlying28 rfl sz28)⟩ ⟨vrt (x := (vEr (ask y))) rfl (by rw [← ropV_eq op hx hy]; simp [ropV, if_pos hf0p, if_neg hf1p] <;> simp [ropV]), M⟩
 | false =>
  have hf0p := of_decide_eq_false hf0
  cases hf1 : decide (ask y = 0) with
  | true =>
   have hf1p := of_decide_eq_true hf1
   refine w_any 4 [.inl (.agg (x.cells).toArray), .inl (.agg ((vEr (ask x)).cells).toArray), .inl (.agg (y.cells).toArray), .inl (.agg (y.cells).toArray)] [] (by kernel_rfl) (by kernel_rfl) (by kernel_rfl) (by kernel_rfl) rfl (by kernel_rfl) (by kernel_rfl) late_nil ?_ ?_ ?_
   ·exact Ds.none rfl
   ·refine ea_cons ?_ (ea_cons ?_ (ea_cons ?_ (ea_cons ?_ (ea_nil))))
    ·exact og_eq _ rfl (fun f wf hq hd K hK => have Q1 := Q1.mo hq; go_run rfl (wo_load 28 (.tmp 4) (pt k1 0) (.agg (x.cells).toArray) rfl rfl (run_row Q1 28 0 10 (x.cells) rfl Tryz.underlying28 rfl sz28) (hK _ (Mo.refl _))))
    ·exact og_eq _ rfl (fun f wf hq hd K hK => go_run rfl (wo_call 35 [(.tmp 9)] _ [.agg (x.cells).toArray] (.agg ((vEr (ask x)).cells).toArray) rfl (li1 (hd 0 rfl)) (fun _ _ => by kernel_rfl) (asked_1 hf0p hx _) hK))
    ·exact og_eq _ rfl (fun f wf hq hd K hK => have Q2 := Q2.mo hq; go_run rfl (wo_load 28 (.tmp 5) (pt k2 0) (.agg (y.cells).toArray) rfl rfl (run_row Q2 28 0 10 (y.cells) rfl Tryz.underlying28 rfl sz28) (hK _ (Mo.refl _))))
    ·exact og_eq _ rfl (fun f wf hq hd K hK => go_run rfl (wo_call 35 [(.tmp 11)] _ [.agg (y.cells).toArray] (.agg (y.cells).toArray) rfl (li1 (hd 2 rfl)) (fun _ _ => by kernel_rfl) (asked_0 hf1p hy _) hK))
   intro kf4 u4 hq hR hne
   replace Q1 := Q1.mo hq
   replace Q2 := Q2.mo hq
   replace Q3 := Q3.mo hq
   replace M := M.trans hq
   clear hq hR hne
   refine wl_st 28 (.tmp 4) (.tmp 10) k1 0 (((vEr (ask x)).cells).toArray) (x.cells) ((vEr (ask x)).cells) Q1 rfl rfl rfl rfl rfl sz28 rfl rfl rfl ?_
   intro u5 hS Qn
   replace Q1 := Qn
   clear Qn
   replace Q2 := hS.other _ _ ne_k1_k2.symm Q2
   replace Q3 := hS.other _ _ ne_k1_k3.symm Q3
   replace M := hS.mo _ N_k1 M
   clear hS
   refine wl_st 28 (.tmp 5) (.tmp 12) k2 0 ((y.cells).toArray) (y.cells) (y.cells) Q2 rfl rfl rfl rfl rfl sz28 rfl rfl rfl ?_
   intro u6 hS Qn
   replace Q2 := Qn
   clear Qn
   replace Q1 := hS.other _ _ ne_k1_k2 Q1
   replace Q3 := hS.other _ _ ne_k2_k3.symm Q3
   replace M := hS.mo _ N_k2 M
   clear hS
   refine w_nil (xn_then (w_seq (w_seq (w_reg ?_))))
   refine wl_f 28 0 (.tmp 4) (pt k1 0) (pt k1 0) ?_
   refine wl_l 3 (.tmp 13) (pt k1 0) (.int .i64 ((vEr (ask x)).k)) (run_one Q1 3 0 rfl Tryz.underlying3 rfl) ?_
   refine wl_b .eql 3 (.tmp 14) (.const (.int .i64 (4))) (.int .i64 ((vEr (ask x)).k)) (.int .i64 (4)) (.bool true) (eq3 rfl _ _ _) ?_
   refine w_nil (xn_then (w_condT rfl (w_seq (w_reg ?_))))
   refine wl_l 28 (.tmp 4) (pt k1 0) (.agg ((vEr (ask x)).cells).toArray) (run_row Q1 28 0 10 ((vEr (ask x)).cells) rfl Tryz.underlying28 rfl sz28) ?_
   refine wl_st 28 (.tmp 6) (.tmp 16) k3 0 (((vEr (ask x)).cells).toArray) _ ((vEr (ask x)).cells) Q3 rfl rfl rfl rfl rfl sz28 rfl rfl rfl ?_
   intro u7 hS Qn
   replace Q3 := Qn
   clear Qn
   replace Q1 := hS.other _ _ ne_k1_k3 Q1
   replace Q2 := hS.other _ _ ne_k2_k3 Q2
   replace M := hS.mo _ N_k3 M
   clear hS
   refine w_nil (xn_then (w_ret (xr_then ?_)))
   exact w_ret1 _ (.agg ((vEr (ask x)).cells).toArray) rfl ⟨k3, rfl, (run_row Q3 28 0 10 ((vEr (ask x)).cells) rfl Tryz.underlying28 rfl sz28)⟩ ⟨vrt (x := (vEr (ask x))) rfl (by rw [← ropV_eq op hx hy]; simp [ropV, if_neg hf0p, if_pos hf1p] <;> simp [ropV]), M⟩
  | false =>
   have hf1p := of_decide_eq_false hf1
   refine w_any 4 [.inl (.agg (x.cells).toArray), .inl (.agg ((vEr (ask x)).cells).toArray), .inl (.agg (y.cells).toArray), .inl (.agg ((vEr (ask y)).cells).toArray)] [] (by kernel_rfl) (by kernel_rfl) (by kernel_rfl) (by kernel_rfl) rfl (by kernel_rfl) (by kernel_rfl) late_nil ?_ ?_ ?_
   ·exact Ds.none rfl
   ·refine ea_cons ?_ (ea_cons ?_ (ea_cons ?_ (ea_cons ?_ (ea_nil))))
    ·exact og_eq _ rfl (fun f wf hq hd K hK => have Q1 := Q1.mo hq; go_run rfl (wo_load 28 (.tmp 4) (pt k1 0) (.agg (x.cells).toArray) rfl rfl (run_row Q1 28 0 10 (x.cells) rfl Tryz.underlying28 rfl sz28) (hK _ (Mo.refl _))))
    ·exact og_eq _ rfl (fun f wf hq hd K hK => go_run rfl (wo_call 35 [(.tmp 9)] _ [.agg (x.cells).toArray] (.agg ((vEr (ask x)).cells).toArray) rfl (li1 (hd 0 rfl)) (fun _ _ => by kernel_rfl) (asked_1 hf0p hx _) hK))
    ·exact og_eq _ rfl (fun f wf hq hd K hK => have Q2 := Q2.mo hq; go_run rfl (wo_load 28 (.tmp 5) (pt k2 0) (.agg (y.cells).toArray) rfl rfl (run_row Q2 28 0 10 (y.cells) rfl Tryz.underlying28 rfl sz28) (hK _ (Mo.refl _))))
    ·exact og_eq _ rfl (fun f wf hq hd K hK => go_run rfl (wo_call 35 [(.tmp 11)] _ [.agg (y.cells).toArray] (.agg ((vEr (ask y)).cells).toArray) rfl (li1 (hd 2 rfl)) (fun _ _ => by kernel_rfl) (asked_1 hf1p hy _) hK))
   intro kf4 u4 hq hR hne
   replace Q1 := Q1.mo hq
   replace Q2 := Q2.mo hq
   replace Q3 := Q3.mo hq
   replace M := M.trans hq
   clear hq hR hne
   refine wl_st 28 (.tmp 4) (.tmp 10) k1 0 (((vEr (ask x)).cells).toArray) (x.cells) ((vEr (ask x)).cells) Q1 rfl rfl rfl rfl rfl sz28 rfl rfl rfl ?_
   intro u5 hS Qn
   replace Q1 := Qn
   clear Qn
   replace Q2 := hS.other _ _ ne_k1_k2.symm Q2
   replace Q3 := hS.other _ _ ne_k1_k3.symm Q3
   replace M := hS.mo _ N_k1 M
   clear hS
   refine wl_st 28 (.tmp 5) (.tmp 12) k2 0 (((vEr (ask y)).cells).toArray) (y.cells) ((vEr (ask y)).cells) Q2 rfl rfl rfl rfl rfl sz28 rfl rfl rfl ?_
   intro u6 hS Qn
   replace Q2 := Qn
   clear Qn
   replace Q1 := hS.other _ _ ne_k1_k2 Q1
   replace Q3 := hS.other _ _ ne_k2_k3.symm Q3
   replace M := hS.mo _ N_k2 M
   clear hS
   refine w_nil (xn_then (w_seq (w_seq (w_reg ?_))))
   refine wl_f 28 0 (.tmp 4) (pt k1 0) (pt k1 0) ?_
   refine wl_l 3 (.tmp 13) (pt k1 0) (.int .i64 ((vEr (ask x)).k)) (run_one Q1 3 0 rfl Tryz.underlying3 rfl) ?_
   refine wl_b .eql 3 (.tmp 14) (.const (.int .i64 (4))) (.int .i64 ((vEr (ask x)).k)) (.int .i64 (4)) (.bool true) (eq3 rfl _ _ _) ?_
   refine w_nil (xn_then (w_condT rfl (w_seq (w_reg ?_))))
   refine wl_l 28 (.tmp 4) (pt k1 0) (.agg ((vEr (ask x)).cells).toArray) (run_row Q1 28 0 10 ((vEr (ask x)).cells) rfl Tryz.underlying28 rfl sz28) ?_
   refine wl_st 28 (.tmp 6) (.tmp 16) k3 0 (((vEr (ask x)).cells).toArray) _ ((vEr (ask x)).cells) Q3 rfl rfl rfl rfl rfl sz28 rfl rfl rfl ?_
   intro u7 hS Qn
   replace Q3 := Qn
   clear Qn
   replace Q1 := hS.other _ _ ne_k1_k3 Q1
   replace Q2 := hS.other _ _ ne_k2_k3 Q2
   replace M := hS.mo _ N_k3 M
   clear hS
   refine w_nil (xn_then (w_ret (xr_then ?_)))
   exact w_ret1 _ (.agg ((vEr (ask x)).cells).toArray) rfl ⟨k3, rfl, (run_row Q3 28 0 10 ((vEr (ask x)).cells) rfl Tryz.underlying28 rfl sz28)⟩ ⟨vrt (x := (vEr (ask x))) rfl (by rw [← ropV_eq op hx hy]; simp [ropV, if_neg hf0p, if_neg hf1p] <;> simp [ropV]), M⟩
end Go.Proofs.YtogomodbcjpfiaaGreatDoor
namespace Go.Proofs.YtogomodbcjpfiaaGreatDoor.V
open Go.RowKit
theorem ops_law (op : Int) (x y : VL) (w : World) (hx : x.ok) (hy : y.ok) : Calls Tryz.prog 3 #[.int .i64 op, x.v, y.v] w fun e9 w' => e9 = .returned (.bool true) ∧ Mw w w' := by
 refine w_enter 19 Tryz.func3 Tryz.ntmps3 rfl rfl ?_
 have M : Mw w w := Mw.refl _
 refine w_seq (w_reg ?_)
 refine wl_box 28 (.tmp 1) _ (((x.cells).toArray)) rfl rfl (fun _ => by kernel_rfl) rfl ?_
 intro k1 u1 hk hz hq Q1
 have N_k1 : w.heap.size ≤ k1 := by have := M.size; omega
 replace M := M.trans hq
 clear hk hz hq
 refine wl_box 28 (.tmp 2) _ (((y.cells).toArray)) rfl rfl (fun _ => by kernel_rfl) rfl ?_
 intro k2 u2 hk hz hq Q2
 have ne_k1_k2 : k1 ≠ k2 := by have := Q1.lt; omega
 have N_k2 : w.heap.size ≤ k2 := by have := M.size; omega
 replace Q1 := Q1.mo hq
 replace M := M.trans hq
 clear hk hz hq
 refine wl_m (.const (.bool false)) (.bool false) ?_
 refine w_nil (xn_then (w_seq ?_))
 refine w_any 9 [.inl (.bool true), .inl (.bool true), .inl (.int .i64 (op)), .inl (.agg (x.cells).toArray), .inl (.agg (y.cells).toArray), .inl (.agg ((opV op x y).cells).toArray), .inl (.int .i64 (op)), .inl (.agg (x.cells).toArray), .inl (.agg (y.cells).toArray)] [] (by kernel_rfl) (by kernel_rfl) (by kernel_rfl) (by kernel_rfl) rfl (by kernel_rfl) (by kernel_rfl) late_nil ?_ ?_ ?_
 ·exact Ds.none rfl
 ·refine ea_cons ?_ (ea_cons ?_ (ea_cons ?_ (ea_cons ?_ (ea_cons ?_ (ea_cons ?_ (ea_cons ?_ (ea_cons ?_ (ea_cons ?_ (ea_nil)))))))))
  ·exact og_eq _ rfl (fun f wf hq hd K hK => go_run rfl (wo_call 10 [] _ [] (.bool true) rfl rfl (fun _ _ => by kernel_rfl) (live_n _) hK))
  ·exact og_eq _ rfl (fun f wf hq hd K hK => go_run rfl (wo_mv (.tmp 7) (.bool true) (fun _ => rfl) (hd 0 rfl) (hK _ (Mw.refl _))))
  ·exact og_eq _ rfl (fun f wf hq hd K hK => go_run (wnt_g rfl rfl rfl (hd 1 rfl) rfl) (wo_mv (.tmp 0) (.int .i64 (op)) (fun _ => rfl) rfl (hK _ (Mw.refl _))))
  ·exact og_eq _ rfl (fun f wf hq hd K hK => have Q1 := Q1.mo hq; go_run (wnt_g rfl rfl rfl (hd 1 rfl) rfl) (wo_load 28 (.tmp 4) (pt k1 0) (.agg (x.cells).toArray) rfl rfl (run_row Q1 28 0 10 (x.cells) rfl Tryz.underlying28 rfl sz28) (hK _ (Mw.refl _))))
  ·exact og_eq _ rfl (fun f wf hq hd K hK => have Q2 := Q2.mo hq; go_run (wnt_g rfl rfl rfl (hd 1 rfl) rfl) (wo_load 28 (.tmp 5) (pt k2 0) (.agg (y.cells).toArray) rfl rfl (run_row Q2 28 0 10 (y.cells) rfl Tryz.underlying28 rfl sz28) (hK _ (Mw.refl _))))
  ·exact og_eq _ rfl (fun f wf hq hd K hK => go_run (wnt_g rfl rfl rfl (hd 1 rfl) rfl) (wo_call 11 [(.tmp 9), (.tmp 10), (.tmp 11)] _ [.int .i64 (op), .agg (x.cells).toArray, .agg (y.cells).toArray] (.agg ((opV op x y).cells).toArray) rfl (li3 (hd 2 rfl) (hd 3 rfl) (hd 4 rfl)) (fun _ _ => by kernel_rfl) (wk (op_n op x y _ hx hy)) hK))
  ·exact og_eq _ rfl (fun f wf hq hd K hK => go_run (wnt_g rfl rfl rfl (hd 1 rfl) rfl) (wo_mv (.tmp 0) (.int .i64 (op)) (fun _ => rfl) rfl (hK _ (Mw.refl _))))
  ·exact og_eq _ rfl (fun f wf hq hd K hK => have Q1 := Q1.mo hq; go_run (wnt_g rfl rfl rfl (hd 1 rfl) rfl) (wo_load 28 (.tmp 4) (pt k1 0) (.agg (x.cells).toArray) rfl rfl (run_row Q1 28 0 10 (x.cells) rfl Tryz.underlying28 rfl sz28) (hK _ (Mw.refl _))))
  ·exact og_eq _ rfl (fun f wf hq hd K hK => have Q2 := Q2.mo hq; go_run (wnt_g rfl rfl rfl (hd 1 rfl) rfl) (wo_load 28 (.tmp 5) (pt k2 0) (.agg (y.cells).toArray) rfl rfl (run_row Q2 28 0 10 (y.cells) rfl Tryz.underlying28 rfl sz28) (hK _ (Mw.refl _))))
 intro kf3 u3 hq hR hne
 replace Q1 := Q1.mo hq
 replace Q2 := Q2.mo hq
 replace M := M.trans hq
 clear hq hR hne
 refine wl_call 12 [(.tmp 13), (.tmp 14), (.tmp 15)] _ [.int .i64 (op), .agg (x.cells).toArray, .agg (y.cells).toArray] (.agg ((opV op x y).cells).toArray) rfl rfl (fun _ _ => by kernel_rfl) (wk (rop_n op x y _ hx hy)) rfl ?_
 intro u4 hq
 replace Q1 := Q1.mo hq
 replace Q2 := Q2.mo hq
 replace M := M.trans hq
 clear hq
 refine wl_b .eql 28 (.tmp 12) (.tmp 16) (.agg ((opV op x y).cells).toArray) (.agg ((opV op x y).cells).toArray) (.bool true) (eqW (svv_self _) _ _ _) ?_
 refine wl_pick (.tmp 8) (.tmp 17) (.const (.bool false)) true (.bool true) (fun _ => rfl) rfl rfl rfl ?_
 refine wl_m (.tmp 18) (.bool true) ?_
 refine w_nil (xn_then (w_ret ?_))
 exact w_ret1 _ _ rfl rfl ⟨rfl, M⟩
end Go.Proofs.YtogomodbcjpfiaaGreatDoor.V
