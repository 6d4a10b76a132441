/-
  A part of the proof.
-/
import Derived.Test.YtogomodbcjpfiaaGreatDoorKa18
import Derived.Test.YtogomodbcjpfiaaGreatDoorKa17
import Derived.Test.YtogomodbcjpfiaaGreatDoorKa16
import Derived.Test.YtogomodbcjpfiaaGreatDoorKa15
import Derived.Test.YtogomodbcjpfiaaGreatDoorKa14
import Derived.Test.YtogomodbcjpfiaaGreatDoorKa1
import Derived.Shelf.Strings.Builder1
import Derived.Shelf.Strings.Builder2
import Derived.Shelf.Small.Bits
import Derived.Shelf.Small.Wraps
import Derived.Shelf.Strings.BuilderF
import Derived.Shelf.Strings.BuilderK
import Derived.Shelf.Strings.Prefix
import Derived.Shelf.Bits.Mul64
import Derived.Shelf.Strings.Repeat
import Derived.Test.YtogomodbcjpfiaaGreatDoorProg
import Derived.Shelf.Strconv.Itoa0
import Derived.Test.YtogomodbcjpfiaaGreatDoorKa11
import Derived.Test.YtogomodbcjpfiaaGreatDoorKa9
import Derived.Test.YtogomodbcjpfiaaGreatDoorKa4
import Derived.Test.YtogomodbcjpfiaaGreatDoorKa3
import Derived.Test.YtogomodbcjpfiaaGreatDoorKa2
import Derived.RegionTactic
import Derived.WalkKit
import Derived.WalkSpells
import Derived.Handy
import Derived.BigQuiet
import Derived.Deep.RegionHeld3
import Derived.Deep.MidRow
import Derived.BigCall
import Derived.Test.YtogomodbcjpfiaaGreatDoorKa8
import Derived.Test.YtogomodbcjpfiaaGreatDoorKa5
import Derived.Deep.CutBlock
import Derived.Deep.CutRange
import Derived.Test.YtogomodbcjpfiaaGreatDoorKa7
import Derived.Test.YtogomodbcjpfiaaGreatDoorKa6
import Derived.ChangeKeysEq
import Derived.ScopeJumps
import Derived.WalkMore
import Derived.Laws.StructEq
import Derived.Test.YtogomodbcjpfiaaGreatDoorKa10
import Derived.Test.YtogomodbcjpfiaaGreatDoorKa13
import Derived.Test.YtogomodbcjpfiaaGreatDoorKa12
import Derived.Lib.CutLaws
import Derived.Lib.IndexBytes
import Derived.Maps.OwnSet
import Derived.WalkArith
import Derived.StringKeys
import Derived.Maps.AppendAt
import Derived.Deep.AppendLies
import Derived.Laws.BytesString
namespace Go.Proofs.YtogomodbcjpfiaaGreatDoor
open Go.RowKit
theorem dzq {b : Bool} {n s : Int} (h0 : 0 ≤ n) (h : ck b n s = 0) : dz (sgn b n) s = dc b n s := by
 obtain ⟨h1, h2⟩ := dz_sgn h0 h
 show dc (decide (sgn b n < 0)) (ab (sgn b n)) s = dc b n s
 rw [h1, h2]
theorem padd_n (b : Bool) (n s : Int) (c : Bool) (m t : Int) (w : World) (hn0 : 0 ≤ n) (hn : n < MM) (hm0 : 0 ≤ m) (hm : m < MM) (h1 : ck b n s = 0) (h2 : ck c m t = 0) : Calls Tryz.prog 59 #[dc b n s, dc c m t] w fun e9 w' => e9 = .returned (addR b n s c m t).v ∧ Mo w w' := by
 have q := add_z (sgn b n) s (sgn c m) t w (by rw [(dz_sgn hn0 h1).2]; exact hn) (by rw [(dz_sgn hm0 h2).2]; exact hm) (ck_s h1) (ck_s h2)
 rw [dzq hn0 h1, dzq hm0 h2] at q
 rw [fz_v] at q
 exact q
theorem psub_n (b : Bool) (n s : Int) (c : Bool) (m t : Int) (w : World) (hn0 : 0 ≤ n) (hn : n < MM) (hm0 : 0 ≤ m) (hm : m < MM) (h1 : ck b n s = 0) (h2 : ck c m t = 0) : Calls Tryz.prog 60 #[dc b n s, dc c m t] w fun e9 w' => e9 = .returned (subR b n s c m t).v ∧ Mo w w' := by
 have q := sub_z (sgn b n) s (sgn c m) t w (by rw [(dz_sgn hn0 h1).2]; exact hn) (by rw [(dz_sgn hm0 h2).2]; exact hm) (ck_s h1) (ck_s h2)
 rw [dzq hn0 h1, dzq hm0 h2] at q
 rw [fz_v] at q
 exact q
theorem pcmp_n (b : Bool) (n s : Int) (c : Bool) (m t : Int) (w : World) (hn0 : 0 ≤ n) (hn : n < MM) (hm0 : 0 ≤ m) (hm : m < MM) (h1 : ck b n s = 0) (h2 : ck c m t = 0) : Calls Tryz.prog 63 #[dc b n s, dc c m t] w fun e9 w' => e9 = .returned (.int .i64 (cmpR b n s c m t)) ∧ Mo w w' := by
 have q := cmp_z (sgn b n) s (sgn c m) t w (by rw [(dz_sgn hn0 h1).2]; exact hn) (by rw [(dz_sgn hm0 h2).2]; exact hm) (ck_s h1) (ck_s h2)
 rw [dzq hn0 h1, dzq hm0 h2] at q
 exact q
theorem pmul_n (b : Bool) (n s : Int) (c : Bool) (m t : Int) (w : World) (hn0 : 0 ≤ n) (hn : n < MM) (hm0 : 0 ≤ m) (hm : m < MM) (h1 : ck b n s = 0) (h2 : ck c m t = 0) : Calls Tryz.prog 61 #[dc b n s, dc c m t, .int .i64 (min (s + t) 18), .int .i64 2] w fun e9 w' => e9 = .returned (mulR b n s c m t).v ∧ Mo w w' := by
 obtain ⟨a0, a1⟩ := sc_iff.1 (ck_s h1)
 obtain ⟨b0, b1⟩ := sc_iff.1 (ck_s h2)
 have q := mulTo_x b c n m s t (min (s + t) 18) 2 w hn0 hn hm0 hm h1 h2 ⟨a0, a1⟩ ⟨b0, b1⟩ (sc_iff.2 ⟨by omega, by omega⟩) (by decide) (by decide)
 rw [fx_v] at q
 exact q
theorem addst {s t c : Int} (h : s + t = c) (h0 : 0 ≤ c) (h1 : c ≤ 36) (x y : Operand) (w : World) : (do eqGuard .add 3 x y (.int .i64 s) (.int .i64 t); binOp .add 3 (.int .i64 s) (.int .i64 t)).run Tryz.prog w = .ok (.int .i64 c) w := by
 have q : IntKind.i64.wrap (s + t) = c := by rw [IntKind.wrap_i64]; omega
 simp [go_sem, q]
theorem min_a (ρ : Operand → Value) (x : Operand) (a : Int) (hx : ρ x = .int .i64 a) (hc : ρ (.const (.int .i64 18)) = .int .i64 18) (ats : Array TypeId) (dst : Option Tmp) (type : TypeId) (pos : String) (after : Array Edge) (guard : Option (Nat × Bool)) (w : World) : (execOp ρ { dst, op := .call { callee := .builtin .min, args := #[x, .const (.int .i64 18)], argTypes := ats }, type, pos, after, guard }).run Tryz.prog w = .ok (.value (.int .i64 (min a 18))) w := by
 have q : (if (18 : Int) < a then 18 else a) = min a 18 := by split <;> omega
 simp [go_sem, hx, hc, Builtin.min_, Builtin.min2, q]
theorem nums_n (op : Int) (b : Bool) (n s : Int) (c : Bool) (m t : Int) (w : World) (hn0 : 0 ≤ n) (hn : n < MM) (hm0 : 0 ≤ m) (hm : m < MM) (h1 : ck b n s = 0) (h2 : ck c m t = 0) : Calls Tryz.prog 32 #[.int .i64 op, dc b n s, dc c m t] w fun e9 w' => e9 = .returned (opN op b n s c m t).v ∧ Mo w w' := by
 refine w_enter 43 Tryz.func32 Tryz.ntmps32 rfl rfl ?_
 have M : Mo w w := Mo.refl _
 refine w_seq (w_reg ?_)
 refine wl_box 26 (.tmp 1) _ (#[.bool b, .int .u64 (l0 n), .int .u64 (l1 n), .int .u64 (l2 n), .int .u64 (l3 n), .int .i64 s]) rfl rfl (fun _ => by kernel_rfl) rfl ?_
 intro k1 u1 hk hz hq Q1
 have N_k1 : w.heap.size ≤ k1 := by have := M.size; omega
 replace M := M.trans hq
 clear hk hz hq
 refine wl_box 26 (.tmp 2) _ (#[.bool c, .int .u64 (l0 m), .int .u64 (l1 m), .int .u64 (l2 m), .int .u64 (l3 m), .int .i64 t]) rfl rfl (fun _ => by kernel_rfl) rfl ?_
 intro k2 u2 hk hz hq Q2
 have ne_k1_k2 : k1 ≠ k2 := by have := Q1.lt; omega
 have N_k2 : w.heap.size ≤ k2 := by have := M.size; omega
 replace Q1 := Q1.mo hq
 replace M := M.trans hq
 clear hk hz hq
 refine wl_alloc 28 #[.int .i64 0, .bool false, .int .u64 0, .int .u64 0, .int .u64 0, .int .u64 0, .int .i64 0, .bool false, .string ⟨#[]⟩, .int .i64 0] rfl (fun _ => by kernel_rfl) rfl ?_
 intro k3 u3 hk hz hq Q3
 have ne_k1_k3 : k1 ≠ k3 := by have := Q1.lt; omega
 have ne_k2_k3 : k2 ≠ k3 := by have := Q2.lt; omega
 have N_k3 : w.heap.size ≤ k3 := by have := M.size; omega
 replace Q1 := Q1.mo hq
 replace Q2 := Q2.mo hq
 replace M := M.trans hq
 clear hk hz hq
 refine w_nil (xn_then (w_seq (w_seq (w_reg ?_))))
 refine wl_m (.tmp 0) (.int .i64 (op)) ?_
 refine w_nil (xn_then (w_block (w_seq (w_reg ?_))))
 cases hf0 : decide (op = 1) with
 | true =>
  have hf0p := of_decide_eq_true hf0
  refine wl_b .eql 3 (.tmp 7) (.const (.int .i64 (1))) (.int .i64 (op)) (.int .i64 (1)) (.bool true) (eq3 hf0 _ _ _) ?_
  refine wl_m (.tmp 9) (.bool true) ?_
  refine w_nil (xn_then (w_condT rfl (w_seq (w_reg ?_))))
  refine wl_l 26 (.tmp 4) (pt k1 0) (.agg #[.bool b, .int .u64 (l0 n), .int .u64 (l1 n), .int .u64 (l2 n), .int .u64 (l3 n), .int .i64 s]) (run_row Q1 26 0 6 _ rfl Tryz.underlying26 rfl sz26) ?_
  refine wl_l 26 (.tmp 5) (pt k2 0) (.agg #[.bool c, .int .u64 (l0 m), .int .u64 (l1 m), .int .u64 (l2 m), .int .u64 (l3 m), .int .i64 t]) (run_row Q2 26 0 6 _ rfl Tryz.underlying26 rfl sz26) ?_
  refine wl_call 59 [(.tmp 10), (.tmp 11)] _ [.agg #[.bool b, .int .u64 (l0 n), .int .u64 (l1 n), .int .u64 (l2 n), .int .u64 (l3 n), .int .i64 s], .agg #[.bool c, .int .u64 (l0 m), .int .u64 (l1 m), .int .u64 (l2 m), .int .u64 (l3 m), .int .i64 t]] (.tuple #[.agg #[.bool (addR b n s c m t).b, .int .u64 (l0 (addR b n s c m t).n), .int .u64 (l1 (addR b n s c m t).n), .int .u64 (l2 (addR b n s c m t).n), .int .u64 (l3 (addR b n s c m t).n), .int .i64 (addR b n s c m t).s], .int .i64 ((addR b n s c m t).e)]) rfl rfl (fun _ _ => by kernel_rfl) (padd_n b n s c m t _ hn0 hn hm0 hm h1 h2) rfl ?_
  intro u4 hq
  replace Q1 := Q1.mo hq
  replace Q2 := Q2.mo hq
  replace Q3 := Q3.mo hq
  replace M := M.trans hq
  clear hq
  refine wl_un (fun v => Instr.extract v 0) (.tmp 12) (.tuple #[.agg #[.bool (addR b n s c m t).b, .int .u64 (l0 (addR b n s c m t).n), .int .u64 (l1 (addR b n s c m t).n), .int .u64 (l2 (addR b n s c m t).n), .int .u64 (l3 (addR b n s c m t).n), .int .i64 (addR b n s c m t).s], .int .i64 ((addR b n s c m t).e)]) (.agg #[.bool (addR b n s c m t).b, .int .u64 (l0 (addR b n s c m t).n), .int .u64 (l1 (addR b n s c m t).n), .int .u64 (l2 (addR b n s c m t).n), .int .u64 (l3 (addR b n s c m t).n), .int .i64 (addR b n s c m t).s]) (fun _ => rfl) rfl (by kernel_rfl) rfl ?_
  refine wl_un (fun v => Instr.extract v 1) (.tmp 12) (.tuple #[.agg #[.bool (addR b n s c m t).b, .int .u64 (l0 (addR b n s c m t).n), .int .u64 (l1 (addR b n s c m t).n), .int .u64 (l2 (addR b n s c m t).n), .int .u64 (l3 (addR b n s c m t).n), .int .i64 (addR b n s c m t).s], .int .i64 ((addR b n s c m t).e)]) (.int .i64 ((addR b n s c m t).e)) (fun _ => rfl) rfl (by kernel_rfl) rfl ?_
  refine wl_call 45 [(.tmp 13), (.tmp 14)] _ [.agg #[.bool (addR b n s c m t).b, .int .u64 (l0 (addR b n s c m t).n), .int .u64 (l1 (addR b n s c m t).n), .int .u64 (l2 (addR b n s c m t).n), .int .u64 (l3 (addR b n s c m t).n), .int .i64 (addR b n s c m t).s], .int .i64 ((addR b n s c m t).e)] (.agg ((numV (addR b n s c m t)).cells).toArray) rfl rfl (fun _ _ => by kernel_rfl) (number_n (addR b n s c m t) _) rfl ?_
  intro u5 hq
  replace Q1 := Q1.mo hq
  replace Q2 := Q2.mo hq
  replace Q3 := Q3.mo hq
  replace M := M.trans hq
  clear hq
  refine wl_st 28 (.tmp 6) (.tmp 15) k3 0 (((numV (addR b n s c m t)).cells).toArray) _ ((numV (addR b n s c m t)).cells) Q3 rfl rfl rfl rfl rfl sz28 rfl rfl rfl ?_
  intro u6 hS Qn
  replace Q3 := Qn
  clear Qn
  replace Q1 := hS.other _ _ ne_k1_k3 Q1
  replace Q2 := hS.other _ _ ne_k2_k3 Q2
  replace M := hS.mo _ N_k3 M
  clear hS
  refine w_nil (xn_then (w_ret (xr_blk (xr_then ?_))))
  exact w_ret1 _ (.agg ((numV (addR b n s c m t)).cells).toArray) rfl ⟨k3, rfl, (run_row Q3 28 0 10 ((numV (addR b n s c m t)).cells) rfl Tryz.underlying28 rfl sz28)⟩ ⟨vrt (x := (numV (addR b n s c m t))) rfl (by simp [opN, hf0p]), M⟩
 | false =>
  have hf0p := of_decide_eq_false hf0
  refine wl_b .eql 3 (.tmp 7) (.const (.int .i64 (1))) (.int .i64 (op)) (.int .i64 (1)) (.bool false) (eq3 hf0 _ _ _) ?_
  refine wl_m (.tmp 9) (.bool false) ?_
  refine w_nil (xn_then (w_condF rfl (w_seq (w_reg ?_))))
  cases hf1 : decide (op = 2) with
  | true =>
   have hf1p := of_decide_eq_true hf1
   refine wl_b .eql 3 (.tmp 7) (.const (.int .i64 (2))) (.int .i64 (op)) (.int .i64 (2)) (.bool true) (eq3 hf1 _ _ _) ?_
   refine wl_m (.tmp 17) (.bool true) ?_
   refine w_nil (xn_then (w_condT rfl (w_seq (w_reg ?_))))
   refine wl_l 26 (.tmp 4) (pt k1 0) (.agg #[.bool b, .int .u64 (l0 n), .int .u64 (l1 n), .int .u64 (l2 n), .int .u64 (l3 n), .int .i64 s]) (run_row Q1 26 0 6 _ rfl Tryz.underlying26 rfl sz26) ?_
   refine wl_l 26 (.tmp 5) (pt k2 0) (.agg #[.bool c, .int .u64 (l0 m), .int .u64 (l1 m), .int .u64 (l2 m), .int .u64 (l3 m), .int .i64 t]) (run_row Q2 26 0 6 _ rfl Tryz.underlying26 rfl sz26) ?_
   refine wl_call 60 [(.tmp 18), (.tmp 19)] _ [.agg #[.bool b, .int .u64 (l0 n), .int .u64 (l1 n), .int .u64 (l2 n), .int .u64 (l3 n), .int .i64 s], .agg #[.bool c, .int .u64 (l0 m), .int .u64 (l1 m), .int .u64 (l2 m), .int .u64 (l3 m), .int .i64 t]] (.tuple #[.agg #[.bool (subR b n s c m t).b, .int .u64 (l0 (subR b n s c m t).n), .int .u64 (l1 (subR b n s c m t).n), .int .u64 (l2 (subR b n s c m t).n), .int .u64 (l3 (subR b n s c m t).n), .int .i64 (subR b n s c m t).s], .int .i64 ((subR b n s c m t).e)]) rfl rfl (fun _ _ => by kernel_rfl) (psub_n b n s c m t _ hn0 hn hm0 hm h1 h2) rfl ?_
   intro u4 hq
   replace Q1 := Q1.mo hq
   replace Q2 := Q2.mo hq
   replace Q3 := Q3.mo hq
   replace M := M.trans hq
   clear hq
   refine wl_un (fun v => Instr.extract v 0) (.tmp 20) (.tuple #[.agg #[.bool (subR b n s c m t).b, .int .u64 (l0 (subR b n s c m t).n), .int .u64 (l1 (subR b n s c m t).n), .int .u64 (l2 (subR b n s c m t).n), .int .u64 (l3 (subR b n s c m t).n), .int .i64 (subR b n s c m t).s], .int .i64 ((subR b n s c m t).e)]) (.agg #[.bool (subR b n s c m t).b, .int .u64 (l0 (subR b n s c m t).n), .int .u64 (l1 (subR b n s c m t).n), .int .u64 (l2 (subR b n s c m t).n), .int .u64 (l3 (subR b n s c m t).n), .int .i64 (subR b n s c m t).s]) (fun _ => rfl) rfl (by kernel_rfl) rfl ?_
   refine wl_un (fun v => Instr.extract v 1) (.tmp 20) (.tuple #[.agg #[.bool (subR b n s c m t).b, .int .u64 (l0 (subR b n s c m t).n), .int .u64 (l1 (subR b n s c m t).n), .int .u64 (l2 (subR b n s c m t).n), .int .u64 (l3 (subR b n s c m t).n), .int .i64 (subR b n s c m t).s], .int .i64 ((subR b n s c m t).e)]) (.int .i64 ((subR b n s c m t).e)) (fun _ => rfl) rfl (by kernel_rfl) rfl ?_
   refine wl_call 45 [(.tmp 21), (.tmp 22)] _ [.agg #[.bool (subR b n s c m t).b, .int .u64 (l0 (subR b n s c m t).n), .int .u64 (l1 (subR b n s c m t).n), .int .u64 (l2 (subR b n s c m t).n), .int .u64 (l3 (subR b n s c m t).n), .int .i64 (subR b n s c m t).s], .int .i64 ((subR b n s c m t).e)] (.agg ((numV (subR b n s c m t)).cells).toArray) rfl rfl (fun _ _ => by kernel_rfl) (number_n (subR b n s c m t) _) rfl ?_
   intro u5 hq
   replace Q1 := Q1.mo hq
   replace Q2 := Q2.mo hq
   replace Q3 := Q3.mo hq
   replace M := M.trans hq
   clear hq
   refine wl_st 28 (.tmp 6) (.tmp 23) k3 0 (((numV (subR b n s c m t)).cells).toArray) _ ((numV (subR b n s c m t)).cells) Q3 rfl rfl rfl rfl rfl sz28 rfl rfl rfl ?_
   intro u6 hS Qn
   replace Q3 := Qn
   clear Qn
   replace Q1 := hS.other _ _ ne_k1_k3 Q1
   replace Q2 := hS.other _ _ ne_k2_k3 Q2
   replace M := hS.mo _ N_k3 M
   clear hS
   refine w_nil (xn_then (w_ret (xr_blk (xr_then ?_))))
   exact w_ret1 _ (.agg ((numV (subR b n s c m t)).cells).toArray) rfl ⟨k3, rfl, (run_row Q3 28 0 10 ((numV (subR b n s c m t)).cells) rfl Tryz.underlying28 rfl sz28)⟩ ⟨vrt (x := (numV (subR b n s c m t))) rfl (by simp [opN, hf1p]), M⟩
  | false =>
   have hf1p := of_decide_eq_false hf1
   refine wl_b .eql 3 (.tmp 7) (.const (.int .i64 (2))) (.int .i64 (op)) (.int .i64 (2)) (.bool false) (eq3 hf1 _ _ _) ?_
   refine wl_m (.tmp 17) (.bool false) ?_
   refine w_nil (xn_then (w_condF rfl (w_seq (w_reg ?_))))
   cases hf2 : decide (op = 3) with
   | true =>
    have hf2p := of_decide_eq_true hf2
    refine wl_b .eql 3 (.tmp 7) (.const (.int .i64 (3))) (.int .i64 (op)) (.int .i64 (3)) (.bool true) (eq3 hf2 _ _ _) ?_
    refine wl_m (.tmp 25) (.bool true) ?_
    refine w_nil (xn_then (w_condT rfl (w_seq (w_reg ?_))))
    refine wl_l 26 (.tmp 4) (pt k1 0) (.agg #[.bool b, .int .u64 (l0 n), .int .u64 (l1 n), .int .u64 (l2 n), .int .u64 (l3 n), .int .i64 s]) (run_row Q1 26 0 6 _ rfl Tryz.underlying26 rfl sz26) ?_
    refine wl_l 26 (.tmp 5) (pt k2 0) (.agg #[.bool c, .int .u64 (l0 m), .int .u64 (l1 m), .int .u64 (l2 m), .int .u64 (l3 m), .int .i64 t]) (run_row Q2 26 0 6 _ rfl Tryz.underlying26 rfl sz26) ?_
    refine wl_f 26 2 (.tmp 4) (pt k1 0) (pt k1 5) ?_
    refine wl_l 3 (.tmp 28) (pt k1 5) (.int .i64 (s)) (run_one Q1 3 5 rfl Tryz.underlying3 rfl) ?_
    refine wl_f 26 2 (.tmp 5) (pt k2 0) (pt k2 5) ?_
    refine wl_l 3 (.tmp 30) (pt k2 5) (.int .i64 (t)) (run_one Q2 3 5 rfl Tryz.underlying3 rfl) ?_
    refine wl_b .add 3 (.tmp 29) (.tmp 31) (.int .i64 (s)) (.int .i64 (t)) (.int .i64 (s + t)) (addst rfl (by have := sc_iff.1 (ck_s h1); have := sc_iff.1 (ck_s h2); omega) (by have := sc_iff.1 (ck_s h1); have := sc_iff.1 (ck_s h2); omega) _ _ _) ?_
    refine wl_val (.int .i64 (min (s + t) 18)) (min_a _ _ _ (by exact rfl) rfl _ _ _ _ _ _ _) rfl ?_
    refine wl_call 61 [(.tmp 26), (.tmp 27), (.tmp 33), (.const (.int .i64 (2)))] _ [.agg #[.bool b, .int .u64 (l0 n), .int .u64 (l1 n), .int .u64 (l2 n), .int .u64 (l3 n), .int .i64 s], .agg #[.bool c, .int .u64 (l0 m), .int .u64 (l1 m), .int .u64 (l2 m), .int .u64 (l3 m), .int .i64 t], .int .i64 (min (s + t) 18), .int .i64 (2)] (.tuple #[.agg #[.bool (mulR b n s c m t).b, .int .u64 (l0 (mulR b n s c m t).n), .int .u64 (l1 (mulR b n s c m t).n), .int .u64 (l2 (mulR b n s c m t).n), .int .u64 (l3 (mulR b n s c m t).n), .int .i64 (mulR b n s c m t).s], .int .i64 ((mulR b n s c m t).e)]) rfl rfl (fun _ _ => by kernel_rfl) (pmul_n b n s c m t _ hn0 hn hm0 hm h1 h2) rfl ?_
    intro u4 hq
    replace Q1 := Q1.mo hq
    replace Q2 := Q2.mo hq
    replace Q3 := Q3.mo hq
    replace M := M.trans hq
    clear hq
    refine wl_un (fun v => Instr.extract v 0) (.tmp 34) (.tuple #[.agg #[.bool (mulR b n s c m t).b, .int .u64 (l0 (mulR b n s c m t).n), .int .u64 (l1 (mulR b n s c m t).n), .int .u64 (l2 (mulR b n s c m t).n), .int .u64 (l3 (mulR b n s c m t).n), .int .i64 (mulR b n s c m t).s], .int .i64 ((mulR b n s c m t).e)]) (.agg #[.bool (mulR b n s c m t).b, .int .u64 (l0 (mulR b n s c m t).n), .int .u64 (l1 (mulR b n s c m t).n), .int .u64 (l2 (mulR b n s c m t).n), .int .u64 (l3 (mulR b n s c m t).n), .int .i64 (mulR b n s c m t).s]) (fun _ => rfl) rfl (by kernel_rfl) rfl ?_
    refine wl_un (fun v => Instr.extract v 1) (.tmp 34) (.tuple #[.agg #[.bool (mulR b n s c m t).b, .int .u64 (l0 (mulR b n s c m t).n), .int .u64 (l1 (mulR b n s c m t).n), .int .u64 (l2 (mulR b n s c m t).n), .int .u64 (l3 (mulR b n s c m t).n), .int .i64 (mulR b n s c m t).s], .int .i64 ((mulR b n s c m t).e)]) (.int .i64 ((mulR b n s c m t).e)) (fun _ => rfl) rfl (by kernel_rfl) rfl ?_
    refine wl_call 45 [(.tmp 35), (.tmp 36)] _ [.agg #[.bool (mulR b n s c m t).b, .int .u64 (l0 (mulR b n s c m t).n), .int .u64 (l1 (mulR b n s c m t).n), .int .u64 (l2 (mulR b n s c m t).n), .int .u64 (l3 (mulR b n s c m t).n), .int .i64 (mulR b n s c m t).s], .int .i64 ((mulR b n s c m t).e)] (.agg ((numV (mulR b n s c m t)).cells).toArray) rfl rfl (fun _ _ => by kernel_rfl) (number_n (mulR b n s c m t) _) rfl ?_
    intro u5 hq
    replace Q1 := Q1.mo hq
    replace Q2 := Q2.mo hq
    replace Q3 := Q3.mo hq
    replace M := M.trans hq
    clear hq
    refine wl_st 28 (.tmp 6) (.tmp 37) k3 0 (((numV (mulR b n s c m t)).cells).toArray) _ ((numV (mulR b n s c m t)).cells) Q3 rfl rfl rfl rfl rfl sz28 rfl rfl rfl ?_
    intro u6 hS Qn
    replace Q3 := Qn
    clear Qn
    replace Q1 := hS.other _ _ ne_k1_k3 Q1
    replace Q2 := hS.other _ _ ne_k2_k3 Q2
    replace M := hS.mo _ N_k3 M
    clear hS
    refine w_nil (xn_then (w_ret (xr_blk (xr_then ?_))))
    exact w_ret1 _ (.agg ((numV (mulR b n s c m t)).cells).toArray) rfl ⟨k3, rfl, (run_row Q3 28 0 10 ((numV (mulR b n s c m t)).cells) rfl Tryz.underlying28 rfl sz28)⟩ ⟨vrt (x := (numV (mulR b n s c m t))) rfl (by simp [opN, hf2p]), M⟩
   | false =>
    have hf2p := of_decide_eq_false hf2
    refine wl_b .eql 3 (.tmp 7) (.const (.int .i64 (3))) (.int .i64 (op)) (.int .i64 (3)) (.bool false) (eq3 hf2 _ _ _) ?_
    refine wl_m (.tmp 25) (.bool false) ?_
    refine w_nil (xn_then (w_condF rfl (w_skip (xn_blk (xn_then (w_seq (w_reg ?_)))))))
    refine wl_m (.tmp 0) (.int .i64 (op)) ?_
    refine wl_l 26 (.tmp 4) (pt k1 0) (.agg #[.bool b, .int .u64 (l0 n), .int .u64 (l1 n), .int .u64 (l2 n), .int .u64 (l3 n), .int .i64 s]) (run_row Q1 26 0 6 _ rfl Tryz.underlying26 rfl sz26) ?_
    refine wl_l 26 (.tmp 5) (pt k2 0) (.agg #[.bool c, .int .u64 (l0 m), .int .u64 (l1 m), .int .u64 (l2 m), .int .u64 (l3 m), .int .i64 t]) (run_row Q2 26 0 6 _ rfl Tryz.underlying26 rfl sz26) ?_
    refine wl_call 63 [(.tmp 39), (.tmp 40)] _ [.agg #[.bool b, .int .u64 (l0 n), .int .u64 (l1 n), .int .u64 (l2 n), .int .u64 (l3 n), .int .i64 s], .agg #[.bool c, .int .u64 (l0 m), .int .u64 (l1 m), .int .u64 (l2 m), .int .u64 (l3 m), .int .i64 t]] (.int .i64 (cmpR b n s c m t)) rfl rfl (fun _ _ => by kernel_rfl) (pcmp_n b n s c m t _ hn0 hn hm0 hm h1 h2) rfl ?_
    intro u4 hq
    replace Q1 := Q1.mo hq
    replace Q2 := Q2.mo hq
    replace Q3 := Q3.mo hq
    replace M := M.trans hq
    clear hq
    refine wl_call 62 [(.tmp 38), (.tmp 41)] _ [.int .i64 (op), .int .i64 (cmpR b n s c m t)] (.agg ((ordV op (cmpR b n s c m t)).cells).toArray) rfl rfl (fun _ _ => by kernel_rfl) (ord_n op (cmpR b n s c m t) _) rfl ?_
    intro u5 hq
    replace Q1 := Q1.mo hq
    replace Q2 := Q2.mo hq
    replace Q3 := Q3.mo hq
    replace M := M.trans hq
    clear hq
    refine wl_st 28 (.tmp 6) (.tmp 42) k3 0 (((ordV op (cmpR b n s c m t)).cells).toArray) _ ((ordV op (cmpR b n s c m t)).cells) Q3 rfl rfl rfl rfl rfl sz28 rfl rfl rfl ?_
    intro u6 hS Qn
    replace Q3 := Qn
    clear Qn
    replace Q1 := hS.other _ _ ne_k1_k3 Q1
    replace Q2 := hS.other _ _ ne_k2_k3 Q2
    replace M := hS.mo _ N_k3 M
    clear hS
    refine w_nil (xn_then (w_ret ?_))
    exact w_ret1 _ (.agg ((ordV op (cmpR b n s c m t)).cells).toArray) rfl ⟨k3, rfl, (run_row Q3 28 0 10 ((ordV op (cmpR b n s c m t)).cells) rfl Tryz.underlying28 rfl sz28)⟩ ⟨vrt (x := (ordV op (cmpR b n s c m t))) rfl (by simp [opN, hf0p, hf1p, hf2p]), M⟩
theorem ask2_1 {x y : VL} (h : ask2 x y = 0) : ask x = 0 := by unfold ask2 at h; split at h <;> assumption
theorem ask2_2 {x y : VL} (h : ask2 x y = 0) : ask y = 0 := by
 have g := ask2_1 h
 unfold ask2 at h; rw [if_pos g] at h; exact h
theorem op_n (op : Int) (x y : VL) (w : World) (hx : x.ok) (hy : y.ok) : Calls Tryz.prog 11 #[.int .i64 op, x.v, y.v] w fun e9 w' => e9 = .returned (opV op x y).v ∧ Mo w w' := by
 refine w_enter 58 Tryz.func11 Tryz.ntmps11 rfl rfl ?_
 have M : Mo w w := Mo.refl _
 refine w_seq (w_reg ?_)
 refine wl_box 28 (.tmp 1) _ (((x.cells).toArray)) rfl rfl (fun _ => by kernel_rfl) rfl ?_
 intro k1 u1 hk hz hq Q1
 have N_k1 : w.heap.size ≤ k1 := by have := M.size; omega
 replace M := M.trans hq
 clear hk hz hq
 refine wl_box 28 (.tmp 2) _ (((y.cells).toArray)) rfl rfl (fun _ => by kernel_rfl) rfl ?_
 intro k2 u2 hk hz hq Q2
 have ne_k1_k2 : k1 ≠ k2 := by have := Q1.lt; omega
 have N_k2 : w.heap.size ≤ k2 := by have := M.size; omega
 replace Q1 := Q1.mo hq
 replace M := M.trans hq
 clear hk hz hq
 refine wl_alloc 28 #[.int .i64 0, .bool false, .int .u64 0, .int .u64 0, .int .u64 0, .int .u64 0, .int .i64 0, .bool false, .string ⟨#[]⟩, .int .i64 0] rfl (fun _ => by kernel_rfl) rfl ?_
 intro k3 u3 hk hz hq Q3
 have ne_k1_k3 : k1 ≠ k3 := by have := Q1.lt; omega
 have ne_k2_k3 : k2 ≠ k3 := by have := Q2.lt; omega
 have N_k3 : w.heap.size ≤ k3 := by have := M.size; omega
 replace Q1 := Q1.mo hq
 replace Q2 := Q2.mo hq
 replace M := M.trans hq
 clear hk hz hq
 refine w_nil (xn_then (w_seq (w_seq (w_reg ?_))))
 refine wl_l 28 (.tmp 4) (pt k1 0) (.agg (x.cells).toArray) (run_row Q1 28 0 10 (x.cells) rfl Tryz.underlying28 rfl sz28) ?_
 refine wl_l 28 (.tmp 5) (pt k2 0) (.agg (y.cells).toArray) (run_row Q2 28 0 10 (y.cells) rfl Tryz.underlying28 rfl sz28) ?_
 refine wl_bs 45 2 [(0, (.tmp 8)), (1, (.tmp 9))] [(0, .agg (x.cells).toArray), (1, .agg (y.cells).toArray)] #[.int .i64 x.k, .bool x.b, .int .u64 (l0 x.n), .int .u64 (l1 x.n), .int .u64 (l2 x.n), .int .u64 (l3 x.n), .int .i64 x.s, .bool x.f, .string x.t, .int .i64 x.e, .int .i64 y.k, .bool y.b, .int .u64 (l0 y.n), .int .u64 (l1 y.n), .int .u64 (l2 y.n), .int .u64 (l3 y.n), .int .i64 y.s, .bool y.f, .string y.t, .int .i64 y.e] 28 rfl rfl (fun _ => by kernel_rfl) rfl ?_
 intro k4 u4 hk hz hq Q4
 have ne_k1_k4 : k1 ≠ k4 := by have := Q1.lt; omega
 have ne_k2_k4 : k2 ≠ k4 := by have := Q2.lt; omega
 have ne_k3_k4 : k3 ≠ k4 := by have := Q3.lt; omega
 have N_k4 : w.heap.size ≤ k4 := by have := M.size; omega
 replace Q1 := Q1.mo hq
 replace Q2 := Q2.mo hq
 replace Q3 := Q3.mo hq
 replace M := M.trans hq
 clear hk hz hq
 refine wl_call 31 [(.tmp 10)] _ [.slice (some ⟨k4, 0, none⟩) 2 2] (.int .i64 (ask2 x y)) rfl rfl (fun _ _ => by kernel_rfl) (fault2_n x y k4 _ Q4 hx hy) rfl ?_
 intro u5 hq
 replace Q1 := Q1.mo hq
 replace Q2 := Q2.mo hq
 replace Q3 := Q3.mo hq
 replace Q4 := Q4.mo hq
 replace M := M.trans hq
 clear hq
 refine wl_m (.tmp 11) (.int .i64 (ask2 x y)) ?_
 refine w_nil (xn_then (w_seq (w_reg ?_)))
 refine wl_m (.tmp 7) (.int .i64 (ask2 x y)) ?_
 cases hf0 : decide (ask2 x y = 0) with
 | true =>
  have hf0p := of_decide_eq_true hf0
  refine wl_b .neq 3 (.tmp 12) (.const (.int .i64 (0))) (.int .i64 (ask2 x y)) (.int .i64 (0)) (.bool false) (ne3 hf0 _ _ _) ?_
  refine w_nil (xn_then (w_condF rfl (w_skip (xn_then (w_seq (w_block (w_seq (w_reg ?_))))))))
  refine wl_f 28 0 (.tmp 4) (pt k1 0) (pt k1 0) ?_
  refine wl_l 3 (.tmp 17) (pt k1 0) (.int .i64 (x.k)) (run_one Q1 3 0 rfl Tryz.underlying3 rfl) ?_
  refine wl_f 28 0 (.tmp 5) (pt k2 0) (pt k2 0) ?_
  refine wl_l 3 (.tmp 19) (pt k2 0) (.int .i64 (y.k)) (run_one Q2 3 0 rfl Tryz.underlying3 rfl) ?_
  cases hf1 : decide (x.k = y.k) with
  | true =>
   have hf1p := of_decide_eq_true hf1
   refine wl_b .neq 3 (.tmp 18) (.tmp 20) (.int .i64 (x.k)) (.int .i64 (y.k)) (.bool false) (ne3 hf1 _ _ _) ?_
   refine wl_m (.tmp 21) (.bool false) ?_
   refine w_nil (xn_then (w_condF rfl (w_seq (w_reg ?_))))
   refine wl_f 28 0 (.tmp 4) (pt k1 0) (pt k1 0) ?_
   refine wl_l 3 (.tmp 24) (pt k1 0) (.int .i64 (x.k)) (run_one Q1 3 0 rfl Tryz.underlying3 rfl) ?_
   cases hf2 : decide (x.k = 1) with
   | true =>
    have hf2p := of_decide_eq_true hf2
    refine wl_b .eql 3 (.tmp 25) (.const (.int .i64 (1))) (.int .i64 (x.k)) (.int .i64 (1)) (.bool true) (eq3 hf2 _ _ _) ?_
    refine wl_m (.tmp 26) (.bool true) ?_
    refine w_nil (xn_then (w_condT rfl (w_seq (w_reg ?_))))
    refine wl_m (.tmp 0) (.int .i64 (op)) ?_
    refine wl_f 28 1 (.tmp 4) (pt k1 0) (pt k1 1) ?_
    refine wl_l 26 (.tmp 28) (pt k1 1) (.agg #[.bool x.b, .int .u64 (l0 x.n), .int .u64 (l1 x.n), .int .u64 (l2 x.n), .int .u64 (l3 x.n), .int .i64 x.s]) (run_row Q1 26 1 6 _ rfl Tryz.underlying26 rfl sz26) ?_
    refine wl_f 28 1 (.tmp 5) (pt k2 0) (pt k2 1) ?_
    refine wl_l 26 (.tmp 30) (pt k2 1) (.agg #[.bool y.b, .int .u64 (l0 y.n), .int .u64 (l1 y.n), .int .u64 (l2 y.n), .int .u64 (l3 y.n), .int .i64 y.s]) (run_row Q2 26 1 6 _ rfl Tryz.underlying26 rfl sz26) ?_
    refine wl_call 32 [(.tmp 27), (.tmp 29), (.tmp 31)] _ [.int .i64 (op), .agg #[.bool x.b, .int .u64 (l0 x.n), .int .u64 (l1 x.n), .int .u64 (l2 x.n), .int .u64 (l3 x.n), .int .i64 x.s], .agg #[.bool y.b, .int .u64 (l0 y.n), .int .u64 (l1 y.n), .int .u64 (l2 y.n), .int .u64 (l3 y.n), .int .i64 y.s]] (.agg ((opN op x.b x.n x.s y.b y.n y.s).cells).toArray) rfl rfl (fun _ _ => by kernel_rfl) (nums_n op x.b x.n x.s y.b y.n y.s _ hx.1 hx.2 hy.1 hy.2 (ckv_num hx (ask_0 hx (ask2_1 (by assumption))).1 (by assumption)).2 (ckv_num hy (ask_0 hy (ask2_2 (by assumption))).1 (by simp_all)).2) rfl ?_
    intro u6 hq
    replace Q1 := Q1.mo hq
    replace Q2 := Q2.mo hq
    replace Q3 := Q3.mo hq
    replace Q4 := Q4.mo hq
    replace M := M.trans hq
    clear hq
    refine wl_st 28 (.tmp 6) (.tmp 32) k3 0 (((opN op x.b x.n x.s y.b y.n y.s).cells).toArray) _ ((opN op x.b x.n x.s y.b y.n y.s).cells) Q3 rfl rfl rfl rfl rfl sz28 rfl rfl rfl ?_
    intro u7 hS Qn
    replace Q3 := Qn
    clear Qn
    replace Q1 := hS.other _ _ ne_k1_k3 Q1
    replace Q2 := hS.other _ _ ne_k2_k3 Q2
    replace Q4 := hS.other _ _ ne_k3_k4.symm Q4
    replace M := hS.mo _ N_k3 M
    clear hS
    refine w_nil (xn_then (w_ret (xr_blk (xr_then ?_))))
    exact w_ret1 _ (.agg ((opN op x.b x.n x.s y.b y.n y.s).cells).toArray) rfl ⟨k3, rfl, (run_row Q3 28 0 10 ((opN op x.b x.n x.s y.b y.n y.s).cells) rfl Tryz.underlying28 rfl sz28)⟩ ⟨vrt (x := (opN op x.b x.n x.s y.b y.n y.s)) rfl (by simp [opV, if_pos hf0p, if_pos hf1p, if_pos hf2p]), M⟩
   | false =>
    have hf2p := of_decide_eq_false hf2
    refine wl_b .eql 3 (.tmp 25) (.const (.int .i64 (1))) (.int .i64 (x.k)) (.int .i64 (1)) (.bool false) (eq3 hf2 _ _ _) ?_
    refine wl_m (.tmp 26) (.bool false) ?_
    refine w_nil (xn_then (w_condF rfl (w_seq (w_reg ?_))))
    refine wl_m (.tmp 0) (.int .i64 (op)) ?_
    cases hf3 : decide (op = 4) with
    | true =>
     have hf3p := of_decide_eq_true hf3
     refine wl_b .eql 3 (.tmp 34) (.const (.int .i64 (4))) (.int .i64 (op)) (.int .i64 (4)) (.bool true) (eq3 hf3 _ _ _) ?_
     refine wl_m (.tmp 35) (.bool true) ?_
     refine w_nil (xn_then (w_condT rfl (w_seq (w_reg ?_))))
     refine wl_l 28 (.tmp 4) (pt k1 0) (.agg (x.cells).toArray) (run_row Q1 28 0 10 (x.cells) rfl Tryz.underlying28 rfl sz28) ?_
     refine wl_l 28 (.tmp 5) (pt k2 0) (.agg (y.cells).toArray) (run_row Q2 28 0 10 (y.cells) rfl Tryz.underlying28 rfl sz28) ?_
     cases hf4 : svv x y with
     | true =>
      refine wl_b .eql 28 (.tmp 36) (.tmp 37) (.agg (x.cells).toArray) (.agg (y.cells).toArray) (.bool true) (eqW hf4 _ _ _) ?_
      refine wl_call 33 [(.tmp 38)] _ [.bool true] (.agg ((vFl true).cells).toArray) rfl rfl (fun _ _ => by kernel_rfl) (flag_n true _) rfl ?_
      intro u6 hq
      replace Q1 := Q1.mo hq
      replace Q2 := Q2.mo hq
      replace Q3 := Q3.mo hq
      replace Q4 := Q4.mo hq
      replace M := M.trans hq
      clear hq
      refine wl_st 28 (.tmp 6) (.tmp 39) k3 0 (((vFl true).cells).toArray) _ ((vFl true).cells) Q3 rfl rfl rfl rfl rfl sz28 rfl rfl rfl ?_
      intro u7 hS Qn
      replace Q3 := Qn
      clear Qn
      replace Q1 := hS.other _ _ ne_k1_k3 Q1
      replace Q2 := hS.other _ _ ne_k2_k3 Q2
      replace Q4 := hS.other _ _ ne_k3_k4.symm Q4
      replace M := hS.mo _ N_k3 M
      clear hS
      refine w_nil (xn_then (w_ret (xr_blk (xr_then ?_))))
      exact w_ret1 _ (.agg ((vFl true).cells).toArray) rfl ⟨k3, rfl, (run_row Q3 28 0 10 ((vFl true).cells) rfl Tryz.underlying28 rfl sz28)⟩ ⟨vrt (x := (vFl true)) rfl (by simp [opV, if_pos hf0p, if_pos hf1p, if_neg hf2p, if_pos hf3p, hf4]), M⟩
     | false =>
      refine wl_b .eql 28 (.tmp 36) (.tmp 37) (.agg (x.cells).toArray) (.agg (y.cells).toArray) (.bool false) (eqW hf4 _ _ _) ?_
      refine wl_call 33 [(.tmp 38)] _ [.bool false] (.agg ((vFl false).cells).toArray) rfl rfl (fun _ _ => by kernel_rfl) (flag_n false _) rfl ?_
      intro u6 hq
      replace Q1 := Q1.mo hq
      replace Q2 := Q2.mo hq
      replace Q3 := Q3.mo hq
      replace Q4 := Q4.mo hq
      replace M := M.trans hq
      clear hq
      refine wl_st 28 (.tmp 6) (.tmp 39) k3 0 (((vFl false).cells).toArray) _ ((vFl false).cells) Q3 rfl rfl rfl rfl rfl sz28 rfl rfl rfl ?_
      intro u7 hS Qn
      replace Q3 := Qn
      clear Qn
      replace Q1 := hS.other _ _ ne_k1_k3 Q1
      replace Q2 := hS.other _ _ ne_k2_k3 Q2
      replace Q4 := hS.other _ _ ne_k3_k4.symm Q4
      replace M := hS.mo _ N_k3 M
      clear hS
      refine w_nil (xn_then (w_ret (xr_blk (xr_then ?_))))
      exact w_ret1 _ (.agg ((vFl false).cells).toArray) rfl ⟨k3, rfl, (run_row Q3 28 0 10 ((vFl false).cells) rfl Tryz.underlying28 rfl sz28)⟩ ⟨vrt (x := (vFl false)) rfl (by simp [opV, if_pos hf0p, if_pos hf1p, if_neg hf2p, if_pos hf3p, hf4]), M⟩
    | false =>
     have hf3p := of_decide_eq_false hf3
     refine wl_b .eql 3 (.tmp 34) (.const (.int .i64 (4))) (.int .i64 (op)) (.int .i64 (4)) (.bool false) (eq3 hf3 _ _ _) ?_
     refine wl_m (.tmp 35) (.bool false) ?_
     refine w_nil (xn_then (w_condF rfl (w_seq (w_reg ?_))))
     refine wl_m (.tmp 0) (.int .i64 (op)) ?_
     cases hf4 : decide (op = 5) with
     | true =>
      have hf4p := of_decide_eq_true hf4
      refine wl_b .eql 3 (.tmp 41) (.const (.int .i64 (5))) (.int .i64 (op)) (.int .i64 (5)) (.bool true) (eq3 hf4 _ _ _) ?_
      refine wl_m (.tmp 42) (.bool true) ?_
      refine w_nil (xn_then (w_condT rfl (w_seq (w_reg ?_))))
      refine wl_l 28 (.tmp 4) (pt k1 0) (.agg (x.cells).toArray) (run_row Q1 28 0 10 (x.cells) rfl Tryz.underlying28 rfl sz28) ?_
      refine wl_l 28 (.tmp 5) (pt k2 0) (.agg (y.cells).toArray) (run_row Q2 28 0 10 (y.cells) rfl Tryz.underlying28 rfl sz28) ?_
      cases hf5 : svv x y with
      | true =>
       refine wl_b .neq 28 (.tmp 43) (.tmp 44) (.agg (x.cells).toArray) (.agg (y.cells).toArray) (.bool false) (neW hf5 _ _ _) ?_
       refine wl_call 33 [(.tmp 45)] _ [.bool false] (.agg ((vFl false).cells).toArray) rfl rfl (fun _ _ => by kernel_rfl) (flag_n false _) rfl ?_
       intro u6 hq
       replace Q1 := Q1.mo hq
       replace Q2 := Q2.mo hq
       replace Q3 := Q3.mo hq
       replace Q4 := Q4.mo hq
       replace M := M.trans hq
       clear hq
       refine wl_st 28 (.tmp 6) (.tmp 46) k3 0 (((vFl false).cells).toArray) _ ((vFl false).cells) Q3 rfl rfl rfl rfl rfl sz28 rfl rfl rfl ?_
       intro u7 hS Qn
       replace Q3 := Qn
       clear Qn
       replace Q1 := hS.other _ _ ne_k1_k3 Q1
       replace Q2 := hS.other _ _ ne_k2_k3 Q2
       replace Q4 := hS.other _ _ ne_k3_k4.symm Q4
       replace M := hS.mo _ N_k3 M
       clear hS
       refine w_nil (xn_then (w_ret (xr_blk (xr_then ?_))))
       exact w_ret1 _ (.agg ((vFl false).cells).toArray) rfl ⟨k3, rfl, (run_row Q3 28 0 10 ((vFl false).cells) rfl Tryz.underlying28 rfl sz28)⟩ ⟨vrt (x := (vFl false)) rfl (by simp [opV, if_pos hf0p, if_pos hf1p, if_neg hf2p, if_neg hf3p, if_pos hf4p, hf5]), M⟩
      | false =>
       refine wl_b .neq 28 (.tmp 43) (.tmp 44) (.agg (x.cells).toArray) (.agg (y.cells).toArray) (.bool true) (neW hf5 _ _ _) ?_
       refine wl_call 33 [(.tmp 45)] _ [.bool true] (.agg ((vFl true).cells).toArray) rfl rfl (fun _ _ => by kernel_rfl) (flag_n true _) rfl ?_
       intro u6 hq
       replace Q1 := Q1.mo hq
       replace Q2 := Q2.mo hq
       replace Q3 := Q3.mo hq
       replace Q4 := Q4.mo hq
       replace M := M.trans hq
       clear hq
       refine wl_st 28 (.tmp 6) (.tmp 46) k3 0 (((vFl true).cells).toArray) _ ((vFl true).cells) Q3 rfl rfl rfl rfl rfl sz28 rfl rfl rfl ?_
       intro u7 hS Qn
       replace Q3 := Qn
       clear Qn
       replace Q1 := hS.other _ _ ne_k1_k3 Q1
       replace Q2 := hS.other _ _ ne_k2_k3 Q2
       replace Q4 := hS.other _ _ ne_k3_k4.symm Q4
       replace M := hS.mo _ N_k3 M
       clear hS
       refine w_nil (xn_then (w_ret (xr_blk (xr_then ?_))))
       exact w_ret1 _ (.agg ((vFl true).cells).toArray) rfl ⟨k3, rfl, (run_row Q3 28 0 10 ((vFl true).cells) rfl Tryz.underlying28 rfl sz28)⟩ ⟨vrt (x := (vFl true)) rfl (by simp [opV, if_pos hf0p, if_pos hf1p, if_neg hf2p, if_neg hf3p, if_pos hf4p, hf5]), M⟩
     | false =>
      have hf4p := of_decide_eq_false hf4
      refine wl_b .eql 3 (.tmp 41) (.const (.int .i64 (5))) (.int .i64 (op)) (.int .i64 (5)) (.bool false) (eq3 hf4 _ _ _) ?_
      refine wl_m (.tmp 42) (.bool false) ?_
      refine w_nil (xn_then (w_condF rfl (w_seq (w_reg ?_))))
      refine wl_f 28 0 (.tmp 4) (pt k1 0) (pt k1 0) ?_
      refine wl_l 3 (.tmp 48) (pt k1 0) (.int .i64 (x.k)) (run_one Q1 3 0 rfl Tryz.underlying3 rfl) ?_
      cases hf5 : decide (x.k = 2) with
      | true =>
       have hf5p := of_decide_eq_true hf5
       refine wl_b .eql 3 (.tmp 49) (.const (.int .i64 (2))) (.int .i64 (x.k)) (.int .i64 (2)) (.bool true) (eq3 hf5 _ _ _) ?_
       refine wl_m (.tmp 50) (.bool true) ?_
       refine w_nil (xn_then (w_condT rfl (w_seq (w_reg ?_))))
       refine wl_m (.tmp 0) (.int .i64 (op)) ?_
       refine wl_f 28 2 (.tmp 4) (pt k1 0) (pt k1 7) ?_
       refine wl_l 4 (.tmp 52) (pt k1 7) (.bool x.f) (run_one Q1 4 7 rfl Tryz.underlying4 rfl) ?_
       refine wl_f 28 2 (.tmp 5) (pt k2 0) (pt k2 7) ?_
       refine wl_l 4 (.tmp 54) (pt k2 7) (.bool y.f) (run_one Q2 4 7 rfl Tryz.underlying4 rfl) ?_
       refine wl_call 34 [(.tmp 51), (.tmp 53), (.tmp 55)] _ [.int .i64 (op), .bool x.f, .bool y.f] (.agg ((opF op x.f y.f).cells).toArray) rfl rfl (fun _ _ => by kernel_rfl) (flags_n op x.f y.f _) rfl ?_
       intro u6 hq
       replace Q1 := Q1.mo hq
       replace Q2 := Q2.mo hq
       replace Q3 := Q3.mo hq
       replace Q4 := Q4.mo hq
       replace M := M.trans hq
       clear hq
       refine wl_st 28 (.tmp 6) (.tmp 56) k3 0 (((opF op x.f y.f).cells).toArray) _ ((opF op x.f y.f).cells) Q3 rfl rfl rfl rfl rfl sz28 rfl rfl rfl ?_
       intro u7 hS Qn
       replace Q3 := Qn
       clear Qn
       replace Q1 := hS.other _ _ ne_k1_k3 Q1
       replace Q2 := hS.other _ _ ne_k2_k3 Q2
       replace Q4 := hS.other _ _ ne_k3_k4.symm Q4
       replace M := hS.mo _ N_k3 M
       clear hS
       refine w_nil (xn_then (w_ret (xr_blk (xr_then ?_))))
       exact w_ret1 _ (.agg ((opF op x.f y.f).cells).toArray) rfl ⟨k3, rfl, (run_row Q3 28 0 10 ((opF op x.f y.f).cells) rfl Tryz.underlying28 rfl sz28)⟩ ⟨vrt (x := (opF op x.f y.f)) rfl (by simp [opV, if_pos hf0p, if_pos hf1p, if_neg hf2p, if_neg hf3p, if_neg hf4p, if_pos hf5p]), M⟩
      | false =>
       have hf5p := of_decide_eq_false hf5
       refine wl_b .eql 3 (.tmp 49) (.const (.int .i64 (2))) (.int .i64 (x.k)) (.int .i64 (2)) (.bool false) (eq3 hf5 _ _ _) ?_
       refine wl_m (.tmp 50) (.bool false) ?_
       refine w_nil (xn_then (w_condF rfl (w_skip (xn_blk (xn_then (w_seq (w_reg ?_)))))))
       refine wl_call 15 [(.const (.int .i64 (2)))] _ [.int .i64 (2)] (.agg ((vBad (2)).cells).toArray) rfl rfl (fun _ _ => by kernel_rfl) (bad_n (2) _) rfl ?_
       intro u6 hq
       replace Q1 := Q1.mo hq
       replace Q2 := Q2.mo hq
       replace Q3 := Q3.mo hq
       replace Q4 := Q4.mo hq
       replace M := M.trans hq
       clear hq
       refine wl_st 28 (.tmp 6) (.tmp 57) k3 0 (((vBad (2)).cells).toArray) _ ((vBad (2)).cells) Q3 rfl rfl rfl rfl rfl sz28 rfl rfl rfl ?_
       intro u7 hS Qn
       replace Q3 := Qn
       clear Qn
       replace Q1 := hS.other _ _ ne_k1_k3 Q1
       replace Q2 := hS.other _ _ ne_k2_k3 Q2
       replace Q4 := hS.other _ _ ne_k3_k4.symm Q4
       replace M := hS.mo _ N_k3 M
       clear hS
       refine w_nil (xn_then (w_ret ?_))
       exact w_ret1 _ (.agg ((vBad (2)).cells).toArray) rfl ⟨k3, rfl, (run_row Q3 28 0 10 ((vBad (2)).cells) rfl Tryz.underlying28 rfl sz28)⟩ ⟨vrt (x := (vBad (2))) rfl (by simp [opV, if_pos hf0p, if_neg hf2p, if_neg hf3p, if_neg hf4p, if_neg hf5p]), M⟩
  | false =>
   have hf1p := of_decide_eq_false hf1
   refine wl_b .neq 3 (.tmp 18) (.tmp 20) (.int .i64 (x.k)) (.int .i64 (y.k)) (.bool true) (ne3 hf1 _ _ _) ?_
   refine wl_m (.tmp 21) (.bool true) ?_
   refine w_nil (xn_then (w_condT rfl (w_seq (w_reg ?_))))
   refine wl_call 15 [(.const (.int .i64 (2)))] _ [.int .i64 (2)] (.agg ((vBad (2)).cells).toArray) rfl rfl (fun _ _ => by kernel_rfl) (bad_n (2) _) rfl ?_
   intro u6 hq
   replace Q1 := Q1.mo hq
   replace Q2 := Q2.mo hq
   replace Q3 := Q3.mo hq
   replace Q4 := Q4.mo hq
   replace M := M.trans hq
   clear hq
   refine wl_st 28 (.tmp 6) (.tmp 22) k3 0 (((vBad (2)).cells).toArray) _ ((vBad (2)).cells) Q3 rfl rfl rfl rfl rfl sz28 rfl rfl rfl ?_
   intro u7 hS Qn
   replace Q3 := Qn
   clear Qn
   replace Q1 := hS.other _ _ ne_k1_k3 Q1
   replace Q2 := hS.other _ _ ne_k2_k3 Q2
   replace Q4 := hS.other _ _ ne_k3_k4.symm Q4
   replace M := hS.mo _ N_k3 M
   clear hS
   refine w_nil (xn_then (w_ret (xr_blk (xr_then ?_))))
   exact w_ret1 _ (.agg ((vBad (2)).cells).toArray) rfl ⟨k3, rfl, (run_row Q3 28 0 10 ((vBad (2)).cells) rfl Tryz.underlying28 rfl sz28)⟩ ⟨vrt (x := (vBad (2))) rfl (by simp [opV, if_pos hf0p, if_neg hf1p]), M⟩
 | false =>
  have hf0p := of_decide_eq_false hf0
  refine wl_b .neq 3 (.tmp 12) (.const (.int .i64 (0))) (.int .i64 (ask2 x y)) (.int .i64 (0)) (.bool true) (ne3 hf0 _ _ _) ?_
  refine w_nil (xn_then (w_condT rfl (w_seq (w_reg ?_))))
  refine wl_m (.tmp 7) (.int .i64 (ask2 x y)) ?_
  refine wl_call 15 [(.tmp 14)] _ [.int .i64 (ask2 x y)] (.agg ((vBad (ask2 x y)).cells).toArray) rfl rfl (fun _ _ => by kernel_rfl) (bad_n (ask2 x y) _) rfl ?_
  intro u6 hq
  replace Q1 := Q1.mo hq
  replace Q2 := Q2.mo hq
  replace Q3 := Q3.mo hq
  replace Q4 := Q4.mo hq
  replace M := M.trans hq
  clear hq
  refine wl_st 28 (.tmp 6) (.tmp 15) k3 0 (((vBad (ask2 x y)).cells).toArray) _ ((vBad (ask2 x y)).cells) Q3 rfl rfl rfl rfl rfl sz28 rfl rfl rfl ?_
  intro u7 hS Qn
  replace Q3 := Qn
  clear Qn
  replace Q1 := hS.other _ _ ne_k1_k3 Q1
  replace Q2 := hS.other _ _ ne_k2_k3 Q2
  replace Q4 := hS.other _ _ ne_k3_k4.symm Q4
  replace M := hS.mo _ N_k3 M
  clear hS
  refine w_nil (xn_then (w_ret (xr_then ?_)))
  exact w_ret1 _ (.agg ((vBad (ask2 x y)).cells).toArray) rfl ⟨k3, rfl, (run_row Q3 28 0 10 ((vBad (ask2 x y)).cells) rfl Tryz.underlying28 rfl sz28)⟩ ⟨vrt (x := (vBad (ask2 x y))) rfl (by simp [opV, if_neg hf0p]), M⟩
end Go.Proofs.YtogomodbcjpfiaaGreatDoor
namespace Go.Proofs.YtogomodbcjpfiaaGreatDoor
open Go.RowKit
theorem cV {g : FuncId} {args : Array Value} {w : World} {x y : VL} (h : x = y) (c : Calls Tryz.prog g args w fun e w' => e = .returned x.v ∧ Mo w w') : Calls Tryz.prog g args w fun e w' => e = .returned y.v ∧ Mo w w' := h ▸ c
def VL.fit (x : VL) : Prop := x.ok ∧ ckv x = true
theorem op_num (op : Int) {x y : VL} (kx : x.k = 1) (ky : y.k = 1) (cx : ckv x = true) (cy : ckv y = true) : opV op x y = opN op x.b x.n x.s y.b y.n y.s := by
 have ax : ask x = 0 := by unfold ask; rw [if_pos cx, if_neg (by omega), if_neg (by omega)]
 have ay : ask y = 0 := by unfold ask; rw [if_pos cy, if_neg (by omega), if_neg (by omega)]
 have a : ask2 x y = 0 := by unfold ask2; rw [if_pos ax, ay]
 unfold opV
 rw [if_pos a, if_pos (by omega), if_pos kx]
end Go.Proofs.YtogomodbcjpfiaaGreatDoor
namespace Go.Proofs.YtogomodbcjpfiaaGreatDoor.V
open Go.RowKit
section
variable {P : Program} {o : Oper} {n : Nat} {l : List (Nat × Value)} {w : World} {ops : Array Oper} {rest : List Oper} {Q : Exit → Act → World → Prop}
theorem wl_callx (g : FuncId) (xs : List Operand) (ats : Array TypeId) (args : List Value) {F : Ending → World → Prop} (ho : o.op = .call { callee := .value (.func g), args := xs.toArray, argTypes := ats }) (hx : xs.map (evl n l) = args)
  (h : ∀ args w, (callFunc g args).run P w = .ok (.enter g args) w)
  (hc : Calls P g args.toArray w F) (hg : wnt n l ops o = true) (hk : ∀ v w', F v w' → ∃ u, v = .returned u ∧ WL P ops Q rest n (ext l o.dst u) w') : WL P ops Q (o :: rest) n l w := by
 have e : (execOp (evl n l) o).run P w = .ok (.enter g args.toArray) w := by
  obtain ⟨dst, op, ty, pos, after, guard⟩ := o
  simp only at ho
  subst ho hx
  have e2 := execOp_call_go (fr n l) dst g xs.toArray ats ty pos after guard
  rw [fr_eval] at e2
  rw [e2, h]
  simp
 refine ⟨l_step hg ?_⟩
 unfold Oper.wp; rw [fr_eval, e, Oper.upon_enter]
 refine hc.mono ?_
 intro e w' hF
 obtain ⟨u, rfl, hW⟩ := hk e w' hF
 show wpList _ _ _ _ _ _
 rw [fr_put]
 exact hW.out
end
section
variable {o : Oper} {n : Nat} {l : List (Nat × Value)} {w : World} {ops : Array Oper} {rest : List Oper} {Q : Exit → Act → World → Prop}
theorem wl_new83 (ho : o.op = .alloc 83) (hg : wnt n l ops o = true) (hk : ∀ k w', w.heap.size = k → Mw w w' → (∀ B, B ≤ k → Lib.IsBuilder 83 5 B k [] w') → WL Tryz.prog ops Q rest n (ext l o.dst (pt k 0)) w') : WL Tryz.prog ops Q (o :: rest) n l w :=
 ⟨l_step hg (o_val (pt w.heap.size 0) (w' := w.alloc (.cells #[.pointer none, .slice none 0 0] 83)) (by unfold execOp; rw [ho]; kernel_rfl) (hk _ _ rfl ((Mw.refl _).alloc _ _) (fun B hB => Or.inl ⟨hB, .slice none 0 0, by show (w.heap.push _)[w.heap.size]? = _; rw [Array.getElem?_push, if_pos rfl], ⟨rfl, .inl ⟨rfl, rfl⟩⟩, by simp [Value.ownBlock]⟩)).out)⟩
end
theorem IB.mw {T e B b : Nat} {bs : List Value} {w w' : World} (h : Lib.IsBuilder T e B b bs w) (m : Mw w w') : Lib.IsBuilder T e B b bs w' := by
 have key : ∀ p, Lib.BuilderAt T e B b p bs w → Lib.BuilderAt T e B b p bs w' := fun p ⟨hB, v, hb, ho, hn⟩ =>
  ⟨hB, v, (m.block b (Array.getElem?_eq_some_iff.1 hb).1).trans hb, ho.kept (row := none) ⟨m.os, m.tape, m.output, m.size, fun k hk _ => m.block k hk⟩ (by cases e : v.ownBlock <;> simp), hn⟩
 rcases h with h | h
 ·exact Or.inl (key _ h)
 ·exact Or.inr (key _ h)
theorem bt_rg (s : ByteArray) (k : Nat) : 0 ≤ bt s k ∧ bt s k ≤ 255 := by
 unfold bt
 split
 ·have := UInt8.toNat_lt s[k]; omega
 ·omega
theorem bc_snoc {L : List UInt8} {c : Int} (h : 0 ≤ c ∧ c ≤ 255) : Lib.byteCells L ++ [.int .u8 c] = Lib.byteCells (L ++ [c.toNat.toUInt8]) := by
 unfold Lib.byteCells
 rw [List.map_append]
 have e : ((c.toNat.toUInt8).toNat : Int) = c := by
  rw [Nat.toUInt8, UInt8.toNat_ofNat']
  omega
 show _ = _ ++ [Value.int .u8 ((c.toNat.toUInt8).toNat : Int)]
 rw [e]
end Go.Proofs.YtogomodbcjpfiaaGreatDoor.V

namespace Go.Proofs.YtogomodbcjpfiaaGreatDoor.V
open Go.RowKit
theorem u8_id (c : UInt8) : ((c.toNat : Nat) : Int).toNat.toUInt8 = c := by
 simp [Nat.toUInt8]
def hx (n : Nat) : UInt8 := if n < 10 then (48 + n).toUInt8 else (87 + n).toUInt8
def qb (c : UInt8) : List UInt8 := if c = 34 ∨ c = 92 then [92, c] else if c < 32 ∨ 126 < c then [92, 120, hx (c.toNat / 16), hx (c.toNat % 16)] else [c]
def qi (l : List UInt8) : List UInt8 := l.flatMap qb
def qt (l : List UInt8) : List UInt8 := 34 :: (qi l ++ [34])
theorem qi_cons (c : UInt8) (l : List UInt8) : qi (c :: l) = qb c ++ qi l := by simp [qi]
theorem qi_app (a b : List UInt8) : qi (a ++ b) = qi a ++ qi b := by simp [qi]
theorem qb_le (c : UInt8) : (qb c).length ≤ 4 := by
 unfold qb; split
 ·simp
 ·split <;> simp
theorem qb_self {c : UInt8} (h34 : ¬ c = 34) (h92 : ¬ c = 92) (hp : prn ((c.toNat : Nat) : Int) = true) : qb c = [c] := by
 unfold prn at hp; simp at hp
 unfold qb
 rw [if_neg (fun h => h.elim h34 h92), if_neg]
 rintro (h | h)
 ·have := UInt8.lt_iff_toNat_lt.1 h; have e : (32 : UInt8).toNat = 32 := rfl; omega
 ·have := UInt8.lt_iff_toNat_lt.1 h; have e : (126 : UInt8).toNat = 126 := rfl; omega
theorem qi_len (l : List UInt8) : (qi l).length ≤ 4 * l.length := by
 induction l with
 | nil => simp [qi]
 | cons c l ih => rw [qi_cons, List.length_append, List.length_cons]; have := qb_le c; omega
end Go.Proofs.YtogomodbcjpfiaaGreatDoor.V

