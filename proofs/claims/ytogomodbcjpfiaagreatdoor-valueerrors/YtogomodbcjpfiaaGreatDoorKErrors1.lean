/-
  A part of the proof.
-/
import Derived.Test.YtogomodbcjpfiaaGreatDoorKa4
import Derived.Test.YtogomodbcjpfiaaGreatDoorKa3
import Derived.Test.YtogomodbcjpfiaaGreatDoorKa2
import Derived.Test.YtogomodbcjpfiaaGreatDoorKa1
import Derived.RegionTactic
import Derived.Test.YtogomodbcjpfiaaGreatDoorProg
import Derived.WalkKit
import Derived.WalkSpells
import Derived.Handy
import Derived.BigQuiet
import Derived.Deep.RegionHeld3
import Derived.Deep.MidRow
import Derived.BigCall
import Derived.Test.YtogomodbcjpfiaaGreatDoorKa17
import Derived.Test.YtogomodbcjpfiaaGreatDoorKa16
import Derived.Test.YtogomodbcjpfiaaGreatDoorKa15
import Derived.Test.YtogomodbcjpfiaaGreatDoorKa14
import Derived.Shelf.Strings.Builder1
import Derived.Shelf.Strings.Builder2
import Derived.Shelf.Small.Bits
import Derived.Shelf.Small.Wraps
import Derived.Shelf.Strings.BuilderF
import Derived.Shelf.Strings.BuilderK
import Derived.Shelf.Strings.Prefix
import Derived.Shelf.Bits.Mul64
import Derived.Shelf.Strings.Repeat
import Derived.Shelf.Strconv.Itoa0
import Derived.Test.YtogomodbcjpfiaaGreatDoorKa11
import Derived.Test.YtogomodbcjpfiaaGreatDoorKa9
import Derived.Test.YtogomodbcjpfiaaGreatDoorKa8
import Derived.Test.YtogomodbcjpfiaaGreatDoorKa5
import Derived.Deep.CutBlock
import Derived.Deep.CutRange
import Derived.Test.YtogomodbcjpfiaaGreatDoorKa7
import Derived.Test.YtogomodbcjpfiaaGreatDoorKa6
import Derived.ChangeKeysEq
import Derived.ScopeJumps
import Derived.WalkMore
import Derived.Laws.StructEq
import Derived.Test.YtogomodbcjpfiaaGreatDoorKa10
import Derived.Test.YtogomodbcjpfiaaGreatDoorKa13
import Derived.Test.YtogomodbcjpfiaaGreatDoorKa12
import Derived.Lib.CutLaws
import Derived.Lib.IndexBytes
import Derived.Maps.OwnSet
import Derived.WalkArith
import Derived.StringKeys
import Derived.Test.YtogomodbcjpfiaaGreatDoorKa18
import Derived.Test.YtogomodbcjpfiaaGreatDoorKa19
import Derived.Test.YtogomodbcjpfiaaGreatDoorKa21
import Derived.Test.YtogomodbcjpfiaaGreatDoorRows
import Derived.Test.YtogomodbcjpfiaaGreatDoorKa20
import Derived.Maps.AppendAt
import Derived.Deep.AppendLies
import Derived.Laws.BytesString
import Derived.Carry
import Derived.ChangeMaps5
import Derived.ChangeSame
import Derived.ChangeVars
import Derived.JoinedOf
import Derived.RowKitTokens
import Derived.LaidLaws
import Derived.LaidHandle
import Derived.Stop.Joined
import Derived.Lib.LaidIn
import Derived.WideKeyArgs
import Derived.Deep.Strs
namespace Go.Proofs.YtogomodbcjpfiaaGreatDoor
open Go.RowKit
section
variable {P : Program} {o : Oper} {n : Nat} {l : List (Nat × Value)} {w : World} {ops : Array Oper} {rest : List Oper} {Q : Exit → Act → World → Prop} {K : Act → World → Prop}
theorem wo_bin (F : Value → Value → Sem Value) (x y : Operand) (p q v : Value) (ho : ∀ ρ, execOp ρ o = (do pure (.value (← F (ρ x) (ρ y))))) (hx : evl n l x = p) (hy : evl n l y = q) (h : (F p q).run P w = .ok v w) (hk : K (fr n (ext l o.dst v)) w) : WO P o n l w K Q := ⟨o_bin F x y p q v ho hx hy h hk⟩
theorem wo_pick (c x y : Operand) (t : Bool) (v : Value) (ho : ∀ ρ, execOp ρ o = (do pure (.value (if ← asBool (ρ c) then ρ x else ρ y)))) (hc : evl n l c = .bool t) (hv : evl n l (bif t then x else y) = v) (hk : K (fr n (ext l o.dst v)) w) : WO P o n l w K Q := ⟨o_pick c x y t v ho hc hv hk⟩
end
end Go.Proofs.YtogomodbcjpfiaaGreatDoor

namespace Go.Proofs.YtogomodbcjpfiaaGreatDoor.V
open Go.RowKit
section
variable {P : Program} {o : Oper} {n : Nat} {l : List (Nat × Value)} {w : World} {ops : Array Oper} {rest : List Oper} {Q : Exit → Act → World → Prop} {K : Act → World → Prop}
theorem wo_bin (F : Value → Value → Sem Value) (x y : Operand) (p q v : Value) (ho : ∀ ρ, execOp ρ o = (do pure (.value (← F (ρ x) (ρ y))))) (hx : evl n l x = p) (hy : evl n l y = q) (h : (F p q).run P w = .ok v w) (hk : K (fr n (ext l o.dst v)) w) : WO P o n l w K Q := ⟨o_bin F x y p q v ho hx hy h hk⟩
theorem wo_pick (c x y : Operand) (t : Bool) (v : Value) (ho : ∀ ρ, execOp ρ o = (do pure (.value (if ← asBool (ρ c) then ρ x else ρ y)))) (hc : evl n l c = .bool t) (hv : evl n l (bif t then x else y) = v) (hk : K (fr n (ext l o.dst v)) w) : WO P o n l w K Q := ⟨o_pick c x y t v ho hc hv hk⟩
end
end Go.Proofs.YtogomodbcjpfiaaGreatDoor.V

namespace Go.Proofs.YtogomodbcjpfiaaGreatDoor
open Go.RowKit Go.ChangeMaps
theorem notb (r : Bool) (w : World) : (Op.unary .not (.bool r)).run Tryz.prog w = .ok (.bool (!r)) w := by kernel_rfl
/-! Maps from names to whole numbers, and from names to flags. -/
variable {w w' : World} {b : Nat} {al : List (ByteArray × Int)}
end Go.Proofs.YtogomodbcjpfiaaGreatDoor

namespace Go.Proofs.YtogomodbcjpfiaaGreatDoor
open Go.RowKit
theorem isE_bad (e : Int) : isE (if isE e then e else 2) = true := by
 split
 ·assumption
 ·rfl
theorem ckv_vEr {e : Int} (h : isE e = true) : ckv (vEr e) = true := by
 have : bareV (vEr e) = vEr e := by unfold bareV vEr; simp
 unfold ckv; rw [this, svv_self]; unfold inB vEr; simp [h]
theorem ckv_vBad (e : Int) : ckv (vBad e) = true := ckv_vEr (isE_bad e)
def askK (k : Int) (v : VL) : Int := if ask v = 0 then (if v.k = k then 0 else 2) else ask v
def negR (b : Bool) (n s : Int) : DR := ⟨!b && !decide (n = 0), n, s, 0⟩
def negV (x : VL) : VL := if askK 1 x = 0 then numV (negR x.b x.n x.s) else vBad (askK 1 x)
def notV (x : VL) : VL := if askK 2 x = 0 then vFl (!x.f) else vBad (askK 2 x)
def mayV (x : VL) : VL := if ckv x then x else vBad 2
def ifV (c x y : VL) : VL := if askK 2 c = 0 then mayV (if c.f then x else y) else vBad (askK 2 c)
def blkV (x : VL) : VL := if ckv x then (if x.k = 4 then x else vFl (decide (x.k = 0))) else vBad 2
end Go.Proofs.YtogomodbcjpfiaaGreatDoor
namespace Go.Proofs.YtogomodbcjpfiaaGreatDoor
open Go.RowKit
theorem fault1_n (x : VL) (kk : Nat) (w : World) (hA : At w kk x.cells) (hx : x.ok) : Calls Tryz.prog 31 #[.slice (some ⟨kk, 0, none⟩) 1 1] w fun e9 w' => e9 = .returned (.int .i64 (ask x)) ∧ Mo w w' := by
 refine w_enter 26 Tryz.func31 Tryz.ntmps31 rfl rfl ?_
 have M : Mo w w := Mo.refl _
 refine w_seq (w_reg ?_)
 refine wl_m (.const (.int .i64 (0))) (.int .i64 (0)) ?_
 refine w_nil (xn_then (w_seq (w_seq (w_reg ?_))))
 refine wl_m (.tmp 0) (.slice (some ⟨kk, 0, none⟩) 1 1) ?_
 refine wl_val (.int .i64 (1)) (len45 _ _ _ 1 _ (by exact rfl) _ _ _ _ _ _) rfl ?_
 refine wl_m (.const (.int .i64 (0))) (.int .i64 (0)) ?_
 refine w_nil (xn_then (w_block ?_))
 refine w_rounds 3 ?_
 refine w_seq (w_reg ?_)
 refine wl_b .lss 3 (.tmp 7) (.tmp 6) (.int .i64 (0)) (.int .i64 (1)) (.bool true) (lt3 (r := true) rfl _ _ _) ?_
 refine w_nil (xn_then (w_seq (w_condT rfl (w_skip (xn_then (w_seq (w_block (w_seq (w_reg ?_)))))))))
 refine wl_bin (fun x y => Instr.indexAt 45 x y) (.tmp 5) (.tmp 7) (.slice (some ⟨kk, 0, none⟩) 1 1) (.int .i64 (0)) (pt kk 0) (fun _ => rfl) rfl rfl (ix45 (i := 0) rfl (by decide) _) rfl ?_
 refine wl_l 28 (.tmp 9) (pt kk 0) (.agg (x.cells).toArray) (run_row hA 28 0 10 (x.cells) rfl Tryz.underlying28 rfl sz28) ?_
 refine wl_alloc 28 #[.int .i64 0, .bool false, .int .u64 0, .int .u64 0, .int .u64 0, .int .u64 0, .int .i64 0, .bool false, .string ⟨#[]⟩, .int .i64 0] rfl (fun _ => by kernel_rfl) rfl ?_
 intro k1 u1 hk hz hq Q1
 have ne_kk_k1 : kk ≠ k1 := by have := hA.lt; omega
 have N_k1 : w.heap.size ≤ k1 := by have := M.size; omega
 replace hA := hA.mo hq
 replace M := M.trans hq
 clear hk hz hq
 refine wl_st 28 (.tmp 4) (.tmp 10) k1 0 ((x.cells).toArray) _ (x.cells) Q1 rfl rfl rfl rfl rfl sz28 rfl rfl rfl ?_
 intro u2 hS Qn
 replace Q1 := Qn
 clear Qn
 replace hA := hS.other _ _ ne_kk_k1 hA
 replace M := hS.mo _ N_k1 M
 clear hS
 refine w_nil (xn_then (w_block (w_seq (w_reg ?_))))
 refine wl_l 28 (.tmp 4) (pt k1 0) (.agg (x.cells).toArray) (run_row Q1 28 0 10 (x.cells) rfl Tryz.underlying28 rfl sz28) ?_
 cases hf0 : ckv x with
 | true =>
  refine wl_call 13 [(.tmp 12)] _ [.agg (x.cells).toArray] (.int .i64 (0)) rfl rfl (fun _ _ => by kernel_rfl) (check_t hf0 hx _) rfl ?_
  intro u3 hq
  replace hA := hA.mo hq
  replace Q1 := Q1.mo hq
  replace M := M.trans hq
  clear hq
  refine wl_b .neq 32 (.tmp 13) (.const (.int .i64 (0))) (.int .i64 (0)) (.int .i64 (0)) (.bool false) (ne34 (r := true) rfl _ _ _) ?_
  refine wl_m (.tmp 14) (.bool false) ?_
  refine w_nil (xn_then (w_condF rfl (w_seq (w_reg ?_))))
  refine wl_f 28 0 (.tmp 4) (pt k1 0) (pt k1 0) ?_
  refine wl_l 3 (.tmp 16) (pt k1 0) (.int .i64 (x.k)) (run_one Q1 3 0 rfl Tryz.underlying3 rfl) ?_
  cases hf1 : decide (x.k = 4) with
  | true =>
   have hf1p := of_decide_eq_true hf1
   refine wl_b .eql 3 (.tmp 17) (.const (.int .i64 (4))) (.int .i64 (x.k)) (.int .i64 (4)) (.bool true) (eq3 hf1 _ _ _) ?_
   refine wl_m (.tmp 18) (.bool true) ?_
   refine w_nil (xn_then (w_condT rfl (w_seq (w_reg ?_))))
   refine wl_f 28 4 (.tmp 4) (pt k1 0) (pt k1 9) ?_
   refine wl_l 3 (.tmp 19) (pt k1 9) (.int .i64 (x.e)) (run_one Q1 3 9 rfl Tryz.underlying3 rfl) ?_
   refine wl_m (.tmp 20) (.int .i64 (x.e)) ?_
   refine w_nil (xn_then (w_ret (xr_blk (xr_blk (xr_then (xr_then (xr_blk (xr_then ?_))))))))
   exact w_ret1 _ (.int .i64 (x.e)) rfl rfl ⟨by first | (simp [ask, ask, hf0, hf1p]; done) | (rw [ask2_e hx (by assumption) (by assumption)]), M⟩
  | false =>
   have hf1p := of_decide_eq_false hf1
   refine wl_b .eql 3 (.tmp 17) (.const (.int .i64 (4))) (.int .i64 (x.k)) (.int .i64 (4)) (.bool false) (eq3 hf1 _ _ _) ?_
   refine wl_m (.tmp 18) (.bool false) ?_
   refine w_nil (xn_then (w_condF rfl (w_seq (w_reg ?_))))
   refine wl_f 28 0 (.tmp 4) (pt k1 0) (pt k1 0) ?_
   refine wl_l 3 (.tmp 22) (pt k1 0) (.int .i64 (x.k)) (run_one Q1 3 0 rfl Tryz.underlying3 rfl) ?_
   cases hf2 : decide (x.k = 0) with
   | true =>
    have hf2p := of_decide_eq_true hf2
    refine wl_b .eql 3 (.tmp 23) (.const (.int .i64 (0))) (.int .i64 (x.k)) (.int .i64 (0)) (.bool true) (eq3 hf2 _ _ _) ?_
    refine wl_m (.tmp 24) (.bool true) ?_
    refine w_nil (xn_then (w_condT rfl (w_seq (w_reg ?_))))
    refine wl_m (.const (.int .i64 (3))) (.int .i64 (3)) ?_
    refine w_nil (xn_then (w_ret (xr_blk (xr_blk (xr_then (xr_then (xr_blk (xr_then ?_))))))))
    exact w_ret1 _ (.int .i64 (3)) rfl rfl ⟨by first | (simp [ask, ask, hf0, hf2p]; done) | (rw [ask2_e hx (by assumption) (by assumption)]), M⟩
   | false =>
    have hf2p := of_decide_eq_false hf2
    refine wl_b .eql 3 (.tmp 23) (.const (.int .i64 (0))) (.int .i64 (x.k)) (.int .i64 (0)) (.bool false) (eq3 hf2 _ _ _) ?_
    refine wl_m (.tmp 24) (.bool false) ?_
    refine w_nil (xn_then (w_condF rfl (w_skip (xn_blk (xn_blk (xn_then (w_reg ?_)))))))
    refine wl_b .add 3 (.tmp 7) (.const (.int .i64 (1))) (.int .i64 (0)) (.int .i64 (1)) (.int .i64 (1)) (by kernel_rfl) ?_
    refine wl_m (.tmp 25) (.int .i64 (1)) ?_
    refine w_nil ?_
    refine xn_rounds ?_
    refine w_seq (w_reg ?_)
    refine wl_b .lss 3 (.tmp 7) (.tmp 6) (.int .i64 (1)) (.int .i64 (1)) (.bool false) (lt3 (r := false) rfl _ _ _) ?_
    refine w_nil (xn_then (w_seq (w_condF rfl (w_exit (xx_then (xx_then (xx_blk (xn_then (w_seq (w_reg ?_))))))))))
    refine wl_m (.const (.int .i64 (0))) (.int .i64 (0)) ?_
    refine w_nil (xn_then (w_ret ?_))
    exact w_ret1 _ (.int .i64 (0)) rfl rfl ⟨by first | (simp [ask, ask, hf0, hf1p, hf2p]; done) | (rw [ask2_e hx (by assumption) (by assumption)]), M⟩
 | false =>
  refine wl_call 13 [(.tmp 12)] _ [.agg (x.cells).toArray] (.int .i64 (1)) rfl rfl (fun _ _ => by kernel_rfl) (check_f hf0 hx _) rfl ?_
  intro u3 hq
  replace hA := hA.mo hq
  replace Q1 := Q1.mo hq
  replace M := M.trans hq
  clear hq
  refine wl_b .neq 32 (.tmp 13) (.const (.int .i64 (0))) (.int .i64 (1)) (.int .i64 (0)) (.bool true) (ne34 (r := false) rfl _ _ _) ?_
  refine wl_m (.tmp 14) (.bool true) ?_
  refine w_nil (xn_then (w_condT rfl (w_seq (w_reg ?_))))
  refine wl_m (.const (.int .i64 (2))) (.int .i64 (2)) ?_
  refine w_nil (xn_then (w_ret (xr_blk (xr_blk (xr_then (xr_then (xr_blk (xr_then ?_))))))))
  exact w_ret1 _ (.int .i64 (2)) rfl rfl ⟨by first | (simp [ask, ask, hf0]; done) | (rw [ask2_e hx (by assumption) (by assumption)]), M⟩
theorem faultFor_n (k : Int) (x : VL) (w : World) (hx : x.ok) : Calls Tryz.prog 44 #[.int .i64 k, x.v] w fun e9 w' => e9 = .returned (.int .i64 (askK k x)) ∧ Mo w w' := by
 refine w_enter 16 Tryz.func44 Tryz.ntmps44 rfl rfl ?_
 have M : Mo w w := Mo.refl _
 refine w_seq (w_reg ?_)
 refine wl_box 28 (.tmp 1) _ (((x.cells).toArray)) rfl rfl (fun _ => by kernel_rfl) rfl ?_
 intro k1 u1 hk hz hq Q1
 have N_k1 : w.heap.size ≤ k1 := by have := M.size; omega
 replace M := M.trans hq
 clear hk hz hq
 refine wl_m (.const (.int .i64 (0))) (.int .i64 (0)) ?_
 refine w_nil (xn_then (w_seq (w_seq (w_reg ?_))))
 refine wl_l 28 (.tmp 3) (pt k1 0) (.agg (x.cells).toArray) (run_row Q1 28 0 10 (x.cells) rfl Tryz.underlying28 rfl sz28) ?_
 refine wl_bs 45 1 [(0, (.tmp 6))] [(0, .agg (x.cells).toArray)] ((x.cells).toArray) 28 rfl rfl (fun _ => by kernel_rfl) rfl ?_
 intro k2 u2 hk hz hq Q2
 have ne_k1_k2 : k1 ≠ k2 := by have := Q1.lt; omega
 have N_k2 : w.heap.size ≤ k2 := by have := M.size; omega
 replace Q1 := Q1.mo hq
 replace M := M.trans hq
 clear hk hz hq
 refine wl_call 31 [(.tmp 7)] _ [.slice (some ⟨k2, 0, none⟩) 1 1] (.int .i64 (ask x)) rfl rfl (fun _ _ => by kernel_rfl) (fault1_n x k2 _ Q2 hx) rfl ?_
 intro u3 hq
 replace Q1 := Q1.mo hq
 replace Q2 := Q2.mo hq
 replace M := M.trans hq
 clear hq
 refine wl_m (.tmp 8) (.int .i64 (ask x)) ?_
 refine w_nil (xn_then (w_seq (w_reg ?_)))
 refine wl_m (.tmp 5) (.int .i64 (ask x)) ?_
 cases hf0 : decide (ask x = 0) with
 | true =>
  have hf0p := of_decide_eq_true hf0
  refine wl_b .neq 3 (.tmp 9) (.const (.int .i64 (0))) (.int .i64 (ask x)) (.int .i64 (0)) (.bool false) (ne3 hf0 _ _ _) ?_
  refine w_nil (xn_then (w_condF rfl (w_skip (xn_then (w_seq (w_seq (w_reg ?_)))))))
  refine wl_f 28 0 (.tmp 3) (pt k1 0) (pt k1 0) ?_
  refine wl_l 3 (.tmp 12) (pt k1 0) (.int .i64 (x.k)) (run_one Q1 3 0 rfl Tryz.underlying3 rfl) ?_
  refine wl_m (.tmp 0) (.int .i64 (k)) ?_
  cases hf1 : decide (x.k = k) with
  | true =>
   have hf1p := of_decide_eq_true hf1
   refine wl_b .neq 3 (.tmp 13) (.tmp 14) (.int .i64 (x.k)) (.int .i64 (k)) (.bool false) (ne3 hf1 _ _ _) ?_
   refine w_nil (xn_then (w_condF rfl (w_skip (xn_then (w_seq (w_reg ?_))))))
   refine wl_m (.const (.int .i64 (0))) (.int .i64 (0)) ?_
   refine w_nil (xn_then (w_ret ?_))
   exact w_ret1 _ (.int .i64 (0)) rfl rfl ⟨by simp [askK, hf0p, hf1p], M⟩
  | false =>
   have hf1p := of_decide_eq_false hf1
   refine wl_b .neq 3 (.tmp 13) (.tmp 14) (.int .i64 (x.k)) (.int .i64 (k)) (.bool true) (ne3 hf1 _ _ _) ?_
   refine w_nil (xn_then (w_condT rfl (w_seq (w_reg ?_))))
   refine wl_m (.const (.int .i64 (2))) (.int .i64 (2)) ?_
   refine w_nil (xn_then (w_ret (xr_then ?_)))
   exact w_ret1 _ (.int .i64 (2)) rfl rfl ⟨by simp [askK, hf0p, hf1p], M⟩
 | false =>
  have hf0p := of_decide_eq_false hf0
  refine wl_b .neq 3 (.tmp 9) (.const (.int .i64 (0))) (.int .i64 (ask x)) (.int .i64 (0)) (.bool true) (ne3 hf0 _ _ _) ?_
  refine w_nil (xn_then (w_condT rfl (w_seq (w_reg ?_))))
  refine wl_m (.tmp 5) (.int .i64 (ask x)) ?_
  refine wl_m (.tmp 11) (.int .i64 (ask x)) ?_
  refine w_nil (xn_then (w_ret (xr_then ?_)))
  exact w_ret1 _ (.int .i64 (ask x)) rfl rfl ⟨by simp [askK, hf0p], M⟩
end Go.Proofs.YtogomodbcjpfiaaGreatDoor
namespace Go.Proofs.YtogomodbcjpfiaaGreatDoor
open Go.RowKit
theorem pneg_n (b : Bool) (n s : Int) (w : World) (hn0 : 0 ≤ n) (hn : n < MM) (h1 : ck b n s = 0) : Calls Tryz.prog 46 #[dc b n s] w fun e9 w' => e9 = .returned (negR b n s).v ∧ Mo w w' := neg_ok b n s w hn0 hn h1
theorem askK_0 {k : Int} {x : VL} (h : askK k x = 0) : ask x = 0 ∧ x.k = k := by
 unfold askK at h
 split at h
 next q =>
  refine ⟨q, ?_⟩
  split at h
  next g => exact g
  next => exact absurd h (by decide)
 next q => exact absurd h q
theorem num_of {x : VL} (hx : x.ok) (h : askK 1 x = 0) : ck x.b x.n x.s = 0 := (ckv_num hx (ask_0 hx (askK_0 h).1).1 (askK_0 h).2).2
theorem neg_n (x : VL) (w : World) (hx : x.ok) : Calls Tryz.prog 17 #[x.v] w fun e9 w' => e9 = .returned (negV x).v ∧ Mo w w' := by
 refine w_enter 16 Tryz.func17 Tryz.ntmps17 rfl rfl ?_
 have M : Mo w w := Mo.refl _
 refine w_seq (w_reg ?_)
 refine wl_box 28 (.tmp 0) _ (((x.cells).toArray)) rfl rfl (fun _ => by kernel_rfl) rfl ?_
 intro k1 u1 hk hz hq Q1
 have N_k1 : w.heap.size ≤ k1 := by have := M.size; omega
 replace M := M.trans hq
 clear hk hz hq
 refine wl_alloc 28 #[.int .i64 0, .bool false, .int .u64 0, .int .u64 0, .int .u64 0, .int .u64 0, .int .i64 0, .bool false, .string ⟨#[]⟩, .int .i64 0] rfl (fun _ => by kernel_rfl) rfl ?_
 intro k2 u2 hk hz hq Q2
 have ne_k1_k2 : k1 ≠ k2 := by have := Q1.lt; omega
 have N_k2 : w.heap.size ≤ k2 := by have := M.size; omega
 replace Q1 := Q1.mo hq
 replace M := M.trans hq
 clear hk hz hq
 refine w_nil (xn_then (w_seq (w_seq (w_reg ?_))))
 refine wl_l 28 (.tmp 1) (pt k1 0) (.agg (x.cells).toArray) (run_row Q1 28 0 10 (x.cells) rfl Tryz.underlying28 rfl sz28) ?_
 refine wl_call 44 [(.const (.int .i64 (1))), (.tmp 4)] _ [.int .i64 (1), .agg (x.cells).toArray] (.int .i64 (askK (1) x)) rfl rfl (fun _ _ => by kernel_rfl) (faultFor_n (1) x _ hx) rfl ?_
 intro u3 hq
 replace Q1 := Q1.mo hq
 replace Q2 := Q2.mo hq
 replace M := M.trans hq
 clear hq
 refine wl_m (.tmp 5) (.int .i64 (askK (1) x)) ?_
 refine w_nil (xn_then (w_seq (w_reg ?_)))
 refine wl_m (.tmp 3) (.int .i64 (askK (1) x)) ?_
 cases hf0 : decide (askK (1) x = 0) with
 | true =>
  have hf0p := of_decide_eq_true hf0
  refine wl_b .neq 3 (.tmp 6) (.const (.int .i64 (0))) (.int .i64 (askK (1) x)) (.int .i64 (0)) (.bool false) (ne3 hf0 _ _ _) ?_
  refine w_nil (xn_then (w_condF rfl (w_skip (xn_then (w_seq (w_reg ?_))))))
  refine wl_f 28 1 (.tmp 1) (pt k1 0) (pt k1 1) ?_
  refine wl_l 26 (.tmp 10) (pt k1 1) (.agg #[.bool x.b, .int .u64 (l0 x.n), .int .u64 (l1 x.n), .int .u64 (l2 x.n), .int .u64 (l3 x.n), .int .i64 x.s]) (run_row Q1 26 1 6 _ rfl Tryz.underlying26 rfl sz26) ?_
  refine wl_call 46 [(.tmp 11)] _ [.agg #[.bool x.b, .int .u64 (l0 x.n), .int .u64 (l1 x.n), .int .u64 (l2 x.n), .int .u64 (l3 x.n), .int .i64 x.s]] (.tuple #[.agg #[.bool (negR x.b x.n x.s).b, .int .u64 (l0 (negR x.b x.n x.s).n), .int .u64 (l1 (negR x.b x.n x.s).n), .int .u64 (l2 (negR x.b x.n x.s).n), .int .u64 (l3 (negR x.b x.n x.s).n), .int .i64 (negR x.b x.n x.s).s], .int .i64 ((negR x.b x.n x.s).e)]) rfl rfl (fun _ _ => by kernel_rfl) (pneg_n x.b x.n x.s _ hx.1 hx.2 (num_of hx (by assumption))) rfl ?_
  intro u4 hq
  replace Q1 := Q1.mo hq
  replace Q2 := Q2.mo hq
  replace M := M.trans hq
  clear hq
  refine wl_un (fun v => Instr.extract v 0) (.tmp 12) (.tuple #[.agg #[.bool (negR x.b x.n x.s).b, .int .u64 (l0 (negR x.b x.n x.s).n), .int .u64 (l1 (negR x.b x.n x.s).n), .int .u64 (l2 (negR x.b x.n x.s).n), .int .u64 (l3 (negR x.b x.n x.s).n), .int .i64 (negR x.b x.n x.s).s], .int .i64 ((negR x.b x.n x.s).e)]) (.agg #[.bool (negR x.b x.n x.s).b, .int .u64 (l0 (negR x.b x.n x.s).n), .int .u64 (l1 (negR x.b x.n x.s).n), .int .u64 (l2 (negR x.b x.n x.s).n), .int .u64 (l3 (negR x.b x.n x.s).n), .int .i64 (negR x.b x.n x.s).s]) (fun _ => rfl) rfl (by kernel_rfl) rfl ?_
  refine wl_un (fun v => Instr.extract v 1) (.tmp 12) (.tuple #[.agg #[.bool (negR x.b x.n x.s).b, .int .u64 (l0 (negR x.b x.n x.s).n), .int .u64 (l1 (negR x.b x.n x.s).n), .int .u64 (l2 (negR x.b x.n x.s).n), .int .u64 (l3 (negR x.b x.n x.s).n), .int .i64 (negR x.b x.n x.s).s], .int .i64 ((negR x.b x.n x.s).e)]) (.int .i64 ((negR x.b x.n x.s).e)) (fun _ => rfl) rfl (by kernel_rfl) rfl ?_
  refine wl_call 45 [(.tmp 13), (.tmp 14)] _ [.agg #[.bool (negR x.b x.n x.s).b, .int .u64 (l0 (negR x.b x.n x.s).n), .int .u64 (l1 (negR x.b x.n x.s).n), .int .u64 (l2 (negR x.b x.n x.s).n), .int .u64 (l3 (negR x.b x.n x.s).n), .int .i64 (negR x.b x.n x.s).s], .int .i64 ((negR x.b x.n x.s).e)] (.agg ((numV (negR x.b x.n x.s)).cells).toArray) rfl rfl (fun _ _ => by kernel_rfl) (number_n (negR x.b x.n x.s) _) rfl ?_
  intro u5 hq
  replace Q1 := Q1.mo hq
  replace Q2 := Q2.mo hq
  replace M := M.trans hq
  clear hq
  refine wl_st 28 (.tmp 2) (.tmp 15) k2 0 (((numV (negR x.b x.n x.s)).cells).toArray) _ ((numV (negR x.b x.n x.s)).cells) Q2 rfl rfl rfl rfl rfl sz28 rfl rfl rfl ?_
  intro u6 hS Qn
  replace Q2 := Qn
  clear Qn
  replace Q1 := hS.other _ _ ne_k1_k2 Q1
  replace M := hS.mo _ N_k2 M
  clear hS
  refine w_nil (xn_then (w_ret ?_))
  exact w_ret1 _ (.agg ((numV (negR x.b x.n x.s)).cells).toArray) rfl ⟨k2, rfl, (run_row Q2 28 0 10 ((numV (negR x.b x.n x.s)).cells) rfl Tryz.underlying28 rfl sz28)⟩ ⟨vrt (x := (numV (negR x.b x.n x.s))) rfl (by simp [negV, hf0p]), M⟩
 | false =>
  have hf0p := of_decide_eq_false hf0
  refine wl_b .neq 3 (.tmp 6) (.const (.int .i64 (0))) (.int .i64 (askK (1) x)) (.int .i64 (0)) (.bool true) (ne3 hf0 _ _ _) ?_
  refine w_nil (xn_then (w_condT rfl (w_seq (w_reg ?_))))
  refine wl_m (.tmp 3) (.int .i64 (askK (1) x)) ?_
  refine wl_call 15 [(.tmp 8)] _ [.int .i64 (askK (1) x)] (.agg ((vBad (askK (1) x)).cells).toArray) rfl rfl (fun _ _ => by kernel_rfl) (bad_n (askK (1) x) _) rfl ?_
  intro u4 hq
  replace Q1 := Q1.mo hq
  replace Q2 := Q2.mo hq
  replace M := M.trans hq
  clear hq
  refine wl_st 28 (.tmp 2) (.tmp 9) k2 0 (((vBad (askK (1) x)).cells).toArray) _ ((vBad (askK (1) x)).cells) Q2 rfl rfl rfl rfl rfl sz28 rfl rfl rfl ?_
  intro u5 hS Qn
  replace Q2 := Qn
  clear Qn
  replace Q1 := hS.other _ _ ne_k1_k2 Q1
  replace M := hS.mo _ N_k2 M
  clear hS
  refine w_nil (xn_then (w_ret (xr_then ?_)))
  exact w_ret1 _ (.agg ((vBad (askK (1) x)).cells).toArray) rfl ⟨k2, rfl, (run_row Q2 28 0 10 ((vBad (askK (1) x)).cells) rfl Tryz.underlying28 rfl sz28)⟩ ⟨vrt (x := (vBad (askK (1) x))) rfl (by simp [negV, hf0p]), M⟩
theorem not_n (x : VL) (w : World) (hx : x.ok) : Calls Tryz.prog 19 #[x.v] w fun e9 w' => e9 = .returned (notV x).v ∧ Mo w w' := by
 refine w_enter 14 Tryz.func19 Tryz.ntmps19 rfl rfl ?_
 have M : Mo w w := Mo.refl _
 refine w_seq (w_reg ?_)
 refine wl_box 28 (.tmp 0) _ (((x.cells).toArray)) rfl rfl (fun _ => by kernel_rfl) rfl ?_
 intro k1 u1 hk hz hq Q1
 have N_k1 : w.heap.size ≤ k1 := by have := M.size; omega
 replace M := M.trans hq
 clear hk hz hq
 refine wl_alloc 28 #[.int .i64 0, .bool false, .int .u64 0, .int .u64 0, .int .u64 0, .int .u64 0, .int .i64 0, .bool false, .string ⟨#[]⟩, .int .i64 0] rfl (fun _ => by kernel_rfl) rfl ?_
 intro k2 u2 hk hz hq Q2
 have ne_k1_k2 : k1 ≠ k2 := by have := Q1.lt; omega
 have N_k2 : w.heap.size ≤ k2 := by have := M.size; omega
 replace Q1 := Q1.mo hq
 replace M := M.trans hq
 clear hk hz hq
 refine w_nil (xn_then (w_seq (w_seq (w_reg ?_))))
 refine wl_l 28 (.tmp 1) (pt k1 0) (.agg (x.cells).toArray) (run_row Q1 28 0 10 (x.cells) rfl Tryz.underlying28 rfl sz28) ?_
 refine wl_call 44 [(.const (.int .i64 (2))), (.tmp 4)] _ [.int .i64 (2), .agg (x.cells).toArray] (.int .i64 (askK (2) x)) rfl rfl (fun _ _ => by kernel_rfl) (faultFor_n (2) x _ hx) rfl ?_
 intro u3 hq
 replace Q1 := Q1.mo hq
 replace Q2 := Q2.mo hq
 replace M := M.trans hq
 clear hq
 refine wl_m (.tmp 5) (.int .i64 (askK (2) x)) ?_
 refine w_nil (xn_then (w_seq (w_reg ?_)))
 refine wl_m (.tmp 3) (.int .i64 (askK (2) x)) ?_
 cases hf0 : decide (askK (2) x = 0) with
 | true =>
  have hf0p := of_decide_eq_true hf0
  refine wl_b .neq 3 (.tmp 6) (.const (.int .i64 (0))) (.int .i64 (askK (2) x)) (.int .i64 (0)) (.bool false) (ne3 hf0 _ _ _) ?_
  refine w_nil (xn_then (w_condF rfl (w_skip (xn_then (w_seq (w_reg ?_))))))
  refine wl_f 28 2 (.tmp 1) (pt k1 0) (pt k1 7) ?_
  refine wl_l 4 (.tmp 10) (pt k1 7) (.bool x.f) (run_one Q1 4 7 rfl Tryz.underlying4 rfl) ?_
  refine wl_un (fun v => Op.unary .not v) (.tmp 11) (.bool x.f) (.bool (!x.f)) (fun _ => rfl) rfl (notb _ _) rfl ?_
  refine wl_call 33 [(.tmp 12)] _ [.bool (!x.f)] (.agg ((vFl (!x.f)).cells).toArray) rfl rfl (fun _ _ => by kernel_rfl) (flag_n (!x.f) _) rfl ?_
  intro u4 hq
  replace Q1 := Q1.mo hq
  replace Q2 := Q2.mo hq
  replace M := M.trans hq
  clear hq
  refine wl_st 28 (.tmp 2) (.tmp 13) k2 0 (((vFl (!x.f)).cells).toArray) _ ((vFl (!x.f)).cells) Q2 rfl rfl rfl rfl rfl sz28 rfl rfl rfl ?_
  intro u5 hS Qn
  replace Q2 := Qn
  clear Qn
  replace Q1 := hS.other _ _ ne_k1_k2 Q1
  replace M := hS.mo _ N_k2 M
  clear hS
  refine w_nil (xn_then (w_ret ?_))
  exact w_ret1 _ (.agg ((vFl (!x.f)).cells).toArray) rfl ⟨k2, rfl, (run_row Q2 28 0 10 ((vFl (!x.f)).cells) rfl Tryz.underlying28 rfl sz28)⟩ ⟨vrt (x := (vFl (!x.f))) rfl (by simp [notV, hf0p]), M⟩
 | false =>
  have hf0p := of_decide_eq_false hf0
  refine wl_b .neq 3 (.tmp 6) (.const (.int .i64 (0))) (.int .i64 (askK (2) x)) (.int .i64 (0)) (.bool true) (ne3 hf0 _ _ _) ?_
  refine w_nil (xn_then (w_condT rfl (w_seq (w_reg ?_))))
  refine wl_m (.tmp 3) (.int .i64 (askK (2) x)) ?_
  refine wl_call 15 [(.tmp 8)] _ [.int .i64 (askK (2) x)] (.agg ((vBad (askK (2) x)).cells).toArray) rfl rfl (fun _ _ => by kernel_rfl) (bad_n (askK (2) x) _) rfl ?_
  intro u4 hq
  replace Q1 := Q1.mo hq
  replace Q2 := Q2.mo hq
  replace M := M.trans hq
  clear hq
  refine wl_st 28 (.tmp 2) (.tmp 9) k2 0 (((vBad (askK (2) x)).cells).toArray) _ ((vBad (askK (2) x)).cells) Q2 rfl rfl rfl rfl rfl sz28 rfl rfl rfl ?_
  intro u5 hS Qn
  replace Q2 := Qn
  clear Qn
  replace Q1 := hS.other _ _ ne_k1_k2 Q1
  replace M := hS.mo _ N_k2 M
  clear hS
  refine w_nil (xn_then (w_ret (xr_then ?_)))
  exact w_ret1 _ (.agg ((vBad (askK (2) x)).cells).toArray) rfl ⟨k2, rfl, (run_row Q2 28 0 10 ((vBad (askK (2) x)).cells) rfl Tryz.underlying28 rfl sz28)⟩ ⟨vrt (x := (vBad (askK (2) x))) rfl (by simp [notV, hf0p]), M⟩
theorem if_n (c x y : VL) (w : World) (hc : c.ok) (hx : x.ok) (hy : y.ok) : Calls Tryz.prog 27 #[c.v, x.v, y.v] w fun e9 w' => e9 = .returned (ifV c x y).v ∧ Mo w w' := by
 refine w_enter 24 Tryz.func27 Tryz.ntmps27 rfl rfl ?_
 have M : Mo w w := Mo.refl _
 refine w_seq (w_reg ?_)
 refine wl_box 28 (.tmp 0) _ (((c.cells).toArray)) rfl rfl (fun _ => by kernel_rfl) rfl ?_
 intro k1 u1 hk hz hq Q1
 have N_k1 : w.heap.size ≤ k1 := by have := M.size; omega
 replace M := M.trans hq
 clear hk hz hq
 refine wl_box 28 (.tmp 1) _ (((x.cells).toArray)) rfl rfl (fun _ => by kernel_rfl) rfl ?_
 intro k2 u2 hk hz hq Q2
 have ne_k1_k2 : k1 ≠ k2 := by have := Q1.lt; omega
 have N_k2 : w.heap.size ≤ k2 := by have := M.size; omega
 replace Q1 := Q1.mo hq
 replace M := M.trans hq
 clear hk hz hq
 refine wl_box 28 (.tmp 2) _ (((y.cells).toArray)) rfl rfl (fun _ => by kernel_rfl) rfl ?_
 intro k3 u3 hk hz hq Q3
 have ne_k1_k3 : k1 ≠ k3 := by have := Q1.lt; omega
 have ne_k2_k3 : k2 ≠ k3 := by have := Q2.lt; omega
 have N_k3 : w.heap.size ≤ k3 := by have := M.size; omega
 replace Q1 := Q1.mo hq
 replace Q2 := Q2.mo hq
 replace M := M.trans hq
 clear hk hz hq
 refine wl_alloc 28 #[.int .i64 0, .bool false, .int .u64 0, .int .u64 0, .int .u64 0, .int .u64 0, .int .i64 0, .bool false, .string ⟨#[]⟩, .int .i64 0] rfl (fun _ => by kernel_rfl) rfl ?_
 intro k4 u4 hk hz hq Q4
 have ne_k1_k4 : k1 ≠ k4 := by have := Q1.lt; omega
 have ne_k2_k4 : k2 ≠ k4 := by have := Q2.lt; omega
 have ne_k3_k4 : k3 ≠ k4 := by have := Q3.lt; omega
 have N_k4 : w.heap.size ≤ k4 := by have := M.size; omega
 replace Q1 := Q1.mo hq
 replace Q2 := Q2.mo hq
 replace Q3 := Q3.mo hq
 replace M := M.trans hq
 clear hk hz hq
 refine w_nil (xn_then (w_seq (w_seq (w_reg ?_))))
 refine wl_l 28 (.tmp 3) (pt k1 0) (.agg (c.cells).toArray) (run_row Q1 28 0 10 (c.cells) rfl Tryz.underlying28 rfl sz28) ?_
 refine wl_call 44 [(.const (.int .i64 (2))), (.tmp 9)] _ [.int .i64 (2), .agg (c.cells).toArray] (.int .i64 (askK (2) c)) rfl rfl (fun _ _ => by kernel_rfl) (faultFor_n (2) c _ hc) rfl ?_
 intro u5 hq
 replace Q1 := Q1.mo hq
 replace Q2 := Q2.mo hq
 replace Q3 := Q3.mo hq
 replace Q4 := Q4.mo hq
 replace M := M.trans hq
 clear hq
 refine wl_m (.tmp 10) (.int .i64 (askK (2) c)) ?_
 refine w_nil (xn_then (w_seq (w_reg ?_)))
 refine wl_m (.tmp 7) (.int .i64 (askK (2) c)) ?_
 cases hf0 : decide (askK (2) c = 0) with
 | true =>
  have hf0p := of_decide_eq_true hf0
  refine wl_b .neq 3 (.tmp 11) (.const (.int .i64 (0))) (.int .i64 (askK (2) c)) (.int .i64 (0)) (.bool false) (ne3 hf0 _ _ _) ?_
  refine w_nil (xn_then (w_condF rfl (w_skip (xn_then (w_seq (w_reg ?_))))))
  refine wl_l 28 (.tmp 5) (pt k3 0) (.agg (y.cells).toArray) (run_row Q3 28 0 10 (y.cells) rfl Tryz.underlying28 rfl sz28) ?_
  refine wl_alloc 28 #[.int .i64 0, .bool false, .int .u64 0, .int .u64 0, .int .u64 0, .int .u64 0, .int .i64 0, .bool false, .string ⟨#[]⟩, .int .i64 0] rfl (fun _ => by kernel_rfl) rfl ?_
  intro k5 u6 hk hz hq Q5
  have ne_k1_k5 : k1 ≠ k5 := by have := Q1.lt; omega
  have ne_k2_k5 : k2 ≠ k5 := by have := Q2.lt; omega
  have ne_k3_k5 : k3 ≠ k5 := by have := Q3.lt; omega
  have ne_k4_k5 : k4 ≠ k5 := by have := Q4.lt; omega
  have N_k5 : w.heap.size ≤ k5 := by have := M.size; omega
  replace Q1 := Q1.mo hq
  replace Q2 := Q2.mo hq
  replace Q3 := Q3.mo hq
  replace Q4 := Q4.mo hq
  replace M := M.trans hq
  clear hk hz hq
  refine wl_st 28 (.tmp 8) (.tmp 15) k5 0 ((y.cells).toArray) _ (y.cells) Q5 rfl rfl rfl rfl rfl sz28 rfl rfl rfl ?_
  intro u7 hS Qn
  replace Q5 := Qn
  clear Qn
  replace Q1 := hS.other _ _ ne_k1_k5 Q1
  replace Q2 := hS.other _ _ ne_k2_k5 Q2
  replace Q3 := hS.other _ _ ne_k3_k5 Q3
  replace Q4 := hS.other _ _ ne_k4_k5 Q4
  replace M := hS.mo _ N_k5 M
  clear hS
  refine w_nil (xn_then (w_seq (w_seq (w_reg ?_))))
  refine wl_f 28 2 (.tmp 3) (pt k1 0) (pt k1 7) ?_
  refine wl_l 4 (.tmp 16) (pt k1 7) (.bool c.f) (run_one Q1 4 7 rfl Tryz.underlying4 rfl) ?_
  refine w_nil (xn_then ?_)
  cases hf1 : c.f with
  | true =>
   refine w_condT rfl (w_reg ?_)
   refine wl_l 28 (.tmp 4) (pt k2 0) (.agg (x.cells).toArray) (run_row Q2 28 0 10 (x.cells) rfl Tryz.underlying28 rfl sz28) ?_
   refine wl_st 28 (.tmp 8) (.tmp 18) k5 0 ((x.cells).toArray) (y.cells) (x.cells) Q5 rfl rfl rfl rfl rfl sz28 rfl rfl rfl ?_
   intro u8 hS Qn
   replace Q5 := Qn
   clear Qn
   replace Q1 := hS.other _ _ ne_k1_k5 Q1
   replace Q2 := hS.other _ _ ne_k2_k5 Q2
   replace Q3 := hS.other _ _ ne_k3_k5 Q3
   replace Q4 := hS.other _ _ ne_k4_k5 Q4
   replace M := hS.mo _ N_k5 M
   clear hS
   refine w_nil (xn_then (w_seq (w_seq (w_reg ?_))))
   refine wl_l 28 (.tmp 8) (pt k5 0) (.agg (x.cells).toArray) (run_row Q5 28 0 10 (x.cells) rfl Tryz.underlying28 rfl sz28) ?_
   cases hf2 : ckv x with
   | true =>
    refine wl_call 13 [(.tmp 19)] _ [.agg (x.cells).toArray] (.int .i64 (0)) rfl rfl (fun _ _ => by kernel_rfl) (check_t hf2 hx _) rfl ?_
    intro u9 hq
    replace Q1 := Q1.mo hq
    replace Q2 := Q2.mo hq
    replace Q3 := Q3.mo hq
    replace Q4 := Q4.mo hq
    replace Q5 := Q5.mo hq
    replace M := M.trans hq
    clear hq
    refine wl_b .neq 32 (.tmp 20) (.const (.int .i64 (0))) (.int .i64 (0)) (.int .i64 (0)) (.bool false) (ne34 (r := true) rfl _ _ _) ?_
    refine w_nil (xn_then (w_condF rfl (w_skip (xn_then (w_seq (w_reg ?_))))))
    refine wl_l 28 (.tmp 8) (pt k5 0) (.agg (x.cells).toArray) (run_row Q5 28 0 10 (x.cells) rfl Tryz.underlying28 rfl sz28) ?_
    refine wl_st 28 (.tmp 6) (.tmp 23) k4 0 ((x.cells).toArray) _ (x.cells) Q4 rfl rfl rfl rfl rfl sz28 rfl rfl rfl ?_
    intro u10 hS Qn
    replace Q4 := Qn
    clear Qn
    replace Q1 := hS.other _ _ ne_k1_k4 Q1
    replace Q2 := hS.other _ _ ne_k2_k4 Q2
    replace Q3 := hS.other _ _ ne_k3_k4 Q3
    replace Q5 := hS.other _ _ ne_k4_k5.symm Q5
    replace M := hS.mo _ N_k4 M
    clear hS
    refine w_nil (xn_then (w_ret ?_))
    exact w_ret1 _ (.agg (x.cells).toArray) rfl ⟨k4, rfl, (run_row Q4 28 0 10 (x.cells) rfl Tryz.underlying28 rfl sz28)⟩ ⟨vrt (x := x) rfl (by simp [ifV, mayV, hf0p, hf1, hf2]), M⟩
   | false =>
    refine wl_call 13 [(.tmp 19)] _ [.agg (x.cells).toArray] (.int .i64 (1)) rfl rfl (fun _ _ => by kernel_rfl) (check_f hf2 hx _) rfl ?_
    intro u9 hq
    replace Q1 := Q1.mo hq
    replace Q2 := Q2.mo hq
    replace Q3 := Q3.mo hq
    replace Q4 := Q4.mo hq
    replace Q5 := Q5.mo hq
    replace M := M.trans hq
    clear hq
    refine wl_b .neq 32 (.tmp 20) (.const (.int .i64 (0))) (.int .i64 (1)) (.int .i64 (0)) (.bool true) (ne34 (r := false) rfl _ _ _) ?_
    refine w_nil (xn_then (w_condT rfl (w_seq (w_reg ?_))))
    refine wl_call 15 [(.const (.int .i64 (2)))] _ [.int .i64 (2)] (.agg ((vBad (2)).cells).toArray) rfl rfl (fun _ _ => by kernel_rfl) (bad_n (2) _) rfl ?_
    intro u10 hq
    replace Q1 := Q1.mo hq
    replace Q2 := Q2.mo hq
    replace Q3 := Q3.mo hq
    replace Q4 := Q4.mo hq
    replace Q5 := Q5.mo hq
    replace M := M.trans hq
    clear hq
    refine wl_st 28 (.tmp 6) (.tmp 22) k4 0 (((vBad (2)).cells).toArray) _ ((vBad (2)).cells) Q4 rfl rfl rfl rfl rfl sz28 rfl rfl rfl ?_
    intro u11 hS Qn
    replace Q4 := Qn
    clear Qn
    replace Q1 := hS.other _ _ ne_k1_k4 Q1
    replace Q2 := hS.other _ _ ne_k2_k4 Q2
    replace Q3 := hS.other _ _ ne_k3_k4 Q3
    replace Q5 := hS.other _ _ ne_k4_k5.symm Q5
    replace M := hS.mo _ N_k4 M
    clear hS
    refine w_nil (xn_then (w_ret (xr_then ?_)))
    exact w_ret1 _ (.agg ((vBad (2)).cells).toArray) rfl ⟨k4, rfl, (run_row Q4 28 0 10 ((vBad (2)).cells) rfl Tryz.underlying28 rfl sz28)⟩ ⟨vrt (x := (vBad (2))) rfl (by simp [ifV, mayV, hf0p, hf1, hf2]), M⟩
  | false =>
   refine w_condF rfl (w_skip (xn_then (w_seq (w_seq (w_reg ?_)))))
   refine wl_l 28 (.tmp 8) (pt k5 0) (.agg (y.cells).toArray) (run_row Q5 28 0 10 (y.cells) rfl Tryz.underlying28 rfl sz28) ?_
   cases hf2 : ckv y with
   | true =>
    refine wl_call 13 [(.tmp 19)] _ [.agg (y.cells).toArray] (.int .i64 (0)) rfl rfl (fun _ _ => by kernel_rfl) (check_t hf2 hy _) rfl ?_
    intro u8 hq
    replace Q1 := Q1.mo hq
    replace Q2 := Q2.mo hq
    replace Q3 := Q3.mo hq
    replace Q4 := Q4.mo hq
    replace Q5 := Q5.mo hq
    replace M := M.trans hq
    clear hq
    refine wl_b .neq 32 (.tmp 20) (.const (.int .i64 (0))) (.int .i64 (0)) (.int .i64 (0)) (.bool false) (ne34 (r := true) rfl _ _ _) ?_
    refine w_nil (xn_then (w_condF rfl (w_skip (xn_then (w_seq (w_reg ?_))))))
    refine wl_l 28 (.tmp 8) (pt k5 0) (.agg (y.cells).toArray) (run_row Q5 28 0 10 (y.cells) rfl Tryz.underlying28 rfl sz28) ?_
    refine wl_st 28 (.tmp 6) (.tmp 23) k4 0 ((y.cells).toArray) _ (y.cells) Q4 rfl rfl rfl rfl rfl sz28 rfl rfl rfl ?_
    intro u9 hS Qn
    replace Q4 := Qn
    clear Qn
    replace Q1 := hS.other _ _ ne_k1_k4 Q1
    replace Q2 := hS.other _ _ ne_k2_k4 Q2
    replace Q3 := hS.other _ _ ne_k3_k4 Q3
    replace Q5 := hS.other _ _ ne_k4_k5.symm Q5
    replace M := hS.mo _ N_k4 M
    clear hS
    refine w_nil (xn_then (w_ret ?_))
    exact w_ret1 _ (.agg (y.cells).toArray) rfl ⟨k4, rfl, (run_row Q4 28 0 10 (y.cells) rfl Tryz.underlying28 rfl sz28)⟩ ⟨vrt (x := y) rfl (by simp [ifV, mayV, hf0p, hf1, hf2]), M⟩
   | false =>
    refine wl_call 13 [(.tmp 19)] _ [.agg (y.cells).toArray] (.int .i64 (1)) rfl rfl (fun _ _ => by kernel_rfl) (check_f hf2 hy _) rfl ?_
    intro u8 hq
    replace Q1 := Q1.mo hq
    replace Q2 := Q2.mo hq
    replace Q3 := Q3.mo hq
    replace Q4 := Q4.mo hq
    replace Q5 := Q5.mo hq
    replace M := M.trans hq
    clear hq
    refine wl_b .neq 32 (.tmp 20) (.const (.int .i64 (0))) (.int .i64 (1)) (.int .i64 (0)) (.bool true) (ne34 (r := false) rfl _ _ _) ?_
    refine w_nil (xn_then (w_condT rfl (w_seq (w_reg ?_))))
    refine wl_call 15 [(.const (.int .i64 (2)))] _ [.int .i64 (2)] (.agg ((vBad (2)).cells).toArray) rfl rfl (fun _ _ => by kernel_rfl) (bad_n (2) _) rfl ?_
    intro u9 hq
    replace Q1 := Q1.mo hq
    replace Q2 := Q2.mo hq
    replace Q3 := Q3.mo hq
    replace Q4 := Q4.mo hq
    replace Q5 := Q5.mo hq
    replace M := M.trans hq
    clear hq
    refine wl_st 28 (.tmp 6) (.tmp 22) k4 0 (((vBad (2)).cells).toArray) _ ((vBad (2)).cells) Q4 rfl rfl rfl rfl rfl sz28 rfl rfl rfl ?_
    intro u10 hS Qn
    replace Q4 := Qn
    clear Qn
    replace Q1 := hS.other _ _ ne_k1_k4 Q1
    replace Q2 := hS.other _ _ ne_k2_k4 Q2
    replace Q3 := hS.other _ _ ne_k3_k4 Q3
    replace Q5 := hS.other _ _ ne_k4_k5.symm Q5
    replace M := hS.mo _ N_k4 M
    clear hS
    refine w_nil (xn_then (w_ret (xr_then ?_)))
    exact w_ret1 _ (.agg ((vBad (2)).cells).toArray) rfl ⟨k4, rfl, (run_row Q4 28 0 10 ((vBad (2)).cells) rfl Tryz.underlying28 rfl sz28)⟩ ⟨vrt (x := (vBad (2))) rfl (by simp [ifV, mayV, hf0p, hf1, hf2]), M⟩
 | false =>
  have hf0p := of_decide_eq_false hf0
  refine wl_b .neq 3 (.tmp 11) (.const (.int .i64 (0))) (.int .i64 (askK (2) c)) (.int .i64 (0)) (.bool true) (ne3 hf0 _ _ _) ?_
  refine w_nil (xn_then (w_condT rfl (w_seq (w_reg ?_))))
  refine wl_m (.tmp 7) (.int .i64 (askK (2) c)) ?_
  refine wl_call 15 [(.tmp 13)] _ [.int .i64 (askK (2) c)] (.agg ((vBad (askK (2) c)).cells).toArray) rfl rfl (fun _ _ => by kernel_rfl) (bad_n (askK (2) c) _) rfl ?_
  intro u6 hq
  replace Q1 := Q1.mo hq
  replace Q2 := Q2.mo hq
  replace Q3 := Q3.mo hq
  replace Q4 := Q4.mo hq
  replace M := M.trans hq
  clear hq
  refine wl_st 28 (.tmp 6) (.tmp 14) k4 0 (((vBad (askK (2) c)).cells).toArray) _ ((vBad (askK (2) c)).cells) Q4 rfl rfl rfl rfl rfl sz28 rfl rfl rfl ?_
  intro u7 hS Qn
  replace Q4 := Qn
  clear Qn
  replace Q1 := hS.other _ _ ne_k1_k4 Q1
  replace Q2 := hS.other _ _ ne_k2_k4 Q2
  replace Q3 := hS.other _ _ ne_k3_k4 Q3
  replace M := hS.mo _ N_k4 M
  clear hS
  refine w_nil (xn_then (w_ret (xr_then ?_)))
  exact w_ret1 _ (.agg ((vBad (askK (2) c)).cells).toArray) rfl ⟨k4, rfl, (run_row Q4 28 0 10 ((vBad (askK (2) c)).cells) rfl Tryz.underlying28 rfl sz28)⟩ ⟨vrt (x := (vBad (askK (2) c))) rfl (by simp [ifV, hf0p]), M⟩
theorem blk_n (x : VL) (w : World) (hx : x.ok) : Calls Tryz.prog 21 #[x.v] w fun e9 w' => e9 = .returned (blkV x).v ∧ Mo w w' := by
 refine w_enter 17 Tryz.func21 Tryz.ntmps21 rfl rfl ?_
 have M : Mo w w := Mo.refl _
 refine w_seq (w_reg ?_)
 refine wl_box 28 (.tmp 0) _ (((x.cells).toArray)) rfl rfl (fun _ => by kernel_rfl) rfl ?_
 intro k1 u1 hk hz hq Q1
 have N_k1 : w.heap.size ≤ k1 := by have := M.size; omega
 replace M := M.trans hq
 clear hk hz hq
 refine wl_alloc 28 #[.int .i64 0, .bool false, .int .u64 0, .int .u64 0, .int .u64 0, .int .u64 0, .int .i64 0, .bool false, .string ⟨#[]⟩, .int .i64 0] rfl (fun _ => by kernel_rfl) rfl ?_
 intro k2 u2 hk hz hq Q2
 have ne_k1_k2 : k1 ≠ k2 := by have := Q1.lt; omega
 have N_k2 : w.heap.size ≤ k2 := by have := M.size; omega
 replace Q1 := Q1.mo hq
 replace M := M.trans hq
 clear hk hz hq
 refine w_nil (xn_then (w_seq (w_block (w_seq (w_reg ?_)))))
 refine wl_l 28 (.tmp 1) (pt k1 0) (.agg (x.cells).toArray) (run_row Q1 28 0 10 (x.cells) rfl Tryz.underlying28 rfl sz28) ?_
 cases hf0 : ckv x with
 | true =>
  refine wl_call 13 [(.tmp 4)] _ [.agg (x.cells).toArray] (.int .i64 (0)) rfl rfl (fun _ _ => by kernel_rfl) (check_t hf0 hx _) rfl ?_
  intro u3 hq
  replace Q1 := Q1.mo hq
  replace Q2 := Q2.mo hq
  replace M := M.trans hq
  clear hq
  refine wl_b .neq 32 (.tmp 5) (.const (.int .i64 (0))) (.int .i64 (0)) (.int .i64 (0)) (.bool false) (ne34 (r := true) rfl _ _ _) ?_
  refine wl_m (.tmp 6) (.bool false) ?_
  refine w_nil (xn_then (w_condF rfl (w_seq (w_reg ?_))))
  refine wl_f 28 0 (.tmp 1) (pt k1 0) (pt k1 0) ?_
  refine wl_l 3 (.tmp 9) (pt k1 0) (.int .i64 (x.k)) (run_one Q1 3 0 rfl Tryz.underlying3 rfl) ?_
  cases hf1 : decide (x.k = 4) with
  | true =>
   have hf1p := of_decide_eq_true hf1
   refine wl_b .eql 3 (.tmp 10) (.const (.int .i64 (4))) (.int .i64 (x.k)) (.int .i64 (4)) (.bool true) (eq3 hf1 _ _ _) ?_
   refine wl_m (.tmp 11) (.bool true) ?_
   refine w_nil (xn_then (w_condT rfl (w_seq (w_reg ?_))))
   refine wl_l 28 (.tmp 1) (pt k1 0) (.agg (x.cells).toArray) (run_row Q1 28 0 10 (x.cells) rfl Tryz.underlying28 rfl sz28) ?_
   refine wl_st 28 (.tmp 2) (.tmp 12) k2 0 ((x.cells).toArray) _ (x.cells) Q2 rfl rfl rfl rfl rfl sz28 rfl rfl rfl ?_
   intro u4 hS Qn
   replace Q2 := Qn
   clear Qn
   replace Q1 := hS.other _ _ ne_k1_k2 Q1
   replace M := hS.mo _ N_k2 M
   clear hS
   refine w_nil (xn_then (w_ret (xr_blk (xr_then ?_))))
   exact w_ret1 _ (.agg (x.cells).toArray) rfl ⟨k2, rfl, (run_row Q2 28 0 10 (x.cells) rfl Tryz.underlying28 rfl sz28)⟩ ⟨vrt (x := x) rfl (by simp [blkV, hf0, hf1p]), M⟩
  | false =>
   have hf1p := of_decide_eq_false hf1
   refine wl_b .eql 3 (.tmp 10) (.const (.int .i64 (4))) (.int .i64 (x.k)) (.int .i64 (4)) (.bool false) (eq3 hf1 _ _ _) ?_
   refine wl_m (.tmp 11) (.bool false) ?_
   refine w_nil (xn_then (w_condF rfl (w_skip (xn_blk (xn_then (w_seq (w_reg ?_)))))))
   refine wl_f 28 0 (.tmp 1) (pt k1 0) (pt k1 0) ?_
   refine wl_l 3 (.tmp 13) (pt k1 0) (.int .i64 (x.k)) (run_one Q1 3 0 rfl Tryz.underlying3 rfl) ?_
   cases hf2 : decide (x.k = 0) with
   | true =>
    have hf2p := of_decide_eq_true hf2
    refine wl_b .eql 3 (.tmp 14) (.const (.int .i64 (0))) (.int .i64 (x.k)) (.int .i64 (0)) (.bool true) (eq3 hf2 _ _ _) ?_
    refine wl_call 33 [(.tmp 15)] _ [.bool true] (.agg ((vFl true).cells).toArray) rfl rfl (fun _ _ => by kernel_rfl) (flag_n true _) rfl ?_
    intro u4 hq
    replace Q1 := Q1.mo hq
    replace Q2 := Q2.mo hq
    replace M := M.trans hq
    clear hq
    refine wl_st 28 (.tmp 2) (.tmp 16) k2 0 (((vFl true).cells).toArray) _ ((vFl true).cells) Q2 rfl rfl rfl rfl rfl sz28 rfl rfl rfl ?_
    intro u5 hS Qn
    replace Q2 := Qn
    clear Qn
    replace Q1 := hS.other _ _ ne_k1_k2 Q1
    replace M := hS.mo _ N_k2 M
    clear hS
    refine w_nil (xn_then (w_ret ?_))
    exact w_ret1 _ (.agg ((vFl true).cells).toArray) rfl ⟨k2, rfl, (run_row Q2 28 0 10 ((vFl true).cells) rfl Tryz.underlying28 rfl sz28)⟩ ⟨vrt (x := (vFl true)) rfl (by simp [blkV, hf0, hf2p]), M⟩
   | false =>
    have hf2p := of_decide_eq_false hf2
    refine wl_b .eql 3 (.tmp 14) (.const (.int .i64 (0))) (.int .i64 (x.k)) (.int .i64 (0)) (.bool false) (eq3 hf2 _ _ _) ?_
    refine wl_call 33 [(.tmp 15)] _ [.bool false] (.agg ((vFl false).cells).toArray) rfl rfl (fun _ _ => by kernel_rfl) (flag_n false _) rfl ?_
    intro u4 hq
    replace Q1 := Q1.mo hq
    replace Q2 := Q2.mo hq
    replace M := M.trans hq
    clear hq
    refine wl_st 28 (.tmp 2) (.tmp 16) k2 0 (((vFl false).cells).toArray) _ ((vFl false).cells) Q2 rfl rfl rfl rfl rfl sz28 rfl rfl rfl ?_
    intro u5 hS Qn
    replace Q2 := Qn
    clear Qn
    replace Q1 := hS.other _ _ ne_k1_k2 Q1
    replace M := hS.mo _ N_k2 M
    clear hS
    refine w_nil (xn_then (w_ret ?_))
    exact w_ret1 _ (.agg ((vFl false).cells).toArray) rfl ⟨k2, rfl, (run_row Q2 28 0 10 ((vFl false).cells) rfl Tryz.underlying28 rfl sz28)⟩ ⟨vrt (x := (vFl false)) rfl (by simp [blkV, hf0, hf1p, hf2p]), M⟩
 | false =>
  refine wl_call 13 [(.tmp 4)] _ [.agg (x.cells).toArray] (.int .i64 (1)) rfl rfl (fun _ _ => by kernel_rfl) (check_f hf0 hx _) rfl ?_
  intro u3 hq
  replace Q1 := Q1.mo hq
  replace Q2 := Q2.mo hq
  replace M := M.trans hq
  clear hq
  refine wl_b .neq 32 (.tmp 5) (.const (.int .i64 (0))) (.int .i64 (1)) (.int .i64 (0)) (.bool true) (ne34 (r := false) rfl _ _ _) ?_
  refine wl_m (.tmp 6) (.bool true) ?_
  refine w_nil (xn_then (w_condT rfl (w_seq (w_reg ?_))))
  refine wl_call 15 [(.const (.int .i64 (2)))] _ [.int .i64 (2)] (.agg ((vBad (2)).cells).toArray) rfl rfl (fun _ _ => by kernel_rfl) (bad_n (2) _) rfl ?_
  intro u4 hq
  replace Q1 := Q1.mo hq
  replace Q2 := Q2.mo hq
  replace M := M.trans hq
  clear hq
  refine wl_st 28 (.tmp 2) (.tmp 7) k2 0 (((vBad (2)).cells).toArray) _ ((vBad (2)).cells) Q2 rfl rfl rfl rfl rfl sz28 rfl rfl rfl ?_
  intro u5 hS Qn
  replace Q2 := Qn
  clear Qn
  replace Q1 := hS.other _ _ ne_k1_k2 Q1
  replace M := hS.mo _ N_k2 M
  clear hS
  refine w_nil (xn_then (w_ret (xr_blk (xr_then ?_))))
  exact w_ret1 _ (.agg ((vBad (2)).cells).toArray) rfl ⟨k2, rfl, (run_row Q2 28 0 10 ((vBad (2)).cells) rfl Tryz.underlying28 rfl sz28)⟩ ⟨vrt (x := (vBad (2))) rfl (by simp [blkV, hf0]), M⟩
end Go.Proofs.YtogomodbcjpfiaaGreatDoor
namespace Go.Proofs.YtogomodbcjpfiaaGreatDoor
open Go.RowKit
theorem ok_bad (e : Int) : (vBad e).ok := ok_0 _ _ _ _ _ _
theorem ask_bad (e : Int) : ask (vBad e) = (vBad e).e ∧ isE (vBad e).e = true := by
 refine ⟨?_, isE_bad e⟩
 unfold ask
 rw [if_pos (ckv_vBad e)]
 rfl
theorem isE_ne {e : Int} (h : isE e = true) : ¬ e = 0 := fun h0 => by rw [h0] at h; exact absurd h (by decide)
theorem bad_bad (e : Int) : vBad (vBad e).e = vBad e := (bad_of (e := (vBad e).e) (isE_bad e)).trans rfl
theorem op_bad1 (op e : Int) (y : VL) : opV op (vBad e) y = vBad e := by
 obtain ⟨a, i⟩ := ask_bad e
 have q : ask2 (vBad e) y = (vBad e).e := by unfold ask2; rw [a, if_neg (isE_ne i)]
 unfold opV
 rw [q, if_neg (isE_ne i), bad_bad]
theorem op_bad2 (op e : Int) {x : VL} (h : ask x = 0) : opV op x (vBad e) = vBad e := by
 obtain ⟨a, i⟩ := ask_bad e
 have q : ask2 x (vBad e) = (vBad e).e := by unfold ask2; rw [if_pos h, a]
 unfold opV
 rw [q, if_neg (isE_ne i), bad_bad]
theorem askK_bad (k e : Int) : askK k (vBad e) = (vBad e).e := by
 obtain ⟨a, i⟩ := ask_bad e
 unfold askK
 rw [a, if_neg (isE_ne i)]
theorem neg_bad (e : Int) : negV (vBad e) = vBad e := by unfold negV; rw [askK_bad, if_neg (isE_ne (ask_bad e).2), bad_bad]
theorem not_bad (e : Int) : notV (vBad e) = vBad e := by unfold notV; rw [askK_bad, if_neg (isE_ne (ask_bad e).2), bad_bad]
theorem if_bad (e : Int) (x y : VL) : ifV (vBad e) x y = vBad e := by unfold ifV; rw [askK_bad, if_neg (isE_ne (ask_bad e).2), bad_bad]
theorem blk_bad (e : Int) : blkV (vBad e) = vBad e := by unfold blkV; rw [if_pos (ckv_vBad e)]; rfl
end Go.Proofs.YtogomodbcjpfiaaGreatDoor
namespace Go.Proofs.YtogomodbcjpfiaaGreatDoor
open Go.ChangeShapes Go.WideShapes Go.ChangeAt Go.RowKit Go.ChangeMaps
set_option maxRecDepth 100000
section
variable {H : Type} {enc : TypeId × Value → H} {W : World} {base : Nat} {v : Value} {d : DataW H} {p : List MemPlace}
theorem open_i64 (hv : Value.okWide Tryz.prog W .any base 3 v) (h : DataW.Trod enc Tryz.prog W 0 (fun _ => true) true 3 v d p) :
  ∃ x : Int, v = .int .i64 x ∧ p = [] ∧ ∀ (W' : World) (sp : Nat → Bool), DataW.Trod enc Tryz.prog W' 0 sp true 3 v d [] := by
 obtain ⟨n, rfl, rfl, rfl, hw⟩ := open_int Tryz.underlying3 hv h
 exact ⟨n, rfl, rfl, fun W' sp => shut_int Tryz.underlying3 hw⟩
end
end Go.Proofs.YtogomodbcjpfiaaGreatDoor
namespace Go.Proofs.YtogomodbcjpfiaaGreatDoor.V
open Go.RowKit
theorem errors_n (op e : Int) (y : VL) (w : World) (hy : y.ok) : Calls Tryz.prog 8 #[.int .i64 op, .int .i64 e, y.v] w fun e9 w' => e9 = .returned (.bool true) ∧ Mw w w' := by
 refine w_enter 61 Tryz.func8 Tryz.ntmps8 rfl rfl ?_
 have M : Mw w w := Mw.refl _
 refine w_seq (w_reg ?_)
 refine wl_box 28 (.tmp 2) _ (((y.cells).toArray)) rfl rfl (fun _ => by kernel_rfl) rfl ?_
 intro k1 u1 hk hz hq Q1
 have N_k1 : w.heap.size ≤ k1 := by have := M.size; omega
 replace M := M.trans hq
 clear hk hz hq
 refine wl_m (.const (.bool false)) (.bool false) ?_
 refine w_nil (xn_then (w_seq (w_reg ?_)))
 refine wl_m (.tmp 1) (.int .i64 (e)) ?_
 refine wl_call 15 [(.tmp 9)] _ [.int .i64 (e)] (.agg ((vBad e).cells).toArray) rfl rfl (fun _ _ => by kernel_rfl) (wk (bad_n e _)) rfl ?_
 intro u2 hq
 replace Q1 := Q1.mo hq
 replace M := M.trans hq
 clear hq
 refine wl_alloc 28 #[.int .i64 0, .bool false, .int .u64 0, .int .u64 0, .int .u64 0, .int .u64 0, .int .i64 0, .bool false, .string ⟨#[]⟩, .int .i64 0] rfl (fun _ => by kernel_rfl) rfl ?_
 intro k2 u3 hk hz hq Q2
 have ne_k1_k2 : k1 ≠ k2 := by have := Q1.lt; omega
 have N_k2 : w.heap.size ≤ k2 := by have := M.size; omega
 replace Q1 := Q1.mo hq
 replace M := M.trans hq
 clear hk hz hq
 refine wl_st 28 (.tmp 7) (.tmp 10) k2 0 (((vBad e).cells).toArray) _ ((vBad e).cells) Q2 rfl rfl rfl rfl rfl sz28 rfl rfl rfl ?_
 intro u4 hS Qn
 replace Q2 := Qn
 clear Qn
 replace Q1 := hS.other _ _ ne_k1_k2 Q1
 replace M := hS.mo _ N_k2 M
 clear hS
 refine w_nil (xn_then (w_seq (w_seq ?_)))
 refine w_any 39 [.inl (.bool true), .inl (.bool false), .inl (.bool false), .inl (pt k2 0), .inl (.int .i64 ((vBad e).k)), .inl (.bool false), .inl (.bool false), .inl (.bool false), .inl (.int .i64 (op)), .inl (.agg ((vBad e).cells).toArray), .inl (.agg (y.cells).toArray), .inl (.agg ((vBad e).cells).toArray), .inl (.agg ((vBad e).cells).toArray), .inl (.bool false), .inl (.bool false), .inl (.bool false), .inl (.agg ((vBad e).cells).toArray), .inl (.agg ((vBad e).cells).toArray), .inl (.agg ((vBad e).cells).toArray), .inl (.bool false), .inl (.bool false), .inl (.bool false), .inl (.agg ((vBad e).cells).toArray), .inl (.agg ((vBad e).cells).toArray), .inl (.agg ((vBad e).cells).toArray), .inl (.bool false), .inl (.bool false), .inl (.bool false), .inl (.agg ((vBad e).cells).toArray), .inl (.agg (y.cells).toArray), .inl (.agg (y.cells).toArray), .inl (.agg ((vBad e).cells).toArray), .inl (.agg ((vBad e).cells).toArray), .inl (.bool false), .inl (.bool false), .inl (.bool false), .inl (.agg ((vBad e).cells).toArray), .inl (.agg ((vBad e).cells).toArray), .inl (.agg ((vBad e).cells).toArray)] [] (by kernel_rfl) (by kernel_rfl) (by kernel_rfl) (by kernel_rfl) rfl (by kernel_rfl) (by kernel_rfl) late_nil ?_ ?_ ?_
 ·exact Ds.none rfl
 ·refine ea_cons ?_ (ea_cons ?_ (ea_cons ?_ (ea_cons ?_ (ea_cons ?_ (ea_cons ?_ (ea_cons ?_ (ea_cons ?_ (ea_cons ?_ (ea_cons ?_ (ea_cons ?_ (ea_cons ?_ (ea_cons ?_ (ea_cons ?_ (ea_cons ?_ (ea_cons ?_ (ea_cons ?_ (ea_cons ?_ (ea_cons ?_ (ea_cons ?_ (ea_cons ?_ (ea_cons ?_ (ea_cons ?_ (ea_cons ?_ (ea_cons ?_ (ea_cons ?_ (ea_cons ?_ (ea_cons ?_ (ea_cons ?_ (ea_cons ?_ (ea_cons ?_ (ea_cons ?_ (ea_cons ?_ (ea_cons ?_ (ea_cons ?_ (ea_cons ?_ (ea_cons ?_ (ea_cons ?_ (ea_cons ?_ (ea_nil)))))))))))))))))))))))))))))))))))))))
  ·exact og_eq _ rfl (fun f wf hq hd K hK => go_run rfl (wo_call 10 [] _ [] (.bool true) rfl rfl (fun _ _ => by kernel_rfl) (live_n _) hK))
  ·exact og_eq _ rfl (fun f wf hq hd K hK => go_run rfl (wo_un (fun v => Op.unary .not v) (.tmp 11) (.bool true) (.bool false) (fun _ => rfl) (hd 0 rfl) (by kernel_rfl) (hK _ (Mw.refl _))))
  ·exact og_eq _ rfl (fun f wf hq hd K hK => go_run rfl (wo_mv (.tmp 12) (.bool false) (fun _ => rfl) (hd 1 rfl) (hK _ (Mw.refl _))))
  ·exact og_eq _ rfl (fun f wf hq hd K hK => go_run (wnt_g rfl rfl rfl (hd 2 rfl) rfl) (wo_un (fun v => Instr.fieldAt 28 v 0) (.tmp 7) (pt k2 0) (pt k2 0) (fun _ => rfl) rfl (by kernel_rfl) (hK _ (Mw.refl _))))
  ·exact og_eq _ rfl (fun f wf hq hd K hK => have Q2 := Q2.mo hq; go_run (wnt_g rfl rfl rfl (hd 2 rfl) rfl) (wo_load 3 (.tmp 14) (pt k2 0) (.int .i64 ((vBad e).k)) rfl (hd 3 rfl) (run_one Q2 3 0 rfl Tryz.underlying3 rfl) (hK _ (Mw.refl _))))
  ·exact og_eq _ rfl (fun f wf hq hd K hK => go_run (wnt_g rfl rfl rfl (hd 2 rfl) rfl) (wo_bin (fun x y => do eqGuard .neq 3 (.tmp 15) (.const (.int .i64 (4))) x y; binOp .neq 3 x y) (.tmp 15) (.const (.int .i64 (4))) (.int .i64 ((vBad e).k)) (.int .i64 (4)) (.bool false) (fun _ => rfl) (hd 4 rfl) rfl (ne3 rfl _ _ _) (hK _ (Mw.refl _))))
  ·exact og_eq _ rfl (fun f wf hq hd K hK => go_run rfl (wo_pick (.tmp 13) (.const (.bool true)) (.tmp 16) false (.bool false) (fun _ => rfl) (hd 2 rfl) (hd 5 rfl) (hK _ (Mw.refl _))))
  ·exact og_eq _ rfl (fun f wf hq hd K hK => go_run rfl (wo_mv (.tmp 17) (.bool false) (fun _ => rfl) (hd 6 rfl) (hK _ (Mw.refl _))))
  ·exact og_eq _ rfl (fun f wf hq hd K hK => go_run (wnt_g rfl rfl rfl (hd 7 rfl) rfl) (wo_mv (.tmp 0) (.int .i64 (op)) (fun _ => rfl) rfl (hK _ (Mw.refl _))))
  ·exact og_eq _ rfl (fun f wf hq hd K hK => have Q2 := Q2.mo hq; go_run (wnt_g rfl rfl rfl (hd 7 rfl) rfl) (wo_load 28 (.tmp 7) (pt k2 0) (.agg ((vBad e).cells).toArray) rfl rfl (run_row Q2 28 0 10 ((vBad e).cells) rfl Tryz.underlying28 rfl sz28) (hK _ (Mw.refl _))))
  ·exact og_eq _ rfl (fun f wf hq hd K hK => have Q1 := Q1.mo hq; go_run (wnt_g rfl rfl rfl (hd 7 rfl) rfl) (wo_load 28 (.tmp 5) (pt k1 0) (.agg (y.cells).toArray) rfl rfl (run_row Q1 28 0 10 (y.cells) rfl Tryz.underlying28 rfl sz28) (hK _ (Mw.refl _))))
  ·exact og_eq _ rfl (fun f wf hq hd K hK => go_run (wnt_g rfl rfl rfl (hd 7 rfl) rfl) (wo_call 11 [(.tmp 19), (.tmp 20), (.tmp 21)] _ [.int .i64 (op), .agg ((vBad e).cells).toArray, .agg (y.cells).toArray] (.agg ((vBad e).cells).toArray) rfl (li3 (hd 8 rfl) (hd 9 rfl) (hd 10 rfl)) (fun _ _ => by kernel_rfl) (wk (cV (op_bad1 op e y) (op_n op (vBad e) y _ (ok_bad e) hy))) hK))
  ·exact og_eq _ rfl (fun f wf hq hd K hK => have Q2 := Q2.mo hq; go_run (wnt_g rfl rfl rfl (hd 7 rfl) rfl) (wo_load 28 (.tmp 7) (pt k2 0) (.agg ((vBad e).cells).toArray) rfl rfl (run_row Q2 28 0 10 ((vBad e).cells) rfl Tryz.underlying28 rfl sz28) (hK _ (Mw.refl _))))
  ·exact og_eq _ rfl (fun f wf hq hd K hK => go_run (wnt_g rfl rfl rfl (hd 7 rfl) rfl) (wo_bin (fun x y => do eqGuard .neq 28 (.tmp 22) (.tmp 23) x y; binOp .neq 28 x y) (.tmp 22) (.tmp 23) (.agg ((vBad e).cells).toArray) (.agg ((vBad e).cells).toArray) (.bool false) (fun _ => rfl) (hd 11 rfl) (hd 12 rfl) (neW (svv_self _) _ _ _) (hK _ (Mw.refl _))))
  ·exact og_eq _ rfl (fun f wf hq hd K hK => go_run rfl (wo_pick (.tmp 18) (.const (.bool true)) (.tmp 24) false (.bool false) (fun _ => rfl) (hd 7 rfl) (hd 13 rfl) (hK _ (Mw.refl _))))
  ·exact og_eq _ rfl (fun f wf hq hd K hK => go_run rfl (wo_mv (.tmp 25) (.bool false) (fun _ => rfl) (hd 14 rfl) (hK _ (Mw.refl _))))
  ·exact og_eq _ rfl (fun f wf hq hd K hK => have Q2 := Q2.mo hq; go_run (wnt_g rfl rfl rfl (hd 15 rfl) rfl) (wo_load 28 (.tmp 7) (pt k2 0) (.agg ((vBad e).cells).toArray) rfl rfl (run_row Q2 28 0 10 ((vBad e).cells) rfl Tryz.underlying28 rfl sz28) (hK _ (Mw.refl _))))
  ·exact og_eq _ rfl (fun f wf hq hd K hK => go_run (wnt_g rfl rfl rfl (hd 15 rfl) rfl) (wo_call 17 [(.tmp 27)] _ [.agg ((vBad e).cells).toArray] (.agg ((vBad e).cells).toArray) rfl (li1 (hd 16 rfl)) (fun _ _ => by kernel_rfl) (wk (cV (neg_bad e) (neg_n (vBad e) _ (ok_bad e)))) hK))
  ·exact og_eq _ rfl (fun f wf hq hd K hK => have Q2 := Q2.mo hq; go_run (wnt_g rfl rfl rfl (hd 15 rfl) rfl) (wo_load 28 (.tmp 7) (pt k2 0) (.agg ((vBad e).cells).toArray) rfl rfl (run_row Q2 28 0 10 ((vBad e).cells) rfl Tryz.underlying28 rfl sz28) (hK _ (Mw.refl _))))
  ·exact og_eq _ rfl (fun f wf hq hd K hK => go_run (wnt_g rfl rfl rfl (hd 15 rfl) rfl) (wo_bin (fun x y => do eqGuard .neq 28 (.tmp 28) (.tmp 29) x y; binOp .neq 28 x y) (.tmp 28) (.tmp 29) (.agg ((vBad e).cells).toArray) (.agg ((vBad e).cells).toArray) (.bool false) (fun _ => rfl) (hd 17 rfl) (hd 18 rfl) (neW (svv_self _) _ _ _) (hK _ (Mw.refl _))))
  ·exact og_eq _ rfl (fun f wf hq hd K hK => go_run rfl (wo_pick (.tmp 26) (.const (.bool true)) (.tmp 30) false (.bool false) (fun _ => rfl) (hd 15 rfl) (hd 19 rfl) (hK _ (Mw.refl _))))
  ·exact og_eq _ rfl (fun f wf hq hd K hK => go_run rfl (wo_mv (.tmp 31) (.bool false) (fun _ => rfl) (hd 20 rfl) (hK _ (Mw.refl _))))
  ·exact og_eq _ rfl (fun f wf hq hd K hK => have Q2 := Q2.mo hq; go_run (wnt_g rfl rfl rfl (hd 21 rfl) rfl) (wo_load 28 (.tmp 7) (pt k2 0) (.agg ((vBad e).cells).toArray) rfl rfl (run_row Q2 28 0 10 ((vBad e).cells) rfl Tryz.underlying28 rfl sz28) (hK _ (Mw.refl _))))
  ·exact og_eq _ rfl (fun f wf hq hd K hK => go_run (wnt_g rfl rfl rfl (hd 21 rfl) rfl) (wo_call 19 [(.tmp 33)] _ [.agg ((vBad e).cells).toArray] (.agg ((vBad e).cells).toArray) rfl (li1 (hd 22 rfl)) (fun _ _ => by kernel_rfl) (wk (cV (not_bad e) (not_n (vBad e) _ (ok_bad e)))) hK))
  ·exact og_eq _ rfl (fun f wf hq hd K hK => have Q2 := Q2.mo hq; go_run (wnt_g rfl rfl rfl (hd 21 rfl) rfl) (wo_load 28 (.tmp 7) (pt k2 0) (.agg ((vBad e).cells).toArray) rfl rfl (run_row Q2 28 0 10 ((vBad e).cells) rfl Tryz.underlying28 rfl sz28) (hK _ (Mw.refl _))))
  ·exact og_eq _ rfl (fun f wf hq hd K hK => go_run (wnt_g rfl rfl rfl (hd 21 rfl) rfl) (wo_bin (fun x y => do eqGuard .neq 28 (.tmp 34) (.tmp 35) x y; binOp .neq 28 x y) (.tmp 34) (.tmp 35) (.agg ((vBad e).cells).toArray) (.agg ((vBad e).cells).toArray) (.bool false) (fun _ => rfl) (hd 23 rfl) (hd 24 rfl) (neW (svv_self _) _ _ _) (hK _ (Mw.refl _))))
  ·exact og_eq _ rfl (fun f wf hq hd K hK => go_run rfl (wo_pick (.tmp 32) (.const (.bool true)) (.tmp 36) false (.bool false) (fun _ => rfl) (hd 21 rfl) (hd 25 rfl) (hK _ (Mw.refl _))))
  ·exact og_eq _ rfl (fun f wf hq hd K hK => go_run rfl (wo_mv (.tmp 37) (.bool false) (fun _ => rfl) (hd 26 rfl) (hK _ (Mw.refl _))))
  ·exact og_eq _ rfl (fun f wf hq hd K hK => have Q2 := Q2.mo hq; go_run (wnt_g rfl rfl rfl (hd 27 rfl) rfl) (wo_load 28 (.tmp 7) (pt k2 0) (.agg ((vBad e).cells).toArray) rfl rfl (run_row Q2 28 0 10 ((vBad e).cells) rfl Tryz.underlying28 rfl sz28) (hK _ (Mw.refl _))))
  ·exact og_eq _ rfl (fun f wf hq hd K hK => have Q1 := Q1.mo hq; go_run (wnt_g rfl rfl rfl (hd 27 rfl) rfl) (wo_load 28 (.tmp 5) (pt k1 0) (.agg (y.cells).toArray) rfl rfl (run_row Q1 28 0 10 (y.cells) rfl Tryz.underlying28 rfl sz28) (hK _ (Mw.refl _))))
  ·exact og_eq _ rfl (fun f wf hq hd K hK => have Q1 := Q1.mo hq; go_run (wnt_g rfl rfl rfl (hd 27 rfl) rfl) (wo_load 28 (.tmp 5) (pt k1 0) (.agg (y.cells).toArray) rfl rfl (run_row Q1 28 0 10 (y.cells) rfl Tryz.underlying28 rfl sz28) (hK _ (Mw.refl _))))
  ·exact og_eq _ rfl (fun f wf hq hd K hK => go_run (wnt_g rfl rfl rfl (hd 27 rfl) rfl) (wo_call 27 [(.tmp 39), (.tmp 40), (.tmp 41)] _ [.agg ((vBad e).cells).toArray, .agg (y.cells).toArray, .agg (y.cells).toArray] (.agg ((vBad e).cells).toArray) rfl (li3 (hd 28 rfl) (hd 29 rfl) (hd 30 rfl)) (fun _ _ => by kernel_rfl) (wk (cV (if_bad e y y) (if_n (vBad e) y y _ (ok_bad e) hy hy))) hK))
  ·exact og_eq _ rfl (fun f wf hq hd K hK => have Q2 := Q2.mo hq; go_run (wnt_g rfl rfl rfl (hd 27 rfl) rfl) (wo_load 28 (.tmp 7) (pt k2 0) (.agg ((vBad e).cells).toArray) rfl rfl (run_row Q2 28 0 10 ((vBad e).cells) rfl Tryz.underlying28 rfl sz28) (hK _ (Mw.refl _))))
  ·exact og_eq _ rfl (fun f wf hq hd K hK => go_run (wnt_g rfl rfl rfl (hd 27 rfl) rfl) (wo_bin (fun x y => do eqGuard .neq 28 (.tmp 42) (.tmp 43) x y; binOp .neq 28 x y) (.tmp 42) (.tmp 43) (.agg ((vBad e).cells).toArray) (.agg ((vBad e).cells).toArray) (.bool false) (fun _ => rfl) (hd 31 rfl) (hd 32 rfl) (neW (svv_self _) _ _ _) (hK _ (Mw.refl _))))
  ·exact og_eq _ rfl (fun f wf hq hd K hK => go_run rfl (wo_pick (.tmp 38) (.const (.bool true)) (.tmp 44) false (.bool false) (fun _ => rfl) (hd 27 rfl) (hd 33 rfl) (hK _ (Mw.refl _))))
  ·exact og_eq _ rfl (fun f wf hq hd K hK => go_run rfl (wo_mv (.tmp 45) (.bool false) (fun _ => rfl) (hd 34 rfl) (hK _ (Mw.refl _))))
  ·exact og_eq _ rfl (fun f wf hq hd K hK => have Q2 := Q2.mo hq; go_run (wnt_g rfl rfl rfl (hd 35 rfl) rfl) (wo_load 28 (.tmp 7) (pt k2 0) (.agg ((vBad e).cells).toArray) rfl rfl (run_row Q2 28 0 10 ((vBad e).cells) rfl Tryz.underlying28 rfl sz28) (hK _ (Mw.refl _))))
  ·exact og_eq _ rfl (fun f wf hq hd K hK => go_run (wnt_g rfl rfl rfl (hd 35 rfl) rfl) (wo_call 21 [(.tmp 47)] _ [.agg ((vBad e).cells).toArray] (.agg ((vBad e).cells).toArray) rfl (li1 (hd 36 rfl)) (fun _ _ => by kernel_rfl) (wk (cV (blk_bad e) (blk_n (vBad e) _ (ok_bad e)))) hK))
  ·exact og_eq _ rfl (fun f wf hq hd K hK => have Q2 := Q2.mo hq; go_run (wnt_g rfl rfl rfl (hd 35 rfl) rfl) (wo_load 28 (.tmp 7) (pt k2 0) (.agg ((vBad e).cells).toArray) rfl rfl (run_row Q2 28 0 10 ((vBad e).cells) rfl Tryz.underlying28 rfl sz28) (hK _ (Mw.refl _))))
 intro kf5 u5 hq hR hne
 replace Q1 := Q1.mo hq
 replace Q2 := Q2.mo hq
 replace M := M.trans hq
 clear hq hR hne
 refine wl_b .neq 28 (.tmp 48) (.tmp 49) (.agg ((vBad e).cells).toArray) (.agg ((vBad e).cells).toArray) (.bool false) (neW (svv_self _) _ _ _) ?_
 refine wl_pick (.tmp 46) (.const (.bool true)) (.tmp 50) false (.bool false) (fun _ => rfl) rfl rfl rfl ?_
 refine w_nil (xn_then (w_condF rfl (w_skip (xn_then (w_seq (w_reg ?_))))))
 refine wl_build 24 [(0, (.const (.int .u64 (1))))] [(0, .int .u64 (1))] (.agg #[.int .u64 (1), .int .u64 0, .int .u64 0, .int .u64 0]) rfl rfl (by kernel_rfl) rfl ?_
 refine wl_build 26 [(1, (.tmp 52))] [(1, .agg #[.int .u64 (1), .int .u64 0, .int .u64 0, .int .u64 0])] (.agg #[.bool false, .int .u64 (1), .int .u64 0, .int .u64 0, .int .u64 0, .int .i64 0]) rfl rfl (by kernel_rfl) rfl ?_
 refine wl_build 28 [(0, (.const (.int .i64 (1)))), (1, (.tmp 53))] [(0, .int .i64 (1)), (1, .agg #[.bool false, .int .u64 (1), .int .u64 0, .int .u64 0, .int .u64 0, .int .i64 0])] (.agg #[.int .i64 (1), .bool false, .int .u64 (1), .int .u64 0, .int .u64 0, .int .u64 0, .int .i64 0, .bool false, .string ⟨#[]⟩, .int .i64 0]) rfl rfl (by kernel_rfl) rfl ?_
 refine wl_alloc 28 #[.int .i64 0, .bool false, .int .u64 0, .int .u64 0, .int .u64 0, .int .u64 0, .int .i64 0, .bool false, .string ⟨#[]⟩, .int .i64 0] rfl (fun _ => by kernel_rfl) rfl ?_
 intro k3 u6 hk hz hq Q3
 have ne_k1_k3 : k1 ≠ k3 := by have := Q1.lt; omega
 have ne_k2_k3 : k2 ≠ k3 := by have := Q2.lt; omega
 have N_k3 : w.heap.size ≤ k3 := by have := M.size; omega
 replace Q1 := Q1.mo hq
 replace Q2 := Q2.mo hq
 replace M := M.trans hq
 clear hk hz hq
 refine wl_st 28 (.tmp 8) (.tmp 54) k3 0 #[.int .i64 (1), .bool false, .int .u64 (1), .int .u64 0, .int .u64 0, .int .u64 0, .int .i64 0, .bool false, .string ⟨#[]⟩, .int .i64 0] _ [.int .i64 (1), .bool false, .int .u64 (1), .int .u64 0, .int .u64 0, .int .u64 0, .int .i64 0, .bool false, .string ⟨#[]⟩, .int .i64 0] Q3 rfl rfl rfl rfl rfl sz28 rfl rfl rfl ?_
 intro u7 hS Qn
 replace Q3 := Qn
 clear Qn
 replace Q1 := hS.other _ _ ne_k1_k3 Q1
 replace Q2 := hS.other _ _ ne_k2_k3 Q2
 replace M := hS.mo _ N_k3 M
 clear hS
 refine w_nil (xn_then (w_seq ?_))
 refine w_any 5 [.inl (.int .i64 (op)), .inl (.agg #[.int .i64 (1), .bool false, .int .u64 (1), .int .u64 0, .int .u64 0, .int .u64 0, .int .i64 0, .bool false, .string ⟨#[]⟩, .int .i64 0]), .inl (.agg ((vBad e).cells).toArray), .inl (.agg ((vBad e).cells).toArray), .inl (.agg ((vBad e).cells).toArray)] [] (by kernel_rfl) (by kernel_rfl) (by kernel_rfl) (by kernel_rfl) rfl (by kernel_rfl) (by kernel_rfl) late_nil ?_ ?_ ?_
 ·exact Ds.none rfl
 ·refine ea_cons ?_ (ea_cons ?_ (ea_cons ?_ (ea_cons ?_ (ea_cons ?_ (ea_nil)))))
  ·exact og_eq _ rfl (fun f wf hq hd K hK => go_run rfl (wo_mv (.tmp 0) (.int .i64 (op)) (fun _ => rfl) rfl (hK _ (Mw.refl _))))
  ·exact og_eq _ rfl (fun f wf hq hd K hK => have Q3 := Q3.mo hq; go_run rfl (wo_load 28 (.tmp 8) (pt k3 0) (.agg #[.int .i64 (1), .bool false, .int .u64 (1), .int .u64 0, .int .u64 0, .int .u64 0, .int .i64 0, .bool false, .string ⟨#[]⟩, .int .i64 0]) rfl rfl (run_row Q3 28 0 10 _ rfl Tryz.underlying28 rfl sz28) (hK _ (Mw.refl _))))
  ·exact og_eq _ rfl (fun f wf hq hd K hK => have Q2 := Q2.mo hq; go_run rfl (wo_load 28 (.tmp 7) (pt k2 0) (.agg ((vBad e).cells).toArray) rfl rfl (run_row Q2 28 0 10 ((vBad e).cells) rfl Tryz.underlying28 rfl sz28) (hK _ (Mw.refl _))))
  ·exact og_eq _ rfl (fun f wf hq hd K hK => go_run rfl (wo_call 11 [(.tmp 55), (.tmp 56), (.tmp 57)] _ [.int .i64 (op), .agg #[.int .i64 (1), .bool false, .int .u64 (1), .int .u64 0, .int .u64 0, .int .u64 0, .int .i64 0, .bool false, .string ⟨#[]⟩, .int .i64 0], .agg ((vBad e).cells).toArray] (.agg ((vBad e).cells).toArray) rfl (li3 (hd 0 rfl) (hd 1 rfl) (hd 2 rfl)) (fun _ _ => by kernel_rfl) (wk (cV (op_bad2 op e (show ask (vNu false 1 0) = 0 from by unfold ask; rw [if_pos (ckv_vNu (by decide))]; rfl)) (op_n op (vNu false 1 0) (vBad e) _ ⟨by decide, by decide⟩ (ok_bad e)))) hK))
  ·exact og_eq _ rfl (fun f wf hq hd K hK => have Q2 := Q2.mo hq; go_run rfl (wo_load 28 (.tmp 7) (pt k2 0) (.agg ((vBad e).cells).toArray) rfl rfl (run_row Q2 28 0 10 ((vBad e).cells) rfl Tryz.underlying28 rfl sz28) (hK _ (Mw.refl _))))
 intro kf8 u8 hq hR hne
 replace Q1 := Q1.mo hq
 replace Q2 := Q2.mo hq
 replace Q3 := Q3.mo hq
 replace M := M.trans hq
 clear hq hR hne
 refine wl_b .eql 28 (.tmp 58) (.tmp 59) (.agg ((vBad e).cells).toArray) (.agg ((vBad e).cells).toArray) (.bool true) (eqW (svv_self _) _ _ _) ?_
 refine wl_m (.tmp 60) (.bool true) ?_
 refine w_nil (xn_then (w_ret ?_))
 exact w_ret1 _ _ rfl rfl ⟨rfl, M⟩
end Go.Proofs.YtogomodbcjpfiaaGreatDoor.V
