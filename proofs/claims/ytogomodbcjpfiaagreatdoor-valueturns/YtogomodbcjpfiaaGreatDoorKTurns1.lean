/-
  A part of the proof.
-/
import Derived.Test.YtogomodbcjpfiaaGreatDoorKa4
import Derived.Test.YtogomodbcjpfiaaGreatDoorKa3
import Derived.Test.YtogomodbcjpfiaaGreatDoorKa2
import Derived.Test.YtogomodbcjpfiaaGreatDoorKa1
import Derived.RegionTactic
import Derived.Test.YtogomodbcjpfiaaGreatDoorProg
import Derived.WalkKit
import Derived.WalkSpells
import Derived.Handy
import Derived.BigQuiet
import Derived.Deep.RegionHeld3
import Derived.Deep.MidRow
import Derived.BigCall
import Derived.Test.YtogomodbcjpfiaaGreatDoorKa14
import Derived.Test.YtogomodbcjpfiaaGreatDoorKa11
import Derived.Test.YtogomodbcjpfiaaGreatDoorKa9
import Derived.Test.YtogomodbcjpfiaaGreatDoorKa8
import Derived.Test.YtogomodbcjpfiaaGreatDoorKa5
import Derived.Shelf.Small.Bits
import Derived.Shelf.Strconv.Itoa0
import Derived.Shelf.Bits.Mul64
import Derived.Deep.CutBlock
import Derived.Deep.CutRange
import Derived.Test.YtogomodbcjpfiaaGreatDoorKa7
import Derived.Test.YtogomodbcjpfiaaGreatDoorKa6
import Derived.ChangeKeysEq
import Derived.ScopeJumps
import Derived.WalkMore
import Derived.Laws.StructEq
import Derived.Test.YtogomodbcjpfiaaGreatDoorKa10
import Derived.Test.YtogomodbcjpfiaaGreatDoorKa13
import Derived.Test.YtogomodbcjpfiaaGreatDoorKa12
import Derived.Test.YtogomodbcjpfiaaGreatDoorKa17
import Derived.Test.YtogomodbcjpfiaaGreatDoorKa16
import Derived.Test.YtogomodbcjpfiaaGreatDoorKa15
import Derived.Shelf.Strings.Builder1
import Derived.Shelf.Strings.Builder2
import Derived.Shelf.Small.Wraps
import Derived.Shelf.Strings.BuilderF
import Derived.Shelf.Strings.BuilderK
import Derived.Shelf.Strings.Prefix
import Derived.Shelf.Strings.Repeat
import Derived.Lib.CutLaws
import Derived.Lib.IndexBytes
import Derived.Maps.OwnSet
import Derived.WalkArith
import Derived.StringKeys
import Derived.Test.YtogomodbcjpfiaaGreatDoorKa18
import Derived.Test.YtogomodbcjpfiaaGreatDoorKa19
import Derived.Test.YtogomodbcjpfiaaGreatDoorKa21
import Derived.Test.YtogomodbcjpfiaaGreatDoorKa20
import Derived.Maps.AppendAt
import Derived.Deep.AppendLies
import Derived.Laws.BytesString
namespace Go.Proofs.YtogomodbcjpfiaaGreatDoor
open Go.RowKit
section
variable {P : Program} {o : Oper} {n : Nat} {l : List (Nat × Value)} {w : World} {ops : Array Oper} {rest : List Oper} {Q : Exit → Act → World → Prop} {K : Act → World → Prop}
theorem wo_bin (F : Value → Value → Sem Value) (x y : Operand) (p q v : Value) (ho : ∀ ρ, execOp ρ o = (do pure (.value (← F (ρ x) (ρ y))))) (hx : evl n l x = p) (hy : evl n l y = q) (h : (F p q).run P w = .ok v w) (hk : K (fr n (ext l o.dst v)) w) : WO P o n l w K Q := ⟨o_bin F x y p q v ho hx hy h hk⟩
theorem wo_pick (c x y : Operand) (t : Bool) (v : Value) (ho : ∀ ρ, execOp ρ o = (do pure (.value (if ← asBool (ρ c) then ρ x else ρ y)))) (hc : evl n l c = .bool t) (hv : evl n l (bif t then x else y) = v) (hk : K (fr n (ext l o.dst v)) w) : WO P o n l w K Q := ⟨o_pick c x y t v ho hc hv hk⟩
end
end Go.Proofs.YtogomodbcjpfiaaGreatDoor

namespace Go.Proofs.YtogomodbcjpfiaaGreatDoor
open Go.RowKit
theorem pw_pos (k : Int) : 0 < pw k := Int.pow_pos (by decide)
end Go.Proofs.YtogomodbcjpfiaaGreatDoor

namespace Go.Proofs.YtogomodbcjpfiaaGreatDoor
open Go.RowKit
set_option maxHeartbeats 2000000 in
theorem rcheck_n (b : Bool) (n s : Int) (w : World) (hn0 : 0 ≤ n) (hn : n < MM) : Calls Tryz.prog 42 #[dc b n s] w fun e w' => e = .returned (.int .i64 (ck b n s)) ∧ Mo w w' := by
 have q4 := eq4
 have z4 := zb hn0 hn
 by_cases h1 : s < 0
 ·have d1 : decide (s < 0) = true := decide_eq_true h1
  have e : Hid (ck b n s = 20) := by show _ = _; unfold ck sc; rw [decide_eq_false (p := 0 ≤ s) (by omega)]; rfl
  clear h1
  go_enter Tryz.func42, Tryz.ntmps42
  go_wp2
  go_ret
  exact ⟨by rw [e.out]; rfl, (Mo.refl _).alloc _ _⟩
 ·by_cases h2 : s > 18
  ·have d1 : decide (s < 0) = false := decide_eq_false h1
   have d2 : decide (s > 18) = true := decide_eq_true h2
   have e : Hid (ck b n s = 20) := by show _ = _; unfold ck sc; rw [decide_eq_false (p := s ≤ 18) (by omega)]; simp
   clear h1 h2
   go_enter Tryz.func42, Tryz.ntmps42
   go_wp2
   go_ret
   exact ⟨by rw [e.out]; rfl, (Mo.refl _).alloc _ _⟩
  ·have d1 : decide (s < 0) = false := decide_eq_false h1
   have d2 : decide (s > 18) = false := decide_eq_false h2
   have e : Hid (sc s = true) := by show _ = _; unfold sc; rw [decide_eq_true (p := 0 ≤ s) (by omega), decide_eq_true (p := s ≤ 18) (by omega)]; rfl
   clear h1 h2
   cases hb : b <;> cases hz : decide (n = 0)
   all_goals
    rw [hz] at z4
    have HZ : Hid _ := hz
    clear hz
    go_enter Tryz.func42, Tryz.ntmps42
    go_wp2
    go_ret
    exact ⟨by rw [ck, e.out, HZ.out]; rfl, (Mo.refl _).alloc _ _⟩
end Go.Proofs.YtogomodbcjpfiaaGreatDoor

namespace Go.Proofs.YtogomodbcjpfiaaGreatDoor.V
open Go.RowKit
section
variable {P : Program} {o : Oper} {n : Nat} {l : List (Nat × Value)} {w : World} {ops : Array Oper} {rest : List Oper} {Q : Exit → Act → World → Prop} {K : Act → World → Prop}
theorem wo_bin (F : Value → Value → Sem Value) (x y : Operand) (p q v : Value) (ho : ∀ ρ, execOp ρ o = (do pure (.value (← F (ρ x) (ρ y))))) (hx : evl n l x = p) (hy : evl n l y = q) (h : (F p q).run P w = .ok v w) (hk : K (fr n (ext l o.dst v)) w) : WO P o n l w K Q := ⟨o_bin F x y p q v ho hx hy h hk⟩
theorem wo_pick (c x y : Operand) (t : Bool) (v : Value) (ho : ∀ ρ, execOp ρ o = (do pure (.value (if ← asBool (ρ c) then ρ x else ρ y)))) (hc : evl n l c = .bool t) (hv : evl n l (bif t then x else y) = v) (hk : K (fr n (ext l o.dst v)) w) : WO P o n l w K Q := ⟨o_pick c x y t v ho hc hv hk⟩
end
end Go.Proofs.YtogomodbcjpfiaaGreatDoor.V

namespace Go.Proofs.YtogomodbcjpfiaaGreatDoor
open Go.RowKit Go.ChangeMaps
theorem notb (r : Bool) (w : World) : (Op.unary .not (.bool r)).run Tryz.prog w = .ok (.bool (!r)) w := by kernel_rfl
/-! Maps from names to whole numbers, and from names to flags. -/
variable {w w' : World} {b : Nat} {al : List (ByteArray × Int)}
end Go.Proofs.YtogomodbcjpfiaaGreatDoor

namespace Go.Proofs.YtogomodbcjpfiaaGreatDoor
open Go.RowKit
theorem svv_bl {x : VL} (h : ¬ x.k = 0) : svv x vBl = false := by simp [svv, svl, vBl, h]
theorem isE_bad (e : Int) : isE (if isE e then e else 2) = true := by
 split
 ·assumption
 ·rfl
theorem ckv_vEr {e : Int} (h : isE e = true) : ckv (vEr e) = true := by
 have : bareV (vEr e) = vEr e := by unfold bareV vEr; simp
 unfold ckv; rw [this, svv_self]; unfold inB vEr; simp [h]
theorem ckv_vBad (e : Int) : ckv (vBad e) = true := ckv_vEr (isE_bad e)
theorem ckv_vFl (f : Bool) : ckv (vFl f) = true := by
 have : bareV (vFl f) = vFl f := by unfold bareV vFl; simp
 unfold ckv; rw [this, svv_self]; unfold inB vFl; simp
def askK (k : Int) (v : VL) : Int := if ask v = 0 then (if v.k = k then 0 else 2) else ask v
def notV (x : VL) : VL := if askK 2 x = 0 then vFl (!x.f) else vBad (askK 2 x)
end Go.Proofs.YtogomodbcjpfiaaGreatDoor
namespace Go.Proofs.YtogomodbcjpfiaaGreatDoor
open Go.RowKit
theorem fault1_n (x : VL) (kk : Nat) (w : World) (hA : At w kk x.cells) (hx : x.ok) : Calls Tryz.prog 31 #[.slice (some ⟨kk, 0, none⟩) 1 1] w fun e9 w' => e9 = .returned (.int .i64 (ask x)) ∧ Mo w w' := by
 refine w_enter 26 Tryz.func31 Tryz.ntmps31 rfl rfl ?_
 have M : Mo w w := Mo.refl _
 refine w_seq (w_reg ?_)
 refine wl_m (.const (.int .i64 (0))) (.int .i64 (0)) ?_
 refine w_nil (xn_then (w_seq (w_seq (w_reg ?_))))
 refine wl_m (.tmp 0) (.slice (some ⟨kk, 0, none⟩) 1 1) ?_
 refine wl_val (.int .i64 (1)) (len45 _ _ _ 1 _ (by exact rfl) _ _ _ _ _ _) rfl ?_
 refine wl_m (.const (.int .i64 (0))) (.int .i64 (0)) ?_
 refine w_nil (xn_then (w_block ?_))
 refine w_rounds 3 ?_
 refine w_seq (w_reg ?_)
 refine wl_b .lss 3 (.tmp 7) (.tmp 6) (.int .i64 (0)) (.int .i64 (1)) (.bool true) (lt3 (r := true) rfl _ _ _) ?_
 refine w_nil (xn_then (w_seq (w_condT rfl (w_skip (xn_then (w_seq (w_block (w_seq (w_reg ?_)))))))))
 refine wl_bin (fun x y => Instr.indexAt 45 x y) (.tmp 5) (.tmp 7) (.slice (some ⟨kk, 0, none⟩) 1 1) (.int .i64 (0)) (pt kk 0) (fun _ => rfl) rfl rfl (ix45 (i := 0) rfl (by decide) _) rfl ?_
 refine wl_l 28 (.tmp 9) (pt kk 0) (.agg (x.cells).toArray) (run_row hA 28 0 10 (x.cells) rfl Tryz.underlying28 rfl sz28) ?_
 refine wl_alloc 28 #[.int .i64 0, .bool false, .int .u64 0, .int .u64 0, .int .u64 0, .int .u64 0, .int .i64 0, .bool false, .string ⟨#[]⟩, .int .i64 0] rfl (fun _ => by kernel_rfl) rfl ?_
 intro k1 u1 hk hz hq Q1
 have ne_kk_k1 : kk ≠ k1 := by have := hA.lt; omega
 have N_k1 : w.heap.size ≤ k1 := by have := M.size; omega
 replace hA := hA.mo hq
 replace M := M.trans hq
 clear hk hz hq
 refine wl_st 28 (.tmp 4) (.tmp 10) k1 0 ((x.cells).toArray) _ (x.cells) Q1 rfl rfl rfl rfl rfl sz28 rfl rfl rfl ?_
 intro u2 hS Qn
 replace Q1 := Qn
 clear Qn
 replace hA := hS.other _ _ ne_kk_k1 hA
 replace M := hS.mo _ N_k1 M
 clear hS
 refine w_nil (xn_then (w_block (w_seq (w_reg ?_))))
 refine wl_l 28 (.tmp 4) (pt k1 0) (.agg (x.cells).toArray) (run_row Q1 28 0 10 (x.cells) rfl Tryz.underlying28 rfl sz28) ?_
 cases hf0 : ckv x with
 | true =>
  refine wl_call 13 [(.tmp 12)] _ [.agg (x.cells).toArray] (.int .i64 (0)) rfl rfl (fun _ _ => by kernel_rfl) (check_t hf0 hx _) rfl ?_
  intro u3 hq
  replace hA := hA.mo hq
  replace Q1 := Q1.mo hq
  replace M := M.trans hq
  clear hq
  refine wl_b .neq 32 (.tmp 13) (.const (.int .i64 (0))) (.int .i64 (0)) (.int .i64 (0)) (.bool false) (ne34 (r := true) rfl _ _ _) ?_
  refine wl_m (.tmp 14) (.bool false) ?_
  refine w_nil (xn_then (w_condF rfl (w_seq (w_reg ?_))))
  refine wl_f 28 0 (.tmp 4) (pt k1 0) (pt k1 0) ?_
  refine wl_l 3 (.tmp 16) (pt k1 0) (.int .i64 (x.k)) (run_one Q1 3 0 rfl Tryz.underlying3 rfl) ?_
  cases hf1 : decide (x.k = 4) with
  | true =>
   have hf1p := of_decide_eq_true hf1
   refine wl_b .eql 3 (.tmp 17) (.const (.int .i64 (4))) (.int .i64 (x.k)) (.int .i64 (4)) (.bool true) (eq3 hf1 _ _ _) ?_
   refine wl_m (.tmp 18) (.bool true) ?_
   refine w_nil (xn_then (w_condT rfl (w_seq (w_reg ?_))))
   refine wl_f 28 4 (.tmp 4) (pt k1 0) (pt k1 9) ?_
   refine wl_l 3 (.tmp 19) (pt k1 9) (.int .i64 (x.e)) (run_one Q1 3 9 rfl Tryz.underlying3 rfl) ?_
   refine wl_m (.tmp 20) (.int .i64 (x.e)) ?_
   refine w_nil (xn_then (w_ret (xr_blk (xr_blk (xr_then (xr_then (xr_blk (xr_then ?_))))))))
   exact w_ret1 _ (.int .i64 (x.e)) rfl rfl ⟨by first | (simp [ask, ask, hf0, hf1p]; done) | (rw [ask2_e hx (by assumption) (by assumption)]), M⟩
  | false =>
   have hf1p := of_decide_eq_false hf1
   refine wl_b .eql 3 (.tmp 17) (.const (.int .i64 (4))) (.int .i64 (x.k)) (.int .i64 (4)) (.bool false) (eq3 hf1 _ _ _) ?_
   refine wl_m (.tmp 18) (.bool false) ?_
   refine w_nil (xn_then (w_condF rfl (w_seq (w_reg ?_))))
   refine wl_f 28 0 (.tmp 4) (pt k1 0) (pt k1 0) ?_
   refine wl_l 3 (.tmp 22) (pt k1 0) (.int .i64 (x.k)) (run_one Q1 3 0 rfl Tryz.underlying3 rfl) ?_
   cases hf2 : decide (x.k = 0) with
   | true =>
    have hf2p := of_decide_eq_true hf2
    refine wl_b .eql 3 (.tmp 23) (.const (.int .i64 (0))) (.int .i64 (x.k)) (.int .i64 (0)) (.bool true) (eq3 hf2 _ _ _) ?_
    refine wl_m (.tmp 24) (.bool true) ?_
    refine w_nil (xn_then (w_condT rfl (w_seq (w_reg ?_))))
    refine wl_m (.const (.int .i64 (3))) (.int .i64 (3)) ?_
    refine w_nil (xn_then (w_ret (xr_blk (xr_blk (xr_then (xr_then (xr_blk (xr_then ?_))))))))
    exact w_ret1 _ (.int .i64 (3)) rfl rfl ⟨by first | (simp [ask, ask, hf0, hf2p]; done) | (rw [ask2_e hx (by assumption) (by assumption)]), M⟩
   | false =>
    have hf2p := of_decide_eq_false hf2
    refine wl_b .eql 3 (.tmp 23) (.const (.int .i64 (0))) (.int .i64 (x.k)) (.int .i64 (0)) (.bool false) (eq3 hf2 _ _ _) ?_
    refine wl_m (.tmp 24) (.bool false) ?_
    refine w_nil (xn_then (w_condF rfl (w_skip (xn_blk (xn_blk (xn_then (w_reg ?_)))))))
    refine wl_b .add 3 (.tmp 7) (.const (.int .i64 (1))) (.int .i64 (0)) (.int .i64 (1)) (.int .i64 (1)) (by kernel_rfl) ?_
    refine wl_m (.tmp 25) (.int .i64 (1)) ?_
    refine w_nil ?_
    refine xn_rounds ?_
    refine w_seq (w_reg ?_)
    refine wl_b .lss 3 (.tmp 7) (.tmp 6) (.int .i64 (1)) (.int .i64 (1)) (.bool false) (lt3 (r := false) rfl _ _ _) ?_
    refine w_nil (xn_then (w_seq (w_condF rfl (w_exit (xx_then (xx_then (xx_blk (xn_then (w_seq (w_reg ?_))))))))))
    refine wl_m (.const (.int .i64 (0))) (.int .i64 (0)) ?_
    refine w_nil (xn_then (w_ret ?_))
    exact w_ret1 _ (.int .i64 (0)) rfl rfl ⟨by first | (simp [ask, ask, hf0, hf1p, hf2p]; done) | (rw [ask2_e hx (by assumption) (by assumption)]), M⟩
 | false =>
  refine wl_call 13 [(.tmp 12)] _ [.agg (x.cells).toArray] (.int .i64 (1)) rfl rfl (fun _ _ => by kernel_rfl) (check_f hf0 hx _) rfl ?_
  intro u3 hq
  replace hA := hA.mo hq
  replace Q1 := Q1.mo hq
  replace M := M.trans hq
  clear hq
  refine wl_b .neq 32 (.tmp 13) (.const (.int .i64 (0))) (.int .i64 (1)) (.int .i64 (0)) (.bool true) (ne34 (r := false) rfl _ _ _) ?_
  refine wl_m (.tmp 14) (.bool true) ?_
  refine w_nil (xn_then (w_condT rfl (w_seq (w_reg ?_))))
  refine wl_m (.const (.int .i64 (2))) (.int .i64 (2)) ?_
  refine w_nil (xn_then (w_ret (xr_blk (xr_blk (xr_then (xr_then (xr_blk (xr_then ?_))))))))
  exact w_ret1 _ (.int .i64 (2)) rfl rfl ⟨by first | (simp [ask, ask, hf0]; done) | (rw [ask2_e hx (by assumption) (by assumption)]), M⟩
theorem faultFor_n (k : Int) (x : VL) (w : World) (hx : x.ok) : Calls Tryz.prog 44 #[.int .i64 k, x.v] w fun e9 w' => e9 = .returned (.int .i64 (askK k x)) ∧ Mo w w' := by
 refine w_enter 16 Tryz.func44 Tryz.ntmps44 rfl rfl ?_
 have M : Mo w w := Mo.refl _
 refine w_seq (w_reg ?_)
 refine wl_box 28 (.tmp 1) _ (((x.cells).toArray)) rfl rfl (fun _ => by kernel_rfl) rfl ?_
 intro k1 u1 hk hz hq Q1
 have N_k1 : w.heap.size ≤ k1 := by have := M.size; omega
 replace M := M.trans hq
 clear hk hz hq
 refine wl_m (.const (.int .i64 (0))) (.int .i64 (0)) ?_
 refine w_nil (xn_then (w_seq (w_seq (w_reg ?_))))
 refine wl_l 28 (.tmp 3) (pt k1 0) (.agg (x.cells).toArray) (run_row Q1 28 0 10 (x.cells) rfl Tryz.underlying28 rfl sz28) ?_
 refine wl_bs 45 1 [(0, (.tmp 6))] [(0, .agg (x.cells).toArray)] ((x.cells).toArray) 28 rfl rfl (fun _ => by kernel_rfl) rfl ?_
 intro k2 u2 hk hz hq Q2
 have ne_k1_k2 : k1 ≠ k2 := by have := Q1.lt; omega
 have N_k2 : w.heap.size ≤ k2 := by have := M.size; omega
 replace Q1 := Q1.mo hq
 replace M := M.trans hq
 clear hk hz hq
 refine wl_call 31 [(.tmp 7)] _ [.slice (some ⟨k2, 0, none⟩) 1 1] (.int .i64 (ask x)) rfl rfl (fun _ _ => by kernel_rfl) (fault1_n x k2 _ Q2 hx) rfl ?_
 intro u3 hq
 replace Q1 := Q1.mo hq
 replace Q2 := Q2.mo hq
 replace M := M.trans hq
 clear hq
 refine wl_m (.tmp 8) (.int .i64 (ask x)) ?_
 refine w_nil (xn_then (w_seq (w_reg ?_)))
 refine wl_m (.tmp 5) (.int .i64 (ask x)) ?_
 cases hf0 : decide (ask x = 0) with
 | true =>
  have hf0p := of_decide_eq_true hf0
  refine wl_b .neq 3 (.tmp 9) (.const (.int .i64 (0))) (.int .i64 (ask x)) (.int .i64 (0)) (.bool false) (ne3 hf0 _ _ _) ?_
  refine w_nil (xn_then (w_condF rfl (w_skip (xn_then (w_seq (w_seq (w_reg ?_)))))))
  refine wl_f 28 0 (.tmp 3) (pt k1 0) (pt k1 0) ?_
  refine wl_l 3 (.tmp 12) (pt k1 0) (.int .i64 (x.k)) (run_one Q1 3 0 rfl Tryz.underlying3 rfl) ?_
  refine wl_m (.tmp 0) (.int .i64 (k)) ?_
  cases hf1 : decide (x.k = k) with
  | true =>
   have hf1p := of_decide_eq_true hf1
   refine wl_b .neq 3 (.tmp 13) (.tmp 14) (.int .i64 (x.k)) (.int .i64 (k)) (.bool false) (ne3 hf1 _ _ _) ?_
   refine w_nil (xn_then (w_condF rfl (w_skip (xn_then (w_seq (w_reg ?_))))))
   refine wl_m (.const (.int .i64 (0))) (.int .i64 (0)) ?_
   refine w_nil (xn_then (w_ret ?_))
   exact w_ret1 _ (.int .i64 (0)) rfl rfl ⟨by simp [askK, hf0p, hf1p], M⟩
  | false =>
   have hf1p := of_decide_eq_false hf1
   refine wl_b .neq 3 (.tmp 13) (.tmp 14) (.int .i64 (x.k)) (.int .i64 (k)) (.bool true) (ne3 hf1 _ _ _) ?_
   refine w_nil (xn_then (w_condT rfl (w_seq (w_reg ?_))))
   refine wl_m (.const (.int .i64 (2))) (.int .i64 (2)) ?_
   refine w_nil (xn_then (w_ret (xr_then ?_)))
   exact w_ret1 _ (.int .i64 (2)) rfl rfl ⟨by simp [askK, hf0p, hf1p], M⟩
 | false =>
  have hf0p := of_decide_eq_false hf0
  refine wl_b .neq 3 (.tmp 9) (.const (.int .i64 (0))) (.int .i64 (ask x)) (.int .i64 (0)) (.bool true) (ne3 hf0 _ _ _) ?_
  refine w_nil (xn_then (w_condT rfl (w_seq (w_reg ?_))))
  refine wl_m (.tmp 5) (.int .i64 (ask x)) ?_
  refine wl_m (.tmp 11) (.int .i64 (ask x)) ?_
  refine w_nil (xn_then (w_ret (xr_then ?_)))
  exact w_ret1 _ (.int .i64 (ask x)) rfl rfl ⟨by simp [askK, hf0p], M⟩
end Go.Proofs.YtogomodbcjpfiaaGreatDoor
namespace Go.Proofs.YtogomodbcjpfiaaGreatDoor
open Go.RowKit
theorem not_n (x : VL) (w : World) (hx : x.ok) : Calls Tryz.prog 19 #[x.v] w fun e9 w' => e9 = .returned (notV x).v ∧ Mo w w' := by
 refine w_enter 14 Tryz.func19 Tryz.ntmps19 rfl rfl ?_
 have M : Mo w w := Mo.refl _
 refine w_seq (w_reg ?_)
 refine wl_box 28 (.tmp 0) _ (((x.cells).toArray)) rfl rfl (fun _ => by kernel_rfl) rfl ?_
 intro k1 u1 hk hz hq Q1
 have N_k1 : w.heap.size ≤ k1 := by have := M.size; omega
 replace M := M.trans hq
 clear hk hz hq
 refine wl_alloc 28 #[.int .i64 0, .bool false, .int .u64 0, .int .u64 0, .int .u64 0, .int .u64 0, .int .i64 0, .bool false, .string ⟨#[]⟩, .int .i64 0] rfl (fun _ => by kernel_rfl) rfl ?_
 intro k2 u2 hk hz hq Q2
 have ne_k1_k2 : k1 ≠ k2 := by have := Q1.lt; omega
 have N_k2 : w.heap.size ≤ k2 := by have := M.size; omega
 replace Q1 := Q1.mo hq
 replace M := M.trans hq
 clear hk hz hq
 refine w_nil (xn_then (w_seq (w_seq (w_reg ?_))))
 refine wl_l 28 (.tmp 1) (pt k1 0) (.agg (x.cells).toArray) (run_row Q1 28 0 10 (x.cells) rfl Tryz.underlying28 rfl sz28) ?_
 refine wl_call 44 [(.const (.int .i64 (2))), (.tmp 4)] _ [.int .i64 (2), .agg (x.cells).toArray] (.int .i64 (askK (2) x)) rfl rfl (fun _ _ => by kernel_rfl) (faultFor_n (2) x _ hx) rfl ?_
 intro u3 hq
 replace Q1 := Q1.mo hq
 replace Q2 := Q2.mo hq
 replace M := M.trans hq
 clear hq
 refine wl_m (.tmp 5) (.int .i64 (askK (2) x)) ?_
 refine w_nil (xn_then (w_seq (w_reg ?_)))
 refine wl_m (.tmp 3) (.int .i64 (askK (2) x)) ?_
 cases hf0 : decide (askK (2) x = 0) with
 | true =>
  have hf0p := of_decide_eq_true hf0
  refine wl_b .neq 3 (.tmp 6) (.const (.int .i64 (0))) (.int .i64 (askK (2) x)) (.int .i64 (0)) (.bool false) (ne3 hf0 _ _ _) ?_
  refine w_nil (xn_then (w_condF rfl (w_skip (xn_then (w_seq (w_reg ?_))))))
  refine wl_f 28 2 (.tmp 1) (pt k1 0) (pt k1 7) ?_
  refine wl_l 4 (.tmp 10) (pt k1 7) (.bool x.f) (run_one Q1 4 7 rfl Tryz.underlying4 rfl) ?_
  refine wl_un (fun v => Op.unary .not v) (.tmp 11) (.bool x.f) (.bool (!x.f)) (fun _ => rfl) rfl (notb _ _) rfl ?_
  refine wl_call 33 [(.tmp 12)] _ [.bool (!x.f)] (.agg ((vFl (!x.f)).cells).toArray) rfl rfl (fun _ _ => by kernel_rfl) (flag_n (!x.f) _) rfl ?_
  intro u4 hq
  replace Q1 := Q1.mo hq
  replace Q2 := Q2.mo hq
  replace M := M.trans hq
  clear hq
  refine wl_st 28 (.tmp 2) (.tmp 13) k2 0 (((vFl (!x.f)).cells).toArray) _ ((vFl (!x.f)).cells) Q2 rfl rfl rfl rfl rfl sz28 rfl rfl rfl ?_
  intro u5 hS Qn
  replace Q2 := Qn
  clear Qn
  replace Q1 := hS.other _ _ ne_k1_k2 Q1
  replace M := hS.mo _ N_k2 M
  clear hS
  refine w_nil (xn_then (w_ret ?_))
  exact w_ret1 _ (.agg ((vFl (!x.f)).cells).toArray) rfl ⟨k2, rfl, (run_row Q2 28 0 10 ((vFl (!x.f)).cells) rfl Tryz.underlying28 rfl sz28)⟩ ⟨vrt (x := (vFl (!x.f))) rfl (by simp [notV, hf0p]), M⟩
 | false =>
  have hf0p := of_decide_eq_false hf0
  refine wl_b .neq 3 (.tmp 6) (.const (.int .i64 (0))) (.int .i64 (askK (2) x)) (.int .i64 (0)) (.bool true) (ne3 hf0 _ _ _) ?_
  refine w_nil (xn_then (w_condT rfl (w_seq (w_reg ?_))))
  refine wl_m (.tmp 3) (.int .i64 (askK (2) x)) ?_
  refine wl_call 15 [(.tmp 8)] _ [.int .i64 (askK (2) x)] (.agg ((vBad (askK (2) x)).cells).toArray) rfl rfl (fun _ _ => by kernel_rfl) (bad_n (askK (2) x) _) rfl ?_
  intro u4 hq
  replace Q1 := Q1.mo hq
  replace Q2 := Q2.mo hq
  replace M := M.trans hq
  clear hq
  refine wl_st 28 (.tmp 2) (.tmp 9) k2 0 (((vBad (askK (2) x)).cells).toArray) _ ((vBad (askK (2) x)).cells) Q2 rfl rfl rfl rfl rfl sz28 rfl rfl rfl ?_
  intro u5 hS Qn
  replace Q2 := Qn
  clear Qn
  replace Q1 := hS.other _ _ ne_k1_k2 Q1
  replace M := hS.mo _ N_k2 M
  clear hS
  refine w_nil (xn_then (w_ret (xr_then ?_)))
  exact w_ret1 _ (.agg ((vBad (askK (2) x)).cells).toArray) rfl ⟨k2, rfl, (run_row Q2 28 0 10 ((vBad (askK (2) x)).cells) rfl Tryz.underlying28 rfl sz28)⟩ ⟨vrt (x := (vBad (askK (2) x))) rfl (by simp [notV, hf0p]), M⟩
end Go.Proofs.YtogomodbcjpfiaaGreatDoor
namespace Go.Proofs.YtogomodbcjpfiaaGreatDoor
open Go.RowKit
theorem ok_bad (e : Int) : (vBad e).ok := ok_0 _ _ _ _ _ _
theorem ok_fl (f : Bool) : (vFl f).ok := ok_0 _ _ _ _ _ _
def DR.good (r : DR) : Prop := 0 ≤ r.n ∧ r.n < MM ∧ (r.e = 0 → ck r.b r.n r.s = 0)
theorem good_er {c : Int} (h : c ≠ 0) : (erR c).good := ⟨by show (0 : Int) ≤ 0; decide, by show (0 : Int) < MM; decide, fun e => absurd e h⟩
theorem good_fz {V S : Int} (hS : sc S = true) : (fzR V S).good := by
 unfold fzR
 split
 next h => exact ⟨ab_nn V, h, fun _ => ck_dz hS⟩
 next => exact good_er (by decide)
theorem good_fx {b : Bool} {V S : Int} (h0 : 0 ≤ V) (hS : sc S = true) : (fxR b V S).good := by
 unfold fxR
 split
 next h =>
  refine ⟨h0, h, fun _ => ?_⟩
  show ck (b && !decide (V = 0)) V S = 0
  unfold ck
  rw [hS]
  by_cases hv : V = 0 <;> simp [hv]
 next => exact good_er (by decide)
theorem sc_max {s t : Int} (h : sc s = true) (k : sc t = true) : sc (max s t) = true := by
 have a := sc_iff.1 h
 have b := sc_iff.1 k
 exact sc_iff.2 ⟨by omega, by omega⟩
theorem sc_min {s t : Int} (h : sc s = true) (k : sc t = true) : sc (min (s + t) 18) = true := by
 have a := sc_iff.1 h
 have b := sc_iff.1 k
 exact sc_iff.2 ⟨by omega, by omega⟩
theorem rdV_nn {b : Bool} {X f S p : Int} (h : 0 ≤ X) : 0 ≤ rdV b X f S p := by
 unfold rdV
 split
 ·exact Int.mul_nonneg h (Int.le_of_lt (pw_pos _))
 ·exact ro_nn h
theorem good_add {b c : Bool} {n s m t : Int} (h1 : ck b n s = 0) (h2 : ck c m t = 0) : (addR b n s c m t).good := good_fz (sc_max (ck_s h1) (ck_s h2))
theorem good_sub {b c : Bool} {n s m t : Int} (h1 : ck b n s = 0) (h2 : ck c m t = 0) : (subR b n s c m t).good := good_fz (sc_max (ck_s h1) (ck_s h2))
theorem good_mul {b c : Bool} {n s m t : Int} (hn : 0 ≤ n) (hm : 0 ≤ m) (h1 : ck b n s = 0) (h2 : ck c m t = 0) : (mulR b n s c m t).good := good_fx (rdV_nn (Int.mul_nonneg hn hm)) (sc_min (ck_s h1) (ck_s h2))
theorem num_good {r : DR} (h : r.good) : (numV r).ok ∧ ckv (numV r) = true := by
 unfold numV
 split
 next e => exact ⟨⟨h.1, h.2.1⟩, ckv_vNu (h.2.2 e)⟩
 next =>
  split
  ·exact ⟨ok_bad _, ckv_vBad _⟩
  ·exact ⟨ok_bad _, ckv_vBad _⟩
theorem fit_bad (e : Int) : (vBad e).fit := ⟨ok_bad e, ckv_vBad e⟩
theorem fit_fl (f : Bool) : (vFl f).fit := ⟨ok_fl f, ckv_vFl f⟩
theorem fit_ord (op o : Int) : (ordV op o).fit := by
 unfold ordV
 split; · exact fit_fl _
 split; · exact fit_fl _
 split; · exact fit_fl _
 split; · exact fit_fl _
 split; · exact fit_fl _
 split; · exact fit_fl _
 exact fit_bad _
theorem fit_opF (op : Int) (f g : Bool) : (opF op f g).fit := by
 unfold opF
 split; · exact fit_fl _
 split; · exact fit_fl _
 exact fit_bad _
theorem fit_opN (op : Int) {b c : Bool} {n s m t : Int} (hn : 0 ≤ n) (hm : 0 ≤ m) (h1 : ck b n s = 0) (h2 : ck c m t = 0) : (opN op b n s c m t).fit := by
 unfold opN
 split; · exact num_good (good_add h1 h2)
 split; · exact num_good (good_sub h1 h2)
 split; · exact num_good (good_mul hn hm h1 h2)
 exact fit_ord _ _
theorem fit_op (op : Int) {x y : VL} (hx : x.ok) (hy : y.ok) : (opV op x y).fit := by
 unfold opV
 split
 next a =>
  split
  next hk =>
   split
   next k => exact fit_opN op hx.1 hy.1 (ckv_num hx (ask_0 hx (ask2_1 a)).1 k).2 (ckv_num hy (ask_0 hy (ask2_2 a)).1 (hk ▸ k)).2
   next =>
    split; · exact fit_fl _
    split; · exact fit_fl _
    split; · exact fit_opF _ _ _
    exact fit_bad _
  next => exact fit_bad _
 next => exact fit_bad _
theorem fit_not (x : VL) : (notV x).fit := by
 unfold notV
 split
 ·exact fit_fl _
 ·exact fit_bad _
theorem ask_bad (e : Int) : ask (vBad e) = (vBad e).e ∧ isE (vBad e).e = true := by
 refine ⟨?_, isE_bad e⟩
 unfold ask
 rw [if_pos (ckv_vBad e)]
 rfl
theorem isE_ne {e : Int} (h : isE e = true) : ¬ e = 0 := fun h0 => by rw [h0] at h; exact absurd h (by decide)
theorem bad_bad (e : Int) : vBad (vBad e).e = vBad e := (bad_of (e := (vBad e).e) (isE_bad e)).trans rfl
theorem askK_bad (k e : Int) : askK k (vBad e) = (vBad e).e := by
 obtain ⟨a, i⟩ := ask_bad e
 unfold askK
 rw [a, if_neg (isE_ne i)]
theorem not_bad (e : Int) : notV (vBad e) = vBad e := by unfold notV; rw [askK_bad, if_neg (isE_ne (ask_bad e).2), bad_bad]
theorem ask_fl (f : Bool) : ask (vFl f) = 0 := by unfold ask; rw [if_pos (ckv_vFl f)]; rfl
theorem not_fl (f : Bool) : notV (vFl f) = vFl (!f) := by
 have q : askK 2 (vFl f) = 0 := by unfold askK; rw [if_pos (ask_fl f)]; rfl
 unfold notV; rw [if_pos q]; rfl
theorem le_lt (c : Int) : decide (0 ≤ c) = !decide (c < 0) := by by_cases h : c < 0 <;> simp [h] <;> omega
theorem lt_le (c : Int) : decide (0 < c) = !decide (c ≤ 0) := by by_cases h : c ≤ 0 <;> simp [h] <;> omega
theorem turn_eq (x y : VL) : opV 4 x y = notV (opV 5 x y) := by
 unfold opV
 split
 ·split
  ·split
   ·simp [opN, ordV, not_fl]
   ·simp [not_fl]
  ·rw [not_bad]
 ·rw [not_bad]
theorem turn_ge (x y : VL) : opV 9 x y = notV (opV 6 x y) := by
 unfold opV
 split
 ·split
  ·split
   ·simp [opN, ordV, not_fl, le_lt]
   ·simp [opF, not_bad]
  ·rw [not_bad]
 ·rw [not_bad]
theorem turn_gt (x y : VL) : opV 8 x y = notV (opV 7 x y) := by
 unfold opV
 split
 ·split
  ·split
   ·simp [opN, ordV, not_fl, lt_le]
   ·simp [opF, not_bad]
  ·rw [not_bad]
 ·rw [not_bad]
theorem turn_and {x y : VL} (h : ¬ (opV 10 x y).k = 4) : opV 10 x y = notV (opV 11 (notV x) (notV y)) := by
 unfold opV at h ⊢
 split at h
 next a =>
  split at h
  next hk =>
   split at h
   next k => exact absurd rfl h
   next k =>
    split at h
    next e => exact absurd e (by decide)
    next =>
     split at h
     next e => exact absurd e (by decide)
     next =>
      split at h
      next k2 =>
       have kx : askK 2 x = 0 := by unfold askK; rw [if_pos (ask2_1 a), if_pos k2]
       have ky : askK 2 y = 0 := by unfold askK; rw [if_pos (ask2_2 a), if_pos (hk ▸ k2)]
       have nx : notV x = vFl (!x.f) := by unfold notV; rw [if_pos kx]
       have ny : notV y = vFl (!y.f) := by unfold notV; rw [if_pos ky]
       rw [nx, ny]
       have q2 : ask2 (vFl (!x.f)) (vFl (!y.f)) = 0 := by unfold ask2; rw [if_pos (ask_fl _), ask_fl]
       have c1 : (vFl (!x.f)).k = 2 := rfl
       have c2 : (vFl (!y.f)).k = 2 := rfl
       have c3 : (vFl (!x.f)).f = !x.f := rfl
       have c4 : (vFl (!y.f)).f = !y.f := rfl
       rw [if_pos a, if_pos hk, if_neg k, if_pos q2, c1, c2, c3, c4]
       simp [k2, opF, not_fl]
      next => exact absurd rfl h
  next => exact absurd rfl h
 next => exact absurd rfl h
theorem max_c (s t : Int) : max s t = max t s := Int.max_comm s t
theorem add_c (b : Bool) (n s : Int) (c : Bool) (m t : Int) : addR b n s c m t = addR c m t b n s := by
 unfold addR addV
 rw [max_c s t, Int.add_comm]
theorem mul_c (b : Bool) (n s : Int) (c : Bool) (m t : Int) : mulR b n s c m t = mulR c m t b n s := by
 unfold mulR
 have e : (b != c) = (c != b) := by cases b <;> cases c <;> rfl
 rw [Int.mul_comm n m, Int.add_comm s t, e]
theorem cmp_c (b : Bool) (n s : Int) (c : Bool) (m t : Int) : cmpR b n s c m t = -cmpR c m t b n s := by
 unfold cmpR
 rw [max_c s t]
 generalize sgn b n * pw (max t s - s) = A
 generalize sgn c m * pw (max t s - t) = B
 unfold cm
 by_cases h1 : A < B
 ·rw [if_pos h1, if_neg (by omega), if_pos h1]
 ·by_cases h2 : B < A
  ·rw [if_neg h1, if_pos h2, if_pos h2]; rfl
  ·rw [if_neg h1, if_neg h2, if_neg h2, if_neg h1]; rfl
theorem turn_1 {x y : VL} (kx : x.k = 1) (ky : y.k = 1) (cx : ckv x = true) (cy : ckv y = true) : opV 1 y x = opV 1 x y := by
 rw [op_num 1 kx ky cx cy, op_num 1 ky kx cy cx]; simp [opN, add_c y.b]
theorem turn_3 {x y : VL} (kx : x.k = 1) (ky : y.k = 1) (cx : ckv x = true) (cy : ckv y = true) : opV 3 y x = opV 3 x y := by
 rw [op_num 3 kx ky cx cy, op_num 3 ky kx cy cx]; simp [opN, mul_c y.b]
theorem turn_4 {x y : VL} (kx : x.k = 1) (ky : y.k = 1) (cx : ckv x = true) (cy : ckv y = true) : opV 4 y x = opV 4 x y := by
 rw [op_num 4 kx ky cx cy, op_num 4 ky kx cy cx]
 have h := cmp_c y.b y.n y.s x.b x.n x.s
 simp only [opN, ordV, h]
 simp
theorem turn_6 {x y : VL} (kx : x.k = 1) (ky : y.k = 1) (cx : ckv x = true) (cy : ckv y = true) : opV 8 y x = opV 6 x y := by
 rw [op_num 6 kx ky cx cy, op_num 8 ky kx cy cx]
 have h := cmp_c y.b y.n y.s x.b x.n x.s
 simp only [opN, ordV, h]
 simp
end Go.Proofs.YtogomodbcjpfiaaGreatDoor
namespace Go.Proofs.YtogomodbcjpfiaaGreatDoor
open Go.RowKit
theorem rchk_n (x : VL) (w : World) (hx : x.ok) : Calls Tryz.prog 14 #[x.v] w fun e9 w' => e9 = .returned (.int .i64 (ckI x)) ∧ Mo w w' := by
 refine w_enter 63 Tryz.func14 Tryz.ntmps14 rfl rfl ?_
 have M : Mo w w := Mo.refl _
 refine w_seq (w_reg ?_)
 refine wl_box 28 (.tmp 0) _ (((x.cells).toArray)) rfl rfl (fun _ => by kernel_rfl) rfl ?_
 intro k1 u1 hk hz hq Q1
 have N_k1 : w.heap.size ≤ k1 := by have := M.size; omega
 replace M := M.trans hq
 clear hk hz hq
 refine wl_m (.const (.int .i64 (0))) (.int .i64 (0)) ?_
 refine w_nil (xn_then (w_seq (w_reg ?_)))
 refine wl_m (.const (.bool false)) (.bool false) ?_
 refine w_nil (xn_then (w_seq (w_seq (w_reg ?_))))
 refine wl_f 28 0 (.tmp 1) (pt k1 0) (pt k1 0) ?_
 refine wl_l 3 (.tmp 4) (pt k1 0) (.int .i64 (x.k)) (run_one Q1 3 0 rfl Tryz.underlying3 rfl) ?_
 refine w_nil (xn_then (w_block (w_seq (w_reg ?_))))
 cases hf0 : decide (x.k = 0) with
 | true =>
  have hf0p := of_decide_eq_true hf0
  refine wl_b .eql 3 (.tmp 5) (.const (.int .i64 (0))) (.int .i64 (x.k)) (.int .i64 (0)) (.bool true) (eq3 hf0 _ _ _) ?_
  refine wl_m (.tmp 7) (.bool true) ?_
  refine w_nil (xn_then (w_condT rfl (w_reg ?_)))
  refine wl_l 28 (.tmp 1) (pt k1 0) (.agg (x.cells).toArray) (run_row Q1 28 0 10 (x.cells) rfl Tryz.underlying28 rfl sz28) ?_
  refine wl_build 28 [] [] (.agg #[.int .i64 0, .bool false, .int .u64 0, .int .u64 0, .int .u64 0, .int .u64 0, .int .i64 0, .bool false, .string ⟨#[]⟩, .int .i64 0]) rfl rfl (by kernel_rfl) rfl ?_
  cases hf1 : svv x vBl with
  | true =>
   refine wl_b .eql 28 (.tmp 8) (.tmp 9) (.agg (x.cells).toArray) (.agg #[.int .i64 0, .bool false, .int .u64 0, .int .u64 0, .int .u64 0, .int .u64 0, .int .i64 0, .bool false, .string ⟨#[]⟩, .int .i64 0]) (.bool true) (eqW hf1 _ _ _) ?_
   refine wl_m (.tmp 10) (.bool true) ?_
   refine w_nil (xn_blk (xn_then (w_seq (w_seq (w_reg ?_)))))
   refine wl_m (.tmp 3) (.bool true) ?_
   refine wl_un (fun v => Op.unary .not v) (.tmp 61) (.bool true) (.bool false) (fun _ => rfl) rfl (by kernel_rfl) rfl ?_
   refine w_nil (xn_then (w_condF rfl (w_skip (xn_then (w_seq (w_reg ?_))))))
   refine wl_m (.const (.int .i64 (0))) (.int .i64 (0)) ?_
   refine w_nil (xn_then (w_ret ?_))
   exact w_ret1 _ (.int .i64 (0)) rfl rfl ⟨by simp [ckI, ckv, bareV, inB, hf0p, hf1] <;> omega, M⟩
  | false =>
   refine wl_b .eql 28 (.tmp 8) (.tmp 9) (.agg (x.cells).toArray) (.agg #[.int .i64 0, .bool false, .int .u64 0, .int .u64 0, .int .u64 0, .int .u64 0, .int .i64 0, .bool false, .string ⟨#[]⟩, .int .i64 0]) (.bool false) (eqW hf1 _ _ _) ?_
   refine wl_m (.tmp 10) (.bool false) ?_
   refine w_nil (xn_blk (xn_then (w_seq (w_seq (w_reg ?_)))))
   refine wl_m (.tmp 3) (.bool false) ?_
   refine wl_un (fun v => Op.unary .not v) (.tmp 61) (.bool false) (.bool true) (fun _ => rfl) rfl (by kernel_rfl) rfl ?_
   refine w_nil (xn_then (w_condT rfl (w_seq (w_reg ?_))))
   refine wl_m (.const (.int .i64 (1))) (.int .i64 (1)) ?_
   refine w_nil (xn_then (w_ret (xr_then ?_)))
   exact w_ret1 _ (.int .i64 (1)) rfl rfl ⟨by simp [ckI, ckv, bareV, inB, hf0p, hf1] <;> omega, M⟩
 | false =>
  have hf0p := of_decide_eq_false hf0
  refine wl_b .eql 3 (.tmp 5) (.const (.int .i64 (0))) (.int .i64 (x.k)) (.int .i64 (0)) (.bool false) (eq3 hf0 _ _ _) ?_
  refine wl_m (.tmp 7) (.bool false) ?_
  refine w_nil (xn_then (w_condF rfl (w_seq (w_reg ?_))))
  cases hf1 : decide (x.k = 1) with
  | true =>
   have hf1p := of_decide_eq_true hf1
   refine wl_b .eql 3 (.tmp 5) (.const (.int .i64 (1))) (.int .i64 (x.k)) (.int .i64 (1)) (.bool true) (eq3 hf1 _ _ _) ?_
   refine wl_m (.tmp 12) (.bool true) ?_
   refine w_nil (xn_then (w_condT rfl (w_reg ?_)))
   refine wl_l 28 (.tmp 1) (pt k1 0) (.agg (x.cells).toArray) (run_row Q1 28 0 10 (x.cells) rfl Tryz.underlying28 rfl sz28) ?_
   refine wl_f 28 1 (.tmp 1) (pt k1 0) (pt k1 1) ?_
   refine wl_l 26 (.tmp 14) (pt k1 1) (.agg #[.bool x.b, .int .u64 (l0 x.n), .int .u64 (l1 x.n), .int .u64 (l2 x.n), .int .u64 (l3 x.n), .int .i64 x.s]) (run_row Q1 26 1 6 _ rfl Tryz.underlying26 rfl sz26) ?_
   refine wl_build 28 [(0, (.const (.int .i64 (1)))), (1, (.tmp 15))] [(0, .int .i64 (1)), (1, .agg #[.bool x.b, .int .u64 (l0 x.n), .int .u64 (l1 x.n), .int .u64 (l2 x.n), .int .u64 (l3 x.n), .int .i64 x.s])] (.agg #[.int .i64 (1), .bool x.b, .int .u64 (l0 x.n), .int .u64 (l1 x.n), .int .u64 (l2 x.n), .int .u64 (l3 x.n), .int .i64 x.s, .bool false, .string ⟨#[]⟩, .int .i64 0]) rfl rfl (by kernel_rfl) rfl ?_
   cases hf2 : svv x (vNu x.b x.n x.s) with
   | true =>
    refine wl_b .eql 28 (.tmp 13) (.tmp 16) (.agg (x.cells).toArray) (.agg #[.int .i64 (1), .bool x.b, .int .u64 (l0 x.n), .int .u64 (l1 x.n), .int .u64 (l2 x.n), .int .u64 (l3 x.n), .int .i64 x.s, .bool false, .string ⟨#[]⟩, .int .i64 0]) (.bool true) (eqW hf2 _ _ _) ?_
    refine wl_m (.tmp 17) (.bool true) ?_
    refine wl_f 28 1 (.tmp 1) (pt k1 0) (pt k1 1) ?_
    refine wl_l 26 (.tmp 19) (pt k1 1) (.agg #[.bool x.b, .int .u64 (l0 x.n), .int .u64 (l1 x.n), .int .u64 (l2 x.n), .int .u64 (l3 x.n), .int .i64 x.s]) (run_row Q1 26 1 6 _ rfl Tryz.underlying26 rfl sz26) ?_
    refine wl_call 42 [(.tmp 20)] _ [.agg #[.bool x.b, .int .u64 (l0 x.n), .int .u64 (l1 x.n), .int .u64 (l2 x.n), .int .u64 (l3 x.n), .int .i64 x.s]] (.int .i64 (ck x.b x.n x.s)) rfl rfl (fun _ _ => by kernel_rfl) (rcheck_n x.b x.n x.s _ hx.1 hx.2) rfl ?_
    intro u2 hq
    replace Q1 := Q1.mo hq
    replace M := M.trans hq
    clear hq
    cases hf3 : decide (ck x.b x.n x.s = 0) with
    | true =>
     have hf3p := of_decide_eq_true hf3
     refine wl_b .eql 32 (.tmp 21) (.const (.int .i64 (0))) (.int .i64 (ck x.b x.n x.s)) (.int .i64 (0)) (.bool true) (eq34 hf3 _ _ _) ?_
     refine wl_pick (.tmp 18) (.tmp 22) (.const (.bool false)) true (.bool true) (fun _ => rfl) rfl rfl rfl ?_
     refine wl_m (.tmp 23) (.bool true) ?_
     refine w_nil (xn_blk (xn_then (w_seq (w_seq (w_reg ?_)))))
     refine wl_m (.tmp 3) (.bool true) ?_
     refine wl_un (fun v => Op.unary .not v) (.tmp 61) (.bool true) (.bool false) (fun _ => rfl) rfl (by kernel_rfl) rfl ?_
     refine w_nil (xn_then (w_condF rfl (w_skip (xn_then (w_seq (w_reg ?_))))))
     refine wl_m (.const (.int .i64 (0))) (.int .i64 (0)) ?_
     refine w_nil (xn_then (w_ret ?_))
     exact w_ret1 _ (.int .i64 (0)) rfl rfl ⟨by simp [ckI, ckv, bareV, inB, hf1p, hf2, hf3p] <;> omega, M⟩
    | false =>
     have hf3p := of_decide_eq_false hf3
     refine wl_b .eql 32 (.tmp 21) (.const (.int .i64 (0))) (.int .i64 (ck x.b x.n x.s)) (.int .i64 (0)) (.bool false) (eq34 hf3 _ _ _) ?_
     refine wl_pick (.tmp 18) (.tmp 22) (.const (.bool false)) true (.bool false) (fun _ => rfl) rfl rfl rfl ?_
     refine wl_m (.tmp 23) (.bool false) ?_
     refine w_nil (xn_blk (xn_then (w_seq (w_seq (w_reg ?_)))))
     refine wl_m (.tmp 3) (.bool false) ?_
     refine wl_un (fun v => Op.unary .not v) (.tmp 61) (.bool false) (.bool true) (fun _ => rfl) rfl (by kernel_rfl) rfl ?_
     refine w_nil (xn_then (w_condT rfl (w_seq (w_reg ?_))))
     refine wl_m (.const (.int .i64 (1))) (.int .i64 (1)) ?_
     refine w_nil (xn_then (w_ret (xr_then ?_)))
     exact w_ret1 _ (.int .i64 (1)) rfl rfl ⟨by simp [ckI, ckv, bareV, inB, hf1p, hf2, hf3p] <;> omega, M⟩
   | false =>
    refine wl_b .eql 28 (.tmp 13) (.tmp 16) (.agg (x.cells).toArray) (.agg #[.int .i64 (1), .bool x.b, .int .u64 (l0 x.n), .int .u64 (l1 x.n), .int .u64 (l2 x.n), .int .u64 (l3 x.n), .int .i64 x.s, .bool false, .string ⟨#[]⟩, .int .i64 0]) (.bool false) (eqW hf2 _ _ _) ?_
    refine wl_m (.tmp 17) (.bool false) ?_
    refine wl_skip rfl (wl_skip rfl (wl_skip rfl (wl_skip rfl ?_)))
    refine wl_pick (.tmp 18) (.tmp 22) (.const (.bool false)) false (.bool false) (fun _ => rfl) rfl rfl rfl ?_
    refine wl_m (.tmp 23) (.bool false) ?_
    refine w_nil (xn_blk (xn_then (w_seq (w_seq (w_reg ?_)))))
    refine wl_m (.tmp 3) (.bool false) ?_
    refine wl_un (fun v => Op.unary .not v) (.tmp 61) (.bool false) (.bool true) (fun _ => rfl) rfl (by kernel_rfl) rfl ?_
    refine w_nil (xn_then (w_condT rfl (w_seq (w_reg ?_))))
    refine wl_m (.const (.int .i64 (1))) (.int .i64 (1)) ?_
    refine w_nil (xn_then (w_ret (xr_then ?_)))
    exact w_ret1 _ (.int .i64 (1)) rfl rfl ⟨by simp [ckI, ckv, bareV, inB, hf1p, hf2] <;> omega, M⟩
  | false =>
   have hf1p := of_decide_eq_false hf1
   refine wl_b .eql 3 (.tmp 5) (.const (.int .i64 (1))) (.int .i64 (x.k)) (.int .i64 (1)) (.bool false) (eq3 hf1 _ _ _) ?_
   refine wl_m (.tmp 12) (.bool false) ?_
   refine w_nil (xn_then (w_condF rfl (w_seq (w_reg ?_))))
   cases hf2 : decide (x.k = 2) with
   | true =>
    have hf2p := of_decide_eq_true hf2
    refine wl_b .eql 3 (.tmp 5) (.const (.int .i64 (2))) (.int .i64 (x.k)) (.int .i64 (2)) (.bool true) (eq3 hf2 _ _ _) ?_
    refine wl_m (.tmp 25) (.bool true) ?_
    refine w_nil (xn_then (w_condT rfl (w_reg ?_)))
    refine wl_l 28 (.tmp 1) (pt k1 0) (.agg (x.cells).toArray) (run_row Q1 28 0 10 (x.cells) rfl Tryz.underlying28 rfl sz28) ?_
    refine wl_f 28 2 (.tmp 1) (pt k1 0) (pt k1 7) ?_
    refine wl_l 4 (.tmp 27) (pt k1 7) (.bool x.f) (run_one Q1 4 7 rfl Tryz.underlying4 rfl) ?_
    refine wl_build 28 [(0, (.const (.int .i64 (2)))), (2, (.tmp 28))] [(0, .int .i64 (2)), (2, .bool x.f)] (.agg #[.int .i64 (2), .bool false, .int .u64 0, .int .u64 0, .int .u64 0, .int .u64 0, .int .i64 0, .bool x.f, .string ⟨#[]⟩, .int .i64 0]) rfl rfl (by kernel_rfl) rfl ?_
    cases hf3 : svv x (vFl x.f) with
    | true =>
     refine wl_b .eql 28 (.tmp 26) (.tmp 29) (.agg (x.cells).toArray) (.agg #[.int .i64 (2), .bool false, .int .u64 0, .int .u64 0, .int .u64 0, .int .u64 0, .int .i64 0, .bool x.f, .string ⟨#[]⟩, .int .i64 0]) (.bool true) (eqW hf3 _ _ _) ?_
     refine wl_m (.tmp 30) (.bool true) ?_
     refine w_nil (xn_blk (xn_then (w_seq (w_seq (w_reg ?_)))))
     refine wl_m (.tmp 3) (.bool true) ?_
     refine wl_un (fun v => Op.unary .not v) (.tmp 61) (.bool true) (.bool false) (fun _ => rfl) rfl (by kernel_rfl) rfl ?_
     refine w_nil (xn_then (w_condF rfl (w_skip (xn_then (w_seq (w_reg ?_))))))
     refine wl_m (.const (.int .i64 (0))) (.int .i64 (0)) ?_
     refine w_nil (xn_then (w_ret ?_))
     exact w_ret1 _ (.int .i64 (0)) rfl rfl ⟨by simp [ckI, ckv, bareV, inB, hf2p, hf3] <;> omega, M⟩
    | false =>
     refine wl_b .eql 28 (.tmp 26) (.tmp 29) (.agg (x.cells).toArray) (.agg #[.int .i64 (2), .bool false, .int .u64 0, .int .u64 0, .int .u64 0, .int .u64 0, .int .i64 0, .bool x.f, .string ⟨#[]⟩, .int .i64 0]) (.bool false) (eqW hf3 _ _ _) ?_
     refine wl_m (.tmp 30) (.bool false) ?_
     refine w_nil (xn_blk (xn_then (w_seq (w_seq (w_reg ?_)))))
     refine wl_m (.tmp 3) (.bool false) ?_
     refine wl_un (fun v => Op.unary .not v) (.tmp 61) (.bool false) (.bool true) (fun _ => rfl) rfl (by kernel_rfl) rfl ?_
     refine w_nil (xn_then (w_condT rfl (w_seq (w_reg ?_))))
     refine wl_m (.const (.int .i64 (1))) (.int .i64 (1)) ?_
     refine w_nil (xn_then (w_ret (xr_then ?_)))
     exact w_ret1 _ (.int .i64 (1)) rfl rfl ⟨by simp [ckI, ckv, bareV, inB, hf2p, hf3] <;> omega, M⟩
   | false =>
    have hf2p := of_decide_eq_false hf2
    refine wl_b .eql 3 (.tmp 5) (.const (.int .i64 (2))) (.int .i64 (x.k)) (.int .i64 (2)) (.bool false) (eq3 hf2 _ _ _) ?_
    refine wl_m (.tmp 25) (.bool false) ?_
    refine w_nil (xn_then (w_condF rfl (w_seq (w_reg ?_))))
    cases hf3 : decide (x.k = 3) with
    | true =>
     have hf3p := of_decide_eq_true hf3
     refine wl_b .eql 3 (.tmp 5) (.const (.int .i64 (3))) (.int .i64 (x.k)) (.int .i64 (3)) (.bool true) (eq3 hf3 _ _ _) ?_
     refine wl_m (.tmp 32) (.bool true) ?_
     refine w_nil (xn_then (w_condT rfl (w_reg ?_)))
     refine wl_l 28 (.tmp 1) (pt k1 0) (.agg (x.cells).toArray) (run_row Q1 28 0 10 (x.cells) rfl Tryz.underlying28 rfl sz28) ?_
     refine wl_f 28 3 (.tmp 1) (pt k1 0) (pt k1 8) ?_
     refine wl_l 9 (.tmp 34) (pt k1 8) (.string x.t) (run_one Q1 9 8 rfl Tryz.underlying9 rfl) ?_
     refine wl_build 28 [(0, (.const (.int .i64 (3)))), (3, (.tmp 35))] [(0, .int .i64 (3)), (3, .string x.t)] (.agg #[.int .i64 (3), .bool false, .int .u64 0, .int .u64 0, .int .u64 0, .int .u64 0, .int .i64 0, .bool false, .string x.t, .int .i64 0]) rfl rfl (by kernel_rfl) rfl ?_
     cases hf4 : svv x (vTx x.t) with
     | true =>
      refine wl_b .eql 28 (.tmp 33) (.tmp 36) (.agg (x.cells).toArray) (.agg #[.int .i64 (3), .bool false, .int .u64 0, .int .u64 0, .int .u64 0, .int .u64 0, .int .i64 0, .bool false, .string x.t, .int .i64 0]) (.bool true) (eqW hf4 _ _ _) ?_
      refine wl_m (.tmp 37) (.bool true) ?_
      refine wl_f 28 3 (.tmp 1) (pt k1 0) (pt k1 8) ?_
      refine wl_l 9 (.tmp 39) (pt k1 8) (.string x.t) (run_one Q1 9 8 rfl Tryz.underlying9 rfl) ?_
      refine wl_val (.int .i64 ((x.t.size : Nat) : Int)) (len_s _ _ _ (by exact rfl) _ _ _ _ _ _) rfl ?_
      cases hf5 : decide (((x.t.size : Nat) : Int) ≤ 64) with
      | true =>
       have hf5p := of_decide_eq_true hf5
       refine wl_b .leq 3 (.tmp 41) (.const (.int .i64 (64))) (.int .i64 ((x.t.size : Nat) : Int)) (.int .i64 (64)) (.bool true) (le3 hf5 _ _ _) ?_
       refine wl_pick (.tmp 38) (.tmp 42) (.const (.bool false)) true (.bool true) (fun _ => rfl) rfl rfl rfl ?_
       refine wl_m (.tmp 43) (.bool true) ?_
       refine w_nil (xn_blk (xn_then (w_seq (w_seq (w_reg ?_)))))
       refine wl_m (.tmp 3) (.bool true) ?_
       refine wl_un (fun v => Op.unary .not v) (.tmp 61) (.bool true) (.bool false) (fun _ => rfl) rfl (by kernel_rfl) rfl ?_
       refine w_nil (xn_then (w_condF rfl (w_skip (xn_then (w_seq (w_reg ?_))))))
       refine wl_m (.const (.int .i64 (0))) (.int .i64 (0)) ?_
       refine w_nil (xn_then (w_ret ?_))
       exact w_ret1 _ (.int .i64 (0)) rfl rfl ⟨by simp [ckI, ckv, bareV, inB, hf3p, hf4] <;> omega, M⟩
      | false =>
       have hf5p := of_decide_eq_false hf5
       refine wl_b .leq 3 (.tmp 41) (.const (.int .i64 (64))) (.int .i64 ((x.t.size : Nat) : Int)) (.int .i64 (64)) (.bool false) (le3 hf5 _ _ _) ?_
       refine wl_pick (.tmp 38) (.tmp 42) (.const (.bool false)) true (.bool false) (fun _ => rfl) rfl rfl rfl ?_
       refine wl_m (.tmp 43) (.bool false) ?_
       refine w_nil (xn_blk (xn_then (w_seq (w_seq (w_reg ?_)))))
       refine wl_m (.tmp 3) (.bool false) ?_
       refine wl_un (fun v => Op.unary .not v) (.tmp 61) (.bool false) (.bool true) (fun _ => rfl) rfl (by kernel_rfl) rfl ?_
       refine w_nil (xn_then (w_condT rfl (w_seq (w_reg ?_))))
       refine wl_m (.const (.int .i64 (1))) (.int .i64 (1)) ?_
       refine w_nil (xn_then (w_ret (xr_then ?_)))
       exact w_ret1 _ (.int .i64 (1)) rfl rfl ⟨by simp [ckI, ckv, bareV, inB, hf3p, hf4] <;> omega, M⟩
     | false =>
      refine wl_b .eql 28 (.tmp 33) (.tmp 36) (.agg (x.cells).toArray) (.agg #[.int .i64 (3), .bool false, .int .u64 0, .int .u64 0, .int .u64 0, .int .u64 0, .int .i64 0, .bool false, .string x.t, .int .i64 0]) (.bool false) (eqW hf4 _ _ _) ?_
      refine wl_m (.tmp 37) (.bool false) ?_
      refine wl_skip rfl (wl_skip rfl (wl_skip rfl (wl_skip rfl ?_)))
      refine wl_pick (.tmp 38) (.tmp 42) (.const (.bool false)) false (.bool false) (fun _ => rfl) rfl rfl rfl ?_
      refine wl_m (.tmp 43) (.bool false) ?_
      refine w_nil (xn_blk (xn_then (w_seq (w_seq (w_reg ?_)))))
      refine wl_m (.tmp 3) (.bool false) ?_
      refine wl_un (fun v => Op.unary .not v) (.tmp 61) (.bool false) (.bool true) (fun _ => rfl) rfl (by kernel_rfl) rfl ?_
      refine w_nil (xn_then (w_condT rfl (w_seq (w_reg ?_))))
      refine wl_m (.const (.int .i64 (1))) (.int .i64 (1)) ?_
      refine w_nil (xn_then (w_ret (xr_then ?_)))
      exact w_ret1 _ (.int .i64 (1)) rfl rfl ⟨by simp [ckI, ckv, bareV, inB, hf3p, hf4] <;> omega, M⟩
    | false =>
     have hf3p := of_decide_eq_false hf3
     refine wl_b .eql 3 (.tmp 5) (.const (.int .i64 (3))) (.int .i64 (x.k)) (.int .i64 (3)) (.bool false) (eq3 hf3 _ _ _) ?_
     refine wl_m (.tmp 32) (.bool false) ?_
     refine w_nil (xn_then (w_condF rfl (w_seq (w_reg ?_))))
     cases hf4 : decide (x.k = 4) with
     | true =>
      have hf4p := of_decide_eq_true hf4
      refine wl_b .eql 3 (.tmp 5) (.const (.int .i64 (4))) (.int .i64 (x.k)) (.int .i64 (4)) (.bool true) (eq3 hf4 _ _ _) ?_
      refine wl_m (.tmp 45) (.bool true) ?_
      refine w_nil (xn_then (w_condT rfl (w_reg ?_)))
      refine wl_l 28 (.tmp 1) (pt k1 0) (.agg (x.cells).toArray) (run_row Q1 28 0 10 (x.cells) rfl Tryz.underlying28 rfl sz28) ?_
      refine wl_f 28 4 (.tmp 1) (pt k1 0) (pt k1 9) ?_
      refine wl_l 3 (.tmp 47) (pt k1 9) (.int .i64 (x.e)) (run_one Q1 3 9 rfl Tryz.underlying3 rfl) ?_
      refine wl_build 28 [(0, (.const (.int .i64 (4)))), (4, (.tmp 48))] [(0, .int .i64 (4)), (4, .int .i64 (x.e))] (.agg #[.int .i64 (4), .bool false, .int .u64 0, .int .u64 0, .int .u64 0, .int .u64 0, .int .i64 0, .bool false, .string ⟨#[]⟩, .int .i64 (x.e)]) rfl rfl (by kernel_rfl) rfl ?_
      cases hf5 : svv x (vEr x.e) with
      | true =>
       refine wl_b .eql 28 (.tmp 46) (.tmp 49) (.agg (x.cells).toArray) (.agg #[.int .i64 (4), .bool false, .int .u64 0, .int .u64 0, .int .u64 0, .int .u64 0, .int .i64 0, .bool false, .string ⟨#[]⟩, .int .i64 (x.e)]) (.bool true) (eqW hf5 _ _ _) ?_
       refine wl_m (.tmp 50) (.bool true) ?_
       refine wl_f 28 4 (.tmp 1) (pt k1 0) (pt k1 9) ?_
       refine wl_l 3 (.tmp 52) (pt k1 9) (.int .i64 (x.e)) (run_one Q1 3 9 rfl Tryz.underlying3 rfl) ?_
       cases hf6 : decide (1 ≤ x.e) with
       | true =>
        have hf6p := of_decide_eq_true hf6
        refine wl_b .geq 3 (.tmp 53) (.const (.int .i64 (1))) (.int .i64 (x.e)) (.int .i64 (1)) (.bool true) (ge3 hf6 _ _ _) ?_
        refine wl_pick (.tmp 51) (.tmp 54) (.const (.bool false)) true (.bool true) (fun _ => rfl) rfl rfl rfl ?_
        refine wl_m (.tmp 55) (.bool true) ?_
        refine wl_f 28 4 (.tmp 1) (pt k1 0) (pt k1 9) ?_
        refine wl_l 3 (.tmp 57) (pt k1 9) (.int .i64 (x.e)) (run_one Q1 3 9 rfl Tryz.underlying3 rfl) ?_
        cases hf7 : decide (x.e ≤ 5) with
        | true =>
         have hf7p := of_decide_eq_true hf7
         refine wl_b .leq 3 (.tmp 58) (.const (.int .i64 (5))) (.int .i64 (x.e)) (.int .i64 (5)) (.bool true) (le3 hf7 _ _ _) ?_
         refine wl_pick (.tmp 56) (.tmp 59) (.const (.bool false)) true (.bool true) (fun _ => rfl) rfl rfl rfl ?_
         refine wl_m (.tmp 60) (.bool true) ?_
         refine w_nil (xn_blk (xn_then (w_seq (w_seq (w_reg ?_)))))
         refine wl_m (.tmp 3) (.bool true) ?_
         refine wl_un (fun v => Op.unary .not v) (.tmp 61) (.bool true) (.bool false) (fun _ => rfl) rfl (by kernel_rfl) rfl ?_
         refine w_nil (xn_then (w_condF rfl (w_skip (xn_then (w_seq (w_reg ?_))))))
         refine wl_m (.const (.int .i64 (0))) (.int .i64 (0)) ?_
         refine w_nil (xn_then (w_ret ?_))
         exact w_ret1 _ (.int .i64 (0)) rfl rfl ⟨by simp [ckI, ckv, bareV, inB, isE, hf4p, hf5, hf6p, hf7p] <;> omega, M⟩
        | false =>
         have hf7p := of_decide_eq_false hf7
         refine wl_b .leq 3 (.tmp 58) (.const (.int .i64 (5))) (.int .i64 (x.e)) (.int .i64 (5)) (.bool false) (le3 hf7 _ _ _) ?_
         refine wl_pick (.tmp 56) (.tmp 59) (.const (.bool false)) true (.bool false) (fun _ => rfl) rfl rfl rfl ?_
         refine wl_m (.tmp 60) (.bool false) ?_
         refine w_nil (xn_blk (xn_then (w_seq (w_seq (w_reg ?_)))))
         refine wl_m (.tmp 3) (.bool false) ?_
         refine wl_un (fun v => Op.unary .not v) (.tmp 61) (.bool false) (.bool true) (fun _ => rfl) rfl (by kernel_rfl) rfl ?_
         refine w_nil (xn_then (w_condT rfl (w_seq (w_reg ?_))))
         refine wl_m (.const (.int .i64 (1))) (.int .i64 (1)) ?_
         refine w_nil (xn_then (w_ret (xr_then ?_)))
         exact w_ret1 _ (.int .i64 (1)) rfl rfl ⟨by simp [ckI, ckv, bareV, inB, isE, hf4p, hf5, hf6p, hf7p] <;> omega, M⟩
       | false =>
        have hf6p := of_decide_eq_false hf6
        refine wl_b .geq 3 (.tmp 53) (.const (.int .i64 (1))) (.int .i64 (x.e)) (.int .i64 (1)) (.bool false) (ge3 hf6 _ _ _) ?_
        refine wl_pick (.tmp 51) (.tmp 54) (.const (.bool false)) true (.bool false) (fun _ => rfl) rfl rfl rfl ?_
        refine wl_m (.tmp 55) (.bool false) ?_
        refine wl_skip rfl (wl_skip rfl (wl_skip rfl ?_))
        refine wl_pick (.tmp 56) (.tmp 59) (.const (.bool false)) false (.bool false) (fun _ => rfl) rfl rfl rfl ?_
        refine wl_m (.tmp 60) (.bool false) ?_
        refine w_nil (xn_blk (xn_then (w_seq (w_seq (w_reg ?_)))))
        refine wl_m (.tmp 3) (.bool false) ?_
        refine wl_un (fun v => Op.unary .not v) (.tmp 61) (.bool false) (.bool true) (fun _ => rfl) rfl (by kernel_rfl) rfl ?_
        refine w_nil (xn_then (w_condT rfl (w_seq (w_reg ?_))))
        refine wl_m (.const (.int .i64 (1))) (.int .i64 (1)) ?_
        refine w_nil (xn_then (w_ret (xr_then ?_)))
        exact w_ret1 _ (.int .i64 (1)) rfl rfl ⟨by simp [ckI, ckv, bareV, inB, isE, hf4p, hf5, hf6p] <;> omega, M⟩
      | false =>
       refine wl_b .eql 28 (.tmp 46) (.tmp 49) (.agg (x.cells).toArray) (.agg #[.int .i64 (4), .bool false, .int .u64 0, .int .u64 0, .int .u64 0, .int .u64 0, .int .i64 0, .bool false, .string ⟨#[]⟩, .int .i64 (x.e)]) (.bool false) (eqW hf5 _ _ _) ?_
       refine wl_m (.tmp 50) (.bool false) ?_
       refine wl_skip rfl (wl_skip rfl (wl_skip rfl ?_))
       refine wl_pick (.tmp 51) (.tmp 54) (.const (.bool false)) false (.bool false) (fun _ => rfl) rfl rfl rfl ?_
       refine wl_m (.tmp 55) (.bool false) ?_
       refine wl_skip rfl (wl_skip rfl (wl_skip rfl ?_))
       refine wl_pick (.tmp 56) (.tmp 59) (.const (.bool false)) false (.bool false) (fun _ => rfl) rfl rfl rfl ?_
       refine wl_m (.tmp 60) (.bool false) ?_
       refine w_nil (xn_blk (xn_then (w_seq (w_seq (w_reg ?_)))))
       refine wl_m (.tmp 3) (.bool false) ?_
       refine wl_un (fun v => Op.unary .not v) (.tmp 61) (.bool false) (.bool true) (fun _ => rfl) rfl (by kernel_rfl) rfl ?_
       refine w_nil (xn_then (w_condT rfl (w_seq (w_reg ?_))))
       refine wl_m (.const (.int .i64 (1))) (.int .i64 (1)) ?_
       refine w_nil (xn_then (w_ret (xr_then ?_)))
       exact w_ret1 _ (.int .i64 (1)) rfl rfl ⟨by simp [ckI, ckv, bareV, inB, isE, hf4p, hf5] <;> omega, M⟩
     | false =>
      have hf4p := of_decide_eq_false hf4
      refine wl_b .eql 3 (.tmp 5) (.const (.int .i64 (4))) (.int .i64 (x.k)) (.int .i64 (4)) (.bool false) (eq3 hf4 _ _ _) ?_
      refine wl_m (.tmp 45) (.bool false) ?_
      refine w_nil (xn_then (w_condF rfl (w_skip (xn_blk (xn_then (w_seq (w_seq (w_reg ?_))))))))
      refine wl_m (.tmp 3) (.bool false) ?_
      refine wl_un (fun v => Op.unary .not v) (.tmp 61) (.bool false) (.bool true) (fun _ => rfl) rfl (by kernel_rfl) rfl ?_
      refine w_nil (xn_then (w_condT rfl (w_seq (w_reg ?_))))
      refine wl_m (.const (.int .i64 (1))) (.int .i64 (1)) ?_
      refine w_nil (xn_then (w_ret (xr_then ?_)))
      exact w_ret1 _ (.int .i64 (1)) rfl rfl ⟨by simp [ckI, ckv, bareV, inB, svv_bl, hf0p, hf1p, hf2p, hf3p, hf4p] <;> omega, M⟩
theorem rcheck_t {x : VL} (hc : ckv x = true) (hx : x.ok) (w : World) : Calls Tryz.prog 14 #[x.v] w fun e9 w' => e9 = .returned (.int .i64 0) ∧ Mo w w' := by
 have q := rchk_n x w hx
 unfold ckI at q
 rw [hc] at q
 exact q
theorem rcheck_f {x : VL} (hc : ckv x = false) (hx : x.ok) (w : World) : Calls Tryz.prog 14 #[x.v] w fun e9 w' => e9 = .returned (.int .i64 1) ∧ Mo w w' := by
 have q := rchk_n x w hx
 unfold ckI at q
 rw [hc] at q
 exact q
end Go.Proofs.YtogomodbcjpfiaaGreatDoor
namespace Go.Proofs.YtogomodbcjpfiaaGreatDoor.V
open Go.RowKit
theorem turn_andS {x y : VL} (h : ¬ (opV 10 x y).k = 4) : svv (opV 10 x y) (notV (opV 11 (notV x) (notV y))) = true := by rw [← turn_and h]; exact svv_self _
theorem turns_law (x y : VL) (w : World) (hx : x.ok) (hy : y.ok) : Calls Tryz.prog 9 #[x.v, y.v] w fun e9 w' => e9 = .returned (.bool true) ∧ Mw w w' := by
 refine w_enter 108 Tryz.func9 Tryz.ntmps9 rfl rfl ?_
 have M : Mw w w := Mw.refl _
 refine w_seq (w_reg ?_)
 refine wl_box 28 (.tmp 0) _ (((x.cells).toArray)) rfl rfl (fun _ => by kernel_rfl) rfl ?_
 intro k1 u1 hk hz hq Q1
 have N_k1 : w.heap.size ≤ k1 := by have := M.size; omega
 replace M := M.trans hq
 clear hk hz hq
 refine wl_box 28 (.tmp 1) _ (((y.cells).toArray)) rfl rfl (fun _ => by kernel_rfl) rfl ?_
 intro k2 u2 hk hz hq Q2
 have ne_k1_k2 : k1 ≠ k2 := by have := Q1.lt; omega
 have N_k2 : w.heap.size ≤ k2 := by have := M.size; omega
 replace Q1 := Q1.mo hq
 replace M := M.trans hq
 clear hk hz hq
 refine wl_m (.const (.bool false)) (.bool false) ?_
 refine w_nil (xn_then (w_seq (w_seq ?_)))
 refine w_any 28 [.inl (.bool true), .inl (.bool false), .inl (.bool false), .inl (.agg (x.cells).toArray), .inl (.agg (y.cells).toArray), .inl (.agg ((opV 4 x y).cells).toArray), .inl (.agg (x.cells).toArray), .inl (.agg (y.cells).toArray), .inl (.agg ((opV 5 x y).cells).toArray), .inl (.agg ((opV 4 x y).cells).toArray), .inl (.bool false), .inl (.bool false), .inl (.bool false), .inl (.agg (x.cells).toArray), .inl (.agg (y.cells).toArray), .inl (.agg ((opV 9 x y).cells).toArray), .inl (.agg (x.cells).toArray), .inl (.agg (y.cells).toArray), .inl (.agg ((opV 6 x y).cells).toArray), .inl (.agg ((opV 9 x y).cells).toArray), .inl (.bool false), .inl (.bool false), .inl (.bool false), .inl (.agg (x.cells).toArray), .inl (.agg (y.cells).toArray), .inl (.agg ((opV 8 x y).cells).toArray), .inl (.agg (x.cells).toArray), .inl (.agg (y.cells).toArray)] [] (by kernel_rfl) (by kernel_rfl) (by kernel_rfl) (by kernel_rfl) rfl (by kernel_rfl) (by kernel_rfl) late_nil ?_ ?_ ?_
 ·exact Ds.none rfl
 ·refine ea_cons ?_ (ea_cons ?_ (ea_cons ?_ (ea_cons ?_ (ea_cons ?_ (ea_cons ?_ (ea_cons ?_ (ea_cons ?_ (ea_cons ?_ (ea_cons ?_ (ea_cons ?_ (ea_cons ?_ (ea_cons ?_ (ea_cons ?_ (ea_cons ?_ (ea_cons ?_ (ea_cons ?_ (ea_cons ?_ (ea_cons ?_ (ea_cons ?_ (ea_cons ?_ (ea_cons ?_ (ea_cons ?_ (ea_cons ?_ (ea_cons ?_ (ea_cons ?_ (ea_cons ?_ (ea_cons ?_ (ea_nil))))))))))))))))))))))))))))
  ·exact og_eq _ rfl (fun f wf hq hd K hK => go_run rfl (wo_call 10 [] _ [] (.bool true) rfl rfl (fun _ _ => by kernel_rfl) (live_n _) hK))
  ·exact og_eq _ rfl (fun f wf hq hd K hK => go_run rfl (wo_un (fun v => Op.unary .not v) (.tmp 7) (.bool true) (.bool false) (fun _ => rfl) (hd 0 rfl) (by kernel_rfl) (hK _ (Mw.refl _))))
  ·exact og_eq _ rfl (fun f wf hq hd K hK => go_run rfl (wo_mv (.tmp 8) (.bool false) (fun _ => rfl) (hd 1 rfl) (hK _ (Mw.refl _))))
  ·exact og_eq _ rfl (fun f wf hq hd K hK => have Q1 := Q1.mo hq; go_run (wnt_g rfl rfl rfl (hd 2 rfl) rfl) (wo_load 28 (.tmp 2) (pt k1 0) (.agg (x.cells).toArray) rfl rfl (run_row Q1 28 0 10 (x.cells) rfl Tryz.underlying28 rfl sz28) (hK _ (Mw.refl _))))
  ·exact og_eq _ rfl (fun f wf hq hd K hK => have Q2 := Q2.mo hq; go_run (wnt_g rfl rfl rfl (hd 2 rfl) rfl) (wo_load 28 (.tmp 3) (pt k2 0) (.agg (y.cells).toArray) rfl rfl (run_row Q2 28 0 10 (y.cells) rfl Tryz.underlying28 rfl sz28) (hK _ (Mw.refl _))))
  ·exact og_eq _ rfl (fun f wf hq hd K hK => go_run (wnt_g rfl rfl rfl (hd 2 rfl) rfl) (wo_call 11 [(.const (.int .i64 (4))), (.tmp 10), (.tmp 11)] _ [.int .i64 (4), .agg (x.cells).toArray, .agg (y.cells).toArray] (.agg ((opV 4 x y).cells).toArray) rfl (li3 rfl (hd 3 rfl) (hd 4 rfl)) (fun _ _ => by kernel_rfl) (wk (op_n 4 x y _ hx hy)) hK))
  ·exact og_eq _ rfl (fun f wf hq hd K hK => have Q1 := Q1.mo hq; go_run (wnt_g rfl rfl rfl (hd 2 rfl) rfl) (wo_load 28 (.tmp 2) (pt k1 0) (.agg (x.cells).toArray) rfl rfl (run_row Q1 28 0 10 (x.cells) rfl Tryz.underlying28 rfl sz28) (hK _ (Mw.refl _))))
  ·exact og_eq _ rfl (fun f wf hq hd K hK => have Q2 := Q2.mo hq; go_run (wnt_g rfl rfl rfl (hd 2 rfl) rfl) (wo_load 28 (.tmp 3) (pt k2 0) (.agg (y.cells).toArray) rfl rfl (run_row Q2 28 0 10 (y.cells) rfl Tryz.underlying28 rfl sz28) (hK _ (Mw.refl _))))
  ·exact og_eq _ rfl (fun f wf hq hd K hK => go_run (wnt_g rfl rfl rfl (hd 2 rfl) rfl) (wo_call 11 [(.const (.int .i64 (5))), (.tmp 13), (.tmp 14)] _ [.int .i64 (5), .agg (x.cells).toArray, .agg (y.cells).toArray] (.agg ((opV 5 x y).cells).toArray) rfl (li3 rfl (hd 6 rfl) (hd 7 rfl)) (fun _ _ => by kernel_rfl) (wk (op_n 5 x y _ hx hy)) hK))
  ·exact og_eq _ rfl (fun f wf hq hd K hK => go_run (wnt_g rfl rfl rfl (hd 2 rfl) rfl) (wo_call 19 [(.tmp 15)] _ [.agg ((opV 5 x y).cells).toArray] (.agg ((opV 4 x y).cells).toArray) rfl (li1 (hd 8 rfl)) (fun _ _ => by kernel_rfl) (wk (cV ((turn_eq x y).symm) (not_n (opV 5 x y) _ (fit_op 5 hx hy).1))) hK))
  ·exact og_eq _ rfl (fun f wf hq hd K hK => go_run (wnt_g rfl rfl rfl (hd 2 rfl) rfl) (wo_bin (fun x y => do eqGuard .neq 28 (.tmp 12) (.tmp 16) x y; binOp .neq 28 x y) (.tmp 12) (.tmp 16) (.agg ((opV 4 x y).cells).toArray) (.agg ((opV 4 x y).cells).toArray) (.bool false) (fun _ => rfl) (hd 5 rfl) (hd 9 rfl) (neW (svv_self _) _ _ _) (hK _ (Mw.refl _))))
  ·exact og_eq _ rfl (fun f wf hq hd K hK => go_run rfl (wo_pick (.tmp 9) (.const (.bool true)) (.tmp 17) false (.bool false) (fun _ => rfl) (hd 2 rfl) (hd 10 rfl) (hK _ (Mw.refl _))))
  ·exact og_eq _ rfl (fun f wf hq hd K hK => go_run rfl (wo_mv (.tmp 18) (.bool false) (fun _ => rfl) (hd 11 rfl) (hK _ (Mw.refl _))))
  ·exact og_eq _ rfl (fun f wf hq hd K hK => have Q1 := Q1.mo hq; go_run (wnt_g rfl rfl rfl (hd 12 rfl) rfl) (wo_load 28 (.tmp 2) (pt k1 0) (.agg (x.cells).toArray) rfl rfl (run_row Q1 28 0 10 (x.cells) rfl Tryz.underlying28 rfl sz28) (hK _ (Mw.refl _))))
  ·exact og_eq _ rfl (fun f wf hq hd K hK => have Q2 := Q2.mo hq; go_run (wnt_g rfl rfl rfl (hd 12 rfl) rfl) (wo_load 28 (.tmp 3) (pt k2 0) (.agg (y.cells).toArray) rfl rfl (run_row Q2 28 0 10 (y.cells) rfl Tryz.underlying28 rfl sz28) (hK _ (Mw.refl _))))
  ·exact og_eq _ rfl (fun f wf hq hd K hK => go_run (wnt_g rfl rfl rfl (hd 12 rfl) rfl) (wo_call 11 [(.const (.int .i64 (9))), (.tmp 20), (.tmp 21)] _ [.int .i64 (9), .agg (x.cells).toArray, .agg (y.cells).toArray] (.agg ((opV 9 x y).cells).toArray) rfl (li3 rfl (hd 13 rfl) (hd 14 rfl)) (fun _ _ => by kernel_rfl) (wk (op_n 9 x y _ hx hy)) hK))
  ·exact og_eq _ rfl (fun f wf hq hd K hK => have Q1 := Q1.mo hq; go_run (wnt_g rfl rfl rfl (hd 12 rfl) rfl) (wo_load 28 (.tmp 2) (pt k1 0) (.agg (x.cells).toArray) rfl rfl (run_row Q1 28 0 10 (x.cells) rfl Tryz.underlying28 rfl sz28) (hK _ (Mw.refl _))))
  ·exact og_eq _ rfl (fun f wf hq hd K hK => have Q2 := Q2.mo hq; go_run (wnt_g rfl rfl rfl (hd 12 rfl) rfl) (wo_load 28 (.tmp 3) (pt k2 0) (.agg (y.cells).toArray) rfl rfl (run_row Q2 28 0 10 (y.cells) rfl Tryz.underlying28 rfl sz28) (hK _ (Mw.refl _))))
  ·exact og_eq _ rfl (fun f wf hq hd K hK => go_run (wnt_g rfl rfl rfl (hd 12 rfl) rfl) (wo_call 11 [(.const (.int .i64 (6))), (.tmp 23), (.tmp 24)] _ [.int .i64 (6), .agg (x.cells).toArray, .agg (y.cells).toArray] (.agg ((opV 6 x y).cells).toArray) rfl (li3 rfl (hd 16 rfl) (hd 17 rfl)) (fun _ _ => by kernel_rfl) (wk (op_n 6 x y _ hx hy)) hK))
  ·exact og_eq _ rfl (fun f wf hq hd K hK => go_run (wnt_g rfl rfl rfl (hd 12 rfl) rfl) (wo_call 19 [(.tmp 25)] _ [.agg ((opV 6 x y).cells).toArray] (.agg ((opV 9 x y).cells).toArray) rfl (li1 (hd 18 rfl)) (fun _ _ => by kernel_rfl) (wk (cV ((turn_ge x y).symm) (not_n (opV 6 x y) _ (fit_op 6 hx hy).1))) hK))
  ·exact og_eq _ rfl (fun f wf hq hd K hK => go_run (wnt_g rfl rfl rfl (hd 12 rfl) rfl) (wo_bin (fun x y => do eqGuard .neq 28 (.tmp 22) (.tmp 26) x y; binOp .neq 28 x y) (.tmp 22) (.tmp 26) (.agg ((opV 9 x y).cells).toArray) (.agg ((opV 9 x y).cells).toArray) (.bool false) (fun _ => rfl) (hd 15 rfl) (hd 19 rfl) (neW (svv_self _) _ _ _) (hK _ (Mw.refl _))))
  ·exact og_eq _ rfl (fun f wf hq hd K hK => go_run rfl (wo_pick (.tmp 19) (.const (.bool true)) (.tmp 27) false (.bool false) (fun _ => rfl) (hd 12 rfl) (hd 20 rfl) (hK _ (Mw.refl _))))
  ·exact og_eq _ rfl (fun f wf hq hd K hK => go_run rfl (wo_mv (.tmp 28) (.bool false) (fun _ => rfl) (hd 21 rfl) (hK _ (Mw.refl _))))
  ·exact og_eq _ rfl (fun f wf hq hd K hK => have Q1 := Q1.mo hq; go_run (wnt_g rfl rfl rfl (hd 22 rfl) rfl) (wo_load 28 (.tmp 2) (pt k1 0) (.agg (x.cells).toArray) rfl rfl (run_row Q1 28 0 10 (x.cells) rfl Tryz.underlying28 rfl sz28) (hK _ (Mw.refl _))))
  ·exact og_eq _ rfl (fun f wf hq hd K hK => have Q2 := Q2.mo hq; go_run (wnt_g rfl rfl rfl (hd 22 rfl) rfl) (wo_load 28 (.tmp 3) (pt k2 0) (.agg (y.cells).toArray) rfl rfl (run_row Q2 28 0 10 (y.cells) rfl Tryz.underlying28 rfl sz28) (hK _ (Mw.refl _))))
  ·exact og_eq _ rfl (fun f wf hq hd K hK => go_run (wnt_g rfl rfl rfl (hd 22 rfl) rfl) (wo_call 11 [(.const (.int .i64 (8))), (.tmp 30), (.tmp 31)] _ [.int .i64 (8), .agg (x.cells).toArray, .agg (y.cells).toArray] (.agg ((opV 8 x y).cells).toArray) rfl (li3 rfl (hd 23 rfl) (hd 24 rfl)) (fun _ _ => by kernel_rfl) (wk (op_n 8 x y _ hx hy)) hK))
  ·exact og_eq _ rfl (fun f wf hq hd K hK => have Q1 := Q1.mo hq; go_run (wnt_g rfl rfl rfl (hd 22 rfl) rfl) (wo_load 28 (.tmp 2) (pt k1 0) (.agg (x.cells).toArray) rfl rfl (run_row Q1 28 0 10 (x.cells) rfl Tryz.underlying28 rfl sz28) (hK _ (Mw.refl _))))
  ·exact og_eq _ rfl (fun f wf hq hd K hK => have Q2 := Q2.mo hq; go_run (wnt_g rfl rfl rfl (hd 22 rfl) rfl) (wo_load 28 (.tmp 3) (pt k2 0) (.agg (y.cells).toArray) rfl rfl (run_row Q2 28 0 10 (y.cells) rfl Tryz.underlying28 rfl sz28) (hK _ (Mw.refl _))))
 intro kf3 u3 hq hR hne
 replace Q1 := Q1.mo hq
 replace Q2 := Q2.mo hq
 replace M := M.trans hq
 clear hq hR hne
 refine wl_call 11 [(.const (.int .i64 (7))), (.tmp 33), (.tmp 34)] _ [.int .i64 (7), .agg (x.cells).toArray, .agg (y.cells).toArray] (.agg ((opV 7 x y).cells).toArray) rfl rfl (fun _ _ => by kernel_rfl) (wk (op_n 7 x y _ hx hy)) rfl ?_
 intro u4 hq
 replace Q1 := Q1.mo hq
 replace Q2 := Q2.mo hq
 replace M := M.trans hq
 clear hq
 refine wl_call 19 [(.tmp 35)] _ [.agg ((opV 7 x y).cells).toArray] (.agg ((opV 8 x y).cells).toArray) rfl rfl (fun _ _ => by kernel_rfl) (wk (cV ((turn_gt x y).symm) (not_n (opV 7 x y) _ (fit_op 7 hx hy).1))) rfl ?_
 intro u5 hq
 replace Q1 := Q1.mo hq
 replace Q2 := Q2.mo hq
 replace M := M.trans hq
 clear hq
 refine wl_b .neq 28 (.tmp 32) (.tmp 36) (.agg ((opV 8 x y).cells).toArray) (.agg ((opV 8 x y).cells).toArray) (.bool false) (neW (svv_self _) _ _ _) ?_
 refine wl_pick (.tmp 29) (.const (.bool true)) (.tmp 37) false (.bool false) (fun _ => rfl) rfl rfl rfl ?_
 refine w_nil (xn_then (w_condF rfl (w_skip (xn_then (w_seq ?_)))))
 refine w_any 11 [.inl (.agg (x.cells).toArray), .inl (.agg (y.cells).toArray), .inl (.agg ((opV 10 x y).cells).toArray), .inl (.agg (x.cells).toArray), .inl (.agg ((notV x).cells).toArray), .inl (.agg (y.cells).toArray), .inl (.agg ((notV y).cells).toArray), .inl (.agg ((opV 11 (notV x) (notV y)).cells).toArray), .inl (.agg ((notV (opV 11 (notV x) (notV y))).cells).toArray), .inr [.int .i64 0, .bool false, .int .u64 0, .int .u64 0, .int .u64 0, .int .u64 0, .int .i64 0, .bool false, .string ⟨#[]⟩, .int .i64 0], .inr [.int .i64 0, .bool false, .int .u64 0, .int .u64 0, .int .u64 0, .int .u64 0, .int .i64 0, .bool false, .string ⟨#[]⟩, .int .i64 0]] [] (by kernel_rfl) (by kernel_rfl) (by kernel_rfl) (by kernel_rfl) rfl (by kernel_rfl) (by kernel_rfl) late_nil ?_ ?_ ?_
 ·exact Ds.start (by kernel_rfl)
 ·refine ea_cons ?_ (ea_cons ?_ (ea_cons ?_ (ea_cons ?_ (ea_cons ?_ (ea_cons ?_ (ea_cons ?_ (ea_cons ?_ (ea_cons ?_ (ea_cons ?_ (ea_cons ?_ (ea_nil)))))))))))
  ·exact og_eq _ rfl (fun f wf hq hd K hK => have Q1 := Q1.mo hq; go_run rfl (wo_load 28 (.tmp 2) (pt k1 0) (.agg (x.cells).toArray) rfl rfl (run_row Q1 28 0 10 (x.cells) rfl Tryz.underlying28 rfl sz28) (hK _ (Mw.refl _))))
  ·exact og_eq _ rfl (fun f wf hq hd K hK => have Q2 := Q2.mo hq; go_run rfl (wo_load 28 (.tmp 3) (pt k2 0) (.agg (y.cells).toArray) rfl rfl (run_row Q2 28 0 10 (y.cells) rfl Tryz.underlying28 rfl sz28) (hK _ (Mw.refl _))))
  ·exact og_eq _ rfl (fun f wf hq hd K hK => go_run rfl (wo_call 11 [(.const (.int .i64 (10))), (.tmp 39), (.tmp 40)] _ [.int .i64 (10), .agg (x.cells).toArray, .agg (y.cells).toArray] (.agg ((opV 10 x y).cells).toArray) rfl (li3 rfl (hd 0 rfl) (hd 1 rfl)) (fun _ _ => by kernel_rfl) (wk (op_n 10 x y _ hx hy)) hK))
  ·exact og_eq _ rfl (fun f wf hq hd K hK => have Q1 := Q1.mo hq; go_run rfl (wo_load 28 (.tmp 2) (pt k1 0) (.agg (x.cells).toArray) rfl rfl (run_row Q1 28 0 10 (x.cells) rfl Tryz.underlying28 rfl sz28) (hK _ (Mw.refl _))))
  ·exact og_eq _ rfl (fun f wf hq hd K hK => go_run rfl (wo_call 19 [(.tmp 42)] _ [.agg (x.cells).toArray] (.agg ((notV x).cells).toArray) rfl (li1 (hd 3 rfl)) (fun _ _ => by kernel_rfl) (wk (not_n x _ hx)) hK))
  ·exact og_eq _ rfl (fun f wf hq hd K hK => have Q2 := Q2.mo hq; go_run rfl (wo_load 28 (.tmp 3) (pt k2 0) (.agg (y.cells).toArray) rfl rfl (run_row Q2 28 0 10 (y.cells) rfl Tryz.underlying28 rfl sz28) (hK _ (Mw.refl _))))
  ·exact og_eq _ rfl (fun f wf hq hd K hK => go_run rfl (wo_call 19 [(.tmp 44)] _ [.agg (y.cells).toArray] (.agg ((notV y).cells).toArray) rfl (li1 (hd 5 rfl)) (fun _ _ => by kernel_rfl) (wk (not_n y _ hy)) hK))
  ·exact og_eq _ rfl (fun f wf hq hd K hK => go_run rfl (wo_call 11 [(.const (.int .i64 (11))), (.tmp 43), (.tmp 45)] _ [.int .i64 (11), .agg ((notV x).cells).toArray, .agg ((notV y).cells).toArray] (.agg ((opV 11 (notV x) (notV y)).cells).toArray) rfl (li3 rfl (hd 4 rfl) (hd 6 rfl)) (fun _ _ => by kernel_rfl) (wk (op_n 11 (notV x) (notV y) _ (fit_not x).1 (fit_not y).1)) hK))
  ·exact og_eq _ rfl (fun f wf hq hd K hK => go_run rfl (wo_call 19 [(.tmp 46)] _ [.agg ((opV 11 (notV x) (notV y)).cells).toArray] (.agg ((notV (opV 11 (notV x) (notV y))).cells).toArray) rfl (li1 (hd 7 rfl)) (fun _ _ => by kernel_rfl) (wk (not_n (opV 11 (notV x) (notV y)) _ (fit_op 11 (fit_not x).1 (fit_not y).1).1)) hK))
  ·exact og_new [.int .i64 0, .bool false, .int .u64 0, .int .u64 0, .int .u64 0, .int .u64 0, .int .i64 0, .bool false, .string ⟨#[]⟩, .int .i64 0] rfl (fun f wf hq hd K hK => go_run rfl (wo_alloc 28 #[.int .i64 0, .bool false, .int .u64 0, .int .u64 0, .int .u64 0, .int .u64 0, .int .i64 0, .bool false, .string ⟨#[]⟩, .int .i64 0] rfl (fun _ => by kernel_rfl) hK))
  ·exact og_new [.int .i64 0, .bool false, .int .u64 0, .int .u64 0, .int .u64 0, .int .u64 0, .int .i64 0, .bool false, .string ⟨#[]⟩, .int .i64 0] rfl (fun f wf hq hd K hK => go_run rfl (wo_alloc 28 #[.int .i64 0, .bool false, .int .u64 0, .int .u64 0, .int .u64 0, .int .u64 0, .int .i64 0, .bool false, .string ⟨#[]⟩, .int .i64 0] rfl (fun _ => by kernel_rfl) hK))
 intro kf6 u6 hq hR hne
 obtain ⟨N_k3, Q3⟩ := hR 9 _ rfl rfl
 obtain ⟨N_k4, Q4⟩ := hR 10 _ rfl rfl
 have ne_k1_k3 : k1 ≠ (kf6 9) := by have := Q1.lt; omega
 have ne_k2_k3 : k2 ≠ (kf6 9) := by have := Q2.lt; omega
 have ne_k3_k4 := hne 9 10 rfl rfl rfl rfl (by decide)
 replace N_k3 := Nat.le_trans M.size N_k3
 have ne_k1_k4 : k1 ≠ (kf6 10) := by have := Q1.lt; omega
 have ne_k2_k4 : k2 ≠ (kf6 10) := by have := Q2.lt; omega
 replace N_k4 := Nat.le_trans M.size N_k4
 replace Q1 := Q1.mo hq
 replace Q2 := Q2.mo hq
 replace M := M.trans hq
 clear hq hR hne
 refine wl_st 28 (.tmp 5) (.tmp 41) (kf6 9) 0 (((opV 10 x y).cells).toArray) _ ((opV 10 x y).cells) Q3 rfl rfl rfl rfl rfl sz28 rfl rfl rfl ?_
 intro u7 hS Qn
 replace Q3 := Qn
 clear Qn
 replace Q1 := hS.other _ _ ne_k1_k3 Q1
 replace Q2 := hS.other _ _ ne_k2_k3 Q2
 replace Q4 := hS.other _ _ ne_k3_k4.symm Q4
 replace M := hS.mo _ N_k3 M
 clear hS
 refine wl_st 28 (.tmp 6) (.tmp 47) (kf6 10) 0 (((notV (opV 11 (notV x) (notV y))).cells).toArray) _ ((notV (opV 11 (notV x) (notV y))).cells) Q4 rfl rfl rfl rfl rfl sz28 rfl rfl rfl ?_
 intro u8 hS Qn
 replace Q4 := Qn
 clear Qn
 replace Q1 := hS.other _ _ ne_k1_k4 Q1
 replace Q2 := hS.other _ _ ne_k2_k4 Q2
 replace Q3 := hS.other _ _ ne_k3_k4 Q3
 replace M := hS.mo _ N_k4 M
 clear hS
 refine w_nil (xn_then (w_seq (w_seq (w_reg ?_))))
 refine wl_f 28 0 (.tmp 5) (pt (kf6 9) 0) (pt (kf6 9) 0) ?_
 refine wl_l 3 (.tmp 48) (pt (kf6 9) 0) (.int .i64 ((opV 10 x y).k)) (run_one Q3 3 0 rfl Tryz.underlying3 rfl) ?_
 cases hf0 : decide ((opV 10 x y).k = 4) with
 | true =>
  have hf0p := of_decide_eq_true hf0
  refine wl_b .neq 3 (.tmp 49) (.const (.int .i64 (4))) (.int .i64 ((opV 10 x y).k)) (.int .i64 (4)) (.bool false) (ne3 hf0 _ _ _) ?_
  refine wl_m (.tmp 50) (.bool false) ?_
  refine wl_skip rfl (wl_skip rfl (wl_skip rfl ?_))
  refine wl_pick (.tmp 51) (.tmp 54) (.const (.bool false)) false (.bool false) (fun _ => rfl) rfl rfl rfl ?_
  refine w_nil (xn_then (w_condF rfl (w_skip (xn_then (w_seq (w_seq (w_reg ?_)))))))
  refine wl_f 28 0 (.tmp 2) (pt k1 0) (pt k1 0) ?_
  refine wl_l 3 (.tmp 56) (pt k1 0) (.int .i64 (x.k)) (run_one Q1 3 0 rfl Tryz.underlying3 rfl) ?_
  cases hf1 : decide (x.k = 1) with
  | true =>
   have hf1p := of_decide_eq_true hf1
   refine wl_b .neq 3 (.tmp 57) (.const (.int .i64 (1))) (.int .i64 (x.k)) (.int .i64 (1)) (.bool false) (ne3 hf1 _ _ _) ?_
   refine wl_m (.tmp 58) (.bool false) ?_
   refine wl_f 28 0 (.tmp 3) (pt k2 0) (pt k2 0) ?_
   refine wl_l 3 (.tmp 60) (pt k2 0) (.int .i64 (y.k)) (run_one Q2 3 0 rfl Tryz.underlying3 rfl) ?_
   cases hf2 : decide (y.k = 1) with
   | true =>
    have hf2p := of_decide_eq_true hf2
    refine wl_b .neq 3 (.tmp 61) (.const (.int .i64 (1))) (.int .i64 (y.k)) (.int .i64 (1)) (.bool false) (ne3 hf2 _ _ _) ?_
    refine wl_pick (.tmp 59) (.const (.bool true)) (.tmp 62) false (.bool false) (fun _ => rfl) rfl rfl rfl ?_
    refine wl_m (.tmp 63) (.bool false) ?_
    refine wl_l 28 (.tmp 2) (pt k1 0) (.agg (x.cells).toArray) (run_row Q1 28 0 10 (x.cells) rfl Tryz.underlying28 rfl sz28) ?_
    cases hf3 : ckv x with
    | true =>
     refine wl_call 14 [(.tmp 65)] _ [.agg (x.cells).toArray] (.int .i64 (0)) rfl rfl (fun _ _ => by kernel_rfl) (wk (rcheck_t hf3 hx _)) rfl ?_
     intro u9 hq
     replace Q1 := Q1.mo hq
     replace Q2 := Q2.mo hq
     replace Q3 := Q3.mo hq
     replace Q4 := Q4.mo hq
     replace M := M.trans hq
     clear hq
     refine wl_b .neq 32 (.tmp 66) (.const (.int .i64 (0))) (.int .i64 (0)) (.int .i64 (0)) (.bool false) (ne34 (r := true) rfl _ _ _) ?_
     refine wl_pick (.tmp 64) (.const (.bool true)) (.tmp 67) false (.bool false) (fun _ => rfl) rfl rfl rfl ?_
     refine wl_m (.tmp 68) (.bool false) ?_
     refine wl_l 28 (.tmp 3) (pt k2 0) (.agg (y.cells).toArray) (run_row Q2 28 0 10 (y.cells) rfl Tryz.underlying28 rfl sz28) ?_
     cases hf4 : ckv y with
     | true =>
      refine wl_call 14 [(.tmp 70)] _ [.agg (y.cells).toArray] (.int .i64 (0)) rfl rfl (fun _ _ => by kernel_rfl) (wk (rcheck_t hf4 hy _)) rfl ?_
      intro u10 hq
      replace Q1 := Q1.mo hq
      replace Q2 := Q2.mo hq
      replace Q3 := Q3.mo hq
      replace Q4 := Q4.mo hq
      replace M := M.trans hq
      clear hq
      refine wl_b .neq 32 (.tmp 71) (.const (.int .i64 (0))) (.int .i64 (0)) (.int .i64 (0)) (.bool false) (ne34 (r := true) rfl _ _ _) ?_
      refine wl_pick (.tmp 69) (.const (.bool true)) (.tmp 72) false (.bool false) (fun _ => rfl) rfl rfl rfl ?_
      refine w_nil (xn_then (w_condF rfl (w_skip (xn_then (w_seq ?_)))))
      have kx : x.k = 1 := hf1p
      have ky : y.k = 1 := hf2p
      have cx := hf3
      have cy := hf4
      refine w_any 31 [.inl (.agg (x.cells).toArray), .inl (.agg (y.cells).toArray), .inl (.agg ((opV 1 x y).cells).toArray), .inl (.agg (y.cells).toArray), .inl (.agg (x.cells).toArray), .inl (.agg ((opV 1 x y).cells).toArray), .inl (.bool true), .inl (.bool true), .inl (.agg (x.cells).toArray), .inl (.agg (y.cells).toArray), .inl (.agg ((opV 3 x y).cells).toArray), .inl (.agg (y.cells).toArray), .inl (.agg (x.cells).toArray), .inl (.agg ((opV 3 x y).cells).toArray), .inl (.bool true), .inl (.bool true), .inl (.bool true), .inl (.agg (x.cells).toArray), .inl (.agg (y.cells).toArray), .inl (.agg ((opV 4 x y).cells).toArray), .inl (.agg (y.cells).toArray), .inl (.agg (x.cells).toArray), .inl (.agg ((opV 4 x y).cells).toArray), .inl (.bool true), .inl (.bool true), .inl (.bool true), .inl (.agg (x.cells).toArray), .inl (.agg (y.cells).toArray), .inl (.agg ((opV 6 x y).cells).toArray), .inl (.agg (y.cells).toArray), .inl (.agg (x.cells).toArray)] [] (by kernel_rfl) (by kernel_rfl) (by kernel_rfl) (by kernel_rfl) rfl (by kernel_rfl) (by kernel_rfl) late_nil ?_ ?_ ?_
      ·exact Ds.none rfl
      ·refine ea_cons ?_ (ea_cons ?_ (ea_cons ?_ (ea_cons ?_ (ea_cons ?_ (ea_cons ?_ (ea_cons ?_ (ea_cons ?_ (ea_cons ?_ (ea_cons ?_ (ea_cons ?_ (ea_cons ?_ (ea_cons ?_ (ea_cons ?_ (ea_cons ?_ (ea_cons ?_ (ea_cons ?_ (ea_cons ?_ (ea_cons ?_ (ea_cons ?_ (ea_cons ?_ (ea_cons ?_ (ea_cons ?_ (ea_cons ?_ (ea_cons ?_ (ea_cons ?_ (ea_cons ?_ (ea_cons ?_ (ea_cons ?_ (ea_cons ?_ (ea_cons ?_ (ea_nil)))))))))))))))))))))))))))))))
       ·exact og_eq _ rfl (fun f wf hq hd K hK => have Q1 := Q1.mo hq; go_run rfl (wo_load 28 (.tmp 2) (pt k1 0) (.agg (x.cells).toArray) rfl rfl (run_row Q1 28 0 10 (x.cells) rfl Tryz.underlying28 rfl sz28) (hK _ (Mw.refl _))))
       ·exact og_eq _ rfl (fun f wf hq hd K hK => have Q2 := Q2.mo hq; go_run rfl (wo_load 28 (.tmp 3) (pt k2 0) (.agg (y.cells).toArray) rfl rfl (run_row Q2 28 0 10 (y.cells) rfl Tryz.underlying28 rfl sz28) (hK _ (Mw.refl _))))
       ·exact og_eq _ rfl (fun f wf hq hd K hK => go_run rfl (wo_call 11 [(.const (.int .i64 (1))), (.tmp 74), (.tmp 75)] _ [.int .i64 (1), .agg (x.cells).toArray, .agg (y.cells).toArray] (.agg ((opV 1 x y).cells).toArray) rfl (li3 rfl (hd 0 rfl) (hd 1 rfl)) (fun _ _ => by kernel_rfl) (wk (op_n 1 x y _ hx hy)) hK))
       ·exact og_eq _ rfl (fun f wf hq hd K hK => have Q2 := Q2.mo hq; go_run rfl (wo_load 28 (.tmp 3) (pt k2 0) (.agg (y.cells).toArray) rfl rfl (run_row Q2 28 0 10 (y.cells) rfl Tryz.underlying28 rfl sz28) (hK _ (Mw.refl _))))
       ·exact og_eq _ rfl (fun f wf hq hd K hK => have Q1 := Q1.mo hq; go_run rfl (wo_load 28 (.tmp 2) (pt k1 0) (.agg (x.cells).toArray) rfl rfl (run_row Q1 28 0 10 (x.cells) rfl Tryz.underlying28 rfl sz28) (hK _ (Mw.refl _))))
       ·exact og_eq _ rfl (fun f wf hq hd K hK => go_run rfl (wo_call 11 [(.const (.int .i64 (1))), (.tmp 77), (.tmp 78)] _ [.int .i64 (1), .agg (y.cells).toArray, .agg (x.cells).toArray] (.agg ((opV 1 x y).cells).toArray) rfl (li3 rfl (hd 3 rfl) (hd 4 rfl)) (fun _ _ => by kernel_rfl) (wk (cV (turn_1 kx ky cx cy) (op_n 1 y x _ hy hx))) hK))
       ·exact og_eq _ rfl (fun f wf hq hd K hK => go_run rfl (wo_bin (fun x y => do eqGuard .eql 28 (.tmp 76) (.tmp 79) x y; binOp .eql 28 x y) (.tmp 76) (.tmp 79) (.agg ((opV 1 x y).cells).toArray) (.agg ((opV 1 x y).cells).toArray) (.bool true) (fun _ => rfl) (hd 2 rfl) (hd 5 rfl) (eqW (svv_self _) _ _ _) (hK _ (Mw.refl _))))
       ·exact og_eq _ rfl (fun f wf hq hd K hK => go_run rfl (wo_mv (.tmp 80) (.bool true) (fun _ => rfl) (hd 6 rfl) (hK _ (Mw.refl _))))
       ·exact og_eq _ rfl (fun f wf hq hd K hK => have Q1 := Q1.mo hq; go_run (wnt_g rfl rfl rfl (hd 7 rfl) rfl) (wo_load 28 (.tmp 2) (pt k1 0) (.agg (x.cells).toArray) rfl rfl (run_row Q1 28 0 10 (x.cells) rfl Tryz.underlying28 rfl sz28) (hK _ (Mw.refl _))))
       ·exact og_eq _ rfl (fun f wf hq hd K hK => have Q2 := Q2.mo hq; go_run (wnt_g rfl rfl rfl (hd 7 rfl) rfl) (wo_load 28 (.tmp 3) (pt k2 0) (.agg (y.cells).toArray) rfl rfl (run_row Q2 28 0 10 (y.cells) rfl Tryz.underlying28 rfl sz28) (hK _ (Mw.refl _))))
       ·exact og_eq _ rfl (fun f wf hq hd K hK => go_run (wnt_g rfl rfl rfl (hd 7 rfl) rfl) (wo_call 11 [(.const (.int .i64 (3))), (.tmp 82), (.tmp 83)] _ [.int .i64 (3), .agg (x.cells).toArray, .agg (y.cells).toArray] (.agg ((opV 3 x y).cells).toArray) rfl (li3 rfl (hd 8 rfl) (hd 9 rfl)) (fun _ _ => by kernel_rfl) (wk (op_n 3 x y _ hx hy)) hK))
       ·exact og_eq _ rfl (fun f wf hq hd K hK => have Q2 := Q2.mo hq; go_run (wnt_g rfl rfl rfl (hd 7 rfl) rfl) (wo_load 28 (.tmp 3) (pt k2 0) (.agg (y.cells).toArray) rfl rfl (run_row Q2 28 0 10 (y.cells) rfl Tryz.underlying28 rfl sz28) (hK _ (Mw.refl _))))
       ·exact og_eq _ rfl (fun f wf hq hd K hK => have Q1 := Q1.mo hq; go_run (wnt_g rfl rfl rfl (hd 7 rfl) rfl) (wo_load 28 (.tmp 2) (pt k1 0) (.agg (x.cells).toArray) rfl rfl (run_row Q1 28 0 10 (x.cells) rfl Tryz.underlying28 rfl sz28) (hK _ (Mw.refl _))))
       ·exact og_eq _ rfl (fun f wf hq hd K hK => go_run (wnt_g rfl rfl rfl (hd 7 rfl) rfl) (wo_call 11 [(.const (.int .i64 (3))), (.tmp 85), (.tmp 86)] _ [.int .i64 (3), .agg (y.cells).toArray, .agg (x.cells).toArray] (.agg ((opV 3 x y).cells).toArray) rfl (li3 rfl (hd 11 rfl) (hd 12 rfl)) (fun _ _ => by kernel_rfl) (wk (cV (turn_3 kx ky cx cy) (op_n 3 y x _ hy hx))) hK))
       ·exact og_eq _ rfl (fun f wf hq hd K hK => go_run (wnt_g rfl rfl rfl (hd 7 rfl) rfl) (wo_bin (fun x y => do eqGuard .eql 28 (.tmp 84) (.tmp 87) x y; binOp .eql 28 x y) (.tmp 84) (.tmp 87) (.agg ((opV 3 x y).cells).toArray) (.agg ((opV 3 x y).cells).toArray) (.bool true) (fun _ => rfl) (hd 10 rfl) (hd 13 rfl) (eqW (svv_self _) _ _ _) (hK _ (Mw.refl _))))
       ·exact og_eq _ rfl (fun f wf hq hd K hK => go_run rfl (wo_pick (.tmp 81) (.tmp 88) (.const (.bool false)) true (.bool true) (fun _ => rfl) (hd 7 rfl) (hd 14 rfl) (hK _ (Mw.refl _))))
       ·exact og_eq _ rfl (fun f wf hq hd K hK => go_run rfl (wo_mv (.tmp 89) (.bool true) (fun _ => rfl) (hd 15 rfl) (hK _ (Mw.refl _))))
       ·exact og_eq _ rfl (fun f wf hq hd K hK => have Q1 := Q1.mo hq; go_run (wnt_g rfl rfl rfl (hd 16 rfl) rfl) (wo_load 28 (.tmp 2) (pt k1 0) (.agg (x.cells).toArray) rfl rfl (run_row Q1 28 0 10 (x.cells) rfl Tryz.underlying28 rfl sz28) (hK _ (Mw.refl _))))
       ·exact og_eq _ rfl (fun f wf hq hd K hK => have Q2 := Q2.mo hq; go_run (wnt_g rfl rfl rfl (hd 16 rfl) rfl) (wo_load 28 (.tmp 3) (pt k2 0) (.agg (y.cells).toArray) rfl rfl (run_row Q2 28 0 10 (y.cells) rfl Tryz.underlying28 rfl sz28) (hK _ (Mw.refl _))))
       ·exact og_eq _ rfl (fun f wf hq hd K hK => go_run (wnt_g rfl rfl rfl (hd 16 rfl) rfl) (wo_call 11 [(.const (.int .i64 (4))), (.tmp 91), (.tmp 92)] _ [.int .i64 (4), .agg (x.cells).toArray, .agg (y.cells).toArray] (.agg ((opV 4 x y).cells).toArray) rfl (li3 rfl (hd 17 rfl) (hd 18 rfl)) (fun _ _ => by kernel_rfl) (wk (op_n 4 x y _ hx hy)) hK))
       ·exact og_eq _ rfl (fun f wf hq hd K hK => have Q2 := Q2.mo hq; go_run (wnt_g rfl rfl rfl (hd 16 rfl) rfl) (wo_load 28 (.tmp 3) (pt k2 0) (.agg (y.cells).toArray) rfl rfl (run_row Q2 28 0 10 (y.cells) rfl Tryz.underlying28 rfl sz28) (hK _ (Mw.refl _))))
       ·exact og_eq _ rfl (fun f wf hq hd K hK => have Q1 := Q1.mo hq; go_run (wnt_g rfl rfl rfl (hd 16 rfl) rfl) (wo_load 28 (.tmp 2) (pt k1 0) (.agg (x.cells).toArray) rfl rfl (run_row Q1 28 0 10 (x.cells) rfl Tryz.underlying28 rfl sz28) (hK _ (Mw.refl _))))
       ·exact og_eq _ rfl (fun f wf hq hd K hK => go_run (wnt_g rfl rfl rfl (hd 16 rfl) rfl) (wo_call 11 [(.const (.int .i64 (4))), (.tmp 94), (.tmp 95)] _ [.int .i64 (4), .agg (y.cells).toArray, .agg (x.cells).toArray] (.agg ((opV 4 x y).cells).toArray) rfl (li3 rfl (hd 20 rfl) (hd 21 rfl)) (fun _ _ => by kernel_rfl) (wk (cV (turn_4 kx ky cx cy) (op_n 4 y x _ hy hx))) hK))
       ·exact og_eq _ rfl (fun f wf hq hd K hK => go_run (wnt_g rfl rfl rfl (hd 16 rfl) rfl) (wo_bin (fun x y => do eqGuard .eql 28 (.tmp 93) (.tmp 96) x y; binOp .eql 28 x y) (.tmp 93) (.tmp 96) (.agg ((opV 4 x y).cells).toArray) (.agg ((opV 4 x y).cells).toArray) (.bool true) (fun _ => rfl) (hd 19 rfl) (hd 22 rfl) (eqW (svv_self _) _ _ _) (hK _ (Mw.refl _))))
       ·exact og_eq _ rfl (fun f wf hq hd K hK => go_run rfl (wo_pick (.tmp 90) (.tmp 97) (.const (.bool false)) true (.bool true) (fun _ => rfl) (hd 16 rfl) (hd 23 rfl) (hK _ (Mw.refl _))))
       ·exact og_eq _ rfl (fun f wf hq hd K hK => go_run rfl (wo_mv (.tmp 98) (.bool true) (fun _ => rfl) (hd 24 rfl) (hK _ (Mw.refl _))))
       ·exact og_eq _ rfl (fun f wf hq hd K hK => have Q1 := Q1.mo hq; go_run (wnt_g rfl rfl rfl (hd 25 rfl) rfl) (wo_load 28 (.tmp 2) (pt k1 0) (.agg (x.cells).toArray) rfl rfl (run_row Q1 28 0 10 (x.cells) rfl Tryz.underlying28 rfl sz28) (hK _ (Mw.refl _))))
       ·exact og_eq _ rfl (fun f wf hq hd K hK => have Q2 := Q2.mo hq; go_run (wnt_g rfl rfl rfl (hd 25 rfl) rfl) (wo_load 28 (.tmp 3) (pt k2 0) (.agg (y.cells).toArray) rfl rfl (run_row Q2 28 0 10 (y.cells) rfl Tryz.underlying28 rfl sz28) (hK _ (Mw.refl _))))
       ·exact og_eq _ rfl (fun f wf hq hd K hK => go_run (wnt_g rfl rfl rfl (hd 25 rfl) rfl) (wo_call 11 [(.const (.int .i64 (6))), (.tmp 100), (.tmp 101)] _ [.int .i64 (6), .agg (x.cells).toArray, .agg (y.cells).toArray] (.agg ((opV 6 x y).cells).toArray) rfl (li3 rfl (hd 26 rfl) (hd 27 rfl)) (fun _ _ => by kernel_rfl) (wk (op_n 6 x y _ hx hy)) hK))
       ·exact og_eq _ rfl (fun f wf hq hd K hK => have Q2 := Q2.mo hq; go_run (wnt_g rfl rfl rfl (hd 25 rfl) rfl) (wo_load 28 (.tmp 3) (pt k2 0) (.agg (y.cells).toArray) rfl rfl (run_row Q2 28 0 10 (y.cells) rfl Tryz.underlying28 rfl sz28) (hK _ (Mw.refl _))))
       ·exact og_eq _ rfl (fun f wf hq hd K hK => have Q1 := Q1.mo hq; go_run (wnt_g rfl rfl rfl (hd 25 rfl) rfl) (wo_load 28 (.tmp 2) (pt k1 0) (.agg (x.cells).toArray) rfl rfl (run_row Q1 28 0 10 (x.cells) rfl Tryz.underlying28 rfl sz28) (hK _ (Mw.refl _))))
      intro kf11 u11 hq hR hne
      replace Q1 := Q1.mo hq
      replace Q2 := Q2.mo hq
      replace Q3 := Q3.mo hq
      replace Q4 := Q4.mo hq
      replace M := M.trans hq
      clear hq hR hne
      refine wl_call 11 [(.const (.int .i64 (8))), (.tmp 103), (.tmp 104)] _ [.int .i64 (8), .agg (y.cells).toArray, .agg (x.cells).toArray] (.agg ((opV 6 x y).cells).toArray) rfl rfl (fun _ _ => by kernel_rfl) (wk (cV (turn_6 kx ky cx cy) (op_n 8 y x _ hy hx))) rfl ?_
      intro u12 hq
      replace Q1 := Q1.mo hq
      replace Q2 := Q2.mo hq
      replace Q3 := Q3.mo hq
      replace Q4 := Q4.mo hq
      replace M := M.trans hq
      clear hq
      refine wl_b .eql 28 (.tmp 102) (.tmp 105) (.agg ((opV 6 x y).cells).toArray) (.agg ((opV 6 x y).cells).toArray) (.bool true) (eqW (svv_self _) _ _ _) ?_
      refine wl_pick (.tmp 99) (.tmp 106) (.const (.bool false)) true (.bool true) (fun _ => rfl) rfl rfl rfl ?_
      refine wl_m (.tmp 107) (.bool true) ?_
      refine w_nil (xn_then (w_ret ?_))
      exact w_ret1 _ _ rfl rfl ⟨rfl, M⟩
     | false =>
      refine wl_call 14 [(.tmp 70)] _ [.agg (y.cells).toArray] (.int .i64 (1)) rfl rfl (fun _ _ => by kernel_rfl) (wk (rcheck_f hf4 hy _)) rfl ?_
      intro u10 hq
      replace Q1 := Q1.mo hq
      replace Q2 := Q2.mo hq
      replace Q3 := Q3.mo hq
      replace Q4 := Q4.mo hq
      replace M := M.trans hq
      clear hq
      refine wl_b .neq 32 (.tmp 71) (.const (.int .i64 (0))) (.int .i64 (1)) (.int .i64 (0)) (.bool true) (ne34 (r := false) rfl _ _ _) ?_
      refine wl_pick (.tmp 69) (.const (.bool true)) (.tmp 72) false (.bool true) (fun _ => rfl) rfl rfl rfl ?_
      refine w_nil (xn_then (w_condT rfl (w_seq (w_reg ?_))))
      refine wl_m (.const (.bool true)) (.bool true) ?_
      refine w_nil (xn_then (w_ret (xr_then ?_)))
      exact w_ret1 _ _ rfl rfl ⟨rfl, M⟩
    | false =>
     refine wl_call 14 [(.tmp 65)] _ [.agg (x.cells).toArray] (.int .i64 (1)) rfl rfl (fun _ _ => by kernel_rfl) (wk (rcheck_f hf3 hx _)) rfl ?_
     intro u9 hq
     replace Q1 := Q1.mo hq
     replace Q2 := Q2.mo hq
     replace Q3 := Q3.mo hq
     replace Q4 := Q4.mo hq
     replace M := M.trans hq
     clear hq
     refine wl_b .neq 32 (.tmp 66) (.const (.int .i64 (0))) (.int .i64 (1)) (.int .i64 (0)) (.bool true) (ne34 (r := false) rfl _ _ _) ?_
     refine wl_pick (.tmp 64) (.const (.bool true)) (.tmp 67) false (.bool true) (fun _ => rfl) rfl rfl rfl ?_
     refine wl_m (.tmp 68) (.bool true) ?_
     refine wl_skip rfl (wl_skip rfl (wl_skip rfl ?_))
     refine wl_pick (.tmp 69) (.const (.bool true)) (.tmp 72) true (.bool true) (fun _ => rfl) rfl rfl rfl ?_
     refine w_nil (xn_then (w_condT rfl (w_seq (w_reg ?_))))
     refine wl_m (.const (.bool true)) (.bool true) ?_
     refine w_nil (xn_then (w_ret (xr_then ?_)))
     exact w_ret1 _ _ rfl rfl ⟨rfl, M⟩
   | false =>
    have hf2p := of_decide_eq_false hf2
    refine wl_b .neq 3 (.tmp 61) (.const (.int .i64 (1))) (.int .i64 (y.k)) (.int .i64 (1)) (.bool true) (ne3 hf2 _ _ _) ?_
    refine wl_pick (.tmp 59) (.const (.bool true)) (.tmp 62) false (.bool true) (fun _ => rfl) rfl rfl rfl ?_
    refine wl_m (.tmp 63) (.bool true) ?_
    refine wl_skip rfl (wl_skip rfl (wl_skip rfl ?_))
    refine wl_pick (.tmp 64) (.const (.bool true)) (.tmp 67) true (.bool true) (fun _ => rfl) rfl rfl rfl ?_
    refine wl_m (.tmp 68) (.bool true) ?_
    refine wl_skip rfl (wl_skip rfl (wl_skip rfl ?_))
    refine wl_pick (.tmp 69) (.const (.bool true)) (.tmp 72) true (.bool true) (fun _ => rfl) rfl rfl rfl ?_
    refine w_nil (xn_then (w_condT rfl (w_seq (w_reg ?_))))
    refine wl_m (.const (.bool true)) (.bool true) ?_
    refine w_nil (xn_then (w_ret (xr_then ?_)))
    exact w_ret1 _ _ rfl rfl ⟨rfl, M⟩
  | false =>
   have hf1p := of_decide_eq_false hf1
   refine wl_b .neq 3 (.tmp 57) (.const (.int .i64 (1))) (.int .i64 (x.k)) (.int .i64 (1)) (.bool true) (ne3 hf1 _ _ _) ?_
   refine wl_m (.tmp 58) (.bool true) ?_
   refine wl_skip rfl (wl_skip rfl (wl_skip rfl ?_))
   refine wl_pick (.tmp 59) (.const (.bool true)) (.tmp 62) true (.bool true) (fun _ => rfl) rfl rfl rfl ?_
   refine wl_m (.tmp 63) (.bool true) ?_
   refine wl_skip rfl (wl_skip rfl (wl_skip rfl ?_))
   refine wl_pick (.tmp 64) (.const (.bool true)) (.tmp 67) true (.bool true) (fun _ => rfl) rfl rfl rfl ?_
   refine wl_m (.tmp 68) (.bool true) ?_
   refine wl_skip rfl (wl_skip rfl (wl_skip rfl ?_))
   refine wl_pick (.tmp 69) (.const (.bool true)) (.tmp 72) true (.bool true) (fun _ => rfl) rfl rfl rfl ?_
   refine w_nil (xn_then (w_condT rfl (w_seq (w_reg ?_))))
   refine wl_m (.const (.bool true)) (.bool true) ?_
   refine w_nil (xn_then (w_ret (xr_then ?_)))
   exact w_ret1 _ _ rfl rfl ⟨rfl, M⟩
 | false =>
  have hf0p := of_decide_eq_false hf0
  refine wl_b .neq 3 (.tmp 49) (.const (.int .i64 (4))) (.int .i64 ((opV 10 x y).k)) (.int .i64 (4)) (.bool true) (ne3 hf0 _ _ _) ?_
  refine wl_m (.tmp 50) (.bool true) ?_
  refine wl_l 28 (.tmp 5) (pt (kf6 9) 0) (.agg ((opV 10 x y).cells).toArray) (run_row Q3 28 0 10 ((opV 10 x y).cells) rfl Tryz.underlying28 rfl sz28) ?_
  refine wl_l 28 (.tmp 6) (pt (kf6 10) 0) (.agg ((notV (opV 11 (notV x) (notV y))).cells).toArray) (run_row Q4 28 0 10 ((notV (opV 11 (notV x) (notV y))).cells) rfl Tryz.underlying28 rfl sz28) ?_
  refine wl_b .neq 28 (.tmp 52) (.tmp 53) (.agg ((opV 10 x y).cells).toArray) (.agg ((notV (opV 11 (notV x) (notV y))).cells).toArray) (.bool false) (neW (turn_andS hf0p) _ _ _) ?_
  refine wl_pick (.tmp 51) (.tmp 54) (.const (.bool false)) true (.bool false) (fun _ => rfl) rfl rfl rfl ?_
  refine w_nil (xn_then (w_condF rfl (w_skip (xn_then (w_seq (w_seq (w_reg ?_)))))))
  refine wl_f 28 0 (.tmp 2) (pt k1 0) (pt k1 0) ?_
  refine wl_l 3 (.tmp 56) (pt k1 0) (.int .i64 (x.k)) (run_one Q1 3 0 rfl Tryz.underlying3 rfl) ?_
  cases hf1 : decide (x.k = 1) with
  | true =>
   have hf1p := of_decide_eq_true hf1
   refine wl_b .neq 3 (.tmp 57) (.const (.int .i64 (1))) (.int .i64 (x.k)) (.int .i64 (1)) (.bool false) (ne3 hf1 _ _ _) ?_
   refine wl_m (.tmp 58) (.bool false) ?_
   refine wl_f 28 0 (.tmp 3) (pt k2 0) (pt k2 0) ?_
   refine wl_l 3 (.tmp 60) (pt k2 0) (.int .i64 (y.k)) (run_one Q2 3 0 rfl Tryz.underlying3 rfl) ?_
   cases hf2 : decide (y.k = 1) with
   | true =>
    have hf2p := of_decide_eq_true hf2
    refine wl_b .neq 3 (.tmp 61) (.const (.int .i64 (1))) (.int .i64 (y.k)) (.int .i64 (1)) (.bool false) (ne3 hf2 _ _ _) ?_
    refine wl_pick (.tmp 59) (.const (.bool true)) (.tmp 62) false (.bool false) (fun _ => rfl) rfl rfl rfl ?_
    refine wl_m (.tmp 63) (.bool false) ?_
    refine wl_l 28 (.tmp 2) (pt k1 0) (.agg (x.cells).toArray) (run_row Q1 28 0 10 (x.cells) rfl Tryz.underlying28 rfl sz28) ?_
    cases hf3 : ckv x with
    | true =>
     refine wl_call 14 [(.tmp 65)] _ [.agg (x.cells).toArray] (.int .i64 (0)) rfl rfl (fun _ _ => by kernel_rfl) (wk (rcheck_t hf3 hx _)) rfl ?_
     intro u9 hq
     replace Q1 := Q1.mo hq
     replace Q2 := Q2.mo hq
     replace Q3 := Q3.mo hq
     replace Q4 := Q4.mo hq
     replace M := M.trans hq
     clear hq
     refine wl_b .neq 32 (.tmp 66) (.const (.int .i64 (0))) (.int .i64 (0)) (.int .i64 (0)) (.bool false) (ne34 (r := true) rfl _ _ _) ?_
     refine wl_pick (.tmp 64) (.const (.bool true)) (.tmp 67) false (.bool false) (fun _ => rfl) rfl rfl rfl ?_
     refine wl_m (.tmp 68) (.bool false) ?_
     refine wl_l 28 (.tmp 3) (pt k2 0) (.agg (y.cells).toArray) (run_row Q2 28 0 10 (y.cells) rfl Tryz.underlying28 rfl sz28) ?_
     cases hf4 : ckv y with
     | true =>
      refine wl_call 14 [(.tmp 70)] _ [.agg (y.cells).toArray] (.int .i64 (0)) rfl rfl (fun _ _ => by kernel_rfl) (wk (rcheck_t hf4 hy _)) rfl ?_
      intro u10 hq
      replace Q1 := Q1.mo hq
      replace Q2 := Q2.mo hq
      replace Q3 := Q3.mo hq
      replace Q4 := Q4.mo hq
      replace M := M.trans hq
      clear hq
      refine wl_b .neq 32 (.tmp 71) (.const (.int .i64 (0))) (.int .i64 (0)) (.int .i64 (0)) (.bool false) (ne34 (r := true) rfl _ _ _) ?_
      refine wl_pick (.tmp 69) (.const (.bool true)) (.tmp 72) false (.bool false) (fun _ => rfl) rfl rfl rfl ?_
      refine w_nil (xn_then (w_condF rfl (w_skip (xn_then (w_seq ?_)))))
      have kx : x.k = 1 := hf1p
      have ky : y.k = 1 := hf2p
      have cx := hf3
      have cy := hf4
      refine w_any 31 [.inl (.agg (x.cells).toArray), .inl (.agg (y.cells).toArray), .inl (.agg ((opV 1 x y).cells).toArray), .inl (.agg (y.cells).toArray), .inl (.agg (x.cells).toArray), .inl (.agg ((opV 1 x y).cells).toArray), .inl (.bool true), .inl (.bool true), .inl (.agg (x.cells).toArray), .inl (.agg (y.cells).toArray), .inl (.agg ((opV 3 x y).cells).toArray), .inl (.agg (y.cells).toArray), .inl (.agg (x.cells).toArray), .inl (.agg ((opV 3 x y).cells).toArray), .inl (.bool true), .inl (.bool true), .inl (.bool true), .inl (.agg (x.cells).toArray), .inl (.agg (y.cells).toArray), .inl (.agg ((opV 4 x y).cells).toArray), .inl (.agg (y.cells).toArray), .inl (.agg (x.cells).toArray), .inl (.agg ((opV 4 x y).cells).toArray), .inl (.bool true), .inl (.bool true), .inl (.bool true), .inl (.agg (x.cells).toArray), .inl (.agg (y.cells).toArray), .inl (.agg ((opV 6 x y).cells).toArray), .inl (.agg (y.cells).toArray), .inl (.agg (x.cells).toArray)] [] (by kernel_rfl) (by kernel_rfl) (by kernel_rfl) (by kernel_rfl) rfl (by kernel_rfl) (by kernel_rfl) late_nil ?_ ?_ ?_
      ·exact Ds.none rfl
      ·refine ea_cons ?_ (ea_cons ?_ (ea_cons ?_ (ea_cons ?_ (ea_cons ?_ (ea_cons ?_ (ea_cons ?_ (ea_cons ?_ (ea_cons ?_ (ea_cons ?_ (ea_cons ?_ (ea_cons ?_ (ea_cons ?_ (ea_cons ?_ (ea_cons ?_ (ea_cons ?_ (ea_cons ?_ (ea_cons ?_ (ea_cons ?_ (ea_cons ?_ (ea_cons ?_ (ea_cons ?_ (ea_cons ?_ (ea_cons ?_ (ea_cons ?_ (ea_cons ?_ (ea_cons ?_ (ea_cons ?_ (ea_cons ?_ (ea_cons ?_ (ea_cons ?_ (ea_nil)))))))))))))))))))))))))))))))
       ·exact og_eq _ rfl (fun f wf hq hd K hK => have Q1 := Q1.mo hq; go_run rfl (wo_load 28 (.tmp 2) (pt k1 0) (.agg (x.cells).toArray) rfl rfl (run_row Q1 28 0 10 (x.cells) rfl Tryz.underlying28 rfl sz28) (hK _ (Mw.refl _))))
       ·exact og_eq _ rfl (fun f wf hq hd K hK => have Q2 := Q2.mo hq; go_run rfl (wo_load 28 (.tmp 3) (pt k2 0) (.agg (y.cells).toArray) rfl rfl (run_row Q2 28 0 10 (y.cells) rfl Tryz.underlying28 rfl sz28) (hK _ (Mw.refl _))))
       ·exact og_eq _ rfl (fun f wf hq hd K hK => go_run rfl (wo_call 11 [(.const (.int .i64 (1))), (.tmp 74), (.tmp 75)] _ [.int .i64 (1), .agg (x.cells).toArray, .agg (y.cells).toArray] (.agg ((opV 1 x y).cells).toArray) rfl (li3 rfl (hd 0 rfl) (hd 1 rfl)) (fun _ _ => by kernel_rfl) (wk (op_n 1 x y _ hx hy)) hK))
       ·exact og_eq _ rfl (fun f wf hq hd K hK => have Q2 := Q2.mo hq; go_run rfl (wo_load 28 (.tmp 3) (pt k2 0) (.agg (y.cells).toArray) rfl rfl (run_row Q2 28 0 10 (y.cells) rfl Tryz.underlying28 rfl sz28) (hK _ (Mw.refl _))))
       ·exact og_eq _ rfl (fun f wf hq hd K hK => have Q1 := Q1.mo hq; go_run rfl (wo_load 28 (.tmp 2) (pt k1 0) (.agg (x.cells).toArray) rfl rfl (run_row Q1 28 0 10 (x.cells) rfl Tryz.underlying28 rfl sz28) (hK _ (Mw.refl _))))
       ·exact og_eq _ rfl (fun f wf hq hd K hK => go_run rfl (wo_call 11 [(.const (.int .i64 (1))), (.tmp 77), (.tmp 78)] _ [.int .i64 (1), .agg (y.cells).toArray, .agg (x.cells).toArray] (.agg ((opV 1 x y).cells).toArray) rfl (li3 rfl (hd 3 rfl) (hd 4 rfl)) (fun _ _ => by kernel_rfl) (wk (cV (turn_1 kx ky cx cy) (op_n 1 y x _ hy hx))) hK))
       ·exact og_eq _ rfl (fun f wf hq hd K hK => go_run rfl (wo_bin (fun x y => do eqGuard .eql 28 (.tmp 76) (.tmp 79) x y; binOp .eql 28 x y) (.tmp 76) (.tmp 79) (.agg ((opV 1 x y).cells).toArray) (.agg ((opV 1 x y).cells).toArray) (.bool true) (fun _ => rfl) (hd 2 rfl) (hd 5 rfl) (eqW (svv_self _) _ _ _) (hK _ (Mw.refl _))))
       ·exact og_eq _ rfl (fun f wf hq hd K hK => go_run rfl (wo_mv (.tmp 80) (.bool true) (fun _ => rfl) (hd 6 rfl) (hK _ (Mw.refl _))))
       ·exact og_eq _ rfl (fun f wf hq hd K hK => have Q1 := Q1.mo hq; go_run (wnt_g rfl rfl rfl (hd 7 rfl) rfl) (wo_load 28 (.tmp 2) (pt k1 0) (.agg (x.cells).toArray) rfl rfl (run_row Q1 28 0 10 (x.cells) rfl Tryz.underlying28 rfl sz28) (hK _ (Mw.refl _))))
       ·exact og_eq _ rfl (fun f wf hq hd K hK => have Q2 := Q2.mo hq; go_run (wnt_g rfl rfl rfl (hd 7 rfl) rfl) (wo_load 28 (.tmp 3) (pt k2 0) (.agg (y.cells).toArray) rfl rfl (run_row Q2 28 0 10 (y.cells) rfl Tryz.underlying28 rfl sz28) (hK _ (Mw.refl _))))
       ·exact og_eq _ rfl (fun f wf hq hd K hK => go_run (wnt_g rfl rfl rfl (hd 7 rfl) rfl) (wo_call 11 [(.const (.int .i64 (3))), (.tmp 82), (.tmp 83)] _ [.int .i64 (3), .agg (x.cells).toArray, .agg (y.cells).toArray] (.agg ((opV 3 x y).cells).toArray) rfl (li3 rfl (hd 8 rfl) (hd 9 rfl)) (fun _ _ => by kernel_rfl) (wk (op_n 3 x y _ hx hy)) hK))
       ·exact og_eq _ rfl (fun f wf hq hd K hK => have Q2 := Q2.mo hq; go_run (wnt_g rfl rfl rfl (hd 7 rfl) rfl) (wo_load 28 (.tmp 3) (pt k2 0) (.agg (y.cells).toArray) rfl rfl (run_row Q2 28 0 10 (y.cells) rfl Tryz.underlying28 rfl sz28) (hK _ (Mw.refl _))))
       ·exact og_eq _ rfl (fun f wf hq hd K hK => have Q1 := Q1.mo hq; go_run (wnt_g rfl rfl rfl (hd 7 rfl) rfl) (wo_load 28 (.tmp 2) (pt k1 0) (.agg (x.cells).toArray) rfl rfl (run_row Q1 28 0 10 (x.cells) rfl Tryz.underlying28 rfl sz28) (hK _ (Mw.refl _))))
       ·exact og_eq _ rfl (fun f wf hq hd K hK => go_run (wnt_g rfl rfl rfl (hd 7 rfl) rfl) (wo_call 11 [(.const (.int .i64 (3))), (.tmp 85), (.tmp 86)] _ [.int .i64 (3), .agg (y.cells).toArray, .agg (x.cells).toArray] (.agg ((opV 3 x y).cells).toArray) rfl (li3 rfl (hd 11 rfl) (hd 12 rfl)) (fun _ _ => by kernel_rfl) (wk (cV (turn_3 kx ky cx cy) (op_n 3 y x _ hy hx))) hK))
       ·exact og_eq _ rfl (fun f wf hq hd K hK => go_run (wnt_g rfl rfl rfl (hd 7 rfl) rfl) (wo_bin (fun x y => do eqGuard .eql 28 (.tmp 84) (.tmp 87) x y; binOp .eql 28 x y) (.tmp 84) (.tmp 87) (.agg ((opV 3 x y).cells).toArray) (.agg ((opV 3 x y).cells).toArray) (.bool true) (fun _ => rfl) (hd 10 rfl) (hd 13 rfl) (eqW (svv_self _) _ _ _) (hK _ (Mw.refl _))))
       ·exact og_eq _ rfl (fun f wf hq hd K hK => go_run rfl (wo_pick (.tmp 81) (.tmp 88) (.const (.bool false)) true (.bool true) (fun _ => rfl) (hd 7 rfl) (hd 14 rfl) (hK _ (Mw.refl _))))
       ·exact og_eq _ rfl (fun f wf hq hd K hK => go_run rfl (wo_mv (.tmp 89) (.bool true) (fun _ => rfl) (hd 15 rfl) (hK _ (Mw.refl _))))
       ·exact og_eq _ rfl (fun f wf hq hd K hK => have Q1 := Q1.mo hq; go_run (wnt_g rfl rfl rfl (hd 16 rfl) rfl) (wo_load 28 (.tmp 2) (pt k1 0) (.agg (x.cells).toArray) rfl rfl (run_row Q1 28 0 10 (x.cells) rfl Tryz.underlying28 rfl sz28) (hK _ (Mw.refl _))))
       ·exact og_eq _ rfl (fun f wf hq hd K hK => have Q2 := Q2.mo hq; go_run (wnt_g rfl rfl rfl (hd 16 rfl) rfl) (wo_load 28 (.tmp 3) (pt k2 0) (.agg (y.cells).toArray) rfl rfl (run_row Q2 28 0 10 (y.cells) rfl Tryz.underlying28 rfl sz28) (hK _ (Mw.refl _))))
       ·exact og_eq _ rfl (fun f wf hq hd K hK => go_run (wnt_g rfl rfl rfl (hd 16 rfl) rfl) (wo_call 11 [(.const (.int .i64 (4))), (.tmp 91), (.tmp 92)] _ [.int .i64 (4), .agg (x.cells).toArray, .agg (y.cells).toArray] (.agg ((opV 4 x y).cells).toArray) rfl (li3 rfl (hd 17 rfl) (hd 18 rfl)) (fun _ _ => by kernel_rfl) (wk (op_n 4 x y _ hx hy)) hK))
       ·exact og_eq _ rfl (fun f wf hq hd K hK => have Q2 := Q2.mo hq; go_run (wnt_g rfl rfl rfl (hd 16 rfl) rfl) (wo_load 28 (.tmp 3) (pt k2 0) (.agg (y.cells).toArray) rfl rfl (run_row Q2 28 0 10 (y.cells) rfl Tryz.underlying28 rfl sz28) (hK _ (Mw.refl _))))
       ·exact og_eq _ rfl (fun f wf hq hd K hK => have Q1 := Q1.mo hq; go_run (wnt_g rfl rfl rfl (hd 16 rfl) rfl) (wo_load 28 (.tmp 2) (pt k1 0) (.agg (x.cells).toArray) rfl rfl (run_row Q1 28 0 10 (x.cells) rfl Tryz.underlying28 rfl sz28) (hK _ (Mw.refl _))))
       ·exact og_eq _ rfl (fun f wf hq hd K hK => go_run (wnt_g rfl rfl rfl (hd 16 rfl) rfl) (wo_call 11 [(.const (.int .i64 (4))), (.tmp 94), (.tmp 95)] _ [.int .i64 (4), .agg (y.cells).toArray, .agg (x.cells).toArray] (.agg ((opV 4 x y).cells).toArray) rfl (li3 rfl (hd 20 rfl) (hd 21 rfl)) (fun _ _ => by kernel_rfl) (wk (cV (turn_4 kx ky cx cy) (op_n 4 y x _ hy hx))) hK))
       ·exact og_eq _ rfl (fun f wf hq hd K hK => go_run (wnt_g rfl rfl rfl (hd 16 rfl) rfl) (wo_bin (fun x y => do eqGuard .eql 28 (.tmp 93) (.tmp 96) x y; binOp .eql 28 x y) (.tmp 93) (.tmp 96) (.agg ((opV 4 x y).cells).toArray) (.agg ((opV 4 x y).cells).toArray) (.bool true) (fun _ => rfl) (hd 19 rfl) (hd 22 rfl) (eqW (svv_self _) _ _ _) (hK _ (Mw.refl _))))
       ·exact og_eq _ rfl (fun f wf hq hd K hK => go_run rfl (wo_pick (.tmp 90) (.tmp 97) (.const (.bool false)) true (.bool true) (fun _ => rfl) (hd 16 rfl) (hd 23 rfl) (hK _ (Mw.refl _))))
       ·exact og_eq _ rfl (fun f wf hq hd K hK => go_run rfl (wo_mv (.tmp 98) (.bool true) (fun _ => rfl) (hd 24 rfl) (hK _ (Mw.refl _))))
       ·exact og_eq _ rfl (fun f wf hq hd K hK => have Q1 := Q1.mo hq; go_run (wnt_g rfl rfl rfl (hd 25 rfl) rfl) (wo_load 28 (.tmp 2) (pt k1 0) (.agg (x.cells).toArray) rfl rfl (run_row Q1 28 0 10 (x.cells) rfl Tryz.underlying28 rfl sz28) (hK _ (Mw.refl _))))
       ·exact og_eq _ rfl (fun f wf hq hd K hK => have Q2 := Q2.mo hq; go_run (wnt_g rfl rfl rfl (hd 25 rfl) rfl) (wo_load 28 (.tmp 3) (pt k2 0) (.agg (y.cells).toArray) rfl rfl (run_row Q2 28 0 10 (y.cells) rfl Tryz.underlying28 rfl sz28) (hK _ (Mw.refl _))))
       ·exact og_eq _ rfl (fun f wf hq hd K hK => go_run (wnt_g rfl rfl rfl (hd 25 rfl) rfl) (wo_call 11 [(.const (.int .i64 (6))), (.tmp 100), (.tmp 101)] _ [.int .i64 (6), .agg (x.cells).toArray, .agg (y.cells).toArray] (.agg ((opV 6 x y).cells).toArray) rfl (li3 rfl (hd 26 rfl) (hd 27 rfl)) (fun _ _ => by kernel_rfl) (wk (op_n 6 x y _ hx hy)) hK))
       ·exact og_eq _ rfl (fun f wf hq hd K hK => have Q2 := Q2.mo hq; go_run (wnt_g rfl rfl rfl (hd 25 rfl) rfl) (wo_load 28 (.tmp 3) (pt k2 0) (.agg (y.cells).toArray) rfl rfl (run_row Q2 28 0 10 (y.cells) rfl Tryz.underlying28 rfl sz28) (hK _ (Mw.refl _))))
       ·exact og_eq _ rfl (fun f wf hq hd K hK => have Q1 := Q1.mo hq; go_run (wnt_g rfl rfl rfl (hd 25 rfl) rfl) (wo_load 28 (.tmp 2) (pt k1 0) (.agg (x.cells).toArray) rfl rfl (run_row Q1 28 0 10 (x.cells) rfl Tryz.underlying28 rfl sz28) (hK _ (Mw.refl _))))
      intro kf11 u11 hq hR hne
      replace Q1 := Q1.mo hq
      replace Q2 := Q2.mo hq
      replace Q3 := Q3.mo hq
      replace Q4 := Q4.mo hq
      replace M := M.trans hq
      clear hq hR hne
      refine wl_call 11 [(.const (.int .i64 (8))), (.tmp 103), (.tmp 104)] _ [.int .i64 (8), .agg (y.cells).toArray, .agg (x.cells).toArray] (.agg ((opV 6 x y).cells).toArray) rfl rfl (fun _ _ => by kernel_rfl) (wk (cV (turn_6 kx ky cx cy) (op_n 8 y x _ hy hx))) rfl ?_
      intro u12 hq
      replace Q1 := Q1.mo hq
      replace Q2 := Q2.mo hq
      replace Q3 := Q3.mo hq
      replace Q4 := Q4.mo hq
      replace M := M.trans hq
      clear hq
      refine wl_b .eql 28 (.tmp 102) (.tmp 105) (.agg ((opV 6 x y).cells).toArray) (.agg ((opV 6 x y).cells).toArray) (.bool true) (eqW (svv_self _) _ _ _) ?_
      refine wl_pick (.tmp 99) (.tmp 106) (.const (.bool false)) true (.bool true) (fun _ => rfl) rfl rfl rfl ?_
      refine wl_m (.tmp 107) (.bool true) ?_
      refine w_nil (xn_then (w_ret ?_))
      exact w_ret1 _ _ rfl rfl ⟨rfl, M⟩
     | false =>
      refine wl_call 14 [(.tmp 70)] _ [.agg (y.cells).toArray] (.int .i64 (1)) rfl rfl (fun _ _ => by kernel_rfl) (wk (rcheck_f hf4 hy _)) rfl ?_
      intro u10 hq
      replace Q1 := Q1.mo hq
      replace Q2 := Q2.mo hq
      replace Q3 := Q3.mo hq
      replace Q4 := Q4.mo hq
      replace M := M.trans hq
      clear hq
      refine wl_b .neq 32 (.tmp 71) (.const (.int .i64 (0))) (.int .i64 (1)) (.int .i64 (0)) (.bool true) (ne34 (r := false) rfl _ _ _) ?_
      refine wl_pick (.tmp 69) (.const (.bool true)) (.tmp 72) false (.bool true) (fun _ => rfl) rfl rfl rfl ?_
      refine w_nil (xn_then (w_condT rfl (w_seq (w_reg ?_))))
      refine wl_m (.const (.bool true)) (.bool true) ?_
      refine w_nil (xn_then (w_ret (xr_then ?_)))
      exact w_ret1 _ _ rfl rfl ⟨rfl, M⟩
    | false =>
     refine wl_call 14 [(.tmp 65)] _ [.agg (x.cells).toArray] (.int .i64 (1)) rfl rfl (fun _ _ => by kernel_rfl) (wk (rcheck_f hf3 hx _)) rfl ?_
     intro u9 hq
     replace Q1 := Q1.mo hq
     replace Q2 := Q2.mo hq
     replace Q3 := Q3.mo hq
     replace Q4 := Q4.mo hq
     replace M := M.trans hq
     clear hq
     refine wl_b .neq 32 (.tmp 66) (.const (.int .i64 (0))) (.int .i64 (1)) (.int .i64 (0)) (.bool true) (ne34 (r := false) rfl _ _ _) ?_
     refine wl_pick (.tmp 64) (.const (.bool true)) (.tmp 67) false (.bool true) (fun _ => rfl) rfl rfl rfl ?_
     refine wl_m (.tmp 68) (.bool true) ?_
     refine wl_skip rfl (wl_skip rfl (wl_skip rfl ?_))
     refine wl_pick (.tmp 69) (.const (.bool true)) (.tmp 72) true (.bool true) (fun _ => rfl) rfl rfl rfl ?_
     refine w_nil (xn_then (w_condT rfl (w_seq (w_reg ?_))))
     refine wl_m (.const (.bool true)) (.bool true) ?_
     refine w_nil (xn_then (w_ret (xr_then ?_)))
     exact w_ret1 _ _ rfl rfl ⟨rfl, M⟩
   | false =>
    have hf2p := of_decide_eq_false hf2
    refine wl_b .neq 3 (.tmp 61) (.const (.int .i64 (1))) (.int .i64 (y.k)) (.int .i64 (1)) (.bool true) (ne3 hf2 _ _ _) ?_
    refine wl_pick (.tmp 59) (.const (.bool true)) (.tmp 62) false (.bool true) (fun _ => rfl) rfl rfl rfl ?_
    refine wl_m (.tmp 63) (.bool true) ?_
    refine wl_skip rfl (wl_skip rfl (wl_skip rfl ?_))
    refine wl_pick (.tmp 64) (.const (.bool true)) (.tmp 67) true (.bool true) (fun _ => rfl) rfl rfl rfl ?_
    refine wl_m (.tmp 68) (.bool true) ?_
    refine wl_skip rfl (wl_skip rfl (wl_skip rfl ?_))
    refine wl_pick (.tmp 69) (.const (.bool true)) (.tmp 72) true (.bool true) (fun _ => rfl) rfl rfl rfl ?_
    refine w_nil (xn_then (w_condT rfl (w_seq (w_reg ?_))))
    refine wl_m (.const (.bool true)) (.bool true) ?_
    refine w_nil (xn_then (w_ret (xr_then ?_)))
    exact w_ret1 _ _ rfl rfl ⟨rfl, M⟩
  | false =>
   have hf1p := of_decide_eq_false hf1
   refine wl_b .neq 3 (.tmp 57) (.const (.int .i64 (1))) (.int .i64 (x.k)) (.int .i64 (1)) (.bool true) (ne3 hf1 _ _ _) ?_
   refine wl_m (.tmp 58) (.bool true) ?_
   refine wl_skip rfl (wl_skip rfl (wl_skip rfl ?_))
   refine wl_pick (.tmp 59) (.const (.bool true)) (.tmp 62) true (.bool true) (fun _ => rfl) rfl rfl rfl ?_
   refine wl_m (.tmp 63) (.bool true) ?_
   refine wl_skip rfl (wl_skip rfl (wl_skip rfl ?_))
   refine wl_pick (.tmp 64) (.const (.bool true)) (.tmp 67) true (.bool true) (fun _ => rfl) rfl rfl rfl ?_
   refine wl_m (.tmp 68) (.bool true) ?_
   refine wl_skip rfl (wl_skip rfl (wl_skip rfl ?_))
   refine wl_pick (.tmp 69) (.const (.bool true)) (.tmp 72) true (.bool true) (fun _ => rfl) rfl rfl rfl ?_
   refine w_nil (xn_then (w_condT rfl (w_seq (w_reg ?_))))
   refine wl_m (.const (.bool true)) (.bool true) ?_
   refine w_nil (xn_then (w_ret (xr_then ?_)))
   exact w_ret1 _ _ rfl rfl ⟨rfl, M⟩
end Go.Proofs.YtogomodbcjpfiaaGreatDoor.V
