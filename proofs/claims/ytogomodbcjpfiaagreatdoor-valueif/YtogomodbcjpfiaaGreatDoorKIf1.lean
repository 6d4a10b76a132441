/-
  A part of the proof.
-/
import Derived.Test.YtogomodbcjpfiaaGreatDoorKa8
import Derived.Test.YtogomodbcjpfiaaGreatDoorKa5
import Derived.Test.YtogomodbcjpfiaaGreatDoorKa4
import Derived.Test.YtogomodbcjpfiaaGreatDoorKa1
import Derived.Test.YtogomodbcjpfiaaGreatDoorProg
import Derived.WalkKit
import Derived.WalkSpells
import Derived.Handy
import Derived.BigQuiet
import Derived.Deep.RegionHeld3
import Derived.Shelf.Small.Bits
import Derived.Shelf.Strconv.Itoa0
import Derived.Shelf.Bits.Mul64
import Derived.Deep.CutBlock
import Derived.Deep.CutRange
import Derived.Test.YtogomodbcjpfiaaGreatDoorKa7
import Derived.Test.YtogomodbcjpfiaaGreatDoorKa6
import Derived.ChangeKeysEq
import Derived.ScopeJumps
import Derived.WalkMore
import Derived.Laws.StructEq
import Derived.Test.YtogomodbcjpfiaaGreatDoorKa17
import Derived.Test.YtogomodbcjpfiaaGreatDoorKa16
import Derived.Test.YtogomodbcjpfiaaGreatDoorKa15
import Derived.Test.YtogomodbcjpfiaaGreatDoorKa14
import Derived.Shelf.Strings.Builder1
import Derived.Shelf.Strings.Builder2
import Derived.Shelf.Small.Wraps
import Derived.Shelf.Strings.BuilderF
import Derived.Shelf.Strings.BuilderK
import Derived.Shelf.Strings.Prefix
import Derived.Shelf.Strings.Repeat
import Derived.Test.YtogomodbcjpfiaaGreatDoorKa11
import Derived.Test.YtogomodbcjpfiaaGreatDoorKa9
import Derived.Test.YtogomodbcjpfiaaGreatDoorKa3
import Derived.Test.YtogomodbcjpfiaaGreatDoorKa2
import Derived.RegionTactic
import Derived.Deep.MidRow
import Derived.BigCall
import Derived.Test.YtogomodbcjpfiaaGreatDoorKa10
import Derived.Test.YtogomodbcjpfiaaGreatDoorKa13
import Derived.Test.YtogomodbcjpfiaaGreatDoorKa12
import Derived.Lib.CutLaws
import Derived.Lib.IndexBytes
import Derived.Maps.OwnSet
import Derived.WalkArith
import Derived.StringKeys
import Derived.Test.YtogomodbcjpfiaaGreatDoorKa18
import Derived.Test.YtogomodbcjpfiaaGreatDoorKa19
import Derived.Test.YtogomodbcjpfiaaGreatDoorKa21
import Derived.Test.YtogomodbcjpfiaaGreatDoorKa20
import Derived.Maps.AppendAt
import Derived.Deep.AppendLies
import Derived.Laws.BytesString
namespace Go.Proofs.YtogomodbcjpfiaaGreatDoor
open Go.RowKit
set_option maxHeartbeats 2000000 in
theorem rcheck_n (b : Bool) (n s : Int) (w : World) (hn0 : 0 ≤ n) (hn : n < MM) : Calls Tryz.prog 42 #[dc b n s] w fun e w' => e = .returned (.int .i64 (ck b n s)) ∧ Mo w w' := by
 have q4 := eq4
 have z4 := zb hn0 hn
 by_cases h1 : s < 0
 ·have d1 : decide (s < 0) = true := decide_eq_true h1
  have e : Hid (ck b n s = 20) := by show _ = _; unfold ck sc; rw [decide_eq_false (p := 0 ≤ s) (by omega)]; rfl
  clear h1
  go_enter Tryz.func42, Tryz.ntmps42
  go_wp2
  go_ret
  exact ⟨by rw [e.out]; rfl, (Mo.refl _).alloc _ _⟩
 ·by_cases h2 : s > 18
  ·have d1 : decide (s < 0) = false := decide_eq_false h1
   have d2 : decide (s > 18) = true := decide_eq_true h2
   have e : Hid (ck b n s = 20) := by show _ = _; unfold ck sc; rw [decide_eq_false (p := s ≤ 18) (by omega)]; simp
   clear h1 h2
   go_enter Tryz.func42, Tryz.ntmps42
   go_wp2
   go_ret
   exact ⟨by rw [e.out]; rfl, (Mo.refl _).alloc _ _⟩
  ·have d1 : decide (s < 0) = false := decide_eq_false h1
   have d2 : decide (s > 18) = false := decide_eq_false h2
   have e : Hid (sc s = true) := by show _ = _; unfold sc; rw [decide_eq_true (p := 0 ≤ s) (by omega), decide_eq_true (p := s ≤ 18) (by omega)]; rfl
   clear h1 h2
   cases hb : b <;> cases hz : decide (n = 0)
   all_goals
    rw [hz] at z4
    have HZ : Hid _ := hz
    clear hz
    go_enter Tryz.func42, Tryz.ntmps42
    go_wp2
    go_ret
    exact ⟨by rw [ck, e.out, HZ.out]; rfl, (Mo.refl _).alloc _ _⟩
end Go.Proofs.YtogomodbcjpfiaaGreatDoor

namespace Go.Proofs.YtogomodbcjpfiaaGreatDoor
open Go.RowKit
theorem svv_bl {x : VL} (h : ¬ x.k = 0) : svv x vBl = false := by simp [svv, svl, vBl, h]
def askK (k : Int) (v : VL) : Int := if ask v = 0 then (if v.k = k then 0 else 2) else ask v
theorem ask_isE {v : VL} (h : v.ok) (a : ask v ≠ 0) : isE (ask v) = true := by
 unfold ask at a ⊢
 split
 next c =>
  rw [if_pos c] at a
  split
  next k => exact (ckv_err h c k).2
  next k =>
   rw [if_neg k] at a
   split
   next => rfl
   next q => rw [if_neg q] at a; exact absurd rfl a
 next => rfl
def mayV (x : VL) : VL := if ckv x then x else vBad 2
def ifV (c x y : VL) : VL := if askK 2 c = 0 then mayV (if c.f then x else y) else vBad (askK 2 c)
end Go.Proofs.YtogomodbcjpfiaaGreatDoor
namespace Go.Proofs.YtogomodbcjpfiaaGreatDoor
open Go.RowKit
theorem fault1_n (x : VL) (kk : Nat) (w : World) (hA : At w kk x.cells) (hx : x.ok) : Calls Tryz.prog 31 #[.slice (some ⟨kk, 0, none⟩) 1 1] w fun e9 w' => e9 = .returned (.int .i64 (ask x)) ∧ Mo w w' := by
 refine w_enter 26 Tryz.func31 Tryz.ntmps31 rfl rfl ?_
 have M : Mo w w := Mo.refl _
 refine w_seq (w_reg ?_)
 refine wl_m (.const (.int .i64 (0))) (.int .i64 (0)) ?_
 refine w_nil (xn_then (w_seq (w_seq (w_reg ?_))))
 refine wl_m (.tmp 0) (.slice (some ⟨kk, 0, none⟩) 1 1) ?_
 refine wl_val (.int .i64 (1)) (len45 _ _ _ 1 _ (by exact rfl) _ _ _ _ _ _) rfl ?_
 refine wl_m (.const (.int .i64 (0))) (.int .i64 (0)) ?_
 refine w_nil (xn_then (w_block ?_))
 refine w_rounds 3 ?_
 refine w_seq (w_reg ?_)
 refine wl_b .lss 3 (.tmp 7) (.tmp 6) (.int .i64 (0)) (.int .i64 (1)) (.bool true) (lt3 (r := true) rfl _ _ _) ?_
 refine w_nil (xn_then (w_seq (w_condT rfl (w_skip (xn_then (w_seq (w_block (w_seq (w_reg ?_)))))))))
 refine wl_bin (fun x y => Instr.indexAt 45 x y) (.tmp 5) (.tmp 7) (.slice (some ⟨kk, 0, none⟩) 1 1) (.int .i64 (0)) (pt kk 0) (fun _ => rfl) rfl rfl (ix45 (i := 0) rfl (by decide) _) rfl ?_
 refine wl_l 28 (.tmp 9) (pt kk 0) (.agg (x.cells).toArray) (run_row hA 28 0 10 (x.cells) rfl Tryz.underlying28 rfl sz28) ?_
 refine wl_alloc 28 #[.int .i64 0, .bool false, .int .u64 0, .int .u64 0, .int .u64 0, .int .u64 0, .int .i64 0, .bool false, .string ⟨#[]⟩, .int .i64 0] rfl (fun _ => by kernel_rfl) rfl ?_
 intro k1 u1 hk hz hq Q1
 have ne_kk_k1 : kk ≠ k1 := by have := hA.lt; omega
 have N_k1 : w.heap.size ≤ k1 := by have := M.size; omega
 replace hA := hA.mo hq
 replace M := M.trans hq
 clear hk hz hq
 refine wl_st 28 (.tmp 4) (.tmp 10) k1 0 ((x.cells).toArray) _ (x.cells) Q1 rfl rfl rfl rfl rfl sz28 rfl rfl rfl ?_
 intro u2 hS Qn
 replace Q1 := Qn
 clear Qn
 replace hA := hS.other _ _ ne_kk_k1 hA
 replace M := hS.mo _ N_k1 M
 clear hS
 refine w_nil (xn_then (w_block (w_seq (w_reg ?_))))
 refine wl_l 28 (.tmp 4) (pt k1 0) (.agg (x.cells).toArray) (run_row Q1 28 0 10 (x.cells) rfl Tryz.underlying28 rfl sz28) ?_
 cases hf0 : ckv x with
 | true =>
  refine wl_call 13 [(.tmp 12)] _ [.agg (x.cells).toArray] (.int .i64 (0)) rfl rfl (fun _ _ => by kernel_rfl) (check_t hf0 hx _) rfl ?_
  intro u3 hq
  replace hA := hA.mo hq
  replace Q1 := Q1.mo hq
  replace M := M.trans hq
  clear hq
  refine wl_b .neq 32 (.tmp 13) (.const (.int .i64 (0))) (.int .i64 (0)) (.int .i64 (0)) (.bool false) (ne34 (r := true) rfl _ _ _) ?_
  refine wl_m (.tmp 14) (.bool false) ?_
  refine w_nil (xn_then (w_condF rfl (w_seq (w_reg ?_))))
  refine wl_f 28 0 (.tmp 4) (pt k1 0) (pt k1 0) ?_
  refine wl_l 3 (.tmp 16) (pt k1 0) (.int .i64 (x.k)) (run_one Q1 3 0 rfl Tryz.underlying3 rfl) ?_
  cases hf1 : decide (x.k = 4) with
  | true =>
   have hf1p := of_decide_eq_true hf1
   refine wl_b .eql 3 (.tmp 17) (.const (.int .i64 (4))) (.int .i64 (x.k)) (.int .i64 (4)) (.bool true) (eq3 hf1 _ _ _) ?_
   refine wl_m (.tmp 18) (.bool true) ?_
   refine w_nil (xn_then (w_condT rfl (w_seq (w_reg ?_))))
   refine wl_f 28 4 (.tmp 4) (pt k1 0) (pt k1 9) ?_
   refine wl_l 3 (.tmp 19) (pt k1 9) (.int .i64 (x.e)) (run_one Q1 3 9 rfl Tryz.underlying3 rfl) ?_
   refine wl_m (.tmp 20) (.int .i64 (x.e)) ?_
   refine w_nil (xn_then (w_ret (xr_blk (xr_blk (xr_then (xr_then (xr_blk (xr_then ?_))))))))
   exact w_ret1 _ (.int .i64 (x.e)) rfl rfl ⟨by first | (simp [ask, ask, hf0, hf1p]; done) | (rw [ask2_e hx (by assumption) (by assumption)]), M⟩
  | false =>
   have hf1p := of_decide_eq_false hf1
   refine wl_b .eql 3 (.tmp 17) (.const (.int .i64 (4))) (.int .i64 (x.k)) (.int .i64 (4)) (.bool false) (eq3 hf1 _ _ _) ?_
   refine wl_m (.tmp 18) (.bool false) ?_
   refine w_nil (xn_then (w_condF rfl (w_seq (w_reg ?_))))
   refine wl_f 28 0 (.tmp 4) (pt k1 0) (pt k1 0) ?_
   refine wl_l 3 (.tmp 22) (pt k1 0) (.int .i64 (x.k)) (run_one Q1 3 0 rfl Tryz.underlying3 rfl) ?_
   cases hf2 : decide (x.k = 0) with
   | true =>
    have hf2p := of_decide_eq_true hf2
    refine wl_b .eql 3 (.tmp 23) (.const (.int .i64 (0))) (.int .i64 (x.k)) (.int .i64 (0)) (.bool true) (eq3 hf2 _ _ _) ?_
    refine wl_m (.tmp 24) (.bool true) ?_
    refine w_nil (xn_then (w_condT rfl (w_seq (w_reg ?_))))
    refine wl_m (.const (.int .i64 (3))) (.int .i64 (3)) ?_
    refine w_nil (xn_then (w_ret (xr_blk (xr_blk (xr_then (xr_then (xr_blk (xr_then ?_))))))))
    exact w_ret1 _ (.int .i64 (3)) rfl rfl ⟨by first | (simp [ask, ask, hf0, hf2p]; done) | (rw [ask2_e hx (by assumption) (by assumption)]), M⟩
   | false =>
    have hf2p := of_decide_eq_false hf2
    refine wl_b .eql 3 (.tmp 23) (.const (.int .i64 (0))) (.int .i64 (x.k)) (.int .i64 (0)) (.bool false) (eq3 hf2 _ _ _) ?_
    refine wl_m (.tmp 24) (.bool false) ?_
    refine w_nil (xn_then (w_condF rfl (w_skip (xn_blk (xn_blk (xn_then (w_reg ?_)))))))
    refine wl_b .add 3 (.tmp 7) (.const (.int .i64 (1))) (.int .i64 (0)) (.int .i64 (1)) (.int .i64 (1)) (by kernel_rfl) ?_
    refine wl_m (.tmp 25) (.int .i64 (1)) ?_
    refine w_nil ?_
    refine xn_rounds ?_
    refine w_seq (w_reg ?_)
    refine wl_b .lss 3 (.tmp 7) (.tmp 6) (.int .i64 (1)) (.int .i64 (1)) (.bool false) (lt3 (r := false) rfl _ _ _) ?_
    refine w_nil (xn_then (w_seq (w_condF rfl (w_exit (xx_then (xx_then (xx_blk (xn_then (w_seq (w_reg ?_))))))))))
    refine wl_m (.const (.int .i64 (0))) (.int .i64 (0)) ?_
    refine w_nil (xn_then (w_ret ?_))
    exact w_ret1 _ (.int .i64 (0)) rfl rfl ⟨by first | (simp [ask, ask, hf0, hf1p, hf2p]; done) | (rw [ask2_e hx (by assumption) (by assumption)]), M⟩
 | false =>
  refine wl_call 13 [(.tmp 12)] _ [.agg (x.cells).toArray] (.int .i64 (1)) rfl rfl (fun _ _ => by kernel_rfl) (check_f hf0 hx _) rfl ?_
  intro u3 hq
  replace hA := hA.mo hq
  replace Q1 := Q1.mo hq
  replace M := M.trans hq
  clear hq
  refine wl_b .neq 32 (.tmp 13) (.const (.int .i64 (0))) (.int .i64 (1)) (.int .i64 (0)) (.bool true) (ne34 (r := false) rfl _ _ _) ?_
  refine wl_m (.tmp 14) (.bool true) ?_
  refine w_nil (xn_then (w_condT rfl (w_seq (w_reg ?_))))
  refine wl_m (.const (.int .i64 (2))) (.int .i64 (2)) ?_
  refine w_nil (xn_then (w_ret (xr_blk (xr_blk (xr_then (xr_then (xr_blk (xr_then ?_))))))))
  exact w_ret1 _ (.int .i64 (2)) rfl rfl ⟨by first | (simp [ask, ask, hf0]; done) | (rw [ask2_e hx (by assumption) (by assumption)]), M⟩
theorem faultFor_n (k : Int) (x : VL) (w : World) (hx : x.ok) : Calls Tryz.prog 44 #[.int .i64 k, x.v] w fun e9 w' => e9 = .returned (.int .i64 (askK k x)) ∧ Mo w w' := by
 refine w_enter 16 Tryz.func44 Tryz.ntmps44 rfl rfl ?_
 have M : Mo w w := Mo.refl _
 refine w_seq (w_reg ?_)
 refine wl_box 28 (.tmp 1) _ (((x.cells).toArray)) rfl rfl (fun _ => by kernel_rfl) rfl ?_
 intro k1 u1 hk hz hq Q1
 have N_k1 : w.heap.size ≤ k1 := by have := M.size; omega
 replace M := M.trans hq
 clear hk hz hq
 refine wl_m (.const (.int .i64 (0))) (.int .i64 (0)) ?_
 refine w_nil (xn_then (w_seq (w_seq (w_reg ?_))))
 refine wl_l 28 (.tmp 3) (pt k1 0) (.agg (x.cells).toArray) (run_row Q1 28 0 10 (x.cells) rfl Tryz.underlying28 rfl sz28) ?_
 refine wl_bs 45 1 [(0, (.tmp 6))] [(0, .agg (x.cells).toArray)] ((x.cells).toArray) 28 rfl rfl (fun _ => by kernel_rfl) rfl ?_
 intro k2 u2 hk hz hq Q2
 have ne_k1_k2 : k1 ≠ k2 := by have := Q1.lt; omega
 have N_k2 : w.heap.size ≤ k2 := by have := M.size; omega
 replace Q1 := Q1.mo hq
 replace M := M.trans hq
 clear hk hz hq
 refine wl_call 31 [(.tmp 7)] _ [.slice (some ⟨k2, 0, none⟩) 1 1] (.int .i64 (ask x)) rfl rfl (fun _ _ => by kernel_rfl) (fault1_n x k2 _ Q2 hx) rfl ?_
 intro u3 hq
 replace Q1 := Q1.mo hq
 replace Q2 := Q2.mo hq
 replace M := M.trans hq
 clear hq
 refine wl_m (.tmp 8) (.int .i64 (ask x)) ?_
 refine w_nil (xn_then (w_seq (w_reg ?_)))
 refine wl_m (.tmp 5) (.int .i64 (ask x)) ?_
 cases hf0 : decide (ask x = 0) with
 | true =>
  have hf0p := of_decide_eq_true hf0
  refine wl_b .neq 3 (.tmp 9) (.const (.int .i64 (0))) (.int .i64 (ask x)) (.int .i64 (0)) (.bool false) (ne3 hf0 _ _ _) ?_
  refine w_nil (xn_then (w_condF rfl (w_skip (xn_then (w_seq (w_seq (w_reg ?_)))))))
  refine wl_f 28 0 (.tmp 3) (pt k1 0) (pt k1 0) ?_
  refine wl_l 3 (.tmp 12) (pt k1 0) (.int .i64 (x.k)) (run_one Q1 3 0 rfl Tryz.underlying3 rfl) ?_
  refine wl_m (.tmp 0) (.int .i64 (k)) ?_
  cases hf1 : decide (x.k = k) with
  | true =>
   have hf1p := of_decide_eq_true hf1
   refine wl_b .neq 3 (.tmp 13) (.tmp 14) (.int .i64 (x.k)) (.int .i64 (k)) (.bool false) (ne3 hf1 _ _ _) ?_
   refine w_nil (xn_then (w_condF rfl (w_skip (xn_then (w_seq (w_reg ?_))))))
   refine wl_m (.const (.int .i64 (0))) (.int .i64 (0)) ?_
   refine w_nil (xn_then (w_ret ?_))
   exact w_ret1 _ (.int .i64 (0)) rfl rfl ⟨by simp [askK, hf0p, hf1p], M⟩
  | false =>
   have hf1p := of_decide_eq_false hf1
   refine wl_b .neq 3 (.tmp 13) (.tmp 14) (.int .i64 (x.k)) (.int .i64 (k)) (.bool true) (ne3 hf1 _ _ _) ?_
   refine w_nil (xn_then (w_condT rfl (w_seq (w_reg ?_))))
   refine wl_m (.const (.int .i64 (2))) (.int .i64 (2)) ?_
   refine w_nil (xn_then (w_ret (xr_then ?_)))
   exact w_ret1 _ (.int .i64 (2)) rfl rfl ⟨by simp [askK, hf0p, hf1p], M⟩
 | false =>
  have hf0p := of_decide_eq_false hf0
  refine wl_b .neq 3 (.tmp 9) (.const (.int .i64 (0))) (.int .i64 (ask x)) (.int .i64 (0)) (.bool true) (ne3 hf0 _ _ _) ?_
  refine w_nil (xn_then (w_condT rfl (w_seq (w_reg ?_))))
  refine wl_m (.tmp 5) (.int .i64 (ask x)) ?_
  refine wl_m (.tmp 11) (.int .i64 (ask x)) ?_
  refine w_nil (xn_then (w_ret (xr_then ?_)))
  exact w_ret1 _ (.int .i64 (ask x)) rfl rfl ⟨by simp [askK, hf0p], M⟩
end Go.Proofs.YtogomodbcjpfiaaGreatDoor
namespace Go.Proofs.YtogomodbcjpfiaaGreatDoor
open Go.RowKit
theorem askK_0 {k : Int} {x : VL} (h : askK k x = 0) : ask x = 0 ∧ x.k = k := by
 unfold askK at h
 split at h
 next q =>
  refine ⟨q, ?_⟩
  split at h
  next g => exact g
  next => exact absurd h (by decide)
 next q => exact absurd h q
theorem if_n (c x y : VL) (w : World) (hc : c.ok) (hx : x.ok) (hy : y.ok) : Calls Tryz.prog 27 #[c.v, x.v, y.v] w fun e9 w' => e9 = .returned (ifV c x y).v ∧ Mo w w' := by
 refine w_enter 24 Tryz.func27 Tryz.ntmps27 rfl rfl ?_
 have M : Mo w w := Mo.refl _
 refine w_seq (w_reg ?_)
 refine wl_box 28 (.tmp 0) _ (((c.cells).toArray)) rfl rfl (fun _ => by kernel_rfl) rfl ?_
 intro k1 u1 hk hz hq Q1
 have N_k1 : w.heap.size ≤ k1 := by have := M.size; omega
 replace M := M.trans hq
 clear hk hz hq
 refine wl_box 28 (.tmp 1) _ (((x.cells).toArray)) rfl rfl (fun _ => by kernel_rfl) rfl ?_
 intro k2 u2 hk hz hq Q2
 have ne_k1_k2 : k1 ≠ k2 := by have := Q1.lt; omega
 have N_k2 : w.heap.size ≤ k2 := by have := M.size; omega
 replace Q1 := Q1.mo hq
 replace M := M.trans hq
 clear hk hz hq
 refine wl_box 28 (.tmp 2) _ (((y.cells).toArray)) rfl rfl (fun _ => by kernel_rfl) rfl ?_
 intro k3 u3 hk hz hq Q3
 have ne_k1_k3 : k1 ≠ k3 := by have := Q1.lt; omega
 have ne_k2_k3 : k2 ≠ k3 := by have := Q2.lt; omega
 have N_k3 : w.heap.size ≤ k3 := by have := M.size; omega
 replace Q1 := Q1.mo hq
 replace Q2 := Q2.mo hq
 replace M := M.trans hq
 clear hk hz hq
 refine wl_alloc 28 #[.int .i64 0, .bool false, .int .u64 0, .int .u64 0, .int .u64 0, .int .u64 0, .int .i64 0, .bool false, .string ⟨#[]⟩, .int .i64 0] rfl (fun _ => by kernel_rfl) rfl ?_
 intro k4 u4 hk hz hq Q4
 have ne_k1_k4 : k1 ≠ k4 := by have := Q1.lt; omega
 have ne_k2_k4 : k2 ≠ k4 := by have := Q2.lt; omega
 have ne_k3_k4 : k3 ≠ k4 := by have := Q3.lt; omega
 have N_k4 : w.heap.size ≤ k4 := by have := M.size; omega
 replace Q1 := Q1.mo hq
 replace Q2 := Q2.mo hq
 replace Q3 := Q3.mo hq
 replace M := M.trans hq
 clear hk hz hq
 refine w_nil (xn_then (w_seq (w_seq (w_reg ?_))))
 refine wl_l 28 (.tmp 3) (pt k1 0) (.agg (c.cells).toArray) (run_row Q1 28 0 10 (c.cells) rfl Tryz.underlying28 rfl sz28) ?_
 refine wl_call 44 [(.const (.int .i64 (2))), (.tmp 9)] _ [.int .i64 (2), .agg (c.cells).toArray] (.int .i64 (askK (2) c)) rfl rfl (fun _ _ => by kernel_rfl) (faultFor_n (2) c _ hc) rfl ?_
 intro u5 hq
 replace Q1 := Q1.mo hq
 replace Q2 := Q2.mo hq
 replace Q3 := Q3.mo hq
 replace Q4 := Q4.mo hq
 replace M := M.trans hq
 clear hq
 refine wl_m (.tmp 10) (.int .i64 (askK (2) c)) ?_
 refine w_nil (xn_then (w_seq (w_reg ?_)))
 refine wl_m (.tmp 7) (.int .i64 (askK (2) c)) ?_
 cases hf0 : decide (askK (2) c = 0) with
 | true =>
  have hf0p := of_decide_eq_true hf0
  refine wl_b .neq 3 (.tmp 11) (.const (.int .i64 (0))) (.int .i64 (askK (2) c)) (.int .i64 (0)) (.bool false) (ne3 hf0 _ _ _) ?_
  refine w_nil (xn_then (w_condF rfl (w_skip (xn_then (w_seq (w_reg ?_))))))
  refine wl_l 28 (.tmp 5) (pt k3 0) (.agg (y.cells).toArray) (run_row Q3 28 0 10 (y.cells) rfl Tryz.underlying28 rfl sz28) ?_
  refine wl_alloc 28 #[.int .i64 0, .bool false, .int .u64 0, .int .u64 0, .int .u64 0, .int .u64 0, .int .i64 0, .bool false, .string ⟨#[]⟩, .int .i64 0] rfl (fun _ => by kernel_rfl) rfl ?_
  intro k5 u6 hk hz hq Q5
  have ne_k1_k5 : k1 ≠ k5 := by have := Q1.lt; omega
  have ne_k2_k5 : k2 ≠ k5 := by have := Q2.lt; omega
  have ne_k3_k5 : k3 ≠ k5 := by have := Q3.lt; omega
  have ne_k4_k5 : k4 ≠ k5 := by have := Q4.lt; omega
  have N_k5 : w.heap.size ≤ k5 := by have := M.size; omega
  replace Q1 := Q1.mo hq
  replace Q2 := Q2.mo hq
  replace Q3 := Q3.mo hq
  replace Q4 := Q4.mo hq
  replace M := M.trans hq
  clear hk hz hq
  refine wl_st 28 (.tmp 8) (.tmp 15) k5 0 ((y.cells).toArray) _ (y.cells) Q5 rfl rfl rfl rfl rfl sz28 rfl rfl rfl ?_
  intro u7 hS Qn
  replace Q5 := Qn
  clear Qn
  replace Q1 := hS.other _ _ ne_k1_k5 Q1
  replace Q2 := hS.other _ _ ne_k2_k5 Q2
  replace Q3 := hS.other _ _ ne_k3_k5 Q3
  replace Q4 := hS.other _ _ ne_k4_k5 Q4
  replace M := hS.mo _ N_k5 M
  clear hS
  refine w_nil (xn_then (w_seq (w_seq (w_reg ?_))))
  refine wl_f 28 2 (.tmp 3) (pt k1 0) (pt k1 7) ?_
  refine wl_l 4 (.tmp 16) (pt k1 7) (.bool c.f) (run_one Q1 4 7 rfl Tryz.underlying4 rfl) ?_
  refine w_nil (xn_then ?_)
  cases hf1 : c.f with
  | true =>
   refine w_condT rfl (w_reg ?_)
   refine wl_l 28 (.tmp 4) (pt k2 0) (.agg (x.cells).toArray) (run_row Q2 28 0 10 (x.cells) rfl Tryz.underlying28 rfl sz28) ?_
   refine wl_st 28 (.tmp 8) (.tmp 18) k5 0 ((x.cells).toArray) (y.cells) (x.cells) Q5 rfl rfl rfl rfl rfl sz28 rfl rfl rfl ?_
   intro u8 hS Qn
   replace Q5 := Qn
   clear Qn
   replace Q1 := hS.other _ _ ne_k1_k5 Q1
   replace Q2 := hS.other _ _ ne_k2_k5 Q2
   replace Q3 := hS.other _ _ ne_k3_k5 Q3
   replace Q4 := hS.other _ _ ne_k4_k5 Q4
   replace M := hS.mo _ N_k5 M
   clear hS
   refine w_nil (xn_then (w_seq (w_seq (w_reg ?_))))
   refine wl_l 28 (.tmp 8) (pt k5 0) (.agg (x.cells).toArray) (run_row Q5 28 0 10 (x.cells) rfl Tryz.underlying28 rfl sz28) ?_
   cases hf2 : ckv x with
   | true =>
    refine wl_call 13 [(.tmp 19)] _ [.agg (x.cells).toArray] (.int .i64 (0)) rfl rfl (fun _ _ => by kernel_rfl) (check_t hf2 hx _) rfl ?_
    intro u9 hq
    replace Q1 := Q1.mo hq
    replace Q2 := Q2.mo hq
    replace Q3 := Q3.mo hq
    replace Q4 := Q4.mo hq
    replace Q5 := Q5.mo hq
    replace M := M.trans hq
    clear hq
    refine wl_b .neq 32 (.tmp 20) (.const (.int .i64 (0))) (.int .i64 (0)) (.int .i64 (0)) (.bool false) (ne34 (r := true) rfl _ _ _) ?_
    refine w_nil (xn_then (w_condF rfl (w_skip (xn_then (w_seq (w_reg ?_))))))
    refine wl_l 28 (.tmp 8) (pt k5 0) (.agg (x.cells).toArray) (run_row Q5 28 0 10 (x.cells) rfl Tryz.underlying28 rfl sz28) ?_
    refine wl_st 28 (.tmp 6) (.tmp 23) k4 0 ((x.cells).toArray) _ (x.cells) Q4 rfl rfl rfl rfl rfl sz28 rfl rfl rfl ?_
    intro u10 hS Qn
    replace Q4 := Qn
    clear Qn
    replace Q1 := hS.other _ _ ne_k1_k4 Q1
    replace Q2 := hS.other _ _ ne_k2_k4 Q2
    replace Q3 := hS.other _ _ ne_k3_k4 Q3
    replace Q5 := hS.other _ _ ne_k4_k5.symm Q5
    replace M := hS.mo _ N_k4 M
    clear hS
    refine w_nil (xn_then (w_ret ?_))
    exact w_ret1 _ (.agg (x.cells).toArray) rfl ⟨k4, rfl, (run_row Q4 28 0 10 (x.cells) rfl Tryz.underlying28 rfl sz28)⟩ ⟨vrt (x := x) rfl (by simp [ifV, mayV, hf0p, hf1, hf2]), M⟩
   | false =>
    refine wl_call 13 [(.tmp 19)] _ [.agg (x.cells).toArray] (.int .i64 (1)) rfl rfl (fun _ _ => by kernel_rfl) (check_f hf2 hx _) rfl ?_
    intro u9 hq
    replace Q1 := Q1.mo hq
    replace Q2 := Q2.mo hq
    replace Q3 := Q3.mo hq
    replace Q4 := Q4.mo hq
    replace Q5 := Q5.mo hq
    replace M := M.trans hq
    clear hq
    refine wl_b .neq 32 (.tmp 20) (.const (.int .i64 (0))) (.int .i64 (1)) (.int .i64 (0)) (.bool true) (ne34 (r := false) rfl _ _ _) ?_
    refine w_nil (xn_then (w_condT rfl (w_seq (w_reg ?_))))
    refine wl_call 15 [(.const (.int .i64 (2)))] _ [.int .i64 (2)] (.agg ((vBad (2)).cells).toArray) rfl rfl (fun _ _ => by kernel_rfl) (bad_n (2) _) rfl ?_
    intro u10 hq
    replace Q1 := Q1.mo hq
    replace Q2 := Q2.mo hq
    replace Q3 := Q3.mo hq
    replace Q4 := Q4.mo hq
    replace Q5 := Q5.mo hq
    replace M := M.trans hq
    clear hq
    refine wl_st 28 (.tmp 6) (.tmp 22) k4 0 (((vBad (2)).cells).toArray) _ ((vBad (2)).cells) Q4 rfl rfl rfl rfl rfl sz28 rfl rfl rfl ?_
    intro u11 hS Qn
    replace Q4 := Qn
    clear Qn
    replace Q1 := hS.other _ _ ne_k1_k4 Q1
    replace Q2 := hS.other _ _ ne_k2_k4 Q2
    replace Q3 := hS.other _ _ ne_k3_k4 Q3
    replace Q5 := hS.other _ _ ne_k4_k5.symm Q5
    replace M := hS.mo _ N_k4 M
    clear hS
    refine w_nil (xn_then (w_ret (xr_then ?_)))
    exact w_ret1 _ (.agg ((vBad (2)).cells).toArray) rfl ⟨k4, rfl, (run_row Q4 28 0 10 ((vBad (2)).cells) rfl Tryz.underlying28 rfl sz28)⟩ ⟨vrt (x := (vBad (2))) rfl (by simp [ifV, mayV, hf0p, hf1, hf2]), M⟩
  | false =>
   refine w_condF rfl (w_skip (xn_then (w_seq (w_seq (w_reg ?_)))))
   refine wl_l 28 (.tmp 8) (pt k5 0) (.agg (y.cells).toArray) (run_row Q5 28 0 10 (y.cells) rfl Tryz.underlying28 rfl sz28) ?_
   cases hf2 : ckv y with
   | true =>
    refine wl_call 13 [(.tmp 19)] _ [.agg (y.cells).toArray] (.int .i64 (0)) rfl rfl (fun _ _ => by kernel_rfl) (check_t hf2 hy _) rfl ?_
    intro u8 hq
    replace Q1 := Q1.mo hq
    replace Q2 := Q2.mo hq
    replace Q3 := Q3.mo hq
    replace Q4 := Q4.mo hq
    replace Q5 := Q5.mo hq
    replace M := M.trans hq
    clear hq
    refine wl_b .neq 32 (.tmp 20) (.const (.int .i64 (0))) (.int .i64 (0)) (.int .i64 (0)) (.bool false) (ne34 (r := true) rfl _ _ _) ?_
    refine w_nil (xn_then (w_condF rfl (w_skip (xn_then (w_seq (w_reg ?_))))))
    refine wl_l 28 (.tmp 8) (pt k5 0) (.agg (y.cells).toArray) (run_row Q5 28 0 10 (y.cells) rfl Tryz.underlying28 rfl sz28) ?_
    refine wl_st 28 (.tmp 6) (.tmp 23) k4 0 ((y.cells).toArray) _ (y.cells) Q4 rfl rfl rfl rfl rfl sz28 rfl rfl rfl ?_
    intro u9 hS Qn
    replace Q4 := Qn
    clear Qn
    replace Q1 := hS.other _ _ ne_k1_k4 Q1
    replace Q2 := hS.other _ _ ne_k2_k4 Q2
    replace Q3 := hS.other _ _ ne_k3_k4 Q3
    replace Q5 := hS.other _ _ ne_k4_k5.symm Q5
    replace M := hS.mo _ N_k4 M
    clear hS
    refine w_nil (xn_then (w_ret ?_))
    exact w_ret1 _ (.agg (y.cells).toArray) rfl ⟨k4, rfl, (run_row Q4 28 0 10 (y.cells) rfl Tryz.underlying28 rfl sz28)⟩ ⟨vrt (x := y) rfl (by simp [ifV, mayV, hf0p, hf1, hf2]), M⟩
   | false =>
    refine wl_call 13 [(.tmp 19)] _ [.agg (y.cells).toArray] (.int .i64 (1)) rfl rfl (fun _ _ => by kernel_rfl) (check_f hf2 hy _) rfl ?_
    intro u8 hq
    replace Q1 := Q1.mo hq
    replace Q2 := Q2.mo hq
    replace Q3 := Q3.mo hq
    replace Q4 := Q4.mo hq
    replace Q5 := Q5.mo hq
    replace M := M.trans hq
    clear hq
    refine wl_b .neq 32 (.tmp 20) (.const (.int .i64 (0))) (.int .i64 (1)) (.int .i64 (0)) (.bool true) (ne34 (r := false) rfl _ _ _) ?_
    refine w_nil (xn_then (w_condT rfl (w_seq (w_reg ?_))))
    refine wl_call 15 [(.const (.int .i64 (2)))] _ [.int .i64 (2)] (.agg ((vBad (2)).cells).toArray) rfl rfl (fun _ _ => by kernel_rfl) (bad_n (2) _) rfl ?_
    intro u9 hq
    replace Q1 := Q1.mo hq
    replace Q2 := Q2.mo hq
    replace Q3 := Q3.mo hq
    replace Q4 := Q4.mo hq
    replace Q5 := Q5.mo hq
    replace M := M.trans hq
    clear hq
    refine wl_st 28 (.tmp 6) (.tmp 22) k4 0 (((vBad (2)).cells).toArray) _ ((vBad (2)).cells) Q4 rfl rfl rfl rfl rfl sz28 rfl rfl rfl ?_
    intro u10 hS Qn
    replace Q4 := Qn
    clear Qn
    replace Q1 := hS.other _ _ ne_k1_k4 Q1
    replace Q2 := hS.other _ _ ne_k2_k4 Q2
    replace Q3 := hS.other _ _ ne_k3_k4 Q3
    replace Q5 := hS.other _ _ ne_k4_k5.symm Q5
    replace M := hS.mo _ N_k4 M
    clear hS
    refine w_nil (xn_then (w_ret (xr_then ?_)))
    exact w_ret1 _ (.agg ((vBad (2)).cells).toArray) rfl ⟨k4, rfl, (run_row Q4 28 0 10 ((vBad (2)).cells) rfl Tryz.underlying28 rfl sz28)⟩ ⟨vrt (x := (vBad (2))) rfl (by simp [ifV, mayV, hf0p, hf1, hf2]), M⟩
 | false =>
  have hf0p := of_decide_eq_false hf0
  refine wl_b .neq 3 (.tmp 11) (.const (.int .i64 (0))) (.int .i64 (askK (2) c)) (.int .i64 (0)) (.bool true) (ne3 hf0 _ _ _) ?_
  refine w_nil (xn_then (w_condT rfl (w_seq (w_reg ?_))))
  refine wl_m (.tmp 7) (.int .i64 (askK (2) c)) ?_
  refine wl_call 15 [(.tmp 13)] _ [.int .i64 (askK (2) c)] (.agg ((vBad (askK (2) c)).cells).toArray) rfl rfl (fun _ _ => by kernel_rfl) (bad_n (askK (2) c) _) rfl ?_
  intro u6 hq
  replace Q1 := Q1.mo hq
  replace Q2 := Q2.mo hq
  replace Q3 := Q3.mo hq
  replace Q4 := Q4.mo hq
  replace M := M.trans hq
  clear hq
  refine wl_st 28 (.tmp 6) (.tmp 14) k4 0 (((vBad (askK (2) c)).cells).toArray) _ ((vBad (askK (2) c)).cells) Q4 rfl rfl rfl rfl rfl sz28 rfl rfl rfl ?_
  intro u7 hS Qn
  replace Q4 := Qn
  clear Qn
  replace Q1 := hS.other _ _ ne_k1_k4 Q1
  replace Q2 := hS.other _ _ ne_k2_k4 Q2
  replace Q3 := hS.other _ _ ne_k3_k4 Q3
  replace M := hS.mo _ N_k4 M
  clear hS
  refine w_nil (xn_then (w_ret (xr_then ?_)))
  exact w_ret1 _ (.agg ((vBad (askK (2) c)).cells).toArray) rfl ⟨k4, rfl, (run_row Q4 28 0 10 ((vBad (askK (2) c)).cells) rfl Tryz.underlying28 rfl sz28)⟩ ⟨vrt (x := (vBad (askK (2) c))) rfl (by simp [ifV, hf0p]), M⟩
end Go.Proofs.YtogomodbcjpfiaaGreatDoor
namespace Go.Proofs.YtogomodbcjpfiaaGreatDoor
open Go.RowKit
theorem rchk_n (x : VL) (w : World) (hx : x.ok) : Calls Tryz.prog 14 #[x.v] w fun e9 w' => e9 = .returned (.int .i64 (ckI x)) ∧ Mo w w' := by
 refine w_enter 63 Tryz.func14 Tryz.ntmps14 rfl rfl ?_
 have M : Mo w w := Mo.refl _
 refine w_seq (w_reg ?_)
 refine wl_box 28 (.tmp 0) _ (((x.cells).toArray)) rfl rfl (fun _ => by kernel_rfl) rfl ?_
 intro k1 u1 hk hz hq Q1
 have N_k1 : w.heap.size ≤ k1 := by have := M.size; omega
 replace M := M.trans hq
 clear hk hz hq
 refine wl_m (.const (.int .i64 (0))) (.int .i64 (0)) ?_
 refine w_nil (xn_then (w_seq (w_reg ?_)))
 refine wl_m (.const (.bool false)) (.bool false) ?_
 refine w_nil (xn_then (w_seq (w_seq (w_reg ?_))))
 refine wl_f 28 0 (.tmp 1) (pt k1 0) (pt k1 0) ?_
 refine wl_l 3 (.tmp 4) (pt k1 0) (.int .i64 (x.k)) (run_one Q1 3 0 rfl Tryz.underlying3 rfl) ?_
 refine w_nil (xn_then (w_block (w_seq (w_reg ?_))))
 cases hf0 : decide (x.k = 0) with
 | true =>
  have hf0p := of_decide_eq_true hf0
  refine wl_b .eql 3 (.tmp 5) (.const (.int .i64 (0))) (.int .i64 (x.k)) (.int .i64 (0)) (.bool true) (eq3 hf0 _ _ _) ?_
  refine wl_m (.tmp 7) (.bool true) ?_
  refine w_nil (xn_then (w_condT rfl (w_reg ?_)))
  refine wl_l 28 (.tmp 1) (pt k1 0) (.agg (x.cells).toArray) (run_row Q1 28 0 10 (x.cells) rfl Tryz.underlying28 rfl sz28) ?_
  refine wl_build 28 [] [] (.agg #[.int .i64 0, .bool false, .int .u64 0, .int .u64 0, .int .u64 0, .int .u64 0, .int .i64 0, .bool false, .string ⟨#[]⟩, .int .i64 0]) rfl rfl (by kernel_rfl) rfl ?_
  cases hf1 : svv x vBl with
  | true =>
   refine wl_b .eql 28 (.tmp 8) (.tmp 9) (.agg (x.cells).toArray) (.agg #[.int .i64 0, .bool false, .int .u64 0, .int .u64 0, .int .u64 0, .int .u64 0, .int .i64 0, .bool false, .string ⟨#[]⟩, .int .i64 0]) (.bool true) (eqW hf1 _ _ _) ?_
   refine wl_m (.tmp 10) (.bool true) ?_
   refine w_nil (xn_blk (xn_then (w_seq (w_seq (w_reg ?_)))))
   refine wl_m (.tmp 3) (.bool true) ?_
   refine wl_un (fun v => Op.unary .not v) (.tmp 61) (.bool true) (.bool false) (fun _ => rfl) rfl (by kernel_rfl) rfl ?_
   refine w_nil (xn_then (w_condF rfl (w_skip (xn_then (w_seq (w_reg ?_))))))
   refine wl_m (.const (.int .i64 (0))) (.int .i64 (0)) ?_
   refine w_nil (xn_then (w_ret ?_))
   exact w_ret1 _ (.int .i64 (0)) rfl rfl ⟨by simp [ckI, ckv, bareV, inB, hf0p, hf1] <;> omega, M⟩
  | false =>
   refine wl_b .eql 28 (.tmp 8) (.tmp 9) (.agg (x.cells).toArray) (.agg #[.int .i64 0, .bool false, .int .u64 0, .int .u64 0, .int .u64 0, .int .u64 0, .int .i64 0, .bool false, .string ⟨#[]⟩, .int .i64 0]) (.bool false) (eqW hf1 _ _ _) ?_
   refine wl_m (.tmp 10) (.bool false) ?_
   refine w_nil (xn_blk (xn_then (w_seq (w_seq (w_reg ?_)))))
   refine wl_m (.tmp 3) (.bool false) ?_
   refine wl_un (fun v => Op.unary .not v) (.tmp 61) (.bool false) (.bool true) (fun _ => rfl) rfl (by kernel_rfl) rfl ?_
   refine w_nil (xn_then (w_condT rfl (w_seq (w_reg ?_))))
   refine wl_m (.const (.int .i64 (1))) (.int .i64 (1)) ?_
   refine w_nil (xn_then (w_ret (xr_then ?_)))
   exact w_ret1 _ (.int .i64 (1)) rfl rfl ⟨by simp [ckI, ckv, bareV, inB, hf0p, hf1] <;> omega, M⟩
 | false =>
  have hf0p := of_decide_eq_false hf0
  refine wl_b .eql 3 (.tmp 5) (.const (.int .i64 (0))) (.int .i64 (x.k)) (.int .i64 (0)) (.bool false) (eq3 hf0 _ _ _) ?_
  refine wl_m (.tmp 7) (.bool false) ?_
  refine w_nil (xn_then (w_condF rfl (w_seq (w_reg ?_))))
  cases hf1 : decide (x.k = 1) with
  | true =>
   have hf1p := of_decide_eq_true hf1
   refine wl_b .eql 3 (.tmp 5) (.const (.int .i64 (1))) (.int .i64 (x.k)) (.int .i64 (1)) (.bool true) (eq3 hf1 _ _ _) ?_
   refine wl_m (.tmp 12) (.bool true) ?_
   refine w_nil (xn_then (w_condT rfl (w_reg ?_)))
   refine wl_l 28 (.tmp 1) (pt k1 0) (.agg (x.cells).toArray) (run_row Q1 28 0 10 (x.cells) rfl Tryz.underlying28 rfl sz28) ?_
   refine wl_f 28 1 (.tmp 1) (pt k1 0) (pt k1 1) ?_
   refine wl_l 26 (.tmp 14) (pt k1 1) (.agg #[.bool x.b, .int .u64 (l0 x.n), .int .u64 (l1 x.n), .int .u64 (l2 x.n), .int .u64 (l3 x.n), .int .i64 x.s]) (run_row Q1 26 1 6 _ rfl Tryz.underlying26 rfl sz26) ?_
   refine wl_build 28 [(0, (.const (.int .i64 (1)))), (1, (.tmp 15))] [(0, .int .i64 (1)), (1, .agg #[.bool x.b, .int .u64 (l0 x.n), .int .u64 (l1 x.n), .int .u64 (l2 x.n), .int .u64 (l3 x.n), .int .i64 x.s])] (.agg #[.int .i64 (1), .bool x.b, .int .u64 (l0 x.n), .int .u64 (l1 x.n), .int .u64 (l2 x.n), .int .u64 (l3 x.n), .int .i64 x.s, .bool false, .string ⟨#[]⟩, .int .i64 0]) rfl rfl (by kernel_rfl) rfl ?_
   cases hf2 : svv x (vNu x.b x.n x.s) with
   | true =>
    refine wl_b .eql 28 (.tmp 13) (.tmp 16) (.agg (x.cells).toArray) (.agg #[.int .i64 (1), .bool x.b, .int .u64 (l0 x.n), .int .u64 (l1 x.n), .int .u64 (l2 x.n), .int .u64 (l3 x.n), .int .i64 x.s, .bool false, .string ⟨#[]⟩, .int .i64 0]) (.bool true) (eqW hf2 _ _ _) ?_
    refine wl_m (.tmp 17) (.bool true) ?_
    refine wl_f 28 1 (.tmp 1) (pt k1 0) (pt k1 1) ?_
    refine wl_l 26 (.tmp 19) (pt k1 1) (.agg #[.bool x.b, .int .u64 (l0 x.n), .int .u64 (l1 x.n), .int .u64 (l2 x.n), .int .u64 (l3 x.n), .int .i64 x.s]) (run_row Q1 26 1 6 _ rfl Tryz.underlying26 rfl sz26) ?_
    refine wl_call 42 [(.tmp 20)] _ [.agg #[.bool x.b, .int .u64 (l0 x.n), .int .u64 (l1 x.n), .int .u64 (l2 x.n), .int .u64 (l3 x.n), .int .i64 x.s]] (.int .i64 (ck x.b x.n x.s)) rfl rfl (fun _ _ => by kernel_rfl) (rcheck_n x.b x.n x.s _ hx.1 hx.2) rfl ?_
    intro u2 hq
    replace Q1 := Q1.mo hq
    replace M := M.trans hq
    clear hq
    cases hf3 : decide (ck x.b x.n x.s = 0) with
    | true =>
     have hf3p := of_decide_eq_true hf3
     refine wl_b .eql 32 (.tmp 21) (.const (.int .i64 (0))) (.int .i64 (ck x.b x.n x.s)) (.int .i64 (0)) (.bool true) (eq34 hf3 _ _ _) ?_
     refine wl_pick (.tmp 18) (.tmp 22) (.const (.bool false)) true (.bool true) (fun _ => rfl) rfl rfl rfl ?_
     refine wl_m (.tmp 23) (.bool true) ?_
     refine w_nil (xn_blk (xn_then (w_seq (w_seq (w_reg ?_)))))
     refine wl_m (.tmp 3) (.bool true) ?_
     refine wl_un (fun v => Op.unary .not v) (.tmp 61) (.bool true) (.bool false) (fun _ => rfl) rfl (by kernel_rfl) rfl ?_
     refine w_nil (xn_then (w_condF rfl (w_skip (xn_then (w_seq (w_reg ?_))))))
     refine wl_m (.const (.int .i64 (0))) (.int .i64 (0)) ?_
     refine w_nil (xn_then (w_ret ?_))
     exact w_ret1 _ (.int .i64 (0)) rfl rfl ⟨by simp [ckI, ckv, bareV, inB, hf1p, hf2, hf3p] <;> omega, M⟩
    | false =>
     have hf3p := of_decide_eq_false hf3
     refine wl_b .eql 32 (.tmp 21) (.const (.int .i64 (0))) (.int .i64 (ck x.b x.n x.s)) (.int .i64 (0)) (.bool false) (eq34 hf3 _ _ _) ?_
     refine wl_pick (.tmp 18) (.tmp 22) (.const (.bool false)) true (.bool false) (fun _ => rfl) rfl rfl rfl ?_
     refine wl_m (.tmp 23) (.bool false) ?_
     refine w_nil (xn_blk (xn_then (w_seq (w_seq (w_reg ?_)))))
     refine wl_m (.tmp 3) (.bool false) ?_
     refine wl_un (fun v => Op.unary .not v) (.tmp 61) (.bool false) (.bool true) (fun _ => rfl) rfl (by kernel_rfl) rfl ?_
     refine w_nil (xn_then (w_condT rfl (w_seq (w_reg ?_))))
     refine wl_m (.const (.int .i64 (1))) (.int .i64 (1)) ?_
     refine w_nil (xn_then (w_ret (xr_then ?_)))
     exact w_ret1 _ (.int .i64 (1)) rfl rfl ⟨by simp [ckI, ckv, bareV, inB, hf1p, hf2, hf3p] <;> omega, M⟩
   | false =>
    refine wl_b .eql 28 (.tmp 13) (.tmp 16) (.agg (x.cells).toArray) (.agg #[.int .i64 (1), .bool x.b, .int .u64 (l0 x.n), .int .u64 (l1 x.n), .int .u64 (l2 x.n), .int .u64 (l3 x.n), .int .i64 x.s, .bool false, .string ⟨#[]⟩, .int .i64 0]) (.bool false) (eqW hf2 _ _ _) ?_
    refine wl_m (.tmp 17) (.bool false) ?_
    refine wl_skip rfl (wl_skip rfl (wl_skip rfl (wl_skip rfl ?_)))
    refine wl_pick (.tmp 18) (.tmp 22) (.const (.bool false)) false (.bool false) (fun _ => rfl) rfl rfl rfl ?_
    refine wl_m (.tmp 23) (.bool false) ?_
    refine w_nil (xn_blk (xn_then (w_seq (w_seq (w_reg ?_)))))
    refine wl_m (.tmp 3) (.bool false) ?_
    refine wl_un (fun v => Op.unary .not v) (.tmp 61) (.bool false) (.bool true) (fun _ => rfl) rfl (by kernel_rfl) rfl ?_
    refine w_nil (xn_then (w_condT rfl (w_seq (w_reg ?_))))
    refine wl_m (.const (.int .i64 (1))) (.int .i64 (1)) ?_
    refine w_nil (xn_then (w_ret (xr_then ?_)))
    exact w_ret1 _ (.int .i64 (1)) rfl rfl ⟨by simp [ckI, ckv, bareV, inB, hf1p, hf2] <;> omega, M⟩
  | false =>
   have hf1p := of_decide_eq_false hf1
   refine wl_b .eql 3 (.tmp 5) (.const (.int .i64 (1))) (.int .i64 (x.k)) (.int .i64 (1)) (.bool false) (eq3 hf1 _ _ _) ?_
   refine wl_m (.tmp 12) (.bool false) ?_
   refine w_nil (xn_then (w_condF rfl (w_seq (w_reg ?_))))
   cases hf2 : decide (x.k = 2) with
   | true =>
    have hf2p := of_decide_eq_true hf2
    refine wl_b .eql 3 (.tmp 5) (.const (.int .i64 (2))) (.int .i64 (x.k)) (.int .i64 (2)) (.bool true) (eq3 hf2 _ _ _) ?_
    refine wl_m (.tmp 25) (.bool true) ?_
    refine w_nil (xn_then (w_condT rfl (w_reg ?_)))
    refine wl_l 28 (.tmp 1) (pt k1 0) (.agg (x.cells).toArray) (run_row Q1 28 0 10 (x.cells) rfl Tryz.underlying28 rfl sz28) ?_
    refine wl_f 28 2 (.tmp 1) (pt k1 0) (pt k1 7) ?_
    refine wl_l 4 (.tmp 27) (pt k1 7) (.bool x.f) (run_one Q1 4 7 rfl Tryz.underlying4 rfl) ?_
    refine wl_build 28 [(0, (.const (.int .i64 (2)))), (2, (.tmp 28))] [(0, .int .i64 (2)), (2, .bool x.f)] (.agg #[.int .i64 (2), .bool false, .int .u64 0, .int .u64 0, .int .u64 0, .int .u64 0, .int .i64 0, .bool x.f, .string ⟨#[]⟩, .int .i64 0]) rfl rfl (by kernel_rfl) rfl ?_
    cases hf3 : svv x (vFl x.f) with
    | true =>
     refine wl_b .eql 28 (.tmp 26) (.tmp 29) (.agg (x.cells).toArray) (.agg #[.int .i64 (2), .bool false, .int .u64 0, .int .u64 0, .int .u64 0, .int .u64 0, .int .i64 0, .bool x.f, .string ⟨#[]⟩, .int .i64 0]) (.bool true) (eqW hf3 _ _ _) ?_
     refine wl_m (.tmp 30) (.bool true) ?_
     refine w_nil (xn_blk (xn_then (w_seq (w_seq (w_reg ?_)))))
     refine wl_m (.tmp 3) (.bool true) ?_
     refine wl_un (fun v => Op.unary .not v) (.tmp 61) (.bool true) (.bool false) (fun _ => rfl) rfl (by kernel_rfl) rfl ?_
     refine w_nil (xn_then (w_condF rfl (w_skip (xn_then (w_seq (w_reg ?_))))))
     refine wl_m (.const (.int .i64 (0))) (.int .i64 (0)) ?_
     refine w_nil (xn_then (w_ret ?_))
     exact w_ret1 _ (.int .i64 (0)) rfl rfl ⟨by simp [ckI, ckv, bareV, inB, hf2p, hf3] <;> omega, M⟩
    | false =>
     refine wl_b .eql 28 (.tmp 26) (.tmp 29) (.agg (x.cells).toArray) (.agg #[.int .i64 (2), .bool false, .int .u64 0, .int .u64 0, .int .u64 0, .int .u64 0, .int .i64 0, .bool x.f, .string ⟨#[]⟩, .int .i64 0]) (.bool false) (eqW hf3 _ _ _) ?_
     refine wl_m (.tmp 30) (.bool false) ?_
     refine w_nil (xn_blk (xn_then (w_seq (w_seq (w_reg ?_)))))
     refine wl_m (.tmp 3) (.bool false) ?_
     refine wl_un (fun v => Op.unary .not v) (.tmp 61) (.bool false) (.bool true) (fun _ => rfl) rfl (by kernel_rfl) rfl ?_
     refine w_nil (xn_then (w_condT rfl (w_seq (w_reg ?_))))
     refine wl_m (.const (.int .i64 (1))) (.int .i64 (1)) ?_
     refine w_nil (xn_then (w_ret (xr_then ?_)))
     exact w_ret1 _ (.int .i64 (1)) rfl rfl ⟨by simp [ckI, ckv, bareV, inB, hf2p, hf3] <;> omega, M⟩
   | false =>
    have hf2p := of_decide_eq_false hf2
    refine wl_b .eql 3 (.tmp 5) (.const (.int .i64 (2))) (.int .i64 (x.k)) (.int .i64 (2)) (.bool false) (eq3 hf2 _ _ _) ?_
    refine wl_m (.tmp 25) (.bool false) ?_
    refine w_nil (xn_then (w_condF rfl (w_seq (w_reg ?_))))
    cases hf3 : decide (x.k = 3) with
    | true =>
     have hf3p := of_decide_eq_true hf3
     refine wl_b .eql 3 (.tmp 5) (.const (.int .i64 (3))) (.int .i64 (x.k)) (.int .i64 (3)) (.bool true) (eq3 hf3 _ _ _) ?_
     refine wl_m (.tmp 32) (.bool true) ?_
     refine w_nil (xn_then (w_condT rfl (w_reg ?_)))
     refine wl_l 28 (.tmp 1) (pt k1 0) (.agg (x.cells).toArray) (run_row Q1 28 0 10 (x.cells) rfl Tryz.underlying28 rfl sz28) ?_
     refine wl_f 28 3 (.tmp 1) (pt k1 0) (pt k1 8) ?_
     refine wl_l 9 (.tmp 34) (pt k1 8) (.string x.t) (run_one Q1 9 8 rfl Tryz.underlying9 rfl) ?_
     refine wl_build 28 [(0, (.const (.int .i64 (3)))), (3, (.tmp 35))] [(0, .int .i64 (3)), (3, .string x.t)] (.agg #[.int .i64 (3), .bool false, .int .u64 0, .int .u64 0, .int .u64 0, .int .u64 0, .int .i64 0, .bool false, .string x.t, .int .i64 0]) rfl rfl (by kernel_rfl) rfl ?_
     cases hf4 : svv x (vTx x.t) with
     | true =>
      refine wl_b .eql 28 (.tmp 33) (.tmp 36) (.agg (x.cells).toArray) (.agg #[.int .i64 (3), .bool false, .int .u64 0, .int .u64 0, .int .u64 0, .int .u64 0, .int .i64 0, .bool false, .string x.t, .int .i64 0]) (.bool true) (eqW hf4 _ _ _) ?_
      refine wl_m (.tmp 37) (.bool true) ?_
      refine wl_f 28 3 (.tmp 1) (pt k1 0) (pt k1 8) ?_
      refine wl_l 9 (.tmp 39) (pt k1 8) (.string x.t) (run_one Q1 9 8 rfl Tryz.underlying9 rfl) ?_
      refine wl_val (.int .i64 ((x.t.size : Nat) : Int)) (len_s _ _ _ (by exact rfl) _ _ _ _ _ _) rfl ?_
      cases hf5 : decide (((x.t.size : Nat) : Int) ≤ 64) with
      | true =>
       have hf5p := of_decide_eq_true hf5
       refine wl_b .leq 3 (.tmp 41) (.const (.int .i64 (64))) (.int .i64 ((x.t.size : Nat) : Int)) (.int .i64 (64)) (.bool true) (le3 hf5 _ _ _) ?_
       refine wl_pick (.tmp 38) (.tmp 42) (.const (.bool false)) true (.bool true) (fun _ => rfl) rfl rfl rfl ?_
       refine wl_m (.tmp 43) (.bool true) ?_
       refine w_nil (xn_blk (xn_then (w_seq (w_seq (w_reg ?_)))))
       refine wl_m (.tmp 3) (.bool true) ?_
       refine wl_un (fun v => Op.unary .not v) (.tmp 61) (.bool true) (.bool false) (fun _ => rfl) rfl (by kernel_rfl) rfl ?_
       refine w_nil (xn_then (w_condF rfl (w_skip (xn_then (w_seq (w_reg ?_))))))
       refine wl_m (.const (.int .i64 (0))) (.int .i64 (0)) ?_
       refine w_nil (xn_then (w_ret ?_))
       exact w_ret1 _ (.int .i64 (0)) rfl rfl ⟨by simp [ckI, ckv, bareV, inB, hf3p, hf4] <;> omega, M⟩
      | false =>
       have hf5p := of_decide_eq_false hf5
       refine wl_b .leq 3 (.tmp 41) (.const (.int .i64 (64))) (.int .i64 ((x.t.size : Nat) : Int)) (.int .i64 (64)) (.bool false) (le3 hf5 _ _ _) ?_
       refine wl_pick (.tmp 38) (.tmp 42) (.const (.bool false)) true (.bool false) (fun _ => rfl) rfl rfl rfl ?_
       refine wl_m (.tmp 43) (.bool false) ?_
       refine w_nil (xn_blk (xn_then (w_seq (w_seq (w_reg ?_)))))
       refine wl_m (.tmp 3) (.bool false) ?_
       refine wl_un (fun v => Op.unary .not v) (.tmp 61) (.bool false) (.bool true) (fun _ => rfl) rfl (by kernel_rfl) rfl ?_
       refine w_nil (xn_then (w_condT rfl (w_seq (w_reg ?_))))
       refine wl_m (.const (.int .i64 (1))) (.int .i64 (1)) ?_
       refine w_nil (xn_then (w_ret (xr_then ?_)))
       exact w_ret1 _ (.int .i64 (1)) rfl rfl ⟨by simp [ckI, ckv, bareV, inB, hf3p, hf4] <;> omega, M⟩
     | false =>
      refine wl_b .eql 28 (.tmp 33) (.tmp 36) (.agg (x.cells).toArray) (.agg #[.int .i64 (3), .bool false, .int .u64 0, .int .u64 0, .int .u64 0, .int .u64 0, .int .i64 0, .bool false, .string x.t, .int .i64 0]) (.bool false) (eqW hf4 _ _ _) ?_
      refine wl_m (.tmp 37) (.bool false) ?_
      refine wl_skip rfl (wl_skip rfl (wl_skip rfl (wl_skip rfl ?_)))
      refine wl_pick (.tmp 38) (.tmp 42) (.const (.bool false)) false (.bool false) (fun _ => rfl) rfl rfl rfl ?_
      refine wl_m (.tmp 43) (.bool false) ?_
      refine w_nil (xn_blk (xn_then (w_seq (w_seq (w_reg ?_)))))
      refine wl_m (.tmp 3) (.bool false) ?_
      refine wl_un (fun v => Op.unary .not v) (.tmp 61) (.bool false) (.bool true) (fun _ => rfl) rfl (by kernel_rfl) rfl ?_
      refine w_nil (xn_then (w_condT rfl (w_seq (w_reg ?_))))
      refine wl_m (.const (.int .i64 (1))) (.int .i64 (1)) ?_
      refine w_nil (xn_then (w_ret (xr_then ?_)))
      exact w_ret1 _ (.int .i64 (1)) rfl rfl ⟨by simp [ckI, ckv, bareV, inB, hf3p, hf4] <;> omega, M⟩
    | false =>
     have hf3p := of_decide_eq_false hf3
     refine wl_b .eql 3 (.tmp 5) (.const (.int .i64 (3))) (.int .i64 (x.k)) (.int .i64 (3)) (.bool false) (eq3 hf3 _ _ _) ?_
     refine wl_m (.tmp 32) (.bool false) ?_
     refine w_nil (xn_then (w_condF rfl (w_seq (w_reg ?_))))
     cases hf4 : decide (x.k = 4) with
     | true =>
      have hf4p := of_decide_eq_true hf4
      refine wl_b .eql 3 (.tmp 5) (.const (.int .i64 (4))) (.int .i64 (x.k)) (.int .i64 (4)) (.bool true) (eq3 hf4 _ _ _) ?_
      refine wl_m (.tmp 45) (.bool true) ?_
      refine w_nil (xn_then (w_condT rfl (w_reg ?_)))
      refine wl_l 28 (.tmp 1) (pt k1 0) (.agg (x.cells).toArray) (run_row Q1 28 0 10 (x.cells) rfl Tryz.underlying28 rfl sz28) ?_
      refine wl_f 28 4 (.tmp 1) (pt k1 0) (pt k1 9) ?_
      refine wl_l 3 (.tmp 47) (pt k1 9) (.int .i64 (x.e)) (run_one Q1 3 9 rfl Tryz.underlying3 rfl) ?_
      refine wl_build 28 [(0, (.const (.int .i64 (4)))), (4, (.tmp 48))] [(0, .int .i64 (4)), (4, .int .i64 (x.e))] (.agg #[.int .i64 (4), .bool false, .int .u64 0, .int .u64 0, .int .u64 0, .int .u64 0, .int .i64 0, .bool false, .string ⟨#[]⟩, .int .i64 (x.e)]) rfl rfl (by kernel_rfl) rfl ?_
      cases hf5 : svv x (vEr x.e) with
      | true =>
       refine wl_b .eql 28 (.tmp 46) (.tmp 49) (.agg (x.cells).toArray) (.agg #[.int .i64 (4), .bool false, .int .u64 0, .int .u64 0, .int .u64 0, .int .u64 0, .int .i64 0, .bool false, .string ⟨#[]⟩, .int .i64 (x.e)]) (.bool true) (eqW hf5 _ _ _) ?_
       refine wl_m (.tmp 50) (.bool true) ?_
       refine wl_f 28 4 (.tmp 1) (pt k1 0) (pt k1 9) ?_
       refine wl_l 3 (.tmp 52) (pt k1 9) (.int .i64 (x.e)) (run_one Q1 3 9 rfl Tryz.underlying3 rfl) ?_
       cases hf6 : decide (1 ≤ x.e) with
       | true =>
        have hf6p := of_decide_eq_true hf6
        refine wl_b .geq 3 (.tmp 53) (.const (.int .i64 (1))) (.int .i64 (x.e)) (.int .i64 (1)) (.bool true) (ge3 hf6 _ _ _) ?_
        refine wl_pick (.tmp 51) (.tmp 54) (.const (.bool false)) true (.bool true) (fun _ => rfl) rfl rfl rfl ?_
        refine wl_m (.tmp 55) (.bool true) ?_
        refine wl_f 28 4 (.tmp 1) (pt k1 0) (pt k1 9) ?_
        refine wl_l 3 (.tmp 57) (pt k1 9) (.int .i64 (x.e)) (run_one Q1 3 9 rfl Tryz.underlying3 rfl) ?_
        cases hf7 : decide (x.e ≤ 5) with
        | true =>
         have hf7p := of_decide_eq_true hf7
         refine wl_b .leq 3 (.tmp 58) (.const (.int .i64 (5))) (.int .i64 (x.e)) (.int .i64 (5)) (.bool true) (le3 hf7 _ _ _) ?_
         refine wl_pick (.tmp 56) (.tmp 59) (.const (.bool false)) true (.bool true) (fun _ => rfl) rfl rfl rfl ?_
         refine wl_m (.tmp 60) (.bool true) ?_
         refine w_nil (xn_blk (xn_then (w_seq (w_seq (w_reg ?_)))))
         refine wl_m (.tmp 3) (.bool true) ?_
         refine wl_un (fun v => Op.unary .not v) (.tmp 61) (.bool true) (.bool false) (fun _ => rfl) rfl (by kernel_rfl) rfl ?_
         refine w_nil (xn_then (w_condF rfl (w_skip (xn_then (w_seq (w_reg ?_))))))
         refine wl_m (.const (.int .i64 (0))) (.int .i64 (0)) ?_
         refine w_nil (xn_then (w_ret ?_))
         exact w_ret1 _ (.int .i64 (0)) rfl rfl ⟨by simp [ckI, ckv, bareV, inB, isE, hf4p, hf5, hf6p, hf7p] <;> omega, M⟩
        | false =>
         have hf7p := of_decide_eq_false hf7
         refine wl_b .leq 3 (.tmp 58) (.const (.int .i64 (5))) (.int .i64 (x.e)) (.int .i64 (5)) (.bool false) (le3 hf7 _ _ _) ?_
         refine wl_pick (.tmp 56) (.tmp 59) (.const (.bool false)) true (.bool false) (fun _ => rfl) rfl rfl rfl ?_
         refine wl_m (.tmp 60) (.bool false) ?_
         refine w_nil (xn_blk (xn_then (w_seq (w_seq (w_reg ?_)))))
         refine wl_m (.tmp 3) (.bool false) ?_
         refine wl_un (fun v => Op.unary .not v) (.tmp 61) (.bool false) (.bool true) (fun _ => rfl) rfl (by kernel_rfl) rfl ?_
         refine w_nil (xn_then (w_condT rfl (w_seq (w_reg ?_))))
         refine wl_m (.const (.int .i64 (1))) (.int .i64 (1)) ?_
         refine w_nil (xn_then (w_ret (xr_then ?_)))
         exact w_ret1 _ (.int .i64 (1)) rfl rfl ⟨by simp [ckI, ckv, bareV, inB, isE, hf4p, hf5, hf6p, hf7p] <;> omega, M⟩
       | false =>
        have hf6p := of_decide_eq_false hf6
        refine wl_b .geq 3 (.tmp 53) (.const (.int .i64 (1))) (.int .i64 (x.e)) (.int .i64 (1)) (.bool false) (ge3 hf6 _ _ _) ?_
        refine wl_pick (.tmp 51) (.tmp 54) (.const (.bool false)) true (.bool false) (fun _ => rfl) rfl rfl rfl ?_
        refine wl_m (.tmp 55) (.bool false) ?_
        refine wl_skip rfl (wl_skip rfl (wl_skip rfl ?_))
        refine wl_pick (.tmp 56) (.tmp 59) (.const (.bool false)) false (.bool false) (fun _ => rfl) rfl rfl rfl ?_
        refine wl_m (.tmp 60) (.bool false) ?_
        refine w_nil (xn_blk (xn_then (w_seq (w_seq (w_reg ?_)))))
        refine wl_m (.tmp 3) (.bool false) ?_
        refine wl_un (fun v => Op.unary .not v) (.tmp 61) (.bool false) (.bool true) (fun _ => rfl) rfl (by kernel_rfl) rfl ?_
        refine w_nil (xn_then (w_condT rfl (w_seq (w_reg ?_))))
        refine wl_m (.const (.int .i64 (1))) (.int .i64 (1)) ?_
        refine w_nil (xn_then (w_ret (xr_then ?_)))
        exact w_ret1 _ (.int .i64 (1)) rfl rfl ⟨by simp [ckI, ckv, bareV, inB, isE, hf4p, hf5, hf6p] <;> omega, M⟩
      | false =>
       refine wl_b .eql 28 (.tmp 46) (.tmp 49) (.agg (x.cells).toArray) (.agg #[.int .i64 (4), .bool false, .int .u64 0, .int .u64 0, .int .u64 0, .int .u64 0, .int .i64 0, .bool false, .string ⟨#[]⟩, .int .i64 (x.e)]) (.bool false) (eqW hf5 _ _ _) ?_
       refine wl_m (.tmp 50) (.bool false) ?_
       refine wl_skip rfl (wl_skip rfl (wl_skip rfl ?_))
       refine wl_pick (.tmp 51) (.tmp 54) (.const (.bool false)) false (.bool false) (fun _ => rfl) rfl rfl rfl ?_
       refine wl_m (.tmp 55) (.bool false) ?_
       refine wl_skip rfl (wl_skip rfl (wl_skip rfl ?_))
       refine wl_pick (.tmp 56) (.tmp 59) (.const (.bool false)) false (.bool false) (fun _ => rfl) rfl rfl rfl ?_
       refine wl_m (.tmp 60) (.bool false) ?_
       refine w_nil (xn_blk (xn_then (w_seq (w_seq (w_reg ?_)))))
       refine wl_m (.tmp 3) (.bool false) ?_
       refine wl_un (fun v => Op.unary .not v) (.tmp 61) (.bool false) (.bool true) (fun _ => rfl) rfl (by kernel_rfl) rfl ?_
       refine w_nil (xn_then (w_condT rfl (w_seq (w_reg ?_))))
       refine wl_m (.const (.int .i64 (1))) (.int .i64 (1)) ?_
       refine w_nil (xn_then (w_ret (xr_then ?_)))
       exact w_ret1 _ (.int .i64 (1)) rfl rfl ⟨by simp [ckI, ckv, bareV, inB, isE, hf4p, hf5] <;> omega, M⟩
     | false =>
      have hf4p := of_decide_eq_false hf4
      refine wl_b .eql 3 (.tmp 5) (.const (.int .i64 (4))) (.int .i64 (x.k)) (.int .i64 (4)) (.bool false) (eq3 hf4 _ _ _) ?_
      refine wl_m (.tmp 45) (.bool false) ?_
      refine w_nil (xn_then (w_condF rfl (w_skip (xn_blk (xn_then (w_seq (w_seq (w_reg ?_))))))))
      refine wl_m (.tmp 3) (.bool false) ?_
      refine wl_un (fun v => Op.unary .not v) (.tmp 61) (.bool false) (.bool true) (fun _ => rfl) rfl (by kernel_rfl) rfl ?_
      refine w_nil (xn_then (w_condT rfl (w_seq (w_reg ?_))))
      refine wl_m (.const (.int .i64 (1))) (.int .i64 (1)) ?_
      refine w_nil (xn_then (w_ret (xr_then ?_)))
      exact w_ret1 _ (.int .i64 (1)) rfl rfl ⟨by simp [ckI, ckv, bareV, inB, svv_bl, hf0p, hf1p, hf2p, hf3p, hf4p] <;> omega, M⟩
theorem rcheck_t {x : VL} (hc : ckv x = true) (hx : x.ok) (w : World) : Calls Tryz.prog 14 #[x.v] w fun e9 w' => e9 = .returned (.int .i64 0) ∧ Mo w w' := by
 have q := rchk_n x w hx
 unfold ckI at q
 rw [hc] at q
 exact q
theorem rcheck_f {x : VL} (hc : ckv x = false) (hx : x.ok) (w : World) : Calls Tryz.prog 14 #[x.v] w fun e9 w' => e9 = .returned (.int .i64 1) ∧ Mo w w' := by
 have q := rchk_n x w hx
 unfold ckI at q
 rw [hc] at q
 exact q
theorem rbad_n (e : Int) (w : World) : Calls Tryz.prog 16 #[.int .i64 e] w fun e9 w' => e9 = .returned (vBad e).v ∧ Mo w w' := by
 refine w_enter 11 Tryz.func16 Tryz.ntmps16 rfl rfl ?_
 have M : Mo w w := Mo.refl _
 refine w_seq (w_reg ?_)
 refine wl_alloc 28 #[.int .i64 0, .bool false, .int .u64 0, .int .u64 0, .int .u64 0, .int .u64 0, .int .i64 0, .bool false, .string ⟨#[]⟩, .int .i64 0] rfl (fun _ => by kernel_rfl) rfl ?_
 intro k1 u1 hk hz hq Q1
 have N_k1 : w.heap.size ≤ k1 := by have := M.size; omega
 replace M := M.trans hq
 clear hk hz hq
 refine w_nil (xn_then (w_seq (w_seq (w_reg ?_))))
 refine wl_m (.tmp 0) (.int .i64 (e)) ?_
 cases hf0 : decide (e < 1) with
 | true =>
  have hf0p := of_decide_eq_true hf0
  refine wl_b .lss 3 (.tmp 3) (.const (.int .i64 (1))) (.int .i64 (e)) (.int .i64 (1)) (.bool true) (lt3 hf0 _ _ _) ?_
  refine wl_m (.tmp 4) (.bool true) ?_
  refine wl_skip rfl (wl_skip rfl ?_)
  refine wl_pick (.tmp 5) (.const (.bool true)) (.tmp 7) true (.bool true) (fun _ => rfl) rfl rfl rfl ?_
  refine w_nil (xn_then (w_condT rfl (w_reg ?_)))
  refine wl_m (.const (.int .i64 (2))) (.int .i64 (2)) ?_
  refine w_nil (xn_then (w_seq (w_reg ?_)))
  refine wl_m (.tmp 0) (.int .i64 (2)) ?_
  refine wl_build 28 [(0, (.const (.int .i64 (4)))), (4, (.tmp 9))] [(0, .int .i64 (4)), (4, .int .i64 (2))] (.agg #[.int .i64 (4), .bool false, .int .u64 0, .int .u64 0, .int .u64 0, .int .u64 0, .int .i64 0, .bool false, .string ⟨#[]⟩, .int .i64 (2)]) rfl rfl (by kernel_rfl) rfl ?_
  refine wl_st 28 (.tmp 2) (.tmp 10) k1 0 #[.int .i64 (4), .bool false, .int .u64 0, .int .u64 0, .int .u64 0, .int .u64 0, .int .i64 0, .bool false, .string ⟨#[]⟩, .int .i64 (2)] _ [.int .i64 (4), .bool false, .int .u64 0, .int .u64 0, .int .u64 0, .int .u64 0, .int .i64 0, .bool false, .string ⟨#[]⟩, .int .i64 (2)] Q1 rfl rfl rfl rfl rfl sz28 rfl rfl rfl ?_
  intro u2 hS Qn
  replace Q1 := Qn
  clear Qn
  replace M := hS.mo _ N_k1 M
  clear hS
  refine w_nil (xn_then (w_ret ?_))
  exact w_ret1 _ (.agg #[.int .i64 (4), .bool false, .int .u64 0, .int .u64 0, .int .u64 0, .int .u64 0, .int .i64 0, .bool false, .string ⟨#[]⟩, .int .i64 (2)]) rfl ⟨k1, rfl, (run_row Q1 28 0 10 _ rfl Tryz.underlying28 rfl sz28)⟩ ⟨vrt (x := (vEr 2)) rfl (by have q : isE e = false := (by simp [isE] <;> omega); simp [vBad, q]), M⟩
 | false =>
  have hf0p := of_decide_eq_false hf0
  refine wl_b .lss 3 (.tmp 3) (.const (.int .i64 (1))) (.int .i64 (e)) (.int .i64 (1)) (.bool false) (lt3 hf0 _ _ _) ?_
  refine wl_m (.tmp 4) (.bool false) ?_
  refine wl_m (.tmp 0) (.int .i64 (e)) ?_
  cases hf1 : decide (5 < e) with
  | true =>
   have hf1p := of_decide_eq_true hf1
   refine wl_b .gtr 3 (.tmp 6) (.const (.int .i64 (5))) (.int .i64 (e)) (.int .i64 (5)) (.bool true) (gt3 hf1 _ _ _) ?_
   refine wl_pick (.tmp 5) (.const (.bool true)) (.tmp 7) false (.bool true) (fun _ => rfl) rfl rfl rfl ?_
   refine w_nil (xn_then (w_condT rfl (w_reg ?_)))
   refine wl_m (.const (.int .i64 (2))) (.int .i64 (2)) ?_
   refine w_nil (xn_then (w_seq (w_reg ?_)))
   refine wl_m (.tmp 0) (.int .i64 (2)) ?_
   refine wl_build 28 [(0, (.const (.int .i64 (4)))), (4, (.tmp 9))] [(0, .int .i64 (4)), (4, .int .i64 (2))] (.agg #[.int .i64 (4), .bool false, .int .u64 0, .int .u64 0, .int .u64 0, .int .u64 0, .int .i64 0, .bool false, .string ⟨#[]⟩, .int .i64 (2)]) rfl rfl (by kernel_rfl) rfl ?_
   refine wl_st 28 (.tmp 2) (.tmp 10) k1 0 #[.int .i64 (4), .bool false, .int .u64 0, .int .u64 0, .int .u64 0, .int .u64 0, .int .i64 0, .bool false, .string ⟨#[]⟩, .int .i64 (2)] _ [.int .i64 (4), .bool false, .int .u64 0, .int .u64 0, .int .u64 0, .int .u64 0, .int .i64 0, .bool false, .string ⟨#[]⟩, .int .i64 (2)] Q1 rfl rfl rfl rfl rfl sz28 rfl rfl rfl ?_
   intro u2 hS Qn
   replace Q1 := Qn
   clear Qn
   replace M := hS.mo _ N_k1 M
   clear hS
   refine w_nil (xn_then (w_ret ?_))
   exact w_ret1 _ (.agg #[.int .i64 (4), .bool false, .int .u64 0, .int .u64 0, .int .u64 0, .int .u64 0, .int .i64 0, .bool false, .string ⟨#[]⟩, .int .i64 (2)]) rfl ⟨k1, rfl, (run_row Q1 28 0 10 _ rfl Tryz.underlying28 rfl sz28)⟩ ⟨vrt (x := (vEr 2)) rfl (by have q : isE e = false := (by simp [isE] <;> omega); simp [vBad, q]), M⟩
  | false =>
   have hf1p := of_decide_eq_false hf1
   refine wl_b .gtr 3 (.tmp 6) (.const (.int .i64 (5))) (.int .i64 (e)) (.int .i64 (5)) (.bool false) (gt3 hf1 _ _ _) ?_
   refine wl_pick (.tmp 5) (.const (.bool true)) (.tmp 7) false (.bool false) (fun _ => rfl) rfl rfl rfl ?_
   refine w_nil (xn_then (w_condF rfl (w_skip (xn_then (w_seq (w_reg ?_))))))
   refine wl_m (.tmp 0) (.int .i64 (e)) ?_
   refine wl_build 28 [(0, (.const (.int .i64 (4)))), (4, (.tmp 9))] [(0, .int .i64 (4)), (4, .int .i64 (e))] (.agg #[.int .i64 (4), .bool false, .int .u64 0, .int .u64 0, .int .u64 0, .int .u64 0, .int .i64 0, .bool false, .string ⟨#[]⟩, .int .i64 (e)]) rfl rfl (by kernel_rfl) rfl ?_
   refine wl_st 28 (.tmp 2) (.tmp 10) k1 0 #[.int .i64 (4), .bool false, .int .u64 0, .int .u64 0, .int .u64 0, .int .u64 0, .int .i64 0, .bool false, .string ⟨#[]⟩, .int .i64 (e)] _ [.int .i64 (4), .bool false, .int .u64 0, .int .u64 0, .int .u64 0, .int .u64 0, .int .i64 0, .bool false, .string ⟨#[]⟩, .int .i64 (e)] Q1 rfl rfl rfl rfl rfl sz28 rfl rfl rfl ?_
   intro u2 hS Qn
   replace Q1 := Qn
   clear Qn
   replace M := hS.mo _ N_k1 M
   clear hS
   refine w_nil (xn_then (w_ret ?_))
   exact w_ret1 _ (.agg #[.int .i64 (4), .bool false, .int .u64 0, .int .u64 0, .int .u64 0, .int .u64 0, .int .i64 0, .bool false, .string ⟨#[]⟩, .int .i64 (e)]) rfl ⟨k1, rfl, (run_row Q1 28 0 10 _ rfl Tryz.underlying28 rfl sz28)⟩ ⟨vrt (x := (vEr e)) rfl (by have q : isE e = true := (by simp [isE] <;> omega); simp [vBad, q]), M⟩
theorem may_n (x : VL) (w : World) (hx : x.ok) : Calls Tryz.prog 50 #[x.v] w fun e9 w' => e9 = .returned (mayV x).v ∧ Mo w w' := by
 refine w_enter 8 Tryz.func50 Tryz.ntmps50 rfl rfl ?_
 have M : Mo w w := Mo.refl _
 refine w_seq (w_reg ?_)
 refine wl_box 28 (.tmp 0) _ (((x.cells).toArray)) rfl rfl (fun _ => by kernel_rfl) rfl ?_
 intro k1 u1 hk hz hq Q1
 have N_k1 : w.heap.size ≤ k1 := by have := M.size; omega
 replace M := M.trans hq
 clear hk hz hq
 refine wl_alloc 28 #[.int .i64 0, .bool false, .int .u64 0, .int .u64 0, .int .u64 0, .int .u64 0, .int .i64 0, .bool false, .string ⟨#[]⟩, .int .i64 0] rfl (fun _ => by kernel_rfl) rfl ?_
 intro k2 u2 hk hz hq Q2
 have ne_k1_k2 : k1 ≠ k2 := by have := Q1.lt; omega
 have N_k2 : w.heap.size ≤ k2 := by have := M.size; omega
 replace Q1 := Q1.mo hq
 replace M := M.trans hq
 clear hk hz hq
 refine w_nil (xn_then (w_seq (w_seq (w_reg ?_))))
 refine wl_l 28 (.tmp 1) (pt k1 0) (.agg (x.cells).toArray) (run_row Q1 28 0 10 (x.cells) rfl Tryz.underlying28 rfl sz28) ?_
 cases hf0 : ckv x with
 | true =>
  refine wl_call 14 [(.tmp 3)] _ [.agg (x.cells).toArray] (.int .i64 (0)) rfl rfl (fun _ _ => by kernel_rfl) (rcheck_t hf0 hx _) rfl ?_
  intro u3 hq
  replace Q1 := Q1.mo hq
  replace Q2 := Q2.mo hq
  replace M := M.trans hq
  clear hq
  refine wl_b .neq 32 (.tmp 4) (.const (.int .i64 (0))) (.int .i64 (0)) (.int .i64 (0)) (.bool false) (ne34 (r := true) rfl _ _ _) ?_
  refine w_nil (xn_then (w_condF rfl (w_skip (xn_then (w_seq (w_reg ?_))))))
  refine wl_l 28 (.tmp 1) (pt k1 0) (.agg (x.cells).toArray) (run_row Q1 28 0 10 (x.cells) rfl Tryz.underlying28 rfl sz28) ?_
  refine wl_st 28 (.tmp 2) (.tmp 7) k2 0 ((x.cells).toArray) _ (x.cells) Q2 rfl rfl rfl rfl rfl sz28 rfl rfl rfl ?_
  intro u4 hS Qn
  replace Q2 := Qn
  clear Qn
  replace Q1 := hS.other _ _ ne_k1_k2 Q1
  replace M := hS.mo _ N_k2 M
  clear hS
  refine w_nil (xn_then (w_ret ?_))
  exact w_ret1 _ (.agg (x.cells).toArray) rfl ⟨k2, rfl, (run_row Q2 28 0 10 (x.cells) rfl Tryz.underlying28 rfl sz28)⟩ ⟨vrt (x := x) rfl (by simp [mayV, hf0]), M⟩
 | false =>
  refine wl_call 14 [(.tmp 3)] _ [.agg (x.cells).toArray] (.int .i64 (1)) rfl rfl (fun _ _ => by kernel_rfl) (rcheck_f hf0 hx _) rfl ?_
  intro u3 hq
  replace Q1 := Q1.mo hq
  replace Q2 := Q2.mo hq
  replace M := M.trans hq
  clear hq
  refine wl_b .neq 32 (.tmp 4) (.const (.int .i64 (0))) (.int .i64 (1)) (.int .i64 (0)) (.bool true) (ne34 (r := false) rfl _ _ _) ?_
  refine w_nil (xn_then (w_condT rfl (w_seq (w_reg ?_))))
  refine wl_call 16 [(.const (.int .i64 (2)))] _ [.int .i64 (2)] (.agg ((vBad (2)).cells).toArray) rfl rfl (fun _ _ => by kernel_rfl) (rbad_n (2) _) rfl ?_
  intro u4 hq
  replace Q1 := Q1.mo hq
  replace Q2 := Q2.mo hq
  replace M := M.trans hq
  clear hq
  refine wl_st 28 (.tmp 2) (.tmp 6) k2 0 (((vBad (2)).cells).toArray) _ ((vBad (2)).cells) Q2 rfl rfl rfl rfl rfl sz28 rfl rfl rfl ?_
  intro u5 hS Qn
  replace Q2 := Qn
  clear Qn
  replace Q1 := hS.other _ _ ne_k1_k2 Q1
  replace M := hS.mo _ N_k2 M
  clear hS
  refine w_nil (xn_then (w_ret (xr_then ?_)))
  exact w_ret1 _ (.agg ((vBad (2)).cells).toArray) rfl ⟨k2, rfl, (run_row Q2 28 0 10 ((vBad (2)).cells) rfl Tryz.underlying28 rfl sz28)⟩ ⟨vrt (x := (vBad (2))) rfl (by simp [mayV, hf0]), M⟩
def askedV (x : VL) : VL := if (mayV x).k = 0 then vBad 3 else mayV x
theorem asked_e {x : VL} (hx : x.ok) : askedV x = if ask x = 0 then x else vEr (ask x) := by
 unfold askedV mayV ask
 cases hc : ckv x with
 | false => rfl
 | true =>
  by_cases h4 : x.k = 4
  ·obtain ⟨g1, g2⟩ := ckv_err hx hc h4
   have g3 : x.e ≠ 0 := fun h => by rw [h] at g2; exact absurd g2 (by decide)
   simp only [h4, if_pos, if_neg g3]
   exact g1
  ·by_cases h0 : x.k = 0
   ·simp [h0]; rfl
   ·simp [h0, h4]
theorem asked_n (x : VL) (w : World) (hx : x.ok) : Calls Tryz.prog 35 #[x.v] w fun e9 w' => e9 = .returned (askedV x).v ∧ Mo w w' := by
 refine w_enter 10 Tryz.func35 Tryz.ntmps35 rfl rfl ?_
 have M : Mo w w := Mo.refl _
 refine w_seq (w_reg ?_)
 refine wl_box 28 (.tmp 0) _ (((x.cells).toArray)) rfl rfl (fun _ => by kernel_rfl) rfl ?_
 intro k1 u1 hk hz hq Q1
 have N_k1 : w.heap.size ≤ k1 := by have := M.size; omega
 replace M := M.trans hq
 clear hk hz hq
 refine wl_alloc 28 #[.int .i64 0, .bool false, .int .u64 0, .int .u64 0, .int .u64 0, .int .u64 0, .int .i64 0, .bool false, .string ⟨#[]⟩, .int .i64 0] rfl (fun _ => by kernel_rfl) rfl ?_
 intro k2 u2 hk hz hq Q2
 have ne_k1_k2 : k1 ≠ k2 := by have := Q1.lt; omega
 have N_k2 : w.heap.size ≤ k2 := by have := M.size; omega
 replace Q1 := Q1.mo hq
 replace M := M.trans hq
 clear hk hz hq
 refine w_nil (xn_then (w_seq (w_reg ?_)))
 refine wl_l 28 (.tmp 1) (pt k1 0) (.agg (x.cells).toArray) (run_row Q1 28 0 10 (x.cells) rfl Tryz.underlying28 rfl sz28) ?_
 refine wl_call 50 [(.tmp 3)] _ [.agg (x.cells).toArray] (.agg ((mayV x).cells).toArray) rfl rfl (fun _ _ => by kernel_rfl) (may_n x _ hx) rfl ?_
 intro u3 hq
 replace Q1 := Q1.mo hq
 replace Q2 := Q2.mo hq
 replace M := M.trans hq
 clear hq
 refine wl_st 28 (.tmp 1) (.tmp 4) k1 0 (((mayV x).cells).toArray) (x.cells) ((mayV x).cells) Q1 rfl rfl rfl rfl rfl sz28 rfl rfl rfl ?_
 intro u4 hS Qn
 replace Q1 := Qn
 clear Qn
 replace Q2 := hS.other _ _ ne_k1_k2.symm Q2
 replace M := hS.mo _ N_k1 M
 clear hS
 refine w_nil (xn_then (w_seq (w_seq (w_reg ?_))))
 refine wl_f 28 0 (.tmp 1) (pt k1 0) (pt k1 0) ?_
 refine wl_l 3 (.tmp 5) (pt k1 0) (.int .i64 ((mayV x).k)) (run_one Q1 3 0 rfl Tryz.underlying3 rfl) ?_
 cases hf0 : decide ((mayV x).k = 0) with
 | true =>
  have hf0p := of_decide_eq_true hf0
  refine wl_b .eql 3 (.tmp 6) (.const (.int .i64 (0))) (.int .i64 ((mayV x).k)) (.int .i64 (0)) (.bool true) (eq3 hf0 _ _ _) ?_
  refine w_nil (xn_then (w_condT rfl (w_seq (w_reg ?_))))
  refine wl_call 16 [(.const (.int .i64 (3)))] _ [.int .i64 (3)] (.agg ((vBad (3)).cells).toArray) rfl rfl (fun _ _ => by kernel_rfl) (rbad_n (3) _) rfl ?_
  intro u5 hq
  replace Q1 := Q1.mo hq
  replace Q2 := Q2.mo hq
  replace M := M.trans hq
  clear hq
  refine wl_st 28 (.tmp 2) (.tmp 8) k2 0 (((vBad (3)).cells).toArray) _ ((vBad (3)).cells) Q2 rfl rfl rfl rfl rfl sz28 rfl rfl rfl ?_
  intro u6 hS Qn
  replace Q2 := Qn
  clear Qn
  replace Q1 := hS.other _ _ ne_k1_k2 Q1
  replace M := hS.mo _ N_k2 M
  clear hS
  refine w_nil (xn_then (w_ret (xr_then ?_)))
  exact w_ret1 _ (.agg ((vBad (3)).cells).toArray) rfl ⟨k2, rfl, (run_row Q2 28 0 10 ((vBad (3)).cells) rfl Tryz.underlying28 rfl sz28)⟩ ⟨vrt (x := (vBad (3))) rfl (by simp [askedV, hf0p]), M⟩
 | false =>
  have hf0p := of_decide_eq_false hf0
  refine wl_b .eql 3 (.tmp 6) (.const (.int .i64 (0))) (.int .i64 ((mayV x).k)) (.int .i64 (0)) (.bool false) (eq3 hf0 _ _ _) ?_
  refine w_nil (xn_then (w_condF rfl (w_skip (xn_then (w_seq (w_reg ?_))))))
  refine wl_l 28 (.tmp 1) (pt k1 0) (.agg ((mayV x).cells).toArray) (run_row Q1 28 0 10 ((mayV x).cells) rfl Tryz.underlying28 rfl sz28) ?_
  refine wl_st 28 (.tmp 2) (.tmp 9) k2 0 (((mayV x).cells).toArray) _ ((mayV x).cells) Q2 rfl rfl rfl rfl rfl sz28 rfl rfl rfl ?_
  intro u5 hS Qn
  replace Q2 := Qn
  clear Qn
  replace Q1 := hS.other _ _ ne_k1_k2 Q1
  replace M := hS.mo _ N_k2 M
  clear hS
  refine w_nil (xn_then (w_ret ?_))
  exact w_ret1 _ (.agg ((mayV x).cells).toArray) rfl ⟨k2, rfl, (run_row Q2 28 0 10 ((mayV x).cells) rfl Tryz.underlying28 rfl sz28)⟩ ⟨vrt (x := (mayV x)) rfl (by simp [askedV, hf0p]), M⟩
theorem asked_0 {x : VL} (h : ask x = 0) (hx : x.ok) (w : World) : Calls Tryz.prog 35 #[x.v] w fun e9 w' => e9 = .returned x.v ∧ Mo w w' := by
 have q := asked_n x w hx
 rw [asked_e hx, if_pos h] at q
 exact q
theorem asked_1 {x : VL} (h : ¬ ask x = 0) (hx : x.ok) (w : World) : Calls Tryz.prog 35 #[x.v] w fun e9 w' => e9 = .returned (vEr (ask x)).v ∧ Mo w w' := by
 have q := asked_n x w hx
 rw [asked_e hx, if_neg h] at q
 exact q
def oneV (k : Int) (x : VL) : VL := if askK k x = 0 then x else vEr (askK k x)
theorem oneK_n (k : Int) (x : VL) (w : World) (hx : x.ok) : Calls Tryz.prog 47 #[x.v, .int .i64 k] w fun e9 w' => e9 = .returned (oneV k x).v ∧ Mo w w' := by
 refine w_enter 18 Tryz.func47 Tryz.ntmps47 rfl rfl ?_
 have M : Mo w w := Mo.refl _
 refine w_seq (w_reg ?_)
 refine wl_box 28 (.tmp 0) _ (((x.cells).toArray)) rfl rfl (fun _ => by kernel_rfl) rfl ?_
 intro k1 u1 hk hz hq Q1
 have N_k1 : w.heap.size ≤ k1 := by have := M.size; omega
 replace M := M.trans hq
 clear hk hz hq
 refine wl_alloc 28 #[.int .i64 0, .bool false, .int .u64 0, .int .u64 0, .int .u64 0, .int .u64 0, .int .i64 0, .bool false, .string ⟨#[]⟩, .int .i64 0] rfl (fun _ => by kernel_rfl) rfl ?_
 intro k2 u2 hk hz hq Q2
 have ne_k1_k2 : k1 ≠ k2 := by have := Q1.lt; omega
 have N_k2 : w.heap.size ≤ k2 := by have := M.size; omega
 replace Q1 := Q1.mo hq
 replace M := M.trans hq
 clear hk hz hq
 refine w_nil (xn_then (w_seq (w_reg ?_)))
 refine wl_l 28 (.tmp 2) (pt k1 0) (.agg (x.cells).toArray) (run_row Q1 28 0 10 (x.cells) rfl Tryz.underlying28 rfl sz28) ?_
 cases hf0 : decide (ask x = 0) with
 | true =>
  have hf0p := of_decide_eq_true hf0
  refine wl_call 35 [(.tmp 5)] _ [.agg (x.cells).toArray] (.agg (x.cells).toArray) rfl rfl (fun _ _ => by kernel_rfl) (asked_0 hf0p hx _) rfl ?_
  intro u3 hq
  replace Q1 := Q1.mo hq
  replace Q2 := Q2.mo hq
  replace M := M.trans hq
  clear hq
  refine wl_st 28 (.tmp 2) (.tmp 6) k1 0 ((x.cells).toArray) (x.cells) (x.cells) Q1 rfl rfl rfl rfl rfl sz28 rfl rfl rfl ?_
  intro u4 hS Qn
  replace Q1 := Qn
  clear Qn
  replace Q2 := hS.other _ _ ne_k1_k2.symm Q2
  replace M := hS.mo _ N_k1 M
  clear hS
  refine w_nil (xn_then (w_seq (w_seq (w_reg ?_))))
  refine wl_f 28 0 (.tmp 2) (pt k1 0) (pt k1 0) ?_
  refine wl_l 3 (.tmp 7) (pt k1 0) (.int .i64 (x.k)) (run_one Q1 3 0 rfl Tryz.underlying3 rfl) ?_
  refine wl_b .neq 3 (.tmp 8) (.const (.int .i64 (4))) (.int .i64 (x.k)) (.int .i64 (4)) (.bool true) (ne3 (decide_eq_false (ask_0 hx hf0p).2.1) _ _ _) ?_
  refine wl_m (.tmp 9) (.bool true) ?_
  refine wl_f 28 0 (.tmp 2) (pt k1 0) (pt k1 0) ?_
  refine wl_l 3 (.tmp 11) (pt k1 0) (.int .i64 (x.k)) (run_one Q1 3 0 rfl Tryz.underlying3 rfl) ?_
  refine wl_m (.tmp 1) (.int .i64 (k)) ?_
  cases hf1 : decide (x.k = k) with
  | true =>
   have hf1p := of_decide_eq_true hf1
   refine wl_b .neq 3 (.tmp 12) (.tmp 13) (.int .i64 (x.k)) (.int .i64 (k)) (.bool false) (ne3 hf1 _ _ _) ?_
   refine wl_pick (.tmp 10) (.tmp 14) (.const (.bool false)) true (.bool false) (fun _ => rfl) rfl rfl rfl ?_
   refine w_nil (xn_then (w_condF rfl (w_skip (xn_then (w_seq (w_reg ?_))))))
   refine wl_l 28 (.tmp 2) (pt k1 0) (.agg (x.cells).toArray) (run_row Q1 28 0 10 (x.cells) rfl Tryz.underlying28 rfl sz28) ?_
   refine wl_st 28 (.tmp 4) (.tmp 17) k2 0 ((x.cells).toArray) _ (x.cells) Q2 rfl rfl rfl rfl rfl sz28 rfl rfl rfl ?_
   intro u5 hS Qn
   replace Q2 := Qn
   clear Qn
   replace Q1 := hS.other _ _ ne_k1_k2 Q1
   replace M := hS.mo _ N_k2 M
   clear hS
   refine w_nil (xn_then (w_ret ?_))
   exact w_ret1 _ (.agg (x.cells).toArray) rfl ⟨k2, rfl, (run_row Q2 28 0 10 (x.cells) rfl Tryz.underlying28 rfl sz28)⟩ ⟨vrt (x := x) rfl (by simp [oneV, askK, hf0p, hf1p]), M⟩
  | false =>
   have hf1p := of_decide_eq_false hf1
   refine wl_b .neq 3 (.tmp 12) (.tmp 13) (.int .i64 (x.k)) (.int .i64 (k)) (.bool true) (ne3 hf1 _ _ _) ?_
   refine wl_pick (.tmp 10) (.tmp 14) (.const (.bool false)) true (.bool true) (fun _ => rfl) rfl rfl rfl ?_
   refine w_nil (xn_then (w_condT rfl (w_seq (w_reg ?_))))
   refine wl_call 16 [(.const (.int .i64 (2)))] _ [.int .i64 (2)] (.agg ((vBad (2)).cells).toArray) rfl rfl (fun _ _ => by kernel_rfl) (rbad_n (2) _) rfl ?_
   intro u5 hq
   replace Q1 := Q1.mo hq
   replace Q2 := Q2.mo hq
   replace M := M.trans hq
   clear hq
   refine wl_st 28 (.tmp 4) (.tmp 16) k2 0 (((vBad (2)).cells).toArray) _ ((vBad (2)).cells) Q2 rfl rfl rfl rfl rfl sz28 rfl rfl rfl ?_
   intro u6 hS Qn
   replace Q2 := Qn
   clear Qn
   replace Q1 := hS.other _ _ ne_k1_k2 Q1
   replace M := hS.mo _ N_k2 M
   clear hS
   refine w_nil (xn_then (w_ret (xr_then ?_)))
   exact w_ret1 _ (.agg ((vBad (2)).cells).toArray) rfl ⟨k2, rfl, (run_row Q2 28 0 10 ((vBad (2)).cells) rfl Tryz.underlying28 rfl sz28)⟩ ⟨vrt (x := (vBad (2))) rfl (by simp [oneV, askK, vBad, isE, hf0p, hf1p]), M⟩
 | false =>
  have hf0p := of_decide_eq_false hf0
  refine wl_call 35 [(.tmp 5)] _ [.agg (x.cells).toArray] (.agg ((vEr (ask x)).cells).toArray) rfl rfl (fun _ _ => by kernel_rfl) (asked_1 hf0p hx _) rfl ?_
  intro u3 hq
  replace Q1 := Q1.mo hq
  replace Q2 := Q2.mo hq
  replace M := M.trans hq
  clear hq
  refine wl_st 28 (.tmp 2) (.tmp 6) k1 0 (((vEr (ask x)).cells).toArray) (x.cells) ((vEr (ask x)).cells) Q1 rfl rfl rfl rfl rfl sz28 rfl rfl rfl ?_
  intro u4 hS Qn
  replace Q1 := Qn
  clear Qn
  replace Q2 := hS.other _ _ ne_k1_k2.symm Q2
  replace M := hS.mo _ N_k1 M
  clear hS
  refine w_nil (xn_then (w_seq (w_seq (w_reg ?_))))
  refine wl_f 28 0 (.tmp 2) (pt k1 0) (pt k1 0) ?_
  refine wl_l 3 (.tmp 7) (pt k1 0) (.int .i64 ((vEr (ask x)).k)) (run_one Q1 3 0 rfl Tryz.underlying3 rfl) ?_
  refine wl_b .neq 3 (.tmp 8) (.const (.int .i64 (4))) (.int .i64 ((vEr (ask x)).k)) (.int .i64 (4)) (.bool false) (ne3 rfl _ _ _) ?_
  refine wl_m (.tmp 9) (.bool false) ?_
  refine wl_skip rfl (wl_skip rfl (wl_skip rfl (wl_skip rfl ?_)))
  refine wl_pick (.tmp 10) (.tmp 14) (.const (.bool false)) false (.bool false) (fun _ => rfl) rfl rfl rfl ?_
  refine w_nil (xn_then (w_condF rfl (w_skip (xn_then (w_seq (w_reg ?_))))))
  refine wl_l 28 (.tmp 2) (pt k1 0) (.agg ((vEr (ask x)).cells).toArray) (run_row Q1 28 0 10 ((vEr (ask x)).cells) rfl Tryz.underlying28 rfl sz28) ?_
  refine wl_st 28 (.tmp 4) (.tmp 17) k2 0 (((vEr (ask x)).cells).toArray) _ ((vEr (ask x)).cells) Q2 rfl rfl rfl rfl rfl sz28 rfl rfl rfl ?_
  intro u5 hS Qn
  replace Q2 := Qn
  clear Qn
  replace Q1 := hS.other _ _ ne_k1_k2 Q1
  replace M := hS.mo _ N_k2 M
  clear hS
  refine w_nil (xn_then (w_ret ?_))
  exact w_ret1 _ (.agg ((vEr (ask x)).cells).toArray) rfl ⟨k2, rfl, (run_row Q2 28 0 10 ((vEr (ask x)).cells) rfl Tryz.underlying28 rfl sz28)⟩ ⟨vrt (x := (vEr (ask x))) rfl (by simp [oneV, askK, hf0p]), M⟩
theorem one_0 {k : Int} {x : VL} (h : askK k x = 0) (hx : x.ok) (w : World) : Calls Tryz.prog 47 #[x.v, .int .i64 k] w fun e9 w' => e9 = .returned x.v ∧ Mo w w' := by
 have q := oneK_n k x w hx
 unfold oneV at q
 rw [if_pos h] at q
 exact q
theorem one_1 {k : Int} {x : VL} (h : ¬ askK k x = 0) (hx : x.ok) (w : World) : Calls Tryz.prog 47 #[x.v, .int .i64 k] w fun e9 w' => e9 = .returned (vEr (askK k x)).v ∧ Mo w w' := by
 have q := oneK_n k x w hx
 unfold oneV at q
 rw [if_neg h] at q
 exact q
end Go.Proofs.YtogomodbcjpfiaaGreatDoor
namespace Go.Proofs.YtogomodbcjpfiaaGreatDoor
open Go.RowKit
theorem badK {k : Int} {x : VL} (hx : x.ok) (h : ¬ askK k x = 0) : vBad (askK k x) = vEr (askK k x) := by
 refine bad_of ?_
 unfold askK at h ⊢
 split
 next q =>
  rw [if_pos q] at h
  split
  next g => rw [if_pos g] at h; exact absurd rfl h
  next => rfl
 next q => exact ask_isE hx q
theorem rifV_n (c x y : VL) (w : World) (hc : c.ok) (hx : x.ok) (hy : y.ok) : Calls Tryz.prog 28 #[c.v, x.v, y.v] w fun e9 w' => e9 = .returned (ifV c x y).v ∧ Mo w w' := by
 refine w_enter 21 Tryz.func28 Tryz.ntmps28 rfl rfl ?_
 have M : Mo w w := Mo.refl _
 refine w_seq (w_reg ?_)
 refine wl_box 28 (.tmp 0) _ (((c.cells).toArray)) rfl rfl (fun _ => by kernel_rfl) rfl ?_
 intro k1 u1 hk hz hq Q1
 have N_k1 : w.heap.size ≤ k1 := by have := M.size; omega
 replace M := M.trans hq
 clear hk hz hq
 refine wl_box 28 (.tmp 1) _ (((x.cells).toArray)) rfl rfl (fun _ => by kernel_rfl) rfl ?_
 intro k2 u2 hk hz hq Q2
 have ne_k1_k2 : k1 ≠ k2 := by have := Q1.lt; omega
 have N_k2 : w.heap.size ≤ k2 := by have := M.size; omega
 replace Q1 := Q1.mo hq
 replace M := M.trans hq
 clear hk hz hq
 refine wl_box 28 (.tmp 2) _ (((y.cells).toArray)) rfl rfl (fun _ => by kernel_rfl) rfl ?_
 intro k3 u3 hk hz hq Q3
 have ne_k1_k3 : k1 ≠ k3 := by have := Q1.lt; omega
 have ne_k2_k3 : k2 ≠ k3 := by have := Q2.lt; omega
 have N_k3 : w.heap.size ≤ k3 := by have := M.size; omega
 replace Q1 := Q1.mo hq
 replace Q2 := Q2.mo hq
 replace M := M.trans hq
 clear hk hz hq
 refine wl_alloc 28 #[.int .i64 0, .bool false, .int .u64 0, .int .u64 0, .int .u64 0, .int .u64 0, .int .i64 0, .bool false, .string ⟨#[]⟩, .int .i64 0] rfl (fun _ => by kernel_rfl) rfl ?_
 intro k4 u4 hk hz hq Q4
 have ne_k1_k4 : k1 ≠ k4 := by have := Q1.lt; omega
 have ne_k2_k4 : k2 ≠ k4 := by have := Q2.lt; omega
 have ne_k3_k4 : k3 ≠ k4 := by have := Q3.lt; omega
 have N_k4 : w.heap.size ≤ k4 := by have := M.size; omega
 replace Q1 := Q1.mo hq
 replace Q2 := Q2.mo hq
 replace Q3 := Q3.mo hq
 replace M := M.trans hq
 clear hk hz hq
 refine w_nil (xn_then (w_seq (w_reg ?_)))
 refine wl_l 28 (.tmp 3) (pt k1 0) (.agg (c.cells).toArray) (run_row Q1 28 0 10 (c.cells) rfl Tryz.underlying28 rfl sz28) ?_
 cases hf0 : decide (askK (2) c = 0) with
 | true =>
  have hf0p := of_decide_eq_true hf0
  refine wl_call 47 [(.tmp 7), (.const (.int .i64 (2)))] _ [.agg (c.cells).toArray, .int .i64 (2)] (.agg (c.cells).toArray) rfl rfl (fun _ _ => by kernel_rfl) (one_0 hf0p hc _) rfl ?_
  intro u5 hq
  replace Q1 := Q1.mo hq
  replace Q2 := Q2.mo hq
  replace Q3 := Q3.mo hq
  replace Q4 := Q4.mo hq
  replace M := M.trans hq
  clear hq
  refine wl_st 28 (.tmp 3) (.tmp 8) k1 0 ((c.cells).toArray) (c.cells) (c.cells) Q1 rfl rfl rfl rfl rfl sz28 rfl rfl rfl ?_
  intro u6 hS Qn
  replace Q1 := Qn
  clear Qn
  replace Q2 := hS.other _ _ ne_k1_k2.symm Q2
  replace Q3 := hS.other _ _ ne_k1_k3.symm Q3
  replace Q4 := hS.other _ _ ne_k1_k4.symm Q4
  replace M := hS.mo _ N_k1 M
  clear hS
  refine w_nil (xn_then (w_seq (w_block (w_seq (w_reg ?_)))))
  refine wl_f 28 0 (.tmp 3) (pt k1 0) (pt k1 0) ?_
  refine wl_l 3 (.tmp 10) (pt k1 0) (.int .i64 (c.k)) (run_one Q1 3 0 rfl Tryz.underlying3 rfl) ?_
  refine wl_b .eql 3 (.tmp 11) (.const (.int .i64 (4))) (.int .i64 (c.k)) (.int .i64 (4)) (.bool false) (eq3 (decide_eq_false (ask_0 hc (askK_0 hf0p).1).2.1) _ _ _) ?_
  refine wl_m (.tmp 12) (.bool false) ?_
  refine w_nil (xn_then (w_condF rfl (w_seq (w_reg ?_))))
  refine wl_f 28 2 (.tmp 3) (pt k1 0) (pt k1 7) ?_
  refine wl_l 4 (.tmp 15) (pt k1 7) (.bool c.f) (run_one Q1 4 7 rfl Tryz.underlying4 rfl) ?_
  refine wl_m (.tmp 16) (.bool c.f) ?_
  refine w_nil (xn_then ?_)
  cases hf1 : c.f with
  | true =>
   refine w_condT rfl (w_seq (w_reg ?_))
   refine wl_l 28 (.tmp 4) (pt k2 0) (.agg (x.cells).toArray) (run_row Q2 28 0 10 (x.cells) rfl Tryz.underlying28 rfl sz28) ?_
   refine wl_call 50 [(.tmp 17)] _ [.agg (x.cells).toArray] (.agg ((mayV x).cells).toArray) rfl rfl (fun _ _ => by kernel_rfl) (may_n x _ hx) rfl ?_
   intro u7 hq
   replace Q1 := Q1.mo hq
   replace Q2 := Q2.mo hq
   replace Q3 := Q3.mo hq
   replace Q4 := Q4.mo hq
   replace M := M.trans hq
   clear hq
   refine wl_st 28 (.tmp 6) (.tmp 18) k4 0 (((mayV x).cells).toArray) _ ((mayV x).cells) Q4 rfl rfl rfl rfl rfl sz28 rfl rfl rfl ?_
   intro u8 hS Qn
   replace Q4 := Qn
   clear Qn
   replace Q1 := hS.other _ _ ne_k1_k4 Q1
   replace Q2 := hS.other _ _ ne_k2_k4 Q2
   replace Q3 := hS.other _ _ ne_k3_k4 Q3
   replace M := hS.mo _ N_k4 M
   clear hS
   refine w_nil (xn_then (w_ret (xr_blk (xr_then ?_))))
   exact w_ret1 _ (.agg ((mayV x).cells).toArray) rfl ⟨k4, rfl, (run_row Q4 28 0 10 ((mayV x).cells) rfl Tryz.underlying28 rfl sz28)⟩ ⟨vrt (x := (mayV x)) rfl (by first | (simp [ifV, hf0p, hf1]; done) | (simp [ifV, hf0p, hf1]; rw [badK hc (by assumption)])), M⟩
  | false =>
   refine w_condF rfl (w_skip (xn_blk (xn_then (w_seq (w_reg ?_)))))
   refine wl_l 28 (.tmp 5) (pt k3 0) (.agg (y.cells).toArray) (run_row Q3 28 0 10 (y.cells) rfl Tryz.underlying28 rfl sz28) ?_
   refine wl_call 50 [(.tmp 19)] _ [.agg (y.cells).toArray] (.agg ((mayV y).cells).toArray) rfl rfl (fun _ _ => by kernel_rfl) (may_n y _ hy) rfl ?_
   intro u7 hq
   replace Q1 := Q1.mo hq
   replace Q2 := Q2.mo hq
   replace Q3 := Q3.mo hq
   replace Q4 := Q4.mo hq
   replace M := M.trans hq
   clear hq
   refine wl_st 28 (.tmp 6) (.tmp 20) k4 0 (((mayV y).cells).toArray) _ ((mayV y).cells) Q4 rfl rfl rfl rfl rfl sz28 rfl rfl rfl ?_
   intro u8 hS Qn
   replace Q4 := Qn
   clear Qn
   replace Q1 := hS.other _ _ ne_k1_k4 Q1
   replace Q2 := hS.other _ _ ne_k2_k4 Q2
   replace Q3 := hS.other _ _ ne_k3_k4 Q3
   replace M := hS.mo _ N_k4 M
   clear hS
   refine w_nil (xn_then (w_ret ?_))
   exact w_ret1 _ (.agg ((mayV y).cells).toArray) rfl ⟨k4, rfl, (run_row Q4 28 0 10 ((mayV y).cells) rfl Tryz.underlying28 rfl sz28)⟩ ⟨vrt (x := (mayV y)) rfl (by first | (simp [ifV, hf0p, hf1]; done) | (simp [ifV, hf0p, hf1]; rw [badK hc (by assumption)])), M⟩
 | false =>
  have hf0p := of_decide_eq_false hf0
  refine wl_call 47 [(.tmp 7), (.const (.int .i64 (2)))] _ [.agg (c.cells).toArray, .int .i64 (2)] (.agg ((vEr (askK (2) c)).cells).toArray) rfl rfl (fun _ _ => by kernel_rfl) (one_1 hf0p hc _) rfl ?_
  intro u5 hq
  replace Q1 := Q1.mo hq
  replace Q2 := Q2.mo hq
  replace Q3 := Q3.mo hq
  replace Q4 := Q4.mo hq
  replace M := M.trans hq
  clear hq
  refine wl_st 28 (.tmp 3) (.tmp 8) k1 0 (((vEr (askK (2) c)).cells).toArray) (c.cells) ((vEr (askK (2) c)).cells) Q1 rfl rfl rfl rfl rfl sz28 rfl rfl rfl ?_
  intro u6 hS Qn
  replace Q1 := Qn
  clear Qn
  replace Q2 := hS.other _ _ ne_k1_k2.symm Q2
  replace Q3 := hS.other _ _ ne_k1_k3.symm Q3
  replace Q4 := hS.other _ _ ne_k1_k4.symm Q4
  replace M := hS.mo _ N_k1 M
  clear hS
  refine w_nil (xn_then (w_seq (w_block (w_seq (w_reg ?_)))))
  refine wl_f 28 0 (.tmp 3) (pt k1 0) (pt k1 0) ?_
  refine wl_l 3 (.tmp 10) (pt k1 0) (.int .i64 ((vEr (askK (2) c)).k)) (run_one Q1 3 0 rfl Tryz.underlying3 rfl) ?_
  refine wl_b .eql 3 (.tmp 11) (.const (.int .i64 (4))) (.int .i64 ((vEr (askK (2) c)).k)) (.int .i64 (4)) (.bool true) (eq3 rfl _ _ _) ?_
  refine wl_m (.tmp 12) (.bool true) ?_
  refine w_nil (xn_then (w_condT rfl (w_seq (w_reg ?_))))
  refine wl_l 28 (.tmp 3) (pt k1 0) (.agg ((vEr (askK (2) c)).cells).toArray) (run_row Q1 28 0 10 ((vEr (askK (2) c)).cells) rfl Tryz.underlying28 rfl sz28) ?_
  refine wl_st 28 (.tmp 6) (.tmp 13) k4 0 (((vEr (askK (2) c)).cells).toArray) _ ((vEr (askK (2) c)).cells) Q4 rfl rfl rfl rfl rfl sz28 rfl rfl rfl ?_
  intro u7 hS Qn
  replace Q4 := Qn
  clear Qn
  replace Q1 := hS.other _ _ ne_k1_k4 Q1
  replace Q2 := hS.other _ _ ne_k2_k4 Q2
  replace Q3 := hS.other _ _ ne_k3_k4 Q3
  replace M := hS.mo _ N_k4 M
  clear hS
  refine w_nil (xn_then (w_ret (xr_blk (xr_then ?_))))
  exact w_ret1 _ (.agg ((vEr (askK (2) c)).cells).toArray) rfl ⟨k4, rfl, (run_row Q4 28 0 10 ((vEr (askK (2) c)).cells) rfl Tryz.underlying28 rfl sz28)⟩ ⟨vrt (x := (vEr (askK (2) c))) rfl (by first | (simp [ifV, hf0p]; done) | (simp [ifV, hf0p]; rw [badK hc (by assumption)])), M⟩
end Go.Proofs.YtogomodbcjpfiaaGreatDoor
namespace Go.Proofs.YtogomodbcjpfiaaGreatDoor.V
open Go.RowKit
theorem if_law (c x y : VL) (w : World) (hc : c.ok) (hx : x.ok) (hy : y.ok) : Calls Tryz.prog 5 #[c.v, x.v, y.v] w fun e9 w' => e9 = .returned (.bool true) ∧ Mw w w' := by
 refine w_enter 19 Tryz.func5 Tryz.ntmps5 rfl rfl ?_
 have M : Mw w w := Mw.refl _
 refine w_seq (w_reg ?_)
 refine wl_box 28 (.tmp 0) _ (((c.cells).toArray)) rfl rfl (fun _ => by kernel_rfl) rfl ?_
 intro k1 u1 hk hz hq Q1
 have N_k1 : w.heap.size ≤ k1 := by have := M.size; omega
 replace M := M.trans hq
 clear hk hz hq
 refine wl_box 28 (.tmp 1) _ (((x.cells).toArray)) rfl rfl (fun _ => by kernel_rfl) rfl ?_
 intro k2 u2 hk hz hq Q2
 have ne_k1_k2 : k1 ≠ k2 := by have := Q1.lt; omega
 have N_k2 : w.heap.size ≤ k2 := by have := M.size; omega
 replace Q1 := Q1.mo hq
 replace M := M.trans hq
 clear hk hz hq
 refine wl_box 28 (.tmp 2) _ (((y.cells).toArray)) rfl rfl (fun _ => by kernel_rfl) rfl ?_
 intro k3 u3 hk hz hq Q3
 have ne_k1_k3 : k1 ≠ k3 := by have := Q1.lt; omega
 have ne_k2_k3 : k2 ≠ k3 := by have := Q2.lt; omega
 have N_k3 : w.heap.size ≤ k3 := by have := M.size; omega
 replace Q1 := Q1.mo hq
 replace Q2 := Q2.mo hq
 replace M := M.trans hq
 clear hk hz hq
 refine wl_m (.const (.bool false)) (.bool false) ?_
 refine w_nil (xn_then (w_seq ?_))
 refine w_any 9 [.inl (.bool true), .inl (.bool true), .inl (.agg (c.cells).toArray), .inl (.agg (x.cells).toArray), .inl (.agg (y.cells).toArray), .inl (.agg ((ifV c x y).cells).toArray), .inl (.agg (c.cells).toArray), .inl (.agg (x.cells).toArray), .inl (.agg (y.cells).toArray)] [] (by kernel_rfl) (by kernel_rfl) (by kernel_rfl) (by kernel_rfl) rfl (by kernel_rfl) (by kernel_rfl) late_nil ?_ ?_ ?_
 ·exact Ds.none rfl
 ·refine ea_cons ?_ (ea_cons ?_ (ea_cons ?_ (ea_cons ?_ (ea_cons ?_ (ea_cons ?_ (ea_cons ?_ (ea_cons ?_ (ea_cons ?_ (ea_nil)))))))))
  ·exact og_eq _ rfl (fun f wf hq hd K hK => go_run rfl (wo_call 10 [] _ [] (.bool true) rfl rfl (fun _ _ => by kernel_rfl) (live_n _) hK))
  ·exact og_eq _ rfl (fun f wf hq hd K hK => go_run rfl (wo_mv (.tmp 7) (.bool true) (fun _ => rfl) (hd 0 rfl) (hK _ (Mw.refl _))))
  ·exact og_eq _ rfl (fun f wf hq hd K hK => have Q1 := Q1.mo hq; go_run (wnt_g rfl rfl rfl (hd 1 rfl) rfl) (wo_load 28 (.tmp 3) (pt k1 0) (.agg (c.cells).toArray) rfl rfl (run_row Q1 28 0 10 (c.cells) rfl Tryz.underlying28 rfl sz28) (hK _ (Mw.refl _))))
  ·exact og_eq _ rfl (fun f wf hq hd K hK => have Q2 := Q2.mo hq; go_run (wnt_g rfl rfl rfl (hd 1 rfl) rfl) (wo_load 28 (.tmp 4) (pt k2 0) (.agg (x.cells).toArray) rfl rfl (run_row Q2 28 0 10 (x.cells) rfl Tryz.underlying28 rfl sz28) (hK _ (Mw.refl _))))
  ·exact og_eq _ rfl (fun f wf hq hd K hK => have Q3 := Q3.mo hq; go_run (wnt_g rfl rfl rfl (hd 1 rfl) rfl) (wo_load 28 (.tmp 5) (pt k3 0) (.agg (y.cells).toArray) rfl rfl (run_row Q3 28 0 10 (y.cells) rfl Tryz.underlying28 rfl sz28) (hK _ (Mw.refl _))))
  ·exact og_eq _ rfl (fun f wf hq hd K hK => go_run (wnt_g rfl rfl rfl (hd 1 rfl) rfl) (wo_call 27 [(.tmp 9), (.tmp 10), (.tmp 11)] _ [.agg (c.cells).toArray, .agg (x.cells).toArray, .agg (y.cells).toArray] (.agg ((ifV c x y).cells).toArray) rfl (li3 (hd 2 rfl) (hd 3 rfl) (hd 4 rfl)) (fun _ _ => by kernel_rfl) (wk (if_n c x y _ hc hx hy)) hK))
  ·exact og_eq _ rfl (fun f wf hq hd K hK => have Q1 := Q1.mo hq; go_run (wnt_g rfl rfl rfl (hd 1 rfl) rfl) (wo_load 28 (.tmp 3) (pt k1 0) (.agg (c.cells).toArray) rfl rfl (run_row Q1 28 0 10 (c.cells) rfl Tryz.underlying28 rfl sz28) (hK _ (Mw.refl _))))
  ·exact og_eq _ rfl (fun f wf hq hd K hK => have Q2 := Q2.mo hq; go_run (wnt_g rfl rfl rfl (hd 1 rfl) rfl) (wo_load 28 (.tmp 4) (pt k2 0) (.agg (x.cells).toArray) rfl rfl (run_row Q2 28 0 10 (x.cells) rfl Tryz.underlying28 rfl sz28) (hK _ (Mw.refl _))))
  ·exact og_eq _ rfl (fun f wf hq hd K hK => have Q3 := Q3.mo hq; go_run (wnt_g rfl rfl rfl (hd 1 rfl) rfl) (wo_load 28 (.tmp 5) (pt k3 0) (.agg (y.cells).toArray) rfl rfl (run_row Q3 28 0 10 (y.cells) rfl Tryz.underlying28 rfl sz28) (hK _ (Mw.refl _))))
 intro kf4 u4 hq hR hne
 replace Q1 := Q1.mo hq
 replace Q2 := Q2.mo hq
 replace Q3 := Q3.mo hq
 replace M := M.trans hq
 clear hq hR hne
 refine wl_call 28 [(.tmp 13), (.tmp 14), (.tmp 15)] _ [.agg (c.cells).toArray, .agg (x.cells).toArray, .agg (y.cells).toArray] (.agg ((ifV c x y).cells).toArray) rfl rfl (fun _ _ => by kernel_rfl) (wk (rifV_n c x y _ hc hx hy)) rfl ?_
 intro u5 hq
 replace Q1 := Q1.mo hq
 replace Q2 := Q2.mo hq
 replace Q3 := Q3.mo hq
 replace M := M.trans hq
 clear hq
 refine wl_b .eql 28 (.tmp 12) (.tmp 16) (.agg ((ifV c x y).cells).toArray) (.agg ((ifV c x y).cells).toArray) (.bool true) (eqW (svv_self _) _ _ _) ?_
 refine wl_pick (.tmp 8) (.tmp 17) (.const (.bool false)) true (.bool true) (fun _ => rfl) rfl rfl rfl ?_
 refine wl_m (.tmp 18) (.bool true) ?_
 refine w_nil (xn_then (w_ret ?_))
 exact w_ret1 _ _ rfl rfl ⟨rfl, M⟩
end Go.Proofs.YtogomodbcjpfiaaGreatDoor.V
