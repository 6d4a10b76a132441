/-
  A part of the proof.
-/
import Derived.Test.YtogomodbcjpfiaaGreatDoorKb7
import Derived.Test.YtogomodbcjpfiaaGreatDoorKOnes1
import Derived.Test.YtogomodbcjpfiaaGreatDoorKa19
import Derived.Test.YtogomodbcjpfiaaGreatDoorKa18
import Derived.Test.YtogomodbcjpfiaaGreatDoorKa17
import Derived.Test.YtogomodbcjpfiaaGreatDoorKb6
import Derived.Test.YtogomodbcjpfiaaGreatDoorKa16
import Derived.Test.YtogomodbcjpfiaaGreatDoorKa15
import Derived.Test.YtogomodbcjpfiaaGreatDoorKa14
import Derived.Test.YtogomodbcjpfiaaGreatDoorKa1
import Derived.Shelf.Strings.Builder1
import Derived.Shelf.Strings.Builder2
import Derived.Shelf.Small.Bits
import Derived.Shelf.Small.Wraps
import Derived.Shelf.Strings.BuilderF
import Derived.Shelf.Strings.BuilderK
import Derived.Shelf.Strings.Prefix
import Derived.Shelf.Bits.Mul64
import Derived.Shelf.Strings.Repeat
import Derived.Test.YtogomodbcjpfiaaGreatDoorProg
import Derived.Shelf.Strconv.Itoa0
import Derived.Test.YtogomodbcjpfiaaGreatDoorKb5
import Derived.Test.YtogomodbcjpfiaaGreatDoorKb4
import Derived.Test.YtogomodbcjpfiaaGreatDoorKb3
import Derived.Test.YtogomodbcjpfiaaGreatDoorKa11
import Derived.Test.YtogomodbcjpfiaaGreatDoorKa9
import Derived.Test.YtogomodbcjpfiaaGreatDoorKa4
import Derived.Test.YtogomodbcjpfiaaGreatDoorKb1
import Derived.Test.YtogomodbcjpfiaaGreatDoorKa3
import Derived.Test.YtogomodbcjpfiaaGreatDoorKa2
import Derived.RegionTactic
import Derived.WalkKit
import Derived.WalkSpells
import Derived.Handy
import Derived.BigQuiet
import Derived.Deep.RegionHeld3
import Derived.Deep.MidRow
import Derived.BigCall
import Derived.Test.YtogomodbcjpfiaaGreatDoorKa8
import Derived.Test.YtogomodbcjpfiaaGreatDoorKb2
import Derived.Test.YtogomodbcjpfiaaGreatDoorKa5
import Derived.Deep.CutBlock
import Derived.Deep.CutRange
import Derived.Test.YtogomodbcjpfiaaGreatDoorKa7
import Derived.Test.YtogomodbcjpfiaaGreatDoorKa6
import Derived.ChangeKeysEq
import Derived.ScopeJumps
import Derived.WalkMore
import Derived.Laws.StructEq
import Derived.Test.YtogomodbcjpfiaaGreatDoorKa10
import Derived.Test.YtogomodbcjpfiaaGreatDoorKa13
import Derived.Test.YtogomodbcjpfiaaGreatDoorKa12
import Derived.Lib.CutLaws
import Derived.Lib.IndexBytes
import Derived.Maps.OwnSet
import Derived.WalkArith
import Derived.StringKeys
import Derived.Test.YtogomodbcjpfiaaGreatDoorKa21
import Derived.Test.YtogomodbcjpfiaaGreatDoorKa20
import Derived.Maps.AppendAt
import Derived.Deep.AppendLies
import Derived.Laws.BytesString
import Derived.Test.YtogomodbcjpfiaaGreatDoorKa22
namespace Go.Proofs.YtogomodbcjpfiaaGreatDoor
open Go.RowKit
theorem badK {k : Int} {x : VL} (hx : x.ok) (h : ¬ askK k x = 0) : vBad (askK k x) = vEr (askK k x) := by
 refine bad_of ?_
 unfold askK at h ⊢
 split
 next q =>
  rw [if_pos q] at h
  split
  next g => rw [if_pos g] at h; exact absurd rfl h
  next => rfl
 next q => exact ask_isE hx q
theorem rnegV_n (x : VL) (w : World) (hx : x.ok) : Calls Tryz.prog 18 #[x.v] w fun e9 w' => e9 = .returned (negV x).v ∧ Mo w w' := by
 refine w_enter 15 Tryz.func18 Tryz.ntmps18 rfl rfl ?_
 have M : Mo w w := Mo.refl _
 refine w_seq (w_reg ?_)
 refine wl_box 28 (.tmp 0) _ (((x.cells).toArray)) rfl rfl (fun _ => by kernel_rfl) rfl ?_
 intro k1 u1 hk hz hq Q1
 have N_k1 : w.heap.size ≤ k1 := by have := M.size; omega
 replace M := M.trans hq
 clear hk hz hq
 refine wl_alloc 28 #[.int .i64 0, .bool false, .int .u64 0, .int .u64 0, .int .u64 0, .int .u64 0, .int .i64 0, .bool false, .string ⟨#[]⟩, .int .i64 0] rfl (fun _ => by kernel_rfl) rfl ?_
 intro k2 u2 hk hz hq Q2
 have ne_k1_k2 : k1 ≠ k2 := by have := Q1.lt; omega
 have N_k2 : w.heap.size ≤ k2 := by have := M.size; omega
 replace Q1 := Q1.mo hq
 replace M := M.trans hq
 clear hk hz hq
 refine w_nil (xn_then (w_seq (w_reg ?_)))
 refine wl_l 28 (.tmp 1) (pt k1 0) (.agg (x.cells).toArray) (run_row Q1 28 0 10 (x.cells) rfl Tryz.underlying28 rfl sz28) ?_
 cases hf0 : decide (askK (1) x = 0) with
 | true =>
  have hf0p := of_decide_eq_true hf0
  refine wl_call 47 [(.tmp 3), (.const (.int .i64 (1)))] _ [.agg (x.cells).toArray, .int .i64 (1)] (.agg (x.cells).toArray) rfl rfl (fun _ _ => by kernel_rfl) (one_0 hf0p hx _) rfl ?_
  intro u3 hq
  replace Q1 := Q1.mo hq
  replace Q2 := Q2.mo hq
  replace M := M.trans hq
  clear hq
  refine wl_st 28 (.tmp 1) (.tmp 4) k1 0 ((x.cells).toArray) (x.cells) (x.cells) Q1 rfl rfl rfl rfl rfl sz28 rfl rfl rfl ?_
  intro u4 hS Qn
  replace Q1 := Qn
  clear Qn
  replace Q2 := hS.other _ _ ne_k1_k2.symm Q2
  replace M := hS.mo _ N_k1 M
  clear hS
  refine w_nil (xn_then (w_seq (w_seq (w_reg ?_))))
  refine wl_f 28 0 (.tmp 1) (pt k1 0) (pt k1 0) ?_
  refine wl_l 3 (.tmp 5) (pt k1 0) (.int .i64 (x.k)) (run_one Q1 3 0 rfl Tryz.underlying3 rfl) ?_
  refine wl_b .eql 3 (.tmp 6) (.const (.int .i64 (4))) (.int .i64 (x.k)) (.int .i64 (4)) (.bool false) (eq3 (decide_eq_false (ask_0 hx (askK_0 hf0p).1).2.1) _ _ _) ?_
  refine w_nil (xn_then (w_condF rfl (w_skip (xn_then (w_seq (w_reg ?_))))))
  refine wl_f 28 1 (.tmp 1) (pt k1 0) (pt k1 1) ?_
  refine wl_l 26 (.tmp 9) (pt k1 1) (.agg #[.bool x.b, .int .u64 (l0 x.n), .int .u64 (l1 x.n), .int .u64 (l2 x.n), .int .u64 (l3 x.n), .int .i64 x.s]) (run_row Q1 26 1 6 _ rfl Tryz.underlying26 rfl sz26) ?_
  refine wl_call 49 [(.tmp 10)] _ [.agg #[.bool x.b, .int .u64 (l0 x.n), .int .u64 (l1 x.n), .int .u64 (l2 x.n), .int .u64 (l3 x.n), .int .i64 x.s]] (.tuple #[.agg #[.bool (negR x.b x.n x.s).b, .int .u64 (l0 (negR x.b x.n x.s).n), .int .u64 (l1 (negR x.b x.n x.s).n), .int .u64 (l2 (negR x.b x.n x.s).n), .int .u64 (l3 (negR x.b x.n x.s).n), .int .i64 (negR x.b x.n x.s).s], .int .i64 ((negR x.b x.n x.s).e)]) rfl rfl (fun _ _ => by kernel_rfl) (qneg_n x.b x.n x.s _ hx.1 hx.2 (num_of hx (by assumption))) rfl ?_
  intro u5 hq
  replace Q1 := Q1.mo hq
  replace Q2 := Q2.mo hq
  replace M := M.trans hq
  clear hq
  refine wl_un (fun v => Instr.extract v 0) (.tmp 11) (.tuple #[.agg #[.bool (negR x.b x.n x.s).b, .int .u64 (l0 (negR x.b x.n x.s).n), .int .u64 (l1 (negR x.b x.n x.s).n), .int .u64 (l2 (negR x.b x.n x.s).n), .int .u64 (l3 (negR x.b x.n x.s).n), .int .i64 (negR x.b x.n x.s).s], .int .i64 ((negR x.b x.n x.s).e)]) (.agg #[.bool (negR x.b x.n x.s).b, .int .u64 (l0 (negR x.b x.n x.s).n), .int .u64 (l1 (negR x.b x.n x.s).n), .int .u64 (l2 (negR x.b x.n x.s).n), .int .u64 (l3 (negR x.b x.n x.s).n), .int .i64 (negR x.b x.n x.s).s]) (fun _ => rfl) rfl (by kernel_rfl) rfl ?_
  refine wl_un (fun v => Instr.extract v 1) (.tmp 11) (.tuple #[.agg #[.bool (negR x.b x.n x.s).b, .int .u64 (l0 (negR x.b x.n x.s).n), .int .u64 (l1 (negR x.b x.n x.s).n), .int .u64 (l2 (negR x.b x.n x.s).n), .int .u64 (l3 (negR x.b x.n x.s).n), .int .i64 (negR x.b x.n x.s).s], .int .i64 ((negR x.b x.n x.s).e)]) (.int .i64 ((negR x.b x.n x.s).e)) (fun _ => rfl) rfl (by kernel_rfl) rfl ?_
  refine wl_call 48 [(.tmp 12), (.tmp 13)] _ [.agg #[.bool (negR x.b x.n x.s).b, .int .u64 (l0 (negR x.b x.n x.s).n), .int .u64 (l1 (negR x.b x.n x.s).n), .int .u64 (l2 (negR x.b x.n x.s).n), .int .u64 (l3 (negR x.b x.n x.s).n), .int .i64 (negR x.b x.n x.s).s], .int .i64 ((negR x.b x.n x.s).e)] (.agg ((numV (negR x.b x.n x.s)).cells).toArray) rfl rfl (fun _ _ => by kernel_rfl) (told_n (negR x.b x.n x.s) _) rfl ?_
  intro u6 hq
  replace Q1 := Q1.mo hq
  replace Q2 := Q2.mo hq
  replace M := M.trans hq
  clear hq
  refine wl_st 28 (.tmp 2) (.tmp 14) k2 0 (((numV (negR x.b x.n x.s)).cells).toArray) _ ((numV (negR x.b x.n x.s)).cells) Q2 rfl rfl rfl rfl rfl sz28 rfl rfl rfl ?_
  intro u7 hS Qn
  replace Q2 := Qn
  clear Qn
  replace Q1 := hS.other _ _ ne_k1_k2 Q1
  replace M := hS.mo _ N_k2 M
  clear hS
  refine w_nil (xn_then (w_ret ?_))
  exact w_ret1 _ (.agg ((numV (negR x.b x.n x.s)).cells).toArray) rfl ⟨k2, rfl, (run_row Q2 28 0 10 ((numV (negR x.b x.n x.s)).cells) rfl Tryz.underlying28 rfl sz28)⟩ ⟨vrt (x := (numV (negR x.b x.n x.s))) rfl (by first | (simp [negV, hf0p]; done) | (simp [negV, hf0p]; rw [badK hx (by assumption)])), M⟩
 | false =>
  have hf0p := of_decide_eq_false hf0
  refine wl_call 47 [(.tmp 3), (.const (.int .i64 (1)))] _ [.agg (x.cells).toArray, .int .i64 (1)] (.agg ((vEr (askK (1) x)).cells).toArray) rfl rfl (fun _ _ => by kernel_rfl) (one_1 hf0p hx _) rfl ?_
  intro u3 hq
  replace Q1 := Q1.mo hq
  replace Q2 := Q2.mo hq
  replace M := M.trans hq
  clear hq
  refine wl_st 28 (.tmp 1) (.tmp 4) k1 0 (((vEr (askK (1) x)).cells).toArray) (x.cells) ((vEr (askK (1) x)).cells) Q1 rfl rfl rfl rfl rfl sz28 rfl rfl rfl ?_
  intro u4 hS Qn
  replace Q1 := Qn
  clear Qn
  replace Q2 := hS.other _ _ ne_k1_k2.symm Q2
  replace M := hS.mo _ N_k1 M
  clear hS
  refine w_nil (xn_then (w_seq (w_seq (w_reg ?_))))
  refine wl_f 28 0 (.tmp 1) (pt k1 0) (pt k1 0) ?_
  refine wl_l 3 (.tmp 5) (pt k1 0) (.int .i64 ((vEr (askK (1) x)).k)) (run_one Q1 3 0 rfl Tryz.underlying3 rfl) ?_
  refine wl_b .eql 3 (.tmp 6) (.const (.int .i64 (4))) (.int .i64 ((vEr (askK (1) x)).k)) (.int .i64 (4)) (.bool true) (eq3 rfl _ _ _) ?_
  refine w_nil (xn_then (w_condT rfl (w_seq (w_reg ?_))))
  refine wl_l 28 (.tmp 1) (pt k1 0) (.agg ((vEr (askK (1) x)).cells).toArray) (run_row Q1 28 0 10 ((vEr (askK (1) x)).cells) rfl Tryz.underlying28 rfl sz28) ?_
  refine wl_st 28 (.tmp 2) (.tmp 8) k2 0 (((vEr (askK (1) x)).cells).toArray) _ ((vEr (askK (1) x)).cells) Q2 rfl rfl rfl rfl rfl sz28 rfl rfl rfl ?_
  intro u5 hS Qn
  replace Q2 := Qn
  clear Qn
  replace Q1 := hS.other _ _ ne_k1_k2 Q1
  replace M := hS.mo _ N_k2 M
  clear hS
  refine w_nil (xn_then (w_ret (xr_then ?_)))
  exact w_ret1 _ (.agg ((vEr (askK (1) x)).cells).toArray) rfl ⟨k2, rfl, (run_row Q2 28 0 10 ((vEr (askK (1) x)).cells) rfl Tryz.underlying28 rfl sz28)⟩ ⟨vrt (x := (vEr (askK (1) x))) rfl (by first | (simp [negV, hf0p]; done) | (simp [negV, hf0p]; rw [badK hx (by assumption)])), M⟩
theorem rnotV_n (x : VL) (w : World) (hx : x.ok) : Calls Tryz.prog 20 #[x.v] w fun e9 w' => e9 = .returned (notV x).v ∧ Mo w w' := by
 refine w_enter 13 Tryz.func20 Tryz.ntmps20 rfl rfl ?_
 have M : Mo w w := Mo.refl _
 refine w_seq (w_reg ?_)
 refine wl_box 28 (.tmp 0) _ (((x.cells).toArray)) rfl rfl (fun _ => by kernel_rfl) rfl ?_
 intro k1 u1 hk hz hq Q1
 have N_k1 : w.heap.size ≤ k1 := by have := M.size; omega
 replace M := M.trans hq
 clear hk hz hq
 refine wl_alloc 28 #[.int .i64 0, .bool false, .int .u64 0, .int .u64 0, .int .u64 0, .int .u64 0, .int .i64 0, .bool false, .string ⟨#[]⟩, .int .i64 0] rfl (fun _ => by kernel_rfl) rfl ?_
 intro k2 u2 hk hz hq Q2
 have ne_k1_k2 : k1 ≠ k2 := by have := Q1.lt; omega
 have N_k2 : w.heap.size ≤ k2 := by have := M.size; omega
 replace Q1 := Q1.mo hq
 replace M := M.trans hq
 clear hk hz hq
 refine w_nil (xn_then (w_seq (w_reg ?_)))
 refine wl_l 28 (.tmp 1) (pt k1 0) (.agg (x.cells).toArray) (run_row Q1 28 0 10 (x.cells) rfl Tryz.underlying28 rfl sz28) ?_
 cases hf0 : decide (askK (2) x = 0) with
 | true =>
  have hf0p := of_decide_eq_true hf0
  refine wl_call 47 [(.tmp 3), (.const (.int .i64 (2)))] _ [.agg (x.cells).toArray, .int .i64 (2)] (.agg (x.cells).toArray) rfl rfl (fun _ _ => by kernel_rfl) (one_0 hf0p hx _) rfl ?_
  intro u3 hq
  replace Q1 := Q1.mo hq
  replace Q2 := Q2.mo hq
  replace M := M.trans hq
  clear hq
  refine wl_st 28 (.tmp 1) (.tmp 4) k1 0 ((x.cells).toArray) (x.cells) (x.cells) Q1 rfl rfl rfl rfl rfl sz28 rfl rfl rfl ?_
  intro u4 hS Qn
  replace Q1 := Qn
  clear Qn
  replace Q2 := hS.other _ _ ne_k1_k2.symm Q2
  replace M := hS.mo _ N_k1 M
  clear hS
  refine w_nil (xn_then (w_seq (w_seq (w_reg ?_))))
  refine wl_f 28 0 (.tmp 1) (pt k1 0) (pt k1 0) ?_
  refine wl_l 3 (.tmp 5) (pt k1 0) (.int .i64 (x.k)) (run_one Q1 3 0 rfl Tryz.underlying3 rfl) ?_
  refine wl_b .eql 3 (.tmp 6) (.const (.int .i64 (4))) (.int .i64 (x.k)) (.int .i64 (4)) (.bool false) (eq3 (decide_eq_false (ask_0 hx (askK_0 hf0p).1).2.1) _ _ _) ?_
  refine w_nil (xn_then (w_condF rfl (w_skip (xn_then (w_seq (w_reg ?_))))))
  refine wl_f 28 2 (.tmp 1) (pt k1 0) (pt k1 7) ?_
  refine wl_l 4 (.tmp 9) (pt k1 7) (.bool x.f) (run_one Q1 4 7 rfl Tryz.underlying4 rfl) ?_
  refine wl_un (fun v => Op.unary .not v) (.tmp 10) (.bool x.f) (.bool (!x.f)) (fun _ => rfl) rfl (notb _ _) rfl ?_
  refine wl_call 37 [(.tmp 11)] _ [.bool (!x.f)] (.agg ((vFl (!x.f)).cells).toArray) rfl rfl (fun _ _ => by kernel_rfl) (rflag_n (!x.f) _) rfl ?_
  intro u5 hq
  replace Q1 := Q1.mo hq
  replace Q2 := Q2.mo hq
  replace M := M.trans hq
  clear hq
  refine wl_st 28 (.tmp 2) (.tmp 12) k2 0 (((vFl (!x.f)).cells).toArray) _ ((vFl (!x.f)).cells) Q2 rfl rfl rfl rfl rfl sz28 rfl rfl rfl ?_
  intro u6 hS Qn
  replace Q2 := Qn
  clear Qn
  replace Q1 := hS.other _ _ ne_k1_k2 Q1
  replace M := hS.mo _ N_k2 M
  clear hS
  refine w_nil (xn_then (w_ret ?_))
  exact w_ret1 _ (.agg ((vFl (!x.f)).cells).toArray) rfl ⟨k2, rfl, (run_row Q2 28 0 10 ((vFl (!x.f)).cells) rfl Tryz.underlying28 rfl sz28)⟩ ⟨vrt (x := (vFl (!x.f))) rfl (by first | (simp [notV, hf0p]; done) | (simp [notV, hf0p]; rw [badK hx (by assumption)])), M⟩
 | false =>
  have hf0p := of_decide_eq_false hf0
  refine wl_call 47 [(.tmp 3), (.const (.int .i64 (2)))] _ [.agg (x.cells).toArray, .int .i64 (2)] (.agg ((vEr (askK (2) x)).cells).toArray) rfl rfl (fun _ _ => by kernel_rfl) (one_1 hf0p hx _) rfl ?_
  intro u3 hq
  replace Q1 := Q1.mo hq
  replace Q2 := Q2.mo hq
  replace M := M.trans hq
  clear hq
  refine wl_st 28 (.tmp 1) (.tmp 4) k1 0 (((vEr (askK (2) x)).cells).toArray) (x.cells) ((vEr (askK (2) x)).cells) Q1 rfl rfl rfl rfl rfl sz28 rfl rfl rfl ?_
  intro u4 hS Qn
  replace Q1 := Qn
  clear Qn
  replace Q2 := hS.other _ _ ne_k1_k2.symm Q2
  replace M := hS.mo _ N_k1 M
  clear hS
  refine w_nil (xn_then (w_seq (w_seq (w_reg ?_))))
  refine wl_f 28 0 (.tmp 1) (pt k1 0) (pt k1 0) ?_
  refine wl_l 3 (.tmp 5) (pt k1 0) (.int .i64 ((vEr (askK (2) x)).k)) (run_one Q1 3 0 rfl Tryz.underlying3 rfl) ?_
  refine wl_b .eql 3 (.tmp 6) (.const (.int .i64 (4))) (.int .i64 ((vEr (askK (2) x)).k)) (.int .i64 (4)) (.bool true) (eq3 rfl _ _ _) ?_
  refine w_nil (xn_then (w_condT rfl (w_seq (w_reg ?_))))
  refine wl_l 28 (.tmp 1) (pt k1 0) (.agg ((vEr (askK (2) x)).cells).toArray) (run_row Q1 28 0 10 ((vEr (askK (2) x)).cells) rfl Tryz.underlying28 rfl sz28) ?_
  refine wl_st 28 (.tmp 2) (.tmp 8) k2 0 (((vEr (askK (2) x)).cells).toArray) _ ((vEr (askK (2) x)).cells) Q2 rfl rfl rfl rfl rfl sz28 rfl rfl rfl ?_
  intro u5 hS Qn
  replace Q2 := Qn
  clear Qn
  replace Q1 := hS.other _ _ ne_k1_k2 Q1
  replace M := hS.mo _ N_k2 M
  clear hS
  refine w_nil (xn_then (w_ret (xr_then ?_)))
  exact w_ret1 _ (.agg ((vEr (askK (2) x)).cells).toArray) rfl ⟨k2, rfl, (run_row Q2 28 0 10 ((vEr (askK (2) x)).cells) rfl Tryz.underlying28 rfl sz28)⟩ ⟨vrt (x := (vEr (askK (2) x))) rfl (by first | (simp [notV, hf0p]; done) | (simp [notV, hf0p]; rw [badK hx (by assumption)])), M⟩
theorem rrndV_n (x : VL) (S p : Int) (w : World) (hx : x.ok) : Calls Tryz.prog 24 #[x.v, .int .i64 S, .int .i64 p] w fun e9 w' => e9 = .returned (rndV x S p).v ∧ Mo w w' := by
 refine w_enter 21 Tryz.func24 Tryz.ntmps24 rfl rfl ?_
 have M : Mo w w := Mo.refl _
 refine w_seq (w_reg ?_)
 refine wl_box 28 (.tmp 0) _ (((x.cells).toArray)) rfl rfl (fun _ => by kernel_rfl) rfl ?_
 intro k1 u1 hk hz hq Q1
 have N_k1 : w.heap.size ≤ k1 := by have := M.size; omega
 replace M := M.trans hq
 clear hk hz hq
 refine wl_alloc 28 #[.int .i64 0, .bool false, .int .u64 0, .int .u64 0, .int .u64 0, .int .u64 0, .int .i64 0, .bool false, .string ⟨#[]⟩, .int .i64 0] rfl (fun _ => by kernel_rfl) rfl ?_
 intro k2 u2 hk hz hq Q2
 have ne_k1_k2 : k1 ≠ k2 := by have := Q1.lt; omega
 have N_k2 : w.heap.size ≤ k2 := by have := M.size; omega
 replace Q1 := Q1.mo hq
 replace M := M.trans hq
 clear hk hz hq
 refine w_nil (xn_then (w_seq (w_reg ?_)))
 refine wl_l 28 (.tmp 3) (pt k1 0) (.agg (x.cells).toArray) (run_row Q1 28 0 10 (x.cells) rfl Tryz.underlying28 rfl sz28) ?_
 cases hf0 : decide (askK (1) x = 0) with
 | true =>
  have hf0p := of_decide_eq_true hf0
  refine wl_call 47 [(.tmp 7), (.const (.int .i64 (1)))] _ [.agg (x.cells).toArray, .int .i64 (1)] (.agg (x.cells).toArray) rfl rfl (fun _ _ => by kernel_rfl) (one_0 hf0p hx _) rfl ?_
  intro u3 hq
  replace Q1 := Q1.mo hq
  replace Q2 := Q2.mo hq
  replace M := M.trans hq
  clear hq
  refine wl_st 28 (.tmp 3) (.tmp 8) k1 0 ((x.cells).toArray) (x.cells) (x.cells) Q1 rfl rfl rfl rfl rfl sz28 rfl rfl rfl ?_
  intro u4 hS Qn
  replace Q1 := Qn
  clear Qn
  replace Q2 := hS.other _ _ ne_k1_k2.symm Q2
  replace M := hS.mo _ N_k1 M
  clear hS
  refine w_nil (xn_then (w_seq (w_seq (w_reg ?_))))
  refine wl_f 28 0 (.tmp 3) (pt k1 0) (pt k1 0) ?_
  refine wl_l 3 (.tmp 9) (pt k1 0) (.int .i64 (x.k)) (run_one Q1 3 0 rfl Tryz.underlying3 rfl) ?_
  refine wl_b .eql 3 (.tmp 10) (.const (.int .i64 (4))) (.int .i64 (x.k)) (.int .i64 (4)) (.bool false) (eq3 (decide_eq_false (ask_0 hx (askK_0 hf0p).1).2.1) _ _ _) ?_
  refine w_nil (xn_then (w_condF rfl (w_skip (xn_then (w_seq (w_reg ?_))))))
  refine wl_f 28 1 (.tmp 3) (pt k1 0) (pt k1 1) ?_
  refine wl_l 26 (.tmp 13) (pt k1 1) (.agg #[.bool x.b, .int .u64 (l0 x.n), .int .u64 (l1 x.n), .int .u64 (l2 x.n), .int .u64 (l3 x.n), .int .i64 x.s]) (run_row Q1 26 1 6 _ rfl Tryz.underlying26 rfl sz26) ?_
  refine wl_m (.tmp 1) (.int .i64 (S)) ?_
  refine wl_m (.tmp 2) (.int .i64 (p)) ?_
  refine wl_call 52 [(.tmp 14), (.tmp 15), (.tmp 16)] _ [.agg #[.bool x.b, .int .u64 (l0 x.n), .int .u64 (l1 x.n), .int .u64 (l2 x.n), .int .u64 (l3 x.n), .int .i64 x.s], .int .i64 (S), .int .i64 (p)] (.tuple #[.agg #[.bool (rndR x.b x.n x.s S p).b, .int .u64 (l0 (rndR x.b x.n x.s S p).n), .int .u64 (l1 (rndR x.b x.n x.s S p).n), .int .u64 (l2 (rndR x.b x.n x.s S p).n), .int .u64 (l3 (rndR x.b x.n x.s S p).n), .int .i64 (rndR x.b x.n x.s S p).s], .int .i64 ((rndR x.b x.n x.s S p).e)]) rfl rfl (fun _ _ => by kernel_rfl) (qrnd_n x.b x.n x.s S p _ hx.1 hx.2 (num_of hx (by assumption))) rfl ?_
  intro u5 hq
  replace Q1 := Q1.mo hq
  replace Q2 := Q2.mo hq
  replace M := M.trans hq
  clear hq
  refine wl_un (fun v => Instr.extract v 0) (.tmp 17) (.tuple #[.agg #[.bool (rndR x.b x.n x.s S p).b, .int .u64 (l0 (rndR x.b x.n x.s S p).n), .int .u64 (l1 (rndR x.b x.n x.s S p).n), .int .u64 (l2 (rndR x.b x.n x.s S p).n), .int .u64 (l3 (rndR x.b x.n x.s S p).n), .int .i64 (rndR x.b x.n x.s S p).s], .int .i64 ((rndR x.b x.n x.s S p).e)]) (.agg #[.bool (rndR x.b x.n x.s S p).b, .int .u64 (l0 (rndR x.b x.n x.s S p).n), .int .u64 (l1 (rndR x.b x.n x.s S p).n), .int .u64 (l2 (rndR x.b x.n x.s S p).n), .int .u64 (l3 (rndR x.b x.n x.s S p).n), .int .i64 (rndR x.b x.n x.s S p).s]) (fun _ => rfl) rfl (by kernel_rfl) rfl ?_
  refine wl_un (fun v => Instr.extract v 1) (.tmp 17) (.tuple #[.agg #[.bool (rndR x.b x.n x.s S p).b, .int .u64 (l0 (rndR x.b x.n x.s S p).n), .int .u64 (l1 (rndR x.b x.n x.s S p).n), .int .u64 (l2 (rndR x.b x.n x.s S p).n), .int .u64 (l3 (rndR x.b x.n x.s S p).n), .int .i64 (rndR x.b x.n x.s S p).s], .int .i64 ((rndR x.b x.n x.s S p).e)]) (.int .i64 ((rndR x.b x.n x.s S p).e)) (fun _ => rfl) rfl (by kernel_rfl) rfl ?_
  refine wl_call 48 [(.tmp 18), (.tmp 19)] _ [.agg #[.bool (rndR x.b x.n x.s S p).b, .int .u64 (l0 (rndR x.b x.n x.s S p).n), .int .u64 (l1 (rndR x.b x.n x.s S p).n), .int .u64 (l2 (rndR x.b x.n x.s S p).n), .int .u64 (l3 (rndR x.b x.n x.s S p).n), .int .i64 (rndR x.b x.n x.s S p).s], .int .i64 ((rndR x.b x.n x.s S p).e)] (.agg ((numV (rndR x.b x.n x.s S p)).cells).toArray) rfl rfl (fun _ _ => by kernel_rfl) (told_n (rndR x.b x.n x.s S p) _) rfl ?_
  intro u6 hq
  replace Q1 := Q1.mo hq
  replace Q2 := Q2.mo hq
  replace M := M.trans hq
  clear hq
  refine wl_st 28 (.tmp 6) (.tmp 20) k2 0 (((numV (rndR x.b x.n x.s S p)).cells).toArray) _ ((numV (rndR x.b x.n x.s S p)).cells) Q2 rfl rfl rfl rfl rfl sz28 rfl rfl rfl ?_
  intro u7 hS Qn
  replace Q2 := Qn
  clear Qn
  replace Q1 := hS.other _ _ ne_k1_k2 Q1
  replace M := hS.mo _ N_k2 M
  clear hS
  refine w_nil (xn_then (w_ret ?_))
  exact w_ret1 _ (.agg ((numV (rndR x.b x.n x.s S p)).cells).toArray) rfl ⟨k2, rfl, (run_row Q2 28 0 10 ((numV (rndR x.b x.n x.s S p)).cells) rfl Tryz.underlying28 rfl sz28)⟩ ⟨vrt (x := (numV (rndR x.b x.n x.s S p))) rfl (by first | (simp [rndV, hf0p]; done) | (simp [rndV, hf0p]; rw [badK hx (by assumption)])), M⟩
 | false =>
  have hf0p := of_decide_eq_false hf0
  refine wl_call 47 [(.tmp 7), (.const (.int .i64 (1)))] _ [.agg (x.cells).toArray, .int .i64 (1)] (.agg ((vEr (askK (1) x)).cells).toArray) rfl rfl (fun _ _ => by kernel_rfl) (one_1 hf0p hx _) rfl ?_
  intro u3 hq
  replace Q1 := Q1.mo hq
  replace Q2 := Q2.mo hq
  replace M := M.trans hq
  clear hq
  refine wl_st 28 (.tmp 3) (.tmp 8) k1 0 (((vEr (askK (1) x)).cells).toArray) (x.cells) ((vEr (askK (1) x)).cells) Q1 rfl rfl rfl rfl rfl sz28 rfl rfl rfl ?_
  intro u4 hS Qn
  replace Q1 := Qn
  clear Qn
  replace Q2 := hS.other _ _ ne_k1_k2.symm Q2
  replace M := hS.mo _ N_k1 M
  clear hS
  refine w_nil (xn_then (w_seq (w_seq (w_reg ?_))))
  refine wl_f 28 0 (.tmp 3) (pt k1 0) (pt k1 0) ?_
  refine wl_l 3 (.tmp 9) (pt k1 0) (.int .i64 ((vEr (askK (1) x)).k)) (run_one Q1 3 0 rfl Tryz.underlying3 rfl) ?_
  refine wl_b .eql 3 (.tmp 10) (.const (.int .i64 (4))) (.int .i64 ((vEr (askK (1) x)).k)) (.int .i64 (4)) (.bool true) (eq3 rfl _ _ _) ?_
  refine w_nil (xn_then (w_condT rfl (w_seq (w_reg ?_))))
  refine wl_l 28 (.tmp 3) (pt k1 0) (.agg ((vEr (askK (1) x)).cells).toArray) (run_row Q1 28 0 10 ((vEr (askK (1) x)).cells) rfl Tryz.underlying28 rfl sz28) ?_
  refine wl_st 28 (.tmp 6) (.tmp 12) k2 0 (((vEr (askK (1) x)).cells).toArray) _ ((vEr (askK (1) x)).cells) Q2 rfl rfl rfl rfl rfl sz28 rfl rfl rfl ?_
  intro u5 hS Qn
  replace Q2 := Qn
  clear Qn
  replace Q1 := hS.other _ _ ne_k1_k2 Q1
  replace M := hS.mo _ N_k2 M
  clear hS
  refine w_nil (xn_then (w_ret (xr_then ?_)))
  exact w_ret1 _ (.agg ((vEr (askK (1) x)).cells).toArray) rfl ⟨k2, rfl, (run_row Q2 28 0 10 ((vEr (askK (1) x)).cells) rfl Tryz.underlying28 rfl sz28)⟩ ⟨vrt (x := (vEr (askK (1) x))) rfl (by first | (simp [rndV, hf0p]; done) | (simp [rndV, hf0p]; rw [badK hx (by assumption)])), M⟩
end Go.Proofs.YtogomodbcjpfiaaGreatDoor
namespace Go.Proofs.YtogomodbcjpfiaaGreatDoor
open Go.RowKit
theorem may_t {x : VL} (c : ckv x = true) (hx : x.ok) (w : World) : Calls Tryz.prog 50 #[x.v] w fun e9 w' => e9 = .returned x.v ∧ Mo w w' := by
 have q := may_n x w hx
 unfold mayV at q; rw [if_pos c] at q
 exact q
theorem may_f {x : VL} (c : ckv x = false) (hx : x.ok) (w : World) : Calls Tryz.prog 50 #[x.v] w fun e9 w' => e9 = .returned (vBad (2)).v ∧ Mo w w' := by
 have q := may_n x w hx
 unfold mayV at q; rw [if_neg (by rw [c]; decide)] at q
 exact q
theorem rblkV_n (x : VL) (w : World) (hx : x.ok) : Calls Tryz.prog 22 #[x.v] w fun e9 w' => e9 = .returned (blkV x).v ∧ Mo w w' := by
 refine w_enter 13 Tryz.func22 Tryz.ntmps22 rfl rfl ?_
 have M : Mo w w := Mo.refl _
 refine w_seq (w_reg ?_)
 refine wl_box 28 (.tmp 0) _ (((x.cells).toArray)) rfl rfl (fun _ => by kernel_rfl) rfl ?_
 intro k1 u1 hk hz hq Q1
 have N_k1 : w.heap.size ≤ k1 := by have := M.size; omega
 replace M := M.trans hq
 clear hk hz hq
 refine wl_alloc 28 #[.int .i64 0, .bool false, .int .u64 0, .int .u64 0, .int .u64 0, .int .u64 0, .int .i64 0, .bool false, .string ⟨#[]⟩, .int .i64 0] rfl (fun _ => by kernel_rfl) rfl ?_
 intro k2 u2 hk hz hq Q2
 have ne_k1_k2 : k1 ≠ k2 := by have := Q1.lt; omega
 have N_k2 : w.heap.size ≤ k2 := by have := M.size; omega
 replace Q1 := Q1.mo hq
 replace M := M.trans hq
 clear hk hz hq
 refine w_nil (xn_then (w_seq (w_reg ?_)))
 refine wl_l 28 (.tmp 1) (pt k1 0) (.agg (x.cells).toArray) (run_row Q1 28 0 10 (x.cells) rfl Tryz.underlying28 rfl sz28) ?_
 cases hf0 : ckv x with
 | true =>
  refine wl_call 50 [(.tmp 3)] _ [.agg (x.cells).toArray] (.agg (x.cells).toArray) rfl rfl (fun _ _ => by kernel_rfl) (may_t hf0 hx _) rfl ?_
  intro u3 hq
  replace Q1 := Q1.mo hq
  replace Q2 := Q2.mo hq
  replace M := M.trans hq
  clear hq
  refine wl_st 28 (.tmp 1) (.tmp 4) k1 0 ((x.cells).toArray) (x.cells) (x.cells) Q1 rfl rfl rfl rfl rfl sz28 rfl rfl rfl ?_
  intro u4 hS Qn
  replace Q1 := Qn
  clear Qn
  replace Q2 := hS.other _ _ ne_k1_k2.symm Q2
  replace M := hS.mo _ N_k1 M
  clear hS
  refine w_nil (xn_then (w_seq (w_seq (w_reg ?_))))
  refine wl_f 28 0 (.tmp 1) (pt k1 0) (pt k1 0) ?_
  refine wl_l 3 (.tmp 5) (pt k1 0) (.int .i64 (x.k)) (run_one Q1 3 0 rfl Tryz.underlying3 rfl) ?_
  cases hf1 : decide (x.k = 4) with
  | true =>
   have hf1p := of_decide_eq_true hf1
   refine wl_b .eql 3 (.tmp 6) (.const (.int .i64 (4))) (.int .i64 (x.k)) (.int .i64 (4)) (.bool true) (eq3 hf1 _ _ _) ?_
   refine w_nil (xn_then (w_condT rfl (w_seq (w_reg ?_))))
   refine wl_l 28 (.tmp 1) (pt k1 0) (.agg (x.cells).toArray) (run_row Q1 28 0 10 (x.cells) rfl Tryz.underlying28 rfl sz28) ?_
   refine wl_st 28 (.tmp 2) (.tmp 8) k2 0 ((x.cells).toArray) _ (x.cells) Q2 rfl rfl rfl rfl rfl sz28 rfl rfl rfl ?_
   intro u5 hS Qn
   replace Q2 := Qn
   clear Qn
   replace Q1 := hS.other _ _ ne_k1_k2 Q1
   replace M := hS.mo _ N_k2 M
   clear hS
   refine w_nil (xn_then (w_ret (xr_then ?_)))
   exact w_ret1 _ (.agg (x.cells).toArray) rfl ⟨k2, rfl, (run_row Q2 28 0 10 (x.cells) rfl Tryz.underlying28 rfl sz28)⟩ ⟨vrt (x := x) rfl (by simp [blkV, hf0, hf1p]), M⟩
  | false =>
   have hf1p := of_decide_eq_false hf1
   refine wl_b .eql 3 (.tmp 6) (.const (.int .i64 (4))) (.int .i64 (x.k)) (.int .i64 (4)) (.bool false) (eq3 hf1 _ _ _) ?_
   refine w_nil (xn_then (w_condF rfl (w_skip (xn_then (w_seq (w_reg ?_))))))
   refine wl_f 28 0 (.tmp 1) (pt k1 0) (pt k1 0) ?_
   refine wl_l 3 (.tmp 9) (pt k1 0) (.int .i64 (x.k)) (run_one Q1 3 0 rfl Tryz.underlying3 rfl) ?_
   cases hf2 : decide (x.k = 0) with
   | true =>
    have hf2p := of_decide_eq_true hf2
    refine wl_b .eql 3 (.tmp 10) (.const (.int .i64 (0))) (.int .i64 (x.k)) (.int .i64 (0)) (.bool true) (eq3 hf2 _ _ _) ?_
    refine wl_call 37 [(.tmp 11)] _ [.bool true] (.agg ((vFl true).cells).toArray) rfl rfl (fun _ _ => by kernel_rfl) (rflag_n true _) rfl ?_
    intro u5 hq
    replace Q1 := Q1.mo hq
    replace Q2 := Q2.mo hq
    replace M := M.trans hq
    clear hq
    refine wl_st 28 (.tmp 2) (.tmp 12) k2 0 (((vFl true).cells).toArray) _ ((vFl true).cells) Q2 rfl rfl rfl rfl rfl sz28 rfl rfl rfl ?_
    intro u6 hS Qn
    replace Q2 := Qn
    clear Qn
    replace Q1 := hS.other _ _ ne_k1_k2 Q1
    replace M := hS.mo _ N_k2 M
    clear hS
    refine w_nil (xn_then (w_ret ?_))
    exact w_ret1 _ (.agg ((vFl true).cells).toArray) rfl ⟨k2, rfl, (run_row Q2 28 0 10 ((vFl true).cells) rfl Tryz.underlying28 rfl sz28)⟩ ⟨vrt (x := (vFl true)) rfl (by simp [blkV, hf0, hf2p]), M⟩
   | false =>
    have hf2p := of_decide_eq_false hf2
    refine wl_b .eql 3 (.tmp 10) (.const (.int .i64 (0))) (.int .i64 (x.k)) (.int .i64 (0)) (.bool false) (eq3 hf2 _ _ _) ?_
    refine wl_call 37 [(.tmp 11)] _ [.bool false] (.agg ((vFl false).cells).toArray) rfl rfl (fun _ _ => by kernel_rfl) (rflag_n false _) rfl ?_
    intro u5 hq
    replace Q1 := Q1.mo hq
    replace Q2 := Q2.mo hq
    replace M := M.trans hq
    clear hq
    refine wl_st 28 (.tmp 2) (.tmp 12) k2 0 (((vFl false).cells).toArray) _ ((vFl false).cells) Q2 rfl rfl rfl rfl rfl sz28 rfl rfl rfl ?_
    intro u6 hS Qn
    replace Q2 := Qn
    clear Qn
    replace Q1 := hS.other _ _ ne_k1_k2 Q1
    replace M := hS.mo _ N_k2 M
    clear hS
    refine w_nil (xn_then (w_ret ?_))
    exact w_ret1 _ (.agg ((vFl false).cells).toArray) rfl ⟨k2, rfl, (run_row Q2 28 0 10 ((vFl false).cells) rfl Tryz.underlying28 rfl sz28)⟩ ⟨vrt (x := (vFl false)) rfl (by simp [blkV, hf0, hf1p, hf2p]), M⟩
 | false =>
  refine wl_call 50 [(.tmp 3)] _ [.agg (x.cells).toArray] (.agg ((vBad (2)).cells).toArray) rfl rfl (fun _ _ => by kernel_rfl) (may_f hf0 hx _) rfl ?_
  intro u3 hq
  replace Q1 := Q1.mo hq
  replace Q2 := Q2.mo hq
  replace M := M.trans hq
  clear hq
  refine wl_st 28 (.tmp 1) (.tmp 4) k1 0 (((vBad (2)).cells).toArray) (x.cells) ((vBad (2)).cells) Q1 rfl rfl rfl rfl rfl sz28 rfl rfl rfl ?_
  intro u4 hS Qn
  replace Q1 := Qn
  clear Qn
  replace Q2 := hS.other _ _ ne_k1_k2.symm Q2
  replace M := hS.mo _ N_k1 M
  clear hS
  refine w_nil (xn_then (w_seq (w_seq (w_reg ?_))))
  refine wl_f 28 0 (.tmp 1) (pt k1 0) (pt k1 0) ?_
  refine wl_l 3 (.tmp 5) (pt k1 0) (.int .i64 ((vBad (2)).k)) (run_one Q1 3 0 rfl Tryz.underlying3 rfl) ?_
  refine wl_b .eql 3 (.tmp 6) (.const (.int .i64 (4))) (.int .i64 ((vBad (2)).k)) (.int .i64 (4)) (.bool true) (eq3 rfl _ _ _) ?_
  refine w_nil (xn_then (w_condT rfl (w_seq (w_reg ?_))))
  refine wl_l 28 (.tmp 1) (pt k1 0) (.agg ((vBad (2)).cells).toArray) (run_row Q1 28 0 10 ((vBad (2)).cells) rfl Tryz.underlying28 rfl sz28) ?_
  refine wl_st 28 (.tmp 2) (.tmp 8) k2 0 (((vBad (2)).cells).toArray) _ ((vBad (2)).cells) Q2 rfl rfl rfl rfl rfl sz28 rfl rfl rfl ?_
  intro u5 hS Qn
  replace Q2 := Qn
  clear Qn
  replace Q1 := hS.other _ _ ne_k1_k2 Q1
  replace M := hS.mo _ N_k2 M
  clear hS
  refine w_nil (xn_then (w_ret (xr_then ?_)))
  exact w_ret1 _ (.agg ((vBad (2)).cells).toArray) rfl ⟨k2, rfl, (run_row Q2 28 0 10 ((vBad (2)).cells) rfl Tryz.underlying28 rfl sz28)⟩ ⟨vrt (x := (vBad (2))) rfl (by simp [blkV, hf0]), M⟩
end Go.Proofs.YtogomodbcjpfiaaGreatDoor
namespace Go.Proofs.YtogomodbcjpfiaaGreatDoor
open Go.RowKit
theorem len_run (ρ : Operand → Value) (x : Operand) (s : ByteArray) (hx : ρ x = .string s) (dst : Option Tmp) (type : TypeId) (pos : String) (after : Array Edge) (guard : Option (Nat × Bool)) (w : World) : (execOp ρ { dst, op := .call { callee := .builtin .len, args := #[x], argTypes := #[9] }, type, pos, after, guard }).run Tryz.prog w = .ok (.value (.int .i64 (s.size : Int))) w := by
 simp [go_sem, hx]
theorem add1_run {k : Nat} (hk : k ≤ 9223372036854775806) (x y : Operand) (w : World) : (do eqGuard .add 3 x y (.int .i64 (k : Int)) (.int .i64 1); binOp .add 3 (.int .i64 (k : Int)) (.int .i64 1)).run Tryz.prog w = .ok (.int .i64 ((k + 1 : Nat) : Int)) w := by
 have e : (do eqGuard .add 3 x y (.int .i64 (k : Int)) (.int .i64 1); binOp .add 3 (.int .i64 (k : Int)) (.int .i64 1)).run Tryz.prog w = .ok (.int .i64 (IntKind.i64.wrap ((k : Int) + 1))) w := by kernel_rfl
 have h : IntKind.i64.wrap ((k : Int) + 1) = ((k + 1 : Nat) : Int) := by rw [IntKind.wrap_i64]; omega
 rw [e, h]
end Go.Proofs.YtogomodbcjpfiaaGreatDoor

namespace Go.Proofs.YtogomodbcjpfiaaGreatDoor
open Go.RowKit Go.Lib
theorem tx_size (l : List UInt8) : (⟨l.toArray⟩ : ByteArray).size = l.length := by rw [← by8_len]
theorem len_tx (ρ : Operand → Value) (x : Operand) (l : List UInt8) (hx : ρ x = tx l) (dst : Option Tmp) (type : TypeId) (pos : String) (after : Array Edge) (guard : Option (Nat × Bool)) (w : World) : (execOp ρ { dst, op := .call { callee := .builtin .len, args := #[x], argTypes := #[9] }, type, pos, after, guard }).run Tryz.prog w = .ok (.value (.int .i64 (l.length : Int))) w := by
 rw [← tx_size l]; exact len_run ρ x _ hx dst type pos after guard w
end Go.Proofs.YtogomodbcjpfiaaGreatDoor

namespace Go.Proofs.YtogomodbcjpfiaaGreatDoor
open Go.RowKit Go.Lib
theorem take_tx (l : List UInt8) (j : Nat) : Value.string ((⟨l.toArray⟩ : ByteArray).extract 0 j) = tx (l.take j) := by
 rw [tx_of, by8_ext]; rfl
theorem drop_tx (l : List UInt8) (j : Nat) : Value.string ((⟨l.toArray⟩ : ByteArray).extract j (⟨l.toArray⟩ : ByteArray).size) = tx (l.drop j) := by
 rw [tx_of, by8_ext, tx_size]
 have : ((by8 (⟨l.toArray⟩ : ByteArray)).drop j).take (l.length - j) = l.drop j := List.take_of_length_le (by simp [by8])
 rw [this]
theorem hi_run (ρ : Operand → Value) (x y : Operand) (l : List UInt8) (j : Nat) (hx : ρ x = tx l) (hy : ρ y = .int .i64 (j : Int)) (hj : j ≤ l.length) (dst : Option Tmp) (type : TypeId) (pos : String) (after : Array Edge) (guard : Option (Nat × Bool)) (w : World) :
  (execOp ρ { dst, op := .slice 9 x none (some y) none, type, pos, after, guard }).run Tryz.prog w = .ok (.value (tx (l.take j))) w := by
 have h1 : (j : Int) ≤ ((⟨l.toArray⟩ : ByteArray).size : Int) := by rw [tx_size]; omega
 have h0 : (0 : Int) ≤ (j : Int) := by omega
 rw [← take_tx]
 unfold tx at hx
 generalize (⟨l.toArray⟩ : ByteArray) = s at *
 simp [go_sem, hx, hy, h1, h0]
theorem lo_run (ρ : Operand → Value) (x y : Operand) (l : List UInt8) (j : Nat) (hx : ρ x = tx l) (hy : ρ y = .int .i64 (j : Int)) (hj : j ≤ l.length) (dst : Option Tmp) (type : TypeId) (pos : String) (after : Array Edge) (guard : Option (Nat × Bool)) (w : World) :
  (execOp ρ { dst, op := .slice 9 x (some y) none none, type, pos, after, guard }).run Tryz.prog w = .ok (.value (tx (l.drop j))) w := by
 have h1 : (j : Int) ≤ ((⟨l.toArray⟩ : ByteArray).size : Int) := by rw [tx_size]; omega
 have h0 : (0 : Int) ≤ (j : Int) := by omega
 rw [← drop_tx]
 unfold tx at hx
 generalize (⟨l.toArray⟩ : ByteArray) = s at *
 simp [go_sem, hx, hy, h1, h0]
theorem catl_run (a b : List UInt8) (h : a.length + b.length ≤ 9223372036854775807) (x y : Operand) (w : World) : (do eqGuard .add 9 x y (tx a) (tx b); binOp .add 9 (tx a) (tx b)).run Tryz.prog w = .ok (tx (a ++ b)) w := by
 have e : tx (a ++ b) = .string ((⟨a.toArray⟩ : ByteArray) ++ ⟨b.toArray⟩) := by rw [tx_of, by8_app]
 rw [e]; exact V.cat_run _ _ (by rw [tx_size, tx_size]; exact h) x y w
theorem leq3_run {a b : Int} {r : Bool} (h : decide (a ≤ b) = r) (x y : Operand) (w : World) : (do eqGuard .leq 3 x y (.int .i64 a) (.int .i64 b); binOp .leq 3 (.int .i64 a) (.int .i64 b)).run Tryz.prog w = .ok (.bool r) w := by
 subst h; kernel_rfl
end Go.Proofs.YtogomodbcjpfiaaGreatDoor

namespace Go.Proofs.YtogomodbcjpfiaaGreatDoor
open Go.RowKit
theorem bsl (c : Int) (w : World) : (Instr.buildSlice 81 1 #[(0, .int .u8 c)]).run Tryz.prog w = .ok (.slice (some ⟨w.heap.size, 0, none⟩) 1 1) (w.alloc (.cells #[.int .u8 c] 5)) := by kernel_rfl
theorem ixs (g j n c : Nat) (h : j < n) (w : World) : (Instr.indexAt 81 (.slice (some ⟨g, 0, none⟩) n c) (.int .i64 (j : Int))).run Tryz.prog w = .ok (pt g j) w := by
 simp [go_sem, h]
structure St2 (k : Nat) (w w' : World) : Prop extends St k w w' where
 os : w'.os = w.os
 tape : w'.tape = w.tape
 output : w'.output = w.output
 block : ∀ j, j ≠ k → w'.heap[j]? = w.heap[j]?
theorem heap_setCells (k j : Nat) (hj : j ≠ k) : ∀ (l : List Value) (o : Nat) (w : World), (w.setCells k o l).heap[j]? = w.heap[j]? ∧ (w.setCells k o l).os = w.os ∧ (w.setCells k o l).tape = w.tape ∧ (w.setCells k o l).output = w.output
 | [], _, _ => ⟨rfl, rfl, rfl, rfl⟩
 | v :: r, o, w => by
  have h := heap_setCells k j hj r (o + 1) (w.setCell ⟨k, o, none⟩ v)
  rw [World.setCells]
  refine ⟨h.1.trans ?_, h.2.1.trans rfl, h.2.2.1.trans rfl, h.2.2.2.trans rfl⟩
  simp [World.setCell, Array.getElem?_modify, Ne.symm hj]
theorem St2.mk2 (w : World) (k o : Nat) (l : List Value) : St2 k w (w.setCells k o l) :=
 { St.mk' w k o l with
  os := (heap_setCells k (k + 1) (by omega) l o w).2.1
  tape := (heap_setCells k (k + 1) (by omega) l o w).2.2.1
  output := (heap_setCells k (k + 1) (by omega) l o w).2.2.2
  block := fun j hj => (heap_setCells k j hj l o w).1 }
theorem own_st {w w' : World} {N k : Nat} {v : Value} {n : Nat} {xs : List Value} (m : St2 k w w') (h : w.ownsRow N 5 1 v n xs) (hne : v.ownBlock ≠ some k) : w'.ownsRow N 5 1 v n xs :=
 h.kept (row := some k) ⟨m.os, m.tape, m.output, Nat.le_of_eq m.size.symm, fun j _ hj => m.block j (fun e => hj (by rw [e]))⟩ (Or.inr hne)
section
variable {P : Program} {o : Oper} {n : Nat} {l : List (Nat × Value)} {w : World} {ops : Array Oper} {rest : List Oper} {Q : Exit → Act → World → Prop}
theorem wl_stx (ty : TypeId) (x y : Operand) (k off : Nat) (us : Array Value) (vs vs' : List Value) (hA : At w k vs) (ho : o.op = .store ty x y) (hd : o.dst = none) (hx : evl n l x = pt k off) (hy : evl n l y = .agg us)
  (hl : Nat.ble (off + us.size) vs.length = true) (hi : (P.info? ty).map (·.size) = some us.size) (h1 : us.toList.all (·.oneCell') = true) (hvs : vs' = vs.take off ++ us.toList ++ vs.drop (off + us.toList.length)) (hg : wnt n l ops o = true)
  (hk : ∀ w', St2 k w w' → At w' k vs' → WL P ops Q rest n l w') : WL P ops Q (o :: rest) n l w :=
 ⟨l_step hg (o_store ty x y _ _ ho hd hx hy (run_put hA ty off us (Nat.le_of_ble_eq_true hl) hi (by rw [← Array.all_toList]; exact h1)) (hk _ (St2.mk2 w k off us.toList) (hA.set off us.toList (by have := Nat.le_of_ble_eq_true hl; simpa using this) vs' hvs)).out)⟩
end
theorem own_mo {w w' : World} {N : Nat} {v : Value} {n : Nat} {xs : List Value} (h : w.ownsRow N 5 1 v n xs) (m : Mo w w') : w'.ownsRow N 5 1 v n xs :=
 h.kept (row := none) ⟨m.1.os, m.1.tape, m.1.output, m.1.size, fun k hk _ => m.1.block k hk⟩ (by cases e : v.ownBlock <;> simp)
theorem app1 (w : World) (ty : TypeId) (N : Nat) (v : Value) (n : Nat) (xs : List Value) (hown : w.ownsRow N 5 1 v n xs) (k : Nat) (c : Int) (hA : At w k [.int .u8 c]) (hn : n ≤ 1000) (hN : N ≤ w.heap.size) :
  ∃ v' w', (Builtin.append_ #[81, 81] ty #[v, .slice (some ⟨k, 0, none⟩) 1 1]).run Tryz.prog w = .ok v' w' ∧ w'.ownsRow N 5 1 v' (n + 1) (xs ++ [.int .u8 c]) ∧ AppW v w w' ∧ (v'.ownBlock = v.ownBlock ∨ v'.ownBlock = some w.heap.size) := by
 obtain ⟨i, hi, hz, hs, hby⟩ := inf5
 have hnews : ∀ j u, ([Value.int .u8 c] : List Value)[j]? = some u → w.cell? ((⟨k, 0, none⟩ : Addr).add j) = some u := fun j u hu => by
  rw [Addr.add_mid]; have := hA.1 j u hu; simpa using this
 obtain ⟨v', w', hr, h2, h3, _, h5⟩ := run_append_own_at (P := Tryz.prog) w N 81 ty 5 i (.int .u8 0) 1 1 Tryz.underlying81 hi hz hs hby rfl (by decide) v n xs hown ⟨k, 0, none⟩ 1 1 [.int .u8 c] rfl hnews (by simp [Value.oneCell']) (by unfold maxLen; omega) (by omega) hN
 refine ⟨v', w', hr, h2, ⟨h3.os, h3.tape, h3.output, h3.size, fun j hj hne => h3.block j hj (fun e => hne e.symm), ?_⟩, h5⟩
 -- the marks: arm by arm
 rcases hown.2 with ⟨rfl, rfl⟩ | ⟨g, cap, cur, rfl, hbg, hg, hnc, hcm, hcs, htake⟩
 ·have hr2 := run_append_nil (P := Tryz.prog) w 81 ty 5 i (.int .u8 0) Tryz.underlying81 hi hz ⟨k, 0, none⟩ 1 1 [.int .u8 c] (by rw [hs]; rfl) hnews (by decide) (by decide) (by omega)
  rw [hr2] at hr
  cases hr
  exact ((Mo.refl w).drew.alloc _ _).2
 ·by_cases hroom : n + 1 ≤ cap
  ·have hr2 := run_append_room (P := Tryz.prog) w 81 ty 5 i Tryz.underlying81 hi g n cap cur hg ⟨k, 0, none⟩ 1 1 [.int .u8 c] (by rw [hs]; rfl) hnews (by simp [Value.oneCell']) hroom (by rw [hs]; simp; omega)
   rw [hr2] at hr
   cases hr
   intro a
   by_cases e : a.block = g
   ·have h1 := setRow_heap w g cur (cur.toList.take (n * i.size) ++ [Value.int .u8 c] ++ cur.toList.drop (n * i.size + [Value.int .u8 c].length)).toArray 5 (0, 0) hg
    simp only [World.frozen?, e, h1, hg]
   ·exact World.frozen?_of_block (setRow_other w g a.block _ e)
  ·have hr2 := run_append_grow (P := Tryz.prog) w 81 ty 5 i (.int .u8 0) Tryz.underlying81 hi hz ⟨g, 0, none⟩ n cap xs (by rw [hs]; exact hown.1) (hown.cells (g := g) rfl) ⟨k, 0, none⟩ 1 1 [.int .u8 c] (by rw [hs]; rfl) hnews (by omega) (by omega) (by rw [hby]; exact growslice_fits (by omega) (by omega))
   rw [hr2] at hr
   cases hr
   exact ((Mo.refl w).drew.alloc _ _).2
section
variable {o : Oper} {n : Nat} {l : List (Nat × Value)} {w : World} {ops : Array Oper} {rest : List Oper} {Q : Exit → Act → World → Prop}
theorem wl_bsl (x : Operand) (c : Int) (ho : o.op = .buildSlice 81 1 #[(0, x)]) (hx : evl n l x = .int .u8 c) (hg : wnt n l ops o = true)
  (hk : ∀ k w', w.heap.size = k → w'.heap.size = k + 1 → Mo w w' → At w' k [.int .u8 c] → WL Tryz.prog ops Q rest n (ext l o.dst (.slice (some ⟨k, 0, none⟩) 1 1)) w') : WL Tryz.prog ops Q (o :: rest) n l w :=
 ⟨l_step hg (o_val (.slice (some ⟨w.heap.size, 0, none⟩) 1 1) (w' := w.alloc (.cells #[.int .u8 c] 5)) (by simp [execOp, ho, hx, bsl]) (hk _ _ rfl (by simp) ((Mo.refl _).alloc _ _) (At.new w #[.int .u8 c] 5)).out)⟩
theorem wl_app (s x : Operand) (N : Nat) (v : Value) (m : Nat) (xs : List Value) (k : Nat) (c : Int) (ho : o.op = .call { callee := .builtin .append, args := #[s, x], argTypes := #[81, 81] }) (hs : evl n l s = v) (hx : evl n l x = .slice (some ⟨k, 0, none⟩) 1 1)
  (hown : w.ownsRow N 5 1 v m xs) (hA : At w k [.int .u8 c]) (hm : m ≤ 1000) (hN : N ≤ w.heap.size) (hg : wnt n l ops o = true)
  (hk : ∀ v' w', w'.ownsRow N 5 1 v' (m + 1) (xs ++ [.int .u8 c]) → AppW v w w' → (v'.ownBlock = v.ownBlock ∨ v'.ownBlock = some w.heap.size) → WL Tryz.prog ops Q rest n (ext l o.dst v') w') : WL Tryz.prog ops Q (o :: rest) n l w := by
 obtain ⟨v', w', hr, h2, h3, h4⟩ := app1 w o.type N v m xs hown k c hA hm hN
 refine ⟨l_step hg (o_val v' (w' := w') ?_ (hk v' w' h2 h3 h4).out)⟩
 unfold execOp
 simp only [ho, resolve, invoke, builtin, Sem.run_bind, Sem.run_pure, Result.andThen_ok, List.map_toArray, List.map_cons, List.map_nil, hs, hx, hr]
end
theorem own_at {w : World} {N g cap n : Nat} {xs : List Value} (h : w.ownsRow N 5 1 (.slice (some ⟨g, 0, none⟩) n cap) n xs) : At w g xs := by
 have hl := h.1
 refine ⟨fun j v hv => ?_, fun o => h.frozenAt o, (h.lt g rfl).2⟩
 have hj : j < xs.length := (List.getElem?_eq_some_iff.1 hv).1
 rw [Nat.zero_add, h.cellAt j (by omega)]; exact hv
theorem set_tk {vs : List Value} {i : Nat} {v : Value} (h : i < vs.length) : vs.set i v = vs.take i ++ [v] ++ vs.drop (i + 1) := by
 rw [List.set_eq_take_append_cons_drop, if_pos h]; simp
theorem blt_t {a b : Nat} (h : a < b) : Nat.blt a b = true := by rw [Nat.blt_eq]; exact h
def dRev : Nat → Int → List Int
 | 0, _ => []
 | f + 1, n => if n = 0 then [] else (48 + n % 10) :: dRev f (n / 10)
theorem dRev_decF : ∀ (f : Nat) (n : Int), 0 < n → n < 10 ^ (f + 1) → (dRev (f + 1) n).reverse = decF (f + 1) n
 | 0, n, h0, h => by
  have : n / 10 = 0 := by simp at h; omega
  unfold dRev decF
  rw [if_neg (by omega), if_pos this]
  simp [dRev]
 | f + 1, n, h0, h => by
  unfold dRev decF
  rw [if_neg (by omega)]
  by_cases hz : n / 10 = 0
  ·rw [if_pos hz, hz]
   have : dRev (f + 1) 0 = [] := by unfold dRev; rw [if_pos rfl]
   rw [this]; simp
  ·rw [if_neg hz, List.reverse_cons, dRev_decF f (n / 10) (by omega) (by rw [Int.pow_succ] at h; omega)]
theorem dRev_step {f : Nat} {n : Int} (h : n ≠ 0) : dRev (f + 1) n = (48 + n % 10) :: dRev f (n / 10) := by
 show (if n = 0 then [] else (48 + n % 10) :: dRev f (n / 10)) = _
 rw [if_neg h]
theorem dRev_zero (f : Nat) : dRev f 0 = [] := by cases f with | zero => rfl | succ f => unfold dRev; rw [if_pos rfl]
def RvI (xs : List Int) (i : Nat) (zs : List Int) : Prop := zs.length = xs.length ∧ ∀ p, p < xs.length → zs.getD p 0 = if p < i ∨ xs.length - i ≤ p then xs.getD (xs.length - 1 - p) 0 else xs.getD p 0
theorem RvI.start (xs : List Int) : RvI xs 0 xs := ⟨rfl, fun p hp => by rw [if_neg (by omega)]⟩
theorem RvI.step {xs zs : List Int} {i j : Nat} (h : RvI xs i zs) (hij : i < j) (hl : i + j + 1 = xs.length) : RvI xs (i + 1) ((zs.set i (zs.getD j 0)).set j (zs.getD i 0)) := by
 obtain ⟨h1, h2⟩ := h
 refine ⟨by simp [h1], fun p hp => ?_⟩
 have hi := h2 i (by omega)
 have hj := h2 j (by omega)
 rw [if_neg (by omega)] at hi hj
 simp only [List.getD_eq_getElem?_getD] at *
 rw [List.getElem?_set, List.getElem?_set]
 by_cases e1 : j = p
 ·subst e1
  rw [if_pos rfl, if_pos (by simp; omega), if_pos (by omega)]
  simp only [Option.getD_some]
  rw [hi, show xs.length - 1 - j = i by omega]
 ·rw [if_neg e1]
  by_cases e2 : i = p
  ·subst e2
   rw [if_pos rfl, if_pos (by omega), if_pos (by omega)]
   simp only [Option.getD_some]
   rw [hj, show xs.length - 1 - i = j by omega]
  ·rw [if_neg e2, h2 p hp]
   by_cases c : p < i ∨ xs.length - i ≤ p
   ·rw [if_pos c, if_pos (by omega)]
   ·rw [if_neg c, if_neg (by omega)]
theorem RvI.done {xs zs : List Int} {i j : Nat} (h : RvI xs i zs) (hij : ¬ i < j) (hl : i + j + 1 = xs.length) : zs = xs.reverse := by
 obtain ⟨h1, h2⟩ := h
 apply List.ext_getElem
 ·simp [h1]
 ·intro p a b
  have hp : p < xs.length := by omega
  have := h2 p hp
  simp only [List.getD_eq_getElem?_getD, List.getElem?_eq_getElem a, Option.getD_some] at this
  rw [this, List.getElem_reverse]
  by_cases c : p < i ∨ xs.length - i ≤ p
  ·rw [if_pos c, List.getElem?_eq_getElem (by omega), Option.getD_some]
  ·rw [if_neg c, List.getElem?_eq_getElem (by omega), Option.getD_some]
   congr 1; omega
theorem str_run (w : World) (g c : Nat) (ns : List Int) (hA : At w g (ns.map (Value.int .u8))) (m : Nat) (hm : m = ns.length) : (convert 81 9 (.slice (some ⟨g, 0, none⟩) m c)).run Tryz.prog w = .ok (.string (strOf ns)) w := by
 subst hm
 rw [run_convert_bytes_string w 81 9 5 _ _ _ Tryz.underlying81 Tryz.underlying5 Tryz.underlying9, run_bytesToString w _ _ _ ns]
 ·rfl
 ·have := run_loadCells_list (P := Tryz.prog) w ⟨g, 0, none⟩ (ns.map (Value.int .u8)) (fun j v hv => by rw [Addr.add_mid]; exact hA.1 j v hv)
  simpa using this
end Go.Proofs.YtogomodbcjpfiaaGreatDoor

namespace Go.Proofs.YtogomodbcjpfiaaGreatDoor
open Go.RowKit
theorem shlA (a : Int) (x y : Operand) (w : World) : (do eqGuard .shl 22 x y (.int .u64 a) (.int .u64 32); binOp .shl 22 (.int .u64 a) (.int .u64 32)).run Tryz.prog w = .ok (.int .u64 (IntKind.u64.wrap (a * 2 ^ 32))) w := by kernel_rfl
theorem shlB (a : Int) (x y : Operand) (w : World) : (do eqGuard .shl 22 x y (.int .u64 a) (.int .i64 32); binOp .shl 22 (.int .u64 a) (.int .i64 32)).run Tryz.prog w = .ok (.int .u64 (IntKind.u64.wrap (a * 2 ^ 32))) w := by kernel_rfl
theorem shlC (a : Int) (x y : Operand) (w : World) : (do eqGuard .shl 22 x y (.int .u64 a) (.int .i64 0); binOp .shl 22 (.int .u64 a) (.int .i64 0)).run Tryz.prog w = .ok (.int .u64 (IntKind.u64.wrap (a * 2 ^ 0))) w := by kernel_rfl
theorem quoA (a : Int) (x y : Operand) (w : World) : (do eqGuard .quo 22 x y (.int .u64 a) (.int .u64 10); binOp .quo 22 (.int .u64 a) (.int .u64 10)).run Tryz.prog w = .ok (.int .u64 (IntKind.u64.wrap (a.tdiv 10))) w := by kernel_rfl
theorem addU (a b : Int) (x y : Operand) (w : World) : (do eqGuard .add 22 x y (.int .u64 a) (.int .u64 b); binOp .add 22 (.int .u64 a) (.int .u64 b)).run Tryz.prog w = .ok (.int .u64 (IntKind.u64.wrap (a + b))) w := by kernel_rfl
theorem remA (a : Int) (x y : Operand) (w : World) : (do eqGuard .rem 22 x y (.int .u64 a) (.int .u64 10); binOp .rem 22 (.int .u64 a) (.int .u64 10)).run Tryz.prog w = .ok (.int .u64 (a.tmod 10)) w := by kernel_rfl
theorem cvA (a : Int) (w : World) : (convert 22 5 (.int .u64 a)).run Tryz.prog w = .ok (.int .u8 (IntKind.u8.wrap a)) w := by kernel_rfl
theorem shlu_run {a c : Int} (h : a * 4294967296 = c) (h0 : 0 ≤ c) (h1 : c < 18446744073709551616) (x y : Operand) (w : World) : (do eqGuard .shl 22 x y (.int .u64 a) (.int .u64 32); binOp .shl 22 (.int .u64 a) (.int .u64 32)).run Tryz.prog w = .ok (.int .u64 c) w := by
 have e : IntKind.u64.wrap (a * 2 ^ 32) = c := by rw [IntKind.wrap_u64]; omega
 rw [shlA, e]
theorem shli_run {a c : Int} (h : a * 4294967296 = c) (h0 : 0 ≤ c) (h1 : c < 18446744073709551616) (x y : Operand) (w : World) : (do eqGuard .shl 22 x y (.int .u64 a) (.int .i64 32); binOp .shl 22 (.int .u64 a) (.int .i64 32)).run Tryz.prog w = .ok (.int .u64 c) w := by
 have e : IntKind.u64.wrap (a * 2 ^ 32) = c := by rw [IntKind.wrap_u64]; omega
 rw [shlB, e]
theorem shl0_run {a : Int} (h0 : 0 ≤ a) (h1 : a < 18446744073709551616) (x y : Operand) (w : World) : (do eqGuard .shl 22 x y (.int .u64 a) (.int .i64 0); binOp .shl 22 (.int .u64 a) (.int .i64 0)).run Tryz.prog w = .ok (.int .u64 a) w := by
 have e : IntKind.u64.wrap (a * 2 ^ 0) = a := by rw [IntKind.wrap_u64]; omega
 rw [shlC, e]
theorem quou_run {a c : Int} (h : a / 10 = c) (h0 : 0 ≤ a) (h1 : a < 18446744073709551616) (x y : Operand) (w : World) : (do eqGuard .quo 22 x y (.int .u64 a) (.int .u64 10); binOp .quo 22 (.int .u64 a) (.int .u64 10)).run Tryz.prog w = .ok (.int .u64 c) w := by
 have e : IntKind.u64.wrap (a.tdiv 10) = c := by rw [IntKind.wrap_u64, Int.tdiv_eq_ediv_of_nonneg h0]; omega
 rw [quoA, e]
theorem remu_run {a c : Int} (h : a % 10 = c) (h0 : 0 ≤ a) (x y : Operand) (w : World) : (do eqGuard .rem 22 x y (.int .u64 a) (.int .u64 10); binOp .rem 22 (.int .u64 a) (.int .u64 10)).run Tryz.prog w = .ok (.int .u64 c) w := by
 have e : a.tmod 10 = c := by rw [Int.tmod_eq_emod_of_nonneg h0]; exact h
 rw [remA, e]
theorem addu_run {a b c : Int} (h : a + b = c) (h0 : 0 ≤ c) (h1 : c < 18446744073709551616) (x y : Operand) (w : World) : (do eqGuard .add 22 x y (.int .u64 a) (.int .u64 b); binOp .add 22 (.int .u64 a) (.int .u64 b)).run Tryz.prog w = .ok (.int .u64 c) w := by
 have e : IntKind.u64.wrap (a + b) = c := by rw [IntKind.wrap_u64]; omega
 rw [addU, e]
theorem sz22b : (Tryz.prog.info? 22).map (·.size) = some 1 := by kernel_rfl
def qc (y : Nat → Int) : Nat → List Value
 | 0 => [.int .u64 (y 1 * 4294967296 + y 0), .int .u64 (y 3 * 4294967296 + y 2), .int .u64 (y 5 * 4294967296 + y 4), .int .u64 (y 7 * 4294967296 + y 6)]
 | 1 => [.int .u64 (y 1 * 4294967296), .int .u64 (y 3 * 4294967296 + y 2), .int .u64 (y 5 * 4294967296 + y 4), .int .u64 (y 7 * 4294967296 + y 6)]
 | 2 => [.int .u64 0, .int .u64 (y 3 * 4294967296 + y 2), .int .u64 (y 5 * 4294967296 + y 4), .int .u64 (y 7 * 4294967296 + y 6)]
 | 3 => [.int .u64 0, .int .u64 (y 3 * 4294967296), .int .u64 (y 5 * 4294967296 + y 4), .int .u64 (y 7 * 4294967296 + y 6)]
 | 4 => [.int .u64 0, .int .u64 0, .int .u64 (y 5 * 4294967296 + y 4), .int .u64 (y 7 * 4294967296 + y 6)]
 | 5 => [.int .u64 0, .int .u64 0, .int .u64 (y 5 * 4294967296), .int .u64 (y 7 * 4294967296 + y 6)]
 | 6 => [.int .u64 0, .int .u64 0, .int .u64 0, .int .u64 (y 7 * 4294967296 + y 6)]
 | 7 => [.int .u64 0, .int .u64 0, .int .u64 0, .int .u64 (y 7 * 4294967296)]
 | _ => [.int .u64 0, .int .u64 0, .int .u64 0, .int .u64 0]
theorem small_w (n : Int) (x y r : Nat → Int) (w : World) (hr8 : r 8 = 0) (hxy : ∀ i, i < 8 → r (i + 1) * 4294967296 + dg n i = x i ∧ x i / 10 = y i ∧ x i % 10 = r i)
  (rb : ∀ i, i ≤ 8 → 0 ≤ r i ∧ r i < 10) (yb : ∀ i, i < 8 → 0 ≤ y i ∧ y i < 4294967296) :
  Calls Tryz.prog 112 #[nv n, .int .u64 10] w fun e w' => e = .returned (.tuple #[.agg (qc y 0).toArray, .int .u64 (r 0)]) ∧ Mo w w' := by
 refine w_enter 38 Tryz.func112 Tryz.ntmps112 rfl rfl ?_
 have M : Mo w w := Mo.refl _
 refine w_seq (w_reg ?_)
 refine wl_box 24 (.tmp 0) (nv (n)) ((nvar (n))) rfl rfl (fun _ => by kernel_rfl) rfl ?_
 intro k1 w1 hk hz hq Q1
 have N_k1 : w.heap.size ≤ k1 := by have := M.size; omega
 replace M := M.trans hq
 clear hk hz hq
 refine wl_alloc 24 #[.int .u64 0, .int .u64 0, .int .u64 0, .int .u64 0] rfl (fun _ => by kernel_rfl) rfl ?_
 intro k2 w2 hk hz hq Q2
 have ne_k1_k2 : k1 ≠ k2 := by have := Q1.lt; omega
 have N_k2 : w.heap.size ≤ k2 := by have := M.size; omega
 replace Q1 := Q1.mo hq
 replace M := M.trans hq
 clear hk hz hq
 refine wl_m (.const (.int .u64 (0))) (.int .u64 (0)) ?_
 refine w_nil (xn_then (w_seq (w_reg ?_)))
 refine wl_alloc 24 #[.int .u64 0, .int .u64 0, .int .u64 0, .int .u64 0] rfl (fun _ => by kernel_rfl) rfl ?_
 intro k3 w3 hk hz hq Q3
 have ne_k1_k3 : k1 ≠ k3 := by have := Q1.lt; omega
 have ne_k2_k3 : k2 ≠ k3 := by have := Q2.lt; omega
 have N_k3 : w.heap.size ≤ k3 := by have := M.size; omega
 replace Q1 := Q1.mo hq
 replace Q2 := Q2.mo hq
 replace M := M.trans hq
 clear hk hz hq
 refine w_nil (xn_then (w_seq (w_reg ?_)))
 refine wl_m (.const (.int .u64 (0))) (.int .u64 (0)) ?_
 refine w_nil (xn_then (w_seq (w_seq (w_reg ?_))))
 refine wl_m (.const (.int .i64 (7))) (.int .i64 (7)) ?_
 refine w_nil (xn_then (w_block ?_))
 refine w_loop (fun m l w1 => m ≤ 8 ∧ look l 8 = .int .i64 ((m : Int) - 1) ∧ look l 7 = .int .u64 (r m) ∧ look l 1 = .int .u64 10 ∧ look l 2 = pt k1 0 ∧ look l 4 = pt k2 0 ∧ look l 6 = pt k3 0 ∧ At w1 k1 (nvli n) ∧ At w1 k2 [.int .u64 0, .int .u64 0, .int .u64 0, .int .u64 0] ∧ At w1 k3 (qc y m) ∧ Mo w w1) 8 ⟨by decide, rfl, by rw [hr8]; rfl, rfl, rfl, rfl, rfl, Q1, Q2, Q3, M⟩ ?_
 clear M Q1 Q2 Q3
 rintro m l wl ⟨hm, e8, e7, e1, e2, e4, e6, Q1, Q2, Q3, M⟩
 rcases m with _ | _ | _ | _ | _ | _ | _ | _ | _ | m
 ·replace e8 : look l 8 = .int .i64 (-1) := by rw [e8]; rfl
  refine w_seq (w_seq (w_reg ?_))
  refine wl_mv (.tmp 8) (.int .i64 (-1)) (fun _ => rfl) e8 rfl ?_
  refine wl_b .geq 3 (.tmp 10) (.const (.int .i64 (0))) (.int .i64 (-1)) (.int .i64 (0)) (.bool false) (by kernel_rfl) ?_
  refine w_nil (xn_then (w_condF rfl (w_exit (xx_then (xx_then (xx_blk (xn_then (w_seq (w_reg ?_)))))))))
  refine wl_load 24 (.tmp 6) (pt k3 0) (.agg #[.int .u64 (y 1 * 4294967296 + y 0), .int .u64 (y 3 * 4294967296 + y 2), .int .u64 (y 5 * 4294967296 + y 4), .int .u64 (y 7 * 4294967296 + y 6)]) rfl e6 (run_row Q3 24 0 4 _ rfl Tryz.underlying24 rfl sz24) rfl ?_
  refine wl_mv (.tmp 7) (.int .u64 (r 0)) (fun _ => rfl) e7 rfl ?_
  refine wl_st 24 (.tmp 4) (.tmp 36) k2 0 #[.int .u64 (y 1 * 4294967296 + y 0), .int .u64 (y 3 * 4294967296 + y 2), .int .u64 (y 5 * 4294967296 + y 4), .int .u64 (y 7 * 4294967296 + y 6)] _ [.int .u64 (y 1 * 4294967296 + y 0), .int .u64 (y 3 * 4294967296 + y 2), .int .u64 (y 5 * 4294967296 + y 4), .int .u64 (y 7 * 4294967296 + y 6)] Q2 rfl rfl e4 rfl rfl sz24 rfl rfl rfl ?_
  intro w21 hS Qn
  replace Q2 := Qn
  clear Qn
  replace Q1 := hS.other _ _ ne_k1_k2 Q1
  replace Q3 := hS.other _ _ ne_k2_k3.symm Q3
  replace M := hS.mo _ N_k2 M
  clear hS
  refine wl_m (.tmp 37) (.int .u64 (r 0)) ?_
  refine w_nil (xn_then (w_ret ?_))
  exact w_ret2 _ _ (.agg #[.int .u64 (y 1 * 4294967296 + y 0), .int .u64 (y 3 * 4294967296 + y 2), .int .u64 (y 5 * 4294967296 + y 4), .int .u64 (y 7 * 4294967296 + y 6)]) (.int .u64 (r 0)) rfl ⟨k2, e4, (run_row Q2 24 0 4 _ rfl Tryz.underlying24 rfl sz24)⟩ rfl ⟨rfl, M⟩
 ·obtain ⟨hx, hy, hr⟩ := hxy 0 (by decide)
  have hd := dg_bd n 0
  have hb := rb 0 (by decide)
  have hb1 := rb 1 (by decide)
  have hy1 := yb 1 (by decide)
  have hy2 := yb 2 (by decide)
  have hy3 := yb 3 (by decide)
  have hy4 := yb 4 (by decide)
  have hy5 := yb 5 (by decide)
  have hy6 := yb 6 (by decide)
  have hy7 := yb 7 (by decide)
  have hyi := yb 0 (by decide)
  refine w_seq (w_seq (w_reg ?_))
  refine wl_mv (.tmp 8) (.int .i64 (0)) (fun _ => rfl) e8 rfl ?_
  refine wl_b .geq 3 (.tmp 10) (.const (.int .i64 (0))) (.int .i64 (0)) (.int .i64 (0)) (.bool true) (by kernel_rfl) ?_
  refine w_nil (xn_then (w_condT rfl (w_skip (xn_then (w_seq (w_block (w_seq (w_reg ?_))))))))
  refine wl_mv (.tmp 7) (.int .u64 (r 1)) (fun _ => rfl) e7 rfl ?_
  refine wl_b .shl 22 (.tmp 14) (.const (.int .u64 (32))) (.int .u64 (r 1)) (.int .u64 (32)) (.int .u64 (r 1 * 4294967296)) (shlu_run rfl (by omega) (by omega) _ _ _) ?_
  refine wl_load 24 (.tmp 2) (pt k1 0) (nv (n)) rfl e2 (run_row Q1 24 0 4 (nvli (n)) rfl Tryz.underlying24 rfl sz24) rfl ?_
  refine wl_mv (.tmp 8) (.int .i64 (0)) (fun _ => rfl) e8 rfl ?_
  refine wl_call 124 [(.tmp 16), (.tmp 17)] _ [nv (n), .int .i64 (0)] (.int .u64 (dg n 0)) rfl rfl (fun _ _ => by kernel_rfl) (half_any n 0 _ (by decide)) rfl ?_
  intro w21 hq
  replace Q1 := Q1.mo hq
  replace Q2 := Q2.mo hq
  replace Q3 := Q3.mo hq
  replace M := M.trans hq
  clear hq
  refine wl_b .add 22 (.tmp 15) (.tmp 18) (.int .u64 (r 1 * 4294967296)) (.int .u64 (dg n 0)) (.int .u64 (x 0)) (addu_run hx (by omega) (by omega) _ _ _) ?_
  refine wl_m (.tmp 19) (.int .u64 (x 0)) ?_
  refine w_nil (xn_then (w_seq ?_))
  refine w_any 13 [.inl (.int .i64 (0)), .inl (.int .i64 (0)), .inl (pt k3 0), .inl (.int .u64 (y 1 * 4294967296)), .inl (.int .u64 (x 0)), .inl (.int .u64 10), .inl (.int .u64 (y 0)), .inl (.int .i64 (0)), .inl (.int .i64 (0)), .inl (.int .i64 (0)), .inl (.int .u64 (y 0)), .inl (.int .u64 (y 1 * 4294967296 + y 0)), .inl (pt k3 0)] [] (by kernel_rfl) (by kernel_rfl) (by kernel_rfl) (by kernel_rfl) rfl (by kernel_rfl) (by kernel_rfl) late_nil ?_ ?_ ?_
  ·exact Ds.none rfl
  ·refine ea_cons ?_ (ea_cons ?_ (ea_cons ?_ (ea_cons ?_ (ea_cons ?_ (ea_cons ?_ (ea_cons ?_ (ea_cons ?_ (ea_cons ?_ (ea_cons ?_ (ea_cons ?_ (ea_cons ?_ (ea_cons ?_ (ea_nil)))))))))))))
   ·exact og_eq _ rfl (fun f wf hq hd K hK => go_run rfl (wo_mv (.tmp 8) (.int .i64 (0)) (fun _ => rfl) e8 (hK _ (Mo.refl _))))
   ·exact og_eq _ rfl (fun f wf hq hd K hK => go_run rfl (wo_bin (fun x y => do eqGuard .quo 3 (.tmp 20) (.const (.int .i64 (2))) x y; binOp .quo 3 x y) (.tmp 20) (.const (.int .i64 (2))) (.int .i64 (0)) (.int .i64 (2)) (.int .i64 (0)) (fun _ => rfl) (hd 0 rfl) rfl (by kernel_rfl) (hK _ (Mo.refl _))))
   ·exact og_eq _ rfl (fun f wf hq hd K hK => go_run rfl (wo_bin (fun x y => Instr.indexAt 24 x y) (.tmp 6) (.tmp 21) (pt k3 0) (.int .i64 (0)) (pt k3 0) (fun _ => rfl) e6 (hd 1 rfl) (by kernel_rfl) (hK _ (Mo.refl _))))
   ·exact og_eq _ rfl (fun f wf hq hd K hK => have Q3 := Q3.mo hq; go_run rfl (wo_load 22 (.tmp 22) (pt k3 0) (.int .u64 (y 1 * 4294967296)) rfl (hd 2 rfl) (run_one Q3 22 0 rfl Tryz.underlying22 rfl) (hK _ (Mo.refl _))))
   ·exact og_eq _ rfl (fun f wf hq hd K hK => go_run rfl (wo_mv (.tmp 9) (.int .u64 (x 0)) (fun _ => rfl) rfl (hK _ (Mo.refl _))))
   ·exact og_eq _ rfl (fun f wf hq hd K hK => go_run rfl (wo_mv (.tmp 1) (.int .u64 10) (fun _ => rfl) e1 (hK _ (Mo.refl _))))
   ·exact og_eq _ rfl (fun f wf hq hd K hK => go_run rfl (wo_bin (fun x y => do eqGuard .quo 22 (.tmp 24) (.tmp 25) x y; binOp .quo 22 x y) (.tmp 24) (.tmp 25) (.int .u64 (x 0)) (.int .u64 10) (.int .u64 (y 0)) (fun _ => rfl) (hd 4 rfl) (hd 5 rfl) (quou_run hy (by omega) (by omega) _ _ _) (hK _ (Mo.refl _))))
   ·exact og_eq _ rfl (fun f wf hq hd K hK => go_run rfl (wo_mv (.tmp 8) (.int .i64 (0)) (fun _ => rfl) e8 (hK _ (Mo.refl _))))
   ·exact og_eq _ rfl (fun f wf hq hd K hK => go_run rfl (wo_bin (fun x y => do eqGuard .rem 3 (.tmp 27) (.const (.int .i64 (2))) x y; binOp .rem 3 x y) (.tmp 27) (.const (.int .i64 (2))) (.int .i64 (0)) (.int .i64 (2)) (.int .i64 (0)) (fun _ => rfl) (hd 7 rfl) rfl (by kernel_rfl) (hK _ (Mo.refl _))))
   ·exact og_eq _ rfl (fun f wf hq hd K hK => go_run rfl (wo_bin (fun x y => do eqGuard .mul 3 (.tmp 28) (.const (.int .i64 (32))) x y; binOp .mul 3 x y) (.tmp 28) (.const (.int .i64 (32))) (.int .i64 (0)) (.int .i64 (32)) (.int .i64 (0)) (fun _ => rfl) (hd 8 rfl) rfl (by kernel_rfl) (hK _ (Mo.refl _))))
   ·exact og_eq _ rfl (fun f wf hq hd K hK => go_run rfl (wo_bin (fun x y => do eqGuard .shl 22 (.tmp 26) (.tmp 29) x y; binOp .shl 22 x y) (.tmp 26) (.tmp 29) (.int .u64 (y 0)) (.int .i64 (0)) (.int .u64 (y 0)) (fun _ => rfl) (hd 6 rfl) (hd 9 rfl) (shl0_run (by omega) (by omega) _ _ _) (hK _ (Mo.refl _))))
   ·exact og_eq _ rfl (fun f wf hq hd K hK => go_run rfl (wo_bin (fun x y => do eqGuard .add 22 (.tmp 23) (.tmp 30) x y; binOp .add 22 x y) (.tmp 23) (.tmp 30) (.int .u64 (y 1 * 4294967296)) (.int .u64 (y 0)) (.int .u64 (y 1 * 4294967296 + y 0)) (fun _ => rfl) (hd 3 rfl) (hd 10 rfl) (addu_run (by omega) (by omega) (by omega) _ _ _) (hK _ (Mo.refl _))))
   ·exact og_eq _ rfl (fun f wf hq hd K hK => go_run rfl (wo_bin (fun x y => Instr.indexAt 24 x y) (.tmp 6) (.tmp 21) (pt k3 0) (.int .i64 (0)) (pt k3 0) (fun _ => rfl) e6 (hd 1 rfl) (by kernel_rfl) (hK _ (Mo.refl _))))
  intro kf22 w22 hq hR hne
  replace Q1 := Q1.mo hq
  replace Q2 := Q2.mo hq
  replace Q3 := Q3.mo hq
  replace M := M.trans hq
  clear hq hR hne
  refine wl_st1 22 (.tmp 32) (.tmp 31) k3 0 (.int .u64 (y 1 * 4294967296 + y 0)) _ [.int .u64 (y 1 * 4294967296 + y 0), .int .u64 (y 3 * 4294967296 + y 2), .int .u64 (y 5 * 4294967296 + y 4), .int .u64 (y 7 * 4294967296 + y 6)] Q3 rfl rfl rfl rfl rfl sz22b rfl rfl rfl rfl ?_
  intro w23 hS Qn
  replace Q3 := Qn
  clear Qn
  replace Q1 := hS.other _ _ ne_k1_k3 Q1
  replace Q2 := hS.other _ _ ne_k2_k3 Q2
  replace M := hS.mo _ N_k3 M
  clear hS
  refine w_nil (xn_then (w_reg ?_))
  refine wl_m (.tmp 9) (.int .u64 (x 0)) ?_
  refine wl_mv (.tmp 1) (.int .u64 10) (fun _ => rfl) e1 rfl ?_
  refine wl_b .rem 22 (.tmp 33) (.tmp 34) (.int .u64 (x 0)) (.int .u64 10) (.int .u64 (r 0)) (remu_run hr (by omega) _ _ _) ?_
  refine wl_m (.tmp 35) (.int .u64 (r 0)) ?_
  refine w_nil (xn_blk (xn_then (w_reg ?_)))
  refine wl_mv (.tmp 8) (.int .i64 (0)) (fun _ => rfl) e8 rfl ?_
  refine wl_b .sub 3 (.tmp 12) (.const (.int .i64 (1))) (.int .i64 (0)) (.int .i64 (1)) (.int .i64 (-1)) (by kernel_rfl) ?_
  refine wl_m (.tmp 13) (.int .i64 (-1)) ?_
  refine w_nil ?_
  exact xn_loop 0 (by decide) ⟨by decide, rfl, rfl, e1, e2, e4, e6, Q1, Q2, Q3, M⟩
 ·obtain ⟨hx, hy, hr⟩ := hxy 1 (by decide)
  have hd := dg_bd n 1
  have hb := rb 1 (by decide)
  have hb1 := rb 2 (by decide)
  have hy2 := yb 2 (by decide)
  have hy3 := yb 3 (by decide)
  have hy4 := yb 4 (by decide)
  have hy5 := yb 5 (by decide)
  have hy6 := yb 6 (by decide)
  have hy7 := yb 7 (by decide)
  have hyi := yb 1 (by decide)
  refine w_seq (w_seq (w_reg ?_))
  refine wl_mv (.tmp 8) (.int .i64 (1)) (fun _ => rfl) e8 rfl ?_
  refine wl_b .geq 3 (.tmp 10) (.const (.int .i64 (0))) (.int .i64 (1)) (.int .i64 (0)) (.bool true) (by kernel_rfl) ?_
  refine w_nil (xn_then (w_condT rfl (w_skip (xn_then (w_seq (w_block (w_seq (w_reg ?_))))))))
  refine wl_mv (.tmp 7) (.int .u64 (r 2)) (fun _ => rfl) e7 rfl ?_
  refine wl_b .shl 22 (.tmp 14) (.const (.int .u64 (32))) (.int .u64 (r 2)) (.int .u64 (32)) (.int .u64 (r 2 * 4294967296)) (shlu_run rfl (by omega) (by omega) _ _ _) ?_
  refine wl_load 24 (.tmp 2) (pt k1 0) (nv (n)) rfl e2 (run_row Q1 24 0 4 (nvli (n)) rfl Tryz.underlying24 rfl sz24) rfl ?_
  refine wl_mv (.tmp 8) (.int .i64 (1)) (fun _ => rfl) e8 rfl ?_
  refine wl_call 124 [(.tmp 16), (.tmp 17)] _ [nv (n), .int .i64 (1)] (.int .u64 (dg n 1)) rfl rfl (fun _ _ => by kernel_rfl) (half_any n 1 _ (by decide)) rfl ?_
  intro w21 hq
  replace Q1 := Q1.mo hq
  replace Q2 := Q2.mo hq
  replace Q3 := Q3.mo hq
  replace M := M.trans hq
  clear hq
  refine wl_b .add 22 (.tmp 15) (.tmp 18) (.int .u64 (r 2 * 4294967296)) (.int .u64 (dg n 1)) (.int .u64 (x 1)) (addu_run hx (by omega) (by omega) _ _ _) ?_
  refine wl_m (.tmp 19) (.int .u64 (x 1)) ?_
  refine w_nil (xn_then (w_seq ?_))
  refine w_any 13 [.inl (.int .i64 (1)), .inl (.int .i64 (0)), .inl (pt k3 0), .inl (.int .u64 0), .inl (.int .u64 (x 1)), .inl (.int .u64 10), .inl (.int .u64 (y 1)), .inl (.int .i64 (1)), .inl (.int .i64 (1)), .inl (.int .i64 (32)), .inl (.int .u64 (y 1 * 4294967296)), .inl (.int .u64 (y 1 * 4294967296)), .inl (pt k3 0)] [] (by kernel_rfl) (by kernel_rfl) (by kernel_rfl) (by kernel_rfl) rfl (by kernel_rfl) (by kernel_rfl) late_nil ?_ ?_ ?_
  ·exact Ds.none rfl
  ·refine ea_cons ?_ (ea_cons ?_ (ea_cons ?_ (ea_cons ?_ (ea_cons ?_ (ea_cons ?_ (ea_cons ?_ (ea_cons ?_ (ea_cons ?_ (ea_cons ?_ (ea_cons ?_ (ea_cons ?_ (ea_cons ?_ (ea_nil)))))))))))))
   ·exact og_eq _ rfl (fun f wf hq hd K hK => go_run rfl (wo_mv (.tmp 8) (.int .i64 (1)) (fun _ => rfl) e8 (hK _ (Mo.refl _))))
   ·exact og_eq _ rfl (fun f wf hq hd K hK => go_run rfl (wo_bin (fun x y => do eqGuard .quo 3 (.tmp 20) (.const (.int .i64 (2))) x y; binOp .quo 3 x y) (.tmp 20) (.const (.int .i64 (2))) (.int .i64 (1)) (.int .i64 (2)) (.int .i64 (0)) (fun _ => rfl) (hd 0 rfl) rfl (by kernel_rfl) (hK _ (Mo.refl _))))
   ·exact og_eq _ rfl (fun f wf hq hd K hK => go_run rfl (wo_bin (fun x y => Instr.indexAt 24 x y) (.tmp 6) (.tmp 21) (pt k3 0) (.int .i64 (0)) (pt k3 0) (fun _ => rfl) e6 (hd 1 rfl) (by kernel_rfl) (hK _ (Mo.refl _))))
   ·exact og_eq _ rfl (fun f wf hq hd K hK => have Q3 := Q3.mo hq; go_run rfl (wo_load 22 (.tmp 22) (pt k3 0) (.int .u64 0) rfl (hd 2 rfl) (run_one Q3 22 0 rfl Tryz.underlying22 rfl) (hK _ (Mo.refl _))))
   ·exact og_eq _ rfl (fun f wf hq hd K hK => go_run rfl (wo_mv (.tmp 9) (.int .u64 (x 1)) (fun _ => rfl) rfl (hK _ (Mo.refl _))))
   ·exact og_eq _ rfl (fun f wf hq hd K hK => go_run rfl (wo_mv (.tmp 1) (.int .u64 10) (fun _ => rfl) e1 (hK _ (Mo.refl _))))
   ·exact og_eq _ rfl (fun f wf hq hd K hK => go_run rfl (wo_bin (fun x y => do eqGuard .quo 22 (.tmp 24) (.tmp 25) x y; binOp .quo 22 x y) (.tmp 24) (.tmp 25) (.int .u64 (x 1)) (.int .u64 10) (.int .u64 (y 1)) (fun _ => rfl) (hd 4 rfl) (hd 5 rfl) (quou_run hy (by omega) (by omega) _ _ _) (hK _ (Mo.refl _))))
   ·exact og_eq _ rfl (fun f wf hq hd K hK => go_run rfl (wo_mv (.tmp 8) (.int .i64 (1)) (fun _ => rfl) e8 (hK _ (Mo.refl _))))
   ·exact og_eq _ rfl (fun f wf hq hd K hK => go_run rfl (wo_bin (fun x y => do eqGuard .rem 3 (.tmp 27) (.const (.int .i64 (2))) x y; binOp .rem 3 x y) (.tmp 27) (.const (.int .i64 (2))) (.int .i64 (1)) (.int .i64 (2)) (.int .i64 (1)) (fun _ => rfl) (hd 7 rfl) rfl (by kernel_rfl) (hK _ (Mo.refl _))))
   ·exact og_eq _ rfl (fun f wf hq hd K hK => go_run rfl (wo_bin (fun x y => do eqGuard .mul 3 (.tmp 28) (.const (.int .i64 (32))) x y; binOp .mul 3 x y) (.tmp 28) (.const (.int .i64 (32))) (.int .i64 (1)) (.int .i64 (32)) (.int .i64 (32)) (fun _ => rfl) (hd 8 rfl) rfl (by kernel_rfl) (hK _ (Mo.refl _))))
   ·exact og_eq _ rfl (fun f wf hq hd K hK => go_run rfl (wo_bin (fun x y => do eqGuard .shl 22 (.tmp 26) (.tmp 29) x y; binOp .shl 22 x y) (.tmp 26) (.tmp 29) (.int .u64 (y 1)) (.int .i64 (32)) (.int .u64 (y 1 * 4294967296)) (fun _ => rfl) (hd 6 rfl) (hd 9 rfl) (shli_run rfl (by omega) (by omega) _ _ _) (hK _ (Mo.refl _))))
   ·exact og_eq _ rfl (fun f wf hq hd K hK => go_run rfl (wo_bin (fun x y => do eqGuard .add 22 (.tmp 23) (.tmp 30) x y; binOp .add 22 x y) (.tmp 23) (.tmp 30) (.int .u64 0) (.int .u64 (y 1 * 4294967296)) (.int .u64 (y 1 * 4294967296)) (fun _ => rfl) (hd 3 rfl) (hd 10 rfl) (addu_run (by omega) (by omega) (by omega) _ _ _) (hK _ (Mo.refl _))))
   ·exact og_eq _ rfl (fun f wf hq hd K hK => go_run rfl (wo_bin (fun x y => Instr.indexAt 24 x y) (.tmp 6) (.tmp 21) (pt k3 0) (.int .i64 (0)) (pt k3 0) (fun _ => rfl) e6 (hd 1 rfl) (by kernel_rfl) (hK _ (Mo.refl _))))
  intro kf22 w22 hq hR hne
  replace Q1 := Q1.mo hq
  replace Q2 := Q2.mo hq
  replace Q3 := Q3.mo hq
  replace M := M.trans hq
  clear hq hR hne
  refine wl_st1 22 (.tmp 32) (.tmp 31) k3 0 (.int .u64 (y 1 * 4294967296)) _ [.int .u64 (y 1 * 4294967296), .int .u64 (y 3 * 4294967296 + y 2), .int .u64 (y 5 * 4294967296 + y 4), .int .u64 (y 7 * 4294967296 + y 6)] Q3 rfl rfl rfl rfl rfl sz22b rfl rfl rfl rfl ?_
  intro w23 hS Qn
  replace Q3 := Qn
  clear Qn
  replace Q1 := hS.other _ _ ne_k1_k3 Q1
  replace Q2 := hS.other _ _ ne_k2_k3 Q2
  replace M := hS.mo _ N_k3 M
  clear hS
  refine w_nil (xn_then (w_reg ?_))
  refine wl_m (.tmp 9) (.int .u64 (x 1)) ?_
  refine wl_mv (.tmp 1) (.int .u64 10) (fun _ => rfl) e1 rfl ?_
  refine wl_b .rem 22 (.tmp 33) (.tmp 34) (.int .u64 (x 1)) (.int .u64 10) (.int .u64 (r 1)) (remu_run hr (by omega) _ _ _) ?_
  refine wl_m (.tmp 35) (.int .u64 (r 1)) ?_
  refine w_nil (xn_blk (xn_then (w_reg ?_)))
  refine wl_mv (.tmp 8) (.int .i64 (1)) (fun _ => rfl) e8 rfl ?_
  refine wl_b .sub 3 (.tmp 12) (.const (.int .i64 (1))) (.int .i64 (1)) (.int .i64 (1)) (.int .i64 (0)) (by kernel_rfl) ?_
  refine wl_m (.tmp 13) (.int .i64 (0)) ?_
  refine w_nil ?_
  exact xn_loop 1 (by decide) ⟨by decide, rfl, rfl, e1, e2, e4, e6, Q1, Q2, Q3, M⟩
 ·obtain ⟨hx, hy, hr⟩ := hxy 2 (by decide)
  have hd := dg_bd n 2
  have hb := rb 2 (by decide)
  have hb1 := rb 3 (by decide)
  have hy3 := yb 3 (by decide)
  have hy4 := yb 4 (by decide)
  have hy5 := yb 5 (by decide)
  have hy6 := yb 6 (by decide)
  have hy7 := yb 7 (by decide)
  have hyi := yb 2 (by decide)
  refine w_seq (w_seq (w_reg ?_))
  refine wl_mv (.tmp 8) (.int .i64 (2)) (fun _ => rfl) e8 rfl ?_
  refine wl_b .geq 3 (.tmp 10) (.const (.int .i64 (0))) (.int .i64 (2)) (.int .i64 (0)) (.bool true) (by kernel_rfl) ?_
  refine w_nil (xn_then (w_condT rfl (w_skip (xn_then (w_seq (w_block (w_seq (w_reg ?_))))))))
  refine wl_mv (.tmp 7) (.int .u64 (r 3)) (fun _ => rfl) e7 rfl ?_
  refine wl_b .shl 22 (.tmp 14) (.const (.int .u64 (32))) (.int .u64 (r 3)) (.int .u64 (32)) (.int .u64 (r 3 * 4294967296)) (shlu_run rfl (by omega) (by omega) _ _ _) ?_
  refine wl_load 24 (.tmp 2) (pt k1 0) (nv (n)) rfl e2 (run_row Q1 24 0 4 (nvli (n)) rfl Tryz.underlying24 rfl sz24) rfl ?_
  refine wl_mv (.tmp 8) (.int .i64 (2)) (fun _ => rfl) e8 rfl ?_
  refine wl_call 124 [(.tmp 16), (.tmp 17)] _ [nv (n), .int .i64 (2)] (.int .u64 (dg n 2)) rfl rfl (fun _ _ => by kernel_rfl) (half_any n 2 _ (by decide)) rfl ?_
  intro w21 hq
  replace Q1 := Q1.mo hq
  replace Q2 := Q2.mo hq
  replace Q3 := Q3.mo hq
  replace M := M.trans hq
  clear hq
  refine wl_b .add 22 (.tmp 15) (.tmp 18) (.int .u64 (r 3 * 4294967296)) (.int .u64 (dg n 2)) (.int .u64 (x 2)) (addu_run hx (by omega) (by omega) _ _ _) ?_
  refine wl_m (.tmp 19) (.int .u64 (x 2)) ?_
  refine w_nil (xn_then (w_seq ?_))
  refine w_any 13 [.inl (.int .i64 (2)), .inl (.int .i64 (1)), .inl (pt k3 1), .inl (.int .u64 (y 3 * 4294967296)), .inl (.int .u64 (x 2)), .inl (.int .u64 10), .inl (.int .u64 (y 2)), .inl (.int .i64 (2)), .inl (.int .i64 (0)), .inl (.int .i64 (0)), .inl (.int .u64 (y 2)), .inl (.int .u64 (y 3 * 4294967296 + y 2)), .inl (pt k3 1)] [] (by kernel_rfl) (by kernel_rfl) (by kernel_rfl) (by kernel_rfl) rfl (by kernel_rfl) (by kernel_rfl) late_nil ?_ ?_ ?_
  ·exact Ds.none rfl
  ·refine ea_cons ?_ (ea_cons ?_ (ea_cons ?_ (ea_cons ?_ (ea_cons ?_ (ea_cons ?_ (ea_cons ?_ (ea_cons ?_ (ea_cons ?_ (ea_cons ?_ (ea_cons ?_ (ea_cons ?_ (ea_cons ?_ (ea_nil)))))))))))))
   ·exact og_eq _ rfl (fun f wf hq hd K hK => go_run rfl (wo_mv (.tmp 8) (.int .i64 (2)) (fun _ => rfl) e8 (hK _ (Mo.refl _))))
   ·exact og_eq _ rfl (fun f wf hq hd K hK => go_run rfl (wo_bin (fun x y => do eqGuard .quo 3 (.tmp 20) (.const (.int .i64 (2))) x y; binOp .quo 3 x y) (.tmp 20) (.const (.int .i64 (2))) (.int .i64 (2)) (.int .i64 (2)) (.int .i64 (1)) (fun _ => rfl) (hd 0 rfl) rfl (by kernel_rfl) (hK _ (Mo.refl _))))
   ·exact og_eq _ rfl (fun f wf hq hd K hK => go_run rfl (wo_bin (fun x y => Instr.indexAt 24 x y) (.tmp 6) (.tmp 21) (pt k3 0) (.int .i64 (1)) (pt k3 1) (fun _ => rfl) e6 (hd 1 rfl) (by kernel_rfl) (hK _ (Mo.refl _))))
   ·exact og_eq _ rfl (fun f wf hq hd K hK => have Q3 := Q3.mo hq; go_run rfl (wo_load 22 (.tmp 22) (pt k3 1) (.int .u64 (y 3 * 4294967296)) rfl (hd 2 rfl) (run_one Q3 22 1 rfl Tryz.underlying22 rfl) (hK _ (Mo.refl _))))
   ·exact og_eq _ rfl (fun f wf hq hd K hK => go_run rfl (wo_mv (.tmp 9) (.int .u64 (x 2)) (fun _ => rfl) rfl (hK _ (Mo.refl _))))
   ·exact og_eq _ rfl (fun f wf hq hd K hK => go_run rfl (wo_mv (.tmp 1) (.int .u64 10) (fun _ => rfl) e1 (hK _ (Mo.refl _))))
   ·exact og_eq _ rfl (fun f wf hq hd K hK => go_run rfl (wo_bin (fun x y => do eqGuard .quo 22 (.tmp 24) (.tmp 25) x y; binOp .quo 22 x y) (.tmp 24) (.tmp 25) (.int .u64 (x 2)) (.int .u64 10) (.int .u64 (y 2)) (fun _ => rfl) (hd 4 rfl) (hd 5 rfl) (quou_run hy (by omega) (by omega) _ _ _) (hK _ (Mo.refl _))))
   ·exact og_eq _ rfl (fun f wf hq hd K hK => go_run rfl (wo_mv (.tmp 8) (.int .i64 (2)) (fun _ => rfl) e8 (hK _ (Mo.refl _))))
   ·exact og_eq _ rfl (fun f wf hq hd K hK => go_run rfl (wo_bin (fun x y => do eqGuard .rem 3 (.tmp 27) (.const (.int .i64 (2))) x y; binOp .rem 3 x y) (.tmp 27) (.const (.int .i64 (2))) (.int .i64 (2)) (.int .i64 (2)) (.int .i64 (0)) (fun _ => rfl) (hd 7 rfl) rfl (by kernel_rfl) (hK _ (Mo.refl _))))
   ·exact og_eq _ rfl (fun f wf hq hd K hK => go_run rfl (wo_bin (fun x y => do eqGuard .mul 3 (.tmp 28) (.const (.int .i64 (32))) x y; binOp .mul 3 x y) (.tmp 28) (.const (.int .i64 (32))) (.int .i64 (0)) (.int .i64 (32)) (.int .i64 (0)) (fun _ => rfl) (hd 8 rfl) rfl (by kernel_rfl) (hK _ (Mo.refl _))))
   ·exact og_eq _ rfl (fun f wf hq hd K hK => go_run rfl (wo_bin (fun x y => do eqGuard .shl 22 (.tmp 26) (.tmp 29) x y; binOp .shl 22 x y) (.tmp 26) (.tmp 29) (.int .u64 (y 2)) (.int .i64 (0)) (.int .u64 (y 2)) (fun _ => rfl) (hd 6 rfl) (hd 9 rfl) (shl0_run (by omega) (by omega) _ _ _) (hK _ (Mo.refl _))))
   ·exact og_eq _ rfl (fun f wf hq hd K hK => go_run rfl (wo_bin (fun x y => do eqGuard .add 22 (.tmp 23) (.tmp 30) x y; binOp .add 22 x y) (.tmp 23) (.tmp 30) (.int .u64 (y 3 * 4294967296)) (.int .u64 (y 2)) (.int .u64 (y 3 * 4294967296 + y 2)) (fun _ => rfl) (hd 3 rfl) (hd 10 rfl) (addu_run (by omega) (by omega) (by omega) _ _ _) (hK _ (Mo.refl _))))
   ·exact og_eq _ rfl (fun f wf hq hd K hK => go_run rfl (wo_bin (fun x y => Instr.indexAt 24 x y) (.tmp 6) (.tmp 21) (pt k3 0) (.int .i64 (1)) (pt k3 1) (fun _ => rfl) e6 (hd 1 rfl) (by kernel_rfl) (hK _ (Mo.refl _))))
  intro kf22 w22 hq hR hne
  replace Q1 := Q1.mo hq
  replace Q2 := Q2.mo hq
  replace Q3 := Q3.mo hq
  replace M := M.trans hq
  clear hq hR hne
  refine wl_st1 22 (.tmp 32) (.tmp 31) k3 1 (.int .u64 (y 3 * 4294967296 + y 2)) _ [.int .u64 0, .int .u64 (y 3 * 4294967296 + y 2), .int .u64 (y 5 * 4294967296 + y 4), .int .u64 (y 7 * 4294967296 + y 6)] Q3 rfl rfl rfl rfl rfl sz22b rfl rfl rfl rfl ?_
  intro w23 hS Qn
  replace Q3 := Qn
  clear Qn
  replace Q1 := hS.other _ _ ne_k1_k3 Q1
  replace Q2 := hS.other _ _ ne_k2_k3 Q2
  replace M := hS.mo _ N_k3 M
  clear hS
  refine w_nil (xn_then (w_reg ?_))
  refine wl_m (.tmp 9) (.int .u64 (x 2)) ?_
  refine wl_mv (.tmp 1) (.int .u64 10) (fun _ => rfl) e1 rfl ?_
  refine wl_b .rem 22 (.tmp 33) (.tmp 34) (.int .u64 (x 2)) (.int .u64 10) (.int .u64 (r 2)) (remu_run hr (by omega) _ _ _) ?_
  refine wl_m (.tmp 35) (.int .u64 (r 2)) ?_
  refine w_nil (xn_blk (xn_then (w_reg ?_)))
  refine wl_mv (.tmp 8) (.int .i64 (2)) (fun _ => rfl) e8 rfl ?_
  refine wl_b .sub 3 (.tmp 12) (.const (.int .i64 (1))) (.int .i64 (2)) (.int .i64 (1)) (.int .i64 (1)) (by kernel_rfl) ?_
  refine wl_m (.tmp 13) (.int .i64 (1)) ?_
  refine w_nil ?_
  exact xn_loop 2 (by decide) ⟨by decide, rfl, rfl, e1, e2, e4, e6, Q1, Q2, Q3, M⟩
 ·obtain ⟨hx, hy, hr⟩ := hxy 3 (by decide)
  have hd := dg_bd n 3
  have hb := rb 3 (by decide)
  have hb1 := rb 4 (by decide)
  have hy4 := yb 4 (by decide)
  have hy5 := yb 5 (by decide)
  have hy6 := yb 6 (by decide)
  have hy7 := yb 7 (by decide)
  have hyi := yb 3 (by decide)
  refine w_seq (w_seq (w_reg ?_))
  refine wl_mv (.tmp 8) (.int .i64 (3)) (fun _ => rfl) e8 rfl ?_
  refine wl_b .geq 3 (.tmp 10) (.const (.int .i64 (0))) (.int .i64 (3)) (.int .i64 (0)) (.bool true) (by kernel_rfl) ?_
  refine w_nil (xn_then (w_condT rfl (w_skip (xn_then (w_seq (w_block (w_seq (w_reg ?_))))))))
  refine wl_mv (.tmp 7) (.int .u64 (r 4)) (fun _ => rfl) e7 rfl ?_
  refine wl_b .shl 22 (.tmp 14) (.const (.int .u64 (32))) (.int .u64 (r 4)) (.int .u64 (32)) (.int .u64 (r 4 * 4294967296)) (shlu_run rfl (by omega) (by omega) _ _ _) ?_
  refine wl_load 24 (.tmp 2) (pt k1 0) (nv (n)) rfl e2 (run_row Q1 24 0 4 (nvli (n)) rfl Tryz.underlying24 rfl sz24) rfl ?_
  refine wl_mv (.tmp 8) (.int .i64 (3)) (fun _ => rfl) e8 rfl ?_
  refine wl_call 124 [(.tmp 16), (.tmp 17)] _ [nv (n), .int .i64 (3)] (.int .u64 (dg n 3)) rfl rfl (fun _ _ => by kernel_rfl) (half_any n 3 _ (by decide)) rfl ?_
  intro w21 hq
  replace Q1 := Q1.mo hq
  replace Q2 := Q2.mo hq
  replace Q3 := Q3.mo hq
  replace M := M.trans hq
  clear hq
  refine wl_b .add 22 (.tmp 15) (.tmp 18) (.int .u64 (r 4 * 4294967296)) (.int .u64 (dg n 3)) (.int .u64 (x 3)) (addu_run hx (by omega) (by omega) _ _ _) ?_
  refine wl_m (.tmp 19) (.int .u64 (x 3)) ?_
  refine w_nil (xn_then (w_seq ?_))
  refine w_any 13 [.inl (.int .i64 (3)), .inl (.int .i64 (1)), .inl (pt k3 1), .inl (.int .u64 0), .inl (.int .u64 (x 3)), .inl (.int .u64 10), .inl (.int .u64 (y 3)), .inl (.int .i64 (3)), .inl (.int .i64 (1)), .inl (.int .i64 (32)), .inl (.int .u64 (y 3 * 4294967296)), .inl (.int .u64 (y 3 * 4294967296)), .inl (pt k3 1)] [] (by kernel_rfl) (by kernel_rfl) (by kernel_rfl) (by kernel_rfl) rfl (by kernel_rfl) (by kernel_rfl) late_nil ?_ ?_ ?_
  ·exact Ds.none rfl
  ·refine ea_cons ?_ (ea_cons ?_ (ea_cons ?_ (ea_cons ?_ (ea_cons ?_ (ea_cons ?_ (ea_cons ?_ (ea_cons ?_ (ea_cons ?_ (ea_cons ?_ (ea_cons ?_ (ea_cons ?_ (ea_cons ?_ (ea_nil)))))))))))))
   ·exact og_eq _ rfl (fun f wf hq hd K hK => go_run rfl (wo_mv (.tmp 8) (.int .i64 (3)) (fun _ => rfl) e8 (hK _ (Mo.refl _))))
   ·exact og_eq _ rfl (fun f wf hq hd K hK => go_run rfl (wo_bin (fun x y => do eqGuard .quo 3 (.tmp 20) (.const (.int .i64 (2))) x y; binOp .quo 3 x y) (.tmp 20) (.const (.int .i64 (2))) (.int .i64 (3)) (.int .i64 (2)) (.int .i64 (1)) (fun _ => rfl) (hd 0 rfl) rfl (by kernel_rfl) (hK _ (Mo.refl _))))
   ·exact og_eq _ rfl (fun f wf hq hd K hK => go_run rfl (wo_bin (fun x y => Instr.indexAt 24 x y) (.tmp 6) (.tmp 21) (pt k3 0) (.int .i64 (1)) (pt k3 1) (fun _ => rfl) e6 (hd 1 rfl) (by kernel_rfl) (hK _ (Mo.refl _))))
   ·exact og_eq _ rfl (fun f wf hq hd K hK => have Q3 := Q3.mo hq; go_run rfl (wo_load 22 (.tmp 22) (pt k3 1) (.int .u64 0) rfl (hd 2 rfl) (run_one Q3 22 1 rfl Tryz.underlying22 rfl) (hK _ (Mo.refl _))))
   ·exact og_eq _ rfl (fun f wf hq hd K hK => go_run rfl (wo_mv (.tmp 9) (.int .u64 (x 3)) (fun _ => rfl) rfl (hK _ (Mo.refl _))))
   ·exact og_eq _ rfl (fun f wf hq hd K hK => go_run rfl (wo_mv (.tmp 1) (.int .u64 10) (fun _ => rfl) e1 (hK _ (Mo.refl _))))
   ·exact og_eq _ rfl (fun f wf hq hd K hK => go_run rfl (wo_bin (fun x y => do eqGuard .quo 22 (.tmp 24) (.tmp 25) x y; binOp .quo 22 x y) (.tmp 24) (.tmp 25) (.int .u64 (x 3)) (.int .u64 10) (.int .u64 (y 3)) (fun _ => rfl) (hd 4 rfl) (hd 5 rfl) (quou_run hy (by omega) (by omega) _ _ _) (hK _ (Mo.refl _))))
   ·exact og_eq _ rfl (fun f wf hq hd K hK => go_run rfl (wo_mv (.tmp 8) (.int .i64 (3)) (fun _ => rfl) e8 (hK _ (Mo.refl _))))
   ·exact og_eq _ rfl (fun f wf hq hd K hK => go_run rfl (wo_bin (fun x y => do eqGuard .rem 3 (.tmp 27) (.const (.int .i64 (2))) x y; binOp .rem 3 x y) (.tmp 27) (.const (.int .i64 (2))) (.int .i64 (3)) (.int .i64 (2)) (.int .i64 (1)) (fun _ => rfl) (hd 7 rfl) rfl (by kernel_rfl) (hK _ (Mo.refl _))))
   ·exact og_eq _ rfl (fun f wf hq hd K hK => go_run rfl (wo_bin (fun x y => do eqGuard .mul 3 (.tmp 28) (.const (.int .i64 (32))) x y; binOp .mul 3 x y) (.tmp 28) (.const (.int .i64 (32))) (.int .i64 (1)) (.int .i64 (32)) (.int .i64 (32)) (fun _ => rfl) (hd 8 rfl) rfl (by kernel_rfl) (hK _ (Mo.refl _))))
   ·exact og_eq _ rfl (fun f wf hq hd K hK => go_run rfl (wo_bin (fun x y => do eqGuard .shl 22 (.tmp 26) (.tmp 29) x y; binOp .shl 22 x y) (.tmp 26) (.tmp 29) (.int .u64 (y 3)) (.int .i64 (32)) (.int .u64 (y 3 * 4294967296)) (fun _ => rfl) (hd 6 rfl) (hd 9 rfl) (shli_run rfl (by omega) (by omega) _ _ _) (hK _ (Mo.refl _))))
   ·exact og_eq _ rfl (fun f wf hq hd K hK => go_run rfl (wo_bin (fun x y => do eqGuard .add 22 (.tmp 23) (.tmp 30) x y; binOp .add 22 x y) (.tmp 23) (.tmp 30) (.int .u64 0) (.int .u64 (y 3 * 4294967296)) (.int .u64 (y 3 * 4294967296)) (fun _ => rfl) (hd 3 rfl) (hd 10 rfl) (addu_run (by omega) (by omega) (by omega) _ _ _) (hK _ (Mo.refl _))))
   ·exact og_eq _ rfl (fun f wf hq hd K hK => go_run rfl (wo_bin (fun x y => Instr.indexAt 24 x y) (.tmp 6) (.tmp 21) (pt k3 0) (.int .i64 (1)) (pt k3 1) (fun _ => rfl) e6 (hd 1 rfl) (by kernel_rfl) (hK _ (Mo.refl _))))
  intro kf22 w22 hq hR hne
  replace Q1 := Q1.mo hq
  replace Q2 := Q2.mo hq
  replace Q3 := Q3.mo hq
  replace M := M.trans hq
  clear hq hR hne
  refine wl_st1 22 (.tmp 32) (.tmp 31) k3 1 (.int .u64 (y 3 * 4294967296)) _ [.int .u64 0, .int .u64 (y 3 * 4294967296), .int .u64 (y 5 * 4294967296 + y 4), .int .u64 (y 7 * 4294967296 + y 6)] Q3 rfl rfl rfl rfl rfl sz22b rfl rfl rfl rfl ?_
  intro w23 hS Qn
  replace Q3 := Qn
  clear Qn
  replace Q1 := hS.other _ _ ne_k1_k3 Q1
  replace Q2 := hS.other _ _ ne_k2_k3 Q2
  replace M := hS.mo _ N_k3 M
  clear hS
  refine w_nil (xn_then (w_reg ?_))
  refine wl_m (.tmp 9) (.int .u64 (x 3)) ?_
  refine wl_mv (.tmp 1) (.int .u64 10) (fun _ => rfl) e1 rfl ?_
  refine wl_b .rem 22 (.tmp 33) (.tmp 34) (.int .u64 (x 3)) (.int .u64 10) (.int .u64 (r 3)) (remu_run hr (by omega) _ _ _) ?_
  refine wl_m (.tmp 35) (.int .u64 (r 3)) ?_
  refine w_nil (xn_blk (xn_then (w_reg ?_)))
  refine wl_mv (.tmp 8) (.int .i64 (3)) (fun _ => rfl) e8 rfl ?_
  refine wl_b .sub 3 (.tmp 12) (.const (.int .i64 (1))) (.int .i64 (3)) (.int .i64 (1)) (.int .i64 (2)) (by kernel_rfl) ?_
  refine wl_m (.tmp 13) (.int .i64 (2)) ?_
  refine w_nil ?_
  exact xn_loop 3 (by decide) ⟨by decide, rfl, rfl, e1, e2, e4, e6, Q1, Q2, Q3, M⟩
 ·obtain ⟨hx, hy, hr⟩ := hxy 4 (by decide)
  have hd := dg_bd n 4
  have hb := rb 4 (by decide)
  have hb1 := rb 5 (by decide)
  have hy5 := yb 5 (by decide)
  have hy6 := yb 6 (by decide)
  have hy7 := yb 7 (by decide)
  have hyi := yb 4 (by decide)
  refine w_seq (w_seq (w_reg ?_))
  refine wl_mv (.tmp 8) (.int .i64 (4)) (fun _ => rfl) e8 rfl ?_
  refine wl_b .geq 3 (.tmp 10) (.const (.int .i64 (0))) (.int .i64 (4)) (.int .i64 (0)) (.bool true) (by kernel_rfl) ?_
  refine w_nil (xn_then (w_condT rfl (w_skip (xn_then (w_seq (w_block (w_seq (w_reg ?_))))))))
  refine wl_mv (.tmp 7) (.int .u64 (r 5)) (fun _ => rfl) e7 rfl ?_
  refine wl_b .shl 22 (.tmp 14) (.const (.int .u64 (32))) (.int .u64 (r 5)) (.int .u64 (32)) (.int .u64 (r 5 * 4294967296)) (shlu_run rfl (by omega) (by omega) _ _ _) ?_
  refine wl_load 24 (.tmp 2) (pt k1 0) (nv (n)) rfl e2 (run_row Q1 24 0 4 (nvli (n)) rfl Tryz.underlying24 rfl sz24) rfl ?_
  refine wl_mv (.tmp 8) (.int .i64 (4)) (fun _ => rfl) e8 rfl ?_
  refine wl_call 124 [(.tmp 16), (.tmp 17)] _ [nv (n), .int .i64 (4)] (.int .u64 (dg n 4)) rfl rfl (fun _ _ => by kernel_rfl) (half_any n 4 _ (by decide)) rfl ?_
  intro w21 hq
  replace Q1 := Q1.mo hq
  replace Q2 := Q2.mo hq
  replace Q3 := Q3.mo hq
  replace M := M.trans hq
  clear hq
  refine wl_b .add 22 (.tmp 15) (.tmp 18) (.int .u64 (r 5 * 4294967296)) (.int .u64 (dg n 4)) (.int .u64 (x 4)) (addu_run hx (by omega) (by omega) _ _ _) ?_
  refine wl_m (.tmp 19) (.int .u64 (x 4)) ?_
  refine w_nil (xn_then (w_seq ?_))
  refine w_any 13 [.inl (.int .i64 (4)), .inl (.int .i64 (2)), .inl (pt k3 2), .inl (.int .u64 (y 5 * 4294967296)), .inl (.int .u64 (x 4)), .inl (.int .u64 10), .inl (.int .u64 (y 4)), .inl (.int .i64 (4)), .inl (.int .i64 (0)), .inl (.int .i64 (0)), .inl (.int .u64 (y 4)), .inl (.int .u64 (y 5 * 4294967296 + y 4)), .inl (pt k3 2)] [] (by kernel_rfl) (by kernel_rfl) (by kernel_rfl) (by kernel_rfl) rfl (by kernel_rfl) (by kernel_rfl) late_nil ?_ ?_ ?_
  ·exact Ds.none rfl
  ·refine ea_cons ?_ (ea_cons ?_ (ea_cons ?_ (ea_cons ?_ (ea_cons ?_ (ea_cons ?_ (ea_cons ?_ (ea_cons ?_ (ea_cons ?_ (ea_cons ?_ (ea_cons ?_ (ea_cons ?_ (ea_cons ?_ (ea_nil)))))))))))))
   ·exact og_eq _ rfl (fun f wf hq hd K hK => go_run rfl (wo_mv (.tmp 8) (.int .i64 (4)) (fun _ => rfl) e8 (hK _ (Mo.refl _))))
   ·exact og_eq _ rfl (fun f wf hq hd K hK => go_run rfl (wo_bin (fun x y => do eqGuard .quo 3 (.tmp 20) (.const (.int .i64 (2))) x y; binOp .quo 3 x y) (.tmp 20) (.const (.int .i64 (2))) (.int .i64 (4)) (.int .i64 (2)) (.int .i64 (2)) (fun _ => rfl) (hd 0 rfl) rfl (by kernel_rfl) (hK _ (Mo.refl _))))
   ·exact og_eq _ rfl (fun f wf hq hd K hK => go_run rfl (wo_bin (fun x y => Instr.indexAt 24 x y) (.tmp 6) (.tmp 21) (pt k3 0) (.int .i64 (2)) (pt k3 2) (fun _ => rfl) e6 (hd 1 rfl) (by kernel_rfl) (hK _ (Mo.refl _))))
   ·exact og_eq _ rfl (fun f wf hq hd K hK => have Q3 := Q3.mo hq; go_run rfl (wo_load 22 (.tmp 22) (pt k3 2) (.int .u64 (y 5 * 4294967296)) rfl (hd 2 rfl) (run_one Q3 22 2 rfl Tryz.underlying22 rfl) (hK _ (Mo.refl _))))
   ·exact og_eq _ rfl (fun f wf hq hd K hK => go_run rfl (wo_mv (.tmp 9) (.int .u64 (x 4)) (fun _ => rfl) rfl (hK _ (Mo.refl _))))
   ·exact og_eq _ rfl (fun f wf hq hd K hK => go_run rfl (wo_mv (.tmp 1) (.int .u64 10) (fun _ => rfl) e1 (hK _ (Mo.refl _))))
   ·exact og_eq _ rfl (fun f wf hq hd K hK => go_run rfl (wo_bin (fun x y => do eqGuard .quo 22 (.tmp 24) (.tmp 25) x y; binOp .quo 22 x y) (.tmp 24) (.tmp 25) (.int .u64 (x 4)) (.int .u64 10) (.int .u64 (y 4)) (fun _ => rfl) (hd 4 rfl) (hd 5 rfl) (quou_run hy (by omega) (by omega) _ _ _) (hK _ (Mo.refl _))))
   ·exact og_eq _ rfl (fun f wf hq hd K hK => go_run rfl (wo_mv (.tmp 8) (.int .i64 (4)) (fun _ => rfl) e8 (hK _ (Mo.refl _))))
   ·exact og_eq _ rfl (fun f wf hq hd K hK => go_run rfl (wo_bin (fun x y => do eqGuard .rem 3 (.tmp 27) (.const (.int .i64 (2))) x y; binOp .rem 3 x y) (.tmp 27) (.const (.int .i64 (2))) (.int .i64 (4)) (.int .i64 (2)) (.int .i64 (0)) (fun _ => rfl) (hd 7 rfl) rfl (by kernel_rfl) (hK _ (Mo.refl _))))
   ·exact og_eq _ rfl (fun f wf hq hd K hK => go_run rfl (wo_bin (fun x y => do eqGuard .mul 3 (.tmp 28) (.const (.int .i64 (32))) x y; binOp .mul 3 x y) (.tmp 28) (.const (.int .i64 (32))) (.int .i64 (0)) (.int .i64 (32)) (.int .i64 (0)) (fun _ => rfl) (hd 8 rfl) rfl (by kernel_rfl) (hK _ (Mo.refl _))))
   ·exact og_eq _ rfl (fun f wf hq hd K hK => go_run rfl (wo_bin (fun x y => do eqGuard .shl 22 (.tmp 26) (.tmp 29) x y; binOp .shl 22 x y) (.tmp 26) (.tmp 29) (.int .u64 (y 4)) (.int .i64 (0)) (.int .u64 (y 4)) (fun _ => rfl) (hd 6 rfl) (hd 9 rfl) (shl0_run (by omega) (by omega) _ _ _) (hK _ (Mo.refl _))))
   ·exact og_eq _ rfl (fun f wf hq hd K hK => go_run rfl (wo_bin (fun x y => do eqGuard .add 22 (.tmp 23) (.tmp 30) x y; binOp .add 22 x y) (.tmp 23) (.tmp 30) (.int .u64 (y 5 * 4294967296)) (.int .u64 (y 4)) (.int .u64 (y 5 * 4294967296 + y 4)) (fun _ => rfl) (hd 3 rfl) (hd 10 rfl) (addu_run (by omega) (by omega) (by omega) _ _ _) (hK _ (Mo.refl _))))
   ·exact og_eq _ rfl (fun f wf hq hd K hK => go_run rfl (wo_bin (fun x y => Instr.indexAt 24 x y) (.tmp 6) (.tmp 21) (pt k3 0) (.int .i64 (2)) (pt k3 2) (fun _ => rfl) e6 (hd 1 rfl) (by kernel_rfl) (hK _ (Mo.refl _))))
  intro kf22 w22 hq hR hne
  replace Q1 := Q1.mo hq
  replace Q2 := Q2.mo hq
  replace Q3 := Q3.mo hq
  replace M := M.trans hq
  clear hq hR hne
  refine wl_st1 22 (.tmp 32) (.tmp 31) k3 2 (.int .u64 (y 5 * 4294967296 + y 4)) _ [.int .u64 0, .int .u64 0, .int .u64 (y 5 * 4294967296 + y 4), .int .u64 (y 7 * 4294967296 + y 6)] Q3 rfl rfl rfl rfl rfl sz22b rfl rfl rfl rfl ?_
  intro w23 hS Qn
  replace Q3 := Qn
  clear Qn
  replace Q1 := hS.other _ _ ne_k1_k3 Q1
  replace Q2 := hS.other _ _ ne_k2_k3 Q2
  replace M := hS.mo _ N_k3 M
  clear hS
  refine w_nil (xn_then (w_reg ?_))
  refine wl_m (.tmp 9) (.int .u64 (x 4)) ?_
  refine wl_mv (.tmp 1) (.int .u64 10) (fun _ => rfl) e1 rfl ?_
  refine wl_b .rem 22 (.tmp 33) (.tmp 34) (.int .u64 (x 4)) (.int .u64 10) (.int .u64 (r 4)) (remu_run hr (by omega) _ _ _) ?_
  refine wl_m (.tmp 35) (.int .u64 (r 4)) ?_
  refine w_nil (xn_blk (xn_then (w_reg ?_)))
  refine wl_mv (.tmp 8) (.int .i64 (4)) (fun _ => rfl) e8 rfl ?_
  refine wl_b .sub 3 (.tmp 12) (.const (.int .i64 (1))) (.int .i64 (4)) (.int .i64 (1)) (.int .i64 (3)) (by kernel_rfl) ?_
  refine wl_m (.tmp 13) (.int .i64 (3)) ?_
  refine w_nil ?_
  exact xn_loop 4 (by decide) ⟨by decide, rfl, rfl, e1, e2, e4, e6, Q1, Q2, Q3, M⟩
 ·obtain ⟨hx, hy, hr⟩ := hxy 5 (by decide)
  have hd := dg_bd n 5
  have hb := rb 5 (by decide)
  have hb1 := rb 6 (by decide)
  have hy6 := yb 6 (by decide)
  have hy7 := yb 7 (by decide)
  have hyi := yb 5 (by decide)
  refine w_seq (w_seq (w_reg ?_))
  refine wl_mv (.tmp 8) (.int .i64 (5)) (fun _ => rfl) e8 rfl ?_
  refine wl_b .geq 3 (.tmp 10) (.const (.int .i64 (0))) (.int .i64 (5)) (.int .i64 (0)) (.bool true) (by kernel_rfl) ?_
  refine w_nil (xn_then (w_condT rfl (w_skip (xn_then (w_seq (w_block (w_seq (w_reg ?_))))))))
  refine wl_mv (.tmp 7) (.int .u64 (r 6)) (fun _ => rfl) e7 rfl ?_
  refine wl_b .shl 22 (.tmp 14) (.const (.int .u64 (32))) (.int .u64 (r 6)) (.int .u64 (32)) (.int .u64 (r 6 * 4294967296)) (shlu_run rfl (by omega) (by omega) _ _ _) ?_
  refine wl_load 24 (.tmp 2) (pt k1 0) (nv (n)) rfl e2 (run_row Q1 24 0 4 (nvli (n)) rfl Tryz.underlying24 rfl sz24) rfl ?_
  refine wl_mv (.tmp 8) (.int .i64 (5)) (fun _ => rfl) e8 rfl ?_
  refine wl_call 124 [(.tmp 16), (.tmp 17)] _ [nv (n), .int .i64 (5)] (.int .u64 (dg n 5)) rfl rfl (fun _ _ => by kernel_rfl) (half_any n 5 _ (by decide)) rfl ?_
  intro w21 hq
  replace Q1 := Q1.mo hq
  replace Q2 := Q2.mo hq
  replace Q3 := Q3.mo hq
  replace M := M.trans hq
  clear hq
  refine wl_b .add 22 (.tmp 15) (.tmp 18) (.int .u64 (r 6 * 4294967296)) (.int .u64 (dg n 5)) (.int .u64 (x 5)) (addu_run hx (by omega) (by omega) _ _ _) ?_
  refine wl_m (.tmp 19) (.int .u64 (x 5)) ?_
  refine w_nil (xn_then (w_seq ?_))
  refine w_any 13 [.inl (.int .i64 (5)), .inl (.int .i64 (2)), .inl (pt k3 2), .inl (.int .u64 0), .inl (.int .u64 (x 5)), .inl (.int .u64 10), .inl (.int .u64 (y 5)), .inl (.int .i64 (5)), .inl (.int .i64 (1)), .inl (.int .i64 (32)), .inl (.int .u64 (y 5 * 4294967296)), .inl (.int .u64 (y 5 * 4294967296)), .inl (pt k3 2)] [] (by kernel_rfl) (by kernel_rfl) (by kernel_rfl) (by kernel_rfl) rfl (by kernel_rfl) (by kernel_rfl) late_nil ?_ ?_ ?_
  ·exact Ds.none rfl
  ·refine ea_cons ?_ (ea_cons ?_ (ea_cons ?_ (ea_cons ?_ (ea_cons ?_ (ea_cons ?_ (ea_cons ?_ (ea_cons ?_ (ea_cons ?_ (ea_cons ?_ (ea_cons ?_ (ea_cons ?_ (ea_cons ?_ (ea_nil)))))))))))))
   ·exact og_eq _ rfl (fun f wf hq hd K hK => go_run rfl (wo_mv (.tmp 8) (.int .i64 (5)) (fun _ => rfl) e8 (hK _ (Mo.refl _))))
   ·exact og_eq _ rfl (fun f wf hq hd K hK => go_run rfl (wo_bin (fun x y => do eqGuard .quo 3 (.tmp 20) (.const (.int .i64 (2))) x y; binOp .quo 3 x y) (.tmp 20) (.const (.int .i64 (2))) (.int .i64 (5)) (.int .i64 (2)) (.int .i64 (2)) (fun _ => rfl) (hd 0 rfl) rfl (by kernel_rfl) (hK _ (Mo.refl _))))
   ·exact og_eq _ rfl (fun f wf hq hd K hK => go_run rfl (wo_bin (fun x y => Instr.indexAt 24 x y) (.tmp 6) (.tmp 21) (pt k3 0) (.int .i64 (2)) (pt k3 2) (fun _ => rfl) e6 (hd 1 rfl) (by kernel_rfl) (hK _ (Mo.refl _))))
   ·exact og_eq _ rfl (fun f wf hq hd K hK => have Q3 := Q3.mo hq; go_run rfl (wo_load 22 (.tmp 22) (pt k3 2) (.int .u64 0) rfl (hd 2 rfl) (run_one Q3 22 2 rfl Tryz.underlying22 rfl) (hK _ (Mo.refl _))))
   ·exact og_eq _ rfl (fun f wf hq hd K hK => go_run rfl (wo_mv (.tmp 9) (.int .u64 (x 5)) (fun _ => rfl) rfl (hK _ (Mo.refl _))))
   ·exact og_eq _ rfl (fun f wf hq hd K hK => go_run rfl (wo_mv (.tmp 1) (.int .u64 10) (fun _ => rfl) e1 (hK _ (Mo.refl _))))
   ·exact og_eq _ rfl (fun f wf hq hd K hK => go_run rfl (wo_bin (fun x y => do eqGuard .quo 22 (.tmp 24) (.tmp 25) x y; binOp .quo 22 x y) (.tmp 24) (.tmp 25) (.int .u64 (x 5)) (.int .u64 10) (.int .u64 (y 5)) (fun _ => rfl) (hd 4 rfl) (hd 5 rfl) (quou_run hy (by omega) (by omega) _ _ _) (hK _ (Mo.refl _))))
   ·exact og_eq _ rfl (fun f wf hq hd K hK => go_run rfl (wo_mv (.tmp 8) (.int .i64 (5)) (fun _ => rfl) e8 (hK _ (Mo.refl _))))
   ·exact og_eq _ rfl (fun f wf hq hd K hK => go_run rfl (wo_bin (fun x y => do eqGuard .rem 3 (.tmp 27) (.const (.int .i64 (2))) x y; binOp .rem 3 x y) (.tmp 27) (.const (.int .i64 (2))) (.int .i64 (5)) (.int .i64 (2)) (.int .i64 (1)) (fun _ => rfl) (hd 7 rfl) rfl (by kernel_rfl) (hK _ (Mo.refl _))))
   ·exact og_eq _ rfl (fun f wf hq hd K hK => go_run rfl (wo_bin (fun x y => do eqGuard .mul 3 (.tmp 28) (.const (.int .i64 (32))) x y; binOp .mul 3 x y) (.tmp 28) (.const (.int .i64 (32))) (.int .i64 (1)) (.int .i64 (32)) (.int .i64 (32)) (fun _ => rfl) (hd 8 rfl) rfl (by kernel_rfl) (hK _ (Mo.refl _))))
   ·exact og_eq _ rfl (fun f wf hq hd K hK => go_run rfl (wo_bin (fun x y => do eqGuard .shl 22 (.tmp 26) (.tmp 29) x y; binOp .shl 22 x y) (.tmp 26) (.tmp 29) (.int .u64 (y 5)) (.int .i64 (32)) (.int .u64 (y 5 * 4294967296)) (fun _ => rfl) (hd 6 rfl) (hd 9 rfl) (shli_run rfl (by omega) (by omega) _ _ _) (hK _ (Mo.refl _))))
   ·exact og_eq _ rfl (fun f wf hq hd K hK => go_run rfl (wo_bin (fun x y => do eqGuard .add 22 (.tmp 23) (.tmp 30) x y; binOp .add 22 x y) (.tmp 23) (.tmp 30) (.int .u64 0) (.int .u64 (y 5 * 4294967296)) (.int .u64 (y 5 * 4294967296)) (fun _ => rfl) (hd 3 rfl) (hd 10 rfl) (addu_run (by omega) (by omega) (by omega) _ _ _) (hK _ (Mo.refl _))))
   ·exact og_eq _ rfl (fun f wf hq hd K hK => go_run rfl (wo_bin (fun x y => Instr.indexAt 24 x y) (.tmp 6) (.tmp 21) (pt k3 0) (.int .i64 (2)) (pt k3 2) (fun _ => rfl) e6 (hd 1 rfl) (by kernel_rfl) (hK _ (Mo.refl _))))
  intro kf22 w22 hq hR hne
  replace Q1 := Q1.mo hq
  replace Q2 := Q2.mo hq
  replace Q3 := Q3.mo hq
  replace M := M.trans hq
  clear hq hR hne
  refine wl_st1 22 (.tmp 32) (.tmp 31) k3 2 (.int .u64 (y 5 * 4294967296)) _ [.int .u64 0, .int .u64 0, .int .u64 (y 5 * 4294967296), .int .u64 (y 7 * 4294967296 + y 6)] Q3 rfl rfl rfl rfl rfl sz22b rfl rfl rfl rfl ?_
  intro w23 hS Qn
  replace Q3 := Qn
  clear Qn
  replace Q1 := hS.other _ _ ne_k1_k3 Q1
  replace Q2 := hS.other _ _ ne_k2_k3 Q2
  replace M := hS.mo _ N_k3 M
  clear hS
  refine w_nil (xn_then (w_reg ?_))
  refine wl_m (.tmp 9) (.int .u64 (x 5)) ?_
  refine wl_mv (.tmp 1) (.int .u64 10) (fun _ => rfl) e1 rfl ?_
  refine wl_b .rem 22 (.tmp 33) (.tmp 34) (.int .u64 (x 5)) (.int .u64 10) (.int .u64 (r 5)) (remu_run hr (by omega) _ _ _) ?_
  refine wl_m (.tmp 35) (.int .u64 (r 5)) ?_
  refine w_nil (xn_blk (xn_then (w_reg ?_)))
  refine wl_mv (.tmp 8) (.int .i64 (5)) (fun _ => rfl) e8 rfl ?_
  refine wl_b .sub 3 (.tmp 12) (.const (.int .i64 (1))) (.int .i64 (5)) (.int .i64 (1)) (.int .i64 (4)) (by kernel_rfl) ?_
  refine wl_m (.tmp 13) (.int .i64 (4)) ?_
  refine w_nil ?_
  exact xn_loop 5 (by decide) ⟨by decide, rfl, rfl, e1, e2, e4, e6, Q1, Q2, Q3, M⟩
 ·obtain ⟨hx, hy, hr⟩ := hxy 6 (by decide)
  have hd := dg_bd n 6
  have hb := rb 6 (by decide)
  have hb1 := rb 7 (by decide)
  have hy7 := yb 7 (by decide)
  have hyi := yb 6 (by decide)
  refine w_seq (w_seq (w_reg ?_))
  refine wl_mv (.tmp 8) (.int .i64 (6)) (fun _ => rfl) e8 rfl ?_
  refine wl_b .geq 3 (.tmp 10) (.const (.int .i64 (0))) (.int .i64 (6)) (.int .i64 (0)) (.bool true) (by kernel_rfl) ?_
  refine w_nil (xn_then (w_condT rfl (w_skip (xn_then (w_seq (w_block (w_seq (w_reg ?_))))))))
  refine wl_mv (.tmp 7) (.int .u64 (r 7)) (fun _ => rfl) e7 rfl ?_
  refine wl_b .shl 22 (.tmp 14) (.const (.int .u64 (32))) (.int .u64 (r 7)) (.int .u64 (32)) (.int .u64 (r 7 * 4294967296)) (shlu_run rfl (by omega) (by omega) _ _ _) ?_
  refine wl_load 24 (.tmp 2) (pt k1 0) (nv (n)) rfl e2 (run_row Q1 24 0 4 (nvli (n)) rfl Tryz.underlying24 rfl sz24) rfl ?_
  refine wl_mv (.tmp 8) (.int .i64 (6)) (fun _ => rfl) e8 rfl ?_
  refine wl_call 124 [(.tmp 16), (.tmp 17)] _ [nv (n), .int .i64 (6)] (.int .u64 (dg n 6)) rfl rfl (fun _ _ => by kernel_rfl) (half_any n 6 _ (by decide)) rfl ?_
  intro w21 hq
  replace Q1 := Q1.mo hq
  replace Q2 := Q2.mo hq
  replace Q3 := Q3.mo hq
  replace M := M.trans hq
  clear hq
  refine wl_b .add 22 (.tmp 15) (.tmp 18) (.int .u64 (r 7 * 4294967296)) (.int .u64 (dg n 6)) (.int .u64 (x 6)) (addu_run hx (by omega) (by omega) _ _ _) ?_
  refine wl_m (.tmp 19) (.int .u64 (x 6)) ?_
  refine w_nil (xn_then (w_seq ?_))
  refine w_any 13 [.inl (.int .i64 (6)), .inl (.int .i64 (3)), .inl (pt k3 3), .inl (.int .u64 (y 7 * 4294967296)), .inl (.int .u64 (x 6)), .inl (.int .u64 10), .inl (.int .u64 (y 6)), .inl (.int .i64 (6)), .inl (.int .i64 (0)), .inl (.int .i64 (0)), .inl (.int .u64 (y 6)), .inl (.int .u64 (y 7 * 4294967296 + y 6)), .inl (pt k3 3)] [] (by kernel_rfl) (by kernel_rfl) (by kernel_rfl) (by kernel_rfl) rfl (by kernel_rfl) (by kernel_rfl) late_nil ?_ ?_ ?_
  ·exact Ds.none rfl
  ·refine ea_cons ?_ (ea_cons ?_ (ea_cons ?_ (ea_cons ?_ (ea_cons ?_ (ea_cons ?_ (ea_cons ?_ (ea_cons ?_ (ea_cons ?_ (ea_cons ?_ (ea_cons ?_ (ea_cons ?_ (ea_cons ?_ (ea_nil)))))))))))))
   ·exact og_eq _ rfl (fun f wf hq hd K hK => go_run rfl (wo_mv (.tmp 8) (.int .i64 (6)) (fun _ => rfl) e8 (hK _ (Mo.refl _))))
   ·exact og_eq _ rfl (fun f wf hq hd K hK => go_run rfl (wo_bin (fun x y => do eqGuard .quo 3 (.tmp 20) (.const (.int .i64 (2))) x y; binOp .quo 3 x y) (.tmp 20) (.const (.int .i64 (2))) (.int .i64 (6)) (.int .i64 (2)) (.int .i64 (3)) (fun _ => rfl) (hd 0 rfl) rfl (by kernel_rfl) (hK _ (Mo.refl _))))
   ·exact og_eq _ rfl (fun f wf hq hd K hK => go_run rfl (wo_bin (fun x y => Instr.indexAt 24 x y) (.tmp 6) (.tmp 21) (pt k3 0) (.int .i64 (3)) (pt k3 3) (fun _ => rfl) e6 (hd 1 rfl) (by kernel_rfl) (hK _ (Mo.refl _))))
   ·exact og_eq _ rfl (fun f wf hq hd K hK => have Q3 := Q3.mo hq; go_run rfl (wo_load 22 (.tmp 22) (pt k3 3) (.int .u64 (y 7 * 4294967296)) rfl (hd 2 rfl) (run_one Q3 22 3 rfl Tryz.underlying22 rfl) (hK _ (Mo.refl _))))
   ·exact og_eq _ rfl (fun f wf hq hd K hK => go_run rfl (wo_mv (.tmp 9) (.int .u64 (x 6)) (fun _ => rfl) rfl (hK _ (Mo.refl _))))
   ·exact og_eq _ rfl (fun f wf hq hd K hK => go_run rfl (wo_mv (.tmp 1) (.int .u64 10) (fun _ => rfl) e1 (hK _ (Mo.refl _))))
   ·exact og_eq _ rfl (fun f wf hq hd K hK => go_run rfl (wo_bin (fun x y => do eqGuard .quo 22 (.tmp 24) (.tmp 25) x y; binOp .quo 22 x y) (.tmp 24) (.tmp 25) (.int .u64 (x 6)) (.int .u64 10) (.int .u64 (y 6)) (fun _ => rfl) (hd 4 rfl) (hd 5 rfl) (quou_run hy (by omega) (by omega) _ _ _) (hK _ (Mo.refl _))))
   ·exact og_eq _ rfl (fun f wf hq hd K hK => go_run rfl (wo_mv (.tmp 8) (.int .i64 (6)) (fun _ => rfl) e8 (hK _ (Mo.refl _))))
   ·exact og_eq _ rfl (fun f wf hq hd K hK => go_run rfl (wo_bin (fun x y => do eqGuard .rem 3 (.tmp 27) (.const (.int .i64 (2))) x y; binOp .rem 3 x y) (.tmp 27) (.const (.int .i64 (2))) (.int .i64 (6)) (.int .i64 (2)) (.int .i64 (0)) (fun _ => rfl) (hd 7 rfl) rfl (by kernel_rfl) (hK _ (Mo.refl _))))
   ·exact og_eq _ rfl (fun f wf hq hd K hK => go_run rfl (wo_bin (fun x y => do eqGuard .mul 3 (.tmp 28) (.const (.int .i64 (32))) x y; binOp .mul 3 x y) (.tmp 28) (.const (.int .i64 (32))) (.int .i64 (0)) (.int .i64 (32)) (.int .i64 (0)) (fun _ => rfl) (hd 8 rfl) rfl (by kernel_rfl) (hK _ (Mo.refl _))))
   ·exact og_eq _ rfl (fun f wf hq hd K hK => go_run rfl (wo_bin (fun x y => do eqGuard .shl 22 (.tmp 26) (.tmp 29) x y; binOp .shl 22 x y) (.tmp 26) (.tmp 29) (.int .u64 (y 6)) (.int .i64 (0)) (.int .u64 (y 6)) (fun _ => rfl) (hd 6 rfl) (hd 9 rfl) (shl0_run (by omega) (by omega) _ _ _) (hK _ (Mo.refl _))))
   ·exact og_eq _ rfl (fun f wf hq hd K hK => go_run rfl (wo_bin (fun x y => do eqGuard .add 22 (.tmp 23) (.tmp 30) x y; binOp .add 22 x y) (.tmp 23) (.tmp 30) (.int .u64 (y 7 * 4294967296)) (.int .u64 (y 6)) (.int .u64 (y 7 * 4294967296 + y 6)) (fun _ => rfl) (hd 3 rfl) (hd 10 rfl) (addu_run (by omega) (by omega) (by omega) _ _ _) (hK _ (Mo.refl _))))
   ·exact og_eq _ rfl (fun f wf hq hd K hK => go_run rfl (wo_bin (fun x y => Instr.indexAt 24 x y) (.tmp 6) (.tmp 21) (pt k3 0) (.int .i64 (3)) (pt k3 3) (fun _ => rfl) e6 (hd 1 rfl) (by kernel_rfl) (hK _ (Mo.refl _))))
  intro kf22 w22 hq hR hne
  replace Q1 := Q1.mo hq
  replace Q2 := Q2.mo hq
  replace Q3 := Q3.mo hq
  replace M := M.trans hq
  clear hq hR hne
  refine wl_st1 22 (.tmp 32) (.tmp 31) k3 3 (.int .u64 (y 7 * 4294967296 + y 6)) _ [.int .u64 0, .int .u64 0, .int .u64 0, .int .u64 (y 7 * 4294967296 + y 6)] Q3 rfl rfl rfl rfl rfl sz22b rfl rfl rfl rfl ?_
  intro w23 hS Qn
  replace Q3 := Qn
  clear Qn
  replace Q1 := hS.other _ _ ne_k1_k3 Q1
  replace Q2 := hS.other _ _ ne_k2_k3 Q2
  replace M := hS.mo _ N_k3 M
  clear hS
  refine w_nil (xn_then (w_reg ?_))
  refine wl_m (.tmp 9) (.int .u64 (x 6)) ?_
  refine wl_mv (.tmp 1) (.int .u64 10) (fun _ => rfl) e1 rfl ?_
  refine wl_b .rem 22 (.tmp 33) (.tmp 34) (.int .u64 (x 6)) (.int .u64 10) (.int .u64 (r 6)) (remu_run hr (by omega) _ _ _) ?_
  refine wl_m (.tmp 35) (.int .u64 (r 6)) ?_
  refine w_nil (xn_blk (xn_then (w_reg ?_)))
  refine wl_mv (.tmp 8) (.int .i64 (6)) (fun _ => rfl) e8 rfl ?_
  refine wl_b .sub 3 (.tmp 12) (.const (.int .i64 (1))) (.int .i64 (6)) (.int .i64 (1)) (.int .i64 (5)) (by kernel_rfl) ?_
  refine wl_m (.tmp 13) (.int .i64 (5)) ?_
  refine w_nil ?_
  exact xn_loop 6 (by decide) ⟨by decide, rfl, rfl, e1, e2, e4, e6, Q1, Q2, Q3, M⟩
 ·obtain ⟨hx, hy, hr⟩ := hxy 7 (by decide)
  have hd := dg_bd n 7
  have hb := rb 7 (by decide)
  have hb1 := rb 8 (by decide)
  have hyi := yb 7 (by decide)
  refine w_seq (w_seq (w_reg ?_))
  refine wl_mv (.tmp 8) (.int .i64 (7)) (fun _ => rfl) e8 rfl ?_
  refine wl_b .geq 3 (.tmp 10) (.const (.int .i64 (0))) (.int .i64 (7)) (.int .i64 (0)) (.bool true) (by kernel_rfl) ?_
  refine w_nil (xn_then (w_condT rfl (w_skip (xn_then (w_seq (w_block (w_seq (w_reg ?_))))))))
  refine wl_mv (.tmp 7) (.int .u64 (r 8)) (fun _ => rfl) e7 rfl ?_
  refine wl_b .shl 22 (.tmp 14) (.const (.int .u64 (32))) (.int .u64 (r 8)) (.int .u64 (32)) (.int .u64 (r 8 * 4294967296)) (shlu_run rfl (by omega) (by omega) _ _ _) ?_
  refine wl_load 24 (.tmp 2) (pt k1 0) (nv (n)) rfl e2 (run_row Q1 24 0 4 (nvli (n)) rfl Tryz.underlying24 rfl sz24) rfl ?_
  refine wl_mv (.tmp 8) (.int .i64 (7)) (fun _ => rfl) e8 rfl ?_
  refine wl_call 124 [(.tmp 16), (.tmp 17)] _ [nv (n), .int .i64 (7)] (.int .u64 (dg n 7)) rfl rfl (fun _ _ => by kernel_rfl) (half_any n 7 _ (by decide)) rfl ?_
  intro w21 hq
  replace Q1 := Q1.mo hq
  replace Q2 := Q2.mo hq
  replace Q3 := Q3.mo hq
  replace M := M.trans hq
  clear hq
  refine wl_b .add 22 (.tmp 15) (.tmp 18) (.int .u64 (r 8 * 4294967296)) (.int .u64 (dg n 7)) (.int .u64 (x 7)) (addu_run hx (by omega) (by omega) _ _ _) ?_
  refine wl_m (.tmp 19) (.int .u64 (x 7)) ?_
  refine w_nil (xn_then (w_seq ?_))
  refine w_any 13 [.inl (.int .i64 (7)), .inl (.int .i64 (3)), .inl (pt k3 3), .inl (.int .u64 0), .inl (.int .u64 (x 7)), .inl (.int .u64 10), .inl (.int .u64 (y 7)), .inl (.int .i64 (7)), .inl (.int .i64 (1)), .inl (.int .i64 (32)), .inl (.int .u64 (y 7 * 4294967296)), .inl (.int .u64 (y 7 * 4294967296)), .inl (pt k3 3)] [] (by kernel_rfl) (by kernel_rfl) (by kernel_rfl) (by kernel_rfl) rfl (by kernel_rfl) (by kernel_rfl) late_nil ?_ ?_ ?_
  ·exact Ds.none rfl
  ·refine ea_cons ?_ (ea_cons ?_ (ea_cons ?_ (ea_cons ?_ (ea_cons ?_ (ea_cons ?_ (ea_cons ?_ (ea_cons ?_ (ea_cons ?_ (ea_cons ?_ (ea_cons ?_ (ea_cons ?_ (ea_cons ?_ (ea_nil)))))))))))))
   ·exact og_eq _ rfl (fun f wf hq hd K hK => go_run rfl (wo_mv (.tmp 8) (.int .i64 (7)) (fun _ => rfl) e8 (hK _ (Mo.refl _))))
   ·exact og_eq _ rfl (fun f wf hq hd K hK => go_run rfl (wo_bin (fun x y => do eqGuard .quo 3 (.tmp 20) (.const (.int .i64 (2))) x y; binOp .quo 3 x y) (.tmp 20) (.const (.int .i64 (2))) (.int .i64 (7)) (.int .i64 (2)) (.int .i64 (3)) (fun _ => rfl) (hd 0 rfl) rfl (by kernel_rfl) (hK _ (Mo.refl _))))
   ·exact og_eq _ rfl (fun f wf hq hd K hK => go_run rfl (wo_bin (fun x y => Instr.indexAt 24 x y) (.tmp 6) (.tmp 21) (pt k3 0) (.int .i64 (3)) (pt k3 3) (fun _ => rfl) e6 (hd 1 rfl) (by kernel_rfl) (hK _ (Mo.refl _))))
   ·exact og_eq _ rfl (fun f wf hq hd K hK => have Q3 := Q3.mo hq; go_run rfl (wo_load 22 (.tmp 22) (pt k3 3) (.int .u64 0) rfl (hd 2 rfl) (run_one Q3 22 3 rfl Tryz.underlying22 rfl) (hK _ (Mo.refl _))))
   ·exact og_eq _ rfl (fun f wf hq hd K hK => go_run rfl (wo_mv (.tmp 9) (.int .u64 (x 7)) (fun _ => rfl) rfl (hK _ (Mo.refl _))))
   ·exact og_eq _ rfl (fun f wf hq hd K hK => go_run rfl (wo_mv (.tmp 1) (.int .u64 10) (fun _ => rfl) e1 (hK _ (Mo.refl _))))
   ·exact og_eq _ rfl (fun f wf hq hd K hK => go_run rfl (wo_bin (fun x y => do eqGuard .quo 22 (.tmp 24) (.tmp 25) x y; binOp .quo 22 x y) (.tmp 24) (.tmp 25) (.int .u64 (x 7)) (.int .u64 10) (.int .u64 (y 7)) (fun _ => rfl) (hd 4 rfl) (hd 5 rfl) (quou_run hy (by omega) (by omega) _ _ _) (hK _ (Mo.refl _))))
   ·exact og_eq _ rfl (fun f wf hq hd K hK => go_run rfl (wo_mv (.tmp 8) (.int .i64 (7)) (fun _ => rfl) e8 (hK _ (Mo.refl _))))
   ·exact og_eq _ rfl (fun f wf hq hd K hK => go_run rfl (wo_bin (fun x y => do eqGuard .rem 3 (.tmp 27) (.const (.int .i64 (2))) x y; binOp .rem 3 x y) (.tmp 27) (.const (.int .i64 (2))) (.int .i64 (7)) (.int .i64 (2)) (.int .i64 (1)) (fun _ => rfl) (hd 7 rfl) rfl (by kernel_rfl) (hK _ (Mo.refl _))))
   ·exact og_eq _ rfl (fun f wf hq hd K hK => go_run rfl (wo_bin (fun x y => do eqGuard .mul 3 (.tmp 28) (.const (.int .i64 (32))) x y; binOp .mul 3 x y) (.tmp 28) (.const (.int .i64 (32))) (.int .i64 (1)) (.int .i64 (32)) (.int .i64 (32)) (fun _ => rfl) (hd 8 rfl) rfl (by kernel_rfl) (hK _ (Mo.refl _))))
   ·exact og_eq _ rfl (fun f wf hq hd K hK => go_run rfl (wo_bin (fun x y => do eqGuard .shl 22 (.tmp 26) (.tmp 29) x y; binOp .shl 22 x y) (.tmp 26) (.tmp 29) (.int .u64 (y 7)) (.int .i64 (32)) (.int .u64 (y 7 * 4294967296)) (fun _ => rfl) (hd 6 rfl) (hd 9 rfl) (shli_run rfl (by omega) (by omega) _ _ _) (hK _ (Mo.refl _))))
   ·exact og_eq _ rfl (fun f wf hq hd K hK => go_run rfl (wo_bin (fun x y => do eqGuard .add 22 (.tmp 23) (.tmp 30) x y; binOp .add 22 x y) (.tmp 23) (.tmp 30) (.int .u64 0) (.int .u64 (y 7 * 4294967296)) (.int .u64 (y 7 * 4294967296)) (fun _ => rfl) (hd 3 rfl) (hd 10 rfl) (addu_run (by omega) (by omega) (by omega) _ _ _) (hK _ (Mo.refl _))))
   ·exact og_eq _ rfl (fun f wf hq hd K hK => go_run rfl (wo_bin (fun x y => Instr.indexAt 24 x y) (.tmp 6) (.tmp 21) (pt k3 0) (.int .i64 (3)) (pt k3 3) (fun _ => rfl) e6 (hd 1 rfl) (by kernel_rfl) (hK _ (Mo.refl _))))
  intro kf22 w22 hq hR hne
  replace Q1 := Q1.mo hq
  replace Q2 := Q2.mo hq
  replace Q3 := Q3.mo hq
  replace M := M.trans hq
  clear hq hR hne
  refine wl_st1 22 (.tmp 32) (.tmp 31) k3 3 (.int .u64 (y 7 * 4294967296)) _ [.int .u64 0, .int .u64 0, .int .u64 0, .int .u64 (y 7 * 4294967296)] Q3 rfl rfl rfl rfl rfl sz22b rfl rfl rfl rfl ?_
  intro w23 hS Qn
  replace Q3 := Qn
  clear Qn
  replace Q1 := hS.other _ _ ne_k1_k3 Q1
  replace Q2 := hS.other _ _ ne_k2_k3 Q2
  replace M := hS.mo _ N_k3 M
  clear hS
  refine w_nil (xn_then (w_reg ?_))
  refine wl_m (.tmp 9) (.int .u64 (x 7)) ?_
  refine wl_mv (.tmp 1) (.int .u64 10) (fun _ => rfl) e1 rfl ?_
  refine wl_b .rem 22 (.tmp 33) (.tmp 34) (.int .u64 (x 7)) (.int .u64 10) (.int .u64 (r 7)) (remu_run hr (by omega) _ _ _) ?_
  refine wl_m (.tmp 35) (.int .u64 (r 7)) ?_
  refine w_nil (xn_blk (xn_then (w_reg ?_)))
  refine wl_mv (.tmp 8) (.int .i64 (7)) (fun _ => rfl) e8 rfl ?_
  refine wl_b .sub 3 (.tmp 12) (.const (.int .i64 (1))) (.int .i64 (7)) (.int .i64 (1)) (.int .i64 (6)) (by kernel_rfl) ?_
  refine wl_m (.tmp 13) (.int .i64 (6)) ?_
  refine w_nil ?_
  exact xn_loop 7 (by decide) ⟨by decide, rfl, rfl, e1, e2, e4, e6, Q1, Q2, Q3, M⟩
 ·omega
def srd (n : Int) : Nat → Int
 | 0 => 0
 | j + 1 => (srd n j * 4294967296 + dg n (7 - j)) % 10
theorem srd_bd (n : Int) (j : Nat) : 0 ≤ srd n j ∧ srd n j < 10 := by
 cases j with
 | zero => show 0 ≤ (0 : Int) ∧ (0 : Int) < 10; decide
 | succ j => unfold srd; omega
theorem small_n (n : Int) (w : World) (h0 : 0 ≤ n) (h : n < MM) : Calls Tryz.prog 112 #[nv n, .int .u64 10] w fun e w' => e = .returned (.tuple #[nv (n / 10), .int .u64 (n % 10)]) ∧ Mo w w' := by
 have key := small_w n (fun i => srd n (7 - i) * 4294967296 + dg n i) (fun i => (srd n (7 - i) * 4294967296 + dg n i) / 10) (fun i => srd n (8 - i)) w rfl (fun i hi => ⟨by
   show srd n (8 - (i + 1)) * 4294967296 + dg n i = _
   rw [show 8 - (i + 1) = 7 - i by omega], rfl, by
   show _ = srd n (8 - i)
   rw [show 8 - i = (7 - i) + 1 by omega]
   show _ = (srd n (7 - i) * 4294967296 + dg n (7 - (7 - i))) % 10
   rw [show 7 - (7 - i) = i by omega]⟩) (fun i _ => srd_bd n _) (fun i _ => by
   have a := srd_bd n (7 - i); have b := dg_bd n i
   show 0 ≤ (srd n (7 - i) * 4294967296 + dg n i) / 10 ∧ (srd n (7 - i) * 4294967296 + dg n i) / 10 < 4294967296
   omega)
 have e0 : n = ((((((((dg n 7 * 4294967296 + dg n 6) * 4294967296 + dg n 5) * 4294967296 + dg n 4) * 4294967296 + dg n 3) * 4294967296 + dg n 2) * 4294967296 + dg n 1) * 4294967296 + dg n 0)) := by
  unfold dg MM at *; omega
 have b7 := dg_bd n 7
 have b6 := dg_bd n 6
 have b5 := dg_bd n 5
 have b4 := dg_bd n 4
 have b3 := dg_bd n 3
 have b2 := dg_bd n 2
 have b1 := dg_bd n 1
 have b0 := dg_bd n 0
 have s1 : srd n 1 = (0 * 4294967296 + dg n 7) % 10 := rfl
 have s2 : srd n 2 = (srd n 1 * 4294967296 + dg n 6) % 10 := rfl
 have s3 : srd n 3 = (srd n 2 * 4294967296 + dg n 5) % 10 := rfl
 have s4 : srd n 4 = (srd n 3 * 4294967296 + dg n 4) % 10 := rfl
 have s5 : srd n 5 = (srd n 4 * 4294967296 + dg n 3) % 10 := rfl
 have s6 : srd n 6 = (srd n 5 * 4294967296 + dg n 2) % 10 := rfl
 have s7 : srd n 7 = (srd n 6 * 4294967296 + dg n 1) % 10 := rfl
 have s8 : srd n 8 = (srd n 7 * 4294967296 + dg n 0) % 10 := rfl
 have z0 : srd n 0 = 0 := rfl
 have hQ : Value.agg (qc (fun i => (srd n (7 - i) * 4294967296 + dg n i) / 10) 0).toArray = nv (n / 10) ∧ srd n 8 = n % 10 := by
  show Value.agg #[.int .u64 ((srd n 6 * 4294967296 + dg n 1) / 10 * 4294967296 + (srd n 7 * 4294967296 + dg n 0) / 10), .int .u64 ((srd n 4 * 4294967296 + dg n 3) / 10 * 4294967296 + (srd n 5 * 4294967296 + dg n 2) / 10), .int .u64 ((srd n 2 * 4294967296 + dg n 5) / 10 * 4294967296 + (srd n 3 * 4294967296 + dg n 4) / 10), .int .u64 ((srd n 0 * 4294967296 + dg n 7) / 10 * 4294967296 + (srd n 1 * 4294967296 + dg n 6) / 10)] = nv (n / 10) ∧ srd n 8 = n % 10
  rw [z0]
  generalize srd n 1 = c1 at *
  generalize srd n 2 = c2 at *
  generalize srd n 3 = c3 at *
  generalize srd n 4 = c4 at *
  generalize srd n 5 = c5 at *
  generalize srd n 6 = c6 at *
  generalize srd n 7 = c7 at *
  generalize srd n 8 = c8 at *
  generalize dg n 7 = d7 at *
  generalize dg n 6 = d6 at *
  generalize dg n 5 = d5 at *
  generalize dg n 4 = d4 at *
  generalize dg n 3 = d3 at *
  generalize dg n 2 = d2 at *
  generalize dg n 1 = d1 at *
  generalize dg n 0 = d0 at *
  obtain ⟨y7, q7⟩ : ∃ y, (0 * 4294967296 + d7) / 10 = y := ⟨_, rfl⟩
  obtain ⟨y6, q6⟩ : ∃ y, (c1 * 4294967296 + d6) / 10 = y := ⟨_, rfl⟩
  obtain ⟨y5, q5⟩ : ∃ y, (c2 * 4294967296 + d5) / 10 = y := ⟨_, rfl⟩
  obtain ⟨y4, q4⟩ : ∃ y, (c3 * 4294967296 + d4) / 10 = y := ⟨_, rfl⟩
  obtain ⟨y3, q3⟩ : ∃ y, (c4 * 4294967296 + d3) / 10 = y := ⟨_, rfl⟩
  obtain ⟨y2, q2⟩ : ∃ y, (c5 * 4294967296 + d2) / 10 = y := ⟨_, rfl⟩
  obtain ⟨y1, q1⟩ : ∃ y, (c6 * 4294967296 + d1) / 10 = y := ⟨_, rfl⟩
  obtain ⟨y0, q0⟩ : ∃ y, (c7 * 4294967296 + d0) / 10 = y := ⟨_, rfl⟩
  rw [q7, q6, q5, q4, q3, q2, q1, q0]
  have t7 : d7 = 10 * y7 + c1 ∧ 0 ≤ y7 ∧ y7 < 4294967296 ∧ 0 ≤ c1 ∧ c1 < 10 := by omega
  have t6 : c1 * 4294967296 + d6 = 10 * y6 + c2 ∧ 0 ≤ y6 ∧ y6 < 4294967296 ∧ 0 ≤ c2 ∧ c2 < 10 := by omega
  have t5 : c2 * 4294967296 + d5 = 10 * y5 + c3 ∧ 0 ≤ y5 ∧ y5 < 4294967296 ∧ 0 ≤ c3 ∧ c3 < 10 := by omega
  have t4 : c3 * 4294967296 + d4 = 10 * y4 + c4 ∧ 0 ≤ y4 ∧ y4 < 4294967296 ∧ 0 ≤ c4 ∧ c4 < 10 := by omega
  have t3 : c4 * 4294967296 + d3 = 10 * y3 + c5 ∧ 0 ≤ y3 ∧ y3 < 4294967296 ∧ 0 ≤ c5 ∧ c5 < 10 := by omega
  have t2 : c5 * 4294967296 + d2 = 10 * y2 + c6 ∧ 0 ≤ y2 ∧ y2 < 4294967296 ∧ 0 ≤ c6 ∧ c6 < 10 := by omega
  have t1 : c6 * 4294967296 + d1 = 10 * y1 + c7 ∧ 0 ≤ y1 ∧ y1 < 4294967296 ∧ 0 ≤ c7 ∧ c7 < 10 := by omega
  have t0 : c7 * 4294967296 + d0 = 10 * y0 + c8 ∧ 0 ≤ y0 ∧ y0 < 4294967296 ∧ 0 ≤ c8 ∧ c8 < 10 := by omega
  clear s1 s2 s3 s4 s5 s6 s7 s8 q0 q1 q2 q3 q4 q5 q6 q7 b0 b1 b2 b3 b4 b5 b6 b7
  have hn : n = 10 * (((((((y7 * 4294967296 + y6) * 4294967296 + y5) * 4294967296 + y4) * 4294967296 + y3) * 4294967296 + y2) * 4294967296 + y1) * 4294967296 + y0) + c8 := by omega
  have hq : n / 10 = ((((((y7 * 4294967296 + y6) * 4294967296 + y5) * 4294967296 + y4) * 4294967296 + y3) * 4294967296 + y2) * 4294967296 + y1) * 4294967296 + y0 := by omega
  have hm : n % 10 = c8 := by omega
  rw [hq, hm]
  obtain ⟨_, u7, v7, _, _⟩ := t7
  obtain ⟨_, u6, v6, _, _⟩ := t6
  obtain ⟨_, u5, v5, _, _⟩ := t5
  obtain ⟨_, u4, v4, _, _⟩ := t4
  obtain ⟨_, u3, v3, _, _⟩ := t3
  obtain ⟨_, u2, v2, _, _⟩ := t2
  obtain ⟨_, u1, v1, _, _⟩ := t1
  obtain ⟨_, u0, v0, _, _⟩ := t0
  clear hn hq hm e0
  refine ⟨?_, rfl⟩
  unfold nv
  have g0 : l0 (((((((y7 * 4294967296 + y6) * 4294967296 + y5) * 4294967296 + y4) * 4294967296 + y3) * 4294967296 + y2) * 4294967296 + y1) * 4294967296 + y0) = y1 * 4294967296 + y0 := by unfold l0; omega
  have g1 : l1 (((((((y7 * 4294967296 + y6) * 4294967296 + y5) * 4294967296 + y4) * 4294967296 + y3) * 4294967296 + y2) * 4294967296 + y1) * 4294967296 + y0) = y3 * 4294967296 + y2 := by unfold l1; omega
  have g2 : l2 (((((((y7 * 4294967296 + y6) * 4294967296 + y5) * 4294967296 + y4) * 4294967296 + y3) * 4294967296 + y2) * 4294967296 + y1) * 4294967296 + y0) = y5 * 4294967296 + y4 := by unfold l2; omega
  have g3 : l3 (((((((y7 * 4294967296 + y6) * 4294967296 + y5) * 4294967296 + y4) * 4294967296 + y3) * 4294967296 + y2) * 4294967296 + y1) * 4294967296 + y0) = y7 * 4294967296 + y6 := by unfold l3; omega
  rw [g0, g1, g2, g3]
 rw [hQ.1] at key
 have e8 : srd n (8 - 0) = n % 10 := hQ.2
 rw [e8] at key
 exact key
end Go.Proofs.YtogomodbcjpfiaaGreatDoor

namespace Go.Proofs.YtogomodbcjpfiaaGreatDoor
open Go.RowKit
theorem sz5 : (Tryz.prog.info? 5).map (·.size) = some 1 := by kernel_rfl
theorem cvb_run {a : Int} (h0 : 0 ≤ a) (h1 : a < 256) (w : World) : (convert 22 5 (.int .u64 a)).run Tryz.prog w = .ok (.int .u8 a) w := by
 have e : IntKind.u8.wrap a = a := by rw [IntKind.wrap_u8]; omega
 rw [cvA, e]
theorem lens_run (ρ : Operand → Value) (x : Operand) (p : Option Addr) (m c : Nat) (hx : ρ x = .slice p m c) (dst : Option Tmp) (type : TypeId) (pos : String) (after : Array Edge) (guard : Option (Nat × Bool)) (w : World) : (execOp ρ { dst, op := .call { callee := .builtin .len, args := #[x], argTypes := #[81] }, type, pos, after, guard }).run Tryz.prog w = .ok (.value (.int .i64 (m : Int))) w := by
 simp [go_sem, hx]
theorem rtext_0 (n : Int) (w : World) (hz : (l0 n == 0 && (l1 n == 0 && (l2 n == 0 && l3 n == 0))) = true) : Calls Tryz.prog 83 #[nv n] w fun e w' => e = .returned (.string ⟨#[48]⟩) ∧ Mo w w' := by
 refine w_enter 52 Tryz.func83 Tryz.ntmps83 rfl rfl ?_
 have M : Mo w w := Mo.refl _
 refine w_seq (w_reg ?_)
 refine wl_box 24 (.tmp 0) (nv (n)) ((nvar (n))) rfl rfl (fun _ => by kernel_rfl) rfl ?_
 intro k1 w1 hk hz hq Q1
 have N_k1 : w.heap.size ≤ k1 := by have := M.size; omega
 replace M := M.trans hq
 clear hk hz hq
 refine wl_m (.const (.string ⟨#[]⟩)) (.string ⟨#[]⟩) ?_
 refine w_nil (xn_then (w_seq (w_seq (w_reg ?_))))
 refine wl_l 24 (.tmp 1) (pt k1 0) (nv (n)) (run_row Q1 24 0 4 (nvli (n)) rfl Tryz.underlying24 rfl sz24) ?_
 refine wl_build 24 [] [] (.agg #[.int .u64 0, .int .u64 0, .int .u64 0, .int .u64 0]) rfl rfl (by kernel_rfl) rfl ?_
 refine wl_b .eql 24 (.tmp 8) (.tmp 9) (nv (n)) (.agg #[.int .u64 0, .int .u64 0, .int .u64 0, .int .u64 0]) (.bool true) (eqn_run hz _ _ _) ?_
 refine w_nil (xn_then (w_condT rfl (w_seq (w_reg ?_))))
 refine wl_m (.const (.string ⟨#[48]⟩)) (.string ⟨#[48]⟩) ?_
 refine w_nil (xn_then (w_ret (xr_then ?_)))
 exact w_ret1 _ _ rfl rfl ⟨rfl, M⟩
theorem sub3b_run {k : Nat} (hk : 0 < k ∧ k ≤ 1000) (x y : Operand) (w : World) : (do eqGuard .sub 3 x y (.int .i64 (k : Int)) (.int .i64 1); binOp .sub 3 (.int .i64 (k : Int)) (.int .i64 1)).run Tryz.prog w = .ok (.int .i64 ((k - 1 : Nat) : Int)) w := by
 have e : (do eqGuard .sub 3 x y (.int .i64 (k : Int)) (.int .i64 1); binOp .sub 3 (.int .i64 (k : Int)) (.int .i64 1)).run Tryz.prog w = .ok (.int .i64 (IntKind.i64.wrap ((k : Int) - 1))) w := by kernel_rfl
 have h : IntKind.i64.wrap ((k : Int) - 1) = ((k - 1 : Nat) : Int) := by rw [IntKind.wrap_i64]; omega
 rw [e, h]
theorem getD_map {zs : List Int} {p : Nat} (h : p < zs.length) : (zs.map (Value.int .u8))[p]? = some (.int .u8 (zs.getD p 0)) := by
 simp [h]
theorem rtext_w (n : Int) (w : World) (hn0 : n ≠ 0) (hnn : (n.toNat : Int) = n) (hn : n < MM) (hz : (l0 n == 0 && (l1 n == 0 && (l2 n == 0 && l3 n == 0))) = false) : Calls Tryz.prog 83 #[nv n] w fun e w' => e = .returned (.string (strOf (decF 78 n))) ∧ Mo w w' := by
 refine w_enter 52 Tryz.func83 Tryz.ntmps83 rfl rfl ?_
 have M : Mo w w := Mo.refl _
 refine w_seq (w_reg ?_)
 refine wl_box 24 (.tmp 0) (nv (n)) ((nvar (n))) rfl rfl (fun _ => by kernel_rfl) rfl ?_
 intro k1 w1 hk hz hq Q1
 have N_k1 : w.heap.size ≤ k1 := by have := M.size; omega
 replace M := M.trans hq
 clear hk hz hq
 refine wl_m (.const (.string ⟨#[]⟩)) (.string ⟨#[]⟩) ?_
 refine w_nil (xn_then (w_seq (w_seq (w_reg ?_))))
 refine wl_l 24 (.tmp 1) (pt k1 0) (nv (n)) (run_row Q1 24 0 4 (nvli (n)) rfl Tryz.underlying24 rfl sz24) ?_
 refine wl_build 24 [] [] (.agg #[.int .u64 0, .int .u64 0, .int .u64 0, .int .u64 0]) rfl rfl (by kernel_rfl) rfl ?_
 refine wl_b .eql 24 (.tmp 8) (.tmp 9) (nv (n)) (.agg #[.int .u64 0, .int .u64 0, .int .u64 0, .int .u64 0]) (.bool false) (eqn_run hz _ _ _) ?_
 refine w_nil (xn_then (w_condF rfl (w_skip (xn_then (w_seq (w_reg ?_))))))
 refine wl_m (.const (.slice none 0 0)) (.slice none 0 0) ?_
 refine w_nil (xn_then (w_seq (w_block ?_)))
 refine w_loop (fun m l w1 => ∃ (xs : List Int) (v : Value) (f : Nat), look l 1 = pt k1 0 ∧ look l 3 = v ∧ At w1 k1 (nvli (m : Int)) ∧ w1.ownsRow w.heap.size 5 1 v xs.length (xs.map (Value.int .u8)) ∧ v.ownBlock ≠ some k1 ∧ dRev 78 n = xs ++ dRev f (m : Int) ∧ xs.length + f = 78 ∧ (m : Int) < 10 ^ f ∧ (m : Int) < MM ∧ Mo w w1) n.toNat ⟨[], .slice none 0 0, 78, rfl, rfl, by rw [hnn]; exact Q1, World.ownsRow_nil _ _ _ _, by simp [Value.ownBlock], by rw [hnn]; rfl, rfl, by rw [hnn]; exact Int.lt_trans hn (by decide), by rw [hnn]; exact hn, M⟩ ?_
 clear M Q1
 rintro m l wl ⟨xs, v, f, e1, e3, Q1, hown, on_k1, hdr, hxf, hmf, hmM, M⟩
 have hsz := M.size
 by_cases hm0 : m = 0
 ·subst hm0
  have hz : (l0 ((0 : Nat) : Int) == 0 && (l1 ((0 : Nat) : Int) == 0 && (l2 ((0 : Nat) : Int) == 0 && l3 ((0 : Nat) : Int) == 0))) = true := rfl
  have hxs : dRev 78 n = xs := by rw [hdr]; rw [show (((0 : Nat) : Int)) = 0 from rfl, dRev_zero, List.append_nil]
  have hpos : 0 < xs.length := by rw [← hxs, dRev_step hn0]; simp
  obtain ⟨g, cap, rfl, hgN, hglt⟩ := hown.form hpos
  have Qg := own_at hown
  refine w_seq (w_seq (w_reg ?_))
  refine wl_load 24 (.tmp 1) (pt k1 0) (nv (((0 : Nat) : Int))) rfl e1 (run_row Q1 24 0 4 (nvli (((0 : Nat) : Int))) rfl Tryz.underlying24 rfl sz24) rfl ?_
  refine wl_build 24 [] [] (.agg #[.int .u64 0, .int .u64 0, .int .u64 0, .int .u64 0]) rfl rfl (by kernel_rfl) rfl ?_
  refine wl_b .neq 24 (.tmp 11) (.tmp 12) (nv (((0 : Nat) : Int))) (.agg #[.int .u64 0, .int .u64 0, .int .u64 0, .int .u64 0]) (.bool false) (nen_run (r := true) hz _ _ _) ?_
  refine w_nil (xn_then (w_condF rfl (w_exit (xx_then (xx_then (xx_blk (xn_then (w_seq (w_seq (w_reg ?_))))))))))
  refine wl_mv (.tmp 3) (.slice (some ⟨g, 0, none⟩) xs.length cap) (fun _ => rfl) e3 rfl ?_
  refine wl_val (.int .i64 ((xs.length : Int))) (lens_run _ _ _ _ cap rfl _ _ _ _ _ _) rfl ?_
  refine wl_b .sub 3 (.tmp 27) (.const (.int .i64 (1))) (.int .i64 ((xs.length : Int))) (.int .i64 (1)) (.int .i64 (((xs.length - 1 : Nat) : Int))) (sub3b_run (by omega) _ _ _) ?_
  refine wl_m (.const (.int .i64 (0))) (.int .i64 (0)) ?_
  refine wl_m (.tmp 28) (.int .i64 (((xs.length - 1 : Nat) : Int))) ?_
  refine w_nil (xn_then (w_block ?_))
  refine w_loop (fun r l w1 => ∃ (i j : Nat) (zs : List Int), i + j + 1 = xs.length ∧ i + r = xs.length ∧ look l 3 = .slice (some ⟨g, 0, none⟩) xs.length cap ∧ look l 6 = .int .i64 (i : Int) ∧ look l 7 = .int .i64 (j : Int) ∧ RvI xs i zs ∧ At w1 g (zs.map (Value.int .u8)) ∧ Mo w w1) xs.length ⟨0, xs.length - 1, xs, by omega, by omega, e3, rfl, rfl, RvI.start xs, Qg, M⟩ ?_
  clear M Qg e3 e1 hown
  rintro r l2 wl2 ⟨i, j, zs, hij, hir, e3, e6, e7, hrv, Qg, M⟩
  have hlz := hrv.1
  by_cases hlt : i < j
  ·have hl : decide ((i : Int) < (j : Int)) = true := decide_eq_true (by omega)
   refine w_seq (w_seq (w_reg ?_))
   refine wl_mv (.tmp 6) (.int .i64 (i : Int)) (fun _ => rfl) e6 rfl ?_
   refine wl_mv (.tmp 7) (.int .i64 (j : Int)) (fun _ => rfl) e7 rfl ?_
   refine wl_b .lss 3 (.tmp 29) (.tmp 30) (.int .i64 (i : Int)) (.int .i64 (j : Int)) (.bool true) (lt3_run hl _ _ _) ?_
   refine w_nil (xn_then (w_condT rfl (w_skip (xn_then (w_seq (w_block ?_))))))
   refine w_any 13 [.inl (.slice (some ⟨g, 0, none⟩) xs.length cap), .inl (.int .i64 (i : Int)), .inl (.slice (some ⟨g, 0, none⟩) xs.length cap), .inl (.int .i64 (j : Int)), .inl (.slice (some ⟨g, 0, none⟩) xs.length cap), .inl (.int .i64 (j : Int)), .inl (pt g j), .inl (.int .u8 (zs.getD j 0)), .inl (.slice (some ⟨g, 0, none⟩) xs.length cap), .inl (.int .i64 (i : Int)), .inl (pt g i), .inl (.int .u8 (zs.getD i 0)), .inl (pt g i)] [2, 3] (by kernel_rfl) (by kernel_rfl) (by kernel_rfl) (by kernel_rfl) rfl (by kernel_rfl) (by kernel_rfl) (late_cons ⟨_, _, rfl, rfl, fun _ _ _ _ h => h, fun f hd => ⟨rfl, la_mv (.tmp 3) (.slice (some ⟨g, 0, none⟩) xs.length cap) (fun _ => rfl) e3⟩⟩ (late_cons ⟨_, _, rfl, rfl, fun _ _ _ _ h => h, fun f hd => ⟨rfl, la_mv (.tmp 7) (.int .i64 (j : Int)) (fun _ => rfl) e7⟩⟩ late_nil)) ?_ ?_ ?_
   ·exact Ds.none rfl
   ·refine ea_cons ?_ (ea_cons ?_ (ea_cons ?_ (ea_cons ?_ (ea_cons ?_ (ea_cons ?_ (ea_cons ?_ (ea_cons ?_ (ea_cons ?_ (ea_cons ?_ (ea_cons ?_ (ea_cons ?_ (ea_cons ?_ (ea_nil)))))))))))))
    ·exact og_eq _ rfl (fun f wf hq hd K hK => go_run rfl (wo_mv (.tmp 3) (.slice (some ⟨g, 0, none⟩) xs.length cap) (fun _ => rfl) e3 (hK _ (Mo.refl _))))
    ·exact og_eq _ rfl (fun f wf hq hd K hK => go_run rfl (wo_mv (.tmp 6) (.int .i64 (i : Int)) (fun _ => rfl) e6 (hK _ (Mo.refl _))))
    ·exact og_eq _ rfl (fun f wf hq hd K hK => go_run rfl (wo_mv (.tmp 3) (.slice (some ⟨g, 0, none⟩) xs.length cap) (fun _ => rfl) e3 (hK _ (Mo.refl _))))
    ·exact og_eq _ rfl (fun f wf hq hd K hK => go_run rfl (wo_mv (.tmp 7) (.int .i64 (j : Int)) (fun _ => rfl) e7 (hK _ (Mo.refl _))))
    ·exact og_eq _ rfl (fun f wf hq hd K hK => go_run rfl (wo_mv (.tmp 3) (.slice (some ⟨g, 0, none⟩) xs.length cap) (fun _ => rfl) e3 (hK _ (Mo.refl _))))
    ·exact og_eq _ rfl (fun f wf hq hd K hK => go_run rfl (wo_mv (.tmp 7) (.int .i64 (j : Int)) (fun _ => rfl) e7 (hK _ (Mo.refl _))))
    ·exact og_eq _ rfl (fun f wf hq hd K hK => go_run rfl (wo_bin (fun x y => Instr.indexAt 81 x y) (.tmp 40) (.tmp 41) (.slice (some ⟨g, 0, none⟩) xs.length cap) (.int .i64 (j : Int)) (pt g j) (fun _ => rfl) (hd 4 rfl) (hd 5 rfl) (ixs g j xs.length cap (by omega) _) (hK _ (Mo.refl _))))
    ·exact og_eq _ rfl (fun f wf hq hd K hK => have Qg := Qg.mo hq; go_run rfl (wo_load 5 (.tmp 42) (pt g j) (.int .u8 (zs.getD j 0)) rfl (hd 6 rfl) (run_one (v := .int .u8 (zs.getD j 0)) Qg 5 j (getD_map (by omega)) Tryz.underlying5 rfl) (hK _ (Mo.refl _))))
    ·exact og_eq _ rfl (fun f wf hq hd K hK => go_run rfl (wo_mv (.tmp 3) (.slice (some ⟨g, 0, none⟩) xs.length cap) (fun _ => rfl) e3 (hK _ (Mo.refl _))))
    ·exact og_eq _ rfl (fun f wf hq hd K hK => go_run rfl (wo_mv (.tmp 6) (.int .i64 (i : Int)) (fun _ => rfl) e6 (hK _ (Mo.refl _))))
    ·exact og_eq _ rfl (fun f wf hq hd K hK => go_run rfl (wo_bin (fun x y => Instr.indexAt 81 x y) (.tmp 44) (.tmp 45) (.slice (some ⟨g, 0, none⟩) xs.length cap) (.int .i64 (i : Int)) (pt g i) (fun _ => rfl) (hd 8 rfl) (hd 9 rfl) (ixs g i xs.length cap (by omega) _) (hK _ (Mo.refl _))))
    ·exact og_eq _ rfl (fun f wf hq hd K hK => have Qg := Qg.mo hq; go_run rfl (wo_load 5 (.tmp 46) (pt g i) (.int .u8 (zs.getD i 0)) rfl (hd 10 rfl) (run_one (v := .int .u8 (zs.getD i 0)) Qg 5 i (getD_map (by omega)) Tryz.underlying5 rfl) (hK _ (Mo.refl _))))
    ·exact og_eq _ rfl (fun f wf hq hd K hK => go_run rfl (wo_bin (fun x y => Instr.indexAt 81 x y) (.tmp 36) (.tmp 37) (.slice (some ⟨g, 0, none⟩) xs.length cap) (.int .i64 (i : Int)) (pt g i) (fun _ => rfl) (hd 0 rfl) (hd 1 rfl) (ixs g i xs.length cap (by omega) _) (hK _ (Mo.refl _))))
   intro kf61 w61 hq hR hne
   replace Qg := Qg.mo hq
   replace M := M.trans hq
   clear hq hR hne
   refine wl_st1 5 (.tmp 48) (.tmp 43) g i (.int .u8 (zs.getD j 0)) (zs.map (Value.int .u8)) ((zs.map (Value.int .u8)).set i (.int .u8 (zs.getD j 0))) Qg rfl rfl rfl rfl (blt_t (by simp; omega)) sz5 rfl rfl (set_tk (by simp; omega)) rfl ?_
   intro w62 hS Qn
   rw [← List.map_set] at Qn
   replace Qg := Qn
   clear Qn
   replace M := hS.mo _ hgN M
   clear hS
   refine wl_bin (fun x y => Instr.indexAt 81 x y) (.tmp 38) (.tmp 39) (.slice (some ⟨g, 0, none⟩) xs.length cap) (.int .i64 (j : Int)) (pt g j) (fun _ => rfl) rfl rfl (ixs g j xs.length cap (by omega) _) rfl ?_
   refine wl_st1 5 (.tmp 49) (.tmp 47) g j (.int .u8 (zs.getD i 0)) ((zs.set i (zs.getD j 0)).map (Value.int .u8)) (((zs.set i (zs.getD j 0)).map (Value.int .u8)).set j (.int .u8 (zs.getD i 0))) Qg rfl rfl rfl rfl (blt_t (by simp; omega)) sz5 rfl rfl (set_tk (by simp; omega)) rfl ?_
   intro w63 hS Qn
   rw [← List.map_set] at Qn
   replace Qg := Qn
   clear Qn
   replace M := hS.mo _ hgN M
   clear hS
   refine w_nil (xn_blk (xn_then (w_reg ?_)))
   refine wl_mv (.tmp 6) (.int .i64 (i : Int)) (fun _ => rfl) e6 rfl ?_
   refine wl_b .add 3 (.tmp 32) (.const (.int .i64 (1))) (.int .i64 (i : Int)) (.int .i64 (1)) (.int .i64 (((i + 1 : Nat) : Int))) (add1_run (by omega) _ _ _) ?_
   refine wl_mv (.tmp 7) (.int .i64 (j : Int)) (fun _ => rfl) e7 rfl ?_
   refine wl_b .sub 3 (.tmp 34) (.const (.int .i64 (1))) (.int .i64 (j : Int)) (.int .i64 (1)) (.int .i64 (((j - 1 : Nat) : Int))) (sub3b_run (by omega) _ _ _) ?_
   refine wl_m (.tmp 33) (.int .i64 (((i + 1 : Nat) : Int))) ?_
   refine wl_m (.tmp 35) (.int .i64 (((j - 1 : Nat) : Int))) ?_
   refine w_nil ?_
   exact xn_loop (r - 1) (by omega) ⟨i + 1, j - 1, _, by omega, by omega, e3, rfl, rfl, hrv.step hlt hij, Qg, M⟩
  ·have hl : decide ((i : Int) < (j : Int)) = false := decide_eq_false (by omega)
   refine w_seq (w_seq (w_reg ?_))
   refine wl_mv (.tmp 6) (.int .i64 (i : Int)) (fun _ => rfl) e6 rfl ?_
   refine wl_mv (.tmp 7) (.int .i64 (j : Int)) (fun _ => rfl) e7 rfl ?_
   refine wl_b .lss 3 (.tmp 29) (.tmp 30) (.int .i64 (i : Int)) (.int .i64 (j : Int)) (.bool false) (lt3_run hl _ _ _) ?_
   refine w_nil (xn_then (w_condF rfl (w_exit (xx_then (xx_then (xx_blk (xn_then (w_seq (w_reg ?_)))))))))
   refine wl_mv (.tmp 3) (.slice (some ⟨g, 0, none⟩) xs.length cap) (fun _ => rfl) e3 rfl ?_
   refine wl_un (fun v => convert 81 9 v) (.tmp 50) (.slice (some ⟨g, 0, none⟩) xs.length cap) (.string (strOf zs)) (fun _ => rfl) rfl (str_run _ g cap zs Qg _ hlz.symm) rfl ?_
   refine wl_m (.tmp 51) (.string (strOf zs)) ?_
   refine w_nil (xn_then (w_ret ?_))
   exact w_ret1 _ (.string (strOf zs)) rfl rfl ⟨by rw [hrv.done hlt hij, ← hxs, dRev_decF 77 n (by omega) (Int.lt_trans hn (by decide))], M⟩
 ·have hz : (l0 (m : Int) == 0 && (l1 (m : Int) == 0 && (l2 (m : Int) == 0 && l3 (m : Int) == 0))) = false := by rw [zb (by omega) hmM]; exact decide_eq_false (by omega)
  obtain ⟨f', rfl⟩ : ∃ f', f = f' + 1 := by cases f with | zero => simp at hmf; omega | succ f => exact ⟨f, rfl⟩
  refine w_seq (w_seq (w_reg ?_))
  refine wl_load 24 (.tmp 1) (pt k1 0) (nv ((m : Int))) rfl e1 (run_row Q1 24 0 4 (nvli ((m : Int))) rfl Tryz.underlying24 rfl sz24) rfl ?_
  refine wl_build 24 [] [] (.agg #[.int .u64 0, .int .u64 0, .int .u64 0, .int .u64 0]) rfl rfl (by kernel_rfl) rfl ?_
  refine wl_b .neq 24 (.tmp 11) (.tmp 12) (nv ((m : Int))) (.agg #[.int .u64 0, .int .u64 0, .int .u64 0, .int .u64 0]) (.bool true) (nen_run (r := false) hz _ _ _) ?_
  refine w_nil (xn_then (w_condT rfl (w_skip (xn_then (w_block (w_seq (w_reg ?_)))))))
  refine wl_load 24 (.tmp 1) (pt k1 0) (nv ((m : Int))) rfl e1 (run_row Q1 24 0 4 (nvli ((m : Int))) rfl Tryz.underlying24 rfl sz24) rfl ?_
  refine wl_call 112 [(.tmp 15), (.const (.int .u64 (10)))] _ [nv ((m : Int)), .int .u64 (10)] (.tuple #[nv ((m : Int) / 10), .int .u64 ((m : Int) % 10)]) rfl rfl (fun _ _ => by kernel_rfl) (small_n (m : Int) _ (by omega) hmM) rfl ?_
  intro w21 hq
  replace hown := own_mo hown hq
  replace Q1 := Q1.mo hq
  replace M := M.trans hq
  clear hq
  refine wl_m (.tmp 16) (.tuple #[nv ((m : Int) / 10), .int .u64 ((m : Int) % 10)]) ?_
  refine wl_un (fun v => Instr.extract v 0) (.tmp 14) (.tuple #[nv ((m : Int) / 10), .int .u64 ((m : Int) % 10)]) (nv ((m : Int) / 10)) (fun _ => rfl) rfl (by kernel_rfl) rfl ?_
  refine wl_un (fun v => Instr.extract v 1) (.tmp 14) (.tuple #[nv ((m : Int) / 10), .int .u64 ((m : Int) % 10)]) (.int .u64 ((m : Int) % 10)) (fun _ => rfl) rfl (by kernel_rfl) rfl ?_
  refine wl_alloc 24 #[.int .u64 0, .int .u64 0, .int .u64 0, .int .u64 0] rfl (fun _ => by kernel_rfl) rfl ?_
  intro k21 w22 hk hz hq Q21
  have ne_k1_k21 : k1 ≠ k21 := by have := Q1.lt; omega
  have on_k21 : v.ownBlock ≠ some k21 := fun e => by have := (hown.lt _ e).2; omega
  have N_k21 : w.heap.size ≤ k21 := by have := M.size; omega
  replace hown := own_mo hown hq
  replace Q1 := Q1.mo hq
  replace M := M.trans hq
  clear hk hz hq
  refine wl_stx 24 (.tmp 4) (.tmp 17) k21 0 (nvar ((m : Int) / 10)) _ (nvli ((m : Int) / 10)) Q21 rfl rfl rfl rfl rfl sz24 rfl rfl rfl ?_
  intro w23 hS Qn
  replace Q21 := Qn
  clear Qn
  replace Q1 := hS.other _ _ ne_k1_k21 Q1
  replace hown := own_st hS hown on_k21
  replace M := hS.mo _ N_k21 M
  clear hS
  refine wl_m (.tmp 18) (.int .u64 ((m : Int) % 10)) ?_
  refine w_nil (xn_then (w_seq (w_reg ?_)))
  refine wl_mv (.tmp 3) (v) (fun _ => rfl) e3 rfl ?_
  refine wl_m (.tmp 5) (.int .u64 ((m : Int) % 10)) ?_
  refine wl_b .add 22 (.const (.int .u64 (48))) (.tmp 20) (.int .u64 (48)) (.int .u64 ((m : Int) % 10)) (.int .u64 (48 + (m : Int) % 10)) (addu_run rfl (by omega) (by omega) _ _ _) ?_
  refine wl_un (fun v => convert 22 5 v) (.tmp 21) (.int .u64 (48 + (m : Int) % 10)) (.int .u8 (48 + (m : Int) % 10)) (fun _ => rfl) rfl (cvb_run (by omega) (by omega) _) rfl ?_
  refine wl_bsl (.tmp 22) (48 + (m : Int) % 10) rfl rfl rfl ?_
  intro k22 w24 hk hz2 hq Q22
  have ne_k1_k22 : k1 ≠ k22 := by have := Q1.lt; omega
  have ne_k21_k22 : k21 ≠ k22 := by have := Q21.lt; omega
  have on_k22 : v.ownBlock ≠ some k22 := fun e => by have := (hown.lt _ e).2; omega
  have N_k22 : w.heap.size ≤ k22 := by have := M.size; omega
  replace hown := own_mo hown hq
  replace Q1 := Q1.mo hq
  replace Q21 := Q21.mo hq
  replace M := M.trans hq
  clear hk hz2 hq
  refine wl_app (.tmp 19) (.tmp 23) w.heap.size v xs.length (xs.map (Value.int .u8)) k22 (48 + (m : Int) % 10) rfl rfl rfl hown Q22 (by omega) (by have := M.size; omega) rfl ?_
  intro v' w25 hown2 hW hat
  have hne2 : v'.ownBlock ≠ some k1 := by rcases hat with h | h <;> rw [h]; exact on_k1; intro e; cases e; have := Q1.lt; omega
  replace M := hW.mo M (fun j e => (hown.lt _ e).1)
  replace Q1 := hW.at Q1 on_k1
  replace Q21 := hW.at Q21 on_k21
  replace Q22 := hW.at Q22 on_k22
  clear hown hW hat
  have hown := hown2
  clear hown2
  replace on_k1 := hne2
  clear on_k21
  clear on_k22
  refine wl_m (.tmp 24) (v') ?_
  refine w_nil (xn_then (w_reg ?_))
  refine wl_l 24 (.tmp 4) (pt k21 0) (nv ((m : Int) / 10)) (run_row Q21 24 0 4 (nvli ((m : Int) / 10)) rfl Tryz.underlying24 rfl sz24) ?_
  refine wl_stx 24 (.tmp 1) (.tmp 25) k1 0 (nvar ((m : Int) / 10)) (nvli ((m : Int))) (nvli ((m : Int) / 10)) Q1 rfl rfl e1 rfl rfl sz24 rfl rfl rfl ?_
  intro w26 hS Qn
  replace Q1 := Qn
  clear Qn
  replace Q21 := hS.other _ _ ne_k1_k21.symm Q21
  replace Q22 := hS.other _ _ ne_k1_k22.symm Q22
  replace hown := own_st hS hown on_k1
  replace M := hS.mo _ N_k1 M
  clear hS
  refine w_nil (xn_blk ?_)
  exact xn_loop (m / 10) (by omega) ⟨xs ++ [48 + (m : Int) % 10], v', f', e1, rfl, by rw [show ((m / 10 : Nat) : Int) = (m : Int) / 10 by omega]; exact Q1, by rw [List.length_append, List.map_append]; exact hown, hne2, by rw [hdr, dRev_step (by omega), List.append_assoc]; rw [show ((m / 10 : Nat) : Int) = (m : Int) / 10 by omega]; rfl, by rw [List.length_append]; simp; omega, by rw [Int.pow_succ] at hmf; omega, by omega, M⟩
theorem rtext_n (n : Int) (w : World) (h0 : 0 ≤ n) (h : n < MM) : Calls Tryz.prog 83 #[nv n] w fun e w' => e = .returned (.string (strOf (decF 78 n))) ∧ Mo w w' := by
 by_cases hz : n = 0
 ·subst hz
  exact rtext_0 0 w rfl
 ·exact rtext_w n w hz (by omega) h (by rw [zb h0 h]; exact decide_eq_false hz)
end Go.Proofs.YtogomodbcjpfiaaGreatDoor

