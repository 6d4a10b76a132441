/-
  A part of the proof.
-/
import Derived.Test.YtogomodbcjpfiaaGreatDoorKa19
import Derived.Test.YtogomodbcjpfiaaGreatDoorKStays1
import Derived.Test.YtogomodbcjpfiaaGreatDoorKa18
import Derived.Test.YtogomodbcjpfiaaGreatDoorKa17
import Derived.Test.YtogomodbcjpfiaaGreatDoorKa16
import Derived.Test.YtogomodbcjpfiaaGreatDoorKa15
import Derived.Test.YtogomodbcjpfiaaGreatDoorKa14
import Derived.Test.YtogomodbcjpfiaaGreatDoorKa1
import Derived.Shelf.Strings.Builder1
import Derived.Shelf.Strings.Builder2
import Derived.Shelf.Small.Bits
import Derived.Shelf.Small.Wraps
import Derived.Shelf.Strings.BuilderF
import Derived.Shelf.Strings.BuilderK
import Derived.Shelf.Strings.Prefix
import Derived.Shelf.Bits.Mul64
import Derived.Shelf.Strings.Repeat
import Derived.Test.YtogomodbcjpfiaaGreatDoorProg
import Derived.Shelf.Strconv.Itoa0
import Derived.Test.YtogomodbcjpfiaaGreatDoorKa11
import Derived.Test.YtogomodbcjpfiaaGreatDoorKa9
import Derived.Test.YtogomodbcjpfiaaGreatDoorKa4
import Derived.Test.YtogomodbcjpfiaaGreatDoorKa3
import Derived.Test.YtogomodbcjpfiaaGreatDoorKa2
import Derived.RegionTactic
import Derived.WalkKit
import Derived.WalkSpells
import Derived.Handy
import Derived.BigQuiet
import Derived.Deep.RegionHeld3
import Derived.Deep.MidRow
import Derived.BigCall
import Derived.Test.YtogomodbcjpfiaaGreatDoorKa8
import Derived.Test.YtogomodbcjpfiaaGreatDoorKa5
import Derived.Deep.CutBlock
import Derived.Deep.CutRange
import Derived.Test.YtogomodbcjpfiaaGreatDoorKa7
import Derived.Test.YtogomodbcjpfiaaGreatDoorKa6
import Derived.ChangeKeysEq
import Derived.ScopeJumps
import Derived.WalkMore
import Derived.Laws.StructEq
import Derived.Test.YtogomodbcjpfiaaGreatDoorKa10
import Derived.Test.YtogomodbcjpfiaaGreatDoorKa13
import Derived.Test.YtogomodbcjpfiaaGreatDoorKa12
import Derived.Lib.CutLaws
import Derived.Lib.IndexBytes
import Derived.Maps.OwnSet
import Derived.WalkArith
import Derived.StringKeys
import Derived.Test.YtogomodbcjpfiaaGreatDoorKa21
import Derived.Test.YtogomodbcjpfiaaGreatDoorKa20
import Derived.Maps.AppendAt
import Derived.Deep.AppendLies
import Derived.Laws.BytesString
namespace Go.Proofs.YtogomodbcjpfiaaGreatDoor
open Go.RowKit
set_option maxHeartbeats 1000000 in
theorem withPointM_a (s : ByteArray) (k j : Nat) (w : World) (hk0 : ((k : Int) == 0) = false) (hk : k ≤ 1000) (hs : s.size ≤ 1000) (hj : s.size = k + j) (hj0 : 0 < j) :
  Calls Tryz.prog 75 #[.string s, .int .i64 (k : Int)] w fun e w' => e = .returned (.string (s.extract 0 j ++ ⟨#[46]⟩ ++ s.extract j s.size)) ∧ Mo w w' := by
 have q1 : IntKind.i64.wrap ((k : Int) + 1) = (k : Int) + 1 := by rw [IntKind.wrap_i64]; omega
 have q2 : IntKind.i64.wrap ((k : Int) + 1 - (s.size : Int)) = (k : Int) + 1 - (s.size : Int) := by rw [IntKind.wrap_i64]; omega
 have q3 : ¬ (0 < (k : Int) + 1 - (s.size : Int)) := by omega
 have q4 : IntKind.i64.wrap ((s.size : Int) - (k : Int)) = (j : Int) := by rw [IntKind.wrap_i64]; omega
 have q5 : (0 : Int) ≤ (j : Int) := by omega
 have q6 : (j : Int) ≤ (s.size : Int) := by omega
 have r1 : wrap64 ((k : Int) + 1) = (k : Int) + 1 := by unfold wrap64; omega
 have r2 : wrap64 ((k : Int) + 1 - (s.size : Int)) = (k : Int) + 1 - (s.size : Int) := by unfold wrap64; omega
 have r4 : wrap64 ((s.size : Int) - (k : Int)) = (j : Int) := by unfold wrap64; omega
 have hk1 : (k : Int) ≠ 0 := by intro h; rw [h] at hk0; cases hk0
 clear hj
 go_enter Tryz.func75, Tryz.ntmps75
 go_wp2
 go_region
 go_wp2
 go_ret
 exact ⟨rfl, (Mo.refl _).drew⟩
theorem cM {g : FuncId} {args : Array Value} {w : World} {a b : Value} (h : a = b) (c : Calls Tryz.prog g args w fun e w' => e = .returned a ∧ Mo w w') : Calls Tryz.prog g args w fun e w' => e = .returned b ∧ Mo w w' := h ▸ c
theorem wpM (w : World) : Calls Tryz.prog 75 #[.string ⟨#[49, 53, 48]⟩, .int .i64 2] w fun e w' => e = .returned (.string ⟨#[49, 46, 53, 48]⟩) ∧ Mo w w' :=
 cM (congrArg Value.string (by decide)) (withPointM_a ⟨#[49, 53, 48]⟩ 2 1 w rfl (by decide) (by decide) rfl (by decide))
theorem txM (w : World) : Calls Tryz.prog 76 #[nv 150] w fun e w' => e = .returned (.string ⟨#[49, 53, 48]⟩) ∧ Mo w w' :=
 cM (congrArg Value.string (by kernel_rfl)) (text_n 150 w (by decide) (by decide))
theorem ckM (w : World) : Calls Tryz.prog 68 #[dc false 150 2] w fun e w' => e = .returned (.int .i64 0) ∧ Mo w w' :=
 cM (congrArg (Value.int .i64) (by decide)) (check_n false 150 2 w (by decide) (by decide))
theorem dtM (w : World) : Calls Tryz.prog 53 #[dc false 150 2] w fun e9 w' => e9 = .returned (.string ⟨#[49, 46, 53, 48]⟩) ∧ Mo w w' := by
 refine w_enter 18 Tryz.func53 Tryz.ntmps53 rfl rfl ?_
 have M : Mo w w := Mo.refl _
 refine w_seq (w_reg ?_)
 refine wl_box 26 (.tmp 0) _ (#[.bool false, .int .u64 (l0 150), .int .u64 (l1 150), .int .u64 (l2 150), .int .u64 (l3 150), .int .i64 2]) rfl rfl (fun _ => by kernel_rfl) rfl ?_
 intro k1 u1 hk hz hq Q1
 have N_k1 : w.heap.size ≤ k1 := by have := M.size; omega
 replace M := M.trans hq
 clear hk hz hq
 refine wl_m (.const (.string ⟨#[]⟩)) (.string ⟨#[]⟩) ?_
 refine w_nil (xn_then (w_seq (w_seq (w_reg ?_))))
 refine wl_l 26 (.tmp 1) (pt k1 0) (.agg #[.bool false, .int .u64 (l0 150), .int .u64 (l1 150), .int .u64 (l2 150), .int .u64 (l3 150), .int .i64 2]) (run_row Q1 26 0 6 _ rfl Tryz.underlying26 rfl sz26) ?_
 refine wl_call 68 [(.tmp 4)] _ [.agg #[.bool false, .int .u64 (l0 150), .int .u64 (l1 150), .int .u64 (l2 150), .int .u64 (l3 150), .int .i64 2]] (.int .i64 (0)) rfl rfl (fun _ _ => by kernel_rfl) (ckM _) rfl ?_
 intro u2 hq
 replace Q1 := Q1.mo hq
 replace M := M.trans hq
 clear hq
 refine wl_b .neq 32 (.tmp 5) (.const (.int .i64 (0))) (.int .i64 (0)) (.int .i64 (0)) (.bool false) (ne34 (r := true) rfl _ _ _) ?_
 refine w_nil (xn_then (w_condF rfl (w_skip (xn_then (w_seq ?_)))))
 refine w_any 5 [.inl (pt k1 1), .inl (.agg #[.int .u64 (l0 150), .int .u64 (l1 150), .int .u64 (l2 150), .int .u64 (l3 150)]), .inl (.string (⟨#[49, 53, 48]⟩)), .inl (pt k1 5), .inl (.int .i64 (2))] [] (by kernel_rfl) (by kernel_rfl) (by kernel_rfl) (by kernel_rfl) rfl (by kernel_rfl) (by kernel_rfl) late_nil ?_ ?_ ?_
 ·exact Ds.none rfl
 ·refine ea_cons ?_ (ea_cons ?_ (ea_cons ?_ (ea_cons ?_ (ea_cons ?_ (ea_nil)))))
  ·exact og_eq _ rfl (fun f wf hq hd K hK => go_run rfl (wo_un (fun v => Instr.fieldAt 26 v 1) (.tmp 1) (pt k1 0) (pt k1 1) (fun _ => rfl) rfl (by kernel_rfl) (hK _ (Mo.refl _))))
  ·exact og_eq _ rfl (fun f wf hq hd K hK => have Q1 := Q1.mo hq; go_run rfl (wo_load 24 (.tmp 7) (pt k1 1) (.agg #[.int .u64 (l0 150), .int .u64 (l1 150), .int .u64 (l2 150), .int .u64 (l3 150)]) rfl (hd 0 rfl) (run_row Q1 24 1 4 _ rfl Tryz.underlying24 rfl sz24) (hK _ (Mo.refl _))))
  ·exact og_eq _ rfl (fun f wf hq hd K hK => go_run rfl (wo_call 76 [(.tmp 8)] _ [.agg #[.int .u64 (l0 150), .int .u64 (l1 150), .int .u64 (l2 150), .int .u64 (l3 150)]] (.string (⟨#[49, 53, 48]⟩)) rfl (li1 (hd 1 rfl)) (fun _ _ => by kernel_rfl) (txM _) hK))
  ·exact og_eq _ rfl (fun f wf hq hd K hK => go_run rfl (wo_un (fun v => Instr.fieldAt 26 v 2) (.tmp 1) (pt k1 0) (pt k1 5) (fun _ => rfl) rfl (by kernel_rfl) (hK _ (Mo.refl _))))
  ·exact og_eq _ rfl (fun f wf hq hd K hK => have Q1 := Q1.mo hq; go_run rfl (wo_load 3 (.tmp 10) (pt k1 5) (.int .i64 (2)) rfl (hd 3 rfl) (run_one Q1 3 5 rfl Tryz.underlying3 rfl) (hK _ (Mo.refl _))))
 intro kf3 u3 hq hR hne
 replace Q1 := Q1.mo hq
 replace M := M.trans hq
 clear hq hR hne
 refine wl_call 75 [(.tmp 9), (.tmp 11)] _ [.string (⟨#[49, 53, 48]⟩), .int .i64 (2)] (.string (⟨#[49, 46, 53, 48]⟩)) rfl rfl (fun _ _ => by kernel_rfl) (wpM _) rfl ?_
 intro u4 hq
 replace Q1 := Q1.mo hq
 replace M := M.trans hq
 clear hq
 refine wl_m (.tmp 12) (.string (⟨#[49, 46, 53, 48]⟩)) ?_
 refine w_nil (xn_then (w_seq (w_seq (w_reg ?_))))
 refine wl_f 26 0 (.tmp 1) (pt k1 0) (pt k1 0) ?_
 refine wl_l 4 (.tmp 13) (pt k1 0) (.bool false) (run_one Q1 4 0 rfl Tryz.underlying4 rfl) ?_
 refine w_nil (xn_then (w_condF rfl (w_skip (xn_then (w_seq (w_reg ?_))))))
 refine wl_m (.tmp 3) (.string (⟨#[49, 46, 53, 48]⟩)) ?_
 refine wl_m (.tmp 17) (.string (⟨#[49, 46, 53, 48]⟩)) ?_
 refine w_nil (xn_then (w_ret ?_))
 exact w_ret1 _ _ rfl rfl ⟨rfl, M⟩
theorem vtM (w : World) : Calls Tryz.prog 25 #[(vNu false 150 2).v] w fun e9 w' => e9 = .returned (.string ⟨#[49, 46, 53, 48]⟩) ∧ Mo w w' := by
 refine w_enter 29 Tryz.func25 Tryz.ntmps25 rfl rfl ?_
 have M : Mo w w := Mo.refl _
 refine w_seq (w_reg ?_)
 refine wl_box 28 (.tmp 0) _ ((((vNu false 150 2).cells).toArray)) rfl rfl (fun _ => by kernel_rfl) rfl ?_
 intro k1 u1 hk hz hq Q1
 have N_k1 : w.heap.size ≤ k1 := by have := M.size; omega
 replace M := M.trans hq
 clear hk hz hq
 refine wl_m (.const (.string ⟨#[]⟩)) (.string ⟨#[]⟩) ?_
 refine w_nil (xn_then (w_seq (w_seq (w_reg ?_))))
 refine wl_l 28 (.tmp 1) (pt k1 0) (.agg ((vNu false 150 2).cells).toArray) (run_row Q1 28 0 10 ((vNu false 150 2).cells) rfl Tryz.underlying28 rfl sz28) ?_
 refine wl_call 13 [(.tmp 3)] _ [.agg ((vNu false 150 2).cells).toArray] (.int .i64 (0)) rfl rfl (fun _ _ => by kernel_rfl) (check_t (ckv_vNu (by decide)) ⟨by decide, by decide⟩ _) rfl ?_
 intro u2 hq
 replace Q1 := Q1.mo hq
 replace M := M.trans hq
 clear hq
 refine wl_b .neq 32 (.tmp 4) (.const (.int .i64 (0))) (.int .i64 (0)) (.int .i64 (0)) (.bool false) (ne34 (r := true) rfl _ _ _) ?_
 refine w_nil (xn_then (w_condF rfl (w_skip (xn_then (w_seq (w_seq (w_reg ?_)))))))
 refine wl_f 28 0 (.tmp 1) (pt k1 0) (pt k1 0) ?_
 refine wl_l 3 (.tmp 6) (pt k1 0) (.int .i64 ((vNu false 150 2).k)) (run_one Q1 3 0 rfl Tryz.underlying3 rfl) ?_
 refine w_nil (xn_then (w_block (w_seq (w_reg ?_))))
 refine wl_b .eql 3 (.tmp 7) (.const (.int .i64 (1))) (.int .i64 ((vNu false 150 2).k)) (.int .i64 (1)) (.bool true) (eq3 rfl _ _ _) ?_
 refine wl_m (.tmp 9) (.bool true) ?_
 refine w_nil (xn_then (w_condT rfl (w_seq (w_reg ?_))))
 refine wl_f 28 1 (.tmp 1) (pt k1 0) (pt k1 1) ?_
 refine wl_l 26 (.tmp 10) (pt k1 1) (.agg #[.bool (vNu false 150 2).b, .int .u64 (l0 (vNu false 150 2).n), .int .u64 (l1 (vNu false 150 2).n), .int .u64 (l2 (vNu false 150 2).n), .int .u64 (l3 (vNu false 150 2).n), .int .i64 (vNu false 150 2).s]) (run_row Q1 26 1 6 _ rfl Tryz.underlying26 rfl sz26) ?_
 refine wl_call 53 [(.tmp 11)] _ [.agg #[.bool (vNu false 150 2).b, .int .u64 (l0 (vNu false 150 2).n), .int .u64 (l1 (vNu false 150 2).n), .int .u64 (l2 (vNu false 150 2).n), .int .u64 (l3 (vNu false 150 2).n), .int .i64 (vNu false 150 2).s]] (.string (⟨#[49, 46, 53, 48]⟩)) rfl rfl (fun _ _ => by kernel_rfl) (dtM _) rfl ?_
 intro u3 hq
 replace Q1 := Q1.mo hq
 replace M := M.trans hq
 clear hq
 refine wl_m (.tmp 12) (.string (⟨#[49, 46, 53, 48]⟩)) ?_
 refine w_nil (xn_then (w_ret (xr_blk (xr_then ?_))))
 exact w_ret1 _ _ rfl rfl ⟨rfl, M⟩
theorem op_liveM1 : opV 1 (vNu false 150 2) (vNu false 2 0) = vNu false 350 2 := by
 rw [op_num 1 rfl rfl (ckv_vNu (by decide)) (ckv_vNu (by decide))]
 rfl
theorem op_liveM2 : opV 1 vBl (vNu false 2 0) = vEr 3 := by
 have a : ask vBl = 3 := by
  have c : ckv vBl = true := by unfold ckv; rw [show bareV vBl = vBl from rfl, svv_self]; rfl
  unfold ask; rw [if_pos c]; rfl
 have q : ask2 vBl (vNu false 2 0) = 3 := by unfold ask2; rw [a]; rfl
 unfold opV; rw [q]; rfl
theorem liveM_n (w : World) : Calls Tryz.prog 10 #[] w fun e9 w' => e9 = .returned (.bool true) ∧ Mo w w' := by
 refine w_enter 30 Tryz.func10 Tryz.ntmps10 rfl rfl ?_
 have M : Mo w w := Mo.refl _
 refine w_seq (w_reg ?_)
 refine wl_m (.const (.bool false)) (.bool false) ?_
 refine w_nil (xn_then (w_seq (w_reg ?_)))
 refine wl_build 24 [(0, (.const (.int .u64 (150))))] [(0, .int .u64 (150))] (.agg #[.int .u64 (150), .int .u64 0, .int .u64 0, .int .u64 0]) rfl rfl (by kernel_rfl) rfl ?_
 refine wl_build 26 [(1, (.tmp 4)), (2, (.const (.int .i64 (2))))] [(1, .agg #[.int .u64 (150), .int .u64 0, .int .u64 0, .int .u64 0]), (2, .int .i64 (2))] (.agg #[.bool false, .int .u64 (150), .int .u64 0, .int .u64 0, .int .u64 0, .int .i64 (2)]) rfl rfl (by kernel_rfl) rfl ?_
 refine wl_build 28 [(0, (.const (.int .i64 (1)))), (1, (.tmp 5))] [(0, .int .i64 (1)), (1, .agg #[.bool false, .int .u64 (150), .int .u64 0, .int .u64 0, .int .u64 0, .int .i64 (2)])] (.agg #[.int .i64 (1), .bool false, .int .u64 (150), .int .u64 0, .int .u64 0, .int .u64 0, .int .i64 (2), .bool false, .string ⟨#[]⟩, .int .i64 0]) rfl rfl (by kernel_rfl) rfl ?_
 refine wl_alloc 28 #[.int .i64 0, .bool false, .int .u64 0, .int .u64 0, .int .u64 0, .int .u64 0, .int .i64 0, .bool false, .string ⟨#[]⟩, .int .i64 0] rfl (fun _ => by kernel_rfl) rfl ?_
 intro k1 u1 hk hz hq Q1
 have N_k1 : w.heap.size ≤ k1 := by have := M.size; omega
 replace M := M.trans hq
 clear hk hz hq
 refine wl_st 28 (.tmp 1) (.tmp 6) k1 0 #[.int .i64 (1), .bool false, .int .u64 (150), .int .u64 0, .int .u64 0, .int .u64 0, .int .i64 (2), .bool false, .string ⟨#[]⟩, .int .i64 0] _ [.int .i64 (1), .bool false, .int .u64 (150), .int .u64 0, .int .u64 0, .int .u64 0, .int .i64 (2), .bool false, .string ⟨#[]⟩, .int .i64 0] Q1 rfl rfl rfl rfl rfl sz28 rfl rfl rfl ?_
 intro u2 hS Qn
 replace Q1 := Qn
 clear Qn
 replace M := hS.mo _ N_k1 M
 clear hS
 refine w_nil (xn_then (w_seq (w_reg ?_)))
 refine wl_build 24 [(0, (.const (.int .u64 (2))))] [(0, .int .u64 (2))] (.agg #[.int .u64 (2), .int .u64 0, .int .u64 0, .int .u64 0]) rfl rfl (by kernel_rfl) rfl ?_
 refine wl_build 26 [(1, (.tmp 7))] [(1, .agg #[.int .u64 (2), .int .u64 0, .int .u64 0, .int .u64 0])] (.agg #[.bool false, .int .u64 (2), .int .u64 0, .int .u64 0, .int .u64 0, .int .i64 0]) rfl rfl (by kernel_rfl) rfl ?_
 refine wl_build 28 [(0, (.const (.int .i64 (1)))), (1, (.tmp 8))] [(0, .int .i64 (1)), (1, .agg #[.bool false, .int .u64 (2), .int .u64 0, .int .u64 0, .int .u64 0, .int .i64 0])] (.agg #[.int .i64 (1), .bool false, .int .u64 (2), .int .u64 0, .int .u64 0, .int .u64 0, .int .i64 0, .bool false, .string ⟨#[]⟩, .int .i64 0]) rfl rfl (by kernel_rfl) rfl ?_
 refine wl_alloc 28 #[.int .i64 0, .bool false, .int .u64 0, .int .u64 0, .int .u64 0, .int .u64 0, .int .i64 0, .bool false, .string ⟨#[]⟩, .int .i64 0] rfl (fun _ => by kernel_rfl) rfl ?_
 intro k2 u3 hk hz hq Q2
 have ne_k1_k2 : k1 ≠ k2 := by have := Q1.lt; omega
 have N_k2 : w.heap.size ≤ k2 := by have := M.size; omega
 replace Q1 := Q1.mo hq
 replace M := M.trans hq
 clear hk hz hq
 refine wl_st 28 (.tmp 2) (.tmp 9) k2 0 #[.int .i64 (1), .bool false, .int .u64 (2), .int .u64 0, .int .u64 0, .int .u64 0, .int .i64 0, .bool false, .string ⟨#[]⟩, .int .i64 0] _ [.int .i64 (1), .bool false, .int .u64 (2), .int .u64 0, .int .u64 0, .int .u64 0, .int .i64 0, .bool false, .string ⟨#[]⟩, .int .i64 0] Q2 rfl rfl rfl rfl rfl sz28 rfl rfl rfl ?_
 intro u4 hS Qn
 replace Q2 := Qn
 clear Qn
 replace Q1 := hS.other _ _ ne_k1_k2 Q1
 replace M := hS.mo _ N_k2 M
 clear hS
 refine w_nil (xn_then (w_seq (w_reg ?_)))
 refine wl_l 28 (.tmp 1) (pt k1 0) (.agg #[.int .i64 (1), .bool false, .int .u64 (150), .int .u64 0, .int .u64 0, .int .u64 0, .int .i64 (2), .bool false, .string ⟨#[]⟩, .int .i64 0]) (run_row Q1 28 0 10 _ rfl Tryz.underlying28 rfl sz28) ?_
 refine wl_l 28 (.tmp 2) (pt k2 0) (.agg #[.int .i64 (1), .bool false, .int .u64 (2), .int .u64 0, .int .u64 0, .int .u64 0, .int .i64 0, .bool false, .string ⟨#[]⟩, .int .i64 0]) (run_row Q2 28 0 10 _ rfl Tryz.underlying28 rfl sz28) ?_
 refine wl_call 11 [(.const (.int .i64 (1))), (.tmp 10), (.tmp 11)] _ [.int .i64 (1), .agg #[.int .i64 (1), .bool false, .int .u64 (150), .int .u64 0, .int .u64 0, .int .u64 0, .int .i64 (2), .bool false, .string ⟨#[]⟩, .int .i64 0], .agg #[.int .i64 (1), .bool false, .int .u64 (2), .int .u64 0, .int .u64 0, .int .u64 0, .int .i64 0, .bool false, .string ⟨#[]⟩, .int .i64 0]] (.agg ((vNu false 350 2).cells).toArray) rfl rfl (fun _ _ => by kernel_rfl) (cV (op_liveM1) (op_n 1 (vNu false 150 2) (vNu false 2 0) _ ⟨by decide, by decide⟩ ⟨by decide, by decide⟩)) rfl ?_
 intro u5 hq
 replace Q1 := Q1.mo hq
 replace Q2 := Q2.mo hq
 replace M := M.trans hq
 clear hq
 refine wl_alloc 28 #[.int .i64 0, .bool false, .int .u64 0, .int .u64 0, .int .u64 0, .int .u64 0, .int .i64 0, .bool false, .string ⟨#[]⟩, .int .i64 0] rfl (fun _ => by kernel_rfl) rfl ?_
 intro k3 u6 hk hz hq Q3
 have ne_k1_k3 : k1 ≠ k3 := by have := Q1.lt; omega
 have ne_k2_k3 : k2 ≠ k3 := by have := Q2.lt; omega
 have N_k3 : w.heap.size ≤ k3 := by have := M.size; omega
 replace Q1 := Q1.mo hq
 replace Q2 := Q2.mo hq
 replace M := M.trans hq
 clear hk hz hq
 refine wl_st 28 (.tmp 3) (.tmp 12) k3 0 (((vNu false 350 2).cells).toArray) _ ((vNu false 350 2).cells) Q3 rfl rfl rfl rfl rfl sz28 rfl rfl rfl ?_
 intro u7 hS Qn
 replace Q3 := Qn
 clear Qn
 replace Q1 := hS.other _ _ ne_k1_k3 Q1
 replace Q2 := hS.other _ _ ne_k2_k3 Q2
 replace M := hS.mo _ N_k3 M
 clear hS
 refine w_nil (xn_then (w_seq (w_reg ?_)))
 refine wl_l 28 (.tmp 3) (pt k3 0) (.agg ((vNu false 350 2).cells).toArray) (run_row Q3 28 0 10 ((vNu false 350 2).cells) rfl Tryz.underlying28 rfl sz28) ?_
 refine wl_build 24 [(0, (.const (.int .u64 (350))))] [(0, .int .u64 (350))] (.agg #[.int .u64 (350), .int .u64 0, .int .u64 0, .int .u64 0]) rfl rfl (by kernel_rfl) rfl ?_
 refine wl_build 26 [(1, (.tmp 14)), (2, (.const (.int .i64 (2))))] [(1, .agg #[.int .u64 (350), .int .u64 0, .int .u64 0, .int .u64 0]), (2, .int .i64 (2))] (.agg #[.bool false, .int .u64 (350), .int .u64 0, .int .u64 0, .int .u64 0, .int .i64 (2)]) rfl rfl (by kernel_rfl) rfl ?_
 refine wl_build 28 [(0, (.const (.int .i64 (1)))), (1, (.tmp 15))] [(0, .int .i64 (1)), (1, .agg #[.bool false, .int .u64 (350), .int .u64 0, .int .u64 0, .int .u64 0, .int .i64 (2)])] (.agg #[.int .i64 (1), .bool false, .int .u64 (350), .int .u64 0, .int .u64 0, .int .u64 0, .int .i64 (2), .bool false, .string ⟨#[]⟩, .int .i64 0]) rfl rfl (by kernel_rfl) rfl ?_
 refine wl_b .eql 28 (.tmp 13) (.tmp 16) (.agg ((vNu false 350 2).cells).toArray) (.agg #[.int .i64 (1), .bool false, .int .u64 (350), .int .u64 0, .int .u64 0, .int .u64 0, .int .i64 (2), .bool false, .string ⟨#[]⟩, .int .i64 0]) (.bool true) (eqW (svv_self _) _ _ _) ?_
 refine wl_m (.tmp 17) (.bool true) ?_
 refine wl_build 28 [] [] (.agg #[.int .i64 0, .bool false, .int .u64 0, .int .u64 0, .int .u64 0, .int .u64 0, .int .i64 0, .bool false, .string ⟨#[]⟩, .int .i64 0]) rfl rfl (by kernel_rfl) rfl ?_
 refine wl_l 28 (.tmp 2) (pt k2 0) (.agg #[.int .i64 (1), .bool false, .int .u64 (2), .int .u64 0, .int .u64 0, .int .u64 0, .int .i64 0, .bool false, .string ⟨#[]⟩, .int .i64 0]) (run_row Q2 28 0 10 _ rfl Tryz.underlying28 rfl sz28) ?_
 refine wl_call 11 [(.const (.int .i64 (1))), (.tmp 19), (.tmp 20)] _ [.int .i64 (1), .agg #[.int .i64 0, .bool false, .int .u64 0, .int .u64 0, .int .u64 0, .int .u64 0, .int .i64 0, .bool false, .string ⟨#[]⟩, .int .i64 0], .agg #[.int .i64 (1), .bool false, .int .u64 (2), .int .u64 0, .int .u64 0, .int .u64 0, .int .i64 0, .bool false, .string ⟨#[]⟩, .int .i64 0]] (.agg ((vEr 3).cells).toArray) rfl rfl (fun _ _ => by kernel_rfl) (cV (op_liveM2) (op_n 1 vBl (vNu false 2 0) _ (ok_0 _ _ _ _ _ _) ⟨by decide, by decide⟩)) rfl ?_
 intro u8 hq
 replace Q1 := Q1.mo hq
 replace Q2 := Q2.mo hq
 replace Q3 := Q3.mo hq
 replace M := M.trans hq
 clear hq
 refine wl_un (fun v => Instr.field 28 v 4) (.tmp 21) (.agg ((vEr 3).cells).toArray) (.int .i64 ((vEr 3).e)) (fun _ => rfl) rfl (by kernel_rfl) rfl ?_
 refine wl_b .eql 3 (.tmp 22) (.const (.int .i64 (3))) (.int .i64 ((vEr 3).e)) (.int .i64 (3)) (.bool true) (eq3 rfl _ _ _) ?_
 refine wl_pick (.tmp 18) (.tmp 23) (.const (.bool false)) true (.bool true) (fun _ => rfl) rfl rfl rfl ?_
 refine wl_m (.tmp 24) (.bool true) ?_
 refine wl_l 28 (.tmp 1) (pt k1 0) (.agg #[.int .i64 (1), .bool false, .int .u64 (150), .int .u64 0, .int .u64 0, .int .u64 0, .int .i64 (2), .bool false, .string ⟨#[]⟩, .int .i64 0]) (run_row Q1 28 0 10 _ rfl Tryz.underlying28 rfl sz28) ?_
 refine wl_call 25 [(.tmp 26)] _ [.agg #[.int .i64 (1), .bool false, .int .u64 (150), .int .u64 0, .int .u64 0, .int .u64 0, .int .i64 (2), .bool false, .string ⟨#[]⟩, .int .i64 0]] (.string (⟨#[49, 46, 53, 48]⟩)) rfl rfl (fun _ _ => by kernel_rfl) (vtM _) rfl ?_
 intro u9 hq
 replace Q1 := Q1.mo hq
 replace Q2 := Q2.mo hq
 replace Q3 := Q3.mo hq
 replace M := M.trans hq
 clear hq
 refine wl_b .eql 9 (.tmp 27) (.const (.string ⟨#[49, 46, 53, 48]⟩)) (.string (⟨#[49, 46, 53, 48]⟩)) (.string (⟨#[49, 46, 53, 48]⟩)) (.bool true) (s9 (decide_eq_true rfl) _ _ _) ?_
 refine wl_pick (.tmp 25) (.tmp 28) (.const (.bool false)) true (.bool true) (fun _ => rfl) rfl rfl rfl ?_
 refine wl_m (.tmp 29) (.bool true) ?_
 refine w_nil (xn_then (w_ret ?_))
 exact w_ret1 _ _ rfl rfl ⟨rfl, M⟩
def slQ (N : Nat) (cs : List Value) (n : Nat) : Value → World → Prop := fun u w => ∃ k, u = .slice (some ⟨k, 0, none⟩) n n ∧ N ≤ k ∧ At w k cs
theorem smo_slQ (N : Nat) (cs : List Value) (n : Nat) : Smo (slQ N cs n) := fun _ _ _ ⟨k, e, h, a⟩ m => ⟨k, e, h, a.mo m⟩
section
variable {P : Program} {o : Oper} {n : Nat} {l : List (Nat × Value)} {w : World} {Q : Exit → Act → World → Prop} {K : Act → World → Prop}
theorem wo_bs (ty : TypeId) (m : Nat) (xs : List (Nat × Operand)) (ps : List (Nat × Value)) (cs : Array Value) (e : TypeId) (ho : o.op = .buildSlice ty m xs.toArray) (hx : xs.map (fun p => (p.1, evl n l p.2)) = ps)
  (h : ∀ w, (Instr.buildSlice ty m ps.toArray).run P w = .ok (.slice (some ⟨w.heap.size, 0, none⟩) m m) (w.alloc (.cells cs e)))
  (hk : ∀ k w', w.heap.size = k → Mo w w' → At w' k cs.toList → K (fr n (ext l o.dst (.slice (some ⟨k, 0, none⟩) m m))) w') : WO P o n l w K Q := by
 subst hx
 refine ⟨o_val (.slice (some ⟨w.heap.size, 0, none⟩) m m) (w' := w.alloc (.cells cs e)) ?_ (hk _ _ rfl ((Mo.refl _).alloc _ _) (At.new w cs e))⟩
 simp [execOp, ho, h]
theorem oc_sl {ol : List Oper} {m : Nat} {W : World} {sp : List (Value → World → Prop)} {i : Nat} (cs : List Value) (c : Nat) (hs : spQ sp i = slQ W.heap.size cs c) (hm : Smos sp)
  (h : ∀ f w, Mo W w → (∀ j, depb o j = true → spQ sp j (f j) w) → ∀ K : Act → World → Prop, (∀ k w', w.heap.size = k → Mo w w' → At w' k cs → K (fr n (ext (asg f 0 (ol.take m) l) o.dst (.slice (some ⟨k, 0, none⟩) c c))) w') → Go1 P ol Q n (asg f 0 (ol.take m) l) w K o) : OgC P ol Q n l m (fun w9 => Mo W w9) sp i o :=
 ⟨fun f w hG hd K hK => h f w hG hd K (fun k w' hk hmo hA => hK _ w' (hG.trans hmo) (by rw [hs]; exact ⟨k, rfl, by have := hG.size; omega, hA⟩) (fun j u _ hr => hm j u w w' hr hmo))⟩
end
theorem lp8 {i0 i1 i2 i3 i4 i5 i6 i7 : Nat} {a0 a1 a2 a3 a4 a5 a6 a7 b0 b1 b2 b3 b4 b5 b6 b7 : Value} (h0 : a0 = b0) (h1 : a1 = b1) (h2 : a2 = b2) (h3 : a3 = b3) (h4 : a4 = b4) (h5 : a5 = b5) (h6 : a6 = b6) (h7 : a7 = b7) :
  [(i0, a0), (i1, a1), (i2, a2), (i3, a3), (i4, a4), (i5, a5), (i6, a6), (i7, a7)] = [(i0, b0), (i1, b1), (i2, b2), (i3, b3), (i4, b4), (i5, b5), (i6, b6), (i7, b7)] := by rw [h0, h1, h2, h3, h4, h5, h6, h7]
theorem stays_n (op : Int) (x y : VL) (w : World) (hx : x.ok) (hy : y.ok) : Calls Tryz.prog 7 #[.int .i64 op, x.v, y.v] w fun e9 w' => e9 = .returned (.bool true) ∧ Mo w w' := by
 refine w_enter 48 Tryz.func7 Tryz.ntmps7 rfl rfl ?_
 have M : Mo w w := Mo.refl _
 refine w_seq (w_reg ?_)
 refine wl_box 28 (.tmp 1) _ (((x.cells).toArray)) rfl rfl (fun _ => by kernel_rfl) rfl ?_
 intro k1 u1 hk hz hq Q1
 have N_k1 : w.heap.size ≤ k1 := by have := M.size; omega
 replace M := M.trans hq
 clear hk hz hq
 refine wl_box 28 (.tmp 2) _ (((y.cells).toArray)) rfl rfl (fun _ => by kernel_rfl) rfl ?_
 intro k2 u2 hk hz hq Q2
 have ne_k1_k2 : k1 ≠ k2 := by have := Q1.lt; omega
 have N_k2 : w.heap.size ≤ k2 := by have := M.size; omega
 replace Q1 := Q1.mo hq
 replace M := M.trans hq
 clear hk hz hq
 refine wl_m (.const (.bool false)) (.bool false) ?_
 refine w_nil (xn_then (w_seq (w_reg ?_)))
 refine wl_call 10 [] _ [] (.bool true) rfl rfl (fun _ _ => by kernel_rfl) (liveM_n _) rfl ?_
 intro u3 hq
 replace Q1 := Q1.mo hq
 replace Q2 := Q2.mo hq
 replace M := M.trans hq
 clear hq
 refine wl_m (.tmp 10) (.bool true) ?_
 refine w_nil (xn_then (w_seq (w_seq ?_)))
 have hsm9 : Smos [vq (.int .i64 (op)), vq (.agg (x.cells).toArray), vq (.agg (y.cells).toArray), vq (.agg ((opV op x y).cells).toArray), vq (.agg (x.cells).toArray), vq (.agg ((negV x).cells).toArray), vq (.agg (x.cells).toArray), vq (.agg ((notV x).cells).toArray), vq (.agg (x.cells).toArray), vq (.agg (y.cells).toArray), vq (.agg (x.cells).toArray), vq (.agg ((ifV x y x).cells).toArray), vq (.agg (x.cells).toArray), vq (.agg ((blkV x).cells).toArray), vq (.agg (x.cells).toArray), vq (.int .i64 (op)), vq (.agg ((rndV x 2 op).cells).toArray), vq (.agg (x.cells).toArray), vq (.agg #[.int .i64 (1), .int .i64 (1)]), vq (.int .i64 (op)), vq (.agg ((fitV x 1 1 op).cells).toArray), vq (.int .i64 (op)), vq (.agg ((vBad op).cells).toArray), slQ u3.heap.size ((opV op x y).cells ++ (negV x).cells ++ (notV x).cells ++ (ifV x y x).cells ++ (blkV x).cells ++ (rndV x 2 op).cells ++ (fitV x 1 1 op).cells ++ (vBad op).cells) 8, vq (.int .i64 (8)), vq (.int .i64 (0))] := smos_cons (smo_vq _) (smos_cons (smo_vq _) (smos_cons (smo_vq _) (smos_cons (smo_vq _) (smos_cons (smo_vq _) (smos_cons (smo_vq _) (smos_cons (smo_vq _) (smos_cons (smo_vq _) (smos_cons (smo_vq _) (smos_cons (smo_vq _) (smos_cons (smo_vq _) (smos_cons (smo_vq _) (smos_cons (smo_vq _) (smos_cons (smo_vq _) (smos_cons (smo_vq _) (smos_cons (smo_vq _) (smos_cons (smo_vq _) (smos_cons (smo_vq _) (smos_cons (smo_vq _) (smos_cons (smo_vq _) (smos_cons (smo_vq _) (smos_cons (smo_vq _) (smos_cons (smo_vq _) (smos_cons (smo_slQ _ _ _) (smos_cons (smo_vq _) (smos_cons (smo_vq _) (smos_nil))))))))))))))))))))))))))
 refine w_ogc 26 (fun w9 => Mo u3 w9) [vq (.int .i64 (op)), vq (.agg (x.cells).toArray), vq (.agg (y.cells).toArray), vq (.agg ((opV op x y).cells).toArray), vq (.agg (x.cells).toArray), vq (.agg ((negV x).cells).toArray), vq (.agg (x.cells).toArray), vq (.agg ((notV x).cells).toArray), vq (.agg (x.cells).toArray), vq (.agg (y.cells).toArray), vq (.agg (x.cells).toArray), vq (.agg ((ifV x y x).cells).toArray), vq (.agg (x.cells).toArray), vq (.agg ((blkV x).cells).toArray), vq (.agg (x.cells).toArray), vq (.int .i64 (op)), vq (.agg ((rndV x 2 op).cells).toArray), vq (.agg (x.cells).toArray), vq (.agg #[.int .i64 (1), .int .i64 (1)]), vq (.int .i64 (op)), vq (.agg ((fitV x 1 1 op).cells).toArray), vq (.int .i64 (op)), vq (.agg ((vBad op).cells).toArray), slQ u3.heap.size ((opV op x y).cells ++ (negV x).cells ++ (notV x).cells ++ (ifV x y x).cells ++ (blkV x).cells ++ (rndV x 2 op).cells ++ (fitV x 1 1 op).cells ++ (vBad op).cells) 8, vq (.int .i64 (8)), vq (.int .i64 (0))] [] (by kernel_rfl) (by kernel_rfl) (by kernel_rfl) (by kernel_rfl) rfl (by kernel_rfl) (by kernel_rfl) latec_nil ((Mo.refl _).drew) ?_ ?_
 ·refine ea_cons ?_ (ea_cons ?_ (ea_cons ?_ (ea_cons ?_ (ea_cons ?_ (ea_cons ?_ (ea_cons ?_ (ea_cons ?_ (ea_cons ?_ (ea_cons ?_ (ea_cons ?_ (ea_cons ?_ (ea_cons ?_ (ea_cons ?_ (ea_cons ?_ (ea_cons ?_ (ea_cons ?_ (ea_cons ?_ (ea_cons ?_ (ea_cons ?_ (ea_cons ?_ (ea_cons ?_ (ea_cons ?_ (ea_cons ?_ (ea_cons ?_ (ea_cons ?_ (ea_nil))))))))))))))))))))))))))
  ·exact oc_eq _ rfl (fun _ _ h m => h.trans m) hsm9 (fun f wf hq hd K hK => go_run rfl (wo_mv (.tmp 0) (.int .i64 (op)) (fun _ => rfl) rfl (hK _ (Mo.refl _))))
  ·exact oc_eq _ rfl (fun _ _ h m => h.trans m) hsm9 (fun f wf hq hd K hK => have Q1 := Q1.mo hq; go_run rfl (wo_load 28 (.tmp 4) (pt k1 0) (.agg (x.cells).toArray) rfl rfl (run_row Q1 28 0 10 (x.cells) rfl Tryz.underlying28 rfl sz28) (hK _ (Mo.refl _))))
  ·exact oc_eq _ rfl (fun _ _ h m => h.trans m) hsm9 (fun f wf hq hd K hK => have Q2 := Q2.mo hq; go_run rfl (wo_load 28 (.tmp 5) (pt k2 0) (.agg (y.cells).toArray) rfl rfl (run_row Q2 28 0 10 (y.cells) rfl Tryz.underlying28 rfl sz28) (hK _ (Mo.refl _))))
  ·exact oc_eq _ rfl (fun _ _ h m => h.trans m) hsm9 (fun f wf hq hd K hK => go_run rfl (wo_call 11 [(.tmp 11), (.tmp 12), (.tmp 13)] _ [.int .i64 (op), .agg (x.cells).toArray, .agg (y.cells).toArray] (.agg ((opV op x y).cells).toArray) rfl (li3 (hd 0 rfl) (hd 1 rfl) (hd 2 rfl)) (fun _ _ => by kernel_rfl) (op_n op x y _ hx hy) hK))
  ·exact oc_eq _ rfl (fun _ _ h m => h.trans m) hsm9 (fun f wf hq hd K hK => have Q1 := Q1.mo hq; go_run rfl (wo_load 28 (.tmp 4) (pt k1 0) (.agg (x.cells).toArray) rfl rfl (run_row Q1 28 0 10 (x.cells) rfl Tryz.underlying28 rfl sz28) (hK _ (Mo.refl _))))
  ·exact oc_eq _ rfl (fun _ _ h m => h.trans m) hsm9 (fun f wf hq hd K hK => go_run rfl (wo_call 17 [(.tmp 15)] _ [.agg (x.cells).toArray] (.agg ((negV x).cells).toArray) rfl (li1 (hd 4 rfl)) (fun _ _ => by kernel_rfl) (neg_n x _ hx) hK))
  ·exact oc_eq _ rfl (fun _ _ h m => h.trans m) hsm9 (fun f wf hq hd K hK => have Q1 := Q1.mo hq; go_run rfl (wo_load 28 (.tmp 4) (pt k1 0) (.agg (x.cells).toArray) rfl rfl (run_row Q1 28 0 10 (x.cells) rfl Tryz.underlying28 rfl sz28) (hK _ (Mo.refl _))))
  ·exact oc_eq _ rfl (fun _ _ h m => h.trans m) hsm9 (fun f wf hq hd K hK => go_run rfl (wo_call 19 [(.tmp 17)] _ [.agg (x.cells).toArray] (.agg ((notV x).cells).toArray) rfl (li1 (hd 6 rfl)) (fun _ _ => by kernel_rfl) (not_n x _ hx) hK))
  ·exact oc_eq _ rfl (fun _ _ h m => h.trans m) hsm9 (fun f wf hq hd K hK => have Q1 := Q1.mo hq; go_run rfl (wo_load 28 (.tmp 4) (pt k1 0) (.agg (x.cells).toArray) rfl rfl (run_row Q1 28 0 10 (x.cells) rfl Tryz.underlying28 rfl sz28) (hK _ (Mo.refl _))))
  ·exact oc_eq _ rfl (fun _ _ h m => h.trans m) hsm9 (fun f wf hq hd K hK => have Q2 := Q2.mo hq; go_run rfl (wo_load 28 (.tmp 5) (pt k2 0) (.agg (y.cells).toArray) rfl rfl (run_row Q2 28 0 10 (y.cells) rfl Tryz.underlying28 rfl sz28) (hK _ (Mo.refl _))))
  ·exact oc_eq _ rfl (fun _ _ h m => h.trans m) hsm9 (fun f wf hq hd K hK => have Q1 := Q1.mo hq; go_run rfl (wo_load 28 (.tmp 4) (pt k1 0) (.agg (x.cells).toArray) rfl rfl (run_row Q1 28 0 10 (x.cells) rfl Tryz.underlying28 rfl sz28) (hK _ (Mo.refl _))))
  ·exact oc_eq _ rfl (fun _ _ h m => h.trans m) hsm9 (fun f wf hq hd K hK => go_run rfl (wo_call 27 [(.tmp 19), (.tmp 20), (.tmp 21)] _ [.agg (x.cells).toArray, .agg (y.cells).toArray, .agg (x.cells).toArray] (.agg ((ifV x y x).cells).toArray) rfl (li3 (hd 8 rfl) (hd 9 rfl) (hd 10 rfl)) (fun _ _ => by kernel_rfl) (if_n x y x _ hx hy hx) hK))
  ·exact oc_eq _ rfl (fun _ _ h m => h.trans m) hsm9 (fun f wf hq hd K hK => have Q1 := Q1.mo hq; go_run rfl (wo_load 28 (.tmp 4) (pt k1 0) (.agg (x.cells).toArray) rfl rfl (run_row Q1 28 0 10 (x.cells) rfl Tryz.underlying28 rfl sz28) (hK _ (Mo.refl _))))
  ·exact oc_eq _ rfl (fun _ _ h m => h.trans m) hsm9 (fun f wf hq hd K hK => go_run rfl (wo_call 21 [(.tmp 23)] _ [.agg (x.cells).toArray] (.agg ((blkV x).cells).toArray) rfl (li1 (hd 12 rfl)) (fun _ _ => by kernel_rfl) (blk_n x _ hx) hK))
  ·exact oc_eq _ rfl (fun _ _ h m => h.trans m) hsm9 (fun f wf hq hd K hK => have Q1 := Q1.mo hq; go_run rfl (wo_load 28 (.tmp 4) (pt k1 0) (.agg (x.cells).toArray) rfl rfl (run_row Q1 28 0 10 (x.cells) rfl Tryz.underlying28 rfl sz28) (hK _ (Mo.refl _))))
  ·exact oc_eq _ rfl (fun _ _ h m => h.trans m) hsm9 (fun f wf hq hd K hK => go_run rfl (wo_mv (.tmp 0) (.int .i64 (op)) (fun _ => rfl) rfl (hK _ (Mo.refl _))))
  ·exact oc_eq _ rfl (fun _ _ h m => h.trans m) hsm9 (fun f wf hq hd K hK => go_run rfl (wo_call 23 [(.tmp 25), (.const (.int .i64 (2))), (.tmp 26)] _ [.agg (x.cells).toArray, .int .i64 (2), .int .i64 (op)] (.agg ((rndV x 2 op).cells).toArray) rfl (li3 (hd 14 rfl) rfl (hd 15 rfl)) (fun _ _ => by kernel_rfl) (rnd_n x 2 op _ hx) hK))
  ·exact oc_eq _ rfl (fun _ _ h m => h.trans m) hsm9 (fun f wf hq hd K hK => have Q1 := Q1.mo hq; go_run rfl (wo_load 28 (.tmp 4) (pt k1 0) (.agg (x.cells).toArray) rfl rfl (run_row Q1 28 0 10 (x.cells) rfl Tryz.underlying28 rfl sz28) (hK _ (Mo.refl _))))
  ·exact oc_eq _ rfl (fun _ _ h m => h.trans m) hsm9 (fun f wf hq hd K hK => go_run rfl (wo_build 42 [(0, (.const (.int .i64 (1)))), (1, (.const (.int .i64 (1))))] [(0, .int .i64 (1)), (1, .int .i64 (1))] (.agg #[.int .i64 (1), .int .i64 (1)]) rfl rfl (by kernel_rfl) (hK _ (Mo.refl _))))
  ·exact oc_eq _ rfl (fun _ _ h m => h.trans m) hsm9 (fun f wf hq hd K hK => go_run rfl (wo_mv (.tmp 0) (.int .i64 (op)) (fun _ => rfl) rfl (hK _ (Mo.refl _))))
  ·exact oc_eq _ rfl (fun _ _ h m => h.trans m) hsm9 (fun f wf hq hd K hK => go_run rfl (wo_call 29 [(.tmp 28), (.tmp 29), (.tmp 30)] _ [.agg (x.cells).toArray, .agg #[.int .i64 (1), .int .i64 (1)], .int .i64 (op)] (.agg ((fitV x 1 1 op).cells).toArray) rfl (li3 (hd 17 rfl) (hd 18 rfl) (hd 19 rfl)) (fun _ _ => by kernel_rfl) (fit_n x 1 1 op _ hx) hK))
  ·exact oc_eq _ rfl (fun _ _ h m => h.trans m) hsm9 (fun f wf hq hd K hK => go_run rfl (wo_mv (.tmp 0) (.int .i64 (op)) (fun _ => rfl) rfl (hK _ (Mo.refl _))))
  ·exact oc_eq _ rfl (fun _ _ h m => h.trans m) hsm9 (fun f wf hq hd K hK => go_run rfl (wo_call 15 [(.tmp 32)] _ [.int .i64 (op)] (.agg ((vBad op).cells).toArray) rfl (li1 (hd 21 rfl)) (fun _ _ => by kernel_rfl) (bad_n op _) hK))
  ·exact oc_sl _ 8 rfl hsm9 (fun f wf hq hd K hK => go_run rfl (wo_bs 45 8 [(0, (.tmp 14)), (1, (.tmp 16)), (2, (.tmp 18)), (3, (.tmp 22)), (4, (.tmp 24)), (5, (.tmp 27)), (6, (.tmp 31)), (7, (.tmp 33))] [(0, .agg ((opV op x y).cells).toArray), (1, .agg ((negV x).cells).toArray), (2, .agg ((notV x).cells).toArray), (3, .agg ((ifV x y x).cells).toArray), (4, .agg ((blkV x).cells).toArray), (5, .agg ((rndV x 2 op).cells).toArray), (6, .agg ((fitV x 1 1 op).cells).toArray), (7, .agg ((vBad op).cells).toArray)] ((opV op x y).cells ++ (negV x).cells ++ (notV x).cells ++ (ifV x y x).cells ++ (blkV x).cells ++ (rndV x 2 op).cells ++ (fitV x 1 1 op).cells ++ (vBad op).cells).toArray 28 rfl (lp8 (hd 3 rfl) (hd 5 rfl) (hd 7 rfl) (hd 11 rfl) (hd 13 rfl) (hd 16 rfl) (hd 20 rfl) (hd 22 rfl)) (fun _ => by kernel_rfl) (fun k w9 hk hmo hA => hK k w9 hk hmo hA)))
  ·refine oc_eq _ rfl (fun _ _ h m => h.trans m) hsm9 (fun f wf hq hd K hK => ?_)
   obtain ⟨k9, e9, _, _⟩ := hd 23 rfl
   exact go_run rfl (wo_val (.int .i64 (8)) (len45 _ _ _ 8 8 (by exact e9) _ _ _ _ _ _) (hK _ (Mo.refl _)))
  ·exact oc_eq _ rfl (fun _ _ h m => h.trans m) hsm9 (fun f wf hq hd K hK => go_run rfl (wo_mv (.const (.int .i64 (0))) (.int .i64 (0)) (fun _ => rfl) rfl (hK _ (Mo.refl _))))
 intro f u4 hq hR9
 have er24 := hR9 24 rfl
 have er25 := hR9 25 rfl
 obtain ⟨kk, es, N_kk, QK⟩ := hR9 23 rfl
 clear hR9 hsm9
 have ne_k1_kk : k1 ≠ kk := by have := Q1.lt; omega
 have ne_k2_kk : k2 ≠ kk := by have := Q2.lt; omega
 replace Q1 := Q1.mo hq
 replace Q2 := Q2.mo hq
 replace N_kk := Nat.le_trans M.size N_kk
 replace M := M.trans hq
 clear hq
 refine w_nil (xn_then (w_block ?_))
 refine w_rounds 9 ?_
 refine w_seq (w_reg ?_)
 refine wl_bin (fun x y => do eqGuard .lss 3 (.tmp 36) (.tmp 35) x y; binOp .lss 3 x y) (.tmp 36) (.tmp 35) (.int .i64 (0)) (.int .i64 (8)) (.bool true) (fun _ => rfl) er25 er24 (lt3 (r := true) rfl _ _ _) rfl ?_
 refine w_nil (xn_then (w_seq (w_condT rfl (w_skip (xn_then (w_seq (w_block (w_seq (w_reg ?_)))))))))
 refine wl_bin (fun x y => Instr.indexAt 45 x y) (.tmp 34) (.tmp 36) (.slice (some ⟨kk, 0, none⟩) 8 8) (.int .i64 (0)) (pt kk 0) (fun _ => rfl) es er25 (ix45 (i := 0) rfl (by decide) _) rfl ?_
 refine wl_l 28 (.tmp 38) (pt kk 0) (.agg ((opV op x y).cells).toArray) (run_row QK 28 0 10 ((opV op x y).cells) rfl Tryz.underlying28 rfl sz28) ?_
 refine wl_alloc 28 #[.int .i64 0, .bool false, .int .u64 0, .int .u64 0, .int .u64 0, .int .u64 0, .int .i64 0, .bool false, .string ⟨#[]⟩, .int .i64 0] rfl (fun _ => by kernel_rfl) rfl ?_
 intro k3 u5 hk hz hq Q3
 have ne_k1_k3 : k1 ≠ k3 := by have := Q1.lt; omega
 have ne_k2_k3 : k2 ≠ k3 := by have := Q2.lt; omega
 have ne_kk_k3 : kk ≠ k3 := by have := QK.lt; omega
 have N_k3 : w.heap.size ≤ k3 := by have := M.size; omega
 replace Q1 := Q1.mo hq
 replace Q2 := Q2.mo hq
 replace QK := QK.mo hq
 replace M := M.trans hq
 clear hk hz hq
 refine wl_st 28 (.tmp 9) (.tmp 39) k3 0 (((opV op x y).cells).toArray) _ ((opV op x y).cells) Q3 rfl rfl rfl rfl rfl sz28 rfl rfl rfl ?_
 intro u6 hS Qn
 replace Q3 := Qn
 clear Qn
 replace Q1 := hS.other _ _ ne_k1_k3 Q1
 replace Q2 := hS.other _ _ ne_k2_k3 Q2
 replace QK := hS.other _ _ ne_kk_k3 QK
 replace M := hS.mo _ N_k3 M
 clear hS
 refine w_nil (xn_then (w_reg ?_))
 refine wl_m (.tmp 7) (.bool true) ?_
 refine wl_m (.tmp 40) (.bool true) ?_
 refine wl_l 28 (.tmp 9) (pt k3 0) (.agg ((opV op x y).cells).toArray) (run_row Q3 28 0 10 ((opV op x y).cells) rfl Tryz.underlying28 rfl sz28) ?_
 refine wl_call 14 [(.tmp 42)] _ [.agg ((opV op x y).cells).toArray] (.int .i64 (0)) rfl rfl (fun _ _ => by kernel_rfl) (rcheck_t (fit_op op hx hy).2 (fit_op op hx hy).1 _) rfl ?_
 intro u7 hq
 replace Q1 := Q1.mo hq
 replace Q2 := Q2.mo hq
 replace QK := QK.mo hq
 replace Q3 := Q3.mo hq
 replace M := M.trans hq
 clear hq
 refine wl_b .eql 32 (.tmp 43) (.const (.int .i64 (0))) (.int .i64 (0)) (.int .i64 (0)) (.bool true) (eq34 (decide_eq_true rfl) _ _ _) ?_
 refine wl_pick (.tmp 41) (.tmp 44) (.const (.bool false)) true (.bool true) (fun _ => rfl) rfl rfl rfl ?_
 refine wl_m (.tmp 45) (.bool true) ?_
 refine w_nil (xn_blk (xn_then (w_reg ?_)))
 refine wl_bin (fun x y => do eqGuard .add 3 (.tmp 36) (.const (.int .i64 (1))) x y; binOp .add 3 x y) (.tmp 36) (.const (.int .i64 (1))) (.int .i64 (0)) (.int .i64 (1)) (.int .i64 (1)) (fun _ => rfl) er25 rfl (by kernel_rfl) rfl ?_
 refine wl_m (.tmp 46) (.int .i64 (1)) ?_
 refine w_nil ?_
 refine xn_rounds ?_
 refine w_seq (w_reg ?_)
 refine wl_bin (fun x y => do eqGuard .lss 3 (.tmp 36) (.tmp 35) x y; binOp .lss 3 x y) (.tmp 36) (.tmp 35) (.int .i64 (1)) (.int .i64 (8)) (.bool true) (fun _ => rfl) rfl er24 (lt3 (r := true) rfl _ _ _) rfl ?_
 refine w_nil (xn_then (w_seq (w_condT rfl (w_skip (xn_then (w_seq (w_block (w_seq (w_reg ?_)))))))))
 refine wl_bin (fun x y => Instr.indexAt 45 x y) (.tmp 34) (.tmp 36) (.slice (some ⟨kk, 0, none⟩) 8 8) (.int .i64 (1)) (pt kk 10) (fun _ => rfl) es rfl (ix45 (i := 1) rfl (by decide) _) rfl ?_
 refine wl_l 28 (.tmp 38) (pt kk 10) (.agg ((negV x).cells).toArray) (run_row QK 28 10 10 ((negV x).cells) rfl Tryz.underlying28 rfl sz28) ?_
 refine wl_alloc 28 #[.int .i64 0, .bool false, .int .u64 0, .int .u64 0, .int .u64 0, .int .u64 0, .int .i64 0, .bool false, .string ⟨#[]⟩, .int .i64 0] rfl (fun _ => by kernel_rfl) rfl ?_
 intro k4 u8 hk hz hq Q4
 have ne_k1_k4 : k1 ≠ k4 := by have := Q1.lt; omega
 have ne_k2_k4 : k2 ≠ k4 := by have := Q2.lt; omega
 have ne_kk_k4 : kk ≠ k4 := by have := QK.lt; omega
 have ne_k3_k4 : k3 ≠ k4 := by have := Q3.lt; omega
 have N_k4 : w.heap.size ≤ k4 := by have := M.size; omega
 replace Q1 := Q1.mo hq
 replace Q2 := Q2.mo hq
 replace QK := QK.mo hq
 replace Q3 := Q3.mo hq
 replace M := M.trans hq
 clear hk hz hq
 refine wl_st 28 (.tmp 9) (.tmp 39) k4 0 (((negV x).cells).toArray) _ ((negV x).cells) Q4 rfl rfl rfl rfl rfl sz28 rfl rfl rfl ?_
 intro u9 hS Qn
 replace Q4 := Qn
 clear Qn
 replace Q1 := hS.other _ _ ne_k1_k4 Q1
 replace Q2 := hS.other _ _ ne_k2_k4 Q2
 replace QK := hS.other _ _ ne_kk_k4 QK
 replace Q3 := hS.other _ _ ne_k3_k4 Q3
 replace M := hS.mo _ N_k4 M
 clear hS
 refine w_nil (xn_then (w_reg ?_))
 refine wl_m (.tmp 7) (.bool true) ?_
 refine wl_m (.tmp 40) (.bool true) ?_
 refine wl_l 28 (.tmp 9) (pt k4 0) (.agg ((negV x).cells).toArray) (run_row Q4 28 0 10 ((negV x).cells) rfl Tryz.underlying28 rfl sz28) ?_
 refine wl_call 14 [(.tmp 42)] _ [.agg ((negV x).cells).toArray] (.int .i64 (0)) rfl rfl (fun _ _ => by kernel_rfl) (rcheck_t (fit_neg hx).2 (fit_neg hx).1 _) rfl ?_
 intro u10 hq
 replace Q1 := Q1.mo hq
 replace Q2 := Q2.mo hq
 replace QK := QK.mo hq
 replace Q3 := Q3.mo hq
 replace Q4 := Q4.mo hq
 replace M := M.trans hq
 clear hq
 refine wl_b .eql 32 (.tmp 43) (.const (.int .i64 (0))) (.int .i64 (0)) (.int .i64 (0)) (.bool true) (eq34 (decide_eq_true rfl) _ _ _) ?_
 refine wl_pick (.tmp 41) (.tmp 44) (.const (.bool false)) true (.bool true) (fun _ => rfl) rfl rfl rfl ?_
 refine wl_m (.tmp 45) (.bool true) ?_
 refine w_nil (xn_blk (xn_then (w_reg ?_)))
 refine wl_b .add 3 (.tmp 36) (.const (.int .i64 (1))) (.int .i64 (1)) (.int .i64 (1)) (.int .i64 (2)) (by kernel_rfl) ?_
 refine wl_m (.tmp 46) (.int .i64 (2)) ?_
 refine w_nil ?_
 refine xn_rounds ?_
 refine w_seq (w_reg ?_)
 refine wl_bin (fun x y => do eqGuard .lss 3 (.tmp 36) (.tmp 35) x y; binOp .lss 3 x y) (.tmp 36) (.tmp 35) (.int .i64 (2)) (.int .i64 (8)) (.bool true) (fun _ => rfl) rfl er24 (lt3 (r := true) rfl _ _ _) rfl ?_
 refine w_nil (xn_then (w_seq (w_condT rfl (w_skip (xn_then (w_seq (w_block (w_seq (w_reg ?_)))))))))
 refine wl_bin (fun x y => Instr.indexAt 45 x y) (.tmp 34) (.tmp 36) (.slice (some ⟨kk, 0, none⟩) 8 8) (.int .i64 (2)) (pt kk 20) (fun _ => rfl) es rfl (ix45 (i := 2) rfl (by decide) _) rfl ?_
 refine wl_l 28 (.tmp 38) (pt kk 20) (.agg ((notV x).cells).toArray) (run_row QK 28 20 10 ((notV x).cells) rfl Tryz.underlying28 rfl sz28) ?_
 refine wl_alloc 28 #[.int .i64 0, .bool false, .int .u64 0, .int .u64 0, .int .u64 0, .int .u64 0, .int .i64 0, .bool false, .string ⟨#[]⟩, .int .i64 0] rfl (fun _ => by kernel_rfl) rfl ?_
 intro k5 u11 hk hz hq Q5
 have ne_k1_k5 : k1 ≠ k5 := by have := Q1.lt; omega
 have ne_k2_k5 : k2 ≠ k5 := by have := Q2.lt; omega
 have ne_kk_k5 : kk ≠ k5 := by have := QK.lt; omega
 have ne_k3_k5 : k3 ≠ k5 := by have := Q3.lt; omega
 have ne_k4_k5 : k4 ≠ k5 := by have := Q4.lt; omega
 have N_k5 : w.heap.size ≤ k5 := by have := M.size; omega
 replace Q1 := Q1.mo hq
 replace Q2 := Q2.mo hq
 replace QK := QK.mo hq
 replace Q3 := Q3.mo hq
 replace Q4 := Q4.mo hq
 replace M := M.trans hq
 clear hk hz hq
 refine wl_st 28 (.tmp 9) (.tmp 39) k5 0 (((notV x).cells).toArray) _ ((notV x).cells) Q5 rfl rfl rfl rfl rfl sz28 rfl rfl rfl ?_
 intro u12 hS Qn
 replace Q5 := Qn
 clear Qn
 replace Q1 := hS.other _ _ ne_k1_k5 Q1
 replace Q2 := hS.other _ _ ne_k2_k5 Q2
 replace QK := hS.other _ _ ne_kk_k5 QK
 replace Q3 := hS.other _ _ ne_k3_k5 Q3
 replace Q4 := hS.other _ _ ne_k4_k5 Q4
 replace M := hS.mo _ N_k5 M
 clear hS
 refine w_nil (xn_then (w_reg ?_))
 refine wl_m (.tmp 7) (.bool true) ?_
 refine wl_m (.tmp 40) (.bool true) ?_
 refine wl_l 28 (.tmp 9) (pt k5 0) (.agg ((notV x).cells).toArray) (run_row Q5 28 0 10 ((notV x).cells) rfl Tryz.underlying28 rfl sz28) ?_
 refine wl_call 14 [(.tmp 42)] _ [.agg ((notV x).cells).toArray] (.int .i64 (0)) rfl rfl (fun _ _ => by kernel_rfl) (rcheck_t (fit_not x).2 (fit_not x).1 _) rfl ?_
 intro u13 hq
 replace Q1 := Q1.mo hq
 replace Q2 := Q2.mo hq
 replace QK := QK.mo hq
 replace Q3 := Q3.mo hq
 replace Q4 := Q4.mo hq
 replace Q5 := Q5.mo hq
 replace M := M.trans hq
 clear hq
 refine wl_b .eql 32 (.tmp 43) (.const (.int .i64 (0))) (.int .i64 (0)) (.int .i64 (0)) (.bool true) (eq34 (decide_eq_true rfl) _ _ _) ?_
 refine wl_pick (.tmp 41) (.tmp 44) (.const (.bool false)) true (.bool true) (fun _ => rfl) rfl rfl rfl ?_
 refine wl_m (.tmp 45) (.bool true) ?_
 refine w_nil (xn_blk (xn_then (w_reg ?_)))
 refine wl_b .add 3 (.tmp 36) (.const (.int .i64 (1))) (.int .i64 (2)) (.int .i64 (1)) (.int .i64 (3)) (by kernel_rfl) ?_
 refine wl_m (.tmp 46) (.int .i64 (3)) ?_
 refine w_nil ?_
 refine xn_rounds ?_
 refine w_seq (w_reg ?_)
 refine wl_bin (fun x y => do eqGuard .lss 3 (.tmp 36) (.tmp 35) x y; binOp .lss 3 x y) (.tmp 36) (.tmp 35) (.int .i64 (3)) (.int .i64 (8)) (.bool true) (fun _ => rfl) rfl er24 (lt3 (r := true) rfl _ _ _) rfl ?_
 refine w_nil (xn_then (w_seq (w_condT rfl (w_skip (xn_then (w_seq (w_block (w_seq (w_reg ?_)))))))))
 refine wl_bin (fun x y => Instr.indexAt 45 x y) (.tmp 34) (.tmp 36) (.slice (some ⟨kk, 0, none⟩) 8 8) (.int .i64 (3)) (pt kk 30) (fun _ => rfl) es rfl (ix45 (i := 3) rfl (by decide) _) rfl ?_
 refine wl_l 28 (.tmp 38) (pt kk 30) (.agg ((ifV x y x).cells).toArray) (run_row QK 28 30 10 ((ifV x y x).cells) rfl Tryz.underlying28 rfl sz28) ?_
 refine wl_alloc 28 #[.int .i64 0, .bool false, .int .u64 0, .int .u64 0, .int .u64 0, .int .u64 0, .int .i64 0, .bool false, .string ⟨#[]⟩, .int .i64 0] rfl (fun _ => by kernel_rfl) rfl ?_
 intro k6 u14 hk hz hq Q6
 have ne_k1_k6 : k1 ≠ k6 := by have := Q1.lt; omega
 have ne_k2_k6 : k2 ≠ k6 := by have := Q2.lt; omega
 have ne_kk_k6 : kk ≠ k6 := by have := QK.lt; omega
 have ne_k3_k6 : k3 ≠ k6 := by have := Q3.lt; omega
 have ne_k4_k6 : k4 ≠ k6 := by have := Q4.lt; omega
 have ne_k5_k6 : k5 ≠ k6 := by have := Q5.lt; omega
 have N_k6 : w.heap.size ≤ k6 := by have := M.size; omega
 replace Q1 := Q1.mo hq
 replace Q2 := Q2.mo hq
 replace QK := QK.mo hq
 replace Q3 := Q3.mo hq
 replace Q4 := Q4.mo hq
 replace Q5 := Q5.mo hq
 replace M := M.trans hq
 clear hk hz hq
 refine wl_st 28 (.tmp 9) (.tmp 39) k6 0 (((ifV x y x).cells).toArray) _ ((ifV x y x).cells) Q6 rfl rfl rfl rfl rfl sz28 rfl rfl rfl ?_
 intro u15 hS Qn
 replace Q6 := Qn
 clear Qn
 replace Q1 := hS.other _ _ ne_k1_k6 Q1
 replace Q2 := hS.other _ _ ne_k2_k6 Q2
 replace QK := hS.other _ _ ne_kk_k6 QK
 replace Q3 := hS.other _ _ ne_k3_k6 Q3
 replace Q4 := hS.other _ _ ne_k4_k6 Q4
 replace Q5 := hS.other _ _ ne_k5_k6 Q5
 replace M := hS.mo _ N_k6 M
 clear hS
 refine w_nil (xn_then (w_reg ?_))
 refine wl_m (.tmp 7) (.bool true) ?_
 refine wl_m (.tmp 40) (.bool true) ?_
 refine wl_l 28 (.tmp 9) (pt k6 0) (.agg ((ifV x y x).cells).toArray) (run_row Q6 28 0 10 ((ifV x y x).cells) rfl Tryz.underlying28 rfl sz28) ?_
 refine wl_call 14 [(.tmp 42)] _ [.agg ((ifV x y x).cells).toArray] (.int .i64 (0)) rfl rfl (fun _ _ => by kernel_rfl) (rcheck_t (fit_if hy hx).2 (fit_if hy hx).1 _) rfl ?_
 intro u16 hq
 replace Q1 := Q1.mo hq
 replace Q2 := Q2.mo hq
 replace QK := QK.mo hq
 replace Q3 := Q3.mo hq
 replace Q4 := Q4.mo hq
 replace Q5 := Q5.mo hq
 replace Q6 := Q6.mo hq
 replace M := M.trans hq
 clear hq
 refine wl_b .eql 32 (.tmp 43) (.const (.int .i64 (0))) (.int .i64 (0)) (.int .i64 (0)) (.bool true) (eq34 (decide_eq_true rfl) _ _ _) ?_
 refine wl_pick (.tmp 41) (.tmp 44) (.const (.bool false)) true (.bool true) (fun _ => rfl) rfl rfl rfl ?_
 refine wl_m (.tmp 45) (.bool true) ?_
 refine w_nil (xn_blk (xn_then (w_reg ?_)))
 refine wl_b .add 3 (.tmp 36) (.const (.int .i64 (1))) (.int .i64 (3)) (.int .i64 (1)) (.int .i64 (4)) (by kernel_rfl) ?_
 refine wl_m (.tmp 46) (.int .i64 (4)) ?_
 refine w_nil ?_
 refine xn_rounds ?_
 refine w_seq (w_reg ?_)
 refine wl_bin (fun x y => do eqGuard .lss 3 (.tmp 36) (.tmp 35) x y; binOp .lss 3 x y) (.tmp 36) (.tmp 35) (.int .i64 (4)) (.int .i64 (8)) (.bool true) (fun _ => rfl) rfl er24 (lt3 (r := true) rfl _ _ _) rfl ?_
 refine w_nil (xn_then (w_seq (w_condT rfl (w_skip (xn_then (w_seq (w_block (w_seq (w_reg ?_)))))))))
 refine wl_bin (fun x y => Instr.indexAt 45 x y) (.tmp 34) (.tmp 36) (.slice (some ⟨kk, 0, none⟩) 8 8) (.int .i64 (4)) (pt kk 40) (fun _ => rfl) es rfl (ix45 (i := 4) rfl (by decide) _) rfl ?_
 refine wl_l 28 (.tmp 38) (pt kk 40) (.agg ((blkV x).cells).toArray) (run_row QK 28 40 10 ((blkV x).cells) rfl Tryz.underlying28 rfl sz28) ?_
 refine wl_alloc 28 #[.int .i64 0, .bool false, .int .u64 0, .int .u64 0, .int .u64 0, .int .u64 0, .int .i64 0, .bool false, .string ⟨#[]⟩, .int .i64 0] rfl (fun _ => by kernel_rfl) rfl ?_
 intro k7 u17 hk hz hq Q7
 have ne_k1_k7 : k1 ≠ k7 := by have := Q1.lt; omega
 have ne_k2_k7 : k2 ≠ k7 := by have := Q2.lt; omega
 have ne_kk_k7 : kk ≠ k7 := by have := QK.lt; omega
 have ne_k3_k7 : k3 ≠ k7 := by have := Q3.lt; omega
 have ne_k4_k7 : k4 ≠ k7 := by have := Q4.lt; omega
 have ne_k5_k7 : k5 ≠ k7 := by have := Q5.lt; omega
 have ne_k6_k7 : k6 ≠ k7 := by have := Q6.lt; omega
 have N_k7 : w.heap.size ≤ k7 := by have := M.size; omega
 replace Q1 := Q1.mo hq
 replace Q2 := Q2.mo hq
 replace QK := QK.mo hq
 replace Q3 := Q3.mo hq
 replace Q4 := Q4.mo hq
 replace Q5 := Q5.mo hq
 replace Q6 := Q6.mo hq
 replace M := M.trans hq
 clear hk hz hq
 refine wl_st 28 (.tmp 9) (.tmp 39) k7 0 (((blkV x).cells).toArray) _ ((blkV x).cells) Q7 rfl rfl rfl rfl rfl sz28 rfl rfl rfl ?_
 intro u18 hS Qn
 replace Q7 := Qn
 clear Qn
 replace Q1 := hS.other _ _ ne_k1_k7 Q1
 replace Q2 := hS.other _ _ ne_k2_k7 Q2
 replace QK := hS.other _ _ ne_kk_k7 QK
 replace Q3 := hS.other _ _ ne_k3_k7 Q3
 replace Q4 := hS.other _ _ ne_k4_k7 Q4
 replace Q5 := hS.other _ _ ne_k5_k7 Q5
 replace Q6 := hS.other _ _ ne_k6_k7 Q6
 replace M := hS.mo _ N_k7 M
 clear hS
 refine w_nil (xn_then (w_reg ?_))
 refine wl_m (.tmp 7) (.bool true) ?_
 refine wl_m (.tmp 40) (.bool true) ?_
 refine wl_l 28 (.tmp 9) (pt k7 0) (.agg ((blkV x).cells).toArray) (run_row Q7 28 0 10 ((blkV x).cells) rfl Tryz.underlying28 rfl sz28) ?_
 refine wl_call 14 [(.tmp 42)] _ [.agg ((blkV x).cells).toArray] (.int .i64 (0)) rfl rfl (fun _ _ => by kernel_rfl) (rcheck_t (fit_blk hx).2 (fit_blk hx).1 _) rfl ?_
 intro u19 hq
 replace Q1 := Q1.mo hq
 replace Q2 := Q2.mo hq
 replace QK := QK.mo hq
 replace Q3 := Q3.mo hq
 replace Q4 := Q4.mo hq
 replace Q5 := Q5.mo hq
 replace Q6 := Q6.mo hq
 replace Q7 := Q7.mo hq
 replace M := M.trans hq
 clear hq
 refine wl_b .eql 32 (.tmp 43) (.const (.int .i64 (0))) (.int .i64 (0)) (.int .i64 (0)) (.bool true) (eq34 (decide_eq_true rfl) _ _ _) ?_
 refine wl_pick (.tmp 41) (.tmp 44) (.const (.bool false)) true (.bool true) (fun _ => rfl) rfl rfl rfl ?_
 refine wl_m (.tmp 45) (.bool true) ?_
 refine w_nil (xn_blk (xn_then (w_reg ?_)))
 refine wl_b .add 3 (.tmp 36) (.const (.int .i64 (1))) (.int .i64 (4)) (.int .i64 (1)) (.int .i64 (5)) (by kernel_rfl) ?_
 refine wl_m (.tmp 46) (.int .i64 (5)) ?_
 refine w_nil ?_
 refine xn_rounds ?_
 refine w_seq (w_reg ?_)
 refine wl_bin (fun x y => do eqGuard .lss 3 (.tmp 36) (.tmp 35) x y; binOp .lss 3 x y) (.tmp 36) (.tmp 35) (.int .i64 (5)) (.int .i64 (8)) (.bool true) (fun _ => rfl) rfl er24 (lt3 (r := true) rfl _ _ _) rfl ?_
 refine w_nil (xn_then (w_seq (w_condT rfl (w_skip (xn_then (w_seq (w_block (w_seq (w_reg ?_)))))))))
 refine wl_bin (fun x y => Instr.indexAt 45 x y) (.tmp 34) (.tmp 36) (.slice (some ⟨kk, 0, none⟩) 8 8) (.int .i64 (5)) (pt kk 50) (fun _ => rfl) es rfl (ix45 (i := 5) rfl (by decide) _) rfl ?_
 refine wl_l 28 (.tmp 38) (pt kk 50) (.agg ((rndV x 2 op).cells).toArray) (run_row QK 28 50 10 ((rndV x 2 op).cells) rfl Tryz.underlying28 rfl sz28) ?_
 refine wl_alloc 28 #[.int .i64 0, .bool false, .int .u64 0, .int .u64 0, .int .u64 0, .int .u64 0, .int .i64 0, .bool false, .string ⟨#[]⟩, .int .i64 0] rfl (fun _ => by kernel_rfl) rfl ?_
 intro k8 u20 hk hz hq Q8
 have ne_k1_k8 : k1 ≠ k8 := by have := Q1.lt; omega
 have ne_k2_k8 : k2 ≠ k8 := by have := Q2.lt; omega
 have ne_kk_k8 : kk ≠ k8 := by have := QK.lt; omega
 have ne_k3_k8 : k3 ≠ k8 := by have := Q3.lt; omega
 have ne_k4_k8 : k4 ≠ k8 := by have := Q4.lt; omega
 have ne_k5_k8 : k5 ≠ k8 := by have := Q5.lt; omega
 have ne_k6_k8 : k6 ≠ k8 := by have := Q6.lt; omega
 have ne_k7_k8 : k7 ≠ k8 := by have := Q7.lt; omega
 have N_k8 : w.heap.size ≤ k8 := by have := M.size; omega
 replace Q1 := Q1.mo hq
 replace Q2 := Q2.mo hq
 replace QK := QK.mo hq
 replace Q3 := Q3.mo hq
 replace Q4 := Q4.mo hq
 replace Q5 := Q5.mo hq
 replace Q6 := Q6.mo hq
 replace Q7 := Q7.mo hq
 replace M := M.trans hq
 clear hk hz hq
 refine wl_st 28 (.tmp 9) (.tmp 39) k8 0 (((rndV x 2 op).cells).toArray) _ ((rndV x 2 op).cells) Q8 rfl rfl rfl rfl rfl sz28 rfl rfl rfl ?_
 intro u21 hS Qn
 replace Q8 := Qn
 clear Qn
 replace Q1 := hS.other _ _ ne_k1_k8 Q1
 replace Q2 := hS.other _ _ ne_k2_k8 Q2
 replace QK := hS.other _ _ ne_kk_k8 QK
 replace Q3 := hS.other _ _ ne_k3_k8 Q3
 replace Q4 := hS.other _ _ ne_k4_k8 Q4
 replace Q5 := hS.other _ _ ne_k5_k8 Q5
 replace Q6 := hS.other _ _ ne_k6_k8 Q6
 replace Q7 := hS.other _ _ ne_k7_k8 Q7
 replace M := hS.mo _ N_k8 M
 clear hS
 refine w_nil (xn_then (w_reg ?_))
 refine wl_m (.tmp 7) (.bool true) ?_
 refine wl_m (.tmp 40) (.bool true) ?_
 refine wl_l 28 (.tmp 9) (pt k8 0) (.agg ((rndV x 2 op).cells).toArray) (run_row Q8 28 0 10 ((rndV x 2 op).cells) rfl Tryz.underlying28 rfl sz28) ?_
 refine wl_call 14 [(.tmp 42)] _ [.agg ((rndV x 2 op).cells).toArray] (.int .i64 (0)) rfl rfl (fun _ _ => by kernel_rfl) (rcheck_t (fit_rnd 2 op hx).2 (fit_rnd 2 op hx).1 _) rfl ?_
 intro u22 hq
 replace Q1 := Q1.mo hq
 replace Q2 := Q2.mo hq
 replace QK := QK.mo hq
 replace Q3 := Q3.mo hq
 replace Q4 := Q4.mo hq
 replace Q5 := Q5.mo hq
 replace Q6 := Q6.mo hq
 replace Q7 := Q7.mo hq
 replace Q8 := Q8.mo hq
 replace M := M.trans hq
 clear hq
 refine wl_b .eql 32 (.tmp 43) (.const (.int .i64 (0))) (.int .i64 (0)) (.int .i64 (0)) (.bool true) (eq34 (decide_eq_true rfl) _ _ _) ?_
 refine wl_pick (.tmp 41) (.tmp 44) (.const (.bool false)) true (.bool true) (fun _ => rfl) rfl rfl rfl ?_
 refine wl_m (.tmp 45) (.bool true) ?_
 refine w_nil (xn_blk (xn_then (w_reg ?_)))
 refine wl_b .add 3 (.tmp 36) (.const (.int .i64 (1))) (.int .i64 (5)) (.int .i64 (1)) (.int .i64 (6)) (by kernel_rfl) ?_
 refine wl_m (.tmp 46) (.int .i64 (6)) ?_
 refine w_nil ?_
 refine xn_rounds ?_
 refine w_seq (w_reg ?_)
 refine wl_bin (fun x y => do eqGuard .lss 3 (.tmp 36) (.tmp 35) x y; binOp .lss 3 x y) (.tmp 36) (.tmp 35) (.int .i64 (6)) (.int .i64 (8)) (.bool true) (fun _ => rfl) rfl er24 (lt3 (r := true) rfl _ _ _) rfl ?_
 refine w_nil (xn_then (w_seq (w_condT rfl (w_skip (xn_then (w_seq (w_block (w_seq (w_reg ?_)))))))))
 refine wl_bin (fun x y => Instr.indexAt 45 x y) (.tmp 34) (.tmp 36) (.slice (some ⟨kk, 0, none⟩) 8 8) (.int .i64 (6)) (pt kk 60) (fun _ => rfl) es rfl (ix45 (i := 6) rfl (by decide) _) rfl ?_
 refine wl_l 28 (.tmp 38) (pt kk 60) (.agg ((fitV x 1 1 op).cells).toArray) (run_row QK 28 60 10 ((fitV x 1 1 op).cells) rfl Tryz.underlying28 rfl sz28) ?_
 refine wl_alloc 28 #[.int .i64 0, .bool false, .int .u64 0, .int .u64 0, .int .u64 0, .int .u64 0, .int .i64 0, .bool false, .string ⟨#[]⟩, .int .i64 0] rfl (fun _ => by kernel_rfl) rfl ?_
 intro k9 u23 hk hz hq Q9
 have ne_k1_k9 : k1 ≠ k9 := by have := Q1.lt; omega
 have ne_k2_k9 : k2 ≠ k9 := by have := Q2.lt; omega
 have ne_kk_k9 : kk ≠ k9 := by have := QK.lt; omega
 have ne_k3_k9 : k3 ≠ k9 := by have := Q3.lt; omega
 have ne_k4_k9 : k4 ≠ k9 := by have := Q4.lt; omega
 have ne_k5_k9 : k5 ≠ k9 := by have := Q5.lt; omega
 have ne_k6_k9 : k6 ≠ k9 := by have := Q6.lt; omega
 have ne_k7_k9 : k7 ≠ k9 := by have := Q7.lt; omega
 have ne_k8_k9 : k8 ≠ k9 := by have := Q8.lt; omega
 have N_k9 : w.heap.size ≤ k9 := by have := M.size; omega
 replace Q1 := Q1.mo hq
 replace Q2 := Q2.mo hq
 replace QK := QK.mo hq
 replace Q3 := Q3.mo hq
 replace Q4 := Q4.mo hq
 replace Q5 := Q5.mo hq
 replace Q6 := Q6.mo hq
 replace Q7 := Q7.mo hq
 replace Q8 := Q8.mo hq
 replace M := M.trans hq
 clear hk hz hq
 refine wl_st 28 (.tmp 9) (.tmp 39) k9 0 (((fitV x 1 1 op).cells).toArray) _ ((fitV x 1 1 op).cells) Q9 rfl rfl rfl rfl rfl sz28 rfl rfl rfl ?_
 intro u24 hS Qn
 replace Q9 := Qn
 clear Qn
 replace Q1 := hS.other _ _ ne_k1_k9 Q1
 replace Q2 := hS.other _ _ ne_k2_k9 Q2
 replace QK := hS.other _ _ ne_kk_k9 QK
 replace Q3 := hS.other _ _ ne_k3_k9 Q3
 replace Q4 := hS.other _ _ ne_k4_k9 Q4
 replace Q5 := hS.other _ _ ne_k5_k9 Q5
 replace Q6 := hS.other _ _ ne_k6_k9 Q6
 replace Q7 := hS.other _ _ ne_k7_k9 Q7
 replace Q8 := hS.other _ _ ne_k8_k9 Q8
 replace M := hS.mo _ N_k9 M
 clear hS
 refine w_nil (xn_then (w_reg ?_))
 refine wl_m (.tmp 7) (.bool true) ?_
 refine wl_m (.tmp 40) (.bool true) ?_
 refine wl_l 28 (.tmp 9) (pt k9 0) (.agg ((fitV x 1 1 op).cells).toArray) (run_row Q9 28 0 10 ((fitV x 1 1 op).cells) rfl Tryz.underlying28 rfl sz28) ?_
 refine wl_call 14 [(.tmp 42)] _ [.agg ((fitV x 1 1 op).cells).toArray] (.int .i64 (0)) rfl rfl (fun _ _ => by kernel_rfl) (rcheck_t (fit_fit 1 1 op hx).2 (fit_fit 1 1 op hx).1 _) rfl ?_
 intro u25 hq
 replace Q1 := Q1.mo hq
 replace Q2 := Q2.mo hq
 replace QK := QK.mo hq
 replace Q3 := Q3.mo hq
 replace Q4 := Q4.mo hq
 replace Q5 := Q5.mo hq
 replace Q6 := Q6.mo hq
 replace Q7 := Q7.mo hq
 replace Q8 := Q8.mo hq
 replace Q9 := Q9.mo hq
 replace M := M.trans hq
 clear hq
 refine wl_b .eql 32 (.tmp 43) (.const (.int .i64 (0))) (.int .i64 (0)) (.int .i64 (0)) (.bool true) (eq34 (decide_eq_true rfl) _ _ _) ?_
 refine wl_pick (.tmp 41) (.tmp 44) (.const (.bool false)) true (.bool true) (fun _ => rfl) rfl rfl rfl ?_
 refine wl_m (.tmp 45) (.bool true) ?_
 refine w_nil (xn_blk (xn_then (w_reg ?_)))
 refine wl_b .add 3 (.tmp 36) (.const (.int .i64 (1))) (.int .i64 (6)) (.int .i64 (1)) (.int .i64 (7)) (by kernel_rfl) ?_
 refine wl_m (.tmp 46) (.int .i64 (7)) ?_
 refine w_nil ?_
 refine xn_rounds ?_
 refine w_seq (w_reg ?_)
 refine wl_bin (fun x y => do eqGuard .lss 3 (.tmp 36) (.tmp 35) x y; binOp .lss 3 x y) (.tmp 36) (.tmp 35) (.int .i64 (7)) (.int .i64 (8)) (.bool true) (fun _ => rfl) rfl er24 (lt3 (r := true) rfl _ _ _) rfl ?_
 refine w_nil (xn_then (w_seq (w_condT rfl (w_skip (xn_then (w_seq (w_block (w_seq (w_reg ?_)))))))))
 refine wl_bin (fun x y => Instr.indexAt 45 x y) (.tmp 34) (.tmp 36) (.slice (some ⟨kk, 0, none⟩) 8 8) (.int .i64 (7)) (pt kk 70) (fun _ => rfl) es rfl (ix45 (i := 7) rfl (by decide) _) rfl ?_
 refine wl_l 28 (.tmp 38) (pt kk 70) (.agg ((vBad op).cells).toArray) (run_row QK 28 70 10 ((vBad op).cells) rfl Tryz.underlying28 rfl sz28) ?_
 refine wl_alloc 28 #[.int .i64 0, .bool false, .int .u64 0, .int .u64 0, .int .u64 0, .int .u64 0, .int .i64 0, .bool false, .string ⟨#[]⟩, .int .i64 0] rfl (fun _ => by kernel_rfl) rfl ?_
 intro k10 u26 hk hz hq Q10
 have ne_k1_k10 : k1 ≠ k10 := by have := Q1.lt; omega
 have ne_k2_k10 : k2 ≠ k10 := by have := Q2.lt; omega
 have ne_kk_k10 : kk ≠ k10 := by have := QK.lt; omega
 have ne_k3_k10 : k3 ≠ k10 := by have := Q3.lt; omega
 have ne_k4_k10 : k4 ≠ k10 := by have := Q4.lt; omega
 have ne_k5_k10 : k5 ≠ k10 := by have := Q5.lt; omega
 have ne_k6_k10 : k6 ≠ k10 := by have := Q6.lt; omega
 have ne_k7_k10 : k7 ≠ k10 := by have := Q7.lt; omega
 have ne_k8_k10 : k8 ≠ k10 := by have := Q8.lt; omega
 have ne_k9_k10 : k9 ≠ k10 := by have := Q9.lt; omega
 have N_k10 : w.heap.size ≤ k10 := by have := M.size; omega
 replace Q1 := Q1.mo hq
 replace Q2 := Q2.mo hq
 replace QK := QK.mo hq
 replace Q3 := Q3.mo hq
 replace Q4 := Q4.mo hq
 replace Q5 := Q5.mo hq
 replace Q6 := Q6.mo hq
 replace Q7 := Q7.mo hq
 replace Q8 := Q8.mo hq
 replace Q9 := Q9.mo hq
 replace M := M.trans hq
 clear hk hz hq
 refine wl_st 28 (.tmp 9) (.tmp 39) k10 0 (((vBad op).cells).toArray) _ ((vBad op).cells) Q10 rfl rfl rfl rfl rfl sz28 rfl rfl rfl ?_
 intro u27 hS Qn
 replace Q10 := Qn
 clear Qn
 replace Q1 := hS.other _ _ ne_k1_k10 Q1
 replace Q2 := hS.other _ _ ne_k2_k10 Q2
 replace QK := hS.other _ _ ne_kk_k10 QK
 replace Q3 := hS.other _ _ ne_k3_k10 Q3
 replace Q4 := hS.other _ _ ne_k4_k10 Q4
 replace Q5 := hS.other _ _ ne_k5_k10 Q5
 replace Q6 := hS.other _ _ ne_k6_k10 Q6
 replace Q7 := hS.other _ _ ne_k7_k10 Q7
 replace Q8 := hS.other _ _ ne_k8_k10 Q8
 replace Q9 := hS.other _ _ ne_k9_k10 Q9
 replace M := hS.mo _ N_k10 M
 clear hS
 refine w_nil (xn_then (w_reg ?_))
 refine wl_m (.tmp 7) (.bool true) ?_
 refine wl_m (.tmp 40) (.bool true) ?_
 refine wl_l 28 (.tmp 9) (pt k10 0) (.agg ((vBad op).cells).toArray) (run_row Q10 28 0 10 ((vBad op).cells) rfl Tryz.underlying28 rfl sz28) ?_
 refine wl_call 14 [(.tmp 42)] _ [.agg ((vBad op).cells).toArray] (.int .i64 (0)) rfl rfl (fun _ _ => by kernel_rfl) (rcheck_t (fit_bad op).2 (fit_bad op).1 _) rfl ?_
 intro u28 hq
 replace Q1 := Q1.mo hq
 replace Q2 := Q2.mo hq
 replace QK := QK.mo hq
 replace Q3 := Q3.mo hq
 replace Q4 := Q4.mo hq
 replace Q5 := Q5.mo hq
 replace Q6 := Q6.mo hq
 replace Q7 := Q7.mo hq
 replace Q8 := Q8.mo hq
 replace Q9 := Q9.mo hq
 replace Q10 := Q10.mo hq
 replace M := M.trans hq
 clear hq
 refine wl_b .eql 32 (.tmp 43) (.const (.int .i64 (0))) (.int .i64 (0)) (.int .i64 (0)) (.bool true) (eq34 (decide_eq_true rfl) _ _ _) ?_
 refine wl_pick (.tmp 41) (.tmp 44) (.const (.bool false)) true (.bool true) (fun _ => rfl) rfl rfl rfl ?_
 refine wl_m (.tmp 45) (.bool true) ?_
 refine w_nil (xn_blk (xn_then (w_reg ?_)))
 refine wl_b .add 3 (.tmp 36) (.const (.int .i64 (1))) (.int .i64 (7)) (.int .i64 (1)) (.int .i64 (8)) (by kernel_rfl) ?_
 refine wl_m (.tmp 46) (.int .i64 (8)) ?_
 refine w_nil ?_
 refine xn_rounds ?_
 refine w_seq (w_reg ?_)
 refine wl_bin (fun x y => do eqGuard .lss 3 (.tmp 36) (.tmp 35) x y; binOp .lss 3 x y) (.tmp 36) (.tmp 35) (.int .i64 (8)) (.int .i64 (8)) (.bool false) (fun _ => rfl) rfl er24 (lt3 (r := false) rfl _ _ _) rfl ?_
 refine w_nil (xn_then (w_seq (w_condF rfl (w_exit (xx_then (xx_then (xx_blk (xn_then (w_seq (w_reg ?_))))))))))
 refine wl_m (.tmp 7) (.bool true) ?_
 refine wl_m (.tmp 47) (.bool true) ?_
 refine w_nil (xn_then (w_ret ?_))
 exact w_ret1 _ _ rfl rfl ⟨rfl, M⟩
theorem V.stays_law (op : Int) (x y : VL) (w : World) (hx : x.ok) (hy : y.ok) : Calls Tryz.prog 7 #[.int .i64 op, x.v, y.v] w fun e9 w' => e9 = .returned (.bool true) ∧ V.Mw w w' := V.wk (stays_n op x y w hx hy)
end Go.Proofs.YtogomodbcjpfiaaGreatDoor
