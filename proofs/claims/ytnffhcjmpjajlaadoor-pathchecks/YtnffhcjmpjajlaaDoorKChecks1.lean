/-
  A part of the proof.
-/
import Derived.Test.YtnffhcjmpjajlaaDoorKa14
import Derived.Test.YtnffhcjmpjajlaaDoorKa11
import Derived.Test.YtnffhcjmpjajlaaDoorKa8
import Derived.Test.YtnffhcjmpjajlaaDoorKa7
import Derived.Test.YtnffhcjmpjajlaaDoorKa6
import Derived.Test.YtnffhcjmpjajlaaDoorKa5
import Derived.Test.YtnffhcjmpjajlaaDoorKa4
import Derived.Test.YtnffhcjmpjajlaaDoorKa3
import Derived.Test.YtnffhcjmpjajlaaDoorKa2
import Derived.Test.YtnffhcjmpjajlaaDoorKa1
import Derived.RegionTactic
import Derived.Test.YtnffhcjmpjajlaaDoorProg
import Derived.WalkKit
import Derived.WalkSpells
import Derived.Handy
import Derived.BigQuiet
import Derived.Deep.RegionHeld3
import Derived.Deep.MidRow
import Derived.BigCall
import Derived.ChangeKeysEq
import Derived.Shelf.Small.Bits
import Derived.Shelf.Strconv.Itoa0
import Derived.Shelf.Bits.Mul64
import Derived.Deep.CutRange
import Derived.Deep.CutBlock
import Derived.ScopeJumps
import Derived.WalkMore
import Derived.Laws.StructEq
import Derived.Lib.CutLaws
import Derived.Maps.OwnSet
import Derived.WalkArith
import Derived.StringKeys
import Derived.ProofKit
import Derived.OpenShut
import Derived.ChangeArms
import Derived.Deep.Slices
import Derived.ReadAgain
import Derived.WideKeyArgs
import Derived.Maps.AppendAt
import Derived.Shelf.Strconv.Itoa4
import Derived.Test.YtnffhcjmpjajlaaDoorKa10
import Derived.Test.YtnffhcjmpjajlaaDoorKa9
import Derived.Lib.IndexBytes
import Derived.Lib.AppendIntMem
import Derived.Lib.ItoaLen
import Derived.Laws.MakeOwn
import Derived.Test.YtnffhcjmpjajlaaDoorKa13
import Derived.Test.YtnffhcjmpjajlaaDoorKa12
import Derived.Test.YtnffhcjmpjajlaaDoorKa15
import Derived.Test.YtnffhcjmpjajlaaDoorRows
import Derived.Carry
import Derived.ChangeMaps5
import Derived.ChangeSame
import Derived.ChangeVars
import Derived.JoinedOf
import Derived.RowKitTokens
import Derived.LaidLaws
import Derived.LaidHandle
import Derived.Stop.Joined
import Derived.Lib.LaidIn
import Derived.Lib.LaidTab
import Derived.SizedLaws
import Derived.Deep.Strs
namespace Go.Proofs.YtnffhcjmpjajlaaDoor.V
open Go.RowKit D
set_option maxHeartbeats 1000000 in
theorem pchecks_n {L : List S5} {pl : Option Addr} {cl : Nat} {c : Ce} (w : World) (hL : LL w pl L) (hcl : L.length ≤ cl) (hTb : TB w) : Calls Tryd.prog 3 #[.slice pl L.length cl, c.v] w fun e9 w' => e9 = .returned (.bool true) ∧ Mw w w' := by
 obtain ⟨L9, h9⟩ : ∃ L9, L9 = L.take 100 := ⟨_, rfl⟩
 have hL9 : LL w pl L9 := by rw [h9]; exact LL.take hL 100
 have hc9 : L9.length ≤ cl := by rw [h9, List.length_take]; omega
 have h100 : L9.length ≤ 100 := by rw [h9, List.length_take]; omega
 refine w_enter 90 Tryd.func3 Tryd.ntmps3 rfl rfl ?_
 have M : Mw w w := Mw.refl _
 refine w_seq (w_reg ?_)
 refine wl_box 27 (.tmp 1) _ (((c.cells).toArray)) rfl rfl (fun _ => by kernel_rfl) rfl ?_
 intro k1 u1 hk hz hq Q1
 have N_k1 : w.heap.size ≤ k1 := by have := M.size; omega
 replace M := M.trans hq
 clear hk hz hq
 refine wl_m (.const (.bool false)) (.bool false) ?_
 refine w_nil (xn_then (w_seq (w_reg ?_)))
 refine wl_m (.tmp 0) (.slice pl L.length cl) ?_
 refine wl_m (.tmp 0) (.slice pl L.length cl) ?_
 refine wl_val (.int .i64 ((L.length : Nat) : Int)) (len22 _ _ _ _ _ (by exact rfl) _ _ _ _ _ _) rfl ?_
 refine wl_val (.int .i64 ((L9.length : Nat) : Int)) (min_T h9 _ _ (by exact rfl) rfl _ _ _ _ _ _ _) rfl ?_
 refine wl_val (.slice pl L9.length cl) (slh22 _ _ _ pl L.length cl L9.length (by exact rfl) (by exact rfl) (by rw [h9, List.length_take]; omega) _ _ _ _ _ _) rfl ?_
 refine wl_m (.tmp 13) (.slice pl L9.length cl) ?_
 refine w_nil (xn_then (w_seq (w_reg ?_)))
 refine wl_m (.tmp 0) (.slice pl L9.length cl) ?_
 refine wl_f 27 0 (.tmp 3) (pt k1 0) (pt k1 0) ?_
 refine wl_l 25 (.tmp 16) (pt k1 0) (.agg (c.r.cells).toArray) (run_row Q1 25 0 4 (c.r.cells) rfl Tryd.underlying25 rfl sz25) ?_
 refine wl_call 7 [(.tmp 15), (.tmp 17)] _ [.slice pl L9.length cl, .agg (c.r.cells).toArray] (.tuple #[.agg ((parR L9 c.r).cells).toArray, .bool ((parO L9 c.r))]) rfl rfl (fun _ _ => by kernel_rfl) (wk (ppar_n _ (hL9.mw M) hc9)) rfl ?_
 intro u2 hq
 replace Q1 := Q1.mo hq
 replace M := M.trans hq
 clear hq
 refine wl_m (.tmp 18) (.tuple #[.agg ((parR L9 c.r).cells).toArray, .bool ((parO L9 c.r))]) ?_
 refine wl_un (fun v => Instr.extract v 0) (.tmp 14) (.tuple #[.agg ((parR L9 c.r).cells).toArray, .bool ((parO L9 c.r))]) (.agg ((parR L9 c.r).cells).toArray) (fun _ => rfl) rfl (by kernel_rfl) rfl ?_
 refine wl_un (fun v => Instr.extract v 1) (.tmp 14) (.tuple #[.agg ((parR L9 c.r).cells).toArray, .bool ((parO L9 c.r))]) (.bool ((parO L9 c.r))) (fun _ => rfl) rfl (by kernel_rfl) rfl ?_
 refine wl_alloc 25 #[.int .i64 0, .int .i64 0, .int .i64 0, .int .i64 0] rfl (fun _ => by kernel_rfl) rfl ?_
 intro k2 u3 hk hz hq Q2
 have ne_k1_k2 : k1 ≠ k2 := by have := Q1.lt; omega
 have N_k2 : w.heap.size ≤ k2 := by have := M.size; omega
 replace Q1 := Q1.mo hq
 replace M := M.trans hq
 clear hk hz hq
 refine wl_st 25 (.tmp 5) (.tmp 19) k2 0 (((parR L9 c.r).cells).toArray) _ ((parR L9 c.r).cells) Q2 rfl rfl rfl rfl rfl sz25 rfl rfl rfl ?_
 intro u4 hS Qn
 replace Q2 := Qn
 clear Qn
 replace Q1 := hS.other _ _ ne_k1_k2 Q1
 replace M := hS.mo _ N_k2 M
 clear hS
 refine wl_m (.tmp 20) (.bool ((parO L9 c.r))) ?_
 refine w_nil (xn_then (w_seq (w_reg ?_)))
 refine wl_m (.tmp 0) (.slice pl L9.length cl) ?_
 refine wl_f 27 0 (.tmp 3) (pt k1 0) (pt k1 0) ?_
 refine wl_l 25 (.tmp 23) (pt k1 0) (.agg (c.r.cells).toArray) (run_row Q1 25 0 4 (c.r.cells) rfl Tryd.underlying25 rfl sz25) ?_
 refine wl_call 8 [(.tmp 22), (.tmp 24)] _ [.slice pl L9.length cl, .agg (c.r.cells).toArray] (.tuple #[.agg ((parR L9 c.r).cells).toArray, .bool ((parO L9 c.r))]) rfl rfl (fun _ _ => by kernel_rfl) (wk (rpar_n _ (hL9.mw M))) rfl ?_
 intro u5 hq
 replace Q1 := Q1.mo hq
 replace Q2 := Q2.mo hq
 replace M := M.trans hq
 clear hq
 refine wl_m (.tmp 25) (.tuple #[.agg ((parR L9 c.r).cells).toArray, .bool ((parO L9 c.r))]) ?_
 refine wl_un (fun v => Instr.extract v 0) (.tmp 21) (.tuple #[.agg ((parR L9 c.r).cells).toArray, .bool ((parO L9 c.r))]) (.agg ((parR L9 c.r).cells).toArray) (fun _ => rfl) rfl (by kernel_rfl) rfl ?_
 refine wl_un (fun v => Instr.extract v 1) (.tmp 21) (.tuple #[.agg ((parR L9 c.r).cells).toArray, .bool ((parO L9 c.r))]) (.bool ((parO L9 c.r))) (fun _ => rfl) rfl (by kernel_rfl) rfl ?_
 refine wl_alloc 25 #[.int .i64 0, .int .i64 0, .int .i64 0, .int .i64 0] rfl (fun _ => by kernel_rfl) rfl ?_
 intro k3 u6 hk hz hq Q3
 have ne_k1_k3 : k1 ≠ k3 := by have := Q1.lt; omega
 have ne_k2_k3 : k2 ≠ k3 := by have := Q2.lt; omega
 have N_k3 : w.heap.size ≤ k3 := by have := M.size; omega
 replace Q1 := Q1.mo hq
 replace Q2 := Q2.mo hq
 replace M := M.trans hq
 clear hk hz hq
 refine wl_st 25 (.tmp 7) (.tmp 26) k3 0 (((parR L9 c.r).cells).toArray) _ ((parR L9 c.r).cells) Q3 rfl rfl rfl rfl rfl sz25 rfl rfl rfl ?_
 intro u7 hS Qn
 replace Q3 := Qn
 clear Qn
 replace Q1 := hS.other _ _ ne_k1_k3 Q1
 replace Q2 := hS.other _ _ ne_k2_k3 Q2
 replace M := hS.mo _ N_k3 M
 clear hS
 refine wl_m (.tmp 27) (.bool ((parO L9 c.r))) ?_
 refine w_nil (xn_then (w_seq ?_))
 refine w_any 59 [.inl (.bool true), .inl (.bool true), .inl (.slice pl L9.length cl), .inl (pt k1 0), .inl (.agg (c.r.cells).toArray), .inl (.int .i64 (ckR L9 c.r)), .inl (.slice pl L9.length cl), .inl (pt k1 0), .inl (.agg (c.r.cells).toArray), .inl (.int .i64 (ckR L9 c.r)), .inl (.bool true), .inl (.bool true), .inl (.bool true), .inl (.slice pl L9.length cl), .inl (.agg (c.cells).toArray), .inl (.int .i64 (ckC L9 c)), .inl (.slice pl L9.length cl), .inl (.agg (c.cells).toArray), .inl (.int .i64 (ckC L9 c)), .inl (.bool true), .inl (.bool true), .inl (.bool true), .inl (.slice pl L9.length cl), .inl (pt k1 0), .inl (.agg (c.r.cells).toArray), .inl (.int .i64 (idA L9 c.r)), .inl (.slice pl L9.length cl), .inl (pt k1 0), .inl (.agg (c.r.cells).toArray), .inl (.int .i64 (idA L9 c.r)), .inl (.bool true), .inl (.bool true), .inl (.bool true), .inl (.agg ((parR L9 c.r).cells).toArray), .inl (.agg ((parR L9 c.r).cells).toArray), .inl (.bool true), .inl (.bool true), .inl (.bool true), .inl (.bool ((parO L9 c.r))), .inl (.bool ((parO L9 c.r))), .inl (.bool true), .inl (.bool true), .inl (.bool true), .inl (.slice pl L9.length cl), .inl (pt k1 0), .inl (.agg (c.r.cells).toArray), .inl (.string (txR L9 c.r)), .inl (.slice pl L9.length cl), .inl (pt k1 0), .inl (.agg (c.r.cells).toArray), .inl (.string (txR L9 c.r)), .inl (.bool true), .inl (.bool true), .inl (.bool true), .inl (.slice pl L9.length cl), .inl (.agg (c.cells).toArray), .inl (.string (txC L9 c)), .inl (.slice pl L9.length cl), .inl (.agg (c.cells).toArray)] [] (by kernel_rfl) (by kernel_rfl) (by kernel_rfl) (by kernel_rfl) rfl (by kernel_rfl) (by kernel_rfl) late_nil ?_ ?_ ?_
 ·exact Ds.none rfl
 ·refine ea_cons ?_ (ea_cons ?_ (ea_cons ?_ (ea_cons ?_ (ea_cons ?_ (ea_cons ?_ (ea_cons ?_ (ea_cons ?_ (ea_cons ?_ (ea_cons ?_ (ea_cons ?_ (ea_cons ?_ (ea_cons ?_ (ea_cons ?_ (ea_cons ?_ (ea_cons ?_ (ea_cons ?_ (ea_cons ?_ (ea_cons ?_ (ea_cons ?_ (ea_cons ?_ (ea_cons ?_ (ea_cons ?_ (ea_cons ?_ (ea_cons ?_ (ea_cons ?_ (ea_cons ?_ (ea_cons ?_ (ea_cons ?_ (ea_cons ?_ (ea_cons ?_ (ea_cons ?_ (ea_cons ?_ (ea_cons ?_ (ea_cons ?_ (ea_cons ?_ (ea_cons ?_ (ea_cons ?_ (ea_cons ?_ (ea_cons ?_ (ea_cons ?_ (ea_cons ?_ (ea_cons ?_ (ea_cons ?_ (ea_cons ?_ (ea_cons ?_ (ea_cons ?_ (ea_cons ?_ (ea_cons ?_ (ea_cons ?_ (ea_cons ?_ (ea_cons ?_ (ea_cons ?_ (ea_cons ?_ (ea_cons ?_ (ea_cons ?_ (ea_cons ?_ (ea_cons ?_ (ea_cons ?_ (ea_nil)))))))))))))))))))))))))))))))))))))))))))))))))))))))))))
  ·exact og_eq _ rfl (fun f wf hq hd K hK => go_run rfl (wo_call 9 [] _ [] (.bool true) rfl rfl (fun _ _ => by kernel_rfl) (live_n _ (hTb.mw (M.trans hq))) hK))
  ·exact og_eq _ rfl (fun f wf hq hd K hK => go_run rfl (wo_mv (.tmp 28) (.bool true) (fun _ => rfl) (hd 0 rfl) (hK _ (Mw.refl _))))
  ·exact og_eq _ rfl (fun f wf hq hd K hK => go_run (wnt_g rfl rfl rfl (hd 1 rfl) rfl) (wo_mv (.tmp 0) (.slice pl L9.length cl) (fun _ => rfl) rfl (hK _ (Mw.refl _))))
  ·exact og_eq _ rfl (fun f wf hq hd K hK => go_run (wnt_g rfl rfl rfl (hd 1 rfl) rfl) (wo_un (fun v => Instr.fieldAt 27 v 0) (.tmp 3) (pt k1 0) (pt k1 0) (fun _ => rfl) rfl (by kernel_rfl) (hK _ (Mw.refl _))))
  ·exact og_eq _ rfl (fun f wf hq hd K hK => have Q1 := Q1.mo hq; go_run (wnt_g rfl rfl rfl (hd 1 rfl) rfl) (wo_load 25 (.tmp 31) (pt k1 0) (.agg (c.r.cells).toArray) rfl (hd 3 rfl) (run_row Q1 25 0 4 (c.r.cells) rfl Tryd.underlying25 rfl sz25) (hK _ (Mw.refl _))))
  ·exact og_eq _ rfl (fun f wf hq hd K hK => go_run (wnt_g rfl rfl rfl (hd 1 rfl) rfl) (wo_call 10 [(.tmp 30), (.tmp 32)] _ [.slice pl L9.length cl, .agg (c.r.cells).toArray] (.int .i64 (ckR L9 c.r)) rfl (li2 (hd 2 rfl) (hd 4 rfl)) (fun _ _ => by kernel_rfl) (wk (pck_n _ (hL9.mw (M.trans hq)) hc9)) hK))
  ·exact og_eq _ rfl (fun f wf hq hd K hK => go_run (wnt_g rfl rfl rfl (hd 1 rfl) rfl) (wo_mv (.tmp 0) (.slice pl L9.length cl) (fun _ => rfl) rfl (hK _ (Mw.refl _))))
  ·exact og_eq _ rfl (fun f wf hq hd K hK => go_run (wnt_g rfl rfl rfl (hd 1 rfl) rfl) (wo_un (fun v => Instr.fieldAt 27 v 0) (.tmp 3) (pt k1 0) (pt k1 0) (fun _ => rfl) rfl (by kernel_rfl) (hK _ (Mw.refl _))))
  ·exact og_eq _ rfl (fun f wf hq hd K hK => have Q1 := Q1.mo hq; go_run (wnt_g rfl rfl rfl (hd 1 rfl) rfl) (wo_load 25 (.tmp 35) (pt k1 0) (.agg (c.r.cells).toArray) rfl (hd 7 rfl) (run_row Q1 25 0 4 (c.r.cells) rfl Tryd.underlying25 rfl sz25) (hK _ (Mw.refl _))))
  ·exact og_eq _ rfl (fun f wf hq hd K hK => go_run (wnt_g rfl rfl rfl (hd 1 rfl) rfl) (wo_call 11 [(.tmp 34), (.tmp 36)] _ [.slice pl L9.length cl, .agg (c.r.cells).toArray] (.int .i64 (ckR L9 c.r)) rfl (li2 (hd 6 rfl) (hd 8 rfl)) (fun _ _ => by kernel_rfl) (wk (rck_n _ (hL9.mw (M.trans hq)))) hK))
  ·exact og_eq _ rfl (fun f wf hq hd K hK => go_run (wnt_g rfl rfl rfl (hd 1 rfl) rfl) (wo_bin (fun x y => do eqGuard .eql 31 (.tmp 33) (.tmp 37) x y; binOp .eql 31 x y) (.tmp 33) (.tmp 37) (.int .i64 (ckR L9 c.r)) (.int .i64 (ckR L9 c.r)) (.bool true) (fun _ => rfl) (hd 5 rfl) (hd 9 rfl) (eq34 (r := true) (decide_eq_true rfl) _ _ _) (hK _ (Mw.refl _))))
  ·exact og_eq _ rfl (fun f wf hq hd K hK => go_run rfl (wo_pick (.tmp 29) (.tmp 38) (.const (.bool false)) true (.bool true) (fun _ => rfl) (hd 1 rfl) (hd 10 rfl) (hK _ (Mw.refl _))))
  ·exact og_eq _ rfl (fun f wf hq hd K hK => go_run rfl (wo_mv (.tmp 39) (.bool true) (fun _ => rfl) (hd 11 rfl) (hK _ (Mw.refl _))))
  ·exact og_eq _ rfl (fun f wf hq hd K hK => go_run (wnt_g rfl rfl rfl (hd 12 rfl) rfl) (wo_mv (.tmp 0) (.slice pl L9.length cl) (fun _ => rfl) rfl (hK _ (Mw.refl _))))
  ·exact og_eq _ rfl (fun f wf hq hd K hK => have Q1 := Q1.mo hq; go_run (wnt_g rfl rfl rfl (hd 12 rfl) rfl) (wo_load 27 (.tmp 3) (pt k1 0) (.agg (c.cells).toArray) rfl rfl (run_row Q1 27 0 5 (c.cells) rfl Tryd.underlying27 rfl sz27) (hK _ (Mw.refl _))))
  ·exact og_eq _ rfl (fun f wf hq hd K hK => go_run (wnt_g rfl rfl rfl (hd 12 rfl) rfl) (wo_call 12 [(.tmp 41), (.tmp 42)] _ [.slice pl L9.length cl, .agg (c.cells).toArray] (.int .i64 (ckC L9 c)) rfl (li2 (hd 13 rfl) (hd 14 rfl)) (fun _ _ => by kernel_rfl) (wk (pcc_n _ (hL9.mw (M.trans hq)) hc9)) hK))
  ·exact og_eq _ rfl (fun f wf hq hd K hK => go_run (wnt_g rfl rfl rfl (hd 12 rfl) rfl) (wo_mv (.tmp 0) (.slice pl L9.length cl) (fun _ => rfl) rfl (hK _ (Mw.refl _))))
  ·exact og_eq _ rfl (fun f wf hq hd K hK => have Q1 := Q1.mo hq; go_run (wnt_g rfl rfl rfl (hd 12 rfl) rfl) (wo_load 27 (.tmp 3) (pt k1 0) (.agg (c.cells).toArray) rfl rfl (run_row Q1 27 0 5 (c.cells) rfl Tryd.underlying27 rfl sz27) (hK _ (Mw.refl _))))
  ·exact og_eq _ rfl (fun f wf hq hd K hK => go_run (wnt_g rfl rfl rfl (hd 12 rfl) rfl) (wo_call 13 [(.tmp 44), (.tmp 45)] _ [.slice pl L9.length cl, .agg (c.cells).toArray] (.int .i64 (ckC L9 c)) rfl (li2 (hd 16 rfl) (hd 17 rfl)) (fun _ _ => by kernel_rfl) (wk (rcc_n _ (hL9.mw (M.trans hq)))) hK))
  ·exact og_eq _ rfl (fun f wf hq hd K hK => go_run (wnt_g rfl rfl rfl (hd 12 rfl) rfl) (wo_bin (fun x y => do eqGuard .eql 31 (.tmp 43) (.tmp 46) x y; binOp .eql 31 x y) (.tmp 43) (.tmp 46) (.int .i64 (ckC L9 c)) (.int .i64 (ckC L9 c)) (.bool true) (fun _ => rfl) (hd 15 rfl) (hd 18 rfl) (eq34 (r := true) (decide_eq_true rfl) _ _ _) (hK _ (Mw.refl _))))
  ·exact og_eq _ rfl (fun f wf hq hd K hK => go_run rfl (wo_pick (.tmp 40) (.tmp 47) (.const (.bool false)) true (.bool true) (fun _ => rfl) (hd 12 rfl) (hd 19 rfl) (hK _ (Mw.refl _))))
  ·exact og_eq _ rfl (fun f wf hq hd K hK => go_run rfl (wo_mv (.tmp 48) (.bool true) (fun _ => rfl) (hd 20 rfl) (hK _ (Mw.refl _))))
  ·exact og_eq _ rfl (fun f wf hq hd K hK => go_run (wnt_g rfl rfl rfl (hd 21 rfl) rfl) (wo_mv (.tmp 0) (.slice pl L9.length cl) (fun _ => rfl) rfl (hK _ (Mw.refl _))))
  ·exact og_eq _ rfl (fun f wf hq hd K hK => go_run (wnt_g rfl rfl rfl (hd 21 rfl) rfl) (wo_un (fun v => Instr.fieldAt 27 v 0) (.tmp 3) (pt k1 0) (pt k1 0) (fun _ => rfl) rfl (by kernel_rfl) (hK _ (Mw.refl _))))
  ·exact og_eq _ rfl (fun f wf hq hd K hK => have Q1 := Q1.mo hq; go_run (wnt_g rfl rfl rfl (hd 21 rfl) rfl) (wo_load 25 (.tmp 51) (pt k1 0) (.agg (c.r.cells).toArray) rfl (hd 23 rfl) (run_row Q1 25 0 4 (c.r.cells) rfl Tryd.underlying25 rfl sz25) (hK _ (Mw.refl _))))
  ·exact og_eq _ rfl (fun f wf hq hd K hK => go_run (wnt_g rfl rfl rfl (hd 21 rfl) rfl) (wo_call 14 [(.tmp 50), (.tmp 52)] _ [.slice pl L9.length cl, .agg (c.r.cells).toArray] (.int .i64 (idA L9 c.r)) rfl (li2 (hd 22 rfl) (hd 24 rfl)) (fun _ _ => by kernel_rfl) (wk (pid_n _ (hL9.mw (M.trans hq)) hc9)) hK))
  ·exact og_eq _ rfl (fun f wf hq hd K hK => go_run (wnt_g rfl rfl rfl (hd 21 rfl) rfl) (wo_mv (.tmp 0) (.slice pl L9.length cl) (fun _ => rfl) rfl (hK _ (Mw.refl _))))
  ·exact og_eq _ rfl (fun f wf hq hd K hK => go_run (wnt_g rfl rfl rfl (hd 21 rfl) rfl) (wo_un (fun v => Instr.fieldAt 27 v 0) (.tmp 3) (pt k1 0) (pt k1 0) (fun _ => rfl) rfl (by kernel_rfl) (hK _ (Mw.refl _))))
  ·exact og_eq _ rfl (fun f wf hq hd K hK => have Q1 := Q1.mo hq; go_run (wnt_g rfl rfl rfl (hd 21 rfl) rfl) (wo_load 25 (.tmp 55) (pt k1 0) (.agg (c.r.cells).toArray) rfl (hd 27 rfl) (run_row Q1 25 0 4 (c.r.cells) rfl Tryd.underlying25 rfl sz25) (hK _ (Mw.refl _))))
  ·exact og_eq _ rfl (fun f wf hq hd K hK => go_run (wnt_g rfl rfl rfl (hd 21 rfl) rfl) (wo_call 15 [(.tmp 54), (.tmp 56)] _ [.slice pl L9.length cl, .agg (c.r.cells).toArray] (.int .i64 (idA L9 c.r)) rfl (li2 (hd 26 rfl) (hd 28 rfl)) (fun _ _ => by kernel_rfl) (wk (rid_n _ (hL9.mw (M.trans hq)))) hK))
  ·exact og_eq _ rfl (fun f wf hq hd K hK => go_run (wnt_g rfl rfl rfl (hd 21 rfl) rfl) (wo_bin (fun x y => do eqGuard .eql 2 (.tmp 53) (.tmp 57) x y; binOp .eql 2 x y) (.tmp 53) (.tmp 57) (.int .i64 (idA L9 c.r)) (.int .i64 (idA L9 c.r)) (.bool true) (fun _ => rfl) (hd 25 rfl) (hd 29 rfl) (eq2 (r := true) (decide_eq_true rfl) _ _ _) (hK _ (Mw.refl _))))
  ·exact og_eq _ rfl (fun f wf hq hd K hK => go_run rfl (wo_pick (.tmp 49) (.tmp 58) (.const (.bool false)) true (.bool true) (fun _ => rfl) (hd 21 rfl) (hd 30 rfl) (hK _ (Mw.refl _))))
  ·exact og_eq _ rfl (fun f wf hq hd K hK => go_run rfl (wo_mv (.tmp 59) (.bool true) (fun _ => rfl) (hd 31 rfl) (hK _ (Mw.refl _))))
  ·exact og_eq _ rfl (fun f wf hq hd K hK => have Q2 := Q2.mo hq; go_run (wnt_g rfl rfl rfl (hd 32 rfl) rfl) (wo_load 25 (.tmp 5) (pt k2 0) (.agg ((parR L9 c.r).cells).toArray) rfl rfl (run_row Q2 25 0 4 ((parR L9 c.r).cells) rfl Tryd.underlying25 rfl sz25) (hK _ (Mw.refl _))))
  ·exact og_eq _ rfl (fun f wf hq hd K hK => have Q3 := Q3.mo hq; go_run (wnt_g rfl rfl rfl (hd 32 rfl) rfl) (wo_load 25 (.tmp 7) (pt k3 0) (.agg ((parR L9 c.r).cells).toArray) rfl rfl (run_row Q3 25 0 4 ((parR L9 c.r).cells) rfl Tryd.underlying25 rfl sz25) (hK _ (Mw.refl _))))
  ·exact og_eq _ rfl (fun f wf hq hd K hK => go_run (wnt_g rfl rfl rfl (hd 32 rfl) rfl) (wo_bin (fun x y => do eqGuard .eql 25 (.tmp 61) (.tmp 62) x y; binOp .eql 25 x y) (.tmp 61) (.tmp 62) (.agg ((parR L9 c.r).cells).toArray) (.agg ((parR L9 c.r).cells).toArray) (.bool true) (fun _ => rfl) (hd 33 rfl) (hd 34 rfl) (eqR (sR_self _) _ _ _) (hK _ (Mw.refl _))))
  ·exact og_eq _ rfl (fun f wf hq hd K hK => go_run rfl (wo_pick (.tmp 60) (.tmp 63) (.const (.bool false)) true (.bool true) (fun _ => rfl) (hd 32 rfl) (hd 35 rfl) (hK _ (Mw.refl _))))
  ·exact og_eq _ rfl (fun f wf hq hd K hK => go_run rfl (wo_mv (.tmp 64) (.bool true) (fun _ => rfl) (hd 36 rfl) (hK _ (Mw.refl _))))
  ·exact og_eq _ rfl (fun f wf hq hd K hK => go_run (wnt_g rfl rfl rfl (hd 37 rfl) rfl) (wo_mv (.tmp 6) (.bool ((parO L9 c.r))) (fun _ => rfl) rfl (hK _ (Mw.refl _))))
  ·exact og_eq _ rfl (fun f wf hq hd K hK => go_run (wnt_g rfl rfl rfl (hd 37 rfl) rfl) (wo_mv (.tmp 8) (.bool ((parO L9 c.r))) (fun _ => rfl) rfl (hK _ (Mw.refl _))))
  ·exact og_eq _ rfl (fun f wf hq hd K hK => go_run (wnt_g rfl rfl rfl (hd 37 rfl) rfl) (wo_bin (fun x y => do eqGuard .eql 4 (.tmp 66) (.tmp 67) x y; binOp .eql 4 x y) (.tmp 66) (.tmp 67) (.bool ((parO L9 c.r))) (.bool ((parO L9 c.r))) (.bool true) (fun _ => rfl) (hd 38 rfl) (hd 39 rfl) (eq4b (r := true) (beq_self_eq_true _) _ _ _) (hK _ (Mw.refl _))))
  ·exact og_eq _ rfl (fun f wf hq hd K hK => go_run rfl (wo_pick (.tmp 65) (.tmp 68) (.const (.bool false)) true (.bool true) (fun _ => rfl) (hd 37 rfl) (hd 40 rfl) (hK _ (Mw.refl _))))
  ·exact og_eq _ rfl (fun f wf hq hd K hK => go_run rfl (wo_mv (.tmp 69) (.bool true) (fun _ => rfl) (hd 41 rfl) (hK _ (Mw.refl _))))
  ·exact og_eq _ rfl (fun f wf hq hd K hK => go_run (wnt_g rfl rfl rfl (hd 42 rfl) rfl) (wo_mv (.tmp 0) (.slice pl L9.length cl) (fun _ => rfl) rfl (hK _ (Mw.refl _))))
  ·exact og_eq _ rfl (fun f wf hq hd K hK => go_run (wnt_g rfl rfl rfl (hd 42 rfl) rfl) (wo_un (fun v => Instr.fieldAt 27 v 0) (.tmp 3) (pt k1 0) (pt k1 0) (fun _ => rfl) rfl (by kernel_rfl) (hK _ (Mw.refl _))))
  ·exact og_eq _ rfl (fun f wf hq hd K hK => have Q1 := Q1.mo hq; go_run (wnt_g rfl rfl rfl (hd 42 rfl) rfl) (wo_load 25 (.tmp 72) (pt k1 0) (.agg (c.r.cells).toArray) rfl (hd 44 rfl) (run_row Q1 25 0 4 (c.r.cells) rfl Tryd.underlying25 rfl sz25) (hK _ (Mw.refl _))))
  ·exact og_eq _ rfl (fun f wf hq hd K hK => go_run (wnt_g rfl rfl rfl (hd 42 rfl) rfl) (wo_call 16 [(.tmp 71), (.tmp 73)] _ [.slice pl L9.length cl, .agg (c.r.cells).toArray] (.string (txR L9 c.r)) rfl (li2 (hd 43 rfl) (hd 45 rfl)) (fun _ _ => by kernel_rfl) (ptxt_n _ (hL9.mw (M.trans hq)) hc9 (hTb.mw (M.trans hq))) hK))
  ·exact og_eq _ rfl (fun f wf hq hd K hK => go_run (wnt_g rfl rfl rfl (hd 42 rfl) rfl) (wo_mv (.tmp 0) (.slice pl L9.length cl) (fun _ => rfl) rfl (hK _ (Mw.refl _))))
  ·exact og_eq _ rfl (fun f wf hq hd K hK => go_run (wnt_g rfl rfl rfl (hd 42 rfl) rfl) (wo_un (fun v => Instr.fieldAt 27 v 0) (.tmp 3) (pt k1 0) (pt k1 0) (fun _ => rfl) rfl (by kernel_rfl) (hK _ (Mw.refl _))))
  ·exact og_eq _ rfl (fun f wf hq hd K hK => have Q1 := Q1.mo hq; go_run (wnt_g rfl rfl rfl (hd 42 rfl) rfl) (wo_load 25 (.tmp 76) (pt k1 0) (.agg (c.r.cells).toArray) rfl (hd 48 rfl) (run_row Q1 25 0 4 (c.r.cells) rfl Tryd.underlying25 rfl sz25) (hK _ (Mw.refl _))))
  ·exact og_eq _ rfl (fun f wf hq hd K hK => go_run (wnt_g rfl rfl rfl (hd 42 rfl) rfl) (wo_call 17 [(.tmp 75), (.tmp 77)] _ [.slice pl L9.length cl, .agg (c.r.cells).toArray] (.string (txR L9 c.r)) rfl (li2 (hd 47 rfl) (hd 49 rfl)) (fun _ _ => by kernel_rfl) (rtxt_n _ (hL9.mw (M.trans hq)) (hTb.mw (M.trans hq))) hK))
  ·exact og_eq _ rfl (fun f wf hq hd K hK => go_run (wnt_g rfl rfl rfl (hd 42 rfl) rfl) (wo_bin (fun x y => do eqGuard .eql 9 (.tmp 74) (.tmp 78) x y; binOp .eql 9 x y) (.tmp 74) (.tmp 78) (.string (txR L9 c.r)) (.string (txR L9 c.r)) (.bool true) (fun _ => rfl) (hd 46 rfl) (hd 50 rfl) (s9 (decide_eq_true rfl) _ _ _) (hK _ (Mw.refl _))))
  ·exact og_eq _ rfl (fun f wf hq hd K hK => go_run rfl (wo_pick (.tmp 70) (.tmp 79) (.const (.bool false)) true (.bool true) (fun _ => rfl) (hd 42 rfl) (hd 51 rfl) (hK _ (Mw.refl _))))
  ·exact og_eq _ rfl (fun f wf hq hd K hK => go_run rfl (wo_mv (.tmp 80) (.bool true) (fun _ => rfl) (hd 52 rfl) (hK _ (Mw.refl _))))
  ·exact og_eq _ rfl (fun f wf hq hd K hK => go_run (wnt_g rfl rfl rfl (hd 53 rfl) rfl) (wo_mv (.tmp 0) (.slice pl L9.length cl) (fun _ => rfl) rfl (hK _ (Mw.refl _))))
  ·exact og_eq _ rfl (fun f wf hq hd K hK => have Q1 := Q1.mo hq; go_run (wnt_g rfl rfl rfl (hd 53 rfl) rfl) (wo_load 27 (.tmp 3) (pt k1 0) (.agg (c.cells).toArray) rfl rfl (run_row Q1 27 0 5 (c.cells) rfl Tryd.underlying27 rfl sz27) (hK _ (Mw.refl _))))
  ·exact og_eq _ rfl (fun f wf hq hd K hK => go_run (wnt_g rfl rfl rfl (hd 53 rfl) rfl) (wo_call 18 [(.tmp 82), (.tmp 83)] _ [.slice pl L9.length cl, .agg (c.cells).toArray] (.string (txC L9 c)) rfl (li2 (hd 54 rfl) (hd 55 rfl)) (fun _ _ => by kernel_rfl) (pctx_n _ (hL9.mw (M.trans hq)) hc9 (hTb.mw (M.trans hq))) hK))
  ·exact og_eq _ rfl (fun f wf hq hd K hK => go_run (wnt_g rfl rfl rfl (hd 53 rfl) rfl) (wo_mv (.tmp 0) (.slice pl L9.length cl) (fun _ => rfl) rfl (hK _ (Mw.refl _))))
  ·exact og_eq _ rfl (fun f wf hq hd K hK => have Q1 := Q1.mo hq; go_run (wnt_g rfl rfl rfl (hd 53 rfl) rfl) (wo_load 27 (.tmp 3) (pt k1 0) (.agg (c.cells).toArray) rfl rfl (run_row Q1 27 0 5 (c.cells) rfl Tryd.underlying27 rfl sz27) (hK _ (Mw.refl _))))
 intro kf8 u8 hq hR hne
 replace Q1 := Q1.mo hq
 replace Q2 := Q2.mo hq
 replace Q3 := Q3.mo hq
 replace M := M.trans hq
 clear hq hR hne
 refine wl_call 19 [(.tmp 85), (.tmp 86)] _ [.slice pl L9.length cl, .agg (c.cells).toArray] (.string (txC L9 c)) rfl rfl (fun _ _ => by kernel_rfl) (rctx_n _ (hL9.mw M) (hTb.mw M)) rfl ?_
 intro u9 hq
 replace Q1 := Q1.mo hq
 replace Q2 := Q2.mo hq
 replace Q3 := Q3.mo hq
 replace M := M.trans hq
 clear hq
 refine wl_b .eql 9 (.tmp 84) (.tmp 87) (.string (txC L9 c)) (.string (txC L9 c)) (.bool true) (s9 (decide_eq_true rfl) _ _ _) ?_
 refine wl_pick (.tmp 81) (.tmp 88) (.const (.bool false)) true (.bool true) (fun _ => rfl) rfl rfl rfl ?_
 refine wl_m (.tmp 89) (.bool true) ?_
 refine w_nil (xn_then (w_ret ?_))
 exact w_ret1 _ _ rfl rfl ⟨rfl, M⟩
end Go.Proofs.YtnffhcjmpjajlaaDoor.V
namespace Go.Proofs.YtnffhcjmpjajlaaDoor
open Go.ChangeShapes Go.WideShapes Go.ChangeAt Go.RowKit Go.ChangeMaps D
set_option maxRecDepth 100000
theorem Tryd.cl2 : Tryd.prog.cellsOf 2 = 1 := by kernel_rfl
theorem Tryd.cl3 : Tryd.prog.cellsOf 3 = 1 := by kernel_rfl
theorem Tryd.cl23 : Tryd.prog.cellsOf 23 = 3 := by kernel_rfl
theorem Tryd.cl25 : Tryd.prog.cellsOf 25 = 4 := by kernel_rfl
theorem Tryd.cl27 : Tryd.prog.cellsOf 27 = 5 := by kernel_rfl
section
variable {H : Type} {enc : TypeId × Value → H} {W : World} {sp : Nat → Bool} {fuel : Nat} {cs : List Value} {x : DataW H × List MemPlace}
theorem cut_ids (h : DataW.trod enc Tryd.prog W 0 sp true fuel 23 cs = some x) : ∃ a b c : Int, cs = [.int .i64 a, .int .i64 b, .int .i64 c] := by
 obtain ⟨xs, m, rfl, rfl, hlen, hn, hi⟩ := DataW.trod_array Tryd.underlying23 h
 rw [Tryd.cl23] at hlen
 obtain ⟨c0, c1, c2, rfl⟩ : ∃ c0 c1 c2, cs = [c0, c1, c2] := by
  match cs, hlen with
  | [a, b, c], _ => exact ⟨a, b, c, rfl⟩
 obtain ⟨y0, y1, y2, rfl⟩ : ∃ y0 y1 y2, xs = [y0, y1, y2] := by
  match xs, hn with
  | [a, b, c], _ => exact ⟨a, b, c, rfl⟩
 have i0 := hi 0 (by decide)
 have i1 := hi 1 (by decide)
 have i2 := hi 2 (by decide)
 simp only [Tryd.cl2] at i0 i1 i2
 simp at i0 i1 i2
 obtain ⟨x0, e0, rfl, _⟩ := DataW.trod_int Tryd.underlying2 i0
 obtain ⟨x1, e1, rfl, _⟩ := DataW.trod_int Tryd.underlying2 i1
 obtain ⟨x2, e2, rfl, _⟩ := DataW.trod_int Tryd.underlying2 i2
 simp at e0 e1 e2
 subst e0 e1 e2
 exact ⟨x0, x1, x2, rfl⟩
theorem cut_row (h : DataW.trod enc Tryd.prog W 0 sp true fuel 25 cs = some x) : ∃ r : Ro, cs = r.cells := by
 obtain ⟨xs, n, rfl, rfl, hl, hlen, hi⟩ := DataW.trod_struct Tryd.underlying25 h
 rw [Tryd.cl25] at hl
 obtain ⟨c0, c1, c2, c3, rfl⟩ : ∃ c0 c1 c2 c3, cs = [c0, c1, c2, c3] := by
  match cs, hl with
  | [a0, a1, a2, a3], _ => exact ⟨a0, a1, a2, a3, rfl⟩
 obtain ⟨y0, y1, rfl⟩ : ∃ y0 y1, xs = [y0, y1] := by
  match xs, hlen with
  | [a0, a1], _ => exact ⟨a0, a1, rfl⟩
 have i0 := hi 0 _ rfl
 have i1 := hi 1 _ rfl
 simp [Tryd.cl3, Tryd.cl23] at i0 i1
 obtain ⟨k, e0, rfl, _⟩ := DataW.trod_int Tryd.underlying3 i0
 obtain ⟨a, b, c, e1⟩ := cut_ids i1
 simp at e0 e1
 obtain ⟨e10, e11, e12⟩ := e1
 subst e0 e10 e11 e12
 exact ⟨⟨k, a, b, c⟩, rfl⟩
theorem cut_cell (h : DataW.trod enc Tryd.prog W 0 sp true fuel 27 cs = some x) : ∃ r : Ce, cs = r.cells := by
 obtain ⟨xs, n, rfl, rfl, hl, hlen, hi⟩ := DataW.trod_struct Tryd.underlying27 h
 rw [Tryd.cl27] at hl
 obtain ⟨c0, c1, c2, c3, c4, rfl⟩ : ∃ c0 c1 c2 c3 c4, cs = [c0, c1, c2, c3, c4] := by
  match cs, hl with
  | [a0, a1, a2, a3, a4], _ => exact ⟨a0, a1, a2, a3, a4, rfl⟩
 obtain ⟨y0, y1, rfl⟩ : ∃ y0 y1, xs = [y0, y1] := by
  match xs, hlen with
  | [a0, a1], _ => exact ⟨a0, a1, rfl⟩
 have i0 := hi 0 _ rfl
 have i1 := hi 1 _ rfl
 simp [Tryd.cl3, Tryd.cl25] at i0 i1
 obtain ⟨r, e0⟩ := cut_row i0
 obtain ⟨k, e1, rfl, _⟩ := DataW.trod_int Tryd.underlying3 i1
 simp [Ro.cells] at e0 e1
 obtain ⟨f0, f1, f2, f3⟩ := e0
 subst f0 f1 f2 f3 e1
 exact ⟨⟨r, k⟩, rfl⟩
end
section
variable {H : Type} {enc : TypeId × Value → H} {W : World} {base : Nat} {v : Value} {d : DataW H} {p : List MemPlace}
theorem open_cell (hv : Value.okWide Tryd.prog W .any base 27 v) (h : DataW.Trod enc Tryd.prog W 0 (fun _ => true) true 27 v d p) : ∃ x : Ce, v = x.v := by
 obtain ⟨a, rfl, _⟩ := okWide_struct Tryd.underlying27 hv
 obtain ⟨fuel, hf⟩ := h
 obtain ⟨x, e⟩ := cut_cell hf
 exact ⟨x, by have e2 : a = x.cells.toArray := (by rw [← e]; simp [Value.cells]); rw [e2]⟩
end
namespace D
end D
end Go.Proofs.YtnffhcjmpjajlaaDoor
