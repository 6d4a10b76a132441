/-
  A part of the proof.
-/
import Derived.Test.YtogomodbcjpfiaaGreatDoorKa14
import Derived.Test.YtogomodbcjpfiaaGreatDoorKb3
import Derived.Test.YtogomodbcjpfiaaGreatDoorKa11
import Derived.Test.YtogomodbcjpfiaaGreatDoorKa9
import Derived.Test.YtogomodbcjpfiaaGreatDoorKa4
import Derived.Test.YtogomodbcjpfiaaGreatDoorKb1
import Derived.Test.YtogomodbcjpfiaaGreatDoorKa3
import Derived.Test.YtogomodbcjpfiaaGreatDoorKa2
import Derived.Test.YtogomodbcjpfiaaGreatDoorKa1
import Derived.RegionTactic
import Derived.Test.YtogomodbcjpfiaaGreatDoorProg
import Derived.WalkKit
import Derived.WalkSpells
import Derived.Handy
import Derived.BigQuiet
import Derived.Deep.RegionHeld3
import Derived.Deep.MidRow
import Derived.BigCall
import Derived.Test.YtogomodbcjpfiaaGreatDoorKa8
import Derived.Test.YtogomodbcjpfiaaGreatDoorKb2
import Derived.Test.YtogomodbcjpfiaaGreatDoorKa5
import Derived.Shelf.Small.Bits
import Derived.Shelf.Strconv.Itoa0
import Derived.Shelf.Bits.Mul64
import Derived.Deep.CutBlock
import Derived.Deep.CutRange
import Derived.Test.YtogomodbcjpfiaaGreatDoorKa7
import Derived.Test.YtogomodbcjpfiaaGreatDoorKa6
import Derived.ChangeKeysEq
import Derived.ScopeJumps
import Derived.WalkMore
import Derived.Laws.StructEq
import Derived.Test.YtogomodbcjpfiaaGreatDoorKa10
import Derived.Test.YtogomodbcjpfiaaGreatDoorKa13
import Derived.Test.YtogomodbcjpfiaaGreatDoorKa12
namespace Go.Proofs.YtogomodbcjpfiaaGreatDoor
open Go.RowKit
abbrev dwl (X : Int) : List Value := [.int .u64 (l0 (X / MM)), .int .u64 (l1 (X / MM)), .int .u64 (l2 (X / MM)), .int .u64 (l3 (X / MM)), .int .u64 (l0 X), .int .u64 (l1 X), .int .u64 (l2 X), .int .u64 (l3 X)]
abbrev dwr (X : Int) : Array Value := #[.int .u64 (l0 (X / MM)), .int .u64 (l1 (X / MM)), .int .u64 (l2 (X / MM)), .int .u64 (l3 (X / MM)), .int .u64 (l0 X), .int .u64 (l1 X), .int .u64 (l2 X), .int .u64 (l3 X)]
theorem hi0 {X : Int} (h0 : 0 ≤ X) (h : X < MM) : (l0 (X / MM) == 0 && (l1 (X / MM) == 0 && (l2 (X / MM) == 0 && l3 (X / MM) == 0))) = true := by
 rw [Int.ediv_eq_zero_of_lt h0 h]; rfl
theorem hi1 {X : Int} (h : MM ≤ X) (h2 : X < MM * MM) : (l0 (X / MM) == 0 && (l1 (X / MM) == 0 && (l2 (X / MM) == 0 && l3 (X / MM) == 0))) = false := by
 have p : (0 : Int) < MM := by decide
 have a : 1 ≤ X / MM := Int.le_ediv_of_mul_le p (by omega)
 rw [zb (by omega) (Int.ediv_lt_of_lt_mul p h2)]; exact decide_eq_false (by omega)
theorem not4_run (b : Bool) (w : World) : (Op.unary .not (.bool b)).run Tryz.prog w = .ok (.bool (!b)) w := by kernel_rfl
theorem sub3_run {a b c : Int} (h : a - b = c) (h0 : 0 ≤ c) (h1 : c ≤ 100) (x y : Operand) (w : World) : (do eqGuard .sub 3 x y (.int .i64 a) (.int .i64 b); binOp .sub 3 (.int .i64 a) (.int .i64 b)).run Tryz.prog w = .ok (.int .i64 c) w := by
 have e : (do eqGuard .sub 3 x y (.int .i64 a) (.int .i64 b); binOp .sub 3 (.int .i64 a) (.int .i64 b)).run Tryz.prog w = .ok (.int .i64 (IntKind.i64.wrap (a - b))) w := by kernel_rfl
 have hw : IntKind.i64.wrap (a - b) = c := by rw [IntKind.wrap_i64]; omega
 rw [e, hw]
theorem geqi_run {a b : Int} {r : Bool} (h : decide (a ≥ b) = r) (x y : Operand) (w : World) : (do eqGuard .geq 3 x y (.int .i64 a) (.int .i64 b); binOp .geq 3 (.int .i64 a) (.int .i64 b)).run Tryz.prog w = .ok (.bool r) w := by
 subst h; kernel_rfl
theorem zero_n (X : Int) (w : World) (hX0 : 0 ≤ X) (hX : X < MM) : Calls Tryz.prog 103 #[dw X] w fun e w' => e = .returned (.bool (decide (X = 0))) ∧ Mo w w' := by
 refine w_enter 13 Tryz.func103 Tryz.ntmps103 rfl rfl ?_
 have M : Mo w w := Mo.refl _
 refine w_seq (w_reg ?_)
 refine wl_box 74 (.tmp 0) (dw (X)) ((dwr (X))) rfl rfl (fun _ => by kernel_rfl) rfl ?_
 intro k1 w1 hk hz hq Q1
 have N_k1 : w.heap.size ≤ k1 := by have := M.size; omega
 replace M := M.trans hq
 clear hk hz hq
 refine wl_m (.const (.bool false)) (.bool false) ?_
 refine w_nil (xn_then (w_seq (w_reg ?_)))
 refine wl_f 74 0 (.tmp 1) (pt k1 0) (pt k1 0) ?_
 refine wl_l 24 (.tmp 3) (pt k1 0) (.agg #[.int .u64 (l0 (X / MM)), .int .u64 (l1 (X / MM)), .int .u64 (l2 (X / MM)), .int .u64 (l3 (X / MM))]) (run_row Q1 24 0 4 _ rfl Tryz.underlying24 rfl sz24) ?_
 refine wl_build 24 [] [] (.agg #[.int .u64 0, .int .u64 0, .int .u64 0, .int .u64 0]) rfl rfl (by kernel_rfl) rfl ?_
 refine wl_b .eql 24 (.tmp 4) (.tmp 5) (.agg #[.int .u64 (l0 (X / MM)), .int .u64 (l1 (X / MM)), .int .u64 (l2 (X / MM)), .int .u64 (l3 (X / MM))]) (.agg #[.int .u64 0, .int .u64 0, .int .u64 0, .int .u64 0]) (.bool true) (eqn_run (hi0 hX0 hX) _ _ _) ?_
 refine wl_m (.tmp 6) (.bool true) ?_
 refine wl_f 74 1 (.tmp 1) (pt k1 0) (pt k1 4) ?_
 refine wl_l 24 (.tmp 8) (pt k1 4) (.agg #[.int .u64 (l0 (X)), .int .u64 (l1 (X)), .int .u64 (l2 (X)), .int .u64 (l3 (X))]) (run_row Q1 24 4 4 _ rfl Tryz.underlying24 rfl sz24) ?_
 refine wl_build 24 [] [] (.agg #[.int .u64 0, .int .u64 0, .int .u64 0, .int .u64 0]) rfl rfl (by kernel_rfl) rfl ?_
 refine wl_b .eql 24 (.tmp 9) (.tmp 10) (.agg #[.int .u64 (l0 (X)), .int .u64 (l1 (X)), .int .u64 (l2 (X)), .int .u64 (l3 (X))]) (.agg #[.int .u64 0, .int .u64 0, .int .u64 0, .int .u64 0]) (.bool (decide (X = 0))) (eqn_run (zb hX0 hX) _ _ _) ?_
 refine wl_pick (.tmp 7) (.tmp 11) (.const (.bool false)) true (.bool (decide (X = 0))) (fun _ => rfl) rfl rfl rfl ?_
 refine wl_m (.tmp 12) (.bool (decide (X = 0))) ?_
 refine w_nil (xn_then (w_ret ?_))
 exact w_ret1 _ _ rfl rfl ⟨rfl, M⟩
theorem rat_no (b : Bool) (X s : Int) (w : World) (hXM : MM ≤ X) (hX2 : X < MM * MM) : Calls Tryz.prog 71 #[.bool b, dw X, .int .i64 s] w fun e w' => e = .returned (er 7) ∧ Mo w w' := by
 refine w_enter 23 Tryz.func71 Tryz.ntmps71 rfl rfl ?_
 have M : Mo w w := Mo.refl _
 refine w_seq (w_reg ?_)
 refine wl_box 74 (.tmp 1) (dw (X)) ((dwr (X))) rfl rfl (fun _ => by kernel_rfl) rfl ?_
 intro k1 w1 hk hz hq Q1
 have N_k1 : w.heap.size ≤ k1 := by have := M.size; omega
 replace M := M.trans hq
 clear hk hz hq
 refine wl_alloc 26 #[.bool false, .int .u64 0, .int .u64 0, .int .u64 0, .int .u64 0, .int .i64 0] rfl (fun _ => by kernel_rfl) rfl ?_
 intro k2 w2 hk hz hq Q2
 have ne_k1_k2 : k1 ≠ k2 := by have := Q1.lt; omega
 have N_k2 : w.heap.size ≤ k2 := by have := M.size; omega
 replace Q1 := Q1.mo hq
 replace M := M.trans hq
 clear hk hz hq
 refine wl_m (.const (.int .i64 (0))) (.int .i64 (0)) ?_
 refine w_nil (xn_then (w_seq (w_seq (w_reg ?_))))
 refine wl_f 74 0 (.tmp 4) (pt k1 0) (pt k1 0) ?_
 refine wl_l 24 (.tmp 8) (pt k1 0) (.agg #[.int .u64 (l0 (X / MM)), .int .u64 (l1 (X / MM)), .int .u64 (l2 (X / MM)), .int .u64 (l3 (X / MM))]) (run_row Q1 24 0 4 _ rfl Tryz.underlying24 rfl sz24) ?_
 refine wl_build 24 [] [] (.agg #[.int .u64 0, .int .u64 0, .int .u64 0, .int .u64 0]) rfl rfl (by kernel_rfl) rfl ?_
 refine wl_b .neq 24 (.tmp 9) (.tmp 10) (.agg #[.int .u64 (l0 (X / MM)), .int .u64 (l1 (X / MM)), .int .u64 (l2 (X / MM)), .int .u64 (l3 (X / MM))]) (.agg #[.int .u64 0, .int .u64 0, .int .u64 0, .int .u64 0]) (.bool true) (nen_run (r := false) (hi1 hXM hX2) _ _ _) ?_
 refine w_nil (xn_then (w_condT rfl (w_seq (w_reg ?_))))
 refine wl_build 26 [] [] (.agg #[.bool false, .int .u64 0, .int .u64 0, .int .u64 0, .int .u64 0, .int .i64 0]) rfl rfl (by kernel_rfl) rfl ?_
 refine wl_st 26 (.tmp 6) (.tmp 12) k2 0 #[.bool false, .int .u64 0, .int .u64 0, .int .u64 0, .int .u64 0, .int .i64 0] _ [.bool false, .int .u64 0, .int .u64 0, .int .u64 0, .int .u64 0, .int .i64 0] Q2 rfl rfl rfl rfl rfl sz40 rfl rfl rfl ?_
 intro w3 hS Qn
 replace Q2 := Qn
 clear Qn
 replace Q1 := hS.other _ _ ne_k1_k2 Q1
 replace M := hS.mo _ N_k2 M
 clear hS
 refine wl_m (.const (.int .i64 (7))) (.int .i64 (7)) ?_
 refine w_nil (xn_then (w_ret (xr_then ?_)))
 exact w_ret2 _ _ (.agg #[.bool false, .int .u64 0, .int .u64 0, .int .u64 0, .int .u64 0, .int .i64 0]) (.int .i64 (7)) rfl ⟨k2, rfl, (run_row Q2 26 0 6 _ rfl Tryz.underlying26 rfl sz40)⟩ rfl ⟨rfl, M⟩
theorem rat_t (X s : Int) (w : World) (hX0 : 0 ≤ X) (hX : X < MM) : Calls Tryz.prog 71 #[.bool true, dw X, .int .i64 s] w fun e w' => e = .returned (.tuple #[dc (!decide (X = 0)) X s, .int .i64 0]) ∧ Mo w w' := by
 refine w_enter 23 Tryz.func71 Tryz.ntmps71 rfl rfl ?_
 have M : Mo w w := Mo.refl _
 refine w_seq (w_reg ?_)
 refine wl_box 74 (.tmp 1) (dw (X)) ((dwr (X))) rfl rfl (fun _ => by kernel_rfl) rfl ?_
 intro k1 w1 hk hz hq Q1
 have N_k1 : w.heap.size ≤ k1 := by have := M.size; omega
 replace M := M.trans hq
 clear hk hz hq
 refine wl_alloc 26 #[.bool false, .int .u64 0, .int .u64 0, .int .u64 0, .int .u64 0, .int .i64 0] rfl (fun _ => by kernel_rfl) rfl ?_
 intro k2 w2 hk hz hq Q2
 have ne_k1_k2 : k1 ≠ k2 := by have := Q1.lt; omega
 have N_k2 : w.heap.size ≤ k2 := by have := M.size; omega
 replace Q1 := Q1.mo hq
 replace M := M.trans hq
 clear hk hz hq
 refine wl_m (.const (.int .i64 (0))) (.int .i64 (0)) ?_
 refine w_nil (xn_then (w_seq (w_seq (w_reg ?_))))
 refine wl_f 74 0 (.tmp 4) (pt k1 0) (pt k1 0) ?_
 refine wl_l 24 (.tmp 8) (pt k1 0) (.agg #[.int .u64 (l0 (X / MM)), .int .u64 (l1 (X / MM)), .int .u64 (l2 (X / MM)), .int .u64 (l3 (X / MM))]) (run_row Q1 24 0 4 _ rfl Tryz.underlying24 rfl sz24) ?_
 refine wl_build 24 [] [] (.agg #[.int .u64 0, .int .u64 0, .int .u64 0, .int .u64 0]) rfl rfl (by kernel_rfl) rfl ?_
 refine wl_b .neq 24 (.tmp 9) (.tmp 10) (.agg #[.int .u64 (l0 (X / MM)), .int .u64 (l1 (X / MM)), .int .u64 (l2 (X / MM)), .int .u64 (l3 (X / MM))]) (.agg #[.int .u64 0, .int .u64 0, .int .u64 0, .int .u64 0]) (.bool false) (nen_run (r := true) (hi0 hX0 hX) _ _ _) ?_
 refine w_nil (xn_then (w_condF rfl (w_skip (xn_then (w_seq ?_)))))
 refine w_any 10 [.inl (.bool true), .inl (.bool true), .inl (dw (X)), .inl (.bool (decide (X = 0))), .inl (.bool (!(decide (X = 0)))), .inl (.bool (!(decide (X = 0)))), .inl (pt k1 4), .inl (.agg #[.int .u64 (l0 (X)), .int .u64 (l1 (X)), .int .u64 (l2 (X)), .int .u64 (l3 (X))]), .inl (.int .i64 (s)), .inl (.agg #[.bool (!(decide (X = 0))), .int .u64 (l0 (X)), .int .u64 (l1 (X)), .int .u64 (l2 (X)), .int .u64 (l3 (X)), .int .i64 (s)])] [] (by kernel_rfl) (by kernel_rfl) (by kernel_rfl) (by kernel_rfl) rfl (by kernel_rfl) (by kernel_rfl) late_nil ?_ ?_ ?_
 ·exact Ds.none rfl
 ·refine ea_cons ?_ (ea_cons ?_ (ea_cons ?_ (ea_cons ?_ (ea_cons ?_ (ea_cons ?_ (ea_cons ?_ (ea_cons ?_ (ea_cons ?_ (ea_cons ?_ (ea_nil))))))))))
  ·exact og_eq _ rfl (fun f wf hq hd K hK => go_run rfl (wo_mv (.tmp 0) (.bool true) (fun _ => rfl) rfl (hK _ (Mo.refl _))))
  ·exact og_eq _ rfl (fun f wf hq hd K hK => go_run rfl (wo_mv (.tmp 13) (.bool true) (fun _ => rfl) (hd 0 rfl) (hK _ (Mo.refl _))))
  ·exact og_eq _ rfl (fun f wf hq hd K hK => have Q1 := Q1.mo hq; go_run (wnt_g rfl rfl rfl (hd 1 rfl) rfl) (wo_load 74 (.tmp 4) (pt k1 0) (dw (X)) rfl rfl (run_row Q1 74 0 8 (dwl (X)) rfl Tryz.underlying74 rfl sz87) (hK _ (Mo.refl _))))
  ·exact og_eq _ rfl (fun f wf hq hd K hK => go_run (wnt_g rfl rfl rfl (hd 1 rfl) rfl) (wo_call 103 [(.tmp 15)] _ [dw (X)] (.bool (decide (X = 0))) rfl (li1 (hd 2 rfl)) (fun _ _ => by kernel_rfl) (zero_n X _ hX0 hX) hK))
  ·exact og_eq _ rfl (fun f wf hq hd K hK => go_run (wnt_g rfl rfl rfl (hd 1 rfl) rfl) (wo_un (fun v => Op.unary .not v) (.tmp 16) (.bool (decide (X = 0))) (.bool (!(decide (X = 0)))) (fun _ => rfl) (hd 3 rfl) (not4_run _ _) (hK _ (Mo.refl _))))
  ·exact og_eq _ rfl (fun f wf hq hd K hK => go_run rfl (wo_pick (.tmp 14) (.tmp 17) (.const (.bool false)) true (.bool (!(decide (X = 0)))) (fun _ => rfl) (hd 1 rfl) (hd 4 rfl) (hK _ (Mo.refl _))))
  ·exact og_eq _ rfl (fun f wf hq hd K hK => go_run rfl (wo_un (fun v => Instr.fieldAt 74 v 1) (.tmp 4) (pt k1 0) (pt k1 4) (fun _ => rfl) rfl (by kernel_rfl) (hK _ (Mo.refl _))))
  ·exact og_eq _ rfl (fun f wf hq hd K hK => have Q1 := Q1.mo hq; go_run rfl (wo_load 24 (.tmp 19) (pt k1 4) (.agg #[.int .u64 (l0 (X)), .int .u64 (l1 (X)), .int .u64 (l2 (X)), .int .u64 (l3 (X))]) rfl (hd 6 rfl) (run_row Q1 24 4 4 _ rfl Tryz.underlying24 rfl sz24) (hK _ (Mo.refl _))))
  ·exact og_eq _ rfl (fun f wf hq hd K hK => go_run rfl (wo_mv (.tmp 2) (.int .i64 (s)) (fun _ => rfl) rfl (hK _ (Mo.refl _))))
  ·exact og_eq _ rfl (fun f wf hq hd K hK => go_run rfl (wo_build 26 [(0, (.tmp 18)), (1, (.tmp 20)), (2, (.tmp 21))] [(0, .bool (!(decide (X = 0)))), (1, .agg #[.int .u64 (l0 (X)), .int .u64 (l1 (X)), .int .u64 (l2 (X)), .int .u64 (l3 (X))]), (2, .int .i64 (s))] (.agg #[.bool (!(decide (X = 0))), .int .u64 (l0 (X)), .int .u64 (l1 (X)), .int .u64 (l2 (X)), .int .u64 (l3 (X)), .int .i64 (s)]) rfl (lp3 (hd 5 rfl) (hd 7 rfl) (hd 8 rfl)) (by kernel_rfl) (hK _ (Mo.refl _))))
 intro kf3 w3 hq hR hne
 replace Q1 := Q1.mo hq
 replace Q2 := Q2.mo hq
 replace M := M.trans hq
 clear hq hR hne
 refine wl_st 26 (.tmp 6) (.tmp 22) k2 0 #[.bool (!(decide (X = 0))), .int .u64 (l0 (X)), .int .u64 (l1 (X)), .int .u64 (l2 (X)), .int .u64 (l3 (X)), .int .i64 (s)] _ [.bool (!(decide (X = 0))), .int .u64 (l0 (X)), .int .u64 (l1 (X)), .int .u64 (l2 (X)), .int .u64 (l3 (X)), .int .i64 (s)] Q2 rfl rfl rfl rfl rfl sz40 rfl rfl rfl ?_
 intro w4 hS Qn
 replace Q2 := Qn
 clear Qn
 replace Q1 := hS.other _ _ ne_k1_k2 Q1
 replace M := hS.mo _ N_k2 M
 clear hS
 refine wl_m (.const (.int .i64 (0))) (.int .i64 (0)) ?_
 refine w_nil (xn_then (w_ret ?_))
 exact w_ret2 _ _ (.agg #[.bool (!(decide (X = 0))), .int .u64 (l0 (X)), .int .u64 (l1 (X)), .int .u64 (l2 (X)), .int .u64 (l3 (X)), .int .i64 (s)]) (.int .i64 (0)) rfl ⟨k2, rfl, (run_row Q2 26 0 6 _ rfl Tryz.underlying26 rfl sz40)⟩ rfl ⟨rfl, M⟩
theorem rat_f (X s : Int) (w : World) (hX0 : 0 ≤ X) (hX : X < MM) : Calls Tryz.prog 71 #[.bool false, dw X, .int .i64 s] w fun e w' => e = .returned (.tuple #[dc (false) X s, .int .i64 0]) ∧ Mo w w' := by
 refine w_enter 23 Tryz.func71 Tryz.ntmps71 rfl rfl ?_
 have M : Mo w w := Mo.refl _
 refine w_seq (w_reg ?_)
 refine wl_box 74 (.tmp 1) (dw (X)) ((dwr (X))) rfl rfl (fun _ => by kernel_rfl) rfl ?_
 intro k1 w1 hk hz hq Q1
 have N_k1 : w.heap.size ≤ k1 := by have := M.size; omega
 replace M := M.trans hq
 clear hk hz hq
 refine wl_alloc 26 #[.bool false, .int .u64 0, .int .u64 0, .int .u64 0, .int .u64 0, .int .i64 0] rfl (fun _ => by kernel_rfl) rfl ?_
 intro k2 w2 hk hz hq Q2
 have ne_k1_k2 : k1 ≠ k2 := by have := Q1.lt; omega
 have N_k2 : w.heap.size ≤ k2 := by have := M.size; omega
 replace Q1 := Q1.mo hq
 replace M := M.trans hq
 clear hk hz hq
 refine wl_m (.const (.int .i64 (0))) (.int .i64 (0)) ?_
 refine w_nil (xn_then (w_seq (w_seq (w_reg ?_))))
 refine wl_f 74 0 (.tmp 4) (pt k1 0) (pt k1 0) ?_
 refine wl_l 24 (.tmp 8) (pt k1 0) (.agg #[.int .u64 (l0 (X / MM)), .int .u64 (l1 (X / MM)), .int .u64 (l2 (X / MM)), .int .u64 (l3 (X / MM))]) (run_row Q1 24 0 4 _ rfl Tryz.underlying24 rfl sz24) ?_
 refine wl_build 24 [] [] (.agg #[.int .u64 0, .int .u64 0, .int .u64 0, .int .u64 0]) rfl rfl (by kernel_rfl) rfl ?_
 refine wl_b .neq 24 (.tmp 9) (.tmp 10) (.agg #[.int .u64 (l0 (X / MM)), .int .u64 (l1 (X / MM)), .int .u64 (l2 (X / MM)), .int .u64 (l3 (X / MM))]) (.agg #[.int .u64 0, .int .u64 0, .int .u64 0, .int .u64 0]) (.bool false) (nen_run (r := true) (hi0 hX0 hX) _ _ _) ?_
 refine w_nil (xn_then (w_condF rfl (w_skip (xn_then (w_seq ?_)))))
 refine w_any 10 [.inl (.bool false), .inl (.bool false), .inl undef, .inl undef, .inl undef, .inl (.bool false), .inl (pt k1 4), .inl (.agg #[.int .u64 (l0 (X)), .int .u64 (l1 (X)), .int .u64 (l2 (X)), .int .u64 (l3 (X))]), .inl (.int .i64 (s)), .inl (.agg #[.bool false, .int .u64 (l0 (X)), .int .u64 (l1 (X)), .int .u64 (l2 (X)), .int .u64 (l3 (X)), .int .i64 (s)])] [] (by kernel_rfl) (by kernel_rfl) (by kernel_rfl) (by kernel_rfl) rfl (by kernel_rfl) (by kernel_rfl) late_nil ?_ ?_ ?_
 ·exact Ds.none rfl
 ·refine ea_cons ?_ (ea_cons ?_ (ea_cons ?_ (ea_cons ?_ (ea_cons ?_ (ea_cons ?_ (ea_cons ?_ (ea_cons ?_ (ea_cons ?_ (ea_cons ?_ (ea_nil))))))))))
  ·exact og_eq _ rfl (fun f wf hq hd K hK => go_run rfl (wo_mv (.tmp 0) (.bool false) (fun _ => rfl) rfl (hK _ (Mo.refl _))))
  ·exact og_eq _ rfl (fun f wf hq hd K hK => go_run rfl (wo_mv (.tmp 13) (.bool false) (fun _ => rfl) (hd 0 rfl) (hK _ (Mo.refl _))))
  ·exact og_eq _ rfl (fun f wf hq hd K hK => go_pass (wnt_g rfl rfl rfl (hd 1 rfl) rfl) (hK _ (Mo.refl _)))
  ·exact og_eq _ rfl (fun f wf hq hd K hK => go_pass (wnt_g rfl rfl rfl (hd 1 rfl) rfl) (hK _ (Mo.refl _)))
  ·exact og_eq _ rfl (fun f wf hq hd K hK => go_pass (wnt_g rfl rfl rfl (hd 1 rfl) rfl) (hK _ (Mo.refl _)))
  ·exact og_eq _ rfl (fun f wf hq hd K hK => go_run rfl (wo_pick (.tmp 14) (.tmp 17) (.const (.bool false)) false (.bool false) (fun _ => rfl) (hd 1 rfl) rfl (hK _ (Mo.refl _))))
  ·exact og_eq _ rfl (fun f wf hq hd K hK => go_run rfl (wo_un (fun v => Instr.fieldAt 74 v 1) (.tmp 4) (pt k1 0) (pt k1 4) (fun _ => rfl) rfl (by kernel_rfl) (hK _ (Mo.refl _))))
  ·exact og_eq _ rfl (fun f wf hq hd K hK => have Q1 := Q1.mo hq; go_run rfl (wo_load 24 (.tmp 19) (pt k1 4) (.agg #[.int .u64 (l0 (X)), .int .u64 (l1 (X)), .int .u64 (l2 (X)), .int .u64 (l3 (X))]) rfl (hd 6 rfl) (run_row Q1 24 4 4 _ rfl Tryz.underlying24 rfl sz24) (hK _ (Mo.refl _))))
  ·exact og_eq _ rfl (fun f wf hq hd K hK => go_run rfl (wo_mv (.tmp 2) (.int .i64 (s)) (fun _ => rfl) rfl (hK _ (Mo.refl _))))
  ·exact og_eq _ rfl (fun f wf hq hd K hK => go_run rfl (wo_build 26 [(0, (.tmp 18)), (1, (.tmp 20)), (2, (.tmp 21))] [(0, .bool false), (1, .agg #[.int .u64 (l0 (X)), .int .u64 (l1 (X)), .int .u64 (l2 (X)), .int .u64 (l3 (X))]), (2, .int .i64 (s))] (.agg #[.bool false, .int .u64 (l0 (X)), .int .u64 (l1 (X)), .int .u64 (l2 (X)), .int .u64 (l3 (X)), .int .i64 (s)]) rfl (lp3 (hd 5 rfl) (hd 7 rfl) (hd 8 rfl)) (by kernel_rfl) (hK _ (Mo.refl _))))
 intro kf3 w3 hq hR hne
 replace Q1 := Q1.mo hq
 replace Q2 := Q2.mo hq
 replace M := M.trans hq
 clear hq hR hne
 refine wl_st 26 (.tmp 6) (.tmp 22) k2 0 #[.bool false, .int .u64 (l0 (X)), .int .u64 (l1 (X)), .int .u64 (l2 (X)), .int .u64 (l3 (X)), .int .i64 (s)] _ [.bool false, .int .u64 (l0 (X)), .int .u64 (l1 (X)), .int .u64 (l2 (X)), .int .u64 (l3 (X)), .int .i64 (s)] Q2 rfl rfl rfl rfl rfl sz40 rfl rfl rfl ?_
 intro w4 hS Qn
 replace Q2 := Qn
 clear Qn
 replace Q1 := hS.other _ _ ne_k1_k2 Q1
 replace M := hS.mo _ N_k2 M
 clear hS
 refine wl_m (.const (.int .i64 (0))) (.int .i64 (0)) ?_
 refine w_nil (xn_then (w_ret ?_))
 exact w_ret2 _ _ (.agg #[.bool false, .int .u64 (l0 (X)), .int .u64 (l1 (X)), .int .u64 (l2 (X)), .int .u64 (l3 (X)), .int .i64 (s)]) (.int .i64 (0)) rfl ⟨k2, rfl, (run_row Q2 26 0 6 _ rfl Tryz.underlying26 rfl sz40)⟩ rfl ⟨rfl, M⟩
theorem rat_yes (b : Bool) (X s : Int) (w : World) (hX0 : 0 ≤ X) (hX : X < MM) : Calls Tryz.prog 71 #[.bool b, dw X, .int .i64 s] w fun e w' => e = .returned (.tuple #[dc (b && !decide (X = 0)) X s, .int .i64 0]) ∧ Mo w w' := by
 cases b
 ·exact rat_f X s w hX0 hX
 ·exact rat_t X s w hX0 hX
end Go.Proofs.YtogomodbcjpfiaaGreatDoor

