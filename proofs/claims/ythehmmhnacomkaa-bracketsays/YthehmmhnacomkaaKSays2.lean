/-
  A part of the proof.
-/
import Derived.Test.YthehmmhnacomkaaKa16
import Derived.Test.YthehmmhnacomkaaKa15
import Derived.Test.YthehmmhnacomkaaKSays1
import Derived.Test.YthehmmhnacomkaaKa14
import Derived.Test.YthehmmhnacomkaaKa11
import Derived.Test.YthehmmhnacomkaaKa10
import Derived.Test.YthehmmhnacomkaaKa3
import Derived.Test.YthehmmhnacomkaaKa2
import Derived.Test.YthehmmhnacomkaaKa1
import Derived.RegionTactic
import Derived.Test.YthehmmhnacomkaaProg
import Derived.WalkKit
import Derived.WalkSpells
import Derived.Handy
import Derived.BigQuiet
import Derived.Deep.RegionHeld3
import Derived.Deep.MidRow
import Derived.BigCall
import Derived.Test.YthehmmhnacomkaaKa9
import Derived.Test.YthehmmhnacomkaaKa8
import Derived.Test.YthehmmhnacomkaaKa5
import Derived.Test.YthehmmhnacomkaaKa4
import Derived.Shelf.Small.Bits
import Derived.Shelf.Strconv.Itoa0
import Derived.Shelf.Bits.Mul64
import Derived.Deep.CutBlock
import Derived.Deep.CutRange
import Derived.Test.YthehmmhnacomkaaKa7
import Derived.Test.YthehmmhnacomkaaKa6
import Derived.ChangeKeysEq
import Derived.ScopeJumps
import Derived.WalkMore
import Derived.Laws.StructEq
import Derived.Test.YthehmmhnacomkaaKa13
import Derived.Test.YthehmmhnacomkaaKa12
namespace Go.Proofs.Ythehmmhnacomkaa
open Go.RowKit
theorem hi0 {X : Int} (h0 : 0 ≤ X) (h : X < MM) : (l0 (X / MM) == 0 && (l1 (X / MM) == 0 && (l2 (X / MM) == 0 && l3 (X / MM) == 0))) = true := by
 rw [Int.ediv_eq_zero_of_lt h0 h]; rfl
theorem hi1 {X : Int} (h : MM ≤ X) (h2 : X < MM * MM) : (l0 (X / MM) == 0 && (l1 (X / MM) == 0 && (l2 (X / MM) == 0 && l3 (X / MM) == 0))) = false := by
 have p : (0 : Int) < MM := by decide
 have a : 1 ≤ X / MM := Int.le_ediv_of_mul_le p (by omega)
 rw [zb (by omega) (Int.ediv_lt_of_lt_mul p h2)]; exact decide_eq_false (by omega)
theorem not4_run (b : Bool) (w : World) : (Op.unary .not (.bool b)).run Try.prog w = .ok (.bool (!b)) w := by kernel_rfl
theorem add3_run {a b c : Int} (h : a + b = c) (h0 : 0 ≤ c) (h1 : c ≤ 100) (x y : Operand) (w : World) : (do eqGuard .add 3 x y (.int .i64 a) (.int .i64 b); binOp .add 3 (.int .i64 a) (.int .i64 b)).run Try.prog w = .ok (.int .i64 c) w := by
 have e : (do eqGuard .add 3 x y (.int .i64 a) (.int .i64 b); binOp .add 3 (.int .i64 a) (.int .i64 b)).run Try.prog w = .ok (.int .i64 (IntKind.i64.wrap (a + b))) w := by kernel_rfl
 have hw : IntKind.i64.wrap (a + b) = c := by rw [IntKind.wrap_i64]; omega
 rw [e, hw]
theorem geqi_run {a b : Int} {r : Bool} (h : decide (a ≥ b) = r) (x y : Operand) (w : World) : (do eqGuard .geq 3 x y (.int .i64 a) (.int .i64 b); binOp .geq 3 (.int .i64 a) (.int .i64 b)).run Try.prog w = .ok (.bool r) w := by
 subst h; kernel_rfl
theorem neb_run {a b r : Bool} (h : (a != b) = r) (x y : Operand) (w : World) : (do eqGuard .neq 4 x y (.bool a) (.bool b); binOp .neq 4 (.bool a) (.bool b)).run Try.prog w = .ok (.bool r) w := by
 subst h; cases a <;> cases b <;> kernel_rfl
theorem zero_n (X : Int) (w : World) (hX0 : 0 ≤ X) (hX : X < MM) : Calls Try.prog 92 #[dw X] w fun e w' => e = .returned (.bool (decide (X = 0))) ∧ Mo w w' := by
 refine w_enter 13 Try.func92 Try.ntmps92 rfl rfl ?_
 have M : Mo w w := Mo.refl _
 refine w_seq (w_reg ?_)
 refine wl_box 65 (.tmp 0) (dw (X)) ((dwr (X))) rfl rfl (fun _ => by kernel_rfl) rfl ?_
 intro k1 w1 hk hz hq Q1
 have N_k1 : w.heap.size ≤ k1 := by have := M.size; omega
 replace M := M.trans hq
 clear hk hz hq
 refine wl_m (.const (.bool false)) (.bool false) ?_
 refine w_nil (xn_then (w_seq (w_reg ?_)))
 refine wl_f 65 0 (.tmp 1) (pt k1 0) (pt k1 0) ?_
 refine wl_l 31 (.tmp 3) (pt k1 0) (.agg #[.int .u64 (l0 (X / MM)), .int .u64 (l1 (X / MM)), .int .u64 (l2 (X / MM)), .int .u64 (l3 (X / MM))]) (run_row Q1 31 0 4 _ rfl Try.underlying31 rfl sz24) ?_
 refine wl_build 31 [] [] (.agg #[.int .u64 0, .int .u64 0, .int .u64 0, .int .u64 0]) rfl rfl (by kernel_rfl) rfl ?_
 refine wl_b .eql 31 (.tmp 4) (.tmp 5) (.agg #[.int .u64 (l0 (X / MM)), .int .u64 (l1 (X / MM)), .int .u64 (l2 (X / MM)), .int .u64 (l3 (X / MM))]) (.agg #[.int .u64 0, .int .u64 0, .int .u64 0, .int .u64 0]) (.bool true) (eqn_run (hi0 hX0 hX) _ _ _) ?_
 refine wl_m (.tmp 6) (.bool true) ?_
 refine wl_f 65 1 (.tmp 1) (pt k1 0) (pt k1 4) ?_
 refine wl_l 31 (.tmp 8) (pt k1 4) (.agg #[.int .u64 (l0 (X)), .int .u64 (l1 (X)), .int .u64 (l2 (X)), .int .u64 (l3 (X))]) (run_row Q1 31 4 4 _ rfl Try.underlying31 rfl sz24) ?_
 refine wl_build 31 [] [] (.agg #[.int .u64 0, .int .u64 0, .int .u64 0, .int .u64 0]) rfl rfl (by kernel_rfl) rfl ?_
 refine wl_b .eql 31 (.tmp 9) (.tmp 10) (.agg #[.int .u64 (l0 (X)), .int .u64 (l1 (X)), .int .u64 (l2 (X)), .int .u64 (l3 (X))]) (.agg #[.int .u64 0, .int .u64 0, .int .u64 0, .int .u64 0]) (.bool (decide (X = 0))) (eqn_run (zb hX0 hX) _ _ _) ?_
 refine wl_pick (.tmp 7) (.tmp 11) (.const (.bool false)) true (.bool (decide (X = 0))) (fun _ => rfl) rfl rfl rfl ?_
 refine wl_m (.tmp 12) (.bool (decide (X = 0))) ?_
 refine w_nil (xn_then (w_ret ?_))
 exact w_ret1 _ _ rfl rfl ⟨rfl, M⟩
theorem rat_no (b : Bool) (X s : Int) (w : World) (hXM : MM ≤ X) (hX2 : X < MM * MM) : Calls Try.prog 78 #[.bool b, dw X, .int .i64 s] w fun e w' => e = .returned (er 7) ∧ Mo w w' := by
 refine w_enter 23 Try.func78 Try.ntmps78 rfl rfl ?_
 have M : Mo w w := Mo.refl _
 refine w_seq (w_reg ?_)
 refine wl_box 65 (.tmp 1) (dw (X)) ((dwr (X))) rfl rfl (fun _ => by kernel_rfl) rfl ?_
 intro k1 w1 hk hz hq Q1
 have N_k1 : w.heap.size ≤ k1 := by have := M.size; omega
 replace M := M.trans hq
 clear hk hz hq
 refine wl_alloc 33 #[.bool false, .int .u64 0, .int .u64 0, .int .u64 0, .int .u64 0, .int .i64 0] rfl (fun _ => by kernel_rfl) rfl ?_
 intro k2 w2 hk hz hq Q2
 have ne_k1_k2 : k1 ≠ k2 := by have := Q1.lt; omega
 have N_k2 : w.heap.size ≤ k2 := by have := M.size; omega
 replace Q1 := Q1.mo hq
 replace M := M.trans hq
 clear hk hz hq
 refine wl_m (.const (.int .i64 (0))) (.int .i64 (0)) ?_
 refine w_nil (xn_then (w_seq (w_seq (w_reg ?_))))
 refine wl_f 65 0 (.tmp 4) (pt k1 0) (pt k1 0) ?_
 refine wl_l 31 (.tmp 8) (pt k1 0) (.agg #[.int .u64 (l0 (X / MM)), .int .u64 (l1 (X / MM)), .int .u64 (l2 (X / MM)), .int .u64 (l3 (X / MM))]) (run_row Q1 31 0 4 _ rfl Try.underlying31 rfl sz24) ?_
 refine wl_build 31 [] [] (.agg #[.int .u64 0, .int .u64 0, .int .u64 0, .int .u64 0]) rfl rfl (by kernel_rfl) rfl ?_
 refine wl_b .neq 31 (.tmp 9) (.tmp 10) (.agg #[.int .u64 (l0 (X / MM)), .int .u64 (l1 (X / MM)), .int .u64 (l2 (X / MM)), .int .u64 (l3 (X / MM))]) (.agg #[.int .u64 0, .int .u64 0, .int .u64 0, .int .u64 0]) (.bool true) (nen_run (r := false) (hi1 hXM hX2) _ _ _) ?_
 refine w_nil (xn_then (w_condT rfl (w_seq (w_reg ?_))))
 refine wl_build 33 [] [] (.agg #[.bool false, .int .u64 0, .int .u64 0, .int .u64 0, .int .u64 0, .int .i64 0]) rfl rfl (by kernel_rfl) rfl ?_
 refine wl_st 33 (.tmp 6) (.tmp 12) k2 0 #[.bool false, .int .u64 0, .int .u64 0, .int .u64 0, .int .u64 0, .int .i64 0] _ [.bool false, .int .u64 0, .int .u64 0, .int .u64 0, .int .u64 0, .int .i64 0] Q2 rfl rfl rfl rfl rfl sz40 rfl rfl rfl ?_
 intro w3 hS Qn
 replace Q2 := Qn
 clear Qn
 replace Q1 := hS.other _ _ ne_k1_k2 Q1
 replace M := hS.mo _ N_k2 M
 clear hS
 refine wl_m (.const (.int .i64 (7))) (.int .i64 (7)) ?_
 refine w_nil (xn_then (w_ret (xr_then ?_)))
 exact w_ret2 _ _ (.agg #[.bool false, .int .u64 0, .int .u64 0, .int .u64 0, .int .u64 0, .int .i64 0]) (.int .i64 (7)) rfl ⟨k2, rfl, (run_row Q2 33 0 6 _ rfl Try.underlying33 rfl sz40)⟩ rfl ⟨rfl, M⟩
theorem rat_t (X s : Int) (w : World) (hX0 : 0 ≤ X) (hX : X < MM) : Calls Try.prog 78 #[.bool true, dw X, .int .i64 s] w fun e w' => e = .returned (.tuple #[dc (!decide (X = 0)) X s, .int .i64 0]) ∧ Mo w w' := by
 refine w_enter 23 Try.func78 Try.ntmps78 rfl rfl ?_
 have M : Mo w w := Mo.refl _
 refine w_seq (w_reg ?_)
 refine wl_box 65 (.tmp 1) (dw (X)) ((dwr (X))) rfl rfl (fun _ => by kernel_rfl) rfl ?_
 intro k1 w1 hk hz hq Q1
 have N_k1 : w.heap.size ≤ k1 := by have := M.size; omega
 replace M := M.trans hq
 clear hk hz hq
 refine wl_alloc 33 #[.bool false, .int .u64 0, .int .u64 0, .int .u64 0, .int .u64 0, .int .i64 0] rfl (fun _ => by kernel_rfl) rfl ?_
 intro k2 w2 hk hz hq Q2
 have ne_k1_k2 : k1 ≠ k2 := by have := Q1.lt; omega
 have N_k2 : w.heap.size ≤ k2 := by have := M.size; omega
 replace Q1 := Q1.mo hq
 replace M := M.trans hq
 clear hk hz hq
 refine wl_m (.const (.int .i64 (0))) (.int .i64 (0)) ?_
 refine w_nil (xn_then (w_seq (w_seq (w_reg ?_))))
 refine wl_f 65 0 (.tmp 4) (pt k1 0) (pt k1 0) ?_
 refine wl_l 31 (.tmp 8) (pt k1 0) (.agg #[.int .u64 (l0 (X / MM)), .int .u64 (l1 (X / MM)), .int .u64 (l2 (X / MM)), .int .u64 (l3 (X / MM))]) (run_row Q1 31 0 4 _ rfl Try.underlying31 rfl sz24) ?_
 refine wl_build 31 [] [] (.agg #[.int .u64 0, .int .u64 0, .int .u64 0, .int .u64 0]) rfl rfl (by kernel_rfl) rfl ?_
 refine wl_b .neq 31 (.tmp 9) (.tmp 10) (.agg #[.int .u64 (l0 (X / MM)), .int .u64 (l1 (X / MM)), .int .u64 (l2 (X / MM)), .int .u64 (l3 (X / MM))]) (.agg #[.int .u64 0, .int .u64 0, .int .u64 0, .int .u64 0]) (.bool false) (nen_run (r := true) (hi0 hX0 hX) _ _ _) ?_
 refine w_nil (xn_then (w_condF rfl (w_skip (xn_then (w_seq ?_)))))
 refine w_any 10 [.inl (.bool true), .inl (.bool true), .inl (dw (X)), .inl (.bool (decide (X = 0))), .inl (.bool (!(decide (X = 0)))), .inl (.bool (!(decide (X = 0)))), .inl (pt k1 4), .inl (.agg #[.int .u64 (l0 (X)), .int .u64 (l1 (X)), .int .u64 (l2 (X)), .int .u64 (l3 (X))]), .inl (.int .i64 (s)), .inl (.agg #[.bool (!(decide (X = 0))), .int .u64 (l0 (X)), .int .u64 (l1 (X)), .int .u64 (l2 (X)), .int .u64 (l3 (X)), .int .i64 (s)])] [] (by kernel_rfl) (by kernel_rfl) (by kernel_rfl) (by kernel_rfl) rfl (by kernel_rfl) (by kernel_rfl) late_nil ?_ ?_ ?_
 ·exact Ds.none rfl
 ·refine ea_cons ?_ (ea_cons ?_ (ea_cons ?_ (ea_cons ?_ (ea_cons ?_ (ea_cons ?_ (ea_cons ?_ (ea_cons ?_ (ea_cons ?_ (ea_cons ?_ (ea_nil))))))))))
  ·exact og_eq _ rfl (fun f wf hq hd K hK => go_run rfl (wo_mv (.tmp 0) (.bool true) (fun _ => rfl) rfl (hK _ (Mo.refl _))))
  ·exact og_eq _ rfl (fun f wf hq hd K hK => go_run rfl (wo_mv (.tmp 13) (.bool true) (fun _ => rfl) (hd 0 rfl) (hK _ (Mo.refl _))))
  ·exact og_eq _ rfl (fun f wf hq hd K hK => have Q1 := Q1.mo hq; go_run (wnt_g rfl rfl rfl (hd 1 rfl) rfl) (wo_load 65 (.tmp 4) (pt k1 0) (dw (X)) rfl rfl (run_row Q1 65 0 8 (dwl (X)) rfl Try.underlying65 rfl sz87) (hK _ (Mo.refl _))))
  ·exact og_eq _ rfl (fun f wf hq hd K hK => go_run (wnt_g rfl rfl rfl (hd 1 rfl) rfl) (wo_call 92 [(.tmp 15)] _ [dw (X)] (.bool (decide (X = 0))) rfl (li1 (hd 2 rfl)) (fun _ _ => by kernel_rfl) (zero_n X _ hX0 hX) hK))
  ·exact og_eq _ rfl (fun f wf hq hd K hK => go_run (wnt_g rfl rfl rfl (hd 1 rfl) rfl) (wo_un (fun v => Op.unary .not v) (.tmp 16) (.bool (decide (X = 0))) (.bool (!(decide (X = 0)))) (fun _ => rfl) (hd 3 rfl) (not4_run _ _) (hK _ (Mo.refl _))))
  ·exact og_eq _ rfl (fun f wf hq hd K hK => go_run rfl (wo_pick (.tmp 14) (.tmp 17) (.const (.bool false)) true (.bool (!(decide (X = 0)))) (fun _ => rfl) (hd 1 rfl) (hd 4 rfl) (hK _ (Mo.refl _))))
  ·exact og_eq _ rfl (fun f wf hq hd K hK => go_run rfl (wo_un (fun v => Instr.fieldAt 65 v 1) (.tmp 4) (pt k1 0) (pt k1 4) (fun _ => rfl) rfl (by kernel_rfl) (hK _ (Mo.refl _))))
  ·exact og_eq _ rfl (fun f wf hq hd K hK => have Q1 := Q1.mo hq; go_run rfl (wo_load 31 (.tmp 19) (pt k1 4) (.agg #[.int .u64 (l0 (X)), .int .u64 (l1 (X)), .int .u64 (l2 (X)), .int .u64 (l3 (X))]) rfl (hd 6 rfl) (run_row Q1 31 4 4 _ rfl Try.underlying31 rfl sz24) (hK _ (Mo.refl _))))
  ·exact og_eq _ rfl (fun f wf hq hd K hK => go_run rfl (wo_mv (.tmp 2) (.int .i64 (s)) (fun _ => rfl) rfl (hK _ (Mo.refl _))))
  ·exact og_eq _ rfl (fun f wf hq hd K hK => go_run rfl (wo_build 33 [(0, (.tmp 18)), (1, (.tmp 20)), (2, (.tmp 21))] [(0, .bool (!(decide (X = 0)))), (1, .agg #[.int .u64 (l0 (X)), .int .u64 (l1 (X)), .int .u64 (l2 (X)), .int .u64 (l3 (X))]), (2, .int .i64 (s))] (.agg #[.bool (!(decide (X = 0))), .int .u64 (l0 (X)), .int .u64 (l1 (X)), .int .u64 (l2 (X)), .int .u64 (l3 (X)), .int .i64 (s)]) rfl (lp3 (hd 5 rfl) (hd 7 rfl) (hd 8 rfl)) (by kernel_rfl) (hK _ (Mo.refl _))))
 intro kf3 w3 hq hR hne
 replace Q1 := Q1.mo hq
 replace Q2 := Q2.mo hq
 replace M := M.trans hq
 clear hq hR hne
 refine wl_st 33 (.tmp 6) (.tmp 22) k2 0 #[.bool (!(decide (X = 0))), .int .u64 (l0 (X)), .int .u64 (l1 (X)), .int .u64 (l2 (X)), .int .u64 (l3 (X)), .int .i64 (s)] _ [.bool (!(decide (X = 0))), .int .u64 (l0 (X)), .int .u64 (l1 (X)), .int .u64 (l2 (X)), .int .u64 (l3 (X)), .int .i64 (s)] Q2 rfl rfl rfl rfl rfl sz40 rfl rfl rfl ?_
 intro w4 hS Qn
 replace Q2 := Qn
 clear Qn
 replace Q1 := hS.other _ _ ne_k1_k2 Q1
 replace M := hS.mo _ N_k2 M
 clear hS
 refine wl_m (.const (.int .i64 (0))) (.int .i64 (0)) ?_
 refine w_nil (xn_then (w_ret ?_))
 exact w_ret2 _ _ (.agg #[.bool (!(decide (X = 0))), .int .u64 (l0 (X)), .int .u64 (l1 (X)), .int .u64 (l2 (X)), .int .u64 (l3 (X)), .int .i64 (s)]) (.int .i64 (0)) rfl ⟨k2, rfl, (run_row Q2 33 0 6 _ rfl Try.underlying33 rfl sz40)⟩ rfl ⟨rfl, M⟩
theorem rat_f (X s : Int) (w : World) (hX0 : 0 ≤ X) (hX : X < MM) : Calls Try.prog 78 #[.bool false, dw X, .int .i64 s] w fun e w' => e = .returned (.tuple #[dc (false) X s, .int .i64 0]) ∧ Mo w w' := by
 refine w_enter 23 Try.func78 Try.ntmps78 rfl rfl ?_
 have M : Mo w w := Mo.refl _
 refine w_seq (w_reg ?_)
 refine wl_box 65 (.tmp 1) (dw (X)) ((dwr (X))) rfl rfl (fun _ => by kernel_rfl) rfl ?_
 intro k1 w1 hk hz hq Q1
 have N_k1 : w.heap.size ≤ k1 := by have := M.size; omega
 replace M := M.trans hq
 clear hk hz hq
 refine wl_alloc 33 #[.bool false, .int .u64 0, .int .u64 0, .int .u64 0, .int .u64 0, .int .i64 0] rfl (fun _ => by kernel_rfl) rfl ?_
 intro k2 w2 hk hz hq Q2
 have ne_k1_k2 : k1 ≠ k2 := by have := Q1.lt; omega
 have N_k2 : w.heap.size ≤ k2 := by have := M.size; omega
 replace Q1 := Q1.mo hq
 replace M := M.trans hq
 clear hk hz hq
 refine wl_m (.const (.int .i64 (0))) (.int .i64 (0)) ?_
 refine w_nil (xn_then (w_seq (w_seq (w_reg ?_))))
 refine wl_f 65 0 (.tmp 4) (pt k1 0) (pt k1 0) ?_
 refine wl_l 31 (.tmp 8) (pt k1 0) (.agg #[.int .u64 (l0 (X / MM)), .int .u64 (l1 (X / MM)), .int .u64 (l2 (X / MM)), .int .u64 (l3 (X / MM))]) (run_row Q1 31 0 4 _ rfl Try.underlying31 rfl sz24) ?_
 refine wl_build 31 [] [] (.agg #[.int .u64 0, .int .u64 0, .int .u64 0, .int .u64 0]) rfl rfl (by kernel_rfl) rfl ?_
 refine wl_b .neq 31 (.tmp 9) (.tmp 10) (.agg #[.int .u64 (l0 (X / MM)), .int .u64 (l1 (X / MM)), .int .u64 (l2 (X / MM)), .int .u64 (l3 (X / MM))]) (.agg #[.int .u64 0, .int .u64 0, .int .u64 0, .int .u64 0]) (.bool false) (nen_run (r := true) (hi0 hX0 hX) _ _ _) ?_
 refine w_nil (xn_then (w_condF rfl (w_skip (xn_then (w_seq ?_)))))
 refine w_any 10 [.inl (.bool false), .inl (.bool false), .inl undef, .inl undef, .inl undef, .inl (.bool false), .inl (pt k1 4), .inl (.agg #[.int .u64 (l0 (X)), .int .u64 (l1 (X)), .int .u64 (l2 (X)), .int .u64 (l3 (X))]), .inl (.int .i64 (s)), .inl (.agg #[.bool false, .int .u64 (l0 (X)), .int .u64 (l1 (X)), .int .u64 (l2 (X)), .int .u64 (l3 (X)), .int .i64 (s)])] [] (by kernel_rfl) (by kernel_rfl) (by kernel_rfl) (by kernel_rfl) rfl (by kernel_rfl) (by kernel_rfl) late_nil ?_ ?_ ?_
 ·exact Ds.none rfl
 ·refine ea_cons ?_ (ea_cons ?_ (ea_cons ?_ (ea_cons ?_ (ea_cons ?_ (ea_cons ?_ (ea_cons ?_ (ea_cons ?_ (ea_cons ?_ (ea_cons ?_ (ea_nil))))))))))
  ·exact og_eq _ rfl (fun f wf hq hd K hK => go_run rfl (wo_mv (.tmp 0) (.bool false) (fun _ => rfl) rfl (hK _ (Mo.refl _))))
  ·exact og_eq _ rfl (fun f wf hq hd K hK => go_run rfl (wo_mv (.tmp 13) (.bool false) (fun _ => rfl) (hd 0 rfl) (hK _ (Mo.refl _))))
  ·exact og_eq _ rfl (fun f wf hq hd K hK => go_pass (wnt_g rfl rfl rfl (hd 1 rfl) rfl) (hK _ (Mo.refl _)))
  ·exact og_eq _ rfl (fun f wf hq hd K hK => go_pass (wnt_g rfl rfl rfl (hd 1 rfl) rfl) (hK _ (Mo.refl _)))
  ·exact og_eq _ rfl (fun f wf hq hd K hK => go_pass (wnt_g rfl rfl rfl (hd 1 rfl) rfl) (hK _ (Mo.refl _)))
  ·exact og_eq _ rfl (fun f wf hq hd K hK => go_run rfl (wo_pick (.tmp 14) (.tmp 17) (.const (.bool false)) false (.bool false) (fun _ => rfl) (hd 1 rfl) rfl (hK _ (Mo.refl _))))
  ·exact og_eq _ rfl (fun f wf hq hd K hK => go_run rfl (wo_un (fun v => Instr.fieldAt 65 v 1) (.tmp 4) (pt k1 0) (pt k1 4) (fun _ => rfl) rfl (by kernel_rfl) (hK _ (Mo.refl _))))
  ·exact og_eq _ rfl (fun f wf hq hd K hK => have Q1 := Q1.mo hq; go_run rfl (wo_load 31 (.tmp 19) (pt k1 4) (.agg #[.int .u64 (l0 (X)), .int .u64 (l1 (X)), .int .u64 (l2 (X)), .int .u64 (l3 (X))]) rfl (hd 6 rfl) (run_row Q1 31 4 4 _ rfl Try.underlying31 rfl sz24) (hK _ (Mo.refl _))))
  ·exact og_eq _ rfl (fun f wf hq hd K hK => go_run rfl (wo_mv (.tmp 2) (.int .i64 (s)) (fun _ => rfl) rfl (hK _ (Mo.refl _))))
  ·exact og_eq _ rfl (fun f wf hq hd K hK => go_run rfl (wo_build 33 [(0, (.tmp 18)), (1, (.tmp 20)), (2, (.tmp 21))] [(0, .bool false), (1, .agg #[.int .u64 (l0 (X)), .int .u64 (l1 (X)), .int .u64 (l2 (X)), .int .u64 (l3 (X))]), (2, .int .i64 (s))] (.agg #[.bool false, .int .u64 (l0 (X)), .int .u64 (l1 (X)), .int .u64 (l2 (X)), .int .u64 (l3 (X)), .int .i64 (s)]) rfl (lp3 (hd 5 rfl) (hd 7 rfl) (hd 8 rfl)) (by kernel_rfl) (hK _ (Mo.refl _))))
 intro kf3 w3 hq hR hne
 replace Q1 := Q1.mo hq
 replace Q2 := Q2.mo hq
 replace M := M.trans hq
 clear hq hR hne
 refine wl_st 33 (.tmp 6) (.tmp 22) k2 0 #[.bool false, .int .u64 (l0 (X)), .int .u64 (l1 (X)), .int .u64 (l2 (X)), .int .u64 (l3 (X)), .int .i64 (s)] _ [.bool false, .int .u64 (l0 (X)), .int .u64 (l1 (X)), .int .u64 (l2 (X)), .int .u64 (l3 (X)), .int .i64 (s)] Q2 rfl rfl rfl rfl rfl sz40 rfl rfl rfl ?_
 intro w4 hS Qn
 replace Q2 := Qn
 clear Qn
 replace Q1 := hS.other _ _ ne_k1_k2 Q1
 replace M := hS.mo _ N_k2 M
 clear hS
 refine wl_m (.const (.int .i64 (0))) (.int .i64 (0)) ?_
 refine w_nil (xn_then (w_ret ?_))
 exact w_ret2 _ _ (.agg #[.bool false, .int .u64 (l0 (X)), .int .u64 (l1 (X)), .int .u64 (l2 (X)), .int .u64 (l3 (X)), .int .i64 (s)]) (.int .i64 (0)) rfl ⟨k2, rfl, (run_row Q2 33 0 6 _ rfl Try.underlying33 rfl sz40)⟩ rfl ⟨rfl, M⟩
theorem rat_yes (b : Bool) (X s : Int) (w : World) (hX0 : 0 ≤ X) (hX : X < MM) : Calls Try.prog 78 #[.bool b, dw X, .int .i64 s] w fun e w' => e = .returned (.tuple #[dc (b && !decide (X = 0)) X s, .int .i64 0]) ∧ Mo w w' := by
 cases b
 ·exact rat_f X s w hX0 hX
 ·exact rat_t X s w hX0 hX
theorem rat_z (b : Bool) (X s v : Int) (w : World) (hX : X = ab v) (hX2 : X < MM * MM) (hb : X ≠ 0 → b = decide (v < 0)) :
  Calls Try.prog 78 #[.bool b, dw X, .int .i64 s] w fun e w' => e = .returned (fz v s) ∧ Mo w w' := by
 have h0 := ab_nn v
 unfold fz
 subst hX
 by_cases h : ab v < MM
 ·rw [if_pos h]
  have e : (b && !decide (ab v = 0)) = decide (v < 0) := by
   by_cases hz : ab v = 0
   ·rw [decide_eq_true hz, decide_eq_false (p := v < 0) (by unfold ab at hz; split at hz <;> omega)]; simp
   ·rw [decide_eq_false hz, hb hz]; simp
  have hh := rat_yes b (ab v) s w h0 h
  rw [e] at hh
  exact hh
 ·rw [if_neg h]
  exact rat_no b (ab v) s w (by omega) hX2
theorem rneg_at (b : Bool) (n s : Int) (w : World) (hn0 : 0 ≤ n) (hn : n < MM) : Calls Try.prog 78 #[.bool (!b), .agg #[.int .u64 0, .int .u64 0, .int .u64 0, .int .u64 0, .int .u64 (l0 n), .int .u64 (l1 n), .int .u64 (l2 n), .int .u64 (l3 n)], .int .i64 s] w fun e w' => e = .returned (.tuple #[dc (!b && !decide (n = 0)) n s, .int .i64 0]) ∧ Mo w w' := by
 have h := rat_yes (!b) n s w hn0 hn
 have e : dw n = .agg #[.int .u64 0, .int .u64 0, .int .u64 0, .int .u64 0, .int .u64 (l0 n), .int .u64 (l1 n), .int .u64 (l2 n), .int .u64 (l3 n)] := by
  unfold dw; rw [Int.ediv_eq_zero_of_lt hn0 hn]; rfl
 rw [e] at h
 exact h
theorem rneg_ok (b : Bool) (n s : Int) (w : World) (hn0 : 0 ≤ n) (hn : n < MM) (h : ck b n s = 0) : Calls Try.prog 75 #[dc b n s] w fun e w' => e = .returned (.tuple #[dc (!b && !decide (n = 0)) n s, .int .i64 0]) ∧ Mo w w' := by
 refine w_enter 22 Try.func75 Try.ntmps75 rfl rfl ?_
 have M : Mo w w := Mo.refl _
 refine w_seq (w_reg ?_)
 refine wl_box 33 (.tmp 0) (dc b (n) (s)) ((dcr b (n) (s))) rfl rfl (fun _ => by kernel_rfl) rfl ?_
 intro k1 w1 hk hz hq Q1
 have N_k1 : w.heap.size ≤ k1 := by have := M.size; omega
 replace M := M.trans hq
 clear hk hz hq
 refine wl_alloc 33 #[.bool false, .int .u64 0, .int .u64 0, .int .u64 0, .int .u64 0, .int .i64 0] rfl (fun _ => by kernel_rfl) rfl ?_
 intro k2 w2 hk hz hq Q2
 have ne_k1_k2 : k1 ≠ k2 := by have := Q1.lt; omega
 have N_k2 : w.heap.size ≤ k2 := by have := M.size; omega
 replace Q1 := Q1.mo hq
 replace M := M.trans hq
 clear hk hz hq
 refine wl_m (.const (.int .i64 (0))) (.int .i64 (0)) ?_
 refine w_nil (xn_then (w_seq (w_seq (w_reg ?_))))
 refine wl_l 33 (.tmp 1) (pt k1 0) (dc b (n) (s)) (run_row Q1 33 0 6 (dcl b (n) (s)) rfl Try.underlying33 rfl sz40) ?_
 refine wl_call 23 [(.tmp 5)] _ [dc b (n) (s)] (.int .i64 (0)) rfl rfl (fun _ _ => by kernel_rfl) (rcheck_ok b n s _ hn0 hn h) rfl ?_
 intro w3 hq
 replace Q1 := Q1.mo hq
 replace Q2 := Q2.mo hq
 replace M := M.trans hq
 clear hq
 refine wl_m (.tmp 6) (.int .i64 (0)) ?_
 refine w_nil (xn_then (w_seq (w_reg ?_)))
 refine wl_m (.tmp 4) (.int .i64 (0)) ?_
 refine wl_b .neq 26 (.tmp 7) (.const (.int .i64 (0))) (.int .i64 (0)) (.int .i64 (0)) (.bool false) (by kernel_rfl) ?_
 refine w_nil (xn_then (w_condF rfl (w_skip (xn_then (w_seq (w_reg ?_))))))
 refine wl_f 33 0 (.tmp 1) (pt k1 0) (pt k1 0) ?_
 refine wl_l 4 (.tmp 11) (pt k1 0) (.bool b) (run_one Q1 4 0 rfl Try.underlying4 rfl) ?_
 refine wl_un (fun v => Op.unary .not v) (.tmp 12) (.bool b) (.bool (!b)) (fun _ => rfl) rfl (not4_run _ _) rfl ?_
 refine wl_f 33 1 (.tmp 1) (pt k1 0) (pt k1 1) ?_
 refine wl_l 31 (.tmp 14) (pt k1 1) (.agg #[.int .u64 (l0 (n)), .int .u64 (l1 (n)), .int .u64 (l2 (n)), .int .u64 (l3 (n))]) (run_row Q1 31 1 4 _ rfl Try.underlying31 rfl sz24) ?_
 refine wl_build 65 [(1, (.tmp 15))] [(1, .agg #[.int .u64 (l0 (n)), .int .u64 (l1 (n)), .int .u64 (l2 (n)), .int .u64 (l3 (n))])] (.agg #[.int .u64 0, .int .u64 0, .int .u64 0, .int .u64 0, .int .u64 (l0 (n)), .int .u64 (l1 (n)), .int .u64 (l2 (n)), .int .u64 (l3 (n))]) rfl rfl (by kernel_rfl) rfl ?_
 refine wl_f 33 2 (.tmp 1) (pt k1 0) (pt k1 5) ?_
 refine wl_l 3 (.tmp 17) (pt k1 5) (.int .i64 (s)) (run_one Q1 3 5 rfl Try.underlying3 rfl) ?_
 refine wl_call 78 [(.tmp 13), (.tmp 16), (.tmp 18)] _ [.bool (!b), .agg #[.int .u64 0, .int .u64 0, .int .u64 0, .int .u64 0, .int .u64 (l0 (n)), .int .u64 (l1 (n)), .int .u64 (l2 (n)), .int .u64 (l3 (n))], .int .i64 (s)] (.tuple #[dc (!b && !decide (n = 0)) (n) (s), .int .i64 (0)]) rfl rfl (fun _ _ => by kernel_rfl) (rneg_at b n s _ hn0 hn) rfl ?_
 intro w4 hq
 replace Q1 := Q1.mo hq
 replace Q2 := Q2.mo hq
 replace M := M.trans hq
 clear hq
 refine wl_un (fun v => Instr.extract v 0) (.tmp 19) (.tuple #[dc (!b && !decide (n = 0)) (n) (s), .int .i64 (0)]) (dc (!b && !decide (n = 0)) (n) (s)) (fun _ => rfl) rfl (by kernel_rfl) rfl ?_
 refine wl_un (fun v => Instr.extract v 1) (.tmp 19) (.tuple #[dc (!b && !decide (n = 0)) (n) (s), .int .i64 (0)]) (.int .i64 (0)) (fun _ => rfl) rfl (by kernel_rfl) rfl ?_
 refine wl_st 33 (.tmp 2) (.tmp 20) k2 0 (dcr (!b && !decide (n = 0)) (n) (s)) _ (dcl (!b && !decide (n = 0)) (n) (s)) Q2 rfl rfl rfl rfl rfl sz40 rfl rfl rfl ?_
 intro w5 hS Qn
 replace Q2 := Qn
 clear Qn
 replace Q1 := hS.other _ _ ne_k1_k2 Q1
 replace M := hS.mo _ N_k2 M
 clear hS
 refine wl_m (.tmp 21) (.int .i64 (0)) ?_
 refine w_nil (xn_then (w_ret ?_))
 exact w_ret2 _ _ (dc (!b && !decide (n = 0)) (n) (s)) (.int .i64 (0)) rfl ⟨k2, rfl, (run_row Q2 33 0 6 (dcl (!b && !decide (n = 0)) (n) (s)) rfl Try.underlying33 rfl sz40)⟩ rfl ⟨rfl, M⟩
theorem radd_same (bu bv : Bool) (n m s t S : Int) (i j : Nat) (d0 d1 d2 d3 d4 d5 : Value) (e : Int) (w : World) (hn0 : 0 ≤ n) (hn : n < MM) (hm0 : 0 ≤ m) (hm : m < MM) (h1 : ck bu n s = 0) (h2 : ck bv m t = 0) (hS : max s t = S) (hi : S - s = (i : Int)) (hj : S - t = (j : Int)) (hi7 : i ≤ 18) (hj7 : j ≤ 18) (hb : (bu == bv) = true)
  (hd : [d0, d1, d2, d3, d4, d5].all (·.oneCell') = true)
  (hfit : ∀ w, Calls Try.prog 78 #[.bool bu, dw (n * 10 ^ i + m * 10 ^ j), .int .i64 S] w fun e' w' => e' = .returned (.tuple #[.agg #[d0, d1, d2, d3, d4, d5], .int .i64 e]) ∧ Mo w w') :
  Calls Try.prog 55 #[dc bu n s, dc bv m t] w fun e' w' => e' = .returned (.tuple #[.agg #[d0, d1, d2, d3, d4, d5], .int .i64 e]) ∧ Mo w w' := by
 have bX := lifted_bd hn0 hn (i := i) (by omega)
 have bY := lifted_bd hm0 hm (i := j) (by omega)
 refine w_enter 72 Try.func55 Try.ntmps55 rfl rfl ?_
 have M : Mo w w := Mo.refl _
 refine w_seq (w_reg ?_)
 refine wl_box 33 (.tmp 0) (dc bu (n) (s)) ((dcr bu (n) (s))) rfl rfl (fun _ => by kernel_rfl) rfl ?_
 intro k1 w1 hk hz hq Q1
 have N_k1 : w.heap.size ≤ k1 := by have := M.size; omega
 replace M := M.trans hq
 clear hk hz hq
 refine wl_box 33 (.tmp 1) (dc bv (m) (t)) ((dcr bv (m) (t))) rfl rfl (fun _ => by kernel_rfl) rfl ?_
 intro k2 w2 hk hz hq Q2
 have ne_k1_k2 : k1 ≠ k2 := by have := Q1.lt; omega
 have N_k2 : w.heap.size ≤ k2 := by have := M.size; omega
 replace Q1 := Q1.mo hq
 replace M := M.trans hq
 clear hk hz hq
 refine wl_alloc 33 #[.bool false, .int .u64 0, .int .u64 0, .int .u64 0, .int .u64 0, .int .i64 0] rfl (fun _ => by kernel_rfl) rfl ?_
 intro k3 w3 hk hz hq Q3
 have ne_k1_k3 : k1 ≠ k3 := by have := Q1.lt; omega
 have ne_k2_k3 : k2 ≠ k3 := by have := Q2.lt; omega
 have N_k3 : w.heap.size ≤ k3 := by have := M.size; omega
 replace Q1 := Q1.mo hq
 replace Q2 := Q2.mo hq
 replace M := M.trans hq
 clear hk hz hq
 refine wl_m (.const (.int .i64 (0))) (.int .i64 (0)) ?_
 refine w_nil (xn_then (w_seq (w_seq (w_reg ?_))))
 refine wl_l 33 (.tmp 2) (pt k1 0) (dc bu (n) (s)) (run_row Q1 33 0 6 (dcl bu (n) (s)) rfl Try.underlying33 rfl sz40) ?_
 refine wl_l 33 (.tmp 3) (pt k2 0) (dc bv (m) (t)) (run_row Q2 33 0 6 (dcl bv (m) (t)) rfl Try.underlying33 rfl sz40) ?_
 refine wl_call 40 [(.tmp 10), (.tmp 11)] _ [dc bu (n) (s), dc bv (m) (t)] (.int .i64 (0)) rfl rfl (fun _ _ => by kernel_rfl) (rboth_ok bu n s bv m t _ hn0 hn hm0 hm h1 h2) rfl ?_
 intro w4 hq
 replace Q1 := Q1.mo hq
 replace Q2 := Q2.mo hq
 replace Q3 := Q3.mo hq
 replace M := M.trans hq
 clear hq
 refine wl_m (.tmp 12) (.int .i64 (0)) ?_
 refine w_nil (xn_then (w_seq (w_reg ?_)))
 refine wl_m (.tmp 6) (.int .i64 (0)) ?_
 refine wl_b .neq 26 (.tmp 13) (.const (.int .i64 (0))) (.int .i64 (0)) (.int .i64 (0)) (.bool false) (by kernel_rfl) ?_
 refine w_nil (xn_then (w_condF rfl (w_skip (xn_then (w_seq (w_reg ?_))))))
 refine wl_f 33 2 (.tmp 2) (pt k1 0) (pt k1 5) ?_
 refine wl_l 3 (.tmp 17) (pt k1 5) (.int .i64 (s)) (run_one Q1 3 5 rfl Try.underlying3 rfl) ?_
 refine wl_f 33 2 (.tmp 3) (pt k2 0) (pt k2 5) ?_
 refine wl_l 3 (.tmp 19) (pt k2 5) (.int .i64 (t)) (run_one Q2 3 5 rfl Try.underlying3 rfl) ?_
 refine wl_val (.int .i64 (S)) (by rw [← hS]; exact max_run _ _ _ _ _ rfl rfl _ _ _ _ _ _) rfl ?_
 refine wl_m (.tmp 21) (.int .i64 (S)) ?_
 refine w_nil (xn_then (w_seq (w_reg ?_)))
 refine wl_f 33 1 (.tmp 2) (pt k1 0) (pt k1 1) ?_
 refine wl_l 31 (.tmp 22) (pt k1 1) (.agg #[.int .u64 (l0 (n)), .int .u64 (l1 (n)), .int .u64 (l2 (n)), .int .u64 (l3 (n))]) (run_row Q1 31 1 4 _ rfl Try.underlying31 rfl sz24) ?_
 refine wl_m (.tmp 7) (.int .i64 (S)) ?_
 refine wl_f 33 2 (.tmp 2) (pt k1 0) (pt k1 5) ?_
 refine wl_l 3 (.tmp 25) (pt k1 5) (.int .i64 (s)) (run_one Q1 3 5 rfl Try.underlying3 rfl) ?_
 refine wl_b .sub 3 (.tmp 24) (.tmp 26) (.int .i64 (S)) (.int .i64 (s)) (.int .i64 ((i : Int))) (sub3_run hi (by omega) (by omega) _ _ _) ?_
 refine wl_call 41 [(.tmp 23), (.tmp 27)] _ [.agg #[.int .u64 (l0 (n)), .int .u64 (l1 (n)), .int .u64 (l2 (n)), .int .u64 (l3 (n))], .int .i64 ((i : Int))] (dw (n * 10 ^ i)) rfl rfl (fun _ _ => by kernel_rfl) (shift_n n i _ hn0 hn (by omega)) rfl ?_
 intro w5 hq
 replace Q1 := Q1.mo hq
 replace Q2 := Q2.mo hq
 replace Q3 := Q3.mo hq
 replace M := M.trans hq
 clear hq
 refine wl_alloc 65 #[.int .u64 0, .int .u64 0, .int .u64 0, .int .u64 0, .int .u64 0, .int .u64 0, .int .u64 0, .int .u64 0] rfl (fun _ => by kernel_rfl) rfl ?_
 intro k4 w6 hk hz hq Q4
 have ne_k1_k4 : k1 ≠ k4 := by have := Q1.lt; omega
 have ne_k2_k4 : k2 ≠ k4 := by have := Q2.lt; omega
 have ne_k3_k4 : k3 ≠ k4 := by have := Q3.lt; omega
 have N_k4 : w.heap.size ≤ k4 := by have := M.size; omega
 replace Q1 := Q1.mo hq
 replace Q2 := Q2.mo hq
 replace Q3 := Q3.mo hq
 replace M := M.trans hq
 clear hk hz hq
 refine wl_st 65 (.tmp 8) (.tmp 28) k4 0 (dwr (n * 10 ^ i)) _ (dwl (n * 10 ^ i)) Q4 rfl rfl rfl rfl rfl sz87 rfl rfl rfl ?_
 intro w7 hS Qn
 replace Q4 := Qn
 clear Qn
 replace Q1 := hS.other _ _ ne_k1_k4 Q1
 replace Q2 := hS.other _ _ ne_k2_k4 Q2
 replace Q3 := hS.other _ _ ne_k3_k4 Q3
 replace M := hS.mo _ N_k4 M
 clear hS
 refine w_nil (xn_then (w_seq (w_reg ?_)))
 refine wl_f 33 1 (.tmp 3) (pt k2 0) (pt k2 1) ?_
 refine wl_l 31 (.tmp 29) (pt k2 1) (.agg #[.int .u64 (l0 (m)), .int .u64 (l1 (m)), .int .u64 (l2 (m)), .int .u64 (l3 (m))]) (run_row Q2 31 1 4 _ rfl Try.underlying31 rfl sz24) ?_
 refine wl_m (.tmp 7) (.int .i64 (S)) ?_
 refine wl_f 33 2 (.tmp 3) (pt k2 0) (pt k2 5) ?_
 refine wl_l 3 (.tmp 32) (pt k2 5) (.int .i64 (t)) (run_one Q2 3 5 rfl Try.underlying3 rfl) ?_
 refine wl_b .sub 3 (.tmp 31) (.tmp 33) (.int .i64 (S)) (.int .i64 (t)) (.int .i64 ((j : Int))) (sub3_run hj (by omega) (by omega) _ _ _) ?_
 refine wl_call 41 [(.tmp 30), (.tmp 34)] _ [.agg #[.int .u64 (l0 (m)), .int .u64 (l1 (m)), .int .u64 (l2 (m)), .int .u64 (l3 (m))], .int .i64 ((j : Int))] (dw (m * 10 ^ j)) rfl rfl (fun _ _ => by kernel_rfl) (shift_n m j _ hm0 hm (by omega)) rfl ?_
 intro w8 hq
 replace Q1 := Q1.mo hq
 replace Q2 := Q2.mo hq
 replace Q3 := Q3.mo hq
 replace Q4 := Q4.mo hq
 replace M := M.trans hq
 clear hq
 refine wl_alloc 65 #[.int .u64 0, .int .u64 0, .int .u64 0, .int .u64 0, .int .u64 0, .int .u64 0, .int .u64 0, .int .u64 0] rfl (fun _ => by kernel_rfl) rfl ?_
 intro k5 w9 hk hz hq Q5
 have ne_k1_k5 : k1 ≠ k5 := by have := Q1.lt; omega
 have ne_k2_k5 : k2 ≠ k5 := by have := Q2.lt; omega
 have ne_k3_k5 : k3 ≠ k5 := by have := Q3.lt; omega
 have ne_k4_k5 : k4 ≠ k5 := by have := Q4.lt; omega
 have N_k5 : w.heap.size ≤ k5 := by have := M.size; omega
 replace Q1 := Q1.mo hq
 replace Q2 := Q2.mo hq
 replace Q3 := Q3.mo hq
 replace Q4 := Q4.mo hq
 replace M := M.trans hq
 clear hk hz hq
 refine wl_st 65 (.tmp 9) (.tmp 35) k5 0 (dwr (m * 10 ^ j)) _ (dwl (m * 10 ^ j)) Q5 rfl rfl rfl rfl rfl sz87 rfl rfl rfl ?_
 intro w10 hS Qn
 replace Q5 := Qn
 clear Qn
 replace Q1 := hS.other _ _ ne_k1_k5 Q1
 replace Q2 := hS.other _ _ ne_k2_k5 Q2
 replace Q3 := hS.other _ _ ne_k3_k5 Q3
 replace Q4 := hS.other _ _ ne_k4_k5 Q4
 replace M := hS.mo _ N_k5 M
 clear hS
 refine w_nil (xn_then (w_seq (w_seq (w_reg ?_))))
 refine wl_f 33 0 (.tmp 2) (pt k1 0) (pt k1 0) ?_
 refine wl_l 4 (.tmp 36) (pt k1 0) (.bool bu) (run_one Q1 4 0 rfl Try.underlying4 rfl) ?_
 refine wl_f 33 0 (.tmp 3) (pt k2 0) (pt k2 0) ?_
 refine wl_l 4 (.tmp 38) (pt k2 0) (.bool bv) (run_one Q2 4 0 rfl Try.underlying4 rfl) ?_
 refine wl_b .eql 4 (.tmp 37) (.tmp 39) (.bool bu) (.bool bv) (.bool true) (eqb_run hb _ _ _) ?_
 refine w_nil (xn_then (w_condT rfl (w_seq ?_)))
 refine w_any 9 [.inl (pt k1 0), .inl (.bool bu), .inl (dw (n * 10 ^ i)), .inl (dw (m * 10 ^ j)), .inl (dw (n * 10 ^ i + m * 10 ^ j)), .inl (.int .i64 (S)), .inl (.tuple #[.agg #[d0, d1, d2, d3, d4, d5], .int .i64 e]), .inl (.agg #[d0, d1, d2, d3, d4, d5]), .inl (.int .i64 e)] [] (by kernel_rfl) (by kernel_rfl) (by kernel_rfl) (by kernel_rfl) rfl (by kernel_rfl) (by kernel_rfl) late_nil ?_ ?_ ?_
 ·exact Ds.none rfl
 ·refine ea_cons ?_ (ea_cons ?_ (ea_cons ?_ (ea_cons ?_ (ea_cons ?_ (ea_cons ?_ (ea_cons ?_ (ea_cons ?_ (ea_cons ?_ (ea_nil)))))))))
  ·exact og_eq _ rfl (fun f wf hq hd K hK => go_run rfl (wo_un (fun v => Instr.fieldAt 33 v 0) (.tmp 2) (pt k1 0) (pt k1 0) (fun _ => rfl) rfl (by kernel_rfl) (hK _ (Mo.refl _))))
  ·exact og_eq _ rfl (fun f wf hq hd K hK => have Q1 := Q1.mo hq; go_run rfl (wo_load 4 (.tmp 41) (pt k1 0) (.bool bu) rfl (hd 0 rfl) (run_one Q1 4 0 rfl Try.underlying4 rfl) (hK _ (Mo.refl _))))
  ·exact og_eq _ rfl (fun f wf hq hd K hK => have Q4 := Q4.mo hq; go_run rfl (wo_load 65 (.tmp 8) (pt k4 0) (dw (n * 10 ^ i)) rfl rfl (run_row Q4 65 0 8 (dwl (n * 10 ^ i)) rfl Try.underlying65 rfl sz87) (hK _ (Mo.refl _))))
  ·exact og_eq _ rfl (fun f wf hq hd K hK => have Q5 := Q5.mo hq; go_run rfl (wo_load 65 (.tmp 9) (pt k5 0) (dw (m * 10 ^ j)) rfl rfl (run_row Q5 65 0 8 (dwl (m * 10 ^ j)) rfl Try.underlying65 rfl sz87) (hK _ (Mo.refl _))))
  ·exact og_eq _ rfl (fun f wf hq hd K hK => go_run rfl (wo_call 79 [(.tmp 43), (.tmp 44)] _ [dw (n * 10 ^ i), dw (m * 10 ^ j)] (dw (n * 10 ^ i + m * 10 ^ j)) rfl (li2 (hd 2 rfl) (hd 3 rfl)) (fun _ _ => by kernel_rfl) (plus_n (n * 10 ^ i) (m * 10 ^ j) _ bX.1 bX.2 bY.1 bY.2) hK))
  ·exact og_eq _ rfl (fun f wf hq hd K hK => go_run rfl (wo_mv (.tmp 7) (.int .i64 (S)) (fun _ => rfl) rfl (hK _ (Mo.refl _))))
  ·exact og_eq _ rfl (fun f wf hq hd K hK => go_run rfl (wo_call 78 [(.tmp 42), (.tmp 45), (.tmp 46)] _ [.bool bu, dw (n * 10 ^ i + m * 10 ^ j), .int .i64 (S)] (.tuple #[.agg #[d0, d1, d2, d3, d4, d5], .int .i64 e]) rfl (li3 (hd 1 rfl) (hd 4 rfl) (hd 5 rfl)) (fun _ _ => by kernel_rfl) (hfit _) hK))
  ·exact og_eq _ rfl (fun f wf hq hd K hK => go_run rfl (wo_un (fun v => Instr.extract v 0) (.tmp 47) (.tuple #[.agg #[d0, d1, d2, d3, d4, d5], .int .i64 e]) (.agg #[d0, d1, d2, d3, d4, d5]) (fun _ => rfl) (hd 6 rfl) (by kernel_rfl) (hK _ (Mo.refl _))))
  ·exact og_eq _ rfl (fun f wf hq hd K hK => go_run rfl (wo_un (fun v => Instr.extract v 1) (.tmp 47) (.tuple #[.agg #[d0, d1, d2, d3, d4, d5], .int .i64 e]) (.int .i64 e) (fun _ => rfl) (hd 6 rfl) (by kernel_rfl) (hK _ (Mo.refl _))))
 intro kf11 w11 hq hR hne
 replace Q1 := Q1.mo hq
 replace Q2 := Q2.mo hq
 replace Q3 := Q3.mo hq
 replace Q4 := Q4.mo hq
 replace Q5 := Q5.mo hq
 replace M := M.trans hq
 clear hq hR hne
 refine wl_st 33 (.tmp 4) (.tmp 48) k3 0 #[d0, d1, d2, d3, d4, d5] _ [d0, d1, d2, d3, d4, d5] Q3 rfl rfl rfl rfl rfl sz40 hd rfl rfl ?_
 intro w12 hS Qn
 replace Q3 := Qn
 clear Qn
 replace Q1 := hS.other _ _ ne_k1_k3 Q1
 replace Q2 := hS.other _ _ ne_k2_k3 Q2
 replace Q4 := hS.other _ _ ne_k3_k4.symm Q4
 replace Q5 := hS.other _ _ ne_k3_k5.symm Q5
 replace M := hS.mo _ N_k3 M
 clear hS
 refine wl_m (.tmp 49) (.int .i64 e) ?_
 refine w_nil (xn_then (w_ret (xr_then ?_)))
 exact w_ret2 _ _ (.agg #[d0, d1, d2, d3, d4, d5]) (.int .i64 e) rfl ⟨k3, rfl, (run_row Q3 33 0 6 _ rfl Try.underlying33 rfl sz40)⟩ rfl ⟨rfl, M⟩
theorem radd_lt (bu bv : Bool) (n m s t S : Int) (i j : Nat) (d0 d1 d2 d3 d4 d5 : Value) (e : Int) (w : World) (hn0 : 0 ≤ n) (hn : n < MM) (hm0 : 0 ≤ m) (hm : m < MM) (h1 : ck bu n s = 0) (h2 : ck bv m t = 0) (hS : max s t = S) (hi : S - s = (i : Int)) (hj : S - t = (j : Int)) (hi7 : i ≤ 18) (hj7 : j ≤ 18) (hb : (bu == bv) = false) (hc : decide (cm (n * 10 ^ i) (m * 10 ^ j) ≥ 0) = false)
  (hd : [d0, d1, d2, d3, d4, d5].all (·.oneCell') = true)
  (hfit : ∀ w, Calls Try.prog 78 #[.bool bv, dw (m * 10 ^ j - n * 10 ^ i), .int .i64 S] w fun e' w' => e' = .returned (.tuple #[.agg #[d0, d1, d2, d3, d4, d5], .int .i64 e]) ∧ Mo w w') :
  Calls Try.prog 55 #[dc bu n s, dc bv m t] w fun e' w' => e' = .returned (.tuple #[.agg #[d0, d1, d2, d3, d4, d5], .int .i64 e]) ∧ Mo w w' := by
 have bX := lifted_bd hn0 hn (i := i) (by omega)
 have bY := lifted_bd hm0 hm (i := j) (by omega)
 refine w_enter 72 Try.func55 Try.ntmps55 rfl rfl ?_
 have M : Mo w w := Mo.refl _
 refine w_seq (w_reg ?_)
 refine wl_box 33 (.tmp 0) (dc bu (n) (s)) ((dcr bu (n) (s))) rfl rfl (fun _ => by kernel_rfl) rfl ?_
 intro k1 w1 hk hz hq Q1
 have N_k1 : w.heap.size ≤ k1 := by have := M.size; omega
 replace M := M.trans hq
 clear hk hz hq
 refine wl_box 33 (.tmp 1) (dc bv (m) (t)) ((dcr bv (m) (t))) rfl rfl (fun _ => by kernel_rfl) rfl ?_
 intro k2 w2 hk hz hq Q2
 have ne_k1_k2 : k1 ≠ k2 := by have := Q1.lt; omega
 have N_k2 : w.heap.size ≤ k2 := by have := M.size; omega
 replace Q1 := Q1.mo hq
 replace M := M.trans hq
 clear hk hz hq
 refine wl_alloc 33 #[.bool false, .int .u64 0, .int .u64 0, .int .u64 0, .int .u64 0, .int .i64 0] rfl (fun _ => by kernel_rfl) rfl ?_
 intro k3 w3 hk hz hq Q3
 have ne_k1_k3 : k1 ≠ k3 := by have := Q1.lt; omega
 have ne_k2_k3 : k2 ≠ k3 := by have := Q2.lt; omega
 have N_k3 : w.heap.size ≤ k3 := by have := M.size; omega
 replace Q1 := Q1.mo hq
 replace Q2 := Q2.mo hq
 replace M := M.trans hq
 clear hk hz hq
 refine wl_m (.const (.int .i64 (0))) (.int .i64 (0)) ?_
 refine w_nil (xn_then (w_seq (w_seq (w_reg ?_))))
 refine wl_l 33 (.tmp 2) (pt k1 0) (dc bu (n) (s)) (run_row Q1 33 0 6 (dcl bu (n) (s)) rfl Try.underlying33 rfl sz40) ?_
 refine wl_l 33 (.tmp 3) (pt k2 0) (dc bv (m) (t)) (run_row Q2 33 0 6 (dcl bv (m) (t)) rfl Try.underlying33 rfl sz40) ?_
 refine wl_call 40 [(.tmp 10), (.tmp 11)] _ [dc bu (n) (s), dc bv (m) (t)] (.int .i64 (0)) rfl rfl (fun _ _ => by kernel_rfl) (rboth_ok bu n s bv m t _ hn0 hn hm0 hm h1 h2) rfl ?_
 intro w4 hq
 replace Q1 := Q1.mo hq
 replace Q2 := Q2.mo hq
 replace Q3 := Q3.mo hq
 replace M := M.trans hq
 clear hq
 refine wl_m (.tmp 12) (.int .i64 (0)) ?_
 refine w_nil (xn_then (w_seq (w_reg ?_)))
 refine wl_m (.tmp 6) (.int .i64 (0)) ?_
 refine wl_b .neq 26 (.tmp 13) (.const (.int .i64 (0))) (.int .i64 (0)) (.int .i64 (0)) (.bool false) (by kernel_rfl) ?_
 refine w_nil (xn_then (w_condF rfl (w_skip (xn_then (w_seq (w_reg ?_))))))
 refine wl_f 33 2 (.tmp 2) (pt k1 0) (pt k1 5) ?_
 refine wl_l 3 (.tmp 17) (pt k1 5) (.int .i64 (s)) (run_one Q1 3 5 rfl Try.underlying3 rfl) ?_
 refine wl_f 33 2 (.tmp 3) (pt k2 0) (pt k2 5) ?_
 refine wl_l 3 (.tmp 19) (pt k2 5) (.int .i64 (t)) (run_one Q2 3 5 rfl Try.underlying3 rfl) ?_
 refine wl_val (.int .i64 (S)) (by rw [← hS]; exact max_run _ _ _ _ _ rfl rfl _ _ _ _ _ _) rfl ?_
 refine wl_m (.tmp 21) (.int .i64 (S)) ?_
 refine w_nil (xn_then (w_seq (w_reg ?_)))
 refine wl_f 33 1 (.tmp 2) (pt k1 0) (pt k1 1) ?_
 refine wl_l 31 (.tmp 22) (pt k1 1) (.agg #[.int .u64 (l0 (n)), .int .u64 (l1 (n)), .int .u64 (l2 (n)), .int .u64 (l3 (n))]) (run_row Q1 31 1 4 _ rfl Try.underlying31 rfl sz24) ?_
 refine wl_m (.tmp 7) (.int .i64 (S)) ?_
 refine wl_f 33 2 (.tmp 2) (pt k1 0) (pt k1 5) ?_
 refine wl_l 3 (.tmp 25) (pt k1 5) (.int .i64 (s)) (run_one Q1 3 5 rfl Try.underlying3 rfl) ?_
 refine wl_b .sub 3 (.tmp 24) (.tmp 26) (.int .i64 (S)) (.int .i64 (s)) (.int .i64 ((i : Int))) (sub3_run hi (by omega) (by omega) _ _ _) ?_
 refine wl_call 41 [(.tmp 23), (.tmp 27)] _ [.agg #[.int .u64 (l0 (n)), .int .u64 (l1 (n)), .int .u64 (l2 (n)), .int .u64 (l3 (n))], .int .i64 ((i : Int))] (dw (n * 10 ^ i)) rfl rfl (fun _ _ => by kernel_rfl) (shift_n n i _ hn0 hn (by omega)) rfl ?_
 intro w5 hq
 replace Q1 := Q1.mo hq
 replace Q2 := Q2.mo hq
 replace Q3 := Q3.mo hq
 replace M := M.trans hq
 clear hq
 refine wl_alloc 65 #[.int .u64 0, .int .u64 0, .int .u64 0, .int .u64 0, .int .u64 0, .int .u64 0, .int .u64 0, .int .u64 0] rfl (fun _ => by kernel_rfl) rfl ?_
 intro k4 w6 hk hz hq Q4
 have ne_k1_k4 : k1 ≠ k4 := by have := Q1.lt; omega
 have ne_k2_k4 : k2 ≠ k4 := by have := Q2.lt; omega
 have ne_k3_k4 : k3 ≠ k4 := by have := Q3.lt; omega
 have N_k4 : w.heap.size ≤ k4 := by have := M.size; omega
 replace Q1 := Q1.mo hq
 replace Q2 := Q2.mo hq
 replace Q3 := Q3.mo hq
 replace M := M.trans hq
 clear hk hz hq
 refine wl_st 65 (.tmp 8) (.tmp 28) k4 0 (dwr (n * 10 ^ i)) _ (dwl (n * 10 ^ i)) Q4 rfl rfl rfl rfl rfl sz87 rfl rfl rfl ?_
 intro w7 hS Qn
 replace Q4 := Qn
 clear Qn
 replace Q1 := hS.other _ _ ne_k1_k4 Q1
 replace Q2 := hS.other _ _ ne_k2_k4 Q2
 replace Q3 := hS.other _ _ ne_k3_k4 Q3
 replace M := hS.mo _ N_k4 M
 clear hS
 refine w_nil (xn_then (w_seq (w_reg ?_)))
 refine wl_f 33 1 (.tmp 3) (pt k2 0) (pt k2 1) ?_
 refine wl_l 31 (.tmp 29) (pt k2 1) (.agg #[.int .u64 (l0 (m)), .int .u64 (l1 (m)), .int .u64 (l2 (m)), .int .u64 (l3 (m))]) (run_row Q2 31 1 4 _ rfl Try.underlying31 rfl sz24) ?_
 refine wl_m (.tmp 7) (.int .i64 (S)) ?_
 refine wl_f 33 2 (.tmp 3) (pt k2 0) (pt k2 5) ?_
 refine wl_l 3 (.tmp 32) (pt k2 5) (.int .i64 (t)) (run_one Q2 3 5 rfl Try.underlying3 rfl) ?_
 refine wl_b .sub 3 (.tmp 31) (.tmp 33) (.int .i64 (S)) (.int .i64 (t)) (.int .i64 ((j : Int))) (sub3_run hj (by omega) (by omega) _ _ _) ?_
 refine wl_call 41 [(.tmp 30), (.tmp 34)] _ [.agg #[.int .u64 (l0 (m)), .int .u64 (l1 (m)), .int .u64 (l2 (m)), .int .u64 (l3 (m))], .int .i64 ((j : Int))] (dw (m * 10 ^ j)) rfl rfl (fun _ _ => by kernel_rfl) (shift_n m j _ hm0 hm (by omega)) rfl ?_
 intro w8 hq
 replace Q1 := Q1.mo hq
 replace Q2 := Q2.mo hq
 replace Q3 := Q3.mo hq
 replace Q4 := Q4.mo hq
 replace M := M.trans hq
 clear hq
 refine wl_alloc 65 #[.int .u64 0, .int .u64 0, .int .u64 0, .int .u64 0, .int .u64 0, .int .u64 0, .int .u64 0, .int .u64 0] rfl (fun _ => by kernel_rfl) rfl ?_
 intro k5 w9 hk hz hq Q5
 have ne_k1_k5 : k1 ≠ k5 := by have := Q1.lt; omega
 have ne_k2_k5 : k2 ≠ k5 := by have := Q2.lt; omega
 have ne_k3_k5 : k3 ≠ k5 := by have := Q3.lt; omega
 have ne_k4_k5 : k4 ≠ k5 := by have := Q4.lt; omega
 have N_k5 : w.heap.size ≤ k5 := by have := M.size; omega
 replace Q1 := Q1.mo hq
 replace Q2 := Q2.mo hq
 replace Q3 := Q3.mo hq
 replace Q4 := Q4.mo hq
 replace M := M.trans hq
 clear hk hz hq
 refine wl_st 65 (.tmp 9) (.tmp 35) k5 0 (dwr (m * 10 ^ j)) _ (dwl (m * 10 ^ j)) Q5 rfl rfl rfl rfl rfl sz87 rfl rfl rfl ?_
 intro w10 hS Qn
 replace Q5 := Qn
 clear Qn
 replace Q1 := hS.other _ _ ne_k1_k5 Q1
 replace Q2 := hS.other _ _ ne_k2_k5 Q2
 replace Q3 := hS.other _ _ ne_k3_k5 Q3
 replace Q4 := hS.other _ _ ne_k4_k5 Q4
 replace M := hS.mo _ N_k5 M
 clear hS
 refine w_nil (xn_then (w_seq (w_seq (w_reg ?_))))
 refine wl_f 33 0 (.tmp 2) (pt k1 0) (pt k1 0) ?_
 refine wl_l 4 (.tmp 36) (pt k1 0) (.bool bu) (run_one Q1 4 0 rfl Try.underlying4 rfl) ?_
 refine wl_f 33 0 (.tmp 3) (pt k2 0) (pt k2 0) ?_
 refine wl_l 4 (.tmp 38) (pt k2 0) (.bool bv) (run_one Q2 4 0 rfl Try.underlying4 rfl) ?_
 refine wl_b .eql 4 (.tmp 37) (.tmp 39) (.bool bu) (.bool bv) (.bool false) (eqb_run hb _ _ _) ?_
 refine w_nil (xn_then (w_condF rfl (w_skip (xn_then (w_seq (w_seq (w_reg ?_)))))))
 refine wl_l 65 (.tmp 8) (pt k4 0) (dw (n * 10 ^ i)) (run_row Q4 65 0 8 (dwl (n * 10 ^ i)) rfl Try.underlying65 rfl sz87) ?_
 refine wl_l 65 (.tmp 9) (pt k5 0) (dw (m * 10 ^ j)) (run_row Q5 65 0 8 (dwl (m * 10 ^ j)) rfl Try.underlying65 rfl sz87) ?_
 refine wl_call 42 [(.tmp 50), (.tmp 51)] _ [dw (n * 10 ^ i), dw (m * 10 ^ j)] (.int .i64 (cm (n * 10 ^ i) (m * 10 ^ j))) rfl rfl (fun _ _ => by kernel_rfl) (rcmpw_n (n * 10 ^ i) (m * 10 ^ j) _ bX.1 bX.2 bY.1 bY.2) rfl ?_
 intro w11 hq
 replace Q1 := Q1.mo hq
 replace Q2 := Q2.mo hq
 replace Q3 := Q3.mo hq
 replace Q4 := Q4.mo hq
 replace Q5 := Q5.mo hq
 replace M := M.trans hq
 clear hq
 refine wl_b .geq 3 (.tmp 52) (.const (.int .i64 (0))) (.int .i64 (cm (n * 10 ^ i) (m * 10 ^ j))) (.int .i64 (0)) (.bool false) (geqi_run hc _ _ _) ?_
 refine w_nil (xn_then (w_condF rfl (w_skip (xn_then (w_seq ?_)))))
 refine w_any 9 [.inl (pt k2 0), .inl (.bool bv), .inl (dw (m * 10 ^ j)), .inl (dw (n * 10 ^ i)), .inl (dw (m * 10 ^ j - n * 10 ^ i)), .inl (.int .i64 (S)), .inl (.tuple #[.agg #[d0, d1, d2, d3, d4, d5], .int .i64 e]), .inl (.agg #[d0, d1, d2, d3, d4, d5]), .inl (.int .i64 e)] [] (by kernel_rfl) (by kernel_rfl) (by kernel_rfl) (by kernel_rfl) rfl (by kernel_rfl) (by kernel_rfl) late_nil ?_ ?_ ?_
 ·exact Ds.none rfl
 ·refine ea_cons ?_ (ea_cons ?_ (ea_cons ?_ (ea_cons ?_ (ea_cons ?_ (ea_cons ?_ (ea_cons ?_ (ea_cons ?_ (ea_cons ?_ (ea_nil)))))))))
  ·exact og_eq _ rfl (fun f wf hq hd K hK => go_run rfl (wo_un (fun v => Instr.fieldAt 33 v 0) (.tmp 3) (pt k2 0) (pt k2 0) (fun _ => rfl) rfl (by kernel_rfl) (hK _ (Mo.refl _))))
  ·exact og_eq _ rfl (fun f wf hq hd K hK => have Q2 := Q2.mo hq; go_run rfl (wo_load 4 (.tmp 63) (pt k2 0) (.bool bv) rfl (hd 0 rfl) (run_one Q2 4 0 rfl Try.underlying4 rfl) (hK _ (Mo.refl _))))
  ·exact og_eq _ rfl (fun f wf hq hd K hK => have Q5 := Q5.mo hq; go_run rfl (wo_load 65 (.tmp 9) (pt k5 0) (dw (m * 10 ^ j)) rfl rfl (run_row Q5 65 0 8 (dwl (m * 10 ^ j)) rfl Try.underlying65 rfl sz87) (hK _ (Mo.refl _))))
  ·exact og_eq _ rfl (fun f wf hq hd K hK => have Q4 := Q4.mo hq; go_run rfl (wo_load 65 (.tmp 8) (pt k4 0) (dw (n * 10 ^ i)) rfl rfl (run_row Q4 65 0 8 (dwl (n * 10 ^ i)) rfl Try.underlying65 rfl sz87) (hK _ (Mo.refl _))))
  ·exact og_eq _ rfl (fun f wf hq hd K hK => go_run rfl (wo_call 80 [(.tmp 65), (.tmp 66)] _ [dw (m * 10 ^ j), dw (n * 10 ^ i)] (dw (m * 10 ^ j - n * 10 ^ i)) rfl (li2 (hd 2 rfl) (hd 3 rfl)) (fun _ _ => by kernel_rfl) (minus_n (m * 10 ^ j) (n * 10 ^ i) _ bY.1 bY.2 bX.1 bX.2) hK))
  ·exact og_eq _ rfl (fun f wf hq hd K hK => go_run rfl (wo_mv (.tmp 7) (.int .i64 (S)) (fun _ => rfl) rfl (hK _ (Mo.refl _))))
  ·exact og_eq _ rfl (fun f wf hq hd K hK => go_run rfl (wo_call 78 [(.tmp 64), (.tmp 67), (.tmp 68)] _ [.bool bv, dw (m * 10 ^ j - n * 10 ^ i), .int .i64 (S)] (.tuple #[.agg #[d0, d1, d2, d3, d4, d5], .int .i64 e]) rfl (li3 (hd 1 rfl) (hd 4 rfl) (hd 5 rfl)) (fun _ _ => by kernel_rfl) (hfit _) hK))
  ·exact og_eq _ rfl (fun f wf hq hd K hK => go_run rfl (wo_un (fun v => Instr.extract v 0) (.tmp 69) (.tuple #[.agg #[d0, d1, d2, d3, d4, d5], .int .i64 e]) (.agg #[d0, d1, d2, d3, d4, d5]) (fun _ => rfl) (hd 6 rfl) (by kernel_rfl) (hK _ (Mo.refl _))))
  ·exact og_eq _ rfl (fun f wf hq hd K hK => go_run rfl (wo_un (fun v => Instr.extract v 1) (.tmp 69) (.tuple #[.agg #[d0, d1, d2, d3, d4, d5], .int .i64 e]) (.int .i64 e) (fun _ => rfl) (hd 6 rfl) (by kernel_rfl) (hK _ (Mo.refl _))))
 intro kf12 w12 hq hR hne
 replace Q1 := Q1.mo hq
 replace Q2 := Q2.mo hq
 replace Q3 := Q3.mo hq
 replace Q4 := Q4.mo hq
 replace Q5 := Q5.mo hq
 replace M := M.trans hq
 clear hq hR hne
 refine wl_st 33 (.tmp 4) (.tmp 70) k3 0 #[d0, d1, d2, d3, d4, d5] _ [d0, d1, d2, d3, d4, d5] Q3 rfl rfl rfl rfl rfl sz40 hd rfl rfl ?_
 intro w13 hS Qn
 replace Q3 := Qn
 clear Qn
 replace Q1 := hS.other _ _ ne_k1_k3 Q1
 replace Q2 := hS.other _ _ ne_k2_k3 Q2
 replace Q4 := hS.other _ _ ne_k3_k4.symm Q4
 replace Q5 := hS.other _ _ ne_k3_k5.symm Q5
 replace M := hS.mo _ N_k3 M
 clear hS
 refine wl_m (.tmp 71) (.int .i64 e) ?_
 refine w_nil (xn_then (w_ret ?_))
 exact w_ret2 _ _ (.agg #[d0, d1, d2, d3, d4, d5]) (.int .i64 e) rfl ⟨k3, rfl, (run_row Q3 33 0 6 _ rfl Try.underlying33 rfl sz40)⟩ rfl ⟨rfl, M⟩
theorem radd_ge (bu bv : Bool) (n m s t S : Int) (i j : Nat) (d0 d1 d2 d3 d4 d5 : Value) (e : Int) (w : World) (hn0 : 0 ≤ n) (hn : n < MM) (hm0 : 0 ≤ m) (hm : m < MM) (h1 : ck bu n s = 0) (h2 : ck bv m t = 0) (hS : max s t = S) (hi : S - s = (i : Int)) (hj : S - t = (j : Int)) (hi7 : i ≤ 18) (hj7 : j ≤ 18) (hb : (bu == bv) = false) (hc : decide (cm (n * 10 ^ i) (m * 10 ^ j) ≥ 0) = true)
  (hd : [d0, d1, d2, d3, d4, d5].all (·.oneCell') = true)
  (hfit : ∀ w, Calls Try.prog 78 #[.bool bu, dw (n * 10 ^ i - m * 10 ^ j), .int .i64 S] w fun e' w' => e' = .returned (.tuple #[.agg #[d0, d1, d2, d3, d4, d5], .int .i64 e]) ∧ Mo w w') :
  Calls Try.prog 55 #[dc bu n s, dc bv m t] w fun e' w' => e' = .returned (.tuple #[.agg #[d0, d1, d2, d3, d4, d5], .int .i64 e]) ∧ Mo w w' := by
 have bX := lifted_bd hn0 hn (i := i) (by omega)
 have bY := lifted_bd hm0 hm (i := j) (by omega)
 refine w_enter 72 Try.func55 Try.ntmps55 rfl rfl ?_
 have M : Mo w w := Mo.refl _
 refine w_seq (w_reg ?_)
 refine wl_box 33 (.tmp 0) (dc bu (n) (s)) ((dcr bu (n) (s))) rfl rfl (fun _ => by kernel_rfl) rfl ?_
 intro k1 w1 hk hz hq Q1
 have N_k1 : w.heap.size ≤ k1 := by have := M.size; omega
 replace M := M.trans hq
 clear hk hz hq
 refine wl_box 33 (.tmp 1) (dc bv (m) (t)) ((dcr bv (m) (t))) rfl rfl (fun _ => by kernel_rfl) rfl ?_
 intro k2 w2 hk hz hq Q2
 have ne_k1_k2 : k1 ≠ k2 := by have := Q1.lt; omega
 have N_k2 : w.heap.size ≤ k2 := by have := M.size; omega
 replace Q1 := Q1.mo hq
 replace M := M.trans hq
 clear hk hz hq
 refine wl_alloc 33 #[.bool false, .int .u64 0, .int .u64 0, .int .u64 0, .int .u64 0, .int .i64 0] rfl (fun _ => by kernel_rfl) rfl ?_
 intro k3 w3 hk hz hq Q3
 have ne_k1_k3 : k1 ≠ k3 := by have := Q1.lt; omega
 have ne_k2_k3 : k2 ≠ k3 := by have := Q2.lt; omega
 have N_k3 : w.heap.size ≤ k3 := by have := M.size; omega
 replace Q1 := Q1.mo hq
 replace Q2 := Q2.mo hq
 replace M := M.trans hq
 clear hk hz hq
 refine wl_m (.const (.int .i64 (0))) (.int .i64 (0)) ?_
 refine w_nil (xn_then (w_seq (w_seq (w_reg ?_))))
 refine wl_l 33 (.tmp 2) (pt k1 0) (dc bu (n) (s)) (run_row Q1 33 0 6 (dcl bu (n) (s)) rfl Try.underlying33 rfl sz40) ?_
 refine wl_l 33 (.tmp 3) (pt k2 0) (dc bv (m) (t)) (run_row Q2 33 0 6 (dcl bv (m) (t)) rfl Try.underlying33 rfl sz40) ?_
 refine wl_call 40 [(.tmp 10), (.tmp 11)] _ [dc bu (n) (s), dc bv (m) (t)] (.int .i64 (0)) rfl rfl (fun _ _ => by kernel_rfl) (rboth_ok bu n s bv m t _ hn0 hn hm0 hm h1 h2) rfl ?_
 intro w4 hq
 replace Q1 := Q1.mo hq
 replace Q2 := Q2.mo hq
 replace Q3 := Q3.mo hq
 replace M := M.trans hq
 clear hq
 refine wl_m (.tmp 12) (.int .i64 (0)) ?_
 refine w_nil (xn_then (w_seq (w_reg ?_)))
 refine wl_m (.tmp 6) (.int .i64 (0)) ?_
 refine wl_b .neq 26 (.tmp 13) (.const (.int .i64 (0))) (.int .i64 (0)) (.int .i64 (0)) (.bool false) (by kernel_rfl) ?_
 refine w_nil (xn_then (w_condF rfl (w_skip (xn_then (w_seq (w_reg ?_))))))
 refine wl_f 33 2 (.tmp 2) (pt k1 0) (pt k1 5) ?_
 refine wl_l 3 (.tmp 17) (pt k1 5) (.int .i64 (s)) (run_one Q1 3 5 rfl Try.underlying3 rfl) ?_
 refine wl_f 33 2 (.tmp 3) (pt k2 0) (pt k2 5) ?_
 refine wl_l 3 (.tmp 19) (pt k2 5) (.int .i64 (t)) (run_one Q2 3 5 rfl Try.underlying3 rfl) ?_
 refine wl_val (.int .i64 (S)) (by rw [← hS]; exact max_run _ _ _ _ _ rfl rfl _ _ _ _ _ _) rfl ?_
 refine wl_m (.tmp 21) (.int .i64 (S)) ?_
 refine w_nil (xn_then (w_seq (w_reg ?_)))
 refine wl_f 33 1 (.tmp 2) (pt k1 0) (pt k1 1) ?_
 refine wl_l 31 (.tmp 22) (pt k1 1) (.agg #[.int .u64 (l0 (n)), .int .u64 (l1 (n)), .int .u64 (l2 (n)), .int .u64 (l3 (n))]) (run_row Q1 31 1 4 _ rfl Try.underlying31 rfl sz24) ?_
 refine wl_m (.tmp 7) (.int .i64 (S)) ?_
 refine wl_f 33 2 (.tmp 2) (pt k1 0) (pt k1 5) ?_
 refine wl_l 3 (.tmp 25) (pt k1 5) (.int .i64 (s)) (run_one Q1 3 5 rfl Try.underlying3 rfl) ?_
 refine wl_b .sub 3 (.tmp 24) (.tmp 26) (.int .i64 (S)) (.int .i64 (s)) (.int .i64 ((i : Int))) (sub3_run hi (by omega) (by omega) _ _ _) ?_
 refine wl_call 41 [(.tmp 23), (.tmp 27)] _ [.agg #[.int .u64 (l0 (n)), .int .u64 (l1 (n)), .int .u64 (l2 (n)), .int .u64 (l3 (n))], .int .i64 ((i : Int))] (dw (n * 10 ^ i)) rfl rfl (fun _ _ => by kernel_rfl) (shift_n n i _ hn0 hn (by omega)) rfl ?_
 intro w5 hq
 replace Q1 := Q1.mo hq
 replace Q2 := Q2.mo hq
 replace Q3 := Q3.mo hq
 replace M := M.trans hq
 clear hq
 refine wl_alloc 65 #[.int .u64 0, .int .u64 0, .int .u64 0, .int .u64 0, .int .u64 0, .int .u64 0, .int .u64 0, .int .u64 0] rfl (fun _ => by kernel_rfl) rfl ?_
 intro k4 w6 hk hz hq Q4
 have ne_k1_k4 : k1 ≠ k4 := by have := Q1.lt; omega
 have ne_k2_k4 : k2 ≠ k4 := by have := Q2.lt; omega
 have ne_k3_k4 : k3 ≠ k4 := by have := Q3.lt; omega
 have N_k4 : w.heap.size ≤ k4 := by have := M.size; omega
 replace Q1 := Q1.mo hq
 replace Q2 := Q2.mo hq
 replace Q3 := Q3.mo hq
 replace M := M.trans hq
 clear hk hz hq
 refine wl_st 65 (.tmp 8) (.tmp 28) k4 0 (dwr (n * 10 ^ i)) _ (dwl (n * 10 ^ i)) Q4 rfl rfl rfl rfl rfl sz87 rfl rfl rfl ?_
 intro w7 hS Qn
 replace Q4 := Qn
 clear Qn
 replace Q1 := hS.other _ _ ne_k1_k4 Q1
 replace Q2 := hS.other _ _ ne_k2_k4 Q2
 replace Q3 := hS.other _ _ ne_k3_k4 Q3
 replace M := hS.mo _ N_k4 M
 clear hS
 refine w_nil (xn_then (w_seq (w_reg ?_)))
 refine wl_f 33 1 (.tmp 3) (pt k2 0) (pt k2 1) ?_
 refine wl_l 31 (.tmp 29) (pt k2 1) (.agg #[.int .u64 (l0 (m)), .int .u64 (l1 (m)), .int .u64 (l2 (m)), .int .u64 (l3 (m))]) (run_row Q2 31 1 4 _ rfl Try.underlying31 rfl sz24) ?_
 refine wl_m (.tmp 7) (.int .i64 (S)) ?_
 refine wl_f 33 2 (.tmp 3) (pt k2 0) (pt k2 5) ?_
 refine wl_l 3 (.tmp 32) (pt k2 5) (.int .i64 (t)) (run_one Q2 3 5 rfl Try.underlying3 rfl) ?_
 refine wl_b .sub 3 (.tmp 31) (.tmp 33) (.int .i64 (S)) (.int .i64 (t)) (.int .i64 ((j : Int))) (sub3_run hj (by omega) (by omega) _ _ _) ?_
 refine wl_call 41 [(.tmp 30), (.tmp 34)] _ [.agg #[.int .u64 (l0 (m)), .int .u64 (l1 (m)), .int .u64 (l2 (m)), .int .u64 (l3 (m))], .int .i64 ((j : Int))] (dw (m * 10 ^ j)) rfl rfl (fun _ _ => by kernel_rfl) (shift_n m j _ hm0 hm (by omega)) rfl ?_
 intro w8 hq
 replace Q1 := Q1.mo hq
 replace Q2 := Q2.mo hq
 replace Q3 := Q3.mo hq
 replace Q4 := Q4.mo hq
 replace M := M.trans hq
 clear hq
 refine wl_alloc 65 #[.int .u64 0, .int .u64 0, .int .u64 0, .int .u64 0, .int .u64 0, .int .u64 0, .int .u64 0, .int .u64 0] rfl (fun _ => by kernel_rfl) rfl ?_
 intro k5 w9 hk hz hq Q5
 have ne_k1_k5 : k1 ≠ k5 := by have := Q1.lt; omega
 have ne_k2_k5 : k2 ≠ k5 := by have := Q2.lt; omega
 have ne_k3_k5 : k3 ≠ k5 := by have := Q3.lt; omega
 have ne_k4_k5 : k4 ≠ k5 := by have := Q4.lt; omega
 have N_k5 : w.heap.size ≤ k5 := by have := M.size; omega
 replace Q1 := Q1.mo hq
 replace Q2 := Q2.mo hq
 replace Q3 := Q3.mo hq
 replace Q4 := Q4.mo hq
 replace M := M.trans hq
 clear hk hz hq
 refine wl_st 65 (.tmp 9) (.tmp 35) k5 0 (dwr (m * 10 ^ j)) _ (dwl (m * 10 ^ j)) Q5 rfl rfl rfl rfl rfl sz87 rfl rfl rfl ?_
 intro w10 hS Qn
 replace Q5 := Qn
 clear Qn
 replace Q1 := hS.other _ _ ne_k1_k5 Q1
 replace Q2 := hS.other _ _ ne_k2_k5 Q2
 replace Q3 := hS.other _ _ ne_k3_k5 Q3
 replace Q4 := hS.other _ _ ne_k4_k5 Q4
 replace M := hS.mo _ N_k5 M
 clear hS
 refine w_nil (xn_then (w_seq (w_seq (w_reg ?_))))
 refine wl_f 33 0 (.tmp 2) (pt k1 0) (pt k1 0) ?_
 refine wl_l 4 (.tmp 36) (pt k1 0) (.bool bu) (run_one Q1 4 0 rfl Try.underlying4 rfl) ?_
 refine wl_f 33 0 (.tmp 3) (pt k2 0) (pt k2 0) ?_
 refine wl_l 4 (.tmp 38) (pt k2 0) (.bool bv) (run_one Q2 4 0 rfl Try.underlying4 rfl) ?_
 refine wl_b .eql 4 (.tmp 37) (.tmp 39) (.bool bu) (.bool bv) (.bool false) (eqb_run hb _ _ _) ?_
 refine w_nil (xn_then (w_condF rfl (w_skip (xn_then (w_seq (w_seq (w_reg ?_)))))))
 refine wl_l 65 (.tmp 8) (pt k4 0) (dw (n * 10 ^ i)) (run_row Q4 65 0 8 (dwl (n * 10 ^ i)) rfl Try.underlying65 rfl sz87) ?_
 refine wl_l 65 (.tmp 9) (pt k5 0) (dw (m * 10 ^ j)) (run_row Q5 65 0 8 (dwl (m * 10 ^ j)) rfl Try.underlying65 rfl sz87) ?_
 refine wl_call 42 [(.tmp 50), (.tmp 51)] _ [dw (n * 10 ^ i), dw (m * 10 ^ j)] (.int .i64 (cm (n * 10 ^ i) (m * 10 ^ j))) rfl rfl (fun _ _ => by kernel_rfl) (rcmpw_n (n * 10 ^ i) (m * 10 ^ j) _ bX.1 bX.2 bY.1 bY.2) rfl ?_
 intro w11 hq
 replace Q1 := Q1.mo hq
 replace Q2 := Q2.mo hq
 replace Q3 := Q3.mo hq
 replace Q4 := Q4.mo hq
 replace Q5 := Q5.mo hq
 replace M := M.trans hq
 clear hq
 refine wl_b .geq 3 (.tmp 52) (.const (.int .i64 (0))) (.int .i64 (cm (n * 10 ^ i) (m * 10 ^ j))) (.int .i64 (0)) (.bool true) (geqi_run hc _ _ _) ?_
 refine w_nil (xn_then (w_condT rfl (w_seq ?_)))
 refine w_any 9 [.inl (pt k1 0), .inl (.bool bu), .inl (dw (n * 10 ^ i)), .inl (dw (m * 10 ^ j)), .inl (dw (n * 10 ^ i - m * 10 ^ j)), .inl (.int .i64 (S)), .inl (.tuple #[.agg #[d0, d1, d2, d3, d4, d5], .int .i64 e]), .inl (.agg #[d0, d1, d2, d3, d4, d5]), .inl (.int .i64 e)] [] (by kernel_rfl) (by kernel_rfl) (by kernel_rfl) (by kernel_rfl) rfl (by kernel_rfl) (by kernel_rfl) late_nil ?_ ?_ ?_
 ·exact Ds.none rfl
 ·refine ea_cons ?_ (ea_cons ?_ (ea_cons ?_ (ea_cons ?_ (ea_cons ?_ (ea_cons ?_ (ea_cons ?_ (ea_cons ?_ (ea_cons ?_ (ea_nil)))))))))
  ·exact og_eq _ rfl (fun f wf hq hd K hK => go_run rfl (wo_un (fun v => Instr.fieldAt 33 v 0) (.tmp 2) (pt k1 0) (pt k1 0) (fun _ => rfl) rfl (by kernel_rfl) (hK _ (Mo.refl _))))
  ·exact og_eq _ rfl (fun f wf hq hd K hK => have Q1 := Q1.mo hq; go_run rfl (wo_load 4 (.tmp 54) (pt k1 0) (.bool bu) rfl (hd 0 rfl) (run_one Q1 4 0 rfl Try.underlying4 rfl) (hK _ (Mo.refl _))))
  ·exact og_eq _ rfl (fun f wf hq hd K hK => have Q4 := Q4.mo hq; go_run rfl (wo_load 65 (.tmp 8) (pt k4 0) (dw (n * 10 ^ i)) rfl rfl (run_row Q4 65 0 8 (dwl (n * 10 ^ i)) rfl Try.underlying65 rfl sz87) (hK _ (Mo.refl _))))
  ·exact og_eq _ rfl (fun f wf hq hd K hK => have Q5 := Q5.mo hq; go_run rfl (wo_load 65 (.tmp 9) (pt k5 0) (dw (m * 10 ^ j)) rfl rfl (run_row Q5 65 0 8 (dwl (m * 10 ^ j)) rfl Try.underlying65 rfl sz87) (hK _ (Mo.refl _))))
  ·exact og_eq _ rfl (fun f wf hq hd K hK => go_run rfl (wo_call 80 [(.tmp 56), (.tmp 57)] _ [dw (n * 10 ^ i), dw (m * 10 ^ j)] (dw (n * 10 ^ i - m * 10 ^ j)) rfl (li2 (hd 2 rfl) (hd 3 rfl)) (fun _ _ => by kernel_rfl) (minus_n (n * 10 ^ i) (m * 10 ^ j) _ bX.1 bX.2 bY.1 bY.2) hK))
  ·exact og_eq _ rfl (fun f wf hq hd K hK => go_run rfl (wo_mv (.tmp 7) (.int .i64 (S)) (fun _ => rfl) rfl (hK _ (Mo.refl _))))
  ·exact og_eq _ rfl (fun f wf hq hd K hK => go_run rfl (wo_call 78 [(.tmp 55), (.tmp 58), (.tmp 59)] _ [.bool bu, dw (n * 10 ^ i - m * 10 ^ j), .int .i64 (S)] (.tuple #[.agg #[d0, d1, d2, d3, d4, d5], .int .i64 e]) rfl (li3 (hd 1 rfl) (hd 4 rfl) (hd 5 rfl)) (fun _ _ => by kernel_rfl) (hfit _) hK))
  ·exact og_eq _ rfl (fun f wf hq hd K hK => go_run rfl (wo_un (fun v => Instr.extract v 0) (.tmp 60) (.tuple #[.agg #[d0, d1, d2, d3, d4, d5], .int .i64 e]) (.agg #[d0, d1, d2, d3, d4, d5]) (fun _ => rfl) (hd 6 rfl) (by kernel_rfl) (hK _ (Mo.refl _))))
  ·exact og_eq _ rfl (fun f wf hq hd K hK => go_run rfl (wo_un (fun v => Instr.extract v 1) (.tmp 60) (.tuple #[.agg #[d0, d1, d2, d3, d4, d5], .int .i64 e]) (.int .i64 e) (fun _ => rfl) (hd 6 rfl) (by kernel_rfl) (hK _ (Mo.refl _))))
 intro kf12 w12 hq hR hne
 replace Q1 := Q1.mo hq
 replace Q2 := Q2.mo hq
 replace Q3 := Q3.mo hq
 replace Q4 := Q4.mo hq
 replace Q5 := Q5.mo hq
 replace M := M.trans hq
 clear hq hR hne
 refine wl_st 33 (.tmp 4) (.tmp 61) k3 0 #[d0, d1, d2, d3, d4, d5] _ [d0, d1, d2, d3, d4, d5] Q3 rfl rfl rfl rfl rfl sz40 hd rfl rfl ?_
 intro w13 hS Qn
 replace Q3 := Qn
 clear Qn
 replace Q1 := hS.other _ _ ne_k1_k3 Q1
 replace Q2 := hS.other _ _ ne_k2_k3 Q2
 replace Q4 := hS.other _ _ ne_k3_k4.symm Q4
 replace Q5 := hS.other _ _ ne_k3_k5.symm Q5
 replace M := hS.mo _ N_k3 M
 clear hS
 refine wl_m (.tmp 62) (.int .i64 e) ?_
 refine w_nil (xn_then (w_ret (xr_then ?_)))
 exact w_ret2 _ _ (.agg #[d0, d1, d2, d3, d4, d5]) (.int .i64 e) rfl ⟨k3, rfl, (run_row Q3 33 0 6 _ rfl Try.underlying33 rfl sz40)⟩ rfl ⟨rfl, M⟩
theorem radd_z (u s v t : Int) (w : World) (hu : ab u < MM) (hv : ab v < MM) (hs : sc s = true) (ht : sc t = true) :
  Calls Try.prog 55 #[dz u s, dz v t] w fun e w' => e = .returned (fz (addV u s v t) (max s t)) ∧ Mo w w' := by
 obtain ⟨s0, s1⟩ := sc_iff.1 hs
 obtain ⟨t0, t1⟩ := sc_iff.1 ht
 obtain ⟨S, hS⟩ : ∃ S, max s t = S := ⟨_, rfl⟩
 obtain ⟨i, hi⟩ : ∃ i : Nat, S - s = (i : Int) := ⟨(S - s).toNat, by omega⟩
 obtain ⟨j, hj⟩ : ∃ j : Nat, S - t = (j : Int) := ⟨(S - t).toNat, by omega⟩
 unfold addV
 rw [hS, hi, hj, pw_nat, pw_nat]
 have pi : (0 : Int) < 10 ^ i := Int.pow_pos (by decide)
 have pj : (0 : Int) < 10 ^ j := Int.pow_pos (by decide)
 have bX := lifted_bd (ab_nn u) hu (i := i) (by omega)
 have bY := lifted_bd (ab_nn v) hv (i := j) (by omega)
 have bX2 := lifted_sm (ab_nn u) hu (i := i) (by omega)
 have bY2 := lifted_sm (ab_nn v) hv (i := j) (by omega)
 have eX := ab_mul (u := u) pi
 have eY := ab_mul (u := v) pj
 have nX := neg_mul_iff (u := u) pi
 have nY := neg_mul_iff (u := v) pj
 have key : ∀ (b : Bool) (X : Int), X = ab (u * 10 ^ i + v * 10 ^ j) → X < MM * MM → (X ≠ 0 → b = decide (u * 10 ^ i + v * 10 ^ j < 0)) → ∀ w, Calls Try.prog 78 #[.bool b, dw X, .int .i64 S] w fun e w' => e = .returned (fz (u * 10 ^ i + v * 10 ^ j) S) ∧ Mo w w' :=
  fun b X h1 h2 h3 w => rat_z b X S _ w h1 h2 h3
 obtain ⟨V, hV⟩ : ∃ V, u * 10 ^ i + v * 10 ^ j = V := ⟨_, rfl⟩
 rw [hV] at key ⊢
 obtain ⟨A, hA⟩ : ∃ A, u * 10 ^ i = A := ⟨_, rfl⟩
 obtain ⟨B, hB⟩ : ∃ B, v * 10 ^ j = B := ⟨_, rfl⟩
 rw [hA, hB] at hV
 rw [hA] at eX nX
 rw [hB] at eY nY
 have go : ∀ (d0 d1 d2 d3 d4 d5 : Value) (e : Int), fz V S = .tuple #[.agg #[d0, d1, d2, d3, d4, d5], .int .i64 e] → [d0, d1, d2, d3, d4, d5].all (·.oneCell') = true →
   Calls Try.prog 55 #[dz u s, dz v t] w fun e w' => e = .returned (fz V S) ∧ Mo w w' := by
  intro d0 d1 d2 d3 d4 d5 e he hd
  rw [he] at key ⊢
  have cA := ab_c A
  have cB := ab_c B
  have cV := ab_c V
  by_cases hb : (decide (u < 0) == decide (v < 0)) = true
  ·have bS : ab u * 10 ^ i + ab v * 10 ^ j < MM * MM := by unfold MM at *; omega
   have hab : (A < 0) ↔ (B < 0) := by
    have : decide (A < 0) = decide (B < 0) := by rw [nX, nY]; simpa using hb
    simpa using this
   refine radd_same _ _ _ _ s t S i j d0 d1 d2 d3 d4 d5 e w (ab_nn u) hu (ab_nn v) hv (ck_dz hs) (ck_dz ht) hS hi hj (by omega) (by omega) hb hd (key _ _ ?_ bS ?_)
   ·rw [eX, eY]; omega
   ·intro hne
    rw [eX, eY] at hne
    rw [← nX, decide_eq_decide]; omega
  ·have hb : (decide (u < 0) == decide (v < 0)) = false := by simpa using hb
   have hab : ¬ ((A < 0) ↔ (B < 0)) := by
    intro h
    have : decide (A < 0) = decide (B < 0) := decide_eq_decide.2 h
    rw [nX, nY] at this
    rw [this] at hb; simp at hb
   by_cases hlt : ab A < ab B
   ·have bS : ab v * 10 ^ j - ab u * 10 ^ i < MM * MM := by omega
    have hc : decide (cm (ab u * 10 ^ i) (ab v * 10 ^ j) ≥ 0) = false := by rw [eX, eY]; unfold cm; rw [if_pos hlt]; decide
    refine radd_lt _ _ _ _ s t S i j d0 d1 d2 d3 d4 d5 e w (ab_nn u) hu (ab_nn v) hv (ck_dz hs) (ck_dz ht) hS hi hj (by omega) (by omega) hb hc hd (key _ _ ?_ bS ?_)
    ·rw [eX, eY]; omega
    ·intro _
     rw [← nY, decide_eq_decide]; omega
   ·have bS : ab u * 10 ^ i - ab v * 10 ^ j < MM * MM := by omega
    have hc : decide (cm (ab u * 10 ^ i) (ab v * 10 ^ j) ≥ 0) = true := by
     rw [eX, eY]; unfold cm; rw [if_neg hlt]; split <;> decide
    refine radd_ge _ _ _ _ s t S i j d0 d1 d2 d3 d4 d5 e w (ab_nn u) hu (ab_nn v) hv (ck_dz hs) (ck_dz ht) hS hi hj (by omega) (by omega) hb hc hd (key _ _ ?_ bS ?_)
    ·rw [eX, eY]; omega
    ·intro hne
     rw [eX, eY] at hne
     rw [← nX, decide_eq_decide]; omega
 by_cases hr : ab V < MM
 ·exact go _ _ _ _ _ _ _ (by unfold fz; rw [if_pos hr]) (one6 _ _ _)
 ·exact go _ _ _ _ _ _ _ (by unfold fz; rw [if_neg hr]) rfl
theorem rsub_w (b c : Bool) (n m s t : Int) (d0 d1 d2 d3 d4 d5 : Value) (e : Int) (w : World) (hn0 : 0 ≤ n) (hn : n < MM) (hm0 : 0 ≤ m) (hm : m < MM) (h1 : ck b n s = 0) (h2 : ck c m t = 0) (hd : [d0, d1, d2, d3, d4, d5].all (·.oneCell') = true)
  (hadd : ∀ w, Calls Try.prog 55 #[dc b n s, dc (!c && !decide (m = 0)) m t] w fun e' w' => e' = .returned (.tuple #[.agg #[d0, d1, d2, d3, d4, d5], .int .i64 e]) ∧ Mo w w') :
  Calls Try.prog 53 #[dc b n s, dc c m t] w fun e' w' => e' = .returned (.tuple #[.agg #[d0, d1, d2, d3, d4, d5], .int .i64 e]) ∧ Mo w w' := by
 refine w_enter 26 Try.func53 Try.ntmps53 rfl rfl ?_
 have M : Mo w w := Mo.refl _
 refine w_seq (w_reg ?_)
 refine wl_box 33 (.tmp 0) (dc b (n) (s)) ((dcr b (n) (s))) rfl rfl (fun _ => by kernel_rfl) rfl ?_
 intro k1 w1 hk hz hq Q1
 have N_k1 : w.heap.size ≤ k1 := by have := M.size; omega
 replace M := M.trans hq
 clear hk hz hq
 refine wl_box 33 (.tmp 1) (dc c (m) (t)) ((dcr c (m) (t))) rfl rfl (fun _ => by kernel_rfl) rfl ?_
 intro k2 w2 hk hz hq Q2
 have ne_k1_k2 : k1 ≠ k2 := by have := Q1.lt; omega
 have N_k2 : w.heap.size ≤ k2 := by have := M.size; omega
 replace Q1 := Q1.mo hq
 replace M := M.trans hq
 clear hk hz hq
 refine wl_alloc 33 #[.bool false, .int .u64 0, .int .u64 0, .int .u64 0, .int .u64 0, .int .i64 0] rfl (fun _ => by kernel_rfl) rfl ?_
 intro k3 w3 hk hz hq Q3
 have ne_k1_k3 : k1 ≠ k3 := by have := Q1.lt; omega
 have ne_k2_k3 : k2 ≠ k3 := by have := Q2.lt; omega
 have N_k3 : w.heap.size ≤ k3 := by have := M.size; omega
 replace Q1 := Q1.mo hq
 replace Q2 := Q2.mo hq
 replace M := M.trans hq
 clear hk hz hq
 refine wl_m (.const (.int .i64 (0))) (.int .i64 (0)) ?_
 refine w_nil (xn_then (w_seq (w_seq (w_reg ?_))))
 refine wl_l 33 (.tmp 2) (pt k1 0) (dc b (n) (s)) (run_row Q1 33 0 6 (dcl b (n) (s)) rfl Try.underlying33 rfl sz40) ?_
 refine wl_l 33 (.tmp 3) (pt k2 0) (dc c (m) (t)) (run_row Q2 33 0 6 (dcl c (m) (t)) rfl Try.underlying33 rfl sz40) ?_
 refine wl_call 40 [(.tmp 9), (.tmp 10)] _ [dc b (n) (s), dc c (m) (t)] (.int .i64 (0)) rfl rfl (fun _ _ => by kernel_rfl) (rboth_ok b n s c m t _ hn0 hn hm0 hm h1 h2) rfl ?_
 intro w4 hq
 replace Q1 := Q1.mo hq
 replace Q2 := Q2.mo hq
 replace Q3 := Q3.mo hq
 replace M := M.trans hq
 clear hq
 refine wl_m (.tmp 11) (.int .i64 (0)) ?_
 refine w_nil (xn_then (w_seq (w_reg ?_)))
 refine wl_m (.tmp 6) (.int .i64 (0)) ?_
 refine wl_b .neq 26 (.tmp 12) (.const (.int .i64 (0))) (.int .i64 (0)) (.int .i64 (0)) (.bool false) (by kernel_rfl) ?_
 refine w_nil (xn_then (w_condF rfl (w_skip (xn_then (w_seq (w_reg ?_))))))
 refine wl_l 33 (.tmp 3) (pt k2 0) (dc c (m) (t)) (run_row Q2 33 0 6 (dcl c (m) (t)) rfl Try.underlying33 rfl sz40) ?_
 refine wl_call 75 [(.tmp 17)] _ [dc c (m) (t)] (.tuple #[dc (!c && !decide (m = 0)) (m) (t), .int .i64 (0)]) rfl rfl (fun _ _ => by kernel_rfl) (rneg_ok c m t _ hm0 hm h2) rfl ?_
 intro w5 hq
 replace Q1 := Q1.mo hq
 replace Q2 := Q2.mo hq
 replace Q3 := Q3.mo hq
 replace M := M.trans hq
 clear hq
 refine wl_m (.tmp 18) (.tuple #[dc (!c && !decide (m = 0)) (m) (t), .int .i64 (0)]) ?_
 refine wl_un (fun v => Instr.extract v 0) (.tmp 16) (.tuple #[dc (!c && !decide (m = 0)) (m) (t), .int .i64 (0)]) (dc (!c && !decide (m = 0)) (m) (t)) (fun _ => rfl) rfl (by kernel_rfl) rfl ?_
 refine wl_un (fun v => Instr.extract v 1) (.tmp 16) (.tuple #[dc (!c && !decide (m = 0)) (m) (t), .int .i64 (0)]) (.int .i64 (0)) (fun _ => rfl) rfl (by kernel_rfl) rfl ?_
 refine wl_alloc 33 #[.bool false, .int .u64 0, .int .u64 0, .int .u64 0, .int .u64 0, .int .i64 0] rfl (fun _ => by kernel_rfl) rfl ?_
 intro k4 w6 hk hz hq Q4
 have ne_k1_k4 : k1 ≠ k4 := by have := Q1.lt; omega
 have ne_k2_k4 : k2 ≠ k4 := by have := Q2.lt; omega
 have ne_k3_k4 : k3 ≠ k4 := by have := Q3.lt; omega
 have N_k4 : w.heap.size ≤ k4 := by have := M.size; omega
 replace Q1 := Q1.mo hq
 replace Q2 := Q2.mo hq
 replace Q3 := Q3.mo hq
 replace M := M.trans hq
 clear hk hz hq
 refine wl_st 33 (.tmp 7) (.tmp 19) k4 0 (dcr (!c && !decide (m = 0)) (m) (t)) _ (dcl (!c && !decide (m = 0)) (m) (t)) Q4 rfl rfl rfl rfl rfl sz40 rfl rfl rfl ?_
 intro w7 hS Qn
 replace Q4 := Qn
 clear Qn
 replace Q1 := hS.other _ _ ne_k1_k4 Q1
 replace Q2 := hS.other _ _ ne_k2_k4 Q2
 replace Q3 := hS.other _ _ ne_k3_k4 Q3
 replace M := hS.mo _ N_k4 M
 clear hS
 refine wl_m (.tmp 20) (.int .i64 (0)) ?_
 refine w_nil (xn_then (w_seq (w_reg ?_)))
 refine wl_l 33 (.tmp 2) (pt k1 0) (dc b (n) (s)) (run_row Q1 33 0 6 (dcl b (n) (s)) rfl Try.underlying33 rfl sz40) ?_
 refine wl_l 33 (.tmp 7) (pt k4 0) (dc (!c && !decide (m = 0)) (m) (t)) (run_row Q4 33 0 6 (dcl (!c && !decide (m = 0)) (m) (t)) rfl Try.underlying33 rfl sz40) ?_
 refine wl_call 55 [(.tmp 21), (.tmp 22)] _ [dc b (n) (s), dc (!c && !decide (m = 0)) (m) (t)] (.tuple #[.agg #[d0, d1, d2, d3, d4, d5], .int .i64 e]) rfl rfl (fun _ _ => by kernel_rfl) (hadd _) rfl ?_
 intro w8 hq
 replace Q1 := Q1.mo hq
 replace Q2 := Q2.mo hq
 replace Q3 := Q3.mo hq
 replace Q4 := Q4.mo hq
 replace M := M.trans hq
 clear hq
 refine wl_un (fun v => Instr.extract v 0) (.tmp 23) (.tuple #[.agg #[d0, d1, d2, d3, d4, d5], .int .i64 e]) (.agg #[d0, d1, d2, d3, d4, d5]) (fun _ => rfl) rfl (by kernel_rfl) rfl ?_
 refine wl_un (fun v => Instr.extract v 1) (.tmp 23) (.tuple #[.agg #[d0, d1, d2, d3, d4, d5], .int .i64 e]) (.int .i64 e) (fun _ => rfl) rfl (by kernel_rfl) rfl ?_
 refine wl_st 33 (.tmp 4) (.tmp 24) k3 0 #[d0, d1, d2, d3, d4, d5] _ [d0, d1, d2, d3, d4, d5] Q3 rfl rfl rfl rfl rfl sz40 hd rfl rfl ?_
 intro w9 hS Qn
 replace Q3 := Qn
 clear Qn
 replace Q1 := hS.other _ _ ne_k1_k3 Q1
 replace Q2 := hS.other _ _ ne_k2_k3 Q2
 replace Q4 := hS.other _ _ ne_k3_k4.symm Q4
 replace M := hS.mo _ N_k3 M
 clear hS
 refine wl_m (.tmp 25) (.int .i64 e) ?_
 refine w_nil (xn_then (w_ret ?_))
 exact w_ret2 _ _ (.agg #[d0, d1, d2, d3, d4, d5]) (.int .i64 e) rfl ⟨k3, rfl, (run_row Q3 33 0 6 _ rfl Try.underlying33 rfl sz40)⟩ rfl ⟨rfl, M⟩
theorem rsub_z (u s v t : Int) (w : World) (hu : ab u < MM) (hv : ab v < MM) (hs : sc s = true) (ht : sc t = true) :
  Calls Try.prog 53 #[dz u s, dz v t] w fun e w' => e = .returned (fz (addV u s (-v) t) (max s t)) ∧ Mo w w' := by
 have ha := fun w => radd_z u s (-v) t w hu (by rw [ab_neg]; exact hv) hs ht
 rw [← dz_neg] at ha
 by_cases h : ab (addV u s (-v) t) < MM
 ·rw [fz_yes h] at ha ⊢
  exact rsub_w _ _ _ _ s t _ _ _ _ _ _ _ w (ab_nn u) hu (ab_nn v) hv (ck_dz hs) (ck_dz ht) (one6 _ _ _) ha
 ·rw [fz_no h] at ha ⊢
  exact rsub_w _ _ _ _ s t _ _ _ _ _ _ _ w (ab_nn u) hu (ab_nn v) hv (ck_dz hs) (ck_dz ht) rfl ha
end Go.Proofs.Ythehmmhnacomkaa

