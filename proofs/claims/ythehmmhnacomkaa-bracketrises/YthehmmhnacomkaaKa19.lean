/-
  A part of the proof.
-/
import Derived.Test.YthehmmhnacomkaaKa18
import Derived.Test.YthehmmhnacomkaaKa17
import Derived.Test.YthehmmhnacomkaaKa16
import Derived.Test.YthehmmhnacomkaaKa15
import Derived.Test.YthehmmhnacomkaaKa14
import Derived.Test.YthehmmhnacomkaaKa11
import Derived.Test.YthehmmhnacomkaaKa10
import Derived.Test.YthehmmhnacomkaaKa3
import Derived.Test.YthehmmhnacomkaaKa2
import Derived.Test.YthehmmhnacomkaaKa1
import Derived.RegionTactic
import Derived.Test.YthehmmhnacomkaaProg
import Derived.WalkKit
import Derived.WalkSpells
import Derived.Handy
import Derived.BigQuiet
import Derived.Deep.RegionHeld3
import Derived.Deep.MidRow
import Derived.BigCall
import Derived.Test.YthehmmhnacomkaaKa9
import Derived.Test.YthehmmhnacomkaaKa8
import Derived.Test.YthehmmhnacomkaaKa5
import Derived.Test.YthehmmhnacomkaaKa4
import Derived.Shelf.Small.Bits
import Derived.Shelf.Strconv.Itoa0
import Derived.Shelf.Bits.Mul64
import Derived.Deep.CutBlock
import Derived.Deep.CutRange
import Derived.Test.YthehmmhnacomkaaKa7
import Derived.Test.YthehmmhnacomkaaKa6
import Derived.ChangeKeysEq
import Derived.ScopeJumps
import Derived.WalkMore
import Derived.Laws.StructEq
import Derived.Test.YthehmmhnacomkaaKa13
import Derived.Test.YthehmmhnacomkaaKa12
import Derived.Lib.CutLaws
import Derived.Maps.OwnSet
import Derived.WalkArith
import Derived.StringKeys
import Derived.ProofKit
import Derived.OpenShut
import Derived.ChangeArms
import Derived.Deep.Slices
import Derived.ReadAgain
import Derived.WideKeyArgs
import Derived.Maps.AppendAt
namespace Go.Proofs.Ythehmmhnacomkaa
open Go.RowKit D
theorem addst {s t c : Int} (h : s + t = c) (h0 : 0 ≤ c) (h1 : c ≤ 36) (x y : Operand) (w : World) : (do eqGuard .add 3 x y (.int .i64 s) (.int .i64 t); binOp .add 3 (.int .i64 s) (.int .i64 t)).run Try.prog w = .ok (.int .i64 c) w := by
 have q : IntKind.i64.wrap (s + t) = c := by rw [IntKind.wrap_i64]; omega
 simp [go_sem, q]
theorem min_a (ρ : Operand → Value) (x : Operand) (a : Int) (hx : ρ x = .int .i64 a) (hc : ρ (.const (.int .i64 18)) = .int .i64 18) (ats : Array TypeId) (dst : Option Tmp) (type : TypeId) (pos : String) (after : Array Edge) (guard : Option (Nat × Bool)) (w : World) : (execOp ρ { dst, op := .call { callee := .builtin .min, args := #[x, .const (.int .i64 18)], argTypes := ats }, type, pos, after, guard }).run Try.prog w = .ok (.value (.int .i64 (min a 18))) w := by
 have q : (if (18 : Int) < a then 18 else a) = min a 18 := by split <;> omega
 simp [go_sem, hx, hc, Builtin.min_, Builtin.min2, q]
theorem psays_n {s : Stp} {x : Dn} (w : World) (hs : s.fit) (hx : x.fit) : Calls Try.prog 32 #[s.v, x.v] w fun e9 w' => e9 = .returned (saysD s x).v ∧ Mo w w' := by
 refine w_enter 46 Try.func32 Try.ntmps32 rfl rfl ?_
 have M : Mo w w := Mo.refl _
 refine w_seq (w_reg ?_)
 refine wl_box 45 (.tmp 0) _ (((s.cells).toArray)) rfl rfl (fun _ => by kernel_rfl) rfl ?_
 intro k1 u1 hk hz hq Q1
 have N_k1 : w.heap.size ≤ k1 := by have := M.size; omega
 replace M := M.trans hq
 clear hk hz hq
 refine wl_box 33 (.tmp 1) _ (((x.cells).toArray)) rfl rfl (fun _ => by kernel_rfl) rfl ?_
 intro k2 u2 hk hz hq Q2
 have ne_k1_k2 : k1 ≠ k2 := by have := Q1.lt; omega
 have N_k2 : w.heap.size ≤ k2 := by have := M.size; omega
 replace Q1 := Q1.mo hq
 replace M := M.trans hq
 clear hk hz hq
 refine wl_alloc 33 #[.bool false, .int .u64 0, .int .u64 0, .int .u64 0, .int .u64 0, .int .i64 0] rfl (fun _ => by kernel_rfl) rfl ?_
 intro k3 u3 hk hz hq Q3
 have ne_k1_k3 : k1 ≠ k3 := by have := Q1.lt; omega
 have ne_k2_k3 : k2 ≠ k3 := by have := Q2.lt; omega
 have N_k3 : w.heap.size ≤ k3 := by have := M.size; omega
 replace Q1 := Q1.mo hq
 replace Q2 := Q2.mo hq
 replace M := M.trans hq
 clear hk hz hq
 refine wl_m (.const (.int .i64 (0))) (.int .i64 (0)) ?_
 refine w_nil (xn_then (w_seq (w_reg ?_)))
 refine wl_l 33 (.tmp 3) (pt k2 0) (.agg (x.cells).toArray) (run_row Q2 33 0 6 (x.cells) rfl Try.underlying33 rfl sz33) ?_
 refine wl_f 45 0 (.tmp 2) (pt k1 0) (pt k1 0) ?_
 refine wl_l 33 (.tmp 12) (pt k1 0) (.agg (s.a.cells).toArray) (run_row Q1 33 0 6 (s.a.cells) rfl Try.underlying33 rfl sz33) ?_
 refine wl_call 50 [(.tmp 11), (.tmp 13)] _ [.agg (x.cells).toArray, .agg (s.a.cells).toArray] (.tuple #[.agg ((subD x s.a).d.cells).toArray, .int .i64 ((subD x s.a).e)]) rfl rfl (fun _ _ => by kernel_rfl) (psub_n hx hs.1 _) rfl ?_
 intro u4 hq
 replace Q1 := Q1.mo hq
 replace Q2 := Q2.mo hq
 replace Q3 := Q3.mo hq
 replace M := M.trans hq
 clear hq
 refine wl_m (.tmp 14) (.tuple #[.agg ((subD x s.a).d.cells).toArray, .int .i64 ((subD x s.a).e)]) ?_
 refine wl_un (fun v => Instr.extract v 0) (.tmp 10) (.tuple #[.agg ((subD x s.a).d.cells).toArray, .int .i64 ((subD x s.a).e)]) (.agg ((subD x s.a).d.cells).toArray) (fun _ => rfl) rfl (by kernel_rfl) rfl ?_
 refine wl_un (fun v => Instr.extract v 1) (.tmp 10) (.tuple #[.agg ((subD x s.a).d.cells).toArray, .int .i64 ((subD x s.a).e)]) (.int .i64 ((subD x s.a).e)) (fun _ => rfl) rfl (by kernel_rfl) rfl ?_
 refine wl_alloc 33 #[.bool false, .int .u64 0, .int .u64 0, .int .u64 0, .int .u64 0, .int .i64 0] rfl (fun _ => by kernel_rfl) rfl ?_
 intro k4 u5 hk hz hq Q4
 have ne_k1_k4 : k1 ≠ k4 := by have := Q1.lt; omega
 have ne_k2_k4 : k2 ≠ k4 := by have := Q2.lt; omega
 have ne_k3_k4 : k3 ≠ k4 := by have := Q3.lt; omega
 have N_k4 : w.heap.size ≤ k4 := by have := M.size; omega
 replace Q1 := Q1.mo hq
 replace Q2 := Q2.mo hq
 replace Q3 := Q3.mo hq
 replace M := M.trans hq
 clear hk hz hq
 refine wl_st 33 (.tmp 6) (.tmp 15) k4 0 (((subD x s.a).d.cells).toArray) _ ((subD x s.a).d.cells) Q4 rfl rfl rfl rfl rfl sz33 rfl rfl rfl ?_
 intro u6 hS Qn
 replace Q4 := Qn
 clear Qn
 replace Q1 := hS.other _ _ ne_k1_k4 Q1
 replace Q2 := hS.other _ _ ne_k2_k4 Q2
 replace Q3 := hS.other _ _ ne_k3_k4 Q3
 replace M := hS.mo _ N_k4 M
 clear hS
 refine wl_m (.tmp 16) (.int .i64 ((subD x s.a).e)) ?_
 refine w_nil (xn_then (w_seq (w_seq (w_reg ?_))))
 refine wl_m (.tmp 7) (.int .i64 ((subD x s.a).e)) ?_
 cases hf0 : decide ((subD x s.a).e = 0) with
 | true =>
  have hf0p := of_decide_eq_true hf0
  refine wl_b .neq 26 (.tmp 17) (.const (.int .i64 (0))) (.int .i64 ((subD x s.a).e)) (.int .i64 (0)) (.bool false) (ne34 hf0 _ _ _) ?_
  refine w_nil (xn_then (w_condF rfl (w_skip (xn_then (w_seq (w_reg ?_))))))
  refine wl_f 33 2 (.tmp 6) (pt k4 0) (pt k4 5) ?_
  refine wl_l 3 (.tmp 21) (pt k4 5) (.int .i64 ((subD x s.a).d.s)) (run_one Q4 3 5 rfl Try.underlying3 rfl) ?_
  refine wl_f 45 2 (.tmp 2) (pt k1 0) (pt k1 12) ?_
  refine wl_f 33 2 (.tmp 23) (pt k1 12) (pt k1 17) ?_
  refine wl_l 3 (.tmp 24) (pt k1 17) (.int .i64 (s.c.s)) (run_one Q1 3 17 rfl Try.underlying3 rfl) ?_
  have bs1 := ((good_sub hx hs.1).fit hf0p).s
  have bs2 := hs.2.2.s
  refine wl_b .add 3 (.tmp 22) (.tmp 25) (.int .i64 ((subD x s.a).d.s)) (.int .i64 (s.c.s)) (.int .i64 ((subD x s.a).d.s + s.c.s)) (addst rfl (by omega) (by omega) _ _ _) ?_
  refine wl_val (.int .i64 (min ((subD x s.a).d.s + s.c.s) 18)) (min_a _ _ _ (by exact rfl) rfl _ _ _ _ _ _ _) rfl ?_
  refine wl_m (.tmp 27) (.int .i64 (min ((subD x s.a).d.s + s.c.s) 18)) ?_
  refine w_nil (xn_then (w_seq (w_reg ?_)))
  refine wl_l 33 (.tmp 6) (pt k4 0) (.agg ((subD x s.a).d.cells).toArray) (run_row Q4 33 0 6 ((subD x s.a).d.cells) rfl Try.underlying33 rfl sz33) ?_
  refine wl_f 45 2 (.tmp 2) (pt k1 0) (pt k1 12) ?_
  refine wl_l 33 (.tmp 30) (pt k1 12) (.agg (s.c.cells).toArray) (run_row Q1 33 12 6 (s.c.cells) rfl Try.underlying33 rfl sz33) ?_
  refine wl_m (.tmp 8) (.int .i64 (min ((subD x s.a).d.s + s.c.s) 18)) ?_
  refine wl_call 51 [(.tmp 29), (.tmp 31), (.tmp 32), (.const (.int .i64 (2)))] _ [.agg ((subD x s.a).d.cells).toArray, .agg (s.c.cells).toArray, .int .i64 (min ((subD x s.a).d.s + s.c.s) 18), .int .i64 (2)] (.tuple #[.agg ((mulD (subD x s.a).d s.c).d.cells).toArray, .int .i64 ((mulD (subD x s.a).d s.c).e)]) rfl rfl (fun _ _ => by kernel_rfl) (pmul_n ((good_sub hx hs.1).fit hf0p) hs.2.2 _) rfl ?_
  intro u7 hq
  replace Q1 := Q1.mo hq
  replace Q2 := Q2.mo hq
  replace Q3 := Q3.mo hq
  replace Q4 := Q4.mo hq
  replace M := M.trans hq
  clear hq
  refine wl_m (.tmp 33) (.tuple #[.agg ((mulD (subD x s.a).d s.c).d.cells).toArray, .int .i64 ((mulD (subD x s.a).d s.c).e)]) ?_
  refine wl_un (fun v => Instr.extract v 0) (.tmp 28) (.tuple #[.agg ((mulD (subD x s.a).d s.c).d.cells).toArray, .int .i64 ((mulD (subD x s.a).d s.c).e)]) (.agg ((mulD (subD x s.a).d s.c).d.cells).toArray) (fun _ => rfl) rfl (by kernel_rfl) rfl ?_
  refine wl_un (fun v => Instr.extract v 1) (.tmp 28) (.tuple #[.agg ((mulD (subD x s.a).d s.c).d.cells).toArray, .int .i64 ((mulD (subD x s.a).d s.c).e)]) (.int .i64 ((mulD (subD x s.a).d s.c).e)) (fun _ => rfl) rfl (by kernel_rfl) rfl ?_
  refine wl_alloc 33 #[.bool false, .int .u64 0, .int .u64 0, .int .u64 0, .int .u64 0, .int .i64 0] rfl (fun _ => by kernel_rfl) rfl ?_
  intro k5 u8 hk hz hq Q5
  have ne_k1_k5 : k1 ≠ k5 := by have := Q1.lt; omega
  have ne_k2_k5 : k2 ≠ k5 := by have := Q2.lt; omega
  have ne_k3_k5 : k3 ≠ k5 := by have := Q3.lt; omega
  have ne_k4_k5 : k4 ≠ k5 := by have := Q4.lt; omega
  have N_k5 : w.heap.size ≤ k5 := by have := M.size; omega
  replace Q1 := Q1.mo hq
  replace Q2 := Q2.mo hq
  replace Q3 := Q3.mo hq
  replace Q4 := Q4.mo hq
  replace M := M.trans hq
  clear hk hz hq
  refine wl_st 33 (.tmp 9) (.tmp 34) k5 0 (((mulD (subD x s.a).d s.c).d.cells).toArray) _ ((mulD (subD x s.a).d s.c).d.cells) Q5 rfl rfl rfl rfl rfl sz33 rfl rfl rfl ?_
  intro u9 hS Qn
  replace Q5 := Qn
  clear Qn
  replace Q1 := hS.other _ _ ne_k1_k5 Q1
  replace Q2 := hS.other _ _ ne_k2_k5 Q2
  replace Q3 := hS.other _ _ ne_k3_k5 Q3
  replace Q4 := hS.other _ _ ne_k4_k5 Q4
  replace M := hS.mo _ N_k5 M
  clear hS
  refine wl_m (.tmp 35) (.int .i64 ((mulD (subD x s.a).d s.c).e)) ?_
  refine w_nil (xn_then (w_seq (w_seq (w_reg ?_))))
  refine wl_m (.tmp 7) (.int .i64 ((mulD (subD x s.a).d s.c).e)) ?_
  cases hf1 : decide ((mulD (subD x s.a).d s.c).e = 0) with
  | true =>
   have hf1p := of_decide_eq_true hf1
   refine wl_b .neq 26 (.tmp 36) (.const (.int .i64 (0))) (.int .i64 ((mulD (subD x s.a).d s.c).e)) (.int .i64 (0)) (.bool false) (ne34 hf1 _ _ _) ?_
   refine w_nil (xn_then (w_condF rfl (w_skip (xn_then (w_seq (w_reg ?_))))))
   refine wl_l 33 (.tmp 9) (pt k5 0) (.agg ((mulD (subD x s.a).d s.c).d.cells).toArray) (run_row Q5 33 0 6 ((mulD (subD x s.a).d s.c).d.cells) rfl Try.underlying33 rfl sz33) ?_
   refine wl_f 45 1 (.tmp 2) (pt k1 0) (pt k1 6) ?_
   refine wl_l 33 (.tmp 41) (pt k1 6) (.agg (s.b.cells).toArray) (run_row Q1 33 6 6 (s.b.cells) rfl Try.underlying33 rfl sz33) ?_
   refine wl_call 52 [(.tmp 40), (.tmp 42)] _ [.agg ((mulD (subD x s.a).d s.c).d.cells).toArray, .agg (s.b.cells).toArray] (.tuple #[.agg ((addD (mulD (subD x s.a).d s.c).d s.b).d.cells).toArray, .int .i64 ((addD (mulD (subD x s.a).d s.c).d s.b).e)]) rfl rfl (fun _ _ => by kernel_rfl) (padd_n ((good_mul ((good_sub hx hs.1).fit hf0p) hs.2.2).fit hf1p) hs.2.1 _) rfl ?_
   intro u10 hq
   replace Q1 := Q1.mo hq
   replace Q2 := Q2.mo hq
   replace Q3 := Q3.mo hq
   replace Q4 := Q4.mo hq
   replace Q5 := Q5.mo hq
   replace M := M.trans hq
   clear hq
   refine wl_un (fun v => Instr.extract v 0) (.tmp 43) (.tuple #[.agg ((addD (mulD (subD x s.a).d s.c).d s.b).d.cells).toArray, .int .i64 ((addD (mulD (subD x s.a).d s.c).d s.b).e)]) (.agg ((addD (mulD (subD x s.a).d s.c).d s.b).d.cells).toArray) (fun _ => rfl) rfl (by kernel_rfl) rfl ?_
   refine wl_un (fun v => Instr.extract v 1) (.tmp 43) (.tuple #[.agg ((addD (mulD (subD x s.a).d s.c).d s.b).d.cells).toArray, .int .i64 ((addD (mulD (subD x s.a).d s.c).d s.b).e)]) (.int .i64 ((addD (mulD (subD x s.a).d s.c).d s.b).e)) (fun _ => rfl) rfl (by kernel_rfl) rfl ?_
   refine wl_st 33 (.tmp 4) (.tmp 44) k3 0 (((addD (mulD (subD x s.a).d s.c).d s.b).d.cells).toArray) _ ((addD (mulD (subD x s.a).d s.c).d s.b).d.cells) Q3 rfl rfl rfl rfl rfl sz33 rfl rfl rfl ?_
   intro u11 hS Qn
   replace Q3 := Qn
   clear Qn
   replace Q1 := hS.other _ _ ne_k1_k3 Q1
   replace Q2 := hS.other _ _ ne_k2_k3 Q2
   replace Q4 := hS.other _ _ ne_k3_k4.symm Q4
   replace Q5 := hS.other _ _ ne_k3_k5.symm Q5
   replace M := hS.mo _ N_k3 M
   clear hS
   refine wl_m (.tmp 45) (.int .i64 ((addD (mulD (subD x s.a).d s.c).d s.b).e)) ?_
   refine w_nil (xn_then (w_ret ?_))
   exact w_ret2 _ _ (.agg ((addD (mulD (subD x s.a).d s.c).d s.b).d.cells).toArray) (.int .i64 ((addD (mulD (subD x s.a).d s.c).d s.b).e)) rfl ⟨k3, rfl, (run_row Q3 33 0 6 ((addD (mulD (subD x s.a).d s.c).d s.b).d.cells) rfl Try.underlying33 rfl sz33)⟩ rfl ⟨congrArg Ending.returned (by unfold saysD; rw [if_pos hf0p, if_pos hf1p]; try rfl), M⟩
  | false =>
   have hf1p := of_decide_eq_false hf1
   refine wl_b .neq 26 (.tmp 36) (.const (.int .i64 (0))) (.int .i64 ((mulD (subD x s.a).d s.c).e)) (.int .i64 (0)) (.bool true) (ne34 hf1 _ _ _) ?_
   refine w_nil (xn_then (w_condT rfl (w_seq (w_reg ?_))))
   refine wl_build 33 [] [] (.agg #[.bool false, .int .u64 0, .int .u64 0, .int .u64 0, .int .u64 0, .int .i64 0]) rfl rfl (by kernel_rfl) rfl ?_
   refine wl_m (.tmp 7) (.int .i64 ((mulD (subD x s.a).d s.c).e)) ?_
   refine wl_st 33 (.tmp 4) (.tmp 38) k3 0 #[.bool false, .int .u64 0, .int .u64 0, .int .u64 0, .int .u64 0, .int .i64 0] _ [.bool false, .int .u64 0, .int .u64 0, .int .u64 0, .int .u64 0, .int .i64 0] Q3 rfl rfl rfl rfl rfl sz33 rfl rfl rfl ?_
   intro u10 hS Qn
   replace Q3 := Qn
   clear Qn
   replace Q1 := hS.other _ _ ne_k1_k3 Q1
   replace Q2 := hS.other _ _ ne_k2_k3 Q2
   replace Q4 := hS.other _ _ ne_k3_k4.symm Q4
   replace Q5 := hS.other _ _ ne_k3_k5.symm Q5
   replace M := hS.mo _ N_k3 M
   clear hS
   refine wl_m (.tmp 39) (.int .i64 ((mulD (subD x s.a).d s.c).e)) ?_
   refine w_nil (xn_then (w_ret (xr_then ?_)))
   exact w_ret2 _ _ (.agg #[.bool false, .int .u64 0, .int .u64 0, .int .u64 0, .int .u64 0, .int .i64 0]) (.int .i64 ((mulD (subD x s.a).d s.c).e)) rfl ⟨k3, rfl, (run_row Q3 33 0 6 _ rfl Try.underlying33 rfl sz33)⟩ rfl ⟨congrArg Ending.returned (by unfold saysD; rw [if_pos hf0p, if_neg hf1p]; try rfl), M⟩
 | false =>
  have hf0p := of_decide_eq_false hf0
  refine wl_b .neq 26 (.tmp 17) (.const (.int .i64 (0))) (.int .i64 ((subD x s.a).e)) (.int .i64 (0)) (.bool true) (ne34 hf0 _ _ _) ?_
  refine w_nil (xn_then (w_condT rfl (w_seq (w_reg ?_))))
  refine wl_build 33 [] [] (.agg #[.bool false, .int .u64 0, .int .u64 0, .int .u64 0, .int .u64 0, .int .i64 0]) rfl rfl (by kernel_rfl) rfl ?_
  refine wl_m (.tmp 7) (.int .i64 ((subD x s.a).e)) ?_
  refine wl_st 33 (.tmp 4) (.tmp 19) k3 0 #[.bool false, .int .u64 0, .int .u64 0, .int .u64 0, .int .u64 0, .int .i64 0] _ [.bool false, .int .u64 0, .int .u64 0, .int .u64 0, .int .u64 0, .int .i64 0] Q3 rfl rfl rfl rfl rfl sz33 rfl rfl rfl ?_
  intro u7 hS Qn
  replace Q3 := Qn
  clear Qn
  replace Q1 := hS.other _ _ ne_k1_k3 Q1
  replace Q2 := hS.other _ _ ne_k2_k3 Q2
  replace Q4 := hS.other _ _ ne_k3_k4.symm Q4
  replace M := hS.mo _ N_k3 M
  clear hS
  refine wl_m (.tmp 20) (.int .i64 ((subD x s.a).e)) ?_
  refine w_nil (xn_then (w_ret (xr_then ?_)))
  exact w_ret2 _ _ (.agg #[.bool false, .int .u64 0, .int .u64 0, .int .u64 0, .int .u64 0, .int .i64 0]) (.int .i64 ((subD x s.a).e)) rfl ⟨k3, rfl, (run_row Q3 33 0 6 _ rfl Try.underlying33 rfl sz33)⟩ rfl ⟨congrArg Ending.returned (by unfold saysD; rw [if_neg hf0p]; try rfl), M⟩
theorem reach_n {x : Tb} {d : Dn} {m : Nat} {y : Stp} {k2 k3 : Nat} {w : World} (hT : LT w x) (hy : x.st[m]? = some y) (A2 : At w k2 x.cells) (A3 : At w k3 d.cells) (hf : y.a.fit) (hd : d.fit) : Calls Try.prog 31 #[.int .i64 ((m : Nat) : Int), pt k2 0, pt k3 0] w fun e9 w' => e9 = .returned (.bool (decide (cmpD y.a d ≤ 0))) ∧ Mo w w' := by
 have hml := lt_of_get hy
 obtain ⟨bp, op, hpp, hRp⟩ := D.SL.rw hT.sl hy
 refine w_enter 14 Try.func31 Try.ntmps31 rfl rfl ?_
 have M : Mo w w := Mo.refl _
 refine w_seq (w_reg ?_)
 refine wl_m (.const (.bool false)) (.bool false) ?_
 refine w_nil (xn_then (w_seq ?_))
 cases hf0 : decide (cmpD y.a d ≤ 0) with
 | true =>
  have hf0p := of_decide_eq_true hf0
  refine w_any 7 [.inl (pt k2 1), .inl (.slice x.pa x.st.length x.cap), .inl (.int .i64 ((m : Nat) : Int)), .inl (pt bp (op + m * 18)), .inl (pt bp (op + m * 18)), .inl (.agg (y.a.cells).toArray), .inl (.agg (d.cells).toArray)] [] (by kernel_rfl) (by kernel_rfl) (by kernel_rfl) (by kernel_rfl) rfl (by kernel_rfl) (by kernel_rfl) late_nil ?_ ?_ ?_
  ·exact Ds.none rfl
  ·refine ea_cons ?_ (ea_cons ?_ (ea_cons ?_ (ea_cons ?_ (ea_cons ?_ (ea_cons ?_ (ea_cons ?_ (ea_nil)))))))
   ·exact og_eq _ rfl (fun f wf hq hd K hK => go_run rfl (wo_un (fun v => Instr.fieldAt 24 v 1) (.tmp 1) (pt k2 0) (pt k2 1) (fun _ => rfl) rfl (by kernel_rfl) (hK _ (Mo.refl _))))
   ·exact og_eq _ rfl (fun f wf hq hd K hK => have A2 := A2.mo hq; go_run rfl (wo_load 22 (.tmp 5) (pt k2 1) (.slice x.pa x.st.length x.cap) rfl (hd 0 rfl) (run_one A2 22 1 rfl Try.underlying22 rfl) (hK _ (Mo.refl _))))
   ·exact og_eq _ rfl (fun f wf hq hd K hK => go_run rfl (wo_mv (.tmp 0) (.int .i64 ((m : Nat) : Int)) (fun _ => rfl) rfl (hK _ (Mo.refl _))))
   ·exact og_eq _ rfl (fun f wf hq hd K hK => go_run rfl (wo_bin (fun x y => Instr.indexAt 22 x y) (.tmp 6) (.tmp 7) (.slice x.pa x.st.length x.cap) (.int .i64 ((m : Nat) : Int)) (pt bp (op + m * 18)) (fun _ => rfl) (hd 1 rfl) (hd 2 rfl) (ix22 (i := m) hpp hml _) (hK _ (Mo.refl _))))
   ·exact og_eq _ rfl (fun f wf hq hd K hK => go_run rfl (wo_un (fun v => Instr.fieldAt 45 v 0) (.tmp 8) (pt bp (op + m * 18)) (pt bp (op + m * 18)) (fun _ => rfl) (hd 3 rfl) (by kernel_rfl) (hK _ (Mo.refl _))))
   ·exact og_eq _ rfl (fun f wf hq hd K hK => go_run rfl (wo_load 33 (.tmp 9) (pt bp (op + m * 18)) (.agg (y.a.cells).toArray) rfl (hd 4 rfl) (D.run_partR (hRp.mo (M.trans hq)).at' 33 0 6 (y.a.cells) rfl Try.underlying33 rfl sz33) (hK _ (Mo.refl _))))
   ·exact og_eq _ rfl (fun f wf hq hd K hK => have A3 := A3.mo hq; go_run rfl (wo_load 33 (.tmp 2) (pt k3 0) (.agg (d.cells).toArray) rfl rfl (run_row A3 33 0 6 (d.cells) rfl Try.underlying33 rfl sz33) (hK _ (Mo.refl _))))
  intro kf1 u1 hq hR hne
  replace A2 := A2.mo hq
  replace A3 := A3.mo hq
  replace M := M.trans hq
  clear hq hR hne
  refine wl_call 27 [(.tmp 10), (.tmp 11)] _ [.agg (y.a.cells).toArray, .agg (d.cells).toArray] (.int .i64 (cmpD y.a d)) rfl rfl (fun _ _ => by kernel_rfl) (pcmp_n hf hd _) rfl ?_
  intro u2 hq
  replace A2 := A2.mo hq
  replace A3 := A3.mo hq
  replace M := M.trans hq
  clear hq
  refine wl_b .leq 3 (.tmp 12) (.const (.int .i64 (0))) (.int .i64 (cmpD y.a d)) (.int .i64 (0)) (.bool true) (le3 hf0 _ _ _) ?_
  refine wl_m (.tmp 13) (.bool true) ?_
  refine w_nil (xn_then (w_ret ?_))
  exact w_ret1 _ _ rfl rfl ⟨rfl, M⟩
 | false =>
  have hf0p := of_decide_eq_false hf0
  refine w_any 7 [.inl (pt k2 1), .inl (.slice x.pa x.st.length x.cap), .inl (.int .i64 ((m : Nat) : Int)), .inl (pt bp (op + m * 18)), .inl (pt bp (op + m * 18)), .inl (.agg (y.a.cells).toArray), .inl (.agg (d.cells).toArray)] [] (by kernel_rfl) (by kernel_rfl) (by kernel_rfl) (by kernel_rfl) rfl (by kernel_rfl) (by kernel_rfl) late_nil ?_ ?_ ?_
  ·exact Ds.none rfl
  ·refine ea_cons ?_ (ea_cons ?_ (ea_cons ?_ (ea_cons ?_ (ea_cons ?_ (ea_cons ?_ (ea_cons ?_ (ea_nil)))))))
   ·exact og_eq _ rfl (fun f wf hq hd K hK => go_run rfl (wo_un (fun v => Instr.fieldAt 24 v 1) (.tmp 1) (pt k2 0) (pt k2 1) (fun _ => rfl) rfl (by kernel_rfl) (hK _ (Mo.refl _))))
   ·exact og_eq _ rfl (fun f wf hq hd K hK => have A2 := A2.mo hq; go_run rfl (wo_load 22 (.tmp 5) (pt k2 1) (.slice x.pa x.st.length x.cap) rfl (hd 0 rfl) (run_one A2 22 1 rfl Try.underlying22 rfl) (hK _ (Mo.refl _))))
   ·exact og_eq _ rfl (fun f wf hq hd K hK => go_run rfl (wo_mv (.tmp 0) (.int .i64 ((m : Nat) : Int)) (fun _ => rfl) rfl (hK _ (Mo.refl _))))
   ·exact og_eq _ rfl (fun f wf hq hd K hK => go_run rfl (wo_bin (fun x y => Instr.indexAt 22 x y) (.tmp 6) (.tmp 7) (.slice x.pa x.st.length x.cap) (.int .i64 ((m : Nat) : Int)) (pt bp (op + m * 18)) (fun _ => rfl) (hd 1 rfl) (hd 2 rfl) (ix22 (i := m) hpp hml _) (hK _ (Mo.refl _))))
   ·exact og_eq _ rfl (fun f wf hq hd K hK => go_run rfl (wo_un (fun v => Instr.fieldAt 45 v 0) (.tmp 8) (pt bp (op + m * 18)) (pt bp (op + m * 18)) (fun _ => rfl) (hd 3 rfl) (by kernel_rfl) (hK _ (Mo.refl _))))
   ·exact og_eq _ rfl (fun f wf hq hd K hK => go_run rfl (wo_load 33 (.tmp 9) (pt bp (op + m * 18)) (.agg (y.a.cells).toArray) rfl (hd 4 rfl) (D.run_partR (hRp.mo (M.trans hq)).at' 33 0 6 (y.a.cells) rfl Try.underlying33 rfl sz33) (hK _ (Mo.refl _))))
   ·exact og_eq _ rfl (fun f wf hq hd K hK => have A3 := A3.mo hq; go_run rfl (wo_load 33 (.tmp 2) (pt k3 0) (.agg (d.cells).toArray) rfl rfl (run_row A3 33 0 6 (d.cells) rfl Try.underlying33 rfl sz33) (hK _ (Mo.refl _))))
  intro kf1 u1 hq hR hne
  replace A2 := A2.mo hq
  replace A3 := A3.mo hq
  replace M := M.trans hq
  clear hq hR hne
  refine wl_call 27 [(.tmp 10), (.tmp 11)] _ [.agg (y.a.cells).toArray, .agg (d.cells).toArray] (.int .i64 (cmpD y.a d)) rfl rfl (fun _ _ => by kernel_rfl) (pcmp_n hf hd _) rfl ?_
  intro u2 hq
  replace A2 := A2.mo hq
  replace A3 := A3.mo hq
  replace M := M.trans hq
  clear hq
  refine wl_b .leq 3 (.tmp 12) (.const (.int .i64 (0))) (.int .i64 (cmpD y.a d)) (.int .i64 (0)) (.bool false) (le3 hf0 _ _ _) ?_
  refine wl_m (.tmp 13) (.bool false) ?_
  refine w_nil (xn_then (w_ret ?_))
  exact w_ret1 _ _ rfl rfl ⟨rfl, M⟩
theorem subN {a b : Nat} (h : b ≤ a) (ha : a ≤ 9223372036854775807) (x y : Operand) (w : World) : (do eqGuard .sub 3 x y (.int .i64 (a : Int)) (.int .i64 (b : Int)); binOp .sub 3 (.int .i64 (a : Int)) (.int .i64 (b : Int))).run Try.prog w = .ok (.int .i64 ((a - b : Nat) : Int)) w := by
 have q : IntKind.i64.wrap ((a : Int) - b) = ((a - b : Nat) : Int) := by rw [IntKind.wrap_i64]; omega
 simp [go_sem, q]
theorem quo2 {a : Nat} (ha : a ≤ 9223372036854775807) (x y : Operand) (w : World) : (do eqGuard .quo 3 x y (.int .i64 (a : Int)) (.int .i64 2); binOp .quo 3 (.int .i64 (a : Int)) (.int .i64 2)).run Try.prog w = .ok (.int .i64 ((a / 2 : Nat) : Int)) w := by
 have q : IntKind.i64.wrap ((a : Int) / 2) = (a : Int) / 2 := by rw [IntKind.wrap_i64]; omega
 simp [go_sem, q]
theorem addN {a b : Nat} (ha : a + b ≤ 9223372036854775807) (x y : Operand) (w : World) : (do eqGuard .add 3 x y (.int .i64 (a : Int)) (.int .i64 (b : Int)); binOp .add 3 (.int .i64 (a : Int)) (.int .i64 (b : Int))).run Try.prog w = .ok (.int .i64 ((a + b : Nat) : Int)) w := by
 have q : IntKind.i64.wrap ((a : Int) + b) = ((a + b : Nat) : Int) := by rw [IntKind.wrap_i64]; omega
 simp [go_sem, q]
theorem eqN {a b : Nat} {r : Bool} (h : decide (a = b) = r) (x y : Operand) (w : World) : (do eqGuard .eql 3 x y (.int .i64 (a : Int)) (.int .i64 (b : Int)); binOp .eql 3 (.int .i64 (a : Int)) (.int .i64 (b : Int))).run Try.prog w = .ok (.bool r) w := eq3 (by rw [← h]; exact decide_eq_decide.2 (by omega)) x y w
def HI (N r : Nat) (cv : Value) (w0 : World) (i m : Nat) (l : List (Nat × Value)) (w : World) : Prop := ∃ lo hi : Nat, i = 0 ∧ m = hi - lo ∧ lo ≤ r ∧ r ≤ hi ∧ hi ≤ N ∧ look l 1 = cv ∧ look l 5 = .int .i64 (lo : Int) ∧ look l 6 = .int .i64 (hi : Int) ∧ Mo w0 w
theorem halve_n {n r k2 k3 : Nat} {w : World} (hn : n ≤ 32) (hr : r ≤ n) (hp : ∀ m, m < n → ∀ w1, Mo w w1 → Calls Try.prog 31 #[.int .i64 ((m : Nat) : Int), pt k2 0, pt k3 0] w1 fun e9 w' => e9 = .returned (.bool (decide (m < r))) ∧ Mo w1 w') : Calls Try.prog 30 #[.int .i64 ((n : Nat) : Int), .func (.func 31) #[] #[pt k2 0, pt k3 0]] w fun e9 w' => e9 = .returned (.int .i64 ((r : Nat) : Int)) ∧ Mo w w' := by
 refine w_enter 25 Try.func30 Try.ntmps30 rfl rfl ?_
 have M : Mo w w := Mo.refl _
 refine w_seq (w_reg ?_)
 refine wl_m (.const (.int .i64 (0))) (.int .i64 (0)) ?_
 refine w_nil (xn_then ?_)
 refine w_scope1 (HI n r (.func (.func 31) #[] #[pt k2 0, pt k3 0]) w) ?_ ?_ ?_
 ·rintro i m l w1 ⟨lo, hi, rfl, _⟩
  rfl
 ·skip
  refine w_seq (w_reg ?_)
  refine wl_m (.tmp 0) (.int .i64 ((n : Nat) : Int)) ?_
  refine wl_m (.const (.int .i64 (0))) (.int .i64 (0)) ?_
  refine wl_m (.tmp 8) (.int .i64 ((n : Nat) : Int)) ?_
  refine w_nil (xn_then (w_seq ?_))
  refine w_label ?_
  refine xn_then (w_seq (w_seq (w_reg ?_)))
  refine wl_m (.tmp 5) (.int .i64 (0)) ?_
  refine wl_m (.tmp 6) (.int .i64 ((n : Nat) : Int)) ?_
  cases hf0 : decide (0 = n) with
  | true =>
   have hf0p := of_decide_eq_true hf0
   refine wl_b .eql 3 (.tmp 9) (.tmp 10) (.int .i64 (0)) (.int .i64 ((n : Nat) : Int)) (.bool true) (eqN (a := 0) (b := n) hf0 _ _ _) ?_
   refine w_nil (xn_then (w_condT rfl (w_seq (w_reg ?_))))
   refine wl_m (.tmp 5) (.int .i64 (0)) ?_
   refine wl_m (.tmp 12) (.int .i64 (0)) ?_
   refine w_nil (xn_then (w_ret (xr_then ?_)))
   refine xr_jumps ?_
   exact w_ret1 _ (.int .i64 (0)) rfl rfl ⟨congrArg (fun v : Nat => Ending.returned (.int .i64 ((v : Nat) : Int))) (show 0 = r by omega), M⟩
  | false =>
   have hf0p := of_decide_eq_false hf0
   refine wl_b .eql 3 (.tmp 9) (.tmp 10) (.int .i64 (0)) (.int .i64 ((n : Nat) : Int)) (.bool false) (eqN (a := 0) (b := n) hf0 _ _ _) ?_
   refine w_nil (xn_then (w_condF rfl (w_skip (xn_then (w_seq (w_reg ?_))))))
   refine wl_m (.tmp 5) (.int .i64 (0)) ?_
   refine wl_m (.tmp 6) (.int .i64 ((n : Nat) : Int)) ?_
   refine wl_m (.tmp 5) (.int .i64 (0)) ?_
   refine wl_b .sub 3 (.tmp 14) (.tmp 15) (.int .i64 ((n : Nat) : Int)) (.int .i64 (0)) (.int .i64 (((n - 0) : Nat) : Int)) (subN (a := n) (b := 0) (by omega) (by omega) _ _ _) ?_
   refine wl_b .quo 3 (.tmp 16) (.const (.int .i64 (2))) (.int .i64 (((n - 0) : Nat) : Int)) (.int .i64 (2)) (.int .i64 ((((n - 0) / 2) : Nat) : Int)) (quo2 (a := n - 0) (by omega) _ _ _) ?_
   refine wl_b .add 3 (.tmp 13) (.tmp 17) (.int .i64 (0)) (.int .i64 ((((n - 0) / 2) : Nat) : Int)) (.int .i64 (((0 + (n - 0) / 2) : Nat) : Int)) (addN (a := 0) (b := (n - 0) / 2) (by omega) _ _ _) ?_
   refine wl_m (.tmp 18) (.int .i64 (((0 + (n - 0) / 2) : Nat) : Int)) ?_
   refine w_nil (xn_then (w_seq (w_seq (w_reg ?_))))
   refine wl_m (.tmp 1) (.func (.func 31) #[] #[pt k2 0, pt k3 0]) ?_
   refine wl_m (.tmp 7) (.int .i64 (((0 + (n - 0) / 2) : Nat) : Int)) ?_
   refine wl_callv 31 (.tmp 19) #[] #[pt k2 0, pt k3 0] [(.tmp 20)] _ [.int .i64 (((0 + (n - 0) / 2) : Nat) : Int)] [.int .i64 (((0 + (n - 0) / 2) : Nat) : Int), pt k2 0, pt k3 0] rfl rfl rfl rfl (fun _ _ => by kernel_rfl) (hp (0 + (n - 0) / 2) (by omega) _ M) rfl ?_
   rintro e9 u1 ⟨rfl, hq⟩
   refine ⟨_, rfl, ?_⟩
   replace M := M.trans hq
   clear hq
   refine w_nil (xn_then ?_)
   cases hf1 : decide ((0 + (n - 0) / 2) < r) with
   | true =>
    have hf1p := of_decide_eq_true hf1
    refine w_condT rfl (w_reg ?_)
    refine wl_m (.tmp 7) (.int .i64 (((0 + (n - 0) / 2) : Nat) : Int)) ?_
    refine wl_b .add 3 (.tmp 22) (.const (.int .i64 (1))) (.int .i64 (((0 + (n - 0) / 2) : Nat) : Int)) (.int .i64 (1)) (.int .i64 ((((0 + (n - 0) / 2) + 1) : Nat) : Int)) (add1r (k := (0 + (n - 0) / 2)) (by omega) _ _ _) ?_
    refine wl_m (.tmp 23) (.int .i64 ((((0 + (n - 0) / 2) + 1) : Nat) : Int)) ?_
    refine w_nil (xn_then ?_)
    refine w_goto ?_
    exact xg_jump0 _ ⟨((0 + (n - 0) / 2) + 1), n, rfl, rfl, by omega, by omega, by omega, rfl, rfl, rfl, M⟩
   | false =>
    have hf1p := of_decide_eq_false hf1
    refine w_condF rfl (w_reg ?_)
    refine wl_m (.tmp 7) (.int .i64 (((0 + (n - 0) / 2) : Nat) : Int)) ?_
    refine wl_m (.tmp 24) (.int .i64 (((0 + (n - 0) / 2) : Nat) : Int)) ?_
    refine w_nil (xn_then ?_)
    refine w_goto ?_
    exact xg_jump0 _ ⟨0, (0 + (n - 0) / 2), rfl, rfl, by omega, by omega, by omega, rfl, rfl, rfl, M⟩
 ·clear M
  rintro i m l wl ⟨lo, hi, rfl, rfl, hlo, hhi, hN, e1, e5, e6, M⟩
  refine w_seq (w_skip (xn_then (w_seq (w_seq (w_reg ?_)))))
  refine wl_mv (.tmp 5) (.int .i64 ((lo : Nat) : Int)) (fun _ => rfl) e5 rfl ?_
  refine wl_mv (.tmp 6) (.int .i64 ((hi : Nat) : Int)) (fun _ => rfl) e6 rfl ?_
  cases hf50 : decide (lo = hi) with
  | true =>
   have hf50p := of_decide_eq_true hf50
   refine wl_b .eql 3 (.tmp 9) (.tmp 10) (.int .i64 ((lo : Nat) : Int)) (.int .i64 ((hi : Nat) : Int)) (.bool true) (eqN (a := lo) (b := hi) hf50 _ _ _) ?_
   refine w_nil (xn_then (w_condT rfl (w_seq (w_reg ?_))))
   refine wl_mv (.tmp 5) (.int .i64 ((lo : Nat) : Int)) (fun _ => rfl) e5 rfl ?_
   refine wl_m (.tmp 12) (.int .i64 ((lo : Nat) : Int)) ?_
   refine w_nil (xn_then (w_ret (xr_then ?_)))
   refine xr_jumps ?_
   exact w_ret1 _ (.int .i64 ((lo : Nat) : Int)) rfl rfl ⟨congrArg (fun v : Nat => Ending.returned (.int .i64 ((v : Nat) : Int))) (show lo = r by omega), M⟩
  | false =>
   have hf50p := of_decide_eq_false hf50
   refine wl_b .eql 3 (.tmp 9) (.tmp 10) (.int .i64 ((lo : Nat) : Int)) (.int .i64 ((hi : Nat) : Int)) (.bool false) (eqN (a := lo) (b := hi) hf50 _ _ _) ?_
   refine w_nil (xn_then (w_condF rfl (w_skip (xn_then (w_seq (w_reg ?_))))))
   refine wl_mv (.tmp 5) (.int .i64 ((lo : Nat) : Int)) (fun _ => rfl) e5 rfl ?_
   refine wl_mv (.tmp 6) (.int .i64 ((hi : Nat) : Int)) (fun _ => rfl) e6 rfl ?_
   refine wl_mv (.tmp 5) (.int .i64 ((lo : Nat) : Int)) (fun _ => rfl) e5 rfl ?_
   refine wl_b .sub 3 (.tmp 14) (.tmp 15) (.int .i64 ((hi : Nat) : Int)) (.int .i64 ((lo : Nat) : Int)) (.int .i64 (((hi - lo) : Nat) : Int)) (subN (a := hi) (b := lo) (by omega) (by omega) _ _ _) ?_
   refine wl_b .quo 3 (.tmp 16) (.const (.int .i64 (2))) (.int .i64 (((hi - lo) : Nat) : Int)) (.int .i64 (2)) (.int .i64 ((((hi - lo) / 2) : Nat) : Int)) (quo2 (a := hi - lo) (by omega) _ _ _) ?_
   refine wl_b .add 3 (.tmp 13) (.tmp 17) (.int .i64 ((lo : Nat) : Int)) (.int .i64 ((((hi - lo) / 2) : Nat) : Int)) (.int .i64 (((lo + (hi - lo) / 2) : Nat) : Int)) (addN (a := lo) (b := (hi - lo) / 2) (by omega) _ _ _) ?_
   refine wl_m (.tmp 18) (.int .i64 (((lo + (hi - lo) / 2) : Nat) : Int)) ?_
   refine w_nil (xn_then (w_seq (w_seq (w_reg ?_))))
   refine wl_mv (.tmp 1) (.func (.func 31) #[] #[pt k2 0, pt k3 0]) (fun _ => rfl) e1 rfl ?_
   refine wl_m (.tmp 7) (.int .i64 (((lo + (hi - lo) / 2) : Nat) : Int)) ?_
   refine wl_callv 31 (.tmp 19) #[] #[pt k2 0, pt k3 0] [(.tmp 20)] _ [.int .i64 (((lo + (hi - lo) / 2) : Nat) : Int)] [.int .i64 (((lo + (hi - lo) / 2) : Nat) : Int), pt k2 0, pt k3 0] rfl rfl rfl rfl (fun _ _ => by kernel_rfl) (hp (lo + (hi - lo) / 2) (by omega) _ M) rfl ?_
   rintro e9 u51 ⟨rfl, hq⟩
   refine ⟨_, rfl, ?_⟩
   replace M := M.trans hq
   clear hq
   refine w_nil (xn_then ?_)
   cases hf51 : decide ((lo + (hi - lo) / 2) < r) with
   | true =>
    have hf51p := of_decide_eq_true hf51
    refine w_condT rfl (w_reg ?_)
    refine wl_m (.tmp 7) (.int .i64 (((lo + (hi - lo) / 2) : Nat) : Int)) ?_
    refine wl_b .add 3 (.tmp 22) (.const (.int .i64 (1))) (.int .i64 (((lo + (hi - lo) / 2) : Nat) : Int)) (.int .i64 (1)) (.int .i64 ((((lo + (hi - lo) / 2) + 1) : Nat) : Int)) (add1r (k := (lo + (hi - lo) / 2)) (by omega) _ _ _) ?_
    refine wl_m (.tmp 23) (.int .i64 ((((lo + (hi - lo) / 2) + 1) : Nat) : Int)) ?_
    refine w_nil (xn_then ?_)
    refine w_goto ?_
    exact xg_jump (hi - ((lo + (hi - lo) / 2) + 1)) (by omega) ⟨((lo + (hi - lo) / 2) + 1), hi, rfl, rfl, by omega, by omega, by omega, e1, rfl, e6, M⟩
   | false =>
    have hf51p := of_decide_eq_false hf51
    refine w_condF rfl (w_reg ?_)
    refine wl_m (.tmp 7) (.int .i64 (((lo + (hi - lo) / 2) : Nat) : Int)) ?_
    refine wl_m (.tmp 24) (.int .i64 (((lo + (hi - lo) / 2) : Nat) : Int)) ?_
    refine w_nil (xn_then ?_)
    refine w_goto ?_
    exact xg_jump ((lo + (hi - lo) / 2) - lo) (by omega) ⟨lo, (lo + (hi - lo) / 2), rfl, rfl, by omega, by omega, by omega, e1, e5, rfl, M⟩
theorem reach_q {x : Tb} {d : Dn} {m r : Nat} {k2 k3 : Nat} {w w1 : World} (hT : LT w x) (hc : chkT x.st = 0) (hd : d.fit) (A2 : At w k2 x.cells) (A3 : At w k3 d.cells) (hr : r = cntT x.st d) (hm : m < x.st.length) (M : Mo w w1) : Calls Try.prog 31 #[.int .i64 ((m : Nat) : Int), pt k2 0, pt k3 0] w1 fun e9 w' => e9 = .returned (.bool (decide (m < r))) ∧ Mo w1 w' := by
 subst hr
 obtain ⟨y, hy⟩ := get_of_lt hm
 have q := reach_n (hT.mo M) hy (A2.mo M) (A3.mo M) (fit_of hT.ok (chk_0 hc).2.2.1 hy).1 hd
 rw [← rchd_at hy, cnt_mono hT.ok hc hd m hm] at q
 exact q
theorem stp_ret {a b c d : Int} (h1 : a = c) (h2 : b = d) : Ending.returned (.tuple #[.int .i64 a, .int .i64 b]) = .returned (.tuple #[.int .i64 c, .int .i64 d]) := by rw [h1, h2]
theorem pstep_n {x : Tb} {d : Dn} (w : World) (hT : LT w x) (hd : d.ok) : Calls Try.prog 13 #[.agg (x.cells).toArray, d.v] w fun e9 w' => e9 = .returned (.tuple #[.int .i64 (stpN x.st d), .int .i64 (stpE x.st d)]) ∧ Mo w w' := by
 refine w_enter 28 Try.func13 Try.ntmps13 rfl rfl ?_
 have M : Mo w w := Mo.refl _
 refine w_seq (w_reg ?_)
 refine wl_box 24 (.tmp 0) _ (((x.cells).toArray)) rfl rfl (fun _ => by kernel_rfl) rfl ?_
 intro k1 u1 hk hz hq Q1
 have N_k1 : w.heap.size ≤ k1 := by have := M.size; omega
 replace M := M.trans hq
 clear hk hz hq
 refine wl_box 33 (.tmp 1) _ (((d.cells).toArray)) rfl rfl (fun _ => by kernel_rfl) rfl ?_
 intro k2 u2 hk hz hq Q2
 have ne_k1_k2 : k1 ≠ k2 := by have := Q1.lt; omega
 have N_k2 : w.heap.size ≤ k2 := by have := M.size; omega
 replace Q1 := Q1.mo hq
 replace M := M.trans hq
 clear hk hz hq
 refine wl_m (.const (.int .i64 (0))) (.int .i64 (0)) ?_
 refine wl_m (.const (.int .i64 (0))) (.int .i64 (0)) ?_
 refine w_nil (xn_then (w_seq (w_seq (w_reg ?_))))
 refine wl_l 24 (.tmp 2) (pt k1 0) (.agg (x.cells).toArray) (run_row Q1 24 0 2 (x.cells) rfl Try.underlying24 rfl szT24) ?_
 refine wl_call 9 [(.tmp 9)] _ [.agg (x.cells).toArray] (.int .i64 (chkT x.st)) rfl rfl (fun _ _ => by kernel_rfl) (pck_n _ (hT.mo M)) rfl ?_
 intro u3 hq
 replace Q1 := Q1.mo hq
 replace Q2 := Q2.mo hq
 replace M := M.trans hq
 clear hq
 refine wl_m (.tmp 10) (.int .i64 (chkT x.st)) ?_
 refine w_nil (xn_then (w_seq (w_reg ?_)))
 refine wl_m (.tmp 6) (.int .i64 (chkT x.st)) ?_
 cases hf0 : decide (chkT x.st = 0) with
 | true =>
  have hf0p := of_decide_eq_true hf0
  refine wl_b .neq 26 (.tmp 11) (.const (.int .i64 (0))) (.int .i64 (chkT x.st)) (.int .i64 (0)) (.bool false) (ne34 hf0 _ _ _) ?_
  refine w_nil (xn_then (w_condF rfl (w_skip (xn_then (w_seq (w_seq (w_reg ?_)))))))
  refine wl_l 33 (.tmp 3) (pt k2 0) (.agg (d.cells).toArray) (run_row Q2 33 0 6 (d.cells) rfl Try.underlying33 rfl sz33) ?_
  refine wl_call 29 [(.tmp 14)] _ [.agg (d.cells).toArray] (.int .i64 (d.er)) rfl rfl (fun _ _ => by kernel_rfl) (pchk_n hd _) rfl ?_
  intro u4 hq
  replace Q1 := Q1.mo hq
  replace Q2 := Q2.mo hq
  replace M := M.trans hq
  clear hq
  refine wl_m (.tmp 15) (.int .i64 (d.er)) ?_
  refine w_nil (xn_then (w_seq (w_reg ?_)))
  refine wl_m (.tmp 7) (.int .i64 (d.er)) ?_
  cases hf1 : decide (d.er = 0) with
  | true =>
   have hf1p := of_decide_eq_true hf1
   refine wl_b .neq 26 (.tmp 16) (.const (.int .i64 (0))) (.int .i64 (d.er)) (.int .i64 (0)) (.bool false) (ne34 hf1 _ _ _) ?_
   refine w_nil (xn_then (w_condF rfl (w_skip (xn_then (w_seq (w_reg ?_))))))
   refine wl_f 24 1 (.tmp 2) (pt k1 0) (pt k1 1) ?_
   refine wl_l 22 (.tmp 19) (pt k1 1) (.slice x.pa x.st.length x.cap) (run_one Q1 22 1 rfl Try.underlying22 rfl) ?_
   refine wl_val (.int .i64 ((x.st.length : Nat) : Int)) (len22 _ _ _ _ _ (by exact rfl) _ _ _ _ _ _) rfl ?_
   refine wl_mf (.func 31) [] [(.tmp 2), (.tmp 3)] [] [pt k1 0, pt k2 0] rfl rfl rfl rfl ?_
   refine wl_call 30 [(.tmp 21), (.tmp 22)] _ [.int .i64 ((x.st.length : Nat) : Int), .func (.func 31) #[] #[pt k1 0, pt k2 0]] (.int .i64 (((cntT x.st d) : Nat) : Int)) rfl rfl (fun _ _ => by kernel_rfl) (halve_n (chk_0 hf0p).1 (cnt_le x.st d) (fun m hm w1 M1 => reach_q (hT.mo M) hf0p ⟨hd, hf1p⟩ Q1 Q2 rfl hm M1)) rfl ?_
   intro u5 hq
   replace Q1 := Q1.mo hq
   replace Q2 := Q2.mo hq
   replace M := M.trans hq
   clear hq
   refine wl_m (.tmp 23) (.int .i64 (((cntT x.st d) : Nat) : Int)) ?_
   refine w_nil (xn_then (w_seq (w_seq (w_reg ?_))))
   refine wl_m (.tmp 8) (.int .i64 (((cntT x.st d) : Nat) : Int)) ?_
   cases hf2 : decide ((((cntT x.st d) : Nat) : Int) = 0) with
   | true =>
    have hf2p := of_decide_eq_true hf2
    refine wl_b .eql 3 (.tmp 24) (.const (.int .i64 (0))) (.int .i64 (((cntT x.st d) : Nat) : Int)) (.int .i64 (0)) (.bool true) (eq3 hf2 _ _ _) ?_
    refine w_nil (xn_then (w_condT rfl (w_seq (w_reg ?_))))
    refine wl_m (.const (.int .i64 (0))) (.int .i64 (0)) ?_
    refine wl_m (.const (.int .i64 (141))) (.int .i64 (141)) ?_
    refine w_nil (xn_then (w_ret (xr_then ?_)))
    exact w_ret2 _ _ (.int .i64 (0)) (.int .i64 (141)) rfl rfl rfl ⟨stp_ret (stp_c0 hf0p hf1p (by omega)).2.symm (stp_c0 hf0p hf1p (by omega)).1.symm, M⟩
   | false =>
    have hf2p := of_decide_eq_false hf2
    refine wl_b .eql 3 (.tmp 24) (.const (.int .i64 (0))) (.int .i64 (((cntT x.st d) : Nat) : Int)) (.int .i64 (0)) (.bool false) (eq3 hf2 _ _ _) ?_
    refine w_nil (xn_then (w_condF rfl (w_skip (xn_then (w_seq (w_reg ?_))))))
    refine wl_m (.tmp 8) (.int .i64 (((cntT x.st d) : Nat) : Int)) ?_
    obtain ⟨kc, hcn⟩ : ∃ kc, cntT x.st d = kc + 1 := ⟨cntT x.st d - 1, by omega⟩
    refine wl_b .sub 3 (.tmp 26) (.const (.int .i64 (1))) (.int .i64 (((cntT x.st d) : Nat) : Int)) (.int .i64 (1)) (.int .i64 ((kc : Nat) : Int)) (by rw [hcn]; exact sub1r (k := kc) (by have := cnt_le x.st d; have := hT.sl.1; unfold maxLen at this; omega) _ _ _) ?_
    refine wl_m (.tmp 27) (.int .i64 ((kc : Nat) : Int)) ?_
    refine wl_m (.const (.int .i64 (0))) (.int .i64 (0)) ?_
    refine w_nil (xn_then (w_ret ?_))
    exact w_ret2 _ _ (.int .i64 ((kc : Nat) : Int)) (.int .i64 (0)) rfl rfl rfl ⟨stp_ret (stp_c1 hf0p hf1p (cnt_some hcn)).2.symm (stp_c1 hf0p hf1p (cnt_some hcn)).1.symm, M⟩
  | false =>
   have hf1p := of_decide_eq_false hf1
   refine wl_b .neq 26 (.tmp 16) (.const (.int .i64 (0))) (.int .i64 (d.er)) (.int .i64 (0)) (.bool true) (ne34 hf1 _ _ _) ?_
   refine w_nil (xn_then (w_condT rfl (w_seq (w_reg ?_))))
   refine wl_m (.tmp 7) (.int .i64 (d.er)) ?_
   refine wl_m (.const (.int .i64 (0))) (.int .i64 (0)) ?_
   refine wl_m (.tmp 18) (.int .i64 (d.er)) ?_
   refine w_nil (xn_then (w_ret (xr_then ?_)))
   exact w_ret2 _ _ (.int .i64 (0)) (.int .i64 (d.er)) rfl rfl rfl ⟨stp_ret (stp_num hf0p hf1p).2.symm (((er_or d).resolve_left hf1p).trans (stp_num hf0p hf1p).1.symm), M⟩
 | false =>
  have hf0p := of_decide_eq_false hf0
  refine wl_b .neq 26 (.tmp 11) (.const (.int .i64 (0))) (.int .i64 (chkT x.st)) (.int .i64 (0)) (.bool true) (ne34 hf0 _ _ _) ?_
  refine w_nil (xn_then (w_condT rfl (w_seq (w_reg ?_))))
  refine wl_m (.tmp 6) (.int .i64 (chkT x.st)) ?_
  refine wl_m (.const (.int .i64 (0))) (.int .i64 (0)) ?_
  refine wl_m (.tmp 13) (.int .i64 (chkT x.st)) ?_
  refine w_nil (xn_then (w_ret (xr_then ?_)))
  exact w_ret2 _ _ (.int .i64 (0)) (.int .i64 (chkT x.st)) rfl rfl rfl ⟨stp_ret (stp_bad hf0p).2.symm (stp_bad hf0p).1.symm, M⟩
end Go.Proofs.Ythehmmhnacomkaa
