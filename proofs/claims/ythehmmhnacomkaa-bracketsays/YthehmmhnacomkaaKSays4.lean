/-
  A part of the proof.
-/
import Derived.Test.YthehmmhnacomkaaKa19
import Derived.Test.YthehmmhnacomkaaKa18
import Derived.Test.YthehmmhnacomkaaKSays3
import Derived.Test.YthehmmhnacomkaaKa17
import Derived.Test.YthehmmhnacomkaaKa16
import Derived.Test.YthehmmhnacomkaaKSays2
import Derived.Test.YthehmmhnacomkaaKa15
import Derived.Test.YthehmmhnacomkaaKSays1
import Derived.Test.YthehmmhnacomkaaKa14
import Derived.Test.YthehmmhnacomkaaKa11
import Derived.Test.YthehmmhnacomkaaKa10
import Derived.Test.YthehmmhnacomkaaKa3
import Derived.Test.YthehmmhnacomkaaKa2
import Derived.Test.YthehmmhnacomkaaKa1
import Derived.RegionTactic
import Derived.Test.YthehmmhnacomkaaProg
import Derived.WalkKit
import Derived.WalkSpells
import Derived.Handy
import Derived.BigQuiet
import Derived.Deep.RegionHeld3
import Derived.Deep.MidRow
import Derived.BigCall
import Derived.Test.YthehmmhnacomkaaKa9
import Derived.Test.YthehmmhnacomkaaKa8
import Derived.Test.YthehmmhnacomkaaKa5
import Derived.Test.YthehmmhnacomkaaKa4
import Derived.Shelf.Small.Bits
import Derived.Shelf.Strconv.Itoa0
import Derived.Shelf.Bits.Mul64
import Derived.Deep.CutBlock
import Derived.Deep.CutRange
import Derived.Test.YthehmmhnacomkaaKa7
import Derived.Test.YthehmmhnacomkaaKa6
import Derived.ChangeKeysEq
import Derived.ScopeJumps
import Derived.WalkMore
import Derived.Laws.StructEq
import Derived.Test.YthehmmhnacomkaaKa13
import Derived.Test.YthehmmhnacomkaaKa12
import Derived.Lib.CutLaws
import Derived.Maps.OwnSet
import Derived.WalkArith
import Derived.StringKeys
import Derived.ProofKit
import Derived.OpenShut
import Derived.ChangeArms
import Derived.Deep.Slices
import Derived.ReadAgain
import Derived.WideKeyArgs
import Derived.Maps.AppendAt
import Derived.Test.YthehmmhnacomkaaKa20
import Derived.Test.YthehmmhnacomkaaRows
import Derived.Carry
import Derived.ChangeMaps5
import Derived.SizedLaws
import Derived.Deep.Strs
namespace Go.Proofs.Ythehmmhnacomkaa
open Go.RowKit D
theorem min_b (ρ : Operand → Value) (x : Operand) (a : Int) (hx : ρ x = .int .i64 a) (hc : ρ (.const (.int .i64 18)) = .int .i64 18) (ats : Array TypeId) (dst : Option Tmp) (type : TypeId) (pos : String) (after : Array Edge) (guard : Option (Nat × Bool)) (w : World) : (execOp ρ { dst, op := .call { callee := .builtin .min, args := #[.const (.int .i64 18), x], argTypes := ats }, type, pos, after, guard }).run Try.prog w = .ok (.value (.int .i64 (min a 18))) w := by
 have q : (if a < (18 : Int) then a else 18) = min a 18 := by split <;> omega
 simp [go_sem, hx, hc, Builtin.min_, Builtin.min2, q]
theorem qsays_n {s : Stp} {x : Dn} (w : World) (hs : s.fit) (hx : x.fit) : Calls Try.prog 33 #[s.v, x.v] w fun e9 w' => e9 = .returned (saysD s x).v ∧ Mo w w' := by
 refine w_enter 43 Try.func33 Try.ntmps33 rfl rfl ?_
 have M : Mo w w := Mo.refl _
 refine w_seq (w_reg ?_)
 refine wl_box 45 (.tmp 0) _ (((s.cells).toArray)) rfl rfl (fun _ => by kernel_rfl) rfl ?_
 intro k1 u1 hk hz hq Q1
 have N_k1 : w.heap.size ≤ k1 := by have := M.size; omega
 replace M := M.trans hq
 clear hk hz hq
 refine wl_box 33 (.tmp 1) _ (((x.cells).toArray)) rfl rfl (fun _ => by kernel_rfl) rfl ?_
 intro k2 u2 hk hz hq Q2
 have ne_k1_k2 : k1 ≠ k2 := by have := Q1.lt; omega
 have N_k2 : w.heap.size ≤ k2 := by have := M.size; omega
 replace Q1 := Q1.mo hq
 replace M := M.trans hq
 clear hk hz hq
 refine wl_alloc 33 #[.bool false, .int .u64 0, .int .u64 0, .int .u64 0, .int .u64 0, .int .i64 0] rfl (fun _ => by kernel_rfl) rfl ?_
 intro k3 u3 hk hz hq Q3
 have ne_k1_k3 : k1 ≠ k3 := by have := Q1.lt; omega
 have ne_k2_k3 : k2 ≠ k3 := by have := Q2.lt; omega
 have N_k3 : w.heap.size ≤ k3 := by have := M.size; omega
 replace Q1 := Q1.mo hq
 replace Q2 := Q2.mo hq
 replace M := M.trans hq
 clear hk hz hq
 refine wl_m (.const (.int .i64 (0))) (.int .i64 (0)) ?_
 refine w_nil (xn_then (w_seq (w_reg ?_)))
 refine wl_l 33 (.tmp 3) (pt k2 0) (.agg (x.cells).toArray) (run_row Q2 33 0 6 (x.cells) rfl Try.underlying33 rfl sz33) ?_
 refine wl_f 45 0 (.tmp 2) (pt k1 0) (pt k1 0) ?_
 refine wl_l 33 (.tmp 10) (pt k1 0) (.agg (s.a.cells).toArray) (run_row Q1 33 0 6 (s.a.cells) rfl Try.underlying33 rfl sz33) ?_
 refine wl_call 53 [(.tmp 9), (.tmp 11)] _ [.agg (x.cells).toArray, .agg (s.a.cells).toArray] (.tuple #[.agg ((subD x s.a).d.cells).toArray, .int .i64 ((subD x s.a).e)]) rfl rfl (fun _ _ => by kernel_rfl) (qsub_n hx hs.1 _) rfl ?_
 intro u4 hq
 replace Q1 := Q1.mo hq
 replace Q2 := Q2.mo hq
 replace Q3 := Q3.mo hq
 replace M := M.trans hq
 clear hq
 refine wl_m (.tmp 12) (.tuple #[.agg ((subD x s.a).d.cells).toArray, .int .i64 ((subD x s.a).e)]) ?_
 refine wl_un (fun v => Instr.extract v 0) (.tmp 8) (.tuple #[.agg ((subD x s.a).d.cells).toArray, .int .i64 ((subD x s.a).e)]) (.agg ((subD x s.a).d.cells).toArray) (fun _ => rfl) rfl (by kernel_rfl) rfl ?_
 refine wl_un (fun v => Instr.extract v 1) (.tmp 8) (.tuple #[.agg ((subD x s.a).d.cells).toArray, .int .i64 ((subD x s.a).e)]) (.int .i64 ((subD x s.a).e)) (fun _ => rfl) rfl (by kernel_rfl) rfl ?_
 refine wl_alloc 33 #[.bool false, .int .u64 0, .int .u64 0, .int .u64 0, .int .u64 0, .int .i64 0] rfl (fun _ => by kernel_rfl) rfl ?_
 intro k4 u5 hk hz hq Q4
 have ne_k1_k4 : k1 ≠ k4 := by have := Q1.lt; omega
 have ne_k2_k4 : k2 ≠ k4 := by have := Q2.lt; omega
 have ne_k3_k4 : k3 ≠ k4 := by have := Q3.lt; omega
 have N_k4 : w.heap.size ≤ k4 := by have := M.size; omega
 replace Q1 := Q1.mo hq
 replace Q2 := Q2.mo hq
 replace Q3 := Q3.mo hq
 replace M := M.trans hq
 clear hk hz hq
 refine wl_st 33 (.tmp 6) (.tmp 13) k4 0 (((subD x s.a).d.cells).toArray) _ ((subD x s.a).d.cells) Q4 rfl rfl rfl rfl rfl sz33 rfl rfl rfl ?_
 intro u6 hS Qn
 replace Q4 := Qn
 clear Qn
 replace Q1 := hS.other _ _ ne_k1_k4 Q1
 replace Q2 := hS.other _ _ ne_k2_k4 Q2
 replace Q3 := hS.other _ _ ne_k3_k4 Q3
 replace M := hS.mo _ N_k4 M
 clear hS
 refine wl_m (.tmp 14) (.int .i64 ((subD x s.a).e)) ?_
 refine w_nil (xn_then (w_seq (w_seq (w_reg ?_))))
 refine wl_m (.tmp 7) (.int .i64 ((subD x s.a).e)) ?_
 cases hf0 : decide ((subD x s.a).e = 0) with
 | true =>
  have hf0p := of_decide_eq_true hf0
  refine wl_b .neq 26 (.tmp 15) (.const (.int .i64 (0))) (.int .i64 ((subD x s.a).e)) (.int .i64 (0)) (.bool false) (ne34 hf0 _ _ _) ?_
  refine w_nil (xn_then (w_condF rfl (w_skip (xn_then (w_seq (w_reg ?_))))))
  refine wl_l 33 (.tmp 6) (pt k4 0) (.agg ((subD x s.a).d.cells).toArray) (run_row Q4 33 0 6 ((subD x s.a).d.cells) rfl Try.underlying33 rfl sz33) ?_
  refine wl_f 45 2 (.tmp 2) (pt k1 0) (pt k1 12) ?_
  refine wl_l 33 (.tmp 21) (pt k1 12) (.agg (s.c.cells).toArray) (run_row Q1 33 12 6 (s.c.cells) rfl Try.underlying33 rfl sz33) ?_
  refine wl_f 33 2 (.tmp 6) (pt k4 0) (pt k4 5) ?_
  refine wl_l 3 (.tmp 23) (pt k4 5) (.int .i64 ((subD x s.a).d.s)) (run_one Q4 3 5 rfl Try.underlying3 rfl) ?_
  refine wl_f 45 2 (.tmp 2) (pt k1 0) (pt k1 12) ?_
  refine wl_f 33 2 (.tmp 25) (pt k1 12) (pt k1 17) ?_
  refine wl_l 3 (.tmp 26) (pt k1 17) (.int .i64 (s.c.s)) (run_one Q1 3 17 rfl Try.underlying3 rfl) ?_
  have bs1 := ((good_sub hx hs.1).fit hf0p).s
  have bs2 := hs.2.2.s
  refine wl_b .add 3 (.tmp 24) (.tmp 27) (.int .i64 ((subD x s.a).d.s)) (.int .i64 (s.c.s)) (.int .i64 ((subD x s.a).d.s + s.c.s)) (addst rfl (by omega) (by omega) _ _ _) ?_
  refine wl_val (.int .i64 (min ((subD x s.a).d.s + s.c.s) 18)) (min_b _ _ _ (by exact rfl) rfl _ _ _ _ _ _ _) rfl ?_
  refine wl_call 54 [(.tmp 20), (.tmp 22), (.tmp 29), (.const (.int .i64 (2)))] _ [.agg ((subD x s.a).d.cells).toArray, .agg (s.c.cells).toArray, .int .i64 (min ((subD x s.a).d.s + s.c.s) 18), .int .i64 (2)] (.tuple #[.agg ((mulD (subD x s.a).d s.c).d.cells).toArray, .int .i64 ((mulD (subD x s.a).d s.c).e)]) rfl rfl (fun _ _ => by kernel_rfl) (qmul_n ((good_sub hx hs.1).fit hf0p) hs.2.2 _) rfl ?_
  intro u7 hq
  replace Q1 := Q1.mo hq
  replace Q2 := Q2.mo hq
  replace Q3 := Q3.mo hq
  replace Q4 := Q4.mo hq
  replace M := M.trans hq
  clear hq
  refine wl_m (.tmp 30) (.tuple #[.agg ((mulD (subD x s.a).d s.c).d.cells).toArray, .int .i64 ((mulD (subD x s.a).d s.c).e)]) ?_
  refine wl_un (fun v => Instr.extract v 0) (.tmp 19) (.tuple #[.agg ((mulD (subD x s.a).d s.c).d.cells).toArray, .int .i64 ((mulD (subD x s.a).d s.c).e)]) (.agg ((mulD (subD x s.a).d s.c).d.cells).toArray) (fun _ => rfl) rfl (by kernel_rfl) rfl ?_
  refine wl_un (fun v => Instr.extract v 1) (.tmp 19) (.tuple #[.agg ((mulD (subD x s.a).d s.c).d.cells).toArray, .int .i64 ((mulD (subD x s.a).d s.c).e)]) (.int .i64 ((mulD (subD x s.a).d s.c).e)) (fun _ => rfl) rfl (by kernel_rfl) rfl ?_
  refine wl_st 33 (.tmp 6) (.tmp 31) k4 0 (((mulD (subD x s.a).d s.c).d.cells).toArray) ((subD x s.a).d.cells) ((mulD (subD x s.a).d s.c).d.cells) Q4 rfl rfl rfl rfl rfl sz33 rfl rfl rfl ?_
  intro u8 hS Qn
  replace Q4 := Qn
  clear Qn
  replace Q1 := hS.other _ _ ne_k1_k4 Q1
  replace Q2 := hS.other _ _ ne_k2_k4 Q2
  replace Q3 := hS.other _ _ ne_k3_k4 Q3
  replace M := hS.mo _ N_k4 M
  clear hS
  refine wl_m (.tmp 32) (.int .i64 ((mulD (subD x s.a).d s.c).e)) ?_
  refine w_nil (xn_then (w_seq (w_seq (w_reg ?_))))
  refine wl_m (.tmp 7) (.int .i64 ((mulD (subD x s.a).d s.c).e)) ?_
  cases hf1 : decide ((mulD (subD x s.a).d s.c).e = 0) with
  | true =>
   have hf1p := of_decide_eq_true hf1
   refine wl_b .neq 26 (.tmp 33) (.const (.int .i64 (0))) (.int .i64 ((mulD (subD x s.a).d s.c).e)) (.int .i64 (0)) (.bool false) (ne34 hf1 _ _ _) ?_
   refine w_nil (xn_then (w_condF rfl (w_skip (xn_then (w_seq (w_reg ?_))))))
   refine wl_f 45 1 (.tmp 2) (pt k1 0) (pt k1 6) ?_
   refine wl_l 33 (.tmp 37) (pt k1 6) (.agg (s.b.cells).toArray) (run_row Q1 33 6 6 (s.b.cells) rfl Try.underlying33 rfl sz33) ?_
   refine wl_l 33 (.tmp 6) (pt k4 0) (.agg ((mulD (subD x s.a).d s.c).d.cells).toArray) (run_row Q4 33 0 6 ((mulD (subD x s.a).d s.c).d.cells) rfl Try.underlying33 rfl sz33) ?_
   refine wl_call 55 [(.tmp 38), (.tmp 39)] _ [.agg (s.b.cells).toArray, .agg ((mulD (subD x s.a).d s.c).d.cells).toArray] (.tuple #[.agg ((addD s.b (mulD (subD x s.a).d s.c).d).d.cells).toArray, .int .i64 ((addD s.b (mulD (subD x s.a).d s.c).d).e)]) rfl rfl (fun _ _ => by kernel_rfl) (qadd_n hs.2.1 ((good_mul ((good_sub hx hs.1).fit hf0p) hs.2.2).fit hf1p) _) rfl ?_
   intro u9 hq
   replace Q1 := Q1.mo hq
   replace Q2 := Q2.mo hq
   replace Q3 := Q3.mo hq
   replace Q4 := Q4.mo hq
   replace M := M.trans hq
   clear hq
   refine wl_un (fun v => Instr.extract v 0) (.tmp 40) (.tuple #[.agg ((addD s.b (mulD (subD x s.a).d s.c).d).d.cells).toArray, .int .i64 ((addD s.b (mulD (subD x s.a).d s.c).d).e)]) (.agg ((addD s.b (mulD (subD x s.a).d s.c).d).d.cells).toArray) (fun _ => rfl) rfl (by kernel_rfl) rfl ?_
   refine wl_un (fun v => Instr.extract v 1) (.tmp 40) (.tuple #[.agg ((addD s.b (mulD (subD x s.a).d s.c).d).d.cells).toArray, .int .i64 ((addD s.b (mulD (subD x s.a).d s.c).d).e)]) (.int .i64 ((addD s.b (mulD (subD x s.a).d s.c).d).e)) (fun _ => rfl) rfl (by kernel_rfl) rfl ?_
   refine wl_st 33 (.tmp 4) (.tmp 41) k3 0 (((addD s.b (mulD (subD x s.a).d s.c).d).d.cells).toArray) _ ((addD s.b (mulD (subD x s.a).d s.c).d).d.cells) Q3 rfl rfl rfl rfl rfl sz33 rfl rfl rfl ?_
   intro u10 hS Qn
   replace Q3 := Qn
   clear Qn
   replace Q1 := hS.other _ _ ne_k1_k3 Q1
   replace Q2 := hS.other _ _ ne_k2_k3 Q2
   replace Q4 := hS.other _ _ ne_k3_k4.symm Q4
   replace M := hS.mo _ N_k3 M
   clear hS
   refine wl_m (.tmp 42) (.int .i64 ((addD s.b (mulD (subD x s.a).d s.c).d).e)) ?_
   refine w_nil (xn_then (w_ret ?_))
   exact w_ret2 _ _ (.agg ((addD s.b (mulD (subD x s.a).d s.c).d).d.cells).toArray) (.int .i64 ((addD s.b (mulD (subD x s.a).d s.c).d).e)) rfl ⟨k3, rfl, (run_row Q3 33 0 6 ((addD s.b (mulD (subD x s.a).d s.c).d).d.cells) rfl Try.underlying33 rfl sz33)⟩ rfl ⟨congrArg Ending.returned (by unfold saysD; rw [if_pos hf0p, if_pos hf1p, addD_comm]; try rfl), M⟩
  | false =>
   have hf1p := of_decide_eq_false hf1
   refine wl_b .neq 26 (.tmp 33) (.const (.int .i64 (0))) (.int .i64 ((mulD (subD x s.a).d s.c).e)) (.int .i64 (0)) (.bool true) (ne34 hf1 _ _ _) ?_
   refine w_nil (xn_then (w_condT rfl (w_seq (w_reg ?_))))
   refine wl_build 33 [] [] (.agg #[.bool false, .int .u64 0, .int .u64 0, .int .u64 0, .int .u64 0, .int .i64 0]) rfl rfl (by kernel_rfl) rfl ?_
   refine wl_m (.tmp 7) (.int .i64 ((mulD (subD x s.a).d s.c).e)) ?_
   refine wl_st 33 (.tmp 4) (.tmp 35) k3 0 #[.bool false, .int .u64 0, .int .u64 0, .int .u64 0, .int .u64 0, .int .i64 0] _ [.bool false, .int .u64 0, .int .u64 0, .int .u64 0, .int .u64 0, .int .i64 0] Q3 rfl rfl rfl rfl rfl sz33 rfl rfl rfl ?_
   intro u9 hS Qn
   replace Q3 := Qn
   clear Qn
   replace Q1 := hS.other _ _ ne_k1_k3 Q1
   replace Q2 := hS.other _ _ ne_k2_k3 Q2
   replace Q4 := hS.other _ _ ne_k3_k4.symm Q4
   replace M := hS.mo _ N_k3 M
   clear hS
   refine wl_m (.tmp 36) (.int .i64 ((mulD (subD x s.a).d s.c).e)) ?_
   refine w_nil (xn_then (w_ret (xr_then ?_)))
   exact w_ret2 _ _ (.agg #[.bool false, .int .u64 0, .int .u64 0, .int .u64 0, .int .u64 0, .int .i64 0]) (.int .i64 ((mulD (subD x s.a).d s.c).e)) rfl ⟨k3, rfl, (run_row Q3 33 0 6 _ rfl Try.underlying33 rfl sz33)⟩ rfl ⟨congrArg Ending.returned (by unfold saysD; rw [if_pos hf0p, if_neg hf1p]; try rfl), M⟩
 | false =>
  have hf0p := of_decide_eq_false hf0
  refine wl_b .neq 26 (.tmp 15) (.const (.int .i64 (0))) (.int .i64 ((subD x s.a).e)) (.int .i64 (0)) (.bool true) (ne34 hf0 _ _ _) ?_
  refine w_nil (xn_then (w_condT rfl (w_seq (w_reg ?_))))
  refine wl_build 33 [] [] (.agg #[.bool false, .int .u64 0, .int .u64 0, .int .u64 0, .int .u64 0, .int .i64 0]) rfl rfl (by kernel_rfl) rfl ?_
  refine wl_m (.tmp 7) (.int .i64 ((subD x s.a).e)) ?_
  refine wl_st 33 (.tmp 4) (.tmp 17) k3 0 #[.bool false, .int .u64 0, .int .u64 0, .int .u64 0, .int .u64 0, .int .i64 0] _ [.bool false, .int .u64 0, .int .u64 0, .int .u64 0, .int .u64 0, .int .i64 0] Q3 rfl rfl rfl rfl rfl sz33 rfl rfl rfl ?_
  intro u7 hS Qn
  replace Q3 := Qn
  clear Qn
  replace Q1 := hS.other _ _ ne_k1_k3 Q1
  replace Q2 := hS.other _ _ ne_k2_k3 Q2
  replace Q4 := hS.other _ _ ne_k3_k4.symm Q4
  replace M := hS.mo _ N_k3 M
  clear hS
  refine wl_m (.tmp 18) (.int .i64 ((subD x s.a).e)) ?_
  refine w_nil (xn_then (w_ret (xr_then ?_)))
  exact w_ret2 _ _ (.agg #[.bool false, .int .u64 0, .int .u64 0, .int .u64 0, .int .u64 0, .int .i64 0]) (.int .i64 ((subD x s.a).e)) rfl ⟨k3, rfl, (run_row Q3 33 0 6 _ rfl Try.underlying33 rfl sz33)⟩ rfl ⟨congrArg Ending.returned (by unfold saysD; rw [if_neg hf0p]; try rfl), M⟩
end Go.Proofs.Ythehmmhnacomkaa
namespace Go.Proofs.Ythehmmhnacomkaa
open Go.RowKit D
def lpI (p : Nat → Bool) (n : Nat) : Int := match lastP p n with
 | some k => (k : Int)
 | none => -1
theorem lpI_t {p : Nat → Bool} {i : Nat} (h : p i = true) : lpI p (i + 1) = (i : Int) := by unfold lpI; rw [lastP, if_pos h]
theorem lpI_f {p : Nat → Bool} {i : Nat} (h : p i = false) : lpI p (i + 1) = lpI p i := by unfold lpI; rw [lastP, h]; rfl
theorem stp_l {L : List Stp} {x : Dn} (hc : chkT L = 0) (hx : x.er = 0) : (lpI (rchd L x) L.length < 0 → stpE L x = 141 ∧ stpN L x = 0) ∧ (¬ lpI (rchd L x) L.length < 0 → stpE L x = 0 ∧ stpN L x = lpI (rchd L x) L.length) := by
 cases e : lastP (rchd L x) L.length with
 | none =>
  have h1 : lpI (rchd L x) L.length = -1 := by unfold lpI; rw [e]
  have h2 : cntT L x = 0 := by unfold cntT; rw [e]
  exact ⟨fun _ => stp_c0 hc hx h2, fun h => by rw [h1] at h; exact absurd (by decide) h⟩
 | some k =>
  have h1 : lpI (rchd L x) L.length = (k : Int) := by unfold lpI; rw [e]
  exact ⟨fun h => by omega, fun _ => by rw [h1]; exact stp_c1 hc hx e⟩
theorem qstep_n {x : Tb} {d : Dn} (w : World) (hT : LT w x) (hdo : d.ok) : Calls Try.prog 14 #[.agg (x.cells).toArray, d.v] w fun e9 w' => e9 = .returned (.tuple #[.int .i64 (stpN x.st d), .int .i64 (stpE x.st d)]) ∧ Mo w w' := by
 refine w_enter 37 Try.func14 Try.ntmps14 rfl rfl ?_
 have M : Mo w w := Mo.refl _
 refine w_seq (w_reg ?_)
 refine wl_box 24 (.tmp 0) _ (((x.cells).toArray)) rfl rfl (fun _ => by kernel_rfl) rfl ?_
 intro k1 u1 hk hz hq Q1
 have N_k1 : w.heap.size ≤ k1 := by have := M.size; omega
 replace M := M.trans hq
 clear hk hz hq
 refine wl_box 33 (.tmp 1) _ (((d.cells).toArray)) rfl rfl (fun _ => by kernel_rfl) rfl ?_
 intro k2 u2 hk hz hq Q2
 have ne_k1_k2 : k1 ≠ k2 := by have := Q1.lt; omega
 have N_k2 : w.heap.size ≤ k2 := by have := M.size; omega
 replace Q1 := Q1.mo hq
 replace M := M.trans hq
 clear hk hz hq
 refine wl_m (.const (.int .i64 (0))) (.int .i64 (0)) ?_
 refine wl_m (.const (.int .i64 (0))) (.int .i64 (0)) ?_
 refine w_nil (xn_then (w_seq (w_seq (w_reg ?_))))
 refine wl_l 24 (.tmp 2) (pt k1 0) (.agg (x.cells).toArray) (run_row Q1 24 0 2 (x.cells) rfl Try.underlying24 rfl szT24) ?_
 refine wl_call 10 [(.tmp 9)] _ [.agg (x.cells).toArray] (.int .i64 (chkT x.st)) rfl rfl (fun _ _ => by kernel_rfl) (qck_n _ (hT.mo M)) rfl ?_
 intro u3 hq
 replace Q1 := Q1.mo hq
 replace Q2 := Q2.mo hq
 replace M := M.trans hq
 clear hq
 refine wl_m (.tmp 10) (.int .i64 (chkT x.st)) ?_
 refine w_nil (xn_then (w_seq (w_reg ?_)))
 refine wl_m (.tmp 6) (.int .i64 (chkT x.st)) ?_
 cases hf0 : decide (chkT x.st = 0) with
 | true =>
  have hf0p := of_decide_eq_true hf0
  refine wl_b .neq 26 (.tmp 11) (.const (.int .i64 (0))) (.int .i64 (chkT x.st)) (.int .i64 (0)) (.bool false) (ne34 hf0 _ _ _) ?_
  refine w_nil (xn_then (w_condF rfl (w_skip (xn_then (w_seq (w_seq (w_reg ?_)))))))
  refine wl_l 33 (.tmp 3) (pt k2 0) (.agg (d.cells).toArray) (run_row Q2 33 0 6 (d.cells) rfl Try.underlying33 rfl sz33) ?_
  refine wl_call 23 [(.tmp 14)] _ [.agg (d.cells).toArray] (.int .i64 (d.er)) rfl rfl (fun _ _ => by kernel_rfl) (qchk_n hdo _) rfl ?_
  intro u4 hq
  replace Q1 := Q1.mo hq
  replace Q2 := Q2.mo hq
  replace M := M.trans hq
  clear hq
  cases hf1 : decide (d.er = 0) with
  | true =>
   have hf1p := of_decide_eq_true hf1
   refine wl_b .neq 26 (.tmp 15) (.const (.int .i64 (0))) (.int .i64 (d.er)) (.int .i64 (0)) (.bool false) (ne34 hf1 _ _ _) ?_
   refine w_nil (xn_then (w_condF rfl (w_skip (xn_then (w_seq (w_reg ?_))))))
   refine wl_m (.const (.int .i64 (-1))) (.int .i64 (-1)) ?_
   refine w_nil (xn_then (w_seq (w_seq (w_reg ?_))))
   refine wl_m (.const (.int .i64 (0))) (.int .i64 (0)) ?_
   refine w_nil (xn_then (w_block ?_))
   have hz9 := hT.sl.1
   unfold maxLen at hz9
   refine w_loop (fun m l w1 => ∃ i : Nat, m = x.st.length - i ∧ i ≤ x.st.length ∧ look l 2 = pt k1 0 ∧ look l 3 = pt k2 0 ∧ look l 8 = .int .i64 ((i : Nat) : Int) ∧ At w1 k1 (x.cells) ∧ At w1 k2 (d.cells) ∧ (look l 7 = .int .i64 (lpI (rchd x.st d) i)) ∧ Mo w w1) _ ⟨0, rfl, Nat.zero_le _, rfl, rfl, rfl, Q1, Q2, rfl, M⟩ ?_
   clear Q1 Q2 M
   rintro m l40 wl40 ⟨i, rfl, hi, e40_2, e40_3, e40_i, Q1, Q2, e7, M⟩
   by_cases hil : i < x.st.length
   ·skip
    have hid : decide (i < x.st.length) = true := decide_eq_true hil
    obtain ⟨y, hy⟩ := get_of_lt hil
    have hmy := List.mem_of_getElem? hy
    obtain ⟨bp, op, hpp, hRp⟩ := D.SL.rw hT.sl hy
    refine w_seq (w_seq (w_reg ?_))
    refine wl_mv (.tmp 8) (.int .i64 ((i : Nat) : Int)) (fun _ => rfl) e40_i rfl ?_
    refine wl_un (fun v => Instr.fieldAt 24 v 1) (.tmp 2) (pt k1 0) (pt k1 1) (fun _ => rfl) e40_2 (by kernel_rfl) rfl ?_
    refine wl_l 22 (.tmp 18) (pt k1 1) (.slice x.pa x.st.length x.cap) (run_one Q1 22 1 rfl Try.underlying22 rfl) ?_
    refine wl_val (.int .i64 ((x.st.length : Nat) : Int)) (len22 _ _ _ _ _ (by exact rfl) _ _ _ _ _ _) rfl ?_
    refine wl_b .lss 3 (.tmp 17) (.tmp 20) (.int .i64 ((i : Nat) : Int)) (.int .i64 ((x.st.length : Nat) : Int)) (.bool true) (ltN hid _ _ _) ?_
    refine w_nil (xn_then (w_condT rfl (w_skip (xn_then (w_seq (w_block (w_seq ?_)))))))
    cases hf30 : decide (cmpD y.a d ≤ 0) with
    | true =>
     have hf30p := of_decide_eq_true hf30
     refine w_any 7 [.inl (pt k1 1), .inl (.slice x.pa x.st.length x.cap), .inl (.int .i64 ((i : Nat) : Int)), .inl (pt bp (op + i * 18)), .inl (pt bp (op + i * 18)), .inl (.agg (y.a.cells).toArray), .inl (.agg (d.cells).toArray)] [] (by kernel_rfl) (by kernel_rfl) (by kernel_rfl) (by kernel_rfl) rfl (by kernel_rfl) (by kernel_rfl) late_nil ?_ ?_ ?_
     ·exact Ds.none rfl
     ·refine ea_cons ?_ (ea_cons ?_ (ea_cons ?_ (ea_cons ?_ (ea_cons ?_ (ea_cons ?_ (ea_cons ?_ (ea_nil)))))))
      ·exact og_eq _ rfl (fun f wf hq hd K hK => go_run rfl (wo_un (fun v => Instr.fieldAt 24 v 1) (.tmp 2) (pt k1 0) (pt k1 1) (fun _ => rfl) e40_2 (by kernel_rfl) (hK _ (Mo.refl _))))
      ·exact og_eq _ rfl (fun f wf hq hd K hK => have Q1 := Q1.mo hq; go_run rfl (wo_load 22 (.tmp 24) (pt k1 1) (.slice x.pa x.st.length x.cap) rfl (hd 0 rfl) (run_one Q1 22 1 rfl Try.underlying22 rfl) (hK _ (Mo.refl _))))
      ·exact og_eq _ rfl (fun f wf hq hd K hK => go_run rfl (wo_mv (.tmp 8) (.int .i64 ((i : Nat) : Int)) (fun _ => rfl) e40_i (hK _ (Mo.refl _))))
      ·exact og_eq _ rfl (fun f wf hq hd K hK => go_run rfl (wo_bin (fun x y => Instr.indexAt 22 x y) (.tmp 25) (.tmp 26) (.slice x.pa x.st.length x.cap) (.int .i64 ((i : Nat) : Int)) (pt bp (op + i * 18)) (fun _ => rfl) (hd 1 rfl) (hd 2 rfl) (ix22 (i := i) hpp hil _) (hK _ (Mo.refl _))))
      ·exact og_eq _ rfl (fun f wf hq hd K hK => go_run rfl (wo_un (fun v => Instr.fieldAt 45 v 0) (.tmp 27) (pt bp (op + i * 18)) (pt bp (op + i * 18)) (fun _ => rfl) (hd 3 rfl) (by kernel_rfl) (hK _ (Mo.refl _))))
      ·exact og_eq _ rfl (fun f wf hq hd K hK => go_run rfl (wo_load 33 (.tmp 28) (pt bp (op + i * 18)) (.agg (y.a.cells).toArray) rfl (hd 4 rfl) (D.run_partR (hRp.mo (M.trans hq)).at' 33 0 6 (y.a.cells) rfl Try.underlying33 rfl sz33) (hK _ (Mo.refl _))))
      ·exact og_eq _ rfl (fun f wf hq hd K hK => have Q2 := Q2.mo hq; go_run rfl (wo_load 33 (.tmp 3) (pt k2 0) (.agg (d.cells).toArray) rfl e40_3 (run_row Q2 33 0 6 (d.cells) rfl Try.underlying33 rfl sz33) (hK _ (Mo.refl _))))
     intro kf41 u41 hq hR hne
     replace Q1 := Q1.mo hq
     replace Q2 := Q2.mo hq
     replace M := M.trans hq
     clear hq hR hne
     refine wl_call 24 [(.tmp 29), (.tmp 30)] _ [.agg (y.a.cells).toArray, .agg (d.cells).toArray] (.int .i64 (cmpD y.a d)) rfl rfl (fun _ _ => by kernel_rfl) (qcmp_n (fit_of hT.ok (chk_0 hf0p).2.2.1 hy).1 ⟨hdo, hf1p⟩ _) rfl ?_
     intro u42 hq
     replace Q1 := Q1.mo hq
     replace Q2 := Q2.mo hq
     replace M := M.trans hq
     clear hq
     refine wl_b .leq 3 (.tmp 31) (.const (.int .i64 (0))) (.int .i64 (cmpD y.a d)) (.int .i64 (0)) (.bool true) (le3 hf30 _ _ _) ?_
     refine w_nil (xn_then (w_condT rfl (w_reg ?_)))
     refine wl_mv (.tmp 8) (.int .i64 ((i : Nat) : Int)) (fun _ => rfl) e40_i rfl ?_
     refine wl_m (.tmp 33) (.int .i64 ((i : Nat) : Int)) ?_
     refine w_nil (xn_blk (xn_then (w_reg ?_)))
     refine wl_mv (.tmp 8) (.int .i64 ((i : Nat) : Int)) (fun _ => rfl) e40_i rfl ?_
     refine wl_b .add 3 (.tmp 22) (.const (.int .i64 (1))) (.int .i64 ((i : Nat) : Int)) (.int .i64 (1)) (.int .i64 ((i + 1 : Nat) : Int)) (add1r (k := i) (by omega) _ _ _) ?_
     refine wl_m (.tmp 23) (.int .i64 ((i + 1 : Nat) : Int)) ?_
     refine w_nil ?_
     exact xn_loop (x.st.length - (i + 1)) (by omega) ⟨i + 1, rfl, by omega, e40_2, e40_3, rfl, Q1, Q2, (by rw [lpI_t ((rchd_at hy).trans hf30)]; exact rfl), M⟩
    | false =>
     have hf30p := of_decide_eq_false hf30
     refine w_any 7 [.inl (pt k1 1), .inl (.slice x.pa x.st.length x.cap), .inl (.int .i64 ((i : Nat) : Int)), .inl (pt bp (op + i * 18)), .inl (pt bp (op + i * 18)), .inl (.agg (y.a.cells).toArray), .inl (.agg (d.cells).toArray)] [] (by kernel_rfl) (by kernel_rfl) (by kernel_rfl) (by kernel_rfl) rfl (by kernel_rfl) (by kernel_rfl) late_nil ?_ ?_ ?_
     ·exact Ds.none rfl
     ·refine ea_cons ?_ (ea_cons ?_ (ea_cons ?_ (ea_cons ?_ (ea_cons ?_ (ea_cons ?_ (ea_cons ?_ (ea_nil)))))))
      ·exact og_eq _ rfl (fun f wf hq hd K hK => go_run rfl (wo_un (fun v => Instr.fieldAt 24 v 1) (.tmp 2) (pt k1 0) (pt k1 1) (fun _ => rfl) e40_2 (by kernel_rfl) (hK _ (Mo.refl _))))
      ·exact og_eq _ rfl (fun f wf hq hd K hK => have Q1 := Q1.mo hq; go_run rfl (wo_load 22 (.tmp 24) (pt k1 1) (.slice x.pa x.st.length x.cap) rfl (hd 0 rfl) (run_one Q1 22 1 rfl Try.underlying22 rfl) (hK _ (Mo.refl _))))
      ·exact og_eq _ rfl (fun f wf hq hd K hK => go_run rfl (wo_mv (.tmp 8) (.int .i64 ((i : Nat) : Int)) (fun _ => rfl) e40_i (hK _ (Mo.refl _))))
      ·exact og_eq _ rfl (fun f wf hq hd K hK => go_run rfl (wo_bin (fun x y => Instr.indexAt 22 x y) (.tmp 25) (.tmp 26) (.slice x.pa x.st.length x.cap) (.int .i64 ((i : Nat) : Int)) (pt bp (op + i * 18)) (fun _ => rfl) (hd 1 rfl) (hd 2 rfl) (ix22 (i := i) hpp hil _) (hK _ (Mo.refl _))))
      ·exact og_eq _ rfl (fun f wf hq hd K hK => go_run rfl (wo_un (fun v => Instr.fieldAt 45 v 0) (.tmp 27) (pt bp (op + i * 18)) (pt bp (op + i * 18)) (fun _ => rfl) (hd 3 rfl) (by kernel_rfl) (hK _ (Mo.refl _))))
      ·exact og_eq _ rfl (fun f wf hq hd K hK => go_run rfl (wo_load 33 (.tmp 28) (pt bp (op + i * 18)) (.agg (y.a.cells).toArray) rfl (hd 4 rfl) (D.run_partR (hRp.mo (M.trans hq)).at' 33 0 6 (y.a.cells) rfl Try.underlying33 rfl sz33) (hK _ (Mo.refl _))))
      ·exact og_eq _ rfl (fun f wf hq hd K hK => have Q2 := Q2.mo hq; go_run rfl (wo_load 33 (.tmp 3) (pt k2 0) (.agg (d.cells).toArray) rfl e40_3 (run_row Q2 33 0 6 (d.cells) rfl Try.underlying33 rfl sz33) (hK _ (Mo.refl _))))
     intro kf41 u41 hq hR hne
     replace Q1 := Q1.mo hq
     replace Q2 := Q2.mo hq
     replace M := M.trans hq
     clear hq hR hne
     refine wl_call 24 [(.tmp 29), (.tmp 30)] _ [.agg (y.a.cells).toArray, .agg (d.cells).toArray] (.int .i64 (cmpD y.a d)) rfl rfl (fun _ _ => by kernel_rfl) (qcmp_n (fit_of hT.ok (chk_0 hf0p).2.2.1 hy).1 ⟨hdo, hf1p⟩ _) rfl ?_
     intro u42 hq
     replace Q1 := Q1.mo hq
     replace Q2 := Q2.mo hq
     replace M := M.trans hq
     clear hq
     refine wl_b .leq 3 (.tmp 31) (.const (.int .i64 (0))) (.int .i64 (cmpD y.a d)) (.int .i64 (0)) (.bool false) (le3 hf30 _ _ _) ?_
     refine w_nil (xn_then (w_condF rfl (w_skip (xn_blk (xn_then (w_reg ?_))))))
     refine wl_mv (.tmp 8) (.int .i64 ((i : Nat) : Int)) (fun _ => rfl) e40_i rfl ?_
     refine wl_b .add 3 (.tmp 22) (.const (.int .i64 (1))) (.int .i64 ((i : Nat) : Int)) (.int .i64 (1)) (.int .i64 ((i + 1 : Nat) : Int)) (add1r (k := i) (by omega) _ _ _) ?_
     refine wl_m (.tmp 23) (.int .i64 ((i + 1 : Nat) : Int)) ?_
     refine w_nil ?_
     exact xn_loop (x.st.length - (i + 1)) (by omega) ⟨i + 1, rfl, by omega, e40_2, e40_3, rfl, Q1, Q2, (by rw [lpI_f ((rchd_at hy).trans hf30)]; exact e7), M⟩
   ·skip
    have hid : decide (i < x.st.length) = false := decide_eq_false hil
    have hie : i = x.st.length := by omega
    refine w_seq (w_seq (w_reg ?_))
    refine wl_mv (.tmp 8) (.int .i64 ((i : Nat) : Int)) (fun _ => rfl) e40_i rfl ?_
    refine wl_un (fun v => Instr.fieldAt 24 v 1) (.tmp 2) (pt k1 0) (pt k1 1) (fun _ => rfl) e40_2 (by kernel_rfl) rfl ?_
    refine wl_l 22 (.tmp 18) (pt k1 1) (.slice x.pa x.st.length x.cap) (run_one Q1 22 1 rfl Try.underlying22 rfl) ?_
    refine wl_val (.int .i64 ((x.st.length : Nat) : Int)) (len22 _ _ _ _ _ (by exact rfl) _ _ _ _ _ _) rfl ?_
    refine wl_b .lss 3 (.tmp 17) (.tmp 20) (.int .i64 ((i : Nat) : Int)) (.int .i64 ((x.st.length : Nat) : Int)) (.bool false) (ltN hid _ _ _) ?_
    refine w_nil (xn_then (w_condF rfl (w_exit (xx_then (xx_then (xx_blk (xn_then (w_seq (w_seq (w_reg ?_))))))))))
    refine wl_mv (.tmp 7) (.int .i64 (lpI (rchd x.st d) i)) (fun _ => rfl) e7 rfl ?_
    cases hf30 : decide (lpI (rchd x.st d) i < 0) with
    | true =>
     have hf30p := of_decide_eq_true hf30
     refine wl_b .lss 3 (.tmp 34) (.const (.int .i64 (0))) (.int .i64 (lpI (rchd x.st d) i)) (.int .i64 (0)) (.bool true) (lt3 hf30 _ _ _) ?_
     refine w_nil (xn_then (w_condT rfl (w_seq (w_reg ?_))))
     refine wl_m (.const (.int .i64 (0))) (.int .i64 (0)) ?_
     refine wl_m (.const (.int .i64 (141))) (.int .i64 (141)) ?_
     refine w_nil (xn_then (w_ret (xr_then ?_)))
     exact w_ret2 _ _ (.int .i64 (0)) (.int .i64 (141)) rfl rfl rfl ⟨stp_ret ((stp_l hf0p hf1p).1 (hie ▸ hf30p)).2.symm ((stp_l hf0p hf1p).1 (hie ▸ hf30p)).1.symm, M⟩
    | false =>
     have hf30p := of_decide_eq_false hf30
     refine wl_b .lss 3 (.tmp 34) (.const (.int .i64 (0))) (.int .i64 (lpI (rchd x.st d) i)) (.int .i64 (0)) (.bool false) (lt3 hf30 _ _ _) ?_
     refine w_nil (xn_then (w_condF rfl (w_skip (xn_then (w_seq (w_reg ?_))))))
     refine wl_mv (.tmp 7) (.int .i64 (lpI (rchd x.st d) i)) (fun _ => rfl) e7 rfl ?_
     refine wl_m (.tmp 36) (.int .i64 (lpI (rchd x.st d) i)) ?_
     refine wl_m (.const (.int .i64 (0))) (.int .i64 (0)) ?_
     refine w_nil (xn_then (w_ret ?_))
     exact w_ret2 _ _ (.int .i64 (lpI (rchd x.st d) i)) (.int .i64 (0)) rfl rfl rfl ⟨by subst hie; exact stp_ret ((stp_l hf0p hf1p).2 hf30p).2.symm ((stp_l hf0p hf1p).2 hf30p).1.symm, M⟩
  | false =>
   have hf1p := of_decide_eq_false hf1
   refine wl_b .neq 26 (.tmp 15) (.const (.int .i64 (0))) (.int .i64 (d.er)) (.int .i64 (0)) (.bool true) (ne34 hf1 _ _ _) ?_
   refine w_nil (xn_then (w_condT rfl (w_seq (w_reg ?_))))
   refine wl_m (.const (.int .i64 (0))) (.int .i64 (0)) ?_
   refine wl_m (.const (.int .i64 (20))) (.int .i64 (20)) ?_
   refine w_nil (xn_then (w_ret (xr_then ?_)))
   exact w_ret2 _ _ (.int .i64 (0)) (.int .i64 (20)) rfl rfl rfl ⟨stp_ret (stp_num hf0p hf1p).2.symm (stp_num hf0p hf1p).1.symm, M⟩
 | false =>
  have hf0p := of_decide_eq_false hf0
  refine wl_b .neq 26 (.tmp 11) (.const (.int .i64 (0))) (.int .i64 (chkT x.st)) (.int .i64 (0)) (.bool true) (ne34 hf0 _ _ _) ?_
  refine w_nil (xn_then (w_condT rfl (w_seq (w_reg ?_))))
  refine wl_m (.tmp 6) (.int .i64 (chkT x.st)) ?_
  refine wl_m (.const (.int .i64 (0))) (.int .i64 (0)) ?_
  refine wl_m (.tmp 13) (.int .i64 (chkT x.st)) ?_
  refine w_nil (xn_then (w_ret (xr_then ?_)))
  exact w_ret2 _ _ (.int .i64 (0)) (.int .i64 (chkT x.st)) rfl rfl rfl ⟨stp_ret (stp_bad hf0p).2.symm (stp_bad hf0p).1.symm, M⟩
theorem qat_n {x : Tb} {d : Dn} (w : World) (hT : LT w x) (hdo : d.ok) : Calls Try.prog 16 #[.agg (x.cells).toArray, d.v] w fun e9 w' => e9 = .returned (atD x.st d).v ∧ Mo w w' := by
 refine w_enter 27 Try.func16 Try.ntmps16 rfl rfl ?_
 have M : Mo w w := Mo.refl _
 refine w_seq (w_reg ?_)
 refine wl_box 24 (.tmp 0) _ (((x.cells).toArray)) rfl rfl (fun _ => by kernel_rfl) rfl ?_
 intro k1 u1 hk hz hq Q1
 have N_k1 : w.heap.size ≤ k1 := by have := M.size; omega
 replace M := M.trans hq
 clear hk hz hq
 refine wl_box 33 (.tmp 1) _ (((d.cells).toArray)) rfl rfl (fun _ => by kernel_rfl) rfl ?_
 intro k2 u2 hk hz hq Q2
 have ne_k1_k2 : k1 ≠ k2 := by have := Q1.lt; omega
 have N_k2 : w.heap.size ≤ k2 := by have := M.size; omega
 replace Q1 := Q1.mo hq
 replace M := M.trans hq
 clear hk hz hq
 refine wl_alloc 33 #[.bool false, .int .u64 0, .int .u64 0, .int .u64 0, .int .u64 0, .int .i64 0] rfl (fun _ => by kernel_rfl) rfl ?_
 intro k3 u3 hk hz hq Q3
 have ne_k1_k3 : k1 ≠ k3 := by have := Q1.lt; omega
 have ne_k2_k3 : k2 ≠ k3 := by have := Q2.lt; omega
 have N_k3 : w.heap.size ≤ k3 := by have := M.size; omega
 replace Q1 := Q1.mo hq
 replace Q2 := Q2.mo hq
 replace M := M.trans hq
 clear hk hz hq
 refine wl_m (.const (.int .i64 (0))) (.int .i64 (0)) ?_
 refine w_nil (xn_then (w_seq (w_reg ?_)))
 refine wl_l 24 (.tmp 2) (pt k1 0) (.agg (x.cells).toArray) (run_row Q1 24 0 2 (x.cells) rfl Try.underlying24 rfl szT24) ?_
 refine wl_l 33 (.tmp 3) (pt k2 0) (.agg (d.cells).toArray) (run_row Q2 33 0 6 (d.cells) rfl Try.underlying33 rfl sz33) ?_
 refine wl_call 14 [(.tmp 9), (.tmp 10)] _ [.agg (x.cells).toArray, .agg (d.cells).toArray] (.tuple #[.int .i64 (stpN x.st d), .int .i64 (stpE x.st d)]) rfl rfl (fun _ _ => by kernel_rfl) (qstep_n _ (hT.mo M) hdo) rfl ?_
 intro u4 hq
 replace Q1 := Q1.mo hq
 replace Q2 := Q2.mo hq
 replace Q3 := Q3.mo hq
 replace M := M.trans hq
 clear hq
 refine wl_m (.tmp 11) (.tuple #[.int .i64 (stpN x.st d), .int .i64 (stpE x.st d)]) ?_
 refine wl_un (fun v => Instr.extract v 0) (.tmp 8) (.tuple #[.int .i64 (stpN x.st d), .int .i64 (stpE x.st d)]) (.int .i64 (stpN x.st d)) (fun _ => rfl) rfl (by kernel_rfl) rfl ?_
 refine wl_un (fun v => Instr.extract v 1) (.tmp 8) (.tuple #[.int .i64 (stpN x.st d), .int .i64 (stpE x.st d)]) (.int .i64 (stpE x.st d)) (fun _ => rfl) rfl (by kernel_rfl) rfl ?_
 refine wl_m (.tmp 12) (.int .i64 (stpN x.st d)) ?_
 refine wl_m (.tmp 13) (.int .i64 (stpE x.st d)) ?_
 refine w_nil (xn_then (w_seq (w_seq (w_reg ?_))))
 refine wl_m (.tmp 7) (.int .i64 (stpE x.st d)) ?_
 cases hf0 : decide (stpE x.st d = 0) with
 | true =>
  have hf0p := of_decide_eq_true hf0
  refine wl_b .neq 26 (.tmp 14) (.const (.int .i64 (0))) (.int .i64 (stpE x.st d)) (.int .i64 (0)) (.bool false) (ne34 hf0 _ _ _) ?_
  refine w_nil (xn_then (w_condF rfl (w_skip (xn_then (w_seq ?_)))))
  obtain ⟨hc, he, kc, s, hlk, hs, hN, hat⟩ := stp_0 hf0p
  have hkl := lt_of_get hs
  obtain ⟨bp, op, hpp, hRp⟩ := D.SL.rw hT.sl hs
  refine w_any 9 [.inl (pt k1 1), .inl (.slice x.pa x.st.length x.cap), .inl (.int .i64 ((kc : Nat) : Int)), .inl (pt bp (op + kc * 18)), .inl (.agg (s.cells).toArray), .inl (.agg (d.cells).toArray), .inl (.tuple #[.agg ((saysD s d).d.cells).toArray, .int .i64 ((saysD s d).e)]), .inl (.agg ((saysD s d).d.cells).toArray), .inl (.int .i64 ((saysD s d).e))] [] (by kernel_rfl) (by kernel_rfl) (by kernel_rfl) (by kernel_rfl) rfl (by kernel_rfl) (by kernel_rfl) late_nil ?_ ?_ ?_
  ·exact Ds.none rfl
  ·refine ea_cons ?_ (ea_cons ?_ (ea_cons ?_ (ea_cons ?_ (ea_cons ?_ (ea_cons ?_ (ea_cons ?_ (ea_cons ?_ (ea_cons ?_ (ea_nil)))))))))
   ·exact og_eq _ rfl (fun f wf hq hd K hK => go_run rfl (wo_un (fun v => Instr.fieldAt 24 v 1) (.tmp 2) (pt k1 0) (pt k1 1) (fun _ => rfl) rfl (by kernel_rfl) (hK _ (Mo.refl _))))
   ·exact og_eq _ rfl (fun f wf hq hd K hK => have Q1 := Q1.mo hq; go_run rfl (wo_load 22 (.tmp 18) (pt k1 1) (.slice x.pa x.st.length x.cap) rfl (hd 0 rfl) (run_one Q1 22 1 rfl Try.underlying22 rfl) (hK _ (Mo.refl _))))
   ·exact og_eq _ rfl (fun f wf hq hd K hK => go_run rfl (wo_mv (.tmp 6) (.int .i64 ((kc : Nat) : Int)) (fun _ => rfl) (Eq.trans (show _ = Value.int .i64 (stpN x.st d) from rfl) (congrArg (Value.int .i64) hN)) (hK _ (Mo.refl _))))
   ·exact og_eq _ rfl (fun f wf hq hd K hK => go_run rfl (wo_bin (fun x y => Instr.indexAt 22 x y) (.tmp 19) (.tmp 20) (.slice x.pa x.st.length x.cap) (.int .i64 ((kc : Nat) : Int)) (pt bp (op + kc * 18)) (fun _ => rfl) (hd 1 rfl) (hd 2 rfl) (ix22 (i := kc) hpp hkl _) (hK _ (Mo.refl _))))
   ·exact og_eq _ rfl (fun f wf hq hd K hK => go_run rfl (wo_load 45 (.tmp 21) (pt bp (op + kc * 18)) (.agg (s.cells).toArray) rfl (hd 3 rfl) (D.run_partR (hRp.mo (M.trans hq)).at' 45 0 18 (s.cells) rfl Try.underlying45 rfl sz45) (hK _ (Mo.refl _))))
   ·exact og_eq _ rfl (fun f wf hq hd K hK => have Q2 := Q2.mo hq; go_run rfl (wo_load 33 (.tmp 3) (pt k2 0) (.agg (d.cells).toArray) rfl rfl (run_row Q2 33 0 6 (d.cells) rfl Try.underlying33 rfl sz33) (hK _ (Mo.refl _))))
   ·exact og_eq _ rfl (fun f wf hq hd K hK => go_run rfl (wo_call 33 [(.tmp 22), (.tmp 23)] _ [.agg (s.cells).toArray, .agg (d.cells).toArray] (.tuple #[.agg ((saysD s d).d.cells).toArray, .int .i64 ((saysD s d).e)]) rfl (li2 (hd 4 rfl) (hd 5 rfl)) (fun _ _ => by kernel_rfl) (qsays_n _ (fit_of hT.ok (chk_0 hc).2.2.1 hs) ⟨hdo, he⟩) hK))
   ·exact og_eq _ rfl (fun f wf hq hd K hK => go_run rfl (wo_un (fun v => Instr.extract v 0) (.tmp 24) (.tuple #[.agg ((saysD s d).d.cells).toArray, .int .i64 ((saysD s d).e)]) (.agg ((saysD s d).d.cells).toArray) (fun _ => rfl) (hd 6 rfl) (by kernel_rfl) (hK _ (Mo.refl _))))
   ·exact og_eq _ rfl (fun f wf hq hd K hK => go_run rfl (wo_un (fun v => Instr.extract v 1) (.tmp 24) (.tuple #[.agg ((saysD s d).d.cells).toArray, .int .i64 ((saysD s d).e)]) (.int .i64 ((saysD s d).e)) (fun _ => rfl) (hd 6 rfl) (by kernel_rfl) (hK _ (Mo.refl _))))
  intro kf5 u5 hq hR hne
  replace Q1 := Q1.mo hq
  replace Q2 := Q2.mo hq
  replace Q3 := Q3.mo hq
  replace M := M.trans hq
  clear hq hR hne
  refine wl_st 33 (.tmp 4) (.tmp 25) k3 0 (((saysD s d).d.cells).toArray) _ ((saysD s d).d.cells) Q3 rfl rfl rfl rfl rfl sz33 rfl rfl rfl ?_
  intro u6 hS Qn
  replace Q3 := Qn
  clear Qn
  replace Q1 := hS.other _ _ ne_k1_k3 Q1
  replace Q2 := hS.other _ _ ne_k2_k3 Q2
  replace M := hS.mo _ N_k3 M
  clear hS
  refine wl_m (.tmp 26) (.int .i64 ((saysD s d).e)) ?_
  refine w_nil (xn_then (w_ret ?_))
  exact w_ret2 _ _ (.agg ((saysD s d).d.cells).toArray) (.int .i64 ((saysD s d).e)) rfl ⟨k3, rfl, (run_row Q3 33 0 6 ((saysD s d).d.cells) rfl Try.underlying33 rfl sz33)⟩ rfl ⟨congrArg Ending.returned (by rw [hat]; try rfl), M⟩
 | false =>
  have hf0p := of_decide_eq_false hf0
  refine wl_b .neq 26 (.tmp 14) (.const (.int .i64 (0))) (.int .i64 (stpE x.st d)) (.int .i64 (0)) (.bool true) (ne34 hf0 _ _ _) ?_
  refine w_nil (xn_then (w_condT rfl (w_seq (w_reg ?_))))
  refine wl_build 33 [] [] (.agg #[.bool false, .int .u64 0, .int .u64 0, .int .u64 0, .int .u64 0, .int .i64 0]) rfl rfl (by kernel_rfl) rfl ?_
  refine wl_m (.tmp 7) (.int .i64 (stpE x.st d)) ?_
  refine wl_st 33 (.tmp 4) (.tmp 16) k3 0 #[.bool false, .int .u64 0, .int .u64 0, .int .u64 0, .int .u64 0, .int .i64 0] _ [.bool false, .int .u64 0, .int .u64 0, .int .u64 0, .int .u64 0, .int .i64 0] Q3 rfl rfl rfl rfl rfl sz33 rfl rfl rfl ?_
  intro u5 hS Qn
  replace Q3 := Qn
  clear Qn
  replace Q1 := hS.other _ _ ne_k1_k3 Q1
  replace Q2 := hS.other _ _ ne_k2_k3 Q2
  replace M := hS.mo _ N_k3 M
  clear hS
  refine wl_m (.tmp 17) (.int .i64 (stpE x.st d)) ?_
  refine w_nil (xn_then (w_ret (xr_then ?_)))
  exact w_ret2 _ _ (.agg #[.bool false, .int .u64 0, .int .u64 0, .int .u64 0, .int .u64 0, .int .i64 0]) (.int .i64 (stpE x.st d)) rfl ⟨k3, rfl, (run_row Q3 33 0 6 _ rfl Try.underlying33 rfl sz33)⟩ rfl ⟨congrArg Ending.returned (by rw [at_e hf0p]; try rfl), M⟩
def bdg (n : Int) : Int := (Lib.bitLen n.toNat : Int)
theorem bdg_le {n : Int} (h : n ≤ 0) : bdg n = 0 := by
 unfold bdg
 rw [show n.toNat = 0 by omega]; rfl
theorem bdg_half {n : Int} (h : 0 < n) (h1 : n ≤ 9223372036854775807) : bdg n = bdg (n / 2) + 1 := by
 unfold bdg
 rw [Lib.bitLen_half n.toNat (by omega) (by omega), show (n / 2).toNat = n.toNat / 2 by omega]
 omega
theorem bdg_bd {n : Int} (h1 : n ≤ 9223372036854775807) : 0 ≤ bdg n ∧ bdg n ≤ 64 := by
 by_cases h : n ≤ 0
 ·rw [bdg_le h]; decide
 ·have := bl_le (a := n) ⟨by omega, by omega⟩ (by omega)
  exact ⟨this.2, this.1⟩
theorem bdg_max (n : Int) : bdg (max n 0) = bdg n := by
 by_cases h : n ≤ 0
 ·rw [show max n 0 = 0 by omega, bdg_le h]; rfl
 ·rw [show max n 0 = n by omega]
theorem quo2i {a : Int} (h0 : 0 ≤ a) (ha : a ≤ 9223372036854775807) (x y : Operand) (w : World) : (do eqGuard .quo 3 x y (.int .i64 a) (.int .i64 2); binOp .quo 3 (.int .i64 a) (.int .i64 2)).run Try.prog w = .ok (.int .i64 (a / 2)) w := by
 have e : a.tdiv 2 = a / 2 := Int.tdiv_eq_ediv_of_nonneg h0
 have q : IntKind.i64.wrap (a / 2) = a / 2 := by rw [IntKind.wrap_i64]; omega
 simp [go_sem, e, q]
theorem cv55 {a : Int} (h0 : 0 ≤ a) (ha : a ≤ 9223372036854775807) (w : World) : (convert 3 55 (.int .i64 a)).run Try.prog w = .ok (.int .u64 a) w := by
 have q : IntKind.u64.wrap a = a := by rw [IntKind.wrap_u64]; omega
 simp [go_sem, q]
theorem len_n (a : Int) (w : World) (h0 : 0 ≤ a) (h1 : a ≤ 18446744073709551615) : Calls Try.prog 34 #[.int .u64 a] w fun e9 w' => e9 = .returned (.int .i64 (bdg a)) ∧ Mo w w' := by
 refine w_enter 8 Try.func34 Try.ntmps34 rfl rfl ?_
 have M : Mo w w := Mo.refl _
 refine w_seq (w_reg ?_)
 refine wl_m (.const (.int .i64 (0))) (.int .i64 (0)) ?_
 refine w_nil (xn_then (w_seq (w_condF rfl (w_skip (xn_then (w_seq (w_reg ?_)))))))
 refine wl_m (.tmp 0) (.int .u64 a) ?_
 refine wl_call 57 [(.tmp 6)] _ [.int .u64 a] (.int .i64 (bdg a)) rfl rfl (fun _ _ => by kernel_rfl) ((Try.bits_Len64 a _ h0 h1).mono (fun e w1 h => ⟨h.1, h.2 ▸ Mo.refl _⟩)) rfl ?_
 intro u1 hq
 replace M := M.trans hq
 clear hq
 refine wl_m (.tmp 7) (.int .i64 (bdg a)) ?_
 refine w_nil (xn_then (w_ret ?_))
 exact w_ret1 _ _ rfl rfl ⟨rfl, M⟩
theorem plooks_n (n : Int) (w : World) (hn : n ≤ 9223372036854775807) : Calls Try.prog 17 #[.int .i64 n] w fun e9 w' => e9 = .returned (.int .i64 (bdg n)) ∧ Mo w w' := by
 refine w_enter 7 Try.func17 Try.ntmps17 rfl rfl ?_
 have M : Mo w w := Mo.refl _
 refine w_seq (w_reg ?_)
 refine wl_m (.const (.int .i64 (0))) (.int .i64 (0)) ?_
 refine w_nil (xn_then (w_seq (w_reg ?_)))
 refine wl_m (.tmp 0) (.int .i64 (n)) ?_
 refine wl_val (.int .i64 (max n 0)) (max_run _ _ _ _ _ (by exact rfl) rfl _ _ _ _ _ _) rfl ?_
 refine wl_un (fun v => convert 3 55 v) (.tmp 4) (.int .i64 (max n 0)) (.int .u64 (max n 0)) (fun _ => rfl) rfl (cv55 (by omega) (by omega) _) rfl ?_
 refine wl_call 34 [(.tmp 5)] _ [.int .u64 (max n 0)] (.int .i64 (bdg (max n 0))) rfl rfl (fun _ _ => by kernel_rfl) (len_n (max n 0) _ (by omega) (by omega)) rfl ?_
 intro u1 hq
 replace M := M.trans hq
 clear hq
 refine wl_m (.tmp 6) (.int .i64 (bdg (max n 0))) ?_
 refine w_nil (xn_then (w_ret ?_))
 exact w_ret1 _ (.int .i64 (bdg (max n 0))) rfl rfl ⟨congrArg (fun v => Ending.returned (.int .i64 v)) (bdg_max n), M⟩
theorem qlooks_n (n : Int) (w : World) (hn : n ≤ 9223372036854775807) : Calls Try.prog 18 #[.int .i64 n] w fun e9 w' => e9 = .returned (.int .i64 (bdg n)) ∧ Mo w w' := by
 refine w_enter 11 Try.func18 Try.ntmps18 rfl rfl ?_
 have M : Mo w w := Mo.refl _
 refine w_seq (w_reg ?_)
 refine wl_m (.const (.int .i64 (0))) (.int .i64 (0)) ?_
 refine w_nil (xn_then (w_seq (w_reg ?_)))
 refine wl_m (.const (.int .i64 (0))) (.int .i64 (0)) ?_
 refine w_nil (xn_then (w_seq (w_block ?_)))
 refine w_loop (fun m l w1 => ∃ a k : Int, m = a.toNat ∧ look l 0 = .int .i64 a ∧ look l 3 = .int .i64 k ∧ 0 ≤ k ∧ k + bdg a = bdg n ∧ a ≤ 9223372036854775807 ∧ Mo w w1) _ ⟨n, 0, rfl, rfl, rfl, by omega, by omega, hn, M⟩ ?_
 clear M
 rintro m l wl ⟨a, k, rfl, e0, e3, hk0, hk, ha, M⟩
 have hbd := bdg_bd hn
 have hba := bdg_bd ha
 by_cases hp : 0 < a
 ·skip
  have hpd : decide (0 < a) = true := decide_eq_true hp
  have hh := bdg_half hp ha
  refine w_seq (w_seq (w_reg ?_))
  refine wl_mv (.tmp 0) (.int .i64 (a)) (fun _ => rfl) e0 rfl ?_
  refine wl_b .gtr 3 (.tmp 4) (.const (.int .i64 (0))) (.int .i64 (a)) (.int .i64 (0)) (.bool true) (gt3 hpd _ _ _) ?_
  refine w_nil (xn_then (w_condT rfl (w_skip (xn_then (w_block (w_seq (w_reg ?_)))))))
  refine wl_mv (.tmp 0) (.int .i64 (a)) (fun _ => rfl) e0 rfl ?_
  refine wl_b .quo 3 (.tmp 6) (.const (.int .i64 (2))) (.int .i64 (a)) (.int .i64 (2)) (.int .i64 (a / 2)) (quo2i (by omega) (by omega) _ _ _) ?_
  refine wl_m (.tmp 7) (.int .i64 (a / 2)) ?_
  refine w_nil (xn_then (w_reg ?_))
  refine wl_mv (.tmp 3) (.int .i64 (k)) (fun _ => rfl) e3 rfl ?_
  refine wl_b .add 3 (.tmp 8) (.const (.int .i64 (1))) (.int .i64 (k)) (.int .i64 (1)) (.int .i64 (k + 1)) (add1i (k := k) (by omega) (by omega) _ _ _) ?_
  refine wl_m (.tmp 9) (.int .i64 (k + 1)) ?_
  refine w_nil (xn_blk ?_)
  exact xn_loop (a / 2).toNat (by omega) ⟨a / 2, k + 1, rfl, rfl, rfl, by omega, by omega, by omega, M⟩
 ·skip
  have hpd : decide (0 < a) = false := decide_eq_false hp
  refine w_seq (w_seq (w_reg ?_))
  refine wl_mv (.tmp 0) (.int .i64 (a)) (fun _ => rfl) e0 rfl ?_
  refine wl_b .gtr 3 (.tmp 4) (.const (.int .i64 (0))) (.int .i64 (a)) (.int .i64 (0)) (.bool false) (gt3 hpd _ _ _) ?_
  refine w_nil (xn_then (w_condF rfl (w_exit (xx_then (xx_then (xx_blk (xn_then (w_seq (w_reg ?_)))))))))
  refine wl_mv (.tmp 3) (.int .i64 (k)) (fun _ => rfl) e3 rfl ?_
  refine wl_m (.tmp 10) (.int .i64 (k)) ?_
  refine w_nil (xn_then (w_ret ?_))
  exact w_ret1 _ (.int .i64 (k)) rfl rfl ⟨congrArg (fun v => Ending.returned (.int .i64 v)) (by have := bdg_le (n := a) (by omega); omega), M⟩
end Go.Proofs.Ythehmmhnacomkaa
namespace Go.Proofs.Ythehmmhnacomkaa
open Go.RowKit D
theorem says_n {x : Tb} {d : Dn} {n : Int} (w : World) (hX : LT w x) (hdo : d.ok) (hn : n ≤ 9223372036854775807) : Calls Try.prog 4 #[.agg (x.cells).toArray, d.v, .int .i64 n] w fun e9 w' => e9 = .returned (.bool true) ∧ Mo w w' := by
 refine w_enter 67 Try.func4 Try.ntmps4 rfl rfl ?_
 have M : Mo w w := Mo.refl _
 refine w_seq (w_reg ?_)
 refine wl_box 24 (.tmp 0) _ (((x.cells).toArray)) rfl rfl (fun _ => by kernel_rfl) rfl ?_
 intro k1 u1 hk hz hq Q1
 have N_k1 : w.heap.size ≤ k1 := by have := M.size; omega
 replace M := M.trans hq
 clear hk hz hq
 refine wl_box 33 (.tmp 1) _ (((d.cells).toArray)) rfl rfl (fun _ => by kernel_rfl) rfl ?_
 intro k2 u2 hk hz hq Q2
 have ne_k1_k2 : k1 ≠ k2 := by have := Q1.lt; omega
 have N_k2 : w.heap.size ≤ k2 := by have := M.size; omega
 replace Q1 := Q1.mo hq
 replace M := M.trans hq
 clear hk hz hq
 refine wl_m (.const (.bool false)) (.bool false) ?_
 refine w_nil (xn_then (w_seq (w_reg ?_)))
 refine wl_l 24 (.tmp 3) (pt k1 0) (.agg (x.cells).toArray) (run_row Q1 24 0 2 (x.cells) rfl Try.underlying24 rfl szT24) ?_
 refine wl_l 33 (.tmp 4) (pt k2 0) (.agg (d.cells).toArray) (run_row Q2 33 0 6 (d.cells) rfl Try.underlying33 rfl sz33) ?_
 refine wl_call 13 [(.tmp 16), (.tmp 17)] _ [.agg (x.cells).toArray, .agg (d.cells).toArray] (.tuple #[.int .i64 (stpN x.st d), .int .i64 (stpE x.st d)]) rfl rfl (fun _ _ => by kernel_rfl) (pstep_n _ (hX.mo M) hdo) rfl ?_
 intro u3 hq
 replace Q1 := Q1.mo hq
 replace Q2 := Q2.mo hq
 replace M := M.trans hq
 clear hq
 refine wl_m (.tmp 18) (.tuple #[.int .i64 (stpN x.st d), .int .i64 (stpE x.st d)]) ?_
 refine wl_un (fun v => Instr.extract v 0) (.tmp 15) (.tuple #[.int .i64 (stpN x.st d), .int .i64 (stpE x.st d)]) (.int .i64 (stpN x.st d)) (fun _ => rfl) rfl (by kernel_rfl) rfl ?_
 refine wl_un (fun v => Instr.extract v 1) (.tmp 15) (.tuple #[.int .i64 (stpN x.st d), .int .i64 (stpE x.st d)]) (.int .i64 (stpE x.st d)) (fun _ => rfl) rfl (by kernel_rfl) rfl ?_
 refine wl_m (.tmp 19) (.int .i64 (stpN x.st d)) ?_
 refine wl_m (.tmp 20) (.int .i64 (stpE x.st d)) ?_
 refine w_nil (xn_then (w_seq (w_reg ?_)))
 refine wl_l 24 (.tmp 3) (pt k1 0) (.agg (x.cells).toArray) (run_row Q1 24 0 2 (x.cells) rfl Try.underlying24 rfl szT24) ?_
 refine wl_l 33 (.tmp 4) (pt k2 0) (.agg (d.cells).toArray) (run_row Q2 33 0 6 (d.cells) rfl Try.underlying33 rfl sz33) ?_
 refine wl_call 14 [(.tmp 22), (.tmp 23)] _ [.agg (x.cells).toArray, .agg (d.cells).toArray] (.tuple #[.int .i64 (stpN x.st d), .int .i64 (stpE x.st d)]) rfl rfl (fun _ _ => by kernel_rfl) (qstep_n _ (hX.mo M) hdo) rfl ?_
 intro u4 hq
 replace Q1 := Q1.mo hq
 replace Q2 := Q2.mo hq
 replace M := M.trans hq
 clear hq
 refine wl_m (.tmp 24) (.tuple #[.int .i64 (stpN x.st d), .int .i64 (stpE x.st d)]) ?_
 refine wl_un (fun v => Instr.extract v 0) (.tmp 21) (.tuple #[.int .i64 (stpN x.st d), .int .i64 (stpE x.st d)]) (.int .i64 (stpN x.st d)) (fun _ => rfl) rfl (by kernel_rfl) rfl ?_
 refine wl_un (fun v => Instr.extract v 1) (.tmp 21) (.tuple #[.int .i64 (stpN x.st d), .int .i64 (stpE x.st d)]) (.int .i64 (stpE x.st d)) (fun _ => rfl) rfl (by kernel_rfl) rfl ?_
 refine wl_m (.tmp 25) (.int .i64 (stpN x.st d)) ?_
 refine wl_m (.tmp 26) (.int .i64 (stpE x.st d)) ?_
 refine w_nil (xn_then (w_seq (w_reg ?_)))
 refine wl_l 24 (.tmp 3) (pt k1 0) (.agg (x.cells).toArray) (run_row Q1 24 0 2 (x.cells) rfl Try.underlying24 rfl szT24) ?_
 refine wl_l 33 (.tmp 4) (pt k2 0) (.agg (d.cells).toArray) (run_row Q2 33 0 6 (d.cells) rfl Try.underlying33 rfl sz33) ?_
 refine wl_call 15 [(.tmp 28), (.tmp 29)] _ [.agg (x.cells).toArray, .agg (d.cells).toArray] (.tuple #[.agg ((atD x.st d).d.cells).toArray, .int .i64 ((atD x.st d).e)]) rfl rfl (fun _ _ => by kernel_rfl) (pat_n _ (hX.mo M) hdo) rfl ?_
 intro u5 hq
 replace Q1 := Q1.mo hq
 replace Q2 := Q2.mo hq
 replace M := M.trans hq
 clear hq
 refine wl_m (.tmp 30) (.tuple #[.agg ((atD x.st d).d.cells).toArray, .int .i64 ((atD x.st d).e)]) ?_
 refine wl_un (fun v => Instr.extract v 0) (.tmp 27) (.tuple #[.agg ((atD x.st d).d.cells).toArray, .int .i64 ((atD x.st d).e)]) (.agg ((atD x.st d).d.cells).toArray) (fun _ => rfl) rfl (by kernel_rfl) rfl ?_
 refine wl_un (fun v => Instr.extract v 1) (.tmp 27) (.tuple #[.agg ((atD x.st d).d.cells).toArray, .int .i64 ((atD x.st d).e)]) (.int .i64 ((atD x.st d).e)) (fun _ => rfl) rfl (by kernel_rfl) rfl ?_
 refine wl_alloc 33 #[.bool false, .int .u64 0, .int .u64 0, .int .u64 0, .int .u64 0, .int .i64 0] rfl (fun _ => by kernel_rfl) rfl ?_
 intro k3 u6 hk hz hq Q3
 have ne_k1_k3 : k1 ≠ k3 := by have := Q1.lt; omega
 have ne_k2_k3 : k2 ≠ k3 := by have := Q2.lt; omega
 have N_k3 : w.heap.size ≤ k3 := by have := M.size; omega
 replace Q1 := Q1.mo hq
 replace Q2 := Q2.mo hq
 replace M := M.trans hq
 clear hk hz hq
 refine wl_st 33 (.tmp 11) (.tmp 31) k3 0 (((atD x.st d).d.cells).toArray) _ ((atD x.st d).d.cells) Q3 rfl rfl rfl rfl rfl sz33 rfl rfl rfl ?_
 intro u7 hS Qn
 replace Q3 := Qn
 clear Qn
 replace Q1 := hS.other _ _ ne_k1_k3 Q1
 replace Q2 := hS.other _ _ ne_k2_k3 Q2
 replace M := hS.mo _ N_k3 M
 clear hS
 refine wl_m (.tmp 32) (.int .i64 ((atD x.st d).e)) ?_
 refine w_nil (xn_then (w_seq (w_reg ?_)))
 refine wl_l 24 (.tmp 3) (pt k1 0) (.agg (x.cells).toArray) (run_row Q1 24 0 2 (x.cells) rfl Try.underlying24 rfl szT24) ?_
 refine wl_l 33 (.tmp 4) (pt k2 0) (.agg (d.cells).toArray) (run_row Q2 33 0 6 (d.cells) rfl Try.underlying33 rfl sz33) ?_
 refine wl_call 16 [(.tmp 34), (.tmp 35)] _ [.agg (x.cells).toArray, .agg (d.cells).toArray] (.tuple #[.agg ((atD x.st d).d.cells).toArray, .int .i64 ((atD x.st d).e)]) rfl rfl (fun _ _ => by kernel_rfl) (qat_n _ (hX.mo M) hdo) rfl ?_
 intro u8 hq
 replace Q1 := Q1.mo hq
 replace Q2 := Q2.mo hq
 replace Q3 := Q3.mo hq
 replace M := M.trans hq
 clear hq
 refine wl_m (.tmp 36) (.tuple #[.agg ((atD x.st d).d.cells).toArray, .int .i64 ((atD x.st d).e)]) ?_
 refine wl_un (fun v => Instr.extract v 0) (.tmp 33) (.tuple #[.agg ((atD x.st d).d.cells).toArray, .int .i64 ((atD x.st d).e)]) (.agg ((atD x.st d).d.cells).toArray) (fun _ => rfl) rfl (by kernel_rfl) rfl ?_
 refine wl_un (fun v => Instr.extract v 1) (.tmp 33) (.tuple #[.agg ((atD x.st d).d.cells).toArray, .int .i64 ((atD x.st d).e)]) (.int .i64 ((atD x.st d).e)) (fun _ => rfl) rfl (by kernel_rfl) rfl ?_
 refine wl_alloc 33 #[.bool false, .int .u64 0, .int .u64 0, .int .u64 0, .int .u64 0, .int .i64 0] rfl (fun _ => by kernel_rfl) rfl ?_
 intro k4 u9 hk hz hq Q4
 have ne_k1_k4 : k1 ≠ k4 := by have := Q1.lt; omega
 have ne_k2_k4 : k2 ≠ k4 := by have := Q2.lt; omega
 have ne_k3_k4 : k3 ≠ k4 := by have := Q3.lt; omega
 have N_k4 : w.heap.size ≤ k4 := by have := M.size; omega
 replace Q1 := Q1.mo hq
 replace Q2 := Q2.mo hq
 replace Q3 := Q3.mo hq
 replace M := M.trans hq
 clear hk hz hq
 refine wl_st 33 (.tmp 13) (.tmp 37) k4 0 (((atD x.st d).d.cells).toArray) _ ((atD x.st d).d.cells) Q4 rfl rfl rfl rfl rfl sz33 rfl rfl rfl ?_
 intro u10 hS Qn
 replace Q4 := Qn
 clear Qn
 replace Q1 := hS.other _ _ ne_k1_k4 Q1
 replace Q2 := hS.other _ _ ne_k2_k4 Q2
 replace Q3 := hS.other _ _ ne_k3_k4 Q3
 replace M := hS.mo _ N_k4 M
 clear hS
 refine wl_m (.tmp 38) (.int .i64 ((atD x.st d).e)) ?_
 refine w_nil (xn_then (w_seq (w_reg ?_)))
 refine wl_call 8 [] _ [] (.bool true) rfl rfl (fun _ _ => by kernel_rfl) (begun_n _) rfl ?_
 intro u11 hq
 replace Q1 := Q1.mo hq
 replace Q2 := Q2.mo hq
 replace Q3 := Q3.mo hq
 replace Q4 := Q4.mo hq
 replace M := M.trans hq
 clear hq
 refine wl_m (.tmp 39) (.bool true) ?_
 refine wl_m (.tmp 7) (.int .i64 (stpN x.st d)) ?_
 refine wl_m (.tmp 9) (.int .i64 (stpN x.st d)) ?_
 refine wl_b .eql 3 (.tmp 41) (.tmp 42) (.int .i64 (stpN x.st d)) (.int .i64 (stpN x.st d)) (.bool true) (eq3 (r := true) (decide_eq_true rfl) _ _ _) ?_
 refine wl_pick (.tmp 40) (.tmp 43) (.const (.bool false)) true (.bool true) (fun _ => rfl) rfl rfl rfl ?_
 refine wl_m (.tmp 44) (.bool true) ?_
 refine wl_m (.tmp 8) (.int .i64 (stpE x.st d)) ?_
 refine wl_m (.tmp 10) (.int .i64 (stpE x.st d)) ?_
 refine wl_b .eql 26 (.tmp 46) (.tmp 47) (.int .i64 (stpE x.st d)) (.int .i64 (stpE x.st d)) (.bool true) (eq34 (r := true) (decide_eq_true rfl) _ _ _) ?_
 refine wl_pick (.tmp 45) (.tmp 48) (.const (.bool false)) true (.bool true) (fun _ => rfl) rfl rfl rfl ?_
 refine wl_m (.tmp 49) (.bool true) ?_
 refine wl_l 33 (.tmp 11) (pt k3 0) (.agg ((atD x.st d).d.cells).toArray) (run_row Q3 33 0 6 ((atD x.st d).d.cells) rfl Try.underlying33 rfl sz33) ?_
 refine wl_l 33 (.tmp 13) (pt k4 0) (.agg ((atD x.st d).d.cells).toArray) (run_row Q4 33 0 6 ((atD x.st d).d.cells) rfl Try.underlying33 rfl sz33) ?_
 refine wl_b .eql 33 (.tmp 51) (.tmp 52) (.agg ((atD x.st d).d.cells).toArray) (.agg ((atD x.st d).d.cells).toArray) (.bool true) (eqDn (sD_self _) _ _ _) ?_
 refine wl_pick (.tmp 50) (.tmp 53) (.const (.bool false)) true (.bool true) (fun _ => rfl) rfl rfl rfl ?_
 refine wl_m (.tmp 54) (.bool true) ?_
 refine wl_m (.tmp 12) (.int .i64 ((atD x.st d).e)) ?_
 refine wl_m (.tmp 14) (.int .i64 ((atD x.st d).e)) ?_
 refine wl_b .eql 26 (.tmp 56) (.tmp 57) (.int .i64 ((atD x.st d).e)) (.int .i64 ((atD x.st d).e)) (.bool true) (eq34 (r := true) (decide_eq_true rfl) _ _ _) ?_
 refine wl_pick (.tmp 55) (.tmp 58) (.const (.bool false)) true (.bool true) (fun _ => rfl) rfl rfl rfl ?_
 refine wl_m (.tmp 59) (.bool true) ?_
 refine wl_m (.tmp 2) (.int .i64 (n)) ?_
 refine wl_call 17 [(.tmp 61)] _ [.int .i64 (n)] (.int .i64 (bdg n)) rfl rfl (fun _ _ => by kernel_rfl) (plooks_n n _ hn) rfl ?_
 intro u12 hq
 replace Q1 := Q1.mo hq
 replace Q2 := Q2.mo hq
 replace Q3 := Q3.mo hq
 replace Q4 := Q4.mo hq
 replace M := M.trans hq
 clear hq
 refine wl_m (.tmp 2) (.int .i64 (n)) ?_
 refine wl_call 18 [(.tmp 63)] _ [.int .i64 (n)] (.int .i64 (bdg n)) rfl rfl (fun _ _ => by kernel_rfl) (qlooks_n n _ hn) rfl ?_
 intro u13 hq
 replace Q1 := Q1.mo hq
 replace Q2 := Q2.mo hq
 replace Q3 := Q3.mo hq
 replace Q4 := Q4.mo hq
 replace M := M.trans hq
 clear hq
 refine wl_b .eql 3 (.tmp 62) (.tmp 64) (.int .i64 (bdg n)) (.int .i64 (bdg n)) (.bool true) (eq3 (r := true) (decide_eq_true rfl) _ _ _) ?_
 refine wl_pick (.tmp 60) (.tmp 65) (.const (.bool false)) true (.bool true) (fun _ => rfl) rfl rfl rfl ?_
 refine wl_m (.tmp 66) (.bool true) ?_
 refine w_nil (xn_then (w_ret ?_))
 exact w_ret1 _ _ rfl rfl ⟨rfl, M⟩
end Go.Proofs.Ythehmmhnacomkaa
namespace Go.Proofs.Ythehmmhnacomkaa
open Go.ChangeShapes Go.WideShapes Go.ChangeAt Go.RowKit Go.ChangeMaps
set_option maxRecDepth 100000
section
variable {H : Type} {enc : TypeId × Value → H} {W : World} {base : Nat} {v : Value} {d : DataW H} {p : List MemPlace}
theorem open_dn (hv : Value.okWide Try.prog W .any base 33 v) (h : DataW.Trod enc Try.prog W 0 (fun _ => true) true 33 v d p) : ∃ x : Dn, v = x.v ∧ x.ok := by
 obtain ⟨a, rfl, _⟩ := okWide_struct Try.underlying33 hv
 obtain ⟨fuel, hf⟩ := h
 obtain ⟨_, b, n, s, hx, e⟩ := cut6 hf
 exact ⟨⟨b, n, s⟩, by have e2 : a = (⟨b, n, s⟩ : Dn).cells.toArray := (by show a = _; unfold Dn.cells; rw [← e]; simp [Value.cells]); rw [e2], hx⟩
theorem open_i64 (hv : Value.okWide Try.prog W .any base 3 v) (h : DataW.Trod enc Try.prog W 0 (fun _ => true) true 3 v d p) : ∃ x : Int, v = .int .i64 x ∧ x ≤ 9223372036854775807 := by
 obtain ⟨n, rfl, rfl, rfl, hw⟩ := open_int Try.underlying3 hv h
 simp [Lit.wf, IntKind.min, IntKind.max, IntKind.signed, IntKind.bits] at hw
 exact ⟨n, rfl, by omega⟩
end
namespace D
end D
end Go.Proofs.Ythehmmhnacomkaa
