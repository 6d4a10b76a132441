/-
  A part of the proof.
-/
import Derived.Test.YthehmmhnacomkaaKa19
import Derived.Test.YthehmmhnacomkaaKa18
import Derived.Test.YthehmmhnacomkaaKa17
import Derived.Test.YthehmmhnacomkaaKa16
import Derived.Test.YthehmmhnacomkaaKa15
import Derived.Test.YthehmmhnacomkaaKa14
import Derived.Test.YthehmmhnacomkaaKa11
import Derived.Test.YthehmmhnacomkaaKa10
import Derived.Test.YthehmmhnacomkaaKa3
import Derived.Test.YthehmmhnacomkaaKa2
import Derived.Test.YthehmmhnacomkaaKa1
import Derived.RegionTactic
import Derived.Test.YthehmmhnacomkaaProg
import Derived.WalkKit
import Derived.WalkSpells
import Derived.Handy
import Derived.BigQuiet
import Derived.Deep.RegionHeld3
import Derived.Deep.MidRow
import Derived.BigCall
import Derived.Test.YthehmmhnacomkaaKa9
import Derived.Test.YthehmmhnacomkaaKa8
import Derived.Test.YthehmmhnacomkaaKa5
import Derived.Test.YthehmmhnacomkaaKa4
import Derived.Shelf.Small.Bits
import Derived.Shelf.Strconv.Itoa0
import Derived.Shelf.Bits.Mul64
import Derived.Deep.CutBlock
import Derived.Deep.CutRange
import Derived.Test.YthehmmhnacomkaaKa7
import Derived.Test.YthehmmhnacomkaaKa6
import Derived.ChangeKeysEq
import Derived.ScopeJumps
import Derived.WalkMore
import Derived.Laws.StructEq
import Derived.Test.YthehmmhnacomkaaKa13
import Derived.Test.YthehmmhnacomkaaKa12
import Derived.Lib.CutLaws
import Derived.Maps.OwnSet
import Derived.WalkArith
import Derived.StringKeys
import Derived.ProofKit
import Derived.OpenShut
import Derived.ChangeArms
import Derived.Deep.Slices
import Derived.ReadAgain
import Derived.WideKeyArgs
import Derived.Maps.AppendAt
import Derived.Test.YthehmmhnacomkaaRows
import Derived.Carry
import Derived.ChangeMaps5
import Derived.SizedLaws
import Derived.Deep.Strs
namespace Go.Proofs.Ythehmmhnacomkaa
open Go.RowKit D
theorem pat_n {x : Tb} {d : Dn} (w : World) (hT : LT w x) (hdo : d.ok) : Calls Try.prog 15 #[.agg (x.cells).toArray, d.v] w fun e9 w' => e9 = .returned (atD x.st d).v ∧ Mo w w' := by
 refine w_enter 27 Try.func15 Try.ntmps15 rfl rfl ?_
 have M : Mo w w := Mo.refl _
 refine w_seq (w_reg ?_)
 refine wl_box 24 (.tmp 0) _ (((x.cells).toArray)) rfl rfl (fun _ => by kernel_rfl) rfl ?_
 intro k1 u1 hk hz hq Q1
 have N_k1 : w.heap.size ≤ k1 := by have := M.size; omega
 replace M := M.trans hq
 clear hk hz hq
 refine wl_box 33 (.tmp 1) _ (((d.cells).toArray)) rfl rfl (fun _ => by kernel_rfl) rfl ?_
 intro k2 u2 hk hz hq Q2
 have ne_k1_k2 : k1 ≠ k2 := by have := Q1.lt; omega
 have N_k2 : w.heap.size ≤ k2 := by have := M.size; omega
 replace Q1 := Q1.mo hq
 replace M := M.trans hq
 clear hk hz hq
 refine wl_alloc 33 #[.bool false, .int .u64 0, .int .u64 0, .int .u64 0, .int .u64 0, .int .i64 0] rfl (fun _ => by kernel_rfl) rfl ?_
 intro k3 u3 hk hz hq Q3
 have ne_k1_k3 : k1 ≠ k3 := by have := Q1.lt; omega
 have ne_k2_k3 : k2 ≠ k3 := by have := Q2.lt; omega
 have N_k3 : w.heap.size ≤ k3 := by have := M.size; omega
 replace Q1 := Q1.mo hq
 replace Q2 := Q2.mo hq
 replace M := M.trans hq
 clear hk hz hq
 refine wl_m (.const (.int .i64 (0))) (.int .i64 (0)) ?_
 refine w_nil (xn_then (w_seq (w_reg ?_)))
 refine wl_l 24 (.tmp 2) (pt k1 0) (.agg (x.cells).toArray) (run_row Q1 24 0 2 (x.cells) rfl Try.underlying24 rfl szT24) ?_
 refine wl_l 33 (.tmp 3) (pt k2 0) (.agg (d.cells).toArray) (run_row Q2 33 0 6 (d.cells) rfl Try.underlying33 rfl sz33) ?_
 refine wl_call 13 [(.tmp 9), (.tmp 10)] _ [.agg (x.cells).toArray, .agg (d.cells).toArray] (.tuple #[.int .i64 (stpN x.st d), .int .i64 (stpE x.st d)]) rfl rfl (fun _ _ => by kernel_rfl) (pstep_n _ (hT.mo M) hdo) rfl ?_
 intro u4 hq
 replace Q1 := Q1.mo hq
 replace Q2 := Q2.mo hq
 replace Q3 := Q3.mo hq
 replace M := M.trans hq
 clear hq
 refine wl_m (.tmp 11) (.tuple #[.int .i64 (stpN x.st d), .int .i64 (stpE x.st d)]) ?_
 refine wl_un (fun v => Instr.extract v 0) (.tmp 8) (.tuple #[.int .i64 (stpN x.st d), .int .i64 (stpE x.st d)]) (.int .i64 (stpN x.st d)) (fun _ => rfl) rfl (by kernel_rfl) rfl ?_
 refine wl_un (fun v => Instr.extract v 1) (.tmp 8) (.tuple #[.int .i64 (stpN x.st d), .int .i64 (stpE x.st d)]) (.int .i64 (stpE x.st d)) (fun _ => rfl) rfl (by kernel_rfl) rfl ?_
 refine wl_m (.tmp 12) (.int .i64 (stpN x.st d)) ?_
 refine wl_m (.tmp 13) (.int .i64 (stpE x.st d)) ?_
 refine w_nil (xn_then (w_seq (w_seq (w_reg ?_))))
 refine wl_m (.tmp 7) (.int .i64 (stpE x.st d)) ?_
 cases hf0 : decide (stpE x.st d = 0) with
 | true =>
  have hf0p := of_decide_eq_true hf0
  refine wl_b .neq 26 (.tmp 14) (.const (.int .i64 (0))) (.int .i64 (stpE x.st d)) (.int .i64 (0)) (.bool false) (ne34 hf0 _ _ _) ?_
  refine w_nil (xn_then (w_condF rfl (w_skip (xn_then (w_seq ?_)))))
  obtain ⟨hc, he, kc, s, hlk, hs, hN, hat⟩ := stp_0 hf0p
  have hkl := lt_of_get hs
  obtain ⟨bp, op, hpp, hRp⟩ := D.SL.rw hT.sl hs
  refine w_any 9 [.inl (pt k1 1), .inl (.slice x.pa x.st.length x.cap), .inl (.int .i64 ((kc : Nat) : Int)), .inl (pt bp (op + kc * 18)), .inl (.agg (s.cells).toArray), .inl (.agg (d.cells).toArray), .inl (.tuple #[.agg ((saysD s d).d.cells).toArray, .int .i64 ((saysD s d).e)]), .inl (.agg ((saysD s d).d.cells).toArray), .inl (.int .i64 ((saysD s d).e))] [] (by kernel_rfl) (by kernel_rfl) (by kernel_rfl) (by kernel_rfl) rfl (by kernel_rfl) (by kernel_rfl) late_nil ?_ ?_ ?_
  ·exact Ds.none rfl
  ·refine ea_cons ?_ (ea_cons ?_ (ea_cons ?_ (ea_cons ?_ (ea_cons ?_ (ea_cons ?_ (ea_cons ?_ (ea_cons ?_ (ea_cons ?_ (ea_nil)))))))))
   ·exact og_eq _ rfl (fun f wf hq hd K hK => go_run rfl (wo_un (fun v => Instr.fieldAt 24 v 1) (.tmp 2) (pt k1 0) (pt k1 1) (fun _ => rfl) rfl (by kernel_rfl) (hK _ (Mo.refl _))))
   ·exact og_eq _ rfl (fun f wf hq hd K hK => have Q1 := Q1.mo hq; go_run rfl (wo_load 22 (.tmp 18) (pt k1 1) (.slice x.pa x.st.length x.cap) rfl (hd 0 rfl) (run_one Q1 22 1 rfl Try.underlying22 rfl) (hK _ (Mo.refl _))))
   ·exact og_eq _ rfl (fun f wf hq hd K hK => go_run rfl (wo_mv (.tmp 6) (.int .i64 ((kc : Nat) : Int)) (fun _ => rfl) (Eq.trans (show _ = Value.int .i64 (stpN x.st d) from rfl) (congrArg (Value.int .i64) hN)) (hK _ (Mo.refl _))))
   ·exact og_eq _ rfl (fun f wf hq hd K hK => go_run rfl (wo_bin (fun x y => Instr.indexAt 22 x y) (.tmp 19) (.tmp 20) (.slice x.pa x.st.length x.cap) (.int .i64 ((kc : Nat) : Int)) (pt bp (op + kc * 18)) (fun _ => rfl) (hd 1 rfl) (hd 2 rfl) (ix22 (i := kc) hpp hkl _) (hK _ (Mo.refl _))))
   ·exact og_eq _ rfl (fun f wf hq hd K hK => go_run rfl (wo_load 45 (.tmp 21) (pt bp (op + kc * 18)) (.agg (s.cells).toArray) rfl (hd 3 rfl) (D.run_partR (hRp.mo (M.trans hq)).at' 45 0 18 (s.cells) rfl Try.underlying45 rfl sz45) (hK _ (Mo.refl _))))
   ·exact og_eq _ rfl (fun f wf hq hd K hK => have Q2 := Q2.mo hq; go_run rfl (wo_load 33 (.tmp 3) (pt k2 0) (.agg (d.cells).toArray) rfl rfl (run_row Q2 33 0 6 (d.cells) rfl Try.underlying33 rfl sz33) (hK _ (Mo.refl _))))
   ·exact og_eq _ rfl (fun f wf hq hd K hK => go_run rfl (wo_call 32 [(.tmp 22), (.tmp 23)] _ [.agg (s.cells).toArray, .agg (d.cells).toArray] (.tuple #[.agg ((saysD s d).d.cells).toArray, .int .i64 ((saysD s d).e)]) rfl (li2 (hd 4 rfl) (hd 5 rfl)) (fun _ _ => by kernel_rfl) (psays_n _ (fit_of hT.ok (chk_0 hc).2.2.1 hs) ⟨hdo, he⟩) hK))
   ·exact og_eq _ rfl (fun f wf hq hd K hK => go_run rfl (wo_un (fun v => Instr.extract v 0) (.tmp 24) (.tuple #[.agg ((saysD s d).d.cells).toArray, .int .i64 ((saysD s d).e)]) (.agg ((saysD s d).d.cells).toArray) (fun _ => rfl) (hd 6 rfl) (by kernel_rfl) (hK _ (Mo.refl _))))
   ·exact og_eq _ rfl (fun f wf hq hd K hK => go_run rfl (wo_un (fun v => Instr.extract v 1) (.tmp 24) (.tuple #[.agg ((saysD s d).d.cells).toArray, .int .i64 ((saysD s d).e)]) (.int .i64 ((saysD s d).e)) (fun _ => rfl) (hd 6 rfl) (by kernel_rfl) (hK _ (Mo.refl _))))
  intro kf5 u5 hq hR hne
  replace Q1 := Q1.mo hq
  replace Q2 := Q2.mo hq
  replace Q3 := Q3.mo hq
  replace M := M.trans hq
  clear hq hR hne
  refine wl_st 33 (.tmp 4) (.tmp 25) k3 0 (((saysD s d).d.cells).toArray) _ ((saysD s d).d.cells) Q3 rfl rfl rfl rfl rfl sz33 rfl rfl rfl ?_
  intro u6 hS Qn
  replace Q3 := Qn
  clear Qn
  replace Q1 := hS.other _ _ ne_k1_k3 Q1
  replace Q2 := hS.other _ _ ne_k2_k3 Q2
  replace M := hS.mo _ N_k3 M
  clear hS
  refine wl_m (.tmp 26) (.int .i64 ((saysD s d).e)) ?_
  refine w_nil (xn_then (w_ret ?_))
  exact w_ret2 _ _ (.agg ((saysD s d).d.cells).toArray) (.int .i64 ((saysD s d).e)) rfl ⟨k3, rfl, (run_row Q3 33 0 6 ((saysD s d).d.cells) rfl Try.underlying33 rfl sz33)⟩ rfl ⟨congrArg Ending.returned (by rw [hat]; try rfl), M⟩
 | false =>
  have hf0p := of_decide_eq_false hf0
  refine wl_b .neq 26 (.tmp 14) (.const (.int .i64 (0))) (.int .i64 (stpE x.st d)) (.int .i64 (0)) (.bool true) (ne34 hf0 _ _ _) ?_
  refine w_nil (xn_then (w_condT rfl (w_seq (w_reg ?_))))
  refine wl_build 33 [] [] (.agg #[.bool false, .int .u64 0, .int .u64 0, .int .u64 0, .int .u64 0, .int .i64 0]) rfl rfl (by kernel_rfl) rfl ?_
  refine wl_m (.tmp 7) (.int .i64 (stpE x.st d)) ?_
  refine wl_st 33 (.tmp 4) (.tmp 16) k3 0 #[.bool false, .int .u64 0, .int .u64 0, .int .u64 0, .int .u64 0, .int .i64 0] _ [.bool false, .int .u64 0, .int .u64 0, .int .u64 0, .int .u64 0, .int .i64 0] Q3 rfl rfl rfl rfl rfl sz33 rfl rfl rfl ?_
  intro u5 hS Qn
  replace Q3 := Qn
  clear Qn
  replace Q1 := hS.other _ _ ne_k1_k3 Q1
  replace Q2 := hS.other _ _ ne_k2_k3 Q2
  replace M := hS.mo _ N_k3 M
  clear hS
  refine wl_m (.tmp 17) (.int .i64 (stpE x.st d)) ?_
  refine w_nil (xn_then (w_ret (xr_then ?_)))
  exact w_ret2 _ _ (.agg #[.bool false, .int .u64 0, .int .u64 0, .int .u64 0, .int .u64 0, .int .i64 0]) (.int .i64 (stpE x.st d)) rfl ⟨k3, rfl, (run_row Q3 33 0 6 _ rfl Try.underlying33 rfl sz33)⟩ rfl ⟨congrArg Ending.returned (by rw [at_e hf0p]; try rfl), M⟩
end Go.Proofs.Ythehmmhnacomkaa
namespace Go.Proofs.Ythehmmhnacomkaa
open Go.RowKit D
def dnI (n s : Int) : Dn := ⟨decide (n < 0), ab n, s⟩
theorem dnI_ok {n s : Int} (h0 : -9223372036854775808 ≤ n) (h1 : n ≤ 9223372036854775807) : (dnI n s).ok := by
 have := ab_c n
 refine ⟨ab_nn n, ?_⟩
 show ab n < MM
 unfold MM
 omega
def s0 : Stp := ⟨dn0, dn0, dnI 1 1⟩
def s1 : Stp := ⟨dnI 100 0, dnI 10 0, dnI 2 1⟩
def x0 (k : Nat) : Tb := ⟨⟨#[]⟩, some ⟨k, 0, none⟩, 2, [s0, s1]⟩
theorem at_l1 : atD [s0, s1] (dnI 1505 1) = ⟨dnI 2010 2, 0⟩ := by kernel_rfl
theorem at_l2 : atD [s0, s1] (dnI (-1) 0) = erR 141 := by kernel_rfl
theorem dn0_ok : dn0.ok := ⟨by decide, by decide⟩
theorem lt0 {w : World} {k : Nat} (h : At w k (s0.cells ++ s1.cells)) : LT w (x0 k) :=
 ⟨SL.of_at Stp.len (by show 2 ≤ maxLen; unfold maxLen; omega) h, fun y hy => by
  rcases List.mem_cons.1 hy with rfl | hy
  ·exact ⟨dn0_ok, dn0_ok, dnI_ok (by decide) (by decide)⟩
  ·rcases List.mem_cons.1 hy with rfl | hy
   ·exact ⟨dnI_ok (by decide) (by decide), dnI_ok (by decide) (by decide), dnI_ok (by decide) (by decide)⟩
   ·simp at hy, Nat.le_refl 2⟩
theorem atl1_n {w : World} {k : Nat} (h : At w k (s0.cells ++ s1.cells)) : Calls Try.prog 15 #[.agg ((x0 k).cells).toArray, (dnI 1505 1).v] w fun e9 w' => e9 = .returned (.tuple #[(dnI 2010 2).v, .int .i64 0]) ∧ Mo w w' := by
 have q := pat_n (d := dnI 1505 1) w (lt0 h) (dnI_ok (by decide) (by decide))
 rw [show (x0 k).st = [s0, s1] from rfl, at_l1] at q
 exact q
theorem atl2_n {w : World} {k : Nat} (h : At w k (s0.cells ++ s1.cells)) : Calls Try.prog 15 #[.agg ((x0 k).cells).toArray, (dnI (-1) 0).v] w fun e9 w' => e9 = .returned (.tuple #[dn0.v, .int .i64 141]) ∧ Mo w w' := by
 have q := pat_n (d := dnI (-1) 0) w (lt0 h) (dnI_ok (by decide) (by decide))
 rw [show (x0 k).st = [s0, s1] from rfl, at_l2] at q
 exact q
theorem of_n (n s : Int) (w : World) (hs : sc s = true) (h0 : -9223372036854775808 ≤ n) (h1 : n ≤ 9223372036854775807) : Calls Try.prog 25 #[.int .i64 n, .int .i64 s] w fun e9 w' => e9 = .returned (dnI n s).v ∧ Mo w w' := by
 refine w_enter 14 Try.func25 Try.ntmps25 rfl rfl ?_
 have M : Mo w w := Mo.refl _
 refine w_seq (w_reg ?_)
 refine wl_alloc 33 #[.bool false, .int .u64 0, .int .u64 0, .int .u64 0, .int .u64 0, .int .i64 0] rfl (fun _ => by kernel_rfl) rfl ?_
 intro k1 u1 hk hz hq Q1
 have N_k1 : w.heap.size ≤ k1 := by have := M.size; omega
 replace M := M.trans hq
 clear hk hz hq
 refine w_nil (xn_then (w_seq (w_reg ?_)))
 refine wl_m (.tmp 0) (.int .i64 (n)) ?_
 refine wl_m (.tmp 1) (.int .i64 (s)) ?_
 refine wl_call 43 [(.tmp 8), (.tmp 9)] _ [.int .i64 (n), .int .i64 (s)] (.tuple #[.agg ((dnI n s).cells).toArray, .int .i64 (0)]) rfl rfl (fun _ _ => by kernel_rfl) (rofInt_ok n s _ hs h0 (by omega)) rfl ?_
 intro u2 hq
 replace Q1 := Q1.mo hq
 replace M := M.trans hq
 clear hq
 refine wl_m (.tmp 10) (.tuple #[.agg ((dnI n s).cells).toArray, .int .i64 (0)]) ?_
 refine wl_un (fun v => Instr.extract v 0) (.tmp 7) (.tuple #[.agg ((dnI n s).cells).toArray, .int .i64 (0)]) (.agg ((dnI n s).cells).toArray) (fun _ => rfl) rfl (by kernel_rfl) rfl ?_
 refine wl_un (fun v => Instr.extract v 1) (.tmp 7) (.tuple #[.agg ((dnI n s).cells).toArray, .int .i64 (0)]) (.int .i64 (0)) (fun _ => rfl) rfl (by kernel_rfl) rfl ?_
 refine wl_alloc 33 #[.bool false, .int .u64 0, .int .u64 0, .int .u64 0, .int .u64 0, .int .i64 0] rfl (fun _ => by kernel_rfl) rfl ?_
 intro k2 u3 hk hz hq Q2
 have ne_k1_k2 : k1 ≠ k2 := by have := Q1.lt; omega
 have N_k2 : w.heap.size ≤ k2 := by have := M.size; omega
 replace Q1 := Q1.mo hq
 replace M := M.trans hq
 clear hk hz hq
 refine wl_st 33 (.tmp 5) (.tmp 11) k2 0 (((dnI n s).cells).toArray) _ ((dnI n s).cells) Q2 rfl rfl rfl rfl rfl sz33 rfl rfl rfl ?_
 intro u4 hS Qn
 replace Q2 := Qn
 clear Qn
 replace Q1 := hS.other _ _ ne_k1_k2 Q1
 replace M := hS.mo _ N_k2 M
 clear hS
 refine wl_m (.tmp 12) (.int .i64 (0)) ?_
 refine w_nil (xn_then (w_seq (w_reg ?_)))
 refine wl_l 33 (.tmp 5) (pt k2 0) (.agg ((dnI n s).cells).toArray) (run_row Q2 33 0 6 ((dnI n s).cells) rfl Try.underlying33 rfl sz33) ?_
 refine wl_st 33 (.tmp 4) (.tmp 13) k1 0 (((dnI n s).cells).toArray) _ ((dnI n s).cells) Q1 rfl rfl rfl rfl rfl sz33 rfl rfl rfl ?_
 intro u5 hS Qn
 replace Q1 := Qn
 clear Qn
 replace Q2 := hS.other _ _ ne_k1_k2.symm Q2
 replace M := hS.mo _ N_k1 M
 clear hS
 refine w_nil (xn_then (w_ret ?_))
 exact w_ret1 _ (.agg ((dnI n s).cells).toArray) rfl ⟨k1, rfl, (run_row Q1 33 0 6 ((dnI n s).cells) rfl Try.underlying33 rfl sz33)⟩ ⟨rfl, M⟩
theorem begun_n  (w : World) : Calls Try.prog 8 #[] w fun e9 w' => e9 = .returned (.bool true) ∧ Mo w w' := by
 refine w_enter 37 Try.func8 Try.ntmps8 rfl rfl ?_
 have M : Mo w w := Mo.refl _
 refine w_seq (w_reg ?_)
 refine wl_m (.const (.bool false)) (.bool false) ?_
 refine w_nil (xn_then (w_seq (w_reg ?_)))
 refine wl_call 25 [(.const (.int .i64 (1))), (.const (.int .i64 (1)))] _ [.int .i64 (1), .int .i64 (1)] (.agg ((dnI 1 1).cells).toArray) rfl rfl (fun _ _ => by kernel_rfl) (of_n 1 1 _ (by decide) (by decide) (by decide)) rfl ?_
 intro u1 hq
 replace M := M.trans hq
 clear hq
 refine wl_build 45 [(2, (.tmp 6))] [(2, .agg ((dnI 1 1).cells).toArray)] (.agg #[.bool false, .int .u64 0, .int .u64 0, .int .u64 0, .int .u64 0, .int .i64 0, .bool false, .int .u64 0, .int .u64 0, .int .u64 0, .int .u64 0, .int .i64 0, .bool (dnI 1 1).b, .int .u64 (l0 (dnI 1 1).n), .int .u64 (l1 (dnI 1 1).n), .int .u64 (l2 (dnI 1 1).n), .int .u64 (l3 (dnI 1 1).n), .int .i64 (dnI 1 1).s]) rfl rfl (by kernel_rfl) rfl ?_
 refine wl_call 25 [(.const (.int .i64 (100))), (.const (.int .i64 (0)))] _ [.int .i64 (100), .int .i64 (0)] (.agg ((dnI 100 0).cells).toArray) rfl rfl (fun _ _ => by kernel_rfl) (of_n 100 0 _ (by decide) (by decide) (by decide)) rfl ?_
 intro u2 hq
 replace M := M.trans hq
 clear hq
 refine wl_call 25 [(.const (.int .i64 (10))), (.const (.int .i64 (0)))] _ [.int .i64 (10), .int .i64 (0)] (.agg ((dnI 10 0).cells).toArray) rfl rfl (fun _ _ => by kernel_rfl) (of_n 10 0 _ (by decide) (by decide) (by decide)) rfl ?_
 intro u3 hq
 replace M := M.trans hq
 clear hq
 refine wl_call 25 [(.const (.int .i64 (2))), (.const (.int .i64 (1)))] _ [.int .i64 (2), .int .i64 (1)] (.agg ((dnI 2 1).cells).toArray) rfl rfl (fun _ _ => by kernel_rfl) (of_n 2 1 _ (by decide) (by decide) (by decide)) rfl ?_
 intro u4 hq
 replace M := M.trans hq
 clear hq
 refine wl_build 45 [(0, (.tmp 8)), (1, (.tmp 9)), (2, (.tmp 10))] [(0, .agg ((dnI 100 0).cells).toArray), (1, .agg ((dnI 10 0).cells).toArray), (2, .agg ((dnI 2 1).cells).toArray)] (.agg #[.bool (dnI 100 0).b, .int .u64 (l0 (dnI 100 0).n), .int .u64 (l1 (dnI 100 0).n), .int .u64 (l2 (dnI 100 0).n), .int .u64 (l3 (dnI 100 0).n), .int .i64 (dnI 100 0).s, .bool (dnI 10 0).b, .int .u64 (l0 (dnI 10 0).n), .int .u64 (l1 (dnI 10 0).n), .int .u64 (l2 (dnI 10 0).n), .int .u64 (l3 (dnI 10 0).n), .int .i64 (dnI 10 0).s, .bool (dnI 2 1).b, .int .u64 (l0 (dnI 2 1).n), .int .u64 (l1 (dnI 2 1).n), .int .u64 (l2 (dnI 2 1).n), .int .u64 (l3 (dnI 2 1).n), .int .i64 (dnI 2 1).s]) rfl rfl (by kernel_rfl) rfl ?_
 refine wl_bs 22 2 [(0, (.tmp 7)), (1, (.tmp 11))] [(0, .agg #[.bool false, .int .u64 0, .int .u64 0, .int .u64 0, .int .u64 0, .int .i64 0, .bool false, .int .u64 0, .int .u64 0, .int .u64 0, .int .u64 0, .int .i64 0, .bool (dnI 1 1).b, .int .u64 (l0 (dnI 1 1).n), .int .u64 (l1 (dnI 1 1).n), .int .u64 (l2 (dnI 1 1).n), .int .u64 (l3 (dnI 1 1).n), .int .i64 (dnI 1 1).s]), (1, .agg #[.bool (dnI 100 0).b, .int .u64 (l0 (dnI 100 0).n), .int .u64 (l1 (dnI 100 0).n), .int .u64 (l2 (dnI 100 0).n), .int .u64 (l3 (dnI 100 0).n), .int .i64 (dnI 100 0).s, .bool (dnI 10 0).b, .int .u64 (l0 (dnI 10 0).n), .int .u64 (l1 (dnI 10 0).n), .int .u64 (l2 (dnI 10 0).n), .int .u64 (l3 (dnI 10 0).n), .int .i64 (dnI 10 0).s, .bool (dnI 2 1).b, .int .u64 (l0 (dnI 2 1).n), .int .u64 (l1 (dnI 2 1).n), .int .u64 (l2 (dnI 2 1).n), .int .u64 (l3 (dnI 2 1).n), .int .i64 (dnI 2 1).s])] #[.bool false, .int .u64 0, .int .u64 0, .int .u64 0, .int .u64 0, .int .i64 0, .bool false, .int .u64 0, .int .u64 0, .int .u64 0, .int .u64 0, .int .i64 0, .bool (dnI 1 1).b, .int .u64 (l0 (dnI 1 1).n), .int .u64 (l1 (dnI 1 1).n), .int .u64 (l2 (dnI 1 1).n), .int .u64 (l3 (dnI 1 1).n), .int .i64 (dnI 1 1).s, .bool (dnI 100 0).b, .int .u64 (l0 (dnI 100 0).n), .int .u64 (l1 (dnI 100 0).n), .int .u64 (l2 (dnI 100 0).n), .int .u64 (l3 (dnI 100 0).n), .int .i64 (dnI 100 0).s, .bool (dnI 10 0).b, .int .u64 (l0 (dnI 10 0).n), .int .u64 (l1 (dnI 10 0).n), .int .u64 (l2 (dnI 10 0).n), .int .u64 (l3 (dnI 10 0).n), .int .i64 (dnI 10 0).s, .bool (dnI 2 1).b, .int .u64 (l0 (dnI 2 1).n), .int .u64 (l1 (dnI 2 1).n), .int .u64 (l2 (dnI 2 1).n), .int .u64 (l3 (dnI 2 1).n), .int .i64 (dnI 2 1).s] 45 rfl rfl (fun _ => by kernel_rfl) rfl ?_
 intro k1 u5 hk hz hq Q1
 have N_k1 : w.heap.size ≤ k1 := by have := M.size; omega
 replace M := M.trans hq
 clear hk hz hq
 refine wl_build 24 [(1, (.tmp 12))] [(1, .slice (some ⟨k1, 0, none⟩) 2 2)] (.agg #[.string ⟨#[]⟩, .slice (some ⟨k1, 0, none⟩) 2 2]) rfl rfl (by kernel_rfl) rfl ?_
 refine wl_alloc 24 #[.string ⟨#[]⟩, .slice none 0 0] rfl (fun _ => by kernel_rfl) rfl ?_
 intro k2 u6 hk hz hq Q2
 have ne_k1_k2 : k1 ≠ k2 := by have := Q1.lt; omega
 have N_k2 : w.heap.size ≤ k2 := by have := M.size; omega
 replace Q1 := Q1.mo hq
 replace M := M.trans hq
 clear hk hz hq
 refine wl_st 24 (.tmp 1) (.tmp 13) k2 0 #[.string ⟨#[]⟩, .slice (some ⟨k1, 0, none⟩) 2 2] _ [.string ⟨#[]⟩, .slice (some ⟨k1, 0, none⟩) 2 2] Q2 rfl rfl rfl rfl rfl szT24 rfl rfl rfl ?_
 intro u7 hS Qn
 replace Q2 := Qn
 clear Qn
 replace Q1 := hS.other _ _ ne_k1_k2 Q1
 replace M := hS.mo _ N_k2 M
 clear hS
 refine w_nil (xn_then (w_seq ?_))
 refine w_any 7 [.inl (.agg #[.string ⟨#[]⟩, .slice (some ⟨k1, 0, none⟩) 2 2]), .inl (.agg ((dnI 1505 1).cells).toArray), .inl (.tuple #[.agg ((dnI 2010 2).cells).toArray, .int .i64 (0)]), .inl (.tuple #[.agg ((dnI 2010 2).cells).toArray, .int .i64 (0)]), .inl (.agg ((dnI 2010 2).cells).toArray), .inl (.int .i64 (0)), .inr [.bool false, .int .u64 0, .int .u64 0, .int .u64 0, .int .u64 0, .int .i64 0]] [5] (by kernel_rfl) (by kernel_rfl) (by kernel_rfl) (by kernel_rfl) rfl (by kernel_rfl) (by kernel_rfl) (late_cons ⟨_, _, rfl, rfl, fun _ _ _ _ h => h, fun f hd => ⟨rfl, la_un (fun v => Instr.extract v 1) (.tmp 14) (.tuple #[.agg ((dnI 2010 2).cells).toArray, .int .i64 (0)]) (.int .i64 (0)) (fun _ => rfl) (hd 3 rfl _ rfl) (fun w => by kernel_rfl)⟩⟩ late_nil) ?_ ?_ ?_
 ·exact Ds.start (by kernel_rfl)
 ·refine ea_cons ?_ (ea_cons ?_ (ea_cons ?_ (ea_cons ?_ (ea_cons ?_ (ea_cons ?_ (ea_cons ?_ (ea_nil)))))))
  ·exact og_eq _ rfl (fun f wf hq hd K hK => have Q2 := Q2.mo hq; go_run rfl (wo_load 24 (.tmp 1) (pt k2 0) (.agg #[.string ⟨#[]⟩, .slice (some ⟨k1, 0, none⟩) 2 2]) rfl rfl (run_row Q2 24 0 2 _ rfl Try.underlying24 rfl szT24) (hK _ (Mo.refl _))))
  ·exact og_eq _ rfl (fun f wf hq hd K hK => go_run rfl (wo_call 25 [(.const (.int .i64 (1505))), (.const (.int .i64 (1)))] _ [.int .i64 (1505), .int .i64 (1)] (.agg ((dnI 1505 1).cells).toArray) rfl rfl (fun _ _ => by kernel_rfl) (of_n 1505 1 _ (by decide) (by decide) (by decide)) hK))
  ·exact og_eq _ rfl (fun f wf hq hd K hK => go_run rfl (wo_call 15 [(.tmp 15), (.tmp 16)] _ [.agg #[.string ⟨#[]⟩, .slice (some ⟨k1, 0, none⟩) 2 2], .agg ((dnI 1505 1).cells).toArray] (.tuple #[.agg ((dnI 2010 2).cells).toArray, .int .i64 (0)]) rfl (li2 (hd 0 rfl) (hd 1 rfl)) (fun _ _ => by kernel_rfl) (atl1_n (Q1.mo hq)) hK))
  ·exact og_eq _ rfl (fun f wf hq hd K hK => go_run rfl (wo_mv (.tmp 17) (.tuple #[.agg ((dnI 2010 2).cells).toArray, .int .i64 (0)]) (fun _ => rfl) (hd 2 rfl) (hK _ (Mo.refl _))))
  ·exact og_eq _ rfl (fun f wf hq hd K hK => go_run rfl (wo_un (fun v => Instr.extract v 0) (.tmp 14) (.tuple #[.agg ((dnI 2010 2).cells).toArray, .int .i64 (0)]) (.agg ((dnI 2010 2).cells).toArray) (fun _ => rfl) (hd 3 rfl) (by kernel_rfl) (hK _ (Mo.refl _))))
  ·exact og_eq _ rfl (fun f wf hq hd K hK => go_run rfl (wo_un (fun v => Instr.extract v 1) (.tmp 14) (.tuple #[.agg ((dnI 2010 2).cells).toArray, .int .i64 (0)]) (.int .i64 (0)) (fun _ => rfl) (hd 3 rfl) (by kernel_rfl) (hK _ (Mo.refl _))))
  ·exact og_new [.bool false, .int .u64 0, .int .u64 0, .int .u64 0, .int .u64 0, .int .i64 0] rfl (fun f wf hq hd K hK => go_run rfl (wo_alloc 33 #[.bool false, .int .u64 0, .int .u64 0, .int .u64 0, .int .u64 0, .int .i64 0] rfl (fun _ => by kernel_rfl) hK))
 intro kf8 u8 hq hR hne
 obtain ⟨N_k3, Q3⟩ := hR 6 _ rfl rfl
 have ne_k1_k3 : k1 ≠ (kf8 6) := by have := Q1.lt; omega
 have ne_k2_k3 : k2 ≠ (kf8 6) := by have := Q2.lt; omega
 replace N_k3 := Nat.le_trans M.size N_k3
 replace Q1 := Q1.mo hq
 replace Q2 := Q2.mo hq
 replace M := M.trans hq
 clear hq hR hne
 refine wl_st 33 (.tmp 2) (.tmp 18) (kf8 6) 0 (((dnI 2010 2).cells).toArray) _ ((dnI 2010 2).cells) Q3 rfl rfl rfl rfl rfl sz33 rfl rfl rfl ?_
 intro u9 hS Qn
 replace Q3 := Qn
 clear Qn
 replace Q1 := hS.other _ _ ne_k1_k3 Q1
 replace Q2 := hS.other _ _ ne_k2_k3 Q2
 replace M := hS.mo _ N_k3 M
 clear hS
 refine wl_m (.tmp 19) (.int .i64 (0)) ?_
 refine w_nil (xn_then (w_seq ?_))
 refine w_any 7 [.inl (.agg #[.string ⟨#[]⟩, .slice (some ⟨k1, 0, none⟩) 2 2]), .inl (.agg ((dnI (-1) 0).cells).toArray), .inl (.tuple #[.agg (dn0.cells).toArray, .int .i64 (141)]), .inl (.tuple #[.agg (dn0.cells).toArray, .int .i64 (141)]), .inl (.agg (dn0.cells).toArray), .inl (.int .i64 (141)), .inr [.bool false, .int .u64 0, .int .u64 0, .int .u64 0, .int .u64 0, .int .i64 0]] [5] (by kernel_rfl) (by kernel_rfl) (by kernel_rfl) (by kernel_rfl) rfl (by kernel_rfl) (by kernel_rfl) (late_cons ⟨_, _, rfl, rfl, fun _ _ _ _ h => h, fun f hd => ⟨rfl, la_un (fun v => Instr.extract v 1) (.tmp 20) (.tuple #[.agg (dn0.cells).toArray, .int .i64 (141)]) (.int .i64 (141)) (fun _ => rfl) (hd 3 rfl _ rfl) (fun w => by kernel_rfl)⟩⟩ late_nil) ?_ ?_ ?_
 ·exact Ds.start (by kernel_rfl)
 ·refine ea_cons ?_ (ea_cons ?_ (ea_cons ?_ (ea_cons ?_ (ea_cons ?_ (ea_cons ?_ (ea_cons ?_ (ea_nil)))))))
  ·exact og_eq _ rfl (fun f wf hq hd K hK => have Q2 := Q2.mo hq; go_run rfl (wo_load 24 (.tmp 1) (pt k2 0) (.agg #[.string ⟨#[]⟩, .slice (some ⟨k1, 0, none⟩) 2 2]) rfl rfl (run_row Q2 24 0 2 _ rfl Try.underlying24 rfl szT24) (hK _ (Mo.refl _))))
  ·exact og_eq _ rfl (fun f wf hq hd K hK => go_run rfl (wo_call 25 [(.const (.int .i64 (-1))), (.const (.int .i64 (0)))] _ [.int .i64 (-1), .int .i64 (0)] (.agg ((dnI (-1) 0).cells).toArray) rfl rfl (fun _ _ => by kernel_rfl) (of_n (-1) 0 _ (by decide) (by decide) (by decide)) hK))
  ·exact og_eq _ rfl (fun f wf hq hd K hK => go_run rfl (wo_call 15 [(.tmp 21), (.tmp 22)] _ [.agg #[.string ⟨#[]⟩, .slice (some ⟨k1, 0, none⟩) 2 2], .agg ((dnI (-1) 0).cells).toArray] (.tuple #[.agg (dn0.cells).toArray, .int .i64 (141)]) rfl (li2 (hd 0 rfl) (hd 1 rfl)) (fun _ _ => by kernel_rfl) (atl2_n (Q1.mo hq)) hK))
  ·exact og_eq _ rfl (fun f wf hq hd K hK => go_run rfl (wo_mv (.tmp 23) (.tuple #[.agg (dn0.cells).toArray, .int .i64 (141)]) (fun _ => rfl) (hd 2 rfl) (hK _ (Mo.refl _))))
  ·exact og_eq _ rfl (fun f wf hq hd K hK => go_run rfl (wo_un (fun v => Instr.extract v 0) (.tmp 20) (.tuple #[.agg (dn0.cells).toArray, .int .i64 (141)]) (.agg (dn0.cells).toArray) (fun _ => rfl) (hd 3 rfl) (by kernel_rfl) (hK _ (Mo.refl _))))
  ·exact og_eq _ rfl (fun f wf hq hd K hK => go_run rfl (wo_un (fun v => Instr.extract v 1) (.tmp 20) (.tuple #[.agg (dn0.cells).toArray, .int .i64 (141)]) (.int .i64 (141)) (fun _ => rfl) (hd 3 rfl) (by kernel_rfl) (hK _ (Mo.refl _))))
  ·exact og_new [.bool false, .int .u64 0, .int .u64 0, .int .u64 0, .int .u64 0, .int .i64 0] rfl (fun f wf hq hd K hK => go_run rfl (wo_alloc 33 #[.bool false, .int .u64 0, .int .u64 0, .int .u64 0, .int .u64 0, .int .i64 0] rfl (fun _ => by kernel_rfl) hK))
 intro kf10 u10 hq hR hne
 obtain ⟨N_k4, Q4⟩ := hR 6 _ rfl rfl
 have ne_k1_k4 : k1 ≠ (kf10 6) := by have := Q1.lt; omega
 have ne_k2_k4 : k2 ≠ (kf10 6) := by have := Q2.lt; omega
 have ne_k3_k4 : (kf8 6) ≠ (kf10 6) := by have := Q3.lt; omega
 replace N_k4 := Nat.le_trans M.size N_k4
 replace Q1 := Q1.mo hq
 replace Q2 := Q2.mo hq
 replace Q3 := Q3.mo hq
 replace M := M.trans hq
 clear hq hR hne
 refine wl_st 33 (.tmp 4) (.tmp 24) (kf10 6) 0 ((dn0.cells).toArray) _ (dn0.cells) Q4 rfl rfl rfl rfl rfl sz33 rfl rfl rfl ?_
 intro u11 hS Qn
 replace Q4 := Qn
 clear Qn
 replace Q1 := hS.other _ _ ne_k1_k4 Q1
 replace Q2 := hS.other _ _ ne_k2_k4 Q2
 replace Q3 := hS.other _ _ ne_k3_k4 Q3
 replace M := hS.mo _ N_k4 M
 clear hS
 refine wl_m (.tmp 25) (.int .i64 (141)) ?_
 refine w_nil (xn_then (w_seq ?_))
 refine w_any 2 [.inl (.agg ((dnI 2010 2).cells).toArray), .inl (.agg ((dnI 2010 2).cells).toArray)] [] (by kernel_rfl) (by kernel_rfl) (by kernel_rfl) (by kernel_rfl) rfl (by kernel_rfl) (by kernel_rfl) late_nil ?_ ?_ ?_
 ·exact Ds.none rfl
 ·refine ea_cons ?_ (ea_cons ?_ (ea_nil))
  ·exact og_eq _ rfl (fun f wf hq hd K hK => have Q3 := Q3.mo hq; go_run rfl (wo_load 33 (.tmp 2) (pt (kf8 6) 0) (.agg ((dnI 2010 2).cells).toArray) rfl rfl (run_row Q3 33 0 6 ((dnI 2010 2).cells) rfl Try.underlying33 rfl sz33) (hK _ (Mo.refl _))))
  ·exact og_eq _ rfl (fun f wf hq hd K hK => go_run rfl (wo_call 25 [(.const (.int .i64 (2010))), (.const (.int .i64 (2)))] _ [.int .i64 (2010), .int .i64 (2)] (.agg ((dnI 2010 2).cells).toArray) rfl rfl (fun _ _ => by kernel_rfl) (of_n 2010 2 _ (by decide) (by decide) (by decide)) hK))
 intro kf12 u12 hq hR hne
 replace Q1 := Q1.mo hq
 replace Q2 := Q2.mo hq
 replace Q3 := Q3.mo hq
 replace Q4 := Q4.mo hq
 replace M := M.trans hq
 clear hq hR hne
 refine wl_b .eql 33 (.tmp 26) (.tmp 27) (.agg ((dnI 2010 2).cells).toArray) (.agg ((dnI 2010 2).cells).toArray) (.bool true) (eqDn (sD_self _) _ _ _) ?_
 refine wl_m (.tmp 28) (.bool true) ?_
 refine wl_m (.tmp 3) (.int .i64 (0)) ?_
 refine wl_b .eql 26 (.tmp 30) (.const (.int .i64 (0))) (.int .i64 (0)) (.int .i64 (0)) (.bool true) (eq34 (r := true) rfl _ _ _) ?_
 refine wl_pick (.tmp 29) (.tmp 31) (.const (.bool false)) true (.bool true) (fun _ => rfl) rfl rfl rfl ?_
 refine wl_m (.tmp 32) (.bool true) ?_
 refine wl_m (.tmp 5) (.int .i64 (141)) ?_
 refine wl_b .eql 26 (.tmp 34) (.const (.int .i64 (141))) (.int .i64 (141)) (.int .i64 (141)) (.bool true) (eq34 (r := true) rfl _ _ _) ?_
 refine wl_pick (.tmp 33) (.tmp 35) (.const (.bool false)) true (.bool true) (fun _ => rfl) rfl rfl rfl ?_
 refine wl_m (.tmp 36) (.bool true) ?_
 refine w_nil (xn_then (w_ret ?_))
 exact w_ret1 _ _ rfl rfl ⟨rfl, M⟩
end Go.Proofs.Ythehmmhnacomkaa
namespace Go.Proofs.Ythehmmhnacomkaa
open Go.ChangeShapes Go.WideShapes Go.ChangeAt Go.RowKit Go.ChangeMaps
set_option maxRecDepth 100000
theorem Try.own : ownKnob Try.prog.godebug = none := by kernel_rfl
theorem Try.laidOut : laidOutB Try.prog = true := by kernel_rfl
theorem Try.cl3 : Try.prog.cellsOf 3 = 1 := by kernel_rfl
theorem Try.cl4 : Try.prog.cellsOf 4 = 1 := by kernel_rfl
theorem Try.cl9 : Try.prog.cellsOf 9 = 1 := by kernel_rfl
theorem Try.cl22 : Try.prog.cellsOf 22 = 1 := by kernel_rfl
theorem Try.cl24 : Try.prog.cellsOf 24 = 2 := by kernel_rfl
theorem Try.cl29 : Try.prog.cellsOf 29 = 1 := by kernel_rfl
theorem Try.cl31 : Try.prog.cellsOf 31 = 4 := by kernel_rfl
theorem Try.cl33 : Try.prog.cellsOf 33 = 6 := by kernel_rfl
theorem Try.cl45 : Try.prog.cellsOf 45 = 18 := by kernel_rfl
theorem wf_u1 {x : Int} (h : (Lit.int .u64 x).wf = true) : U1 x := by
 simp [Lit.wf, IntKind.min, IntKind.max, IntKind.signed, IntKind.bits] at h
 exact ⟨by omega, by omega⟩
section
variable {H : Type} {enc : TypeId × Value → H} {W : World} {sp : Nat → Bool} {fuel : Nat} {cs : List Value} {x : DataW H × List MemPlace}
theorem cut4 (h : DataW.trod enc Try.prog W 0 sp true fuel 31 cs = some x) : x.2 = [] ∧ ∃ n : Int, (0 ≤ n ∧ n < MM) ∧ cs = [.int .u64 (l0 n), .int .u64 (l1 n), .int .u64 (l2 n), .int .u64 (l3 n)] := by
 obtain ⟨xs, m, rfl, rfl, hlen, hn, hi⟩ := DataW.trod_array Try.underlying31 h
 rw [Try.cl31] at hlen
 obtain ⟨c0, c1, c2, c3, rfl⟩ : ∃ c0 c1 c2 c3, cs = [c0, c1, c2, c3] := by
  match cs, hlen with
  | [a, b, c, d], _ => exact ⟨a, b, c, d, rfl⟩
 obtain ⟨y0, y1, y2, y3, rfl⟩ : ∃ y0 y1 y2 y3, xs = [y0, y1, y2, y3] := by
  match xs, hn with
  | [a, b, c, d], _ => exact ⟨a, b, c, d, rfl⟩
 have i0 := hi 0 (by decide)
 have i1 := hi 1 (by decide)
 have i2 := hi 2 (by decide)
 have i3 := hi 3 (by decide)
 simp only [Try.cl29] at i0 i1 i2 i3
 simp at i0 i1 i2 i3
 obtain ⟨x0, e0, rfl, w0⟩ := DataW.trod_int Try.underlying29 i0
 obtain ⟨x1, e1, rfl, w1⟩ := DataW.trod_int Try.underlying29 i1
 obtain ⟨x2, e2, rfl, w2⟩ := DataW.trod_int Try.underlying29 i2
 obtain ⟨x3, e3, rfl, w3⟩ := DataW.trod_int Try.underlying29 i3
 simp at e0 e1 e2 e3
 subst e0 e1 e2 e3
 have u : U4 x0 x1 x2 x3 := ⟨wf_u1 w0, wf_u1 w1, wf_u1 w2, wf_u1 w3⟩
 exact ⟨rfl, vl x0 x1 x2 x3, vl_bd u, by rw [l0_vl u, l1_vl u, l2_vl u, l3_vl u]⟩
theorem cut6 (h : DataW.trod enc Try.prog W 0 sp true fuel 33 cs = some x) : x.2 = [] ∧ ∃ (b : Bool) (n s : Int), (0 ≤ n ∧ n < MM) ∧ cs = [.bool b, .int .u64 (l0 n), .int .u64 (l1 n), .int .u64 (l2 n), .int .u64 (l3 n), .int .i64 s] := by
 obtain ⟨y0, y1, y2, m, rfl, hl, h0, h1, h2⟩ := Go.Deep.trod_struct3 Try.underlying33 h
 rw [Try.cl33] at hl
 obtain ⟨c0, c1, c2, c3, c4, c5, rfl⟩ : ∃ c0 c1 c2 c3 c4 c5, cs = [c0, c1, c2, c3, c4, c5] := by
  match cs, hl with
  | [a, b, c, d, e, f], _ => exact ⟨a, b, c, d, e, f, rfl⟩
 simp [Try.cl4, Try.cl31, Try.cl3] at h0 h1 h2
 obtain ⟨b, e0, rfl⟩ := DataW.trod_bool Try.underlying4 h0
 obtain ⟨q1, n, hn, e1⟩ := cut4 h1
 obtain ⟨s, e2, rfl, w2⟩ := DataW.trod_int Try.underlying3 h2
 simp at e0 e1 e2
 obtain ⟨e10, e11, e12, e13⟩ := e1
 subst e0 e10 e11 e12 e13 e2
 exact ⟨by simp [q1], b, n, s, hn, rfl⟩
theorem cut18 (h : DataW.trod enc Try.prog W 0 sp true fuel 45 cs = some x) : ∃ s : Stp, s.ok ∧ cs = s.cells := by
 obtain ⟨xs, m, rfl, _, hl, hlen, hi⟩ := DataW.trod_struct Try.underlying45 h
 rw [Try.cl45] at hl
 obtain ⟨c0, c1, c2, c3, c4, c5, c6, c7, c8, c9, c10, c11, c12, c13, c14, c15, c16, c17, rfl⟩ : ∃ c0 c1 c2 c3 c4 c5 c6 c7 c8 c9 c10 c11 c12 c13 c14 c15 c16 c17, cs = [c0, c1, c2, c3, c4, c5, c6, c7, c8, c9, c10, c11, c12, c13, c14, c15, c16, c17] := by
  match cs, hl with
  | [a0, a1, a2, a3, a4, a5, a6, a7, a8, a9, a10, a11, a12, a13, a14, a15, a16, a17], _ => exact ⟨a0, a1, a2, a3, a4, a5, a6, a7, a8, a9, a10, a11, a12, a13, a14, a15, a16, a17, rfl⟩
 obtain ⟨y0, y1, y2, rfl⟩ : ∃ y0 y1 y2, xs = [y0, y1, y2] := by
  match xs, hlen with
  | [a0, a1, a2], _ => exact ⟨a0, a1, a2, rfl⟩
 have i0 := hi 0 _ rfl
 have i1 := hi 1 _ rfl
 have i2 := hi 2 _ rfl
 simp [Try.cl33] at i0 i1 i2
 obtain ⟨_, ab, an, az, ha, e0⟩ := cut6 i0
 obtain ⟨_, bb, bn, bs, hb, e1⟩ := cut6 i1
 obtain ⟨_, cb, cn, cz, hc, e2⟩ := cut6 i2
 simp at e0 e1 e2
 obtain ⟨f0, f1, f2, f3, f4, f5⟩ := e0
 obtain ⟨g0, g1, g2, g3, g4, g5⟩ := e1
 obtain ⟨k0, k1, k2, k3, k4, k5⟩ := e2
 subst f0 f1 f2 f3 f4 f5 g0 g1 g2 g3 g4 g5 k0 k1 k2 k3 k4 k5
 exact ⟨⟨⟨ab, an, az⟩, ⟨bb, bn, bs⟩, ⟨cb, cn, cz⟩⟩, ⟨ha, hb, hc⟩, rfl⟩
theorem cut_tab (h : DataW.trod enc Try.prog W 0 sp true fuel 24 cs = some x) : ∃ b : Tb, LT W b ∧ cs = b.cells := by
 obtain ⟨xs, m, rfl, _, hl, hlen, hi⟩ := DataW.trod_struct Try.underlying24 h
 rw [Try.cl24] at hl
 obtain ⟨c0, c1, rfl⟩ : ∃ c0 c1, cs = [c0, c1] := by
  match cs, hl with
  | [a0, a1], _ => exact ⟨a0, a1, rfl⟩
 obtain ⟨y0, y1, rfl⟩ : ∃ y0 y1, xs = [y0, y1] := by
  match xs, hlen with
  | [a0, a1], _ => exact ⟨a0, a1, rfl⟩
 have i0 := hi 0 _ rfl
 have i1 := hi 1 _ rfl
 simp [Try.cl9, Try.cl22] at i0 i1
 obtain ⟨nm, e0, _⟩ := DataW.trod_string Try.underlying9 i0
 obtain ⟨A, pa, ca, e1, hO, hSA, hCp⟩ := D.cut_sl Try.underlying22 (n := 18) (by decide) Try.cl45 Stp.cells ⟨dn0, dn0, dn0⟩ Stp.ok (fun _ => rfl) (fun _ h => cut18 h) i1
 simp at e0
 subst e0 e1
 exact ⟨⟨nm, pa, ca, A⟩, ⟨hSA, hO, hCp⟩, rfl⟩
end
section
variable {H : Type} {enc : TypeId × Value → H} {W : World} {base : Nat} {v : Value} {d : DataW H} {p : List MemPlace}
theorem open_tab (hv : Value.okWide Try.prog W .any base 24 v) (h : DataW.Trod enc Try.prog W 0 (fun _ => true) true 24 v d p) : ∃ x : Tb, v = .agg x.cells.toArray ∧ LT W x := by
 obtain ⟨a, rfl, _⟩ := okWide_struct Try.underlying24 hv
 obtain ⟨fuel, hf⟩ := h
 obtain ⟨x, hx, e⟩ := cut_tab hf
 exact ⟨x, by have e2 : a = x.cells.toArray := (by rw [← e]; simp [Value.cells]); rw [e2], hx⟩
end
namespace D
theorem trodAll_stays {H : Type} {enc : TypeId × Value → H} {W W' : World} {sp' : Nat → Bool} : ∀ {ts : List TypeId} {vs : List Value} {ds : List (DataW H)} {ps : List MemPlace}, (∀ t ∈ ts, Try.prog.readableRec t = true ∧ t < Try.prog.types.size) → DataW.TrodAll enc Try.prog W 0 (fun _ => true) true ts vs ds ps → (∀ p ∈ ps, W.sameAt W' p) → (∀ p ∈ ps, sp' p.block = true) → DataW.TrodAll enc Try.prog W' 0 sp' true ts vs ds ps
 | [], [], [], _, _, h, _, _ => h
 | _ :: _, _ :: _, _ :: _, _, hT, ⟨p, q, h1, h2, e⟩, hm, hs => ⟨p, q, WideElems.Trod_stays Try.laidOut (hT _ (List.mem_cons.2 (Or.inl rfl))).1 (hT _ (List.mem_cons.2 (Or.inl rfl))).2 h1 (fun x hx => hm x (by rw [e]; exact List.mem_append_left _ hx)) (fun x hx => hs x (by rw [e]; exact List.mem_append_left _ hx)),
   trodAll_stays (fun t ht => hT t (List.mem_cons.2 (Or.inr ht))) h2 (fun x hx => hm x (by rw [e]; exact List.mem_append_right _ hx)) (fun x hx => hs x (by rw [e]; exact List.mem_append_right _ hx)), e⟩
end D
end Go.Proofs.Ythehmmhnacomkaa
namespace Go.Proofs.Ythehmmhnacomkaa
open Go.RowKit D
def fl (s : Stp) : Bool := decide (sg s.c.b s.c.n < 0)
end Go.Proofs.Ythehmmhnacomkaa
namespace Go.Proofs.Ythehmmhnacomkaa
open Go.RowKit D
theorem SL.take {w : World} {n : Nat} {α : Type} {cells : α → List Value} {pa : Option Addr} {L : List α} (h : SL w n cells pa L) (k : Nat) : SL w n cells pa (L.take k) :=
 ⟨by have := h.1; rw [List.length_take]; omega, fun i o e => h.2 i o (by rw [List.getElem?_take] at e; split at e; exact e; cases e)⟩
theorem LT.take {w : World} {x : Tb} (h : LT w x) (k : Nat) : LT w ⟨⟨#[]⟩, x.pa, x.cap, x.st.take k⟩ :=
 ⟨SL.take h.sl k, fun y hy => h.ok y (List.mem_of_mem_take hy), by have := h.cp; show (x.st.take k).length ≤ x.cap; rw [List.length_take]; omega⟩
end Go.Proofs.Ythehmmhnacomkaa
