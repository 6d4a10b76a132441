/-
  A part of the proof.
-/
import Derived.Test.YthehmmhnacomkaaKa10
import Derived.Test.YthehmmhnacomkaaKa3
import Derived.Test.YthehmmhnacomkaaKa2
import Derived.Test.YthehmmhnacomkaaKa1
import Derived.RegionTactic
import Derived.Test.YthehmmhnacomkaaProg
import Derived.WalkKit
import Derived.WalkSpells
import Derived.Handy
import Derived.BigQuiet
import Derived.Deep.RegionHeld3
import Derived.Deep.MidRow
import Derived.BigCall
import Derived.Test.YthehmmhnacomkaaKa9
import Derived.Test.YthehmmhnacomkaaKa8
import Derived.Test.YthehmmhnacomkaaKa5
import Derived.Test.YthehmmhnacomkaaKa4
import Derived.Shelf.Small.Bits
import Derived.Shelf.Strconv.Itoa0
import Derived.Shelf.Bits.Mul64
import Derived.Deep.CutBlock
import Derived.Deep.CutRange
import Derived.Test.YthehmmhnacomkaaKa7
import Derived.Test.YthehmmhnacomkaaKa6
import Derived.ChangeKeysEq
import Derived.ScopeJumps
import Derived.WalkMore
import Derived.Laws.StructEq
namespace Go.Proofs.Ythehmmhnacomkaa
open Go.RowKit
theorem eqb_run {a b r : Bool} (h : (a == b) = r) (x y : Operand) (w : World) : (do eqGuard .eql 4 x y (.bool a) (.bool b); binOp .eql 4 (.bool a) (.bool b)).run Try.prog w = .ok (.bool r) w := by
 subst h; kernel_rfl
theorem lss_run {a b : Int} {r : Bool} (h : decide (a < b) = r) (x y : Operand) (w : World) : (do eqGuard .lss 3 x y (.int .i64 a) (.int .i64 b); binOp .lss 3 (.int .i64 a) (.int .i64 b)).run Try.prog w = .ok (.bool r) w := by
 subst h; kernel_rfl
theorem add_same (bu bv : Bool) (n m s t S : Int) (i j : Nat) (d0 d1 d2 d3 d4 d5 : Value) (e : Int) (w : World) (hn0 : 0 ≤ n) (hn : n < MM) (hm0 : 0 ≤ m) (hm : m < MM) (h1 : ck bu n s = 0) (h2 : ck bv m t = 0) (hS : max s t = S) (hi : S - s = (i : Int)) (hj : S - t = (j : Int)) (hi7 : i ≤ 18) (hj7 : j ≤ 18) (hb : (bu == bv) = true)
  (hd : [d0, d1, d2, d3, d4, d5].all (·.oneCell') = true)
  (hfit : ∀ w, Calls Try.prog 72 #[.bool bu, dx (n * 10 ^ i + m * 10 ^ j), .int .i64 S] w fun e' w' => e' = .returned (.tuple #[.agg #[d0, d1, d2, d3, d4, d5], .int .i64 e]) ∧ Mo w w') :
  Calls Try.prog 52 #[dc bu n s, dc bv m t] w fun e' w' => e' = .returned (.tuple #[.agg #[d0, d1, d2, d3, d4, d5], .int .i64 e]) ∧ Mo w w' := by
 have bX := lifted_bd hn0 hn (i := i) (by omega)
 have bY := lifted_bd hm0 hm (i := j) (by omega)
 refine w_enter 64 Try.func52 Try.ntmps52 rfl rfl ?_
 have M : Mo w w := Mo.refl _
 refine w_seq (w_reg ?_)
 refine wl_box 33 (.tmp 0) _ (#[.bool bu, .int .u64 (l0 (n)), .int .u64 (l1 (n)), .int .u64 (l2 (n)), .int .u64 (l3 (n)), .int .i64 (s)]) rfl rfl (fun _ => by kernel_rfl) rfl ?_
 intro k1 w1 hk hz hq Q1
 have N_k1 : w.heap.size ≤ k1 := by have := M.size; omega
 replace M := M.trans hq
 clear hk hz hq
 refine wl_box 33 (.tmp 1) _ (#[.bool bv, .int .u64 (l0 (m)), .int .u64 (l1 (m)), .int .u64 (l2 (m)), .int .u64 (l3 (m)), .int .i64 (t)]) rfl rfl (fun _ => by kernel_rfl) rfl ?_
 intro k2 w2 hk hz hq Q2
 have ne_k1_k2 : k1 ≠ k2 := by have := Q1.lt; omega
 have N_k2 : w.heap.size ≤ k2 := by have := M.size; omega
 replace Q1 := Q1.mo hq
 replace M := M.trans hq
 clear hk hz hq
 refine wl_alloc 33 #[.bool false, .int .u64 0, .int .u64 0, .int .u64 0, .int .u64 0, .int .i64 0] rfl (fun _ => by kernel_rfl) rfl ?_
 intro k3 w3 hk hz hq Q3
 have ne_k1_k3 : k1 ≠ k3 := by have := Q1.lt; omega
 have ne_k2_k3 : k2 ≠ k3 := by have := Q2.lt; omega
 have N_k3 : w.heap.size ≤ k3 := by have := M.size; omega
 replace Q1 := Q1.mo hq
 replace Q2 := Q2.mo hq
 replace M := M.trans hq
 clear hk hz hq
 refine wl_m (.const (.int .i64 (0))) (.int .i64 (0)) ?_
 refine w_nil (xn_then (w_seq (w_seq (w_reg ?_))))
 refine wl_l 33 (.tmp 2) (pt k1 0) (.agg #[.bool bu, .int .u64 (l0 (n)), .int .u64 (l1 (n)), .int .u64 (l2 (n)), .int .u64 (l3 (n)), .int .i64 (s)]) (run_row Q1 33 0 6 _ rfl Try.underlying33 rfl sz40) ?_
 refine wl_l 33 (.tmp 3) (pt k2 0) (.agg #[.bool bv, .int .u64 (l0 (m)), .int .u64 (l1 (m)), .int .u64 (l2 (m)), .int .u64 (l3 (m)), .int .i64 (t)]) (run_row Q2 33 0 6 _ rfl Try.underlying33 rfl sz40) ?_
 refine wl_call 44 [(.tmp 10), (.tmp 11)] _ [.agg #[.bool bu, .int .u64 (l0 (n)), .int .u64 (l1 (n)), .int .u64 (l2 (n)), .int .u64 (l3 (n)), .int .i64 (s)], .agg #[.bool bv, .int .u64 (l0 (m)), .int .u64 (l1 (m)), .int .u64 (l2 (m)), .int .u64 (l3 (m)), .int .i64 (t)]] (.int .i64 (0)) rfl rfl (fun _ _ => by kernel_rfl) (both_ok bu n s bv m t _ hn0 hn hm0 hm h1 h2) rfl ?_
 intro w4 hq
 replace Q1 := Q1.mo hq
 replace Q2 := Q2.mo hq
 replace Q3 := Q3.mo hq
 replace M := M.trans hq
 clear hq
 refine wl_m (.tmp 12) (.int .i64 (0)) ?_
 refine w_nil (xn_then (w_seq (w_reg ?_)))
 refine wl_m (.tmp 6) (.int .i64 (0)) ?_
 refine wl_b .neq 26 (.tmp 13) (.const (.int .i64 (0))) (.int .i64 (0)) (.int .i64 (0)) (.bool false) (by kernel_rfl) ?_
 refine w_nil (xn_then (w_condF rfl (w_skip (xn_then (w_seq (w_reg ?_))))))
 refine wl_f 33 2 (.tmp 2) (pt k1 0) (pt k1 5) ?_
 refine wl_l 3 (.tmp 17) (pt k1 5) (.int .i64 (s)) (run_one Q1 3 5 rfl Try.underlying3 rfl) ?_
 refine wl_f 33 2 (.tmp 3) (pt k2 0) (pt k2 5) ?_
 refine wl_l 3 (.tmp 19) (pt k2 5) (.int .i64 (t)) (run_one Q2 3 5 rfl Try.underlying3 rfl) ?_
 refine wl_val (.int .i64 (S)) (by rw [← hS]; exact max_run _ _ _ _ _ rfl rfl _ _ _ _ _ _) rfl ?_
 refine wl_m (.tmp 21) (.int .i64 (S)) ?_
 refine w_nil (xn_then (w_seq ?_))
 refine w_any 8 [.inl (.agg #[.bool bu, .int .u64 (l0 (n)), .int .u64 (l1 (n)), .int .u64 (l2 (n)), .int .u64 (l3 (n)), .int .i64 (s)]), .inl (.int .i64 (S)), .inl (.agg (dwa (n * 10 ^ i))), .inl (.agg #[.bool bv, .int .u64 (l0 (m)), .int .u64 (l1 (m)), .int .u64 (l2 (m)), .int .u64 (l3 (m)), .int .i64 (t)]), .inl (.int .i64 (S)), .inl (.agg (dwa (m * 10 ^ j))), .inr [.int .u64 0, .int .u64 0, .int .u64 0, .int .u64 0, .int .u64 0, .int .u64 0, .int .u64 0, .int .u64 0], .inr [.int .u64 0, .int .u64 0, .int .u64 0, .int .u64 0, .int .u64 0, .int .u64 0, .int .u64 0, .int .u64 0]] [] (by kernel_rfl) (by kernel_rfl) (by kernel_rfl) (by kernel_rfl) rfl (by kernel_rfl) (by kernel_rfl) late_nil ?_ ?_ ?_
 ·exact Ds.start (by kernel_rfl)
 ·refine ea_cons ?_ (ea_cons ?_ (ea_cons ?_ (ea_cons ?_ (ea_cons ?_ (ea_cons ?_ (ea_cons ?_ (ea_cons ?_ (ea_nil))))))))
  ·exact og_eq _ rfl (fun f wf hq hd K hK => have Q1 := Q1.mo hq; go_run rfl (wo_load 33 (.tmp 2) (pt k1 0) (.agg #[.bool bu, .int .u64 (l0 (n)), .int .u64 (l1 (n)), .int .u64 (l2 (n)), .int .u64 (l3 (n)), .int .i64 (s)]) rfl rfl (run_row Q1 33 0 6 _ rfl Try.underlying33 rfl sz40) (hK _ (Mo.refl _))))
  ·exact og_eq _ rfl (fun f wf hq hd K hK => go_run rfl (wo_mv (.tmp 7) (.int .i64 (S)) (fun _ => rfl) rfl (hK _ (Mo.refl _))))
  ·exact og_eq _ rfl (fun f wf hq hd K hK => go_run rfl (wo_call 48 [(.tmp 22), (.tmp 23)] _ [.agg #[.bool bu, .int .u64 (l0 (n)), .int .u64 (l1 (n)), .int .u64 (l2 (n)), .int .u64 (l3 (n)), .int .i64 (s)], .int .i64 (S)] (.agg (dwa (n * 10 ^ i))) rfl (li2 (hd 0 rfl) (hd 1 rfl)) (fun _ _ => by kernel_rfl) (lift_x bu n s S i _ hn0 hn hi (by omega)) hK))
  ·exact og_eq _ rfl (fun f wf hq hd K hK => have Q2 := Q2.mo hq; go_run rfl (wo_load 33 (.tmp 3) (pt k2 0) (.agg #[.bool bv, .int .u64 (l0 (m)), .int .u64 (l1 (m)), .int .u64 (l2 (m)), .int .u64 (l3 (m)), .int .i64 (t)]) rfl rfl (run_row Q2 33 0 6 _ rfl Try.underlying33 rfl sz40) (hK _ (Mo.refl _))))
  ·exact og_eq _ rfl (fun f wf hq hd K hK => go_run rfl (wo_mv (.tmp 7) (.int .i64 (S)) (fun _ => rfl) rfl (hK _ (Mo.refl _))))
  ·exact og_eq _ rfl (fun f wf hq hd K hK => go_run rfl (wo_call 48 [(.tmp 25), (.tmp 26)] _ [.agg #[.bool bv, .int .u64 (l0 (m)), .int .u64 (l1 (m)), .int .u64 (l2 (m)), .int .u64 (l3 (m)), .int .i64 (t)], .int .i64 (S)] (.agg (dwa (m * 10 ^ j))) rfl (li2 (hd 3 rfl) (hd 4 rfl)) (fun _ _ => by kernel_rfl) (lift_x bv m t S j _ hm0 hm hj (by omega)) hK))
  ·exact og_new [.int .u64 0, .int .u64 0, .int .u64 0, .int .u64 0, .int .u64 0, .int .u64 0, .int .u64 0, .int .u64 0] rfl (fun f wf hq hd K hK => go_run rfl (wo_alloc 74 #[.int .u64 0, .int .u64 0, .int .u64 0, .int .u64 0, .int .u64 0, .int .u64 0, .int .u64 0, .int .u64 0] rfl (fun _ => by kernel_rfl) hK))
  ·exact og_new [.int .u64 0, .int .u64 0, .int .u64 0, .int .u64 0, .int .u64 0, .int .u64 0, .int .u64 0, .int .u64 0] rfl (fun f wf hq hd K hK => go_run rfl (wo_alloc 74 #[.int .u64 0, .int .u64 0, .int .u64 0, .int .u64 0, .int .u64 0, .int .u64 0, .int .u64 0, .int .u64 0] rfl (fun _ => by kernel_rfl) hK))
 intro kf5 w5 hq hR hne
 obtain ⟨N_k4, Q4⟩ := hR 6 _ rfl rfl
 obtain ⟨N_k5, Q5⟩ := hR 7 _ rfl rfl
 have ne_k1_k4 : k1 ≠ (kf5 6) := by have := Q1.lt; omega
 have ne_k2_k4 : k2 ≠ (kf5 6) := by have := Q2.lt; omega
 have ne_k3_k4 : k3 ≠ (kf5 6) := by have := Q3.lt; omega
 have ne_k4_k5 := hne 6 7 rfl rfl rfl rfl (by decide)
 replace N_k4 := Nat.le_trans M.size N_k4
 have ne_k1_k5 : k1 ≠ (kf5 7) := by have := Q1.lt; omega
 have ne_k2_k5 : k2 ≠ (kf5 7) := by have := Q2.lt; omega
 have ne_k3_k5 : k3 ≠ (kf5 7) := by have := Q3.lt; omega
 replace N_k5 := Nat.le_trans M.size N_k5
 replace Q1 := Q1.mo hq
 replace Q2 := Q2.mo hq
 replace Q3 := Q3.mo hq
 replace M := M.trans hq
 clear hq hR hne
 refine wl_st 74 (.tmp 8) (.tmp 24) (kf5 6) 0 (dwa (n * 10 ^ i)) _ (dwa (n * 10 ^ i)).toList Q4 rfl rfl rfl rfl rfl sz81 rfl rfl rfl ?_
 intro w6 hS Qn
 replace Q4 := Qn
 clear Qn
 replace Q1 := hS.other _ _ ne_k1_k4 Q1
 replace Q2 := hS.other _ _ ne_k2_k4 Q2
 replace Q3 := hS.other _ _ ne_k3_k4 Q3
 replace Q5 := hS.other _ _ ne_k4_k5.symm Q5
 replace M := hS.mo _ N_k4 M
 clear hS
 refine wl_st 74 (.tmp 9) (.tmp 27) (kf5 7) 0 (dwa (m * 10 ^ j)) _ (dwa (m * 10 ^ j)).toList Q5 rfl rfl rfl rfl rfl sz81 rfl rfl rfl ?_
 intro w7 hS Qn
 replace Q5 := Qn
 clear Qn
 replace Q1 := hS.other _ _ ne_k1_k5 Q1
 replace Q2 := hS.other _ _ ne_k2_k5 Q2
 replace Q3 := hS.other _ _ ne_k3_k5 Q3
 replace Q4 := hS.other _ _ ne_k4_k5 Q4
 replace M := hS.mo _ N_k5 M
 clear hS
 refine w_nil (xn_then (w_seq (w_seq (w_reg ?_))))
 refine wl_f 33 0 (.tmp 2) (pt k1 0) (pt k1 0) ?_
 refine wl_l 4 (.tmp 28) (pt k1 0) (.bool bu) (run_one Q1 4 0 rfl Try.underlying4 rfl) ?_
 refine wl_f 33 0 (.tmp 3) (pt k2 0) (pt k2 0) ?_
 refine wl_l 4 (.tmp 30) (pt k2 0) (.bool bv) (run_one Q2 4 0 rfl Try.underlying4 rfl) ?_
 refine wl_b .eql 4 (.tmp 29) (.tmp 31) (.bool bu) (.bool bv) (.bool true) (eqb_run hb _ _ _) ?_
 refine w_nil (xn_then (w_condT rfl (w_seq ?_)))
 refine w_any 9 [.inl (pt k1 0), .inl (.bool bu), .inl (.agg (dwa (n * 10 ^ i))), .inl (.agg (dwa (m * 10 ^ j))), .inl (.agg (dwa (n * 10 ^ i + m * 10 ^ j))), .inl (.int .i64 (S)), .inl (.tuple #[.agg #[d0, d1, d2, d3, d4, d5], .int .i64 e]), .inl (.agg #[d0, d1, d2, d3, d4, d5]), .inl (.int .i64 e)] [] (by kernel_rfl) (by kernel_rfl) (by kernel_rfl) (by kernel_rfl) rfl (by kernel_rfl) (by kernel_rfl) late_nil ?_ ?_ ?_
 ·exact Ds.none rfl
 ·refine ea_cons ?_ (ea_cons ?_ (ea_cons ?_ (ea_cons ?_ (ea_cons ?_ (ea_cons ?_ (ea_cons ?_ (ea_cons ?_ (ea_cons ?_ (ea_nil)))))))))
  ·exact og_eq _ rfl (fun f wf hq hd K hK => go_run rfl (wo_un (fun v => Instr.fieldAt 33 v 0) (.tmp 2) (pt k1 0) (pt k1 0) (fun _ => rfl) rfl (by kernel_rfl) (hK _ (Mo.refl _))))
  ·exact og_eq _ rfl (fun f wf hq hd K hK => have Q1 := Q1.mo hq; go_run rfl (wo_load 4 (.tmp 33) (pt k1 0) (.bool bu) rfl (hd 0 rfl) (run_one Q1 4 0 rfl Try.underlying4 rfl) (hK _ (Mo.refl _))))
  ·exact og_eq _ rfl (fun f wf hq hd K hK => have Q4 := Q4.mo hq; go_run rfl (wo_load 74 (.tmp 8) (pt (kf5 6) 0) (.agg (dwa (n * 10 ^ i))) rfl rfl (run_row Q4 74 0 8 (dwa (n * 10 ^ i)).toList rfl Try.underlying74 rfl sz81) (hK _ (Mo.refl _))))
  ·exact og_eq _ rfl (fun f wf hq hd K hK => have Q5 := Q5.mo hq; go_run rfl (wo_load 74 (.tmp 9) (pt (kf5 7) 0) (.agg (dwa (m * 10 ^ j))) rfl rfl (run_row Q5 74 0 8 (dwa (m * 10 ^ j)).toList rfl Try.underlying74 rfl sz81) (hK _ (Mo.refl _))))
  ·exact og_eq _ rfl (fun f wf hq hd K hK => go_run rfl (wo_call 73 [(.tmp 35), (.tmp 36)] _ [.agg (dwa (n * 10 ^ i)), .agg (dwa (m * 10 ^ j))] (.agg (dwa (n * 10 ^ i + m * 10 ^ j))) rfl (li2 (hd 2 rfl) (hd 3 rfl)) (fun _ _ => by kernel_rfl) (addDouble_x (n * 10 ^ i) (m * 10 ^ j) _ bX.1 bX.2 bY.1 bY.2) hK))
  ·exact og_eq _ rfl (fun f wf hq hd K hK => go_run rfl (wo_mv (.tmp 7) (.int .i64 (S)) (fun _ => rfl) rfl (hK _ (Mo.refl _))))
  ·exact og_eq _ rfl (fun f wf hq hd K hK => go_run rfl (wo_call 72 [(.tmp 34), (.tmp 37), (.tmp 38)] _ [.bool bu, .agg (dwa (n * 10 ^ i + m * 10 ^ j)), .int .i64 (S)] (.tuple #[.agg #[d0, d1, d2, d3, d4, d5], .int .i64 e]) rfl (li3 (hd 1 rfl) (hd 4 rfl) (hd 5 rfl)) (fun _ _ => by kernel_rfl) (hfit _) hK))
  ·exact og_eq _ rfl (fun f wf hq hd K hK => go_run rfl (wo_un (fun v => Instr.extract v 0) (.tmp 39) (.tuple #[.agg #[d0, d1, d2, d3, d4, d5], .int .i64 e]) (.agg #[d0, d1, d2, d3, d4, d5]) (fun _ => rfl) (hd 6 rfl) (by kernel_rfl) (hK _ (Mo.refl _))))
  ·exact og_eq _ rfl (fun f wf hq hd K hK => go_run rfl (wo_un (fun v => Instr.extract v 1) (.tmp 39) (.tuple #[.agg #[d0, d1, d2, d3, d4, d5], .int .i64 e]) (.int .i64 e) (fun _ => rfl) (hd 6 rfl) (by kernel_rfl) (hK _ (Mo.refl _))))
 intro kf8 w8 hq hR hne
 replace Q1 := Q1.mo hq
 replace Q2 := Q2.mo hq
 replace Q3 := Q3.mo hq
 replace Q4 := Q4.mo hq
 replace Q5 := Q5.mo hq
 replace M := M.trans hq
 clear hq hR hne
 refine wl_st 33 (.tmp 4) (.tmp 40) k3 0 #[d0, d1, d2, d3, d4, d5] _ [d0, d1, d2, d3, d4, d5] Q3 rfl rfl rfl rfl rfl sz40 hd rfl rfl ?_
 intro w9 hS Qn
 replace Q3 := Qn
 clear Qn
 replace Q1 := hS.other _ _ ne_k1_k3 Q1
 replace Q2 := hS.other _ _ ne_k2_k3 Q2
 replace Q4 := hS.other _ _ ne_k3_k4.symm Q4
 replace Q5 := hS.other _ _ ne_k3_k5.symm Q5
 replace M := hS.mo _ N_k3 M
 clear hS
 refine wl_m (.tmp 41) (.int .i64 e) ?_
 refine w_nil (xn_then (w_ret (xr_then ?_)))
 exact w_ret2 _ _ (.agg #[d0, d1, d2, d3, d4, d5]) (.int .i64 e) rfl ⟨k3, rfl, (run_row Q3 33 0 6 _ rfl Try.underlying33 rfl sz40)⟩ rfl ⟨rfl, M⟩
theorem add_lt (bu bv : Bool) (n m s t S : Int) (i j : Nat) (d0 d1 d2 d3 d4 d5 : Value) (e : Int) (w : World) (hn0 : 0 ≤ n) (hn : n < MM) (hm0 : 0 ≤ m) (hm : m < MM) (h1 : ck bu n s = 0) (h2 : ck bv m t = 0) (hS : max s t = S) (hi : S - s = (i : Int)) (hj : S - t = (j : Int)) (hi7 : i ≤ 18) (hj7 : j ≤ 18) (hb : (bu == bv) = false) (hc : decide (cm (n * 10 ^ i) (m * 10 ^ j) < 0) = true)
  (hd : [d0, d1, d2, d3, d4, d5].all (·.oneCell') = true)
  (hfit : ∀ w, Calls Try.prog 72 #[.bool bv, dx (m * 10 ^ j - n * 10 ^ i), .int .i64 S] w fun e' w' => e' = .returned (.tuple #[.agg #[d0, d1, d2, d3, d4, d5], .int .i64 e]) ∧ Mo w w') :
  Calls Try.prog 52 #[dc bu n s, dc bv m t] w fun e' w' => e' = .returned (.tuple #[.agg #[d0, d1, d2, d3, d4, d5], .int .i64 e]) ∧ Mo w w' := by
 have bX := lifted_bd hn0 hn (i := i) (by omega)
 have bY := lifted_bd hm0 hm (i := j) (by omega)
 refine w_enter 64 Try.func52 Try.ntmps52 rfl rfl ?_
 have M : Mo w w := Mo.refl _
 refine w_seq (w_reg ?_)
 refine wl_box 33 (.tmp 0) _ (#[.bool bu, .int .u64 (l0 (n)), .int .u64 (l1 (n)), .int .u64 (l2 (n)), .int .u64 (l3 (n)), .int .i64 (s)]) rfl rfl (fun _ => by kernel_rfl) rfl ?_
 intro k1 w1 hk hz hq Q1
 have N_k1 : w.heap.size ≤ k1 := by have := M.size; omega
 replace M := M.trans hq
 clear hk hz hq
 refine wl_box 33 (.tmp 1) _ (#[.bool bv, .int .u64 (l0 (m)), .int .u64 (l1 (m)), .int .u64 (l2 (m)), .int .u64 (l3 (m)), .int .i64 (t)]) rfl rfl (fun _ => by kernel_rfl) rfl ?_
 intro k2 w2 hk hz hq Q2
 have ne_k1_k2 : k1 ≠ k2 := by have := Q1.lt; omega
 have N_k2 : w.heap.size ≤ k2 := by have := M.size; omega
 replace Q1 := Q1.mo hq
 replace M := M.trans hq
 clear hk hz hq
 refine wl_alloc 33 #[.bool false, .int .u64 0, .int .u64 0, .int .u64 0, .int .u64 0, .int .i64 0] rfl (fun _ => by kernel_rfl) rfl ?_
 intro k3 w3 hk hz hq Q3
 have ne_k1_k3 : k1 ≠ k3 := by have := Q1.lt; omega
 have ne_k2_k3 : k2 ≠ k3 := by have := Q2.lt; omega
 have N_k3 : w.heap.size ≤ k3 := by have := M.size; omega
 replace Q1 := Q1.mo hq
 replace Q2 := Q2.mo hq
 replace M := M.trans hq
 clear hk hz hq
 refine wl_m (.const (.int .i64 (0))) (.int .i64 (0)) ?_
 refine w_nil (xn_then (w_seq (w_seq (w_reg ?_))))
 refine wl_l 33 (.tmp 2) (pt k1 0) (.agg #[.bool bu, .int .u64 (l0 (n)), .int .u64 (l1 (n)), .int .u64 (l2 (n)), .int .u64 (l3 (n)), .int .i64 (s)]) (run_row Q1 33 0 6 _ rfl Try.underlying33 rfl sz40) ?_
 refine wl_l 33 (.tmp 3) (pt k2 0) (.agg #[.bool bv, .int .u64 (l0 (m)), .int .u64 (l1 (m)), .int .u64 (l2 (m)), .int .u64 (l3 (m)), .int .i64 (t)]) (run_row Q2 33 0 6 _ rfl Try.underlying33 rfl sz40) ?_
 refine wl_call 44 [(.tmp 10), (.tmp 11)] _ [.agg #[.bool bu, .int .u64 (l0 (n)), .int .u64 (l1 (n)), .int .u64 (l2 (n)), .int .u64 (l3 (n)), .int .i64 (s)], .agg #[.bool bv, .int .u64 (l0 (m)), .int .u64 (l1 (m)), .int .u64 (l2 (m)), .int .u64 (l3 (m)), .int .i64 (t)]] (.int .i64 (0)) rfl rfl (fun _ _ => by kernel_rfl) (both_ok bu n s bv m t _ hn0 hn hm0 hm h1 h2) rfl ?_
 intro w4 hq
 replace Q1 := Q1.mo hq
 replace Q2 := Q2.mo hq
 replace Q3 := Q3.mo hq
 replace M := M.trans hq
 clear hq
 refine wl_m (.tmp 12) (.int .i64 (0)) ?_
 refine w_nil (xn_then (w_seq (w_reg ?_)))
 refine wl_m (.tmp 6) (.int .i64 (0)) ?_
 refine wl_b .neq 26 (.tmp 13) (.const (.int .i64 (0))) (.int .i64 (0)) (.int .i64 (0)) (.bool false) (by kernel_rfl) ?_
 refine w_nil (xn_then (w_condF rfl (w_skip (xn_then (w_seq (w_reg ?_))))))
 refine wl_f 33 2 (.tmp 2) (pt k1 0) (pt k1 5) ?_
 refine wl_l 3 (.tmp 17) (pt k1 5) (.int .i64 (s)) (run_one Q1 3 5 rfl Try.underlying3 rfl) ?_
 refine wl_f 33 2 (.tmp 3) (pt k2 0) (pt k2 5) ?_
 refine wl_l 3 (.tmp 19) (pt k2 5) (.int .i64 (t)) (run_one Q2 3 5 rfl Try.underlying3 rfl) ?_
 refine wl_val (.int .i64 (S)) (by rw [← hS]; exact max_run _ _ _ _ _ rfl rfl _ _ _ _ _ _) rfl ?_
 refine wl_m (.tmp 21) (.int .i64 (S)) ?_
 refine w_nil (xn_then (w_seq ?_))
 refine w_any 8 [.inl (.agg #[.bool bu, .int .u64 (l0 (n)), .int .u64 (l1 (n)), .int .u64 (l2 (n)), .int .u64 (l3 (n)), .int .i64 (s)]), .inl (.int .i64 (S)), .inl (.agg (dwa (n * 10 ^ i))), .inl (.agg #[.bool bv, .int .u64 (l0 (m)), .int .u64 (l1 (m)), .int .u64 (l2 (m)), .int .u64 (l3 (m)), .int .i64 (t)]), .inl (.int .i64 (S)), .inl (.agg (dwa (m * 10 ^ j))), .inr [.int .u64 0, .int .u64 0, .int .u64 0, .int .u64 0, .int .u64 0, .int .u64 0, .int .u64 0, .int .u64 0], .inr [.int .u64 0, .int .u64 0, .int .u64 0, .int .u64 0, .int .u64 0, .int .u64 0, .int .u64 0, .int .u64 0]] [] (by kernel_rfl) (by kernel_rfl) (by kernel_rfl) (by kernel_rfl) rfl (by kernel_rfl) (by kernel_rfl) late_nil ?_ ?_ ?_
 ·exact Ds.start (by kernel_rfl)
 ·refine ea_cons ?_ (ea_cons ?_ (ea_cons ?_ (ea_cons ?_ (ea_cons ?_ (ea_cons ?_ (ea_cons ?_ (ea_cons ?_ (ea_nil))))))))
  ·exact og_eq _ rfl (fun f wf hq hd K hK => have Q1 := Q1.mo hq; go_run rfl (wo_load 33 (.tmp 2) (pt k1 0) (.agg #[.bool bu, .int .u64 (l0 (n)), .int .u64 (l1 (n)), .int .u64 (l2 (n)), .int .u64 (l3 (n)), .int .i64 (s)]) rfl rfl (run_row Q1 33 0 6 _ rfl Try.underlying33 rfl sz40) (hK _ (Mo.refl _))))
  ·exact og_eq _ rfl (fun f wf hq hd K hK => go_run rfl (wo_mv (.tmp 7) (.int .i64 (S)) (fun _ => rfl) rfl (hK _ (Mo.refl _))))
  ·exact og_eq _ rfl (fun f wf hq hd K hK => go_run rfl (wo_call 48 [(.tmp 22), (.tmp 23)] _ [.agg #[.bool bu, .int .u64 (l0 (n)), .int .u64 (l1 (n)), .int .u64 (l2 (n)), .int .u64 (l3 (n)), .int .i64 (s)], .int .i64 (S)] (.agg (dwa (n * 10 ^ i))) rfl (li2 (hd 0 rfl) (hd 1 rfl)) (fun _ _ => by kernel_rfl) (lift_x bu n s S i _ hn0 hn hi (by omega)) hK))
  ·exact og_eq _ rfl (fun f wf hq hd K hK => have Q2 := Q2.mo hq; go_run rfl (wo_load 33 (.tmp 3) (pt k2 0) (.agg #[.bool bv, .int .u64 (l0 (m)), .int .u64 (l1 (m)), .int .u64 (l2 (m)), .int .u64 (l3 (m)), .int .i64 (t)]) rfl rfl (run_row Q2 33 0 6 _ rfl Try.underlying33 rfl sz40) (hK _ (Mo.refl _))))
  ·exact og_eq _ rfl (fun f wf hq hd K hK => go_run rfl (wo_mv (.tmp 7) (.int .i64 (S)) (fun _ => rfl) rfl (hK _ (Mo.refl _))))
  ·exact og_eq _ rfl (fun f wf hq hd K hK => go_run rfl (wo_call 48 [(.tmp 25), (.tmp 26)] _ [.agg #[.bool bv, .int .u64 (l0 (m)), .int .u64 (l1 (m)), .int .u64 (l2 (m)), .int .u64 (l3 (m)), .int .i64 (t)], .int .i64 (S)] (.agg (dwa (m * 10 ^ j))) rfl (li2 (hd 3 rfl) (hd 4 rfl)) (fun _ _ => by kernel_rfl) (lift_x bv m t S j _ hm0 hm hj (by omega)) hK))
  ·exact og_new [.int .u64 0, .int .u64 0, .int .u64 0, .int .u64 0, .int .u64 0, .int .u64 0, .int .u64 0, .int .u64 0] rfl (fun f wf hq hd K hK => go_run rfl (wo_alloc 74 #[.int .u64 0, .int .u64 0, .int .u64 0, .int .u64 0, .int .u64 0, .int .u64 0, .int .u64 0, .int .u64 0] rfl (fun _ => by kernel_rfl) hK))
  ·exact og_new [.int .u64 0, .int .u64 0, .int .u64 0, .int .u64 0, .int .u64 0, .int .u64 0, .int .u64 0, .int .u64 0] rfl (fun f wf hq hd K hK => go_run rfl (wo_alloc 74 #[.int .u64 0, .int .u64 0, .int .u64 0, .int .u64 0, .int .u64 0, .int .u64 0, .int .u64 0, .int .u64 0] rfl (fun _ => by kernel_rfl) hK))
 intro kf5 w5 hq hR hne
 obtain ⟨N_k4, Q4⟩ := hR 6 _ rfl rfl
 obtain ⟨N_k5, Q5⟩ := hR 7 _ rfl rfl
 have ne_k1_k4 : k1 ≠ (kf5 6) := by have := Q1.lt; omega
 have ne_k2_k4 : k2 ≠ (kf5 6) := by have := Q2.lt; omega
 have ne_k3_k4 : k3 ≠ (kf5 6) := by have := Q3.lt; omega
 have ne_k4_k5 := hne 6 7 rfl rfl rfl rfl (by decide)
 replace N_k4 := Nat.le_trans M.size N_k4
 have ne_k1_k5 : k1 ≠ (kf5 7) := by have := Q1.lt; omega
 have ne_k2_k5 : k2 ≠ (kf5 7) := by have := Q2.lt; omega
 have ne_k3_k5 : k3 ≠ (kf5 7) := by have := Q3.lt; omega
 replace N_k5 := Nat.le_trans M.size N_k5
 replace Q1 := Q1.mo hq
 replace Q2 := Q2.mo hq
 replace Q3 := Q3.mo hq
 replace M := M.trans hq
 clear hq hR hne
 refine wl_st 74 (.tmp 8) (.tmp 24) (kf5 6) 0 (dwa (n * 10 ^ i)) _ (dwa (n * 10 ^ i)).toList Q4 rfl rfl rfl rfl rfl sz81 rfl rfl rfl ?_
 intro w6 hS Qn
 replace Q4 := Qn
 clear Qn
 replace Q1 := hS.other _ _ ne_k1_k4 Q1
 replace Q2 := hS.other _ _ ne_k2_k4 Q2
 replace Q3 := hS.other _ _ ne_k3_k4 Q3
 replace Q5 := hS.other _ _ ne_k4_k5.symm Q5
 replace M := hS.mo _ N_k4 M
 clear hS
 refine wl_st 74 (.tmp 9) (.tmp 27) (kf5 7) 0 (dwa (m * 10 ^ j)) _ (dwa (m * 10 ^ j)).toList Q5 rfl rfl rfl rfl rfl sz81 rfl rfl rfl ?_
 intro w7 hS Qn
 replace Q5 := Qn
 clear Qn
 replace Q1 := hS.other _ _ ne_k1_k5 Q1
 replace Q2 := hS.other _ _ ne_k2_k5 Q2
 replace Q3 := hS.other _ _ ne_k3_k5 Q3
 replace Q4 := hS.other _ _ ne_k4_k5 Q4
 replace M := hS.mo _ N_k5 M
 clear hS
 refine w_nil (xn_then (w_seq (w_seq (w_reg ?_))))
 refine wl_f 33 0 (.tmp 2) (pt k1 0) (pt k1 0) ?_
 refine wl_l 4 (.tmp 28) (pt k1 0) (.bool bu) (run_one Q1 4 0 rfl Try.underlying4 rfl) ?_
 refine wl_f 33 0 (.tmp 3) (pt k2 0) (pt k2 0) ?_
 refine wl_l 4 (.tmp 30) (pt k2 0) (.bool bv) (run_one Q2 4 0 rfl Try.underlying4 rfl) ?_
 refine wl_b .eql 4 (.tmp 29) (.tmp 31) (.bool bu) (.bool bv) (.bool false) (eqb_run hb _ _ _) ?_
 refine w_nil (xn_then (w_condF rfl (w_skip (xn_then (w_seq (w_seq (w_reg ?_)))))))
 refine wl_l 74 (.tmp 8) (pt (kf5 6) 0) (.agg (dwa (n * 10 ^ i))) (run_row Q4 74 0 8 (dwa (n * 10 ^ i)).toList rfl Try.underlying74 rfl sz81) ?_
 refine wl_l 74 (.tmp 9) (pt (kf5 7) 0) (.agg (dwa (m * 10 ^ j))) (run_row Q5 74 0 8 (dwa (m * 10 ^ j)).toList rfl Try.underlying74 rfl sz81) ?_
 refine wl_call 47 [(.tmp 42), (.tmp 43)] _ [.agg (dwa (n * 10 ^ i)), .agg (dwa (m * 10 ^ j))] (.int .i64 (cm (n * 10 ^ i) (m * 10 ^ j))) rfl rfl (fun _ _ => by kernel_rfl) (cmpDouble_x (n * 10 ^ i) (m * 10 ^ j) _ bX.1 bX.2 bY.1 bY.2) rfl ?_
 intro w8 hq
 replace Q1 := Q1.mo hq
 replace Q2 := Q2.mo hq
 replace Q3 := Q3.mo hq
 replace Q4 := Q4.mo hq
 replace Q5 := Q5.mo hq
 replace M := M.trans hq
 clear hq
 refine wl_b .lss 3 (.tmp 44) (.const (.int .i64 (0))) (.int .i64 (cm (n * 10 ^ i) (m * 10 ^ j))) (.int .i64 (0)) (.bool true) (lss_run hc _ _ _) ?_
 refine w_nil (xn_then (w_condT rfl (w_seq ?_)))
 refine w_any 9 [.inl (pt k2 0), .inl (.bool bv), .inl (.agg (dwa (m * 10 ^ j))), .inl (.agg (dwa (n * 10 ^ i))), .inl (.agg (dwa (m * 10 ^ j - n * 10 ^ i))), .inl (.int .i64 (S)), .inl (.tuple #[.agg #[d0, d1, d2, d3, d4, d5], .int .i64 e]), .inl (.agg #[d0, d1, d2, d3, d4, d5]), .inl (.int .i64 e)] [] (by kernel_rfl) (by kernel_rfl) (by kernel_rfl) (by kernel_rfl) rfl (by kernel_rfl) (by kernel_rfl) late_nil ?_ ?_ ?_
 ·exact Ds.none rfl
 ·refine ea_cons ?_ (ea_cons ?_ (ea_cons ?_ (ea_cons ?_ (ea_cons ?_ (ea_cons ?_ (ea_cons ?_ (ea_cons ?_ (ea_cons ?_ (ea_nil)))))))))
  ·exact og_eq _ rfl (fun f wf hq hd K hK => go_run rfl (wo_un (fun v => Instr.fieldAt 33 v 0) (.tmp 3) (pt k2 0) (pt k2 0) (fun _ => rfl) rfl (by kernel_rfl) (hK _ (Mo.refl _))))
  ·exact og_eq _ rfl (fun f wf hq hd K hK => have Q2 := Q2.mo hq; go_run rfl (wo_load 4 (.tmp 46) (pt k2 0) (.bool bv) rfl (hd 0 rfl) (run_one Q2 4 0 rfl Try.underlying4 rfl) (hK _ (Mo.refl _))))
  ·exact og_eq _ rfl (fun f wf hq hd K hK => have Q5 := Q5.mo hq; go_run rfl (wo_load 74 (.tmp 9) (pt (kf5 7) 0) (.agg (dwa (m * 10 ^ j))) rfl rfl (run_row Q5 74 0 8 (dwa (m * 10 ^ j)).toList rfl Try.underlying74 rfl sz81) (hK _ (Mo.refl _))))
  ·exact og_eq _ rfl (fun f wf hq hd K hK => have Q4 := Q4.mo hq; go_run rfl (wo_load 74 (.tmp 8) (pt (kf5 6) 0) (.agg (dwa (n * 10 ^ i))) rfl rfl (run_row Q4 74 0 8 (dwa (n * 10 ^ i)).toList rfl Try.underlying74 rfl sz81) (hK _ (Mo.refl _))))
  ·exact og_eq _ rfl (fun f wf hq hd K hK => go_run rfl (wo_call 74 [(.tmp 48), (.tmp 49)] _ [.agg (dwa (m * 10 ^ j)), .agg (dwa (n * 10 ^ i))] (.agg (dwa (m * 10 ^ j - n * 10 ^ i))) rfl (li2 (hd 2 rfl) (hd 3 rfl)) (fun _ _ => by kernel_rfl) (subDouble_x (m * 10 ^ j) (n * 10 ^ i) _ bY.1 bY.2 bX.1 bX.2) hK))
  ·exact og_eq _ rfl (fun f wf hq hd K hK => go_run rfl (wo_mv (.tmp 7) (.int .i64 (S)) (fun _ => rfl) rfl (hK _ (Mo.refl _))))
  ·exact og_eq _ rfl (fun f wf hq hd K hK => go_run rfl (wo_call 72 [(.tmp 47), (.tmp 50), (.tmp 51)] _ [.bool bv, .agg (dwa (m * 10 ^ j - n * 10 ^ i)), .int .i64 (S)] (.tuple #[.agg #[d0, d1, d2, d3, d4, d5], .int .i64 e]) rfl (li3 (hd 1 rfl) (hd 4 rfl) (hd 5 rfl)) (fun _ _ => by kernel_rfl) (hfit _) hK))
  ·exact og_eq _ rfl (fun f wf hq hd K hK => go_run rfl (wo_un (fun v => Instr.extract v 0) (.tmp 52) (.tuple #[.agg #[d0, d1, d2, d3, d4, d5], .int .i64 e]) (.agg #[d0, d1, d2, d3, d4, d5]) (fun _ => rfl) (hd 6 rfl) (by kernel_rfl) (hK _ (Mo.refl _))))
  ·exact og_eq _ rfl (fun f wf hq hd K hK => go_run rfl (wo_un (fun v => Instr.extract v 1) (.tmp 52) (.tuple #[.agg #[d0, d1, d2, d3, d4, d5], .int .i64 e]) (.int .i64 e) (fun _ => rfl) (hd 6 rfl) (by kernel_rfl) (hK _ (Mo.refl _))))
 intro kf9 w9 hq hR hne
 replace Q1 := Q1.mo hq
 replace Q2 := Q2.mo hq
 replace Q3 := Q3.mo hq
 replace Q4 := Q4.mo hq
 replace Q5 := Q5.mo hq
 replace M := M.trans hq
 clear hq hR hne
 refine wl_st 33 (.tmp 4) (.tmp 53) k3 0 #[d0, d1, d2, d3, d4, d5] _ [d0, d1, d2, d3, d4, d5] Q3 rfl rfl rfl rfl rfl sz40 hd rfl rfl ?_
 intro w10 hS Qn
 replace Q3 := Qn
 clear Qn
 replace Q1 := hS.other _ _ ne_k1_k3 Q1
 replace Q2 := hS.other _ _ ne_k2_k3 Q2
 replace Q4 := hS.other _ _ ne_k3_k4.symm Q4
 replace Q5 := hS.other _ _ ne_k3_k5.symm Q5
 replace M := hS.mo _ N_k3 M
 clear hS
 refine wl_m (.tmp 54) (.int .i64 e) ?_
 refine w_nil (xn_then (w_ret (xr_then ?_)))
 exact w_ret2 _ _ (.agg #[d0, d1, d2, d3, d4, d5]) (.int .i64 e) rfl ⟨k3, rfl, (run_row Q3 33 0 6 _ rfl Try.underlying33 rfl sz40)⟩ rfl ⟨rfl, M⟩
theorem add_ge (bu bv : Bool) (n m s t S : Int) (i j : Nat) (d0 d1 d2 d3 d4 d5 : Value) (e : Int) (w : World) (hn0 : 0 ≤ n) (hn : n < MM) (hm0 : 0 ≤ m) (hm : m < MM) (h1 : ck bu n s = 0) (h2 : ck bv m t = 0) (hS : max s t = S) (hi : S - s = (i : Int)) (hj : S - t = (j : Int)) (hi7 : i ≤ 18) (hj7 : j ≤ 18) (hb : (bu == bv) = false) (hc : decide (cm (n * 10 ^ i) (m * 10 ^ j) < 0) = false)
  (hd : [d0, d1, d2, d3, d4, d5].all (·.oneCell') = true)
  (hfit : ∀ w, Calls Try.prog 72 #[.bool bu, dx (n * 10 ^ i - m * 10 ^ j), .int .i64 S] w fun e' w' => e' = .returned (.tuple #[.agg #[d0, d1, d2, d3, d4, d5], .int .i64 e]) ∧ Mo w w') :
  Calls Try.prog 52 #[dc bu n s, dc bv m t] w fun e' w' => e' = .returned (.tuple #[.agg #[d0, d1, d2, d3, d4, d5], .int .i64 e]) ∧ Mo w w' := by
 have bX := lifted_bd hn0 hn (i := i) (by omega)
 have bY := lifted_bd hm0 hm (i := j) (by omega)
 refine w_enter 64 Try.func52 Try.ntmps52 rfl rfl ?_
 have M : Mo w w := Mo.refl _
 refine w_seq (w_reg ?_)
 refine wl_box 33 (.tmp 0) _ (#[.bool bu, .int .u64 (l0 (n)), .int .u64 (l1 (n)), .int .u64 (l2 (n)), .int .u64 (l3 (n)), .int .i64 (s)]) rfl rfl (fun _ => by kernel_rfl) rfl ?_
 intro k1 w1 hk hz hq Q1
 have N_k1 : w.heap.size ≤ k1 := by have := M.size; omega
 replace M := M.trans hq
 clear hk hz hq
 refine wl_box 33 (.tmp 1) _ (#[.bool bv, .int .u64 (l0 (m)), .int .u64 (l1 (m)), .int .u64 (l2 (m)), .int .u64 (l3 (m)), .int .i64 (t)]) rfl rfl (fun _ => by kernel_rfl) rfl ?_
 intro k2 w2 hk hz hq Q2
 have ne_k1_k2 : k1 ≠ k2 := by have := Q1.lt; omega
 have N_k2 : w.heap.size ≤ k2 := by have := M.size; omega
 replace Q1 := Q1.mo hq
 replace M := M.trans hq
 clear hk hz hq
 refine wl_alloc 33 #[.bool false, .int .u64 0, .int .u64 0, .int .u64 0, .int .u64 0, .int .i64 0] rfl (fun _ => by kernel_rfl) rfl ?_
 intro k3 w3 hk hz hq Q3
 have ne_k1_k3 : k1 ≠ k3 := by have := Q1.lt; omega
 have ne_k2_k3 : k2 ≠ k3 := by have := Q2.lt; omega
 have N_k3 : w.heap.size ≤ k3 := by have := M.size; omega
 replace Q1 := Q1.mo hq
 replace Q2 := Q2.mo hq
 replace M := M.trans hq
 clear hk hz hq
 refine wl_m (.const (.int .i64 (0))) (.int .i64 (0)) ?_
 refine w_nil (xn_then (w_seq (w_seq (w_reg ?_))))
 refine wl_l 33 (.tmp 2) (pt k1 0) (.agg #[.bool bu, .int .u64 (l0 (n)), .int .u64 (l1 (n)), .int .u64 (l2 (n)), .int .u64 (l3 (n)), .int .i64 (s)]) (run_row Q1 33 0 6 _ rfl Try.underlying33 rfl sz40) ?_
 refine wl_l 33 (.tmp 3) (pt k2 0) (.agg #[.bool bv, .int .u64 (l0 (m)), .int .u64 (l1 (m)), .int .u64 (l2 (m)), .int .u64 (l3 (m)), .int .i64 (t)]) (run_row Q2 33 0 6 _ rfl Try.underlying33 rfl sz40) ?_
 refine wl_call 44 [(.tmp 10), (.tmp 11)] _ [.agg #[.bool bu, .int .u64 (l0 (n)), .int .u64 (l1 (n)), .int .u64 (l2 (n)), .int .u64 (l3 (n)), .int .i64 (s)], .agg #[.bool bv, .int .u64 (l0 (m)), .int .u64 (l1 (m)), .int .u64 (l2 (m)), .int .u64 (l3 (m)), .int .i64 (t)]] (.int .i64 (0)) rfl rfl (fun _ _ => by kernel_rfl) (both_ok bu n s bv m t _ hn0 hn hm0 hm h1 h2) rfl ?_
 intro w4 hq
 replace Q1 := Q1.mo hq
 replace Q2 := Q2.mo hq
 replace Q3 := Q3.mo hq
 replace M := M.trans hq
 clear hq
 refine wl_m (.tmp 12) (.int .i64 (0)) ?_
 refine w_nil (xn_then (w_seq (w_reg ?_)))
 refine wl_m (.tmp 6) (.int .i64 (0)) ?_
 refine wl_b .neq 26 (.tmp 13) (.const (.int .i64 (0))) (.int .i64 (0)) (.int .i64 (0)) (.bool false) (by kernel_rfl) ?_
 refine w_nil (xn_then (w_condF rfl (w_skip (xn_then (w_seq (w_reg ?_))))))
 refine wl_f 33 2 (.tmp 2) (pt k1 0) (pt k1 5) ?_
 refine wl_l 3 (.tmp 17) (pt k1 5) (.int .i64 (s)) (run_one Q1 3 5 rfl Try.underlying3 rfl) ?_
 refine wl_f 33 2 (.tmp 3) (pt k2 0) (pt k2 5) ?_
 refine wl_l 3 (.tmp 19) (pt k2 5) (.int .i64 (t)) (run_one Q2 3 5 rfl Try.underlying3 rfl) ?_
 refine wl_val (.int .i64 (S)) (by rw [← hS]; exact max_run _ _ _ _ _ rfl rfl _ _ _ _ _ _) rfl ?_
 refine wl_m (.tmp 21) (.int .i64 (S)) ?_
 refine w_nil (xn_then (w_seq ?_))
 refine w_any 8 [.inl (.agg #[.bool bu, .int .u64 (l0 (n)), .int .u64 (l1 (n)), .int .u64 (l2 (n)), .int .u64 (l3 (n)), .int .i64 (s)]), .inl (.int .i64 (S)), .inl (.agg (dwa (n * 10 ^ i))), .inl (.agg #[.bool bv, .int .u64 (l0 (m)), .int .u64 (l1 (m)), .int .u64 (l2 (m)), .int .u64 (l3 (m)), .int .i64 (t)]), .inl (.int .i64 (S)), .inl (.agg (dwa (m * 10 ^ j))), .inr [.int .u64 0, .int .u64 0, .int .u64 0, .int .u64 0, .int .u64 0, .int .u64 0, .int .u64 0, .int .u64 0], .inr [.int .u64 0, .int .u64 0, .int .u64 0, .int .u64 0, .int .u64 0, .int .u64 0, .int .u64 0, .int .u64 0]] [] (by kernel_rfl) (by kernel_rfl) (by kernel_rfl) (by kernel_rfl) rfl (by kernel_rfl) (by kernel_rfl) late_nil ?_ ?_ ?_
 ·exact Ds.start (by kernel_rfl)
 ·refine ea_cons ?_ (ea_cons ?_ (ea_cons ?_ (ea_cons ?_ (ea_cons ?_ (ea_cons ?_ (ea_cons ?_ (ea_cons ?_ (ea_nil))))))))
  ·exact og_eq _ rfl (fun f wf hq hd K hK => have Q1 := Q1.mo hq; go_run rfl (wo_load 33 (.tmp 2) (pt k1 0) (.agg #[.bool bu, .int .u64 (l0 (n)), .int .u64 (l1 (n)), .int .u64 (l2 (n)), .int .u64 (l3 (n)), .int .i64 (s)]) rfl rfl (run_row Q1 33 0 6 _ rfl Try.underlying33 rfl sz40) (hK _ (Mo.refl _))))
  ·exact og_eq _ rfl (fun f wf hq hd K hK => go_run rfl (wo_mv (.tmp 7) (.int .i64 (S)) (fun _ => rfl) rfl (hK _ (Mo.refl _))))
  ·exact og_eq _ rfl (fun f wf hq hd K hK => go_run rfl (wo_call 48 [(.tmp 22), (.tmp 23)] _ [.agg #[.bool bu, .int .u64 (l0 (n)), .int .u64 (l1 (n)), .int .u64 (l2 (n)), .int .u64 (l3 (n)), .int .i64 (s)], .int .i64 (S)] (.agg (dwa (n * 10 ^ i))) rfl (li2 (hd 0 rfl) (hd 1 rfl)) (fun _ _ => by kernel_rfl) (lift_x bu n s S i _ hn0 hn hi (by omega)) hK))
  ·exact og_eq _ rfl (fun f wf hq hd K hK => have Q2 := Q2.mo hq; go_run rfl (wo_load 33 (.tmp 3) (pt k2 0) (.agg #[.bool bv, .int .u64 (l0 (m)), .int .u64 (l1 (m)), .int .u64 (l2 (m)), .int .u64 (l3 (m)), .int .i64 (t)]) rfl rfl (run_row Q2 33 0 6 _ rfl Try.underlying33 rfl sz40) (hK _ (Mo.refl _))))
  ·exact og_eq _ rfl (fun f wf hq hd K hK => go_run rfl (wo_mv (.tmp 7) (.int .i64 (S)) (fun _ => rfl) rfl (hK _ (Mo.refl _))))
  ·exact og_eq _ rfl (fun f wf hq hd K hK => go_run rfl (wo_call 48 [(.tmp 25), (.tmp 26)] _ [.agg #[.bool bv, .int .u64 (l0 (m)), .int .u64 (l1 (m)), .int .u64 (l2 (m)), .int .u64 (l3 (m)), .int .i64 (t)], .int .i64 (S)] (.agg (dwa (m * 10 ^ j))) rfl (li2 (hd 3 rfl) (hd 4 rfl)) (fun _ _ => by kernel_rfl) (lift_x bv m t S j _ hm0 hm hj (by omega)) hK))
  ·exact og_new [.int .u64 0, .int .u64 0, .int .u64 0, .int .u64 0, .int .u64 0, .int .u64 0, .int .u64 0, .int .u64 0] rfl (fun f wf hq hd K hK => go_run rfl (wo_alloc 74 #[.int .u64 0, .int .u64 0, .int .u64 0, .int .u64 0, .int .u64 0, .int .u64 0, .int .u64 0, .int .u64 0] rfl (fun _ => by kernel_rfl) hK))
  ·exact og_new [.int .u64 0, .int .u64 0, .int .u64 0, .int .u64 0, .int .u64 0, .int .u64 0, .int .u64 0, .int .u64 0] rfl (fun f wf hq hd K hK => go_run rfl (wo_alloc 74 #[.int .u64 0, .int .u64 0, .int .u64 0, .int .u64 0, .int .u64 0, .int .u64 0, .int .u64 0, .int .u64 0] rfl (fun _ => by kernel_rfl) hK))
 intro kf5 w5 hq hR hne
 obtain ⟨N_k4, Q4⟩ := hR 6 _ rfl rfl
 obtain ⟨N_k5, Q5⟩ := hR 7 _ rfl rfl
 have ne_k1_k4 : k1 ≠ (kf5 6) := by have := Q1.lt; omega
 have ne_k2_k4 : k2 ≠ (kf5 6) := by have := Q2.lt; omega
 have ne_k3_k4 : k3 ≠ (kf5 6) := by have := Q3.lt; omega
 have ne_k4_k5 := hne 6 7 rfl rfl rfl rfl (by decide)
 replace N_k4 := Nat.le_trans M.size N_k4
 have ne_k1_k5 : k1 ≠ (kf5 7) := by have := Q1.lt; omega
 have ne_k2_k5 : k2 ≠ (kf5 7) := by have := Q2.lt; omega
 have ne_k3_k5 : k3 ≠ (kf5 7) := by have := Q3.lt; omega
 replace N_k5 := Nat.le_trans M.size N_k5
 replace Q1 := Q1.mo hq
 replace Q2 := Q2.mo hq
 replace Q3 := Q3.mo hq
 replace M := M.trans hq
 clear hq hR hne
 refine wl_st 74 (.tmp 8) (.tmp 24) (kf5 6) 0 (dwa (n * 10 ^ i)) _ (dwa (n * 10 ^ i)).toList Q4 rfl rfl rfl rfl rfl sz81 rfl rfl rfl ?_
 intro w6 hS Qn
 replace Q4 := Qn
 clear Qn
 replace Q1 := hS.other _ _ ne_k1_k4 Q1
 replace Q2 := hS.other _ _ ne_k2_k4 Q2
 replace Q3 := hS.other _ _ ne_k3_k4 Q3
 replace Q5 := hS.other _ _ ne_k4_k5.symm Q5
 replace M := hS.mo _ N_k4 M
 clear hS
 refine wl_st 74 (.tmp 9) (.tmp 27) (kf5 7) 0 (dwa (m * 10 ^ j)) _ (dwa (m * 10 ^ j)).toList Q5 rfl rfl rfl rfl rfl sz81 rfl rfl rfl ?_
 intro w7 hS Qn
 replace Q5 := Qn
 clear Qn
 replace Q1 := hS.other _ _ ne_k1_k5 Q1
 replace Q2 := hS.other _ _ ne_k2_k5 Q2
 replace Q3 := hS.other _ _ ne_k3_k5 Q3
 replace Q4 := hS.other _ _ ne_k4_k5 Q4
 replace M := hS.mo _ N_k5 M
 clear hS
 refine w_nil (xn_then (w_seq (w_seq (w_reg ?_))))
 refine wl_f 33 0 (.tmp 2) (pt k1 0) (pt k1 0) ?_
 refine wl_l 4 (.tmp 28) (pt k1 0) (.bool bu) (run_one Q1 4 0 rfl Try.underlying4 rfl) ?_
 refine wl_f 33 0 (.tmp 3) (pt k2 0) (pt k2 0) ?_
 refine wl_l 4 (.tmp 30) (pt k2 0) (.bool bv) (run_one Q2 4 0 rfl Try.underlying4 rfl) ?_
 refine wl_b .eql 4 (.tmp 29) (.tmp 31) (.bool bu) (.bool bv) (.bool false) (eqb_run hb _ _ _) ?_
 refine w_nil (xn_then (w_condF rfl (w_skip (xn_then (w_seq (w_seq (w_reg ?_)))))))
 refine wl_l 74 (.tmp 8) (pt (kf5 6) 0) (.agg (dwa (n * 10 ^ i))) (run_row Q4 74 0 8 (dwa (n * 10 ^ i)).toList rfl Try.underlying74 rfl sz81) ?_
 refine wl_l 74 (.tmp 9) (pt (kf5 7) 0) (.agg (dwa (m * 10 ^ j))) (run_row Q5 74 0 8 (dwa (m * 10 ^ j)).toList rfl Try.underlying74 rfl sz81) ?_
 refine wl_call 47 [(.tmp 42), (.tmp 43)] _ [.agg (dwa (n * 10 ^ i)), .agg (dwa (m * 10 ^ j))] (.int .i64 (cm (n * 10 ^ i) (m * 10 ^ j))) rfl rfl (fun _ _ => by kernel_rfl) (cmpDouble_x (n * 10 ^ i) (m * 10 ^ j) _ bX.1 bX.2 bY.1 bY.2) rfl ?_
 intro w8 hq
 replace Q1 := Q1.mo hq
 replace Q2 := Q2.mo hq
 replace Q3 := Q3.mo hq
 replace Q4 := Q4.mo hq
 replace Q5 := Q5.mo hq
 replace M := M.trans hq
 clear hq
 refine wl_b .lss 3 (.tmp 44) (.const (.int .i64 (0))) (.int .i64 (cm (n * 10 ^ i) (m * 10 ^ j))) (.int .i64 (0)) (.bool false) (lss_run hc _ _ _) ?_
 refine w_nil (xn_then (w_condF rfl (w_skip (xn_then (w_seq ?_)))))
 refine w_any 9 [.inl (pt k1 0), .inl (.bool bu), .inl (.agg (dwa (n * 10 ^ i))), .inl (.agg (dwa (m * 10 ^ j))), .inl (.agg (dwa (n * 10 ^ i - m * 10 ^ j))), .inl (.int .i64 (S)), .inl (.tuple #[.agg #[d0, d1, d2, d3, d4, d5], .int .i64 e]), .inl (.agg #[d0, d1, d2, d3, d4, d5]), .inl (.int .i64 e)] [] (by kernel_rfl) (by kernel_rfl) (by kernel_rfl) (by kernel_rfl) rfl (by kernel_rfl) (by kernel_rfl) late_nil ?_ ?_ ?_
 ·exact Ds.none rfl
 ·refine ea_cons ?_ (ea_cons ?_ (ea_cons ?_ (ea_cons ?_ (ea_cons ?_ (ea_cons ?_ (ea_cons ?_ (ea_cons ?_ (ea_cons ?_ (ea_nil)))))))))
  ·exact og_eq _ rfl (fun f wf hq hd K hK => go_run rfl (wo_un (fun v => Instr.fieldAt 33 v 0) (.tmp 2) (pt k1 0) (pt k1 0) (fun _ => rfl) rfl (by kernel_rfl) (hK _ (Mo.refl _))))
  ·exact og_eq _ rfl (fun f wf hq hd K hK => have Q1 := Q1.mo hq; go_run rfl (wo_load 4 (.tmp 55) (pt k1 0) (.bool bu) rfl (hd 0 rfl) (run_one Q1 4 0 rfl Try.underlying4 rfl) (hK _ (Mo.refl _))))
  ·exact og_eq _ rfl (fun f wf hq hd K hK => have Q4 := Q4.mo hq; go_run rfl (wo_load 74 (.tmp 8) (pt (kf5 6) 0) (.agg (dwa (n * 10 ^ i))) rfl rfl (run_row Q4 74 0 8 (dwa (n * 10 ^ i)).toList rfl Try.underlying74 rfl sz81) (hK _ (Mo.refl _))))
  ·exact og_eq _ rfl (fun f wf hq hd K hK => have Q5 := Q5.mo hq; go_run rfl (wo_load 74 (.tmp 9) (pt (kf5 7) 0) (.agg (dwa (m * 10 ^ j))) rfl rfl (run_row Q5 74 0 8 (dwa (m * 10 ^ j)).toList rfl Try.underlying74 rfl sz81) (hK _ (Mo.refl _))))
  ·exact og_eq _ rfl (fun f wf hq hd K hK => go_run rfl (wo_call 74 [(.tmp 57), (.tmp 58)] _ [.agg (dwa (n * 10 ^ i)), .agg (dwa (m * 10 ^ j))] (.agg (dwa (n * 10 ^ i - m * 10 ^ j))) rfl (li2 (hd 2 rfl) (hd 3 rfl)) (fun _ _ => by kernel_rfl) (subDouble_x (n * 10 ^ i) (m * 10 ^ j) _ bX.1 bX.2 bY.1 bY.2) hK))
  ·exact og_eq _ rfl (fun f wf hq hd K hK => go_run rfl (wo_mv (.tmp 7) (.int .i64 (S)) (fun _ => rfl) rfl (hK _ (Mo.refl _))))
  ·exact og_eq _ rfl (fun f wf hq hd K hK => go_run rfl (wo_call 72 [(.tmp 56), (.tmp 59), (.tmp 60)] _ [.bool bu, .agg (dwa (n * 10 ^ i - m * 10 ^ j)), .int .i64 (S)] (.tuple #[.agg #[d0, d1, d2, d3, d4, d5], .int .i64 e]) rfl (li3 (hd 1 rfl) (hd 4 rfl) (hd 5 rfl)) (fun _ _ => by kernel_rfl) (hfit _) hK))
  ·exact og_eq _ rfl (fun f wf hq hd K hK => go_run rfl (wo_un (fun v => Instr.extract v 0) (.tmp 61) (.tuple #[.agg #[d0, d1, d2, d3, d4, d5], .int .i64 e]) (.agg #[d0, d1, d2, d3, d4, d5]) (fun _ => rfl) (hd 6 rfl) (by kernel_rfl) (hK _ (Mo.refl _))))
  ·exact og_eq _ rfl (fun f wf hq hd K hK => go_run rfl (wo_un (fun v => Instr.extract v 1) (.tmp 61) (.tuple #[.agg #[d0, d1, d2, d3, d4, d5], .int .i64 e]) (.int .i64 e) (fun _ => rfl) (hd 6 rfl) (by kernel_rfl) (hK _ (Mo.refl _))))
 intro kf9 w9 hq hR hne
 replace Q1 := Q1.mo hq
 replace Q2 := Q2.mo hq
 replace Q3 := Q3.mo hq
 replace Q4 := Q4.mo hq
 replace Q5 := Q5.mo hq
 replace M := M.trans hq
 clear hq hR hne
 refine wl_st 33 (.tmp 4) (.tmp 62) k3 0 #[d0, d1, d2, d3, d4, d5] _ [d0, d1, d2, d3, d4, d5] Q3 rfl rfl rfl rfl rfl sz40 hd rfl rfl ?_
 intro w10 hS Qn
 replace Q3 := Qn
 clear Qn
 replace Q1 := hS.other _ _ ne_k1_k3 Q1
 replace Q2 := hS.other _ _ ne_k2_k3 Q2
 replace Q4 := hS.other _ _ ne_k3_k4.symm Q4
 replace Q5 := hS.other _ _ ne_k3_k5.symm Q5
 replace M := hS.mo _ N_k3 M
 clear hS
 refine wl_m (.tmp 63) (.int .i64 e) ?_
 refine w_nil (xn_then (w_ret ?_))
 exact w_ret2 _ _ (.agg #[d0, d1, d2, d3, d4, d5]) (.int .i64 e) rfl ⟨k3, rfl, (run_row Q3 33 0 6 _ rfl Try.underlying33 rfl sz40)⟩ rfl ⟨rfl, M⟩
end Go.Proofs.Ythehmmhnacomkaa

