/-
  A part of the proof.
-/
import Derived.Test.YthehmmhnacomkaaKa18
import Derived.Test.YthehmmhnacomkaaKa17
import Derived.Test.YthehmmhnacomkaaKShapes3
import Derived.Test.YthehmmhnacomkaaKa16
import Derived.Test.YthehmmhnacomkaaKShapes2
import Derived.Test.YthehmmhnacomkaaKa15
import Derived.Test.YthehmmhnacomkaaKShapes1
import Derived.Test.YthehmmhnacomkaaKa14
import Derived.Test.YthehmmhnacomkaaKa11
import Derived.Test.YthehmmhnacomkaaKa10
import Derived.Test.YthehmmhnacomkaaKa3
import Derived.Test.YthehmmhnacomkaaKa2
import Derived.Test.YthehmmhnacomkaaKa1
import Derived.RegionTactic
import Derived.Test.YthehmmhnacomkaaProg
import Derived.WalkKit
import Derived.WalkSpells
import Derived.Handy
import Derived.BigQuiet
import Derived.Deep.RegionHeld3
import Derived.Deep.MidRow
import Derived.BigCall
import Derived.Test.YthehmmhnacomkaaKa9
import Derived.Test.YthehmmhnacomkaaKa8
import Derived.Test.YthehmmhnacomkaaKa5
import Derived.Test.YthehmmhnacomkaaKa4
import Derived.Shelf.Small.Bits
import Derived.Shelf.Strconv.Itoa0
import Derived.Shelf.Bits.Mul64
import Derived.Deep.CutBlock
import Derived.Deep.CutRange
import Derived.Test.YthehmmhnacomkaaKa7
import Derived.Test.YthehmmhnacomkaaKa6
import Derived.ChangeKeysEq
import Derived.ScopeJumps
import Derived.WalkMore
import Derived.Laws.StructEq
import Derived.Test.YthehmmhnacomkaaKa13
import Derived.Test.YthehmmhnacomkaaKa12
import Derived.Lib.CutLaws
import Derived.Maps.OwnSet
import Derived.WalkArith
import Derived.StringKeys
import Derived.ProofKit
import Derived.OpenShut
import Derived.ChangeArms
import Derived.Deep.Slices
import Derived.ReadAgain
import Derived.WideKeyArgs
import Derived.Maps.AppendAt
import Derived.Test.YthehmmhnacomkaaKa19
import Derived.Test.YthehmmhnacomkaaKa20
namespace Go.Proofs.Ythehmmhnacomkaa
open Go.RowKit D
theorem qck_n {x : Tb} (w : World) (hT : LT w x) : Calls Try.prog 10 #[ .agg (x.cells).toArray] w fun e9 w' => e9 = .returned (.int .i64 (chkT x.st)) ∧ Mo w w' := by
 refine w_enter 64 Try.func10 Try.ntmps10 rfl rfl ?_
 have M : Mo w w := Mo.refl _
 refine w_seq (w_reg ?_)
 refine wl_box 24 (.tmp 0) _ (((x.cells).toArray)) rfl rfl (fun _ => by kernel_rfl) rfl ?_
 intro k1 u1 hk hz hq Q1
 have N_k1 : w.heap.size ≤ k1 := by have := M.size; omega
 replace M := M.trans hq
 clear hk hz hq
 refine wl_m (.const (.int .i64 (0))) (.int .i64 (0)) ?_
 refine w_nil (xn_then (w_seq (w_seq (w_reg ?_))))
 refine wl_f 24 1 (.tmp 1) (pt k1 0) (pt k1 1) ?_
 refine wl_l 22 (.tmp 6) (pt k1 1) (.slice x.pa x.st.length x.cap) (run_one Q1 22 1 rfl Try.underlying22 rfl) ?_
 refine wl_val (.int .i64 ((x.st.length : Nat) : Int)) (len22 _ _ _ _ _ (by exact rfl) _ _ _ _ _ _) rfl ?_
 cases hf0 : decide (32 < x.st.length) with
 | true =>
  have hf0p := of_decide_eq_true hf0
  refine wl_b .gtr 3 (.tmp 8) (.const (.int .i64 (32))) (.int .i64 ((x.st.length : Nat) : Int)) (.int .i64 (32)) (.bool true) (gtN hf0 _ _ _) ?_
  refine w_nil (xn_then (w_condT rfl (w_seq (w_reg ?_))))
  refine wl_m (.const (.int .i64 (3))) (.int .i64 (3)) ?_
  refine w_nil (xn_then (w_ret (xr_then ?_)))
  exact w_ret1 _ (.int .i64 (3)) rfl rfl ⟨congrArg (fun v => Ending.returned (.int .i64 v)) (Eq.symm (by unfold chkT; rw [if_pos hf0p])), M⟩
 | false =>
  have hf0p := of_decide_eq_false hf0
  refine wl_b .gtr 3 (.tmp 8) (.const (.int .i64 (32))) (.int .i64 ((x.st.length : Nat) : Int)) (.int .i64 (32)) (.bool false) (gtN hf0 _ _ _) ?_
  refine w_nil (xn_then (w_condF rfl (w_skip (xn_then (w_seq (w_seq (w_reg ?_)))))))
  refine wl_f 24 1 (.tmp 1) (pt k1 0) (pt k1 1) ?_
  refine wl_l 22 (.tmp 10) (pt k1 1) (.slice x.pa x.st.length x.cap) (run_one Q1 22 1 rfl Try.underlying22 rfl) ?_
  refine wl_val (.int .i64 ((x.st.length : Nat) : Int)) (len22 _ _ _ _ _ (by exact rfl) _ _ _ _ _ _) rfl ?_
  cases hf1 : decide (((x.st.length : Nat) : Int) = 0) with
  | true =>
   have hf1p := of_decide_eq_true hf1
   refine wl_b .eql 3 (.tmp 12) (.const (.int .i64 (0))) (.int .i64 ((x.st.length : Nat) : Int)) (.int .i64 (0)) (.bool true) (eq3 hf1 _ _ _) ?_
   refine w_nil (xn_then (w_condT rfl (w_seq (w_reg ?_))))
   refine wl_m (.const (.int .i64 (140))) (.int .i64 (140)) ?_
   refine w_nil (xn_then (w_ret (xr_then ?_)))
   exact w_ret1 _ (.int .i64 (140)) rfl rfl ⟨congrArg (fun v => Ending.returned (.int .i64 v)) (Eq.symm (by unfold chkT; rw [if_neg (by omega), if_pos (by omega)])), M⟩
  | false =>
   have hf1p := of_decide_eq_false hf1
   refine wl_b .eql 3 (.tmp 12) (.const (.int .i64 (0))) (.int .i64 ((x.st.length : Nat) : Int)) (.int .i64 (0)) (.bool false) (eq3 hf1 _ _ _) ?_
   refine w_nil (xn_then (w_condF rfl (w_skip (xn_then (w_seq (w_seq (w_reg ?_)))))))
   refine wl_m (.const (.int .i64 (0))) (.int .i64 (0)) ?_
   refine w_nil (xn_then (w_block ?_))
   have hz9 := hT.sl.1
   unfold maxLen at hz9
   refine w_loop (fun m l w1 => ∃ i : Nat, m = x.st.length - i ∧ i ≤ x.st.length ∧ look l 1 = pt k1 0 ∧ look l 3 = .int .i64 ((i : Nat) : Int) ∧ At w1 k1 (x.cells) ∧ (∀ j < i, ∀ y, x.st[j]? = some y → okS y = true) ∧ Mo w w1) _ ⟨0, rfl, Nat.zero_le _, rfl, rfl, Q1, (fun j hj => absurd hj (Nat.not_lt_zero j)), M⟩ ?_
   clear Q1 M
   rintro m l40 wl40 ⟨i, rfl, hi, e40_1, e40_i, Q1, hok, M⟩
   by_cases hil : i < x.st.length
   ·skip
    have hid : decide (i < x.st.length) = true := decide_eq_true hil
    obtain ⟨y, hy⟩ := get_of_lt hil
    have hmy := List.mem_of_getElem? hy
    obtain ⟨bp, op, hpp, hRp⟩ := D.SL.rw hT.sl hy
    refine w_seq (w_seq (w_reg ?_))
    refine wl_mv (.tmp 3) (.int .i64 ((i : Nat) : Int)) (fun _ => rfl) e40_i rfl ?_
    refine wl_un (fun v => Instr.fieldAt 24 v 1) (.tmp 1) (pt k1 0) (pt k1 1) (fun _ => rfl) e40_1 (by kernel_rfl) rfl ?_
    refine wl_l 22 (.tmp 15) (pt k1 1) (.slice x.pa x.st.length x.cap) (run_one Q1 22 1 rfl Try.underlying22 rfl) ?_
    refine wl_val (.int .i64 ((x.st.length : Nat) : Int)) (len22 _ _ _ _ _ (by exact rfl) _ _ _ _ _ _) rfl ?_
    refine wl_b .lss 3 (.tmp 14) (.tmp 17) (.int .i64 ((i : Nat) : Int)) (.int .i64 ((x.st.length : Nat) : Int)) (.bool true) (ltN hid _ _ _) ?_
    refine w_nil (xn_then (w_condT rfl (w_skip (xn_then (w_seq (w_block (w_seq (w_reg ?_))))))))
    refine wl_un (fun v => Instr.fieldAt 24 v 1) (.tmp 1) (pt k1 0) (pt k1 1) (fun _ => rfl) e40_1 (by kernel_rfl) rfl ?_
    refine wl_l 22 (.tmp 21) (pt k1 1) (.slice x.pa x.st.length x.cap) (run_one Q1 22 1 rfl Try.underlying22 rfl) ?_
    refine wl_mv (.tmp 3) (.int .i64 ((i : Nat) : Int)) (fun _ => rfl) e40_i rfl ?_
    refine wl_bin (fun x y => Instr.indexAt 22 x y) (.tmp 22) (.tmp 23) (.slice x.pa x.st.length x.cap) (.int .i64 ((i : Nat) : Int)) (pt bp (op + i * 18)) (fun _ => rfl) rfl rfl (ix22 (i := i) hpp hil _) rfl ?_
    refine wl_l 45 (.tmp 24) (pt bp (op + i * 18)) (.agg (y.cells).toArray) (D.run_partR (hRp.mo M).at' 45 0 18 (y.cells) rfl Try.underlying45 rfl sz45) ?_
    refine wl_alloc 45 #[.bool false, .int .u64 0, .int .u64 0, .int .u64 0, .int .u64 0, .int .i64 0, .bool false, .int .u64 0, .int .u64 0, .int .u64 0, .int .u64 0, .int .i64 0, .bool false, .int .u64 0, .int .u64 0, .int .u64 0, .int .u64 0, .int .i64 0] rfl (fun _ => by kernel_rfl) rfl ?_
    intro k2 u41 hk hz hq Q2
    have ne_k1_k2 : k1 ≠ k2 := by have := Q1.lt; omega
    have N_k2 : w.heap.size ≤ k2 := by have := M.size; omega
    replace Q1 := Q1.mo hq
    replace M := M.trans hq
    clear hk hz hq
    refine wl_st 45 (.tmp 4) (.tmp 25) k2 0 ((y.cells).toArray) _ (y.cells) Q2 rfl rfl rfl rfl rfl sz45 rfl rfl rfl ?_
    intro u42 hS Qn
    replace Q2 := Qn
    clear Qn
    replace Q1 := hS.other _ _ ne_k1_k2 Q1
    replace M := hS.mo _ N_k2 M
    clear hS
    refine w_nil (xn_then (w_seq (w_reg ?_)))
    refine wl_f 45 0 (.tmp 4) (pt k2 0) (pt k2 0) ?_
    refine wl_l 33 (.tmp 26) (pt k2 0) (.agg #[.bool y.a.b, .int .u64 (l0 y.a.n), .int .u64 (l1 y.a.n), .int .u64 (l2 y.a.n), .int .u64 (l3 y.a.n), .int .i64 y.a.s]) (run_row Q2 33 0 6 _ rfl Try.underlying33 rfl sz33) ?_
    refine wl_call 23 [(.tmp 27)] _ [.agg #[.bool y.a.b, .int .u64 (l0 y.a.n), .int .u64 (l1 y.a.n), .int .u64 (l2 y.a.n), .int .u64 (l3 y.a.n), .int .i64 y.a.s]] (.int .i64 (y.a.er)) rfl rfl (fun _ _ => by kernel_rfl) (qchk_n (hT.ok y hmy).1 _) rfl ?_
    intro u43 hq
    replace Q1 := Q1.mo hq
    replace Q2 := Q2.mo hq
    replace M := M.trans hq
    clear hq
    cases hf30 : decide (y.a.er = 0) with
    | true =>
     have hf30p := of_decide_eq_true hf30
     refine wl_b .neq 26 (.tmp 28) (.const (.int .i64 (0))) (.int .i64 (y.a.er)) (.int .i64 (0)) (.bool false) (ne34 hf30 _ _ _) ?_
     refine wl_m (.tmp 29) (.bool false) ?_
     refine wl_f 45 1 (.tmp 4) (pt k2 0) (pt k2 6) ?_
     refine wl_l 33 (.tmp 31) (pt k2 6) (.agg #[.bool y.b.b, .int .u64 (l0 y.b.n), .int .u64 (l1 y.b.n), .int .u64 (l2 y.b.n), .int .u64 (l3 y.b.n), .int .i64 y.b.s]) (run_row Q2 33 6 6 _ rfl Try.underlying33 rfl sz33) ?_
     refine wl_call 23 [(.tmp 32)] _ [.agg #[.bool y.b.b, .int .u64 (l0 y.b.n), .int .u64 (l1 y.b.n), .int .u64 (l2 y.b.n), .int .u64 (l3 y.b.n), .int .i64 y.b.s]] (.int .i64 (y.b.er)) rfl rfl (fun _ _ => by kernel_rfl) (qchk_n (hT.ok y hmy).2.1 _) rfl ?_
     intro u44 hq
     replace Q1 := Q1.mo hq
     replace Q2 := Q2.mo hq
     replace M := M.trans hq
     clear hq
     cases hf31 : decide (y.b.er = 0) with
     | true =>
      have hf31p := of_decide_eq_true hf31
      refine wl_b .neq 26 (.tmp 33) (.const (.int .i64 (0))) (.int .i64 (y.b.er)) (.int .i64 (0)) (.bool false) (ne34 hf31 _ _ _) ?_
      refine wl_pick (.tmp 30) (.const (.bool true)) (.tmp 34) false (.bool false) (fun _ => rfl) rfl rfl rfl ?_
      refine wl_m (.tmp 35) (.bool false) ?_
      refine wl_f 45 2 (.tmp 4) (pt k2 0) (pt k2 12) ?_
      refine wl_l 33 (.tmp 37) (pt k2 12) (.agg #[.bool y.c.b, .int .u64 (l0 y.c.n), .int .u64 (l1 y.c.n), .int .u64 (l2 y.c.n), .int .u64 (l3 y.c.n), .int .i64 y.c.s]) (run_row Q2 33 12 6 _ rfl Try.underlying33 rfl sz33) ?_
      refine wl_call 23 [(.tmp 38)] _ [.agg #[.bool y.c.b, .int .u64 (l0 y.c.n), .int .u64 (l1 y.c.n), .int .u64 (l2 y.c.n), .int .u64 (l3 y.c.n), .int .i64 y.c.s]] (.int .i64 (y.c.er)) rfl rfl (fun _ _ => by kernel_rfl) (qchk_n (hT.ok y hmy).2.2 _) rfl ?_
      intro u45 hq
      replace Q1 := Q1.mo hq
      replace Q2 := Q2.mo hq
      replace M := M.trans hq
      clear hq
      cases hf32 : decide (y.c.er = 0) with
      | true =>
       have hf32p := of_decide_eq_true hf32
       refine wl_b .neq 26 (.tmp 39) (.const (.int .i64 (0))) (.int .i64 (y.c.er)) (.int .i64 (0)) (.bool false) (ne34 hf32 _ _ _) ?_
       refine wl_pick (.tmp 36) (.const (.bool true)) (.tmp 40) false (.bool false) (fun _ => rfl) rfl rfl rfl ?_
       refine w_nil (xn_then (w_condF rfl (w_skip (xn_blk (xn_then (w_reg ?_))))))
       refine wl_mv (.tmp 3) (.int .i64 ((i : Nat) : Int)) (fun _ => rfl) e40_i rfl ?_
       refine wl_b .add 3 (.tmp 19) (.const (.int .i64 (1))) (.int .i64 ((i : Nat) : Int)) (.int .i64 (1)) (.int .i64 ((i + 1 : Nat) : Int)) (add1r (k := i) (by omega) _ _ _) ?_
       refine wl_m (.tmp 20) (.int .i64 ((i + 1 : Nat) : Int)) ?_
       refine w_nil ?_
       exact xn_loop (x.st.length - (i + 1)) (by omega) ⟨i + 1, rfl, by omega, e40_1, rfl, Q1, (ok_next hok hy (by simp [okS, *])), M⟩
      | false =>
       have hf32p := of_decide_eq_false hf32
       refine wl_b .neq 26 (.tmp 39) (.const (.int .i64 (0))) (.int .i64 (y.c.er)) (.int .i64 (0)) (.bool true) (ne34 hf32 _ _ _) ?_
       refine wl_pick (.tmp 36) (.const (.bool true)) (.tmp 40) false (.bool true) (fun _ => rfl) rfl rfl rfl ?_
       refine w_nil (xn_then (w_condT rfl (w_seq (w_reg ?_))))
       refine wl_m (.const (.int .i64 (20))) (.int .i64 (20)) ?_
       refine w_nil (xn_then (w_ret (xr_blk (xr_then (xr_then (xr_blk (xr_then ?_)))))))
       exact w_ret1 _ (.int .i64 (20)) rfl rfl ⟨congrArg (fun v => Ending.returned (.int .i64 v)) (Eq.symm (chk_bad (by omega) (by omega) hmy (by simp [okS, hf30p, hf31p, hf32p]))), M⟩
     | false =>
      have hf31p := of_decide_eq_false hf31
      refine wl_b .neq 26 (.tmp 33) (.const (.int .i64 (0))) (.int .i64 (y.b.er)) (.int .i64 (0)) (.bool true) (ne34 hf31 _ _ _) ?_
      refine wl_pick (.tmp 30) (.const (.bool true)) (.tmp 34) false (.bool true) (fun _ => rfl) rfl rfl rfl ?_
      refine wl_m (.tmp 35) (.bool true) ?_
      refine wl_skip rfl (wl_skip rfl (wl_skip rfl (wl_skip rfl ?_)))
      refine wl_pick (.tmp 36) (.const (.bool true)) (.tmp 40) true (.bool true) (fun _ => rfl) rfl rfl rfl ?_
      refine w_nil (xn_then (w_condT rfl (w_seq (w_reg ?_))))
      refine wl_m (.const (.int .i64 (20))) (.int .i64 (20)) ?_
      refine w_nil (xn_then (w_ret (xr_blk (xr_then (xr_then (xr_blk (xr_then ?_)))))))
      exact w_ret1 _ (.int .i64 (20)) rfl rfl ⟨congrArg (fun v => Ending.returned (.int .i64 v)) (Eq.symm (chk_bad (by omega) (by omega) hmy (by simp [okS, hf30p, hf31p]))), M⟩
    | false =>
     have hf30p := of_decide_eq_false hf30
     refine wl_b .neq 26 (.tmp 28) (.const (.int .i64 (0))) (.int .i64 (y.a.er)) (.int .i64 (0)) (.bool true) (ne34 hf30 _ _ _) ?_
     refine wl_m (.tmp 29) (.bool true) ?_
     refine wl_skip rfl (wl_skip rfl (wl_skip rfl (wl_skip rfl ?_)))
     refine wl_pick (.tmp 30) (.const (.bool true)) (.tmp 34) true (.bool true) (fun _ => rfl) rfl rfl rfl ?_
     refine wl_m (.tmp 35) (.bool true) ?_
     refine wl_skip rfl (wl_skip rfl (wl_skip rfl (wl_skip rfl ?_)))
     refine wl_pick (.tmp 36) (.const (.bool true)) (.tmp 40) true (.bool true) (fun _ => rfl) rfl rfl rfl ?_
     refine w_nil (xn_then (w_condT rfl (w_seq (w_reg ?_))))
     refine wl_m (.const (.int .i64 (20))) (.int .i64 (20)) ?_
     refine w_nil (xn_then (w_ret (xr_blk (xr_then (xr_then (xr_blk (xr_then ?_)))))))
     exact w_ret1 _ (.int .i64 (20)) rfl rfl ⟨congrArg (fun v => Ending.returned (.int .i64 v)) (Eq.symm (chk_bad (by omega) (by omega) hmy (by simp [okS, hf30p]))), M⟩
   ·skip
    have hid : decide (i < x.st.length) = false := decide_eq_false hil
    have hie : i = x.st.length := by omega
    have hall := all_of (by rw [← hie]; exact hok)
    refine w_seq (w_seq (w_reg ?_))
    refine wl_mv (.tmp 3) (.int .i64 ((i : Nat) : Int)) (fun _ => rfl) e40_i rfl ?_
    refine wl_un (fun v => Instr.fieldAt 24 v 1) (.tmp 1) (pt k1 0) (pt k1 1) (fun _ => rfl) e40_1 (by kernel_rfl) rfl ?_
    refine wl_l 22 (.tmp 15) (pt k1 1) (.slice x.pa x.st.length x.cap) (run_one Q1 22 1 rfl Try.underlying22 rfl) ?_
    refine wl_val (.int .i64 ((x.st.length : Nat) : Int)) (len22 _ _ _ _ _ (by exact rfl) _ _ _ _ _ _) rfl ?_
    refine wl_b .lss 3 (.tmp 14) (.tmp 17) (.int .i64 ((i : Nat) : Int)) (.int .i64 ((x.st.length : Nat) : Int)) (.bool false) (ltN hid _ _ _) ?_
    refine w_nil (xn_then (w_condF rfl (w_exit (xx_then (xx_then (xx_blk (xn_then (w_seq (w_seq (w_reg ?_))))))))))
    refine wl_m (.const (.int .i64 (1))) (.int .i64 (1)) ?_
    refine w_nil (xn_then (w_block ?_))
    refine w_loop (fun m l w1 => ∃ i : Nat, m = x.st.length - i ∧ i ≤ x.st.length ∧ look l 1 = pt k1 0 ∧ look l 5 = .int .i64 ((i + 1 : Nat) : Int) ∧ At w1 k1 (x.cells) ∧ (∀ j < i, ∀ a b, x.st[j]? = some a → x.st[j + 1]? = some b → 0 < cmpD b.a a.a) ∧ Mo w w1) _ ⟨0, rfl, Nat.zero_le _, e40_1, rfl, Q1, (fun j hj => absurd hj (Nat.not_lt_zero j)), M⟩ ?_
    clear Q1 M
    rintro m l80 wl80 ⟨i, rfl, hi, e80_1, e80_i, Q1, has, M⟩
    by_cases hil : i + 1 < x.st.length
    ·skip
     have hid : decide (i + 1 < x.st.length) = true := decide_eq_true hil
     obtain ⟨y1, hy1⟩ := get_of_lt hil
     have hmy1 := List.mem_of_getElem? hy1
     obtain ⟨bp, op, hpp, hRp⟩ := D.SL.rw hT.sl hy1
     have hil0 : i < x.st.length := by omega
     obtain ⟨y0, hy0⟩ := get_of_lt hil0
     have hmy0 := List.mem_of_getElem? hy0
     obtain ⟨bq, oq, hpq, hRq⟩ := D.SL.rw hT.sl hy0
     refine w_seq (w_seq (w_reg ?_))
     refine wl_mv (.tmp 5) (.int .i64 ((i + 1 : Nat) : Int)) (fun _ => rfl) e80_i rfl ?_
     refine wl_un (fun v => Instr.fieldAt 24 v 1) (.tmp 1) (pt k1 0) (pt k1 1) (fun _ => rfl) e80_1 (by kernel_rfl) rfl ?_
     refine wl_l 22 (.tmp 43) (pt k1 1) (.slice x.pa x.st.length x.cap) (run_one Q1 22 1 rfl Try.underlying22 rfl) ?_
     refine wl_val (.int .i64 ((x.st.length : Nat) : Int)) (len22 _ _ _ _ _ (by exact rfl) _ _ _ _ _ _) rfl ?_
     refine wl_b .lss 3 (.tmp 42) (.tmp 45) (.int .i64 ((i + 1 : Nat) : Int)) (.int .i64 ((x.st.length : Nat) : Int)) (.bool true) (ltN hid _ _ _) ?_
     refine w_nil (xn_then (w_condT rfl (w_skip (xn_then (w_seq (w_block (w_seq ?_)))))))
     cases hf80 : decide (cmpD y1.a y0.a ≤ 0) with
     | true =>
      have hf80p := of_decide_eq_true hf80
      refine w_any 13 [.inl (pt k1 1), .inl (.slice x.pa x.st.length x.cap), .inl (.int .i64 ((i + 1 : Nat) : Int)), .inl (pt bp (op + (i + 1) * 18)), .inl (pt bp (op + (i + 1) * 18)), .inl (.agg (y1.a.cells).toArray), .inl (pt k1 1), .inl (.slice x.pa x.st.length x.cap), .inl (.int .i64 ((i + 1 : Nat) : Int)), .inl (.int .i64 ((i : Nat) : Int)), .inl (pt bq (oq + i * 18)), .inl (pt bq (oq + i * 18)), .inl (.agg (y0.a.cells).toArray)] [] (by kernel_rfl) (by kernel_rfl) (by kernel_rfl) (by kernel_rfl) rfl (by kernel_rfl) (by kernel_rfl) late_nil ?_ ?_ ?_
      ·exact Ds.none rfl
      ·refine ea_cons ?_ (ea_cons ?_ (ea_cons ?_ (ea_cons ?_ (ea_cons ?_ (ea_cons ?_ (ea_cons ?_ (ea_cons ?_ (ea_cons ?_ (ea_cons ?_ (ea_cons ?_ (ea_cons ?_ (ea_cons ?_ (ea_nil)))))))))))))
       ·exact og_eq _ rfl (fun f wf hq hd K hK => go_run rfl (wo_un (fun v => Instr.fieldAt 24 v 1) (.tmp 1) (pt k1 0) (pt k1 1) (fun _ => rfl) e80_1 (by kernel_rfl) (hK _ (Mo.refl _))))
       ·exact og_eq _ rfl (fun f wf hq hd K hK => have Q1 := Q1.mo hq; go_run rfl (wo_load 22 (.tmp 49) (pt k1 1) (.slice x.pa x.st.length x.cap) rfl (hd 0 rfl) (run_one Q1 22 1 rfl Try.underlying22 rfl) (hK _ (Mo.refl _))))
       ·exact og_eq _ rfl (fun f wf hq hd K hK => go_run rfl (wo_mv (.tmp 5) (.int .i64 ((i + 1 : Nat) : Int)) (fun _ => rfl) e80_i (hK _ (Mo.refl _))))
       ·exact og_eq _ rfl (fun f wf hq hd K hK => go_run rfl (wo_bin (fun x y => Instr.indexAt 22 x y) (.tmp 50) (.tmp 51) (.slice x.pa x.st.length x.cap) (.int .i64 ((i + 1 : Nat) : Int)) (pt bp (op + (i + 1) * 18)) (fun _ => rfl) (hd 1 rfl) (hd 2 rfl) (ix22 (i := i + 1) hpp hil _) (hK _ (Mo.refl _))))
       ·exact og_eq _ rfl (fun f wf hq hd K hK => go_run rfl (wo_un (fun v => Instr.fieldAt 45 v 0) (.tmp 52) (pt bp (op + (i + 1) * 18)) (pt bp (op + (i + 1) * 18)) (fun _ => rfl) (hd 3 rfl) (by kernel_rfl) (hK _ (Mo.refl _))))
       ·exact og_eq _ rfl (fun f wf hq hd K hK => go_run rfl (wo_load 33 (.tmp 53) (pt bp (op + (i + 1) * 18)) (.agg (y1.a.cells).toArray) rfl (hd 4 rfl) (D.run_partR (hRp.mo (M.trans hq)).at' 33 0 6 (y1.a.cells) rfl Try.underlying33 rfl sz33) (hK _ (Mo.refl _))))
       ·exact og_eq _ rfl (fun f wf hq hd K hK => go_run rfl (wo_un (fun v => Instr.fieldAt 24 v 1) (.tmp 1) (pt k1 0) (pt k1 1) (fun _ => rfl) e80_1 (by kernel_rfl) (hK _ (Mo.refl _))))
       ·exact og_eq _ rfl (fun f wf hq hd K hK => have Q1 := Q1.mo hq; go_run rfl (wo_load 22 (.tmp 55) (pt k1 1) (.slice x.pa x.st.length x.cap) rfl (hd 6 rfl) (run_one Q1 22 1 rfl Try.underlying22 rfl) (hK _ (Mo.refl _))))
       ·exact og_eq _ rfl (fun f wf hq hd K hK => go_run rfl (wo_mv (.tmp 5) (.int .i64 ((i + 1 : Nat) : Int)) (fun _ => rfl) e80_i (hK _ (Mo.refl _))))
       ·exact og_eq _ rfl (fun f wf hq hd K hK => go_run rfl (wo_bin (fun x y => do eqGuard .sub 3 (.tmp 57) (.const (.int .i64 (1))) x y; binOp .sub 3 x y) (.tmp 57) (.const (.int .i64 (1))) (.int .i64 ((i + 1 : Nat) : Int)) (.int .i64 (1)) (.int .i64 ((i : Nat) : Int)) (fun _ => rfl) (hd 8 rfl) rfl (sub1r (k := i) (by omega) _ _ _) (hK _ (Mo.refl _))))
       ·exact og_eq _ rfl (fun f wf hq hd K hK => go_run rfl (wo_bin (fun x y => Instr.indexAt 22 x y) (.tmp 56) (.tmp 58) (.slice x.pa x.st.length x.cap) (.int .i64 ((i : Nat) : Int)) (pt bq (oq + i * 18)) (fun _ => rfl) (hd 7 rfl) (hd 9 rfl) (ix22 (i := i) hpq hil0 _) (hK _ (Mo.refl _))))
       ·exact og_eq _ rfl (fun f wf hq hd K hK => go_run rfl (wo_un (fun v => Instr.fieldAt 45 v 0) (.tmp 59) (pt bq (oq + i * 18)) (pt bq (oq + i * 18)) (fun _ => rfl) (hd 10 rfl) (by kernel_rfl) (hK _ (Mo.refl _))))
       ·exact og_eq _ rfl (fun f wf hq hd K hK => go_run rfl (wo_load 33 (.tmp 60) (pt bq (oq + i * 18)) (.agg (y0.a.cells).toArray) rfl (hd 11 rfl) (D.run_partR (hRq.mo (M.trans hq)).at' 33 0 6 (y0.a.cells) rfl Try.underlying33 rfl sz33) (hK _ (Mo.refl _))))
      intro kf81 u81 hq hR hne
      replace Q1 := Q1.mo hq
      replace M := M.trans hq
      clear hq hR hne
      refine wl_call 24 [(.tmp 54), (.tmp 61)] _ [.agg (y1.a.cells).toArray, .agg (y0.a.cells).toArray] (.int .i64 (cmpD y1.a y0.a)) rfl rfl (fun _ _ => by kernel_rfl) (qcmp_n (fit_of hT.ok hall hy1).1 (fit_of hT.ok hall hy0).1 _) rfl ?_
      intro u82 hq
      replace Q1 := Q1.mo hq
      replace M := M.trans hq
      clear hq
      refine wl_b .leq 3 (.tmp 62) (.const (.int .i64 (0))) (.int .i64 (cmpD y1.a y0.a)) (.int .i64 (0)) (.bool true) (le3 hf80 _ _ _) ?_
      refine w_nil (xn_then (w_condT rfl (w_seq (w_reg ?_))))
      refine wl_m (.const (.int .i64 (140))) (.int .i64 (140)) ?_
      refine w_nil (xn_then (w_ret (xr_blk (xr_then (xr_then (xr_blk (xr_then ?_)))))))
      exact w_ret1 _ (.int .i64 (140)) rfl rfl ⟨congrArg (fun v => Ending.returned (.int .i64 v)) (Eq.symm (chk_low (by omega) (by omega) hall hy0 hy1 (by omega))), M⟩
     | false =>
      have hf80p := of_decide_eq_false hf80
      refine w_any 13 [.inl (pt k1 1), .inl (.slice x.pa x.st.length x.cap), .inl (.int .i64 ((i + 1 : Nat) : Int)), .inl (pt bp (op + (i + 1) * 18)), .inl (pt bp (op + (i + 1) * 18)), .inl (.agg (y1.a.cells).toArray), .inl (pt k1 1), .inl (.slice x.pa x.st.length x.cap), .inl (.int .i64 ((i + 1 : Nat) : Int)), .inl (.int .i64 ((i : Nat) : Int)), .inl (pt bq (oq + i * 18)), .inl (pt bq (oq + i * 18)), .inl (.agg (y0.a.cells).toArray)] [] (by kernel_rfl) (by kernel_rfl) (by kernel_rfl) (by kernel_rfl) rfl (by kernel_rfl) (by kernel_rfl) late_nil ?_ ?_ ?_
      ·exact Ds.none rfl
      ·refine ea_cons ?_ (ea_cons ?_ (ea_cons ?_ (ea_cons ?_ (ea_cons ?_ (ea_cons ?_ (ea_cons ?_ (ea_cons ?_ (ea_cons ?_ (ea_cons ?_ (ea_cons ?_ (ea_cons ?_ (ea_cons ?_ (ea_nil)))))))))))))
       ·exact og_eq _ rfl (fun f wf hq hd K hK => go_run rfl (wo_un (fun v => Instr.fieldAt 24 v 1) (.tmp 1) (pt k1 0) (pt k1 1) (fun _ => rfl) e80_1 (by kernel_rfl) (hK _ (Mo.refl _))))
       ·exact og_eq _ rfl (fun f wf hq hd K hK => have Q1 := Q1.mo hq; go_run rfl (wo_load 22 (.tmp 49) (pt k1 1) (.slice x.pa x.st.length x.cap) rfl (hd 0 rfl) (run_one Q1 22 1 rfl Try.underlying22 rfl) (hK _ (Mo.refl _))))
       ·exact og_eq _ rfl (fun f wf hq hd K hK => go_run rfl (wo_mv (.tmp 5) (.int .i64 ((i + 1 : Nat) : Int)) (fun _ => rfl) e80_i (hK _ (Mo.refl _))))
       ·exact og_eq _ rfl (fun f wf hq hd K hK => go_run rfl (wo_bin (fun x y => Instr.indexAt 22 x y) (.tmp 50) (.tmp 51) (.slice x.pa x.st.length x.cap) (.int .i64 ((i + 1 : Nat) : Int)) (pt bp (op + (i + 1) * 18)) (fun _ => rfl) (hd 1 rfl) (hd 2 rfl) (ix22 (i := i + 1) hpp hil _) (hK _ (Mo.refl _))))
       ·exact og_eq _ rfl (fun f wf hq hd K hK => go_run rfl (wo_un (fun v => Instr.fieldAt 45 v 0) (.tmp 52) (pt bp (op + (i + 1) * 18)) (pt bp (op + (i + 1) * 18)) (fun _ => rfl) (hd 3 rfl) (by kernel_rfl) (hK _ (Mo.refl _))))
       ·exact og_eq _ rfl (fun f wf hq hd K hK => go_run rfl (wo_load 33 (.tmp 53) (pt bp (op + (i + 1) * 18)) (.agg (y1.a.cells).toArray) rfl (hd 4 rfl) (D.run_partR (hRp.mo (M.trans hq)).at' 33 0 6 (y1.a.cells) rfl Try.underlying33 rfl sz33) (hK _ (Mo.refl _))))
       ·exact og_eq _ rfl (fun f wf hq hd K hK => go_run rfl (wo_un (fun v => Instr.fieldAt 24 v 1) (.tmp 1) (pt k1 0) (pt k1 1) (fun _ => rfl) e80_1 (by kernel_rfl) (hK _ (Mo.refl _))))
       ·exact og_eq _ rfl (fun f wf hq hd K hK => have Q1 := Q1.mo hq; go_run rfl (wo_load 22 (.tmp 55) (pt k1 1) (.slice x.pa x.st.length x.cap) rfl (hd 6 rfl) (run_one Q1 22 1 rfl Try.underlying22 rfl) (hK _ (Mo.refl _))))
       ·exact og_eq _ rfl (fun f wf hq hd K hK => go_run rfl (wo_mv (.tmp 5) (.int .i64 ((i + 1 : Nat) : Int)) (fun _ => rfl) e80_i (hK _ (Mo.refl _))))
       ·exact og_eq _ rfl (fun f wf hq hd K hK => go_run rfl (wo_bin (fun x y => do eqGuard .sub 3 (.tmp 57) (.const (.int .i64 (1))) x y; binOp .sub 3 x y) (.tmp 57) (.const (.int .i64 (1))) (.int .i64 ((i + 1 : Nat) : Int)) (.int .i64 (1)) (.int .i64 ((i : Nat) : Int)) (fun _ => rfl) (hd 8 rfl) rfl (sub1r (k := i) (by omega) _ _ _) (hK _ (Mo.refl _))))
       ·exact og_eq _ rfl (fun f wf hq hd K hK => go_run rfl (wo_bin (fun x y => Instr.indexAt 22 x y) (.tmp 56) (.tmp 58) (.slice x.pa x.st.length x.cap) (.int .i64 ((i : Nat) : Int)) (pt bq (oq + i * 18)) (fun _ => rfl) (hd 7 rfl) (hd 9 rfl) (ix22 (i := i) hpq hil0 _) (hK _ (Mo.refl _))))
       ·exact og_eq _ rfl (fun f wf hq hd K hK => go_run rfl (wo_un (fun v => Instr.fieldAt 45 v 0) (.tmp 59) (pt bq (oq + i * 18)) (pt bq (oq + i * 18)) (fun _ => rfl) (hd 10 rfl) (by kernel_rfl) (hK _ (Mo.refl _))))
       ·exact og_eq _ rfl (fun f wf hq hd K hK => go_run rfl (wo_load 33 (.tmp 60) (pt bq (oq + i * 18)) (.agg (y0.a.cells).toArray) rfl (hd 11 rfl) (D.run_partR (hRq.mo (M.trans hq)).at' 33 0 6 (y0.a.cells) rfl Try.underlying33 rfl sz33) (hK _ (Mo.refl _))))
      intro kf81 u81 hq hR hne
      replace Q1 := Q1.mo hq
      replace M := M.trans hq
      clear hq hR hne
      refine wl_call 24 [(.tmp 54), (.tmp 61)] _ [.agg (y1.a.cells).toArray, .agg (y0.a.cells).toArray] (.int .i64 (cmpD y1.a y0.a)) rfl rfl (fun _ _ => by kernel_rfl) (qcmp_n (fit_of hT.ok hall hy1).1 (fit_of hT.ok hall hy0).1 _) rfl ?_
      intro u82 hq
      replace Q1 := Q1.mo hq
      replace M := M.trans hq
      clear hq
      refine wl_b .leq 3 (.tmp 62) (.const (.int .i64 (0))) (.int .i64 (cmpD y1.a y0.a)) (.int .i64 (0)) (.bool false) (le3 hf80 _ _ _) ?_
      refine w_nil (xn_then (w_condF rfl (w_skip (xn_blk (xn_then (w_reg ?_))))))
      refine wl_mv (.tmp 5) (.int .i64 ((i + 1 : Nat) : Int)) (fun _ => rfl) e80_i rfl ?_
      refine wl_b .add 3 (.tmp 47) (.const (.int .i64 (1))) (.int .i64 ((i + 1 : Nat) : Int)) (.int .i64 (1)) (.int .i64 ((i + 1 + 1 : Nat) : Int)) (add1r (k := i + 1) (by omega) _ _ _) ?_
      refine wl_m (.tmp 48) (.int .i64 ((i + 1 + 1 : Nat) : Int)) ?_
      refine w_nil ?_
      exact xn_loop (x.st.length - (i + 1)) (by omega) ⟨i + 1, rfl, by omega, e80_1, rfl, Q1, (as_next has hy0 hy1 (by omega)), M⟩
    ·skip
     have hid : decide (i + 1 < x.st.length) = false := decide_eq_false hil
     refine w_seq (w_seq (w_reg ?_))
     refine wl_mv (.tmp 5) (.int .i64 ((i + 1 : Nat) : Int)) (fun _ => rfl) e80_i rfl ?_
     refine wl_un (fun v => Instr.fieldAt 24 v 1) (.tmp 1) (pt k1 0) (pt k1 1) (fun _ => rfl) e80_1 (by kernel_rfl) rfl ?_
     refine wl_l 22 (.tmp 43) (pt k1 1) (.slice x.pa x.st.length x.cap) (run_one Q1 22 1 rfl Try.underlying22 rfl) ?_
     refine wl_val (.int .i64 ((x.st.length : Nat) : Int)) (len22 _ _ _ _ _ (by exact rfl) _ _ _ _ _ _) rfl ?_
     refine wl_b .lss 3 (.tmp 42) (.tmp 45) (.int .i64 ((i + 1 : Nat) : Int)) (.int .i64 ((x.st.length : Nat) : Int)) (.bool false) (ltN hid _ _ _) ?_
     refine w_nil (xn_then (w_condF rfl (w_exit (xx_then (xx_then (xx_blk (xn_then (w_seq (w_reg ?_)))))))))
     refine wl_m (.const (.int .i64 (0))) (.int .i64 (0)) ?_
     refine w_nil (xn_then (w_ret ?_))
     exact w_ret1 _ (.int .i64 (0)) rfl rfl ⟨congrArg (fun v => Ending.returned (.int .i64 v)) (Eq.symm (chk_fine (by omega) (by omega) hall (as_end has (by omega)))), M⟩
end Go.Proofs.Ythehmmhnacomkaa
namespace Go.Proofs.Ythehmmhnacomkaa
open Go.RowKit D
theorem min_b (ρ : Operand → Value) (x : Operand) (a : Int) (hx : ρ x = .int .i64 a) (hc : ρ (.const (.int .i64 18)) = .int .i64 18) (ats : Array TypeId) (dst : Option Tmp) (type : TypeId) (pos : String) (after : Array Edge) (guard : Option (Nat × Bool)) (w : World) : (execOp ρ { dst, op := .call { callee := .builtin .min, args := #[.const (.int .i64 18), x], argTypes := ats }, type, pos, after, guard }).run Try.prog w = .ok (.value (.int .i64 (min a 18))) w := by
 have q : (if a < (18 : Int) then a else 18) = min a 18 := by split <;> omega
 simp [go_sem, hx, hc, Builtin.min_, Builtin.min2, q]
theorem qsays_n {s : Stp} {x : Dn} (w : World) (hs : s.fit) (hx : x.fit) : Calls Try.prog 33 #[s.v, x.v] w fun e9 w' => e9 = .returned (saysD s x).v ∧ Mo w w' := by
 refine w_enter 43 Try.func33 Try.ntmps33 rfl rfl ?_
 have M : Mo w w := Mo.refl _
 refine w_seq (w_reg ?_)
 refine wl_box 45 (.tmp 0) _ (((s.cells).toArray)) rfl rfl (fun _ => by kernel_rfl) rfl ?_
 intro k1 u1 hk hz hq Q1
 have N_k1 : w.heap.size ≤ k1 := by have := M.size; omega
 replace M := M.trans hq
 clear hk hz hq
 refine wl_box 33 (.tmp 1) _ (((x.cells).toArray)) rfl rfl (fun _ => by kernel_rfl) rfl ?_
 intro k2 u2 hk hz hq Q2
 have ne_k1_k2 : k1 ≠ k2 := by have := Q1.lt; omega
 have N_k2 : w.heap.size ≤ k2 := by have := M.size; omega
 replace Q1 := Q1.mo hq
 replace M := M.trans hq
 clear hk hz hq
 refine wl_alloc 33 #[.bool false, .int .u64 0, .int .u64 0, .int .u64 0, .int .u64 0, .int .i64 0] rfl (fun _ => by kernel_rfl) rfl ?_
 intro k3 u3 hk hz hq Q3
 have ne_k1_k3 : k1 ≠ k3 := by have := Q1.lt; omega
 have ne_k2_k3 : k2 ≠ k3 := by have := Q2.lt; omega
 have N_k3 : w.heap.size ≤ k3 := by have := M.size; omega
 replace Q1 := Q1.mo hq
 replace Q2 := Q2.mo hq
 replace M := M.trans hq
 clear hk hz hq
 refine wl_m (.const (.int .i64 (0))) (.int .i64 (0)) ?_
 refine w_nil (xn_then (w_seq (w_reg ?_)))
 refine wl_l 33 (.tmp 3) (pt k2 0) (.agg (x.cells).toArray) (run_row Q2 33 0 6 (x.cells) rfl Try.underlying33 rfl sz33) ?_
 refine wl_f 45 0 (.tmp 2) (pt k1 0) (pt k1 0) ?_
 refine wl_l 33 (.tmp 10) (pt k1 0) (.agg (s.a.cells).toArray) (run_row Q1 33 0 6 (s.a.cells) rfl Try.underlying33 rfl sz33) ?_
 refine wl_call 53 [(.tmp 9), (.tmp 11)] _ [.agg (x.cells).toArray, .agg (s.a.cells).toArray] (.tuple #[.agg ((subD x s.a).d.cells).toArray, .int .i64 ((subD x s.a).e)]) rfl rfl (fun _ _ => by kernel_rfl) (qsub_n hx hs.1 _) rfl ?_
 intro u4 hq
 replace Q1 := Q1.mo hq
 replace Q2 := Q2.mo hq
 replace Q3 := Q3.mo hq
 replace M := M.trans hq
 clear hq
 refine wl_m (.tmp 12) (.tuple #[.agg ((subD x s.a).d.cells).toArray, .int .i64 ((subD x s.a).e)]) ?_
 refine wl_un (fun v => Instr.extract v 0) (.tmp 8) (.tuple #[.agg ((subD x s.a).d.cells).toArray, .int .i64 ((subD x s.a).e)]) (.agg ((subD x s.a).d.cells).toArray) (fun _ => rfl) rfl (by kernel_rfl) rfl ?_
 refine wl_un (fun v => Instr.extract v 1) (.tmp 8) (.tuple #[.agg ((subD x s.a).d.cells).toArray, .int .i64 ((subD x s.a).e)]) (.int .i64 ((subD x s.a).e)) (fun _ => rfl) rfl (by kernel_rfl) rfl ?_
 refine wl_alloc 33 #[.bool false, .int .u64 0, .int .u64 0, .int .u64 0, .int .u64 0, .int .i64 0] rfl (fun _ => by kernel_rfl) rfl ?_
 intro k4 u5 hk hz hq Q4
 have ne_k1_k4 : k1 ≠ k4 := by have := Q1.lt; omega
 have ne_k2_k4 : k2 ≠ k4 := by have := Q2.lt; omega
 have ne_k3_k4 : k3 ≠ k4 := by have := Q3.lt; omega
 have N_k4 : w.heap.size ≤ k4 := by have := M.size; omega
 replace Q1 := Q1.mo hq
 replace Q2 := Q2.mo hq
 replace Q3 := Q3.mo hq
 replace M := M.trans hq
 clear hk hz hq
 refine wl_st 33 (.tmp 6) (.tmp 13) k4 0 (((subD x s.a).d.cells).toArray) _ ((subD x s.a).d.cells) Q4 rfl rfl rfl rfl rfl sz33 rfl rfl rfl ?_
 intro u6 hS Qn
 replace Q4 := Qn
 clear Qn
 replace Q1 := hS.other _ _ ne_k1_k4 Q1
 replace Q2 := hS.other _ _ ne_k2_k4 Q2
 replace Q3 := hS.other _ _ ne_k3_k4 Q3
 replace M := hS.mo _ N_k4 M
 clear hS
 refine wl_m (.tmp 14) (.int .i64 ((subD x s.a).e)) ?_
 refine w_nil (xn_then (w_seq (w_seq (w_reg ?_))))
 refine wl_m (.tmp 7) (.int .i64 ((subD x s.a).e)) ?_
 cases hf0 : decide ((subD x s.a).e = 0) with
 | true =>
  have hf0p := of_decide_eq_true hf0
  refine wl_b .neq 26 (.tmp 15) (.const (.int .i64 (0))) (.int .i64 ((subD x s.a).e)) (.int .i64 (0)) (.bool false) (ne34 hf0 _ _ _) ?_
  refine w_nil (xn_then (w_condF rfl (w_skip (xn_then (w_seq (w_reg ?_))))))
  refine wl_l 33 (.tmp 6) (pt k4 0) (.agg ((subD x s.a).d.cells).toArray) (run_row Q4 33 0 6 ((subD x s.a).d.cells) rfl Try.underlying33 rfl sz33) ?_
  refine wl_f 45 2 (.tmp 2) (pt k1 0) (pt k1 12) ?_
  refine wl_l 33 (.tmp 21) (pt k1 12) (.agg (s.c.cells).toArray) (run_row Q1 33 12 6 (s.c.cells) rfl Try.underlying33 rfl sz33) ?_
  refine wl_f 33 2 (.tmp 6) (pt k4 0) (pt k4 5) ?_
  refine wl_l 3 (.tmp 23) (pt k4 5) (.int .i64 ((subD x s.a).d.s)) (run_one Q4 3 5 rfl Try.underlying3 rfl) ?_
  refine wl_f 45 2 (.tmp 2) (pt k1 0) (pt k1 12) ?_
  refine wl_f 33 2 (.tmp 25) (pt k1 12) (pt k1 17) ?_
  refine wl_l 3 (.tmp 26) (pt k1 17) (.int .i64 (s.c.s)) (run_one Q1 3 17 rfl Try.underlying3 rfl) ?_
  have bs1 := ((good_sub hx hs.1).fit hf0p).s
  have bs2 := hs.2.2.s
  refine wl_b .add 3 (.tmp 24) (.tmp 27) (.int .i64 ((subD x s.a).d.s)) (.int .i64 (s.c.s)) (.int .i64 ((subD x s.a).d.s + s.c.s)) (addst rfl (by omega) (by omega) _ _ _) ?_
  refine wl_val (.int .i64 (min ((subD x s.a).d.s + s.c.s) 18)) (min_b _ _ _ (by exact rfl) rfl _ _ _ _ _ _ _) rfl ?_
  refine wl_call 54 [(.tmp 20), (.tmp 22), (.tmp 29), (.const (.int .i64 (2)))] _ [.agg ((subD x s.a).d.cells).toArray, .agg (s.c.cells).toArray, .int .i64 (min ((subD x s.a).d.s + s.c.s) 18), .int .i64 (2)] (.tuple #[.agg ((mulD (subD x s.a).d s.c).d.cells).toArray, .int .i64 ((mulD (subD x s.a).d s.c).e)]) rfl rfl (fun _ _ => by kernel_rfl) (qmul_n ((good_sub hx hs.1).fit hf0p) hs.2.2 _) rfl ?_
  intro u7 hq
  replace Q1 := Q1.mo hq
  replace Q2 := Q2.mo hq
  replace Q3 := Q3.mo hq
  replace Q4 := Q4.mo hq
  replace M := M.trans hq
  clear hq
  refine wl_m (.tmp 30) (.tuple #[.agg ((mulD (subD x s.a).d s.c).d.cells).toArray, .int .i64 ((mulD (subD x s.a).d s.c).e)]) ?_
  refine wl_un (fun v => Instr.extract v 0) (.tmp 19) (.tuple #[.agg ((mulD (subD x s.a).d s.c).d.cells).toArray, .int .i64 ((mulD (subD x s.a).d s.c).e)]) (.agg ((mulD (subD x s.a).d s.c).d.cells).toArray) (fun _ => rfl) rfl (by kernel_rfl) rfl ?_
  refine wl_un (fun v => Instr.extract v 1) (.tmp 19) (.tuple #[.agg ((mulD (subD x s.a).d s.c).d.cells).toArray, .int .i64 ((mulD (subD x s.a).d s.c).e)]) (.int .i64 ((mulD (subD x s.a).d s.c).e)) (fun _ => rfl) rfl (by kernel_rfl) rfl ?_
  refine wl_st 33 (.tmp 6) (.tmp 31) k4 0 (((mulD (subD x s.a).d s.c).d.cells).toArray) ((subD x s.a).d.cells) ((mulD (subD x s.a).d s.c).d.cells) Q4 rfl rfl rfl rfl rfl sz33 rfl rfl rfl ?_
  intro u8 hS Qn
  replace Q4 := Qn
  clear Qn
  replace Q1 := hS.other _ _ ne_k1_k4 Q1
  replace Q2 := hS.other _ _ ne_k2_k4 Q2
  replace Q3 := hS.other _ _ ne_k3_k4 Q3
  replace M := hS.mo _ N_k4 M
  clear hS
  refine wl_m (.tmp 32) (.int .i64 ((mulD (subD x s.a).d s.c).e)) ?_
  refine w_nil (xn_then (w_seq (w_seq (w_reg ?_))))
  refine wl_m (.tmp 7) (.int .i64 ((mulD (subD x s.a).d s.c).e)) ?_
  cases hf1 : decide ((mulD (subD x s.a).d s.c).e = 0) with
  | true =>
   have hf1p := of_decide_eq_true hf1
   refine wl_b .neq 26 (.tmp 33) (.const (.int .i64 (0))) (.int .i64 ((mulD (subD x s.a).d s.c).e)) (.int .i64 (0)) (.bool false) (ne34 hf1 _ _ _) ?_
   refine w_nil (xn_then (w_condF rfl (w_skip (xn_then (w_seq (w_reg ?_))))))
   refine wl_f 45 1 (.tmp 2) (pt k1 0) (pt k1 6) ?_
   refine wl_l 33 (.tmp 37) (pt k1 6) (.agg (s.b.cells).toArray) (run_row Q1 33 6 6 (s.b.cells) rfl Try.underlying33 rfl sz33) ?_
   refine wl_l 33 (.tmp 6) (pt k4 0) (.agg ((mulD (subD x s.a).d s.c).d.cells).toArray) (run_row Q4 33 0 6 ((mulD (subD x s.a).d s.c).d.cells) rfl Try.underlying33 rfl sz33) ?_
   refine wl_call 55 [(.tmp 38), (.tmp 39)] _ [.agg (s.b.cells).toArray, .agg ((mulD (subD x s.a).d s.c).d.cells).toArray] (.tuple #[.agg ((addD s.b (mulD (subD x s.a).d s.c).d).d.cells).toArray, .int .i64 ((addD s.b (mulD (subD x s.a).d s.c).d).e)]) rfl rfl (fun _ _ => by kernel_rfl) (qadd_n hs.2.1 ((good_mul ((good_sub hx hs.1).fit hf0p) hs.2.2).fit hf1p) _) rfl ?_
   intro u9 hq
   replace Q1 := Q1.mo hq
   replace Q2 := Q2.mo hq
   replace Q3 := Q3.mo hq
   replace Q4 := Q4.mo hq
   replace M := M.trans hq
   clear hq
   refine wl_un (fun v => Instr.extract v 0) (.tmp 40) (.tuple #[.agg ((addD s.b (mulD (subD x s.a).d s.c).d).d.cells).toArray, .int .i64 ((addD s.b (mulD (subD x s.a).d s.c).d).e)]) (.agg ((addD s.b (mulD (subD x s.a).d s.c).d).d.cells).toArray) (fun _ => rfl) rfl (by kernel_rfl) rfl ?_
   refine wl_un (fun v => Instr.extract v 1) (.tmp 40) (.tuple #[.agg ((addD s.b (mulD (subD x s.a).d s.c).d).d.cells).toArray, .int .i64 ((addD s.b (mulD (subD x s.a).d s.c).d).e)]) (.int .i64 ((addD s.b (mulD (subD x s.a).d s.c).d).e)) (fun _ => rfl) rfl (by kernel_rfl) rfl ?_
   refine wl_st 33 (.tmp 4) (.tmp 41) k3 0 (((addD s.b (mulD (subD x s.a).d s.c).d).d.cells).toArray) _ ((addD s.b (mulD (subD x s.a).d s.c).d).d.cells) Q3 rfl rfl rfl rfl rfl sz33 rfl rfl rfl ?_
   intro u10 hS Qn
   replace Q3 := Qn
   clear Qn
   replace Q1 := hS.other _ _ ne_k1_k3 Q1
   replace Q2 := hS.other _ _ ne_k2_k3 Q2
   replace Q4 := hS.other _ _ ne_k3_k4.symm Q4
   replace M := hS.mo _ N_k3 M
   clear hS
   refine wl_m (.tmp 42) (.int .i64 ((addD s.b (mulD (subD x s.a).d s.c).d).e)) ?_
   refine w_nil (xn_then (w_ret ?_))
   exact w_ret2 _ _ (.agg ((addD s.b (mulD (subD x s.a).d s.c).d).d.cells).toArray) (.int .i64 ((addD s.b (mulD (subD x s.a).d s.c).d).e)) rfl ⟨k3, rfl, (run_row Q3 33 0 6 ((addD s.b (mulD (subD x s.a).d s.c).d).d.cells) rfl Try.underlying33 rfl sz33)⟩ rfl ⟨congrArg Ending.returned (by unfold saysD; rw [if_pos hf0p, if_pos hf1p, addD_comm]; try rfl), M⟩
  | false =>
   have hf1p := of_decide_eq_false hf1
   refine wl_b .neq 26 (.tmp 33) (.const (.int .i64 (0))) (.int .i64 ((mulD (subD x s.a).d s.c).e)) (.int .i64 (0)) (.bool true) (ne34 hf1 _ _ _) ?_
   refine w_nil (xn_then (w_condT rfl (w_seq (w_reg ?_))))
   refine wl_build 33 [] [] (.agg #[.bool false, .int .u64 0, .int .u64 0, .int .u64 0, .int .u64 0, .int .i64 0]) rfl rfl (by kernel_rfl) rfl ?_
   refine wl_m (.tmp 7) (.int .i64 ((mulD (subD x s.a).d s.c).e)) ?_
   refine wl_st 33 (.tmp 4) (.tmp 35) k3 0 #[.bool false, .int .u64 0, .int .u64 0, .int .u64 0, .int .u64 0, .int .i64 0] _ [.bool false, .int .u64 0, .int .u64 0, .int .u64 0, .int .u64 0, .int .i64 0] Q3 rfl rfl rfl rfl rfl sz33 rfl rfl rfl ?_
   intro u9 hS Qn
   replace Q3 := Qn
   clear Qn
   replace Q1 := hS.other _ _ ne_k1_k3 Q1
   replace Q2 := hS.other _ _ ne_k2_k3 Q2
   replace Q4 := hS.other _ _ ne_k3_k4.symm Q4
   replace M := hS.mo _ N_k3 M
   clear hS
   refine wl_m (.tmp 36) (.int .i64 ((mulD (subD x s.a).d s.c).e)) ?_
   refine w_nil (xn_then (w_ret (xr_then ?_)))
   exact w_ret2 _ _ (.agg #[.bool false, .int .u64 0, .int .u64 0, .int .u64 0, .int .u64 0, .int .i64 0]) (.int .i64 ((mulD (subD x s.a).d s.c).e)) rfl ⟨k3, rfl, (run_row Q3 33 0 6 _ rfl Try.underlying33 rfl sz33)⟩ rfl ⟨congrArg Ending.returned (by unfold saysD; rw [if_pos hf0p, if_neg hf1p]; try rfl), M⟩
 | false =>
  have hf0p := of_decide_eq_false hf0
  refine wl_b .neq 26 (.tmp 15) (.const (.int .i64 (0))) (.int .i64 ((subD x s.a).e)) (.int .i64 (0)) (.bool true) (ne34 hf0 _ _ _) ?_
  refine w_nil (xn_then (w_condT rfl (w_seq (w_reg ?_))))
  refine wl_build 33 [] [] (.agg #[.bool false, .int .u64 0, .int .u64 0, .int .u64 0, .int .u64 0, .int .i64 0]) rfl rfl (by kernel_rfl) rfl ?_
  refine wl_m (.tmp 7) (.int .i64 ((subD x s.a).e)) ?_
  refine wl_st 33 (.tmp 4) (.tmp 17) k3 0 #[.bool false, .int .u64 0, .int .u64 0, .int .u64 0, .int .u64 0, .int .i64 0] _ [.bool false, .int .u64 0, .int .u64 0, .int .u64 0, .int .u64 0, .int .i64 0] Q3 rfl rfl rfl rfl rfl sz33 rfl rfl rfl ?_
  intro u7 hS Qn
  replace Q3 := Qn
  clear Qn
  replace Q1 := hS.other _ _ ne_k1_k3 Q1
  replace Q2 := hS.other _ _ ne_k2_k3 Q2
  replace Q4 := hS.other _ _ ne_k3_k4.symm Q4
  replace M := hS.mo _ N_k3 M
  clear hS
  refine wl_m (.tmp 18) (.int .i64 ((subD x s.a).e)) ?_
  refine w_nil (xn_then (w_ret (xr_then ?_)))
  exact w_ret2 _ _ (.agg #[.bool false, .int .u64 0, .int .u64 0, .int .u64 0, .int .u64 0, .int .i64 0]) (.int .i64 ((subD x s.a).e)) rfl ⟨k3, rfl, (run_row Q3 33 0 6 _ rfl Try.underlying33 rfl sz33)⟩ rfl ⟨congrArg Ending.returned (by unfold saysD; rw [if_neg hf0p]; try rfl), M⟩
end Go.Proofs.Ythehmmhnacomkaa
namespace Go.Proofs.Ythehmmhnacomkaa
open Go.RowKit D
theorem inf3 : ∃ i, Try.prog.info? 3 = some i ∧ i.zero = some (.int .i64 0) ∧ i.size = 1 ∧ i.bytes = 8 := by
 have h : (Try.prog.info? 3).map (fun i => (i.zero, i.size, i.bytes)) = some (some (.int .i64 0), 1, 8) := by kernel_rfl
 cases hi : Try.prog.info? 3 with
 | none => rw [hi] at h; cases h
 | some i =>
  rw [hi] at h
  simp at h
  exact ⟨i, rfl, h.1, h.2.1, h.2.2⟩
def jE : List Stp → Int
 | x :: y :: r => if (saysD x y.a).e = 0 then jE (y :: r) else (saysD x y.a).e
 | _ => 0
def jcL : List Stp → List Int
 | x :: y :: r => cmpD y.b (saysD x y.a).d :: jcL (y :: r)
 | _ => []
def NE (L : List Stp) (i : Nat) : Prop := ∀ j < i, ∀ a b, L[j]? = some a → L[j + 1]? = some b → (saysD a b.a).e = 0
theorem jE_at : ∀ {L : List Stp} {i : Nat} {x y : Stp}, L[i]? = some x → L[i + 1]? = some y → NE L i → ¬ (saysD x y.a).e = 0 → jE L = (saysD x y.a).e
 | [], i, x, y, hx, _, _, _ => by simp at hx
 | [_], i, x, y, _, hy, _, _ => by simp at hy
 | a :: b :: r, i, x, y, hx, hy, hN, h => by
  rw [jE]
  cases i with
  | zero => simp at hx hy; subst hx hy; rw [if_neg h]
  | succ i =>
   rw [if_pos (hN 0 (by omega) a b rfl rfl)]
   exact jE_at (by simpa using hx) (by simpa using hy) (fun j hj c d hc hd => hN (j + 1) (by omega) c d (by simpa using hc) (by simpa using hd)) h
theorem jE_0 : ∀ {L : List Stp}, NE L L.length → jE L = 0
 | [], _ => rfl
 | [_], _ => rfl
 | a :: b :: r, h => by
  rw [jE, if_pos (h 0 (by simp) a b rfl rfl)]
  exact jE_0 (fun j hj c d hc hd => h (j + 1) (by simp at hj ⊢; omega) c d (by simpa using hc) (by simpa using hd))
theorem jcL_at : ∀ {L : List Stp} {i : Nat} {x y : Stp}, L[i]? = some x → L[i + 1]? = some y → (jcL L)[i]? = some (cmpD y.b (saysD x y.a).d)
 | [], i, x, y, hx, _ => by simp at hx
 | [_], i, x, y, _, hy => by simp at hy
 | a :: b :: r, i, x, y, hx, hy => by
  rw [jcL]
  cases i with
  | zero => simp at hx hy; subst hx hy; rfl
  | succ i => exact jcL_at (by simpa using hx) (by simpa using hy)
theorem jcL_len : ∀ L : List Stp, (jcL L).length = L.length - 1
 | [] => rfl
 | [_] => rfl
 | a :: b :: r => by rw [jcL, List.length_cons, jcL_len (b :: r)]; simp
theorem jcL_or : ∀ {L : List Stp} {n : Int}, n ∈ jcL L → n = -1 ∨ n = 0 ∨ n = 1
 | [], n, h => by simp [jcL] at h
 | [_], n, h => by simp [jcL] at h
 | a :: b :: r, n, h => by
  rw [jcL] at h
  rcases List.mem_cons.1 h with rfl | h
  ·exact cmp_or _ _
  ·exact jcL_or h
theorem ne_next {L : List Stp} {i : Nat} {x y : Stp} (h : NE L i) (hx : L[i]? = some x) (hy : L[i + 1]? = some y) (hk : (saysD x y.a).e = 0) : NE L (i + 1) := by
 intro j hj a b ha hb
 by_cases e : j = i
 ·subst e; rw [hx] at ha; rw [hy] at hb; cases ha; cases hb; exact hk
 ·exact h j (by omega) a b ha hb
theorem ne_end {L : List Stp} {i : Nat} (h : NE L i) (hi : ¬ i + 1 < L.length) : jE L = 0 :=
 jE_0 (fun j _ a b ha hb => h j (by have := lt_of_get hb; omega) a b ha hb)
def rsE (L : List Stp) : Int := if chkT L = 0 then jE L else chkT L
theorem take_next {α : Type} {L : List α} {i : Nat} {x : α} (h : L[i]? = some x) : L.take (i + 1) = L.take i ++ [x] := by rw [List.take_add_one, h]; rfl
def ic (i : Int) : List Value := [.int .i64 i]
abbrev SI (w : World) (pa : Option Addr) (l : List Int) : Prop := SL w 1 ic pa l
theorem own_nil (w : World) (N : Nat) : w.ownsRow N 3 1 (.slice none 0 0) 0 [] := ⟨by simp, Or.inl ⟨rfl, rfl⟩⟩
theorem jumps_n {x : Tb} (w : World) (hT : LT w x) : Calls Try.prog 35 #[.agg (x.cells).toArray] w fun e9 w' => ∃ pa cap, e9 = .returned (.tuple #[.slice pa (if rsE x.st = 0 then jcL x.st else []).length cap, .int .i64 (rsE x.st)]) ∧ SI w' pa (if rsE x.st = 0 then jcL x.st else []) ∧ Mo w w' := by
 refine w_enter 52 Try.func35 Try.ntmps35 rfl rfl ?_
 have M : Mo w w := Mo.refl _
 refine w_seq (w_reg ?_)
 refine wl_box 24 (.tmp 0) _ (((x.cells).toArray)) rfl rfl (fun _ => by kernel_rfl) rfl ?_
 intro k1 u1 hk hz hq Q1
 have N_k1 : w.heap.size ≤ k1 := by have := M.size; omega
 replace M := M.trans hq
 clear hk hz hq
 refine wl_m (.const (.slice none 0 0)) (.slice none 0 0) ?_
 refine wl_m (.const (.int .i64 (0))) (.int .i64 (0)) ?_
 refine w_nil (xn_then (w_seq (w_seq (w_reg ?_))))
 refine wl_l 24 (.tmp 1) (pt k1 0) (.agg (x.cells).toArray) (run_row Q1 24 0 2 (x.cells) rfl Try.underlying24 rfl szT24) ?_
 refine wl_call 9 [(.tmp 9)] _ [.agg (x.cells).toArray] (.int .i64 (chkT x.st)) rfl rfl (fun _ _ => by kernel_rfl) (pck_n _ (hT.mo M)) rfl ?_
 intro u2 hq
 replace Q1 := Q1.mo hq
 replace M := M.trans hq
 clear hq
 refine wl_m (.tmp 10) (.int .i64 (chkT x.st)) ?_
 refine w_nil (xn_then (w_seq (w_reg ?_)))
 refine wl_m (.tmp 4) (.int .i64 (chkT x.st)) ?_
 cases hf0 : decide (chkT x.st = 0) with
 | true =>
  have hf0p := of_decide_eq_true hf0
  refine wl_b .neq 26 (.tmp 11) (.const (.int .i64 (0))) (.int .i64 (chkT x.st)) (.int .i64 (0)) (.bool false) (ne34 hf0 _ _ _) ?_
  refine w_nil (xn_then (w_condF rfl (w_skip (xn_then (w_seq (w_reg ?_))))))
  refine wl_m (.const (.slice none 0 0)) (.slice none 0 0) ?_
  refine w_nil (xn_then (w_seq (w_seq (w_reg ?_))))
  refine wl_m (.const (.int .i64 (1))) (.int .i64 (1)) ?_
  refine w_nil (xn_then (w_block ?_))
  obtain ⟨hl32, _, hall, _⟩ := chk_0 hf0p
  obtain ⟨N9, hN9⟩ : ∃ N9, N9 = u2.heap.size := ⟨_, rfl⟩
  have hk9 : k1 < N9 := by have := Q1.lt; omega
  have hw9 : w.heap.size ≤ N9 := by have := M.size; omega
  refine w_loop (fun m l w1 => ∃ i : Nat, m = x.st.length - i ∧ i ≤ x.st.length ∧ look l 1 = pt k1 0 ∧ look l 6 = .int .i64 ((i + 1 : Nat) : Int) ∧ At w1 k1 (x.cells) ∧ (∀ k, look l 7 = pt k 0 → k < w1.heap.size) ∧ (N9 ≤ w1.heap.size) ∧ (NE x.st i) ∧ (∃ pa cap, look l 5 = .slice pa ((jcL x.st).take i).length cap ∧ w1.ownsRow N9 3 1 (.slice pa ((jcL x.st).take i).length cap) ((jcL x.st).take i).length (((jcL x.st).take i).flatMap ic)) ∧ Mo w w1) _ ⟨0, rfl, Nat.zero_le _, rfl, rfl, Q1, (fun k e => by cases e), (Nat.le_of_eq hN9), (fun j hj => absurd hj (Nat.not_lt_zero j)), ⟨none, 0, rfl, own_nil _ _⟩, M⟩ ?_
  clear Q1 M
  rintro m l40 wl40 ⟨i, rfl, hi, e40_1, e40_i, Q1, d7, hNw, hne, ⟨pa5, cap5, e5, hown⟩, M⟩
  by_cases hil : i + 1 < x.st.length
  ·skip
   have hid : decide (i + 1 < x.st.length) = true := decide_eq_true hil
   have MB := M
   replace M : Mo wl40 wl40 := Mo.refl _
   have hTB := hT.mo MB
   have hN0 := hNw
   have hown0 := hown
   have hil0 : i < x.st.length := by omega
   obtain ⟨y1, hy1⟩ := get_of_lt hil
   have hmy1 := List.mem_of_getElem? hy1
   obtain ⟨bp, op, hpp, hRp⟩ := D.SL.rw hTB.sl hy1
   obtain ⟨y0, hy0⟩ := get_of_lt hil0
   have hmy0 := List.mem_of_getElem? hy0
   obtain ⟨bq, oq, hpq, hRq⟩ := D.SL.rw hTB.sl hy0
   refine w_seq (w_seq (w_reg ?_))
   refine wl_mv (.tmp 6) (.int .i64 ((i + 1 : Nat) : Int)) (fun _ => rfl) e40_i rfl ?_
   refine wl_un (fun v => Instr.fieldAt 24 v 1) (.tmp 1) (pt k1 0) (pt k1 1) (fun _ => rfl) e40_1 (by kernel_rfl) rfl ?_
   refine wl_l 22 (.tmp 15) (pt k1 1) (.slice x.pa x.st.length x.cap) (run_one Q1 22 1 rfl Try.underlying22 rfl) ?_
   refine wl_val (.int .i64 ((x.st.length : Nat) : Int)) (len22 _ _ _ _ _ (by exact rfl) _ _ _ _ _ _) rfl ?_
   refine wl_b .lss 3 (.tmp 14) (.tmp 17) (.int .i64 ((i + 1 : Nat) : Int)) (.int .i64 ((x.st.length : Nat) : Int)) (.bool true) (ltN hid _ _ _) ?_
   refine w_nil (xn_then (w_condT rfl (w_skip (xn_then (w_seq (w_block (w_seq ?_)))))))
   refine w_any 17 [.inl (pt k1 1), .inl (.slice x.pa x.st.length x.cap), .inl (.int .i64 ((i + 1 : Nat) : Int)), .inl (.int .i64 ((i : Nat) : Int)), .inl (pt bq (oq + i * 18)), .inl (.agg (y0.cells).toArray), .inl (pt k1 1), .inl (.slice x.pa x.st.length x.cap), .inl (.int .i64 ((i + 1 : Nat) : Int)), .inl (pt bp (op + (i + 1) * 18)), .inl (pt bp (op + (i + 1) * 18)), .inl (.agg (y1.a.cells).toArray), .inl (.tuple #[.agg ((saysD y0 y1.a).d.cells).toArray, .int .i64 ((saysD y0 y1.a).e)]), .inl (.tuple #[.agg ((saysD y0 y1.a).d.cells).toArray, .int .i64 ((saysD y0 y1.a).e)]), .inl (.agg ((saysD y0 y1.a).d.cells).toArray), .inl (.int .i64 ((saysD y0 y1.a).e)), .inr [.bool false, .int .u64 0, .int .u64 0, .int .u64 0, .int .u64 0, .int .i64 0]] [15] (by kernel_rfl) (by kernel_rfl) (by kernel_rfl) (by kernel_rfl) rfl (by kernel_rfl) (by kernel_rfl) (late_cons ⟨_, _, rfl, rfl, fun _ _ _ _ h => h, fun f hd => ⟨rfl, la_un (fun v => Instr.extract v 1) (.tmp 21) (.tuple #[.agg ((saysD y0 y1.a).d.cells).toArray, .int .i64 ((saysD y0 y1.a).e)]) (.int .i64 ((saysD y0 y1.a).e)) (fun _ => rfl) (hd 13 rfl _ rfl) (fun w => by kernel_rfl)⟩⟩ late_nil) ?_ ?_ ?_
   ·exact Ds.one 16 (fun q hq => by rcases q with _ | _ | _ | _ | _ | _ | _ | _ | _ | _ | _ | _ | _ | _ | _ | _ | _ | _ | _ | q <;> first | rfl | cases hq) d7
   ·refine ea_cons ?_ (ea_cons ?_ (ea_cons ?_ (ea_cons ?_ (ea_cons ?_ (ea_cons ?_ (ea_cons ?_ (ea_cons ?_ (ea_cons ?_ (ea_cons ?_ (ea_cons ?_ (ea_cons ?_ (ea_cons ?_ (ea_cons ?_ (ea_cons ?_ (ea_cons ?_ (ea_cons ?_ (ea_nil)))))))))))))))))
    ·exact og_eq _ rfl (fun f wf hq hd K hK => go_run rfl (wo_un (fun v => Instr.fieldAt 24 v 1) (.tmp 1) (pt k1 0) (pt k1 1) (fun _ => rfl) e40_1 (by kernel_rfl) (hK _ (Mo.refl _))))
    ·exact og_eq _ rfl (fun f wf hq hd K hK => have Q1 := Q1.mo hq; go_run rfl (wo_load 22 (.tmp 22) (pt k1 1) (.slice x.pa x.st.length x.cap) rfl (hd 0 rfl) (run_one Q1 22 1 rfl Try.underlying22 rfl) (hK _ (Mo.refl _))))
    ·exact og_eq _ rfl (fun f wf hq hd K hK => go_run rfl (wo_mv (.tmp 6) (.int .i64 ((i + 1 : Nat) : Int)) (fun _ => rfl) e40_i (hK _ (Mo.refl _))))
    ·exact og_eq _ rfl (fun f wf hq hd K hK => go_run rfl (wo_bin (fun x y => do eqGuard .sub 3 (.tmp 24) (.const (.int .i64 (1))) x y; binOp .sub 3 x y) (.tmp 24) (.const (.int .i64 (1))) (.int .i64 ((i + 1 : Nat) : Int)) (.int .i64 (1)) (.int .i64 ((i : Nat) : Int)) (fun _ => rfl) (hd 2 rfl) rfl (sub1r (k := i) (by omega) _ _ _) (hK _ (Mo.refl _))))
    ·exact og_eq _ rfl (fun f wf hq hd K hK => go_run rfl (wo_bin (fun x y => Instr.indexAt 22 x y) (.tmp 23) (.tmp 25) (.slice x.pa x.st.length x.cap) (.int .i64 ((i : Nat) : Int)) (pt bq (oq + i * 18)) (fun _ => rfl) (hd 1 rfl) (hd 3 rfl) (ix22 (i := i) hpq hil0 _) (hK _ (Mo.refl _))))
    ·exact og_eq _ rfl (fun f wf hq hd K hK => go_run rfl (wo_load 45 (.tmp 26) (pt bq (oq + i * 18)) (.agg (y0.cells).toArray) rfl (hd 4 rfl) (D.run_partR (hRq.mo (M.trans hq)).at' 45 0 18 (y0.cells) rfl Try.underlying45 rfl sz45) (hK _ (Mo.refl _))))
    ·exact og_eq _ rfl (fun f wf hq hd K hK => go_run rfl (wo_un (fun v => Instr.fieldAt 24 v 1) (.tmp 1) (pt k1 0) (pt k1 1) (fun _ => rfl) e40_1 (by kernel_rfl) (hK _ (Mo.refl _))))
    ·exact og_eq _ rfl (fun f wf hq hd K hK => have Q1 := Q1.mo hq; go_run rfl (wo_load 22 (.tmp 28) (pt k1 1) (.slice x.pa x.st.length x.cap) rfl (hd 6 rfl) (run_one Q1 22 1 rfl Try.underlying22 rfl) (hK _ (Mo.refl _))))
    ·exact og_eq _ rfl (fun f wf hq hd K hK => go_run rfl (wo_mv (.tmp 6) (.int .i64 ((i + 1 : Nat) : Int)) (fun _ => rfl) e40_i (hK _ (Mo.refl _))))
    ·exact og_eq _ rfl (fun f wf hq hd K hK => go_run rfl (wo_bin (fun x y => Instr.indexAt 22 x y) (.tmp 29) (.tmp 30) (.slice x.pa x.st.length x.cap) (.int .i64 ((i + 1 : Nat) : Int)) (pt bp (op + (i + 1) * 18)) (fun _ => rfl) (hd 7 rfl) (hd 8 rfl) (ix22 (i := i + 1) hpp hil _) (hK _ (Mo.refl _))))
    ·exact og_eq _ rfl (fun f wf hq hd K hK => go_run rfl (wo_un (fun v => Instr.fieldAt 45 v 0) (.tmp 31) (pt bp (op + (i + 1) * 18)) (pt bp (op + (i + 1) * 18)) (fun _ => rfl) (hd 9 rfl) (by kernel_rfl) (hK _ (Mo.refl _))))
    ·exact og_eq _ rfl (fun f wf hq hd K hK => go_run rfl (wo_load 33 (.tmp 32) (pt bp (op + (i + 1) * 18)) (.agg (y1.a.cells).toArray) rfl (hd 10 rfl) (D.run_partR (hRp.mo (M.trans hq)).at' 33 0 6 (y1.a.cells) rfl Try.underlying33 rfl sz33) (hK _ (Mo.refl _))))
    ·exact og_eq _ rfl (fun f wf hq hd K hK => go_run rfl (wo_call 32 [(.tmp 27), (.tmp 33)] _ [.agg (y0.cells).toArray, .agg (y1.a.cells).toArray] (.tuple #[.agg ((saysD y0 y1.a).d.cells).toArray, .int .i64 ((saysD y0 y1.a).e)]) rfl (li2 (hd 5 rfl) (hd 11 rfl)) (fun _ _ => by kernel_rfl) (psays_n _ (fit_of hT.ok hall hy0) (fit_of hT.ok hall hy1).1) hK))
    ·exact og_eq _ rfl (fun f wf hq hd K hK => go_run rfl (wo_mv (.tmp 34) (.tuple #[.agg ((saysD y0 y1.a).d.cells).toArray, .int .i64 ((saysD y0 y1.a).e)]) (fun _ => rfl) (hd 12 rfl) (hK _ (Mo.refl _))))
    ·exact og_eq _ rfl (fun f wf hq hd K hK => go_run rfl (wo_un (fun v => Instr.extract v 0) (.tmp 21) (.tuple #[.agg ((saysD y0 y1.a).d.cells).toArray, .int .i64 ((saysD y0 y1.a).e)]) (.agg ((saysD y0 y1.a).d.cells).toArray) (fun _ => rfl) (hd 13 rfl) (by kernel_rfl) (hK _ (Mo.refl _))))
    ·exact og_eq _ rfl (fun f wf hq hd K hK => go_run rfl (wo_un (fun v => Instr.extract v 1) (.tmp 21) (.tuple #[.agg ((saysD y0 y1.a).d.cells).toArray, .int .i64 ((saysD y0 y1.a).e)]) (.int .i64 ((saysD y0 y1.a).e)) (fun _ => rfl) (hd 13 rfl) (by kernel_rfl) (hK _ (Mo.refl _))))
    ·exact og_new [.bool false, .int .u64 0, .int .u64 0, .int .u64 0, .int .u64 0, .int .i64 0] rfl (fun f wf hq hd K hK => go_run rfl (wo_alloc 33 #[.bool false, .int .u64 0, .int .u64 0, .int .u64 0, .int .u64 0, .int .i64 0] rfl (fun _ => by kernel_rfl) hK))
   intro kf41 u41 hq hR hne
   obtain ⟨N_k2, Q2⟩ := hR 16 _ rfl rfl
   have ne_k1_k2 : k1 ≠ (kf41 16) := by have := Q1.lt; omega
   replace N_k2 := Nat.le_trans M.size N_k2
   replace Q1 := Q1.mo hq
   replace M := M.trans hq
   clear hq hR hne
   refine wl_st 33 (.tmp 7) (.tmp 35) (kf41 16) 0 (((saysD y0 y1.a).d.cells).toArray) _ ((saysD y0 y1.a).d.cells) Q2 rfl rfl rfl rfl rfl sz33 rfl rfl rfl ?_
   intro u42 hS Qn
   replace Q2 := Qn
   clear Qn
   replace Q1 := hS.other _ _ ne_k1_k2 Q1
   replace M := hS.mo _ N_k2 M
   clear hS
   refine wl_m (.tmp 36) (.int .i64 ((saysD y0 y1.a).e)) ?_
   refine w_nil (xn_then (w_seq (w_seq (w_reg ?_))))
   refine wl_m (.tmp 8) (.int .i64 ((saysD y0 y1.a).e)) ?_
   cases hf30 : decide ((saysD y0 y1.a).e = 0) with
   | true =>
    have hf30p := of_decide_eq_true hf30
    refine wl_b .neq 26 (.tmp 37) (.const (.int .i64 (0))) (.int .i64 ((saysD y0 y1.a).e)) (.int .i64 (0)) (.bool false) (ne34 hf30 _ _ _) ?_
    refine w_nil (xn_then (w_condF rfl (w_skip (xn_then ?_))))
    refine w_any 9 [.inl (.slice pa5 ((jcL x.st).take i).length cap5), .inl (pt k1 1), .inl (.slice x.pa x.st.length x.cap), .inl (.int .i64 ((i + 1 : Nat) : Int)), .inl (pt bp (op + (i + 1) * 18)), .inl (pt bp (op + (i + 1) * 18 + 6)), .inl (.agg (y1.b.cells).toArray), .inl (.agg ((saysD y0 y1.a).d.cells).toArray), .inl (.int .i64 (cmpD y1.b (saysD y0 y1.a).d))] [0] (by kernel_rfl) (by kernel_rfl) (by kernel_rfl) (by kernel_rfl) rfl (by kernel_rfl) (by kernel_rfl) (late_cons ⟨_, _, rfl, rfl, fun _ _ _ _ h => h, fun f hd => ⟨rfl, la_mv (.tmp 5) (.slice pa5 ((jcL x.st).take i).length cap5) (fun _ => rfl) e5⟩⟩ late_nil) ?_ ?_ ?_
    ·exact Ds.none rfl
    ·refine ea_cons ?_ (ea_cons ?_ (ea_cons ?_ (ea_cons ?_ (ea_cons ?_ (ea_cons ?_ (ea_cons ?_ (ea_cons ?_ (ea_cons ?_ (ea_nil)))))))))
     ·exact og_eq _ rfl (fun f wf hq hd K hK => go_run rfl (wo_mv (.tmp 5) (.slice pa5 ((jcL x.st).take i).length cap5) (fun _ => rfl) e5 (hK _ (Mo.refl _))))
     ·exact og_eq _ rfl (fun f wf hq hd K hK => go_run rfl (wo_un (fun v => Instr.fieldAt 24 v 1) (.tmp 1) (pt k1 0) (pt k1 1) (fun _ => rfl) e40_1 (by kernel_rfl) (hK _ (Mo.refl _))))
     ·exact og_eq _ rfl (fun f wf hq hd K hK => have Q1 := Q1.mo hq; go_run rfl (wo_load 22 (.tmp 41) (pt k1 1) (.slice x.pa x.st.length x.cap) rfl (hd 1 rfl) (run_one Q1 22 1 rfl Try.underlying22 rfl) (hK _ (Mo.refl _))))
     ·exact og_eq _ rfl (fun f wf hq hd K hK => go_run rfl (wo_mv (.tmp 6) (.int .i64 ((i + 1 : Nat) : Int)) (fun _ => rfl) e40_i (hK _ (Mo.refl _))))
     ·exact og_eq _ rfl (fun f wf hq hd K hK => go_run rfl (wo_bin (fun x y => Instr.indexAt 22 x y) (.tmp 42) (.tmp 43) (.slice x.pa x.st.length x.cap) (.int .i64 ((i + 1 : Nat) : Int)) (pt bp (op + (i + 1) * 18)) (fun _ => rfl) (hd 2 rfl) (hd 3 rfl) (ix22 (i := i + 1) hpp hil _) (hK _ (Mo.refl _))))
     ·exact og_eq _ rfl (fun f wf hq hd K hK => go_run rfl (wo_un (fun v => Instr.fieldAt 45 v 1) (.tmp 44) (pt bp (op + (i + 1) * 18)) (pt bp (op + (i + 1) * 18 + 6)) (fun _ => rfl) (hd 4 rfl) (by kernel_rfl) (hK _ (Mo.refl _))))
     ·exact og_eq _ rfl (fun f wf hq hd K hK => go_run rfl (wo_load 33 (.tmp 45) (pt bp (op + (i + 1) * 18 + 6)) (.agg (y1.b.cells).toArray) rfl (hd 5 rfl) (D.run_partR (hRp.mo (M.trans hq)).at' 33 6 6 (y1.b.cells) rfl Try.underlying33 rfl sz33) (hK _ (Mo.refl _))))
     ·exact og_eq _ rfl (fun f wf hq hd K hK => have Q2 := Q2.mo hq; go_run rfl (wo_load 33 (.tmp 7) (pt (kf41 16) 0) (.agg ((saysD y0 y1.a).d.cells).toArray) rfl rfl (run_row Q2 33 0 6 ((saysD y0 y1.a).d.cells) rfl Try.underlying33 rfl sz33) (hK _ (Mo.refl _))))
     ·exact og_eq _ rfl (fun f wf hq hd K hK => go_run rfl (wo_call 27 [(.tmp 46), (.tmp 47)] _ [.agg (y1.b.cells).toArray, .agg ((saysD y0 y1.a).d.cells).toArray] (.int .i64 (cmpD y1.b (saysD y0 y1.a).d)) rfl (li2 (hd 6 rfl) (hd 7 rfl)) (fun _ _ => by kernel_rfl) (pcmp_n (fit_of hT.ok hall hy1).2.1 ((good_says (fit_of hT.ok hall hy0) (fit_of hT.ok hall hy1).1).fit hf30p) _) hK))
    intro kf43 u43 hq hR hne
    replace Q1 := Q1.mo hq
    replace Q2 := Q2.mo hq
    replace M := M.trans hq
    clear hq hR hne
    refine wl_bs 56 1 [(0, (.tmp 48))] [(0, .int .i64 (cmpD y1.b (saysD y0 y1.a).d))] #[.int .i64 (cmpD y1.b (saysD y0 y1.a).d)] 3 rfl rfl (fun _ => by kernel_rfl) rfl ?_
    intro k3 u44 hk hz hq Q3
    have ne_k1_k3 : k1 ≠ k3 := by have := Q1.lt; omega
    have ne_k2_k3 : (kf41 16) ≠ k3 := by have := Q2.lt; omega
    have N_k3 : wl40.heap.size ≤ k3 := by have := M.size; omega
    replace Q1 := Q1.mo hq
    replace Q2 := Q2.mo hq
    replace M := M.trans hq
    clear hk hz hq
    replace hown := own_mo hown M
    have hal : ((jcL x.st).take i).length = i := by rw [List.length_take, jcL_len]; omega
    refine wl_app Try.underlying56 inf3 rfl (by decide) (.tmp 40) (.tmp 49) N9 (.slice pa5 ((jcL x.st).take i).length cap5) ((jcL x.st).take i).length (((jcL x.st).take i).flatMap ic) k3 1 1 [.int .i64 (cmpD y1.b (saysD y0 y1.a).d)] rfl rfl rfl hown rfl Q3 (fun u hu => by simp only [List.mem_cons, List.not_mem_nil, or_false] at hu; rw [hu]; rfl) (by decide) (by rw [hal]; unfold maxLen; omega) (by rw [hal]; omega) (by have := M.size; omega) rfl ?_
    intro v9 u45 hOw hm9 hbk
    have hlt9 := fun k e => own_lt hown (k := k) e
    have hb9 := fun k e => (own_lt hown0 (k := k) e).1
    replace MB := hm9.mo (MB.trans M) (fun k e => by have := (hlt9 k e).2; omega)
    replace Q1 := hm9.at Q1 (fun e => by have := (hlt9 _ e).2; omega)
    obtain ⟨pa6, cap6, rfl, _⟩ := own_form hOw
    replace hOw : u45.ownsRow N9 3 1 (.slice pa6 ((jcL x.st).take (i + 1)).length cap6) ((jcL x.st).take (i + 1)).length (((jcL x.st).take (i + 1)).flatMap ic) := by rw [take_next (jcL_at hy0 hy1)]; simpa [ic] using hOw
    rw [show ((jcL x.st).take i).length + 1 = ((jcL x.st).take (i + 1)).length by rw [take_next (jcL_at hy0 hy1)]; simp]
    refine wl_m (.tmp 50) (.slice pa6 ((jcL x.st).take (i + 1)).length cap6) ?_
    refine w_nil (xn_blk (xn_then (w_reg ?_)))
    refine wl_mv (.tmp 6) (.int .i64 ((i + 1 : Nat) : Int)) (fun _ => rfl) e40_i rfl ?_
    refine wl_b .add 3 (.tmp 19) (.const (.int .i64 (1))) (.int .i64 ((i + 1 : Nat) : Int)) (.int .i64 (1)) (.int .i64 ((i + 1 + 1 : Nat) : Int)) (add1r (k := i + 1) (by omega) _ _ _) ?_
    refine wl_m (.tmp 20) (.int .i64 ((i + 1 + 1 : Nat) : Int)) ?_
    refine w_nil ?_
    exact xn_loop (x.st.length - (i + 1)) (by omega) ⟨i + 1, rfl, by omega, e40_1, rfl, Q1, (fun k e => by have h8 := pt_inj (show pt (kf41 16) 0 = pt k 0 from e); have := Q2.lt; have := hm9.size; omega), (by have := hm9.size; have := M.size; omega), (ne_next hne hy0 hy1 hf30p), ⟨pa6, cap6, rfl, hOw⟩, MB⟩
   | false =>
    have hf30p := of_decide_eq_false hf30
    refine wl_b .neq 26 (.tmp 37) (.const (.int .i64 (0))) (.int .i64 ((saysD y0 y1.a).e)) (.int .i64 (0)) (.bool true) (ne34 hf30 _ _ _) ?_
    refine w_nil (xn_then (w_condT rfl (w_seq (w_reg ?_))))
    refine wl_m (.tmp 8) (.int .i64 ((saysD y0 y1.a).e)) ?_
    refine wl_m (.const (.slice none 0 0)) (.slice none 0 0) ?_
    refine wl_m (.tmp 39) (.int .i64 ((saysD y0 y1.a).e)) ?_
    refine w_nil (xn_then (w_ret (xr_then (xr_blk (xr_then (xr_then (xr_blk (xr_then ?_))))))))
    exact w_ret2 _ _ (.slice none 0 0) (.int .i64 ((saysD y0 y1.a).e)) rfl rfl rfl ⟨none, 0, by rw [show rsE x.st = (saysD y0 y1.a).e by unfold rsE; rw [if_pos hf0p, jE_at hy0 hy1 hne hf30p], if_neg hf30p]; rfl, by rw [show rsE x.st = (saysD y0 y1.a).e by unfold rsE; rw [if_pos hf0p, jE_at hy0 hy1 hne hf30p], if_neg hf30p]; exact ⟨Nat.zero_le _, fun _ _ e => by cases e⟩, MB.trans M⟩
  ·skip
   have hid : decide (i + 1 < x.st.length) = false := decide_eq_false hil
   have htk : ((jcL x.st).take i) = jcL x.st := List.take_of_length_le (by rw [jcL_len]; omega)
   refine w_seq (w_seq (w_reg ?_))
   refine wl_mv (.tmp 6) (.int .i64 ((i + 1 : Nat) : Int)) (fun _ => rfl) e40_i rfl ?_
   refine wl_un (fun v => Instr.fieldAt 24 v 1) (.tmp 1) (pt k1 0) (pt k1 1) (fun _ => rfl) e40_1 (by kernel_rfl) rfl ?_
   refine wl_l 22 (.tmp 15) (pt k1 1) (.slice x.pa x.st.length x.cap) (run_one Q1 22 1 rfl Try.underlying22 rfl) ?_
   refine wl_val (.int .i64 ((x.st.length : Nat) : Int)) (len22 _ _ _ _ _ (by exact rfl) _ _ _ _ _ _) rfl ?_
   refine wl_b .lss 3 (.tmp 14) (.tmp 17) (.int .i64 ((i + 1 : Nat) : Int)) (.int .i64 ((x.st.length : Nat) : Int)) (.bool false) (ltN hid _ _ _) ?_
   refine w_nil (xn_then (w_condF rfl (w_exit (xx_then (xx_then (xx_blk (xn_then (w_seq (w_reg ?_)))))))))
   refine wl_mv (.tmp 5) (.slice pa5 ((jcL x.st).take i).length cap5) (fun _ => rfl) e5 rfl ?_
   refine wl_m (.tmp 51) (.slice pa5 ((jcL x.st).take i).length cap5) ?_
   refine wl_m (.const (.int .i64 (0))) (.int .i64 (0)) ?_
   refine w_nil (xn_then (w_ret ?_))
   exact w_ret2 _ _ (.slice pa5 ((jcL x.st).take i).length cap5) (.int .i64 (0)) rfl rfl rfl ⟨pa5, cap5, by rw [show rsE x.st = 0 by unfold rsE; rw [if_pos hf0p]; exact ne_end hne (by omega), if_pos rfl, htk], by rw [show rsE x.st = 0 by unfold rsE; rw [if_pos hf0p]; exact ne_end hne (by omega), if_pos rfl]; have h9 := hown; rw [htk] at h9; exact own_sl (cells := ic) (L := jcL x.st) (fun _ => rfl) (by rw [jcL_len]; unfold maxLen; omega) h9, M⟩
 | false =>
  have hf0p := of_decide_eq_false hf0
  refine wl_b .neq 26 (.tmp 11) (.const (.int .i64 (0))) (.int .i64 (chkT x.st)) (.int .i64 (0)) (.bool true) (ne34 hf0 _ _ _) ?_
  refine w_nil (xn_then (w_condT rfl (w_seq (w_reg ?_))))
  refine wl_m (.tmp 4) (.int .i64 (chkT x.st)) ?_
  refine wl_m (.const (.slice none 0 0)) (.slice none 0 0) ?_
  refine wl_m (.tmp 13) (.int .i64 (chkT x.st)) ?_
  refine w_nil (xn_then (w_ret (xr_then ?_)))
  exact w_ret2 _ _ (.slice none 0 0) (.int .i64 (chkT x.st)) rfl rfl rfl ⟨none, 0, by rw [show rsE x.st = chkT x.st by unfold rsE; rw [if_neg hf0p], if_neg hf0p]; rfl, by rw [show rsE x.st = chkT x.st by unfold rsE; rw [if_neg hf0p], if_neg hf0p]; exact ⟨Nat.zero_le _, fun _ _ e => by cases e⟩, M⟩
end Go.Proofs.Ythehmmhnacomkaa
namespace Go.Proofs.Ythehmmhnacomkaa
open Go.RowKit D
def cont (l : List Int) (v : Int) : Bool := l.any (fun x => decide (v = x))
theorem cont_t {l : List Int} {v a : Int} {i : Nat} (h : l[i]? = some a) (e : v = a) : cont l v = true := by
 unfold cont; rw [List.any_eq_true]; exact ⟨a, List.mem_of_getElem? h, by simp [e]⟩
theorem cont_f {l : List Int} {v : Int} (h : ∀ j < l.length, ∀ a, l[j]? = some a → ¬ v = a) : cont l v = false := by
 unfold cont; rw [List.any_eq_false]
 intro a ha
 obtain ⟨j, hj⟩ := List.getElem?_of_mem ha
 simp [h j (lt_of_get hj) a hj]
theorem no_next {α : Type} {l : List α} {p : α → Prop} {a : α} {i : Nat} (h : ∀ j < i, ∀ a, l[j]? = some a → p a) (ha : l[i]? = some a) (hv : p a) : ∀ j < i + 1, ∀ a, l[j]? = some a → p a := by
 intro j hj b hb
 by_cases e : j = i
 ·subst e; rw [ha] at hb; cases hb; exact hv
 ·exact h j (by omega) b hb
theorem any_t {L : List Stp} {a : Stp} {i : Nat} (h : L[i]? = some a) (e : fl a = true) : L.any fl = true := by
 rw [List.any_eq_true]; exact ⟨a, List.mem_of_getElem? h, e⟩
theorem any_f {L : List Stp} (h : ∀ j < L.length, ∀ a, L[j]? = some a → fl a = false) : L.any fl = false := by
 rw [List.any_eq_false]
 intro a ha
 obtain ⟨j, hj⟩ := List.getElem?_of_mem ha
 simp [h j (lt_of_get hj) a hj]
theorem index_n {L9 : List Int} {pa : Option Addr} {ca : Nat} (w : World) (v : Int) (hL : SI w pa L9) : Calls Try.prog 58 #[.slice pa L9.length ca, .int .i64 v] w fun e9 w' => ∃ r : Int, e9 = .returned (.int .i64 r) ∧ decide (0 ≤ r) = cont L9 v ∧ Mo w w' := by
 refine w_enter 19 Try.func58 Try.ntmps58 rfl rfl ?_
 have M : Mo w w := Mo.refl _
 refine w_seq (w_reg ?_)
 refine wl_m (.const (.int .i64 (0))) (.int .i64 (0)) ?_
 refine w_nil (xn_then (w_seq (w_seq (w_reg ?_))))
 refine wl_m (.tmp 0) (.slice pa L9.length ca) ?_
 refine wl_val (.int .i64 ((L9.length : Nat) : Int)) (len56 _ _ _ _ _ (by exact rfl) _ _ _ _ _ _) rfl ?_
 refine wl_m (.const (.int .i64 (0))) (.int .i64 (0)) ?_
 refine w_nil (xn_then (w_block ?_))
 have hz9 := hL.1
 unfold maxLen at hz9
 refine w_loop (fun m l w1 => ∃ i : Nat, m = L9.length - i ∧ i ≤ L9.length ∧ look l 0 = .slice pa L9.length ca ∧ look l 1 = .int .i64 (v) ∧ look l 6 = .slice pa L9.length ca ∧ look l 7 = .int .i64 ((L9.length : Nat) : Int) ∧ look l 8 = .int .i64 ((i : Nat) : Int) ∧ (∀ j < i, ∀ a, L9[j]? = some a → ¬ v = a) ∧ Mo w w1) _ ⟨0, rfl, Nat.zero_le _, rfl, rfl, rfl, rfl, rfl, (fun j hj => absurd hj (Nat.not_lt_zero j)), M⟩ ?_
 clear M
 rintro m l40 wl40 ⟨i, rfl, hi, e40_0, e40_1, e40_6, e40_7, e40_i, hno, M⟩
 by_cases hil : i < L9.length
 ·skip
  have hid : decide (i < L9.length) = true := decide_eq_true hil
  obtain ⟨a, ha⟩ := get_of_lt hil
  obtain ⟨bp, op, hpp, hRp⟩ := D.SL.rw hL ha
  refine w_seq (w_reg ?_)
  refine wl_bin (fun x y => do eqGuard .lss 3 (.tmp 8) (.tmp 7) x y; binOp .lss 3 x y) (.tmp 8) (.tmp 7) (.int .i64 ((i : Nat) : Int)) (.int .i64 ((L9.length : Nat) : Int)) (.bool true) (fun _ => rfl) e40_i e40_7 (ltN hid _ _ _) rfl ?_
  refine w_nil (xn_then (w_seq (w_condT rfl (w_skip (xn_then (w_seq (w_block (w_seq (w_reg ?_)))))))))
  refine wl_mv (.tmp 8) (.int .i64 ((i : Nat) : Int)) (fun _ => rfl) e40_i rfl ?_
  refine wl_m (.tmp 10) (.int .i64 ((i : Nat) : Int)) ?_
  refine w_nil (xn_then (w_seq (w_reg ?_)))
  refine wl_mv (.tmp 1) (.int .i64 (v)) (fun _ => rfl) e40_1 rfl ?_
  refine wl_mv (.tmp 0) (.slice pa L9.length ca) (fun _ => rfl) e40_0 rfl ?_
  refine wl_m (.tmp 5) (.int .i64 ((i : Nat) : Int)) ?_
  refine wl_bin (fun x y => Instr.indexAt 56 x y) (.tmp 12) (.tmp 13) (.slice pa L9.length ca) (.int .i64 ((i : Nat) : Int)) (pt bp (op + i * 1)) (fun _ => rfl) rfl rfl (ix56 (i := i) hpp hil _) rfl ?_
  refine wl_l 3 (.tmp 14) (pt bp (op + i * 1)) (.int .i64 (a)) (D.run_oneR (hRp.mo M).at' 3 0 rfl Try.underlying3 rfl) ?_
  cases hf30 : decide (v = a) with
  | true =>
   have hf30p := of_decide_eq_true hf30
   refine wl_b .eql 3 (.tmp 11) (.tmp 15) (.int .i64 (v)) (.int .i64 (a)) (.bool true) (eq3 hf30 _ _ _) ?_
   refine w_nil (xn_then (w_condT rfl (w_seq (w_reg ?_))))
   refine wl_m (.tmp 5) (.int .i64 ((i : Nat) : Int)) ?_
   refine wl_m (.tmp 17) (.int .i64 ((i : Nat) : Int)) ?_
   refine w_nil (xn_then (w_ret (xr_blk (xr_then (xr_then (xr_blk (xr_then ?_)))))))
   exact w_ret1 _ (.int .i64 ((i : Nat) : Int)) rfl rfl ⟨_, rfl, by rw [cont_t ha hf30p]; simp, M⟩
  | false =>
   have hf30p := of_decide_eq_false hf30
   refine wl_b .eql 3 (.tmp 11) (.tmp 15) (.int .i64 (v)) (.int .i64 (a)) (.bool false) (eq3 hf30 _ _ _) ?_
   refine w_nil (xn_then (w_condF rfl (w_skip (xn_blk (xn_then (w_reg ?_))))))
   refine wl_bin (fun x y => do eqGuard .add 3 (.tmp 8) (.const (.int .i64 (1))) x y; binOp .add 3 x y) (.tmp 8) (.const (.int .i64 (1))) (.int .i64 ((i : Nat) : Int)) (.int .i64 (1)) (.int .i64 ((i + 1 : Nat) : Int)) (fun _ => rfl) e40_i rfl (add1r (k := i) (by omega) _ _ _) rfl ?_
   refine wl_m (.tmp 18) (.int .i64 ((i + 1 : Nat) : Int)) ?_
   refine w_nil ?_
   exact xn_loop (L9.length - (i + 1)) (by omega) ⟨i + 1, rfl, by omega, e40_0, e40_1, e40_6, e40_7, rfl, (no_next hno ha hf30p), M⟩
 ·skip
  have hid : decide (i < L9.length) = false := decide_eq_false hil
  have hie : i = L9.length := by omega
  refine w_seq (w_reg ?_)
  refine wl_bin (fun x y => do eqGuard .lss 3 (.tmp 8) (.tmp 7) x y; binOp .lss 3 x y) (.tmp 8) (.tmp 7) (.int .i64 ((i : Nat) : Int)) (.int .i64 ((L9.length : Nat) : Int)) (.bool false) (fun _ => rfl) e40_i e40_7 (ltN hid _ _ _) rfl ?_
  refine w_nil (xn_then (w_seq (w_condF rfl (w_exit (xx_then (xx_then (xx_blk (xn_then (w_seq (w_reg ?_))))))))))
  refine wl_m (.const (.int .i64 (-1))) (.int .i64 (-1)) ?_
  refine w_nil (xn_then (w_ret ?_))
  exact w_ret1 _ (.int .i64 (-1)) rfl rfl ⟨_, rfl, by rw [cont_f (by rw [← hie]; exact hno)]; decide, M⟩
theorem cont_n {L9 : List Int} {pa : Option Addr} {ca : Nat} (w : World) (v : Int) (hL : SI w pa L9) : Calls Try.prog 36 #[.slice pa L9.length ca, .int .i64 v] w fun e9 w' => e9 = .returned (.bool (cont L9 v)) ∧ Mo w w' := by
 refine w_enter 9 Try.func36 Try.ntmps36 rfl rfl ?_
 have M : Mo w w := Mo.refl _
 refine w_seq (w_reg ?_)
 refine wl_m (.const (.bool false)) (.bool false) ?_
 refine w_nil (xn_then (w_seq (w_reg ?_)))
 refine wl_m (.tmp 0) (.slice pa L9.length ca) ?_
 refine wl_m (.tmp 1) (.int .i64 (v)) ?_
 refine wl_callx 58 [(.tmp 5), (.tmp 6)] _ [.slice pa L9.length ca, .int .i64 (v)] rfl rfl (fun _ _ => by kernel_rfl) (index_n _ v hL) rfl ?_
 rintro e9 u1 ⟨r, rfl, hr, hq⟩
 refine ⟨_, rfl, ?_⟩
 replace M := M.trans hq
 clear hq
 cases hf0 : decide (0 ≤ r) with
 | true =>
  have hf0p := of_decide_eq_true hf0
  refine wl_b .geq 3 (.tmp 7) (.const (.int .i64 (0))) (.int .i64 (r)) (.int .i64 (0)) (.bool true) (ge3 hf0 _ _ _) ?_
  refine wl_m (.tmp 8) (.bool true) ?_
  refine w_nil (xn_then (w_ret ?_))
  exact w_ret1 _ (.bool true) rfl rfl ⟨congrArg (fun v => Ending.returned (.bool v)) (hf0.symm.trans hr), M⟩
 | false =>
  have hf0p := of_decide_eq_false hf0
  refine wl_b .geq 3 (.tmp 7) (.const (.int .i64 (0))) (.int .i64 (r)) (.int .i64 (0)) (.bool false) (ge3 hf0 _ _ _) ?_
  refine wl_m (.tmp 8) (.bool false) ?_
  refine w_nil (xn_then (w_ret ?_))
  exact w_ret1 _ (.bool false) rfl rfl ⟨congrArg (fun v => Ending.returned (.bool v)) (hf0.symm.trans hr), M⟩
theorem falls_n {s : Stp} (w : World) (hs : s.ok) : Calls Try.prog 38 #[s.v] w fun e9 w' => e9 = .returned (.bool (fl s)) ∧ Mo w w' := by
 refine w_enter 7 Try.func38 Try.ntmps38 rfl rfl ?_
 have M : Mo w w := Mo.refl _
 refine w_seq (w_reg ?_)
 refine wl_box 45 (.tmp 0) _ (((s.cells).toArray)) rfl rfl (fun _ => by kernel_rfl) rfl ?_
 intro k1 u1 hk hz hq Q1
 have N_k1 : w.heap.size ≤ k1 := by have := M.size; omega
 replace M := M.trans hq
 clear hk hz hq
 refine wl_m (.const (.bool false)) (.bool false) ?_
 refine w_nil (xn_then (w_seq (w_reg ?_)))
 refine wl_f 45 2 (.tmp 1) (pt k1 0) (pt k1 12) ?_
 refine wl_l 33 (.tmp 3) (pt k1 12) (.agg (s.c.cells).toArray) (run_row Q1 33 12 6 (s.c.cells) rfl Try.underlying33 rfl sz33) ?_
 refine wl_call 46 [(.tmp 4)] _ [.agg (s.c.cells).toArray] (.int .i64 (sg s.c.b s.c.n)) rfl rfl (fun _ _ => by kernel_rfl) (psgn_n hs.2.2 _) rfl ?_
 intro u2 hq
 replace Q1 := Q1.mo hq
 replace M := M.trans hq
 clear hq
 cases hf0 : decide (sg s.c.b s.c.n < 0) with
 | true =>
  have hf0p := of_decide_eq_true hf0
  refine wl_b .lss 3 (.tmp 5) (.const (.int .i64 (0))) (.int .i64 (sg s.c.b s.c.n)) (.int .i64 (0)) (.bool true) (lt3 hf0 _ _ _) ?_
  refine wl_m (.tmp 6) (.bool true) ?_
  refine w_nil (xn_then (w_ret ?_))
  exact w_ret1 _ (.bool true) rfl rfl ⟨congrArg (fun v => Ending.returned (.bool v)) (by unfold fl; rw [hf0]), M⟩
 | false =>
  have hf0p := of_decide_eq_false hf0
  refine wl_b .lss 3 (.tmp 5) (.const (.int .i64 (0))) (.int .i64 (sg s.c.b s.c.n)) (.int .i64 (0)) (.bool false) (lt3 hf0 _ _ _) ?_
  refine wl_m (.tmp 6) (.bool false) ?_
  refine w_nil (xn_then (w_ret ?_))
  exact w_ret1 _ (.bool false) rfl rfl ⟨congrArg (fun v => Ending.returned (.bool v)) (by unfold fl; rw [hf0]), M⟩
theorem indexf_n {x : Tb} (w : World) (hT : LT w x) : Calls Try.prog 59 #[.slice x.pa x.st.length x.cap, .func (.func 38) #[] #[]] w fun e9 w' => ∃ r : Int, e9 = .returned (.int .i64 r) ∧ decide (0 ≤ r) = x.st.any fl ∧ Mo w w' := by
 refine w_enter 19 Try.func59 Try.ntmps59 rfl rfl ?_
 have M : Mo w w := Mo.refl _
 refine w_seq (w_reg ?_)
 refine wl_m (.const (.int .i64 (0))) (.int .i64 (0)) ?_
 refine w_nil (xn_then (w_seq (w_seq (w_reg ?_))))
 refine wl_m (.tmp 0) (.slice x.pa x.st.length x.cap) ?_
 refine wl_val (.int .i64 ((x.st.length : Nat) : Int)) (len22 _ _ _ _ _ (by exact rfl) _ _ _ _ _ _) rfl ?_
 refine wl_m (.const (.int .i64 (0))) (.int .i64 (0)) ?_
 refine w_nil (xn_then (w_block ?_))
 have hz9 := hT.sl.1
 unfold maxLen at hz9
 refine w_loop (fun m l w1 => ∃ i : Nat, m = x.st.length - i ∧ i ≤ x.st.length ∧ look l 0 = .slice x.pa x.st.length x.cap ∧ look l 1 = .func (.func 38) #[] #[] ∧ look l 6 = .slice x.pa x.st.length x.cap ∧ look l 7 = .int .i64 ((x.st.length : Nat) : Int) ∧ look l 8 = .int .i64 ((i : Nat) : Int) ∧ (∀ j < i, ∀ a, x.st[j]? = some a → fl a = false) ∧ Mo w w1) _ ⟨0, rfl, Nat.zero_le _, rfl, rfl, rfl, rfl, rfl, (fun j hj => absurd hj (Nat.not_lt_zero j)), M⟩ ?_
 clear M
 rintro m l40 wl40 ⟨i, rfl, hi, e40_0, e40_1, e40_6, e40_7, e40_i, hno, M⟩
 by_cases hil : i < x.st.length
 ·skip
  have hid : decide (i < x.st.length) = true := decide_eq_true hil
  obtain ⟨y, hy⟩ := get_of_lt hil
  have hmy := List.mem_of_getElem? hy
  obtain ⟨bp, op, hpp, hRp⟩ := D.SL.rw hT.sl hy
  refine w_seq (w_reg ?_)
  refine wl_bin (fun x y => do eqGuard .lss 3 (.tmp 8) (.tmp 7) x y; binOp .lss 3 x y) (.tmp 8) (.tmp 7) (.int .i64 ((i : Nat) : Int)) (.int .i64 ((x.st.length : Nat) : Int)) (.bool true) (fun _ => rfl) e40_i e40_7 (ltN hid _ _ _) rfl ?_
  refine w_nil (xn_then (w_seq (w_condT rfl (w_skip (xn_then (w_seq (w_block (w_seq (w_reg ?_)))))))))
  refine wl_mv (.tmp 8) (.int .i64 ((i : Nat) : Int)) (fun _ => rfl) e40_i rfl ?_
  refine wl_m (.tmp 10) (.int .i64 ((i : Nat) : Int)) ?_
  refine w_nil (xn_then (w_seq (w_reg ?_)))
  refine wl_mv (.tmp 1) (.func (.func 38) #[] #[]) (fun _ => rfl) e40_1 rfl ?_
  refine wl_mv (.tmp 0) (.slice x.pa x.st.length x.cap) (fun _ => rfl) e40_0 rfl ?_
  refine wl_m (.tmp 5) (.int .i64 ((i : Nat) : Int)) ?_
  refine wl_bin (fun x y => Instr.indexAt 22 x y) (.tmp 12) (.tmp 13) (.slice x.pa x.st.length x.cap) (.int .i64 ((i : Nat) : Int)) (pt bp (op + i * 18)) (fun _ => rfl) rfl rfl (ix22 (i := i) hpp hil _) rfl ?_
  refine wl_l 45 (.tmp 14) (pt bp (op + i * 18)) (.agg (y.cells).toArray) (D.run_partR (hRp.mo M).at' 45 0 18 (y.cells) rfl Try.underlying45 rfl sz45) ?_
  refine wl_callv 38 (.tmp 11) #[] #[] [(.tmp 15)] _ [.agg (y.cells).toArray] [.agg (y.cells).toArray] rfl rfl rfl rfl (fun _ _ => by kernel_rfl) (falls_n _ (hT.ok y hmy)) rfl ?_
  rintro e9 u41 ⟨rfl, hq⟩
  refine ⟨_, rfl, ?_⟩
  replace M := M.trans hq
  clear hq
  refine w_nil (xn_then ?_)
  cases hf30 : fl y with
  | true =>
   refine w_condT rfl (w_seq (w_reg ?_))
   refine wl_m (.tmp 5) (.int .i64 ((i : Nat) : Int)) ?_
   refine wl_m (.tmp 17) (.int .i64 ((i : Nat) : Int)) ?_
   refine w_nil (xn_then (w_ret (xr_blk (xr_then (xr_then (xr_blk (xr_then ?_)))))))
   exact w_ret1 _ (.int .i64 ((i : Nat) : Int)) rfl rfl ⟨_, rfl, by rw [any_t hy hf30]; simp, M⟩
  | false =>
   refine w_condF rfl (w_skip (xn_blk (xn_then (w_reg ?_))))
   refine wl_bin (fun x y => do eqGuard .add 3 (.tmp 8) (.const (.int .i64 (1))) x y; binOp .add 3 x y) (.tmp 8) (.const (.int .i64 (1))) (.int .i64 ((i : Nat) : Int)) (.int .i64 (1)) (.int .i64 ((i + 1 : Nat) : Int)) (fun _ => rfl) e40_i rfl (add1r (k := i) (by omega) _ _ _) rfl ?_
   refine wl_m (.tmp 18) (.int .i64 ((i + 1 : Nat) : Int)) ?_
   refine w_nil ?_
   exact xn_loop (x.st.length - (i + 1)) (by omega) ⟨i + 1, rfl, by omega, e40_0, e40_1, e40_6, e40_7, rfl, (no_next hno hy hf30), M⟩
 ·skip
  have hid : decide (i < x.st.length) = false := decide_eq_false hil
  have hie : i = x.st.length := by omega
  refine w_seq (w_reg ?_)
  refine wl_bin (fun x y => do eqGuard .lss 3 (.tmp 8) (.tmp 7) x y; binOp .lss 3 x y) (.tmp 8) (.tmp 7) (.int .i64 ((i : Nat) : Int)) (.int .i64 ((x.st.length : Nat) : Int)) (.bool false) (fun _ => rfl) e40_i e40_7 (ltN hid _ _ _) rfl ?_
  refine w_nil (xn_then (w_seq (w_condF rfl (w_exit (xx_then (xx_then (xx_blk (xn_then (w_seq (w_reg ?_))))))))))
  refine wl_m (.const (.int .i64 (-1))) (.int .i64 (-1)) ?_
  refine w_nil (xn_then (w_ret ?_))
  exact w_ret1 _ (.int .i64 (-1)) rfl rfl ⟨_, rfl, by rw [any_f (by rw [← hie]; exact hno)]; decide, M⟩
theorem contf_n {x : Tb} (w : World) (hT : LT w x) : Calls Try.prog 37 #[.slice x.pa x.st.length x.cap, .func (.func 38) #[] #[]] w fun e9 w' => e9 = .returned (.bool (x.st.any fl)) ∧ Mo w w' := by
 refine w_enter 9 Try.func37 Try.ntmps37 rfl rfl ?_
 have M : Mo w w := Mo.refl _
 refine w_seq (w_reg ?_)
 refine wl_m (.const (.bool false)) (.bool false) ?_
 refine w_nil (xn_then (w_seq (w_reg ?_)))
 refine wl_m (.tmp 0) (.slice x.pa x.st.length x.cap) ?_
 refine wl_m (.tmp 1) (.func (.func 38) #[] #[]) ?_
 refine wl_callx 59 [(.tmp 5), (.tmp 6)] _ [.slice x.pa x.st.length x.cap, .func (.func 38) #[] #[]] rfl rfl (fun _ _ => by kernel_rfl) (indexf_n _ hT) rfl ?_
 rintro e9 u1 ⟨r, rfl, hr, hq⟩
 refine ⟨_, rfl, ?_⟩
 replace M := M.trans hq
 clear hq
 cases hf0 : decide (0 ≤ r) with
 | true =>
  have hf0p := of_decide_eq_true hf0
  refine wl_b .geq 3 (.tmp 7) (.const (.int .i64 (0))) (.int .i64 (r)) (.int .i64 (0)) (.bool true) (ge3 hf0 _ _ _) ?_
  refine wl_m (.tmp 8) (.bool true) ?_
  refine w_nil (xn_then (w_ret ?_))
  exact w_ret1 _ (.bool true) rfl rfl ⟨congrArg (fun v => Ending.returned (.bool v)) (hf0.symm.trans hr), M⟩
 | false =>
  have hf0p := of_decide_eq_false hf0
  refine wl_b .geq 3 (.tmp 7) (.const (.int .i64 (0))) (.int .i64 (r)) (.int .i64 (0)) (.bool false) (ge3 hf0 _ _ _) ?_
  refine wl_m (.tmp 8) (.bool false) ?_
  refine w_nil (xn_then (w_ret ?_))
  exact w_ret1 _ (.bool false) rfl rfl ⟨congrArg (fun v => Ending.returned (.bool v)) (hf0.symm.trans hr), M⟩
def upB (ris : Bool) (n : Int) : Bool := !decide (n < 0) && (ris || !decide (0 < n))
def rsB (ris : Bool) (L : List Stp) : Bool := if rsE L = 0 then ((jcL L).all (upB ris) && L.all (fun s => !(ris && fl s))) else false
theorem all_up {l : List Int} (h : ∀ n ∈ l, n = -1 ∨ n = 0 ∨ n = 1) : l.all (upB true) = !cont l (-1) ∧ l.all (upB false) = (!cont l (-1) && !cont l 1) := by
 induction l with
 | nil => exact ⟨rfl, rfl⟩
 | cons n l ih =>
  obtain ⟨i1, i2⟩ := ih (fun m hm => h m (List.mem_cons_of_mem _ hm))
  unfold cont at i1 i2 ⊢
  simp only [List.all_cons, List.any_cons, i1, i2]
  rcases h n List.mem_cons_self with rfl | rfl | rfl <;> simp [upB]
theorem all_fl : ∀ L : List Stp, L.all (fun s => !(true && fl s)) = !L.any fl
 | [] => rfl
 | a :: L => by rw [List.all_cons, List.any_cons, all_fl L]; cases fl a <;> rfl
theorem rs_t {L : List Stp} (h : rsE L = 0) : rsB true L = (!cont (jcL L) (-1) && !L.any fl) := by
 unfold rsB
 rw [if_pos h, (all_up (fun n hn => jcL_or hn)).1]
 rw [all_fl]
theorem rs_f {L : List Stp} (h : rsE L = 0) : rsB false L = (!cont (jcL L) (-1) && !cont (jcL L) 1) := by
 unfold rsB
 rw [if_pos h, (all_up (fun n hn => jcL_or hn)).2]
 simp
theorem rs_no {L : List Stp} {ris : Bool} (h : ¬ rsE L = 0) : rsB ris L = false := by unfold rsB; rw [if_neg h]
theorem rs_ret {a b : Bool} {c d : Int} (h1 : a = b) (h2 : c = d) : Ending.returned (.tuple #[.bool a, .int .i64 c]) = .returned (.tuple #[.bool b, .int .i64 d]) := by rw [h1, h2]
theorem pris_n {x : Tb} (w : World) (hT : LT w x) : Calls Try.prog 19 #[.agg (x.cells).toArray] w fun e9 w' => e9 = .returned (.tuple #[.bool (rsB true x.st), .int .i64 (rsE x.st)]) ∧ Mo w w' := by
 refine w_enter 23 Try.func19 Try.ntmps19 rfl rfl ?_
 have M : Mo w w := Mo.refl _
 refine w_seq (w_reg ?_)
 refine wl_box 24 (.tmp 0) _ (((x.cells).toArray)) rfl rfl (fun _ => by kernel_rfl) rfl ?_
 intro k1 u1 hk hz hq Q1
 have N_k1 : w.heap.size ≤ k1 := by have := M.size; omega
 replace M := M.trans hq
 clear hk hz hq
 refine wl_m (.const (.bool false)) (.bool false) ?_
 refine wl_m (.const (.int .i64 (0))) (.int .i64 (0)) ?_
 refine w_nil (xn_then (w_seq (w_reg ?_)))
 refine wl_l 24 (.tmp 1) (pt k1 0) (.agg (x.cells).toArray) (run_row Q1 24 0 2 (x.cells) rfl Try.underlying24 rfl szT24) ?_
 refine wl_callx 35 [(.tmp 7)] _ [.agg (x.cells).toArray] rfl rfl (fun _ _ => by kernel_rfl) (jumps_n _ (hT.mo M)) rfl ?_
 rintro e9 u2 ⟨pj, cj, rfl, hL, hq⟩
 refine ⟨_, rfl, ?_⟩
 replace Q1 := Q1.mo hq
 replace M := M.trans hq
 clear hq
 refine wl_m (.tmp 8) (.tuple #[.slice pj (if rsE x.st = 0 then jcL x.st else []).length cj, .int .i64 (rsE x.st)]) ?_
 refine wl_un (fun v => Instr.extract v 0) (.tmp 6) (.tuple #[.slice pj (if rsE x.st = 0 then jcL x.st else []).length cj, .int .i64 (rsE x.st)]) (.slice pj (if rsE x.st = 0 then jcL x.st else []).length cj) (fun _ => rfl) rfl (by kernel_rfl) rfl ?_
 refine wl_un (fun v => Instr.extract v 1) (.tmp 6) (.tuple #[.slice pj (if rsE x.st = 0 then jcL x.st else []).length cj, .int .i64 (rsE x.st)]) (.int .i64 (rsE x.st)) (fun _ => rfl) rfl (by kernel_rfl) rfl ?_
 refine wl_m (.tmp 9) (.slice pj (if rsE x.st = 0 then jcL x.st else []).length cj) ?_
 refine wl_m (.tmp 10) (.int .i64 (rsE x.st)) ?_
 refine w_nil (xn_then (w_seq (w_seq (w_reg ?_))))
 refine wl_m (.tmp 5) (.int .i64 (rsE x.st)) ?_
 cases hf0 : decide (rsE x.st = 0) with
 | true =>
  have hf0p := of_decide_eq_true hf0
  refine wl_b .neq 26 (.tmp 11) (.const (.int .i64 (0))) (.int .i64 (rsE x.st)) (.int .i64 (0)) (.bool false) (ne34 hf0 _ _ _) ?_
  refine w_nil (xn_then (w_condF rfl (w_skip (xn_then (w_seq (w_reg ?_))))))
  refine wl_m (.tmp 4) (.slice pj (if rsE x.st = 0 then jcL x.st else []).length cj) ?_
  cases hf1 : cont (if rsE x.st = 0 then jcL x.st else []) (-1) with
  | true =>
   refine wl_call 36 [(.tmp 14), (.const (.int .i64 (-1)))] _ [.slice pj (if rsE x.st = 0 then jcL x.st else []).length cj, .int .i64 (-1)] (.bool true) rfl rfl (fun _ _ => by kernel_rfl) (cB hf1 (cont_n _ (-1) hL)) rfl ?_
   intro u3 hq
   replace Q1 := Q1.mo hq
   replace hL := hL.kp hq.kp
   replace M := M.trans hq
   clear hq
   refine wl_un (fun v => Op.unary .not v) (.tmp 15) (.bool true) (.bool false) (fun _ => rfl) rfl (by kernel_rfl) rfl ?_
   refine wl_m (.tmp 16) (.bool false) ?_
   refine wl_skip rfl (wl_skip rfl (wl_skip rfl (wl_skip rfl ?_)))
   refine wl_pick (.tmp 17) (.tmp 21) (.const (.bool false)) false (.bool false) (fun _ => rfl) rfl rfl rfl ?_
   refine wl_m (.tmp 22) (.bool false) ?_
   refine wl_m (.const (.int .i64 (0))) (.int .i64 (0)) ?_
   refine w_nil (xn_then (w_ret ?_))
   exact w_ret2 _ _ (.bool false) (.int .i64 (0)) rfl rfl rfl ⟨rs_ret (by rw [rs_t hf0p, (show cont (jcL x.st) (-1) = true from by have h9 := hf1; rw [if_pos hf0p] at h9; exact h9)]; rfl) hf0p.symm, M⟩
  | false =>
   refine wl_call 36 [(.tmp 14), (.const (.int .i64 (-1)))] _ [.slice pj (if rsE x.st = 0 then jcL x.st else []).length cj, .int .i64 (-1)] (.bool false) rfl rfl (fun _ _ => by kernel_rfl) (cB hf1 (cont_n _ (-1) hL)) rfl ?_
   intro u3 hq
   replace Q1 := Q1.mo hq
   replace hL := hL.kp hq.kp
   replace M := M.trans hq
   clear hq
   refine wl_un (fun v => Op.unary .not v) (.tmp 15) (.bool false) (.bool true) (fun _ => rfl) rfl (by kernel_rfl) rfl ?_
   refine wl_m (.tmp 16) (.bool true) ?_
   refine wl_f 24 1 (.tmp 1) (pt k1 0) (pt k1 1) ?_
   refine wl_l 22 (.tmp 18) (pt k1 1) (.slice x.pa x.st.length x.cap) (run_one Q1 22 1 rfl Try.underlying22 rfl) ?_
   cases hf2 : x.st.any fl with
   | true =>
    refine wl_call 37 [(.tmp 19), (.func 38)] _ [.slice x.pa x.st.length x.cap, .func (.func 38) #[] #[]] (.bool true) rfl rfl (fun _ _ => by kernel_rfl) (cB hf2 (contf_n _ (hT.mo M))) rfl ?_
    intro u4 hq
    replace Q1 := Q1.mo hq
    replace hL := hL.kp hq.kp
    replace M := M.trans hq
    clear hq
    refine wl_un (fun v => Op.unary .not v) (.tmp 20) (.bool true) (.bool false) (fun _ => rfl) rfl (by kernel_rfl) rfl ?_
    refine wl_pick (.tmp 17) (.tmp 21) (.const (.bool false)) true (.bool false) (fun _ => rfl) rfl rfl rfl ?_
    refine wl_m (.tmp 22) (.bool false) ?_
    refine wl_m (.const (.int .i64 (0))) (.int .i64 (0)) ?_
    refine w_nil (xn_then (w_ret ?_))
    exact w_ret2 _ _ (.bool false) (.int .i64 (0)) rfl rfl rfl ⟨rs_ret (by rw [rs_t hf0p, (show cont (jcL x.st) (-1) = false from by have h9 := hf1; rw [if_pos hf0p] at h9; exact h9), hf2]; rfl) hf0p.symm, M⟩
   | false =>
    refine wl_call 37 [(.tmp 19), (.func 38)] _ [.slice x.pa x.st.length x.cap, .func (.func 38) #[] #[]] (.bool false) rfl rfl (fun _ _ => by kernel_rfl) (cB hf2 (contf_n _ (hT.mo M))) rfl ?_
    intro u4 hq
    replace Q1 := Q1.mo hq
    replace hL := hL.kp hq.kp
    replace M := M.trans hq
    clear hq
    refine wl_un (fun v => Op.unary .not v) (.tmp 20) (.bool false) (.bool true) (fun _ => rfl) rfl (by kernel_rfl) rfl ?_
    refine wl_pick (.tmp 17) (.tmp 21) (.const (.bool false)) true (.bool true) (fun _ => rfl) rfl rfl rfl ?_
    refine wl_m (.tmp 22) (.bool true) ?_
    refine wl_m (.const (.int .i64 (0))) (.int .i64 (0)) ?_
    refine w_nil (xn_then (w_ret ?_))
    exact w_ret2 _ _ (.bool true) (.int .i64 (0)) rfl rfl rfl ⟨rs_ret (by rw [rs_t hf0p, (show cont (jcL x.st) (-1) = false from by have h9 := hf1; rw [if_pos hf0p] at h9; exact h9), hf2]; rfl) hf0p.symm, M⟩
 | false =>
  have hf0p := of_decide_eq_false hf0
  refine wl_b .neq 26 (.tmp 11) (.const (.int .i64 (0))) (.int .i64 (rsE x.st)) (.int .i64 (0)) (.bool true) (ne34 hf0 _ _ _) ?_
  refine w_nil (xn_then (w_condT rfl (w_seq (w_reg ?_))))
  refine wl_m (.tmp 5) (.int .i64 (rsE x.st)) ?_
  refine wl_m (.const (.bool false)) (.bool false) ?_
  refine wl_m (.tmp 13) (.int .i64 (rsE x.st)) ?_
  refine w_nil (xn_then (w_ret (xr_then ?_)))
  exact w_ret2 _ _ (.bool false) (.int .i64 (rsE x.st)) rfl rfl rfl ⟨rs_ret (rs_no hf0p).symm rfl, M⟩
theorem pjoi_n {x : Tb} (w : World) (hT : LT w x) : Calls Try.prog 21 #[.agg (x.cells).toArray] w fun e9 w' => e9 = .returned (.tuple #[.bool (rsB false x.st), .int .i64 (rsE x.st)]) ∧ Mo w w' := by
 refine w_enter 22 Try.func21 Try.ntmps21 rfl rfl ?_
 have M : Mo w w := Mo.refl _
 refine w_seq (w_reg ?_)
 refine wl_box 24 (.tmp 0) _ (((x.cells).toArray)) rfl rfl (fun _ => by kernel_rfl) rfl ?_
 intro k1 u1 hk hz hq Q1
 have N_k1 : w.heap.size ≤ k1 := by have := M.size; omega
 replace M := M.trans hq
 clear hk hz hq
 refine wl_m (.const (.bool false)) (.bool false) ?_
 refine wl_m (.const (.int .i64 (0))) (.int .i64 (0)) ?_
 refine w_nil (xn_then (w_seq (w_reg ?_)))
 refine wl_l 24 (.tmp 1) (pt k1 0) (.agg (x.cells).toArray) (run_row Q1 24 0 2 (x.cells) rfl Try.underlying24 rfl szT24) ?_
 refine wl_callx 35 [(.tmp 7)] _ [.agg (x.cells).toArray] rfl rfl (fun _ _ => by kernel_rfl) (jumps_n _ (hT.mo M)) rfl ?_
 rintro e9 u2 ⟨pj, cj, rfl, hL, hq⟩
 refine ⟨_, rfl, ?_⟩
 replace Q1 := Q1.mo hq
 replace M := M.trans hq
 clear hq
 refine wl_m (.tmp 8) (.tuple #[.slice pj (if rsE x.st = 0 then jcL x.st else []).length cj, .int .i64 (rsE x.st)]) ?_
 refine wl_un (fun v => Instr.extract v 0) (.tmp 6) (.tuple #[.slice pj (if rsE x.st = 0 then jcL x.st else []).length cj, .int .i64 (rsE x.st)]) (.slice pj (if rsE x.st = 0 then jcL x.st else []).length cj) (fun _ => rfl) rfl (by kernel_rfl) rfl ?_
 refine wl_un (fun v => Instr.extract v 1) (.tmp 6) (.tuple #[.slice pj (if rsE x.st = 0 then jcL x.st else []).length cj, .int .i64 (rsE x.st)]) (.int .i64 (rsE x.st)) (fun _ => rfl) rfl (by kernel_rfl) rfl ?_
 refine wl_m (.tmp 9) (.slice pj (if rsE x.st = 0 then jcL x.st else []).length cj) ?_
 refine wl_m (.tmp 10) (.int .i64 (rsE x.st)) ?_
 refine w_nil (xn_then (w_seq (w_seq (w_reg ?_))))
 refine wl_m (.tmp 5) (.int .i64 (rsE x.st)) ?_
 cases hf0 : decide (rsE x.st = 0) with
 | true =>
  have hf0p := of_decide_eq_true hf0
  refine wl_b .neq 26 (.tmp 11) (.const (.int .i64 (0))) (.int .i64 (rsE x.st)) (.int .i64 (0)) (.bool false) (ne34 hf0 _ _ _) ?_
  refine w_nil (xn_then (w_condF rfl (w_skip (xn_then (w_seq (w_reg ?_))))))
  refine wl_m (.tmp 4) (.slice pj (if rsE x.st = 0 then jcL x.st else []).length cj) ?_
  cases hf1 : cont (if rsE x.st = 0 then jcL x.st else []) (-1) with
  | true =>
   refine wl_call 36 [(.tmp 14), (.const (.int .i64 (-1)))] _ [.slice pj (if rsE x.st = 0 then jcL x.st else []).length cj, .int .i64 (-1)] (.bool true) rfl rfl (fun _ _ => by kernel_rfl) (cB hf1 (cont_n _ (-1) hL)) rfl ?_
   intro u3 hq
   replace Q1 := Q1.mo hq
   replace hL := hL.kp hq.kp
   replace M := M.trans hq
   clear hq
   refine wl_un (fun v => Op.unary .not v) (.tmp 15) (.bool true) (.bool false) (fun _ => rfl) rfl (by kernel_rfl) rfl ?_
   refine wl_m (.tmp 16) (.bool false) ?_
   refine wl_skip rfl (wl_skip rfl (wl_skip rfl ?_))
   refine wl_pick (.tmp 17) (.tmp 20) (.const (.bool false)) false (.bool false) (fun _ => rfl) rfl rfl rfl ?_
   refine wl_m (.tmp 21) (.bool false) ?_
   refine wl_m (.const (.int .i64 (0))) (.int .i64 (0)) ?_
   refine w_nil (xn_then (w_ret ?_))
   exact w_ret2 _ _ (.bool false) (.int .i64 (0)) rfl rfl rfl ⟨rs_ret (by rw [rs_f hf0p, (show cont (jcL x.st) (-1) = true from by have h9 := hf1; rw [if_pos hf0p] at h9; exact h9)]; rfl) hf0p.symm, M⟩
  | false =>
   refine wl_call 36 [(.tmp 14), (.const (.int .i64 (-1)))] _ [.slice pj (if rsE x.st = 0 then jcL x.st else []).length cj, .int .i64 (-1)] (.bool false) rfl rfl (fun _ _ => by kernel_rfl) (cB hf1 (cont_n _ (-1) hL)) rfl ?_
   intro u3 hq
   replace Q1 := Q1.mo hq
   replace hL := hL.kp hq.kp
   replace M := M.trans hq
   clear hq
   refine wl_un (fun v => Op.unary .not v) (.tmp 15) (.bool false) (.bool true) (fun _ => rfl) rfl (by kernel_rfl) rfl ?_
   refine wl_m (.tmp 16) (.bool true) ?_
   refine wl_m (.tmp 4) (.slice pj (if rsE x.st = 0 then jcL x.st else []).length cj) ?_
   cases hf2 : cont (if rsE x.st = 0 then jcL x.st else []) (1) with
   | true =>
    refine wl_call 36 [(.tmp 18), (.const (.int .i64 (1)))] _ [.slice pj (if rsE x.st = 0 then jcL x.st else []).length cj, .int .i64 (1)] (.bool true) rfl rfl (fun _ _ => by kernel_rfl) (cB hf2 (cont_n _ (1) hL)) rfl ?_
    intro u4 hq
    replace Q1 := Q1.mo hq
    replace hL := hL.kp hq.kp
    replace M := M.trans hq
    clear hq
    refine wl_un (fun v => Op.unary .not v) (.tmp 19) (.bool true) (.bool false) (fun _ => rfl) rfl (by kernel_rfl) rfl ?_
    refine wl_pick (.tmp 17) (.tmp 20) (.const (.bool false)) true (.bool false) (fun _ => rfl) rfl rfl rfl ?_
    refine wl_m (.tmp 21) (.bool false) ?_
    refine wl_m (.const (.int .i64 (0))) (.int .i64 (0)) ?_
    refine w_nil (xn_then (w_ret ?_))
    exact w_ret2 _ _ (.bool false) (.int .i64 (0)) rfl rfl rfl ⟨rs_ret (by rw [rs_f hf0p, (show cont (jcL x.st) (-1) = false from by have h9 := hf1; rw [if_pos hf0p] at h9; exact h9), (show cont (jcL x.st) (1) = true from by have h9 := hf2; rw [if_pos hf0p] at h9; exact h9)]; rfl) hf0p.symm, M⟩
   | false =>
    refine wl_call 36 [(.tmp 18), (.const (.int .i64 (1)))] _ [.slice pj (if rsE x.st = 0 then jcL x.st else []).length cj, .int .i64 (1)] (.bool false) rfl rfl (fun _ _ => by kernel_rfl) (cB hf2 (cont_n _ (1) hL)) rfl ?_
    intro u4 hq
    replace Q1 := Q1.mo hq
    replace hL := hL.kp hq.kp
    replace M := M.trans hq
    clear hq
    refine wl_un (fun v => Op.unary .not v) (.tmp 19) (.bool false) (.bool true) (fun _ => rfl) rfl (by kernel_rfl) rfl ?_
    refine wl_pick (.tmp 17) (.tmp 20) (.const (.bool false)) true (.bool true) (fun _ => rfl) rfl rfl rfl ?_
    refine wl_m (.tmp 21) (.bool true) ?_
    refine wl_m (.const (.int .i64 (0))) (.int .i64 (0)) ?_
    refine w_nil (xn_then (w_ret ?_))
    exact w_ret2 _ _ (.bool true) (.int .i64 (0)) rfl rfl rfl ⟨rs_ret (by rw [rs_f hf0p, (show cont (jcL x.st) (-1) = false from by have h9 := hf1; rw [if_pos hf0p] at h9; exact h9), (show cont (jcL x.st) (1) = false from by have h9 := hf2; rw [if_pos hf0p] at h9; exact h9)]; rfl) hf0p.symm, M⟩
 | false =>
  have hf0p := of_decide_eq_false hf0
  refine wl_b .neq 26 (.tmp 11) (.const (.int .i64 (0))) (.int .i64 (rsE x.st)) (.int .i64 (0)) (.bool true) (ne34 hf0 _ _ _) ?_
  refine w_nil (xn_then (w_condT rfl (w_seq (w_reg ?_))))
  refine wl_m (.tmp 5) (.int .i64 (rsE x.st)) ?_
  refine wl_m (.const (.bool false)) (.bool false) ?_
  refine wl_m (.tmp 13) (.int .i64 (rsE x.st)) ?_
  refine w_nil (xn_then (w_ret (xr_then ?_)))
  exact w_ret2 _ _ (.bool false) (.int .i64 (rsE x.st)) rfl rfl rfl ⟨rs_ret (rs_no hf0p).symm rfl, M⟩
end Go.Proofs.Ythehmmhnacomkaa
