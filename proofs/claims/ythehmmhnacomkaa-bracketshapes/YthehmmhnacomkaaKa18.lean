/-
  A part of the proof.
-/
import Derived.Test.YthehmmhnacomkaaKa17
import Derived.Test.YthehmmhnacomkaaKa16
import Derived.Test.YthehmmhnacomkaaKa15
import Derived.Test.YthehmmhnacomkaaKa14
import Derived.Test.YthehmmhnacomkaaKa11
import Derived.Test.YthehmmhnacomkaaKa10
import Derived.Test.YthehmmhnacomkaaKa3
import Derived.Test.YthehmmhnacomkaaKa2
import Derived.Test.YthehmmhnacomkaaKa1
import Derived.RegionTactic
import Derived.Test.YthehmmhnacomkaaProg
import Derived.WalkKit
import Derived.WalkSpells
import Derived.Handy
import Derived.BigQuiet
import Derived.Deep.RegionHeld3
import Derived.Deep.MidRow
import Derived.BigCall
import Derived.Test.YthehmmhnacomkaaKa9
import Derived.Test.YthehmmhnacomkaaKa8
import Derived.Test.YthehmmhnacomkaaKa5
import Derived.Test.YthehmmhnacomkaaKa4
import Derived.Shelf.Small.Bits
import Derived.Shelf.Strconv.Itoa0
import Derived.Shelf.Bits.Mul64
import Derived.Deep.CutBlock
import Derived.Deep.CutRange
import Derived.Test.YthehmmhnacomkaaKa7
import Derived.Test.YthehmmhnacomkaaKa6
import Derived.ChangeKeysEq
import Derived.ScopeJumps
import Derived.WalkMore
import Derived.Laws.StructEq
import Derived.Test.YthehmmhnacomkaaKa13
import Derived.Test.YthehmmhnacomkaaKa12
import Derived.Lib.CutLaws
import Derived.Maps.OwnSet
import Derived.WalkArith
import Derived.StringKeys
import Derived.ProofKit
import Derived.OpenShut
import Derived.ChangeArms
import Derived.Deep.Slices
import Derived.ReadAgain
import Derived.WideKeyArgs
import Derived.Maps.AppendAt
namespace Go.Proofs.Ythehmmhnacomkaa
open Go.RowKit D
theorem ckS_ne {s : Stp} (h : ¬ ckS s = 0) : okS s = false ∧ ckS s = 20 := by
 have q := ckS_ok (s := s)
 cases e : okS s with
 | true => rw [e] at q; exact absurd q h
 | false => rw [e] at q; exact ⟨rfl, q⟩
theorem ckS_eq {s : Stp} (h : ckS s = 0) : okS s = true := by
 have q := ckS_ok (s := s)
 cases e : okS s with
 | true => rfl
 | false => rw [e] at q; rw [q] at h; exact absurd h (by decide)
theorem ok_next {L : List Stp} {i : Nat} {y : Stp} (h : ∀ j < i, ∀ y, L[j]? = some y → okS y = true) (hy : L[i]? = some y) (hk : okS y = true) : ∀ j < i + 1, ∀ y, L[j]? = some y → okS y = true := by
 intro j hj z hz
 by_cases e : j = i
 ·subst e; rw [hy] at hz; cases hz; exact hk
 ·exact h j (by omega) z hz
theorem as_next {L : List Stp} {i : Nat} {x y : Stp} (h : ∀ j < i, ∀ a b, L[j]? = some a → L[j + 1]? = some b → 0 < cmpD b.a a.a) (hx : L[i]? = some x) (hy : L[i + 1]? = some y) (hk : 0 < cmpD y.a x.a) : ∀ j < i + 1, ∀ a b, L[j]? = some a → L[j + 1]? = some b → 0 < cmpD b.a a.a := by
 intro j hj a b ha hb
 by_cases e : j = i
 ·subst e; rw [hx] at ha; rw [hy] at hb; cases ha; cases hb; exact hk
 ·exact h j (by omega) a b ha hb
theorem as_end {L : List Stp} {i : Nat} (h : ∀ j < i, ∀ a b, L[j]? = some a → L[j + 1]? = some b → 0 < cmpD b.a a.a) (hi : ¬ i + 1 < L.length) : asc L = true :=
 asc_of (fun j a b ha hb => h j (by have := lt_of_get hb; omega) a b ha hb)
theorem cn_n (s : Stp) (kk : Nat) (w : World) (hA : At w kk s.cells) (hs : s.ok) : Calls Try.prog 26 #[.slice (some ⟨kk, 0, none⟩) 3 3] w fun e9 w' => e9 = .returned (.int .i64 (ckS s)) ∧ Mo w w' := by
 refine w_enter 18 Try.func26 Try.ntmps26 rfl rfl ?_
 have M : Mo w w := Mo.refl _
 refine w_seq (w_reg ?_)
 refine wl_m (.const (.int .i64 (0))) (.int .i64 (0)) ?_
 refine w_nil (xn_then (w_seq (w_seq (w_reg ?_))))
 refine wl_m (.tmp 0) (.slice (some ⟨kk, 0, none⟩) 3 3) ?_
 refine wl_val (.int .i64 (3)) (len69 _ _ _ 3 _ (by exact rfl) _ _ _ _ _ _) rfl ?_
 refine wl_m (.const (.int .i64 (0))) (.int .i64 (0)) ?_
 refine w_nil (xn_then (w_block ?_))
 refine w_rounds 4 ?_
 refine w_seq (w_reg ?_)
 refine wl_b .lss 3 (.tmp 8) (.tmp 7) (.int .i64 (0)) (.int .i64 (3)) (.bool true) (lt3 (r := true) rfl _ _ _) ?_
 refine w_nil (xn_then (w_seq (w_condT rfl (w_skip (xn_then (w_seq (w_block (w_seq (w_reg ?_)))))))))
 refine wl_bin (fun x y => Instr.indexAt 69 x y) (.tmp 6) (.tmp 8) (.slice (some ⟨kk, 0, none⟩) 3 3) (.int .i64 (0)) (pt kk 0) (fun _ => rfl) rfl rfl (ix69 (i := 0) rfl (by decide) _) rfl ?_
 refine wl_l 33 (.tmp 10) (pt kk 0) (.agg (s.a.cells).toArray) (run_row hA 33 0 6 (s.a.cells) rfl Try.underlying33 rfl sz33) ?_
 refine wl_alloc 33 #[.bool false, .int .u64 0, .int .u64 0, .int .u64 0, .int .u64 0, .int .i64 0] rfl (fun _ => by kernel_rfl) rfl ?_
 intro k1 u1 hk hz hq Q1
 have ne_kk_k1 : kk ≠ k1 := by have := hA.lt; omega
 have N_k1 : w.heap.size ≤ k1 := by have := M.size; omega
 replace hA := hA.mo hq
 replace M := M.trans hq
 clear hk hz hq
 refine wl_st 33 (.tmp 4) (.tmp 11) k1 0 ((s.a.cells).toArray) _ (s.a.cells) Q1 rfl rfl rfl rfl rfl sz33 rfl rfl rfl ?_
 intro u2 hS Qn
 replace Q1 := Qn
 clear Qn
 replace hA := hS.other _ _ ne_kk_k1 hA
 replace M := hS.mo _ N_k1 M
 clear hS
 refine w_nil (xn_then (w_seq (w_reg ?_)))
 refine wl_l 33 (.tmp 4) (pt k1 0) (.agg (s.a.cells).toArray) (run_row Q1 33 0 6 (s.a.cells) rfl Try.underlying33 rfl sz33) ?_
 refine wl_call 29 [(.tmp 12)] _ [.agg (s.a.cells).toArray] (.int .i64 (s.a.er)) rfl rfl (fun _ _ => by kernel_rfl) (pchk_n hs.1 _) rfl ?_
 intro u3 hq
 replace hA := hA.mo hq
 replace Q1 := Q1.mo hq
 replace M := M.trans hq
 clear hq
 refine wl_m (.tmp 13) (.int .i64 (s.a.er)) ?_
 refine w_nil (xn_then (w_seq (w_reg ?_)))
 refine wl_m (.tmp 5) (.int .i64 (s.a.er)) ?_
 cases hf0 : decide (s.a.er = 0) with
 | true =>
  have hf0p := of_decide_eq_true hf0
  refine wl_b .neq 26 (.tmp 14) (.const (.int .i64 (0))) (.int .i64 (s.a.er)) (.int .i64 (0)) (.bool false) (ne34 hf0 _ _ _) ?_
  refine w_nil (xn_then (w_condF rfl (w_skip (xn_blk (xn_then (w_reg ?_))))))
  refine wl_b .add 3 (.tmp 8) (.const (.int .i64 (1))) (.int .i64 (0)) (.int .i64 (1)) (.int .i64 (1)) (by kernel_rfl) ?_
  refine wl_m (.tmp 17) (.int .i64 (1)) ?_
  refine w_nil ?_
  refine xn_rounds ?_
  refine w_seq (w_reg ?_)
  refine wl_b .lss 3 (.tmp 8) (.tmp 7) (.int .i64 (1)) (.int .i64 (3)) (.bool true) (lt3 (r := true) rfl _ _ _) ?_
  refine w_nil (xn_then (w_seq (w_condT rfl (w_skip (xn_then (w_seq (w_block (w_seq (w_reg ?_)))))))))
  refine wl_bin (fun x y => Instr.indexAt 69 x y) (.tmp 6) (.tmp 8) (.slice (some ⟨kk, 0, none⟩) 3 3) (.int .i64 (1)) (pt kk 6) (fun _ => rfl) rfl rfl (ix69 (i := 1) rfl (by decide) _) rfl ?_
  refine wl_l 33 (.tmp 10) (pt kk 6) (.agg (s.b.cells).toArray) (run_row hA 33 6 6 (s.b.cells) rfl Try.underlying33 rfl sz33) ?_
  refine wl_alloc 33 #[.bool false, .int .u64 0, .int .u64 0, .int .u64 0, .int .u64 0, .int .i64 0] rfl (fun _ => by kernel_rfl) rfl ?_
  intro k2 u4 hk hz hq Q2
  have ne_kk_k2 : kk ≠ k2 := by have := hA.lt; omega
  have ne_k1_k2 : k1 ≠ k2 := by have := Q1.lt; omega
  have N_k2 : w.heap.size ≤ k2 := by have := M.size; omega
  replace hA := hA.mo hq
  replace Q1 := Q1.mo hq
  replace M := M.trans hq
  clear hk hz hq
  refine wl_st 33 (.tmp 4) (.tmp 11) k2 0 ((s.b.cells).toArray) _ (s.b.cells) Q2 rfl rfl rfl rfl rfl sz33 rfl rfl rfl ?_
  intro u5 hS Qn
  replace Q2 := Qn
  clear Qn
  replace hA := hS.other _ _ ne_kk_k2 hA
  replace Q1 := hS.other _ _ ne_k1_k2 Q1
  replace M := hS.mo _ N_k2 M
  clear hS
  refine w_nil (xn_then (w_seq (w_reg ?_)))
  refine wl_l 33 (.tmp 4) (pt k2 0) (.agg (s.b.cells).toArray) (run_row Q2 33 0 6 (s.b.cells) rfl Try.underlying33 rfl sz33) ?_
  refine wl_call 29 [(.tmp 12)] _ [.agg (s.b.cells).toArray] (.int .i64 (s.b.er)) rfl rfl (fun _ _ => by kernel_rfl) (pchk_n hs.2.1 _) rfl ?_
  intro u6 hq
  replace hA := hA.mo hq
  replace Q1 := Q1.mo hq
  replace Q2 := Q2.mo hq
  replace M := M.trans hq
  clear hq
  refine wl_m (.tmp 13) (.int .i64 (s.b.er)) ?_
  refine w_nil (xn_then (w_seq (w_reg ?_)))
  refine wl_m (.tmp 5) (.int .i64 (s.b.er)) ?_
  cases hf1 : decide (s.b.er = 0) with
  | true =>
   have hf1p := of_decide_eq_true hf1
   refine wl_b .neq 26 (.tmp 14) (.const (.int .i64 (0))) (.int .i64 (s.b.er)) (.int .i64 (0)) (.bool false) (ne34 hf1 _ _ _) ?_
   refine w_nil (xn_then (w_condF rfl (w_skip (xn_blk (xn_then (w_reg ?_))))))
   refine wl_b .add 3 (.tmp 8) (.const (.int .i64 (1))) (.int .i64 (1)) (.int .i64 (1)) (.int .i64 (2)) (by kernel_rfl) ?_
   refine wl_m (.tmp 17) (.int .i64 (2)) ?_
   refine w_nil ?_
   refine xn_rounds ?_
   refine w_seq (w_reg ?_)
   refine wl_b .lss 3 (.tmp 8) (.tmp 7) (.int .i64 (2)) (.int .i64 (3)) (.bool true) (lt3 (r := true) rfl _ _ _) ?_
   refine w_nil (xn_then (w_seq (w_condT rfl (w_skip (xn_then (w_seq (w_block (w_seq (w_reg ?_)))))))))
   refine wl_bin (fun x y => Instr.indexAt 69 x y) (.tmp 6) (.tmp 8) (.slice (some ⟨kk, 0, none⟩) 3 3) (.int .i64 (2)) (pt kk 12) (fun _ => rfl) rfl rfl (ix69 (i := 2) rfl (by decide) _) rfl ?_
   refine wl_l 33 (.tmp 10) (pt kk 12) (.agg (s.c.cells).toArray) (run_row hA 33 12 6 (s.c.cells) rfl Try.underlying33 rfl sz33) ?_
   refine wl_alloc 33 #[.bool false, .int .u64 0, .int .u64 0, .int .u64 0, .int .u64 0, .int .i64 0] rfl (fun _ => by kernel_rfl) rfl ?_
   intro k3 u7 hk hz hq Q3
   have ne_kk_k3 : kk ≠ k3 := by have := hA.lt; omega
   have ne_k1_k3 : k1 ≠ k3 := by have := Q1.lt; omega
   have ne_k2_k3 : k2 ≠ k3 := by have := Q2.lt; omega
   have N_k3 : w.heap.size ≤ k3 := by have := M.size; omega
   replace hA := hA.mo hq
   replace Q1 := Q1.mo hq
   replace Q2 := Q2.mo hq
   replace M := M.trans hq
   clear hk hz hq
   refine wl_st 33 (.tmp 4) (.tmp 11) k3 0 ((s.c.cells).toArray) _ (s.c.cells) Q3 rfl rfl rfl rfl rfl sz33 rfl rfl rfl ?_
   intro u8 hS Qn
   replace Q3 := Qn
   clear Qn
   replace hA := hS.other _ _ ne_kk_k3 hA
   replace Q1 := hS.other _ _ ne_k1_k3 Q1
   replace Q2 := hS.other _ _ ne_k2_k3 Q2
   replace M := hS.mo _ N_k3 M
   clear hS
   refine w_nil (xn_then (w_seq (w_reg ?_)))
   refine wl_l 33 (.tmp 4) (pt k3 0) (.agg (s.c.cells).toArray) (run_row Q3 33 0 6 (s.c.cells) rfl Try.underlying33 rfl sz33) ?_
   refine wl_call 29 [(.tmp 12)] _ [.agg (s.c.cells).toArray] (.int .i64 (s.c.er)) rfl rfl (fun _ _ => by kernel_rfl) (pchk_n hs.2.2 _) rfl ?_
   intro u9 hq
   replace hA := hA.mo hq
   replace Q1 := Q1.mo hq
   replace Q2 := Q2.mo hq
   replace Q3 := Q3.mo hq
   replace M := M.trans hq
   clear hq
   refine wl_m (.tmp 13) (.int .i64 (s.c.er)) ?_
   refine w_nil (xn_then (w_seq (w_reg ?_)))
   refine wl_m (.tmp 5) (.int .i64 (s.c.er)) ?_
   cases hf2 : decide (s.c.er = 0) with
   | true =>
    have hf2p := of_decide_eq_true hf2
    refine wl_b .neq 26 (.tmp 14) (.const (.int .i64 (0))) (.int .i64 (s.c.er)) (.int .i64 (0)) (.bool false) (ne34 hf2 _ _ _) ?_
    refine w_nil (xn_then (w_condF rfl (w_skip (xn_blk (xn_then (w_reg ?_))))))
    refine wl_b .add 3 (.tmp 8) (.const (.int .i64 (1))) (.int .i64 (2)) (.int .i64 (1)) (.int .i64 (3)) (by kernel_rfl) ?_
    refine wl_m (.tmp 17) (.int .i64 (3)) ?_
    refine w_nil ?_
    refine xn_rounds ?_
    refine w_seq (w_reg ?_)
    refine wl_b .lss 3 (.tmp 8) (.tmp 7) (.int .i64 (3)) (.int .i64 (3)) (.bool false) (lt3 (r := false) rfl _ _ _) ?_
    refine w_nil (xn_then (w_seq (w_condF rfl (w_exit (xx_then (xx_then (xx_blk (xn_then (w_seq (w_reg ?_))))))))))
    refine wl_m (.const (.int .i64 (0))) (.int .i64 (0)) ?_
    refine w_nil (xn_then (w_ret ?_))
    exact w_ret1 _ (.int .i64 (0)) rfl rfl ⟨by simp [ckS, hf0p, hf1p, hf2p], M⟩
   | false =>
    have hf2p := of_decide_eq_false hf2
    refine wl_b .neq 26 (.tmp 14) (.const (.int .i64 (0))) (.int .i64 (s.c.er)) (.int .i64 (0)) (.bool true) (ne34 hf2 _ _ _) ?_
    refine w_nil (xn_then (w_condT rfl (w_seq (w_reg ?_))))
    refine wl_m (.tmp 5) (.int .i64 (s.c.er)) ?_
    refine wl_m (.tmp 16) (.int .i64 (s.c.er)) ?_
    refine w_nil (xn_then (w_ret (xr_blk (xr_then (xr_then (xr_blk (xr_then ?_)))))))
    exact w_ret1 _ (.int .i64 (s.c.er)) rfl rfl ⟨by simp [ckS, hf0p, hf1p], M⟩
  | false =>
   have hf1p := of_decide_eq_false hf1
   refine wl_b .neq 26 (.tmp 14) (.const (.int .i64 (0))) (.int .i64 (s.b.er)) (.int .i64 (0)) (.bool true) (ne34 hf1 _ _ _) ?_
   refine w_nil (xn_then (w_condT rfl (w_seq (w_reg ?_))))
   refine wl_m (.tmp 5) (.int .i64 (s.b.er)) ?_
   refine wl_m (.tmp 16) (.int .i64 (s.b.er)) ?_
   refine w_nil (xn_then (w_ret (xr_blk (xr_then (xr_then (xr_blk (xr_then ?_)))))))
   exact w_ret1 _ (.int .i64 (s.b.er)) rfl rfl ⟨by simp [ckS, hf0p, hf1p], M⟩
 | false =>
  have hf0p := of_decide_eq_false hf0
  refine wl_b .neq 26 (.tmp 14) (.const (.int .i64 (0))) (.int .i64 (s.a.er)) (.int .i64 (0)) (.bool true) (ne34 hf0 _ _ _) ?_
  refine w_nil (xn_then (w_condT rfl (w_seq (w_reg ?_))))
  refine wl_m (.tmp 5) (.int .i64 (s.a.er)) ?_
  refine wl_m (.tmp 16) (.int .i64 (s.a.er)) ?_
  refine w_nil (xn_then (w_ret (xr_blk (xr_then (xr_then (xr_blk (xr_then ?_)))))))
  exact w_ret1 _ (.int .i64 (s.a.er)) rfl rfl ⟨by simp [ckS, hf0p], M⟩
theorem pck_n {x : Tb} (w : World) (hT : LT w x) : Calls Try.prog 9 #[ .agg (x.cells).toArray] w fun e9 w' => e9 = .returned (.int .i64 (chkT x.st)) ∧ Mo w w' := by
 refine w_enter 56 Try.func9 Try.ntmps9 rfl rfl ?_
 have M : Mo w w := Mo.refl _
 refine w_seq (w_reg ?_)
 refine wl_box 24 (.tmp 0) _ (((x.cells).toArray)) rfl rfl (fun _ => by kernel_rfl) rfl ?_
 intro k1 u1 hk hz hq Q1
 have N_k1 : w.heap.size ≤ k1 := by have := M.size; omega
 replace M := M.trans hq
 clear hk hz hq
 refine wl_m (.const (.int .i64 (0))) (.int .i64 (0)) ?_
 refine w_nil (xn_then (w_seq (w_seq (w_reg ?_))))
 refine wl_f 24 1 (.tmp 1) (pt k1 0) (pt k1 1) ?_
 refine wl_l 22 (.tmp 7) (pt k1 1) (.slice x.pa x.st.length x.cap) (run_one Q1 22 1 rfl Try.underlying22 rfl) ?_
 refine wl_val (.int .i64 ((x.st.length : Nat) : Int)) (len22 _ _ _ _ _ (by exact rfl) _ _ _ _ _ _) rfl ?_
 cases hf0 : decide (32 < x.st.length) with
 | true =>
  have hf0p := of_decide_eq_true hf0
  refine wl_b .gtr 3 (.tmp 9) (.const (.int .i64 (32))) (.int .i64 ((x.st.length : Nat) : Int)) (.int .i64 (32)) (.bool true) (gtN hf0 _ _ _) ?_
  refine w_nil (xn_then (w_condT rfl (w_seq (w_reg ?_))))
  refine wl_m (.const (.int .i64 (3))) (.int .i64 (3)) ?_
  refine w_nil (xn_then (w_ret (xr_then ?_)))
  exact w_ret1 _ (.int .i64 (3)) rfl rfl ⟨congrArg (fun v => Ending.returned (.int .i64 v)) (Eq.symm (by unfold chkT; rw [if_pos hf0p])), M⟩
 | false =>
  have hf0p := of_decide_eq_false hf0
  refine wl_b .gtr 3 (.tmp 9) (.const (.int .i64 (32))) (.int .i64 ((x.st.length : Nat) : Int)) (.int .i64 (32)) (.bool false) (gtN hf0 _ _ _) ?_
  refine w_nil (xn_then (w_condF rfl (w_skip (xn_then (w_seq (w_seq (w_reg ?_)))))))
  refine wl_f 24 1 (.tmp 1) (pt k1 0) (pt k1 1) ?_
  refine wl_l 22 (.tmp 11) (pt k1 1) (.slice x.pa x.st.length x.cap) (run_one Q1 22 1 rfl Try.underlying22 rfl) ?_
  refine wl_val (.int .i64 ((x.st.length : Nat) : Int)) (len22 _ _ _ _ _ (by exact rfl) _ _ _ _ _ _) rfl ?_
  cases hf1 : decide (((x.st.length : Nat) : Int) = 0) with
  | true =>
   have hf1p := of_decide_eq_true hf1
   refine wl_b .eql 3 (.tmp 13) (.const (.int .i64 (0))) (.int .i64 ((x.st.length : Nat) : Int)) (.int .i64 (0)) (.bool true) (eq3 hf1 _ _ _) ?_
   refine w_nil (xn_then (w_condT rfl (w_seq (w_reg ?_))))
   refine wl_m (.const (.int .i64 (140))) (.int .i64 (140)) ?_
   refine w_nil (xn_then (w_ret (xr_then ?_)))
   exact w_ret1 _ (.int .i64 (140)) rfl rfl ⟨congrArg (fun v => Ending.returned (.int .i64 v)) (Eq.symm (by unfold chkT; rw [if_neg (by omega), if_pos (by omega)])), M⟩
  | false =>
   have hf1p := of_decide_eq_false hf1
   refine wl_b .eql 3 (.tmp 13) (.const (.int .i64 (0))) (.int .i64 ((x.st.length : Nat) : Int)) (.int .i64 (0)) (.bool false) (eq3 hf1 _ _ _) ?_
   refine w_nil (xn_then (w_condF rfl (w_skip (xn_then (w_seq (w_seq (w_reg ?_)))))))
   refine wl_f 24 1 (.tmp 1) (pt k1 0) (pt k1 1) ?_
   refine wl_l 22 (.tmp 15) (pt k1 1) (.slice x.pa x.st.length x.cap) (run_one Q1 22 1 rfl Try.underlying22 rfl) ?_
   refine wl_val (.int .i64 ((x.st.length : Nat) : Int)) (len22 _ _ _ _ _ (by exact rfl) _ _ _ _ _ _) rfl ?_
   refine wl_m (.const (.int .i64 (0))) (.int .i64 (0)) ?_
   refine w_nil (xn_then (w_block ?_))
   have hz9 := hT.sl.1
   unfold maxLen at hz9
   refine w_loop (fun m l w1 => ∃ i : Nat, m = x.st.length - i ∧ i ≤ x.st.length ∧ look l 1 = pt k1 0 ∧ look l 16 = .slice x.pa x.st.length x.cap ∧ look l 17 = .int .i64 ((x.st.length : Nat) : Int) ∧ look l 18 = .int .i64 ((i : Nat) : Int) ∧ At w1 k1 (x.cells) ∧ (∀ j < i, ∀ y, x.st[j]? = some y → okS y = true) ∧ Mo w w1) _ ⟨0, rfl, Nat.zero_le _, rfl, rfl, rfl, rfl, Q1, (fun j hj => absurd hj (Nat.not_lt_zero j)), M⟩ ?_
   clear Q1 M
   rintro m l40 wl40 ⟨i, rfl, hi, e40_1, e40_16, e40_17, e40_i, Q1, hok, M⟩
   by_cases hil : i < x.st.length
   ·skip
    have hid : decide (i < x.st.length) = true := decide_eq_true hil
    obtain ⟨y, hy⟩ := get_of_lt hil
    have hmy := List.mem_of_getElem? hy
    obtain ⟨bp, op, hpp, hRp⟩ := D.SL.rw hT.sl hy
    refine w_seq (w_reg ?_)
    refine wl_bin (fun x y => do eqGuard .lss 3 (.tmp 18) (.tmp 17) x y; binOp .lss 3 x y) (.tmp 18) (.tmp 17) (.int .i64 ((i : Nat) : Int)) (.int .i64 ((x.st.length : Nat) : Int)) (.bool true) (fun _ => rfl) e40_i e40_17 (ltN hid _ _ _) rfl ?_
    refine w_nil (xn_then (w_seq (w_condT rfl (w_skip (xn_then (w_seq (w_block (w_seq (w_reg ?_)))))))))
    refine wl_bin (fun x y => Instr.indexAt 22 x y) (.tmp 16) (.tmp 18) (.slice x.pa x.st.length x.cap) (.int .i64 ((i : Nat) : Int)) (pt bp (op + i * 18)) (fun _ => rfl) e40_16 e40_i (ix22 (i := i) hpp hil _) rfl ?_
    refine wl_l 45 (.tmp 20) (pt bp (op + i * 18)) (.agg (y.cells).toArray) (D.run_partR (hRp.mo M).at' 45 0 18 (y.cells) rfl Try.underlying45 rfl sz45) ?_
    refine wl_alloc 45 #[.bool false, .int .u64 0, .int .u64 0, .int .u64 0, .int .u64 0, .int .i64 0, .bool false, .int .u64 0, .int .u64 0, .int .u64 0, .int .u64 0, .int .i64 0, .bool false, .int .u64 0, .int .u64 0, .int .u64 0, .int .u64 0, .int .i64 0] rfl (fun _ => by kernel_rfl) rfl ?_
    intro k2 u41 hk hz hq Q2
    have ne_k1_k2 : k1 ≠ k2 := by have := Q1.lt; omega
    have N_k2 : w.heap.size ≤ k2 := by have := M.size; omega
    replace Q1 := Q1.mo hq
    replace M := M.trans hq
    clear hk hz hq
    refine wl_st 45 (.tmp 4) (.tmp 21) k2 0 ((y.cells).toArray) _ (y.cells) Q2 rfl rfl rfl rfl rfl sz45 rfl rfl rfl ?_
    intro u42 hS Qn
    replace Q2 := Qn
    clear Qn
    replace Q1 := hS.other _ _ ne_k1_k2 Q1
    replace M := hS.mo _ N_k2 M
    clear hS
    refine w_nil (xn_then (w_seq (w_reg ?_)))
    refine wl_f 45 0 (.tmp 4) (pt k2 0) (pt k2 0) ?_
    refine wl_l 33 (.tmp 22) (pt k2 0) (.agg #[.bool y.a.b, .int .u64 (l0 y.a.n), .int .u64 (l1 y.a.n), .int .u64 (l2 y.a.n), .int .u64 (l3 y.a.n), .int .i64 y.a.s]) (run_row Q2 33 0 6 _ rfl Try.underlying33 rfl sz33) ?_
    refine wl_f 45 1 (.tmp 4) (pt k2 0) (pt k2 6) ?_
    refine wl_l 33 (.tmp 24) (pt k2 6) (.agg #[.bool y.b.b, .int .u64 (l0 y.b.n), .int .u64 (l1 y.b.n), .int .u64 (l2 y.b.n), .int .u64 (l3 y.b.n), .int .i64 y.b.s]) (run_row Q2 33 6 6 _ rfl Try.underlying33 rfl sz33) ?_
    refine wl_f 45 2 (.tmp 4) (pt k2 0) (pt k2 12) ?_
    refine wl_l 33 (.tmp 26) (pt k2 12) (.agg #[.bool y.c.b, .int .u64 (l0 y.c.n), .int .u64 (l1 y.c.n), .int .u64 (l2 y.c.n), .int .u64 (l3 y.c.n), .int .i64 y.c.s]) (run_row Q2 33 12 6 _ rfl Try.underlying33 rfl sz33) ?_
    refine wl_bs 69 3 [(0, (.tmp 23)), (1, (.tmp 25)), (2, (.tmp 27))] [(0, .agg #[.bool y.a.b, .int .u64 (l0 y.a.n), .int .u64 (l1 y.a.n), .int .u64 (l2 y.a.n), .int .u64 (l3 y.a.n), .int .i64 y.a.s]), (1, .agg #[.bool y.b.b, .int .u64 (l0 y.b.n), .int .u64 (l1 y.b.n), .int .u64 (l2 y.b.n), .int .u64 (l3 y.b.n), .int .i64 y.b.s]), (2, .agg #[.bool y.c.b, .int .u64 (l0 y.c.n), .int .u64 (l1 y.c.n), .int .u64 (l2 y.c.n), .int .u64 (l3 y.c.n), .int .i64 y.c.s])] #[.bool y.a.b, .int .u64 (l0 y.a.n), .int .u64 (l1 y.a.n), .int .u64 (l2 y.a.n), .int .u64 (l3 y.a.n), .int .i64 y.a.s, .bool y.b.b, .int .u64 (l0 y.b.n), .int .u64 (l1 y.b.n), .int .u64 (l2 y.b.n), .int .u64 (l3 y.b.n), .int .i64 y.b.s, .bool y.c.b, .int .u64 (l0 y.c.n), .int .u64 (l1 y.c.n), .int .u64 (l2 y.c.n), .int .u64 (l3 y.c.n), .int .i64 y.c.s] 33 rfl rfl (fun _ => by kernel_rfl) rfl ?_
    intro k3 u43 hk hz hq Q3
    have ne_k1_k3 : k1 ≠ k3 := by have := Q1.lt; omega
    have ne_k2_k3 : k2 ≠ k3 := by have := Q2.lt; omega
    have N_k3 : w.heap.size ≤ k3 := by have := M.size; omega
    replace Q1 := Q1.mo hq
    replace Q2 := Q2.mo hq
    replace M := M.trans hq
    clear hk hz hq
    refine wl_call 26 [(.tmp 28)] _ [.slice (some ⟨k3, 0, none⟩) 3 3] (.int .i64 (ckS y)) rfl rfl (fun _ _ => by kernel_rfl) (cn_n y k3 _ Q3 (hT.ok y hmy)) rfl ?_
    intro u44 hq
    replace Q1 := Q1.mo hq
    replace Q2 := Q2.mo hq
    replace Q3 := Q3.mo hq
    replace M := M.trans hq
    clear hq
    refine wl_m (.tmp 29) (.int .i64 (ckS y)) ?_
    refine w_nil (xn_then (w_seq (w_reg ?_)))
    refine wl_m (.tmp 5) (.int .i64 (ckS y)) ?_
    cases hf30 : decide (ckS y = 0) with
    | true =>
     have hf30p := of_decide_eq_true hf30
     refine wl_b .neq 26 (.tmp 30) (.const (.int .i64 (0))) (.int .i64 (ckS y)) (.int .i64 (0)) (.bool false) (ne34 hf30 _ _ _) ?_
     refine w_nil (xn_then (w_condF rfl (w_skip (xn_blk (xn_then (w_reg ?_))))))
     refine wl_bin (fun x y => do eqGuard .add 3 (.tmp 18) (.const (.int .i64 (1))) x y; binOp .add 3 x y) (.tmp 18) (.const (.int .i64 (1))) (.int .i64 ((i : Nat) : Int)) (.int .i64 (1)) (.int .i64 ((i + 1 : Nat) : Int)) (fun _ => rfl) e40_i rfl (add1r (k := i) (by omega) _ _ _) rfl ?_
     refine wl_m (.tmp 33) (.int .i64 ((i + 1 : Nat) : Int)) ?_
     refine w_nil ?_
     exact xn_loop (x.st.length - (i + 1)) (by omega) ⟨i + 1, rfl, by omega, e40_1, e40_16, e40_17, rfl, Q1, (ok_next hok hy (ckS_eq (by omega))), M⟩
    | false =>
     have hf30p := of_decide_eq_false hf30
     refine wl_b .neq 26 (.tmp 30) (.const (.int .i64 (0))) (.int .i64 (ckS y)) (.int .i64 (0)) (.bool true) (ne34 hf30 _ _ _) ?_
     refine w_nil (xn_then (w_condT rfl (w_seq (w_reg ?_))))
     refine wl_m (.tmp 5) (.int .i64 (ckS y)) ?_
     refine wl_m (.tmp 32) (.int .i64 (ckS y)) ?_
     refine w_nil (xn_then (w_ret (xr_blk (xr_then (xr_then (xr_blk (xr_then ?_)))))))
     exact w_ret1 _ (.int .i64 (ckS y)) rfl rfl ⟨congrArg (fun v => Ending.returned (.int .i64 v)) (Eq.symm (by rw [chk_bad (by omega) (by omega) hmy (ckS_ne hf30p).1, (ckS_ne hf30p).2])), M⟩
   ·skip
    have hid : decide (i < x.st.length) = false := decide_eq_false hil
    have hie : i = x.st.length := by omega
    have hall := all_of (by rw [← hie]; exact hok)
    refine w_seq (w_reg ?_)
    refine wl_bin (fun x y => do eqGuard .lss 3 (.tmp 18) (.tmp 17) x y; binOp .lss 3 x y) (.tmp 18) (.tmp 17) (.int .i64 ((i : Nat) : Int)) (.int .i64 ((x.st.length : Nat) : Int)) (.bool false) (fun _ => rfl) e40_i e40_17 (ltN hid _ _ _) rfl ?_
    refine w_nil (xn_then (w_seq (w_condF rfl (w_exit (xx_then (xx_then (xx_blk (xn_then (w_seq (w_seq (w_reg ?_)))))))))))
    refine wl_m (.const (.int .i64 (1))) (.int .i64 (1)) ?_
    refine w_nil (xn_then (w_block ?_))
    refine w_loop (fun m l w1 => ∃ i : Nat, m = x.st.length - i ∧ i ≤ x.st.length ∧ look l 1 = pt k1 0 ∧ look l 6 = .int .i64 ((i + 1 : Nat) : Int) ∧ At w1 k1 (x.cells) ∧ (∀ j < i, ∀ a b, x.st[j]? = some a → x.st[j + 1]? = some b → 0 < cmpD b.a a.a) ∧ Mo w w1) _ ⟨0, rfl, Nat.zero_le _, e40_1, rfl, Q1, (fun j hj => absurd hj (Nat.not_lt_zero j)), M⟩ ?_
    clear Q1 M
    rintro m l80 wl80 ⟨i, rfl, hi, e80_1, e80_i, Q1, has, M⟩
    by_cases hil : i + 1 < x.st.length
    ·skip
     have hid : decide (i + 1 < x.st.length) = true := decide_eq_true hil
     obtain ⟨y1, hy1⟩ := get_of_lt hil
     have hmy1 := List.mem_of_getElem? hy1
     obtain ⟨bp, op, hpp, hRp⟩ := D.SL.rw hT.sl hy1
     have hil0 : i < x.st.length := by omega
     obtain ⟨y0, hy0⟩ := get_of_lt hil0
     have hmy0 := List.mem_of_getElem? hy0
     obtain ⟨bq, oq, hpq, hRq⟩ := D.SL.rw hT.sl hy0
     refine w_seq (w_seq (w_reg ?_))
     refine wl_mv (.tmp 6) (.int .i64 ((i + 1 : Nat) : Int)) (fun _ => rfl) e80_i rfl ?_
     refine wl_un (fun v => Instr.fieldAt 24 v 1) (.tmp 1) (pt k1 0) (pt k1 1) (fun _ => rfl) e80_1 (by kernel_rfl) rfl ?_
     refine wl_l 22 (.tmp 35) (pt k1 1) (.slice x.pa x.st.length x.cap) (run_one Q1 22 1 rfl Try.underlying22 rfl) ?_
     refine wl_val (.int .i64 ((x.st.length : Nat) : Int)) (len22 _ _ _ _ _ (by exact rfl) _ _ _ _ _ _) rfl ?_
     refine wl_b .lss 3 (.tmp 34) (.tmp 37) (.int .i64 ((i + 1 : Nat) : Int)) (.int .i64 ((x.st.length : Nat) : Int)) (.bool true) (ltN hid _ _ _) ?_
     refine w_nil (xn_then (w_condT rfl (w_skip (xn_then (w_seq (w_block (w_seq ?_)))))))
     cases hf80 : decide (cmpD y1.a y0.a ≤ 0) with
     | true =>
      have hf80p := of_decide_eq_true hf80
      refine w_any 13 [.inl (pt k1 1), .inl (.slice x.pa x.st.length x.cap), .inl (.int .i64 ((i + 1 : Nat) : Int)), .inl (pt bp (op + (i + 1) * 18)), .inl (pt bp (op + (i + 1) * 18)), .inl (.agg (y1.a.cells).toArray), .inl (pt k1 1), .inl (.slice x.pa x.st.length x.cap), .inl (.int .i64 ((i + 1 : Nat) : Int)), .inl (.int .i64 ((i : Nat) : Int)), .inl (pt bq (oq + i * 18)), .inl (pt bq (oq + i * 18)), .inl (.agg (y0.a.cells).toArray)] [] (by kernel_rfl) (by kernel_rfl) (by kernel_rfl) (by kernel_rfl) rfl (by kernel_rfl) (by kernel_rfl) late_nil ?_ ?_ ?_
      ·exact Ds.none rfl
      ·refine ea_cons ?_ (ea_cons ?_ (ea_cons ?_ (ea_cons ?_ (ea_cons ?_ (ea_cons ?_ (ea_cons ?_ (ea_cons ?_ (ea_cons ?_ (ea_cons ?_ (ea_cons ?_ (ea_cons ?_ (ea_cons ?_ (ea_nil)))))))))))))
       ·exact og_eq _ rfl (fun f wf hq hd K hK => go_run rfl (wo_un (fun v => Instr.fieldAt 24 v 1) (.tmp 1) (pt k1 0) (pt k1 1) (fun _ => rfl) e80_1 (by kernel_rfl) (hK _ (Mo.refl _))))
       ·exact og_eq _ rfl (fun f wf hq hd K hK => have Q1 := Q1.mo hq; go_run rfl (wo_load 22 (.tmp 41) (pt k1 1) (.slice x.pa x.st.length x.cap) rfl (hd 0 rfl) (run_one Q1 22 1 rfl Try.underlying22 rfl) (hK _ (Mo.refl _))))
       ·exact og_eq _ rfl (fun f wf hq hd K hK => go_run rfl (wo_mv (.tmp 6) (.int .i64 ((i + 1 : Nat) : Int)) (fun _ => rfl) e80_i (hK _ (Mo.refl _))))
       ·exact og_eq _ rfl (fun f wf hq hd K hK => go_run rfl (wo_bin (fun x y => Instr.indexAt 22 x y) (.tmp 42) (.tmp 43) (.slice x.pa x.st.length x.cap) (.int .i64 ((i + 1 : Nat) : Int)) (pt bp (op + (i + 1) * 18)) (fun _ => rfl) (hd 1 rfl) (hd 2 rfl) (ix22 (i := i + 1) hpp hil _) (hK _ (Mo.refl _))))
       ·exact og_eq _ rfl (fun f wf hq hd K hK => go_run rfl (wo_un (fun v => Instr.fieldAt 45 v 0) (.tmp 44) (pt bp (op + (i + 1) * 18)) (pt bp (op + (i + 1) * 18)) (fun _ => rfl) (hd 3 rfl) (by kernel_rfl) (hK _ (Mo.refl _))))
       ·exact og_eq _ rfl (fun f wf hq hd K hK => go_run rfl (wo_load 33 (.tmp 45) (pt bp (op + (i + 1) * 18)) (.agg (y1.a.cells).toArray) rfl (hd 4 rfl) (D.run_partR (hRp.mo (M.trans hq)).at' 33 0 6 (y1.a.cells) rfl Try.underlying33 rfl sz33) (hK _ (Mo.refl _))))
       ·exact og_eq _ rfl (fun f wf hq hd K hK => go_run rfl (wo_un (fun v => Instr.fieldAt 24 v 1) (.tmp 1) (pt k1 0) (pt k1 1) (fun _ => rfl) e80_1 (by kernel_rfl) (hK _ (Mo.refl _))))
       ·exact og_eq _ rfl (fun f wf hq hd K hK => have Q1 := Q1.mo hq; go_run rfl (wo_load 22 (.tmp 47) (pt k1 1) (.slice x.pa x.st.length x.cap) rfl (hd 6 rfl) (run_one Q1 22 1 rfl Try.underlying22 rfl) (hK _ (Mo.refl _))))
       ·exact og_eq _ rfl (fun f wf hq hd K hK => go_run rfl (wo_mv (.tmp 6) (.int .i64 ((i + 1 : Nat) : Int)) (fun _ => rfl) e80_i (hK _ (Mo.refl _))))
       ·exact og_eq _ rfl (fun f wf hq hd K hK => go_run rfl (wo_bin (fun x y => do eqGuard .sub 3 (.tmp 49) (.const (.int .i64 (1))) x y; binOp .sub 3 x y) (.tmp 49) (.const (.int .i64 (1))) (.int .i64 ((i + 1 : Nat) : Int)) (.int .i64 (1)) (.int .i64 ((i : Nat) : Int)) (fun _ => rfl) (hd 8 rfl) rfl (sub1r (k := i) (by omega) _ _ _) (hK _ (Mo.refl _))))
       ·exact og_eq _ rfl (fun f wf hq hd K hK => go_run rfl (wo_bin (fun x y => Instr.indexAt 22 x y) (.tmp 48) (.tmp 50) (.slice x.pa x.st.length x.cap) (.int .i64 ((i : Nat) : Int)) (pt bq (oq + i * 18)) (fun _ => rfl) (hd 7 rfl) (hd 9 rfl) (ix22 (i := i) hpq hil0 _) (hK _ (Mo.refl _))))
       ·exact og_eq _ rfl (fun f wf hq hd K hK => go_run rfl (wo_un (fun v => Instr.fieldAt 45 v 0) (.tmp 51) (pt bq (oq + i * 18)) (pt bq (oq + i * 18)) (fun _ => rfl) (hd 10 rfl) (by kernel_rfl) (hK _ (Mo.refl _))))
       ·exact og_eq _ rfl (fun f wf hq hd K hK => go_run rfl (wo_load 33 (.tmp 52) (pt bq (oq + i * 18)) (.agg (y0.a.cells).toArray) rfl (hd 11 rfl) (D.run_partR (hRq.mo (M.trans hq)).at' 33 0 6 (y0.a.cells) rfl Try.underlying33 rfl sz33) (hK _ (Mo.refl _))))
      intro kf81 u81 hq hR hne
      replace Q1 := Q1.mo hq
      replace M := M.trans hq
      clear hq hR hne
      refine wl_call 27 [(.tmp 46), (.tmp 53)] _ [.agg (y1.a.cells).toArray, .agg (y0.a.cells).toArray] (.int .i64 (cmpD y1.a y0.a)) rfl rfl (fun _ _ => by kernel_rfl) (pcmp_n (fit_of hT.ok hall hy1).1 (fit_of hT.ok hall hy0).1 _) rfl ?_
      intro u82 hq
      replace Q1 := Q1.mo hq
      replace M := M.trans hq
      clear hq
      refine wl_b .leq 3 (.tmp 54) (.const (.int .i64 (0))) (.int .i64 (cmpD y1.a y0.a)) (.int .i64 (0)) (.bool true) (le3 hf80 _ _ _) ?_
      refine w_nil (xn_then (w_condT rfl (w_seq (w_reg ?_))))
      refine wl_m (.const (.int .i64 (140))) (.int .i64 (140)) ?_
      refine w_nil (xn_then (w_ret (xr_blk (xr_then (xr_then (xr_blk (xr_then ?_)))))))
      exact w_ret1 _ (.int .i64 (140)) rfl rfl ⟨congrArg (fun v => Ending.returned (.int .i64 v)) (Eq.symm (chk_low (by omega) (by omega) hall hy0 hy1 (by omega))), M⟩
     | false =>
      have hf80p := of_decide_eq_false hf80
      refine w_any 13 [.inl (pt k1 1), .inl (.slice x.pa x.st.length x.cap), .inl (.int .i64 ((i + 1 : Nat) : Int)), .inl (pt bp (op + (i + 1) * 18)), .inl (pt bp (op + (i + 1) * 18)), .inl (.agg (y1.a.cells).toArray), .inl (pt k1 1), .inl (.slice x.pa x.st.length x.cap), .inl (.int .i64 ((i + 1 : Nat) : Int)), .inl (.int .i64 ((i : Nat) : Int)), .inl (pt bq (oq + i * 18)), .inl (pt bq (oq + i * 18)), .inl (.agg (y0.a.cells).toArray)] [] (by kernel_rfl) (by kernel_rfl) (by kernel_rfl) (by kernel_rfl) rfl (by kernel_rfl) (by kernel_rfl) late_nil ?_ ?_ ?_
      ·exact Ds.none rfl
      ·refine ea_cons ?_ (ea_cons ?_ (ea_cons ?_ (ea_cons ?_ (ea_cons ?_ (ea_cons ?_ (ea_cons ?_ (ea_cons ?_ (ea_cons ?_ (ea_cons ?_ (ea_cons ?_ (ea_cons ?_ (ea_cons ?_ (ea_nil)))))))))))))
       ·exact og_eq _ rfl (fun f wf hq hd K hK => go_run rfl (wo_un (fun v => Instr.fieldAt 24 v 1) (.tmp 1) (pt k1 0) (pt k1 1) (fun _ => rfl) e80_1 (by kernel_rfl) (hK _ (Mo.refl _))))
       ·exact og_eq _ rfl (fun f wf hq hd K hK => have Q1 := Q1.mo hq; go_run rfl (wo_load 22 (.tmp 41) (pt k1 1) (.slice x.pa x.st.length x.cap) rfl (hd 0 rfl) (run_one Q1 22 1 rfl Try.underlying22 rfl) (hK _ (Mo.refl _))))
       ·exact og_eq _ rfl (fun f wf hq hd K hK => go_run rfl (wo_mv (.tmp 6) (.int .i64 ((i + 1 : Nat) : Int)) (fun _ => rfl) e80_i (hK _ (Mo.refl _))))
       ·exact og_eq _ rfl (fun f wf hq hd K hK => go_run rfl (wo_bin (fun x y => Instr.indexAt 22 x y) (.tmp 42) (.tmp 43) (.slice x.pa x.st.length x.cap) (.int .i64 ((i + 1 : Nat) : Int)) (pt bp (op + (i + 1) * 18)) (fun _ => rfl) (hd 1 rfl) (hd 2 rfl) (ix22 (i := i + 1) hpp hil _) (hK _ (Mo.refl _))))
       ·exact og_eq _ rfl (fun f wf hq hd K hK => go_run rfl (wo_un (fun v => Instr.fieldAt 45 v 0) (.tmp 44) (pt bp (op + (i + 1) * 18)) (pt bp (op + (i + 1) * 18)) (fun _ => rfl) (hd 3 rfl) (by kernel_rfl) (hK _ (Mo.refl _))))
       ·exact og_eq _ rfl (fun f wf hq hd K hK => go_run rfl (wo_load 33 (.tmp 45) (pt bp (op + (i + 1) * 18)) (.agg (y1.a.cells).toArray) rfl (hd 4 rfl) (D.run_partR (hRp.mo (M.trans hq)).at' 33 0 6 (y1.a.cells) rfl Try.underlying33 rfl sz33) (hK _ (Mo.refl _))))
       ·exact og_eq _ rfl (fun f wf hq hd K hK => go_run rfl (wo_un (fun v => Instr.fieldAt 24 v 1) (.tmp 1) (pt k1 0) (pt k1 1) (fun _ => rfl) e80_1 (by kernel_rfl) (hK _ (Mo.refl _))))
       ·exact og_eq _ rfl (fun f wf hq hd K hK => have Q1 := Q1.mo hq; go_run rfl (wo_load 22 (.tmp 47) (pt k1 1) (.slice x.pa x.st.length x.cap) rfl (hd 6 rfl) (run_one Q1 22 1 rfl Try.underlying22 rfl) (hK _ (Mo.refl _))))
       ·exact og_eq _ rfl (fun f wf hq hd K hK => go_run rfl (wo_mv (.tmp 6) (.int .i64 ((i + 1 : Nat) : Int)) (fun _ => rfl) e80_i (hK _ (Mo.refl _))))
       ·exact og_eq _ rfl (fun f wf hq hd K hK => go_run rfl (wo_bin (fun x y => do eqGuard .sub 3 (.tmp 49) (.const (.int .i64 (1))) x y; binOp .sub 3 x y) (.tmp 49) (.const (.int .i64 (1))) (.int .i64 ((i + 1 : Nat) : Int)) (.int .i64 (1)) (.int .i64 ((i : Nat) : Int)) (fun _ => rfl) (hd 8 rfl) rfl (sub1r (k := i) (by omega) _ _ _) (hK _ (Mo.refl _))))
       ·exact og_eq _ rfl (fun f wf hq hd K hK => go_run rfl (wo_bin (fun x y => Instr.indexAt 22 x y) (.tmp 48) (.tmp 50) (.slice x.pa x.st.length x.cap) (.int .i64 ((i : Nat) : Int)) (pt bq (oq + i * 18)) (fun _ => rfl) (hd 7 rfl) (hd 9 rfl) (ix22 (i := i) hpq hil0 _) (hK _ (Mo.refl _))))
       ·exact og_eq _ rfl (fun f wf hq hd K hK => go_run rfl (wo_un (fun v => Instr.fieldAt 45 v 0) (.tmp 51) (pt bq (oq + i * 18)) (pt bq (oq + i * 18)) (fun _ => rfl) (hd 10 rfl) (by kernel_rfl) (hK _ (Mo.refl _))))
       ·exact og_eq _ rfl (fun f wf hq hd K hK => go_run rfl (wo_load 33 (.tmp 52) (pt bq (oq + i * 18)) (.agg (y0.a.cells).toArray) rfl (hd 11 rfl) (D.run_partR (hRq.mo (M.trans hq)).at' 33 0 6 (y0.a.cells) rfl Try.underlying33 rfl sz33) (hK _ (Mo.refl _))))
      intro kf81 u81 hq hR hne
      replace Q1 := Q1.mo hq
      replace M := M.trans hq
      clear hq hR hne
      refine wl_call 27 [(.tmp 46), (.tmp 53)] _ [.agg (y1.a.cells).toArray, .agg (y0.a.cells).toArray] (.int .i64 (cmpD y1.a y0.a)) rfl rfl (fun _ _ => by kernel_rfl) (pcmp_n (fit_of hT.ok hall hy1).1 (fit_of hT.ok hall hy0).1 _) rfl ?_
      intro u82 hq
      replace Q1 := Q1.mo hq
      replace M := M.trans hq
      clear hq
      refine wl_b .leq 3 (.tmp 54) (.const (.int .i64 (0))) (.int .i64 (cmpD y1.a y0.a)) (.int .i64 (0)) (.bool false) (le3 hf80 _ _ _) ?_
      refine w_nil (xn_then (w_condF rfl (w_skip (xn_blk (xn_then (w_reg ?_))))))
      refine wl_mv (.tmp 6) (.int .i64 ((i + 1 : Nat) : Int)) (fun _ => rfl) e80_i rfl ?_
      refine wl_b .add 3 (.tmp 39) (.const (.int .i64 (1))) (.int .i64 ((i + 1 : Nat) : Int)) (.int .i64 (1)) (.int .i64 ((i + 1 + 1 : Nat) : Int)) (add1r (k := i + 1) (by omega) _ _ _) ?_
      refine wl_m (.tmp 40) (.int .i64 ((i + 1 + 1 : Nat) : Int)) ?_
      refine w_nil ?_
      exact xn_loop (x.st.length - (i + 1)) (by omega) ⟨i + 1, rfl, by omega, e80_1, rfl, Q1, (as_next has hy0 hy1 (by omega)), M⟩
    ·skip
     have hid : decide (i + 1 < x.st.length) = false := decide_eq_false hil
     refine w_seq (w_seq (w_reg ?_))
     refine wl_mv (.tmp 6) (.int .i64 ((i + 1 : Nat) : Int)) (fun _ => rfl) e80_i rfl ?_
     refine wl_un (fun v => Instr.fieldAt 24 v 1) (.tmp 1) (pt k1 0) (pt k1 1) (fun _ => rfl) e80_1 (by kernel_rfl) rfl ?_
     refine wl_l 22 (.tmp 35) (pt k1 1) (.slice x.pa x.st.length x.cap) (run_one Q1 22 1 rfl Try.underlying22 rfl) ?_
     refine wl_val (.int .i64 ((x.st.length : Nat) : Int)) (len22 _ _ _ _ _ (by exact rfl) _ _ _ _ _ _) rfl ?_
     refine wl_b .lss 3 (.tmp 34) (.tmp 37) (.int .i64 ((i + 1 : Nat) : Int)) (.int .i64 ((x.st.length : Nat) : Int)) (.bool false) (ltN hid _ _ _) ?_
     refine w_nil (xn_then (w_condF rfl (w_exit (xx_then (xx_then (xx_blk (xn_then (w_seq (w_reg ?_)))))))))
     refine wl_m (.const (.int .i64 (0))) (.int .i64 (0)) ?_
     refine w_nil (xn_then (w_ret ?_))
     exact w_ret1 _ (.int .i64 (0)) rfl rfl ⟨congrArg (fun v => Ending.returned (.int .i64 v)) (Eq.symm (chk_fine (by omega) (by omega) hall (as_end has (by omega)))), M⟩
end Go.Proofs.Ythehmmhnacomkaa
namespace Go.Proofs.Ythehmmhnacomkaa
open Go.RowKit
def jumps (J : Nat → Act → World → Prop) (Q : Exit → Act → World → Prop) : Exit → Act → World → Prop
 | .goto l, a, w => J l a w
 | e, a, w => Q e a w
section
variable {P : Program} {n : Nat} {l : List (Nat × Value)} {w : World} {Q : Exit → Act → World → Prop}
theorem wp_scope_many {a : Act} {c : Code} (rest : Nat → Code) (J : Nat → Nat → Act → World → Prop) (hf : ∀ i m a w, J i m a w → findLabel c i = some (rest i))
  (first : c.wp P (jumps (fun i a w => ∃ m, J i m a w) Q) a w)
  (pass : ∀ i m a w, J i m a w → (rest i).wp P (jumps (fun i' a' w' => ∃ m', m' < m ∧ J i' m' a' w') Q) a w) : (Code.scope c).wp P Q a w := by
 intro b k cs
 have key : ∀ m i a w, J i m a w → ∃ e a' w', Q e a' w' ∧ Arrives P (lone (b.at a (.code (rest i) :: .inScope c :: k)) cs w) b k cs e a' w' := by
  intro m
  induction m using Nat.strongRecOn with
  | _ m ih =>
   intro i a w hJ
   obtain ⟨e, a₁, w₁, hq, harr⟩ := pass i m a w hJ b (.inScope c :: k) cs
   cases e with
   | normal => exact ⟨.normal, a₁, w₁, hq, Steps.trans harr (.one step_inScope)⟩
   | exit id => exact ⟨.exit id, a₁, w₁, hq, fun k' hk => harr k' (by simp [exitTo, hk])⟩
   | goto i' =>
    obtain ⟨m', hlt, hJ'⟩ := hq
    obtain ⟨e₂, a₂, w₂, hq₂, harr₂⟩ := ih m' hlt i' a₁ w₁ hJ'
    exact ⟨e₂, a₂, w₂, hq₂, .of_steps (harr _ (by simp [gotoIn, hf i' m' a₁ w₁ hJ'])) harr₂⟩
   | ret => exact ⟨_, a₁, w₁, hq, harr⟩
   | panic ch => exact ⟨_, a₁, w₁, hq, harr⟩
   | outgrown => exact ⟨_, a₁, w₁, hq, harr⟩
 obtain ⟨e, a₁, w₁, hq, harr⟩ := first b (.inScope c :: k) cs
 cases e with
 | normal => exact ⟨.normal, a₁, w₁, hq, .head step_scope (Steps.trans harr (.one step_inScope))⟩
 | exit id => exact ⟨.exit id, a₁, w₁, hq, fun k' hk => .head step_scope (harr k' (by simp [exitTo, hk]))⟩
 | goto i' =>
  obtain ⟨m', hJ'⟩ := hq
  obtain ⟨e₂, a₂, w₂, hq₂, harr₂⟩ := key m' i' a₁ w₁ hJ'
  exact ⟨e₂, a₂, w₂, hq₂, .of_steps (.head step_scope (harr _ (by simp [gotoIn, hf i' m' a₁ w₁ hJ']))) harr₂⟩
 | ret => exact ⟨_, a₁, w₁, hq, .of_steps (.one step_scope) harr⟩
 | panic ch => exact ⟨_, a₁, w₁, hq, .of_steps (.one step_scope) harr⟩
 | outgrown => exact ⟨_, a₁, w₁, hq, .of_steps (.one step_scope) harr⟩
def jto (n : Nat) (b : Option Nat) (I : Nat → Nat → List (Nat × Value) → World → Prop) : Nat → Act → World → Prop :=
 fun i a w => ∃ m l, (∀ x, b = some x → m < x) ∧ a = fr n l ∧ I i m l w
theorem w_scope {c : Code} (rest : Nat → Code) (I : Nat → Nat → List (Nat × Value) → World → Prop) (hf : ∀ i m l w, I i m l w → findLabel c i = some (rest i))
  (first : WC P c (jumps (jto n none I) Q) n l w)
  (pass : ∀ i m l w, I i m l w → WC P (rest i) (jumps (jto n (some m) I) Q) n l w) : WC P (Code.scope c) Q n l w := by
 refine ⟨wp_scope_many rest (fun i m a w => ∃ l, a = fr n l ∧ I i m l w) (fun i m a w ⟨l, _, h⟩ => hf i m l w h) (Code.wp_mono ?_ first.out) ?_⟩
 ·intro e a' w' hq
  cases e with
  | goto i => obtain ⟨m, l, _, h2, h3⟩ := hq; exact ⟨m, l, h2, h3⟩
  | _ => exact hq
 ·rintro i m a w ⟨l, rfl, hI⟩
  refine Code.wp_mono ?_ (pass i m l w hI).out
  intro e a' w' hq
  cases e with
  | goto i => obtain ⟨m', l', h1, h2, h3⟩ := hq; exact ⟨m', h1 m rfl, l', h2, h3⟩
  | _ => exact hq
theorem w_goto {i : Nat} (h : WX Q (.goto i) n l w) : WC P (.goto i) Q n l w := ⟨wp_goto h.out⟩
theorem xg_jump0 {I : Nat → Nat → List (Nat × Value) → World → Prop} {i : Nat} (m : Nat) (h : I i m l w) : WX (jumps (jto n none I) Q) (.goto i) n l w := ⟨⟨m, l, (fun _ h => by cases h), rfl, h⟩⟩
theorem xg_jump {I : Nat → Nat → List (Nat × Value) → World → Prop} {i b : Nat} (m : Nat) (hlt : m < b) (h : I i m l w) : WX (jumps (jto n (some b) I) Q) (.goto i) n l w := ⟨⟨m, l, (fun _ h => by cases h; exact hlt), rfl, h⟩⟩
theorem xr_jumps {J : Nat → Act → World → Prop} (h : WX Q .ret n l w) : WX (jumps J Q) .ret n l w := ⟨h.out⟩
end
theorem w_scope1 {P : Program} {n : Nat} {l : List (Nat × Value)} {w : World} {Q : Exit → Act → World → Prop} {c : Code} (I : Nat → Nat → List (Nat × Value) → World → Prop) (hf : ∀ i m l w, I i m l w → (findLabel c i).isSome = true)
  (first : WC P c (jumps (jto n none I) Q) n l w)
  (pass : ∀ i m l w, I i m l w → WC P ((findLabel c i).getD .skip) (jumps (jto n (some m) I) Q) n l w) : WC P (Code.scope c) Q n l w :=
 w_scope (fun i => (findLabel c i).getD .skip) I (fun i m l w h => by obtain ⟨x, hx⟩ := Option.isSome_iff_exists.1 (hf i m l w h); rw [hx]; rfl) first pass
end Go.Proofs.Ythehmmhnacomkaa
