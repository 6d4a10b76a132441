/-
  outermost, next: the places in order.
-/
import Derived.Test.YtbmbldloeblbbaaRi
import Derived.Test.YtbmbldloeblbbaaKv
namespace Go.Proofs.Ytbmbldloeblbbaa
open Go.RowKit
/-- The first block of a tree in order. -/
def lm : T → Option Nat
  | .e => none
  | .n k _ _ l _ => match lm l with
    | none => some k
    | some j => some j
theorem lm_none {tr : T} (h : lm tr = none) : tr = .e := by
  cases tr with
  | e => rfl
  | n k i s l r => unfold lm at h; split at h <;> cases h
theorem lm_l (k : Nat) (i s : Int) (l r : T) (h : l ≠ .e) : lm (.n k i s l r) = lm l := by
  conv => lhs; unfold lm
  cases hl : lm l with
  | none => exact absurd (lm_none hl) h
  | some j => rfl
theorem lm_kv : ∀ tr : T, lm tr = (tr.kv.head?).map (·.2)
  | .e => rfl
  | .n k i s l r => by
    have ih := lm_kv l
    unfold lm T.kv
    cases hl : lm l with
    | none => have := lm_none hl; subst this; simp [T.kv]
    | some j =>
      rw [hl] at ih
      cases hk : l.kv with
      | nil => rw [hk] at ih; cases ih
      | cons x y => rw [hk] at ih; simpa using ih
/-- The nearest one above that has the place on its left. -/
def upL : Cx → Option Nat
  | [] => none
  | f :: C => if f.d then upL C else some f.k
section
variable {D : Nat → Prop} {w : World} {t mb : Nat} {R : Mp} {root : Option Nat} {lk : Int}
theorem outer_n (hS : HS D w t mb R root lk) {u : Option Nat} {tr : T} (hR : Rep R u tr) : Calls Try.prog 46 #[pp tr.p, .int .i64 0] w fun e w' => e = .returned (pp (lm tr)) ∧ Mo w w' := by
  refine w_enter 25 Try.func46 Try.ntmps46 rfl rfl ?_
  have M : Mo w w := Mo.refl _
  refine w_seq ?_
  refine w_reg ?_
  refine wl_mv (.const (.pointer none)) (pp none) (fun _ => rfl) rfl rfl ?_
  refine w_nil ?_
  refine xn_then ?_
  refine w_seq ?_
  refine w_block ?_
  refine w_loop (fun m l0 w1 => ∃ (u1 : Option Nat) (tr1 : T), m = tr1.ht ∧ look l0 0 = pp tr1.p ∧ look l0 1 = .int .i64 0 ∧ Rep R u1 tr1 ∧ lm tr1 = lm tr ∧ HS D w1 t mb R root lk ∧ Mo w w1) _ ⟨u, tr, rfl, rfl, rfl, hR, rfl, hS, M⟩ ?_
  clear M hS
  rintro m l1 w1 ⟨u1, tr1, rfl, e0, e1, hR1, hlm, hS, M⟩
  cases tr1 with
  | e =>
    refine w_seq ?_
    refine w_seq ?_
    refine w_reg ?_
    refine wl_mv (.tmp 0) (pp none) (fun _ => rfl) e0 rfl ?_
    refine wl_bin (fun x y => do eqGuard .neq 56 (.tmp 5) (.const (.pointer none)) x y; binOp .neq 56 x y) (.tmp 5) (.const (.pointer none)) (pp none) (pp none) (.bool false) (fun _ => rfl) rfl rfl (ne56 none _ _ _) rfl ?_
    refine wl_mv (.tmp 6) (.bool false) (fun _ => rfl) rfl rfl ?_
    refine wl_skip rfl ?_
    refine wl_skip rfl ?_
    refine wl_skip rfl ?_
    refine wl_skip rfl ?_
    refine wl_skip rfl ?_
    refine wl_skip rfl ?_
    refine wl_skip rfl ?_
    refine wl_skip rfl ?_
    refine wl_pick (.tmp 7) (.tmp 15) (.const (.bool false)) false (.bool false) (fun _ => rfl) rfl rfl rfl ?_
    refine w_nil ?_
    refine xn_then ?_
    refine w_condF rfl ?_
    refine w_exit ?_
    refine xx_then ?_
    refine xx_then ?_
    refine xx_blk ?_
    refine xn_then ?_
    refine w_seq ?_
    refine w_reg ?_
    refine wl_mv (.tmp 0) (pp none) (fun _ => rfl) e0 rfl ?_
    refine wl_mv (.tmp 24) (pp none) (fun _ => rfl) rfl rfl ?_
    refine w_nil ?_
    refine xn_then ?_
    refine w_ret ?_
    exact w_ret1 _ (pp none) rfl rfl ⟨by rw [← hlm]; rfl, M⟩
  | n k i s a b =>
    obtain ⟨hk, ha, hb⟩ := hR1
    have e0 : look l1 0 = pt k 0 := e0
    cases a with
    | e =>
      refine w_seq ?_
      refine w_seq ?_
      refine w_reg ?_
      refine wl_mv (.tmp 0) (pt k 0) (fun _ => rfl) e0 rfl ?_
      refine wl_bin (fun x y => do eqGuard .neq 56 (.tmp 5) (.const (.pointer none)) x y; binOp .neq 56 x y) (.tmp 5) (.const (.pointer none)) (pt k 0) (pp none) (.bool true) (fun _ => rfl) rfl rfl (ne56 (some k) _ _ _) rfl ?_
      refine wl_mv (.tmp 6) (.bool true) (fun _ => rfl) rfl rfl ?_
      refine wl_mv (.tmp 0) (pt k 0) (fun _ => rfl) e0 rfl ?_
      refine wl_mv (.tmp 1) (.int .i64 (0)) (fun _ => rfl) e1 rfl ?_
      refine wl_nc (.tmp 8) k 0 rfl rfl rfl ?_
      refine wl_un (fun v => Instr.fieldAt 66 v 0) (.tmp 10) (pt k 0) (pt k 0) (fun _ => rfl) rfl (by kernel_rfl) rfl ?_
      refine wl_un (fun v => Instr.fieldAt 64 v 1) (.tmp 11) (pt k 0) (pt k 1) (fun _ => rfl) rfl (by kernel_rfl) rfl ?_
      refine wl_bin (fun x y => Instr.indexAt 62 x y) (.tmp 12) (.tmp 9) (pt k 1) (.int .i64 (0)) (pt k 1) (fun _ => rfl) rfl rfl (by kernel_rfl) rfl ?_
      refine wl_load 56 (.tmp 13) (pt k 1) (pp none) rfl rfl (run_one (hS.rc k _ hk) 56 1 rfl Try.underlying56 rfl) rfl ?_
      refine wl_bin (fun x y => do eqGuard .neq 56 (.tmp 14) (.const (.pointer none)) x y; binOp .neq 56 x y) (.tmp 14) (.const (.pointer none)) (pp none) (pp none) (.bool false) (fun _ => rfl) rfl rfl (ne56 none _ _ _) rfl ?_
      refine wl_pick (.tmp 7) (.tmp 15) (.const (.bool false)) true (.bool false) (fun _ => rfl) rfl rfl rfl ?_
      refine w_nil ?_
      refine xn_then ?_
      refine w_condF rfl ?_
      refine w_exit ?_
      refine xx_then ?_
      refine xx_then ?_
      refine xx_blk ?_
      refine xn_then ?_
      refine w_seq ?_
      refine w_reg ?_
      refine wl_mv (.tmp 0) (pt k 0) (fun _ => rfl) e0 rfl ?_
      refine wl_mv (.tmp 24) (pt k 0) (fun _ => rfl) rfl rfl ?_
      refine w_nil ?_
      refine xn_then ?_
      refine w_ret ?_
      exact w_ret1 _ (pt k 0) rfl rfl ⟨by rw [← hlm]; rfl, M⟩
    | n ak ai az al ar =>
      refine w_seq ?_
      refine w_seq ?_
      refine w_reg ?_
      refine wl_mv (.tmp 0) (pt k 0) (fun _ => rfl) e0 rfl ?_
      refine wl_bin (fun x y => do eqGuard .neq 56 (.tmp 5) (.const (.pointer none)) x y; binOp .neq 56 x y) (.tmp 5) (.const (.pointer none)) (pt k 0) (pp none) (.bool true) (fun _ => rfl) rfl rfl (ne56 (some k) _ _ _) rfl ?_
      refine wl_mv (.tmp 6) (.bool true) (fun _ => rfl) rfl rfl ?_
      refine wl_mv (.tmp 0) (pt k 0) (fun _ => rfl) e0 rfl ?_
      refine wl_mv (.tmp 1) (.int .i64 (0)) (fun _ => rfl) e1 rfl ?_
      refine wl_nc (.tmp 8) k 0 rfl rfl rfl ?_
      refine wl_un (fun v => Instr.fieldAt 66 v 0) (.tmp 10) (pt k 0) (pt k 0) (fun _ => rfl) rfl (by kernel_rfl) rfl ?_
      refine wl_un (fun v => Instr.fieldAt 64 v 1) (.tmp 11) (pt k 0) (pt k 1) (fun _ => rfl) rfl (by kernel_rfl) rfl ?_
      refine wl_bin (fun x y => Instr.indexAt 62 x y) (.tmp 12) (.tmp 9) (pt k 1) (.int .i64 (0)) (pt k 1) (fun _ => rfl) rfl rfl (by kernel_rfl) rfl ?_
      refine wl_load 56 (.tmp 13) (pt k 1) (pt ak 0) rfl rfl (run_one (hS.rc k _ hk) 56 1 rfl Try.underlying56 rfl) rfl ?_
      refine wl_bin (fun x y => do eqGuard .neq 56 (.tmp 14) (.const (.pointer none)) x y; binOp .neq 56 x y) (.tmp 14) (.const (.pointer none)) (pt ak 0) (pp none) (.bool true) (fun _ => rfl) rfl rfl (ne56 (some ak) _ _ _) rfl ?_
      refine wl_pick (.tmp 7) (.tmp 15) (.const (.bool false)) true (.bool true) (fun _ => rfl) rfl rfl rfl ?_
      refine w_nil ?_
      refine xn_then ?_
      refine w_condT rfl ?_
      refine w_skip ?_
      refine xn_then ?_
      refine w_block ?_
      refine w_reg ?_
      refine wl_mv (.tmp 0) (pt k 0) (fun _ => rfl) e0 rfl ?_
      refine wl_mv (.tmp 1) (.int .i64 (0)) (fun _ => rfl) e1 rfl ?_
      refine wl_nc (.tmp 17) k 0 rfl rfl rfl ?_
      refine wl_un (fun v => Instr.fieldAt 66 v 0) (.tmp 19) (pt k 0) (pt k 0) (fun _ => rfl) rfl (by kernel_rfl) rfl ?_
      refine wl_un (fun v => Instr.fieldAt 64 v 1) (.tmp 20) (pt k 0) (pt k 1) (fun _ => rfl) rfl (by kernel_rfl) rfl ?_
      refine wl_bin (fun x y => Instr.indexAt 62 x y) (.tmp 21) (.tmp 18) (pt k 1) (.int .i64 (0)) (pt k 1) (fun _ => rfl) rfl rfl (by kernel_rfl) rfl ?_
      refine wl_load 56 (.tmp 22) (pt k 1) (pt ak 0) rfl rfl (run_one (hS.rc k _ hk) 56 1 rfl Try.underlying56 rfl) rfl ?_
      refine wl_mv (.tmp 23) (pt ak 0) (fun _ => rfl) rfl rfl ?_
      refine w_nil ?_
      refine xn_blk ?_
      exact xn_loop (T.n ak ai az al ar).ht (by simp only [T.ht]; have := Nat.le_max_left (T.n ak ai az al ar).ht b.ht; simp only [T.ht] at this; omega) ⟨some k, T.n ak ai az al ar, rfl, rfl, e1, ha, (lm_l _ _ _ _ _ (by intro e; cases e)).symm.trans hlm, hS, M⟩
theorem next_a (hS : HS D w t mb R root lk) {u : Option Nat} {k rk : Nat} {i s ri rz : Int} {l ra rb : T} (hk : R k = some ⟨u, l.p, some rk, s, i⟩) (hb : Rep R (some k) (T.n rk ri rz ra rb)) : Calls Try.prog 47 #[pt k 0] w fun e w' => e = .returned (pp (lm (T.n rk ri rz ra rb))) ∧ Mo w w' := by
  refine w_enter 30 Try.func47 Try.ntmps47 rfl rfl ?_
  have M : Mo w w := Mo.refl _
  refine w_seq ?_
  refine w_reg ?_
  refine wl_mv (.const (.pointer none)) (pp none) (fun _ => rfl) rfl rfl ?_
  refine w_nil ?_
  refine xn_then ?_
  refine w_seq ?_
  refine w_seq ?_
  refine w_reg ?_
  refine wl_mv (.tmp 0) (pt k 0) (fun _ => rfl) rfl rfl ?_
  refine wl_nc (.tmp 3) k 0 rfl rfl rfl ?_
  refine wl_un (fun v => Instr.fieldAt 66 v 0) (.tmp 4) (pt k 0) (pt k 0) (fun _ => rfl) rfl (by kernel_rfl) rfl ?_
  refine wl_un (fun v => Instr.fieldAt 64 v 1) (.tmp 5) (pt k 0) (pt k 1) (fun _ => rfl) rfl (by kernel_rfl) rfl ?_
  refine wl_bin (fun x y => Instr.indexAt 62 x y) (.tmp 6) (.const (.int .i64 (1))) (pt k 1) (.int .i64 (1)) (pt k 2) (fun _ => rfl) rfl rfl (by kernel_rfl) rfl ?_
  refine wl_load 56 (.tmp 7) (pt k 2) (pt rk 0) rfl rfl (run_one (hS.rc k _ hk) 56 2 rfl Try.underlying56 rfl) rfl ?_
  refine wl_bin (fun x y => do eqGuard .neq 56 (.tmp 8) (.const (.pointer none)) x y; binOp .neq 56 x y) (.tmp 8) (.const (.pointer none)) (pt rk 0) (pp none) (.bool true) (fun _ => rfl) rfl rfl (ne56 (some rk) _ _ _) rfl ?_
  refine w_nil ?_
  refine xn_then ?_
  refine w_condT rfl ?_
  refine w_seq ?_
  refine w_reg ?_
  refine wl_mv (.tmp 0) (pt k 0) (fun _ => rfl) rfl rfl ?_
  refine wl_nc (.tmp 10) k 0 rfl rfl rfl ?_
  refine wl_un (fun v => Instr.fieldAt 66 v 0) (.tmp 11) (pt k 0) (pt k 0) (fun _ => rfl) rfl (by kernel_rfl) rfl ?_
  refine wl_un (fun v => Instr.fieldAt 64 v 1) (.tmp 12) (pt k 0) (pt k 1) (fun _ => rfl) rfl (by kernel_rfl) rfl ?_
  refine wl_bin (fun x y => Instr.indexAt 62 x y) (.tmp 13) (.const (.int .i64 (1))) (pt k 1) (.int .i64 (1)) (pt k 2) (fun _ => rfl) rfl rfl (by kernel_rfl) rfl ?_
  refine wl_load 56 (.tmp 14) (pt k 2) (pt rk 0) rfl rfl (run_one (hS.rc k _ hk) 56 2 rfl Try.underlying56 rfl) rfl ?_
  refine wl_call 46 [(.tmp 15), (.const (.int .i64 (0)))] _ [pt rk 0, .int .i64 (0)] (pp (lm (T.n rk ri rz ra rb))) rfl rfl (fun _ _ => by kernel_rfl) (outer_n hS hb) rfl ?_
  intro w1 hq
  replace hS := hS.mo hq
  replace M := M.trans hq
  clear hq
  refine wl_mv (.tmp 16) (pp (lm (T.n rk ri rz ra rb))) (fun _ => rfl) rfl rfl ?_
  refine w_nil ?_
  refine xn_then ?_
  refine w_ret ?_
  refine xr_then ?_
  exact w_ret1 _ (pp (lm (T.n rk ri rz ra rb))) rfl rfl ⟨rfl, M⟩
theorem next_b {C : Cx} {k : Nat} {i s : Int} {l : T} (hT : TS D w t mb C (T.n k i s l .e) lk) : Calls Try.prog 47 #[pt k 0] w fun e w' => e = .returned (pp (upL C)) ∧ Mo w w' := by
  have hT0 := hT
  obtain ⟨R, root, hS, hC, hR, hn⟩ := hT0
  obtain ⟨hk, _, _⟩ := hR
  refine w_enter 30 Try.func47 Try.ntmps47 rfl rfl ?_
  have M : Mo w w := Mo.refl _
  refine w_seq ?_
  refine w_reg ?_
  refine wl_mv (.const (.pointer none)) (pp none) (fun _ => rfl) rfl rfl ?_
  refine w_nil ?_
  refine xn_then ?_
  refine w_seq ?_
  refine w_seq ?_
  refine w_reg ?_
  refine wl_mv (.tmp 0) (pt k 0) (fun _ => rfl) rfl rfl ?_
  refine wl_nc (.tmp 3) k 0 rfl rfl rfl ?_
  refine wl_un (fun v => Instr.fieldAt 66 v 0) (.tmp 4) (pt k 0) (pt k 0) (fun _ => rfl) rfl (by kernel_rfl) rfl ?_
  refine wl_un (fun v => Instr.fieldAt 64 v 1) (.tmp 5) (pt k 0) (pt k 1) (fun _ => rfl) rfl (by kernel_rfl) rfl ?_
  refine wl_bin (fun x y => Instr.indexAt 62 x y) (.tmp 6) (.const (.int .i64 (1))) (pt k 1) (.int .i64 (1)) (pt k 2) (fun _ => rfl) rfl rfl (by kernel_rfl) rfl ?_
  refine wl_load 56 (.tmp 7) (pt k 2) (pp none) rfl rfl (run_one (hS.rc k _ hk) 56 2 rfl Try.underlying56 rfl) rfl ?_
  refine wl_bin (fun x y => do eqGuard .neq 56 (.tmp 8) (.const (.pointer none)) x y; binOp .neq 56 x y) (.tmp 8) (.const (.pointer none)) (pp none) (pp none) (.bool false) (fun _ => rfl) rfl rfl (ne56 none _ _ _) rfl ?_
  refine w_nil ?_
  refine xn_then ?_
  refine w_condF rfl ?_
  refine w_skip ?_
  refine xn_then ?_
  refine w_seq ?_
  refine w_block ?_
  refine w_loop (fun m l0 w1 => ∃ (C1 : Cx) (tr1 : T) (k1 : Nat), m = C1.length ∧ look l0 0 = pt k1 0 ∧ tr1.p = some k1 ∧ TS D w1 t mb C1 tr1 lk ∧ upL C1 = upL C ∧ Mo w w1) _ ⟨C, T.n k i s l .e, k, rfl, rfl, rfl, hT.mo M, rfl, M⟩ ?_
  clear M hS hk hT
  rintro m l1 w1 ⟨C1, tr1, k1, rfl, e0, hp, hT, hup, M⟩
  have hT0 := hT
  obtain ⟨R, root, hS, hC, hR, hn⟩ := hT
  cases tr1 with
  | e => cases hp
  | n kk i1 s1 l1t r1 =>
    cases hp
    obtain ⟨hk, _, _⟩ := hR
    have n1 := nd_pos hn
    have hnk : k1 ∉ adC C1 := fun q => n1.2.2 k1 q (by unfold T.ad; simp)
    have hsd := fun w9 (m9 : Mo w1 w9) => side_c (hS.mo m9) hC hk hnk
    cases C1 with
    | nil =>
      refine w_seq ?_
      refine w_seq ?_
      refine w_reg ?_
      refine wl_mv (.tmp 0) (pt k1 0) (fun _ => rfl) e0 rfl ?_
      refine wl_call 41 [(.tmp 17)] _ [pt k1 0] (.int .i64 (0)) rfl rfl (fun _ _ => by kernel_rfl) (hsd _ (Mo.refl _)) rfl ?_
      intro w11 hq
      have hq9 := hq
      replace hS := hS.mo hq
      replace M := M.trans hq
      clear hq
      refine wl_bin (fun x y => do eqGuard .eql 3 (.tmp 18) (.const (.int .i64 (1))) x y; binOp .eql 3 x y) (.tmp 18) (.const (.int .i64 (1))) (.int .i64 (0)) (.int .i64 (1)) (.bool false) (fun _ => rfl) rfl rfl (by kernel_rfl) rfl ?_
      refine w_nil ?_
      refine xn_then ?_
      refine w_condF rfl ?_
      refine w_exit ?_
      refine xx_then ?_
      refine xx_then ?_
      refine xx_blk ?_
      refine xn_then ?_
      refine w_seq ?_
      refine w_reg ?_
      refine wl_mv (.tmp 0) (pt k1 0) (fun _ => rfl) e0 rfl ?_
      refine wl_nc (.tmp 25) k1 0 rfl rfl rfl ?_
      refine wl_un (fun v => Instr.fieldAt 66 v 0) (.tmp 26) (pt k1 0) (pt k1 0) (fun _ => rfl) rfl (by kernel_rfl) rfl ?_
      refine wl_un (fun v => Instr.fieldAt 64 v 0) (.tmp 27) (pt k1 0) (pt k1 0) (fun _ => rfl) rfl (by kernel_rfl) rfl ?_
      refine wl_load 56 (.tmp 28) (pt k1 0) (pp none) rfl rfl (run_one (hS.rc k1 _ hk) 56 0 rfl Try.underlying56 rfl) rfl ?_
      refine wl_mv (.tmp 29) (pp none) (fun _ => rfl) rfl rfl ?_
      refine w_nil ?_
      refine xn_then ?_
      refine w_ret ?_
      exact w_ret1 _ (pp none) rfl rfl ⟨by rw [← hup]; rfl, M⟩
    | cons f C2 =>
      obtain ⟨fk, fi, fs, fd, fo⟩ := f
      cases fd with
      | false =>
        refine w_seq ?_
        refine w_seq ?_
        refine w_reg ?_
        refine wl_mv (.tmp 0) (pt k1 0) (fun _ => rfl) e0 rfl ?_
        refine wl_call 41 [(.tmp 17)] _ [pt k1 0] (.int .i64 (0)) rfl rfl (fun _ _ => by kernel_rfl) (hsd _ (Mo.refl _)) rfl ?_
        intro w11 hq
        have hq9 := hq
        replace hS := hS.mo hq
        replace M := M.trans hq
        clear hq
        refine wl_bin (fun x y => do eqGuard .eql 3 (.tmp 18) (.const (.int .i64 (1))) x y; binOp .eql 3 x y) (.tmp 18) (.const (.int .i64 (1))) (.int .i64 (0)) (.int .i64 (1)) (.bool false) (fun _ => rfl) rfl rfl (by kernel_rfl) rfl ?_
        refine w_nil ?_
        refine xn_then ?_
        refine w_condF rfl ?_
        refine w_exit ?_
        refine xx_then ?_
        refine xx_then ?_
        refine xx_blk ?_
        refine xn_then ?_
        refine w_seq ?_
        refine w_reg ?_
        refine wl_mv (.tmp 0) (pt k1 0) (fun _ => rfl) e0 rfl ?_
        refine wl_nc (.tmp 25) k1 0 rfl rfl rfl ?_
        refine wl_un (fun v => Instr.fieldAt 66 v 0) (.tmp 26) (pt k1 0) (pt k1 0) (fun _ => rfl) rfl (by kernel_rfl) rfl ?_
        refine wl_un (fun v => Instr.fieldAt 64 v 0) (.tmp 27) (pt k1 0) (pt k1 0) (fun _ => rfl) rfl (by kernel_rfl) rfl ?_
        refine wl_load 56 (.tmp 28) (pt k1 0) (pt fk 0) rfl rfl (run_one (hS.rc k1 _ hk) 56 0 rfl Try.underlying56 rfl) rfl ?_
        refine wl_mv (.tmp 29) (pt fk 0) (fun _ => rfl) rfl rfl ?_
        refine w_nil ?_
        refine xn_then ?_
        refine w_ret ?_
        exact w_ret1 _ (pt fk 0) rfl rfl ⟨by rw [← hup]; rfl, M⟩
      | true =>
        refine w_seq ?_
        refine w_seq ?_
        refine w_reg ?_
        refine wl_mv (.tmp 0) (pt k1 0) (fun _ => rfl) e0 rfl ?_
        refine wl_call 41 [(.tmp 17)] _ [pt k1 0] (.int .i64 (1)) rfl rfl (fun _ _ => by kernel_rfl) (hsd _ (Mo.refl _)) rfl ?_
        intro w11 hq
        have hq9 := hq
        replace hS := hS.mo hq
        replace M := M.trans hq
        clear hq
        refine wl_bin (fun x y => do eqGuard .eql 3 (.tmp 18) (.const (.int .i64 (1))) x y; binOp .eql 3 x y) (.tmp 18) (.const (.int .i64 (1))) (.int .i64 (1)) (.int .i64 (1)) (.bool true) (fun _ => rfl) rfl rfl (by kernel_rfl) rfl ?_
        refine w_nil ?_
        refine xn_then ?_
        refine w_condT rfl ?_
        refine w_skip ?_
        refine xn_then ?_
        refine w_block ?_
        refine w_reg ?_
        refine wl_mv (.tmp 0) (pt k1 0) (fun _ => rfl) e0 rfl ?_
        refine wl_nc (.tmp 20) k1 0 rfl rfl rfl ?_
        refine wl_un (fun v => Instr.fieldAt 66 v 0) (.tmp 21) (pt k1 0) (pt k1 0) (fun _ => rfl) rfl (by kernel_rfl) rfl ?_
        refine wl_un (fun v => Instr.fieldAt 64 v 0) (.tmp 22) (pt k1 0) (pt k1 0) (fun _ => rfl) rfl (by kernel_rfl) rfl ?_
        refine wl_load 56 (.tmp 23) (pt k1 0) (pt fk 0) rfl rfl (run_one (hS.rc k1 _ hk) 56 0 rfl Try.underlying56 rfl) rfl ?_
        refine wl_mv (.tmp 24) (pt fk 0) (fun _ => rfl) rfl rfl ?_
        refine w_nil ?_
        refine xn_blk ?_
        exact xn_loop C2.length (by simp) ⟨C2, (⟨fk, fi, fs, true, fo⟩ : Fr).jn (T.n k1 i1 s1 l1t r1), fk, rfl, rfl, rfl, hT0.up.mo hq9, by rw [← hup]; rfl, M⟩
end
end Go.Proofs.Ytbmbldloeblbbaa
