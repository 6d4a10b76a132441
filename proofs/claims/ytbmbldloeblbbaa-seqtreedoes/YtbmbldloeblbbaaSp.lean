/-
  step: an operation done with both.
-/
import Derived.Test.YtbmbldloeblbbaaFl
namespace Go.Proofs.Ytbmbldloeblbbaa
open Go.RowKit
open R (wo_callx)
theorem eqE' {a b : Int} {r : Bool} (h : decide (a = b) = r) (x y : Operand) (w : World) : (do eqGuard .eql 46 x y (.int .i64 a) (.int .i64 b); binOp .eql 46 (.int .i64 a) (.int .i64 b)).run Try.prog w = .ok (.bool r) w := by
  have e : (do eqGuard .eql 46 x y (.int .i64 a) (.int .i64 b); binOp .eql 46 (.int .i64 a) (.int .i64 b)).run Try.prog w = .ok (.bool (a == b)) w := by kernel_rfl
  rw [e, ← h]; rfl
/-- What a step leaves. -/
def Stp (n0 : Nat) (ks : List Nat) (r : Nat) (lk : Int) (w : World) (e : Ending) (w' : World) : Prop :=
  ∃ t' mb' tr' lk' v', e = .returned (.tuple #[pt t' 0, .bool true]) ∧ GT n0 (oks v' ++ r :: ks) w' t' mb' tr' lk' ∧ RL n0 w' r tr'.ids v' ∧ lk' ≤ lk + 90000 ∧ Mk (Wr n0 ks) w w'
section
variable {n0 : Nat} {ks : List Nat} {w : World} {t mb r : Nat} {tr : T} {lk : Int} {v : Value}
theorem step_i (hG : GT n0 (oks v ++ r :: ks) w t mb tr lk) (hL : RL n0 w r tr.ids v) (hrw : Wr n0 ks r) (hlk : lk ≤ 2800000000000000000) (o : Op3) (hi : I64 o.i) (q0 : decide (o.d = 0) = true) : Calls Try.prog 10 #[pt t 0, pt r 0, .agg #[.int .i64 o.d, .int .i64 o.a, .int .i64 o.i]] w (Stp n0 ks r lk w) := by
  have hll := ids_le hG
  have h0 := hG.1
  refine w_enter 105 Try.func10 Try.ntmps10 rfl rfl ?_
  have M : Mk (Wr n0 ks) w w := Mk.refl _ _
  refine w_seq ?_
  refine w_reg ?_
  refine wl_box 31 (.tmp 2) (.agg #[.int .i64 (o.d), .int .i64 (o.a), .int .i64 (o.i)]) #[.int .i64 (o.d), .int .i64 (o.a), .int .i64 (o.i)] rfl rfl (fun _ => by kernel_rfl) rfl ?_
  intro k1 w1 hk hz hq Q1
  replace hG : GT n0 (oks v ++ r :: k1 :: ks) w1 t mb tr lk := (hG.push (Nat.le_of_eq hk) (by omega) hq).pop (fun j e => by simp only [List.mem_append, List.mem_cons] at e ⊢; rcases e with e | e | e | e; exact Or.inr (Or.inl e); exact Or.inr (Or.inr (Or.inl e)); exact Or.inl e; exact Or.inr (Or.inr (Or.inr e)))
  have hrl := hL.at1.lt
  have hk1r : k1 ≠ r := by omega
  replace hL := hL.mo hq
  replace M := M.trans hq
  clear hk hz hq
  refine wl_mv (.const (.pointer none)) (pp none) (fun _ => rfl) rfl rfl ?_
  refine wl_mv (.const (.bool false)) (.bool false) (fun _ => rfl) rfl rfl ?_
  refine w_nil ?_
  refine xn_then ?_
  refine w_seq ?_
  refine w_seq ?_
  refine w_reg ?_
  refine wl_un (fun v => Instr.fieldAt 31 v 0) (.tmp 5) (pt k1 0) (pt k1 0) (fun _ => rfl) rfl (by kernel_rfl) rfl ?_
  refine wl_load 3 (.tmp 17) (pt k1 0) (.int .i64 (o.d)) rfl rfl (run_one Q1 3 0 rfl Try.underlying3 rfl) rfl ?_
  refine w_nil ?_
  refine xn_then ?_
  refine w_block ?_
  refine w_seq ?_
  refine w_reg ?_
  refine wl_bin (fun x y => do eqGuard .eql 3 (.tmp 18) (.const (.int .i64 (0))) x y; binOp .eql 3 x y) (.tmp 18) (.const (.int .i64 (0))) (.int .i64 (o.d)) (.int .i64 (0)) (.bool true) (fun _ => rfl) rfl rfl (eqI q0 _ _ _) rfl ?_
  refine wl_mv (.tmp 20) (.bool true) (fun _ => rfl) rfl rfl ?_
  refine w_nil ?_
  refine xn_then ?_
  refine w_condT rfl ?_
  refine w_seq ?_
  have hsm : Smos [vq (pt t 0), vq (pt t 0), vq (pt k1 1), vq (.int .i64 (o.a)), vq (pt k1 2), vq (.int .i64 (o.i)), vq (.int .i64 (insL tr.ids (o.a) (o.i))), vq (pt r 0), vq (pt k1 1), vq (.int .i64 (o.a)), vq (pt k1 2), vq (.int .i64 (o.i)), vq (.int .i64 (insL tr.ids (o.a) (o.i))), vq (.bool true), vq (pt t 0), vq (.bool true)] := smos_cons (smo_vq _) (smos_cons (smo_vq _) (smos_cons (smo_vq _) (smos_cons (smo_vq _) (smos_cons (smo_vq _) (smos_cons (smo_vq _) (smos_cons (smo_vq _) (smos_cons (smo_vq _) (smos_cons (smo_vq _) (smos_cons (smo_vq _) (smos_cons (smo_vq _) (smos_cons (smo_vq _) (smos_cons (smo_vq _) (smos_cons (smo_vq _) (smos_cons (smo_vq _) (smos_cons (smo_vq _) (smos_nil))))))))))))))))
  obtain ⟨G, hGd⟩ : ∃ G, G = (fun (L9 : Nat → Bool) (_ : Nat → Value) (w9 : World) => At w9 k1 [.int .i64 (o.d), .int .i64 (o.a), .int .i64 (o.i)] ∧ (L9 12 = true → L9 6 = true) ∧ (L9 6 = false → Mo w1 w9) ∧ (L9 6 = true → L9 12 = false → ∃ tr1 lk1, GT n0 (oks v ++ r :: k1 :: ks) w9 t mb tr1 lk1 ∧ tr1.ids = insI tr.ids (o.a) (o.i) ∧ lk1 ≤ lk + 30000 ∧ RL n0 w9 r tr.ids v ∧ Mk (Wr n0 ks) w1 w9) ∧ (L9 12 = true → ∃ tr1 lk1 v2, GT n0 (oks v2 ++ r :: k1 :: ks) w9 t mb tr1 lk1 ∧ tr1.ids = insI tr.ids (o.a) (o.i) ∧ lk1 ≤ lk + 30000 ∧ RL n0 w9 r (insI tr.ids (o.a) (o.i)) v2 ∧ Mk (Wr n0 ks) w1 w9)) := ⟨_, rfl⟩
  have hgr : ∀ (i : Nat) (v : Value), i ≠ 6 → i ≠ 12 → ∀ (L9 : Nat → Bool) (f9 : Nat → Value) (a b : World), G L9 f9 a → L9 i = false → Mo a b → G (updB L9 i) (upd f9 i v) b := by
    intro i v h6 h12 L9 f9 a b h _ m
    rw [hGd] at h ⊢
    simp only [updB_ne (Ne.symm h6), updB_ne (Ne.symm h12)]
    obtain ⟨q1, q2, q3, q4, q5⟩ := h
    exact ⟨q1.mo m, q2, fun x => (q3 x).trans m, fun x y => (by obtain ⟨a1, a2, b1, b2, b3, b4, b5⟩ := q4 x y; exact ⟨a1, a2, b1.mo m, b2, b3, b4.mo m, b5.trans m⟩), fun x => (by obtain ⟨a1, a2, a3, b1, b2, b3, b4, b5⟩ := q5 x; exact ⟨a1, a2, a3, b1.mo m, b2, b3, b4.mo m, b5.trans m⟩)⟩
  refine w_ogl 16 G [vq (pt t 0), vq (pt t 0), vq (pt k1 1), vq (.int .i64 (o.a)), vq (pt k1 2), vq (.int .i64 (o.i)), vq (.int .i64 (insL tr.ids (o.a) (o.i))), vq (pt r 0), vq (pt k1 1), vq (.int .i64 (o.a)), vq (pt k1 2), vq (.int .i64 (o.i)), vq (.int .i64 (insL tr.ids (o.a) (o.i))), vq (.bool true), vq (pt t 0), vq (.bool true)] (by kernel_rfl) (by kernel_rfl) (by kernel_rfl) (by kernel_rfl) rfl (fun f => by rw [hGd]; exact ⟨Q1.mo ((Mo.refl _).drew), (fun e => by cases e), fun _ => (Mo.refl _).drew, (fun e => by cases e), (fun e => by cases e)⟩) ?_ ?_
  · refine ea_cons ?_ (ea_cons ?_ (ea_cons ?_ (ea_cons ?_ (ea_cons ?_ (ea_cons ?_ (ea_cons ?_ (ea_cons ?_ (ea_cons ?_ (ea_cons ?_ (ea_cons ?_ (ea_cons ?_ (ea_cons ?_ (ea_cons ?_ (ea_cons ?_ (ea_cons ?_ (ea_nil))))))))))))))))
    · exact ol_eq (pt t 0) rfl (hgr 0 _ (by decide) (by decide)) hsm (fun L9 f wf hG9 hd K hK => go_run rfl (wo_mv (.tmp 0) (pt t 0) (fun _ => rfl) rfl (hK _ (Mo.refl _))))
    · exact ol_eq (pt t 0) rfl (hgr 1 _ (by decide) (by decide)) hsm (fun L9 f wf hG9 hd K hK => go_run rfl (wo_mv (.tmp 0) (pt t 0) (fun _ => rfl) rfl (hK _ (Mo.refl _))))
    · exact ol_eq (pt k1 1) rfl (hgr 2 _ (by decide) (by decide)) hsm (fun L9 f wf hG9 hd K hK => go_run rfl (wo_un (fun v => Instr.fieldAt 31 v 1) (.tmp 5) (pt k1 0) (pt k1 1) (fun _ => rfl) rfl (by kernel_rfl) (hK _ (Mo.refl _))))
    · exact ol_eq (.int .i64 (o.a)) rfl (hgr 3 _ (by decide) (by decide)) hsm (fun L9 f wf hG9 hd K hK => have Q9 : At wf k1 [.int .i64 (o.d), .int .i64 (o.a), .int .i64 (o.i)] := (by rw [hGd] at hG9; exact hG9.1); go_run rfl (wo_load 3 (.tmp 23) (pt k1 1) (.int .i64 (o.a)) rfl (hd 2 rfl) (run_one Q9 3 1 rfl Try.underlying3 rfl) (hK _ (Mo.refl _))))
    · exact ol_eq (pt k1 2) rfl (hgr 4 _ (by decide) (by decide)) hsm (fun L9 f wf hG9 hd K hK => go_run rfl (wo_un (fun v => Instr.fieldAt 31 v 2) (.tmp 5) (pt k1 0) (pt k1 2) (fun _ => rfl) rfl (by kernel_rfl) (hK _ (Mo.refl _))))
    · exact ol_eq (.int .i64 (o.i)) rfl (hgr 5 _ (by decide) (by decide)) hsm (fun L9 f wf hG9 hd K hK => have Q9 : At wf k1 [.int .i64 (o.d), .int .i64 (o.a), .int .i64 (o.i)] := (by rw [hGd] at hG9; exact hG9.1); go_run rfl (wo_load 2 (.tmp 25) (pt k1 2) (.int .i64 (o.i)) rfl (hd 4 rfl) (run_one Q9 2 2 rfl Try.underlying2 rfl) (hK _ (Mo.refl _))))
    · refine ⟨fun L9 f wf hG9 hi9 hd K hK => ?_⟩
      rw [hGd] at hG9
      obtain ⟨q1, q2, q3, q4, q5⟩ := hG9
      have hmo := q3 hi9
      have h12 : L9 12 = false := by cases h : L9 12 with | false => rfl | true => rw [q2 h] at hi9; cases hi9
      refine go_run rfl (wo_callx 19 [(.tmp 22), (.tmp 24), (.tmp 26)] _ [pt t 0, .int .i64 (o.a), .int .i64 (o.i)] rfl (li3 (hd 1 rfl).2 (hd 3 rfl).2 (hd 5 rfl).2) (fun _ _ => by kernel_rfl) (ins_full (hG.mo hmo) hi (by omega)) (fun e9 w9 ⟨tr1, lk1, he, b1, b2, b3, hM2⟩ => ⟨_, he, hK _ w9 ?_ rfl (fun j u hj hr => ?_)⟩))
      · rw [hGd]
        simp only [updB_eq, updB_ne (show (12 : Nat) ≠ 6 by decide)]
        exact ⟨Wr.at hM2 q1 (by simp), fun _ => trivial, fun e => (by cases e), fun _ _ => ⟨tr1, lk1, b1, b2, b3, (hL.mo hmo).wr hM2 (by simp), (Mk.of _ hmo).tr hM2 (fun j _ e => ⟨e.1, fun q => e.2 (by simp [q])⟩)⟩, fun e => (by rw [h12] at e; cases e)⟩
      · match j, hj, hr with
        | 0, _, hr => exact hr
        | 1, _, hr => exact hr
        | 2, _, hr => exact hr
        | 3, _, hr => exact hr
        | 4, _, hr => exact hr
        | 5, _, hr => exact hr
        | 6, _, hr => exact hr
        | 7, _, hr => exact hr
        | 8, _, hr => exact hr
        | 9, _, hr => exact hr
        | 10, _, hr => exact hr
        | 11, _, hr => exact hr
        | 12, _, hr => exact hr
        | 13, _, hr => exact hr
        | 14, _, hr => exact hr
        | 15, _, hr => exact hr
        | j + 16, _, _ => trivial
    · exact ol_eq (pt r 0) rfl (hgr 7 _ (by decide) (by decide)) hsm (fun L9 f wf hG9 hd K hK => go_run rfl (wo_mv (.tmp 1) (pt r 0) (fun _ => rfl) rfl (hK _ (Mo.refl _))))
    · exact ol_eq (pt k1 1) rfl (hgr 8 _ (by decide) (by decide)) hsm (fun L9 f wf hG9 hd K hK => go_run rfl (wo_un (fun v => Instr.fieldAt 31 v 1) (.tmp 5) (pt k1 0) (pt k1 1) (fun _ => rfl) rfl (by kernel_rfl) (hK _ (Mo.refl _))))
    · exact ol_eq (.int .i64 (o.a)) rfl (hgr 9 _ (by decide) (by decide)) hsm (fun L9 f wf hG9 hd K hK => have Q9 : At wf k1 [.int .i64 (o.d), .int .i64 (o.a), .int .i64 (o.i)] := (by rw [hGd] at hG9; exact hG9.1); go_run rfl (wo_load 3 (.tmp 29) (pt k1 1) (.int .i64 (o.a)) rfl (hd 8 rfl) (run_one Q9 3 1 rfl Try.underlying3 rfl) (hK _ (Mo.refl _))))
    · exact ol_eq (pt k1 2) rfl (hgr 10 _ (by decide) (by decide)) hsm (fun L9 f wf hG9 hd K hK => go_run rfl (wo_un (fun v => Instr.fieldAt 31 v 2) (.tmp 5) (pt k1 0) (pt k1 2) (fun _ => rfl) rfl (by kernel_rfl) (hK _ (Mo.refl _))))
    · exact ol_eq (.int .i64 (o.i)) rfl (hgr 11 _ (by decide) (by decide)) hsm (fun L9 f wf hG9 hd K hK => have Q9 : At wf k1 [.int .i64 (o.d), .int .i64 (o.a), .int .i64 (o.i)] := (by rw [hGd] at hG9; exact hG9.1); go_run rfl (wo_load 2 (.tmp 31) (pt k1 2) (.int .i64 (o.i)) rfl (hd 10 rfl) (run_one Q9 2 2 rfl Try.underlying2 rfl) (hK _ (Mo.refl _))))
    · refine ⟨fun L9 f wf hG9 hi9 hd K hK => ?_⟩
      rw [hGd] at hG9
      obtain ⟨q1, q2, q3, q4, q5⟩ := hG9
      have h6 := (hd 6 rfl).1
      obtain ⟨tr1, lk1, b1, b2, b3, b4, b5⟩ := q4 h6 hi9
      refine go_run rfl (wo_callx 25 [(.tmp 28), (.tmp 30), (.tmp 32)] _ [pt r 0, .int .i64 (o.a), .int .i64 (o.i)] rfl (li3 (hd 7 rfl).2 (hd 9 rfl).2 (hd 11 rfl).2) (fun _ _ => by kernel_rfl) (rins_full b4 hll b1.1 (o.a) (o.i)) (fun e9 w9 ⟨v2, he, c1, c2, hM2⟩ => ⟨_, he, hK _ w9 ?_ rfl (fun j u hj hr => ?_)⟩))
      · rw [hGd]
        simp only [updB_eq, updB_ne (show (6 : Nat) ≠ 12 by decide)]
        exact ⟨hM2.at q1 hk1r, fun _ => h6, fun e => (by rw [h6] at e; cases e), fun _ e => (by cases e), fun _ => ⟨tr1, lk1, v2, b1.list (by simp) hM2 c2 (fun g e => (c1.own.lt g e).2), b2, b3, c1, b5.tr hM2 (fun j _ e => e ▸ hrw)⟩⟩
      · match j, hj, hr with
        | 0, _, hr => exact hr
        | 1, _, hr => exact hr
        | 2, _, hr => exact hr
        | 3, _, hr => exact hr
        | 4, _, hr => exact hr
        | 5, _, hr => exact hr
        | 6, _, hr => exact hr
        | 7, _, hr => exact hr
        | 8, _, hr => exact hr
        | 9, _, hr => exact hr
        | 10, _, hr => exact hr
        | 11, _, hr => exact hr
        | 12, _, hr => exact hr
        | 13, _, hr => exact hr
        | 14, _, hr => exact hr
        | 15, _, hr => exact hr
        | j + 16, _, _ => trivial
    · exact ol_eq (.bool true) rfl (hgr 13 _ (by decide) (by decide)) hsm (fun L9 f wf hG9 hd K hK => go_run rfl (wo_bin (fun x y => do eqGuard .eql 46 (.tmp 27) (.tmp 33) x y; binOp .eql 46 x y) (.tmp 27) (.tmp 33) (.int .i64 (insL tr.ids (o.a) (o.i))) (.int .i64 (insL tr.ids (o.a) (o.i))) (.bool true) (fun _ => rfl) (hd 6 rfl) (hd 12 rfl) (eqE' (decide_eq_true rfl) _ _ _) (hK _ (Mo.refl _))))
    · exact ol_eq (pt t 0) rfl (hgr 14 _ (by decide) (by decide)) hsm (fun L9 f wf hG9 hd K hK => go_run rfl (wo_mv (.tmp 21) (pt t 0) (fun _ => rfl) (hd 0 rfl) (hK _ (Mo.refl _))))
    · exact ol_eq (.bool true) rfl (hgr 15 _ (by decide) (by decide)) hsm (fun L9 f wf hG9 hd K hK => go_run rfl (wo_mv (.tmp 34) (.bool true) (fun _ => rfl) (hd 13 rfl) (hK _ (Mo.refl _))))
  intro L9 f w2 hall hG9 hR
  rw [hGd] at hG9
  obtain ⟨Q1, _, _, _, q5⟩ := hG9
  obtain ⟨tr1, lk1, v2, hG, hid1, hk1, hL2, hM9⟩ := q5 (hall 12 rfl)
  have e14 := hR 14 rfl
  have e15 := hR 15 rfl
  replace M := M.tr hM9 (fun j _ e => e)
  clear hall hR hgr hsm hGd q5 hM9
  refine w_nil ?_
  refine xn_then ?_
  refine w_ret ?_
  refine xr_blk ?_
  refine xr_then ?_
  exact w_ret2 _ _ (pt t 0) (.bool true) rfl e14 e15 ⟨t, mb, tr1, lk1, v2, rfl, hG.pop (fun j e => by simp only [List.mem_append, List.mem_cons] at e ⊢; rcases e with e | e | e; exact Or.inl e; exact Or.inr (Or.inl e); exact Or.inr (Or.inr (Or.inr e))), by rw [hid1]; exact hL2, by omega, M⟩
theorem step_d (hG : GT n0 (oks v ++ r :: ks) w t mb tr lk) (hL : RL n0 w r tr.ids v) (hrw : Wr n0 ks r) (hlk : lk ≤ 2800000000000000000) (o : Op3) (hi : I64 o.i) (q0 : decide (o.d = 0) = false) (q1 : decide (o.d = 1) = true) : Calls Try.prog 10 #[pt t 0, pt r 0, .agg #[.int .i64 o.d, .int .i64 o.a, .int .i64 o.i]] w (Stp n0 ks r lk w) := by
  have hll := ids_le hG
  have h0 := hG.1
  refine w_enter 105 Try.func10 Try.ntmps10 rfl rfl ?_
  have M : Mk (Wr n0 ks) w w := Mk.refl _ _
  refine w_seq ?_
  refine w_reg ?_
  refine wl_box 31 (.tmp 2) (.agg #[.int .i64 (o.d), .int .i64 (o.a), .int .i64 (o.i)]) #[.int .i64 (o.d), .int .i64 (o.a), .int .i64 (o.i)] rfl rfl (fun _ => by kernel_rfl) rfl ?_
  intro k1 w1 hk hz hq Q1
  replace hG : GT n0 (oks v ++ r :: k1 :: ks) w1 t mb tr lk := (hG.push (Nat.le_of_eq hk) (by omega) hq).pop (fun j e => by simp only [List.mem_append, List.mem_cons] at e ⊢; rcases e with e | e | e | e; exact Or.inr (Or.inl e); exact Or.inr (Or.inr (Or.inl e)); exact Or.inl e; exact Or.inr (Or.inr (Or.inr e)))
  have hrl := hL.at1.lt
  have hk1r : k1 ≠ r := by omega
  replace hL := hL.mo hq
  replace M := M.trans hq
  clear hk hz hq
  refine wl_mv (.const (.pointer none)) (pp none) (fun _ => rfl) rfl rfl ?_
  refine wl_mv (.const (.bool false)) (.bool false) (fun _ => rfl) rfl rfl ?_
  refine w_nil ?_
  refine xn_then ?_
  refine w_seq ?_
  refine w_seq ?_
  refine w_reg ?_
  refine wl_un (fun v => Instr.fieldAt 31 v 0) (.tmp 5) (pt k1 0) (pt k1 0) (fun _ => rfl) rfl (by kernel_rfl) rfl ?_
  refine wl_load 3 (.tmp 17) (pt k1 0) (.int .i64 (o.d)) rfl rfl (run_one Q1 3 0 rfl Try.underlying3 rfl) rfl ?_
  refine w_nil ?_
  refine xn_then ?_
  refine w_block ?_
  refine w_seq ?_
  refine w_reg ?_
  refine wl_bin (fun x y => do eqGuard .eql 3 (.tmp 18) (.const (.int .i64 (0))) x y; binOp .eql 3 x y) (.tmp 18) (.const (.int .i64 (0))) (.int .i64 (o.d)) (.int .i64 (0)) (.bool false) (fun _ => rfl) rfl rfl (eqI q0 _ _ _) rfl ?_
  refine wl_mv (.tmp 20) (.bool false) (fun _ => rfl) rfl rfl ?_
  refine w_nil ?_
  refine xn_then ?_
  refine w_condF rfl ?_
  refine w_seq ?_
  refine w_reg ?_
  refine wl_bin (fun x y => do eqGuard .eql 3 (.tmp 18) (.const (.int .i64 (1))) x y; binOp .eql 3 x y) (.tmp 18) (.const (.int .i64 (1))) (.int .i64 (o.d)) (.int .i64 (1)) (.bool true) (fun _ => rfl) rfl rfl (eqI q1 _ _ _) rfl ?_
  refine wl_mv (.tmp 36) (.bool true) (fun _ => rfl) rfl rfl ?_
  refine w_nil ?_
  refine xn_then ?_
  refine w_condT rfl ?_
  refine w_seq ?_
  refine w_reg ?_
  refine wl_mv (.tmp 0) (pt t 0) (fun _ => rfl) rfl rfl ?_
  refine wl_un (fun v => Instr.fieldAt 31 v 2) (.tmp 5) (pt k1 0) (pt k1 2) (fun _ => rfl) rfl (by kernel_rfl) rfl ?_
  refine wl_load 2 (.tmp 39) (pt k1 2) (.int .i64 (o.i)) rfl rfl (run_one Q1 2 2 rfl Try.underlying2 rfl) rfl ?_
  refine wl_callx 20 [(.tmp 38), (.tmp 40)] _ [pt t 0, .int .i64 (o.i)] rfl rfl (fun _ _ => by kernel_rfl) (del_full hG hi (by omega)) rfl ?_
  rintro _ w2 ⟨tr1, lk1, rfl, hG, hid1, hk1, hM2⟩
  refine ⟨_, rfl, ?_⟩
  replace M := M.tr hM2 (fun j _ e => ⟨e.1, fun q => e.2 (by simp [q])⟩)
  replace Q1 := Wr.at hM2 Q1 (by simp)
  replace hL := hL.wr hM2 (by simp)
  clear hM2
  refine wl_mv (.tmp 41) (.tuple #[.int .i64 (max 0 (rix tr.ids (o.i))), .int .i64 (delC tr.ids (o.i))]) (fun _ => rfl) rfl rfl ?_
  refine wl_un (fun v => Instr.extract v 0) (.tmp 37) (.tuple #[.int .i64 (max 0 (rix tr.ids (o.i))), .int .i64 (delC tr.ids (o.i))]) (.int .i64 (max 0 (rix tr.ids (o.i)))) (fun _ => rfl) rfl (by kernel_rfl) rfl ?_
  refine wl_un (fun v => Instr.extract v 1) (.tmp 37) (.tuple #[.int .i64 (max 0 (rix tr.ids (o.i))), .int .i64 (delC tr.ids (o.i))]) (.int .i64 (delC tr.ids (o.i))) (fun _ => rfl) rfl (by kernel_rfl) rfl ?_
  refine wl_mv (.tmp 42) (.int .i64 (max 0 (rix tr.ids (o.i)))) (fun _ => rfl) rfl rfl ?_
  refine wl_mv (.tmp 43) (.int .i64 (delC tr.ids (o.i))) (fun _ => rfl) rfl rfl ?_
  refine w_nil ?_
  refine xn_then ?_
  refine w_seq ?_
  refine w_reg ?_
  refine wl_mv (.tmp 1) (pt r 0) (fun _ => rfl) rfl rfl ?_
  refine wl_un (fun v => Instr.fieldAt 31 v 2) (.tmp 5) (pt k1 0) (pt k1 2) (fun _ => rfl) rfl (by kernel_rfl) rfl ?_
  refine wl_load 2 (.tmp 46) (pt k1 2) (.int .i64 (o.i)) rfl rfl (run_one Q1 2 2 rfl Try.underlying2 rfl) rfl ?_
  have hsz := hG.1
  refine wl_callx 26 [(.tmp 45), (.tmp 47)] _ [pt r 0, .int .i64 (o.i)] rfl rfl (fun _ _ => by kernel_rfl) (rdel_full hL hll hsz (o.i)) rfl ?_
  rintro _ w3 ⟨v2, rfl, hL2, hNv, hM2⟩
  refine ⟨_, rfl, ?_⟩
  replace hG := hG.list (by simp) hM2 hNv (fun g e => (hL2.own.lt g e).2)
  replace Q1 := hM2.at Q1 hk1r
  replace M := M.tr hM2 (fun j _ e => e ▸ hrw)
  clear hM2 hNv
  refine wl_mv (.tmp 48) (.tuple #[.int .i64 (max 0 (rix tr.ids (o.i))), .int .i64 (delC tr.ids (o.i))]) (fun _ => rfl) rfl rfl ?_
  refine wl_un (fun v => Instr.extract v 0) (.tmp 44) (.tuple #[.int .i64 (max 0 (rix tr.ids (o.i))), .int .i64 (delC tr.ids (o.i))]) (.int .i64 (max 0 (rix tr.ids (o.i)))) (fun _ => rfl) rfl (by kernel_rfl) rfl ?_
  refine wl_un (fun v => Instr.extract v 1) (.tmp 44) (.tuple #[.int .i64 (max 0 (rix tr.ids (o.i))), .int .i64 (delC tr.ids (o.i))]) (.int .i64 (delC tr.ids (o.i))) (fun _ => rfl) rfl (by kernel_rfl) rfl ?_
  refine wl_mv (.tmp 49) (.int .i64 (max 0 (rix tr.ids (o.i)))) (fun _ => rfl) rfl rfl ?_
  refine wl_mv (.tmp 50) (.int .i64 (delC tr.ids (o.i))) (fun _ => rfl) rfl rfl ?_
  refine w_nil ?_
  refine xn_then ?_
  refine w_seq ?_
  refine w_reg ?_
  refine wl_mv (.tmp 0) (pt t 0) (fun _ => rfl) rfl rfl ?_
  refine wl_mv (.tmp 8) (.int .i64 (max 0 (rix tr.ids (o.i)))) (fun _ => rfl) rfl rfl ?_
  refine wl_mv (.tmp 10) (.int .i64 (max 0 (rix tr.ids (o.i)))) (fun _ => rfl) rfl rfl ?_
  refine wl_bin (fun x y => do eqGuard .eql 3 (.tmp 52) (.tmp 53) x y; binOp .eql 3 x y) (.tmp 52) (.tmp 53) (.int .i64 (max 0 (rix tr.ids (o.i)))) (.int .i64 (max 0 (rix tr.ids (o.i)))) (.bool true) (fun _ => rfl) rfl rfl (eqI (decide_eq_true rfl) _ _ _) rfl ?_
  refine wl_mv (.tmp 54) (.bool true) (fun _ => rfl) rfl rfl ?_
  refine wl_mv (.tmp 9) (.int .i64 (delC tr.ids (o.i))) (fun _ => rfl) rfl rfl ?_
  refine wl_mv (.tmp 11) (.int .i64 (delC tr.ids (o.i))) (fun _ => rfl) rfl rfl ?_
  refine wl_bin (fun x y => do eqGuard .eql 46 (.tmp 56) (.tmp 57) x y; binOp .eql 46 x y) (.tmp 56) (.tmp 57) (.int .i64 (delC tr.ids (o.i))) (.int .i64 (delC tr.ids (o.i))) (.bool true) (fun _ => rfl) rfl rfl (eqE' (decide_eq_true rfl) _ _ _) rfl ?_
  refine wl_pick (.tmp 55) (.tmp 58) (.const (.bool false)) true (.bool true) (fun _ => rfl) rfl rfl rfl ?_
  refine wl_mv (.tmp 51) (pt t 0) (fun _ => rfl) rfl rfl ?_
  refine wl_mv (.tmp 59) (.bool true) (fun _ => rfl) rfl rfl ?_
  refine w_nil ?_
  refine xn_then ?_
  refine w_ret ?_
  refine xr_blk ?_
  refine xr_then ?_
  exact w_ret2 _ _ (pt t 0) (.bool true) rfl rfl rfl ⟨t, mb, tr1, lk1, v2, rfl, hG.pop (fun j e => by simp only [List.mem_append, List.mem_cons] at e ⊢; rcases e with e | e | e; exact Or.inl e; exact Or.inr (Or.inl e); exact Or.inr (Or.inr (Or.inr e))), by rw [hid1]; exact hL2, by omega, M⟩
theorem step_m (hG : GT n0 (oks v ++ r :: ks) w t mb tr lk) (hL : RL n0 w r tr.ids v) (hrw : Wr n0 ks r) (hlk : lk ≤ 2800000000000000000) (o : Op3) (hi : I64 o.i) (q0 : decide (o.d = 0) = false) (q1 : decide (o.d = 1) = false) (q2 : decide (o.d = 2) = true) : Calls Try.prog 10 #[pt t 0, pt r 0, .agg #[.int .i64 o.d, .int .i64 o.a, .int .i64 o.i]] w (Stp n0 ks r lk w) := by
  have hll := ids_le hG
  have h0 := hG.1
  refine w_enter 105 Try.func10 Try.ntmps10 rfl rfl ?_
  have M : Mk (Wr n0 ks) w w := Mk.refl _ _
  refine w_seq ?_
  refine w_reg ?_
  refine wl_box 31 (.tmp 2) (.agg #[.int .i64 (o.d), .int .i64 (o.a), .int .i64 (o.i)]) #[.int .i64 (o.d), .int .i64 (o.a), .int .i64 (o.i)] rfl rfl (fun _ => by kernel_rfl) rfl ?_
  intro k1 w1 hk hz hq Q1
  replace hG : GT n0 (oks v ++ r :: k1 :: ks) w1 t mb tr lk := (hG.push (Nat.le_of_eq hk) (by omega) hq).pop (fun j e => by simp only [List.mem_append, List.mem_cons] at e ⊢; rcases e with e | e | e | e; exact Or.inr (Or.inl e); exact Or.inr (Or.inr (Or.inl e)); exact Or.inl e; exact Or.inr (Or.inr (Or.inr e)))
  have hrl := hL.at1.lt
  have hk1r : k1 ≠ r := by omega
  replace hL := hL.mo hq
  replace M := M.trans hq
  clear hk hz hq
  refine wl_mv (.const (.pointer none)) (pp none) (fun _ => rfl) rfl rfl ?_
  refine wl_mv (.const (.bool false)) (.bool false) (fun _ => rfl) rfl rfl ?_
  refine w_nil ?_
  refine xn_then ?_
  refine w_seq ?_
  refine w_seq ?_
  refine w_reg ?_
  refine wl_un (fun v => Instr.fieldAt 31 v 0) (.tmp 5) (pt k1 0) (pt k1 0) (fun _ => rfl) rfl (by kernel_rfl) rfl ?_
  refine wl_load 3 (.tmp 17) (pt k1 0) (.int .i64 (o.d)) rfl rfl (run_one Q1 3 0 rfl Try.underlying3 rfl) rfl ?_
  refine w_nil ?_
  refine xn_then ?_
  refine w_block ?_
  refine w_seq ?_
  refine w_reg ?_
  refine wl_bin (fun x y => do eqGuard .eql 3 (.tmp 18) (.const (.int .i64 (0))) x y; binOp .eql 3 x y) (.tmp 18) (.const (.int .i64 (0))) (.int .i64 (o.d)) (.int .i64 (0)) (.bool false) (fun _ => rfl) rfl rfl (eqI q0 _ _ _) rfl ?_
  refine wl_mv (.tmp 20) (.bool false) (fun _ => rfl) rfl rfl ?_
  refine w_nil ?_
  refine xn_then ?_
  refine w_condF rfl ?_
  refine w_seq ?_
  refine w_reg ?_
  refine wl_bin (fun x y => do eqGuard .eql 3 (.tmp 18) (.const (.int .i64 (1))) x y; binOp .eql 3 x y) (.tmp 18) (.const (.int .i64 (1))) (.int .i64 (o.d)) (.int .i64 (1)) (.bool false) (fun _ => rfl) rfl rfl (eqI q1 _ _ _) rfl ?_
  refine wl_mv (.tmp 36) (.bool false) (fun _ => rfl) rfl rfl ?_
  refine w_nil ?_
  refine xn_then ?_
  refine w_condF rfl ?_
  refine w_seq ?_
  refine w_reg ?_
  refine wl_bin (fun x y => do eqGuard .eql 3 (.tmp 18) (.const (.int .i64 (2))) x y; binOp .eql 3 x y) (.tmp 18) (.const (.int .i64 (2))) (.int .i64 (o.d)) (.int .i64 (2)) (.bool true) (fun _ => rfl) rfl rfl (eqI q2 _ _ _) rfl ?_
  refine wl_mv (.tmp 61) (.bool true) (fun _ => rfl) rfl rfl ?_
  refine w_nil ?_
  refine xn_then ?_
  refine w_condT rfl ?_
  refine w_seq ?_
  refine w_reg ?_
  refine wl_mv (.tmp 0) (pt t 0) (fun _ => rfl) rfl rfl ?_
  refine wl_un (fun v => Instr.fieldAt 31 v 2) (.tmp 5) (pt k1 0) (pt k1 2) (fun _ => rfl) rfl (by kernel_rfl) rfl ?_
  refine wl_load 2 (.tmp 64) (pt k1 2) (.int .i64 (o.i)) rfl rfl (run_one Q1 2 2 rfl Try.underlying2 rfl) rfl ?_
  refine wl_un (fun v => Instr.fieldAt 31 v 1) (.tmp 5) (pt k1 0) (pt k1 1) (fun _ => rfl) rfl (by kernel_rfl) rfl ?_
  refine wl_load 3 (.tmp 66) (pt k1 1) (.int .i64 (o.a)) rfl rfl (run_one Q1 3 1 rfl Try.underlying3 rfl) rfl ?_
  refine wl_callx 21 [(.tmp 63), (.tmp 65), (.tmp 67)] _ [pt t 0, .int .i64 (o.i), .int .i64 (o.a)] rfl rfl (fun _ _ => by kernel_rfl) (mov_full hG hi (by omega)) rfl ?_
  rintro _ w2 ⟨tr1, lk1, rfl, hG, hid1, hk1, hM2⟩
  refine ⟨_, rfl, ?_⟩
  replace M := M.tr hM2 (fun j _ e => ⟨e.1, fun q => e.2 (by simp [q])⟩)
  replace Q1 := Wr.at hM2 Q1 (by simp)
  replace hL := hL.wr hM2 (by simp)
  clear hM2
  refine wl_mv (.tmp 68) (.tuple #[.int .i64 (movP tr.ids (o.i) (o.a)), .int .i64 (movC tr.ids (o.i) (o.a))]) (fun _ => rfl) rfl rfl ?_
  refine wl_un (fun v => Instr.extract v 0) (.tmp 62) (.tuple #[.int .i64 (movP tr.ids (o.i) (o.a)), .int .i64 (movC tr.ids (o.i) (o.a))]) (.int .i64 (movP tr.ids (o.i) (o.a))) (fun _ => rfl) rfl (by kernel_rfl) rfl ?_
  refine wl_un (fun v => Instr.extract v 1) (.tmp 62) (.tuple #[.int .i64 (movP tr.ids (o.i) (o.a)), .int .i64 (movC tr.ids (o.i) (o.a))]) (.int .i64 (movC tr.ids (o.i) (o.a))) (fun _ => rfl) rfl (by kernel_rfl) rfl ?_
  refine wl_mv (.tmp 69) (.int .i64 (movP tr.ids (o.i) (o.a))) (fun _ => rfl) rfl rfl ?_
  refine wl_mv (.tmp 70) (.int .i64 (movC tr.ids (o.i) (o.a))) (fun _ => rfl) rfl rfl ?_
  refine w_nil ?_
  refine xn_then ?_
  refine w_seq ?_
  refine w_reg ?_
  refine wl_mv (.tmp 1) (pt r 0) (fun _ => rfl) rfl rfl ?_
  refine wl_un (fun v => Instr.fieldAt 31 v 2) (.tmp 5) (pt k1 0) (pt k1 2) (fun _ => rfl) rfl (by kernel_rfl) rfl ?_
  refine wl_load 2 (.tmp 73) (pt k1 2) (.int .i64 (o.i)) rfl rfl (run_one Q1 2 2 rfl Try.underlying2 rfl) rfl ?_
  refine wl_un (fun v => Instr.fieldAt 31 v 1) (.tmp 5) (pt k1 0) (pt k1 1) (fun _ => rfl) rfl (by kernel_rfl) rfl ?_
  refine wl_load 3 (.tmp 75) (pt k1 1) (.int .i64 (o.a)) rfl rfl (run_one Q1 3 1 rfl Try.underlying3 rfl) rfl ?_
  have hsz := hG.1
  refine wl_callx 27 [(.tmp 72), (.tmp 74), (.tmp 76)] _ [pt r 0, .int .i64 (o.i), .int .i64 (o.a)] rfl rfl (fun _ _ => by kernel_rfl) (rmov_full hL hll hsz (o.i) (o.a)) rfl ?_
  rintro _ w3 ⟨v2, rfl, hL2, hNv, hM2⟩
  refine ⟨_, rfl, ?_⟩
  replace hG := hG.list (by simp) hM2 hNv (fun g e => (hL2.own.lt g e).2)
  replace Q1 := hM2.at Q1 hk1r
  replace M := M.tr hM2 (fun j _ e => e ▸ hrw)
  clear hM2 hNv
  refine wl_mv (.tmp 77) (.tuple #[.int .i64 (movP tr.ids (o.i) (o.a)), .int .i64 (movC tr.ids (o.i) (o.a))]) (fun _ => rfl) rfl rfl ?_
  refine wl_un (fun v => Instr.extract v 0) (.tmp 71) (.tuple #[.int .i64 (movP tr.ids (o.i) (o.a)), .int .i64 (movC tr.ids (o.i) (o.a))]) (.int .i64 (movP tr.ids (o.i) (o.a))) (fun _ => rfl) rfl (by kernel_rfl) rfl ?_
  refine wl_un (fun v => Instr.extract v 1) (.tmp 71) (.tuple #[.int .i64 (movP tr.ids (o.i) (o.a)), .int .i64 (movC tr.ids (o.i) (o.a))]) (.int .i64 (movC tr.ids (o.i) (o.a))) (fun _ => rfl) rfl (by kernel_rfl) rfl ?_
  refine wl_mv (.tmp 78) (.int .i64 (movP tr.ids (o.i) (o.a))) (fun _ => rfl) rfl rfl ?_
  refine wl_mv (.tmp 79) (.int .i64 (movC tr.ids (o.i) (o.a))) (fun _ => rfl) rfl rfl ?_
  refine w_nil ?_
  refine xn_then ?_
  refine w_seq ?_
  refine w_reg ?_
  refine wl_mv (.tmp 0) (pt t 0) (fun _ => rfl) rfl rfl ?_
  refine wl_mv (.tmp 12) (.int .i64 (movP tr.ids (o.i) (o.a))) (fun _ => rfl) rfl rfl ?_
  refine wl_mv (.tmp 14) (.int .i64 (movP tr.ids (o.i) (o.a))) (fun _ => rfl) rfl rfl ?_
  refine wl_bin (fun x y => do eqGuard .eql 3 (.tmp 81) (.tmp 82) x y; binOp .eql 3 x y) (.tmp 81) (.tmp 82) (.int .i64 (movP tr.ids (o.i) (o.a))) (.int .i64 (movP tr.ids (o.i) (o.a))) (.bool true) (fun _ => rfl) rfl rfl (eqI (decide_eq_true rfl) _ _ _) rfl ?_
  refine wl_mv (.tmp 83) (.bool true) (fun _ => rfl) rfl rfl ?_
  refine wl_mv (.tmp 13) (.int .i64 (movC tr.ids (o.i) (o.a))) (fun _ => rfl) rfl rfl ?_
  refine wl_mv (.tmp 15) (.int .i64 (movC tr.ids (o.i) (o.a))) (fun _ => rfl) rfl rfl ?_
  refine wl_bin (fun x y => do eqGuard .eql 46 (.tmp 85) (.tmp 86) x y; binOp .eql 46 x y) (.tmp 85) (.tmp 86) (.int .i64 (movC tr.ids (o.i) (o.a))) (.int .i64 (movC tr.ids (o.i) (o.a))) (.bool true) (fun _ => rfl) rfl rfl (eqE' (decide_eq_true rfl) _ _ _) rfl ?_
  refine wl_pick (.tmp 84) (.tmp 87) (.const (.bool false)) true (.bool true) (fun _ => rfl) rfl rfl rfl ?_
  refine wl_mv (.tmp 80) (pt t 0) (fun _ => rfl) rfl rfl ?_
  refine wl_mv (.tmp 88) (.bool true) (fun _ => rfl) rfl rfl ?_
  refine w_nil ?_
  refine xn_then ?_
  refine w_ret ?_
  refine xr_blk ?_
  refine xr_then ?_
  exact w_ret2 _ _ (pt t 0) (.bool true) rfl rfl rfl ⟨t, mb, tr1, lk1, v2, rfl, hG.pop (fun j e => by simp only [List.mem_append, List.mem_cons] at e ⊢; rcases e with e | e | e; exact Or.inl e; exact Or.inr (Or.inl e); exact Or.inr (Or.inr (Or.inr e))), by rw [hid1]; exact hL2, by omega, M⟩
theorem step_c (hG : GT n0 (oks v ++ r :: ks) w t mb tr lk) (hL : RL n0 w r tr.ids v) (_hrw : Wr n0 ks r) (hlk : lk ≤ 2800000000000000000) (o : Op3) (hi : I64 o.i) (q0 : decide (o.d = 0) = false) (q1 : decide (o.d = 1) = false) (q2 : decide (o.d = 2) = false) : Calls Try.prog 10 #[pt t 0, pt r 0, .agg #[.int .i64 o.d, .int .i64 o.a, .int .i64 o.i]] w (Stp n0 ks r lk w) := by
  have hll := ids_le hG
  have h0 := hG.1
  refine w_enter 105 Try.func10 Try.ntmps10 rfl rfl ?_
  have M : Mk (Wr n0 ks) w w := Mk.refl _ _
  refine w_seq ?_
  refine w_reg ?_
  refine wl_box 31 (.tmp 2) (.agg #[.int .i64 (o.d), .int .i64 (o.a), .int .i64 (o.i)]) #[.int .i64 (o.d), .int .i64 (o.a), .int .i64 (o.i)] rfl rfl (fun _ => by kernel_rfl) rfl ?_
  intro k1 w1 hk hz hq Q1
  replace hG : GT n0 (oks v ++ r :: k1 :: ks) w1 t mb tr lk := (hG.push (Nat.le_of_eq hk) (by omega) hq).pop (fun j e => by simp only [List.mem_append, List.mem_cons] at e ⊢; rcases e with e | e | e | e; exact Or.inr (Or.inl e); exact Or.inr (Or.inr (Or.inl e)); exact Or.inl e; exact Or.inr (Or.inr (Or.inr e)))
  have hrl := hL.at1.lt
  have hk1r : k1 ≠ r := by omega
  replace hL := hL.mo hq
  replace M := M.trans hq
  clear hk hz hq
  refine wl_mv (.const (.pointer none)) (pp none) (fun _ => rfl) rfl rfl ?_
  refine wl_mv (.const (.bool false)) (.bool false) (fun _ => rfl) rfl rfl ?_
  refine w_nil ?_
  refine xn_then ?_
  refine w_seq ?_
  refine w_seq ?_
  refine w_reg ?_
  refine wl_un (fun v => Instr.fieldAt 31 v 0) (.tmp 5) (pt k1 0) (pt k1 0) (fun _ => rfl) rfl (by kernel_rfl) rfl ?_
  refine wl_load 3 (.tmp 17) (pt k1 0) (.int .i64 (o.d)) rfl rfl (run_one Q1 3 0 rfl Try.underlying3 rfl) rfl ?_
  refine w_nil ?_
  refine xn_then ?_
  refine w_block ?_
  refine w_seq ?_
  refine w_reg ?_
  refine wl_bin (fun x y => do eqGuard .eql 3 (.tmp 18) (.const (.int .i64 (0))) x y; binOp .eql 3 x y) (.tmp 18) (.const (.int .i64 (0))) (.int .i64 (o.d)) (.int .i64 (0)) (.bool false) (fun _ => rfl) rfl rfl (eqI q0 _ _ _) rfl ?_
  refine wl_mv (.tmp 20) (.bool false) (fun _ => rfl) rfl rfl ?_
  refine w_nil ?_
  refine xn_then ?_
  refine w_condF rfl ?_
  refine w_seq ?_
  refine w_reg ?_
  refine wl_bin (fun x y => do eqGuard .eql 3 (.tmp 18) (.const (.int .i64 (1))) x y; binOp .eql 3 x y) (.tmp 18) (.const (.int .i64 (1))) (.int .i64 (o.d)) (.int .i64 (1)) (.bool false) (fun _ => rfl) rfl rfl (eqI q1 _ _ _) rfl ?_
  refine wl_mv (.tmp 36) (.bool false) (fun _ => rfl) rfl rfl ?_
  refine w_nil ?_
  refine xn_then ?_
  refine w_condF rfl ?_
  refine w_seq ?_
  refine w_reg ?_
  refine wl_bin (fun x y => do eqGuard .eql 3 (.tmp 18) (.const (.int .i64 (2))) x y; binOp .eql 3 x y) (.tmp 18) (.const (.int .i64 (2))) (.int .i64 (o.d)) (.int .i64 (2)) (.bool false) (fun _ => rfl) rfl rfl (eqI q2 _ _ _) rfl ?_
  refine wl_mv (.tmp 61) (.bool false) (fun _ => rfl) rfl rfl ?_
  refine w_nil ?_
  refine xn_then ?_
  refine w_condF rfl ?_
  refine w_skip ?_
  refine xn_blk ?_
  refine xn_then ?_
  refine w_seq ?_
  refine w_reg ?_
  refine wl_mv (.tmp 0) (pt t 0) (fun _ => rfl) rfl rfl ?_
  obtain ⟨g1, g2, D0, hF0, g4⟩ := id hG
  refine wl_callx 24 [(.tmp 89)] _ [pt t 0] rfl rfl (fun _ _ => by kernel_rfl) (clone_f hF0) rfl ?_
  rintro _ w2 ⟨c, mc, trc, rfl, hFc, hnw, hsm, hq⟩
  refine ⟨_, rfl, ?_⟩
  replace hG := hG.pushL (bl := c :: mc :: trc.ad) hq (fun j e => hnw j (by simp only [List.mem_cons] at e; rcases e with e | e | e; exact Or.inl (Or.inl e); exact Or.inr e; exact Or.inl (Or.inr e)))
  have hbl : ∀ j, (j = c ∨ j ∈ trc.ad) ∨ j = mc → j ∈ c :: mc :: trc.ad := fun j e => by simp only [List.mem_cons]; rcases e with (e | e) | e; exact Or.inl e; exact Or.inr (Or.inr e); exact Or.inr (Or.inl e)
  replace hL := hL.mo hq
  replace Q1 := Q1.mo hq
  replace M := M.trans hq
  clear hq
  refine wl_mv (.tmp 90) (pt c 0) (fun _ => rfl) rfl rfl ?_
  refine w_nil ?_
  refine xn_then ?_
  refine w_seq ?_
  refine w_seq ?_
  refine w_reg ?_
  refine wl_mv (.tmp 16) (pt c 0) (fun _ => rfl) rfl rfl ?_
  refine wl_bin (fun x y => do eqGuard .eql 23 (.tmp 91) (.const (.pointer none)) x y; binOp .eql 23 x y) (.tmp 91) (.const (.pointer none)) (pt c 0) (pp none) (.bool false) (fun _ => rfl) rfl rfl (by kernel_rfl) rfl ?_
  refine w_nil ?_
  refine xn_then ?_
  refine w_condF rfl ?_
  refine w_skip ?_
  refine xn_then ?_
  refine w_seq ?_
  refine w_reg ?_
  refine wl_mv (.tmp 0) (pt t 0) (fun _ => rfl) rfl rfl ?_
  refine wl_un (fun v => Instr.fieldAt 31 v 1) (.tmp 5) (pt k1 0) (pt k1 1) (fun _ => rfl) rfl (by kernel_rfl) rfl ?_
  refine wl_load 3 (.tmp 95) (pt k1 1) (.int .i64 (o.a)) rfl rfl (run_one Q1 3 1 rfl Try.underlying3 rfl) rfl ?_
  refine wl_un (fun v => Instr.fieldAt 31 v 2) (.tmp 5) (pt k1 0) (pt k1 2) (fun _ => rfl) rfl (by kernel_rfl) rfl ?_
  refine wl_load 2 (.tmp 97) (pt k1 2) (.int .i64 (o.i)) rfl rfl (run_one Q1 2 2 rfl Try.underlying2 rfl) rfl ?_
  refine wl_callx 19 [(.tmp 94), (.tmp 96), (.tmp 98)] _ [pt t 0, .int .i64 (o.a), .int .i64 (o.i)] rfl rfl (fun _ _ => by kernel_rfl) (ins_full hG hi (by omega)) rfl ?_
  rintro _ w3 ⟨tr1, lk1, rfl, hG, hid1, hk1, hM2⟩
  refine ⟨_, rfl, ?_⟩
  replace M := M.tr hM2 (fun j _ e => ⟨e.1, fun q => e.2 (by simp [q])⟩)
  replace Q1 := Wr.at hM2 Q1 (by simp)
  replace hL := hL.kept hM2 (fun e => e.2 (by simp)) (fun g q e => e.2 (by simp [mem_oks.2 q]))
  replace hFc := hFc.kept hM2 (fun j e q => q.2 (List.mem_append.2 (Or.inl (hbl j e))))
  clear hM2
  refine w_nil ?_
  refine xn_then ?_
  refine w_seq ?_
  refine w_reg ?_
  refine wl_mv (.tmp 0) (pt t 0) (fun _ => rfl) rfl rfl ?_
  refine wl_un (fun v => Instr.fieldAt 31 v 2) (.tmp 5) (pt k1 0) (pt k1 2) (fun _ => rfl) rfl (by kernel_rfl) rfl ?_
  refine wl_load 2 (.tmp 101) (pt k1 2) (.int .i64 (o.i)) rfl rfl (run_one Q1 2 2 rfl Try.underlying2 rfl) rfl ?_
  refine wl_callx 20 [(.tmp 100), (.tmp 102)] _ [pt t 0, .int .i64 (o.i)] rfl rfl (fun _ _ => by kernel_rfl) (del_full hG hi (by omega)) rfl ?_
  rintro _ w4 ⟨tr2, lk2, rfl, hG, hid2, hk2, hM2⟩
  refine ⟨_, rfl, ?_⟩
  replace M := M.tr hM2 (fun j _ e => ⟨e.1, fun q => e.2 (by simp [q])⟩)
  replace Q1 := Wr.at hM2 Q1 (by simp)
  replace hL := hL.kept hM2 (fun e => e.2 (by simp)) (fun g q e => e.2 (by simp [mem_oks.2 q]))
  replace hFc := hFc.kept hM2 (fun j e q => q.2 (List.mem_append.2 (Or.inl (hbl j e))))
  clear hM2
  refine w_nil ?_
  refine xn_then ?_
  refine w_seq ?_
  refine w_reg ?_
  refine wl_mv (.tmp 16) (pt c 0) (fun _ => rfl) rfl rfl ?_
  refine wl_mv (.tmp 104) (pt c 0) (fun _ => rfl) rfl rfl ?_
  refine wl_mv (.const (.bool true)) (.bool true) (fun _ => rfl) rfl rfl ?_
  refine w_nil ?_
  refine xn_then ?_
  refine w_ret ?_
  have hGc : ∀ (w9 : World), FT (fun k => k = c ∨ k ∈ trc.ad) w9 c mc trc lk → n0 ≤ w9.heap.size → (∀ k ∈ oks v ++ r :: ks, k < w9.heap.size) → GT n0 (oks v ++ r :: ks) w9 c mc trc lk := fun w9 h1 h2 h3 => ⟨h2, h3, _, h1, fun j e => ⟨Nat.le_trans g1 (hnw j e).1, fun q => by have h8 := g2 j (by simp only [List.mem_append, List.mem_cons] at q ⊢; rcases q with q | q | q; exact Or.inl q; exact Or.inr (Or.inl q); exact Or.inr (Or.inr (Or.inr q))); have := (hnw j e).1; omega⟩⟩
  exact w_ret2 _ _ (pt c 0) (.bool true) rfl rfl rfl ⟨c, mc, trc, lk, v, rfl, hGc _ hFc hG.1 (fun k e => hG.2.1 k (by simp only [List.mem_append, List.mem_cons] at e ⊢; rcases e with e | e | e; exact Or.inr (Or.inl e); exact Or.inr (Or.inr (Or.inl e)); exact Or.inr (Or.inr (Or.inr (Or.inr e))))), by rw [hsm.ids]; exact hL, by omega, M⟩
theorem step_n (hG : GT n0 (oks v ++ r :: ks) w t mb tr lk) (hL : RL n0 w r tr.ids v) (hrw : Wr n0 ks r) (hlk : lk ≤ 2800000000000000000) (o : Op3) (hi : I64 o.i) : Calls Try.prog 10 #[pt t 0, pt r 0, .agg #[.int .i64 o.d, .int .i64 o.a, .int .i64 o.i]] w (Stp n0 ks r lk w) := by
  by_cases c0 : o.d = 0
  · exact step_i hG hL hrw hlk o hi (decide_eq_true c0)
  by_cases c1 : o.d = 1
  · exact step_d hG hL hrw hlk o hi (decide_eq_false c0) (decide_eq_true c1)
  by_cases c2 : o.d = 2
  · exact step_m hG hL hrw hlk o hi (decide_eq_false c0) (decide_eq_false c1) (decide_eq_true c2)
  exact step_c hG hL hrw hlk o hi (decide_eq_false c0) (decide_eq_false c1) (decide_eq_false c2)
end
end Go.Proofs.Ytbmbldloeblbbaa
