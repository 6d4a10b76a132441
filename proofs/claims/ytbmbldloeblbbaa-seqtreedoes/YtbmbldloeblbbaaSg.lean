/-
  The tree's put.
-/
import Derived.Test.YtbmbldloeblbbaaSf
import Derived.Test.YtbmbldloeblbbaaOm
namespace Go.Proofs.Ytbmbldloeblbbaa
open Go.RowKit
section
variable {D : Nat → Prop} {w : World} {t mb : Nat} {R : Mp} {root : Option Nat} {lk : Int}
theorem Rep.mem {R : Mp} : ∀ {tr : T} {u : Option Nat}, Rep R u tr → ∀ j ∈ tr.ad, ∃ r, R j = some r
  | .e, _, _, j, m => by cases m
  | .n k i s l r, u, h, j, m => by
    unfold T.ad at m
    simp only [List.mem_cons, List.mem_append] at m
    rcases m with rfl | m | m
    · exact ⟨_, h.1⟩
    · exact Rep.mem h.2.1 j m
    · exact Rep.mem h.2.2 j m
theorem RepC.mem {R : Mp} {root : Option Nat} : ∀ {C : Cx} {p : Option Nat}, RepC R root C p → ∀ j ∈ adC C, ∃ r, R j = some r
  | [], _, _, j, m => by cases m
  | f :: C, p, h, j, m => by
    unfold adC at m
    simp only [List.mem_cons, List.mem_append] at m
    rcases m with rfl | m | m
    · exact ⟨_, h.1⟩
    · exact h.2.1.mem j m
    · exact RepC.mem h.2.2 j m
/-- A record more. -/
theorem HS.add {w' : World} (h : HS D w t mb R root lk) {kn : Nat} (hk : w.heap.size = kn) (m : Mo w w') (r : Rc) (hA : At w' kn r.cells) (hc : Cb w' kn) (hmb : mb < w.heap.size) : HS (fun j => D j ∨ j = kn) w' t mb (ud R kn r) root lk := by
  have h' := h.mo m
  have hnk : ∀ j, D j → j ≠ kn := fun j hj e => by have := h.lt hj; omega
  refine ⟨h'.tr, fun j q hj => ?_, fun j q hj => ?_, ?_, fun j => ?_, ?_⟩
  · unfold ud at hj
    split at hj
    · rename_i e; subst e; cases hj; exact hA
    · exact h'.rc j q hj
  · unfold ud at hj
    split at hj
    · rename_i e; subst e; exact hc
    · exact h'.cb j q hj
  · rw [ud_ne _ _ (hnk t h.dt)]; exact h.mt
  · rw [h.dm]
    unfold ud
    by_cases e : j = kn
    · simp [e]
    · simp [e]
  · rintro (e | e)
    · exact h.nb e
    · omega
theorem HS.kept {w' : World} {E : Nat → Prop} (h : HS D w t mb R root lk) (m : Mk E w w') (hE : ∀ j, D j → ¬ E j) : HS D w' t mb R root lk :=
  ⟨m.at h.tr (hE t h.dt), fun k r e => m.at (h.rc k r e) (hE k (h.dk e)), fun k r e => (h.cb k r e).mk m (hE k (h.dk e)), h.mt, h.dm, h.nb⟩
end
section
variable {P : Program} {o : Oper} {n : Nat} {l : List (Nat × Value)} {w : World} {ops : Array Oper} {rest : List Oper} {Q : Exit → Act → World → Prop}
theorem wl_boxc (ty : TypeId) (x : Operand) (v : Value) (cs : Array Value) (ho : o.op = .box ty x) (hx : evl n l x = v) (h : ∀ w, (Instr.box ty v).run P w = .ok (pt w.heap.size 0) (w.alloc (.cells cs ty))) (hg : wnt n l ops o = true)
    (hk : ∀ k w', w.heap.size = k → w'.heap.size = k + 1 → Mo w w' → At w' k cs.toList → Cb w' k → WL P ops Q rest n (ext l o.dst (pt k 0)) w') : WL P ops Q (o :: rest) n l w :=
  ⟨l_step hg (o_val (pt w.heap.size 0) (w' := w.alloc (.cells cs ty)) (by subst hx; simp [execOp, ho, h]) (hk _ _ rfl (by simp) ((Mo.refl _).alloc _ _) (At.new w cs ty) (Cb.new w cs ty)).out)⟩
end
section
variable {D : Nat → Prop} {w : World} {t mb : Nat} {R : Mp} {root : Option Nat} {lk : Int}
theorem put_n {tr : T} {at0 id : Int} {f : Int → Option Nat} {n : Nat} (hT : TS D w t mb [] tr lk) (hM : OM w mb f n) (hfi : (if (f id).isSome then n else n + 1) = n + 1) (hn1 : n ≤ 2000) (hw : (Lit.int .i64 id).wf = true) (ot : tr.ok) (h0 : 0 ≤ at0) (h1 : at0 ≤ tr.sz) (hb : tr.sz ≤ 8000) (hlk : 0 ≤ lk ∧ lk + 11 * tr.ht + 1 ≤ 4000000000000000000) (hbt : tr.ht ≤ 8000) :
    Calls Try.prog 33 #[pt t 0, .int .i64 at0, .int .i64 id] w fun e w' => e = .returned (.tuple #[]) ∧ ∃ C kn lk', plug C .e = tr ∧ ix C = at0 ∧ okC C ∧ w.heap.size ≤ kn ∧ lk < lk' ∧ lk' ≤ lk + 10 * C.length + 1 ∧ C.length ≤ tr.ht ∧
      TS (fun j => D j ∨ j = kn) w' t mb [] (rebuild C (.n kn id 1 .e .e)) lk' ∧ OM w' mb (fu f id (some kn)) (n + 1) ∧ Mk (fun j => D j ∨ j = mb) w w' := by
  obtain ⟨R0, root0, hS, hC0, hR0, hn0⟩ := hT
  replace hC0 : root0 = tr.p := hC0
  subst hC0
  refine w_enter 71 Try.func33 Try.ntmps33 rfl rfl ?_
  have M : Mk (fun j => D j ∨ j = mb) w w := Mk.refl _ _
  refine w_seq ?_
  refine w_reg ?_
  refine wl_mv (.const (.pointer none)) (pp none) (fun _ => rfl) rfl rfl ?_
  refine w_nil ?_
  refine xn_then ?_
  refine w_seq ?_
  refine w_reg ?_
  refine wl_mv (.const (.int .i64 (0))) (.int .i64 (0)) (fun _ => rfl) rfl rfl ?_
  refine w_nil ?_
  refine xn_then ?_
  refine w_seq ?_
  refine w_seq ?_
  refine w_reg ?_
  refine wl_mv (.tmp 0) (pt t 0) (fun _ => rfl) rfl rfl ?_
  refine wl_nc (.tmp 11) t 0 rfl rfl rfl ?_
  refine wl_un (fun v => Instr.fieldAt 59 v 0) (.tmp 12) (pt t 0) (pt t 0) (fun _ => rfl) rfl (by kernel_rfl) rfl ?_
  refine wl_load 56 (.tmp 13) (pt t 0) (pp tr.p) rfl rfl (run_one hS.tr 56 0 rfl Try.underlying56 rfl) rfl ?_
  refine wl_mv (.tmp 14) (pp tr.p) (fun _ => rfl) rfl rfl ?_
  refine w_nil ?_
  refine xn_then ?_
  refine w_block ?_
  refine w_loop (fun m l w1 => ∃ (C1 : Cx) (tr1 : T) (lk1 at1 : Int), m = tr1.ht ∧ look l 0 = pt t 0 ∧ look l 1 = .int .i64 at1 ∧ look l 2 = .int .i64 id ∧ look l 6 = pp (top C1) ∧ look l 7 = .int .i64 (if sideC C1 then 1 else 0) ∧ look l 8 = pp tr1.p ∧ TS D w1 t mb C1 tr1 lk1 ∧ OM w1 mb f n ∧ tr1.ok ∧ okC C1 ∧ plug C1 tr1 = tr ∧ csz C1 + tr1.sz = tr.sz ∧ 0 ≤ at1 ∧ at1 ≤ tr1.sz ∧ at1 + ix C1 = at0 ∧ lk ≤ lk1 ∧ lk1 ≤ lk + 2 * C1.length ∧ C1.length + tr1.ht ≤ tr.ht ∧ Mk (fun j => D j ∨ j = mb) w w1) _ ⟨[], tr, lk, at0, rfl, rfl, rfl, rfl, rfl, rfl, rfl, ⟨R0, tr.p, hS, rfl, hR0, hn0⟩, hM, ot, fun _ h => (by cases h), rfl, by simp only [csz]; omega, h0, h1, by simp only [ix]; omega, Int.le_refl _, by simp, by simp, M⟩ ?_
  clear M hS hM ot h0 h1 hR0 hn0
  rintro m l0 wl ⟨C1, tr1, lk1, at1, rfl, e0, e1, e2, e6, e7, e8, hT, hM, ot, oc, hp, hcs, h0, h1, hix, hl1, hl2, hht, M⟩
  obtain ⟨R, root, hS, hC, hR, hn⟩ := hT
  have hlk0 : 0 ≤ lk1 := by omega
  have h0c := csz_nn C1
  cases tr1 with
  | n k i s l r =>
    have hR1 := hR
    obtain ⟨hk, hl, hr⟩ := hR
    have h0l := T.sz_nn l; have h0r := T.sz_nn r
    simp only [T.sz] at h1 hcs
    simp only [T.ht] at hht
    have hml := Nat.le_max_left l.ht r.ht; have hmr := Nat.le_max_right l.ht r.ht
    refine w_seq ?_
    refine w_seq ?_
    refine w_reg ?_
    refine wl_mv (.tmp 8) (pt k 0) (fun _ => rfl) e8 rfl ?_
    refine wl_bin (fun x y => do eqGuard .neq 56 (.tmp 15) (.const (.pointer none)) x y; binOp .neq 56 x y) (.tmp 15) (.const (.pointer none)) (pt k 0) (pp none) (.bool true) (fun _ => rfl) rfl rfl (ne56 (some k) _ _ _) rfl ?_
    refine w_nil ?_
    refine xn_then ?_
    refine w_condT rfl ?_
    refine w_skip ?_
    refine xn_then ?_
    refine w_seq ?_
    refine w_block ?_
    refine w_seq ?_
    refine w_reg ?_
    refine wl_mv (.tmp 0) (pt t 0) (fun _ => rfl) e0 rfl ?_
    refine wl_mv (.tmp 8) (pt k 0) (fun _ => rfl) e8 rfl ?_
    refine wl_mv (.tmp 8) (pt k 0) (fun _ => rfl) e8 rfl ?_
    refine wl_nc (.tmp 26) k 0 rfl rfl rfl ?_
    refine wl_un (fun v => Instr.fieldAt 66 v 0) (.tmp 27) (pt k 0) (pt k 0) (fun _ => rfl) rfl (by kernel_rfl) rfl ?_
    refine wl_un (fun v => Instr.fieldAt 64 v 1) (.tmp 28) (pt k 0) (pt k 1) (fun _ => rfl) rfl (by kernel_rfl) rfl ?_
    refine wl_bin (fun x y => Instr.indexAt 62 x y) (.tmp 29) (.const (.int .i64 (0))) (pt k 1) (.int .i64 (0)) (pt k 1) (fun _ => rfl) rfl rfl (by kernel_rfl) rfl ?_
    refine wl_load 56 (.tmp 30) (pt k 1) (pp l.p) rfl rfl (run_one (hS.rc k _ hk) 56 1 rfl Try.underlying56 rfl) rfl ?_
    refine wl_bsl [(0, (.tmp 25)), (1, (.tmp 31))] [pp (some k), pp l.p] 2 rfl rfl (bs2 (some k) l.p) rfl ?_
    intro g11 w11 hk hz hq Q11
    have nd_g11 : ¬ D g11 := fun e => by have := hS.lt e; omega
    replace hS := hS.mo hq
    replace hM := hM.mo hq
    replace M := M.trans hq
    clear hk hz hq
    refine wl_callg 39 [(.tmp 24), (.tmp 32)] _ [pt t 0, .slice (some ⟨g11, 0, none⟩) 2 2] (.tuple #[]) rfl rfl (fun _ _ => by kernel_rfl) (look_n [(some k), l.p] g11 hS Q11 nd_g11 (by simp only [List.length_cons, List.length_nil]; omega)) rfl ?_
    intro w12 hF
    have hc1 := cnt_le [(some k), l.p]
    simp only [List.length_cons, List.length_nil] at hc1
    obtain ⟨hS2, hM2⟩ := hF
    replace hS := hS2
    replace M := M.tr hM2 (fun _ _ e => Or.inl e)
    replace hM := hM.mk hM2 hS.nb
    clear hS2 hM2 Q11 nd_g11
    refine w_nil ?_
    refine xn_then ?_
    refine w_seq ?_
    refine w_reg ?_
    refine wl_mv (.tmp 8) (pt k 0) (fun _ => rfl) e8 rfl ?_
    refine wl_mv (.tmp 34) (pt k 0) (fun _ => rfl) rfl rfl ?_
    refine wl_mv (.const (.int .i64 (0))) (.int .i64 (0)) (fun _ => rfl) rfl rfl ?_
    refine w_nil ?_
    refine xn_then ?_
    refine w_seq ?_
    refine w_reg ?_
    refine wl_mv (.tmp 8) (pt k 0) (fun _ => rfl) e8 rfl ?_
    refine wl_nc (.tmp 35) k 0 rfl rfl rfl ?_
    refine wl_un (fun v => Instr.fieldAt 66 v 0) (.tmp 36) (pt k 0) (pt k 0) (fun _ => rfl) rfl (by kernel_rfl) rfl ?_
    refine wl_un (fun v => Instr.fieldAt 64 v 1) (.tmp 37) (pt k 0) (pt k 1) (fun _ => rfl) rfl (by kernel_rfl) rfl ?_
    refine wl_bin (fun x y => Instr.indexAt 62 x y) (.tmp 38) (.const (.int .i64 (0))) (pt k 1) (.int .i64 (0)) (pt k 1) (fun _ => rfl) rfl rfl (by kernel_rfl) rfl ?_
    refine wl_load 56 (.tmp 39) (pt k 1) (pp l.p) rfl rfl (run_one (hS.rc k _ hk) 56 1 rfl Try.underlying56 rfl) rfl ?_
    refine wl_call 40 [(.tmp 40)] _ [pp l.p] (.int .i64 (l.sz)) rfl rfl (fun _ _ => by kernel_rfl) (size_o hS (szo_of hl ot.2.1)) rfl ?_
    intro w13 hq
    replace hS := hS.mo hq
    replace hM := hM.mo hq
    replace M := M.trans hq
    clear hq
    refine wl_mv (.tmp 41) (.int .i64 (l.sz)) (fun _ => rfl) rfl rfl ?_
    refine w_nil ?_
    refine xn_then ?_
    refine w_seq ?_
    cases hf0 : decide (l.sz < at1) with
    | true =>
      have hf0p := of_decide_eq_true hf0
      refine w_reg ?_
      refine wl_mv (.tmp 1) (.int .i64 (at1)) (fun _ => rfl) e1 rfl ?_
      refine wl_mv (.tmp 9) (.int .i64 (l.sz)) (fun _ => rfl) rfl rfl ?_
      refine wl_bin (fun x y => do eqGuard .gtr 3 (.tmp 42) (.tmp 43) x y; binOp .gtr 3 x y) (.tmp 42) (.tmp 43) (.int .i64 (at1)) (.int .i64 (l.sz)) (.bool true) (fun _ => rfl) rfl rfl (gtI hf0 _ _ _) rfl ?_
      refine w_nil ?_
      refine xn_then ?_
      refine w_condT rfl ?_
      refine w_seq ?_
      refine w_reg ?_
      refine wl_mv (.tmp 1) (.int .i64 (at1)) (fun _ => rfl) e1 rfl ?_
      refine wl_mv (.tmp 9) (.int .i64 (l.sz)) (fun _ => rfl) rfl rfl ?_
      refine wl_bin (fun x y => do eqGuard .add 3 (.tmp 46) (.const (.int .i64 (1))) x y; binOp .add 3 x y) (.tmp 46) (.const (.int .i64 (1))) (.int .i64 (l.sz)) (.int .i64 (1)) (.int .i64 (l.sz + 1)) (fun _ => rfl) rfl rfl (addI (by omega) (by omega) _ _ _) rfl ?_
      refine wl_bin (fun x y => do eqGuard .sub 3 (.tmp 45) (.tmp 47) x y; binOp .sub 3 x y) (.tmp 45) (.tmp 47) (.int .i64 (at1)) (.int .i64 (l.sz + 1)) (.int .i64 (at1 - (l.sz + 1))) (fun _ => rfl) rfl rfl (subI (by omega) (by omega) _ _ _) rfl ?_
      refine wl_mv (.tmp 48) (.int .i64 (at1 - (l.sz + 1))) (fun _ => rfl) rfl rfl ?_
      refine w_nil ?_
      refine xn_then ?_
      refine w_reg ?_
      refine wl_mv (.const (.int .i64 (1))) (.int .i64 (1)) (fun _ => rfl) rfl rfl ?_
      refine w_nil ?_
      refine xn_blk ?_
      refine xn_then ?_
      refine w_reg ?_
      refine wl_mv (.tmp 8) (pt k 0) (fun _ => rfl) e8 rfl ?_
      refine wl_mv (.tmp 7) (.int .i64 (1)) (fun _ => rfl) rfl rfl ?_
      refine wl_nc (.tmp 17) k 0 rfl rfl rfl ?_
      refine wl_un (fun v => Instr.fieldAt 66 v 0) (.tmp 19) (pt k 0) (pt k 0) (fun _ => rfl) rfl (by kernel_rfl) rfl ?_
      refine wl_un (fun v => Instr.fieldAt 64 v 1) (.tmp 20) (pt k 0) (pt k 1) (fun _ => rfl) rfl (by kernel_rfl) rfl ?_
      refine wl_bin (fun x y => Instr.indexAt 62 x y) (.tmp 21) (.tmp 18) (pt k 1) (.int .i64 (1)) (pt k 2) (fun _ => rfl) rfl rfl (by kernel_rfl) rfl ?_
      refine wl_load 56 (.tmp 22) (pt k 2) (pp r.p) rfl rfl (run_one (hS.rc k _ hk) 56 2 rfl Try.underlying56 rfl) rfl ?_
      refine wl_mv (.tmp 23) (pp r.p) (fun _ => rfl) rfl rfl ?_
      refine w_nil ?_
      exact xn_loop r.ht (by simp only [T.ht]; omega) ⟨(⟨k, i, s, true, l⟩ : Fr) :: C1, r, ((lk1) + cnt [(some k), l.p]), at1 - (l.sz + 1), rfl, e0, rfl, e2, rfl, rfl, rfl, TS.dn (f := (⟨k, i, s, true, l⟩ : Fr)) (⟨R, root, hS, hC, hR1, hn⟩ : TS D _ t mb C1 (.n k i s l r) _), hM, ot.2.2, fun g hg => by rcases List.mem_cons.1 hg with rfl | hg; exact ot.2.1; exact oc g hg, hp, by simp only [csz]; omega, by omega, by omega, by simp only [ix, if_true]; omega, by omega, by simp only [List.length_cons]; omega, by simp only [List.length_cons]; omega, M⟩
    | false =>
      have hf0p := of_decide_eq_false hf0
      refine w_reg ?_
      refine wl_mv (.tmp 1) (.int .i64 (at1)) (fun _ => rfl) e1 rfl ?_
      refine wl_mv (.tmp 9) (.int .i64 (l.sz)) (fun _ => rfl) rfl rfl ?_
      refine wl_bin (fun x y => do eqGuard .gtr 3 (.tmp 42) (.tmp 43) x y; binOp .gtr 3 x y) (.tmp 42) (.tmp 43) (.int .i64 (at1)) (.int .i64 (l.sz)) (.bool false) (fun _ => rfl) rfl rfl (gtI hf0 _ _ _) rfl ?_
      refine w_nil ?_
      refine xn_then ?_
      refine w_condF rfl ?_
      refine w_skip ?_
      refine xn_blk ?_
      refine xn_then ?_
      refine w_reg ?_
      refine wl_mv (.tmp 8) (pt k 0) (fun _ => rfl) e8 rfl ?_
      refine wl_mv (.tmp 7) (.int .i64 (0)) (fun _ => rfl) rfl rfl ?_
      refine wl_nc (.tmp 17) k 0 rfl rfl rfl ?_
      refine wl_un (fun v => Instr.fieldAt 66 v 0) (.tmp 19) (pt k 0) (pt k 0) (fun _ => rfl) rfl (by kernel_rfl) rfl ?_
      refine wl_un (fun v => Instr.fieldAt 64 v 1) (.tmp 20) (pt k 0) (pt k 1) (fun _ => rfl) rfl (by kernel_rfl) rfl ?_
      refine wl_bin (fun x y => Instr.indexAt 62 x y) (.tmp 21) (.tmp 18) (pt k 1) (.int .i64 (0)) (pt k 1) (fun _ => rfl) rfl rfl (by kernel_rfl) rfl ?_
      refine wl_load 56 (.tmp 22) (pt k 1) (pp l.p) rfl rfl (run_one (hS.rc k _ hk) 56 1 rfl Try.underlying56 rfl) rfl ?_
      refine wl_mv (.tmp 23) (pp l.p) (fun _ => rfl) rfl rfl ?_
      refine w_nil ?_
      exact xn_loop l.ht (by simp only [T.ht]; omega) ⟨(⟨k, i, s, false, r⟩ : Fr) :: C1, l, ((lk1) + cnt [(some k), l.p]), at1, rfl, e0, e1, e2, rfl, rfl, rfl, TS.dn (f := (⟨k, i, s, false, r⟩ : Fr)) (⟨R, root, hS, hC, hR1, hn⟩ : TS D _ t mb C1 (.n k i s l r) _), hM, ot.2.1, fun g hg => by rcases List.mem_cons.1 hg with rfl | hg; exact ot.2.2; exact oc g hg, hp, by simp only [csz]; omega, by omega, by omega, by simp only [ix]; simp only [Bool.false_eq_true, if_false]; omega, by omega, by simp only [List.length_cons]; omega, by simp only [List.length_cons]; omega, M⟩
  | e =>
    refine w_seq ?_
    refine w_seq ?_
    refine w_reg ?_
    refine wl_mv (.tmp 8) (pp none) (fun _ => rfl) e8 rfl ?_
    refine wl_bin (fun x y => do eqGuard .neq 56 (.tmp 15) (.const (.pointer none)) x y; binOp .neq 56 x y) (.tmp 15) (.const (.pointer none)) (pp none) (pp none) (.bool false) (fun _ => rfl) rfl rfl (ne56 none _ _ _) rfl ?_
    refine w_nil ?_
    refine xn_then ?_
    refine w_condF rfl ?_
    refine w_exit ?_
    refine xx_then ?_
    refine xx_then ?_
    refine xx_blk ?_
    refine xn_then ?_
    refine w_seq ?_
    refine w_reg ?_
    refine wl_build 64 [(2, (.const (.int .i64 (1))))] [(2, .int .i64 (1))] (.agg #[.pointer none, .pointer none, .pointer none, .int .i64 (1)]) rfl rfl (by kernel_rfl) rfl ?_
    refine wl_mv (.tmp 2) (.int .i64 (id)) (fun _ => rfl) e2 rfl ?_
    refine wl_build 66 [(0, (.tmp 49)), (1, (.tmp 50))] [(0, .agg #[.pointer none, .pointer none, .pointer none, .int .i64 (1)]), (1, .int .i64 (id))] (.agg #[.pointer none, .pointer none, .pointer none, .int .i64 (1), .int .i64 (id)]) rfl rfl (by kernel_rfl) rfl ?_
    refine wl_boxc 66 (.tmp 51) (.agg #[.pointer none, .pointer none, .pointer none, .int .i64 (1), .int .i64 (id)]) (#[.pointer none, .pointer none, .pointer none, .int .i64 (1), .int .i64 (id)]) rfl rfl (fun _ => by kernel_rfl) rfl ?_
    intro kn w11 hk hz hq hA hcb
    have hkn : w.heap.size ≤ kn := by have := M.size; omega
    have hlt : ∀ j, j ∈ adC C1 → j ≠ kn := fun j m e => by obtain ⟨r, hr⟩ := hC.mem j m; have := (hS.rc j r hr).lt; omega
    replace hS := hS.add hk hq ⟨none, none, none, 1, id⟩ hA hcb hM.lt
    obtain ⟨D1, eD1⟩ : ∃ X : Nat → Prop, X = fun j => D j ∨ j = kn := ⟨_, rfl⟩
    rw [← eD1] at hS
    obtain ⟨R1, eR1⟩ : ∃ X, X = ud R kn ⟨none, none, none, 1, id⟩ := ⟨_, rfl⟩
    rw [← eR1] at hS
    have hDD : ∀ j, j < w.heap.size → D1 j → D j ∨ j = mb := fun j hj e => by rw [eD1] at e; rcases e with e | e; exact Or.inl e; omega
    have hnw : R1 kn = some ⟨none, none, none, 1, id⟩ := by rw [eR1]; exact ud_same _ _ _
    replace hC : RepC R1 root C1 none := by rw [eR1]; exact hC.ud (fun m => hlt kn m rfl)
    replace hM := hM.mo hq
    replace M := M.trans hq
    clear hk hz hq hA hcb
    refine wl_mv (.tmp 52) (pt kn 0) (fun _ => rfl) rfl rfl ?_
    refine w_nil ?_
    refine xn_then ?_
    refine w_seq ?_
    refine w_reg ?_
    refine wl_mv (.tmp 0) (pt t 0) (fun _ => rfl) e0 rfl ?_
    refine wl_mv (.tmp 10) (pt kn 0) (fun _ => rfl) rfl rfl ?_
    refine wl_bsl [(0, (.tmp 54))] [pp (some kn)] 1 rfl rfl (bs1 (some kn)) rfl ?_
    intro g11 w12 hk hz hq Q11
    have nd_g11 : ¬ D1 g11 := fun e => by have := hS.lt e; omega
    replace hS := hS.mo hq
    replace hM := hM.mo hq
    replace M := M.trans hq
    clear hk hz hq
    refine wl_callg 39 [(.tmp 53), (.tmp 55)] _ [pt t 0, .slice (some ⟨g11, 0, none⟩) 1 1] (.tuple #[]) rfl rfl (fun _ _ => by kernel_rfl) (look_n [(some kn)] g11 hS Q11 nd_g11 (by simp only [List.length_cons, List.length_nil]; omega)) rfl ?_
    intro w13 hF
    have hc1 := cnt_le [(some kn)]
    simp only [List.length_cons, List.length_nil] at hc1
    obtain ⟨hS2, hM2⟩ := hF
    replace hS := hS2
    replace M := M.tr hM2 hDD
    replace hM := hM.mk hM2 hS.nb
    clear hS2 hM2 Q11 nd_g11
    refine w_nil ?_
    refine xn_then ?_
    refine w_seq ?_
    refine w_reg ?_
    refine wl_mv (.tmp 0) (pt t 0) (fun _ => rfl) e0 rfl ?_
    refine wl_nc (.tmp 57) t 0 rfl rfl rfl ?_
    refine wl_un (fun v => Instr.fieldAt 59 v 1) (.tmp 58) (pt t 0) (pt t 1) (fun _ => rfl) rfl (by kernel_rfl) rfl ?_
    refine wl_load 57 (.tmp 59) (pt t 1) (.map (some mb)) rfl rfl (run_one hS.tr 57 1 rfl Try.underlying57 rfl) rfl ?_
    refine wl_mv (.tmp 2) (.int .i64 (id)) (fun _ => rfl) e2 rfl ?_
    refine wl_mv (.tmp 10) (pt kn 0) (fun _ => rfl) rfl rfl ?_
    refine wl_mup (.tmp 60) (.tmp 61) (.tmp 62) mb id kn hM (by omega) hw rfl rfl rfl rfl rfl rfl ?_
    intro w14 hM9 hK
    replace hM := hM9
    rw [hfi] at hM
    replace hS := hS.kept hK (fun j e q => hS.nb (by rw [← q]; exact e))
    replace M := M.tr hK (fun _ _ e => Or.inr e)
    clear hM9 hK
    refine w_nil ?_
    refine xn_then ?_
    refine w_seq ?_
    refine w_reg ?_
    refine wl_mv (.tmp 0) (pt t 0) (fun _ => rfl) e0 rfl ?_
    refine wl_mv (.tmp 6) (pp ((top C1))) (fun _ => rfl) e6 rfl ?_
    refine wl_mv (.tmp 7) (.int .i64 (if sideC C1 then 1 else 0)) (fun _ => rfl) e7 rfl ?_
    refine wl_mv (.tmp 10) (pt kn 0) (fun _ => rfl) rfl rfl ?_
    have hnb := hS.nb
    refine wl_callg 43 [(.tmp 63), (.tmp 64), (.tmp 65), (.tmp 66)] _ [pt t 0, pp ((top C1)), .int .i64 (if sideC C1 then 1 else 0), pt kn 0] (.tuple #[]) rfl rfl (fun _ _ => by kernel_rfl) (hangT (tr := (.n kn id 1 .e .e)) (u := none) hS hC ⟨hnw, trivial, trivial⟩ (by simp only [T.ad, List.append_nil]; rw [List.nodup_append]; exact ⟨(nd_pos hn).1, by simp, fun a ha b hb => by simp at hb; rw [hb]; exact hlt a ha⟩)) rfl ?_
    intro w15 hF
    obtain ⟨hT, hM2⟩ := hF
    replace M := M.tr hM2 hDD
    replace hM := hM.mk hM2 hS.nb
    clear hM2
    refine w_nil ?_
    refine xn_then ?_
    refine w_reg ?_
    refine wl_mv (.tmp 0) (pt t 0) (fun _ => rfl) e0 rfl ?_
    refine wl_mv (.tmp 6) (pp ((top C1))) (fun _ => rfl) e6 rfl ?_
    refine wl_callg 44 [(.tmp 68), (.tmp 69)] _ [pt t 0, pp ((top C1))] (.tuple #[]) rfl rfl (fun _ _ => by kernel_rfl) (settle_n hT ⟨by simp only [T.sz]; omega, trivial, trivial⟩ oc (by simp only [T.sz] at hcs ⊢; omega) (by omega)) rfl ?_
    intro w16 hF
    obtain ⟨lk2, hk1, hk2, hT2, hM2⟩ := hF
    replace hM := hM.mk hM2 hnb
    replace M := M.tr hM2 hDD
    clear hM2
    refine w_nil ?_
    exact w_end0 rfl ⟨rfl, C1, kn, lk2, hp, by simp only [T.sz] at h1; omega, oc, hkn, by have hc9 : cnt [(some kn)] = 1 := rfl; omega, by omega, by simp only [T.ht] at hht; omega, by rw [← eD1]; exact hT2, hM, M⟩
end
end Go.Proofs.Ytbmbldloeblbbaa
