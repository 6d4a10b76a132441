/-
  The tree's take.
-/
import Derived.Test.YtbmbldloeblbbaaSh
namespace Go.Proofs.Ytbmbldloeblbbaa
open Go.RowKit
section
variable {D : Nat → Prop} {w : World} {t mb : Nat} {R : Mp} {root : Option Nat} {lk : Int}
theorem csz_app (f : Fr) (C : Cx) : ∀ Ls : Cx, csz (Ls ++ f :: C) = csz Ls + 1 + f.o.sz + csz C
  | [] => by show 1 + f.o.sz + csz C = 0 + 1 + f.o.sz + csz C; omega
  | g :: Ls => by
    have := csz_app f C Ls
    show 1 + g.o.sz + csz (Ls ++ f :: C) = 1 + g.o.sz + csz Ls + 1 + f.o.sz + csz C
    omega
theorem okC_app {f : Fr} {C Ls : Cx} (h1 : okC Ls) (h2 : f.o.ok) (h3 : okC C) : okC (Ls ++ f :: C) := fun g hg => by
  rcases List.mem_append.1 hg with hg | hg
  · exact h1 g hg
  · rcases List.mem_cons.1 hg with rfl | hg
    · exact h2
    · exact h3 g hg
theorem ne56b {x : Option Nat} {r : Bool} (h : x.isSome = r) (a b : Operand) (w : World) : (do eqGuard .neq 56 a b (pp x) (.pointer none); binOp .neq 56 (pp x) (.pointer none)).run Try.prog w = .ok (.bool r) w := h ▸ ne56 x a b w
theorem eq56b {x : Option Nat} {r : Bool} (h : x.isSome = r) (a b : Operand) (w : World) : (do eqGuard .eql 56 a b (pp x) (.pointer none); binOp .eql 56 (pp x) (.pointer none)).run Try.prog w = .ok (.bool (!r)) w := by
  subst h; rw [eq56]; cases x <;> rfl
theorem nd_drop {A B : List Nat} {k : Nat} (h : (A ++ k :: B).Nodup) : (A ++ B).Nodup := (List.perm_middle.nodup_iff.1 h).of_cons
section
variable {P : Program} {o : Oper} {n : Nat} {l : List (Nat × Value)} {w : World} {ops : Array Oper} {rest : List Oper} {Q : Exit → Act → World → Prop}
theorem wl_callx (g : FuncId) (xs : List Operand) (ats : Array TypeId) (args : List Value) {F : Ending → World → Prop} (ho : o.op = .call { callee := .value (.func g), args := xs.toArray, argTypes := ats }) (hx : xs.map (evl n l) = args)
    (h : ∀ args w, (callFunc g args).run P w = .ok (.enter g args) w)
    (hc : Calls P g args.toArray w F) (hg : wnt n l ops o = true) (hk : ∀ v w', F v w' → ∃ u, v = .returned u ∧ WL P ops Q rest n (ext l o.dst u) w') : WL P ops Q (o :: rest) n l w := by
  have e : (execOp (evl n l) o).run P w = .ok (.enter g args.toArray) w := by
    obtain ⟨dst, op, ty, pos, after, guard⟩ := o
    simp only at ho
    subst ho hx
    have e2 := execOp_call_go (fr n l) dst g xs.toArray ats ty pos after guard
    rw [fr_eval] at e2
    rw [e2, h]
    simp
  refine ⟨l_step hg ?_⟩
  unfold Oper.wp; rw [fr_eval, e, Oper.upon_enter]
  refine hc.mono ?_
  intro e w' hF
  obtain ⟨u, rfl, hW⟩ := hk e w' hF
  show wpList _ _ _ _ _ _
  rw [fr_put]
  exact hW.out
end
theorem take_B {C : Cx} {k : Nat} {i s : Int} {r : T} {f : Int → Option Nat} {n : Nat} (hT : TS D w t mb C (.n k i s .e r) lk) (hM : OM w mb f n) (hw : (Lit.int .i64 i).wf = true) (hfi : (f i).isSome = true) (ot : (T.n k i s .e r).ok) (oc : okC C) (hb : csz C + (T.n k i s .e r).sz ≤ 8000) (hlk : 0 ≤ lk ∧ lk + 1 + 8 * C.length ≤ 4000000000000000000) :
    Calls Try.prog 34 #[pt t 0, pt k 0] w fun e w' => e = .returned (.tuple #[]) ∧ ∃ lk', lk ≤ lk' ∧ lk' ≤ lk + 1 + 8 * C.length ∧ TS D w' t mb [] (rebuild C r) lk' ∧ OM w' mb (fu f i none) (n - 1) ∧ Mk (fun j => D j ∨ j = mb) w w' := by
  obtain ⟨R, root, hS, hC, hR, hn⟩ := hT
  have hk := hR.1
  have h0c := csz_nn C
  refine w_enter 65 Try.func34 Try.ntmps34 rfl rfl ?_
  have M : Mk (fun j => D j ∨ j = mb) w w := Mk.refl _ _
  refine w_seq ?_
  refine w_any 8 [.inl (pt t 0), .inl (pt t 0), .inl (pt t 1), .inl (.map (some mb)), .inl (pt k 0), .inl (pt k 0), .inl (pt k 4), .inl (.int .i64 (i))] [] (by kernel_rfl) (by kernel_rfl) (by kernel_rfl) (by kernel_rfl) rfl (by kernel_rfl) (by kernel_rfl) late_nil ?_ ?_ ?_
  · exact Ds.none rfl
  · refine ea_cons ?_ (ea_cons ?_ (ea_cons ?_ (ea_cons ?_ (ea_cons ?_ (ea_cons ?_ (ea_cons ?_ (ea_cons ?_ (ea_nil))))))))
    · exact og_eq (pt t 0) rfl (fun f wf hq hd K hK => go_run rfl (wo_mv (.tmp 0) (pt t 0) (fun _ => rfl) rfl (hK _ (Mo.refl _))))
    · exact og_eq (pt t 0) rfl (fun f wf hq hd K hK => go_run rfl (wo_nc (.tmp 6) t 0 rfl (hd 0 rfl) (hK _ (Mo.refl _))))
    · exact og_eq (pt t 1) rfl (fun f wf hq hd K hK => go_run rfl (wo_un (fun v => Instr.fieldAt 59 v 1) (.tmp 7) (pt t 0) (pt t 1) (fun _ => rfl) (hd 1 rfl) (by kernel_rfl) (hK _ (Mo.refl _))))
    · exact og_eq (.map (some mb)) rfl (fun f wf hq hd K hK => have hS := hS.mo hq; go_run rfl (wo_load 57 (.tmp 8) (pt t 1) (.map (some mb)) rfl (hd 2 rfl) (run_one hS.tr 57 1 rfl Try.underlying57 rfl) (hK _ (Mo.refl _))))
    · exact og_eq (pt k 0) rfl (fun f wf hq hd K hK => go_run rfl (wo_mv (.tmp 1) (pt k 0) (fun _ => rfl) rfl (hK _ (Mo.refl _))))
    · exact og_eq (pt k 0) rfl (fun f wf hq hd K hK => go_run rfl (wo_nc (.tmp 10) k 0 rfl (hd 4 rfl) (hK _ (Mo.refl _))))
    · exact og_eq (pt k 4) rfl (fun f wf hq hd K hK => go_run rfl (wo_un (fun v => Instr.fieldAt 66 v 1) (.tmp 11) (pt k 0) (pt k 4) (fun _ => rfl) (hd 5 rfl) (by kernel_rfl) (hK _ (Mo.refl _))))
    · exact og_eq (.int .i64 (i)) rfl (fun f wf hq hd K hK => have hS := hS.mo hq; go_run rfl (wo_load 2 (.tmp 12) (pt k 4) (.int .i64 (i)) rfl (hd 6 rfl) (run_one (hS.rc k _ hk) 2 4 rfl Try.underlying2 rfl) (hK _ (Mo.refl _))))
  intro kf1 w1 hq _ _
  replace hS := hS.mo hq
  replace hM := hM.mo hq
  replace M := M.trans hq
  clear hq
  refine wl_del (.tmp 9) (.tmp 13) mb i hM hfi hw rfl rfl rfl rfl rfl ?_
  intro w2 hM9 hK
  replace hM := hM9
  replace hS := hS.kept hK (fun j e q => hS.nb (by rw [← q]; exact e))
  replace M := M.tr hK (fun _ _ e => Or.inr e)
  clear hM9 hK
  refine w_nil ?_
  refine xn_then ?_
  refine w_seq ?_
  refine w_seq ?_
  refine w_reg ?_
  refine wl_mv (.tmp 1) (pt k 0) (fun _ => rfl) rfl rfl ?_
  refine wl_nc (.tmp 14) k 0 rfl rfl rfl ?_
  refine wl_un (fun v => Instr.fieldAt 66 v 0) (.tmp 15) (pt k 0) (pt k 0) (fun _ => rfl) rfl (by kernel_rfl) rfl ?_
  refine wl_un (fun v => Instr.fieldAt 64 v 1) (.tmp 16) (pt k 0) (pt k 1) (fun _ => rfl) rfl (by kernel_rfl) rfl ?_
  refine wl_bin (fun x y => Instr.indexAt 62 x y) (.tmp 17) (.const (.int .i64 (0))) (pt k 1) (.int .i64 (0)) (pt k 1) (fun _ => rfl) rfl rfl (by kernel_rfl) rfl ?_
  refine wl_load 56 (.tmp 18) (pt k 1) (pp none) rfl rfl (run_one (hS.rc k _ hk) 56 1 rfl Try.underlying56 rfl) rfl ?_
  refine wl_bin (fun x y => do eqGuard .neq 56 (.tmp 19) (.const (.pointer none)) x y; binOp .neq 56 x y) (.tmp 19) (.const (.pointer none)) (pp none) (pp none) (.bool false) (fun _ => rfl) rfl rfl (ne56 none _ _ _) rfl ?_
  refine wl_mv (.tmp 20) (.bool false) (fun _ => rfl) rfl rfl ?_
  refine wl_skip rfl ?_
  refine wl_skip rfl ?_
  refine wl_skip rfl ?_
  refine wl_skip rfl ?_
  refine wl_skip rfl ?_
  refine wl_skip rfl ?_
  refine wl_skip rfl ?_
  refine wl_pick (.tmp 21) (.tmp 28) (.const (.bool false)) false (.bool false) (fun _ => rfl) rfl rfl rfl ?_
  refine w_nil ?_
  refine xn_then ?_
  refine w_condF rfl ?_
  refine w_skip ?_
  refine xn_then ?_
  refine w_seq ?_
  refine w_reg ?_
  refine wl_mv (.tmp 1) (pt k 0) (fun _ => rfl) rfl rfl ?_
  refine wl_nc (.tmp 33) k 0 rfl rfl rfl ?_
  refine wl_un (fun v => Instr.fieldAt 66 v 0) (.tmp 34) (pt k 0) (pt k 0) (fun _ => rfl) rfl (by kernel_rfl) rfl ?_
  refine wl_un (fun v => Instr.fieldAt 64 v 1) (.tmp 35) (pt k 0) (pt k 1) (fun _ => rfl) rfl (by kernel_rfl) rfl ?_
  refine wl_bin (fun x y => Instr.indexAt 62 x y) (.tmp 36) (.const (.int .i64 (0))) (pt k 1) (.int .i64 (0)) (pt k 1) (fun _ => rfl) rfl rfl (by kernel_rfl) rfl ?_
  refine wl_load 56 (.tmp 37) (pt k 1) (pp none) rfl rfl (run_one (hS.rc k _ hk) 56 1 rfl Try.underlying56 rfl) rfl ?_
  refine wl_mv (.tmp 38) (pp none) (fun _ => rfl) rfl rfl ?_
  refine w_nil ?_
  refine xn_then ?_
  refine w_seq ?_
  refine w_seq ?_
  refine w_reg ?_
  refine wl_mv (.tmp 4) (pp none) (fun _ => rfl) rfl rfl ?_
  refine wl_bin (fun x y => do eqGuard .eql 56 (.tmp 39) (.const (.pointer none)) x y; binOp .eql 56 x y) (.tmp 39) (.const (.pointer none)) (pp none) (pp none) (.bool true) (fun _ => rfl) rfl rfl (eq56 none _ _ _) rfl ?_
  refine w_nil ?_
  refine xn_then ?_
  refine w_condT rfl ?_
  refine w_reg ?_
  refine wl_mv (.tmp 1) (pt k 0) (fun _ => rfl) rfl rfl ?_
  refine wl_nc (.tmp 41) k 0 rfl rfl rfl ?_
  refine wl_un (fun v => Instr.fieldAt 66 v 0) (.tmp 42) (pt k 0) (pt k 0) (fun _ => rfl) rfl (by kernel_rfl) rfl ?_
  refine wl_un (fun v => Instr.fieldAt 64 v 1) (.tmp 43) (pt k 0) (pt k 1) (fun _ => rfl) rfl (by kernel_rfl) rfl ?_
  refine wl_bin (fun x y => Instr.indexAt 62 x y) (.tmp 44) (.const (.int .i64 (1))) (pt k 1) (.int .i64 (1)) (pt k 2) (fun _ => rfl) rfl rfl (by kernel_rfl) rfl ?_
  refine wl_load 56 (.tmp 45) (pt k 2) (pp r.p) rfl rfl (run_one (hS.rc k _ hk) 56 2 rfl Try.underlying56 rfl) rfl ?_
  refine wl_mv (.tmp 46) (pp r.p) (fun _ => rfl) rfl rfl ?_
  refine w_nil ?_
  refine xn_then ?_
  refine w_seq ?_
  refine w_reg ?_
  refine wl_mv (.tmp 0) (pt t 0) (fun _ => rfl) rfl rfl ?_
  refine wl_mv (.tmp 4) (pp r.p) (fun _ => rfl) rfl rfl ?_
  refine wl_bsl [(0, (.tmp 48))] [pp r.p] 1 rfl rfl (bs1 r.p) rfl ?_
  intro g1 w3 hk hz hq Q1
  have nd_g1 : ¬ D g1 := fun e => by have := hS.lt e; omega
  replace hS := hS.mo hq
  replace hM := hM.mo hq
  replace M := M.trans hq
  clear hk hz hq
  refine wl_callg 39 [(.tmp 47), (.tmp 49)] _ [pt t 0, .slice (some ⟨g1, 0, none⟩) 1 1] (.tuple #[]) rfl rfl (fun _ _ => by kernel_rfl) (look_n [r.p] g1 hS Q1 nd_g1 (by simp only [List.length_cons, List.length_nil]; omega)) rfl ?_
  intro w4 hF
  have hc1 := cnt_le [r.p]
  simp only [List.length_cons, List.length_nil] at hc1
  obtain ⟨hS2, hM2⟩ := hF
  replace hS := hS2
  replace M := M.tr hM2 (fun _ _ e => Or.inl e)
  replace hM := hM.mk hM2 hS.nb
  clear hS2 hM2 Q1 nd_g1
  refine w_nil ?_
  refine xn_then ?_
  refine w_seq ?_
  refine w_reg ?_
  refine wl_mv (.tmp 1) (pt k 0) (fun _ => rfl) rfl rfl ?_
  refine wl_nc (.tmp 51) k 0 rfl rfl rfl ?_
  refine wl_un (fun v => Instr.fieldAt 66 v 0) (.tmp 52) (pt k 0) (pt k 0) (fun _ => rfl) rfl (by kernel_rfl) rfl ?_
  refine wl_un (fun v => Instr.fieldAt 64 v 0) (.tmp 53) (pt k 0) (pt k 0) (fun _ => rfl) rfl (by kernel_rfl) rfl ?_
  refine wl_load 56 (.tmp 54) (pt k 0) (pp (top C)) rfl rfl (run_one (hS.rc k _ hk) 56 0 rfl Try.underlying56 rfl) rfl ?_
  refine wl_mv (.tmp 55) (pp (top C)) (fun _ => rfl) rfl rfl ?_
  refine w_nil ?_
  refine xn_then ?_
  refine w_seq ?_
  refine w_reg ?_
  refine wl_mv (.tmp 0) (pt t 0) (fun _ => rfl) rfl rfl ?_
  refine wl_mv (.tmp 5) (pp (top C)) (fun _ => rfl) rfl rfl ?_
  refine wl_mv (.tmp 1) (pt k 0) (fun _ => rfl) rfl rfl ?_
  refine wl_call 41 [(.tmp 58)] _ [pt k 0] (.int .i64 (if sideC C then 1 else 0)) rfl rfl (fun _ _ => by kernel_rfl) (side_c hS hC hk (fun m => (nd_pos hn).2.2 _ m (by unfold T.ad; simp))) rfl ?_
  intro w5 hq
  replace hS := hS.mo hq
  replace hM := hM.mo hq
  replace M := M.trans hq
  clear hq
  refine wl_mv (.tmp 4) (pp r.p) (fun _ => rfl) rfl rfl ?_
  have hnb := hS.nb
  refine wl_callg 43 [(.tmp 56), (.tmp 57), (.tmp 59), (.tmp 60)] _ [pt t 0, pp (top C), .int .i64 (if sideC C then 1 else 0), pp r.p] (.tuple #[]) rfl rfl (fun _ _ => by kernel_rfl) (hangT (tr := r) hS hC hR.2.2 (by have := hn; simp only [T.ad, List.nil_append] at this; exact nd_drop this)) rfl ?_
  intro w6 hF
  obtain ⟨hT, hM2⟩ := hF
  replace M := M.tr hM2 (fun _ _ e => Or.inl e)
  replace hM := hM.mk hM2 hS.nb
  clear hM2
  refine w_nil ?_
  refine xn_then ?_
  refine w_reg ?_
  refine wl_mv (.tmp 0) (pt t 0) (fun _ => rfl) rfl rfl ?_
  refine wl_mv (.tmp 5) (pp (top C)) (fun _ => rfl) rfl rfl ?_
  refine wl_callg 44 [(.tmp 62), (.tmp 63)] _ [pt t 0, pp (top C)] (.tuple #[]) rfl rfl (fun _ _ => by kernel_rfl) (settle_n hT ot.2.2 oc (by simp only [T.sz] at hb; omega) (by omega)) rfl ?_
  intro w7 hF
  obtain ⟨lk2, hk1, hk2, hT2, hM2⟩ := hF
  replace hM := hM.mk hM2 hnb
  replace M := M.tr hM2 (fun _ _ e => Or.inl e)
  clear hM2
  refine w_nil ?_
  exact w_end0 rfl ⟨rfl, lk2, by omega, by omega, hT2, hM, M⟩
theorem take_C {C : Cx} {k lk0 : Nat} {i s li ls : Int} {la lb : T} {f : Int → Option Nat} {n : Nat} (hT : TS D w t mb C (.n k i s (.n lk0 li ls la lb) .e) lk) (hM : OM w mb f n) (hw : (Lit.int .i64 i).wf = true) (hfi : (f i).isSome = true) (ot : (T.n k i s (.n lk0 li ls la lb) .e).ok) (oc : okC C) (hb : csz C + (T.n k i s (.n lk0 li ls la lb) .e).sz ≤ 8000) (hlk : 0 ≤ lk ∧ lk + 1 + 8 * C.length ≤ 4000000000000000000) :
    Calls Try.prog 34 #[pt t 0, pt k 0] w fun e w' => e = .returned (.tuple #[]) ∧ ∃ lk', lk ≤ lk' ∧ lk' ≤ lk + 1 + 8 * C.length ∧ TS D w' t mb [] (rebuild C (.n lk0 li ls la lb)) lk' ∧ OM w' mb (fu f i none) (n - 1) ∧ Mk (fun j => D j ∨ j = mb) w w' := by
  obtain ⟨R, root, hS, hC, hR, hn⟩ := hT
  have hk := hR.1
  have h0c := csz_nn C
  have h0l := T.sz_nn la; have h0m := T.sz_nn lb
  refine w_enter 65 Try.func34 Try.ntmps34 rfl rfl ?_
  have M : Mk (fun j => D j ∨ j = mb) w w := Mk.refl _ _
  refine w_seq ?_
  refine w_any 8 [.inl (pt t 0), .inl (pt t 0), .inl (pt t 1), .inl (.map (some mb)), .inl (pt k 0), .inl (pt k 0), .inl (pt k 4), .inl (.int .i64 (i))] [] (by kernel_rfl) (by kernel_rfl) (by kernel_rfl) (by kernel_rfl) rfl (by kernel_rfl) (by kernel_rfl) late_nil ?_ ?_ ?_
  · exact Ds.none rfl
  · refine ea_cons ?_ (ea_cons ?_ (ea_cons ?_ (ea_cons ?_ (ea_cons ?_ (ea_cons ?_ (ea_cons ?_ (ea_cons ?_ (ea_nil))))))))
    · exact og_eq (pt t 0) rfl (fun f wf hq hd K hK => go_run rfl (wo_mv (.tmp 0) (pt t 0) (fun _ => rfl) rfl (hK _ (Mo.refl _))))
    · exact og_eq (pt t 0) rfl (fun f wf hq hd K hK => go_run rfl (wo_nc (.tmp 6) t 0 rfl (hd 0 rfl) (hK _ (Mo.refl _))))
    · exact og_eq (pt t 1) rfl (fun f wf hq hd K hK => go_run rfl (wo_un (fun v => Instr.fieldAt 59 v 1) (.tmp 7) (pt t 0) (pt t 1) (fun _ => rfl) (hd 1 rfl) (by kernel_rfl) (hK _ (Mo.refl _))))
    · exact og_eq (.map (some mb)) rfl (fun f wf hq hd K hK => have hS := hS.mo hq; go_run rfl (wo_load 57 (.tmp 8) (pt t 1) (.map (some mb)) rfl (hd 2 rfl) (run_one hS.tr 57 1 rfl Try.underlying57 rfl) (hK _ (Mo.refl _))))
    · exact og_eq (pt k 0) rfl (fun f wf hq hd K hK => go_run rfl (wo_mv (.tmp 1) (pt k 0) (fun _ => rfl) rfl (hK _ (Mo.refl _))))
    · exact og_eq (pt k 0) rfl (fun f wf hq hd K hK => go_run rfl (wo_nc (.tmp 10) k 0 rfl (hd 4 rfl) (hK _ (Mo.refl _))))
    · exact og_eq (pt k 4) rfl (fun f wf hq hd K hK => go_run rfl (wo_un (fun v => Instr.fieldAt 66 v 1) (.tmp 11) (pt k 0) (pt k 4) (fun _ => rfl) (hd 5 rfl) (by kernel_rfl) (hK _ (Mo.refl _))))
    · exact og_eq (.int .i64 (i)) rfl (fun f wf hq hd K hK => have hS := hS.mo hq; go_run rfl (wo_load 2 (.tmp 12) (pt k 4) (.int .i64 (i)) rfl (hd 6 rfl) (run_one (hS.rc k _ hk) 2 4 rfl Try.underlying2 rfl) (hK _ (Mo.refl _))))
  intro kf1 w1 hq _ _
  replace hS := hS.mo hq
  replace hM := hM.mo hq
  replace M := M.trans hq
  clear hq
  refine wl_del (.tmp 9) (.tmp 13) mb i hM hfi hw rfl rfl rfl rfl rfl ?_
  intro w2 hM9 hK
  replace hM := hM9
  replace hS := hS.kept hK (fun j e q => hS.nb (by rw [← q]; exact e))
  replace M := M.tr hK (fun _ _ e => Or.inr e)
  clear hM9 hK
  refine w_nil ?_
  refine xn_then ?_
  refine w_seq ?_
  refine w_seq ?_
  refine w_reg ?_
  refine wl_mv (.tmp 1) (pt k 0) (fun _ => rfl) rfl rfl ?_
  refine wl_nc (.tmp 14) k 0 rfl rfl rfl ?_
  refine wl_un (fun v => Instr.fieldAt 66 v 0) (.tmp 15) (pt k 0) (pt k 0) (fun _ => rfl) rfl (by kernel_rfl) rfl ?_
  refine wl_un (fun v => Instr.fieldAt 64 v 1) (.tmp 16) (pt k 0) (pt k 1) (fun _ => rfl) rfl (by kernel_rfl) rfl ?_
  refine wl_bin (fun x y => Instr.indexAt 62 x y) (.tmp 17) (.const (.int .i64 (0))) (pt k 1) (.int .i64 (0)) (pt k 1) (fun _ => rfl) rfl rfl (by kernel_rfl) rfl ?_
  refine wl_load 56 (.tmp 18) (pt k 1) (pt lk0 0) rfl rfl (run_one (hS.rc k _ hk) 56 1 rfl Try.underlying56 rfl) rfl ?_
  refine wl_bin (fun x y => do eqGuard .neq 56 (.tmp 19) (.const (.pointer none)) x y; binOp .neq 56 x y) (.tmp 19) (.const (.pointer none)) (pt lk0 0) (pp none) (.bool true) (fun _ => rfl) rfl rfl (ne56 (some lk0) _ _ _) rfl ?_
  refine wl_mv (.tmp 20) (.bool true) (fun _ => rfl) rfl rfl ?_
  refine wl_mv (.tmp 1) (pt k 0) (fun _ => rfl) rfl rfl ?_
  refine wl_nc (.tmp 22) k 0 rfl rfl rfl ?_
  refine wl_un (fun v => Instr.fieldAt 66 v 0) (.tmp 23) (pt k 0) (pt k 0) (fun _ => rfl) rfl (by kernel_rfl) rfl ?_
  refine wl_un (fun v => Instr.fieldAt 64 v 1) (.tmp 24) (pt k 0) (pt k 1) (fun _ => rfl) rfl (by kernel_rfl) rfl ?_
  refine wl_bin (fun x y => Instr.indexAt 62 x y) (.tmp 25) (.const (.int .i64 (1))) (pt k 1) (.int .i64 (1)) (pt k 2) (fun _ => rfl) rfl rfl (by kernel_rfl) rfl ?_
  refine wl_load 56 (.tmp 26) (pt k 2) (pp none) rfl rfl (run_one (hS.rc k _ hk) 56 2 rfl Try.underlying56 rfl) rfl ?_
  refine wl_bin (fun x y => do eqGuard .neq 56 (.tmp 27) (.const (.pointer none)) x y; binOp .neq 56 x y) (.tmp 27) (.const (.pointer none)) (pp none) (pp none) (.bool false) (fun _ => rfl) rfl rfl (ne56 none _ _ _) rfl ?_
  refine wl_pick (.tmp 21) (.tmp 28) (.const (.bool false)) true (.bool false) (fun _ => rfl) rfl rfl rfl ?_
  refine w_nil ?_
  refine xn_then ?_
  refine w_condF rfl ?_
  refine w_skip ?_
  refine xn_then ?_
  refine w_seq ?_
  refine w_reg ?_
  refine wl_mv (.tmp 1) (pt k 0) (fun _ => rfl) rfl rfl ?_
  refine wl_nc (.tmp 33) k 0 rfl rfl rfl ?_
  refine wl_un (fun v => Instr.fieldAt 66 v 0) (.tmp 34) (pt k 0) (pt k 0) (fun _ => rfl) rfl (by kernel_rfl) rfl ?_
  refine wl_un (fun v => Instr.fieldAt 64 v 1) (.tmp 35) (pt k 0) (pt k 1) (fun _ => rfl) rfl (by kernel_rfl) rfl ?_
  refine wl_bin (fun x y => Instr.indexAt 62 x y) (.tmp 36) (.const (.int .i64 (0))) (pt k 1) (.int .i64 (0)) (pt k 1) (fun _ => rfl) rfl rfl (by kernel_rfl) rfl ?_
  refine wl_load 56 (.tmp 37) (pt k 1) (pt lk0 0) rfl rfl (run_one (hS.rc k _ hk) 56 1 rfl Try.underlying56 rfl) rfl ?_
  refine wl_mv (.tmp 38) (pt lk0 0) (fun _ => rfl) rfl rfl ?_
  refine w_nil ?_
  refine xn_then ?_
  refine w_seq ?_
  refine w_seq ?_
  refine w_reg ?_
  refine wl_mv (.tmp 4) (pt lk0 0) (fun _ => rfl) rfl rfl ?_
  refine wl_bin (fun x y => do eqGuard .eql 56 (.tmp 39) (.const (.pointer none)) x y; binOp .eql 56 x y) (.tmp 39) (.const (.pointer none)) (pt lk0 0) (pp none) (.bool false) (fun _ => rfl) rfl rfl (eq56 (some lk0) _ _ _) rfl ?_
  refine w_nil ?_
  refine xn_then ?_
  refine w_condF rfl ?_
  refine w_skip ?_
  refine xn_then ?_
  refine w_seq ?_
  refine w_reg ?_
  refine wl_mv (.tmp 0) (pt t 0) (fun _ => rfl) rfl rfl ?_
  refine wl_mv (.tmp 4) (pt lk0 0) (fun _ => rfl) rfl rfl ?_
  refine wl_bsl [(0, (.tmp 48))] [pp (some lk0)] 1 rfl rfl (bs1 (some lk0)) rfl ?_
  intro g1 w3 hk hz hq Q1
  have nd_g1 : ¬ D g1 := fun e => by have := hS.lt e; omega
  replace hS := hS.mo hq
  replace hM := hM.mo hq
  replace M := M.trans hq
  clear hk hz hq
  refine wl_callg 39 [(.tmp 47), (.tmp 49)] _ [pt t 0, .slice (some ⟨g1, 0, none⟩) 1 1] (.tuple #[]) rfl rfl (fun _ _ => by kernel_rfl) (look_n [(some lk0)] g1 hS Q1 nd_g1 (by simp only [List.length_cons, List.length_nil]; omega)) rfl ?_
  intro w4 hF
  have hc1 := cnt_le [(some lk0)]
  simp only [List.length_cons, List.length_nil] at hc1
  obtain ⟨hS2, hM2⟩ := hF
  replace hS := hS2
  replace M := M.tr hM2 (fun _ _ e => Or.inl e)
  replace hM := hM.mk hM2 hS.nb
  clear hS2 hM2 Q1 nd_g1
  refine w_nil ?_
  refine xn_then ?_
  refine w_seq ?_
  refine w_reg ?_
  refine wl_mv (.tmp 1) (pt k 0) (fun _ => rfl) rfl rfl ?_
  refine wl_nc (.tmp 51) k 0 rfl rfl rfl ?_
  refine wl_un (fun v => Instr.fieldAt 66 v 0) (.tmp 52) (pt k 0) (pt k 0) (fun _ => rfl) rfl (by kernel_rfl) rfl ?_
  refine wl_un (fun v => Instr.fieldAt 64 v 0) (.tmp 53) (pt k 0) (pt k 0) (fun _ => rfl) rfl (by kernel_rfl) rfl ?_
  refine wl_load 56 (.tmp 54) (pt k 0) (pp (top C)) rfl rfl (run_one (hS.rc k _ hk) 56 0 rfl Try.underlying56 rfl) rfl ?_
  refine wl_mv (.tmp 55) (pp (top C)) (fun _ => rfl) rfl rfl ?_
  refine w_nil ?_
  refine xn_then ?_
  refine w_seq ?_
  refine w_reg ?_
  refine wl_mv (.tmp 0) (pt t 0) (fun _ => rfl) rfl rfl ?_
  refine wl_mv (.tmp 5) (pp (top C)) (fun _ => rfl) rfl rfl ?_
  refine wl_mv (.tmp 1) (pt k 0) (fun _ => rfl) rfl rfl ?_
  refine wl_call 41 [(.tmp 58)] _ [pt k 0] (.int .i64 (if sideC C then 1 else 0)) rfl rfl (fun _ _ => by kernel_rfl) (side_c hS hC hk (fun m => (nd_pos hn).2.2 _ m (by unfold T.ad; simp))) rfl ?_
  intro w5 hq
  replace hS := hS.mo hq
  replace hM := hM.mo hq
  replace M := M.trans hq
  clear hq
  refine wl_mv (.tmp 4) (pt lk0 0) (fun _ => rfl) rfl rfl ?_
  have hnb := hS.nb
  refine wl_callg 43 [(.tmp 56), (.tmp 57), (.tmp 59), (.tmp 60)] _ [pt t 0, pp (top C), .int .i64 (if sideC C then 1 else 0), pt lk0 0] (.tuple #[]) rfl rfl (fun _ _ => by kernel_rfl) (hangT (tr := (.n lk0 li ls la lb)) hS hC hR.2.1 (by have := hn; simp only [T.ad, List.append_nil] at this ⊢; exact nd_drop this)) rfl ?_
  intro w6 hF
  obtain ⟨hT, hM2⟩ := hF
  replace M := M.tr hM2 (fun _ _ e => Or.inl e)
  replace hM := hM.mk hM2 hS.nb
  clear hM2
  refine w_nil ?_
  refine xn_then ?_
  refine w_reg ?_
  refine wl_mv (.tmp 0) (pt t 0) (fun _ => rfl) rfl rfl ?_
  refine wl_mv (.tmp 5) (pp (top C)) (fun _ => rfl) rfl rfl ?_
  refine wl_callg 44 [(.tmp 62), (.tmp 63)] _ [pt t 0, pp (top C)] (.tuple #[]) rfl rfl (fun _ _ => by kernel_rfl) (settle_n hT ot.2.1 oc (by simp only [T.sz] at hb ⊢; omega) (by omega)) rfl ?_
  intro w7 hF
  obtain ⟨lk2, hk1, hk2, hT2, hM2⟩ := hF
  replace hM := hM.mk hM2 hnb
  replace M := M.tr hM2 (fun _ _ e => Or.inl e)
  clear hM2
  refine w_nil ?_
  exact w_end0 rfl ⟨rfl, lk2, by omega, by omega, hT2, hM, M⟩
theorem take_A {C : Cx} {k lk0 rk : Nat} {i s li ls ri rs : Int} {la lb ra rb : T} {f : Int → Option Nat} {n : Nat} (hT : TS D w t mb C (.n k i s (.n lk0 li ls la lb) (.n rk ri rs ra rb)) lk) (hM : OM w mb f n) (hn1 : n ≤ 2000) (hw : (Lit.int .i64 i).wf = true) (hfi : (f i).isSome = true) (ot : (T.n k i s (.n lk0 li ls la lb) (.n rk ri rs ra rb)).ok) (oc : okC C) (hb : csz C + (T.n k i s (.n lk0 li ls la lb) (.n rk ri rs ra rb)).sz ≤ 8000) (hlk : 0 ≤ lk ∧ lk + 20 + 10 * (T.n rk ri rs ra rb).ht + 8 * C.length ≤ 4000000000000000000) (hwr : ∀ j ∈ (T.n rk ri rs ra rb).ids, (Lit.int .i64 j).wf = true) :
    Calls Try.prog 34 #[pt t 0, pt k 0] w fun e w' => e = .returned (.tuple #[]) ∧ ∃ (Ls : Cx) (kn : Nat) (i2 s2 : Int) (b : T) (lk' : Int), plug Ls (.n kn i2 s2 .e b) = (.n rk ri rs ra rb) ∧ okC Ls ∧ (∀ g ∈ Ls, g.d = false) ∧ (T.n kn i2 s2 .e b).ok ∧ lk ≤ lk' ∧ lk' ≤ lk + 3 + Ls.length + 8 * (Ls.length + 1 + C.length) ∧ Ls.length + 1 ≤ (T.n rk ri rs ra rb).ht ∧ TS D w' t mb [] (rebuild (Ls ++ (⟨k, i2, s, true, (.n lk0 li ls la lb)⟩ : Fr) :: C) b) lk' ∧ OM w' mb (fu (fu f i none) i2 (some k)) (if (fu f i none i2).isSome then n - 1 else n - 1 + 1) ∧ Mk (fun j => D j ∨ j = mb) w w' := by
  obtain ⟨R, root, hS, hC, hR, hn⟩ := hT
  have hk := hR.1
  have h0c := csz_nn C
  have h0l := T.sz_nn la; have h0m := T.sz_nn lb
  refine w_enter 65 Try.func34 Try.ntmps34 rfl rfl ?_
  have M : Mk (fun j => D j ∨ j = mb) w w := Mk.refl _ _
  refine w_seq ?_
  refine w_any 8 [.inl (pt t 0), .inl (pt t 0), .inl (pt t 1), .inl (.map (some mb)), .inl (pt k 0), .inl (pt k 0), .inl (pt k 4), .inl (.int .i64 (i))] [] (by kernel_rfl) (by kernel_rfl) (by kernel_rfl) (by kernel_rfl) rfl (by kernel_rfl) (by kernel_rfl) late_nil ?_ ?_ ?_
  · exact Ds.none rfl
  · refine ea_cons ?_ (ea_cons ?_ (ea_cons ?_ (ea_cons ?_ (ea_cons ?_ (ea_cons ?_ (ea_cons ?_ (ea_cons ?_ (ea_nil))))))))
    · exact og_eq (pt t 0) rfl (fun f wf hq hd K hK => go_run rfl (wo_mv (.tmp 0) (pt t 0) (fun _ => rfl) rfl (hK _ (Mo.refl _))))
    · exact og_eq (pt t 0) rfl (fun f wf hq hd K hK => go_run rfl (wo_nc (.tmp 6) t 0 rfl (hd 0 rfl) (hK _ (Mo.refl _))))
    · exact og_eq (pt t 1) rfl (fun f wf hq hd K hK => go_run rfl (wo_un (fun v => Instr.fieldAt 59 v 1) (.tmp 7) (pt t 0) (pt t 1) (fun _ => rfl) (hd 1 rfl) (by kernel_rfl) (hK _ (Mo.refl _))))
    · exact og_eq (.map (some mb)) rfl (fun f wf hq hd K hK => have hS := hS.mo hq; go_run rfl (wo_load 57 (.tmp 8) (pt t 1) (.map (some mb)) rfl (hd 2 rfl) (run_one hS.tr 57 1 rfl Try.underlying57 rfl) (hK _ (Mo.refl _))))
    · exact og_eq (pt k 0) rfl (fun f wf hq hd K hK => go_run rfl (wo_mv (.tmp 1) (pt k 0) (fun _ => rfl) rfl (hK _ (Mo.refl _))))
    · exact og_eq (pt k 0) rfl (fun f wf hq hd K hK => go_run rfl (wo_nc (.tmp 10) k 0 rfl (hd 4 rfl) (hK _ (Mo.refl _))))
    · exact og_eq (pt k 4) rfl (fun f wf hq hd K hK => go_run rfl (wo_un (fun v => Instr.fieldAt 66 v 1) (.tmp 11) (pt k 0) (pt k 4) (fun _ => rfl) (hd 5 rfl) (by kernel_rfl) (hK _ (Mo.refl _))))
    · exact og_eq (.int .i64 (i)) rfl (fun f wf hq hd K hK => have hS := hS.mo hq; go_run rfl (wo_load 2 (.tmp 12) (pt k 4) (.int .i64 (i)) rfl (hd 6 rfl) (run_one (hS.rc k _ hk) 2 4 rfl Try.underlying2 rfl) (hK _ (Mo.refl _))))
  intro kf1 w1 hq _ _
  replace hS := hS.mo hq
  replace hM := hM.mo hq
  replace M := M.trans hq
  clear hq
  refine wl_del (.tmp 9) (.tmp 13) mb i hM hfi hw rfl rfl rfl rfl rfl ?_
  intro w2 hM9 hK
  replace hM := hM9
  replace hS := hS.kept hK (fun j e q => hS.nb (by rw [← q]; exact e))
  replace M := M.tr hK (fun _ _ e => Or.inr e)
  clear hM9 hK
  refine w_nil ?_
  refine xn_then ?_
  refine w_seq ?_
  refine w_seq ?_
  refine w_reg ?_
  refine wl_mv (.tmp 1) (pt k 0) (fun _ => rfl) rfl rfl ?_
  refine wl_nc (.tmp 14) k 0 rfl rfl rfl ?_
  refine wl_un (fun v => Instr.fieldAt 66 v 0) (.tmp 15) (pt k 0) (pt k 0) (fun _ => rfl) rfl (by kernel_rfl) rfl ?_
  refine wl_un (fun v => Instr.fieldAt 64 v 1) (.tmp 16) (pt k 0) (pt k 1) (fun _ => rfl) rfl (by kernel_rfl) rfl ?_
  refine wl_bin (fun x y => Instr.indexAt 62 x y) (.tmp 17) (.const (.int .i64 (0))) (pt k 1) (.int .i64 (0)) (pt k 1) (fun _ => rfl) rfl rfl (by kernel_rfl) rfl ?_
  refine wl_load 56 (.tmp 18) (pt k 1) (pt lk0 0) rfl rfl (run_one (hS.rc k _ hk) 56 1 rfl Try.underlying56 rfl) rfl ?_
  refine wl_bin (fun x y => do eqGuard .neq 56 (.tmp 19) (.const (.pointer none)) x y; binOp .neq 56 x y) (.tmp 19) (.const (.pointer none)) (pt lk0 0) (pp none) (.bool true) (fun _ => rfl) rfl rfl (ne56 (some lk0) _ _ _) rfl ?_
  refine wl_mv (.tmp 20) (.bool true) (fun _ => rfl) rfl rfl ?_
  refine wl_mv (.tmp 1) (pt k 0) (fun _ => rfl) rfl rfl ?_
  refine wl_nc (.tmp 22) k 0 rfl rfl rfl ?_
  refine wl_un (fun v => Instr.fieldAt 66 v 0) (.tmp 23) (pt k 0) (pt k 0) (fun _ => rfl) rfl (by kernel_rfl) rfl ?_
  refine wl_un (fun v => Instr.fieldAt 64 v 1) (.tmp 24) (pt k 0) (pt k 1) (fun _ => rfl) rfl (by kernel_rfl) rfl ?_
  refine wl_bin (fun x y => Instr.indexAt 62 x y) (.tmp 25) (.const (.int .i64 (1))) (pt k 1) (.int .i64 (1)) (pt k 2) (fun _ => rfl) rfl rfl (by kernel_rfl) rfl ?_
  refine wl_load 56 (.tmp 26) (pt k 2) (pt rk 0) rfl rfl (run_one (hS.rc k _ hk) 56 2 rfl Try.underlying56 rfl) rfl ?_
  refine wl_bin (fun x y => do eqGuard .neq 56 (.tmp 27) (.const (.pointer none)) x y; binOp .neq 56 x y) (.tmp 27) (.const (.pointer none)) (pt rk 0) (pp none) (.bool true) (fun _ => rfl) rfl rfl (ne56 (some rk) _ _ _) rfl ?_
  refine wl_pick (.tmp 21) (.tmp 28) (.const (.bool false)) true (.bool true) (fun _ => rfl) rfl rfl rfl ?_
  refine w_nil ?_
  refine xn_then ?_
  refine w_condT rfl ?_
  refine w_reg ?_
  refine wl_mv (.tmp 0) (pt t 0) (fun _ => rfl) rfl rfl ?_
  refine wl_mv (.tmp 1) (pt k 0) (fun _ => rfl) rfl rfl ?_
  refine wl_callx 45 [(.tmp 30), (.tmp 31)] _ [pt t 0, pt k 0] rfl rfl (fun _ _ => by kernel_rfl) (over_n ⟨R, root, hS, hC, hR, hn⟩ hM (by omega) hwr ot (by omega)) rfl ?_
  rintro v9 w3 ⟨Ls, kn, i2, s2, b, lk3, ev, hpl, okL, hLd, hok, hsz, hk3, hk4, hlt, hT9, hM9, hM8⟩
  refine ⟨_, ev, ?_⟩
  clear ev
  replace hM := hM9
  replace M := M.same hM8
  clear hM9 hM8
  have oc9 := okC_app (f := ⟨k, i2, s, true, (.n lk0 li ls la lb)⟩) okL ot.2.1 oc
  have hcz := csz_app ⟨k, i2, s, true, (.n lk0 li ls la lb)⟩ C Ls
  have hln : (Ls ++ (⟨k, i2, s, true, (.n lk0 li ls la lb)⟩ : Fr) :: C).length = Ls.length + 1 + C.length := by simp; omega
  generalize hC9e : Ls ++ (⟨k, i2, s, true, (.n lk0 li ls la lb)⟩ : Fr) :: C = C9 at *
  obtain ⟨R9, root9, hS9, hC9, hR9, hn9⟩ := hT9
  replace hS := hS9
  clear hS9
  have hkn := hR9.1
  have h0b := T.sz_nn b
  simp only [T.sz] at hb hsz hcz
  refine wl_mv (.tmp 32) (pt kn 0) (fun _ => rfl) rfl rfl ?_
  refine w_nil ?_
  refine xn_then ?_
  refine w_seq ?_
  refine w_reg ?_
  refine wl_mv (.tmp 1) (pt kn 0) (fun _ => rfl) rfl rfl ?_
  refine wl_nc (.tmp 33) kn 0 rfl rfl rfl ?_
  refine wl_un (fun v => Instr.fieldAt 66 v 0) (.tmp 34) (pt kn 0) (pt kn 0) (fun _ => rfl) rfl (by kernel_rfl) rfl ?_
  refine wl_un (fun v => Instr.fieldAt 64 v 1) (.tmp 35) (pt kn 0) (pt kn 1) (fun _ => rfl) rfl (by kernel_rfl) rfl ?_
  refine wl_bin (fun x y => Instr.indexAt 62 x y) (.tmp 36) (.const (.int .i64 (0))) (pt kn 1) (.int .i64 (0)) (pt kn 1) (fun _ => rfl) rfl rfl (by kernel_rfl) rfl ?_
  refine wl_load 56 (.tmp 37) (pt kn 1) (pp none) rfl rfl (run_one (hS.rc kn _ hkn) 56 1 rfl Try.underlying56 rfl) rfl ?_
  refine wl_mv (.tmp 38) (pp none) (fun _ => rfl) rfl rfl ?_
  refine w_nil ?_
  refine xn_then ?_
  refine w_seq ?_
  refine w_seq ?_
  refine w_reg ?_
  refine wl_mv (.tmp 4) (pp none) (fun _ => rfl) rfl rfl ?_
  refine wl_bin (fun x y => do eqGuard .eql 56 (.tmp 39) (.const (.pointer none)) x y; binOp .eql 56 x y) (.tmp 39) (.const (.pointer none)) (pp none) (pp none) (.bool true) (fun _ => rfl) rfl rfl (eq56 none _ _ _) rfl ?_
  refine w_nil ?_
  refine xn_then ?_
  refine w_condT rfl ?_
  refine w_reg ?_
  refine wl_mv (.tmp 1) (pt kn 0) (fun _ => rfl) rfl rfl ?_
  refine wl_nc (.tmp 41) kn 0 rfl rfl rfl ?_
  refine wl_un (fun v => Instr.fieldAt 66 v 0) (.tmp 42) (pt kn 0) (pt kn 0) (fun _ => rfl) rfl (by kernel_rfl) rfl ?_
  refine wl_un (fun v => Instr.fieldAt 64 v 1) (.tmp 43) (pt kn 0) (pt kn 1) (fun _ => rfl) rfl (by kernel_rfl) rfl ?_
  refine wl_bin (fun x y => Instr.indexAt 62 x y) (.tmp 44) (.const (.int .i64 (1))) (pt kn 1) (.int .i64 (1)) (pt kn 2) (fun _ => rfl) rfl rfl (by kernel_rfl) rfl ?_
  refine wl_load 56 (.tmp 45) (pt kn 2) (pp b.p) rfl rfl (run_one (hS.rc kn _ hkn) 56 2 rfl Try.underlying56 rfl) rfl ?_
  refine wl_mv (.tmp 46) (pp b.p) (fun _ => rfl) rfl rfl ?_
  refine w_nil ?_
  refine xn_then ?_
  refine w_seq ?_
  refine w_reg ?_
  refine wl_mv (.tmp 0) (pt t 0) (fun _ => rfl) rfl rfl ?_
  refine wl_mv (.tmp 4) (pp b.p) (fun _ => rfl) rfl rfl ?_
  refine wl_bsl [(0, (.tmp 48))] [pp b.p] 1 rfl rfl (bs1 b.p) rfl ?_
  intro g1 w4 hk hz hq Q1
  have nd_g1 : ¬ D g1 := fun e => by have := hS.lt e; omega
  replace hS := hS.mo hq
  replace hM := hM.mo hq
  replace M := M.trans hq
  clear hk hz hq
  refine wl_callg 39 [(.tmp 47), (.tmp 49)] _ [pt t 0, .slice (some ⟨g1, 0, none⟩) 1 1] (.tuple #[]) rfl rfl (fun _ _ => by kernel_rfl) (look_n [b.p] g1 hS Q1 nd_g1 (by simp only [List.length_cons, List.length_nil]; omega)) rfl ?_
  intro w5 hF
  have hc1 := cnt_le [b.p]
  simp only [List.length_cons, List.length_nil] at hc1
  obtain ⟨hS2, hM2⟩ := hF
  replace hS := hS2
  replace M := M.tr hM2 (fun _ _ e => Or.inl e)
  replace hM := hM.mk hM2 hS.nb
  clear hS2 hM2 Q1 nd_g1
  refine w_nil ?_
  refine xn_then ?_
  refine w_seq ?_
  refine w_reg ?_
  refine wl_mv (.tmp 1) (pt kn 0) (fun _ => rfl) rfl rfl ?_
  refine wl_nc (.tmp 51) kn 0 rfl rfl rfl ?_
  refine wl_un (fun v => Instr.fieldAt 66 v 0) (.tmp 52) (pt kn 0) (pt kn 0) (fun _ => rfl) rfl (by kernel_rfl) rfl ?_
  refine wl_un (fun v => Instr.fieldAt 64 v 0) (.tmp 53) (pt kn 0) (pt kn 0) (fun _ => rfl) rfl (by kernel_rfl) rfl ?_
  refine wl_load 56 (.tmp 54) (pt kn 0) (pp ((top C9))) rfl rfl (run_one (hS.rc kn _ hkn) 56 0 rfl Try.underlying56 rfl) rfl ?_
  refine wl_mv (.tmp 55) (pp ((top C9))) (fun _ => rfl) rfl rfl ?_
  refine w_nil ?_
  refine xn_then ?_
  refine w_seq ?_
  refine w_reg ?_
  refine wl_mv (.tmp 0) (pt t 0) (fun _ => rfl) rfl rfl ?_
  refine wl_mv (.tmp 5) (pp ((top C9))) (fun _ => rfl) rfl rfl ?_
  refine wl_mv (.tmp 1) (pt kn 0) (fun _ => rfl) rfl rfl ?_
  refine wl_call 41 [(.tmp 58)] _ [pt kn 0] (.int .i64 (if sideC C9 then 1 else 0)) rfl rfl (fun _ _ => by kernel_rfl) (side_c hS hC9 hkn (fun m => (nd_pos hn9).2.2 _ m (by unfold T.ad; simp))) rfl ?_
  intro w6 hq
  replace hS := hS.mo hq
  replace hM := hM.mo hq
  replace M := M.trans hq
  clear hq
  refine wl_mv (.tmp 4) (pp b.p) (fun _ => rfl) rfl rfl ?_
  have hnb := hS.nb
  refine wl_callg 43 [(.tmp 56), (.tmp 57), (.tmp 59), (.tmp 60)] _ [pt t 0, pp ((top C9)), .int .i64 (if sideC C9 then 1 else 0), pp b.p] (.tuple #[]) rfl rfl (fun _ _ => by kernel_rfl) (hangT (tr := b) hS hC9 hR9.2.2 (by have := hn9; simp only [T.ad, List.nil_append] at this; exact nd_drop this)) rfl ?_
  intro w7 hF
  obtain ⟨hT, hM2⟩ := hF
  replace M := M.tr hM2 (fun _ _ e => Or.inl e)
  replace hM := hM.mk hM2 hS.nb
  clear hM2
  refine w_nil ?_
  refine xn_then ?_
  refine w_reg ?_
  refine wl_mv (.tmp 0) (pt t 0) (fun _ => rfl) rfl rfl ?_
  refine wl_mv (.tmp 5) (pp ((top C9))) (fun _ => rfl) rfl rfl ?_
  refine wl_callg 44 [(.tmp 62), (.tmp 63)] _ [pt t 0, pp ((top C9))] (.tuple #[]) rfl rfl (fun _ _ => by kernel_rfl) (settle_n hT hok.2.2 oc9 (by omega) (by omega)) rfl ?_
  intro w8 hF
  obtain ⟨lk2, hk1, hk2, hT2, hM2⟩ := hF
  replace hM := hM.mk hM2 hnb
  replace M := M.tr hM2 (fun _ _ e => Or.inl e)
  clear hM2
  refine w_nil ?_
  exact w_end0 rfl ⟨rfl, Ls, kn, i2, s2, b, lk2, hpl, okL, hLd, hok, by omega, by omega, hlt, by rw [hC9e]; exact hT2, hM, M⟩
end
end Go.Proofs.Ytbmbldloeblbbaa
