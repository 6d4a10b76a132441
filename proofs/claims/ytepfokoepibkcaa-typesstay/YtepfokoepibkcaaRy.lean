/-
  The law of what is read.
-/
import Derived.Test.YtepfokoepibkcaaOc
import Derived.Test.YtepfokoepibkcaaT3
namespace Go.Proofs.Ytepfokoepibkcaa
open Go.RowKit D
section
variable {P : Program} {o : Oper} {n : Nat} {l : List (Nat × Value)} {w : World} {Q : Exit → Act → World → Prop} {K : Act → World → Prop}
theorem wo_callx (g : FuncId) (xs : List Operand) (ats : Array TypeId) (args : List Value) {F : Ending → World → Prop} (ho : o.op = .call { callee := .value (.func g), args := xs.toArray, argTypes := ats }) (hx : xs.map (evl n l) = args)
    (h : ∀ args w, (callFunc g args).run P w = .ok (.enter g args) w)
    (hc : Calls P g args.toArray w F) (hk : ∀ v w', F v w' → ∃ u, v = .returned u ∧ K (fr n (ext l o.dst u)) w') : WO P o n l w K Q := by
  have e : (execOp (evl n l) o).run P w = .ok (.enter g args.toArray) w := by
    obtain ⟨dst, op, ty, pos, after, guard⟩ := o
    simp only at ho
    subst ho hx
    have e2 := execOp_call_go (fr n l) dst g xs.toArray ats ty pos after guard
    rw [fr_eval] at e2
    rw [e2, h]
    simp
  refine ⟨?_⟩
  unfold Oper.wp; rw [fr_eval, e, Oper.upon_enter]
  refine hc.mono ?_
  intro e w' hF
  obtain ⟨u, rfl, hW⟩ := hk e w' hF
  show K _ _
  rw [fr_put]
  exact hW
end
theorem lreads_n (x : Ex) {w : World} (hL : LEx w x) (hz : nd x ≤ 4000000) : Calls Try.prog 4 #[.agg (x.cells).toArray] w fun e9 w' => e9 = .returned (.bool true) ∧ Mo w w' := by
  refine w_enter 11 Try.func4 Try.ntmps4 rfl rfl ?_
  have M : Mo w w := Mo.refl _
  refine w_seq ?_
  refine w_reg ?_
  refine wl_box 38 (.tmp 0) (.agg (x.cells).toArray) (((x.cells).toArray)) rfl rfl (fun _ => by kernel_rfl) rfl ?_
  intro k1 u1 hk hz hq Q1
  have N_k1 : w.heap.size ≤ k1 := by have := M.size; omega
  replace M := M.trans hq
  clear hk hz hq
  refine wl_mv (.const (.bool false)) (.bool false) (fun _ => rfl) rfl rfl ?_
  refine w_nil ?_
  refine xn_then ?_
  refine w_seq ?_
  have hsm : Smos [vq (.bool true), vq (.bool true), vq (.agg (x.cells).toArray), fun u w9 => ∃ pa cap, u = .slice pa (rds x).length cap ∧ SL w9 2 rdc pa (rds x), vq (.agg (x.cells).toArray), fun u w9 => ∃ pa cap, u = .slice pa (rds x).length cap ∧ SL w9 2 rdc pa (rds x), vq (.bool true)] := smos_cons (smo_vq _) (smos_cons (smo_vq _) (smos_cons (smo_vq _) (smos_cons (fun u a b ⟨pa, cap, h1, h2⟩ m => ⟨pa, cap, h1, h2.kp m.kp⟩) (smos_cons (smo_vq _) (smos_cons (fun u a b ⟨pa, cap, h1, h2⟩ m => ⟨pa, cap, h1, h2.kp m.kp⟩) (smos_cons (smo_vq _) (smos_nil)))))))
  have hgr : ∀ a b : World, Mo u1 a → Mo a b → Mo u1 b := fun _ _ h m => h.trans m
  refine w_ogc 7 (fun w9 => Mo u1 w9) [vq (.bool true), vq (.bool true), vq (.agg (x.cells).toArray), fun u w9 => ∃ pa cap, u = .slice pa (rds x).length cap ∧ SL w9 2 rdc pa (rds x), vq (.agg (x.cells).toArray), fun u w9 => ∃ pa cap, u = .slice pa (rds x).length cap ∧ SL w9 2 rdc pa (rds x), vq (.bool true)] [] (by kernel_rfl) (by kernel_rfl) (by kernel_rfl) (by kernel_rfl) rfl (by kernel_rfl) (by kernel_rfl) latec_nil ((Mo.refl _).drew) ?_ ?_
  · refine ea_cons ?_ (ea_cons ?_ (ea_cons ?_ (ea_cons ?_ (ea_cons ?_ (ea_cons ?_ (ea_cons ?_ (ea_nil)))))))
    · refine ⟨fun f wf hG9 hd K hK => ?_⟩
      refine go_run rfl (wo_callx 7 [] _ [] rfl rfl (fun _ _ => by kernel_rfl) (begun_n _) ?_)
      rintro e9 w9 ⟨rfl, q1⟩
      exact ⟨_, rfl, hK _ w9 (hG9.trans q1) rfl (fun j u _ hr9 => hsm j u _ _ hr9 q1)⟩
    · exact oc_eq (.bool true) rfl hgr hsm (fun f wf hG9 hd K hK => go_run rfl (wo_mv (.tmp 3) (.bool true) (fun _ => rfl) (hd 0 rfl) (hK _ (Mo.refl _))))
    · exact oc_eq (.agg (x.cells).toArray) rfl hgr hsm (fun f wf hG9 hd K hK => have Q1 := Q1.mo hG9; go_run (wnt_g rfl rfl rfl (hd 1 rfl) rfl) (wo_load 38 (.tmp 1) (pt k1 0) (.agg (x.cells).toArray) rfl rfl (run_row Q1 38 0 17 (x.cells) rfl Try.underlying38 rfl sz38) (hK _ (Mo.refl _))))
    · refine ⟨fun f wf hG9 hd K hK => ?_⟩
      refine go_run (wnt_g rfl rfl rfl (hd 1 rfl) rfl) (wo_callx 15 [(.tmp 5)] _ [.agg (x.cells).toArray] rfl (li1 (hd 2 rfl)) (fun _ _ => by kernel_rfl) (reads_n x (hL.kp (M.trans hG9).kp) hz) ?_)
      rintro e9 w9 ⟨pa, cap, rfl, q2, q1⟩
      exact ⟨_, rfl, hK _ w9 (hG9.trans q1) ⟨pa, cap, rfl, q2⟩ (fun j u _ hr9 => hsm j u _ _ hr9 q1)⟩
    · exact oc_eq (.agg (x.cells).toArray) rfl hgr hsm (fun f wf hG9 hd K hK => have Q1 := Q1.mo hG9; go_run (wnt_g rfl rfl rfl (hd 1 rfl) rfl) (wo_load 38 (.tmp 1) (pt k1 0) (.agg (x.cells).toArray) rfl rfl (run_row Q1 38 0 17 (x.cells) rfl Try.underlying38 rfl sz38) (hK _ (Mo.refl _))))
    · refine ⟨fun f wf hG9 hd K hK => ?_⟩
      refine go_run (wnt_g rfl rfl rfl (hd 1 rfl) rfl) (wo_callx 16 [(.tmp 7)] _ [.agg (x.cells).toArray] rfl (li1 (hd 4 rfl)) (fun _ _ => by kernel_rfl) (rreads_n x (hL.kp (M.trans hG9).kp) hz) ?_)
      rintro e9 w9 ⟨pa, cap, rfl, q2, q1⟩
      exact ⟨_, rfl, hK _ w9 (hG9.trans q1) ⟨pa, cap, rfl, own_sl (cells := rdc) (fun _ => rfl) (by have := rds_len x; unfold maxLen; omega) q2⟩ (fun j u _ hr9 => hsm j u _ _ hr9 q1)⟩
    · refine ⟨fun f wf hG9 hd K hK => ?_⟩
      obtain ⟨pa, ca, ea, ha⟩ := hd 3 rfl
      obtain ⟨pb, cb, eb, hb⟩ := hd 5 rfl
      refine go_run (wnt_g rfl rfl rfl (hd 1 rfl) rfl) (wo_callx 14 [(.tmp 6), (.tmp 8)] _ [.slice pa (rds x).length ca, .slice pb (rds x).length cb] rfl (li2 ea eb) (fun _ _ => by kernel_rfl) (equal_n ha hb) ?_)
      rintro e9 w9 ⟨rfl, q1⟩
      exact ⟨_, rfl, hK _ w9 (hG9.trans q1) rfl (fun j u _ hr9 => hsm j u _ _ hr9 q1)⟩
  intro f9 u2 hq hR9
  replace Q1 := Q1.mo hq
  replace M := M.trans hq
  clear hq hsm hgr
  refine wl_pick (.tmp 4) (.tmp 9) (.const (.bool false)) true (.bool true) (fun _ => rfl) (hR9 1 rfl) (hR9 6 rfl) rfl ?_
  refine wl_mv (.tmp 10) (.bool true) (fun _ => rfl) rfl rfl ?_
  refine w_nil ?_
  refine xn_then ?_
  refine w_ret ?_
  exact w_ret1 _ (.bool true) rfl rfl ⟨rfl, M⟩
end Go.Proofs.Ytepfokoepibkcaa
