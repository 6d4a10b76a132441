/-
  The tree's settle: all above a place is mended.
-/
import Derived.Test.YtbmbldloeblbbaaBal
namespace Go.Proofs.Ytbmbldloeblbbaa
open Go.RowKit
section
variable {D : Nat → Prop} {w : World} {t mb : Nat} {lk : Int}
theorem settle_n {C : Cx} {tr : T} (hT : TS D w t mb C tr lk) (ot : tr.ok) (oc : okC C) (hb : csz C + tr.sz ≤ 9000) (hlk : 0 ≤ lk ∧ lk + 8 * C.length ≤ 4000000000000000000) :
    Calls Try.prog 44 #[pt t 0, pp (top C)] w fun e w' => e = .returned (.tuple #[]) ∧ ∃ lk', lk ≤ lk' ∧ lk' ≤ lk + 8 * C.length ∧ TS D w' t mb [] (rebuild C tr) lk' ∧ Mk D w w' := by
  refine w_enter 45 Try.func44 Try.ntmps44 rfl rfl ?_
  have M : Mk D w w := Mk.refl _ _
  refine w_block ?_
  refine w_loop (fun m l w1 => ∃ (C1 : Cx) (tr1 : T) (lk1 : Int), m = C1.length ∧ look l 0 = pt t 0 ∧ look l 1 = pp (top C1) ∧ TS D w1 t mb C1 tr1 lk1 ∧ tr1.ok ∧ okC C1 ∧ rebuild C1 tr1 = rebuild C tr ∧ csz C1 + tr1.sz ≤ 9000 ∧ lk ≤ lk1 ∧ lk1 + 8 * C1.length ≤ lk + 8 * C.length ∧ Mk D w w1) _ ⟨C, tr, lk, rfl, rfl, rfl, hT, ot, oc, rfl, hb, Int.le_refl _, Int.le_refl _, M⟩ ?_
  clear M hT ot oc hb
  rintro m l0 wl ⟨C1, tr1, lk1, rfl, e0, e1, hT, ot, oc, hrb, hb, hl1, hl2, M⟩
  cases C1 with
  | nil =>
    refine w_seq ?_
    refine w_seq ?_
    refine w_reg ?_
    refine wl_mv (.tmp 1) (pp none) (fun _ => rfl) e1 rfl ?_
    refine wl_bin (fun x y => do eqGuard .neq 56 (.tmp 6) (.const (.pointer none)) x y; binOp .neq 56 x y) (.tmp 6) (.const (.pointer none)) (pp none) (pp none) (.bool false) (fun _ => rfl) rfl rfl (ne56 none _ _ _) rfl ?_
    refine w_nil ?_
    refine xn_then ?_
    refine w_condF rfl ?_
    refine w_exit ?_
    refine xx_then ?_
    refine xx_then ?_
    refine xx_blk ?_
    exact w_end0 rfl ⟨rfl, lk1, hl1, by simp only [List.length_nil] at hl2; omega, by rw [← hrb]; exact hT, M⟩
  | cons y C1 =>
    obtain ⟨l, r, hj, hbf, ol, or, hsz⟩ := jn_cases y tr1 (oc y (by simp)) ot
    replace hT := hT.up
    rw [hj] at hT
    obtain ⟨R, root, hS, hC, hR, hn⟩ := hT
    obtain ⟨hk, hl, hr⟩ := hR
    have hlk0 : 0 ≤ lk1 := by omega
    have n1 := nd_pos hn
    have hcz : csz (y :: C1) = 1 + y.o.sz + csz C1 := rfl
    have h0l := T.sz_nn l; have h0r := T.sz_nn r; have h0c := csz_nn C1
    simp only [List.length_cons] at hl2
    refine w_seq ?_
    refine w_seq ?_
    refine w_reg ?_
    refine wl_mv (.tmp 1) (pt y.k 0) (fun _ => rfl) e1 rfl ?_
    refine wl_bin (fun x y => do eqGuard .neq 56 (.tmp 6) (.const (.pointer none)) x y; binOp .neq 56 x y) (.tmp 6) (.const (.pointer none)) (pt y.k 0) (pp none) (.bool true) (fun _ => rfl) rfl rfl (ne56 (some y.k) _ _ _) rfl ?_
    refine w_nil ?_
    refine xn_then ?_
    refine w_condT rfl ?_
    refine w_skip ?_
    refine xn_then ?_
    refine w_block ?_
    refine w_seq ?_
    refine w_any 14 [.inl (pt t 0), .inl (pt y.k 0), .inl (pt y.k 0), .inl (pt y.k 0), .inl (pt y.k 0), .inl (pt y.k 1), .inl (pt y.k 1), .inl (pp l.p), .inl (pt y.k 0), .inl (pt y.k 0), .inl (pt y.k 0), .inl (pt y.k 1), .inl (pt y.k 2), .inl (pp r.p)] [0] (by kernel_rfl) (by kernel_rfl) (by kernel_rfl) (by kernel_rfl) rfl (by kernel_rfl) (by kernel_rfl) (late_cons ⟨_, _, rfl, rfl, fun _ _ _ _ h => h, fun f hd => ⟨rfl, la_mv (.tmp 0) (pt t 0) (fun _ => rfl) e0⟩⟩ late_nil) ?_ ?_ ?_
    · exact Ds.none rfl
    · refine ea_cons ?_ (ea_cons ?_ (ea_cons ?_ (ea_cons ?_ (ea_cons ?_ (ea_cons ?_ (ea_cons ?_ (ea_cons ?_ (ea_cons ?_ (ea_cons ?_ (ea_cons ?_ (ea_cons ?_ (ea_cons ?_ (ea_cons ?_ (ea_nil))))))))))))))
      · exact og_eq (pt t 0) rfl (fun f wf hq hd K hK => go_run rfl (wo_mv (.tmp 0) (pt t 0) (fun _ => rfl) e0 (hK _ (Mo.refl _))))
      · exact og_eq (pt y.k 0) rfl (fun f wf hq hd K hK => go_run rfl (wo_mv (.tmp 1) (pt y.k 0) (fun _ => rfl) e1 (hK _ (Mo.refl _))))
      · exact og_eq (pt y.k 0) rfl (fun f wf hq hd K hK => go_run rfl (wo_mv (.tmp 1) (pt y.k 0) (fun _ => rfl) e1 (hK _ (Mo.refl _))))
      · exact og_eq (pt y.k 0) rfl (fun f wf hq hd K hK => go_run rfl (wo_nc (.tmp 10) y.k 0 rfl (hd 2 rfl) (hK _ (Mo.refl _))))
      · exact og_eq (pt y.k 0) rfl (fun f wf hq hd K hK => go_run rfl (wo_un (fun v => Instr.fieldAt 66 v 0) (.tmp 11) (pt y.k 0) (pt y.k 0) (fun _ => rfl) (hd 3 rfl) (by kernel_rfl) (hK _ (Mo.refl _))))
      · exact og_eq (pt y.k 1) rfl (fun f wf hq hd K hK => go_run rfl (wo_un (fun v => Instr.fieldAt 64 v 1) (.tmp 12) (pt y.k 0) (pt y.k 1) (fun _ => rfl) (hd 4 rfl) (by kernel_rfl) (hK _ (Mo.refl _))))
      · exact og_eq (pt y.k 1) rfl (fun f wf hq hd K hK => go_run rfl (wo_bin (fun x y => Instr.indexAt 62 x y) (.tmp 13) (.const (.int .i64 (0))) (pt y.k 1) (.int .i64 (0)) (pt y.k 1) (fun _ => rfl) (hd 5 rfl) rfl (by kernel_rfl) (hK _ (Mo.refl _))))
      · exact og_eq (pp l.p) rfl (fun f wf hq hd K hK => have hS := hS.mo hq; go_run rfl (wo_load 56 (.tmp 14) (pt y.k 1) (pp l.p) rfl (hd 6 rfl) (run_one (hS.rc y.k _ hk) 56 1 rfl Try.underlying56 rfl) (hK _ (Mo.refl _))))
      · exact og_eq (pt y.k 0) rfl (fun f wf hq hd K hK => go_run rfl (wo_mv (.tmp 1) (pt y.k 0) (fun _ => rfl) e1 (hK _ (Mo.refl _))))
      · exact og_eq (pt y.k 0) rfl (fun f wf hq hd K hK => go_run rfl (wo_nc (.tmp 16) y.k 0 rfl (hd 8 rfl) (hK _ (Mo.refl _))))
      · exact og_eq (pt y.k 0) rfl (fun f wf hq hd K hK => go_run rfl (wo_un (fun v => Instr.fieldAt 66 v 0) (.tmp 17) (pt y.k 0) (pt y.k 0) (fun _ => rfl) (hd 9 rfl) (by kernel_rfl) (hK _ (Mo.refl _))))
      · exact og_eq (pt y.k 1) rfl (fun f wf hq hd K hK => go_run rfl (wo_un (fun v => Instr.fieldAt 64 v 1) (.tmp 18) (pt y.k 0) (pt y.k 1) (fun _ => rfl) (hd 10 rfl) (by kernel_rfl) (hK _ (Mo.refl _))))
      · exact og_eq (pt y.k 2) rfl (fun f wf hq hd K hK => go_run rfl (wo_bin (fun x y => Instr.indexAt 62 x y) (.tmp 19) (.const (.int .i64 (1))) (pt y.k 1) (.int .i64 (1)) (pt y.k 2) (fun _ => rfl) (hd 11 rfl) rfl (by kernel_rfl) (hK _ (Mo.refl _))))
      · exact og_eq (pp r.p) rfl (fun f wf hq hd K hK => have hS := hS.mo hq; go_run rfl (wo_load 56 (.tmp 20) (pt y.k 2) (pp r.p) rfl (hd 12 rfl) (run_one (hS.rc y.k _ hk) 56 2 rfl Try.underlying56 rfl) (hK _ (Mo.refl _))))
    intro kf11 w11 hq _ _
    replace hS := hS.mo hq
    replace M := M.trans hq
    clear hq
    refine wl_bsl [(0, (.tmp 9)), (1, (.tmp 15)), (2, (.tmp 21))] [pp (some y.k), pp l.p, pp r.p] 3 rfl rfl (bs3 (some y.k) l.p r.p) rfl ?_
    intro g11 w12 hk hz hq Q11
    have nd_g11 : ¬ D g11 := fun e => by have := hS.lt e; omega
    replace hS := hS.mo hq
    replace M := M.trans hq
    clear hk hz hq
    refine wl_callg 39 [(.tmp 8), (.tmp 22)] _ [pt t 0, .slice (some ⟨g11, 0, none⟩) 3 3] (.tuple #[]) rfl rfl (fun _ _ => by kernel_rfl) (look_n [(some y.k), l.p, r.p] g11 hS Q11 nd_g11 (by simp only [List.length_cons, List.length_nil]; omega)) rfl ?_
    intro w13 hF
    have hc1 := cnt_le [(some y.k), l.p, r.p]
    simp only [List.length_cons, List.length_nil] at hc1
    obtain ⟨hS2, hM2⟩ := hF
    replace hS := hS2
    replace M := M.same hM2
    clear hS2 hM2 Q11 nd_g11
    refine w_nil ?_
    refine xn_then ?_
    refine w_seq ?_
    refine w_reg ?_
    refine wl_mv (.tmp 1) (pt y.k 0) (fun _ => rfl) e1 rfl ?_
    refine wl_nc (.tmp 24) y.k 0 rfl rfl rfl ?_
    refine wl_un (fun v => Instr.fieldAt 66 v 0) (.tmp 25) (pt y.k 0) (pt y.k 0) (fun _ => rfl) rfl (by kernel_rfl) rfl ?_
    refine wl_callg 48 [(.tmp 26)] _ [pt y.k 0] (.tuple #[]) rfl rfl (fun _ _ => by kernel_rfl) (resize_n hS hk (szo_of hl ol) (T.sz_nn l) (by omega) (szo_of hr or) (T.sz_nn r) (by omega)) rfl ?_
    intro w14 hF
    obtain ⟨hS2, hM2⟩ := hF
    replace hS := hS2
    replace M := M.same hM2
    clear hS2 hM2
    obtain ⟨R1, eR1⟩ : ∃ X, X = ud R y.k ⟨(top C1), l.p, r.p, (1 + l.sz + r.sz), (y.i)⟩ := ⟨_, rfl⟩
    rw [← eR1] at hS
    have hk : R1 y.k = some ⟨(top C1), l.p, r.p, (1 + l.sz + r.sz), (y.i)⟩ := by rw [eR1]; exact ud_same _ _ _
    have hnk : y.k ∉ adC C1 := fun m => n1.2.2 _ m (by unfold T.ad; simp)
    have hn2 := n1.2.1
    unfold T.ad at hn2
    have hn3 := List.nodup_cons.1 hn2
    replace hC : RepC R1 root C1 (some y.k) := by rw [eR1]; exact hC.ud hnk
    replace hl : Rep R1 (some y.k) l := by rw [eR1]; exact hl.ud (fun m => hn3.1 (by simp [m]))
    replace hr : Rep R1 (some y.k) r := by rw [eR1]; exact hr.ud (fun m => hn3.1 (by simp [m]))
    refine w_nil ?_
    refine xn_then ?_
    refine w_seq ?_
    refine w_seq ?_
    cases hf0 : decide (3 * (r.sz + 1) < l.sz + 1) with
    | true =>
      have hf0p := of_decide_eq_true hf0
      refine w_reg ?_
      refine wl_mv (.tmp 1) (pt y.k 0) (fun _ => rfl) e1 rfl ?_
      refine wl_nc (.tmp 29) y.k 0 rfl rfl rfl ?_
      refine wl_un (fun v => Instr.fieldAt 66 v 0) (.tmp 30) (pt y.k 0) (pt y.k 0) (fun _ => rfl) rfl (by kernel_rfl) rfl ?_
      refine wl_call 49 [(.tmp 31)] _ [pt y.k 0] (.tuple #[.int .i64 (0), .bool true]) rfl rfl (fun _ _ => by kernel_rfl) (heavy_L hS hk (szo_of hl ol) (T.sz_nn l) (by omega) (szo_of hr or) (T.sz_nn r) (by omega) hf0) rfl ?_
      intro w15 hq
      replace hS := hS.mo hq
      replace M := M.trans hq
      clear hq
      refine wl_mv (.tmp 32) (.tuple #[.int .i64 (0), .bool true]) (fun _ => rfl) rfl rfl ?_
      refine wl_un (fun v => Instr.extract v 0) (.tmp 28) (.tuple #[.int .i64 (0), .bool true]) (.int .i64 (0)) (fun _ => rfl) rfl (by kernel_rfl) rfl ?_
      refine wl_un (fun v => Instr.extract v 1) (.tmp 28) (.tuple #[.int .i64 (0), .bool true]) (.bool true) (fun _ => rfl) rfl (by kernel_rfl) rfl ?_
      refine wl_mv (.tmp 33) (.int .i64 (0)) (fun _ => rfl) rfl rfl ?_
      refine wl_mv (.tmp 34) (.bool true) (fun _ => rfl) rfl rfl ?_
      refine w_nil ?_
      refine xn_then ?_
      refine w_seq ?_
      refine w_reg ?_
      refine wl_mv (.tmp 5) (.bool true) (fun _ => rfl) rfl rfl ?_
      refine w_nil ?_
      refine xn_then ?_
      refine w_condT rfl ?_
      refine w_reg ?_
      refine wl_mv (.tmp 0) (pt t 0) (fun _ => rfl) e0 rfl ?_
      refine wl_mv (.tmp 1) (pt y.k 0) (fun _ => rfl) e1 rfl ?_
      refine wl_mv (.tmp 4) (.int .i64 (0)) (fun _ => rfl) rfl rfl ?_
      obtain ⟨j, hjp⟩ := lightL_p y.k y.i l r
      refine wl_callg 50 [(.tmp 36), (.tmp 37), (.tmp 38)] _ [pt t 0, pt y.k 0, .int .i64 (0)] (pt j 0) rfl rfl (fun _ _ => by kernel_rfl) (lightL_n (⟨R1, root, hS, hC, ⟨hk, hl, hr⟩, hn⟩ : TS D _ t mb C1 (.n y.k y.i (1 + l.sz + r.sz) l r) _) ol or (of_decide_eq_true hf0) (by omega) (by omega) (by omega) hjp) rfl ?_
      intro w16 hF
      obtain ⟨lk2, hk1, hk2, hT2, hM2⟩ := hF
      replace M := M.same hM2
      clear hM2
      obtain ⟨R9, root9, hS9, hC9, hR9, hn9⟩ := hT2
      obtain ⟨jl, jr, js, ji, hjr⟩ := hR9.rt2 hjp
      replace hS := hS9
      clear hS9
      refine wl_mv (.tmp 39) (pt j 0) (fun _ => rfl) rfl rfl ?_
      refine w_nil ?_
      refine xn_then ?_
      refine w_reg ?_
      refine wl_mv (.tmp 1) (pt j 0) (fun _ => rfl) rfl rfl ?_
      refine wl_nc (.tmp 40) j 0 rfl rfl rfl ?_
      refine wl_un (fun v => Instr.fieldAt 66 v 0) (.tmp 41) (pt j 0) (pt j 0) (fun _ => rfl) rfl (by kernel_rfl) rfl ?_
      refine wl_un (fun v => Instr.fieldAt 64 v 0) (.tmp 42) (pt j 0) (pt j 0) (fun _ => rfl) rfl (by kernel_rfl) rfl ?_
      refine wl_load 56 (.tmp 43) (pt j 0) (pp (top C1)) rfl rfl (run_one (hS.rc j _ hjr) 56 0 rfl Try.underlying56 rfl) rfl ?_
      refine wl_mv (.tmp 44) (pp (top C1)) (fun _ => rfl) rfl rfl ?_
      refine w_nil ?_
      refine xn_blk ?_
      have hbe : balF y tr1 = (lightL y.k y.i l r) := by rw [hbf]; unfold bal; rw [if_pos (of_decide_eq_true hf0)]
      exact xn_loop C1.length (by simp) ⟨C1, (lightL y.k y.i l r), lk2, rfl, e0, rfl, ⟨R9, root9, hS, hC9, hR9, hn9⟩, by rw [← hbe]; exact balF_ok (oc y (by simp)) ot, fun g hg => oc g (by simp [hg]), by rw [← hrb, ← hbe]; rfl, by rw [← hbe, balF_sz]; omega, by omega, by omega, M⟩
    | false =>
      have hf0p := of_decide_eq_false hf0
      cases hf1 : decide (3 * (l.sz + 1) < r.sz + 1) with
      | true =>
        have hf1p := of_decide_eq_true hf1
        refine w_reg ?_
        refine wl_mv (.tmp 1) (pt y.k 0) (fun _ => rfl) e1 rfl ?_
        refine wl_nc (.tmp 29) y.k 0 rfl rfl rfl ?_
        refine wl_un (fun v => Instr.fieldAt 66 v 0) (.tmp 30) (pt y.k 0) (pt y.k 0) (fun _ => rfl) rfl (by kernel_rfl) rfl ?_
        refine wl_call 49 [(.tmp 31)] _ [pt y.k 0] (.tuple #[.int .i64 (1), .bool true]) rfl rfl (fun _ _ => by kernel_rfl) (heavy_R hS hk (szo_of hl ol) (T.sz_nn l) (by omega) (szo_of hr or) (T.sz_nn r) (by omega) hf0 hf1) rfl ?_
        intro w15 hq
        replace hS := hS.mo hq
        replace M := M.trans hq
        clear hq
        refine wl_mv (.tmp 32) (.tuple #[.int .i64 (1), .bool true]) (fun _ => rfl) rfl rfl ?_
        refine wl_un (fun v => Instr.extract v 0) (.tmp 28) (.tuple #[.int .i64 (1), .bool true]) (.int .i64 (1)) (fun _ => rfl) rfl (by kernel_rfl) rfl ?_
        refine wl_un (fun v => Instr.extract v 1) (.tmp 28) (.tuple #[.int .i64 (1), .bool true]) (.bool true) (fun _ => rfl) rfl (by kernel_rfl) rfl ?_
        refine wl_mv (.tmp 33) (.int .i64 (1)) (fun _ => rfl) rfl rfl ?_
        refine wl_mv (.tmp 34) (.bool true) (fun _ => rfl) rfl rfl ?_
        refine w_nil ?_
        refine xn_then ?_
        refine w_seq ?_
        refine w_reg ?_
        refine wl_mv (.tmp 5) (.bool true) (fun _ => rfl) rfl rfl ?_
        refine w_nil ?_
        refine xn_then ?_
        refine w_condT rfl ?_
        refine w_reg ?_
        refine wl_mv (.tmp 0) (pt t 0) (fun _ => rfl) e0 rfl ?_
        refine wl_mv (.tmp 1) (pt y.k 0) (fun _ => rfl) e1 rfl ?_
        refine wl_mv (.tmp 4) (.int .i64 (1)) (fun _ => rfl) rfl rfl ?_
        obtain ⟨j, hjp⟩ := lightR_p y.k y.i l r
        refine wl_callg 50 [(.tmp 36), (.tmp 37), (.tmp 38)] _ [pt t 0, pt y.k 0, .int .i64 (1)] (pt j 0) rfl rfl (fun _ _ => by kernel_rfl) (lightR_n (⟨R1, root, hS, hC, ⟨hk, hl, hr⟩, hn⟩ : TS D _ t mb C1 (.n y.k y.i (1 + l.sz + r.sz) l r) _) ol or (of_decide_eq_true hf1) (by omega) (by omega) (by omega) hjp) rfl ?_
        intro w16 hF
        obtain ⟨lk2, hk1, hk2, hT2, hM2⟩ := hF
        replace M := M.same hM2
        clear hM2
        obtain ⟨R9, root9, hS9, hC9, hR9, hn9⟩ := hT2
        obtain ⟨jl, jr, js, ji, hjr⟩ := hR9.rt2 hjp
        replace hS := hS9
        clear hS9
        refine wl_mv (.tmp 39) (pt j 0) (fun _ => rfl) rfl rfl ?_
        refine w_nil ?_
        refine xn_then ?_
        refine w_reg ?_
        refine wl_mv (.tmp 1) (pt j 0) (fun _ => rfl) rfl rfl ?_
        refine wl_nc (.tmp 40) j 0 rfl rfl rfl ?_
        refine wl_un (fun v => Instr.fieldAt 66 v 0) (.tmp 41) (pt j 0) (pt j 0) (fun _ => rfl) rfl (by kernel_rfl) rfl ?_
        refine wl_un (fun v => Instr.fieldAt 64 v 0) (.tmp 42) (pt j 0) (pt j 0) (fun _ => rfl) rfl (by kernel_rfl) rfl ?_
        refine wl_load 56 (.tmp 43) (pt j 0) (pp (top C1)) rfl rfl (run_one (hS.rc j _ hjr) 56 0 rfl Try.underlying56 rfl) rfl ?_
        refine wl_mv (.tmp 44) (pp (top C1)) (fun _ => rfl) rfl rfl ?_
        refine w_nil ?_
        refine xn_blk ?_
        have hbe : balF y tr1 = (lightR y.k y.i l r) := by rw [hbf]; unfold bal; rw [if_neg (of_decide_eq_false hf0), if_pos (of_decide_eq_true hf1)]
        exact xn_loop C1.length (by simp) ⟨C1, (lightR y.k y.i l r), lk2, rfl, e0, rfl, ⟨R9, root9, hS, hC9, hR9, hn9⟩, by rw [← hbe]; exact balF_ok (oc y (by simp)) ot, fun g hg => oc g (by simp [hg]), by rw [← hrb, ← hbe]; rfl, by rw [← hbe, balF_sz]; omega, by omega, by omega, M⟩
      | false =>
        have hf1p := of_decide_eq_false hf1
        refine w_reg ?_
        refine wl_mv (.tmp 1) (pt y.k 0) (fun _ => rfl) e1 rfl ?_
        refine wl_nc (.tmp 29) y.k 0 rfl rfl rfl ?_
        refine wl_un (fun v => Instr.fieldAt 66 v 0) (.tmp 30) (pt y.k 0) (pt y.k 0) (fun _ => rfl) rfl (by kernel_rfl) rfl ?_
        refine wl_call 49 [(.tmp 31)] _ [pt y.k 0] (.tuple #[.int .i64 (1), .bool false]) rfl rfl (fun _ _ => by kernel_rfl) (heavy_R hS hk (szo_of hl ol) (T.sz_nn l) (by omega) (szo_of hr or) (T.sz_nn r) (by omega) hf0 hf1) rfl ?_
        intro w15 hq
        replace hS := hS.mo hq
        replace M := M.trans hq
        clear hq
        refine wl_mv (.tmp 32) (.tuple #[.int .i64 (1), .bool false]) (fun _ => rfl) rfl rfl ?_
        refine wl_un (fun v => Instr.extract v 0) (.tmp 28) (.tuple #[.int .i64 (1), .bool false]) (.int .i64 (1)) (fun _ => rfl) rfl (by kernel_rfl) rfl ?_
        refine wl_un (fun v => Instr.extract v 1) (.tmp 28) (.tuple #[.int .i64 (1), .bool false]) (.bool false) (fun _ => rfl) rfl (by kernel_rfl) rfl ?_
        refine wl_mv (.tmp 33) (.int .i64 (1)) (fun _ => rfl) rfl rfl ?_
        refine wl_mv (.tmp 34) (.bool false) (fun _ => rfl) rfl rfl ?_
        refine w_nil ?_
        refine xn_then ?_
        refine w_seq ?_
        refine w_reg ?_
        refine wl_mv (.tmp 5) (.bool false) (fun _ => rfl) rfl rfl ?_
        refine w_nil ?_
        refine xn_then ?_
        refine w_condF rfl ?_
        refine w_skip ?_
        refine xn_then ?_
        refine w_reg ?_
        refine wl_mv (.tmp 1) (pt y.k 0) (fun _ => rfl) e1 rfl ?_
        refine wl_nc (.tmp 40) y.k 0 rfl rfl rfl ?_
        refine wl_un (fun v => Instr.fieldAt 66 v 0) (.tmp 41) (pt y.k 0) (pt y.k 0) (fun _ => rfl) rfl (by kernel_rfl) rfl ?_
        refine wl_un (fun v => Instr.fieldAt 64 v 0) (.tmp 42) (pt y.k 0) (pt y.k 0) (fun _ => rfl) rfl (by kernel_rfl) rfl ?_
        refine wl_load 56 (.tmp 43) (pt y.k 0) (pp (top C1)) rfl rfl (run_one (hS.rc y.k _ hk) 56 0 rfl Try.underlying56 rfl) rfl ?_
        refine wl_mv (.tmp 44) (pp (top C1)) (fun _ => rfl) rfl rfl ?_
        refine w_nil ?_
        refine xn_blk ?_
        have hbe : balF y tr1 = (.n y.k y.i (1 + l.sz + r.sz) l r) := by rw [hbf]; unfold bal; rw [if_neg (of_decide_eq_false hf0), if_neg (of_decide_eq_false hf1)]
        exact xn_loop C1.length (by simp) ⟨C1, (.n y.k y.i (1 + l.sz + r.sz) l r), ((lk1) + cnt [(some y.k), l.p, r.p]), rfl, e0, rfl, ⟨R1, root, hS, hC, ⟨hk, hl, hr⟩, hn⟩, by rw [← hbe]; exact balF_ok (oc y (by simp)) ot, fun g hg => oc g (by simp [hg]), by rw [← hrb, ← hbe]; rfl, by rw [← hbe, balF_sz]; omega, by omega, by omega, M⟩
end
end Go.Proofs.Ytbmbldloeblbbaa
