/-
  The tree's lighten: a single or a double turn.
-/
import Derived.Test.YtbmbldloeblbbaaTd
namespace Go.Proofs.Ytbmbldloeblbbaa
open Go.RowKit
section
variable {D : Nat → Prop} {w : World} {t mb : Nat} {R : Mp} {root : Option Nat} {lk : Int}
theorem Fr.jn_ad (f : Fr) (tr : T) : List.Perm (f.jn tr).ad (f.k :: (f.o.ad ++ tr.ad)) := by
  unfold Fr.jn
  cases f.d with
  | true => exact List.Perm.refl _
  | false => exact List.Perm.cons _ List.perm_append_comm
theorem ad_up (f : Fr) (C : Cx) (tr : T) : List.Perm (adC (f :: C) ++ tr.ad) (adC C ++ (f.jn tr).ad) := by
  have e : adC (f :: C) = f.k :: (f.o.ad ++ adC C) := rfl
  rw [e]
  refine List.Perm.trans ?_ (List.Perm.append_left _ (f.jn_ad tr).symm)
  refine List.Perm.trans ?_ List.perm_middle.symm
  rw [List.cons_append]
  refine List.Perm.cons _ ?_
  rw [← List.append_assoc]
  exact List.Perm.append_right _ List.perm_append_comm
theorem Fr.jn_p (f : Fr) (tr : T) : (f.jn tr).p = some f.k := by unfold Fr.jn; cases f.d <;> rfl
theorem TS.up {f : Fr} {C : Cx} {tr : T} (h : TS D w t mb (f :: C) tr lk) : TS D w t mb C (f.jn tr) lk := by
  obtain ⟨R, root, hS, hC, hR, hn⟩ := h
  refine ⟨R, root, hS, by rw [f.jn_p]; exact hC.2.2, ?_, (ad_up f C tr).nodup_iff.1 hn⟩
  have h1 := hC.1
  unfold Fr.rc at h1
  unfold Fr.jn
  cases hd : f.d with
  | true => rw [hd] at h1; exact ⟨h1, hC.2.1, hR⟩
  | false => rw [hd] at h1; exact ⟨h1, hR, hC.2.1⟩
theorem TS.dn {f : Fr} {C : Cx} {tr : T} (h : TS D w t mb C (f.jn tr) lk) : TS D w t mb (f :: C) tr lk := by
  obtain ⟨R, root, hS, hC, hR, hn⟩ := h
  rw [f.jn_p] at hC
  refine ⟨R, root, hS, ?_, ?_, (ad_up f C tr).nodup_iff.2 hn⟩
  · unfold Fr.jn at hR
    unfold RepC Fr.rc
    cases hd : f.d with
    | true => rw [hd] at hR; exact ⟨hR.1, hR.2.1, hC⟩
    | false => rw [hd] at hR; exact ⟨hR.1, hR.2.2, hC⟩
  · unfold Fr.jn at hR
    cases hd : f.d with
    | true => rw [hd] at hR; exact hR.2.2
    | false => rw [hd] at hR; exact hR.2.1
theorem lightS0 {C : Cx} {k kk : Nat} {i s ii ss : Int} {a b r : T} (h : TS D w t mb C (.n k i s (.n kk ii ss a b) r) lk) (oa : a.ok) (ob : b.ok) (or : r.ok) (ba : a.sz ≤ 10000) (bb : b.sz ≤ 10000) (br : r.sz ≤ 10000) (hge : decide (2 * (a.sz + 1) ≤ b.sz + 1) = false) (hlk : 0 ≤ lk ∧ lk ≤ 4000000000000000000) :
    Calls Try.prog 50 #[pt t 0, pt k 0, .int .i64 0] w fun e w' => e = .returned (pt kk 0) ∧ ∃ lk', lk ≤ lk' ∧ lk' ≤ lk + 5 ∧ TS D w' t mb C (.n kk ii (1 + a.sz + (1 + b.sz + r.sz)) a (.n k i (1 + b.sz + r.sz) b r)) lk' ∧ Mk D w w' := by
  obtain ⟨R, root, hS, hC, hR, hn⟩ := h
  have hR0 := hR
  obtain ⟨hk, ⟨hkk, ha, hb⟩, hr⟩ := hR
  have hR := hR0
  have h0a := T.sz_nn a; have h0r := T.sz_nn r; have h0b := T.sz_nn b
  refine w_enter 72 Try.func50 Try.ntmps50 rfl rfl ?_
  have M : Mk D w w := Mk.refl _ _
  refine w_seq ?_
  refine w_reg ?_
  refine wl_mv (.const (.pointer none)) (pp none) (fun _ => rfl) rfl rfl ?_
  refine w_nil ?_
  refine xn_then ?_
  refine w_seq ?_
  refine w_reg ?_
  refine wl_mv (.tmp 1) (pt k 0) (fun _ => rfl) rfl rfl ?_
  refine wl_mv (.tmp 2) (.int .i64 (0)) (fun _ => rfl) rfl rfl ?_
  refine wl_nc (.tmp 10) k 0 rfl rfl rfl ?_
  refine wl_un (fun v => Instr.fieldAt 66 v 0) (.tmp 12) (pt k 0) (pt k 0) (fun _ => rfl) rfl (by kernel_rfl) rfl ?_
  refine wl_un (fun v => Instr.fieldAt 64 v 1) (.tmp 13) (pt k 0) (pt k 1) (fun _ => rfl) rfl (by kernel_rfl) rfl ?_
  refine wl_bin (fun x y => Instr.indexAt 62 x y) (.tmp 14) (.tmp 11) (pt k 1) (.int .i64 (0)) (pt k 1) (fun _ => rfl) rfl rfl (by kernel_rfl) rfl ?_
  refine wl_load 56 (.tmp 15) (pt k 1) (pt kk 0) rfl rfl (run_one (hS.rc k _ hk) 56 1 rfl Try.underlying56 rfl) rfl ?_
  refine wl_mv (.tmp 16) (pt kk 0) (fun _ => rfl) rfl rfl ?_
  refine w_nil ?_
  refine xn_then ?_
  refine w_seq ?_
  refine w_any 16 [.inl (pt kk 0), .inl (.int .i64 (0)), .inl (.int .i64 (1)), .inl (pt kk 0), .inl (pt kk 0), .inl (pt kk 1), .inl (pt kk 2), .inl (pp b.p), .inl (pt kk 0), .inl (.int .i64 (0)), .inl (pt kk 0), .inl (pt kk 0), .inl (pt kk 1), .inl (pt kk 1), .inl (pp a.p), .inl (pp b.p)] [] (by kernel_rfl) (by kernel_rfl) (by kernel_rfl) (by kernel_rfl) rfl (by kernel_rfl) (by kernel_rfl) late_nil ?_ ?_ ?_
  · exact Ds.none rfl
  · refine ea_cons ?_ (ea_cons ?_ (ea_cons ?_ (ea_cons ?_ (ea_cons ?_ (ea_cons ?_ (ea_cons ?_ (ea_cons ?_ (ea_cons ?_ (ea_cons ?_ (ea_cons ?_ (ea_cons ?_ (ea_cons ?_ (ea_cons ?_ (ea_cons ?_ (ea_cons ?_ (ea_nil))))))))))))))))
    · exact og_eq (pt kk 0) rfl (fun f wf hq hd K hK => go_run rfl (wo_mv (.tmp 7) (pt kk 0) (fun _ => rfl) rfl (hK _ (Mo.refl _))))
    · exact og_eq (.int .i64 (0)) rfl (fun f wf hq hd K hK => go_run rfl (wo_mv (.tmp 2) (.int .i64 (0)) (fun _ => rfl) rfl (hK _ (Mo.refl _))))
    · exact og_eq (.int .i64 (1)) rfl (fun f wf hq hd K hK => go_run rfl (wo_bin (fun x y => do eqGuard .sub 3 (.const (.int .i64 (1))) (.tmp 18) x y; binOp .sub 3 x y) (.const (.int .i64 (1))) (.tmp 18) (.int .i64 (1)) (.int .i64 (0)) (.int .i64 (1)) (fun _ => rfl) rfl (hd 1 rfl) (subI (a := 1) (b := 0) (by decide) (by decide) _ _ _) (hK _ (Mo.refl _))))
    · exact og_eq (pt kk 0) rfl (fun f wf hq hd K hK => go_run rfl (wo_nc (.tmp 17) kk 0 rfl (hd 0 rfl) (hK _ (Mo.refl _))))
    · exact og_eq (pt kk 0) rfl (fun f wf hq hd K hK => go_run rfl (wo_un (fun v => Instr.fieldAt 66 v 0) (.tmp 20) (pt kk 0) (pt kk 0) (fun _ => rfl) (hd 3 rfl) (by kernel_rfl) (hK _ (Mo.refl _))))
    · exact og_eq (pt kk 1) rfl (fun f wf hq hd K hK => go_run rfl (wo_un (fun v => Instr.fieldAt 64 v 1) (.tmp 21) (pt kk 0) (pt kk 1) (fun _ => rfl) (hd 4 rfl) (by kernel_rfl) (hK _ (Mo.refl _))))
    · exact og_eq (pt kk 2) rfl (fun f wf hq hd K hK => go_run rfl (wo_bin (fun x y => Instr.indexAt 62 x y) (.tmp 22) (.tmp 19) (pt kk 1) (.int .i64 (1)) (pt kk 2) (fun _ => rfl) (hd 5 rfl) (hd 2 rfl) (by kernel_rfl) (hK _ (Mo.refl _))))
    · exact og_eq (pp b.p) rfl (fun f wf hq hd K hK => have hS := hS.mo hq; go_run rfl (wo_load 56 (.tmp 23) (pt kk 2) (pp b.p) rfl (hd 6 rfl) (run_one (hS.rc kk _ hkk) 56 2 rfl Try.underlying56 rfl) (hK _ (Mo.refl _))))
    · exact og_eq (pt kk 0) rfl (fun f wf hq hd K hK => go_run rfl (wo_mv (.tmp 7) (pt kk 0) (fun _ => rfl) rfl (hK _ (Mo.refl _))))
    · exact og_eq (.int .i64 (0)) rfl (fun f wf hq hd K hK => go_run rfl (wo_mv (.tmp 2) (.int .i64 (0)) (fun _ => rfl) rfl (hK _ (Mo.refl _))))
    · exact og_eq (pt kk 0) rfl (fun f wf hq hd K hK => go_run rfl (wo_nc (.tmp 25) kk 0 rfl (hd 8 rfl) (hK _ (Mo.refl _))))
    · exact og_eq (pt kk 0) rfl (fun f wf hq hd K hK => go_run rfl (wo_un (fun v => Instr.fieldAt 66 v 0) (.tmp 27) (pt kk 0) (pt kk 0) (fun _ => rfl) (hd 10 rfl) (by kernel_rfl) (hK _ (Mo.refl _))))
    · exact og_eq (pt kk 1) rfl (fun f wf hq hd K hK => go_run rfl (wo_un (fun v => Instr.fieldAt 64 v 1) (.tmp 28) (pt kk 0) (pt kk 1) (fun _ => rfl) (hd 11 rfl) (by kernel_rfl) (hK _ (Mo.refl _))))
    · exact og_eq (pt kk 1) rfl (fun f wf hq hd K hK => go_run rfl (wo_bin (fun x y => Instr.indexAt 62 x y) (.tmp 29) (.tmp 26) (pt kk 1) (.int .i64 (0)) (pt kk 1) (fun _ => rfl) (hd 12 rfl) (hd 9 rfl) (by kernel_rfl) (hK _ (Mo.refl _))))
    · exact og_eq (pp a.p) rfl (fun f wf hq hd K hK => have hS := hS.mo hq; go_run rfl (wo_load 56 (.tmp 30) (pt kk 1) (pp a.p) rfl (hd 13 rfl) (run_one (hS.rc kk _ hkk) 56 1 rfl Try.underlying56 rfl) (hK _ (Mo.refl _))))
    · exact og_eq (pp b.p) rfl (fun f wf hq hd K hK => go_run rfl (wo_mv (.tmp 24) (pp b.p) (fun _ => rfl) (hd 7 rfl) (hK _ (Mo.refl _))))
  intro kf1 w1 hq _ _
  replace hS := hS.mo hq
  replace M := M.trans hq
  clear hq
  refine wl_mv (.tmp 31) (pp a.p) (fun _ => rfl) rfl rfl ?_
  refine w_nil ?_
  refine xn_then ?_
  refine w_seq ?_
  refine w_reg ?_
  refine wl_mv (.tmp 0) (pt t 0) (fun _ => rfl) rfl rfl ?_
  refine wl_mv (.tmp 1) (pt k 0) (fun _ => rfl) rfl rfl ?_
  refine wl_nc (.tmp 33) k 0 rfl rfl rfl ?_
  refine wl_un (fun v => Instr.fieldAt 66 v 0) (.tmp 34) (pt k 0) (pt k 0) (fun _ => rfl) rfl (by kernel_rfl) rfl ?_
  refine wl_un (fun v => Instr.fieldAt 64 v 0) (.tmp 35) (pt k 0) (pt k 0) (fun _ => rfl) rfl (by kernel_rfl) rfl ?_
  refine wl_load 56 (.tmp 36) (pt k 0) (pp (top C)) rfl rfl (run_one (hS.rc k _ hk) 56 0 rfl Try.underlying56 rfl) rfl ?_
  refine wl_mv (.tmp 8) (pp b.p) (fun _ => rfl) rfl rfl ?_
  refine wl_mv (.tmp 9) (pp a.p) (fun _ => rfl) rfl rfl ?_
  refine wl_bsl [(0, (.tmp 37)), (1, (.tmp 38)), (2, (.tmp 39))] [pp (top C), pp b.p, pp a.p] 3 rfl rfl (bs3 (top C) b.p a.p) rfl ?_
  intro g1 w2 hk hz hq Q1
  have nd_g1 : ¬ D g1 := fun e => by have := hS.lt e; omega
  replace hS := hS.mo hq
  replace M := M.trans hq
  clear hk hz hq
  refine wl_callg 39 [(.tmp 32), (.tmp 40)] _ [pt t 0, .slice (some ⟨g1, 0, none⟩) 3 3] (.tuple #[]) rfl rfl (fun _ _ => by kernel_rfl) (look_n [(top C), b.p, a.p] g1 hS Q1 nd_g1 (by simp only [List.length_cons, List.length_nil]; omega)) rfl ?_
  intro w3 hF
  have hc1 := cnt_le [(top C), b.p, a.p]
  simp only [List.length_cons, List.length_nil] at hc1
  obtain ⟨hS2, hM2⟩ := hF
  replace hS := hS2
  replace M := M.same hM2
  clear hS2 hM2 Q1 nd_g1
  refine w_nil ?_
  refine xn_then ?_
  refine w_seq ?_
  refine w_seq ?_
  refine w_reg ?_
  refine wl_mv (.tmp 8) (pp b.p) (fun _ => rfl) rfl rfl ?_
  refine wl_call 51 [(.tmp 42)] _ [pp b.p] (.int .i64 (b.sz + 1)) rfl rfl (fun _ _ => by kernel_rfl) (weight_o hS (szo_of hb ob) h0b (by omega)) rfl ?_
  intro w4 hq
  replace hS := hS.mo hq
  replace M := M.trans hq
  clear hq
  refine wl_mv (.tmp 9) (pp a.p) (fun _ => rfl) rfl rfl ?_
  refine wl_call 51 [(.tmp 44)] _ [pp a.p] (.int .i64 (a.sz + 1)) rfl rfl (fun _ _ => by kernel_rfl) (weight_o hS (szo_of ha oa) h0a (by omega)) rfl ?_
  intro w5 hq
  replace hS := hS.mo hq
  replace M := M.trans hq
  clear hq
  refine wl_bin (fun x y => do eqGuard .mul 3 (.const (.int .i64 (2))) (.tmp 45) x y; binOp .mul 3 x y) (.const (.int .i64 (2))) (.tmp 45) (.int .i64 (2)) (.int .i64 (a.sz + 1)) (.int .i64 (2 * (a.sz + 1))) (fun _ => rfl) rfl rfl (mulI (by omega) (by omega) _ _ _) rfl ?_
  refine wl_bin (fun x y => do eqGuard .geq 3 (.tmp 43) (.tmp 46) x y; binOp .geq 3 x y) (.tmp 43) (.tmp 46) (.int .i64 (b.sz + 1)) (.int .i64 (2 * (a.sz + 1))) (.bool false) (fun _ => rfl) rfl rfl (geI hge _ _ _) rfl ?_
  refine w_nil ?_
  refine xn_then ?_
  refine w_condF rfl ?_
  refine w_skip ?_
  refine xn_then ?_
  refine w_seq ?_
  refine w_reg ?_
  refine wl_mv (.tmp 0) (pt t 0) (fun _ => rfl) rfl rfl ?_
  refine wl_mv (.tmp 1) (pt k 0) (fun _ => rfl) rfl rfl ?_
  refine wl_mv (.tmp 2) (.int .i64 (0)) (fun _ => rfl) rfl rfl ?_
  refine wl_callg 52 [(.tmp 68), (.tmp 69), (.tmp 70)] _ [pt t 0, pt k 0, .int .i64 (0)] (pt kk 0) rfl rfl (fun _ _ => by kernel_rfl) (turnL ⟨R, root, hS, hC, hR, hn⟩ oa ob or (by omega) (by omega) (by omega)) rfl ?_
  intro w6 hF
  obtain ⟨hT, hM2⟩ := hF
  replace M := M.same hM2
  clear hM2
  refine wl_mv (.tmp 71) (pt kk 0) (fun _ => rfl) rfl rfl ?_
  refine w_nil ?_
  refine xn_then ?_
  refine w_ret ?_
  exact w_ret1 _ (pt kk 0) rfl rfl ⟨rfl, ((lk) + cnt [(top C), b.p, a.p]), by omega, by omega, hT, M⟩
theorem lightD0 {C : Cx} {k kk j : Nat} {i s ii ss jj js : Int} {a c z r : T} (h : TS D w t mb C (.n k i s (.n kk ii ss a (.n j jj js c z)) r) lk) (oa : a.ok) (ob : (T.n j jj js c z).ok) (or : r.ok) (ba : a.sz ≤ 10000) (bb : c.sz ≤ 10000 ∧ z.sz ≤ 10000) (br : r.sz ≤ 10000) (hge : decide (2 * (a.sz + 1) ≤ (1 + c.sz + z.sz) + 1) = true) (hlk : 0 ≤ lk ∧ lk ≤ 4000000000000000000) :
    Calls Try.prog 50 #[pt t 0, pt k 0, .int .i64 0] w fun e w' => e = .returned (pt j 0) ∧ ∃ lk', lk ≤ lk' ∧ lk' ≤ lk + 5 ∧ TS D w' t mb C (.n j jj (1 + (1 + a.sz + c.sz) + (1 + z.sz + r.sz)) (.n kk ii (1 + a.sz + c.sz) a c) (.n k i (1 + z.sz + r.sz) z r)) lk' ∧ Mk D w w' := by
  obtain ⟨R, root, hS, hC, hR, hn⟩ := h
  have hR0 := hR
  obtain ⟨hk, ⟨hkk, ha, hj, hcc, hz⟩, hr⟩ := hR
  have hR := hR0
  have h0a := T.sz_nn a; have h0r := T.sz_nn r; have h0c := T.sz_nn c; have h0z := T.sz_nn z
  refine w_enter 72 Try.func50 Try.ntmps50 rfl rfl ?_
  have M : Mk D w w := Mk.refl _ _
  refine w_seq ?_
  refine w_reg ?_
  refine wl_mv (.const (.pointer none)) (pp none) (fun _ => rfl) rfl rfl ?_
  refine w_nil ?_
  refine xn_then ?_
  refine w_seq ?_
  refine w_reg ?_
  refine wl_mv (.tmp 1) (pt k 0) (fun _ => rfl) rfl rfl ?_
  refine wl_mv (.tmp 2) (.int .i64 (0)) (fun _ => rfl) rfl rfl ?_
  refine wl_nc (.tmp 10) k 0 rfl rfl rfl ?_
  refine wl_un (fun v => Instr.fieldAt 66 v 0) (.tmp 12) (pt k 0) (pt k 0) (fun _ => rfl) rfl (by kernel_rfl) rfl ?_
  refine wl_un (fun v => Instr.fieldAt 64 v 1) (.tmp 13) (pt k 0) (pt k 1) (fun _ => rfl) rfl (by kernel_rfl) rfl ?_
  refine wl_bin (fun x y => Instr.indexAt 62 x y) (.tmp 14) (.tmp 11) (pt k 1) (.int .i64 (0)) (pt k 1) (fun _ => rfl) rfl rfl (by kernel_rfl) rfl ?_
  refine wl_load 56 (.tmp 15) (pt k 1) (pt kk 0) rfl rfl (run_one (hS.rc k _ hk) 56 1 rfl Try.underlying56 rfl) rfl ?_
  refine wl_mv (.tmp 16) (pt kk 0) (fun _ => rfl) rfl rfl ?_
  refine w_nil ?_
  refine xn_then ?_
  refine w_seq ?_
  refine w_any 16 [.inl (pt kk 0), .inl (.int .i64 (0)), .inl (.int .i64 (1)), .inl (pt kk 0), .inl (pt kk 0), .inl (pt kk 1), .inl (pt kk 2), .inl (pt j 0), .inl (pt kk 0), .inl (.int .i64 (0)), .inl (pt kk 0), .inl (pt kk 0), .inl (pt kk 1), .inl (pt kk 1), .inl (pp a.p), .inl (pt j 0)] [] (by kernel_rfl) (by kernel_rfl) (by kernel_rfl) (by kernel_rfl) rfl (by kernel_rfl) (by kernel_rfl) late_nil ?_ ?_ ?_
  · exact Ds.none rfl
  · refine ea_cons ?_ (ea_cons ?_ (ea_cons ?_ (ea_cons ?_ (ea_cons ?_ (ea_cons ?_ (ea_cons ?_ (ea_cons ?_ (ea_cons ?_ (ea_cons ?_ (ea_cons ?_ (ea_cons ?_ (ea_cons ?_ (ea_cons ?_ (ea_cons ?_ (ea_cons ?_ (ea_nil))))))))))))))))
    · exact og_eq (pt kk 0) rfl (fun f wf hq hd K hK => go_run rfl (wo_mv (.tmp 7) (pt kk 0) (fun _ => rfl) rfl (hK _ (Mo.refl _))))
    · exact og_eq (.int .i64 (0)) rfl (fun f wf hq hd K hK => go_run rfl (wo_mv (.tmp 2) (.int .i64 (0)) (fun _ => rfl) rfl (hK _ (Mo.refl _))))
    · exact og_eq (.int .i64 (1)) rfl (fun f wf hq hd K hK => go_run rfl (wo_bin (fun x y => do eqGuard .sub 3 (.const (.int .i64 (1))) (.tmp 18) x y; binOp .sub 3 x y) (.const (.int .i64 (1))) (.tmp 18) (.int .i64 (1)) (.int .i64 (0)) (.int .i64 (1)) (fun _ => rfl) rfl (hd 1 rfl) (subI (a := 1) (b := 0) (by decide) (by decide) _ _ _) (hK _ (Mo.refl _))))
    · exact og_eq (pt kk 0) rfl (fun f wf hq hd K hK => go_run rfl (wo_nc (.tmp 17) kk 0 rfl (hd 0 rfl) (hK _ (Mo.refl _))))
    · exact og_eq (pt kk 0) rfl (fun f wf hq hd K hK => go_run rfl (wo_un (fun v => Instr.fieldAt 66 v 0) (.tmp 20) (pt kk 0) (pt kk 0) (fun _ => rfl) (hd 3 rfl) (by kernel_rfl) (hK _ (Mo.refl _))))
    · exact og_eq (pt kk 1) rfl (fun f wf hq hd K hK => go_run rfl (wo_un (fun v => Instr.fieldAt 64 v 1) (.tmp 21) (pt kk 0) (pt kk 1) (fun _ => rfl) (hd 4 rfl) (by kernel_rfl) (hK _ (Mo.refl _))))
    · exact og_eq (pt kk 2) rfl (fun f wf hq hd K hK => go_run rfl (wo_bin (fun x y => Instr.indexAt 62 x y) (.tmp 22) (.tmp 19) (pt kk 1) (.int .i64 (1)) (pt kk 2) (fun _ => rfl) (hd 5 rfl) (hd 2 rfl) (by kernel_rfl) (hK _ (Mo.refl _))))
    · exact og_eq (pt j 0) rfl (fun f wf hq hd K hK => have hS := hS.mo hq; go_run rfl (wo_load 56 (.tmp 23) (pt kk 2) (pt j 0) rfl (hd 6 rfl) (run_one (hS.rc kk _ hkk) 56 2 rfl Try.underlying56 rfl) (hK _ (Mo.refl _))))
    · exact og_eq (pt kk 0) rfl (fun f wf hq hd K hK => go_run rfl (wo_mv (.tmp 7) (pt kk 0) (fun _ => rfl) rfl (hK _ (Mo.refl _))))
    · exact og_eq (.int .i64 (0)) rfl (fun f wf hq hd K hK => go_run rfl (wo_mv (.tmp 2) (.int .i64 (0)) (fun _ => rfl) rfl (hK _ (Mo.refl _))))
    · exact og_eq (pt kk 0) rfl (fun f wf hq hd K hK => go_run rfl (wo_nc (.tmp 25) kk 0 rfl (hd 8 rfl) (hK _ (Mo.refl _))))
    · exact og_eq (pt kk 0) rfl (fun f wf hq hd K hK => go_run rfl (wo_un (fun v => Instr.fieldAt 66 v 0) (.tmp 27) (pt kk 0) (pt kk 0) (fun _ => rfl) (hd 10 rfl) (by kernel_rfl) (hK _ (Mo.refl _))))
    · exact og_eq (pt kk 1) rfl (fun f wf hq hd K hK => go_run rfl (wo_un (fun v => Instr.fieldAt 64 v 1) (.tmp 28) (pt kk 0) (pt kk 1) (fun _ => rfl) (hd 11 rfl) (by kernel_rfl) (hK _ (Mo.refl _))))
    · exact og_eq (pt kk 1) rfl (fun f wf hq hd K hK => go_run rfl (wo_bin (fun x y => Instr.indexAt 62 x y) (.tmp 29) (.tmp 26) (pt kk 1) (.int .i64 (0)) (pt kk 1) (fun _ => rfl) (hd 12 rfl) (hd 9 rfl) (by kernel_rfl) (hK _ (Mo.refl _))))
    · exact og_eq (pp a.p) rfl (fun f wf hq hd K hK => have hS := hS.mo hq; go_run rfl (wo_load 56 (.tmp 30) (pt kk 1) (pp a.p) rfl (hd 13 rfl) (run_one (hS.rc kk _ hkk) 56 1 rfl Try.underlying56 rfl) (hK _ (Mo.refl _))))
    · exact og_eq (pt j 0) rfl (fun f wf hq hd K hK => go_run rfl (wo_mv (.tmp 24) (pt j 0) (fun _ => rfl) (hd 7 rfl) (hK _ (Mo.refl _))))
  intro kf1 w1 hq _ _
  replace hS := hS.mo hq
  replace M := M.trans hq
  clear hq
  refine wl_mv (.tmp 31) (pp a.p) (fun _ => rfl) rfl rfl ?_
  refine w_nil ?_
  refine xn_then ?_
  refine w_seq ?_
  refine w_reg ?_
  refine wl_mv (.tmp 0) (pt t 0) (fun _ => rfl) rfl rfl ?_
  refine wl_mv (.tmp 1) (pt k 0) (fun _ => rfl) rfl rfl ?_
  refine wl_nc (.tmp 33) k 0 rfl rfl rfl ?_
  refine wl_un (fun v => Instr.fieldAt 66 v 0) (.tmp 34) (pt k 0) (pt k 0) (fun _ => rfl) rfl (by kernel_rfl) rfl ?_
  refine wl_un (fun v => Instr.fieldAt 64 v 0) (.tmp 35) (pt k 0) (pt k 0) (fun _ => rfl) rfl (by kernel_rfl) rfl ?_
  refine wl_load 56 (.tmp 36) (pt k 0) (pp (top C)) rfl rfl (run_one (hS.rc k _ hk) 56 0 rfl Try.underlying56 rfl) rfl ?_
  refine wl_mv (.tmp 8) (pt j 0) (fun _ => rfl) rfl rfl ?_
  refine wl_mv (.tmp 9) (pp a.p) (fun _ => rfl) rfl rfl ?_
  refine wl_bsl [(0, (.tmp 37)), (1, (.tmp 38)), (2, (.tmp 39))] [pp (top C), pp (some j), pp a.p] 3 rfl rfl (bs3 (top C) (some j) a.p) rfl ?_
  intro g1 w2 hk hz hq Q1
  have nd_g1 : ¬ D g1 := fun e => by have := hS.lt e; omega
  replace hS := hS.mo hq
  replace M := M.trans hq
  clear hk hz hq
  refine wl_callg 39 [(.tmp 32), (.tmp 40)] _ [pt t 0, .slice (some ⟨g1, 0, none⟩) 3 3] (.tuple #[]) rfl rfl (fun _ _ => by kernel_rfl) (look_n [(top C), (some j), a.p] g1 hS Q1 nd_g1 (by simp only [List.length_cons, List.length_nil]; omega)) rfl ?_
  intro w3 hF
  have hc1 := cnt_le [(top C), (some j), a.p]
  simp only [List.length_cons, List.length_nil] at hc1
  obtain ⟨hS2, hM2⟩ := hF
  replace hS := hS2
  replace M := M.same hM2
  clear hS2 hM2 Q1 nd_g1
  refine w_nil ?_
  refine xn_then ?_
  refine w_seq ?_
  refine w_seq ?_
  refine w_reg ?_
  refine wl_mv (.tmp 8) (pt j 0) (fun _ => rfl) rfl rfl ?_
  refine wl_call 51 [(.tmp 42)] _ [pt j 0] (.int .i64 ((1 + c.sz + z.sz) + 1)) rfl rfl (fun _ _ => by kernel_rfl) (weight_o (x := some j) hS ⟨_, hj, ob.1⟩ (by omega) (by omega)) rfl ?_
  intro w4 hq
  replace hS := hS.mo hq
  replace M := M.trans hq
  clear hq
  refine wl_mv (.tmp 9) (pp a.p) (fun _ => rfl) rfl rfl ?_
  refine wl_call 51 [(.tmp 44)] _ [pp a.p] (.int .i64 (a.sz + 1)) rfl rfl (fun _ _ => by kernel_rfl) (weight_o hS (szo_of ha oa) h0a (by omega)) rfl ?_
  intro w5 hq
  replace hS := hS.mo hq
  replace M := M.trans hq
  clear hq
  refine wl_bin (fun x y => do eqGuard .mul 3 (.const (.int .i64 (2))) (.tmp 45) x y; binOp .mul 3 x y) (.const (.int .i64 (2))) (.tmp 45) (.int .i64 (2)) (.int .i64 (a.sz + 1)) (.int .i64 (2 * (a.sz + 1))) (fun _ => rfl) rfl rfl (mulI (by omega) (by omega) _ _ _) rfl ?_
  refine wl_bin (fun x y => do eqGuard .geq 3 (.tmp 43) (.tmp 46) x y; binOp .geq 3 x y) (.tmp 43) (.tmp 46) (.int .i64 ((1 + c.sz + z.sz) + 1)) (.int .i64 (2 * (a.sz + 1))) (.bool true) (fun _ => rfl) rfl rfl (geI hge _ _ _) rfl ?_
  refine w_nil ?_
  refine xn_then ?_
  refine w_condT rfl ?_
  refine w_seq ?_
  refine w_any 13 [.inl (pt t 0), .inl (pt j 0), .inl (pt j 0), .inl (pt j 0), .inl (pt j 1), .inl (pt j 1), .inl (pp c.p), .inl (pt j 0), .inl (pt j 0), .inl (pt j 0), .inl (pt j 1), .inl (pt j 2), .inl (pp z.p)] [0] (by kernel_rfl) (by kernel_rfl) (by kernel_rfl) (by kernel_rfl) rfl (by kernel_rfl) (by kernel_rfl) (late_cons ⟨_, _, rfl, rfl, fun _ _ _ _ h => h, fun f hd => ⟨rfl, la_mv (.tmp 0) (pt t 0) (fun _ => rfl) rfl⟩⟩ late_nil) ?_ ?_ ?_
  · exact Ds.none rfl
  · refine ea_cons ?_ (ea_cons ?_ (ea_cons ?_ (ea_cons ?_ (ea_cons ?_ (ea_cons ?_ (ea_cons ?_ (ea_cons ?_ (ea_cons ?_ (ea_cons ?_ (ea_cons ?_ (ea_cons ?_ (ea_cons ?_ (ea_nil)))))))))))))
    · exact og_eq (pt t 0) rfl (fun f wf hq hd K hK => go_run rfl (wo_mv (.tmp 0) (pt t 0) (fun _ => rfl) rfl (hK _ (Mo.refl _))))
    · exact og_eq (pt j 0) rfl (fun f wf hq hd K hK => go_run rfl (wo_mv (.tmp 8) (pt j 0) (fun _ => rfl) rfl (hK _ (Mo.refl _))))
    · exact og_eq (pt j 0) rfl (fun f wf hq hd K hK => go_run rfl (wo_nc (.tmp 49) j 0 rfl (hd 1 rfl) (hK _ (Mo.refl _))))
    · exact og_eq (pt j 0) rfl (fun f wf hq hd K hK => go_run rfl (wo_un (fun v => Instr.fieldAt 66 v 0) (.tmp 50) (pt j 0) (pt j 0) (fun _ => rfl) (hd 2 rfl) (by kernel_rfl) (hK _ (Mo.refl _))))
    · exact og_eq (pt j 1) rfl (fun f wf hq hd K hK => go_run rfl (wo_un (fun v => Instr.fieldAt 64 v 1) (.tmp 51) (pt j 0) (pt j 1) (fun _ => rfl) (hd 3 rfl) (by kernel_rfl) (hK _ (Mo.refl _))))
    · exact og_eq (pt j 1) rfl (fun f wf hq hd K hK => go_run rfl (wo_bin (fun x y => Instr.indexAt 62 x y) (.tmp 52) (.const (.int .i64 (0))) (pt j 1) (.int .i64 (0)) (pt j 1) (fun _ => rfl) (hd 4 rfl) rfl (by kernel_rfl) (hK _ (Mo.refl _))))
    · exact og_eq (pp c.p) rfl (fun f wf hq hd K hK => have hS := hS.mo hq; go_run rfl (wo_load 56 (.tmp 53) (pt j 1) (pp c.p) rfl (hd 5 rfl) (run_one (hS.rc j _ hj) 56 1 rfl Try.underlying56 rfl) (hK _ (Mo.refl _))))
    · exact og_eq (pt j 0) rfl (fun f wf hq hd K hK => go_run rfl (wo_mv (.tmp 8) (pt j 0) (fun _ => rfl) rfl (hK _ (Mo.refl _))))
    · exact og_eq (pt j 0) rfl (fun f wf hq hd K hK => go_run rfl (wo_nc (.tmp 55) j 0 rfl (hd 7 rfl) (hK _ (Mo.refl _))))
    · exact og_eq (pt j 0) rfl (fun f wf hq hd K hK => go_run rfl (wo_un (fun v => Instr.fieldAt 66 v 0) (.tmp 56) (pt j 0) (pt j 0) (fun _ => rfl) (hd 8 rfl) (by kernel_rfl) (hK _ (Mo.refl _))))
    · exact og_eq (pt j 1) rfl (fun f wf hq hd K hK => go_run rfl (wo_un (fun v => Instr.fieldAt 64 v 1) (.tmp 57) (pt j 0) (pt j 1) (fun _ => rfl) (hd 9 rfl) (by kernel_rfl) (hK _ (Mo.refl _))))
    · exact og_eq (pt j 2) rfl (fun f wf hq hd K hK => go_run rfl (wo_bin (fun x y => Instr.indexAt 62 x y) (.tmp 58) (.const (.int .i64 (1))) (pt j 1) (.int .i64 (1)) (pt j 2) (fun _ => rfl) (hd 10 rfl) rfl (by kernel_rfl) (hK _ (Mo.refl _))))
    · exact og_eq (pp z.p) rfl (fun f wf hq hd K hK => have hS := hS.mo hq; go_run rfl (wo_load 56 (.tmp 59) (pt j 2) (pp z.p) rfl (hd 11 rfl) (run_one (hS.rc j _ hj) 56 2 rfl Try.underlying56 rfl) (hK _ (Mo.refl _))))
  intro kf6 w6 hq _ _
  replace hS := hS.mo hq
  replace M := M.trans hq
  clear hq
  refine wl_bsl [(0, (.tmp 54)), (1, (.tmp 60))] [pp c.p, pp z.p] 2 rfl rfl (bs2 c.p z.p) rfl ?_
  intro g2 w7 hk hz hq Q2
  have nd_g2 : ¬ D g2 := fun e => by have := hS.lt e; omega
  replace hS := hS.mo hq
  replace M := M.trans hq
  clear hk hz hq
  refine wl_callg 39 [(.tmp 48), (.tmp 61)] _ [pt t 0, .slice (some ⟨g2, 0, none⟩) 2 2] (.tuple #[]) rfl rfl (fun _ _ => by kernel_rfl) (look_n [c.p, z.p] g2 hS Q2 nd_g2 (by simp only [List.length_cons, List.length_nil]; omega)) rfl ?_
  intro w8 hF
  have hc2 := cnt_le [c.p, z.p]
  simp only [List.length_cons, List.length_nil] at hc2
  obtain ⟨hS2, hM2⟩ := hF
  replace hS := hS2
  replace M := M.same hM2
  clear hS2 hM2 Q2 nd_g2
  refine w_nil ?_
  refine xn_then ?_
  refine w_reg ?_
  refine wl_mv (.tmp 0) (pt t 0) (fun _ => rfl) rfl rfl ?_
  refine wl_mv (.tmp 7) (pt kk 0) (fun _ => rfl) rfl rfl ?_
  refine wl_mv (.tmp 2) (.int .i64 (0)) (fun _ => rfl) rfl rfl ?_
  refine wl_bin (fun x y => do eqGuard .sub 3 (.const (.int .i64 (1))) (.tmp 65) x y; binOp .sub 3 x y) (.const (.int .i64 (1))) (.tmp 65) (.int .i64 (1)) (.int .i64 (0)) (.int .i64 (1)) (fun _ => rfl) rfl rfl (subI (a := 1) (b := 0) (by decide) (by decide) _ _ _) rfl ?_
  refine wl_callg 52 [(.tmp 63), (.tmp 64), (.tmp 66)] _ [pt t 0, pt kk 0, .int .i64 (1)] (pt j 0) rfl rfl (fun _ _ => by kernel_rfl) (turnR (C := (⟨k, i, s, false, r⟩ : Fr) :: C) (TS.dn (f := (⟨k, i, s, false, r⟩ : Fr)) ⟨R, root, hS, hC, hR, hn⟩) ob.2.2 ob.2.1 oa (by omega) (by omega) (by omega)) rfl ?_
  intro w9 hF
  obtain ⟨hT, hM2⟩ := hF
  replace M := M.same hM2
  replace hT := hT.up
  change TS D _ t mb C (.n k i s _ r) _ at hT
  clear hM2
  refine w_nil ?_
  refine xn_then ?_
  refine w_seq ?_
  refine w_reg ?_
  refine wl_mv (.tmp 0) (pt t 0) (fun _ => rfl) rfl rfl ?_
  refine wl_mv (.tmp 1) (pt k 0) (fun _ => rfl) rfl rfl ?_
  refine wl_mv (.tmp 2) (.int .i64 (0)) (fun _ => rfl) rfl rfl ?_
  refine wl_callg 52 [(.tmp 68), (.tmp 69), (.tmp 70)] _ [pt t 0, pt k 0, .int .i64 (0)] (pt j 0) rfl rfl (fun _ _ => by kernel_rfl) (turnL hT ⟨rfl, oa, ob.2.1⟩ ob.2.2 or (by simp only [T.sz]; omega) (by omega) (by omega)) rfl ?_
  intro w10 hF
  obtain ⟨hT, hM2⟩ := hF
  replace M := M.same hM2
  clear hM2
  refine wl_mv (.tmp 71) (pt j 0) (fun _ => rfl) rfl rfl ?_
  refine w_nil ?_
  refine xn_then ?_
  refine w_ret ?_
  exact w_ret1 _ (pt j 0) rfl rfl ⟨rfl, (((lk) + cnt [(top C), (some j), a.p]) + cnt [c.p, z.p]), by omega, by omega, hT, M⟩
theorem lightS1 {C : Cx} {k kk : Nat} {i s ii ss : Int} {a b r : T} (h : TS D w t mb C (.n k i s r (.n kk ii ss b a)) lk) (oa : a.ok) (ob : b.ok) (or : r.ok) (ba : a.sz ≤ 10000) (bb : b.sz ≤ 10000) (br : r.sz ≤ 10000) (hge : decide (2 * (a.sz + 1) ≤ b.sz + 1) = false) (hlk : 0 ≤ lk ∧ lk ≤ 4000000000000000000) :
    Calls Try.prog 50 #[pt t 0, pt k 0, .int .i64 1] w fun e w' => e = .returned (pt kk 0) ∧ ∃ lk', lk ≤ lk' ∧ lk' ≤ lk + 5 ∧ TS D w' t mb C (.n kk ii (1 + (1 + r.sz + b.sz) + a.sz) (.n k i (1 + r.sz + b.sz) r b) a) lk' ∧ Mk D w w' := by
  obtain ⟨R, root, hS, hC, hR, hn⟩ := h
  have hR0 := hR
  obtain ⟨hk, hr, hkk, hb, ha⟩ := hR
  have hR := hR0
  have h0a := T.sz_nn a; have h0r := T.sz_nn r; have h0b := T.sz_nn b
  refine w_enter 72 Try.func50 Try.ntmps50 rfl rfl ?_
  have M : Mk D w w := Mk.refl _ _
  refine w_seq ?_
  refine w_reg ?_
  refine wl_mv (.const (.pointer none)) (pp none) (fun _ => rfl) rfl rfl ?_
  refine w_nil ?_
  refine xn_then ?_
  refine w_seq ?_
  refine w_reg ?_
  refine wl_mv (.tmp 1) (pt k 0) (fun _ => rfl) rfl rfl ?_
  refine wl_mv (.tmp 2) (.int .i64 (1)) (fun _ => rfl) rfl rfl ?_
  refine wl_nc (.tmp 10) k 0 rfl rfl rfl ?_
  refine wl_un (fun v => Instr.fieldAt 66 v 0) (.tmp 12) (pt k 0) (pt k 0) (fun _ => rfl) rfl (by kernel_rfl) rfl ?_
  refine wl_un (fun v => Instr.fieldAt 64 v 1) (.tmp 13) (pt k 0) (pt k 1) (fun _ => rfl) rfl (by kernel_rfl) rfl ?_
  refine wl_bin (fun x y => Instr.indexAt 62 x y) (.tmp 14) (.tmp 11) (pt k 1) (.int .i64 (1)) (pt k 2) (fun _ => rfl) rfl rfl (by kernel_rfl) rfl ?_
  refine wl_load 56 (.tmp 15) (pt k 2) (pt kk 0) rfl rfl (run_one (hS.rc k _ hk) 56 2 rfl Try.underlying56 rfl) rfl ?_
  refine wl_mv (.tmp 16) (pt kk 0) (fun _ => rfl) rfl rfl ?_
  refine w_nil ?_
  refine xn_then ?_
  refine w_seq ?_
  refine w_any 16 [.inl (pt kk 0), .inl (.int .i64 (1)), .inl (.int .i64 (0)), .inl (pt kk 0), .inl (pt kk 0), .inl (pt kk 1), .inl (pt kk 1), .inl (pp b.p), .inl (pt kk 0), .inl (.int .i64 (1)), .inl (pt kk 0), .inl (pt kk 0), .inl (pt kk 1), .inl (pt kk 2), .inl (pp a.p), .inl (pp b.p)] [] (by kernel_rfl) (by kernel_rfl) (by kernel_rfl) (by kernel_rfl) rfl (by kernel_rfl) (by kernel_rfl) late_nil ?_ ?_ ?_
  · exact Ds.none rfl
  · refine ea_cons ?_ (ea_cons ?_ (ea_cons ?_ (ea_cons ?_ (ea_cons ?_ (ea_cons ?_ (ea_cons ?_ (ea_cons ?_ (ea_cons ?_ (ea_cons ?_ (ea_cons ?_ (ea_cons ?_ (ea_cons ?_ (ea_cons ?_ (ea_cons ?_ (ea_cons ?_ (ea_nil))))))))))))))))
    · exact og_eq (pt kk 0) rfl (fun f wf hq hd K hK => go_run rfl (wo_mv (.tmp 7) (pt kk 0) (fun _ => rfl) rfl (hK _ (Mo.refl _))))
    · exact og_eq (.int .i64 (1)) rfl (fun f wf hq hd K hK => go_run rfl (wo_mv (.tmp 2) (.int .i64 (1)) (fun _ => rfl) rfl (hK _ (Mo.refl _))))
    · exact og_eq (.int .i64 (0)) rfl (fun f wf hq hd K hK => go_run rfl (wo_bin (fun x y => do eqGuard .sub 3 (.const (.int .i64 (1))) (.tmp 18) x y; binOp .sub 3 x y) (.const (.int .i64 (1))) (.tmp 18) (.int .i64 (1)) (.int .i64 (1)) (.int .i64 (0)) (fun _ => rfl) rfl (hd 1 rfl) (subI (a := 1) (b := 1) (by decide) (by decide) _ _ _) (hK _ (Mo.refl _))))
    · exact og_eq (pt kk 0) rfl (fun f wf hq hd K hK => go_run rfl (wo_nc (.tmp 17) kk 0 rfl (hd 0 rfl) (hK _ (Mo.refl _))))
    · exact og_eq (pt kk 0) rfl (fun f wf hq hd K hK => go_run rfl (wo_un (fun v => Instr.fieldAt 66 v 0) (.tmp 20) (pt kk 0) (pt kk 0) (fun _ => rfl) (hd 3 rfl) (by kernel_rfl) (hK _ (Mo.refl _))))
    · exact og_eq (pt kk 1) rfl (fun f wf hq hd K hK => go_run rfl (wo_un (fun v => Instr.fieldAt 64 v 1) (.tmp 21) (pt kk 0) (pt kk 1) (fun _ => rfl) (hd 4 rfl) (by kernel_rfl) (hK _ (Mo.refl _))))
    · exact og_eq (pt kk 1) rfl (fun f wf hq hd K hK => go_run rfl (wo_bin (fun x y => Instr.indexAt 62 x y) (.tmp 22) (.tmp 19) (pt kk 1) (.int .i64 (0)) (pt kk 1) (fun _ => rfl) (hd 5 rfl) (hd 2 rfl) (by kernel_rfl) (hK _ (Mo.refl _))))
    · exact og_eq (pp b.p) rfl (fun f wf hq hd K hK => have hS := hS.mo hq; go_run rfl (wo_load 56 (.tmp 23) (pt kk 1) (pp b.p) rfl (hd 6 rfl) (run_one (hS.rc kk _ hkk) 56 1 rfl Try.underlying56 rfl) (hK _ (Mo.refl _))))
    · exact og_eq (pt kk 0) rfl (fun f wf hq hd K hK => go_run rfl (wo_mv (.tmp 7) (pt kk 0) (fun _ => rfl) rfl (hK _ (Mo.refl _))))
    · exact og_eq (.int .i64 (1)) rfl (fun f wf hq hd K hK => go_run rfl (wo_mv (.tmp 2) (.int .i64 (1)) (fun _ => rfl) rfl (hK _ (Mo.refl _))))
    · exact og_eq (pt kk 0) rfl (fun f wf hq hd K hK => go_run rfl (wo_nc (.tmp 25) kk 0 rfl (hd 8 rfl) (hK _ (Mo.refl _))))
    · exact og_eq (pt kk 0) rfl (fun f wf hq hd K hK => go_run rfl (wo_un (fun v => Instr.fieldAt 66 v 0) (.tmp 27) (pt kk 0) (pt kk 0) (fun _ => rfl) (hd 10 rfl) (by kernel_rfl) (hK _ (Mo.refl _))))
    · exact og_eq (pt kk 1) rfl (fun f wf hq hd K hK => go_run rfl (wo_un (fun v => Instr.fieldAt 64 v 1) (.tmp 28) (pt kk 0) (pt kk 1) (fun _ => rfl) (hd 11 rfl) (by kernel_rfl) (hK _ (Mo.refl _))))
    · exact og_eq (pt kk 2) rfl (fun f wf hq hd K hK => go_run rfl (wo_bin (fun x y => Instr.indexAt 62 x y) (.tmp 29) (.tmp 26) (pt kk 1) (.int .i64 (1)) (pt kk 2) (fun _ => rfl) (hd 12 rfl) (hd 9 rfl) (by kernel_rfl) (hK _ (Mo.refl _))))
    · exact og_eq (pp a.p) rfl (fun f wf hq hd K hK => have hS := hS.mo hq; go_run rfl (wo_load 56 (.tmp 30) (pt kk 2) (pp a.p) rfl (hd 13 rfl) (run_one (hS.rc kk _ hkk) 56 2 rfl Try.underlying56 rfl) (hK _ (Mo.refl _))))
    · exact og_eq (pp b.p) rfl (fun f wf hq hd K hK => go_run rfl (wo_mv (.tmp 24) (pp b.p) (fun _ => rfl) (hd 7 rfl) (hK _ (Mo.refl _))))
  intro kf1 w1 hq _ _
  replace hS := hS.mo hq
  replace M := M.trans hq
  clear hq
  refine wl_mv (.tmp 31) (pp a.p) (fun _ => rfl) rfl rfl ?_
  refine w_nil ?_
  refine xn_then ?_
  refine w_seq ?_
  refine w_reg ?_
  refine wl_mv (.tmp 0) (pt t 0) (fun _ => rfl) rfl rfl ?_
  refine wl_mv (.tmp 1) (pt k 0) (fun _ => rfl) rfl rfl ?_
  refine wl_nc (.tmp 33) k 0 rfl rfl rfl ?_
  refine wl_un (fun v => Instr.fieldAt 66 v 0) (.tmp 34) (pt k 0) (pt k 0) (fun _ => rfl) rfl (by kernel_rfl) rfl ?_
  refine wl_un (fun v => Instr.fieldAt 64 v 0) (.tmp 35) (pt k 0) (pt k 0) (fun _ => rfl) rfl (by kernel_rfl) rfl ?_
  refine wl_load 56 (.tmp 36) (pt k 0) (pp (top C)) rfl rfl (run_one (hS.rc k _ hk) 56 0 rfl Try.underlying56 rfl) rfl ?_
  refine wl_mv (.tmp 8) (pp b.p) (fun _ => rfl) rfl rfl ?_
  refine wl_mv (.tmp 9) (pp a.p) (fun _ => rfl) rfl rfl ?_
  refine wl_bsl [(0, (.tmp 37)), (1, (.tmp 38)), (2, (.tmp 39))] [pp (top C), pp b.p, pp a.p] 3 rfl rfl (bs3 (top C) b.p a.p) rfl ?_
  intro g1 w2 hk hz hq Q1
  have nd_g1 : ¬ D g1 := fun e => by have := hS.lt e; omega
  replace hS := hS.mo hq
  replace M := M.trans hq
  clear hk hz hq
  refine wl_callg 39 [(.tmp 32), (.tmp 40)] _ [pt t 0, .slice (some ⟨g1, 0, none⟩) 3 3] (.tuple #[]) rfl rfl (fun _ _ => by kernel_rfl) (look_n [(top C), b.p, a.p] g1 hS Q1 nd_g1 (by simp only [List.length_cons, List.length_nil]; omega)) rfl ?_
  intro w3 hF
  have hc1 := cnt_le [(top C), b.p, a.p]
  simp only [List.length_cons, List.length_nil] at hc1
  obtain ⟨hS2, hM2⟩ := hF
  replace hS := hS2
  replace M := M.same hM2
  clear hS2 hM2 Q1 nd_g1
  refine w_nil ?_
  refine xn_then ?_
  refine w_seq ?_
  refine w_seq ?_
  refine w_reg ?_
  refine wl_mv (.tmp 8) (pp b.p) (fun _ => rfl) rfl rfl ?_
  refine wl_call 51 [(.tmp 42)] _ [pp b.p] (.int .i64 (b.sz + 1)) rfl rfl (fun _ _ => by kernel_rfl) (weight_o hS (szo_of hb ob) h0b (by omega)) rfl ?_
  intro w4 hq
  replace hS := hS.mo hq
  replace M := M.trans hq
  clear hq
  refine wl_mv (.tmp 9) (pp a.p) (fun _ => rfl) rfl rfl ?_
  refine wl_call 51 [(.tmp 44)] _ [pp a.p] (.int .i64 (a.sz + 1)) rfl rfl (fun _ _ => by kernel_rfl) (weight_o hS (szo_of ha oa) h0a (by omega)) rfl ?_
  intro w5 hq
  replace hS := hS.mo hq
  replace M := M.trans hq
  clear hq
  refine wl_bin (fun x y => do eqGuard .mul 3 (.const (.int .i64 (2))) (.tmp 45) x y; binOp .mul 3 x y) (.const (.int .i64 (2))) (.tmp 45) (.int .i64 (2)) (.int .i64 (a.sz + 1)) (.int .i64 (2 * (a.sz + 1))) (fun _ => rfl) rfl rfl (mulI (by omega) (by omega) _ _ _) rfl ?_
  refine wl_bin (fun x y => do eqGuard .geq 3 (.tmp 43) (.tmp 46) x y; binOp .geq 3 x y) (.tmp 43) (.tmp 46) (.int .i64 (b.sz + 1)) (.int .i64 (2 * (a.sz + 1))) (.bool false) (fun _ => rfl) rfl rfl (geI hge _ _ _) rfl ?_
  refine w_nil ?_
  refine xn_then ?_
  refine w_condF rfl ?_
  refine w_skip ?_
  refine xn_then ?_
  refine w_seq ?_
  refine w_reg ?_
  refine wl_mv (.tmp 0) (pt t 0) (fun _ => rfl) rfl rfl ?_
  refine wl_mv (.tmp 1) (pt k 0) (fun _ => rfl) rfl rfl ?_
  refine wl_mv (.tmp 2) (.int .i64 (1)) (fun _ => rfl) rfl rfl ?_
  refine wl_callg 52 [(.tmp 68), (.tmp 69), (.tmp 70)] _ [pt t 0, pt k 0, .int .i64 (1)] (pt kk 0) rfl rfl (fun _ _ => by kernel_rfl) (turnR ⟨R, root, hS, hC, hR, hn⟩ oa ob or (by omega) (by omega) (by omega)) rfl ?_
  intro w6 hF
  obtain ⟨hT, hM2⟩ := hF
  replace M := M.same hM2
  clear hM2
  refine wl_mv (.tmp 71) (pt kk 0) (fun _ => rfl) rfl rfl ?_
  refine w_nil ?_
  refine xn_then ?_
  refine w_ret ?_
  exact w_ret1 _ (pt kk 0) rfl rfl ⟨rfl, ((lk) + cnt [(top C), b.p, a.p]), by omega, by omega, hT, M⟩
theorem lightD1 {C : Cx} {k kk j : Nat} {i s ii ss jj js : Int} {a c z r : T} (h : TS D w t mb C (.n k i s r (.n kk ii ss (.n j jj js c z) a)) lk) (oa : a.ok) (ob : (T.n j jj js c z).ok) (or : r.ok) (ba : a.sz ≤ 10000) (bb : c.sz ≤ 10000 ∧ z.sz ≤ 10000) (br : r.sz ≤ 10000) (hge : decide (2 * (a.sz + 1) ≤ (1 + c.sz + z.sz) + 1) = true) (hlk : 0 ≤ lk ∧ lk ≤ 4000000000000000000) :
    Calls Try.prog 50 #[pt t 0, pt k 0, .int .i64 1] w fun e w' => e = .returned (pt j 0) ∧ ∃ lk', lk ≤ lk' ∧ lk' ≤ lk + 5 ∧ TS D w' t mb C (.n j jj (1 + (1 + r.sz + c.sz) + (1 + z.sz + a.sz)) (.n k i (1 + r.sz + c.sz) r c) (.n kk ii (1 + z.sz + a.sz) z a)) lk' ∧ Mk D w w' := by
  obtain ⟨R, root, hS, hC, hR, hn⟩ := h
  have hR0 := hR
  obtain ⟨hk, hr, hkk, ⟨hj, hcc, hz⟩, ha⟩ := hR
  have hR := hR0
  have h0a := T.sz_nn a; have h0r := T.sz_nn r; have h0c := T.sz_nn c; have h0z := T.sz_nn z
  refine w_enter 72 Try.func50 Try.ntmps50 rfl rfl ?_
  have M : Mk D w w := Mk.refl _ _
  refine w_seq ?_
  refine w_reg ?_
  refine wl_mv (.const (.pointer none)) (pp none) (fun _ => rfl) rfl rfl ?_
  refine w_nil ?_
  refine xn_then ?_
  refine w_seq ?_
  refine w_reg ?_
  refine wl_mv (.tmp 1) (pt k 0) (fun _ => rfl) rfl rfl ?_
  refine wl_mv (.tmp 2) (.int .i64 (1)) (fun _ => rfl) rfl rfl ?_
  refine wl_nc (.tmp 10) k 0 rfl rfl rfl ?_
  refine wl_un (fun v => Instr.fieldAt 66 v 0) (.tmp 12) (pt k 0) (pt k 0) (fun _ => rfl) rfl (by kernel_rfl) rfl ?_
  refine wl_un (fun v => Instr.fieldAt 64 v 1) (.tmp 13) (pt k 0) (pt k 1) (fun _ => rfl) rfl (by kernel_rfl) rfl ?_
  refine wl_bin (fun x y => Instr.indexAt 62 x y) (.tmp 14) (.tmp 11) (pt k 1) (.int .i64 (1)) (pt k 2) (fun _ => rfl) rfl rfl (by kernel_rfl) rfl ?_
  refine wl_load 56 (.tmp 15) (pt k 2) (pt kk 0) rfl rfl (run_one (hS.rc k _ hk) 56 2 rfl Try.underlying56 rfl) rfl ?_
  refine wl_mv (.tmp 16) (pt kk 0) (fun _ => rfl) rfl rfl ?_
  refine w_nil ?_
  refine xn_then ?_
  refine w_seq ?_
  refine w_any 16 [.inl (pt kk 0), .inl (.int .i64 (1)), .inl (.int .i64 (0)), .inl (pt kk 0), .inl (pt kk 0), .inl (pt kk 1), .inl (pt kk 1), .inl (pt j 0), .inl (pt kk 0), .inl (.int .i64 (1)), .inl (pt kk 0), .inl (pt kk 0), .inl (pt kk 1), .inl (pt kk 2), .inl (pp a.p), .inl (pt j 0)] [] (by kernel_rfl) (by kernel_rfl) (by kernel_rfl) (by kernel_rfl) rfl (by kernel_rfl) (by kernel_rfl) late_nil ?_ ?_ ?_
  · exact Ds.none rfl
  · refine ea_cons ?_ (ea_cons ?_ (ea_cons ?_ (ea_cons ?_ (ea_cons ?_ (ea_cons ?_ (ea_cons ?_ (ea_cons ?_ (ea_cons ?_ (ea_cons ?_ (ea_cons ?_ (ea_cons ?_ (ea_cons ?_ (ea_cons ?_ (ea_cons ?_ (ea_cons ?_ (ea_nil))))))))))))))))
    · exact og_eq (pt kk 0) rfl (fun f wf hq hd K hK => go_run rfl (wo_mv (.tmp 7) (pt kk 0) (fun _ => rfl) rfl (hK _ (Mo.refl _))))
    · exact og_eq (.int .i64 (1)) rfl (fun f wf hq hd K hK => go_run rfl (wo_mv (.tmp 2) (.int .i64 (1)) (fun _ => rfl) rfl (hK _ (Mo.refl _))))
    · exact og_eq (.int .i64 (0)) rfl (fun f wf hq hd K hK => go_run rfl (wo_bin (fun x y => do eqGuard .sub 3 (.const (.int .i64 (1))) (.tmp 18) x y; binOp .sub 3 x y) (.const (.int .i64 (1))) (.tmp 18) (.int .i64 (1)) (.int .i64 (1)) (.int .i64 (0)) (fun _ => rfl) rfl (hd 1 rfl) (subI (a := 1) (b := 1) (by decide) (by decide) _ _ _) (hK _ (Mo.refl _))))
    · exact og_eq (pt kk 0) rfl (fun f wf hq hd K hK => go_run rfl (wo_nc (.tmp 17) kk 0 rfl (hd 0 rfl) (hK _ (Mo.refl _))))
    · exact og_eq (pt kk 0) rfl (fun f wf hq hd K hK => go_run rfl (wo_un (fun v => Instr.fieldAt 66 v 0) (.tmp 20) (pt kk 0) (pt kk 0) (fun _ => rfl) (hd 3 rfl) (by kernel_rfl) (hK _ (Mo.refl _))))
    · exact og_eq (pt kk 1) rfl (fun f wf hq hd K hK => go_run rfl (wo_un (fun v => Instr.fieldAt 64 v 1) (.tmp 21) (pt kk 0) (pt kk 1) (fun _ => rfl) (hd 4 rfl) (by kernel_rfl) (hK _ (Mo.refl _))))
    · exact og_eq (pt kk 1) rfl (fun f wf hq hd K hK => go_run rfl (wo_bin (fun x y => Instr.indexAt 62 x y) (.tmp 22) (.tmp 19) (pt kk 1) (.int .i64 (0)) (pt kk 1) (fun _ => rfl) (hd 5 rfl) (hd 2 rfl) (by kernel_rfl) (hK _ (Mo.refl _))))
    · exact og_eq (pt j 0) rfl (fun f wf hq hd K hK => have hS := hS.mo hq; go_run rfl (wo_load 56 (.tmp 23) (pt kk 1) (pt j 0) rfl (hd 6 rfl) (run_one (hS.rc kk _ hkk) 56 1 rfl Try.underlying56 rfl) (hK _ (Mo.refl _))))
    · exact og_eq (pt kk 0) rfl (fun f wf hq hd K hK => go_run rfl (wo_mv (.tmp 7) (pt kk 0) (fun _ => rfl) rfl (hK _ (Mo.refl _))))
    · exact og_eq (.int .i64 (1)) rfl (fun f wf hq hd K hK => go_run rfl (wo_mv (.tmp 2) (.int .i64 (1)) (fun _ => rfl) rfl (hK _ (Mo.refl _))))
    · exact og_eq (pt kk 0) rfl (fun f wf hq hd K hK => go_run rfl (wo_nc (.tmp 25) kk 0 rfl (hd 8 rfl) (hK _ (Mo.refl _))))
    · exact og_eq (pt kk 0) rfl (fun f wf hq hd K hK => go_run rfl (wo_un (fun v => Instr.fieldAt 66 v 0) (.tmp 27) (pt kk 0) (pt kk 0) (fun _ => rfl) (hd 10 rfl) (by kernel_rfl) (hK _ (Mo.refl _))))
    · exact og_eq (pt kk 1) rfl (fun f wf hq hd K hK => go_run rfl (wo_un (fun v => Instr.fieldAt 64 v 1) (.tmp 28) (pt kk 0) (pt kk 1) (fun _ => rfl) (hd 11 rfl) (by kernel_rfl) (hK _ (Mo.refl _))))
    · exact og_eq (pt kk 2) rfl (fun f wf hq hd K hK => go_run rfl (wo_bin (fun x y => Instr.indexAt 62 x y) (.tmp 29) (.tmp 26) (pt kk 1) (.int .i64 (1)) (pt kk 2) (fun _ => rfl) (hd 12 rfl) (hd 9 rfl) (by kernel_rfl) (hK _ (Mo.refl _))))
    · exact og_eq (pp a.p) rfl (fun f wf hq hd K hK => have hS := hS.mo hq; go_run rfl (wo_load 56 (.tmp 30) (pt kk 2) (pp a.p) rfl (hd 13 rfl) (run_one (hS.rc kk _ hkk) 56 2 rfl Try.underlying56 rfl) (hK _ (Mo.refl _))))
    · exact og_eq (pt j 0) rfl (fun f wf hq hd K hK => go_run rfl (wo_mv (.tmp 24) (pt j 0) (fun _ => rfl) (hd 7 rfl) (hK _ (Mo.refl _))))
  intro kf1 w1 hq _ _
  replace hS := hS.mo hq
  replace M := M.trans hq
  clear hq
  refine wl_mv (.tmp 31) (pp a.p) (fun _ => rfl) rfl rfl ?_
  refine w_nil ?_
  refine xn_then ?_
  refine w_seq ?_
  refine w_reg ?_
  refine wl_mv (.tmp 0) (pt t 0) (fun _ => rfl) rfl rfl ?_
  refine wl_mv (.tmp 1) (pt k 0) (fun _ => rfl) rfl rfl ?_
  refine wl_nc (.tmp 33) k 0 rfl rfl rfl ?_
  refine wl_un (fun v => Instr.fieldAt 66 v 0) (.tmp 34) (pt k 0) (pt k 0) (fun _ => rfl) rfl (by kernel_rfl) rfl ?_
  refine wl_un (fun v => Instr.fieldAt 64 v 0) (.tmp 35) (pt k 0) (pt k 0) (fun _ => rfl) rfl (by kernel_rfl) rfl ?_
  refine wl_load 56 (.tmp 36) (pt k 0) (pp (top C)) rfl rfl (run_one (hS.rc k _ hk) 56 0 rfl Try.underlying56 rfl) rfl ?_
  refine wl_mv (.tmp 8) (pt j 0) (fun _ => rfl) rfl rfl ?_
  refine wl_mv (.tmp 9) (pp a.p) (fun _ => rfl) rfl rfl ?_
  refine wl_bsl [(0, (.tmp 37)), (1, (.tmp 38)), (2, (.tmp 39))] [pp (top C), pp (some j), pp a.p] 3 rfl rfl (bs3 (top C) (some j) a.p) rfl ?_
  intro g1 w2 hk hz hq Q1
  have nd_g1 : ¬ D g1 := fun e => by have := hS.lt e; omega
  replace hS := hS.mo hq
  replace M := M.trans hq
  clear hk hz hq
  refine wl_callg 39 [(.tmp 32), (.tmp 40)] _ [pt t 0, .slice (some ⟨g1, 0, none⟩) 3 3] (.tuple #[]) rfl rfl (fun _ _ => by kernel_rfl) (look_n [(top C), (some j), a.p] g1 hS Q1 nd_g1 (by simp only [List.length_cons, List.length_nil]; omega)) rfl ?_
  intro w3 hF
  have hc1 := cnt_le [(top C), (some j), a.p]
  simp only [List.length_cons, List.length_nil] at hc1
  obtain ⟨hS2, hM2⟩ := hF
  replace hS := hS2
  replace M := M.same hM2
  clear hS2 hM2 Q1 nd_g1
  refine w_nil ?_
  refine xn_then ?_
  refine w_seq ?_
  refine w_seq ?_
  refine w_reg ?_
  refine wl_mv (.tmp 8) (pt j 0) (fun _ => rfl) rfl rfl ?_
  refine wl_call 51 [(.tmp 42)] _ [pt j 0] (.int .i64 ((1 + c.sz + z.sz) + 1)) rfl rfl (fun _ _ => by kernel_rfl) (weight_o (x := some j) hS ⟨_, hj, ob.1⟩ (by omega) (by omega)) rfl ?_
  intro w4 hq
  replace hS := hS.mo hq
  replace M := M.trans hq
  clear hq
  refine wl_mv (.tmp 9) (pp a.p) (fun _ => rfl) rfl rfl ?_
  refine wl_call 51 [(.tmp 44)] _ [pp a.p] (.int .i64 (a.sz + 1)) rfl rfl (fun _ _ => by kernel_rfl) (weight_o hS (szo_of ha oa) h0a (by omega)) rfl ?_
  intro w5 hq
  replace hS := hS.mo hq
  replace M := M.trans hq
  clear hq
  refine wl_bin (fun x y => do eqGuard .mul 3 (.const (.int .i64 (2))) (.tmp 45) x y; binOp .mul 3 x y) (.const (.int .i64 (2))) (.tmp 45) (.int .i64 (2)) (.int .i64 (a.sz + 1)) (.int .i64 (2 * (a.sz + 1))) (fun _ => rfl) rfl rfl (mulI (by omega) (by omega) _ _ _) rfl ?_
  refine wl_bin (fun x y => do eqGuard .geq 3 (.tmp 43) (.tmp 46) x y; binOp .geq 3 x y) (.tmp 43) (.tmp 46) (.int .i64 ((1 + c.sz + z.sz) + 1)) (.int .i64 (2 * (a.sz + 1))) (.bool true) (fun _ => rfl) rfl rfl (geI hge _ _ _) rfl ?_
  refine w_nil ?_
  refine xn_then ?_
  refine w_condT rfl ?_
  refine w_seq ?_
  refine w_any 13 [.inl (pt t 0), .inl (pt j 0), .inl (pt j 0), .inl (pt j 0), .inl (pt j 1), .inl (pt j 1), .inl (pp c.p), .inl (pt j 0), .inl (pt j 0), .inl (pt j 0), .inl (pt j 1), .inl (pt j 2), .inl (pp z.p)] [0] (by kernel_rfl) (by kernel_rfl) (by kernel_rfl) (by kernel_rfl) rfl (by kernel_rfl) (by kernel_rfl) (late_cons ⟨_, _, rfl, rfl, fun _ _ _ _ h => h, fun f hd => ⟨rfl, la_mv (.tmp 0) (pt t 0) (fun _ => rfl) rfl⟩⟩ late_nil) ?_ ?_ ?_
  · exact Ds.none rfl
  · refine ea_cons ?_ (ea_cons ?_ (ea_cons ?_ (ea_cons ?_ (ea_cons ?_ (ea_cons ?_ (ea_cons ?_ (ea_cons ?_ (ea_cons ?_ (ea_cons ?_ (ea_cons ?_ (ea_cons ?_ (ea_cons ?_ (ea_nil)))))))))))))
    · exact og_eq (pt t 0) rfl (fun f wf hq hd K hK => go_run rfl (wo_mv (.tmp 0) (pt t 0) (fun _ => rfl) rfl (hK _ (Mo.refl _))))
    · exact og_eq (pt j 0) rfl (fun f wf hq hd K hK => go_run rfl (wo_mv (.tmp 8) (pt j 0) (fun _ => rfl) rfl (hK _ (Mo.refl _))))
    · exact og_eq (pt j 0) rfl (fun f wf hq hd K hK => go_run rfl (wo_nc (.tmp 49) j 0 rfl (hd 1 rfl) (hK _ (Mo.refl _))))
    · exact og_eq (pt j 0) rfl (fun f wf hq hd K hK => go_run rfl (wo_un (fun v => Instr.fieldAt 66 v 0) (.tmp 50) (pt j 0) (pt j 0) (fun _ => rfl) (hd 2 rfl) (by kernel_rfl) (hK _ (Mo.refl _))))
    · exact og_eq (pt j 1) rfl (fun f wf hq hd K hK => go_run rfl (wo_un (fun v => Instr.fieldAt 64 v 1) (.tmp 51) (pt j 0) (pt j 1) (fun _ => rfl) (hd 3 rfl) (by kernel_rfl) (hK _ (Mo.refl _))))
    · exact og_eq (pt j 1) rfl (fun f wf hq hd K hK => go_run rfl (wo_bin (fun x y => Instr.indexAt 62 x y) (.tmp 52) (.const (.int .i64 (0))) (pt j 1) (.int .i64 (0)) (pt j 1) (fun _ => rfl) (hd 4 rfl) rfl (by kernel_rfl) (hK _ (Mo.refl _))))
    · exact og_eq (pp c.p) rfl (fun f wf hq hd K hK => have hS := hS.mo hq; go_run rfl (wo_load 56 (.tmp 53) (pt j 1) (pp c.p) rfl (hd 5 rfl) (run_one (hS.rc j _ hj) 56 1 rfl Try.underlying56 rfl) (hK _ (Mo.refl _))))
    · exact og_eq (pt j 0) rfl (fun f wf hq hd K hK => go_run rfl (wo_mv (.tmp 8) (pt j 0) (fun _ => rfl) rfl (hK _ (Mo.refl _))))
    · exact og_eq (pt j 0) rfl (fun f wf hq hd K hK => go_run rfl (wo_nc (.tmp 55) j 0 rfl (hd 7 rfl) (hK _ (Mo.refl _))))
    · exact og_eq (pt j 0) rfl (fun f wf hq hd K hK => go_run rfl (wo_un (fun v => Instr.fieldAt 66 v 0) (.tmp 56) (pt j 0) (pt j 0) (fun _ => rfl) (hd 8 rfl) (by kernel_rfl) (hK _ (Mo.refl _))))
    · exact og_eq (pt j 1) rfl (fun f wf hq hd K hK => go_run rfl (wo_un (fun v => Instr.fieldAt 64 v 1) (.tmp 57) (pt j 0) (pt j 1) (fun _ => rfl) (hd 9 rfl) (by kernel_rfl) (hK _ (Mo.refl _))))
    · exact og_eq (pt j 2) rfl (fun f wf hq hd K hK => go_run rfl (wo_bin (fun x y => Instr.indexAt 62 x y) (.tmp 58) (.const (.int .i64 (1))) (pt j 1) (.int .i64 (1)) (pt j 2) (fun _ => rfl) (hd 10 rfl) rfl (by kernel_rfl) (hK _ (Mo.refl _))))
    · exact og_eq (pp z.p) rfl (fun f wf hq hd K hK => have hS := hS.mo hq; go_run rfl (wo_load 56 (.tmp 59) (pt j 2) (pp z.p) rfl (hd 11 rfl) (run_one (hS.rc j _ hj) 56 2 rfl Try.underlying56 rfl) (hK _ (Mo.refl _))))
  intro kf6 w6 hq _ _
  replace hS := hS.mo hq
  replace M := M.trans hq
  clear hq
  refine wl_bsl [(0, (.tmp 54)), (1, (.tmp 60))] [pp c.p, pp z.p] 2 rfl rfl (bs2 c.p z.p) rfl ?_
  intro g2 w7 hk hz hq Q2
  have nd_g2 : ¬ D g2 := fun e => by have := hS.lt e; omega
  replace hS := hS.mo hq
  replace M := M.trans hq
  clear hk hz hq
  refine wl_callg 39 [(.tmp 48), (.tmp 61)] _ [pt t 0, .slice (some ⟨g2, 0, none⟩) 2 2] (.tuple #[]) rfl rfl (fun _ _ => by kernel_rfl) (look_n [c.p, z.p] g2 hS Q2 nd_g2 (by simp only [List.length_cons, List.length_nil]; omega)) rfl ?_
  intro w8 hF
  have hc2 := cnt_le [c.p, z.p]
  simp only [List.length_cons, List.length_nil] at hc2
  obtain ⟨hS2, hM2⟩ := hF
  replace hS := hS2
  replace M := M.same hM2
  clear hS2 hM2 Q2 nd_g2
  refine w_nil ?_
  refine xn_then ?_
  refine w_reg ?_
  refine wl_mv (.tmp 0) (pt t 0) (fun _ => rfl) rfl rfl ?_
  refine wl_mv (.tmp 7) (pt kk 0) (fun _ => rfl) rfl rfl ?_
  refine wl_mv (.tmp 2) (.int .i64 (1)) (fun _ => rfl) rfl rfl ?_
  refine wl_bin (fun x y => do eqGuard .sub 3 (.const (.int .i64 (1))) (.tmp 65) x y; binOp .sub 3 x y) (.const (.int .i64 (1))) (.tmp 65) (.int .i64 (1)) (.int .i64 (1)) (.int .i64 (0)) (fun _ => rfl) rfl rfl (subI (a := 1) (b := 1) (by decide) (by decide) _ _ _) rfl ?_
  refine wl_callg 52 [(.tmp 63), (.tmp 64), (.tmp 66)] _ [pt t 0, pt kk 0, .int .i64 (0)] (pt j 0) rfl rfl (fun _ _ => by kernel_rfl) (turnL (C := (⟨k, i, s, true, r⟩ : Fr) :: C) (TS.dn (f := (⟨k, i, s, true, r⟩ : Fr)) ⟨R, root, hS, hC, hR, hn⟩) ob.2.1 ob.2.2 oa (by omega) (by omega) (by omega)) rfl ?_
  intro w9 hF
  obtain ⟨hT, hM2⟩ := hF
  replace M := M.same hM2
  replace hT := hT.up
  change TS D _ t mb C (.n k i s r _) _ at hT
  clear hM2
  refine w_nil ?_
  refine xn_then ?_
  refine w_seq ?_
  refine w_reg ?_
  refine wl_mv (.tmp 0) (pt t 0) (fun _ => rfl) rfl rfl ?_
  refine wl_mv (.tmp 1) (pt k 0) (fun _ => rfl) rfl rfl ?_
  refine wl_mv (.tmp 2) (.int .i64 (1)) (fun _ => rfl) rfl rfl ?_
  refine wl_callg 52 [(.tmp 68), (.tmp 69), (.tmp 70)] _ [pt t 0, pt k 0, .int .i64 (1)] (pt j 0) rfl rfl (fun _ _ => by kernel_rfl) (turnR hT ⟨rfl, ob.2.2, oa⟩ ob.2.1 or (by simp only [T.sz]; omega) (by omega) (by omega)) rfl ?_
  intro w10 hF
  obtain ⟨hT, hM2⟩ := hF
  replace M := M.same hM2
  clear hM2
  refine wl_mv (.tmp 71) (pt j 0) (fun _ => rfl) rfl rfl ?_
  refine w_nil ?_
  refine xn_then ?_
  refine w_ret ?_
  exact w_ret1 _ (pt j 0) rfl rfl ⟨rfl, (((lk) + cnt [(top C), (some j), a.p]) + cnt [c.p, z.p]), by omega, by omega, hT, M⟩
end
end Go.Proofs.Ytbmbldloeblbbaa
