/-
  A part of the proof.
-/
import Derived.Test.YthfemlhmnjfjiaaC6
import Derived.Test.YthfemlhmnjfjiaaC5
import Derived.Maps.OwnSet
import Derived.WalkArith
import Derived.Laws.MakeOwn
/-
  The tree's lighten: a single or a double turn.
-/
namespace Go.Proofs.Ythfemlhmnjfjiaa
open Go.RowKit
namespace G
section
variable {D : Nat → Prop} {w : World} {t : Nat} {mb : Hd} {lk : Int}
theorem lightS0 {C : Cx} {k kk : Nat} {i ii : Py} {s ss : Int} {a b r : T} (h : TS D w t mb C (.n k i s (.n kk ii ss a b) r) lk) (oa : a.ok) (ob : b.ok) (or : r.ok) (ba : a.sz ≤ 10000) (bb : b.sz ≤ 10000) (br : r.sz ≤ 10000) (hge : decide (2 * (a.sz + 1) ≤ b.sz + 1) = false) (hss : s = 1 + (1 + a.sz + b.sz) + r.sz) (hlk : 0 ≤ lk ∧ lk ≤ 4000000000000000000) :
    Calls Try.prog 61 #[pt t 0, pt k 0, .int .i64 0] w fun e w' => e = .returned (pt kk 0) ∧ ∃ lk', lk ≤ lk' ∧ lk' ≤ lk + 5 ∧ TS D w' t mb C (.n kk ii (1 + a.sz + (1 + b.sz + r.sz)) a (.n k i (1 + b.sz + r.sz) b r)) lk' ∧ Mk D w w' := by
  obtain ⟨R, root, hS, hAp, hC, hR, hn⟩ := h
  have hR0 := hR
  obtain ⟨⟨hd1, hk⟩, ⟨⟨hd2, hkk⟩, ha, hb⟩, hr⟩ := hR
  have hR := hR0
  have h0a := T.sz_nn a; have h0r := T.sz_nn r; have h0b := T.sz_nn b
  refine w_enter 66 Try.func61 Try.ntmps61 rfl rfl ?_
  have M : Mk D w w := Mk.refl _ _
  refine w_seq ?_
  refine w_reg ?_
  refine wl_mv (.const (.pointer none)) (pp none) (fun _ => rfl) rfl rfl ?_
  refine w_nil ?_
  refine xn_then ?_
  refine w_seq ?_
  refine w_reg ?_
  refine wl_mv (.tmp 1) (pt k 0) (fun _ => rfl) rfl rfl ?_
  refine wl_mv (.tmp 2) (.int .i64 (0)) (fun _ => rfl) rfl rfl ?_
  refine wl_nc (.tmp 10) k 0 rfl rfl rfl ?_
  refine wl_un (fun v => Instr.fieldAt 93 v 2) (.tmp 12) (pt k 0) (pt k 3) (fun _ => rfl) rfl (by kernel_rfl) rfl ?_
  refine wl_bin (fun x y => Instr.indexAt 91 x y) (.tmp 13) (.tmp 11) (pt k 3) (.int .i64 (0)) (pt k 3) (fun _ => rfl) rfl rfl (by kernel_rfl) rfl ?_
  refine wl_load 65 (.tmp 14) (pt k 3) (pt kk 0) rfl rfl (run_one (hS.rc k _ hk) 65 3 rfl Try.underlying65 rfl) rfl ?_
  refine wl_mv (.tmp 15) (pt kk 0) (fun _ => rfl) rfl rfl ?_
  refine w_nil ?_
  refine xn_then ?_
  refine w_seq ?_
  refine w_any 14 [.inl (pt kk 0), .inl (.int .i64 (0)), .inl (.int .i64 (1)), .inl (pt kk 0), .inl (pt kk 3), .inl (pt kk 4), .inl (pp b.p), .inl (pt kk 0), .inl (.int .i64 (0)), .inl (pt kk 0), .inl (pt kk 3), .inl (pt kk 3), .inl (pp a.p), .inl (pp b.p)] [] (by kernel_rfl) (by kernel_rfl) (by kernel_rfl) (by kernel_rfl) rfl (by kernel_rfl) (by kernel_rfl) late_nil ?_ ?_ ?_
  · exact Ds.none rfl
  · refine ea_cons ?_ (ea_cons ?_ (ea_cons ?_ (ea_cons ?_ (ea_cons ?_ (ea_cons ?_ (ea_cons ?_ (ea_cons ?_ (ea_cons ?_ (ea_cons ?_ (ea_cons ?_ (ea_cons ?_ (ea_cons ?_ (ea_cons ?_ (ea_nil))))))))))))))
    · exact og_eq (pt kk 0) rfl (fun f wf hq hd K hK => go_run rfl (wo_mv (.tmp 7) (pt kk 0) (fun _ => rfl) rfl (hK _ (Mo.refl _))))
    · exact og_eq (.int .i64 (0)) rfl (fun f wf hq hd K hK => go_run rfl (wo_mv (.tmp 2) (.int .i64 (0)) (fun _ => rfl) rfl (hK _ (Mo.refl _))))
    · exact og_eq (.int .i64 (1)) rfl (fun f wf hq hd K hK => go_run rfl (wo_bin (fun x y => do eqGuard .sub 3 (.const (.int .i64 (1))) (.tmp 17) x y; binOp .sub 3 x y) (.const (.int .i64 (1))) (.tmp 17) (.int .i64 (1)) (.int .i64 (0)) (.int .i64 (1)) (fun _ => rfl) rfl (hd 1 rfl) (subI (a := 1) (b := 0) (by decide) (by decide) _ _ _) (hK _ (Mo.refl _))))
    · exact og_eq (pt kk 0) rfl (fun f wf hq hd K hK => go_run rfl (wo_nc (.tmp 16) kk 0 rfl (hd 0 rfl) (hK _ (Mo.refl _))))
    · exact og_eq (pt kk 3) rfl (fun f wf hq hd K hK => go_run rfl (wo_un (fun v => Instr.fieldAt 93 v 2) (.tmp 19) (pt kk 0) (pt kk 3) (fun _ => rfl) (hd 3 rfl) (by kernel_rfl) (hK _ (Mo.refl _))))
    · exact og_eq (pt kk 4) rfl (fun f wf hq hd K hK => go_run rfl (wo_bin (fun x y => Instr.indexAt 91 x y) (.tmp 20) (.tmp 18) (pt kk 3) (.int .i64 (1)) (pt kk 4) (fun _ => rfl) (hd 4 rfl) (hd 2 rfl) (by kernel_rfl) (hK _ (Mo.refl _))))
    · exact og_eq (pp b.p) rfl (fun f wf hq hd K hK => have hS := hS.mo hq; go_run rfl (wo_load 65 (.tmp 21) (pt kk 4) (pp b.p) rfl (hd 5 rfl) (run_one (hS.rc kk _ hkk) 65 4 rfl Try.underlying65 rfl) (hK _ (Mo.refl _))))
    · exact og_eq (pt kk 0) rfl (fun f wf hq hd K hK => go_run rfl (wo_mv (.tmp 7) (pt kk 0) (fun _ => rfl) rfl (hK _ (Mo.refl _))))
    · exact og_eq (.int .i64 (0)) rfl (fun f wf hq hd K hK => go_run rfl (wo_mv (.tmp 2) (.int .i64 (0)) (fun _ => rfl) rfl (hK _ (Mo.refl _))))
    · exact og_eq (pt kk 0) rfl (fun f wf hq hd K hK => go_run rfl (wo_nc (.tmp 23) kk 0 rfl (hd 7 rfl) (hK _ (Mo.refl _))))
    · exact og_eq (pt kk 3) rfl (fun f wf hq hd K hK => go_run rfl (wo_un (fun v => Instr.fieldAt 93 v 2) (.tmp 25) (pt kk 0) (pt kk 3) (fun _ => rfl) (hd 9 rfl) (by kernel_rfl) (hK _ (Mo.refl _))))
    · exact og_eq (pt kk 3) rfl (fun f wf hq hd K hK => go_run rfl (wo_bin (fun x y => Instr.indexAt 91 x y) (.tmp 26) (.tmp 24) (pt kk 3) (.int .i64 (0)) (pt kk 3) (fun _ => rfl) (hd 10 rfl) (hd 8 rfl) (by kernel_rfl) (hK _ (Mo.refl _))))
    · exact og_eq (pp a.p) rfl (fun f wf hq hd K hK => have hS := hS.mo hq; go_run rfl (wo_load 65 (.tmp 27) (pt kk 3) (pp a.p) rfl (hd 11 rfl) (run_one (hS.rc kk _ hkk) 65 3 rfl Try.underlying65 rfl) (hK _ (Mo.refl _))))
    · exact og_eq (pp b.p) rfl (fun f wf hq hd K hK => go_run rfl (wo_mv (.tmp 22) (pp b.p) (fun _ => rfl) (hd 6 rfl) (hK _ (Mo.refl _))))
  intro kf1 w1 hq _ _
  replace hS := hS.mo hq
  replace M := M.trans hq
  clear hq
  refine wl_mv (.tmp 28) (pp a.p) (fun _ => rfl) rfl rfl ?_
  refine w_nil ?_
  refine xn_then ?_
  refine w_seq ?_
  refine w_reg ?_
  refine wl_mv (.tmp 0) (pt t 0) (fun _ => rfl) rfl rfl ?_
  refine wl_mv (.tmp 1) (pt k 0) (fun _ => rfl) rfl rfl ?_
  refine wl_nc (.tmp 30) k 0 rfl rfl rfl ?_
  refine wl_un (fun v => Instr.fieldAt 93 v 1) (.tmp 31) (pt k 0) (pt k 2) (fun _ => rfl) rfl (by kernel_rfl) rfl ?_
  refine wl_load 65 (.tmp 32) (pt k 2) (pp (top C)) rfl rfl (run_one (hS.rc k _ hk) 65 2 rfl Try.underlying65 rfl) rfl ?_
  refine wl_mv (.tmp 8) (pp b.p) (fun _ => rfl) rfl rfl ?_
  refine wl_mv (.tmp 9) (pp a.p) (fun _ => rfl) rfl rfl ?_
  refine wl_bsl [(0, (.tmp 33)), (1, (.tmp 34)), (2, (.tmp 35))] [pp (top C), pp b.p, pp a.p] 3 rfl rfl (bs3 (top C) b.p a.p) rfl ?_
  intro g1 w2 hk hz hq Q1
  have nd_g1 : ¬ D g1 := fun e => by have := hS.lt e; omega
  replace hS := hS.mo hq
  replace M := M.trans hq
  clear hk hz hq
  refine wl_callg 34 [(.tmp 29), (.tmp 36)] _ [pt t 0, .slice (some ⟨g1, 0, none⟩) 3 3] (.tuple #[]) rfl rfl (fun _ _ => by kernel_rfl) (look_n [(top C), b.p, a.p] g1 hS Q1 nd_g1 (by simp only [List.length_cons, List.length_nil]; omega)) rfl ?_
  intro w3 hF
  have hc1 := cnt_le [(top C), b.p, a.p]
  simp only [List.length_cons, List.length_nil] at hc1
  obtain ⟨hS2, hM2⟩ := hF
  replace hS := hS2
  replace M := M.same hM2
  clear hS2 hM2 Q1 nd_g1
  refine w_nil ?_
  refine xn_then ?_
  refine w_seq ?_
  refine w_seq ?_
  refine w_reg ?_
  refine wl_mv (.tmp 8) (pp b.p) (fun _ => rfl) rfl rfl ?_
  refine wl_call 72 [(.tmp 38)] _ [pp b.p] (.int .i64 (b.sz + 1)) rfl rfl (fun _ _ => by kernel_rfl) (weight_o hS (szo_of hb ob) h0b (by omega)) rfl ?_
  intro w4 hq
  replace hS := hS.mo hq
  replace M := M.trans hq
  clear hq
  refine wl_mv (.tmp 9) (pp a.p) (fun _ => rfl) rfl rfl ?_
  refine wl_call 72 [(.tmp 40)] _ [pp a.p] (.int .i64 (a.sz + 1)) rfl rfl (fun _ _ => by kernel_rfl) (weight_o hS (szo_of ha oa) h0a (by omega)) rfl ?_
  intro w5 hq
  replace hS := hS.mo hq
  replace M := M.trans hq
  clear hq
  refine wl_bin (fun x y => do eqGuard .mul 3 (.const (.int .i64 (2))) (.tmp 41) x y; binOp .mul 3 x y) (.const (.int .i64 (2))) (.tmp 41) (.int .i64 (2)) (.int .i64 (a.sz + 1)) (.int .i64 (2 * (a.sz + 1))) (fun _ => rfl) rfl rfl (mulI (by omega) (by omega) _ _ _) rfl ?_
  refine wl_bin (fun x y => do eqGuard .geq 3 (.tmp 39) (.tmp 42) x y; binOp .geq 3 x y) (.tmp 39) (.tmp 42) (.int .i64 (b.sz + 1)) (.int .i64 (2 * (a.sz + 1))) (.bool false) (fun _ => rfl) rfl rfl (geI hge _ _ _) rfl ?_
  refine w_nil ?_
  refine xn_then ?_
  refine w_condF rfl ?_
  refine w_skip ?_
  refine xn_then ?_
  refine w_seq ?_
  refine w_reg ?_
  refine wl_mv (.tmp 0) (pt t 0) (fun _ => rfl) rfl rfl ?_
  refine wl_mv (.tmp 1) (pt k 0) (fun _ => rfl) rfl rfl ?_
  refine wl_mv (.tmp 2) (.int .i64 (0)) (fun _ => rfl) rfl rfl ?_
  refine wl_callg 73 [(.tmp 62), (.tmp 63), (.tmp 64)] _ [pt t 0, pt k 0, .int .i64 (0)] (pt kk 0) rfl rfl (fun _ _ => by kernel_rfl) (turnL (R := R) (root := root) ⟨hS, hAp, hC, hR, hn⟩ oa ob or (by omega) (by omega) (by omega) (by omega)) rfl ?_
  intro w6 hF
  obtain ⟨⟨R9, root9, hT, _⟩, hM2⟩ := hF
  replace M := M.same hM2
  clear hM2
  refine wl_mv (.tmp 65) (pt kk 0) (fun _ => rfl) rfl rfl ?_
  refine w_nil ?_
  refine xn_then ?_
  refine w_ret ?_
  exact w_ret1 _ (pt kk 0) rfl rfl ⟨rfl, ((lk) + cnt [(top C), b.p, a.p]), by omega, by omega, ⟨_, _, hT⟩, M⟩
theorem lightD0 {C : Cx} {k kk j : Nat} {i ii jj : Py} {s ss js : Int} {a c z r : T} (h : TS D w t mb C (.n k i s (.n kk ii ss a (.n j jj js c z)) r) lk) (oa : a.ok) (ob : (T.n j jj js c z).ok) (or : r.ok) (ba : a.sz ≤ 10000) (bb : c.sz ≤ 10000 ∧ z.sz ≤ 10000) (br : r.sz ≤ 10000) (hge : decide (2 * (a.sz + 1) ≤ (1 + c.sz + z.sz) + 1) = true) (hss : s = 1 + (1 + a.sz + (1 + c.sz + z.sz)) + r.sz) (hkss : ss = 1 + a.sz + (1 + c.sz + z.sz)) (hlk : 0 ≤ lk ∧ lk ≤ 4000000000000000000) :
    Calls Try.prog 61 #[pt t 0, pt k 0, .int .i64 0] w fun e w' => e = .returned (pt j 0) ∧ ∃ lk', lk ≤ lk' ∧ lk' ≤ lk + 5 ∧ TS D w' t mb C (.n j jj (1 + (1 + a.sz + c.sz) + (1 + z.sz + r.sz)) (.n kk ii (1 + a.sz + c.sz) a c) (.n k i (1 + z.sz + r.sz) z r)) lk' ∧ Mk D w w' := by
  obtain ⟨R, root, hS, hAp, hC, hR, hn⟩ := h
  have hR0 := hR
  obtain ⟨⟨hd1, hk⟩, ⟨⟨hd2, hkk⟩, ha, ⟨hd3, hj⟩, hcc, hz⟩, hr⟩ := hR
  have hR := hR0
  have h0a := T.sz_nn a; have h0r := T.sz_nn r; have h0c := T.sz_nn c; have h0z := T.sz_nn z
  refine w_enter 66 Try.func61 Try.ntmps61 rfl rfl ?_
  have M : Mk D w w := Mk.refl _ _
  refine w_seq ?_
  refine w_reg ?_
  refine wl_mv (.const (.pointer none)) (pp none) (fun _ => rfl) rfl rfl ?_
  refine w_nil ?_
  refine xn_then ?_
  refine w_seq ?_
  refine w_reg ?_
  refine wl_mv (.tmp 1) (pt k 0) (fun _ => rfl) rfl rfl ?_
  refine wl_mv (.tmp 2) (.int .i64 (0)) (fun _ => rfl) rfl rfl ?_
  refine wl_nc (.tmp 10) k 0 rfl rfl rfl ?_
  refine wl_un (fun v => Instr.fieldAt 93 v 2) (.tmp 12) (pt k 0) (pt k 3) (fun _ => rfl) rfl (by kernel_rfl) rfl ?_
  refine wl_bin (fun x y => Instr.indexAt 91 x y) (.tmp 13) (.tmp 11) (pt k 3) (.int .i64 (0)) (pt k 3) (fun _ => rfl) rfl rfl (by kernel_rfl) rfl ?_
  refine wl_load 65 (.tmp 14) (pt k 3) (pt kk 0) rfl rfl (run_one (hS.rc k _ hk) 65 3 rfl Try.underlying65 rfl) rfl ?_
  refine wl_mv (.tmp 15) (pt kk 0) (fun _ => rfl) rfl rfl ?_
  refine w_nil ?_
  refine xn_then ?_
  refine w_seq ?_
  refine w_any 14 [.inl (pt kk 0), .inl (.int .i64 (0)), .inl (.int .i64 (1)), .inl (pt kk 0), .inl (pt kk 3), .inl (pt kk 4), .inl (pt j 0), .inl (pt kk 0), .inl (.int .i64 (0)), .inl (pt kk 0), .inl (pt kk 3), .inl (pt kk 3), .inl (pp a.p), .inl (pt j 0)] [] (by kernel_rfl) (by kernel_rfl) (by kernel_rfl) (by kernel_rfl) rfl (by kernel_rfl) (by kernel_rfl) late_nil ?_ ?_ ?_
  · exact Ds.none rfl
  · refine ea_cons ?_ (ea_cons ?_ (ea_cons ?_ (ea_cons ?_ (ea_cons ?_ (ea_cons ?_ (ea_cons ?_ (ea_cons ?_ (ea_cons ?_ (ea_cons ?_ (ea_cons ?_ (ea_cons ?_ (ea_cons ?_ (ea_cons ?_ (ea_nil))))))))))))))
    · exact og_eq (pt kk 0) rfl (fun f wf hq hd K hK => go_run rfl (wo_mv (.tmp 7) (pt kk 0) (fun _ => rfl) rfl (hK _ (Mo.refl _))))
    · exact og_eq (.int .i64 (0)) rfl (fun f wf hq hd K hK => go_run rfl (wo_mv (.tmp 2) (.int .i64 (0)) (fun _ => rfl) rfl (hK _ (Mo.refl _))))
    · exact og_eq (.int .i64 (1)) rfl (fun f wf hq hd K hK => go_run rfl (wo_bin (fun x y => do eqGuard .sub 3 (.const (.int .i64 (1))) (.tmp 17) x y; binOp .sub 3 x y) (.const (.int .i64 (1))) (.tmp 17) (.int .i64 (1)) (.int .i64 (0)) (.int .i64 (1)) (fun _ => rfl) rfl (hd 1 rfl) (subI (a := 1) (b := 0) (by decide) (by decide) _ _ _) (hK _ (Mo.refl _))))
    · exact og_eq (pt kk 0) rfl (fun f wf hq hd K hK => go_run rfl (wo_nc (.tmp 16) kk 0 rfl (hd 0 rfl) (hK _ (Mo.refl _))))
    · exact og_eq (pt kk 3) rfl (fun f wf hq hd K hK => go_run rfl (wo_un (fun v => Instr.fieldAt 93 v 2) (.tmp 19) (pt kk 0) (pt kk 3) (fun _ => rfl) (hd 3 rfl) (by kernel_rfl) (hK _ (Mo.refl _))))
    · exact og_eq (pt kk 4) rfl (fun f wf hq hd K hK => go_run rfl (wo_bin (fun x y => Instr.indexAt 91 x y) (.tmp 20) (.tmp 18) (pt kk 3) (.int .i64 (1)) (pt kk 4) (fun _ => rfl) (hd 4 rfl) (hd 2 rfl) (by kernel_rfl) (hK _ (Mo.refl _))))
    · exact og_eq (pt j 0) rfl (fun f wf hq hd K hK => have hS := hS.mo hq; go_run rfl (wo_load 65 (.tmp 21) (pt kk 4) (pt j 0) rfl (hd 5 rfl) (run_one (hS.rc kk _ hkk) 65 4 rfl Try.underlying65 rfl) (hK _ (Mo.refl _))))
    · exact og_eq (pt kk 0) rfl (fun f wf hq hd K hK => go_run rfl (wo_mv (.tmp 7) (pt kk 0) (fun _ => rfl) rfl (hK _ (Mo.refl _))))
    · exact og_eq (.int .i64 (0)) rfl (fun f wf hq hd K hK => go_run rfl (wo_mv (.tmp 2) (.int .i64 (0)) (fun _ => rfl) rfl (hK _ (Mo.refl _))))
    · exact og_eq (pt kk 0) rfl (fun f wf hq hd K hK => go_run rfl (wo_nc (.tmp 23) kk 0 rfl (hd 7 rfl) (hK _ (Mo.refl _))))
    · exact og_eq (pt kk 3) rfl (fun f wf hq hd K hK => go_run rfl (wo_un (fun v => Instr.fieldAt 93 v 2) (.tmp 25) (pt kk 0) (pt kk 3) (fun _ => rfl) (hd 9 rfl) (by kernel_rfl) (hK _ (Mo.refl _))))
    · exact og_eq (pt kk 3) rfl (fun f wf hq hd K hK => go_run rfl (wo_bin (fun x y => Instr.indexAt 91 x y) (.tmp 26) (.tmp 24) (pt kk 3) (.int .i64 (0)) (pt kk 3) (fun _ => rfl) (hd 10 rfl) (hd 8 rfl) (by kernel_rfl) (hK _ (Mo.refl _))))
    · exact og_eq (pp a.p) rfl (fun f wf hq hd K hK => have hS := hS.mo hq; go_run rfl (wo_load 65 (.tmp 27) (pt kk 3) (pp a.p) rfl (hd 11 rfl) (run_one (hS.rc kk _ hkk) 65 3 rfl Try.underlying65 rfl) (hK _ (Mo.refl _))))
    · exact og_eq (pt j 0) rfl (fun f wf hq hd K hK => go_run rfl (wo_mv (.tmp 22) (pt j 0) (fun _ => rfl) (hd 6 rfl) (hK _ (Mo.refl _))))
  intro kf1 w1 hq _ _
  replace hS := hS.mo hq
  replace M := M.trans hq
  clear hq
  refine wl_mv (.tmp 28) (pp a.p) (fun _ => rfl) rfl rfl ?_
  refine w_nil ?_
  refine xn_then ?_
  refine w_seq ?_
  refine w_reg ?_
  refine wl_mv (.tmp 0) (pt t 0) (fun _ => rfl) rfl rfl ?_
  refine wl_mv (.tmp 1) (pt k 0) (fun _ => rfl) rfl rfl ?_
  refine wl_nc (.tmp 30) k 0 rfl rfl rfl ?_
  refine wl_un (fun v => Instr.fieldAt 93 v 1) (.tmp 31) (pt k 0) (pt k 2) (fun _ => rfl) rfl (by kernel_rfl) rfl ?_
  refine wl_load 65 (.tmp 32) (pt k 2) (pp (top C)) rfl rfl (run_one (hS.rc k _ hk) 65 2 rfl Try.underlying65 rfl) rfl ?_
  refine wl_mv (.tmp 8) (pt j 0) (fun _ => rfl) rfl rfl ?_
  refine wl_mv (.tmp 9) (pp a.p) (fun _ => rfl) rfl rfl ?_
  refine wl_bsl [(0, (.tmp 33)), (1, (.tmp 34)), (2, (.tmp 35))] [pp (top C), pp (some j), pp a.p] 3 rfl rfl (bs3 (top C) (some j) a.p) rfl ?_
  intro g1 w2 hk hz hq Q1
  have nd_g1 : ¬ D g1 := fun e => by have := hS.lt e; omega
  replace hS := hS.mo hq
  replace M := M.trans hq
  clear hk hz hq
  refine wl_callg 34 [(.tmp 29), (.tmp 36)] _ [pt t 0, .slice (some ⟨g1, 0, none⟩) 3 3] (.tuple #[]) rfl rfl (fun _ _ => by kernel_rfl) (look_n [(top C), (some j), a.p] g1 hS Q1 nd_g1 (by simp only [List.length_cons, List.length_nil]; omega)) rfl ?_
  intro w3 hF
  have hc1 := cnt_le [(top C), (some j), a.p]
  simp only [List.length_cons, List.length_nil] at hc1
  obtain ⟨hS2, hM2⟩ := hF
  replace hS := hS2
  replace M := M.same hM2
  clear hS2 hM2 Q1 nd_g1
  refine w_nil ?_
  refine xn_then ?_
  refine w_seq ?_
  refine w_seq ?_
  refine w_reg ?_
  refine wl_mv (.tmp 8) (pt j 0) (fun _ => rfl) rfl rfl ?_
  refine wl_call 72 [(.tmp 38)] _ [pt j 0] (.int .i64 ((1 + c.sz + z.sz) + 1)) rfl rfl (fun _ _ => by kernel_rfl) (weight_o (x := some j) hS ⟨_, hj, ob.1⟩ (by omega) (by omega)) rfl ?_
  intro w4 hq
  replace hS := hS.mo hq
  replace M := M.trans hq
  clear hq
  refine wl_mv (.tmp 9) (pp a.p) (fun _ => rfl) rfl rfl ?_
  refine wl_call 72 [(.tmp 40)] _ [pp a.p] (.int .i64 (a.sz + 1)) rfl rfl (fun _ _ => by kernel_rfl) (weight_o hS (szo_of ha oa) h0a (by omega)) rfl ?_
  intro w5 hq
  replace hS := hS.mo hq
  replace M := M.trans hq
  clear hq
  refine wl_bin (fun x y => do eqGuard .mul 3 (.const (.int .i64 (2))) (.tmp 41) x y; binOp .mul 3 x y) (.const (.int .i64 (2))) (.tmp 41) (.int .i64 (2)) (.int .i64 (a.sz + 1)) (.int .i64 (2 * (a.sz + 1))) (fun _ => rfl) rfl rfl (mulI (by omega) (by omega) _ _ _) rfl ?_
  refine wl_bin (fun x y => do eqGuard .geq 3 (.tmp 39) (.tmp 42) x y; binOp .geq 3 x y) (.tmp 39) (.tmp 42) (.int .i64 ((1 + c.sz + z.sz) + 1)) (.int .i64 (2 * (a.sz + 1))) (.bool true) (fun _ => rfl) rfl rfl (geI hge _ _ _) rfl ?_
  refine w_nil ?_
  refine xn_then ?_
  refine w_condT rfl ?_
  refine w_seq ?_
  refine w_any 11 [.inl (pt t 0), .inl (pt j 0), .inl (pt j 0), .inl (pt j 3), .inl (pt j 3), .inl (pp c.p), .inl (pt j 0), .inl (pt j 0), .inl (pt j 3), .inl (pt j 4), .inl (pp z.p)] [0] (by kernel_rfl) (by kernel_rfl) (by kernel_rfl) (by kernel_rfl) rfl (by kernel_rfl) (by kernel_rfl) (late_cons ⟨_, _, rfl, rfl, fun _ _ _ _ h => h, fun f hd => ⟨rfl, la_mv (.tmp 0) (pt t 0) (fun _ => rfl) rfl⟩⟩ late_nil) ?_ ?_ ?_
  · exact Ds.none rfl
  · refine ea_cons ?_ (ea_cons ?_ (ea_cons ?_ (ea_cons ?_ (ea_cons ?_ (ea_cons ?_ (ea_cons ?_ (ea_cons ?_ (ea_cons ?_ (ea_cons ?_ (ea_cons ?_ (ea_nil)))))))))))
    · exact og_eq (pt t 0) rfl (fun f wf hq hd K hK => go_run rfl (wo_mv (.tmp 0) (pt t 0) (fun _ => rfl) rfl (hK _ (Mo.refl _))))
    · exact og_eq (pt j 0) rfl (fun f wf hq hd K hK => go_run rfl (wo_mv (.tmp 8) (pt j 0) (fun _ => rfl) rfl (hK _ (Mo.refl _))))
    · exact og_eq (pt j 0) rfl (fun f wf hq hd K hK => go_run rfl (wo_nc (.tmp 45) j 0 rfl (hd 1 rfl) (hK _ (Mo.refl _))))
    · exact og_eq (pt j 3) rfl (fun f wf hq hd K hK => go_run rfl (wo_un (fun v => Instr.fieldAt 93 v 2) (.tmp 46) (pt j 0) (pt j 3) (fun _ => rfl) (hd 2 rfl) (by kernel_rfl) (hK _ (Mo.refl _))))
    · exact og_eq (pt j 3) rfl (fun f wf hq hd K hK => go_run rfl (wo_bin (fun x y => Instr.indexAt 91 x y) (.tmp 47) (.const (.int .i64 (0))) (pt j 3) (.int .i64 (0)) (pt j 3) (fun _ => rfl) (hd 3 rfl) rfl (by kernel_rfl) (hK _ (Mo.refl _))))
    · exact og_eq (pp c.p) rfl (fun f wf hq hd K hK => have hS := hS.mo hq; go_run rfl (wo_load 65 (.tmp 48) (pt j 3) (pp c.p) rfl (hd 4 rfl) (run_one (hS.rc j _ hj) 65 3 rfl Try.underlying65 rfl) (hK _ (Mo.refl _))))
    · exact og_eq (pt j 0) rfl (fun f wf hq hd K hK => go_run rfl (wo_mv (.tmp 8) (pt j 0) (fun _ => rfl) rfl (hK _ (Mo.refl _))))
    · exact og_eq (pt j 0) rfl (fun f wf hq hd K hK => go_run rfl (wo_nc (.tmp 50) j 0 rfl (hd 6 rfl) (hK _ (Mo.refl _))))
    · exact og_eq (pt j 3) rfl (fun f wf hq hd K hK => go_run rfl (wo_un (fun v => Instr.fieldAt 93 v 2) (.tmp 51) (pt j 0) (pt j 3) (fun _ => rfl) (hd 7 rfl) (by kernel_rfl) (hK _ (Mo.refl _))))
    · exact og_eq (pt j 4) rfl (fun f wf hq hd K hK => go_run rfl (wo_bin (fun x y => Instr.indexAt 91 x y) (.tmp 52) (.const (.int .i64 (1))) (pt j 3) (.int .i64 (1)) (pt j 4) (fun _ => rfl) (hd 8 rfl) rfl (by kernel_rfl) (hK _ (Mo.refl _))))
    · exact og_eq (pp z.p) rfl (fun f wf hq hd K hK => have hS := hS.mo hq; go_run rfl (wo_load 65 (.tmp 53) (pt j 4) (pp z.p) rfl (hd 9 rfl) (run_one (hS.rc j _ hj) 65 4 rfl Try.underlying65 rfl) (hK _ (Mo.refl _))))
  intro kf6 w6 hq _ _
  replace hS := hS.mo hq
  replace M := M.trans hq
  clear hq
  refine wl_bsl [(0, (.tmp 49)), (1, (.tmp 54))] [pp c.p, pp z.p] 2 rfl rfl (bs2 c.p z.p) rfl ?_
  intro g2 w7 hk hz hq Q2
  have nd_g2 : ¬ D g2 := fun e => by have := hS.lt e; omega
  replace hS := hS.mo hq
  replace M := M.trans hq
  clear hk hz hq
  refine wl_callg 34 [(.tmp 44), (.tmp 55)] _ [pt t 0, .slice (some ⟨g2, 0, none⟩) 2 2] (.tuple #[]) rfl rfl (fun _ _ => by kernel_rfl) (look_n [c.p, z.p] g2 hS Q2 nd_g2 (by simp only [List.length_cons, List.length_nil]; omega)) rfl ?_
  intro w8 hF
  have hc2 := cnt_le [c.p, z.p]
  simp only [List.length_cons, List.length_nil] at hc2
  obtain ⟨hS2, hM2⟩ := hF
  replace hS := hS2
  replace M := M.same hM2
  clear hS2 hM2 Q2 nd_g2
  refine w_nil ?_
  refine xn_then ?_
  refine w_reg ?_
  refine wl_mv (.tmp 0) (pt t 0) (fun _ => rfl) rfl rfl ?_
  refine wl_mv (.tmp 7) (pt kk 0) (fun _ => rfl) rfl rfl ?_
  refine wl_mv (.tmp 2) (.int .i64 (0)) (fun _ => rfl) rfl rfl ?_
  refine wl_bin (fun x y => do eqGuard .sub 3 (.const (.int .i64 (1))) (.tmp 59) x y; binOp .sub 3 x y) (.const (.int .i64 (1))) (.tmp 59) (.int .i64 (1)) (.int .i64 (0)) (.int .i64 (1)) (fun _ => rfl) rfl rfl (subI (a := 1) (b := 0) (by decide) (by decide) _ _ _) rfl ?_
  refine wl_callg 73 [(.tmp 57), (.tmp 58), (.tmp 60)] _ [pt t 0, pt kk 0, .int .i64 (1)] (pt j 0) rfl rfl (fun _ _ => by kernel_rfl) (turnR (C := (⟨k, i, s, false, r⟩ : Fr) :: C) (RS.dn (f := (⟨k, i, s, false, r⟩ : Fr)) (R := R) (root := root) (C := C) (tr := (.n kk ii ss a (.n j jj js c z))) ⟨hS, hAp, hC, hR, hn⟩).1 ob.2.2 ob.2.1 oa (by omega) (by omega) (by omega) (by omega)) rfl ?_
  intro w9 hF
  obtain ⟨⟨R8, root8, hT8, hu8⟩, hM2⟩ := hF
  replace M := M.same hM2
  have hT := hT8.up ⟨hd1, by rw [hu8 k _ rfl hk]; simp [Fr.rc, Fr.jn, T.ids, T.p, sideC]⟩
  change RS D _ t mb C (.n k i s _ r) _ _ _ at hT
  clear hM2
  refine w_nil ?_
  refine xn_then ?_
  refine w_seq ?_
  refine w_reg ?_
  refine wl_mv (.tmp 0) (pt t 0) (fun _ => rfl) rfl rfl ?_
  refine wl_mv (.tmp 1) (pt k 0) (fun _ => rfl) rfl rfl ?_
  refine wl_mv (.tmp 2) (.int .i64 (0)) (fun _ => rfl) rfl rfl ?_
  refine wl_callg 73 [(.tmp 62), (.tmp 63), (.tmp 64)] _ [pt t 0, pt k 0, .int .i64 (0)] (pt j 0) rfl rfl (fun _ _ => by kernel_rfl) (turnL hT ⟨rfl, oa, ob.2.1⟩ ob.2.2 or (by simp only [T.sz]; omega) (by omega) (by omega) (by simp only [T.sz]; omega)) rfl ?_
  intro w10 hF
  obtain ⟨⟨R9, root9, hT, _⟩, hM2⟩ := hF
  replace M := M.same hM2
  clear hM2
  refine wl_mv (.tmp 65) (pt j 0) (fun _ => rfl) rfl rfl ?_
  refine w_nil ?_
  refine xn_then ?_
  refine w_ret ?_
  exact w_ret1 _ (pt j 0) rfl rfl ⟨rfl, (((lk) + cnt [(top C), (some j), a.p]) + cnt [c.p, z.p]), by omega, by omega, ⟨_, _, hT⟩, M⟩
theorem lightS1 {C : Cx} {k kk : Nat} {i ii : Py} {s ss : Int} {a b r : T} (h : TS D w t mb C (.n k i s r (.n kk ii ss b a)) lk) (oa : a.ok) (ob : b.ok) (or : r.ok) (ba : a.sz ≤ 10000) (bb : b.sz ≤ 10000) (br : r.sz ≤ 10000) (hge : decide (2 * (a.sz + 1) ≤ b.sz + 1) = false) (hss : s = 1 + (1 + a.sz + b.sz) + r.sz) (hlk : 0 ≤ lk ∧ lk ≤ 4000000000000000000) :
    Calls Try.prog 61 #[pt t 0, pt k 0, .int .i64 1] w fun e w' => e = .returned (pt kk 0) ∧ ∃ lk', lk ≤ lk' ∧ lk' ≤ lk + 5 ∧ TS D w' t mb C (.n kk ii (1 + (1 + r.sz + b.sz) + a.sz) (.n k i (1 + r.sz + b.sz) r b) a) lk' ∧ Mk D w w' := by
  obtain ⟨R, root, hS, hAp, hC, hR, hn⟩ := h
  have hR0 := hR
  obtain ⟨⟨hd1, hk⟩, hr, ⟨hd2, hkk⟩, hb, ha⟩ := hR
  have hR := hR0
  have h0a := T.sz_nn a; have h0r := T.sz_nn r; have h0b := T.sz_nn b
  refine w_enter 66 Try.func61 Try.ntmps61 rfl rfl ?_
  have M : Mk D w w := Mk.refl _ _
  refine w_seq ?_
  refine w_reg ?_
  refine wl_mv (.const (.pointer none)) (pp none) (fun _ => rfl) rfl rfl ?_
  refine w_nil ?_
  refine xn_then ?_
  refine w_seq ?_
  refine w_reg ?_
  refine wl_mv (.tmp 1) (pt k 0) (fun _ => rfl) rfl rfl ?_
  refine wl_mv (.tmp 2) (.int .i64 (1)) (fun _ => rfl) rfl rfl ?_
  refine wl_nc (.tmp 10) k 0 rfl rfl rfl ?_
  refine wl_un (fun v => Instr.fieldAt 93 v 2) (.tmp 12) (pt k 0) (pt k 3) (fun _ => rfl) rfl (by kernel_rfl) rfl ?_
  refine wl_bin (fun x y => Instr.indexAt 91 x y) (.tmp 13) (.tmp 11) (pt k 3) (.int .i64 (1)) (pt k 4) (fun _ => rfl) rfl rfl (by kernel_rfl) rfl ?_
  refine wl_load 65 (.tmp 14) (pt k 4) (pt kk 0) rfl rfl (run_one (hS.rc k _ hk) 65 4 rfl Try.underlying65 rfl) rfl ?_
  refine wl_mv (.tmp 15) (pt kk 0) (fun _ => rfl) rfl rfl ?_
  refine w_nil ?_
  refine xn_then ?_
  refine w_seq ?_
  refine w_any 14 [.inl (pt kk 0), .inl (.int .i64 (1)), .inl (.int .i64 (0)), .inl (pt kk 0), .inl (pt kk 3), .inl (pt kk 3), .inl (pp b.p), .inl (pt kk 0), .inl (.int .i64 (1)), .inl (pt kk 0), .inl (pt kk 3), .inl (pt kk 4), .inl (pp a.p), .inl (pp b.p)] [] (by kernel_rfl) (by kernel_rfl) (by kernel_rfl) (by kernel_rfl) rfl (by kernel_rfl) (by kernel_rfl) late_nil ?_ ?_ ?_
  · exact Ds.none rfl
  · refine ea_cons ?_ (ea_cons ?_ (ea_cons ?_ (ea_cons ?_ (ea_cons ?_ (ea_cons ?_ (ea_cons ?_ (ea_cons ?_ (ea_cons ?_ (ea_cons ?_ (ea_cons ?_ (ea_cons ?_ (ea_cons ?_ (ea_cons ?_ (ea_nil))))))))))))))
    · exact og_eq (pt kk 0) rfl (fun f wf hq hd K hK => go_run rfl (wo_mv (.tmp 7) (pt kk 0) (fun _ => rfl) rfl (hK _ (Mo.refl _))))
    · exact og_eq (.int .i64 (1)) rfl (fun f wf hq hd K hK => go_run rfl (wo_mv (.tmp 2) (.int .i64 (1)) (fun _ => rfl) rfl (hK _ (Mo.refl _))))
    · exact og_eq (.int .i64 (0)) rfl (fun f wf hq hd K hK => go_run rfl (wo_bin (fun x y => do eqGuard .sub 3 (.const (.int .i64 (1))) (.tmp 17) x y; binOp .sub 3 x y) (.const (.int .i64 (1))) (.tmp 17) (.int .i64 (1)) (.int .i64 (1)) (.int .i64 (0)) (fun _ => rfl) rfl (hd 1 rfl) (subI (a := 1) (b := 1) (by decide) (by decide) _ _ _) (hK _ (Mo.refl _))))
    · exact og_eq (pt kk 0) rfl (fun f wf hq hd K hK => go_run rfl (wo_nc (.tmp 16) kk 0 rfl (hd 0 rfl) (hK _ (Mo.refl _))))
    · exact og_eq (pt kk 3) rfl (fun f wf hq hd K hK => go_run rfl (wo_un (fun v => Instr.fieldAt 93 v 2) (.tmp 19) (pt kk 0) (pt kk 3) (fun _ => rfl) (hd 3 rfl) (by kernel_rfl) (hK _ (Mo.refl _))))
    · exact og_eq (pt kk 3) rfl (fun f wf hq hd K hK => go_run rfl (wo_bin (fun x y => Instr.indexAt 91 x y) (.tmp 20) (.tmp 18) (pt kk 3) (.int .i64 (0)) (pt kk 3) (fun _ => rfl) (hd 4 rfl) (hd 2 rfl) (by kernel_rfl) (hK _ (Mo.refl _))))
    · exact og_eq (pp b.p) rfl (fun f wf hq hd K hK => have hS := hS.mo hq; go_run rfl (wo_load 65 (.tmp 21) (pt kk 3) (pp b.p) rfl (hd 5 rfl) (run_one (hS.rc kk _ hkk) 65 3 rfl Try.underlying65 rfl) (hK _ (Mo.refl _))))
    · exact og_eq (pt kk 0) rfl (fun f wf hq hd K hK => go_run rfl (wo_mv (.tmp 7) (pt kk 0) (fun _ => rfl) rfl (hK _ (Mo.refl _))))
    · exact og_eq (.int .i64 (1)) rfl (fun f wf hq hd K hK => go_run rfl (wo_mv (.tmp 2) (.int .i64 (1)) (fun _ => rfl) rfl (hK _ (Mo.refl _))))
    · exact og_eq (pt kk 0) rfl (fun f wf hq hd K hK => go_run rfl (wo_nc (.tmp 23) kk 0 rfl (hd 7 rfl) (hK _ (Mo.refl _))))
    · exact og_eq (pt kk 3) rfl (fun f wf hq hd K hK => go_run rfl (wo_un (fun v => Instr.fieldAt 93 v 2) (.tmp 25) (pt kk 0) (pt kk 3) (fun _ => rfl) (hd 9 rfl) (by kernel_rfl) (hK _ (Mo.refl _))))
    · exact og_eq (pt kk 4) rfl (fun f wf hq hd K hK => go_run rfl (wo_bin (fun x y => Instr.indexAt 91 x y) (.tmp 26) (.tmp 24) (pt kk 3) (.int .i64 (1)) (pt kk 4) (fun _ => rfl) (hd 10 rfl) (hd 8 rfl) (by kernel_rfl) (hK _ (Mo.refl _))))
    · exact og_eq (pp a.p) rfl (fun f wf hq hd K hK => have hS := hS.mo hq; go_run rfl (wo_load 65 (.tmp 27) (pt kk 4) (pp a.p) rfl (hd 11 rfl) (run_one (hS.rc kk _ hkk) 65 4 rfl Try.underlying65 rfl) (hK _ (Mo.refl _))))
    · exact og_eq (pp b.p) rfl (fun f wf hq hd K hK => go_run rfl (wo_mv (.tmp 22) (pp b.p) (fun _ => rfl) (hd 6 rfl) (hK _ (Mo.refl _))))
  intro kf1 w1 hq _ _
  replace hS := hS.mo hq
  replace M := M.trans hq
  clear hq
  refine wl_mv (.tmp 28) (pp a.p) (fun _ => rfl) rfl rfl ?_
  refine w_nil ?_
  refine xn_then ?_
  refine w_seq ?_
  refine w_reg ?_
  refine wl_mv (.tmp 0) (pt t 0) (fun _ => rfl) rfl rfl ?_
  refine wl_mv (.tmp 1) (pt k 0) (fun _ => rfl) rfl rfl ?_
  refine wl_nc (.tmp 30) k 0 rfl rfl rfl ?_
  refine wl_un (fun v => Instr.fieldAt 93 v 1) (.tmp 31) (pt k 0) (pt k 2) (fun _ => rfl) rfl (by kernel_rfl) rfl ?_
  refine wl_load 65 (.tmp 32) (pt k 2) (pp (top C)) rfl rfl (run_one (hS.rc k _ hk) 65 2 rfl Try.underlying65 rfl) rfl ?_
  refine wl_mv (.tmp 8) (pp b.p) (fun _ => rfl) rfl rfl ?_
  refine wl_mv (.tmp 9) (pp a.p) (fun _ => rfl) rfl rfl ?_
  refine wl_bsl [(0, (.tmp 33)), (1, (.tmp 34)), (2, (.tmp 35))] [pp (top C), pp b.p, pp a.p] 3 rfl rfl (bs3 (top C) b.p a.p) rfl ?_
  intro g1 w2 hk hz hq Q1
  have nd_g1 : ¬ D g1 := fun e => by have := hS.lt e; omega
  replace hS := hS.mo hq
  replace M := M.trans hq
  clear hk hz hq
  refine wl_callg 34 [(.tmp 29), (.tmp 36)] _ [pt t 0, .slice (some ⟨g1, 0, none⟩) 3 3] (.tuple #[]) rfl rfl (fun _ _ => by kernel_rfl) (look_n [(top C), b.p, a.p] g1 hS Q1 nd_g1 (by simp only [List.length_cons, List.length_nil]; omega)) rfl ?_
  intro w3 hF
  have hc1 := cnt_le [(top C), b.p, a.p]
  simp only [List.length_cons, List.length_nil] at hc1
  obtain ⟨hS2, hM2⟩ := hF
  replace hS := hS2
  replace M := M.same hM2
  clear hS2 hM2 Q1 nd_g1
  refine w_nil ?_
  refine xn_then ?_
  refine w_seq ?_
  refine w_seq ?_
  refine w_reg ?_
  refine wl_mv (.tmp 8) (pp b.p) (fun _ => rfl) rfl rfl ?_
  refine wl_call 72 [(.tmp 38)] _ [pp b.p] (.int .i64 (b.sz + 1)) rfl rfl (fun _ _ => by kernel_rfl) (weight_o hS (szo_of hb ob) h0b (by omega)) rfl ?_
  intro w4 hq
  replace hS := hS.mo hq
  replace M := M.trans hq
  clear hq
  refine wl_mv (.tmp 9) (pp a.p) (fun _ => rfl) rfl rfl ?_
  refine wl_call 72 [(.tmp 40)] _ [pp a.p] (.int .i64 (a.sz + 1)) rfl rfl (fun _ _ => by kernel_rfl) (weight_o hS (szo_of ha oa) h0a (by omega)) rfl ?_
  intro w5 hq
  replace hS := hS.mo hq
  replace M := M.trans hq
  clear hq
  refine wl_bin (fun x y => do eqGuard .mul 3 (.const (.int .i64 (2))) (.tmp 41) x y; binOp .mul 3 x y) (.const (.int .i64 (2))) (.tmp 41) (.int .i64 (2)) (.int .i64 (a.sz + 1)) (.int .i64 (2 * (a.sz + 1))) (fun _ => rfl) rfl rfl (mulI (by omega) (by omega) _ _ _) rfl ?_
  refine wl_bin (fun x y => do eqGuard .geq 3 (.tmp 39) (.tmp 42) x y; binOp .geq 3 x y) (.tmp 39) (.tmp 42) (.int .i64 (b.sz + 1)) (.int .i64 (2 * (a.sz + 1))) (.bool false) (fun _ => rfl) rfl rfl (geI hge _ _ _) rfl ?_
  refine w_nil ?_
  refine xn_then ?_
  refine w_condF rfl ?_
  refine w_skip ?_
  refine xn_then ?_
  refine w_seq ?_
  refine w_reg ?_
  refine wl_mv (.tmp 0) (pt t 0) (fun _ => rfl) rfl rfl ?_
  refine wl_mv (.tmp 1) (pt k 0) (fun _ => rfl) rfl rfl ?_
  refine wl_mv (.tmp 2) (.int .i64 (1)) (fun _ => rfl) rfl rfl ?_
  refine wl_callg 73 [(.tmp 62), (.tmp 63), (.tmp 64)] _ [pt t 0, pt k 0, .int .i64 (1)] (pt kk 0) rfl rfl (fun _ _ => by kernel_rfl) (turnR (R := R) (root := root) ⟨hS, hAp, hC, hR, hn⟩ oa ob or (by omega) (by omega) (by omega) (by omega)) rfl ?_
  intro w6 hF
  obtain ⟨⟨R9, root9, hT, _⟩, hM2⟩ := hF
  replace M := M.same hM2
  clear hM2
  refine wl_mv (.tmp 65) (pt kk 0) (fun _ => rfl) rfl rfl ?_
  refine w_nil ?_
  refine xn_then ?_
  refine w_ret ?_
  exact w_ret1 _ (pt kk 0) rfl rfl ⟨rfl, ((lk) + cnt [(top C), b.p, a.p]), by omega, by omega, ⟨_, _, hT⟩, M⟩
theorem lightD1 {C : Cx} {k kk j : Nat} {i ii jj : Py} {s ss js : Int} {a c z r : T} (h : TS D w t mb C (.n k i s r (.n kk ii ss (.n j jj js c z) a)) lk) (oa : a.ok) (ob : (T.n j jj js c z).ok) (or : r.ok) (ba : a.sz ≤ 10000) (bb : c.sz ≤ 10000 ∧ z.sz ≤ 10000) (br : r.sz ≤ 10000) (hge : decide (2 * (a.sz + 1) ≤ (1 + c.sz + z.sz) + 1) = true) (hss : s = 1 + (1 + a.sz + (1 + c.sz + z.sz)) + r.sz) (hkss : ss = 1 + a.sz + (1 + c.sz + z.sz)) (hlk : 0 ≤ lk ∧ lk ≤ 4000000000000000000) :
    Calls Try.prog 61 #[pt t 0, pt k 0, .int .i64 1] w fun e w' => e = .returned (pt j 0) ∧ ∃ lk', lk ≤ lk' ∧ lk' ≤ lk + 5 ∧ TS D w' t mb C (.n j jj (1 + (1 + r.sz + c.sz) + (1 + z.sz + a.sz)) (.n k i (1 + r.sz + c.sz) r c) (.n kk ii (1 + z.sz + a.sz) z a)) lk' ∧ Mk D w w' := by
  obtain ⟨R, root, hS, hAp, hC, hR, hn⟩ := h
  have hR0 := hR
  obtain ⟨⟨hd1, hk⟩, hr, ⟨hd2, hkk⟩, ⟨⟨hd3, hj⟩, hcc, hz⟩, ha⟩ := hR
  have hR := hR0
  have h0a := T.sz_nn a; have h0r := T.sz_nn r; have h0c := T.sz_nn c; have h0z := T.sz_nn z
  refine w_enter 66 Try.func61 Try.ntmps61 rfl rfl ?_
  have M : Mk D w w := Mk.refl _ _
  refine w_seq ?_
  refine w_reg ?_
  refine wl_mv (.const (.pointer none)) (pp none) (fun _ => rfl) rfl rfl ?_
  refine w_nil ?_
  refine xn_then ?_
  refine w_seq ?_
  refine w_reg ?_
  refine wl_mv (.tmp 1) (pt k 0) (fun _ => rfl) rfl rfl ?_
  refine wl_mv (.tmp 2) (.int .i64 (1)) (fun _ => rfl) rfl rfl ?_
  refine wl_nc (.tmp 10) k 0 rfl rfl rfl ?_
  refine wl_un (fun v => Instr.fieldAt 93 v 2) (.tmp 12) (pt k 0) (pt k 3) (fun _ => rfl) rfl (by kernel_rfl) rfl ?_
  refine wl_bin (fun x y => Instr.indexAt 91 x y) (.tmp 13) (.tmp 11) (pt k 3) (.int .i64 (1)) (pt k 4) (fun _ => rfl) rfl rfl (by kernel_rfl) rfl ?_
  refine wl_load 65 (.tmp 14) (pt k 4) (pt kk 0) rfl rfl (run_one (hS.rc k _ hk) 65 4 rfl Try.underlying65 rfl) rfl ?_
  refine wl_mv (.tmp 15) (pt kk 0) (fun _ => rfl) rfl rfl ?_
  refine w_nil ?_
  refine xn_then ?_
  refine w_seq ?_
  refine w_any 14 [.inl (pt kk 0), .inl (.int .i64 (1)), .inl (.int .i64 (0)), .inl (pt kk 0), .inl (pt kk 3), .inl (pt kk 3), .inl (pt j 0), .inl (pt kk 0), .inl (.int .i64 (1)), .inl (pt kk 0), .inl (pt kk 3), .inl (pt kk 4), .inl (pp a.p), .inl (pt j 0)] [] (by kernel_rfl) (by kernel_rfl) (by kernel_rfl) (by kernel_rfl) rfl (by kernel_rfl) (by kernel_rfl) late_nil ?_ ?_ ?_
  · exact Ds.none rfl
  · refine ea_cons ?_ (ea_cons ?_ (ea_cons ?_ (ea_cons ?_ (ea_cons ?_ (ea_cons ?_ (ea_cons ?_ (ea_cons ?_ (ea_cons ?_ (ea_cons ?_ (ea_cons ?_ (ea_cons ?_ (ea_cons ?_ (ea_cons ?_ (ea_nil))))))))))))))
    · exact og_eq (pt kk 0) rfl (fun f wf hq hd K hK => go_run rfl (wo_mv (.tmp 7) (pt kk 0) (fun _ => rfl) rfl (hK _ (Mo.refl _))))
    · exact og_eq (.int .i64 (1)) rfl (fun f wf hq hd K hK => go_run rfl (wo_mv (.tmp 2) (.int .i64 (1)) (fun _ => rfl) rfl (hK _ (Mo.refl _))))
    · exact og_eq (.int .i64 (0)) rfl (fun f wf hq hd K hK => go_run rfl (wo_bin (fun x y => do eqGuard .sub 3 (.const (.int .i64 (1))) (.tmp 17) x y; binOp .sub 3 x y) (.const (.int .i64 (1))) (.tmp 17) (.int .i64 (1)) (.int .i64 (1)) (.int .i64 (0)) (fun _ => rfl) rfl (hd 1 rfl) (subI (a := 1) (b := 1) (by decide) (by decide) _ _ _) (hK _ (Mo.refl _))))
    · exact og_eq (pt kk 0) rfl (fun f wf hq hd K hK => go_run rfl (wo_nc (.tmp 16) kk 0 rfl (hd 0 rfl) (hK _ (Mo.refl _))))
    · exact og_eq (pt kk 3) rfl (fun f wf hq hd K hK => go_run rfl (wo_un (fun v => Instr.fieldAt 93 v 2) (.tmp 19) (pt kk 0) (pt kk 3) (fun _ => rfl) (hd 3 rfl) (by kernel_rfl) (hK _ (Mo.refl _))))
    · exact og_eq (pt kk 3) rfl (fun f wf hq hd K hK => go_run rfl (wo_bin (fun x y => Instr.indexAt 91 x y) (.tmp 20) (.tmp 18) (pt kk 3) (.int .i64 (0)) (pt kk 3) (fun _ => rfl) (hd 4 rfl) (hd 2 rfl) (by kernel_rfl) (hK _ (Mo.refl _))))
    · exact og_eq (pt j 0) rfl (fun f wf hq hd K hK => have hS := hS.mo hq; go_run rfl (wo_load 65 (.tmp 21) (pt kk 3) (pt j 0) rfl (hd 5 rfl) (run_one (hS.rc kk _ hkk) 65 3 rfl Try.underlying65 rfl) (hK _ (Mo.refl _))))
    · exact og_eq (pt kk 0) rfl (fun f wf hq hd K hK => go_run rfl (wo_mv (.tmp 7) (pt kk 0) (fun _ => rfl) rfl (hK _ (Mo.refl _))))
    · exact og_eq (.int .i64 (1)) rfl (fun f wf hq hd K hK => go_run rfl (wo_mv (.tmp 2) (.int .i64 (1)) (fun _ => rfl) rfl (hK _ (Mo.refl _))))
    · exact og_eq (pt kk 0) rfl (fun f wf hq hd K hK => go_run rfl (wo_nc (.tmp 23) kk 0 rfl (hd 7 rfl) (hK _ (Mo.refl _))))
    · exact og_eq (pt kk 3) rfl (fun f wf hq hd K hK => go_run rfl (wo_un (fun v => Instr.fieldAt 93 v 2) (.tmp 25) (pt kk 0) (pt kk 3) (fun _ => rfl) (hd 9 rfl) (by kernel_rfl) (hK _ (Mo.refl _))))
    · exact og_eq (pt kk 4) rfl (fun f wf hq hd K hK => go_run rfl (wo_bin (fun x y => Instr.indexAt 91 x y) (.tmp 26) (.tmp 24) (pt kk 3) (.int .i64 (1)) (pt kk 4) (fun _ => rfl) (hd 10 rfl) (hd 8 rfl) (by kernel_rfl) (hK _ (Mo.refl _))))
    · exact og_eq (pp a.p) rfl (fun f wf hq hd K hK => have hS := hS.mo hq; go_run rfl (wo_load 65 (.tmp 27) (pt kk 4) (pp a.p) rfl (hd 11 rfl) (run_one (hS.rc kk _ hkk) 65 4 rfl Try.underlying65 rfl) (hK _ (Mo.refl _))))
    · exact og_eq (pt j 0) rfl (fun f wf hq hd K hK => go_run rfl (wo_mv (.tmp 22) (pt j 0) (fun _ => rfl) (hd 6 rfl) (hK _ (Mo.refl _))))
  intro kf1 w1 hq _ _
  replace hS := hS.mo hq
  replace M := M.trans hq
  clear hq
  refine wl_mv (.tmp 28) (pp a.p) (fun _ => rfl) rfl rfl ?_
  refine w_nil ?_
  refine xn_then ?_
  refine w_seq ?_
  refine w_reg ?_
  refine wl_mv (.tmp 0) (pt t 0) (fun _ => rfl) rfl rfl ?_
  refine wl_mv (.tmp 1) (pt k 0) (fun _ => rfl) rfl rfl ?_
  refine wl_nc (.tmp 30) k 0 rfl rfl rfl ?_
  refine wl_un (fun v => Instr.fieldAt 93 v 1) (.tmp 31) (pt k 0) (pt k 2) (fun _ => rfl) rfl (by kernel_rfl) rfl ?_
  refine wl_load 65 (.tmp 32) (pt k 2) (pp (top C)) rfl rfl (run_one (hS.rc k _ hk) 65 2 rfl Try.underlying65 rfl) rfl ?_
  refine wl_mv (.tmp 8) (pt j 0) (fun _ => rfl) rfl rfl ?_
  refine wl_mv (.tmp 9) (pp a.p) (fun _ => rfl) rfl rfl ?_
  refine wl_bsl [(0, (.tmp 33)), (1, (.tmp 34)), (2, (.tmp 35))] [pp (top C), pp (some j), pp a.p] 3 rfl rfl (bs3 (top C) (some j) a.p) rfl ?_
  intro g1 w2 hk hz hq Q1
  have nd_g1 : ¬ D g1 := fun e => by have := hS.lt e; omega
  replace hS := hS.mo hq
  replace M := M.trans hq
  clear hk hz hq
  refine wl_callg 34 [(.tmp 29), (.tmp 36)] _ [pt t 0, .slice (some ⟨g1, 0, none⟩) 3 3] (.tuple #[]) rfl rfl (fun _ _ => by kernel_rfl) (look_n [(top C), (some j), a.p] g1 hS Q1 nd_g1 (by simp only [List.length_cons, List.length_nil]; omega)) rfl ?_
  intro w3 hF
  have hc1 := cnt_le [(top C), (some j), a.p]
  simp only [List.length_cons, List.length_nil] at hc1
  obtain ⟨hS2, hM2⟩ := hF
  replace hS := hS2
  replace M := M.same hM2
  clear hS2 hM2 Q1 nd_g1
  refine w_nil ?_
  refine xn_then ?_
  refine w_seq ?_
  refine w_seq ?_
  refine w_reg ?_
  refine wl_mv (.tmp 8) (pt j 0) (fun _ => rfl) rfl rfl ?_
  refine wl_call 72 [(.tmp 38)] _ [pt j 0] (.int .i64 ((1 + c.sz + z.sz) + 1)) rfl rfl (fun _ _ => by kernel_rfl) (weight_o (x := some j) hS ⟨_, hj, ob.1⟩ (by omega) (by omega)) rfl ?_
  intro w4 hq
  replace hS := hS.mo hq
  replace M := M.trans hq
  clear hq
  refine wl_mv (.tmp 9) (pp a.p) (fun _ => rfl) rfl rfl ?_
  refine wl_call 72 [(.tmp 40)] _ [pp a.p] (.int .i64 (a.sz + 1)) rfl rfl (fun _ _ => by kernel_rfl) (weight_o hS (szo_of ha oa) h0a (by omega)) rfl ?_
  intro w5 hq
  replace hS := hS.mo hq
  replace M := M.trans hq
  clear hq
  refine wl_bin (fun x y => do eqGuard .mul 3 (.const (.int .i64 (2))) (.tmp 41) x y; binOp .mul 3 x y) (.const (.int .i64 (2))) (.tmp 41) (.int .i64 (2)) (.int .i64 (a.sz + 1)) (.int .i64 (2 * (a.sz + 1))) (fun _ => rfl) rfl rfl (mulI (by omega) (by omega) _ _ _) rfl ?_
  refine wl_bin (fun x y => do eqGuard .geq 3 (.tmp 39) (.tmp 42) x y; binOp .geq 3 x y) (.tmp 39) (.tmp 42) (.int .i64 ((1 + c.sz + z.sz) + 1)) (.int .i64 (2 * (a.sz + 1))) (.bool true) (fun _ => rfl) rfl rfl (geI hge _ _ _) rfl ?_
  refine w_nil ?_
  refine xn_then ?_
  refine w_condT rfl ?_
  refine w_seq ?_
  refine w_any 11 [.inl (pt t 0), .inl (pt j 0), .inl (pt j 0), .inl (pt j 3), .inl (pt j 3), .inl (pp c.p), .inl (pt j 0), .inl (pt j 0), .inl (pt j 3), .inl (pt j 4), .inl (pp z.p)] [0] (by kernel_rfl) (by kernel_rfl) (by kernel_rfl) (by kernel_rfl) rfl (by kernel_rfl) (by kernel_rfl) (late_cons ⟨_, _, rfl, rfl, fun _ _ _ _ h => h, fun f hd => ⟨rfl, la_mv (.tmp 0) (pt t 0) (fun _ => rfl) rfl⟩⟩ late_nil) ?_ ?_ ?_
  · exact Ds.none rfl
  · refine ea_cons ?_ (ea_cons ?_ (ea_cons ?_ (ea_cons ?_ (ea_cons ?_ (ea_cons ?_ (ea_cons ?_ (ea_cons ?_ (ea_cons ?_ (ea_cons ?_ (ea_cons ?_ (ea_nil)))))))))))
    · exact og_eq (pt t 0) rfl (fun f wf hq hd K hK => go_run rfl (wo_mv (.tmp 0) (pt t 0) (fun _ => rfl) rfl (hK _ (Mo.refl _))))
    · exact og_eq (pt j 0) rfl (fun f wf hq hd K hK => go_run rfl (wo_mv (.tmp 8) (pt j 0) (fun _ => rfl) rfl (hK _ (Mo.refl _))))
    · exact og_eq (pt j 0) rfl (fun f wf hq hd K hK => go_run rfl (wo_nc (.tmp 45) j 0 rfl (hd 1 rfl) (hK _ (Mo.refl _))))
    · exact og_eq (pt j 3) rfl (fun f wf hq hd K hK => go_run rfl (wo_un (fun v => Instr.fieldAt 93 v 2) (.tmp 46) (pt j 0) (pt j 3) (fun _ => rfl) (hd 2 rfl) (by kernel_rfl) (hK _ (Mo.refl _))))
    · exact og_eq (pt j 3) rfl (fun f wf hq hd K hK => go_run rfl (wo_bin (fun x y => Instr.indexAt 91 x y) (.tmp 47) (.const (.int .i64 (0))) (pt j 3) (.int .i64 (0)) (pt j 3) (fun _ => rfl) (hd 3 rfl) rfl (by kernel_rfl) (hK _ (Mo.refl _))))
    · exact og_eq (pp c.p) rfl (fun f wf hq hd K hK => have hS := hS.mo hq; go_run rfl (wo_load 65 (.tmp 48) (pt j 3) (pp c.p) rfl (hd 4 rfl) (run_one (hS.rc j _ hj) 65 3 rfl Try.underlying65 rfl) (hK _ (Mo.refl _))))
    · exact og_eq (pt j 0) rfl (fun f wf hq hd K hK => go_run rfl (wo_mv (.tmp 8) (pt j 0) (fun _ => rfl) rfl (hK _ (Mo.refl _))))
    · exact og_eq (pt j 0) rfl (fun f wf hq hd K hK => go_run rfl (wo_nc (.tmp 50) j 0 rfl (hd 6 rfl) (hK _ (Mo.refl _))))
    · exact og_eq (pt j 3) rfl (fun f wf hq hd K hK => go_run rfl (wo_un (fun v => Instr.fieldAt 93 v 2) (.tmp 51) (pt j 0) (pt j 3) (fun _ => rfl) (hd 7 rfl) (by kernel_rfl) (hK _ (Mo.refl _))))
    · exact og_eq (pt j 4) rfl (fun f wf hq hd K hK => go_run rfl (wo_bin (fun x y => Instr.indexAt 91 x y) (.tmp 52) (.const (.int .i64 (1))) (pt j 3) (.int .i64 (1)) (pt j 4) (fun _ => rfl) (hd 8 rfl) rfl (by kernel_rfl) (hK _ (Mo.refl _))))
    · exact og_eq (pp z.p) rfl (fun f wf hq hd K hK => have hS := hS.mo hq; go_run rfl (wo_load 65 (.tmp 53) (pt j 4) (pp z.p) rfl (hd 9 rfl) (run_one (hS.rc j _ hj) 65 4 rfl Try.underlying65 rfl) (hK _ (Mo.refl _))))
  intro kf6 w6 hq _ _
  replace hS := hS.mo hq
  replace M := M.trans hq
  clear hq
  refine wl_bsl [(0, (.tmp 49)), (1, (.tmp 54))] [pp c.p, pp z.p] 2 rfl rfl (bs2 c.p z.p) rfl ?_
  intro g2 w7 hk hz hq Q2
  have nd_g2 : ¬ D g2 := fun e => by have := hS.lt e; omega
  replace hS := hS.mo hq
  replace M := M.trans hq
  clear hk hz hq
  refine wl_callg 34 [(.tmp 44), (.tmp 55)] _ [pt t 0, .slice (some ⟨g2, 0, none⟩) 2 2] (.tuple #[]) rfl rfl (fun _ _ => by kernel_rfl) (look_n [c.p, z.p] g2 hS Q2 nd_g2 (by simp only [List.length_cons, List.length_nil]; omega)) rfl ?_
  intro w8 hF
  have hc2 := cnt_le [c.p, z.p]
  simp only [List.length_cons, List.length_nil] at hc2
  obtain ⟨hS2, hM2⟩ := hF
  replace hS := hS2
  replace M := M.same hM2
  clear hS2 hM2 Q2 nd_g2
  refine w_nil ?_
  refine xn_then ?_
  refine w_reg ?_
  refine wl_mv (.tmp 0) (pt t 0) (fun _ => rfl) rfl rfl ?_
  refine wl_mv (.tmp 7) (pt kk 0) (fun _ => rfl) rfl rfl ?_
  refine wl_mv (.tmp 2) (.int .i64 (1)) (fun _ => rfl) rfl rfl ?_
  refine wl_bin (fun x y => do eqGuard .sub 3 (.const (.int .i64 (1))) (.tmp 59) x y; binOp .sub 3 x y) (.const (.int .i64 (1))) (.tmp 59) (.int .i64 (1)) (.int .i64 (1)) (.int .i64 (0)) (fun _ => rfl) rfl rfl (subI (a := 1) (b := 1) (by decide) (by decide) _ _ _) rfl ?_
  refine wl_callg 73 [(.tmp 57), (.tmp 58), (.tmp 60)] _ [pt t 0, pt kk 0, .int .i64 (0)] (pt j 0) rfl rfl (fun _ _ => by kernel_rfl) (turnL (C := (⟨k, i, s, true, r⟩ : Fr) :: C) (RS.dn (f := (⟨k, i, s, true, r⟩ : Fr)) (R := R) (root := root) (C := C) (tr := (.n kk ii ss (.n j jj js c z) a)) ⟨hS, hAp, hC, hR, hn⟩).1 ob.2.1 ob.2.2 oa (by omega) (by omega) (by omega) (by omega)) rfl ?_
  intro w9 hF
  obtain ⟨⟨R8, root8, hT8, hu8⟩, hM2⟩ := hF
  replace M := M.same hM2
  have hT := hT8.up ⟨hd1, by rw [hu8 k _ rfl hk]; simp [Fr.rc, Fr.jn, T.ids, T.p, sideC]⟩
  change RS D _ t mb C (.n k i s r _) _ _ _ at hT
  clear hM2
  refine w_nil ?_
  refine xn_then ?_
  refine w_seq ?_
  refine w_reg ?_
  refine wl_mv (.tmp 0) (pt t 0) (fun _ => rfl) rfl rfl ?_
  refine wl_mv (.tmp 1) (pt k 0) (fun _ => rfl) rfl rfl ?_
  refine wl_mv (.tmp 2) (.int .i64 (1)) (fun _ => rfl) rfl rfl ?_
  refine wl_callg 73 [(.tmp 62), (.tmp 63), (.tmp 64)] _ [pt t 0, pt k 0, .int .i64 (1)] (pt j 0) rfl rfl (fun _ _ => by kernel_rfl) (turnR hT ⟨rfl, ob.2.2, oa⟩ ob.2.1 or (by simp only [T.sz]; omega) (by omega) (by omega) (by simp only [T.sz]; omega)) rfl ?_
  intro w10 hF
  obtain ⟨⟨R9, root9, hT, _⟩, hM2⟩ := hF
  replace M := M.same hM2
  clear hM2
  refine wl_mv (.tmp 65) (pt j 0) (fun _ => rfl) rfl rfl ?_
  refine w_nil ?_
  refine xn_then ?_
  refine w_ret ?_
  exact w_ret1 _ (pt j 0) rfl rfl ⟨rfl, (((lk) + cnt [(top C), (some j), a.p]) + cnt [c.p, z.p]), by omega, by omega, ⟨_, _, hT⟩, M⟩
end
end G
end Go.Proofs.Ythfemlhmnjfjiaa
/-
  A node mended, all above mended from below.
-/
namespace Go.Proofs.Ythfemlhmnjfjiaa
open Go.RowKit
namespace G
/-- The left side is lifted. -/
def lightL (k : Nat) (i : Py) (l r : T) : T := match l with
  | .e => .n k i (1 + r.sz) .e r
  | .n kk ii _ a b => match decide (2 * (a.sz + 1) ≤ b.sz + 1), b with
    | true, .n j jj _ c z => .n j jj (1 + (1 + a.sz + c.sz) + (1 + z.sz + r.sz)) (.n kk ii (1 + a.sz + c.sz) a c) (.n k i (1 + z.sz + r.sz) z r)
    | _, b => .n kk ii (1 + a.sz + (1 + b.sz + r.sz)) a (.n k i (1 + b.sz + r.sz) b r)
/-- The right side is lifted. -/
def lightR (k : Nat) (i : Py) (l r : T) : T := match r with
  | .e => .n k i (1 + l.sz) l .e
  | .n kk ii _ b a => match decide (2 * (a.sz + 1) ≤ b.sz + 1), b with
    | true, .n j jj _ c z => .n j jj (1 + (1 + l.sz + c.sz) + (1 + z.sz + a.sz)) (.n k i (1 + l.sz + c.sz) l c) (.n kk ii (1 + z.sz + a.sz) z a)
    | _, b => .n kk ii (1 + (1 + l.sz + b.sz) + a.sz) (.n k i (1 + l.sz + b.sz) l b) a
/-- A node, mended. -/
def bal (k : Nat) (i : Py) (l r : T) : T :=
  if 3 * (r.sz + 1) < l.sz + 1 then lightL k i l r else if 3 * (l.sz + 1) < r.sz + 1 then lightR k i l r else .n k i (1 + l.sz + r.sz) l r
def balF (f : Fr) (tr : T) : T := if f.d then bal f.k f.i f.o tr else bal f.k f.i tr f.o
/-- All above, mended from below. -/
def rebuild : Cx → T → T
  | [], tr => tr
  | f :: C, tr => rebuild C (balF f tr)
section
variable {k : Nat} {i : Py} {l r : T}
theorem lightL_ids (k : Nat) (i : Py) (l r : T) : (lightL k i l r).ids = l.ids ++ i :: r.ids := by
  unfold lightL
  cases l with
  | e => rfl
  | n kk ii ss a b =>
    cases hd : decide (2 * (a.sz + 1) ≤ b.sz + 1) <;> cases b <;> simp [hd, T.ids]
theorem lightR_ids (k : Nat) (i : Py) (l r : T) : (lightR k i l r).ids = l.ids ++ i :: r.ids := by
  unfold lightR
  cases r with
  | e => rfl
  | n kk ii ss b a =>
    cases hd : decide (2 * (a.sz + 1) ≤ b.sz + 1) <;> cases b <;> simp [hd, T.ids]
theorem bal_ids (k : Nat) (i : Py) (l r : T) : (bal k i l r).ids = l.ids ++ i :: r.ids := by
  unfold bal
  split
  · exact lightL_ids k i l r
  · split
    · exact lightR_ids k i l r
    · rfl
theorem lightL_ok (ol : l.ok) (or : r.ok) : (lightL k i l r).ok := by
  unfold lightL
  cases l with
  | e => exact ⟨by simp [T.sz], trivial, or⟩
  | n kk ii ss a b =>
    have ob := ol.2.2
    cases hd : decide (2 * (a.sz + 1) ≤ b.sz + 1) <;> cases b <;> simp_all [T.ok, T.sz]
theorem lightR_ok (ol : l.ok) (or : r.ok) : (lightR k i l r).ok := by
  unfold lightR
  cases r with
  | e => exact ⟨by simp [T.sz], ol, trivial⟩
  | n kk ii ss b a =>
    have ob := or.2.1
    cases hd : decide (2 * (a.sz + 1) ≤ b.sz + 1) <;> cases b <;> simp_all [T.ok, T.sz]
theorem bal_ok (ol : l.ok) (or : r.ok) : (bal k i l r).ok := by
  unfold bal
  split
  · exact lightL_ok ol or
  · split
    · exact lightR_ok ol or
    · exact ⟨rfl, ol, or⟩
theorem bal_sz (k : Nat) (i : Py) (l r : T) : (bal k i l r).sz = 1 + l.sz + r.sz := by
  rw [T.sz_ids, bal_ids, T.sz_ids l, T.sz_ids r]; simp; omega
theorem lightL_p (k : Nat) (i : Py) (l r : T) : ∃ j, (lightL k i l r).p = some j := by
  unfold lightL
  cases l with
  | e => exact ⟨_, rfl⟩
  | n kk ii ss a b => cases hd : decide (2 * (a.sz + 1) ≤ b.sz + 1) <;> cases b <;> (simp only [hd]; exact ⟨_, rfl⟩)
theorem lightR_p (k : Nat) (i : Py) (l r : T) : ∃ j, (lightR k i l r).p = some j := by
  unfold lightR
  cases r with
  | e => exact ⟨_, rfl⟩
  | n kk ii ss b a => cases hd : decide (2 * (a.sz + 1) ≤ b.sz + 1) <;> cases b <;> (simp only [hd]; exact ⟨_, rfl⟩)
end
def okC (C : Cx) : Prop := ∀ f ∈ C, f.o.ok
def csz : Cx → Int
  | [] => 0
  | f :: C => 1 + f.o.sz + csz C
theorem csz_nn : ∀ C : Cx, 0 ≤ csz C
  | [] => Int.le_refl 0
  | f :: C => by have := csz_nn C; have := T.sz_nn f.o; unfold csz; omega
theorem balF_ok {f : Fr} {tr : T} (h : f.o.ok) (ht : tr.ok) : (balF f tr).ok := by
  unfold balF; split
  · exact bal_ok h ht
  · exact bal_ok ht h
theorem balF_sz (f : Fr) (tr : T) : (balF f tr).sz = 1 + f.o.sz + tr.sz := by
  unfold balF; split
  · exact bal_sz _ _ _ _
  · rw [bal_sz]; omega
theorem balF_ids (f : Fr) (tr : T) : (balF f tr).ids = (f.jn tr).ids := by
  unfold balF Fr.jn; split
  · exact bal_ids _ _ _ _
  · exact bal_ids _ _ _ _
theorem plug_ids : ∀ (C : Cx) {t u : T}, t.ids = u.ids → (plug C t).ids = (plug C u).ids
  | [], _, _, h => h
  | f :: C, t, u, h => by
    unfold plug
    refine plug_ids C ?_
    unfold Fr.jn
    split <;> simp [T.ids, h]
theorem rebuild_ids : ∀ (C : Cx) (tr : T), (rebuild C tr).ids = (plug C tr).ids
  | [], _ => rfl
  | f :: C, tr => by
    unfold rebuild plug
    rw [rebuild_ids C]
    exact plug_ids C (balF_ids f tr)
theorem rebuild_ok : ∀ (C : Cx) (tr : T), okC C → tr.ok → (rebuild C tr).ok
  | [], _, _, h => h
  | f :: C, tr, hC, h => by
    unfold rebuild
    exact rebuild_ok C _ (fun g hg => hC g (by simp [hg])) (balF_ok (hC f (by simp)) h)
theorem jn_cases (f : Fr) (tr : T) (hf : f.o.ok) (ht : tr.ok) : ∃ l r, f.jn tr = .n f.k f.i f.s l r ∧ balF f tr = bal f.k f.i l r ∧ l.ok ∧ r.ok ∧ l.sz + r.sz = f.o.sz + tr.sz := by
  unfold Fr.jn balF
  cases f.d with
  | true => exact ⟨f.o, tr, rfl, rfl, hf, ht, rfl⟩
  | false => exact ⟨tr, f.o, rfl, rfl, ht, hf, by omega⟩
section
variable {D : Nat → Prop} {w : World} {t : Nat} {mb : Hd} {R : Mp} {root : Option Nat} {lk : Int}
theorem lightL_n {C : Cx} {k : Nat} {i : Py} {s : Int} {l r : T} (h : TS D w t mb C (.n k i s l r) lk) (ol : l.ok) (or : r.ok) (hb : 3 * (r.sz + 1) < l.sz + 1) (bl : l.sz ≤ 9000) (br : r.sz ≤ 9000) (hss : s = 1 + l.sz + r.sz) (hlk : 0 ≤ lk ∧ lk ≤ 4000000000000000000) {q : Nat} (hq : (lightL k i l r).p = some q) :
    Calls Try.prog 61 #[pt t 0, pt k 0, .int .i64 0] w fun e w' => e = .returned (pt q 0) ∧ ∃ lk', lk ≤ lk' ∧ lk' ≤ lk + 5 ∧ TS D w' t mb C (lightL k i l r) lk' ∧ Mk D w w' := by
  have hr0 := T.sz_nn r
  cases l with
  | e => simp only [T.sz] at hb; omega
  | n kk ii ss a b =>
    have ha0 := T.sz_nn a
    have hb0 := T.sz_nn b
    simp only [T.sz] at bl hss
    unfold lightL at hq ⊢
    cases hd : decide (2 * (a.sz + 1) ≤ b.sz + 1) with
    | false =>
      simp only [hd] at hq ⊢
      cases hq
      exact lightS0 h ol.2.1 ol.2.2 or (by omega) (by omega) (by omega) hd (by omega) hlk
    | true =>
      cases b with
      | e => simp [T.sz] at hd; omega
      | n j jj js c z =>
        simp only [hd] at hq ⊢
        cases hq
        have hc0 := T.sz_nn c
        have hz0 := T.sz_nn z
        have hq1 := ol.1
        simp only [T.sz] at bl hd hss hq1
        exact lightD0 h ol.2.1 ol.2.2 or (by omega) ⟨by omega, by omega⟩ (by omega) hd (by omega) (by omega) hlk
theorem lightR_n {C : Cx} {k : Nat} {i : Py} {s : Int} {l r : T} (h : TS D w t mb C (.n k i s l r) lk) (ol : l.ok) (or : r.ok) (hb : 3 * (l.sz + 1) < r.sz + 1) (bl : l.sz ≤ 9000) (br : r.sz ≤ 9000) (hss : s = 1 + l.sz + r.sz) (hlk : 0 ≤ lk ∧ lk ≤ 4000000000000000000) {q : Nat} (hq : (lightR k i l r).p = some q) :
    Calls Try.prog 61 #[pt t 0, pt k 0, .int .i64 1] w fun e w' => e = .returned (pt q 0) ∧ ∃ lk', lk ≤ lk' ∧ lk' ≤ lk + 5 ∧ TS D w' t mb C (lightR k i l r) lk' ∧ Mk D w w' := by
  have hr0 := T.sz_nn l
  cases r with
  | e => simp only [T.sz] at hb; omega
  | n kk ii ss b a =>
    have ha0 := T.sz_nn a
    have hb0 := T.sz_nn b
    simp only [T.sz] at br hss
    unfold lightR at hq ⊢
    cases hd : decide (2 * (a.sz + 1) ≤ b.sz + 1) with
    | false =>
      simp only [hd] at hq ⊢
      cases hq
      exact lightS1 h or.2.2 or.2.1 ol (by omega) (by omega) (by omega) hd (by omega) hlk
    | true =>
      cases b with
      | e => simp [T.sz] at hd; omega
      | n j jj js c z =>
        simp only [hd] at hq ⊢
        cases hq
        have hc0 := T.sz_nn c
        have hz0 := T.sz_nn z
        have hq1 := or.1
        simp only [T.sz] at br hd hss hq1
        exact lightD1 h or.2.2 or.2.1 ol (by omega) ⟨by omega, by omega⟩ (by omega) hd (by omega) (by omega) hlk
theorem heavy_L (hS : HS D w t mb R root lk) {k : Nat} {r : Rc} (hk : R k = some r) {a b : Int} (hl : szo R r.l a) (h0 : 0 ≤ a) (h1 : a ≤ 1000000) (hr : szo R r.r b) (h2 : 0 ≤ b) (h3 : b ≤ 1000000) (hx : decide (3 * (b + 1) < a + 1) = true) :
    Calls Try.prog 60 #[pt k 0] w fun e w' => e = .returned (.tuple #[.int .i64 0, .bool true]) ∧ Mo w w' := by
  have h := heavy_n hS hk hl h0 h1 hr h2 h3
  unfold hvy at h
  rw [hx, if_pos (of_decide_eq_true hx)] at h
  exact h
theorem heavy_R (hS : HS D w t mb R root lk) {k : Nat} {r : Rc} (hk : R k = some r) {a b : Int} (hl : szo R r.l a) (h0 : 0 ≤ a) (h1 : a ≤ 1000000) (hr : szo R r.r b) (h2 : 0 ≤ b) (h3 : b ≤ 1000000) (hx : decide (3 * (b + 1) < a + 1) = false) {v : Bool} (hy : decide (3 * (a + 1) < b + 1) = v) :
    Calls Try.prog 60 #[pt k 0] w fun e w' => e = .returned (.tuple #[.int .i64 1, .bool v]) ∧ Mo w w' := by
  have h := heavy_n hS hk hl h0 h1 hr h2 h3
  unfold hvy at h
  rw [hx, hy, if_neg (of_decide_eq_false hx)] at h
  exact h
theorem Rep.rt2 {sc : List Int} {R : Mp} {u : Option Nat} {tr : T} (h : Rep sc R u tr) {j : Nat} (e : tr.p = some j) : ∃ l r s i hd c, R j = some ⟨u, l, r, s, i, hd, c⟩ := by
  cases tr with
  | e => cases e
  | n k i s l r => cases e; obtain ⟨h9, e9⟩ := h.1; exact ⟨_, _, _, _, _, _, e9⟩
end
end G
end Go.Proofs.Ythfemlhmnjfjiaa
/-
  The tree's settle: all above a place is mended.
-/
namespace Go.Proofs.Ythfemlhmnjfjiaa
open Go.RowKit
namespace G
section
variable {D : Nat → Prop} {w : World} {t : Nat} {mb : Hd} {lk : Int}
theorem cnt_pos (k : Nat) (ps : List (Option Nat)) : 1 ≤ cnt (some k :: ps) := by have := cnt_bd ps (0 + 1); unfold cnt; simp only [List.foldl_cons, Option.isSome_some, if_true]; omega
theorem RS.op {R : Mp} {root : Option Nat} {f : Fr} {C : Cx} {tr : T} (h : RS D w t mb (f :: C) tr lk R root) {l r : T} (hj : f.jn tr = .n f.k f.i f.s l r) : (∃ hd c, R f.k = some ⟨top C, l.p, r.p, f.s, f.i, hd, c⟩) ∧ Rep mb.sc R (some f.k) l ∧ Rep mb.sc R (some f.k) r ∧ RepC mb.sc R root C (some f.k) ∧ (adC C ++ (T.n f.k f.i f.s l r).ad).Nodup := by
  obtain ⟨hS, hA, hC, hR, hn⟩ := h
  have hn2 := (ad_up f C tr).nodup_iff.1 hn
  rw [hj] at hn2
  obtain ⟨h9, c9, e9⟩ := hC.1
  unfold Fr.rc at e9
  unfold Fr.jn at hj
  cases hd : f.d with
  | true => rw [hd] at hj e9; cases hj; exact ⟨⟨h9, c9, e9⟩, hC.2.1, hR, hC.2.2, hn2⟩
  | false => rw [hd] at hj e9; cases hj; exact ⟨⟨h9, c9, e9⟩, hR, hC.2.1, hC.2.2, hn2⟩
theorem settle_n {C : Cx} {tr : T} (hT : TS D w t mb C tr lk) (ot : tr.ok) (oc : okC C) (hb : csz C + tr.sz ≤ 9000) (hlk : 0 ≤ lk ∧ lk + 8 * C.length ≤ 4000000000000000000) :
    Calls Try.prog 48 #[pt t 0, pp (top C)] w fun e w' => e = .returned (.tuple #[]) ∧ ∃ lk', lk + C.length ≤ lk' ∧ lk' ≤ lk + 8 * C.length ∧ TS D w' t mb [] (rebuild C tr) lk' ∧ Mk D w w' := by
  refine w_enter 39 Try.func48 Try.ntmps48 rfl rfl ?_
  have M : Mk D w w := Mk.refl _ _
  refine w_block ?_
  refine w_loop (fun m l w1 => ∃ (C1 : Cx) (tr1 : T) (lk1 : Int), m = C1.length ∧ look l 0 = pt t 0 ∧ look l 1 = pp (top C1) ∧ TS D w1 t mb C1 tr1 lk1 ∧ tr1.ok ∧ okC C1 ∧ rebuild C1 tr1 = rebuild C tr ∧ csz C1 + tr1.sz ≤ 9000 ∧ lk + C.length ≤ lk1 + C1.length ∧ lk1 + 8 * C1.length ≤ lk + 8 * C.length ∧ Mk D w w1) _ ⟨C, tr, lk, rfl, rfl, rfl, hT, ot, oc, rfl, hb, Int.le_refl _, Int.le_refl _, M⟩ ?_
  clear M hT ot oc hb
  rintro m l0 wl ⟨C1, tr1, lk1, rfl, e0, e1, hT, ot, oc, hrb, hb, hl1, hl2, M⟩
  cases C1 with
  | nil =>
    refine w_seq ?_
    refine w_seq ?_
    refine w_reg ?_
    refine wl_mv (.tmp 1) (pp none) (fun _ => rfl) e1 rfl ?_
    refine wl_bin (fun x y => do eqGuard .neq 65 (.tmp 6) (.const (.pointer none)) x y; binOp .neq 65 x y) (.tmp 6) (.const (.pointer none)) (pp none) (pp none) (.bool false) (fun _ => rfl) rfl rfl (neP none _ _ _) rfl ?_
    refine w_nil ?_
    refine xn_then ?_
    refine w_condF rfl ?_
    refine w_exit ?_
    refine xx_then ?_
    refine xx_then ?_
    refine xx_blk ?_
    exact w_end0 rfl ⟨rfl, lk1, by simp only [List.length_nil] at hl1; omega, by simp only [List.length_nil] at hl2; omega, by rw [← hrb]; exact hT, M⟩
  | cons y C1 =>
    obtain ⟨l, r, hj, hbf, ol, or, hsz⟩ := jn_cases y tr1 (oc y (by simp)) ot
    obtain ⟨R, root, hT⟩ := hT
    have hS := hT.hs
    have hAp := hT.ap
    obtain ⟨⟨h9, c9, hk⟩, hl, hr, hC, hn⟩ := hT.op hj
    clear hT
    have n1 := nd_pos hn
    have hcz : csz (y :: C1) = 1 + y.o.sz + csz C1 := rfl
    have h0l := T.sz_nn l; have h0r := T.sz_nn r; have h0c := csz_nn C1
    simp only [List.length_cons] at hl2 hl1
    have hlk0 : 0 ≤ lk1 := by omega
    refine w_seq ?_
    refine w_seq ?_
    refine w_reg ?_
    refine wl_mv (.tmp 1) (pt y.k 0) (fun _ => rfl) e1 rfl ?_
    refine wl_bin (fun x y => do eqGuard .neq 65 (.tmp 6) (.const (.pointer none)) x y; binOp .neq 65 x y) (.tmp 6) (.const (.pointer none)) (pt y.k 0) (pp none) (.bool true) (fun _ => rfl) rfl rfl (neP (some y.k) _ _ _) rfl ?_
    refine w_nil ?_
    refine xn_then ?_
    refine w_condT rfl ?_
    refine w_skip ?_
    refine xn_then ?_
    refine w_block ?_
    refine w_seq ?_
    refine w_any 12 [.inl (pt t 0), .inl (pt y.k 0), .inl (pt y.k 0), .inl (pt y.k 0), .inl (pt y.k 3), .inl (pt y.k 3), .inl (pp l.p), .inl (pt y.k 0), .inl (pt y.k 0), .inl (pt y.k 3), .inl (pt y.k 4), .inl (pp r.p)] [0] (by kernel_rfl) (by kernel_rfl) (by kernel_rfl) (by kernel_rfl) rfl (by kernel_rfl) (by kernel_rfl) (late_cons ⟨_, _, rfl, rfl, fun _ _ _ _ h => h, fun f hd => ⟨rfl, la_mv (.tmp 0) (pt t 0) (fun _ => rfl) e0⟩⟩ late_nil) ?_ ?_ ?_
    · exact Ds.none rfl
    · refine ea_cons ?_ (ea_cons ?_ (ea_cons ?_ (ea_cons ?_ (ea_cons ?_ (ea_cons ?_ (ea_cons ?_ (ea_cons ?_ (ea_cons ?_ (ea_cons ?_ (ea_cons ?_ (ea_cons ?_ (ea_nil))))))))))))
      · exact og_eq (pt t 0) rfl (fun f wf hq hd K hK => go_run rfl (wo_mv (.tmp 0) (pt t 0) (fun _ => rfl) e0 (hK _ (Mo.refl _))))
      · exact og_eq (pt y.k 0) rfl (fun f wf hq hd K hK => go_run rfl (wo_mv (.tmp 1) (pt y.k 0) (fun _ => rfl) e1 (hK _ (Mo.refl _))))
      · exact og_eq (pt y.k 0) rfl (fun f wf hq hd K hK => go_run rfl (wo_mv (.tmp 1) (pt y.k 0) (fun _ => rfl) e1 (hK _ (Mo.refl _))))
      · exact og_eq (pt y.k 0) rfl (fun f wf hq hd K hK => go_run rfl (wo_nc (.tmp 10) y.k 0 rfl (hd 2 rfl) (hK _ (Mo.refl _))))
      · exact og_eq (pt y.k 3) rfl (fun f wf hq hd K hK => go_run rfl (wo_un (fun v => Instr.fieldAt 93 v 2) (.tmp 11) (pt y.k 0) (pt y.k 3) (fun _ => rfl) (hd 3 rfl) (by kernel_rfl) (hK _ (Mo.refl _))))
      · exact og_eq (pt y.k 3) rfl (fun f wf hq hd K hK => go_run rfl (wo_bin (fun x y => Instr.indexAt 91 x y) (.tmp 12) (.const (.int .i64 (0))) (pt y.k 3) (.int .i64 (0)) (pt y.k 3) (fun _ => rfl) (hd 4 rfl) rfl (by kernel_rfl) (hK _ (Mo.refl _))))
      · exact og_eq (pp l.p) rfl (fun f wf hq hd K hK => have hS := hS.mo hq; go_run rfl (wo_load 65 (.tmp 13) (pt y.k 3) (pp l.p) rfl (hd 5 rfl) (run_one (hS.rc y.k _ hk) 65 3 rfl Try.underlying65 rfl) (hK _ (Mo.refl _))))
      · exact og_eq (pt y.k 0) rfl (fun f wf hq hd K hK => go_run rfl (wo_mv (.tmp 1) (pt y.k 0) (fun _ => rfl) e1 (hK _ (Mo.refl _))))
      · exact og_eq (pt y.k 0) rfl (fun f wf hq hd K hK => go_run rfl (wo_nc (.tmp 15) y.k 0 rfl (hd 7 rfl) (hK _ (Mo.refl _))))
      · exact og_eq (pt y.k 3) rfl (fun f wf hq hd K hK => go_run rfl (wo_un (fun v => Instr.fieldAt 93 v 2) (.tmp 16) (pt y.k 0) (pt y.k 3) (fun _ => rfl) (hd 8 rfl) (by kernel_rfl) (hK _ (Mo.refl _))))
      · exact og_eq (pt y.k 4) rfl (fun f wf hq hd K hK => go_run rfl (wo_bin (fun x y => Instr.indexAt 91 x y) (.tmp 17) (.const (.int .i64 (1))) (pt y.k 3) (.int .i64 (1)) (pt y.k 4) (fun _ => rfl) (hd 9 rfl) rfl (by kernel_rfl) (hK _ (Mo.refl _))))
      · exact og_eq (pp r.p) rfl (fun f wf hq hd K hK => have hS := hS.mo hq; go_run rfl (wo_load 65 (.tmp 18) (pt y.k 4) (pp r.p) rfl (hd 10 rfl) (run_one (hS.rc y.k _ hk) 65 4 rfl Try.underlying65 rfl) (hK _ (Mo.refl _))))
    intro kf11 w11 hq _ _
    replace hS := hS.mo hq
    replace M := M.trans hq
    clear hq
    refine wl_bsl [(0, (.tmp 9)), (1, (.tmp 14)), (2, (.tmp 19))] [pp (some y.k), pp l.p, pp r.p] 3 rfl rfl (bs3 (some y.k) l.p r.p) rfl ?_
    intro g11 w12 hk hz hq Q11
    have nd_g11 : ¬ D g11 := fun e => by have := hS.lt e; omega
    replace hS := hS.mo hq
    replace M := M.trans hq
    clear hk hz hq
    refine wl_callg 34 [(.tmp 8), (.tmp 20)] _ [pt t 0, .slice (some ⟨g11, 0, none⟩) 3 3] (.tuple #[]) rfl rfl (fun _ _ => by kernel_rfl) (look_n [(some y.k), l.p, r.p] g11 hS Q11 nd_g11 (by simp only [List.length_cons, List.length_nil]; omega)) rfl ?_
    intro w13 hF
    have hc0 := cnt_pos y.k [l.p, r.p]
    have hc1 := cnt_le [(some y.k), l.p, r.p]
    simp only [List.length_cons, List.length_nil] at hc1
    obtain ⟨hS2, hM2⟩ := hF
    replace hS := hS2
    replace M := M.same hM2
    clear hS2 hM2 Q11 nd_g11
    refine w_nil ?_
    refine xn_then ?_
    refine w_seq ?_
    refine w_reg ?_
    refine wl_mv (.tmp 0) (pt t 0) (fun _ => rfl) e0 rfl ?_
    refine wl_mv (.tmp 1) (pt y.k 0) (fun _ => rfl) e1 rfl ?_
    have hn2 := n1.2.1
    unfold T.ad at hn2
    have hn3 := List.nodup_cons.1 hn2
    refine wl_callg 59 [(.tmp 22), (.tmp 23)] _ [pt t 0, pt y.k 0] (.tuple #[]) rfl rfl (fun _ _ => by kernel_rfl) (mend_n hS hAp hk (szo_of hl ol) (T.sz_nn l) (by omega) (szo_of hr or) (T.sz_nn r) (by omega) (fun e => hn3.1 (by simp [T.pm e])) (fun e => hn3.1 (by simp [T.pm e])) (fun c hc => smo_of hl hc) (fun c hc => smo_of hr hc)) rfl ?_
    intro w14 hF
    have hoy : y.i.ok := (hS.sv _ _ hk).2.2
    have hol := Rep.oks hS hl
    have hor := Rep.oks hS hr
    obtain ⟨hS2, hM2⟩ := hF
    rw [agg_mid hol hoy hor] at hS2
    have hk0 := hk
    replace hS := hS2
    replace M := M.same hM2
    clear hS2 hM2
    obtain ⟨R1, eR1⟩ : ∃ X, X = ud R y.k ⟨(top C1), l.p, r.p, (1 + l.sz + r.sz), y.i, h9, (agg mb.sc (l.ids ++ y.i :: r.ids))⟩ := ⟨_, rfl⟩
    rw [← eR1] at hS
    have hk : R1 y.k = some ⟨(top C1), l.p, r.p, (1 + l.sz + r.sz), y.i, h9, (agg mb.sc (l.ids ++ y.i :: r.ids))⟩ := by rw [eR1]; exact ud_same _ _ _
    replace hAp : Ap R1 := by rw [eR1]; exact hAp.wr hk0 rfl rfl
    have hnk : y.k ∉ adC C1 := fun m => n1.2.2 _ m (by unfold T.ad; simp)
    replace hC : RepC mb.sc R1 root C1 (some y.k) := by rw [eR1]; exact hC.ud hnk
    replace hl : Rep mb.sc R1 (some y.k) l := by rw [eR1]; exact hl.ud (fun m => hn3.1 (by simp [m]))
    replace hr : Rep mb.sc R1 (some y.k) r := by rw [eR1]; exact hr.ud (fun m => hn3.1 (by simp [m]))
    refine w_nil ?_
    refine xn_then ?_
    refine w_seq ?_
    refine w_seq ?_
    cases hf0 : decide (3 * (r.sz + 1) < l.sz + 1) with
    | true =>
      have hf0p := of_decide_eq_true hf0
      refine w_reg ?_
      refine wl_mv (.tmp 1) (pt y.k 0) (fun _ => rfl) e1 rfl ?_
      refine wl_call 60 [(.tmp 26)] _ [pt y.k 0] (.tuple #[.int .i64 (0), .bool true]) rfl rfl (fun _ _ => by kernel_rfl) (heavy_L hS hk (szo_of hl ol) (T.sz_nn l) (by omega) (szo_of hr or) (T.sz_nn r) (by omega) hf0) rfl ?_
      intro w15 hq
      replace hS := hS.mo hq
      replace M := M.trans hq
      clear hq
      refine wl_mv (.tmp 27) (.tuple #[.int .i64 (0), .bool true]) (fun _ => rfl) rfl rfl ?_
      refine wl_un (fun v => Instr.extract v 0) (.tmp 25) (.tuple #[.int .i64 (0), .bool true]) (.int .i64 (0)) (fun _ => rfl) rfl (by kernel_rfl) rfl ?_
      refine wl_un (fun v => Instr.extract v 1) (.tmp 25) (.tuple #[.int .i64 (0), .bool true]) (.bool true) (fun _ => rfl) rfl (by kernel_rfl) rfl ?_
      refine wl_mv (.tmp 28) (.int .i64 (0)) (fun _ => rfl) rfl rfl ?_
      refine wl_mv (.tmp 29) (.bool true) (fun _ => rfl) rfl rfl ?_
      refine w_nil ?_
      refine xn_then ?_
      refine w_seq ?_
      refine w_reg ?_
      refine wl_mv (.tmp 5) (.bool true) (fun _ => rfl) rfl rfl ?_
      refine w_nil ?_
      refine xn_then ?_
      refine w_condT rfl ?_
      refine w_reg ?_
      refine wl_mv (.tmp 0) (pt t 0) (fun _ => rfl) e0 rfl ?_
      refine wl_mv (.tmp 1) (pt y.k 0) (fun _ => rfl) e1 rfl ?_
      refine wl_mv (.tmp 4) (.int .i64 (0)) (fun _ => rfl) rfl rfl ?_
      obtain ⟨j, hjp⟩ := lightL_p y.k y.i l r
      refine wl_callg 61 [(.tmp 31), (.tmp 32), (.tmp 33)] _ [pt t 0, pt y.k 0, .int .i64 (0)] (pt j 0) rfl rfl (fun _ _ => by kernel_rfl) (lightL_n (⟨R1, root, hS, hAp, hC, ⟨⟨_, hk⟩, hl, hr⟩, hn⟩ : TS D _ t mb C1 (.n y.k y.i (1 + l.sz + r.sz) l r) _) ol or (of_decide_eq_true hf0) (by omega) (by omega) rfl (by omega) hjp) rfl ?_
      intro w16 hF
      obtain ⟨lk2, hk1, hk2, hT2, hM2⟩ := hF
      replace M := M.same hM2
      clear hM2
      obtain ⟨R9, root9, hS9, hAp9, hC9, hR9, hn9⟩ := hT2
      obtain ⟨jl, jr, js, ji, jh, jc, hjr⟩ := hR9.rt2 hjp
      replace hS := hS9
      clear hS9
      refine wl_mv (.tmp 34) (pt j 0) (fun _ => rfl) rfl rfl ?_
      refine w_nil ?_
      refine xn_then ?_
      refine w_reg ?_
      refine wl_mv (.tmp 1) (pt j 0) (fun _ => rfl) rfl rfl ?_
      refine wl_nc (.tmp 35) j 0 rfl rfl rfl ?_
      refine wl_un (fun v => Instr.fieldAt 93 v 1) (.tmp 36) (pt j 0) (pt j 2) (fun _ => rfl) rfl (by kernel_rfl) rfl ?_
      refine wl_load 65 (.tmp 37) (pt j 2) (pp (top C1)) rfl rfl (run_one (hS.rc j _ hjr) 65 2 rfl Try.underlying65 rfl) rfl ?_
      refine wl_mv (.tmp 38) (pp (top C1)) (fun _ => rfl) rfl rfl ?_
      refine w_nil ?_
      refine xn_blk ?_
      have hbe : balF y tr1 = (lightL y.k y.i l r) := by rw [hbf]; unfold bal; rw [if_pos (of_decide_eq_true hf0)]
      exact xn_loop C1.length (by simp) ⟨C1, (lightL y.k y.i l r), lk2, rfl, e0, rfl, ⟨R9, root9, hS, hAp9, hC9, hR9, hn9⟩, by rw [← hbe]; exact balF_ok (oc y (by simp)) ot, fun g hg => oc g (by simp [hg]), by rw [← hrb, ← hbe]; rfl, by rw [← hbe, balF_sz]; omega, by omega, by omega, M⟩
    | false =>
      have hf0p := of_decide_eq_false hf0
      cases hf1 : decide (3 * (l.sz + 1) < r.sz + 1) with
      | true =>
        have hf1p := of_decide_eq_true hf1
        refine w_reg ?_
        refine wl_mv (.tmp 1) (pt y.k 0) (fun _ => rfl) e1 rfl ?_
        refine wl_call 60 [(.tmp 26)] _ [pt y.k 0] (.tuple #[.int .i64 (1), .bool true]) rfl rfl (fun _ _ => by kernel_rfl) (heavy_R hS hk (szo_of hl ol) (T.sz_nn l) (by omega) (szo_of hr or) (T.sz_nn r) (by omega) hf0 hf1) rfl ?_
        intro w15 hq
        replace hS := hS.mo hq
        replace M := M.trans hq
        clear hq
        refine wl_mv (.tmp 27) (.tuple #[.int .i64 (1), .bool true]) (fun _ => rfl) rfl rfl ?_
        refine wl_un (fun v => Instr.extract v 0) (.tmp 25) (.tuple #[.int .i64 (1), .bool true]) (.int .i64 (1)) (fun _ => rfl) rfl (by kernel_rfl) rfl ?_
        refine wl_un (fun v => Instr.extract v 1) (.tmp 25) (.tuple #[.int .i64 (1), .bool true]) (.bool true) (fun _ => rfl) rfl (by kernel_rfl) rfl ?_
        refine wl_mv (.tmp 28) (.int .i64 (1)) (fun _ => rfl) rfl rfl ?_
        refine wl_mv (.tmp 29) (.bool true) (fun _ => rfl) rfl rfl ?_
        refine w_nil ?_
        refine xn_then ?_
        refine w_seq ?_
        refine w_reg ?_
        refine wl_mv (.tmp 5) (.bool true) (fun _ => rfl) rfl rfl ?_
        refine w_nil ?_
        refine xn_then ?_
        refine w_condT rfl ?_
        refine w_reg ?_
        refine wl_mv (.tmp 0) (pt t 0) (fun _ => rfl) e0 rfl ?_
        refine wl_mv (.tmp 1) (pt y.k 0) (fun _ => rfl) e1 rfl ?_
        refine wl_mv (.tmp 4) (.int .i64 (1)) (fun _ => rfl) rfl rfl ?_
        obtain ⟨j, hjp⟩ := lightR_p y.k y.i l r
        refine wl_callg 61 [(.tmp 31), (.tmp 32), (.tmp 33)] _ [pt t 0, pt y.k 0, .int .i64 (1)] (pt j 0) rfl rfl (fun _ _ => by kernel_rfl) (lightR_n (⟨R1, root, hS, hAp, hC, ⟨⟨_, hk⟩, hl, hr⟩, hn⟩ : TS D _ t mb C1 (.n y.k y.i (1 + l.sz + r.sz) l r) _) ol or (of_decide_eq_true hf1) (by omega) (by omega) rfl (by omega) hjp) rfl ?_
        intro w16 hF
        obtain ⟨lk2, hk1, hk2, hT2, hM2⟩ := hF
        replace M := M.same hM2
        clear hM2
        obtain ⟨R9, root9, hS9, hAp9, hC9, hR9, hn9⟩ := hT2
        obtain ⟨jl, jr, js, ji, jh, jc, hjr⟩ := hR9.rt2 hjp
        replace hS := hS9
        clear hS9
        refine wl_mv (.tmp 34) (pt j 0) (fun _ => rfl) rfl rfl ?_
        refine w_nil ?_
        refine xn_then ?_
        refine w_reg ?_
        refine wl_mv (.tmp 1) (pt j 0) (fun _ => rfl) rfl rfl ?_
        refine wl_nc (.tmp 35) j 0 rfl rfl rfl ?_
        refine wl_un (fun v => Instr.fieldAt 93 v 1) (.tmp 36) (pt j 0) (pt j 2) (fun _ => rfl) rfl (by kernel_rfl) rfl ?_
        refine wl_load 65 (.tmp 37) (pt j 2) (pp (top C1)) rfl rfl (run_one (hS.rc j _ hjr) 65 2 rfl Try.underlying65 rfl) rfl ?_
        refine wl_mv (.tmp 38) (pp (top C1)) (fun _ => rfl) rfl rfl ?_
        refine w_nil ?_
        refine xn_blk ?_
        have hbe : balF y tr1 = (lightR y.k y.i l r) := by rw [hbf]; unfold bal; rw [if_neg (of_decide_eq_false hf0), if_pos (of_decide_eq_true hf1)]
        exact xn_loop C1.length (by simp) ⟨C1, (lightR y.k y.i l r), lk2, rfl, e0, rfl, ⟨R9, root9, hS, hAp9, hC9, hR9, hn9⟩, by rw [← hbe]; exact balF_ok (oc y (by simp)) ot, fun g hg => oc g (by simp [hg]), by rw [← hrb, ← hbe]; rfl, by rw [← hbe, balF_sz]; omega, by omega, by omega, M⟩
      | false =>
        have hf1p := of_decide_eq_false hf1
        refine w_reg ?_
        refine wl_mv (.tmp 1) (pt y.k 0) (fun _ => rfl) e1 rfl ?_
        refine wl_call 60 [(.tmp 26)] _ [pt y.k 0] (.tuple #[.int .i64 (1), .bool false]) rfl rfl (fun _ _ => by kernel_rfl) (heavy_R hS hk (szo_of hl ol) (T.sz_nn l) (by omega) (szo_of hr or) (T.sz_nn r) (by omega) hf0 hf1) rfl ?_
        intro w15 hq
        replace hS := hS.mo hq
        replace M := M.trans hq
        clear hq
        refine wl_mv (.tmp 27) (.tuple #[.int .i64 (1), .bool false]) (fun _ => rfl) rfl rfl ?_
        refine wl_un (fun v => Instr.extract v 0) (.tmp 25) (.tuple #[.int .i64 (1), .bool false]) (.int .i64 (1)) (fun _ => rfl) rfl (by kernel_rfl) rfl ?_
        refine wl_un (fun v => Instr.extract v 1) (.tmp 25) (.tuple #[.int .i64 (1), .bool false]) (.bool false) (fun _ => rfl) rfl (by kernel_rfl) rfl ?_
        refine wl_mv (.tmp 28) (.int .i64 (1)) (fun _ => rfl) rfl rfl ?_
        refine wl_mv (.tmp 29) (.bool false) (fun _ => rfl) rfl rfl ?_
        refine w_nil ?_
        refine xn_then ?_
        refine w_seq ?_
        refine w_reg ?_
        refine wl_mv (.tmp 5) (.bool false) (fun _ => rfl) rfl rfl ?_
        refine w_nil ?_
        refine xn_then ?_
        refine w_condF rfl ?_
        refine w_skip ?_
        refine xn_then ?_
        refine w_reg ?_
        refine wl_mv (.tmp 1) (pt y.k 0) (fun _ => rfl) e1 rfl ?_
        refine wl_nc (.tmp 35) y.k 0 rfl rfl rfl ?_
        refine wl_un (fun v => Instr.fieldAt 93 v 1) (.tmp 36) (pt y.k 0) (pt y.k 2) (fun _ => rfl) rfl (by kernel_rfl) rfl ?_
        refine wl_load 65 (.tmp 37) (pt y.k 2) (pp (top C1)) rfl rfl (run_one (hS.rc y.k _ hk) 65 2 rfl Try.underlying65 rfl) rfl ?_
        refine wl_mv (.tmp 38) (pp (top C1)) (fun _ => rfl) rfl rfl ?_
        refine w_nil ?_
        refine xn_blk ?_
        have hbe : balF y tr1 = (.n y.k y.i (1 + l.sz + r.sz) l r) := by rw [hbf]; unfold bal; rw [if_neg (of_decide_eq_false hf0), if_neg (of_decide_eq_false hf1)]
        exact xn_loop C1.length (by simp) ⟨C1, (.n y.k y.i (1 + l.sz + r.sz) l r), ((lk1) + cnt [(some y.k), l.p, r.p]), rfl, e0, rfl, ⟨R1, root, hS, hAp, hC, ⟨⟨_, hk⟩, hl, hr⟩, hn⟩, by rw [← hbe]; exact balF_ok (oc y (by simp)) ot, fun g hg => oc g (by simp [hg]), by rw [← hrb, ← hbe]; rfl, by rw [← hbe, balF_sz]; omega, by omega, by omega, M⟩
end
end G
end Go.Proofs.Ythfemlhmnjfjiaa
/-
  The tree's find, place and depth; a tree hung to a place.
-/
namespace Go.Proofs.Ythfemlhmnjfjiaa
open Go.RowKit
namespace G
section
variable {D : Nat → Prop} {w : World} {t : Nat} {mb : Hd} {R : Mp} {root : Option Nat} {lk : Int}
theorem RS.at : ∀ (C : Cx) {tr1 : T}, RS D w t mb [] (plug C tr1) lk R root → RS D w t mb C tr1 lk R root
  | [], _, h => h
  | f :: C, tr1, h => (RS.at C (tr1 := f.jn tr1) h).dn.1
def T.ht : T → Nat
  | .e => 0
  | .n _ _ _ l r => 1 + max l.ht r.ht
def ix : Cx → Int
  | [] => 0
  | f :: C => (if f.d then f.o.sz + 1 else 0) + ix C
theorem eqI {a b : Int} {r : Bool} (h : decide (a = b) = r) (x y : Operand) (w : World) : (do eqGuard .eql 3 x y (.int .i64 a) (.int .i64 b); binOp .eql 3 (.int .i64 a) (.int .i64 b)).run Try.prog w = .ok (.bool r) w := by
  have e : (do eqGuard .eql 3 x y (.int .i64 a) (.int .i64 b); binOp .eql 3 (.int .i64 a) (.int .i64 b)).run Try.prog w = .ok (.bool (a == b)) w := by kernel_rfl
  rw [e, ← h]; rfl
end
end G
end Go.Proofs.Ythfemlhmnjfjiaa
/-
  The map of ids: what it says, and what its operations leave.
-/
namespace Go.Proofs.Ythfemlhmnjfjiaa
open Go.RowKit Go.ChangeMaps
namespace G
/-- How a record's address reads. -/
def dat : Option Nat → DataW Unit
  | none => .lit (.bool false)
  | some k => .lit (.int .i64 k)
def RR (v : Value) : Option (DataW Unit × List MemPlace) := match v with
  | .pointer none => some (dat none, [])
  | .pointer (some ⟨k, 0, none⟩) => some (dat (some k), [])
  | _ => none
theorem RR_pp (x : Option Nat) : RR (pp x) = some (dat x, []) := by cases x <;> rfl
theorem dat_inj {x y : Option Nat} (h : dat x = dat y) : x = y := by
  cases x <;> cases y <;> simp [dat] at h ⊢
  omega
theorem RR_inv {v : Value} {x : Option Nat} {ps : List MemPlace} (h : RR v = some (dat x, ps)) : v = pp x := by
  unfold RR at h
  split at h
  · rename_i e; simp at h; rw [← dat_inj h.1]; rfl
  · rename_i e k; simp at h; rw [← dat_inj h.1]; rfl
  · cases h
theorem keyd : Maps.Keyed Try.prog 2 := Maps.int_keyed Try.underlying2
theorem key_mk {id : Int} (h : (Lit.int .i64 id).wf = true) : keyOf Try.prog 2 (.int .i64 id) = some (.int .i64 id) := Maps.keyOf_int_mk Try.underlying2 h
def fu (f : Int → Option Nat) (id : Int) (x : Option Nat) (j : Int) : Option Nat := if j = id then x else f j
theorem fu_same (f : Int → Option Nat) (id : Int) (x : Option Nat) : fu f id x id = x := if_pos rfl
theorem fu_ne (f : Int → Option Nat) {id j : Int} (x : Option Nat) (h : j ≠ id) : fu f id x j = f j := if_neg h
/-- The map in the block b says f, and has n entries. -/
def OM (w : World) (b : Nat) (f : Int → Option Nat) (n : Nat) : Prop :=
  ∃ D0 : DataW Unit, w.ownsMap Try.prog 2 RR b n D0 ∧ Maps.size D0 = n ∧ (∀ id, Maps.has D0 (.int .i64 id) = (f id).isSome) ∧ ∀ id k, f id = some k → ∀ z, D0.atKey (.int .i64 id) z = dat (some k)
variable {w w' : World} {b : Nat} {f : Int → Option Nat} {n : Nat}
theorem owns_tight {D0 : DataW Unit} {m : Nat} (h : w.ownsMap Try.prog 2 RR b m D0) : w.ownsMap Try.prog 2 RR b (Maps.size D0) D0 := by
  obtain ⟨es, clock, hb, F, _, rfl⟩ := h
  exact ⟨es, clock, hb, F, by simp [Maps.size, length_sorted], rfl⟩
theorem OM.mk {D : Nat → Prop} (h : OM w b f n) (m : Mk D w w') (hb : ¬ D b) : OM w' b f n := by
  obtain ⟨D0, h1, h2⟩ := h
  refine ⟨D0, ?_, h2⟩
  have hlt := h1.lt
  obtain ⟨es, clock, hb', F, hs, hD⟩ := h1
  exact ⟨es, clock, (m.block b hlt hb).trans hb', F, hs, hD⟩
theorem OM.mo (h : OM w b f n) (m : Mo w w') : OM w' b f n := h.mk (Mk.of (fun _ => False) m) (fun e => e)
theorem OM.lt (h : OM w b f n) : b < w.heap.size := by obtain ⟨D0, h1, _⟩ := h; exact h1.lt
theorem OM.look (h : OM w b f n) {id : Int} (hw : (Lit.int .i64 id).wf = true) : (Instr.lookup 66 (.map (some b)) (.int .i64 id) false).run Try.prog w = .ok (pp (f id)) w := by
  obtain ⟨D0, h1, _, h3, h4⟩ := h
  have hz : (zeroValue 65).run Try.prog w = .ok (pp none) w := by kernel_rfl
  obtain ⟨v, ps, hr, hv⟩ := h1.lookup keyd Try.underlying66 hz (RR_pp none) (key_mk hw)
  have e : D0.atKey (.int .i64 id) (dat none) = dat (f id) := by
    cases hf : f id with
    | none => exact Maps.atKey_of_not_has (by rw [h3, hf]; rfl) _
    | some k => exact h4 id k hf _
  rw [e] at hv
  rw [hr, RR_inv hv]
theorem OM.len (h : OM w b f n) (ty : TypeId) : (Builtin.len_ #[66] ty #[.map (some b)]).run Try.prog w = .ok (.int .i64 (n : Int)) w := by
  obtain ⟨D0, h1, h2, _⟩ := h
  have := h1.len Try.underlying66 ty
  rw [h2] at this
  exact this
theorem turned_mk (h : w.mapTurned w' b) : Mk (fun k => k = b) w w' := by
  have g := h.grown
  exact ⟨g.os, g.tape, g.output, g.size, fun k hk hd => g.block k hk (fun e => hd (Option.some.inj e)), h.frozen⟩
theorem ne_lit {a c : Int} (h : a ≠ c) : (Lit.int .i64 a) ≠ .int .i64 c := fun e => h (by cases e; rfl)
theorem OM.put (h : OM w b f n) (hn : n < 1000000) {id : Int} (hw : (Lit.int .i64 id).wf = true) (k : Nat) :
    ∃ w', (Instr.mapUpdate 66 (.map (some b)) (.int .i64 id) (pt k 0)).run Try.prog w = .ok () w' ∧ OM w' b (fu f id (some k)) (if (f id).isSome then n else n + 1) ∧ Mk (fun j => j = b) w w' := by
  obtain ⟨D0, h1, h2, h3, h4⟩ := h
  obtain ⟨w', hr, ho, ht⟩ := h1.store keyd Try.underlying66 (by unfold maxLen; omega) (key_mk hw) (RR_pp (some k))
  have hkl : WideAt.IsKeyLit (Lit.int .i64 id) := trivial
  have hsz := Maps.size_put (h1.tidy keyd) (k := .int .i64 id) (dat (some k))
  rw [h3, h2] at hsz
  refine ⟨w', hr, ⟨_, ?_, hsz, fun j => ?_, fun j q hq z => ?_⟩, turned_mk ht⟩
  · have := owns_tight ho
    rw [hsz] at this
    exact this
  · by_cases e : j = id
    · subst e; rw [fu_same, Maps.has_put_same h1.isMap hkl]; rfl
    · rw [fu_ne _ _ e, Maps.has_put_other (ne_lit e), h3]
  · by_cases e : j = id
    · subst e; rw [fu_same] at hq; cases hq; exact Maps.atKey_put_same h1.isMap hkl _ _
    · rw [fu_ne _ _ e] at hq; rw [Maps.atKey_put_other (ne_lit e)]; exact h4 j q hq z
theorem OM.new (w : World) : OM (w.alloc (.map #[] 0)) w.heap.size (fun _ => none) 0 :=
  ⟨_, World.ownsMap_made w Try.prog 2 RR, rfl, fun _ => rfl, fun _ _ h => by cases h⟩
section
variable {o : Oper} {n : Nat} {l : List (Nat × Value)} {w : World} {ops : Array Oper} {rest : List Oper} {Q : Exit → Act → World → Prop}
theorem wl_mup (m x v : Operand) (b : Nat) (id : Int) (k : Nat) {c : Nat} {f : Int → Option Nat} (hM : OM w b f c) (hc : c < 1000000) (hw : (Lit.int .i64 id).wf = true) (ho : o.op = .mapUpdate 66 m x v) (hd : o.dst = none) (hm : evl n l m = .map (some b)) (hx : evl n l x = .int .i64 id) (hv : evl n l v = pt k 0) (hg : wnt n l ops o = true)
    (hk : ∀ w', OM w' b (fu f id (some k)) (if (f id).isSome then c else c + 1) → Mk (fun j => j = b) w w' → WL Try.prog ops Q rest n l w') : WL Try.prog ops Q (o :: rest) n l w := by
  obtain ⟨w', hr, h1, h2⟩ := hM.put hc hw k
  refine ⟨l_step hg ?_⟩
  have e : (execOp (evl n l) o).run Try.prog w = .ok .skip w' := by simp [execOp, ho, hm, hx, hv, hr]
  unfold Oper.wp; rw [fr_eval, e, Oper.upon_skip, hd]; exact (hk w' h1 h2).out
end
end G
end Go.Proofs.Ythfemlhmnjfjiaa
/-
  A node more: its blocks made.
-/
namespace Go.Proofs.Ythfemlhmnjfjiaa
open Go.RowKit
namespace G
theorem inf42 : ∃ i, Try.prog.info? 42 = some i ∧ i.zero = some (smv sm0) ∧ i.size = 23 ∧ i.bytes = 184 := by
  cases h : Try.prog.info? 42 with
  | none => have h2 : (Try.prog.info? 42).isSome = true := by kernel_rfl
            rw [h] at h2; cases h2
  | some i =>
    have h1 : (Try.prog.info? 42).map (·.zero) = some (some (smv sm0)) := by kernel_rfl
    have h2 : (Try.prog.info? 42).map (·.size) = some 23 := by kernel_rfl
    have h3 : (Try.prog.info? 42).map (·.bytes) = some 184 := by kernel_rfl
    rw [h] at h1 h2 h3
    simp only [Option.map_some, Option.some.injEq] at h1 h2 h3
    exact ⟨i, rfl, h1, h2, h3⟩
theorem made_at {n i j : Nat} {v : Value} (hi : i < n) (hv : (sml sm0)[j]? = some v) : (madeCells (smv sm0).cells (n * 23)).toList[i * 23 + j]? = some v := by
  have hj : j < 23 := (List.getElem?_eq_some_iff.1 hv).1
  have hlt : i * 23 + j < n * 23 := by omega
  have hz : (smv sm0).cells = (sml sm0).toArray := rfl
  unfold madeCells
  rw [Array.getElem?_toList, Array.getElem?_map, Array.getElem?_range, if_pos hlt, hz]
  simp only [Option.map_some, Option.some.injEq]
  have hs : (sml sm0).toArray.size = 23 := rfl
  rw [hs, show (i * 23 + j) % 23 = j by omega]
  rw [getElem!_def, List.getElem?_toArray, hv]
/-- As many summaries of nothing, in a new block. -/
theorem make47 (n : Nat) (hn : n ≤ 4096) (w : World) : (Instr.makeSlice 47 (.int .i64 (n : Int)) (.int .i64 (n : Int))).run Try.prog w = .ok (.slice (some ⟨w.heap.size, 0, none⟩) n n) (w.alloc (.cells (madeCells (smv sm0).cells (n * 23)) 42)) ∧
    Rw (w.alloc (.cells (madeCells (smv sm0).cells (n * 23)) 42)) 23 (.slice (some ⟨w.heap.size, 0, none⟩) n n) ((List.replicate n sm0).map sml) := by
  obtain ⟨i, hi, hz, hs, hby⟩ := inf42
  have hr := run_make (P := Try.prog) w 47 42 i _ Try.underlying47 hi hz .i64 .i64 n n (by omega) (Int.le_refl _) (by rw [hby]; omega) (by omega)
  simp only [Int.toNat_natCast, hs] at hr
  refine ⟨hr, some ⟨w.heap.size, 0, none⟩, n, by simp, fun _ => ⟨w.heap.size, 0, rfl, ?_, ?_, fun k cs hk j v hv => ?_⟩⟩
  · exact (At.new w (madeCells (smv sm0).cells (n * 23)) 42).2.2
  · exact (At.new w (madeCells (smv sm0).cells (n * 23)) 42).2.1
  · rw [List.getElem?_map] at hk
    obtain ⟨S, hS, rfl⟩ := Option.map_eq_some_iff.1 hk
    have hkn : k < n := by have := (List.getElem?_eq_some_iff.1 hS).1; simpa using this
    have hSe : S = sm0 := List.eq_of_mem_replicate (List.mem_of_getElem? hS)
    subst hSe
    have := (At.new w (madeCells (smv sm0).cells (n * 23)) 42).1 (k * 23 + j) v (made_at hkn hv)
    rw [show 0 + k * 23 + j = 0 + (k * 23 + j) by omega]
    exact this
section
variable {D : Nat → Prop} {w w' : World} {t : Nat} {mb : Hd} {R : Mp} {root : Option Nat} {lk : Int}
/-- What a row owns is no one's else. -/
def Fre (R : Mp) (t : Nat) (mb : Hd) (v : Value) : Prop := ∀ b, ob v = some b → b ≠ t ∧ R b = none ∧ b ≠ mb.m ∧ ob mb.h ≠ some b ∧ ∀ j q, R j = some q → ob q.i.v ≠ some b ∧ ob q.h ≠ some b
/-- The blocks of a tree with a record more. -/
def Dn (D : Nat → Prop) (kn : Nat) (r : Rc) (j : Nat) : Prop := D j ∨ j = kn ∨ ob r.i.v = some j ∨ ob r.h = some j
/-- A record more. -/
theorem HS.add (h : HS D w t mb R root lk) {kn : Nat} (hk : w.heap.size ≤ kn) (m : Mo w w') (r : Rc) (hA : At w' kn r.cells) (hc : Cb w' kn) (hmb : mb.m < w.heap.size)
    (hv : Rw w' 10 r.i.v (r.i.vs.map V10.cells) ∧ r.i.vs.length = mb.sc.length ∧ r.i.ok) (hf : Fre R t mb r.i.v) (hvk : ob r.i.v ≠ some kn)
    (hs : Rw w' 23 r.h (r.c.map sml) ∧ r.c.length = mb.sc.length ∧ ∀ S ∈ r.c, S.ok) (hb : ∀ b, ob r.h = some b → w.heap.size ≤ b ∧ b ≠ kn) : HS (Dn D kn r) w' t mb (ud R kn r) root lk := by
  have h' := h.mo m
  have hRn : ∀ {b}, w.heap.size ≤ b → R b = none := fun {b} hb => by
    cases e : R b with
    | none => rfl
    | some q => have := (h.rc b q e).lt; omega
  have hund : ∀ {b}, R b = none → b ≠ kn → ud R kn r b = none := fun e q => by rw [ud_ne _ _ q]; exact e
  have htn : t ≠ kn := by have := h.tr.lt; omega
  have hsc : ∀ b, ob mb.h = some b → b < w.heap.size := fun b e => h.sc.lt e
  refine ⟨h'.tr, h'.sc, fun b hb2 hd => ?_, fun j q hj => ?_, fun j q hj => ?_, fun j q hj => ?_, fun j q hj => ?_, hund h.mt htn, Or.inl h.dt, fun {j q} hj => ?_, fun {j q b} hj hb2 => ?_, fun {j} hd => ?_, ?_, h.nc⟩
  · rcases hd with hd | hd | hd | hd
    · exact h.sd b hb2 hd
    · have := hsc b hb2; omega
    · exact (hf b hd).2.2.2.1 hb2
    · have := hsc b hb2; have := (hb b hd).1; omega
  · rcases ud_or hj with ⟨rfl, rfl⟩ | ⟨_, hj⟩
    · exact hA
    · exact h'.rc j q hj
  · rcases ud_or hj with ⟨rfl, rfl⟩ | ⟨_, hj⟩
    · exact hc
    · exact h'.cb j q hj
  · rcases ud_or hj with ⟨rfl, rfl⟩ | ⟨_, hj⟩
    · exact hv
    · exact h'.sv j q hj
  · rcases ud_or hj with ⟨rfl, rfl⟩ | ⟨_, hj⟩
    · exact hs
    · exact h'.ss j q hj
  · rcases ud_or hj with ⟨rfl, rfl⟩ | ⟨_, hj⟩
    · exact Or.inr (Or.inl rfl)
    · exact Or.inl (h.dk hj)
  · rcases ud_or hj with ⟨rfl, rfl⟩ | ⟨_, hj⟩
    · rcases hb2 with hb2 | hb2
      · exact ⟨Or.inr (Or.inr (Or.inl hb2)), (hf b hb2).1, hund (hf b hb2).2.1 (fun e => hvk (e ▸ hb2))⟩
      · obtain ⟨a1, a2⟩ := hb b hb2
        exact ⟨Or.inr (Or.inr (Or.inr hb2)), (by have := h.tr.lt; omega), hund (hRn a1) a2⟩
    · obtain ⟨a1, a2, a3⟩ := h.ds hj hb2
      exact ⟨Or.inl a1, a2, hund a3 (by have := h.lt a1; omega)⟩
  · rcases hd with hd | rfl | hd | hd
    · exact h'.lt hd
    · exact hA.lt
    · exact hv.1.lt hd
    · exact hs.1.lt hd
  · rintro (hd | hd | hd | hd)
    · exact h.nb hd
    · omega
    · exact (hf _ hd).2.2.1 rfl
    · have := (hb _ hd).1; omega
theorem Ap.add (h : HS D w t mb R root lk) (A : Ap R) {kn : Nat} (hk : w.heap.size ≤ kn) (r : Rc) (hf : Fre R t mb r.i.v) (hb : ∀ b, ob r.h = some b → w.heap.size ≤ b ∧ ob r.i.v ≠ some b) : Ap (ud R kn r) := by
  have hlt : ∀ {j q b}, R j = some q → ob q.i.v = some b ∨ ob q.h = some b → b < w.heap.size := fun hj e => h.lt (h.ds hj e).1
  refine ⟨fun {j k x q b} a c e e2 => ?_, fun {j k x q b} a c n e e2 => ?_, fun {j k x q b} a c n e e2 => ?_⟩
  · rcases ud_or a with ⟨_, rfl⟩ | ⟨_, a9⟩ <;> rcases ud_or c with ⟨_, rfl⟩ | ⟨_, c9⟩
    · exact (hb b e).2 e2
    · have := (hb b e).1; have := hlt c9 (Or.inl e2); omega
    · exact ((hf b e2).2.2.2.2 j x a9).2 e
    · exact A.hv a9 c9 e e2
  · rcases ud_or a with ⟨rfl, rfl⟩ | ⟨_, a9⟩ <;> rcases ud_or c with ⟨rfl, rfl⟩ | ⟨_, c9⟩
    · exact n rfl
    · have := (hb b e).1; have := hlt c9 (Or.inr e2); omega
    · have := (hb b e2).1; have := hlt a9 (Or.inr e); omega
    · exact A.hh a9 c9 n e e2
  · rcases ud_or a with ⟨rfl, rfl⟩ | ⟨_, a9⟩ <;> rcases ud_or c with ⟨rfl, rfl⟩ | ⟨_, c9⟩
    · exact n rfl
    · exact ((hf b e).2.2.2.2 k q c9).1 e2
    · exact ((hf b e2).2.2.2.2 j x a9).1 e
    · exact A.vv a9 c9 n e e2
theorem HS.kept {E : Nat → Prop} (h : HS D w t mb R root lk) (m : Mk E w w') (hE : ∀ j, D j → ¬ E j) (hsE : ∀ b, ob mb.h = some b → ¬ E b) : HS D w' t mb R root lk :=
  ⟨m.at h.tr (hE t h.dt), h.sc.kept m hsE, h.sd, fun k r e => m.at (h.rc k r e) (hE k (h.dk e)), fun k r e => (h.cb k r e).mk m (hE k (h.dk e)), fun k r e => ⟨(h.sv k r e).1.kept m (fun b hb => hE b (h.ds e (Or.inl hb)).1), (h.sv k r e).2⟩, fun k r e => ⟨(h.ss k r e).1.kept m (fun b hb => hE b (h.ds e (Or.inr hb)).1), (h.ss k r e).2⟩, h.mt, h.dt, h.dk, h.ds, fun e => Nat.lt_of_lt_of_le (h.lt e) m.size, h.nb, h.nc⟩
theorem Rep.mem {sc : List Int} {R : Mp} : ∀ {tr : T} {u : Option Nat}, Rep sc R u tr → ∀ j ∈ tr.ad, ∃ r, R j = some r
  | .e, _, _, j, m => by cases m
  | .n k i s l r, u, h, j, m => by
    obtain ⟨h9, e9⟩ := h.1
    unfold T.ad at m
    simp only [List.mem_cons, List.mem_append] at m
    rcases m with rfl | m | m
    · exact ⟨_, e9⟩
    · exact Rep.mem h.2.1 j m
    · exact Rep.mem h.2.2 j m
theorem RepC.mem {sc : List Int} {R : Mp} {root : Option Nat} : ∀ {C : Cx} {p : Option Nat}, RepC sc R root C p → ∀ j ∈ adC C, ∃ r, R j = some r
  | [], _, _, j, m => by cases m
  | f :: C, p, h, j, m => by
    obtain ⟨h9, c9, e9⟩ := h.1
    unfold adC at m
    simp only [List.mem_cons, List.mem_append] at m
    rcases m with rfl | m | m
    · exact ⟨_, e9⟩
    · exact h.2.1.mem j m
    · exact RepC.mem h.2.2 j m
end
end G
end Go.Proofs.Ythfemlhmnjfjiaa
/-
  The tree's put.
-/
namespace Go.Proofs.Ythfemlhmnjfjiaa
open Go.RowKit
namespace G
section
variable {o : Oper} {n : Nat} {l : List (Nat × Value)} {w : World} {ops : Array Oper} {rest : List Oper} {Q : Exit → Act → World → Prop} {K : Act → World → Prop}
theorem wo_boxc (ty : TypeId) (x : Operand) (v : Value) (cs : Array Value) (ho : o.op = .box ty x) (hx : evl n l x = v) (h : ∀ w, (Instr.box ty v).run Try.prog w = .ok (pt w.heap.size 0) (w.alloc (.cells cs ty)))
    (hk : ∀ k w', w.heap.size = k → Mo w w' → At w' k cs.toList → Cb w' k → K (fr n (ext l o.dst (pt k 0))) w') : WO Try.prog o n l w K Q :=
  ⟨o_val (pt w.heap.size 0) (w' := w.alloc (.cells cs ty)) (by subst hx; simp [execOp, ho, h]) (hk _ _ rfl ((Mo.refl _).alloc _ _) (At.new w cs ty) (Cb.new w cs ty))⟩
theorem wo_mk47 (x y : Operand) (c : Nat) (ho : o.op = .makeSlice 47 x y) (hx : evl n l x = .int .i64 (c : Int)) (hy : evl n l y = .int .i64 (c : Int)) (hc : c ≤ 4096)
    (hk : ∀ k w', w.heap.size = k → w'.heap.size = k + 1 → Mo w w' → Rw w' 23 (.slice (some ⟨k, 0, none⟩) c c) ((List.replicate c sm0).map sml) → K (fr n (ext l o.dst (.slice (some ⟨k, 0, none⟩) c c))) w') : WO Try.prog o n l w K Q :=
  ⟨o_val (.slice (some ⟨w.heap.size, 0, none⟩) c c) (w' := w.alloc (.cells (madeCells (smv sm0).cells (c * 23)) 42)) (by simp only [execOp, ho, hx, hy]; simp [(make47 c hc w).1]) (hk _ _ rfl (by simp) ((Mo.refl _).alloc _ _) (make47 c hc w).2)⟩
end
section
variable {D : Nat → Prop} {w : World} {t : Nat} {mb : Hd} {R : Mp} {root : Option Nat} {lk : Int}
/-- A new node is hung to a place; nothing of it is reckoned yet. -/
theorem hangF {C : Cx} {p : Option Nat} (hS : HS D w t mb R root lk) (hAp : Ap R) (hC : RepC mb.sc R root C p) {kn : Nat} {y : Py} {h : Value} {c : List Sm} (hk : R kn = some ⟨none, none, none, 0, y, h, c⟩) (n1 : (adC C).Nodup) (n2 : kn ∉ adC C) :
    Calls Try.prog 47 #[pt t 0, pp (top C), .int .i64 (if sideC C then 1 else 0), pt kn 0] w fun e w' => e = .returned (.tuple #[]) ∧ TS D w' t mb (⟨kn, y, 0, false, .e⟩ :: C) .e lk ∧ Mk D w w' := by
  have hx : top C ≠ some kn := fun q => n2 (top_mem q)
  refine (hang_n hS (top C) (some kn) (sideC C) (fun k e => by cases e; exact ⟨_, hk⟩) (fun p e => by
      cases C with
      | nil => cases e
      | cons f C => cases e; obtain ⟨h9, c9, e9⟩ := hC.1; exact ⟨_, e9⟩) (fun k e => by cases e; exact hx)).mono fun e w' hq => ?_
  obtain ⟨he, hS', hM⟩ := hq
  refine ⟨he, ⟨_, _, hS', hAp.hk _ _ _, ⟨⟨h, c, hkR_self hk hx⟩, trivial, hC.hang n1 (fun j m q => hkR_ne (fun e => n2 (by cases e; exact m)) q) (fun a q e hq => ?_)⟩, trivial, ?_⟩, hM⟩
  · rw [e]; exact hkR_par hq (fun q => hx (by rw [e, q]))
  · show ((kn :: ([] ++ adC C)) ++ []).Nodup
    simp only [List.nil_append, List.append_nil]
    exact List.nodup_cons.2 ⟨n2, n1⟩
theorem bal_new (kn : Nat) (y : Py) (C : Cx) : rebuild (⟨kn, y, 0, false, .e⟩ :: C) .e = rebuild C (.n kn y 1 .e .e) := by
  show rebuild C (bal kn y .e .e) = _
  rfl
theorem put_n {tr : T} {at0 yi : Int} {yp : Option Addr} {yn yc : Nat} {yvs : List V10} {f : Int → Option Nat} {n : Nat} (hT : RS D w t mb [] tr lk R root) (hM : OM w mb.m f n) (hfi : (if (f yi).isSome then n else n + 1) = n + 1) (hn1 : n ≤ 2000) (hw : (Lit.int .i64 yi).wf = true) (ot : tr.ok) (h0 : 0 ≤ at0) (h1 : at0 ≤ tr.sz) (hb : tr.sz ≤ 8000) (hlk : 0 ≤ lk ∧ lk + 11 * tr.ht + 20 ≤ 4000000000000000000) (hbt : tr.ht ≤ 8000)
    (hyw : Rw w 10 (.slice yp yn yc) (yvs.map V10.cells) ∧ yvs.length = mb.sc.length ∧ ∀ x ∈ yvs, x.n.ok) (hf : Fre R t mb (.slice yp yn yc)) (hyD : ∀ b, ob (.slice yp yn yc) = some b → ¬ D b) (hmh : ob mb.h ≠ some mb.m) :
    Calls Try.prog 31 #[pt t 0, .int .i64 at0, .agg #[.int .i64 yi, .slice yp yn yc]] w fun e w' => e = .returned (.tuple #[]) ∧ ∃ C kn lk' D', plug C .e = tr ∧ ix C = at0 ∧ okC C ∧ w.heap.size ≤ kn ∧ lk < lk' ∧ lk' ≤ lk + 10 * C.length + 8 ∧ C.length ≤ tr.ht ∧
      TS D' w' t mb [] (rebuild C (.n kn ⟨yi, .slice yp yn yc, yvs⟩ 1 .e .e)) lk' ∧ OM w' mb.m (fu f yi (some kn)) (n + 1) ∧ Mk (fun j => D j ∨ j = mb.m ∨ ob (.slice yp yn yc) = some j) w w' ∧ ∀ j, D' j → D j ∨ w.heap.size ≤ j ∨ ob (.slice yp yn yc) = some j := by
  obtain ⟨hS, hAp, hC0, hR0, hn0⟩ := hT
  replace hC0 : root = tr.p := hC0
  subst hC0
  have hDlt : ∀ j, D j → j < w.heap.size := fun j e => hS.lt e
  have hnc := hS.nc
  obtain ⟨p9, cap9, hsl, _⟩ := hS.sc
  rw [List.length_map] at hsl
  refine w_enter 70 Try.func31 Try.ntmps31 rfl rfl ?_
  have M : Mk (fun j => D j ∨ j = mb.m) w w := Mk.refl _ _
  refine w_seq ?_
  refine w_reg ?_
  refine wl_box 83 (.tmp 2) (.agg #[.int .i64 yi, .slice yp yn yc]) (#[.int .i64 yi, .slice yp yn yc]) rfl rfl (fun _ => by kernel_rfl) rfl ?_
  intro k5 w1 hk hz hq Q5
  have hk5 : w.heap.size ≤ k5 := by omega
  have nd5 : ¬ D k5 := fun e => by have := hDlt _ e; omega
  replace hS := hS.mo hq
  replace hM := hM.mo hq
  replace M := M.trans hq
  clear hk hz hq
  refine w_nil ?_
  refine xn_then ?_
  refine w_seq ?_
  refine w_reg ?_
  refine wl_mv (.const (.pointer none)) (pp none) (fun _ => rfl) rfl rfl ?_
  refine w_nil ?_
  refine xn_then ?_
  refine w_seq ?_
  refine w_reg ?_
  refine wl_mv (.const (.int .i64 (0))) (.int .i64 (0)) (fun _ => rfl) rfl rfl ?_
  refine w_nil ?_
  refine xn_then ?_
  refine w_seq ?_
  refine w_seq ?_
  refine w_reg ?_
  refine wl_mv (.tmp 0) (pt t 0) (fun _ => rfl) rfl rfl ?_
  refine wl_nc (.tmp 11) t 0 rfl rfl rfl ?_
  refine wl_un (fun v => Instr.fieldAt 68 v 1) (.tmp 12) (pt t 0) (pt t 1) (fun _ => rfl) rfl (by kernel_rfl) rfl ?_
  refine wl_load 65 (.tmp 13) (pt t 1) (pp tr.p) rfl rfl (run_one hS.tr 65 1 rfl Try.underlying65 rfl) rfl ?_
  refine wl_mv (.tmp 14) (pp tr.p) (fun _ => rfl) rfl rfl ?_
  refine w_nil ?_
  refine xn_then ?_
  refine w_block ?_
  refine w_loop (fun m l w1 => ∃ (C1 : Cx) (tr1 : T) (lk1 at1 : Int), m = tr1.ht ∧ look l 0 = pt t 0 ∧ look l 1 = .int .i64 at1 ∧ look l 5 = pt k5 0 ∧ look l 6 = pp (top C1) ∧ look l 7 = .int .i64 (if sideC C1 then 1 else 0) ∧ look l 8 = pp tr1.p ∧ HS D w1 t mb R tr.p lk1 ∧ OM w1 mb.m f n ∧ At w1 k5 [.int .i64 yi, .slice yp yn yc] ∧ tr1.ok ∧ okC C1 ∧ plug C1 tr1 = tr ∧ csz C1 + tr1.sz = tr.sz ∧ 0 ≤ at1 ∧ at1 ≤ tr1.sz ∧ at1 + ix C1 = at0 ∧ lk ≤ lk1 ∧ lk1 ≤ lk + 2 * C1.length ∧ C1.length + tr1.ht ≤ tr.ht ∧ Mk (fun j => D j ∨ j = mb.m) w w1) _ ⟨[], tr, lk, at0, rfl, rfl, rfl, rfl, rfl, rfl, rfl, hS, hM, Q5, ot, fun _ h => (by cases h), rfl, by simp only [csz]; omega, h0, h1, by simp only [ix]; omega, Int.le_refl _, by simp, by simp, M⟩ ?_
  clear M hS hM ot h0 h1 Q5
  rintro m l0 wl ⟨C1, tr1, lk1, at1, rfl, e0, e1, e5, e6, e7, e8, hS, hM, Q5, ot, oc, hp, hcs, h0, h1, hix, hl1, hl2, hht, M⟩
  obtain ⟨_, _, hC, hR, hn⟩ := RS.at C1 (tr1 := tr1) (R := R) (root := tr.p) (by rw [hp]; exact ⟨hS, hAp, rfl, hR0, hn0⟩)
  have hlk0 : 0 ≤ lk1 := by omega
  have h0c := csz_nn C1
  cases tr1 with
  | n k i s l r =>
    obtain ⟨⟨hd1, hk⟩, hl, hr⟩ := hR
    have h0l := T.sz_nn l; have h0r := T.sz_nn r
    simp only [T.sz] at h1 hcs
    simp only [T.ht] at hht
    have hml := Nat.le_max_left l.ht r.ht; have hmr := Nat.le_max_right l.ht r.ht
    refine w_seq ?_
    refine w_seq ?_
    refine w_reg ?_
    refine wl_mv (.tmp 8) (pt k 0) (fun _ => rfl) e8 rfl ?_
    refine wl_bin (fun x y => do eqGuard .neq 65 (.tmp 15) (.const (.pointer none)) x y; binOp .neq 65 x y) (.tmp 15) (.const (.pointer none)) (pt k 0) (pp none) (.bool true) (fun _ => rfl) rfl rfl (neP (some k) _ _ _) rfl ?_
    refine w_nil ?_
    refine xn_then ?_
    refine w_condT rfl ?_
    refine w_skip ?_
    refine xn_then ?_
    refine w_seq ?_
    refine w_block ?_
    refine w_seq ?_
    refine w_reg ?_
    refine wl_mv (.tmp 0) (pt t 0) (fun _ => rfl) e0 rfl ?_
    refine wl_mv (.tmp 8) (pt k 0) (fun _ => rfl) e8 rfl ?_
    refine wl_mv (.tmp 8) (pt k 0) (fun _ => rfl) e8 rfl ?_
    refine wl_nc (.tmp 25) k 0 rfl rfl rfl ?_
    refine wl_un (fun v => Instr.fieldAt 93 v 2) (.tmp 26) (pt k 0) (pt k 3) (fun _ => rfl) rfl (by kernel_rfl) rfl ?_
    refine wl_bin (fun x y => Instr.indexAt 91 x y) (.tmp 27) (.const (.int .i64 (0))) (pt k 3) (.int .i64 (0)) (pt k 3) (fun _ => rfl) rfl rfl (by kernel_rfl) rfl ?_
    refine wl_load 65 (.tmp 28) (pt k 3) (pp l.p) rfl rfl (run_one (hS.rc k _ hk) 65 3 rfl Try.underlying65 rfl) rfl ?_
    refine wl_bsl [(0, (.tmp 24)), (1, (.tmp 29))] [pp (some k), pp l.p] 2 rfl rfl (bs2 (some k) l.p) rfl ?_
    intro g11 w11 hk hz hq Q11
    have nd_g11 : ¬ D g11 := fun e => by have := hS.lt e; omega
    replace Q5 := Q5.mo hq
    replace hS := hS.mo hq
    replace hM := hM.mo hq
    replace M := M.trans hq
    clear hk hz hq
    refine wl_callg 34 [(.tmp 23), (.tmp 30)] _ [pt t 0, .slice (some ⟨g11, 0, none⟩) 2 2] (.tuple #[]) rfl rfl (fun _ _ => by kernel_rfl) (look_n [(some k), l.p] g11 hS Q11 nd_g11 (by simp only [List.length_cons, List.length_nil]; omega)) rfl ?_
    intro w12 hF
    replace Q5 := hF.2.at Q5 nd5
    have hc1 := cnt_le [(some k), l.p]
    simp only [List.length_cons, List.length_nil] at hc1
    obtain ⟨hS2, hM2⟩ := hF
    replace hS := hS2
    replace M := M.tr hM2 (fun _ _ e => Or.inl e)
    replace hM := hM.mk hM2 hS.nb
    clear hS2 hM2 Q11 nd_g11
    refine w_nil ?_
    refine xn_then ?_
    refine w_seq ?_
    refine w_reg ?_
    refine wl_mv (.tmp 8) (pt k 0) (fun _ => rfl) e8 rfl ?_
    refine wl_mv (.tmp 32) (pt k 0) (fun _ => rfl) rfl rfl ?_
    refine wl_mv (.const (.int .i64 (0))) (.int .i64 (0)) (fun _ => rfl) rfl rfl ?_
    refine w_nil ?_
    refine xn_then ?_
    refine w_seq ?_
    refine w_reg ?_
    refine wl_mv (.tmp 8) (pt k 0) (fun _ => rfl) e8 rfl ?_
    refine wl_nc (.tmp 33) k 0 rfl rfl rfl ?_
    refine wl_un (fun v => Instr.fieldAt 93 v 2) (.tmp 34) (pt k 0) (pt k 3) (fun _ => rfl) rfl (by kernel_rfl) rfl ?_
    refine wl_bin (fun x y => Instr.indexAt 91 x y) (.tmp 35) (.const (.int .i64 (0))) (pt k 3) (.int .i64 (0)) (pt k 3) (fun _ => rfl) rfl rfl (by kernel_rfl) rfl ?_
    refine wl_load 65 (.tmp 36) (pt k 3) (pp l.p) rfl rfl (run_one (hS.rc k _ hk) 65 3 rfl Try.underlying65 rfl) rfl ?_
    refine wl_call 46 [(.tmp 37)] _ [pp l.p] (.int .i64 (l.sz)) rfl rfl (fun _ _ => by kernel_rfl) (size_o hS (szo_of hl ot.2.1)) rfl ?_
    intro w13 hq
    replace Q5 := Q5.mo hq
    replace hS := hS.mo hq
    replace hM := hM.mo hq
    replace M := M.trans hq
    clear hq
    refine wl_mv (.tmp 38) (.int .i64 (l.sz)) (fun _ => rfl) rfl rfl ?_
    refine w_nil ?_
    refine xn_then ?_
    refine w_seq ?_
    cases hf0 : decide (l.sz < at1) with
    | true =>
      have hf0p := of_decide_eq_true hf0
      refine w_reg ?_
      refine wl_mv (.tmp 1) (.int .i64 (at1)) (fun _ => rfl) e1 rfl ?_
      refine wl_mv (.tmp 9) (.int .i64 (l.sz)) (fun _ => rfl) rfl rfl ?_
      refine wl_bin (fun x y => do eqGuard .gtr 3 (.tmp 39) (.tmp 40) x y; binOp .gtr 3 x y) (.tmp 39) (.tmp 40) (.int .i64 (at1)) (.int .i64 (l.sz)) (.bool true) (fun _ => rfl) rfl rfl (gtI hf0 _ _ _) rfl ?_
      refine w_nil ?_
      refine xn_then ?_
      refine w_condT rfl ?_
      refine w_seq ?_
      refine w_reg ?_
      refine wl_mv (.tmp 1) (.int .i64 (at1)) (fun _ => rfl) e1 rfl ?_
      refine wl_mv (.tmp 9) (.int .i64 (l.sz)) (fun _ => rfl) rfl rfl ?_
      refine wl_bin (fun x y => do eqGuard .add 3 (.tmp 43) (.const (.int .i64 (1))) x y; binOp .add 3 x y) (.tmp 43) (.const (.int .i64 (1))) (.int .i64 (l.sz)) (.int .i64 (1)) (.int .i64 (l.sz + 1)) (fun _ => rfl) rfl rfl (addI (by omega) (by omega) _ _ _) rfl ?_
      refine wl_bin (fun x y => do eqGuard .sub 3 (.tmp 42) (.tmp 44) x y; binOp .sub 3 x y) (.tmp 42) (.tmp 44) (.int .i64 (at1)) (.int .i64 (l.sz + 1)) (.int .i64 (at1 - (l.sz + 1))) (fun _ => rfl) rfl rfl (subI (by omega) (by omega) _ _ _) rfl ?_
      refine wl_mv (.tmp 45) (.int .i64 (at1 - (l.sz + 1))) (fun _ => rfl) rfl rfl ?_
      refine w_nil ?_
      refine xn_then ?_
      refine w_reg ?_
      refine wl_mv (.const (.int .i64 (1))) (.int .i64 (1)) (fun _ => rfl) rfl rfl ?_
      refine w_nil ?_
      refine xn_blk ?_
      refine xn_then ?_
      refine w_reg ?_
      refine wl_mv (.tmp 8) (pt k 0) (fun _ => rfl) e8 rfl ?_
      refine wl_mv (.tmp 7) (.int .i64 (1)) (fun _ => rfl) rfl rfl ?_
      refine wl_nc (.tmp 17) k 0 rfl rfl rfl ?_
      refine wl_un (fun v => Instr.fieldAt 93 v 2) (.tmp 19) (pt k 0) (pt k 3) (fun _ => rfl) rfl (by kernel_rfl) rfl ?_
      refine wl_bin (fun x y => Instr.indexAt 91 x y) (.tmp 20) (.tmp 18) (pt k 3) (.int .i64 (1)) (pt k 4) (fun _ => rfl) rfl rfl (by kernel_rfl) rfl ?_
      refine wl_load 65 (.tmp 21) (pt k 4) (pp r.p) rfl rfl (run_one (hS.rc k _ hk) 65 4 rfl Try.underlying65 rfl) rfl ?_
      refine wl_mv (.tmp 22) (pp r.p) (fun _ => rfl) rfl rfl ?_
      refine w_nil ?_
      exact xn_loop r.ht (by simp only [T.ht]; omega) ⟨(⟨k, i, s, true, l⟩ : Fr) :: C1, r, ((lk1) + cnt [(some k), l.p]), at1 - (l.sz + 1), rfl, e0, rfl, e5, rfl, rfl, rfl, hS, hM, Q5, ot.2.2, fun g hg => by rcases List.mem_cons.1 hg with rfl | hg; exact ot.2.1; exact oc g hg, hp, by simp only [csz]; omega, by omega, by omega, by simp only [ix, if_true]; omega, by omega, by simp only [List.length_cons]; omega, by simp only [List.length_cons]; omega, M⟩
    | false =>
      have hf0p := of_decide_eq_false hf0
      refine w_reg ?_
      refine wl_mv (.tmp 1) (.int .i64 (at1)) (fun _ => rfl) e1 rfl ?_
      refine wl_mv (.tmp 9) (.int .i64 (l.sz)) (fun _ => rfl) rfl rfl ?_
      refine wl_bin (fun x y => do eqGuard .gtr 3 (.tmp 39) (.tmp 40) x y; binOp .gtr 3 x y) (.tmp 39) (.tmp 40) (.int .i64 (at1)) (.int .i64 (l.sz)) (.bool false) (fun _ => rfl) rfl rfl (gtI hf0 _ _ _) rfl ?_
      refine w_nil ?_
      refine xn_then ?_
      refine w_condF rfl ?_
      refine w_skip ?_
      refine xn_blk ?_
      refine xn_then ?_
      refine w_reg ?_
      refine wl_mv (.tmp 8) (pt k 0) (fun _ => rfl) e8 rfl ?_
      refine wl_mv (.tmp 7) (.int .i64 (0)) (fun _ => rfl) rfl rfl ?_
      refine wl_nc (.tmp 17) k 0 rfl rfl rfl ?_
      refine wl_un (fun v => Instr.fieldAt 93 v 2) (.tmp 19) (pt k 0) (pt k 3) (fun _ => rfl) rfl (by kernel_rfl) rfl ?_
      refine wl_bin (fun x y => Instr.indexAt 91 x y) (.tmp 20) (.tmp 18) (pt k 3) (.int .i64 (0)) (pt k 3) (fun _ => rfl) rfl rfl (by kernel_rfl) rfl ?_
      refine wl_load 65 (.tmp 21) (pt k 3) (pp l.p) rfl rfl (run_one (hS.rc k _ hk) 65 3 rfl Try.underlying65 rfl) rfl ?_
      refine wl_mv (.tmp 22) (pp l.p) (fun _ => rfl) rfl rfl ?_
      refine w_nil ?_
      exact xn_loop l.ht (by simp only [T.ht]; omega) ⟨(⟨k, i, s, false, r⟩ : Fr) :: C1, l, ((lk1) + cnt [(some k), l.p]), at1, rfl, e0, e1, e5, rfl, rfl, rfl, hS, hM, Q5, ot.2.1, fun g hg => by rcases List.mem_cons.1 hg with rfl | hg; exact ot.2.2; exact oc g hg, hp, by simp only [csz]; omega, by omega, by omega, by simp only [ix]; simp only [Bool.false_eq_true, if_false]; omega, by omega, by simp only [List.length_cons]; omega, by simp only [List.length_cons]; omega, M⟩
  | e =>
    refine w_seq ?_
    refine w_seq ?_
    refine w_reg ?_
    refine wl_mv (.tmp 8) (pp none) (fun _ => rfl) e8 rfl ?_
    refine wl_bin (fun x y => do eqGuard .neq 65 (.tmp 15) (.const (.pointer none)) x y; binOp .neq 65 x y) (.tmp 15) (.const (.pointer none)) (pp none) (pp none) (.bool false) (fun _ => rfl) rfl rfl (neP none _ _ _) rfl ?_
    refine w_nil ?_
    refine xn_then ?_
    refine w_condF rfl ?_
    refine w_exit ?_
    refine xx_then ?_
    refine xx_then ?_
    refine xx_blk ?_
    refine xn_then ?_
    refine w_seq ?_
    have hsm : Smos [vq (.agg #[.int .i64 yi, .slice yp yn yc]), vq (pt t 0), vq (pt t 0), vq (pt t 0), vq (mb.h), vq (.int .i64 ((mb.sc.length : Nat) : Int)), fun u w9 => ∃ b9, u = .slice (some ⟨b9, 0, none⟩) mb.sc.length mb.sc.length ∧ wl.heap.size ≤ b9 ∧ b9 < w9.heap.size ∧ Rw w9 23 (.slice (some ⟨b9, 0, none⟩) mb.sc.length mb.sc.length) ((List.replicate mb.sc.length sm0).map sml), fun u w9 => ∃ b9, u = .agg #[.int .i64 yi, .slice yp yn yc, .pointer none, .pointer none, .pointer none, .int .i64 0, .slice (some ⟨b9, 0, none⟩) mb.sc.length mb.sc.length] ∧ wl.heap.size ≤ b9 ∧ b9 < w9.heap.size ∧ Rw w9 23 (.slice (some ⟨b9, 0, none⟩) mb.sc.length mb.sc.length) ((List.replicate mb.sc.length sm0).map sml), fun u w9 => ∃ b9 kn, u = pt kn 0 ∧ At w9 kn [.int .i64 yi, .slice yp yn yc, .pointer none, .pointer none, .pointer none, .int .i64 0, .slice (some ⟨b9, 0, none⟩) mb.sc.length mb.sc.length] ∧ Cb w9 kn ∧ wl.heap.size ≤ kn ∧ b9 ≠ kn ∧ wl.heap.size ≤ b9 ∧ Rw w9 23 (.slice (some ⟨b9, 0, none⟩) mb.sc.length mb.sc.length) ((List.replicate mb.sc.length sm0).map sml), fun u w9 => ∃ b9 kn, u = pt kn 0 ∧ At w9 kn [.int .i64 yi, .slice yp yn yc, .pointer none, .pointer none, .pointer none, .int .i64 0, .slice (some ⟨b9, 0, none⟩) mb.sc.length mb.sc.length] ∧ Cb w9 kn ∧ wl.heap.size ≤ kn ∧ b9 ≠ kn ∧ wl.heap.size ≤ b9 ∧ Rw w9 23 (.slice (some ⟨b9, 0, none⟩) mb.sc.length mb.sc.length) ((List.replicate mb.sc.length sm0).map sml)] := smos_cons (smo_vq _) (smos_cons (smo_vq _) (smos_cons (smo_vq _) (smos_cons (smo_vq _) (smos_cons (smo_vq _) (smos_cons (smo_vq _) (smos_cons (fun u a b ⟨b9, h1, h2, h3, h4⟩ m => ⟨b9, h1, h2, Nat.lt_of_lt_of_le h3 m.size, h4.mo m⟩) (smos_cons (fun u a b ⟨b9, h1, h2, h3, h4⟩ m => ⟨b9, h1, h2, Nat.lt_of_lt_of_le h3 m.size, h4.mo m⟩) (smos_cons (fun u a b ⟨b9, kn, h1, h2, h3, h4, h5, h6, h7⟩ m => ⟨b9, kn, h1, h2.mo m, h3.mo m, h4, h5, h6, h7.mo m⟩) (smos_cons (fun u a b ⟨b9, kn, h1, h2, h3, h4, h5, h6, h7⟩ m => ⟨b9, kn, h1, h2.mo m, h3.mo m, h4, h5, h6, h7.mo m⟩) (smos_nil))))))))))
    have hgr : ∀ a b : World, Mo wl a → Mo a b → Mo wl b := fun _ _ h m => h.trans m
    refine w_ogc 10 (fun w9 => Mo wl w9) [vq (.agg #[.int .i64 yi, .slice yp yn yc]), vq (pt t 0), vq (pt t 0), vq (pt t 0), vq (mb.h), vq (.int .i64 ((mb.sc.length : Nat) : Int)), fun u w9 => ∃ b9, u = .slice (some ⟨b9, 0, none⟩) mb.sc.length mb.sc.length ∧ wl.heap.size ≤ b9 ∧ b9 < w9.heap.size ∧ Rw w9 23 (.slice (some ⟨b9, 0, none⟩) mb.sc.length mb.sc.length) ((List.replicate mb.sc.length sm0).map sml), fun u w9 => ∃ b9, u = .agg #[.int .i64 yi, .slice yp yn yc, .pointer none, .pointer none, .pointer none, .int .i64 0, .slice (some ⟨b9, 0, none⟩) mb.sc.length mb.sc.length] ∧ wl.heap.size ≤ b9 ∧ b9 < w9.heap.size ∧ Rw w9 23 (.slice (some ⟨b9, 0, none⟩) mb.sc.length mb.sc.length) ((List.replicate mb.sc.length sm0).map sml), fun u w9 => ∃ b9 kn, u = pt kn 0 ∧ At w9 kn [.int .i64 yi, .slice yp yn yc, .pointer none, .pointer none, .pointer none, .int .i64 0, .slice (some ⟨b9, 0, none⟩) mb.sc.length mb.sc.length] ∧ Cb w9 kn ∧ wl.heap.size ≤ kn ∧ b9 ≠ kn ∧ wl.heap.size ≤ b9 ∧ Rw w9 23 (.slice (some ⟨b9, 0, none⟩) mb.sc.length mb.sc.length) ((List.replicate mb.sc.length sm0).map sml), fun u w9 => ∃ b9 kn, u = pt kn 0 ∧ At w9 kn [.int .i64 yi, .slice yp yn yc, .pointer none, .pointer none, .pointer none, .int .i64 0, .slice (some ⟨b9, 0, none⟩) mb.sc.length mb.sc.length] ∧ Cb w9 kn ∧ wl.heap.size ≤ kn ∧ b9 ≠ kn ∧ wl.heap.size ≤ b9 ∧ Rw w9 23 (.slice (some ⟨b9, 0, none⟩) mb.sc.length mb.sc.length) ((List.replicate mb.sc.length sm0).map sml)] [] (by kernel_rfl) (by kernel_rfl) (by kernel_rfl) (by kernel_rfl) rfl (by kernel_rfl) (by kernel_rfl) latec_nil ((Mo.refl _).drew) ?_ ?_
    · refine ea_cons ?_ (ea_cons ?_ (ea_cons ?_ (ea_cons ?_ (ea_cons ?_ (ea_cons ?_ (ea_cons ?_ (ea_cons ?_ (ea_cons ?_ (ea_cons ?_ (ea_nil))))))))))
      · exact oc_eq (.agg #[.int .i64 yi, .slice yp yn yc]) rfl hgr hsm (fun f wf hG9 hd K hK => have Q5 := Q5.mo hG9; go_run rfl (wo_load 83 (.tmp 5) (pt k5 0) (.agg #[.int .i64 yi, .slice yp yn yc]) rfl e5 (run_row Q5 83 0 2 [.int .i64 yi, .slice yp yn yc] rfl Try.underlying83 rfl zs83) (hK _ (Mo.refl _))))
      · exact oc_eq (pt t 0) rfl hgr hsm (fun f wf hG9 hd K hK => go_run rfl (wo_mv (.tmp 0) (pt t 0) (fun _ => rfl) e0 (hK _ (Mo.refl _))))
      · exact oc_eq (pt t 0) rfl hgr hsm (fun f wf hG9 hd K hK => go_run rfl (wo_nc (.tmp 47) t 0 rfl (hd 1 rfl) (hK _ (Mo.refl _))))
      · exact oc_eq (pt t 0) rfl hgr hsm (fun f wf hG9 hd K hK => go_run rfl (wo_un (fun v => Instr.fieldAt 68 v 0) (.tmp 48) (pt t 0) (pt t 0) (fun _ => rfl) (hd 2 rfl) (by kernel_rfl) (hK _ (Mo.refl _))))
      · exact oc_eq (mb.h) rfl hgr hsm (fun f wf hG9 hd K hK => have hS := hS.mo hG9; go_run rfl (wo_load 22 (.tmp 49) (pt t 0) (mb.h) rfl (hd 3 rfl) (run_one hS.tr 22 0 rfl Try.underlying22 rfl) (hK _ (Mo.refl _))))
      · exact oc_eq (.int .i64 ((mb.sc.length : Nat) : Int)) rfl hgr hsm (fun f wf hG9 hd K hK => go_run rfl (wo_val (.int .i64 ((mb.sc.length : Nat) : Int)) (len22 _ _ _ _ _ (Eq.trans (b := mb.h) (by exact (hd 4 rfl)) hsl) _ _ _ _ _ _) (hK _ (Mo.refl _))))
      · refine ⟨fun f wf hG9 hd K hK => ?_⟩
        exact go_run rfl (wo_mk47 (.tmp 51) (.tmp 51) mb.sc.length rfl (hd 5 rfl) (hd 5 rfl) hnc (fun k9 w9 e9 z9 q1 q2 => hK _ w9 (hG9.trans q1) ⟨k9, rfl, by have := hG9.size; omega, by omega, q2⟩ (fun j u _ hr9 => hsm j u _ _ hr9 q1)))
      · refine ⟨fun f wf hG9 hd K hK => ?_⟩
        obtain ⟨b9, e9, g1, g2, g3⟩ := hd 6 rfl
        exact go_run rfl (wo_build 93 [(0, (.tmp 46)), (4, (.tmp 52))] [(0, .agg #[.int .i64 yi, .slice yp yn yc]), (4, .slice (some ⟨b9, 0, none⟩) mb.sc.length mb.sc.length)] (.agg #[.int .i64 yi, .slice yp yn yc, .pointer none, .pointer none, .pointer none, .int .i64 0, .slice (some ⟨b9, 0, none⟩) mb.sc.length mb.sc.length]) rfl (lp2 (hd 0 rfl) e9) (by kernel_rfl) (hK _ _ hG9 ⟨b9, rfl, g1, g2, g3⟩ (fun j u _ hr9 => hr9)))
      · refine ⟨fun f wf hG9 hd K hK => ?_⟩
        obtain ⟨b9, e9, g1, g2, g3⟩ := hd 7 rfl
        exact go_run rfl (wo_boxc 93 (.tmp 53) (.agg #[.int .i64 yi, .slice yp yn yc, .pointer none, .pointer none, .pointer none, .int .i64 0, .slice (some ⟨b9, 0, none⟩) mb.sc.length mb.sc.length]) #[.int .i64 yi, .slice yp yn yc, .pointer none, .pointer none, .pointer none, .int .i64 0, .slice (some ⟨b9, 0, none⟩) mb.sc.length mb.sc.length] rfl e9 (fun _ => by kernel_rfl) (fun k9 w9 q0 q1 q2 q3 => hK _ w9 (hG9.trans q1) ⟨b9, k9, rfl, q2, q3, by have := hG9.size; omega, by omega, g1, g3.mo q1⟩ (fun j u _ hr9 => hsm j u _ _ hr9 q1)))
      · refine ⟨fun f wf hG9 hd K hK => ?_⟩
        obtain ⟨b9, k9, e9, g⟩ := hd 8 rfl
        exact go_run rfl (wo_mv (.tmp 54) (pt k9 0) (fun _ => rfl) e9 (hK _ _ hG9 ⟨b9, k9, rfl, g⟩ (fun j u _ hr9 => hr9)))
    intro f9 w11 hq hR9
    obtain ⟨b9, kn, e9, hA9, hcb, hkn0, hbk, hb0, hRw⟩ := hR9 9 rfl
    have hMs := M.size
    have hkn : w.heap.size ≤ kn := by omega
    have hlt : ∀ j, j ∈ adC C1 → j ≠ kn := fun j m e => by obtain ⟨r, hr⟩ := hC.mem j m; have := (hS.rc j r hr).lt; omega
    obtain ⟨r0, er0⟩ : ∃ r0 : Rc, r0 = ⟨none, none, none, 0, ⟨yi, .slice yp yn yc, yvs⟩, .slice (some ⟨b9, 0, none⟩) mb.sc.length mb.sc.length, List.replicate mb.sc.length sm0⟩ := ⟨_, rfl⟩
    have hob9 : ∀ b, ob (.slice (some ⟨b9, 0, none⟩) mb.sc.length mb.sc.length) = some b → b = b9 := fun b hb => by obtain ⟨a, q, c, e1, e2⟩ := ob_some hb; rw [Value.slice.injEq] at e1; have := e1.1; cases this; exact e2.symm
    have hyl : ∀ b, ob (.slice yp yn yc) = some b → b < w.heap.size := fun b hb => hyw.1.lt hb
    have hyw2 := hyw.1.kept M (fun b hb e => by rcases e with e | e; exact hyD b hb e; exact (hf b hb).2.2.1 e)
    have hAp1 : Ap (ud R kn r0) := by subst er0; exact Ap.add hS hAp (by omega) _ hf (fun b hb => by have := hob9 b hb; subst this; exact ⟨by omega, fun e => by have := hyl _ e; omega⟩)
    replace hS := hS.add (by omega) hq r0 (by rw [er0]; exact hA9) hcb hM.lt (by rw [er0]; exact ⟨hyw2.mo hq, hyw.2⟩) (by rw [er0]; exact hf) (by rw [er0]; exact fun e => by have := hyl _ e; omega) (by rw [er0]; exact ⟨hRw, by simp, fun S hS => by rw [List.eq_of_mem_replicate hS]; exact sm0_ok⟩) (by rw [er0]; exact fun b hb => by have := hob9 b hb; subst this; exact ⟨by omega, hbk⟩)
    obtain ⟨D1, eD1⟩ : ∃ X : Nat → Prop, X = Dn D kn r0 := ⟨_, rfl⟩
    rw [← eD1] at hS
    obtain ⟨R1, eR1⟩ : ∃ X, X = ud R kn r0 := ⟨_, rfl⟩
    rw [← eR1] at hS hAp1
    have hDb : ∀ j, ob r0.h = some j → j = b9 := by rw [er0]; exact hob9
    have hDv : ∀ j, ob r0.i.v = some j → ob (.slice yp yn yc) = some j := by rw [er0]; exact fun _ h => h
    have hD9 : ∀ j, D1 j → D j ∨ w.heap.size ≤ j ∨ ob (.slice yp yn yc) = some j := fun j e => by rw [eD1] at e; rcases e with e | e | e | e; exact Or.inl e; exact Or.inr (Or.inl (by omega)); exact Or.inr (Or.inr (hDv j e)); exact Or.inr (Or.inl (by have := hDb j e; omega))
    have hDD : ∀ j, j < w.heap.size → D1 j → D j ∨ j = mb.m ∨ ob (.slice yp yn yc) = some j := fun j hj e => by rcases hD9 j e with e | e | e; exact Or.inl e; omega; exact Or.inr (Or.inr e)
    have hnw : R1 kn = some ⟨none, none, none, 0, ⟨yi, .slice yp yn yc, yvs⟩, .slice (some ⟨b9, 0, none⟩) mb.sc.length mb.sc.length, List.replicate mb.sc.length sm0⟩ := by rw [eR1, ← er0]; exact ud_same _ _ _
    replace hC : RepC mb.sc R1 tr.p C1 none := by rw [eR1]; exact hC.ud (fun m => hlt kn m rfl)
    replace M : Mk (fun j => D j ∨ j = mb.m ∨ ob (.slice yp yn yc) = some j) w _ := (Mk.refl _ w).tr (M.trans hq) (fun j _ e => e.imp_right Or.inl)
    replace hM := hM.mo hq
    replace Q5 := Q5.mo hq
    have e10 := e9
    clear hq hR9 hsm hgr
    refine w_nil ?_
    refine xn_then ?_
    refine w_seq ?_
    have hsm : Smos [vq (pt t 0), vq (pt t 0), vq (pt t 2), vq (.map (some mb.m)), vq (pt k5 0), vq (.int .i64 yi), vq (pt kn 0)] := smos_cons (smo_vq _) (smos_cons (smo_vq _) (smos_cons (smo_vq _) (smos_cons (smo_vq _) (smos_cons (smo_vq _) (smos_cons (smo_vq _) (smos_cons (smo_vq _) (smos_nil)))))))
    have hgr : ∀ a b : World, Mo w11 a → Mo a b → Mo w11 b := fun _ _ h m => h.trans m
    refine w_ogc 7 (fun w9 => Mo w11 w9) [vq (pt t 0), vq (pt t 0), vq (pt t 2), vq (.map (some mb.m)), vq (pt k5 0), vq (.int .i64 yi), vq (pt kn 0)] [] (by kernel_rfl) (by kernel_rfl) (by kernel_rfl) (by kernel_rfl) rfl (by kernel_rfl) (by kernel_rfl) latec_nil ((Mo.refl _).drew) ?_ ?_
    · refine ea_cons ?_ (ea_cons ?_ (ea_cons ?_ (ea_cons ?_ (ea_cons ?_ (ea_cons ?_ (ea_cons ?_ (ea_nil)))))))
      · exact oc_eq (pt t 0) rfl hgr hsm (fun f wf hG9 hd K hK => go_run rfl (wo_mv (.tmp 0) (pt t 0) (fun _ => rfl) e0 (hK _ (Mo.refl _))))
      · exact oc_eq (pt t 0) rfl hgr hsm (fun f wf hG9 hd K hK => go_run rfl (wo_nc (.tmp 55) t 0 rfl (hd 0 rfl) (hK _ (Mo.refl _))))
      · exact oc_eq (pt t 2) rfl hgr hsm (fun f wf hG9 hd K hK => go_run rfl (wo_un (fun v => Instr.fieldAt 68 v 2) (.tmp 56) (pt t 0) (pt t 2) (fun _ => rfl) (hd 1 rfl) (by kernel_rfl) (hK _ (Mo.refl _))))
      · exact oc_eq (.map (some mb.m)) rfl hgr hsm (fun f wf hG9 hd K hK => have hS := hS.mo hG9; go_run rfl (wo_load 66 (.tmp 57) (pt t 2) (.map (some mb.m)) rfl (hd 2 rfl) (run_one hS.tr 66 2 rfl Try.underlying66 rfl) (hK _ (Mo.refl _))))
      · exact oc_eq (pt k5 0) rfl hgr hsm (fun f wf hG9 hd K hK => go_run rfl (wo_un (fun v => Instr.fieldAt 83 v 0) (.tmp 5) (pt k5 0) (pt k5 0) (fun _ => rfl) e5 (by kernel_rfl) (hK _ (Mo.refl _))))
      · exact oc_eq (.int .i64 yi) rfl hgr hsm (fun f wf hG9 hd K hK => have Q5 := Q5.mo hG9; go_run rfl (wo_load 2 (.tmp 59) (pt k5 0) (.int .i64 yi) rfl (hd 4 rfl) (run_one Q5 2 0 rfl Try.underlying2 rfl) (hK _ (Mo.refl _))))
      · exact oc_eq (pt kn 0) rfl hgr hsm (fun f wf hG9 hd K hK => go_run rfl (wo_mv (.tmp 10) (pt kn 0) (fun _ => rfl) e10 (hK _ (Mo.refl _))))
    intro f9 w12 hq hR9
    have em3 := hR9 3 rfl
    have em5 := hR9 5 rfl
    have em6 := hR9 6 rfl
    replace Q5 := Q5.mo hq
    replace hS := hS.mo hq
    replace hM := hM.mo hq
    replace M := M.trans hq
    clear hq hR9 hsm hgr
    refine wl_mup (.tmp 58) (.tmp 60) (.tmp 61) mb.m yi kn hM (by omega) hw rfl rfl em3 em5 em6 rfl ?_
    intro w13 hM9 hK
    replace hM := hM9
    rw [hfi] at hM
    replace hS := hS.kept hK (fun j e q => hS.nb (by rw [← q]; exact e)) (fun b hb q => hmh (by rw [← q]; exact hb))
    replace M := M.tr hK (fun _ _ e => Or.inr (Or.inl e))
    have hnb := hS.nb
    clear hM9 hK
    refine w_nil ?_
    refine xn_then ?_
    refine w_seq ?_
    refine w_reg ?_
    refine wl_mv (.tmp 0) (pt t 0) (fun _ => rfl) e0 rfl ?_
    refine wl_mv (.tmp 6) (pp ((top C1))) (fun _ => rfl) e6 rfl ?_
    refine wl_mv (.tmp 7) (.int .i64 (if sideC C1 then 1 else 0)) (fun _ => rfl) e7 rfl ?_
    refine wl_mv (.tmp 10) (pt kn 0) (fun _ => rfl) e10 rfl ?_
    refine wl_callg 47 [(.tmp 62), (.tmp 63), (.tmp 64), (.tmp 65)] _ [pt t 0, pp ((top C1)), .int .i64 (if sideC C1 then 1 else 0), pt kn 0] (.tuple #[]) rfl rfl (fun _ _ => by kernel_rfl) (hangF hS hAp1 hC hnw (nd_pos hn).1 (fun m => hlt kn m rfl)) rfl ?_
    intro w14 hF
    obtain ⟨hT, hM2⟩ := hF
    replace M := M.tr hM2 hDD
    replace hM := hM.mk hM2 hS.nb
    clear hM2
    refine w_nil ?_
    refine xn_then ?_
    refine w_reg ?_
    refine wl_mv (.tmp 0) (pt t 0) (fun _ => rfl) e0 rfl ?_
    refine wl_mv (.tmp 10) (pt kn 0) (fun _ => rfl) e10 rfl ?_
    refine wl_callg 48 [(.tmp 67), (.tmp 68)] _ [pt t 0, pt kn 0] (.tuple #[]) rfl rfl (fun _ _ => by kernel_rfl) (settle_n (C := ⟨kn, ⟨yi, .slice yp yn yc, yvs⟩, 0, false, .e⟩ :: C1) (tr := .e) hT trivial (fun g hg => by rcases List.mem_cons.1 hg with rfl | hg; exact trivial; exact oc g hg) (by simp only [T.sz, csz] at hcs ⊢; omega) (by simp only [List.length_cons]; omega)) rfl ?_
    intro w15 hF
    obtain ⟨lk2, hk1, hk2, hT2, hM2⟩ := hF
    simp only [List.length_cons] at hk1 hk2
    rw [bal_new] at hT2
    replace hM := hM.mk hM2 hnb
    replace M := M.tr hM2 hDD
    clear hM2
    refine w_nil ?_
    exact w_end0 rfl ⟨rfl, C1, kn, lk2, D1, hp, by simp only [T.sz] at h1; omega, oc, hkn, by omega, by omega, by simp only [T.ht] at hht; omega, hT2, hM, M, hD9⟩
end
end G
end Go.Proofs.Ythfemlhmnjfjiaa
/-
  A record less; a row given to another record.
-/
namespace Go.Proofs.Ythfemlhmnjfjiaa
open Go.RowKit
namespace G
/-- A record less. -/
def rm (M : Mp) (k : Nat) : Mp := fun j => if j = k then none else M j
theorem rm_or {M : Mp} {k j : Nat} {q : Rc} (h : rm M k j = some q) : j ≠ k ∧ M j = some q := by
  unfold rm at h
  split at h
  · cases h
  · rename_i e; exact ⟨e, h⟩
theorem rm_ne {M : Mp} {k j : Nat} (h : j ≠ k) : rm M k j = M j := if_neg h
theorem rm_none {M : Mp} {k j : Nat} (h : M j = none) : rm M k j = none := by unfold rm; split; rfl; exact h
section
variable {D : Nat → Prop} {w w' : World} {t : Nat} {mb : Hd} {M : Mp} {root : Option Nat} {lk : Int}
/-- The tree's blocks may be fewer. -/
theorem HS.less (h : HS D w t mb M root lk) (k : Nat) {E : Nat → Prop} (hE : ∀ j, E j → D j) (ht : E t) (hk : ∀ {j q}, M j = some q → j ≠ k → E j) (hs : ∀ {j q b}, M j = some q → j ≠ k → ob q.i.v = some b ∨ ob q.h = some b → E b) : HS E w t mb (rm M k) root lk :=
  ⟨h.tr, h.sc, fun b hb e => h.sd b hb (hE b e), fun j q hj => h.rc j q (rm_or hj).2, fun j q hj => h.cb j q (rm_or hj).2, fun j q hj => h.sv j q (rm_or hj).2, fun j q hj => h.ss j q (rm_or hj).2, rm_none h.mt, ht, fun hj => hk (rm_or hj).2 (rm_or hj).1,
    fun hj hb => ⟨hs (rm_or hj).2 (rm_or hj).1 hb, (h.ds (rm_or hj).2 hb).2.1, rm_none (h.ds (rm_or hj).2 hb).2.2⟩, fun e => h.lt (hE _ e), fun e => h.nb (hE _ e), h.nc⟩
theorem Ap.rm (h : Ap M) (k : Nat) : Ap (rm M k) := ⟨fun a b => h.hv (rm_or a).2 (rm_or b).2, fun a b => h.hh (rm_or a).2 (rm_or b).2, fun a b => h.vv (rm_or a).2 (rm_or b).2⟩
/-- A record's row becomes that of another record. -/
theorem HS.row (h : HS D w t mb M root lk) {k kn : Nat} {r q : Rc} (e : M k = some r) (e2 : M kn = some q) (s : St2 k w w') (hA : At w' k (⟨r.u, r.l, r.r, r.s, q.i, r.h, r.c⟩ : Rc).cells) : HS D w' t mb (ud M k ⟨r.u, r.l, r.r, r.s, q.i, r.h, r.c⟩) root lk := by
  have hK := Mk.st1 s
  have hno : ∀ {j q b}, M j = some q → ob q.i.v = some b ∨ ob q.h = some b → ¬ (b = k) := fun hj hb e2 => by
    have := (h.ds hj hb).2.2
    rw [e2, e] at this; cases this
  have hMb : ∀ {b}, M b = none → ud M k ⟨r.u, r.l, r.r, r.s, q.i, r.h, r.c⟩ b = none := fun {b} hb => by
    rw [ud_ne _ _ (fun q => by rw [q, e] at hb; cases hb)]; exact hb
  refine ⟨s.other t _ (Ne.symm (h.ne e)) h.tr, h.sc.kept hK (fun b hb q => h.sd b hb (by rw [q]; exact h.dk e)), h.sd, fun j x hj => ?_, fun j x hj => ?_, fun j x hj => ?_, fun j x hj => ?_, hMb h.mt, h.dt, fun {j x} hj => ?_, fun {j x b} hj hb => ?_, fun e => by rw [s.size]; exact h.lt e, h.nb, h.nc⟩
  · rcases ud_or hj with ⟨rfl, rfl⟩ | ⟨hne, hj⟩
    · exact hA
    · exact s.other j _ hne (h.rc j x hj)
  · rcases ud_or hj with ⟨rfl, rfl⟩ | ⟨hne, hj⟩
    · exact s.cb _ (h.cb _ r e)
    · exact s.cb _ (h.cb j x hj)
  · rcases ud_or hj with ⟨rfl, rfl⟩ | ⟨hne, hj⟩
    · exact ⟨(h.sv _ q e2).1.kept hK (fun b hb => hno e2 (Or.inl hb)), (h.sv _ q e2).2⟩
    · exact ⟨(h.sv j x hj).1.kept hK (fun b hb => hno hj (Or.inl hb)), (h.sv j x hj).2⟩
  · rcases ud_or hj with ⟨rfl, rfl⟩ | ⟨hne, hj⟩
    · exact ⟨(h.ss _ r e).1.kept hK (fun b hb => hno e (Or.inr hb)), (h.ss _ r e).2⟩
    · exact ⟨(h.ss j x hj).1.kept hK (fun b hb => hno hj (Or.inr hb)), (h.ss j x hj).2⟩
  · rcases ud_or hj with ⟨rfl, rfl⟩ | ⟨hne, hj⟩
    · exact h.dk e
    · exact h.dk hj
  · rcases ud_or hj with ⟨rfl, rfl⟩ | ⟨hne, hj⟩
    · rcases hb with hb | hb
      · obtain ⟨a1, a2, a3⟩ := h.ds e2 (Or.inl hb); exact ⟨a1, a2, hMb a3⟩
      · obtain ⟨a1, a2, a3⟩ := h.ds e (Or.inr hb); exact ⟨a1, a2, hMb a3⟩
    · obtain ⟨a1, a2, a3⟩ := h.ds hj hb; exact ⟨a1, a2, hMb a3⟩
/-- Without a record and what it owns. -/
def Dm (D : Nat → Prop) (k : Nat) (r : Rc) (j : Nat) : Prop := D j ∧ j ≠ k ∧ ob r.i.v ≠ some j ∧ ob r.h ≠ some j
theorem HS.drop (h : HS D w t mb M root lk) (A : Ap M) {k : Nat} {r : Rc} (e : M k = some r) : HS (Dm D k r) w t mb (rm M k) root lk :=
  h.less k (fun j hj => hj.1) ⟨h.dt, Ne.symm (h.ne e), fun q => (h.ds e (Or.inl q)).2.1 rfl, fun q => (h.ds e (Or.inr q)).2.1 rfl⟩
    (fun {j q} hj hn => ⟨h.dk hj, hn, fun x => (by rw [(h.ds e (Or.inl x)).2.2] at hj; cases hj), fun x => (by rw [(h.ds e (Or.inr x)).2.2] at hj; cases hj)⟩)
    (fun {j q b} hj hn hb => ⟨(h.ds hj hb).1, fun x => (by have := (h.ds hj hb).2.2; rw [x, e] at this; cases this),
      fun x => (by rcases hb with hb | hb; exact A.vv e hj (Ne.symm hn) x hb; exact A.hv hj e hb x),
      fun x => (by rcases hb with hb | hb; exact A.hv e hj x hb; exact A.hh e hj (Ne.symm hn) x hb)⟩)
/-- A record that is not in the tree goes. -/
theorem RS.drop {C : Cx} {tr : T} (h : RS D w t mb C tr lk M root) {k : Nat} {r : Rc} (e : M k = some r) (hC : k ∉ adC C) (hT : k ∉ tr.ad) : RS (Dm D k r) w t mb C tr lk (rm M k) root :=
  ⟨h.hs.drop h.ap e, h.ap.rm k, RepC.same (fun _ m => rm_ne (fun q => hC (q ▸ m))) h.rc, Rep.same (fun _ m => rm_ne (fun q => hT (q ▸ m))) h.rp, h.nd⟩
end
end G
end Go.Proofs.Ythfemlhmnjfjiaa
/-
  The tree's take, where one side at most is there.
-/
namespace Go.Proofs.Ythfemlhmnjfjiaa
open Go.RowKit
namespace G
section
variable {D : Nat → Prop} {w : World} {t : Nat} {mb : Hd} {R : Mp} {root : Option Nat} {lk : Int}
theorem nePb {x : Option Nat} {r : Bool} (h : x.isSome = r) (a b : Operand) (w : World) : (do eqGuard .neq 65 a b (pp x) (.pointer none); binOp .neq 65 (pp x) (.pointer none)).run Try.prog w = .ok (.bool r) w := h ▸ neP x a b w
theorem Fre.of (h : HS D w t mb R root lk) {v : Value} (hD : ∀ b, ob v = some b → ¬ D b ∧ b ≠ mb.m ∧ ob mb.h ≠ some b) : Fre R t mb v := fun b hb => by
  obtain ⟨h1, h2, h3⟩ := hD b hb
  refine ⟨fun e => h1 (e ▸ h.dt), ?_, h2, h3, fun j q hj => ⟨fun e => h1 (h.ds hj (Or.inl e)).1, fun e => h1 (h.ds hj (Or.inr e)).1⟩⟩
  cases e : R b with
  | none => rfl
  | some q => exact absurd (h.dk e) h1
end
end G
end Go.Proofs.Ythfemlhmnjfjiaa
/-
  Ids with their records' blocks; what the map says of a tree.
-/
namespace Go.Proofs.Ythfemlhmnjfjiaa
open Go.RowKit
namespace G
/-- The ids with their records' blocks, in their order. -/
def T.kv : T → List (Int × Nat)
  | .e => []
  | .n k i _ l r => l.kv ++ (i.i, k) :: r.kv
theorem T.kv_ids : ∀ tr : T, tr.kv.map (·.1) = tr.ids.map (·.i)
  | .e => rfl
  | .n _ _ _ l r => by unfold T.kv T.ids; simp [T.kv_ids l, T.kv_ids r]
theorem lightL_kv (k : Nat) (i : Py) (l r : T) : (lightL k i l r).kv = l.kv ++ (i.i, k) :: r.kv := by
  unfold lightL
  cases l with
  | e => rfl
  | n kk ii ss a b =>
    cases hd : decide (2 * (a.sz + 1) ≤ b.sz + 1) <;> cases b <;> simp [hd, T.kv]
theorem lightR_kv (k : Nat) (i : Py) (l r : T) : (lightR k i l r).kv = l.kv ++ (i.i, k) :: r.kv := by
  unfold lightR
  cases r with
  | e => rfl
  | n kk ii ss b a =>
    cases hd : decide (2 * (a.sz + 1) ≤ b.sz + 1) <;> cases b <;> simp [hd, T.kv]
theorem bal_kv (k : Nat) (i : Py) (l r : T) : (bal k i l r).kv = l.kv ++ (i.i, k) :: r.kv := by
  unfold bal
  split
  · exact lightL_kv k i l r
  · split
    · exact lightR_kv k i l r
    · rfl
def preC : Cx → List (Int × Nat)
  | [] => []
  | f :: C => preC C ++ (if f.d then f.o.kv ++ [(f.i.i, f.k)] else [])
def posC : Cx → List (Int × Nat)
  | [] => []
  | f :: C => (if f.d then [] else (f.i.i, f.k) :: f.o.kv) ++ posC C
theorem plug_kv : ∀ (C : Cx) (tr : T), (plug C tr).kv = preC C ++ tr.kv ++ posC C
  | [], tr => by show tr.kv = [] ++ tr.kv ++ []; simp
  | f :: C, tr => by
    show (plug C (f.jn tr)).kv = _
    rw [plug_kv C]
    unfold Fr.jn
    show _ = (preC C ++ (if f.d then f.o.kv ++ [(f.i.i, f.k)] else [])) ++ tr.kv ++ ((if f.d then [] else (f.i.i, f.k) :: f.o.kv) ++ posC C)
    cases f.d <;> simp [T.kv]
theorem rebuild_kv : ∀ (C : Cx) (tr : T), (rebuild C tr).kv = preC C ++ tr.kv ++ posC C
  | [], tr => by show tr.kv = [] ++ tr.kv ++ []; simp
  | f :: C, tr => by
    show (rebuild C (balF f tr)).kv = _
    rw [rebuild_kv C]
    unfold balF
    show _ = (preC C ++ (if f.d then f.o.kv ++ [(f.i.i, f.k)] else [])) ++ tr.kv ++ ((if f.d then [] else (f.i.i, f.k) :: f.o.kv) ++ posC C)
    cases f.d <;> simp [bal_kv]
theorem T.kv_len (tr : T) : (tr.kv.length : Int) = tr.sz := by
  have h := congrArg List.length (T.kv_ids tr)
  rw [T.sz_ids]
  simp only [List.length_map] at h
  rw [h]
theorem pre_len : ∀ C : Cx, ((preC C).length : Int) = ix C
  | [] => rfl
  | f :: C => by
    have := pre_len C
    have h2 := T.kv_len f.o
    show ((preC C ++ (if f.d then f.o.kv ++ [(f.i.i, f.k)] else [])).length : Int) = (if f.d then f.o.sz + 1 else 0) + ix C
    cases f.d <;> simp <;> omega
/-- Where an id lies. -/
def adr (l : List (Int × Nat)) (id : Int) : Option Nat := l.lookup id
theorem adr_mid {A B : List (Int × Nat)} {id : Int} {k : Nat} (h : id ∉ A.map (·.1)) : adr (A ++ (id, k) :: B) id = some k := by
  unfold adr
  induction A with
  | nil => simp
  | cons x A ih =>
    simp only [List.map_cons, List.mem_cons, not_or] at h
    have : (id == x.1) = false := beq_eq_false_iff_ne.2 h.1
    show List.lookup id (x :: (A ++ (id, k) :: B)) = some k
    rw [List.lookup_cons, this]
    exact ih h.2
theorem adr_off {A B : List (Int × Nat)} {id j : Int} {k : Nat} (h : j ≠ id) : adr (A ++ (id, k) :: B) j = adr (A ++ B) j := by
  unfold adr
  induction A with
  | nil =>
    have : (j == id) = false := beq_eq_false_iff_ne.2 h
    show List.lookup j ((id, k) :: B) = List.lookup j B
    rw [List.lookup_cons, this]
  | cons x A ih =>
    show List.lookup j (x :: (A ++ (id, k) :: B)) = List.lookup j (x :: (A ++ B))
    rw [List.lookup_cons, List.lookup_cons, ih]
theorem adr_none {l : List (Int × Nat)} {id : Int} (h : id ∉ l.map (·.1)) : adr l id = none := by
  unfold adr
  induction l with
  | nil => rfl
  | cons x l ih =>
    simp only [List.map_cons, List.mem_cons, not_or] at h
    have : (id == x.1) = false := beq_eq_false_iff_ne.2 h.1
    rw [List.lookup_cons, this]
    exact ih h.2
theorem adr_some {l : List (Int × Nat)} {id : Int} {k : Nat} (h : adr l id = some k) : (id, k) ∈ l := by
  unfold adr at h
  induction l with
  | nil => cases h
  | cons x l ih =>
    rw [List.lookup_cons] at h
    by_cases e : id = x.1
    · subst e
      simp at h
      subst h
      simp
    · rw [beq_eq_false_iff_ne.2 e] at h
      exact List.mem_cons_of_mem _ (ih h)
theorem adr_is {l : List (Int × Nat)} {id : Int} : (adr l id).isSome = true ↔ id ∈ l.map (·.1) := by
  constructor
  · intro h
    obtain ⟨k, hk⟩ := Option.isSome_iff_exists.1 h
    exact List.mem_map.2 ⟨_, adr_some hk, rfl⟩
  · intro h
    cases hq : adr l id with
    | some k => rfl
    | none =>
      exfalso
      unfold adr at hq
      induction l with
      | nil => cases h
      | cons x l ih =>
        rw [List.lookup_cons] at hq
        by_cases e : id = x.1
        · rw [beq_iff_eq.2 e] at hq; cases hq
        · rw [beq_eq_false_iff_ne.2 e] at hq
          simp only [List.map_cons, List.mem_cons] at h
          exact ih (h.resolve_left e) hq
theorem fu_ins {A B : List (Int × Nat)} {id : Int} {k : Nat} (h : id ∉ A.map (·.1)) : fu (adr (A ++ B)) id (some k) = adr (A ++ (id, k) :: B) := by
  funext j
  by_cases e : j = id
  · subst e; rw [fu_same, adr_mid h]
  · rw [fu_ne _ _ e, adr_off e]
theorem plug_app : ∀ (A B : Cx) (tr : T), plug (A ++ B) tr = plug B (plug A tr)
  | [], _, _ => rfl
  | f :: A, B, tr => plug_app A B (f.jn tr)
/-- A node that lies in a tree, and what is above it. -/
theorem kv_focus : ∀ (tr : T) {id : Int} {k : Nat}, (id, k) ∈ tr.kv → ∃ C y s l r, plug C (.n k y s l r) = tr ∧ y.i = id
  | .e, _, _, h => by cases h
  | .n q i s l r, id, k, h => by
    unfold T.kv at h
    rcases List.mem_append.1 h with h | h
    · obtain ⟨C, y, s', l', r', e, e2⟩ := kv_focus l h
      refine ⟨C ++ [⟨q, i, s, false, r⟩], y, s', l', r', ?_, e2⟩
      rw [plug_app, e]
      rfl
    · rcases List.mem_cons.1 h with h | h
      · cases h; exact ⟨[], i, s, l, r, rfl, rfl⟩
      · obtain ⟨C, y, s', l', r', e, e2⟩ := kv_focus r h
        refine ⟨C ++ [⟨q, i, s, true, l⟩], y, s', l', r', ?_, e2⟩
        rw [plug_app, e]
        rfl
theorem plug_okC : ∀ (C : Cx) {tr : T}, (plug C tr).ok → okC C ∧ tr.ok
  | [], _, h => ⟨fun _ m => (by cases m), h⟩
  | f :: C, tr, h => by
    obtain ⟨h1, h2⟩ := plug_okC C (tr := f.jn tr) h
    unfold Fr.jn at h2
    cases hd : f.d with
    | true =>
      rw [hd] at h2
      exact ⟨fun g m => by rcases List.mem_cons.1 m with rfl | m; exact h2.2.1; exact h1 g m, h2.2.2⟩
    | false =>
      rw [hd] at h2
      exact ⟨fun g m => by rcases List.mem_cons.1 m with rfl | m; exact h2.2.2; exact h1 g m, h2.2.1⟩
theorem plug_sz : ∀ (C : Cx) (tr : T), (plug C tr).sz = csz C + tr.sz
  | [], tr => by show tr.sz = 0 + tr.sz; omega
  | f :: C, tr => by
    show (plug C (f.jn tr)).sz = 1 + f.o.sz + csz C + tr.sz
    rw [plug_sz C]
    unfold Fr.jn
    cases f.d <;> simp [T.sz] <;> omega
theorem plug_ht : ∀ (C : Cx) (tr : T), C.length + tr.ht ≤ (plug C tr).ht
  | [], tr => by show 0 + tr.ht ≤ tr.ht; omega
  | f :: C, tr => by
    have := plug_ht C (f.jn tr)
    show (f :: C).length + tr.ht ≤ (plug C (f.jn tr)).ht
    have h2 : 1 + tr.ht ≤ (f.jn tr).ht := by
      unfold Fr.jn
      cases f.d
      · show 1 + tr.ht ≤ 1 + max tr.ht f.o.ht; omega
      · show 1 + tr.ht ≤ 1 + max f.o.ht tr.ht; omega
    simp only [List.length_cons]
    omega
theorem T.ht_le : ∀ tr : T, (tr.ht : Int) ≤ tr.sz
  | .e => Int.le_refl 0
  | .n _ _ _ l r => by
    have := T.ht_le l; have := T.ht_le r
    have := T.sz_nn l; have := T.sz_nn r
    unfold T.ht T.sz
    omega
end G
end Go.Proofs.Ythfemlhmnjfjiaa
/-
  The tree with its map; a row put in, a row taken out.
-/
namespace Go.Proofs.Ythfemlhmnjfjiaa
open Go.RowKit
namespace G
/-- The tree with its map: all that is kept. -/
structure FT (D : Nat → Prop) (w : World) (t : Nat) (mb : Hd) (tr : T) (lk : Int) : Prop where
  ts : TS D w t mb [] tr lk
  om : OM w mb.m (adr tr.kv) tr.kv.length
  ok : tr.ok
  nd : (tr.ids.map (·.i)).Nodup
  rg : ∀ i ∈ tr.ids.map (·.i), 1 ≤ i ∧ i ≤ 9007199254740992
  le : tr.sz ≤ 1024
  l0 : 0 ≤ lk
  hm : ob mb.h ≠ some mb.m
theorem FT.mo {D : Nat → Prop} {w w' : World} {t : Nat} {mb : Hd} {tr : T} {lk : Int} (h : FT D w t mb tr lk) (m : Mo w w') : FT D w' t mb tr lk := ⟨h.ts.mo m, h.om.mo m, h.ok, h.nd, h.rg, h.le, h.l0, h.hm⟩
/-- A row is put in at a place. -/
def Ins (tr : T) (at0 : Int) (y : Py) (kn : Nat) (tr' : T) : Prop := ∃ C, plug C .e = tr ∧ ix C = at0 ∧ tr' = rebuild C (.n kn y 1 .e .e)
theorem kv_nd {l : List (Int × Nat)} {A B : List (Int × Nat)} {id : Int} {k : Nat} (h : l = A ++ (id, k) :: B) (hn : (l.map (·.1)).Nodup) : id ∉ A.map (·.1) ∧ id ∉ (A ++ B).map (·.1) ∧ ((A ++ B).map (·.1)).Nodup := by
  subst h
  simp only [List.map_append, List.map_cons] at hn ⊢
  have h2 := List.perm_middle.nodup_iff.1 hn
  have h3 := List.nodup_cons.1 h2
  exact ⟨fun m => h3.1 (by simp [m]), by simpa using h3.1, h3.2⟩
theorem nd_ins {A B : List Int} {id : Int} (h : (A ++ B).Nodup) (hi : id ∉ A ++ B) : (A ++ id :: B).Nodup := List.perm_middle.nodup_iff.2 (List.nodup_cons.2 ⟨hi, h⟩)
section
variable {D : Nat → Prop} {w : World} {t : Nat} {mb : Hd} {lk : Int}
theorem put_f {tr : T} {at0 yi : Int} {yp : Option Addr} {yn yc : Nat} {yvs : List V10} (h : FT D w t mb tr lk) (hid : yi ∉ tr.ids.map (·.i)) (hr1 : 1 ≤ yi) (hr2 : yi ≤ 9007199254740992) (hsz : tr.sz < 1024) (h0 : 0 ≤ at0) (h1 : at0 ≤ tr.sz) (hlk : lk ≤ 3000000000000000000)
    (hyw : Rw w 10 (.slice yp yn yc) (yvs.map V10.cells) ∧ yvs.length = mb.sc.length ∧ ∀ x ∈ yvs, x.n.ok) (hyD : ∀ b, ob (.slice yp yn yc) = some b → ¬ D b ∧ b ≠ mb.m ∧ ob mb.h ≠ some b) :
    Calls Try.prog 31 #[pt t 0, .int .i64 at0, .agg #[.int .i64 yi, .slice yp yn yc]] w fun e w' => e = .returned (.tuple #[]) ∧ ∃ kn tr' lk' D', Ins tr at0 ⟨yi, .slice yp yn yc, yvs⟩ kn tr' ∧ FT D' w' t mb tr' lk' ∧ w.heap.size ≤ kn ∧ lk < lk' ∧ lk' ≤ lk + 10 * tr.ht + 8 ∧ Mk (fun j => D j ∨ j = mb.m ∨ ob (.slice yp yn yc) = some j) w w' ∧ ∀ j, D' j → D j ∨ w.heap.size ≤ j ∨ ob (.slice yp yn yc) = some j := by
  have hh := tr.ht_le
  have hl := tr.kv_len
  have hl0 := h.l0
  have hno : adr tr.kv yi = none := adr_none (by rw [T.kv_ids]; exact hid)
  obtain ⟨R, root, hRS⟩ := h.ts
  refine (put_n hRS h.om (by rw [hno]; rfl) (by omega) (WalkArith.wf_i64 ⟨by omega, by omega⟩) h.ok h0 h1 (by omega) ⟨hl0, by omega⟩ (by omega) hyw (Fre.of hRS.hs hyD) (fun b hb => (hyD b hb).1) h.hm).mono fun e w' hq => ?_
  obtain ⟨he, C, kn, lk', D', hp, hix, hoc, hkn, hk1, hk2, hk3, hT, hM, hK, hD⟩ := hq
  refine ⟨he, kn, rebuild C (.n kn ⟨yi, .slice yp yn yc, yvs⟩ 1 .e .e), lk', D', ⟨C, hp, hix, rfl⟩, ?_, hkn, by omega, by omega, hK, hD⟩
  have e1 : tr.kv = preC C ++ posC C := by rw [← hp, plug_kv]; simp [T.kv]
  have e2 : (rebuild C (.n kn ⟨yi, .slice yp yn yc, yvs⟩ 1 .e .e)).kv = preC C ++ (yi, kn) :: posC C := by rw [rebuild_kv]; simp [T.kv]
  have ei : tr.ids.map (·.i) = (preC C).map (·.1) ++ (posC C).map (·.1) := by rw [← T.kv_ids, e1, List.map_append]
  have ei2 : (rebuild C (.n kn ⟨yi, .slice yp yn yc, yvs⟩ 1 .e .e)).ids.map (·.i) = (preC C).map (·.1) ++ yi :: (posC C).map (·.1) := by rw [← T.kv_ids, e2, List.map_append]; rfl
  refine ⟨hT, ?_, rebuild_ok C _ hoc ⟨by simp [T.sz], trivial, trivial⟩, ?_, ?_, ?_, by omega, h.hm⟩
  · rw [e2, ← fu_ins (by intro m; exact hid (by rw [ei]; simp only [List.mem_append]; exact Or.inl m)), ← e1]
    have : (preC C ++ (yi, kn) :: posC C).length = tr.kv.length + 1 := by rw [e1]; simp; omega
    rw [this]
    exact hM
  · rw [ei2]; rw [ei] at hid; exact nd_ins (by rw [← ei]; exact h.nd) hid
  · intro j hj
    rw [ei2] at hj
    have hg := h.rg j
    rw [ei] at hg
    simp only [List.mem_append, List.mem_cons] at hj hg
    rcases hj with hj | rfl | hj
    · exact hg (Or.inl hj)
    · exact ⟨hr1, hr2⟩
    · exact hg (Or.inr hj)
  · have h3 := (rebuild C (.n kn ⟨yi, .slice yp yn yc, yvs⟩ 1 .e .e)).kv_len
    rw [e2] at h3
    rw [e1] at hl
    simp at h3 hl
    omega
end
section
variable {D : Nat → Prop} {w : World} {t : Nat} {mb : Hd} {lk : Int}
/-- All but the shape, once the ids are known. -/
theorem FT.of {D' : Nat → Prop} {w' : World} {tr tr' : T} {lk' : Int} {A B : List (Int × Nat)} {i : Int} {k : Nat} (h : FT D w t mb tr lk) (e : tr.kv = A ++ (i, k) :: B) (e' : tr'.kv.map (·.1) = (A ++ B).map (·.1)) (hT : TS D' w' t mb [] tr' lk') (hM : OM w' mb.m (adr tr'.kv) (tr.kv.length - 1)) (ho : tr'.ok) (hl : lk ≤ lk') : FT D' w' t mb tr' lk' := by
  have hn := kv_nd e (by rw [T.kv_ids]; exact h.nd)
  have hlen : tr'.kv.length = tr.kv.length - 1 := by
    have := congrArg List.length e'
    rw [e]
    simp at this ⊢
    omega
  have h0 := h.l0
  refine ⟨hT, by rw [hlen]; exact hM, ho, by rw [← T.kv_ids, e']; exact hn.2.2, fun j hj => h.rg j ?_, ?_, by omega, h.hm⟩
  · rw [← T.kv_ids, e'] at hj
    rw [← T.kv_ids, e]
    simp only [List.map_append, List.map_cons, List.mem_append, List.mem_cons] at hj ⊢
    rcases hj with hj | hj
    · exact Or.inl hj
    · exact Or.inr (Or.inr hj)
  · have h1 := tr.kv_len
    have h2 := tr'.kv_len
    have h3 := h.le
    rw [hlen] at h2
    omega
end
end G
end Go.Proofs.Ythfemlhmnjfjiaa
/-
  What is put in and taken out, as lists; weights: what is mended is balanced; how deep a balanced tree is.
-/
namespace Go.Proofs.Ythfemlhmnjfjiaa
open Go.RowKit
namespace G
def preR : Cx → List Py
  | [] => []
  | f :: C => preR C ++ (if f.d then f.o.ids ++ [f.i] else [])
def posR : Cx → List Py
  | [] => []
  | f :: C => (if f.d then [] else f.i :: f.o.ids) ++ posR C
theorem plug_rows : ∀ (C : Cx) (tr : T), (plug C tr).ids = preR C ++ tr.ids ++ posR C
  | [], tr => by show tr.ids = [] ++ tr.ids ++ []; simp
  | f :: C, tr => by
    show (plug C (f.jn tr)).ids = _
    rw [plug_rows C]
    unfold Fr.jn
    show _ = (preR C ++ (if f.d then f.o.ids ++ [f.i] else [])) ++ tr.ids ++ ((if f.d then [] else f.i :: f.o.ids) ++ posR C)
    cases f.d <;> simp [T.ids]
theorem preR_len : ∀ C : Cx, ((preR C).length : Int) = ix C
  | [] => rfl
  | f :: C => by
    have := preR_len C
    have h2 := T.sz_ids f.o
    show ((preR C ++ (if f.d then f.o.ids ++ [f.i] else [])).length : Int) = (if f.d then f.o.sz + 1 else 0) + ix C
    cases f.d <;> simp <;> omega
theorem Ins.ids {tr tr' : T} {at0 : Int} {y : Py} {kn : Nat} (h : Ins tr at0 y kn tr') : ∃ A B, tr.ids = A ++ B ∧ (A.length : Int) = at0 ∧ tr'.ids = A ++ y :: B := by
  obtain ⟨C, hp, hix, rfl⟩ := h
  refine ⟨preR C, posR C, ?_, ?_, ?_⟩
  · rw [← hp, plug_rows]; simp [T.ids]
  · rw [preR_len, hix]
  · rw [rebuild_ids, plug_rows]; simp [T.ids]
/-- No side weighs more than three times the other. -/
def T.bw : T → Prop
  | .e => True
  | .n _ _ _ l r => l.sz + 1 ≤ 3 * (r.sz + 1) ∧ r.sz + 1 ≤ 3 * (l.sz + 1) ∧ l.bw ∧ r.bw
theorem bal_bw {k : Nat} {i : Py} {l r : T} (hl : l.bw) (hr : r.bw) (h1 : l.sz + 1 ≤ 3 * (r.sz + 1) + 3) (h2 : r.sz + 1 ≤ 3 * (l.sz + 1) + 3) : (bal k i l r).bw := by
  unfold bal
  have hl0 := T.sz_nn l
  have hr0 := T.sz_nn r
  split
  · rename_i hh
    unfold lightL
    cases l with
    | e => simp only [T.sz] at hh; omega
    | n kk ii ss a b =>
      have ha0 := T.sz_nn a
      have hb0 := T.sz_nn b
      obtain ⟨q1, q2, q3, q4⟩ := hl
      cases hd : decide (2 * (a.sz + 1) ≤ b.sz + 1) with
      | false =>
        have hd' := of_decide_eq_false hd
        simp only [hd]
        simp only [T.bw, T.sz] at *
        refine ⟨by omega, by omega, q3, by omega, by omega, q4, hr⟩
      | true =>
        have hd' := of_decide_eq_true hd
        cases b with
        | e => simp only [T.sz] at hd'; omega
        | n j jj js c z =>
          have hc0 := T.sz_nn c
          have hz0 := T.sz_nn z
          obtain ⟨p1, p2, p3, p4⟩ := q4
          simp only [hd]
          simp only [T.bw, T.sz] at *
          refine ⟨by omega, by omega, ⟨by omega, by omega, q3, p3⟩, by omega, by omega, p4, hr⟩
  · rename_i hh
    split
    · rename_i hh2
      unfold lightR
      cases r with
      | e => simp only [T.sz] at hh2; omega
      | n kk ii ss b a =>
        have ha0 := T.sz_nn a
        have hb0 := T.sz_nn b
        obtain ⟨q1, q2, q4, q3⟩ := hr
        cases hd : decide (2 * (a.sz + 1) ≤ b.sz + 1) with
        | false =>
          have hd' := of_decide_eq_false hd
          simp only [hd]
          simp only [T.bw, T.sz] at *
          refine ⟨by omega, by omega, ⟨by omega, by omega, hl, q4⟩, q3⟩
        | true =>
          have hd' := of_decide_eq_true hd
          cases b with
          | e => simp only [T.sz] at hd'; omega
          | n j jj js c z =>
            have hc0 := T.sz_nn c
            have hz0 := T.sz_nn z
            obtain ⟨p1, p2, p3, p4⟩ := q4
            simp only [hd]
            simp only [T.bw, T.sz] at *
            refine ⟨by omega, by omega, ⟨by omega, by omega, hl, p3⟩, by omega, by omega, p4, q3⟩
    · exact ⟨by omega, by omega, hl, hr⟩
theorem jn_bw {f : Fr} {t : T} (h : (f.jn t).bw) : f.o.bw ∧ t.bw ∧ f.o.sz + 1 ≤ 3 * (t.sz + 1) ∧ t.sz + 1 ≤ 3 * (f.o.sz + 1) := by
  unfold Fr.jn at h
  cases hd : f.d with
  | true => rw [hd] at h; exact ⟨h.2.2.1, h.2.2.2, h.1, h.2.1⟩
  | false => rw [hd] at h; exact ⟨h.2.2.2, h.2.2.1, h.2.1, h.1⟩
theorem jn_sz (f : Fr) (t : T) : (f.jn t).sz = 1 + f.o.sz + t.sz := by
  unfold Fr.jn
  cases f.d <;> simp [T.sz] <;> omega
theorem plug_bw : ∀ {C : Cx} {t : T}, (plug C t).bw → t.bw
  | [], _, h => h
  | _ :: C, _, h => (jn_bw (plug_bw (C := C) h)).2.1
theorem rebuild_bw : ∀ (C : Cx) {t0 t1 : T}, (plug C t0).bw → t1.bw → t1.sz ≤ t0.sz + 1 → t0.sz ≤ t1.sz + 1 → (rebuild C t1).bw
  | [], _, _, _, h, _, _ => h
  | f :: C, t0, t1, h0, h, a, b => by
    obtain ⟨q1, _, q3, q4⟩ := jn_bw (plug_bw (C := C) h0)
    have hb : (balF f t1).bw := by
      unfold balF
      split
      · exact bal_bw q1 h (by omega) (by omega)
      · exact bal_bw h q1 (by omega) (by omega)
    exact rebuild_bw C (t0 := f.jn t0) h0 hb (by rw [balF_sz, jn_sz]; omega) (by rw [balF_sz, jn_sz]; omega)
theorem Ins.bw {tr tr' : T} {at0 : Int} {id : Py} {kn : Nat} (h : Ins tr at0 id kn tr') (hb : tr.bw) : tr'.bw := by
  obtain ⟨C, rfl, _, rfl⟩ := h
  exact rebuild_bw C hb ⟨by simp [T.sz], by simp [T.sz], trivial, trivial⟩ (by simp [T.sz]) (by simp [T.sz])
end G
end Go.Proofs.Ythfemlhmnjfjiaa
/-
  The tree's calls: made, Len, Looked, Depth, At, Index, Delete.
-/
namespace Go.Proofs.Ythfemlhmnjfjiaa
open Go.RowKit
namespace G
section
variable {D : Nat → Prop} {w : World} {t : Nat} {mb : Hd} {R : Mp} {root : Option Nat} {lk : Int}
theorem neT (k : Nat) (a b : Operand) (w : World) : (do eqGuard .neq 24 a b (pt k 0) (.pointer none); binOp .neq 24 (pt k 0) (.pointer none)).run Try.prog w = .ok (.bool true) w := by kernel_rfl
theorem neM (k : Nat) (a b : Operand) (w : World) : (do eqGuard .neq 66 a b (.map (some k)) (.map none); binOp .neq 66 (.map (some k)) (.map none)).run Try.prog w = .ok (.bool true) w := by kernel_rfl
theorem ltL {a b : Int} {r : Bool} (h : decide (a < b) = r) (x y : Operand) (w : World) : (do eqGuard .lss 2 x y (.int .i64 a) (.int .i64 b); binOp .lss 2 (.int .i64 a) (.int .i64 b)).run Try.prog w = .ok (.bool r) w := by
  subst h; kernel_rfl
theorem gtL {a b : Int} {r : Bool} (h : decide (b < a) = r) (x y : Operand) (w : World) : (do eqGuard .gtr 2 x y (.int .i64 a) (.int .i64 b); binOp .gtr 2 (.int .i64 a) (.int .i64 b)).run Try.prog w = .ok (.bool r) w := by
  subst h; kernel_rfl
theorem lenm {b n : Nat} {f : Int → Option Nat} (hM : OM w b f n) (ρ : Operand → Value) (x : Operand) (hx : ρ x = .map (some b)) (dst : Option Tmp) (type : TypeId) (pos : String) (after : Array Edge) (guard : Option (Nat × Bool)) : (execOp ρ { dst, op := .call { callee := .builtin .len, args := #[x], argTypes := #[66] }, type, pos, after, guard }).run Try.prog w = .ok (.value (.int .i64 (n : Int))) w := by
  unfold execOp
  simp only [resolve, invoke, builtin, Sem.run_bind, Sem.run_pure, Result.andThen_ok, List.map_toArray, List.map_cons, List.map_nil, hx, hM.len]
theorem made_n {w : World} (hS : HS D w t mb R root lk) : Calls Try.prog 30 #[pt t 0] w fun e w' => e = .returned (.bool true) ∧ Mo w w' := by
  refine w_enter 12 Try.func30 Try.ntmps30 rfl rfl ?_
  have M : Mo w w := Mo.refl _
  refine w_seq ?_
  refine w_reg ?_
  refine wl_mv (.const (.bool false)) (.bool false) (fun _ => rfl) rfl rfl ?_
  refine w_nil ?_
  refine xn_then ?_
  refine w_seq ?_
  refine w_reg ?_
  refine wl_mv (.tmp 0) (pt t 0) (fun _ => rfl) rfl rfl ?_
  refine wl_bin (fun x y => do eqGuard .neq 24 (.tmp 3) (.const (.pointer none)) x y; binOp .neq 24 x y) (.tmp 3) (.const (.pointer none)) (pt t 0) (pp none) (.bool true) (fun _ => rfl) rfl rfl (neT t _ _ _) rfl ?_
  refine wl_mv (.tmp 4) (.bool true) (fun _ => rfl) rfl rfl ?_
  refine wl_mv (.tmp 0) (pt t 0) (fun _ => rfl) rfl rfl ?_
  refine wl_nc (.tmp 6) t 0 rfl rfl rfl ?_
  refine wl_un (fun v => Instr.fieldAt 68 v 2) (.tmp 7) (pt t 0) (pt t 2) (fun _ => rfl) rfl (by kernel_rfl) rfl ?_
  refine wl_load 66 (.tmp 8) (pt t 2) (.map (some mb.m)) rfl rfl (run_one hS.tr 66 2 rfl Try.underlying66 rfl) rfl ?_
  refine wl_bin (fun x y => do eqGuard .neq 66 (.tmp 9) (.const (.map none)) x y; binOp .neq 66 x y) (.tmp 9) (.const (.map none)) (.map (some mb.m)) (.map none) (.bool true) (fun _ => rfl) rfl rfl (neM mb.m _ _ _) rfl ?_
  refine wl_pick (.tmp 5) (.tmp 10) (.const (.bool false)) true (.bool true) (fun _ => rfl) rfl rfl rfl ?_
  refine wl_mv (.tmp 11) (.bool true) (fun _ => rfl) rfl rfl ?_
  refine w_nil ?_
  refine xn_then ?_
  refine w_ret ?_
  exact w_ret1 _ (.bool true) rfl rfl ⟨rfl, M⟩
theorem len_n {w : World} {f : Int → Option Nat} {n : Nat} (hS : HS D w t mb R root lk) (hM : OM w mb.m f n) : Calls Try.prog 10 #[pt t 0] w fun e w' => e = .returned (.int .i64 (n : Int)) ∧ Mo w w' := by
  refine w_enter 11 Try.func10 Try.ntmps10 rfl rfl ?_
  have M : Mo w w := Mo.refl _
  refine w_seq ?_
  refine w_reg ?_
  refine wl_mv (.const (.int .i64 (0))) (.int .i64 (0)) (fun _ => rfl) rfl rfl ?_
  refine w_nil ?_
  refine xn_then ?_
  refine w_seq ?_
  refine w_seq ?_
  refine w_reg ?_
  refine wl_mv (.tmp 0) (pt t 0) (fun _ => rfl) rfl rfl ?_
  refine wl_call 30 [(.tmp 3)] _ [pt t 0] (.bool true) rfl rfl (fun _ _ => by kernel_rfl) (made_n hS) rfl ?_
  intro w1 hq
  replace hS := hS.mo hq
  replace hM := hM.mo hq
  replace M := M.trans hq
  clear hq
  refine wl_un (fun v => Op.unary .not v) (.tmp 4) (.bool true) (.bool false) (fun _ => rfl) rfl (by kernel_rfl) rfl ?_
  refine w_nil ?_
  refine xn_then ?_
  refine w_condF rfl ?_
  refine w_skip ?_
  refine xn_then ?_
  refine w_seq ?_
  refine w_reg ?_
  refine wl_mv (.tmp 0) (pt t 0) (fun _ => rfl) rfl rfl ?_
  refine wl_nc (.tmp 6) t 0 rfl rfl rfl ?_
  refine wl_un (fun v => Instr.fieldAt 68 v 2) (.tmp 7) (pt t 0) (pt t 2) (fun _ => rfl) rfl (by kernel_rfl) rfl ?_
  refine wl_load 66 (.tmp 8) (pt t 2) (.map (some mb.m)) rfl rfl (run_one hS.tr 66 2 rfl Try.underlying66 rfl) rfl ?_
  refine wl_val (.int .i64 ((n : Int))) (lenm hM _ _ (by exact rfl) _ _ _ _ _) rfl ?_
  refine wl_mv (.tmp 10) (.int .i64 ((n : Int))) (fun _ => rfl) rfl rfl ?_
  refine w_nil ?_
  refine xn_then ?_
  refine w_ret ?_
  exact w_ret1 _ (.int .i64 ((n : Int))) rfl rfl ⟨rfl, M⟩
theorem FT.lkd {w' : World} {tr : T} {lk' : Int} (h : FT D w t mb tr lk) (hT : TS D w' t mb [] tr lk') (hM : OM w' mb.m (adr tr.kv) tr.kv.length) (hl : lk ≤ lk') : FT D w' t mb tr lk' := ⟨hT, hM, h.ok, h.nd, h.rg, h.le, Int.le_trans h.l0 hl, h.hm⟩
end
end G
end Go.Proofs.Ythfemlhmnjfjiaa
